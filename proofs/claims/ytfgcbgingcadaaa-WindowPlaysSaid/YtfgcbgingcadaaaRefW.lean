/- The document's own window (pontoonref1): its contracts. Own work. -/
import Derived.Test.YtfgcbgingcadaaaWinAt
import Derived.Test.YtfgcbgingcadaaaInfoI
import Derived.Test.YtfgcbgingcadaaaBufs
import Derived.IntWalk
import Derived.Deep.QuietTactic
import Derived.BigQuiet
import Derived.Deep.DeepCutAuto
import Derived.RegionCalls
import Derived.Deep.RegionWith
namespace Go.Proofs.Ytfgcbgingcadaaa
set_option linter.unusedVariables false
set_option linter.unusedSimpArgs false
open Go.RowKit

/-- The document's window at an address: its top, and the list of what came. -/
structure RefAt (w : World) (p o : Nat) (t : Int) (A : Option Addr) (c : Nat) (g : List Int) : Prop where
  c0 : w.cell? ⟨p, o, none⟩ = some (.int .i64 t)
  c1 : w.cell? ⟨p, o + 1, none⟩ = some (.slice A g.length c)
  f0 : w.frozen? ⟨p, o, none⟩ = false
  f1 : w.frozen? ⟨p, o + 1, none⟩ = false
  buf : Buf w A g.length c (g.map (Value.int .i64))
  ne : ∀ k, blk A = some k → p ≠ k

theorem RefAt.lt {w : World} {p o : Nat} {t : Int} {A : Option Addr} {c : Nat} {g : List Int} (h : RefAt w p o t A c g) : p < w.heap.size := World.block_lt_of_cell? w _ h.c0

theorem RefAt.keep {S : Nat → Prop} {w w' : World} {p o : Nat} {t : Int} {A : Option Addr} {c : Nat} {g : List Int} (h : RefAt w p o t A c g) (k : Keep S w w') (h1 : ¬ S p) (h2 : ∀ i, blk A = some i → ¬ S i) : RefAt w' p o t A c g :=
  ⟨(k.cell (p := ⟨p, o, none⟩) h.lt h1).trans h.c0, (k.cell (p := ⟨p, o + 1, none⟩) h.lt h1).trans h.c1, (k.frozen (p := ⟨p, o, none⟩) h.lt h1).trans h.f0, (k.frozen (p := ⟨p, o + 1, none⟩) h.lt h1).trans h.f1, h.buf.keep k h2, h.ne⟩

/-- The i-th of the numbers. -/
theorem RefAt.at {w : World} {p o : Nat} {t : Int} {A : Option Addr} {c : Nat} {g : List Int} (h : RefAt w p o t A c g) {k : Nat} (hk : k < g.length) : ∃ x b off, g[k]? = some x ∧ A = some ⟨b, off, none⟩ ∧ w.cell? ⟨b, off + k, none⟩ = some (.int .i64 x) ∧ p ≠ b ∧ b < w.heap.size := by
  obtain ⟨b, off, rfl, hb, row⟩ := h.buf.some_of (by omega)
  have hx : g[k]? = some g[k] := List.getElem?_eq_getElem hk
  exact ⟨g[k], b, off, hx, rfl, row.val k _ (by rw [List.getElem?_map, hx]; rfl), h.ne b rfl, hb⟩

set_option maxRecDepth 100000 in
set_option maxHeartbeats 1600000 in
theorem ref_fresh (p o : Nat) (t : Int) (A : Option Addr) (c : Nat) (g : List Int) (n : Int) (w : World) (h : RefAt w p o t A c g) (h0 : 0 ≤ t) (h1 : t ≤ 4611686018427387904) (hl : g.length ≤ 1000000) :
    Calls Try.prog 9 #[.pointer (some ⟨p, o, none⟩), .int .i64 n] w fun e w' => e = .returned (.bool (freshL t g n)) ∧ w = w' := by
  have H := Lib.hid h
  have c0 := h.c0
  have c1 := h.c1
  clear h
  by_cases n1 : 1 ≤ n
  rotate_left
  · have E : Hid (freshL t g n = false) := Lib.hid (by unfold freshL; simp [n1])
    have d1 : decide (n < 1) = true := by simp; omega
    go_enter Try.func9, Try.ntmps9
    go_wp2_with fail
    go_ret
    exact ⟨by rw [E.out]; rfl, rfl⟩
  have d1 : decide (n < 1) = false := by simp; omega
  by_cases n2 : n ≤ 4611686018427387904
  rotate_left
  · have E : Hid (freshL t g n = false) := Lib.hid (by unfold freshL; simp [n2])
    have d2 : decide (4611686018427387904 < n) = true := by simp; omega
    go_enter Try.func9, Try.ntmps9
    go_wp2_with fail
    go_ret
    exact ⟨by rw [E.out]; rfl, rfl⟩
  have d2 : decide (4611686018427387904 < n) = false := by simp; omega
  by_cases n3 : t - 64 < n
  rotate_left
  · have E : Hid (freshL t g n = false) := Lib.hid (by unfold freshL; simp [n3])
    have d3 : decide (n ≤ t - 64) = true := by simp; omega
    go_enter Try.func9, Try.ntmps9
    go_wp2_with fail
    go_ret
    exact ⟨by rw [E.out]; rfl, rfl⟩
  have d3 : decide (n ≤ t - 64) = false := by simp; omega
  have E : Hid (freshL t g n = decide (n ∉ g)) := Lib.hid (by unfold freshL; simp [n1, n2, n3])
  go_enter Try.func9, Try.ntmps9
  go_wp2_with fail
  go_loop [5] (fun i => ∃ k : Nat, i = .int .i64 k ∧ k ≤ g.length ∧ Hid (n ∉ g.take k)) (fun i => g.length - (intOf i).toNat)
  case atStart => exact ⟨0, rfl, by omega, Lib.hid (by simp)⟩
  case round =>
    obtain ⟨k, rfl, hk, HN⟩ := hrel
    by_cases hlt : k < g.length
    · obtain ⟨x, b, off, hx, rfl, rx, hpb, hbl⟩ := H.out.at hlt
      have HX := Lib.hid hx
      clear hx
      by_cases hxn : x = n
      · subst hxn
        have hm : Hid (freshL t g x = false) := Lib.hid (by rw [E.out]; simpa using List.mem_of_getElem? HX.out)
        go_wp2_with fail
        go_ret
        exact ⟨by rw [hm.out]; rfl, rfl⟩
      · have e1 : (x == n) = false := by simpa using hxn
        have hm : Hid (n ∉ g.take (k + 1)) := Lib.hid (by
          rw [take_next HX.out]
          intro hh
          rcases List.mem_append.1 hh with q | q
          · exact HN.out q
          · exact hxn (by have : n = x := by simpa using q
                          exact this.symm))
        clear hxn
        go_wp2_with fail
        go_round
        case rel => exact ⟨k + 1, by go_num, by omega, hm⟩
        case measure => simp [intOf]; omega
    · have hm : Hid (freshL t g n = true) := Lib.hid (by
        have := HN.out
        rw [List.take_of_length_le (by omega)] at this
        rw [E.out]
        simpa using this)
      go_wp2_with fail
      go_ret
      exact ⟨by rw [hm.out]; rfl, rfl⟩

theorem or_next {t x : Int} {g : List Int} {k : Nat} (hx : g[k]? = some x) (hg : GotOk t g) : bits .or .u64 ((bitsF t (g.take k) : Nat) : Int) (IntKind.u64.wrap (2 ^ (t - x).toNat)) = ((bitsF t (g.take (k + 1)) : Nat) : Int) := by
  have hm := hg.all x (List.mem_of_getElem? hx)
  have hlt : 2 ^ (t - x).toNat < 18446744073709551616 := by
    have e64 : (18446744073709551616 : Nat) = 2 ^ 64 := by decide
    rw [e64]
    exact Nat.pow_lt_pow_right (by omega) (by omega)
  have hb : bitsF t (g.take k) < 18446744073709551616 := bits_lt ⟨hg.lo, hg.hi, fun y hy => hg.all y (List.mem_of_mem_take hy)⟩
  have e0 : IntKind.u64.wrap (2 ^ (t - x).toNat) = ((2 ^ (t - x).toNat : Nat) : Int) := by
    have : ((2 : Int) ^ (t - x).toNat) = ((2 ^ (t - x).toNat : Nat) : Int) := by simp
    rw [this]
    generalize 2 ^ (t - x).toNat = y at hlt
    simp only [IntKind.wrap, IntKind.bits, IntKind.signed]
    simp
    omega
  rw [e0, u64_or_nat _ _ hb hlt, take_next hx, bitsF_snoc]

set_option maxRecDepth 100000 in
set_option maxHeartbeats 1600000 in
theorem ref_bits (p o : Nat) (t : Int) (A : Option Addr) (c : Nat) (g : List Int) (w : World) (h : RefAt w p o t A c g) (hg : GotOk t g) (hl : g.length ≤ 1000000) :
    Calls Try.prog 12 #[.pointer (some ⟨p, o, none⟩)] w fun e w' => e = .returned (.int .u64 ((bitsF t g : Nat) : Int)) ∧ ∃ k, w' = w.drewN k := by
  have H := Lib.hid h
  have HG := Lib.hid hg
  have c0 := h.c0
  have c1 := h.c1
  have h0 := hg.lo
  have h1 := hg.hi
  clear h hg
  go_enter Try.func12, Try.ntmps12
  go_wp2_with fail
  go_loopw [3, 4] (fun b i wr => ∃ k q : Nat, i = .int .i64 k ∧ k ≤ g.length ∧ b = .int .u64 ((bitsF t (g.take k) : Nat) : Int) ∧ wr = w.drewN q) (fun _ i _ => g.length - (intOf i).toNat)
  case atStart => exact ⟨0, 0, rfl, by omega, rfl, rfl⟩
  case round =>
    obtain ⟨k, q, rfl, hk, rfl, rfl⟩ := hrel
    by_cases hlt : k < g.length
    · obtain ⟨x, b, off, hx, rfl, rx, hpb, hbl⟩ := H.out.at hlt
      have hxa := HG.out.all x (List.mem_of_getElem? hx)
      have EN := or_next hx HG.out
      have i1 : IntKind.i64.wrap (t - x) = t - x := IntWalk.i64_in _ (by omega)
      have i2 : x ≤ t := hxa.2.1
      have i4 : 0 ≤ t - x := by omega
      have i3 : min (t - x).toNat 64 = (t - x).toNat := Nat.min_eq_left (by omega)
      clear hx hxa
      go_wp2_with fail
      go_quiet (fail)
      clear i1 i2 i3 i4 EN
      go_wp2_with fail
      go_roundw
      case rel => exact ⟨k + 1, _, by go_num, by omega, rfl, rfl⟩
      case measure => simp [intOf]; omega
    · have hm : Hid (g.take k = g) := Lib.hid (List.take_of_length_le (by omega))
      go_wp2_with fail
      go_ret
      exact ⟨by rw [hm.out]; rfl, _, rfl⟩

end Go.Proofs.Ytfgcbgingcadaaa
