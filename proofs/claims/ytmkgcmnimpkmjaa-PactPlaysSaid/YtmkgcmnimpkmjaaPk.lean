/- A Pact, as the laws have it; the law's first call. Own work. -/
import Derived.Test.YtmkgcmnimpkmjaaPactF
import Derived.Test.YtmkgcmnimpkmjaaPactS
import Derived.Test.YtmkgcmnimpkmjaaPactN
namespace Go.Proofs.Ytmkgcmnimpkmjaa
set_option linter.unusedVariables false
set_option linter.unusedSimpArgs false
open Go.RowKit

/-- A Pact of the law's own: its blocks lie from B on. -/
structure Pk (B : Nat) (w : World) (p : Nat) (L : Blk) (name : ByteArray) (m : Pm) : Prop where
  ac : PactAt w p L name (if m.started then 1 else 0) 0 m
  ok : m.Ok
  nm : name.size ≤ 30
  lo : B ≤ p ∧ B ≤ L.b1 ∧ B ≤ L.b2

namespace Pk
variable {B : Nat} {w w' : World} {p : Nat} {L : Blk} {name : ByteArray} {m : Pm}
theorem le (h : Pk B w p L name m) : B ≤ w.heap.size := by have := h.ac.lt; have := h.lo.1; omega
theorem base (h : Pk B w p L name m) (k : Keep (pown p L) w w') : Below B w w' := k.below h.le (fun i hi e => by
  have := h.lo
  rcases e with e | e | e <;> omega)
theorem below (h : Pk B w p L name m) (k : Below w.heap.size w w') : Pk B w' p L name m := ⟨h.ac.below k, h.ok, h.nm, h.lo⟩
theorem alloc (h : Pk B w p L name m) (o : Obj) : Pk B (w.alloc o) p L name m := ⟨h.ac.alloc o, h.ok, h.nm, h.lo⟩
theorem drew (h : Pk B w p L name m) : Pk B w.drew p L name m := ⟨h.ac.drew, h.ok, h.nm, h.lo⟩
theorem drewN (h : Pk B w p L name m) (n : Nat) : Pk B (w.drewN n) p L name m := ⟨h.ac.drewN n, h.ok, h.nm, h.lo⟩
theorem keep {S : Nat → Prop} (h : Pk B w p L name m) (k : Keep S w w') (hn : ∀ i, i = p ∨ i = L.q1 ∨ i = L.q2 ∨ i = L.b1 ∨ i = L.b2 → ¬ S i) : Pk B w' p L name m := ⟨h.ac.keep k hn, h.ok, h.nm, h.lo⟩
end Pk

section
variable {B : Nat} {w : World} {p : Nat} {L : Blk} {name : ByteArray} {m : Pm}

theorem pk_new (name : ByteArray) (q : Nat) (hq : min (name.size : Int) 30 = (q : Int)) (a b : Int) (w : World) (B : Nat) (hB : B ≤ w.heap.size) :
    Calls Try.prog 9 #[.string name, .int .i64 a, .int .i64 b] w fun e w' => ∃ p L, e = .returned (.pointer (some ⟨p, 0, none⟩)) ∧ Pk B w' p L (name.extract 0 q) (Pm.new a b) ∧ Below w.heap.size w w' := by
  refine (new_any name q hq (by omega) (by omega) a b w).mono ?_
  rintro e w1 ⟨p, L, rfl, hl, h, hb⟩
  exact ⟨p, L, rfl, ⟨h, Pm.Ok.new a b, by rw [ByteArray.size_extract]; omega, by omega⟩, hb⟩

theorem pk_take (h : Pk B w p L name m) (k cmd o : Int) (s : ByteArray) (h0 : -9223372036854775808 ≤ o) (h1 : o ≤ 9223372036854775807) (hg : m.g < 100000) (hs : m.sent < 100000) :
    Calls Try.prog 15 #[.pointer (some ⟨p, 0, none⟩), .agg #[.int .i64 k, .int .i64 cmd, .int .i64 o, .string s]] w fun e w' =>
      e = .returned (.string ⟨(m.takeT name.data.toList k cmd o s.data.toList).toArray⟩) ∧ Pk B w' p L name (m.take k cmd o) ∧ Below B w w' ∧ Keep (pown p L) w w' := by
  refine (take_any p L name _ 0 m w k cmd o s h.ac h.ok h.nm h0 h1 (by omega) (by omega)).mono ?_
  rintro e w1 ⟨rfl, h2, h3⟩
  refine ⟨rfl, ⟨?_, h.ok.take k cmd o, h.nm, h.lo⟩, h.base h3, h3⟩
  rw [(m.take_sent k cmd o).2.2]
  exact h2

theorem pk_size (h : Pk B w p L name m) (a b : Int) :
    Calls Try.prog 11 #[.pointer (some ⟨p, 0, none⟩), .int .i64 a, .int .i64 b] w fun e w' => e = .returned (.string ⟨(m.sizeT a b).toArray⟩) ∧ Pk B w' p L name (m.size a b) ∧ Below B w w' ∧ Keep (pown p L) w w' := by
  refine (size_any p L name _ 0 m w a b h.ac h.ok).mono ?_
  rintro e w1 ⟨rfl, h2, h3⟩
  refine ⟨rfl, ⟨?_, h.ok.size a b, h.nm, h.lo⟩, h.base h3, h3⟩
  rw [(m.size_sent a b).2.2]
  exact h2

theorem pk_start (h : Pk B w p L name m) (hg : m.g < 100000) (hs : m.sent < 100000) :
    Calls Try.prog 13 #[.pointer (some ⟨p, 0, none⟩)] w fun e w' => e = .returned (.string ⟨m.startT.toArray⟩) ∧ Pk B w' p L name m.start ∧ Below B w w' ∧ Keep (pown p L) w w' := by
  refine (start_any p L name m w h.ac h.ok (by omega) (by omega)).mono ?_
  rintro e w1 ⟨rfl, h2, h3⟩
  exact ⟨rfl, ⟨h2, h.ok.start, h.nm, h.lo⟩, h.base h3, h3⟩
end

theorem alive_start : (Pm.new 10 4).startT = [255, 251, 31, 255, 253, 3] := by decide +kernel
theorem alive_take : (Pm.new 10 4).start.takeT [] 2 253 99 [] = [255, 252, 99] := by decide +kernel
theorem alive_takeN (n : List UInt8) : (Pm.new 10 4).start.takeT n 2 253 99 [] = [255, 252, 99] := by
  have : (Pm.new 10 4).start.takeT n 2 253 99 [] = (Pm.new 10 4).start.takeT [] 2 253 99 [] := rfl
  rw [this, alive_take]
theorem alive_sent : ((Pm.new 10 4).start.take 2 253 99).sent = 3 := by decide +kernel
theorem alive_small : (Pm.new 10 4).start.g < 100000 ∧ (Pm.new 10 4).start.sent < 100000 := by decide +kernel

set_option maxRecDepth 100000 in
set_option maxHeartbeats 1600000 in
theorem alive_any (w : World) : Calls Try.prog 8 #[] w fun e w' => e = .returned (.bool true) ∧ Below w.heap.size w w' := by
  have HN := Lib.hid (pk_new ⟨#[118, 116, 49, 48, 48]⟩ 5 (by decide) 10 4 w w.heap.size (Nat.le_refl _))
  go_enter Try.func8, Try.ntmps8
  go_wp2_with fail
  refine HN.out.mono ?_
  rintro e w1 ⟨p, L, rfl, h1, hb⟩
  have hs := pk_start h1 (by decide) (by decide)
  rw [alive_start] at hs
  have HS := Lib.hid hs
  have HB := Lib.hid hb
  clear hs hb h1 HN
  go_wp2_with fail
  refine HS.out.mono ?_
  rintro e w2 ⟨rfl, h2, hb, _⟩
  have ht := pk_take h2 2 253 99 ⟨#[]⟩ (by omega) (by omega) alive_small.1 alive_small.2
  rw [show (⟨#[]⟩ : ByteArray).data.toList = [] from rfl, alive_takeN] at ht
  have HT := Lib.hid ht
  have HB2 := Lib.hid (HB.out.trans hb)
  clear ht hb h2 HS
  go_wp2_with fail
  refine HT.out.mono ?_
  rintro e w3 ⟨rfl, h3, hb, _⟩
  have hn := psent p L _ _ 0 _ w3 h3.ac
  rw [alive_sent] at hn
  have HN := Lib.hid hn
  have HB3 := Lib.hid (HB2.out.trans hb)
  clear hn hb h3 HT
  go_wp2_with fail
  refine HN.out.mono ?_
  rintro e w4 ⟨rfl, rfl⟩
  go_wp2_with fail
  go_ret
  exact ⟨rfl, HB3.out⟩

end Go.Proofs.Ytmkgcmnimpkmjaa
