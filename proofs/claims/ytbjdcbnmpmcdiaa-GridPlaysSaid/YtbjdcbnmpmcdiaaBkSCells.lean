/- pontoonbook.Book: Cells: marks, what is alike. By program (bkplain.py). Own work. -/
import Derived.Test.YtbjdcbnmpmcdiaaBkFlat
import Derived.Test.YtbjdcbnmpmcdiaaBookName
import Derived.Deep.QuietTactic
import Derived.BigQuiet
namespace Go.Proofs.Ytbjdcbnmpmcdiaa
set_option linter.unusedVariables false
set_option linter.unusedSimpArgs false
open Go.RowKit

def markC (i k : Nat) : Int := -1000 * (i : Int) - (k : Int) - 1
/-- An element. -/
structure CellR where
  rune : Int
  fg : Int
  bg : Int
  bold : Bool
  under : Bool
  inv : Bool
def CellREnc (r : CellR) : List Value := [.int .i32 r.rune, .int .i64 r.fg, .int .i64 r.bg, .bool r.bold, .bool r.under, .bool r.inv]
def mkrCells (i k : Nat) : CellR := ⟨markC i k, 0, 0, false, false, false⟩
def mkCells (i k : Nat) : List Value := CellREnc (mkrCells i k)
theorem mkshape_Cells (i k : Nat) : ∃ m, mkCells i k = [(.int .i32 m), (.int .i64 0), (.int .i64 0), (.bool false), (.bool false), (.bool false)] := ⟨_, rfl⟩
theorem one_Cells (r : CellR) : ∀ u ∈ CellREnc r, u.oneCell' = true := by
  intro u hu
  simp only [CellREnc, List.mem_cons, List.not_mem_nil, or_false] at hu
  rcases hu with rfl | rfl | rfl | rfl | rfl | rfl <;> rfl
theorem mkok_Cells : MarkOk 6 mkCells := ⟨by decide, fun _ _ => rfl, fun _ _ => one_Cells _⟩
theorem info_Cells : (Try.prog.info? 42).map (fun i => (i.zero, i.size, i.bytes)) = some (some (.agg #[.int .i32 0, .int .i64 0, .int .i64 0, .bool false, .bool false, .bool false]), 6, 32) := by kernel_rfl

set_option maxRecDepth 100000 in
set_option maxHeartbeats 800000 in
theorem marks_Cells (i f n : Nat) (w : World) (hi : i ≤ 1000000) (hf : f + n ≤ 1000000) :
    Calls Try.prog 106 #[.int .i64 i, .int .i64 f, .int .i64 n] w fun e w' => ∃ v, e = .returned v ∧ w'.ownsRow w.heap.size 42 6 v n (marksZ mkCells i f n) ∧ Below w.heap.size w w' := by
  obtain ⟨i0, hi0, hz0, hz1, hz2⟩ := info_parts info_Cells
  go_enter Try.func106, Try.ntmps106
  go_wp2_with fail
  go_loopw [7, 8] (fun v x wr => ∃ k : Nat, k ≤ n ∧ x = .int .i64 ((f + k : Nat) : Int) ∧ Hid (wr.ownsRow w.heap.size 42 6 v k (marksZ mkCells i f k)) ∧ Hid (Below w.heap.size w wr)) (fun _ x _ => f + n - (intOf x).toNat)
  case atStart => exact ⟨0, Nat.zero_le _, rfl, World.ownsRow_nil _ _ _ _, Below.refl _ _⟩
  case round =>
    obtain ⟨k, hk, rfl, HO, HB⟩ := hrel
    by_cases hlt : k < n
    · have hfk : f + k ≤ 1000000 := by omega
      obtain ⟨w1, rfl⟩ : ∃ w1 : World, w1 = wr := ⟨_, rfl⟩
      have HB1 := HB
      have HO1 := HO
      have hs1 : w.heap.size ≤ w1.heap.size := HB1.out.size
      obtain ⟨m, hm⟩ : ∃ m, markC i (f + k) = m := ⟨_, rfl⟩
      have hw : IntKind.i32.wrap (-1000 * (i : Int) - ((f : Int) + (k : Int)) - 1) = m := by
        rw [← hm, show markC i (f + k) = -1000 * (i : Int) - ((f : Int) + (k : Int)) - 1 from by simp [markC], IntKind.wrap_i32]; omega
      have HMM := Lib.hid hm
      clear hm
      go_wp2_with (at_builtin; refine wpList_own_at _ rfl (.tmp 17) (.tmp 25) 43 rfl w.heap.size 42 i0 (.agg #[.int .i32 0, .int .i64 0, .int .i64 0, .bool false, .bool false, .bool false]) 6 32 Try.underlying43 hi0 hz0 hz1 hz2 rfl (by decide) _ k (marksZ mkCells i f k) rfl (own_keep HO1.out ((Keep.refl (fun _ => False) w1).alloc _) (fun _ _ x => x)) ⟨w1.heap.size, 0, none⟩ 1 1 ([(.int .i32 m), (.int .i64 0), (.int .i64 0), (.bool false), (.bool false), (.bool false)]) rfl rfl (cells_new w1 ([(.int .i32 m), (.int .i64 0), (.int .i64 0), (.bool false), (.bool false), (.bool false)]) _ _ rfl) (by intro u hu; first | exact one_Cells _ u hu | (simp at hu; rcases hu with rfl | rfl | rfl <;> rfl)) ?c3 ?c4 ?c5 ?_)
      case c3 => unfold maxLen; omega
      case c4 => omega
      case c5 => simp; omega
      · intro v' w2 hown hgrow _
        have HO2 : Hid (w2.ownsRow w.heap.size 42 6 v' (k + 1) (marksZ mkCells i f (k + 1))) := by
          show World.ownsRow _ _ _ _ _ _ _
          rw [marksZ_succ]
          have e : mkCells i (f + k) = [(.int .i32 m), (.int .i64 0), (.int .i64 0), (.bool false), (.bool false), (.bool false)] := by rw [← HMM.out]; rfl
          rw [e]
          exact hown
        have HB2 : Hid (Below w.heap.size w w2) := Lib.hid ((HB1.out.alloc hs1 _).trans (hgrow.below (by simp; omega) (fun q hq e => by have := (HO1.out.lt q e).1; omega)))
        clear hown hgrow
        go_wp2_with fail
        go_roundw
        case rel => exact ⟨k + 1, by omega, by go_num, HO2, HB2⟩
        case measure => simp [intOf]; omega
    · have e : k = n := by omega
      have HO2 : Hid (wr.ownsRow w.heap.size 42 6 u7 n (marksZ mkCells i f n)) := by
        show World.ownsRow _ _ _ _ _ _ _
        rw [← e]; exact HO.out
      clear e HO
      go_wp2_with fail
      go_ret
      exact ⟨_, rfl, HO2.out, HB.out⟩

/-- Two lists are alike. -/
def SmCells (rd : Nat → Prop) (w : World) (us vs : List Value) : Prop := ∃ rs : List CellR, us = rs.flatMap CellREnc ∧ vs = rs.flatMap CellREnc
theorem smkept_Cells (rd : Nat → Prop) : SmKept (SmCells rd) rd := fun _ _ _ _ _ _ _ h => h
theorem weaker_Cells {rd rd' : Nat → Prop} {w : World} {us vs : List Value} (h : SmCells rd w us vs) (hs : ∀ i, rd i → rd' i) : SmCells rd' w us vs := h
theorem marks_is_Cells (i f n : Nat) : marksZ mkCells i f n = ((List.range n).map fun j => mkrCells i (f + j)).flatMap CellREnc := by simp [marksZ, List.flatMap_map, mkCells]
theorem smmark_Cells (rd : Nat → Prop) (w : World) (i n : Nat) : SmCells rd w (marksZ mkCells i 0 n) (marksZ mkCells i 0 n) := ⟨_, marks_is_Cells i 0 n, marks_is_Cells i 0 n⟩

set_option maxRecDepth 100000 in
set_option maxHeartbeats 1600000 in
theorem same'_Cells (rd : Nat → Prop) (A B : Option Addr) (n c d : Nat) (us vs : List Value) (w : World) (hA : Src w A (n * 6) us) (hB : Src w B (n * 6) vs) (h : SmCells rd w us vs) (hn : n ≤ 1099511627776) :
    Calls Try.prog 32 #[.slice A n c, .slice B n d] w fun e w' => e = .returned (.bool true) ∧ ∃ k, w' = w.drewN k := by
  obtain ⟨rs, rfl, rfl⟩ := h
  have hl : rs.length = n := by have := hA.1; rw [flat_len CellREnc 6 (fun _ => rfl)] at this; omega
  have HA := Lib.hid hA
  have HB := Lib.hid hB
  have HL := Lib.hid hl
  clear hA hB hl
  go_enter Try.func32, Try.ntmps32
  go_wp2_with fail
  go_loopw [5] (fun i wr => ∃ (k q : Nat), i = .int .i64 k ∧ k ≤ n ∧ wr = w.drewN q) (fun i _ => n - (intOf i).toNat)
  case atStart => exact ⟨0, 0, rfl, by omega, rfl⟩
  case round =>
    obtain ⟨k, q, rfl, hk, rfl⟩ := hrel
    by_cases hlt : k < n
    · obtain ⟨r, hr⟩ : ∃ r, rs[k]? = some r := ⟨rs[k]'(by rw [HL.out]; exact hlt), List.getElem?_eq_getElem _⟩
      obtain ⟨b1, o1, rfl, _, hc1⟩ := HA.out.2 (by omega)
      obtain ⟨b2, o2, rfl, _, hc2⟩ := HB.out.2 (by omega)
      have x10 : w.cell? ⟨b1, o1 + k * 6, none⟩ = some (.int .i32 r.rune) := hc1 _ _ (flat_at CellREnc 6 (fun _ => rfl) rs k 0 r hr (by omega))
      have x11 : w.cell? ⟨b1, o1 + k * 6 + 1, none⟩ = some (.int .i64 r.fg) := hc1 _ _ (flat_at CellREnc 6 (fun _ => rfl) rs k 1 r hr (by omega))
      have x12 : w.cell? ⟨b1, o1 + k * 6 + 2, none⟩ = some (.int .i64 r.bg) := hc1 _ _ (flat_at CellREnc 6 (fun _ => rfl) rs k 2 r hr (by omega))
      have x13 : w.cell? ⟨b1, o1 + k * 6 + 3, none⟩ = some (.bool r.bold) := hc1 _ _ (flat_at CellREnc 6 (fun _ => rfl) rs k 3 r hr (by omega))
      have x14 : w.cell? ⟨b1, o1 + k * 6 + 4, none⟩ = some (.bool r.under) := hc1 _ _ (flat_at CellREnc 6 (fun _ => rfl) rs k 4 r hr (by omega))
      have x15 : w.cell? ⟨b1, o1 + k * 6 + 5, none⟩ = some (.bool r.inv) := hc1 _ _ (flat_at CellREnc 6 (fun _ => rfl) rs k 5 r hr (by omega))
      have x20 : w.cell? ⟨b2, o2 + k * 6, none⟩ = some (.int .i32 r.rune) := hc2 _ _ (flat_at CellREnc 6 (fun _ => rfl) rs k 0 r hr (by omega))
      have x21 : w.cell? ⟨b2, o2 + k * 6 + 1, none⟩ = some (.int .i64 r.fg) := hc2 _ _ (flat_at CellREnc 6 (fun _ => rfl) rs k 1 r hr (by omega))
      have x22 : w.cell? ⟨b2, o2 + k * 6 + 2, none⟩ = some (.int .i64 r.bg) := hc2 _ _ (flat_at CellREnc 6 (fun _ => rfl) rs k 2 r hr (by omega))
      have x23 : w.cell? ⟨b2, o2 + k * 6 + 3, none⟩ = some (.bool r.bold) := hc2 _ _ (flat_at CellREnc 6 (fun _ => rfl) rs k 3 r hr (by omega))
      have x24 : w.cell? ⟨b2, o2 + k * 6 + 4, none⟩ = some (.bool r.under) := hc2 _ _ (flat_at CellREnc 6 (fun _ => rfl) rs k 4 r hr (by omega))
      have x25 : w.cell? ⟨b2, o2 + k * 6 + 5, none⟩ = some (.bool r.inv) := hc2 _ _ (flat_at CellREnc 6 (fun _ => rfl) rs k 5 r hr (by omega))
      have hki : ((k : Int) < (n : Int)) := by omega
      have hk0 : (0 : Int) ≤ (k : Int) := by omega
      obtain ⟨r0, r1, r2, r3, r4, r5⟩ := r
      simp only at x10 x11 x12 x13 x14 x15 x20 x21 x22 x23 x24 x25
      clear hc1 hc2 hr
      go_wp2_with fail
      go_quiet (fail)
      go_wp2_with fail
      go_roundw
      case rel => exact ⟨k + 1, _, by go_num, by omega, rfl⟩
      case measure => simp [intOf]; omega
    · go_wp2_with fail
      go_ret
      exact ⟨rfl, q, rfl⟩

end Go.Proofs.Ytbjdcbnmpmcdiaa
