/- chart: Map, Known, and the document's. Own work. -/
import Derived.Test.YthmogbldfecckaaChartR
import Derived.Deep.Cut
namespace Go.Proofs.Ythmogbldfecckaa
set_option linter.unusedVariables false
set_option linter.unusedSimpArgs false
open Go.RowKit

theorem wpList_built {P : Program} {ops : Array Oper} {rest : List Oper} {o : Oper} {a : Act} {w : World} {Q : Exit → Act → World → Prop} (hgd : o.guard = none) (t : TypeId) (parts : Array (Nat × Operand)) (ho : o.op = .build t parts) (cells : Array Value)
    (h : P.built t (parts.map fun (i, x) => (i, a.eval x)).toList = some cells) (hK : wpList P ops Q rest (a.put o.dst (.agg cells)) w) : wpList P ops Q (o :: rest) a w :=
  wpList_plain hgd fun K hK' => by
    unfold Oper.wp execOp
    simp only [ho, Sem.run_bind, run_build w t _ cells h, Result.andThen_ok]
    exact hK' _ _ hK

theorem wpList_sliced {P : Program} {ops : Array Oper} {rest : List Oper} {o : Oper} {a : Act} {w w' : World} {Q : Exit → Act → World → Prop} (hgd : o.guard = none) (t : TypeId) (len : Nat) (parts : Array (Nat × Operand)) (ho : o.op = .buildSlice t len parts) (v : Value)
    (h : (Instr.buildSlice t len (parts.map fun (i, x) => (i, a.eval x))).run P w = .ok v w') (hK : wpList P ops Q rest (a.put o.dst v) w') : wpList P ops Q (o :: rest) a w :=
  wpList_plain hgd fun K hK' => by
    unfold Oper.wp execOp
    simp only [ho, Sem.run_bind, h, Result.andThen_ok]
    exact hK' _ _ hK

theorem run_store_new {P : Program} (w : World) (t : TypeId) (Z cs : Array Value) (hz : cs.size = Z.size) (h1 : ∀ v ∈ cs.toList, v.oneCell' = true) : (storeCells ⟨w.heap.size, 0, none⟩ cs.toList).run P (w.alloc (.cells Z t)) = .ok () (w.alloc (.cells cs t)) := by
  have h := run_storeCells_from (P := P) w.heap.size t cs.toList 0 Z (w.alloc (.cells Z t)) (heap_alloc_new w _) (by simp [hz]) h1
  rw [h]
  congr 1
  unfold World.setRow World.alloc
  congr 1
  apply Array.ext
  · simp
  · intro k h2 h3
    simp only [Array.getElem_modify, Array.getElem_push]
    have h4 : k < w.heap.size + 1 := by simpa using h3
    by_cases h5 : k = w.heap.size
    · subst h5; simp
    · have : k < w.heap.size := by omega
      simp [this, Ne.symm h5]

/-- The set of lines. -/
def linesT : List Int := [32, 9670, 9618, 9225, 9228, 9229, 9226, 176, 177, 9252, 9227, 9496, 9488, 9484, 9492, 9532, 9146, 9147, 9472, 9148, 9149, 9500, 9508, 9524, 9516, 9474, 8804, 8805, 960, 8800, 163, 183]
def lineM (r : Int) : Int := if 95 ≤ r ∧ r ≤ 126 then linesT.getD (r - 95).toNat 0 else r
def mapM (s r : Int) : Int := if s = 65 ∧ r = 35 then 163 else if s = 48 then lineM r else r
def linesC : Array Value := (linesT.map (Value.int .i32)).toArray
theorem lines_at (k : Nat) (hk : k < 32) : linesC[k]? = some (.int .i32 (lineM ((k : Int) + 95))) := by
  have hl : linesT.length = 32 := rfl
  unfold lineM linesC
  rw [if_pos (by omega), show ((k : Int) + 95 - 95).toNat = k from by omega]
  simp only [List.getElem?_toArray, List.getElem?_map]
  rw [List.getElem?_eq_getElem (by rw [hl]; exact hk), Option.map_some, List.getD_eq_getElem?_getD, List.getElem?_eq_getElem (by rw [hl]; exact hk)]
  rfl
theorem lines_one : ∀ v ∈ linesC.toList, v.oneCell' = true := by
  intro v hv
  have : v ∈ linesT.map (Value.int .i32) := by simpa [linesC] using hv
  obtain ⟨x, _, rfl⟩ := List.mem_map.1 this
  rfl

set_option maxRecDepth 100000 in
set_option maxHeartbeats 1600000 in
theorem chart_line (w : World) (r : Int) (hb : -2147483648 ≤ r ∧ r ≤ 2147483647) :
    Calls Try.prog 61 #[.int .i32 r] w fun e w' => e = .returned (.int .i32 (lineM r)) ∧ Below w.heap.size w w' := by
  obtain ⟨CS, hCS⟩ : ∃ CS, CS = linesC := ⟨_, rfl⟩
  have HBT : Hid (Try.prog.built 112 [(0, .int .i32 32), (1, .int .i32 9670), (2, .int .i32 9618), (3, .int .i32 9225), (4, .int .i32 9228), (5, .int .i32 9229), (6, .int .i32 9226), (7, .int .i32 176), (8, .int .i32 177), (9, .int .i32 9252), (10, .int .i32 9227), (11, .int .i32 9496), (12, .int .i32 9488), (13, .int .i32 9484), (14, .int .i32 9492), (15, .int .i32 9532), (16, .int .i32 9146), (17, .int .i32 9147), (18, .int .i32 9472), (19, .int .i32 9148), (20, .int .i32 9149), (21, .int .i32 9500), (22, .int .i32 9508), (23, .int .i32 9524), (24, .int .i32 9516), (25, .int .i32 9474), (26, .int .i32 8804), (27, .int .i32 8805), (28, .int .i32 960), (29, .int .i32 8800), (30, .int .i32 163), (31, .int .i32 183)] = some CS) := Lib.hid (by rw [hCS]; kernel_rfl)
  have HST : Hid (∀ Z : Array Value, Z.size = 32 → (storeCells ⟨w.heap.size, 0, none⟩ CS.toList).run Try.prog (w.alloc (.cells Z 112)) = .ok () (w.alloc (.cells CS 112))) := Lib.hid (fun Z hZ => run_store_new (P := Try.prog) w 112 Z CS (by rw [hZ, hCS]; kernel_rfl) (by rw [hCS]; exact lines_one))
  have hcs : CS.size = 32 := by rw [hCS]; kernel_rfl
  have HAT : Hid (∀ k, k < 32 → CS[k]? = some (.int .i32 (lineM ((k : Int) + 95)))) := Lib.hid (by rw [hCS]; exact lines_at)
  clear hCS
  by_cases hin : 95 ≤ r ∧ r ≤ 126
  · obtain ⟨k, rfl⟩ : ∃ k : Nat, r = (k : Int) + 95 := ⟨(r - 95).toNat, by omega⟩
    have hk : k < 32 := by omega
    have hki : (k : Int) < 32 := by omega
    have hk0 : (0 : Int) ≤ (k : Int) := by omega
    have hc : (w.alloc (.cells CS 112)).cell? ⟨w.heap.size, k, none⟩ = some (.int .i32 (lineM ((k : Int) + 95))) := by
      rw [cell_of_row _ _ k _ _ (0, 0) (heap_alloc_new w _)]
      exact HAT.out k hk
    obtain ⟨z, hz⟩ : ∃ z, z = lineM ((k : Int) + 95) := ⟨_, rfl⟩
    rw [← hz] at hc ⊢
    clear hz
    go_enter Try.func61, Try.ntmps61
    go_wp2_with (with_reducible refine wpList_built rfl 112 _ rfl CS ?hbuilt ?_)
    case hbuilt => first | exact HBT.out | (simp; exact HBT.out)
    rw [HST.out _ rfl]
    go_wp2_with fail
    go_ret
    exact ⟨rfl, (Below.refl _ w).alloc (Nat.le_refl _) _⟩
  · have hz : lineM r = r := by unfold lineM; rw [if_neg hin]
    obtain ⟨z, hz2⟩ : ∃ z, z = lineM r := ⟨_, rfl⟩
    rw [hz]
    clear hz hz2
    by_cases h1 : r < 95
    · have t1 : r - 95 < 0 := by omega
      clear hin
      go_enter Try.func61, Try.ntmps61
      go_wp2_with (with_reducible refine wpList_built rfl 112 _ rfl CS ?hbuilt ?_)
      case hbuilt => first | exact HBT.out | (simp; exact HBT.out)
      rw [HST.out _ rfl]
      go_wp2_with fail
      go_ret
      exact ⟨rfl, (Below.refl _ w).alloc (Nat.le_refl _) _⟩
    · have t1 : ¬ (r - 95 < 0) := by omega
      have t2 : r - 95 ≥ 32 := by omega
      clear hin
      go_enter Try.func61, Try.ntmps61
      go_wp2_with (with_reducible refine wpList_built rfl 112 _ rfl CS ?hbuilt ?_)
      case hbuilt => first | exact HBT.out | (simp; exact HBT.out)
      rw [HST.out _ rfl]
      go_wp2_with fail
      go_ret
      exact ⟨rfl, (Below.refl _ w).alloc (Nat.le_refl _) _⟩

set_option maxRecDepth 100000 in
set_option maxHeartbeats 1600000 in
theorem chart_map (w : World) (s r : Int) (hb : -2147483648 ≤ r ∧ r ≤ 2147483647) :
    Calls Try.prog 21 #[.int .u8 s, .int .i32 r] w fun e w' => e = .returned (.int .i32 (mapM s r)) ∧ Below w.heap.size w w' := by
  have hL := Lib.hid (chart_line w r hb)
  obtain ⟨z, hz⟩ : ∃ z, z = lineM r := ⟨_, rfl⟩
  rw [← hz] at hL
  have HZ : Hid (∀ s, mapM s r = if s = 65 ∧ r = 35 then 163 else if s = 48 then z else r) := Lib.hid (fun s => by rw [hz]; rfl)
  clear hz
  by_cases h1 : s = 65
  · subst h1
    by_cases h2 : r = 35
    · subst h2
      go_enter Try.func21, Try.ntmps21
      go_wp2_with fail
      go_ret
      exact ⟨by rw [HZ.out]; rfl, Below.refl _ _⟩
    · go_enter Try.func21, Try.ntmps21
      go_wp2_with fail
      go_ret
      exact ⟨by rw [HZ.out, if_neg (fun e => h2 e.2), if_neg (by decide)]; rfl, Below.refl _ _⟩
  · by_cases h3 : s = 48
    · subst h3
      go_enter Try.func21, Try.ntmps21
      go_wp2_with fail
      refine hL.out.mono ?_
      rintro e w1 ⟨rfl, h⟩
      have HB := Lib.hid h
      clear h hL
      go_wp2_with fail
      go_ret
      exact ⟨by rw [HZ.out, if_neg (fun e => h1 e.1), if_pos rfl]; rfl, HB.out⟩
    · go_enter Try.func21, Try.ntmps21
      go_wp2_with fail
      go_ret
      exact ⟨by rw [HZ.out, if_neg (fun e => h1 e.1), if_neg h3]; rfl, Below.refl _ _⟩

set_option maxRecDepth 100000 in
set_option maxHeartbeats 1600000 in
theorem ref_map (w : World) (s r : Int) (hb : -2147483648 ≤ r ∧ r ≤ 2147483647) :
    Calls Try.prog 22 #[.int .u8 s, .int .i32 r] w fun e w' => e = .returned (.int .i32 (mapM s r)) ∧ Below w.heap.size w w' := by
  by_cases h1 : s = 65 ∧ r = 35
  · obtain ⟨rfl, rfl⟩ := h1
    go_enter Try.func22, Try.ntmps22
    go_wp2_with fail
    go_ret
    exact ⟨rfl, Below.refl _ _⟩
  have HZ : Hid (mapM s r = if s = 48 then lineM r else r) := Lib.hid (by unfold mapM; rw [if_neg h1])
  by_cases h2 : s = 48 ∧ 95 ≤ r ∧ r ≤ 126
  · obtain ⟨rfl, h2⟩ := h2
    obtain ⟨k, rfl⟩ : ∃ k : Nat, r = (k : Int) + 95 := ⟨(r - 95).toNat, by omega⟩
    have hk : k < 32 := by omega
    have hki : (k : Int) < 32 := by omega
    have hk0 : (0 : Int) ≤ (k : Int) := by omega
    have t1 : ¬ ((k : Int) + 95 < 95) := by omega
    have t2 : ¬ ((k : Int) + 95 > 126) := by omega
    obtain ⟨z, hz⟩ : ∃ z, z = lineM ((k : Int) + 95) := ⟨_, rfl⟩
    have HZ2 := HZ.out
    rw [if_pos rfl, ← hz] at HZ2
    have HZ3 := Lib.hid HZ2
    have HAT : Hid (∀ h, (linesT.map (Value.int .i32))[k]'h = .int .i32 z) := Lib.hid (fun h => by
      have := lines_at k hk
      rw [← hz, linesC, List.getElem?_toArray, List.getElem?_eq_getElem h] at this
      injection this)
    clear hz HZ HZ2 h1 h2
    go_enter Try.func22, Try.ntmps22
    go_wp2_with fail
    go_ret
    exact ⟨by rw [HZ3.out]; exact congrArg Ending.returned (HAT.out (by simpa [linesT] using hk)), (Below.refl _ w).alloc (Nat.le_refl _) _⟩
  · have HZ2 : Hid (mapM s r = r) := Lib.hid (by
      rw [HZ.out]
      split
      · unfold lineM
        rw [if_neg (fun e => h2 ⟨by assumption, e⟩)]
      · rfl)
    clear HZ
    by_cases h3 : s = 48
    · subst h3
      by_cases h4 : r < 95
      · clear h1 h2
        go_enter Try.func22, Try.ntmps22
        go_wp2_with fail
        go_ret
        exact ⟨by rw [HZ2.out]; rfl, Below.refl _ _⟩
      · have h5 : r > 126 := by omega
        clear h1 h2
        go_enter Try.func22, Try.ntmps22
        go_wp2_with fail
        go_ret
        exact ⟨by rw [HZ2.out]; rfl, Below.refl _ _⟩
    · clear h2
      by_cases h6 : s = 65
      · subst h6
        have h7 : ¬ r = 35 := fun e => h1 ⟨rfl, e⟩
        clear h1
        go_enter Try.func22, Try.ntmps22
        go_wp2_with fail
        go_ret
        exact ⟨by rw [HZ2.out]; rfl, Below.refl _ _⟩
      · clear h1
        go_enter Try.func22, Try.ntmps22
        go_wp2_with fail
        go_ret
        exact ⟨by rw [HZ2.out]; rfl, Below.refl _ _⟩

def knownM (s : Int) : Bool := s == 66 || s == 65 || s == 48
theorem chart_known (w : World) (s : Int) :
    Calls Try.prog 23 #[.int .u8 s] w fun e w' => e = .returned (.bool (knownM s)) ∧ w' = w := by
  by_cases h1 : s = 66
  · subst h1
    go_enter Try.func23, Try.ntmps23
    go_wp2_with fail
    go_ret
    exact ⟨rfl, rfl⟩
  · by_cases h2 : s = 65
    · subst h2
      go_enter Try.func23, Try.ntmps23
      go_wp2_with fail
      go_ret
      exact ⟨rfl, rfl⟩
    · go_enter Try.func23, Try.ntmps23
      go_wp2_with fail
      go_ret
      exact ⟨by simp [go_sem, knownM], rfl⟩
theorem ref_known (w : World) (s : Int) :
    Calls Try.prog 24 #[.int .u8 s] w fun e w' => e = .returned (.bool (knownM s)) ∧ w' = w := by
  by_cases h1 : s = 66
  · subst h1
    go_enter Try.func24, Try.ntmps24
    go_wp2_with fail
    go_ret
    exact ⟨rfl, rfl⟩
  · by_cases h2 : s = 65
    · subst h2
      go_enter Try.func24, Try.ntmps24
      go_wp2_with fail
      go_ret
      exact ⟨rfl, rfl⟩
    · go_enter Try.func24, Try.ntmps24
      go_wp2_with fail
      go_ret
      exact ⟨by simp [go_sem, knownM], rfl⟩

end Go.Proofs.Ythmogbldfecckaa
