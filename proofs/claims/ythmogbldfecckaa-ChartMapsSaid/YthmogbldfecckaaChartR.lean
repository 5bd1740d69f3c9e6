/- chart: New; the document's Stops, Next; a nil Stops. Own work. -/
import Derived.Test.YthmogbldfecckaaChartN
namespace Go.Proofs.Ythmogbldfecckaa
set_option linter.unusedVariables false
set_option linter.unusedSimpArgs false
open Go.RowKit

theorem made_bools (n : Nat) : madeCells (Value.bool false).cells (n * 1) = Array.replicate n (Value.bool false) := by
  apply Array.ext
  · rw [size_madeCells]; simp
  · intro i h1 h2
    simp [madeCells, Value.cells, Nat.mod_one]

theorem row_made (w : World) (n : Nat) (hn : n ≤ 40) (t : TypeId) : Row (w.alloc (.cells (Array.replicate n (Value.bool false)) t)) w.heap.size 0 n n ((newT n 8).map Value.bool) := by
  have h := Row.of_block (n := n) (heap_alloc_new w (.cells (Array.replicate n (Value.bool false)) t)) (.inl (Nat.le_refl _)) (by simp) (by simp [maxLen]; omega)
  rw [newT_zero, List.map_replicate]
  simpa using h

theorem mk_bools (n : Nat) (hn : n ≤ 40) (V : World) : (Instr.makeSlice 26 (.int .i64 (n : Int)) (.int .i64 (n : Int))).run Try.prog V = .ok (.slice (some ⟨V.heap.size, 0, none⟩) n n) (V.alloc (.cells (Array.replicate n (Value.bool false)) 4)) := by
  obtain ⟨i0, hi0, hz0, hz1, hz2⟩ := info_parts bool_info
  have h := run_make (P := Try.prog) V 26 4 i0 _ Try.underlying26 hi0 hz0 .i64 .i64 (n : Int) (n : Int) (by omega) (by omega) (by rw [hz2]; omega) (by omega)
  rw [hz1] at h
  simp only [Int.toNat_natCast] at h
  rwa [made_bools] at h

/-- Behind New. -/
def NewB (n : Nat) (w : World) (e : Ending) (w' : World) : Prop :=
  e = .returned (.pointer (some ⟨w.heap.size + 1, 0, none⟩)) ∧ StopsAt w' (w.heap.size + 1) w.heap.size n n (newL n) ∧ Below w.heap.size w w'

set_option maxRecDepth 100000 in
set_option maxHeartbeats 1600000 in
theorem chart_new (w : World) (x : Int) (n : Nat) (hx : min (max x 0) 40 = (n : Int)) :
    Calls Try.prog 7 #[.int .i64 x] w (NewB n w) := by
  have hn40 : n ≤ 40 := by omega
  have hni : (n : Int) ≤ 40 := by omega
  have hmk := mk_bools n hn40
  obtain ⟨p, hp⟩ : ∃ p, p = w.heap.size + 1 := ⟨_, rfl⟩
  obtain ⟨g, hg⟩ : ∃ g, g = w.heap.size := ⟨_, rfl⟩
  obtain ⟨w2, hw2⟩ : ∃ w2, w2 = (w.alloc (.cells (Array.replicate n (Value.bool false)) 4)).alloc (.cells #[.slice (some ⟨w.heap.size, 0, none⟩) n n] 57) := ⟨_, rfl⟩
  have HS : Hid (StopsAt w2 p g n n (newT n (8 * (((0 : Nat) : Int) + 1)))) := Lib.hid (by
    have h1 := Cell.box (w := w.alloc (.cells (Array.replicate n (Value.bool false)) 4)) (cs := #[.slice (some ⟨w.heap.size, 0, none⟩) n n]) (t := 57) 0 rfl
    rw [show (w.alloc (.cells (Array.replicate n (Value.bool false)) 4)).heap.size = p from by rw [hp]; simp] at h1
    rw [hw2, hg]
    exact ⟨h1, (row_made w n hn40 _).alloc _, by omega, by simp; omega, hn40⟩)
  have HB : Hid (Below g w w2) := Lib.hid (by rw [hw2, hg]; exact ((Below.refl _ w).alloc (Nat.le_refl _) _).alloc (by simp) _)
  have HP := Lib.hid hp
  have HG := Lib.hid hg
  go_enter Try.func7, Try.ntmps7
  go_wp2_with fail
  rw [← hw2]
  try rw [show w.heap.size + 1 = p from hp.symm]
  clear hmk hw2 hp hg hx
  go_loopw [4] (fun i wr => ∃ j : Nat, i = .int .i64 (8 * ((j : Int) + 1)) ∧ j ≤ 6 ∧ Hid (StopsAt wr p g n n (newT n (8 * ((j : Int) + 1)))) ∧ Hid (Below g w wr)) (fun i _ => 60 - (intOf i).toNat)
  case atStart => exact ⟨0, rfl, by omega, HS, HB⟩
  case round =>
    obtain ⟨j, rfl, hj, HS2, HB2⟩ := hrel
    clear HS HB
    have cs := HS2.out.cs.1
    by_cases hlt : 8 * (j + 1) < n
    · obtain ⟨z, hz⟩ : ∃ z : Nat, z = 8 * (j + 1) := ⟨_, rfl⟩
      have hzi : 8 * ((j : Int) + 1) = (z : Int) := by omega
      have t1 : (z : Int) < (n : Int) := by omega
      have t2 : (0 : Int) ≤ (z : Int) := by omega
      obtain ⟨ob, -, hob⟩ := HS2.out.at' (k := z) (by omega)
      have hfz : wr.frozen? ⟨g, z, none⟩ = false := by have := (HS2.out.row.can z (by omega)).2; rwa [Nat.zero_add] at this
      have HS3 : Hid (StopsAt (wr.setCell ⟨g, z, none⟩ (.bool true)) p g n n (newT n (8 * (((j + 1 : Nat) : Int) + 1)))) := Lib.hid (by
        have := HS2.out.set (k := z) (by omega) true
        rw [hz] at this ⊢
        rw [newT_set n j hlt] at this
        rwa [show 8 * (((j + 1 : Nat) : Int) + 1) = 8 * ((j : Int) + 1) + 8 from by omega])
      have HB3 : Hid (Below g w (wr.setCell ⟨g, z, none⟩ (.bool true))) := Lib.hid (Below.setCell (p := ⟨g, z, none⟩) HB2.out (Nat.le_refl _) _)
      have HZ := Lib.hid hz
      have HLT := Lib.hid hlt
      rw [hzi]
      clear HS2 HB2 hz hzi hlt
      go_wp2_with fail
      go_roundw
      case rel => exact ⟨j + 1, by have := HZ.out; go_num, by have := HLT.out; omega, HS3, HB3⟩
      case measure => have := HZ.out; have := HLT.out; simp [intOf]; omega
    · have t1 : ¬ (8 * ((j : Int) + 1) < (n : Int)) := by omega
      have HE : Hid (StopsAt wr p g n n (newL n)) := Lib.hid (by have := HS2.out; rwa [newT_end n _ (by omega)] at this)
      clear HS2
      go_wp2_with fail
      go_ret
      have hp := HP.out
      have hg := HG.out
      have h1 := HE.out
      have h2 := HB2.out
      unfold NewB
      rw [← hp, ← hg]
      exact ⟨rfl, h1, h2⟩

set_option maxRecDepth 100000 in
set_option maxHeartbeats 1600000 in
theorem ref_stops (w : World) (x : Int) (n : Nat) (hx : min (max x 0) 40 = (n : Int)) :
    Calls Try.prog 8 #[.int .i64 x] w fun e w' => e = .returned (.slice (some ⟨w.heap.size, 0, none⟩) n n) ∧ Row w' w.heap.size 0 n n ((newL n).map Value.bool) ∧ w.heap.size < w'.heap.size ∧ Below w.heap.size w w' := by
  have hn40 : n ≤ 40 := by omega
  have hni : (n : Int) ≤ 40 := by omega
  have hmk := mk_bools n hn40
  obtain ⟨g, hg⟩ : ∃ g, g = w.heap.size := ⟨_, rfl⟩
  obtain ⟨w2, hw2⟩ : ∃ w2, w2 = w.alloc (.cells (Array.replicate n (Value.bool false)) 4) := ⟨_, rfl⟩
  have HS : Hid (Row w2 g 0 n n ((newT n (8 * (((0 : Nat) : Int) + 1))).map Value.bool)) := Lib.hid (by
    rw [hw2, hg]
    exact row_made w n hn40 _)
  have HB : Hid (Below g w w2) := Lib.hid (by rw [hw2, hg]; exact (Below.refl _ w).alloc (Nat.le_refl _) _)
  have HL : Hid (g < w2.heap.size) := Lib.hid (by rw [hw2, hg]; simp)
  have HG := Lib.hid hg
  go_enter Try.func8, Try.ntmps8
  go_wp2_with fail
  rw [← hw2]
  try rw [← hg]
  clear hmk hw2 hg hx
  go_loopw [4] (fun i wr => ∃ j : Nat, i = .int .i64 (8 * ((j : Int) + 1)) ∧ j ≤ 6 ∧ Hid (Row wr g 0 n n ((newT n (8 * ((j : Int) + 1))).map Value.bool)) ∧ Hid (Below g w wr) ∧ Hid (g < wr.heap.size)) (fun i _ => 60 - (intOf i).toNat)
  case atStart => exact ⟨0, rfl, by omega, HS, HB, HL⟩
  case round =>
    obtain ⟨j, rfl, hj, HS2, HB2, HL2⟩ := hrel
    clear HS HB HL
    by_cases hlt : 8 * (j + 1) < n
    · obtain ⟨z, hz⟩ : ∃ z : Nat, z = 8 * (j + 1) := ⟨_, rfl⟩
      have hzi : 8 * ((j : Int) + 1) = (z : Int) := by omega
      have t1 : (z : Int) < (n : Int) := by omega
      have t2 : (0 : Int) ≤ (z : Int) := by omega
      have hcan := HS2.out.can z (by omega)
      rw [Nat.zero_add] at hcan
      obtain ⟨ob, hob⟩ := Option.isSome_iff_exists.1 hcan.1
      have hfz := hcan.2
      have HS3 : Hid (Row (wr.setCell ⟨g, z, none⟩ (.bool true)) g 0 n n ((newT n (8 * (((j + 1 : Nat) : Int) + 1))).map Value.bool)) := Lib.hid (by
        have := HS2.out.set z (by omega) (.bool true)
        rw [Nat.zero_add, ← List.map_set, hz, newT_set n j hlt, ← hz] at this
        rwa [show 8 * (((j + 1 : Nat) : Int) + 1) = 8 * ((j : Int) + 1) + 8 from by omega])
      have HB3 : Hid (Below g w (wr.setCell ⟨g, z, none⟩ (.bool true))) := Lib.hid (Below.setCell (p := ⟨g, z, none⟩) HB2.out (Nat.le_refl _) _)
      have HL3 : Hid (g < (wr.setCell ⟨g, z, none⟩ (.bool true)).heap.size) := Lib.hid (by simpa [World.setCell] using HL2.out)
      have HZ := Lib.hid hz
      have HLT := Lib.hid hlt
      rw [hzi]
      clear HS2 HB2 HL2 hcan hz hzi hlt
      go_wp2_with fail
      go_roundw
      case rel => exact ⟨j + 1, by have := HZ.out; go_num, by have := HLT.out; omega, HS3, HB3, HL3⟩
      case measure => have := HZ.out; have := HLT.out; simp [intOf]; omega
    · have t1 : ¬ (8 * ((j : Int) + 1) < (n : Int)) := by omega
      have HE : Hid (Row wr g 0 n n ((newL n).map Value.bool)) := Lib.hid (by have := HS2.out; rwa [newT_end n _ (by omega)] at this)
      clear HS2
      go_wp2_with fail
      go_ret
      have hg := HG.out
      have h1 := HE.out
      have h2 := HB2.out
      have h3 := HL2.out
      rw [← hg]
      exact ⟨rfl, h1, h3, h2⟩

set_option maxRecDepth 100000 in
set_option maxHeartbeats 1600000 in
theorem ref_next (w : World) (A : Option Addr) (n c : Nat) (l : List Bool) (x : Int) (h : Src w A n (l.map Value.bool)) (hn : n ≤ 40) :
    Calls Try.prog 18 #[.slice A n c, .int .i64 x] w fun e w' => e = .returned (.int .i64 (nextL l x)) ∧ w' = w := by
  have hni : (n : Int) ≤ 40 := by omega
  have hl : l.length = n := by have := h.1; rwa [List.length_map] at this
  have hN : Hid (nextL l x = nextR x n 0 (l.drop 0)) := Lib.hid (by unfold nextL; rw [hl]; rfl)
  have H := Lib.hid h
  have HL := Lib.hid hl
  clear h hl
  go_enter Try.func18, Try.ntmps18
  go_wp2_with fail
  go_loopw [5] (fun i wr => ∃ k : Nat, i = .int .i64 k ∧ k ≤ n ∧ wr = w ∧ Hid (nextL l x = nextR x n k (l.drop k))) (fun i _ => n - (intOf i).toNat)
  case atStart => exact ⟨0, rfl, Nat.zero_le _, rfl, hN⟩
  case round =>
    obtain ⟨k, rfl, hk, rfl, HN⟩ := hrel
    clear hN
    by_cases hlt : k < n
    · obtain ⟨b, hb⟩ : ∃ b, l[k]? = some b := ⟨l[k]'(by rw [HL.out]; exact hlt), List.getElem?_eq_getElem _⟩
      obtain ⟨bb, off, rfl, hbb, hcs⟩ := H.out.2 (by omega)
      have hcx : wr.cell? ⟨bb, off + k, none⟩ = some (.bool b) := hcs k _ (by rw [List.getElem?_map, hb]; rfl)
      have hki : ((k : Int) < (n : Int)) := by omega
      have hk0 : (0 : Int) ≤ (k : Int) := by omega
      have hs := HN.out
      rw [nextR_at hb] at hs
      clear hb hcs
      by_cases hx : b = true ∧ (k : Int) > x
      · rw [if_pos hx] at hs
        obtain ⟨rfl, hx⟩ := hx
        have HS := Lib.hid hs
        clear hs HN
        go_wp2_with fail
        go_ret
        exact ⟨by rw [HS.out]; rfl, rfl⟩
      · rw [if_neg hx] at hs
        have HS := Lib.hid hs
        clear hs HN
        by_cases hkx : (k : Int) > x
        · have hb : b = false := by
            cases b with
            | false => rfl
            | true => exact absurd ⟨rfl, hkx⟩ hx
          subst hb
          clear hx
          go_wp2_with fail
          go_roundw
          case rel => exact ⟨k + 1, by go_num, by omega, trivial, HS⟩
          case measure => simp [intOf]; omega
        · clear hx
          go_wp2_with fail
          go_roundw
          case rel => exact ⟨k + 1, by go_num, by omega, trivial, HS⟩
          case measure => simp [intOf]; omega
    · have hkn : k = n := by omega
      subst hkn
      have hs := HN.out
      rw [List.drop_of_length_le (by rw [HL.out]; exact Nat.le_refl _)] at hs
      unfold nextR at hs
      have HS := Lib.hid hs
      clear hs HN
      go_wp2_with fail
      go_ret
      exact ⟨by rw [HS.out]; rfl, rfl⟩

/- A nil one. -/
set_option maxRecDepth 100000 in
set_option maxHeartbeats 800000 in
theorem nil_put (w : World) (b : Bool) (g : Nat) (x : Int) (hx : w.cell? ⟨g, 0, none⟩ = some (.int .i64 x)) :
    Calls Try.prog 26 #[.pointer none, .bool b, .slice (some ⟨g, 0, none⟩) 1 1] w fun e w' => e = .returned (.tuple #[]) ∧ w' = w := by
  go_enter Try.func26, Try.ntmps26
  go_wp2_with fail
  refine (chart_columns_nil _).mono ?_
  rintro e w1 ⟨rfl, rfl⟩
  go_wp2_with fail
  go_loopw [8, 13] (fun _ i wr => ∃ k : Nat, i = .int .i64 k ∧ k ≤ 1 ∧ wr = w1) (fun _ i _ => 1 - (intOf i).toNat)
  case atStart => exact ⟨0, rfl, by omega, rfl⟩
  case round =>
    obtain ⟨k, rfl, hk, rfl⟩ := hrel
    rcases Nat.lt_or_ge k 1 with e | e
    · have hk0 : k = 0 := by omega
      subst hk0
      by_cases hx0 : x ≥ 0
      · have hx1 : ¬ x < 0 := by omega
        go_wp2_with fail
        go_roundw
        case rel => exact ⟨1, by go_num, by omega, trivial⟩
        case measure => simp [intOf]
      · go_wp2_with fail
        go_roundw
        case rel => exact ⟨1, by go_num, by omega, trivial⟩
        case measure => simp [intOf]
    · have hk1 : k = 1 := by omega
      subst hk1
      go_wp2_with fail
      go_end0
      exact ⟨rfl, rfl⟩

theorem nil_set (w : World) (g : Nat) (x : Int) (hx : w.cell? ⟨g, 0, none⟩ = some (.int .i64 x)) :
    Calls Try.prog 10 #[.pointer none, .slice (some ⟨g, 0, none⟩) 1 1] w fun e w' => e = .returned (.tuple #[]) ∧ w' = w := by
  go_enter Try.func10, Try.ntmps10
  go_wp2_with fail
  refine (nil_put w true g x hx).mono ?_
  rintro e w1 ⟨rfl, rfl⟩
  go_wp2_with fail
  go_end0
  exact ⟨rfl, rfl⟩

theorem nil_clear (w : World) (g : Nat) (x : Int) (hx : w.cell? ⟨g, 0, none⟩ = some (.int .i64 x)) :
    Calls Try.prog 11 #[.pointer none, .slice (some ⟨g, 0, none⟩) 1 1] w fun e w' => e = .returned (.tuple #[]) ∧ w' = w := by
  go_enter Try.func11, Try.ntmps11
  go_wp2_with fail
  refine (nil_put w false g x hx).mono ?_
  rintro e w1 ⟨rfl, rfl⟩
  go_wp2_with fail
  go_end0
  exact ⟨rfl, rfl⟩

set_option maxRecDepth 100000 in
theorem nil_none (w : World) :
    Calls Try.prog 12 #[.pointer none] w fun e w' => e = .returned (.tuple #[]) ∧ w' = w := by
  have hcl : ∀ ty, (Builtin.clear_ #[26] ty #[.slice none 0 0]).run Try.prog w = .ok (.tuple #[]) w := fun ty => by
    simp [Builtin.clear_, run_underlying Try.underlying26]
  go_enter Try.func12, Try.ntmps12
  go_wp2_with fail
  refine (chart_columns_nil _).mono ?_
  rintro e w1 ⟨rfl, rfl⟩
  go_wp2_with fail
  go_end0
  exact ⟨rfl, rfl⟩

theorem nil_next (w : World) (x : Int) :
    Calls Try.prog 17 #[.pointer none, .int .i64 x] w fun e w' => e = .returned (.int .i64 0) ∧ w' = w := by
  go_enter Try.func17, Try.ntmps17
  go_wp2_with fail
  refine (chart_columns_nil _).mono ?_
  rintro e w1 ⟨rfl, rfl⟩
  go_wp2_with fail
  go_loopw [6, 7, 12] (fun _ _ i wr => i = .int .i64 0 ∧ wr = w1) (fun _ _ i _ => 0)
  case atStart => exact ⟨rfl, rfl⟩
  case round =>
    obtain ⟨rfl, rfl⟩ := hrel
    go_wp2_with fail
    go_ret
    exact ⟨rfl, rfl⟩

theorem nil_all (w : World) :
    Calls Try.prog 14 #[.pointer none] w fun e w' => e = .returned (.slice none 0 0) ∧ w' = w := by
  go_enter Try.func14, Try.ntmps14
  go_wp2_with fail
  refine (chart_columns_nil _).mono ?_
  rintro e w1 ⟨rfl, rfl⟩
  go_wp2_with fail
  go_loopw [3, 4, 5, 9] (fun v _ _ i wr => v = .slice none 0 0 ∧ i = .int .i64 0 ∧ wr = w1) (fun _ _ _ i _ => 0)
  case atStart => exact ⟨rfl, rfl, rfl⟩
  case round =>
    obtain ⟨rfl, rfl, rfl⟩ := hrel
    go_wp2_with fail
    go_ret
    exact ⟨rfl, rfl⟩

theorem nil_copy (w : World) :
    Calls Try.prog 13 #[.pointer none] w fun e w' => e = .returned (.pointer none) ∧ w' = w := by
  have heq := fun (V : World) => Lib.run_eql_slice_nil (P := Try.prog) V 26 4 none 0 0 0 0 Try.underlying26
  go_enter Try.func13, Try.ntmps13
  go_wp2_with fail
  refine (chart_columns_nil _).mono ?_
  rintro e w1 ⟨rfl, rfl⟩
  go_wp2_with fail
  go_ret
  exact ⟨rfl, rfl⟩

end Go.Proofs.Ythmogbldfecckaa
