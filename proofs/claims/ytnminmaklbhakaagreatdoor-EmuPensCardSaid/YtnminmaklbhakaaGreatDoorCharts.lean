/- chart: tab stops over lists. Own work. chart.Stops: columns, Next, put, Set, Clear, None, All. Own work. chart.Stops: Set, Clear, None, All, Copy, New; the document's Stops. Own work. chart: Clone, Copy, New; the document's Stops, Next; a nil Stops. Own work. chart: New; the document's Stops, Next; a nil Stops. Own work. chart: Map, Known, and the document's. Own work. -/
import Derived.Test.YtnminmaklbhakaaGreatDoorBase
import Derived.Lib.SliceRun
import Derived.Laws.MakeOwn
import Derived.Deep.Cut
set_option linter.unusedVariables false
set_option linter.unusedSimpArgs false
namespace Go.Proofs.YtnminmaklbhakaaGreatDoor
set_option linter.unusedVariables false
set_option linter.unusedSimpArgs false
open Go.RowKit

/-- The least stop above x, from column k on; n: how many columns there are. -/
def nextR (x n : Int) : Nat → List Bool → Int
  | _, [] => max (n - 1) 0
  | k, b :: r => if b = true ∧ (k : Int) > x then k else nextR x n (k + 1) r
def nextL (l : List Bool) (x : Int) : Int := nextR x l.length 0 l
theorem nextR_at {x n : Int} {l : List Bool} {k : Nat} {b : Bool} (h : l[k]? = some b) : nextR x n k (l.drop k) = if b = true ∧ (k : Int) > x then (k : Int) else nextR x n (k + 1) (l.drop (k + 1)) := by
  have hk : k < l.length := by
    rcases Nat.lt_or_ge k l.length with e | e
    · exact e
    · rw [List.getElem?_eq_none e] at h; cases h
  rw [List.drop_eq_getElem_cons hk]
  rw [List.getElem?_eq_getElem hk] at h
  injection h with h
  rw [h]
  rfl

/-- A stop that is set, or taken away, where there is a column. -/
def putC (b : Bool) (l : List Bool) (x : Int) : List Bool := if 0 ≤ x ∧ x < l.length then l.set x.toNat b else l
def putL (b : Bool) (l : List Bool) (xs : List Int) : List Bool := xs.foldl (putC b) l
theorem putC_len (b : Bool) (l : List Bool) (x : Int) : (putC b l x).length = l.length := by unfold putC; split <;> simp
theorem putL_len (b : Bool) (l : List Bool) (xs : List Int) : (putL b l xs).length = l.length := by
  induction xs generalizing l with
  | nil => rfl
  | cons x r ih => rw [show putL b l (x :: r) = putL b (putC b l x) r from rfl, ih, putC_len]
theorem putL_snoc (b : Bool) (l : List Bool) (xs : List Int) (x : Int) : putL b l (xs ++ [x]) = putC b (putL b l xs) x := by simp [putL]

/-- The columns of the stops, from k on. -/
def allR : Nat → List Bool → List Int
  | _, [] => []
  | k, b :: r => if b = true then (k : Int) :: allR (k + 1) r else allR (k + 1) r
def allL (l : List Bool) : List Int := allR 0 l
theorem allR_snoc (l : List Bool) (b : Bool) (k : Nat) : allR k (l ++ [b]) = allR k l ++ (if b = true then [((k + l.length : Nat) : Int)] else []) := by
  induction l generalizing k with
  | nil => cases b <;> simp [allR]
  | cons c r ih => cases c <;> simp [allR, ih, Nat.add_assoc, Nat.add_comm 1]
theorem all_take {l : List Bool} {k : Nat} {b : Bool} (h : l[k]? = some b) : allL (l.take (k + 1)) = allL (l.take k) ++ (if b = true then [(k : Int)] else []) := by
  have hk : k < l.length := by
    rcases Nat.lt_or_ge k l.length with e | e
    · exact e
    · rw [List.getElem?_eq_none e] at h; cases h
  rw [take_next h]
  unfold allL
  rw [allR_snoc, List.length_take, show 0 + min k l.length = k from by omega]
theorem allR_len (k : Nat) (l : List Bool) : (allR k l).length ≤ l.length := by
  induction l generalizing k with
  | nil => simp [allR]
  | cons b r ih => have := ih (k + 1); cases b <;> simp [allR] <;> omega
theorem all_len (l : List Bool) : (allL l).length ≤ l.length := allR_len 0 l
theorem all_take_len (l : List Bool) (k : Nat) : (allL (l.take k)).length ≤ k := Nat.le_trans (all_len _) (by simp; omega)

/-- Stops at 8, 16 and so on, those below x. -/
def newT (n : Nat) (x : Int) : List Bool := (List.range n).map fun (i : Nat) => decide (0 < i ∧ i % 8 = 0 ∧ (i : Int) < x)
def newL (n : Nat) : List Bool := newT n n
theorem newT_len (n : Nat) (x : Int) : (newT n x).length = n := by simp [newT]
theorem newT_at (n : Nat) (x : Int) (i : Nat) (h : i < n) : (newT n x)[i]? = some (decide (0 < i ∧ i % 8 = 0 ∧ (i : Int) < x)) := by simp [newT, h]
theorem newT_zero (n : Nat) : newT n 8 = List.replicate n false := by
  apply List.ext_getElem?
  intro i
  by_cases h : i < n
  · rw [newT_at n 8 i h, List.getElem?_replicate_of_lt h]
    simp; omega
  · rw [List.getElem?_eq_none (by rw [newT_len]; omega), List.getElem?_eq_none (by simp; omega)]
theorem newT_set (n j : Nat) (h : 8 * (j + 1) < n) : (newT n (8 * ((j : Int) + 1))).set (8 * (j + 1)) true = newT n (8 * ((j : Int) + 1) + 8) := by
  apply List.ext_getElem?
  intro i
  by_cases hi : i < n
  · by_cases e : i = 8 * (j + 1)
    · subst e
      rw [List.getElem?_set_self (by rw [newT_len]; exact hi), newT_at _ _ _ hi]
      simp; omega
    · rw [List.getElem?_set_ne (fun x => e x.symm), newT_at _ _ _ hi, newT_at _ _ _ hi]
      congr 1
      apply decide_eq_decide.2
      omega
  · rw [List.getElem?_eq_none (by rw [List.length_set, newT_len]; omega), List.getElem?_eq_none (by rw [newT_len]; omega)]
theorem newT_end (n : Nat) (x : Int) (h : (n : Int) ≤ x) : newT n x = newL n := by
  apply List.ext_getElem?
  intro i
  by_cases hi : i < n
  · unfold newL
    rw [newT_at _ _ _ hi, newT_at _ _ _ hi]
    congr 1
    apply decide_eq_decide.2
    omega
  · rw [List.getElem?_eq_none (by rw [newT_len]; omega), List.getElem?_eq_none (by unfold newL; rw [newT_len]; omega)]

/-- Stops in block p: n columns in block g. -/
structure StopsAt (w : World) (p g n c : Nat) (l : List Bool) : Prop where
  cs : Cell w p 0 (.slice (some ⟨g, 0, none⟩) n c)
  row : Row w g 0 n c (l.map Value.bool)
  ne : g ≠ p
  lg : g < w.heap.size
  le : n ≤ 40

namespace StopsAt
variable {w w' : World} {p g n c : Nat} {l : List Bool}
theorem lt (h : StopsAt w p g n c l) : p < w.heap.size := h.cs.lt
theorem len (h : StopsAt w p g n c l) : l.length = n := by have := h.row.len; rwa [List.length_map] at this
theorem keep {S : Nat → Prop} (h : StopsAt w p g n c l) (k : Keep S w w') (hp : ¬ S p) (hg : ¬ S g) : StopsAt w' p g n c l :=
  ⟨h.cs.keep k hp, h.row.keep k hg, h.ne, Nat.lt_of_lt_of_le h.lg k.size, h.le⟩
theorem drewN (h : StopsAt w p g n c l) (k : Nat) : StopsAt (w.drewN k) p g n c l := h.keep (S := fun _ => False) ((Keep.refl _ w).drewN k) (fun x => x) (fun x => x)
theorem at' (h : StopsAt w p g n c l) {k : Nat} (hk : k < n) : ∃ b, l[k]? = some b ∧ w.cell? ⟨g, k, none⟩ = some (.bool b) := by
  have hl : k < l.length := by rw [h.len]; exact hk
  refine ⟨l[k], List.getElem?_eq_getElem hl, ?_⟩
  have := h.row.val k (.bool l[k]) (by rw [List.getElem?_map, List.getElem?_eq_getElem hl]; rfl)
  rwa [Nat.zero_add] at this
theorem set (h : StopsAt w p g n c l) {k : Nat} (hk : k < n) (b : Bool) : StopsAt (w.setCell ⟨g, k, none⟩ (.bool b)) p g n c (l.set k b) := by
  have k1 : Keep (· = g) w (w.setCell ⟨g, k, none⟩ (.bool b)) := keep_set w g k _
  refine ⟨h.cs.keep k1 (fun e => h.ne e.symm), ?_, h.ne, Nat.lt_of_lt_of_le h.lg k1.size, h.le⟩
  have := h.row.set k hk (.bool b)
  rw [Nat.zero_add] at this
  rwa [List.map_set]
end StopsAt

end Go.Proofs.YtnminmaklbhakaaGreatDoor
namespace Go.Proofs.YtnminmaklbhakaaGreatDoor
set_option linter.unusedVariables false
set_option linter.unusedSimpArgs false
open Go.RowKit

set_option maxHeartbeats 800000 in
theorem chart_columns (w : World) (p g n c : Nat) (l : List Bool) (h : StopsAt w p g n c l) :
    Calls Tryz.prog 90 #[.pointer (some ⟨p, 0, none⟩)] w fun e w' => e = .returned (.slice (some ⟨g, 0, none⟩) n c) ∧ w' = w := by
  have c0 := h.cs.1
  clear h
  go_enter Tryz.func90, Tryz.ntmps90
  go_wp2_with fail
  go_ret
  exact ⟨rfl, rfl⟩

set_option maxHeartbeats 800000 in
theorem chart_columns_nil (w : World) :
    Calls Tryz.prog 90 #[.pointer none] w fun e w' => e = .returned (.slice none 0 0) ∧ w' = w := by
  go_enter Tryz.func90, Tryz.ntmps90
  go_wp2_with fail
  go_ret
  exact ⟨rfl, rfl⟩

set_option maxRecDepth 100000 in
set_option maxHeartbeats 1600000 in
theorem chart_next (w : World) (p g n c : Nat) (l : List Bool) (x : Int) (h : StopsAt w p g n c l) :
    Calls Tryz.prog 69 #[.pointer (some ⟨p, 0, none⟩), .int .i64 x] w fun e w' => e = .returned (.int .i64 (nextL l x)) ∧ w' = w := by
  have hC := Lib.hid (chart_columns w p g n c l h)
  have hn := h.le
  have hni : (n : Int) ≤ 40 := by omega
  have hN : Hid (nextL l x = nextR x n 0 (l.drop 0)) := Lib.hid (by unfold nextL; rw [h.len]; rfl)
  have H := Lib.hid h
  clear h
  go_enter Tryz.func69, Tryz.ntmps69
  go_wp2_with fail
  refine hC.out.mono ?_
  rintro e w1 ⟨rfl, rfl⟩
  go_wp2_with fail
  go_loopw [6, 7, 12] (fun _ _ i wr => ∃ k : Nat, i = .int .i64 k ∧ k ≤ n ∧ wr = w1 ∧ Hid (nextL l x = nextR x n k (l.drop k))) (fun _ _ i _ => n - (intOf i).toNat)
  case atStart => exact ⟨0, rfl, Nat.zero_le _, rfl, hN⟩
  case round =>
    obtain ⟨k, rfl, hk, rfl, HN⟩ := hrel
    clear hN
    by_cases hlt : k < n
    · obtain ⟨b, hb, hcb⟩ := H.out.at' hlt
      have hki : ((k : Int) < (n : Int)) := by omega
      have hk0 : (0 : Int) ≤ (k : Int) := by omega
      have hs := HN.out
      rw [nextR_at hb] at hs
      have HB := Lib.hid hb
      clear hb
      by_cases hx : b = true ∧ (k : Int) > x
      · rw [if_pos hx] at hs
        obtain ⟨rfl, hx⟩ := hx
        have HS := Lib.hid hs
        clear hs HN
        go_wp2_with fail
        go_ret
        exact ⟨by rw [HS.out]; rfl, rfl⟩
      · rw [if_neg hx] at hs
        have HS := Lib.hid hs
        clear hs HN
        cases b with
        | false =>
          clear hx
          go_wp2_with fail
          go_roundw
          case rel => exact ⟨k + 1, by go_num, by omega, trivial, HS⟩
          case measure => simp [intOf]; omega
        | true =>
          have hx2 : ¬ ((k : Int) > x) := fun e => hx ⟨rfl, e⟩
          clear hx
          go_wp2_with fail
          go_roundw
          case rel => exact ⟨k + 1, by go_num, by omega, trivial, HS⟩
          case measure => simp [intOf]; omega
    · have hkn : k = n := by omega
      subst hkn
      have hs := HN.out
      rw [List.drop_of_length_le (by rw [H.out.len]; exact Nat.le_refl _)] at hs
      unfold nextR at hs
      have HS := Lib.hid hs
      clear hs HN
      go_wp2_with fail
      go_ret
      exact ⟨by rw [HS.out]; rfl, rfl⟩

set_option maxRecDepth 100000 in
set_option maxHeartbeats 1600000 in
theorem chart_put (w : World) (p g n c : Nat) (l : List Bool) (b : Bool) (A : Option Addr) (m mc : Nat) (xs : List Int) (h : StopsAt w p g n c l) (hx : Src w A m (xs.map (Value.int .i64))) (hfar : 0 < n → 0 < m → blk A ≠ some g) (hm : m ≤ 1000000) :
    Calls Tryz.prog 120 #[.pointer (some ⟨p, 0, none⟩), .bool b, .slice A m mc] w fun e w' => e = .returned (.tuple #[]) ∧ StopsAt w' p g n c (putL b l xs) ∧ Keep (fun i => i = g ∧ 0 < n) w w' := by
  have hC := Lib.hid (chart_columns w p g n c l h)
  have hn := h.le
  have hni : (n : Int) ≤ 40 := by omega
  have hl : xs.length = m := by have := hx.1; rwa [List.length_map] at this
  have HL := Lib.hid hl
  have HX := Lib.hid hx
  have HF := Lib.hid hfar
  have H0 : Hid (StopsAt w p g n c (putL b l (xs.take 0))) := Lib.hid (by rw [List.take_zero]; exact h)
  clear h hl hx hfar
  go_enter Tryz.func120, Tryz.ntmps120
  go_wp2_with fail
  refine hC.out.mono ?_
  rintro e w1 ⟨rfl, rfl⟩
  go_wp2_with fail
  go_loopw [8, 13] (fun _ i wr => ∃ k : Nat, i = .int .i64 k ∧ k ≤ m ∧ Hid (StopsAt wr p g n c (putL b l (xs.take k))) ∧ Hid (Keep (fun i => i = g ∧ 0 < n) w1 wr)) (fun _ i _ => m - (intOf i).toNat)
  case atStart => exact ⟨0, rfl, Nat.zero_le _, H0, Lib.hid (Keep.refl _ _)⟩
  case round =>
    obtain ⟨k, rfl, hk, H, HK⟩ := hrel
    clear H0 hC
    by_cases hlt : k < m
    · obtain ⟨x, hxk⟩ : ∃ x, xs[k]? = some x := ⟨xs[k]'(by rw [HL.out]; exact hlt), List.getElem?_eq_getElem _⟩
      obtain ⟨bb, off, rfl, hbb, hcs⟩ := HX.out.2 (by omega)
      have hcx : wr.cell? ⟨bb, off + k, none⟩ = some (.int .i64 x) := (HK.out.cell (p := ⟨bb, off + k, none⟩) hbb (fun e => HF.out e.2 (by omega) (by rw [← e.1]; rfl))).trans (hcs k _ (by rw [List.getElem?_map, hxk]; rfl))
      have hki : ((k : Int) < (m : Int)) := by omega
      have hk0 : (0 : Int) ≤ (k : Int) := by omega
      have hput : putL b l (xs.take (k + 1)) = putC b (putL b l (xs.take k)) x := by rw [take_next hxk, putL_snoc]
      have hlen := H.out.len
      have HP := Lib.hid hput
      have HXK := Lib.hid hxk
      clear hcs hput hxk
      by_cases hin : 0 ≤ x ∧ x < (n : Int)
      · obtain ⟨z, rfl⟩ : ∃ z : Nat, x = z := ⟨x.toNat, by omega⟩
        have hz : z < n := by omega
        have t1 : (z : Int) < (n : Int) := by omega
        have t0 : (z : Int) ≥ 0 := by omega
        have t2 : (0 : Int) ≤ (z : Int) := by omega
        obtain ⟨ob, -, hob⟩ := H.out.at' hz
        have hfz : wr.frozen? ⟨g, z, none⟩ = false := by have := (H.out.row.can z (by have := H.out.row.le; omega)).2; rwa [Nat.zero_add] at this
        have HS : Hid (StopsAt (wr.setCell ⟨g, z, none⟩ (.bool b)) p g n c (putL b l (xs.take (k + 1)))) := Lib.hid (by
          rw [HP.out]
          unfold putC
          rw [if_pos ⟨t2, by rw [hlen]; exact t1⟩]
          exact H.out.set hz b)
        have HK2 : Hid (Keep (fun i => i = g ∧ 0 < n) w1 (wr.setCell ⟨g, z, none⟩ (.bool b))) := Lib.hid (HK.out.setCell (p := ⟨g, z, none⟩) (fun _ => ⟨rfl, by omega⟩) _)
        clear hin hlen HK H
        go_wp2_with fail
        go_roundw
        case rel => exact ⟨k + 1, by go_num, by omega, HS, HK2⟩
        case measure => simp [intOf]; omega
      · have HS : Hid (StopsAt wr p g n c (putL b l (xs.take (k + 1)))) := Lib.hid (by
          rw [HP.out]
          unfold putC
          rw [if_neg (by rw [hlen]; exact hin)]
          exact H.out)
        clear hlen H
        by_cases hx0 : x ≥ 0
        · have hx1 : ¬ (x < (n : Int)) := by omega
          clear hin
          go_wp2_with fail
          go_roundw
          case rel => exact ⟨k + 1, by go_num, by omega, HS, HK⟩
          case measure => simp [intOf]; omega
        · clear hin
          go_wp2_with fail
          go_roundw
          case rel => exact ⟨k + 1, by go_num, by omega, HS, HK⟩
          case measure => simp [intOf]; omega
    · have hkn : k = m := by omega
      subst hkn
      have HS : Hid (StopsAt wr p g n c (putL b l xs)) := Lib.hid (by have := H.out; rwa [List.take_of_length_le (by rw [HL.out]; exact Nat.le_refl _)] at this)
      clear H
      go_wp2_with fail
      go_end0
      exact ⟨rfl, HS.out, HK.out⟩

end Go.Proofs.YtnminmaklbhakaaGreatDoor
namespace Go.Proofs.YtnminmaklbhakaaGreatDoor
set_option linter.unusedVariables false
set_option linter.unusedSimpArgs false
open Go.RowKit

set_option maxRecDepth 100000 in
set_option maxHeartbeats 800000 in
theorem chart_set (w : World) (p g n c : Nat) (l : List Bool) (A : Option Addr) (m mc : Nat) (xs : List Int) (h : StopsAt w p g n c l) (hx : Src w A m (xs.map (Value.int .i64))) (hfar : 0 < n → 0 < m → blk A ≠ some g) (hm : m ≤ 1000000) :
    Calls Tryz.prog 94 #[.pointer (some ⟨p, 0, none⟩), .slice A m mc] w fun e w' => e = .returned (.tuple #[]) ∧ StopsAt w' p g n c (putL true l xs) ∧ Keep (fun i => i = g ∧ 0 < n) w w' := by
  have hP := Lib.hid (chart_put w p g n c l true A m mc xs h hx hfar hm)
  clear h hx hfar
  go_enter Tryz.func94, Tryz.ntmps94
  go_wp2_with fail
  refine hP.out.mono ?_
  rintro e w1 ⟨rfl, h1, h2⟩
  have H1 := Lib.hid h1
  have H2 := Lib.hid h2
  clear h1 h2 hP
  go_wp2_with fail
  go_end0
  exact ⟨rfl, H1.out, H2.out⟩

set_option maxRecDepth 100000 in
set_option maxHeartbeats 800000 in
theorem chart_clear (w : World) (p g n c : Nat) (l : List Bool) (A : Option Addr) (m mc : Nat) (xs : List Int) (h : StopsAt w p g n c l) (hx : Src w A m (xs.map (Value.int .i64))) (hfar : 0 < n → 0 < m → blk A ≠ some g) (hm : m ≤ 1000000) :
    Calls Tryz.prog 128 #[.pointer (some ⟨p, 0, none⟩), .slice A m mc] w fun e w' => e = .returned (.tuple #[]) ∧ StopsAt w' p g n c (putL false l xs) ∧ Keep (fun i => i = g ∧ 0 < n) w w' := by
  have hP := Lib.hid (chart_put w p g n c l false A m mc xs h hx hfar hm)
  clear h hx hfar
  go_enter Tryz.func128, Tryz.ntmps128
  go_wp2_with fail
  refine hP.out.mono ?_
  rintro e w1 ⟨rfl, h1, h2⟩
  have H1 := Lib.hid h1
  have H2 := Lib.hid h2
  clear h1 h2 hP
  go_wp2_with fail
  go_end0
  exact ⟨rfl, H1.out, H2.out⟩

theorem zero_bool (w : World) : (zeroValue 4).run Tryz.prog w = .ok (.bool false) w := by kernel_rfl

theorem Row.sets1 {w : World} {b off n cap : Nat} {xs : List Value} (h : Row w b off n cap xs) (us : List Value) (hu : us.length = n) : Row (w.setCells b off us) b off n cap us := by
  refine ⟨hu, h.le, h.cm, fun j u hj => ?_, fun j hj => ?_⟩
  · have hjl : j < us.length := by
      rcases Nat.lt_or_ge j us.length with x | x
      · exact x
      · rw [List.getElem?_eq_none x] at hj; cases hj
    have := World.cell?_setCells_in b us off w (fun k hk => (h.can k (by have := h.le; omega)).1) j hjl
    rw [this]
    rw [List.getElem?_eq_getElem hjl] at hj
    exact hj
  · rw [World.frozen?_setCells]
    refine ⟨?_, (h.can j hj).2⟩
    by_cases e : j < us.length
    · have := World.cell?_setCells_in b us off w (fun k hk => (h.can k (by have := h.le; omega)).1) j e
      rw [this]; rfl
    · rw [World.cell?_setCells_out _ _ _ _ _ (fun _ _ => by simp; omega)]
      exact (h.can j hj).1

theorem StopsAt.none {w : World} {p g n c : Nat} {l : List Bool} (h : StopsAt w p g n c l) : StopsAt (w.setCells g 0 (List.replicate n (.bool false))) p g n c (List.replicate n false) := by
  have k1 : Keep (· = g) w (w.setCells g 0 (List.replicate n (.bool false))) := keep_setCells (S := fun x => x = g) g (fun _ => rfl) _ _ _ (Keep.refl _ w)
  refine ⟨h.cs.keep k1 (fun e => h.ne e.symm), ?_, h.ne, Nat.lt_of_lt_of_le h.lg k1.size, h.le⟩
  have := h.row.sets1 (List.replicate n (.bool false)) (by simp)
  rwa [List.map_replicate]

set_option maxRecDepth 100000 in
set_option maxHeartbeats 800000 in
theorem chart_none (w : World) (p g n c : Nat) (l : List Bool) (h : StopsAt w p g n c l) :
    Calls Tryz.prog 129 #[.pointer (some ⟨p, 0, none⟩)] w fun e w' => e = .returned (.tuple #[]) ∧ StopsAt w' p g n c (List.replicate n false) ∧ Keep (fun i => i = g ∧ 0 < n) w w' := by
  have hC := Lib.hid (chart_columns w p g n c l h)
  have hcl : ∀ ty, (Builtin.clear_ #[89] ty #[.slice (some ⟨g, 0, none⟩) n c]).run Tryz.prog w = .ok (.tuple #[]) (w.setCells g 0 (List.replicate n (.bool false))) := fun ty => by
    rcases Nat.eq_zero_or_pos n with h0 | h0
    · subst h0
      simp [Builtin.clear_, run_underlying Tryz.underlying89, World.setCells]
    · exact Lib.run_clear_slice w _ _ ty _ Tryz.underlying89 zero_bool rfl rfl g 0 n c h0 (fun j hj => (h.row.can j (by have := h.row.le; omega)).1) (fun j hj => (h.row.can j (by have := h.row.le; omega)).2)
  have HS := Lib.hid h.none
  have HK : Hid (Keep (fun i => i = g ∧ 0 < n) w (w.setCells g 0 (List.replicate n (.bool false)))) := Lib.hid (by
    rcases Nat.eq_zero_or_pos n with h0 | h0
    · subst h0
      exact Keep.refl _ w
    · exact keep_setCells (S := fun i => i = g ∧ 0 < n) g (fun _ => ⟨rfl, h0⟩) _ _ _ (Keep.refl _ w))
  clear h
  go_enter Tryz.func129, Tryz.ntmps129
  go_wp2_with fail
  refine hC.out.mono ?_
  rintro e w1 ⟨rfl, rfl⟩
  go_wp2_with fail
  go_end0
  exact ⟨rfl, HS.out, HK.out⟩

end Go.Proofs.YtnminmaklbhakaaGreatDoor
namespace Go.Proofs.YtnminmaklbhakaaGreatDoor
set_option linter.unusedVariables false
set_option linter.unusedSimpArgs false
open Go.RowKit

theorem own_none (w : World) (e : TypeId) (z : Nat) : (w.alloc (.cells #[] e)).ownsRow w.heap.size e z (.slice (some ⟨w.heap.size, 0, none⟩) 0 0) 0 [] :=
  ⟨by simp, .inr ⟨w.heap.size, 0, #[], rfl, Nat.le_refl _, heap_alloc_new w _, Nat.le_refl _, by unfold maxLen; omega, by simp, by simp⟩⟩

/-- An own row is a row; its block is new. -/
theorem own_row {w : World} {B n c : Nat} {A : Option Addr} {e : TypeId} {xs : List Value} (h : w.ownsRow B e 1 (.slice A n c) n xs) (hs : A ≠ none) :
    ∃ g, A = some ⟨g, 0, none⟩ ∧ B ≤ g ∧ g < w.heap.size ∧ Row w g 0 n c xs := by
  rcases h.2 with ⟨h1, h2⟩ | ⟨g, cap, cur, h1, hB, hg, q1, q2, q3, q4⟩
  · injection h1 with hA hn hc
    exact absurd hA hs
  · injection h1 with hA hn hc
    subst hA hc
    have hr := Row.of_block hg (.inl (Nat.le_refl _)) (n := n) (by omega) (by omega)
    refine ⟨g, rfl, hB, lt_heap hg, ?_⟩
    have e1 : cur.size = c := by omega
    rw [e1] at hr
    have e2 : cur.toList.take n = xs := by simpa using q4
    rwa [e2] at hr

theorem run_append_zero {P : Program} (w : World) (t ty e : TypeId) (i : TypeInfo) (ht : P.underlying t = some (.slice e)) (hi : P.info? e = some i) (A A2 : Option Addr) (n c c2 : Nat) (hc : n ≤ c) (hA : c ≤ maxLen) :
    (Builtin.append_ #[t, t] ty #[.slice A n c, .slice A2 0 c2]).run P w = .ok (.slice A n c) w := by
  have hm : ¬ 9223372036854775807 < n := by unfold maxLen at hA; omega
  rcases A2 with _ | a <;> rcases A with _ | b
  all_goals simp [Builtin.append_, run_underlying ht, sizeOf, typeInfo, hi, Builtin.lenOf, Builtin.firstCells, hc, hA, hm, loadCells, loadCellsFrom, storeCells]

/-- A clone of bools. -/
def CloneB (n : Nat) (l : List Bool) (w : World) (e : Ending) (w' : World) : Prop :=
  ∃ g' c', e = .returned (.slice (some ⟨g', 0, none⟩) n c') ∧ w.heap.size ≤ g' ∧ g' < w'.heap.size ∧ Row w' g' 0 n c' (l.map Value.bool) ∧ Below w.heap.size w w'

/-- Behind Copy. -/
def CopyB (n : Nat) (l : List Bool) (w : World) (e : Ending) (w' : World) : Prop :=
  ∃ p' g' c', e = .returned (.pointer (some ⟨p', 0, none⟩)) ∧ w.heap.size ≤ p' ∧ w.heap.size ≤ g' ∧ StopsAt w' p' g' n c' l ∧ Below w.heap.size w w'

end Go.Proofs.YtnminmaklbhakaaGreatDoor
namespace Go.Proofs.YtnminmaklbhakaaGreatDoor
set_option linter.unusedVariables false
set_option linter.unusedSimpArgs false
open Go.RowKit

theorem made_bools (n : Nat) : madeCells (Value.bool false).cells (n * 1) = Array.replicate n (Value.bool false) := by
  apply Array.ext
  · rw [size_madeCells]; simp
  · intro i h1 h2
    simp [madeCells, Value.cells, Nat.mod_one]

theorem row_made (w : World) (n : Nat) (hn : n ≤ 40) (t : TypeId) : Row (w.alloc (.cells (Array.replicate n (Value.bool false)) t)) w.heap.size 0 n n ((newT n 8).map Value.bool) := by
  have h := Row.of_block (n := n) (heap_alloc_new w (.cells (Array.replicate n (Value.bool false)) t)) (.inl (Nat.le_refl _)) (by simp) (by simp [maxLen]; omega)
  rw [newT_zero, List.map_replicate]
  simpa using h

theorem mk_bools (n : Nat) (hn : n ≤ 40) (V : World) : (Instr.makeSlice 89 (.int .i64 (n : Int)) (.int .i64 (n : Int))).run Tryz.prog V = .ok (.slice (some ⟨V.heap.size, 0, none⟩) n n) (V.alloc (.cells (Array.replicate n (Value.bool false)) 4)) := by
  obtain ⟨i0, hi0, hz0, hz1, hz2⟩ := info_parts bool_info
  have h := run_make (P := Tryz.prog) V 89 4 i0 _ Tryz.underlying89 hi0 hz0 .i64 .i64 (n : Int) (n : Int) (by omega) (by omega) (by rw [hz2]; omega) (by omega)
  rw [hz1] at h
  simp only [Int.toNat_natCast] at h
  rwa [made_bools] at h

/-- Behind New. -/
def NewB (n : Nat) (w : World) (e : Ending) (w' : World) : Prop :=
  e = .returned (.pointer (some ⟨w.heap.size + 1, 0, none⟩)) ∧ StopsAt w' (w.heap.size + 1) w.heap.size n n (newL n) ∧ Below w.heap.size w w'

set_option maxRecDepth 100000 in
set_option maxHeartbeats 1600000 in
theorem chart_new (w : World) (x : Int) (n : Nat) (hx : min (max x 0) 40 = (n : Int)) :
    Calls Tryz.prog 23 #[.int .i64 x] w (NewB n w) := by
  have hn40 : n ≤ 40 := by omega
  have hni : (n : Int) ≤ 40 := by omega
  have hmk := mk_bools n hn40
  obtain ⟨p, hp⟩ : ∃ p, p = w.heap.size + 1 := ⟨_, rfl⟩
  obtain ⟨g, hg⟩ : ∃ g, g = w.heap.size := ⟨_, rfl⟩
  obtain ⟨w2, hw2⟩ : ∃ w2, w2 = (w.alloc (.cells (Array.replicate n (Value.bool false)) 4)).alloc (.cells #[.slice (some ⟨w.heap.size, 0, none⟩) n n] 91) := ⟨_, rfl⟩
  have HS : Hid (StopsAt w2 p g n n (newT n (8 * (((0 : Nat) : Int) + 1)))) := Lib.hid (by
    have h1 := Cell.box (w := w.alloc (.cells (Array.replicate n (Value.bool false)) 4)) (cs := #[.slice (some ⟨w.heap.size, 0, none⟩) n n]) (t := 91) 0 rfl
    rw [show (w.alloc (.cells (Array.replicate n (Value.bool false)) 4)).heap.size = p from by rw [hp]; simp] at h1
    rw [hw2, hg]
    exact ⟨h1, (row_made w n hn40 _).alloc _, by omega, by simp; omega, hn40⟩)
  have HB : Hid (Below g w w2) := Lib.hid (by rw [hw2, hg]; exact ((Below.refl _ w).alloc (Nat.le_refl _) _).alloc (by simp) _)
  have HP := Lib.hid hp
  have HG := Lib.hid hg
  go_enter Tryz.func23, Tryz.ntmps23
  go_wp2_with fail
  rw [← hw2]
  try rw [show w.heap.size + 1 = p from hp.symm]
  clear hmk hw2 hp hg hx
  go_loopw [4] (fun i wr => ∃ j : Nat, i = .int .i64 (8 * ((j : Int) + 1)) ∧ j ≤ 6 ∧ Hid (StopsAt wr p g n n (newT n (8 * ((j : Int) + 1)))) ∧ Hid (Below g w wr)) (fun i _ => 60 - (intOf i).toNat)
  case atStart => exact ⟨0, rfl, by omega, HS, HB⟩
  case round =>
    obtain ⟨j, rfl, hj, HS2, HB2⟩ := hrel
    clear HS HB
    have cs := HS2.out.cs.1
    by_cases hlt : 8 * (j + 1) < n
    · obtain ⟨z, hz⟩ : ∃ z : Nat, z = 8 * (j + 1) := ⟨_, rfl⟩
      have hzi : 8 * ((j : Int) + 1) = (z : Int) := by omega
      have t1 : (z : Int) < (n : Int) := by omega
      have t2 : (0 : Int) ≤ (z : Int) := by omega
      obtain ⟨ob, -, hob⟩ := HS2.out.at' (k := z) (by omega)
      have hfz : wr.frozen? ⟨g, z, none⟩ = false := by have := (HS2.out.row.can z (by omega)).2; rwa [Nat.zero_add] at this
      have HS3 : Hid (StopsAt (wr.setCell ⟨g, z, none⟩ (.bool true)) p g n n (newT n (8 * (((j + 1 : Nat) : Int) + 1)))) := Lib.hid (by
        have := HS2.out.set (k := z) (by omega) true
        rw [hz] at this ⊢
        rw [newT_set n j hlt] at this
        rwa [show 8 * (((j + 1 : Nat) : Int) + 1) = 8 * ((j : Int) + 1) + 8 from by omega])
      have HB3 : Hid (Below g w (wr.setCell ⟨g, z, none⟩ (.bool true))) := Lib.hid (Below.setCell (p := ⟨g, z, none⟩) HB2.out (Nat.le_refl _) _)
      have HZ := Lib.hid hz
      have HLT := Lib.hid hlt
      rw [hzi]
      clear HS2 HB2 hz hzi hlt
      go_wp2_with fail
      go_roundw
      case rel => exact ⟨j + 1, by have := HZ.out; go_num, by have := HLT.out; omega, HS3, HB3⟩
      case measure => have := HZ.out; have := HLT.out; simp [intOf]; omega
    · have t1 : ¬ (8 * ((j : Int) + 1) < (n : Int)) := by omega
      have HE : Hid (StopsAt wr p g n n (newL n)) := Lib.hid (by have := HS2.out; rwa [newT_end n _ (by omega)] at this)
      clear HS2
      go_wp2_with fail
      go_ret
      have hp := HP.out
      have hg := HG.out
      have h1 := HE.out
      have h2 := HB2.out
      unfold NewB
      rw [← hp, ← hg]
      exact ⟨rfl, h1, h2⟩

set_option maxRecDepth 100000 in
set_option maxHeartbeats 800000 in
theorem nil_put (w : World) (b : Bool) (g : Nat) (x : Int) (hx : w.cell? ⟨g, 0, none⟩ = some (.int .i64 x)) :
    Calls Tryz.prog 120 #[.pointer none, .bool b, .slice (some ⟨g, 0, none⟩) 1 1] w fun e w' => e = .returned (.tuple #[]) ∧ w' = w := by
  go_enter Tryz.func120, Tryz.ntmps120
  go_wp2_with fail
  refine (chart_columns_nil _).mono ?_
  rintro e w1 ⟨rfl, rfl⟩
  go_wp2_with fail
  go_loopw [8, 13] (fun _ i wr => ∃ k : Nat, i = .int .i64 k ∧ k ≤ 1 ∧ wr = w1) (fun _ i _ => 1 - (intOf i).toNat)
  case atStart => exact ⟨0, rfl, by omega, rfl⟩
  case round =>
    obtain ⟨k, rfl, hk, rfl⟩ := hrel
    rcases Nat.lt_or_ge k 1 with e | e
    · have hk0 : k = 0 := by omega
      subst hk0
      by_cases hx0 : x ≥ 0
      · have hx1 : ¬ x < 0 := by omega
        go_wp2_with fail
        go_roundw
        case rel => exact ⟨1, by go_num, by omega, trivial⟩
        case measure => simp [intOf]
      · go_wp2_with fail
        go_roundw
        case rel => exact ⟨1, by go_num, by omega, trivial⟩
        case measure => simp [intOf]
    · have hk1 : k = 1 := by omega
      subst hk1
      go_wp2_with fail
      go_end0
      exact ⟨rfl, rfl⟩

theorem nil_set (w : World) (g : Nat) (x : Int) (hx : w.cell? ⟨g, 0, none⟩ = some (.int .i64 x)) :
    Calls Tryz.prog 94 #[.pointer none, .slice (some ⟨g, 0, none⟩) 1 1] w fun e w' => e = .returned (.tuple #[]) ∧ w' = w := by
  go_enter Tryz.func94, Tryz.ntmps94
  go_wp2_with fail
  refine (nil_put w true g x hx).mono ?_
  rintro e w1 ⟨rfl, rfl⟩
  go_wp2_with fail
  go_end0
  exact ⟨rfl, rfl⟩

theorem nil_clear (w : World) (g : Nat) (x : Int) (hx : w.cell? ⟨g, 0, none⟩ = some (.int .i64 x)) :
    Calls Tryz.prog 128 #[.pointer none, .slice (some ⟨g, 0, none⟩) 1 1] w fun e w' => e = .returned (.tuple #[]) ∧ w' = w := by
  go_enter Tryz.func128, Tryz.ntmps128
  go_wp2_with fail
  refine (nil_put w false g x hx).mono ?_
  rintro e w1 ⟨rfl, rfl⟩
  go_wp2_with fail
  go_end0
  exact ⟨rfl, rfl⟩

set_option maxRecDepth 100000 in
theorem nil_none (w : World) :
    Calls Tryz.prog 129 #[.pointer none] w fun e w' => e = .returned (.tuple #[]) ∧ w' = w := by
  have hcl : ∀ ty, (Builtin.clear_ #[89] ty #[.slice none 0 0]).run Tryz.prog w = .ok (.tuple #[]) w := fun ty => by
    simp [Builtin.clear_, run_underlying Tryz.underlying89]
  go_enter Tryz.func129, Tryz.ntmps129
  go_wp2_with fail
  refine (chart_columns_nil _).mono ?_
  rintro e w1 ⟨rfl, rfl⟩
  go_wp2_with fail
  go_end0
  exact ⟨rfl, rfl⟩

theorem nil_next (w : World) (x : Int) :
    Calls Tryz.prog 69 #[.pointer none, .int .i64 x] w fun e w' => e = .returned (.int .i64 0) ∧ w' = w := by
  go_enter Tryz.func69, Tryz.ntmps69
  go_wp2_with fail
  refine (chart_columns_nil _).mono ?_
  rintro e w1 ⟨rfl, rfl⟩
  go_wp2_with fail
  go_loopw [6, 7, 12] (fun _ _ i wr => i = .int .i64 0 ∧ wr = w1) (fun _ _ i _ => 0)
  case atStart => exact ⟨rfl, rfl⟩
  case round =>
    obtain ⟨rfl, rfl⟩ := hrel
    go_wp2_with fail
    go_ret
    exact ⟨rfl, rfl⟩

end Go.Proofs.YtnminmaklbhakaaGreatDoor
namespace Go.Proofs.YtnminmaklbhakaaGreatDoor
set_option linter.unusedVariables false
set_option linter.unusedSimpArgs false
open Go.RowKit

theorem chart_built {P : Program} {ops : Array Oper} {rest : List Oper} {o : Oper} {a : Act} {w : World} {Q : Exit → Act → World → Prop} (hgd : o.guard = none) (t : TypeId) (parts : Array (Nat × Operand)) (ho : o.op = .build t parts) (cells : Array Value)
    (h : P.built t (parts.map fun (i, x) => (i, a.eval x)).toList = some cells) (hK : wpList P ops Q rest (a.put o.dst (.agg cells)) w) : wpList P ops Q (o :: rest) a w :=
  wpList_plain hgd fun K hK' => by
    unfold Oper.wp execOp
    simp only [ho, Sem.run_bind, run_build w t _ cells h, Result.andThen_ok]
    exact hK' _ _ hK

theorem wpList_sliced {P : Program} {ops : Array Oper} {rest : List Oper} {o : Oper} {a : Act} {w w' : World} {Q : Exit → Act → World → Prop} (hgd : o.guard = none) (t : TypeId) (len : Nat) (parts : Array (Nat × Operand)) (ho : o.op = .buildSlice t len parts) (v : Value)
    (h : (Instr.buildSlice t len (parts.map fun (i, x) => (i, a.eval x))).run P w = .ok v w') (hK : wpList P ops Q rest (a.put o.dst v) w') : wpList P ops Q (o :: rest) a w :=
  wpList_plain hgd fun K hK' => by
    unfold Oper.wp execOp
    simp only [ho, Sem.run_bind, h, Result.andThen_ok]
    exact hK' _ _ hK

theorem run_store_new {P : Program} (w : World) (t : TypeId) (Z cs : Array Value) (hz : cs.size = Z.size) (h1 : ∀ v ∈ cs.toList, v.oneCell' = true) : (storeCells ⟨w.heap.size, 0, none⟩ cs.toList).run P (w.alloc (.cells Z t)) = .ok () (w.alloc (.cells cs t)) := by
  have h := run_storeCells_from (P := P) w.heap.size t cs.toList 0 Z (w.alloc (.cells Z t)) (heap_alloc_new w _) (by simp [hz]) h1
  rw [h]
  congr 1
  unfold World.setRow World.alloc
  congr 1
  apply Array.ext
  · simp
  · intro k h2 h3
    simp only [Array.getElem_modify, Array.getElem_push]
    have h4 : k < w.heap.size + 1 := by simpa using h3
    by_cases h5 : k = w.heap.size
    · subst h5; simp
    · have : k < w.heap.size := by omega
      simp [this, Ne.symm h5]

/-- The set of lines. -/
def linesT : List Int := [32, 9670, 9618, 9225, 9228, 9229, 9226, 176, 177, 9252, 9227, 9496, 9488, 9484, 9492, 9532, 9146, 9147, 9472, 9148, 9149, 9500, 9508, 9524, 9516, 9474, 8804, 8805, 960, 8800, 163, 183]
def lineM (r : Int) : Int := if 95 ≤ r ∧ r ≤ 126 then linesT.getD (r - 95).toNat 0 else r
def mapM (s r : Int) : Int := if s = 65 ∧ r = 35 then 163 else if s = 48 then lineM r else r
def linesC : Array Value := (linesT.map (Value.int .i32)).toArray
theorem lines_at (k : Nat) (hk : k < 32) : linesC[k]? = some (.int .i32 (lineM ((k : Int) + 95))) := by
  have hl : linesT.length = 32 := rfl
  unfold lineM linesC
  rw [if_pos (by omega), show ((k : Int) + 95 - 95).toNat = k from by omega]
  simp only [List.getElem?_toArray, List.getElem?_map]
  rw [List.getElem?_eq_getElem (by rw [hl]; exact hk), Option.map_some, List.getD_eq_getElem?_getD, List.getElem?_eq_getElem (by rw [hl]; exact hk)]
  rfl
theorem lines_one : ∀ v ∈ linesC.toList, v.oneCell' = true := by
  intro v hv
  have : v ∈ linesT.map (Value.int .i32) := by simpa [linesC] using hv
  obtain ⟨x, _, rfl⟩ := List.mem_map.1 this
  rfl

set_option maxRecDepth 100000 in
set_option maxHeartbeats 1600000 in
theorem chart_line (w : World) (r : Int) (hb : -2147483648 ≤ r ∧ r ≤ 2147483647) :
    Calls Tryz.prog 88 #[.int .i32 r] w fun e w' => e = .returned (.int .i32 (lineM r)) ∧ Below w.heap.size w w' := by
  obtain ⟨CS, hCS⟩ : ∃ CS, CS = linesC := ⟨_, rfl⟩
  have HBT : Hid (Tryz.prog.built 175 [(0, .int .i32 32), (1, .int .i32 9670), (2, .int .i32 9618), (3, .int .i32 9225), (4, .int .i32 9228), (5, .int .i32 9229), (6, .int .i32 9226), (7, .int .i32 176), (8, .int .i32 177), (9, .int .i32 9252), (10, .int .i32 9227), (11, .int .i32 9496), (12, .int .i32 9488), (13, .int .i32 9484), (14, .int .i32 9492), (15, .int .i32 9532), (16, .int .i32 9146), (17, .int .i32 9147), (18, .int .i32 9472), (19, .int .i32 9148), (20, .int .i32 9149), (21, .int .i32 9500), (22, .int .i32 9508), (23, .int .i32 9524), (24, .int .i32 9516), (25, .int .i32 9474), (26, .int .i32 8804), (27, .int .i32 8805), (28, .int .i32 960), (29, .int .i32 8800), (30, .int .i32 163), (31, .int .i32 183)] = some CS) := Lib.hid (by rw [hCS]; kernel_rfl)
  have HST : Hid (∀ Z : Array Value, Z.size = 32 → (storeCells ⟨w.heap.size, 0, none⟩ CS.toList).run Tryz.prog (w.alloc (.cells Z 175)) = .ok () (w.alloc (.cells CS 175))) := Lib.hid (fun Z hZ => run_store_new (P := Tryz.prog) w 175 Z CS (by rw [hZ, hCS]; kernel_rfl) (by rw [hCS]; exact lines_one))
  have hcs : CS.size = 32 := by rw [hCS]; kernel_rfl
  have HAT : Hid (∀ k, k < 32 → CS[k]? = some (.int .i32 (lineM ((k : Int) + 95)))) := Lib.hid (by rw [hCS]; exact lines_at)
  clear hCS
  by_cases hin : 95 ≤ r ∧ r ≤ 126
  · obtain ⟨k, rfl⟩ : ∃ k : Nat, r = (k : Int) + 95 := ⟨(r - 95).toNat, by omega⟩
    have hk : k < 32 := by omega
    have hki : (k : Int) < 32 := by omega
    have hk0 : (0 : Int) ≤ (k : Int) := by omega
    have hc : (w.alloc (.cells CS 175)).cell? ⟨w.heap.size, k, none⟩ = some (.int .i32 (lineM ((k : Int) + 95))) := by
      rw [cell_of_row _ _ k _ _ (0, 0) (heap_alloc_new w _)]
      exact HAT.out k hk
    obtain ⟨z, hz⟩ : ∃ z, z = lineM ((k : Int) + 95) := ⟨_, rfl⟩
    rw [← hz] at hc ⊢
    clear hz
    go_enter Tryz.func88, Tryz.ntmps88
    go_wp2_with (with_reducible refine chart_built rfl 175 _ rfl CS ?hbuilt ?_)
    case hbuilt => first | exact HBT.out | (simp; exact HBT.out)
    rw [HST.out _ rfl]
    go_wp2_with fail
    go_ret
    exact ⟨rfl, (Below.refl _ w).alloc (Nat.le_refl _) _⟩
  · have hz : lineM r = r := by unfold lineM; rw [if_neg hin]
    obtain ⟨z, hz2⟩ : ∃ z, z = lineM r := ⟨_, rfl⟩
    rw [hz]
    clear hz hz2
    by_cases h1 : r < 95
    · have t1 : r - 95 < 0 := by omega
      clear hin
      go_enter Tryz.func88, Tryz.ntmps88
      go_wp2_with (with_reducible refine chart_built rfl 175 _ rfl CS ?hbuilt ?_)
      case hbuilt => first | exact HBT.out | (simp; exact HBT.out)
      rw [HST.out _ rfl]
      go_wp2_with fail
      go_ret
      exact ⟨rfl, (Below.refl _ w).alloc (Nat.le_refl _) _⟩
    · have t1 : ¬ (r - 95 < 0) := by omega
      have t2 : r - 95 ≥ 32 := by omega
      clear hin
      go_enter Tryz.func88, Tryz.ntmps88
      go_wp2_with (with_reducible refine chart_built rfl 175 _ rfl CS ?hbuilt ?_)
      case hbuilt => first | exact HBT.out | (simp; exact HBT.out)
      rw [HST.out _ rfl]
      go_wp2_with fail
      go_ret
      exact ⟨rfl, (Below.refl _ w).alloc (Nat.le_refl _) _⟩

set_option maxRecDepth 100000 in
set_option maxHeartbeats 1600000 in
theorem chart_map (w : World) (s r : Int) (hb : -2147483648 ≤ r ∧ r ≤ 2147483647) :
    Calls Tryz.prog 66 #[.int .u8 s, .int .i32 r] w fun e w' => e = .returned (.int .i32 (mapM s r)) ∧ Below w.heap.size w w' := by
  have hL := Lib.hid (chart_line w r hb)
  obtain ⟨z, hz⟩ : ∃ z, z = lineM r := ⟨_, rfl⟩
  rw [← hz] at hL
  have HZ : Hid (∀ s, mapM s r = if s = 65 ∧ r = 35 then 163 else if s = 48 then z else r) := Lib.hid (fun s => by rw [hz]; rfl)
  clear hz
  by_cases h1 : s = 65
  · subst h1
    by_cases h2 : r = 35
    · subst h2
      go_enter Tryz.func66, Tryz.ntmps66
      go_wp2_with fail
      go_ret
      exact ⟨by rw [HZ.out]; rfl, Below.refl _ _⟩
    · go_enter Tryz.func66, Tryz.ntmps66
      go_wp2_with fail
      go_ret
      exact ⟨by rw [HZ.out, if_neg (fun e => h2 e.2), if_neg (by decide)]; rfl, Below.refl _ _⟩
  · by_cases h3 : s = 48
    · subst h3
      go_enter Tryz.func66, Tryz.ntmps66
      go_wp2_with fail
      refine hL.out.mono ?_
      rintro e w1 ⟨rfl, h⟩
      have HB := Lib.hid h
      clear h hL
      go_wp2_with fail
      go_ret
      exact ⟨by rw [HZ.out, if_neg (fun e => h1 e.1), if_pos rfl]; rfl, HB.out⟩
    · go_enter Tryz.func66, Tryz.ntmps66
      go_wp2_with fail
      go_ret
      exact ⟨by rw [HZ.out, if_neg (fun e => h1 e.1), if_neg h3]; rfl, Below.refl _ _⟩

def knownM (s : Int) : Bool := s == 66 || s == 65 || s == 48
theorem chart_known (w : World) (s : Int) :
    Calls Tryz.prog 95 #[.int .u8 s] w fun e w' => e = .returned (.bool (knownM s)) ∧ w' = w := by
  by_cases h1 : s = 66
  · subst h1
    go_enter Tryz.func95, Tryz.ntmps95
    go_wp2_with fail
    go_ret
    exact ⟨rfl, rfl⟩
  · by_cases h2 : s = 65
    · subst h2
      go_enter Tryz.func95, Tryz.ntmps95
      go_wp2_with fail
      go_ret
      exact ⟨rfl, rfl⟩
    · go_enter Tryz.func95, Tryz.ntmps95
      go_wp2_with fail
      go_ret
      exact ⟨by simp [go_sem, knownM], rfl⟩
end Go.Proofs.YtnminmaklbhakaaGreatDoor

