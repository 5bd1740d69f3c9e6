/- grid: pontoonbook's copyCells, LentCells, SameCells, StaysCells. Own work. -/
import Derived.Test.YtgomnigchfmfhaaGridA
import Derived.Deep.QuietTactic
import Derived.BigQuiet
namespace Go.Proofs.Ytgomnigchfmfhaa
set_option linter.unusedVariables false
set_option linter.unusedSimpArgs false
open Go.RowKit

theorem run_copy_srcz {P : Program} (w : World) (t ty e : TypeId) (i : TypeInfo) (z : Value) (size bytes : Nat) (ht : P.underlying t = some (.slice e)) (hi : P.info? e = some i) (hz : i.zero = some z)
    (hsize : i.size = size) (hby : i.bytes = bytes) (hzs : z.cells.size = size) (hs0 : 0 < size) (A : Option Addr) (m c : Nat) (us : List Value) (hs : Src w A (m * size) us) (h1 : ∀ u ∈ us, u.oneCell' = true)
    (h63 : m ≤ maxLen) (hbytes : m * bytes ≤ 140737488355328) :
    ∃ v' w', (Builtin.append_ #[t, t] ty #[.slice none 0 0, .slice A m c]).run P w = .ok v' w' ∧ w'.ownsRow w.heap.size e size v' m us ∧ Below w.heap.size w w' := by
  rcases Nat.eq_zero_or_pos m with h0 | h0
  · subst h0
    have hn : us = [] := List.eq_nil_of_length_eq_zero (by rw [hs.1, Nat.zero_mul])
    subst hn
    rcases A with _ | ad
    · refine ⟨.slice none 0 0, w, ?_, World.ownsRow_nil _ _ _ _, Below.refl _ _⟩
      simp [Builtin.append_, run_underlying ht, sizeOf, typeInfo, hi, Builtin.lenOf, Builtin.firstCells]
    · obtain ⟨v', w', hr, h2, h3, _⟩ := own_at (P := P) w w.heap.size t ty e i z size bytes ht hi hz hsize hby hzs hs0 (.slice none 0 0) 0 [] (World.ownsRow_nil _ _ _ _) ad 0 c [] (by simp) (fun j u hj => by simp at hj) (fun u hu => by simp at hu) (by unfold maxLen; omega) (by omega) (Nat.le_refl _)
      exact ⟨v', w', hr, by simpa using h2, h3.below (Nat.le_refl _) (fun k hk e => by simp [Value.ownBlock] at e)⟩
  · obtain ⟨b, off, rfl, hb, hc⟩ := hs.2 (Nat.mul_pos h0 hs0)
    obtain ⟨v', w', hr, h2, h3, _⟩ := own_at (P := P) w w.heap.size t ty e i z size bytes ht hi hz hsize hby hzs hs0 (.slice none 0 0) 0 [] (World.ownsRow_nil _ _ _ _) ⟨b, off, none⟩ m c us hs.1 (fun j u hj => by rw [add_mk]; exact hc j u hj) h1 (by omega) (by rw [Nat.zero_add]; exact hbytes) (Nat.le_refl _)
    exact ⟨v', w', hr, by simpa using h2, h3.below (Nat.le_refl _) (fun k hk e => by simp [Value.ownBlock] at e)⟩

def flatL (xs : List CellM) : List Value := xs.flatMap cellCs
theorem flatL_len (xs : List CellM) : (flatL xs).length = xs.length * 6 := flat6_len xs
theorem flatL_one (xs : List CellM) : ∀ u ∈ flatL xs, u.oneCell' = true := by
  intro u hu
  obtain ⟨c, _, hc⟩ := List.mem_flatMap.1 hu
  exact cellCs_one c u hc
theorem flatL_at : ∀ (xs : List CellM) (k i : Nat) (c : CellM) (v : Value), xs[k]? = some c → (cellCs c)[i]? = some v → (flatL xs)[k * 6 + i]? = some v := by
  intro xs
  induction xs with
  | nil => intro k i c v h; simp at h
  | cons x r ih =>
    intro k i c v h hv
    have hl : (cellCs x).length = 6 := rfl
    have hi := cellCs_lt hv
    rw [show flatL (x :: r) = cellCs x ++ flatL r from by simp [flatL]]
    cases k with
    | zero =>
      rw [List.getElem?_cons_zero] at h
      injection h with h
      subst h
      rw [List.getElem?_append_left (by omega), Nat.zero_mul, Nat.zero_add]
      exact hv
    | succ k =>
      rw [List.getElem?_cons_succ] at h
      rw [List.getElem?_append_right (by omega), show (k + 1) * 6 + i - (cellCs x).length = k * 6 + i from by omega]
      exact ih k i c v h hv

set_option maxRecDepth 100000 in
set_option maxHeartbeats 800000 in
theorem copy_Cells (A : Option Addr) (n c : Nat) (xs : List CellM) (w : World) (h : Src w A (n * 6) (flatL xs)) (hn : n ≤ 1099511627776) :
    Calls Try.prog 19 #[.slice A n c] w fun e w' => ∃ v, e = .returned v ∧ w'.ownsRow w.heap.size 40 6 v n (flatL xs) ∧ Below w.heap.size w w' := by
  obtain ⟨i0, hi0, hz0, hz1, hz2⟩ := info_parts cell_row
  obtain ⟨v, w1, hr, h1, h2⟩ := run_copy_srcz (P := Try.prog) w 22 22 40 i0 _ 6 32 Try.underlying22 hi0 hz0 hz1 hz2 rfl (by decide) A n c _ h (flatL_one xs) (by unfold maxLen; omega) (by omega)
  have H1 := Lib.hid h1
  have H2 := Lib.hid h2
  have HR := Lib.hid hr
  clear h1 h2 h hr
  go_enter Try.func19, Try.ntmps19
  go_wp2_with (at_builtin; refine wpList_plain rfl fun K hK => ?_; unfold Oper.wp execOp; simp only [resolve, invoke, builtin, Sem.run_bind, Sem.run_pure, Result.andThen_ok, List.map_toArray, List.map_cons, List.map_nil]; rw [show (Builtin.append_ _ _ #[Act.eval _ _, Act.eval _ _]).run _ _ = _ from HR.out]; refine hK _ _ ?_)
  go_ret
  exact ⟨_, rfl, H1.out, H2.out⟩

def mark77 : CellM := ⟨77, ⟨0, 0, false, false, false⟩⟩
/-- A list that was lent. -/
structure LentC (w : World) (g c : Nat) (xs : List CellM) : Prop where
  own : w.ownsRow 0 40 6 (.slice (some ⟨g, 0, none⟩) (xs.length + 1) c) (xs.length + 1) (flatL xs ++ cellCs mark77)
  lt : g < w.heap.size
  cells : ∀ j v, (flatL xs ++ cellCs mark77)[j]? = some v → w.cell? ⟨g, j, none⟩ = some v
  cap : xs.length + 1 ≤ c
  cm : c ≤ 9223372036854775807
namespace LentC
theorem keep {S : Nat → Prop} {w w' : World} {g c : Nat} {xs : List CellM} (h : LentC w g c xs) (k : Keep S w w') (hn : ¬ S g) : LentC w' g c xs :=
  ⟨own_keep h.own k (fun i hi => by simp [Value.ownBlock] at hi; subst hi; exact hn), Nat.lt_of_lt_of_le h.lt k.size, fun j v hj => (k.cell (p := ⟨g, j, none⟩) h.lt hn).trans (h.cells j v hj), h.cap, h.cm⟩
theorem src {w : World} {g c : Nat} {xs : List CellM} (h : LentC w g c xs) : Src w (some ⟨g, 0, none⟩) (xs.length * 6) (flatL xs) :=
  ⟨flatL_len xs, fun _ => ⟨g, 0, rfl, h.lt, fun i u hu => by
    rw [Nat.zero_add]
    exact h.cells i u (by rw [List.getElem?_append_left (List.getElem?_eq_some_iff.1 hu).1]; exact hu)⟩⟩
theorem mark {w : World} {g c : Nat} {xs : List CellM} (h : LentC w g c xs) : w.cell? ⟨g, xs.length * 6, none⟩ = some (.int .i32 77) :=
  h.cells _ _ (by rw [List.getElem?_append_right (by rw [flatL_len]; omega), flatL_len, Nat.sub_self]; rfl)
end LentC

set_option maxRecDepth 100000 in
set_option maxHeartbeats 1600000 in
theorem lent_Cells (A : Option Addr) (n c : Nat) (xs : List CellM) (w : World) (h : Src w A (n * 6) (flatL xs)) (hn : n ≤ 1099511627776) :
    Calls Try.prog 6 #[.slice A n c] w fun e w' => ∃ g c', e = .returned (.slice (some ⟨g, 0, none⟩) n c') ∧ LentC w' g c' xs ∧ w.heap.size ≤ g ∧ Below w.heap.size w w' := by
  obtain ⟨i0, hi0, hz0, hz1, hz2⟩ := info_parts cell_row
  have hlen := Lib.hid (show xs.length = n from by have := h.1; rw [flatL_len] at this; omega)
  have H := Lib.hid h
  clear h
  go_enter Try.func6, Try.ntmps6
  go_wp2_with fail
  refine (copy_Cells A n c xs _ H.out hn).mono ?_
  rintro r w1 ⟨v, rfl, h1, h2⟩
  have H1 := Lib.hid h1
  have H2 := Lib.hid h2
  clear h1 h2
  go_wp2_with (at_builtin; refine wpList_own_at _ rfl (.tmp 4) (.tmp 6) 22 rfl w.heap.size 40 i0 _ 6 32 Try.underlying22 hi0 hz0 hz1 hz2 rfl (by decide) v n (flatL xs) rfl (own_keep H1.out ((Keep.refl (fun _ => False) w1).alloc _) (fun _ _ x => x)) ⟨w1.heap.size, 0, none⟩ 1 1 (cellCs mark77) rfl rfl (cells_new w1 (cellCs mark77) _ _ rfl) (cellCs_one _) ?c3 ?c4 ?c5 ?_)
  case c3 => unfold maxLen; omega
  case c4 => omega
  case c5 => have := H2.out.size; simp; omega
  intro v' w2 hown hgrow _
  obtain ⟨A2, c2, rfl, hA2⟩ := own_form hown
  obtain ⟨g, rfl⟩ := hA2 (by omega)
  have hg := hown.lt g rfl
  have HO : Hid (LentC w2 g c2 xs) := by
    refine ⟨?_, hg.2, fun j v hj => by (have := hown.cells (g := g) rfl j v hj; rwa [add_mk, Nat.zero_add] at this), ?_, ?_⟩
    · rw [hlen.out]
      exact ⟨hown.1, by
        rcases hown.2 with q | ⟨g', cap, cur, q1, q2, q3⟩
        · exact .inl q
        · exact .inr ⟨g', cap, cur, q1, Nat.zero_le _, q3⟩⟩
    · rw [hlen.out]
      rcases hown.2 with ⟨q, _⟩ | ⟨g', cap, cur, q, _, _, q2, q3, _⟩
      · cases q
      · injection q with _ _ q4
        subst q4
        exact q2
    · rcases hown.2 with ⟨q, _⟩ | ⟨g', cap, cur, q, _, _, q2, q3, _⟩
      · cases q
      · injection q with _ _ q4
        subst q4
        unfold maxLen at q3
        omega
  have HB : Hid (Below w.heap.size w w2) := Lib.hid ((H2.out.alloc H2.out.size _).trans (hgrow.below (by have := H2.out.size; simp; omega) (fun q hq e => by have := (H1.out.lt q e).1; omega)))
  have hg1 := hg.1
  have hnc : n ≤ c2 := by have := HO.out.cap; have := hlen.out; omega
  have hnm : c2 ≤ 9223372036854775807 := HO.out.cm
  clear hown hgrow hg
  go_wp2_with fail
  go_ret
  exact ⟨g, c2, rfl, HO.out, hg1, HB.out⟩

set_option maxRecDepth 100000 in
set_option maxHeartbeats 1600000 in
theorem same_Cells (A B : Option Addr) (n c d : Nat) (xs : List CellM) (w : World) (hA : Src w A (n * 6) (flatL xs)) (hB : Src w B (n * 6) (flatL xs)) (hn : n ≤ 1099511627776) :
    Calls Try.prog 38 #[.slice A n c, .slice B n d] w fun e w' => e = .returned (.bool true) ∧ ∃ k, w' = w.drewN k := by
  have hl : xs.length = n := by have := hA.1; rw [flatL_len] at this; omega
  have HA := Lib.hid hA
  have HB := Lib.hid hB
  have HL := Lib.hid hl
  clear hA hB hl
  go_enter Try.func38, Try.ntmps38
  go_wp2_with fail
  go_loopw [5] (fun i wr => ∃ (k q : Nat), i = .int .i64 k ∧ k ≤ n ∧ wr = w.drewN q) (fun i _ => n - (intOf i).toNat)
  case atStart => exact ⟨0, 0, rfl, by omega, rfl⟩
  case round =>
    obtain ⟨k, q, rfl, hk, rfl⟩ := hrel
    by_cases hlt : k < n
    · obtain ⟨r, hr⟩ : ∃ r, xs[k]? = some r := ⟨xs[k]'(by rw [HL.out]; exact hlt), List.getElem?_eq_getElem _⟩
      obtain ⟨b1, o1, rfl, _, hc1⟩ := HA.out.2 (by omega)
      obtain ⟨b2, o2, rfl, _, hc2⟩ := HB.out.2 (by omega)
      have x10 : w.cell? ⟨b1, o1 + k * 6, none⟩ = some (.int .i32 r.r) := hc1 _ _ (flatL_at xs k 0 r _ hr rfl)
      have x11 : w.cell? ⟨b1, o1 + k * 6 + 1, none⟩ = some (.int .i64 r.a.fg) := hc1 _ _ (flatL_at xs k 1 r _ hr rfl)
      have x12 : w.cell? ⟨b1, o1 + k * 6 + 2, none⟩ = some (.int .i64 r.a.bg) := hc1 _ _ (flatL_at xs k 2 r _ hr rfl)
      have x13 : w.cell? ⟨b1, o1 + k * 6 + 3, none⟩ = some (.bool r.a.b) := hc1 _ _ (flatL_at xs k 3 r _ hr rfl)
      have x14 : w.cell? ⟨b1, o1 + k * 6 + 4, none⟩ = some (.bool r.a.u) := hc1 _ _ (flatL_at xs k 4 r _ hr rfl)
      have x15 : w.cell? ⟨b1, o1 + k * 6 + 5, none⟩ = some (.bool r.a.i) := hc1 _ _ (flatL_at xs k 5 r _ hr rfl)
      have x20 : w.cell? ⟨b2, o2 + k * 6, none⟩ = some (.int .i32 r.r) := hc2 _ _ (flatL_at xs k 0 r _ hr rfl)
      have x21 : w.cell? ⟨b2, o2 + k * 6 + 1, none⟩ = some (.int .i64 r.a.fg) := hc2 _ _ (flatL_at xs k 1 r _ hr rfl)
      have x22 : w.cell? ⟨b2, o2 + k * 6 + 2, none⟩ = some (.int .i64 r.a.bg) := hc2 _ _ (flatL_at xs k 2 r _ hr rfl)
      have x23 : w.cell? ⟨b2, o2 + k * 6 + 3, none⟩ = some (.bool r.a.b) := hc2 _ _ (flatL_at xs k 3 r _ hr rfl)
      have x24 : w.cell? ⟨b2, o2 + k * 6 + 4, none⟩ = some (.bool r.a.u) := hc2 _ _ (flatL_at xs k 4 r _ hr rfl)
      have x25 : w.cell? ⟨b2, o2 + k * 6 + 5, none⟩ = some (.bool r.a.i) := hc2 _ _ (flatL_at xs k 5 r _ hr rfl)
      have hki : ((k : Int) < (n : Int)) := by omega
      have hk0 : (0 : Int) ≤ (k : Int) := by omega
      obtain ⟨r0, ⟨r1, r2, r3, r4, r5⟩⟩ := r
      simp only at x10 x11 x12 x13 x14 x15 x20 x21 x22 x23 x24 x25
      clear hc1 hc2 hr
      go_wp2_with fail
      go_quiet (fail)
      go_wp2_with fail
      go_roundw
      case rel => exact ⟨k + 1, _, by go_num, by omega, rfl⟩
      case measure => simp [intOf]; omega
    · go_wp2_with fail
      go_ret
      exact ⟨rfl, q, rfl⟩

set_option maxRecDepth 100000 in
set_option maxHeartbeats 800000 in
theorem stays_Cells (g c : Nat) (B : Option Addr) (n d : Nat) (xs : List CellM) (w : World) (h : LentC w g c xs) (hB : Src w B (n * 6) (flatL xs)) (hn : n ≤ 1099511627776) :
    Calls Try.prog 15 #[.slice (some ⟨g, 0, none⟩) n c, .slice B n d] w fun e w' => e = .returned (.bool true) ∧ ∃ k, w' = w.drewN k := by
  have hl : xs.length = n := by have := hB.1; rw [flatL_len] at this; omega
  have hA := h.src
  have hm := h.mark
  have hcap := h.cap
  have hcm := h.cm
  rw [hl] at hA hm hcap
  have HS := Lib.hid (same_Cells (some ⟨g, 0, none⟩) B n c d xs w hA hB hn)
  clear hA hB h hl
  go_enter Try.func15, Try.ntmps15
  go_wp2_with fail
  refine HS.out.mono ?_
  rintro r w1 ⟨rfl, q, rfl⟩
  go_wp2_with fail
  go_ret
  exact ⟨rfl, q, rfl⟩

end Go.Proofs.Ytgomnigchfmfhaa
