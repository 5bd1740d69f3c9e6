/- The law's alive; acts' cells; what a parser in ground is. Own work. -/
import Derived.Test.YthphnjilbpidgaaEscA
namespace Go.Proofs.Ythphnjilbpidgaa
set_option linter.unusedVariables false
set_option linter.unusedSimpArgs false
open Go.RowKit

theorem flatE_len {α : Type} (enc : α → List Value) (z : Nat) (hz : ∀ x, (enc x).length = z) (l : List α) : (l.flatMap enc).length = l.length * z := by
  induction l with
  | nil => simp
  | cons x r ih => rw [List.flatMap_cons, List.length_append, hz, ih, List.length_cons, Nat.succ_mul, Nat.add_comm]

theorem flatE_at {α : Type} (enc : α → List Value) (z : Nat) (hz : ∀ x, (enc x).length = z) (l : List α) : ∀ (k t : Nat) (x : α), l[k]? = some x → t < z → (l.flatMap enc)[k * z + t]? = (enc x)[t]? := by
  induction l with
  | nil => intro k t x h; simp at h
  | cons y r ih =>
    intro k t x h ht
    rw [List.flatMap_cons]
    rcases k with _ | k
    · simp at h
      subst h
      rw [Nat.zero_mul, Nat.zero_add, List.getElem?_append_left (by rw [hz]; exact ht)]
    · simp at h
      rw [List.getElem?_append_right (by rw [hz, Nat.succ_mul]; omega), hz, Nat.succ_mul, show k * z + z + t - z = k * z + t from by omega]
      exact ih k t x h ht


theorem ActsS.cells {w : World} {B : Nat} {A : Option Addr} {n c : Nat} {rs : List EAct} {ss : List (Option Addr × Nat)} (h : ActsS w B A n c rs ss) (h0 : 0 < n) :
    ∃ g, A = some ⟨g, 0, none⟩ ∧ g < w.heap.size ∧ ∀ i r s, rs[i]? = some r → ss[i]? = some s → ∀ j u, (actCs r s)[j]? = some u → w.cell? ⟨g, i * 7 + j, none⟩ = some u := by
  obtain ⟨A', c', e, hA⟩ := own_form h.row
  injection e with e1 e2 e3
  subst e1
  obtain ⟨g, rfl⟩ := hA h0
  refine ⟨g, rfl, (h.row.lt g rfl).2, fun i r s hr hs j u hu => ?_⟩
  have hj : j < 7 := by
    by_cases hj : j < 7
    · exact hj
    · rw [List.getElem?_eq_none (by simp [actCs]; omega)] at hu; cases hu
  have hz : (rs.zip ss)[i]? = some (r, s) := by rw [List.getElem?_zip_eq_some]; exact ⟨hr, hs⟩
  have := World.ownsRow.cells h.row (g := g) rfl (i * 7 + j) u (by rw [show actsCs rs ss = (rs.zip ss).flatMap (fun x => actCs x.1 x.2) from rfl, flatE_at (fun x : EAct × (Option Addr × Nat) => actCs x.1 x.2) 7 (fun _ => rfl) _ i j _ hz hj]; exact hu)
  rwa [add_mk, Nat.zero_add] at this

theorem ActsV.cells {w : World} {B : Nat} {A : Option Addr} {n c : Nat} {rs : List EAct} (h : ActsV w B A n c rs) (h0 : 0 < n) :
    ∃ g, A = some ⟨g, 0, none⟩ ∧ g < w.heap.size ∧ ∀ i r, rs[i]? = some r → ∃ s : Option Addr × Nat, NumsRow w B r s ∧ ∀ j u, (actCs r s)[j]? = some u → w.cell? ⟨g, i * 7 + j, none⟩ = some u := by
  obtain ⟨ss, h⟩ := h
  obtain ⟨g, e, hg, hc⟩ := h.cells h0
  refine ⟨g, e, hg, fun i r hr => ?_⟩
  have hi : i < ss.length := by
    rw [h.l]
    by_cases hi : i < rs.length
    · exact hi
    · rw [List.getElem?_eq_none (by omega)] at hr; cases hr
  have hs : ss[i]? = some ss[i] := List.getElem?_eq_getElem hi
  exact ⟨ss[i], h.nums (r, ss[i]) (List.mem_of_getElem? (i := i) (by rw [List.getElem?_zip_eq_some]; exact ⟨hr, hs⟩)), hc i r _ hr hs⟩

theorem NumsRow.cells {w : World} {B : Nat} {r : EAct} {s : Option Addr × Nat} (h : NumsRow w B r s) (h0 : 0 < r.nums.length) :
    ∃ g, s.1 = some ⟨g, 0, none⟩ ∧ ∀ i x, r.nums[i]? = some x → w.cell? ⟨g, i, none⟩ = some (.int .i64 x) := by
  obtain ⟨A', c', e, hA⟩ := own_form h
  injection e with e1 e2 e3
  obtain ⟨g, hg⟩ := hA h0
  refine ⟨g, e1.trans hg, fun i x hx => ?_⟩
  have := World.ownsRow.cells h (g := g) (by rw [e1, hg]; rfl) i (.int .i64 x) (by rw [List.getElem?_map, hx]; rfl)
  rwa [add_mk, Nat.zero_add] at this

theorem alive_fedE : (feedsE .z [⟨#[97, 27, 91, 49, 59]⟩, ⟨#[50, 72, 98]⟩]).2 = [ePrint 97, ⟨4, 0, 72, 0, [1, 2], [], []⟩, ePrint 98] := by kernel_rfl
theorem alive_endE : (feedsE .z [⟨#[97, 27, 91, 49, 59]⟩, ⟨#[50, 72, 98]⟩]).1.ground = true := by decide +kernel

set_option maxRecDepth 100000 in
set_option maxHeartbeats 1600000 in
theorem alive_any (w : World) : Calls Try.prog 10 #[] w fun e w' => e = .returned (.bool true) ∧ Below w.heap.size w w' := by
  go_enter Try.func10, Try.ntmps10
  go_wp2_with fail
  have hf := esc_feed_new w.heap.size 0 .z [⟨#[97, 27, 91, 49, 59]⟩, ⟨#[50, 72, 98]⟩] #[.string ⟨#[97, 27, 91, 49, 59]⟩, .string ⟨#[50, 72, 98]⟩] (w.alloc (.cells parserCs 37)) (esc_new w) (by simp) (by decide) (by decide) (by decide) 2 (by decide)
  rw [show (w.alloc (.cells parserCs 37)).heap.size = w.heap.size + 1 from by simp] at hf
  unfold parserCs at hf
  refine hf.mono ?_
  rintro e w1 ⟨A, n, c, rfl, hn, ha, he, hk⟩
  rw [alive_fedE] at hn ha
  obtain ⟨g, rfl, hg, hc⟩ := ha.cells (by rw [hn]; decide)
  replace hn : n = 3 := hn
  subst hn
  obtain ⟨s0, -, c0⟩ := hc 0 _ rfl
  obtain ⟨s1, hn1, c1⟩ := hc 1 _ rfl
  obtain ⟨q, hq, hqc⟩ := hn1.cells (by decide)
  obtain ⟨S1, S2⟩ := s1
  replace hq : S1 = _ := hq
  subst hq
  have d00 : w1.cell? ⟨g, 0, none⟩ = some (.int .i64 1) := c0 0 _ rfl
  have d01 : w1.cell? ⟨g, 1, none⟩ = some (.int .i32 97) := c0 1 _ rfl
  have d10 : w1.cell? ⟨g, 7, none⟩ = some (.int .i64 4) := c1 0 _ rfl
  have d12 : w1.cell? ⟨g, 9, none⟩ = some (.int .i64 72) := c1 2 _ rfl
  have d14 : w1.cell? ⟨g, 11, none⟩ = some (.slice (some ⟨q, 0, none⟩) 2 S2) := c1 4 _ rfl
  have dq : w1.cell? ⟨q, 1, none⟩ = some (.int .i64 2) := hqc 1 _ rfl
  have HE := Lib.hid he
  have HB : Hid (Below w.heap.size w w1) := by
    have := ((((Below.refl w.heap.size w).alloc (Nat.le_refl _) (.cells parserCs 37)).alloc (by simp) (.cells #[.string ⟨#[97, 27, 91, 49, 59]⟩, .string ⟨#[50, 72, 98]⟩] 9)).trans (hk.keep.below (by simp; omega) (fun k hk e => by omega)))
    exact this
  clear ha he hk hc c0 c1 hn1 hqc hg hf
  go_wp2_with fail
  refine (esc_ground _ _ _ _ HE.out).mono ?_
  rintro e w2 ⟨rfl, rfl⟩
  rw [alive_endE]
  go_wp2_with fail
  go_ret
  exact ⟨rfl, HB.out⟩

/-- A parser of ours that says what the document's in ground says. -/
theorem AlikeE.at0 {b : BP} {q : PL} (h : AlikeE b q) (h1 : q.st = 0) (h2 : q.u = []) : b.ground = true ∧ b.kept = 0 := by
  cases h with
  | g u B h =>
    have hB : B = [] := h2
    subst hB
    have hu : u = .z := h
    subst hu
    exact ⟨by decide, by decide⟩
  | _ => exact absurd h1 (by simp)

end Go.Proofs.Ythphnjilbpidgaa
