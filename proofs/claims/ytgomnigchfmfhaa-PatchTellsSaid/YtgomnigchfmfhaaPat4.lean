/- patch: Blank, changed. By rgn.py. Own work. -/
import Derived.Test.YtgomnigchfmfhaaPat3
import Derived.Test.YtgomnigchfmfhaaPatR
import Derived.Deep.RegionHeldLaw
namespace Go.Proofs.Ytgomnigchfmfhaa
set_option linter.unusedVariables false
set_option linter.unusedSimpArgs false
open Go.RowKit

theorem scr_row : (Try.prog.info? 24).map (fun i => (i.zero, i.size)) = some (some (.agg #[.int .i64 0, .int .i64 0, .slice none 0 0, .int .i64 0, .int .i64 0, .bool false]), 6) := by kernel_rfl
theorem clW_is (x : Int) : min (max x 2) 40 = (clW x : Int) := by unfold clW; omega
theorem clH_is (x : Int) : min (max x 1) 20 = (clH x : Int) := by unfold clH; omega
theorem cl_ok (x y : Int) : (2 ≤ clW x ∧ clW x ≤ 40) ∧ 1 ≤ clH y ∧ clH y ≤ 20 := by unfold clW clH; omega
theorem cl_n (x y : Int) : 2 ≤ clW x * clH y ∧ clW x * clH y ≤ 800 := by
  obtain ⟨⟨a, b⟩, c, d⟩ := cl_ok x y
  have := Nat.mul_le_mul a c
  have := Nat.mul_le_mul b d
  omega
/-- The block of c cells. -/
def Shape (w : World) (g c : Nat) : Prop := ∃ cur : Array Value, w.heap[g]? = some (.cells cur 40 (0, 0)) ∧ cur.size = c * 6
theorem Shape.keep {S : Nat → Prop} {w w' : World} {g c : Nat} (h : Shape w g c) (k : Keep S w w') (hn : ¬ S g) : Shape w' g c := by
  obtain ⟨cur, h1, h2⟩ := h
  exact ⟨cur, k.heap h1 hn, h2⟩
theorem Shape.sets {w : World} {g c : Nat} (h : Shape w g c) (vs : List Value) : ∀ o, Shape (w.setCells g o vs) g c := by
  induction vs generalizing w with
  | nil => intro o; exact h
  | cons v vs ih =>
    intro o
    obtain ⟨cur, h1, h2⟩ := h
    exact ih ⟨cur.setIfInBounds o v, heap_set h1 o v, by simp [h2]⟩ (o + 1)
theorem Shape.of_own {w : World} {B g n c : Nat} {xs : List Value} (h : w.ownsRow B 40 6 (.slice (some ⟨g, 0, none⟩) n c) n xs) : Shape w g c := by
  rcases h.2 with ⟨h2, _⟩ | ⟨g', cap, cur, h2, hb, hg, h3, h4, h5, h6⟩
  · cases h2
  · injection h2 with h2 h7 h8
    injection h2 with h2
    injection h2 with h2
    subst h2 h8
    exact ⟨cur, hg, h5⟩
/-- A row that the call owns again. -/
theorem Shape.own {w : World} {B g n c : Nat} {F : Nat → CellM} (h : Shape w g c) (l : Lies w g 0 n F) (hB : B ≤ g) (hn : n ≤ c) (hc : c ≤ maxLen) : w.ownsRow B 40 6 (.slice (some ⟨g, 0, none⟩) n c) n (flatF F n) := by
  obtain ⟨cur, h1, h2⟩ := h
  refine ⟨flatF_len F n, .inr ⟨g, c, cur, rfl, hB, h1, hn, hc, h2, ?_⟩⟩
  refine List.ext_getElem? fun j => ?_
  rw [List.getElem?_take]
  by_cases hj : j < n * 6
  · rw [if_pos hj]
    have hl : j < (flatF F n).length := by rw [flatF_len]; exact hj
    have := l.cells j _ (List.getElem?_eq_getElem hl)
    rw [Nat.zero_add, cell_at h1 j] at this
    rw [List.getElem?_eq_getElem hl]
    simpa using this
  · rw [if_neg hj, List.getElem?_eq_none (by rw [flatF_len]; omega)]
/-- A screen of the call's own. -/
def ScrTo (s : Scr) (w : World) (e : Ending) (w' : World) : Prop := ∃ g c, e = .returned (s.v (some ⟨g, 0, none⟩) c) ∧ w.heap.size ≤ g ∧ g < w'.heap.size ∧ Lies w' g 0 s.n s.F ∧ s.n ≤ c ∧ c ≤ 9223372036854775807 ∧ Shape w' g c ∧ Below w.heap.size w w'

set_option maxRecDepth 100000 in
set_option maxHeartbeats 3200000 in
theorem patch_Blank (x y : Int) (w : World) :
    Calls Try.prog 16 #[.int .i64 x, .int .i64 y] w (ScrTo (blankS x y) w) := by
  obtain ⟨w1, hw1⟩ : ∃ w1, w1 = w.alloc (.cells #[.int .i64 0, .int .i64 0, .slice none 0 0, .int .i64 0, .int .i64 0, .bool false] 24) := ⟨_, rfl⟩
  have HB1 : Hid (Below w.heap.size w w1) := Lib.hid (by rw [hw1]; exact below_box ..)
  have HQ1 : Hid (w1.heap[w.heap.size]? = some (.cells #[.int .i64 0, .int .i64 0, .slice none 0 0, .int .i64 0, .int .i64 0, .bool false] 24 (0, 0))) := Lib.hid (by rw [hw1]; exact heap_alloc_new w _)
  obtain ⟨W, hW⟩ : ∃ W, W = clW x := ⟨_, rfl⟩
  obtain ⟨H, hH⟩ : ∃ H, H = clH y := ⟨_, rfl⟩
  have HN := Lib.hid (grid_new w1 x y W H (W * H) (by rw [hW]; exact clW_is x) (by rw [hH]; exact clH_is y) rfl)
  have HE : Hid (blankS x y = ⟨W, H, W * H, fun _ => emptyC, 0, 0, false⟩) := Lib.hid (by rw [hW, hH]; rfl)
  obtain ⟨p, hp⟩ : ∃ p, p = w.heap.size := ⟨_, rfl⟩
  rw [← hp] at HQ1
  have HPE := Lib.hid hp
  clear hW hH
  go_enter Try.func16, Try.ntmps16
  go_upto_region 1 with fail
  rw [← hw1]
  rw [← hp]
  clear hw1 hp
  go_wp2_with fail
  refine HN.out.mono ?_
  rintro e w2 ⟨rfl, hg, hb⟩
  have HG2 := Lib.hid hg
  have HQ2 := Lib.hid ((Keep.of_below (fun _ => False) hb).heap HQ1.out (fun x => x))
  have HB2 : Hid (Below w.heap.size w w2) := Lib.hid (HB1.out.trans (hb.mono HB1.out.size))
  have HX : Hid (w.heap.size ≤ w1.heap.size) := Lib.hid HB1.out.size
  obtain ⟨P, hP⟩ : ∃ P, P = w1.heap.size + 1 := ⟨_, rfl⟩
  obtain ⟨g, hgq⟩ : ∃ g, g = w1.heap.size := ⟨_, rfl⟩
  rw [← hP] at HG2
  rw [← hP]
  rw [← hgq] at HG2
  clear hg hb hP hgq HB1 HQ1 HN HX
  go_wp2_with fail
  refine (grid_W _ P g _ W H _ _ HG2.out).mono ?_
  rintro e w3 ⟨rfl, rfl⟩
  go_wp2_with fail
  refine (grid_H _ P g _ W H _ _ HG2.out).mono ?_
  rintro e w4 ⟨rfl, rfl⟩
  go_wp2_with fail
  refine (grid_cells _ P g _ W H _ _ HG2.out).mono ?_
  rintro e w5 ⟨g', c', rfl, h1, h2, h3, h4, h5, h6, hb⟩
  have HSh := Lib.hid (Shape.of_own h6)
  have HQ5 := Lib.hid ((Keep.of_below (fun _ => False) hb).heap HQ2.out (fun x => x))
  have HB5 : Hid (Below w.heap.size w w5) := Lib.hid (HB2.out.trans (hb.mono HB2.out.size))
  have HL5 := Lib.hid h3
  have HR : Hid (w.heap.size ≤ g' ∧ g' < w5.heap.size ∧ W * H ≤ c' ∧ c' ≤ 9223372036854775807) := Lib.hid ⟨Nat.le_trans HB2.out.size h1, h2, h4, h5⟩
  have hne : Hid (g' ≠ p) := Lib.hid (by have := lt_heap HQ2.out; omega)
  clear h1 h2 h3 h4 h5 h6 hb HG2 HQ2 HB2
  have c0 := cell_at HQ5.out 0; have c1 := cell_at HQ5.out 1; have c2 := cell_at HQ5.out 2; have c3 := cell_at HQ5.out 3; have c4 := cell_at HQ5.out 4; have c5 := cell_at HQ5.out 5
  have f0 := free_at HQ5.out
  simp at c0 c1 c2 c3 c4 c5
  have hpl : p < w5.heap.size := lt_heap HQ5.out
  go_wp2_with fail
  refine bodyPost_ret (v := (Scr.v ⟨W, H, W * H, fun _ => emptyC, 0, 0, false⟩ (some ⟨g', 0, none⟩) c')) (by simp [results, Try.results16, go_sem, Scr.v, c0, c1, c2, c3, c4, c5]) rfl ?_
  rw [HE.out]
  obtain ⟨r1, r2, r3, r4⟩ := HR.out
  have K := (((((keep_set w5 p 0 (Value.int IntKind.i64 ↑W)).own 1 (Value.int IntKind.i64 ↑H)).own 2 (Value.slice (some { block := g', off := 0 }) (W * H) c')).own 3 (Value.int IntKind.i64 0)).own 4 (Value.int IntKind.i64 0)).own 5 (Value.bool false)
  have hpe := HPE.out
  exact ⟨g', c', rfl, r1, Nat.lt_of_lt_of_le r2 K.size, HL5.out.keep r2 K hne.out, r3, r4, HSh.out.keep K hne.out, HB5.out.trans (K.below HB5.out.size (fun k hk e => by omega))⟩

/-- The cells of both boxes, as facts. -/
def Two (w' : World) (p : Nat) (a b : Scr) (A B : Option Addr) (c d : Nat) : Prop := w'.heap[p]? = some (.cells (a.cs A c) 24 (0, 0)) ∧ w'.heap[p + 1]? = some (.cells (b.cs B d) 24 (0, 0))

set_option maxRecDepth 100000 in
set_option maxHeartbeats 6400000 in
theorem patch_changed_size (a b : Scr) (A B : Option Addr) (c d : Nat) (k : Int) (w : World) (hs : sizeB a b = false) :
    Calls Try.prog 46 #[a.v A c, b.v B d, .int .i64 k] w fun e w' => e = .returned (.bool true) ∧ Below w.heap.size w w' := by
  obtain ⟨W0, hW0, hb0, q1, q2⟩ := scr_boxes w (a.cs A c) (b.cs B d) 24
  have HS : Hid (∀ V, Calls Try.prog 33 #[a.v A c, b.v B d] V fun e w' => e = .returned (.bool false) ∧ Below V.heap.size V w') := Lib.hid (fun V => by have := patch_sameSize a b A B c d V; rwa [hs] at this)
  have HB0 := Lib.hid hb0
  obtain ⟨p, hp⟩ : ∃ p, p = w.heap.size := ⟨_, rfl⟩
  rw [← hp] at q1 q2
  have HC : Hid (∀ V, Below W0.heap.size W0 V → V.cell? ⟨p, 0, none⟩ = some (.int .i64 a.W) ∧ V.cell? ⟨p, 1, none⟩ = some (.int .i64 a.H) ∧ V.cell? ⟨p, 2, none⟩ = some (.slice A a.n c) ∧ V.cell? ⟨p, 3, none⟩ = some (.int .i64 a.X) ∧ V.cell? ⟨p, 4, none⟩ = some (.int .i64 a.Y) ∧ V.cell? ⟨p, 5, none⟩ = some (.bool a.hid) ∧
      V.cell? ⟨p + 1, 0, none⟩ = some (.int .i64 b.W) ∧ V.cell? ⟨p + 1, 1, none⟩ = some (.int .i64 b.H) ∧ V.cell? ⟨p + 1, 2, none⟩ = some (.slice B b.n d) ∧ V.cell? ⟨p + 1, 3, none⟩ = some (.int .i64 b.X) ∧ V.cell? ⟨p + 1, 4, none⟩ = some (.int .i64 b.Y) ∧ V.cell? ⟨p + 1, 5, none⟩ = some (.bool b.hid)) := Lib.hid (fun V k => by
    have h1 := (Keep.of_below (fun _ => False) k).heap q1 (fun x => x)
    have h2 := (Keep.of_below (fun _ => False) k).heap q2 (fun x => x)
    exact ⟨cell_at h1 0, cell_at h1 1, cell_at h1 2, cell_at h1 3, cell_at h1 4, cell_at h1 5, cell_at h2 0, cell_at h2 1, cell_at h2 2, cell_at h2 3, cell_at h2 4, cell_at h2 5⟩)
  have HW : Hid (∀ V, Below W0.heap.size W0 V → Below w.heap.size w V) := Lib.hid (fun V k => HB0.out.trans (k.mono HB0.out.size))
  clear hs hb0 q1 q2
  obtain ⟨W, H, n, F, X, Y, hi⟩ := a
  obtain ⟨W', H', n', F', X', Y', hi'⟩ := b
  simp only [Scr.v, Scr.cs] at hW0 HS HC ⊢
  go_enter Try.func46, Try.ntmps46
  go_upto_region 1 with fail
  rw [← hW0, ← hp]
  clear hW0 hp
  refine wp_region_noPanic ?_
  refine wp_region_held_drew (S := fun V => V.cell? ⟨p, 0, none⟩ = some (.int .i64 W) ∧ V.cell? ⟨p, 1, none⟩ = some (.int .i64 H) ∧ V.cell? ⟨p, 2, none⟩ = some (.slice A n c) ∧ V.cell? ⟨p, 3, none⟩ = some (.int .i64 X) ∧ V.cell? ⟨p, 4, none⟩ = some (.int .i64 Y) ∧ V.cell? ⟨p, 5, none⟩ = some (.bool hi) ∧
      V.cell? ⟨p + 1, 0, none⟩ = some (.int .i64 W') ∧ V.cell? ⟨p + 1, 1, none⟩ = some (.int .i64 H') ∧ V.cell? ⟨p + 1, 2, none⟩ = some (.slice B n' d) ∧ V.cell? ⟨p + 1, 3, none⟩ = some (.int .i64 X') ∧ V.cell? ⟨p + 1, 4, none⟩ = some (.int .i64 Y') ∧ V.cell? ⟨p + 1, 5, none⟩ = some (.bool hi')) (by kernel_rfl) (HC.out W0 (Below.refl _ _)) (fun hHeld => ?_)
  refine wpAnyH_take (i := 0) (oi := _) (v := ?va0) rfl (by kernel_rfl) (by kernel_rfl) (by kernel_rfl) (fun _ _ _ h => h) (Or.inl ⟨by rfl, ?hya0⟩) (by assumption) ?resta0
  case hya0 => (intro w hSw; (try dsimp only at hSw); (try simp only [List.getElem_toArray, List.getElem_cons_zero, List.getElem_cons_succ]); go_simp; (try with_reducible rfl))
  (try simp only [Act.put, List.setIfInBounds_toArray, List.set_cons_zero, List.set_cons_succ, List.getElem_toArray, List.getElem_cons_zero, List.getElem_cons_succ])
  refine wpAnyH_take (i := 1) (oi := _) (v := ?va1) rfl (by kernel_rfl) (by kernel_rfl) (by kernel_rfl) (fun _ _ _ h => h) (Or.inl ⟨by rfl, ?hya1⟩) (by assumption) ?resta1
  case hya1 => (intro w hSw; (try dsimp only at hSw); (try simp only [List.getElem_toArray, List.getElem_cons_zero, List.getElem_cons_succ]); go_simp; (try with_reducible rfl))
  (try simp only [Act.put, List.setIfInBounds_toArray, List.set_cons_zero, List.set_cons_succ, List.getElem_toArray, List.getElem_cons_zero, List.getElem_cons_succ])
  refine wpAnyH_ready (rs := [2]) (by kernel_rfl) (by simp) ?_
  refine AllReadyH.cons (o := _) rfl (fun K hK => ?_) AllReadyH.nil
  (try simp only [List.getElem_toArray, List.getElem_cons_zero, List.getElem_cons_succ])
  go_simp
  refine (HS.out _).mono ?_; rintro e w2 ⟨rfl, hb⟩; have HB2 : Hid (Below W0.heap.size W0 w2) := Lib.hid ((Below.drewN' (Below.refl _ W0) 1).trans (hb.mono (Nat.le_refl _))); clear hb
  refine hK.out _ _ ?_ (fun hHeld => ?_)
  · exact HC.out _ HB2.out
  clear hK K
  (try simp only [Act.put, List.setIfInBounds_toArray, List.set_cons_zero, List.set_cons_succ, List.getElem_toArray, List.getElem_cons_zero, List.getElem_cons_succ])
  refine wpAnyH_take (i := 3) (oi := _) (v := ?va3) rfl (by kernel_rfl) (by kernel_rfl) (by kernel_rfl) (fun _ _ _ h => h) (Or.inl ⟨by rfl, ?hya3⟩) (by assumption) ?resta3
  case hya3 => (intro w hSw; (try dsimp only at hSw); (try simp only [List.getElem_toArray, List.getElem_cons_zero, List.getElem_cons_succ]); go_simp; (try with_reducible rfl))
  (try simp only [Act.put, List.setIfInBounds_toArray, List.set_cons_zero, List.set_cons_succ, List.getElem_toArray, List.getElem_cons_zero, List.getElem_cons_succ])
  refine wpAnyH_take (i := 4) (oi := _) (v := ?va4) rfl (by kernel_rfl) (by kernel_rfl) (by kernel_rfl) (fun _ _ _ h => h) (Or.inl ⟨by rfl, ?hya4⟩) (by assumption) ?resta4
  case hya4 => (intro w hSw; (try dsimp only at hSw); (try simp only [List.getElem_toArray, List.getElem_cons_zero, List.getElem_cons_succ]); go_simp; (try with_reducible rfl))
  (try simp only [Act.put, List.setIfInBounds_toArray, List.set_cons_zero, List.set_cons_succ, List.getElem_toArray, List.getElem_cons_zero, List.getElem_cons_succ])
  refine wpAnyH_take (i := 5) (oi := _) (v := undef) rfl (by kernel_rfl) (by kernel_rfl) (by kernel_rfl) (fun _ _ _ h => h) (Or.inr ⟨by rfl, rfl⟩) (by assumption) ?_
  (try simp only [Act.put, List.setIfInBounds_toArray, List.set_cons_zero, List.set_cons_succ, List.getElem_toArray, List.getElem_cons_zero, List.getElem_cons_succ])
  refine wpAnyH_take (i := 6) (oi := _) (v := undef) rfl (by kernel_rfl) (by kernel_rfl) (by kernel_rfl) (fun _ _ _ h => h) (Or.inr ⟨by rfl, rfl⟩) (by assumption) ?_
  (try simp only [Act.put, List.setIfInBounds_toArray, List.set_cons_zero, List.set_cons_succ, List.getElem_toArray, List.getElem_cons_zero, List.getElem_cons_succ])
  refine wpAnyH_take (i := 7) (oi := _) (v := undef) rfl (by kernel_rfl) (by kernel_rfl) (by kernel_rfl) (fun _ _ _ h => h) (Or.inr ⟨by rfl, rfl⟩) (by assumption) ?_
  (try simp only [Act.put, List.setIfInBounds_toArray, List.set_cons_zero, List.set_cons_succ, List.getElem_toArray, List.getElem_cons_zero, List.getElem_cons_succ])
  refine wpAnyH_take (i := 8) (oi := _) (v := undef) rfl (by kernel_rfl) (by kernel_rfl) (by kernel_rfl) (fun _ _ _ h => h) (Or.inr ⟨by rfl, rfl⟩) (by assumption) ?_
  (try simp only [Act.put, List.setIfInBounds_toArray, List.set_cons_zero, List.set_cons_succ, List.getElem_toArray, List.getElem_cons_zero, List.getElem_cons_succ])
  refine wpAnyH_take (i := 9) (oi := _) (v := undef) rfl (by kernel_rfl) (by kernel_rfl) (by kernel_rfl) (fun _ _ _ h => h) (Or.inr ⟨by rfl, rfl⟩) (by assumption) ?_
  (try simp only [Act.put, List.setIfInBounds_toArray, List.set_cons_zero, List.set_cons_succ, List.getElem_toArray, List.getElem_cons_zero, List.getElem_cons_succ])
  refine wpAnyH_take (i := 10) (oi := _) (v := undef) rfl (by kernel_rfl) (by kernel_rfl) (by kernel_rfl) (fun _ _ _ h => h) (Or.inr ⟨by rfl, rfl⟩) (by assumption) ?_
  (try simp only [Act.put, List.setIfInBounds_toArray, List.set_cons_zero, List.set_cons_succ, List.getElem_toArray, List.getElem_cons_zero, List.getElem_cons_succ])
  refine wpAnyH_take (i := 11) (oi := _) (v := undef) rfl (by kernel_rfl) (by kernel_rfl) (by kernel_rfl) (fun _ _ _ h => h) (Or.inr ⟨by rfl, rfl⟩) (by assumption) ?_
  (try simp only [Act.put, List.setIfInBounds_toArray, List.set_cons_zero, List.set_cons_succ, List.getElem_toArray, List.getElem_cons_zero, List.getElem_cons_succ])
  refine wpAnyH_take (i := 12) (oi := _) (v := undef) rfl (by kernel_rfl) (by kernel_rfl) (by kernel_rfl) (fun _ _ _ h => h) (Or.inr ⟨by rfl, rfl⟩) (by assumption) ?_
  (try simp only [Act.put, List.setIfInBounds_toArray, List.set_cons_zero, List.set_cons_succ, List.getElem_toArray, List.getElem_cons_zero, List.getElem_cons_succ])
  refine wpAnyH_take (i := 13) (oi := _) (v := undef) rfl (by kernel_rfl) (by kernel_rfl) (by kernel_rfl) (fun _ _ _ h => h) (Or.inr ⟨by rfl, rfl⟩) (by assumption) ?_
  (try simp only [Act.put, List.setIfInBounds_toArray, List.set_cons_zero, List.set_cons_succ, List.getElem_toArray, List.getElem_cons_zero, List.getElem_cons_succ])
  refine wpAnyH_take (i := 14) (oi := _) (v := undef) rfl (by kernel_rfl) (by kernel_rfl) (by kernel_rfl) (fun _ _ _ h => h) (Or.inr ⟨by rfl, rfl⟩) (by assumption) ?_
  (try simp only [Act.put, List.setIfInBounds_toArray, List.set_cons_zero, List.set_cons_succ, List.getElem_toArray, List.getElem_cons_zero, List.getElem_cons_succ])
  refine wpAnyH_take (i := 15) (oi := _) (v := undef) rfl (by kernel_rfl) (by kernel_rfl) (by kernel_rfl) (fun _ _ _ h => h) (Or.inr ⟨by rfl, rfl⟩) (by assumption) ?_
  (try simp only [Act.put, List.setIfInBounds_toArray, List.set_cons_zero, List.set_cons_succ, List.getElem_toArray, List.getElem_cons_zero, List.getElem_cons_succ])
  refine wpAnyH_take (i := 16) (oi := _) (v := ?va16) rfl (by kernel_rfl) (by kernel_rfl) (by kernel_rfl) (fun _ _ _ h => h) (Or.inl ⟨by rfl, ?hya16⟩) (by assumption) ?resta16
  case hya16 => (intro w hSw; (try dsimp only at hSw); (try simp only [List.getElem_toArray, List.getElem_cons_zero, List.getElem_cons_succ]); go_simp; (try with_reducible rfl))
  (try simp only [Act.put, List.setIfInBounds_toArray, List.set_cons_zero, List.set_cons_succ, List.getElem_toArray, List.getElem_cons_zero, List.getElem_cons_succ])
  refine wpAnyH_take (i := 17) (oi := _) (v := ?va17) rfl (by kernel_rfl) (by kernel_rfl) (by kernel_rfl) (fun _ _ _ h => h) (Or.inl ⟨by rfl, ?hya17⟩) (by assumption) ?resta17
  case hya17 => (intro w hSw; (try dsimp only at hSw); (try simp only [List.getElem_toArray, List.getElem_cons_zero, List.getElem_cons_succ]); go_simp; (try with_reducible rfl))
  (try simp only [Act.put, List.setIfInBounds_toArray, List.set_cons_zero, List.set_cons_succ, List.getElem_toArray, List.getElem_cons_zero, List.getElem_cons_succ])
  refine wpAnyH_done (by kernel_rfl) ?_ _
  refine NoPanic.normal ?_
  go_wp2_with fail
  go_ret
  exact ⟨rfl, HW.out _ HB2.out⟩

set_option maxRecDepth 100000 in
set_option maxHeartbeats 12800000 in
theorem patch_changed_same (a b : Scr) (A B : Option Addr) (c d : Nat) (k : Nat) (w : World) (hs : sizeB a b = true) (hA : a.at' w A) (hB : b.at' w B) (hk1 : k < a.n) (hk2 : k < b.n) :
    Calls Try.prog 46 #[a.v A c, b.v B d, .int .i64 k] w fun e w' => e = .returned (.bool (chg a b k)) ∧ Below w.heap.size w w' := by
  obtain ⟨W0, hW0, hb0, q1, q2⟩ := scr_boxes w (a.cs A c) (b.cs B d) 24
  have HS : Hid (∀ V, Calls Try.prog 33 #[a.v A c, b.v B d] V fun e w' => e = .returned (.bool true) ∧ Below V.heap.size V w') := Lib.hid (fun V => by have := patch_sameSize a b A B c d V; rwa [hs] at this)
  have HB0 := Lib.hid hb0
  obtain ⟨p, hp⟩ : ∃ p, p = w.heap.size := ⟨_, rfl⟩
  rw [← hp] at q1 q2
  obtain ⟨g1, o1, rfl, l1, hc1⟩ := (Src.keep (Src.keep hA (Keep.refl _ _)) (Keep.of_below _ hb0)).2 (by omega)
  obtain ⟨g2, o2, rfl, l2, hc2⟩ := (Src.keep hB (Keep.of_below _ hb0)).2 (by omega)
  have HC : Hid (∀ V, Below W0.heap.size W0 V → V.heap[p]? = some (.cells (a.cs (some ⟨g1, o1, none⟩) c) 24 (0, 0)) ∧ V.heap[p + 1]? = some (.cells (b.cs (some ⟨g2, o2, none⟩) d) 24 (0, 0)) ∧ SixS V g1 o1 k (a.F k) ∧ SixS V g2 o2 k (b.F k)) := Lib.hid (fun V kk => by
    have K := Keep.of_below (fun _ => False) kk
    have e1 := six_src (w := V) (fun j v hj => (K.cell (p := ⟨g1, o1 + j, none⟩) l1 (fun x => x)).trans (hc1 j v hj)) hk1
    have e2 := six_src (w := V) (fun j v hj => (K.cell (p := ⟨g2, o2 + j, none⟩) l2 (fun x => x)).trans (hc2 j v hj)) hk2
    exact ⟨K.heap q1 (fun x => x), K.heap q2 (fun x => x), e1, e2⟩)
  have HW : Hid (∀ V, Below W0.heap.size W0 V → Below w.heap.size w V) := Lib.hid (fun V k => HB0.out.trans (k.mono HB0.out.size))
  have HR : Hid ((a.F k = b.F k → chg a b k = false) ∧ (a.F k ≠ b.F k → chg a b k = true)) := Lib.hid (by
    rw [chg_same hs k]
    exact ⟨fun e => by rw [decide_eq_true e]; rfl, fun e => by rw [decide_eq_false e]; rfl⟩)
  obtain ⟨res, hres⟩ : ∃ res, res = chg a b k := ⟨_, rfl⟩
  rw [← hres] at HR ⊢
  clear hres
  have hki1 : ((k : Int) < (a.n : Int)) := by omega
  have hki2 : ((k : Int) < (b.n : Int)) := by omega
  have hk0 : (0 : Int) ≤ (k : Int) := by omega
  clear hs hb0 q1 q2 hA hB hk1 hk2 hc1 hc2 l1 l2
  obtain ⟨W, H, n, F, X, Y, hi⟩ := a
  obtain ⟨W', H', n', F', X', Y', hi'⟩ := b
  simp only [Scr.v, Scr.cs] at hW0 HS HC HR hki1 hki2 ⊢
  generalize F k = r at HC HR
  generalize F' k = s at HC HR
  have HC : Hid (∀ V, Below W0.heap.size W0 V → V.cell? ⟨p, 0, none⟩ = some (.int .i64 W) ∧ V.cell? ⟨p, 1, none⟩ = some (.int .i64 H) ∧ V.cell? ⟨p, 2, none⟩ = some (.slice (some ⟨g1, o1, none⟩) n c) ∧ V.cell? ⟨p, 3, none⟩ = some (.int .i64 X) ∧ V.cell? ⟨p, 4, none⟩ = some (.int .i64 Y) ∧ V.cell? ⟨p, 5, none⟩ = some (.bool hi) ∧ V.cell? ⟨p + 1, 0, none⟩ = some (.int .i64 W') ∧ V.cell? ⟨p + 1, 1, none⟩ = some (.int .i64 H') ∧ V.cell? ⟨p + 1, 2, none⟩ = some (.slice (some ⟨g2, o2, none⟩) n' d) ∧ V.cell? ⟨p + 1, 3, none⟩ = some (.int .i64 X') ∧ V.cell? ⟨p + 1, 4, none⟩ = some (.int .i64 Y') ∧ V.cell? ⟨p + 1, 5, none⟩ = some (.bool hi') ∧ V.cell? ⟨g1, o1 + k * 6, none⟩ = some (.int .i32 r.r) ∧ V.cell? ⟨g1, o1 + k * 6 + 1, none⟩ = some (.int .i64 r.a.fg) ∧ V.cell? ⟨g1, o1 + k * 6 + 2, none⟩ = some (.int .i64 r.a.bg) ∧ V.cell? ⟨g1, o1 + k * 6 + 3, none⟩ = some (.bool r.a.b) ∧ V.cell? ⟨g1, o1 + k * 6 + 4, none⟩ = some (.bool r.a.u) ∧ V.cell? ⟨g1, o1 + k * 6 + 5, none⟩ = some (.bool r.a.i) ∧ V.cell? ⟨g2, o2 + k * 6, none⟩ = some (.int .i32 s.r) ∧ V.cell? ⟨g2, o2 + k * 6 + 1, none⟩ = some (.int .i64 s.a.fg) ∧ V.cell? ⟨g2, o2 + k * 6 + 2, none⟩ = some (.int .i64 s.a.bg) ∧ V.cell? ⟨g2, o2 + k * 6 + 3, none⟩ = some (.bool s.a.b) ∧ V.cell? ⟨g2, o2 + k * 6 + 4, none⟩ = some (.bool s.a.u) ∧ V.cell? ⟨g2, o2 + k * 6 + 5, none⟩ = some (.bool s.a.i)) := Lib.hid (fun V k => by
    obtain ⟨h1, h2, ⟨x0, x1, x2, x3, x4, x5⟩, ⟨y0, y1, y2, y3, y4, y5⟩⟩ := HC.out V k
    exact ⟨cell_at h1 0, cell_at h1 1, cell_at h1 2, cell_at h1 3, cell_at h1 4, cell_at h1 5, cell_at h2 0, cell_at h2 1, cell_at h2 2, cell_at h2 3, cell_at h2 4, cell_at h2 5, x0, x1, x2, x3, x4, x5, y0, y1, y2, y3, y4, y5⟩)
  obtain ⟨r0, ⟨r1, r2, r3, r4, r5⟩⟩ := r
  obtain ⟨s0, ⟨s1, s2, s3, s4, s5⟩⟩ := s
  simp only at HC
  by_cases hrs : (⟨r0, ⟨r1, r2, r3, r4, r5⟩⟩ : CellM) = ⟨s0, ⟨s1, s2, s3, s4, s5⟩⟩
  · have HR2 : Hid (res = false) := Lib.hid (HR.out.1 hrs)
    injection hrs with e0 e1
    injection e1 with e1 e2 e3 e4 e5
    subst e0 e1 e2 e3 e4 e5
    go_enter Try.func46, Try.ntmps46
    go_upto_region 1 with fail
    rw [← hW0, ← hp]
    clear hW0 hp
    refine wp_region_noPanic ?_
    refine wp_region_held_drew (S := fun V => V.cell? ⟨p, 0, none⟩ = some (.int .i64 W) ∧ V.cell? ⟨p, 1, none⟩ = some (.int .i64 H) ∧ V.cell? ⟨p, 2, none⟩ = some (.slice (some ⟨g1, o1, none⟩) n c) ∧ V.cell? ⟨p, 3, none⟩ = some (.int .i64 X) ∧ V.cell? ⟨p, 4, none⟩ = some (.int .i64 Y) ∧ V.cell? ⟨p, 5, none⟩ = some (.bool hi) ∧ V.cell? ⟨p + 1, 0, none⟩ = some (.int .i64 W') ∧ V.cell? ⟨p + 1, 1, none⟩ = some (.int .i64 H') ∧ V.cell? ⟨p + 1, 2, none⟩ = some (.slice (some ⟨g2, o2, none⟩) n' d) ∧ V.cell? ⟨p + 1, 3, none⟩ = some (.int .i64 X') ∧ V.cell? ⟨p + 1, 4, none⟩ = some (.int .i64 Y') ∧ V.cell? ⟨p + 1, 5, none⟩ = some (.bool hi') ∧ V.cell? ⟨g1, o1 + k * 6, none⟩ = some (.int .i32 r0) ∧ V.cell? ⟨g1, o1 + k * 6 + 1, none⟩ = some (.int .i64 r1) ∧ V.cell? ⟨g1, o1 + k * 6 + 2, none⟩ = some (.int .i64 r2) ∧ V.cell? ⟨g1, o1 + k * 6 + 3, none⟩ = some (.bool r3) ∧ V.cell? ⟨g1, o1 + k * 6 + 4, none⟩ = some (.bool r4) ∧ V.cell? ⟨g1, o1 + k * 6 + 5, none⟩ = some (.bool r5) ∧ V.cell? ⟨g2, o2 + k * 6, none⟩ = some (.int .i32 r0) ∧ V.cell? ⟨g2, o2 + k * 6 + 1, none⟩ = some (.int .i64 r1) ∧ V.cell? ⟨g2, o2 + k * 6 + 2, none⟩ = some (.int .i64 r2) ∧ V.cell? ⟨g2, o2 + k * 6 + 3, none⟩ = some (.bool r3) ∧ V.cell? ⟨g2, o2 + k * 6 + 4, none⟩ = some (.bool r4) ∧ V.cell? ⟨g2, o2 + k * 6 + 5, none⟩ = some (.bool r5)) (by kernel_rfl) (HC.out W0 (Below.refl _ _)) (fun hHeld => ?_)
    refine wpAnyH_take (i := 0) (oi := _) (v := ?vb0) rfl (by kernel_rfl) (by kernel_rfl) (by kernel_rfl) (fun _ _ _ h => h) (Or.inl ⟨by rfl, ?hyb0⟩) (by assumption) ?restb0
    case hyb0 => (intro w hSw; (try dsimp only at hSw); (try simp only [List.getElem_toArray, List.getElem_cons_zero, List.getElem_cons_succ]); go_simp; (try with_reducible rfl))
    (try simp only [Act.put, List.setIfInBounds_toArray, List.set_cons_zero, List.set_cons_succ, List.getElem_toArray, List.getElem_cons_zero, List.getElem_cons_succ])
    refine wpAnyH_take (i := 1) (oi := _) (v := ?vb1) rfl (by kernel_rfl) (by kernel_rfl) (by kernel_rfl) (fun _ _ _ h => h) (Or.inl ⟨by rfl, ?hyb1⟩) (by assumption) ?restb1
    case hyb1 => (intro w hSw; (try dsimp only at hSw); (try simp only [List.getElem_toArray, List.getElem_cons_zero, List.getElem_cons_succ]); go_simp; (try with_reducible rfl))
    (try simp only [Act.put, List.setIfInBounds_toArray, List.set_cons_zero, List.set_cons_succ, List.getElem_toArray, List.getElem_cons_zero, List.getElem_cons_succ])
    refine wpAnyH_ready (rs := [2]) (by kernel_rfl) (by simp) ?_
    refine AllReadyH.cons (o := _) rfl (fun K hK => ?_) AllReadyH.nil
    (try simp only [List.getElem_toArray, List.getElem_cons_zero, List.getElem_cons_succ])
    go_simp
    refine (HS.out _).mono ?_; rintro e w2 ⟨rfl, hb⟩; have HB2 : Hid (Below W0.heap.size W0 w2) := Lib.hid ((Below.drewN' (Below.refl _ W0) 1).trans (hb.mono (Nat.le_refl _))); clear hb
    refine hK.out _ _ ?_ (fun hHeld => ?_)
    · exact HC.out _ HB2.out
    clear hK K
    (try simp only [Act.put, List.setIfInBounds_toArray, List.set_cons_zero, List.set_cons_succ, List.getElem_toArray, List.getElem_cons_zero, List.getElem_cons_succ])
    refine wpAnyH_take (i := 3) (oi := _) (v := ?vb3) rfl (by kernel_rfl) (by kernel_rfl) (by kernel_rfl) (fun _ _ _ h => h) (Or.inl ⟨by rfl, ?hyb3⟩) (by assumption) ?restb3
    case hyb3 => (intro w hSw; (try dsimp only at hSw); (try simp only [List.getElem_toArray, List.getElem_cons_zero, List.getElem_cons_succ]); go_simp; (try with_reducible rfl))
    (try simp only [Act.put, List.setIfInBounds_toArray, List.set_cons_zero, List.set_cons_succ, List.getElem_toArray, List.getElem_cons_zero, List.getElem_cons_succ])
    refine wpAnyH_take (i := 4) (oi := _) (v := ?vb4) rfl (by kernel_rfl) (by kernel_rfl) (by kernel_rfl) (fun _ _ _ h => h) (Or.inl ⟨by rfl, ?hyb4⟩) (by assumption) ?restb4
    case hyb4 => (intro w hSw; (try dsimp only at hSw); (try simp only [List.getElem_toArray, List.getElem_cons_zero, List.getElem_cons_succ]); go_simp; (try with_reducible rfl))
    (try simp only [Act.put, List.setIfInBounds_toArray, List.set_cons_zero, List.set_cons_succ, List.getElem_toArray, List.getElem_cons_zero, List.getElem_cons_succ])
    refine wpAnyH_take (i := 5) (oi := _) (v := ?vb5) rfl (by kernel_rfl) (by kernel_rfl) (by kernel_rfl) (fun _ _ _ h => h) (Or.inl ⟨by rfl, ?hyb5⟩) (by assumption) ?restb5
    case hyb5 => (intro w hSw; (try dsimp only at hSw); (try simp only [List.getElem_toArray, List.getElem_cons_zero, List.getElem_cons_succ]); go_simp; (try with_reducible rfl))
    (try simp only [Act.put, List.setIfInBounds_toArray, List.set_cons_zero, List.set_cons_succ, List.getElem_toArray, List.getElem_cons_zero, List.getElem_cons_succ])
    refine wpAnyH_take (i := 6) (oi := _) (v := ?vb6) rfl (by kernel_rfl) (by kernel_rfl) (by kernel_rfl) (fun _ _ _ h => h) (Or.inl ⟨by rfl, ?hyb6⟩) (by assumption) ?restb6
    case hyb6 => (intro w hSw; (try dsimp only at hSw); (try simp only [List.getElem_toArray, List.getElem_cons_zero, List.getElem_cons_succ]); go_simp; (try with_reducible rfl))
    (try simp only [Act.put, List.setIfInBounds_toArray, List.set_cons_zero, List.set_cons_succ, List.getElem_toArray, List.getElem_cons_zero, List.getElem_cons_succ])
    refine wpAnyH_take (i := 7) (oi := _) (v := ?vb7) rfl (by kernel_rfl) (by kernel_rfl) (by kernel_rfl) (fun _ _ _ h => h) (Or.inl ⟨by rfl, ?hyb7⟩) (by assumption) ?restb7
    case hyb7 => (intro w hSw; (try dsimp only at hSw); (try simp only [List.getElem_toArray, List.getElem_cons_zero, List.getElem_cons_succ]); go_simp; (try with_reducible rfl))
    (try simp only [Act.put, List.setIfInBounds_toArray, List.set_cons_zero, List.set_cons_succ, List.getElem_toArray, List.getElem_cons_zero, List.getElem_cons_succ])
    refine wpAnyH_take (i := 8) (oi := _) (v := ?vb8) rfl (by kernel_rfl) (by kernel_rfl) (by kernel_rfl) (fun _ _ _ h => h) (Or.inl ⟨by rfl, ?hyb8⟩) (by assumption) ?restb8
    case hyb8 => (intro w hSw; (try dsimp only at hSw); (try simp only [List.getElem_toArray, List.getElem_cons_zero, List.getElem_cons_succ]); go_simp; (try with_reducible rfl))
    (try simp only [Act.put, List.setIfInBounds_toArray, List.set_cons_zero, List.set_cons_succ, List.getElem_toArray, List.getElem_cons_zero, List.getElem_cons_succ])
    refine wpAnyH_take (i := 9) (oi := _) (v := ?vb9) rfl (by kernel_rfl) (by kernel_rfl) (by kernel_rfl) (fun _ _ _ h => h) (Or.inl ⟨by rfl, ?hyb9⟩) (by assumption) ?restb9
    case hyb9 => (intro w hSw; (try dsimp only at hSw); (try simp only [List.getElem_toArray, List.getElem_cons_zero, List.getElem_cons_succ]); go_simp; (try with_reducible rfl))
    (try simp only [Act.put, List.setIfInBounds_toArray, List.set_cons_zero, List.set_cons_succ, List.getElem_toArray, List.getElem_cons_zero, List.getElem_cons_succ])
    refine wpAnyH_take (i := 10) (oi := _) (v := ?vb10) rfl (by kernel_rfl) (by kernel_rfl) (by kernel_rfl) (fun _ _ _ h => h) (Or.inl ⟨by rfl, ?hyb10⟩) (by assumption) ?restb10
    case hyb10 => (intro w hSw; (try dsimp only at hSw); (try simp only [List.getElem_toArray, List.getElem_cons_zero, List.getElem_cons_succ]); go_simp; (try with_reducible rfl))
    (try simp only [Act.put, List.setIfInBounds_toArray, List.set_cons_zero, List.set_cons_succ, List.getElem_toArray, List.getElem_cons_zero, List.getElem_cons_succ])
    refine wpAnyH_take (i := 11) (oi := _) (v := ?vb11) rfl (by kernel_rfl) (by kernel_rfl) (by kernel_rfl) (fun _ _ _ h => h) (Or.inl ⟨by rfl, ?hyb11⟩) (by assumption) ?restb11
    case hyb11 => (intro w hSw; (try dsimp only at hSw); (try simp only [List.getElem_toArray, List.getElem_cons_zero, List.getElem_cons_succ]); go_simp; (try with_reducible rfl))
    (try simp only [Act.put, List.setIfInBounds_toArray, List.set_cons_zero, List.set_cons_succ, List.getElem_toArray, List.getElem_cons_zero, List.getElem_cons_succ])
    refine wpAnyH_take (i := 12) (oi := _) (v := ?vb12) rfl (by kernel_rfl) (by kernel_rfl) (by kernel_rfl) (fun _ _ _ h => h) (Or.inl ⟨by rfl, ?hyb12⟩) (by assumption) ?restb12
    case hyb12 => (intro w hSw; (try dsimp only at hSw); (try simp only [List.getElem_toArray, List.getElem_cons_zero, List.getElem_cons_succ]); go_simp; (try with_reducible rfl))
    (try simp only [Act.put, List.setIfInBounds_toArray, List.set_cons_zero, List.set_cons_succ, List.getElem_toArray, List.getElem_cons_zero, List.getElem_cons_succ])
    refine wpAnyH_take (i := 13) (oi := _) (v := ?vb13) rfl (by kernel_rfl) (by kernel_rfl) (by kernel_rfl) (fun _ _ _ h => h) (Or.inl ⟨by rfl, ?hyb13⟩) (by assumption) ?restb13
    case hyb13 => (intro w hSw; (try dsimp only at hSw); (try simp only [List.getElem_toArray, List.getElem_cons_zero, List.getElem_cons_succ]); go_simp; (try with_reducible rfl))
    (try simp only [Act.put, List.setIfInBounds_toArray, List.set_cons_zero, List.set_cons_succ, List.getElem_toArray, List.getElem_cons_zero, List.getElem_cons_succ])
    refine wpAnyH_take (i := 14) (oi := _) (v := ?vb14) rfl (by kernel_rfl) (by kernel_rfl) (by kernel_rfl) (fun _ _ _ h => h) (Or.inl ⟨by rfl, ?hyb14⟩) (by assumption) ?restb14
    case hyb14 => (intro w hSw; (try dsimp only at hSw); (try simp only [List.getElem_toArray, List.getElem_cons_zero, List.getElem_cons_succ]); go_simp; (try with_reducible rfl))
    (try simp only [Act.put, List.setIfInBounds_toArray, List.set_cons_zero, List.set_cons_succ, List.getElem_toArray, List.getElem_cons_zero, List.getElem_cons_succ])
    refine wpAnyH_take (i := 15) (oi := _) (v := ?vb15) rfl (by kernel_rfl) (by kernel_rfl) (by kernel_rfl) (fun _ _ _ h => h) (Or.inl ⟨by rfl, ?hyb15⟩) (by assumption) ?restb15
    case hyb15 => (intro w hSw; (try dsimp only at hSw); (try simp only [List.getElem_toArray, List.getElem_cons_zero, List.getElem_cons_succ]); go_simp; (try with_reducible rfl))
    (try simp only [Act.put, List.setIfInBounds_toArray, List.set_cons_zero, List.set_cons_succ, List.getElem_toArray, List.getElem_cons_zero, List.getElem_cons_succ])
    refine wpAnyH_take (i := 16) (oi := _) (v := ?vb16) rfl (by kernel_rfl) (by kernel_rfl) (by kernel_rfl) (fun _ _ _ h => h) (Or.inl ⟨by rfl, ?hyb16⟩) (by assumption) ?restb16
    case hyb16 => (intro w hSw; (try dsimp only at hSw); (try simp only [List.getElem_toArray, List.getElem_cons_zero, List.getElem_cons_succ]); go_simp; (try with_reducible rfl))
    (try simp only [Act.put, List.setIfInBounds_toArray, List.set_cons_zero, List.set_cons_succ, List.getElem_toArray, List.getElem_cons_zero, List.getElem_cons_succ])
    refine wpAnyH_take (i := 17) (oi := _) (v := ?vb17) rfl (by kernel_rfl) (by kernel_rfl) (by kernel_rfl) (fun _ _ _ h => h) (Or.inl ⟨by rfl, ?hyb17⟩) (by assumption) ?restb17
    case hyb17 => (intro w hSw; (try dsimp only at hSw); (try simp only [List.getElem_toArray, List.getElem_cons_zero, List.getElem_cons_succ]); go_simp; (try with_reducible rfl))
    (try simp only [Act.put, List.setIfInBounds_toArray, List.set_cons_zero, List.set_cons_succ, List.getElem_toArray, List.getElem_cons_zero, List.getElem_cons_succ])
    refine wpAnyH_done (by kernel_rfl) ?_ _
    refine NoPanic.normal ?_
    go_wp2_with fail
    go_ret
    exact ⟨by rw [HR2.out]; rfl, HW.out _ HB2.out⟩
  · have HR2 : Hid (res = true) := Lib.hid (HR.out.2 hrs)
    have h6 := cell_ne6 hrs
    clear hrs
    rcases h6 with e0 | ⟨rfl, e0 | ⟨rfl, e0 | ⟨rfl, e0 | ⟨rfl, e0 | ⟨rfl, e0⟩⟩⟩⟩⟩
    · go_enter Try.func46, Try.ntmps46
      go_upto_region 1 with fail
      rw [← hW0, ← hp]
      clear hW0 hp
      refine wp_region_noPanic ?_
      refine wp_region_held_drew (S := fun V => V.cell? ⟨p, 0, none⟩ = some (.int .i64 W) ∧ V.cell? ⟨p, 1, none⟩ = some (.int .i64 H) ∧ V.cell? ⟨p, 2, none⟩ = some (.slice (some ⟨g1, o1, none⟩) n c) ∧ V.cell? ⟨p, 3, none⟩ = some (.int .i64 X) ∧ V.cell? ⟨p, 4, none⟩ = some (.int .i64 Y) ∧ V.cell? ⟨p, 5, none⟩ = some (.bool hi) ∧ V.cell? ⟨p + 1, 0, none⟩ = some (.int .i64 W') ∧ V.cell? ⟨p + 1, 1, none⟩ = some (.int .i64 H') ∧ V.cell? ⟨p + 1, 2, none⟩ = some (.slice (some ⟨g2, o2, none⟩) n' d) ∧ V.cell? ⟨p + 1, 3, none⟩ = some (.int .i64 X') ∧ V.cell? ⟨p + 1, 4, none⟩ = some (.int .i64 Y') ∧ V.cell? ⟨p + 1, 5, none⟩ = some (.bool hi') ∧ V.cell? ⟨g1, o1 + k * 6, none⟩ = some (.int .i32 r0) ∧ V.cell? ⟨g1, o1 + k * 6 + 1, none⟩ = some (.int .i64 r1) ∧ V.cell? ⟨g1, o1 + k * 6 + 2, none⟩ = some (.int .i64 r2) ∧ V.cell? ⟨g1, o1 + k * 6 + 3, none⟩ = some (.bool r3) ∧ V.cell? ⟨g1, o1 + k * 6 + 4, none⟩ = some (.bool r4) ∧ V.cell? ⟨g1, o1 + k * 6 + 5, none⟩ = some (.bool r5) ∧ V.cell? ⟨g2, o2 + k * 6, none⟩ = some (.int .i32 s0) ∧ V.cell? ⟨g2, o2 + k * 6 + 1, none⟩ = some (.int .i64 s1) ∧ V.cell? ⟨g2, o2 + k * 6 + 2, none⟩ = some (.int .i64 s2) ∧ V.cell? ⟨g2, o2 + k * 6 + 3, none⟩ = some (.bool s3) ∧ V.cell? ⟨g2, o2 + k * 6 + 4, none⟩ = some (.bool s4) ∧ V.cell? ⟨g2, o2 + k * 6 + 5, none⟩ = some (.bool s5)) (by kernel_rfl) (HC.out W0 (Below.refl _ _)) (fun hHeld => ?_)
      refine wpAnyH_take (i := 0) (oi := _) (v := ?vca0) rfl (by kernel_rfl) (by kernel_rfl) (by kernel_rfl) (fun _ _ _ h => h) (Or.inl ⟨by rfl, ?hyca0⟩) (by assumption) ?restca0
      case hyca0 => (intro w hSw; (try dsimp only at hSw); (try simp only [List.getElem_toArray, List.getElem_cons_zero, List.getElem_cons_succ]); go_simp; (try with_reducible rfl))
      (try simp only [Act.put, List.setIfInBounds_toArray, List.set_cons_zero, List.set_cons_succ, List.getElem_toArray, List.getElem_cons_zero, List.getElem_cons_succ])
      refine wpAnyH_take (i := 1) (oi := _) (v := ?vca1) rfl (by kernel_rfl) (by kernel_rfl) (by kernel_rfl) (fun _ _ _ h => h) (Or.inl ⟨by rfl, ?hyca1⟩) (by assumption) ?restca1
      case hyca1 => (intro w hSw; (try dsimp only at hSw); (try simp only [List.getElem_toArray, List.getElem_cons_zero, List.getElem_cons_succ]); go_simp; (try with_reducible rfl))
      (try simp only [Act.put, List.setIfInBounds_toArray, List.set_cons_zero, List.set_cons_succ, List.getElem_toArray, List.getElem_cons_zero, List.getElem_cons_succ])
      refine wpAnyH_ready (rs := [2]) (by kernel_rfl) (by simp) ?_
      refine AllReadyH.cons (o := _) rfl (fun K hK => ?_) AllReadyH.nil
      (try simp only [List.getElem_toArray, List.getElem_cons_zero, List.getElem_cons_succ])
      go_simp
      refine (HS.out _).mono ?_; rintro e w2 ⟨rfl, hb⟩; have HB2 : Hid (Below W0.heap.size W0 w2) := Lib.hid ((Below.drewN' (Below.refl _ W0) 1).trans (hb.mono (Nat.le_refl _))); clear hb
      refine hK.out _ _ ?_ (fun hHeld => ?_)
      · exact HC.out _ HB2.out
      clear hK K
      (try simp only [Act.put, List.setIfInBounds_toArray, List.set_cons_zero, List.set_cons_succ, List.getElem_toArray, List.getElem_cons_zero, List.getElem_cons_succ])
      refine wpAnyH_take (i := 3) (oi := _) (v := ?vca3) rfl (by kernel_rfl) (by kernel_rfl) (by kernel_rfl) (fun _ _ _ h => h) (Or.inl ⟨by rfl, ?hyca3⟩) (by assumption) ?restca3
      case hyca3 => (intro w hSw; (try dsimp only at hSw); (try simp only [List.getElem_toArray, List.getElem_cons_zero, List.getElem_cons_succ]); go_simp; (try with_reducible rfl))
      (try simp only [Act.put, List.setIfInBounds_toArray, List.set_cons_zero, List.set_cons_succ, List.getElem_toArray, List.getElem_cons_zero, List.getElem_cons_succ])
      refine wpAnyH_take (i := 4) (oi := _) (v := ?vca4) rfl (by kernel_rfl) (by kernel_rfl) (by kernel_rfl) (fun _ _ _ h => h) (Or.inl ⟨by rfl, ?hyca4⟩) (by assumption) ?restca4
      case hyca4 => (intro w hSw; (try dsimp only at hSw); (try simp only [List.getElem_toArray, List.getElem_cons_zero, List.getElem_cons_succ]); go_simp; (try with_reducible rfl))
      (try simp only [Act.put, List.setIfInBounds_toArray, List.set_cons_zero, List.set_cons_succ, List.getElem_toArray, List.getElem_cons_zero, List.getElem_cons_succ])
      refine wpAnyH_take (i := 5) (oi := _) (v := ?vca5) rfl (by kernel_rfl) (by kernel_rfl) (by kernel_rfl) (fun _ _ _ h => h) (Or.inl ⟨by rfl, ?hyca5⟩) (by assumption) ?restca5
      case hyca5 => (intro w hSw; (try dsimp only at hSw); (try simp only [List.getElem_toArray, List.getElem_cons_zero, List.getElem_cons_succ]); go_simp; (try with_reducible rfl))
      (try simp only [Act.put, List.setIfInBounds_toArray, List.set_cons_zero, List.set_cons_succ, List.getElem_toArray, List.getElem_cons_zero, List.getElem_cons_succ])
      refine wpAnyH_take (i := 6) (oi := _) (v := ?vca6) rfl (by kernel_rfl) (by kernel_rfl) (by kernel_rfl) (fun _ _ _ h => h) (Or.inl ⟨by rfl, ?hyca6⟩) (by assumption) ?restca6
      case hyca6 => (intro w hSw; (try dsimp only at hSw); (try simp only [List.getElem_toArray, List.getElem_cons_zero, List.getElem_cons_succ]); go_simp; (try with_reducible rfl))
      (try simp only [Act.put, List.setIfInBounds_toArray, List.set_cons_zero, List.set_cons_succ, List.getElem_toArray, List.getElem_cons_zero, List.getElem_cons_succ])
      refine wpAnyH_take (i := 7) (oi := _) (v := ?vca7) rfl (by kernel_rfl) (by kernel_rfl) (by kernel_rfl) (fun _ _ _ h => h) (Or.inl ⟨by rfl, ?hyca7⟩) (by assumption) ?restca7
      case hyca7 => (intro w hSw; (try dsimp only at hSw); (try simp only [List.getElem_toArray, List.getElem_cons_zero, List.getElem_cons_succ]); go_simp; (try with_reducible rfl))
      (try simp only [Act.put, List.setIfInBounds_toArray, List.set_cons_zero, List.set_cons_succ, List.getElem_toArray, List.getElem_cons_zero, List.getElem_cons_succ])
      refine wpAnyH_take (i := 8) (oi := _) (v := ?vca8) rfl (by kernel_rfl) (by kernel_rfl) (by kernel_rfl) (fun _ _ _ h => h) (Or.inl ⟨by rfl, ?hyca8⟩) (by assumption) ?restca8
      case hyca8 => (intro w hSw; (try dsimp only at hSw); (try simp only [List.getElem_toArray, List.getElem_cons_zero, List.getElem_cons_succ]); go_simp; (try with_reducible rfl))
      (try simp only [Act.put, List.setIfInBounds_toArray, List.set_cons_zero, List.set_cons_succ, List.getElem_toArray, List.getElem_cons_zero, List.getElem_cons_succ])
      refine wpAnyH_take (i := 9) (oi := _) (v := ?vca9) rfl (by kernel_rfl) (by kernel_rfl) (by kernel_rfl) (fun _ _ _ h => h) (Or.inl ⟨by rfl, ?hyca9⟩) (by assumption) ?restca9
      case hyca9 => (intro w hSw; (try dsimp only at hSw); (try simp only [List.getElem_toArray, List.getElem_cons_zero, List.getElem_cons_succ]); go_simp; (try with_reducible rfl))
      (try simp only [Act.put, List.setIfInBounds_toArray, List.set_cons_zero, List.set_cons_succ, List.getElem_toArray, List.getElem_cons_zero, List.getElem_cons_succ])
      refine wpAnyH_take (i := 10) (oi := _) (v := ?vca10) rfl (by kernel_rfl) (by kernel_rfl) (by kernel_rfl) (fun _ _ _ h => h) (Or.inl ⟨by rfl, ?hyca10⟩) (by assumption) ?restca10
      case hyca10 => (intro w hSw; (try dsimp only at hSw); (try simp only [List.getElem_toArray, List.getElem_cons_zero, List.getElem_cons_succ]); go_simp; (try with_reducible rfl))
      (try simp only [Act.put, List.setIfInBounds_toArray, List.set_cons_zero, List.set_cons_succ, List.getElem_toArray, List.getElem_cons_zero, List.getElem_cons_succ])
      refine wpAnyH_take (i := 11) (oi := _) (v := ?vca11) rfl (by kernel_rfl) (by kernel_rfl) (by kernel_rfl) (fun _ _ _ h => h) (Or.inl ⟨by rfl, ?hyca11⟩) (by assumption) ?restca11
      case hyca11 => (intro w hSw; (try dsimp only at hSw); (try simp only [List.getElem_toArray, List.getElem_cons_zero, List.getElem_cons_succ]); go_simp; (try with_reducible rfl))
      (try simp only [Act.put, List.setIfInBounds_toArray, List.set_cons_zero, List.set_cons_succ, List.getElem_toArray, List.getElem_cons_zero, List.getElem_cons_succ])
      refine wpAnyH_take (i := 12) (oi := _) (v := ?vca12) rfl (by kernel_rfl) (by kernel_rfl) (by kernel_rfl) (fun _ _ _ h => h) (Or.inl ⟨by rfl, ?hyca12⟩) (by assumption) ?restca12
      case hyca12 => (intro w hSw; (try dsimp only at hSw); (try simp only [List.getElem_toArray, List.getElem_cons_zero, List.getElem_cons_succ]); go_simp; (try with_reducible rfl))
      (try simp only [Act.put, List.setIfInBounds_toArray, List.set_cons_zero, List.set_cons_succ, List.getElem_toArray, List.getElem_cons_zero, List.getElem_cons_succ])
      refine wpAnyH_take (i := 13) (oi := _) (v := ?vca13) rfl (by kernel_rfl) (by kernel_rfl) (by kernel_rfl) (fun _ _ _ h => h) (Or.inl ⟨by rfl, ?hyca13⟩) (by assumption) ?restca13
      case hyca13 => (intro w hSw; (try dsimp only at hSw); (try simp only [List.getElem_toArray, List.getElem_cons_zero, List.getElem_cons_succ]); go_simp; (try with_reducible rfl))
      (try simp only [Act.put, List.setIfInBounds_toArray, List.set_cons_zero, List.set_cons_succ, List.getElem_toArray, List.getElem_cons_zero, List.getElem_cons_succ])
      refine wpAnyH_take (i := 14) (oi := _) (v := ?vca14) rfl (by kernel_rfl) (by kernel_rfl) (by kernel_rfl) (fun _ _ _ h => h) (Or.inl ⟨by rfl, ?hyca14⟩) (by assumption) ?restca14
      case hyca14 => (intro w hSw; (try dsimp only at hSw); (try simp only [List.getElem_toArray, List.getElem_cons_zero, List.getElem_cons_succ]); go_simp; (try with_reducible rfl))
      (try simp only [Act.put, List.setIfInBounds_toArray, List.set_cons_zero, List.set_cons_succ, List.getElem_toArray, List.getElem_cons_zero, List.getElem_cons_succ])
      refine wpAnyH_take (i := 15) (oi := _) (v := ?vca15) rfl (by kernel_rfl) (by kernel_rfl) (by kernel_rfl) (fun _ _ _ h => h) (Or.inl ⟨by rfl, ?hyca15⟩) (by assumption) ?restca15
      case hyca15 => (intro w hSw; (try dsimp only at hSw); (try simp only [List.getElem_toArray, List.getElem_cons_zero, List.getElem_cons_succ]); go_simp; (try with_reducible rfl))
      (try simp only [Act.put, List.setIfInBounds_toArray, List.set_cons_zero, List.set_cons_succ, List.getElem_toArray, List.getElem_cons_zero, List.getElem_cons_succ])
      refine wpAnyH_take (i := 16) (oi := _) (v := ?vca16) rfl (by kernel_rfl) (by kernel_rfl) (by kernel_rfl) (fun _ _ _ h => h) (Or.inl ⟨by rfl, ?hyca16⟩) (by assumption) ?restca16
      case hyca16 => (intro w hSw; (try dsimp only at hSw); (try simp only [List.getElem_toArray, List.getElem_cons_zero, List.getElem_cons_succ]); go_simp; (try with_reducible rfl))
      (try simp only [Act.put, List.setIfInBounds_toArray, List.set_cons_zero, List.set_cons_succ, List.getElem_toArray, List.getElem_cons_zero, List.getElem_cons_succ])
      refine wpAnyH_take (i := 17) (oi := _) (v := ?vca17) rfl (by kernel_rfl) (by kernel_rfl) (by kernel_rfl) (fun _ _ _ h => h) (Or.inl ⟨by rfl, ?hyca17⟩) (by assumption) ?restca17
      case hyca17 => (intro w hSw; (try dsimp only at hSw); (try simp only [List.getElem_toArray, List.getElem_cons_zero, List.getElem_cons_succ]); go_simp; (try with_reducible rfl))
      (try simp only [Act.put, List.setIfInBounds_toArray, List.set_cons_zero, List.set_cons_succ, List.getElem_toArray, List.getElem_cons_zero, List.getElem_cons_succ])
      refine wpAnyH_done (by kernel_rfl) ?_ _
      refine NoPanic.normal ?_
      go_wp2_with fail
      go_ret
      exact ⟨by rw [HR2.out]; rfl, HW.out _ HB2.out⟩
    · go_enter Try.func46, Try.ntmps46
      go_upto_region 1 with fail
      rw [← hW0, ← hp]
      clear hW0 hp
      refine wp_region_noPanic ?_
      refine wp_region_held_drew (S := fun V => V.cell? ⟨p, 0, none⟩ = some (.int .i64 W) ∧ V.cell? ⟨p, 1, none⟩ = some (.int .i64 H) ∧ V.cell? ⟨p, 2, none⟩ = some (.slice (some ⟨g1, o1, none⟩) n c) ∧ V.cell? ⟨p, 3, none⟩ = some (.int .i64 X) ∧ V.cell? ⟨p, 4, none⟩ = some (.int .i64 Y) ∧ V.cell? ⟨p, 5, none⟩ = some (.bool hi) ∧ V.cell? ⟨p + 1, 0, none⟩ = some (.int .i64 W') ∧ V.cell? ⟨p + 1, 1, none⟩ = some (.int .i64 H') ∧ V.cell? ⟨p + 1, 2, none⟩ = some (.slice (some ⟨g2, o2, none⟩) n' d) ∧ V.cell? ⟨p + 1, 3, none⟩ = some (.int .i64 X') ∧ V.cell? ⟨p + 1, 4, none⟩ = some (.int .i64 Y') ∧ V.cell? ⟨p + 1, 5, none⟩ = some (.bool hi') ∧ V.cell? ⟨g1, o1 + k * 6, none⟩ = some (.int .i32 r0) ∧ V.cell? ⟨g1, o1 + k * 6 + 1, none⟩ = some (.int .i64 r1) ∧ V.cell? ⟨g1, o1 + k * 6 + 2, none⟩ = some (.int .i64 r2) ∧ V.cell? ⟨g1, o1 + k * 6 + 3, none⟩ = some (.bool r3) ∧ V.cell? ⟨g1, o1 + k * 6 + 4, none⟩ = some (.bool r4) ∧ V.cell? ⟨g1, o1 + k * 6 + 5, none⟩ = some (.bool r5) ∧ V.cell? ⟨g2, o2 + k * 6, none⟩ = some (.int .i32 r0) ∧ V.cell? ⟨g2, o2 + k * 6 + 1, none⟩ = some (.int .i64 s1) ∧ V.cell? ⟨g2, o2 + k * 6 + 2, none⟩ = some (.int .i64 s2) ∧ V.cell? ⟨g2, o2 + k * 6 + 3, none⟩ = some (.bool s3) ∧ V.cell? ⟨g2, o2 + k * 6 + 4, none⟩ = some (.bool s4) ∧ V.cell? ⟨g2, o2 + k * 6 + 5, none⟩ = some (.bool s5)) (by kernel_rfl) (HC.out W0 (Below.refl _ _)) (fun hHeld => ?_)
      refine wpAnyH_take (i := 0) (oi := _) (v := ?vcb0) rfl (by kernel_rfl) (by kernel_rfl) (by kernel_rfl) (fun _ _ _ h => h) (Or.inl ⟨by rfl, ?hycb0⟩) (by assumption) ?restcb0
      case hycb0 => (intro w hSw; (try dsimp only at hSw); (try simp only [List.getElem_toArray, List.getElem_cons_zero, List.getElem_cons_succ]); go_simp; (try with_reducible rfl))
      (try simp only [Act.put, List.setIfInBounds_toArray, List.set_cons_zero, List.set_cons_succ, List.getElem_toArray, List.getElem_cons_zero, List.getElem_cons_succ])
      refine wpAnyH_take (i := 1) (oi := _) (v := ?vcb1) rfl (by kernel_rfl) (by kernel_rfl) (by kernel_rfl) (fun _ _ _ h => h) (Or.inl ⟨by rfl, ?hycb1⟩) (by assumption) ?restcb1
      case hycb1 => (intro w hSw; (try dsimp only at hSw); (try simp only [List.getElem_toArray, List.getElem_cons_zero, List.getElem_cons_succ]); go_simp; (try with_reducible rfl))
      (try simp only [Act.put, List.setIfInBounds_toArray, List.set_cons_zero, List.set_cons_succ, List.getElem_toArray, List.getElem_cons_zero, List.getElem_cons_succ])
      refine wpAnyH_ready (rs := [2]) (by kernel_rfl) (by simp) ?_
      refine AllReadyH.cons (o := _) rfl (fun K hK => ?_) AllReadyH.nil
      (try simp only [List.getElem_toArray, List.getElem_cons_zero, List.getElem_cons_succ])
      go_simp
      refine (HS.out _).mono ?_; rintro e w2 ⟨rfl, hb⟩; have HB2 : Hid (Below W0.heap.size W0 w2) := Lib.hid ((Below.drewN' (Below.refl _ W0) 1).trans (hb.mono (Nat.le_refl _))); clear hb
      refine hK.out _ _ ?_ (fun hHeld => ?_)
      · exact HC.out _ HB2.out
      clear hK K
      (try simp only [Act.put, List.setIfInBounds_toArray, List.set_cons_zero, List.set_cons_succ, List.getElem_toArray, List.getElem_cons_zero, List.getElem_cons_succ])
      refine wpAnyH_take (i := 3) (oi := _) (v := ?vcb3) rfl (by kernel_rfl) (by kernel_rfl) (by kernel_rfl) (fun _ _ _ h => h) (Or.inl ⟨by rfl, ?hycb3⟩) (by assumption) ?restcb3
      case hycb3 => (intro w hSw; (try dsimp only at hSw); (try simp only [List.getElem_toArray, List.getElem_cons_zero, List.getElem_cons_succ]); go_simp; (try with_reducible rfl))
      (try simp only [Act.put, List.setIfInBounds_toArray, List.set_cons_zero, List.set_cons_succ, List.getElem_toArray, List.getElem_cons_zero, List.getElem_cons_succ])
      refine wpAnyH_take (i := 4) (oi := _) (v := ?vcb4) rfl (by kernel_rfl) (by kernel_rfl) (by kernel_rfl) (fun _ _ _ h => h) (Or.inl ⟨by rfl, ?hycb4⟩) (by assumption) ?restcb4
      case hycb4 => (intro w hSw; (try dsimp only at hSw); (try simp only [List.getElem_toArray, List.getElem_cons_zero, List.getElem_cons_succ]); go_simp; (try with_reducible rfl))
      (try simp only [Act.put, List.setIfInBounds_toArray, List.set_cons_zero, List.set_cons_succ, List.getElem_toArray, List.getElem_cons_zero, List.getElem_cons_succ])
      refine wpAnyH_take (i := 5) (oi := _) (v := ?vcb5) rfl (by kernel_rfl) (by kernel_rfl) (by kernel_rfl) (fun _ _ _ h => h) (Or.inl ⟨by rfl, ?hycb5⟩) (by assumption) ?restcb5
      case hycb5 => (intro w hSw; (try dsimp only at hSw); (try simp only [List.getElem_toArray, List.getElem_cons_zero, List.getElem_cons_succ]); go_simp; (try with_reducible rfl))
      (try simp only [Act.put, List.setIfInBounds_toArray, List.set_cons_zero, List.set_cons_succ, List.getElem_toArray, List.getElem_cons_zero, List.getElem_cons_succ])
      refine wpAnyH_take (i := 6) (oi := _) (v := ?vcb6) rfl (by kernel_rfl) (by kernel_rfl) (by kernel_rfl) (fun _ _ _ h => h) (Or.inl ⟨by rfl, ?hycb6⟩) (by assumption) ?restcb6
      case hycb6 => (intro w hSw; (try dsimp only at hSw); (try simp only [List.getElem_toArray, List.getElem_cons_zero, List.getElem_cons_succ]); go_simp; (try with_reducible rfl))
      (try simp only [Act.put, List.setIfInBounds_toArray, List.set_cons_zero, List.set_cons_succ, List.getElem_toArray, List.getElem_cons_zero, List.getElem_cons_succ])
      refine wpAnyH_take (i := 7) (oi := _) (v := ?vcb7) rfl (by kernel_rfl) (by kernel_rfl) (by kernel_rfl) (fun _ _ _ h => h) (Or.inl ⟨by rfl, ?hycb7⟩) (by assumption) ?restcb7
      case hycb7 => (intro w hSw; (try dsimp only at hSw); (try simp only [List.getElem_toArray, List.getElem_cons_zero, List.getElem_cons_succ]); go_simp; (try with_reducible rfl))
      (try simp only [Act.put, List.setIfInBounds_toArray, List.set_cons_zero, List.set_cons_succ, List.getElem_toArray, List.getElem_cons_zero, List.getElem_cons_succ])
      refine wpAnyH_take (i := 8) (oi := _) (v := ?vcb8) rfl (by kernel_rfl) (by kernel_rfl) (by kernel_rfl) (fun _ _ _ h => h) (Or.inl ⟨by rfl, ?hycb8⟩) (by assumption) ?restcb8
      case hycb8 => (intro w hSw; (try dsimp only at hSw); (try simp only [List.getElem_toArray, List.getElem_cons_zero, List.getElem_cons_succ]); go_simp; (try with_reducible rfl))
      (try simp only [Act.put, List.setIfInBounds_toArray, List.set_cons_zero, List.set_cons_succ, List.getElem_toArray, List.getElem_cons_zero, List.getElem_cons_succ])
      refine wpAnyH_take (i := 9) (oi := _) (v := ?vcb9) rfl (by kernel_rfl) (by kernel_rfl) (by kernel_rfl) (fun _ _ _ h => h) (Or.inl ⟨by rfl, ?hycb9⟩) (by assumption) ?restcb9
      case hycb9 => (intro w hSw; (try dsimp only at hSw); (try simp only [List.getElem_toArray, List.getElem_cons_zero, List.getElem_cons_succ]); go_simp; (try with_reducible rfl))
      (try simp only [Act.put, List.setIfInBounds_toArray, List.set_cons_zero, List.set_cons_succ, List.getElem_toArray, List.getElem_cons_zero, List.getElem_cons_succ])
      refine wpAnyH_take (i := 10) (oi := _) (v := ?vcb10) rfl (by kernel_rfl) (by kernel_rfl) (by kernel_rfl) (fun _ _ _ h => h) (Or.inl ⟨by rfl, ?hycb10⟩) (by assumption) ?restcb10
      case hycb10 => (intro w hSw; (try dsimp only at hSw); (try simp only [List.getElem_toArray, List.getElem_cons_zero, List.getElem_cons_succ]); go_simp; (try with_reducible rfl))
      (try simp only [Act.put, List.setIfInBounds_toArray, List.set_cons_zero, List.set_cons_succ, List.getElem_toArray, List.getElem_cons_zero, List.getElem_cons_succ])
      refine wpAnyH_take (i := 11) (oi := _) (v := ?vcb11) rfl (by kernel_rfl) (by kernel_rfl) (by kernel_rfl) (fun _ _ _ h => h) (Or.inl ⟨by rfl, ?hycb11⟩) (by assumption) ?restcb11
      case hycb11 => (intro w hSw; (try dsimp only at hSw); (try simp only [List.getElem_toArray, List.getElem_cons_zero, List.getElem_cons_succ]); go_simp; (try with_reducible rfl))
      (try simp only [Act.put, List.setIfInBounds_toArray, List.set_cons_zero, List.set_cons_succ, List.getElem_toArray, List.getElem_cons_zero, List.getElem_cons_succ])
      refine wpAnyH_take (i := 12) (oi := _) (v := ?vcb12) rfl (by kernel_rfl) (by kernel_rfl) (by kernel_rfl) (fun _ _ _ h => h) (Or.inl ⟨by rfl, ?hycb12⟩) (by assumption) ?restcb12
      case hycb12 => (intro w hSw; (try dsimp only at hSw); (try simp only [List.getElem_toArray, List.getElem_cons_zero, List.getElem_cons_succ]); go_simp; (try with_reducible rfl))
      (try simp only [Act.put, List.setIfInBounds_toArray, List.set_cons_zero, List.set_cons_succ, List.getElem_toArray, List.getElem_cons_zero, List.getElem_cons_succ])
      refine wpAnyH_take (i := 13) (oi := _) (v := ?vcb13) rfl (by kernel_rfl) (by kernel_rfl) (by kernel_rfl) (fun _ _ _ h => h) (Or.inl ⟨by rfl, ?hycb13⟩) (by assumption) ?restcb13
      case hycb13 => (intro w hSw; (try dsimp only at hSw); (try simp only [List.getElem_toArray, List.getElem_cons_zero, List.getElem_cons_succ]); go_simp; (try with_reducible rfl))
      (try simp only [Act.put, List.setIfInBounds_toArray, List.set_cons_zero, List.set_cons_succ, List.getElem_toArray, List.getElem_cons_zero, List.getElem_cons_succ])
      refine wpAnyH_take (i := 14) (oi := _) (v := ?vcb14) rfl (by kernel_rfl) (by kernel_rfl) (by kernel_rfl) (fun _ _ _ h => h) (Or.inl ⟨by rfl, ?hycb14⟩) (by assumption) ?restcb14
      case hycb14 => (intro w hSw; (try dsimp only at hSw); (try simp only [List.getElem_toArray, List.getElem_cons_zero, List.getElem_cons_succ]); go_simp; (try with_reducible rfl))
      (try simp only [Act.put, List.setIfInBounds_toArray, List.set_cons_zero, List.set_cons_succ, List.getElem_toArray, List.getElem_cons_zero, List.getElem_cons_succ])
      refine wpAnyH_take (i := 15) (oi := _) (v := ?vcb15) rfl (by kernel_rfl) (by kernel_rfl) (by kernel_rfl) (fun _ _ _ h => h) (Or.inl ⟨by rfl, ?hycb15⟩) (by assumption) ?restcb15
      case hycb15 => (intro w hSw; (try dsimp only at hSw); (try simp only [List.getElem_toArray, List.getElem_cons_zero, List.getElem_cons_succ]); go_simp; (try with_reducible rfl))
      (try simp only [Act.put, List.setIfInBounds_toArray, List.set_cons_zero, List.set_cons_succ, List.getElem_toArray, List.getElem_cons_zero, List.getElem_cons_succ])
      refine wpAnyH_take (i := 16) (oi := _) (v := ?vcb16) rfl (by kernel_rfl) (by kernel_rfl) (by kernel_rfl) (fun _ _ _ h => h) (Or.inl ⟨by rfl, ?hycb16⟩) (by assumption) ?restcb16
      case hycb16 => (intro w hSw; (try dsimp only at hSw); (try simp only [List.getElem_toArray, List.getElem_cons_zero, List.getElem_cons_succ]); go_simp; (try with_reducible rfl))
      (try simp only [Act.put, List.setIfInBounds_toArray, List.set_cons_zero, List.set_cons_succ, List.getElem_toArray, List.getElem_cons_zero, List.getElem_cons_succ])
      refine wpAnyH_take (i := 17) (oi := _) (v := ?vcb17) rfl (by kernel_rfl) (by kernel_rfl) (by kernel_rfl) (fun _ _ _ h => h) (Or.inl ⟨by rfl, ?hycb17⟩) (by assumption) ?restcb17
      case hycb17 => (intro w hSw; (try dsimp only at hSw); (try simp only [List.getElem_toArray, List.getElem_cons_zero, List.getElem_cons_succ]); go_simp; (try with_reducible rfl))
      (try simp only [Act.put, List.setIfInBounds_toArray, List.set_cons_zero, List.set_cons_succ, List.getElem_toArray, List.getElem_cons_zero, List.getElem_cons_succ])
      refine wpAnyH_done (by kernel_rfl) ?_ _
      refine NoPanic.normal ?_
      go_wp2_with fail
      go_ret
      exact ⟨by rw [HR2.out]; rfl, HW.out _ HB2.out⟩
    · go_enter Try.func46, Try.ntmps46
      go_upto_region 1 with fail
      rw [← hW0, ← hp]
      clear hW0 hp
      refine wp_region_noPanic ?_
      refine wp_region_held_drew (S := fun V => V.cell? ⟨p, 0, none⟩ = some (.int .i64 W) ∧ V.cell? ⟨p, 1, none⟩ = some (.int .i64 H) ∧ V.cell? ⟨p, 2, none⟩ = some (.slice (some ⟨g1, o1, none⟩) n c) ∧ V.cell? ⟨p, 3, none⟩ = some (.int .i64 X) ∧ V.cell? ⟨p, 4, none⟩ = some (.int .i64 Y) ∧ V.cell? ⟨p, 5, none⟩ = some (.bool hi) ∧ V.cell? ⟨p + 1, 0, none⟩ = some (.int .i64 W') ∧ V.cell? ⟨p + 1, 1, none⟩ = some (.int .i64 H') ∧ V.cell? ⟨p + 1, 2, none⟩ = some (.slice (some ⟨g2, o2, none⟩) n' d) ∧ V.cell? ⟨p + 1, 3, none⟩ = some (.int .i64 X') ∧ V.cell? ⟨p + 1, 4, none⟩ = some (.int .i64 Y') ∧ V.cell? ⟨p + 1, 5, none⟩ = some (.bool hi') ∧ V.cell? ⟨g1, o1 + k * 6, none⟩ = some (.int .i32 r0) ∧ V.cell? ⟨g1, o1 + k * 6 + 1, none⟩ = some (.int .i64 r1) ∧ V.cell? ⟨g1, o1 + k * 6 + 2, none⟩ = some (.int .i64 r2) ∧ V.cell? ⟨g1, o1 + k * 6 + 3, none⟩ = some (.bool r3) ∧ V.cell? ⟨g1, o1 + k * 6 + 4, none⟩ = some (.bool r4) ∧ V.cell? ⟨g1, o1 + k * 6 + 5, none⟩ = some (.bool r5) ∧ V.cell? ⟨g2, o2 + k * 6, none⟩ = some (.int .i32 r0) ∧ V.cell? ⟨g2, o2 + k * 6 + 1, none⟩ = some (.int .i64 r1) ∧ V.cell? ⟨g2, o2 + k * 6 + 2, none⟩ = some (.int .i64 s2) ∧ V.cell? ⟨g2, o2 + k * 6 + 3, none⟩ = some (.bool s3) ∧ V.cell? ⟨g2, o2 + k * 6 + 4, none⟩ = some (.bool s4) ∧ V.cell? ⟨g2, o2 + k * 6 + 5, none⟩ = some (.bool s5)) (by kernel_rfl) (HC.out W0 (Below.refl _ _)) (fun hHeld => ?_)
      refine wpAnyH_take (i := 0) (oi := _) (v := ?vcc0) rfl (by kernel_rfl) (by kernel_rfl) (by kernel_rfl) (fun _ _ _ h => h) (Or.inl ⟨by rfl, ?hycc0⟩) (by assumption) ?restcc0
      case hycc0 => (intro w hSw; (try dsimp only at hSw); (try simp only [List.getElem_toArray, List.getElem_cons_zero, List.getElem_cons_succ]); go_simp; (try with_reducible rfl))
      (try simp only [Act.put, List.setIfInBounds_toArray, List.set_cons_zero, List.set_cons_succ, List.getElem_toArray, List.getElem_cons_zero, List.getElem_cons_succ])
      refine wpAnyH_take (i := 1) (oi := _) (v := ?vcc1) rfl (by kernel_rfl) (by kernel_rfl) (by kernel_rfl) (fun _ _ _ h => h) (Or.inl ⟨by rfl, ?hycc1⟩) (by assumption) ?restcc1
      case hycc1 => (intro w hSw; (try dsimp only at hSw); (try simp only [List.getElem_toArray, List.getElem_cons_zero, List.getElem_cons_succ]); go_simp; (try with_reducible rfl))
      (try simp only [Act.put, List.setIfInBounds_toArray, List.set_cons_zero, List.set_cons_succ, List.getElem_toArray, List.getElem_cons_zero, List.getElem_cons_succ])
      refine wpAnyH_ready (rs := [2]) (by kernel_rfl) (by simp) ?_
      refine AllReadyH.cons (o := _) rfl (fun K hK => ?_) AllReadyH.nil
      (try simp only [List.getElem_toArray, List.getElem_cons_zero, List.getElem_cons_succ])
      go_simp
      refine (HS.out _).mono ?_; rintro e w2 ⟨rfl, hb⟩; have HB2 : Hid (Below W0.heap.size W0 w2) := Lib.hid ((Below.drewN' (Below.refl _ W0) 1).trans (hb.mono (Nat.le_refl _))); clear hb
      refine hK.out _ _ ?_ (fun hHeld => ?_)
      · exact HC.out _ HB2.out
      clear hK K
      (try simp only [Act.put, List.setIfInBounds_toArray, List.set_cons_zero, List.set_cons_succ, List.getElem_toArray, List.getElem_cons_zero, List.getElem_cons_succ])
      refine wpAnyH_take (i := 3) (oi := _) (v := ?vcc3) rfl (by kernel_rfl) (by kernel_rfl) (by kernel_rfl) (fun _ _ _ h => h) (Or.inl ⟨by rfl, ?hycc3⟩) (by assumption) ?restcc3
      case hycc3 => (intro w hSw; (try dsimp only at hSw); (try simp only [List.getElem_toArray, List.getElem_cons_zero, List.getElem_cons_succ]); go_simp; (try with_reducible rfl))
      (try simp only [Act.put, List.setIfInBounds_toArray, List.set_cons_zero, List.set_cons_succ, List.getElem_toArray, List.getElem_cons_zero, List.getElem_cons_succ])
      refine wpAnyH_take (i := 4) (oi := _) (v := ?vcc4) rfl (by kernel_rfl) (by kernel_rfl) (by kernel_rfl) (fun _ _ _ h => h) (Or.inl ⟨by rfl, ?hycc4⟩) (by assumption) ?restcc4
      case hycc4 => (intro w hSw; (try dsimp only at hSw); (try simp only [List.getElem_toArray, List.getElem_cons_zero, List.getElem_cons_succ]); go_simp; (try with_reducible rfl))
      (try simp only [Act.put, List.setIfInBounds_toArray, List.set_cons_zero, List.set_cons_succ, List.getElem_toArray, List.getElem_cons_zero, List.getElem_cons_succ])
      refine wpAnyH_take (i := 5) (oi := _) (v := ?vcc5) rfl (by kernel_rfl) (by kernel_rfl) (by kernel_rfl) (fun _ _ _ h => h) (Or.inl ⟨by rfl, ?hycc5⟩) (by assumption) ?restcc5
      case hycc5 => (intro w hSw; (try dsimp only at hSw); (try simp only [List.getElem_toArray, List.getElem_cons_zero, List.getElem_cons_succ]); go_simp; (try with_reducible rfl))
      (try simp only [Act.put, List.setIfInBounds_toArray, List.set_cons_zero, List.set_cons_succ, List.getElem_toArray, List.getElem_cons_zero, List.getElem_cons_succ])
      refine wpAnyH_take (i := 6) (oi := _) (v := ?vcc6) rfl (by kernel_rfl) (by kernel_rfl) (by kernel_rfl) (fun _ _ _ h => h) (Or.inl ⟨by rfl, ?hycc6⟩) (by assumption) ?restcc6
      case hycc6 => (intro w hSw; (try dsimp only at hSw); (try simp only [List.getElem_toArray, List.getElem_cons_zero, List.getElem_cons_succ]); go_simp; (try with_reducible rfl))
      (try simp only [Act.put, List.setIfInBounds_toArray, List.set_cons_zero, List.set_cons_succ, List.getElem_toArray, List.getElem_cons_zero, List.getElem_cons_succ])
      refine wpAnyH_take (i := 7) (oi := _) (v := ?vcc7) rfl (by kernel_rfl) (by kernel_rfl) (by kernel_rfl) (fun _ _ _ h => h) (Or.inl ⟨by rfl, ?hycc7⟩) (by assumption) ?restcc7
      case hycc7 => (intro w hSw; (try dsimp only at hSw); (try simp only [List.getElem_toArray, List.getElem_cons_zero, List.getElem_cons_succ]); go_simp; (try with_reducible rfl))
      (try simp only [Act.put, List.setIfInBounds_toArray, List.set_cons_zero, List.set_cons_succ, List.getElem_toArray, List.getElem_cons_zero, List.getElem_cons_succ])
      refine wpAnyH_take (i := 8) (oi := _) (v := ?vcc8) rfl (by kernel_rfl) (by kernel_rfl) (by kernel_rfl) (fun _ _ _ h => h) (Or.inl ⟨by rfl, ?hycc8⟩) (by assumption) ?restcc8
      case hycc8 => (intro w hSw; (try dsimp only at hSw); (try simp only [List.getElem_toArray, List.getElem_cons_zero, List.getElem_cons_succ]); go_simp; (try with_reducible rfl))
      (try simp only [Act.put, List.setIfInBounds_toArray, List.set_cons_zero, List.set_cons_succ, List.getElem_toArray, List.getElem_cons_zero, List.getElem_cons_succ])
      refine wpAnyH_take (i := 9) (oi := _) (v := ?vcc9) rfl (by kernel_rfl) (by kernel_rfl) (by kernel_rfl) (fun _ _ _ h => h) (Or.inl ⟨by rfl, ?hycc9⟩) (by assumption) ?restcc9
      case hycc9 => (intro w hSw; (try dsimp only at hSw); (try simp only [List.getElem_toArray, List.getElem_cons_zero, List.getElem_cons_succ]); go_simp; (try with_reducible rfl))
      (try simp only [Act.put, List.setIfInBounds_toArray, List.set_cons_zero, List.set_cons_succ, List.getElem_toArray, List.getElem_cons_zero, List.getElem_cons_succ])
      refine wpAnyH_take (i := 10) (oi := _) (v := ?vcc10) rfl (by kernel_rfl) (by kernel_rfl) (by kernel_rfl) (fun _ _ _ h => h) (Or.inl ⟨by rfl, ?hycc10⟩) (by assumption) ?restcc10
      case hycc10 => (intro w hSw; (try dsimp only at hSw); (try simp only [List.getElem_toArray, List.getElem_cons_zero, List.getElem_cons_succ]); go_simp; (try with_reducible rfl))
      (try simp only [Act.put, List.setIfInBounds_toArray, List.set_cons_zero, List.set_cons_succ, List.getElem_toArray, List.getElem_cons_zero, List.getElem_cons_succ])
      refine wpAnyH_take (i := 11) (oi := _) (v := ?vcc11) rfl (by kernel_rfl) (by kernel_rfl) (by kernel_rfl) (fun _ _ _ h => h) (Or.inl ⟨by rfl, ?hycc11⟩) (by assumption) ?restcc11
      case hycc11 => (intro w hSw; (try dsimp only at hSw); (try simp only [List.getElem_toArray, List.getElem_cons_zero, List.getElem_cons_succ]); go_simp; (try with_reducible rfl))
      (try simp only [Act.put, List.setIfInBounds_toArray, List.set_cons_zero, List.set_cons_succ, List.getElem_toArray, List.getElem_cons_zero, List.getElem_cons_succ])
      refine wpAnyH_take (i := 12) (oi := _) (v := ?vcc12) rfl (by kernel_rfl) (by kernel_rfl) (by kernel_rfl) (fun _ _ _ h => h) (Or.inl ⟨by rfl, ?hycc12⟩) (by assumption) ?restcc12
      case hycc12 => (intro w hSw; (try dsimp only at hSw); (try simp only [List.getElem_toArray, List.getElem_cons_zero, List.getElem_cons_succ]); go_simp; (try with_reducible rfl))
      (try simp only [Act.put, List.setIfInBounds_toArray, List.set_cons_zero, List.set_cons_succ, List.getElem_toArray, List.getElem_cons_zero, List.getElem_cons_succ])
      refine wpAnyH_take (i := 13) (oi := _) (v := ?vcc13) rfl (by kernel_rfl) (by kernel_rfl) (by kernel_rfl) (fun _ _ _ h => h) (Or.inl ⟨by rfl, ?hycc13⟩) (by assumption) ?restcc13
      case hycc13 => (intro w hSw; (try dsimp only at hSw); (try simp only [List.getElem_toArray, List.getElem_cons_zero, List.getElem_cons_succ]); go_simp; (try with_reducible rfl))
      (try simp only [Act.put, List.setIfInBounds_toArray, List.set_cons_zero, List.set_cons_succ, List.getElem_toArray, List.getElem_cons_zero, List.getElem_cons_succ])
      refine wpAnyH_take (i := 14) (oi := _) (v := ?vcc14) rfl (by kernel_rfl) (by kernel_rfl) (by kernel_rfl) (fun _ _ _ h => h) (Or.inl ⟨by rfl, ?hycc14⟩) (by assumption) ?restcc14
      case hycc14 => (intro w hSw; (try dsimp only at hSw); (try simp only [List.getElem_toArray, List.getElem_cons_zero, List.getElem_cons_succ]); go_simp; (try with_reducible rfl))
      (try simp only [Act.put, List.setIfInBounds_toArray, List.set_cons_zero, List.set_cons_succ, List.getElem_toArray, List.getElem_cons_zero, List.getElem_cons_succ])
      refine wpAnyH_take (i := 15) (oi := _) (v := ?vcc15) rfl (by kernel_rfl) (by kernel_rfl) (by kernel_rfl) (fun _ _ _ h => h) (Or.inl ⟨by rfl, ?hycc15⟩) (by assumption) ?restcc15
      case hycc15 => (intro w hSw; (try dsimp only at hSw); (try simp only [List.getElem_toArray, List.getElem_cons_zero, List.getElem_cons_succ]); go_simp; (try with_reducible rfl))
      (try simp only [Act.put, List.setIfInBounds_toArray, List.set_cons_zero, List.set_cons_succ, List.getElem_toArray, List.getElem_cons_zero, List.getElem_cons_succ])
      refine wpAnyH_take (i := 16) (oi := _) (v := ?vcc16) rfl (by kernel_rfl) (by kernel_rfl) (by kernel_rfl) (fun _ _ _ h => h) (Or.inl ⟨by rfl, ?hycc16⟩) (by assumption) ?restcc16
      case hycc16 => (intro w hSw; (try dsimp only at hSw); (try simp only [List.getElem_toArray, List.getElem_cons_zero, List.getElem_cons_succ]); go_simp; (try with_reducible rfl))
      (try simp only [Act.put, List.setIfInBounds_toArray, List.set_cons_zero, List.set_cons_succ, List.getElem_toArray, List.getElem_cons_zero, List.getElem_cons_succ])
      refine wpAnyH_take (i := 17) (oi := _) (v := ?vcc17) rfl (by kernel_rfl) (by kernel_rfl) (by kernel_rfl) (fun _ _ _ h => h) (Or.inl ⟨by rfl, ?hycc17⟩) (by assumption) ?restcc17
      case hycc17 => (intro w hSw; (try dsimp only at hSw); (try simp only [List.getElem_toArray, List.getElem_cons_zero, List.getElem_cons_succ]); go_simp; (try with_reducible rfl))
      (try simp only [Act.put, List.setIfInBounds_toArray, List.set_cons_zero, List.set_cons_succ, List.getElem_toArray, List.getElem_cons_zero, List.getElem_cons_succ])
      refine wpAnyH_done (by kernel_rfl) ?_ _
      refine NoPanic.normal ?_
      go_wp2_with fail
      go_ret
      exact ⟨by rw [HR2.out]; rfl, HW.out _ HB2.out⟩
    · go_enter Try.func46, Try.ntmps46
      go_upto_region 1 with fail
      rw [← hW0, ← hp]
      clear hW0 hp
      refine wp_region_noPanic ?_
      refine wp_region_held_drew (S := fun V => V.cell? ⟨p, 0, none⟩ = some (.int .i64 W) ∧ V.cell? ⟨p, 1, none⟩ = some (.int .i64 H) ∧ V.cell? ⟨p, 2, none⟩ = some (.slice (some ⟨g1, o1, none⟩) n c) ∧ V.cell? ⟨p, 3, none⟩ = some (.int .i64 X) ∧ V.cell? ⟨p, 4, none⟩ = some (.int .i64 Y) ∧ V.cell? ⟨p, 5, none⟩ = some (.bool hi) ∧ V.cell? ⟨p + 1, 0, none⟩ = some (.int .i64 W') ∧ V.cell? ⟨p + 1, 1, none⟩ = some (.int .i64 H') ∧ V.cell? ⟨p + 1, 2, none⟩ = some (.slice (some ⟨g2, o2, none⟩) n' d) ∧ V.cell? ⟨p + 1, 3, none⟩ = some (.int .i64 X') ∧ V.cell? ⟨p + 1, 4, none⟩ = some (.int .i64 Y') ∧ V.cell? ⟨p + 1, 5, none⟩ = some (.bool hi') ∧ V.cell? ⟨g1, o1 + k * 6, none⟩ = some (.int .i32 r0) ∧ V.cell? ⟨g1, o1 + k * 6 + 1, none⟩ = some (.int .i64 r1) ∧ V.cell? ⟨g1, o1 + k * 6 + 2, none⟩ = some (.int .i64 r2) ∧ V.cell? ⟨g1, o1 + k * 6 + 3, none⟩ = some (.bool r3) ∧ V.cell? ⟨g1, o1 + k * 6 + 4, none⟩ = some (.bool r4) ∧ V.cell? ⟨g1, o1 + k * 6 + 5, none⟩ = some (.bool r5) ∧ V.cell? ⟨g2, o2 + k * 6, none⟩ = some (.int .i32 r0) ∧ V.cell? ⟨g2, o2 + k * 6 + 1, none⟩ = some (.int .i64 r1) ∧ V.cell? ⟨g2, o2 + k * 6 + 2, none⟩ = some (.int .i64 r2) ∧ V.cell? ⟨g2, o2 + k * 6 + 3, none⟩ = some (.bool s3) ∧ V.cell? ⟨g2, o2 + k * 6 + 4, none⟩ = some (.bool s4) ∧ V.cell? ⟨g2, o2 + k * 6 + 5, none⟩ = some (.bool s5)) (by kernel_rfl) (HC.out W0 (Below.refl _ _)) (fun hHeld => ?_)
      refine wpAnyH_take (i := 0) (oi := _) (v := ?vcd0) rfl (by kernel_rfl) (by kernel_rfl) (by kernel_rfl) (fun _ _ _ h => h) (Or.inl ⟨by rfl, ?hycd0⟩) (by assumption) ?restcd0
      case hycd0 => (intro w hSw; (try dsimp only at hSw); (try simp only [List.getElem_toArray, List.getElem_cons_zero, List.getElem_cons_succ]); go_simp; (try with_reducible rfl))
      (try simp only [Act.put, List.setIfInBounds_toArray, List.set_cons_zero, List.set_cons_succ, List.getElem_toArray, List.getElem_cons_zero, List.getElem_cons_succ])
      refine wpAnyH_take (i := 1) (oi := _) (v := ?vcd1) rfl (by kernel_rfl) (by kernel_rfl) (by kernel_rfl) (fun _ _ _ h => h) (Or.inl ⟨by rfl, ?hycd1⟩) (by assumption) ?restcd1
      case hycd1 => (intro w hSw; (try dsimp only at hSw); (try simp only [List.getElem_toArray, List.getElem_cons_zero, List.getElem_cons_succ]); go_simp; (try with_reducible rfl))
      (try simp only [Act.put, List.setIfInBounds_toArray, List.set_cons_zero, List.set_cons_succ, List.getElem_toArray, List.getElem_cons_zero, List.getElem_cons_succ])
      refine wpAnyH_ready (rs := [2]) (by kernel_rfl) (by simp) ?_
      refine AllReadyH.cons (o := _) rfl (fun K hK => ?_) AllReadyH.nil
      (try simp only [List.getElem_toArray, List.getElem_cons_zero, List.getElem_cons_succ])
      go_simp
      refine (HS.out _).mono ?_; rintro e w2 ⟨rfl, hb⟩; have HB2 : Hid (Below W0.heap.size W0 w2) := Lib.hid ((Below.drewN' (Below.refl _ W0) 1).trans (hb.mono (Nat.le_refl _))); clear hb
      refine hK.out _ _ ?_ (fun hHeld => ?_)
      · exact HC.out _ HB2.out
      clear hK K
      (try simp only [Act.put, List.setIfInBounds_toArray, List.set_cons_zero, List.set_cons_succ, List.getElem_toArray, List.getElem_cons_zero, List.getElem_cons_succ])
      refine wpAnyH_take (i := 3) (oi := _) (v := ?vcd3) rfl (by kernel_rfl) (by kernel_rfl) (by kernel_rfl) (fun _ _ _ h => h) (Or.inl ⟨by rfl, ?hycd3⟩) (by assumption) ?restcd3
      case hycd3 => (intro w hSw; (try dsimp only at hSw); (try simp only [List.getElem_toArray, List.getElem_cons_zero, List.getElem_cons_succ]); go_simp; (try with_reducible rfl))
      (try simp only [Act.put, List.setIfInBounds_toArray, List.set_cons_zero, List.set_cons_succ, List.getElem_toArray, List.getElem_cons_zero, List.getElem_cons_succ])
      refine wpAnyH_take (i := 4) (oi := _) (v := ?vcd4) rfl (by kernel_rfl) (by kernel_rfl) (by kernel_rfl) (fun _ _ _ h => h) (Or.inl ⟨by rfl, ?hycd4⟩) (by assumption) ?restcd4
      case hycd4 => (intro w hSw; (try dsimp only at hSw); (try simp only [List.getElem_toArray, List.getElem_cons_zero, List.getElem_cons_succ]); go_simp; (try with_reducible rfl))
      (try simp only [Act.put, List.setIfInBounds_toArray, List.set_cons_zero, List.set_cons_succ, List.getElem_toArray, List.getElem_cons_zero, List.getElem_cons_succ])
      refine wpAnyH_take (i := 5) (oi := _) (v := ?vcd5) rfl (by kernel_rfl) (by kernel_rfl) (by kernel_rfl) (fun _ _ _ h => h) (Or.inl ⟨by rfl, ?hycd5⟩) (by assumption) ?restcd5
      case hycd5 => (intro w hSw; (try dsimp only at hSw); (try simp only [List.getElem_toArray, List.getElem_cons_zero, List.getElem_cons_succ]); go_simp; (try with_reducible rfl))
      (try simp only [Act.put, List.setIfInBounds_toArray, List.set_cons_zero, List.set_cons_succ, List.getElem_toArray, List.getElem_cons_zero, List.getElem_cons_succ])
      refine wpAnyH_take (i := 6) (oi := _) (v := ?vcd6) rfl (by kernel_rfl) (by kernel_rfl) (by kernel_rfl) (fun _ _ _ h => h) (Or.inl ⟨by rfl, ?hycd6⟩) (by assumption) ?restcd6
      case hycd6 => (intro w hSw; (try dsimp only at hSw); (try simp only [List.getElem_toArray, List.getElem_cons_zero, List.getElem_cons_succ]); go_simp; (try with_reducible rfl))
      (try simp only [Act.put, List.setIfInBounds_toArray, List.set_cons_zero, List.set_cons_succ, List.getElem_toArray, List.getElem_cons_zero, List.getElem_cons_succ])
      refine wpAnyH_take (i := 7) (oi := _) (v := ?vcd7) rfl (by kernel_rfl) (by kernel_rfl) (by kernel_rfl) (fun _ _ _ h => h) (Or.inl ⟨by rfl, ?hycd7⟩) (by assumption) ?restcd7
      case hycd7 => (intro w hSw; (try dsimp only at hSw); (try simp only [List.getElem_toArray, List.getElem_cons_zero, List.getElem_cons_succ]); go_simp; (try with_reducible rfl))
      (try simp only [Act.put, List.setIfInBounds_toArray, List.set_cons_zero, List.set_cons_succ, List.getElem_toArray, List.getElem_cons_zero, List.getElem_cons_succ])
      refine wpAnyH_take (i := 8) (oi := _) (v := ?vcd8) rfl (by kernel_rfl) (by kernel_rfl) (by kernel_rfl) (fun _ _ _ h => h) (Or.inl ⟨by rfl, ?hycd8⟩) (by assumption) ?restcd8
      case hycd8 => (intro w hSw; (try dsimp only at hSw); (try simp only [List.getElem_toArray, List.getElem_cons_zero, List.getElem_cons_succ]); go_simp; (try with_reducible rfl))
      (try simp only [Act.put, List.setIfInBounds_toArray, List.set_cons_zero, List.set_cons_succ, List.getElem_toArray, List.getElem_cons_zero, List.getElem_cons_succ])
      refine wpAnyH_take (i := 9) (oi := _) (v := ?vcd9) rfl (by kernel_rfl) (by kernel_rfl) (by kernel_rfl) (fun _ _ _ h => h) (Or.inl ⟨by rfl, ?hycd9⟩) (by assumption) ?restcd9
      case hycd9 => (intro w hSw; (try dsimp only at hSw); (try simp only [List.getElem_toArray, List.getElem_cons_zero, List.getElem_cons_succ]); go_simp; (try with_reducible rfl))
      (try simp only [Act.put, List.setIfInBounds_toArray, List.set_cons_zero, List.set_cons_succ, List.getElem_toArray, List.getElem_cons_zero, List.getElem_cons_succ])
      refine wpAnyH_take (i := 10) (oi := _) (v := ?vcd10) rfl (by kernel_rfl) (by kernel_rfl) (by kernel_rfl) (fun _ _ _ h => h) (Or.inl ⟨by rfl, ?hycd10⟩) (by assumption) ?restcd10
      case hycd10 => (intro w hSw; (try dsimp only at hSw); (try simp only [List.getElem_toArray, List.getElem_cons_zero, List.getElem_cons_succ]); go_simp; (try with_reducible rfl))
      (try simp only [Act.put, List.setIfInBounds_toArray, List.set_cons_zero, List.set_cons_succ, List.getElem_toArray, List.getElem_cons_zero, List.getElem_cons_succ])
      refine wpAnyH_take (i := 11) (oi := _) (v := ?vcd11) rfl (by kernel_rfl) (by kernel_rfl) (by kernel_rfl) (fun _ _ _ h => h) (Or.inl ⟨by rfl, ?hycd11⟩) (by assumption) ?restcd11
      case hycd11 => (intro w hSw; (try dsimp only at hSw); (try simp only [List.getElem_toArray, List.getElem_cons_zero, List.getElem_cons_succ]); go_simp; (try with_reducible rfl))
      (try simp only [Act.put, List.setIfInBounds_toArray, List.set_cons_zero, List.set_cons_succ, List.getElem_toArray, List.getElem_cons_zero, List.getElem_cons_succ])
      refine wpAnyH_take (i := 12) (oi := _) (v := ?vcd12) rfl (by kernel_rfl) (by kernel_rfl) (by kernel_rfl) (fun _ _ _ h => h) (Or.inl ⟨by rfl, ?hycd12⟩) (by assumption) ?restcd12
      case hycd12 => (intro w hSw; (try dsimp only at hSw); (try simp only [List.getElem_toArray, List.getElem_cons_zero, List.getElem_cons_succ]); go_simp; (try with_reducible rfl))
      (try simp only [Act.put, List.setIfInBounds_toArray, List.set_cons_zero, List.set_cons_succ, List.getElem_toArray, List.getElem_cons_zero, List.getElem_cons_succ])
      refine wpAnyH_take (i := 13) (oi := _) (v := ?vcd13) rfl (by kernel_rfl) (by kernel_rfl) (by kernel_rfl) (fun _ _ _ h => h) (Or.inl ⟨by rfl, ?hycd13⟩) (by assumption) ?restcd13
      case hycd13 => (intro w hSw; (try dsimp only at hSw); (try simp only [List.getElem_toArray, List.getElem_cons_zero, List.getElem_cons_succ]); go_simp; (try with_reducible rfl))
      (try simp only [Act.put, List.setIfInBounds_toArray, List.set_cons_zero, List.set_cons_succ, List.getElem_toArray, List.getElem_cons_zero, List.getElem_cons_succ])
      refine wpAnyH_take (i := 14) (oi := _) (v := ?vcd14) rfl (by kernel_rfl) (by kernel_rfl) (by kernel_rfl) (fun _ _ _ h => h) (Or.inl ⟨by rfl, ?hycd14⟩) (by assumption) ?restcd14
      case hycd14 => (intro w hSw; (try dsimp only at hSw); (try simp only [List.getElem_toArray, List.getElem_cons_zero, List.getElem_cons_succ]); go_simp; (try with_reducible rfl))
      (try simp only [Act.put, List.setIfInBounds_toArray, List.set_cons_zero, List.set_cons_succ, List.getElem_toArray, List.getElem_cons_zero, List.getElem_cons_succ])
      refine wpAnyH_take (i := 15) (oi := _) (v := ?vcd15) rfl (by kernel_rfl) (by kernel_rfl) (by kernel_rfl) (fun _ _ _ h => h) (Or.inl ⟨by rfl, ?hycd15⟩) (by assumption) ?restcd15
      case hycd15 => (intro w hSw; (try dsimp only at hSw); (try simp only [List.getElem_toArray, List.getElem_cons_zero, List.getElem_cons_succ]); go_simp; (try with_reducible rfl))
      (try simp only [Act.put, List.setIfInBounds_toArray, List.set_cons_zero, List.set_cons_succ, List.getElem_toArray, List.getElem_cons_zero, List.getElem_cons_succ])
      refine wpAnyH_take (i := 16) (oi := _) (v := ?vcd16) rfl (by kernel_rfl) (by kernel_rfl) (by kernel_rfl) (fun _ _ _ h => h) (Or.inl ⟨by rfl, ?hycd16⟩) (by assumption) ?restcd16
      case hycd16 => (intro w hSw; (try dsimp only at hSw); (try simp only [List.getElem_toArray, List.getElem_cons_zero, List.getElem_cons_succ]); go_simp; (try with_reducible rfl))
      (try simp only [Act.put, List.setIfInBounds_toArray, List.set_cons_zero, List.set_cons_succ, List.getElem_toArray, List.getElem_cons_zero, List.getElem_cons_succ])
      refine wpAnyH_take (i := 17) (oi := _) (v := ?vcd17) rfl (by kernel_rfl) (by kernel_rfl) (by kernel_rfl) (fun _ _ _ h => h) (Or.inl ⟨by rfl, ?hycd17⟩) (by assumption) ?restcd17
      case hycd17 => (intro w hSw; (try dsimp only at hSw); (try simp only [List.getElem_toArray, List.getElem_cons_zero, List.getElem_cons_succ]); go_simp; (try with_reducible rfl))
      (try simp only [Act.put, List.setIfInBounds_toArray, List.set_cons_zero, List.set_cons_succ, List.getElem_toArray, List.getElem_cons_zero, List.getElem_cons_succ])
      refine wpAnyH_done (by kernel_rfl) ?_ _
      refine NoPanic.normal ?_
      go_wp2_with fail
      go_ret
      exact ⟨by rw [HR2.out]; rfl, HW.out _ HB2.out⟩
    · go_enter Try.func46, Try.ntmps46
      go_upto_region 1 with fail
      rw [← hW0, ← hp]
      clear hW0 hp
      refine wp_region_noPanic ?_
      refine wp_region_held_drew (S := fun V => V.cell? ⟨p, 0, none⟩ = some (.int .i64 W) ∧ V.cell? ⟨p, 1, none⟩ = some (.int .i64 H) ∧ V.cell? ⟨p, 2, none⟩ = some (.slice (some ⟨g1, o1, none⟩) n c) ∧ V.cell? ⟨p, 3, none⟩ = some (.int .i64 X) ∧ V.cell? ⟨p, 4, none⟩ = some (.int .i64 Y) ∧ V.cell? ⟨p, 5, none⟩ = some (.bool hi) ∧ V.cell? ⟨p + 1, 0, none⟩ = some (.int .i64 W') ∧ V.cell? ⟨p + 1, 1, none⟩ = some (.int .i64 H') ∧ V.cell? ⟨p + 1, 2, none⟩ = some (.slice (some ⟨g2, o2, none⟩) n' d) ∧ V.cell? ⟨p + 1, 3, none⟩ = some (.int .i64 X') ∧ V.cell? ⟨p + 1, 4, none⟩ = some (.int .i64 Y') ∧ V.cell? ⟨p + 1, 5, none⟩ = some (.bool hi') ∧ V.cell? ⟨g1, o1 + k * 6, none⟩ = some (.int .i32 r0) ∧ V.cell? ⟨g1, o1 + k * 6 + 1, none⟩ = some (.int .i64 r1) ∧ V.cell? ⟨g1, o1 + k * 6 + 2, none⟩ = some (.int .i64 r2) ∧ V.cell? ⟨g1, o1 + k * 6 + 3, none⟩ = some (.bool r3) ∧ V.cell? ⟨g1, o1 + k * 6 + 4, none⟩ = some (.bool r4) ∧ V.cell? ⟨g1, o1 + k * 6 + 5, none⟩ = some (.bool r5) ∧ V.cell? ⟨g2, o2 + k * 6, none⟩ = some (.int .i32 r0) ∧ V.cell? ⟨g2, o2 + k * 6 + 1, none⟩ = some (.int .i64 r1) ∧ V.cell? ⟨g2, o2 + k * 6 + 2, none⟩ = some (.int .i64 r2) ∧ V.cell? ⟨g2, o2 + k * 6 + 3, none⟩ = some (.bool r3) ∧ V.cell? ⟨g2, o2 + k * 6 + 4, none⟩ = some (.bool s4) ∧ V.cell? ⟨g2, o2 + k * 6 + 5, none⟩ = some (.bool s5)) (by kernel_rfl) (HC.out W0 (Below.refl _ _)) (fun hHeld => ?_)
      refine wpAnyH_take (i := 0) (oi := _) (v := ?vce0) rfl (by kernel_rfl) (by kernel_rfl) (by kernel_rfl) (fun _ _ _ h => h) (Or.inl ⟨by rfl, ?hyce0⟩) (by assumption) ?restce0
      case hyce0 => (intro w hSw; (try dsimp only at hSw); (try simp only [List.getElem_toArray, List.getElem_cons_zero, List.getElem_cons_succ]); go_simp; (try with_reducible rfl))
      (try simp only [Act.put, List.setIfInBounds_toArray, List.set_cons_zero, List.set_cons_succ, List.getElem_toArray, List.getElem_cons_zero, List.getElem_cons_succ])
      refine wpAnyH_take (i := 1) (oi := _) (v := ?vce1) rfl (by kernel_rfl) (by kernel_rfl) (by kernel_rfl) (fun _ _ _ h => h) (Or.inl ⟨by rfl, ?hyce1⟩) (by assumption) ?restce1
      case hyce1 => (intro w hSw; (try dsimp only at hSw); (try simp only [List.getElem_toArray, List.getElem_cons_zero, List.getElem_cons_succ]); go_simp; (try with_reducible rfl))
      (try simp only [Act.put, List.setIfInBounds_toArray, List.set_cons_zero, List.set_cons_succ, List.getElem_toArray, List.getElem_cons_zero, List.getElem_cons_succ])
      refine wpAnyH_ready (rs := [2]) (by kernel_rfl) (by simp) ?_
      refine AllReadyH.cons (o := _) rfl (fun K hK => ?_) AllReadyH.nil
      (try simp only [List.getElem_toArray, List.getElem_cons_zero, List.getElem_cons_succ])
      go_simp
      refine (HS.out _).mono ?_; rintro e w2 ⟨rfl, hb⟩; have HB2 : Hid (Below W0.heap.size W0 w2) := Lib.hid ((Below.drewN' (Below.refl _ W0) 1).trans (hb.mono (Nat.le_refl _))); clear hb
      refine hK.out _ _ ?_ (fun hHeld => ?_)
      · exact HC.out _ HB2.out
      clear hK K
      (try simp only [Act.put, List.setIfInBounds_toArray, List.set_cons_zero, List.set_cons_succ, List.getElem_toArray, List.getElem_cons_zero, List.getElem_cons_succ])
      refine wpAnyH_take (i := 3) (oi := _) (v := ?vce3) rfl (by kernel_rfl) (by kernel_rfl) (by kernel_rfl) (fun _ _ _ h => h) (Or.inl ⟨by rfl, ?hyce3⟩) (by assumption) ?restce3
      case hyce3 => (intro w hSw; (try dsimp only at hSw); (try simp only [List.getElem_toArray, List.getElem_cons_zero, List.getElem_cons_succ]); go_simp; (try with_reducible rfl))
      (try simp only [Act.put, List.setIfInBounds_toArray, List.set_cons_zero, List.set_cons_succ, List.getElem_toArray, List.getElem_cons_zero, List.getElem_cons_succ])
      refine wpAnyH_take (i := 4) (oi := _) (v := ?vce4) rfl (by kernel_rfl) (by kernel_rfl) (by kernel_rfl) (fun _ _ _ h => h) (Or.inl ⟨by rfl, ?hyce4⟩) (by assumption) ?restce4
      case hyce4 => (intro w hSw; (try dsimp only at hSw); (try simp only [List.getElem_toArray, List.getElem_cons_zero, List.getElem_cons_succ]); go_simp; (try with_reducible rfl))
      (try simp only [Act.put, List.setIfInBounds_toArray, List.set_cons_zero, List.set_cons_succ, List.getElem_toArray, List.getElem_cons_zero, List.getElem_cons_succ])
      refine wpAnyH_take (i := 5) (oi := _) (v := ?vce5) rfl (by kernel_rfl) (by kernel_rfl) (by kernel_rfl) (fun _ _ _ h => h) (Or.inl ⟨by rfl, ?hyce5⟩) (by assumption) ?restce5
      case hyce5 => (intro w hSw; (try dsimp only at hSw); (try simp only [List.getElem_toArray, List.getElem_cons_zero, List.getElem_cons_succ]); go_simp; (try with_reducible rfl))
      (try simp only [Act.put, List.setIfInBounds_toArray, List.set_cons_zero, List.set_cons_succ, List.getElem_toArray, List.getElem_cons_zero, List.getElem_cons_succ])
      refine wpAnyH_take (i := 6) (oi := _) (v := ?vce6) rfl (by kernel_rfl) (by kernel_rfl) (by kernel_rfl) (fun _ _ _ h => h) (Or.inl ⟨by rfl, ?hyce6⟩) (by assumption) ?restce6
      case hyce6 => (intro w hSw; (try dsimp only at hSw); (try simp only [List.getElem_toArray, List.getElem_cons_zero, List.getElem_cons_succ]); go_simp; (try with_reducible rfl))
      (try simp only [Act.put, List.setIfInBounds_toArray, List.set_cons_zero, List.set_cons_succ, List.getElem_toArray, List.getElem_cons_zero, List.getElem_cons_succ])
      refine wpAnyH_take (i := 7) (oi := _) (v := ?vce7) rfl (by kernel_rfl) (by kernel_rfl) (by kernel_rfl) (fun _ _ _ h => h) (Or.inl ⟨by rfl, ?hyce7⟩) (by assumption) ?restce7
      case hyce7 => (intro w hSw; (try dsimp only at hSw); (try simp only [List.getElem_toArray, List.getElem_cons_zero, List.getElem_cons_succ]); go_simp; (try with_reducible rfl))
      (try simp only [Act.put, List.setIfInBounds_toArray, List.set_cons_zero, List.set_cons_succ, List.getElem_toArray, List.getElem_cons_zero, List.getElem_cons_succ])
      refine wpAnyH_take (i := 8) (oi := _) (v := ?vce8) rfl (by kernel_rfl) (by kernel_rfl) (by kernel_rfl) (fun _ _ _ h => h) (Or.inl ⟨by rfl, ?hyce8⟩) (by assumption) ?restce8
      case hyce8 => (intro w hSw; (try dsimp only at hSw); (try simp only [List.getElem_toArray, List.getElem_cons_zero, List.getElem_cons_succ]); go_simp; (try with_reducible rfl))
      (try simp only [Act.put, List.setIfInBounds_toArray, List.set_cons_zero, List.set_cons_succ, List.getElem_toArray, List.getElem_cons_zero, List.getElem_cons_succ])
      refine wpAnyH_take (i := 9) (oi := _) (v := ?vce9) rfl (by kernel_rfl) (by kernel_rfl) (by kernel_rfl) (fun _ _ _ h => h) (Or.inl ⟨by rfl, ?hyce9⟩) (by assumption) ?restce9
      case hyce9 => (intro w hSw; (try dsimp only at hSw); (try simp only [List.getElem_toArray, List.getElem_cons_zero, List.getElem_cons_succ]); go_simp; (try with_reducible rfl))
      (try simp only [Act.put, List.setIfInBounds_toArray, List.set_cons_zero, List.set_cons_succ, List.getElem_toArray, List.getElem_cons_zero, List.getElem_cons_succ])
      refine wpAnyH_take (i := 10) (oi := _) (v := ?vce10) rfl (by kernel_rfl) (by kernel_rfl) (by kernel_rfl) (fun _ _ _ h => h) (Or.inl ⟨by rfl, ?hyce10⟩) (by assumption) ?restce10
      case hyce10 => (intro w hSw; (try dsimp only at hSw); (try simp only [List.getElem_toArray, List.getElem_cons_zero, List.getElem_cons_succ]); go_simp; (try with_reducible rfl))
      (try simp only [Act.put, List.setIfInBounds_toArray, List.set_cons_zero, List.set_cons_succ, List.getElem_toArray, List.getElem_cons_zero, List.getElem_cons_succ])
      refine wpAnyH_take (i := 11) (oi := _) (v := ?vce11) rfl (by kernel_rfl) (by kernel_rfl) (by kernel_rfl) (fun _ _ _ h => h) (Or.inl ⟨by rfl, ?hyce11⟩) (by assumption) ?restce11
      case hyce11 => (intro w hSw; (try dsimp only at hSw); (try simp only [List.getElem_toArray, List.getElem_cons_zero, List.getElem_cons_succ]); go_simp; (try with_reducible rfl))
      (try simp only [Act.put, List.setIfInBounds_toArray, List.set_cons_zero, List.set_cons_succ, List.getElem_toArray, List.getElem_cons_zero, List.getElem_cons_succ])
      refine wpAnyH_take (i := 12) (oi := _) (v := ?vce12) rfl (by kernel_rfl) (by kernel_rfl) (by kernel_rfl) (fun _ _ _ h => h) (Or.inl ⟨by rfl, ?hyce12⟩) (by assumption) ?restce12
      case hyce12 => (intro w hSw; (try dsimp only at hSw); (try simp only [List.getElem_toArray, List.getElem_cons_zero, List.getElem_cons_succ]); go_simp; (try with_reducible rfl))
      (try simp only [Act.put, List.setIfInBounds_toArray, List.set_cons_zero, List.set_cons_succ, List.getElem_toArray, List.getElem_cons_zero, List.getElem_cons_succ])
      refine wpAnyH_take (i := 13) (oi := _) (v := ?vce13) rfl (by kernel_rfl) (by kernel_rfl) (by kernel_rfl) (fun _ _ _ h => h) (Or.inl ⟨by rfl, ?hyce13⟩) (by assumption) ?restce13
      case hyce13 => (intro w hSw; (try dsimp only at hSw); (try simp only [List.getElem_toArray, List.getElem_cons_zero, List.getElem_cons_succ]); go_simp; (try with_reducible rfl))
      (try simp only [Act.put, List.setIfInBounds_toArray, List.set_cons_zero, List.set_cons_succ, List.getElem_toArray, List.getElem_cons_zero, List.getElem_cons_succ])
      refine wpAnyH_take (i := 14) (oi := _) (v := ?vce14) rfl (by kernel_rfl) (by kernel_rfl) (by kernel_rfl) (fun _ _ _ h => h) (Or.inl ⟨by rfl, ?hyce14⟩) (by assumption) ?restce14
      case hyce14 => (intro w hSw; (try dsimp only at hSw); (try simp only [List.getElem_toArray, List.getElem_cons_zero, List.getElem_cons_succ]); go_simp; (try with_reducible rfl))
      (try simp only [Act.put, List.setIfInBounds_toArray, List.set_cons_zero, List.set_cons_succ, List.getElem_toArray, List.getElem_cons_zero, List.getElem_cons_succ])
      refine wpAnyH_take (i := 15) (oi := _) (v := ?vce15) rfl (by kernel_rfl) (by kernel_rfl) (by kernel_rfl) (fun _ _ _ h => h) (Or.inl ⟨by rfl, ?hyce15⟩) (by assumption) ?restce15
      case hyce15 => (intro w hSw; (try dsimp only at hSw); (try simp only [List.getElem_toArray, List.getElem_cons_zero, List.getElem_cons_succ]); go_simp; (try with_reducible rfl))
      (try simp only [Act.put, List.setIfInBounds_toArray, List.set_cons_zero, List.set_cons_succ, List.getElem_toArray, List.getElem_cons_zero, List.getElem_cons_succ])
      refine wpAnyH_take (i := 16) (oi := _) (v := ?vce16) rfl (by kernel_rfl) (by kernel_rfl) (by kernel_rfl) (fun _ _ _ h => h) (Or.inl ⟨by rfl, ?hyce16⟩) (by assumption) ?restce16
      case hyce16 => (intro w hSw; (try dsimp only at hSw); (try simp only [List.getElem_toArray, List.getElem_cons_zero, List.getElem_cons_succ]); go_simp; (try with_reducible rfl))
      (try simp only [Act.put, List.setIfInBounds_toArray, List.set_cons_zero, List.set_cons_succ, List.getElem_toArray, List.getElem_cons_zero, List.getElem_cons_succ])
      refine wpAnyH_take (i := 17) (oi := _) (v := ?vce17) rfl (by kernel_rfl) (by kernel_rfl) (by kernel_rfl) (fun _ _ _ h => h) (Or.inl ⟨by rfl, ?hyce17⟩) (by assumption) ?restce17
      case hyce17 => (intro w hSw; (try dsimp only at hSw); (try simp only [List.getElem_toArray, List.getElem_cons_zero, List.getElem_cons_succ]); go_simp; (try with_reducible rfl))
      (try simp only [Act.put, List.setIfInBounds_toArray, List.set_cons_zero, List.set_cons_succ, List.getElem_toArray, List.getElem_cons_zero, List.getElem_cons_succ])
      refine wpAnyH_done (by kernel_rfl) ?_ _
      refine NoPanic.normal ?_
      go_wp2_with fail
      go_ret
      exact ⟨by rw [HR2.out]; rfl, HW.out _ HB2.out⟩
    · go_enter Try.func46, Try.ntmps46
      go_upto_region 1 with fail
      rw [← hW0, ← hp]
      clear hW0 hp
      refine wp_region_noPanic ?_
      refine wp_region_held_drew (S := fun V => V.cell? ⟨p, 0, none⟩ = some (.int .i64 W) ∧ V.cell? ⟨p, 1, none⟩ = some (.int .i64 H) ∧ V.cell? ⟨p, 2, none⟩ = some (.slice (some ⟨g1, o1, none⟩) n c) ∧ V.cell? ⟨p, 3, none⟩ = some (.int .i64 X) ∧ V.cell? ⟨p, 4, none⟩ = some (.int .i64 Y) ∧ V.cell? ⟨p, 5, none⟩ = some (.bool hi) ∧ V.cell? ⟨p + 1, 0, none⟩ = some (.int .i64 W') ∧ V.cell? ⟨p + 1, 1, none⟩ = some (.int .i64 H') ∧ V.cell? ⟨p + 1, 2, none⟩ = some (.slice (some ⟨g2, o2, none⟩) n' d) ∧ V.cell? ⟨p + 1, 3, none⟩ = some (.int .i64 X') ∧ V.cell? ⟨p + 1, 4, none⟩ = some (.int .i64 Y') ∧ V.cell? ⟨p + 1, 5, none⟩ = some (.bool hi') ∧ V.cell? ⟨g1, o1 + k * 6, none⟩ = some (.int .i32 r0) ∧ V.cell? ⟨g1, o1 + k * 6 + 1, none⟩ = some (.int .i64 r1) ∧ V.cell? ⟨g1, o1 + k * 6 + 2, none⟩ = some (.int .i64 r2) ∧ V.cell? ⟨g1, o1 + k * 6 + 3, none⟩ = some (.bool r3) ∧ V.cell? ⟨g1, o1 + k * 6 + 4, none⟩ = some (.bool r4) ∧ V.cell? ⟨g1, o1 + k * 6 + 5, none⟩ = some (.bool r5) ∧ V.cell? ⟨g2, o2 + k * 6, none⟩ = some (.int .i32 r0) ∧ V.cell? ⟨g2, o2 + k * 6 + 1, none⟩ = some (.int .i64 r1) ∧ V.cell? ⟨g2, o2 + k * 6 + 2, none⟩ = some (.int .i64 r2) ∧ V.cell? ⟨g2, o2 + k * 6 + 3, none⟩ = some (.bool r3) ∧ V.cell? ⟨g2, o2 + k * 6 + 4, none⟩ = some (.bool r4) ∧ V.cell? ⟨g2, o2 + k * 6 + 5, none⟩ = some (.bool s5)) (by kernel_rfl) (HC.out W0 (Below.refl _ _)) (fun hHeld => ?_)
      refine wpAnyH_take (i := 0) (oi := _) (v := ?vcf0) rfl (by kernel_rfl) (by kernel_rfl) (by kernel_rfl) (fun _ _ _ h => h) (Or.inl ⟨by rfl, ?hycf0⟩) (by assumption) ?restcf0
      case hycf0 => (intro w hSw; (try dsimp only at hSw); (try simp only [List.getElem_toArray, List.getElem_cons_zero, List.getElem_cons_succ]); go_simp; (try with_reducible rfl))
      (try simp only [Act.put, List.setIfInBounds_toArray, List.set_cons_zero, List.set_cons_succ, List.getElem_toArray, List.getElem_cons_zero, List.getElem_cons_succ])
      refine wpAnyH_take (i := 1) (oi := _) (v := ?vcf1) rfl (by kernel_rfl) (by kernel_rfl) (by kernel_rfl) (fun _ _ _ h => h) (Or.inl ⟨by rfl, ?hycf1⟩) (by assumption) ?restcf1
      case hycf1 => (intro w hSw; (try dsimp only at hSw); (try simp only [List.getElem_toArray, List.getElem_cons_zero, List.getElem_cons_succ]); go_simp; (try with_reducible rfl))
      (try simp only [Act.put, List.setIfInBounds_toArray, List.set_cons_zero, List.set_cons_succ, List.getElem_toArray, List.getElem_cons_zero, List.getElem_cons_succ])
      refine wpAnyH_ready (rs := [2]) (by kernel_rfl) (by simp) ?_
      refine AllReadyH.cons (o := _) rfl (fun K hK => ?_) AllReadyH.nil
      (try simp only [List.getElem_toArray, List.getElem_cons_zero, List.getElem_cons_succ])
      go_simp
      refine (HS.out _).mono ?_; rintro e w2 ⟨rfl, hb⟩; have HB2 : Hid (Below W0.heap.size W0 w2) := Lib.hid ((Below.drewN' (Below.refl _ W0) 1).trans (hb.mono (Nat.le_refl _))); clear hb
      refine hK.out _ _ ?_ (fun hHeld => ?_)
      · exact HC.out _ HB2.out
      clear hK K
      (try simp only [Act.put, List.setIfInBounds_toArray, List.set_cons_zero, List.set_cons_succ, List.getElem_toArray, List.getElem_cons_zero, List.getElem_cons_succ])
      refine wpAnyH_take (i := 3) (oi := _) (v := ?vcf3) rfl (by kernel_rfl) (by kernel_rfl) (by kernel_rfl) (fun _ _ _ h => h) (Or.inl ⟨by rfl, ?hycf3⟩) (by assumption) ?restcf3
      case hycf3 => (intro w hSw; (try dsimp only at hSw); (try simp only [List.getElem_toArray, List.getElem_cons_zero, List.getElem_cons_succ]); go_simp; (try with_reducible rfl))
      (try simp only [Act.put, List.setIfInBounds_toArray, List.set_cons_zero, List.set_cons_succ, List.getElem_toArray, List.getElem_cons_zero, List.getElem_cons_succ])
      refine wpAnyH_take (i := 4) (oi := _) (v := ?vcf4) rfl (by kernel_rfl) (by kernel_rfl) (by kernel_rfl) (fun _ _ _ h => h) (Or.inl ⟨by rfl, ?hycf4⟩) (by assumption) ?restcf4
      case hycf4 => (intro w hSw; (try dsimp only at hSw); (try simp only [List.getElem_toArray, List.getElem_cons_zero, List.getElem_cons_succ]); go_simp; (try with_reducible rfl))
      (try simp only [Act.put, List.setIfInBounds_toArray, List.set_cons_zero, List.set_cons_succ, List.getElem_toArray, List.getElem_cons_zero, List.getElem_cons_succ])
      refine wpAnyH_take (i := 5) (oi := _) (v := ?vcf5) rfl (by kernel_rfl) (by kernel_rfl) (by kernel_rfl) (fun _ _ _ h => h) (Or.inl ⟨by rfl, ?hycf5⟩) (by assumption) ?restcf5
      case hycf5 => (intro w hSw; (try dsimp only at hSw); (try simp only [List.getElem_toArray, List.getElem_cons_zero, List.getElem_cons_succ]); go_simp; (try with_reducible rfl))
      (try simp only [Act.put, List.setIfInBounds_toArray, List.set_cons_zero, List.set_cons_succ, List.getElem_toArray, List.getElem_cons_zero, List.getElem_cons_succ])
      refine wpAnyH_take (i := 6) (oi := _) (v := ?vcf6) rfl (by kernel_rfl) (by kernel_rfl) (by kernel_rfl) (fun _ _ _ h => h) (Or.inl ⟨by rfl, ?hycf6⟩) (by assumption) ?restcf6
      case hycf6 => (intro w hSw; (try dsimp only at hSw); (try simp only [List.getElem_toArray, List.getElem_cons_zero, List.getElem_cons_succ]); go_simp; (try with_reducible rfl))
      (try simp only [Act.put, List.setIfInBounds_toArray, List.set_cons_zero, List.set_cons_succ, List.getElem_toArray, List.getElem_cons_zero, List.getElem_cons_succ])
      refine wpAnyH_take (i := 7) (oi := _) (v := ?vcf7) rfl (by kernel_rfl) (by kernel_rfl) (by kernel_rfl) (fun _ _ _ h => h) (Or.inl ⟨by rfl, ?hycf7⟩) (by assumption) ?restcf7
      case hycf7 => (intro w hSw; (try dsimp only at hSw); (try simp only [List.getElem_toArray, List.getElem_cons_zero, List.getElem_cons_succ]); go_simp; (try with_reducible rfl))
      (try simp only [Act.put, List.setIfInBounds_toArray, List.set_cons_zero, List.set_cons_succ, List.getElem_toArray, List.getElem_cons_zero, List.getElem_cons_succ])
      refine wpAnyH_take (i := 8) (oi := _) (v := ?vcf8) rfl (by kernel_rfl) (by kernel_rfl) (by kernel_rfl) (fun _ _ _ h => h) (Or.inl ⟨by rfl, ?hycf8⟩) (by assumption) ?restcf8
      case hycf8 => (intro w hSw; (try dsimp only at hSw); (try simp only [List.getElem_toArray, List.getElem_cons_zero, List.getElem_cons_succ]); go_simp; (try with_reducible rfl))
      (try simp only [Act.put, List.setIfInBounds_toArray, List.set_cons_zero, List.set_cons_succ, List.getElem_toArray, List.getElem_cons_zero, List.getElem_cons_succ])
      refine wpAnyH_take (i := 9) (oi := _) (v := ?vcf9) rfl (by kernel_rfl) (by kernel_rfl) (by kernel_rfl) (fun _ _ _ h => h) (Or.inl ⟨by rfl, ?hycf9⟩) (by assumption) ?restcf9
      case hycf9 => (intro w hSw; (try dsimp only at hSw); (try simp only [List.getElem_toArray, List.getElem_cons_zero, List.getElem_cons_succ]); go_simp; (try with_reducible rfl))
      (try simp only [Act.put, List.setIfInBounds_toArray, List.set_cons_zero, List.set_cons_succ, List.getElem_toArray, List.getElem_cons_zero, List.getElem_cons_succ])
      refine wpAnyH_take (i := 10) (oi := _) (v := ?vcf10) rfl (by kernel_rfl) (by kernel_rfl) (by kernel_rfl) (fun _ _ _ h => h) (Or.inl ⟨by rfl, ?hycf10⟩) (by assumption) ?restcf10
      case hycf10 => (intro w hSw; (try dsimp only at hSw); (try simp only [List.getElem_toArray, List.getElem_cons_zero, List.getElem_cons_succ]); go_simp; (try with_reducible rfl))
      (try simp only [Act.put, List.setIfInBounds_toArray, List.set_cons_zero, List.set_cons_succ, List.getElem_toArray, List.getElem_cons_zero, List.getElem_cons_succ])
      refine wpAnyH_take (i := 11) (oi := _) (v := ?vcf11) rfl (by kernel_rfl) (by kernel_rfl) (by kernel_rfl) (fun _ _ _ h => h) (Or.inl ⟨by rfl, ?hycf11⟩) (by assumption) ?restcf11
      case hycf11 => (intro w hSw; (try dsimp only at hSw); (try simp only [List.getElem_toArray, List.getElem_cons_zero, List.getElem_cons_succ]); go_simp; (try with_reducible rfl))
      (try simp only [Act.put, List.setIfInBounds_toArray, List.set_cons_zero, List.set_cons_succ, List.getElem_toArray, List.getElem_cons_zero, List.getElem_cons_succ])
      refine wpAnyH_take (i := 12) (oi := _) (v := ?vcf12) rfl (by kernel_rfl) (by kernel_rfl) (by kernel_rfl) (fun _ _ _ h => h) (Or.inl ⟨by rfl, ?hycf12⟩) (by assumption) ?restcf12
      case hycf12 => (intro w hSw; (try dsimp only at hSw); (try simp only [List.getElem_toArray, List.getElem_cons_zero, List.getElem_cons_succ]); go_simp; (try with_reducible rfl))
      (try simp only [Act.put, List.setIfInBounds_toArray, List.set_cons_zero, List.set_cons_succ, List.getElem_toArray, List.getElem_cons_zero, List.getElem_cons_succ])
      refine wpAnyH_take (i := 13) (oi := _) (v := ?vcf13) rfl (by kernel_rfl) (by kernel_rfl) (by kernel_rfl) (fun _ _ _ h => h) (Or.inl ⟨by rfl, ?hycf13⟩) (by assumption) ?restcf13
      case hycf13 => (intro w hSw; (try dsimp only at hSw); (try simp only [List.getElem_toArray, List.getElem_cons_zero, List.getElem_cons_succ]); go_simp; (try with_reducible rfl))
      (try simp only [Act.put, List.setIfInBounds_toArray, List.set_cons_zero, List.set_cons_succ, List.getElem_toArray, List.getElem_cons_zero, List.getElem_cons_succ])
      refine wpAnyH_take (i := 14) (oi := _) (v := ?vcf14) rfl (by kernel_rfl) (by kernel_rfl) (by kernel_rfl) (fun _ _ _ h => h) (Or.inl ⟨by rfl, ?hycf14⟩) (by assumption) ?restcf14
      case hycf14 => (intro w hSw; (try dsimp only at hSw); (try simp only [List.getElem_toArray, List.getElem_cons_zero, List.getElem_cons_succ]); go_simp; (try with_reducible rfl))
      (try simp only [Act.put, List.setIfInBounds_toArray, List.set_cons_zero, List.set_cons_succ, List.getElem_toArray, List.getElem_cons_zero, List.getElem_cons_succ])
      refine wpAnyH_take (i := 15) (oi := _) (v := ?vcf15) rfl (by kernel_rfl) (by kernel_rfl) (by kernel_rfl) (fun _ _ _ h => h) (Or.inl ⟨by rfl, ?hycf15⟩) (by assumption) ?restcf15
      case hycf15 => (intro w hSw; (try dsimp only at hSw); (try simp only [List.getElem_toArray, List.getElem_cons_zero, List.getElem_cons_succ]); go_simp; (try with_reducible rfl))
      (try simp only [Act.put, List.setIfInBounds_toArray, List.set_cons_zero, List.set_cons_succ, List.getElem_toArray, List.getElem_cons_zero, List.getElem_cons_succ])
      refine wpAnyH_take (i := 16) (oi := _) (v := ?vcf16) rfl (by kernel_rfl) (by kernel_rfl) (by kernel_rfl) (fun _ _ _ h => h) (Or.inl ⟨by rfl, ?hycf16⟩) (by assumption) ?restcf16
      case hycf16 => (intro w hSw; (try dsimp only at hSw); (try simp only [List.getElem_toArray, List.getElem_cons_zero, List.getElem_cons_succ]); go_simp; (try with_reducible rfl))
      (try simp only [Act.put, List.setIfInBounds_toArray, List.set_cons_zero, List.set_cons_succ, List.getElem_toArray, List.getElem_cons_zero, List.getElem_cons_succ])
      refine wpAnyH_take (i := 17) (oi := _) (v := ?vcf17) rfl (by kernel_rfl) (by kernel_rfl) (by kernel_rfl) (fun _ _ _ h => h) (Or.inl ⟨by rfl, ?hycf17⟩) (by assumption) ?restcf17
      case hycf17 => (intro w hSw; (try dsimp only at hSw); (try simp only [List.getElem_toArray, List.getElem_cons_zero, List.getElem_cons_succ]); go_simp; (try with_reducible rfl))
      (try simp only [Act.put, List.setIfInBounds_toArray, List.set_cons_zero, List.set_cons_succ, List.getElem_toArray, List.getElem_cons_zero, List.getElem_cons_succ])
      refine wpAnyH_done (by kernel_rfl) ?_ _
      refine NoPanic.normal ?_
      go_wp2_with fail
      go_ret
      exact ⟨by rw [HR2.out]; rfl, HW.out _ HB2.out⟩
end Go.Proofs.Ytgomnigchfmfhaa
