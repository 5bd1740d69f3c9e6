/- grid: the document's NewGrid. By program (rgn/XRGridNew.py). Own work. -/
import Derived.Test.YtgomnigchfmfhaaRGrid
import Derived.Test.YtgomnigchfmfhaaGrids
import Derived.Deep.Cut
namespace Go.Proofs.Ytgomnigchfmfhaa
set_option linter.unusedVariables false
set_option linter.unusedSimpArgs false
open Go.RowKit

theorem row_row : (Try.prog.info? 22).map (fun i => (i.zero, i.size, i.bytes)) = some (some (.slice none 0 0), 1, 24) := by kernel_rfl

/-- The rows' headers. -/
def hdrs (R : Nat → Nat) (W y : Nat) : List Value := (List.range y).map fun i => .slice (some ⟨R i, 0, none⟩) W W
theorem hdrs_succ (R : Nat → Nat) (W y : Nat) : hdrs R W (y + 1) = hdrs R W y ++ [.slice (some ⟨R y, 0, none⟩) W W] := by simp [hdrs, List.range_succ]
theorem hdrs_congr {R R' : Nat → Nat} (W y : Nat) (h : ∀ i, i < y → R i = R' i) : hdrs R W y = hdrs R' W y := by
  unfold hdrs
  refine List.map_congr_left (fun i hi => ?_)
  rw [h i (List.mem_range.1 hi)]
theorem hdrs_at (R : Nat → Nat) (W y i : Nat) (hi : i < y) : (hdrs R W y)[i]? = some (.slice (some ⟨R i, 0, none⟩) W W) := by
  simp [hdrs, hi]

theorem own_in {w : World} {B e n c : Nat} {A : Option Addr} {xs : List Value} (h : w.ownsRow B e 1 (.slice A n c) n xs) (h0 : 0 < n) :
    ∃ g, A = some ⟨g, 0, none⟩ ∧ B ≤ g ∧ g < w.heap.size ∧ ∀ i v, xs[i]? = some v → Cell w g i v := by
  rcases h.2 with ⟨h1, h2⟩ | ⟨g, cap, cur, h1, hB, hg, q1, q2, q3, q4⟩
  · injection h1 with hA hn hc
    omega
  · injection h1 with hA hn hc
    subst hA hc
    refine ⟨g, rfl, hB, lt_heap hg, fun i v hv => ⟨?_, free_at hg _⟩⟩
    rw [cell_at hg]
    have hlt : i < n * 1 := by
      rcases Nat.lt_or_ge i (n * 1) with z | z
      · exact z
      · rw [← q4, List.getElem?_take_eq_none (by omega)] at hv; cases hv
    rw [← q4, List.getElem?_take_of_lt hlt] at hv
    simpa using hv

/-- In the midst: y rows are made. -/
structure NG (w wr : World) (r base W H y : Nat) (R : Nat → Nat) (o : Value) : Prop where
  cw : Cell wr r 0 (.int .i64 W)
  ch : Cell wr r 1 (.int .i64 H)
  co : Cell wr r 2 o
  own : wr.ownsRow base 22 1 o y (hdrs R W y)
  far : ∀ k, o.ownBlock = some k → ∀ i, i < y → R i ≠ k
  row : ∀ i, i < y → base ≤ R i ∧ R i < wr.heap.size ∧ Lies wr (R i) 0 W (fun _ => blankC)
  inj : ∀ i j, i < y → j < y → R i = R j → i = j
  base : base ≤ wr.heap.size
  below : Below w.heap.size w wr

theorem ng_step {w wr v7 w9 : World} {r base W H y g : Nat} {R : Nat → Nat} {o v9 : Value} (h : NG w wr r base W H y R o) (k : Keep (fun _ => False) wr v7) (hg1 : wr.heap.size ≤ g) (hg2 : g < v7.heap.size) (hl : Lies v7 g 0 W (fun _ => blankC))
    {x : Obj} (ho : w9.ownsRow base 22 1 v9 (y + 1) (hdrs R W y ++ [.slice (some ⟨g, 0, none⟩) W W])) (k9 : Keep (fun k => o.ownBlock = some k) (v7.alloc x) w9)
    (ha : ∀ k, v9.ownBlock = some k → o.ownBlock = some k ∨ (v7.alloc x).heap.size ≤ k) (hr : r < base) (hw : w.heap.size ≤ r := by omega) :
    NG w (w9.setCell ⟨r, 2, none⟩ v9) r base W H (y + 1) (fun i => if i = y then g else R i) v9 := by
  have ka : Keep (fun _ => False) wr (v7.alloc x) := k.alloc x
  have hbs := h.base
  have hs9 := k9.size
  have hsa := ka.size
  have hs7 := k.size
  have hxa : (v7.alloc x).heap.size = v7.heap.size + 1 := by simp
  have hnr : ¬ o.ownBlock = some r := fun z => by have := (h.own.lt r z).1; omega
  have hob : ∀ i, o.ownBlock = some i → i < wr.heap.size := fun i z => (h.own.lt i z).2
  have ks : Keep (· = r) w9 (w9.setCell ⟨r, 2, none⟩ v9) := keep_set w9 r 2 v9
  have c9 := ((h.co.keep ka (fun z => z)).keep k9 hnr)
  have hvb : ∀ k, v9.ownBlock = some k → k ≠ r := fun k hk e => by have := (ho.lt k hk).1; omega
  refine ⟨(((h.cw.keep ka (fun z => z)).keep k9 hnr).far (fun z => by omega) _), (((h.ch.keep ka (fun z => z)).keep k9 hnr).far (fun z => by omega) _), c9.set _, ?_, fun k hk i hi => ?_, fun i hi => ?_, fun i j hi hj e => ?_, ?_, ?_⟩
  · rw [hdrs_succ, if_pos rfl, hdrs_congr (R := fun i => if i = y then g else R i) (R' := R) W y (fun i hi => if_neg (by omega))]
    exact own_keep ho ks (fun i hi e => hvb i hi e)
  · by_cases e : i = y
    · rw [if_pos e]
      rcases ha k hk with z | z
      · have := hob k z; omega
      · omega
    · rw [if_neg e]
      rcases ha k hk with z | z
      · exact h.far k z i (by omega)
      · have := (h.row i (by omega)).2.1; omega
  · by_cases e : i = y
    · rw [if_pos e]
      refine ⟨by omega, by simp; omega, ?_⟩
      exact ((hl.keep hg2 ((Keep.refl (fun _ => False) v7).alloc x) (fun z => z)).keep (by omega) k9 (fun z => by have := hob g z; omega)).keep (by omega) ks (fun z => by omega)
    · rw [if_neg e]
      obtain ⟨r1, r2, r3⟩ := h.row i (by omega)
      refine ⟨r1, by simp; omega, ?_⟩
      exact ((r3.keep r2 ka (fun z => z)).keep (by omega) k9 (fun z => h.far _ z i (by omega) rfl)).keep (by omega) ks (fun z => by omega)
  · by_cases e1 : i = y <;> by_cases e2 : j = y
    · omega
    · rw [if_pos e1, if_neg e2] at e
      have := (h.row j (by omega)).2.1; omega
    · rw [if_neg e1, if_pos e2] at e
      have := (h.row i (by omega)).2.1; omega
    · rw [if_neg e1, if_neg e2] at e
      exact h.inj i j (by omega) (by omega) e
  · simp; omega
  · have hw9 := h.below.size
    exact ((h.below.trans (ka.below h.below.size (fun _ _ z => z))).trans (k9.below (by omega) (fun k hk z => by have := (h.own.lt k z).1; omega))).trans (ks.below (by omega) (fun k hk z => by omega))

/-- Behind NewGrid. -/
def RNewTo (W H : Nat) (w : World) (e : Ending) (w' : World) : Prop :=
  ∃ r lb lc R, e = .returned (.pointer (some ⟨r, 0, none⟩)) ∧ (∀ b, rown r lb H R b → w.heap.size ≤ b) ∧ RGrid w' r lb lc W H R (fun _ _ => blankC) ∧ Below w.heap.size w w'

set_option maxRecDepth 100000 in
set_option maxHeartbeats 3200000 in
theorem ref_new (w : World) (x y : Int) (W H : Nat) (hW : min (max x 2) 40 = (W : Int)) (hH : min (max y 1) 20 = (H : Int)) :
    Calls Try.prog 43 #[.int .i64 x, .int .i64 y] w (RNewTo W H w) := by
  obtain ⟨i0, hi0, hz0, hz1, hz2⟩ := info_parts row_row
  have hW2 : 2 ≤ W ∧ W ≤ 40 := by omega
  have hH2 : 1 ≤ H ∧ H ≤ 20 := by omega
  have hw0 : 0 < W := by omega
  have hw40 : W ≤ 40 := by omega
  have HE := Lib.hid (ref_ends x y w)
  rw [hW, hH] at HE
  have hH20 : (H : Int) ≤ 20 := by omega
  have hWH := Lib.hid (And.intro hW2 hH2)
  clear hW hH
  obtain ⟨r, hr⟩ : ∃ r, r = w.heap.size := ⟨_, rfl⟩
  obtain ⟨base, hb⟩ : ∃ base, base = r + 1 := ⟨_, rfl⟩
  have hrbase : r < base := by omega
  obtain ⟨w1, hw1⟩ : ∃ w1, w1 = w.alloc (.cells #[.int .i64 W, .int .i64 H, .slice none 0 0] 88) := ⟨_, rfl⟩
  have HN1 : Hid (NG w w1 r base W H 0 (fun _ => 0) (.slice none 0 0)) := Lib.hid (by
    have hs : w1.heap.size = base := by rw [hw1, hb, hr]; simp
    rw [hr, hw1]
    refine ⟨Cell.box 0 rfl, Cell.box 1 rfl, Cell.box 2 rfl, ⟨by simp [hdrs], .inl ⟨rfl, rfl⟩⟩, fun k hk i hi => absurd hi (by omega), fun i hi => absurd hi (by omega), fun i j hi => absurd hi (by omega), by rw [← hw1]; omega, (Below.refl _ w).alloc (Nat.le_refl _) _⟩)
  have hwr : w.heap.size ≤ r := by omega
  go_enter Try.func43, Try.ntmps43
  go_wp2_with fail
  refine HE.out.mono ?_
  rintro e w0 ⟨rfl, rfl⟩
  go_wp2_with fail
  rw [← hw1]
  rw [← hr]
  clear hw1 hr hb
  go_loopw [6] (fun i wr => ∃ (y : Nat) (R : Nat → Nat) (o : Value), i = .int .i64 y ∧ y ≤ H ∧ Hid (NG w0 wr r base W H y R o)) (fun i _ => H - (intOf i).toNat)
  case atStart => exact ⟨0, _, _, rfl, Nat.zero_le _, HN1⟩
  case round =>
    obtain ⟨y, R, o, rfl, hy, HN⟩ := hrel
    by_cases hlt' : y < H
    · have hyi : (y : Int) < (H : Int) := by omega
      have c2 := HN.out.co.1
      have f2 := HN.out.co.2
      have hlt := HN.out.co.lt
      have HK : Hid (Keep (fun _ => False) wr wr.drew) := Lib.hid ((Keep.refl _ wr).drew)
      go_wp2_with fail
      refine wp_region_noPanic ?_
      refine wp_region_held_drew (S := fun _ => True) (by kernel_rfl) trivial (fun hHeld => ?_)
      refine wpAnyH_take (i := 0) (oi := _) (v := ?va0_1) rfl (by kernel_rfl) (by kernel_rfl) (by kernel_rfl) (fun _ _ _ h => h) (Or.inl ⟨by rfl, ?hya0_1⟩) (by assumption) ?resta0_1
      case hya0_1 => (intro w hSw; (try dsimp only at hSw); (try simp only [List.getElem_toArray, List.getElem_cons_zero, List.getElem_cons_succ]); go_simp; (try with_reducible rfl))
      (try simp only [Act.put, List.setIfInBounds_toArray, List.set_cons_zero, List.set_cons_succ, List.getElem_toArray, List.getElem_cons_zero, List.getElem_cons_succ])
      refine wpAnyH_take (i := 1) (oi := _) (v := ?va1_2) rfl (by kernel_rfl) (by kernel_rfl) (by kernel_rfl) (fun _ _ _ h => h) (Or.inl ⟨by rfl, ?hya1_2⟩) (by assumption) ?resta1_2
      case hya1_2 => (intro w hSw; (try dsimp only at hSw); (try simp only [List.getElem_toArray, List.getElem_cons_zero, List.getElem_cons_succ]); go_simp; (try with_reducible rfl))
      (try simp only [Act.put, List.setIfInBounds_toArray, List.set_cons_zero, List.set_cons_succ, List.getElem_toArray, List.getElem_cons_zero, List.getElem_cons_succ])
      refine wpAnyH_take (i := 5) (oi := _) (v := ?va5_3) rfl (by kernel_rfl) (by kernel_rfl) (by kernel_rfl) (fun _ _ _ h => h) (Or.inl ⟨by rfl, ?hya5_3⟩) (by assumption) ?resta5_3
      case hya5_3 => (intro w hSw; (try dsimp only at hSw); (try simp only [List.getElem_toArray, List.getElem_cons_zero, List.getElem_cons_succ]); go_simp; (try with_reducible rfl))
      (try simp only [Act.put, List.setIfInBounds_toArray, List.set_cons_zero, List.set_cons_succ, List.getElem_toArray, List.getElem_cons_zero, List.getElem_cons_succ])
      refine wpAnyH_take (i := 2) (oi := _) (v := ?va2_4) rfl (by kernel_rfl) (by kernel_rfl) (by kernel_rfl) (fun _ _ _ h => h) (Or.inl ⟨by rfl, ?hya2_4⟩) (by assumption) ?resta2_4
      case hya2_4 => (intro w hSw; (try dsimp only at hSw); (try simp only [List.getElem_toArray, List.getElem_cons_zero, List.getElem_cons_succ]); go_simp; (try with_reducible rfl))
      (try simp only [Act.put, List.setIfInBounds_toArray, List.set_cons_zero, List.set_cons_succ, List.getElem_toArray, List.getElem_cons_zero, List.getElem_cons_succ])
      refine wpAnyH_take (i := 3) (oi := _) (v := ?va3_5) rfl (by kernel_rfl) (by kernel_rfl) (by kernel_rfl) (fun _ _ _ h => h) (Or.inl ⟨by rfl, ?hya3_5⟩) (by assumption) ?resta3_5
      case hya3_5 => (intro w hSw; (try dsimp only at hSw); (try simp only [List.getElem_toArray, List.getElem_cons_zero, List.getElem_cons_succ]); go_simp; (try with_reducible rfl))
      (try simp only [Act.put, List.setIfInBounds_toArray, List.set_cons_zero, List.set_cons_succ, List.getElem_toArray, List.getElem_cons_zero, List.getElem_cons_succ])
      refine wpAnyH_ready (rs := [4, 6]) (by kernel_rfl) (by simp) ?_
      refine AllReadyH.cons (o := _) rfl (fun K hK => ?_) (AllReadyH.cons (o := _) rfl (fun K hK => ?_) AllReadyH.nil)
      · (try simp only [List.getElem_toArray, List.getElem_cons_zero, List.getElem_cons_succ])
        go_simp
        refine hK.out _ _ ?_ (fun hHeld => ?_)
        · trivial
        clear hK K
        (try simp only [Act.put, List.setIfInBounds_toArray, List.set_cons_zero, List.set_cons_succ, List.getElem_toArray, List.getElem_cons_zero, List.getElem_cons_succ])
        refine wpAnyH_ready (rs := [6]) (by kernel_rfl) (by simp) ?_
        refine AllReadyH.cons (o := _) rfl (fun K hK => ?_) AllReadyH.nil
        · (try simp only [List.getElem_toArray, List.getElem_cons_zero, List.getElem_cons_succ])
          go_simp
          refine (ref_blank _).mono ?_; rintro e v6 ⟨rfl, hb⟩; have c2 := (hb.cell (p := ⟨r, 2, none⟩) hlt).trans c2; have f2 := (hb.frozen (p := ⟨r, 2, none⟩) hlt).trans f2; have hlt := Nat.lt_of_lt_of_le hlt hb.size; have HK := Lib.hid (HK.out.trans (Keep.of_below (fun _ => False) hb) (fun _ _ e => e)); clear hb
          refine hK.out _ _ ?_ (fun hHeld => ?_)
          · trivial
          clear hK K
          (try simp only [Act.put, List.setIfInBounds_toArray, List.set_cons_zero, List.set_cons_succ, List.getElem_toArray, List.getElem_cons_zero, List.getElem_cons_succ])
          refine wpAnyH_ready (rs := [7]) (by kernel_rfl) (by simp) ?_
          refine AllReadyH.cons (o := _) rfl (fun K hK => ?_) AllReadyH.nil
          · (try simp only [List.getElem_toArray, List.getElem_cons_zero, List.getElem_cons_succ])
            go_simp
            refine (ref_row W blankC _ hw0 hw40).mono ?_; rintro e v7 ⟨g, rfl, hg1, hg2, hl, hb⟩; have HG := Lib.hid (And.intro (Nat.le_trans HK.out.size hg1) (And.intro hg2 hl)); have c2 := (hb.cell (p := ⟨r, 2, none⟩) hlt).trans c2; have f2 := (hb.frozen (p := ⟨r, 2, none⟩) hlt).trans f2; have hlt := Nat.lt_of_lt_of_le hlt hb.size; have HK := Lib.hid (HK.out.trans (Keep.of_below (fun _ => False) hb) (fun _ _ e => e)); clear hb hg1 hg2 hl
            refine hK.out _ _ ?_ (fun hHeld => ?_)
            · trivial
            clear hK K
            (try simp only [Act.put, List.setIfInBounds_toArray, List.set_cons_zero, List.set_cons_succ, List.getElem_toArray, List.getElem_cons_zero, List.getElem_cons_succ])
            refine wpAnyH_ready (rs := [8]) (by kernel_rfl) (by simp) ?_
            refine AllReadyH.cons (o := _) rfl (fun K hK => ?_) AllReadyH.nil
            · (try simp only [List.getElem_toArray, List.getElem_cons_zero, List.getElem_cons_succ])
              go_simp
              refine hK.out _ _ ?_ (fun hHeld => ?_)
              · trivial
              clear hK K
              (try simp only [Act.put, List.setIfInBounds_toArray, List.set_cons_zero, List.set_cons_succ, List.getElem_toArray, List.getElem_cons_zero, List.getElem_cons_succ])
              refine wpAnyH_ready (rs := [9]) (by kernel_rfl) (by simp) ?_
              refine AllReadyH.cons (o := _) rfl (fun K hK => ?_) AllReadyH.nil
              · (try simp only [List.getElem_toArray, List.getElem_cons_zero, List.getElem_cons_succ])
                rw [if_pos (by rfl)]; refine wp_own_at _ (.tmp 26) (.tmp 30) 86 rfl base 22 i0 _ 1 24 Try.underlying86 hi0 hz0 hz1 hz2 rfl (by decide) o y (hdrs R W y) rfl (own_keep HN.out.own (HK.out.alloc _) (fun _ _ e => e)) ⟨v7.heap.size, 0, none⟩ 1 1 [.slice (some ⟨g, 0, none⟩) W W] rfl rfl (cells_new v7 [.slice (some ⟨g, 0, none⟩) W W] 22 v7.heap.size rfl) (by simp [Value.oneCell']) (by unfold maxLen; omega) (by omega) ?hbase ?_; (case hbase => (have := HN.out.base; have := HK.out.size; simp; omega)); intro v9 w9 hown hk hat; (obtain ⟨A9, c9, rfl, -⟩ := own_form hown); have HO9 := Lib.hid hown; have HK9 := Lib.hid hk; have HA9 := Lib.hid hat; have hrb : ¬ o.ownBlock = some r := (fun z => by have := (HN.out.own.lt r z).1; have := hrbase; omega); have c2 := (hk.cell (p := ⟨r, 2, none⟩) (by simp; omega) hrb).trans ((((Keep.refl (fun _ => False) v7).alloc _).cell (p := ⟨r, 2, none⟩) hlt (fun z => z)).trans c2); have f2 := (hk.frozen (p := ⟨r, 2, none⟩) (by simp; omega) hrb).trans ((((Keep.refl (fun _ => False) v7).alloc _).frozen (p := ⟨r, 2, none⟩) hlt (fun z => z)).trans f2); clear hown hk hat
                refine hK.out _ _ ?_ (fun hHeld => ?_)
                · trivial
                clear hK K
                (try simp only [Act.put, List.setIfInBounds_toArray, List.set_cons_zero, List.set_cons_succ, List.getElem_toArray, List.getElem_cons_zero, List.getElem_cons_succ])
                refine wpAnyH_take (i := 10) (oi := _) (v := ?va10_6) rfl (by kernel_rfl) (by kernel_rfl) (by kernel_rfl) (fun _ _ _ h => h) (Or.inl ⟨by rfl, ?hya10_6⟩) (by assumption) ?resta10_6
                case hya10_6 => (intro w hSw; (try dsimp only at hSw); (try simp only [List.getElem_toArray, List.getElem_cons_zero, List.getElem_cons_succ]); go_simp; (try with_reducible rfl))
                (try simp only [Act.put, List.setIfInBounds_toArray, List.set_cons_zero, List.set_cons_succ, List.getElem_toArray, List.getElem_cons_zero, List.getElem_cons_succ])
                refine wpAnyH_take (i := 11) (oi := _) (v := ?va11_7) rfl (by kernel_rfl) (by kernel_rfl) (by kernel_rfl) (fun _ _ _ h => h) (Or.inl ⟨by rfl, ?hya11_7⟩) (by assumption) ?resta11_7
                case hya11_7 => (intro w hSw; (try dsimp only at hSw); (try simp only [List.getElem_toArray, List.getElem_cons_zero, List.getElem_cons_succ]); go_simp; (try with_reducible rfl))
                (try simp only [Act.put, List.setIfInBounds_toArray, List.set_cons_zero, List.set_cons_succ, List.getElem_toArray, List.getElem_cons_zero, List.getElem_cons_succ])
                refine wpAnyH_ready (rs := [12]) (by kernel_rfl) (by simp) ?_
                refine AllReadyH.cons (o := _) rfl (fun K hK => ?_) AllReadyH.nil
                · (try simp only [List.getElem_toArray, List.getElem_cons_zero, List.getElem_cons_succ])
                  go_simp
                  refine hK.out _ _ ?_ (fun hHeld => ?_)
                  · trivial
                  clear hK K
                  (try simp only [Act.put, List.setIfInBounds_toArray, List.set_cons_zero, List.set_cons_succ, List.getElem_toArray, List.getElem_cons_zero, List.getElem_cons_succ])
                  refine wpAnyH_done (by kernel_rfl) ?_ _
                  refine NoPanic.normal ?_
                  have HN5 := ng_step HN.out HK.out HG.out.1 HG.out.2.1 HG.out.2.2 HO9.out HK9.out HA9.out hrbase
                  have HN5 := Lib.hid HN5
                  clear c2 f2
                  go_wp2_with fail
                  go_roundw
                  case rel => exact ⟨y + 1, _, _, by go_num, by omega, HN5⟩
                  case measure => simp [intOf]; omega
      · (try simp only [List.getElem_toArray, List.getElem_cons_zero, List.getElem_cons_succ])
        go_simp
        refine (ref_blank _).mono ?_; rintro e v6 ⟨rfl, hb⟩; have c2 := (hb.cell (p := ⟨r, 2, none⟩) hlt).trans c2; have f2 := (hb.frozen (p := ⟨r, 2, none⟩) hlt).trans f2; have hlt := Nat.lt_of_lt_of_le hlt hb.size; have HK := Lib.hid (HK.out.trans (Keep.of_below (fun _ => False) hb) (fun _ _ e => e)); clear hb
        refine hK.out _ _ ?_ (fun hHeld => ?_)
        · trivial
        clear hK K
        (try simp only [Act.put, List.setIfInBounds_toArray, List.set_cons_zero, List.set_cons_succ, List.getElem_toArray, List.getElem_cons_zero, List.getElem_cons_succ])
        refine wpAnyH_ready (rs := [4, 7]) (by kernel_rfl) (by simp) ?_
        refine AllReadyH.cons (o := _) rfl (fun K hK => ?_) (AllReadyH.cons (o := _) rfl (fun K hK => ?_) AllReadyH.nil)
        · (try simp only [List.getElem_toArray, List.getElem_cons_zero, List.getElem_cons_succ])
          go_simp
          refine hK.out _ _ ?_ (fun hHeld => ?_)
          · trivial
          clear hK K
          (try simp only [Act.put, List.setIfInBounds_toArray, List.set_cons_zero, List.set_cons_succ, List.getElem_toArray, List.getElem_cons_zero, List.getElem_cons_succ])
          refine wpAnyH_ready (rs := [7]) (by kernel_rfl) (by simp) ?_
          refine AllReadyH.cons (o := _) rfl (fun K hK => ?_) AllReadyH.nil
          · (try simp only [List.getElem_toArray, List.getElem_cons_zero, List.getElem_cons_succ])
            go_simp
            refine (ref_row W blankC _ hw0 hw40).mono ?_; rintro e v7 ⟨g, rfl, hg1, hg2, hl, hb⟩; have HG := Lib.hid (And.intro (Nat.le_trans HK.out.size hg1) (And.intro hg2 hl)); have c2 := (hb.cell (p := ⟨r, 2, none⟩) hlt).trans c2; have f2 := (hb.frozen (p := ⟨r, 2, none⟩) hlt).trans f2; have hlt := Nat.lt_of_lt_of_le hlt hb.size; have HK := Lib.hid (HK.out.trans (Keep.of_below (fun _ => False) hb) (fun _ _ e => e)); clear hb hg1 hg2 hl
            refine hK.out _ _ ?_ (fun hHeld => ?_)
            · trivial
            clear hK K
            (try simp only [Act.put, List.setIfInBounds_toArray, List.set_cons_zero, List.set_cons_succ, List.getElem_toArray, List.getElem_cons_zero, List.getElem_cons_succ])
            refine wpAnyH_ready (rs := [8]) (by kernel_rfl) (by simp) ?_
            refine AllReadyH.cons (o := _) rfl (fun K hK => ?_) AllReadyH.nil
            · (try simp only [List.getElem_toArray, List.getElem_cons_zero, List.getElem_cons_succ])
              go_simp
              refine hK.out _ _ ?_ (fun hHeld => ?_)
              · trivial
              clear hK K
              (try simp only [Act.put, List.setIfInBounds_toArray, List.set_cons_zero, List.set_cons_succ, List.getElem_toArray, List.getElem_cons_zero, List.getElem_cons_succ])
              refine wpAnyH_ready (rs := [9]) (by kernel_rfl) (by simp) ?_
              refine AllReadyH.cons (o := _) rfl (fun K hK => ?_) AllReadyH.nil
              · (try simp only [List.getElem_toArray, List.getElem_cons_zero, List.getElem_cons_succ])
                rw [if_pos (by rfl)]; refine wp_own_at _ (.tmp 26) (.tmp 30) 86 rfl base 22 i0 _ 1 24 Try.underlying86 hi0 hz0 hz1 hz2 rfl (by decide) o y (hdrs R W y) rfl (own_keep HN.out.own (HK.out.alloc _) (fun _ _ e => e)) ⟨v7.heap.size, 0, none⟩ 1 1 [.slice (some ⟨g, 0, none⟩) W W] rfl rfl (cells_new v7 [.slice (some ⟨g, 0, none⟩) W W] 22 v7.heap.size rfl) (by simp [Value.oneCell']) (by unfold maxLen; omega) (by omega) ?hbase ?_; (case hbase => (have := HN.out.base; have := HK.out.size; simp; omega)); intro v9 w9 hown hk hat; (obtain ⟨A9, c9, rfl, -⟩ := own_form hown); have HO9 := Lib.hid hown; have HK9 := Lib.hid hk; have HA9 := Lib.hid hat; have hrb : ¬ o.ownBlock = some r := (fun z => by have := (HN.out.own.lt r z).1; have := hrbase; omega); have c2 := (hk.cell (p := ⟨r, 2, none⟩) (by simp; omega) hrb).trans ((((Keep.refl (fun _ => False) v7).alloc _).cell (p := ⟨r, 2, none⟩) hlt (fun z => z)).trans c2); have f2 := (hk.frozen (p := ⟨r, 2, none⟩) (by simp; omega) hrb).trans ((((Keep.refl (fun _ => False) v7).alloc _).frozen (p := ⟨r, 2, none⟩) hlt (fun z => z)).trans f2); clear hown hk hat
                refine hK.out _ _ ?_ (fun hHeld => ?_)
                · trivial
                clear hK K
                (try simp only [Act.put, List.setIfInBounds_toArray, List.set_cons_zero, List.set_cons_succ, List.getElem_toArray, List.getElem_cons_zero, List.getElem_cons_succ])
                refine wpAnyH_take (i := 10) (oi := _) (v := ?va10_8) rfl (by kernel_rfl) (by kernel_rfl) (by kernel_rfl) (fun _ _ _ h => h) (Or.inl ⟨by rfl, ?hya10_8⟩) (by assumption) ?resta10_8
                case hya10_8 => (intro w hSw; (try dsimp only at hSw); (try simp only [List.getElem_toArray, List.getElem_cons_zero, List.getElem_cons_succ]); go_simp; (try with_reducible rfl))
                (try simp only [Act.put, List.setIfInBounds_toArray, List.set_cons_zero, List.set_cons_succ, List.getElem_toArray, List.getElem_cons_zero, List.getElem_cons_succ])
                refine wpAnyH_take (i := 11) (oi := _) (v := ?va11_9) rfl (by kernel_rfl) (by kernel_rfl) (by kernel_rfl) (fun _ _ _ h => h) (Or.inl ⟨by rfl, ?hya11_9⟩) (by assumption) ?resta11_9
                case hya11_9 => (intro w hSw; (try dsimp only at hSw); (try simp only [List.getElem_toArray, List.getElem_cons_zero, List.getElem_cons_succ]); go_simp; (try with_reducible rfl))
                (try simp only [Act.put, List.setIfInBounds_toArray, List.set_cons_zero, List.set_cons_succ, List.getElem_toArray, List.getElem_cons_zero, List.getElem_cons_succ])
                refine wpAnyH_ready (rs := [12]) (by kernel_rfl) (by simp) ?_
                refine AllReadyH.cons (o := _) rfl (fun K hK => ?_) AllReadyH.nil
                · (try simp only [List.getElem_toArray, List.getElem_cons_zero, List.getElem_cons_succ])
                  go_simp
                  refine hK.out _ _ ?_ (fun hHeld => ?_)
                  · trivial
                  clear hK K
                  (try simp only [Act.put, List.setIfInBounds_toArray, List.set_cons_zero, List.set_cons_succ, List.getElem_toArray, List.getElem_cons_zero, List.getElem_cons_succ])
                  refine wpAnyH_done (by kernel_rfl) ?_ _
                  refine NoPanic.normal ?_
                  have HN5 := ng_step HN.out HK.out HG.out.1 HG.out.2.1 HG.out.2.2 HO9.out HK9.out HA9.out hrbase
                  have HN5 := Lib.hid HN5
                  clear c2 f2
                  go_wp2_with fail
                  go_roundw
                  case rel => exact ⟨y + 1, _, _, by go_num, by omega, HN5⟩
                  case measure => simp [intOf]; omega
        · (try simp only [List.getElem_toArray, List.getElem_cons_zero, List.getElem_cons_succ])
          go_simp
          refine (ref_row W blankC _ hw0 hw40).mono ?_; rintro e v7 ⟨g, rfl, hg1, hg2, hl, hb⟩; have HG := Lib.hid (And.intro (Nat.le_trans HK.out.size hg1) (And.intro hg2 hl)); have c2 := (hb.cell (p := ⟨r, 2, none⟩) hlt).trans c2; have f2 := (hb.frozen (p := ⟨r, 2, none⟩) hlt).trans f2; have hlt := Nat.lt_of_lt_of_le hlt hb.size; have HK := Lib.hid (HK.out.trans (Keep.of_below (fun _ => False) hb) (fun _ _ e => e)); clear hb hg1 hg2 hl
          refine hK.out _ _ ?_ (fun hHeld => ?_)
          · trivial
          clear hK K
          (try simp only [Act.put, List.setIfInBounds_toArray, List.set_cons_zero, List.set_cons_succ, List.getElem_toArray, List.getElem_cons_zero, List.getElem_cons_succ])
          refine wpAnyH_ready (rs := [4, 8]) (by kernel_rfl) (by simp) ?_
          refine AllReadyH.cons (o := _) rfl (fun K hK => ?_) (AllReadyH.cons (o := _) rfl (fun K hK => ?_) AllReadyH.nil)
          · (try simp only [List.getElem_toArray, List.getElem_cons_zero, List.getElem_cons_succ])
            go_simp
            refine hK.out _ _ ?_ (fun hHeld => ?_)
            · trivial
            clear hK K
            (try simp only [Act.put, List.setIfInBounds_toArray, List.set_cons_zero, List.set_cons_succ, List.getElem_toArray, List.getElem_cons_zero, List.getElem_cons_succ])
            refine wpAnyH_ready (rs := [8]) (by kernel_rfl) (by simp) ?_
            refine AllReadyH.cons (o := _) rfl (fun K hK => ?_) AllReadyH.nil
            · (try simp only [List.getElem_toArray, List.getElem_cons_zero, List.getElem_cons_succ])
              go_simp
              refine hK.out _ _ ?_ (fun hHeld => ?_)
              · trivial
              clear hK K
              (try simp only [Act.put, List.setIfInBounds_toArray, List.set_cons_zero, List.set_cons_succ, List.getElem_toArray, List.getElem_cons_zero, List.getElem_cons_succ])
              refine wpAnyH_ready (rs := [9]) (by kernel_rfl) (by simp) ?_
              refine AllReadyH.cons (o := _) rfl (fun K hK => ?_) AllReadyH.nil
              · (try simp only [List.getElem_toArray, List.getElem_cons_zero, List.getElem_cons_succ])
                rw [if_pos (by rfl)]; refine wp_own_at _ (.tmp 26) (.tmp 30) 86 rfl base 22 i0 _ 1 24 Try.underlying86 hi0 hz0 hz1 hz2 rfl (by decide) o y (hdrs R W y) rfl (own_keep HN.out.own (HK.out.alloc _) (fun _ _ e => e)) ⟨v7.heap.size, 0, none⟩ 1 1 [.slice (some ⟨g, 0, none⟩) W W] rfl rfl (cells_new v7 [.slice (some ⟨g, 0, none⟩) W W] 22 v7.heap.size rfl) (by simp [Value.oneCell']) (by unfold maxLen; omega) (by omega) ?hbase ?_; (case hbase => (have := HN.out.base; have := HK.out.size; simp; omega)); intro v9 w9 hown hk hat; (obtain ⟨A9, c9, rfl, -⟩ := own_form hown); have HO9 := Lib.hid hown; have HK9 := Lib.hid hk; have HA9 := Lib.hid hat; have hrb : ¬ o.ownBlock = some r := (fun z => by have := (HN.out.own.lt r z).1; have := hrbase; omega); have c2 := (hk.cell (p := ⟨r, 2, none⟩) (by simp; omega) hrb).trans ((((Keep.refl (fun _ => False) v7).alloc _).cell (p := ⟨r, 2, none⟩) hlt (fun z => z)).trans c2); have f2 := (hk.frozen (p := ⟨r, 2, none⟩) (by simp; omega) hrb).trans ((((Keep.refl (fun _ => False) v7).alloc _).frozen (p := ⟨r, 2, none⟩) hlt (fun z => z)).trans f2); clear hown hk hat
                refine hK.out _ _ ?_ (fun hHeld => ?_)
                · trivial
                clear hK K
                (try simp only [Act.put, List.setIfInBounds_toArray, List.set_cons_zero, List.set_cons_succ, List.getElem_toArray, List.getElem_cons_zero, List.getElem_cons_succ])
                refine wpAnyH_take (i := 10) (oi := _) (v := ?va10_10) rfl (by kernel_rfl) (by kernel_rfl) (by kernel_rfl) (fun _ _ _ h => h) (Or.inl ⟨by rfl, ?hya10_10⟩) (by assumption) ?resta10_10
                case hya10_10 => (intro w hSw; (try dsimp only at hSw); (try simp only [List.getElem_toArray, List.getElem_cons_zero, List.getElem_cons_succ]); go_simp; (try with_reducible rfl))
                (try simp only [Act.put, List.setIfInBounds_toArray, List.set_cons_zero, List.set_cons_succ, List.getElem_toArray, List.getElem_cons_zero, List.getElem_cons_succ])
                refine wpAnyH_take (i := 11) (oi := _) (v := ?va11_11) rfl (by kernel_rfl) (by kernel_rfl) (by kernel_rfl) (fun _ _ _ h => h) (Or.inl ⟨by rfl, ?hya11_11⟩) (by assumption) ?resta11_11
                case hya11_11 => (intro w hSw; (try dsimp only at hSw); (try simp only [List.getElem_toArray, List.getElem_cons_zero, List.getElem_cons_succ]); go_simp; (try with_reducible rfl))
                (try simp only [Act.put, List.setIfInBounds_toArray, List.set_cons_zero, List.set_cons_succ, List.getElem_toArray, List.getElem_cons_zero, List.getElem_cons_succ])
                refine wpAnyH_ready (rs := [12]) (by kernel_rfl) (by simp) ?_
                refine AllReadyH.cons (o := _) rfl (fun K hK => ?_) AllReadyH.nil
                · (try simp only [List.getElem_toArray, List.getElem_cons_zero, List.getElem_cons_succ])
                  go_simp
                  refine hK.out _ _ ?_ (fun hHeld => ?_)
                  · trivial
                  clear hK K
                  (try simp only [Act.put, List.setIfInBounds_toArray, List.set_cons_zero, List.set_cons_succ, List.getElem_toArray, List.getElem_cons_zero, List.getElem_cons_succ])
                  refine wpAnyH_done (by kernel_rfl) ?_ _
                  refine NoPanic.normal ?_
                  have HN5 := ng_step HN.out HK.out HG.out.1 HG.out.2.1 HG.out.2.2 HO9.out HK9.out HA9.out hrbase
                  have HN5 := Lib.hid HN5
                  clear c2 f2
                  go_wp2_with fail
                  go_roundw
                  case rel => exact ⟨y + 1, _, _, by go_num, by omega, HN5⟩
                  case measure => simp [intOf]; omega
          · (try simp only [List.getElem_toArray, List.getElem_cons_zero, List.getElem_cons_succ])
            go_simp
            refine hK.out _ _ ?_ (fun hHeld => ?_)
            · trivial
            clear hK K
            (try simp only [Act.put, List.setIfInBounds_toArray, List.set_cons_zero, List.set_cons_succ, List.getElem_toArray, List.getElem_cons_zero, List.getElem_cons_succ])
            refine wpAnyH_ready (rs := [4]) (by kernel_rfl) (by simp) ?_
            refine AllReadyH.cons (o := _) rfl (fun K hK => ?_) AllReadyH.nil
            · (try simp only [List.getElem_toArray, List.getElem_cons_zero, List.getElem_cons_succ])
              go_simp
              refine hK.out _ _ ?_ (fun hHeld => ?_)
              · trivial
              clear hK K
              (try simp only [Act.put, List.setIfInBounds_toArray, List.set_cons_zero, List.set_cons_succ, List.getElem_toArray, List.getElem_cons_zero, List.getElem_cons_succ])
              refine wpAnyH_ready (rs := [9]) (by kernel_rfl) (by simp) ?_
              refine AllReadyH.cons (o := _) rfl (fun K hK => ?_) AllReadyH.nil
              · (try simp only [List.getElem_toArray, List.getElem_cons_zero, List.getElem_cons_succ])
                rw [if_pos (by rfl)]; refine wp_own_at _ (.tmp 26) (.tmp 30) 86 rfl base 22 i0 _ 1 24 Try.underlying86 hi0 hz0 hz1 hz2 rfl (by decide) o y (hdrs R W y) rfl (own_keep HN.out.own (HK.out.alloc _) (fun _ _ e => e)) ⟨v7.heap.size, 0, none⟩ 1 1 [.slice (some ⟨g, 0, none⟩) W W] rfl rfl (cells_new v7 [.slice (some ⟨g, 0, none⟩) W W] 22 v7.heap.size rfl) (by simp [Value.oneCell']) (by unfold maxLen; omega) (by omega) ?hbase ?_; (case hbase => (have := HN.out.base; have := HK.out.size; simp; omega)); intro v9 w9 hown hk hat; (obtain ⟨A9, c9, rfl, -⟩ := own_form hown); have HO9 := Lib.hid hown; have HK9 := Lib.hid hk; have HA9 := Lib.hid hat; have hrb : ¬ o.ownBlock = some r := (fun z => by have := (HN.out.own.lt r z).1; have := hrbase; omega); have c2 := (hk.cell (p := ⟨r, 2, none⟩) (by simp; omega) hrb).trans ((((Keep.refl (fun _ => False) v7).alloc _).cell (p := ⟨r, 2, none⟩) hlt (fun z => z)).trans c2); have f2 := (hk.frozen (p := ⟨r, 2, none⟩) (by simp; omega) hrb).trans ((((Keep.refl (fun _ => False) v7).alloc _).frozen (p := ⟨r, 2, none⟩) hlt (fun z => z)).trans f2); clear hown hk hat
                refine hK.out _ _ ?_ (fun hHeld => ?_)
                · trivial
                clear hK K
                (try simp only [Act.put, List.setIfInBounds_toArray, List.set_cons_zero, List.set_cons_succ, List.getElem_toArray, List.getElem_cons_zero, List.getElem_cons_succ])
                refine wpAnyH_take (i := 10) (oi := _) (v := ?va10_12) rfl (by kernel_rfl) (by kernel_rfl) (by kernel_rfl) (fun _ _ _ h => h) (Or.inl ⟨by rfl, ?hya10_12⟩) (by assumption) ?resta10_12
                case hya10_12 => (intro w hSw; (try dsimp only at hSw); (try simp only [List.getElem_toArray, List.getElem_cons_zero, List.getElem_cons_succ]); go_simp; (try with_reducible rfl))
                (try simp only [Act.put, List.setIfInBounds_toArray, List.set_cons_zero, List.set_cons_succ, List.getElem_toArray, List.getElem_cons_zero, List.getElem_cons_succ])
                refine wpAnyH_take (i := 11) (oi := _) (v := ?va11_13) rfl (by kernel_rfl) (by kernel_rfl) (by kernel_rfl) (fun _ _ _ h => h) (Or.inl ⟨by rfl, ?hya11_13⟩) (by assumption) ?resta11_13
                case hya11_13 => (intro w hSw; (try dsimp only at hSw); (try simp only [List.getElem_toArray, List.getElem_cons_zero, List.getElem_cons_succ]); go_simp; (try with_reducible rfl))
                (try simp only [Act.put, List.setIfInBounds_toArray, List.set_cons_zero, List.set_cons_succ, List.getElem_toArray, List.getElem_cons_zero, List.getElem_cons_succ])
                refine wpAnyH_ready (rs := [12]) (by kernel_rfl) (by simp) ?_
                refine AllReadyH.cons (o := _) rfl (fun K hK => ?_) AllReadyH.nil
                · (try simp only [List.getElem_toArray, List.getElem_cons_zero, List.getElem_cons_succ])
                  go_simp
                  refine hK.out _ _ ?_ (fun hHeld => ?_)
                  · trivial
                  clear hK K
                  (try simp only [Act.put, List.setIfInBounds_toArray, List.set_cons_zero, List.set_cons_succ, List.getElem_toArray, List.getElem_cons_zero, List.getElem_cons_succ])
                  refine wpAnyH_done (by kernel_rfl) ?_ _
                  refine NoPanic.normal ?_
                  have HN5 := ng_step HN.out HK.out HG.out.1 HG.out.2.1 HG.out.2.2 HO9.out HK9.out HA9.out hrbase
                  have HN5 := Lib.hid HN5
                  clear c2 f2
                  go_wp2_with fail
                  go_roundw
                  case rel => exact ⟨y + 1, _, _, by go_num, by omega, HN5⟩
                  case measure => simp [intOf]; omega
    · have hyH : y = H := by omega
      subst hyH
      obtain ⟨A, lc, rfl, -⟩ := own_form HN.out.own
      obtain ⟨lb, rfl, hB, hlb, hcell⟩ := own_in HN.out.own (by have := hWH.out; omega)
      have HT : Hid (RNewTo W y w0 (.returned (.pointer (some ⟨r, 0, none⟩))) wr) := Lib.hid ⟨r, lb, lc, R, rfl, fun b hb => by
          rcases hb with e | e | ⟨i, hi, e⟩
          · omega
          · omega
          · have := (HN.out.row i hi).1; omega,
        ⟨HN.out.cw, HN.out.ch, HN.out.co, fun i hi => hcell i _ (hdrs_at R W y i hi), fun i hi => (HN.out.row i hi).2.2, HN.out.inj, by omega, fun i hi => ⟨by have := (HN.out.row i hi).1; omega, HN.out.far lb rfl i hi⟩, hWH.out.1, hWH.out.2⟩, HN.out.below⟩
      clear hB hlb hcell
      go_wp2_with fail
      go_ret
      exact HT.out

end Go.Proofs.Ytgomnigchfmfhaa
