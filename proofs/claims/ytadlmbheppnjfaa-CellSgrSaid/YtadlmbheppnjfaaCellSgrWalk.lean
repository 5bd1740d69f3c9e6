/- Law CellSgr: the walk. Own work. -/
import Derived.Test.YtadlmbheppnjfaaCellA
import Derived.Test.YtadlmbheppnjfaaCellRead
import Derived.Test.YtadlmbheppnjfaaBookI0
namespace Go.Proofs.Ytadlmbheppnjfaa
set_option linter.unusedVariables false
set_option linter.unusedSimpArgs false
open Go.RowKit

theorem own_cap {w : World} {B e size n c : Nat} {A : Option Addr} {xs : List Value} (h : w.ownsRow B e size (.slice A n c) n xs) (h0 : 0 < n) : n ≤ c := by
  rcases h.2 with ⟨q, rfl⟩ | ⟨g', cap, cur, q, _, _, q2, q3, _⟩
  · omega
  · injection q with _ _ q4
    subst q4
    exact q2
theorem src_cells {w : World} {b off m : Nat} {us : List Value} (h : Src w (some ⟨b, off, none⟩) m us) : ∀ j u, us[j]? = some u → w.cell? ((⟨b, off, none⟩ : Addr).add j) = some u := fun j u hj => by
  have hj' : j < us.length := by
    rcases Nat.lt_or_ge j us.length with e | e
    · exact e
    · rw [List.getElem?_eq_none e] at hj; cases hj
  obtain ⟨b', o', e, _, hc⟩ := h.2 (by rw [← h.1]; omega)
  injection e with e
  injection e with e1 e2
  subst e1 e2
  rw [add_mk]
  exact hc j u hj

set_option maxRecDepth 100000 in
set_option maxHeartbeats 6400000 in
theorem walk_CellSgr (a : At) (wa : a.wf) (A : Option Addr) (n cap : Nat) (xs : List Int) (B : Option Addr) (m dap : Nat) (ys : List Int) (w : World) (h : Ints w A n xs ∧ n ≤ cap) (k : Ints w B m ys ∧ m ≤ dap) :
    Calls Try.prog 5 #[a.v, .slice A n cap, .slice B m dap] w fun e w' => e = .returned (.bool true) ∧ Below w.heap.size w w' := by
  obtain ⟨f, g, b, u, i⟩ := a
  simp only [At.v]
  by_cases h1 : (n : Int) > 40
  · clear h k
    go_enter Try.func5, Try.ntmps5
    go_wp2_with fail
    refine (alive_any _).mono ?_
    rintro e w1 ⟨rfl, hb⟩
    have HB1 : Hid (Below w.heap.size w w1) := Lib.hid ((below_box ..).trans (hb.mono (by simp)))
    clear hb
    go_wp2_with fail
    go_ret
    exact ⟨rfl, HB1.out⟩
  by_cases h2 : (m : Int) > 40
  · clear h k
    go_enter Try.func5, Try.ntmps5
    go_wp2_with fail
    refine (alive_any _).mono ?_
    rintro e w1 ⟨rfl, hb⟩
    have HB1 : Hid (Below w.heap.size w w1) := Lib.hid ((below_box ..).trans (hb.mono (by simp)))
    clear hb
    go_wp2_with fail
    go_ret
    exact ⟨rfl, HB1.out⟩
  by_cases h3 : ¬ At.ok ⟨f, g, b, u, i⟩
  · clear h k
    go_enter Try.func5, Try.ntmps5
    go_wp2_with fail
    refine (ref_valid ⟨f, g, b, u, i⟩ _ false (decide_eq_false h3)).mono ?_
    rintro e w1 ⟨rfl, hb⟩
    have HB1 : Hid (Below w.heap.size w w1) := Lib.hid ((below_box ..).trans (hb.mono (by simp)))
    clear hb
    go_wp2_with fail
    refine (alive_any _).mono ?_
    rintro e w2 ⟨rfl, hb⟩
    have HB2 : Hid (Below w.heap.size w w2) := Lib.hid (HB1.out.trans (hb.mono HB1.out.size))
    clear hb
    go_wp2_with fail
    go_ret
    exact ⟨rfl, HB2.out⟩
  have h3 := Decidable.not_not.1 h3
  obtain ⟨h, hc⟩ := h
  obtain ⟨k, kc⟩ := k
  have HA := Lib.hid (src_ints h)
  have HB := Lib.hid (src_ints k)
  have HAb := Lib.hid h.2.2.1
  have HBb := Lib.hid k.2.2.1
  have HAl := Lib.hid h.1
  have HBl := Lib.hid k.1
  have HOK := Lib.hid h3
  obtain ⟨p, hp⟩ : ∃ p, p = w.heap.size := ⟨_, rfl⟩
  have HP := Lib.hid hp
  clear h k h3 hp wa
  go_enter Try.func5, Try.ntmps5
  go_wp2_with fail
  refine (ref_valid ⟨f, g, b, u, i⟩ _ true (decide_eq_true HOK.out)).mono ?_
  rintro e w1 ⟨rfl, hb⟩
  have HB1 : Hid (Below w.heap.size w w1) := Lib.hid ((below_box ..).trans (hb.mono (by simp)))
  have HX1 : Hid (w1.heap[p]? = some (attrO ⟨f, g, b, u, i⟩)) := Lib.hid (by rw [HP.out]; exact (hb.block _ (by simp)).trans (heap_alloc_new w _))
  clear hb
  go_wp2_with fail
  refine (alive_any _).mono ?_
  rintro e w2 ⟨rfl, hb⟩
  have HB2 : Hid (Below w.heap.size w w2) := Lib.hid (HB1.out.trans (hb.mono HB1.out.size))
  have HX2 : Hid (w2.heap[p]? = some (attrO ⟨f, g, b, u, i⟩)) := Lib.hid ((hb.block _ (lt_heap HX1.out)).trans HX1.out)
  clear hb
  have HA2 := Lib.hid (HA.out.below HB2.out)
  have HB2' := Lib.hid (HB.out.below HB2.out)
  have d0 : w2.cell? ⟨p, 0, none⟩ = some (.int .i64 f) := cell_at HX2.out 0
  have d1 : w2.cell? ⟨p, 1, none⟩ = some (.int .i64 g) := cell_at HX2.out 1
  have d2 : w2.cell? ⟨p, 2, none⟩ = some (.bool b) := cell_at HX2.out 2
  have d3 : w2.cell? ⟨p, 3, none⟩ = some (.bool u) := cell_at HX2.out 3
  have d4 : w2.cell? ⟨p, 4, none⟩ = some (.bool i) := cell_at HX2.out 4
  rw [← HP.out]
  go_wp2_with fail
  refine (cell_sgr ⟨f, g, b, u, i⟩ A n cap xs _ HA2.out hc (by omega) HAb.out).mono ?_
  rintro e w3 ⟨rfl, hb⟩
  obtain ⟨⟨f2, g2, b2, u2, i2⟩, hs⟩ : ∃ a2, sgrL ⟨f, g, b, u, i⟩ xs = a2 := ⟨_, rfl⟩
  have HOK2 := Lib.hid (hs ▸ sgrL_ok ⟨f, g, b, u, i⟩ xs HOK.out)
  rw [hs]
  simp only [At.v]
  clear hs
  have HB3 : Hid (Below w.heap.size w w3) := Lib.hid (HB2.out.trans (hb.mono HB2.out.size))
  have HX3 : Hid (w3.heap[p]? = some (attrO ⟨f, g, b, u, i⟩)) := Lib.hid ((hb.block _ (lt_heap HX2.out)).trans HX2.out)
  have HB3' := Lib.hid (HB2'.out.below hb)
  obtain ⟨q, hq⟩ : ∃ q, q = w3.heap.size := ⟨_, rfl⟩
  have hpq : p < q := by rw [hq]; exact lt_heap HX3.out
  clear hb d0 d1 d2 d3 d4
  go_upto_region 4 with fail
  obtain ⟨W, hW⟩ : ∃ W : World, W = w3.alloc (.cells #[.int .i64 f2, .int .i64 g2, .bool b2, .bool u2, .bool i2] 23) := ⟨_, rfl⟩
  rw [← hW, ← hq]
  have HQ : Hid (W.heap[q]? = some (attrO ⟨f2, g2, b2, u2, i2⟩)) := Lib.hid (by rw [hW, hq]; exact heap_alloc_new w3 _)
  have HBW : Hid (Below w.heap.size w W) := Lib.hid (by rw [hW]; exact HB3.out.alloc HB3.out.size _)
  have HPW : Hid (W.heap[p]? = some (attrO ⟨f, g, b, u, i⟩)) := Lib.hid (by rw [hW]; exact heap_alloc HX3.out _)
  have HMW : Hid (Src W B m (ys.map (Value.int .i64))) := Lib.hid (by rw [hW]; exact HB3'.out.keep ((Keep.refl _ w3).alloc _))
  have hqW : q < W.heap.size := lt_heap HQ.out
  have hpW : p < W.heap.size := lt_heap HPW.out
  have HCQ : Hid (∀ W', Below W.heap.size W W' → W'.cell? ⟨q, 0, none⟩ = some (.int .i64 f2) ∧ W'.cell? ⟨q, 1, none⟩ = some (.int .i64 g2) ∧ W'.cell? ⟨q, 2, none⟩ = some (.bool b2) ∧ W'.cell? ⟨q, 3, none⟩ = some (.bool u2) ∧ W'.cell? ⟨q, 4, none⟩ = some (.bool i2)) :=
    Lib.hid (fun W' hb => by
      have h1 := (hb.block q hqW).trans HQ.out
      exact ⟨cell_at h1 0, cell_at h1 1, cell_at h1 2, cell_at h1 3, cell_at h1 4⟩)
  have HV : Hid (∀ W', Calls Try.prog 15 #[.agg #[.int .i64 f2, .int .i64 g2, .bool b2, .bool u2, .bool i2]] W' fun e w' => e = .returned (.bool true) ∧ Below W'.heap.size W' w') :=
    Lib.hid (fun W' => cell_valid ⟨f2, g2, b2, u2, i2⟩ W' true (decide_eq_true HOK2.out))
  clear hW hq HX3 HB3 HB3' h3
  by_cases hm : m = 0
  · subst hm
    have hm0 : ((0 : Nat) : Int) = 0 := rfl
    refine wp_region_noPanic ?_
    refine wp_region_held_drew (S := fun w' => w'.cell? ⟨q, 0, none⟩ = some (.int .i64 f2) ∧ w'.cell? ⟨q, 1, none⟩ = some (.int .i64 g2) ∧ w'.cell? ⟨q, 2, none⟩ = some (.bool b2) ∧ w'.cell? ⟨q, 3, none⟩ = some (.bool u2) ∧ w'.cell? ⟨q, 4, none⟩ = some (.bool i2)) (by kernel_rfl) (HCQ.out _ ((Below.refl _ W).drew)) (fun hHeld => ?_)
    refine wpAnyH_take (i := 0) (oi := _) (v := ?va0) rfl (by kernel_rfl) (by kernel_rfl) (by kernel_rfl) (fun _ _ _ h => h) (Or.inl ⟨by rfl, ?hya0⟩) (by assumption) ?resta0
    case hya0 => (intro w hSw; (try dsimp only at hSw); (try simp only [List.getElem_toArray, List.getElem_cons_zero, List.getElem_cons_succ]); go_simp; (try with_reducible rfl))
    (try simp only [Act.put, List.setIfInBounds_toArray, List.set_cons_zero, List.set_cons_succ, List.getElem_toArray, List.getElem_cons_zero, List.getElem_cons_succ])
    refine wpAnyH_ready (rs := [1]) (by kernel_rfl) (by simp) ?_
    refine AllReadyH.cons (o := _) rfl (fun K hK => ?_) AllReadyH.nil
    (try simp only [List.getElem_toArray, List.getElem_cons_zero, List.getElem_cons_succ])
    go_simp
    refine (HV.out _).mono ?_; rintro e w5 ⟨rfl, hb5⟩
    refine hK.out _ _ ?_ (fun hHeld => ?_)
    · exact HCQ.out _ ⟨hb5.os, hb5.tape, hb5.output, hb5.size, hb5.block⟩
    clear hK K
    (try simp only [Act.put, List.setIfInBounds_toArray, List.set_cons_zero, List.set_cons_succ, List.getElem_toArray, List.getElem_cons_zero, List.getElem_cons_succ])
    refine wpAnyH_take (i := 2) (oi := _) (v := ?va2) rfl (by kernel_rfl) (by kernel_rfl) (by kernel_rfl) (fun _ _ _ h => h) (Or.inl ⟨by rfl, ?hya2⟩) (by assumption) ?resta2
    case hya2 => (intro w hSw; (try dsimp only at hSw); (try simp only [List.getElem_toArray, List.getElem_cons_zero, List.getElem_cons_succ]); go_simp; (try with_reducible rfl))
    (try simp only [Act.put, List.setIfInBounds_toArray, List.set_cons_zero, List.set_cons_succ, List.getElem_toArray, List.getElem_cons_zero, List.getElem_cons_succ])
    refine wpAnyH_take (i := 3) (oi := _) (v := ?va3) rfl (by kernel_rfl) (by kernel_rfl) (by kernel_rfl) (fun _ _ _ h => h) (Or.inl ⟨by rfl, ?hya3⟩) (by assumption) ?resta3
    case hya3 => (intro w hSw; (try dsimp only at hSw); (try simp only [List.getElem_toArray, List.getElem_cons_zero, List.getElem_cons_succ]); go_simp; (try with_reducible rfl))
    (try simp only [Act.put, List.setIfInBounds_toArray, List.set_cons_zero, List.set_cons_succ, List.getElem_toArray, List.getElem_cons_zero, List.getElem_cons_succ])
    refine wpAnyH_take (i := 4) (oi := _) (v := ?va4) rfl (by kernel_rfl) (by kernel_rfl) (by kernel_rfl) (fun _ _ _ h => h) (Or.inl ⟨by rfl, ?hya4⟩) (by assumption) ?resta4
    case hya4 => (intro w hSw; (try dsimp only at hSw); (try simp only [List.getElem_toArray, List.getElem_cons_zero, List.getElem_cons_succ]); go_simp; (try with_reducible rfl))
    (try simp only [Act.put, List.setIfInBounds_toArray, List.set_cons_zero, List.set_cons_succ, List.getElem_toArray, List.getElem_cons_zero, List.getElem_cons_succ])
    refine wpAnyH_take (i := 5) (oi := _) (v := ?va5) rfl (by kernel_rfl) (by kernel_rfl) (by kernel_rfl) (fun _ _ _ h => h) (Or.inl ⟨by rfl, ?hya5⟩) (by assumption) ?resta5
    case hya5 => (intro w hSw; (try dsimp only at hSw); (try simp only [List.getElem_toArray, List.getElem_cons_zero, List.getElem_cons_succ]); go_simp; (try with_reducible rfl))
    (try simp only [Act.put, List.setIfInBounds_toArray, List.set_cons_zero, List.set_cons_succ, List.getElem_toArray, List.getElem_cons_zero, List.getElem_cons_succ])
    refine wpAnyH_take (i := 6) (oi := _) (v := ?va6) rfl (by kernel_rfl) (by kernel_rfl) (by kernel_rfl) (fun _ _ _ h => h) (Or.inl ⟨by rfl, ?hya6⟩) (by assumption) ?resta6
    case hya6 => (intro w hSw; (try dsimp only at hSw); (try simp only [List.getElem_toArray, List.getElem_cons_zero, List.getElem_cons_succ]); go_simp; (try with_reducible rfl))
    (try simp only [Act.put, List.setIfInBounds_toArray, List.set_cons_zero, List.set_cons_succ, List.getElem_toArray, List.getElem_cons_zero, List.getElem_cons_succ])
    refine wpAnyH_take (i := 7) (oi := _) (v := ?va7) rfl (by kernel_rfl) (by kernel_rfl) (by kernel_rfl) (fun _ _ _ h => h) (Or.inl ⟨by rfl, ?hya7⟩) (by assumption) ?resta7
    case hya7 => (intro w hSw; (try dsimp only at hSw); (try simp only [List.getElem_toArray, List.getElem_cons_zero, List.getElem_cons_succ]); go_simp; (try with_reducible rfl))
    (try simp only [Act.put, List.setIfInBounds_toArray, List.set_cons_zero, List.set_cons_succ, List.getElem_toArray, List.getElem_cons_zero, List.getElem_cons_succ])
    refine wpAnyH_take (i := 8) (oi := _) (v := undef) rfl (by kernel_rfl) (by kernel_rfl) (by kernel_rfl) (fun _ _ _ h => h) (Or.inr ⟨by rfl, rfl⟩) (by assumption) ?_
    (try simp only [Act.put, List.setIfInBounds_toArray, List.set_cons_zero, List.set_cons_succ, List.getElem_toArray, List.getElem_cons_zero, List.getElem_cons_succ])
    refine wpAnyH_take (i := 9) (oi := _) (v := undef) rfl (by kernel_rfl) (by kernel_rfl) (by kernel_rfl) (fun _ _ _ h => h) (Or.inr ⟨by rfl, rfl⟩) (by assumption) ?_
    (try simp only [Act.put, List.setIfInBounds_toArray, List.set_cons_zero, List.set_cons_succ, List.getElem_toArray, List.getElem_cons_zero, List.getElem_cons_succ])
    refine wpAnyH_take (i := 10) (oi := _) (v := undef) rfl (by kernel_rfl) (by kernel_rfl) (by kernel_rfl) (fun _ _ _ h => h) (Or.inr ⟨by rfl, rfl⟩) (by assumption) ?_
    (try simp only [Act.put, List.setIfInBounds_toArray, List.set_cons_zero, List.set_cons_succ, List.getElem_toArray, List.getElem_cons_zero, List.getElem_cons_succ])
    refine wpAnyH_take (i := 11) (oi := _) (v := undef) rfl (by kernel_rfl) (by kernel_rfl) (by kernel_rfl) (fun _ _ _ h => h) (Or.inr ⟨by rfl, rfl⟩) (by assumption) ?_
    (try simp only [Act.put, List.setIfInBounds_toArray, List.set_cons_zero, List.set_cons_succ, List.getElem_toArray, List.getElem_cons_zero, List.getElem_cons_succ])
    refine wpAnyH_take (i := 12) (oi := _) (v := undef) rfl (by kernel_rfl) (by kernel_rfl) (by kernel_rfl) (fun _ _ _ h => h) (Or.inr ⟨by rfl, rfl⟩) (by assumption) ?_
    (try simp only [Act.put, List.setIfInBounds_toArray, List.set_cons_zero, List.set_cons_succ, List.getElem_toArray, List.getElem_cons_zero, List.getElem_cons_succ])
    refine wpAnyH_take (i := 13) (oi := _) (v := undef) rfl (by kernel_rfl) (by kernel_rfl) (by kernel_rfl) (fun _ _ _ h => h) (Or.inr ⟨by rfl, rfl⟩) (by assumption) ?_
    (try simp only [Act.put, List.setIfInBounds_toArray, List.set_cons_zero, List.set_cons_succ, List.getElem_toArray, List.getElem_cons_zero, List.getElem_cons_succ])
    refine wpAnyH_take (i := 14) (oi := _) (v := undef) rfl (by kernel_rfl) (by kernel_rfl) (by kernel_rfl) (fun _ _ _ h => h) (Or.inr ⟨by rfl, rfl⟩) (by assumption) ?_
    (try simp only [Act.put, List.setIfInBounds_toArray, List.set_cons_zero, List.set_cons_succ, List.getElem_toArray, List.getElem_cons_zero, List.getElem_cons_succ])
    refine wpAnyH_take (i := 15) (oi := _) (v := undef) rfl (by kernel_rfl) (by kernel_rfl) (by kernel_rfl) (fun _ _ _ h => h) (Or.inr ⟨by rfl, rfl⟩) (by assumption) ?_
    (try simp only [Act.put, List.setIfInBounds_toArray, List.set_cons_zero, List.set_cons_succ, List.getElem_toArray, List.getElem_cons_zero, List.getElem_cons_succ])
    refine wpAnyH_take (i := 16) (oi := _) (v := undef) rfl (by kernel_rfl) (by kernel_rfl) (by kernel_rfl) (fun _ _ _ h => h) (Or.inr ⟨by rfl, rfl⟩) (by assumption) ?_
    (try simp only [Act.put, List.setIfInBounds_toArray, List.set_cons_zero, List.set_cons_succ, List.getElem_toArray, List.getElem_cons_zero, List.getElem_cons_succ])
    refine wpAnyH_take (i := 17) (oi := _) (v := ?va17) rfl (by kernel_rfl) (by kernel_rfl) (by kernel_rfl) (fun _ _ _ h => h) (Or.inl ⟨by rfl, ?hya17⟩) (by assumption) ?resta17
    case hya17 => (intro w hSw; (try dsimp only at hSw); (try simp only [List.getElem_toArray, List.getElem_cons_zero, List.getElem_cons_succ]); go_simp; (try with_reducible rfl))
    (try simp only [Act.put, List.setIfInBounds_toArray, List.set_cons_zero, List.set_cons_succ, List.getElem_toArray, List.getElem_cons_zero, List.getElem_cons_succ])
    refine wpAnyH_take (i := 18) (oi := _) (v := ?va18) rfl (by kernel_rfl) (by kernel_rfl) (by kernel_rfl) (fun _ _ _ h => h) (Or.inl ⟨by rfl, ?hya18⟩) (by assumption) ?resta18
    case hya18 => (intro w hSw; (try dsimp only at hSw); (try simp only [List.getElem_toArray, List.getElem_cons_zero, List.getElem_cons_succ]); go_simp; (try with_reducible rfl))
    (try simp only [Act.put, List.setIfInBounds_toArray, List.set_cons_zero, List.set_cons_succ, List.getElem_toArray, List.getElem_cons_zero, List.getElem_cons_succ])
    refine wpAnyH_done (by kernel_rfl) ?_ _
    refine NoPanic.normal ?_
    have HB5 : Hid (Below w.heap.size w w5) := Lib.hid (HBW.out.trans ((⟨hb5.os, hb5.tape, hb5.output, hb5.size, hb5.block⟩ : Below W.heap.size W w5).mono HBW.out.size))
    have HX5 : Hid (w5.heap[p]? = some (attrO ⟨f, g, b, u, i⟩)) := Lib.hid ((hb5.block p hpW).trans HPW.out)
    have d0 : w5.cell? ⟨p, 0, none⟩ = some (.int .i64 f) := cell_at HX5.out 0
    have d1 : w5.cell? ⟨p, 1, none⟩ = some (.int .i64 g) := cell_at HX5.out 1
    have d2 : w5.cell? ⟨p, 2, none⟩ = some (.bool b) := cell_at HX5.out 2
    have d3 : w5.cell? ⟨p, 3, none⟩ = some (.bool u) := cell_at HX5.out 3
    have d4 : w5.cell? ⟨p, 4, none⟩ = some (.bool i) := cell_at HX5.out 4
    clear hb5 hHeld
    go_wp2_with fail
    go_loopw [9] (fun i wr => i = .int .i64 0 ∧ Hid (Below w.heap.size w wr)) (fun _ _ => 0)
    case atStart => exact ⟨rfl, HB5.out.alloc HB5.out.size _⟩
    case round =>
      obtain ⟨rfl, HBr⟩ := hrel
      go_wp2_with fail
      refine wp_region_noPanic ?_
      refine wp_region_held_drew (S := fun _ => True) (by kernel_rfl) trivial (fun hHeld => ?_)
      refine wpAnyH_take (i := 0) (oi := _) (v := ?vb0) rfl (by kernel_rfl) (by kernel_rfl) (by kernel_rfl) (fun _ _ _ h => h) (Or.inl ⟨by rfl, ?hyb0⟩) (by assumption) ?restb0
      case hyb0 => (intro w hSw; (try dsimp only at hSw); (try simp only [List.getElem_toArray, List.getElem_cons_zero, List.getElem_cons_succ]); go_simp; (try with_reducible rfl))
      (try simp only [Act.put, List.setIfInBounds_toArray, List.set_cons_zero, List.set_cons_succ, List.getElem_toArray, List.getElem_cons_zero, List.getElem_cons_succ])
      refine wpAnyH_take (i := 1) (oi := _) (v := ?vb1) rfl (by kernel_rfl) (by kernel_rfl) (by kernel_rfl) (fun _ _ _ h => h) (Or.inl ⟨by rfl, ?hyb1⟩) (by assumption) ?restb1
      case hyb1 => (intro w hSw; (try dsimp only at hSw); (try simp only [List.getElem_toArray, List.getElem_cons_zero, List.getElem_cons_succ]); go_simp; (try with_reducible rfl))
      (try simp only [Act.put, List.setIfInBounds_toArray, List.set_cons_zero, List.set_cons_succ, List.getElem_toArray, List.getElem_cons_zero, List.getElem_cons_succ])
      refine wpAnyH_take (i := 2) (oi := _) (v := ?vb2) rfl (by kernel_rfl) (by kernel_rfl) (by kernel_rfl) (fun _ _ _ h => h) (Or.inl ⟨by rfl, ?hyb2⟩) (by assumption) ?restb2
      case hyb2 => (intro w hSw; (try dsimp only at hSw); (try simp only [List.getElem_toArray, List.getElem_cons_zero, List.getElem_cons_succ]); go_simp; (try with_reducible rfl))
      (try simp only [Act.put, List.setIfInBounds_toArray, List.set_cons_zero, List.set_cons_succ, List.getElem_toArray, List.getElem_cons_zero, List.getElem_cons_succ])
      refine wpAnyH_take (i := 3) (oi := _) (v := ?vb3) rfl (by kernel_rfl) (by kernel_rfl) (by kernel_rfl) (fun _ _ _ h => h) (Or.inl ⟨by rfl, ?hyb3⟩) (by assumption) ?restb3
      case hyb3 => (intro w hSw; (try dsimp only at hSw); (try simp only [List.getElem_toArray, List.getElem_cons_zero, List.getElem_cons_succ]); go_simp; (try with_reducible rfl))
      (try simp only [Act.put, List.setIfInBounds_toArray, List.set_cons_zero, List.set_cons_succ, List.getElem_toArray, List.getElem_cons_zero, List.getElem_cons_succ])
      refine wpAnyH_take (i := 4) (oi := _) (v := undef) rfl (by kernel_rfl) (by kernel_rfl) (by kernel_rfl) (fun _ _ _ h => h) (Or.inr ⟨by rfl, rfl⟩) (by assumption) ?_
      (try simp only [Act.put, List.setIfInBounds_toArray, List.set_cons_zero, List.set_cons_succ, List.getElem_toArray, List.getElem_cons_zero, List.getElem_cons_succ])
      refine wpAnyH_take (i := 5) (oi := _) (v := undef) rfl (by kernel_rfl) (by kernel_rfl) (by kernel_rfl) (fun _ _ _ h => h) (Or.inr ⟨by rfl, rfl⟩) (by assumption) ?_
      (try simp only [Act.put, List.setIfInBounds_toArray, List.set_cons_zero, List.set_cons_succ, List.getElem_toArray, List.getElem_cons_zero, List.getElem_cons_succ])
      refine wpAnyH_take (i := 6) (oi := _) (v := undef) rfl (by kernel_rfl) (by kernel_rfl) (by kernel_rfl) (fun _ _ _ h => h) (Or.inr ⟨by rfl, rfl⟩) (by assumption) ?_
      (try simp only [Act.put, List.setIfInBounds_toArray, List.set_cons_zero, List.set_cons_succ, List.getElem_toArray, List.getElem_cons_zero, List.getElem_cons_succ])
      refine wpAnyH_take (i := 7) (oi := _) (v := undef) rfl (by kernel_rfl) (by kernel_rfl) (by kernel_rfl) (fun _ _ _ h => h) (Or.inr ⟨by rfl, rfl⟩) (by assumption) ?_
      (try simp only [Act.put, List.setIfInBounds_toArray, List.set_cons_zero, List.set_cons_succ, List.getElem_toArray, List.getElem_cons_zero, List.getElem_cons_succ])
      refine wpAnyH_take (i := 8) (oi := _) (v := undef) rfl (by kernel_rfl) (by kernel_rfl) (by kernel_rfl) (fun _ _ _ h => h) (Or.inr ⟨by rfl, rfl⟩) (by assumption) ?_
      (try simp only [Act.put, List.setIfInBounds_toArray, List.set_cons_zero, List.set_cons_succ, List.getElem_toArray, List.getElem_cons_zero, List.getElem_cons_succ])
      refine wpAnyH_take (i := 9) (oi := _) (v := ?vb9) rfl (by kernel_rfl) (by kernel_rfl) (by kernel_rfl) (fun _ _ _ h => h) (Or.inl ⟨by rfl, ?hyb9⟩) (by assumption) ?restb9
      case hyb9 => (intro w hSw; (try dsimp only at hSw); (try simp only [List.getElem_toArray, List.getElem_cons_zero, List.getElem_cons_succ]); go_simp; (try with_reducible rfl))
      (try simp only [Act.put, List.setIfInBounds_toArray, List.set_cons_zero, List.set_cons_succ, List.getElem_toArray, List.getElem_cons_zero, List.getElem_cons_succ])
      refine wpAnyH_take (i := 10) (oi := _) (v := ?vb10) rfl (by kernel_rfl) (by kernel_rfl) (by kernel_rfl) (fun _ _ _ h => h) (Or.inl ⟨by rfl, ?hyb10⟩) (by assumption) ?restb10
      case hyb10 => (intro w hSw; (try dsimp only at hSw); (try simp only [List.getElem_toArray, List.getElem_cons_zero, List.getElem_cons_succ]); go_simp; (try with_reducible rfl))
      (try simp only [Act.put, List.setIfInBounds_toArray, List.set_cons_zero, List.set_cons_succ, List.getElem_toArray, List.getElem_cons_zero, List.getElem_cons_succ])
      refine wpAnyH_done (by kernel_rfl) ?_ _
      refine NoPanic.normal ?_
      go_wp2_with fail
      go_ret
      exact ⟨rfl, HBr.out.drew⟩
  · have hm1 : (m : Int) > 0 := by omega
    have hm3 : decide (0 < m) = true := decide_eq_true (by omega)
    have hm4 : 0 < m := by omega
    have hm2 : ((m : Int) == 0) = false := by simp; omega
    obtain ⟨bb, off, rfl, hbb, -⟩ := HMW.out.2 (by omega)
    obtain ⟨⟨fz, gz, bz, uz, iz⟩, hsz⟩ : ∃ a2, sgrL .z ys = a2 := ⟨_, rfl⟩
    have hys : ys ≠ [] := fun e => by have := HBl.out; rw [e] at this; simp at this; omega
    obtain ⟨i0, hi0, hz0, hz1, hz2⟩ := info_parts int_info
    have HSZ : Hid (∀ W', Below W.heap.size W W' → Calls Try.prog 16 #[.agg #[.int .i64 0, .int .i64 0, .bool false, .bool false, .bool false], .slice (some ⟨bb, off, none⟩) m dap] W' fun e w' => e = .returned (.agg #[.int .i64 fz, .int .i64 gz, .bool bz, .bool uz, .bool iz]) ∧ Below W'.heap.size W' w') :=
      Lib.hid (fun W' hb => by have := cell_sgr .z _ m dap ys W' (HMW.out.below hb) kc (by omega) HBb.out; rw [hsz] at this; exact this)
    have HS0 : Hid (∀ W' A' c', Src W' A' (1 + m) ((0 :: ys).map (Value.int .i64)) → 1 + m ≤ c' → Calls Try.prog 16 #[.agg #[.int .i64 f2, .int .i64 g2, .bool b2, .bool u2, .bool i2], .slice A' (1 + m : Nat) c'] W' fun e w' => e = .returned (.agg #[.int .i64 fz, .int .i64 gz, .bool bz, .bool uz, .bool iz]) ∧ Below W'.heap.size W' w') :=
      Lib.hid (fun W' A' c' hx hc' => by have := cell_sgr ⟨f2, g2, b2, u2, i2⟩ A' (1 + m) c' (0 :: ys) W' hx hc' (by omega) (by intro x hx'; rcases List.mem_cons.1 hx' with rfl | hx'; omega; exact HBb.out x hx'); rw [sgrL_zero _ _ hys, hsz] at this; exact this)
    clear hsz hys
    refine wp_region_noPanic ?_
    refine wp_region_held_drew (S := fun w' => w'.cell? ⟨q, 0, none⟩ = some (.int .i64 f2) ∧ w'.cell? ⟨q, 1, none⟩ = some (.int .i64 g2) ∧ w'.cell? ⟨q, 2, none⟩ = some (.bool b2) ∧ w'.cell? ⟨q, 3, none⟩ = some (.bool u2) ∧ w'.cell? ⟨q, 4, none⟩ = some (.bool i2)) (by kernel_rfl) (HCQ.out _ ((Below.refl _ W).drew)) (fun hHeld => ?_)
    refine wpAnyH_take (i := 0) (oi := _) (v := ?vc0) rfl (by kernel_rfl) (by kernel_rfl) (by kernel_rfl) (fun _ _ _ h => h) (Or.inl ⟨by rfl, ?hyc0⟩) (by assumption) ?restc0
    case hyc0 => (intro w hSw; (try dsimp only at hSw); (try simp only [List.getElem_toArray, List.getElem_cons_zero, List.getElem_cons_succ]); go_simp; (try with_reducible rfl))
    (try simp only [Act.put, List.setIfInBounds_toArray, List.set_cons_zero, List.set_cons_succ, List.getElem_toArray, List.getElem_cons_zero, List.getElem_cons_succ])
    refine wpAnyH_ready (rs := [1]) (by kernel_rfl) (by simp) ?_
    refine AllReadyH.cons (o := _) rfl (fun K hK => ?_) AllReadyH.nil
    (try simp only [List.getElem_toArray, List.getElem_cons_zero, List.getElem_cons_succ])
    go_simp
    refine (HV.out _).mono ?_; rintro e w5 ⟨rfl, hb5⟩; have HB5 : Hid (Below W.heap.size W w5) := Lib.hid ⟨hb5.os, hb5.tape, hb5.output, hb5.size, hb5.block⟩; have hs5 : W.heap.size ≤ w5.heap.size := HB5.out.size; clear hb5
    refine hK.out _ _ ?_ (fun hHeld => ?_)
    · exact HCQ.out _ HB5.out
    clear hK K
    (try simp only [Act.put, List.setIfInBounds_toArray, List.set_cons_zero, List.set_cons_succ, List.getElem_toArray, List.getElem_cons_zero, List.getElem_cons_succ])
    refine wpAnyH_take (i := 2) (oi := _) (v := ?vc2) rfl (by kernel_rfl) (by kernel_rfl) (by kernel_rfl) (fun _ _ _ h => h) (Or.inl ⟨by rfl, ?hyc2⟩) (by assumption) ?restc2
    case hyc2 => (intro w hSw; (try dsimp only at hSw); (try simp only [List.getElem_toArray, List.getElem_cons_zero, List.getElem_cons_succ]); go_simp; (try with_reducible rfl))
    (try simp only [Act.put, List.setIfInBounds_toArray, List.set_cons_zero, List.set_cons_succ, List.getElem_toArray, List.getElem_cons_zero, List.getElem_cons_succ])
    refine wpAnyH_take (i := 3) (oi := _) (v := ?vc3) rfl (by kernel_rfl) (by kernel_rfl) (by kernel_rfl) (fun _ _ _ h => h) (Or.inl ⟨by rfl, ?hyc3⟩) (by assumption) ?restc3
    case hyc3 => (intro w hSw; (try dsimp only at hSw); (try simp only [List.getElem_toArray, List.getElem_cons_zero, List.getElem_cons_succ]); go_simp; (try with_reducible rfl))
    (try simp only [Act.put, List.setIfInBounds_toArray, List.set_cons_zero, List.set_cons_succ, List.getElem_toArray, List.getElem_cons_zero, List.getElem_cons_succ])
    refine wpAnyH_take (i := 4) (oi := _) (v := ?vc4) rfl (by kernel_rfl) (by kernel_rfl) (by kernel_rfl) (fun _ _ _ h => h) (Or.inl ⟨by rfl, ?hyc4⟩) (by assumption) ?restc4
    case hyc4 => (intro w hSw; (try dsimp only at hSw); (try simp only [List.getElem_toArray, List.getElem_cons_zero, List.getElem_cons_succ]); go_simp; (try with_reducible rfl))
    (try simp only [Act.put, List.setIfInBounds_toArray, List.set_cons_zero, List.set_cons_succ, List.getElem_toArray, List.getElem_cons_zero, List.getElem_cons_succ])
    refine wpAnyH_take (i := 5) (oi := _) (v := ?vc5) rfl (by kernel_rfl) (by kernel_rfl) (by kernel_rfl) (fun _ _ _ h => h) (Or.inl ⟨by rfl, ?hyc5⟩) (by assumption) ?restc5
    case hyc5 => (intro w hSw; (try dsimp only at hSw); (try simp only [List.getElem_toArray, List.getElem_cons_zero, List.getElem_cons_succ]); go_simp; (try with_reducible rfl))
    (try simp only [Act.put, List.setIfInBounds_toArray, List.set_cons_zero, List.set_cons_succ, List.getElem_toArray, List.getElem_cons_zero, List.getElem_cons_succ])
    refine wpAnyH_take (i := 6) (oi := _) (v := ?vc6) rfl (by kernel_rfl) (by kernel_rfl) (by kernel_rfl) (fun _ _ _ h => h) (Or.inl ⟨by rfl, ?hyc6⟩) (by assumption) ?restc6
    case hyc6 => (intro w hSw; (try dsimp only at hSw); (try simp only [List.getElem_toArray, List.getElem_cons_zero, List.getElem_cons_succ]); go_simp; (try with_reducible rfl))
    (try simp only [Act.put, List.setIfInBounds_toArray, List.set_cons_zero, List.set_cons_succ, List.getElem_toArray, List.getElem_cons_zero, List.getElem_cons_succ])
    refine wpAnyH_take (i := 7) (oi := _) (v := ?vc7) rfl (by kernel_rfl) (by kernel_rfl) (by kernel_rfl) (fun _ _ _ h => h) (Or.inl ⟨by rfl, ?hyc7⟩) (by assumption) ?restc7
    case hyc7 => (intro w hSw; (try dsimp only at hSw); (try simp only [List.getElem_toArray, List.getElem_cons_zero, List.getElem_cons_succ]); go_simp; (try with_reducible rfl))
    (try simp only [Act.put, List.setIfInBounds_toArray, List.set_cons_zero, List.set_cons_succ, List.getElem_toArray, List.getElem_cons_zero, List.getElem_cons_succ])
    refine wpAnyH_take (i := 8) (oi := _) (v := ?vc8) rfl (by kernel_rfl) (by kernel_rfl) (by kernel_rfl) (fun _ _ _ h => h) (Or.inl ⟨by rfl, ?hyc8⟩) (by assumption) ?restc8
    case hyc8 => (intro w hSw; (try dsimp only at hSw); (try simp only [List.getElem_toArray, List.getElem_cons_zero, List.getElem_cons_succ]); go_simp; (try with_reducible rfl))
    (try simp only [Act.put, List.setIfInBounds_toArray, List.set_cons_zero, List.set_cons_succ, List.getElem_toArray, List.getElem_cons_zero, List.getElem_cons_succ])
    refine wpAnyH_take (i := 10) (oi := _) (v := ?vc10) rfl (by kernel_rfl) (by kernel_rfl) (by kernel_rfl) (fun _ _ _ h => h) (Or.inl ⟨by rfl, ?hyc10⟩) (by assumption) ?restc10
    case hyc10 => (intro w hSw; (try dsimp only at hSw); (try simp only [List.getElem_toArray, List.getElem_cons_zero, List.getElem_cons_succ]); go_simp; (try with_reducible rfl))
    (try simp only [Act.put, List.setIfInBounds_toArray, List.set_cons_zero, List.set_cons_succ, List.getElem_toArray, List.getElem_cons_zero, List.getElem_cons_succ])
    refine wpAnyH_take (i := 13) (oi := _) (v := ?vc13) rfl (by kernel_rfl) (by kernel_rfl) (by kernel_rfl) (fun _ _ _ h => h) (Or.inl ⟨by rfl, ?hyc13⟩) (by assumption) ?restc13
    case hyc13 => (intro w hSw; (try dsimp only at hSw); (try simp only [List.getElem_toArray, List.getElem_cons_zero, List.getElem_cons_succ]); go_simp; (try with_reducible rfl))
    (try simp only [Act.put, List.setIfInBounds_toArray, List.set_cons_zero, List.set_cons_succ, List.getElem_toArray, List.getElem_cons_zero, List.getElem_cons_succ])
    refine wpAnyH_take (i := 14) (oi := _) (v := ?vc14) rfl (by kernel_rfl) (by kernel_rfl) (by kernel_rfl) (fun _ _ _ h => h) (Or.inl ⟨by rfl, ?hyc14⟩) (by assumption) ?restc14
    case hyc14 => (intro w hSw; (try dsimp only at hSw); (try simp only [List.getElem_toArray, List.getElem_cons_zero, List.getElem_cons_succ]); go_simp; (try with_reducible rfl))
    (try simp only [Act.put, List.setIfInBounds_toArray, List.set_cons_zero, List.set_cons_succ, List.getElem_toArray, List.getElem_cons_zero, List.getElem_cons_succ])
    refine wpAnyH_ready (rs := [9]) (by kernel_rfl) (by simp) ?_
    refine AllReadyH.cons (o := _) rfl (fun K hK => ?_) AllReadyH.nil
    (try simp only [List.getElem_toArray, List.getElem_cons_zero, List.getElem_cons_succ])
    go_simp
    refine hK.out _ _ ?_ (fun hHeld => ?_)
    · exact HCQ.out _ (HB5.out.alloc hs5 _)
    clear hK K
    (try simp only [Act.put, List.setIfInBounds_toArray, List.set_cons_zero, List.set_cons_succ, List.getElem_toArray, List.getElem_cons_zero, List.getElem_cons_succ])
    refine wpAnyH_ready (rs := [11]) (by kernel_rfl) (by simp) ?_
    refine AllReadyH.cons (o := _) rfl (fun K hK => ?_) AllReadyH.nil
    (try simp only [List.getElem_toArray, List.getElem_cons_zero, List.getElem_cons_succ])
    refine (if_pos (by rfl)).mpr ?_; refine wp_own_at _ (.tmp 40) (.tmp 41) 24 (by rfl) w5.heap.size 3 i0 (.int .i64 0) 1 8 Try.underlying24 hi0 hz0 hz1 hz2 (by rfl) (by decide) _ 1 [.int .i64 0] (by rfl) (own_newone w5 (.int .i64 0) _ rfl (Nat.le_refl _)) ⟨bb, off, none⟩ m dap (ys.map (Value.int .i64)) (by rfl) (by rw [List.length_map, HBl.out, Nat.mul_one]) (src_cells ((HMW.out.below HB5.out).keep ((Keep.refl _ w5).alloc _))) (one_Ints ys) (by unfold maxLen; omega) (by omega) (by simp) ?_; intro v6 w6 hown6 hk6 hat6; obtain ⟨A6, c6, rfl, -⟩ := own_form hown6; have HB6 : Hid (Below W.heap.size W w6) := Lib.hid (HB5.out.trans (((below_box w5 _).trans (hk6.below (by simp) (fun k hk e => by simp [Value.ownBlock] at e; omega))).mono hs5)); have HO6 := Lib.hid hown6; have HC6 : Hid (1 + m ≤ c6) := Lib.hid (own_cap hown6 (by omega)); clear hown6 hk6 hat6
    refine hK.out _ _ ?_ (fun hHeld => ?_)
    · exact HCQ.out _ HB6.out
    clear hK K
    (try simp only [Act.put, List.setIfInBounds_toArray, List.set_cons_zero, List.set_cons_succ, List.getElem_toArray, List.getElem_cons_zero, List.getElem_cons_succ])
    refine wpAnyH_ready (rs := [12]) (by kernel_rfl) (by simp) ?_
    refine AllReadyH.cons (o := _) rfl (fun K hK => ?_) AllReadyH.nil
    (try simp only [List.getElem_toArray, List.getElem_cons_zero, List.getElem_cons_succ])
    go_simp
    refine (HS0.out _ _ _ (Buf.of_own HO6.out).src (HC6.out)).mono ?_; rintro e w7 ⟨rfl, hb7⟩; have HB7 : Hid (Below W.heap.size W w7) := Lib.hid (HB6.out.trans (hb7.mono HB6.out.size)); clear hb7
    refine hK.out _ _ ?_ (fun hHeld => ?_)
    · exact HCQ.out _ HB7.out
    clear hK K
    (try simp only [Act.put, List.setIfInBounds_toArray, List.set_cons_zero, List.set_cons_succ, List.getElem_toArray, List.getElem_cons_zero, List.getElem_cons_succ])
    refine wpAnyH_ready (rs := [15]) (by kernel_rfl) (by simp) ?_
    refine AllReadyH.cons (o := _) rfl (fun K hK => ?_) AllReadyH.nil
    (try simp only [List.getElem_toArray, List.getElem_cons_zero, List.getElem_cons_succ])
    go_simp
    refine (HSZ.out _ HB7.out).mono ?_; rintro e w8 ⟨rfl, hb8⟩; have HB8 : Hid (Below W.heap.size W w8) := Lib.hid (HB7.out.trans (hb8.mono HB7.out.size)); clear hb8
    refine hK.out _ _ ?_ (fun hHeld => ?_)
    · exact HCQ.out _ HB8.out
    clear hK K
    (try simp only [Act.put, List.setIfInBounds_toArray, List.set_cons_zero, List.set_cons_succ, List.getElem_toArray, List.getElem_cons_zero, List.getElem_cons_succ])
    refine wpAnyH_take (i := 16) (oi := _) (v := ?vc16) rfl (by kernel_rfl) (by kernel_rfl) (by kernel_rfl) (fun _ _ _ h => h) (Or.inl ⟨by rfl, ?hyc16⟩) (by assumption) ?restc16
    case hyc16 => (intro w hSw; (try dsimp only at hSw); (try simp only [List.getElem_toArray, List.getElem_cons_zero, List.getElem_cons_succ]); go_simp; (try with_reducible rfl))
    (try simp only [Act.put, List.setIfInBounds_toArray, List.set_cons_zero, List.set_cons_succ, List.getElem_toArray, List.getElem_cons_zero, List.getElem_cons_succ])
    refine wpAnyH_take (i := 17) (oi := _) (v := ?vc17) rfl (by kernel_rfl) (by kernel_rfl) (by kernel_rfl) (fun _ _ _ h => h) (Or.inl ⟨by rfl, ?hyc17⟩) (by assumption) ?restc17
    case hyc17 => (intro w hSw; (try dsimp only at hSw); (try simp only [List.getElem_toArray, List.getElem_cons_zero, List.getElem_cons_succ]); go_simp; (try with_reducible rfl))
    (try simp only [Act.put, List.setIfInBounds_toArray, List.set_cons_zero, List.set_cons_succ, List.getElem_toArray, List.getElem_cons_zero, List.getElem_cons_succ])
    refine wpAnyH_take (i := 18) (oi := _) (v := ?vc18) rfl (by kernel_rfl) (by kernel_rfl) (by kernel_rfl) (fun _ _ _ h => h) (Or.inl ⟨by rfl, ?hyc18⟩) (by assumption) ?restc18
    case hyc18 => (intro w hSw; (try dsimp only at hSw); (try simp only [List.getElem_toArray, List.getElem_cons_zero, List.getElem_cons_succ]); go_simp; (try with_reducible rfl))
    (try simp only [Act.put, List.setIfInBounds_toArray, List.set_cons_zero, List.set_cons_succ, List.getElem_toArray, List.getElem_cons_zero, List.getElem_cons_succ])
    refine wpAnyH_done (by kernel_rfl) ?_ _
    refine NoPanic.normal ?_
    clear HSZ HS0 HV HCQ HB6 HB7 HO6 HC6 hHeld HB5 hs5
    have HX8 : Hid (w8.heap[p]? = some (attrO ⟨f, g, b, u, i⟩)) := Lib.hid ((HB8.out.block p hpW).trans HPW.out)
    have d0 : w8.cell? ⟨p, 0, none⟩ = some (.int .i64 f) := cell_at HX8.out 0
    have d1 : w8.cell? ⟨p, 1, none⟩ = some (.int .i64 g) := cell_at HX8.out 1
    have d2 : w8.cell? ⟨p, 2, none⟩ = some (.bool b) := cell_at HX8.out 2
    have d3 : w8.cell? ⟨p, 3, none⟩ = some (.bool u) := cell_at HX8.out 3
    have d4 : w8.cell? ⟨p, 4, none⟩ = some (.bool i) := cell_at HX8.out 4
    have HBw8 : Hid (Below w.heap.size w w8) := Lib.hid (HBW.out.trans (HB8.out.mono HBW.out.size))
    have HM8 := Lib.hid (HMW.out.below HB8.out)
    obtain ⟨r, hr⟩ : ∃ r, r = w8.heap.size := ⟨_, rfl⟩
    have hpr : p < r := by rw [hr]; exact lt_heap HX8.out
    have hbr : bb < r := by rw [hr]; exact Nat.lt_of_lt_of_le hbb HB8.out.size
    have hwr : w.heap.size ≤ r := by rw [hr]; exact HBw8.out.size
    have HR := Lib.hid hr
    clear hr hbb
    go_wp2_with fail
    rw [← HR.out]
    go_loopw [9] (fun iv wr => ∃ (k : Nat) (y : At), iv = .int .i64 k ∧ k ≤ m ∧ Hid (wr.heap[r]? = some (attrO y)) ∧ Hid (wr.heap[p]? = some (attrO ⟨f, g, b, u, i⟩)) ∧ Hid (Below w.heap.size w wr) ∧ Hid (Below r w8 wr) ∧ Hid ((ys.take k).foldl (fun a n => sgrL a [n]) ⟨f, g, b, u, i⟩ = y) ∧ Hid (∀ n ∈ ys.take k, n ≠ 38 ∧ n ≠ 48)) (fun iv _ => m - (intOf iv).toNat)
    case atStart =>
      refine ⟨0, ⟨f, g, b, u, i⟩, rfl, by omega, ?_, ?_, ?_, ?_, rfl, fun n hn => by simp at hn⟩
      · show _ = _
        rw [HR.out]; exact heap_alloc_new w8 _
      · exact heap_alloc HX8.out _
      · exact HBw8.out.alloc HBw8.out.size _
      · show Below _ _ _
        rw [HR.out]; exact below_box ..
    case round =>
      clear d0 d1 d2 d3 d4
      obtain ⟨k, ⟨fy, gy, by', uy, iy⟩, rfl, hk, HY, HX, HBr, HB8r, HF, HN⟩ := hrel
      have d0 : wr.cell? ⟨p, 0, none⟩ = some (.int .i64 f) := cell_at HX.out 0
      have d1 : wr.cell? ⟨p, 1, none⟩ = some (.int .i64 g) := cell_at HX.out 1
      have d2 : wr.cell? ⟨p, 2, none⟩ = some (.bool b) := cell_at HX.out 2
      have d3 : wr.cell? ⟨p, 3, none⟩ = some (.bool u) := cell_at HX.out 3
      have d4 : wr.cell? ⟨p, 4, none⟩ = some (.bool i) := cell_at HX.out 4
      have c0 : wr.cell? ⟨r, 0, none⟩ = some (.int .i64 fy) := cell_at HY.out 0
      have c1 : wr.cell? ⟨r, 1, none⟩ = some (.int .i64 gy) := cell_at HY.out 1
      have c2 : wr.cell? ⟨r, 2, none⟩ = some (.bool by') := cell_at HY.out 2
      have c3 : wr.cell? ⟨r, 3, none⟩ = some (.bool uy) := cell_at HY.out 3
      have c4 : wr.cell? ⟨r, 4, none⟩ = some (.bool iy) := cell_at HY.out 4
      have e0 := free_at HY.out 0
      have e1 := free_at HY.out 1
      have e2 := free_at HY.out 2
      have e3 := free_at HY.out 3
      have e4 := free_at HY.out 4
      have HMr : Hid (Src wr (some ⟨bb, off, none⟩) m (ys.map (Value.int .i64))) := Lib.hid (HM8.out.of_keep ⟨HB8r.out.os, HB8r.out.tape, HB8r.out.output, HB8r.out.size, fun j hj hn => HB8r.out.block j (by simpa using hn)⟩ (S := fun j => ¬ j < r) (by intro j hj; simp [blk] at hj; omega))
      by_cases hlt : k < m
      · obtain ⟨x, hx⟩ : ∃ x, ys[k]? = some x := ⟨ys[k]'(by rw [HBl.out]; exact hlt), List.getElem?_eq_getElem _⟩
        have hcx : wr.cell? ⟨bb, off + k, none⟩ = some (.int .i64 x) := by
          obtain ⟨b', o', e, _, hc⟩ := HMr.out.2 hm4
          injection e with e
          injection e with e1 e2
          subst e1 e2
          exact hc k _ (by rw [List.getElem?_map, hx]; rfl)
        have hki : ((k : Int) < (m : Int)) := by omega
        have hk0 : (0 : Int) ≤ (k : Int) := by omega
        have HT := Lib.hid (take_next hx)
        have hxb := HBb.out x (List.mem_of_getElem? hx)
        by_cases h38 : x = 38
        · subst h38
          go_wp2_with fail
          go_ret
          exact ⟨rfl, HBr.out⟩
        by_cases h48 : x = 48
        · subst h48
          go_wp2_with fail
          go_ret
          exact ⟨rfl, HBr.out⟩
        have t38 : (x == 38) = false := by simpa using h38
        have t48 : (x == 48) = false := by simpa using h48
        obtain ⟨⟨f6, g6, b6, u6, i6⟩, hs6⟩ : ∃ a2, sgrL ⟨fy, gy, by', uy, iy⟩ [x] = a2 := ⟨_, rfl⟩
        have HSX : Hid (∀ W' gg, Src W' (some ⟨gg, 0, none⟩) 1 [.int .i64 x] → Calls Try.prog 16 #[.agg #[.int .i64 fy, .int .i64 gy, .bool by', .bool uy, .bool iy], .slice (some ⟨gg, 0, none⟩) 1 1] W' fun e w' => e = .returned (.agg #[.int .i64 f6, .int .i64 g6, .bool b6, .bool u6, .bool i6]) ∧ Below W'.heap.size W' w') :=
          Lib.hid (fun W' gg hsx => by have := cell_sgr ⟨fy, gy, by', uy, iy⟩ (some ⟨gg, 0, none⟩) 1 1 [x] W' hsx (by omega) (by omega) (by intro z hz; simp at hz; subst hz; exact hxb); rw [hs6] at this; exact this)
        have HF2 : Hid ((ys.take (k + 1)).foldl (fun a n => sgrL a [n]) ⟨f, g, b, u, i⟩ = ⟨f6, g6, b6, u6, i6⟩) := Lib.hid (by rw [HT.out, List.foldl_append, HF.out]; exact hs6)
        have HN2 : Hid (∀ n ∈ ys.take (k + 1), n ≠ 38 ∧ n ≠ 48) := Lib.hid (by rw [HT.out]; intro n hn; rcases List.mem_append.1 hn with hn | hn; exact HN.out n hn; simp at hn; subst hn; exact ⟨h38, h48⟩)
        have hrl : r < wr.heap.size := lt_heap HY.out
        clear hs6 hx h38 h48 d0 d1 d2 d3 d4
        go_upto_region 12 with fail
        go_region_law (first | (go_simp; go_at_call 16; refine (HSX.out _ _ (by first | exact src_one (w := wr) _ _ _ rfl | exact src_one (w := wr.drew) _ _ _ rfl)).mono ?_; rintro e w9 ⟨rfl, hbe⟩; have hk9 : Below wr.heap.size wr w9 := (below_box wr _).trans ((⟨hbe.os, hbe.tape, hbe.output, hbe.size, hbe.block⟩ : Below (wr.alloc (.cells #[.int .i64 x] 3)).heap.size (wr.alloc (.cells #[.int .i64 x] 3)) w9).mono (by simp)); have HK9 := Lib.hid hk9; have HY9 := Lib.hid ((hk9.block r hrl).trans HY.out); have c0 := cell_at HY9.out 0; have c1 := cell_at HY9.out 1; have c2 := cell_at HY9.out 2; have c3 := cell_at HY9.out 3; have c4 := cell_at HY9.out 4; have e0 := free_at HY9.out 0; have e1 := free_at HY9.out 1; have e2 := free_at HY9.out 2; have e3 := free_at HY9.out 3; have e4 := free_at HY9.out 4; clear hbe hk9; simp only [List.getElem?_toArray, List.getElem?_cons_zero, List.getElem?_cons_succ] at c0 c1 c2 c3 c4) | fail)
        all_goals
          have HK : Hid (Keep (· = r) wr (((((w9.setCell ⟨r, 0, none⟩ (.int .i64 f6)).setCell ⟨r, 1, none⟩ (.int .i64 g6)).setCell ⟨r, 2, none⟩ (.bool b6)).setCell ⟨r, 3, none⟩ (.bool u6)).setCell ⟨r, 4, none⟩ (.bool i6))) := Lib.hid ((((((Keep.of_below (· = r) HK9.out).own 0 _).own 1 _).own 2 _).own 3 _).own 4 _)
          have HY2 : Hid ((((((w9.setCell ⟨r, 0, none⟩ (.int .i64 f6)).setCell ⟨r, 1, none⟩ (.int .i64 g6)).setCell ⟨r, 2, none⟩ (.bool b6)).setCell ⟨r, 3, none⟩ (.bool u6)).setCell ⟨r, 4, none⟩ (.bool i6)).heap[r]? = some (attrO ⟨f6, g6, b6, u6, i6⟩)) := Lib.hid (heap_set (heap_set (heap_set (heap_set (heap_set HY9.out 0 _) 1 _) 2 _) 3 _) 4 _)
          go_wp2_with fail
          exact ⟨⟨k + 1, ⟨f6, g6, b6, u6, i6⟩, by go_num, by omega, HY2, HK.out.heap HX.out (show p ≠ r by omega), HBr.out.trans (HK.out.below HBr.out.size fun j hj e => by omega), HB8r.out.trans (HK.out.below (by omega) fun j hj e => by omega), HF2, HN2⟩, by simp [intOf]; omega⟩
      · have hkm : k = m := by omega
        obtain ⟨⟨f7, g7, b7, u7, i7⟩, hs7⟩ : ∃ a2, sgrL ⟨f, g, b, u, i⟩ ys = a2 := ⟨_, rfl⟩
        have hys : ys ≠ [] := fun e => by have := HBl.out; rw [e] at this; simp at this; omega
        have htk : ys.take k = ys := List.take_of_length_le (by rw [HBl.out]; omega)
        have hE : (⟨f7, g7, b7, u7, i7⟩ : At) = ⟨fy, gy, by', uy, iy⟩ := by
          have hf := HF.out
          have hn := HN.out
          rw [htk] at hf hn
          rw [← hs7, ← hf, sgrL, if_neg hys, sgrOn_all _ _ hn]
        injection hE with h70 h71 h72 h73 h74
        subst h70 h71 h72 h73 h74
        have HSY : Hid (∀ W', Below wr.heap.size wr W' → Calls Try.prog 16 #[.agg #[.int .i64 f, .int .i64 g, .bool b, .bool u, .bool i], .slice (some ⟨bb, off, none⟩) m dap] W' fun e w' => e = .returned (.agg #[.int .i64 f7, .int .i64 g7, .bool b7, .bool u7, .bool i7]) ∧ Below W'.heap.size W' w') :=
          Lib.hid (fun W' hb => by have := cell_sgr ⟨f, g, b, u, i⟩ _ m dap ys W' (HMr.out.below hb) kc (by omega) HBb.out; rw [hs7] at this; exact this)
        have hki : ¬ ((k : Int) < (m : Int)) := by omega
        have hki2 : ¬ k < m := by omega
        clear hs7 hys htk hkm
        go_wp2_with fail
        refine wp_region_noPanic ?_
        refine wp_region_held_drew (S := fun w' => w'.cell? ⟨p, 0, none⟩ = some (.int .i64 f) ∧ w'.cell? ⟨p, 1, none⟩ = some (.int .i64 g) ∧ w'.cell? ⟨p, 2, none⟩ = some (.bool b) ∧ w'.cell? ⟨p, 3, none⟩ = some (.bool u) ∧ w'.cell? ⟨p, 4, none⟩ = some (.bool i) ∧ w'.cell? ⟨r, 0, none⟩ = some (.int .i64 f7) ∧ w'.cell? ⟨r, 1, none⟩ = some (.int .i64 g7) ∧ w'.cell? ⟨r, 2, none⟩ = some (.bool b7) ∧ w'.cell? ⟨r, 3, none⟩ = some (.bool u7) ∧ w'.cell? ⟨r, 4, none⟩ = some (.bool i7)) (by kernel_rfl) ⟨d0, d1, d2, d3, d4, c0, c1, c2, c3, c4⟩ (fun hHeld => ?_)
        refine wpAnyH_take (i := 0) (oi := _) (v := ?vd0) rfl (by kernel_rfl) (by kernel_rfl) (by kernel_rfl) (fun _ _ _ h => h) (Or.inl ⟨by rfl, ?hyd0⟩) (by assumption) ?restd0
        case hyd0 => (intro w hSw; (try dsimp only at hSw); (try simp only [List.getElem_toArray, List.getElem_cons_zero, List.getElem_cons_succ]); go_simp; (try with_reducible rfl))
        (try simp only [Act.put, List.setIfInBounds_toArray, List.set_cons_zero, List.set_cons_succ, List.getElem_toArray, List.getElem_cons_zero, List.getElem_cons_succ])
        refine wpAnyH_take (i := 1) (oi := _) (v := ?vd1) rfl (by kernel_rfl) (by kernel_rfl) (by kernel_rfl) (fun _ _ _ h => h) (Or.inl ⟨by rfl, ?hyd1⟩) (by assumption) ?restd1
        case hyd1 => (intro w hSw; (try dsimp only at hSw); (try simp only [List.getElem_toArray, List.getElem_cons_zero, List.getElem_cons_succ]); go_simp; (try with_reducible rfl))
        (try simp only [Act.put, List.setIfInBounds_toArray, List.set_cons_zero, List.set_cons_succ, List.getElem_toArray, List.getElem_cons_zero, List.getElem_cons_succ])
        refine wpAnyH_take (i := 2) (oi := _) (v := ?vd2) rfl (by kernel_rfl) (by kernel_rfl) (by kernel_rfl) (fun _ _ _ h => h) (Or.inl ⟨by rfl, ?hyd2⟩) (by assumption) ?restd2
        case hyd2 => (intro w hSw; (try dsimp only at hSw); (try simp only [List.getElem_toArray, List.getElem_cons_zero, List.getElem_cons_succ]); go_simp; (try with_reducible rfl))
        (try simp only [Act.put, List.setIfInBounds_toArray, List.set_cons_zero, List.set_cons_succ, List.getElem_toArray, List.getElem_cons_zero, List.getElem_cons_succ])
        refine wpAnyH_take (i := 3) (oi := _) (v := ?vd3) rfl (by kernel_rfl) (by kernel_rfl) (by kernel_rfl) (fun _ _ _ h => h) (Or.inl ⟨by rfl, ?hyd3⟩) (by assumption) ?restd3
        case hyd3 => (intro w hSw; (try dsimp only at hSw); (try simp only [List.getElem_toArray, List.getElem_cons_zero, List.getElem_cons_succ]); go_simp; (try with_reducible rfl))
        (try simp only [Act.put, List.setIfInBounds_toArray, List.set_cons_zero, List.set_cons_succ, List.getElem_toArray, List.getElem_cons_zero, List.getElem_cons_succ])
        refine wpAnyH_take (i := 4) (oi := _) (v := ?vd4) rfl (by kernel_rfl) (by kernel_rfl) (by kernel_rfl) (fun _ _ _ h => h) (Or.inl ⟨by rfl, ?hyd4⟩) (by assumption) ?restd4
        case hyd4 => (intro w hSw; (try dsimp only at hSw); (try simp only [List.getElem_toArray, List.getElem_cons_zero, List.getElem_cons_succ]); go_simp; (try with_reducible rfl))
        (try simp only [Act.put, List.setIfInBounds_toArray, List.set_cons_zero, List.set_cons_succ, List.getElem_toArray, List.getElem_cons_zero, List.getElem_cons_succ])
        refine wpAnyH_take (i := 5) (oi := _) (v := ?vd5) rfl (by kernel_rfl) (by kernel_rfl) (by kernel_rfl) (fun _ _ _ h => h) (Or.inl ⟨by rfl, ?hyd5⟩) (by assumption) ?restd5
        case hyd5 => (intro w hSw; (try dsimp only at hSw); (try simp only [List.getElem_toArray, List.getElem_cons_zero, List.getElem_cons_succ]); go_simp; (try with_reducible rfl))
        (try simp only [Act.put, List.setIfInBounds_toArray, List.set_cons_zero, List.set_cons_succ, List.getElem_toArray, List.getElem_cons_zero, List.getElem_cons_succ])
        refine wpAnyH_take (i := 6) (oi := _) (v := ?vd6) rfl (by kernel_rfl) (by kernel_rfl) (by kernel_rfl) (fun _ _ _ h => h) (Or.inl ⟨by rfl, ?hyd6⟩) (by assumption) ?restd6
        case hyd6 => (intro w hSw; (try dsimp only at hSw); (try simp only [List.getElem_toArray, List.getElem_cons_zero, List.getElem_cons_succ]); go_simp; (try with_reducible rfl))
        (try simp only [Act.put, List.setIfInBounds_toArray, List.set_cons_zero, List.set_cons_succ, List.getElem_toArray, List.getElem_cons_zero, List.getElem_cons_succ])
        refine wpAnyH_ready (rs := [7]) (by kernel_rfl) (by simp) ?_
        refine AllReadyH.cons (o := _) rfl (fun K hK => ?_) AllReadyH.nil
        (try simp only [List.getElem_toArray, List.getElem_cons_zero, List.getElem_cons_succ])
        go_simp
        refine (HSY.out _ ((Below.refl _ wr).drew)).mono ?_; rintro e w9 ⟨rfl, hb9⟩; have HB9 : Hid (Below wr.heap.size wr w9) := Lib.hid ⟨hb9.os, hb9.tape, hb9.output, hb9.size, hb9.block⟩; clear hb9; have HX9 := Lib.hid ((HB9.out.block p (lt_heap HX.out)).trans HX.out); have HY9 := Lib.hid ((HB9.out.block r (lt_heap HY.out)).trans HY.out)
        refine hK.out _ _ ?_ (fun hHeld => ?_)
        · exact ⟨cell_at HX9.out 0, cell_at HX9.out 1, cell_at HX9.out 2, cell_at HX9.out 3, cell_at HX9.out 4, cell_at HY9.out 0, cell_at HY9.out 1, cell_at HY9.out 2, cell_at HY9.out 3, cell_at HY9.out 4⟩
        clear hK K
        (try simp only [Act.put, List.setIfInBounds_toArray, List.set_cons_zero, List.set_cons_succ, List.getElem_toArray, List.getElem_cons_zero, List.getElem_cons_succ])
        refine wpAnyH_take (i := 8) (oi := _) (v := ?vd8) rfl (by kernel_rfl) (by kernel_rfl) (by kernel_rfl) (fun _ _ _ h => h) (Or.inl ⟨by rfl, ?hyd8⟩) (by assumption) ?restd8
        case hyd8 => (intro w hSw; (try dsimp only at hSw); (try simp only [List.getElem_toArray, List.getElem_cons_zero, List.getElem_cons_succ]); go_simp; (try with_reducible rfl))
        (try simp only [Act.put, List.setIfInBounds_toArray, List.set_cons_zero, List.set_cons_succ, List.getElem_toArray, List.getElem_cons_zero, List.getElem_cons_succ])
        refine wpAnyH_take (i := 9) (oi := _) (v := ?vd9) rfl (by kernel_rfl) (by kernel_rfl) (by kernel_rfl) (fun _ _ _ h => h) (Or.inl ⟨by rfl, ?hyd9⟩) (by assumption) ?restd9
        case hyd9 => (intro w hSw; (try dsimp only at hSw); (try simp only [List.getElem_toArray, List.getElem_cons_zero, List.getElem_cons_succ]); go_simp; (try with_reducible rfl))
        (try simp only [Act.put, List.setIfInBounds_toArray, List.set_cons_zero, List.set_cons_succ, List.getElem_toArray, List.getElem_cons_zero, List.getElem_cons_succ])
        refine wpAnyH_take (i := 10) (oi := _) (v := ?vd10) rfl (by kernel_rfl) (by kernel_rfl) (by kernel_rfl) (fun _ _ _ h => h) (Or.inl ⟨by rfl, ?hyd10⟩) (by assumption) ?restd10
        case hyd10 => (intro w hSw; (try dsimp only at hSw); (try simp only [List.getElem_toArray, List.getElem_cons_zero, List.getElem_cons_succ]); go_simp; (try with_reducible rfl))
        (try simp only [Act.put, List.setIfInBounds_toArray, List.set_cons_zero, List.set_cons_succ, List.getElem_toArray, List.getElem_cons_zero, List.getElem_cons_succ])
        refine wpAnyH_done (by kernel_rfl) ?_ _
        refine NoPanic.normal ?_
        have HBe : Hid (Below w.heap.size w w9) := Lib.hid (HBr.out.trans (HB9.out.mono HBr.out.size))
        clear hHeld
        go_wp2_with fail
        go_ret
        exact ⟨rfl, HBe.out⟩

end Go.Proofs.Ytadlmbheppnjfaa
