/- grid: the document's Up. By program (rgn/XRGridUp.py). Own work. -/
import Derived.Test.YtbjdcbnmpmcdiaaRGrid
import Derived.Deep.Cut
namespace Go.Proofs.Ytbjdcbnmpmcdiaa
set_option linter.unusedVariables false
set_option linter.unusedSimpArgs false
open Go.RowKit

set_option maxRecDepth 100000 in
set_option maxHeartbeats 3200000 in
theorem ref_up_go (w : World) (r lb lc W H : Nat) (R : Nat → Nat) (F : Nat → Nat → CellM) (t b n : Int) (T B : Nat) (c : CellM) (h : RGrid w r lb lc W H R F) (hT : max t 0 = (T : Int)) (hB : min b (H : Int) = (B : Int)) (hTB : T < B) :
    Calls Try.prog 18 #[.pointer (some ⟨r, 0, none⟩), .int .i64 t, .int .i64 b, .int .i64 n, c.v] w fun e w' => e = .returned (.tuple #[]) ∧ ∃ R', Step (rown r lb H R) w (rown r lb H R') w' ∧ RGrid w' r lb lc W H R' (upG T B (min n.toNat (B - T)) c F) := by
  have HG := Lib.hid h
  have hhh := h.hh
  have hww := h.hw
  have hbl : (B : Int) ≤ 20 := by omega
  have hBH : B ≤ H := by omega
  have hlb := h.hl
  have hw0 : 0 < W := by omega
  have hw40 : W ≤ 40 := by omega
  obtain ⟨M, hM⟩ : ∃ M, M = min n.toNat (B - T) := ⟨_, rfl⟩
  have HM := Lib.hid hM
  rw [← hM]
  obtain ⟨v, hv⟩ : ∃ v, B = v + 1 := ⟨B - 1, by omega⟩
  have hvw : IntKind.i64.wrap ((B : Int) - 1) = (v : Int) := by rw [hv]; rw [IntWalk.i64_in _ (by omega)]; omega
  have HV := Lib.hid hv
  obtain ⟨D, hD⟩ : ∃ D, D = B - T := ⟨_, rfl⟩
  have hDw : IntKind.i64.wrap ((B : Int) - (T : Int)) = (D : Int) := by rw [IntWalk.i64_in _ (by omega)]; omega
  have HD := Lib.hid hD
  have hge : ¬ ((T : Int) ≥ (B : Int)) := by omega
  obtain ⟨w1, hw1⟩ : ∃ w1, w1 = w.alloc (.cells (vcells c) 42) := ⟨_, rfl⟩
  have HK1 : Hid (Keep (fun _ => False) w w1) := Lib.hid (by rw [hw1]; exact (Keep.refl _ w).alloc _)
  have HG1 : Hid (RGrid w1.drew r lb lc W H R F) := Lib.hid ((h.quiet HK1.out).quiet ((Keep.refl _ w1).drew))
  have c1 := (h.quiet HK1.out).ch.1
  obtain ⟨q, hq⟩ : ∃ q, q = w.heap.size := ⟨_, rfl⟩
  have HQ1 : Hid (w1.heap[q]? = some (.cells (vcells c) 42 (0, 0))) := Lib.hid (by rw [hw1, hq]; exact heap_alloc_new w _)
  have hql : q < w1.heap.size := by rw [hw1, hq]; simp
  have HQR : Hid (∀ b, rown r lb H R b → b < q) := Lib.hid (fun b hb => by rw [hq]; exact h.lt b hb)
  obtain ⟨xr, ⟨xf, xg, xb, xu, xi⟩⟩ := c
  have HW1 : Hid (w.heap.size ≤ w1.heap.size) := Lib.hid HK1.out.size
  unfold vcells at hw1
  dsimp only at hw1
  simp only [CellM.v]
  clear h hv hD hM hhh hww hBH
  go_enter Try.func18, Try.ntmps18
  go_wp2_with fail
  rw [← hw1]
  rw [← hq]
  clear hw1 hq
  refine wp_region_noPanic ?_
  refine wp_region_held_drew (S := fun V => V.cell? ⟨r, 1, none⟩ = some (.int .i64 H)) (by kernel_rfl) c1 (fun hHeld => ?_)
  refine wpAnyH_take (i := 0) (oi := _) (v := ?vz0) rfl (by kernel_rfl) (by kernel_rfl) (by kernel_rfl) (fun _ _ _ h => h) (Or.inl ⟨by rfl, ?hyz0⟩) (by assumption) ?restz0
  case hyz0 => (intro w hSw; (try dsimp only at hSw); (try simp only [List.getElem_toArray, List.getElem_cons_zero, List.getElem_cons_succ]); go_simp; (try with_reducible rfl))
  (try simp only [Act.put, List.setIfInBounds_toArray, List.set_cons_zero, List.set_cons_succ, List.getElem_toArray, List.getElem_cons_zero, List.getElem_cons_succ])
  refine wpAnyH_take (i := 1) (oi := _) (v := ?vz1) rfl (by kernel_rfl) (by kernel_rfl) (by kernel_rfl) (fun _ _ _ h => h) (Or.inl ⟨by rfl, ?hyz1⟩) (by assumption) ?restz1
  case hyz1 => (intro w hSw; (try dsimp only at hSw); (try simp only [List.getElem_toArray, List.getElem_cons_zero, List.getElem_cons_succ]); go_simp; (try with_reducible rfl))
  (try simp only [Act.put, List.setIfInBounds_toArray, List.set_cons_zero, List.set_cons_succ, List.getElem_toArray, List.getElem_cons_zero, List.getElem_cons_succ])
  refine wpAnyH_take (i := 2) (oi := _) (v := ?vz2) rfl (by kernel_rfl) (by kernel_rfl) (by kernel_rfl) (fun _ _ _ h => h) (Or.inl ⟨by rfl, ?hyz2⟩) (by assumption) ?restz2
  case hyz2 => (intro w hSw; (try dsimp only at hSw); (try simp only [List.getElem_toArray, List.getElem_cons_zero, List.getElem_cons_succ]); go_simp; (try with_reducible rfl))
  (try simp only [Act.put, List.setIfInBounds_toArray, List.set_cons_zero, List.set_cons_succ, List.getElem_toArray, List.getElem_cons_zero, List.getElem_cons_succ])
  refine wpAnyH_take (i := 3) (oi := _) (v := ?vz3) rfl (by kernel_rfl) (by kernel_rfl) (by kernel_rfl) (fun _ _ _ h => h) (Or.inl ⟨by rfl, ?hyz3⟩) (by assumption) ?restz3
  case hyz3 => (intro w hSw; (try dsimp only at hSw); (try simp only [List.getElem_toArray, List.getElem_cons_zero, List.getElem_cons_succ]); go_simp; (try with_reducible rfl))
  (try simp only [Act.put, List.setIfInBounds_toArray, List.set_cons_zero, List.set_cons_succ, List.getElem_toArray, List.getElem_cons_zero, List.getElem_cons_succ])
  refine wpAnyH_take (i := 4) (oi := _) (v := ?vz4) rfl (by kernel_rfl) (by kernel_rfl) (by kernel_rfl) (fun _ _ _ h => h) (Or.inl ⟨by rfl, ?hyz4⟩) (by assumption) ?restz4
  case hyz4 => (intro w hSw; (try dsimp only at hSw); (try simp only [List.getElem_toArray, List.getElem_cons_zero, List.getElem_cons_succ]); go_simp; (try with_reducible rfl))
  (try simp only [Act.put, List.setIfInBounds_toArray, List.set_cons_zero, List.set_cons_succ, List.getElem_toArray, List.getElem_cons_zero, List.getElem_cons_succ])
  refine wpAnyH_take (i := 5) (oi := _) (v := ?vz5) rfl (by kernel_rfl) (by kernel_rfl) (by kernel_rfl) (fun _ _ _ h => h) (Or.inl ⟨by rfl, ?hyz5⟩) (by assumption) ?restz5
  case hyz5 => (intro w hSw; (try dsimp only at hSw); (try simp only [List.getElem_toArray, List.getElem_cons_zero, List.getElem_cons_succ]); go_simp; (try with_reducible rfl))
  (try simp only [Act.put, List.setIfInBounds_toArray, List.set_cons_zero, List.set_cons_succ, List.getElem_toArray, List.getElem_cons_zero, List.getElem_cons_succ])
  refine wpAnyH_take (i := 6) (oi := _) (v := ?vz6) rfl (by kernel_rfl) (by kernel_rfl) (by kernel_rfl) (fun _ _ _ h => h) (Or.inl ⟨by rfl, ?hyz6⟩) (by assumption) ?restz6
  case hyz6 => (intro w hSw; (try dsimp only at hSw); (try simp only [List.getElem_toArray, List.getElem_cons_zero, List.getElem_cons_succ]); go_simp; (try with_reducible rfl))
  (try simp only [Act.put, List.setIfInBounds_toArray, List.set_cons_zero, List.set_cons_succ, List.getElem_toArray, List.getElem_cons_zero, List.getElem_cons_succ])
  refine wpAnyH_take (i := 7) (oi := _) (v := ?vz7) rfl (by kernel_rfl) (by kernel_rfl) (by kernel_rfl) (fun _ _ _ h => h) (Or.inl ⟨by rfl, ?hyz7⟩) (by assumption) ?restz7
  case hyz7 => (intro w hSw; (try dsimp only at hSw); (try simp only [List.getElem_toArray, List.getElem_cons_zero, List.getElem_cons_succ]); go_simp; (try with_reducible rfl))
  (try simp only [Act.put, List.setIfInBounds_toArray, List.set_cons_zero, List.set_cons_succ, List.getElem_toArray, List.getElem_cons_zero, List.getElem_cons_succ])
  refine wpAnyH_take (i := 8) (oi := _) (v := ?vz8) rfl (by kernel_rfl) (by kernel_rfl) (by kernel_rfl) (fun _ _ _ h => h) (Or.inl ⟨by rfl, ?hyz8⟩) (by assumption) ?restz8
  case hyz8 => (intro w hSw; (try dsimp only at hSw); (try simp only [List.getElem_toArray, List.getElem_cons_zero, List.getElem_cons_succ]); go_simp; (try with_reducible rfl))
  (try simp only [Act.put, List.setIfInBounds_toArray, List.set_cons_zero, List.set_cons_succ, List.getElem_toArray, List.getElem_cons_zero, List.getElem_cons_succ])
  refine wpAnyH_take (i := 9) (oi := _) (v := ?vz9) rfl (by kernel_rfl) (by kernel_rfl) (by kernel_rfl) (fun _ _ _ h => h) (Or.inl ⟨by rfl, ?hyz9⟩) (by assumption) ?restz9
  case hyz9 => (intro w hSw; (try dsimp only at hSw); (try simp only [List.getElem_toArray, List.getElem_cons_zero, List.getElem_cons_succ]); go_simp; (try with_reducible rfl))
  (try simp only [Act.put, List.setIfInBounds_toArray, List.set_cons_zero, List.set_cons_succ, List.getElem_toArray, List.getElem_cons_zero, List.getElem_cons_succ])
  refine wpAnyH_done (by kernel_rfl) ?_ _
  refine NoPanic.normal ?_
  go_wp2_with fail
  (try simp only [show ¬ (B ≤ T) from by omega, decide_false])
  go_loopw [10, 11] (fun i _ wr => ∃ (k : Nat) (R' : Nat → Nat), i = .int .i64 k ∧ k ≤ M ∧ Hid (RGrid wr r lb lc W H R' (upG T B k ⟨xr, ⟨xf, xg, xb, xu, xi⟩⟩ F)) ∧ Hid (Step (rown r lb H R) w (rown r lb H R') wr) ∧ Hid (wr.heap[q]? = some (.cells #[.int .i32 xr, .int .i64 xf, .int .i64 xg, .bool xb, .bool xu, .bool xi] 42 (0, 0))) ∧ Hid (∀ b, rown r lb H R' b → b ≠ q)) (fun i _ _ => M - (intOf i).toNat)
  case atStart => exact ⟨0, R, rfl, Nat.zero_le _, Lib.hid (HG1.out.congr (fun i j hi hj => by unfold upG; simp <;> omega)), Lib.hid (Step.of_keep (HK1.out.trans ((Keep.refl (fun _ => False) w1).drew) (fun _ _ e => e)) (fun _ e => e.elim)), HQ1, Lib.hid (fun b hb => by have := HQR.out b hb; omega)⟩
  case round =>
    obtain ⟨k, R', rfl, hk, HGk, HSk, HQk, HQn⟩ := hrel
    have hMe := HM.out
    have hDe := HD.out
    by_cases hkm : k < M
    · have k1 : (k : Int) < n := by omega
      have k2 : (k : Int) < (D : Int) := by omega
      have HKM := Lib.hid hkm
      have hk20 : (k : Int) ≤ 20 := by omega
      obtain ⟨G, hG⟩ : ∃ G, G = upG T B k ⟨xr, ⟨xf, xg, xb, xu, xi⟩⟩ F := ⟨_, rfl⟩
      have HGE := Lib.hid hG
      rw [← hG] at HGk
      have HCI0 : Hid (∀ i, i < H → Cell wr lb i (.slice (some ⟨if T ≤ i ∧ i < T then R' (i + 1) else R' i, 0, none⟩) W W)) := Lib.hid (fun i hi => by rw [if_neg (by have := HV.out; omega)]; exact HGk.out.row i hi)
      have HK0 : Hid (Keep (· = lb) wr wr) := Lib.hid (Keep.refl _ _)
      obtain ⟨wo, hwo⟩ : ∃ wo, wo = wr := ⟨_, rfl⟩
      rw [← hwo] at HGk HSk HQk
      have HK0 : Hid (Keep (· = lb) wo wr) := Lib.hid (by rw [hwo]; exact Keep.refl _ _)
      clear hMe hDe hG hwo
      go_wp2_with fail
      go_loopw [11] (fun i w3 => ∃ d : Nat, i = .int .i64 d ∧ (T ≤ d ∧ d + 1 ≤ B) ∧ Hid (Keep (· = lb) wo w3) ∧ Hid (∀ i, i < H → Cell w3 lb i (.slice (some ⟨if T ≤ i ∧ i < d then R' (i + 1) else R' i, 0, none⟩) W W))) (fun i _ => B - (intOf i).toNat)
      case atStart => exact ⟨T, rfl, by have := HV.out; omega, HK0, HCI0⟩
      case round =>
        obtain ⟨d, rfl, hd, HK3, HCI⟩ := hrel
        have hlr : lb < wr.heap.size := by have := HGk.out.hl; have := HK3.out.size; omega
        have hBH : B ≤ H := by omega
        by_cases hgt : d + 1 < B
        · skip
          obtain ⟨e, he⟩ : ∃ e : Nat, e = d + 1 := ⟨_, rfl⟩
          have hew : IntKind.i64.wrap ((d : Int) + 1) = (e : Int) := by rw [he]; rw [IntWalk.i64_in _ (by omega)]; omega
          have gt : ((e : Int) < (B : Int)) := by omega
          have he0 : (0 : Int) ≤ (e : Int) := by omega
          have heW : (e : Int) < (H : Int) := by omega
          have hd0 : (0 : Int) ≤ (d : Int) := by omega
          have hdW : (d : Int) < (H : Int) := by omega
          have hed : e ≠ d := by omega
          obtain ⟨ge, hge⟩ : ∃ ge, ge = R' e := ⟨_, rfl⟩
          have c2 := (HGk.out.cs.keep HK3.out HGk.out.ne).1
          have ce : wr.cell? ⟨lb, e, none⟩ = some (.slice (some ⟨ge, 0, none⟩) W W) := by have := (HCI.out e (by omega)).1; rwa [if_neg (by omega), ← hge] at this
          have cd := (HCI.out d (by omega)).1
          have fd := (HCI.out d (by omega)).2
          have HS1 : Hid (∀ u, (fun V => V.cell? ⟨r, 2, none⟩ = some (.slice (some ⟨lb, 0, none⟩) H lc) ∧ V.cell? ⟨lb, e, none⟩ = some (.slice (some ⟨ge, 0, none⟩) W W)) (wr.drew.setCell ⟨lb, d, none⟩ u)) := Lib.hid (fun u => ⟨(Cell.far (w := wr.drew) (b := r) (o := 2) ⟨c2, (HGk.out.cs.keep HK3.out HGk.out.ne).2⟩ (k := lb) (i := d) (fun z => HGk.out.ne z.1.symm) u).1, (Cell.far (w := wr.drew) (b := lb) (o := e) ⟨ce, (HCI.out e (by omega)).2⟩ (k := lb) (i := d) (fun z => hed z.2.symm) u).1⟩)
          have HE := Lib.hid (And.intro he hge)
          clear he hge
          go_wp2_with fail
          refine wp_region_noPanic ?_
          refine wp_region_held_drew (S := (fun V => V.cell? ⟨r, 2, none⟩ = some (.slice (some ⟨lb, 0, none⟩) H lc) ∧ V.cell? ⟨lb, e, none⟩ = some (.slice (some ⟨ge, 0, none⟩) W W))) (by kernel_rfl) ⟨c2, ce⟩ (fun hHeld => ?_)
          refine wpAnyH_take (i := 0) (oi := _) (v := ?va0) rfl (by kernel_rfl) (by kernel_rfl) (by kernel_rfl) (fun _ _ _ h => h) (Or.inl ⟨by rfl, ?hya0⟩) (by assumption) ?resta0
          case hya0 => (intro w hSw; (try dsimp only at hSw); (try simp only [List.getElem_toArray, List.getElem_cons_zero, List.getElem_cons_succ]); go_simp; (try with_reducible rfl))
          (try simp only [Act.put, List.setIfInBounds_toArray, List.set_cons_zero, List.set_cons_succ, List.getElem_toArray, List.getElem_cons_zero, List.getElem_cons_succ])
          refine wpAnyH_take (i := 1) (oi := _) (v := ?va1) rfl (by kernel_rfl) (by kernel_rfl) (by kernel_rfl) (fun _ _ _ h => h) (Or.inl ⟨by rfl, ?hya1⟩) (by assumption) ?resta1
          case hya1 => (intro w hSw; (try dsimp only at hSw); (try simp only [List.getElem_toArray, List.getElem_cons_zero, List.getElem_cons_succ]); go_simp; (try with_reducible rfl))
          (try simp only [Act.put, List.setIfInBounds_toArray, List.set_cons_zero, List.set_cons_succ, List.getElem_toArray, List.getElem_cons_zero, List.getElem_cons_succ])
          refine wpAnyH_take (i := 2) (oi := _) (v := ?va2) rfl (by kernel_rfl) (by kernel_rfl) (by kernel_rfl) (fun _ _ _ h => h) (Or.inl ⟨by rfl, ?hya2⟩) (by assumption) ?resta2
          case hya2 => (intro w hSw; (try dsimp only at hSw); (try simp only [List.getElem_toArray, List.getElem_cons_zero, List.getElem_cons_succ]); go_simp; (try with_reducible rfl))
          (try simp only [Act.put, List.setIfInBounds_toArray, List.set_cons_zero, List.set_cons_succ, List.getElem_toArray, List.getElem_cons_zero, List.getElem_cons_succ])
          refine wpAnyH_take (i := 3) (oi := _) (v := ?va3) rfl (by kernel_rfl) (by kernel_rfl) (by kernel_rfl) (fun _ _ _ h => h) (Or.inl ⟨by rfl, ?hya3⟩) (by assumption) ?resta3
          case hya3 => (intro w hSw; (try dsimp only at hSw); (try simp only [List.getElem_toArray, List.getElem_cons_zero, List.getElem_cons_succ]); go_simp; (try with_reducible rfl))
          (try simp only [Act.put, List.setIfInBounds_toArray, List.set_cons_zero, List.set_cons_succ, List.getElem_toArray, List.getElem_cons_zero, List.getElem_cons_succ])
          refine wpAnyH_take (i := 4) (oi := _) (v := ?va4) rfl (by kernel_rfl) (by kernel_rfl) (by kernel_rfl) (fun _ _ _ h => h) (Or.inl ⟨by rfl, ?hya4⟩) (by assumption) ?resta4
          case hya4 => (intro w hSw; (try dsimp only at hSw); (try simp only [List.getElem_toArray, List.getElem_cons_zero, List.getElem_cons_succ]); go_simp; (try with_reducible rfl))
          (try simp only [Act.put, List.setIfInBounds_toArray, List.set_cons_zero, List.set_cons_succ, List.getElem_toArray, List.getElem_cons_zero, List.getElem_cons_succ])
          refine wpAnyH_take (i := 5) (oi := _) (v := ?va5) rfl (by kernel_rfl) (by kernel_rfl) (by kernel_rfl) (fun _ _ _ h => h) (Or.inl ⟨by rfl, ?hya5⟩) (by assumption) ?resta5
          case hya5 => (intro w hSw; (try dsimp only at hSw); (try simp only [List.getElem_toArray, List.getElem_cons_zero, List.getElem_cons_succ]); go_simp; (try with_reducible rfl))
          (try simp only [Act.put, List.setIfInBounds_toArray, List.set_cons_zero, List.set_cons_succ, List.getElem_toArray, List.getElem_cons_zero, List.getElem_cons_succ])
          refine wpAnyH_take (i := 6) (oi := _) (v := ?va6) rfl (by kernel_rfl) (by kernel_rfl) (by kernel_rfl) (fun _ _ _ h => h) (Or.inl ⟨by rfl, ?hya6⟩) (by assumption) ?resta6
          case hya6 => (intro w hSw; (try dsimp only at hSw); (try simp only [List.getElem_toArray, List.getElem_cons_zero, List.getElem_cons_succ]); go_simp; (try with_reducible rfl))
          (try simp only [Act.put, List.setIfInBounds_toArray, List.set_cons_zero, List.set_cons_succ, List.getElem_toArray, List.getElem_cons_zero, List.getElem_cons_succ])
          refine wpAnyH_take (i := 7) (oi := _) (v := ?va7) rfl (by kernel_rfl) (by kernel_rfl) (by kernel_rfl) (fun _ _ _ h => h) (Or.inl ⟨by rfl, ?hya7⟩) (by assumption) ?resta7
          case hya7 => (intro w hSw; (try dsimp only at hSw); (try simp only [List.getElem_toArray, List.getElem_cons_zero, List.getElem_cons_succ]); go_simp; (try with_reducible rfl))
          (try simp only [Act.put, List.setIfInBounds_toArray, List.set_cons_zero, List.set_cons_succ, List.getElem_toArray, List.getElem_cons_zero, List.getElem_cons_succ])
          refine wpAnyH_take (i := 8) (oi := _) (v := ?va8) rfl (by kernel_rfl) (by kernel_rfl) (by kernel_rfl) (fun _ _ _ h => h) (Or.inl ⟨by rfl, ?hya8⟩) (by assumption) ?resta8
          case hya8 => (intro w hSw; (try dsimp only at hSw); (try simp only [List.getElem_toArray, List.getElem_cons_zero, List.getElem_cons_succ]); go_simp; (try with_reducible rfl))
          (try simp only [Act.put, List.setIfInBounds_toArray, List.set_cons_zero, List.set_cons_succ, List.getElem_toArray, List.getElem_cons_zero, List.getElem_cons_succ])
          refine wpAnyH_take (i := 9) (oi := _) (v := ?va9) rfl (by kernel_rfl) (by kernel_rfl) (by kernel_rfl) (fun _ _ _ h => h) (Or.inl ⟨by rfl, ?hya9⟩) (by assumption) ?resta9
          case hya9 => (intro w hSw; (try dsimp only at hSw); (try simp only [List.getElem_toArray, List.getElem_cons_zero, List.getElem_cons_succ]); go_simp; (try with_reducible rfl))
          (try simp only [Act.put, List.setIfInBounds_toArray, List.set_cons_zero, List.set_cons_succ, List.getElem_toArray, List.getElem_cons_zero, List.getElem_cons_succ])
          refine wpAnyH_take (i := 10) (oi := _) (v := ?va10) rfl (by kernel_rfl) (by kernel_rfl) (by kernel_rfl) (fun _ _ _ h => h) (Or.inl ⟨by rfl, ?hya10⟩) (by assumption) ?resta10
          case hya10 => (intro w hSw; (try dsimp only at hSw); (try simp only [List.getElem_toArray, List.getElem_cons_zero, List.getElem_cons_succ]); go_simp; (try with_reducible rfl))
          (try simp only [Act.put, List.setIfInBounds_toArray, List.set_cons_zero, List.set_cons_succ, List.getElem_toArray, List.getElem_cons_zero, List.getElem_cons_succ])
          refine wpAnyH_take (i := 11) (oi := _) (v := ?va11) rfl (by kernel_rfl) (by kernel_rfl) (by kernel_rfl) (fun _ _ _ h => h) (Or.inl ⟨by rfl, ?hya11⟩) (by assumption) ?resta11
          case hya11 => (intro w hSw; (try dsimp only at hSw); (try simp only [List.getElem_toArray, List.getElem_cons_zero, List.getElem_cons_succ]); go_simp; (try with_reducible rfl))
          (try simp only [Act.put, List.setIfInBounds_toArray, List.set_cons_zero, List.set_cons_succ, List.getElem_toArray, List.getElem_cons_zero, List.getElem_cons_succ])
          refine wpAnyH_take (i := 12) (oi := _) (v := ?va12) rfl (by kernel_rfl) (by kernel_rfl) (by kernel_rfl) (fun _ _ _ h => h) (Or.inl ⟨by rfl, ?hya12⟩) (by assumption) ?resta12
          case hya12 => (intro w hSw; (try dsimp only at hSw); (try simp only [List.getElem_toArray, List.getElem_cons_zero, List.getElem_cons_succ]); go_simp; (try with_reducible rfl))
          (try simp only [Act.put, List.setIfInBounds_toArray, List.set_cons_zero, List.set_cons_succ, List.getElem_toArray, List.getElem_cons_zero, List.getElem_cons_succ])
          refine wpAnyH_take (i := 13) (oi := _) (v := ?va13) rfl (by kernel_rfl) (by kernel_rfl) (by kernel_rfl) (fun _ _ _ h => h) (Or.inl ⟨by rfl, ?hya13⟩) (by assumption) ?resta13
          case hya13 => (intro w hSw; (try dsimp only at hSw); (try simp only [List.getElem_toArray, List.getElem_cons_zero, List.getElem_cons_succ]); go_simp; (try with_reducible rfl))
          (try simp only [Act.put, List.setIfInBounds_toArray, List.set_cons_zero, List.set_cons_succ, List.getElem_toArray, List.getElem_cons_zero, List.getElem_cons_succ])
          refine wpAnyH_ready (rs := [14]) (by kernel_rfl) (by simp) ?_
          refine AllReadyH.cons (o := _) rfl (fun K hK => ?_) AllReadyH.nil
          (try simp only [List.getElem_toArray, List.getElem_cons_zero, List.getElem_cons_succ])
          go_simp
          refine hK.out _ _ ?_ (fun hHeld => ?_)
          · exact HS1.out _
          clear hK K
          (try simp only [Act.put, List.setIfInBounds_toArray, List.set_cons_zero, List.set_cons_succ, List.getElem_toArray, List.getElem_cons_zero, List.getElem_cons_succ])
          refine wpAnyH_done (by kernel_rfl) ?_ _
          refine NoPanic.normal ?_
          have HK5 : Hid (Keep (· = lb) wo (wr.drew.setCell ⟨lb, d, none⟩ (.slice (some ⟨ge, 0, none⟩) W W))) := Lib.hid ((HK3.out.drew).setCell (p := ⟨lb, d, none⟩) (fun _ => rfl) _)
          have HC5 : Hid (∀ i, i < H → Cell (wr.drew.setCell ⟨lb, d, none⟩ (.slice (some ⟨ge, 0, none⟩) W W)) lb i (.slice (some ⟨if T ≤ i ∧ i < e then R' (i + 1) else R' i, 0, none⟩) W W)) := Lib.hid (fun i hi => by
            have h1 := HE.out.1
            have h2 := HE.out.2
            by_cases hid : i = d
            · subst hid
              have := ((HCI.out i hi).drew).set (.slice (some ⟨ge, 0, none⟩) W W)
              rw [if_pos (by omega)]
              rwa [h2, h1] at this ⊢
            · have := ((HCI.out i hi).drew).far (k := lb) (i := d) (fun z => hid z.2.symm) (.slice (some ⟨ge, 0, none⟩) W W)
              have hee : (if T ≤ i ∧ i < e then R' (i + 1) else R' i) = (if T ≤ i ∧ i < d then R' (i + 1) else R' i) := by
                repeat' split
                all_goals first | rfl | omega
              rw [hee]
              exact this)
          clear c2 ce cd fd
          go_wp2_with fail
          go_roundw
          case rel => exact ⟨e, rfl, by have := HE.out.1; omega, HK5, HC5⟩
          case measure => have := HE.out.1; simp [intOf]; omega
        · obtain ⟨e, he⟩ : ∃ e : Nat, e = d + 1 := ⟨_, rfl⟩
          have hew : IntKind.i64.wrap ((d : Int) + 1) = (e : Int) := by rw [he]; rw [IntWalk.i64_in _ (by omega)]; omega
          have gt : ¬ ((e : Int) < (B : Int)) := by omega
          have hde : v = d := by have := HV.out; omega
          subst hde
          have c0 := (HGk.out.cw.keep HK3.out HGk.out.ne).1
          have hqo : q ≠ lb := fun z => HQn.out lb (.inr (.inl rfl)) z.symm
          have hq3 := HK3.out.heap HQk.out hqo
          have he0 : (0 : Int) ≤ (v : Int) := by omega
          have heW : (v : Int) < (H : Int) := by have := HV.out; omega
          have HS2 : Hid (∀ V, Keep (· = lb) wr V → (fun V => V.cell? ⟨r, 0, none⟩ = some (.int .i64 W) ∧ V.cell? ⟨r, 2, none⟩ = some (.slice (some ⟨lb, 0, none⟩) H lc) ∧ V.cell? ⟨q, 0, none⟩ = some (.int .i32 xr) ∧ V.cell? ⟨q, 1, none⟩ = some (.int .i64 xf) ∧ V.cell? ⟨q, 2, none⟩ = some (.int .i64 xg) ∧ V.cell? ⟨q, 3, none⟩ = some (.bool xb) ∧ V.cell? ⟨q, 4, none⟩ = some (.bool xu) ∧ V.cell? ⟨q, 5, none⟩ = some (.bool xi)) V) := Lib.hid (fun V kk => by
            have k9 : Keep (· = lb) wo V := HK3.out.trans kk (fun _ _ e => e)
            have s := cells_six (x := ⟨xr, ⟨xf, xg, xb, xu, xi⟩⟩) (k9.heap HQk.out hqo)
            exact ⟨(HGk.out.cw.keep k9 HGk.out.ne).1, (HGk.out.cs.keep k9 HGk.out.ne).1, s.1, s.2.1, s.2.2.1, s.2.2.2.1, s.2.2.2.2.1, s.2.2.2.2.2⟩)
          have HQO := Lib.hid hqo
          clear c0 hq3 hqo
          go_wp2_with fail
          refine wp_region_noPanic ?_
          refine wp_region_held_drew (S := (fun V => V.cell? ⟨r, 0, none⟩ = some (.int .i64 W) ∧ V.cell? ⟨r, 2, none⟩ = some (.slice (some ⟨lb, 0, none⟩) H lc) ∧ V.cell? ⟨q, 0, none⟩ = some (.int .i32 xr) ∧ V.cell? ⟨q, 1, none⟩ = some (.int .i64 xf) ∧ V.cell? ⟨q, 2, none⟩ = some (.int .i64 xg) ∧ V.cell? ⟨q, 3, none⟩ = some (.bool xb) ∧ V.cell? ⟨q, 4, none⟩ = some (.bool xu) ∧ V.cell? ⟨q, 5, none⟩ = some (.bool xi))) (by kernel_rfl) (HS2.out _ ((Keep.refl _ wr).drew)) (fun hHeld => ?_)
          refine wpAnyH_take (i := 0) (oi := _) (v := ?vb0) rfl (by kernel_rfl) (by kernel_rfl) (by kernel_rfl) (fun _ _ _ h => h) (Or.inl ⟨by rfl, ?hyb0⟩) (by assumption) ?restb0
          case hyb0 => (intro w hSw; (try dsimp only at hSw); (try simp only [List.getElem_toArray, List.getElem_cons_zero, List.getElem_cons_succ]); go_simp; (try with_reducible rfl))
          (try simp only [Act.put, List.setIfInBounds_toArray, List.set_cons_zero, List.set_cons_succ, List.getElem_toArray, List.getElem_cons_zero, List.getElem_cons_succ])
          refine wpAnyH_take (i := 1) (oi := _) (v := ?vb1) rfl (by kernel_rfl) (by kernel_rfl) (by kernel_rfl) (fun _ _ _ h => h) (Or.inl ⟨by rfl, ?hyb1⟩) (by assumption) ?restb1
          case hyb1 => (intro w hSw; (try dsimp only at hSw); (try simp only [List.getElem_toArray, List.getElem_cons_zero, List.getElem_cons_succ]); go_simp; (try with_reducible rfl))
          (try simp only [Act.put, List.setIfInBounds_toArray, List.set_cons_zero, List.set_cons_succ, List.getElem_toArray, List.getElem_cons_zero, List.getElem_cons_succ])
          refine wpAnyH_take (i := 2) (oi := _) (v := ?vb2) rfl (by kernel_rfl) (by kernel_rfl) (by kernel_rfl) (fun _ _ _ h => h) (Or.inl ⟨by rfl, ?hyb2⟩) (by assumption) ?restb2
          case hyb2 => (intro w hSw; (try dsimp only at hSw); (try simp only [List.getElem_toArray, List.getElem_cons_zero, List.getElem_cons_succ]); go_simp; (try with_reducible rfl))
          (try simp only [Act.put, List.setIfInBounds_toArray, List.set_cons_zero, List.set_cons_succ, List.getElem_toArray, List.getElem_cons_zero, List.getElem_cons_succ])
          refine wpAnyH_take (i := 3) (oi := _) (v := ?vb3) rfl (by kernel_rfl) (by kernel_rfl) (by kernel_rfl) (fun _ _ _ h => h) (Or.inl ⟨by rfl, ?hyb3⟩) (by assumption) ?restb3
          case hyb3 => (intro w hSw; (try dsimp only at hSw); (try simp only [List.getElem_toArray, List.getElem_cons_zero, List.getElem_cons_succ]); go_simp; (try with_reducible rfl))
          (try simp only [Act.put, List.setIfInBounds_toArray, List.set_cons_zero, List.set_cons_succ, List.getElem_toArray, List.getElem_cons_zero, List.getElem_cons_succ])
          refine wpAnyH_take (i := 4) (oi := _) (v := ?vb4) rfl (by kernel_rfl) (by kernel_rfl) (by kernel_rfl) (fun _ _ _ h => h) (Or.inl ⟨by rfl, ?hyb4⟩) (by assumption) ?restb4
          case hyb4 => (intro w hSw; (try dsimp only at hSw); (try simp only [List.getElem_toArray, List.getElem_cons_zero, List.getElem_cons_succ]); go_simp; (try with_reducible rfl))
          (try simp only [Act.put, List.setIfInBounds_toArray, List.set_cons_zero, List.set_cons_succ, List.getElem_toArray, List.getElem_cons_zero, List.getElem_cons_succ])
          refine wpAnyH_take (i := 5) (oi := _) (v := ?vb5) rfl (by kernel_rfl) (by kernel_rfl) (by kernel_rfl) (fun _ _ _ h => h) (Or.inl ⟨by rfl, ?hyb5⟩) (by assumption) ?restb5
          case hyb5 => (intro w hSw; (try dsimp only at hSw); (try simp only [List.getElem_toArray, List.getElem_cons_zero, List.getElem_cons_succ]); go_simp; (try with_reducible rfl))
          (try simp only [Act.put, List.setIfInBounds_toArray, List.set_cons_zero, List.set_cons_succ, List.getElem_toArray, List.getElem_cons_zero, List.getElem_cons_succ])
          refine wpAnyH_take (i := 6) (oi := _) (v := ?vb6) rfl (by kernel_rfl) (by kernel_rfl) (by kernel_rfl) (fun _ _ _ h => h) (Or.inl ⟨by rfl, ?hyb6⟩) (by assumption) ?restb6
          case hyb6 => (intro w hSw; (try dsimp only at hSw); (try simp only [List.getElem_toArray, List.getElem_cons_zero, List.getElem_cons_succ]); go_simp; (try with_reducible rfl))
          (try simp only [Act.put, List.setIfInBounds_toArray, List.set_cons_zero, List.set_cons_succ, List.getElem_toArray, List.getElem_cons_zero, List.getElem_cons_succ])
          refine wpAnyH_take (i := 7) (oi := _) (v := ?vb7) rfl (by kernel_rfl) (by kernel_rfl) (by kernel_rfl) (fun _ _ _ h => h) (Or.inl ⟨by rfl, ?hyb7⟩) (by assumption) ?restb7
          case hyb7 => (intro w hSw; (try dsimp only at hSw); (try simp only [List.getElem_toArray, List.getElem_cons_zero, List.getElem_cons_succ]); go_simp; (try with_reducible rfl))
          (try simp only [Act.put, List.setIfInBounds_toArray, List.set_cons_zero, List.set_cons_succ, List.getElem_toArray, List.getElem_cons_zero, List.getElem_cons_succ])
          refine wpAnyH_take (i := 8) (oi := _) (v := ?vb8) rfl (by kernel_rfl) (by kernel_rfl) (by kernel_rfl) (fun _ _ _ h => h) (Or.inl ⟨by rfl, ?hyb8⟩) (by assumption) ?restb8
          case hyb8 => (intro w hSw; (try dsimp only at hSw); (try simp only [List.getElem_toArray, List.getElem_cons_zero, List.getElem_cons_succ]); go_simp; (try with_reducible rfl))
          (try simp only [Act.put, List.setIfInBounds_toArray, List.set_cons_zero, List.set_cons_succ, List.getElem_toArray, List.getElem_cons_zero, List.getElem_cons_succ])
          refine wpAnyH_take (i := 9) (oi := _) (v := ?vb9) rfl (by kernel_rfl) (by kernel_rfl) (by kernel_rfl) (fun _ _ _ h => h) (Or.inl ⟨by rfl, ?hyb9⟩) (by assumption) ?restb9
          case hyb9 => (intro w hSw; (try dsimp only at hSw); (try simp only [List.getElem_toArray, List.getElem_cons_zero, List.getElem_cons_succ]); go_simp; (try with_reducible rfl))
          (try simp only [Act.put, List.setIfInBounds_toArray, List.set_cons_zero, List.set_cons_succ, List.getElem_toArray, List.getElem_cons_zero, List.getElem_cons_succ])
          refine wpAnyH_take (i := 10) (oi := _) (v := ?vb10) rfl (by kernel_rfl) (by kernel_rfl) (by kernel_rfl) (fun _ _ _ h => h) (Or.inl ⟨by rfl, ?hyb10⟩) (by assumption) ?restb10
          case hyb10 => (intro w hSw; (try dsimp only at hSw); (try simp only [List.getElem_toArray, List.getElem_cons_zero, List.getElem_cons_succ]); go_simp; (try with_reducible rfl))
          (try simp only [Act.put, List.setIfInBounds_toArray, List.set_cons_zero, List.set_cons_succ, List.getElem_toArray, List.getElem_cons_zero, List.getElem_cons_succ])
          refine wpAnyH_ready (rs := [11]) (by kernel_rfl) (by simp) ?_
          refine AllReadyH.cons (o := _) rfl (fun K hK => ?_) AllReadyH.nil
          (try simp only [List.getElem_toArray, List.getElem_cons_zero, List.getElem_cons_succ])
          go_simp
          refine (ref_row W ⟨xr, ⟨xf, xg, xb, xu, xi⟩⟩ _ hw0 hw40).mono ?_; rintro e9 w4 ⟨g', rfl, hg1, hg2, hl4, hb4⟩; have HB4 := Lib.hid hb4; have HL4 := Lib.hid hl4; have HG4 := Lib.hid (And.intro hg1 hg2); have hc4 := (HCI.out v (by omega)).1; have hk4 := (hb4.cell (p := ⟨lb, v, none⟩) hlr).trans hc4; have hf4 := (hb4.frozen (p := ⟨lb, v, none⟩) hlr).trans (HCI.out v (by omega)).2; clear hb4 hl4 hg1 hg2 hc4
          refine hK.out _ _ ?_ (fun hHeld => ?_)
          · exact HS2.out _ (((Keep.refl _ wr).drew).trans (Keep.of_below _ HB4.out) (fun _ _ e => e))
          clear hK K
          (try simp only [Act.put, List.setIfInBounds_toArray, List.set_cons_zero, List.set_cons_succ, List.getElem_toArray, List.getElem_cons_zero, List.getElem_cons_succ])
          refine wpAnyH_take (i := 12) (oi := _) (v := ?vb12) rfl (by kernel_rfl) (by kernel_rfl) (by kernel_rfl) (fun _ _ _ h => h) (Or.inl ⟨by rfl, ?hyb12⟩) (by assumption) ?restb12
          case hyb12 => (intro w hSw; (try dsimp only at hSw); (try simp only [List.getElem_toArray, List.getElem_cons_zero, List.getElem_cons_succ]); go_simp; (try with_reducible rfl))
          (try simp only [Act.put, List.setIfInBounds_toArray, List.set_cons_zero, List.set_cons_succ, List.getElem_toArray, List.getElem_cons_zero, List.getElem_cons_succ])
          refine wpAnyH_ready (rs := [13]) (by kernel_rfl) (by simp) ?_
          refine AllReadyH.cons (o := _) rfl (fun K hK => ?_) AllReadyH.nil
          (try simp only [List.getElem_toArray, List.getElem_cons_zero, List.getElem_cons_succ])
          go_simp
          refine hK.out _ _ ?_ (fun hHeld => ?_)
          · exact HS2.out _ ((((Keep.refl (· = lb) wr).drew).trans (Keep.of_below (· = lb) HB4.out) (fun _ _ e => e)).setCell (S := (· = lb)) (p := ⟨lb, v, none⟩) (fun _ => rfl) _)
          clear hK K
          (try simp only [Act.put, List.setIfInBounds_toArray, List.set_cons_zero, List.set_cons_succ, List.getElem_toArray, List.getElem_cons_zero, List.getElem_cons_succ])
          refine wpAnyH_done (by kernel_rfl) ?_ _
          refine NoPanic.normal ?_
          obtain ⟨w6, hw6⟩ : ∃ w6, w6 = w4.setCell ⟨lb, v, none⟩ (.slice (some ⟨g', 0, none⟩) W W) := ⟨_, rfl⟩
          have HC4 : Hid (∀ i, i < H → Cell w4 lb i (.slice (some ⟨if T ≤ i ∧ i < v then R' (i + 1) else R' i, 0, none⟩) W W)) := Lib.hid (fun i hi => ((HCI.out i hi).drew).keep (Keep.of_below (fun _ => False) HB4.out) (fun e => e))
          have K46 : Hid (Keep (· = lb) w4 w6) := Lib.hid (by rw [hw6]; exact (Keep.refl (· = lb) w4).setCell (S := (· = lb)) (p := ⟨lb, v, none⟩) (fun _ => rfl) _)
          have K6 : Hid (Keep (· = lb) wo w6) := Lib.hid ((HK3.out.drew.trans (Keep.of_below (· = lb) HB4.out) (fun _ _ e => e)).trans K46.out (fun _ _ e => e))
          have HC6 : Hid (∀ i, i < H → Cell w6 lb i (.slice (some ⟨if T ≤ i ∧ i < v then R' (i + 1) else if i = v then g' else R' i, 0, none⟩) W W)) := Lib.hid (fun i hi => by
            by_cases hid : i = v
            · subst hid
              rw [if_neg (by omega), if_pos rfl, hw6]
              exact (HC4.out i hi).set _
            · have := (HC4.out i hi).far (k := lb) (i := v) (fun z => hid z.2.symm) (.slice (some ⟨g', 0, none⟩) W W)
              rw [← hw6] at this
              rw [show (if T ≤ i ∧ i < v then R' (i + 1) else if i = v then g' else R' i) = if T ≤ i ∧ i < v then R' (i + 1) else R' i from by rw [if_neg hid]]
              exact this)
          have hgn : Hid (wo.heap.size ≤ g' ∧ g' ≠ lb ∧ g' ≠ q) := Lib.hid (by
            have h1 : wr.heap.size ≤ g' := HG4.out.1
            have h2 := HK3.out.size
            have h3 := HGk.out.hl
            have h4 := lt_heap HQk.out
            omega)
          have HR6 : Hid (RGrid w6 r lb lc W H (fun i => if T ≤ i ∧ i < v then R' (i + 1) else if i = v then g' else R' i) (upG T B (k + 1) ⟨xr, ⟨xf, xg, xb, xu, xi⟩⟩ F)) := Lib.hid (by
            refine HGk.out.rerow K6.out HC6.out (fun i hi => ?_) (fun y z hy hz hyz => ?_)
            · have hvv := HV.out
              by_cases h1 : T ≤ i ∧ i < v
              · refine .inl ⟨i + 1, by omega, by rw [if_pos h1], fun j hj => ?_⟩
                rw [HGE.out]; unfold upG
                repeat' split
                all_goals first | rfl | omega | (congr 1; omega)
              · by_cases h2 : i = v
                · refine .inr ⟨by rw [if_neg h1, if_pos h2]; exact hgn.out.1, ?_⟩
                  rw [if_neg h1, if_pos h2]
                  refine (HL4.out.keep HG4.out.2 K46.out hgn.out.2.1).congr (fun j hj => ?_)
                  unfold upG
                  repeat' split
                  all_goals first | rfl | omega
                · refine .inl ⟨i, hi, by rw [if_neg h1, if_neg h2], fun j hj => ?_⟩
                  rw [HGE.out]; unfold upG
                  repeat' split
                  all_goals first | rfl | omega
            · have hI := HGk.out.inj
              have hlt : ∀ i, i < H → R' i ≠ g' := fun i hi e => by have := HGk.out.hR i hi; have := hgn.out.1; omega
              have hvv := HV.out
              (try dsimp only at hyz)
              by_cases a1 : T ≤ y ∧ y < v <;> by_cases b1 : T ≤ z ∧ z < v
              · rw [if_pos a1, if_pos b1] at hyz
                have := hI _ _ (by omega) (by omega) hyz
                omega
              · rw [if_pos a1, if_neg b1] at hyz
                by_cases b2 : z = v
                · rw [if_pos b2] at hyz; exact absurd hyz (hlt _ (by omega))
                · rw [if_neg b2] at hyz
                  have := hI _ _ (by omega) (by omega) hyz
                  omega
              · rw [if_neg a1, if_pos b1] at hyz
                by_cases b2 : y = v
                · rw [if_pos b2] at hyz; exact absurd hyz.symm (hlt _ (by omega))
                · rw [if_neg b2] at hyz
                  have := hI _ _ (by omega) (by omega) hyz
                  omega
              · rw [if_neg a1, if_neg b1] at hyz
                by_cases a2 : y = v <;> by_cases b2 : z = v
                · omega
                · rw [if_pos a2, if_neg b2] at hyz; exact absurd hyz.symm (hlt _ (by omega))
                · rw [if_neg a2, if_pos b2] at hyz; exact absurd hyz (hlt _ (by omega))
                · rw [if_neg a2, if_neg b2] at hyz
                  exact hI _ _ hy hz hyz)
          have HO : Hid (∀ b, rown r lb H (fun i => if T ≤ i ∧ i < v then R' (i + 1) else if i = v then g' else R' i) b → rown r lb H R' b ∨ b = g') := Lib.hid (fun b hb => by
            have hvv := HV.out
            rcases hb with e | e | ⟨i, hi, e⟩
            · exact .inl (.inl e)
            · exact .inl (.inr (.inl e))
            · dsimp only at e
              by_cases h1 : T ≤ i ∧ i < v
              · rw [if_pos h1] at e; exact .inl (.inr (.inr ⟨_, by omega, e⟩))
              · by_cases h2 : i = v
                · rw [if_neg h1, if_pos h2] at e; exact .inr e
                · rw [if_neg h1, if_neg h2] at e; exact .inl (.inr (.inr ⟨_, hi, e⟩)))
          have HS6 : Hid (Step (rown r lb H R) w (rown r lb H (fun i => if T ≤ i ∧ i < v then R' (i + 1) else if i = v then g' else R' i)) w6) := Lib.hid (HSk.out.trans ⟨K6.out.mono (fun b _ e => .inr (.inl e)), fun b hb => by
            rcases HO.out b hb with e | e
            · exact .inl e
            · subst e; exact .inr hgn.out.1⟩)
          have HQ6 : Hid (w6.heap[q]? = some (.cells #[.int .i32 xr, .int .i64 xf, .int .i64 xg, .bool xb, .bool xu, .bool xi] 42 (0, 0))) := Lib.hid (K6.out.heap HQk.out HQO.out)
          have HN6 : Hid (∀ b, rown r lb H (fun i => if T ≤ i ∧ i < v then R' (i + 1) else if i = v then g' else R' i) b → b ≠ q) := Lib.hid (fun b hb => by
            rcases HO.out b hb with e | e
            · exact HQn.out b e
            · subst e; exact hgn.out.2.2)
          rw [← hw6]
          clear hw6 hk4 hf4
          go_wp2_with fail
          go_roundw
          case rel => exact ⟨k + 1, _, by go_num, by have := HKM.out; omega, HR6, HS6, HQ6, HN6⟩
          case measure => have := HKM.out; simp [intOf]; omega
    · have hkM : k = M := by omega
      subst hkM
      by_cases k1 : (k : Int) < n
      · have k2 : ¬ ((k : Int) < (D : Int)) := by omega
        clear hMe hDe hkm
        go_wp2_with fail
        go_end0
        exact ⟨rfl, R', HSk.out, HGk.out⟩
      · clear hMe hDe hkm
        go_wp2_with fail
        go_end0
        exact ⟨rfl, R', HSk.out, HGk.out⟩

theorem ref_up (w : World) (r lb lc W H : Nat) (R : Nat → Nat) (F : Nat → Nat → CellM) (t b n : Int) (c : CellM) (h : RGrid w r lb lc W H R F) :
    Calls Try.prog 18 #[.pointer (some ⟨r, 0, none⟩), .int .i64 t, .int .i64 b, .int .i64 n, c.v] w fun e w' => e = .returned (.tuple #[]) ∧ ∃ R', Step (rown r lb H R) w (rown r lb H R') w' ∧
      RGrid w' r lb lc W H R' (upG (max t 0).toNat (min b H).toNat (min n.toNat ((min b H).toNat - (max t 0).toNat)) c F) := by
  by_cases hTB : max t 0 < min b (H : Int)
  · exact ref_up_go w r lb lc W H R F t b n _ _ c h (by omega) (by omega) (by omega)
  · have HR : Hid (∀ V, Keep (fun _ => False) w V → ∃ R', Step (rown r lb H R) w (rown r lb H R') V ∧ RGrid V r lb lc W H R' (upG (max t 0).toNat (min b H).toNat (min n.toNat ((min b H).toNat - (max t 0).toNat)) c F)) := Lib.hid (fun V k => ⟨R, Step.of_keep k (fun _ e => e.elim), (h.quiet k).congr (fun i j hi hj => by unfold upG; rw [if_neg (by omega)])⟩)
    obtain ⟨T, hT⟩ : ∃ T, max t 0 = T := ⟨_, rfl⟩
    obtain ⟨B, hB⟩ : ∃ B, min b (H : Int) = B := ⟨_, rfl⟩
    rw [hT, hB] at hTB
    have hge : T ≥ B := by omega
    obtain ⟨w1, hw1⟩ : ∃ w1, w1 = w.alloc (.cells (vcells c) 42) := ⟨_, rfl⟩
    have HK1 : Hid (Keep (fun _ => False) w w1) := Lib.hid (by rw [hw1]; exact (Keep.refl _ w).alloc _)
    have c1 := (h.quiet HK1.out).ch.1
    obtain ⟨P, hP⟩ : ∃ P : World → Prop, P = fun V => ∃ R', Step (rown r lb H R) w (rown r lb H R') V ∧ RGrid V r lb lc W H R' (upG (max t 0).toNat (min b H).toNat (min n.toNat ((min b H).toNat - (max t 0).toNat)) c F) := ⟨_, rfl⟩
    have HP : Hid (∀ V, Keep (fun _ => False) w V → P V) := Lib.hid (fun V k => by rw [hP]; exact HR.out V k)
    suffices Calls Try.prog 18 #[.pointer (some ⟨r, 0, none⟩), .int .i64 t, .int .i64 b, .int .i64 n, c.v] w fun e w' => e = .returned (.tuple #[]) ∧ P w' by rw [hP] at this; exact this
    clear h HR hP hTB
    obtain ⟨xr, ⟨xf, xg, xb, xu, xi⟩⟩ := c
    unfold vcells at hw1
    dsimp only at hw1
    simp only [CellM.v]
    go_enter Try.func18, Try.ntmps18
    go_wp2_with fail
    rw [← hw1]
    clear hw1
    refine wp_region_noPanic ?_
    refine wp_region_held_drew (S := fun V => V.cell? ⟨r, 1, none⟩ = some (.int .i64 H)) (by kernel_rfl) c1 (fun hHeld => ?_)
    refine wpAnyH_take (i := 0) (oi := _) (v := ?vz0) rfl (by kernel_rfl) (by kernel_rfl) (by kernel_rfl) (fun _ _ _ h => h) (Or.inl ⟨by rfl, ?hyz0⟩) (by assumption) ?restz0
    case hyz0 => (intro w hSw; (try dsimp only at hSw); (try simp only [List.getElem_toArray, List.getElem_cons_zero, List.getElem_cons_succ]); go_simp; (try with_reducible rfl))
    (try simp only [Act.put, List.setIfInBounds_toArray, List.set_cons_zero, List.set_cons_succ, List.getElem_toArray, List.getElem_cons_zero, List.getElem_cons_succ])
    refine wpAnyH_take (i := 1) (oi := _) (v := ?vz1) rfl (by kernel_rfl) (by kernel_rfl) (by kernel_rfl) (fun _ _ _ h => h) (Or.inl ⟨by rfl, ?hyz1⟩) (by assumption) ?restz1
    case hyz1 => (intro w hSw; (try dsimp only at hSw); (try simp only [List.getElem_toArray, List.getElem_cons_zero, List.getElem_cons_succ]); go_simp; (try with_reducible rfl))
    (try simp only [Act.put, List.setIfInBounds_toArray, List.set_cons_zero, List.set_cons_succ, List.getElem_toArray, List.getElem_cons_zero, List.getElem_cons_succ])
    refine wpAnyH_take (i := 2) (oi := _) (v := ?vz2) rfl (by kernel_rfl) (by kernel_rfl) (by kernel_rfl) (fun _ _ _ h => h) (Or.inl ⟨by rfl, ?hyz2⟩) (by assumption) ?restz2
    case hyz2 => (intro w hSw; (try dsimp only at hSw); (try simp only [List.getElem_toArray, List.getElem_cons_zero, List.getElem_cons_succ]); go_simp; (try with_reducible rfl))
    (try simp only [Act.put, List.setIfInBounds_toArray, List.set_cons_zero, List.set_cons_succ, List.getElem_toArray, List.getElem_cons_zero, List.getElem_cons_succ])
    refine wpAnyH_take (i := 3) (oi := _) (v := ?vz3) rfl (by kernel_rfl) (by kernel_rfl) (by kernel_rfl) (fun _ _ _ h => h) (Or.inl ⟨by rfl, ?hyz3⟩) (by assumption) ?restz3
    case hyz3 => (intro w hSw; (try dsimp only at hSw); (try simp only [List.getElem_toArray, List.getElem_cons_zero, List.getElem_cons_succ]); go_simp; (try with_reducible rfl))
    (try simp only [Act.put, List.setIfInBounds_toArray, List.set_cons_zero, List.set_cons_succ, List.getElem_toArray, List.getElem_cons_zero, List.getElem_cons_succ])
    refine wpAnyH_take (i := 4) (oi := _) (v := ?vz4) rfl (by kernel_rfl) (by kernel_rfl) (by kernel_rfl) (fun _ _ _ h => h) (Or.inl ⟨by rfl, ?hyz4⟩) (by assumption) ?restz4
    case hyz4 => (intro w hSw; (try dsimp only at hSw); (try simp only [List.getElem_toArray, List.getElem_cons_zero, List.getElem_cons_succ]); go_simp; (try with_reducible rfl))
    (try simp only [Act.put, List.setIfInBounds_toArray, List.set_cons_zero, List.set_cons_succ, List.getElem_toArray, List.getElem_cons_zero, List.getElem_cons_succ])
    refine wpAnyH_take (i := 5) (oi := _) (v := ?vz5) rfl (by kernel_rfl) (by kernel_rfl) (by kernel_rfl) (fun _ _ _ h => h) (Or.inl ⟨by rfl, ?hyz5⟩) (by assumption) ?restz5
    case hyz5 => (intro w hSw; (try dsimp only at hSw); (try simp only [List.getElem_toArray, List.getElem_cons_zero, List.getElem_cons_succ]); go_simp; (try with_reducible rfl))
    (try simp only [Act.put, List.setIfInBounds_toArray, List.set_cons_zero, List.set_cons_succ, List.getElem_toArray, List.getElem_cons_zero, List.getElem_cons_succ])
    refine wpAnyH_take (i := 6) (oi := _) (v := ?vz6) rfl (by kernel_rfl) (by kernel_rfl) (by kernel_rfl) (fun _ _ _ h => h) (Or.inl ⟨by rfl, ?hyz6⟩) (by assumption) ?restz6
    case hyz6 => (intro w hSw; (try dsimp only at hSw); (try simp only [List.getElem_toArray, List.getElem_cons_zero, List.getElem_cons_succ]); go_simp; (try with_reducible rfl))
    (try simp only [Act.put, List.setIfInBounds_toArray, List.set_cons_zero, List.set_cons_succ, List.getElem_toArray, List.getElem_cons_zero, List.getElem_cons_succ])
    refine wpAnyH_take (i := 7) (oi := _) (v := ?vz7) rfl (by kernel_rfl) (by kernel_rfl) (by kernel_rfl) (fun _ _ _ h => h) (Or.inl ⟨by rfl, ?hyz7⟩) (by assumption) ?restz7
    case hyz7 => (intro w hSw; (try dsimp only at hSw); (try simp only [List.getElem_toArray, List.getElem_cons_zero, List.getElem_cons_succ]); go_simp; (try with_reducible rfl))
    (try simp only [Act.put, List.setIfInBounds_toArray, List.set_cons_zero, List.set_cons_succ, List.getElem_toArray, List.getElem_cons_zero, List.getElem_cons_succ])
    refine wpAnyH_take (i := 8) (oi := _) (v := ?vz8) rfl (by kernel_rfl) (by kernel_rfl) (by kernel_rfl) (fun _ _ _ h => h) (Or.inl ⟨by rfl, ?hyz8⟩) (by assumption) ?restz8
    case hyz8 => (intro w hSw; (try dsimp only at hSw); (try simp only [List.getElem_toArray, List.getElem_cons_zero, List.getElem_cons_succ]); go_simp; (try with_reducible rfl))
    (try simp only [Act.put, List.setIfInBounds_toArray, List.set_cons_zero, List.set_cons_succ, List.getElem_toArray, List.getElem_cons_zero, List.getElem_cons_succ])
    refine wpAnyH_take (i := 9) (oi := _) (v := ?vz9) rfl (by kernel_rfl) (by kernel_rfl) (by kernel_rfl) (fun _ _ _ h => h) (Or.inl ⟨by rfl, ?hyz9⟩) (by assumption) ?restz9
    case hyz9 => (intro w hSw; (try dsimp only at hSw); (try simp only [List.getElem_toArray, List.getElem_cons_zero, List.getElem_cons_succ]); go_simp; (try with_reducible rfl))
    (try simp only [Act.put, List.setIfInBounds_toArray, List.set_cons_zero, List.set_cons_succ, List.getElem_toArray, List.getElem_cons_zero, List.getElem_cons_succ])
    refine wpAnyH_done (by kernel_rfl) ?_ _
    refine NoPanic.normal ?_
    go_wp2_with fail
    refine bodyPost_ret (results_none rfl _ _ _) rfl ?_
    exact ⟨rfl, HP.out _ HK1.out.drew⟩

end Go.Proofs.Ytbjdcbnmpmcdiaa
