/- mix. Own work (by sealmix.gen.py). -/
import Derived.Test.YtncfnpibigohoaaDoorSched
import Derived.Deep.WholeRow
namespace Go.Proofs.YtncfnpibigohoaaDoor
set_option linter.unusedVariables false
open Go.RowKit

/-- The table of roots lies in the first block. -/
def Roots (w : World) : Prop := 0 < w.heap.size ∧ ∀ i, i < 64 → w.cell? ⟨0, i, none⟩ = some (.int .u32 (kAt i).n)

theorem Roots.keep {S : Nat → Prop} {w w' : World} (h : Roots w) (k : Keep S w w') (hn : ¬ S 0) : Roots w' :=
  ⟨Nat.lt_of_lt_of_le h.1 k.size, fun i hi => (k.cell (p := ⟨0, i, none⟩) h.1 hn).trans (h.2 i hi)⟩
theorem Roots.below {w w' : World} (h : Roots w) (k : Below w.heap.size w w') : Roots w' := h.keep (Keep.of_below (fun _ => False) k) (fun x => x)
theorem Roots.drewN {w : World} (h : Roots w) (n : Nat) : Roots (w.drewN n) := h

theorem below_drewN {B : Nat} {w w' : World} (h : Below B w w') (n : Nat) : Below B w (w'.drewN n) := ⟨h.os, h.tape, h.output, h.size, h.block⟩

/-- Word i of a state. -/
def St.at (s : St) (i : Nat) : Wd := s.words.getD i (Wd.of 0)
theorem words_tab (s : St) : s.words = tabL 8 s.at := rfl
theorem st_at {s : St} {i : Nat} (h : i < 8) : s.words[i]? = some (s.at i) := by
  rw [words_tab, tabL_at _ h]
theorem plus_at (s v : St) (i : Nat) (h : i < 8) : (s.plus v).at i = (s.at i).add (v.at i) := by
  match i, h with
  | 0, _ => rfl
  | 1, _ => rfl
  | 2, _ => rfl
  | 3, _ => rfl
  | 4, _ => rfl
  | 5, _ => rfl
  | 6, _ => rfl
  | 7, _ => rfl

/-- The first k words of s are those of s and v together. -/
def partly (s v : St) (k : Nat) : Nat → Wd := fun i => if i < k then (s.plus v).at i else s.at i

theorem partly_step (s v : St) {k : Nat} (h : k < 8) : ∀ i, upd (partly s v k) k ((s.at k).add (v.at k)) i = partly s v (k + 1) i := fun i => by
  by_cases e : i = k
  · subst e
    rw [upd_same, partly, if_pos (by omega), plus_at _ _ _ h]
  · rw [upd_ne _ _ e]
    simp only [partly]
    by_cases q : i < k
    · rw [if_pos q, if_pos (by omega)]
    · rw [if_neg q, if_neg (by omega)]

/-- A message whose state is told by a function. -/
def MsgW (w : World) (p : Nat) (f : Nat → Wd) (part : List UInt8) (size : Nat) : Prop :=
  w.heap[p]? = some (.cells (wcells (tabL 8 f) ++ (Lib.byteCells part ++ [Value.int .i64 size])).toArray 59 (0, 0))

namespace MsgW
variable {w w' : World} {p : Nat} {f : Nat → Wd} {part : List UInt8} {size : Nat}
theorem of (s : St) (h : MsgAt w p s part size) : MsgW w p s.at part size := h.row
theorem to {s : St} (h : MsgW w p s.at part size) (hl : part.length = 64) : MsgAt w p s part size := ⟨hl, h⟩
theorem keep {S : Nat → Prop} (h : MsgW w p f part size) (k : Keep S w w') (hn : ¬ S p) : MsgW w' p f part size := k.heap h hn
theorem drewN (h : MsgW w p f part size) (k : Nat) : MsgW (w.drewN k) p f part size := h
theorem cell (h : MsgW w p f part size) {i : Nat} (hi : i < 8) : w.cell? ⟨p, i, none⟩ = some (.int .u32 (f i).n) := by
  rw [cell_at h i]
  simp only [List.getElem?_toArray]
  rw [List.getElem?_append_left (by rw [wcells_length, tabL_len]; exact hi)]
  exact wcells_at _ (tabL_at f hi)
theorem fr (h : MsgW w p f part size) (i : Nat) : w.frozen? ⟨p, i, none⟩ = false := free_at h i
theorem set (h : MsgW w p f part size) {i : Nat} (hi : i < 8) (x : Wd) : MsgW (w.setCell ⟨p, i, none⟩ (.int .u32 x.n)) p (upd f i x) part size := by
  have h1 := heap_set h i (.int .u32 x.n)
  unfold MsgW
  rw [h1, ← tabL_set 8 f i x hi]
  congr 2
  apply Array.ext'
  simp only [Array.toList_setIfInBounds]
  rw [List.set_append_left _ _ (by rw [wcells_length, tabL_len]; exact hi)]
  simp [wcells, List.map_set]
theorem congr {g : Nat → Wd} (h : MsgW w p f part size) (e : ∀ i, i < 8 → f i = g i) : MsgW w p g part size := by
  unfold MsgW at h ⊢
  rw [← tabL_congr e]; exact h
end MsgW

/-- The table is no message. -/
theorem MsgAt.ne_roots {w : World} {p : Nat} {s : St} {part : List UInt8} {size : Nat} (h : MsgAt w p s part size) (hr : Roots w) : p ≠ 0 := by
  intro e
  subst e
  have hl : 0 < part.length := by rw [h.len]; omega
  have h1 := h.byte (i := 0) (List.getElem?_eq_getElem hl)
  rw [hr.2 8 (by omega)] at h1
  injection h1 with h1
  injection h1 with h1 _
  cases h1

theorem index_word {w : World} (v : St) {k : Nat} (h : k < 8) :
    (Instr.index 49 (.agg #[.int .u32 v.a.n, .int .u32 v.b.n, .int .u32 v.c.n, .int .u32 v.d.n, .int .u32 v.e.n, .int .u32 v.f.n, .int .u32 v.g.n, .int .u32 v.h.n]) (.int .i64 (k : Int))).run Tryd.prog w = .ok (.int .u32 (v.at k).n) w := by
  have hu : (Tryd.prog.info? 48).map (fun i => (i.zero, i.size, i.bytes)) = some (some (.int .u32 0), 1, 4) := by kernel_rfl
  obtain ⟨i1, hi, hz0, hz1, hz2⟩ := info_parts hu
  refine run_index_agg w 49 48 8 i1 _ Tryd.underlying49 Tryd.underlying48 rfl hi hz1 _ .i64 k h _ ?_
  have := wcells_at _ (st_at (s := v) h)
  simpa [wcells, St.words] using this

set_option maxRecDepth 100000 in
set_option maxHeartbeats 3200000 in
theorem mix_any (p : Nat) (s : St) (part : List UInt8) (size : Nat) (w : World) (h : MsgAt w p s part size) (hr : Roots w) :
    Calls Tryd.prog 33 #[.pointer (some ⟨p, 0, none⟩)] w fun r w' => r = .returned (.tuple #[]) ∧ MsgAt w' p (mixed s part) part size ∧ Keep (· = p) w w' := by
  have hp := h.ne_roots hr
  have H := Lib.hid h
  have HR := Lib.hid hr
  have hlt := h.lt
  have HP := Lib.hid hp
  have HLn := Lib.hid h.len
  clear h hr hp
  go_enter Tryd.func33, Tryd.ntmps33
  go_wp2_with fail
  refine (sched_any p s part size w H.out).mono ?_
  rintro r w1 ⟨rfl, hb⟩
  have HB := Lib.hid hb
  have hsz := hb.size
  have h64 : (Tryd.prog.info? 53).map (·.size) = some (wcells (sched part 64)).toArray.size := by rw [words_info, List.size_toArray, wcells_length, sched_len]
  have H64 := Lib.hid h64
  have H1 := Lib.hid (wcells_one (sched part 64))
  obtain ⟨X, hX⟩ : ∃ X, X = (wcells (sched part 64)).toArray := ⟨_, rfl⟩
  rw [← hX] at H64 H1 ⊢
  have HX := Lib.hid hX
  clear hb h64 hX
  go_wp2_with (refine wpList_store_row rfl 53 (.tmp 2) (.tmp 19) rfl w1.heap.size 53 _ X rfl rfl (heap_alloc_new _ _) H64.out (by have := H64.out; rw [words_info] at this; injection this) H1.out ?_; rw [World.setRow_alloc_new])
  obtain ⟨B, hB⟩ : ∃ B, B = w1.heap.size := ⟨_, rfl⟩
  obtain ⟨w2, hw2⟩ : ∃ w2, w2 = w1.alloc (.cells X 53) := ⟨_, rfl⟩
  have hT : Tab w2 53 B 64 (wd part) := by
    unfold Tab
    rw [hw2, hB, heap_alloc_new, HX.out, sched_is]
    rfl
  have hk2 : Below w.heap.size w w2 := by rw [hw2]; exact HB.out.alloc HB.out.size _
  have hBg : w.heap.size ≤ B := by rw [hB]; exact HB.out.size
  rw [← hB, ← hw2]
  have HT := Lib.hid hT
  have HK2 := Lib.hid hk2
  have HM := Lib.hid (H.out.below hk2)
  have HR2 := Lib.hid (HR.out.below hk2)
  clear hT hk2 hB hw2 HB hsz H64 H1 HX
  have c0 := HM.out.word (i := 0) rfl
  have c1 := HM.out.word (i := 1) rfl
  have c2 := HM.out.word (i := 2) rfl
  have c3 := HM.out.word (i := 3) rfl
  have c4 := HM.out.word (i := 4) rfl
  have c5 := HM.out.word (i := 5) rfl
  have c6 := HM.out.word (i := 6) rfl
  have c7 := HM.out.word (i := 7) rfl
  go_wp2_with fail
  go_quiet (fail)
  go_wp2_with fail
  go_quiet (fail)
  clear c0 c1 c2 c3 c4 c5 c6 c7
  go_wp2_with fail
  go_loopw [3, 4, 5, 6, 7, 8, 9, 10, 60] (fun a b c d e f g h i wr => ∃ (t m : Nat) (v : St), t ≤ 64 ∧ i = .int .i64 t ∧ a = .int .u32 v.a.n ∧ b = .int .u32 v.b.n ∧ c = .int .u32 v.c.n ∧ d = .int .u32 v.d.n ∧ e = .int .u32 v.e.n ∧ f = .int .u32 v.f.n ∧ g = .int .u32 v.g.n ∧ h = .int .u32 v.h.n ∧ Hid (v = rounds s part t) ∧ Hid (wr = w2.drewN m)) (fun _ _ _ _ _ _ _ _ i _ => 64 - (intOf i).toNat)
  case atStart => exact ⟨0, _, s, by omega, rfl, rfl, rfl, rfl, rfl, rfl, rfl, rfl, rfl, rfl, World.drewN_drewN _ _ _⟩
  case round =>
    obtain ⟨t, m, v, ht, rfl, rfl, rfl, rfl, rfl, rfl, rfl, rfl, rfl, HV, HW⟩ := hrel
    by_cases hlt : t < 64
    · obtain ⟨va, vb, vc, vd, ve, vf, vg, vh⟩ := v
      simp only
      have r1 := (HR2.out.drewN m).2 t hlt
      have r2 := (HT.out.drewN m).cell hlt
      rw [← HW.out] at r1 r2
      have HN : Hid (round ⟨va, vb, vc, vd, ve, vf, vg, vh⟩ (kAt t) (wd part t) = rounds s part (t + 1)) := by
        show _ = round (rounds s part t) (kAt t) (wd part t)
        rw [← HV.out]
      clear HV
      generalize kAt t = kt at r1 HN
      generalize wd part t = wt at r2 HN
      have e1 := Wd.and_is ve vf
      have e2 := Wd.not_is ve
      have e2' : bits .xor .u32 IntKind.u32.max ve.n = ve.not.n := Wd.not_is ve
      have e3 := Wd.and_is ve.not vg
      have e4 := Wd.xor_is (ve.and vf) (ve.not.and vg)
      have e5 := Wd.and_is va vb
      have e6 := Wd.and_is va vc
      have e7 := Wd.xor_is (va.and vb) (va.and vc)
      have e8 := Wd.and_is vb vc
      have e9 := Wd.xor_is ((va.and vb).xor (va.and vc)) (vb.and vc)
      obtain ⟨ch, hch⟩ : ∃ ch, ch = Wd.ch ve vf vg := ⟨_, rfl⟩
      obtain ⟨mj, hmj⟩ : ∃ mj, mj = Wd.maj va vb vc := ⟨_, rfl⟩
      rw [show (ve.and vf).xor (ve.not.and vg) = ch from hch.symm] at e4
      rw [show ((va.and vb).xor (va.and vc)).xor (vb.and vc) = mj from hmj.symm] at e9
      have f1 := Wd.add_is vh (ve.big 6 11 25)
      have k1 := Wd.add_is' vh (ve.big 6 11 25)
      have f2 := Wd.add_is (vh.add (ve.big 6 11 25)) ch
      have k2 := Wd.add_is' (vh.add (ve.big 6 11 25)) ch
      have f3 := Wd.add_is ((vh.add (ve.big 6 11 25)).add ch) kt
      have k3 := Wd.add_is' ((vh.add (ve.big 6 11 25)).add ch) kt
      have f4 := Wd.add_is (((vh.add (ve.big 6 11 25)).add ch).add kt) wt
      have k4 := Wd.add_is' (((vh.add (ve.big 6 11 25)).add ch).add kt) wt
      obtain ⟨x1, hx1⟩ : ∃ x1, x1 = t1 ⟨va, vb, vc, vd, ve, vf, vg, vh⟩ kt wt := ⟨_, rfl⟩
      rw [show (((vh.add (ve.big 6 11 25)).add ch).add kt).add wt = x1 from by rw [hx1, hch]; rfl] at f4 k4
      have f5 := Wd.add_is (va.big 2 13 22) mj
      obtain ⟨x2, hx2⟩ : ∃ x2, x2 = t2 ⟨va, vb, vc, vd, ve, vf, vg, vh⟩ := ⟨_, rfl⟩
      rw [show (va.big 2 13 22).add mj = x2 from by rw [hx2, hmj]; rfl] at f5
      have f6 := Wd.add_is x1 x2
      have f7 := Wd.add_is vd x1
      have g5 := Wd.add_is' (va.big 2 13 22) mj
      rw [show (va.big 2 13 22).add mj = x2 from by rw [hx2, hmj]; rfl] at g5
      have g6 := Wd.add_is' x1 x2
      have g7 := Wd.add_is' vd x1
      have HX1 := Lib.hid hx1
      have HX2 := Lib.hid hx2
      clear hx1 hx2 hch hmj
      go_wp2_with fail
      go_quiet ((go_at_call 41; exact quiet_is (turn_seal ve 6 11 25 _ (by omega) (by omega) (by omega) (by omega) (by omega) (by omega))))
      go_wp2_with fail
      refine (turn_seal va 2 13 22 _ (by omega) (by omega) (by omega) (by omega) (by omega) (by omega)).mono ?_
      rintro r w3 ⟨rfl, rfl⟩
      go_wp2_with fail
      go_roundw
      case rel => exact ⟨t + 1, m + nq, ⟨x1.add x2, va, vb, vc, vd.add x1, ve, vf, vg⟩, by omega, by go_num, rfl, rfl, rfl, rfl, rfl, rfl, rfl, rfl, by show _ = _; rw [← HN.out, HX1.out, HX2.out]; rfl, by show _ = _; rw [HW.out]; exact World.drewN_drewN _ _ _⟩
      case measure => simp [intOf]; omega
    · obtain rfl : t = 64 := by omega
      have HM3 : Hid (MsgW wr p s.at part size) := by
        show MsgW wr p s.at part size
        rw [HW.out]; exact MsgW.of s (HM.out.drewN _)
      have HK3 : Hid (Below w.heap.size w wr) := by
        show Below _ _ _
        rw [HW.out]; exact below_drewN HK2.out _
      have hmx : s.plus v = mixed s part := by rw [HV.out]; rfl
      have HX := Lib.hid hmx
      have hix : ∀ k : Nat, k < 8 → ∀ W, (Instr.index 49 (.agg #[.int .u32 v.a.n, .int .u32 v.b.n, .int .u32 v.c.n, .int .u32 v.d.n, .int .u32 v.e.n, .int .u32 v.f.n, .int .u32 v.g.n, .int .u32 v.h.n]) (.int .i64 (k : Int))).run Tryd.prog W = .ok (.int .u32 (v.at k).n) W := fun k hk W => index_word v hk
      have HI := Lib.hid hix
      clear hix hmx HV HW hlt ht
      obtain ⟨wb, rfl⟩ : ∃ wb : World, wb = wr := ⟨_, rfl⟩
      rw [show ((64 : Nat) : Int) = 64 from rfl]
      go_wp2_with fail
      go_loopw [122] (fun i wr => ∃ k : Nat, k ≤ 8 ∧ i = .int .i64 k ∧ Hid (MsgW wr p (partly s v k) part size) ∧ Hid (Keep (· = p) wb wr)) (fun i _ => 8 - (intOf i).toNat)
      case atStart => exact ⟨0, by omega, rfl, HM3, Keep.refl _ _⟩
      case round =>
        obtain ⟨k, hk, rfl, HQ, HK⟩ := hrel
        by_cases hlt : k < 8
        · have hi := HI.out k hlt
          have rk := HQ.out.cell hlt
          have rf := HQ.out.fr k
          have HS := Lib.hid ((HQ.out.set hlt ((s.at k).add (v.at k))).congr (fun i _ => partly_step s v hlt i))
          have rk' : partly s v k k = s.at k := by simp [partly]
          rw [rk'] at rk
          generalize s.at k = sk at rk HS
          generalize v.at k = vk at hi HS
          have e1 := Wd.add_is sk vk
          have hki : ((k : Nat) : Int) < 8 := by omega
          clear rk'
          go_wp2_with fail
          refine wp_region_noPanic ?_
          refine wp_region_held_drew (S := fun _ => True) (by kernel_rfl) trivial (fun hHeld => ?_)
          refine wpAnyH_take (i := 0) (oi := _) (v := ?vb0) rfl (by kernel_rfl) (by kernel_rfl) (by kernel_rfl) (fun _ _ _ h => h) (Or.inl ⟨by rfl, ?hyb0⟩) (by assumption) ?restb0
          case hyb0 => (intro w hSw; (try dsimp only at hSw); (try simp only [List.getElem_toArray, List.getElem_cons_zero, List.getElem_cons_succ]); go_simp; (try with_reducible rfl))
          (try simp only [Act.put, List.setIfInBounds_toArray, List.set_cons_zero, List.set_cons_succ, List.getElem_toArray, List.getElem_cons_zero, List.getElem_cons_succ])
          refine wpAnyH_take (i := 1) (oi := _) (v := ?vb1) rfl (by kernel_rfl) (by kernel_rfl) (by kernel_rfl) (fun _ _ _ h => h) (Or.inl ⟨by rfl, ?hyb1⟩) (by assumption) ?restb1
          case hyb1 => (intro w hSw; (try dsimp only at hSw); (try simp only [List.getElem_toArray, List.getElem_cons_zero, List.getElem_cons_succ]); go_simp; (try with_reducible rfl))
          (try simp only [Act.put, List.setIfInBounds_toArray, List.set_cons_zero, List.set_cons_succ, List.getElem_toArray, List.getElem_cons_zero, List.getElem_cons_succ])
          refine wpAnyH_take (i := 2) (oi := _) (v := ?vb2) rfl (by kernel_rfl) (by kernel_rfl) (by kernel_rfl) (fun _ _ _ h => h) (Or.inl ⟨by rfl, ?hyb2⟩) (by assumption) ?restb2
          case hyb2 => (intro w hSw; (try dsimp only at hSw); (try simp only [List.getElem_toArray, List.getElem_cons_zero, List.getElem_cons_succ]); go_simp; (try with_reducible rfl))
          (try simp only [Act.put, List.setIfInBounds_toArray, List.set_cons_zero, List.set_cons_succ, List.getElem_toArray, List.getElem_cons_zero, List.getElem_cons_succ])
          refine wpAnyH_take (i := 3) (oi := _) (v := ?vb3) rfl (by kernel_rfl) (by kernel_rfl) (by kernel_rfl) (fun _ _ _ h => h) (Or.inl ⟨by rfl, ?hyb3⟩) (by assumption) ?restb3
          case hyb3 => (intro w hSw; (try dsimp only at hSw); (try simp only [List.getElem_toArray, List.getElem_cons_zero, List.getElem_cons_succ]); go_simp; (try with_reducible rfl))
          (try simp only [Act.put, List.setIfInBounds_toArray, List.set_cons_zero, List.set_cons_succ, List.getElem_toArray, List.getElem_cons_zero, List.getElem_cons_succ])
          refine wpAnyH_take (i := 4) (oi := _) (v := ?vb4) rfl (by kernel_rfl) (by kernel_rfl) (by kernel_rfl) (fun _ _ _ h => h) (Or.inl ⟨by rfl, ?hyb4⟩) (by assumption) ?restb4
          case hyb4 => (intro w hSw; (try dsimp only at hSw); (try simp only [List.getElem_toArray, List.getElem_cons_zero, List.getElem_cons_succ]); go_simp; (try with_reducible rfl))
          (try simp only [Act.put, List.setIfInBounds_toArray, List.set_cons_zero, List.set_cons_succ, List.getElem_toArray, List.getElem_cons_zero, List.getElem_cons_succ])
          refine wpAnyH_take (i := 6) (oi := _) (v := ?vb6) rfl (by kernel_rfl) (by kernel_rfl) (by kernel_rfl) (fun _ _ _ h => h) (Or.inl ⟨by rfl, ?hyb6⟩) (by assumption) ?restb6
          case hyb6 => (intro w hSw; (try dsimp only at hSw); (try simp only [List.getElem_toArray, List.getElem_cons_zero, List.getElem_cons_succ]); go_simp; (try with_reducible rfl))
          (try simp only [Act.put, List.setIfInBounds_toArray, List.set_cons_zero, List.set_cons_succ, List.getElem_toArray, List.getElem_cons_zero, List.getElem_cons_succ])
          refine wpAnyH_take (i := 8) (oi := _) (v := ?vb8) rfl (by kernel_rfl) (by kernel_rfl) (by kernel_rfl) (fun _ _ _ h => h) (Or.inl ⟨by rfl, ?hyb8⟩) (by assumption) ?restb8
          case hyb8 => (intro w hSw; (try dsimp only at hSw); (try simp only [List.getElem_toArray, List.getElem_cons_zero, List.getElem_cons_succ]); go_simp; (try with_reducible rfl))
          (try simp only [Act.put, List.setIfInBounds_toArray, List.set_cons_zero, List.set_cons_succ, List.getElem_toArray, List.getElem_cons_zero, List.getElem_cons_succ])
          refine wpAnyH_take (i := 9) (oi := _) (v := ?vb9) rfl (by kernel_rfl) (by kernel_rfl) (by kernel_rfl) (fun _ _ _ h => h) (Or.inl ⟨by rfl, ?hyb9⟩) (by assumption) ?restb9
          case hyb9 => (intro w hSw; (try dsimp only at hSw); (try simp only [List.getElem_toArray, List.getElem_cons_zero, List.getElem_cons_succ]); go_simp; (try with_reducible rfl))
          (try simp only [Act.put, List.setIfInBounds_toArray, List.set_cons_zero, List.set_cons_succ, List.getElem_toArray, List.getElem_cons_zero, List.getElem_cons_succ])
          refine wpAnyH_ready (rs := [5]) (by kernel_rfl) (by simp) ?_
          refine AllReadyH.cons (o := _) rfl (fun K hK => ?_) AllReadyH.nil
          (try simp only [List.getElem_toArray, List.getElem_cons_zero, List.getElem_cons_succ])
          go_simp
          refine hK.out _ _ ?_ (fun hHeld => ?_)
          · exact trivial
          clear hK K
          (try simp only [Act.put, List.setIfInBounds_toArray, List.set_cons_zero, List.set_cons_succ, List.getElem_toArray, List.getElem_cons_zero, List.getElem_cons_succ])
          refine wpAnyH_take (i := 7) (oi := _) (v := ?vb7) rfl (by kernel_rfl) (by kernel_rfl) (by kernel_rfl) (fun _ _ _ h => h) (Or.inl ⟨by rfl, ?hyb7⟩) (by assumption) ?restb7
          case hyb7 => (intro w hSw; (try dsimp only at hSw); (try simp only [List.getElem_toArray, List.getElem_cons_zero, List.getElem_cons_succ]); go_simp; (try with_reducible rfl))
          (try simp only [Act.put, List.setIfInBounds_toArray, List.set_cons_zero, List.set_cons_succ, List.getElem_toArray, List.getElem_cons_zero, List.getElem_cons_succ])
          refine wpAnyH_take (i := 10) (oi := _) (v := ?vb10) rfl (by kernel_rfl) (by kernel_rfl) (by kernel_rfl) (fun _ _ _ h => h) (Or.inl ⟨by rfl, ?hyb10⟩) (by assumption) ?restb10
          case hyb10 => (intro w hSw; (try dsimp only at hSw); (try simp only [List.getElem_toArray, List.getElem_cons_zero, List.getElem_cons_succ]); go_simp; (try with_reducible rfl))
          (try simp only [Act.put, List.setIfInBounds_toArray, List.set_cons_zero, List.set_cons_succ, List.getElem_toArray, List.getElem_cons_zero, List.getElem_cons_succ])
          refine wpAnyH_ready (rs := [11]) (by kernel_rfl) (by simp) ?_
          refine AllReadyH.cons (o := _) rfl (fun K hK => ?_) AllReadyH.nil
          (try simp only [List.getElem_toArray, List.getElem_cons_zero, List.getElem_cons_succ])
          go_simp
          refine hK.out _ _ ?_ (fun hHeld => ?_)
          · exact trivial
          clear hK K
          (try simp only [Act.put, List.setIfInBounds_toArray, List.set_cons_zero, List.set_cons_succ, List.getElem_toArray, List.getElem_cons_zero, List.getElem_cons_succ])
          refine wpAnyH_done (by kernel_rfl) ?_ _
          refine NoPanic.normal ?_
          go_wp2_with fail
          go_roundw
          case rel => exact ⟨k + 1, by omega, by go_num, HS.out, (HK.out.own _ _).drew⟩
          case measure => simp [intOf]; omega
        · obtain rfl : k = 8 := by omega
          go_wp2_with fail
          go_end0
          refine ⟨rfl, ?_, ?_⟩
          · rw [← HX.out]
            refine MsgW.to (HQ.out.congr fun i hi => ?_) HLn.out
            simp [partly, hi]
          · exact (Keep.of_below _ HK3.out).trans HK.out (fun _ _ e => e)
end Go.Proofs.YtncfnpibigohoaaDoor
