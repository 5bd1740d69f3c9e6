/- frame.Port.Take. Own work (by frmtake.gen.py). -/
import Derived.Test.YtncpjapfkcgjnaaDoorFrmPort
import Derived.Test.YtncpjapfkcgjnaaDoorWins
import Derived.Deep.QuietTactic
import Derived.BigQuiet
import Derived.Deep.DeepCutAuto
import Derived.Deep.CutRange
namespace Go.Proofs.YtncpjapfkcgjnaaDoor
set_option linter.unusedVariables false
set_option linter.unusedSimpArgs false
open Go.RowKit

/-- What Take tells. -/
def takeL (key b : List UInt8) (way : Int) (fresh : Int → Bool) : Frm × Int :=
  if (readL key b).2 = 0 then
    if (readL key b).1.way = way then (Frm.none, 3)
    else if fresh (readL key b).1.seq = true then ((readL key b).1, 0) else (Frm.none, 6)
  else (Frm.none, (readL key b).2)

/-- A call on a port, told. -/
def TakeTold (w : World) (p : Nat) (key b : ByteArray) (f : Frm) (er : Int) (key' : ByteArray) (way sent t : Int) (s : Nat) : Prop :=
  Calls Tryd.prog 15 #[.pointer (some ⟨p, 0, none⟩), .string b] w fun r w' => r = .returned (.tuple #[.agg #[.int .i64 f.way, .int .i64 f.seq, .string f.body], .int .i64 er]) ∧ PortAt w' p key' way sent t s ∧ Keep (· = p) w w'

set_option maxHeartbeats 400000 in
theorem take_nil (b : ByteArray) (w : World) : Calls Tryd.prog 15 #[.pointer none, .string b] w fun r w' => r = .returned (.tuple #[.agg #[.int .i64 0, .int .i64 0, .string ⟨#[]⟩], .int .i64 1]) ∧ Below w.heap.size w w' := by
  have T0 := three_new w (.int .i64 0) (.int .i64 0) (.string ⟨#[]⟩) 28
  have B0 := Lib.hid ((Below.refl w.heap.size w).alloc (Nat.le_refl _) (.cells #[.int .i64 0, .int .i64 0, .string ⟨#[]⟩] 28))
  go_enter Tryd.func15, Tryd.ntmps15
  go_wp2_with fail
  refine (ready_nil _).mono ?_
  rintro r w1 ⟨rfl, rfl⟩
  obtain ⟨c0, c1, c2, g0, g1, g2⟩ := T0
  go_wp2_with fail
  refine bodyPost_ret (v := .tuple #[.agg #[.int .i64 0, .int .i64 0, .string ⟨#[]⟩], .int .i64 1]) (by simp [results, Tryd.results15, go_sem, c0, c1, c2]) rfl ⟨rfl, ?_⟩
  exact B0.out

set_option maxHeartbeats 400000 in
theorem take_no {p : Nat} {key : ByteArray} {way sent t : Int} {s : Nat} (b : ByteArray) (w : World) (h : PortAt w p key way sent t s) (hw : ¬ (way = 1 ∨ way = 2)) : Calls Tryd.prog 15 #[.pointer (some ⟨p, 0, none⟩), .string b] w fun r w' => r = .returned (.tuple #[.agg #[.int .i64 0, .int .i64 0, .string ⟨#[]⟩], .int .i64 1]) ∧ Below w.heap.size w w' := by
  have T0 := three_new w (.int .i64 0) (.int .i64 0) (.string ⟨#[]⟩) 28
  have B0 := Lib.hid ((Below.refl w.heap.size w).alloc (Nat.le_refl _) (.cells #[.int .i64 0, .int .i64 0, .string ⟨#[]⟩] 28))
  have H := Lib.hid (h.alloc (.cells #[.int .i64 0, .int .i64 0, .string ⟨#[]⟩] 28))
  have HW := Lib.hid hw
  clear h hw
  go_enter Tryd.func15, Tryd.ntmps15
  go_wp2_with fail
  refine (ready_no _ H.out HW.out).mono ?_
  rintro r w1 ⟨rfl, rfl⟩
  obtain ⟨c0, c1, c2, g0, g1, g2⟩ := T0
  go_wp2_with fail
  refine bodyPost_ret (v := .tuple #[.agg #[.int .i64 0, .int .i64 0, .string ⟨#[]⟩], .int .i64 1]) (by simp [results, Tryd.results15, go_sem, c0, c1, c2]) rfl ⟨rfl, ?_⟩
  exact B0.out


set_option maxRecDepth 100000 in
set_option maxHeartbeats 1600000 in
theorem take_err {p : Nat} {key : ByteArray} {way sent t : Int} {s : Nat} (b : ByteArray) (w : World) (fw fs : Int) (fb : ByteArray) (e : Int) (h : PortAt w p key way sent t s) (hw : way = 1 ∨ way = 2) (hr : Roots w)
    (hrd : ∀ W, Roots W → Calls Tryd.prog 10 #[.string key, .string b] W fun r w' => r = .returned (.tuple #[.agg #[.int .i64 fw, .int .i64 fs, .string fb], .int .i64 e]) ∧ Below W.heap.size W w') (he : (e != 0) = true) :
    TakeTold w p key b Frm.none e key way sent t s := by
  have T0 := Lib.hid (three_new w (.int .i64 0) (.int .i64 0) (.string ⟨#[]⟩) 28)
  have B0 := Lib.hid ((Below.refl w.heap.size w).alloc (Nat.le_refl _) (.cells #[.int .i64 0, .int .i64 0, .string ⟨#[]⟩] 28))
  have H := Lib.hid (h.alloc (.cells #[.int .i64 0, .int .i64 0, .string ⟨#[]⟩] 28))
  have HR := Lib.hid (hr.below B0.out)
  have HW := Lib.hid hw
  have RD := Lib.hid hrd
  have p0 := h.c0
  have hpl := h.lt
  have HPL := Lib.hid hpl
  clear h hw hr hrd
  unfold TakeTold
  go_enter Tryd.func15, Tryd.ntmps15
  go_wp2_with fail
  refine (ready_yes _ H.out HW.out).mono ?_
  rintro r w1 ⟨rfl, rfl⟩
  go_wp2_with fail
  refine (RD.out _ HR.out).mono ?_
  rintro r w1 ⟨rfl, hb1⟩
  have P1 := Lib.hid (H.out.below hb1)
  have T1 := Lib.hid (T0.out.below hb1)
  have B1 := Lib.hid (B0.out.trans (hb1.mono B0.out.size))
  clear hb1 H T0 B0 HR RD p0
  obtain ⟨e0, e1, e2, _, _, _⟩ := (T1.out.set (.int .i64 0) (.int .i64 0) (.string ⟨#[]⟩)).alloc (.cells #[.int .i64 fw, .int .i64 fs, .string fb] 28)
  have E0 := Lib.hid e0
  have E1 := Lib.hid e1
  have E2 := Lib.hid e2
  obtain ⟨c0, c1, c2, g0, g1, g2⟩ := T1.out
  have hz : w.heap.size < w1.heap.size := T1.out.lt
  clear e0 e1 e2
  go_wp2_with fail
  refine bodyPost_ret (v := .tuple #[.agg #[.int .i64 0, .int .i64 0, .string ⟨#[]⟩], .int .i64 e]) (by simp [results, Tryd.results15, go_sem, E0.out, E1.out, E2.out]) rfl ⟨rfl, ?_, ?_⟩
  · exact (P1.out.keep ((((keep_set w1 w.heap.size 0 _).own 1 _).own 2 _).alloc _) (by have := HPL.out; omega))
  · exact Keep.of_below _ ((below_three B1.out (Nat.le_refl _) _ _ _).alloc (by have := B1.out.size; simp; omega) _)

set_option maxRecDepth 100000 in
set_option maxHeartbeats 1600000 in
theorem take_own {p : Nat} {key : ByteArray} {way sent t : Int} {s : Nat} (b : ByteArray) (w : World) (fw fs : Int) (fb : ByteArray) (e : Int) (h : PortAt w p key way sent t s) (hw : way = 1 ∨ way = 2) (hr : Roots w)
    (hrd : ∀ W, Roots W → Calls Tryd.prog 10 #[.string key, .string b] W fun r w' => r = .returned (.tuple #[.agg #[.int .i64 fw, .int .i64 fs, .string fb], .int .i64 e]) ∧ Below W.heap.size W w') (he : e = 0) (hown : (fw == way) = true) :
    TakeTold w p key b Frm.none 3 key way sent t s := by
  subst he
  have T0 := Lib.hid (three_new w (.int .i64 0) (.int .i64 0) (.string ⟨#[]⟩) 28)
  have B0 := Lib.hid ((Below.refl w.heap.size w).alloc (Nat.le_refl _) (.cells #[.int .i64 0, .int .i64 0, .string ⟨#[]⟩] 28))
  have H := Lib.hid (h.alloc (.cells #[.int .i64 0, .int .i64 0, .string ⟨#[]⟩] 28))
  have HR := Lib.hid (hr.below B0.out)
  have HW := Lib.hid hw
  have RD := Lib.hid hrd
  have p0 := h.c0
  have hpl := h.lt
  have HPL := Lib.hid hpl
  clear h hw hr hrd
  unfold TakeTold
  go_enter Tryd.func15, Tryd.ntmps15
  go_wp2_with fail
  refine (ready_yes _ H.out HW.out).mono ?_
  rintro r w1 ⟨rfl, rfl⟩
  go_wp2_with fail
  refine (RD.out _ HR.out).mono ?_
  rintro r w1 ⟨rfl, hb1⟩
  have P1 := Lib.hid (H.out.below hb1)
  have T1 := Lib.hid (T0.out.below hb1)
  have B1 := Lib.hid (B0.out.trans (hb1.mono B0.out.size))
  clear hb1 H T0 B0 HR RD p0
  have p1 := P1.out.c1
  have hz : w.heap.size < w1.heap.size := T1.out.lt
  have hpz : p < w1.heap.size := P1.out.lt
  go_wp2_with fail
  go_quiet (fail)
  clear p1
  obtain ⟨q, hq⟩ : ∃ q, q = w1.heap.size := ⟨_, rfl⟩
  obtain ⟨W2, hW2⟩ : ∃ W2, W2 = (w1.alloc (.cells #[.int .i64 fw, .int .i64 fs, .string fb] 28)).drewN nq := ⟨_, rfl⟩
  rw [← hW2, ← hq]
  have Q2 : Hid (Three W2 q (.int .i64 fw) (.int .i64 fs) (.string fb)) := Lib.hid (by rw [hW2, hq]; exact (three_new w1 _ _ _ _).keep (Keep.drewN (Keep.refl (fun _ => False) _) nq) (fun x => x))
  have K2 : Hid (Keep (fun _ => False) w1 W2) := Lib.hid (by rw [hW2]; exact ((Keep.refl _ w1).alloc _).drewN nq)
  have P2 := Lib.hid (P1.out.keep K2.out (fun x => x))
  have T2 := Lib.hid (T1.out.keep K2.out (fun x => x))
  have B2 := Lib.hid (B1.out.trans (K2.out.below B1.out.size (fun _ _ x => x)))
  have hqp : p < q := by omega
  have hqr : w.heap.size < q := by omega
  have hpr := HPL.out
  clear hW2 hq K2 P1 T1 B1 hz hpz
  obtain ⟨e0, e1, e2, _, _, _⟩ := T2.out.set (.int .i64 0) (.int .i64 0) (.string ⟨#[]⟩)
  have E0 := Lib.hid e0
  have E1 := Lib.hid e1
  have E2 := Lib.hid e2
  obtain ⟨c0, c1, c2, g0, g1, g2⟩ := T2.out
  clear e0 e1 e2
  go_wp2_with fail
  refine bodyPost_ret (v := .tuple #[.agg #[.int .i64 0, .int .i64 0, .string ⟨#[]⟩], .int .i64 3]) (by simp [results, Tryd.results15, go_sem, E0.out, E1.out, E2.out]) rfl ⟨rfl, ?_, ?_⟩
  · exact P2.out.keep (((keep_set W2 w.heap.size 0 _).own 1 _).own 2 _) (by omega)
  · exact Keep.of_below _ (below_three B2.out (Nat.le_refl _) _ _ _)

set_option maxRecDepth 100000 in
set_option maxHeartbeats 1600000 in
theorem take_new {p : Nat} {key : ByteArray} {way sent t : Int} {s : Nat} (b : ByteArray) (w : World) (fw fs : Int) (fb : ByteArray) (e : Int) (h : PortAt w p key way sent t s) (hw : way = 1 ∨ way = 2) (hr : Roots w)
    (hrd : ∀ W, Roots W → Calls Tryd.prog 10 #[.string key, .string b] W fun r w' => r = .returned (.tuple #[.agg #[.int .i64 fw, .int .i64 fs, .string fb], .int .i64 e]) ∧ Below W.heap.size W w') (he : e = 0) (hown : (fw == way) = false) (t' : Int) (s' : Nat) (hmk : ∀ W, Calls Tryd.prog 31 #[.agg #[.int .i64 t, .int .u64 (s : Int)], .int .i64 fs] W fun e w' => e = .returned (.tuple #[.agg #[.int .i64 t', .int .u64 (s' : Int)], .bool true]) ∧ Below W.heap.size W w') :
    TakeTold w p key b ⟨fw, fs, fb⟩ 0 key way sent t' s' := by
  subst he
  have MK := Lib.hid hmk
  clear hmk
  have T0 := Lib.hid (three_new w (.int .i64 0) (.int .i64 0) (.string ⟨#[]⟩) 28)
  have B0 := Lib.hid ((Below.refl w.heap.size w).alloc (Nat.le_refl _) (.cells #[.int .i64 0, .int .i64 0, .string ⟨#[]⟩] 28))
  have H := Lib.hid (h.alloc (.cells #[.int .i64 0, .int .i64 0, .string ⟨#[]⟩] 28))
  have HR := Lib.hid (hr.below B0.out)
  have HW := Lib.hid hw
  have RD := Lib.hid hrd
  have p0 := h.c0
  have hpl := h.lt
  have HPL := Lib.hid hpl
  clear h hw hr hrd
  unfold TakeTold
  go_enter Tryd.func15, Tryd.ntmps15
  go_wp2_with fail
  refine (ready_yes _ H.out HW.out).mono ?_
  rintro r w1 ⟨rfl, rfl⟩
  go_wp2_with fail
  refine (RD.out _ HR.out).mono ?_
  rintro r w1 ⟨rfl, hb1⟩
  have P1 := Lib.hid (H.out.below hb1)
  have T1 := Lib.hid (T0.out.below hb1)
  have B1 := Lib.hid (B0.out.trans (hb1.mono B0.out.size))
  clear hb1 H T0 B0 HR RD p0
  have p1 := P1.out.c1
  have hz : w.heap.size < w1.heap.size := T1.out.lt
  have hpz : p < w1.heap.size := P1.out.lt
  go_wp2_with fail
  go_quiet (fail)
  clear p1
  obtain ⟨q, hq⟩ : ∃ q, q = w1.heap.size := ⟨_, rfl⟩
  obtain ⟨W2, hW2⟩ : ∃ W2, W2 = (w1.alloc (.cells #[.int .i64 fw, .int .i64 fs, .string fb] 28)).drewN nq := ⟨_, rfl⟩
  rw [← hW2, ← hq]
  have Q2 : Hid (Three W2 q (.int .i64 fw) (.int .i64 fs) (.string fb)) := Lib.hid (by rw [hW2, hq]; exact (three_new w1 _ _ _ _).keep (Keep.drewN (Keep.refl (fun _ => False) _) nq) (fun x => x))
  have K2 : Hid (Keep (fun _ => False) w1 W2) := Lib.hid (by rw [hW2]; exact ((Keep.refl _ w1).alloc _).drewN nq)
  have P2 := Lib.hid (P1.out.keep K2.out (fun x => x))
  have T2 := Lib.hid (T1.out.keep K2.out (fun x => x))
  have B2 := Lib.hid (B1.out.trans (K2.out.below B1.out.size (fun _ _ x => x)))
  have hqp : p < q := by omega
  have hqr : w.heap.size < q := by omega
  have hpr := HPL.out
  clear hW2 hq K2 P1 T1 B1 hz hpz
  have e1 : W2.cell? ⟨p, 3, none⟩ = some (.int .i64 t) ∧ W2.cell? ⟨p, 4, none⟩ = some (.int .u64 (s : Int)) ∧ W2.cell? ⟨q, 1, none⟩ = some (.int .i64 fs) := ⟨P2.out.c3, P2.out.c4, Q2.out.c1⟩
  go_wp2_with fail
  go_cut [8, 9] from 35 to 44 (fun s8 s9 wx => ∃ pv : Nat, s8 = .pointer (some ⟨pv, 0, none⟩) ∧ s9 = .bool true ∧ Hid (WinAt wx pv t' s') ∧ Hid (Keep (fun k => W2.heap.size ≤ k) W2 wx) ∧ W2.heap.size ≤ pv)
  case first =>
    refine wp_region_noPanic ?_
    refine wp_region_held_drew (S := fun w' => w'.cell? ⟨p, 3, none⟩ = some (.int .i64 t) ∧ w'.cell? ⟨p, 4, none⟩ = some (.int .u64 (s : Int)) ∧ w'.cell? ⟨q, 1, none⟩ = some (.int .i64 fs)) (by kernel_rfl) e1 (fun hHeld => ?_)
    refine wpAnyH_take (i := 0) (oi := _) (v := ?vxta0) rfl (by kernel_rfl) (by kernel_rfl) (by kernel_rfl) (fun _ _ _ h => h) (Or.inl ⟨by rfl, ?hyxta0⟩) (by assumption) ?restxta0
    case hyxta0 => (intro w hSw; (try dsimp only at hSw); (try simp only [List.getElem_toArray, List.getElem_cons_zero, List.getElem_cons_succ]); go_simp; (try with_reducible rfl))
    (try simp only [Act.put, List.setIfInBounds_toArray, List.set_cons_zero, List.set_cons_succ, List.getElem_toArray, List.getElem_cons_zero, List.getElem_cons_succ])
    refine wpAnyH_take (i := 1) (oi := _) (v := ?vxta1) rfl (by kernel_rfl) (by kernel_rfl) (by kernel_rfl) (fun _ _ _ h => h) (Or.inl ⟨by rfl, ?hyxta1⟩) (by assumption) ?restxta1
    case hyxta1 => (intro w hSw; (try dsimp only at hSw); (try simp only [List.getElem_toArray, List.getElem_cons_zero, List.getElem_cons_succ]); go_simp; (try with_reducible rfl))
    (try simp only [Act.put, List.setIfInBounds_toArray, List.set_cons_zero, List.set_cons_succ, List.getElem_toArray, List.getElem_cons_zero, List.getElem_cons_succ])
    refine wpAnyH_take (i := 2) (oi := _) (v := ?vxta2) rfl (by kernel_rfl) (by kernel_rfl) (by kernel_rfl) (fun _ _ _ h => h) (Or.inl ⟨by rfl, ?hyxta2⟩) (by assumption) ?restxta2
    case hyxta2 => (intro w hSw; (try dsimp only at hSw); (try simp only [List.getElem_toArray, List.getElem_cons_zero, List.getElem_cons_succ]); go_simp; (try with_reducible rfl))
    (try simp only [Act.put, List.setIfInBounds_toArray, List.set_cons_zero, List.set_cons_succ, List.getElem_toArray, List.getElem_cons_zero, List.getElem_cons_succ])
    refine wpAnyH_take (i := 3) (oi := _) (v := ?vxta3) rfl (by kernel_rfl) (by kernel_rfl) (by kernel_rfl) (fun _ _ _ h => h) (Or.inl ⟨by rfl, ?hyxta3⟩) (by assumption) ?restxta3
    case hyxta3 => (intro w hSw; (try dsimp only at hSw); (try simp only [List.getElem_toArray, List.getElem_cons_zero, List.getElem_cons_succ]); go_simp; (try with_reducible rfl))
    (try simp only [Act.put, List.setIfInBounds_toArray, List.set_cons_zero, List.set_cons_succ, List.getElem_toArray, List.getElem_cons_zero, List.getElem_cons_succ])
    refine wpAnyH_take (i := 4) (oi := _) (v := ?vxta4) rfl (by kernel_rfl) (by kernel_rfl) (by kernel_rfl) (fun _ _ _ h => h) (Or.inl ⟨by rfl, ?hyxta4⟩) (by assumption) ?restxta4
    case hyxta4 => (intro w hSw; (try dsimp only at hSw); (try simp only [List.getElem_toArray, List.getElem_cons_zero, List.getElem_cons_succ]); go_simp; (try with_reducible rfl))
    (try simp only [Act.put, List.setIfInBounds_toArray, List.set_cons_zero, List.set_cons_succ, List.getElem_toArray, List.getElem_cons_zero, List.getElem_cons_succ])
    refine wpAnyH_take (i := 5) (oi := _) (v := ?vxta5) rfl (by kernel_rfl) (by kernel_rfl) (by kernel_rfl) (fun _ _ _ h => h) (Or.inl ⟨by rfl, ?hyxta5⟩) (by assumption) ?restxta5
    case hyxta5 => (intro w hSw; (try dsimp only at hSw); (try simp only [List.getElem_toArray, List.getElem_cons_zero, List.getElem_cons_succ]); go_simp; (try with_reducible rfl))
    (try simp only [Act.put, List.setIfInBounds_toArray, List.set_cons_zero, List.set_cons_succ, List.getElem_toArray, List.getElem_cons_zero, List.getElem_cons_succ])
    refine wpAnyH_ready (rs := [6, 10]) (by kernel_rfl) (by simp) ?_
    refine AllReadyH.cons (o := _) rfl (fun K hK => ?_) (AllReadyH.cons (o := _) rfl (fun K hK => ?_) AllReadyH.nil)
    · (try simp only [List.getElem_toArray, List.getElem_cons_zero, List.getElem_cons_succ])
      go_simp
      (refine (MK.out _).mono ?_; rintro e w3 ⟨rfl, hb3⟩; have k3 := quiet_keep (w0 := W2) (by first | exact Keep.refl _ _ | exact (Keep.refl _ _).drew | exact (Keep.refl _ _).alloc _ | exact ((Keep.refl _ _).alloc _).drew | exact ((Keep.refl _ _).drew).alloc _) hb3; have d1 := (tell3 e1 k3))
      refine hK.out _ _ ?_ (fun hHeld => ?_)
      · exact d1
      clear hK K
      (try simp only [Act.put, List.setIfInBounds_toArray, List.set_cons_zero, List.set_cons_succ, List.getElem_toArray, List.getElem_cons_zero, List.getElem_cons_succ])
      refine wpAnyH_take (i := 7) (oi := _) (v := ?vxtb7) rfl (by kernel_rfl) (by kernel_rfl) (by kernel_rfl) (fun _ _ _ h => h) (Or.inl ⟨by rfl, ?hyxtb7⟩) (by assumption) ?restxtb7
      case hyxtb7 => (intro w hSw; (try dsimp only at hSw); (try simp only [List.getElem_toArray, List.getElem_cons_zero, List.getElem_cons_succ]); go_simp; (try with_reducible rfl))
      (try simp only [Act.put, List.setIfInBounds_toArray, List.set_cons_zero, List.set_cons_succ, List.getElem_toArray, List.getElem_cons_zero, List.getElem_cons_succ])
      refine wpAnyH_take (i := 8) (oi := _) (v := ?vxtb8) rfl (by kernel_rfl) (by kernel_rfl) (by kernel_rfl) (fun _ _ _ h => h) (Or.inl ⟨by rfl, ?hyxtb8⟩) (by assumption) ?restxtb8
      case hyxtb8 => (intro w hSw; (try dsimp only at hSw); (try simp only [List.getElem_toArray, List.getElem_cons_zero, List.getElem_cons_succ]); go_simp; (try with_reducible rfl))
      (try simp only [Act.put, List.setIfInBounds_toArray, List.set_cons_zero, List.set_cons_succ, List.getElem_toArray, List.getElem_cons_zero, List.getElem_cons_succ])
      refine wpAnyH_take (i := 9) (oi := _) (v := ?vxtb9) rfl (by kernel_rfl) (by kernel_rfl) (by kernel_rfl) (fun _ _ _ h => h) (Or.inl ⟨by rfl, ?hyxtb9⟩) (by assumption) ?restxtb9
      case hyxtb9 => (intro w hSw; (try dsimp only at hSw); (try simp only [List.getElem_toArray, List.getElem_cons_zero, List.getElem_cons_succ]); go_simp; (try with_reducible rfl))
      (try simp only [Act.put, List.setIfInBounds_toArray, List.set_cons_zero, List.set_cons_succ, List.getElem_toArray, List.getElem_cons_zero, List.getElem_cons_succ])
      refine wpAnyH_ready (rs := [10]) (by kernel_rfl) (by simp) ?_
      refine AllReadyH.cons (o := _) rfl (fun K hK => ?_) AllReadyH.nil
      (try simp only [List.getElem_toArray, List.getElem_cons_zero, List.getElem_cons_succ])
      go_simp
      refine hK.out _ _ ?_ (fun hHeld => ?_)
      · exact (tell3 e1 (k3.alloc _))
      clear hK K
      (try simp only [Act.put, List.setIfInBounds_toArray, List.set_cons_zero, List.set_cons_succ, List.getElem_toArray, List.getElem_cons_zero, List.getElem_cons_succ])
      refine wpAnyH_ready (rs := [11]) (by kernel_rfl) (by simp) ?_
      refine AllReadyH.cons (o := _) rfl (fun K hK => ?_) AllReadyH.nil
      (try simp only [List.getElem_toArray, List.getElem_cons_zero, List.getElem_cons_succ])
      go_simp
      refine hK.out _ _ ?_ (fun hHeld => ?_)
      · exact (tell3 e1 (k3.alloc _))
      clear hK K
      (try simp only [Act.put, List.setIfInBounds_toArray, List.set_cons_zero, List.set_cons_succ, List.getElem_toArray, List.getElem_cons_zero, List.getElem_cons_succ])
      refine wpAnyH_take (i := 12) (oi := _) (v := ?vxtb12) rfl (by kernel_rfl) (by kernel_rfl) (by kernel_rfl) (fun _ _ _ h => h) (Or.inl ⟨by rfl, ?hyxtb12⟩) (by assumption) ?restxtb12
      case hyxtb12 => (intro w hSw; (try dsimp only at hSw); (try simp only [List.getElem_toArray, List.getElem_cons_zero, List.getElem_cons_succ]); go_simp; (try with_reducible rfl))
      (try simp only [Act.put, List.setIfInBounds_toArray, List.set_cons_zero, List.set_cons_succ, List.getElem_toArray, List.getElem_cons_zero, List.getElem_cons_succ])
      refine wpAnyH_done (by kernel_rfl) ?_ _
      refine NoPanic.normal ?_
      clear d1
      go_wp2_with fail
      go_meet
      first | exact ⟨w3.heap.size, rfl, rfl, Lib.hid (winAt_new w3 _ _ _), Lib.hid (k3.alloc _), k3.size⟩ | exact ⟨w3.heap.size, rfl, rfl, Lib.hid (WinAt.drew (winAt_new w3 _ _ _)), Lib.hid (Keep.drew (k3.alloc _)), k3.size⟩
    · (try simp only [List.getElem_toArray, List.getElem_cons_zero, List.getElem_cons_succ])
      go_simp
      refine hK.out _ _ ?_ (fun hHeld => ?_)
      · first | exact (tell3 e1 ((Keep.refl _ _).alloc _)) | exact (tell3 e1 ((Keep.refl _ _).alloc _).drew)
      clear hK K
      (try simp only [Act.put, List.setIfInBounds_toArray, List.set_cons_zero, List.set_cons_succ, List.getElem_toArray, List.getElem_cons_zero, List.getElem_cons_succ])
      refine wpAnyH_ready (rs := [6]) (by kernel_rfl) (by simp) ?_
      refine AllReadyH.cons (o := _) rfl (fun K hK => ?_) AllReadyH.nil
      (try simp only [List.getElem_toArray, List.getElem_cons_zero, List.getElem_cons_succ])
      go_simp
      (refine (MK.out _).mono ?_; rintro e w3 ⟨rfl, hb3⟩; have k3 := quiet_keep (w0 := W2) (by first | exact Keep.refl _ _ | exact (Keep.refl _ _).drew | exact (Keep.refl _ _).alloc _ | exact ((Keep.refl _ _).alloc _).drew | exact ((Keep.refl _ _).drew).alloc _) hb3; have d1 := (tell3 e1 k3); obtain ⟨g0, g1, g2, g3⟩ := made3 (p := W2.heap.size) (by first | exact winAt_new _ 0 0 _ | exact (winAt_new _ 0 0 _).drew) hb3)
      refine hK.out _ _ ?_ (fun hHeld => ?_)
      · exact d1
      clear hK K
      (try simp only [Act.put, List.setIfInBounds_toArray, List.set_cons_zero, List.set_cons_succ, List.getElem_toArray, List.getElem_cons_zero, List.getElem_cons_succ])
      refine wpAnyH_take (i := 7) (oi := _) (v := ?vxtc7) rfl (by kernel_rfl) (by kernel_rfl) (by kernel_rfl) (fun _ _ _ h => h) (Or.inl ⟨by rfl, ?hyxtc7⟩) (by assumption) ?restxtc7
      case hyxtc7 => (intro w hSw; (try dsimp only at hSw); (try simp only [List.getElem_toArray, List.getElem_cons_zero, List.getElem_cons_succ]); go_simp; (try with_reducible rfl))
      (try simp only [Act.put, List.setIfInBounds_toArray, List.set_cons_zero, List.set_cons_succ, List.getElem_toArray, List.getElem_cons_zero, List.getElem_cons_succ])
      refine wpAnyH_take (i := 8) (oi := _) (v := ?vxtc8) rfl (by kernel_rfl) (by kernel_rfl) (by kernel_rfl) (fun _ _ _ h => h) (Or.inl ⟨by rfl, ?hyxtc8⟩) (by assumption) ?restxtc8
      case hyxtc8 => (intro w hSw; (try dsimp only at hSw); (try simp only [List.getElem_toArray, List.getElem_cons_zero, List.getElem_cons_succ]); go_simp; (try with_reducible rfl))
      (try simp only [Act.put, List.setIfInBounds_toArray, List.set_cons_zero, List.set_cons_succ, List.getElem_toArray, List.getElem_cons_zero, List.getElem_cons_succ])
      refine wpAnyH_take (i := 9) (oi := _) (v := ?vxtc9) rfl (by kernel_rfl) (by kernel_rfl) (by kernel_rfl) (fun _ _ _ h => h) (Or.inl ⟨by rfl, ?hyxtc9⟩) (by assumption) ?restxtc9
      case hyxtc9 => (intro w hSw; (try dsimp only at hSw); (try simp only [List.getElem_toArray, List.getElem_cons_zero, List.getElem_cons_succ]); go_simp; (try with_reducible rfl))
      (try simp only [Act.put, List.setIfInBounds_toArray, List.set_cons_zero, List.set_cons_succ, List.getElem_toArray, List.getElem_cons_zero, List.getElem_cons_succ])
      refine wpAnyH_ready (rs := [11]) (by kernel_rfl) (by simp) ?_
      refine AllReadyH.cons (o := _) rfl (fun K hK => ?_) AllReadyH.nil
      (try simp only [List.getElem_toArray, List.getElem_cons_zero, List.getElem_cons_succ])
      go_simp
      refine hK.out _ _ ?_ (fun hHeld => ?_)
      · exact (tell3 e1 ((k3.setCell (fun _ => Nat.le_refl _) _).setCell (fun _ => Nat.le_refl _) _))
      clear hK K
      (try simp only [Act.put, List.setIfInBounds_toArray, List.set_cons_zero, List.set_cons_succ, List.getElem_toArray, List.getElem_cons_zero, List.getElem_cons_succ])
      refine wpAnyH_take (i := 12) (oi := _) (v := ?vxtc12) rfl (by kernel_rfl) (by kernel_rfl) (by kernel_rfl) (fun _ _ _ h => h) (Or.inl ⟨by rfl, ?hyxtc12⟩) (by assumption) ?restxtc12
      case hyxtc12 => (intro w hSw; (try dsimp only at hSw); (try simp only [List.getElem_toArray, List.getElem_cons_zero, List.getElem_cons_succ]); go_simp; (try with_reducible rfl))
      (try simp only [Act.put, List.setIfInBounds_toArray, List.set_cons_zero, List.set_cons_succ, List.getElem_toArray, List.getElem_cons_zero, List.getElem_cons_succ])
      refine wpAnyH_done (by kernel_rfl) ?_ _
      refine NoPanic.normal ?_
      have Q0 : Hid (WinAt w3 W2.heap.size 0 0) := Lib.hid ⟨g0, g1, g2, g3⟩
      clear g0 g1 g2 g3
      clear d1
      go_wp2_with fail
      go_meet
      first | exact ⟨W2.heap.size, rfl, rfl, Lib.hid ((Q0.out).set _ _), Lib.hid ((k3.setCell (fun _ => Nat.le_refl _) _).setCell (fun _ => Nat.le_refl _) _), Nat.le_refl _⟩ | exact ⟨W2.heap.size, rfl, rfl, Lib.hid (WinAt.drew ((Q0.out).set _ _)), Lib.hid (Keep.drew ((k3.setCell (fun _ => Nat.le_refl _) _).setCell (fun _ => Nat.le_refl _) _)), Nat.le_refl _⟩
  case rest =>
    obtain ⟨pv, rfl, rfl, HV, HK, hpv⟩ := hcut
    have P3 := Lib.hid (P2.out.keep HK.out (by have := P2.out.lt; omega))
    have Q3 := Lib.hid (Q2.out.keep HK.out (by have := Q2.out.lt; omega))
    have T3 := Lib.hid (T2.out.keep HK.out (by have := T2.out.lt; omega))
    have B3 := Lib.hid (B2.out.trans (HK.out.below B2.out.size (fun k hk hs => by have := B2.out.size; omega)))
    have hpv2 : p ≠ pv := by have := P2.out.lt; omega
    obtain ⟨v0, v1, _, _⟩ := HV.out
    obtain ⟨q0, q1, q2, _, _, _⟩ := Q3.out
    have f3 := P3.out.fr 3
    have f4 := P3.out.fr 4
    have l3 := P3.out.c3
    have l4 := P3.out.c4
    have hqpn : q ≠ p := by omega
    have hqrn : q ≠ w.heap.size := by omega
    have hprn : p ≠ w.heap.size := by omega
    have T4 := T3.out.keep ((keep_set wc p 3 (.int .i64 t')).own 4 (.int .u64 (s' : Int))) (by omega)
    obtain ⟨e0, e1, e2, _, _, _⟩ := T4.set (.int .i64 fw) (.int .i64 fs) (.string fb)
    have E0 := Lib.hid e0
    have E1 := Lib.hid e1
    have E2 := Lib.hid e2
    obtain ⟨c0, c1, c2, g0, g1, g2⟩ := T3.out
    clear e0 e1 e2 T4 HV HK MK P2 Q2 T2 B2
    go_wp2_with fail
    refine bodyPost_ret (v := .tuple #[.agg #[.int .i64 fw, .int .i64 fs, .string fb], .int .i64 0]) (by simp [results, Tryd.results15, go_sem, E0.out, E1.out, E2.out]) rfl ⟨rfl, ?_, ?_⟩
    · exact (P3.out.set34 t' s').keep (((keep_set _ w.heap.size 0 _).own 1 _).own 2 _) (by omega)
    · exact ((((((Keep.of_below (· = p) B3.out).own 3 _).own 4 _).setCell (p := ⟨w.heap.size, 0, none⟩) (fun h => absurd h (by simp)) _).setCell (p := ⟨w.heap.size, 1, none⟩) (fun h => absurd h (by simp)) _).setCell (p := ⟨w.heap.size, 2, none⟩) (fun h => absurd h (by simp)) _)


set_option maxRecDepth 100000 in
set_option maxHeartbeats 1600000 in
theorem take_old {p : Nat} {key : ByteArray} {way sent t : Int} {s : Nat} (b : ByteArray) (w : World) (fw fs : Int) (fb : ByteArray) (e : Int) (h : PortAt w p key way sent t s) (hw : way = 1 ∨ way = 2) (hr : Roots w)
    (hrd : ∀ W, Roots W → Calls Tryd.prog 10 #[.string key, .string b] W fun r w' => r = .returned (.tuple #[.agg #[.int .i64 fw, .int .i64 fs, .string fb], .int .i64 e]) ∧ Below W.heap.size W w') (he : e = 0) (hown : (fw == way) = false) (t' : Int) (s' : Nat) (hmk : ∀ W, Calls Tryd.prog 31 #[.agg #[.int .i64 t, .int .u64 (s : Int)], .int .i64 fs] W fun e w' => e = .returned (.tuple #[.agg #[.int .i64 t', .int .u64 (s' : Int)], .bool false]) ∧ Below W.heap.size W w') :
    TakeTold w p key b Frm.none 6 key way sent t s := by
  subst he
  have MK := Lib.hid hmk
  clear hmk
  have T0 := Lib.hid (three_new w (.int .i64 0) (.int .i64 0) (.string ⟨#[]⟩) 28)
  have B0 := Lib.hid ((Below.refl w.heap.size w).alloc (Nat.le_refl _) (.cells #[.int .i64 0, .int .i64 0, .string ⟨#[]⟩] 28))
  have H := Lib.hid (h.alloc (.cells #[.int .i64 0, .int .i64 0, .string ⟨#[]⟩] 28))
  have HR := Lib.hid (hr.below B0.out)
  have HW := Lib.hid hw
  have RD := Lib.hid hrd
  have p0 := h.c0
  have hpl := h.lt
  have HPL := Lib.hid hpl
  clear h hw hr hrd
  unfold TakeTold
  go_enter Tryd.func15, Tryd.ntmps15
  go_wp2_with fail
  refine (ready_yes _ H.out HW.out).mono ?_
  rintro r w1 ⟨rfl, rfl⟩
  go_wp2_with fail
  refine (RD.out _ HR.out).mono ?_
  rintro r w1 ⟨rfl, hb1⟩
  have P1 := Lib.hid (H.out.below hb1)
  have T1 := Lib.hid (T0.out.below hb1)
  have B1 := Lib.hid (B0.out.trans (hb1.mono B0.out.size))
  clear hb1 H T0 B0 HR RD p0
  have p1 := P1.out.c1
  have hz : w.heap.size < w1.heap.size := T1.out.lt
  have hpz : p < w1.heap.size := P1.out.lt
  go_wp2_with fail
  go_quiet (fail)
  clear p1
  obtain ⟨q, hq⟩ : ∃ q, q = w1.heap.size := ⟨_, rfl⟩
  obtain ⟨W2, hW2⟩ : ∃ W2, W2 = (w1.alloc (.cells #[.int .i64 fw, .int .i64 fs, .string fb] 28)).drewN nq := ⟨_, rfl⟩
  rw [← hW2, ← hq]
  have Q2 : Hid (Three W2 q (.int .i64 fw) (.int .i64 fs) (.string fb)) := Lib.hid (by rw [hW2, hq]; exact (three_new w1 _ _ _ _).keep (Keep.drewN (Keep.refl (fun _ => False) _) nq) (fun x => x))
  have K2 : Hid (Keep (fun _ => False) w1 W2) := Lib.hid (by rw [hW2]; exact ((Keep.refl _ w1).alloc _).drewN nq)
  have P2 := Lib.hid (P1.out.keep K2.out (fun x => x))
  have T2 := Lib.hid (T1.out.keep K2.out (fun x => x))
  have B2 := Lib.hid (B1.out.trans (K2.out.below B1.out.size (fun _ _ x => x)))
  have hqp : p < q := by omega
  have hqr : w.heap.size < q := by omega
  have hpr := HPL.out
  clear hW2 hq K2 P1 T1 B1 hz hpz
  have e1 : W2.cell? ⟨p, 3, none⟩ = some (.int .i64 t) ∧ W2.cell? ⟨p, 4, none⟩ = some (.int .u64 (s : Int)) ∧ W2.cell? ⟨q, 1, none⟩ = some (.int .i64 fs) := ⟨P2.out.c3, P2.out.c4, Q2.out.c1⟩
  go_wp2_with fail
  go_cut [8, 9] from 35 to 44 (fun s8 s9 wx => ∃ pv : Nat, s8 = .pointer (some ⟨pv, 0, none⟩) ∧ s9 = .bool false ∧ Hid (WinAt wx pv t' s') ∧ Hid (Keep (fun k => W2.heap.size ≤ k) W2 wx) ∧ W2.heap.size ≤ pv)
  case first =>
    refine wp_region_noPanic ?_
    refine wp_region_held_drew (S := fun w' => w'.cell? ⟨p, 3, none⟩ = some (.int .i64 t) ∧ w'.cell? ⟨p, 4, none⟩ = some (.int .u64 (s : Int)) ∧ w'.cell? ⟨q, 1, none⟩ = some (.int .i64 fs)) (by kernel_rfl) e1 (fun hHeld => ?_)
    refine wpAnyH_take (i := 0) (oi := _) (v := ?vxfa0) rfl (by kernel_rfl) (by kernel_rfl) (by kernel_rfl) (fun _ _ _ h => h) (Or.inl ⟨by rfl, ?hyxfa0⟩) (by assumption) ?restxfa0
    case hyxfa0 => (intro w hSw; (try dsimp only at hSw); (try simp only [List.getElem_toArray, List.getElem_cons_zero, List.getElem_cons_succ]); go_simp; (try with_reducible rfl))
    (try simp only [Act.put, List.setIfInBounds_toArray, List.set_cons_zero, List.set_cons_succ, List.getElem_toArray, List.getElem_cons_zero, List.getElem_cons_succ])
    refine wpAnyH_take (i := 1) (oi := _) (v := ?vxfa1) rfl (by kernel_rfl) (by kernel_rfl) (by kernel_rfl) (fun _ _ _ h => h) (Or.inl ⟨by rfl, ?hyxfa1⟩) (by assumption) ?restxfa1
    case hyxfa1 => (intro w hSw; (try dsimp only at hSw); (try simp only [List.getElem_toArray, List.getElem_cons_zero, List.getElem_cons_succ]); go_simp; (try with_reducible rfl))
    (try simp only [Act.put, List.setIfInBounds_toArray, List.set_cons_zero, List.set_cons_succ, List.getElem_toArray, List.getElem_cons_zero, List.getElem_cons_succ])
    refine wpAnyH_take (i := 2) (oi := _) (v := ?vxfa2) rfl (by kernel_rfl) (by kernel_rfl) (by kernel_rfl) (fun _ _ _ h => h) (Or.inl ⟨by rfl, ?hyxfa2⟩) (by assumption) ?restxfa2
    case hyxfa2 => (intro w hSw; (try dsimp only at hSw); (try simp only [List.getElem_toArray, List.getElem_cons_zero, List.getElem_cons_succ]); go_simp; (try with_reducible rfl))
    (try simp only [Act.put, List.setIfInBounds_toArray, List.set_cons_zero, List.set_cons_succ, List.getElem_toArray, List.getElem_cons_zero, List.getElem_cons_succ])
    refine wpAnyH_take (i := 3) (oi := _) (v := ?vxfa3) rfl (by kernel_rfl) (by kernel_rfl) (by kernel_rfl) (fun _ _ _ h => h) (Or.inl ⟨by rfl, ?hyxfa3⟩) (by assumption) ?restxfa3
    case hyxfa3 => (intro w hSw; (try dsimp only at hSw); (try simp only [List.getElem_toArray, List.getElem_cons_zero, List.getElem_cons_succ]); go_simp; (try with_reducible rfl))
    (try simp only [Act.put, List.setIfInBounds_toArray, List.set_cons_zero, List.set_cons_succ, List.getElem_toArray, List.getElem_cons_zero, List.getElem_cons_succ])
    refine wpAnyH_take (i := 4) (oi := _) (v := ?vxfa4) rfl (by kernel_rfl) (by kernel_rfl) (by kernel_rfl) (fun _ _ _ h => h) (Or.inl ⟨by rfl, ?hyxfa4⟩) (by assumption) ?restxfa4
    case hyxfa4 => (intro w hSw; (try dsimp only at hSw); (try simp only [List.getElem_toArray, List.getElem_cons_zero, List.getElem_cons_succ]); go_simp; (try with_reducible rfl))
    (try simp only [Act.put, List.setIfInBounds_toArray, List.set_cons_zero, List.set_cons_succ, List.getElem_toArray, List.getElem_cons_zero, List.getElem_cons_succ])
    refine wpAnyH_take (i := 5) (oi := _) (v := ?vxfa5) rfl (by kernel_rfl) (by kernel_rfl) (by kernel_rfl) (fun _ _ _ h => h) (Or.inl ⟨by rfl, ?hyxfa5⟩) (by assumption) ?restxfa5
    case hyxfa5 => (intro w hSw; (try dsimp only at hSw); (try simp only [List.getElem_toArray, List.getElem_cons_zero, List.getElem_cons_succ]); go_simp; (try with_reducible rfl))
    (try simp only [Act.put, List.setIfInBounds_toArray, List.set_cons_zero, List.set_cons_succ, List.getElem_toArray, List.getElem_cons_zero, List.getElem_cons_succ])
    refine wpAnyH_ready (rs := [6, 10]) (by kernel_rfl) (by simp) ?_
    refine AllReadyH.cons (o := _) rfl (fun K hK => ?_) (AllReadyH.cons (o := _) rfl (fun K hK => ?_) AllReadyH.nil)
    · (try simp only [List.getElem_toArray, List.getElem_cons_zero, List.getElem_cons_succ])
      go_simp
      (refine (MK.out _).mono ?_; rintro e w3 ⟨rfl, hb3⟩; have k3 := quiet_keep (w0 := W2) (by first | exact Keep.refl _ _ | exact (Keep.refl _ _).drew | exact (Keep.refl _ _).alloc _ | exact ((Keep.refl _ _).alloc _).drew | exact ((Keep.refl _ _).drew).alloc _) hb3; have d1 := (tell3 e1 k3))
      refine hK.out _ _ ?_ (fun hHeld => ?_)
      · exact d1
      clear hK K
      (try simp only [Act.put, List.setIfInBounds_toArray, List.set_cons_zero, List.set_cons_succ, List.getElem_toArray, List.getElem_cons_zero, List.getElem_cons_succ])
      refine wpAnyH_take (i := 7) (oi := _) (v := ?vxfb7) rfl (by kernel_rfl) (by kernel_rfl) (by kernel_rfl) (fun _ _ _ h => h) (Or.inl ⟨by rfl, ?hyxfb7⟩) (by assumption) ?restxfb7
      case hyxfb7 => (intro w hSw; (try dsimp only at hSw); (try simp only [List.getElem_toArray, List.getElem_cons_zero, List.getElem_cons_succ]); go_simp; (try with_reducible rfl))
      (try simp only [Act.put, List.setIfInBounds_toArray, List.set_cons_zero, List.set_cons_succ, List.getElem_toArray, List.getElem_cons_zero, List.getElem_cons_succ])
      refine wpAnyH_take (i := 8) (oi := _) (v := ?vxfb8) rfl (by kernel_rfl) (by kernel_rfl) (by kernel_rfl) (fun _ _ _ h => h) (Or.inl ⟨by rfl, ?hyxfb8⟩) (by assumption) ?restxfb8
      case hyxfb8 => (intro w hSw; (try dsimp only at hSw); (try simp only [List.getElem_toArray, List.getElem_cons_zero, List.getElem_cons_succ]); go_simp; (try with_reducible rfl))
      (try simp only [Act.put, List.setIfInBounds_toArray, List.set_cons_zero, List.set_cons_succ, List.getElem_toArray, List.getElem_cons_zero, List.getElem_cons_succ])
      refine wpAnyH_take (i := 9) (oi := _) (v := ?vxfb9) rfl (by kernel_rfl) (by kernel_rfl) (by kernel_rfl) (fun _ _ _ h => h) (Or.inl ⟨by rfl, ?hyxfb9⟩) (by assumption) ?restxfb9
      case hyxfb9 => (intro w hSw; (try dsimp only at hSw); (try simp only [List.getElem_toArray, List.getElem_cons_zero, List.getElem_cons_succ]); go_simp; (try with_reducible rfl))
      (try simp only [Act.put, List.setIfInBounds_toArray, List.set_cons_zero, List.set_cons_succ, List.getElem_toArray, List.getElem_cons_zero, List.getElem_cons_succ])
      refine wpAnyH_ready (rs := [10]) (by kernel_rfl) (by simp) ?_
      refine AllReadyH.cons (o := _) rfl (fun K hK => ?_) AllReadyH.nil
      (try simp only [List.getElem_toArray, List.getElem_cons_zero, List.getElem_cons_succ])
      go_simp
      refine hK.out _ _ ?_ (fun hHeld => ?_)
      · exact (tell3 e1 (k3.alloc _))
      clear hK K
      (try simp only [Act.put, List.setIfInBounds_toArray, List.set_cons_zero, List.set_cons_succ, List.getElem_toArray, List.getElem_cons_zero, List.getElem_cons_succ])
      refine wpAnyH_ready (rs := [11]) (by kernel_rfl) (by simp) ?_
      refine AllReadyH.cons (o := _) rfl (fun K hK => ?_) AllReadyH.nil
      (try simp only [List.getElem_toArray, List.getElem_cons_zero, List.getElem_cons_succ])
      go_simp
      refine hK.out _ _ ?_ (fun hHeld => ?_)
      · exact (tell3 e1 (k3.alloc _))
      clear hK K
      (try simp only [Act.put, List.setIfInBounds_toArray, List.set_cons_zero, List.set_cons_succ, List.getElem_toArray, List.getElem_cons_zero, List.getElem_cons_succ])
      refine wpAnyH_take (i := 12) (oi := _) (v := ?vxfb12) rfl (by kernel_rfl) (by kernel_rfl) (by kernel_rfl) (fun _ _ _ h => h) (Or.inl ⟨by rfl, ?hyxfb12⟩) (by assumption) ?restxfb12
      case hyxfb12 => (intro w hSw; (try dsimp only at hSw); (try simp only [List.getElem_toArray, List.getElem_cons_zero, List.getElem_cons_succ]); go_simp; (try with_reducible rfl))
      (try simp only [Act.put, List.setIfInBounds_toArray, List.set_cons_zero, List.set_cons_succ, List.getElem_toArray, List.getElem_cons_zero, List.getElem_cons_succ])
      refine wpAnyH_done (by kernel_rfl) ?_ _
      refine NoPanic.normal ?_
      clear d1
      go_wp2_with fail
      go_meet
      first | exact ⟨w3.heap.size, rfl, rfl, Lib.hid (winAt_new w3 _ _ _), Lib.hid (k3.alloc _), k3.size⟩ | exact ⟨w3.heap.size, rfl, rfl, Lib.hid (WinAt.drew (winAt_new w3 _ _ _)), Lib.hid (Keep.drew (k3.alloc _)), k3.size⟩
    · (try simp only [List.getElem_toArray, List.getElem_cons_zero, List.getElem_cons_succ])
      go_simp
      refine hK.out _ _ ?_ (fun hHeld => ?_)
      · first | exact (tell3 e1 ((Keep.refl _ _).alloc _)) | exact (tell3 e1 ((Keep.refl _ _).alloc _).drew)
      clear hK K
      (try simp only [Act.put, List.setIfInBounds_toArray, List.set_cons_zero, List.set_cons_succ, List.getElem_toArray, List.getElem_cons_zero, List.getElem_cons_succ])
      refine wpAnyH_ready (rs := [6]) (by kernel_rfl) (by simp) ?_
      refine AllReadyH.cons (o := _) rfl (fun K hK => ?_) AllReadyH.nil
      (try simp only [List.getElem_toArray, List.getElem_cons_zero, List.getElem_cons_succ])
      go_simp
      (refine (MK.out _).mono ?_; rintro e w3 ⟨rfl, hb3⟩; have k3 := quiet_keep (w0 := W2) (by first | exact Keep.refl _ _ | exact (Keep.refl _ _).drew | exact (Keep.refl _ _).alloc _ | exact ((Keep.refl _ _).alloc _).drew | exact ((Keep.refl _ _).drew).alloc _) hb3; have d1 := (tell3 e1 k3); obtain ⟨g0, g1, g2, g3⟩ := made3 (p := W2.heap.size) (by first | exact winAt_new _ 0 0 _ | exact (winAt_new _ 0 0 _).drew) hb3)
      refine hK.out _ _ ?_ (fun hHeld => ?_)
      · exact d1
      clear hK K
      (try simp only [Act.put, List.setIfInBounds_toArray, List.set_cons_zero, List.set_cons_succ, List.getElem_toArray, List.getElem_cons_zero, List.getElem_cons_succ])
      refine wpAnyH_take (i := 7) (oi := _) (v := ?vxfc7) rfl (by kernel_rfl) (by kernel_rfl) (by kernel_rfl) (fun _ _ _ h => h) (Or.inl ⟨by rfl, ?hyxfc7⟩) (by assumption) ?restxfc7
      case hyxfc7 => (intro w hSw; (try dsimp only at hSw); (try simp only [List.getElem_toArray, List.getElem_cons_zero, List.getElem_cons_succ]); go_simp; (try with_reducible rfl))
      (try simp only [Act.put, List.setIfInBounds_toArray, List.set_cons_zero, List.set_cons_succ, List.getElem_toArray, List.getElem_cons_zero, List.getElem_cons_succ])
      refine wpAnyH_take (i := 8) (oi := _) (v := ?vxfc8) rfl (by kernel_rfl) (by kernel_rfl) (by kernel_rfl) (fun _ _ _ h => h) (Or.inl ⟨by rfl, ?hyxfc8⟩) (by assumption) ?restxfc8
      case hyxfc8 => (intro w hSw; (try dsimp only at hSw); (try simp only [List.getElem_toArray, List.getElem_cons_zero, List.getElem_cons_succ]); go_simp; (try with_reducible rfl))
      (try simp only [Act.put, List.setIfInBounds_toArray, List.set_cons_zero, List.set_cons_succ, List.getElem_toArray, List.getElem_cons_zero, List.getElem_cons_succ])
      refine wpAnyH_take (i := 9) (oi := _) (v := ?vxfc9) rfl (by kernel_rfl) (by kernel_rfl) (by kernel_rfl) (fun _ _ _ h => h) (Or.inl ⟨by rfl, ?hyxfc9⟩) (by assumption) ?restxfc9
      case hyxfc9 => (intro w hSw; (try dsimp only at hSw); (try simp only [List.getElem_toArray, List.getElem_cons_zero, List.getElem_cons_succ]); go_simp; (try with_reducible rfl))
      (try simp only [Act.put, List.setIfInBounds_toArray, List.set_cons_zero, List.set_cons_succ, List.getElem_toArray, List.getElem_cons_zero, List.getElem_cons_succ])
      refine wpAnyH_ready (rs := [11]) (by kernel_rfl) (by simp) ?_
      refine AllReadyH.cons (o := _) rfl (fun K hK => ?_) AllReadyH.nil
      (try simp only [List.getElem_toArray, List.getElem_cons_zero, List.getElem_cons_succ])
      go_simp
      refine hK.out _ _ ?_ (fun hHeld => ?_)
      · exact (tell3 e1 ((k3.setCell (fun _ => Nat.le_refl _) _).setCell (fun _ => Nat.le_refl _) _))
      clear hK K
      (try simp only [Act.put, List.setIfInBounds_toArray, List.set_cons_zero, List.set_cons_succ, List.getElem_toArray, List.getElem_cons_zero, List.getElem_cons_succ])
      refine wpAnyH_take (i := 12) (oi := _) (v := ?vxfc12) rfl (by kernel_rfl) (by kernel_rfl) (by kernel_rfl) (fun _ _ _ h => h) (Or.inl ⟨by rfl, ?hyxfc12⟩) (by assumption) ?restxfc12
      case hyxfc12 => (intro w hSw; (try dsimp only at hSw); (try simp only [List.getElem_toArray, List.getElem_cons_zero, List.getElem_cons_succ]); go_simp; (try with_reducible rfl))
      (try simp only [Act.put, List.setIfInBounds_toArray, List.set_cons_zero, List.set_cons_succ, List.getElem_toArray, List.getElem_cons_zero, List.getElem_cons_succ])
      refine wpAnyH_done (by kernel_rfl) ?_ _
      refine NoPanic.normal ?_
      have Q0 : Hid (WinAt w3 W2.heap.size 0 0) := Lib.hid ⟨g0, g1, g2, g3⟩
      clear g0 g1 g2 g3
      clear d1
      go_wp2_with fail
      go_meet
      first | exact ⟨W2.heap.size, rfl, rfl, Lib.hid ((Q0.out).set _ _), Lib.hid ((k3.setCell (fun _ => Nat.le_refl _) _).setCell (fun _ => Nat.le_refl _) _), Nat.le_refl _⟩ | exact ⟨W2.heap.size, rfl, rfl, Lib.hid (WinAt.drew ((Q0.out).set _ _)), Lib.hid (Keep.drew ((k3.setCell (fun _ => Nat.le_refl _) _).setCell (fun _ => Nat.le_refl _) _)), Nat.le_refl _⟩
  case rest =>
    obtain ⟨pv, rfl, rfl, HV, HK, hpv⟩ := hcut
    have P3 := Lib.hid (P2.out.keep HK.out (by have := P2.out.lt; omega))
    have T3 := Lib.hid (T2.out.keep HK.out (by have := T2.out.lt; omega))
    have B3 := Lib.hid (B2.out.trans (HK.out.below B2.out.size (fun k hk hs => by have := B2.out.size; omega)))
    obtain ⟨e0, e1, e2, _, _, _⟩ := T3.out.set (.int .i64 0) (.int .i64 0) (.string ⟨#[]⟩)
    have E0 := Lib.hid e0
    have E1 := Lib.hid e1
    have E2 := Lib.hid e2
    obtain ⟨c0, c1, c2, g0, g1, g2⟩ := T3.out
    clear e0 e1 e2 HV HK MK P2 Q2 T2 B2
    go_wp2_with fail
    refine bodyPost_ret (v := .tuple #[.agg #[.int .i64 0, .int .i64 0, .string ⟨#[]⟩], .int .i64 6]) (by simp [results, Tryd.results15, go_sem, E0.out, E1.out, E2.out]) rfl ⟨rfl, ?_, ?_⟩
    · exact P3.out.keep (((keep_set wc w.heap.size 0 _).own 1 _).own 2 _) (by omega)
    · exact Keep.of_below _ (below_three B3.out (Nat.le_refl _) _ _ _)


/-- The window behind a Take. -/
def tookT (t : Int) (x : Frm × Int) : Int := if x.2 = 0 then max t x.1.seq else t
def tookS (t : Int) (s : Nat) (x : Frm × Int) : Nat := if x.2 = 0 then markS t s x.1.seq else s

theorem ptake_any {p : Nat} {key : ByteArray} {way sent t : Int} {s : Nat} (b : ByteArray) (w : World) (fresh : Int → Bool) (hfr : ∀ n, freshB t s n = fresh n) (h : PortAt w p key way sent t s) (hw : way = 1 ∨ way = 2) (hr : Roots w) (hk : key.size ≤ 90000) (hb : b.size ≤ 90000)
    (hs : s < 18446744073709551616) (h0 : 0 ≤ t) (h1 : t ≤ 4611686018427387904) :
    TakeTold w p key b (takeL key.data.toList b.data.toList way fresh).1 (takeL key.data.toList b.data.toList way fresh).2 key way sent (tookT t (takeL key.data.toList b.data.toList way fresh)) (tookS t s (takeL key.data.toList b.data.toList way fresh)) := by
  have hrd := fun W hW => frmread_any key b W hW hk hb
  obtain ⟨⟨fw, fs, fb⟩, e, he⟩ : ∃ f e, readL key.data.toList b.data.toList = (f, e) := ⟨_, _, rfl⟩
  unfold takeL
  rw [he] at hrd ⊢
  simp only at hrd ⊢
  by_cases h2 : e = 0
  · subst h2
    rw [if_pos rfl]
    by_cases h3 : fw = way
    · rw [if_pos h3]
      exact take_own b w fw fs fb 0 h hw hr hrd rfl (by simp [h3])
    · rw [if_neg h3]
      have hne : (fw == way) = false := by simpa using h3
      cases hf : fresh fs
      · rw [if_neg (by simp)]
        have hm := fun W => win_mark_not t s fs W hs h0 h1 (by rw [hfr]; exact hf)
        exact take_old b w fw fs fb 0 h hw hr hrd rfl hne t s hm
      · rw [if_pos rfl]
        have hm := fun W => win_take t s fs (max t fs) (markS t s fs) W hs h0 h1 (by rw [hfr]; exact hf) rfl rfl
        exact take_new b w fw fs fb 0 h hw hr hrd rfl hne (max t fs) (markS t s fs) hm
  · rw [if_neg h2]
    have hx := take_err b w fw fs fb e h hw hr hrd (by simpa using h2)
    unfold tookT tookS
    rw [if_neg h2, if_neg h2]
    exact hx

end Go.Proofs.YtncpjapfkcgjnaaDoor
