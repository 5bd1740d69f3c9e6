/- pontoonbook.Book: lists of Cells. By program (bk.py). Own work. -/
import Derived.Test.YtbjdcbnmpmcdiaaBkMark
import Derived.Test.YtbjdcbnmpmcdiaaBkSCells
import Derived.Deep.QuietTactic
import Derived.BigQuiet
import Derived.Deep.RegionHeld3
namespace Go.Proofs.Ytbjdcbnmpmcdiaa
set_option linter.unusedVariables false
set_option linter.unusedSimpArgs false
open Go.RowKit

theorem bookinfo_Cells : (Try.prog.info? 43).map (fun i => (i.zero, i.size, i.bytes)) = some (some (.slice none 0 0), 1, 24) := by kernel_rfl

set_option maxRecDepth 100000 in
set_option maxHeartbeats 1600000 in
theorem still_Cells (rd : Nat → Prop) (w : World) (q : Nat) (own : Nat → Prop) (tA wA : Option Addr) (tc wc : Nat) (its ws : List ItZ) (h : KS 6 10 (SmCells rd) w q own tA tc wA wc its ws) (hr : ∀ i, rd i → i < w.heap.size) (hfew : its.length ≤ 250) :
    Calls Try.prog 65 #[.pointer (some ⟨q, 0, none⟩)] w fun e w' => e = .returned (.bool true) ∧ ∃ k, w' = w.drewN k := by
  have c0 := h.b0.1
  have c1 := h.b1.1
  have hsd : ∀ p, KS 6 10 (SmCells rd) (w.drewN p) q own tA tc wA wc its ws := fun p => h.keep (S := fun _ => False) (smkept_Cells rd) ((Keep.refl _ w).drewN p) (fun _ _ x => x) (fun x => x) (fun i hi => ⟨hr i hi, fun x => x⟩)
  have HSD := Lib.hid hsd
  have H := Lib.hid h
  have HSS : Hid (∀ p j a b, SmCells rd (w.drewN p) a b → SmCells rd ((w.drewN p).drewN j) a b) := Lib.hid (fun p j a b hab => smkept_Cells rd (fun _ => False) _ _ ((Keep.refl _ (w.drewN p)).drewN j) (fun i hi => ⟨hr i hi, fun x => x⟩) a b hab)
  obtain ⟨n, hn⟩ : ∃ n, n = its.length := ⟨_, rfl⟩
  have HN := Lib.hid hn
  rw [← hn] at c0 c1 hfew
  clear h hn hsd
  go_enter Try.func65, Try.ntmps65
  go_wp2_with fail
  go_loopw [3] (fun i wr => ∃ (k p : Nat), i = .int .i64 k ∧ k ≤ n ∧ Hid (wr = w.drewN p)) (fun i _ => n - (intOf i).toNat)
  case atStart => exact ⟨0, 0, rfl, by omega, rfl⟩
  case round =>
    obtain ⟨k, p, rfl, hk, HE⟩ := hrel
    have HR : Hid (KS 6 10 (SmCells rd) wr q own tA tc wA wc its ws) := Lib.hid (by rw [HE.out]; exact HSD.out p)
    have c0 := HR.out.b0.1
    have c1 := HR.out.b1.1
    rw [← HN.out] at c0 c1
    by_cases hlt : k < n
    · obtain ⟨it, hit⟩ : ∃ it, its[k]? = some it := ⟨its[k]'(by rw [← HN.out]; exact hlt), List.getElem?_eq_getElem _⟩
      obtain ⟨wt, hwt⟩ : ∃ wt, ws[k]? = some wt := ⟨ws[k]'(by rw [H.out.lw, ← HN.out]; exact hlt), List.getElem?_eq_getElem _⟩
      obtain ⟨b1, o1, rfl, _, r1⟩ := HR.out.rows.some_of (by rw [← HN.out]; omega)
      obtain ⟨b2, o2, rfl, _, r2⟩ := HR.out.was.some_of (by rw [← HN.out]; omega)
      have x1 : wr.cell? ⟨b1, o1 + k, none⟩ = some (.slice it.A it.n it.c) := r1.val k _ (by rw [List.getElem?_map, hit]; rfl)
      have x2 : wr.cell? ⟨b2, o2 + k, none⟩ = some (.slice wt.A wt.n wt.c) := r2.val k _ (by rw [List.getElem?_map, hwt]; rfl)
      obtain ⟨sn, sx⟩ := HR.out.same k it wt hit hwt
      have HS : Hid (∀ j, Calls Try.prog 32 #[.slice it.A it.n it.c, .slice wt.A wt.n wt.c] (wr.drewN j) fun e w' => e = .returned (.bool true) ∧ ∃ k, w' = (wr.drewN j).drewN k) := Lib.hid (fun j => by
        have i1 := (HR.out.item it (List.mem_of_getElem? hit))
        have i2 := (HR.out.copy wt (List.mem_of_getElem? hwt))
        have j1 := i1.1.keep (S := fun _ => False) ((Keep.refl _ wr).drewN j) (fun _ _ x => x)
        have j2 := i2.keep (S := fun _ => False) ((Keep.refl _ wr).drewN j) (fun _ _ x => x)
        have sx' : SmCells rd (wr.drewN j) it.us wt.us := by
          have e := HE.out
          subst e
          exact HSS.out p j _ _ sx
        rw [sn] at j2 ⊢
        exact same'_Cells rd it.A wt.A it.n it.c wt.c it.us wt.us (wr.drewN j) j1.src j2.src sx' (by have := i1.2; omega))
      have hki : ((k : Int) < (n : Int)) := by omega
      have hk0 : (0 : Int) ≤ (k : Int) := by omega
      clear r1 r2 hit hwt sn sx
      go_wp2_with fail
      go_quiet ((go_at_call 32; exact Calls.quiet_of (HS.out _)))
      go_wp2_with fail
      go_roundw
      case rel => exact ⟨k + 1, p + nq, by go_num, by omega, Lib.hid (by rw [HE.out]; simp [World.drewN, Nat.add_assoc])⟩
      case measure => simp [intOf]; omega
    · go_wp2_with fail
      go_ret
      exact ⟨rfl, p, HE.out⟩

set_option maxRecDepth 100000 in
set_option maxHeartbeats 1600000 in
theorem puts_Cells (w : World) (q : Nat) (own : Nat → Prop) (A : Option Addr) (c : Nat) (its : List ItZ) (f : Nat → List Value) (h : TxZ 6 10 w q own A c its f) (hfew : its.length ≤ 250) :
    Calls Try.prog 74 #[.pointer (some ⟨q, 0, none⟩)] w fun e w' => e = .returned (.tuple #[]) ∧ ∃ f', TxZ 6 10 w' q own A c its f' ∧ Keep own w w' ∧ ∀ (j : Nat) (it : ItZ), its[j]? = some it → f' j = marksZ mkCells j 0 it.n := by
  have c0 := h.c0
  have H := Lib.hid h
  obtain ⟨n, hn⟩ : ∃ n, n = its.length := ⟨_, rfl⟩
  have HN := Lib.hid hn
  rw [← hn] at c0 hfew
  clear h hn
  go_enter Try.func74, Try.ntmps74
  go_wp2_with fail
  go_loopw [2] (fun i wr => ∃ (k : Nat) (g : Nat → List Value), i = .int .i64 k ∧ k ≤ n ∧ Hid (TxZ 6 10 wr q own A c its g) ∧ Hid (Keep own w wr) ∧ Hid (∀ (j : Nat) (it : ItZ), j < k → its[j]? = some it → g j = marksZ mkCells j 0 it.n)) (fun i _ => n - (intOf i).toNat)
  case atStart => exact ⟨0, f, rfl, Nat.zero_le _, H, Keep.refl _ _, fun j it hj => absurd hj (by omega)⟩
  case round =>
    obtain ⟨k, g, rfl, hk, HT, HK, HM⟩ := hrel
    obtain ⟨wo, rfl⟩ : ∃ wo : World, wo = wr := ⟨_, rfl⟩
    have c1 := HT.out.c0
    rw [← HN.out] at c1
    by_cases hlt : k < n
    · obtain ⟨it, hit⟩ : ∃ it, its[k]? = some it := ⟨its[k]'(by rw [← HN.out]; exact hlt), List.getElem?_eq_getElem _⟩
      have hmem := List.mem_of_getElem? hit
      obtain ⟨b1, o1, rfl, _, r1⟩ := HT.out.rows.some_of (by rw [← HN.out]; omega)
      have x1 : wo.cell? ⟨b1, o1 + k, none⟩ = some (.slice it.A it.n it.c) := r1.val k _ (by rw [List.getElem?_map, hit]; rfl)
      have hki : ((k : Int) < (n : Int)) := by omega
      have hk0 : (0 : Int) ≤ (k : Int) := by omega
      have hfw : it.n ≤ 4000 := HT.out.few it hmem
      have HC : Hid (∀ W, Calls Try.prog 106 #[.int .i64 k, .int .i64 0, .int .i64 it.n] W fun e w' => ∃ v, e = .returned v ∧ w'.ownsRow W.heap.size 42 6 v it.n (marksZ mkCells k 0 it.n) ∧ Below W.heap.size W w') := fun W => by simpa using marks_Cells k 0 it.n W (by omega) (by omega)
      clear r1
      go_wp2_with fail
      refine (HC.out _).mono ?_
      rintro e w1 ⟨v, rfl, ow, be⟩
      obtain ⟨mA, mc, rfl, -⟩ := own_form ow
      have HB := Lib.hid (BufZ.of_own ow)
      have HL : Hid (∀ y, blk mA = some y → wo.heap.size ≤ y) := fun y hy => (ow.lt y (by rw [ownBlock_slice]; exact hy)).1
      have HT1 := Lib.hid (HT.out.keep (Keep.of_below (fun _ => False) be) (fun _ _ x => x) (fun x => x))
      have HK1 := Lib.hid (HK.out.trans (Keep.of_below (fun _ => False) be) (fun _ _ x => x.elim))
      have hlen : (g k).length = it.n * 6 := (HT.out.item k it hit).len
      clear ow be x1 c1
      have HLN := Lib.hid hlen
      clear hlen
      go_wp2_with fail
      go_loopw [4] (fun i wr => ∃ (j : Nat) (g' : Nat → List Value), i = .int .i64 j ∧ j ≤ it.n ∧ Hid (TxZ 6 10 wr q own (some ⟨b1, o1, none⟩) c its g') ∧ Hid (Keep own w wr) ∧ Hid (BufZ 6 wr mA it.n mc (marksZ mkCells k 0 it.n)) ∧ Hid (∀ (y : Nat) (jt : ItZ), y < k → its[y]? = some jt → g' y = marksZ mkCells y 0 jt.n) ∧ Hid ((g' k).take (j * 6) = (marksZ mkCells k 0 it.n).take (j * 6)) ∧ Hid ((g' k).length = it.n * 6)) (fun i _ => it.n - (intOf i).toNat)
      case atStart => exact ⟨0, g, rfl, Nat.zero_le _, HT1, HK1, HB, HM, Lib.hid (by simp), HLN⟩
      case round =>
        obtain ⟨j, g', rfl, hj, HT2, HK2, HB2, HM2, HP2, HQ2⟩ := hrel
        by_cases hjl : j < it.n
        · obtain ⟨b, off, hA, hb, hr⟩ := (HT2.out.item k it hit).some_of (by omega)
          obtain ⟨b1', o1', e1, _, r1⟩ := HT2.out.rows.some_of (by rw [← HN.out]; omega)
          injection e1 with e1; injection e1 with e1 e2; subst e1 e2
          obtain ⟨mb, mo, rfl, hmb, mr⟩ := HB2.out.some_of (by omega)
          have hjz : j * 6 + 6 ≤ it.n * 6 := by
            have := Nat.mul_le_mul_right 6 hjl
            rw [Nat.succ_mul] at this; exact this
          have hnc : it.n * 6 ≤ it.c * 6 := Nat.mul_le_mul_right 6 hr.le
          obtain ⟨m, hmk⟩ := mkshape_Cells k j
          have HMK := Lib.hid hmk
          have d0 := HT2.out.c0
          rw [← HN.out] at d0
          have d1 : wr.cell? ⟨b1, o1 + k, none⟩ = some (.slice (some ⟨b, off, none⟩) it.n it.c) := by rw [← hA]; exact r1.val k _ (by rw [List.getElem?_map, hit]; rfl)
          have d20 : wr.cell? ⟨mb, mo + j * 6, none⟩ = some (.int .i32 m) := by have := mr.val (j * 6 + 0) _ ((MarkOk.at' mkok_Cells k 0 it.n j 0 hjl (by omega)).trans (by rw [Nat.zero_add, HMK.out]; rfl)); simpa [← Nat.add_assoc] using this
          have d21 : wr.cell? ⟨mb, mo + j * 6 + 1, none⟩ = some (.int .i64 0) := by have := mr.val (j * 6 + 1) _ ((MarkOk.at' mkok_Cells k 0 it.n j 1 hjl (by omega)).trans (by rw [Nat.zero_add, HMK.out]; rfl)); simpa [← Nat.add_assoc] using this
          have d22 : wr.cell? ⟨mb, mo + j * 6 + 2, none⟩ = some (.int .i64 0) := by have := mr.val (j * 6 + 2) _ ((MarkOk.at' mkok_Cells k 0 it.n j 2 hjl (by omega)).trans (by rw [Nat.zero_add, HMK.out]; rfl)); simpa [← Nat.add_assoc] using this
          have d23 : wr.cell? ⟨mb, mo + j * 6 + 3, none⟩ = some (.bool false) := by have := mr.val (j * 6 + 3) _ ((MarkOk.at' mkok_Cells k 0 it.n j 3 hjl (by omega)).trans (by rw [Nat.zero_add, HMK.out]; rfl)); simpa [← Nat.add_assoc] using this
          have d24 : wr.cell? ⟨mb, mo + j * 6 + 4, none⟩ = some (.bool false) := by have := mr.val (j * 6 + 4) _ ((MarkOk.at' mkok_Cells k 0 it.n j 4 hjl (by omega)).trans (by rw [Nat.zero_add, HMK.out]; rfl)); simpa [← Nat.add_assoc] using this
          have d25 : wr.cell? ⟨mb, mo + j * 6 + 5, none⟩ = some (.bool false) := by have := mr.val (j * 6 + 5) _ ((MarkOk.at' mkok_Cells k 0 it.n j 5 hjl (by omega)).trans (by rw [Nat.zero_add, HMK.out]; rfl)); simpa [← Nat.add_assoc] using this
          have hst : ∀ t, t < 6 → (wr.cell? ⟨b, off + (j * 6 + t), none⟩).isSome = true ∧ wr.frozen? ⟨b, off + (j * 6 + t), none⟩ = false := fun t ht => hr.can (j * 6 + t) (by omega)
          obtain ⟨u0, d30⟩ := Option.isSome_iff_exists.1 (hst 0 (by omega)).1
          have d40 := (hst 0 (by omega)).2
          simp only [← Nat.add_assoc, Nat.mul_one, Nat.add_zero] at d30 d40
          obtain ⟨u1, d31⟩ := Option.isSome_iff_exists.1 (hst 1 (by omega)).1
          have d41 := (hst 1 (by omega)).2
          simp only [← Nat.add_assoc, Nat.mul_one, Nat.add_zero] at d31 d41
          obtain ⟨u2, d32⟩ := Option.isSome_iff_exists.1 (hst 2 (by omega)).1
          have d42 := (hst 2 (by omega)).2
          simp only [← Nat.add_assoc, Nat.mul_one, Nat.add_zero] at d32 d42
          obtain ⟨u3, d33⟩ := Option.isSome_iff_exists.1 (hst 3 (by omega)).1
          have d43 := (hst 3 (by omega)).2
          simp only [← Nat.add_assoc, Nat.mul_one, Nat.add_zero] at d33 d43
          obtain ⟨u4, d34⟩ := Option.isSome_iff_exists.1 (hst 4 (by omega)).1
          have d44 := (hst 4 (by omega)).2
          simp only [← Nat.add_assoc, Nat.mul_one, Nat.add_zero] at d34 d44
          obtain ⟨u5, d35⟩ := Option.isSome_iff_exists.1 (hst 5 (by omega)).1
          have d45 := (hst 5 (by omega)).2
          simp only [← Nat.add_assoc, Nat.mul_one, Nat.add_zero] at d35 d45
          have hbk : blk it.A = some b := by rw [hA]; rfl
          have n1 := HT2.out.d3 it hmem b hbk
          have hob := HT2.out.oI it hmem b hbk
          have nq : q ≠ b := fun e => HT2.out.nq (e ▸ hob)
          have nm : mb ≠ b := fun e => by have := HL.out mb rfl; have := HT.out.lt b hob; omega
          have hpl := HT2.out.lt b hob
          have KW : Keep (fun x => x = b) wr ((((((wr.setCell ⟨b, off + j * 6, none⟩ (.int .i32 m)).setCell ⟨b, off + j * 6 + 1, none⟩ (.int .i64 0)).setCell ⟨b, off + j * 6 + 2, none⟩ (.int .i64 0)).setCell ⟨b, off + j * 6 + 3, none⟩ (.bool false)).setCell ⟨b, off + j * 6 + 4, none⟩ (.bool false)).setCell ⟨b, off + j * 6 + 5, none⟩ (.bool false)) := (by have := (keep_setCells (S := fun x => x = b) b (fun _ => rfl) [(.int .i32 m), (.int .i64 0), (.int .i64 0), (.bool false), (.bool false), (.bool false)] (off + j * 6) wr (Keep.refl _ wr)); simpa [World.setCells, ← Nat.add_assoc] using this)
          have HS : Hid ((fun w' : World => w'.cell? ⟨q, 10, none⟩ = some (.slice (some ⟨b1, o1, none⟩) n c) ∧ w'.cell? ⟨b1, o1 + k, none⟩ = some (.slice (some ⟨b, off, none⟩) it.n it.c) ∧ w'.cell? ⟨mb, mo + j * 6, none⟩ = some (.int .i32 m) ∧ w'.cell? ⟨mb, mo + j * 6 + 1, none⟩ = some (.int .i64 0) ∧ w'.cell? ⟨mb, mo + j * 6 + 2, none⟩ = some (.int .i64 0) ∧ w'.cell? ⟨mb, mo + j * 6 + 3, none⟩ = some (.bool false) ∧ w'.cell? ⟨mb, mo + j * 6 + 4, none⟩ = some (.bool false) ∧ w'.cell? ⟨mb, mo + j * 6 + 5, none⟩ = some (.bool false)) ((((((wr.setCell ⟨b, off + j * 6, none⟩ (.int .i32 m)).setCell ⟨b, off + j * 6 + 1, none⟩ (.int .i64 0)).setCell ⟨b, off + j * 6 + 2, none⟩ (.int .i64 0)).setCell ⟨b, off + j * 6 + 3, none⟩ (.bool false)).setCell ⟨b, off + j * 6 + 4, none⟩ (.bool false)).setCell ⟨b, off + j * 6 + 5, none⟩ (.bool false)).drew) := by
            refine ⟨(KW.drew.cell (p := ⟨q, 10, none⟩) HT2.out.lq (fun e => nq e)).trans d0, (KW.drew.cell (p := ⟨b1, o1 + k, none⟩) (HT2.out.lt b1 (HT2.out.oA b1 rfl)) (fun e => n1 (by rw [show b = b1 from e.symm]; rfl))).trans d1, (KW.drew.cell (p := ⟨mb, mo + j * 6, none⟩) hmb (fun e => nm e)).trans d20, (KW.drew.cell (p := ⟨mb, mo + j * 6 + 1, none⟩) hmb (fun e => nm e)).trans d21, (KW.drew.cell (p := ⟨mb, mo + j * 6 + 2, none⟩) hmb (fun e => nm e)).trans d22, (KW.drew.cell (p := ⟨mb, mo + j * 6 + 3, none⟩) hmb (fun e => nm e)).trans d23, (KW.drew.cell (p := ⟨mb, mo + j * 6 + 4, none⟩) hmb (fun e => nm e)).trans d24, (KW.drew.cell (p := ⟨mb, mo + j * 6 + 5, none⟩) hmb (fun e => nm e)).trans d25⟩
          have HR : Hid (TxZ 6 10 ((((((wr.setCell ⟨b, off + j * 6, none⟩ (.int .i32 m)).setCell ⟨b, off + j * 6 + 1, none⟩ (.int .i64 0)).setCell ⟨b, off + j * 6 + 2, none⟩ (.int .i64 0)).setCell ⟨b, off + j * 6 + 3, none⟩ (.bool false)).setCell ⟨b, off + j * 6 + 4, none⟩ (.bool false)).setCell ⟨b, off + j * 6 + 5, none⟩ (.bool false)).drew q own (some ⟨b1, o1, none⟩) c its (fun y => if y = k then (g' k).take (j * 6) ++ [(.int .i32 m), (.int .i64 0), (.int .i64 0), (.bool false), (.bool false), (.bool false)] ++ (g' k).drop (j * 6 + 6) else g' y)) := Lib.hid (TxZ.keep (S := fun _ => False) (by have := TxZ.set HT2.out hit hA hjl [(.int .i32 m), (.int .i64 0), (.int .i64 0), (.bool false), (.bool false), (.bool false)] rfl; simpa [World.setCells, ← Nat.add_assoc] using this) ((Keep.refl _ _).drew) (fun _ _ x => x) (fun x => x))
          have HKR : Hid (Keep own w ((((((wr.setCell ⟨b, off + j * 6, none⟩ (.int .i32 m)).setCell ⟨b, off + j * 6 + 1, none⟩ (.int .i64 0)).setCell ⟨b, off + j * 6 + 2, none⟩ (.int .i64 0)).setCell ⟨b, off + j * 6 + 3, none⟩ (.bool false)).setCell ⟨b, off + j * 6 + 4, none⟩ (.bool false)).setCell ⟨b, off + j * 6 + 5, none⟩ (.bool false)).drew) := Lib.hid (HK2.out.trans KW.drew (fun y _ e => by rw [show y = b from e]; exact hob))
          have HBR : Hid (BufZ 6 ((((((wr.setCell ⟨b, off + j * 6, none⟩ (.int .i32 m)).setCell ⟨b, off + j * 6 + 1, none⟩ (.int .i64 0)).setCell ⟨b, off + j * 6 + 2, none⟩ (.int .i64 0)).setCell ⟨b, off + j * 6 + 3, none⟩ (.bool false)).setCell ⟨b, off + j * 6 + 4, none⟩ (.bool false)).setCell ⟨b, off + j * 6 + 5, none⟩ (.bool false)).drew (some ⟨mb, mo, none⟩) it.n mc (marksZ mkCells k 0 it.n)) := Lib.hid (HB2.out.keep KW.drew (fun y hy e => by injection hy with hy; exact nm (hy.trans e)))
          have hji : ((j : Int) < (it.n : Int)) := by omega
          have hj0 : (0 : Int) ≤ (j : Int) := by omega
          have HJZ := Lib.hid hjz
          clear hr r1 mr hA nq n1 nm hbk hst hjz hnc hmk KW
          go_wp2_with fail
          refine wp_region_noPanic ?_
          refine wp_region_held_drew (S := fun w' => w'.cell? ⟨q, 10, none⟩ = some (.slice (some ⟨b1, o1, none⟩) n c) ∧ w'.cell? ⟨b1, o1 + k, none⟩ = some (.slice (some ⟨b, off, none⟩) it.n it.c) ∧ w'.cell? ⟨mb, mo + j * 6, none⟩ = some (.int .i32 m) ∧ w'.cell? ⟨mb, mo + j * 6 + 1, none⟩ = some (.int .i64 0) ∧ w'.cell? ⟨mb, mo + j * 6 + 2, none⟩ = some (.int .i64 0) ∧ w'.cell? ⟨mb, mo + j * 6 + 3, none⟩ = some (.bool false) ∧ w'.cell? ⟨mb, mo + j * 6 + 4, none⟩ = some (.bool false) ∧ w'.cell? ⟨mb, mo + j * 6 + 5, none⟩ = some (.bool false)) (by kernel_rfl) ⟨d0, d1, d20, d21, d22, d23, d24, d25⟩ (fun hHeld => ?_)
          refine wpAnyH_take (i := 0) (oi := _) (v := ?va0) rfl (by kernel_rfl) (by kernel_rfl) (by kernel_rfl) (fun _ _ _ h => h) (Or.inl ⟨by rfl, ?hya0⟩) (by assumption) ?resta0
          case hya0 => (intro w hSw; (try dsimp only at hSw); (try simp only [List.getElem_toArray, List.getElem_cons_zero, List.getElem_cons_succ]); go_simp; (try with_reducible rfl))
          (try simp only [Act.put, List.setIfInBounds_toArray, List.set_cons_zero, List.set_cons_succ, List.getElem_toArray, List.getElem_cons_zero, List.getElem_cons_succ])
          refine wpAnyH_take (i := 1) (oi := _) (v := ?va1) rfl (by kernel_rfl) (by kernel_rfl) (by kernel_rfl) (fun _ _ _ h => h) (Or.inl ⟨by rfl, ?hya1⟩) (by assumption) ?resta1
          case hya1 => (intro w hSw; (try dsimp only at hSw); (try simp only [List.getElem_toArray, List.getElem_cons_zero, List.getElem_cons_succ]); go_simp; (try with_reducible rfl))
          (try simp only [Act.put, List.setIfInBounds_toArray, List.set_cons_zero, List.set_cons_succ, List.getElem_toArray, List.getElem_cons_zero, List.getElem_cons_succ])
          refine wpAnyH_take (i := 2) (oi := _) (v := ?va2) rfl (by kernel_rfl) (by kernel_rfl) (by kernel_rfl) (fun _ _ _ h => h) (Or.inl ⟨by rfl, ?hya2⟩) (by assumption) ?resta2
          case hya2 => (intro w hSw; (try dsimp only at hSw); (try simp only [List.getElem_toArray, List.getElem_cons_zero, List.getElem_cons_succ]); go_simp; (try with_reducible rfl))
          (try simp only [Act.put, List.setIfInBounds_toArray, List.set_cons_zero, List.set_cons_succ, List.getElem_toArray, List.getElem_cons_zero, List.getElem_cons_succ])
          refine wpAnyH_take (i := 3) (oi := _) (v := ?va3) rfl (by kernel_rfl) (by kernel_rfl) (by kernel_rfl) (fun _ _ _ h => h) (Or.inl ⟨by rfl, ?hya3⟩) (by assumption) ?resta3
          case hya3 => (intro w hSw; (try dsimp only at hSw); (try simp only [List.getElem_toArray, List.getElem_cons_zero, List.getElem_cons_succ]); go_simp; (try with_reducible rfl))
          (try simp only [Act.put, List.setIfInBounds_toArray, List.set_cons_zero, List.set_cons_succ, List.getElem_toArray, List.getElem_cons_zero, List.getElem_cons_succ])
          refine wpAnyH_take (i := 4) (oi := _) (v := ?va4) rfl (by kernel_rfl) (by kernel_rfl) (by kernel_rfl) (fun _ _ _ h => h) (Or.inl ⟨by rfl, ?hya4⟩) (by assumption) ?resta4
          case hya4 => (intro w hSw; (try dsimp only at hSw); (try simp only [List.getElem_toArray, List.getElem_cons_zero, List.getElem_cons_succ]); go_simp; (try with_reducible rfl))
          (try simp only [Act.put, List.setIfInBounds_toArray, List.set_cons_zero, List.set_cons_succ, List.getElem_toArray, List.getElem_cons_zero, List.getElem_cons_succ])
          refine wpAnyH_take (i := 5) (oi := _) (v := ?va5) rfl (by kernel_rfl) (by kernel_rfl) (by kernel_rfl) (fun _ _ _ h => h) (Or.inl ⟨by rfl, ?hya5⟩) (by assumption) ?resta5
          case hya5 => (intro w hSw; (try dsimp only at hSw); (try simp only [List.getElem_toArray, List.getElem_cons_zero, List.getElem_cons_succ]); go_simp; (try with_reducible rfl))
          (try simp only [Act.put, List.setIfInBounds_toArray, List.set_cons_zero, List.set_cons_succ, List.getElem_toArray, List.getElem_cons_zero, List.getElem_cons_succ])
          refine wpAnyH_take (i := 6) (oi := _) (v := ?va6) rfl (by kernel_rfl) (by kernel_rfl) (by kernel_rfl) (fun _ _ _ h => h) (Or.inl ⟨by rfl, ?hya6⟩) (by assumption) ?resta6
          case hya6 => (intro w hSw; (try dsimp only at hSw); (try simp only [List.getElem_toArray, List.getElem_cons_zero, List.getElem_cons_succ]); go_simp; (try with_reducible rfl))
          (try simp only [Act.put, List.setIfInBounds_toArray, List.set_cons_zero, List.set_cons_succ, List.getElem_toArray, List.getElem_cons_zero, List.getElem_cons_succ])
          refine wpAnyH_take (i := 7) (oi := _) (v := ?va7) rfl (by kernel_rfl) (by kernel_rfl) (by kernel_rfl) (fun _ _ _ h => h) (Or.inl ⟨by rfl, ?hya7⟩) (by assumption) ?resta7
          case hya7 => (intro w hSw; (try dsimp only at hSw); (try simp only [List.getElem_toArray, List.getElem_cons_zero, List.getElem_cons_succ]); go_simp; (try with_reducible rfl))
          (try simp only [Act.put, List.setIfInBounds_toArray, List.set_cons_zero, List.set_cons_succ, List.getElem_toArray, List.getElem_cons_zero, List.getElem_cons_succ])
          refine wpAnyH_take (i := 8) (oi := _) (v := ?va8) rfl (by kernel_rfl) (by kernel_rfl) (by kernel_rfl) (fun _ _ _ h => h) (Or.inl ⟨by rfl, ?hya8⟩) (by assumption) ?resta8
          case hya8 => (intro w hSw; (try dsimp only at hSw); (try simp only [List.getElem_toArray, List.getElem_cons_zero, List.getElem_cons_succ]); go_simp; (try with_reducible rfl))
          (try simp only [Act.put, List.setIfInBounds_toArray, List.set_cons_zero, List.set_cons_succ, List.getElem_toArray, List.getElem_cons_zero, List.getElem_cons_succ])
          refine wpAnyH_take (i := 9) (oi := _) (v := ?va9) rfl (by kernel_rfl) (by kernel_rfl) (by kernel_rfl) (fun _ _ _ h => h) (Or.inl ⟨by rfl, ?hya9⟩) (by assumption) ?resta9
          case hya9 => (intro w hSw; (try dsimp only at hSw); (try simp only [List.getElem_toArray, List.getElem_cons_zero, List.getElem_cons_succ]); go_simp; (try with_reducible rfl))
          (try simp only [Act.put, List.setIfInBounds_toArray, List.set_cons_zero, List.set_cons_succ, List.getElem_toArray, List.getElem_cons_zero, List.getElem_cons_succ])
          refine wpAnyH_take (i := 10) (oi := _) (v := ?va10) rfl (by kernel_rfl) (by kernel_rfl) (by kernel_rfl) (fun _ _ _ h => h) (Or.inl ⟨by rfl, ?hya10⟩) (by assumption) ?resta10
          case hya10 => (intro w hSw; (try dsimp only at hSw); (try simp only [List.getElem_toArray, List.getElem_cons_zero, List.getElem_cons_succ]); go_simp; (try with_reducible rfl))
          (try simp only [Act.put, List.setIfInBounds_toArray, List.set_cons_zero, List.set_cons_succ, List.getElem_toArray, List.getElem_cons_zero, List.getElem_cons_succ])
          refine wpAnyH_take (i := 11) (oi := _) (v := ?va11) rfl (by kernel_rfl) (by kernel_rfl) (by kernel_rfl) (fun _ _ _ h => h) (Or.inl ⟨by rfl, ?hya11⟩) (by assumption) ?resta11
          case hya11 => (intro w hSw; (try dsimp only at hSw); (try simp only [List.getElem_toArray, List.getElem_cons_zero, List.getElem_cons_succ]); go_simp; (try with_reducible rfl))
          (try simp only [Act.put, List.setIfInBounds_toArray, List.set_cons_zero, List.set_cons_succ, List.getElem_toArray, List.getElem_cons_zero, List.getElem_cons_succ])
          refine wpAnyH_take (i := 12) (oi := _) (v := ?va12) rfl (by kernel_rfl) (by kernel_rfl) (by kernel_rfl) (fun _ _ _ h => h) (Or.inl ⟨by rfl, ?hya12⟩) (by assumption) ?resta12
          case hya12 => (intro w hSw; (try dsimp only at hSw); (try simp only [List.getElem_toArray, List.getElem_cons_zero, List.getElem_cons_succ]); go_simp; (try with_reducible rfl))
          (try simp only [Act.put, List.setIfInBounds_toArray, List.set_cons_zero, List.set_cons_succ, List.getElem_toArray, List.getElem_cons_zero, List.getElem_cons_succ])
          refine wpAnyH_ready (rs := [13]) (by kernel_rfl) (by simp) ?_
          refine AllReadyH.cons (o := _) rfl (fun K hK => ?_) AllReadyH.nil
          (try simp only [List.getElem_toArray, List.getElem_cons_zero, List.getElem_cons_succ])
          go_simp
          refine hK.out _ _ ?_ (fun hHeld => ?_)
          · exact HS.out
          clear hK K
          (try simp only [Act.put, List.setIfInBounds_toArray, List.set_cons_zero, List.set_cons_succ, List.getElem_toArray, List.getElem_cons_zero, List.getElem_cons_succ])
          refine wpAnyH_done (by kernel_rfl) ?_ _

          refine NoPanic.normal ?_
          go_wp2_with fail
          go_roundw
          case rel => exact ⟨j + 1, _, by go_num, by omega, HR, HKR, HBR, (fun y jt hy hjt => by
            simp only [if_neg (show y ≠ k by omega)]; exact HM2.out y jt hy hjt), Lib.hid (by
            simp only [if_pos]
            rw [Nat.succ_mul]
            exact take_setz HP2.out (by rw [HQ2.out]; exact HJZ.out) rfl (fun t ht => by rw [MarkOk.at' mkok_Cells k 0 it.n j t hjl ht, Nat.zero_add, HMK.out])), Lib.hid (by
            have := HJZ.out
            simp only [if_pos, List.length_append, List.length_take, List.length_drop, HQ2.out, List.length_cons, List.length_nil]; omega)⟩
          case measure => simp [intOf]; omega
        · have ej : j = it.n := by omega
          have HM3 : Hid (∀ (y : Nat) (jt : ItZ), y < k + 1 → its[y]? = some jt → g' y = marksZ mkCells y 0 jt.n) := fun y jt hy hjt => by
            by_cases e : y = k
            · subst e
              rw [hit] at hjt; injection hjt with hjt; subst hjt
              have := HP2.out
              rw [ej, List.take_of_length_le (by rw [HQ2.out]; exact Nat.le_refl _), List.take_of_length_le (by rw [MarkOk.marks mkok_Cells]; exact Nat.le_refl _)] at this
              exact this
            · exact HM2.out y jt (by omega) hjt
          clear ej
          go_wp2_with fail
          go_roundw
          case rel => exact ⟨k + 1, g', by go_num, by omega, HT2, HK2, HM3⟩
          case measure => simp [intOf]; omega
    · have HE : Hid (∀ (j : Nat) (it : ItZ), its[j]? = some it → g j = marksZ mkCells j 0 it.n) := fun j it hj => HM.out j it (by
        have := (List.getElem?_eq_some_iff.1 hj).1
        have := HN.out
        omega) hj
      go_wp2_with fail
      go_end0
      exact ⟨rfl, g, HT.out, HK.out, HE.out⟩

set_option maxRecDepth 100000 in
set_option maxHeartbeats 1600000 in
theorem grow_Cells (w : World) (q : Nat) (own : Nat → Prop) (A : Option Addr) (c : Nat) (its : List ItZ) (f : Nat → List Value) (h : TxZ 6 10 w q own A c its f) (hM : ∀ (j : Nat) (it : ItZ), its[j]? = some it → f j = marksZ mkCells j 0 it.n) (hfew : its.length ≤ 250) :
    Calls Try.prog 81 #[.pointer (some ⟨q, 0, none⟩)] w fun e w' => ∃ O oc gs, e = .returned (.slice O its.length oc) ∧ GiZ 6 10 mkCells w w' q own A c its O oc gs its.length := by
  obtain ⟨i0, hi0, hz0, hz1, hz2⟩ := info_parts info_Cells
  obtain ⟨i1, hi1, hy0, hy1, hy2⟩ := info_parts bookinfo_Cells
  have c0 := h.c0
  have G := Lib.hid (GiZ.start h hM)
  have H := Lib.hid h
  obtain ⟨n, hn⟩ : ∃ n, n = its.length := ⟨_, rfl⟩
  have HN := Lib.hid hn
  rw [← hn] at c0 hfew ⊢
  clear h hn hM
  go_enter Try.func81, Try.ntmps81
  go_wp2_with fail
  go_loopw [3, 4] (fun o i wr => ∃ (k : Nat) (O : Option Addr) (oc : Nat) (gs : List ItZ), i = .int .i64 k ∧ o = .slice O k oc ∧ k ≤ n ∧ Hid (GiZ 6 10 mkCells w wr q own A c its O oc gs k)) (fun _ i _ => n - (intOf i).toNat)
  case atStart => exact ⟨0, none, 0, [], rfl, rfl, Nat.zero_le _, G⟩
  case round =>
    obtain ⟨k, O, oc, gs, rfl, rfl, hk, HG⟩ := hrel
    obtain ⟨wo, rfl⟩ : ∃ wo : World, wo = wr := ⟨_, rfl⟩
    have c1 := HG.out.c0
    rw [← HN.out] at c1
    by_cases hlt : k < n
    · obtain ⟨it, hit⟩ : ∃ it, its[k]? = some it := ⟨its[k]'(by rw [← HN.out]; exact hlt), List.getElem?_eq_getElem _⟩
      have hmem := List.mem_of_getElem? hit
      obtain ⟨b1, o1, rfl, _, r1⟩ := HG.out.rows.some_of (by rw [← HN.out]; omega)
      have x1 : wo.cell? ⟨b1, o1 + k, none⟩ = some (.slice it.A it.n it.c) := r1.val k _ (by rw [List.getElem?_map, hit]; rfl)
      have hki : ((k : Int) < (n : Int)) := by omega
      have hk0 : (0 : Int) ≤ (k : Int) := by omega
      have hfw : it.n ≤ 4000 := H.out.few it hmem
      have HC1 : Hid (∀ (r : Nat) (W : World), r ≤ 12 → Calls Try.prog 106 #[.int .i64 k, .int .i64 ((it.n : Int) + (r : Int)), .int .i64 1] W fun e w' => ∃ v, e = .returned v ∧ w'.ownsRow W.heap.size 42 6 v 1 (marksZ mkCells k (it.n + r) 1) ∧ Below W.heap.size W w') := fun r W hr => by
        rw [← Int.natCast_add]; exact marks_Cells k (it.n + r) 1 W (by omega) (by omega)
      have HC60 : Hid (∀ (r : Nat) (W : World), r ≤ 12 → Calls Try.prog 106 #[.int .i64 k, .int .i64 ((it.n : Int) + (r : Int)), .int .i64 60] W fun e w' => ∃ v, e = .returned v ∧ w'.ownsRow W.heap.size 42 6 v 60 (marksZ mkCells k (it.n + r) 60) ∧ Below W.heap.size W w') := fun r W hr => by
        rw [← Int.natCast_add]; exact marks_Cells k (it.n + r) 60 W (by omega) (by omega)
      have HS := Lib.hid (GrZ.start (mk := mkCells) (i := k) (HG.out.later k it (Nat.le_refl _) hit))
      clear r1
      go_wp2_with fail
      go_loopw [5, 6] (fun l x wr => ∃ (r : Nat) (B : Option Addr) (bc : Nat), x = .int .i64 r ∧ l = .slice B (it.n + r : Nat) bc ∧ r ≤ 12 ∧ Hid (GrZ 6 mkCells wo wr it k B (it.n + r) bc)) (fun _ x _ => 12 - (intOf x).toNat)
      case atStart => exact ⟨0, it.A, it.c, rfl, rfl, by omega, HS⟩
      case round =>
        obtain ⟨r, B, bc, rfl, rfl, hr, HR⟩ := hrel
        by_cases hrl : r < 12
        · have hrt : decide ((r : Int) < 12) = true := by simp; omega
          go_wp2_with fail
          refine (HC1.out r _ hr).mono ?_
          rintro e w1 ⟨v, rfl, ow, be⟩
          obtain ⟨vA, vc, rfl, -⟩ := own_form ow
          have HV := Lib.hid (BufZ.of_own ow).src
          have HR1 := Lib.hid (HR.out.keep (Keep.of_below (fun _ => False) be) (fun _ _ x => x) (fun _ _ x => x))
          clear ow be
          go_wp2_with (at_builtin; refine wpList_append_bufz _ rfl (.tmp 27) (.tmp 31) 43 rfl 42 i0 (.agg #[.int .i32 0, .int .i64 0, .int .i64 0, .bool false, .bool false, .bool false]) 6 32 (by decide) Try.underlying43 hi0 hz0 hz1 hz2 rfl rfl HR1.out.buf rfl HV.out (by decide) (MarkOk.ones mkok_Cells _ _ _) ?h1 ?h2 ?_)
          case h1 => unfold maxLen; omega
          case h2 => omega
          intro A2 c2 w2 a2 k2 p2
          have HR2 := Lib.hid (GrZ.more mkok_Cells HR1.out a2 k2 p2)
          clear a2 k2 p2
          go_wp2_with fail
          go_roundw
          case rel => exact ⟨r + 1, A2, c2, by go_num, rfl, by omega, HR2⟩
          case measure => simp [intOf]; omega
        · have hrt : decide ((r : Int) < 12) = false := by simp; omega
          have er : r = 12 := by omega
          have HE := Lib.hid er
          clear er
          go_wp2_with fail
          refine (HC60.out r _ hr).mono ?_
          rintro e w1 ⟨v, rfl, ow, be⟩
          obtain ⟨vA, vc, rfl, -⟩ := own_form ow
          have HV := Lib.hid (BufZ.of_own ow).src
          have HR1 := Lib.hid (HR.out.keep (Keep.of_below (fun _ => False) be) (fun _ _ x => x) (fun _ _ x => x))
          clear ow be
          go_wp2_with (at_builtin; refine wpList_append_bufz _ rfl (.tmp 34) (.tmp 38) 43 rfl 42 i0 (.agg #[.int .i32 0, .int .i64 0, .int .i64 0, .bool false, .bool false, .bool false]) 6 32 (by decide) Try.underlying43 hi0 hz0 hz1 hz2 rfl rfl HR1.out.buf rfl HV.out (by decide) (MarkOk.ones mkok_Cells _ _ _) ?h1 ?h2 ?_)
          case h1 => unfold maxLen; omega
          case h2 => omega
          intro A2 c2 w2 a2 k2 p2
          have HR2 := Lib.hid (GrZ.more mkok_Cells HR1.out a2 k2 p2)
          have HO : Hid (∀ o, Buf (w2.alloc o) O k oc (gs.map ItZ.val)) := fun o =>
            (HG.out.out.keep HR2.out.kp (fun y hy e => by have := HG.out.fresh y hy; have := H.out.lt y (H.out.oI it hmem y e); omega)).keep (S := fun _ => False) ((Keep.refl _ w2).alloc o) (fun _ _ x => x)
          clear a2 k2 p2
          go_wp2_with (at_builtin; refine wpList_append_buf _ rfl (.tmp 33) (.tmp 40) 34 rfl 43 i1 (.slice none 0 0) 24 Try.underlying34 hi1 hy0 hy1 hy2 rfl rfl (HO.out _) [.slice A2 (it.n + r + 60) c2] rfl (src_one _ _ _ rfl) (by simp [Value.oneCell']) ?h3 ?h4 ?_)
          case h3 => unfold maxLen; omega
          case h4 => omega
          intro O3 c3 w3 a3 k3 p3
          have HN3 : Hid (GiZ 6 10 mkCells w w3 q own (some ⟨b1, o1, none⟩) c its O3 c3 (gs ++ [⟨A2, it.n + 72, c2, []⟩]) (k + 1)) := by
            obtain rfl := HE.out
            exact GiZ.next H.out HG.out hit (HR2.out.keep (S := fun _ => False) ((Keep.refl _ w2).alloc _) (fun _ _ x => x) (fun _ _ x => x)) a3 k3 (fun y hy => by simpa using p3 y hy)
          clear a3 k3 p3
          go_wp2_with fail
          go_roundw
          case rel => exact ⟨k + 1, O3, c3, _, by go_num, rfl, by omega, HN3⟩
          case measure => simp [intOf]; omega
    · have e : k = n := by omega
      have HG2 : Hid (GiZ 6 10 mkCells w wo q own A c its O oc gs n) := by
        show GiZ _ _ _ _ _ _ _ _ _ _ _ _ _ _
        rw [← e]; exact HG.out
      have HE : Hid (∀ x : Value, x = .slice O k oc → x = .slice O n oc) := fun x hx => by rw [hx, e]
      clear e
      go_wp2_with fail
      go_ret
      exact ⟨O, oc, gs, by rw [HE.out _ rfl]; rfl, HG2.out⟩

set_option maxRecDepth 100000 in
set_option maxHeartbeats 1600000 in
theorem marked_Cells (w : World) (A : Option Addr) (c : Nat) (gs : List ItZ) (h : MkdZ 6 mkCells w A c gs) (hfew : gs.length ≤ 250) :
    Calls Try.prog 89 #[.slice A gs.length c] w fun e w' => e = .returned (.bool true) ∧ Keep (fun _ => False) w w' := by
  have H := Lib.hid h
  obtain ⟨n, hn⟩ : ∃ n, n = gs.length := ⟨_, rfl⟩
  have HN := Lib.hid hn
  rw [← hn] at hfew ⊢
  clear h hn
  go_enter Try.func89, Try.ntmps89
  go_wp2_with fail
  go_loopw [3] (fun i wr => ∃ (k : Nat), i = .int .i64 k ∧ k ≤ n ∧ Hid (Keep (fun _ => False) w wr)) (fun i _ => n - (intOf i).toNat)
  case atStart => exact ⟨0, rfl, Nat.zero_le _, Keep.refl _ _⟩
  case round =>
    obtain ⟨k, rfl, hk, HK⟩ := hrel
    by_cases hlt : k < n
    · obtain ⟨g, hg⟩ : ∃ g, gs[k]? = some g := ⟨gs[k]'(by rw [← HN.out]; exact hlt), List.getElem?_eq_getElem _⟩
      obtain ⟨b1, o1, rfl, hb1, r1⟩ := (H.out.1.keep HK.out (fun _ _ x => x)).some_of (by rw [← HN.out]; omega)
      have x1 : wr.cell? ⟨b1, o1 + k, none⟩ = some (.slice g.A g.n g.c) := r1.val k _ (by rw [List.getElem?_map, hg]; rfl)
      have hki : ((k : Int) < (n : Int)) := by omega
      have hk0 : (0 : Int) ≤ (k : Int) := by omega
      have hgn : g.n ≤ 5000 := (H.out.2 k g hg).2
      have HS : Hid (Src wr g.A (g.n * 6) (marksZ mkCells k 0 g.n)) := Lib.hid ((H.out.2 k g hg).1.of_keep HK.out (fun _ _ x => x))
      have HC : Hid (∀ W, Calls Try.prog 106 #[.int .i64 k, .int .i64 0, .int .i64 g.n] W fun e w' => ∃ v, e = .returned v ∧ w'.ownsRow W.heap.size 42 6 v g.n (marksZ mkCells k 0 g.n) ∧ Below W.heap.size W w') := fun W => by simpa using marks_Cells k 0 g.n W (by omega) (by omega)
      clear r1
      go_wp2_with fail
      refine wp_region_noPanic ?_
      refine wp_region_held_drew (S := fun w' => w'.cell? ⟨b1, o1 + k, none⟩ = some (.slice g.A g.n g.c)) (by kernel_rfl) x1 (fun hHeld => ?_)
      refine wpAnyH_take (i := 0) (oi := _) (v := ?vm0) rfl (by kernel_rfl) (by kernel_rfl) (by kernel_rfl) (fun _ _ _ h => h) (Or.inl ⟨by rfl, ?hym0⟩) (by assumption) ?restm0
      case hym0 => (intro w hSw; (try dsimp only at hSw); (try simp only [List.getElem_toArray, List.getElem_cons_zero, List.getElem_cons_succ]); go_simp; (try with_reducible rfl))
      (try simp only [Act.put, List.setIfInBounds_toArray, List.set_cons_zero, List.set_cons_succ, List.getElem_toArray, List.getElem_cons_zero, List.getElem_cons_succ])
      refine wpAnyH_take (i := 1) (oi := _) (v := ?vm1) rfl (by kernel_rfl) (by kernel_rfl) (by kernel_rfl) (fun _ _ _ h => h) (Or.inl ⟨by rfl, ?hym1⟩) (by assumption) ?restm1
      case hym1 => (intro w hSw; (try dsimp only at hSw); (try simp only [List.getElem_toArray, List.getElem_cons_zero, List.getElem_cons_succ]); go_simp; (try with_reducible rfl))
      (try simp only [Act.put, List.setIfInBounds_toArray, List.set_cons_zero, List.set_cons_succ, List.getElem_toArray, List.getElem_cons_zero, List.getElem_cons_succ])
      refine wpAnyH_take (i := 2) (oi := _) (v := ?vm2) rfl (by kernel_rfl) (by kernel_rfl) (by kernel_rfl) (fun _ _ _ h => h) (Or.inl ⟨by rfl, ?hym2⟩) (by assumption) ?restm2
      case hym2 => (intro w hSw; (try dsimp only at hSw); (try simp only [List.getElem_toArray, List.getElem_cons_zero, List.getElem_cons_succ]); go_simp; (try with_reducible rfl))
      (try simp only [Act.put, List.setIfInBounds_toArray, List.set_cons_zero, List.set_cons_succ, List.getElem_toArray, List.getElem_cons_zero, List.getElem_cons_succ])
      refine wpAnyH_take (i := 3) (oi := _) (v := ?vm3) rfl (by kernel_rfl) (by kernel_rfl) (by kernel_rfl) (fun _ _ _ h => h) (Or.inl ⟨by rfl, ?hym3⟩) (by assumption) ?restm3
      case hym3 => (intro w hSw; (try dsimp only at hSw); (try simp only [List.getElem_toArray, List.getElem_cons_zero, List.getElem_cons_succ]); go_simp; (try with_reducible rfl))
      (try simp only [Act.put, List.setIfInBounds_toArray, List.set_cons_zero, List.set_cons_succ, List.getElem_toArray, List.getElem_cons_zero, List.getElem_cons_succ])
      refine wpAnyH_take (i := 4) (oi := _) (v := ?vm4) rfl (by kernel_rfl) (by kernel_rfl) (by kernel_rfl) (fun _ _ _ h => h) (Or.inl ⟨by rfl, ?hym4⟩) (by assumption) ?restm4
      case hym4 => (intro w hSw; (try dsimp only at hSw); (try simp only [List.getElem_toArray, List.getElem_cons_zero, List.getElem_cons_succ]); go_simp; (try with_reducible rfl))
      (try simp only [Act.put, List.setIfInBounds_toArray, List.set_cons_zero, List.set_cons_succ, List.getElem_toArray, List.getElem_cons_zero, List.getElem_cons_succ])
      refine wpAnyH_take (i := 5) (oi := _) (v := ?vm5) rfl (by kernel_rfl) (by kernel_rfl) (by kernel_rfl) (fun _ _ _ h => h) (Or.inl ⟨by rfl, ?hym5⟩) (by assumption) ?restm5
      case hym5 => (intro w hSw; (try dsimp only at hSw); (try simp only [List.getElem_toArray, List.getElem_cons_zero, List.getElem_cons_succ]); go_simp; (try with_reducible rfl))
      (try simp only [Act.put, List.setIfInBounds_toArray, List.set_cons_zero, List.set_cons_succ, List.getElem_toArray, List.getElem_cons_zero, List.getElem_cons_succ])
      refine wpAnyH_take (i := 6) (oi := _) (v := ?vm6) rfl (by kernel_rfl) (by kernel_rfl) (by kernel_rfl) (fun _ _ _ h => h) (Or.inl ⟨by rfl, ?hym6⟩) (by assumption) ?restm6
      case hym6 => (intro w hSw; (try dsimp only at hSw); (try simp only [List.getElem_toArray, List.getElem_cons_zero, List.getElem_cons_succ]); go_simp; (try with_reducible rfl))
      (try simp only [Act.put, List.setIfInBounds_toArray, List.set_cons_zero, List.set_cons_succ, List.getElem_toArray, List.getElem_cons_zero, List.getElem_cons_succ])
      refine wpAnyH_take (i := 7) (oi := _) (v := ?vm7) rfl (by kernel_rfl) (by kernel_rfl) (by kernel_rfl) (fun _ _ _ h => h) (Or.inl ⟨by rfl, ?hym7⟩) (by assumption) ?restm7
      case hym7 => (intro w hSw; (try dsimp only at hSw); (try simp only [List.getElem_toArray, List.getElem_cons_zero, List.getElem_cons_succ]); go_simp; (try with_reducible rfl))
      (try simp only [Act.put, List.setIfInBounds_toArray, List.set_cons_zero, List.set_cons_succ, List.getElem_toArray, List.getElem_cons_zero, List.getElem_cons_succ])
      refine wpAnyH_take (i := 8) (oi := _) (v := ?vm8) rfl (by kernel_rfl) (by kernel_rfl) (by kernel_rfl) (fun _ _ _ h => h) (Or.inl ⟨by rfl, ?hym8⟩) (by assumption) ?restm8
      case hym8 => (intro w hSw; (try dsimp only at hSw); (try simp only [List.getElem_toArray, List.getElem_cons_zero, List.getElem_cons_succ]); go_simp; (try with_reducible rfl))
      (try simp only [Act.put, List.setIfInBounds_toArray, List.set_cons_zero, List.set_cons_succ, List.getElem_toArray, List.getElem_cons_zero, List.getElem_cons_succ])
      refine wpAnyH_take (i := 9) (oi := _) (v := ?vm9) rfl (by kernel_rfl) (by kernel_rfl) (by kernel_rfl) (fun _ _ _ h => h) (Or.inl ⟨by rfl, ?hym9⟩) (by assumption) ?restm9
      case hym9 => (intro w hSw; (try dsimp only at hSw); (try simp only [List.getElem_toArray, List.getElem_cons_zero, List.getElem_cons_succ]); go_simp; (try with_reducible rfl))
      (try simp only [Act.put, List.setIfInBounds_toArray, List.set_cons_zero, List.set_cons_succ, List.getElem_toArray, List.getElem_cons_zero, List.getElem_cons_succ])
      refine wpAnyH_ready (rs := [10]) (by kernel_rfl) (by simp) ?_
      refine AllReadyH.cons (o := _) rfl (fun K hK => ?_) AllReadyH.nil
      (try simp only [List.getElem_toArray, List.getElem_cons_zero, List.getElem_cons_succ])
      go_simp
      (refine (HC.out _).mono ?_; rintro r w1 ⟨v, rfl, ow, be⟩; obtain ⟨vA, vc, rfl, -⟩ := own_form ow; have HV := Lib.hid (BufZ.of_own ow).src; have KB : Hid (Keep (fun _ => False) wr w1) := ⟨be.os, be.tape, be.output, be.size, fun i hi _ => be.block i hi⟩; clear ow be)
      refine hK.out _ _ ?_ (fun hHeld => ?_)
      · exact (KB.out.cell (p := ⟨b1, o1 + k, none⟩) hb1 (fun x => x)).trans x1
      clear hK K
      (try simp only [Act.put, List.setIfInBounds_toArray, List.set_cons_zero, List.set_cons_succ, List.getElem_toArray, List.getElem_cons_zero, List.getElem_cons_succ])
      refine wpAnyH_ready (rs := [11]) (by kernel_rfl) (by simp) ?_
      refine AllReadyH.cons (o := _) rfl (fun K hK => ?_) AllReadyH.nil
      (try simp only [List.getElem_toArray, List.getElem_cons_zero, List.getElem_cons_succ])
      go_simp
      (refine (same'_Cells (fun _ => False) g.A vA g.n g.c vc (marksZ mkCells k 0 g.n) (marksZ mkCells k 0 g.n) _ (by first | exact HS.out.of_keep KB.out (fun _ _ x => x) | exact HS.out.of_keep KB.out.drew (fun _ _ x => x)) (by first | exact HV.out | exact HV.out.keep (Keep.refl _ _).drew) (smmark_Cells _ _ _ _) (by omega)).mono ?_; rintro r w2 ⟨rfl, kk, hw⟩; have KF : Hid (Keep (fun _ => False) wr w2) := (by show Keep _ _ _; rw [hw]; (first | exact KB.out.drewN kk | exact KB.out.drew.drewN kk)); clear hw)
      refine hK.out _ _ ?_ (fun hHeld => ?_)
      · exact (KF.out.cell (p := ⟨b1, o1 + k, none⟩) hb1 (fun x => x)).trans x1
      clear hK K
      (try simp only [Act.put, List.setIfInBounds_toArray, List.set_cons_zero, List.set_cons_succ, List.getElem_toArray, List.getElem_cons_zero, List.getElem_cons_succ])
      refine wpAnyH_take (i := 12) (oi := _) (v := ?vm12) rfl (by kernel_rfl) (by kernel_rfl) (by kernel_rfl) (fun _ _ _ h => h) (Or.inl ⟨by rfl, ?hym12⟩) (by assumption) ?restm12
      case hym12 => (intro w hSw; (try dsimp only at hSw); (try simp only [List.getElem_toArray, List.getElem_cons_zero, List.getElem_cons_succ]); go_simp; (try with_reducible rfl))
      (try simp only [Act.put, List.setIfInBounds_toArray, List.set_cons_zero, List.set_cons_succ, List.getElem_toArray, List.getElem_cons_zero, List.getElem_cons_succ])
      refine wpAnyH_done (by kernel_rfl) ?_ _

      refine NoPanic.normal ?_
      go_wp2_with fail
      go_roundw
      case rel => exact ⟨k + 1, by go_num, by omega, HK.out.trans KF.out (fun _ _ x => x)⟩
      case measure => simp [intOf]; omega
    · go_wp2_with fail
      go_ret
      exact ⟨rfl, HK.out⟩

/-- What Apart asks. -/
theorem st1_Cells (rd : Nat → Prop) (w : World) (q : Nat) (own : Nat → Prop) (tA wA : Option Addr) (tc wc : Nat) (its ws : List ItZ) (h : KS 6 10 (SmCells rd) w q own tA tc wA wc its ws) (hr : ∀ i, rd i → i < w.heap.size) (hfew : its.length ≤ 250) :
    St1 Try.prog 65 74 81 89 10 q w.heap.size own (fun i => own i ∨ rd i) w := by
  intro W1 k1
  have h1 := h.keep (smkept_Cells rd) k1 (fun i hi e => e.2.1 (.inl hi)) (fun e => e.2.2 rfl) (fun i hi => ⟨hr i hi, fun e => e.2.1 (.inr hi)⟩)
  have hr1 : ∀ i, rd i → i < W1.heap.size := fun i hi => Nat.lt_of_lt_of_le (hr i hi) k1.size
  refine ⟨(still_Cells rd W1 q own tA wA tc wc its ws h1 hr1 hfew).mono ?_, (puts_Cells W1 q own tA tc its _ h1.texts hfew).mono ?_⟩
  · rintro e W2 ⟨rfl, k, rfl⟩
    exact ⟨rfl, (Keep.refl _ W1).drewN k⟩
  rintro e W2 ⟨rfl, f2, t2, k2, m2⟩
  refine ⟨rfl, k2, fun W3 k3 => ?_⟩
  have t3 := t2.keep k3 (fun i hi e => e.2.1 hi) (fun e => e.2.2 rfl)
  refine (grow_Cells W3 q own tA tc its f2 t3 m2 hfew).mono ?_
  rintro e W4 ⟨O, oc, gs, rfl, g4⟩
  refine ⟨_, rfl, g4.kp, fun W5 k5 => ?_⟩
  have hz : w.heap.size ≤ W3.heap.size := Nat.le_trans k1.size (Nat.le_trans k2.size k3.size)
  obtain ⟨c5, m5, n5⟩ := GiZ.keep t3 g4 k5 (fun i e => ⟨Nat.lt_of_lt_of_le e.1 hz, e.2.1, e.2.2⟩)
  have hl := g4.len
  refine ⟨?_, _, c5, marked_Cells W5 tA tc its n5 hfew⟩
  have := marked_Cells W5 O oc gs m5 (by rw [hl]; exact hfew)
  rwa [hl] at this

end Go.Proofs.Ytbjdcbnmpmcdiaa
