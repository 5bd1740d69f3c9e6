/- Law RingPlays: the walk. Own work. -/
import Derived.Test.YthpghomnfailkaaRingOps
import Derived.Test.YthpghomnfailkaaShort
import Derived.Test.YthpghomnfailkaaJoin
import Derived.Test.YthpghomnfailkaaBookT
import Derived.Deep.QuietTactic
import Derived.BigQuiet
namespace Go.Proofs.Ythpghomnfailkaa
set_option linter.unusedVariables false
open Go.RowKit

theorem Src.drewN {w : World} {A : Option Addr} {m : Nat} {us : List Value} (h : Src w A m us) (k : Nat) : Src (w.drewN k) A m us := h

theorem src_of_strs {w w' : World} {A : Option Addr} {n : Nat} {xs : List ByteArray} (h : Strs w A n xs) (k : Below w.heap.size w w') : Src w' A n (xs.map Value.string) := (src_strs h).below k

/-- A list that was lent lies behind all that there was. -/
theorem lent_slice {w w' : World} {e : TypeId} {g c : Nat} {us : List Value} {mark : Value} (h : Lent w' e g c us mark) (hg : w.heap.size ≤ g) : SliceAt w' (some ⟨g, 0, none⟩) us (fun k => k < w.heap.size) := h.slice (by omega)

theorem Lent.beside {w w' : World} {e : TypeId} {g c M : Nat} {us : List Value} {mark : Value} (h : Lent w e g c us mark) (k : Beside M w w') (hg : M ≤ g) : Lent w' e g c us mark := h.keep k (by omega)
theorem Lent.drewN {w : World} {e : TypeId} {g c : Nat} {us : List Value} {mark : Value} (h : Lent w e g c us mark) (n : Nat) : Lent (w.drewN n) e g c us mark := h.keep (S := fun _ => False) ((Keep.refl _ w).drewN n) (fun x => x)

set_option maxRecDepth 100000 in
set_option maxHeartbeats 1600000 in
theorem plays_bad (room : Int) (A : Option Addr) (n cap : Nat) (w : World) (h : 60 < (n : Int)) (hm : (n : Int) ≤ 9223372036854775807) :
    Calls Try.prog 3 #[.int .i64 room, .slice A n cap] w fun e w' => e = .returned (.bool true) ∧ Below w.heap.size w w' := by
  go_enter Try.func3, Try.ntmps3
  go_wp2_with fail
  refine (alive_any _).mono ?_
  rintro r w1 ⟨rfl, hb⟩
  go_wp2_with fail
  go_ret
  exact ⟨rfl, hb⟩

set_option maxRecDepth 100000 in
set_option maxHeartbeats 12800000 in
theorem plays_good (a : Int) (A : Option Addr) (n cap : Nat) (ops : List OpV) (w : World) (hops : Structs (OpAt w) 3 w A n ops) (h2 : n ≤ 60) :
    Calls Try.prog 3 #[.int .i64 a, .slice A n cap] w fun e w' => e = .returned (.bool true) ∧ Below w.heap.size w w' := by
  obtain ⟨room, hroom⟩ : ∃ room, room = clamp a := ⟨_, rfl⟩
  have hx : min (max a 0) 100000 = ((room : Nat) : Int) := by rw [hroom]; unfold clamp; omega
  have HCL := Lib.hid hroom
  have HO := Lib.hid hops
  have hd1 : decide (60 < (n : Int)) = false := by simp; omega
  clear hroom hops
  go_enter Try.func3, Try.ntmps3
  go_wp2_with fail
  refine (alive_any _).mono ?_
  rintro r w1 ⟨rfl, hb⟩
  have HB := Lib.hid hb
  clear hb
  go_wp2_with fail
  refine (new_any a w1).mono ?_
  rintro r w2 ⟨rfl, q1, q2⟩
  have k1 := RingIs.new a HB.out q1 q2
  rw [← HCL.out] at k1
  have H1 : Hid (RingHas w w1.heap.size room ⟨#[]⟩ w2) := k1
  clear q1 q2 k1 HB
  obtain ⟨p, hp⟩ : ∃ p, p = w1.heap.size := ⟨_, rfl⟩
  rw [← hp] at H1 ⊢
  clear hp
  go_wp2_with fail
  go_loopw [6, 7] (fun l i wr => ∃ (k : Nat) (hb : ByteArray), i = .int .i64 k ∧ l = .string hb ∧ k ≤ n ∧ Hid (RingHas w p room hb wr)) (fun _ i _ => n - (intOf i).toNat)
  case atStart => exact ⟨0, ⟨#[]⟩, rfl, rfl, by omega, H1⟩
  case round =>
    obtain ⟨k, hb, rfl, rfl, hk, HR⟩ := hrel
    obtain ⟨hbd1, hbd2⟩ := HR.out.bounds
    by_cases hlt : k < n
    · obtain ⟨b, off, o, rfl, hbl, _, ho⟩ := HO.out.at hlt
      obtain ⟨ho0, ho1, ⟨TA, tc, ho2, hT⟩, hbk, hbn⟩ := ho
      have HT := Lib.hid hT
      have e0 := Lib.hid ho0
      have e1 := Lib.hid ho1
      have e2 := Lib.hid ho2
      have c0 := (HR.out.below.cell (p := ⟨b, off + k * 3, none⟩) hbl).trans ho0
      have c1 := (HR.out.below.cell (p := ⟨b, off + k * 3 + 1, none⟩) hbl).trans ho1
      have c2 := (HR.out.below.cell (p := ⟨b, off + k * 3 + 2, none⟩) hbl).trans ho2
      obtain ⟨m0, hm0⟩ : ∃ m : Nat, m = o.T.length := ⟨_, rfl⟩
      have htm := hT.2.2.2
      clear ho0 ho1 ho2 hT
      have HSH := Lib.hid (short_any 12 3000 TA o.T.length tc o.T wr (src_of_strs HT.out HR.out.below) HT.out.2.2.1 (by omega) (by omega) htm)
      go_wp2_with fail
      refine HSH.out.mono ?_
      rintro r w3 ⟨rfl, h3⟩
      have B3 := Lib.hid h3
      clear h3 HSH
      by_cases hsh : shortB 12 3000 o.T = false
      · rw [hsh]
        clear hsh
        go_wp2_with fail
        go_ret
        exact ⟨rfl, (HR.out.on B3.out).below⟩
      · have hsh' : shortB 12 3000 o.T = true := by simpa using hsh
        rw [hsh']
        obtain ⟨hs1, hs2⟩ : o.T.length ≤ 12 ∧ sum o.T ≤ 3000 := by unfold shortB at hsh'; exact of_decide_eq_true hsh'
        clear hsh hsh'
        have HR3 : Hid (RingHas w p room hb w3) := HR.out.on B3.out
        have c0 := (HR3.out.below.cell (p := ⟨b, off + k * 3, none⟩) hbl).trans e0.out
        have c1 := (HR3.out.below.cell (p := ⟨b, off + k * 3 + 1, none⟩) hbl).trans e1.out
        have c2 := (HR3.out.below.cell (p := ⟨b, off + k * 3 + 2, none⟩) hbl).trans e2.out
        have HJ := Lib.hid (join_any TA o.T.length tc o.T w3 (src_of_strs HT.out HR3.out.below) (by omega) (by omega))
        obtain ⟨sb, hsb⟩ : ∃ sb : ByteArray, sb = ⟨(joinL o.T).toArray⟩ := ⟨_, rfl⟩
        have hsz : sb.size ≤ 3000 := by rw [hsb, size_mk, joinL_len]; exact hs2
        rw [← hsb] at HJ
        have HSB := Lib.hid hsb
        have HL := Lib.hid (lent_Texts TA o.T.length tc o.T w3 (src_of_strs HT.out HR3.out.below) (by omega))
        clear hsb HR B3
        go_wp2_with fail
        refine HJ.out.mono ?_
        rintro r w4 ⟨rfl, rfl⟩
        go_wp2_with fail
        refine HL.out.mono ?_
        rintro r w4 ⟨g, c', rfl, hl1, hl2, hl3⟩
        have L4 := Lib.hid hl1
        have B4 := Lib.hid hl3
        have hg0 := Lib.hid hl2
        clear hl1 hl2 hl3 HJ HL
        obtain ⟨mm, hmm⟩ : ∃ mm : Nat, min (max o.n 0) (hb.size : Int) = (mm : Int) := ⟨(min (max o.n 0) (hb.size : Int)).toNat, by omega⟩
        have hmm1 : (mm : Int) ≤ (hb.size : Int) := by omega
        have hmm0 : (0 : Int) ≤ (mm : Int) := by omega
        have HMM := Lib.hid hmm
        have HR4 : Hid (RingHas w p room hb w4) := HR3.out.on B4.out
        have c0 := (HR4.out.below.cell (p := ⟨b, off + k * 3, none⟩) hbl).trans e0.out
        have c1 := (HR4.out.below.cell (p := ⟨b, off + k * 3 + 1, none⟩) hbl).trans e1.out
        have c2 := (HR4.out.below.cell (p := ⟨b, off + k * 3 + 2, none⟩) hbl).trans e2.out
        by_cases hk1 : o.kind = 1
        · have t0 : (o.kind == 1) = true := by rw [hk1]; rfl
          obtain ⟨kk, hkk⟩ : ∃ kk : Nat, min (sb.size : Int) ((room : Int) - (hb.size : Int)) = (kk : Int) := ⟨(min (sb.size : Int) ((room : Int) - (hb.size : Int))).toNat, by omega⟩
          have hkk1 : (kk : Int) ≤ (sb.size : Int) := by omega
          have hkk2 : hb.size + kk ≤ 200000 := by omega
          have HKK := Lib.hid hkk
          have hez : (sb.extract 0 kk).size = kk := by simp; omega
          have hzz : hb.size + (sb.extract 0 kk).size ≤ 9223372036854775807 := by omega
          clear hk1 hez
          go_wp2_with fail
          refine (hasPut HR3.out B4.out (cap := c') o.T (lent_slice L4.out hg0.out) rfl HT.out.2.2.1 htm sb HSB.out kk HKK.out).mono ?_
          rintro r w5 ⟨rfl, t1, t2⟩
          have HR5 := Lib.hid t1
          have L5 := Lib.hid (L4.out.beside t2 hg0.out)
          have c2 := (HR5.out.below.cell (p := ⟨b, off + k * 3 + 2, none⟩) hbl).trans e2.out
          clear t1 t2 hmm
          go_wp2_with fail
          refine (hasLen HR5.out).mono ?_
          rintro r w6 ⟨rfl, rfl⟩
          go_wp2_with fail
          refine (hasRoom HR5.out).mono ?_
          rintro r w6 ⟨rfl, q6, rfl⟩
          go_wp2_with fail
          refine (hasSeen (HR5.out.drewN q6)).mono ?_
          rintro r w6 ⟨rfl, q7, rfl⟩
          go_wp2_with fail
          refine (stays_Texts g c' TA o.T.length tc o.T _ (L5.out.drewN _) (src_of_strs HT.out (HR5.out.drewN _).below) (by omega)).mono ?_
          rintro r w6 ⟨rfl, q8, rfl⟩
          go_wp2_with fail
          go_roundw
          case rel => exact ⟨k + 1, _, by go_num, rfl, by omega, (HR5.out.drewN _)⟩
          case measure => simp [intOf]; omega
        by_cases hk2 : o.kind = 2
        · have t0 : (o.kind == 1) = false := by rw [hk2]; rfl
          have t00 : (o.kind == 2) = true := by rw [hk2]; rfl
          clear hk1 hk2
          by_cases hfit : (sb.size : Int) ≤ (room : Int) - (hb.size : Int)
          · have hzz : hb.size + sb.size ≤ 9223372036854775807 := by omega
            have HF := Lib.hid hfit
            go_wp2_with fail
            refine (hasAll HR3.out B4.out (cap := c') o.T (lent_slice L4.out hg0.out) rfl HT.out.2.2.1 htm sb HSB.out HF.out).mono ?_
            rintro r w5 ⟨rfl, t1, t2⟩
            have HR5 := Lib.hid t1
            have L5 := Lib.hid (L4.out.beside t2 hg0.out)
            have c2 := (HR5.out.below.cell (p := ⟨b, off + k * 3 + 2, none⟩) hbl).trans e2.out
            clear t1 t2 hmm
            go_wp2_with fail
            refine (hasLen HR5.out).mono ?_
            rintro r w6 ⟨rfl, rfl⟩
            go_wp2_with fail
            refine (hasRoom HR5.out).mono ?_
            rintro r w6 ⟨rfl, q6, rfl⟩
            go_wp2_with fail
            refine (hasSeen (HR5.out.drewN q6)).mono ?_
            rintro r w6 ⟨rfl, q7, rfl⟩
            go_wp2_with fail
            refine (stays_Texts g c' TA o.T.length tc o.T _ (L5.out.drewN _) (src_of_strs HT.out (HR5.out.drewN _).below) (by omega)).mono ?_
            rintro r w6 ⟨rfl, q8, rfl⟩
            go_wp2_with fail
            go_roundw
            case rel => exact ⟨k + 1, _, by go_num, rfl, by omega, (HR5.out.drewN _)⟩
            case measure => simp [intOf]; omega
          · have HF := Lib.hid (show (room : Int) - (hb.size : Int) < (sb.size : Int) by omega)
            go_wp2_with fail
            refine (hasNot HR3.out B4.out (cap := c') o.T (lent_slice L4.out hg0.out) rfl HT.out.2.2.1 htm sb HSB.out HF.out).mono ?_
            rintro r w5 ⟨rfl, t1, t2⟩
            have HR5 := Lib.hid t1
            have L5 := Lib.hid (L4.out.beside t2 hg0.out)
            have c2 := (HR5.out.below.cell (p := ⟨b, off + k * 3 + 2, none⟩) hbl).trans e2.out
            clear t1 t2 hmm
            go_wp2_with fail
            refine (hasLen HR5.out).mono ?_
            rintro r w6 ⟨rfl, rfl⟩
            go_wp2_with fail
            refine (hasRoom HR5.out).mono ?_
            rintro r w6 ⟨rfl, q6, rfl⟩
            go_wp2_with fail
            refine (hasSeen (HR5.out.drewN q6)).mono ?_
            rintro r w6 ⟨rfl, q7, rfl⟩
            go_wp2_with fail
            refine (stays_Texts g c' TA o.T.length tc o.T _ (L5.out.drewN _) (src_of_strs HT.out (HR5.out.drewN _).below) (by omega)).mono ?_
            rintro r w6 ⟨rfl, q8, rfl⟩
            go_wp2_with fail
            go_roundw
            case rel => exact ⟨k + 1, _, by go_num, rfl, by omega, (HR5.out.drewN _)⟩
            case measure => simp [intOf]; omega
        by_cases hk3 : o.kind = 3
        · have t0 : (o.kind == 1) = false := by rw [hk3]; rfl
          have t00 : (o.kind == 2) = false := by rw [hk3]; rfl
          have t000 : (o.kind == 3) = true := by rw [hk3]; rfl
          have hki : ((k : Int) < (n : Int)) := by omega
          have hk0 : (0 : Int) ≤ (k : Int) := by omega
          clear hk1 hk2 hk3
          go_wp2_with fail
          go_region_held3 (fun w' => w'.cell? ⟨b, off + k * 3 + 1, none⟩ = some (.int .i64 o.n)) (first | exact c1 | exact d1 | go_keep) (first | (go_at_call 13; refine (hasTake HR3.out ?_ o.n hbn.2 mm HMM.out).mono ?_; (first | exact B4.out | exact B4.out.drew); rintro r w5 ⟨rfl, t1, t2⟩; have HR5' := Lib.hid t1; have B5' := Lib.hid t2; have d1 := (t1.below.cell (p := ⟨b, off + k * 3 + 1, none⟩) hbl).trans e1.out; clear t1 t2) | fail)
          have t1 := HR5'.out
          have t2 : Beside w3.heap.size w4 w5 := ⟨B5'.out.os, B5'.out.tape, B5'.out.output, B5'.out.size, B5'.out.block⟩
          clear HR5' B5' d1
          have HR5 := Lib.hid t1
          have L5 := Lib.hid (L4.out.beside t2 hg0.out)
          have c2 := (HR5.out.below.cell (p := ⟨b, off + k * 3 + 2, none⟩) hbl).trans e2.out
          clear t1 t2 hmm
          go_wp2_with fail
          refine (hasLen HR5.out).mono ?_
          rintro r w6 ⟨rfl, rfl⟩
          go_wp2_with fail
          refine (hasRoom HR5.out).mono ?_
          rintro r w6 ⟨rfl, q6, rfl⟩
          go_wp2_with fail
          refine (hasSeen (HR5.out.drewN q6)).mono ?_
          rintro r w6 ⟨rfl, q7, rfl⟩
          go_wp2_with fail
          refine (stays_Texts g c' TA o.T.length tc o.T _ (L5.out.drewN _) (src_of_strs HT.out (HR5.out.drewN _).below) (by omega)).mono ?_
          rintro r w6 ⟨rfl, q8, rfl⟩
          go_wp2_with fail
          go_roundw
          case rel => exact ⟨k + 1, _, by go_num, rfl, by omega, (HR5.out.drewN _)⟩
          case measure => simp [intOf]; omega
        by_cases hk4 : o.kind = 4
        · have t0 : (o.kind == 1) = false := by rw [hk4]; rfl
          have t00 : (o.kind == 2) = false := by rw [hk4]; rfl
          have t000 : (o.kind == 3) = false := by rw [hk4]; rfl
          have t0000 : (o.kind == 4) = true := by rw [hk4]; rfl
          have hki : ((k : Int) < (n : Int)) := by omega
          have hk0 : (0 : Int) ≤ (k : Int) := by omega
          clear hk1 hk2 hk3 hk4
          go_wp2_with fail
          go_quiet ((go_at_call 14; exact Calls.quiet_of (hasPeek (HR4.out.drewN _) o.n hbn.2 mm HMM.out)))
          have t1 : RingHas w p room hb (w4.drewN nq) := HR4.out.drewN nq
          have t2 : Beside w3.heap.size w4 (w4.drewN nq) := (Keep.refl _ _).drewN nq
          obtain ⟨w5, hw5⟩ : ∃ w5, w5 = w4.drewN nq := ⟨_, rfl⟩
          rw [← hw5] at t1 t2 ⊢
          clear hw5
          have HR5 := Lib.hid t1
          have L5 := Lib.hid (L4.out.beside t2 hg0.out)
          have c2 := (HR5.out.below.cell (p := ⟨b, off + k * 3 + 2, none⟩) hbl).trans e2.out
          clear t1 t2 hmm
          go_wp2_with fail
          refine (hasLen HR5.out).mono ?_
          rintro r w6 ⟨rfl, rfl⟩
          go_wp2_with fail
          refine (hasRoom HR5.out).mono ?_
          rintro r w6 ⟨rfl, q6, rfl⟩
          go_wp2_with fail
          refine (hasSeen (HR5.out.drewN q6)).mono ?_
          rintro r w6 ⟨rfl, q7, rfl⟩
          go_wp2_with fail
          refine (stays_Texts g c' TA o.T.length tc o.T _ (L5.out.drewN _) (src_of_strs HT.out (HR5.out.drewN _).below) (by omega)).mono ?_
          rintro r w6 ⟨rfl, q8, rfl⟩
          go_wp2_with fail
          go_roundw
          case rel => exact ⟨k + 1, _, by go_num, rfl, by omega, (HR5.out.drewN _)⟩
          case measure => simp [intOf]; omega
        · have t0 : (o.kind == 1) = false := by rw [beq_eq_false_iff_ne]; exact hk1
          have t00 : (o.kind == 2) = false := by rw [beq_eq_false_iff_ne]; exact hk2
          have t000 : (o.kind == 3) = false := by rw [beq_eq_false_iff_ne]; exact hk3
          have t0000 : (o.kind == 4) = false := by rw [beq_eq_false_iff_ne]; exact hk4
          clear hk1 hk2 hk3 hk4
          go_wp2_with fail
          refine (hasClear HR3.out B4.out).mono ?_
          rintro r w5 ⟨rfl, t1, t2⟩
          have HR5 := Lib.hid t1
          have L5 := Lib.hid (L4.out.beside t2 hg0.out)
          have c2 := (HR5.out.below.cell (p := ⟨b, off + k * 3 + 2, none⟩) hbl).trans e2.out
          clear t1 t2 hmm
          go_wp2_with fail
          refine (hasLen HR5.out).mono ?_
          rintro r w6 ⟨rfl, rfl⟩
          go_wp2_with fail
          refine (hasRoom HR5.out).mono ?_
          rintro r w6 ⟨rfl, q6, rfl⟩
          go_wp2_with fail
          refine (hasSeen (HR5.out.drewN q6)).mono ?_
          rintro r w6 ⟨rfl, q7, rfl⟩
          go_wp2_with fail
          refine (stays_Texts g c' TA o.T.length tc o.T _ (L5.out.drewN _) (src_of_strs HT.out (HR5.out.drewN _).below) (by omega)).mono ?_
          rintro r w6 ⟨rfl, q8, rfl⟩
          go_wp2_with fail
          go_roundw
          case rel => exact ⟨k + 1, _, by go_num, rfl, by omega, (HR5.out.drewN _)⟩
          case measure => simp [intOf]; omega
    · clear hx hd1 hbd1 hbd2
      have HE := Lib.hid HR.out.below
      clear HR HO HCL H1
      go_wp2_with fail
      refine (put_none _ _ _ _).mono ?_
      rintro r w3 ⟨rfl, rfl⟩
      go_wp2_with fail
      refine (all_none _ _ _ _).mono ?_
      rintro r w3 ⟨rfl, rfl⟩
      go_wp2_with fail
      have hcc : ((⟨#[]⟩ : ByteArray) ++ (⟨#[]⟩ : ByteArray)) = ⟨#[]⟩ := rfl
      refine (take_nil _ _).mono ?_
      rintro r w3 ⟨rfl, rfl⟩
      go_wp2_with fail
      refine (peek_nil _ _).mono ?_
      rintro r w3 ⟨rfl, rfl⟩
      go_wp2_with fail
      refine (len_nil _).mono ?_
      rintro r w3 ⟨rfl, rfl⟩
      go_wp2_with fail
      refine (room_nil _).mono ?_
      rintro r w3 ⟨rfl, rfl⟩
      go_wp2_with fail
      refine (clear_nil _).mono ?_
      rintro r w3 ⟨rfl, rfl⟩
      go_wp2_with fail
      go_ret
      exact ⟨rfl, (HE.out.alloc HE.out.size _).alloc (by have := HE.out.size; simp; omega) _⟩

theorem walk_RingPlays (a : Int) (ha : (Lit.int .i64 a).wf = true) (A : Option Addr) (n cap : Nat) (ops : List OpV) (w : World) (h : Structs (OpAt w) 3 w A n ops) :
    Calls Try.prog 3 #[.int .i64 a, .slice A n cap] w fun e w' => e = .returned (.bool true) ∧ Below w.heap.size w w' := by
  have hm := h.2.1
  unfold maxLen at hm
  by_cases h2 : n ≤ 60
  · exact plays_good a A n cap ops w h h2
  · exact plays_bad a A n cap w (by omega) (by omega)

end Go.Proofs.Ythpghomnfailkaa
