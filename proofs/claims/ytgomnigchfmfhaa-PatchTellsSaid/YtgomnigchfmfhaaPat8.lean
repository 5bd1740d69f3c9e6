/- patch: read. Own work. -/
import Derived.Test.YtgomnigchfmfhaaPat7
import Derived.Deep.CutRange
import Derived.Deep.Cut
namespace Go.Proofs.Ytgomnigchfmfhaa
set_option linter.unusedVariables false
set_option linter.unusedSimpArgs false
open Go.RowKit

/-- Behind read: a screen of the call's own, or the zero one. -/
def ReadTo (s : Scr) (w : World) (e : Ending) (w' : World) : Prop := ScrTo s w e w' ∨ (s = zeroS ∧ e = .returned (s.v none 0) ∧ Below w.heap.size w w')

theorem zero_scr : (Try.prog.info? 24).map (·.size) = some 6 := by kernel_rfl

set_option maxRecDepth 100000 in
set_option maxHeartbeats 25600000 in
theorem patch_read (a : Scr) (A : Option Addr) (c : Nat) (d : ByteArray) (w : World) (hA : a.at' w A) (ha : a.Ok) (hd : d.size ≤ 1000000) :
    Calls Try.prog 45 #[a.v A c, .string d] w (ReadTo (readS a d) w) := by
  obtain ⟨w0, hw0⟩ : ∃ w0, w0 = (w.alloc (.cells (a.cs A c) 24)).alloc (.cells #[.int .i64 0, .int .i64 0, .slice none 0 0, .int .i64 0, .int .i64 0, .bool false] 24) := ⟨_, rfl⟩
  obtain ⟨p, hp⟩ : ∃ p, p = w.heap.size := ⟨_, rfl⟩
  have HB0 : Hid (Below w.heap.size w w0) := Lib.hid (by rw [hw0]; exact ((Below.refl _ w).alloc (Nat.le_refl _) _).alloc (by simp) _)
  have HP0 : Hid (w0.heap[p]? = some (.cells (a.cs A c) 24 (0, 0))) := Lib.hid (by rw [hw0, hp]; exact (Lib.alloc_old _ _ _ (by simp)).trans (heap_alloc_new w _))
  have HR0 : Hid (w0.heap[p + 1]? = some (.cells #[.int .i64 0, .int .i64 0, .slice none 0 0, .int .i64 0, .int .i64 0, .bool false] 24 (0, 0))) := Lib.hid (by
    rw [hw0, hp]
    have := heap_alloc_new (w.alloc (.cells (a.cs A c) 24)) (.cells #[.int .i64 0, .int .i64 0, .slice none 0 0, .int .i64 0, .int .i64 0, .bool false] 24)
    simpa using this)
  have HPW : Hid (p = w.heap.size) := Lib.hid hp
  have hn8 := ha.n800
  have HSA : Hid (Src w A (a.n * 6) (flatF a.F a.n)) := Lib.hid hA
  have HAN : Hid (sizeB a (blankS (sc1 d).1 (sc2 d).1) = true → a.n = clW (sc1 d).1 * clH (sc2 d).1) := Lib.hid (fun h => by
    simp only [sizeB, decide_eq_true_eq] at h
    have e := ha.n
    rw [h.1, h.2] at e
    exact Int.ofNat.inj (by simpa [blankS] using e))
  obtain ⟨RS, hRS⟩ : ∃ RS, readS a d = RS := ⟨_, rfl⟩
  rw [hRS]
  have HRS := Lib.hid hRS
  have HSS := Lib.hid (fun V B dd => patch_sameSize a (blankS (sc1 d).1 (sc2 d).1) A B c dd V)
  clear hA ha hRS
  have r1 := numS_rng d 0
  have r2 := numS_rng (sc1 d).2.1 (sc1 d).2.2
  have r3 := numS_rng (sc2 d).2.1 (sc2 d).2.2
  have r4 := numS_rng (sc3 d).2.1 (sc3 d).2.2
  have r6 := numS_rng (sc5 d).2.1 (sc5 d).2.2
  have z1 := numS_size d 0
  have z2 := numS_size (sc1 d).2.1 (sc1 d).2.2
  have z3 := numS_size (sc2 d).2.1 (sc2 d).2.2
  have z4 := numS_size (sc3 d).2.1 (sc3 d).2.2
  have z5 := byteS_size (sc4 d).2.1 (sc4 d).2.2
  have r5 := byteS_lt (sc4 d).2.1 (sc4 d).2.2
  have z6 := numS_size (sc5 d).2.1 (sc5 d).2.2
  have H1 : Hid ((sc1 d) = numS d 0) := Lib.hid rfl
  have H2 : Hid ((sc2 d) = numS (sc1 d).2.1 (sc1 d).2.2) := Lib.hid rfl
  have H3 : Hid ((sc3 d) = numS (sc2 d).2.1 (sc2 d).2.2) := Lib.hid rfl
  have H4 : Hid ((sc4 d) = numS (sc3 d).2.1 (sc3 d).2.2) := Lib.hid rfl
  have H5 : Hid ((sc5 d) = byteS (sc4 d).2.1 (sc4 d).2.2) := Lib.hid rfl
  have H6 : Hid ((sc6 d) = numS (sc5 d).2.1 (sc5 d).2.2) := Lib.hid rfl
  have HO : Hid (∀ V F, runsS V (sc6 d).1.toNat 0 F (sc6 d).2.1 (sc6 d).2.2 = runsS V (sc6 d).1.toNat 0 F (sc6 d).2.1 (sc6 d).2.2) := Lib.hid (fun _ _ => rfl)
  rw [← H1.out] at r1 z1
  rw [← H2.out] at r2 z2
  rw [← H3.out] at r3 z3
  rw [← H4.out] at r4 z4
  rw [← H5.out] at r5 z5
  rw [← H6.out] at r6 z6
  have HRD : Hid (RS = match runsS (openS a d).n (sc6 d).1.toNat 0 (openS a d).F (sc6 d).2.1 (sc6 d).2.2 with | none => zeroS | some G => { openS a d with F := G }) := Lib.hid (by rw [← HRS.out]; rfl)
  have HOP : Hid (openS a d = ⟨clW (sc1 d).1, clH (sc2 d).1, clW (sc1 d).1 * clH (sc2 d).1, if sizeB a (blankS (sc1 d).1 (sc2 d).1) = true then a.F else fun _ => emptyC, (sc3 d).1, (sc4 d).1, (sc5 d).1 != 0⟩) := Lib.hid rfl
  have HBL := Lib.hid (fun V => patch_Blank (sc1 d).1 (sc2 d).1 V)
  have hN := cl_n (sc1 d).1 (sc2 d).1
  have HBS : Hid (blankS (sc1 d).1 (sc2 d).1 = ⟨clW (sc1 d).1, clH (sc2 d).1, clW (sc1 d).1 * clH (sc2 d).1, fun _ => emptyC, 0, 0, false⟩) := Lib.hid rfl
  clear HO HRS
  generalize openS a d = OS at HRD HOP
  generalize sizeB a (blankS (sc1 d).1 (sc2 d).1) = sb at HOP HSS HAN
  generalize blankS (sc1 d).1 (sc2 d).1 = BS at HBS HSS HBL
  generalize clW (sc1 d).1 = cw at HOP HAN hN HBS
  generalize clH (sc2 d).1 = ch at HOP HAN hN HBS
  obtain ⟨N, hNq⟩ : ∃ N, N = cw * ch := ⟨_, rfl⟩
  rw [← hNq] at HOP HAN hN HBS
  clear hNq
  obtain ⟨v1, S1, e1, h1⟩ : ∃ v S e, sc1 d = (v, S, e) := ⟨_, _, _, rfl⟩
  obtain ⟨v2, S2, e2, h2⟩ : ∃ v S e, sc2 d = (v, S, e) := ⟨_, _, _, rfl⟩
  obtain ⟨v3, S3, e3, h3⟩ : ∃ v S e, sc3 d = (v, S, e) := ⟨_, _, _, rfl⟩
  obtain ⟨v4, S4, e4, h4⟩ : ∃ v S e, sc4 d = (v, S, e) := ⟨_, _, _, rfl⟩
  obtain ⟨v5, S5, e5, h5⟩ : ∃ v S e, sc5 d = (v, S, e) := ⟨_, _, _, rfl⟩
  obtain ⟨v6, S6, e6, h6⟩ : ∃ v S e, sc6 d = (v, S, e) := ⟨_, _, _, rfl⟩
  rw [h1] at H1 H2 r1 z1 z2
  rw [h1] at HBL
  rw [h2] at H2 H3 HBL r2 z2 z3
  rw [h3] at H3 H4 HOP r3 z3 z4
  rw [h4] at H4 H5 HOP r4 z4 z5
  rw [h5] at H5 H6 HOP r5 z5 z6
  rw [h6] at H6 HRD r6 z6
  simp only at H1 H2 H3 H4 H5 H6 HRD HOP HBL r1 r2 r3 r4 r5 r6 z1 z2 z3 z4 z5 z6
  clear h1 h2 h3 h4 h5 h6
  obtain ⟨cn, hcn⟩ : ∃ cn : Nat, v6 = (cn : Int) := ⟨v6.toNat, by omega⟩
  subst hcn
  rw [Int.toNat_natCast] at HRD
  obtain ⟨aW, aH, an, aF, aX, aY, ahi⟩ := a
  simp only [Scr.v, Scr.cs] at hw0 HP0 HSS HSA HAN HOP hn8 ⊢
  go_enter Try.func45, Try.ntmps45
  go_upto_region 1 with fail
  rw [← hw0, ← hp]
  clear hw0 hp
  go_wp2_with fail
  refine (on_any d w0).mono ?_
  rintro e w1 ⟨rfl, hi, hb⟩
  obtain ⟨i, hiq⟩ : ∃ i, i = w0.heap.size := ⟨_, rfl⟩
  rw [← hiq] at hi
  rw [← hiq]
  have HB1 : Hid (Below w.heap.size w w1) := Lib.hid (HB0.out.trans (hb.mono HB0.out.size))
  have HI1 := Lib.hid hi
  have HP1 := Lib.hid ((Keep.of_below (fun _ => False) hb).heap HP0.out (fun x => x))
  have HR1 := Lib.hid ((Keep.of_below (fun _ => False) hb).heap HR0.out (fun x => x))
  have hpi : p + 1 < i := by rw [hiq]; exact lt_heap HR0.out
  have HII : Hid (w.heap.size ≤ i) := Lib.hid (by rw [hiq]; exact HB0.out.size)
  clear hb hi hiq HB0 HP0 HR0
  have maxd : ∀ S : ByteArray, S.size ≤ d.size → S.size ≤ maxLen := fun S hS => by unfold maxLen; omega
  have HMX := Lib.hid maxd
  clear maxd
  go_wp2_with fail
  refine (innum_any i d 0 _ HI1.out (HMX.out _ (Nat.le_refl _))).mono ?_
  rintro r w2 ⟨rfl, hi2, hk2⟩
  rw [← H1.out] at hi2 ⊢
  have HI2 : Hid (InAt w2 i S1 e1) := Lib.hid hi2
  have HK2 := Lib.hid hk2
  clear hi2 hk2
  go_wp2_with fail
  refine (innum_any i S1 e1 _ HI2.out (HMX.out _ (by omega))).mono ?_
  rintro r w3 ⟨rfl, hi2, hk2⟩
  rw [← H2.out] at hi2 ⊢
  have HI3 : Hid (InAt w3 i S2 e2) := Lib.hid hi2
  have HK3 := Lib.hid (HK2.out.trans hk2 (fun _ _ x => x))
  clear hi2 hk2
  go_wp2_with fail
  refine (innum_any i S2 e2 _ HI3.out (HMX.out _ (by omega))).mono ?_
  rintro r w4 ⟨rfl, hi2, hk2⟩
  rw [← H3.out] at hi2 ⊢
  have HI4 : Hid (InAt w4 i S3 e3) := Lib.hid hi2
  have HK4 := Lib.hid (HK3.out.trans hk2 (fun _ _ x => x))
  clear hi2 hk2
  go_wp2_with fail
  refine (innum_any i S3 e3 _ HI4.out (HMX.out _ (by omega))).mono ?_
  rintro r w5 ⟨rfl, hi2, hk2⟩
  rw [← H4.out] at hi2 ⊢
  have HI5 : Hid (InAt w5 i S4 e4) := Lib.hid hi2
  have HK5 := Lib.hid (HK4.out.trans hk2 (fun _ _ x => x))
  clear hi2 hk2
  go_wp2_with fail
  refine (inbyte_any i S4 e4 _ HI5.out (by omega)).mono ?_
  rintro r w6 ⟨rfl, hi2, hk2⟩
  rw [← H5.out] at hi2 ⊢
  have HI6 : Hid (InAt w6 i S5 e5) := Lib.hid hi2
  have HK6 := Lib.hid (HK5.out.trans hk2 (fun _ _ x => x))
  have HB6 : Hid (Below w.heap.size w w6) := Lib.hid (HB1.out.trans (HK6.out.below HB1.out.size (fun k hk e => by have := HII.out; omega)))
  have HP6 := Lib.hid (HK6.out.heap HP1.out (by omega))
  have HR6 := Lib.hid (HK6.out.heap HR1.out (by omega))
  clear hi2 hk2 HI2 HI3 HI4 HI5 HK2 HK3 HK4 HK5 HK6 HB1 HP1 HR1 HI1
  go_wp2_with fail
  refine (HBL.out w6).mono ?_
  rintro e w7 ⟨g, cc, rfl, hg1, hg2, hl, hcc, hcm, hsh, hb⟩
  rw [HBS.out] at hl hcc ⊢
  simp only at hl hcc
  have K7 := Keep.of_below (fun _ => False) hb
  have HB7 : Hid (Below w.heap.size w w7) := Lib.hid (HB6.out.trans (hb.mono HB6.out.size))
  have HI7 := Lib.hid (HI6.out.keep K7 (fun x => x))
  have HP7 := Lib.hid (K7.heap HP6.out (fun x => x))
  have HR7 := Lib.hid (K7.heap HR6.out (fun x => x))
  have HL7 := Lib.hid hl
  have HS7 := Lib.hid hsh
  have HG7 : Hid (i < g ∧ g < w7.heap.size) := Lib.hid ⟨Nat.lt_of_lt_of_le HI6.out.lt hg1, hg2⟩
  clear hg1 hg2 hl hsh hb K7 HB6 HI6 HP6 HR6
  simp only [Scr.v]
  go_upto_region 4 with fail
  obtain ⟨w8, hw8⟩ : ∃ w8, w8 = w7.alloc (.cells #[.int .i64 (cw : Int), .int .i64 (ch : Int), .slice (some ⟨g, 0, none⟩) N cc, .int .i64 0, .int .i64 0, .bool false] 24) := ⟨_, rfl⟩
  obtain ⟨bx, hbx⟩ : ∃ bx, bx = w7.heap.size := ⟨_, rfl⟩
  have K8 : Keep (fun _ => False) w7 w8 := by rw [hw8]; exact (Keep.refl _ _).alloc _
  have HB8 : Hid (Below w.heap.size w w8) := Lib.hid (by rw [hw8]; exact HB7.out.alloc HB7.out.size _)
  have HI8 := Lib.hid (HI7.out.keep K8 (fun x => x))
  have HP8 := Lib.hid (K8.heap HP7.out (fun x => x))
  have HR8 := Lib.hid (K8.heap HR7.out (fun x => x))
  have HX8 : Hid (w8.heap[bx]? = some (.cells #[.int .i64 (cw : Int), .int .i64 (ch : Int), .slice (some ⟨g, 0, none⟩) N cc, .int .i64 0, .int .i64 0, .bool false] 24 (0, 0))) := Lib.hid (by rw [hw8, hbx]; exact heap_alloc_new _ _)
  have HL8 := Lib.hid (HL7.out.keep HG7.out.2 K8 (fun x => x))
  have HS8 := Lib.hid (HS7.out.keep K8 (fun x => x))
  have HG8 : Hid (p + 1 < i ∧ i < g ∧ g < bx ∧ bx < w8.heap.size) := Lib.hid ⟨hpi, HG7.out.1, by rw [hbx]; exact HG7.out.2, by rw [hw8, hbx]; simp⟩
  rw [← hw8, ← hbx]
  clear hw8 hbx K8 HB7 HI7 HP7 HR7 HL7 HS7 HG7
  rw [HBS.out] at HSS
  simp only at HSS
  have a0 := cell_at HP8.out 0; have a1 := cell_at HP8.out 1; have a2 := cell_at HP8.out 2; have a3 := cell_at HP8.out 3; have a4 := cell_at HP8.out 4; have a5 := cell_at HP8.out 5
  have b0 := cell_at HX8.out 0; have b1 := cell_at HX8.out 1; have b2 := cell_at HX8.out 2; have b3 := cell_at HX8.out 3; have b4 := cell_at HX8.out 4; have b5 := cell_at HX8.out 5
  simp at a0 a1 a2 a3 a4 a5 b0 b1 b2 b3 b4 b5
  go_wp2_with fail
  refine (HSS.out w8 (some ⟨g, 0, none⟩) cc).mono ?_
  rintro r w9 ⟨rfl, hb⟩
  have K9 := Keep.of_below (fun _ => False) hb
  have HB9 : Hid (Below w.heap.size w w9) := Lib.hid (HB8.out.trans (hb.mono HB8.out.size))
  have HI9 := Lib.hid (HI8.out.keep K9 (fun x => x))
  have HP9 := Lib.hid (K9.heap HP8.out (fun x => x))
  have HR9 := Lib.hid (K9.heap HR8.out (fun x => x))
  have HX9 := Lib.hid (K9.heap HX8.out (fun x => x))
  obtain ⟨q1, q2, q3, q4⟩ := HG8.out
  have HL9 := Lib.hid (HL8.out.keep (by omega) K9 (fun x => x))
  have HS9 := Lib.hid (HS8.out.keep K9 (fun x => x))
  have HG9 : Hid (p + 1 < i ∧ i < g ∧ g < bx ∧ bx < w9.heap.size) := Lib.hid ⟨q1, q2, q3, Nat.lt_of_lt_of_le q4 K9.size⟩
  clear a0 a1 a2 a3 a4 a5 b0 b1 b2 b3 b4 b5 hb K9 HB8 HI8 HP8 HR8 HX8 HL8 HS8 HG8 q1 q2 q3 q4
  go_upto_if 32 with fail
  go_cut [11] from 33 to 36 (fun v wx => v = .pointer (some ⟨bx, 0, none⟩) ∧ ∃ (G zc : Nat), N ≤ zc ∧ zc ≤ 9223372036854775807 ∧ Hid (wx.heap[bx]? = some (.cells #[.int .i64 (cw : Int), .int .i64 (ch : Int), .slice (some ⟨G, 0, none⟩) N zc, .int .i64 0, .int .i64 0, .bool false] 24 (0, 0))) ∧ Hid (Lies wx G 0 N OS.F) ∧ Hid (Shape wx G zc) ∧ Hid (p + 1 < i ∧ i < G ∧ G ≠ bx ∧ i < bx ∧ G < wx.heap.size) ∧ Hid (InAt wx i S5 e5) ∧ Hid (wx.heap[p + 1]? = some (.cells #[.int .i64 0, .int .i64 0, .slice none 0 0, .int .i64 0, .int .i64 0, .bool false] 24 (0, 0))) ∧ Hid (Below w.heap.size w wx))
  case first =>
    cases sb
    · have HF : Hid (OS.F = fun _ => emptyC) := Lib.hid (by rw [HOP.out]; simp)
      go_wp2_with fail
      go_meet
      exact ⟨rfl, g, cc, hcc, hcm, HX9, Lib.hid (by rw [HF.out]; exact HL9.out), HS9, Lib.hid ⟨HG9.out.1, HG9.out.2.1, by have := HG9.out; omega, by have := HG9.out; omega, by have := HG9.out; omega⟩, HI9, HR9, HB9⟩
    · have HF : Hid (OS.F = aF) := Lib.hid (by rw [HOP.out]; simp)
      have haN : an = N := HAN.out rfl
      subst haN
      have a0 := cell_at HP9.out 0; have a2 := cell_at HP9.out 2
      have b2 := cell_at HX9.out 2
      have f2 := free_at HX9.out 2
      simp at a0 a2 b2
      go_wp2_with fail
      refine (clone_src w9 A an c aF (HSA.out.keep (Keep.of_below _ HB9.out)) (by omega) (by omega)).mono ?_
      rintro r w10 ⟨G, zc, rfl, h1, h2, h3, h4, h5, h6, hb⟩
      have K10 := Keep.of_below (fun _ => False) hb
      have HX10 := Lib.hid (K10.heap HX9.out (fun x => x))
      have HI10 := Lib.hid (HI9.out.keep K10 (fun x => x))
      have HR10 := Lib.hid (K10.heap HR9.out (fun x => x))
      have HB10 : Hid (Below w.heap.size w w10) := Lib.hid (HB9.out.trans (hb.mono HB9.out.size))
      have HL10 := Lib.hid h3
      have HS10 := Lib.hid (Shape.of_own h6)
      have HG10 : Hid (p + 1 < i ∧ i < G ∧ G ≠ bx ∧ i < bx ∧ G < w10.heap.size) := Lib.hid (by have := HG9.out; exact ⟨by omega, by omega, by omega, by omega, h2⟩)
      clear a0 a2 b2 f2 h1 h2 h3 h6 hb K10
      have b2 := cell_at HX10.out 2
      have f2 := free_at HX10.out 2
      simp at b2
      go_wp2_with fail
      go_meet
      have K := keep_set w10 bx 2 (.slice (some ⟨G, 0, none⟩) an zc)
      have q := HG10.out
      have hh := heap_set HX10.out 2 (.slice (some ⟨G, 0, none⟩) an zc)
      exact ⟨rfl, G, zc, h4, h5, Lib.hid (by simpa using hh), Lib.hid (by rw [HF.out]; exact HL10.out.keep q.2.2.2.2 K q.2.2.1), Lib.hid (HS10.out.keep K q.2.2.1), Lib.hid ⟨q.1, q.2.1, q.2.2.1, q.2.2.2.1, by simpa using q.2.2.2.2⟩, Lib.hid (HI10.out.keep K (by omega)), Lib.hid (K.heap HR10.out (by omega)), Lib.hid (HB10.out.trans (K.below HB10.out.size (fun k hk e => by have := HII.out; omega)))⟩
  case rest =>
    obtain ⟨rfl, G, zc, hz1, hz2, HX, HL, HS, HG, HI, HR, HB⟩ := hcut
    have b0 := cell_at HX.out 0; have b1 := cell_at HX.out 1; have b2 := cell_at HX.out 2; have b3 := cell_at HX.out 3; have b4 := cell_at HX.out 4; have b5 := cell_at HX.out 5
    have f3 := free_at HX.out 3; have f4 := free_at HX.out 4; have f5 := free_at HX.out 5
    simp at b0 b1 b2 b3 b4 b5
    go_upto_region 8 with fail
    obtain ⟨hv, hhv⟩ : ∃ hv, hv = (v5 != 0) := ⟨_, rfl⟩
    rw [← hhv] at HOP
    rw [← hhv]
    obtain ⟨w11, hw11⟩ : ∃ w11, w11 = ((wc.setCell ⟨bx, 3, none⟩ (.int .i64 v3)).setCell ⟨bx, 4, none⟩ (.int .i64 v4)).setCell ⟨bx, 5, none⟩ (.bool hv) := ⟨_, rfl⟩
    have K11 : Keep (· = bx) wc w11 := by rw [hw11]; exact (((keep_set wc bx 3 _).own 4 _).own 5 _)
    have HX11 : Hid (w11.heap[bx]? = some (.cells #[.int .i64 (cw : Int), .int .i64 (ch : Int), .slice (some ⟨G, 0, none⟩) N zc, .int .i64 v3, .int .i64 v4, .bool hv] 24 (0, 0))) := Lib.hid (by
      rw [hw11]
      have := heap_set (heap_set (heap_set HX.out 3 (.int .i64 v3)) 4 (.int .i64 v4)) 5 (.bool hv)
      simpa using this)
    obtain ⟨q1, q2, q3, q4, q5⟩ := HG.out
    have HL11 := Lib.hid (HL.out.keep q5 K11 q3)
    have HS11 := Lib.hid (HS.out.keep K11 q3)
    have HI11 := Lib.hid (HI.out.keep K11 (by omega))
    have HR11 := Lib.hid (K11.heap HR.out (by omega))
    have HB11 : Hid (Below w.heap.size w w11) := Lib.hid (HB.out.trans (K11.below HB.out.size (fun k hk e => by have := HII.out; omega)))
    have HG11 : Hid (G < w11.heap.size) := Lib.hid (Nat.lt_of_lt_of_le q5 K11.size)
    rw [← hw11]
    clear hw11 K11 HX HL HS HI HR HB b0 b1 b2 b3 b4 b5 f3 f4 f5 hhv q5
    go_wp2_with fail
    refine (innum_any i S5 e5 _ HI11.out (HMX.out _ (by omega))).mono ?_
    rintro r w12 ⟨rfl, hi2, hk2⟩
    rw [← H6.out] at hi2 ⊢
    have HI12 : Hid (InAt w12 i S6 e6) := Lib.hid hi2
    have HX12 := Lib.hid (hk2.heap HX11.out (by omega))
    have HL12 := Lib.hid (HL11.out.keep HG11.out hk2 (by omega))
    have HS12 := Lib.hid (HS11.out.keep hk2 (by omega))
    have HR12 := Lib.hid (hk2.heap HR11.out (by omega))
    have HB12 : Hid (Below w.heap.size w w12) := Lib.hid (HB11.out.trans (hk2.below HB11.out.size (fun k hk e => by have := HII.out; omega)))
    have HG12 : Hid (G < w12.heap.size) := Lib.hid (Nat.lt_of_lt_of_le HG11.out hk2.size)
    have HSUF : Hid (e6 = 0 → Suf d S6) := Lib.hid (fun h => by
      have h6 := numS_suf S5 e5 (by rw [← H6.out]; exact h)
      have h5 := byteS_suf S4 e4 (by rw [← H5.out]; exact h6.1)
      have h4 := numS_suf S3 e3 (by rw [← H4.out]; exact h5.1)
      have h3 := numS_suf S2 e2 (by rw [← H3.out]; exact h4.1)
      have h2 := numS_suf S1 e1 (by rw [← H2.out]; exact h3.1)
      have h1 := numS_suf d 0 (by rw [← H1.out]; exact h2.1)
      rw [← H1.out] at h1
      rw [← H2.out] at h2
      rw [← H3.out] at h3
      rw [← H4.out] at h4
      rw [← H5.out] at h5
      rw [← H6.out] at h6
      exact ((((h1.2.trans h2.2).trans h3.2).trans h4.2).trans h5.2).trans h6.2)
    have HON : Hid (OS.n = N) := Lib.hid (by rw [HOP.out])
    rw [HON.out] at HRD
    clear hi2 hk2 HI11 HX11 HL11 HS11 HR11 HB11 HG11
    go_wp2_with fail
    go_loopw [12, 48] (fun rs ix wr => ∃ (q k L Cc : Nat) (O : Option Addr) (F : Nat → CellM) (S : ByteArray) (e : Int), q ≤ cn ∧ ix = .int .i64 (q : Int) ∧ rs = .slice O L Cc ∧ L + k = N ∧ Cc + k = zc ∧ S.size ≤ d.size ∧ Hid (k < N → O = some ⟨G, k * 6, none⟩) ∧ Hid (e = 0 → Suf d S) ∧
      Hid (runsS N cn 0 OS.F S6 e6 = runsS N (cn - q) k F S e) ∧ Hid (InAt wr i S e) ∧ Hid (Lies wr G 0 N F) ∧ Hid (Shape wr G zc) ∧ Hid (G < wr.heap.size) ∧
      Hid (wr.heap[bx]? = some (.cells #[.int .i64 (cw : Int), .int .i64 (ch : Int), .slice (some ⟨G, 0, none⟩) N zc, .int .i64 v3, .int .i64 v4, .bool hv] 24 (0, 0))) ∧
      Hid (wr.heap[p + 1]? = some (.cells #[.int .i64 0, .int .i64 0, .slice none 0 0, .int .i64 0, .int .i64 0, .bool false] 24 (0, 0))) ∧ Hid (Below w.heap.size w wr)) (fun _ ix _ => cn - (intOf ix).toNat)
    case atStart => exact ⟨0, 0, N, zc, some ⟨G, 0, none⟩, OS.F, S6, e6, by omega, rfl, rfl, by omega, by omega, by omega, Lib.hid (fun _ => by simp), HSUF, Lib.hid rfl, HI12, HL12, HS12, HG12, HX12, HR12, HB12⟩
    case round =>
      obtain ⟨q, k, L, Cc, O, F, S, e, hq, rfl, rfl, hkN, hkC, hSd, HO, HSU, HRU, HIr, HLr, HSr, HGr, HXr, HRr, HBr⟩ := hrel
      by_cases hlt : q < cn
      · have hqi : ((q : Int) < (cn : Int)) := by omega
        have hq0 : (0 : Int) ≤ (q : Int) := by omega
        have r7 := numS_rng S e
        have z7 := numS_size S e
        obtain ⟨gp, T1, f1, hn1⟩ : ∃ v T f, numS S e = (v, T, f) := ⟨_, _, _, rfl⟩
        rw [hn1] at r7 z7
        have r8 := numS_rng T1 f1
        have z8 := numS_size T1 f1
        have y8 := numS_zero T1 f1
        have s7 := numS_suf S e
        have s8 := numS_suf T1 f1
        obtain ⟨sz, T2, f2, hn2⟩ : ∃ v T f, numS T1 f1 = (v, T, f) := ⟨_, _, _, rfl⟩
        rw [hn1] at s7
        rw [hn2] at r8 z8 y8 s8
        simp only at r7 z7 r8 z8 y8 s7 s8
        have HStep : Hid (runsS N (cn - q) k F S e = if sz = 0 ∨ sz > (N : Int) - k - gp then none else match cellsS sz.toNat F (k + gp.toNat) T2 with | none => none | some (X, U) => runsS N (cn - (q + 1)) (k + gp.toNat + sz.toNat) X U 0) := Lib.hid (by
          rw [show cn - q = (cn - (q + 1)) + 1 from by omega]
          conv => lhs; unfold runsS
          rw [hn1]
          (try simp only)
          rw [hn2]
          rfl)
        have HN1 := Lib.hid hn1
        have HN2 := Lib.hid hn2
        have HSF : Hid (f2 = 0 → Suf d T2) := Lib.hid (fun h => by
          have h8 := s8 h
          have h7 := s7 h8.1
          exact ((HSU.out h7.1).trans h7.2).trans h8.2)
        have HY8 := Lib.hid y8
        clear hn1 hn2 s7 s8 y8
        go_wp2_with fail
        refine (innum_any i S e _ HIr.out (HMX.out _ (by omega))).mono ?_
        rintro r w13 ⟨rfl, hi2, hk2⟩
        rw [HN1.out] at hi2 ⊢
        have HI13 : Hid (InAt w13 i T1 f1) := Lib.hid hi2
        have HK13 := Lib.hid hk2
        clear hi2 hk2
        go_wp2_with fail
        refine (innum_any i T1 f1 _ HI13.out (HMX.out _ (by omega))).mono ?_
        rintro r w14 ⟨rfl, hi2, hk2⟩
        rw [HN2.out] at hi2 ⊢
        have HI14 : Hid (InAt w14 i T2 f2) := Lib.hid hi2
        have K14 := HK13.out.trans hk2 (fun _ _ x => x)
        have HL14 := Lib.hid (HLr.out.keep HGr.out K14 (by omega))
        have HS14 := Lib.hid (HSr.out.keep K14 (by omega))
        have HG14 : Hid (G < w14.heap.size) := Lib.hid (Nat.lt_of_lt_of_le HGr.out K14.size)
        have HX14 := Lib.hid (K14.heap HXr.out (by omega))
        have HR14 := Lib.hid (K14.heap HRr.out (by omega))
        have HB14 : Hid (Below w.heap.size w w14) := Lib.hid (HBr.out.trans (K14.below HBr.out.size (fun k hk e => by have := HII.out; omega)))
        clear hi2 hk2 K14 HI13 HK13 HIr HLr HSr HGr HXr HRr HBr
        by_cases hz0 : sz = 0
        · have HZ : Hid (RS = zeroS) := Lib.hid (by rw [HRD.out, HRU.out, HStep.out, if_pos (.inl hz0)])
          have hz0b : (sz == 0) = true := by simp [hz0]
          subst hz0
          have r0 := cell_at HR14.out 0; have r1 := cell_at HR14.out 1; have r2 := cell_at HR14.out 2; have r3 := cell_at HR14.out 3; have r4 := cell_at HR14.out 4; have r5 := cell_at HR14.out 5
          have fr := free_at HR14.out
          simp at r0 r1 r2 r3 r4 r5
          go_wp2_with fail
          refine bodyPost_ret (v := (zeroS.v none 0)) (by simp [results, Try.results45, go_sem, Scr.v, zeroS, r0, r1, r2, r3, r4, r5]) rfl ?_
          rw [HZ.out]
          exact .inr ⟨rfl, rfl, HB14.out.trans ((((((keep_set w14 (p + 1) 0 _).own 1 _).own 2 _).own 3 _).own 4 _).own 5 _ |>.below HB14.out.size (fun kk hk ee => by have := HPW.out; omega))⟩
        have hz0b : (sz == 0) = false := by simpa using hz0
        by_cases hzg : sz > (L : Int) - gp
        · have HZ : Hid (RS = zeroS) := Lib.hid (by rw [HRD.out, HRU.out, HStep.out, if_pos (.inr (by omega))])
          have r0 := cell_at HR14.out 0; have r1 := cell_at HR14.out 1; have r2 := cell_at HR14.out 2; have r3 := cell_at HR14.out 3; have r4 := cell_at HR14.out 4; have r5 := cell_at HR14.out 5
          have fr := free_at HR14.out
          simp at r0 r1 r2 r3 r4 r5
          go_wp2_with fail
          refine bodyPost_ret (v := (zeroS.v none 0)) (by simp [results, Try.results45, go_sem, Scr.v, zeroS, r0, r1, r2, r3, r4, r5]) rfl ?_
          rw [HZ.out]
          exact .inr ⟨rfl, rfl, HB14.out.trans ((((((keep_set w14 (p + 1) 0 _).own 1 _).own 2 _).own 3 _).own 4 _).own 5 _ |>.below HB14.out.size (fun kk hk ee => by have := HPW.out; omega))⟩
        obtain ⟨gn, rfl⟩ : ∃ gn : Nat, gp = (gn : Int) := ⟨gp.toNat, by omega⟩
        obtain ⟨sn, rfl⟩ : ∃ sn : Nat, sz = (sn : Int) := ⟨sz.toNat, by omega⟩
        have hgs : gn + sn ≤ L := by omega
        have hs0 : 0 < sn := by omega
        have hO := HO.out (by omega)
        subst hO
        have hf2 : f2 = 0 := HY8.out hz0
        subst hf2
        have HSf := Lib.hid (HSF.out rfl)
        have HR1 : Hid (runsS N cn 0 OS.F S6 e6 = match cellsS sn F (k + gn) T2 with | none => none | some (X, U) => runsS N (cn - (q + 1)) (k + gn + sn) X U 0) := Lib.hid (by
          rw [HRU.out, HStep.out, if_neg (by omega), Int.toNat_natCast, Int.toNat_natCast])
        have t1 : ((gn : Int) + (sn : Int) ≤ (Cc : Int)) := by omega
        have t2 : ¬ Cc = gn := by omega
        have t3 : ((gn : Int) ≤ (gn : Int) + (sn : Int)) := by omega
        have t4 : ((Cc : Int) ≤ 9223372036854775807) := by omega
        have t5 : (0 : Int) ≤ (gn : Int) := by omega
        have t6 : ((gn : Int) + (sn : Int) ≤ (L : Int)) := by omega
        have HRC := Lib.hid (patch_readCells i G N (k + gn) sn (Cc - gn) zc d T2 F w14 HL14.out HG14.out HS14.out HI14.out (by omega) (by omega) (by omega) HSf.out hd)
        rw [show (k + gn) * 6 = k * 6 + gn * 6 from by omega] at HRC
        clear HRU HStep HSF HSU HO HN1 HN2 HY8
        go_wp2_with fail
        refine HRC.out.mono ?_
        obtain ⟨RC, hRC⟩ : ∃ RC, cellsS sn F (k + gn) T2 = RC := ⟨_, rfl⟩
        rw [hRC] at HR1 ⊢
        clear hRC HRC
        rintro r w15 ⟨hk, hsh, hres⟩
        have HS15 := Lib.hid hsh
        have HG15 : Hid (G < w15.heap.size) := Lib.hid (Nat.lt_of_lt_of_le HG14.out hk.size)
        have HX15 := Lib.hid (hk.heap HX14.out (by omega))
        have HR15 := Lib.hid (hk.heap HR14.out (by omega))
        have HB15 : Hid (Below w.heap.size w w15) := Lib.hid (HB14.out.trans (hk.below HB14.out.size (fun k hk e => by have := HII.out; omega)))
        clear hk hsh HI14 HL14 HS14 HG14 HX14 HR14 HB14
        cases RC with
        | none =>
          obtain rfl := hres
          have HZ : Hid (RS = zeroS) := Lib.hid (by rw [HRD.out, HR1.out])
          have r0 := cell_at HR15.out 0; have r1 := cell_at HR15.out 1; have r2 := cell_at HR15.out 2; have r3 := cell_at HR15.out 3; have r4 := cell_at HR15.out 4; have r5 := cell_at HR15.out 5
          have fr := free_at HR15.out
          simp at r0 r1 r2 r3 r4 r5
          go_wp2_with fail
          refine bodyPost_ret (v := (zeroS.v none 0)) (by simp [results, Try.results45, go_sem, Scr.v, zeroS, r0, r1, r2, r3, r4, r5]) rfl ?_
          rw [HZ.out]
          exact .inr ⟨rfl, rfl, HB15.out.trans ((((((keep_set w15 (p + 1) 0 _).own 1 _).own 2 _).own 3 _).own 4 _).own 5 _ |>.below HB15.out.size (fun kk hk ee => by have := HPW.out; omega))⟩
        | some X =>
          obtain ⟨Gf, T3⟩ := X
          obtain ⟨rfl, hl, hi, hsf⟩ := hres
          have HL15 := Lib.hid hl
          have HI15 := Lib.hid hi
          have HSF15 : Hid (Suf d T3) := Lib.hid hsf
          have hT3 : T3.size ≤ d.size := hsf.1
          clear hl hi hsf
          by_cases hcc : Cc = gn + sn
          · have t7 : (Cc = gn + sn) = True := by simp [hcc]
            go_wp2_with fail
            go_roundw
            case rel => exact ⟨q + 1, k + gn + sn, L - (gn + sn), gn + sn - (gn + sn), _, Gf, T3, 0, by omega, by go_num, rfl, by omega, by omega, hT3, Lib.hid (fun hh => by omega), Lib.hid (fun _ => HSF15.out), Lib.hid (by rw [HR1.out]), HI15, HL15, HS15, HG15, HX15, HR15, HB15⟩
            case measure => simp [intOf]; omega
          · go_wp2_with fail
            go_roundw
            case rel => exact ⟨q + 1, k + gn + sn, L - (gn + sn), Cc - (gn + sn), _, Gf, T3, 0, by omega, by go_num, rfl, by omega, by omega, hT3, Lib.hid (fun hh => by congr 2; omega), Lib.hid (fun _ => HSF15.out), Lib.hid (by rw [HR1.out]), HI15, HL15, HS15, HG15, HX15, HR15, HB15⟩
            case measure => simp [intOf]; omega
      · obtain rfl : q = cn := by omega
        have hqi : ¬ ((q : Int) < (q : Int)) := by omega
        have HZ : Hid (RS = ⟨cw, ch, N, F, v3, v4, hv⟩) := Lib.hid (by
          rw [HRD.out, HRU.out, Nat.sub_self]
          show ({ W := OS.W, H := OS.H, n := N, F := F, X := OS.X, Y := OS.Y, hid := OS.hid } : Scr) = _
          rw [HOP.out])
        have b0 := cell_at HXr.out 0; have b1 := cell_at HXr.out 1; have b2 := cell_at HXr.out 2; have b3 := cell_at HXr.out 3; have b4 := cell_at HXr.out 4; have b5 := cell_at HXr.out 5
        have r0 := cell_at HRr.out 0; have r1 := cell_at HRr.out 1; have r2 := cell_at HRr.out 2; have r3 := cell_at HRr.out 3; have r4 := cell_at HRr.out 4; have r5 := cell_at HRr.out 5
        have fr := free_at HRr.out
        simp at r0 r1 r2 r3 r4 r5 b0 b1 b2 b3 b4 b5
        go_wp2_with fail
        refine bodyPost_ret (v := (Scr.v ⟨cw, ch, N, F, v3, v4, hv⟩ (some ⟨G, 0, none⟩) zc)) (by simp [results, Try.results45, go_sem, Scr.v, r0, r1, r2, r3, r4, r5]) rfl ?_
        rw [HZ.out]
        have K := (((((keep_set wr (p + 1) 0 (Value.int IntKind.i64 ↑cw)).own 1 (Value.int IntKind.i64 ↑ch)).own 2 (Value.slice (some ⟨G, 0, none⟩) N zc)).own 3 (Value.int IntKind.i64 v3)).own 4 (Value.int IntKind.i64 v4)).own 5 (Value.bool hv)
        exact .inl ⟨G, zc, rfl, by have := HII.out; omega, Nat.lt_of_lt_of_le HGr.out K.size, HLr.out.keep HGr.out K (by omega), hz1, hz2, HSr.out.keep K (by omega), HBr.out.trans (K.below HBr.out.size (fun kk hk ee => by have := HPW.out; omega))⟩

end Go.Proofs.Ytgomnigchfmfhaa
