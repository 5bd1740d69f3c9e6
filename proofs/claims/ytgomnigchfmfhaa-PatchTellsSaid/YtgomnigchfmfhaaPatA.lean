/- patch: the statements' first call (alive). Own work. -/
import Derived.Test.YtgomnigchfmfhaaPat9
import Derived.Test.YtgomnigchfmfhaaPatD
namespace Go.Proofs.Ytgomnigchfmfhaa
set_option linter.unusedVariables false
set_option linter.unusedSimpArgs false
open Go.RowKit

theorem diffB_le (a b : Scr) (hb : b.Ok) : (diffB a b).length ≤ 30000 := by
  have h8 := hb.n800.1
  have := runsB_le b.F b.n hb.c (by omega) (runsN (chg a b) b.n) 0 0 (runsN_ok _ _).1
  have := runsN_len (chg a b) b.n
  have := enc_le (runsN (chg a b) b.n).length (by omega)
  have hw := hb.w
  have hh := hb.h
  have hx := hb.x
  have hy := hb.y
  have := enc_le b.W.toNat (by omega)
  have := enc_le b.H.toNat (by omega)
  have := enc_le b.X.toNat (by omega)
  have := enc_le b.Y.toNat (by omega)
  unfold diffB headB
  simp only [List.length_append, List.length_cons, List.length_nil]
  omega
def sA : Scr := ⟨3, 2, 6, fun _ => emptyC, 0, 0, false⟩
def sB : Scr := ⟨3, 2, 6, layF 4 ⟨120, .z⟩ (fun _ => emptyC), 0, 0, false⟩
theorem blank_32 : blankS 3 2 = sA := rfl
theorem sA_ok : sA.Ok := (validB_iff _).1 (by decide +kernel)
theorem sB_okb : validB sB = true := by decide +kernel
theorem sB_ok : sB.Ok := (validB_iff _).1 sB_okb
theorem sAB_cnt : cntN (chg sA sB) sB.n = 1 := by decide +kernel
theorem sAB_like : likeB sA sB = false := by decide +kernel
/-- The rune alone of a cell is stored. -/
theorem lies_rune {w : World} {g n k : Nat} {F : Nat → CellM} (h : Lies w g 0 n F) (hk : k < n) (r : Int) : Lies (w.setCell ⟨g, k * 6, none⟩ (.int .i32 r)) g 0 n (layF k ⟨r, (F k).a⟩ F) := by
  refine ⟨fun j hj i v hv => ?_, fun j hj => by rw [World.frozen?_setCell]; exact h.can j hj⟩
  have hi := cellCs_lt hv
  unfold layF at hv
  by_cases e : j = k
  · subst e
    rw [if_pos rfl] at hv
    by_cases e2 : i = 0
    · subst e2
      have e3 : v = .int .i32 r := by simpa [cellCs] using hv.symm
      rw [e3]
      have h0 := h.val j hj 0 _ rfl
      simp only [Nat.zero_add, Nat.add_zero] at h0 ⊢
      exact World.cell?_setCell_same _ _ _ h0
    · rw [World.cell?_setCell_other _ ⟨g, j * 6, none⟩ _ _ (by simp; try omega)]
      refine h.val j hj i v ?_
      rcases i with _ | i
      · exact absurd rfl e2
      · simpa [cellCs] using hv
  · rw [if_neg e] at hv
    rw [World.cell?_setCell_other _ ⟨g, k * 6, none⟩ _ _ (by simp; try omega)]
    exact h.val j hj i v hv
theorem Shape.set {w : World} {g c : Nat} (h : Shape w g c) (o : Nat) (v : Value) : Shape (w.setCell ⟨g, o, none⟩ v) g c := h.sets [v] o

set_option maxRecDepth 100000 in
set_option maxHeartbeats 6400000 in
theorem patch_alive (w : World) : Calls Try.prog 5 #[] w fun e w' => e = .returned (.bool true) ∧ Below w.heap.size w w' := by
  have HBL := Lib.hid (fun V => patch_Blank 3 2 V)
  rw [blank_32] at HBL
  go_enter Try.func5, Try.ntmps5
  go_wp2_with fail
  refine (HBL.out _).mono ?_
  rintro e w1 ⟨g1, c1, rfl, hg1, hg2, hl, hcc, hcm, hsh, hb⟩
  have HL1 := Lib.hid hl
  have HG1 : Hid (w.heap.size ≤ g1 ∧ g1 < w1.heap.size) := Lib.hid ⟨hg1, hg2⟩
  have HB1 := Lib.hid hb
  have hc1 : 6 ≤ c1 := hcc
  clear hg1 hg2 hl hcc hcm hsh hb
  go_wp2_with fail
  refine (HBL.out _).mono ?_
  rintro e w2 ⟨g2, c2, rfl, hg1, hg2, hl, hcc, hcm, hsh, hb⟩
  have K2 := Keep.of_below (fun _ => False) hb
  have HL2 := Lib.hid hl
  have HL1' := Lib.hid (HL1.out.keep HG1.out.2 K2 (fun x => x))
  have HG2 : Hid (w.heap.size ≤ g1 ∧ g1 < g2 ∧ g2 < w2.heap.size) := Lib.hid ⟨HG1.out.1, by have := HG1.out.2; omega, hg2⟩
  have HB2 : Hid (Below w.heap.size w w2) := Lib.hid (HB1.out.trans (hb.mono HB1.out.size))
  have hc2 : 6 ≤ c2 := hcc
  clear hg1 hg2 hl hcc hcm hsh hb HL1 HG1 HB1 K2
  simp only [Scr.v, sA]
  go_upto_region 2 with fail
  obtain ⟨w3, hw3⟩ : ∃ w3, w3 = (w2.alloc (.cells #[.int .i64 3, .int .i64 2, .slice (some ⟨g1, 0, none⟩) 6 c1, .int .i64 0, .int .i64 0, .bool false] 24)).alloc (.cells #[.int .i64 3, .int .i64 2, .slice (some ⟨g2, 0, none⟩) 6 c2, .int .i64 0, .int .i64 0, .bool false] 24) := ⟨_, rfl⟩
  obtain ⟨b1, hb1⟩ : ∃ b, b = w2.heap.size := ⟨_, rfl⟩
  have K3 : Keep (fun _ => False) w2 w3 := by rw [hw3]; exact ((Keep.refl _ _).alloc _).alloc _
  have HX3 : Hid (w3.heap[b1]? = some (.cells #[.int .i64 3, .int .i64 2, .slice (some ⟨g1, 0, none⟩) 6 c1, .int .i64 0, .int .i64 0, .bool false] 24 (0, 0))) := Lib.hid (by rw [hw3, hb1]; exact (Lib.alloc_old _ _ _ (by simp)).trans (heap_alloc_new _ _))
  have HY3 : Hid (w3.heap[b1 + 1]? = some (.cells #[.int .i64 3, .int .i64 2, .slice (some ⟨g2, 0, none⟩) 6 c2, .int .i64 0, .int .i64 0, .bool false] 24 (0, 0))) := Lib.hid (by
    rw [hw3, hb1]
    have := heap_alloc_new (w2.alloc (.cells #[.int .i64 3, .int .i64 2, .slice (some ⟨g1, 0, none⟩) 6 c1, .int .i64 0, .int .i64 0, .bool false] 24)) (.cells #[.int .i64 3, .int .i64 2, .slice (some ⟨g2, 0, none⟩) 6 c2, .int .i64 0, .int .i64 0, .bool false] 24)
    simpa using this)
  have HL31 := Lib.hid (HL1'.out.keep (by have := HG2.out; omega) K3 (fun x => x))
  have HL32 := Lib.hid (HL2.out.keep (by have := HG2.out; omega) K3 (fun x => x))
  have HG3 : Hid (w.heap.size ≤ g1 ∧ g1 < g2 ∧ g2 < b1 ∧ b1 + 1 < w3.heap.size) := Lib.hid ⟨HG2.out.1, HG2.out.2.1, by rw [hb1]; exact HG2.out.2.2, lt_heap HY3.out⟩
  have HB3 : Hid (Below w.heap.size w w3) := Lib.hid (by rw [hw3]; exact (HB2.out.alloc HB2.out.size _).alloc (by have := HB2.out.size; simp; omega) _)
  rw [← hw3, ← hb1]
  clear hw3 hb1 K3 HL1' HL2 HG2 HB2
  have x2 := cell_at HY3.out 2
  simp at x2
  have y0 : w3.cell? ⟨g2, 24, none⟩ = some (.int .i32 32) := HL32.out.val 4 (by decide) 0 _ rfl
  have f0 : w3.frozen? ⟨g2, 24, none⟩ = false := HL32.out.can 24 (by decide)
  go_upto_region 5 with fail
  obtain ⟨w4, hw4⟩ : ∃ w4, w4 = w3.setCell ⟨g2, 24, none⟩ (.int .i32 120) := ⟨_, rfl⟩
  have K4 : Keep (· = g2) w3 w4 := by rw [hw4]; exact keep_set _ _ _ _
  have HX4 := Lib.hid (K4.heap HX3.out (by have := HG3.out; omega))
  have HY4 := Lib.hid (K4.heap HY3.out (by have := HG3.out; omega))
  have HA4 : Hid (sA.at' w4 (some ⟨g1, 0, none⟩)) := Lib.hid ((HL31.out.keep (by have := HG3.out; omega) K4 (by have := HG3.out; omega)).src (by have := HG3.out; have := K4.size; omega))
  have HB4' : Hid (sB.at' w4 (some ⟨g2, 0, none⟩)) := Lib.hid (by
    have := lies_rune HL32.out (k := 4) (by decide) 120
    rw [show (4 : Nat) * 6 = 24 from rfl, ← hw4] at this
    exact this.src (by have := HG3.out; have := K4.size; omega))
  have HB4 : Hid (Below w.heap.size w w4) := Lib.hid (HB3.out.trans (K4.below HB3.out.size (fun k hk e => by have := HG3.out; omega)))
  rw [← hw4]
  clear hw4 K4 HX3 HY3 HL31 HL32 HG3 HB3 x2 y0 f0
  have x0 := cell_at HX4.out 0; have x1 := cell_at HX4.out 1; have x2 := cell_at HX4.out 2; have x3 := cell_at HX4.out 3; have x4 := cell_at HX4.out 4; have x5 := cell_at HX4.out 5
  have y0 := cell_at HY4.out 0; have y1 := cell_at HY4.out 1; have y2 := cell_at HY4.out 2; have y3 := cell_at HY4.out 3; have y4 := cell_at HY4.out 4; have y5 := cell_at HY4.out 5
  simp at x0 x1 x2 x3 x4 x5 y0 y1 y2 y3 y4 y5
  go_wp2_with fail
  refine (patch_Diff sA sB (some ⟨g1, 0, none⟩) (some ⟨g2, 0, none⟩) c1 c2 w4 HA4.out HB4'.out hc2 sA_ok sB_ok).mono ?_
  rintro e w5 ⟨rfl, hb⟩
  have K5 := Keep.of_below (fun _ => False) hb
  have HB5 : Hid (Below w.heap.size w w5) := Lib.hid (HB4.out.trans (hb.mono HB4.out.size))
  have HX5 := Lib.hid (K5.heap HX4.out (fun x => x))
  have HY5 := Lib.hid (K5.heap HY4.out (fun x => x))
  have HA5 := Lib.hid (HA4.out.keep K5)
  have HBB5 := Lib.hid (HB4'.out.keep K5)
  obtain ⟨s, hs, hlk, hsok⟩ := applyS_back sA sB sA_ok sB_ok
  have HAP := Lib.hid hs
  have HDL : Hid ((⟨(diffB sA sB).toArray⟩ : ByteArray).size ≤ 1000000) := Lib.hid (by rw [size_mk]; have := diffB_le sA sB sB_ok; omega)
  have HLB : Hid (likeB sB s = true) := Lib.hid ((likeB_iff _ _).2 hlk.symm)
  have HSN : Hid (s.n ≤ 1099511627776) := Lib.hid (by have := hsok.n800; omega)
  generalize (⟨(diffB sA sB).toArray⟩ : ByteArray) = d at HAP HDL
  clear hb K5 HB4 HX4 HY4 HA4 HB4' x0 x1 x2 x3 x4 x5 y0 y1 y2 y3 y4 y5 hs hlk hsok
  have x0 := cell_at HX5.out 0; have x1 := cell_at HX5.out 1; have x2 := cell_at HX5.out 2; have x3 := cell_at HX5.out 3; have x4 := cell_at HX5.out 4; have x5 := cell_at HX5.out 5
  simp at x0 x1 x2 x3 x4 x5
  go_wp2_with fail
  refine (patch_Apply sA (some ⟨g1, 0, none⟩) c1 d w5 HA5.out sA_ok HDL.out).mono ?_
  rw [HAP.out]
  rintro e w6 ⟨v, rfl, g3, c3, hv, h2, h3, h4, h5, h6, h7, hb⟩
  injection hv with hv
  subst hv
  have K6 := Keep.of_below (fun _ => False) hb
  have HB6 : Hid (Below w.heap.size w w6) := Lib.hid (HB5.out.trans (hb.mono HB5.out.size))
  have HX6 := Lib.hid (K6.heap HX5.out (fun x => x))
  have HY6 := Lib.hid (K6.heap HY5.out (fun x => x))
  have HA6 := Lib.hid (HA5.out.keep K6)
  have HBB6 := Lib.hid (HBB5.out.keep K6)
  have HS6 : Hid (s.at' w6 (some ⟨g3, 0, none⟩)) := Lib.hid (h4.src h3)
  clear hb K6 HB5 HX5 HY5 HA5 HBB5 x0 x1 x2 x3 x4 x5 h2 h3 h4 h5 h6 h7 HAP HDL
  have HSM : Hid (∀ V, Below w6.heap.size w6 V → Calls Try.prog 10 #[sB.v (some ⟨g2, 0, none⟩) c2, s.v (some ⟨g3, 0, none⟩) c3] V fun e w' => e = .returned (.bool true) ∧ Below V.heap.size V w') := Lib.hid (fun V k => by
    have := patch_Same sB s (some ⟨g2, 0, none⟩) (some ⟨g3, 0, none⟩) c2 c3 V (HBB6.out.keep (Keep.of_below _ k)) (HS6.out.keep (Keep.of_below _ k)) (by decide)
    rwa [HLB.out] at this)
  obtain ⟨sW, sH, sn, sF, sX, sY, shi⟩ := s
  simp only [Scr.v] at HSM ⊢
  go_upto_region 7 with fail
  obtain ⟨w7, hw7⟩ : ∃ w7, w7 = w6.alloc (.cells #[.int .i64 sW, .int .i64 sH, .slice (some ⟨g3, 0, none⟩) sn c3, .int .i64 sX, .int .i64 sY, .bool shi] 24) := ⟨_, rfl⟩
  obtain ⟨b3, hb3⟩ : ∃ b, b = w6.heap.size := ⟨_, rfl⟩
  have hbl : Below w6.heap.size w6 w7 := by rw [hw7]; exact below_box ..
  have K7 := Keep.of_below (fun _ => False) hbl
  have HB7 : Hid (Below w.heap.size w w7) := Lib.hid (HB6.out.trans (hbl.mono HB6.out.size))
  have HB67 := Lib.hid hbl
  have HX7 := Lib.hid (K7.heap HX6.out (fun x => x))
  have HY7 := Lib.hid (K7.heap HY6.out (fun x => x))
  have HZ7 : Hid (w7.heap[b3]? = some (.cells #[.int .i64 sW, .int .i64 sH, .slice (some ⟨g3, 0, none⟩) sn c3, .int .i64 sX, .int .i64 sY, .bool shi] 24 (0, 0))) := Lib.hid (by rw [hw7, hb3]; exact heap_alloc_new _ _)
  rw [← hw7, ← hb3]
  clear hw7 hb3 hbl K7
  have y0 := cell_at HY7.out 0; have y1 := cell_at HY7.out 1; have y2 := cell_at HY7.out 2; have y3 := cell_at HY7.out 3; have y4 := cell_at HY7.out 4; have y5 := cell_at HY7.out 5
  have z0 := cell_at HZ7.out 0; have z1 := cell_at HZ7.out 1; have z2 := cell_at HZ7.out 2; have z3 := cell_at HZ7.out 3; have z4 := cell_at HZ7.out 4; have z5 := cell_at HZ7.out 5
  simp at y0 y1 y2 y3 y4 y5 z0 z1 z2 z3 z4 z5
  go_wp2_with fail
  refine (HSM.out w7 HB67.out).mono ?_
  rintro e w8 ⟨rfl, hb⟩
  have K8 := Keep.of_below (fun _ => False) hb
  have HB8 : Hid (Below w.heap.size w w8) := Lib.hid (HB7.out.trans (hb.mono HB7.out.size))
  have HB68 : Hid (Below w6.heap.size w6 w8) := Lib.hid (HB67.out.trans (hb.mono HB67.out.size))
  have HX8 := Lib.hid (K8.heap HX7.out (fun x => x))
  have HY8 := Lib.hid (K8.heap HY7.out (fun x => x))
  clear hb K8 y0 y1 y2 y3 y4 y5 z0 z1 z2 z3 z4 z5 HX7 HY7 HB7 HZ7
  have x0 := cell_at HX8.out 0; have x1 := cell_at HX8.out 1; have x2 := cell_at HX8.out 2; have x3 := cell_at HX8.out 3; have x4 := cell_at HX8.out 4; have x5 := cell_at HX8.out 5
  have y0 := cell_at HY8.out 0; have y1 := cell_at HY8.out 1; have y2 := cell_at HY8.out 2; have y3 := cell_at HY8.out 3; have y4 := cell_at HY8.out 4; have y5 := cell_at HY8.out 5
  simp at x0 x1 x2 x3 x4 x5 y0 y1 y2 y3 y4 y5
  go_wp2_with fail
  have hsz := patch_Size sA sB (some ⟨g1, 0, none⟩) (some ⟨g2, 0, none⟩) c1 c2 w8 (HA6.out.keep (Keep.of_below _ HB68.out)) (HBB6.out.keep (Keep.of_below _ HB68.out)) sA_ok sB_ok
  rw [sAB_cnt] at hsz
  refine hsz.mono ?_
  rintro e w9 ⟨rfl, hb⟩
  have K9 := Keep.of_below (fun _ => False) hb
  have HB9 : Hid (Below w.heap.size w w9) := Lib.hid (HB8.out.trans (hb.mono HB8.out.size))
  have HB69 : Hid (Below w6.heap.size w6 w9) := Lib.hid (HB68.out.trans (hb.mono HB68.out.size))
  have HX9 := Lib.hid (K9.heap HX8.out (fun x => x))
  have HY9 := Lib.hid (K9.heap HY8.out (fun x => x))
  clear hsz hb K9 x0 x1 x2 x3 x4 x5 y0 y1 y2 y3 y4 y5 HX8 HY8 HB8 HB68
  have x0 := cell_at HX9.out 0; have x1 := cell_at HX9.out 1; have x2 := cell_at HX9.out 2; have x3 := cell_at HX9.out 3; have x4 := cell_at HX9.out 4; have x5 := cell_at HX9.out 5
  have y0 := cell_at HY9.out 0; have y1 := cell_at HY9.out 1; have y2 := cell_at HY9.out 2; have y3 := cell_at HY9.out 3; have y4 := cell_at HY9.out 4; have y5 := cell_at HY9.out 5
  simp at x0 x1 x2 x3 x4 x5 y0 y1 y2 y3 y4 y5
  go_wp2_with fail
  have hsm := patch_Same sA sB (some ⟨g1, 0, none⟩) (some ⟨g2, 0, none⟩) c1 c2 w9 (HA6.out.keep (Keep.of_below _ HB69.out)) (HBB6.out.keep (Keep.of_below _ HB69.out)) (by decide)
  rw [sAB_like] at hsm
  refine hsm.mono ?_
  rintro e w10 ⟨rfl, hb⟩
  have K9 := Keep.of_below (fun _ => False) hb
  have HB10 : Hid (Below w.heap.size w w10) := Lib.hid (HB9.out.trans (hb.mono HB9.out.size))
  have HB610 : Hid (Below w6.heap.size w6 w10) := Lib.hid (HB69.out.trans (hb.mono HB69.out.size))
  have HY10 := Lib.hid (K9.heap HY9.out (fun x => x))
  clear hsm hb K9 x0 x1 x2 x3 x4 x5 y0 y1 y2 y3 y4 y5 HX9 HY9 HB9 HB69
  have y0 := cell_at HY10.out 0; have y1 := cell_at HY10.out 1; have y2 := cell_at HY10.out 2; have y3 := cell_at HY10.out 3; have y4 := cell_at HY10.out 4; have y5 := cell_at HY10.out 5
  simp at y0 y1 y2 y3 y4 y5
  go_wp2_with fail
  have hva := patch_Valid sB (some ⟨g2, 0, none⟩) c2 w10 (HBB6.out.keep (Keep.of_below _ HB610.out)) (by decide)
  rw [sB_okb] at hva
  refine hva.mono ?_
  rintro e w11 ⟨rfl, hb⟩
  have HB11 : Hid (Below w.heap.size w w11) := Lib.hid (HB10.out.trans (hb.mono HB10.out.size))
  clear hva hb y0 y1 y2 y3 y4 y5
  go_wp2_with fail
  go_ret
  exact ⟨rfl, HB11.out⟩

end Go.Proofs.Ytgomnigchfmfhaa
