/- Law EmuSaves: the walk. By program (rgn/XEmuSavesWalk.py). Own work. -/
import Derived.Test.YtpmnbfifpenlkaaGreatDoorEmuSavesM
import Derived.Test.YtpmnbfifpenlkaaGreatDoorEmuCp
import Derived.Test.YtpmnbfifpenlkaaGreatDoorEmuLaw2
import Derived.Deep.QuietTactic
import Derived.BigQuiet
namespace Go.Proofs.YtpmnbfifpenlkaaGreatDoor
set_option linter.unusedVariables false
set_option linter.unusedSimpArgs false
open Go.RowKit

/-- The copy of the one terminal that there is stands in its place. -/
def Cop1 (w0 w : World) (e k : Nat) (L : Loc) (m : EmM) (v : Ending) (w' : World) : Prop := ∃ c L', v = .returned (.pointer (some ⟨c, 0, none⟩)) ∧ Ems w0 w' [⟨c, L', k, (pAt 0, m)⟩] ∧
  (∀ p ob, Kp w e L p ob → Kp w' c L' p ob) ∧ ∀ A n us, KS w e L A n us → KS w' c L' A n us
theorem cop1 {w0 w : World} {e k : Nat} {L : Loc} {m : EmM} (h : Ems w0 w [⟨e, L, k, (pAt 0, m)⟩]) :
    Calls Tryz.prog 15 #[.pointer (some ⟨e, 0, none⟩)] w (Cop1 w0 w e k L m) := by
  refine (emu_copyF w e k L (pAt 0, m) h.one).mono ?_
  rintro v w' ⟨c, L', rfl, hc, hf, hb, hT, h0⟩
  have K := Keep.of_below (fun _ => False) hb
  have ow : ∀ i, Own w' c L' i → Own w e L i ∨ w.heap.size ≤ i := fun i o => by
    rcases o with o | o
    · exact .inr (hT i o)
    · exact .inl (.inr (h0.symm.trans o))
  have sz := h.k.size
  have no : ∀ i, i < w.heap.size → ¬ Own w e L i → ¬ Own w' c L' i := fun i hi h2 o => (ow i o).elim h2 (fun y => by omega)
  refine ⟨c, L', rfl, ⟨fun t ht => ?_, List.pairwise_singleton _ _, fun t ht i o => ?_, h.k.trans K (fun _ _ x => x)⟩, fun p ob hp => ⟨(K.block p (lt_heap hp.1) (fun x => x)).trans hp.1, no p (lt_heap hp.1) hp.2⟩, fun A n us hs => ⟨hs.1.keep K, fun i hi => ⟨Nat.lt_of_lt_of_le (hs.2 i hi).1 K.size, no i (hs.2 i hi).1 (hs.2 i hi).2⟩⟩⟩
  · rw [List.mem_singleton] at ht; subst ht; exact hf
  · rw [List.mem_singleton] at ht; subst ht
    rcases ow i o with y | y
    · exact h.hi ⟨e, L, k, (pAt 0, m)⟩ (List.mem_singleton.2 rfl) i y
    · omega

theorem saves_first (x : PL × EmM) (l : List Nat) : ∃ m : EmM, (feedM x (l ++ [24, 27, 55])).1 = (pAt 0, m.save) := by
  obtain ⟨m, h⟩ := feed_24 x l
  refine ⟨m, ?_⟩
  rw [show l ++ [24, 27, 55] = (l ++ [24]) ++ [27, 55] by simp, feedM_add, h, feed_7]
theorem natsJ_7 (a : ByteArray) : natsJ [a, ⟨#[24, 27, 55]⟩] = natsJ [a] ++ [24, 27, 55] := by simp [natsJ, joinL]
theorem natsJ_mid (b : ByteArray) : natsJ [⟨#[27, 91, 49, 59, 51, 49, 109]⟩, b, ⟨#[27, 91, 50, 59, 50, 72, 27, 40, 48, 14, 27, 56]⟩] = [27, 91, 49, 59, 51, 49, 109] ++ (natsJ [b] ++ ([27, 91, 50, 59, 50, 72] ++ ([27, 40, 48] ++ ([14] ++ [27, 56])))) := by simp [natsJ, joinL]

theorem shown_symm {m m' : EmM} (h : Shown m m') : Shown m' m := ⟨h.sW.symm, h.sH.symm, h.sX.symm, h.sY.symm, h.sh.symm, h.sF.symm⟩
theorem pair_of {r : (PL × EmM) × List Nat} {x : PL × EmM} (h : r.1 = x) : r = (x, r.2) := by
  subst h
  rfl
theorem sum_mid (b : ByteArray) : sum [⟨#[27, 91, 49, 59, 51, 49, 109]⟩, b, ⟨#[27, 91, 50, 59, 50, 72, 27, 40, 48, 14, 27, 56]⟩] = b.size + 19 := by
  simp only [sum, List.map_cons, List.map_nil, List.foldr_cons, List.foldr_nil, List.sum_cons, List.sum_nil]
  show 7 + (b.size + (12 + 0)) = _
  omega

set_option maxRecDepth 100000 in
set_option maxHeartbeats 1600000 in
theorem emuSaves_early (x y : Int) (a b : ByteArray) (w : World) (h : (a.size : Int) > 300 ∨ (¬ (a.size : Int) > 300 ∧ (b.size : Int) > 300)) :
    Calls Tryz.prog 3 #[.int .i64 x, .int .i64 y, .string a, .string b] w fun e w' => e = .returned (.bool true) ∧ Below w.heap.size w w' := by
  rcases h with h | ⟨h, h2⟩
  all_goals
    go_enter Tryz.func3, Tryz.ntmps3
    go_wp2_with fail
    refine (emu_alive _).mono ?_
    rintro e w1 ⟨rfl, hb⟩
    have HB := Lib.hid hb
    clear hb
    go_wp2_with fail
    go_ret
    exact ⟨rfl, HB.out⟩

set_option maxRecDepth 100000 in
set_option maxHeartbeats 6400000 in
theorem walk_EmuSaves (x : Int) (wx : (Lit.int .i64 x).wf = true) (y : Int) (wy : (Lit.int .i64 y).wf = true) (a : ByteArray) (wa : a.size ≤ maxLen) (b : ByteArray) (wb : b.size ≤ maxLen) (w : World) :
    Calls Tryz.prog 3 #[.int .i64 x, .int .i64 y, .string a, .string b] w fun e w' => e = .returned (.bool true) ∧ Below w.heap.size w w' := by
  by_cases ha : (a.size : Int) > 300
  · exact emuSaves_early x y a b w (.inl ha)
  by_cases hb : (b.size : Int) > 300
  · exact emuSaves_early x y a b w (.inr ⟨ha, hb⟩)
  obtain ⟨W, hW⟩ : ∃ W : Nat, min (max x 2) 40 = (W : Int) := ⟨(min (max x 2) 40).toNat, by omega⟩
  obtain ⟨H, hH⟩ : ∃ H : Nat, min (max y 1) 20 = (H : Int) := ⟨(min (max y 1) 20).toNat, by omega⟩
  have HN := Lib.hid (fun V => emu_newF V x y W H hW hH)
  have HSZ : Hid (a.size ≤ 300 ∧ b.size ≤ 300) := Lib.hid (by omega)
  clear hW hH wx wy wa wb
  go_enter Tryz.func3, Tryz.ntmps3
  go_wp2_with fail
  refine (emu_alive _).mono ?_
  rintro v w1 ⟨rfl, hb1⟩
  have HE1 := Lib.hid ((Ems.start w).quiet (Keep.of_below _ hb1))
  clear hb1
  go_wp2_with fail
  go_loopw [9] (fun vi wr => ∃ i : Nat, vi = .int .i64 (i : Int) ∧ i ≤ b.size ∧ wr = w1 ∧ Hid (∀ k, k < i → ∀ h : k < b.size, 32 ≤ b[k].toNat ∧ b[k].toNat ≤ 126)) (fun vi _ => b.size - (intOf vi).toNat)
  case atStart => exact ⟨0, rfl, by omega, rfl, fun k hk => by omega⟩
  case round =>
    obtain ⟨i, rfl, hi, rfl, HP⟩ := hrel
    by_cases hlt : i < b.size
    · have hki : (i : Int) < (b.size : Int) := by omega
      have hk0 : (0 : Int) ≤ (i : Int) := by omega
      have HGO : Hid (∀ h : 32 ≤ b[i].toNat ∧ b[i].toNat ≤ 126, Hid (∀ k, k < i + 1 → ∀ h : k < b.size, 32 ≤ b[k].toNat ∧ b[k].toNat ≤ 126)) := Lib.hid (fun h => Lib.hid (fun k hk hkb => by
        by_cases e : k = i
        · subst e; exact h
        · exact HP.out k (by omega) hkb))
      clear HP
      by_cases h1 : b[i].toNat < 32
      · have t1 : ((b[i].toNat : Int) < 32) := by omega
        have HB := Lib.hid HE1.out.below
        go_wp2_with fail
        go_ret
        exact ⟨rfl, HB.out⟩
      · have t1 : ¬ ((b[i].toNat : Int) < 32) := by omega
        by_cases h2 : 126 < b[i].toNat
        · have t2 : ((b[i].toNat : Int) > 126) := by omega
          have HB := Lib.hid HE1.out.below
          go_wp2_with fail
          go_ret
          exact ⟨rfl, HB.out⟩
        · have t2 : ¬ ((b[i].toNat : Int) > 126) := by omega
          have HG := HGO.out ⟨by omega, by omega⟩
          go_wp2_with fail
          go_roundw
          case rel => exact ⟨i + 1, by go_num, by omega, trivial, HG⟩
          case measure => simp [intOf]; omega
    · have hii : i = b.size := by omega
      subst hii
      have HPB : Hid (∀ c ∈ natsJ [b], 32 ≤ c ∧ c ≤ 126) := Lib.hid (fun c hc => by
        rw [natsJ_one] at hc
        obtain ⟨u, hu, rfl⟩ := List.mem_map.1 hc
        obtain ⟨k, hk, rfl⟩ := List.mem_iff_getElem.1 hu
        exact HP.out k (by rw [Lib.size_eq]; exact hk) (by rw [Lib.size_eq]; exact hk))
      clear HP hlt
      go_wp2_with fail
      refine (HN.out _).mono ?_
      rintro v w2 h2
      obtain ⟨e, L, rfl, -, he2⟩ := HE1.out.add h2
      have HE2 : Hid (Ems w w2 [⟨e, L, 0, (pAt 0, EmM.new W H)⟩]) := Lib.hid he2
      clear h2 he2 HE1 HN
      obtain ⟨mz, hm0⟩ := saves_first (pAt 0, EmM.new W H) (natsJ [a])
      have HF2 := Lib.hid (fed1 (k' := 1000) (m' := mz.save) (o := (feedM (pAt 0, EmM.new W H) (natsJ [a] ++ [24, 27, 55])).2) HE2.out [a, ⟨#[24, 27, 55]⟩] 2 rfl (by omega) (by have := HSZ.out; simp only [sum, List.map_cons, List.map_nil, List.foldr_cons, List.foldr_nil, List.sum_cons, List.sum_nil]; have : (⟨#[24, 27, 55]⟩ : ByteArray).size = 3 := rfl; omega) (by omega) (by have := HSZ.out; simp only [sum, List.map_cons, List.map_nil, List.foldr_cons, List.foldr_nil, List.sum_cons, List.sum_nil]; have : (⟨#[24, 27, 55]⟩ : ByteArray).size = 3 := rfl; omega) (Prod.ext (by rw [← hm0, natsJ_7]) (by rw [natsJ_7])))
      clear hm0
      go_wp2_with fail
      refine HF2.out.mono ?_
      rintro v w4 ⟨rfl, L4, he4, -, -⟩
      have HE4 := Lib.hid he4
      clear he4 HF2 HE2
      have HOK := Lib.hid HE4.out.one.r.ok
      obtain ⟨m2, f2, sx, sy, sh⟩ := saves_says mz HOK.out.x HOK.out.y (natsJ [b]) HPB.out
      obtain ⟨m0, hm0⟩ : ∃ m0, mz.save = m0 := ⟨_, rfl⟩
      rw [hm0] at HE4 f2
      have sx0 : m2.st.x = m0.st.x := by rw [sx, ← hm0]; rfl
      have sy0 : m2.st.y = m0.st.y := by rw [sy, ← hm0]; rfl
      have HSX := Lib.hid (And.intro sx0 sy0)
      have HF := Lib.hid f2
      have HSH := Lib.hid sh
      have HS4 := Lib.hid (emu_screen w4 e L4 m0 HE4.out.one.r)
      clear hm0 sx sy sx0 sy0 f2 sh HOK
      go_wp2_with fail
      refine HS4.out.mono ?_
      rintro v w6 ⟨g0, c0', rfl, hg, hl, -, hs, hb6⟩
      have K6 := Keep.of_below (fun _ => False) hb6
      have HE6 := Lib.hid (HE4.out.quiet K6)
      obtain ⟨ob, hob⟩ : ∃ ob : Obj, ob = .cells #[.int .i64 (m0.W : Int), .int .i64 (m0.H : Int), .slice (some ⟨g0, 0, none⟩) (m0.W * m0.H) c0', .int .i64 (m0.st.x : Int), .int .i64 (m0.st.y : Int), .bool m0.hid] 28 := ⟨_, rfl⟩
      obtain ⟨W6, hW6⟩ : ∃ W6, W6 = w6.alloc ob := ⟨_, rfl⟩
      have Ka : Keep (fun _ => False) w6 W6 := by rw [hW6]; exact (Keep.refl _ w6).alloc _
      have HEa := Lib.hid (HE6.out.quiet Ka)
      obtain ⟨p, hp⟩ : ∃ p, p = w6.heap.size := ⟨_, rfl⟩
      have HKP : Hid (Kp W6 e L4 p ob) := Lib.hid (by rw [hW6, hp]; exact Kp.new HE6.out.one ob)
      have HF6 := Lib.hid (fed1 (k' := 3000) (m' := m2) (o := (feedM (pAt 0, m0) (natsJ [⟨#[27, 91, 49, 59, 51, 49, 109]⟩, b, ⟨#[27, 91, 50, 59, 50, 72, 27, 40, 48, 14, 27, 56]⟩])).2) HEa.out [⟨#[27, 91, 49, 59, 51, 49, 109]⟩, b, ⟨#[27, 91, 50, 59, 50, 72, 27, 40, 48, 14, 27, 56]⟩] 3 rfl (by omega) (by rw [sum_mid]; have := HSZ.out; omega) (by omega) (by rw [sum_mid]; have := HSZ.out; omega) (pair_of (by rw [natsJ_mid]; exact HF.out)))
      have HOB := Lib.hid hob
      clear hg hl hs hb6 K6 Ka HS4 HE6 HF HE4
      unfold scrV
      go_upto_region 13 with fail
      rw [← hp]
      rw [← hob]
      rw [← hW6]
      clear hW6 hp hob
      go_wp2_with fail
      refine HF6.out.mono ?_
      rintro v w7 ⟨rfl, L7, he7, kp7, ks7⟩
      have HE7 := Lib.hid he7
      have HKP7 := Lib.hid (kp7 _ _ HKP.out)
      have HS7 := Lib.hid (emu_screen w7 e L7 m2 he7.one.r)
      clear he7 kp7 ks7 HF6 HEa HKP
      go_wp2_with fail
      refine HS7.out.mono ?_
      rintro v w8 ⟨g, c, rfl, hg, hl, -, hs, hb8⟩
      have K8 := Keep.of_below (fun _ => False) hb8
      have KS8 := KS.new (e := e) (L := L7) HE7.out.one K8 hs hg hl
      have HE8 := Lib.hid (HE7.out.quiet K8)
      obtain ⟨ob2, hob2⟩ : ∃ ob2 : Obj, ob2 = .cells #[.int .i64 (m2.W : Int), .int .i64 (m2.H : Int), .slice (some ⟨g, 0, none⟩) (m2.W * m2.H) c, .int .i64 (m2.st.x : Int), .int .i64 (m2.st.y : Int), .bool m2.hid] 28 := ⟨_, rfl⟩
      obtain ⟨W8, hW8⟩ : ∃ W8, W8 = w8.alloc ob2 := ⟨_, rfl⟩
      have Kb : Keep (fun _ => False) w8 W8 := by rw [hW8]; exact (Keep.refl _ w8).alloc _
      have HEb := Lib.hid (HE8.out.quiet Kb)
      have HKS := Lib.hid (KS8.quiet HE8.out.one Kb)
      have HKPa := Lib.hid ((HKP7.out.quiet HE7.out.one K8).quiet HE8.out.one Kb)
      obtain ⟨p2, hp2⟩ : ∃ p2, p2 = w8.heap.size := ⟨_, rfl⟩
      have HKPb : Hid (Kp W8 e L7 p2 ob2) := Lib.hid (by rw [hW8, hp2]; exact Kp.new HE8.out.one ob2)
      have HCP := Lib.hid (cop1 HEb.out)
      have HOB2 := Lib.hid hob2
      clear hg hl hs hb8 K8 KS8 Kb HS7 HE8 HE7 HKP7
      unfold scrV
      go_upto_region 15 with fail
      rw [← hp2]
      rw [← hob2]
      rw [← hW8]
      clear hW8 hp2 hob2
      go_wp2_with fail
      refine HCP.out.mono ?_
      rintro v w9 ⟨e9, L9, rfl, he9, kp9, ks9⟩
      have HE9 := Lib.hid he9
      have HKP9 := Lib.hid (And.intro (kp9 _ _ HKPa.out) (kp9 _ _ HKPb.out))
      have HKS9 := Lib.hid (ks9 _ _ _ HKS.out)
      have HF9 := Lib.hid (fed1 (k' := 3016) he9 [⟨#[27, 56]⟩] 1 rfl (by omega) (by decide +kernel) (by omega) (by decide +kernel) (feed_8 m2))
      clear he9 kp9 ks9 HCP HEb HKPa HKPb HKS
      go_wp2_with fail
      refine HF9.out.mono ?_
      rintro v w10 ⟨rfl, L10, he10, kp10, ks10⟩
      obtain ⟨m3, hm3⟩ : ∃ m3, m2.restore = m3 := ⟨_, rfl⟩
      rw [hm3] at he10 HSH
      have q10 := (kp10 _ _ HKP9.out.2).1
      have q11 := (kp10 _ _ HKP9.out.1).1
      rw [HOB2.out] at q10
      rw [HOB.out] at q11
      have HKS10 := Lib.hid (ks10 _ _ _ HKS9.out)
      have HPL := Lib.hid (And.intro (lt_heap q11) (lt_heap q10))
      have c0 := cell_at q10 0; have c1 := cell_at q10 1; have c2 := cell_at q10 2; have c3 := cell_at q10 3; have c4 := cell_at q10 4; have c5 := cell_at q10 5
      have e3 := cell_at q11 3; have e4 := cell_at q11 4
      rw [← HSX.out.1, ← HSX.out.2] at e3 e4
      simp at c0 c1 c2 c3 c4 c5 e3 e4
      have HQ := Lib.hid (And.intro c0 (And.intro c1 (And.intro c2 (And.intro c3 (And.intro c4 (And.intro c5 (And.intro e3 e4)))))))
      have HCS : Hid (∀ V, Keep (fun _ => False) w10 V → Calls Tryz.prog 14 #[.pointer (some ⟨e9, 0, none⟩)] V (ScrTo m3 V)) := Lib.hid (fun V k => emu_screen V e9 L10 m3 (he10.quiet k).one.r)
      have HSM : Hid (∀ V g2 d2, Keep (fun _ => False) w10 V → Src V (some ⟨g2, 0, none⟩) (m3.W * m3.H * 6) (flatF m3.shown (m3.W * m3.H)) → Calls Tryz.prog 16 #[scrV m3 (some ⟨g2, 0, none⟩) d2, scrV m2 (some ⟨g, 0, none⟩) c] V fun e w' => e = .returned (.bool true) ∧ Below V.heap.size V w') := Lib.hid (fun V g2 d2 k s => same_scrV m3 m2 (shown_symm HSH.out) _ _ d2 c V s (HKS10.out.1.keep k) he10.one.few)
      have HB10 : Hid (∀ V, Keep (fun _ => False) w10 V → Below w.heap.size w V) := Lib.hid (fun V k => (he10.quiet k).below)
      clear he10 kp10 ks10 q10 q11 HF9 HE9 HKP9 HKS9 hm3 HKS10 HSH HOB HOB2 HSX
      go_upto_region 19 with fail
      refine wp_region_noPanic ?_
      refine wp_region_held_drew (S := fun w' => w'.cell? ⟨p2, 0, none⟩ = some (.int .i64 (m2.W : Int)) ∧ w'.cell? ⟨p2, 1, none⟩ = some (.int .i64 (m2.H : Int)) ∧ w'.cell? ⟨p2, 2, none⟩ = some (.slice (some ⟨g, 0, none⟩) (m2.W * m2.H) c) ∧ w'.cell? ⟨p2, 3, none⟩ = some (.int .i64 (m2.st.x : Int)) ∧ w'.cell? ⟨p2, 4, none⟩ = some (.int .i64 (m2.st.y : Int)) ∧ w'.cell? ⟨p2, 5, none⟩ = some (.bool m2.hid) ∧ w'.cell? ⟨p, 3, none⟩ = some (.int .i64 (m2.st.x : Int)) ∧ w'.cell? ⟨p, 4, none⟩ = some (.int .i64 (m2.st.y : Int))) (by kernel_rfl) ⟨c0, c1, c2, c3, c4, c5, e3, e4⟩ (fun hHeld => ?_)
      refine wpAnyH_take (i := 0) (oi := _) (v := ?vA0) rfl (by kernel_rfl) (by kernel_rfl) (by kernel_rfl) (fun _ _ _ h => h) (Or.inl ⟨by rfl, ?hyA0⟩) (by assumption) ?restA0
      case hyA0 => (intro w hSw; (try dsimp only at hSw); (try simp only [List.getElem_toArray, List.getElem_cons_zero, List.getElem_cons_succ]); go_simp; (try with_reducible rfl))
      (try simp only [Act.put, List.setIfInBounds_toArray, List.set_cons_zero, List.set_cons_succ, List.getElem_toArray, List.getElem_cons_zero, List.getElem_cons_succ])
      refine wpAnyH_take (i := 1) (oi := _) (v := ?vA1) rfl (by kernel_rfl) (by kernel_rfl) (by kernel_rfl) (fun _ _ _ h => h) (Or.inl ⟨by rfl, ?hyA1⟩) (by assumption) ?restA1
      case hyA1 => (intro w hSw; (try dsimp only at hSw); (try simp only [List.getElem_toArray, List.getElem_cons_zero, List.getElem_cons_succ]); go_simp; (try with_reducible rfl))
      (try simp only [Act.put, List.setIfInBounds_toArray, List.set_cons_zero, List.set_cons_succ, List.getElem_toArray, List.getElem_cons_zero, List.getElem_cons_succ])
      refine wpAnyH_take (i := 2) (oi := _) (v := ?vA2) rfl (by kernel_rfl) (by kernel_rfl) (by kernel_rfl) (fun _ _ _ h => h) (Or.inl ⟨by rfl, ?hyA2⟩) (by assumption) ?restA2
      case hyA2 => (intro w hSw; (try dsimp only at hSw); (try simp only [List.getElem_toArray, List.getElem_cons_zero, List.getElem_cons_succ]); go_simp; (try with_reducible rfl))
      (try simp only [Act.put, List.setIfInBounds_toArray, List.set_cons_zero, List.set_cons_succ, List.getElem_toArray, List.getElem_cons_zero, List.getElem_cons_succ])
      refine wpAnyH_take (i := 3) (oi := _) (v := ?vA3) rfl (by kernel_rfl) (by kernel_rfl) (by kernel_rfl) (fun _ _ _ h => h) (Or.inl ⟨by rfl, ?hyA3⟩) (by assumption) ?restA3
      case hyA3 => (intro w hSw; (try dsimp only at hSw); (try simp only [List.getElem_toArray, List.getElem_cons_zero, List.getElem_cons_succ]); go_simp; (try with_reducible rfl))
      (try simp only [Act.put, List.setIfInBounds_toArray, List.set_cons_zero, List.set_cons_succ, List.getElem_toArray, List.getElem_cons_zero, List.getElem_cons_succ])
      refine wpAnyH_take (i := 4) (oi := _) (v := ?vA4) rfl (by kernel_rfl) (by kernel_rfl) (by kernel_rfl) (fun _ _ _ h => h) (Or.inl ⟨by rfl, ?hyA4⟩) (by assumption) ?restA4
      case hyA4 => (intro w hSw; (try dsimp only at hSw); (try simp only [List.getElem_toArray, List.getElem_cons_zero, List.getElem_cons_succ]); go_simp; (try with_reducible rfl))
      (try simp only [Act.put, List.setIfInBounds_toArray, List.set_cons_zero, List.set_cons_succ, List.getElem_toArray, List.getElem_cons_zero, List.getElem_cons_succ])
      refine wpAnyH_take (i := 5) (oi := _) (v := ?vA5) rfl (by kernel_rfl) (by kernel_rfl) (by kernel_rfl) (fun _ _ _ h => h) (Or.inl ⟨by rfl, ?hyA5⟩) (by assumption) ?restA5
      case hyA5 => (intro w hSw; (try dsimp only at hSw); (try simp only [List.getElem_toArray, List.getElem_cons_zero, List.getElem_cons_succ]); go_simp; (try with_reducible rfl))
      (try simp only [Act.put, List.setIfInBounds_toArray, List.set_cons_zero, List.set_cons_succ, List.getElem_toArray, List.getElem_cons_zero, List.getElem_cons_succ])
      refine wpAnyH_take (i := 6) (oi := _) (v := ?vA6) rfl (by kernel_rfl) (by kernel_rfl) (by kernel_rfl) (fun _ _ _ h => h) (Or.inl ⟨by rfl, ?hyA6⟩) (by assumption) ?restA6
      case hyA6 => (intro w hSw; (try dsimp only at hSw); (try simp only [List.getElem_toArray, List.getElem_cons_zero, List.getElem_cons_succ]); go_simp; (try with_reducible rfl))
      (try simp only [Act.put, List.setIfInBounds_toArray, List.set_cons_zero, List.set_cons_succ, List.getElem_toArray, List.getElem_cons_zero, List.getElem_cons_succ])
      refine wpAnyH_take (i := 7) (oi := _) (v := ?vA7) rfl (by kernel_rfl) (by kernel_rfl) (by kernel_rfl) (fun _ _ _ h => h) (Or.inl ⟨by rfl, ?hyA7⟩) (by assumption) ?restA7
      case hyA7 => (intro w hSw; (try dsimp only at hSw); (try simp only [List.getElem_toArray, List.getElem_cons_zero, List.getElem_cons_succ]); go_simp; (try with_reducible rfl))
      (try simp only [Act.put, List.setIfInBounds_toArray, List.set_cons_zero, List.set_cons_succ, List.getElem_toArray, List.getElem_cons_zero, List.getElem_cons_succ])
      refine wpAnyH_take (i := 8) (oi := _) (v := ?vA8) rfl (by kernel_rfl) (by kernel_rfl) (by kernel_rfl) (fun _ _ _ h => h) (Or.inl ⟨by rfl, ?hyA8⟩) (by assumption) ?restA8
      case hyA8 => (intro w hSw; (try dsimp only at hSw); (try simp only [List.getElem_toArray, List.getElem_cons_zero, List.getElem_cons_succ]); go_simp; (try with_reducible rfl))
      (try simp only [Act.put, List.setIfInBounds_toArray, List.set_cons_zero, List.set_cons_succ, List.getElem_toArray, List.getElem_cons_zero, List.getElem_cons_succ])
      refine wpAnyH_take (i := 9) (oi := _) (v := ?vA9) rfl (by kernel_rfl) (by kernel_rfl) (by kernel_rfl) (fun _ _ _ h => h) (Or.inl ⟨by rfl, ?hyA9⟩) (by assumption) ?restA9
      case hyA9 => (intro w hSw; (try dsimp only at hSw); (try simp only [List.getElem_toArray, List.getElem_cons_zero, List.getElem_cons_succ]); go_simp; (try with_reducible rfl))
      (try simp only [Act.put, List.setIfInBounds_toArray, List.set_cons_zero, List.set_cons_succ, List.getElem_toArray, List.getElem_cons_zero, List.getElem_cons_succ])
      refine wpAnyH_take (i := 10) (oi := _) (v := ?vA10) rfl (by kernel_rfl) (by kernel_rfl) (by kernel_rfl) (fun _ _ _ h => h) (Or.inl ⟨by rfl, ?hyA10⟩) (by assumption) ?restA10
      case hyA10 => (intro w hSw; (try dsimp only at hSw); (try simp only [List.getElem_toArray, List.getElem_cons_zero, List.getElem_cons_succ]); go_simp; (try with_reducible rfl))
      (try simp only [Act.put, List.setIfInBounds_toArray, List.set_cons_zero, List.set_cons_succ, List.getElem_toArray, List.getElem_cons_zero, List.getElem_cons_succ])
      refine wpAnyH_take (i := 11) (oi := _) (v := ?vA11) rfl (by kernel_rfl) (by kernel_rfl) (by kernel_rfl) (fun _ _ _ h => h) (Or.inl ⟨by rfl, ?hyA11⟩) (by assumption) ?restA11
      case hyA11 => (intro w hSw; (try dsimp only at hSw); (try simp only [List.getElem_toArray, List.getElem_cons_zero, List.getElem_cons_succ]); go_simp; (try with_reducible rfl))
      (try simp only [Act.put, List.setIfInBounds_toArray, List.set_cons_zero, List.set_cons_succ, List.getElem_toArray, List.getElem_cons_zero, List.getElem_cons_succ])
      refine wpAnyH_take (i := 12) (oi := _) (v := ?vA12) rfl (by kernel_rfl) (by kernel_rfl) (by kernel_rfl) (fun _ _ _ h => h) (Or.inl ⟨by rfl, ?hyA12⟩) (by assumption) ?restA12
      case hyA12 => (intro w hSw; (try dsimp only at hSw); (try simp only [List.getElem_toArray, List.getElem_cons_zero, List.getElem_cons_succ]); go_simp; (try with_reducible rfl))
      (try simp only [Act.put, List.setIfInBounds_toArray, List.set_cons_zero, List.set_cons_succ, List.getElem_toArray, List.getElem_cons_zero, List.getElem_cons_succ])
      refine wpAnyH_take (i := 13) (oi := _) (v := ?vA13) rfl (by kernel_rfl) (by kernel_rfl) (by kernel_rfl) (fun _ _ _ h => h) (Or.inl ⟨by rfl, ?hyA13⟩) (by assumption) ?restA13
      case hyA13 => (intro w hSw; (try dsimp only at hSw); (try simp only [List.getElem_toArray, List.getElem_cons_zero, List.getElem_cons_succ]); go_simp; (try with_reducible rfl))
      (try simp only [Act.put, List.setIfInBounds_toArray, List.set_cons_zero, List.set_cons_succ, List.getElem_toArray, List.getElem_cons_zero, List.getElem_cons_succ])
      refine wpAnyH_take (i := 15) (oi := _) (v := ?vA15) rfl (by kernel_rfl) (by kernel_rfl) (by kernel_rfl) (fun _ _ _ h => h) (Or.inl ⟨by rfl, ?hyA15⟩) (by assumption) ?restA15
      case hyA15 => (intro w hSw; (try dsimp only at hSw); (try simp only [List.getElem_toArray, List.getElem_cons_zero, List.getElem_cons_succ]); go_simp; (try with_reducible rfl))
      (try simp only [Act.put, List.setIfInBounds_toArray, List.set_cons_zero, List.set_cons_succ, List.getElem_toArray, List.getElem_cons_zero, List.getElem_cons_succ])
      refine wpAnyH_ready (rs := [14]) (by kernel_rfl) (by simp) ?_
      refine AllReadyH.cons (o := _) rfl (fun K hK => ?_) AllReadyH.nil
      (try simp only [List.getElem_toArray, List.getElem_cons_zero, List.getElem_cons_succ])
      go_simp
      refine (HCS.out _ ((Keep.refl (fun _ => False) w10).drew)).mono ?_
      rintro v wA ⟨g2, d2, rfl, -, -, -, hsA, hbA⟩
      have KA : Hid (Keep (fun _ => False) w10 wA) := Lib.hid (Keep.trans ((Keep.refl (fun _ => False) w10).drew) (Keep.of_below (fun _ => False) hbA) (fun _ _ x => x))
      have HSA := Lib.hid hsA
      clear hsA hbA
      refine hK.out _ _ ?_ (fun hHeld => ?_)
      · exact ⟨(KA.out.cell (p := ⟨p2, 0, none⟩) HPL.out.2 (fun x => x)).trans HQ.out.1, (KA.out.cell (p := ⟨p2, 1, none⟩) HPL.out.2 (fun x => x)).trans HQ.out.2.1, (KA.out.cell (p := ⟨p2, 2, none⟩) HPL.out.2 (fun x => x)).trans HQ.out.2.2.1, (KA.out.cell (p := ⟨p2, 3, none⟩) HPL.out.2 (fun x => x)).trans HQ.out.2.2.2.1, (KA.out.cell (p := ⟨p2, 4, none⟩) HPL.out.2 (fun x => x)).trans HQ.out.2.2.2.2.1, (KA.out.cell (p := ⟨p2, 5, none⟩) HPL.out.2 (fun x => x)).trans HQ.out.2.2.2.2.2.1, (KA.out.cell (p := ⟨p, 3, none⟩) HPL.out.1 (fun x => x)).trans HQ.out.2.2.2.2.2.2.1, (KA.out.cell (p := ⟨p, 4, none⟩) HPL.out.1 (fun x => x)).trans HQ.out.2.2.2.2.2.2.2⟩
      clear hK K
      (try simp only [Act.put, List.setIfInBounds_toArray, List.set_cons_zero, List.set_cons_succ, List.getElem_toArray, List.getElem_cons_zero, List.getElem_cons_succ])
      refine wpAnyH_ready (rs := [16]) (by kernel_rfl) (by simp) ?_
      refine AllReadyH.cons (o := _) rfl (fun K hK => ?_) AllReadyH.nil
      (try simp only [List.getElem_toArray, List.getElem_cons_zero, List.getElem_cons_succ])
      go_simp
      refine (HSM.out _ g2 d2 KA.out HSA.out).mono ?_
      rintro v wB ⟨rfl, hbB⟩
      have KB : Hid (Keep (fun _ => False) w10 wB) := Lib.hid (KA.out.trans (Keep.of_below (fun _ => False) hbB) (fun _ _ x => x))
      clear hbB
      refine hK.out _ _ ?_ (fun hHeld => ?_)
      · exact ⟨(KB.out.cell (p := ⟨p2, 0, none⟩) HPL.out.2 (fun x => x)).trans HQ.out.1, (KB.out.cell (p := ⟨p2, 1, none⟩) HPL.out.2 (fun x => x)).trans HQ.out.2.1, (KB.out.cell (p := ⟨p2, 2, none⟩) HPL.out.2 (fun x => x)).trans HQ.out.2.2.1, (KB.out.cell (p := ⟨p2, 3, none⟩) HPL.out.2 (fun x => x)).trans HQ.out.2.2.2.1, (KB.out.cell (p := ⟨p2, 4, none⟩) HPL.out.2 (fun x => x)).trans HQ.out.2.2.2.2.1, (KB.out.cell (p := ⟨p2, 5, none⟩) HPL.out.2 (fun x => x)).trans HQ.out.2.2.2.2.2.1, (KB.out.cell (p := ⟨p, 3, none⟩) HPL.out.1 (fun x => x)).trans HQ.out.2.2.2.2.2.2.1, (KB.out.cell (p := ⟨p, 4, none⟩) HPL.out.1 (fun x => x)).trans HQ.out.2.2.2.2.2.2.2⟩
      clear hK K
      (try simp only [Act.put, List.setIfInBounds_toArray, List.set_cons_zero, List.set_cons_succ, List.getElem_toArray, List.getElem_cons_zero, List.getElem_cons_succ])
      refine wpAnyH_take (i := 17) (oi := _) (v := ?vA17) rfl (by kernel_rfl) (by kernel_rfl) (by kernel_rfl) (fun _ _ _ h => h) (Or.inl ⟨by rfl, ?hyA17⟩) (by assumption) ?restA17
      case hyA17 => (intro w hSw; (try dsimp only at hSw); (try simp only [List.getElem_toArray, List.getElem_cons_zero, List.getElem_cons_succ]); go_simp; (try with_reducible rfl))
      (try simp only [Act.put, List.setIfInBounds_toArray, List.set_cons_zero, List.set_cons_succ, List.getElem_toArray, List.getElem_cons_zero, List.getElem_cons_succ])
      refine wpAnyH_take (i := 18) (oi := _) (v := ?vA18) rfl (by kernel_rfl) (by kernel_rfl) (by kernel_rfl) (fun _ _ _ h => h) (Or.inl ⟨by rfl, ?hyA18⟩) (by assumption) ?restA18
      case hyA18 => (intro w hSw; (try dsimp only at hSw); (try simp only [List.getElem_toArray, List.getElem_cons_zero, List.getElem_cons_succ]); go_simp; (try with_reducible rfl))
      (try simp only [Act.put, List.setIfInBounds_toArray, List.set_cons_zero, List.set_cons_succ, List.getElem_toArray, List.getElem_cons_zero, List.getElem_cons_succ])
      refine wpAnyH_done (by kernel_rfl) ?_ _
      refine NoPanic.normal ?_
      go_wp2_with fail
      go_ret
      exact ⟨rfl, HB10.out _ KB.out⟩

end Go.Proofs.YtpmnbfifpenlkaaGreatDoor
