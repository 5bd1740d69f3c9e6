/- Law EmuAlts: the walk. By program (rgn/XEmuAltsWalk.py). Own work. -/
import Derived.Test.YtmlceohmjkaadaaGreatDoorEmuLs
import Derived.Test.YtmlceohmjkaadaaGreatDoorEmuLaw2
import Derived.Deep.QuietTactic
import Derived.BigQuiet
namespace Go.Proofs.YtmlceohmjkaadaaGreatDoor
set_option linter.unusedVariables false
set_option linter.unusedSimpArgs false
open Go.RowKit

set_option maxRecDepth 100000 in
set_option maxHeartbeats 1600000 in
theorem emuAlts_early (x y : Int) (a b : ByteArray) (w : World) (h : (a.size : Int) > 300 ∨ (¬ (a.size : Int) > 300 ∧ (b.size : Int) > 300)) :
    Calls Tryz.prog 10 #[.int .i64 x, .int .i64 y, .string a, .string b] w fun e w' => e = .returned (.bool true) ∧ Below w.heap.size w w' := by
  rcases h with h | ⟨h, h2⟩
  all_goals
    go_enter Tryz.func10, Tryz.ntmps10
    go_wp2_with fail
    refine (emu_alive _).mono ?_
    rintro e w1 ⟨rfl, hb⟩
    have HB := Lib.hid hb
    clear hb
    go_wp2_with fail
    go_ret
    exact ⟨rfl, HB.out⟩

theorem natsJ_24 (a : ByteArray) : natsJ [a, ⟨#[24]⟩] = natsJ [a] ++ [24] := by simp [natsJ, joinL]
theorem Shown.symm {m m' : EmM} (h : Shown m m') : Shown m' m := ⟨h.sW.symm, h.sH.symm, h.sX.symm, h.sY.symm, h.sh.symm, h.sF.symm⟩
/-- A byte that the law lets be. -/
def altOk (u : UInt8) : Prop := u.toNat = 10 ∨ u.toNat = 13 ∨ (32 ≤ u.toNat ∧ u.toNat ≤ 126)

set_option maxRecDepth 100000 in
set_option maxHeartbeats 6400000 in
theorem walk_EmuAlts (x : Int) (wx : (Lit.int .i64 x).wf = true) (y : Int) (wy : (Lit.int .i64 y).wf = true) (a : ByteArray) (wa : a.size ≤ maxLen) (b : ByteArray) (wb : b.size ≤ maxLen) (w : World) :
    Calls Tryz.prog 10 #[.int .i64 x, .int .i64 y, .string a, .string b] w fun e w' => e = .returned (.bool true) ∧ Below w.heap.size w w' := by
  by_cases ha : (a.size : Int) > 300
  · exact emuAlts_early x y a b w (.inl ha)
  by_cases hb : (b.size : Int) > 300
  · exact emuAlts_early x y a b w (.inr ⟨ha, hb⟩)
  obtain ⟨W, hW⟩ : ∃ W : Nat, min (max x 2) 40 = (W : Int) := ⟨(min (max x 2) 40).toNat, by omega⟩
  obtain ⟨H, hH⟩ : ∃ H : Nat, min (max y 1) 20 = (H : Int) := ⟨(min (max y 1) 20).toNat, by omega⟩
  have HN := Lib.hid (fun V => emu_newF V x y W H hW hH)
  have HSZ : Hid (a.size ≤ 300 ∧ b.size ≤ 300) := Lib.hid (by omega)
  clear hW hH wx wy wa wb
  go_enter Tryz.func10, Tryz.ntmps10
  go_wp2_with fail
  refine (emu_alive _).mono ?_
  rintro v w1 ⟨rfl, hb1⟩
  have HE1 := Lib.hid ((Ems.start w).quiet (Keep.of_below _ hb1))
  clear hb1
  go_wp2_with fail
  go_loopw [9] (fun vi wr => ∃ i : Nat, vi = .int .i64 (i : Int) ∧ i ≤ b.size ∧ wr = w1 ∧ Hid (∀ k, k < i → ∀ h : k < b.size, altOk b[k])) (fun vi _ => b.size - (intOf vi).toNat)
  case atStart => exact ⟨0, rfl, by omega, rfl, fun k hk => by omega⟩
  case round =>
    obtain ⟨i, rfl, hi, rfl, HP⟩ := hrel
    by_cases hlt : i < b.size
    · have hki : (i : Int) < (b.size : Int) := by omega
      have hk0 : (0 : Int) ≤ (i : Int) := by omega
      have go : ∀ h : altOk b[i], Hid (∀ k, k < i + 1 → ∀ h : k < b.size, altOk b[k]) := fun h => Lib.hid (fun k hk hkb => by
        by_cases e : k = i
        · subst e; exact h
        · exact HP.out k (by omega) hkb)
      have HGO := Lib.hid go
      clear go HP
      by_cases h1 : b[i].toNat < 32
      · have t1 : ((b[i].toNat : Int) < 32) := by omega
        by_cases h10 : b[i].toNat = 10
        · have t2 : (b[i].toNat : Int) = 10 := by omega
          have HG := HGO.out (.inl h10)
          clear h10 h1
          go_wp2_with fail
          go_roundw
          case rel => exact ⟨i + 1, by go_num, by omega, trivial, HG⟩
          case measure => simp [intOf]; omega
        · have t2 : ¬ (b[i].toNat : Int) = 10 := by omega
          by_cases h13 : b[i].toNat = 13
          · have t3 : (b[i].toNat : Int) = 13 := by omega
            have HG := HGO.out (.inr (.inl h13))
            clear h13 h10 h1
            go_wp2_with fail
            go_roundw
            case rel => exact ⟨i + 1, by go_num, by omega, trivial, HG⟩
            case measure => simp [intOf]; omega
          · have t3 : ¬ (b[i].toNat : Int) = 13 := by omega
            have HB := Lib.hid HE1.out.below
            go_wp2_with fail
            go_ret
            exact ⟨rfl, HB.out⟩
      · have t1 : ¬ ((b[i].toNat : Int) < 32) := by omega
        by_cases h2 : 126 < b[i].toNat
        · have t2 : ((b[i].toNat : Int) > 126) := by omega
          have HB := Lib.hid HE1.out.below
          go_wp2_with fail
          go_ret
          exact ⟨rfl, HB.out⟩
        · have t2 : ¬ ((b[i].toNat : Int) > 126) := by omega
          have HG := HGO.out (.inr (.inr ⟨by omega, by omega⟩))
          go_wp2_with fail
          go_roundw
          case rel => exact ⟨i + 1, by go_num, by omega, trivial, HG⟩
          case measure => simp [intOf]; omega
    · have hii : i = b.size := by omega
      subst hii
      have HPB : Hid (∀ c ∈ natsJ [b], c = 10 ∨ c = 13 ∨ (32 ≤ c ∧ c ≤ 126)) := Lib.hid (fun c hc => by
        rw [natsJ_one] at hc
        obtain ⟨u, hu, rfl⟩ := List.mem_map.1 hc
        obtain ⟨k, hk, rfl⟩ := List.mem_iff_getElem.1 hu
        exact HP.out k (by rw [Lib.size_eq]; exact hk) (by rw [Lib.size_eq]; exact hk))
      clear HP hlt
      go_wp2_with fail
      refine (HN.out _).mono ?_
      rintro v w2 h2
      obtain ⟨e, L, rfl, -, he2⟩ := HE1.out.add h2
      have HE2 : Hid (Ems w w2 [⟨e, L, 0, (pAt 0, EmM.new W H)⟩]) := Lib.hid he2
      clear h2 he2 HE1 HN
      obtain ⟨m0, hm0⟩ := feed_24 (pAt 0, EmM.new W H) (natsJ [a])
      have HF2 := Lib.hid (fed1 (k' := 1000) (m' := m0) (o := (feedM (pAt 0, EmM.new W H) (natsJ [a] ++ [24])).2) HE2.out [a, ⟨#[24]⟩] 2 rfl (by omega) (by have := HSZ.out; simp only [sum, List.map_cons, List.map_nil, List.foldr_cons, List.foldr_nil, List.sum_cons, List.sum_nil]; have : (⟨#[24]⟩ : ByteArray).size = 1 := rfl; omega) (by omega) (by have := HSZ.out; simp only [sum, List.map_cons, List.map_nil, List.foldr_cons, List.foldr_nil, List.sum_cons, List.sum_nil]; have : (⟨#[24]⟩ : ByteArray).size = 1 := rfl; omega) (Prod.ext (by rw [← hm0, natsJ_24]) (by rw [natsJ_24])))
      clear hm0
      go_wp2_with fail
      refine HF2.out.mono ?_
      rintro v w4 ⟨rfl, L4, he4, -, -⟩
      have HE4 := Lib.hid he4
      have HA4 := Lib.hid (emu_alt w4 e L4 m0 he4.one.r)
      have HB4 := Lib.hid he4.below
      clear he4 HF2 HE2
      obtain ⟨al, hal⟩ : ∃ al, m0.alt = al := ⟨_, rfl⟩
      rw [hal] at HA4
      have HAL := Lib.hid hal
      clear hal
      go_wp2_with fail
      refine HA4.out.mono ?_
      rintro v w5 ⟨rfl, rfl⟩
      cases al with
      | true =>
        go_wp2_with fail
        go_ret
        exact ⟨rfl, HB4.out⟩
      | false =>
      have HOK := Lib.hid HE4.out.one.r.ok
      obtain ⟨a1, m2, f2, a3, sh⟩ := alts_says m0 HOK.out.x HOK.out.y HAL.out (natsJ [b]) HPB.out
      have HA1 := Lib.hid a1
      have HF := Lib.hid f2
      have HA3 := Lib.hid a3
      have HSH := Lib.hid sh
      have HS4 := Lib.hid (emu_screen w5 e L4 m0 HE4.out.one.r)
      clear a1 f2 a3 sh HA4
      go_wp2_with fail
      refine HS4.out.mono ?_
      rintro v w6 ⟨g, c, rfl, hg, hl, -, hs, hb6⟩
      have K6 := Keep.of_below (fun _ => False) hb6
      have KS6 := KS.new (e := e) (L := L4) HE4.out.one K6 hs hg hl
      have HE6 := Lib.hid (HE4.out.quiet K6)
      obtain ⟨ob, hob⟩ : ∃ ob : Obj, ob = .cells #[.int .i64 (m0.W : Int), .int .i64 (m0.H : Int), .slice (some ⟨g, 0, none⟩) (m0.W * m0.H) c, .int .i64 (m0.st.x : Int), .int .i64 (m0.st.y : Int), .bool m0.hid] 29 := ⟨_, rfl⟩
      obtain ⟨W6, hW6⟩ : ∃ W6, W6 = w6.alloc ob := ⟨_, rfl⟩
      have Ka : Keep (fun _ => False) w6 W6 := by rw [hW6]; exact (Keep.refl _ w6).alloc _
      have HEa := Lib.hid (HE6.out.quiet Ka)
      have HKS := Lib.hid (KS6.quiet HE6.out.one Ka)
      obtain ⟨p, hp⟩ : ∃ p, p = w6.heap.size := ⟨_, rfl⟩
      have HKP : Hid (Kp W6 e L4 p ob) := Lib.hid (by rw [hW6, hp]; exact Kp.new HE6.out.one ob)
      have HF6 := Lib.hid (fed1 (k' := 1016) HEa.out [⟨#[27, 91, 63, 49, 48, 52, 57, 104]⟩] 1 rfl (by omega) (by decide +kernel) (by omega) (by decide +kernel) (feed_altOn m0))
      have HOB := Lib.hid hob
      clear hg hl hs hb6 K6 KS6 Ka HS4 HE6
      unfold scrV
      go_upto_region 15 with fail
      rw [← hp]
      rw [← hob]
      rw [← hW6]
      clear hW6 hp hob
      go_wp2_with fail
      refine HF6.out.mono ?_
      rintro v w7 ⟨rfl, L7, he7, kp7, ks7⟩
      have HE7 := Lib.hid he7
      have HKP7 := Lib.hid (kp7 _ _ HKP.out)
      have HKS7 := Lib.hid (ks7 _ _ _ HKS.out)
      have HA7 := Lib.hid (emu_alt w7 e L7 _ he7.one.r)
      rw [HA1.out] at HA7
      clear he7 kp7 ks7 HF6 HEa HKP HKS
      go_wp2_with fail
      refine HA7.out.mono ?_
      rintro v w8 ⟨rfl, rfl⟩
      have HF8 := Lib.hid (fed1 (k' := 3000) (m' := m2) (o := (feedM (pAt 0, m0.turnOther true) (natsJ [b])).2) HE7.out [b] 1 rfl (by omega) (by have := HSZ.out; simp only [sum, List.map_cons, List.map_nil, List.foldr_cons, List.foldr_nil, List.sum_cons, List.sum_nil]; omega) (by omega) (by have := HSZ.out; simp only [sum, List.map_cons, List.map_nil, List.foldr_cons, List.foldr_nil, List.sum_cons, List.sum_nil]; omega) (Prod.ext HF.out rfl))
      clear HA7
      go_wp2_with fail
      refine HF8.out.mono ?_
      rintro v w9 ⟨rfl, L9, he9, kp9, ks9⟩
      have HE9 := Lib.hid he9
      have HKP9 := Lib.hid (kp9 _ _ HKP7.out)
      have HKS9 := Lib.hid (ks9 _ _ _ HKS7.out)
      have HF9 := Lib.hid (fed1 (k' := 3016) he9 [⟨#[27, 91, 63, 49, 48, 52, 57, 108]⟩] 1 rfl (by omega) (by decide +kernel) (by omega) (by decide +kernel) (feed_altOff m2))
      clear he9 kp9 ks9 HF8 HE7 HKP7 HKS7 HF
      go_wp2_with fail
      refine HF9.out.mono ?_
      rintro v w10 ⟨rfl, L10, he10, kp10, ks10⟩
      obtain ⟨m3, hm3⟩ : ∃ m3, m2.turnOther false = m3 := ⟨_, rfl⟩
      rw [hm3] at he10 HA3 HSH
      have q10 := (kp10 _ _ HKP9.out).1
      rw [HOB.out] at q10
      have HKS10 := Lib.hid (ks10 _ _ _ HKS9.out)
      have HE10 := Lib.hid he10
      have HPL := Lib.hid (lt_heap q10)
      have c0 := cell_at q10 0; have c1 := cell_at q10 1; have c2 := cell_at q10 2; have c3 := cell_at q10 3; have c4 := cell_at q10 4; have c5 := cell_at q10 5
      simp at c0 c1 c2 c3 c4 c5
      have HQ := Lib.hid (And.intro c0 (And.intro c1 (And.intro c2 (And.intro c3 (And.intro c4 c5)))))
      have HCA : Hid (∀ V, Keep (fun _ => False) w10 V → Calls Tryz.prog 20 #[.pointer (some ⟨e, 0, none⟩)] V fun v w' => v = .returned (.bool false) ∧ w' = V) := Lib.hid (fun V k => by
        have := emu_alt V e L10 m3 (he10.quiet k).one.r
        rwa [HA3.out] at this)
      have HCS : Hid (∀ V, Keep (fun _ => False) w10 V → Calls Tryz.prog 17 #[.pointer (some ⟨e, 0, none⟩)] V (ScrTo m3 V)) := Lib.hid (fun V k => emu_screen V e L10 m3 (he10.quiet k).one.r)
      have HSM : Hid (∀ V g2 d2, Keep (fun _ => False) w10 V → Src V (some ⟨g2, 0, none⟩) (m3.W * m3.H * 6) (flatF m3.shown (m3.W * m3.H)) → Calls Tryz.prog 16 #[scrV m3 (some ⟨g2, 0, none⟩) d2, scrV m0 (some ⟨g, 0, none⟩) c] V fun e w' => e = .returned (.bool true) ∧ Below V.heap.size V w') := Lib.hid (fun V g2 d2 k s => same_scrV m3 m0 HSH.out.symm _ _ d2 c V s (HKS10.out.1.keep k) he10.one.few)
      have HB10 : Hid (∀ V, Keep (fun _ => False) w10 V → Below w.heap.size w V) := Lib.hid (fun V k => (he10.quiet k).below)
      clear he10 kp10 ks10 q10 HF9 HE9 HKP9 HKS9 hm3 HKS10 HSH HA3 HOB HE10
      go_upto_region 19 with fail
      refine wp_region_noPanic ?_
      refine wp_region_held_drew (S := fun w' => w'.cell? ⟨p, 0, none⟩ = some (.int .i64 (m0.W : Int)) ∧ w'.cell? ⟨p, 1, none⟩ = some (.int .i64 (m0.H : Int)) ∧ w'.cell? ⟨p, 2, none⟩ = some (.slice (some ⟨g, 0, none⟩) (m0.W * m0.H) c) ∧ w'.cell? ⟨p, 3, none⟩ = some (.int .i64 (m0.st.x : Int)) ∧ w'.cell? ⟨p, 4, none⟩ = some (.int .i64 (m0.st.y : Int)) ∧ w'.cell? ⟨p, 5, none⟩ = some (.bool m0.hid)) (by kernel_rfl) ⟨c0, c1, c2, c3, c4, c5⟩ (fun hHeld => ?_)
      refine wpAnyH_take (i := 0) (oi := _) (v := ?vA0) rfl (by kernel_rfl) (by kernel_rfl) (by kernel_rfl) (fun _ _ _ h => h) (Or.inl ⟨by rfl, ?hyA0⟩) (by assumption) ?restA0
      case hyA0 => (intro w hSw; (try dsimp only at hSw); (try simp only [List.getElem_toArray, List.getElem_cons_zero, List.getElem_cons_succ]); go_simp; (try with_reducible rfl))
      (try simp only [Act.put, List.setIfInBounds_toArray, List.set_cons_zero, List.set_cons_succ, List.getElem_toArray, List.getElem_cons_zero, List.getElem_cons_succ])
      refine wpAnyH_take (i := 1) (oi := _) (v := ?vA1) rfl (by kernel_rfl) (by kernel_rfl) (by kernel_rfl) (fun _ _ _ h => h) (Or.inl ⟨by rfl, ?hyA1⟩) (by assumption) ?restA1
      case hyA1 => (intro w hSw; (try dsimp only at hSw); (try simp only [List.getElem_toArray, List.getElem_cons_zero, List.getElem_cons_succ]); go_simp; (try with_reducible rfl))
      (try simp only [Act.put, List.setIfInBounds_toArray, List.set_cons_zero, List.set_cons_succ, List.getElem_toArray, List.getElem_cons_zero, List.getElem_cons_succ])
      refine wpAnyH_take (i := 2) (oi := _) (v := ?vA2) rfl (by kernel_rfl) (by kernel_rfl) (by kernel_rfl) (fun _ _ _ h => h) (Or.inl ⟨by rfl, ?hyA2⟩) (by assumption) ?restA2
      case hyA2 => (intro w hSw; (try dsimp only at hSw); (try simp only [List.getElem_toArray, List.getElem_cons_zero, List.getElem_cons_succ]); go_simp; (try with_reducible rfl))
      (try simp only [Act.put, List.setIfInBounds_toArray, List.set_cons_zero, List.set_cons_succ, List.getElem_toArray, List.getElem_cons_zero, List.getElem_cons_succ])
      refine wpAnyH_ready (rs := [3]) (by kernel_rfl) (by simp) ?_
      refine AllReadyH.cons (o := _) rfl (fun K hK => ?_) AllReadyH.nil
      (try simp only [List.getElem_toArray, List.getElem_cons_zero, List.getElem_cons_succ])
      go_simp
      refine (HCA.out _ ((Keep.refl (fun _ => False) w10).drew)).mono ?_
      rintro v wA ⟨rfl, hwA⟩
      rw [hwA]
      clear hwA
      refine hK.out _ _ ?_ (fun hHeld => ?_)
      · exact ⟨(((Keep.refl (fun _ => False) w10).drew).cell (p := ⟨p, 0, none⟩) HPL.out (fun x => x)).trans HQ.out.1, (((Keep.refl (fun _ => False) w10).drew).cell (p := ⟨p, 1, none⟩) HPL.out (fun x => x)).trans HQ.out.2.1, (((Keep.refl (fun _ => False) w10).drew).cell (p := ⟨p, 2, none⟩) HPL.out (fun x => x)).trans HQ.out.2.2.1, (((Keep.refl (fun _ => False) w10).drew).cell (p := ⟨p, 3, none⟩) HPL.out (fun x => x)).trans HQ.out.2.2.2.1, (((Keep.refl (fun _ => False) w10).drew).cell (p := ⟨p, 4, none⟩) HPL.out (fun x => x)).trans HQ.out.2.2.2.2.1, (((Keep.refl (fun _ => False) w10).drew).cell (p := ⟨p, 5, none⟩) HPL.out (fun x => x)).trans HQ.out.2.2.2.2.2⟩
      clear hK K
      (try simp only [Act.put, List.setIfInBounds_toArray, List.set_cons_zero, List.set_cons_succ, List.getElem_toArray, List.getElem_cons_zero, List.getElem_cons_succ])
      refine wpAnyH_take (i := 4) (oi := _) (v := ?vA4) rfl (by kernel_rfl) (by kernel_rfl) (by kernel_rfl) (fun _ _ _ h => h) (Or.inl ⟨by rfl, ?hyA4⟩) (by assumption) ?restA4
      case hyA4 => (intro w hSw; (try dsimp only at hSw); (try simp only [List.getElem_toArray, List.getElem_cons_zero, List.getElem_cons_succ]); go_simp; (try with_reducible rfl))
      (try simp only [Act.put, List.setIfInBounds_toArray, List.set_cons_zero, List.set_cons_succ, List.getElem_toArray, List.getElem_cons_zero, List.getElem_cons_succ])
      refine wpAnyH_take (i := 5) (oi := _) (v := ?vA5) rfl (by kernel_rfl) (by kernel_rfl) (by kernel_rfl) (fun _ _ _ h => h) (Or.inl ⟨by rfl, ?hyA5⟩) (by assumption) ?restA5
      case hyA5 => (intro w hSw; (try dsimp only at hSw); (try simp only [List.getElem_toArray, List.getElem_cons_zero, List.getElem_cons_succ]); go_simp; (try with_reducible rfl))
      (try simp only [Act.put, List.setIfInBounds_toArray, List.set_cons_zero, List.set_cons_succ, List.getElem_toArray, List.getElem_cons_zero, List.getElem_cons_succ])
      refine wpAnyH_take (i := 6) (oi := _) (v := ?vA6) rfl (by kernel_rfl) (by kernel_rfl) (by kernel_rfl) (fun _ _ _ h => h) (Or.inl ⟨by rfl, ?hyA6⟩) (by assumption) ?restA6
      case hyA6 => (intro w hSw; (try dsimp only at hSw); (try simp only [List.getElem_toArray, List.getElem_cons_zero, List.getElem_cons_succ]); go_simp; (try with_reducible rfl))
      (try simp only [Act.put, List.setIfInBounds_toArray, List.set_cons_zero, List.set_cons_succ, List.getElem_toArray, List.getElem_cons_zero, List.getElem_cons_succ])
      refine wpAnyH_take (i := 7) (oi := _) (v := ?vA7) rfl (by kernel_rfl) (by kernel_rfl) (by kernel_rfl) (fun _ _ _ h => h) (Or.inl ⟨by rfl, ?hyA7⟩) (by assumption) ?restA7
      case hyA7 => (intro w hSw; (try dsimp only at hSw); (try simp only [List.getElem_toArray, List.getElem_cons_zero, List.getElem_cons_succ]); go_simp; (try with_reducible rfl))
      (try simp only [Act.put, List.setIfInBounds_toArray, List.set_cons_zero, List.set_cons_succ, List.getElem_toArray, List.getElem_cons_zero, List.getElem_cons_succ])
      refine wpAnyH_take (i := 9) (oi := _) (v := ?vA9) rfl (by kernel_rfl) (by kernel_rfl) (by kernel_rfl) (fun _ _ _ h => h) (Or.inl ⟨by rfl, ?hyA9⟩) (by assumption) ?restA9
      case hyA9 => (intro w hSw; (try dsimp only at hSw); (try simp only [List.getElem_toArray, List.getElem_cons_zero, List.getElem_cons_succ]); go_simp; (try with_reducible rfl))
      (try simp only [Act.put, List.setIfInBounds_toArray, List.set_cons_zero, List.set_cons_succ, List.getElem_toArray, List.getElem_cons_zero, List.getElem_cons_succ])
      refine wpAnyH_ready (rs := [8]) (by kernel_rfl) (by simp) ?_
      refine AllReadyH.cons (o := _) rfl (fun K hK => ?_) AllReadyH.nil
      (try simp only [List.getElem_toArray, List.getElem_cons_zero, List.getElem_cons_succ])
      go_simp
      refine (HCS.out _ ((Keep.refl (fun _ => False) w10).drew)).mono ?_
      rintro v wA ⟨g2, d2, rfl, -, -, -, hsA, hbA⟩
      have KA : Hid (Keep (fun _ => False) w10 wA) := Lib.hid (Keep.trans ((Keep.refl (fun _ => False) w10).drew) (Keep.of_below (fun _ => False) hbA) (fun _ _ x => x))
      have HSA := Lib.hid hsA
      clear hsA hbA
      refine hK.out _ _ ?_ (fun hHeld => ?_)
      · exact ⟨(KA.out.cell (p := ⟨p, 0, none⟩) HPL.out (fun x => x)).trans HQ.out.1, (KA.out.cell (p := ⟨p, 1, none⟩) HPL.out (fun x => x)).trans HQ.out.2.1, (KA.out.cell (p := ⟨p, 2, none⟩) HPL.out (fun x => x)).trans HQ.out.2.2.1, (KA.out.cell (p := ⟨p, 3, none⟩) HPL.out (fun x => x)).trans HQ.out.2.2.2.1, (KA.out.cell (p := ⟨p, 4, none⟩) HPL.out (fun x => x)).trans HQ.out.2.2.2.2.1, (KA.out.cell (p := ⟨p, 5, none⟩) HPL.out (fun x => x)).trans HQ.out.2.2.2.2.2⟩
      clear hK K
      (try simp only [Act.put, List.setIfInBounds_toArray, List.set_cons_zero, List.set_cons_succ, List.getElem_toArray, List.getElem_cons_zero, List.getElem_cons_succ])
      refine wpAnyH_ready (rs := [10]) (by kernel_rfl) (by simp) ?_
      refine AllReadyH.cons (o := _) rfl (fun K hK => ?_) AllReadyH.nil
      (try simp only [List.getElem_toArray, List.getElem_cons_zero, List.getElem_cons_succ])
      go_simp
      refine (HSM.out _ g2 d2 KA.out HSA.out).mono ?_
      rintro v wB ⟨rfl, hbB⟩
      have KB : Hid (Keep (fun _ => False) w10 wB) := Lib.hid (KA.out.trans (Keep.of_below (fun _ => False) hbB) (fun _ _ x => x))
      clear hbB
      refine hK.out _ _ ?_ (fun hHeld => ?_)
      · exact ⟨(KB.out.cell (p := ⟨p, 0, none⟩) HPL.out (fun x => x)).trans HQ.out.1, (KB.out.cell (p := ⟨p, 1, none⟩) HPL.out (fun x => x)).trans HQ.out.2.1, (KB.out.cell (p := ⟨p, 2, none⟩) HPL.out (fun x => x)).trans HQ.out.2.2.1, (KB.out.cell (p := ⟨p, 3, none⟩) HPL.out (fun x => x)).trans HQ.out.2.2.2.1, (KB.out.cell (p := ⟨p, 4, none⟩) HPL.out (fun x => x)).trans HQ.out.2.2.2.2.1, (KB.out.cell (p := ⟨p, 5, none⟩) HPL.out (fun x => x)).trans HQ.out.2.2.2.2.2⟩
      clear hK K
      (try simp only [Act.put, List.setIfInBounds_toArray, List.set_cons_zero, List.set_cons_succ, List.getElem_toArray, List.getElem_cons_zero, List.getElem_cons_succ])
      refine wpAnyH_take (i := 11) (oi := _) (v := ?vA11) rfl (by kernel_rfl) (by kernel_rfl) (by kernel_rfl) (fun _ _ _ h => h) (Or.inl ⟨by rfl, ?hyA11⟩) (by assumption) ?restA11
      case hyA11 => (intro w hSw; (try dsimp only at hSw); (try simp only [List.getElem_toArray, List.getElem_cons_zero, List.getElem_cons_succ]); go_simp; (try with_reducible rfl))
      (try simp only [Act.put, List.setIfInBounds_toArray, List.set_cons_zero, List.set_cons_succ, List.getElem_toArray, List.getElem_cons_zero, List.getElem_cons_succ])
      refine wpAnyH_take (i := 12) (oi := _) (v := ?vA12) rfl (by kernel_rfl) (by kernel_rfl) (by kernel_rfl) (fun _ _ _ h => h) (Or.inl ⟨by rfl, ?hyA12⟩) (by assumption) ?restA12
      case hyA12 => (intro w hSw; (try dsimp only at hSw); (try simp only [List.getElem_toArray, List.getElem_cons_zero, List.getElem_cons_succ]); go_simp; (try with_reducible rfl))
      (try simp only [Act.put, List.setIfInBounds_toArray, List.set_cons_zero, List.set_cons_succ, List.getElem_toArray, List.getElem_cons_zero, List.getElem_cons_succ])
      refine wpAnyH_done (by kernel_rfl) ?_ _
      refine NoPanic.normal ?_
      go_wp2_with fail
      go_ret
      exact ⟨rfl, HB10.out _ KB.out⟩

end Go.Proofs.YtmlceohmjkaadaaGreatDoor
