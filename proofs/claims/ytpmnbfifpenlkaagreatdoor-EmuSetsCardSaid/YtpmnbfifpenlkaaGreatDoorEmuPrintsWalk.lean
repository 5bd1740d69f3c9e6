/- Law EmuPrints: the walk. Own work. -/
import Derived.Test.YtpmnbfifpenlkaaGreatDoorEmuRows
import Derived.Test.YtpmnbfifpenlkaaGreatDoorEmuPrM
import Derived.Test.YtpmnbfifpenlkaaGreatDoorEmuLaw2
import Derived.IntWalk
namespace Go.Proofs.YtpmnbfifpenlkaaGreatDoor
set_option linter.unusedVariables false
set_option linter.unusedSimpArgs false
open Go.RowKit

def charN (s : ByteArray) (i : Nat) : Nat := (natsOf s).getD i 0
theorem char_tab (s : ByteArray) : natsOf s = tab s.size (charN s) := tab_ext (natsOf_len s) (fun i hi => by
  unfold charN
  rw [List.getD_eq_getElem?_getD, List.getElem?_eq_getElem (by rw [natsOf_len]; exact hi)]
  rfl)
/-- What stands in the row j, in the column i. -/
def printV (s : ByteArray) (W f j i : Nat) : Nat := if (f + j) * W + i < s.size then charN s ((f + j) * W + i) else 32
def upGone (W H n : Nat) : Nat := (n + W - 1) / W - H
theorem prints_says (W H : Nat) (hW : 2 ≤ W) (hH : 1 ≤ H) (s : ByteArray) (hs : ∀ i, i < s.size → 33 ≤ charN s i ∧ charN s i ≤ 126) :
    ∃ m, feedM (pAt 0, EmM.new W H) (natsJ [s]) = ((pAt 0, m), []) ∧ m.W = W ∧ m.H = H ∧ ∀ j, j < H → showL (rowL W (fun x => m.shown (j * W + x))) = bytesN (tab W (printV s W (upGone W H s.size) j)) := by
  have e : natsJ [s] = natsOf s := by rw [natsJ_eq]; simp
  rw [e, char_tab]
  have hv : ∀ f j i, printV s W f j i < 128 := fun f j i => by
    unfold printV
    split
    · rename_i h; have := hs _ h; omega
    · omega
  cases hn : s.size with
  | zero =>
    refine ⟨EmM.new W H, rfl, rfl, rfl, fun j hj => row_text (fun i hi => ⟨?_, hv _ _ _⟩)⟩
    unfold printV
    rw [hn, if_neg (by omega)]
    rfl
  | succ k =>
    have hc : ∀ i, i ≤ k → 32 ≤ charN s i ∧ charN s i ≤ 126 := fun i hi => by have := hs i (by omega); omega
    refine ⟨_, pr_all (charN s) hW hH k hc, rfl, rfl, fun j hj => row_text (fun i hi => ⟨?_, hv _ _ _⟩)⟩
    have q1 : (k + 1 + W - 1) / W = k / W + 1 := by rw [show k + 1 + W - 1 = k + W from by omega, Nat.add_div_right _ (by omega)]
    have q2 : k / W * W + k % W + 1 = k + 1 := by have := Nat.div_add_mod k W; rw [Nat.mul_comm] at this; omega
    show (prF (charN s) W (k / W + 1 - H) (k / W * W + k % W + 1) (j * W + i)).r = _
    unfold prF printV upGone
    have q3 : (k / W + 1 - H) * W + (j * W + i) = (k / W + 1 - H + j) * W + i := by rw [Nat.add_mul]; omega
    rw [q1, q2, hn, q3]
    split <;> rfl
theorem char_cut (s : ByteArray) (i : Nat) (h : i < s.size) : s.extract i (i + 1) = bytesN [charN s i] := by
  apply nats_ext
  have e := extract_mk s.data.toList
  rw [mk_data] at e
  have hl : s.data.toList.length = s.size := (Lib.size_eq s).symm
  have e2 : natsOf (s.extract i (i + 1)) = ((natsOf s).drop i).take 1 := by
    rw [e]
    simp [natsOf, List.map_drop, List.map_take, List.drop_take]
  have hb : charN s i < 256 := by
    unfold charN natsOf
    rw [List.getD_eq_getElem?_getD, List.getElem?_map, List.getElem?_eq_getElem (by rw [hl]; exact h)]
    exact (s.data.toList[i]).toNat_lt
  rw [e2, natsOf_bytesN _ (by intro c hc; simp at hc; omega), char_tab s, tab_drop, tab_take _ _ _ (by omega)]
  rfl

set_option maxRecDepth 100000 in
set_option maxHeartbeats 1600000 in
theorem emuPrints_early (x y : Int) (s : ByteArray) (w : World) (h : (s.size : Int) > 500) :
    Calls Tryz.prog 6 #[.int .i64 x, .int .i64 y, .string s] w fun e w' => e = .returned (.bool true) ∧ Below w.heap.size w w' := by
  go_enter Tryz.func6, Tryz.ntmps6
  go_wp2_with fail
  refine (emu_alive _).mono ?_
  rintro e w1 ⟨rfl, hb⟩
  have HB := Lib.hid hb
  clear hb
  go_wp2_with fail
  go_ret
  exact ⟨rfl, HB.out⟩

set_option maxRecDepth 100000 in
set_option maxHeartbeats 6400000 in
theorem walk_EmuPrints (x : Int) (wx : (Lit.int .i64 x).wf = true) (y : Int) (wy : (Lit.int .i64 y).wf = true) (s : ByteArray) (ws : s.size ≤ maxLen) (w : World) :
    Calls Tryz.prog 6 #[.int .i64 x, .int .i64 y, .string s] w fun e w' => e = .returned (.bool true) ∧ Below w.heap.size w w' := by
  by_cases hs : (s.size : Int) > 500
  · exact emuPrints_early x y s w hs
  obtain ⟨W, hW⟩ : ∃ W : Nat, min (max x 2) 40 = (W : Int) := ⟨(min (max x 2) 40).toNat, by omega⟩
  obtain ⟨H, hH⟩ : ∃ H : Nat, min (max y 1) 20 = (H : Int) := ⟨(min (max y 1) 20).toNat, by omega⟩
  have HEN := Lib.hid (ends_is x y W H hW hH)
  have HN := Lib.hid (fun V => emu_newF V x y W H hW hH)
  have HWB : Hid ((2 ≤ W ∧ W ≤ 40) ∧ (1 ≤ H ∧ H ≤ 20) ∧ s.size ≤ 500) := Lib.hid (by omega)
  have g1 : (2 : Int) ≤ (W : Int) := by omega
  have g2 : (W : Int) ≤ 40 := by omega
  have g3 : (H : Int) ≤ 20 := by omega
  obtain ⟨R, hR⟩ : ∃ R, R = (s.size + W - 1) / W := ⟨_, rfl⟩
  have hRb : R ≤ 600 := by rw [hR]; exact Nat.le_trans (Nat.div_le_self _ _) (by omega)
  have hq0 : (s.size : Int) + (W : Int) - 1 = ((s.size + W - 1 : Nat) : Int) := by omega
  have hq1 : ((s.size : Int) + (W : Int) - 1) / (W : Int) = (R : Int) := by rw [hq0, hR]; rfl
  have hq2 : ((s.size : Int) + (W : Int) - 1).tdiv (W : Int) = (R : Int) := by rw [hq0, hR]; rfl
  obtain ⟨f, hf⟩ : ∃ f : Nat, max ((R : Int) - (H : Int)) 0 = (f : Int) := ⟨R - H, by omega⟩
  have hRi : (R : Int) ≤ 600 := by omega
  have hfi : (f : Int) ≤ 600 := by omega
  have HFU : Hid (f = upGone W H s.size) := Lib.hid (by unfold upGone; rw [← hR]; omega)
  clear hW hH wx wy ws hR hq0 hRb
  go_enter Tryz.func6, Tryz.ntmps6
  go_wp2_with fail
  refine (emu_alive _).mono ?_
  rintro v w1 ⟨rfl, hb1⟩
  have HE1 := Lib.hid ((Ems.start w).quiet (Keep.of_below _ hb1))
  clear hb1
  go_wp2_with fail
  go_loopw [7] (fun vi wr => ∃ i : Nat, vi = .int .i64 (i : Int) ∧ i ≤ s.size ∧ wr = w1 ∧ Hid (∀ k, k < i → ∀ h : k < s.size, 33 ≤ s[k].toNat ∧ s[k].toNat ≤ 126)) (fun vi _ => s.size - (intOf vi).toNat)
  case atStart => exact ⟨0, rfl, by omega, rfl, fun k hk => by omega⟩
  case round =>
    obtain ⟨i, rfl, hi, rfl, HP⟩ := hrel
    by_cases hlt : i < s.size
    · have hki : (i : Int) < (s.size : Int) := by omega
      have hk0 : (0 : Int) ≤ (i : Int) := by omega
      by_cases h1 : s[i].toNat < 33
      · have t1 : ((s[i].toNat : Int) < 33) := by omega
        have HB := Lib.hid HE1.out.below
        go_wp2_with fail
        go_ret
        exact ⟨rfl, HB.out⟩
      · have t1 : ¬ ((s[i].toNat : Int) < 33) := by omega
        by_cases h2 : 126 < s[i].toNat
        · have t2 : ((s[i].toNat : Int) > 126) := by omega
          have HB := Lib.hid HE1.out.below
          go_wp2_with fail
          go_ret
          exact ⟨rfl, HB.out⟩
        · have t2 : ¬ ((s[i].toNat : Int) > 126) := by omega
          have HG : Hid (∀ k, k < i + 1 → ∀ h : k < s.size, 33 ≤ s[k].toNat ∧ s[k].toNat ≤ 126) := Lib.hid (fun k hk hks => by
            by_cases e : k = i
            · subst e; exact ⟨by omega, by omega⟩
            · exact HP.out k (by omega) hks)
          go_wp2_with fail
          go_roundw
          case rel => exact ⟨i + 1, by go_num, by omega, trivial, HG⟩
          case measure => simp [intOf]; omega
    · have hii : i = s.size := by omega
      subst hii
      have HPS : Hid (∀ i, i < s.size → 33 ≤ charN s i ∧ charN s i ≤ 126) := Lib.hid (fun i hi => by
        have := HP.out i hi hi
        have e : charN s i = s[i].toNat := by
          unfold charN natsOf
          rw [List.getD_eq_getElem?_getD, List.getElem?_map, List.getElem?_eq_getElem (by rw [← Lib.size_eq]; exact hi)]
          rfl
        omega)
      clear HP hlt
      go_wp2_with fail
      refine (HN.out _).mono ?_
      rintro v w2 h2
      obtain ⟨e, L, rfl, -, he2⟩ := HE1.out.add h2
      have HE2 : Hid (Ems w w2 [⟨e, L, 0, (pAt 0, EmM.new W H)⟩]) := Lib.hid he2
      clear h2 he2 HE1 HN
      go_wp2_with fail
      refine (HEN.out _).mono ?_
      rintro v w3 ⟨rfl, rfl⟩
      obtain ⟨m, f0, mW, mH, mr⟩ := prints_says W H HWB.out.1.1 HWB.out.2.1.1 s HPS.out
      have HF3 := Lib.hid (fed1 (k' := 2000) HE2.out [s] 1 rfl (by omega) (by have := HWB.out; simp only [sum, List.map_cons, List.map_nil, List.foldr_cons, List.foldr_nil]; omega) (by omega) (by have := HWB.out; simp only [sum, List.map_cons, List.map_nil, List.foldr_cons, List.foldr_nil]; omega) f0)
      rw [← HFU.out] at mr
      have HM := Lib.hid (And.intro mW (And.intro mH mr))
      clear f0 mW mH mr HE2 HEN
      go_wp2_with fail
      refine HF3.out.mono ?_
      rintro v w4 ⟨rfl, L4, he4, -, -⟩
      have HE4 := Lib.hid he4
      have HTX := Lib.hid (emu_text w4 e L4 m he4.one.r)
      rw [HM.out.1, HM.out.2.1] at HTX
      clear he4 HF3
      go_wp2_with fail
      refine HTX.out.mono ?_
      rintro v w6 ⟨r, rfl, hr, hb6⟩
      obtain ⟨g, c6, rfl, hgl, hg⟩ := text_cells (by have := HWB.out; omega) hr
      have HG : Hid (∀ j, j < H → w6.cell? ⟨g, j, none⟩ = some (.string (bytesN (tab W (printV s W f j))))) := Lib.hid (fun j hj => by rw [← HM.out.2.2 j hj]; exact hg j hj)
      have HB6 := Lib.hid (HE4.out.quiet (Keep.of_below _ hb6)).below
      clear hr hb6 hgl hg HTX HE4
      go_wp2_with fail
      go_loopw [12] (fun vj wr => ∃ j : Nat, vj = .int .i64 (j : Int) ∧ j ≤ H ∧ wr = w6) (fun vj _ => H - (intOf vj).toNat)
      case atStart => exact ⟨0, rfl, by omega, rfl⟩
      case round =>
        obtain ⟨j, rfl, hj, rfl⟩ := hrel
        by_cases hlt : j < H
        · have hki : (j : Int) < (H : Int) := by omega
          have hk0 : (0 : Int) ≤ (j : Int) := by omega
          have HJ := Lib.hid hlt
          have g0 := HG.out j hlt
          obtain ⟨P, hP⟩ : ∃ P, P = (f + j) * W := ⟨_, rfl⟩
          have hPb : P ≤ 30000 := by rw [hP]; exact Nat.le_trans (Nat.mul_le_mul (show f + j ≤ 620 by omega) (show W ≤ 40 by omega)) (by omega)
          have hPi : ((f : Int) + (j : Int)) * (W : Int) = (P : Int) := by rw [hP]; exact rfl
          have hPj : (P : Int) ≤ 30000 := by omega
          have HPP := Lib.hid hP
          clear hP hPb hlt hj
          go_wp2_with fail
          go_loopw [13, 14] (fun vs vx wr2 => ∃ i : Nat, vs = .string (bytesN (tab i (printV s W f j))) ∧ vx = .int .i64 (i : Int) ∧ i ≤ W ∧ wr2 = wr) (fun _ vx _ => W - (intOf vx).toNat)
          case atStart => exact ⟨0, rfl, rfl, by omega, rfl⟩
          case round =>
            obtain ⟨i, rfl, rfl, hi, rfl⟩ := hrel
            obtain ⟨A, hA⟩ : ∃ A, bytesN (tab i (printV s W f j)) = A := ⟨_, rfl⟩
            have hAs : A.size = i := by rw [← hA, bytesN_size, tab_len]
            rw [hA]
            have HA := Lib.hid hA
            by_cases hlt : i < W
            · have hii : (i : Int) < (W : Int) := by omega
              have hi0 : (0 : Int) ≤ (i : Int) := by omega
              have HI := Lib.hid hlt
              obtain ⟨q, hq⟩ : ∃ q : Nat, (P : Int) + (i : Int) = (q : Int) := ⟨P + i, by omega⟩
              have hqn : q = (f + j) * W + i := by rw [← HPP.out]; omega
              have hqb : (q : Int) ≤ 40000 := by omega
              by_cases hin : q < s.size
              · have hqi : (q : Int) < (s.size : Int) := by omega
                have hq0 : (0 : Int) ≤ (q : Int) := by omega
                have hq1 : (q : Int) + 1 ≤ (s.size : Int) := by omega
                have hcut := char_cut s q hin
                have HNX : Hid (A ++ s.extract q (q + 1) = bytesN (tab (i + 1) (printV s W f j))) := Lib.hid (by
                  rw [hcut, tab_snoc, bytesN_add, HA.out]
                  congr 2
                  unfold printV
                  rw [← hqn, if_pos hin])
                have hsz : A.size + (s.extract q (q + 1)).size ≤ 9223372036854775807 := by rw [hcut, bytesN_size, hAs]; simp; omega
                clear hA hAs hlt hi hqn hin hcut
                go_wp2_with fail
                go_roundw
                case rel => exact ⟨i + 1, by rw [HNX.out], by go_num, HI.out, trivial⟩
                case measure => have := HI.out; simp [intOf]; omega
              · have hqi : ¬ (q : Int) < (s.size : Int) := by omega
                have HNX : Hid (A ++ ⟨#[32]⟩ = bytesN (tab (i + 1) (printV s W f j))) := Lib.hid (by
                  rw [tab_snoc, bytesN_add, HA.out]
                  congr 1
                  unfold printV
                  rw [← hqn, if_neg hin]
                  rfl)
                have hsz : A.size + (⟨#[32]⟩ : ByteArray).size ≤ 9223372036854775807 := by rw [hAs]; show i + 1 ≤ _; omega
                clear hA hAs hlt hi hqn hin
                go_wp2_with fail
                go_roundw
                case rel => exact ⟨i + 1, by rw [HNX.out], by go_num, HI.out, trivial⟩
                case measure => have := HI.out; simp [intOf]; omega
            · obtain rfl : i = W := by omega
              have hii : ¬ (i : Int) < (i : Int) := by omega
              rw [hA] at g0
              have t1 : (A.toList == A.toList) = true := by simp
              clear hA hAs hlt hi
              go_wp2_with fail
              go_roundw
              case rel => exact ⟨j + 1, by go_num, HJ.out, trivial⟩
              case measure => have := HJ.out; simp [intOf]; omega
        · obtain rfl : j = H := by omega
          have hki : ¬ (j : Int) < (j : Int) := by omega
          go_wp2_with fail
          go_ret
          exact ⟨rfl, HB6.out⟩

end Go.Proofs.YtpmnbfifpenlkaaGreatDoor
