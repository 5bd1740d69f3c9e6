/- Law EscText: the walk. Own work. -/
import Derived.Test.YthphnjilbpidgaaEscL
namespace Go.Proofs.Ythphnjilbpidgaa
set_option linter.unusedVariables false
set_option linter.unusedSimpArgs false
open Go.RowKit

def PlainTo (a : ByteArray) (k : Nat) : Prop := ∀ j (h : j < a.size), j < k → 32 ≤ a[j].toNat ∧ a[j].toNat ≤ 126

theorem AlikeE.came0 {b : BP} {q : PL} (h : AlikeE b q) (h1 : q.st = 0) : b.came = 0 := by
  cases h with
  | g u B h => rfl
  | _ => exact absurd h1 (by simp)

theorem size26 : (⟨#[26]⟩ : ByteArray).size = 1 := rfl
theorem junk_fed (J : ByteArray) : AlikeE (feedsE .z [J, ⟨#[26]⟩]).1 (pAt 0) := by
  have h := (feed_alikeE ((joinL [J, ⟨#[26]⟩]).map (·.toNat)) AlikeE.z).1
  have e : ((joinL [J, ⟨#[26]⟩]).map (·.toNat)) = J.data.toList.map (·.toNat) ++ [26] := by simp [joinL]
  rw [e, feedP_add, feedP_one, byteP_26, ← e] at h
  exact h

theorem text_fed {b : BP} (h : AlikeE b (pAt 0)) (a : ByteArray) (ha : PlainTo a a.size) : (feedsE b [a]).2 = (natsOf a).map ePrint ∧ (feedsE b [a]).1.ground = true := by
  have e : ((joinL [a]).map (·.toNat)) = natsOf a := by simp [joinL, natsOf]
  have hp : feedP (pAt 0) (natsOf a) = (pAt 0, (natsOf a).map ePrint) := feedP_plain _ (fun c hc => by
    obtain ⟨i, hi, rfl⟩ := List.mem_iff_getElem.1 hc
    have hi' : i < a.size := by simpa [natsOf] using hi
    have := ha i hi' hi'
    have e2 : (natsOf a)[i] = a[i].toNat := by simp [natsOf]; rfl
    rw [e2]; exact this)
  have h2 := feed_alikeE (natsOf a) h
  rw [hp] at h2
  unfold feedsE
  rw [e]
  exact ⟨h2.2, (AlikeE.at0 h2.1 rfl rfl).1⟩

set_option maxRecDepth 100000 in
set_option maxHeartbeats 3200000 in
theorem walk_EscText (a : ByteArray) (wa : a.size ≤ maxLen) (b : ByteArray) (wb : b.size ≤ maxLen) (w : World) :
    Calls Try.prog 8 #[.string a, .string b] w fun e w' => e = .returned (.bool true) ∧ Below w.heap.size w w' := by
  by_cases hsa : a.size ≤ 300
  · by_cases hsb : b.size ≤ 300
    · have h3a : ¬ ((a.size : Int) > 300) := by omega
      have h3b : ¬ ((b.size : Int) > 300) := by omega
      go_enter Try.func8, Try.ntmps8
      go_wp2_with fail
      refine (alive_any _).mono ?_
      rintro e w1 ⟨rfl, hb⟩
      have HB := Lib.hid hb
      clear hb
      go_wp2_with fail
      go_loopw [5] (fun i wr => ∃ k : Nat, i = .int .i64 k ∧ k ≤ a.size ∧ wr = w1 ∧ Hid (PlainTo a k)) (fun i _ => a.size - (intOf i).toNat)
      case atStart => exact ⟨0, rfl, by omega, rfl, fun j _ h => by omega⟩
      case round =>
        obtain ⟨k, rfl, hk, rfl, HP⟩ := hrel
        by_cases hlt : k < a.size
        · by_cases h1 : a[k].toNat < 32
          · have t1 : ((a[k].toNat : Int) < 32) := by omega
            go_wp2_with fail
            go_ret
            exact ⟨rfl, HB.out⟩
          · have t1 : ¬ ((a[k].toNat : Int) < 32) := by omega
            by_cases h2 : 126 < a[k].toNat
            · have t2 : ((a[k].toNat : Int) > 126) := by omega
              go_wp2_with fail
              go_ret
              exact ⟨rfl, HB.out⟩
            · have t2 : ¬ ((a[k].toNat : Int) > 126) := by omega
              go_wp2_with fail
              go_roundw
              case rel =>
                refine ⟨k + 1, by go_num, by omega, trivial, fun j hj hjk => ?_⟩
                by_cases e : j = k
                · subst e; omega
                · exact HP.out j hj (by omega)
              case measure => simp [intOf]; omega
        · have hkk : k = a.size := by omega
          subst hkk
          have HF := Lib.hid (text_fed (junk_fed b) a HP.out)
          have HJ := Lib.hid (junk_fed b)
          clear HP
          go_wp2_with fail
          have hf := esc_feed_new wr.heap.size 0 .z [b, ⟨#[26]⟩] #[.string b, .string ⟨#[26]⟩] (wr.alloc (.cells parserCs 37)) (esc_new wr) (by simp) (by simp) (by simp [sum, size26]; omega) (by decide) 2 (by simp)
          rw [show (wr.alloc (.cells parserCs 37)).heap.size = wr.heap.size + 1 from by simp] at hf
          unfold parserCs at hf
          refine hf.mono ?_
          rintro e w2 ⟨A, n, c, rfl, hn, ha, he, hk⟩
          have HB2 : Hid (Below w.heap.size w w2) := by
            have hs := HB.out.size
            have := (((HB.out.alloc hs (.cells parserCs 37)).alloc (by simp; omega) (.cells #[.string b, .string ⟨#[26]⟩] 9)).trans (hk.keep.below (by simp; omega) (fun k hk e => by omega)))
            exact this
          have hlt2 := he.lt
          have hq : w.heap.size ≤ wr.heap.size := HB.out.size
          have HE := Lib.hid he
          clear hn ha he hk hf HB
          obtain ⟨p, hp⟩ : ∃ p, p = wr.heap.size := ⟨_, rfl⟩
          rw [← hp] at HE hlt2 hq
          go_wp2_with fail
          rw [← hp]
          have hf := esc_feed_new p 0 _ [a] #[.string a] w2 HE.out (by simp) (by simp) (by simp [sum]; omega) (by rw [AlikeE.came0 HJ.out rfl]; omega) 1 (by simp)
          refine hf.mono ?_
          rintro e w3 ⟨A2, n2, c2, rfl, hn, ha, he, hk⟩
          rw [HF.out.1] at hn ha
          replace hn : n2 = a.size := by rw [hn]; simp [natsOf]
          subst hn
          have HB3 : Hid (Below w.heap.size w w3) := by
            have hs := HB2.out.size
            exact ((HB2.out.alloc hs _).trans (hk.keep.below (by simp; omega) (fun k hk e => by omega)))
          have HE3 := Lib.hid he
          have HC : Hid (∀ k (h : k < a.size), ∃ g o, A2 = some ⟨g, o, none⟩ ∧ w3.cell? ⟨g, o + k * 7, none⟩ = some (.int .i64 1) ∧ w3.cell? ⟨g, o + k * 7 + 1, none⟩ = some (.int .i32 (a[k].toNat : Int))) := fun k h => by
            obtain ⟨g, rfl, -, hc⟩ := ha.cells (by omega)
            obtain ⟨s, -, hs⟩ := hc k (ePrint a[k].toNat) (by simp [natsOf, h]; rfl)
            exact ⟨g, 0, rfl, by rw [Nat.zero_add]; exact hs 0 _ rfl, by rw [Nat.zero_add]; exact hs 1 _ rfl⟩
          clear ha he hk hf HB2 HE hp
          go_wp2_with fail
          go_loopw [8] (fun i wr => ∃ k q : Nat, i = .int .i64 k ∧ k ≤ a.size ∧ wr = w3.drewN q) (fun i _ => a.size - (intOf i).toNat)
          case atStart => exact ⟨0, 0, rfl, by omega, rfl⟩
          case round =>
            obtain ⟨k, q, rfl, hk, rfl⟩ := hrel
            by_cases hlt : k < a.size
            · obtain ⟨g, o, rfl, x0, x1⟩ := HC.out k hlt
              have hki : ((k : Int) < (a.size : Int)) := by omega
              have hk0 : (0 : Int) ≤ (k : Int) := by omega
              have hw := i32_nat a[k].toNat (by have := a[k].toNat_lt; omega)
              go_wp2_with fail
              go_quiet (fail)
              go_wp2_with fail
              go_roundw
              case rel => exact ⟨k + 1, _, by go_num, by omega, rfl⟩
              case measure => simp [intOf]; omega
            · go_wp2_with fail
              refine (esc_ground p 0 _ _ (HE3.out.keep ((Keep.refl (fun _ => False) w3).drewN q) (fun x => x) (fun i x => x.elim))).mono ?_
              rintro e w4 ⟨rfl, rfl⟩
              rw [HF.out.2]
              go_wp2_with fail
              go_ret
              exact ⟨rfl, HB3.out.os, HB3.out.tape, HB3.out.output, HB3.out.size, HB3.out.block⟩
    · have h3a : ¬ ((a.size : Int) > 300) := by omega
      have h3b : (b.size : Int) > 300 := by omega
      go_enter Try.func8, Try.ntmps8
      go_wp2_with fail
      refine (alive_any _).mono ?_
      rintro e w1 ⟨rfl, hb⟩
      have HB := Lib.hid hb
      clear hb
      go_wp2_with fail
      go_ret
      exact ⟨rfl, HB.out⟩
  · have h3a : (a.size : Int) > 300 := by omega
    go_enter Try.func8, Try.ntmps8
    go_wp2_with fail
    refine (alive_any _).mono ?_
    rintro e w1 ⟨rfl, hb⟩
    have HB := Lib.hid hb
    clear hb
    go_wp2_with fail
    go_ret
    exact ⟨rfl, HB.out⟩

end Go.Proofs.Ythphnjilbpidgaa
