/- esc.Parser: Feed. Own work (rgn/XEscF.lean by rgn.py). -/
import Derived.Test.YthphnjilbpidgaaEscT
namespace Go.Proofs.Ythphnjilbpidgaa
set_option linter.unusedVariables false
set_option linter.unusedSimpArgs false
open Go.RowKit

/-- A Parser at p, o. -/
structure EscAt (w : World) (p o : Nat) (b : BP) : Prop where
  c : EscC w p o b
  r : Cell w p o (.pointer none) ∨ ∃ R, Cell w p o (.pointer (some ⟨R, 0, none⟩)) ∧ RulesAt w R true ∧ R ≠ p
  al : ∃ q, AlikeE b q
/-- What a call turns of block p: the cells of the Parser alone. -/
structure KE (p o : Nat) (w w' : World) : Prop where
  keep : Keep (· = p) w w'
  out : ∀ i, i < o ∨ o + 19 ≤ i → w'.cell? ⟨p, i, none⟩ = w.cell? ⟨p, i, none⟩ ∧ w'.frozen? ⟨p, i, none⟩ = w.frozen? ⟨p, i, none⟩
namespace EscAt
variable {w w' : World} {p o : Nat} {b : BP}
theorem lt (h : EscAt w p o b) : p < w.heap.size := h.c.lt
theorem keep {S : Nat → Prop} (h : EscAt w p o b) (k : Keep S w w') (hp : ¬ S p) (hS : ∀ i, S i → ∀ R, w.cell? ⟨p, o, none⟩ = some (.pointer (some ⟨R, 0, none⟩)) → i ≠ R) : EscAt w' p o b :=
  ⟨h.c.keep k hp, h.r.imp (fun c => c.keep k hp) (fun ⟨R, c, r, n⟩ => ⟨R, c.keep k hp, r.keep k (fun e => hS R e R c.1 rfl), n⟩), h.al⟩
theorem below (h : EscAt w p o b) (k : Below w.heap.size w w') : EscAt w' p o b := h.keep (Keep.of_below (fun _ => False) k) (fun x => x) (fun _ x => x.elim)
theorem alloc (h : EscAt w p o b) (x : Obj) : EscAt (w.alloc x) p o b := h.below ((Below.refl _ w).alloc (Nat.le_refl _) x)
end EscAt

def feedsE (b : BP) (ts : List ByteArray) : BP × List EAct := feedE b ((joinL ts).map (·.toNat))

theorem len_doE (b : BP) (hu : b.u.Ok) (d c : Nat) : (doE b d c).2.length ≤ 2 ∧ (doE b d c).1.came ≤ b.came + 2 := by
  have hl := byteU_len hu c
  have hs := b.u.some_le
  unfold doE
  repeat' split
  all_goals try (refine ⟨?_, ?_⟩ <;> (simp; done))
  · exact ⟨by simp only [List.length_map]; omega, by simp⟩
  · refine ⟨by simp, ?_⟩
    unfold keepE
    repeat' split
    all_goals try (simp only; omega)
    · have := beginN_le b.nums b.came
      simp only [digitN]; omega
    · have := beginN_le b.nums b.came
      simp only [nextN, addN]; omega
theorem len_byteE (b : BP) (hu : b.u.Ok) (c : Nat) : (byteE b c).2.length ≤ 3 ∧ (byteE b c).1.came ≤ b.came + 2 ∧ (byteE b c).1.u.Ok := by
  have hf : (flushE b (deedE b.s (kindL c))).2.length ≤ 1 ∧ (flushE b (deedE b.s (kindL c))).1.came = b.came ∧ (flushE b (deedE b.s (kindL c))).1.u.Ok := by
    unfold flushE
    split
    · exact ⟨by simp, rfl, hu⟩
    · exact ⟨by simp only [List.length_map]; exact badsU_le _, rfl, .z⟩
  obtain ⟨h1, h2, h3⟩ := hf
  have h4 := len_doE _ h3 (deedE b.s (kindL c)) c
  have h5 : (doE (flushE b (deedE b.s (kindL c))).1 (deedE b.s (kindL c)) c).1.u.Ok := by
    unfold doE
    repeat' split
    all_goals try exact h3
    · exact h3.byte c
    · unfold keepE
      repeat' split
      all_goals exact h3
  unfold byteE stepE
  refine ⟨by simp only [List.length_append]; omega, ?_, ?_⟩
  · unfold toE BP.clear
    split
    · simp only; omega
    · simp only; omega
  · unfold toE BP.clear
    split
    · exact h5
    · exact h5
theorem len_feedE (l : List Nat) : ∀ (b : BP), b.u.Ok → (feedE b l).2.length ≤ 3 * l.length ∧ (feedE b l).1.came ≤ b.came + 2 * l.length ∧ (feedE b l).1.u.Ok := by
  induction l with
  | nil => intro b h; exact ⟨by simp [feedE], by simp [feedE], h⟩
  | cons c r ih =>
    intro b h
    obtain ⟨h1, h2, h3⟩ := len_byteE b h c
    obtain ⟨h4, h5, h6⟩ := ih _ h3
    simp only [feedE, List.length_append, List.length_cons]
    exact ⟨by omega, by omega, h6⟩
theorem kindL_le (c : Nat) : kindL c ≤ 14 := by
  unfold kindL
  repeat' split
  all_goals omega
theorem deed9_tab : ∀ s, s < 12 → ∀ k, k < 15 → deedE s k = 9 → k = 5 := by decide +kernel
theorem deed9 (s c : Nat) (hs : s ≤ 11) (h : deedE s (kindL c) = 9) : 48 ≤ c ∧ c ≤ 57 := by
  have hk := deed9_tab s (by omega) (kindL c) (by have := kindL_le c; omega) h
  unfold kindL at hk
  repeat' split at hk
  all_goals omega

/-- Feed has read these bytes; w1 behind the table's making. -/
def FedE (p o B R : Nat) (b : BP) (w1 : World) (v : Value) (l : List Nat) (w' : World) : Prop :=
  ∃ A n c, v = .slice A n c ∧ n = (feedE b l).2.length ∧ ActsV w' B A n c (feedE b l).2 ∧ EscC w' p o (feedE b l).1 ∧ PStep p o none w1 A w'

set_option maxRecDepth 100000 in
set_option maxHeartbeats 3200000 in
/-- Feed, where the rules are made. -/
theorem esc_feed_made (p o R : Nat) (b : BP) (q : PL) (hal : AlikeE b q) (A : Option Addr) (n c : Nat) (ts : List ByteArray) (w : World) (h : EscC w p o b) (hr : Cell w p o (.pointer (some ⟨R, 0, none⟩))) (hR : RulesAt w R true) (hRp : R ≠ p)
    (hs : Src w A n (ts.map Value.string)) (hA : 0 < n → blk A ≠ some p) (hn : n ≤ 100000000) (hsum : sum ts ≤ 100000000) (hcm : b.came ≤ 100000000) :
    Calls Try.prog 12 #[.pointer (some ⟨p, o, none⟩), .slice A n c] w fun e w' => ∃ B v w1, w.heap.size ≤ B ∧ e = .returned v ∧ Keep (fun _ => False) w w1 ∧ FedE p o B R b w1 v (preU ts n 0) w' := by
  have hl := Lib.hid (show ts.length = n from by have := hs.1; rwa [List.length_map] at this)
  have cr := hr.1
  have H := Lib.hid h
  have HRR := Lib.hid hR
  have HS := Lib.hid hs
  have HA := Lib.hid hA
  have HSUM := Lib.hid hsum
  have HAL := Lib.hid hal
  have HCM := Lib.hid hcm
  have hpl := h.lt
  have hRl := hR.lt
  have HCR := Lib.hid hr
  have HU := Lib.hid h.u.ok
  clear h hr hR hs hA hsum hal hcm
  go_enter Try.func12, Try.ntmps12
  go_wp2_with fail
  refine (rows_again R w HRR.out).mono ?_
  rintro e w1 ⟨rfl, k1⟩
  have K1 := Lib.hid k1
  obtain ⟨B, hB⟩ : ∃ B, B = w1.heap.size := ⟨_, rfl⟩
  have HBW : Hid (B = w1.heap.size) := hB
  have hwB : w.heap.size ≤ B := by rw [hB]; exact k1.size
  have H1 := Lib.hid (H.out.keep k1 (fun x => x))
  have R1 := Lib.hid (HRR.out.keep k1 (fun x => x))
  have S1 := Lib.hid (HS.out.keep k1)
  have F0 : Hid (FedE p o B R b w1 (.slice none 0 0) (preU ts 0 0) w1) := by
    show FedE _ _ _ _ _ _ _ _ _
    rw [preU_zero]
    exact ⟨none, 0, 0, rfl, rfl, ActsV.nil _ _, H1.out, PStep.refl _ _ _ _⟩
  have HLEN : Hid (∀ l : List Nat, l.length ≤ 100000000 → (feedE b l).2.length ≤ 300000000 ∧ (feedE b l).1.came < 1000000000 ∧ (feedE b l).1.Ok) := Lib.hid (fun l hl => by
    have h1 := len_feedE l b HU.out
    have h2 := HCM.out
    exact ⟨by omega, by omega, (feed_alikeE l HAL.out).1.ok⟩)
  clear k1 hB cr
  go_wp2_with fail
  go_loopw [6, 29] (fun v i wr => ∃ k : Nat, i = .int .i64 k ∧ k ≤ n ∧ Hid (FedE p o B R b w1 v (preU ts k 0) wr)) (fun _ i _ => n - (intOf i).toNat)
  case atStart => exact ⟨0, rfl, by omega, F0⟩
  case round =>
    obtain ⟨k, rfl, hk, HF⟩ := hrel
    obtain ⟨wo, rfl⟩ : ∃ wo : World, wo = wr := ⟨_, rfl⟩
    by_cases hlt : k < n
    · obtain ⟨x, hx⟩ : ∃ x, ts[k]? = some x := ⟨ts[k]'(by rw [hl.out]; exact hlt), List.getElem?_eq_getElem _⟩
      have hsrc : Src wo A n (ts.map Value.string) := by
        obtain ⟨_, _, _, _, _, _, _, hps⟩ := HF.out
        exact S1.out.of_keep hps.keep (fun i hi e => e.elim (fun e => HA.out (by omega) (by rw [hi, e])) (fun e => by simp [blk] at e))
      obtain ⟨bb, off, rfl, hbl, hcs⟩ := hsrc.2 (by omega)
      have hcx : wo.cell? ⟨bb, off + k, none⟩ = some (.string x) := hcs k _ (by rw [List.getElem?_map, hx]; rfl)
      have hxs : x.size ≤ 100000000 := by
        have h1 := sum_mem (List.mem_of_getElem? hx)
        have := HSUM.out
        omega
      have hki : ((k : Int) < (n : Int)) := by omega
      have hk0 : (0 : Int) ≤ (k : Int) := by omega
      have HX := Lib.hid hx
      clear hcs hx hsrc
      go_wp2_with fail
      go_loopw [6, 35] (fun v i wr => ∃ j : Nat, i = .int .i64 j ∧ j ≤ x.size ∧ Hid (FedE p o B R b w1 v (preU ts k j) wr)) (fun _ i _ => x.size - (intOf i).toNat)
      case atStart => exact ⟨0, rfl, by omega, HF⟩
      case round =>
        obtain ⟨j, rfl, hj, HF2⟩ := hrel
        by_cases hlj : j < x.size
        · have hpre : (preU ts k j).length ≤ 100000000 := by
            have h2 := preU_len ts k j (by rw [List.getD_eq_getElem?_getD, HX.out, Option.getD_some]; omega)
            have h3 := HSUM.out
            omega
          have hcc := HLEN.out _ hpre
          have hb256 : x[j].toNat < 256 := x[j].toNat_lt
          have HN := Lib.hid (preU_next HX.out hlj)
          obtain ⟨ch, hch⟩ : ∃ ch : Nat, x[j].toNat = ch := ⟨_, rfl⟩
          rw [hch] at hb256 HN
          have hix : ∀ W : World, (Instr.index 9 (.string x) (.int .i64 (j : Int))).run Try.prog W = .ok (.int .u8 (ch : Int)) W := fun W => by
            rw [run_index_string W 9 x .i64 (j : Int) Try.underlying9]
            simp [hlj, hch]
          obtain ⟨A1, n1, c1, rfl, hn1, ha1, he1, hp1⟩ := HF2.out
          generalize hst : feedE b (preU ts k j) = st at hcc hn1 ha1 he1
          obtain ⟨b1, rs1⟩ := st
          have HST := Lib.hid hst
          have HA1 := Lib.hid ha1
          have HE1 := Lib.hid he1
          have HP1 := Lib.hid hp1
          have HC1 := Lib.hid hcc
          have hs12 : b1.s ≤ 11 := hcc.2.2.s
          have hn1' : n1 ≤ 300000000 := by rw [hn1]; exact hcc.1
          have HN1 := Lib.hid hn1
          have hkl := kindL_le ch
          obtain ⟨kd, hkd⟩ : ∃ kd, kindL ch = kd := ⟨_, rfl⟩
          rw [hkd] at hkl
          have HKD := Lib.hid (fun W => hkd ▸ esc_kindOf ch W)
          have HD9 : Hid (deedE b1.s kd = 9 → 48 ≤ ch ∧ ch ≤ 57) := Lib.hid (fun e => deed9 b1.s ch hs12 (by rw [hkd]; exact e))
          have HBE : Hid (byteE b1 ch = stepE b1 (nextE b1.s kd) (deedE b1.s kd) ch) := Lib.hid (by unfold byteE; rw [hkd])
          have hRr : RulesAt wr R true := R1.out.keep hp1.keep (fun e => e.elim (fun e => hRp e) (fun e => by simp [blk] at e))
          obtain ⟨ss, hss⟩ : ∃ ss, b1.s = ss := ⟨_, rfl⟩
          obtain ⟨nx, hnx⟩ : ∃ nx, nextE ss kd = nx := ⟨_, rfl⟩
          obtain ⟨dd, hdd⟩ : ∃ dd, deedE ss kd = dd := ⟨_, rfl⟩
          rw [hss] at hs12 HD9 HBE
          rw [hdd] at HD9
          rw [hnx, hdd] at HBE
          have r0 : wr.cell? ⟨R, 3 + ss * 30 + kd * 2, none⟩ = some (.int .u8 (nx : Int)) := by
            rw [← hnx, Nat.add_assoc]; exact hRr.at' (by omega)
          have r1 : wr.cell? ⟨R, 3 + ss * 30 + kd * 2 + 1, none⟩ = some (.int .u8 (dd : Int)) := by
            rw [← hdd, show 3 + ss * 30 + kd * 2 + 1 = 3 + (ss * 30 + kd * 2 + 1) by omega]; exact hRr.at' (by omega)
          have HR0 : Hid (∀ W : World, RulesAt W R true → W.cell? ⟨R, 3 + ss * 30 + kd * 2, none⟩ = some (.int .u8 (nx : Int))) := Lib.hid (fun W h => by rw [← hnx, Nat.add_assoc]; exact h.at' (by omega))
          have HR1 : Hid (∀ W : World, RulesAt W R true → W.cell? ⟨R, 3 + ss * 30 + kd * 2 + 1, none⟩ = some (.int .u8 (dd : Int))) := Lib.hid (fun W h => by rw [← hdd, show 3 + ss * 30 + kd * 2 + 1 = 3 + (ss * 30 + kd * 2 + 1) by omega]; exact h.at' (by omega))
          have e1 : wr.cell? ⟨p, o + 1, none⟩ = some (.int .u8 (ss : Int)) := by rw [← hss]; exact he1.s.1
          have hs0 : (0 : Int) ≤ (ss : Int) := by omega
          have hs1 : (ss : Int) < 12 := by omega
          have hk00 : (0 : Int) ≤ (kd : Int) := by omega
          have hk15 : (kd : Int) < 15 := by omega
          have hj0 : (0 : Int) ≤ (j : Int) := by omega
          have hjx : (j : Int) < (x.size : Int) := by omega
          have hpB : p < B := by omega
          have hBr : B ≤ wr.heap.size := by rw [HBW.out]; exact hp1.keep.size
          clear hst hkd hss hnx hdd hn1 ha1 he1 hp1 hcc hRr hpre hch HF2
          go_wp2_with fail
          refine wp_region_noPanic ?_
          refine wp_region_held_drew (S := fun w' => w'.cell? ⟨R, 3 + ss * 30 + kd * 2, none⟩ = some (.int .u8 (nx : Int)) ∧ w'.cell? ⟨R, 3 + ss * 30 + kd * 2 + 1, none⟩ = some (.int .u8 (dd : Int))) (by kernel_rfl) ⟨r0, r1⟩ (fun hHeld => ?_)
          refine wpAnyH_take (i := 0) (oi := _) (v := ?vz0_1) rfl (by kernel_rfl) (by kernel_rfl) (by kernel_rfl) (fun _ _ _ h => h) (Or.inl ⟨by rfl, ?hyz0_1⟩) (by assumption) ?restz0_1
          case hyz0_1 => (intro w hSw; (try dsimp only at hSw); (try simp only [List.getElem_toArray, List.getElem_cons_zero, List.getElem_cons_succ]); go_simp; (try with_reducible rfl))
          (try simp only [Act.put, List.setIfInBounds_toArray, List.set_cons_zero, List.set_cons_succ, List.getElem_toArray, List.getElem_cons_zero, List.getElem_cons_succ])
          refine wpAnyH_take (i := 1) (oi := _) (v := ?vz1_2) rfl (by kernel_rfl) (by kernel_rfl) (by kernel_rfl) (fun _ _ _ h => h) (Or.inl ⟨by rfl, ?hyz1_2⟩) (by assumption) ?restz1_2
          case hyz1_2 => (intro w hSw; (try dsimp only at hSw); (try simp only [List.getElem_toArray, List.getElem_cons_zero, List.getElem_cons_succ]); go_simp; (try with_reducible rfl))
          (try simp only [Act.put, List.setIfInBounds_toArray, List.set_cons_zero, List.set_cons_succ, List.getElem_toArray, List.getElem_cons_zero, List.getElem_cons_succ])
          refine wpAnyH_take (i := 2) (oi := _) (v := ?vz2_3) rfl (by kernel_rfl) (by kernel_rfl) (by kernel_rfl) (fun _ _ _ h => h) (Or.inl ⟨by rfl, ?hyz2_3⟩) (by assumption) ?restz2_3
          case hyz2_3 => (intro w hSw; (try dsimp only at hSw); (try simp only [List.getElem_toArray, List.getElem_cons_zero, List.getElem_cons_succ]); go_simp; (try with_reducible rfl))
          (try simp only [Act.put, List.setIfInBounds_toArray, List.set_cons_zero, List.set_cons_succ, List.getElem_toArray, List.getElem_cons_zero, List.getElem_cons_succ])
          refine wpAnyH_take (i := 3) (oi := _) (v := ?vz3_4) rfl (by kernel_rfl) (by kernel_rfl) (by kernel_rfl) (fun _ _ _ h => h) (Or.inl ⟨by rfl, ?hyz3_4⟩) (by assumption) ?restz3_4
          case hyz3_4 => (intro w hSw; (try dsimp only at hSw); (try simp only [List.getElem_toArray, List.getElem_cons_zero, List.getElem_cons_succ]); go_simp; (try with_reducible rfl))
          (try simp only [Act.put, List.setIfInBounds_toArray, List.set_cons_zero, List.set_cons_succ, List.getElem_toArray, List.getElem_cons_zero, List.getElem_cons_succ])
          refine wpAnyH_take (i := 7) (oi := _) (v := ?vz7_5) rfl (by kernel_rfl) (by kernel_rfl) (by kernel_rfl) (fun _ _ _ h => h) (Or.inl ⟨by rfl, ?hyz7_5⟩) (by assumption) ?restz7_5
          case hyz7_5 => (intro w hSw; (try dsimp only at hSw); (try simp only [List.getElem_toArray, List.getElem_cons_zero, List.getElem_cons_succ]); go_simp; (try with_reducible rfl))
          (try simp only [Act.put, List.setIfInBounds_toArray, List.set_cons_zero, List.set_cons_succ, List.getElem_toArray, List.getElem_cons_zero, List.getElem_cons_succ])
          refine wpAnyH_take (i := 8) (oi := _) (v := ?vz8_6) rfl (by kernel_rfl) (by kernel_rfl) (by kernel_rfl) (fun _ _ _ h => h) (Or.inl ⟨by rfl, ?hyz8_6⟩) (by assumption) ?restz8_6
          case hyz8_6 => (intro w hSw; (try dsimp only at hSw); (try simp only [List.getElem_toArray, List.getElem_cons_zero, List.getElem_cons_succ]); go_simp; (try with_reducible rfl))
          (try simp only [Act.put, List.setIfInBounds_toArray, List.set_cons_zero, List.set_cons_succ, List.getElem_toArray, List.getElem_cons_zero, List.getElem_cons_succ])
          refine wpAnyH_take (i := 15) (oi := _) (v := ?vz15_7) rfl (by kernel_rfl) (by kernel_rfl) (by kernel_rfl) (fun _ _ _ h => h) (Or.inl ⟨by rfl, ?hyz15_7⟩) (by assumption) ?restz15_7
          case hyz15_7 => (intro w hSw; (try dsimp only at hSw); (try simp only [List.getElem_toArray, List.getElem_cons_zero, List.getElem_cons_succ]); go_simp; (try with_reducible rfl))
          (try simp only [Act.put, List.setIfInBounds_toArray, List.set_cons_zero, List.set_cons_succ, List.getElem_toArray, List.getElem_cons_zero, List.getElem_cons_succ])
          refine wpAnyH_take (i := 16) (oi := _) (v := ?vz16_8) rfl (by kernel_rfl) (by kernel_rfl) (by kernel_rfl) (fun _ _ _ h => h) (Or.inl ⟨by rfl, ?hyz16_8⟩) (by assumption) ?restz16_8
          case hyz16_8 => (intro w hSw; (try dsimp only at hSw); (try simp only [List.getElem_toArray, List.getElem_cons_zero, List.getElem_cons_succ]); go_simp; (try with_reducible rfl))
          (try simp only [Act.put, List.setIfInBounds_toArray, List.set_cons_zero, List.set_cons_succ, List.getElem_toArray, List.getElem_cons_zero, List.getElem_cons_succ])
          refine wpAnyH_take (i := 4) (oi := _) (v := ?vz4_9) rfl (by kernel_rfl) (by kernel_rfl) (by kernel_rfl) (fun _ _ _ h => h) (Or.inl ⟨by rfl, ?hyz4_9⟩) (by assumption) ?restz4_9
          case hyz4_9 => (intro w hSw; (try dsimp only at hSw); (try simp only [List.getElem_toArray, List.getElem_cons_zero, List.getElem_cons_succ]); go_simp; (try with_reducible rfl))
          (try simp only [Act.put, List.setIfInBounds_toArray, List.set_cons_zero, List.set_cons_succ, List.getElem_toArray, List.getElem_cons_zero, List.getElem_cons_succ])
          refine wpAnyH_take (i := 9) (oi := _) (v := ?vz9_10) rfl (by kernel_rfl) (by kernel_rfl) (by kernel_rfl) (fun _ _ _ h => h) (Or.inl ⟨by rfl, ?hyz9_10⟩) (by assumption) ?restz9_10
          case hyz9_10 => (intro w hSw; (try dsimp only at hSw); (try simp only [List.getElem_toArray, List.getElem_cons_zero, List.getElem_cons_succ]); go_simp; (try with_reducible rfl))
          (try simp only [Act.put, List.setIfInBounds_toArray, List.set_cons_zero, List.set_cons_succ, List.getElem_toArray, List.getElem_cons_zero, List.getElem_cons_succ])
          refine wpAnyH_take (i := 11) (oi := _) (v := ?vz11_11) rfl (by kernel_rfl) (by kernel_rfl) (by kernel_rfl) (fun _ _ _ h => h) (Or.inl ⟨by rfl, ?hyz11_11⟩) (by assumption) ?restz11_11
          case hyz11_11 => (intro w hSw; (try dsimp only at hSw); (try simp only [List.getElem_toArray, List.getElem_cons_zero, List.getElem_cons_succ]); go_simp; (try with_reducible rfl))
          (try simp only [Act.put, List.setIfInBounds_toArray, List.set_cons_zero, List.set_cons_succ, List.getElem_toArray, List.getElem_cons_zero, List.getElem_cons_succ])
          refine wpAnyH_take (i := 17) (oi := _) (v := ?vz17_12) rfl (by kernel_rfl) (by kernel_rfl) (by kernel_rfl) (fun _ _ _ h => h) (Or.inl ⟨by rfl, ?hyz17_12⟩) (by assumption) ?restz17_12
          case hyz17_12 => (intro w hSw; (try dsimp only at hSw); (try simp only [List.getElem_toArray, List.getElem_cons_zero, List.getElem_cons_succ]); go_simp; (try with_reducible rfl))
          (try simp only [Act.put, List.setIfInBounds_toArray, List.set_cons_zero, List.set_cons_succ, List.getElem_toArray, List.getElem_cons_zero, List.getElem_cons_succ])
          refine wpAnyH_take (i := 5) (oi := _) (v := ?vz5_13) rfl (by kernel_rfl) (by kernel_rfl) (by kernel_rfl) (fun _ _ _ h => h) (Or.inl ⟨by rfl, ?hyz5_13⟩) (by assumption) ?restz5_13
          case hyz5_13 => (intro w hSw; (try dsimp only at hSw); (try simp only [List.getElem_toArray, List.getElem_cons_zero, List.getElem_cons_succ]); go_simp; (try with_reducible rfl))
          (try simp only [Act.put, List.setIfInBounds_toArray, List.set_cons_zero, List.set_cons_succ, List.getElem_toArray, List.getElem_cons_zero, List.getElem_cons_succ])
          refine wpAnyH_ready (rs := [6, 10]) (by kernel_rfl) (by simp) ?_
          refine AllReadyH.cons (o := _) rfl (fun K hK => ?_) (AllReadyH.cons (o := _) rfl (fun K hK => ?_) AllReadyH.nil)
          · (try simp only [List.getElem_toArray, List.getElem_cons_zero, List.getElem_cons_succ])
            go_simp
            refine hK.out _ _ ?_ (fun hHeld => ?_)
            · exact ⟨r0, r1⟩
            clear hK K
            (try simp only [Act.put, List.setIfInBounds_toArray, List.set_cons_zero, List.set_cons_succ, List.getElem_toArray, List.getElem_cons_zero, List.getElem_cons_succ])
            refine wpAnyH_take (i := 12) (oi := _) (v := ?vz12_14) rfl (by kernel_rfl) (by kernel_rfl) (by kernel_rfl) (fun _ _ _ h => h) (Or.inl ⟨by rfl, ?hyz12_14⟩) (by assumption) ?restz12_14
            case hyz12_14 => (intro w hSw; (try dsimp only at hSw); (try simp only [List.getElem_toArray, List.getElem_cons_zero, List.getElem_cons_succ]); go_simp; (try with_reducible rfl))
            (try simp only [Act.put, List.setIfInBounds_toArray, List.set_cons_zero, List.set_cons_succ, List.getElem_toArray, List.getElem_cons_zero, List.getElem_cons_succ])
            refine wpAnyH_ready (rs := [10]) (by kernel_rfl) (by simp) ?_
            refine AllReadyH.cons (o := _) rfl (fun K hK => ?_) AllReadyH.nil
            · (try simp only [List.getElem_toArray, List.getElem_cons_zero, List.getElem_cons_succ])
              go_simp
              refine (HKD.out _).mono ?_; rintro e w2 ⟨rfl, rfl⟩
              refine hK.out _ _ ?_ (fun hHeld => ?_)
              · exact ⟨r0, r1⟩
              clear hK K
              (try simp only [Act.put, List.setIfInBounds_toArray, List.set_cons_zero, List.set_cons_succ, List.getElem_toArray, List.getElem_cons_zero, List.getElem_cons_succ])
              refine wpAnyH_take (i := 13) (oi := _) (v := ?vz13_15) rfl (by kernel_rfl) (by kernel_rfl) (by kernel_rfl) (fun _ _ _ h => h) (Or.inl ⟨by rfl, ?hyz13_15⟩) (by assumption) ?restz13_15
              case hyz13_15 => (intro w hSw; (try dsimp only at hSw); (try simp only [List.getElem_toArray, List.getElem_cons_zero, List.getElem_cons_succ]); go_simp; (try with_reducible rfl))
              (try simp only [Act.put, List.setIfInBounds_toArray, List.set_cons_zero, List.set_cons_succ, List.getElem_toArray, List.getElem_cons_zero, List.getElem_cons_succ])
              refine wpAnyH_take (i := 14) (oi := _) (v := ?vz14_16) rfl (by kernel_rfl) (by kernel_rfl) (by kernel_rfl) (fun _ _ _ h => h) (Or.inl ⟨by rfl, ?hyz14_16⟩) (by assumption) ?restz14_16
              case hyz14_16 => (intro w hSw; (try dsimp only at hSw); (try simp only [List.getElem_toArray, List.getElem_cons_zero, List.getElem_cons_succ]); go_simp; (try with_reducible rfl))
              (try simp only [Act.put, List.setIfInBounds_toArray, List.set_cons_zero, List.set_cons_succ, List.getElem_toArray, List.getElem_cons_zero, List.getElem_cons_succ])
              refine wpAnyH_ready (rs := [18]) (by kernel_rfl) (by simp) ?_
              refine AllReadyH.cons (o := _) rfl (fun K hK => ?_) AllReadyH.nil
              · (try simp only [List.getElem_toArray, List.getElem_cons_zero, List.getElem_cons_succ])
                go_simp
                refine (esc_take p o B b1 A1 n1 c1 rs1 nx dd ch _ (HE1.out.keep ((Keep.refl (fun _ => False) wr).drew) (fun x => x)) (HA1.out.keep ((Keep.refl (fun _ => False) wr).drew) (fun _ _ x => x)) hpB hBr HC1.out.2.2 hb256 HC1.out.2.1 HD9.out (by omega)).mono ?_
                rintro e w3 ⟨A2, c2, rfl, h2, g2, k2⟩
                have HA2 := Lib.hid h2
                have HE2 := Lib.hid g2
                have K2 : Hid (PStep p o A1 wr A2 w3) := Lib.hid ⟨⟨k2.keep.os, k2.keep.tape, k2.keep.output, k2.keep.size, k2.keep.block⟩, k2.at', k2.out⟩
                have HRF : Hid (RulesAt w3 R true) := Lib.hid (R1.out.keep (HP1.out.trans K2.out).keep (fun e => e.elim (fun e => hRp e) (fun e => by simp [blk] at e)))
                clear h2 g2 k2
                refine hK.out _ _ ?_ (fun hHeld => ?_)
                · exact ⟨HR0.out w3 HRF.out, HR1.out w3 HRF.out⟩
                clear hK K
                (try simp only [Act.put, List.setIfInBounds_toArray, List.set_cons_zero, List.set_cons_succ, List.getElem_toArray, List.getElem_cons_zero, List.getElem_cons_succ])
                refine wpAnyH_take (i := 19) (oi := _) (v := ?vz19_17) rfl (by kernel_rfl) (by kernel_rfl) (by kernel_rfl) (fun _ _ _ h => h) (Or.inl ⟨by rfl, ?hyz19_17⟩) (by assumption) ?restz19_17
                case hyz19_17 => (intro w hSw; (try dsimp only at hSw); (try simp only [List.getElem_toArray, List.getElem_cons_zero, List.getElem_cons_succ]); go_simp; (try with_reducible rfl))
                (try simp only [Act.put, List.setIfInBounds_toArray, List.set_cons_zero, List.set_cons_succ, List.getElem_toArray, List.getElem_cons_zero, List.getElem_cons_succ])
                refine wpAnyH_done (by kernel_rfl) ?_ _
                refine NoPanic.normal ?_
                have HF4 : Hid (FedE p o B R b w1 (.slice A2 (n1 + (stepE b1 nx dd ch).2.length : Nat) c2) (preU ts k (j + 1)) w3) := by
                  show FedE _ _ _ _ _ _ _ _ _
                  rw [HN.out]
                  unfold FedE
                  rw [feedE_snoc, HST.out]
                  simp only
                  rw [HBE.out]
                  refine ⟨A2, _, c2, rfl, ?_, HA2.out, HE2.out, HP1.out.trans K2.out⟩
                  rw [List.length_append, HN1.out]
                clear hHeld
                go_wp2_with fail
                go_roundw
                case rel => exact ⟨j + 1, by go_num, by omega, HF4⟩
                case measure => simp [intOf]; omega
          · (try simp only [List.getElem_toArray, List.getElem_cons_zero, List.getElem_cons_succ])
            go_simp
            refine (HKD.out _).mono ?_; rintro e w2 ⟨rfl, rfl⟩
            refine hK.out _ _ ?_ (fun hHeld => ?_)
            · exact ⟨r0, r1⟩
            clear hK K
            (try simp only [Act.put, List.setIfInBounds_toArray, List.set_cons_zero, List.set_cons_succ, List.getElem_toArray, List.getElem_cons_zero, List.getElem_cons_succ])
            refine wpAnyH_ready (rs := [6]) (by kernel_rfl) (by simp) ?_
            refine AllReadyH.cons (o := _) rfl (fun K hK => ?_) AllReadyH.nil
            · (try simp only [List.getElem_toArray, List.getElem_cons_zero, List.getElem_cons_succ])
              go_simp
              refine hK.out _ _ ?_ (fun hHeld => ?_)
              · exact ⟨r0, r1⟩
              clear hK K
              (try simp only [Act.put, List.setIfInBounds_toArray, List.set_cons_zero, List.set_cons_succ, List.getElem_toArray, List.getElem_cons_zero, List.getElem_cons_succ])
              refine wpAnyH_take (i := 12) (oi := _) (v := ?vz12_18) rfl (by kernel_rfl) (by kernel_rfl) (by kernel_rfl) (fun _ _ _ h => h) (Or.inl ⟨by rfl, ?hyz12_18⟩) (by assumption) ?restz12_18
              case hyz12_18 => (intro w hSw; (try dsimp only at hSw); (try simp only [List.getElem_toArray, List.getElem_cons_zero, List.getElem_cons_succ]); go_simp; (try with_reducible rfl))
              (try simp only [Act.put, List.setIfInBounds_toArray, List.set_cons_zero, List.set_cons_succ, List.getElem_toArray, List.getElem_cons_zero, List.getElem_cons_succ])
              refine wpAnyH_take (i := 13) (oi := _) (v := ?vz13_19) rfl (by kernel_rfl) (by kernel_rfl) (by kernel_rfl) (fun _ _ _ h => h) (Or.inl ⟨by rfl, ?hyz13_19⟩) (by assumption) ?restz13_19
              case hyz13_19 => (intro w hSw; (try dsimp only at hSw); (try simp only [List.getElem_toArray, List.getElem_cons_zero, List.getElem_cons_succ]); go_simp; (try with_reducible rfl))
              (try simp only [Act.put, List.setIfInBounds_toArray, List.set_cons_zero, List.set_cons_succ, List.getElem_toArray, List.getElem_cons_zero, List.getElem_cons_succ])
              refine wpAnyH_take (i := 14) (oi := _) (v := ?vz14_20) rfl (by kernel_rfl) (by kernel_rfl) (by kernel_rfl) (fun _ _ _ h => h) (Or.inl ⟨by rfl, ?hyz14_20⟩) (by assumption) ?restz14_20
              case hyz14_20 => (intro w hSw; (try dsimp only at hSw); (try simp only [List.getElem_toArray, List.getElem_cons_zero, List.getElem_cons_succ]); go_simp; (try with_reducible rfl))
              (try simp only [Act.put, List.setIfInBounds_toArray, List.set_cons_zero, List.set_cons_succ, List.getElem_toArray, List.getElem_cons_zero, List.getElem_cons_succ])
              refine wpAnyH_ready (rs := [18]) (by kernel_rfl) (by simp) ?_
              refine AllReadyH.cons (o := _) rfl (fun K hK => ?_) AllReadyH.nil
              · (try simp only [List.getElem_toArray, List.getElem_cons_zero, List.getElem_cons_succ])
                go_simp
                refine (esc_take p o B b1 A1 n1 c1 rs1 nx dd ch _ (HE1.out.keep ((Keep.refl (fun _ => False) wr).drew) (fun x => x)) (HA1.out.keep ((Keep.refl (fun _ => False) wr).drew) (fun _ _ x => x)) hpB hBr HC1.out.2.2 hb256 HC1.out.2.1 HD9.out (by omega)).mono ?_
                rintro e w3 ⟨A2, c2, rfl, h2, g2, k2⟩
                have HA2 := Lib.hid h2
                have HE2 := Lib.hid g2
                have K2 : Hid (PStep p o A1 wr A2 w3) := Lib.hid ⟨⟨k2.keep.os, k2.keep.tape, k2.keep.output, k2.keep.size, k2.keep.block⟩, k2.at', k2.out⟩
                have HRF : Hid (RulesAt w3 R true) := Lib.hid (R1.out.keep (HP1.out.trans K2.out).keep (fun e => e.elim (fun e => hRp e) (fun e => by simp [blk] at e)))
                clear h2 g2 k2
                refine hK.out _ _ ?_ (fun hHeld => ?_)
                · exact ⟨HR0.out w3 HRF.out, HR1.out w3 HRF.out⟩
                clear hK K
                (try simp only [Act.put, List.setIfInBounds_toArray, List.set_cons_zero, List.set_cons_succ, List.getElem_toArray, List.getElem_cons_zero, List.getElem_cons_succ])
                refine wpAnyH_take (i := 19) (oi := _) (v := ?vz19_21) rfl (by kernel_rfl) (by kernel_rfl) (by kernel_rfl) (fun _ _ _ h => h) (Or.inl ⟨by rfl, ?hyz19_21⟩) (by assumption) ?restz19_21
                case hyz19_21 => (intro w hSw; (try dsimp only at hSw); (try simp only [List.getElem_toArray, List.getElem_cons_zero, List.getElem_cons_succ]); go_simp; (try with_reducible rfl))
                (try simp only [Act.put, List.setIfInBounds_toArray, List.set_cons_zero, List.set_cons_succ, List.getElem_toArray, List.getElem_cons_zero, List.getElem_cons_succ])
                refine wpAnyH_done (by kernel_rfl) ?_ _
                refine NoPanic.normal ?_
                have HF4 : Hid (FedE p o B R b w1 (.slice A2 (n1 + (stepE b1 nx dd ch).2.length : Nat) c2) (preU ts k (j + 1)) w3) := by
                  show FedE _ _ _ _ _ _ _ _ _
                  rw [HN.out]
                  unfold FedE
                  rw [feedE_snoc, HST.out]
                  simp only
                  rw [HBE.out]
                  refine ⟨A2, _, c2, rfl, ?_, HA2.out, HE2.out, HP1.out.trans K2.out⟩
                  rw [List.length_append, HN1.out]
                clear hHeld
                go_wp2_with fail
                go_roundw
                case rel => exact ⟨j + 1, by go_num, by omega, HF4⟩
                case measure => simp [intOf]; omega
        · have ej : j = x.size := by omega
          have HF3 : Hid (FedE p o B R b w1 u6 (preU ts (k + 1) 0) wr) := by
            show FedE _ _ _ _ _ _ _ _ _
            rw [← preU_row HX.out, ← ej]; exact HF2.out
          clear ej
          go_wp2_with fail
          go_roundw
          case rel => exact ⟨k + 1, by go_num, by omega, HF3⟩
          case measure => simp [intOf]; omega
    · have ek : k = n := by omega
      have HF3 : Hid (FedE p o B R b w1 u6 (preU ts n 0) wo) := by
        show FedE _ _ _ _ _ _ _ _ _
        rw [← ek]; exact HF.out
      clear ek
      go_wp2_with fail
      go_ret
      exact ⟨B, _, w1, hwB, rfl, K1.out, HF3.out⟩


def rulesCs : Array Value := #[.int .u32 0, .int .i32 0, .int .u32 0] ++ u8a (List.replicate 360 0)
theorem rules_built : Try.prog.built 76 [] = some rulesCs := by kernel_rfl
theorem pre3_0 (a b c : Value) (x : Array Value) : (#[a, b, c] ++ x)[0]? = some a ∧ (#[a, b, c] ++ x)[1]? = some b := by
  constructor <;> simp [Array.getElem?_append]
theorem pre3_at (a b c : Value) (x : Array Value) (i : Nat) : (#[a, b, c] ++ x)[3 + i]? = x[i]? := by
  rw [Array.getElem?_append_right (by simp)]
  congr 1
  simp
theorem rep_getD (n i : Nat) : (List.replicate n 0).getD i 0 = 0 := by
  rw [List.getD_eq_getElem?_getD, List.getElem?_replicate]
  split <;> rfl
theorem rulesCs_at (i : Nat) (h : i < 360) : rulesCs[3 + i]? = some (.int .u8 0) := by
  unfold rulesCs
  rw [pre3_at, u8a_at _ _ (by rw [List.length_replicate]; exact h), rep_getD]
  rfl
theorem rules_new (w : World) : RulesAt (w.alloc (.cells rulesCs 76)) w.heap.size false :=
  ⟨Cell.box 0 (pre3_0 _ _ _ _).1, Cell.box 1 (pre3_0 _ _ _ _).2, fun i hi => ⟨_, Cell.box (3 + i) (rulesCs_at i hi), fun e => by cases e⟩⟩
theorem EscC.span1 {w w' : World} {p o : Nat} {b : BP} (h : EscC w p o b) (k : SpanP p o (o + 1) w w') : EscC w' p o b :=
  ⟨k.cell h.s (by omega), h.u.span k (by omega), h.g.span k (by omega)⟩

set_option maxRecDepth 100000 in
set_option maxHeartbeats 3200000 in
/-- Feed, the first time. -/
theorem esc_feed_first (p o : Nat) (b : BP) (q : PL) (hal : AlikeE b q) (A : Option Addr) (n c : Nat) (ts : List ByteArray) (w : World) (h : EscC w p o b) (hr : Cell w p o (.pointer none))
    (hs : Src w A n (ts.map Value.string)) (hA : 0 < n → blk A ≠ some p) (hn : n ≤ 100000000) (hsum : sum ts ≤ 100000000) (hcm : b.came ≤ 100000000) :
    Calls Try.prog 12 #[.pointer (some ⟨p, o, none⟩), .slice A n c] w fun e w' => ∃ R B v w1, w.heap.size ≤ B ∧ w.heap.size ≤ R ∧ e = .returned v ∧ (Cell w1 p o (.pointer (some ⟨R, 0, none⟩)) ∧ RulesAt w1 R true ∧ SpanP p o (o + 1) w w1) ∧ FedE p o B R b w1 v (preU ts n 0) w' := by
  have hl := Lib.hid (show ts.length = n from by have := hs.1; rwa [List.length_map] at this)
  have cr := hr.1
  have fr := hr.2
  have H := Lib.hid h
  have HS := Lib.hid hs
  have HA := Lib.hid hA
  have HSUM := Lib.hid hsum
  have HAL := Lib.hid hal
  have HCM := Lib.hid hcm
  have hpl := h.lt
  have HCR := Lib.hid hr
  have HU := Lib.hid h.u.ok
  obtain ⟨CS, hCS⟩ : ∃ CS, CS = rulesCs := ⟨_, rfl⟩
  have HBT : Hid (Try.prog.built 76 [] = some CS) := Lib.hid (by rw [hCS]; exact rules_built)
  obtain ⟨R, hR⟩ : ∃ R, R = w.heap.size := ⟨_, rfl⟩
  have hRp : R ≠ p := by omega
  have hwR : w.heap.size ≤ R := by omega
  obtain ⟨W1, hW1⟩ : ∃ W1 : World, W1 = (w.setCell ⟨p, o, none⟩ (.pointer (some ⟨R, 0, none⟩))).alloc (.cells CS 76) := ⟨_, rfl⟩
  have SW : Hid (SpanP p o (o + 1) w W1) := Lib.hid (by rw [hW1]; exact ((SpanP.refl p o (o + 1) w).set o (by omega) (by omega) _).below (by simpa [World.setCell] using hpl) ((Below.refl _ _).alloc (Nat.le_refl _) _))
  have HRW : Hid (RulesAt W1 R false) := Lib.hid (by
    have := rules_new (w.setCell ⟨p, o, none⟩ (.pointer (some ⟨R, 0, none⟩)))
    rw [show (w.setCell ⟨p, o, none⟩ (.pointer (some ⟨R, 0, none⟩))).heap.size = R from by simp [World.setCell, hR]] at this
    rw [hW1, hCS]; exact this)
  have HCW : Hid (Cell W1 p o (.pointer (some ⟨R, 0, none⟩))) := Lib.hid (by rw [hW1]; exact (hr.set _).alloc _)
  have cW := HCW.out.1
  clear h hr hs hA hsum hal hcm hCS
  go_enter Try.func12, Try.ntmps12
  go_upto_region 5 with (with_reducible refine wpList_built rfl 76 #[] rfl CS (by simp only [List.map_toArray, List.map_nil]; exact HBT.out) ?_)
  rw [← hR, ← hW1]
  clear hW1 hR cr fr
  go_wp2_with fail
  refine (rows_first R W1 HRW.out).mono ?_
  rintro e w1 ⟨rfl, hr1, k1⟩
  have R1 := Lib.hid hr1
  have SW1 : Hid (SpanP p o (o + 1) w w1) := Lib.hid ⟨SW.out.keep.trans k1 (fun i hi e => by omega), fun i hi => ⟨(k1.cell (p := ⟨p, i, none⟩) (Nat.lt_of_lt_of_le hpl SW.out.keep.size) (fun e => hRp e.symm)).trans (SW.out.out i hi).1, (k1.frozen (p := ⟨p, i, none⟩) (Nat.lt_of_lt_of_le hpl SW.out.keep.size) (fun e => hRp e.symm)).trans (SW.out.out i hi).2⟩⟩
  obtain ⟨B, hB⟩ : ∃ B, B = w1.heap.size := ⟨_, rfl⟩
  have HBW : Hid (B = w1.heap.size) := hB
  have hwB : w.heap.size ≤ B := by rw [hB]; exact SW1.out.keep.size
  have HC1' := Lib.hid (HCW.out.keep k1 (by omega))
  have H1 := Lib.hid ((H.out.span1 SW1.out))
  have S1 := Lib.hid (HS.out.far SW1.out.keep (fun h0 i hi e => HA.out h0 (by rw [hi, e])))
  have F0 : Hid (FedE p o B R b w1 (.slice none 0 0) (preU ts 0 0) w1) := by
    show FedE _ _ _ _ _ _ _ _ _
    rw [preU_zero]
    exact ⟨none, 0, 0, rfl, rfl, ActsV.nil _ _, H1.out, PStep.refl _ _ _ _⟩
  have HLEN : Hid (∀ l : List Nat, l.length ≤ 100000000 → (feedE b l).2.length ≤ 300000000 ∧ (feedE b l).1.came < 1000000000 ∧ (feedE b l).1.Ok) := Lib.hid (fun l hl => by
    have h1 := len_feedE l b HU.out
    have h2 := HCM.out
    exact ⟨by omega, by omega, (feed_alikeE l HAL.out).1.ok⟩)
  clear k1 hB hr1
  go_wp2_with fail
  go_loopw [6, 29] (fun v i wr => ∃ k : Nat, i = .int .i64 k ∧ k ≤ n ∧ Hid (FedE p o B R b w1 v (preU ts k 0) wr)) (fun _ i _ => n - (intOf i).toNat)
  case atStart => exact ⟨0, rfl, by omega, F0⟩
  case round =>
    obtain ⟨k, rfl, hk, HF⟩ := hrel
    obtain ⟨wo, rfl⟩ : ∃ wo : World, wo = wr := ⟨_, rfl⟩
    by_cases hlt : k < n
    · obtain ⟨x, hx⟩ : ∃ x, ts[k]? = some x := ⟨ts[k]'(by rw [hl.out]; exact hlt), List.getElem?_eq_getElem _⟩
      have hsrc : Src wo A n (ts.map Value.string) := by
        obtain ⟨_, _, _, _, _, _, _, hps⟩ := HF.out
        exact S1.out.of_keep hps.keep (fun i hi e => e.elim (fun e => HA.out (by omega) (by rw [hi, e])) (fun e => by simp [blk] at e))
      obtain ⟨bb, off, rfl, hbl, hcs⟩ := hsrc.2 (by omega)
      have hcx : wo.cell? ⟨bb, off + k, none⟩ = some (.string x) := hcs k _ (by rw [List.getElem?_map, hx]; rfl)
      have hxs : x.size ≤ 100000000 := by
        have h1 := sum_mem (List.mem_of_getElem? hx)
        have := HSUM.out
        omega
      have hki : ((k : Int) < (n : Int)) := by omega
      have hk0 : (0 : Int) ≤ (k : Int) := by omega
      have HX := Lib.hid hx
      clear hcs hx hsrc
      go_wp2_with fail
      go_loopw [6, 35] (fun v i wr => ∃ j : Nat, i = .int .i64 j ∧ j ≤ x.size ∧ Hid (FedE p o B R b w1 v (preU ts k j) wr)) (fun _ i _ => x.size - (intOf i).toNat)
      case atStart => exact ⟨0, rfl, by omega, HF⟩
      case round =>
        obtain ⟨j, rfl, hj, HF2⟩ := hrel
        by_cases hlj : j < x.size
        · have hpre : (preU ts k j).length ≤ 100000000 := by
            have h2 := preU_len ts k j (by rw [List.getD_eq_getElem?_getD, HX.out, Option.getD_some]; omega)
            have h3 := HSUM.out
            omega
          have hcc := HLEN.out _ hpre
          have hb256 : x[j].toNat < 256 := x[j].toNat_lt
          have HN := Lib.hid (preU_next HX.out hlj)
          obtain ⟨ch, hch⟩ : ∃ ch : Nat, x[j].toNat = ch := ⟨_, rfl⟩
          rw [hch] at hb256 HN
          have hix : ∀ W : World, (Instr.index 9 (.string x) (.int .i64 (j : Int))).run Try.prog W = .ok (.int .u8 (ch : Int)) W := fun W => by
            rw [run_index_string W 9 x .i64 (j : Int) Try.underlying9]
            simp [hlj, hch]
          obtain ⟨A1, n1, c1, rfl, hn1, ha1, he1, hp1⟩ := HF2.out
          generalize hst : feedE b (preU ts k j) = st at hcc hn1 ha1 he1
          obtain ⟨b1, rs1⟩ := st
          have HST := Lib.hid hst
          have HA1 := Lib.hid ha1
          have HE1 := Lib.hid he1
          have HP1 := Lib.hid hp1
          have HC1 := Lib.hid hcc
          have hs12 : b1.s ≤ 11 := hcc.2.2.s
          have hn1' : n1 ≤ 300000000 := by rw [hn1]; exact hcc.1
          have HN1 := Lib.hid hn1
          have hkl := kindL_le ch
          obtain ⟨kd, hkd⟩ : ∃ kd, kindL ch = kd := ⟨_, rfl⟩
          rw [hkd] at hkl
          have HKD := Lib.hid (fun W => hkd ▸ esc_kindOf ch W)
          have HD9 : Hid (deedE b1.s kd = 9 → 48 ≤ ch ∧ ch ≤ 57) := Lib.hid (fun e => deed9 b1.s ch hs12 (by rw [hkd]; exact e))
          have HBE : Hid (byteE b1 ch = stepE b1 (nextE b1.s kd) (deedE b1.s kd) ch) := Lib.hid (by unfold byteE; rw [hkd])
          have hRr : RulesAt wr R true := R1.out.keep hp1.keep (fun e => e.elim (fun e => hRp e) (fun e => by simp [blk] at e))
          obtain ⟨ss, hss⟩ : ∃ ss, b1.s = ss := ⟨_, rfl⟩
          obtain ⟨nx, hnx⟩ : ∃ nx, nextE ss kd = nx := ⟨_, rfl⟩
          obtain ⟨dd, hdd⟩ : ∃ dd, deedE ss kd = dd := ⟨_, rfl⟩
          rw [hss] at hs12 HD9 HBE
          rw [hdd] at HD9
          rw [hnx, hdd] at HBE
          have r0 : wr.cell? ⟨R, 3 + ss * 30 + kd * 2, none⟩ = some (.int .u8 (nx : Int)) := by
            rw [← hnx, Nat.add_assoc]; exact hRr.at' (by omega)
          have r1 : wr.cell? ⟨R, 3 + ss * 30 + kd * 2 + 1, none⟩ = some (.int .u8 (dd : Int)) := by
            rw [← hdd, show 3 + ss * 30 + kd * 2 + 1 = 3 + (ss * 30 + kd * 2 + 1) by omega]; exact hRr.at' (by omega)
          have HR0 : Hid (∀ W : World, RulesAt W R true → W.cell? ⟨R, 3 + ss * 30 + kd * 2, none⟩ = some (.int .u8 (nx : Int))) := Lib.hid (fun W h => by rw [← hnx, Nat.add_assoc]; exact h.at' (by omega))
          have HR1 : Hid (∀ W : World, RulesAt W R true → W.cell? ⟨R, 3 + ss * 30 + kd * 2 + 1, none⟩ = some (.int .u8 (dd : Int))) := Lib.hid (fun W h => by rw [← hdd, show 3 + ss * 30 + kd * 2 + 1 = 3 + (ss * 30 + kd * 2 + 1) by omega]; exact h.at' (by omega))
          have e1 : wr.cell? ⟨p, o + 1, none⟩ = some (.int .u8 (ss : Int)) := by rw [← hss]; exact he1.s.1
          have hs0 : (0 : Int) ≤ (ss : Int) := by omega
          have hs1 : (ss : Int) < 12 := by omega
          have hk00 : (0 : Int) ≤ (kd : Int) := by omega
          have hk15 : (kd : Int) < 15 := by omega
          have hj0 : (0 : Int) ≤ (j : Int) := by omega
          have hjx : (j : Int) < (x.size : Int) := by omega
          have hpB : p < B := by omega
          have hBr : B ≤ wr.heap.size := by rw [HBW.out]; exact hp1.keep.size
          clear hst hkd hss hnx hdd hn1 ha1 he1 hp1 hcc hRr hpre hch HF2
          go_wp2_with fail
          refine wp_region_noPanic ?_
          refine wp_region_held_drew (S := fun w' => w'.cell? ⟨R, 3 + ss * 30 + kd * 2, none⟩ = some (.int .u8 (nx : Int)) ∧ w'.cell? ⟨R, 3 + ss * 30 + kd * 2 + 1, none⟩ = some (.int .u8 (dd : Int))) (by kernel_rfl) ⟨r0, r1⟩ (fun hHeld => ?_)
          refine wpAnyH_take (i := 0) (oi := _) (v := ?vz0_1) rfl (by kernel_rfl) (by kernel_rfl) (by kernel_rfl) (fun _ _ _ h => h) (Or.inl ⟨by rfl, ?hyz0_1⟩) (by assumption) ?restz0_1
          case hyz0_1 => (intro w hSw; (try dsimp only at hSw); (try simp only [List.getElem_toArray, List.getElem_cons_zero, List.getElem_cons_succ]); go_simp; (try with_reducible rfl))
          (try simp only [Act.put, List.setIfInBounds_toArray, List.set_cons_zero, List.set_cons_succ, List.getElem_toArray, List.getElem_cons_zero, List.getElem_cons_succ])
          refine wpAnyH_take (i := 1) (oi := _) (v := ?vz1_2) rfl (by kernel_rfl) (by kernel_rfl) (by kernel_rfl) (fun _ _ _ h => h) (Or.inl ⟨by rfl, ?hyz1_2⟩) (by assumption) ?restz1_2
          case hyz1_2 => (intro w hSw; (try dsimp only at hSw); (try simp only [List.getElem_toArray, List.getElem_cons_zero, List.getElem_cons_succ]); go_simp; (try with_reducible rfl))
          (try simp only [Act.put, List.setIfInBounds_toArray, List.set_cons_zero, List.set_cons_succ, List.getElem_toArray, List.getElem_cons_zero, List.getElem_cons_succ])
          refine wpAnyH_take (i := 2) (oi := _) (v := ?vz2_3) rfl (by kernel_rfl) (by kernel_rfl) (by kernel_rfl) (fun _ _ _ h => h) (Or.inl ⟨by rfl, ?hyz2_3⟩) (by assumption) ?restz2_3
          case hyz2_3 => (intro w hSw; (try dsimp only at hSw); (try simp only [List.getElem_toArray, List.getElem_cons_zero, List.getElem_cons_succ]); go_simp; (try with_reducible rfl))
          (try simp only [Act.put, List.setIfInBounds_toArray, List.set_cons_zero, List.set_cons_succ, List.getElem_toArray, List.getElem_cons_zero, List.getElem_cons_succ])
          refine wpAnyH_take (i := 3) (oi := _) (v := ?vz3_4) rfl (by kernel_rfl) (by kernel_rfl) (by kernel_rfl) (fun _ _ _ h => h) (Or.inl ⟨by rfl, ?hyz3_4⟩) (by assumption) ?restz3_4
          case hyz3_4 => (intro w hSw; (try dsimp only at hSw); (try simp only [List.getElem_toArray, List.getElem_cons_zero, List.getElem_cons_succ]); go_simp; (try with_reducible rfl))
          (try simp only [Act.put, List.setIfInBounds_toArray, List.set_cons_zero, List.set_cons_succ, List.getElem_toArray, List.getElem_cons_zero, List.getElem_cons_succ])
          refine wpAnyH_take (i := 7) (oi := _) (v := ?vz7_5) rfl (by kernel_rfl) (by kernel_rfl) (by kernel_rfl) (fun _ _ _ h => h) (Or.inl ⟨by rfl, ?hyz7_5⟩) (by assumption) ?restz7_5
          case hyz7_5 => (intro w hSw; (try dsimp only at hSw); (try simp only [List.getElem_toArray, List.getElem_cons_zero, List.getElem_cons_succ]); go_simp; (try with_reducible rfl))
          (try simp only [Act.put, List.setIfInBounds_toArray, List.set_cons_zero, List.set_cons_succ, List.getElem_toArray, List.getElem_cons_zero, List.getElem_cons_succ])
          refine wpAnyH_take (i := 8) (oi := _) (v := ?vz8_6) rfl (by kernel_rfl) (by kernel_rfl) (by kernel_rfl) (fun _ _ _ h => h) (Or.inl ⟨by rfl, ?hyz8_6⟩) (by assumption) ?restz8_6
          case hyz8_6 => (intro w hSw; (try dsimp only at hSw); (try simp only [List.getElem_toArray, List.getElem_cons_zero, List.getElem_cons_succ]); go_simp; (try with_reducible rfl))
          (try simp only [Act.put, List.setIfInBounds_toArray, List.set_cons_zero, List.set_cons_succ, List.getElem_toArray, List.getElem_cons_zero, List.getElem_cons_succ])
          refine wpAnyH_take (i := 15) (oi := _) (v := ?vz15_7) rfl (by kernel_rfl) (by kernel_rfl) (by kernel_rfl) (fun _ _ _ h => h) (Or.inl ⟨by rfl, ?hyz15_7⟩) (by assumption) ?restz15_7
          case hyz15_7 => (intro w hSw; (try dsimp only at hSw); (try simp only [List.getElem_toArray, List.getElem_cons_zero, List.getElem_cons_succ]); go_simp; (try with_reducible rfl))
          (try simp only [Act.put, List.setIfInBounds_toArray, List.set_cons_zero, List.set_cons_succ, List.getElem_toArray, List.getElem_cons_zero, List.getElem_cons_succ])
          refine wpAnyH_take (i := 16) (oi := _) (v := ?vz16_8) rfl (by kernel_rfl) (by kernel_rfl) (by kernel_rfl) (fun _ _ _ h => h) (Or.inl ⟨by rfl, ?hyz16_8⟩) (by assumption) ?restz16_8
          case hyz16_8 => (intro w hSw; (try dsimp only at hSw); (try simp only [List.getElem_toArray, List.getElem_cons_zero, List.getElem_cons_succ]); go_simp; (try with_reducible rfl))
          (try simp only [Act.put, List.setIfInBounds_toArray, List.set_cons_zero, List.set_cons_succ, List.getElem_toArray, List.getElem_cons_zero, List.getElem_cons_succ])
          refine wpAnyH_take (i := 4) (oi := _) (v := ?vz4_9) rfl (by kernel_rfl) (by kernel_rfl) (by kernel_rfl) (fun _ _ _ h => h) (Or.inl ⟨by rfl, ?hyz4_9⟩) (by assumption) ?restz4_9
          case hyz4_9 => (intro w hSw; (try dsimp only at hSw); (try simp only [List.getElem_toArray, List.getElem_cons_zero, List.getElem_cons_succ]); go_simp; (try with_reducible rfl))
          (try simp only [Act.put, List.setIfInBounds_toArray, List.set_cons_zero, List.set_cons_succ, List.getElem_toArray, List.getElem_cons_zero, List.getElem_cons_succ])
          refine wpAnyH_take (i := 9) (oi := _) (v := ?vz9_10) rfl (by kernel_rfl) (by kernel_rfl) (by kernel_rfl) (fun _ _ _ h => h) (Or.inl ⟨by rfl, ?hyz9_10⟩) (by assumption) ?restz9_10
          case hyz9_10 => (intro w hSw; (try dsimp only at hSw); (try simp only [List.getElem_toArray, List.getElem_cons_zero, List.getElem_cons_succ]); go_simp; (try with_reducible rfl))
          (try simp only [Act.put, List.setIfInBounds_toArray, List.set_cons_zero, List.set_cons_succ, List.getElem_toArray, List.getElem_cons_zero, List.getElem_cons_succ])
          refine wpAnyH_take (i := 11) (oi := _) (v := ?vz11_11) rfl (by kernel_rfl) (by kernel_rfl) (by kernel_rfl) (fun _ _ _ h => h) (Or.inl ⟨by rfl, ?hyz11_11⟩) (by assumption) ?restz11_11
          case hyz11_11 => (intro w hSw; (try dsimp only at hSw); (try simp only [List.getElem_toArray, List.getElem_cons_zero, List.getElem_cons_succ]); go_simp; (try with_reducible rfl))
          (try simp only [Act.put, List.setIfInBounds_toArray, List.set_cons_zero, List.set_cons_succ, List.getElem_toArray, List.getElem_cons_zero, List.getElem_cons_succ])
          refine wpAnyH_take (i := 17) (oi := _) (v := ?vz17_12) rfl (by kernel_rfl) (by kernel_rfl) (by kernel_rfl) (fun _ _ _ h => h) (Or.inl ⟨by rfl, ?hyz17_12⟩) (by assumption) ?restz17_12
          case hyz17_12 => (intro w hSw; (try dsimp only at hSw); (try simp only [List.getElem_toArray, List.getElem_cons_zero, List.getElem_cons_succ]); go_simp; (try with_reducible rfl))
          (try simp only [Act.put, List.setIfInBounds_toArray, List.set_cons_zero, List.set_cons_succ, List.getElem_toArray, List.getElem_cons_zero, List.getElem_cons_succ])
          refine wpAnyH_take (i := 5) (oi := _) (v := ?vz5_13) rfl (by kernel_rfl) (by kernel_rfl) (by kernel_rfl) (fun _ _ _ h => h) (Or.inl ⟨by rfl, ?hyz5_13⟩) (by assumption) ?restz5_13
          case hyz5_13 => (intro w hSw; (try dsimp only at hSw); (try simp only [List.getElem_toArray, List.getElem_cons_zero, List.getElem_cons_succ]); go_simp; (try with_reducible rfl))
          (try simp only [Act.put, List.setIfInBounds_toArray, List.set_cons_zero, List.set_cons_succ, List.getElem_toArray, List.getElem_cons_zero, List.getElem_cons_succ])
          refine wpAnyH_ready (rs := [6, 10]) (by kernel_rfl) (by simp) ?_
          refine AllReadyH.cons (o := _) rfl (fun K hK => ?_) (AllReadyH.cons (o := _) rfl (fun K hK => ?_) AllReadyH.nil)
          · (try simp only [List.getElem_toArray, List.getElem_cons_zero, List.getElem_cons_succ])
            go_simp
            refine hK.out _ _ ?_ (fun hHeld => ?_)
            · exact ⟨r0, r1⟩
            clear hK K
            (try simp only [Act.put, List.setIfInBounds_toArray, List.set_cons_zero, List.set_cons_succ, List.getElem_toArray, List.getElem_cons_zero, List.getElem_cons_succ])
            refine wpAnyH_take (i := 12) (oi := _) (v := ?vz12_14) rfl (by kernel_rfl) (by kernel_rfl) (by kernel_rfl) (fun _ _ _ h => h) (Or.inl ⟨by rfl, ?hyz12_14⟩) (by assumption) ?restz12_14
            case hyz12_14 => (intro w hSw; (try dsimp only at hSw); (try simp only [List.getElem_toArray, List.getElem_cons_zero, List.getElem_cons_succ]); go_simp; (try with_reducible rfl))
            (try simp only [Act.put, List.setIfInBounds_toArray, List.set_cons_zero, List.set_cons_succ, List.getElem_toArray, List.getElem_cons_zero, List.getElem_cons_succ])
            refine wpAnyH_ready (rs := [10]) (by kernel_rfl) (by simp) ?_
            refine AllReadyH.cons (o := _) rfl (fun K hK => ?_) AllReadyH.nil
            · (try simp only [List.getElem_toArray, List.getElem_cons_zero, List.getElem_cons_succ])
              go_simp
              refine (HKD.out _).mono ?_; rintro e w2 ⟨rfl, rfl⟩
              refine hK.out _ _ ?_ (fun hHeld => ?_)
              · exact ⟨r0, r1⟩
              clear hK K
              (try simp only [Act.put, List.setIfInBounds_toArray, List.set_cons_zero, List.set_cons_succ, List.getElem_toArray, List.getElem_cons_zero, List.getElem_cons_succ])
              refine wpAnyH_take (i := 13) (oi := _) (v := ?vz13_15) rfl (by kernel_rfl) (by kernel_rfl) (by kernel_rfl) (fun _ _ _ h => h) (Or.inl ⟨by rfl, ?hyz13_15⟩) (by assumption) ?restz13_15
              case hyz13_15 => (intro w hSw; (try dsimp only at hSw); (try simp only [List.getElem_toArray, List.getElem_cons_zero, List.getElem_cons_succ]); go_simp; (try with_reducible rfl))
              (try simp only [Act.put, List.setIfInBounds_toArray, List.set_cons_zero, List.set_cons_succ, List.getElem_toArray, List.getElem_cons_zero, List.getElem_cons_succ])
              refine wpAnyH_take (i := 14) (oi := _) (v := ?vz14_16) rfl (by kernel_rfl) (by kernel_rfl) (by kernel_rfl) (fun _ _ _ h => h) (Or.inl ⟨by rfl, ?hyz14_16⟩) (by assumption) ?restz14_16
              case hyz14_16 => (intro w hSw; (try dsimp only at hSw); (try simp only [List.getElem_toArray, List.getElem_cons_zero, List.getElem_cons_succ]); go_simp; (try with_reducible rfl))
              (try simp only [Act.put, List.setIfInBounds_toArray, List.set_cons_zero, List.set_cons_succ, List.getElem_toArray, List.getElem_cons_zero, List.getElem_cons_succ])
              refine wpAnyH_ready (rs := [18]) (by kernel_rfl) (by simp) ?_
              refine AllReadyH.cons (o := _) rfl (fun K hK => ?_) AllReadyH.nil
              · (try simp only [List.getElem_toArray, List.getElem_cons_zero, List.getElem_cons_succ])
                go_simp
                refine (esc_take p o B b1 A1 n1 c1 rs1 nx dd ch _ (HE1.out.keep ((Keep.refl (fun _ => False) wr).drew) (fun x => x)) (HA1.out.keep ((Keep.refl (fun _ => False) wr).drew) (fun _ _ x => x)) hpB hBr HC1.out.2.2 hb256 HC1.out.2.1 HD9.out (by omega)).mono ?_
                rintro e w3 ⟨A2, c2, rfl, h2, g2, k2⟩
                have HA2 := Lib.hid h2
                have HE2 := Lib.hid g2
                have K2 : Hid (PStep p o A1 wr A2 w3) := Lib.hid ⟨⟨k2.keep.os, k2.keep.tape, k2.keep.output, k2.keep.size, k2.keep.block⟩, k2.at', k2.out⟩
                have HRF : Hid (RulesAt w3 R true) := Lib.hid (R1.out.keep (HP1.out.trans K2.out).keep (fun e => e.elim (fun e => hRp e) (fun e => by simp [blk] at e)))
                clear h2 g2 k2
                refine hK.out _ _ ?_ (fun hHeld => ?_)
                · exact ⟨HR0.out w3 HRF.out, HR1.out w3 HRF.out⟩
                clear hK K
                (try simp only [Act.put, List.setIfInBounds_toArray, List.set_cons_zero, List.set_cons_succ, List.getElem_toArray, List.getElem_cons_zero, List.getElem_cons_succ])
                refine wpAnyH_take (i := 19) (oi := _) (v := ?vz19_17) rfl (by kernel_rfl) (by kernel_rfl) (by kernel_rfl) (fun _ _ _ h => h) (Or.inl ⟨by rfl, ?hyz19_17⟩) (by assumption) ?restz19_17
                case hyz19_17 => (intro w hSw; (try dsimp only at hSw); (try simp only [List.getElem_toArray, List.getElem_cons_zero, List.getElem_cons_succ]); go_simp; (try with_reducible rfl))
                (try simp only [Act.put, List.setIfInBounds_toArray, List.set_cons_zero, List.set_cons_succ, List.getElem_toArray, List.getElem_cons_zero, List.getElem_cons_succ])
                refine wpAnyH_done (by kernel_rfl) ?_ _
                refine NoPanic.normal ?_
                have HF4 : Hid (FedE p o B R b w1 (.slice A2 (n1 + (stepE b1 nx dd ch).2.length : Nat) c2) (preU ts k (j + 1)) w3) := by
                  show FedE _ _ _ _ _ _ _ _ _
                  rw [HN.out]
                  unfold FedE
                  rw [feedE_snoc, HST.out]
                  simp only
                  rw [HBE.out]
                  refine ⟨A2, _, c2, rfl, ?_, HA2.out, HE2.out, HP1.out.trans K2.out⟩
                  rw [List.length_append, HN1.out]
                clear hHeld
                go_wp2_with fail
                go_roundw
                case rel => exact ⟨j + 1, by go_num, by omega, HF4⟩
                case measure => simp [intOf]; omega
          · (try simp only [List.getElem_toArray, List.getElem_cons_zero, List.getElem_cons_succ])
            go_simp
            refine (HKD.out _).mono ?_; rintro e w2 ⟨rfl, rfl⟩
            refine hK.out _ _ ?_ (fun hHeld => ?_)
            · exact ⟨r0, r1⟩
            clear hK K
            (try simp only [Act.put, List.setIfInBounds_toArray, List.set_cons_zero, List.set_cons_succ, List.getElem_toArray, List.getElem_cons_zero, List.getElem_cons_succ])
            refine wpAnyH_ready (rs := [6]) (by kernel_rfl) (by simp) ?_
            refine AllReadyH.cons (o := _) rfl (fun K hK => ?_) AllReadyH.nil
            · (try simp only [List.getElem_toArray, List.getElem_cons_zero, List.getElem_cons_succ])
              go_simp
              refine hK.out _ _ ?_ (fun hHeld => ?_)
              · exact ⟨r0, r1⟩
              clear hK K
              (try simp only [Act.put, List.setIfInBounds_toArray, List.set_cons_zero, List.set_cons_succ, List.getElem_toArray, List.getElem_cons_zero, List.getElem_cons_succ])
              refine wpAnyH_take (i := 12) (oi := _) (v := ?vz12_18) rfl (by kernel_rfl) (by kernel_rfl) (by kernel_rfl) (fun _ _ _ h => h) (Or.inl ⟨by rfl, ?hyz12_18⟩) (by assumption) ?restz12_18
              case hyz12_18 => (intro w hSw; (try dsimp only at hSw); (try simp only [List.getElem_toArray, List.getElem_cons_zero, List.getElem_cons_succ]); go_simp; (try with_reducible rfl))
              (try simp only [Act.put, List.setIfInBounds_toArray, List.set_cons_zero, List.set_cons_succ, List.getElem_toArray, List.getElem_cons_zero, List.getElem_cons_succ])
              refine wpAnyH_take (i := 13) (oi := _) (v := ?vz13_19) rfl (by kernel_rfl) (by kernel_rfl) (by kernel_rfl) (fun _ _ _ h => h) (Or.inl ⟨by rfl, ?hyz13_19⟩) (by assumption) ?restz13_19
              case hyz13_19 => (intro w hSw; (try dsimp only at hSw); (try simp only [List.getElem_toArray, List.getElem_cons_zero, List.getElem_cons_succ]); go_simp; (try with_reducible rfl))
              (try simp only [Act.put, List.setIfInBounds_toArray, List.set_cons_zero, List.set_cons_succ, List.getElem_toArray, List.getElem_cons_zero, List.getElem_cons_succ])
              refine wpAnyH_take (i := 14) (oi := _) (v := ?vz14_20) rfl (by kernel_rfl) (by kernel_rfl) (by kernel_rfl) (fun _ _ _ h => h) (Or.inl ⟨by rfl, ?hyz14_20⟩) (by assumption) ?restz14_20
              case hyz14_20 => (intro w hSw; (try dsimp only at hSw); (try simp only [List.getElem_toArray, List.getElem_cons_zero, List.getElem_cons_succ]); go_simp; (try with_reducible rfl))
              (try simp only [Act.put, List.setIfInBounds_toArray, List.set_cons_zero, List.set_cons_succ, List.getElem_toArray, List.getElem_cons_zero, List.getElem_cons_succ])
              refine wpAnyH_ready (rs := [18]) (by kernel_rfl) (by simp) ?_
              refine AllReadyH.cons (o := _) rfl (fun K hK => ?_) AllReadyH.nil
              · (try simp only [List.getElem_toArray, List.getElem_cons_zero, List.getElem_cons_succ])
                go_simp
                refine (esc_take p o B b1 A1 n1 c1 rs1 nx dd ch _ (HE1.out.keep ((Keep.refl (fun _ => False) wr).drew) (fun x => x)) (HA1.out.keep ((Keep.refl (fun _ => False) wr).drew) (fun _ _ x => x)) hpB hBr HC1.out.2.2 hb256 HC1.out.2.1 HD9.out (by omega)).mono ?_
                rintro e w3 ⟨A2, c2, rfl, h2, g2, k2⟩
                have HA2 := Lib.hid h2
                have HE2 := Lib.hid g2
                have K2 : Hid (PStep p o A1 wr A2 w3) := Lib.hid ⟨⟨k2.keep.os, k2.keep.tape, k2.keep.output, k2.keep.size, k2.keep.block⟩, k2.at', k2.out⟩
                have HRF : Hid (RulesAt w3 R true) := Lib.hid (R1.out.keep (HP1.out.trans K2.out).keep (fun e => e.elim (fun e => hRp e) (fun e => by simp [blk] at e)))
                clear h2 g2 k2
                refine hK.out _ _ ?_ (fun hHeld => ?_)
                · exact ⟨HR0.out w3 HRF.out, HR1.out w3 HRF.out⟩
                clear hK K
                (try simp only [Act.put, List.setIfInBounds_toArray, List.set_cons_zero, List.set_cons_succ, List.getElem_toArray, List.getElem_cons_zero, List.getElem_cons_succ])
                refine wpAnyH_take (i := 19) (oi := _) (v := ?vz19_21) rfl (by kernel_rfl) (by kernel_rfl) (by kernel_rfl) (fun _ _ _ h => h) (Or.inl ⟨by rfl, ?hyz19_21⟩) (by assumption) ?restz19_21
                case hyz19_21 => (intro w hSw; (try dsimp only at hSw); (try simp only [List.getElem_toArray, List.getElem_cons_zero, List.getElem_cons_succ]); go_simp; (try with_reducible rfl))
                (try simp only [Act.put, List.setIfInBounds_toArray, List.set_cons_zero, List.set_cons_succ, List.getElem_toArray, List.getElem_cons_zero, List.getElem_cons_succ])
                refine wpAnyH_done (by kernel_rfl) ?_ _
                refine NoPanic.normal ?_
                have HF4 : Hid (FedE p o B R b w1 (.slice A2 (n1 + (stepE b1 nx dd ch).2.length : Nat) c2) (preU ts k (j + 1)) w3) := by
                  show FedE _ _ _ _ _ _ _ _ _
                  rw [HN.out]
                  unfold FedE
                  rw [feedE_snoc, HST.out]
                  simp only
                  rw [HBE.out]
                  refine ⟨A2, _, c2, rfl, ?_, HA2.out, HE2.out, HP1.out.trans K2.out⟩
                  rw [List.length_append, HN1.out]
                clear hHeld
                go_wp2_with fail
                go_roundw
                case rel => exact ⟨j + 1, by go_num, by omega, HF4⟩
                case measure => simp [intOf]; omega
        · have ej : j = x.size := by omega
          have HF3 : Hid (FedE p o B R b w1 u6 (preU ts (k + 1) 0) wr) := by
            show FedE _ _ _ _ _ _ _ _ _
            rw [← preU_row HX.out, ← ej]; exact HF2.out
          clear ej
          go_wp2_with fail
          go_roundw
          case rel => exact ⟨k + 1, by go_num, by omega, HF3⟩
          case measure => simp [intOf]; omega
    · have ek : k = n := by omega
      have HF3 : Hid (FedE p o B R b w1 u6 (preU ts n 0) wo) := by
        show FedE _ _ _ _ _ _ _ _ _
        rw [← ek]; exact HF.out
      clear ek
      go_wp2_with fail
      go_ret
      exact ⟨R, B, _, w1, hwB, hwR, rfl, ⟨HC1'.out, R1.out, SW1.out⟩, HF3.out⟩

end Go.Proofs.Ythphnjilbpidgaa
