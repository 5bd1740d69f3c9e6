/- esc: what the laws ask of the document's parser, over lists. Own work. -/
import Derived.Test.YthphnjilbpidgaaEscL
namespace Go.Proofs.Ythphnjilbpidgaa
set_option linter.unusedVariables false
set_option linter.unusedSimpArgs false
open Go.RowKit

theorem byteP_0_27 : byteP (pAt 0) 27 = (pAt 1, []) := by kernel_rfl
theorem byteP_1_91 : byteP (pAt 1) 91 = (pAt 2, []) := by kernel_rfl
theorem byteP_1_93 : byteP (pAt 1) 93 = (pAt 3, []) := by kernel_rfl
theorem byteP_1_80 : byteP (pAt 1) 80 = (pAt 4, []) := by kernel_rfl
theorem open_csi (l : List Nat) : feedP (pAt 0) (27 :: 91 :: l) = feedP (pAt 2) l := by
  rw [feedP_cons, byteP_0_27, feedP_cons, byteP_1_91]; simp
theorem open_esc (l : List Nat) : feedP (pAt 0) (27 :: l) = feedP (pAt 1) l := by
  rw [feedP_cons, byteP_0_27]; simp

/-- Digits leave a csi one. -/
theorem csi_digits (l : List Nat) (h : ∀ c ∈ l, 48 ≤ c ∧ c ≤ 57) : ∀ p : PL, p.st = 2 → (feedP p l).1.st = 2 ∧ (feedP p l).2 = [] := by
  induction l with
  | nil => intro p hp; exact ⟨hp, rfl⟩
  | cons c r ih =>
    intro p hp
    obtain ⟨h1, h2⟩ := h c (by simp)
    have hb : (byteP p c).1.st = 2 ∧ (byteP p c).2 = [] := by
      rw [byteP_csi p hp c (by omega) (by omega)]
      unfold csiP
      rw [if_neg (by omega), if_neg (by omega)]
      split
      · exact ⟨hp, rfl⟩
      · exact ⟨hp, rfl⟩
    have hr := ih (fun x hx => h x (by simp [hx])) _ hb.1
    rw [feedP_cons, hb.2]
    exact ⟨hr.1, by simp [hr.2]⟩

/-- The end of a csi that is not wrong. -/
theorem csi_end (p : PL) (hs : p.st = 2) (hw : p.wrong = false) (c : Nat) (h1 : 64 ≤ c) (h2 : c ≤ 126) : byteP p c = (pAt 0, [eCsi p.mark (p.nums.take 8) p.inter c]) := by
  rw [byteP_csi p hs c (by omega) (by omega)]
  unfold csiP
  rw [if_neg (by omega), if_neg (by omega), if_neg (by omega), if_neg (by omega), if_neg (by omega), hw]
  rfl
theorem csi_end_wrong (p : PL) (hs : p.st = 2) (hw : p.wrong = true) (c : Nat) (h1 : 64 ≤ c) (h2 : c ≤ 126) : byteP p c = (pAt 0, []) := by
  rw [byteP_csi p hs c (by omega) (by omega)]
  unfold csiP
  rw [if_neg (by omega), if_neg (by omega), if_neg (by omega), if_neg (by omega), if_neg (by omega), hw]
  rfl
theorem esc_end (p : PL) (hs : p.st = 1) (hw : p.wrong = false) (c : Nat) (h1 : 64 ≤ c) (h2 : c ≤ 126) (hn : p.inter = [] → c ≠ 91 ∧ c ≠ 93 ∧ c ≠ 80) : byteP p c = (pAt 0, [eEscape p.inter c]) := by
  rw [byteP_esc p hs c (by omega) (by omega)]
  unfold escP
  rw [if_neg (by omega), if_neg (fun e => (hn e.2).1 e.1), if_neg (fun e => (hn e.2).2.1 e.1), if_neg (fun e => (hn e.2).2.2 e.1), hw]
  rfl
theorem esc_end_wrong (p : PL) (hs : p.st = 1) (hw : p.wrong = true) (c : Nat) (h1 : 64 ≤ c) (h2 : c ≤ 126) (hn : p.inter ≠ []) : byteP p c = (pAt 0, []) := by
  rw [byteP_esc p hs c (by omega) (by omega)]
  unfold escP
  rw [if_neg (by omega), if_neg (fun e => hn e.2), if_neg (fun e => hn e.2), if_neg (fun e => hn e.2), hw]
  rfl

theorem csi_tells (n : Nat) (hn : n ≤ 9999) : feedP (pAt 2) (decN n ++ [65]) = (pAt 0, [eCsi 0 [(n : Int)] [] 65]) := by
  rw [feedP_add, csi_number (pAt 2) rfl rfl [] rfl n, feedP_one]
  have h := csi_end { pAt 2 with first := false, any := true, nums := [] ++ [min (n : Int) 9999] } rfl rfl 65 (by omega) (by omega)
  simp only [h]
  have e : min (n : Int) 9999 = n := by omega
  simp [e, pAt]

def ctlL (n : Nat) : List Nat := 27 :: 91 :: (decN n ++ [65])
theorem ctl_whole (n : Nat) (hn : n ≤ 9999) : feedP (pAt 0) (ctlL n) = (pAt 0, [eCsi 0 [(n : Int)] [] 65]) := by
  unfold ctlL; rw [open_csi, csi_tells n hn]

theorem ctl_state (n k : Nat) (h1 : 1 ≤ k) (h2 : k < (ctlL n).length) : ((feedP (pAt 0) ((ctlL n).take k)).1.st = 1 ∨ (feedP (pAt 0) ((ctlL n).take k)).1.st = 2) ∧ (feedP (pAt 0) ((ctlL n).take k)).2 = [] := by
  unfold ctlL at *
  obtain ⟨j, rfl⟩ : ∃ j, k = j + 1 := ⟨k - 1, by omega⟩
  rcases j with _ | j
  · simp only [List.take_succ_cons, List.take_zero]
    rw [feedP_one, byteP_0_27]
    exact ⟨.inl rfl, rfl⟩
  · simp only [List.take_succ_cons]
    simp at h2
    rw [open_csi, List.take_append_of_le_length (by omega)]
    have := csi_digits ((decN n).take j) (fun c hc => decN_mem n c (List.mem_of_mem_take hc)) (pAt 2) rfl
    exact ⟨.inr this.1, this.2⟩

theorem control_fed (n c k : Nat) (hn : n ≤ 9999) (hc : c < 32) (h24 : c ≠ 24) (h26 : c ≠ 26) (h27 : c ≠ 27) (h1 : 1 ≤ k) (h2 : k < (ctlL n).length) :
    feedP (pAt 0) ((ctlL n).take k ++ ([c, 127] ++ (ctlL n).drop k)) = (pAt 0, [eControl c, eCsi 0 [(n : Int)] [] 65]) := by
  obtain ⟨hs, ha⟩ := ctl_state n k h1 h2
  have hw := ctl_whole n hn
  rw [← List.take_append_drop k (ctlL n), feedP_add, ha] at hw
  rw [feedP_add, ha]
  generalize (feedP (pAt 0) ((ctlL n).take k)).1 = q at *
  have e1 : (feedP q ((ctlL n).drop k)) = (pAt 0, [eCsi 0 [(n : Int)] [] 65]) := by
    have a := congrArg Prod.fst hw
    have b := congrArg Prod.snd hw
    simp at a b
    exact Prod.ext a b
  rw [List.cons_append, List.cons_append, List.nil_append, feedP_cons, byteP_control q hs c hc h24 h26 h27, feedP_cons, byteP_127 q hs, e1]
  rfl

/-- Bytes between. -/
theorem inters_fed (s : Nat) (hs : s = 1 ∨ s = 2) (b : Nat) (h1 : 32 ≤ b) (h2 : b ≤ 47) (n : Nat) :
    feedP (pAt s) (List.replicate n b) = ({ pAt s with first := decide (s = 2 ∧ n = 0), inter := List.replicate (min n 2) b, wrong := decide (2 < n) }, []) := by
  induction n with
  | zero => rcases hs with rfl | rfl <;> rfl
  | succ n ih =>
    rw [List.replicate_succ', feedP_add, ih, feedP_one]
    have hb : ∀ p : PL, p.st = s → byteP p b = (({ p with first := if s = 2 then false else p.first } : PL).more b, []) := fun p hp => by
      rcases hs with rfl | rfl
      · rw [byteP_esc p hp b (by omega) (by omega)]
        unfold escP
        rw [if_pos (by omega)]
        rfl
      · rw [byteP_csi p hp b (by omega) (by omega)]
        unfold csiP
        rw [if_pos (by omega)]
        rfl
    simp only
    rw [hb _ rfl]
    unfold PL.more
    by_cases hn : 2 ≤ n
    · have e1 : min n 2 = 2 := by omega
      have e2 : min (n + 1) 2 = 2 := by omega
      have e3 : (decide (2 < n + 1)) = true := by simp; omega
      rw [if_pos (by simp [e1])]
      rcases hs with rfl | rfl <;> simp [pAt, e1, e2, e3]
      all_goals omega
    · have e1 : min n 2 = n := by omega
      have e2 : min (n + 1) 2 = n + 1 := by omega
      have e3 : (decide (2 < n + 1)) = false := by simp; omega
      have e4 : (decide (2 < n)) = false := by simp; omega
      rw [if_neg (by simp [e1]; omega)]
      rcases hs with rfl | rfl <;> simp [pAt, e1, e2, e3, e4, ← List.replicate_succ']
      all_goals omega

theorem plain_107 : byteP (pAt 0) 107 = (pAt 0, [ePrint 107]) := byteP_plain 107 (by omega) (by omega)

/-- What an escape says, and a csi without numbers. -/
def interAct (csi : Bool) (i : List Nat) (f : Nat) : EAct := if csi = true then eCsi 0 [] i f else eEscape i f
theorem inter_fed (csi : Bool) (b f n : Nat) (h1 : 32 ≤ b) (h2 : b ≤ 47) (h3 : 64 ≤ f) (h4 : f ≤ 126) (hf : csi = false → n = 0 → f ≠ 91 ∧ f ≠ 93 ∧ f ≠ 80) :
    feedP (pAt 0) ((if csi = true then [27, 91] else [27]) ++ (List.replicate n b ++ ([f] ++ [107]))) = (pAt 0, (if 2 < n then [] else [interAct csi (List.replicate n b) f]) ++ [ePrint 107]) := by
  have key : ∀ s, s = 1 ∨ s = 2 → (s = 1 → n = 0 → f ≠ 91 ∧ f ≠ 93 ∧ f ≠ 80) → feedP (pAt s) (List.replicate n b ++ ([f] ++ [107])) = (pAt 0, (if 2 < n then [] else [interAct (decide (s = 2)) (List.replicate n b) f]) ++ [ePrint 107]) := by
    intro s hs hf
    obtain ⟨q, hq, q1, q2, q3, q4, q5⟩ : ∃ q, feedP (pAt s) (List.replicate n b) = (q, []) ∧ q.st = s ∧ q.inter = List.replicate (min n 2) b ∧ q.wrong = decide (2 < n) ∧ q.mark = 0 ∧ q.nums = [] := ⟨_, inters_fed s hs b h1 h2 n, rfl, rfl, rfl, rfl, rfl⟩
    rw [feedP_add, hq, feedP_add, feedP_one, feedP_one]
    by_cases hn : 2 < n
    · have e1 : min n 2 = 2 := by omega
      have hw : q.wrong = true := by rw [q3]; exact decide_eq_true hn
      have hi : q.inter ≠ [] := by rw [q2, e1]; simp
      rcases hs with rfl | rfl
      · rw [esc_end_wrong q q1 hw f h3 h4 hi, if_pos hn]
        show ((byteP (pAt 0) 107).1, [] ++ ([] ++ (byteP (pAt 0) 107).2)) = _
        rw [plain_107]; rfl
      · rw [csi_end_wrong q q1 hw f h3 h4, if_pos hn]
        show ((byteP (pAt 0) 107).1, [] ++ ([] ++ (byteP (pAt 0) 107).2)) = _
        rw [plain_107]; rfl
    · have e1 : min n 2 = n := by omega
      have hw : q.wrong = false := by rw [q3]; exact decide_eq_false hn
      rw [e1] at q2
      rcases hs with rfl | rfl
      · rw [esc_end q q1 hw f h3 h4 (fun e => hf rfl (by rw [q2] at e; simpa using e)), if_neg hn, q2]
        show ((byteP (pAt 0) 107).1, [] ++ ([eEscape (List.replicate n b) f] ++ (byteP (pAt 0) 107).2)) = _
        rw [plain_107]; rfl
      · rw [csi_end q q1 hw f h3 h4, if_neg hn, q2, q4, q5]
        show ((byteP (pAt 0) 107).1, [] ++ ([eCsi 0 (List.take 8 []) (List.replicate n b) f] ++ (byteP (pAt 0) 107).2)) = _
        rw [plain_107]; rfl
  cases csi with
  | true =>
    rw [if_pos rfl, List.cons_append, List.cons_append, List.nil_append, open_csi]
    exact key 2 (.inr rfl) (fun e => by omega)
  | false =>
    rw [if_neg (by simp), List.cons_append, List.nil_append, open_esc]
    exact key 1 (.inl rfl) (fun _ => hf rfl)

end Go.Proofs.Ythphnjilbpidgaa
