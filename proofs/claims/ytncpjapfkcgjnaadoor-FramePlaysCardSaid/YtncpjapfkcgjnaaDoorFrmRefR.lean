/- ReadFrame of the document's own answer. Own work. -/
import Derived.Test.YtncpjapfkcgjnaaDoorFrmRef
namespace Go.Proofs.YtncpjapfkcgjnaaDoor
set_option linter.unusedVariables false
set_option linter.unusedSimpArgs false
open Go.RowKit

/-- The number of the bytes behind byte i, of the first nine. -/
def backN (t : ByteArray) (i : Nat) : Nat := numL ((t.data.toList.drop (i + 1)).take (8 - i))

theorem backN_step (t : ByteArray) (m : Nat) (hm : m < 8) (h : m + 1 < t.size) : backN t m = t[m + 1].toNat + 256 * backN t (m + 1) := by
  unfold backN
  rw [drop_at t (m + 1) h, show 8 - m = 8 - (m + 1) + 1 from by omega, List.take_succ_cons, numL]

theorem backN_last (t : ByteArray) : backN t 8 = 0 := by simp [backN, numL]

theorem backN_all (t : ByteArray) : backN t 0 = numL ((t.data.toList.drop 1).take 8) := rfl

theorem backN_lt (t : ByteArray) (i : Nat) (hi : 1 ≤ i) : backN t i ≤ 72057594037927935 := by
  have h := numL_lt ((t.data.toList.drop (i + 1)).take (8 - i))
  have h2 : 256 ^ ((t.data.toList.drop (i + 1)).take (8 - i)).length ≤ 256 ^ 7 := Nat.pow_le_pow_right (by omega) (by rw [List.length_take]; omega)
  unfold backN
  omega

theorem backN_lt0 (t : ByteArray) : backN t 0 < 18446744073709551616 := by
  have h := numL_lt ((t.data.toList.drop 1).take 8)
  have h2 : 256 ^ ((t.data.toList.drop 1).take 8).length ≤ 256 ^ 8 := Nat.pow_le_pow_right (by omega) (by rw [List.length_take]; omega)
  rw [backN_all]
  omega

theorem extract_rest (t : ByteArray) (k : Nat) : t.extract k t.size = restB t k := by
  have h := extract_mk t.data.toList k t.size
  rw [mk_data, List.take_of_length_le (by rw [← Lib.size_eq]; omega)] at h
  exact h

set_option maxRecDepth 100000 in
set_option maxHeartbeats 3200000 in
theorem refread_long (key b t : ByteArray) (a0 : UInt8) (N : Nat) (w : World) (hts : t.size ≤ 90000) (h9 : 9 ≤ t.size) (hA : t[0] = a0) (hN : N = backN t 0) (f : Frm) (er : Int) (hF : (if faultI (a0.toNat : Int) N (t.size - 9) = 0 then ((⟨a0.toNat, N, restB t 9⟩, 0) : Frm × Int) else (Frm.none, 3)) = (f, er))
    (hop : ∀ W, Calls Tryd.prog 28 #[.string key, .string b] W fun r w' => r = .returned (.tuple #[.string t, .int .i64 0]) ∧ Below W.heap.size W w') :
    Calls Tryd.prog 11 #[.string key, .string b] w fun r w' => r = .returned (.tuple #[.agg #[.int .i64 f.way, .int .i64 f.seq, .string f.body], .int .i64 er]) ∧ Below w.heap.size w w' := by
  have HO := Lib.hid hop
  have T0 := Lib.hid (three_new w (.int .i64 0) (.int .i64 0) (.string ⟨#[]⟩) 30)
  have B0 := Lib.hid ((Below.refl w.heap.size w).alloc (Nat.le_refl _) (.cells #[.int .i64 0, .int .i64 0, .string ⟨#[]⟩] 30))
  have HA := Lib.hid hA
  have HN := Lib.hid hN
  have HF := Lib.hid hF
  have ha0 := a0.toNat_lt
  clear hop hA hN hF
  have n1 : ¬ ((t.size : Int) < 9) := by omega
  go_enter Tryd.func11, Tryd.ntmps11
  go_wp2_with fail
  refine (HO.out _).mono ?_
  rintro r w1 ⟨rfl, hb1⟩
  have T1 := Lib.hid (T0.out.below hb1)
  have HB1 := Lib.hid (B0.out.trans (hb1.mono B0.out.size))
  clear hb1 HO T0 B0
  go_wp2_with fail
  obtain ⟨G, hG⟩ : ∃ G : Nat → Nat, G = backN t := ⟨_, rfl⟩
  have HG := Lib.hid hG
  have HG8 : Hid (G 8 = 0) := Lib.hid (by rw [hG]; exact backN_last t)
  clear hG
  go_loop [8, 9] (fun n i => ∃ k : Nat, k ≤ 8 ∧ i = .int .i64 (k : Int) ∧ n = .int .u64 ((G k : Nat) : Int)) (fun _ i => (intOf i).toNat)
  case atStart => exact ⟨8, by omega, rfl, by rw [HG8.out]; rfl⟩
  case round =>
    obtain ⟨k, hk, rfl, rfl⟩ := hrel
    by_cases hlt : 1 ≤ k
    · obtain ⟨m, rfl⟩ : ∃ m, k = m + 1 := ⟨k - 1, by omega⟩
      have g1 : G (m + 1) ≤ 72057594037927935 := by rw [HG.out]; exact backN_lt t (m + 1) (by omega)
      have HS : Hid (G m = t[m + 1].toNat + 256 * G (m + 1)) := Lib.hid (by rw [HG.out]; exact backN_step t m (by omega) (by omega))
      obtain ⟨y, hy⟩ : ∃ y, y = G (m + 1) := ⟨_, rfl⟩
      rw [← hy] at g1 HS ⊢
      have hb := t[m + 1].toNat_lt
      clear hy
      go_wp2_with fail
      go_round
      case rel => exact ⟨m, by omega, by go_num, by rw [HS.out]; congr 1; omega⟩
      case measure => simp [intOf]; try omega
    · obtain rfl : k = 0 := by omega
      have HG0 : Hid (G 0 = N) := Lib.hid (by rw [HG.out, HN.out])
      obtain ⟨c0, c1, c2, g0, g1, g2⟩ := T1.out
      rw [HG0.out]
      have hNl : N < 18446744073709551616 := by rw [HN.out]; exact backN_lt0 t
      have HNl := Lib.hid hNl
      clear hlt HG hNl
      have hi : (t.size : Int) - 9 ≤ 90000 := by omega
      have hi2 : 0 ≤ (t.size : Int) - 9 := by omega
      have HA2 := HA.out
      by_cases q0 : N < 1
      · have E := (fault_arg (.inr (.inl (by omega))) : faultI (a0.toNat : Int) N (t.size - 9) = 1)
        obtain ⟨rfl, rfl⟩ : Frm.none = f ∧ 3 = er := by have := HF.out; rw [E, if_neg (by decide)] at this; exact ⟨congrArg Prod.fst this, congrArg Prod.snd this⟩
        have e0 : decide ((N : Int) < 1) = true := by simp; omega
        clear E HF q0
        go_wp2_with fail
        refine bodyPost_ret (v := .tuple #[.agg #[.int .i64 0, .int .i64 0, .string ⟨#[]⟩], .int .i64 3]) (by simp [results, Tryd.results11, go_sem, c0, c1, c2]) rfl ⟨rfl, ?_⟩
        exact below_three HB1.out (Nat.le_refl _) _ _ _
      by_cases q1 : 4611686018427387904 < N
      · have E := (fault_arg (.inr (.inr (by omega))) : faultI (a0.toNat : Int) N (t.size - 9) = 1)
        obtain ⟨rfl, rfl⟩ : Frm.none = f ∧ 3 = er := by have := HF.out; rw [E, if_neg (by decide)] at this; exact ⟨congrArg Prod.fst this, congrArg Prod.snd this⟩
        have e0 : decide ((N : Int) < 1) = false := by simp; omega
        have e1 : decide (4611686018427387904 < (N : Int)) = true := by simp; omega
        clear E HF q0 q1
        go_wp2_with fail
        refine bodyPost_ret (v := .tuple #[.agg #[.int .i64 0, .int .i64 0, .string ⟨#[]⟩], .int .i64 3]) (by simp [results, Tryd.results11, go_sem, c0, c1, c2]) rfl ⟨rfl, ?_⟩
        exact below_three HB1.out (Nat.le_refl _) _ _ _
      by_cases q2 : a0.toNat < 1
      · have E := (fault_arg (.inl (by omega)) : faultI (a0.toNat : Int) N (t.size - 9) = 1)
        obtain ⟨rfl, rfl⟩ : Frm.none = f ∧ 3 = er := by have := HF.out; rw [E, if_neg (by decide)] at this; exact ⟨congrArg Prod.fst this, congrArg Prod.snd this⟩
        have e0 : decide ((N : Int) < 1) = false := by simp; omega
        have e1 : decide (4611686018427387904 < (N : Int)) = false := by simp; omega
        have e2 : decide ((a0.toNat : Int) < 1) = true := by simp; omega
        clear E HF q0 q1 q2
        go_wp2_with fail
        refine bodyPost_ret (v := .tuple #[.agg #[.int .i64 0, .int .i64 0, .string ⟨#[]⟩], .int .i64 3]) (by simp [results, Tryd.results11, go_sem, c0, c1, c2]) rfl ⟨rfl, ?_⟩
        exact below_three HB1.out (Nat.le_refl _) _ _ _
      by_cases q3 : 2 < a0.toNat
      · have E := (fault_arg (.inl (by omega)) : faultI (a0.toNat : Int) N (t.size - 9) = 1)
        obtain ⟨rfl, rfl⟩ : Frm.none = f ∧ 3 = er := by have := HF.out; rw [E, if_neg (by decide)] at this; exact ⟨congrArg Prod.fst this, congrArg Prod.snd this⟩
        have e0 : decide ((N : Int) < 1) = false := by simp; omega
        have e1 : decide (4611686018427387904 < (N : Int)) = false := by simp; omega
        have e2 : decide ((a0.toNat : Int) < 1) = false := by simp; omega
        have e3 : decide (2 < (a0.toNat : Int)) = true := by simp; omega
        clear E HF q0 q1 q2 q3
        go_wp2_with fail
        refine bodyPost_ret (v := .tuple #[.agg #[.int .i64 0, .int .i64 0, .string ⟨#[]⟩], .int .i64 3]) (by simp [results, Tryd.results11, go_sem, c0, c1, c2]) rfl ⟨rfl, ?_⟩
        exact below_three HB1.out (Nat.le_refl _) _ _ _
      by_cases q4 : 20000 < t.size - 9
      · have E := (fault_long (by omega) (by omega) : faultI (a0.toNat : Int) N (t.size - 9) = 4)
        obtain ⟨rfl, rfl⟩ : Frm.none = f ∧ 3 = er := by have := HF.out; rw [E, if_neg (by decide)] at this; exact ⟨congrArg Prod.fst this, congrArg Prod.snd this⟩
        have e0 : decide ((N : Int) < 1) = false := by simp; omega
        have e1 : decide (4611686018427387904 < (N : Int)) = false := by simp; omega
        have e2 : decide ((a0.toNat : Int) < 1) = false := by simp; omega
        have e3 : decide (2 < (a0.toNat : Int)) = false := by simp; omega
        have e4 : decide (20000 < (t.size : Int) - 9) = true := by simp; omega
        clear E HF q0 q1 q2 q3 q4
        go_wp2_with fail
        refine bodyPost_ret (v := .tuple #[.agg #[.int .i64 0, .int .i64 0, .string ⟨#[]⟩], .int .i64 3]) (by simp [results, Tryd.results11, go_sem, c0, c1, c2]) rfl ⟨rfl, ?_⟩
        exact below_three HB1.out (Nat.le_refl _) _ _ _
      have E := (fault_ok.2 ⟨by omega, by omega, by omega, by omega⟩ : faultI (a0.toNat : Int) N (t.size - 9) = 0)
      obtain ⟨rfl, rfl⟩ : (⟨a0.toNat, N, restB t 9⟩ : Frm) = f ∧ 0 = er := by have := HF.out; rw [E, if_pos rfl] at this; exact ⟨congrArg Prod.fst this, congrArg Prod.snd this⟩
      have e0 : decide ((N : Int) < 1) = false := by simp; omega
      have e1 : decide (4611686018427387904 < (N : Int)) = false := by simp; omega
      have e2 : decide ((a0.toNat : Int) < 1) = false := by simp; omega
      have e3 : decide (2 < (a0.toNat : Int)) = false := by simp; omega
      have e4 : decide (20000 < (t.size : Int) - 9) = false := by simp; omega
      have hN2 : N ≤ 4611686018427387904 := by omega
      clear E HF q0 q1 q2 q3 q4
      go_wp2_with fail
      go_region
      go_wp2_with fail
      refine bodyPost_ret (v := .tuple #[.agg #[.int .i64 (a0.toNat : Int), .int .i64 N, .string (t.extract 9 t.size)], .int .i64 0]) (by simp [results, Tryd.results11, go_sem, c0, c1, c2]) rfl ⟨by rw [extract_rest], ?_⟩
      exact (below_three HB1.out (Nat.le_refl _) _ _ _).drew

set_option maxRecDepth 100000 in
set_option maxHeartbeats 1600000 in
theorem refread_any (key b : ByteArray) (w : World) (hk : key.size ≤ 90000) (hb : b.size ≤ 90000) :
    Calls Tryd.prog 11 #[.string key, .string b] w fun r w' => r = .returned (.tuple #[.agg #[.int .i64 (readL key.data.toList b.data.toList).1.way, .int .i64 (readL key.data.toList b.data.toList).1.seq, .string (readL key.data.toList b.data.toList).1.body], .int .i64 (readL key.data.toList b.data.toList).2]) ∧ Below w.heap.size w w' := by
  have hopen := fun W => refopen_any key b W hk hb
  have hol := open_len key.data.toList b.data.toList
  rw [← Lib.size_eq] at hol
  obtain ⟨t, ht⟩ : ∃ t : ByteArray, t = ⟨(openL key.data.toList b.data.toList).1.toArray⟩ := ⟨_, rfl⟩
  have htl : t.data.toList = (openL key.data.toList b.data.toList).1 := by rw [ht]
  have hts : t.size ≤ b.size := by rw [ht, size_mk]; exact hol
  obtain ⟨e, he⟩ : ∃ e, e = (openL key.data.toList b.data.toList).2 := ⟨_, rfl⟩
  rw [← ht, ← he] at hopen
  clear hol ht
  by_cases h0 : e = 0
  · subst h0
    rw [readL_good he.symm, ← htl]
    clear he htl
    by_cases h9 : 9 ≤ t.size
    · have hh := head_at t (by omega)
      have htx : textL t.data.toList = (if faultI (t[0].toNat : Int) (backN t 0) (t.size - 9) = 0 then ((⟨t[0].toNat, backN t 0, restB t 9⟩, 0) : Frm × Int) else (Frm.none, 3)) := by
        unfold textL
        rw [if_neg (by rw [← Lib.size_eq]; omega), ← Lib.size_eq, hh]
        rfl
      obtain ⟨f, er, hfe⟩ : ∃ f er, textL t.data.toList = (f, er) := ⟨_, _, rfl⟩
      rw [hfe] at htx ⊢
      exact refread_long key b t t[0] (backN t 0) w (by omega) h9 rfl rfl f er htx.symm hopen
    · have htx : textL t.data.toList = (Frm.none, 2) := by unfold textL; rw [if_pos (by rw [← Lib.size_eq]; omega)]
      rw [htx]
      have HO := Lib.hid hopen
      have T0 := Lib.hid (three_new w (.int .i64 0) (.int .i64 0) (.string ⟨#[]⟩) 30)
      have B0 := Lib.hid ((Below.refl w.heap.size w).alloc (Nat.le_refl _) (.cells #[.int .i64 0, .int .i64 0, .string ⟨#[]⟩] 30))
      have n1 : (t.size : Int) < 9 := by omega
      clear htx hopen
      go_enter Tryd.func11, Tryd.ntmps11
      go_wp2_with fail
      refine (HO.out _).mono ?_
      rintro r w1 ⟨rfl, hb1⟩
      obtain ⟨c0, c1, c2, g0, g1, g2⟩ := T0.out.below hb1
      have HB1 := Lib.hid (B0.out.trans (hb1.mono B0.out.size))
      clear hb1 HO T0 B0
      go_wp2_with fail
      refine bodyPost_ret (v := .tuple #[.agg #[.int .i64 0, .int .i64 0, .string ⟨#[]⟩], .int .i64 2]) (by simp [results, Tryd.results11, go_sem, c0, c1, c2]) rfl ⟨rfl, ?_⟩
      exact below_three HB1.out (Nat.le_refl _) _ _ _
  · rw [readL_bad h0 he.symm]
    have HO := Lib.hid hopen
    have T0 := Lib.hid (three_new w (.int .i64 0) (.int .i64 0) (.string ⟨#[]⟩) 30)
    have B0 := Lib.hid ((Below.refl w.heap.size w).alloc (Nat.le_refl _) (.cells #[.int .i64 0, .int .i64 0, .string ⟨#[]⟩] 30))
    have h1 : (e != 0) = true := by simpa using h0
    clear he htl h0 hopen
    go_enter Tryd.func11, Tryd.ntmps11
    go_wp2_with fail
    refine (HO.out _).mono ?_
    rintro r w1 ⟨rfl, hb1⟩
    obtain ⟨c0, c1, c2, g0, g1, g2⟩ := T0.out.below hb1
    have HB1 := Lib.hid (B0.out.trans (hb1.mono B0.out.size))
    clear hb1 HO T0 B0
    go_wp2_with fail
    refine bodyPost_ret (v := .tuple #[.agg #[.int .i64 0, .int .i64 0, .string ⟨#[]⟩], .int .i64 e]) (by simp [results, Tryd.results11, go_sem, c0, c1, c2]) rfl ⟨rfl, ?_⟩
    exact below_three HB1.out (Nat.le_refl _) _ _ _

end Go.Proofs.YtncpjapfkcgjnaaDoor
