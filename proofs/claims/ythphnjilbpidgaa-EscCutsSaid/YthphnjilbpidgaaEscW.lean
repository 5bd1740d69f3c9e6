/- What the laws of esc want beside the Parser's contracts: digits, texts that are cut, bytes as a text. Own work. -/
import Derived.Test.YthphnjilbpidgaaEscLawM
namespace Go.Proofs.Ythphnjilbpidgaa
set_option linter.unusedVariables false
set_option linter.unusedSimpArgs false
open Go.RowKit

theorem natsOf_cut (S : ByteArray) (q : Nat) (h : q ≤ S.size) : natsOf (S.extract 0 q) = (natsOf S).take q ∧ natsOf (S.extract q S.size) = (natsOf S).drop q := by
  have hl : S.data.toList.length = S.size := (Lib.size_eq S).symm
  have e := extract_mk S.data.toList
  rw [mk_data] at e
  refine ⟨?_, ?_⟩
  · rw [e]; simp [natsOf, List.map_take]
  · rw [e, List.take_of_length_le (by omega)]; simp [natsOf, List.map_drop]
theorem natsOf_len (S : ByteArray) : (natsOf S).length = S.size := by
  rw [Lib.size_eq]
  simp [natsOf]
theorem natsOf_add (a b : ByteArray) : natsOf (a ++ b) = natsOf a ++ natsOf b := by simp [natsOf]
theorem natsOf_bytesN (l : List Nat) (h : ∀ c ∈ l, c < 256) : natsOf (bytesN l) = l := by
  induction l with
  | nil => rfl
  | cons c r ih =>
    rw [show c :: r = [c] ++ r from rfl, bytesN_add, natsOf_add, natsOf_one c (h c (by simp)), ih (fun x hx => h x (by simp [hx]))]
theorem bytesN_nats (s : ByteArray) : bytesN (natsOf s) = s := by
  apply ByteArray.ext
  apply Array.ext'
  have e : (UInt8.ofNat ∘ fun x : UInt8 => x.toNat) = id := by funext x; simp
  simp [bytesN, natsOf, e]
theorem nats_ext {a b : ByteArray} (h : natsOf a = natsOf b) : a = b := by rw [← bytesN_nats a, h, bytesN_nats]
theorem feedsE_nats (b : BP) (ts : List ByteArray) : feedsE b ts = feedE b (ts.flatMap natsOf) := by
  unfold feedsE
  congr 1
  induction ts with
  | nil => rfl
  | cons s r ih => simp only [joinL, List.flatMap_cons, List.map_append] at *; rw [ih]; rfl

theorem byteCells_bytesN (l : List Nat) (h : ∀ c ∈ l, c < 256) : Lib.byteCells (bytesN l).data.toList = l.map fun n : Nat => Value.int .u8 (n : Int) := by
  induction l with
  | nil => rfl
  | cons c r ih =>
    have := ih (fun x hx => h x (by simp [hx]))
    simp only [Lib.byteCells, bytesN, List.map_cons] at *
    rw [this, toNat_ofNat (h c (by simp))]

/-- string(b) of bytes that were laid in a row. -/
theorem bytes_str {W : World} {P : Program} (src dst e : TypeId) (l : List Nat) (cs : Array Value) (g n : Nat) (hg : W.heap[g]? = some (.cells cs e (0, 0))) (hcs : cs.toList = l.map fun n : Nat => Value.int .u8 (n : Int)) (h : ∀ c ∈ l, c < 256) (hn : cs.size = n) (hm : n ≤ maxLen) (hs : P.underlying src = some (.slice e)) (he : P.underlying e = some (.int .u8)) (hd : P.underlying dst = some .string) :
    (convert src dst (.slice (some ⟨g, 0, none⟩) n n)).run P W = .ok (.string (bytesN l)) W := by
  have hrow := Row.of_block hg (.inl (Nat.le_refl _)) (n := n) (by omega) (by omega)
  have h2 : cs.toList.take n = Lib.byteCells (bytesN l).data.toList := by
    rw [List.take_of_length_le (by simp; omega), byteCells_bytesN l h]; exact hcs
  rw [h2, hn] at hrow
  have := run_row_string src dst e hrow hs he hd
  rwa [mk_data] at this

/-- Behind some of a number's digits. -/
def DigL (n m : Nat) (l : List Nat) : Prop := (l = [] ∧ m = n) ∨ (l ≠ [] ∧ ((m = 0 ∧ decN n = l) ∨ (0 < m ∧ decN n = decN m ++ l)))
theorem decN_small {n : Nat} (h : n < 10) : decN n = [48 + n] := by rw [decN, if_pos h]
theorem decN_big {n : Nat} (h : ¬ n < 10) : decN n = decN (n / 10) ++ [48 + n % 10] := by rw [decN, if_neg h]
theorem DigL.step {n m : Nat} {l : List Nat} (h : DigL n m l) (hc : 0 < m ∨ l = []) : DigL n (m / 10) ((48 + m % 10) :: l) := by
  refine .inr ⟨by simp, ?_⟩
  rcases h with ⟨rfl, rfl⟩ | ⟨hl, h⟩
  · by_cases h10 : m < 10
    · exact .inl ⟨by omega, by rw [decN_small h10, show m % 10 = m from by omega]⟩
    · exact .inr ⟨by omega, decN_big h10⟩
  · rcases h with ⟨rfl, _⟩ | ⟨_, h⟩
    · rcases hc with h | h
      · omega
      · exact absurd h hl
    · by_cases h10 : m < 10
      · exact .inl ⟨by omega, by rw [h, decN_small h10, show m % 10 = m from by omega]; rfl⟩
      · exact .inr ⟨by omega, by rw [h, decN_big h10, List.append_assoc]; rfl⟩
theorem DigL.done {n : Nat} {l : List Nat} (h : DigL n 0 l) (hl : l ≠ []) : decN n = l := by
  rcases h with ⟨h, _⟩ | ⟨_, h | h⟩
  · exact absurd h hl
  · exact h.2
  · omega
theorem decN_len (k : Nat) : ∀ n, n < 10 ^ (k + 1) → (decN n).length ≤ k + 1 := by
  induction k with
  | zero => intro n h; rw [decN_small (by simpa using h)]; simp
  | succ k ih =>
    intro n h
    by_cases h10 : n < 10
    · rw [decN_small h10]; simp
    · rw [decN_big h10]
      have := ih (n / 10) (by rw [Nat.div_lt_iff_lt_mul (by omega)]; rw [Nat.pow_succ] at h; exact h)
      simp; exact this
theorem decN_pos (n : Nat) : 0 < (decN n).length := by
  by_cases h10 : n < 10
  · rw [decN_small h10]; simp
  · rw [decN_big h10]; simp

def strZ : Value → Nat
  | .string s => if s.size = 0 then 1 else 0
  | _ => 0
theorem size_bytesN_pos {l : List Nat} (h : l ≠ []) : (bytesN l).size ≠ 0 := by rw [bytesN_size]; intro e; exact h (List.eq_nil_of_length_eq_zero e)

set_option maxRecDepth 100000 in
set_option maxHeartbeats 1600000 in
theorem digits_any (n : Nat) (hn : n < 100000) (w : World) :
    Calls Try.prog 18 #[.int .i64 n] w fun e w' => e = .returned (.string (bytesN (decN n))) ∧ Below w.heap.size w w' := by
  go_enter Try.func18, Try.ntmps18
  go_wp2_with fail
  go_loopw [0, 3] (fun i s wr => ∃ (m : Nat) (l : List Nat), i = .int .i64 m ∧ s = .string (bytesN l) ∧ m < 100000 ∧ Hid (DigL n m l) ∧ Hid (l.length ≤ 100) ∧ Hid (Below w.heap.size w wr)) (fun i s _ => (intOf i).toNat + strZ s)
  case atStart => exact ⟨n, [], rfl, rfl, hn, .inl ⟨rfl, rfl⟩, Nat.zero_le _, Below.refl _ _⟩
  case round =>
    obtain ⟨m, l, rfl, rfl, hm, HD, HL, HB⟩ := hrel
    by_cases hc : 0 < m ∨ l = []
    · have hcc := hc
      obtain ⟨d, hd⟩ : ∃ d : Nat, d = 48 + m % 10 := ⟨_, rfl⟩
      have hd256 : d < 58 := by omega
      have hdm : (48 : Int) + (m : Int) % 10 = (d : Int) := by omega
      have HDM := Lib.hid hdm
      have hd8 : IntKind.u8.wrap (d : Int) = (d : Int) := by rw [u8_of (by omega), toNat_ofNat (by omega)]
      have hcv := bytes_str (W := wr.alloc (.cells #[.int .u8 (d : Int)] 5)) (P := Try.prog) 48 9 5 [d] #[.int .u8 (d : Int)] wr.heap.size 1 (heap_alloc_new wr _) rfl (by intro c hc; simp at hc; omega) rfl (by unfold maxLen; omega) Try.underlying48 Try.underlying5 Try.underlying9
      have hst : Hid (DigL n (m / 10) (d :: l)) := by rw [hd]; exact HD.out.step hc
      have hsz : (bytesN [d]).size + (bytesN l).size ≤ 9223372036854775807 := by rw [bytesN_size, bytesN_size]; have := HL.out; simp; omega
      have hl2 : Hid ((d :: l).length ≤ 100) := by
        show (d :: l).length ≤ 100
        have h5 := decN_len 4 n (by omega)
        rcases hst.out with ⟨h, _⟩ | ⟨_, ⟨_, h⟩ | ⟨_, h⟩⟩
        · simp at h
        · rw [← h]; omega
        · have := congrArg List.length h
          rw [List.length_append] at this
          omega
      have HDD := Lib.hid hd
      clear hd
      have hadd : bytesN [d] ++ bytesN l = bytesN (d :: l) := (bytesN_add [d] l).symm
      have HADD := Lib.hid hadd
      have hz9 : Hid (strZ (.string (bytesN (d :: l))) = 0) := by show strZ _ = 0; unfold strZ; exact if_neg (size_bytesN_pos (by simp))
      have HCC := Lib.hid hc
      have hB2 : Hid (Below w.heap.size w (wr.alloc (.cells #[.int .u8 (d : Int)] 5))) := Lib.hid (HB.out.alloc HB.out.size _)
      clear hc hcc hadd
      by_cases h0 : 0 < m
      · have t1 : ((m : Int) > 0) := by omega
        go_wp2_with fail
        go_roundw
        case rel => exact ⟨m / 10, d :: l, by go_num, by rw [HADD.out], by omega, hst, hl2, hB2⟩
        case measure => rw [HADD.out, hz9.out]; simp [intOf]; omega
      · have hl0 : l = [] := HCC.out.resolve_left h0
        have hm0 : m = 0 := by omega
        have hd48 : d = 48 := by have := HDD.out; omega
        subst hl0 hm0 hd48
        clear hcv hdm hd8 h0
        have hcv := bytes_str (W := wr.alloc (.cells #[.int .u8 48] 5)) (P := Try.prog) 48 9 5 [48] #[.int .u8 48] wr.heap.size 1 (heap_alloc_new wr _) rfl (by intro c hc; simp at hc; omega) rfl (by unfold maxLen; omega) Try.underlying48 Try.underlying5 Try.underlying9
        have he0 : (bytesN []).toList.isEmpty = true := by decide +kernel
        have hB3 : Hid (Below w.heap.size w (wr.alloc (.cells #[.int .u8 48] 5))) := hB2
        go_wp2_with fail
        go_roundw
        case rel => exact ⟨0, [48], rfl, by rw [HADD.out], by omega, hst, hl2, hB3⟩
        case measure => rw [HADD.out, hz9.out]; simp [intOf, strZ, bytesN_size]
    · have hm0 : m = 0 := by omega
      have hl0 : l ≠ [] := fun e => hc (.inr e)
      subst hm0
      have hne := not_empty (size_bytesN_pos hl0)
      have HFIN : Hid (decN n = l) := Lib.hid (HD.out.done hl0)
      clear hc
      go_wp2_with fail
      go_ret
      exact ⟨by rw [HFIN.out]; rfl, HB.out⟩

end Go.Proofs.Ythphnjilbpidgaa
