/- patch: what is left of bytes that are read; cell.Read. Own work. -/
import Derived.Test.YtgomnigchfmfhaaPatR
namespace Go.Proofs.Ytgomnigchfmfhaa
set_option linter.unusedVariables false
set_option linter.unusedSimpArgs false
open Go.RowKit

/-- S is the end of d. -/
def Suf (d S : ByteArray) : Prop := S.size ≤ d.size ∧ S = d.extract (d.size - S.size) d.size
theorem Suf.refl (d : ByteArray) : Suf d d := ⟨Nat.le_refl _, by rw [Nat.sub_self]; exact ByteArray.extract_zero_size.symm⟩
theorem suf_at (d : ByteArray) (k : Nat) (hk : k ≤ d.size) : Suf d (d.extract k d.size) := by
  have h : (d.extract k d.size).size = d.size - k := by simp
  refine ⟨by omega, ?_⟩
  rw [h, show d.size - (d.size - k) = k from by omega]
theorem Suf.trans {d S T : ByteArray} (h : Suf d S) (k : Suf S T) : Suf d T := by
  refine ⟨Nat.le_trans k.1 h.1, ?_⟩
  have h1 := h.1
  have h2 := k.1
  have e := k.2
  rw [h.2] at e
  rw [ByteArray.extract_extract, ← h.2] at e
  rw [show d.size - S.size + (S.size - T.size) = d.size - T.size from by omega, show min (d.size - S.size + S.size) d.size = d.size from by omega] at e
  exact e
theorem numS_bad (s : ByteArray) (e : Int) (he : e ≠ 0) : numS s e = (0, s, e) := if_neg he
theorem byteS_bad (s : ByteArray) (e : Int) (he : e ≠ 0) : byteS s e = (0, s, e) := by
  unfold byteS rawS
  rw [if_neg he]
  rfl
theorem numS_suf (s : ByteArray) (e : Int) (h : (numS s e).2.2 = 0) : e = 0 ∧ Suf s (numS s e).2.1 := by
  by_cases he : e = 0
  · subst he
    refine ⟨rfl, ?_⟩
    unfold numS at *
    rw [if_pos rfl] at *
    split at h
    · rename_i h1
      rw [if_pos h1]
      have := dec_len s.data.toList 0 0 h1
      exact suf_at s _ (by simpa using this)
    · rename_i h1; exact absurd h h1
  · rw [numS_bad s e he] at h; exact absurd h he
theorem byteS_suf (s : ByteArray) (e : Int) (h : (byteS s e).2.2 = 0) : e = 0 ∧ Suf s (byteS s e).2.1 := by
  by_cases he : e = 0
  · subst he
    refine ⟨rfl, ?_⟩
    unfold byteS rawS at *
    simp only [if_true] at *
    rw [if_neg (by omega)] at *
    split at h
    · simp at h
    · rename_i h1
      rw [if_neg h1]
      exact suf_at s _ (by omega)
  · rw [byteS_bad s e he] at h; exact absurd h he
theorem numS_zero (s : ByteArray) (e : Int) (h : (numS s e).1 ≠ 0) : (numS s e).2.2 = 0 := by
  unfold numS at *
  split at h
  · rename_i he
    rw [if_pos he]
    split at h
    · rename_i h1; rw [if_pos h1]
    · exact absurd rfl h
  · exact absurd rfl h
theorem numS_rng (s : ByteArray) (e : Int) : 0 ≤ (numS s e).1 ∧ (numS s e).1 ≤ 9223372036854775807 := by
  by_cases he : e = 0
  · subst he; exact numS_in s
  · rw [numS_bad s e he]; simp
theorem cellS_suf (S T : ByteArray) (c : CellM) (h : cellS S = some (c, T)) : Suf S T := by
  unfold cellS at h
  split at h
  · cases h
  · rename_i h1
    injection h with h
    injection h with _ h
    have e4 : (rd4 S).2.2 = 0 := by
      by_cases q : (rd4 S).2.2 = 0
      · exact q
      · exact absurd (.inl q) h1
    have q4 := byteS_suf _ _ e4
    have q3 := byteS_suf _ _ q4.1
    have q2 := byteS_suf _ _ q3.1
    have q1 := numS_suf _ _ q2.1
    rw [← h]
    exact ((q1.2.trans q2.2).trans q3.2).trans q4.2
theorem cellS_ok (S T : ByteArray) (c : CellM) (h : cellS S = some (c, T)) : okC c := by
  unfold cellS at h
  split at h
  · cases h
  · rename_i h1
    injection h with h
    injection h with h _
    rw [← h]
    have hr := numS_rng S 0
    refine ⟨⟨hr.1, ?_⟩, ?_⟩
    · by_cases q : (rd1 S).1 > 1114111
      · exact absurd (.inr (.inr (.inl q))) h1
      · exact Int.not_lt.1 q
    · by_cases q : (attrS S).ok
      · exact q
      · exact absurd (.inr (.inl q)) h1

def zV : Value := .agg #[.int .i32 0, .int .i64 0, .int .i64 0, .bool false, .bool false, .bool false]
theorem cell_Read (S : ByteArray) (hS : S.size ≤ 1000000) :
    (cellS S = none ∧ ∃ e : Int, e ≠ 0 ∧ ∀ w, Calls Try.prog 71 #[.string S] w fun r w' => r = .returned (.tuple #[zV, .int .i64 0, .int .i64 e]) ∧ Below w.heap.size w w') ∨
    (∃ (c : CellM) (T : ByteArray), cellS S = some (c, T) ∧ ∀ w, Calls Try.prog 71 #[.string S] w fun r w' => r = .returned (.tuple #[c.v, .int .i64 ((S.size : Int) - (T.size : Int)), .int .i64 0]) ∧ Below w.heap.size w w') := by
  obtain ⟨r, f, g, mk, S1, S2, S3, S4, e1, e2, e3, e4, h, hz, hr, hf, hg, hm⟩ := reads_is S hS
  have hS2 : S.size ≤ 1000000 := by omega
  have k1 : rd1 S = (r, S1, e1) := h.n
  have k2 : rd2 S = (f, S2, e2) := by unfold rd2; rw [k1]; exact h.b1
  have k3 : rd3 S = (g, S3, e3) := by unfold rd3; rw [k2]; exact h.b2
  have k4 : rd4 S = (mk, S4, e4) := by unfold rd4; rw [k3]; exact h.b3
  by_cases he : e4 = 0
  · obtain ⟨kk, rfl⟩ : ∃ kk : Nat, mk = kk := ⟨mk.toNat, by omega⟩
    obtain ⟨q1, q2, q4⟩ := bits_and kk (by omega)
    obtain ⟨b, hb⟩ : ∃ b, ((kk : Int) % 2 == 1) = b := ⟨_, rfl⟩
    obtain ⟨u, hu⟩ : ∃ b, ((kk : Int) / 2 % 2 == 1) = b := ⟨_, rfl⟩
    obtain ⟨i, hi⟩ : ∃ b, ((kk : Int) / 4 % 2 == 1) = b := ⟨_, rfl⟩
    have ka : attrS S = ⟨f, g, b, u, i⟩ := by unfold attrS; rw [k2, k3, k4]; simp only [hb, hu, hi]
    rw [hb] at q1
    rw [hu] at q2
    rw [hi] at q4
    by_cases ha : At.ok ⟨f, g, b, u, i⟩
    · by_cases hr1 : r > 1114111
      · refine .inl ⟨by unfold cellS; rw [k1, if_pos (.inr (.inr (.inl hr1)))], 3, by decide, fun w => ?_⟩
        by_cases h0 : S4.size = 0
        · exact read_rune0 S hS2 r f g kk S1 S2 S3 S4 e1 e2 e3 e4 h w b u i q1 q2 q4 he h0 ha hr1
        · exact read_rune1 S hS2 r f g kk S1 S2 S3 S4 e1 e2 e3 e4 h w b u i q1 q2 q4 he h0 ha hr1
      · by_cases hm7 : (kk : Int) > 7
        · refine .inl ⟨by unfold cellS; rw [k4, if_pos (.inr (.inr (.inr hm7)))], 3, by decide, fun w => ?_⟩
          by_cases h0 : S4.size = 0
          · exact read_mark0 S hS2 r f g kk S1 S2 S3 S4 e1 e2 e3 e4 h w b u i q1 q2 q4 he h0 ha hr1 hm7
          · exact read_mark1 S hS2 r f g kk S1 S2 S3 S4 e1 e2 e3 e4 h w b u i q1 q2 q4 he h0 ha hr1 hm7
        · refine .inr ⟨⟨r, ⟨f, g, b, u, i⟩⟩, S4, ?_, fun w => ?_⟩
          · unfold cellS
            rw [k1, k4, ka, if_neg]
            rintro (x | x | x | x)
            · exact x he
            · exact x ha
            · exact hr1 x
            · exact hm7 x
          · by_cases h0 : S4.size = 0
            · have := read_ok0 S hS2 r f g kk S1 S2 S3 S4 e1 e2 e3 e4 h w b u i q1 q2 q4 he h0 ha hr.1 hr1 hm7
              rw [h0]
              simpa [CellM.v] using this
            · exact read_ok1 S hS2 r f g kk S1 S2 S3 S4 e1 e2 e3 e4 h w b u i q1 q2 q4 he h0 ha hr.1 hr1 hm7
    · refine .inl ⟨by unfold cellS; rw [ka, if_pos (.inr (.inl ha))], 3, by decide, fun w => ?_⟩
      by_cases h0 : S4.size = 0
      · exact read_attr0 S hS2 r f g kk S1 S2 S3 S4 e1 e2 e3 e4 h w b u i q1 q2 q4 he h0 ha
      · exact read_attr1 S hS2 r f g kk S1 S2 S3 S4 e1 e2 e3 e4 h w b u i q1 q2 q4 he h0 ha
  · exact .inl ⟨by unfold cellS; rw [k4, if_pos (.inl he)], e4, he, fun w => read_err S hS2 r f g mk S1 S2 S3 S4 e1 e2 e3 e4 h w he (hz he)⟩

end Go.Proofs.Ytgomnigchfmfhaa
