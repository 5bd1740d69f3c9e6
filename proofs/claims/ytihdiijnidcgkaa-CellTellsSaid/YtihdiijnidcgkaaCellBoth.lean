/- Law CellTells: what a cell is laid as, what bytes are read as, by both. Own work. -/
import Derived.Test.YtihdiijnidcgkaaCellRefRd
import Derived.Test.YtihdiijnidcgkaaCellRefLay
import Derived.Test.YtihdiijnidcgkaaCellLayN
import Derived.Test.YtihdiijnidcgkaaCellShow
import Derived.Test.YtihdiijnidcgkaaCellRefSgr
namespace Go.Proofs.Ytihdiijnidcgkaa
set_option linter.unusedVariables false
set_option linter.unusedSimpArgs false
open Go.RowKit

def zV : Value := .agg #[.int .i32 0, .int .i64 0, .int .i64 0, .bool false, .bool false, .bool false]
theorem reads_both (S : ByteArray) (hS : S.size ≤ 200) :
    (∃ e e2 : Int, e ≠ 0 ∧ e2 ≠ 0 ∧ (∀ w, Calls Try.prog 13 #[.string S] w fun r w' => r = .returned (.tuple #[zV, .int .i64 0, .int .i64 e]) ∧ Below w.heap.size w w') ∧
      ∀ p w, RefAt w p S 0 → Calls Try.prog 14 #[.pointer (some ⟨p, 0, none⟩)] w fun r w' => r = .returned zV ∧ (∃ t, RefAt w' p t e2) ∧ Keep (· = p) w w') ∨
    (∃ (c : CellM) (k : Int) (S4 : ByteArray), k = (S.size : Int) - (S4.size : Int) ∧ S4.size ≤ 200 ∧ (∀ w, Calls Try.prog 13 #[.string S] w fun r w' => r = .returned (.tuple #[c.v, .int .i64 k, .int .i64 0]) ∧ Below w.heap.size w w') ∧
      ∀ p w, RefAt w p S 0 → Calls Try.prog 14 #[.pointer (some ⟨p, 0, none⟩)] w fun r w' => r = .returned c.v ∧ RefAt w' p S4 0 ∧ Keep (· = p) w w') := by
  obtain ⟨r, f, g, mk, S1, S2, S3, S4, e1, e2, e3, e4, h, hz, hr, hf, hg, hm⟩ := reads_is S (by omega)
  have hS2 : S.size ≤ 2000 := by omega
  by_cases he : e4 = 0
  · obtain ⟨kk, rfl⟩ : ∃ kk : Nat, mk = kk := ⟨mk.toNat, by omega⟩
    obtain ⟨q1, q2, q4⟩ := bits_and kk (by omega)
    obtain ⟨b, hb⟩ : ∃ b, ((kk : Int) % 2 == 1) = b := ⟨_, rfl⟩
    obtain ⟨u, hu⟩ : ∃ b, ((kk : Int) / 2 % 2 == 1) = b := ⟨_, rfl⟩
    obtain ⟨i, hi⟩ : ∃ b, ((kk : Int) / 4 % 2 == 1) = b := ⟨_, rfl⟩
    rw [hb] at q1
    rw [hu] at q2
    rw [hi] at q4
    by_cases ha : At.ok ⟨f, g, b, u, i⟩
    · by_cases hr1 : r > 1114111
      · refine .inl ⟨3, 3, by decide, by decide, fun w => ?_, fun p w hw => refrd_rune p S hS2 r f g kk S1 S2 S3 S4 e1 e2 e3 e4 h w hw b u i hb hu hi hm.1 hm.2 he ha hr1⟩
        by_cases h0 : S4.size = 0
        · exact read_rune0 S hS2 r f g kk S1 S2 S3 S4 e1 e2 e3 e4 h w b u i q1 q2 q4 he h0 ha hr1
        · exact read_rune1 S hS2 r f g kk S1 S2 S3 S4 e1 e2 e3 e4 h w b u i q1 q2 q4 he h0 ha hr1
      · by_cases hm7 : (kk : Int) > 7
        · refine .inl ⟨3, 3, by decide, by decide, fun w => ?_, fun p w hw => refrd_mark p S hS2 r f g kk S1 S2 S3 S4 e1 e2 e3 e4 h w hw b u i hb hu hi hm.1 hm.2 he ha hr1 hm7⟩
          by_cases h0 : S4.size = 0
          · exact read_mark0 S hS2 r f g kk S1 S2 S3 S4 e1 e2 e3 e4 h w b u i q1 q2 q4 he h0 ha hr1 hm7
          · exact read_mark1 S hS2 r f g kk S1 S2 S3 S4 e1 e2 e3 e4 h w b u i q1 q2 q4 he h0 ha hr1 hm7
        · refine .inr ⟨⟨r, ⟨f, g, b, u, i⟩⟩, (S.size : Int) - (S4.size : Int), S4, rfl, by have := h.z4; omega, fun w => ?_, fun p w hw => refrd_ok p S hS2 r f g kk S1 S2 S3 S4 e1 e2 e3 e4 h w hw b u i hb hu hi hm.1 hm.2 he ha hr.1 hr1 hm7⟩
          by_cases h0 : S4.size = 0
          · have := read_ok0 S hS2 r f g kk S1 S2 S3 S4 e1 e2 e3 e4 h w b u i q1 q2 q4 he h0 ha hr.1 hr1 hm7
            rw [h0]
            simpa [CellM.v] using this
          · exact read_ok1 S hS2 r f g kk S1 S2 S3 S4 e1 e2 e3 e4 h w b u i q1 q2 q4 he h0 ha hr.1 hr1 hm7
    · refine .inl ⟨3, 3, by decide, by decide, fun w => ?_, fun p w hw => refrd_attr p S hS2 r f g kk S1 S2 S3 S4 e1 e2 e3 e4 h w hw b u i hb hu hi hm.1 hm.2 he ha⟩
      by_cases h0 : S4.size = 0
      · exact read_attr0 S hS2 r f g kk S1 S2 S3 S4 e1 e2 e3 e4 h w b u i q1 q2 q4 he h0 ha
      · exact read_attr1 S hS2 r f g kk S1 S2 S3 S4 e1 e2 e3 e4 h w b u i q1 q2 q4 he h0 ha
  · exact .inl ⟨e4, e4, he, he, fun w => read_err S hS2 r f g mk S1 S2 S3 S4 e1 e2 e3 e4 h w he (hz he), fun p w hw => refrd_err p S hS2 r f g mk S1 S2 S3 S4 e1 e2 e3 e4 h w hw he⟩

theorem reads_one (S : ByteArray) (hS : S.size ≤ 200) : ∃ (c cy : CellM) (k e e2 : Int) (S4 : ByteArray), S4.size ≤ 200 ∧ ((e ≠ 0 ∧ e2 ≠ 0 ∧ c = .z ∧ k = 0) ∨ (e = 0 ∧ e2 = 0 ∧ cy = c ∧ k = (S.size : Int) - (S4.size : Int))) ∧
    (∀ w, Calls Try.prog 13 #[.string S] w fun r w' => r = .returned (.tuple #[c.v, .int .i64 k, .int .i64 e]) ∧ Below w.heap.size w w') ∧
    ∀ p w, RefAt w p S 0 → Calls Try.prog 14 #[.pointer (some ⟨p, 0, none⟩)] w fun r w' => r = .returned cy.v ∧ (∃ t, RefAt w' p t e2 ∧ (e2 = 0 → t = S4)) ∧ Keep (· = p) w w' := by
  rcases reads_both S hS with ⟨e, e2, h1, h2, h3, h4⟩ | ⟨c, k, S4, h1, h2, h3, h4⟩
  · refine ⟨.z, .z, 0, e, e2, .empty, Nat.zero_le _, .inl ⟨h1, h2, rfl, rfl⟩, h3, fun p w hw => (h4 p w hw).mono ?_⟩
    rintro r w' ⟨q1, ⟨t, q2⟩, q3⟩
    exact ⟨q1, ⟨t, q2, fun x => absurd x h2⟩, q3⟩
  · refine ⟨c, c, k, 0, 0, S4, h2, .inr ⟨rfl, rfl, rfl, h1⟩, h3, fun p w hw => (h4 p w hw).mono ?_⟩
    rintro r w' ⟨q1, q2, q3⟩
    exact ⟨q1, ⟨S4, q2, fun _ => rfl⟩, q3⟩

/-- What a cell is laid as, by both. -/
theorem lays_one (c : CellM) (hr : -2147483648 ≤ c.r ∧ c.r ≤ 2147483647) : ∃ (L : ByteArray) (vb : Bool), (∀ V, Calls Try.prog 10 #[c.v] V fun e w' => e = .returned (.string L) ∧ Below V.heap.size V w') ∧ decide c.a.ok = vb ∧
    (vb = true → ∀ V, Calls Try.prog 12 #[(⟨if c.r < 0 then 65533 else c.r, c.a⟩ : CellM).v] V fun e w' => e = .returned (.string L) ∧ Below V.heap.size V w') ∧ (vb = false → L = ⟨#[]⟩) := by
  by_cases hv : c.a.ok
  · by_cases hn : c.r < 0
    · refine ⟨_, true, fun V => cell_lay_neg c V hv 65533 (by omega) rfl hn, decide_eq_true hv, fun _ V => ?_, fun x => by cases x⟩
      rw [if_pos hn]
      exact ref_lay ⟨((65533 : Nat) : Int), c.a⟩ V hv 65533 (by omega) rfl
    · obtain ⟨rn, hrn⟩ : ∃ rn : Nat, c.r = (rn : Int) := ⟨c.r.toNat, by omega⟩
      refine ⟨_, true, fun V => cell_lay_low c V hv rn (by omega) hrn hn, decide_eq_true hv, fun _ V => ?_, fun x => by cases x⟩
      rw [if_neg hn]
      exact ref_lay ⟨c.r, c.a⟩ V hv rn (by omega) hrn
  · exact ⟨_, false, fun V => cell_lay_none c V hv, decide_eq_false hv, fun x => (by cases x), fun _ => rfl⟩

end Go.Proofs.Ytihdiijnidcgkaa
