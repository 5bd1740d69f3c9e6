/- A Sub that a command breaks: lists. Own work. -/
import Derived.Test.YtnnkgdggkinblaaNvtLawM
set_option linter.unusedVariables false
set_option linter.unusedSimpArgs false
namespace Go.Proofs.Ytnnkgdggkinblaa
set_option linter.unusedVariables false
open Go.RowKit

theorem given_take (r : Rd) (a : An) (c : UInt8) (h1 : 241 ≤ c) (h2 : c ≤ 254) : takeL false (r.goes 6, a) c = takeL false (Rd.new.goes 2, a) c := by
  have hk : kindL false c = 0 ∨ kindL false c = 4 ∨ kindL false c = 5 := by
    unfold kindL
    have e0 : ¬ c = 0 := fun e => by subst e; exact absurd h1 (by decide)
    have e1 : ¬ c = 13 := fun e => by subst e; exact absurd h1 (by decide)
    have e2 : ¬ c = 240 := fun e => by subst e; exact absurd h1 (by decide)
    have e3 : ¬ c = 255 := fun e => by subst e; exact absurd h2 (by decide)
    rw [if_neg (fun z => e0 z.1), if_neg e1, if_neg e2]
    split
    · exact .inr (.inl rfl)
    · split
      · exact .inr (.inr rfl)
      · exact .inl rfl
  have a0 : actL 6 0 = 2 ∧ actL 2 0 = 2 ∧ nextL 6 0 = 0 ∧ nextL 2 0 = 0 := ⟨rfl, rfl, rfl, rfl⟩
  have a4 : actL 6 4 = 5 ∧ actL 2 4 = 5 ∧ nextL 6 4 = 4 ∧ nextL 2 4 = 4 := ⟨rfl, rfl, rfl, rfl⟩
  have a5 : actL 6 5 = 3 ∧ actL 2 5 = 3 ∧ nextL 6 5 = 3 ∧ nextL 2 5 = 3 := ⟨rfl, rfl, rfl, rfl⟩
  unfold takeL
  rcases hk with h | h | h
  · simp only [h, Rd.goes, a0.1, a0.2.1, a0.2.2.1, a0.2.2.2, doR, doA]
  · simp only [h, Rd.goes, a4.1, a4.2.1, a4.2.2.1, a4.2.2.2, doR, doA]
  · simp only [h, Rd.goes, a5.1, a5.2.1, a5.2.2.1, a5.2.2.2, doR, doA]

theorem given_same (body : List UInt8) (c : UInt8) (rest : List UInt8) (hb : ∀ b ∈ body, b ≠ 255) (h1 : 241 ≤ c) (h2 : c ≤ 254) :
    bytesL false (Rd.new, An.new) ([255, 250, 5] ++ (body ++ (255 :: c :: rest))) = bytesL false (Rd.new, An.new) (255 :: c :: rest) := by
  have e1 : bytesL false (Rd.new, An.new) [255, 250, 5] = (⟨5, 0, 5, [], false⟩, An.new) := by decide
  rw [bytes_add, e1, bytes_add]
  obtain ⟨h3, h4⟩ := in_sub false body hb ⟨5, 0, 5, [], false⟩ An.new rfl
  obtain ⟨r, hr⟩ : ∃ r, r = (bytesL false ((⟨5, 0, 5, [], false⟩ : Rd), An.new) body).1 := ⟨_, rfl⟩
  have e2 : bytesL false ((⟨5, 0, 5, [], false⟩ : Rd), An.new) body = (r, An.new) := Prod.ext hr.symm h4
  rw [← hr] at h3
  rw [e2]
  show bytesL false (takeL false (takeL false (r, An.new) 255) c) rest = bytesL false (takeL false (takeL false (Rd.new, An.new) 255) c) rest
  have e3 : takeL false (r, An.new) 255 = (r.goes 6, An.new) := by
    unfold takeL
    simp only [h3]
    rfl
  have e4 : takeL false (Rd.new, An.new) 255 = (Rd.new.goes 2, An.new) := rfl
  rw [e3, e4, given_take r An.new c h1 h2]

theorem given_feed (body : List UInt8) (c : UInt8) (rest : List UInt8) (hb : ∀ b ∈ body, b ≠ 255) (h1 : 241 ≤ c) (h2 : c ≤ 254) :
    feedL false Rd.new ([255, 250, 5] ++ (body ++ (255 :: c :: rest))) = feedL false Rd.new (255 :: c :: rest) ∧ goL false Rd.new ([255, 250, 5] ++ (body ++ (255 :: c :: rest))) = goL false Rd.new (255 :: c :: rest) := by
  have h := given_same body c rest hb h1 h2
  exact ⟨by show (endA (bytesL _ _ _).2).told = _; rw [h]; rfl, by show (bytesL _ _ _).1 = _; rw [h]; rfl⟩

end Go.Proofs.Ytnnkgdggkinblaa
