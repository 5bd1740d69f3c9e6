/- Law EmuSaves: beside the program. Own work. -/
import Derived.Test.YtpmnbfifpenlkaaGreatDoorEmuLs
set_option linter.unusedVariables false
set_option linter.unusedSimpArgs false
namespace Go.Proofs.YtpmnbfifpenlkaaGreatDoor
set_option linter.unusedVariables false

/-- What was saved, and the size, stay. -/
structure Sk (m m' : EmM) : Prop where
  kW : m'.W = m.W
  kH : m'.H = m.H
  kS : m'.sv = m.sv
theorem Sk.trans {a b c : EmM} (h : Sk a b) (k : Sk b c) : Sk a c := ⟨k.kW.trans h.kW, k.kH.trans h.kH, k.kS.trans h.kS⟩
theorem Calm.sk {m m' : EmM} (h : Calm m m') : Sk m m' := ⟨h.cW, h.cV, h.cS⟩
theorem feed_pens (m : EmM) : feedM (pAt 0, m) [27, 91, 49, 59, 51, 49, 109] = ((pAt 0, m.pen [1, 31]), []) := by
  have h := feed_csi2 m 1 31 109 (by omega) (by omega) (by omega) (by omega)
  rw [show decN 1 = [49] from by simp [decN], show decN 31 = [51, 49] from by simp [decN]] at h
  exact h
theorem feed_22 (m : EmM) : ∃ x y, feedM (pAt 0, m) [27, 91, 50, 59, 50, 72] = ((pAt 0, m.goTo x y), []) := by
  have h := feed_go m 2 2 (by omega) (by omega)
  unfold goXY at h
  rw [show decN 2 = [50] from by simp [decN]] at h
  exact ⟨_, _, h⟩
theorem feed_s0 (m : EmM) : feedM (pAt 0, m) [27, 40, 48] = ((pAt 0, m.choose 0 48), []) := by
  have h := feed_esc2 m 40 48 (by omega) (by omega) (by omega)
  exact h
theorem feed_8 (m : EmM) : feedM (pAt 0, m) [27, 56] = ((pAt 0, m.restore), []) := feed_esc1 m 56 (by omega) (by omega) (by omega)
theorem feed_7 (m : EmM) : feedM (pAt 0, m) [27, 55] = ((pAt 0, m.save), []) := feed_esc1 m 55 (by omega) (by omega) (by omega)
theorem restore_shown (m : EmM) : Shown m.restore m.restore.restore := ⟨rfl, rfl, rfl, rfl, rfl, rfl⟩

theorem saves_says (m : EmM) (hx : m.st.x < m.W) (hy : m.st.y < m.H) (b : List Nat) (hb : ∀ c ∈ b, 32 ≤ c ∧ c ≤ 126) :
    ∃ m2, (feedM (pAt 0, m.save) ([27, 91, 49, 59, 51, 49, 109] ++ (b ++ ([27, 91, 50, 59, 50, 72] ++ ([27, 40, 48] ++ ([14] ++ [27, 56])))))).1 = (pAt 0, m2) ∧ m2.st.x = m.st.x ∧ m2.st.y = m.st.y ∧ Shown m2 m2.restore := by
  have s1 : Sk m.save (m.save.pen [1, 31]) := ⟨rfl, rfl, rfl⟩
  have h2 := feed_prints (m.save.pen [1, 31]) b hb
  have s2 := (feedM_calm (pAt 0, m.save.pen [1, 31]) rfl b (fun c hc => by have := hb c hc; omega)).sk
  rw [h2] at s2
  obtain ⟨m1, hm1⟩ : ∃ m1, prints (m.save.pen [1, 31]) b = m1 := ⟨_, rfl⟩
  simp only [hm1] at h2 s2
  obtain ⟨x, y, h3⟩ := feed_22 m1
  have s3 := (Calm.goTo m1 x y).sk
  have h4 := feed_s0 (m1.goTo x y)
  have s4 : Sk (m1.goTo x y) ((m1.goTo x y).choose 0 48) := by unfold EmM.choose; split <;> exact ⟨rfl, rfl, rfl⟩
  have h5 := feed_ctl ((m1.goTo x y).choose 0 48) 14 (by omega) (by omega) (by omega) (by omega)
  have s5 := (Calm.control ((m1.goTo x y).choose 0 48) 14).sk
  have h6 := feed_8 (((m1.goTo x y).choose 0 48).control 14)
  have s := (((s1.trans s2).trans s3).trans s4).trans s5
  refine ⟨_, by rw [feed_then (feed_pens m.save), feed_then h2, feed_then h3, feed_then h4, feed_then h5, h6], ?_, ?_, restore_shown _⟩
  · show clampN _ _ = _
    rw [s.kS, s.kW]
    show clampN (m.st.x : Int) m.W = _
    unfold clampN; omega
  · show clampN _ _ = _
    rw [s.kS, s.kH]
    show clampN (m.st.y : Int) m.H = _
    unfold clampN; omega

end Go.Proofs.YtpmnbfifpenlkaaGreatDoor
