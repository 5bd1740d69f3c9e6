/- The document's Reader tells what nvt's does. Own work (by rgn/XRefAlike.py). -/
import Derived.Test.YtopgejjencoelaaRefM
namespace Go.Proofs.Ytopgejjencoelaa
set_option linter.unusedVariables false
set_option linter.unusedSimpArgs false
open Go.RowKit

theorem take_is {bin : Bool} {r : Rd} {a : An} {b : UInt8} {s k c n : Nat} (hk : kindL bin b = k) (hs : r.at' = s) (hc : actL s k = c) (hn : nextL s k = n) : takeL bin (r, a) b = ((doR c b r).goes n, doA c b r a) := by
  unfold takeL
  simp only
  rw [hk, hs, hc, hn]

theorem verb_facts {b : UInt8} (h1 : 251 ≤ b) (h2 : b ≤ 254) : b ≠ 255 ∧ b ≠ 13 ∧ b ≠ 0 ∧ b ≠ 250 ∧ b ≠ 240 ∧ 250 ≤ b := by
  refine ⟨fun e => ?_, fun e => ?_, fun e => ?_, fun e => ?_, fun e => ?_, ?_⟩
  · subst e; exact absurd h2 (by decide)
  · subst e; exact absurd h1 (by decide)
  · subst e; exact absurd h1 (by decide)
  · subst e; exact absurd h1 (by decide)
  · subst e; exact absurd h1 (by decide)
  · rw [UInt8.le_iff_toNat_le] at *
    have : (251 : UInt8).toNat = 251 := rfl
    show 250 ≤ b.toNat
    omega

theorem alike_0 (bin : Bool) (r : Rd) (a : An) (opt : Int) (body : List UInt8) (long iac : Bool) (b : UInt8) (acc T : List Tok) (hs : r.at' = 0) (h2 : flatFrom acc a = T) :
    Both (takeL bin (r, a) b) ((feedR bin ⟨false, [], false, opt, body, long, iac⟩ b).1, joinsT T (feedR bin ⟨false, [], false, opt, body, long, iac⟩ b).2) acc := by
  rcases kind_cases bin b with ⟨rfl, hk⟩ | ⟨rfl, hk⟩ | ⟨rfl, hk⟩ | ⟨rfl, hk⟩ | ⟨hb1, hb2, hk⟩ | ⟨rfl, hbf, hk⟩ | ⟨hb1, hb2, hb3, hb4, hb5, hk⟩
  · have e1 := take_is (a := a) hk hs (c := 0) (n := 2) rfl rfl
    have e2 : feedR bin ⟨false, [], false, opt, body, long, iac⟩ 255 = (⟨false, [255], false, opt, body, long, iac⟩, []) := by simp [feedR, subR, commandR, dataR]
    rw [e1, e2]
    exact ⟨.inr (.inr (.inl ⟨rfl, rfl, rfl, rfl⟩)), h2⟩
  · have e1 := take_is (a := a) hk hs (c := 1) (n := 1) rfl rfl
    have e2 : feedR bin ⟨false, [], false, opt, body, long, iac⟩ 13 = (⟨true, [], false, opt, body, long, iac⟩, dataR 13) := by simp [feedR, subR, commandR, dataR]
    rw [e1, e2]
    exact ⟨.inr (.inl ⟨rfl, rfl, rfl, rfl⟩), (by show flatFrom acc (dataA a 13) = _; rw [flatFrom_data, h2]; rfl)⟩
  · have e1 := take_is (a := a) hk hs (c := 1) (n := 0) rfl rfl
    have e2 : feedR bin ⟨false, [], false, opt, body, long, iac⟩ 240 = (⟨false, [], false, opt, body, long, iac⟩, dataR 240) := by simp [feedR, subR, commandR, dataR]
    rw [e1, e2]
    exact ⟨.inl ⟨rfl, rfl, rfl, rfl⟩, (by show flatFrom acc (dataA a 240) = _; rw [flatFrom_data, h2]; rfl)⟩
  · have e1 := take_is (a := a) hk hs (c := 1) (n := 0) rfl rfl
    have e2 : feedR bin ⟨false, [], false, opt, body, long, iac⟩ 250 = (⟨false, [], false, opt, body, long, iac⟩, dataR 250) := by simp [feedR, subR, commandR, dataR]
    rw [e1, e2]
    exact ⟨.inl ⟨rfl, rfl, rfl, rfl⟩, (by show flatFrom acc (dataA a 250) = _; rw [flatFrom_data, h2]; rfl)⟩
  · have e1 := take_is (a := a) hk hs (c := 1) (n := 0) rfl rfl
    obtain ⟨y1, y2, y3, y4, y5, y6⟩ := verb_facts hb1 hb2
    have e2 : feedR bin ⟨false, [], false, opt, body, long, iac⟩ b = (⟨false, [], false, opt, body, long, iac⟩, dataR b) := by simp [feedR, subR, commandR, dataR, y1, y2, y3, y4, y5, y6]
    rw [e1, e2]
    exact ⟨.inl ⟨rfl, rfl, rfl, rfl⟩, (by show flatFrom acc (dataA a b) = _; rw [flatFrom_data, h2]; rfl)⟩
  · have e1 := take_is (a := a) hk hs (c := 1) (n := 0) rfl rfl
    have e2 : feedR bin ⟨false, [], false, opt, body, long, iac⟩ 0 = (⟨false, [], false, opt, body, long, iac⟩, dataR 0) := by simp [feedR, subR, commandR, dataR, hbf]
    rw [e1, e2]
    exact ⟨.inl ⟨rfl, rfl, rfl, rfl⟩, (by show flatFrom acc (dataA a 0) = _; rw [flatFrom_data, h2]; rfl)⟩
  · have e1 := take_is (a := a) hk hs (c := 1) (n := 0) rfl rfl
    have e2 : feedR bin ⟨false, [], false, opt, body, long, iac⟩ b = (⟨false, [], false, opt, body, long, iac⟩, dataR b) := by simp [feedR, subR, commandR, dataR, hb1, hb2, hb3, hb4]
    rw [e1, e2]
    exact ⟨.inl ⟨rfl, rfl, rfl, rfl⟩, (by show flatFrom acc (dataA a b) = _; rw [flatFrom_data, h2]; rfl)⟩

theorem alike_1 (bin : Bool) (r : Rd) (a : An) (opt : Int) (body : List UInt8) (long iac : Bool) (b : UInt8) (acc T : List Tok) (hs : r.at' = 1) (h2 : flatFrom acc a = T) :
    Both (takeL bin (r, a) b) ((feedR bin ⟨true, [], false, opt, body, long, iac⟩ b).1, joinsT T (feedR bin ⟨true, [], false, opt, body, long, iac⟩ b).2) acc := by
  rcases kind_cases bin b with ⟨rfl, hk⟩ | ⟨rfl, hk⟩ | ⟨rfl, hk⟩ | ⟨rfl, hk⟩ | ⟨hb1, hb2, hk⟩ | ⟨rfl, hbf, hk⟩ | ⟨hb1, hb2, hb3, hb4, hb5, hk⟩
  · have e1 := take_is (a := a) hk hs (c := 0) (n := 2) rfl rfl
    have e2 : feedR bin ⟨true, [], false, opt, body, long, iac⟩ 255 = (⟨false, [255], false, opt, body, long, iac⟩, []) := by simp [feedR, subR, commandR, dataR]
    rw [e1, e2]
    exact ⟨.inr (.inr (.inl ⟨rfl, rfl, rfl, rfl⟩)), h2⟩
  · have e1 := take_is (a := a) hk hs (c := 1) (n := 1) rfl rfl
    have e2 : feedR bin ⟨true, [], false, opt, body, long, iac⟩ 13 = (⟨true, [], false, opt, body, long, iac⟩, dataR 13) := by simp [feedR, subR, commandR, dataR]
    rw [e1, e2]
    exact ⟨.inr (.inl ⟨rfl, rfl, rfl, rfl⟩), (by show flatFrom acc (dataA a 13) = _; rw [flatFrom_data, h2]; rfl)⟩
  · have e1 := take_is (a := a) hk hs (c := 1) (n := 0) rfl rfl
    have e2 : feedR bin ⟨true, [], false, opt, body, long, iac⟩ 240 = (⟨false, [], false, opt, body, long, iac⟩, dataR 240) := by simp [feedR, subR, commandR, dataR]
    rw [e1, e2]
    exact ⟨.inl ⟨rfl, rfl, rfl, rfl⟩, (by show flatFrom acc (dataA a 240) = _; rw [flatFrom_data, h2]; rfl)⟩
  · have e1 := take_is (a := a) hk hs (c := 1) (n := 0) rfl rfl
    have e2 : feedR bin ⟨true, [], false, opt, body, long, iac⟩ 250 = (⟨false, [], false, opt, body, long, iac⟩, dataR 250) := by simp [feedR, subR, commandR, dataR]
    rw [e1, e2]
    exact ⟨.inl ⟨rfl, rfl, rfl, rfl⟩, (by show flatFrom acc (dataA a 250) = _; rw [flatFrom_data, h2]; rfl)⟩
  · have e1 := take_is (a := a) hk hs (c := 1) (n := 0) rfl rfl
    obtain ⟨y1, y2, y3, y4, y5, y6⟩ := verb_facts hb1 hb2
    have e2 : feedR bin ⟨true, [], false, opt, body, long, iac⟩ b = (⟨false, [], false, opt, body, long, iac⟩, dataR b) := by simp [feedR, subR, commandR, dataR, y1, y2, y3, y4, y5, y6]
    rw [e1, e2]
    exact ⟨.inl ⟨rfl, rfl, rfl, rfl⟩, (by show flatFrom acc (dataA a b) = _; rw [flatFrom_data, h2]; rfl)⟩
  · have e1 := take_is (a := a) hk hs (c := 0) (n := 0) rfl rfl
    have e2 : feedR bin ⟨true, [], false, opt, body, long, iac⟩ 0 = (⟨false, [], false, opt, body, long, iac⟩, []) := by simp [feedR, subR, commandR, dataR, hbf]
    rw [e1, e2]
    exact ⟨.inl ⟨rfl, rfl, rfl, rfl⟩, h2⟩
  · have e1 := take_is (a := a) hk hs (c := 1) (n := 0) rfl rfl
    have e2 : feedR bin ⟨true, [], false, opt, body, long, iac⟩ b = (⟨false, [], false, opt, body, long, iac⟩, dataR b) := by simp [feedR, subR, commandR, dataR, hb1, hb2, hb3, hb4, hb5]; exact hb5
    rw [e1, e2]
    exact ⟨.inl ⟨rfl, rfl, rfl, rfl⟩, (by show flatFrom acc (dataA a b) = _; rw [flatFrom_data, h2]; rfl)⟩

theorem alike_2 (bin : Bool) (r : Rd) (a : An) (opt : Int) (body : List UInt8) (long iac : Bool) (b : UInt8) (acc T : List Tok) (hs : r.at' = 2) (h2 : flatFrom acc a = T) :
    Both (takeL bin (r, a) b) ((feedR bin ⟨false, [255], false, opt, body, long, iac⟩ b).1, joinsT T (feedR bin ⟨false, [255], false, opt, body, long, iac⟩ b).2) acc := by
  rcases kind_cases bin b with ⟨rfl, hk⟩ | ⟨rfl, hk⟩ | ⟨rfl, hk⟩ | ⟨rfl, hk⟩ | ⟨hb1, hb2, hk⟩ | ⟨rfl, hbf, hk⟩ | ⟨hb1, hb2, hb3, hb4, hb5, hk⟩
  · have e1 := take_is (a := a) hk hs (c := 1) (n := 0) rfl rfl
    have e2 : feedR bin ⟨false, [255], false, opt, body, long, iac⟩ 255 = (⟨false, [], false, opt, body, long, iac⟩, dataR 255) := by simp [feedR, subR, commandR, dataR]
    rw [e1, e2]
    exact ⟨.inl ⟨rfl, rfl, rfl, rfl⟩, (by show flatFrom acc (dataA a 255) = _; rw [flatFrom_data, h2]; rfl)⟩
  · have e1 := take_is (a := a) hk hs (c := 2) (n := 0) rfl rfl
    have e2 : feedR bin ⟨false, [255], false, opt, body, long, iac⟩ 13 = (⟨false, [], false, opt, body, long, iac⟩, [⟨1, (13 : UInt8).toNat, 0, []⟩]) := by simp [feedR, subR, commandR, dataR]
    rw [e1, e2]
    exact ⟨.inl ⟨rfl, rfl, rfl, rfl⟩, (by show flatFrom acc (tellA a _) = _; rw [flatFrom_tell, h2]; rfl)⟩
  · have e1 := take_is (a := a) hk hs (c := 2) (n := 0) rfl rfl
    have e2 : feedR bin ⟨false, [255], false, opt, body, long, iac⟩ 240 = (⟨false, [], false, opt, body, long, iac⟩, [⟨1, (240 : UInt8).toNat, 0, []⟩]) := by simp [feedR, subR, commandR, dataR]
    rw [e1, e2]
    exact ⟨.inl ⟨rfl, rfl, rfl, rfl⟩, (by show flatFrom acc (tellA a _) = _; rw [flatFrom_tell, h2]; rfl)⟩
  · have e1 := take_is (a := a) hk hs (c := 5) (n := 4) rfl rfl
    have e2 : feedR bin ⟨false, [255], false, opt, body, long, iac⟩ 250 = (⟨false, [255, 250], false, opt, body, long, iac⟩, []) := by simp [feedR, subR, commandR, dataR]
    rw [e1, e2]
    exact ⟨.inr (.inr (.inr (.inr (.inl ⟨rfl, rfl, rfl, rfl, rfl, rfl, rfl, rfl⟩)))), h2⟩
  · have e1 := take_is (a := a) hk hs (c := 3) (n := 3) rfl rfl
    obtain ⟨y1, y2, y3, y4, y5, y6⟩ := verb_facts hb1 hb2
    have e2 : feedR bin ⟨false, [255], false, opt, body, long, iac⟩ b = (⟨false, [255, b], false, opt, body, long, iac⟩, []) := by simp [feedR, subR, commandR, dataR, y1, y2, y3, y4, y5, y6]
    rw [e1, e2]
    exact ⟨.inr (.inr (.inr (.inl ⟨b, rfl, rfl, rfl, rfl, hb1, hb2, rfl⟩))), h2⟩
  · have e1 := take_is (a := a) hk hs (c := 2) (n := 0) rfl rfl
    have e2 : feedR bin ⟨false, [255], false, opt, body, long, iac⟩ 0 = (⟨false, [], false, opt, body, long, iac⟩, [⟨1, (0 : UInt8).toNat, 0, []⟩]) := by simp [feedR, subR, commandR, dataR, hbf]
    rw [e1, e2]
    exact ⟨.inl ⟨rfl, rfl, rfl, rfl⟩, (by show flatFrom acc (tellA a _) = _; rw [flatFrom_tell, h2]; rfl)⟩
  · have e1 := take_is (a := a) hk hs (c := 2) (n := 0) rfl rfl
    have e2 : feedR bin ⟨false, [255], false, opt, body, long, iac⟩ b = (⟨false, [], false, opt, body, long, iac⟩, [⟨1, (b : UInt8).toNat, 0, []⟩]) := by simp [feedR, subR, commandR, dataR, hb1, hb2, hb3, hb4]
    rw [e1, e2]
    exact ⟨.inl ⟨rfl, rfl, rfl, rfl⟩, (by show flatFrom acc (tellA a _) = _; rw [flatFrom_tell, h2]; rfl)⟩

theorem alike_3 (bin : Bool) (r : Rd) (a : An) (opt : Int) (body : List UInt8) (long iac : Bool) (b : UInt8) (acc T : List Tok) (c : UInt8) (hs : r.at' = 3) (hc1 : 251 ≤ c) (hc2 : c ≤ 254) (hrc : r.cmd = c.toNat) (h2 : flatFrom acc a = T) :
    Both (takeL bin (r, a) b) ((feedR bin ⟨false, [255, c], false, opt, body, long, iac⟩ b).1, joinsT T (feedR bin ⟨false, [255, c], false, opt, body, long, iac⟩ b).2) acc := by
  obtain ⟨z1, z2, z3, z4, z5, z6⟩ := verb_facts hc1 hc2
  rcases kind_cases bin b with ⟨rfl, hk⟩ | ⟨rfl, hk⟩ | ⟨rfl, hk⟩ | ⟨rfl, hk⟩ | ⟨hb1, hb2, hk⟩ | ⟨rfl, hbf, hk⟩ | ⟨hb1, hb2, hb3, hb4, hb5, hk⟩
  · have e1 := take_is (a := a) hk hs (c := 4) (n := 0) rfl rfl
    have e2 : feedR bin ⟨false, [255, c], false, opt, body, long, iac⟩ 255 = (⟨false, [], false, opt, body, long, iac⟩, [⟨2, c.toNat, (255 : UInt8).toNat, []⟩]) := by simp [feedR, subR, commandR, dataR, z4]
    rw [e1, e2]
    exact ⟨.inl ⟨rfl, rfl, rfl, rfl⟩, (by show flatFrom acc (tellA a ⟨2, r.cmd, _, []⟩) = _; rw [flatFrom_tell, h2, hrc]; rfl)⟩
  · have e1 := take_is (a := a) hk hs (c := 4) (n := 0) rfl rfl
    have e2 : feedR bin ⟨false, [255, c], false, opt, body, long, iac⟩ 13 = (⟨false, [], false, opt, body, long, iac⟩, [⟨2, c.toNat, (13 : UInt8).toNat, []⟩]) := by simp [feedR, subR, commandR, dataR, z4]
    rw [e1, e2]
    exact ⟨.inl ⟨rfl, rfl, rfl, rfl⟩, (by show flatFrom acc (tellA a ⟨2, r.cmd, _, []⟩) = _; rw [flatFrom_tell, h2, hrc]; rfl)⟩
  · have e1 := take_is (a := a) hk hs (c := 4) (n := 0) rfl rfl
    have e2 : feedR bin ⟨false, [255, c], false, opt, body, long, iac⟩ 240 = (⟨false, [], false, opt, body, long, iac⟩, [⟨2, c.toNat, (240 : UInt8).toNat, []⟩]) := by simp [feedR, subR, commandR, dataR, z4]
    rw [e1, e2]
    exact ⟨.inl ⟨rfl, rfl, rfl, rfl⟩, (by show flatFrom acc (tellA a ⟨2, r.cmd, _, []⟩) = _; rw [flatFrom_tell, h2, hrc]; rfl)⟩
  · have e1 := take_is (a := a) hk hs (c := 4) (n := 0) rfl rfl
    have e2 : feedR bin ⟨false, [255, c], false, opt, body, long, iac⟩ 250 = (⟨false, [], false, opt, body, long, iac⟩, [⟨2, c.toNat, (250 : UInt8).toNat, []⟩]) := by simp [feedR, subR, commandR, dataR, z4]
    rw [e1, e2]
    exact ⟨.inl ⟨rfl, rfl, rfl, rfl⟩, (by show flatFrom acc (tellA a ⟨2, r.cmd, _, []⟩) = _; rw [flatFrom_tell, h2, hrc]; rfl)⟩
  · have e1 := take_is (a := a) hk hs (c := 4) (n := 0) rfl rfl
    obtain ⟨y1, y2, y3, y4, y5, y6⟩ := verb_facts hb1 hb2
    have e2 : feedR bin ⟨false, [255, c], false, opt, body, long, iac⟩ b = (⟨false, [], false, opt, body, long, iac⟩, [⟨2, c.toNat, (b : UInt8).toNat, []⟩]) := by simp [feedR, subR, commandR, dataR, y1, y2, y3, y4, y5, y6, z4]
    rw [e1, e2]
    exact ⟨.inl ⟨rfl, rfl, rfl, rfl⟩, (by show flatFrom acc (tellA a ⟨2, r.cmd, _, []⟩) = _; rw [flatFrom_tell, h2, hrc]; rfl)⟩
  · have e1 := take_is (a := a) hk hs (c := 4) (n := 0) rfl rfl
    have e2 : feedR bin ⟨false, [255, c], false, opt, body, long, iac⟩ 0 = (⟨false, [], false, opt, body, long, iac⟩, [⟨2, c.toNat, (0 : UInt8).toNat, []⟩]) := by simp [feedR, subR, commandR, dataR, hbf, z4]
    rw [e1, e2]
    exact ⟨.inl ⟨rfl, rfl, rfl, rfl⟩, (by show flatFrom acc (tellA a ⟨2, r.cmd, _, []⟩) = _; rw [flatFrom_tell, h2, hrc]; rfl)⟩
  · have e1 := take_is (a := a) hk hs (c := 4) (n := 0) rfl rfl
    have e2 : feedR bin ⟨false, [255, c], false, opt, body, long, iac⟩ b = (⟨false, [], false, opt, body, long, iac⟩, [⟨2, c.toNat, (b : UInt8).toNat, []⟩]) := by simp [feedR, subR, commandR, dataR, hb1, hb2, hb3, hb4, z4]
    rw [e1, e2]
    exact ⟨.inl ⟨rfl, rfl, rfl, rfl⟩, (by show flatFrom acc (tellA a ⟨2, r.cmd, _, []⟩) = _; rw [flatFrom_tell, h2, hrc]; rfl)⟩

theorem alike_4 (bin : Bool) (r : Rd) (a : An) (opt : Int) (body : List UInt8) (long iac : Bool) (b : UInt8) (acc T : List Tok) (hs : r.at' = 4) (hrt : r.text = []) (hrl : r.long = false) (h2 : flatFrom acc a = T) :
    Both (takeL bin (r, a) b) ((feedR bin ⟨false, [255, 250], false, opt, body, long, iac⟩ b).1, joinsT T (feedR bin ⟨false, [255, 250], false, opt, body, long, iac⟩ b).2) acc := by
  rcases kind_cases bin b with ⟨rfl, hk⟩ | ⟨rfl, hk⟩ | ⟨rfl, hk⟩ | ⟨rfl, hk⟩ | ⟨hb1, hb2, hk⟩ | ⟨rfl, hbf, hk⟩ | ⟨hb1, hb2, hb3, hb4, hb5, hk⟩
  · have e1 := take_is (a := a) hk hs (c := 6) (n := 5) rfl rfl
    have e2 : feedR bin ⟨false, [255, 250], false, opt, body, long, iac⟩ 255 = (⟨false, [], true, (255 : UInt8).toNat, [], false, false⟩, []) := by simp [feedR, subR, commandR, dataR]
    rw [e1, e2]
    exact ⟨.inr (.inr (.inr (.inr (.inr (.inl ⟨rfl, rfl, rfl, rfl, rfl, rfl, hrt.symm, hrl.symm, by show r.text.length ≤ 40; rw [hrt]; simp⟩))))), h2⟩
  · have e1 := take_is (a := a) hk hs (c := 6) (n := 5) rfl rfl
    have e2 : feedR bin ⟨false, [255, 250], false, opt, body, long, iac⟩ 13 = (⟨false, [], true, (13 : UInt8).toNat, [], false, false⟩, []) := by simp [feedR, subR, commandR, dataR]
    rw [e1, e2]
    exact ⟨.inr (.inr (.inr (.inr (.inr (.inl ⟨rfl, rfl, rfl, rfl, rfl, rfl, hrt.symm, hrl.symm, by show r.text.length ≤ 40; rw [hrt]; simp⟩))))), h2⟩
  · have e1 := take_is (a := a) hk hs (c := 6) (n := 5) rfl rfl
    have e2 : feedR bin ⟨false, [255, 250], false, opt, body, long, iac⟩ 240 = (⟨false, [], true, (240 : UInt8).toNat, [], false, false⟩, []) := by simp [feedR, subR, commandR, dataR]
    rw [e1, e2]
    exact ⟨.inr (.inr (.inr (.inr (.inr (.inl ⟨rfl, rfl, rfl, rfl, rfl, rfl, hrt.symm, hrl.symm, by show r.text.length ≤ 40; rw [hrt]; simp⟩))))), h2⟩
  · have e1 := take_is (a := a) hk hs (c := 6) (n := 5) rfl rfl
    have e2 : feedR bin ⟨false, [255, 250], false, opt, body, long, iac⟩ 250 = (⟨false, [], true, (250 : UInt8).toNat, [], false, false⟩, []) := by simp [feedR, subR, commandR, dataR]
    rw [e1, e2]
    exact ⟨.inr (.inr (.inr (.inr (.inr (.inl ⟨rfl, rfl, rfl, rfl, rfl, rfl, hrt.symm, hrl.symm, by show r.text.length ≤ 40; rw [hrt]; simp⟩))))), h2⟩
  · have e1 := take_is (a := a) hk hs (c := 6) (n := 5) rfl rfl
    obtain ⟨y1, y2, y3, y4, y5, y6⟩ := verb_facts hb1 hb2
    have e2 : feedR bin ⟨false, [255, 250], false, opt, body, long, iac⟩ b = (⟨false, [], true, (b : UInt8).toNat, [], false, false⟩, []) := by simp [feedR, subR, commandR, dataR, y1, y2, y3, y4, y5, y6]
    rw [e1, e2]
    exact ⟨.inr (.inr (.inr (.inr (.inr (.inl ⟨rfl, rfl, rfl, rfl, rfl, rfl, hrt.symm, hrl.symm, by show r.text.length ≤ 40; rw [hrt]; simp⟩))))), h2⟩
  · have e1 := take_is (a := a) hk hs (c := 6) (n := 5) rfl rfl
    have e2 : feedR bin ⟨false, [255, 250], false, opt, body, long, iac⟩ 0 = (⟨false, [], true, (0 : UInt8).toNat, [], false, false⟩, []) := by simp [feedR, subR, commandR, dataR, hbf]
    rw [e1, e2]
    exact ⟨.inr (.inr (.inr (.inr (.inr (.inl ⟨rfl, rfl, rfl, rfl, rfl, rfl, hrt.symm, hrl.symm, by show r.text.length ≤ 40; rw [hrt]; simp⟩))))), h2⟩
  · have e1 := take_is (a := a) hk hs (c := 6) (n := 5) rfl rfl
    have e2 : feedR bin ⟨false, [255, 250], false, opt, body, long, iac⟩ b = (⟨false, [], true, (b : UInt8).toNat, [], false, false⟩, []) := by simp [feedR, subR, commandR, dataR, hb1, hb2, hb3, hb4]
    rw [e1, e2]
    exact ⟨.inr (.inr (.inr (.inr (.inr (.inl ⟨rfl, rfl, rfl, rfl, rfl, rfl, hrt.symm, hrl.symm, by show r.text.length ≤ 40; rw [hrt]; simp⟩))))), h2⟩

theorem alike_5 (bin : Bool) (r : Rd) (a : An) (b : UInt8) (acc T : List Tok) (hs : r.at' = 5) (hrl : r.text.length ≤ 40) (h2 : flatFrom acc a = T) :
    Both (takeL bin (r, a) b) ((feedR bin ⟨false, [], true, r.opt, r.text, r.long, false⟩ b).1, joinsT T (feedR bin ⟨false, [], true, r.opt, r.text, r.long, false⟩ b).2) acc := by
  rcases kind_cases bin b with ⟨rfl, hk⟩ | ⟨rfl, hk⟩ | ⟨rfl, hk⟩ | ⟨rfl, hk⟩ | ⟨hb1, hb2, hk⟩ | ⟨rfl, hbf, hk⟩ | ⟨hb1, hb2, hb3, hb4, hb5, hk⟩
  · have e1 := take_is (a := a) hk hs (c := 0) (n := 6) rfl rfl
    have e2 : feedR bin ⟨false, [], true, r.opt, r.text, r.long, false⟩ 255 = (⟨false, [], true, r.opt, r.text, r.long, true⟩, []) := by simp [feedR, subR, commandR, dataR]
    rw [e1, e2]
    exact ⟨.inr (.inr (.inr (.inr (.inr (.inr ⟨rfl, rfl, rfl, rfl, rfl, rfl, rfl, rfl, hrl⟩))))), h2⟩
  · have e1 := take_is (a := a) hk hs (c := 7) (n := 5) rfl rfl
    by_cases hf : r.text.length = 40
    · have e2 : feedR bin ⟨false, [], true, r.opt, r.text, r.long, false⟩ 13 = (⟨false, [], true, r.opt, r.text, true, false⟩, []) := by
        have hl : 40 ≤ r.text.length := by omega
        simp [feedR, subR, hl]
      have e3 : doR 7 13 r = ⟨r.at', r.cmd, r.opt, r.text, true⟩ := by show keepR r 13 = _; unfold keepR; rw [if_pos hf]
      rw [e1, e2, e3]
      exact ⟨.inr (.inr (.inr (.inr (.inr (.inl ⟨rfl, rfl, rfl, rfl, rfl, rfl, rfl, rfl, by show r.text.length ≤ 40; omega⟩))))), h2⟩
    · have e2 : feedR bin ⟨false, [], true, r.opt, r.text, r.long, false⟩ 13 = (⟨false, [], true, r.opt, r.text ++ [13], r.long, false⟩, []) := by
        have hl : ¬ 40 ≤ r.text.length := by omega
        simp [feedR, subR, hl]
      have e3 : doR 7 13 r = ⟨r.at', r.cmd, r.opt, r.text ++ [13], r.long⟩ := by show keepR r 13 = _; unfold keepR; rw [if_neg hf]
      rw [e1, e2, e3]
      exact ⟨.inr (.inr (.inr (.inr (.inr (.inl ⟨rfl, rfl, rfl, rfl, rfl, rfl, rfl, rfl, by show (r.text ++ [_]).length ≤ 40; simp; omega⟩))))), h2⟩
  · have e1 := take_is (a := a) hk hs (c := 7) (n := 5) rfl rfl
    by_cases hf : r.text.length = 40
    · have e2 : feedR bin ⟨false, [], true, r.opt, r.text, r.long, false⟩ 240 = (⟨false, [], true, r.opt, r.text, true, false⟩, []) := by
        have hl : 40 ≤ r.text.length := by omega
        simp [feedR, subR, hl]
      have e3 : doR 7 240 r = ⟨r.at', r.cmd, r.opt, r.text, true⟩ := by show keepR r 240 = _; unfold keepR; rw [if_pos hf]
      rw [e1, e2, e3]
      exact ⟨.inr (.inr (.inr (.inr (.inr (.inl ⟨rfl, rfl, rfl, rfl, rfl, rfl, rfl, rfl, by show r.text.length ≤ 40; omega⟩))))), h2⟩
    · have e2 : feedR bin ⟨false, [], true, r.opt, r.text, r.long, false⟩ 240 = (⟨false, [], true, r.opt, r.text ++ [240], r.long, false⟩, []) := by
        have hl : ¬ 40 ≤ r.text.length := by omega
        simp [feedR, subR, hl]
      have e3 : doR 7 240 r = ⟨r.at', r.cmd, r.opt, r.text ++ [240], r.long⟩ := by show keepR r 240 = _; unfold keepR; rw [if_neg hf]
      rw [e1, e2, e3]
      exact ⟨.inr (.inr (.inr (.inr (.inr (.inl ⟨rfl, rfl, rfl, rfl, rfl, rfl, rfl, rfl, by show (r.text ++ [_]).length ≤ 40; simp; omega⟩))))), h2⟩
  · have e1 := take_is (a := a) hk hs (c := 7) (n := 5) rfl rfl
    by_cases hf : r.text.length = 40
    · have e2 : feedR bin ⟨false, [], true, r.opt, r.text, r.long, false⟩ 250 = (⟨false, [], true, r.opt, r.text, true, false⟩, []) := by
        have hl : 40 ≤ r.text.length := by omega
        simp [feedR, subR, hl]
      have e3 : doR 7 250 r = ⟨r.at', r.cmd, r.opt, r.text, true⟩ := by show keepR r 250 = _; unfold keepR; rw [if_pos hf]
      rw [e1, e2, e3]
      exact ⟨.inr (.inr (.inr (.inr (.inr (.inl ⟨rfl, rfl, rfl, rfl, rfl, rfl, rfl, rfl, by show r.text.length ≤ 40; omega⟩))))), h2⟩
    · have e2 : feedR bin ⟨false, [], true, r.opt, r.text, r.long, false⟩ 250 = (⟨false, [], true, r.opt, r.text ++ [250], r.long, false⟩, []) := by
        have hl : ¬ 40 ≤ r.text.length := by omega
        simp [feedR, subR, hl]
      have e3 : doR 7 250 r = ⟨r.at', r.cmd, r.opt, r.text ++ [250], r.long⟩ := by show keepR r 250 = _; unfold keepR; rw [if_neg hf]
      rw [e1, e2, e3]
      exact ⟨.inr (.inr (.inr (.inr (.inr (.inl ⟨rfl, rfl, rfl, rfl, rfl, rfl, rfl, rfl, by show (r.text ++ [_]).length ≤ 40; simp; omega⟩))))), h2⟩
  · have e1 := take_is (a := a) hk hs (c := 7) (n := 5) rfl rfl
    obtain ⟨y1, y2, y3, y4, y5, y6⟩ := verb_facts hb1 hb2
    by_cases hf : r.text.length = 40
    · have e2 : feedR bin ⟨false, [], true, r.opt, r.text, r.long, false⟩ b = (⟨false, [], true, r.opt, r.text, true, false⟩, []) := by
        have hl : 40 ≤ r.text.length := by omega
        simp [feedR, subR, hl, y1, y2, y3, y4, y5, y6]
      have e3 : doR 7 b r = ⟨r.at', r.cmd, r.opt, r.text, true⟩ := by show keepR r b = _; unfold keepR; rw [if_pos hf]
      rw [e1, e2, e3]
      exact ⟨.inr (.inr (.inr (.inr (.inr (.inl ⟨rfl, rfl, rfl, rfl, rfl, rfl, rfl, rfl, by show r.text.length ≤ 40; omega⟩))))), h2⟩
    · have e2 : feedR bin ⟨false, [], true, r.opt, r.text, r.long, false⟩ b = (⟨false, [], true, r.opt, r.text ++ [b], r.long, false⟩, []) := by
        have hl : ¬ 40 ≤ r.text.length := by omega
        simp [feedR, subR, hl, y1, y2, y3, y4, y5, y6]
      have e3 : doR 7 b r = ⟨r.at', r.cmd, r.opt, r.text ++ [b], r.long⟩ := by show keepR r b = _; unfold keepR; rw [if_neg hf]
      rw [e1, e2, e3]
      exact ⟨.inr (.inr (.inr (.inr (.inr (.inl ⟨rfl, rfl, rfl, rfl, rfl, rfl, rfl, rfl, by show (r.text ++ [_]).length ≤ 40; simp; omega⟩))))), h2⟩
  · have e1 := take_is (a := a) hk hs (c := 7) (n := 5) rfl rfl
    by_cases hf : r.text.length = 40
    · have e2 : feedR bin ⟨false, [], true, r.opt, r.text, r.long, false⟩ 0 = (⟨false, [], true, r.opt, r.text, true, false⟩, []) := by
        have hl : 40 ≤ r.text.length := by omega
        simp [feedR, subR, hl, hbf]
      have e3 : doR 7 0 r = ⟨r.at', r.cmd, r.opt, r.text, true⟩ := by show keepR r 0 = _; unfold keepR; rw [if_pos hf]
      rw [e1, e2, e3]
      exact ⟨.inr (.inr (.inr (.inr (.inr (.inl ⟨rfl, rfl, rfl, rfl, rfl, rfl, rfl, rfl, by show r.text.length ≤ 40; omega⟩))))), h2⟩
    · have e2 : feedR bin ⟨false, [], true, r.opt, r.text, r.long, false⟩ 0 = (⟨false, [], true, r.opt, r.text ++ [0], r.long, false⟩, []) := by
        have hl : ¬ 40 ≤ r.text.length := by omega
        simp [feedR, subR, hl, hbf]
      have e3 : doR 7 0 r = ⟨r.at', r.cmd, r.opt, r.text ++ [0], r.long⟩ := by show keepR r 0 = _; unfold keepR; rw [if_neg hf]
      rw [e1, e2, e3]
      exact ⟨.inr (.inr (.inr (.inr (.inr (.inl ⟨rfl, rfl, rfl, rfl, rfl, rfl, rfl, rfl, by show (r.text ++ [_]).length ≤ 40; simp; omega⟩))))), h2⟩
  · have e1 := take_is (a := a) hk hs (c := 7) (n := 5) rfl rfl
    by_cases hf : r.text.length = 40
    · have e2 : feedR bin ⟨false, [], true, r.opt, r.text, r.long, false⟩ b = (⟨false, [], true, r.opt, r.text, true, false⟩, []) := by
        have hl : 40 ≤ r.text.length := by omega
        simp [feedR, subR, hl, hb1, hb2, hb3, hb4]
      have e3 : doR 7 b r = ⟨r.at', r.cmd, r.opt, r.text, true⟩ := by show keepR r b = _; unfold keepR; rw [if_pos hf]
      rw [e1, e2, e3]
      exact ⟨.inr (.inr (.inr (.inr (.inr (.inl ⟨rfl, rfl, rfl, rfl, rfl, rfl, rfl, rfl, by show r.text.length ≤ 40; omega⟩))))), h2⟩
    · have e2 : feedR bin ⟨false, [], true, r.opt, r.text, r.long, false⟩ b = (⟨false, [], true, r.opt, r.text ++ [b], r.long, false⟩, []) := by
        have hl : ¬ 40 ≤ r.text.length := by omega
        simp [feedR, subR, hl, hb1, hb2, hb3, hb4]
      have e3 : doR 7 b r = ⟨r.at', r.cmd, r.opt, r.text ++ [b], r.long⟩ := by show keepR r b = _; unfold keepR; rw [if_neg hf]
      rw [e1, e2, e3]
      exact ⟨.inr (.inr (.inr (.inr (.inr (.inl ⟨rfl, rfl, rfl, rfl, rfl, rfl, rfl, rfl, by show (r.text ++ [_]).length ≤ 40; simp; omega⟩))))), h2⟩

theorem alike_6 (bin : Bool) (r : Rd) (a : An) (b : UInt8) (acc T : List Tok) (hs : r.at' = 6) (hrl : r.text.length ≤ 40) (h2 : flatFrom acc a = T) :
    Both (takeL bin (r, a) b) ((feedR bin ⟨false, [], true, r.opt, r.text, r.long, true⟩ b).1, joinsT T (feedR bin ⟨false, [], true, r.opt, r.text, r.long, true⟩ b).2) acc := by
  rcases kind_cases bin b with ⟨rfl, hk⟩ | ⟨rfl, hk⟩ | ⟨rfl, hk⟩ | ⟨rfl, hk⟩ | ⟨hb1, hb2, hk⟩ | ⟨rfl, hbf, hk⟩ | ⟨hb1, hb2, hb3, hb4, hb5, hk⟩
  · have e1 := take_is (a := a) hk hs (c := 7) (n := 5) rfl rfl
    by_cases hf : r.text.length = 40
    · have e2 : feedR bin ⟨false, [], true, r.opt, r.text, r.long, true⟩ 255 = (⟨false, [], true, r.opt, r.text, true, false⟩, []) := by
        have hl : 40 ≤ r.text.length := by omega
        simp [feedR, subR, hl]
      have e3 : doR 7 255 r = ⟨r.at', r.cmd, r.opt, r.text, true⟩ := by show keepR r 255 = _; unfold keepR; rw [if_pos hf]
      rw [e1, e2, e3]
      exact ⟨.inr (.inr (.inr (.inr (.inr (.inl ⟨rfl, rfl, rfl, rfl, rfl, rfl, rfl, rfl, by show r.text.length ≤ 40; omega⟩))))), h2⟩
    · have e2 : feedR bin ⟨false, [], true, r.opt, r.text, r.long, true⟩ 255 = (⟨false, [], true, r.opt, r.text ++ [255], r.long, false⟩, []) := by
        have hl : ¬ 40 ≤ r.text.length := by omega
        simp [feedR, subR, hl]
      have e3 : doR 7 255 r = ⟨r.at', r.cmd, r.opt, r.text ++ [255], r.long⟩ := by show keepR r 255 = _; unfold keepR; rw [if_neg hf]
      rw [e1, e2, e3]
      exact ⟨.inr (.inr (.inr (.inr (.inr (.inl ⟨rfl, rfl, rfl, rfl, rfl, rfl, rfl, rfl, by show (r.text ++ [_]).length ≤ 40; simp; omega⟩))))), h2⟩
  · have e1 := take_is (a := a) hk hs (c := 2) (n := 0) rfl rfl
    have e2 : feedR bin ⟨false, [], true, r.opt, r.text, r.long, true⟩ 13 = (⟨false, [], false, r.opt, [], false, false⟩, [⟨1, (13 : UInt8).toNat, 0, []⟩]) := by simp [feedR, subR, commandR, dataR]
    rw [e1, e2]
    exact ⟨.inl ⟨rfl, rfl, rfl, rfl⟩, (by show flatFrom acc (tellA a _) = _; rw [flatFrom_tell, h2]; rfl)⟩
  · have e1 := take_is (a := a) hk hs (c := 8) (n := 0) rfl rfl
    have e2 : feedR bin ⟨false, [], true, r.opt, r.text, r.long, true⟩ 240 = (⟨false, [], false, r.opt, [], false, false⟩, if r.long = true then [] else [⟨3, 0, r.opt, r.text⟩]) := by simp [feedR, subR, commandR, dataR]
    rw [e1, e2]
    refine ⟨.inl ⟨rfl, rfl, rfl, rfl⟩, ?_⟩
    show flatFrom acc (if r.long = true then a else tellA a ⟨3, 0, r.opt, r.text⟩) = joinsT T (if r.long = true then [] else [⟨3, 0, r.opt, r.text⟩])
    by_cases hg : r.long = true
    · rw [if_pos hg, if_pos hg]; exact h2
    · rw [if_neg hg, if_neg hg, flatFrom_tell, h2]; rfl
  · have e1 := take_is (a := a) hk hs (c := 5) (n := 4) rfl rfl
    have e2 : feedR bin ⟨false, [], true, r.opt, r.text, r.long, true⟩ 250 = (⟨false, [255, 250], false, r.opt, [], false, false⟩, []) := by simp [feedR, subR, commandR, dataR]
    rw [e1, e2]
    exact ⟨.inr (.inr (.inr (.inr (.inl ⟨rfl, rfl, rfl, rfl, rfl, rfl, rfl, rfl⟩)))), h2⟩
  · have e1 := take_is (a := a) hk hs (c := 3) (n := 3) rfl rfl
    obtain ⟨y1, y2, y3, y4, y5, y6⟩ := verb_facts hb1 hb2
    have e2 : feedR bin ⟨false, [], true, r.opt, r.text, r.long, true⟩ b = (⟨false, [255, b], false, r.opt, [], false, false⟩, []) := by simp [feedR, subR, commandR, dataR, y1, y2, y3, y4, y5, y6]
    rw [e1, e2]
    exact ⟨.inr (.inr (.inr (.inl ⟨b, rfl, rfl, rfl, rfl, hb1, hb2, rfl⟩))), h2⟩
  · have e1 := take_is (a := a) hk hs (c := 2) (n := 0) rfl rfl
    have e2 : feedR bin ⟨false, [], true, r.opt, r.text, r.long, true⟩ 0 = (⟨false, [], false, r.opt, [], false, false⟩, [⟨1, (0 : UInt8).toNat, 0, []⟩]) := by simp [feedR, subR, commandR, dataR, hbf]
    rw [e1, e2]
    exact ⟨.inl ⟨rfl, rfl, rfl, rfl⟩, (by show flatFrom acc (tellA a _) = _; rw [flatFrom_tell, h2]; rfl)⟩
  · have e1 := take_is (a := a) hk hs (c := 2) (n := 0) rfl rfl
    have e2 : feedR bin ⟨false, [], true, r.opt, r.text, r.long, true⟩ b = (⟨false, [], false, r.opt, [], false, false⟩, [⟨1, (b : UInt8).toNat, 0, []⟩]) := by simp [feedR, subR, commandR, dataR, hb1, hb2, hb3, hb4]
    rw [e1, e2]
    exact ⟨.inl ⟨rfl, rfl, rfl, rfl⟩, (by show flatFrom acc (tellA a _) = _; rw [flatFrom_tell, h2]; rfl)⟩

theorem both_step (bin : Bool) (x : Rd × An) (y : Rf × List Tok) (acc : List Tok) (b : UInt8) (h : Both x y acc) : Both (takeL bin x b) ((feedR bin y.1 b).1, joinsT y.2 (feedR bin y.1 b).2) acc := by
  obtain ⟨r, a⟩ := x
  obtain ⟨f, T⟩ := y
  obtain ⟨h1, h2⟩ := h
  obtain ⟨cr, cmd, inn, opt, body, long, iac⟩ := f
  simp only at h2
  rcases h1 with ⟨hs, e1, e2, e3⟩ | ⟨hs, e1, e2, e3⟩ | ⟨hs, e1, e2, e3⟩ | ⟨c, hs, e1, e2, e3, q1, q2, q3⟩ | ⟨hs, e1, e2, e3, _, _, q1, q2⟩ | ⟨hs, e1, e2, e3, e4, e5, e6, e7, q1⟩ | ⟨hs, e1, e2, e3, e4, e5, e6, e7, q1⟩
  · simp only at hs e1 e2 e3; subst e1 e2 e3; exact alike_0 bin r a opt body long iac b acc T hs h2
  · simp only at hs e1 e2 e3; subst e1 e2 e3; exact alike_1 bin r a opt body long iac b acc T hs h2
  · simp only at hs e1 e2 e3; subst e1 e2 e3; exact alike_2 bin r a opt body long iac b acc T hs h2
  · simp only at hs e1 e2 e3 q3; subst e1 e2 e3; exact alike_3 bin r a opt body long iac b acc T c hs q1 q2 q3 h2
  · simp only at hs e1 e2 e3 q1 q2; subst e1 e2 e3; exact alike_4 bin r a opt body long iac b acc T hs q1 q2 h2
  · simp only at hs e1 e2 e3 e4 e5 e6 e7 q1; subst e1 e2 e3 e4 e5 e6 e7; exact alike_5 bin r a b acc T hs q1 h2
  · simp only at hs e1 e2 e3 e4 e5 e6 e7 q1; subst e1 e2 e3 e4 e5 e6 e7; exact alike_6 bin r a b acc T hs q1 h2

theorem both_bytes (bin : Bool) (s : List UInt8) : ∀ (x : Rd × An) (y : Rf × List Tok) (acc : List Tok), Both x y acc → Both (bytesL bin x s) (allR bin y s) acc := by
  induction s with
  | nil => intro x y acc h; exact h
  | cons b s ih => intro x y acc h; exact ih _ _ _ (both_step bin x y acc b h)

/-- What the document's Reader tells of bytes. -/
theorem all_is (bin : Bool) (s : List UInt8) : (allR bin (Rf.new, []) s).2 = plainL (feedL bin Rd.new s) := by
  have h := both_bytes bin s (Rd.new, An.new) (Rf.new, []) [] ⟨alike_new, rfl⟩
  exact h.2.symm

end Go.Proofs.Ytopgejjencoelaa
