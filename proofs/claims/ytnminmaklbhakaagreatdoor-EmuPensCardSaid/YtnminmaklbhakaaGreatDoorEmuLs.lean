/- What a terminal is sent, as lists: texts, sequences, numbers. Own work. Law EmuReports: beside the program. Own work. emu: what printing and controls leave as it is. Own work. Laws EmuAlts, EmuHides: beside the program. Own work. -/
import Derived.Test.YtnminmaklbhakaaGreatDoorEmus1
import Derived.Test.YtnminmaklbhakaaGreatDoorEscs2
set_option linter.unusedVariables false
set_option linter.unusedSimpArgs false
namespace Go.Proofs.YtnminmaklbhakaaGreatDoor
set_option linter.unusedVariables false
set_option linter.unusedSimpArgs false

theorem csi0 (f : Nat) (h1 : 64 ≤ f) (h2 : f ≤ 126) : feedP (pAt 0) [27, 91, f] = (pAt 0, [eCsi 0 [] [] f]) := by
  rw [show [27, 91, f] = 27 :: 91 :: [f] from rfl, open_csi, feedP_one, csi_end (pAt 2) rfl rfl f h1 h2]
  rfl
theorem csi1 (n f : Nat) (hn : n ≤ 9999) (h1 : 64 ≤ f) (h2 : f ≤ 126) : feedP (pAt 0) (27 :: 91 :: (decN n ++ [f])) = (pAt 0, [eCsi 0 [(n : Int)] [] f]) := by
  rw [open_csi, feedP_add, csi_number (pAt 2) rfl rfl [] rfl n, feedP_one]
  have h := csi_end { pAt 2 with first := false, any := true, nums := [] ++ [min (n : Int) 9999] } rfl rfl f h1 h2
  simp only [h]
  have e : min (n : Int) 9999 = n := by omega
  simp [e, pAt]
theorem csi_semi1 (n : Nat) : byteP { pAt 2 with first := false, any := true, nums := [] ++ [(n : Int)] } 59 = ({ pAt 2 with first := false, any := true, nums := [(n : Int), -1] }, []) := by
  rw [byteP_csi _ rfl 59 (by omega) (by omega)]
  unfold csiP
  rw [if_neg (by omega), if_neg (by omega), if_neg (by simp [pAt]), if_neg (by omega), if_pos rfl]
  rfl
theorem csi2 (n k f : Nat) (hn : n ≤ 9999) (hk : k ≤ 9999) (h1 : 64 ≤ f) (h2 : f ≤ 126) : feedP (pAt 0) (27 :: 91 :: (decN n ++ 59 :: (decN k ++ [f]))) = (pAt 0, [eCsi 0 [(n : Int), (k : Int)] [] f]) := by
  have e : min (n : Int) 9999 = n := by omega
  have e2 : min (k : Int) 9999 = k := by omega
  rw [open_csi, feedP_add, csi_number (pAt 2) rfl rfl [] rfl n, e, feedP_cons]
  simp only [csi_semi1]
  rw [feedP_add, csi_number { pAt 2 with first := false, any := true, nums := [(n : Int), -1] } rfl rfl [(n : Int)] rfl k, feedP_one, e2]
  have h := csi_end { pAt 2 with first := false, any := true, nums := [(n : Int)] ++ [(k : Int)] } rfl rfl f h1 h2
  simp only [h]
  simp [pAt]
theorem csi_mark : byteP (pAt 2) 63 = ({ pAt 2 with first := false, mark := 63 }, []) := by kernel_rfl
theorem csiq (n f : Nat) (hn : n ≤ 9999) (h1 : 64 ≤ f) (h2 : f ≤ 126) : feedP (pAt 0) (27 :: 91 :: 63 :: (decN n ++ [f])) = (pAt 0, [eCsi 63 [(n : Int)] [] f]) := by
  rw [open_csi, feedP_cons, csi_mark]
  simp only
  rw [feedP_add, csi_number { pAt 2 with first := false, mark := 63 } rfl rfl [] rfl n, feedP_one]
  have h := csi_end { pAt 2 with first := false, mark := 63, any := true, nums := [] ++ [min (n : Int) 9999] } rfl rfl f h1 h2
  simp only [h]
  have e : min (n : Int) 9999 = n := by omega
  simp [e, pAt]
theorem esc1 (c : Nat) (h1 : 48 ≤ c) (h2 : c ≤ 126) (hn : c ≠ 91 ∧ c ≠ 93 ∧ c ≠ 80) : feedP (pAt 0) [27, c] = (pAt 0, [eEscape [] c]) := by
  rw [show [27, c] = 27 :: [c] from rfl, open_esc, feedP_one, byteP_esc (pAt 1) rfl c (by omega) h2]
  unfold escP
  rw [if_neg (by omega), if_neg (fun e => hn.1 e.1), if_neg (fun e => hn.2.1 e.1), if_neg (fun e => hn.2.2 e.1)]
  rfl
theorem esc2 (i c : Nat) (hi : 32 ≤ i ∧ i ≤ 47) (h1 : 48 ≤ c) (h2 : c ≤ 126) : feedP (pAt 0) [27, i, c] = (pAt 0, [eEscape [i] c]) := by
  rw [show [27, i, c] = 27 :: i :: [c] from rfl, open_esc, feedP_cons, byteP_esc (pAt 1) rfl i hi.1 (by omega)]
  have e : escP (pAt 1) i = ({ pAt 1 with inter := [i] }, []) := by
    unfold escP
    rw [if_pos (by omega)]
    rfl
  rw [e]
  simp only
  rw [feedP_one, byteP_esc { pAt 1 with inter := [i] } rfl c (by omega) h2]
  unfold escP
  rw [if_neg (by omega), if_neg (by simp), if_neg (by simp), if_neg (by simp)]
  rfl
theorem ctl1 (c : Nat) (h : c < 32) (h24 : c ≠ 24) (h26 : c ≠ 26) (h27 : c ≠ 27) : feedP (pAt 0) [c] = (pAt 0, [eControl c]) := by
  rw [feedP_one]
  unfold byteP
  rw [if_neg (by omega), if_neg h27, if_pos h, if_neg (by simp [PL.text, pAt])]
  rfl

/-- What is told of a terminal that stands at its parser's beginning. -/
def fed (m : EmM) (l : List Nat) : EmM × List Nat := m.acts (feedP (pAt 0) l).2
theorem feedM_ground {m m' : EmM} {l o : List Nat} {acl : List EAct} (h : feedP (pAt 0) l = (pAt 0, acl)) (ha : m.acts acl = (m', o)) : feedM (pAt 0, m) l = ((pAt 0, m'), o) := by
  simp only [feedM, h, ha]
theorem acts_one (m : EmM) (a : EAct) : m.acts [a] = ((m.act a).1, (m.act a).2) := by simp [EmM.acts]
theorem act_print (m : EmM) (r : Nat) : m.act (ePrint r) = (m.print r, []) := rfl
theorem act_control (m : EmM) (c : Nat) : m.act (eControl c) = (m.control c, []) := rfl
theorem act_escape (m : EmM) (i : List Nat) (c : Nat) : m.act (eEscape i c) = (m.escape i c, []) := rfl
theorem act_csi (m : EmM) (l : List Int) (c : Nat) : m.act (eCsi 0 l [] c) = m.unmarked c l := rfl
theorem feed_csi0 (m : EmM) (f : Nat) (h1 : 64 ≤ f) (h2 : f ≤ 126) : feedM (pAt 0, m) [27, 91, f] = ((pAt 0, (m.unmarked f []).1), (m.unmarked f []).2) := feedM_ground (csi0 f h1 h2) (acts_one m _)
theorem feed_csi1 (m : EmM) (n f : Nat) (hn : n ≤ 9999) (h1 : 64 ≤ f) (h2 : f ≤ 126) : feedM (pAt 0, m) (27 :: 91 :: (decN n ++ [f])) = ((pAt 0, (m.unmarked f [(n : Int)]).1), (m.unmarked f [(n : Int)]).2) := feedM_ground (csi1 n f hn h1 h2) (acts_one m _)
theorem feed_csi2 (m : EmM) (n k f : Nat) (hn : n ≤ 9999) (hk : k ≤ 9999) (h1 : 64 ≤ f) (h2 : f ≤ 126) : feedM (pAt 0, m) (27 :: 91 :: (decN n ++ 59 :: (decN k ++ [f]))) = ((pAt 0, (m.unmarked f [(n : Int), (k : Int)]).1), (m.unmarked f [(n : Int), (k : Int)]).2) := feedM_ground (csi2 n k f hn hk h1 h2) (acts_one m _)
theorem feed_mode (m : EmM) (n f : Nat) (hn : n ≤ 9999) (h : f = 104 ∨ f = 108) : feedM (pAt 0, m) (27 :: 91 :: 63 :: (decN n ++ [f])) = ((pAt 0, EmM.turnM (f == 104) m n), []) := by
  refine feedM_ground (csiq n f hn (by omega) (by omega)) ?_
  rw [acts_one]
  have : m.act (eCsi 63 [(n : Int)] [] f) = (EmM.turnM (f == 104) m n, []) := by
    show m.csi (eCsi 63 [(n : Int)] [] f) = _
    unfold EmM.csi
    rw [if_neg (by simp [eCsi]), if_neg (by simp [eCsi]), if_pos ⟨rfl, h⟩]
    rfl
  rw [this]
theorem feed_esc1 (m : EmM) (c : Nat) (h1 : 48 ≤ c) (h2 : c ≤ 126) (hn : c ≠ 91 ∧ c ≠ 93 ∧ c ≠ 80) : feedM (pAt 0, m) [27, c] = ((pAt 0, m.bareEscape c), []) := feedM_ground (esc1 c h1 h2 hn) (acts_one m _)
theorem feed_esc2 (m : EmM) (i c : Nat) (hi : 32 ≤ i ∧ i ≤ 47) (h1 : 48 ≤ c) (h2 : c ≤ 126) : feedM (pAt 0, m) [27, i, c] = ((pAt 0, m.escape [i] c), []) := feedM_ground (esc2 i c hi h1 h2) (acts_one m _)
theorem feed_ctl (m : EmM) (c : Nat) (h : c < 32) (h24 : c ≠ 24) (h26 : c ≠ 26) (h27 : c ≠ 27) : feedM (pAt 0, m) [c] = ((pAt 0, m.control c), []) := feedM_ground (ctl1 c h h24 h26 h27) (acts_one m _)
def prints (m : EmM) (l : List Nat) : EmM := l.foldl EmM.print m
theorem acts_prints (l : List Nat) : ∀ m : EmM, m.acts (l.map ePrint) = (prints m l, []) := by
  induction l with
  | nil => intro m; rfl
  | cons c r ih => intro m; simp only [List.map_cons, EmM.acts, act_print, ih, prints, List.foldl_cons, List.append_nil]
theorem feed_prints (m : EmM) (l : List Nat) (h : ∀ c ∈ l, 32 ≤ c ∧ c ≤ 126) : feedM (pAt 0, m) l = ((pAt 0, prints m l), []) := feedM_ground (feedP_plain l h) (acts_prints l m)
theorem feed_then {x x1 : PL × EmM} {a b o : List Nat} (h : feedM x a = (x1, o)) : feedM x (a ++ b) = ((feedM x1 b).1, o ++ (feedM x1 b).2) := by rw [feedM_add, h]
theorem feed_nil (x : PL × EmM) : feedM x [] = (x, []) := rfl
/-- 24 ends whatever was half read. -/
theorem feed_24 (x : PL × EmM) (l : List Nat) : ∃ m, (feedM x (l ++ [24])).1 = (pAt 0, m) := by
  rw [feedM_add]
  simp only [feedM]
  exact ⟨_, by rw [feedP_one, byteP_24]⟩

end Go.Proofs.YtnminmaklbhakaaGreatDoor
namespace Go.Proofs.YtnminmaklbhakaaGreatDoor
set_option linter.unusedVariables false

theorem numAt_0 (n : Nat) (l : List Int) (h : n ≤ 9999) : EmM.numAt ((n : Int) :: l) 0 = n := by
  unfold EmM.numAt
  simp only [List.getD_cons_zero]
  omega
theorem numAt_1 (n : Nat) (k : Int) (l : List Int) (h : n ≤ 9999) : EmM.numAt (k :: (n : Int) :: l) 1 = n := by
  unfold EmM.numAt
  simp only [List.getD_cons_succ, List.getD_cons_zero]
  omega
theorem count_0 (n : Nat) (l : List Int) (h : n ≤ 9999) : EmM.count ((n : Int) :: l) 0 = max n 1 := by unfold EmM.count; rw [numAt_0 n l h]
theorem count_1 (n : Nat) (k : Int) (l : List Int) (h : n ≤ 9999) : EmM.count (k :: (n : Int) :: l) 1 = max n 1 := by unfold EmM.count; rw [numAt_1 n k l h]

/-- What sends the cursor to a place. -/
def goXY (y x : Nat) : List Nat := 27 :: 91 :: (decN y ++ 59 :: (decN x ++ [72]))
theorem feed_go (m : EmM) (y x : Nat) (hy : y ≤ 9999) (hx : x ≤ 9999) : feedM (pAt 0, m) (goXY y x) = ((pAt 0, m.goTo ((max x 1 : Nat) - 1 : Int) (m.row (max y 1))), []) := by
  unfold goXY
  rw [feed_csi2 m y x 72 hy hx (by omega) (by omega)]
  unfold EmM.unmarked
  rw [if_pos (by omega), count_0 y _ hy, count_1 x _ _ hx]
  rfl
theorem feed_6n (m : EmM) : feedM (pAt 0, m) [27, 91, 54, 110] = ((pAt 0, m), [27, 91] ++ decN m.rowTold ++ [59] ++ decN (m.st.x + 1) ++ [82]) := by
  have h := feed_csi1 m 6 110 (by omega) (by omega) (by omega)
  rw [show decN 6 = [54] from by rw [decN, if_pos (by omega)]] at h
  exact h
theorem feed_5n (m : EmM) : feedM (pAt 0, m) [27, 91, 53, 110] = ((pAt 0, m), [27, 91, 48, 110]) := by
  have h := feed_csi1 m 5 110 (by omega) (by omega) (by omega)
  rw [show decN 5 = [53] from by rw [decN, if_pos (by omega)]] at h
  exact h
theorem feed_c (m : EmM) : feedM (pAt 0, m) [27, 91, 99] = ((pAt 0, m), [27, 91, 63, 49, 59, 50, 99]) := feed_csi0 m 99 (by omega) (by omega)
theorem feed_0c (m : EmM) : feedM (pAt 0, m) [27, 91, 48, 99] = ((pAt 0, m), [27, 91, 63, 49, 59, 50, 99]) := by
  have h := feed_csi1 m 0 99 (by omega) (by omega) (by omega)
  rw [show decN 0 = [48] from by rw [decN, if_pos (by omega)]] at h
  exact h
theorem feed_1c (m : EmM) : feedM (pAt 0, m) [27, 91, 49, 99] = ((pAt 0, m), []) := by
  have h := feed_csi1 m 1 99 (by omega) (by omega) (by omega)
  rw [show decN 1 = [49] from by rw [decN, if_pos (by omega)]] at h
  exact h
/-- All reports behind each other. -/
theorem feed_tells (m : EmM) : (feedM (pAt 0, m) [27, 91, 53, 110, 27, 91, 99, 27, 91, 48, 99, 27, 91, 49, 99]).2 = [27, 91, 48, 110, 27, 91, 63, 49, 59, 50, 99, 27, 91, 63, 49, 59, 50, 99] := by
  rw [show ([27, 91, 53, 110, 27, 91, 99, 27, 91, 48, 99, 27, 91, 49, 99] : List Nat) = [27, 91, 53, 110] ++ ([27, 91, 99] ++ ([27, 91, 48, 99] ++ [27, 91, 49, 99])) from rfl,
    feedM_add, feed_5n, feedM_add, feed_c, feedM_add, feed_0c, feed_1c]
  rfl

theorem new_go (W H x y : Nat) : (EmM.new W H).row (max y 1) = ((max y 1 : Nat) : Int) - 1 := rfl
theorem reports_says (W H x y : Nat) (hx : x ≤ 9999) (hy : y ≤ 9999) (a b : Nat) (ha : min (max x 1) W = a) (hb : min (max y 1) H = b) (a1 : 1 ≤ a) (b1 : 1 ≤ b) :
    ∃ m, feedM (pAt 0, EmM.new W H) (goXY y x ++ [27, 91, 54, 110]) = ((pAt 0, m), [27, 91] ++ decN b ++ [59] ++ decN a ++ [82]) ∧ m.st.x = a - 1 ∧ m.st.y = b - 1 := by
  refine ⟨(EmM.new W H).goTo ((max x 1 : Nat) - 1 : Int) (((max y 1 : Nat) : Int) - 1), ?_, ?_, ?_⟩
  · rw [feedM_add, feed_go _ y x hy hx, new_go W H x y, feed_6n]
    have e1 : ((EmM.new W H).goTo ((max x 1 : Nat) - 1 : Int) (((max y 1 : Nat) : Int) - 1)).rowTold = b := by
      show clampN (((max y 1 : Nat) : Int) - 1) H + 1 = b
      unfold clampN
      omega
    have e2 : ((EmM.new W H).goTo ((max x 1 : Nat) - 1 : Int) (((max y 1 : Nat) : Int) - 1)).st.x + 1 = a := by
      show clampN (((max x 1 : Nat) : Int) - 1) W + 1 = a
      unfold clampN
      omega
    rw [e1, e2]
    rfl
  · show clampN (((max x 1 : Nat) : Int) - 1) W = a - 1
    unfold clampN
    omega
  · show clampN (((max y 1 : Nat) : Int) - 1) H = b - 1
    unfold clampN
    omega

end Go.Proofs.YtnminmaklbhakaaGreatDoor
namespace Go.Proofs.YtnminmaklbhakaaGreatDoor
set_option linter.unusedVariables false

structure Calm (m m' : EmM) : Prop where
  cH : m'.hid = m.hid
  cO : m'.O.isSome = m.O.isSome
  cW : m'.W = m.W
  cV : m'.H = m.H
  cS : m'.sv = m.sv
  cF : m.O.isSome = true → m'.F = m.F
namespace Calm
theorem refl (m : EmM) : Calm m m := ⟨rfl, rfl, rfl, rfl, rfl, fun _ => rfl⟩
theorem trans {a b c : EmM} (h : Calm a b) (k : Calm b c) : Calm a c :=
  ⟨k.cH.trans h.cH, k.cO.trans h.cO, k.cW.trans h.cW, k.cV.trans h.cV, k.cS.trans h.cS, fun x => (k.cF (h.cO.trans x)).trans (h.cF x)⟩
theorem put (m : EmM) (G : Nat → CellM) : Calm m (m.put G) := by
  unfold EmM.put
  cases h : m.O
  · exact ⟨rfl, by rw [h], rfl, rfl, rfl, fun x => by rw [h] at x; cases x⟩
  · exact ⟨rfl, by rw [h]; rfl, rfl, rfl, rfl, fun _ => rfl⟩
theorem goTo (m : EmM) (x y : Int) : Calm m (m.goTo x y) := ⟨rfl, rfl, rfl, rfl, rfl, fun _ => rfl⟩
theorem index (m : EmM) : Calm m m.index := by
  unfold EmM.index
  split
  · exact (put _ _).trans (goTo _ _ _)
  · exact goTo _ _ _
theorem wrapOne (m : EmM) : Calm m m.wrapOne := by
  unfold EmM.wrapOne
  split
  · exact (show Calm m m.setX0 from ⟨rfl, rfl, rfl, rfl, rfl, fun _ => rfl⟩).trans (index _)
  · exact refl _
theorem insOne (m : EmM) : Calm m m.insOne := by
  unfold EmM.insOne
  split
  · exact put _ _
  · exact refl _
theorem setOne (m : EmM) (r : Int) : Calm m (m.setOne r) := put _ _
theorem after (m : EmM) : Calm m m.after := ⟨rfl, rfl, rfl, rfl, rfl, fun _ => rfl⟩
theorem print (m : EmM) (r : Nat) : Calm m (m.print r) := (((wrapOne m).trans (insOne _)).trans (setOne _ _)).trans (after _)
theorem control (m : EmM) (b : Nat) : Calm m (m.control b) := by
  unfold EmM.control
  split
  · exact goTo _ _ _
  split
  · exact goTo _ _ _
  split
  · exact index _
  split
  · exact goTo _ _ _
  split
  · exact ⟨rfl, rfl, rfl, rfl, rfl, fun _ => rfl⟩
  split
  · exact ⟨rfl, rfl, rfl, rfl, rfl, fun _ => rfl⟩
  · exact refl _
theorem act (m : EmM) (a : EAct) (h : a.kind = 1 ∨ a.kind = 2) : Calm m (m.act a).1 := by
  unfold EmM.act
  rcases h with h | h
  · rw [if_pos h]; exact print _ _
  · rw [if_neg (by omega), if_pos h]; exact control _ _
theorem acts (l : List EAct) (h : ∀ a ∈ l, a.kind = 1 ∨ a.kind = 2) : ∀ m : EmM, Calm m (m.acts l).1 := by
  induction l with
  | nil => intro m; exact refl m
  | cons a r ih => intro m; exact (act m a (h a (by simp))).trans (ih (fun x hx => h x (by simp [hx])) _)
end Calm

theorem flushed_g (p : PL) : ∀ a ∈ p.flushed, a.kind = 1 ∨ a.kind = 2 := by
  intro a ha
  unfold PL.flushed at ha
  split at ha
  · cases ha
  · simp at ha; subst ha; exact .inl rfl
theorem byteP_g (p : PL) (h : p.st = 0) (c : Nat) (hc : c ≠ 27) : (byteP p c).1.st = 0 ∧ ∀ a ∈ (byteP p c).2, a.kind = 1 ∨ a.kind = 2 := by
  have ht : ¬ p.text := by unfold PL.text; omega
  have hm : ∀ l : List Nat, ∀ a ∈ l.map ePrint, a.kind = 1 ∨ a.kind = 2 := fun l a ha => by
    obtain ⟨r, _, rfl⟩ := List.mem_map.1 ha
    exact .inl rfl
  unfold byteP
  by_cases h1 : c = 24 ∨ c = 26
  · rw [if_pos h1, if_pos h]; exact ⟨rfl, flushed_g p⟩
  rw [if_neg h1, if_neg hc]
  by_cases h2 : c < 32
  · rw [if_pos h2, if_neg ht, if_pos h]
    refine ⟨h, fun a ha => ?_⟩
    rcases List.mem_append.1 ha with y | y
    · exact flushed_g p a y
    · simp at y; subst y; exact .inr rfl
  rw [if_neg h2]
  by_cases h3 : c = 127 ∧ ¬ p.text
  · rw [if_pos h3, if_pos h]; exact ⟨h, flushed_g p⟩
  rw [if_neg h3, if_neg ht, if_neg (by omega), if_neg (by omega), if_pos h]
  exact ⟨h, hm _⟩
theorem feedP_g (l : List Nat) (hl : ∀ c ∈ l, c ≠ 27) : ∀ p : PL, p.st = 0 → (feedP p l).1.st = 0 ∧ ∀ a ∈ (feedP p l).2, a.kind = 1 ∨ a.kind = 2 := by
  induction l with
  | nil => intro p h; exact ⟨h, fun a ha => by cases ha⟩
  | cons c r ih =>
    intro p h
    obtain ⟨h1, h2⟩ := byteP_g p h c (hl c (by simp))
    obtain ⟨h3, h4⟩ := ih (fun x hx => hl x (by simp [hx])) _ h1
    rw [feedP_cons]
    refine ⟨h3, fun a ha => ?_⟩
    rcases List.mem_append.1 ha with y | y
    · exact h2 a y
    · exact h4 a y
/-- Without a 27 all stays calm. -/
theorem feedM_calm (x : PL × EmM) (h : x.1.st = 0) (l : List Nat) (hl : ∀ c ∈ l, c ≠ 27) : Calm x.2 (feedM x l).1.2 := Calm.acts _ (feedP_g l hl x.1 h).2 x.2

/-- Plain bytes, and controls, leave nothing half read. -/
theorem feedP_plain2 (l : List Nat) (h : ∀ c ∈ l, c = 10 ∨ c = 13 ∨ (32 ≤ c ∧ c ≤ 126)) : (feedP (pAt 0) l).1 = pAt 0 := by
  induction l with
  | nil => rfl
  | cons c r ih =>
    rw [feedP_cons]
    have e : (byteP (pAt 0) c).1 = pAt 0 := by
      rcases h c (by simp) with y | y | y
      · have := ctl1 c (by omega) (by omega) (by omega) (by omega)
        rw [feedP_one] at this; rw [this]
      · have := ctl1 c (by omega) (by omega) (by omega) (by omega)
        rw [feedP_one] at this; rw [this]
      · rw [byteP_plain c y.1 y.2]
    rw [e]
    exact ih (fun x hx => h x (by simp [hx]))

end Go.Proofs.YtnminmaklbhakaaGreatDoor
namespace Go.Proofs.YtnminmaklbhakaaGreatDoor
set_option linter.unusedVariables false

def altOn : List Nat := [27, 91, 63, 49, 48, 52, 57, 104]
def altOff : List Nat := [27, 91, 63, 49, 48, 52, 57, 108]
theorem decN_1049 : decN 1049 = [49, 48, 52, 57] := by simp [decN]
theorem decN_25 : decN 25 = [50, 53] := by simp [decN]
theorem feed_altOn (m : EmM) : feedM (pAt 0, m) altOn = ((pAt 0, m.turnOther true), []) := by
  have h := feed_mode m 1049 104 (by omega) (.inl rfl)
  rw [decN_1049] at h
  exact h
theorem feed_altOff (m : EmM) : feedM (pAt 0, m) altOff = ((pAt 0, m.turnOther false), []) := by
  have h := feed_mode m 1049 108 (by omega) (.inr rfl)
  rw [decN_1049] at h
  exact h
theorem feed_hide (m : EmM) : feedM (pAt 0, m) [27, 91, 63, 50, 53, 108] = ((pAt 0, { m with hid := true }), []) := by
  have h := feed_mode m 25 108 (by omega) (.inr rfl)
  rw [decN_25] at h
  exact h
theorem feed_show (m : EmM) : feedM (pAt 0, m) [27, 91, 63, 50, 53, 104] = ((pAt 0, { m with hid := false }), []) := by
  have h := feed_mode m 25 104 (by omega) (.inl rfl)
  rw [decN_25] at h
  exact h

/-- What a Screen tells is as it was. -/
structure Shown (m m' : EmM) : Prop where
  sW : m'.W = m.W
  sH : m'.H = m.H
  sX : m'.st.x = m.st.x
  sY : m'.st.y = m.st.y
  sh : m'.hid = m.hid
  sF : m'.shown = m.shown
theorem alts_says (m : EmM) (hx : m.st.x < m.W) (hy : m.st.y < m.H) (ha : m.alt = false) (b : List Nat) (hb : ∀ c ∈ b, c = 10 ∨ c = 13 ∨ (32 ≤ c ∧ c ≤ 126)) :
    (m.turnOther true).alt = true ∧ ∃ m2, (feedM (pAt 0, m.turnOther true) b).1 = (pAt 0, m2) ∧ (m2.turnOther false).alt = false ∧ Shown m (m2.turnOther false) := by
  have e1 : m.turnOther true = { m.save with O := some fun _ => m.blank, late := false } := by
    unfold EmM.turnOther
    rw [ha, if_neg (by simp), if_pos rfl]
  have hO : m.O = none := by
    unfold EmM.alt at ha
    cases h : m.O
    · rfl
    · rw [h] at ha; cases ha
  have a1 : (m.turnOther true).alt = true := by rw [e1]; rfl
  refine ⟨a1, (feedM (pAt 0, m.turnOther true) b).1.2, ?_, ?_⟩
  · show ((feedP (pAt 0) b).1, _) = _
    rw [feedP_plain2 b hb]
    rfl
  have cm := feedM_calm (pAt 0, m.turnOther true) rfl b (fun c hc => by rcases hb c hc with y | y | y <;> omega)
  obtain ⟨m2, h2⟩ : ∃ m2, (feedM (pAt 0, m.turnOther true) b).1.2 = m2 := ⟨_, rfl⟩
  rw [h2] at cm ⊢
  have a2 : m2.alt = true := by show m2.O.isSome = true; rw [cm.cO]; exact a1
  have e2 : m2.turnOther false = ({ m2 with O := none } : EmM).restore := by
    unfold EmM.turnOther
    rw [a2, if_neg (by simp), if_neg (by simp)]
  have sv : m2.sv = m.st := by rw [cm.cS, e1]; rfl
  have eW : m2.W = m.W := by rw [cm.cW, e1]; rfl
  have eV : m2.H = m.H := by rw [cm.cV, e1]; rfl
  have eF : m2.F = m.F := by rw [cm.cF a1, e1]; rfl
  have eh : m2.hid = m.hid := by rw [cm.cH, e1]; rfl
  rw [e2]
  refine ⟨rfl, ⟨eW, eV, ?_, ?_, eh, ?_⟩⟩
  · show clampN (m2.sv.x : Int) m2.W = _
    rw [sv, eW]; unfold clampN; omega
  · show clampN (m2.sv.y : Int) m2.H = _
    rw [sv, eV]; unfold clampN; omega
  · show m2.F = m.shown
    unfold EmM.shown
    rw [hO, eF]

/-- Behind bytes without a 27, and 24, the cursor is hidden, or not, as it was. -/
theorem hides_says (m : EmM) (l : List Nat) (hl : ∀ c ∈ l, c ≠ 27) (hO : m.O = none) : ∃ m', (feedM (pAt 0, m) (l ++ [24])).1 = (pAt 0, m') ∧ m'.hid = m.hid ∧ m'.O = none ∧ m'.W = m.W ∧ m'.H = m.H := by
  obtain ⟨m', h⟩ := feed_24 (pAt 0, m) l
  have cm := feedM_calm (pAt 0, m) rfl (l ++ [24]) (fun c hc => by
    rcases List.mem_append.1 hc with y | y
    · exact hl c y
    · simp at y; omega)
  rw [h] at cm
  refine ⟨m', h, cm.cH, ?_, cm.cW, cm.cV⟩
  have := cm.cO
  rw [hO] at this
  cases h : m'.O
  · rfl
  · rw [h] at this; cases this

end Go.Proofs.YtnminmaklbhakaaGreatDoor
