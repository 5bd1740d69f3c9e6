/- patch over lists: what is read off bytes; a difference is read back. Own work. -/
import Derived.Test.YtgomnigchfmfhaaPatM
import Derived.Test.YtgomnigchfmfhaaCellRdA
namespace Go.Proofs.Ytgomnigchfmfhaa
set_option linter.unusedVariables false
set_option linter.unusedSimpArgs false

/-- The four reads of a cell. -/
def rd1 (S : ByteArray) : Int × ByteArray × Int := numS S 0
def rd2 (S : ByteArray) : Int × ByteArray × Int := byteS (rd1 S).2.1 (rd1 S).2.2
def rd3 (S : ByteArray) : Int × ByteArray × Int := byteS (rd2 S).2.1 (rd2 S).2.2
def rd4 (S : ByteArray) : Int × ByteArray × Int := byteS (rd3 S).2.1 (rd3 S).2.2
def attrS (S : ByteArray) : At := ⟨(rd2 S).1, (rd3 S).1, (rd4 S).1 % 2 == 1, (rd4 S).1 / 2 % 2 == 1, (rd4 S).1 / 4 % 2 == 1⟩
/-- The cell that bytes begin with, and what stands behind it. -/
def cellS (S : ByteArray) : Option (CellM × ByteArray) := if (rd4 S).2.2 ≠ 0 ∨ ¬ (attrS S).ok ∨ (rd1 S).1 > 1114111 ∨ (rd4 S).1 > 7 then none else some (⟨(rd1 S).1, attrS S⟩, (rd4 S).2.1)

def layF (k : Nat) (c : CellM) (F : Nat → CellM) (i : Nat) : CellM := if i = k then c else F i
/-- m cells are read onto the places from k on. -/
def cellsS : Nat → (Nat → CellM) → Nat → ByteArray → Option ((Nat → CellM) × ByteArray)
  | 0, F, _, S => some (F, S)
  | m + 1, F, k, S => match cellS S with
    | none => none
    | some (c, T) => cellsS m (layF k c F) (k + 1) T
/-- c runs are read onto the places from k on. -/
def runsS (n : Nat) : Nat → Nat → (Nat → CellM) → ByteArray → Int → Option (Nat → CellM)
  | 0, _, F, _, _ => some F
  | c + 1, k, F, S, e =>
    if (numS (numS S e).2.1 (numS S e).2.2).1 = 0 ∨ (numS (numS S e).2.1 (numS S e).2.2).1 > (n : Int) - k - (numS S e).1 then none
    else match cellsS (numS (numS S e).2.1 (numS S e).2.2).1.toNat F (k + (numS S e).1.toNat) (numS (numS S e).2.1 (numS S e).2.2).2.1 with
      | none => none
      | some (G, T) => runsS n c (k + (numS S e).1.toNat + (numS (numS S e).2.1 (numS S e).2.2).1.toNat) G T 0
def sc1 (d : ByteArray) : Int × ByteArray × Int := numS d 0
def sc2 (d : ByteArray) : Int × ByteArray × Int := numS (sc1 d).2.1 (sc1 d).2.2
def sc3 (d : ByteArray) : Int × ByteArray × Int := numS (sc2 d).2.1 (sc2 d).2.2
def sc4 (d : ByteArray) : Int × ByteArray × Int := numS (sc3 d).2.1 (sc3 d).2.2
def sc5 (d : ByteArray) : Int × ByteArray × Int := byteS (sc4 d).2.1 (sc4 d).2.2
def sc6 (d : ByteArray) : Int × ByteArray × Int := numS (sc5 d).2.1 (sc5 d).2.2
def clW (x : Int) : Nat := (min (max x 2) 40).toNat
def clH (x : Int) : Nat := (min (max x 1) 20).toNat
def emptyC : CellM := ⟨32, .z⟩
def blankS (x y : Int) : Scr := ⟨clW x, clH y, clW x * clH y, fun _ => emptyC, 0, 0, false⟩
def zeroS : Scr := ⟨0, 0, 0, fun _ => .z, 0, 0, false⟩
/-- What is read, ahead of the runs. -/
def openS (a : Scr) (d : ByteArray) : Scr :=
  { blankS (sc1 d).1 (sc2 d).1 with F := if sizeB a (blankS (sc1 d).1 (sc2 d).1) = true then a.F else fun _ => emptyC, X := (sc3 d).1, Y := (sc4 d).1, hid := (sc5 d).1 != 0 }
def readS (a : Scr) (d : ByteArray) : Scr :=
  match runsS (openS a d).n (sc6 d).1.toNat 0 (openS a d).F (sc6 d).2.1 (sc6 d).2.2 with
  | none => zeroS
  | some G => { openS a d with F := G }

theorem marks_back (f g : Int) (b u i : Bool) : (((At.marks ⟨f, g, b, u, i⟩ : Nat) : Int) % 2 == 1) = b ∧ (((At.marks ⟨f, g, b, u, i⟩ : Nat) : Int) / 2 % 2 == 1) = u ∧ (((At.marks ⟨f, g, b, u, i⟩ : Nat) : Int) / 4 % 2 == 1) = i := by
  cases b <;> cases u <;> cases i <;> simp [At.marks]
theorem toNat_ofInt {x : Int} (h1 : 0 ≤ x) (h2 : x < 256) : ((UInt8.ofNat x.toNat).toNat : Int) = x := by
  rw [toNat_ofNat (by omega)]; omega
theorem cellS_back (c : CellM) (hc : okC c) (rest : List UInt8) : cellS ⟨(cellB c ++ rest).toArray⟩ = some (c, ⟨rest.toArray⟩) := by
  obtain ⟨r, ⟨f, g, b, u, i⟩⟩ := c
  obtain ⟨⟨r1, r2⟩, f1, f2, g1, g2⟩ := hc
  simp only at r1 r2 f1 f2 g1 g2
  have hm := At.marks_le ⟨f, g, b, u, i⟩
  obtain ⟨m1, m2, m3⟩ := marks_back f g b u i
  have e1 : rd1 ⟨(cellB ⟨r, ⟨f, g, b, u, i⟩⟩ ++ rest).toArray⟩ = (r, ⟨(UInt8.ofNat f.toNat :: UInt8.ofNat g.toNat :: UInt8.ofNat (At.marks ⟨f, g, b, u, i⟩) :: rest).toArray⟩, 0) := by
    unfold rd1 cellB
    simp only [List.append_assoc, List.cons_append, List.nil_append]
    rw [numS_enc _ _ (by omega)]
    simp only [Prod.mk.injEq, and_true]
    omega
  have e2 : rd2 ⟨(cellB ⟨r, ⟨f, g, b, u, i⟩⟩ ++ rest).toArray⟩ = (f, ⟨(UInt8.ofNat g.toNat :: UInt8.ofNat (At.marks ⟨f, g, b, u, i⟩) :: rest).toArray⟩, 0) := by
    unfold rd2
    rw [e1, byteS_cons, toNat_ofInt f1 (by omega)]
  have e3 : rd3 ⟨(cellB ⟨r, ⟨f, g, b, u, i⟩⟩ ++ rest).toArray⟩ = (g, ⟨(UInt8.ofNat (At.marks ⟨f, g, b, u, i⟩) :: rest).toArray⟩, 0) := by
    unfold rd3
    rw [e2, byteS_cons, toNat_ofInt g1 (by omega)]
  have e4 : rd4 ⟨(cellB ⟨r, ⟨f, g, b, u, i⟩⟩ ++ rest).toArray⟩ = (((At.marks ⟨f, g, b, u, i⟩ : Nat) : Int), ⟨rest.toArray⟩, 0) := by
    unfold rd4
    rw [e3, byteS_cons, toNat_ofNat (by omega)]
  have ea : attrS ⟨(cellB ⟨r, ⟨f, g, b, u, i⟩⟩ ++ rest).toArray⟩ = ⟨f, g, b, u, i⟩ := by
    unfold attrS
    rw [e2, e3, e4, m1, m2, m3]
  unfold cellS
  rw [ea, e1, e4, if_neg]
  rintro (h | h | h | h)
  · exact h rfl
  · exact h ⟨f1, f2, g1, g2⟩
  · simp only at h; omega
  · simp only at h; omega
theorem cellsB_cons (F : Nat → CellM) (f m : Nat) : cellsB F f (m + 1) = cellB (F f) ++ cellsB F (f + 1) m := by
  induction m with
  | zero => simp [cellsB]
  | succ m ih =>
    rw [cellsB_succ, ih, cellsB_succ F (f + 1) m, List.append_assoc, show f + (m + 1) = f + 1 + m from by omega]
/-- Places from k on, m of them, are those of B. -/
def overF (B : Nat → CellM) (k m : Nat) (F : Nat → CellM) (i : Nat) : CellM := if k ≤ i ∧ i < k + m then B i else F i
theorem cellsS_back (B : Nat → CellM) (rest : List UInt8) (m : Nat) : ∀ (F : Nat → CellM) (k : Nat), (∀ i, i < m → okC (B (k + i))) → cellsS m F k ⟨(cellsB B k m ++ rest).toArray⟩ = some (overF B k m F, ⟨rest.toArray⟩) := by
  induction m with
  | zero =>
    intro F k _
    have : overF B k 0 F = F := by funext i; unfold overF; rw [if_neg (by omega)]
    rw [this]
    rfl
  | succ m ih =>
    intro F k h
    rw [cellsB_cons, List.append_assoc]
    unfold cellsS
    rw [cellS_back (B k) (h 0 (by omega))]
    simp only
    rw [ih _ (k + 1) (fun i hi => by rw [show k + 1 + i = k + (i + 1) from by omega]; exact h (i + 1) (by omega))]
    congr 2
    funext i
    unfold overF layF
    by_cases e : i = k
    · subst e; rw [if_neg (by omega), if_pos rfl, if_pos (by omega)]
    · by_cases e2 : k + 1 ≤ i ∧ i < k + 1 + m
      · rw [if_pos e2, if_pos (by omega)]
      · rw [if_neg e2, if_neg e, if_neg (by omega)]
/-- What runs make of the places. -/
def overR (B : Nat → CellM) : List (Nat × Nat) → (Nat → CellM) → Nat → CellM
  | [], F => F
  | (f, b) :: r, F => overR B r (overF B f (b - f) F)
theorem runsS_back (B : Nat → CellM) (n : Nat) (hn : n ≤ 1000000) (hB : ∀ k, k < n → okC (B k)) (rest : List UInt8) (l : List (Nat × Nat)) : ∀ (F : Nat → CellM) (k e : Nat), Sorted e n l → k ≤ e → runsS n l.length k F ⟨(runsB B k l ++ rest).toArray⟩ 0 = some (overR B l F) := by
  induction l with
  | nil => intro F k e _ _; rfl
  | cons r l ih =>
    intro F k e h hk
    obtain ⟨f, b⟩ := r
    obtain ⟨h1, h2, h3, h4⟩ := h
    have h2 : f < b := h2
    have h3 : b ≤ n := h3
    have h1 : e ≤ f := h1
    have h4 : Sorted (b + 1) n l := h4
    have q1 : numS ⟨(runsB B k ((f, b) :: l) ++ rest).toArray⟩ 0 = (((f - k : Nat) : Int), ⟨(enc (b - f) ++ (cellsB B f (b - f) ++ (runsB B b l ++ rest))).toArray⟩, 0) := by
      show numS ⟨((enc (f - k) ++ enc (b - f) ++ cellsB B f (b - f) ++ runsB B b l) ++ rest).toArray⟩ 0 = _
      simp only [List.append_assoc]
      exact numS_enc (f - k) _ (by omega)
    have q2 : numS ⟨(enc (b - f) ++ (cellsB B f (b - f) ++ (runsB B b l ++ rest))).toArray⟩ 0 = (((b - f : Nat) : Int), ⟨(cellsB B f (b - f) ++ (runsB B b l ++ rest)).toArray⟩, 0) := numS_enc (b - f) _ (by omega)
    simp only [List.length_cons]
    unfold runsS
    rw [q1]
    (try simp only)
    rw [q2]
    (try simp only)
    rw [if_neg (by omega), Int.toNat_natCast, Int.toNat_natCast, show k + (f - k) = f from by omega, cellsS_back B _ _ _ _ (fun i hi => hB _ (by omega))]
    simp only
    rw [show f + (b - f) = b from by omega]
    exact ih _ b (b + 1) h4 (by omega)
theorem overR_at (B : Nat → CellM) (l : List (Nat × Nat)) : ∀ (F : Nat → CellM) (i : Nat), overR B l F i = B i ∨ (overR B l F i = F i ∧ ∀ r ∈ l, ¬ (r.1 ≤ i ∧ i < r.2)) := by
  induction l with
  | nil => intro F i; exact .inr ⟨rfl, fun r hr => by simp at hr⟩
  | cons r l ih =>
    intro F i
    obtain ⟨f, b⟩ := r
    rcases ih (overF B f (b - f) F) i with h | ⟨h, h2⟩
    · exact .inl h
    · unfold overR
      rw [h]
      unfold overF
      by_cases e : f ≤ i ∧ i < f + (b - f)
      · rw [if_pos e]; exact .inl rfl
      · rw [if_neg e]
        exact .inr ⟨rfl, fun r hr => by
          rcases List.mem_cons.1 hr with rfl | hr
          · simp only; omega
          · exact h2 r hr⟩
theorem runsN_in (ch : Nat → Bool) (n : Nat) : ∀ i, i < n → ch i = true → ∃ r ∈ runsN ch n, r.1 ≤ i ∧ i < r.2 := by
  induction n with
  | zero => intro i h; omega
  | succ n ih =>
    intro i hi hc
    have key : ∀ i, i < n → ch i = true → ∃ r ∈ pushR (runsN ch n) n, r.1 ≤ i ∧ i < r.2 := fun i hi hc => by
      obtain ⟨r, hr, h1, h2⟩ := ih i hi hc
      rcases last_split (runsN ch n) with e | ⟨q, ⟨f, b⟩, e⟩
      · rw [e] at hr; simp at hr
      · rw [e] at hr ⊢
        by_cases hb : b = n
        · subst hb
          rw [pushR_last]
          rcases List.mem_append.1 hr with hr | hr
          · exact ⟨r, List.mem_append.2 (.inl hr), h1, h2⟩
          · rw [List.mem_singleton.1 hr] at h1 h2
            exact ⟨(f, b + 1), by simp, h1, by simp only at h2 ⊢; omega⟩
        · rw [pushR_far _ _ _ _ hb]
          exact ⟨r, List.mem_append.2 (.inl hr), h1, h2⟩
    have last : ∃ r ∈ pushR (runsN ch n) n, r.1 ≤ n ∧ n < r.2 := by
      rcases last_split (runsN ch n) with e | ⟨q, ⟨f, b⟩, e⟩
      · rw [e]; exact ⟨(n, n + 1), by simp [pushR_nil], Nat.le_refl _, Nat.lt_succ_self _⟩
      · rw [e]
        by_cases hb : b = n
        · subst hb
          rw [pushR_last]
          have h0 := (runsN_ok ch b).1
          rw [e] at h0
          have hfb : f < b := by
            have key : ∀ (q : List (Nat × Nat)) (e : Nat), Sorted e b (q ++ [(f, b)]) → f < b := by
              intro q
              induction q with
              | nil => intro e h; exact h.2.1
              | cons x q ih => intro e h; exact ih _ h.2.2.2
            exact key q 0 h0
          exact ⟨(f, b + 1), by simp, by simp only; omega, Nat.lt_succ_self _⟩
        · rw [pushR_far _ _ _ _ hb]
          exact ⟨(n, n + 1), by simp, Nat.le_refl _, Nat.lt_succ_self _⟩
    by_cases h : ch n = true
    · rw [runsN_yes h]
      by_cases e : i = n
      · subst e; exact last
      · exact key i (by omega) hc
    · have h : ch n = false := by simpa using h
      rw [runsN_no h]
      have : i ≠ n := fun e => by subst e; rw [hc] at h; cases h
      exact ih i (by omega) hc

theorem min_cl {x : Int} (h : min (max x 2) 40 = x) : (clW x : Int) = x := by unfold clW; omega
theorem min_ch {x : Int} (h : min (max x 1) 20 = x) : (clH x : Int) = x := by unfold clH; omega
theorem hid_back (b : Bool) : ((((UInt8.ofNat (if b = true then 1 else 0)).toNat : Nat) : Int) != 0) = b := by cases b <;> rfl

/-- A difference is read back. -/
theorem read_back (a b : Scr) (ha : a.Ok) (hb : b.Ok) : (readS a ⟨(diffB a b).toArray⟩).Like b := by
  have hw := hb.w
  have hh := hb.h
  have hx := hb.x
  have hy := hb.y
  have h8 := hb.n800
  obtain ⟨d, hd⟩ : ∃ d : ByteArray, d = ⟨(diffB a b).toArray⟩ := ⟨_, rfl⟩
  obtain ⟨l, hl⟩ : ∃ l, l = runsN (chg a b) b.n := ⟨_, rfl⟩
  have q1 : sc1 d = (b.W, ⟨(enc b.H.toNat ++ (enc b.X.toNat ++ (enc b.Y.toNat ++ (UInt8.ofNat (if b.hid = true then 1 else 0) :: (enc l.length ++ runsB b.F 0 l))))).toArray⟩, 0) := by
    rw [hd]
    unfold sc1 diffB headB
    simp only [List.append_assoc, List.cons_append, List.nil_append]
    rw [numS_enc _ _ (by omega), ← hl]
    simp only [Prod.mk.injEq, and_true]
    omega
  have q2 : sc2 d = (b.H, ⟨(enc b.X.toNat ++ (enc b.Y.toNat ++ (UInt8.ofNat (if b.hid = true then 1 else 0) :: (enc l.length ++ runsB b.F 0 l)))).toArray⟩, 0) := by
    unfold sc2
    rw [q1, numS_enc _ _ (by omega)]
    simp only [Prod.mk.injEq, and_true]
    omega
  have q3 : sc3 d = (b.X, ⟨(enc b.Y.toNat ++ (UInt8.ofNat (if b.hid = true then 1 else 0) :: (enc l.length ++ runsB b.F 0 l))).toArray⟩, 0) := by
    unfold sc3
    rw [q2, numS_enc _ _ (by omega)]
    simp only [Prod.mk.injEq, and_true]
    omega
  have q4 : sc4 d = (b.Y, ⟨(UInt8.ofNat (if b.hid = true then 1 else 0) :: (enc l.length ++ runsB b.F 0 l)).toArray⟩, 0) := by
    unfold sc4
    rw [q3, numS_enc _ _ (by omega)]
    simp only [Prod.mk.injEq, and_true]
    omega
  have q5 : sc5 d = ((((UInt8.ofNat (if b.hid = true then 1 else 0)).toNat : Nat) : Int), ⟨(enc l.length ++ runsB b.F 0 l).toArray⟩, 0) := by
    unfold sc5
    rw [q4, byteS_cons]
  have hlen : l.length ≤ b.n := by rw [hl]; exact runsN_len _ _
  have q6 : sc6 d = ((l.length : Int), ⟨(runsB b.F 0 l ++ []).toArray⟩, 0) := by
    unfold sc6
    rw [q5, numS_enc _ _ (by omega), List.append_nil]
  have ew := min_cl hw
  have eh := min_ch hh
  have hn : clW b.W * clH b.H = b.n := by
    have e := hb.n
    rw [← ew, ← eh] at e
    exact (Int.ofNat.inj (by simpa using e)).symm
  have hso := (runsN_ok (chg a b) b.n).1
  rw [← hl] at hso
  have ho : openS a d = { blankS b.W b.H with F := if sizeB a (blankS b.W b.H) = true then a.F else fun _ => emptyC, X := b.X, Y := b.Y, hid := b.hid } := by
    unfold openS
    rw [q1, q2, q3, q4, q5, hid_back]
  have hon : (openS a d).n = b.n := by rw [ho]; exact hn
  have hsz : sizeB a (blankS b.W b.H) = sizeB a b := by
    unfold sizeB
    show decide (a.W = (clW b.W : Int) ∧ a.H = (clH b.H : Int)) = _
    rw [ew, eh]
  have hrd : readS a d = { openS a d with F := overR b.F l (openS a d).F } := by
    unfold readS
    rw [hon, q6]
    simp only [Int.toNat_natCast]
    rw [runsS_back b.F b.n (by omega) (fun k hk => hb.c k hk) [] l _ 0 0 hso (Nat.le_refl _)]
  rw [← hd, hrd, ho]
  refine ⟨ew, eh, rfl, rfl, rfl, hn, fun k hk => ?_⟩
  have hk : k < b.n := by rw [← hn]; exact hk
  simp only
  rcases overR_at b.F l (if sizeB a (blankS b.W b.H) = true then a.F else fun _ => emptyC) k with e | ⟨e, h⟩
  · exact e
  · have hnc : ¬ chg a b k = true := fun hc => by
      obtain ⟨r, hr, h1, h2⟩ := runsN_in (chg a b) b.n k hk hc
      exact h r (by rw [hl]; exact hr) ⟨h1, h2⟩
    have hs : sizeB a b = true := by
      cases hq : sizeB a b with
      | true => rfl
      | false => exact absurd (chg_size hq k) hnc
    rw [e, hsz, if_pos hs]
    rw [chg_same hs] at hnc
    simpa using hnc

/-- Only one screen has a difference. -/
theorem diff_one (a b c : Scr) (ha : a.Ok) (hb : b.Ok) (hc : c.Ok) (h : diffB a b = diffB a c) : b.Like c := by
  have h1 := read_back a b ha hb
  rw [h] at h1
  exact h1.symm.trans (read_back a c ha hc)

end Go.Proofs.Ytgomnigchfmfhaa
