/- patch over numbers and functions of a place: screens, changed places, runs of them, the difference. It speaks of no program. Own work. -/
import Derived.Test.YtgomnigchfmfhaaGrids
import Derived.Test.YtgomnigchfmfhaaCodec
namespace Go.Proofs.Ytgomnigchfmfhaa
set_option linter.unusedVariables false
set_option linter.unusedSimpArgs false

instance (a b : At) : Decidable (a = b) := decidable_of_iff (a.fg = b.fg ∧ a.bg = b.bg ∧ a.b = b.b ∧ a.u = b.u ∧ a.i = b.i) (by cases a; cases b; simp)
instance (a b : CellM) : Decidable (a = b) := decidable_of_iff (a.r = b.r ∧ a.a = b.a) (by cases a; cases b; simp)

/-- A screen: its cells by their places. -/
structure Scr where
  W : Int
  H : Int
  n : Nat
  F : Nat → CellM
  X : Int
  Y : Int
  hid : Bool

/-- A cell that may be. -/
def okC (c : CellM) : Prop := (0 ≤ c.r ∧ c.r ≤ 1114111) ∧ c.a.ok
instance (c : CellM) : Decidable (okC c) := by unfold okC; infer_instance
namespace Scr
structure Ok (s : Scr) : Prop where
  w : min (max s.W 2) 40 = s.W
  h : min (max s.H 1) 20 = s.H
  n : (s.n : Int) = s.W * s.H
  x : 0 ≤ s.X ∧ s.X < s.W
  y : 0 ≤ s.Y ∧ s.Y < s.H
  c : ∀ k, k < s.n → okC (s.F k)
structure Like (a b : Scr) : Prop where
  w : a.W = b.W
  h : a.H = b.H
  x : a.X = b.X
  y : a.Y = b.Y
  d : a.hid = b.hid
  n : a.n = b.n
  c : ∀ k, k < a.n → a.F k = b.F k
theorem Like.refl (a : Scr) : a.Like a := ⟨rfl, rfl, rfl, rfl, rfl, rfl, fun _ _ => rfl⟩
theorem Like.symm {a b : Scr} (h : a.Like b) : b.Like a := ⟨h.w.symm, h.h.symm, h.x.symm, h.y.symm, h.d.symm, h.n.symm, fun k hk => (h.c k (by rw [h.n]; exact hk)).symm⟩
theorem Like.trans {a b c : Scr} (h : a.Like b) (k : b.Like c) : a.Like c :=
  ⟨h.w.trans k.w, h.h.trans k.h, h.x.trans k.x, h.y.trans k.y, h.d.trans k.d, h.n.trans k.n, fun j hj => (h.c j hj).trans (k.c j (by rw [← h.n]; exact hj))⟩
theorem Ok.like {a b : Scr} (h : a.Ok) (l : a.Like b) : b.Ok :=
  ⟨by rw [← l.w]; exact h.w, by rw [← l.h]; exact h.h, by rw [← l.w, ← l.h, ← l.n]; exact h.n, by rw [← l.w, ← l.x]; exact h.x, by rw [← l.h, ← l.y]; exact h.y,
   fun k hk => by rw [← l.c k (by rw [l.n]; exact hk)]; exact h.c k (by rw [l.n]; exact hk)⟩
theorem Ok.wn {s : Scr} (h : s.Ok) : ∃ W H : Nat, s.W = W ∧ s.H = H ∧ s.n = W * H ∧ (2 ≤ W ∧ W ≤ 40) ∧ 1 ≤ H ∧ H ≤ 20 := by
  have h1 := h.w
  have h2 := h.h
  refine ⟨s.W.toNat, s.H.toNat, by omega, by omega, ?_, by omega, by omega⟩
  have e := h.n
  rw [show s.W = (s.W.toNat : Int) from by omega, show s.H = (s.H.toNat : Int) from by omega] at e
  exact Int.ofNat.inj (by simpa using e)
theorem Ok.n800 {s : Scr} (h : s.Ok) : s.n ≤ 800 ∧ 2 ≤ s.n := by
  obtain ⟨W, H, -, -, e, w, hh⟩ := h.wn
  have := Nat.mul_le_mul w.2 hh.2
  have := Nat.mul_le_mul w.1 hh.1
  omega
end Scr

/-- Of the same size. -/
def sizeB (a b : Scr) : Bool := decide (a.W = b.W ∧ a.H = b.H)
/-- Is place k of b another one than of a? -/
def chg (a b : Scr) (k : Nat) : Bool := !(sizeB a b && decide (a.F k = b.F k))
theorem chg_size {a b : Scr} (h : sizeB a b = false) (k : Nat) : chg a b k = true := by simp [chg, h]
theorem chg_same {a b : Scr} (h : sizeB a b = true) (k : Nat) : chg a b k = !decide (a.F k = b.F k) := by simp [chg, h]

/-- One more changed place. -/
def pushR (l : List (Nat × Nat)) (k : Nat) : List (Nat × Nat) :=
  match l.getLast? with
  | some (f, b) => if b = k then l.dropLast ++ [(f, k + 1)] else l ++ [(k, k + 1)]
  | none => [(k, k + 1)]
/-- The runs of changed places ahead of n. -/
def runsN (ch : Nat → Bool) : Nat → List (Nat × Nat)
  | 0 => []
  | n + 1 => if ch n = true then pushR (runsN ch n) n else runsN ch n
theorem runsN_yes {ch : Nat → Bool} {n : Nat} (h : ch n = true) : runsN ch (n + 1) = pushR (runsN ch n) n := if_pos h
theorem runsN_no {ch : Nat → Bool} {n : Nat} (h : ch n = false) : runsN ch (n + 1) = runsN ch n := by simp [runsN, h]
/-- How many places ahead of n are changed. -/
def cntN (ch : Nat → Bool) : Nat → Nat
  | 0 => 0
  | n + 1 => cntN ch n + if ch n = true then 1 else 0
def sumR (l : List (Nat × Nat)) : Nat := (l.map (fun r => r.2 - r.1)).sum
/-- Where the last run ends. -/
def endR (l : List (Nat × Nat)) : Nat := match l.getLast? with | some (_, b) => b | none => 0

theorem pushR_nil (k : Nat) : pushR [] k = [(k, k + 1)] := rfl
theorem pushR_last (l : List (Nat × Nat)) (f k : Nat) : pushR (l ++ [(f, k)]) k = l ++ [(f, k + 1)] := by simp [pushR]
theorem pushR_far (l : List (Nat × Nat)) (f b k : Nat) (h : b ≠ k) : pushR (l ++ [(f, b)]) k = l ++ [(f, b)] ++ [(k, k + 1)] := by simp [pushR, h]
theorem endR_last (l : List (Nat × Nat)) (f b : Nat) : endR (l ++ [(f, b)]) = b := by simp [endR]
theorem endR_nil : endR [] = 0 := rfl
theorem sumR_snoc (l : List (Nat × Nat)) (r : Nat × Nat) : sumR (l ++ [r]) = sumR l + (r.2 - r.1) := by simp [sumR]

/-- Runs ahead of n, from e on: each is not empty, none touches the next one. -/
def Sorted : Nat → Nat → List (Nat × Nat) → Prop
  | _, _, [] => True
  | e, n, (f, b) :: r => e ≤ f ∧ f < b ∧ b ≤ n ∧ Sorted (b + 1) n r
theorem Sorted.mono {e n m : Nat} {l : List (Nat × Nat)} (h : Sorted e n l) (hm : n ≤ m) : Sorted e m l := by
  induction l generalizing e with
  | nil => trivial
  | cons r l ih => exact ⟨h.1, h.2.1, Nat.le_trans h.2.2.1 hm, ih h.2.2.2⟩
theorem Sorted.snoc {e n f b : Nat} {l : List (Nat × Nat)} (h : Sorted e n (l ++ [(f, b)])) (m : Nat) (hm : n ≤ m) (hf : f < m) : Sorted e m (l ++ [(f, m)]) := by
  induction l generalizing e with
  | nil => exact ⟨h.1, hf, Nat.le_refl _, trivial⟩
  | cons r l ih => exact ⟨h.1, h.2.1, Nat.le_trans h.2.2.1 hm, ih h.2.2.2⟩
theorem Sorted.add {e n k : Nat} {l : List (Nat × Nat)} (h : Sorted e n l) (he : e ≤ k) (hk : ∀ f b, l.getLast? = some (f, b) → b < k) (m : Nat) (hm : k < m) (hn : n ≤ m) : Sorted e m (l ++ [(k, m)]) := by
  induction l generalizing e with
  | nil => exact ⟨he, hm, Nat.le_refl _, trivial⟩
  | cons r l ih =>
    refine ⟨h.1, h.2.1, Nat.le_trans h.2.2.1 hn, ih h.2.2.2 ?_ (fun f b hl => hk f b (by rw [List.getLast?_cons, hl]; rfl))⟩
    cases l with
    | nil => have := hk r.1 r.2 rfl; omega
    | cons s l =>
      have h3 := h.2.2.2
      have : s.1 < k := by
        have key : ∀ (l : List (Nat × Nat)) (s : Nat × Nat) (e : Nat), Sorted e n (s :: l) → (∀ f b, (s :: l).getLast? = some (f, b) → b < k) → s.1 < k := by
          intro l
          induction l with
          | nil => intro s e hs hl; have := hl s.1 s.2 rfl; have := hs.2.1; omega
          | cons t l ih2 =>
            intro s e hs hl
            have := ih2 t _ hs.2.2.2 (fun f b hx => hl f b (by rw [List.getLast?_cons, hx]; rfl))
            have := hs.2.1
            have := hs.2.2.2.1
            omega
        exact key l s _ h3 (fun f b hx => hk f b (by rw [List.getLast?_cons, hx]; rfl))
      have := h3.1
      omega

theorem last_split {α : Type} (l : List α) : l = [] ∨ ∃ r x, l = r ++ [x] := by
  rcases List.eq_nil_or_concat l with h | ⟨r, x, h⟩
  · exact .inl h
  · exact .inr ⟨r, x, by rw [h, List.concat_eq_append]⟩

/-- What is known of the runs. -/
theorem runsN_ok (ch : Nat → Bool) (n : Nat) : Sorted 0 n (runsN ch n) ∧ endR (runsN ch n) ≤ n ∧ sumR (runsN ch n) = cntN ch n ∧ (0 < n → ch (n - 1) = true → endR (runsN ch n) = n) ∧ (0 < n → ch (n - 1) = false → endR (runsN ch n) < n) := by
  induction n with
  | zero => exact ⟨trivial, Nat.le_refl _, rfl, fun h => by omega, fun h => by omega⟩
  | succ n ih =>
    obtain ⟨h1, h2, h3, h4, h5⟩ := ih
    by_cases hc : ch n = true
    · simp only [runsN, cntN, if_pos hc]
      rcases last_split (runsN ch n) with e | ⟨r, ⟨f, b⟩, e⟩
      · rw [e] at h1 h3 ⊢
        rw [pushR_nil]
        refine ⟨⟨Nat.zero_le _, Nat.lt_succ_self _, Nat.le_refl _, trivial⟩, Nat.le_refl _, ?_, fun _ _ => rfl, fun _ h => by simp [hc] at h⟩
        have : cntN ch n = 0 := by rw [← h3]; rfl
        rw [this]
        simp [sumR]
      · rw [e] at h1 h2 h3 ⊢
        rw [endR_last] at h2
        by_cases hb : b = n
        · subst hb
          rw [pushR_last, endR_last, sumR_snoc]
          rw [sumR_snoc] at h3
          have hfb : f < b := by
            have key : ∀ (r : List (Nat × Nat)) (e : Nat), Sorted e b (r ++ [(f, b)]) → f < b := by
              intro r
              induction r with
              | nil => intro e h; exact h.2.1
              | cons x r ih => intro e h; exact ih _ h.2.2.2
            exact key r 0 h1
          refine ⟨h1.snoc _ (Nat.le_succ _) (by omega), Nat.le_refl _, by simp only at h3 ⊢; omega, fun _ _ => rfl, fun _ h => by simp [hc] at h⟩
        · rw [pushR_far _ _ _ _ hb, endR_last, sumR_snoc]
          refine ⟨Sorted.add h1 (Nat.zero_le _) (fun f' b' hl => by simp at hl; omega) _ (Nat.lt_succ_self _) (Nat.le_succ _), Nat.le_refl _, by rw [h3]; simp only; omega, fun _ _ => rfl, fun _ h => by simp [hc] at h⟩
    · simp only [runsN, cntN, if_neg hc]
      exact ⟨h1.mono (Nat.le_succ _), by omega, by omega, fun _ h => absurd h hc, fun _ _ => by omega⟩
theorem cntN_le (ch : Nat → Bool) (n : Nat) : cntN ch n ≤ n := by
  induction n with
  | zero => exact Nat.le_refl _
  | succ n ih => simp only [cntN]; split <;> omega
theorem Sorted.len {e n : Nat} {l : List (Nat × Nat)} (h : Sorted e n l) : l.length ≤ n - e := by
  induction l generalizing e with
  | nil => exact Nat.zero_le _
  | cons r l ih => have := ih h.2.2.2; have := h.1; have := h.2.1; have := h.2.2.1; simp only [List.length_cons]; omega
theorem runsN_len (ch : Nat → Bool) (n : Nat) : (runsN ch n).length ≤ n := by have := (runsN_ok ch n).1.len; omega
/-- A run that begins behind all that there are. -/
theorem runsN_run (ch : Nat → Bool) (k m : Nat) (hm : 0 < m) (hk : ∀ f b, (runsN ch k).getLast? = some (f, b) → b ≠ k) (hc : ∀ i, i < m → ch (k + i) = true) : runsN ch (k + m) = runsN ch k ++ [(k, k + m)] := by
  obtain ⟨m, rfl⟩ : ∃ j, m = j + 1 := ⟨m - 1, by omega⟩
  clear hm
  induction m with
  | zero =>
    have h0 := hc 0 (by omega)
    simp only [Nat.add_zero] at h0
    show runsN ch (k + 1) = _
    simp only [runsN, if_pos h0]
    rcases last_split (runsN ch k) with e | ⟨r, ⟨f, b⟩, e⟩
    · rw [e]; rfl
    · rw [e, pushR_far _ _ _ _ (hk f b (by rw [e]; simp))]
  | succ m ih =>
    have h0 := hc (m + 1) (by omega)
    show runsN ch ((k + (m + 1)) + 1) = _
    rw [runsN_yes h0, ih (fun i hi => hc i (by omega)), pushR_last]
    rfl

/-- A cell's bytes. -/
def cellB (c : CellM) : List UInt8 := enc c.r.toNat ++ [UInt8.ofNat c.a.fg.toNat, UInt8.ofNat c.a.bg.toNat, UInt8.ofNat c.a.marks]
/-- The bytes of m cells from f on. -/
def cellsB (F : Nat → CellM) (f m : Nat) : List UInt8 := (List.range m).flatMap (fun i => cellB (F (f + i)))
theorem cellsB_succ (F : Nat → CellM) (f m : Nat) : cellsB F f (m + 1) = cellsB F f m ++ cellB (F (f + m)) := by simp [cellsB, List.range_succ]
/-- The bytes of runs, the first of which is told from e on. -/
def runsB (F : Nat → CellM) : Nat → List (Nat × Nat) → List UInt8
  | _, [] => []
  | e, (f, b) :: r => enc (f - e) ++ enc (b - f) ++ cellsB F f (b - f) ++ runsB F b r
theorem runsB_snoc (F : Nat → CellM) (l : List (Nat × Nat)) (f b : Nat) : ∀ e, runsB F e (l ++ [(f, b)]) = runsB F e l ++ (enc (f - (if l = [] then e else endR l)) ++ enc (b - f) ++ cellsB F f (b - f)) := by
  induction l with
  | nil => intro e; simp [runsB]
  | cons r l ih =>
    intro e
    obtain ⟨g, c⟩ := r
    have : endR ((g, c) :: l) = if l = [] then c else endR l := by
      rcases last_split l with h | ⟨q, x, h⟩
      · subst h; rfl
      · rw [h, if_neg (by simp), show (g, c) :: (q ++ [x]) = ((g, c) :: q) ++ [x] from rfl]
        obtain ⟨x1, x2⟩ := x
        rw [endR_last, endR_last]
    simp only [List.cons_append, runsB, ih, reduceCtorEq, if_false, this, List.append_assoc]
theorem runsB_add (F : Nat → CellM) (l : List (Nat × Nat)) (f b : Nat) : runsB F 0 (l ++ [(f, b)]) = runsB F 0 l ++ (enc (f - endR l) ++ enc (b - f) ++ cellsB F f (b - f)) := by
  rw [runsB_snoc]
  split
  · rename_i h; subst h; rfl
  · rfl
def headB (b : Scr) : List UInt8 := enc b.W.toNat ++ enc b.H.toNat ++ enc b.X.toNat ++ enc b.Y.toNat ++ [UInt8.ofNat (if b.hid = true then 1 else 0)]
/-- The difference. -/
def diffB (a b : Scr) : List UInt8 := headB b ++ enc (runsN (chg a b) b.n).length ++ runsB b.F 0 (runsN (chg a b) b.n)

theorem cellB_le (c : CellM) (h : okC c) : (cellB c).length ≤ 12 := by
  have := enc_le c.r.toNat (by have := h.1; omega)
  simp [cellB]; omega
theorem cellsB_le (F : Nat → CellM) (f m : Nat) (h : ∀ i, i < m → okC (F (f + i))) : (cellsB F f m).length ≤ 12 * m := by
  induction m with
  | zero => simp [cellsB]
  | succ m ih =>
    rw [cellsB_succ, List.length_append]
    have := ih (fun i hi => h i (by omega))
    have := cellB_le _ (h m (by omega))
    omega

end Go.Proofs.Ytgomnigchfmfhaa
