/- A region that draws its order, each of whose operations leaves, from every world that meets S, one value, in a world that meets S: one order stands for all, calls and stores too. (After the guide's OrdersHeld, whose laws branch over them.) It speaks of no program. Own work. -/
import Derived.OrdersHeld
import Derived.RegionTactic
import Derived.Deep.RegionHeld3
set_option linter.unusedVariables false
set_option linter.unusedSimpArgs false
namespace Go.Proofs.Ytbjdcbnmpmcdiaa
open Go
set_option linter.unusedVariables false

section
variable {P : Program} {ops : Array Oper} {Q : Exit → Act → World → Prop} {md : Region.Mode} {S : World → Prop}

/-- From world w, operation o leaves v, in a world that meets S. -/
def DoesAt (P : Program) (Q : Exit → Act → World → Prop) (S : World → Prop) (o : Oper) (v : Value) (a : Act) (w : World) : Prop :=
  ∀ K : Act → World → Prop, (∀ w', S w' → K (a.put o.dst v) w') → Oper.wp P o a w K Q
def DoesIf (P : Program) (ops : Array Oper) (Q : Exit → Act → World → Prop) (S : World → Prop) (o : Oper) (v : Value) (a : Act) : Prop :=
  (Region.wanted o (yielded ops a.tmps) = true ∧ ∀ w, S w → DoesAt P Q S o v a w) ∨ (Region.wanted o (yielded ops a.tmps) = false ∧ v = undef)

theorem YieldsIf.does {o : Oper} {v : Value} {a : Act} (h : YieldsIf P ops S o v a) : DoesIf P ops Q S o v a := by
  rcases h with ⟨h1, h2⟩ | ⟨h1, h2⟩
  · refine .inl ⟨h1, fun w hS K hK => ?_⟩
    unfold Oper.wp
    rw [h2 w hS]
    exact hK w hS
  · exact .inr ⟨h1, h2⟩

theorem put_eq {a : Act} {x y : Option Tmp} {t u v : Value} (h : (a.put x t).put y u = (a.put x t).put y v) : a.put y u = a.put y v := by
  cases y with
  | none => rfl
  | some d =>
    have hs : (a.put x t).tmps.size = a.tmps.size := by cases x <;> simp [Act.put]
    have h1 := congrArg (fun b : Act => b.tmps[d]?) h
    simp only [Act.put] at h1
    by_cases hd : d < a.tmps.size
    · have e1 : ((a.put x t).tmps.setIfInBounds d u)[d]? = some u := by rw [Array.getElem?_setIfInBounds_self, if_pos (by rw [hs]; exact hd)]
      have e2 : ((a.put x t).tmps.setIfInBounds d v)[d]? = some v := by rw [Array.getElem?_setIfInBounds_self, if_pos (by rw [hs]; exact hd)]
      have h2 : some u = some v := e1.symm.trans (h1.trans e2)
      injection h2 with h2
      rw [h2]
    · have hd' : a.tmps.size ≤ d := Nat.le_of_not_lt hd
      simp only [Act.put]
      rw [Array.setIfInBounds_eq_of_size_le hd', Array.setIfInBounds_eq_of_size_le hd']

theorem put_defers (a : Act) (x : Option Tmp) (t : Value) : (a.put x t).defers = a.defers := by cases x <;> rfl
theorem cons_ne {α : Type} (x : α) (l : List α) : x :: l ≠ l := fun h => by have := congrArg List.length h; simp at this

/-- What o does hangs on nothing that it doesn't look at. -/
theorem DoesAt.of_put {o : Oper} {v t : Value} {a : Act} {x : Option Tmp} {w : World} (hQ : ∀ c x t a w, Q (.panic c) (Act.put a x t) w ↔ Q (.panic c) a w)
    (hex : execOp (a.put x t).eval o = execOp a.eval o) (h : DoesAt P Q S o v (a.put x t) w) : DoesAt P Q S o v a w := by
  intro K hK
  have h1 := h (fun a' w' => a' = (a.put x t).put o.dst v ∧ S w') (fun w' hS => ⟨rfl, hS⟩)
  unfold Oper.wp at *
  rw [hex] at h1
  generalize (execOp a.eval o).run P w = r at *
  have put : ∀ u w', (a.put x t).put o.dst u = (a.put x t).put o.dst v → S w' → K (a.put o.dst u) w' := fun u w' e hS => by
    rw [put_eq e]; exact hK w' hS
  cases r with
  | ok n w' =>
    cases n <;> simp only [Oper.upon] at h1 ⊢
    case value u => exact put u w' h1.1 h1.2
    case skip => exact put _ w' h1.1 h1.2
    case defer d =>
      exfalso
      have := congrArg Act.defers h1.1
      simp only [put_defers] at this
      exact cons_ne _ _ this
    case enter f args =>
      refine Calls.mono h1 fun e w'' he => ?_
      cases e with
      | returned u => exact put u w'' he.1 he.2
      | panicked c => exact (hQ c x t a w'').1 he
      | outgrown => exact he
    case row row args => exact Rows.mono h1 fun u w'' he => put u w'' he.1 he.2
  | halt y w' =>
    cases y <;> simp only [Oper.upon] at h1 ⊢
    case panic u => exact (hQ _ x t a w').1 h1
theorem DoesAt.put {o : Oper} {v t : Value} {a : Act} {x : Option Tmp} {w : World} (hQ : ∀ c x t a w, Q (.panic c) (Act.put a x t) w ↔ Q (.panic c) a w)
    (hex : execOp (a.put x t).eval o = execOp a.eval o) (hne : ∀ d, x = some d → o.dst ≠ some d) (h : DoesAt P Q S o v a w) : DoesAt P Q S o v (a.put x t) w := by
  intro K hK
  have h1 := h (fun a' w' => a' = a.put o.dst v ∧ S w') (fun w' hS => ⟨rfl, hS⟩)
  unfold Oper.wp at *
  rw [hex]
  generalize (execOp a.eval o).run P w = r at *
  have put : ∀ u w', a.put o.dst u = a.put o.dst v → S w' → K ((a.put x t).put o.dst u) w' := fun u w' e hS => by
    have := hK w' hS
    rw [Act.put_comm a t v hne, ← e, ← Act.put_comm a t u hne] at this
    exact this
  cases r with
  | ok n w' =>
    cases n <;> simp only [Oper.upon] at h1 ⊢
    case value u => exact put u w' h1.1 h1.2
    case skip => exact put _ w' h1.1 h1.2
    case defer d =>
      exfalso
      have := congrArg Act.defers h1.1
      simp only [put_defers] at this
      exact cons_ne _ _ this
    case enter f args =>
      refine Calls.mono h1 fun e w'' he => ?_
      cases e with
      | returned u => exact put u w'' he.1 he.2
      | panicked c => exact (hQ c x t a w'').2 he
      | outgrown => exact he
    case row row args => exact Rows.mono h1 fun u w'' he => put u w'' he.1 he.2
  | halt y w' =>
    cases y <;> simp only [Oper.upon] at h1 ⊢
    case panic u => exact (hQ _ x t a w').2 h1

theorem DoesIf.of_put {o : Oper} {v t : Value} {a : Act} {x : Option Tmp} (hQ : ∀ c x t a w, Q (.panic c) (Act.put a x t) w ↔ Q (.panic c) a w)
    (hs : ∀ cs b, o.op ≠ .select cs b) (hl : ∀ d, x = some d → d ∉ o.looksAt ops) (h : DoesIf P ops Q S o v (a.put x t)) : DoesIf P ops Q S o v a := by
  have hw := wanted_put (ops := ops) o a x t hl
  have he := execOp_put (ops := ops) o hs a x t hl
  rcases h with ⟨h1, h2⟩ | ⟨h1, h2⟩
  · exact .inl ⟨hw ▸ h1, fun w hS => DoesAt.of_put hQ he (h2 w hS)⟩
  · exact .inr ⟨hw ▸ h1, h2⟩
theorem DoesIf.put {o : Oper} {v t : Value} {a : Act} {x : Option Tmp} (hQ : ∀ c x t a w, Q (.panic c) (Act.put a x t) w ↔ Q (.panic c) a w)
    (hs : ∀ cs b, o.op ≠ .select cs b) (hl : ∀ d, x = some d → d ∉ o.looksAt ops) (hne : ∀ d, x = some d → o.dst ≠ some d) (h : DoesIf P ops Q S o v a) : DoesIf P ops Q S o v (a.put x t) := by
  have hw := wanted_put (ops := ops) o a x t hl
  have he := execOp_put (ops := ops) o hs a x t hl
  rcases h with ⟨h1, h2⟩ | ⟨h1, h2⟩
  · exact .inl ⟨hw.trans h1, fun w hS => DoesAt.put hQ he hne (h2 w hS)⟩
  · exact .inr ⟨hw.trans h1, h2⟩

/-- Whatever order is picked from here on, each operation does what it does, from whatever world that meets S. -/
def wpAnyD (P : Program) (md : Region.Mode) (ops : Array Oper) (Q : Exit → Act → World → Prop) (S : World → Prop) : Nat → Array Bool → Act → Prop
  | 0, listed, a => Region.ready md ops listed = [] ∧ ∀ w, S w → Q .normal a w
  | fuel + 1, listed, a =>
    (Region.ready md ops listed = [] → ∀ w, S w → Q .normal a w) ∧
    ∀ i ∈ Region.ready md ops listed, ∀ o, ops[i]? = some o → ∃ v, DoesIf P ops Q S o v a ∧ wpAnyD P md ops Q S fuel (listed.setIfInBounds i true) (a.put o.dst v)

theorem wpAny_of_D : ∀ (fuel : Nat) (listed : Array Bool) (a : Act) (w : World), wpAnyD P md ops Q S fuel listed a → S w → wpAny P md ops Q fuel listed a w
  | 0, _, _, w, h, hS => ⟨h.1, h.2 w hS⟩
  | fuel + 1, listed, a, w, h, hS => by
    refine ⟨fun h0 => h.1 h0 w hS, fun i hi => ?_⟩
    obtain ⟨_, o, ho, _⟩ := mem_ready.1 hi
    obtain ⟨v, hd, hr⟩ := h.2 i hi o ho
    unfold wpOp
    rw [ho]
    simp only
    rcases hd with ⟨h1, h2⟩ | ⟨h1, h2⟩
    · rw [if_pos h1]
      exact .inl (h2 w hS _ (fun w' hS' => wpAny_of_D fuel _ _ w' hr hS'))
    · rw [if_neg (by rw [h1]; exact Bool.false_ne_true), ← h2]
      exact wpAny_of_D fuel _ _ w hr hS

theorem wpAnyD_first {i : Nat} {oi : Oper} {v : Value} (hi : ops[i]? = some oi) (hsel : ∀ (j : Nat) (o : Oper) cs b, ops[j]? = some o → o.op ≠ .select cs b)
    (hQ : ∀ c x t a w, Q (.panic c) (Act.put a x t) w ↔ Q (.panic c) a w) :
    ∀ (fuel : Nat) (listed : Array Bool) (a : Act),
      (∀ j oj, ops[j]? = some oj → j ≠ i → listed.getD j true = false → (∀ e ∈ oj.after, Region.binds md e = true → e.on ≠ i) → oi.apart ops oj = true) →
      i ∈ Region.ready md ops listed → DoesIf P ops Q S oi v a →
      wpAnyD P md ops Q S fuel (listed.setIfInBounds i true) (a.put oi.dst v) → wpAnyD P md ops Q S (fuel + 1) listed a := by
  intro fuel
  induction fuel with
  | zero =>
    intro listed a _ hr hd H
    refine ⟨fun h => (by rw [h] at hr; cases hr), fun j hj o ho => ?_⟩
    by_cases hji : j = i
    · subst hji
      rw [hi] at ho
      injection ho with ho
      subst ho
      exact ⟨v, hd, H⟩
    · have := ready_mono hj hji
      rw [H.1] at this
      cases this
  | succ fuel ih =>
    intro listed a hfree hr hd H
    refine ⟨fun h => (by rw [h] at hr; cases hr), fun j hj o ho => ?_⟩
    by_cases hji : j = i
    · subst hji
      rw [hi] at ho
      injection ho with ho
      subst ho
      exact ⟨v, hd, H⟩
    · obtain ⟨u, hdu, hru⟩ := H.2 j (ready_mono hj hji) o ho
      obtain ⟨hjun, oj, hoj, hall⟩ := mem_ready.1 hj
      rw [ho] at hoj
      injection hoj with hoj
      subst hoj
      have hnot : ∀ e ∈ o.after, Region.binds md e = true → e.on ≠ i := fun e he hb heq => by
        have h1 := hall e he hb
        have h0 := (mem_ready.1 hr).1
        rw [heq] at h1
        rcases Nat.lt_or_ge i listed.size with h' | h'
        · simp [h'] at h0 h1; rw [h0] at h1; cases h1
        · simp [Array.getElem?_eq_none h'] at h1
      obtain ⟨q1, q2, q3⟩ := Oper.apart_spec (hfree j o ho hji hjun hnot)
      have hfree' : ∀ k ok, ops[k]? = some ok → k ≠ i → (listed.setIfInBounds j true).getD k true = false →
          (∀ e ∈ ok.after, Region.binds md e = true → e.on ≠ i) → oi.apart ops ok = true := fun k ok hk hki hun hno => by
        refine hfree k ok hk hki ?_ hno
        by_cases hjk : j = k
        · subst hjk; exact hjun
        · rw [getD_set_ne true hjk] at hun; exact hun
      refine ⟨u, DoesIf.of_put hQ (fun cs b => hsel j o cs b ho) q1 hdu, ih (listed.setIfInBounds j true) (a.put o.dst u) hfree' (ready_mono hr (Ne.symm hji)) (DoesIf.put hQ (fun cs b => hsel i oi cs b hi) q3 (fun d hd2 e => q2 d e hd2) hd) ?_⟩
      rw [Array.setIfInBounds_comm _ _ hji, ← Act.put_comm a v u q2]
      exact hru

/-- Take number i first, whatever it does, if it does it from every world that meets S. -/
theorem wpAnyD_take {i : Nat} {oi : Oper} {v : Value} {fuel : Nat} {listed : Array Bool} {a : Act} (hi : ops[i]? = some oi)
    (hs : Region.noSelect ops = true) (hf : Region.free md ops listed i = true) (hr : (Region.ready md ops listed).contains i = true)
    (hQ : ∀ c x t a w, Q (.panic c) (Act.put a x t) w ↔ Q (.panic c) a w) (hd : DoesIf P ops Q S oi v a)
    (h : wpAnyD P md ops Q S fuel (listed.setIfInBounds i true) (a.put oi.dst v)) : wpAnyD P md ops Q S (fuel + 1) listed a :=
  wpAnyD_first hi (Region.noSelect_spec hs) hQ fuel listed a (Region.free_spec hi hf) (by simpa using hr) hd h
theorem wpAnyD_done {listed : Array Bool} {a : Act} (hr : Region.ready md ops listed = []) (h : ∀ w, S w → Q .normal a w) :
    ∀ fuel, wpAnyD P md ops Q S fuel listed a
  | 0 => ⟨hr, h⟩
  | _ + 1 => ⟨fun _ => h, by rw [hr]; simp⟩
/-- The beginning. -/
theorem wp_region_det {id : Nat} {a : Act} {w : World} (S : World → Prop) (hm : P.follows .mixedOrders = true) (hS : S w.drew)
    (h : wpAnyD P .any ops (NoPanic Q) S ops.size (Array.replicate ops.size false) a) : (Code.region id ops true).wp P Q a w :=
  wp_region_noPanic (wp_region_any hm (wpAny_of_D _ _ _ _ h hS))
end

end Go.Proofs.Ytbjdcbnmpmcdiaa
