/- pontoonbook.Book: Apart, of lists of any kinds. By program (bkstage.py). Own work. -/
import Derived.Test.YtbjdcbnmpmcdiaaBase
import Derived.Test.YtbjdcbnmpmcdiaaRows
namespace Go.Proofs.Ytbjdcbnmpmcdiaa
set_option linter.unusedVariables false
set_option linter.unusedSimpArgs false
open Go.RowKit

/-- Blocks that others may turn. -/
def Far (q N : Nat) (own : Nat → Prop) (i : Nat) : Prop := i < N ∧ ¬ own i ∧ i ≠ q

/-- Marked, grown: what grew and what there was are marks. -/
def St3 (P : Program) (fm : FuncId) (c q N : Nat) (own : Nat → Prop) (v : Value) (W : World) : Prop :=
  ∀ W4, Keep (Far q N own) W W4 → Calls P fm #[v] W4 (fun e W5 => e = .returned (.bool true) ∧ Keep (fun _ => False) W4 W5) ∧
    ∃ T, W4.cell? ⟨q, c, none⟩ = some T ∧ Calls P fm #[T] W4 (fun e W5 => e = .returned (.bool true) ∧ Keep (fun _ => False) W4 W5)
/-- Marked: it can be grown. -/
def St2 (P : Program) (fg fm : FuncId) (c q N : Nat) (own : Nat → Prop) (W : World) : Prop :=
  ∀ W2, Keep (Far q N own) W W2 → Calls P fg #[.pointer (some ⟨q, 0, none⟩)] W2 (fun e W3 => ∃ v, e = .returned v ∧ Keep own W2 W3 ∧ St3 P fm c q N own v W3)
/-- Kept: it is what it was, and can be marked. -/
def St1 (P : Program) (fs fp fg fm : FuncId) (c q N : Nat) (own av : Nat → Prop) (W : World) : Prop :=
  ∀ W1, Keep (Far q N av) W W1 → Calls P fs #[.pointer (some ⟨q, 0, none⟩)] W1 (fun e W2 => e = .returned (.bool true) ∧ Keep (fun _ => False) W1 W2) ∧
    Calls P fp #[.pointer (some ⟨q, 0, none⟩)] W1 (fun e W2 => e = .returned (.tuple #[]) ∧ Keep own W1 W2 ∧ St2 P fg fm c q N own W2)

def Closed (q N : Nat) (own : Nat → Prop) (p : World → Prop) : Prop := ∀ W W', Keep (Far q N own) W W' → p W → p W'
theorem St3.closed (P : Program) (fm : FuncId) (c q N : Nat) (own : Nat → Prop) (v : Value) : Closed q N own (St3 P fm c q N own v) := fun W W' k h W4 k4 => h W4 (k.trans k4 (fun i _ x => x))
theorem St2.closed (P : Program) (fg fm : FuncId) (c q N : Nat) (own : Nat → Prop) : Closed q N own (St2 P fg fm c q N own) := fun W W' k h W4 k4 => h W4 (k.trans k4 (fun i _ x => x))
theorem St1.closed (P : Program) (fs fp fg fm : FuncId) (c q N : Nat) (own av : Nat → Prop) : Closed q N av (St1 P fs fp fg fm c q N own av) := fun W W' k h W4 k4 => h W4 (k.trans k4 (fun i _ x => x))

/-- What each kind owns, and (acts and steps alone) what it reads beside, as long as it is not marked. -/
structure Owns (q N : Nat) (own rd : Fin 8 → Nat → Prop) : Prop where
  dis : ∀ i j, i ≠ j → ∀ b, own i b → ¬ own j b
  nq : ∀ j, ¬ own j q
  lt : ∀ j b, own j b → b < N
  few : ∀ j b, rd j b → j = 4 ∨ j = 7
  rdS : ∀ b, own 7 b → ¬ rd 4 b

def upd (p : Fin 8 → World → Prop) (j : Fin 8) (x : World → Prop) : Fin 8 → World → Prop := fun i => if i = j then x else p i
def updB (p : Fin 8 → Bool) (j : Fin 8) : Fin 8 → Bool := fun i => if i = j then false else p i
def avoid (own rd : Fin 8 → Nat → Prop) (st : Fin 8 → Bool) (i : Fin 8) (b : Nat) : Prop := own i b ∨ (st i = true ∧ rd i b)

/-- Each kind is at its place. -/
structure AllB (q N : Nat) (own rd : Fin 8 → Nat → Prop) (w : World) (st : Fin 8 → Bool) (p : Fin 8 → World → Prop) (W : World) : Prop where
  at' : ∀ j, p j W
  cl : ∀ j, Closed q N (avoid own rd st j) (p j)
  kp : Keep (fun b => ∃ j, own j b) w W

theorem Closed.weaker {q N : Nat} {own av : Nat → Prop} {p : World → Prop} (h : Closed q N own p) (hs : ∀ b, own b → av b) : Closed q N av p :=
  fun W W' k hp => h W W' (k.mono (fun b _ x => ⟨x.1, fun e => x.2.1 (hs b e), x.2.2⟩)) hp

namespace AllB
variable {q N : Nat} {own rd : Fin 8 → Nat → Prop} {w W W' : World} {st : Fin 8 → Bool} {p : Fin 8 → World → Prop} {x : World → Prop}
theorem quiet (h : AllB q N own rd w st p W) (k : Keep (fun _ => False) W W') : AllB q N own rd w st p W' :=
  ⟨fun j => h.cl j W W' (k.mono (fun _ _ x => x.elim)) (h.at' j), h.cl, h.kp.trans k (fun _ _ x => x.elim)⟩
theorem event (H : Owns q N own rd) (h : AllB q N own rd w st p W) (j : Fin 8) (hd : ∀ i, i ≠ j → st i = true → ∀ b, rd i b → ¬ own j b) (k : Keep (own j) W W') (hx : x W') (hc : Closed q N (own j) x) : AllB q N own rd w (updB st j) (upd p j x) W' := by
  refine ⟨fun i => ?_, fun i => ?_, h.kp.trans k (fun b _ e => ⟨j, e⟩)⟩
  · unfold upd
    split
    · exact hx
    · rename_i hne
      exact h.cl i W W' (k.mono (fun b _ e => ⟨H.lt j b e, fun e2 => by
        rcases e2 with e2 | ⟨e2, e3⟩
        · exact H.dis i j hne b e2 e
        · exact hd i hne e2 b e3 e, fun e2 => H.nq j (e2 ▸ e)⟩)) (h.at' i)
  · unfold upd avoid updB
    by_cases he : i = j
    · subst he
      simp only [if_true]
      exact hc.weaker (fun b e => .inl e)
    · simp only [if_neg he]
      exact h.cl i
end AllB

/-- At first. -/
def bkAt (q N : Nat) (own av : Fin 8 → Nat → Prop) : Fin 8 → World → Prop
  | 0 => St1 Try.prog 60 70 76 84 0 q N (own 0) (av 0)
  | 1 => St1 Try.prog 61 71 77 85 2 q N (own 1) (av 1)
  | 2 => St1 Try.prog 62 72 78 86 4 q N (own 2) (av 2)
  | 3 => St1 Try.prog 63 73 79 87 6 q N (own 3) (av 3)
  | 4 => St1 Try.prog 64 69 80 88 8 q N (own 4) (av 4)
  | 5 => St1 Try.prog 65 74 81 89 10 q N (own 5) (av 5)
  | 6 => St1 Try.prog 66 75 82 90 12 q N (own 6) (av 6)
  | 7 => St1 Try.prog 67 68 83 91 14 q N (own 7) (av 7)

set_option maxRecDepth 100000 in
set_option maxHeartbeats 6400000 in
theorem apart_all (w : World) (q N : Nat) (own rd : Fin 8 → Nat → Prop) (H : Owns q N own rd) (h : ∀ j, bkAt q N own (avoid own rd (fun _ => true)) j w) :
    Calls Try.prog 40 #[.pointer (some ⟨q, 0, none⟩)] w fun e w' => e = .returned (.bool true) ∧ Keep (fun b => ∃ j, own j b) w w' := by
  have HO := Lib.hid H
  have HI : Hid (AllB q N own rd w (fun _ => true) (bkAt q N own (avoid own rd (fun _ => true))) w) := Lib.hid ⟨h, fun j => by
    match j with
    | 0 => exact St1.closed _ _ _ _ _ _ _ _ _ _
    | 1 => exact St1.closed _ _ _ _ _ _ _ _ _ _
    | 2 => exact St1.closed _ _ _ _ _ _ _ _ _ _
    | 3 => exact St1.closed _ _ _ _ _ _ _ _ _ _
    | 4 => exact St1.closed _ _ _ _ _ _ _ _ _ _
    | 5 => exact St1.closed _ _ _ _ _ _ _ _ _ _
    | 6 => exact St1.closed _ _ _ _ _ _ _ _ _ _
    | 7 => exact St1.closed _ _ _ _ _ _ _ _ _ _
    , Keep.refl _ _⟩
  clear h H
  go_enter Try.func40, Try.ntmps40
  go_wp2_with fail
  refine ((show St1 Try.prog 60 70 76 84 0 q N (own 0) (avoid own rd (fun _ => true) 0) w from HI.out.at' 0) _ (Keep.refl _ _)).1.mono ?_
  rintro e x1 ⟨rfl, k⟩
  have J1 := Lib.hid (HI.out.quiet k)
  clear k HI
  go_wp2_with fail
  refine ((show St1 Try.prog 61 71 77 85 2 q N (own 1) (avoid own rd (fun _ => true) 1) x1 from J1.out.at' 1) _ (Keep.refl _ _)).1.mono ?_
  rintro e x2 ⟨rfl, k⟩
  have J2 := Lib.hid (J1.out.quiet k)
  clear k J1
  go_wp2_with fail
  refine ((show St1 Try.prog 62 72 78 86 4 q N (own 2) (avoid own rd (fun _ => true) 2) x2 from J2.out.at' 2) _ (Keep.refl _ _)).1.mono ?_
  rintro e x3 ⟨rfl, k⟩
  have J3 := Lib.hid (J2.out.quiet k)
  clear k J2
  go_wp2_with fail
  refine ((show St1 Try.prog 63 73 79 87 6 q N (own 3) (avoid own rd (fun _ => true) 3) x3 from J3.out.at' 3) _ (Keep.refl _ _)).1.mono ?_
  rintro e x4 ⟨rfl, k⟩
  have J4 := Lib.hid (J3.out.quiet k)
  clear k J3
  go_wp2_with fail
  refine ((show St1 Try.prog 64 69 80 88 8 q N (own 4) (avoid own rd (fun _ => true) 4) x4 from J4.out.at' 4) _ (Keep.refl _ _)).1.mono ?_
  rintro e x5 ⟨rfl, k⟩
  have J5 := Lib.hid (J4.out.quiet k)
  clear k J4
  go_wp2_with fail
  refine ((show St1 Try.prog 65 74 81 89 10 q N (own 5) (avoid own rd (fun _ => true) 5) x5 from J5.out.at' 5) _ (Keep.refl _ _)).1.mono ?_
  rintro e x6 ⟨rfl, k⟩
  have J6 := Lib.hid (J5.out.quiet k)
  clear k J5
  go_wp2_with fail
  refine ((show St1 Try.prog 66 75 82 90 12 q N (own 6) (avoid own rd (fun _ => true) 6) x6 from J6.out.at' 6) _ (Keep.refl _ _)).1.mono ?_
  rintro e x7 ⟨rfl, k⟩
  have J7 := Lib.hid (J6.out.quiet k)
  clear k J6
  go_wp2_with fail
  refine ((show St1 Try.prog 67 68 83 91 14 q N (own 7) (avoid own rd (fun _ => true) 7) x7 from J7.out.at' 7) _ (Keep.refl _ _)).1.mono ?_
  rintro e x8 ⟨rfl, k⟩
  have J8 := Lib.hid (J7.out.quiet k)
  clear k J7
  go_wp2_with fail
  refine ((show St1 Try.prog 67 68 83 91 14 q N (own 7) (avoid own rd (fun _ => true) 7) x8 from J8.out.at' 7) _ (Keep.refl _ _)).2.mono ?_
  rintro e x9 ⟨rfl, k, s⟩
  have J9 := Lib.hid (AllB.event HO.out J8.out 7 (fun i hij hst b hr e => by rcases HO.out.few i b hr with rfl | rfl <;> first | exact absurd rfl hij | exact absurd hr (HO.out.rdS b e)) k s (St2.closed _ _ _ _ _ _ _))
  clear k s J8
  go_wp2_with fail
  refine ((show St1 Try.prog 64 69 80 88 8 q N (own 4) (avoid own rd (fun _ => true) 4) x9 from J9.out.at' 4) _ (Keep.refl _ _)).2.mono ?_
  rintro e x10 ⟨rfl, k, s⟩
  have J10 := Lib.hid (AllB.event HO.out J9.out 4 (fun i hij hst b hr e => by rcases HO.out.few i b hr with rfl | rfl <;> first | exact absurd rfl hij | exact absurd hst (by decide)) k s (St2.closed _ _ _ _ _ _ _))
  clear k s J9
  go_wp2_with fail
  refine ((show St1 Try.prog 60 70 76 84 0 q N (own 0) (avoid own rd (fun _ => true) 0) x10 from J10.out.at' 0) _ (Keep.refl _ _)).2.mono ?_
  rintro e x11 ⟨rfl, k, s⟩
  have J11 := Lib.hid (AllB.event HO.out J10.out 0 (fun i hij hst b hr e => by rcases HO.out.few i b hr with rfl | rfl <;> first | exact absurd rfl hij | exact absurd hst (by decide)) k s (St2.closed _ _ _ _ _ _ _))
  clear k s J10
  go_wp2_with fail
  refine ((show St1 Try.prog 61 71 77 85 2 q N (own 1) (avoid own rd (fun _ => true) 1) x11 from J11.out.at' 1) _ (Keep.refl _ _)).2.mono ?_
  rintro e x12 ⟨rfl, k, s⟩
  have J12 := Lib.hid (AllB.event HO.out J11.out 1 (fun i hij hst b hr e => by rcases HO.out.few i b hr with rfl | rfl <;> first | exact absurd rfl hij | exact absurd hst (by decide)) k s (St2.closed _ _ _ _ _ _ _))
  clear k s J11
  go_wp2_with fail
  refine ((show St1 Try.prog 62 72 78 86 4 q N (own 2) (avoid own rd (fun _ => true) 2) x12 from J12.out.at' 2) _ (Keep.refl _ _)).2.mono ?_
  rintro e x13 ⟨rfl, k, s⟩
  have J13 := Lib.hid (AllB.event HO.out J12.out 2 (fun i hij hst b hr e => by rcases HO.out.few i b hr with rfl | rfl <;> first | exact absurd rfl hij | exact absurd hst (by decide)) k s (St2.closed _ _ _ _ _ _ _))
  clear k s J12
  go_wp2_with fail
  refine ((show St1 Try.prog 63 73 79 87 6 q N (own 3) (avoid own rd (fun _ => true) 3) x13 from J13.out.at' 3) _ (Keep.refl _ _)).2.mono ?_
  rintro e x14 ⟨rfl, k, s⟩
  have J14 := Lib.hid (AllB.event HO.out J13.out 3 (fun i hij hst b hr e => by rcases HO.out.few i b hr with rfl | rfl <;> first | exact absurd rfl hij | exact absurd hst (by decide)) k s (St2.closed _ _ _ _ _ _ _))
  clear k s J13
  go_wp2_with fail
  refine ((show St1 Try.prog 65 74 81 89 10 q N (own 5) (avoid own rd (fun _ => true) 5) x14 from J14.out.at' 5) _ (Keep.refl _ _)).2.mono ?_
  rintro e x15 ⟨rfl, k, s⟩
  have J15 := Lib.hid (AllB.event HO.out J14.out 5 (fun i hij hst b hr e => by rcases HO.out.few i b hr with rfl | rfl <;> first | exact absurd rfl hij | exact absurd hst (by decide)) k s (St2.closed _ _ _ _ _ _ _))
  clear k s J14
  go_wp2_with fail
  refine ((show St1 Try.prog 66 75 82 90 12 q N (own 6) (avoid own rd (fun _ => true) 6) x15 from J15.out.at' 6) _ (Keep.refl _ _)).2.mono ?_
  rintro e x16 ⟨rfl, k, s⟩
  have J16 := Lib.hid (AllB.event HO.out J15.out 6 (fun i hij hst b hr e => by rcases HO.out.few i b hr with rfl | rfl <;> first | exact absurd rfl hij | exact absurd hst (by decide)) k s (St2.closed _ _ _ _ _ _ _))
  clear k s J15
  go_wp2_with fail
  refine ((show St2 Try.prog 76 84 0 q N (own 0) x16 from J16.out.at' 0) _ (Keep.refl _ _)).mono ?_
  rintro e x17 ⟨v0, rfl, k, s⟩
  have J17 := Lib.hid (AllB.event HO.out J16.out 0 (fun i hij hst b hr e => by rcases HO.out.few i b hr with rfl | rfl <;> first | exact absurd rfl hij | exact absurd hst (by decide)) k s (St3.closed _ _ _ _ _ _ _))
  clear k s J16
  go_wp2_with fail
  refine ((show St2 Try.prog 77 85 2 q N (own 1) x17 from J17.out.at' 1) _ (Keep.refl _ _)).mono ?_
  rintro e x18 ⟨v1, rfl, k, s⟩
  have J18 := Lib.hid (AllB.event HO.out J17.out 1 (fun i hij hst b hr e => by rcases HO.out.few i b hr with rfl | rfl <;> first | exact absurd rfl hij | exact absurd hst (by decide)) k s (St3.closed _ _ _ _ _ _ _))
  clear k s J17
  go_wp2_with fail
  refine ((show St2 Try.prog 78 86 4 q N (own 2) x18 from J18.out.at' 2) _ (Keep.refl _ _)).mono ?_
  rintro e x19 ⟨v2, rfl, k, s⟩
  have J19 := Lib.hid (AllB.event HO.out J18.out 2 (fun i hij hst b hr e => by rcases HO.out.few i b hr with rfl | rfl <;> first | exact absurd rfl hij | exact absurd hst (by decide)) k s (St3.closed _ _ _ _ _ _ _))
  clear k s J18
  go_wp2_with fail
  refine ((show St2 Try.prog 79 87 6 q N (own 3) x19 from J19.out.at' 3) _ (Keep.refl _ _)).mono ?_
  rintro e x20 ⟨v3, rfl, k, s⟩
  have J20 := Lib.hid (AllB.event HO.out J19.out 3 (fun i hij hst b hr e => by rcases HO.out.few i b hr with rfl | rfl <;> first | exact absurd rfl hij | exact absurd hst (by decide)) k s (St3.closed _ _ _ _ _ _ _))
  clear k s J19
  go_wp2_with fail
  refine ((show St2 Try.prog 80 88 8 q N (own 4) x20 from J20.out.at' 4) _ (Keep.refl _ _)).mono ?_
  rintro e x21 ⟨v4, rfl, k, s⟩
  have J21 := Lib.hid (AllB.event HO.out J20.out 4 (fun i hij hst b hr e => by rcases HO.out.few i b hr with rfl | rfl <;> first | exact absurd rfl hij | exact absurd hst (by decide)) k s (St3.closed _ _ _ _ _ _ _))
  clear k s J20
  go_wp2_with fail
  refine ((show St2 Try.prog 81 89 10 q N (own 5) x21 from J21.out.at' 5) _ (Keep.refl _ _)).mono ?_
  rintro e x22 ⟨v5, rfl, k, s⟩
  have J22 := Lib.hid (AllB.event HO.out J21.out 5 (fun i hij hst b hr e => by rcases HO.out.few i b hr with rfl | rfl <;> first | exact absurd rfl hij | exact absurd hst (by decide)) k s (St3.closed _ _ _ _ _ _ _))
  clear k s J21
  go_wp2_with fail
  refine ((show St2 Try.prog 82 90 12 q N (own 6) x22 from J22.out.at' 6) _ (Keep.refl _ _)).mono ?_
  rintro e x23 ⟨v6, rfl, k, s⟩
  have J23 := Lib.hid (AllB.event HO.out J22.out 6 (fun i hij hst b hr e => by rcases HO.out.few i b hr with rfl | rfl <;> first | exact absurd rfl hij | exact absurd hst (by decide)) k s (St3.closed _ _ _ _ _ _ _))
  clear k s J22
  go_wp2_with fail
  refine ((show St2 Try.prog 83 91 14 q N (own 7) x23 from J23.out.at' 7) _ (Keep.refl _ _)).mono ?_
  rintro e x24 ⟨v7, rfl, k, s⟩
  have J24 := Lib.hid (AllB.event HO.out J23.out 7 (fun i hij hst b hr e => by rcases HO.out.few i b hr with rfl | rfl <;> first | exact absurd rfl hij | exact absurd hst (by decide)) k s (St3.closed _ _ _ _ _ _ _))
  clear k s J23
  go_wp2_with fail
  refine ((show St3 Try.prog 84 0 q N (own 0) v0 x24 from J24.out.at' 0) _ (Keep.refl _ _)).1.mono ?_
  rintro e x25 ⟨rfl, k⟩
  have J25 := Lib.hid (J24.out.quiet k)
  clear k J24
  obtain ⟨T0, hT0, hc0⟩ := ((show St3 Try.prog 84 0 q N (own 0) v0 x25 from J25.out.at' 0) _ (Keep.refl _ _)).2
  have HC := Lib.hid hc0
  clear hc0
  go_wp2_with fail
  refine HC.out.mono ?_
  rintro e x26 ⟨rfl, k⟩
  have J26 := Lib.hid (J25.out.quiet k)
  clear k J25 HC hT0
  go_wp2_with fail
  refine ((show St3 Try.prog 85 2 q N (own 1) v1 x26 from J26.out.at' 1) _ (Keep.refl _ _)).1.mono ?_
  rintro e x27 ⟨rfl, k⟩
  have J27 := Lib.hid (J26.out.quiet k)
  clear k J26
  obtain ⟨T1, hT1, hc1⟩ := ((show St3 Try.prog 85 2 q N (own 1) v1 x27 from J27.out.at' 1) _ (Keep.refl _ _)).2
  have HC := Lib.hid hc1
  clear hc1
  go_wp2_with fail
  refine HC.out.mono ?_
  rintro e x28 ⟨rfl, k⟩
  have J28 := Lib.hid (J27.out.quiet k)
  clear k J27 HC hT1
  go_wp2_with fail
  refine ((show St3 Try.prog 86 4 q N (own 2) v2 x28 from J28.out.at' 2) _ (Keep.refl _ _)).1.mono ?_
  rintro e x29 ⟨rfl, k⟩
  have J29 := Lib.hid (J28.out.quiet k)
  clear k J28
  obtain ⟨T2, hT2, hc2⟩ := ((show St3 Try.prog 86 4 q N (own 2) v2 x29 from J29.out.at' 2) _ (Keep.refl _ _)).2
  have HC := Lib.hid hc2
  clear hc2
  go_wp2_with fail
  refine HC.out.mono ?_
  rintro e x30 ⟨rfl, k⟩
  have J30 := Lib.hid (J29.out.quiet k)
  clear k J29 HC hT2
  go_wp2_with fail
  refine ((show St3 Try.prog 87 6 q N (own 3) v3 x30 from J30.out.at' 3) _ (Keep.refl _ _)).1.mono ?_
  rintro e x31 ⟨rfl, k⟩
  have J31 := Lib.hid (J30.out.quiet k)
  clear k J30
  obtain ⟨T3, hT3, hc3⟩ := ((show St3 Try.prog 87 6 q N (own 3) v3 x31 from J31.out.at' 3) _ (Keep.refl _ _)).2
  have HC := Lib.hid hc3
  clear hc3
  go_wp2_with fail
  refine HC.out.mono ?_
  rintro e x32 ⟨rfl, k⟩
  have J32 := Lib.hid (J31.out.quiet k)
  clear k J31 HC hT3
  go_wp2_with fail
  refine ((show St3 Try.prog 88 8 q N (own 4) v4 x32 from J32.out.at' 4) _ (Keep.refl _ _)).1.mono ?_
  rintro e x33 ⟨rfl, k⟩
  have J33 := Lib.hid (J32.out.quiet k)
  clear k J32
  obtain ⟨T4, hT4, hc4⟩ := ((show St3 Try.prog 88 8 q N (own 4) v4 x33 from J33.out.at' 4) _ (Keep.refl _ _)).2
  have HC := Lib.hid hc4
  clear hc4
  go_wp2_with fail
  refine HC.out.mono ?_
  rintro e x34 ⟨rfl, k⟩
  have J34 := Lib.hid (J33.out.quiet k)
  clear k J33 HC hT4
  go_wp2_with fail
  refine ((show St3 Try.prog 89 10 q N (own 5) v5 x34 from J34.out.at' 5) _ (Keep.refl _ _)).1.mono ?_
  rintro e x35 ⟨rfl, k⟩
  have J35 := Lib.hid (J34.out.quiet k)
  clear k J34
  obtain ⟨T5, hT5, hc5⟩ := ((show St3 Try.prog 89 10 q N (own 5) v5 x35 from J35.out.at' 5) _ (Keep.refl _ _)).2
  have HC := Lib.hid hc5
  clear hc5
  go_wp2_with fail
  refine HC.out.mono ?_
  rintro e x36 ⟨rfl, k⟩
  have J36 := Lib.hid (J35.out.quiet k)
  clear k J35 HC hT5
  go_wp2_with fail
  refine ((show St3 Try.prog 90 12 q N (own 6) v6 x36 from J36.out.at' 6) _ (Keep.refl _ _)).1.mono ?_
  rintro e x37 ⟨rfl, k⟩
  have J37 := Lib.hid (J36.out.quiet k)
  clear k J36
  obtain ⟨T6, hT6, hc6⟩ := ((show St3 Try.prog 90 12 q N (own 6) v6 x37 from J37.out.at' 6) _ (Keep.refl _ _)).2
  have HC := Lib.hid hc6
  clear hc6
  go_wp2_with fail
  refine HC.out.mono ?_
  rintro e x38 ⟨rfl, k⟩
  have J38 := Lib.hid (J37.out.quiet k)
  clear k J37 HC hT6
  go_wp2_with fail
  refine ((show St3 Try.prog 91 14 q N (own 7) v7 x38 from J38.out.at' 7) _ (Keep.refl _ _)).1.mono ?_
  rintro e x39 ⟨rfl, k⟩
  have J39 := Lib.hid (J38.out.quiet k)
  clear k J38
  obtain ⟨T7, hT7, hc7⟩ := ((show St3 Try.prog 91 14 q N (own 7) v7 x39 from J39.out.at' 7) _ (Keep.refl _ _)).2
  have HC := Lib.hid hc7
  clear hc7
  go_wp2_with fail
  refine HC.out.mono ?_
  rintro e x40 ⟨rfl, k⟩
  have J40 := Lib.hid (J39.out.quiet k)
  clear k J39 HC hT7
  go_wp2_with fail
  go_ret
  exact ⟨rfl, J40.out.kp⟩

end Go.Proofs.Ytbjdcbnmpmcdiaa
