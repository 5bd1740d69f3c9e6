/- emu.Emu in memory: its blocks, its cells; what a call turns. Own work. cell.Blank, and the document's. Own work. emu: within, ready, shown, blank, goTo, places and rows. Own work. emu: what changes the screen, by grid's calls; index, reverse index. By program (rgn/XEmuB.py). Own work. emu: what only reads (places, rows, numbers); save, restore, home. Own work. -/
import Derived.Test.YtnminmaklbhakaaGreatDoorEmus1
import Derived.Test.YtnminmaklbhakaaGreatDoorEscs2
import Derived.Test.YtnminmaklbhakaaGreatDoorGrids
import Derived.Test.YtnminmaklbhakaaGreatDoorBase
import Derived.BigQuiet
import Derived.Deep.Cut
import Derived.Deep.RegionLaw
set_option linter.unusedVariables false
set_option linter.unusedSimpArgs false
namespace Go.Proofs.YtnminmaklbhakaaGreatDoor
set_option linter.unusedVariables false
set_option linter.unusedSimpArgs false
open Go.RowKit

/-- Cells of one block, from o on, that may be set. -/
def CellsAt (w : World) (p o : Nat) (cs : List Value) : Prop := ∀ i v, cs[i]? = some v → Cell w p (o + i) v
namespace CellsAt
variable {w w' : World} {p o : Nat} {cs : List Value}
theorem set (h : CellsAt w p o cs) (j : Nat) (hj : j < cs.length) (u : Value) {q : Nat} (hq : q = o + j) : CellsAt (w.setCell ⟨p, q, none⟩ u) p o (cs.set j u) := by
  subst hq
  intro i v hi
  by_cases e : i = j
  · subst e
    rw [List.getElem?_set_self hj] at hi
    cases hi
    exact (h i _ (List.getElem?_eq_getElem hj)).set u
  · rw [List.getElem?_set_ne (Ne.symm e)] at hi
    exact (h i v hi).far (by omega) _
theorem far (h : CellsAt w p o cs) {q i : Nat} (hn : q = p → i < o ∨ o + cs.length ≤ i) (u : Value) : CellsAt (w.setCell ⟨q, i, none⟩ u) p o cs := fun j v hv => by
  have hj : j < cs.length := by rcases Nat.lt_or_ge j cs.length with e | e; exact e; rw [List.getElem?_eq_none e] at hv; cases hv
  exact (h j v hv).far (fun ⟨a, b⟩ => by have := hn a; omega) u
theorem keep {S : Nat → Prop} (h : CellsAt w p o cs) (k : Keep S w w') (hn : ¬ S p) : CellsAt w' p o cs := fun i v hi => (h i v hi).keep k hn
theorem congr {cs' : List Value} (h : CellsAt w p o cs) (e : cs = cs') : CellsAt w p o cs' := e ▸ h
theorem drewN (h : CellsAt w p o cs) (n : Nat) : CellsAt (w.drewN n) p o cs := h
end CellsAt

/-- Where a terminal's things lie. -/
structure Loc where
  p : Nat
  g : Nat
  c : Nat
  sp : Nat
  sg : Nat
  sc : Nat
  oth : Option (Nat × Nat × Nat)
namespace Loc
/-- The blocks. -/
def ob (L : Loc) : List Nat := match L.oth with | none => [] | some o => [o.1, o.2.1]
def bl (L : Loc) (e : Nat) : List Nat := e :: L.p :: L.g :: L.sp :: L.sg :: L.ob
def T (L : Loc) (e i : Nat) : Prop := i ∈ L.bl e
def sh (L : Loc) : Nat × Nat × Nat := match L.oth with | none => (L.p, L.g, L.c) | some o => o
theorem e_T (L : Loc) (e : Nat) : L.T e e := by simp [T, bl]
theorem sh_T (L : Loc) (e : Nat) : L.T e L.sh.1 ∧ L.T e L.sh.2.1 := by
  unfold T bl ob sh
  cases L.oth <;> simp
end Loc

def StM.cs (s : StM) : List Value := [.int .i64 (s.x : Int), .int .i64 (s.y : Int), .int .i64 s.pen.fg, .int .i64 s.pen.bg, .bool s.pen.b, .bool s.pen.u, .bool s.pen.i, .bool s.origin, .int .u8 (s.s0 : Int), .int .u8 (s.s1 : Int), .int .i64 (s.use : Int)]
def EmM.cs (m : EmM) : List Value := .int .i64 (m.top : Int) :: .int .i64 (m.bottom : Int) :: (m.st.cs ++ (m.sv.cs ++ [.bool m.late, .bool m.ins, .bool m.wrap, .bool m.hid]))
theorem EmM.cs_len (m : EmM) : m.cs.length = 28 := rfl

/-- The grids, and the stops. -/
structure EmG (w : World) (e : Nat) (L : Loc) (W H : Nat) (F : Nat → CellM) (O : Option (Nat → CellM)) (stops : List Bool) : Prop where
  cm : Cell w e 19 (.pointer (some ⟨L.p, 0, none⟩))
  gm : GridAt w L.p L.g L.c W H (W * H) F
  co : (L.oth = none ∧ O = none ∧ Cell w e 20 (.pointer none)) ∨ ∃ a b c G, L.oth = some (a, b, c) ∧ O = some G ∧ Cell w e 20 (.pointer (some ⟨a, 0, none⟩)) ∧ GridAt w a b c W H (W * H) G
  ct : Cell w e 21 (.pointer (some ⟨L.sp, 0, none⟩))
  sp : StopsAt w L.sp L.sg W L.sc stops
  nd : (L.bl e).Nodup

/-- A terminal in block e, without its parser. -/
structure EmR (w : World) (e : Nat) (L : Loc) (m : EmM) : Prop where
  g : EmG w e L m.W m.H m.F m.O m.stops
  cs : CellsAt w e 22 m.cs
  ok : m.Ok

/-- What a call turns. -/
structure Mv (e : Nat) (L L' : Loc) (w w' : World) : Prop where
  keep : Keep (L.T e) w w'
  low : ∀ i, i < 19 → w'.cell? ⟨e, i, none⟩ = w.cell? ⟨e, i, none⟩ ∧ w'.frozen? ⟨e, i, none⟩ = w.frozen? ⟨e, i, none⟩
  new : ∀ i, L'.T e i → L.T e i ∨ w.heap.size ≤ i

theorem EmG.lt {w : World} {e : Nat} {L : Loc} {W H : Nat} {F : Nat → CellM} {O : Option (Nat → CellM)} {stops : List Bool} (h : EmG w e L W H F O stops) : ∀ i, L.T e i → i < w.heap.size := by
  intro i hi
  simp only [Loc.T, Loc.bl, List.mem_cons] at hi
  rcases hi with rfl | rfl | rfl | rfl | rfl | hi
  · exact h.cm.lt
  · exact h.gm.lt
  · exact h.gm.hg
  · exact h.sp.lt
  · exact h.sp.lg
  · rcases h.co with ⟨a, _, _⟩ | ⟨a, b, c, G, ho, _, _, hg⟩
    · simp [Loc.ob, a] at hi
    · simp [Loc.ob, ho] at hi
      rcases hi with rfl | rfl
      · exact hg.lt
      · exact hg.hg
theorem EmG.keep {w w' : World} {e : Nat} {L : Loc} {W H : Nat} {F : Nat → CellM} {O : Option (Nat → CellM)} {stops : List Bool} {S : Nat → Prop} (h : EmG w e L W H F O stops) (k : Keep S w w') (hS : ∀ i, L.T e i → ¬ S i) : EmG w' e L W H F O stops := by
  have t : ∀ i, i ∈ L.bl e → ¬ S i := hS
  simp only [Loc.bl, List.mem_cons] at t
  refine ⟨h.cm.keep k (t _ (by simp)), h.gm.keep k (t _ (by simp)) (t _ (by simp)), ?_, h.ct.keep k (t _ (by simp)), h.sp.keep k (t _ (by simp)) (t _ (by simp)), h.nd⟩
  rcases h.co with ⟨a, b, c⟩ | ⟨a, b, c, G, ho, hG, hc, hg⟩
  · exact .inl ⟨a, b, c.keep k (t _ (by simp))⟩
  · exact .inr ⟨a, b, c, G, ho, hG, hc.keep k (t _ (by simp)), hg.keep k (t _ (by simp [Loc.ob, ho])) (t _ (by simp [Loc.ob, ho]))⟩
/-- A cell of block e beside the pointers was set. -/
theorem EmG.set {w : World} {e : Nat} {L : Loc} {W H : Nat} {F : Nat → CellM} {O : Option (Nat → CellM)} {stops : List Bool} (h : EmG w e L W H F O stops) (i : Nat) (hi : i < 19 ∨ 22 ≤ i) (v : Value) : EmG (w.setCell ⟨e, i, none⟩ v) e L W H F O stops := by
  have k := keep_set w e i v
  have nd := h.nd
  simp only [Loc.bl, List.nodup_cons, List.mem_cons, not_or] at nd
  obtain ⟨⟨n1, n2, n3, n4, n5⟩, -⟩ := nd
  refine ⟨h.cm.far (by omega) _, h.gm.keep k (fun x => n1 x.symm) (fun x => n2 x.symm), ?_, h.ct.far (by omega) _, h.sp.keep k (fun x => n3 x.symm) (fun x => n4 x.symm), h.nd⟩
  rcases h.co with ⟨a, b, c⟩ | ⟨a, b, c, G, ho, hG, hc, hg⟩
  · exact .inl ⟨a, b, c.far (by omega) _⟩
  · simp [Loc.ob, ho] at n5
    exact .inr ⟨a, b, c, G, ho, hG, hc.far (by omega) _, hg.keep k (fun x => n5.1 x.symm) (fun x => n5.2 x.symm)⟩

namespace Mv
variable {e : Nat} {L L' L1 L2 : Loc} {w w' w1 w2 : World}
theorem refl (e : Nat) (L : Loc) (w : World) : Mv e L L w w := ⟨Keep.refl _ _, fun _ _ => ⟨rfl, rfl⟩, fun _ h => .inl h⟩
theorem trans (h : Mv e L L1 w w1) (k : Mv e L1 L2 w1 w2) : Mv e L L2 w w2 :=
  ⟨h.keep.trans k.keep (fun i hi x => (h.new i x).elim id (fun y => by omega)), fun i hi => ⟨(k.low i hi).1.trans (h.low i hi).1, (k.low i hi).2.trans (h.low i hi).2⟩,
   fun i hi => (k.new i hi).elim (fun x => h.new i x) (fun x => .inr (Nat.le_trans h.keep.size x))⟩
theorem set (h : Mv e L L1 w w1) (i : Nat) (hi : 19 ≤ i) (v : Value) : Mv e L L1 w (w1.setCell ⟨e, i, none⟩ v) :=
  ⟨h.keep.setCell (S := L.T e) (p := ⟨e, i, none⟩) (fun _ => L.e_T e) v, fun j hj => ⟨(World.cell?_setCell_other _ ⟨e, i, none⟩ ⟨e, j, none⟩ _ (by simp <;> omega)).trans (h.low j hj).1, by rw [World.frozen?_setCell]; exact (h.low j hj).2⟩, h.new⟩
theorem drewN (h : Mv e L L1 w w1) (k : Nat) : Mv e L L1 w (w1.drewN k) := ⟨h.keep.drewN k, h.low, h.new⟩
theorem quiet (h : Mv e L L1 w w1) (he : e < w1.heap.size) (k : Keep (fun _ => False) w1 w2) : Mv e L L1 w w2 :=
  ⟨h.keep.trans k (fun _ _ x => x.elim), fun j hj => ⟨(k.cell (p := ⟨e, j, none⟩) he (fun x => x)).trans (h.low j hj).1, (k.frozen (p := ⟨e, j, none⟩) he (fun x => x)).trans (h.low j hj).2⟩, h.new⟩
/-- Blocks other than e were turned. -/
theorem turn {S : Nat → Prop} (h : Mv e L L1 w w1) (he : e < w1.heap.size) (k : Keep S w1 w2) (hS : ∀ i, S i → L1.T e i ∧ i ≠ e) : Mv e L L1 w w2 :=
  ⟨h.keep.trans k (fun i hi x => (h.new i (hS i x).1).elim id (fun y => by omega)), fun j hj => ⟨(k.cell (p := ⟨e, j, none⟩) he (fun x => (hS e x).2 rfl)).trans (h.low j hj).1, (k.frozen (p := ⟨e, j, none⟩) he (fun x => (hS e x).2 rfl)).trans (h.low j hj).2⟩, h.new⟩
end Mv

namespace EmR
variable {w w' : World} {e : Nat} {L : Loc} {m m' : EmM}
theorem lt (h : EmR w e L m) : ∀ i, L.T e i → i < w.heap.size := h.g.lt
theorem elt (h : EmR w e L m) : e < w.heap.size := h.lt e (L.e_T e)
theorem keep {S : Nat → Prop} (h : EmR w e L m) (k : Keep S w w') (hS : ∀ i, L.T e i → ¬ S i) : EmR w' e L m := ⟨h.g.keep k hS, h.cs.keep k (hS e (L.e_T e)), h.ok⟩
theorem quiet (h : EmR w e L m) (k : Keep (fun _ => False) w w') : EmR w' e L m := h.keep k (fun _ _ x => x)
theorem drewN (h : EmR w e L m) (k : Nat) : EmR (w.drewN k) e L m := h.quiet ((Keep.refl _ w).drewN k)
theorem below (h : EmR w e L m) (k : Below w.heap.size w w') : EmR w' e L m := h.quiet (Keep.of_below _ k)
/-- The scalars. -/
theorem at' (h : EmR w e L m) (i : Nat) (v : Value) (hv : m.cs[i]? = some v) : w.cell? ⟨e, 22 + i, none⟩ = some v := (h.cs i v hv).1
theorem fz (h : EmR w e L m) (i : Nat) (hi : i < 28) : w.frozen? ⟨e, 22 + i, none⟩ = false := (h.cs i _ (List.getElem?_eq_getElem (by rw [m.cs_len]; exact hi))).2
theorem sh_ne (h : EmR w e L m) : L.sh.1 ≠ e ∧ L.sh.2.1 ≠ e := by
  have nd := h.g.nd
  simp only [Loc.bl, List.nodup_cons, List.mem_cons, not_or] at nd
  obtain ⟨⟨n1, n2, n3, n4, n5⟩, -⟩ := nd
  unfold Loc.sh
  unfold Loc.ob at n5
  cases ho : L.oth with
  | none => exact ⟨fun x => n1 x.symm, fun x => n2 x.symm⟩
  | some o => rw [ho] at n5; simp at n5; exact ⟨fun x => n5.1 x.symm, fun x => n5.2 x.symm⟩
theorem shown (h : EmR w e L m) : GridAt w L.sh.1 L.sh.2.1 L.sh.2.2 m.W m.H (m.W * m.H) m.shown := by
  unfold EmM.shown Loc.sh
  rcases h.g.co with ⟨a, b, _⟩ | ⟨a, b, c, G, ho, hG, _, hg⟩
  · rw [a, b]; exact h.g.gm
  · rw [ho, hG]; exact hg
theorem put_cs (m : EmM) (G : Nat → CellM) : (m.put G).cs = m.cs := by
  unfold EmM.put
  split <;> rfl
theorem put_ok {m : EmM} (h : m.Ok) (G : Nat → CellM) : (m.put G).Ok := by
  unfold EmM.put
  split
  · exact ⟨h.w2, h.w40, h.h1, h.h20, h.sl, h.tb, h.bh, h.x, h.y, h.sx, h.sy, h.a0, h.a1, h.b0, h.b1, h.u, h.v, h.p, h.r⟩
  · exact ⟨h.w2, h.w40, h.h1, h.h20, h.sl, h.tb, h.bh, h.x, h.y, h.sx, h.sy, h.a0, h.a1, h.b0, h.b1, h.u, h.v, h.p, h.r⟩
/-- What is shown was changed. -/
theorem put (h : EmR w e L m) (k : Keep (· = L.sh.2.1) w w') {G : Nat → CellM} (hG : GridAt w' L.sh.1 L.sh.2.1 L.sh.2.2 m.W m.H (m.W * m.H) G) : EmR w' e L (m.put G) := by
  have hne := h.sh_ne
  have nd := h.g.nd
  have hx := h.cs.keep k (fun x => hne.2 x.symm)
  refine ⟨?_, by rw [put_cs]; exact hx, put_ok h.ok G⟩
  simp only [Loc.bl, List.nodup_cons, List.mem_cons, not_or] at nd
  unfold EmM.put
  rcases h.g.co with ⟨a, b, c⟩ | ⟨a, b, c, G0, ho, hG0, hc, hg⟩
  · rw [b]
    have e1 : L.sh = (L.p, L.g, L.c) := by unfold Loc.sh; rw [a]
    rw [e1] at k hG hne
    exact ⟨h.g.cm.keep k (fun x => hne.2 x.symm), hG, .inl ⟨a, rfl, c.keep k (fun x => hne.2 x.symm)⟩, h.g.ct.keep k (fun x => hne.2 x.symm), h.g.sp.keep k (fun x => nd.2.2.1.1 x.symm) (fun x => nd.2.2.1.2.1 x.symm), h.g.nd⟩
  · rw [hG0]
    have e1 : L.sh = (a, b, c) := by unfold Loc.sh; rw [ho]
    rw [e1] at k hG hne
    simp [Loc.ob, ho] at nd
    refine ⟨h.g.cm.keep k (fun x => hne.2 x.symm), h.g.gm.keep k ?_ ?_, .inr ⟨a, b, c, G, ho, rfl, hc.keep k (fun x => hne.2 x.symm), hG⟩, h.g.ct.keep k (fun x => hne.2 x.symm), h.g.sp.keep k ?_ ?_, h.g.nd⟩
    all_goals (intro x; simp only at x; omega)
theorem mv_sh (h : EmR w e L m) (k : Keep (· = L.sh.2.1) w w') : Mv e L L w w' :=
  (Mv.refl e L w).turn h.elt k (fun i hi => by subst hi; exact ⟨(L.sh_T e).2, h.sh_ne.2⟩)
end EmR

/-- A terminal with its parser; R: where the parser's table lies; k: a bound of what came. -/
structure EmuAt (w : World) (e : Nat) (L : Loc) (R : Option Nat) (k : Nat) (x : PL × EmM) : Prop where
  r : EmR w e L x.2
  esc : ∃ b, EscC w e 0 b ∧ AlikeE b x.1 ∧ b.came ≤ k
  rul : (R = none ∧ Cell w e 0 (.pointer none)) ∨ ∃ r, R = some r ∧ Cell w e 0 (.pointer (some ⟨r, 0, none⟩)) ∧ RulesAt w r true ∧ ¬ L.T e r

end Go.Proofs.YtnminmaklbhakaaGreatDoor
namespace Go.Proofs.YtnminmaklbhakaaGreatDoor
set_option linter.unusedVariables false
set_option linter.unusedSimpArgs false
open Go.RowKit


set_option maxHeartbeats 800000 in
theorem cell_blank (a : At) (w : World) :
    Calls Tryz.prog 48 #[a.v] w fun e w' => e = .returned (CellM.v ⟨32, ⟨0, a.bg, false, false, false⟩⟩) ∧ Below w.heap.size w w' := by
  obtain ⟨f, g, b, u, i⟩ := a
  simp only [At.v, CellM.v]
  go_enter Tryz.func48, Tryz.ntmps48
  go_wp2_with fail
  refine bodyPost_ret (v := .agg #[.int .i32 32, .int .i64 0, .int .i64 g, .bool false, .bool false, .bool false]) (by simp [results, Tryz.results48, go_sem]) rfl ⟨rfl, ?_⟩
  repeat (first | exact Below.refl _ _ | (refine Below.setCell ?_ (by simp) _) | (refine Below.alloc ?_ (by simp) _))

set_option maxHeartbeats 800000 in
theorem ref_blank (a : At) (w : World) :
    Calls Tryz.prog 15 #[a.v] w fun e w' => e = .returned (CellM.v ⟨32, ⟨0, a.bg, false, false, false⟩⟩) ∧ Below w.heap.size w w' := by
  obtain ⟨f, g, b, u, i⟩ := a
  simp only [At.v, CellM.v]
  go_enter Tryz.func15, Tryz.ntmps15
  go_wp2_with fail
  refine bodyPost_ret (v := .agg #[.int .i32 32, .int .i64 0, .int .i64 g, .bool false, .bool false, .bool false]) (by simp [results, Tryz.results15, go_sem]) rfl ⟨rfl, ?_⟩
  repeat (first | exact Below.refl _ _ | (refine Below.setCell ?_ (by simp) _) | (refine Below.alloc ?_ (by simp) _))

end Go.Proofs.YtnminmaklbhakaaGreatDoor
namespace Go.Proofs.YtnminmaklbhakaaGreatDoor
set_option linter.unusedVariables false
set_option linter.unusedSimpArgs false
open Go.RowKit

set_option maxHeartbeats 800000 in
theorem emu_within (x a b : Int) (w : World) :
    Calls Tryz.prog 36 #[.int .i64 x, .int .i64 a, .int .i64 b] w fun e w' => e = .returned (.int .i64 (min (max x a) b)) ∧ w' = w := by
  go_enter Tryz.func36, Tryz.ntmps36
  go_wp2_with fail
  go_ret
  exact ⟨rfl, rfl⟩

section
variable {w : World} {e : Nat} {L : Loc} {m : EmM}

theorem EmR.cell {w : World} {e : Nat} {L : Loc} {m : EmM} (h : EmR w e L m) (i q : Nat) (hq : q = 22 + i) (v : Value) (hv : m.cs[i]? = some v) : w.cell? ⟨e, q, none⟩ = some v ∧ w.frozen? ⟨e, q, none⟩ = false := by
  subst hq; exact h.cs i v hv

set_option maxHeartbeats 800000 in
theorem emu_ready (w : World) (e : Nat) (L : Loc) (m : EmM) (h : EmR w e L m) :
    Calls Tryz.prog 20 #[.pointer (some ⟨e, 0, none⟩)] w fun v w' => v = .returned (.bool true) ∧ w' = w := by
  have c := h.g.cm.1
  clear h
  go_enter Tryz.func20, Tryz.ntmps20
  go_wp2_with fail
  go_ret
  exact ⟨rfl, rfl⟩

/-- A terminal whose cursor may be anywhere. -/
structure EmQ (w : World) (e : Nat) (L : Loc) (m : EmM) : Prop where
  g : EmG w e L m.W m.H m.F m.O m.stops
  cs : CellsAt w e 22 m.cs
  w2 : 2 ≤ m.W
  w40 : m.W ≤ 40
  h1 : 1 ≤ m.H
  h20 : m.H ≤ 20
theorem EmR.q {w : World} {e : Nat} {L : Loc} {m : EmM} (h : EmR w e L m) : EmQ w e L m := ⟨h.g, h.cs, h.ok.w2, h.ok.w40, h.ok.h1, h.ok.h20⟩
theorem EmQ.r {w : World} {e : Nat} {L : Loc} {m : EmM} (h : EmQ w e L m) (ok : m.Ok) : EmR w e L m := ⟨h.g, h.cs, ok⟩
theorem EmQ.quiet {w w' : World} {e : Nat} {L : Loc} {m : EmM} (h : EmQ w e L m) (k : Keep (fun _ => False) w w') : EmQ w' e L m := ⟨h.g.keep k (fun _ _ x => x), h.cs.keep k (fun x => x), h.w2, h.w40, h.h1, h.h20⟩
theorem EmQ.cell {w : World} {e : Nat} {L : Loc} {m : EmM} (h : EmQ w e L m) (i q : Nat) (hq : q = 22 + i) (v : Value) (hv : m.cs[i]? = some v) : w.cell? ⟨e, q, none⟩ = some v ∧ w.frozen? ⟨e, q, none⟩ = false := by
  subst hq; exact h.cs i v hv
theorem EmG.shown {w : World} {e : Nat} {L : Loc} {W H : Nat} {F : Nat → CellM} {O : Option (Nat → CellM)} {stops : List Bool} (h : EmG w e L W H F O stops) : ∃ G, GridAt w L.sh.1 L.sh.2.1 L.sh.2.2 W H (W * H) G := by
  unfold Loc.sh
  rcases h.co with ⟨a, _, _⟩ | ⟨a, b, c, G, ho, _, _, hg⟩
  · rw [a]; exact ⟨F, h.gm⟩
  · rw [ho]; exact ⟨G, hg⟩

set_option maxHeartbeats 800000 in
theorem emu_shownG (w : World) (e : Nat) (L : Loc) (W H : Nat) (F : Nat → CellM) (O : Option (Nat → CellM)) (stops : List Bool) (h : EmG w e L W H F O stops) :
    Calls Tryz.prog 28 #[.pointer (some ⟨e, 0, none⟩)] w fun v w' => v = .returned (.pointer (some ⟨L.sh.1, 0, none⟩)) ∧ w' = w := by
  have c := h.cm.1
  rcases h.co with ⟨a, b, co⟩ | ⟨a, b, c, G, ho, hG, co, hg⟩
  · have e1 : L.sh.1 = L.p := by unfold Loc.sh; rw [a]
    rw [e1]
    have c2 := co.1
    clear h a b e1 co
    go_enter Tryz.func28, Tryz.ntmps28
    go_wp2_with fail
    go_ret
    exact ⟨rfl, rfl⟩
  · have e1 : L.sh.1 = a := by unfold Loc.sh; rw [ho]
    rw [e1]
    have c2 := co.1
    clear h ho hG hg e1 co
    go_enter Tryz.func28, Tryz.ntmps28
    go_wp2_with fail
    go_ret
    exact ⟨rfl, rfl⟩

theorem emu_shown (w : World) (e : Nat) (L : Loc) (m : EmM) (h : EmR w e L m) :
    Calls Tryz.prog 28 #[.pointer (some ⟨e, 0, none⟩)] w fun v w' => v = .returned (.pointer (some ⟨L.sh.1, 0, none⟩)) ∧ w' = w := emu_shownG w e L _ _ _ _ _ h.g

set_option maxHeartbeats 800000 in
theorem emu_blank (w : World) (e : Nat) (L : Loc) (m : EmM) (h : EmR w e L m) :
    Calls Tryz.prog 68 #[.pointer (some ⟨e, 0, none⟩)] w fun v w' => v = .returned m.blank.v ∧ Keep (fun _ => False) w w' := by
  have he := h.elt
  have c2 := (h.cell 4 26 rfl _ rfl).1
  have c3 := (h.cell 5 27 rfl _ rfl).1
  have c4 := (h.cell 6 28 rfl _ rfl).1
  have c5 := (h.cell 7 29 rfl _ rfl).1
  have c6 := (h.cell 8 30 rfl _ rfl).1
  have HB : Hid (∀ V, Calls Tryz.prog 48 #[.agg #[.int .i64 m.st.pen.fg, .int .i64 m.st.pen.bg, .bool m.st.pen.b, .bool m.st.pen.u, .bool m.st.pen.i]] V fun e w' => e = .returned (.agg #[.int .i32 32, .int .i64 0, .int .i64 m.st.pen.bg, .bool false, .bool false, .bool false]) ∧ Below V.heap.size V w') := Lib.hid (fun V => cell_blank m.st.pen V)
  have e1 : m.blank.v = .agg #[.int .i32 32, .int .i64 0, .int .i64 m.st.pen.bg, .bool false, .bool false, .bool false] := rfl
  rw [e1]
  generalize m.st.pen = P at *
  obtain ⟨fg, bg, pb, pu, pi⟩ := P
  simp only at HB c2 c3 c4 c5 c6 ⊢
  clear h e1
  go_enter Tryz.func68, Tryz.ntmps68
  go_wp2_with fail
  refine (HB.out _).mono ?_
  rintro v w1 ⟨rfl, hb⟩
  have hk := Keep.of_below (fun _ => False) hb
  obtain ⟨W0, hW0⟩ : ∃ W0, W0 = w.alloc (.cells #[.int .i32 0, .int .i64 0, .int .i64 0, .bool false, .bool false, .bool false] 46) := ⟨_, rfl⟩
  obtain ⟨q, hq⟩ : ∃ q, q = w.heap.size := ⟨_, rfl⟩
  rw [← hW0] at hk
  have hq0 : W0.heap[q]? = some (.cells #[.int .i32 0, .int .i64 0, .int .i64 0, .bool false, .bool false, .bool false] 46 (0, 0)) := by rw [hW0, hq]; exact heap_alloc_new w _
  have hq1 := hk.heap hq0 (fun x => x)
  have hkw : Keep (fun _ => False) w w1 := ((Keep.refl _ w).alloc _).trans (hW0 ▸ hk) (fun _ _ x => x)
  have HK := Lib.hid hkw
  have hqw := Lib.hid hq
  have d0 := cell_at hq1 0
  have d1 := cell_at hq1 1
  have d2 := cell_at hq1 2
  have d3 := cell_at hq1 3
  have d4 := cell_at hq1 4
  have d5 := cell_at hq1 5
  have f0 := free_at hq1 0
  have f1 := free_at hq1 1
  have f2 := free_at hq1 2
  have f3 := free_at hq1 3
  have f4 := free_at hq1 4
  have f5 := free_at hq1 5
  rw [← hq]
  clear hb hk hW0 hq0 hq1 hkw hq c2 c3 c4 c5 c6 HB W0
  go_wp2_with fail
  refine bodyPost_ret (v := .agg #[.int .i32 32, .int .i64 0, .int .i64 bg, .bool false, .bool false, .bool false]) (by simp [results, Tryz.results68, go_sem, d0, d1, d2, d3, d4, d5]) rfl ⟨rfl, ?_⟩
  iterate 6 refine Keep.setCell ?_ (fun hlt => absurd (show q < w.heap.size from hlt) (by have := hqw.out; omega)) _
  exact HK.out

theorem EmQ.goTo_is (h : EmQ w e L m) (x y : Int) : EmQ (((w.setCell ⟨e, 24, none⟩ (.int .i64 (clampN x m.W : Nat))).setCell ⟨e, 25, none⟩ (.int .i64 (clampN y m.H : Nat))).setCell ⟨e, 46, none⟩ (.bool false)) e L (m.goTo x y) ∧ Mv e L L w (((w.setCell ⟨e, 24, none⟩ (.int .i64 (clampN x m.W : Nat))).setCell ⟨e, 25, none⟩ (.int .i64 (clampN y m.H : Nat))).setCell ⟨e, 46, none⟩ (.bool false)) :=
  ⟨⟨((h.g.set 24 (by omega) _).set 25 (by omega) _).set 46 (by omega) _, ((h.cs.set 2 (by rw [m.cs_len]; omega) _ rfl).set 3 (by rw [List.length_set, m.cs_len]; omega) _ rfl).set 24 (by rw [List.length_set, List.length_set, m.cs_len]; omega) _ rfl, h.w2, h.w40, h.h1, h.h20⟩,
   (((Mv.refl e L w).set 24 (by omega) _).set 25 (by omega) _).set 46 (by omega) _⟩

set_option maxHeartbeats 800000 in
theorem emu_goToQ (w : World) (e : Nat) (L : Loc) (m : EmM) (x y : Int) (h : EmQ w e L m) :
    Calls Tryz.prog 25 #[.pointer (some ⟨e, 0, none⟩), .int .i64 x, .int .i64 y] w fun v w' => v = .returned (.tuple #[]) ∧ EmQ w' e L (m.goTo x y) ∧ Mv e L L w w' := by
  have FIN := Lib.hid (h.goTo_is x y)
  have c2 := (h.cell 2 24 rfl _ rfl)
  have c3 := (h.cell 3 25 rfl _ rfl)
  have c4 := (h.cell 24 46 rfl _ rfl)
  have g2 := c2.1; have f2 := c2.2; have g3 := c3.1; have f3 := c3.2; have g4 := c4.1; have f4 := c4.2
  have HS := Lib.hid (emu_shownG w e L _ _ _ _ _ h.g)
  obtain ⟨G, hG⟩ := h.g.shown
  have HW := Lib.hid (grid_W w _ _ _ _ _ _ _ hG)
  have HH := Lib.hid (grid_H w _ _ _ _ _ _ _ hG)
  clear hG
  have w2 := h.w2; have w40 := h.w40; have h1 := h.h1; have h20 := h.h20
  have e1 : min (max x 0) ((m.W : Int) - 1) = (clampN x m.W : Nat) := by unfold clampN; omega
  have e2 : min (max y 0) ((m.H : Int) - 1) = (clampN y m.H : Nat) := by unfold clampN; omega
  have HX : Hid (∀ V, Calls Tryz.prog 36 #[.int .i64 x, .int .i64 0, .int .i64 ((m.W : Int) - 1)] V fun e w' => e = .returned (.int .i64 (clampN x m.W : Nat)) ∧ w' = V) := Lib.hid (fun V => by have := emu_within x 0 ((m.W : Int) - 1) V; rwa [e1] at this)
  have HY : Hid (∀ V, Calls Tryz.prog 36 #[.int .i64 y, .int .i64 0, .int .i64 ((m.H : Int) - 1)] V fun e w' => e = .returned (.int .i64 (clampN y m.H : Nat)) ∧ w' = V) := Lib.hid (fun V => by have := emu_within y 0 ((m.H : Int) - 1) V; rwa [e2] at this)
  generalize (clampN x m.W) = X at *
  generalize (clampN y m.H) = Y at *
  clear h c2 c3 c4 e1 e2
  go_enter Tryz.func25, Tryz.ntmps25
  go_wp2_with fail
  refine HS.out.mono ?_
  rintro v w1 ⟨rfl, rfl⟩
  go_wp2_with fail
  refine HW.out.mono ?_
  rintro v w1 ⟨rfl, rfl⟩
  go_wp2_with fail
  refine (HX.out _).mono ?_
  rintro v w1 ⟨rfl, rfl⟩
  go_wp2_with fail
  refine HH.out.mono ?_
  rintro v w1 ⟨rfl, rfl⟩
  go_wp2_with fail
  refine (HY.out _).mono ?_
  rintro v w1 ⟨rfl, rfl⟩
  go_wp2_with fail
  go_end0
  exact ⟨rfl, FIN.out⟩

theorem emu_goTo (w : World) (e : Nat) (L : Loc) (m : EmM) (x y : Int) (h : EmR w e L m) :
    Calls Tryz.prog 25 #[.pointer (some ⟨e, 0, none⟩), .int .i64 x, .int .i64 y] w fun v w' => v = .returned (.tuple #[]) ∧ EmR w' e L (m.goTo x y) ∧ Mv e L L w w' :=
  (emu_goToQ w e L m x y h.q).mono fun v w' ⟨a, b, c⟩ => ⟨a, b.r (h.ok.goTo x y), c⟩
end

end Go.Proofs.YtnminmaklbhakaaGreatDoor
namespace Go.Proofs.YtnminmaklbhakaaGreatDoor
set_option linter.unusedVariables false
set_option linter.unusedSimpArgs false
open Go.RowKit

section
variable {w : World} {e : Nat} {L : Loc} {m : EmM}

theorem EmR.cellp {G : Nat → CellM} (h : EmR w e L (m.put G)) (i q : Nat) (hq : q = 22 + i) (v : Value) (hv : m.cs[i]? = some v) : w.cell? ⟨e, q, none⟩ = some v ∧ w.frozen? ⟨e, q, none⟩ = false :=
  h.cell i q hq v (by rw [EmR.put_cs]; exact hv)
theorem EmR.with (h : EmR w e L m) {w1 w2 : World} (k : Keep (fun _ => False) w w1) {G : Nat → CellM} (k2 : Keep (· = L.sh.2.1) w1 w2) (hG : GridAt w2 L.sh.1 L.sh.2.1 L.sh.2.2 m.W m.H (m.W * m.H) G) : EmR w2 e L (m.put G) ∧ Mv e L L w w2 :=
  ⟨(h.quiet k).put k2 hG, ((Mv.refl e L w).quiet h.elt k).trans ((h.quiet k).mv_sh k2)⟩

theorem EmR.up (h : EmR w e L m) (t b k : Nat) (htb : t < b) (hb : b ≤ m.H) (V : World) (K : Keep (fun _ => False) w V) :
    Calls Tryz.prog 87 #[.pointer (some ⟨L.sh.1, 0, none⟩), .int .i64 (t : Int), .int .i64 (b : Int), .int .i64 (k : Int), m.blank.v] V fun v w' => v = .returned (.tuple #[]) ∧ EmR w' e L (m.put (upF m.W t b k m.blank m.shown)) ∧ Mv e L L w w' := by
  have hs := (h.quiet K).shown
  have hj : min (max (k : Int) 0) (m.H : Int) = ((min k m.H : Nat) : Int) := by omega
  refine (grid_up V _ _ _ _ _ _ _ t b k (min k m.H) m.blank hs hj).mono ?_
  rintro v w' ⟨rfl, q⟩
  exact ⟨rfl, h.with K q.keep (hs.up t b k _ m.blank htb hb hj q)⟩
theorem EmR.down (h : EmR w e L m) (t b k : Nat) (htb : t < b) (hb : b ≤ m.H) (V : World) (K : Keep (fun _ => False) w V) :
    Calls Tryz.prog 119 #[.pointer (some ⟨L.sh.1, 0, none⟩), .int .i64 (t : Int), .int .i64 (b : Int), .int .i64 (k : Int), m.blank.v] V fun v w' => v = .returned (.tuple #[]) ∧ EmR w' e L (m.put (downF m.W t b k m.blank m.shown)) ∧ Mv e L L w w' := by
  have hs := (h.quiet K).shown
  have hj : min (max (k : Int) 0) (m.H : Int) = ((min k m.H : Nat) : Int) := by omega
  refine (grid_down V _ _ _ _ _ _ _ t b k (min k m.H) m.blank hs hj).mono ?_
  rintro v w' ⟨rfl, q⟩
  exact ⟨rfl, h.with K q.keep (hs.down t b k _ m.blank htb hb hj q)⟩
theorem EmR.right (h : EmR w e L m) (k : Nat) (V : World) (K : Keep (fun _ => False) w V) :
    Calls Tryz.prog 67 #[.pointer (some ⟨L.sh.1, 0, none⟩), .int .i64 (m.st.x : Int), .int .i64 (m.st.y : Int), .int .i64 (k : Int), m.blank.v] V fun v w' => v = .returned (.tuple #[]) ∧ EmR w' e L (m.put (rightF m.W m.st.x m.st.y k m.blank m.shown)) ∧ Mv e L L w w' := by
  have hs := (h.quiet K).shown
  refine (grid_right V _ _ _ _ _ _ _ m.st.x m.st.y k m.blank hs).mono ?_
  rintro v w' ⟨rfl, q⟩
  exact ⟨rfl, h.with K q.keep (hs.right m.st.x m.st.y k m.blank h.ok.x h.ok.y q)⟩
theorem EmR.left (h : EmR w e L m) (k : Nat) (V : World) (K : Keep (fun _ => False) w V) :
    Calls Tryz.prog 127 #[.pointer (some ⟨L.sh.1, 0, none⟩), .int .i64 (m.st.x : Int), .int .i64 (m.st.y : Int), .int .i64 (k : Int), m.blank.v] V fun v w' => v = .returned (.tuple #[]) ∧ EmR w' e L (m.put (leftF m.W m.st.x m.st.y k m.blank m.shown)) ∧ Mv e L L w w' := by
  have hs := (h.quiet K).shown
  refine (grid_left V _ _ _ _ _ _ _ m.st.x m.st.y k m.blank hs).mono ?_
  rintro v w' ⟨rfl, q⟩
  exact ⟨rfl, h.with K q.keep (hs.left m.st.x m.st.y k m.blank h.ok.x h.ok.y q)⟩
theorem EmR.fill (h : EmR w e L m) (s t : Nat) (ht : t ≤ m.W * m.H) (V : World) (K : Keep (fun _ => False) w V) :
    Calls Tryz.prog 126 #[.pointer (some ⟨L.sh.1, 0, none⟩), .int .i64 (s : Int), .int .i64 (t : Int), m.blank.v] V fun v w' => v = .returned (.tuple #[]) ∧ EmR w' e L (m.fill s t) ∧ Mv e L L w w' := by
  have hs := (h.quiet K).shown
  refine (grid_fill V _ _ _ _ _ _ _ s t s (min (t : Int) ((m.W * m.H : Nat) : Int) - max (s : Int) 0).toNat m.blank hs rfl (fun _ => by omega)).mono ?_
  rintro v w' ⟨rfl, q⟩
  exact ⟨rfl, h.with K q.keep (hs.fill s t s _ m.blank ht rfl (fun _ => by omega) q)⟩

/-- shown and blank, of each world that only grew. -/
theorem EmR.shownK (h : EmR w e L m) (V : World) (k : Keep (fun _ => False) w V) : Calls Tryz.prog 28 #[.pointer (some ⟨e, 0, none⟩)] V fun v w' => v = .returned (.pointer (some ⟨L.sh.1, 0, none⟩)) ∧ w' = V := emu_shown V e L m (h.quiet k)
theorem EmR.blankK (h : EmR w e L m) (V : World) (k : Keep (fun _ => False) w V) : Calls Tryz.prog 68 #[.pointer (some ⟨e, 0, none⟩)] V fun v w' => v = .returned m.blank.v ∧ Keep (fun _ => False) V w' := emu_blank V e L m (h.quiet k)
theorem EmR.moved {w1 w2 w3 : World} {m1 m2 : EmM} {L1 L2 : Loc} (h : Mv e L L1 w w1) (k : EmR w2 e L2 m2 ∧ Mv e L1 L2 w1 w2) : EmR w2 e L2 m2 ∧ Mv e L L2 w w2 := ⟨k.1, h.trans k.2⟩
end

set_option maxRecDepth 100000 in
set_option maxHeartbeats 1600000 in
theorem emu_index (w : World) (e : Nat) (L : Loc) (m : EmM) (h : EmR w e L m) :
    Calls Tryz.prog 65 #[.pointer (some ⟨e, 0, none⟩)] w fun v w' => v = .returned (.tuple #[]) ∧ EmR w' e L m.index ∧ Mv e L L w w' := by
  have HE := Lib.hid h
  have hok := h.ok
  have w2 := hok.w2; have w40 := hok.w40; have h1 := hok.h1; have h20 := hok.h20; have hx := hok.x; have hy := hok.y; have htb := hok.tb; have hbh := hok.bh
  have c22 := (h.cell 0 22 rfl _ rfl).1; have c23 := (h.cell 1 23 rfl _ rfl).1; have c24 := (h.cell 2 24 rfl _ rfl).1; have c25 := (h.cell 3 25 rfl _ rfl).1
  by_cases hb : m.st.y + 1 = m.bottom
  · have HS := Lib.hid h.shownK
    have HB := Lib.hid h.blankK
    have HU := Lib.hid (h.up m.top m.bottom 1 htb hbh)
    have e1 : m.index = (m.put (upF m.W m.top m.bottom 1 m.blank m.shown)).goTo m.st.x m.st.y := if_pos hb
    rw [e1]
    have t0 : ((m.st.y : Int) + 1 == (m.bottom : Int)) = true := by simp; omega
    clear h hok e1 hb
    go_enter Tryz.func65, Tryz.ntmps65
    go_upto_region 2 with fail
    refine wp_region_noPanic ?_
    refine wp_region_held_drew (S := fun w' => w'.cell? ⟨e, 22, none⟩ = some (.int .i64 (m.top : Int)) ∧ w'.cell? ⟨e, 23, none⟩ = some (.int .i64 (m.bottom : Int))) (by kernel_rfl) ⟨c22, c23⟩ (fun hHeld => ?_)
    refine wpAnyH_take (i := 0) (oi := _) (v := ?va0) rfl (by kernel_rfl) (by kernel_rfl) (by kernel_rfl) (fun _ _ _ h => h) (Or.inl ⟨by rfl, ?hya0⟩) (by assumption) ?resta0
    case hya0 => (intro w hSw; (try dsimp only at hSw); (try simp only [List.getElem_toArray, List.getElem_cons_zero, List.getElem_cons_succ]); go_simp; (try with_reducible rfl))
    (try simp only [Act.put, List.setIfInBounds_toArray, List.set_cons_zero, List.set_cons_succ, List.getElem_toArray, List.getElem_cons_zero, List.getElem_cons_succ])
    refine wpAnyH_take (i := 2) (oi := _) (v := ?va2) rfl (by kernel_rfl) (by kernel_rfl) (by kernel_rfl) (fun _ _ _ h => h) (Or.inl ⟨by rfl, ?hya2⟩) (by assumption) ?resta2
    case hya2 => (intro w hSw; (try dsimp only at hSw); (try simp only [List.getElem_toArray, List.getElem_cons_zero, List.getElem_cons_succ]); go_simp; (try with_reducible rfl))
    (try simp only [Act.put, List.setIfInBounds_toArray, List.set_cons_zero, List.set_cons_succ, List.getElem_toArray, List.getElem_cons_zero, List.getElem_cons_succ])
    refine wpAnyH_take (i := 3) (oi := _) (v := ?va3) rfl (by kernel_rfl) (by kernel_rfl) (by kernel_rfl) (fun _ _ _ h => h) (Or.inl ⟨by rfl, ?hya3⟩) (by assumption) ?resta3
    case hya3 => (intro w hSw; (try dsimp only at hSw); (try simp only [List.getElem_toArray, List.getElem_cons_zero, List.getElem_cons_succ]); go_simp; (try with_reducible rfl))
    (try simp only [Act.put, List.setIfInBounds_toArray, List.set_cons_zero, List.set_cons_succ, List.getElem_toArray, List.getElem_cons_zero, List.getElem_cons_succ])
    refine wpAnyH_take (i := 4) (oi := _) (v := ?va4) rfl (by kernel_rfl) (by kernel_rfl) (by kernel_rfl) (fun _ _ _ h => h) (Or.inl ⟨by rfl, ?hya4⟩) (by assumption) ?resta4
    case hya4 => (intro w hSw; (try dsimp only at hSw); (try simp only [List.getElem_toArray, List.getElem_cons_zero, List.getElem_cons_succ]); go_simp; (try with_reducible rfl))
    (try simp only [Act.put, List.setIfInBounds_toArray, List.set_cons_zero, List.set_cons_succ, List.getElem_toArray, List.getElem_cons_zero, List.getElem_cons_succ])
    refine wpAnyH_take (i := 5) (oi := _) (v := ?va5) rfl (by kernel_rfl) (by kernel_rfl) (by kernel_rfl) (fun _ _ _ h => h) (Or.inl ⟨by rfl, ?hya5⟩) (by assumption) ?resta5
    case hya5 => (intro w hSw; (try dsimp only at hSw); (try simp only [List.getElem_toArray, List.getElem_cons_zero, List.getElem_cons_succ]); go_simp; (try with_reducible rfl))
    (try simp only [Act.put, List.setIfInBounds_toArray, List.set_cons_zero, List.set_cons_succ, List.getElem_toArray, List.getElem_cons_zero, List.getElem_cons_succ])
    refine wpAnyH_take (i := 6) (oi := _) (v := ?va6) rfl (by kernel_rfl) (by kernel_rfl) (by kernel_rfl) (fun _ _ _ h => h) (Or.inl ⟨by rfl, ?hya6⟩) (by assumption) ?resta6
    case hya6 => (intro w hSw; (try dsimp only at hSw); (try simp only [List.getElem_toArray, List.getElem_cons_zero, List.getElem_cons_succ]); go_simp; (try with_reducible rfl))
    (try simp only [Act.put, List.setIfInBounds_toArray, List.set_cons_zero, List.set_cons_succ, List.getElem_toArray, List.getElem_cons_zero, List.getElem_cons_succ])
    refine wpAnyH_take (i := 7) (oi := _) (v := ?va7) rfl (by kernel_rfl) (by kernel_rfl) (by kernel_rfl) (fun _ _ _ h => h) (Or.inl ⟨by rfl, ?hya7⟩) (by assumption) ?resta7
    case hya7 => (intro w hSw; (try dsimp only at hSw); (try simp only [List.getElem_toArray, List.getElem_cons_zero, List.getElem_cons_succ]); go_simp; (try with_reducible rfl))
    (try simp only [Act.put, List.setIfInBounds_toArray, List.set_cons_zero, List.set_cons_succ, List.getElem_toArray, List.getElem_cons_zero, List.getElem_cons_succ])
    refine wpAnyH_take (i := 8) (oi := _) (v := ?va8) rfl (by kernel_rfl) (by kernel_rfl) (by kernel_rfl) (fun _ _ _ h => h) (Or.inl ⟨by rfl, ?hya8⟩) (by assumption) ?resta8
    case hya8 => (intro w hSw; (try dsimp only at hSw); (try simp only [List.getElem_toArray, List.getElem_cons_zero, List.getElem_cons_succ]); go_simp; (try with_reducible rfl))
    (try simp only [Act.put, List.setIfInBounds_toArray, List.set_cons_zero, List.set_cons_succ, List.getElem_toArray, List.getElem_cons_zero, List.getElem_cons_succ])
    refine wpAnyH_take (i := 9) (oi := _) (v := ?va9) rfl (by kernel_rfl) (by kernel_rfl) (by kernel_rfl) (fun _ _ _ h => h) (Or.inl ⟨by rfl, ?hya9⟩) (by assumption) ?resta9
    case hya9 => (intro w hSw; (try dsimp only at hSw); (try simp only [List.getElem_toArray, List.getElem_cons_zero, List.getElem_cons_succ]); go_simp; (try with_reducible rfl))
    (try simp only [Act.put, List.setIfInBounds_toArray, List.set_cons_zero, List.set_cons_succ, List.getElem_toArray, List.getElem_cons_zero, List.getElem_cons_succ])
    refine wpAnyH_take (i := 10) (oi := _) (v := ?va10) rfl (by kernel_rfl) (by kernel_rfl) (by kernel_rfl) (fun _ _ _ h => h) (Or.inl ⟨by rfl, ?hya10⟩) (by assumption) ?resta10
    case hya10 => (intro w hSw; (try dsimp only at hSw); (try simp only [List.getElem_toArray, List.getElem_cons_zero, List.getElem_cons_succ]); go_simp; (try with_reducible rfl))
    (try simp only [Act.put, List.setIfInBounds_toArray, List.set_cons_zero, List.set_cons_succ, List.getElem_toArray, List.getElem_cons_zero, List.getElem_cons_succ])
    refine wpAnyH_ready (rs := [1]) (by kernel_rfl) (by simp) ?_
    refine AllReadyH.cons (o := _) rfl (fun K hK => ?_) AllReadyH.nil
    (try simp only [List.getElem_toArray, List.getElem_cons_zero, List.getElem_cons_succ])
    go_simp
    refine (HS.out _ ((Keep.refl _ w).drew)).mono ?_; rintro v w1 ⟨rfl, rfl⟩
    refine hK.out _ _ ?_ (fun hHeld => ?_)
    · exact ⟨c22, c23⟩
    clear hK K
    (try simp only [Act.put, List.setIfInBounds_toArray, List.set_cons_zero, List.set_cons_succ, List.getElem_toArray, List.getElem_cons_zero, List.getElem_cons_succ])
    refine wpAnyH_ready (rs := [11]) (by kernel_rfl) (by simp) ?_
    refine AllReadyH.cons (o := _) rfl (fun K hK => ?_) AllReadyH.nil
    (try simp only [List.getElem_toArray, List.getElem_cons_zero, List.getElem_cons_succ])
    go_simp
    refine (HB.out _ ((Keep.refl _ w).drew)).mono ?_; rintro v w2 ⟨rfl, hk⟩; have K2 : Hid (Keep (fun _ => False) w w2) := Lib.hid (((Keep.refl _ w).drew).trans hk (fun _ _ x => x)); clear hk
    refine hK.out _ _ ?_ (fun hHeld => ?_)
    · exact ⟨((HE.out.quiet K2.out).cell 0 22 rfl _ rfl).1, ((HE.out.quiet K2.out).cell 1 23 rfl _ rfl).1⟩
    clear hK K
    (try simp only [Act.put, List.setIfInBounds_toArray, List.set_cons_zero, List.set_cons_succ, List.getElem_toArray, List.getElem_cons_zero, List.getElem_cons_succ])
    refine wpAnyH_ready (rs := [12]) (by kernel_rfl) (by simp) ?_
    refine AllReadyH.cons (o := _) rfl (fun K hK => ?_) AllReadyH.nil
    (try simp only [List.getElem_toArray, List.getElem_cons_zero, List.getElem_cons_succ])
    go_simp
    refine (HU.out _ K2.out).mono ?_; rintro v w3 ⟨rfl, he3, hm3⟩; have HE3 := Lib.hid he3; have HM3 := Lib.hid hm3; clear he3 hm3
    refine hK.out _ _ ?_ (fun hHeld => ?_)
    · exact ⟨(HE3.out.cellp 0 22 rfl _ rfl).1, (HE3.out.cellp 1 23 rfl _ rfl).1⟩
    clear hK K
    (try simp only [Act.put, List.setIfInBounds_toArray, List.set_cons_zero, List.set_cons_succ, List.getElem_toArray, List.getElem_cons_zero, List.getElem_cons_succ])
    refine wpAnyH_done (by kernel_rfl) ?_ _
    refine NoPanic.normal ?_
    have d24 := (HE3.out.cellp 2 24 rfl _ rfl).1
    have d25 := (HE3.out.cellp 3 25 rfl _ rfl).1
    go_wp2_with fail
    refine (emu_goTo w3 e L _ _ _ HE3.out).mono ?_
    rintro v w4 ⟨rfl, he4, hm4⟩
    have HE4 := Lib.hid he4
    have HM4 := Lib.hid (HM3.out.trans hm4)
    clear he4 hm4
    go_wp2_with fail
    go_end0
    exact ⟨rfl, HE4.out, HM4.out⟩
  · have e1 : m.index = m.goTo m.st.x ((m.st.y : Int) + 1) := if_neg hb
    rw [e1]
    have t0 : ((m.st.y : Int) + 1 == (m.bottom : Int)) = false := by simp; omega
    clear h hok e1 hb
    go_enter Tryz.func65, Tryz.ntmps65
    go_wp2_with fail
    refine (emu_goTo _ e L m _ _ (by first | exact HE.out | exact HE.out.drewN _)).mono ?_
    rintro v w4 ⟨rfl, he4, hm4⟩
    have HE4 := Lib.hid he4
    have HM4 : Hid (Mv e L L w w4) := Lib.hid (by first | exact hm4 | exact ((Mv.refl e L w).drewN _).trans hm4)
    clear he4 hm4
    go_wp2_with fail
    go_end0
    exact ⟨rfl, HE4.out, HM4.out⟩

set_option maxRecDepth 100000 in
set_option maxHeartbeats 1600000 in
theorem emu_reverseIndex (w : World) (e : Nat) (L : Loc) (m : EmM) (h : EmR w e L m) :
    Calls Tryz.prog 93 #[.pointer (some ⟨e, 0, none⟩)] w fun v w' => v = .returned (.tuple #[]) ∧ EmR w' e L m.reverse ∧ Mv e L L w w' := by
  have HE := Lib.hid h
  have hok := h.ok
  have w2 := hok.w2; have w40 := hok.w40; have h1 := hok.h1; have h20 := hok.h20; have hx := hok.x; have hy := hok.y; have htb := hok.tb; have hbh := hok.bh
  have c22 := (h.cell 0 22 rfl _ rfl).1; have c23 := (h.cell 1 23 rfl _ rfl).1; have c24 := (h.cell 2 24 rfl _ rfl).1; have c25 := (h.cell 3 25 rfl _ rfl).1
  by_cases hb : m.st.y = m.top
  · have HS := Lib.hid h.shownK
    have HB := Lib.hid h.blankK
    have HU := Lib.hid (h.down m.top m.bottom 1 htb hbh)
    have e1 : m.reverse = (m.put (downF m.W m.top m.bottom 1 m.blank m.shown)).goTo m.st.x m.st.y := if_pos hb
    rw [e1]
    have t0 : ((m.st.y : Int) == (m.top : Int)) = true := by simp; omega
    clear h hok e1 hb
    go_enter Tryz.func93, Tryz.ntmps93
    go_upto_region 1 with fail
    go_quiet (fail)
    go_upto_region 2 with fail
    refine wp_region_noPanic ?_
    refine wp_region_held_drew (S := fun w' => w'.cell? ⟨e, 22, none⟩ = some (.int .i64 (m.top : Int)) ∧ w'.cell? ⟨e, 23, none⟩ = some (.int .i64 (m.bottom : Int))) (by kernel_rfl) ⟨c22, c23⟩ (fun hHeld => ?_)
    refine wpAnyH_take (i := 0) (oi := _) (v := ?va0) rfl (by kernel_rfl) (by kernel_rfl) (by kernel_rfl) (fun _ _ _ h => h) (Or.inl ⟨by rfl, ?hya0⟩) (by assumption) ?resta0
    case hya0 => (intro w hSw; (try dsimp only at hSw); (try simp only [List.getElem_toArray, List.getElem_cons_zero, List.getElem_cons_succ]); go_simp; (try with_reducible rfl))
    (try simp only [Act.put, List.setIfInBounds_toArray, List.set_cons_zero, List.set_cons_succ, List.getElem_toArray, List.getElem_cons_zero, List.getElem_cons_succ])
    refine wpAnyH_take (i := 2) (oi := _) (v := ?va2) rfl (by kernel_rfl) (by kernel_rfl) (by kernel_rfl) (fun _ _ _ h => h) (Or.inl ⟨by rfl, ?hya2⟩) (by assumption) ?resta2
    case hya2 => (intro w hSw; (try dsimp only at hSw); (try simp only [List.getElem_toArray, List.getElem_cons_zero, List.getElem_cons_succ]); go_simp; (try with_reducible rfl))
    (try simp only [Act.put, List.setIfInBounds_toArray, List.set_cons_zero, List.set_cons_succ, List.getElem_toArray, List.getElem_cons_zero, List.getElem_cons_succ])
    refine wpAnyH_take (i := 3) (oi := _) (v := ?va3) rfl (by kernel_rfl) (by kernel_rfl) (by kernel_rfl) (fun _ _ _ h => h) (Or.inl ⟨by rfl, ?hya3⟩) (by assumption) ?resta3
    case hya3 => (intro w hSw; (try dsimp only at hSw); (try simp only [List.getElem_toArray, List.getElem_cons_zero, List.getElem_cons_succ]); go_simp; (try with_reducible rfl))
    (try simp only [Act.put, List.setIfInBounds_toArray, List.set_cons_zero, List.set_cons_succ, List.getElem_toArray, List.getElem_cons_zero, List.getElem_cons_succ])
    refine wpAnyH_take (i := 4) (oi := _) (v := ?va4) rfl (by kernel_rfl) (by kernel_rfl) (by kernel_rfl) (fun _ _ _ h => h) (Or.inl ⟨by rfl, ?hya4⟩) (by assumption) ?resta4
    case hya4 => (intro w hSw; (try dsimp only at hSw); (try simp only [List.getElem_toArray, List.getElem_cons_zero, List.getElem_cons_succ]); go_simp; (try with_reducible rfl))
    (try simp only [Act.put, List.setIfInBounds_toArray, List.set_cons_zero, List.set_cons_succ, List.getElem_toArray, List.getElem_cons_zero, List.getElem_cons_succ])
    refine wpAnyH_take (i := 5) (oi := _) (v := ?va5) rfl (by kernel_rfl) (by kernel_rfl) (by kernel_rfl) (fun _ _ _ h => h) (Or.inl ⟨by rfl, ?hya5⟩) (by assumption) ?resta5
    case hya5 => (intro w hSw; (try dsimp only at hSw); (try simp only [List.getElem_toArray, List.getElem_cons_zero, List.getElem_cons_succ]); go_simp; (try with_reducible rfl))
    (try simp only [Act.put, List.setIfInBounds_toArray, List.set_cons_zero, List.set_cons_succ, List.getElem_toArray, List.getElem_cons_zero, List.getElem_cons_succ])
    refine wpAnyH_take (i := 6) (oi := _) (v := ?va6) rfl (by kernel_rfl) (by kernel_rfl) (by kernel_rfl) (fun _ _ _ h => h) (Or.inl ⟨by rfl, ?hya6⟩) (by assumption) ?resta6
    case hya6 => (intro w hSw; (try dsimp only at hSw); (try simp only [List.getElem_toArray, List.getElem_cons_zero, List.getElem_cons_succ]); go_simp; (try with_reducible rfl))
    (try simp only [Act.put, List.setIfInBounds_toArray, List.set_cons_zero, List.set_cons_succ, List.getElem_toArray, List.getElem_cons_zero, List.getElem_cons_succ])
    refine wpAnyH_take (i := 7) (oi := _) (v := ?va7) rfl (by kernel_rfl) (by kernel_rfl) (by kernel_rfl) (fun _ _ _ h => h) (Or.inl ⟨by rfl, ?hya7⟩) (by assumption) ?resta7
    case hya7 => (intro w hSw; (try dsimp only at hSw); (try simp only [List.getElem_toArray, List.getElem_cons_zero, List.getElem_cons_succ]); go_simp; (try with_reducible rfl))
    (try simp only [Act.put, List.setIfInBounds_toArray, List.set_cons_zero, List.set_cons_succ, List.getElem_toArray, List.getElem_cons_zero, List.getElem_cons_succ])
    refine wpAnyH_take (i := 8) (oi := _) (v := ?va8) rfl (by kernel_rfl) (by kernel_rfl) (by kernel_rfl) (fun _ _ _ h => h) (Or.inl ⟨by rfl, ?hya8⟩) (by assumption) ?resta8
    case hya8 => (intro w hSw; (try dsimp only at hSw); (try simp only [List.getElem_toArray, List.getElem_cons_zero, List.getElem_cons_succ]); go_simp; (try with_reducible rfl))
    (try simp only [Act.put, List.setIfInBounds_toArray, List.set_cons_zero, List.set_cons_succ, List.getElem_toArray, List.getElem_cons_zero, List.getElem_cons_succ])
    refine wpAnyH_take (i := 9) (oi := _) (v := ?va9) rfl (by kernel_rfl) (by kernel_rfl) (by kernel_rfl) (fun _ _ _ h => h) (Or.inl ⟨by rfl, ?hya9⟩) (by assumption) ?resta9
    case hya9 => (intro w hSw; (try dsimp only at hSw); (try simp only [List.getElem_toArray, List.getElem_cons_zero, List.getElem_cons_succ]); go_simp; (try with_reducible rfl))
    (try simp only [Act.put, List.setIfInBounds_toArray, List.set_cons_zero, List.set_cons_succ, List.getElem_toArray, List.getElem_cons_zero, List.getElem_cons_succ])
    refine wpAnyH_take (i := 10) (oi := _) (v := ?va10) rfl (by kernel_rfl) (by kernel_rfl) (by kernel_rfl) (fun _ _ _ h => h) (Or.inl ⟨by rfl, ?hya10⟩) (by assumption) ?resta10
    case hya10 => (intro w hSw; (try dsimp only at hSw); (try simp only [List.getElem_toArray, List.getElem_cons_zero, List.getElem_cons_succ]); go_simp; (try with_reducible rfl))
    (try simp only [Act.put, List.setIfInBounds_toArray, List.set_cons_zero, List.set_cons_succ, List.getElem_toArray, List.getElem_cons_zero, List.getElem_cons_succ])
    refine wpAnyH_ready (rs := [1]) (by kernel_rfl) (by simp) ?_
    refine AllReadyH.cons (o := _) rfl (fun K hK => ?_) AllReadyH.nil
    (try simp only [List.getElem_toArray, List.getElem_cons_zero, List.getElem_cons_succ])
    go_simp
    refine (HS.out _ (((Keep.refl _ w).drewN _).drew)).mono ?_; rintro v w1 ⟨rfl, rfl⟩
    refine hK.out _ _ ?_ (fun hHeld => ?_)
    · exact ⟨c22, c23⟩
    clear hK K
    (try simp only [Act.put, List.setIfInBounds_toArray, List.set_cons_zero, List.set_cons_succ, List.getElem_toArray, List.getElem_cons_zero, List.getElem_cons_succ])
    refine wpAnyH_ready (rs := [11]) (by kernel_rfl) (by simp) ?_
    refine AllReadyH.cons (o := _) rfl (fun K hK => ?_) AllReadyH.nil
    (try simp only [List.getElem_toArray, List.getElem_cons_zero, List.getElem_cons_succ])
    go_simp
    refine (HB.out _ (((Keep.refl _ w).drewN _).drew)).mono ?_; rintro v w2 ⟨rfl, hk⟩; have K2 : Hid (Keep (fun _ => False) w w2) := Lib.hid ((((Keep.refl _ w).drewN _).drew).trans hk (fun _ _ x => x)); clear hk
    refine hK.out _ _ ?_ (fun hHeld => ?_)
    · exact ⟨((HE.out.quiet K2.out).cell 0 22 rfl _ rfl).1, ((HE.out.quiet K2.out).cell 1 23 rfl _ rfl).1⟩
    clear hK K
    (try simp only [Act.put, List.setIfInBounds_toArray, List.set_cons_zero, List.set_cons_succ, List.getElem_toArray, List.getElem_cons_zero, List.getElem_cons_succ])
    refine wpAnyH_ready (rs := [12]) (by kernel_rfl) (by simp) ?_
    refine AllReadyH.cons (o := _) rfl (fun K hK => ?_) AllReadyH.nil
    (try simp only [List.getElem_toArray, List.getElem_cons_zero, List.getElem_cons_succ])
    go_simp
    refine (HU.out _ K2.out).mono ?_; rintro v w3 ⟨rfl, he3, hm3⟩; have HE3 := Lib.hid he3; have HM3 := Lib.hid hm3; clear he3 hm3
    refine hK.out _ _ ?_ (fun hHeld => ?_)
    · exact ⟨(HE3.out.cellp 0 22 rfl _ rfl).1, (HE3.out.cellp 1 23 rfl _ rfl).1⟩
    clear hK K
    (try simp only [Act.put, List.setIfInBounds_toArray, List.set_cons_zero, List.set_cons_succ, List.getElem_toArray, List.getElem_cons_zero, List.getElem_cons_succ])
    refine wpAnyH_done (by kernel_rfl) ?_ _
    refine NoPanic.normal ?_
    have d24 := (HE3.out.cellp 2 24 rfl _ rfl).1
    have d25 := (HE3.out.cellp 3 25 rfl _ rfl).1
    go_wp2_with fail
    refine (emu_goTo w3 e L _ _ _ HE3.out).mono ?_
    rintro v w4 ⟨rfl, he4, hm4⟩
    have HE4 := Lib.hid he4
    have HM4 := Lib.hid (HM3.out.trans hm4)
    clear he4 hm4
    go_wp2_with fail
    go_end0
    exact ⟨rfl, HE4.out, HM4.out⟩
  · have e1 : m.reverse = m.goTo m.st.x ((m.st.y : Int) - 1) := if_neg hb
    rw [e1]
    have t0 : ((m.st.y : Int) == (m.top : Int)) = false := by simp; omega
    clear h hok e1 hb
    go_enter Tryz.func93, Tryz.ntmps93
    go_wp2_with fail
    go_quiet (fail)
    go_wp2_with fail
    refine (emu_goTo _ e L m _ _ (by first | exact HE.out | exact HE.out.drewN _)).mono ?_
    rintro v w4 ⟨rfl, he4, hm4⟩
    have HE4 := Lib.hid he4
    have HM4 : Hid (Mv e L L w w4) := Lib.hid (by first | exact hm4 | exact ((Mv.refl e L w).drewN _).trans hm4)
    clear he4 hm4
    go_wp2_with fail
    go_end0
    exact ⟨rfl, HE4.out, HM4.out⟩

end Go.Proofs.YtnminmaklbhakaaGreatDoor
namespace Go.Proofs.YtnminmaklbhakaaGreatDoor
set_option linter.unusedVariables false
set_option linter.unusedSimpArgs false
open Go.RowKit

theorem place_in {m : EmM} (h : m.Ok) : m.place < m.W * m.H ∧ m.st.y * m.W + m.W ≤ m.W * m.H := by
  have h1 : (m.st.y + 1) * m.W ≤ m.H * m.W := Nat.mul_le_mul_right _ h.y
  rw [Nat.succ_mul, Nat.mul_comm m.H] at h1
  have := h.x
  unfold EmM.place
  omega
theorem area_le {m : EmM} (h : m.Ok) : m.W * m.H ≤ 800 := Nat.mul_le_mul h.w40 h.h20

set_option maxHeartbeats 1600000 in
theorem emu_place (w : World) (e : Nat) (L : Loc) (m : EmM) (h : EmR w e L m) :
    Calls Tryz.prog 125 #[.pointer (some ⟨e, 0, none⟩), .pointer (some ⟨L.sh.1, 0, none⟩)] w fun v w' => v = .returned (.int .i64 (m.place : Int)) ∧ ∃ k, w' = w.drewN k := by
  have hok := h.ok
  have hx := hok.x; have hy := hok.y; have w40 := hok.w40; have h20 := hok.h20
  have hp := place_in hok
  have ha := area_le hok
  have c24 := (h.cell 2 24 rfl _ rfl).1; have c25 := (h.cell 3 25 rfl _ rfl).1
  have HW : Hid (∀ k, Calls Tryz.prog 24 #[.pointer (some ⟨L.sh.1, 0, none⟩)] (w.drewN k) fun v w' => v = .returned (.int .i64 (m.W : Int)) ∧ w' = w.drewN k) := Lib.hid (fun k => grid_W _ _ _ _ _ _ _ _ (h.drewN k).shown)
  obtain ⟨P, hP⟩ : ∃ P, P = m.st.y * m.W := ⟨_, rfl⟩
  have e1 : (m.st.y : Int) * (m.W : Int) = (P : Int) := by rw [hP]; exact (Int.natCast_mul _ _).symm
  have hpl : m.place = P + m.st.x := by rw [hP]; rfl
  have e2 : IntKind.i64.wrap ((m.st.y : Int) * (m.W : Int)) = (P : Int) := by rw [e1]; exact IntWalk.i64_in _ (by omega)
  have e3 : IntKind.i64.wrap ((P : Int) + (m.st.x : Int)) = (m.place : Int) := by rw [IntWalk.i64_in _ (by omega)]; omega
  generalize m.place = PL at *
  generalize m.st.x = X at *
  generalize m.st.y = Y at *
  clear h hok hP hpl hp e1
  go_enter Tryz.func125, Tryz.ntmps125
  go_wp2_with fail
  go_quiet ((go_at_call 24; exact Calls.quiet_of_same (HW.out _)))
  go_wp2_with fail
  go_ret
  exact ⟨rfl, _, rfl⟩

set_option maxHeartbeats 1600000 in
theorem emu_rowEnds (w : World) (e : Nat) (L : Loc) (m : EmM) (h : EmR w e L m) :
    Calls Tryz.prog 124 #[.pointer (some ⟨e, 0, none⟩), .pointer (some ⟨L.sh.1, 0, none⟩)] w fun v w' => v = .returned (.tuple #[.int .i64 ((m.st.y * m.W : Nat) : Int), .int .i64 (((m.st.y + 1) * m.W : Nat) : Int)]) ∧ ∃ k, w' = w.drewN k := by
  have hok := h.ok
  have hx := hok.x; have hy := hok.y; have w40 := hok.w40; have h20 := hok.h20
  have hp := place_in hok
  have ha := area_le hok
  have c25 := (h.cell 3 25 rfl _ rfl).1
  have HW : Hid (∀ k, Calls Tryz.prog 24 #[.pointer (some ⟨L.sh.1, 0, none⟩)] (w.drewN k) fun v w' => v = .returned (.int .i64 (m.W : Int)) ∧ w' = w.drewN k) := Lib.hid (fun k => grid_W _ _ _ _ _ _ _ _ (h.drewN k).shown)
  obtain ⟨P, hP⟩ : ∃ P, m.st.y * m.W = P := ⟨_, rfl⟩
  obtain ⟨Q, hQ⟩ : ∃ Q, (m.st.y + 1) * m.W = Q := ⟨_, rfl⟩
  have hPQ : Q = P + m.W := by rw [← hQ, Nat.succ_mul, hP]
  have e1 : (m.st.y : Int) * (m.W : Int) = (P : Int) := by rw [← hP]; exact (Int.natCast_mul _ _).symm
  have e2 : IntKind.i64.wrap ((m.st.y : Int) * (m.W : Int)) = (P : Int) := by rw [e1]; exact IntWalk.i64_in _ (by omega)
  have e3 : IntKind.i64.wrap (((m.st.y : Int) + 1) * (m.W : Int)) = (Q : Int) := by rw [Int.add_mul, e1, IntWalk.i64_in _ (by omega)]; omega
  have e4 : IntKind.i64.wrap ((m.st.y : Int) + 1) = (m.st.y : Int) + 1 := IntWalk.i64_in _ (by omega)
  rw [hP, hQ]
  generalize m.st.y = Y at *
  clear h hok hP hp e1 hQ hPQ
  go_enter Tryz.func124, Tryz.ntmps124
  go_wp2_with fail
  go_quiet ((go_at_call 24; exact Calls.quiet_of_same (HW.out _)))
  go_wp2_with fail
  go_ret2
  exact ⟨rfl, _, rfl⟩

set_option maxHeartbeats 1600000 in
theorem emu_above (w : World) (e : Nat) (L : Loc) (m : EmM) (n : Nat) (hn : n ≤ 9999) (h : EmR w e L m) :
    Calls Tryz.prog 121 #[.pointer (some ⟨e, 0, none⟩), .int .i64 (n : Int)] w fun v w' => v = .returned (.int .i64 (m.above n)) ∧ ∃ k, w' = w.drewN k := by
  have hok := h.ok
  have hy := hok.y; have h20 := hok.h20
  have c22 := (h.cell 0 22 rfl _ rfl).1; have c25 := (h.cell 3 25 rfl _ rfl).1
  by_cases hb : m.st.y < m.top
  · have e1 : m.above n = (m.st.y : Int) - n := if_pos hb
    rw [e1]
    have t0 : decide (m.st.y < m.top) = true := decide_eq_true hb
    clear h hok e1 hb
    go_enter Tryz.func121, Tryz.ntmps121
    go_wp2_with fail
    go_quiet (fail)
    go_wp2_with fail
    go_ret
    exact ⟨rfl, _, rfl⟩
  · have e1 : m.above n = max ((m.st.y : Int) - n) m.top := if_neg hb
    rw [e1]
    have t0 : decide (m.st.y < m.top) = false := decide_eq_false hb
    clear h hok e1 hb
    go_enter Tryz.func121, Tryz.ntmps121
    go_wp2_with fail
    go_quiet (fail)
    go_wp2_with fail
    go_quiet (fail)
    go_wp2_with fail
    go_ret
    exact ⟨rfl, _, World.drewN_drewN _ _ _⟩

set_option maxHeartbeats 1600000 in
theorem emu_below (w : World) (e : Nat) (L : Loc) (m : EmM) (n : Nat) (hn : n ≤ 9999) (h : EmR w e L m) :
    Calls Tryz.prog 122 #[.pointer (some ⟨e, 0, none⟩), .int .i64 (n : Int)] w fun v w' => v = .returned (.int .i64 (m.below n)) ∧ ∃ k, w' = w.drewN k := by
  have hok := h.ok
  have hy := hok.y; have h20 := hok.h20; have hbh := hok.bh
  have c23 := (h.cell 1 23 rfl _ rfl).1; have c25 := (h.cell 3 25 rfl _ rfl).1
  by_cases hb : m.bottom ≤ m.st.y
  · have e1 : m.below n = (m.st.y : Int) + n := if_pos hb
    rw [e1]
    have t0 : decide ((m.st.y : Int) ≥ (m.bottom : Int)) = true := by simp; omega
    have t1 : decide (m.bottom ≤ m.st.y) = true := decide_eq_true hb
    clear h hok e1 hb
    go_enter Tryz.func122, Tryz.ntmps122
    go_wp2_with fail
    go_quiet (fail)
    go_wp2_with fail
    go_ret
    exact ⟨rfl, _, rfl⟩
  · have e1 : m.below n = min ((m.st.y : Int) + n) ((m.bottom : Int) - 1) := if_neg hb
    rw [e1]
    have t0 : decide ((m.st.y : Int) ≥ (m.bottom : Int)) = false := by simp; omega
    have t1 : decide (m.bottom ≤ m.st.y) = false := decide_eq_false hb
    clear h hok e1 hb
    go_enter Tryz.func122, Tryz.ntmps122
    go_wp2_with fail
    go_quiet (fail)
    go_wp2_with fail
    go_quiet (fail)
    go_wp2_with fail
    go_ret
    exact ⟨rfl, _, World.drewN_drewN _ _ _⟩

set_option maxHeartbeats 1600000 in
theorem emu_row (w : World) (e : Nat) (L : Loc) (m : EmM) (n : Nat) (hn : n ≤ 9999) (h : EmR w e L m) :
    Calls Tryz.prog 123 #[.pointer (some ⟨e, 0, none⟩), .int .i64 (n : Int)] w fun v w' => v = .returned (.int .i64 (m.row n)) ∧ ∃ k, w' = w.drewN k := by
  have hok := h.ok
  have hy := hok.y; have h20 := hok.h20; have hbh := hok.bh; have htb := hok.tb
  have c22 := (h.cell 0 22 rfl _ rfl).1; have c23 := (h.cell 1 23 rfl _ rfl).1
  have c31 := (h.cell 9 31 rfl _ rfl).1
  by_cases hb : m.st.origin = true
  · have e1 : m.row n = min ((m.top : Int) + n - 1) ((m.bottom : Int) - 1) := if_pos hb
    rw [e1]
    rw [hb] at c31
    clear h hok e1 hb
    go_enter Tryz.func123, Tryz.ntmps123
    go_wp2_with fail
    go_quiet (fail)
    go_wp2_with fail
    go_ret
    exact ⟨rfl, _, rfl⟩
  · have e1 : m.row n = (n : Int) - 1 := if_neg hb
    rw [e1]
    rw [Bool.not_eq_true] at hb
    rw [hb] at c31
    clear h hok e1 hb
    go_enter Tryz.func123, Tryz.ntmps123
    go_wp2_with fail
    go_ret
    exact ⟨rfl, 0, rfl⟩

theorem EmR.rowLe {m : EmM} (h : m.Ok) (n : Nat) (hn : n ≤ 9999) : -1 ≤ m.row n ∧ m.row n ≤ 9999 := by
  have := h.tb; have := h.bh; have := h.h20
  unfold EmM.row
  split <;> omega

set_option maxHeartbeats 1600000 in
theorem emu_home (w : World) (e : Nat) (L : Loc) (m : EmM) (h : EmR w e L m) :
    Calls Tryz.prog 107 #[.pointer (some ⟨e, 0, none⟩)] w fun v w' => v = .returned (.tuple #[]) ∧ EmR w' e L m.home ∧ Mv e L L w w' := by
  have HR := Lib.hid (emu_row w e L m 1 (by omega) h)
  have HE := Lib.hid h
  have e1 : m.home = m.goTo 0 (m.row 1) := rfl
  rw [e1]
  generalize m.row 1 = r at *
  clear h e1
  go_enter Tryz.func107, Tryz.ntmps107
  go_wp2_with fail
  refine HR.out.mono ?_
  rintro v w1 ⟨rfl, k, rfl⟩
  go_wp2_with fail
  refine (emu_goTo _ e L m _ _ (HE.out.drewN k)).mono ?_
  rintro v w4 ⟨rfl, he4, hm4⟩
  have HE4 := Lib.hid he4
  have HM4 : Hid (Mv e L L w w4) := Lib.hid (((Mv.refl e L w).drewN _).trans hm4)
  clear he4 hm4
  go_wp2_with fail
  go_end0
  exact ⟨rfl, HE4.out, HM4.out⟩

/-- Numbers that are handed over. -/
theorem emu_at (A : Option Addr) (n c : Nat) (xs : List Int) (i : Nat) (w : World) (h : Src w A n (xs.map (Value.int .i64))) (hn : n ≤ 1000000) (hi : i ≤ 1) :
    Calls Tryz.prog 99 #[.slice A n c, .int .i64 (i : Int)] w fun v w' => v = .returned (.int .i64 (EmM.numAt xs i : Nat)) ∧ w' = w := by
  have hl : xs.length = n := by have := h.1; rwa [List.length_map] at this
  by_cases hb : i < n
  · obtain ⟨b, o, rfl, hbl, hc⟩ := h.2 (by omega)
    obtain ⟨x, hx⟩ : ∃ x, xs[i]? = some x := ⟨xs[i]'(by omega), List.getElem?_eq_getElem _⟩
    have hcell : w.cell? ⟨b, o + i, none⟩ = some (.int .i64 x) := hc i _ (by rw [List.getElem?_map, hx]; rfl)
    have e1 : min (max x 0) 9999 = ((EmM.numAt xs i : Nat) : Int) := by
      unfold EmM.numAt
      rw [List.getD_eq_getElem?_getD, hx, Option.getD_some]
      omega
    have HX : Hid (∀ V, Calls Tryz.prog 36 #[.int .i64 x, .int .i64 0, .int .i64 9999] V fun e w' => e = .returned (.int .i64 (EmM.numAt xs i : Nat)) ∧ w' = V) := Lib.hid (fun V => by have := emu_within x 0 9999 V; rwa [e1] at this)
    generalize EmM.numAt xs i = N at *
    have t0 : decide ((i : Int) ≥ (n : Int)) = false := by simp; omega
    have t1 : decide (n ≤ i) = false := by simp; omega
    have hi0 : (0 : Int) ≤ (i : Int) := by omega
    have hin : (i : Int) < (n : Int) := by omega
    clear h hc e1 hx hl
    go_enter Tryz.func99, Tryz.ntmps99
    go_wp2_with fail
    refine (HX.out _).mono ?_
    rintro v w1 ⟨rfl, rfl⟩
    go_wp2_with fail
    go_ret
    exact ⟨rfl, rfl⟩
  · have e1 : EmM.numAt xs i = 0 := by
      unfold EmM.numAt
      rw [List.getD_eq_getElem?_getD, List.getElem?_eq_none (by omega)]
      rfl
    rw [e1]
    have t0 : decide ((i : Int) ≥ (n : Int)) = true := by simp; omega
    have t1 : decide (n ≤ i) = true := by simp; omega
    clear h e1 hl
    go_enter Tryz.func99, Tryz.ntmps99
    go_wp2_with fail
    go_ret
    exact ⟨rfl, rfl⟩

theorem emu_count (A : Option Addr) (n c : Nat) (xs : List Int) (i : Nat) (w : World) (h : Src w A n (xs.map (Value.int .i64))) (hn : n ≤ 1000000) (hi : i ≤ 1) :
    Calls Tryz.prog 97 #[.slice A n c, .int .i64 (i : Int)] w fun v w' => v = .returned (.int .i64 (EmM.count xs i : Nat)) ∧ w' = w := by
  have HA := Lib.hid (emu_at A n c xs i w h hn hi)
  have e1 : ((EmM.count xs i : Nat) : Int) = max ((EmM.numAt xs i : Nat) : Int) 1 := by unfold EmM.count; omega
  rw [e1]
  generalize EmM.numAt xs i = N at *
  clear h e1
  go_enter Tryz.func97, Tryz.ntmps97
  go_wp2_with fail
  refine HA.out.mono ?_
  rintro v w1 ⟨rfl, rfl⟩
  go_wp2_with fail
  go_ret
  exact ⟨rfl, rfl⟩
theorem numAt_le (l : List Int) (i : Nat) : EmM.numAt l i ≤ 9999 := by unfold EmM.numAt; omega
theorem count_le (l : List Int) (i : Nat) : 1 ≤ EmM.count l i ∧ EmM.count l i ≤ 9999 := by have := numAt_le l i; unfold EmM.count; omega

end Go.Proofs.YtnminmaklbhakaaGreatDoor
