/- grid: the document's Grid in memory, told by a function of row and column; In, Ends. Own work. -/
import Derived.Test.YtgomnigchfmfhaaGridK
import Derived.Test.YtgomnigchfmfhaaGrids
namespace Go.Proofs.Ytgomnigchfmfhaa
set_option linter.unusedVariables false
set_option linter.unusedSimpArgs false
open Go.RowKit

/-- The blocks of one. -/
def rown (r lb H : Nat) (R : Nat → Nat) (b : Nat) : Prop := b = r ∨ b = lb ∨ ∃ y, y < H ∧ b = R y

/-- The document's Grid: W x H cells F (row, column); its rows' headers lie in block lb, row y in block R y. -/
structure RGrid (w : World) (r lb lc W H : Nat) (R : Nat → Nat) (F : Nat → Nat → CellM) : Prop where
  cw : Cell w r 0 (.int .i64 W)
  ch : Cell w r 1 (.int .i64 H)
  cs : Cell w r 2 (.slice (some ⟨lb, 0, none⟩) H lc)
  row : ∀ y, y < H → Cell w lb y (.slice (some ⟨R y, 0, none⟩) W W)
  lie : ∀ y, y < H → Lies w (R y) 0 W (F y)
  inj : ∀ y z, y < H → z < H → R y = R z → y = z
  ne : r ≠ lb
  nr : ∀ y, y < H → R y ≠ r ∧ R y ≠ lb
  hw : 2 ≤ W ∧ W ≤ 40
  hh : 1 ≤ H ∧ H ≤ 20

namespace RGrid
variable {w w' : World} {r lb lc W H : Nat} {R : Nat → Nat} {F G : Nat → Nat → CellM}
theorem hr (h : RGrid w r lb lc W H R F) : r < w.heap.size := h.cw.lt
theorem hl (h : RGrid w r lb lc W H R F) : lb < w.heap.size := (h.row 0 (by have := h.hh; omega)).lt
theorem hR (h : RGrid w r lb lc W H R F) (y : Nat) (hy : y < H) : R y < w.heap.size := (h.lie y hy).lt (by have := h.hw; omega)
theorem lt (h : RGrid w r lb lc W H R F) (b : Nat) (hb : rown r lb H R b) : b < w.heap.size := by
  rcases hb with rfl | rfl | ⟨y, hy, rfl⟩
  · exact h.hr
  · exact h.hl
  · exact h.hR y hy
theorem keep {S : Nat → Prop} (h : RGrid w r lb lc W H R F) (k : Keep S w w') (hn : ∀ b, rown r lb H R b → ¬ S b) : RGrid w' r lb lc W H R F :=
  ⟨h.cw.keep k (hn r (.inl rfl)), h.ch.keep k (hn r (.inl rfl)), h.cs.keep k (hn r (.inl rfl)), fun y hy => (h.row y hy).keep k (hn lb (.inr (.inl rfl))), fun y hy => (h.lie y hy).keep (h.hR y hy) k (hn _ (.inr (.inr ⟨y, hy, rfl⟩))), h.inj, h.ne, h.nr, h.hw, h.hh⟩
theorem quiet (h : RGrid w r lb lc W H R F) (k : Keep (fun _ => False) w w') : RGrid w' r lb lc W H R F := h.keep k (fun _ _ x => x)
theorem congr (h : RGrid w r lb lc W H R F) (e : ∀ y x, y < H → x < W → F y x = G y x) : RGrid w r lb lc W H R G := ⟨h.cw, h.ch, h.cs, h.row, fun y hy => (h.lie y hy).congr (fun x hx => e y x hy hx), h.inj, h.ne, h.nr, h.hw, h.hh⟩
/-- A row is another one. -/
theorem turn (h : RGrid w r lb lc W H R F) (y : Nat) (hy : y < H) (k : Keep (· = R y) w w') (g : Nat → CellM) (l : Lies w' (R y) 0 W g) : RGrid w' r lb lc W H R (fun i j => if i = y then g j else F i j) := by
  have hn := h.nr y hy
  refine ⟨h.cw.keep k (fun e => hn.1 e.symm), h.ch.keep k (fun e => hn.1 e.symm), h.cs.keep k (fun e => hn.1 e.symm), fun z hz => (h.row z hz).keep k (fun e => hn.2 e.symm), fun z hz => ?_, h.inj, h.ne, h.nr, h.hw, h.hh⟩
  by_cases e : z = y
  · subst e; simpa using l
  · have := (h.lie z hz).keep (h.hR z hz) k (fun x => e (h.inj z y hz hy x))
    simpa [e] using this
/-- Cells of a row are others. -/
theorem put (h : RGrid w r lb lc W H R F) (y x m : Nat) (hy : y < H) (hx : x + m ≤ W) (g : Nat → CellM) (p : PutC (R y) (x * 6) m g w w') : RGrid w' r lb lc W H R (fun i j => if i = y ∧ x ≤ j ∧ j < x + m then g (j - x) else F i j) := by
  have l := PutC.lies (a := x) (h.lie y hy) (by simpa using p) hx
  refine (h.turn y hy p.keep _ l).congr (fun i j hi hj => ?_)
  by_cases e : i = y
  · subst e; simp
  · simp [e]
end RGrid

theorem ref_blank (w : World) :
    Calls Try.prog 60 #[] w fun e w' => e = .returned blankC.v ∧ Below w.heap.size w w' := by
  go_enter Try.func60, Try.ntmps60
  go_wp2_with fail
  refine bodyPost_ret (v := .agg #[.int .i32 32, .int .i64 0, .int .i64 0, .bool false, .bool false, .bool false]) (by simp [results, Try.results60, go_sem]) rfl ⟨rfl, ?_⟩
  repeat (first | (with_reducible exact Below.refl _ _) | (with_reducible refine Below.drewN' ?_ _) | (with_reducible refine Below.setCell ?_ (by simp) _) | (with_reducible refine Below.alloc ?_ (by simp) _))

theorem ref_ends (x y : Int) (w : World) :
    Calls Try.prog 27 #[.int .i64 x, .int .i64 y] w fun e w' => e = .returned (.tuple #[.int .i64 (min (max x 2) 40), .int .i64 (min (max y 1) 20)]) ∧ w' = w := by
  go_enter Try.func27, Try.ntmps27
  go_wp2_with fail
  go_ret2
  exact ⟨rfl, rfl⟩

/-- At a step of a region that draws its order: a cell is stored. -/
theorem wp_store_cell {P : Program} {w : World} {op : Oper} {a : Act} {K : Act → World → Prop} {Q : Exit → Act → World → Prop} (ty : TypeId) (x y : Operand) (ho : op.op = .store ty x y)
    (g o i n : Nat) (f0 : Nat → CellM) (l : Lies w g o n f0) (hi : i < n) (cx : CellM) (hx : a.eval x = .pointer (some ⟨g, o + i * 6, none⟩)) (hy : a.eval y = cx.v) (hinfo : (P.info? ty).map (·.size) = some 6)
    (h : ∀ w', PutC g (o + i * 6) 1 (fun _ => cx) w w' → K (a.put op.dst undef) w') : Oper.wp P op a w K Q := by
  have ls := l.sub i 1 (by omega)
  refine wp_store_at ty x y ho g (o + i * 6) (vcells cx) hx hy hinfo (by simp [vcells, Value.oneCell']) (fun j hj => ls.some' j (by simpa [vcells] using hj)) (fun j hj => ls.can j (by simpa [vcells] using hj)) ?_
  exact h _ (put_sets (f := fun _ => cx) ls)

theorem Lies.drew {w : World} {g o n : Nat} {f : Nat → CellM} (l : Lies w g o n f) : Lies w.drew g o n f := ⟨l.val, l.can⟩

/-- The six cells of a cell. -/
def SixAt (V : World) (g o : Nat) (c : CellM) : Prop := V.cell? ⟨g, o, none⟩ = some (.int .i32 c.r) ∧ V.cell? ⟨g, o + 1, none⟩ = some (.int .i64 c.a.fg) ∧ V.cell? ⟨g, o + 2, none⟩ = some (.int .i64 c.a.bg) ∧ V.cell? ⟨g, o + 3, none⟩ = some (.bool c.a.b) ∧ V.cell? ⟨g, o + 4, none⟩ = some (.bool c.a.u) ∧ V.cell? ⟨g, o + 5, none⟩ = some (.bool c.a.i)
theorem Lies.six {w : World} {g n j : Nat} {f : Nat → CellM} (l : Lies w g 0 n f) (hj : j < n) : SixAt w g (j * 6) (f j) := by
  have c := l.val j hj
  simp only [Nat.zero_add] at c
  exact ⟨c 0 _ rfl, c 1 _ rfl, c 2 _ rfl, c 3 _ rfl, c 4 _ rfl, c 5 _ rfl⟩
theorem SixAt.put {w w' : World} {g j i : Nat} {c : CellM} {f : Nat → CellM} (h : SixAt w g (j * 6) c) (p : PutC g (i * 6) 1 f w w') (hn : j ≠ i) : SixAt w' g (j * 6) c :=
  ⟨(p.out _ (by omega)).trans h.1, (p.out _ (by omega)).trans h.2.1, (p.out _ (by omega)).trans h.2.2.1, (p.out _ (by omega)).trans h.2.2.2.1, (p.out _ (by omega)).trans h.2.2.2.2.1, (p.out _ (by omega)).trans h.2.2.2.2.2⟩
theorem SixAt.keep {S : Nat → Prop} {w w' : World} {g o : Nat} {c : CellM} (h : SixAt w g o c) (k : Keep S w w') (hg : g < w.heap.size) (hn : ¬ S g) : SixAt w' g o c :=
  ⟨(k.cell (p := ⟨g, _, none⟩) hg hn).trans h.1, (k.cell (p := ⟨g, _, none⟩) hg hn).trans h.2.1, (k.cell (p := ⟨g, _, none⟩) hg hn).trans h.2.2.1, (k.cell (p := ⟨g, _, none⟩) hg hn).trans h.2.2.2.1, (k.cell (p := ⟨g, _, none⟩) hg hn).trans h.2.2.2.2.1, (k.cell (p := ⟨g, _, none⟩) hg hn).trans h.2.2.2.2.2⟩

/-- Its rows' headers are others: rows that it had, or new ones. -/
theorem RGrid.rerow {w w' : World} {r lb lc W H : Nat} {R R' : Nat → Nat} {F F' : Nat → Nat → CellM} (h : RGrid w r lb lc W H R F) (k : Keep (· = lb) w w') (hc : ∀ i, i < H → Cell w' lb i (.slice (some ⟨R' i, 0, none⟩) W W))
    (ho : ∀ i, i < H → (∃ z, z < H ∧ R' i = R z ∧ ∀ j, j < W → F' i j = F z j) ∨ (w.heap.size ≤ R' i ∧ Lies w' (R' i) 0 W (F' i))) (hi : ∀ y z, y < H → z < H → R' y = R' z → y = z) : RGrid w' r lb lc W H R' F' := by
  refine ⟨h.cw.keep k h.ne, h.ch.keep k h.ne, h.cs.keep k h.ne, hc, fun i hi' => ?_, hi, h.ne, fun i hi' => ?_, h.hw, h.hh⟩
  · rcases ho i hi' with ⟨z, hz, e, hf⟩ | ⟨_, l⟩
    · rw [e]
      exact ((h.lie z hz).keep (h.hR z hz) k (h.nr z hz).2).congr (fun j hj => (hf j hj).symm)
    · exact l
  · rcases ho i hi' with ⟨z, hz, e, hf⟩ | ⟨hg, _⟩
    · rw [e]; exact h.nr z hz
    · have := h.hr; have := h.hl; exact ⟨by omega, by omega⟩

/-- Rows moved up, down. -/
def upG (T B k : Nat) (c : CellM) (F : Nat → Nat → CellM) (i j : Nat) : CellM := if T ≤ i ∧ i < B then (if i + k < B then F (i + k) j else c) else F i j
def downG (T B k : Nat) (c : CellM) (F : Nat → Nat → CellM) (i j : Nat) : CellM := if T ≤ i ∧ i < B then (if i < T + k then c else F (i - k) j) else F i j

end Go.Proofs.Ytgomnigchfmfhaa

