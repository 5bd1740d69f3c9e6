/- &nvt.Reader{..}. Own work. -/
import Derived.Test.YtopgejjencoelaaFeed
namespace Go.Proofs.Ytopgejjencoelaa
set_option linter.unusedVariables false
set_option linter.unusedSimpArgs false
open Go.RowKit

theorem wpList_built {P : Program} {ops : Array Oper} {rest : List Oper} {o : Oper} {a : Act} {w : World} {Q : Exit → Act → World → Prop} (hgd : o.guard = none) (t : TypeId) (parts : Array (Nat × Operand)) (ho : o.op = .build t parts) (cells : Array Value)
    (h : P.built t (parts.map fun (i, x) => (i, a.eval x)).toList = some cells) (hK : wpList P ops Q rest (a.put o.dst (.agg cells)) w) : wpList P ops Q (o :: rest) a w :=
  wpList_plain hgd fun K hK' => by
    unfold Oper.wp execOp
    simp only [ho, Sem.run_bind, run_build w t _ cells h, Result.andThen_ok]
    exact hK' _ _ hK

/-- A new Reader's cells. -/
def rdCells (bin : Bool) : Array Value := (#[.bool bin, .int .u32 0, .int .i32 0, .int .u32 0] ++ (List.replicate 98 (Value.int .u8 0)).toArray) ++ #[.int .u8 0, .int .i64 0, .int .i64 0, .slice none 0 0, .bool false]

theorem rd_built (bin : Bool) : Try.prog.built 62 [(0, .bool bin)] = some (rdCells bin) := by cases bin <;> kernel_rfl
theorem rd_built0 : Try.prog.built 62 [] = some (rdCells false) := by kernel_rfl

theorem rd_cells (bin : Bool) : (rdCells bin)[0]? = some (.bool bin) ∧ (rdCells bin)[1]? = some (.int .u32 0) ∧ (rdCells bin)[2]? = some (.int .i32 0) ∧ (rdCells bin)[102]? = some (.int .u8 0) ∧ (rdCells bin)[103]? = some (.int .i64 0) ∧ (rdCells bin)[104]? = some (.int .i64 0) ∧
    (rdCells bin)[105]? = some (.slice none 0 0) ∧ (rdCells bin)[106]? = some (.bool false) := by
  cases bin <;> exact ⟨by kernel_rfl, by kernel_rfl, by kernel_rfl, by kernel_rfl, by kernel_rfl, by kernel_rfl, by kernel_rfl, by kernel_rfl⟩

theorem rd_new (w : World) (bin : Bool) : RdIn (w.alloc (.cells (rdCells bin) 62)) w.heap.size bin false Rd.new none 0 := by
  have c : ∀ i v, (rdCells bin)[i]? = some v → Cell (w.alloc (.cells (rdCells bin) 62)) w.heap.size i v := fun i v h => Cell.box i h
  obtain ⟨h0, h1, h2, h3, h4, h5, h6, h7⟩ := rd_cells bin
  refine ⟨c 0 _ h0, c 1 _ h1, c 2 _ h2, fun i hi => ⟨.int .u8 0, c (4 + i) _ ?_, fun h => by cases h⟩, c 102 _ h3, c 103 _ h4, c 104 _ h5, c 105 _ h6, c 106 _ h7, Buf.nil _, by simp [blk], by decide, by decide⟩
  unfold rdCells
  rw [Array.getElem?_append_left (by simp; omega), Array.getElem?_append_right (by simp)]
  rw [show 4 + i - (#[Value.bool bin, .int .u32 0, .int .i32 0, .int .u32 0] : Array Value).size = i from by simp]
  simp only [List.getElem?_toArray]
  exact List.getElem?_replicate_of_lt hi

end Go.Proofs.Ytopgejjencoelaa
