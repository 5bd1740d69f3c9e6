/- cell: Read of what Lay laid. By program (rgn/XCellRd.py). Own work. -/
import Derived.Test.YtgomnigchfmfhaaCellLay
import Derived.Test.YtgomnigchfmfhaaGrids
namespace Go.Proofs.Ytgomnigchfmfhaa
set_option linter.unusedVariables false
set_option linter.unusedSimpArgs false
open Go.RowKit

theorem wpList_store_at {P : Program} {ops : Array Oper} {rest : List Oper} {o : Oper} {a : Act} {w : World} {Q : Exit → Act → World → Prop} (hgd : o.guard = none) (ty : TypeId) (x y : Operand) (ho : o.op = .store ty x y)
    (b off : Nat) (cells : Array Value) (hx : a.eval x = .pointer (some ⟨b, off, none⟩)) (hy : a.eval y = .agg cells) (hi : (P.info? ty).map (·.size) = some cells.size) (h1 : cells.all (·.oneCell') = true)
    (hc : ∀ j, j < cells.size → (w.cell? ⟨b, off + j, none⟩).isSome = true) (hf : ∀ j, j < cells.size → w.frozen? ⟨b, off + j, none⟩ = false)
    (h : wpList P ops Q rest (a.put o.dst undef) (w.setCells b off cells.toList)) : wpList P ops Q (o :: rest) a w :=
  wpList_plain hgd fun _ hK => wp_store_at ty x y ho b off cells hx hy hi h1 hc hf (hK _ _ h)

theorem numS_enc (n : Nat) (r : List UInt8) (h : n < 9223372036854775808) : numS ⟨(enc n ++ r).toArray⟩ 0 = ((n : Int), ⟨r.toArray⟩, 0) := by
  unfold numS
  rw [if_pos rfl]
  have hd := dec_enc0 n r h
  simp only [hd, if_true, extract_end]
theorem rawS_app (l r : List UInt8) : rawS ⟨(l ++ r).toArray⟩ 0 l.length = (⟨l.toArray⟩, ⟨r.toArray⟩, 0) := by
  unfold rawS
  rw [if_pos rfl, if_neg (by omega), if_neg (by rw [size_mk, List.length_append]; omega)]
  simp only [Int.toNat_natCast, extract_start, extract_end]
theorem byteS_cons (b : UInt8) (r : List UInt8) : byteS ⟨(b :: r).toArray⟩ 0 = ((b.toNat : Int), ⟨r.toArray⟩, 0) := by
  have := rawS_app [b] r
  simp only [List.length_singleton, List.singleton_append] at this
  unfold byteS
  rw [show ((1 : Int)) = ((1 : Nat) : Int) from rfl, this]
  rfl

theorem bit1 (f g : Int) (b u i : Bool) : (bits BinOp.and IntKind.i64 ((At.marks ⟨f, g, b, u, i⟩ : Nat) : Int) 1 != 0) = b := by
  cases b <;> cases u <;> cases i <;> kernel_rfl
theorem bit2 (f g : Int) (b u i : Bool) : (bits BinOp.and IntKind.i64 ((At.marks ⟨f, g, b, u, i⟩ : Nat) : Int) 2 != 0) = u := by
  cases b <;> cases u <;> cases i <;> kernel_rfl
theorem bit4 (f g : Int) (b u i : Bool) : (bits BinOp.and IntKind.i64 ((At.marks ⟨f, g, b, u, i⟩ : Nat) : Int) 4 != 0) = i := by
  cases b <;> cases u <;> cases i <;> kernel_rfl
theorem endS_nil : endS ⟨([] : List UInt8).toArray⟩ 0 = 0 := rfl

end Go.Proofs.Ytgomnigchfmfhaa
