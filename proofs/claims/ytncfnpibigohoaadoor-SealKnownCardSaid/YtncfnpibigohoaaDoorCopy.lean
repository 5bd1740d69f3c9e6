/- copy(b, s): as much of a string as there is room for. Speaks of no program. Own work. -/
import Derived.Test.YtncfnpibigohoaaDoorGen
namespace Go.Proofs.YtncfnpibigohoaaDoor
set_option linter.unusedVariables false
open Go.RowKit

/-- copy(dst, s) where dst lies in row g from place o on: n bytes go over, as many as fit. -/
theorem run_copy_some {P : Program} (w : World) (dT sT ty elem : TypeId) (g o dLen dCap : Nat) (s : ByteArray) (cur : Array Value) (t : TypeId) (n : Nat) (hn : n = min s.size dLen)
    (hu : P.underlying dT = some (.slice elem)) (hs : (P.info? elem).map (·.size) = some 1) (hg : w.heap[g]? = some (.cells cur t (0, 0))) (hfit : o + n ≤ cur.size) :
    (Builtin.copy_ #[dT, sT] ty #[.slice (some ⟨g, o, none⟩) dLen dCap, .string s]).run P w =
      .ok (.int .i64 (n : Int)) (w.setRow g (cur.toList.take o ++ Lib.byteCells (s.data.toList.take n) ++ cur.toList.drop (o + n)).toArray) := by
  have hsz : s.data.toList.length = s.size := (Lib.size_eq s).symm
  have hlen : (Lib.byteCells (s.data.toList.take n)).length = n := by rw [Lib.byteCells_length, List.length_take, hsz]; omega
  have hst := run_storeCells_at P g o t (Lib.byteCells (s.data.toList.take n)) 0 cur w hg (by rw [hlen]; simpa using hfit) (Lib.byteCells_one _)
  have hmin : Nat.min s.size dLen = n := hn.symm
  have htk : List.take n (List.map (fun b : UInt8 => Value.int IntKind.u8 (b.toNat : Int)) s.data.toList) = Lib.byteCells (s.data.toList.take n) := by
    rw [← List.map_take]
    rfl
  rw [hlen] at hst
  simp only [Nat.add_zero] at hst
  cases hq : P.info? elem with
  | none => simp [hq] at hs
  | some i =>
    have h1 : i.size = 1 := by simpa [hq] using hs
    simp [Builtin.copy_, run_underlying hu, Builtin.lenOf, Builtin.firstCells, sizeOf, typeInfo, hq, h1, hmin, goInt]
    rw [htk, hst]
    simp [Result.andThen]

theorem wp_copy_some {P : Program} (w : World) {o : Oper} {a : Act} {K : Act → World → Prop} {Q : Exit → Act → World → Prop} (sl x : Operand) (dT sT : TypeId)
    (ho : o.op = .call { callee := .builtin .copy, args := #[sl, x], argTypes := #[dT, sT] })
    (elem : TypeId) (hu : P.underlying dT = some (.slice elem)) (hs : (P.info? elem).map (·.size) = some 1)
    {g off dLen dCap : Nat} (s : ByteArray) (cur : Array Value) (t : TypeId) (n : Nat) (hn : n = min s.size dLen) (h1 : a.eval sl = .slice (some ⟨g, off, none⟩) dLen dCap) (h2 : a.eval x = .string s)
    (hg : w.heap[g]? = some (.cells cur t (0, 0))) (hfit : off + n ≤ cur.size)
    (h : K (a.put o.dst (.int .i64 (n : Int))) (w.setRow g (cur.toList.take off ++ Lib.byteCells (s.data.toList.take n) ++ cur.toList.drop (off + n)).toArray)) :
    Oper.wp P o a w K Q := by
  have hr := run_copy_some (P := P) w dT sT o.type elem g off dLen dCap s cur t n hn hu hs hg hfit
  unfold Oper.wp execOp
  simp only [ho, resolve, invoke, builtin, Sem.run_bind, Sem.run_pure, Result.andThen_ok, List.map_toArray, List.map_cons, List.map_nil, h1, h2, hr]
  exact h

theorem wpList_copy_some {P : Program} (w : World) {ops : Array Oper} {rest : List Oper} {o : Oper} {a : Act} {Q : Exit → Act → World → Prop} (hgd : o.guard = none) (sl x : Operand) (dT sT : TypeId)
    (ho : o.op = .call { callee := .builtin .copy, args := #[sl, x], argTypes := #[dT, sT] })
    (elem : TypeId) (hu : P.underlying dT = some (.slice elem)) (hs : (P.info? elem).map (·.size) = some 1)
    {g off dLen dCap : Nat} (s : ByteArray) (cur : Array Value) (t : TypeId) (n : Nat) (hn : n = min s.size dLen) (h1 : a.eval sl = .slice (some ⟨g, off, none⟩) dLen dCap) (h2 : a.eval x = .string s)
    (hg : w.heap[g]? = some (.cells cur t (0, 0))) (hfit : off + n ≤ cur.size)
    (h : wpList P ops Q rest (a.put o.dst (.int .i64 (n : Int))) (w.setRow g (cur.toList.take off ++ Lib.byteCells (s.data.toList.take n) ++ cur.toList.drop (off + n)).toArray)) :
    wpList P ops Q (o :: rest) a w :=
  wpList_plain hgd fun K hK => wp_copy_some w sl x dT sT ho elem hu hs s cur t n hn h1 h2 hg hfit (hK _ _ h)

end Go.Proofs.YtncfnpibigohoaaDoor
