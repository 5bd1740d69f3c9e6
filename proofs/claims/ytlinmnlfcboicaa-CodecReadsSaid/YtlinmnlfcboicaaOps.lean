/- A []Op that came in (Kind, N int; L []int; T []string), told by its cells. Own work; it speaks of no program. -/
import Derived.Test.YtlinmnlfcboicaaStrs
import Derived.Deep.Slices
import Derived.Deep.Fields
namespace Go.Proofs.Ytlinmnlfcboicaa
set_option linter.unusedVariables false
open Go.RowKit Go.ChangeShapes Go.WideShapes Go.Deep

/-- n numbers that are read. -/
def Ints (w : World) (A : Option Addr) (n : Nat) (xs : List Int) : Prop :=
  xs.length = n ∧ (0 < n → ∃ b off, A = some ⟨b, off, none⟩ ∧ b < w.heap.size ∧ ∀ i x, xs[i]? = some x → w.cell? ⟨b, off + i, none⟩ = some (.int .i64 x)) ∧ (∀ x ∈ xs, -9223372036854775808 ≤ x ∧ x ≤ 9223372036854775807) ∧ n ≤ maxLen

theorem ints_nil (w : World) (A : Option Addr) : Ints w A 0 [] := ⟨rfl, fun h => absurd h (by omega), by simp, by unfold maxLen; omega⟩

theorem wf_bounds {x : Int} (h : (Lit.int .i64 x).wf = true) : -9223372036854775808 ≤ x ∧ x ≤ 9223372036854775807 := by
  simpa [Lit.wf, IntKind.min, IntKind.max, IntKind.signed, IntKind.bits] using h

theorem add_mk (b off j : Nat) : (⟨b, off, none⟩ : Addr).add j = ⟨b, off + j, none⟩ := by unfold Addr.add; split <;> simp_all

theorem ints_of {w : World} {x : Addr} {len : Nat} {zs : List Int} (hl : len ≤ zs.length) (hcell : ∀ i, i < zs.length → w.cell? (x.add i) = some (.int .i64 (zs.getD i 0))) (hws : ∀ n ∈ zs, (Lit.int .i64 n).wf = true) (hm : len ≤ maxLen) :
    Ints w (some x) len (zs.take len) := by
  refine ⟨by rw [List.length_take]; omega, fun h0 => ?_, fun s hs => wf_bounds (hws s (List.mem_of_mem_take hs)), hm⟩
  obtain ⟨b, off, spot⟩ := x
  have hc := hcell 0 (by omega)
  have hspot : spot = none := by simpa [Addr.add] using World.cell?_spot hc
  subst hspot
  refine ⟨b, off, rfl, ?_, fun i s hi => ?_⟩
  · have := World.block_lt_of_cell? w _ hc
    simpa [Addr.add] using this
  · rw [List.getElem?_take] at hi
    split at hi
    · have hiz : i < zs.length := by
        rcases Nat.lt_or_ge i zs.length with h | h
        · exact h
        · rw [List.getElem?_eq_none h] at hi; cases hi
      have h1 := hcell i hiz
      rw [add_mk] at h1
      rw [h1, List.getD_eq_getElem?_getD, hi]
      rfl
    · cases hi

/-- An operation, as it stands in memory. -/
structure OpV where
  kind : Int
  n : Int
  L : List Int
  T : List ByteArray

/-- Its four cells at an address. -/
def OpAt (w : World) (b off : Nat) (o : OpV) : Prop :=
  w.cell? ⟨b, off, none⟩ = some (.int .i64 o.kind) ∧ w.cell? ⟨b, off + 1, none⟩ = some (.int .i64 o.n) ∧
  (∃ A c, w.cell? ⟨b, off + 2, none⟩ = some (.slice A o.L.length c) ∧ Ints w A o.L.length o.L) ∧ (∃ A c, w.cell? ⟨b, off + 3, none⟩ = some (.slice A o.T.length c) ∧ Strs w A o.T.length o.T) ∧
  (-9223372036854775808 ≤ o.kind ∧ o.kind ≤ 9223372036854775807) ∧ (-9223372036854775808 ≤ o.n ∧ o.n ≤ 9223372036854775807)

/-- n operations that are read. -/
def OpsAt (w : World) (A : Option Addr) (n : Nat) (ops : List OpV) : Prop :=
  ops.length = n ∧ n ≤ maxLen ∧ (0 < n → ∃ b off, A = some ⟨b, off, none⟩ ∧ b < w.heap.size ∧ ∀ i o, ops[i]? = some o → OpAt w b (off + i * 4) o)

theorem ops_nil (w : World) (A : Option Addr) : OpsAt w A 0 [] := ⟨rfl, by unfold maxLen; omega, fun h => absurd h (by omega)⟩

section
variable {H : Type} {enc : TypeId × Value → H} {P : Program} {w : World}

theorem ints_read {t e : TypeId} (ht : P.underlying t = some (.slice e)) (he : P.underlying e = some (.int .i64)) (hc : P.cellsOf e = 1) {fuel : Nat} {v : Value} {y : DataW H × List MemPlace} (h : DataW.trod enc P w 0 (fun _ => true) true fuel t [v] = some y) :
    ∃ A len cap zs, v = .slice A len cap ∧ Ints w A len zs := by
  rcases open_ints ht he hc h with ⟨hcs, _⟩ | ⟨x, l, c, zs, hcs, _, hl, hm, hz, _, hcell, hwz⟩
  · injection hcs with h1
    exact ⟨none, 0, 0, [], h1, ints_nil _ _⟩
  · injection hcs with h1
    have hz' : zs.length = c := by simpa using hz
    exact ⟨some x, l, c, _, h1, ints_of (by omega) hcell hwz (Nat.le_trans hl hm)⟩

theorem strs_read {t e : TypeId} (ht : P.underlying t = some (.slice e)) (he : P.underlying e = some .string) (hc : P.cellsOf e = 1) {fuel : Nat} {v : Value} {y : DataW H × List MemPlace} (h : DataW.trod enc P w 0 (fun _ => true) true fuel t [v] = some y) :
    ∃ A len cap zs, v = .slice A len cap ∧ Strs w A len zs := by
  rcases open_strings ht he hc h with ⟨hcs, _⟩ | ⟨x, l, c, zs, hcs, _, hl, hm, hz, _, hcell, hwz⟩
  · injection hcs with h1
    exact ⟨none, 0, 0, [], h1, strs_nil _ _⟩
  · injection hcs with h1
    have hz' : zs.length = c := by simpa using hz
    exact ⟨some x, l, c, _, h1, strs_of (by omega) hcell hwz (Nat.le_trans hl hm)⟩

/-- A cell of a block that is not at a spot. -/
theorem op_of {e : TypeId} {f0 f1 f2 f3 : Field} {ti ts tsi tss : TypeId} (hs : P.underlying e = some (.struct #[f0, f1, f2, f3])) (hone : oneCellFields P #[f0, f1, f2, f3] = true) (hC : P.cellsOf e = 4)
    (h0 : P.underlying f0.type = some (.int .i64)) (h1 : P.underlying f1.type = some (.int .i64)) (h2 : P.underlying f2.type = some (.slice ti)) (hti : P.underlying ti = some (.int .i64)) (hci : P.cellsOf ti = 1)
    (h3 : P.underlying f3.type = some (.slice ts)) (hts : P.underlying ts = some .string) (hcs : P.cellsOf ts = 1)
    {b off n : Nat} {cs : List Value} {y : DataW H × List MemPlace} (hcell : ∀ i, i < 4 → w.cell? ⟨b, off + i, none⟩ = cs[i]?) (h : DataW.trod enc P w 0 (fun _ => true) true n e cs = some y) : ∃ o, OpAt w b off o := by
  obtain ⟨xs, m, _, _, hlen, hxl, hf⟩ := DataW.trod_struct hs h
  rw [hC] at hlen
  match cs, hlen with
  | [c0, c1, c2, c3], _ =>
    obtain ⟨o0, k0⟩ := hone_of hone 0 f0 rfl
    obtain ⟨o1, k1⟩ := hone_of hone 1 f1 rfl
    obtain ⟨o2, k2⟩ := hone_of hone 2 f2 rfl
    obtain ⟨o3, k3⟩ := hone_of hone 3 f3 rfl
    match xs, hxl with
    | [y0, y1, y2, y3], _ =>
      have g0 := hf 0 f0 rfl
      have g1 := hf 1 f1 rfl
      have g2 := hf 2 f2 rfl
      have g3 := hf 3 f3 rfl
      simp [o0, k0] at g0
      simp [o1, k1] at g1
      simp [o2, k2] at g2
      simp [o3, k3] at g3
      obtain ⟨k, hk, _, wk⟩ := DataW.trod_int h0 g0
      obtain ⟨q, hq, _, wq⟩ := DataW.trod_int h1 g1
      obtain ⟨A2, l2, p2, z2, rfl, hz2⟩ := ints_read h2 hti hci g2
      obtain ⟨A3, l3, p3, z3, rfl, hz3⟩ := strs_read h3 hts hcs g3
      injection hk with hk
      injection hq with hq
      subst hk hq
      have e2 := hz2.1
      have e3 := hz3.1
      subst e2 e3
      have d0 := hcell 0 (by omega)
      have d1 := hcell 1 (by omega)
      have d2 := hcell 2 (by omega)
      have d3 := hcell 3 (by omega)
      exact ⟨⟨k, q, z2, z3⟩, by simpa using d0, by simpa using d1, ⟨A2, p2, by simpa using d2, hz2⟩, ⟨A3, p3, by simpa using d3, hz3⟩, wf_bounds wk, wf_bounds wq⟩

theorem ops_read {t e : TypeId} {f0 f1 f2 f3 : Field} {ti ts : TypeId} (ht : P.underlying t = some (.slice e)) (hs : P.underlying e = some (.struct #[f0, f1, f2, f3])) (hone : oneCellFields P #[f0, f1, f2, f3] = true) (hC : P.cellsOf e = 4)
    (h0 : P.underlying f0.type = some (.int .i64)) (h1 : P.underlying f1.type = some (.int .i64)) (h2 : P.underlying f2.type = some (.slice ti)) (hti : P.underlying ti = some (.int .i64)) (hci : P.cellsOf ti = 1)
    (h3 : P.underlying f3.type = some (.slice ts)) (hts : P.underlying ts = some .string) (hcs : P.cellsOf ts = 1)
    {fuel : Nat} {A : Option Addr} {len cap : Nat} {y : DataW H × List MemPlace} (h : DataW.trod enc P w 0 (fun _ => true) true fuel t [.slice A len cap] = some y) : ∃ ops, OpsAt w A len ops := by
  rcases open_slice ht h with ⟨hcs', _⟩ | ⟨a, len', cap', m, n, D, Pl, hcs', _, hl, hm, hmm, _, hi⟩
  · injection hcs' with h4
    injection h4 with hA hn hc
    subst hA hn
    exact ⟨[], ops_nil _ _⟩
  · injection hcs' with h4
    injection h4 with hA hn hc
    subst hA hn hc
    simp only [if_true] at hmm
    subst hmm
    rcases Nat.eq_zero_or_pos len with h5 | h5
    · subst h5
      exact ⟨[], ops_nil _ _⟩
    · obtain ⟨b, off, spot⟩ := a
      have hspot : spot = none := by
        obtain ⟨cs', hc, _⟩ := hi 0 (by omega)
        obtain ⟨_, hcl, hat⟩ := World.cells?_some hc
        rw [hC] at hat hcl
        have h6 := hat 0 (by omega)
        have h7 : cs'[0]? = some (cs'[0]'(by omega)) := List.getElem?_eq_getElem (by omega)
        rw [h7] at h6
        have h8 := World.cell?_spot h6
        simpa [Addr.add] using h8
      subst hspot
      have hall : ∀ i, i < len → ∃ o, OpAt w b (off + i * 4) o := fun i hil => by
        obtain ⟨cs', hc, htr⟩ := hi i (by omega)
        obtain ⟨_, hcl, hat⟩ := World.cells?_some hc
        rw [hC] at hat
        refine op_of (ti := ti) (ts := ts) (tsi := ti) (tss := ts) hs hone hC h0 h1 h2 hti hci h3 hts hcs (fun j hj => ?_) htr
        have h6 := hat j hj
        rw [add_mk, add_mk] at h6
        exact h6
      have hlt : b < w.heap.size := by
        obtain ⟨o, ho⟩ := hall 0 h5
        exact World.block_lt_of_cell? w _ ho.1
      refine ⟨(List.range len).map fun i => if hil : i < len then (hall i hil).choose else ⟨0, 0, [], []⟩, by simp, Nat.le_trans hl hm, fun _ => ⟨b, off, rfl, hlt, fun i o hio => ?_⟩⟩
      have hil : i < len := by
        rcases Nat.lt_or_ge i len with h6 | h6
        · exact h6
        · rw [List.getElem?_eq_none (by simpa using h6)] at hio; cases hio
      rw [List.getElem?_map, List.getElem?_range hil] at hio
      simp only [Option.map_some, dif_pos hil, Option.some.injEq] at hio
      rw [← hio]
      exact (hall i hil).choose_spec
end

end Go.Proofs.Ytlinmnlfcboicaa
