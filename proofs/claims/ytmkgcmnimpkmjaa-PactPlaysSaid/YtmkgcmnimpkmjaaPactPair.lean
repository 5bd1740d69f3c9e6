/- A Pact and the document's, side by side. Own work. -/
import Derived.Test.YtmkgcmnimpkmjaaPk
import Derived.Test.YtmkgcmnimpkmjaaRPactB
import Derived.Test.YtmkgcmnimpkmjaaRPactV
import Derived.Test.YtmkgcmnimpkmjaaRPactS
import Derived.Test.YtmkgcmnimpkmjaaPactOps
namespace Go.Proofs.Ytmkgcmnimpkmjaa
set_option linter.unusedVariables false
set_option linter.unusedSimpArgs false
open Go.RowKit

/-- The document's block is none of the Pact's. -/
def Apart (B : Nat) (p : Nat) (L : Blk) (r : Nat) : Prop := r ≠ p ∧ r ≠ L.q1 ∧ r ≠ L.q2 ∧ r ≠ L.b1 ∧ r ≠ L.b2 ∧ B ≤ r

/-- Both have m. -/
structure PairAt (B : Nat) (w : World) (p : Nat) (L : Blk) (N : ByteArray) (r : Nat) (m : Pm) : Prop where
  pk : Pk B w p L N m
  rf : RefAt w r N m
  ne : Apart B p L r
/-- The Pact has m', the document's m still. -/
structure Half (B : Nat) (w : World) (p : Nat) (L : Blk) (N : ByteArray) (r : Nat) (m m' : Pm) : Prop where
  pk : Pk B w p L N m'
  rf : RefAt w r N m
  ne : Apart B p L r
  ok : m.Ok

namespace PairAt
variable {B : Nat} {w w' : World} {p : Nat} {L : Blk} {N : ByteArray} {r : Nat} {m m' : Pm}
theorem below (h : PairAt B w p L N r m) (k : Below w.heap.size w w') : PairAt B w' p L N r m := ⟨h.pk.below k, h.rf.below k, h.ne⟩
theorem alloc (h : PairAt B w p L N r m) (o : Obj) : PairAt B (w.alloc o) p L N r m := ⟨h.pk.alloc o, h.rf.alloc o, h.ne⟩
theorem drew (h : PairAt B w p L N r m) : PairAt B w.drew p L N r m := ⟨h.pk.drew, h.rf.drew, h.ne⟩
theorem drewN (h : PairAt B w p L N r m) (n : Nat) : PairAt B (w.drewN n) p L N r m := ⟨h.pk.drewN n, h.rf.drewN n, h.ne⟩
theorem half (h : PairAt B w p L N r m) (k : Keep (pown p L) w w') (hp : Pk B w' p L N m') : Half B w' p L N r m m' :=
  ⟨hp, h.rf.keep k (by
    obtain ⟨n1, n2, n3, n4, n5, n6⟩ := h.ne
    rintro (e | e | e)
    · exact n1 e
    · exact n4 e
    · exact n5 e), h.ne, h.pk.ok⟩
end PairAt
theorem Half.whole {B : Nat} {w w' : World} {p : Nat} {L : Blk} {N : ByteArray} {r : Nat} {m m' : Pm} (h : Half B w p L N r m m') (k : Keep (· = r) w w') (hr : RefAt w' r N m') : PairAt B w' p L N r m' :=
  ⟨h.pk.keep k (fun i hi e => by
    obtain ⟨n1, n2, n3, n4, n5, n6⟩ := h.ne
    rcases hi with hi | hi | hi | hi | hi
    · exact n1 (e.symm.trans hi)
    · exact n2 (e.symm.trans hi)
    · exact n3 (e.symm.trans hi)
    · exact n4 (e.symm.trans hi)
    · exact n5 (e.symm.trans hi)), hr, h.ne⟩
theorem Half.base {B : Nat} {w w' : World} {p : Nat} {L : Blk} {N : ByteArray} {r : Nat} {m m' : Pm} (h : Half B w p L N r m m') (k : Keep (· = r) w w') : Below B w w' :=
  k.below h.pk.le (fun i hi e => by have := h.ne.2.2.2.2.2; omega)

section
variable {B : Nat} {w : World} {p : Nat} {L : Blk} {N : ByteArray} {r : Nat} {m m' : Pm}

theorem pair_take (h : PairAt B w p L N r m) (k cmd o : Int) (s : ByteArray) (h0 : -9223372036854775808 ≤ o) (h1 : o ≤ 9223372036854775807) (hg : m.g < 100000) (hs : m.sent < 100000) :
    Calls Try.prog 15 #[.pointer (some ⟨p, 0, none⟩), .agg #[.int .i64 k, .int .i64 cmd, .int .i64 o, .string s]] w fun e w' =>
      e = .returned (.string ⟨(m.takeT N.data.toList k cmd o s.data.toList).toArray⟩) ∧ Half B w' p L N r m (m.take k cmd o) ∧ Below B w w' ∧ Keep (pown p L) w w' := by
  refine (pk_take h.pk k cmd o s h0 h1 hg hs).mono ?_
  rintro e w1 ⟨rfl, h2, h3, h4⟩
  exact ⟨rfl, h.half h4 h2, h3, h4⟩
theorem half_take (k cmd o : Int) (s : ByteArray) (h : Half B w p L N r m (m.take k cmd o)) (hs : m.sent < 100000) :
    Calls Try.prog 16 #[.pointer (some ⟨r, 0, none⟩), .agg #[.int .i64 k, .int .i64 cmd, .int .i64 o, .string s]] w fun e w' =>
      e = .returned (.string ⟨(m.takeT N.data.toList k cmd o s.data.toList).toArray⟩) ∧ PairAt B w' p L N r (m.take k cmd o) ∧ Below B w w' ∧ Keep (· = r) w w' := by
  refine (rtake_any r N m w k cmd o s h.rf h.ok h.pk.nm (by omega)).mono ?_
  rintro e w1 ⟨rfl, h2, h3⟩
  exact ⟨rfl, h.whole h3 h2, h.base h3, h3⟩
theorem pair_size (h : PairAt B w p L N r m) (a b : Int) :
    Calls Try.prog 11 #[.pointer (some ⟨p, 0, none⟩), .int .i64 a, .int .i64 b] w fun e w' =>
      e = .returned (.string ⟨(m.sizeT a b).toArray⟩) ∧ Half B w' p L N r m (m.size a b) ∧ Below B w w' ∧ Keep (pown p L) w w' := by
  refine (pk_size h.pk a b).mono ?_
  rintro e w1 ⟨rfl, h2, h3, h4⟩
  exact ⟨rfl, h.half h4 h2, h3, h4⟩
theorem half_size (a b : Int) (h : Half B w p L N r m (m.size a b)) :
    Calls Try.prog 12 #[.pointer (some ⟨r, 0, none⟩), .int .i64 a, .int .i64 b] w fun e w' =>
      e = .returned (.string ⟨(m.sizeT a b).toArray⟩) ∧ PairAt B w' p L N r (m.size a b) ∧ Below B w w' ∧ Keep (· = r) w w' := by
  refine (rsize_all r N m w a b h.rf h.ok).mono ?_
  rintro e w1 ⟨rfl, h2, h3⟩
  exact ⟨rfl, h.whole h3 h2, h.base h3, h3⟩
theorem pair_start (h : PairAt B w p L N r m) (hg : m.g < 100000) (hs : m.sent < 100000) :
    Calls Try.prog 13 #[.pointer (some ⟨p, 0, none⟩)] w fun e w' =>
      e = .returned (.string ⟨m.startT.toArray⟩) ∧ Half B w' p L N r m m.start ∧ Below B w w' ∧ Keep (pown p L) w w' := by
  refine (pk_start h.pk hg hs).mono ?_
  rintro e w1 ⟨rfl, h2, h3, h4⟩
  exact ⟨rfl, h.half h4 h2, h3, h4⟩
theorem half_start (h : Half B w p L N r m m.start) (hs : m.sent < 100000) :
    Calls Try.prog 14 #[.pointer (some ⟨r, 0, none⟩)] w fun e w' =>
      e = .returned (.string ⟨m.startT.toArray⟩) ∧ PairAt B w' p L N r m.start ∧ Below B w w' ∧ Keep (· = r) w w' := by
  refine (rstart_any r N m w h.rf h.ok (by omega)).mono ?_
  rintro e w1 ⟨rfl, h2, h3⟩
  exact ⟨rfl, h.whole h3 h2, h.base h3, h3⟩
end

/-- An act's cells. -/
def opCells (o : OpV) : List Value := [.int .i64 o.k, .int .i64 o.c, .int .i64 o.o, .string o.s, .bool o.size, .bool o.start, .int .i64 o.w, .int .i64 o.h]

/-- Never more sent than came, and two. -/
def Few (m : Pm) (c : Nat) : Prop := m.sent ≤ c + (if m.started = true then 2 else 0)

theorem few_take {m : Pm} {c : Nat} (h : Few m c) (k cmd o : Int) : Few (m.take k cmd o) (c + if k = 2 then 1 else 0) := by
  have := m.take_sent k cmd o
  unfold Few at *
  rw [this.2.2]
  omega
theorem few_size {m : Pm} {c : Nat} (h : Few m c) (a b : Int) : Few (m.size a b) c := by
  have := m.size_sent a b
  unfold Few at *
  rw [this.1, this.2.2]
  exact h
theorem few_start {m : Pm} {c : Nat} (h : Few m c) : Few m.start c ∧ m.start.g ≤ m.g + 2 := by
  have hb := m.begin_sent
  unfold Few at *
  unfold Pm.start
  cases hs : m.started
  · rw [hs] at h
    simp only [Bool.false_eq_true, if_false] at h ⊢
    rw [hb.2.2]
    simp only [if_true]
    omega
  · rw [hs] at h
    simp only [if_true] at h ⊢
    rw [hs]
    simp only [if_true]
    exact ⟨h, by omega⟩

end Go.Proofs.Ytmkgcmnimpkmjaa
