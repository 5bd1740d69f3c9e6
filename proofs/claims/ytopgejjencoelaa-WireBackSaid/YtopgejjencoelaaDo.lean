/- nvt.Reader.do: each act. Own work. -/
import Derived.Test.YtopgejjencoelaaAns
import Derived.Deep.RegionWith
namespace Go.Proofs.Ytopgejjencoelaa
set_option linter.unusedVariables false
set_option linter.unusedSimpArgs false
open Go.RowKit

/-- A Reader and an answer, apart. -/
def PairIn (w : World) (p q base : Nat) (bin made : Bool) (r : Rd) (a : An) (A : Option Addr) (c : Nat) (v : Value) (B : Option Addr) (d : Nat) : Prop :=
  RdIn w p bin made r A c ∧ AnIn w q base a v B d ∧ ∀ k, rdOwn p A k → ¬ anOwn q v B k
def pairOwn (p : Nat) (A : Option Addr) (q : Nat) (v : Value) (B : Option Addr) : Nat → Prop := fun k => rdOwn p A k ∨ anOwn q v B k
/-- Behind a call that turns both. -/
def PairTo (p q base : Nat) (bin made : Bool) (A : Option Addr) (v : Value) (B : Option Addr) (w : World) (r : Rd) (a : An) (w' : World) : Prop :=
  ∃ A' c' v' B' d', PairIn w' p q base bin made r a A' c' v' B' d' ∧ Step (pairOwn p A q v B) w (pairOwn p A' q v' B') w'

theorem PairIn.rd {w w' : World} {p q base : Nat} {bin made : Bool} {r r' : Rd} {a : An} {A A' : Option Addr} {c c' : Nat} {v : Value} {B : Option Addr} {d : Nat} (h : PairIn w p q base bin made r a A c v B d)
    (h' : RdIn w' p bin made r' A' c') (s : Step (rdOwn p A) w (rdOwn p A') w') : PairIn w' p q base bin made r' a A' c' v B d ∧ Step (pairOwn p A q v B) w (pairOwn p A' q v B) w' := by
  refine ⟨⟨h', h.2.1.keep s.1 (fun i hi x => h.2.2 i x hi), fun k hk ha => ?_⟩, s.1.mono (fun _ _ x => .inl x), fun k hk => ?_⟩
  · rcases s.2 k hk with x | x
    · exact h.2.2 k x ha
    · have := h.2.1.lto ha; omega
  · rcases hk with hk | hk
    · exact (s.2 k hk).imp .inl id
    · exact .inl (.inr hk)
theorem PairIn.an {w w' : World} {p q base : Nat} {bin made : Bool} {r : Rd} {a a' : An} {A : Option Addr} {c : Nat} {v v' : Value} {B B' : Option Addr} {d d' : Nat} (h : PairIn w p q base bin made r a A c v B d)
    (h' : AnIn w' q base a' v' B' d') (s : Step (anOwn q v B) w (anOwn q v' B') w') : PairIn w' p q base bin made r a' A c v' B' d' ∧ Step (pairOwn p A q v B) w (pairOwn p A q v' B') w' := by
  refine ⟨⟨h.1.keep s.1 (fun i hi x => h.2.2 i hi x), h', fun k hk ha => ?_⟩, s.1.mono (fun _ _ x => .inr x), fun k hk => ?_⟩
  · rcases s.2 k ha with x | x
    · exact h.2.2 k hk x
    · have := h.1.lto hk; omega
  · rcases hk with hk | hk
    · exact .inl (.inl hk)
    · exact (s.2 k hk).imp .inr id
theorem PairIn.to {w : World} {p q base : Nat} {bin made : Bool} {r : Rd} {a : An} {A : Option Addr} {c : Nat} {v : Value} {B : Option Addr} {d : Nat} (h : PairIn w p q base bin made r a A c v B d) : PairTo p q base bin made A v B w r a w :=
  ⟨A, c, v, B, d, h, Step.refl _ _⟩
theorem PairTo.rd {w w1 w2 : World} {p q base : Nat} {bin made : Bool} {r r' : Rd} {a : An} {A A1 A' : Option Addr} {c1 c' : Nat} {v v1 : Value} {B B1 : Option Addr} {d1 : Nat} (s0 : Step (pairOwn p A q v B) w (pairOwn p A1 q v1 B1) w1)
    (h : PairIn w1 p q base bin made r a A1 c1 v1 B1 d1) (h' : RdIn w2 p bin made r' A' c') (s : Step (rdOwn p A1) w1 (rdOwn p A') w2) : PairTo p q base bin made A v B w r' a w2 :=
  ⟨A', c', v1, B1, d1, (h.rd h' s).1, s0.trans (h.rd h' s).2⟩
theorem PairTo.an {w w1 w2 : World} {p q base : Nat} {bin made : Bool} {r : Rd} {a a' : An} {A A1 : Option Addr} {c1 : Nat} {v v1 v' : Value} {B B1 B' : Option Addr} {d1 d' : Nat} (s0 : Step (pairOwn p A q v B) w (pairOwn p A1 q v1 B1) w1)
    (h : PairIn w1 p q base bin made r a A1 c1 v1 B1 d1) (h' : AnIn w2 q base a' v' B' d') (s : Step (anOwn q v1 B1) w1 (anOwn q v' B') w2) : PairTo p q base bin made A v B w r a' w2 :=
  ⟨A1, c1, v', B', d', (h.an h' s).1, s0.trans (h.an h' s).2⟩

/-- A call of do, told. -/
def DoTold (p q base : Nat) (bin made : Bool) (r : Rd) (a : An) (A : Option Addr) (v : Value) (B : Option Addr) (w : World) (n : Nat) (b : UInt8) : Prop :=
  Calls Try.prog 47 #[.pointer (some ⟨p, 0, none⟩), .int .u8 (n : Int), .int .u8 (b.toNat : Int), .pointer (some ⟨q, 0, none⟩)] w fun e w' => e = .returned (.tuple #[]) ∧ PairTo p q base bin made A v B w (doR n b r) (doA n b r a) w'

section
variable {p q base : Nat} {bin made : Bool} {r : Rd} {a : An} {A : Option Addr} {c : Nat} {v : Value} {B : Option Addr} {d : Nat} {w : World}

set_option maxRecDepth 100000 in
set_option maxHeartbeats 800000 in
theorem do_0 (b : UInt8) (h : PairIn w p q base bin made r a A c v B d) : DoTold p q base bin made r a A v B w 0 b := by
  have H := Lib.hid h
  clear h
  unfold DoTold
  go_enter Try.func47, Try.ntmps47
  go_wp2_with fail
  go_end0
  exact ⟨rfl, H.out.to⟩

set_option maxRecDepth 100000 in
set_option maxHeartbeats 800000 in
theorem do_1 (b : UInt8) (h : PairIn w p q base bin made r a A c v B d) (hl : a.bytes.length ≤ 1099511627776) : DoTold p q base bin made r a A v B w 1 b := by
  have H := Lib.hid h
  have HL := Lib.hid hl
  clear h hl
  unfold DoTold
  go_enter Try.func47, Try.ntmps47
  go_wp2_with fail
  refine (data_any q base a v B d b _ H.out.2.1 HL.out).mono ?_
  rintro e w1 ⟨rfl, v1, B1, d1, h1, s1⟩
  have HH := Lib.hid (PairTo.an (Step.refl _ _) H.out h1 s1)
  clear h1 s1
  go_wp2_with fail
  go_end0
  exact ⟨rfl, HH.out⟩

set_option maxRecDepth 100000 in
set_option maxHeartbeats 1600000 in
theorem do_2 (b : UInt8) (h : PairIn w p q base bin made r a A c v B d) (hl : a.bytes.length ≤ 1099511627776) (ht : a.told.length + 1 ≤ 1099511627776) (hb : base ≤ w.heap.size) : DoTold p q base bin made r a A v B w 2 b := by
  have c2 := h.1.c2.1
  have f2 := h.1.c2.2
  have c3 := h.1.c3.1
  have f3 := h.1.c3.2
  have c4 := h.1.c4.1
  have f4 := h.1.c4.2
  have c5 := h.1.c5.1
  have f5 := h.1.c5.2
  have b0 : (0 : Int) ≤ (b.toNat : Int) := by omega
  have b1 : (b.toNat : Int) ≤ 255 := by have := b.toNat_lt; omega
  have hn := h.1.anew 0
  have H1 := Lib.hid (h.rd hn.1 hn.2)
  have HB := Lib.hid hb
  have HL := Lib.hid hl
  have HT := Lib.hid ht
  clear h hl ht hb hn
  unfold DoTold
  go_enter Try.func47, Try.ntmps47
  go_wp2_with fail
  obtain ⟨w1, hw1⟩ : ∃ w1, w1 = (((w.setCell ⟨p, 103, none⟩ (.int .i64 0)).setCell ⟨p, 104, none⟩ (.int .i64 0)).setCell ⟨p, 105, none⟩ (.slice none 0 0)).setCell ⟨p, 106, none⟩ (.bool false) := ⟨_, rfl⟩
  rw [← hw1] at H1 ⊢
  have hz : w1.heap.size = w.heap.size := by rw [hw1]; simp
  clear hw1 c2 f2 c3 f3 c4 f4 c5 f5
  refine (tell_any q base a v B d 1 (b.toNat : Int) 0 ⟨#[]⟩ _ H1.out.1.2.1 HL.out HT.out (by rw [hz]; exact HB.out)).mono ?_
  rintro e w2 ⟨rfl, v1, B1, d1, h1, s1⟩
  have HH := Lib.hid (PairTo.an H1.out.2 H1.out.1 h1 s1)
  clear h1 s1 hz
  go_wp2_with fail
  go_end0
  exact ⟨rfl, HH.out⟩

set_option maxRecDepth 100000 in
set_option maxHeartbeats 1600000 in
theorem do_3 (b : UInt8) (h : PairIn w p q base bin made r a A c v B d) : DoTold p q base bin made r a A v B w 3 b := by
  have c2 := h.1.c2.1
  have f2 := h.1.c2.2
  have c3 := h.1.c3.1
  have f3 := h.1.c3.2
  have c4 := h.1.c4.1
  have f4 := h.1.c4.2
  have c5 := h.1.c5.1
  have f5 := h.1.c5.2
  have b0 : (0 : Int) ≤ (b.toNat : Int) := by omega
  have b1 : (b.toNat : Int) ≤ 255 := by have := b.toNat_lt; omega
  have hn := h.1.anew (b.toNat : Int)
  have H1 := Lib.hid (PairTo.rd (Step.refl _ _) h hn.1 hn.2)
  clear h hn
  unfold DoTold
  go_enter Try.func47, Try.ntmps47
  go_wp2_with fail
  go_end0
  exact ⟨rfl, H1.out⟩

set_option maxRecDepth 100000 in
set_option maxHeartbeats 1600000 in
theorem do_5 (b : UInt8) (h : PairIn w p q base bin made r a A c v B d) : DoTold p q base bin made r a A v B w 5 b := by
  have c2 := h.1.c2.1
  have f2 := h.1.c2.2
  have c3 := h.1.c3.1
  have f3 := h.1.c3.2
  have c4 := h.1.c4.1
  have f4 := h.1.c4.2
  have c5 := h.1.c5.1
  have f5 := h.1.c5.2
  have hn := h.1.anew 0
  have H1 := Lib.hid (PairTo.rd (Step.refl _ _) h hn.1 hn.2)
  clear h hn
  unfold DoTold
  go_enter Try.func47, Try.ntmps47
  go_wp2_with fail
  go_end0
  exact ⟨rfl, H1.out⟩

set_option maxRecDepth 100000 in
set_option maxHeartbeats 1600000 in
theorem do_6 (b : UInt8) (h : PairIn w p q base bin made r a A c v B d) : DoTold p q base bin made r a A v B w 6 b := by
  have c3 := h.1.c3.1
  have f3 := h.1.c3.2
  have b0 : (0 : Int) ≤ (b.toNat : Int) := by omega
  have b1 : (b.toNat : Int) ≤ 255 := by have := b.toNat_lt; omega
  have H1 := Lib.hid (PairTo.rd (Step.refl _ _) h (h.1.setOpt (b.toNat : Int)) (h.1.step_of (keep_set w p 104 _)))
  clear h
  unfold DoTold
  go_enter Try.func47, Try.ntmps47
  go_wp2_with fail
  go_end0
  exact ⟨rfl, H1.out⟩

set_option maxRecDepth 100000 in
set_option maxHeartbeats 1600000 in
theorem do_7 (b : UInt8) (h : PairIn w p q base bin made r a A c v B d) : DoTold p q base bin made r a A v B w 7 b := by
  have H := Lib.hid h
  clear h
  unfold DoTold
  go_enter Try.func47, Try.ntmps47
  go_wp2_with fail
  refine (keep_any p bin made r A c b _ H.out.1).mono ?_
  rintro e w1 ⟨rfl, A1, c1, h1, s1⟩
  have HH := Lib.hid (PairTo.rd (Step.refl _ _) H.out h1 s1)
  clear h1 s1
  go_wp2_with fail
  go_end0
  exact ⟨rfl, HH.out⟩

set_option maxRecDepth 100000 in
set_option maxHeartbeats 1600000 in
theorem do_4 (b : UInt8) (h : PairIn w p q base bin made r a A c v B d) (hl : a.bytes.length ≤ 1099511627776) (ht : a.told.length + 1 ≤ 1099511627776) (hb : base ≤ w.heap.size) : DoTold p q base bin made r a A v B w 4 b := by
  have c2 := h.1.c2.1
  have b0 : (0 : Int) ≤ (b.toNat : Int) := by omega
  have b1 : (b.toNat : Int) ≤ 255 := by have := b.toNat_lt; omega
  have H := Lib.hid h
  have HB := Lib.hid hb
  have HL := Lib.hid hl
  have HT := Lib.hid ht
  clear h hl ht hb
  unfold DoTold
  go_enter Try.func47, Try.ntmps47
  go_wp2_with fail
  refine (tell_any q base a v B d 2 r.cmd (b.toNat : Int) ⟨#[]⟩ _ H.out.2.1 HL.out HT.out HB.out).mono ?_
  rintro e w2 ⟨rfl, v1, B1, d1, h1, s1⟩
  have K1 := Lib.hid (H.out.an h1 s1)
  have d2 := K1.out.1.1.c2.1
  have e2 := K1.out.1.1.c2.2
  have d3 := K1.out.1.1.c3.1
  have e3 := K1.out.1.1.c3.2
  have d4 := K1.out.1.1.c4.1
  have e4 := K1.out.1.1.c4.2
  have d5 := K1.out.1.1.c5.1
  have e5 := K1.out.1.1.c5.2
  have HH := Lib.hid (PairTo.rd K1.out.2 K1.out.1 (K1.out.1.1.anew 0).1 (K1.out.1.1.anew 0).2)
  clear h1 s1 c2
  go_wp2_with fail
  go_end0
  exact ⟨rfl, HH.out⟩

end

end Go.Proofs.Ytopgejjencoelaa
