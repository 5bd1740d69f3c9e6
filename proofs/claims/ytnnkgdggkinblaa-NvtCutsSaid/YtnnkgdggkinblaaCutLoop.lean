/- A Reader that is fed in parts, and the list that what it tells is put to; what stands at the law's end. Own work. -/
import Derived.Test.YtnnkgdggkinblaaNvtLawM
import Derived.Test.YtnnkgdggkinblaaFeedOne
import Derived.Test.YtnnkgdggkinblaaPlain
import Derived.Test.YtnnkgdggkinblaaTexts
namespace Go.Proofs.Ytnnkgdggkinblaa
set_option linter.unusedVariables false
set_option linter.unusedSimpArgs false
open Go.RowKit

/-- What turns: the Reader's block, and what was made since. -/
def Since (p : Nat) (w0 : World) : Nat → Prop := fun k => k = p ∨ w0.heap.size ≤ k

/-- Behind bytes s that were fed in parts. -/
def CutLoop (p : Nat) (bin : Bool) (w0 : World) (s : List UInt8) (v : Value) (w : World) : Prop :=
  ∃ made A c L, RdIn w p bin made (goL bin Rd.new s) A c ∧ plainL L = plainL (feedL bin Rd.new s) ∧ L.length ≤ s.length ∧ tsum L + (goL bin Rd.new s).text.length ≤ s.length ∧
    w.ownsRow w0.heap.size 60 4 v L.length (toks L) ∧ (∀ i, v.ownBlock = some i → ¬ rdOwn p A i) ∧ (∀ i, rdOwn p A i → Since p w0 i) ∧ Keep (Since p w0) w0 w

theorem CutLoop.new {p : Nat} {bin made : Bool} {w : World} (h : RdIn w p bin made Rd.new none 0) : CutLoop p bin w [] (.slice none 0 0) w :=
  ⟨made, none, 0, [], h, rfl, Nat.le_refl _, Nat.le_refl _, World.ownsRow_nil _ _ _ _, by simp [Value.ownBlock], fun i hi => .inl (rdOwn_none hi), Keep.refl _ _⟩

/-- One more part: behind the Feed (w3), and the append (w4). -/
theorem cut_fed {p : Nat} {bin made : Bool} {w0 w w3 w4 : World} {s x : List UInt8} {v v4 : Value} {A A' : Option Addr} {c c' : Nat} {L : List Tok}
    (h1 : RdIn w p bin made (goL bin Rd.new s) A c) (h2 : plainL L = plainL (feedL bin Rd.new s)) (h3 : L.length ≤ s.length) (h4 : tsum L + (goL bin Rd.new s).text.length ≤ s.length)
    (h5 : w.ownsRow w0.heap.size 60 4 v L.length (toks L)) (h6 : ∀ i, v.ownBlock = some i → ¬ rdOwn p A i) (h7 : ∀ i, rdOwn p A i → Since p w0 i) (h8 : Keep (Since p w0) w0 w)
    (f1 : RdIn w3 p bin true (goL bin (goL bin Rd.new s) x) A' c') (f2 : Step (rdOwn p A) w (rdOwn p A') w3)
    (a1 : w4.ownsRow w0.heap.size 60 4 v4 (L.length + (feedL bin (goL bin Rd.new s) x).length) (toks L ++ toks (feedL bin (goL bin Rd.new s) x))) (a2 : Keep (fun k => v.ownBlock = some k) w3 w4) (a3 : ∀ k, v4.ownBlock = some k → v.ownBlock = some k ∨ w3.heap.size ≤ k) :
    CutLoop p bin w0 (s ++ x) v4 w4 := by
  have hA' : ∀ i, rdOwn p A' i → v.ownBlock ≠ some i := fun i hi e => by
    rcases f2.2 i hi with y | y
    · exact h6 i e y
    · have := own_lt h5 e; omega
  refine ⟨true, A', c', L ++ feedL bin (goL bin Rd.new s) x, ?_, ?_, ?_, ?_, ?_, ?_, ?_, ?_⟩
  · rw [← go_cut]
    exact f1.keep a2 hA'
  · exact feed_next bin Rd.new L s x h2
  · have := feed_len bin (goL bin Rd.new s) x
    simp only [List.length_append]
    omega
  · have := feed_sum bin (goL bin Rd.new s) x
    rw [go_cut] at this
    rw [tsum_add, List.length_append]
    omega
  · rw [List.length_append, toks_add]; exact a1
  · intro i hi hr
    rcases a3 i hi with y | y
    · exact hA' i hr y
    · have := f1.lto hr; omega
  · intro i hi
    rcases f2.2 i hi with y | y
    · exact h7 i y
    · exact .inr (Nat.le_trans h8.size y)
  · have k1 : Keep (Since p w0) w0 w3 := h8.trans f2.1 (fun i _ hi => h7 i hi)
    exact k1.trans a2 (fun i _ hi => .inr (h5.lt i hi).1)

/-- What stands at the end. -/
structure CutEnd (bin : Bool) (px py pz : Nat) (r : Rd) (L M N : List Tok) (vl vm vn : Value) (g ct : Nat) (qs : List ByteArray) (B : Option Addr) (w : World) : Prop where
  x : ∃ made A c, RdIn w px bin made r A c
  y : ∃ made A c, RdIn w py bin made r A c
  z : ∃ made A c, RdIn w pz bin made r A c
  l : ∃ base, w.ownsRow base 60 4 vl L.length (toks L)
  m : ∃ base, w.ownsRow base 60 4 vm M.length (toks M)
  n : ∃ base, w.ownsRow base 60 4 vn N.length (toks N)
  t : Lent w 9 g ct (qs.map Value.string) (.string ⟨#[109, 97, 114, 107]⟩)
  q : Src w B qs.length (qs.map Value.string)

theorem CutEnd.keep {bin : Bool} {px py pz : Nat} {r : Rd} {L M N : List Tok} {vl vm vn : Value} {g ct : Nat} {qs : List ByteArray} {B : Option Addr} {w w' : World} (h : CutEnd bin px py pz r L M N vl vm vn g ct qs B w) (k : Keep (fun _ => False) w w') :
    CutEnd bin px py pz r L M N vl vm vn g ct qs B w' := by
  obtain ⟨⟨m1, A1, c1, h1⟩, ⟨m2, A2, c2, h2⟩, ⟨m3, A3, c3, h3⟩, ⟨b1, l1⟩, ⟨b2, l2⟩, ⟨b3, l3⟩, ht, hq⟩ := h
  exact ⟨⟨m1, A1, c1, h1.keep k (fun _ _ x => x)⟩, ⟨m2, A2, c2, h2.keep k (fun _ _ x => x)⟩, ⟨m3, A3, c3, h3.keep k (fun _ _ x => x)⟩, ⟨b1, own_keep l1 k (fun _ _ x => x)⟩, ⟨b2, own_keep l2 k (fun _ _ x => x)⟩, ⟨b3, own_keep l3 k (fun _ _ x => x)⟩, ht.keep k (fun x => x), hq.keep k⟩
theorem CutEnd.below {bin : Bool} {px py pz : Nat} {r : Rd} {L M N : List Tok} {vl vm vn : Value} {g ct : Nat} {qs : List ByteArray} {B : Option Addr} {w w' : World} (h : CutEnd bin px py pz r L M N vl vm vn g ct qs B w) (k : Below w.heap.size w w') :
    CutEnd bin px py pz r L M N vl vm vn g ct qs B w' := h.keep (Keep.of_below _ k)
theorem CutEnd.drewN {bin : Bool} {px py pz : Nat} {r : Rd} {L M N : List Tok} {vl vm vn : Value} {g ct : Nat} {qs : List ByteArray} {B : Option Addr} {w : World} (h : CutEnd bin px py pz r L M N vl vm vn g ct qs B w) (k : Nat) :
    CutEnd bin px py pz r L M N vl vm vn g ct qs B (w.drewN k) := h.keep ((Keep.refl _ w).drewN k)

/-- The calls at the end. -/
def PlainTo (l : List Tok) (w : World) (e : Ending) (w' : World) : Prop := ∃ v', e = .returned v' ∧ w'.ownsRow w.heap.size 60 4 v' l.length (toks l) ∧ Below w.heap.size w w'

theorem plain_row (v : Value) (l P : List Tok) (w : World) (h : ∃ base, w.ownsRow base 60 4 v l.length (toks l)) (hp : plainL l = P) (hn : l.length ≤ 1000000000000) (hs : tsum l ≤ 1000000000000) :
    Calls Try.prog 12 #[v] w (PlainTo P w) := by
  obtain ⟨b, h⟩ := h
  rw [← hp]
  exact plain_any b v l w h hn hs

end Go.Proofs.Ytnnkgdggkinblaa
