/- The document's Reader in memory: data, command. Own work. -/
import Derived.Test.YtopgejjencoelaaRefM
import Derived.Test.YtopgejjencoelaaRdr
namespace Go.Proofs.Ytopgejjencoelaa
set_option linter.unusedVariables false
set_option linter.unusedSimpArgs false
open Go.RowKit

/-- Cells that may be set, of one block. -/
def Cells (w : World) (p : Nat) (cs : List Value) : Prop := ∀ i v, cs[i]? = some v → Cell w p i v
theorem Cells.set {w : World} {p : Nat} {cs : List Value} (h : Cells w p cs) (j : Nat) (hj : j < cs.length) (u : Value) : Cells (w.setCell ⟨p, j, none⟩ u) p (cs.set j u) := by
  intro i v hi
  by_cases e : i = j
  · subst e
    rw [List.getElem?_set_self hj] at hi
    cases hi
    exact (h i _ (List.getElem?_eq_getElem hj)).set u
  · rw [List.getElem?_set_ne (Ne.symm e)] at hi
    exact (h i v hi).far (by omega) _
theorem Cells.keep {S : Nat → Prop} {w w' : World} {p : Nat} {cs : List Value} (h : Cells w p cs) (k : Keep S w w') (hn : ¬ S p) : Cells w' p cs := fun i v hi => (h i v hi).keep k hn
theorem Cells.alloc {w : World} {p : Nat} {cs : List Value} (h : Cells w p cs) (x : Obj) : Cells (w.alloc x) p cs := fun i v hi => (h i v hi).alloc x
theorem Cells.box (w : World) (cs : List Value) (t : TypeId) : Cells (w.alloc (.cells cs.toArray t)) w.heap.size cs := fun i v hi => Cell.box i (by simpa using hi)

def rfCells (bin : Bool) (f : Rf) (C : Option Addr) (k : Nat) (A : Option Addr) (c : Nat) : List Value :=
  [.bool bin, .bool f.cr, .slice C f.cmd.length k, .bool f.inn, .int .i64 f.opt, .slice A f.body.length c, .bool f.long, .bool f.iac]

/-- The document's Reader behind a pointer. -/
structure RfIn (w : World) (p : Nat) (bin : Bool) (f : Rf) (C : Option Addr) (k : Nat) (A : Option Addr) (c : Nat) : Prop where
  cs : Cells w p (rfCells bin f C k A c)
  buf : Buf w A f.body.length c (Lib.byteCells f.body)
  two : f.cmd.length = 2 → ∃ b, C = some ⟨b, 0, none⟩ ∧ w.cell? ⟨b, 1, none⟩ = some (.int .u8 ((f.cmd.getD 1 0).toNat : Int))
  ltC : ∀ i, blk C = some i → i < w.heap.size
  ne : blk A ≠ some p
  neC : blk C ≠ some p
  neA : ∀ i, blk C = some i → blk A ≠ some i
  ok : f.body.length ≤ 40

def rfOwn (p : Nat) (C A : Option Addr) : Nat → Prop := fun i => i = p ∨ blk C = some i ∨ blk A = some i

namespace RfIn
variable {w w' : World} {p : Nat} {bin : Bool} {f f' : Rf} {C C' A A' : Option Addr} {k k' c c' : Nat}
theorem lt (h : RfIn w p bin f C k A c) : p < w.heap.size := (h.cs 0 _ rfl).lt
theorem lto (h : RfIn w p bin f C k A c) {i : Nat} (hi : rfOwn p C A i) : i < w.heap.size := by
  rcases hi with rfl | hi | hi
  · exact h.lt
  · exact h.ltC i hi
  · exact h.buf.lt hi
theorem keep {S : Nat → Prop} (h : RfIn w p bin f C k A c) (q : Keep S w w') (hn : ∀ i, rfOwn p C A i → ¬ S i) : RfIn w' p bin f C k A c :=
  ⟨h.cs.keep q (hn p (.inl rfl)), h.buf.keep q (fun i hi => hn i (.inr (.inr hi))), fun e => by
    obtain ⟨b, e1, e2⟩ := h.two e
    have hb : blk C = some b := by rw [e1]; rfl
    exact ⟨b, e1, (q.cell (p := ⟨b, 1, none⟩) (h.ltC b hb) (hn b (.inr (.inl hb)))).trans e2⟩, fun i hi => Nat.lt_of_lt_of_le (h.ltC i hi) q.size, h.ne, h.neC, h.neA, h.ok⟩
theorem alloc (h : RfIn w p bin f C k A c) (o : Obj) : RfIn (w.alloc o) p bin f C k A c := h.keep (S := fun _ => False) ((Keep.refl _ w).alloc o) (fun _ _ x => x)
theorem below (h : RfIn w p bin f C k A c) (q : Below w.heap.size w w') : RfIn w' p bin f C k A c := h.keep (S := fun _ => False) (Keep.of_below _ q) (fun _ _ x => x)

/-- Its cells set anew. -/
theorem turn (h : RfIn w p bin f C k A c) (q : Keep (· = p) w w') (hc : Cells w' p (rfCells bin f' C' k' A' c'))
    (hC : (C' = C ∧ f'.cmd = f.cmd) ∨ (C' = none ∧ f'.cmd.length ≠ 2) ∨ (∃ b, C' = some ⟨b, 0, none⟩ ∧ w.heap.size ≤ b ∧ b < w'.heap.size ∧ (f'.cmd.length = 2 → w'.cell? ⟨b, 1, none⟩ = some (.int .u8 ((f'.cmd.getD 1 0).toNat : Int)))))
    (hA : (A' = A ∧ c' = c ∧ f'.body = f.body) ∨ (A' = none ∧ c' = 0 ∧ f'.body = [])) : RfIn w' p bin f' C' k' A' c' ∧ Step (rfOwn p C A) w (rfOwn p C' A') w' := by
  have hz := q.size
  have hb : Buf w' A' f'.body.length c' (Lib.byteCells f'.body) := by
    rcases hA with ⟨rfl, rfl, e⟩ | ⟨rfl, rfl, e⟩
    · rw [e]; exact h.buf.keep q (fun i hi e => h.ne (e ▸ hi))
    · rw [e]; exact Buf.nil _
  have hok : f'.body.length ≤ 40 := by
    rcases hA with ⟨_, _, e⟩ | ⟨_, _, e⟩
    · rw [e]; exact h.ok
    · rw [e]; simp
  have hAs : ∀ i, blk A' = some i → blk A = some i := by
    rcases hA with ⟨rfl, _, _⟩ | ⟨rfl, _, _⟩
    · exact fun i hi => hi
    · intro i hi; simp [blk] at hi
  have hCs : ∀ i, blk C' = some i → i < w'.heap.size ∧ (blk C = some i ∨ w.heap.size ≤ i) := by
    rcases hC with ⟨rfl, _⟩ | ⟨rfl, _⟩ | ⟨b, rfl, b1, b2, _⟩
    · exact fun i hi => ⟨Nat.lt_of_lt_of_le (h.ltC i hi) hz, .inl hi⟩
    · intro i hi; simp [blk] at hi
    · intro i hi
      have : b = i := by simpa [blk] using hi
      subst this
      exact ⟨b2, .inr b1⟩
  refine ⟨⟨hc, hb, fun e => ?_, fun i hi => (hCs i hi).1, fun e => h.ne (hAs p e), fun e => ?_, fun i hi e => ?_, hok⟩, ?_, ?_⟩
  · rcases hC with ⟨rfl, e1⟩ | ⟨_, e1⟩ | ⟨b, e1, _, _, e2⟩
    · rw [e1] at e ⊢
      obtain ⟨b, e2, e3⟩ := h.two e
      have hb : blk C' = some b := by rw [e2]; rfl
      exact ⟨b, e2, (q.cell (p := ⟨b, 1, none⟩) (h.ltC b hb) (fun x => h.neC (x ▸ hb))).trans e3⟩
    · exact absurd e e1
    · exact ⟨b, e1, e2 e⟩
  · rcases (hCs p e).2 with x | x
    · exact h.neC x
    · have := h.lt; omega
  · rcases (hCs i hi).2 with x | x
    · exact h.neA i x (hAs i e)
    · have := h.buf.lt (hAs i e); omega
  · exact q.mono (fun _ _ x => .inl x)
  · rintro i (rfl | hi | hi)
    · exact .inl (.inl rfl)
    · exact (hCs i hi).2.imp (fun x => .inr (.inl x)) id
    · exact .inl (.inr (.inr (hAs i hi)))
/-- Another row for the body. -/
theorem setBody (h : RfIn w p bin f C k A c) {w1 : World} (q : Keep (fun i => blk A = some i) w w1) {l : List UInt8} (hb : Buf w1 A' l.length c' (Lib.byteCells l)) (hl : l.length ≤ 40)
    (hat : ∀ i, blk A' = some i → blk A = some i ∨ w.heap.size ≤ i) :
    RfIn (w1.setCell ⟨p, 5, none⟩ (.slice A' l.length c')) p bin ⟨f.cr, f.cmd, f.inn, f.opt, l, f.long, f.iac⟩ C k A' c' ∧ Step (rfOwn p C A) w (rfOwn p C A') (w1.setCell ⟨p, 5, none⟩ (.slice A' l.length c')) := by
  have hn := h.ne
  have hne : blk A' ≠ some p := fun e => by
    rcases hat p e with x | x
    · exact hn x
    · have := h.lt; omega
  have q2 : Keep (rfOwn p C A) w (w1.setCell ⟨p, 5, none⟩ (.slice A' l.length c')) := (q.mono (fun _ _ x => .inr (.inr x))).setCell (fun _ => .inl rfl) _
  refine ⟨⟨(h.cs.keep q hn).set 5 (by simp [rfCells]) _, hb.keep (keep_set w1 p 5 _) (fun i hi e => hne (e ▸ hi)), fun e => ?_, fun i hi => Nat.lt_of_lt_of_le (h.ltC i hi) q2.size, hne, h.neC, fun i hi e => ?_, hl⟩, q2, ?_⟩
  · obtain ⟨b, e1, e2⟩ := h.two e
    have hb : blk C = some b := by rw [e1]; rfl
    have g1 : w1.cell? ⟨b, 1, none⟩ = w.cell? ⟨b, 1, none⟩ := q.cell (p := ⟨b, 1, none⟩) (h.ltC b hb) (fun x => h.neA b hb x)
    exact ⟨b, e1, ((keep_set w1 p 5 _).cell (p := ⟨b, 1, none⟩) (Nat.lt_of_lt_of_le (h.ltC b hb) q.size) (fun x => h.neC (x ▸ hb))).trans (g1.trans e2)⟩
  · rcases hat i e with x | x
    · exact h.neA i hi x
    · have := h.ltC i hi; omega
  · rintro i (rfl | hi | hi)
    · exact .inl (.inl rfl)
    · exact .inl (.inr (.inl hi))
    · exact (hat i hi).imp (fun x => .inr (.inr x)) id
end RfIn

/-- Behind a call that turns it. -/
def RfTo (p : Nat) (bin : Bool) (C A : Option Addr) (w : World) (f : Rf) (w' : World) : Prop := ∃ C' k' A' c', RfIn w' p bin f C' k' A' c' ∧ Step (rfOwn p C A) w (rfOwn p C' A') w'
/-- What a byte's call answers. -/
def FRes (p : Nat) (bin : Bool) (C A : Option Addr) (w : World) (y : Rf × List Tok) (e : Ending) (w' : World) : Prop :=
  ∃ v, e = .returned v ∧ w'.ownsRow w.heap.size 67 4 v y.2.length (toks y.2) ∧ ∃ C' k' A' c', RfIn w' p bin y.1 C' k' A' c' ∧ Step (rfOwn p C A) w (rfOwn p C' A') w' ∧ ∀ i, v.ownBlock = some i → ¬ rfOwn p C' A' i

section
variable {w w1 w2 : World} {p : Nat} {bin : Bool} {f f' : Rf} {C C1 A A1 : Option Addr} {k k1 c c1 : Nat}
theorem RfTo.of (h : RfIn w1 p bin f' C1 k1 A1 c1 ∧ Step (rfOwn p C A) w (rfOwn p C1 A1) w1) : RfTo p bin C A w f' w1 := ⟨_, _, _, _, h⟩
theorem FRes.row (h : RfTo p bin C A w f' w1) {v : Value} {l : List Tok} (hb : Below w1.heap.size w1 w2) (hr : w2.ownsRow w1.heap.size 67 4 v l.length (toks l)) : FRes p bin C A w (f', l) (.returned v) w2 := by
  obtain ⟨C', k', A', c', h1, s1⟩ := h
  refine ⟨v, rfl, own_base hr s1.1.size, C', k', A', c', h1.below hb, s1.trans (Step.of_keep (S := fun _ => False) (Keep.of_below _ hb) (fun _ x => x.elim)), fun i hi x => ?_⟩
  have h2 := (hr.lt i hi).1
  have h3 := h1.lto x
  omega
theorem FRes.nil (h : RfTo p bin C A w f' w1) : FRes p bin C A w (f', []) (.returned (.slice none 0 0)) w1 := FRes.row h (Below.refl _ _) (World.ownsRow_nil _ _ _ _)
theorem FRes.one (h : RfTo p bin C A w f' w1) (t : Tok) {T : ByteArray} (hT : T = ⟨t.text.toArray⟩) {n : Nat} (hn : w1.heap.size = n) :
    FRes p bin C A w (f', [t]) (.returned (.slice (some ⟨n, 0, none⟩) 1 1)) (w1.alloc (.cells #[.int .i64 t.kind, .int .i64 t.cmd, .int .i64 t.opt, .string T] 67)) := by
  subst hn
  refine FRes.row h ((Below.refl _ _).alloc (Nat.le_refl _) _) ?_
  have := World.ownsRow_lit (e := 67) (size := 4) w1 #[.int .i64 t.kind, .int .i64 t.cmd, .int .i64 t.opt, .string T] 1 (Nat.le_refl _) (by decide) rfl
  rw [toks_one, Tok.cells, ← hT]
  exact this
theorem FRes.of (s : Step (rfOwn p C A) w (rfOwn p C1 A1) w1) {y : Rf × List Tok} {e : Ending} (h : FRes p bin C1 A1 w1 y e w2) : FRes p bin C A w y e w2 := by
  obtain ⟨v, e1, hr, C', k', A', c', h1, s1, hn⟩ := h
  exact ⟨v, e1, own_base hr s.1.size, C', k', A', c', h1, s.trans s1, hn⟩
end

theorem buf_lit (w : World) (b : UInt8) (t : TypeId) : Buf (w.alloc (.cells #[.int .u8 (b.toNat : Int)] t)) (some ⟨w.heap.size, 0, none⟩) [b].length 1 (Lib.byteCells [b]) :=
  Buf.of_own (World.ownsRow_lit (e := t) (size := 1) w #[.int .u8 (b.toNat : Int)] 1 (Nat.le_refl _) (by decide) rfl)

set_option maxHeartbeats 400000 in
theorem data_ref (b : UInt8) (w : World) :
    Calls Try.prog 52 #[.int .u8 (b.toNat : Int)] w fun e w' => ∃ v, e = .returned v ∧ w'.ownsRow w.heap.size 67 4 v (dataR b).length (toks (dataR b)) ∧ Below w.heap.size w w' := by
  obtain ⟨T, hT⟩ : ∃ T : ByteArray, T = ⟨[b].toArray⟩ := ⟨_, rfl⟩
  have hcv : (convert 58 9 (.slice (some ⟨w.heap.size, 0, none⟩) 1 1)).run Try.prog (w.alloc (.cells #[.int .u8 (b.toNat : Int)] 5)) = .ok (.string T) (w.alloc (.cells #[.int .u8 (b.toNat : Int)] 5)) := by
    have := run_buf_string (P := Try.prog) 58 9 5 (buf_lit w b 5) Try.underlying58 Try.underlying5 Try.underlying9 1 (Nat.le_refl _)
    rw [show List.take 1 [b] = [b] from rfl, ← hT] at this
    exact this
  have HT := Lib.hid hT
  clear hT
  go_enter Try.func52, Try.ntmps52
  go_wp2_with fail
  go_ret
  refine ⟨_, rfl, ?_, (((Below.refl w.heap.size w).alloc (Nat.le_refl _) _).alloc (by simp) _)⟩
  have h1 := World.ownsRow_lit (base := w.heap.size) (e := 67) (size := 4) (w.alloc (.cells #[.int .u8 (b.toNat : Int)] 5)) #[.int .i64 0, .int .i64 0, .int .i64 0, .string T] 1 (by simp) (by decide) rfl
  rw [dataR, toks_one, Tok.cells, ← HT.out]
  simp at h1 ⊢
  exact h1

theorem u8_int (b n : UInt8) : ((b.toNat : Int) == (n.toNat : Int)) = decide (b = n) := by
  by_cases h : b = n
  · subst h; simp
  · have : ¬ (b.toNat : Int) = (n.toNat : Int) := fun e => h (UInt8.toNat_inj.1 (by omega))
    simp [h, this]

set_option maxRecDepth 100000 in
set_option maxHeartbeats 800000 in
theorem command_ref (p : Nat) (bin : Bool) (f : Rf) (C : Option Addr) (k : Nat) (A : Option Addr) (c : Nat) (b : UInt8) (w : World) (h : RfIn w p bin f C k A c) :
    Calls Try.prog 53 #[.pointer (some ⟨p, 0, none⟩), .int .u8 (b.toNat : Int)] w (FRes p bin C A w (commandR f b)) := by
  have c2 := (h.cs 2 _ rfl).1
  have f2 := (h.cs 2 _ rfl).2
  have hp := h.lt
  have b0 : (0 : Int) ≤ (b.toNat : Int) := by omega
  have b1 : (b.toNat : Int) ≤ 255 := by have := b.toNat_lt; omega
  have HF := Lib.hid (RfTo.of (h.turn (f' := ⟨f.cr, [], f.inn, f.opt, f.body, f.long, f.iac⟩) (C' := none) (k' := 0) (A' := A) (c' := c) (keep_set w p 2 _) (h.cs.set 2 (by simp [rfCells]) (.slice none 0 0)) (.inr (.inl ⟨rfl, by simp⟩)) (.inl ⟨rfl, rfl, rfl⟩)))
  by_cases h255 : b = 255
  · have e1 : ((b.toNat : Int) == 255) = true := by exact (u8_int b 255).trans (by simp [h255])
    have HR := Lib.hid (show commandR f b = (⟨f.cr, [], f.inn, f.opt, f.body, f.long, f.iac⟩, dataR b) from if_pos h255)
    rw [HR.out]
    clear h h255
    go_enter Try.func53, Try.ntmps53
    go_wp2_with fail
    refine (data_ref b _).mono ?_
    rintro e w2 ⟨v, rfl, hr, hb⟩
    have HH := Lib.hid (FRes.row HF.out hb hr)
    clear hr hb
    go_wp2_with fail
    go_ret
    exact HH.out
  · have e1 : ((b.toNat : Int) == 255) = false := by exact (u8_int b 255).trans (by simp [h255])
    by_cases h250 : 250 ≤ b
    · have e2 : (250 : Int) ≤ (b.toNat : Int) := by rw [UInt8.le_iff_toNat_le] at h250; have : (250 : UInt8).toNat = 250 := rfl; omega
      have HR := Lib.hid (show commandR f b = (⟨f.cr, [255, b], f.inn, f.opt, f.body, f.long, f.iac⟩, []) by unfold commandR; rw [if_neg h255, if_pos h250])
      rw [HR.out]
      have H := Lib.hid h
      clear h h255 h250
      go_enter Try.func53, Try.ntmps53
      go_wp2_with fail
      go_ret
      refine FRes.nil (RfTo.of (H.out.turn (C' := some ⟨w.heap.size, 0, none⟩) (k' := 2) (A' := A) (c' := c) (((keep_set w p 2 _).own 2 _).alloc _) (((H.out.cs.set 2 (by simp [rfCells]) _).set 2 (by simp [rfCells]) _).alloc _) (.inr (.inr ⟨_, rfl, Nat.le_refl _, by simp, fun _ => ?_⟩)) (.inl ⟨rfl, rfl, rfl⟩)))
      exact cells_new _ [.int .u8 255, .int .u8 (b.toNat : Int)] _ _ (by simp) 1 _ rfl
    · have e2 : ¬ (250 : Int) ≤ (b.toNat : Int) := by rw [UInt8.le_iff_toNat_le] at h250; have : (250 : UInt8).toNat = 250 := rfl; omega
      have HR := Lib.hid (show commandR f b = (⟨f.cr, [], f.inn, f.opt, f.body, f.long, f.iac⟩, [⟨1, b.toNat, 0, []⟩]) by unfold commandR; rw [if_neg h255, if_neg h250])
      rw [HR.out]
      clear h h255 h250
      go_enter Try.func53, Try.ntmps53
      go_wp2_with fail
      go_ret
      exact FRes.one HF.out ⟨1, b.toNat, 0, []⟩ rfl (by simp)

end Go.Proofs.Ytopgejjencoelaa
