/- nvt.Reader and nvt.answer in memory. Own work. -/
import Derived.Test.YtopgejjencoelaaNvtM
import Derived.Test.YtopgejjencoelaaBase
namespace Go.Proofs.Ytopgejjencoelaa
set_option linter.unusedVariables false
set_option linter.unusedSimpArgs false
open Go.RowKit

/-- A Reader behind a pointer; A is its text's row. -/
structure RdIn (w : World) (p : Nat) (bin made : Bool) (r : Rd) (A : Option Addr) (c : Nat) : Prop where
  c0 : Cell w p 0 (.bool bin)
  o0 : Cell w p 1 (.int .u32 (if made = true then 1 else 0))
  o1 : Cell w p 2 (.int .i32 0)
  tab : ∀ i, i < 98 → ∃ v, Cell w p (4 + i) v ∧ (made = true → v = .int .u8 ((tabL.getD i 0 : Nat) : Int))
  c1 : Cell w p 102 (.int .u8 (r.at' : Int))
  c2 : Cell w p 103 (.int .i64 r.cmd)
  c3 : Cell w p 104 (.int .i64 r.opt)
  c4 : Cell w p 105 (.slice A r.text.length c)
  c5 : Cell w p 106 (.bool r.long)
  buf : Buf w A r.text.length c (Lib.byteCells r.text)
  ne : blk A ≠ some p
  ok : r.Ok

/-- What a Reader owns. -/
def rdOwn (p : Nat) (A : Option Addr) : Nat → Prop := fun k => k = p ∨ blk A = some k

namespace RdIn
variable {w w' : World} {p : Nat} {bin made : Bool} {r : Rd} {A : Option Addr} {c : Nat}
theorem lt (h : RdIn w p bin made r A c) : p < w.heap.size := h.c0.lt
theorem ltA (h : RdIn w p bin made r A c) {k : Nat} (hk : blk A = some k) : k < w.heap.size := h.buf.lt hk
theorem lto (h : RdIn w p bin made r A c) {k : Nat} (hk : rdOwn p A k) : k < w.heap.size := by
  rcases hk with rfl | hk
  · exact h.lt
  · exact h.ltA hk
theorem keep {S : Nat → Prop} (h : RdIn w p bin made r A c) (k : Keep S w w') (hn : ∀ i, rdOwn p A i → ¬ S i) : RdIn w' p bin made r A c :=
  have hp : ¬ S p := hn p (.inl rfl)
  ⟨h.c0.keep k hp, h.o0.keep k hp, h.o1.keep k hp, fun i hi => by obtain ⟨v, a, b⟩ := h.tab i hi; exact ⟨v, a.keep k hp, b⟩, h.c1.keep k hp, h.c2.keep k hp, h.c3.keep k hp, h.c4.keep k hp, h.c5.keep k hp,
    h.buf.keep k (fun i hi => hn i (.inr hi)), h.ne, h.ok⟩
theorem drewN (h : RdIn w p bin made r A c) (n : Nat) : RdIn (w.drewN n) p bin made r A c := h.keep (S := fun _ => False) ((Keep.refl _ w).drewN n) (fun _ _ x => x)
theorem alloc (h : RdIn w p bin made r A c) (o : Obj) : RdIn (w.alloc o) p bin made r A c := h.keep (S := fun _ => False) ((Keep.refl _ w).alloc o) (fun _ _ x => x)
theorem below (h : RdIn w p bin made r A c) (k : Below w.heap.size w w') : RdIn w' p bin made r A c := h.keep (S := fun _ => False) (Keep.of_below _ k) (fun _ _ x => x)

theorem goes (h : RdIn w p bin made r A c) {s : Nat} (hs : s < 7) : RdIn (w.setCell ⟨p, 102, none⟩ (.int .u8 (s : Int))) p bin made (r.goes s) A c :=
  ⟨h.c0.far (by omega) _, h.o0.far (by omega) _, h.o1.far (by omega) _, fun i hi => by obtain ⟨v, a, b⟩ := h.tab i hi; exact ⟨v, a.far (by omega) _, b⟩, h.c1.set _, h.c2.far (by omega) _, h.c3.far (by omega) _, h.c4.far (by omega) _, h.c5.far (by omega) _,
    h.buf.keep (keep_set w p 102 _) (fun i hi e => h.ne (e ▸ hi)), h.ne, ⟨hs, h.ok.2⟩⟩
theorem setOpt (h : RdIn w p bin made r A c) (o : Int) : RdIn (w.setCell ⟨p, 104, none⟩ (.int .i64 o)) p bin made ⟨r.at', r.cmd, o, r.text, r.long⟩ A c :=
  ⟨h.c0.far (by omega) _, h.o0.far (by omega) _, h.o1.far (by omega) _, fun i hi => by obtain ⟨v, a, b⟩ := h.tab i hi; exact ⟨v, a.far (by omega) _, b⟩, h.c1.far (by omega) _, h.c2.far (by omega) _, h.c3.set _, h.c4.far (by omega) _, h.c5.far (by omega) _,
    h.buf.keep (keep_set w p 104 _) (fun i hi e => h.ne (e ▸ hi)), h.ne, h.ok⟩
theorem setLong (h : RdIn w p bin made r A c) (o : Bool) : RdIn (w.setCell ⟨p, 106, none⟩ (.bool o)) p bin made ⟨r.at', r.cmd, r.opt, r.text, o⟩ A c :=
  ⟨h.c0.far (by omega) _, h.o0.far (by omega) _, h.o1.far (by omega) _, fun i hi => by obtain ⟨v, a, b⟩ := h.tab i hi; exact ⟨v, a.far (by omega) _, b⟩, h.c1.far (by omega) _, h.c2.far (by omega) _, h.c3.far (by omega) _, h.c4.far (by omega) _, h.c5.set _,
    h.buf.keep (keep_set w p 106 _) (fun i hi e => h.ne (e ▸ hi)), h.ne, h.ok⟩
theorem setCmd (h : RdIn w p bin made r A c) (o : Int) : RdIn (w.setCell ⟨p, 103, none⟩ (.int .i64 o)) p bin made ⟨r.at', o, r.opt, r.text, r.long⟩ A c :=
  ⟨h.c0.far (by omega) _, h.o0.far (by omega) _, h.o1.far (by omega) _, fun i hi => by obtain ⟨v, a, b⟩ := h.tab i hi; exact ⟨v, a.far (by omega) _, b⟩, h.c1.far (by omega) _, h.c2.set _, h.c3.far (by omega) _, h.c4.far (by omega) _, h.c5.far (by omega) _,
    h.buf.keep (keep_set w p 103 _) (fun i hi e => h.ne (e ▸ hi)), h.ne, h.ok⟩
/-- Another row for the text. -/
theorem setText (h : RdIn w p bin made r A c) {w1 : World} (k : Keep (fun i => blk A = some i) w w1) {A2 : Option Addr} {c2 : Nat} {l : List UInt8} (hb : Buf w1 A2 l.length c2 (Lib.byteCells l)) (hl : l.length ≤ 40)
    (hat : ∀ i, blk A2 = some i → blk A = some i ∨ w.heap.size ≤ i) :
    RdIn (w1.setCell ⟨p, 105, none⟩ (.slice A2 l.length c2)) p bin made ⟨r.at', r.cmd, r.opt, l, r.long⟩ A2 c2 ∧ Step (rdOwn p A) w (rdOwn p A2) (w1.setCell ⟨p, 105, none⟩ (.slice A2 l.length c2)) := by
  have hn := h.ne
  have hne : blk A2 ≠ some p := fun e => by
    rcases hat p e with x | x
    · exact hn x
    · have := h.lt; omega
  refine ⟨⟨(h.c0.keep k hn).far (by omega) _, (h.o0.keep k hn).far (by omega) _, (h.o1.keep k hn).far (by omega) _, fun i hi => by obtain ⟨v, a, b⟩ := h.tab i hi; exact ⟨v, (a.keep k hn).far (by omega) _, b⟩, (h.c1.keep k hn).far (by omega) _, (h.c2.keep k hn).far (by omega) _, (h.c3.keep k hn).far (by omega) _, (h.c4.keep k hn).set _, (h.c5.keep k hn).far (by omega) _,
    hb.keep (keep_set w1 p 105 _) (fun i hi e => hne (e ▸ hi)), hne, ⟨h.ok.1, hl⟩⟩, ?_, ?_⟩
  · exact (k.mono (fun _ _ x => .inr x)).setCell (fun _ => .inl rfl) _
  · rintro i (rfl | hi)
    · exact .inl (.inl rfl)
    · exact (hat i hi).imp .inr id
/-- begun{..}: its four cells anew. -/
theorem anew (h : RdIn w p bin made r A c) (o : Int) :
    RdIn ((((w.setCell ⟨p, 103, none⟩ (.int .i64 o)).setCell ⟨p, 104, none⟩ (.int .i64 0)).setCell ⟨p, 105, none⟩ (.slice none 0 0)).setCell ⟨p, 106, none⟩ (.bool false)) p bin made ⟨r.at', o, 0, [], false⟩ none 0 ∧
      Step (rdOwn p A) w (rdOwn p none) ((((w.setCell ⟨p, 103, none⟩ (.int .i64 o)).setCell ⟨p, 104, none⟩ (.int .i64 0)).setCell ⟨p, 105, none⟩ (.slice none 0 0)).setCell ⟨p, 106, none⟩ (.bool false)) := by
  have h2 := (h.setCmd o).setOpt 0
  have h3 := h2.setText (Keep.refl _ _) (Buf.nil _) (l := []) (by simp) (by simp [blk])
  refine ⟨h3.1.setLong false, ?_, ?_⟩
  · have : Keep (· = p) w ((((w.setCell ⟨p, 103, none⟩ (.int .i64 o)).setCell ⟨p, 104, none⟩ (.int .i64 0)).setCell ⟨p, 105, none⟩ (.slice none 0 0)).setCell ⟨p, 106, none⟩ (.bool false)) := (((keep_set w p 103 _).own 104 _).own 105 _).own 106 _
    exact this.mono (fun _ _ x => .inl x)
  · rintro i (rfl | hi)
    · exact .inl (.inl rfl)
    · simp [blk] at hi
theorem step_of (h : RdIn w p bin made r A c) (k : Keep (· = p) w w') : Step (rdOwn p A) w (rdOwn p A) w' := Step.of_keep k (fun _ x => .inl x)
end RdIn

/-- An answer behind a pointer; v is its tokens, B its bytes' row. -/
structure AnIn (w : World) (q base : Nat) (a : An) (v : Value) (B : Option Addr) (c : Nat) : Prop where
  c0 : Cell w q 0 v
  c1 : Cell w q 1 (.slice B a.bytes.length c)
  row : w.ownsRow base 67 4 v a.told.length (toks a.told)
  buf : Buf w B a.bytes.length c (Lib.byteCells a.bytes)
  ne0 : v.ownBlock ≠ some q
  ne1 : blk B ≠ some q
  ne2 : ∀ k, v.ownBlock = some k → blk B ≠ some k

/-- What an answer owns. -/
def anOwn (q : Nat) (v : Value) (B : Option Addr) : Nat → Prop := fun k => k = q ∨ v.ownBlock = some k ∨ blk B = some k

namespace AnIn
variable {w w' : World} {q base : Nat} {a : An} {v : Value} {B : Option Addr} {c : Nat}
theorem lt (h : AnIn w q base a v B c) : q < w.heap.size := h.c0.lt
theorem ltv (h : AnIn w q base a v B c) {k : Nat} (hk : v.ownBlock = some k) : k < w.heap.size := own_lt h.row hk
theorem ltB (h : AnIn w q base a v B c) {k : Nat} (hk : blk B = some k) : k < w.heap.size := h.buf.lt hk
theorem lto (h : AnIn w q base a v B c) {k : Nat} (hk : anOwn q v B k) : k < w.heap.size := by
  rcases hk with rfl | hk | hk
  · exact h.lt
  · exact h.ltv hk
  · exact h.ltB hk
theorem keep {S : Nat → Prop} (h : AnIn w q base a v B c) (k : Keep S w w') (hn : ∀ i, anOwn q v B i → ¬ S i) : AnIn w' q base a v B c :=
  ⟨h.c0.keep k (hn q (.inl rfl)), h.c1.keep k (hn q (.inl rfl)), own_keep h.row k (fun i hi => hn i (.inr (.inl hi))), h.buf.keep k (fun i hi => hn i (.inr (.inr hi))), h.ne0, h.ne1, h.ne2⟩
theorem drewN (h : AnIn w q base a v B c) (n : Nat) : AnIn (w.drewN n) q base a v B c := h.keep (S := fun _ => False) ((Keep.refl _ w).drewN n) (fun _ _ x => x)
theorem alloc (h : AnIn w q base a v B c) (o : Obj) : AnIn (w.alloc o) q base a v B c := h.keep (S := fun _ => False) ((Keep.refl _ w).alloc o) (fun _ _ x => x)
theorem below (h : AnIn w q base a v B c) (k : Below w.heap.size w w') : AnIn w' q base a v B c := h.keep (S := fun _ => False) (Keep.of_below _ k) (fun _ _ x => x)
/-- Another row for the bytes. -/
theorem setBytes (h : AnIn w q base a v B c) {w1 : World} (k : Keep (fun i => blk B = some i) w w1) {B2 : Option Addr} {c2 : Nat} {l : List UInt8} (hb : Buf w1 B2 l.length c2 (Lib.byteCells l))
    (hat : ∀ i, blk B2 = some i → blk B = some i ∨ w.heap.size ≤ i) :
    AnIn (w1.setCell ⟨q, 1, none⟩ (.slice B2 l.length c2)) q base ⟨a.told, l⟩ v B2 c2 ∧ Step (anOwn q v B) w (anOwn q v B2) (w1.setCell ⟨q, 1, none⟩ (.slice B2 l.length c2)) := by
  have hn := h.ne1
  have hne : blk B2 ≠ some q := fun e => by
    rcases hat q e with x | x
    · exact hn x
    · have := h.lt; omega
  refine ⟨⟨(h.c0.keep k hn).far (by omega) _, (h.c1.keep k hn).set _, own_keep (own_keep h.row k (fun i hi => h.ne2 i hi)) (keep_set w1 q 1 _) (fun i hi e => h.ne0 (e ▸ hi)), hb.keep (keep_set w1 q 1 _) (fun i hi e => hne (e ▸ hi)), h.ne0, hne, fun i hi e => ?_⟩, ?_, ?_⟩
  · rcases hat i e with x | x
    · exact h.ne2 i hi x
    · have := h.ltv hi; omega
  · exact (k.mono (fun _ _ x => .inr (.inr x))).setCell (fun _ => .inl rfl) _
  · rintro i (rfl | hi | hi)
    · exact .inl (.inl rfl)
    · exact .inl (.inr (.inl hi))
    · exact (hat i hi).imp (fun x => .inr (.inr x)) id
/-- Another row for the tokens. -/
theorem setToks (h : AnIn w q base a v B c) {w1 : World} (k : Keep (fun i => v.ownBlock = some i) w w1) {v2 : Value} {l : List Tok} (hr : w1.ownsRow base 67 4 v2 l.length (toks l))
    (hat : ∀ i, v2.ownBlock = some i → v.ownBlock = some i ∨ w.heap.size ≤ i) :
    AnIn (w1.setCell ⟨q, 0, none⟩ v2) q base ⟨l, a.bytes⟩ v2 B c ∧ Step (anOwn q v B) w (anOwn q v2 B) (w1.setCell ⟨q, 0, none⟩ v2) := by
  have hn := h.ne0
  have hne : v2.ownBlock ≠ some q := fun e => by
    rcases hat q e with x | x
    · exact hn x
    · have := h.lt; omega
  refine ⟨⟨(h.c0.keep k hn).set _, (h.c1.keep k hn).far (by omega) _, own_keep hr (keep_set w1 q 0 _) (fun i hi e => hne (e ▸ hi)), (h.buf.keep k (fun i hi e => h.ne2 i e hi)).keep (keep_set w1 q 0 _) (fun i hi e => h.ne1 (e ▸ hi)), hne, h.ne1, fun i hi e => ?_⟩, ?_, ?_⟩
  · rcases hat i hi with x | x
    · exact h.ne2 i x e
    · have := h.ltB e; omega
  · exact (k.mono (fun _ _ x => .inr (.inl x))).setCell (fun _ => .inl rfl) _
  · rintro i (rfl | hi | hi)
    · exact .inl (.inl rfl)
    · exact (hat i hi).imp (fun x => .inr (.inl x)) id
    · exact .inl (.inr (.inr hi))
end AnIn

/-- A step in which nothing that was owned is given away. -/
theorem Step.apart {o o' p : Nat → Prop} {w w' : World} (h : Step o w o' w') (hp : ∀ i, p i → i < w.heap.size ∧ ¬ o i) : ∀ i, p i → ¬ o' i := fun i hi ho => by
  rcases h.2 i ho with x | x
  · exact (hp i hi).2 x
  · have := (hp i hi).1; omega

theorem token_info : (Try.prog.info? 67).map (fun i => (i.zero, i.size, i.bytes)) = some (some (.agg #[.int .i64 0, .int .i64 0, .int .i64 0, .string .empty]), 4, 40) := by kernel_rfl

end Go.Proofs.Ytopgejjencoelaa
