/- nvt.answer: data, endData, tell, all; begun.keep. Own work. -/
import Derived.Test.YtopgejjencoelaaRdr
import Derived.RegionTactic
import Derived.RegionCalls
import Derived.Deep.RegionHeldLaw
import Derived.Deep.RegionLaw
namespace Go.Proofs.Ytopgejjencoelaa
set_option linter.unusedVariables false
set_option linter.unusedSimpArgs false
open Go.RowKit

/-- Behind a call that turns a Reader alone. -/
def RdTo (p : Nat) (bin made : Bool) (A : Option Addr) (w : World) (r : Rd) (w' : World) : Prop := ∃ A' c', RdIn w' p bin made r A' c' ∧ Step (rdOwn p A) w (rdOwn p A') w'
/-- Behind a call that turns an answer alone. -/
def AnTo (q base : Nat) (v : Value) (B : Option Addr) (w : World) (a : An) (w' : World) : Prop := ∃ v' B' c', AnIn w' q base a v' B' c' ∧ Step (anOwn q v B) w (anOwn q v' B') w'

theorem endA_len (a : An) : (endA a).told.length ≤ a.told.length + 1 := by
  unfold endA
  split
  · exact Nat.le_succ _
  · simp

theorem one_byte (b : Int) : ∀ u ∈ [Value.int .u8 b], u.oneCell' = true := by
  intro u hu
  simp at hu
  subst hu
  rfl

set_option maxRecDepth 100000 in
set_option maxHeartbeats 800000 in
theorem keep_any (p : Nat) (bin made : Bool) (r : Rd) (A : Option Addr) (c : Nat) (b : UInt8) (w : World) (h : RdIn w p bin made r A c) :
    Calls Try.prog 60 #[.pointer (some ⟨p, 103, none⟩), .int .u8 (b.toNat : Int)] w fun e w' => e = .returned (.tuple #[]) ∧ RdTo p bin made A w (keepR r b) w' := by
  obtain ⟨i0, hi, hz0, hz1, hz2⟩ := info_parts byte_info
  have c4 := h.c4.1
  have f4 := h.c4.2
  have c5 := h.c5.1
  have f5 := h.c5.2
  have hl := h.ok.2
  have H := Lib.hid h
  have HP := Lib.hid h.lt
  clear h
  by_cases hf : r.text.length = 40
  · have hk : keepR r b = ⟨r.at', r.cmd, r.opt, r.text, true⟩ := if_pos hf
    rw [hk]
    have ht : ((r.text.length : Int) == 40) = true := by simp; omega
    clear hk hf hl
    go_enter Try.func60, Try.ntmps60
    go_wp2_with fail
    exact bodyPost_ret (v := .tuple #[]) (results_none rfl _ _ _) rfl ⟨rfl, A, c, H.out.setLong true, H.out.step_of (keep_set w p 106 _)⟩
  · have hk : keepR r b = ⟨r.at', r.cmd, r.opt, r.text ++ [b], r.long⟩ := if_neg hf
    rw [hk]
    have ht : ((r.text.length : Int) == 40) = false := by simp; omega
    have hl2 := Lib.hid (show r.text.length + 1 ≤ 40 by omega)
    clear hk hf hl
    go_enter Try.func60, Try.ntmps60
    go_wp2_with (at_builtin; refine wpList_append_buf _ rfl (.tmp 17) (.tmp 19) 58 rfl 5 i0 (.int .u8 0) 1 Try.underlying58 hi hz0 hz1 hz2 rfl rfl (H.out.alloc _).buf [.int .u8 (b.toNat : Int)] rfl (src_one _ _ _ rfl) (one_byte _) ?c3 ?c4 ?_)
    case c3 => have := hl2.out; unfold maxLen; omega
    case c4 => have := hl2.out; omega
    · intro A2 c2 w2 hb hk hat
      have hk' : Keep (fun k => blk A = some k) w w2 := ((Keep.refl _ w).alloc _).trans hk (fun _ _ x => x)
      have e1 : (r.text ++ [b]).length = r.text.length + 1 := by simp
      have e2 : Lib.byteCells (r.text ++ [b]) = Lib.byteCells r.text ++ [.int .u8 (b.toNat : Int)] := by simp [Lib.byteCells]
      have hb' : Buf w2 A2 (r.text ++ [b]).length c2 (Lib.byteCells (r.text ++ [b])) := by rw [e1, e2]; exact hb
      have HF := Lib.hid (H.out.setText hk' hb' (by rw [e1]; exact hl2.out) (fun i hi => (hat i hi).imp id (fun x => by omega)))
      have g4 := (H.out.c4.keep hk' H.out.ne).1
      have k4 := (H.out.c4.keep hk' H.out.ne).2
      rw [e1] at HF
      clear hb hk hk' hat e1 e2 hb'
      go_wp2_with fail
      go_end0
      exact ⟨rfl, A2, c2, HF.out.1, HF.out.2⟩

set_option maxRecDepth 100000 in
set_option maxHeartbeats 800000 in
theorem data_any (q base : Nat) (a : An) (v : Value) (B : Option Addr) (c : Nat) (b : UInt8) (w : World) (h : AnIn w q base a v B c) (hl : a.bytes.length ≤ 1099511627776) :
    Calls Try.prog 58 #[.pointer (some ⟨q, 0, none⟩), .int .u8 (b.toNat : Int)] w fun e w' => e = .returned (.tuple #[]) ∧ AnTo q base v B w (dataA a b) w' := by
  obtain ⟨i0, hi, hz0, hz1, hz2⟩ := info_parts byte_info
  have c1 := h.c1.1
  have f1 := h.c1.2
  have H := Lib.hid h
  have HP := Lib.hid h.lt
  have HL := Lib.hid hl
  clear h hl
  go_enter Try.func58, Try.ntmps58
  go_wp2_with (at_builtin; refine wpList_append_buf _ rfl (.tmp 8) (.tmp 10) 58 rfl 5 i0 (.int .u8 0) 1 Try.underlying58 hi hz0 hz1 hz2 rfl rfl (H.out.alloc _).buf [.int .u8 (b.toNat : Int)] rfl (src_one _ _ _ rfl) (one_byte _) ?c3 ?c4 ?_)
  case c3 => have := HL.out; unfold maxLen; omega
  case c4 => have := HL.out; omega
  · intro B2 c2 w2 hb hk hat
    have hk' : Keep (fun k => blk B = some k) w w2 := ((Keep.refl _ w).alloc _).trans hk (fun _ _ x => x)
    have e1 : (a.bytes ++ [b]).length = a.bytes.length + 1 := by simp
    have e2 : Lib.byteCells (a.bytes ++ [b]) = Lib.byteCells a.bytes ++ [.int .u8 (b.toNat : Int)] := by simp [Lib.byteCells]
    have hb' : Buf w2 B2 (a.bytes ++ [b]).length c2 (Lib.byteCells (a.bytes ++ [b])) := by rw [e1, e2]; exact hb
    have HF := Lib.hid (H.out.setBytes hk' hb' (fun i hi => (hat i hi).imp id (fun x => by omega)))
    have g4 := (H.out.c1.keep hk' H.out.ne1).1
    have k4 := (H.out.c1.keep hk' H.out.ne1).2
    rw [e1] at HF
    clear hb hk hk' hat e1 e2 hb'
    go_wp2_with fail
    go_end0
    exact ⟨rfl, v, B2, c2, HF.out.1, HF.out.2⟩

theorem Buf.cut {w : World} {A : Option Addr} {n c : Nat} {xs : List Value} (h : Buf w A n c xs) (k : Nat) (hk : k ≤ n) : Buf w A k c (xs.take k) := by
  rcases h with ⟨rfl, rfl, rfl, rfl⟩ | ⟨b, off, rfl, hb, h⟩
  · have : k = 0 := by omega
    subst this
    exact .inl ⟨rfl, rfl, rfl, rfl⟩
  · exact .inr ⟨b, off, rfl, hb, h.take k hk⟩

theorem one_tok (k c o : Int) (T : ByteArray) : ∀ u ∈ [Value.int .i64 k, .int .i64 c, .int .i64 o, .string T], u.oneCell' = true := by
  intro u hu
  simp at hu
  rcases hu with rfl | rfl | rfl | rfl <;> rfl

/-- Behind a token that was appended. -/
theorem AnIn.more {w w1 : World} {q base : Nat} {a : An} {V B : Option Addr} {cv c : Nat} (h : AnIn w q base a (.slice V a.told.length cv) B c) (t : Tok) {V2 : Option Addr} {k2 : Nat}
    (hown : w1.ownsRow base 67 4 (.slice V2 (a.told.length + 1) k2) (a.told.length + 1) (toks a.told ++ t.cells)) (k : Keep (fun i => Value.ownBlock (.slice V a.told.length cv) = some i) w w1)
    (hat : ∀ i, Value.ownBlock (.slice V2 (a.told.length + 1) k2) = some i → Value.ownBlock (.slice V a.told.length cv) = some i ∨ w.heap.size ≤ i) :
    AnIn (w1.setCell ⟨q, 0, none⟩ (.slice V2 (a.told.length + 1) k2)) q base ⟨a.told ++ [t], a.bytes⟩ (.slice V2 (a.told.length + 1) k2) B c ∧ Step (anOwn q (.slice V a.told.length cv) B) w (anOwn q (.slice V2 (a.told.length + 1) k2) B) (w1.setCell ⟨q, 0, none⟩ (.slice V2 (a.told.length + 1) k2)) := by
  refine h.setToks k (l := a.told ++ [t]) ?_ hat
  rw [List.length_append, toks_add, toks_one]
  exact hown
theorem AnIn.cut {w : World} {q base : Nat} {a : An} {v : Value} {B : Option Addr} {c : Nat} (h : AnIn w q base a v B c) :
    AnIn (w.setCell ⟨q, 1, none⟩ (.slice B 0 c)) q base ⟨a.told, []⟩ v B c ∧ Step (anOwn q v B) w (anOwn q v B) (w.setCell ⟨q, 1, none⟩ (.slice B 0 c)) :=
  h.setBytes (Keep.refl _ _) (l := []) (h.buf.cut 0 (Nat.zero_le _)) (fun _ x => .inl x)

set_option maxRecDepth 100000 in
set_option maxHeartbeats 1600000 in
theorem end_some (q base : Nat) (a : An) (v : Value) (B : Option Addr) (c : Nat) (w : World) (h : AnIn w q base a v B c) (hl : a.bytes.length ≤ 1099511627776) (ht : a.told.length ≤ 1099511627776) (hb : base ≤ w.heap.size) (hne : a.bytes ≠ []) :
    Calls Try.prog 48 #[.pointer (some ⟨q, 0, none⟩)] w fun e w' => e = .returned (.tuple #[]) ∧ AnTo q base v B w (endA a) w' := by
  obtain ⟨V, cv, rfl, _⟩ := own_form h.row
  obtain ⟨i0, hi, hz0, hz1, hz2⟩ := info_parts token_info
  have c0 := h.c0.1
  have f0 := h.c0.2
  have c1 := h.c1.1
  have f1 := h.c1.2
  have hgt : (0 : Int) < (a.bytes.length : Int) := by have := List.length_pos_iff.2 hne; omega
  have HB := Lib.hid hb
  have HL := Lib.hid hl
  have HT := Lib.hid ht
  have H := Lib.hid h
  have hq : q < w.heap.size := h.lt
  have HN := Lib.hid hne
  obtain ⟨T, hT⟩ : ∃ T : ByteArray, T = ⟨a.bytes.toArray⟩ := ⟨_, rfl⟩
  have hcv : (convert 58 9 (.slice B a.bytes.length c)).run Try.prog w.drew = .ok (.string T) w.drew := by
    have := run_buf_string (P := Try.prog) 58 9 5 h.buf.drew Try.underlying58 Try.underlying5 Try.underlying9 a.bytes.length (Nat.le_refl _)
    rw [List.take_of_length_le (Nat.le_refl _), ← hT] at this
    exact this
  have HTT := Lib.hid hT
  clear h hl hb ht hne hT
  go_enter Try.func48, Try.ntmps48
  go_wp2_with fail
  go_region_law (first | (refine step_own_at _ (by rfl) (.tmp 12) (.tmp 19) 64 (by rfl) base 67 i0 _ 4 40 Try.underlying64 hi hz0 hz1 hz2 (by rfl) (by decide) (.slice V a.told.length cv) a.told.length (toks a.told) (by rfl) (own_keep H.out.row (((Keep.refl (fun _ => False) w).alloc _).drew) (fun _ _ x => x)) ⟨w.heap.size, 0, none⟩ 1 1 [.int .i64 0, .int .i64 0, .int .i64 0, .string T] (by rfl) (by rfl) (fun j u hj => cells_new w _ _ _ rfl j u hj) (one_tok 0 0 0 T) (by have := HT.out; unfold maxLen; omega) (by have := HT.out; omega) (by have := HB.out; simp; omega) ?_; intro v2 w2 hown hkeep hat; obtain ⟨V2, k2, rfl, _⟩ := own_form hown; have kk := (((Keep.refl (fun k => Value.ownBlock (.slice V a.told.length cv) = some k) w).alloc _).drew).trans hkeep (fun _ _ x => x); have d0 := (H.out.c0.keep kk H.out.ne0).1; have e0 := (H.out.c0.keep kk H.out.ne0).2) | fail)
  all_goals
    have HM := Lib.hid (H.out.more ⟨0, 0, 0, a.bytes⟩ (by rw [show Tok.cells ⟨0, 0, 0, a.bytes⟩ = [.int .i64 0, .int .i64 0, .int .i64 0, .string T] from by rw [HTT.out]; rfl]; exact hown) kk (fun i hi => (hat i hi).imp id (fun x => by simp at x; omega)))
    have d1 := HM.out.1.c1.1
    have e1 := HM.out.1.c1.2
    have hbc := HM.out.1.buf.le
    clear hown hkeep hat kk d0 e0 c0 f0 c1 f1
    obtain ⟨w3, hw3⟩ : ∃ w3, w3 = w2.setCell ⟨q, 0, none⟩ (.slice V2 (a.told.length + 1) k2) := ⟨_, rfl⟩
    rw [← hw3] at HM d1 e1 ⊢
    clear hw3
    go_wp2_with fail
    go_end0
    refine ⟨rfl, _, B, c, ?_, HM.out.2.trans HM.out.1.cut.2⟩
    have := HM.out.1.cut.1
    unfold endA
    rw [if_neg HN.out]
    exact this

set_option maxHeartbeats 400000 in
theorem end_none (q base : Nat) (a : An) (v : Value) (B : Option Addr) (c : Nat) (w : World) (h : AnIn w q base a v B c) (he : a.bytes = []) :
    Calls Try.prog 48 #[.pointer (some ⟨q, 0, none⟩)] w fun e w' => e = .returned (.tuple #[]) ∧ AnTo q base v B w (endA a) w' := by
  have c1 := h.c1.1
  have e1 : endA a = a := by obtain ⟨t, b⟩ := a; simp only at he; subst he; rfl
  rw [e1]
  have hl : a.bytes.length = 0 := by rw [he]; rfl
  rw [hl] at c1
  have H := Lib.hid h
  clear h he e1 hl
  go_enter Try.func48, Try.ntmps48
  go_wp2_with fail
  go_end0
  exact ⟨rfl, v, B, c, H.out, Step.refl _ _⟩

theorem end_any (q base : Nat) (a : An) (v : Value) (B : Option Addr) (c : Nat) (w : World) (h : AnIn w q base a v B c) (hl : a.bytes.length ≤ 1099511627776) (ht : a.told.length ≤ 1099511627776) (hb : base ≤ w.heap.size) :
    Calls Try.prog 48 #[.pointer (some ⟨q, 0, none⟩)] w fun e w' => e = .returned (.tuple #[]) ∧ AnTo q base v B w (endA a) w' := by
  by_cases he : a.bytes = []
  · exact end_none q base a v B c w h he
  · exact end_some q base a v B c w h hl ht hb he

set_option maxRecDepth 100000 in
set_option maxHeartbeats 1600000 in
theorem tell_any (q base : Nat) (a : An) (v : Value) (B : Option Addr) (c : Nat) (k cm o : Int) (T : ByteArray) (w : World) (h : AnIn w q base a v B c) (hl : a.bytes.length ≤ 1099511627776) (ht : a.told.length + 1 ≤ 1099511627776) (hb : base ≤ w.heap.size) :
    Calls Try.prog 59 #[.pointer (some ⟨q, 0, none⟩), .agg #[.int .i64 k, .int .i64 cm, .int .i64 o, .string T]] w fun e w' => e = .returned (.tuple #[]) ∧ AnTo q base v B w (tellA a ⟨k, cm, o, T.data.toList⟩) w' := by
  obtain ⟨i0, hi, hz0, hz1, hz2⟩ := info_parts token_info
  have HB := Lib.hid hb
  have HL := Lib.hid hl
  have HT := Lib.hid (show (endA a).told.length ≤ 1099511627776 by have := endA_len a; omega)
  have HT0 := Lib.hid ht
  have H := Lib.hid h
  have hq : q < w.heap.size := h.lt
  clear h hl hb ht
  go_enter Try.func59, Try.ntmps59
  go_wp2_with fail
  refine (end_any q base a v B c _ (H.out.alloc _) HL.out (by have := HT0.out; omega) (by have := HB.out; simp; omega)).mono ?_
  rintro e w1 ⟨rfl, v1, B1, cb, h1, s1⟩
  obtain ⟨V, cv, rfl, _⟩ := own_form h1.row
  have H1 := Lib.hid h1
  have S1 := Lib.hid s1
  have hz : w.heap.size < w1.heap.size := by have := s1.1.size; simp at this; omega
  have box : ∀ i, i < 4 → w1.cell? ⟨w.heap.size, i, none⟩ = (#[Value.int .i64 k, .int .i64 cm, .int .i64 o, .string T] : Array Value)[i]? := fun i hi => by
    rw [s1.1.cell (p := ⟨w.heap.size, i, none⟩) (by simp) (fun x => by have : w.heap.size < w.heap.size := H.out.lto x; omega), cell_of_row _ _ i _ 67 (0, 0) (heap_alloc_new w _)]
  have b0 := box 0 (by omega)
  have b1 := box 1 (by omega)
  have b2 := box 2 (by omega)
  have b3 := box 3 (by omega)
  simp only [List.getElem?_toArray, List.getElem?_cons_zero, List.getElem?_cons_succ] at b0 b1 b2 b3
  have c0 := h1.c0.1
  have f0 := h1.c0.2
  have hq1 : q < w1.heap.size := h1.lt
  clear h1 s1 box
  go_wp2_with fail
  go_region_law (first | (refine step_own_at _ (by rfl) (.tmp 10) (.tmp 12) 64 (by rfl) base 67 i0 _ 4 40 Try.underlying64 hi hz0 hz1 hz2 (by rfl) (by decide) (.slice V (endA a).told.length cv) (endA a).told.length (toks (endA a).told) (by rfl) (own_keep H1.out.row (((Keep.refl (fun _ => False) w1).alloc _).drew) (fun _ _ x => x)) ⟨w1.heap.size, 0, none⟩ 1 1 [.int .i64 k, .int .i64 cm, .int .i64 o, .string T] (by rfl) (by rfl) (fun j u hj => cells_new w1 _ _ _ rfl j u hj) (one_tok k cm o T) (by have := HT.out; unfold maxLen; omega) (by have := HT.out; omega) (by have := HB.out; simp; omega) ?_; intro v2 w2 hown hkeep hat; obtain ⟨V2, k2, rfl, _⟩ := own_form hown; have kk := (((Keep.refl (fun i => Value.ownBlock (.slice V (endA a).told.length cv) = some i) w1).alloc _).drew).trans hkeep (fun _ _ x => x); have d0 := (H1.out.c0.keep kk H1.out.ne0).1; have e0 := (H1.out.c0.keep kk H1.out.ne0).2) | fail)
  all_goals
    have HM := Lib.hid (H1.out.more ⟨k, cm, o, T.data.toList⟩ (by rw [show Tok.cells ⟨k, cm, o, T.data.toList⟩ = [.int .i64 k, .int .i64 cm, .int .i64 o, .string T] from by unfold Tok.cells; simp only]; exact hown) kk (fun i hi => (hat i hi).imp id (fun x => by simp at x; omega)))
    clear hown hkeep hat kk d0 e0 c0 f0 b0 b1 b2 b3
    (try go_wp2_with fail)
    go_end0
    refine ⟨rfl, _, B1, cb, HM.out.1, ?_⟩
    have s0 : Step (anOwn q v B) w (anOwn q v B) (w.alloc (.cells #[.int .i64 k, .int .i64 cm, .int .i64 o, .string T] 67)) := ⟨(Keep.refl _ w).alloc _, fun _ x => .inl x⟩
    exact (s0.trans S1.out).trans HM.out.2

set_option maxHeartbeats 400000 in
theorem all_any (q base : Nat) (a : An) (v : Value) (B : Option Addr) (c : Nat) (w : World) (h : AnIn w q base a v B c) (hl : a.bytes.length ≤ 1099511627776) (ht : a.told.length ≤ 1099511627776) (hb : base ≤ w.heap.size) :
    Calls Try.prog 38 #[.pointer (some ⟨q, 0, none⟩)] w fun e w' => ∃ v', e = .returned v' ∧ w'.ownsRow base 67 4 v' (endA a).told.length (toks (endA a).told) ∧ Keep (anOwn q v B) w w' ∧ (∀ k, v'.ownBlock = some k → anOwn q v B k ∨ w.heap.size ≤ k) := by
  have HE := Lib.hid (end_any q base a v B c w h hl ht hb)
  clear h hl ht hb
  go_enter Try.func38, Try.ntmps38
  go_wp2_with fail
  refine HE.out.mono ?_
  rintro e w1 ⟨rfl, v1, B1, cb, h1, s1⟩
  have H1 := Lib.hid h1
  have S1 := Lib.hid s1
  have c0 := h1.c0.1
  clear h1 s1
  go_wp2_with fail
  go_ret
  exact ⟨v1, rfl, H1.out.row, S1.out.1, fun k hk => S1.out.2 k (.inr (.inl hk))⟩

end Go.Proofs.Ytopgejjencoelaa
