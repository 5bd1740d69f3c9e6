/- The document's runes of a byte: Feed, Flush. By program (rgn/XUtfRefF.py). Own work. -/
import Derived.Test.YtoihadjboeeglaaUtfRefV
namespace Go.Proofs.Ytoihadjboeeglaa
set_option linter.unusedVariables false
set_option linter.unusedSimpArgs false
open Go.RowKit

theorem bsU_one (B : List Nat) : ∀ u ∈ bsU B, u.oneCell' = true := by
  intro u hu
  obtain ⟨x, _, rfl⟩ := List.mem_map.1 hu
  rfl

/-- The document's Utf behind a pointer. -/
structure RfU (w : World) (p : Nat) (B : List Nat) (A : Option Addr) (c : Nat) : Prop where
  cell : Cell w p 0 (.slice A B.length c)
  src : Src w A B.length (bsU B)
  nil : B = [] → A = none ∧ c = 0
  lt : ∀ k, blk A = some k → k < w.heap.size
  ne : blk A ≠ some p
  few : B.length ≤ 3

def rfuOwn (p : Nat) (A : Option Addr) : Nat → Prop := fun k => k = p ∨ blk A = some k

namespace RfU
variable {w w' : World} {p : Nat} {B : List Nat} {A : Option Addr} {c : Nat}
theorem ltp (h : RfU w p B A c) : p < w.heap.size := h.cell.lt
theorem lto (h : RfU w p B A c) {k : Nat} (hk : rfuOwn p A k) : k < w.heap.size := by
  rcases hk with rfl | hk
  · exact h.ltp
  · exact h.lt k hk
theorem keep {S : Nat → Prop} (h : RfU w p B A c) (k : Keep S w w') (hn : ∀ i, rfuOwn p A i → ¬ S i) : RfU w' p B A c :=
  ⟨h.cell.keep k (hn p (.inl rfl)), h.src.of_keep k (fun i hi => hn i (.inr hi)), h.nil, fun i hi => Nat.lt_of_lt_of_le (h.lt i hi) k.size, h.ne, h.few⟩
theorem below (h : RfU w p B A c) (k : Below w.heap.size w w') : RfU w' p B A c := h.keep (S := fun _ => False) (Keep.of_below _ k) (fun _ _ x => x)
theorem alloc (h : RfU w p B A c) (x : Obj) : RfU (w.alloc x) p B A c := h.keep (S := fun _ => False) ((Keep.refl _ w).alloc x) (fun _ _ x => x)
theorem empty (h : Cell w p 0 (.slice none 0 0)) : RfU w p [] none 0 :=
  ⟨h, ⟨rfl, fun h => absurd h (by simp)⟩, fun _ => ⟨rfl, rfl⟩, fun k hk => by simp [blk] at hk, by simp [blk], by simp⟩
theorem made (w : World) (t : TypeId) : RfU (w.alloc (.cells #[.slice none 0 0] t)) w.heap.size [] none 0 := empty (Cell.box 0 rfl)
end RfU

/-- What a call answers that turns the document's Utf. -/
def FRefU (p : Nat) (A : Option Addr) (w : World) (x : List Nat × List Nat) (e : Ending) (w' : World) : Prop :=
  ∃ v, e = .returned v ∧ w'.ownsRow w.heap.size 21 1 v x.2.length ((rs x.2).map (Value.int .i32)) ∧ ∃ A' c', RfU w' p x.1 A' c' ∧ Step (rfuOwn p A) w (rfuOwn p A') w'

theorem step_nil {p : Nat} {A : Option Addr} {w w' : World} (k : Keep (fun i => i = p) w w') : Step (rfuOwn p A) w (rfuOwn p none) w' :=
  ⟨k.mono (fun _ _ x => .inl x), fun i hi => by
    rcases hi with rfl | hi
    · exact .inl (.inl rfl)
    · simp [blk] at hi⟩
theorem step_new {p : Nat} {A A' : Option Addr} {w w' : World} (k : Keep (fun i => i = p) w w') (h : ∀ i, blk A' = some i → w.heap.size ≤ i) : Step (rfuOwn p A) w (rfuOwn p A') w' :=
  ⟨k.mono (fun _ _ x => .inl x), fun i hi => by
    rcases hi with rfl | hi
    · exact .inl (.inl rfl)
    · exact .inr (h i hi)⟩

set_option maxHeartbeats 800000 in
theorem ref_flush (p : Nat) (B : List Nat) (A : Option Addr) (c : Nat) (w : World) (h : RfU w p B A c) :
    Calls Try.prog 17 #[.pointer (some ⟨p, 0, none⟩)] w (FRefU p A w ([], if B = [] then [] else [65533])) := by
  have H := Lib.hid h
  have c0 := h.cell.1
  have f0 := h.cell.2
  obtain ⟨n, hn⟩ : ∃ n, B.length = n := ⟨_, rfl⟩
  rw [hn] at c0
  have HN := Lib.hid hn
  by_cases h0 : n = 0
  · have hb : B = [] := List.eq_nil_of_length_eq_zero (by omega)
    obtain ⟨rfl, rfl⟩ := h.nil hb
    subst h0 hb
    clear h hn
    go_enter Try.func17, Try.ntmps17
    go_wp2_with fail
    go_ret
    exact ⟨_, rfl, World.ownsRow_nil _ _ _ _, none, 0, H.out, Step.refl _ _⟩
  · have hd : ((n : Int) == 0) = false := by simp; omega
    have hb : ¬ B = [] := fun e => by rw [e] at hn; simp at hn; omega
    rw [if_neg hb]
    clear h hn h0 hb
    go_enter Try.func17, Try.ntmps17
    go_wp2_with fail
    go_ret
    refine ⟨_, rfl, own_new1 _ _ _ (by simp) (by simp), none, 0, (RfU.empty (H.out.cell.set _)).alloc _, step_nil ((keep_set w p 0 _).alloc _)⟩

/-- Behind append(append(nil, u.B...), c). -/
theorem bsU_snoc (B : List Nat) (c : Nat) : bsU (B ++ [c]) = bsU B ++ [.int .u8 (c : Int)] := by simp [bsU]

set_option maxRecDepth 100000 in
set_option maxHeartbeats 1600000 in
theorem refFeed_nil_bad (p : Nat) (B : List Nat) (A : Option Addr) (cap b : Nat) (w : World) (h : RfU w p B A cap) (hb : b < 256) (h0 : B = []) (hm : mayB [b] = (false, false)) :
    Calls Try.prog 27 #[.pointer (some ⟨p, 0, none⟩), .int .u8 (b : Int)] w (FRefU p A w (byteB B b)) := by
  obtain ⟨i0, hi0, hz0, hz1, hz2⟩ := info_parts rune_info
  obtain ⟨i1, hi1, hy0, hy1, hy2⟩ := info_parts byte_info
  have H := Lib.hid h
  obtain ⟨rfl, rfl⟩ := h.nil h0
  subst h0
  have HX : Hid (byteB [] b = ([], [] ++ [65533])) := Lib.hid (by simp [byteB, hm])
  have HM := Lib.hid hm
  have c0 := h.cell.1
  simp only [List.length_nil] at c0
  have T : Hid (RfU w p [] none 0) := H
  have V : Hid (w.ownsRow w.heap.size 21 1 (.slice none 0 0) 0 (([] : List Int).map (Value.int .i32))) := Lib.hid (World.ownsRow_nil _ _ _ _)
  have K : Hid (Keep (fun i => i = p) w w) := Lib.hid (Keep.refl _ _)
  have HPW : Hid (p < w.heap.size) := Lib.hid h.ltp
  clear h hm
  go_enter Try.func27, Try.ntmps27
  go_wp2_with fail
  refine (ref_may (some ⟨w.heap.size, 0, none⟩) 1 1 b [] _ (src_new w [.int .u8 (b : Int)] 5 w.heap.size rfl 1 rfl) (by omega)).mono ?_
  rintro e wm ⟨rfl, rfl⟩
  rw [HM.out]
  have V5 := Lib.hid (own_keep V.out (((Keep.refl (fun _ => False) w).alloc (.cells #[.int .u8 (b : Int)] 5)).alloc (.cells #[.int .i32 65533] 21)) (fun _ _ x => x))
  go_wp2_with (at_builtin; refine wpList_own_more _ rfl (.tmp 58) (.tmp 59) 46 rfl w.heap.size (w.alloc (.cells #[.int .u8 (b : Int)] 5)).heap.size 21 i0 (.int .i32 0) 1 4 Try.underlying46 hi0 hz0 hz1 hz2 rfl (by decide) _ _ _ 1 _ [.int .i32 65533] rfl rfl V5.out (own_new1 _ _ _ (by simp) (by simp)) ?c2 ?c3 ?c4 ?c5 ?_)
  case c2 => first | rfl | (intro u hu; simp at hu; subst hu; rfl)
  case c3 => unfold maxLen; simp
  case c4 => simp
  case c5 => have := K.out.size; simp; omega
  intro v7 w7 hown hkeep hat
  have HO := Lib.hid hown
  have HK := Lib.hid hkeep
  clear hown hkeep hat
  go_wp2_with fail
  go_ret
  rw [HX.out]
  have hne : ∀ i, rfuOwn p none i → ¬ (Value.ownBlock (.slice none 0 0) = some i) := fun i hi e => by
    rcases hi with rfl | hi
    · have := (V.out.lt _ e).1; have := HPW.out; omega
    · simp [blk] at hi
  refine ⟨_, rfl, ?_, none, 0, ((T.out.alloc _).alloc _).keep HK.out hne, step_nil (((K.out.alloc _).alloc _).trans HK.out (fun i hi e => by have := (V.out.lt i e).1; omega))⟩
  exact HO.out

set_option maxRecDepth 100000 in
set_option maxHeartbeats 1600000 in
theorem refFeed_nil_whole (p : Nat) (B : List Nat) (A : Option Addr) (cap b : Nat) (w : World) (h : RfU w p B A cap) (hb : b < 256) (h0 : B = []) (hm : mayB [b] = (true, true)) :
    Calls Try.prog 27 #[.pointer (some ⟨p, 0, none⟩), .int .u8 (b : Int)] w (FRefU p A w (byteB B b)) := by
  obtain ⟨i0, hi0, hz0, hz1, hz2⟩ := info_parts rune_info
  obtain ⟨i1, hi1, hy0, hy1, hy2⟩ := info_parts byte_info
  have H := Lib.hid h
  obtain ⟨rfl, rfl⟩ := h.nil h0
  subst h0
  have HX : Hid (byteB [] b = ([], [] ++ [b])) := Lib.hid (by simp [byteB, hm])
  have HM := Lib.hid hm
  have c0 := h.cell.1
  simp only [List.length_nil] at c0
  have T : Hid (RfU w p [] none 0) := H
  have V : Hid (w.ownsRow w.heap.size 21 1 (.slice none 0 0) 0 (([] : List Int).map (Value.int .i32))) := Lib.hid (World.ownsRow_nil _ _ _ _)
  have K : Hid (Keep (fun i => i = p) w w) := Lib.hid (Keep.refl _ _)
  have HPW : Hid (p < w.heap.size) := Lib.hid h.ltp
  clear h hm
  go_enter Try.func27, Try.ntmps27
  go_wp2_with fail
  refine (ref_may (some ⟨w.heap.size, 0, none⟩) 1 1 b [] _ (src_new w [.int .u8 (b : Int)] 5 w.heap.size rfl 1 rfl) (by omega)).mono ?_
  rintro e wm ⟨rfl, rfl⟩
  rw [HM.out]
  have hw := i32_nat b (by omega)
  have V5 := Lib.hid (own_keep V.out (((Keep.refl (fun _ => False) w).alloc (.cells #[.int .u8 (b : Int)] 5)).alloc (.cells #[.int .i32 (b : Int)] 21)) (fun _ _ x => x))
  go_wp2_with (at_builtin; refine wpList_own_more _ rfl (.tmp 63) (.tmp 66) 46 rfl w.heap.size (w.alloc (.cells #[.int .u8 (b : Int)] 5)).heap.size 21 i0 (.int .i32 0) 1 4 Try.underlying46 hi0 hz0 hz1 hz2 rfl (by decide) _ _ _ 1 _ [.int .i32 (b : Int)] rfl rfl V5.out (own_new1 _ _ _ (by simp) (by simp)) ?c2 ?c3 ?c4 ?c5 ?_)
  case c2 => first | rfl | (intro u hu; simp at hu; subst hu; rfl)
  case c3 => unfold maxLen; simp
  case c4 => simp
  case c5 => have := K.out.size; simp; omega
  intro v7 w7 hown hkeep hat
  have HO := Lib.hid hown
  have HK := Lib.hid hkeep
  clear hown hkeep hat
  go_wp2_with fail
  go_ret
  rw [HX.out]
  have hne : ∀ i, rfuOwn p none i → ¬ (Value.ownBlock (.slice none 0 0) = some i) := fun i hi e => by
    rcases hi with rfl | hi
    · have := (V.out.lt _ e).1; have := HPW.out; omega
    · simp [blk] at hi
  refine ⟨_, rfl, ?_, none, 0, ((T.out.alloc _).alloc _).keep HK.out hne, step_nil (((K.out.alloc _).alloc _).trans HK.out (fun i hi e => by have := (V.out.lt i e).1; omega))⟩
  exact HO.out

set_option maxRecDepth 100000 in
set_option maxHeartbeats 1600000 in
theorem refFeed_nil_keep (p : Nat) (B : List Nat) (A : Option Addr) (cap b : Nat) (w : World) (h : RfU w p B A cap) (hb : b < 256) (h0 : B = []) (hm : mayB [b] = (true, false)) :
    Calls Try.prog 27 #[.pointer (some ⟨p, 0, none⟩), .int .u8 (b : Int)] w (FRefU p A w (byteB B b)) := by
  obtain ⟨i0, hi0, hz0, hz1, hz2⟩ := info_parts rune_info
  obtain ⟨i1, hi1, hy0, hy1, hy2⟩ := info_parts byte_info
  have H := Lib.hid h
  obtain ⟨rfl, rfl⟩ := h.nil h0
  subst h0
  have HX : Hid (byteB [] b = ([b], [])) := Lib.hid (by simp [byteB, hm])
  have HM := Lib.hid hm
  have c0 := h.cell.1
  simp only [List.length_nil] at c0
  have T : Hid (RfU w p [] none 0) := H
  have V : Hid (w.ownsRow w.heap.size 21 1 (.slice none 0 0) 0 (([] : List Int).map (Value.int .i32))) := Lib.hid (World.ownsRow_nil _ _ _ _)
  have K : Hid (Keep (fun i => i = p) w w) := Lib.hid (Keep.refl _ _)
  have HPW : Hid (p < w.heap.size) := Lib.hid h.ltp
  clear h hm
  go_enter Try.func27, Try.ntmps27
  go_wp2_with fail
  refine (ref_may (some ⟨w.heap.size, 0, none⟩) 1 1 b [] _ (src_new w [.int .u8 (b : Int)] 5 w.heap.size rfl 1 rfl) (by omega)).mono ?_
  rintro e wm ⟨rfl, rfl⟩
  rw [HM.out]
  have c5 := ((T.out.alloc (.cells #[.int .u8 (b : Int)] 5)).cell).1
  have f5 := ((T.out.alloc (.cells #[.int .u8 (b : Int)] 5)).cell).2
  simp only [List.length_nil] at c5
  have hpl := T.out.ltp
  have hpl2 := (T.out.alloc (.cells #[.int .u8 (b : Int)] 5)).ltp
  go_wp2_with fail
  go_ret
  rw [HX.out]
  have k6 := keep_set w p 0 (.slice (some ⟨w.heap.size + 1, 0, none⟩) 1 1)
  have k7 := ((K.out.trans k6 (fun _ _ x => x)).alloc (.cells #[.int .u8 (b : Int)] 5)).alloc (.cells #[.int .u8 (b : Int)] 5)
  refine ⟨_, rfl, ?_, some ⟨w.heap.size + 1, 0, none⟩, 1, ⟨((T.out.cell.set _).alloc _).alloc _, ?_, fun e => by simp at e, fun k hk => ?_, fun e => ?_, by simp⟩, step_new k7 (fun i hi => ?_)⟩
  · exact own_keep V.out ((k6.alloc _).alloc _) (fun k hk e => by have := (V.out.lt k hk).1; have := HPW.out; omega)
  · exact src_new ((w.setCell ⟨p, 0, none⟩ (.slice (some ⟨w.heap.size + 1, 0, none⟩) 1 1)).alloc (.cells #[.int .u8 (b : Int)] 5)) [.int .u8 (b : Int)] 5 (w.heap.size + 1) (by simp [World.setCell]) 1 rfl
  · simp [blk] at hk; simp [World.setCell]; omega
  · simp [blk] at e; omega
  · simp [blk] at hi; have := K.out.size; omega

set_option maxRecDepth 100000 in
set_option maxHeartbeats 1600000 in
theorem refFeed_on_whole (p : Nat) (B : List Nat) (A : Option Addr) (cap b : Nat) (w : World) (h : RfU w p B A cap) (hb : b < 256) (h0 : B ≠ []) (hm1 : mayB (B ++ [b]) = (true, true)) :
    Calls Try.prog 27 #[.pointer (some ⟨p, 0, none⟩), .int .u8 (b : Int)] w (FRefU p A w (byteB B b)) := by
  obtain ⟨i0, hi0, hz0, hz1, hz2⟩ := info_parts rune_info
  obtain ⟨i1, hi1, hy0, hy1, hy2⟩ := info_parts byte_info
  have H := Lib.hid h
  obtain ⟨n, hn⟩ : ∃ n, B.length = n := ⟨_, rfl⟩
  have hfew := h.few
  have hnp : 0 < n := by rw [← hn]; exact List.length_pos_iff.2 h0
  rw [hn] at hfew
  have HM1 := Lib.hid hm1
  have HX : Hid (byteB B b = ([], [valueB (B ++ [b])])) := Lib.hid (by simp [byteB, hm1, h0])
  clear hm1
  have c0 := h.cell.1
  have f0 := h.cell.2
  rw [hn] at c0
  have hsrc := h.src
  rw [hn] at hsrc
  obtain ⟨v1, w1, hr, o1, b1⟩ := run_copy_src (P := Try.prog) w 30 30 5 i1 (.int .u8 0) 1 Try.underlying30 hi1 hy0 hy1 hy2 rfl A n cap _ hsrc (bsU_one B) (by unfold maxLen; omega) (by omega)
  have HPW : Hid (p < w.heap.size) := Lib.hid h.ltp
  have HR := Lib.hid hr
  have O1 := Lib.hid o1
  have B1 := Lib.hid b1
  have HN := Lib.hid hn
  have h0n : (0 : Int) < (n : Int) := by omega
  obtain ⟨c1, r, hcr⟩ : ∃ c1 r, B ++ [b] = c1 :: r := by
    cases B with
    | nil => exact absurd rfl h0
    | cons x y => exact ⟨x, y ++ [b], rfl⟩
  have HCR := Lib.hid hcr
  clear h hr o1 b1 hsrc hcr hn h0
  have hs1 := B1.out.size
  go_enter Try.func27, Try.ntmps27
  go_wp2_with (at_builtin; first
    | (refine wpList_plain rfl fun K hK => ?_; unfold Oper.wp execOp; simp only [resolve, invoke, builtin, Sem.run_bind, Sem.run_pure, Result.andThen_ok, List.map_toArray, List.map_cons, List.map_nil]; rw [show (Builtin.append_ _ _ #[Act.eval _ _, Act.eval _ _]).run _ _ = _ from HR.out]; refine hK _ _ ?_)
    | (refine wpList_own_more _ rfl (.tmp 21) (.tmp 23) 30 rfl w.heap.size w1.heap.size 5 i1 (.int .u8 0) 1 1 Try.underlying30 hi1 hy0 hy1 hy2 rfl (by decide) _ _ _ 1 _ [.int .u8 (b : Int)] rfl rfl (own_keep O1.out ((Keep.refl (fun _ => False) w1).alloc _) (fun _ _ x => x)) (own_new1 _ _ _ rfl (Nat.le_refl _)) ?d2 ?d3 ?d4 ?d5 ?_))
  case d2 => first | rfl | (intro u hu; simp at hu; subst hu; rfl)
  case d3 => unfold maxLen; omega
  case d4 => omega
  case d5 => first | omega | (simp; omega)
  intro v2 w2 hown hkeep hat
  obtain ⟨A2, c2, rfl, -⟩ := own_form hown
  have b2 : Below w.heap.size w w2 := ((B1.out.alloc hs1 _).trans (hkeep.below (by simp; omega) (fun i hi e => by have := (O1.out.lt i e).1; omega)))
  have B2 := Lib.hid b2
  have S2 : Hid (Src w2 A2 (n + 1) (bsU (c1 :: r))) := Lib.hid (by rw [← HCR.out, bsU_snoc]; exact (Buf.of_own hown).src)
  have L2 : Hid (∀ i, blk A2 = some i → w.heap.size ≤ i ∧ i < w2.heap.size) := Lib.hid (fun i hi => hown.lt i (by rw [ownBlock_slice]; exact hi))
  have d0 := (b2.cell (p := ⟨p, 0, none⟩) HPW.out).trans c0
  have g0 := (b2.frozen (p := ⟨p, 0, none⟩) HPW.out).trans f0
  clear hown hkeep hat b2 c0 f0 hs1
  go_wp2_with fail
  refine (ref_may A2 (n + 1) c2 c1 r w2 S2.out (by omega)).mono ?_
  rintro e wm ⟨rfl, rfl⟩
  have hm1 : mayB (c1 :: r) = (true, true) := by rw [← HCR.out]; exact HM1.out
  rw [hm1]
  clear hm1
  go_wp2_with fail
  obtain ⟨w3, hw3⟩ : ∃ w3, w3 = wm.setCell ⟨p, 0, none⟩ (.slice none 0 0) := ⟨_, rfl⟩
  have K3 : Hid (Keep (fun i => i = p) wm w3) := Lib.hid (by rw [hw3]; exact keep_set wm p 0 _)
  have hnil : Cell w3 p 0 (.slice none 0 0) := by rw [hw3]; exact Cell.set (b := p) (o := 0) ⟨d0, g0⟩ _
  have T := Lib.hid (RfU.empty hnil)
  rw [← hw3]
  clear hw3 hnil d0 g0
  refine (ref_value A2 (n + 1) c2 (B ++ [b]) w3 (by rw [HCR.out]; exact S2.out.of_keep K3.out (fun i hi e => by have := (L2.out i hi).1; have := HPW.out; omega)) (by omega) HM1.out).mono ?_
  rintro e w4 ⟨rfl, rfl⟩
  go_wp2_with fail
  go_ret
  rw [HX.out]
  have hs := B2.out.size
  have k := (Keep.of_below (fun i => i = p) B2.out).trans K3.out (fun _ _ x => x)
  exact ⟨_, rfl, own_new1 _ _ _ rfl k.size, none, 0, T.out.alloc _, step_nil (k.alloc _)⟩

set_option maxRecDepth 100000 in
set_option maxHeartbeats 1600000 in
theorem refFeed_on_more (p : Nat) (B : List Nat) (A : Option Addr) (cap b : Nat) (w : World) (h : RfU w p B A cap) (hb : b < 256) (h0 : B ≠ []) (hm1 : mayB (B ++ [b]) = (true, false)) (hl : (B ++ [b]).length ≤ 3) :
    Calls Try.prog 27 #[.pointer (some ⟨p, 0, none⟩), .int .u8 (b : Int)] w (FRefU p A w (byteB B b)) := by
  obtain ⟨i0, hi0, hz0, hz1, hz2⟩ := info_parts rune_info
  obtain ⟨i1, hi1, hy0, hy1, hy2⟩ := info_parts byte_info
  have H := Lib.hid h
  obtain ⟨n, hn⟩ : ∃ n, B.length = n := ⟨_, rfl⟩
  have hfew := h.few
  have hnp : 0 < n := by rw [← hn]; exact List.length_pos_iff.2 h0
  rw [hn] at hfew
  have HM1 := Lib.hid hm1
  have HX : Hid (byteB B b = (B ++ [b], [])) := Lib.hid (by simp [byteB, hm1, h0])
  have HL := Lib.hid hl
  clear hm1 hl
  have c0 := h.cell.1
  have f0 := h.cell.2
  rw [hn] at c0
  have hsrc := h.src
  rw [hn] at hsrc
  obtain ⟨v1, w1, hr, o1, b1⟩ := run_copy_src (P := Try.prog) w 30 30 5 i1 (.int .u8 0) 1 Try.underlying30 hi1 hy0 hy1 hy2 rfl A n cap _ hsrc (bsU_one B) (by unfold maxLen; omega) (by omega)
  have HPW : Hid (p < w.heap.size) := Lib.hid h.ltp
  have HR := Lib.hid hr
  have O1 := Lib.hid o1
  have B1 := Lib.hid b1
  have HN := Lib.hid hn
  have h0n : (0 : Int) < (n : Int) := by omega
  obtain ⟨c1, r, hcr⟩ : ∃ c1 r, B ++ [b] = c1 :: r := by
    cases B with
    | nil => exact absurd rfl h0
    | cons x y => exact ⟨x, y ++ [b], rfl⟩
  have HCR := Lib.hid hcr
  clear h hr o1 b1 hsrc hcr hn h0
  have hs1 := B1.out.size
  go_enter Try.func27, Try.ntmps27
  go_wp2_with (at_builtin; first
    | (refine wpList_plain rfl fun K hK => ?_; unfold Oper.wp execOp; simp only [resolve, invoke, builtin, Sem.run_bind, Sem.run_pure, Result.andThen_ok, List.map_toArray, List.map_cons, List.map_nil]; rw [show (Builtin.append_ _ _ #[Act.eval _ _, Act.eval _ _]).run _ _ = _ from HR.out]; refine hK _ _ ?_)
    | (refine wpList_own_more _ rfl (.tmp 21) (.tmp 23) 30 rfl w.heap.size w1.heap.size 5 i1 (.int .u8 0) 1 1 Try.underlying30 hi1 hy0 hy1 hy2 rfl (by decide) _ _ _ 1 _ [.int .u8 (b : Int)] rfl rfl (own_keep O1.out ((Keep.refl (fun _ => False) w1).alloc _) (fun _ _ x => x)) (own_new1 _ _ _ rfl (Nat.le_refl _)) ?d2 ?d3 ?d4 ?d5 ?_))
  case d2 => first | rfl | (intro u hu; simp at hu; subst hu; rfl)
  case d3 => unfold maxLen; omega
  case d4 => omega
  case d5 => first | omega | (simp; omega)
  intro v2 w2 hown hkeep hat
  obtain ⟨A2, c2, rfl, -⟩ := own_form hown
  have b2 : Below w.heap.size w w2 := ((B1.out.alloc hs1 _).trans (hkeep.below (by simp; omega) (fun i hi e => by have := (O1.out.lt i e).1; omega)))
  have B2 := Lib.hid b2
  have S2 : Hid (Src w2 A2 (n + 1) (bsU (c1 :: r))) := Lib.hid (by rw [← HCR.out, bsU_snoc]; exact (Buf.of_own hown).src)
  have L2 : Hid (∀ i, blk A2 = some i → w.heap.size ≤ i ∧ i < w2.heap.size) := Lib.hid (fun i hi => hown.lt i (by rw [ownBlock_slice]; exact hi))
  have d0 := (b2.cell (p := ⟨p, 0, none⟩) HPW.out).trans c0
  have g0 := (b2.frozen (p := ⟨p, 0, none⟩) HPW.out).trans f0
  clear hown hkeep hat b2 c0 f0 hs1
  go_wp2_with fail
  refine (ref_may A2 (n + 1) c2 c1 r w2 S2.out (by omega)).mono ?_
  rintro e wm ⟨rfl, rfl⟩
  have hm1 : mayB (c1 :: r) = (true, false) := by rw [← HCR.out]; exact HM1.out
  rw [hm1]
  clear hm1
  go_wp2_with fail
  go_ret
  rw [HX.out]
  have k := (Keep.of_below (fun i => i = p) B2.out).trans (keep_set wm p 0 (.slice A2 (n + 1) c2)) (fun _ _ x => x)
  have hlen : (B ++ [b]).length = n + 1 := by rw [List.length_append, HN.out]; rfl
  refine ⟨_, rfl, World.ownsRow_nil _ _ _ _, A2, c2, ⟨?_, ?_, fun e => by simp at e, fun i hi => ?_, fun e => ?_, HL.out⟩, step_new k (fun i hi => (L2.out i hi).1)⟩
  · show Cell _ _ _ (.slice A2 (B ++ [b]).length c2)
    rw [hlen]
    exact Cell.set (b := p) (o := 0) ⟨d0, g0⟩ _
  · show Src _ A2 (B ++ [b]).length (bsU (B ++ [b]))
    rw [hlen, HCR.out]
    exact S2.out.of_keep (keep_set wm p 0 _) (fun i hi e => by have := (L2.out i hi).1; have := HPW.out; omega)
  · exact Nat.lt_of_lt_of_le (L2.out i hi).2 (keep_set wm p 0 _).size
  · have := (L2.out p e).1; have := HPW.out; omega

set_option maxRecDepth 100000 in
set_option maxHeartbeats 1600000 in
theorem refFeed_anew_bad (p : Nat) (B : List Nat) (A : Option Addr) (cap b : Nat) (w : World) (h : RfU w p B A cap) (hb : b < 256) (h0 : B ≠ []) (hm1 : mayB (B ++ [b]) = (false, false)) (hm : mayB [b] = (false, false)) :
    Calls Try.prog 27 #[.pointer (some ⟨p, 0, none⟩), .int .u8 (b : Int)] w (FRefU p A w (byteB B b)) := by
  obtain ⟨i0, hi0, hz0, hz1, hz2⟩ := info_parts rune_info
  obtain ⟨i1, hi1, hy0, hy1, hy2⟩ := info_parts byte_info
  have H := Lib.hid h
  obtain ⟨n, hn⟩ : ∃ n, B.length = n := ⟨_, rfl⟩
  have hfew := h.few
  have hnp : 0 < n := by rw [← hn]; exact List.length_pos_iff.2 h0
  rw [hn] at hfew
  have HM1 := Lib.hid hm1
  have HX : Hid (byteB B b = ([], [65533] ++ [65533])) := Lib.hid (by simp [byteB, hm1, hm, h0])
  have HM := Lib.hid hm
  clear hm1 hm
  have c0 := h.cell.1
  have f0 := h.cell.2
  rw [hn] at c0
  have hsrc := h.src
  rw [hn] at hsrc
  obtain ⟨v1, w1, hr, o1, b1⟩ := run_copy_src (P := Try.prog) w 30 30 5 i1 (.int .u8 0) 1 Try.underlying30 hi1 hy0 hy1 hy2 rfl A n cap _ hsrc (bsU_one B) (by unfold maxLen; omega) (by omega)
  have HPW : Hid (p < w.heap.size) := Lib.hid h.ltp
  have HR := Lib.hid hr
  have O1 := Lib.hid o1
  have B1 := Lib.hid b1
  have HN := Lib.hid hn
  have h0n : (0 : Int) < (n : Int) := by omega
  obtain ⟨c1, r, hcr⟩ : ∃ c1 r, B ++ [b] = c1 :: r := by
    cases B with
    | nil => exact absurd rfl h0
    | cons x y => exact ⟨x, y ++ [b], rfl⟩
  have HCR := Lib.hid hcr
  clear h hr o1 b1 hsrc hcr hn h0
  have hs1 := B1.out.size
  go_enter Try.func27, Try.ntmps27
  go_wp2_with (at_builtin; first
    | (refine wpList_plain rfl fun K hK => ?_; unfold Oper.wp execOp; simp only [resolve, invoke, builtin, Sem.run_bind, Sem.run_pure, Result.andThen_ok, List.map_toArray, List.map_cons, List.map_nil]; rw [show (Builtin.append_ _ _ #[Act.eval _ _, Act.eval _ _]).run _ _ = _ from HR.out]; refine hK _ _ ?_)
    | (refine wpList_own_more _ rfl (.tmp 21) (.tmp 23) 30 rfl w.heap.size w1.heap.size 5 i1 (.int .u8 0) 1 1 Try.underlying30 hi1 hy0 hy1 hy2 rfl (by decide) _ _ _ 1 _ [.int .u8 (b : Int)] rfl rfl (own_keep O1.out ((Keep.refl (fun _ => False) w1).alloc _) (fun _ _ x => x)) (own_new1 _ _ _ rfl (Nat.le_refl _)) ?d2 ?d3 ?d4 ?d5 ?_))
  case d2 => first | rfl | (intro u hu; simp at hu; subst hu; rfl)
  case d3 => unfold maxLen; omega
  case d4 => omega
  case d5 => first | omega | (simp; omega)
  intro v2 w2 hown hkeep hat
  obtain ⟨A2, c2, rfl, -⟩ := own_form hown
  have b2 : Below w.heap.size w w2 := ((B1.out.alloc hs1 _).trans (hkeep.below (by simp; omega) (fun i hi e => by have := (O1.out.lt i e).1; omega)))
  have B2 := Lib.hid b2
  have S2 : Hid (Src w2 A2 (n + 1) (bsU (c1 :: r))) := Lib.hid (by rw [← HCR.out, bsU_snoc]; exact (Buf.of_own hown).src)
  have L2 : Hid (∀ i, blk A2 = some i → w.heap.size ≤ i ∧ i < w2.heap.size) := Lib.hid (fun i hi => hown.lt i (by rw [ownBlock_slice]; exact hi))
  have d0 := (b2.cell (p := ⟨p, 0, none⟩) HPW.out).trans c0
  have g0 := (b2.frozen (p := ⟨p, 0, none⟩) HPW.out).trans f0
  clear hown hkeep hat b2 c0 f0 hs1
  go_wp2_with fail
  refine (ref_may A2 (n + 1) c2 c1 r w2 S2.out (by omega)).mono ?_
  rintro e wm ⟨rfl, rfl⟩
  have hm1 : mayB (c1 :: r) = (false, false) := by rw [← HCR.out]; exact HM1.out
  rw [hm1]
  clear hm1
  go_upto_region 13 with fail
  obtain ⟨w3, hw3⟩ : ∃ w3, w3 = wm.setCell ⟨p, 0, none⟩ (.slice none 0 0) := ⟨_, rfl⟩
  have K3 : Hid (Keep (fun i => i = p) wm w3) := Lib.hid (by rw [hw3]; exact keep_set wm p 0 _)
  have hnil : Cell w3 p 0 (.slice none 0 0) := by rw [hw3]; exact Cell.set (b := p) (o := 0) ⟨d0, g0⟩ _
  have T3 := Lib.hid (RfU.empty hnil)
  rw [← hw3]
  have hz3 : w3.heap.size = wm.heap.size := by rw [hw3]; simp [World.setCell]
  try rw [← hz3]
  clear hw3 hnil d0 g0
  obtain ⟨w4, hw4⟩ : ∃ w4, w4 = w3.alloc (.cells #[.int .i32 65533] 21) := ⟨_, rfl⟩
  obtain ⟨q4, hq4⟩ : ∃ q4, q4 = w3.heap.size := ⟨_, rfl⟩
  have T : Hid (RfU w4 p [] none 0) := Lib.hid (by rw [hw4]; exact T3.out.alloc _)
  have K : Hid (Keep (fun i => i = p) w w4) := Lib.hid (by rw [hw4]; exact ((Keep.of_below (fun i => i = p) B2.out).trans K3.out (fun _ _ x => x)).alloc _)
  have V : Hid (w4.ownsRow w.heap.size 21 1 (.slice (some ⟨q4, 0, none⟩) 1 1) 1 (([65533] : List Int).map (Value.int .i32))) := Lib.hid (by rw [hw4]; exact own_new1 _ _ _ hq4 (by rw [hq4]; exact Nat.le_trans B2.out.size K3.out.size))
  rw [← hw4]
  try rw [← hq4]
  clear hw4 hq4 hz3 T3
  go_wp2_with fail
  refine (ref_may (some ⟨w4.heap.size, 0, none⟩) 1 1 b [] _ (src_new w4 [.int .u8 (b : Int)] 5 w4.heap.size rfl 1 rfl) (by omega)).mono ?_
  rintro e wm ⟨rfl, rfl⟩
  rw [HM.out]
  have V5 := Lib.hid (own_keep V.out (((Keep.refl (fun _ => False) w4).alloc (.cells #[.int .u8 (b : Int)] 5)).alloc (.cells #[.int .i32 65533] 21)) (fun _ _ x => x))
  go_wp2_with (at_builtin; refine wpList_own_more _ rfl (.tmp 58) (.tmp 59) 46 rfl w.heap.size (w4.alloc (.cells #[.int .u8 (b : Int)] 5)).heap.size 21 i0 (.int .i32 0) 1 4 Try.underlying46 hi0 hz0 hz1 hz2 rfl (by decide) _ _ _ 1 _ [.int .i32 65533] rfl rfl V5.out (own_new1 _ _ _ (by simp) (by simp)) ?c2 ?c3 ?c4 ?c5 ?_)
  case c2 => first | rfl | (intro u hu; simp at hu; subst hu; rfl)
  case c3 => unfold maxLen; simp
  case c4 => simp
  case c5 => have := K.out.size; simp; omega
  intro v7 w7 hown hkeep hat
  have HO := Lib.hid hown
  have HK := Lib.hid hkeep
  clear hown hkeep hat
  go_wp2_with fail
  go_ret
  rw [HX.out]
  have hne : ∀ i, rfuOwn p none i → ¬ (Value.ownBlock (.slice (some ⟨q4, 0, none⟩) 1 1) = some i) := fun i hi e => by
    rcases hi with rfl | hi
    · have := (V.out.lt _ e).1; have := HPW.out; omega
    · simp [blk] at hi
  refine ⟨_, rfl, ?_, none, 0, ((T.out.alloc _).alloc _).keep HK.out hne, step_nil (((K.out.alloc _).alloc _).trans HK.out (fun i hi e => by have := (V.out.lt i e).1; omega))⟩
  exact HO.out

set_option maxRecDepth 100000 in
set_option maxHeartbeats 1600000 in
theorem refFeed_anew_whole (p : Nat) (B : List Nat) (A : Option Addr) (cap b : Nat) (w : World) (h : RfU w p B A cap) (hb : b < 256) (h0 : B ≠ []) (hm1 : mayB (B ++ [b]) = (false, false)) (hm : mayB [b] = (true, true)) :
    Calls Try.prog 27 #[.pointer (some ⟨p, 0, none⟩), .int .u8 (b : Int)] w (FRefU p A w (byteB B b)) := by
  obtain ⟨i0, hi0, hz0, hz1, hz2⟩ := info_parts rune_info
  obtain ⟨i1, hi1, hy0, hy1, hy2⟩ := info_parts byte_info
  have H := Lib.hid h
  obtain ⟨n, hn⟩ : ∃ n, B.length = n := ⟨_, rfl⟩
  have hfew := h.few
  have hnp : 0 < n := by rw [← hn]; exact List.length_pos_iff.2 h0
  rw [hn] at hfew
  have HM1 := Lib.hid hm1
  have HX : Hid (byteB B b = ([], [65533] ++ [b])) := Lib.hid (by simp [byteB, hm1, hm, h0])
  have HM := Lib.hid hm
  clear hm1 hm
  have c0 := h.cell.1
  have f0 := h.cell.2
  rw [hn] at c0
  have hsrc := h.src
  rw [hn] at hsrc
  obtain ⟨v1, w1, hr, o1, b1⟩ := run_copy_src (P := Try.prog) w 30 30 5 i1 (.int .u8 0) 1 Try.underlying30 hi1 hy0 hy1 hy2 rfl A n cap _ hsrc (bsU_one B) (by unfold maxLen; omega) (by omega)
  have HPW : Hid (p < w.heap.size) := Lib.hid h.ltp
  have HR := Lib.hid hr
  have O1 := Lib.hid o1
  have B1 := Lib.hid b1
  have HN := Lib.hid hn
  have h0n : (0 : Int) < (n : Int) := by omega
  obtain ⟨c1, r, hcr⟩ : ∃ c1 r, B ++ [b] = c1 :: r := by
    cases B with
    | nil => exact absurd rfl h0
    | cons x y => exact ⟨x, y ++ [b], rfl⟩
  have HCR := Lib.hid hcr
  clear h hr o1 b1 hsrc hcr hn h0
  have hs1 := B1.out.size
  go_enter Try.func27, Try.ntmps27
  go_wp2_with (at_builtin; first
    | (refine wpList_plain rfl fun K hK => ?_; unfold Oper.wp execOp; simp only [resolve, invoke, builtin, Sem.run_bind, Sem.run_pure, Result.andThen_ok, List.map_toArray, List.map_cons, List.map_nil]; rw [show (Builtin.append_ _ _ #[Act.eval _ _, Act.eval _ _]).run _ _ = _ from HR.out]; refine hK _ _ ?_)
    | (refine wpList_own_more _ rfl (.tmp 21) (.tmp 23) 30 rfl w.heap.size w1.heap.size 5 i1 (.int .u8 0) 1 1 Try.underlying30 hi1 hy0 hy1 hy2 rfl (by decide) _ _ _ 1 _ [.int .u8 (b : Int)] rfl rfl (own_keep O1.out ((Keep.refl (fun _ => False) w1).alloc _) (fun _ _ x => x)) (own_new1 _ _ _ rfl (Nat.le_refl _)) ?d2 ?d3 ?d4 ?d5 ?_))
  case d2 => first | rfl | (intro u hu; simp at hu; subst hu; rfl)
  case d3 => unfold maxLen; omega
  case d4 => omega
  case d5 => first | omega | (simp; omega)
  intro v2 w2 hown hkeep hat
  obtain ⟨A2, c2, rfl, -⟩ := own_form hown
  have b2 : Below w.heap.size w w2 := ((B1.out.alloc hs1 _).trans (hkeep.below (by simp; omega) (fun i hi e => by have := (O1.out.lt i e).1; omega)))
  have B2 := Lib.hid b2
  have S2 : Hid (Src w2 A2 (n + 1) (bsU (c1 :: r))) := Lib.hid (by rw [← HCR.out, bsU_snoc]; exact (Buf.of_own hown).src)
  have L2 : Hid (∀ i, blk A2 = some i → w.heap.size ≤ i ∧ i < w2.heap.size) := Lib.hid (fun i hi => hown.lt i (by rw [ownBlock_slice]; exact hi))
  have d0 := (b2.cell (p := ⟨p, 0, none⟩) HPW.out).trans c0
  have g0 := (b2.frozen (p := ⟨p, 0, none⟩) HPW.out).trans f0
  clear hown hkeep hat b2 c0 f0 hs1
  go_wp2_with fail
  refine (ref_may A2 (n + 1) c2 c1 r w2 S2.out (by omega)).mono ?_
  rintro e wm ⟨rfl, rfl⟩
  have hm1 : mayB (c1 :: r) = (false, false) := by rw [← HCR.out]; exact HM1.out
  rw [hm1]
  clear hm1
  go_upto_region 13 with fail
  obtain ⟨w3, hw3⟩ : ∃ w3, w3 = wm.setCell ⟨p, 0, none⟩ (.slice none 0 0) := ⟨_, rfl⟩
  have K3 : Hid (Keep (fun i => i = p) wm w3) := Lib.hid (by rw [hw3]; exact keep_set wm p 0 _)
  have hnil : Cell w3 p 0 (.slice none 0 0) := by rw [hw3]; exact Cell.set (b := p) (o := 0) ⟨d0, g0⟩ _
  have T3 := Lib.hid (RfU.empty hnil)
  rw [← hw3]
  have hz3 : w3.heap.size = wm.heap.size := by rw [hw3]; simp [World.setCell]
  try rw [← hz3]
  clear hw3 hnil d0 g0
  obtain ⟨w4, hw4⟩ : ∃ w4, w4 = w3.alloc (.cells #[.int .i32 65533] 21) := ⟨_, rfl⟩
  obtain ⟨q4, hq4⟩ : ∃ q4, q4 = w3.heap.size := ⟨_, rfl⟩
  have T : Hid (RfU w4 p [] none 0) := Lib.hid (by rw [hw4]; exact T3.out.alloc _)
  have K : Hid (Keep (fun i => i = p) w w4) := Lib.hid (by rw [hw4]; exact ((Keep.of_below (fun i => i = p) B2.out).trans K3.out (fun _ _ x => x)).alloc _)
  have V : Hid (w4.ownsRow w.heap.size 21 1 (.slice (some ⟨q4, 0, none⟩) 1 1) 1 (([65533] : List Int).map (Value.int .i32))) := Lib.hid (by rw [hw4]; exact own_new1 _ _ _ hq4 (by rw [hq4]; exact Nat.le_trans B2.out.size K3.out.size))
  rw [← hw4]
  try rw [← hq4]
  clear hw4 hq4 hz3 T3
  go_wp2_with fail
  refine (ref_may (some ⟨w4.heap.size, 0, none⟩) 1 1 b [] _ (src_new w4 [.int .u8 (b : Int)] 5 w4.heap.size rfl 1 rfl) (by omega)).mono ?_
  rintro e wm ⟨rfl, rfl⟩
  rw [HM.out]
  have hw := i32_nat b (by omega)
  have V5 := Lib.hid (own_keep V.out (((Keep.refl (fun _ => False) w4).alloc (.cells #[.int .u8 (b : Int)] 5)).alloc (.cells #[.int .i32 (b : Int)] 21)) (fun _ _ x => x))
  go_wp2_with (at_builtin; refine wpList_own_more _ rfl (.tmp 63) (.tmp 66) 46 rfl w.heap.size (w4.alloc (.cells #[.int .u8 (b : Int)] 5)).heap.size 21 i0 (.int .i32 0) 1 4 Try.underlying46 hi0 hz0 hz1 hz2 rfl (by decide) _ _ _ 1 _ [.int .i32 (b : Int)] rfl rfl V5.out (own_new1 _ _ _ (by simp) (by simp)) ?c2 ?c3 ?c4 ?c5 ?_)
  case c2 => first | rfl | (intro u hu; simp at hu; subst hu; rfl)
  case c3 => unfold maxLen; simp
  case c4 => simp
  case c5 => have := K.out.size; simp; omega
  intro v7 w7 hown hkeep hat
  have HO := Lib.hid hown
  have HK := Lib.hid hkeep
  clear hown hkeep hat
  go_wp2_with fail
  go_ret
  rw [HX.out]
  have hne : ∀ i, rfuOwn p none i → ¬ (Value.ownBlock (.slice (some ⟨q4, 0, none⟩) 1 1) = some i) := fun i hi e => by
    rcases hi with rfl | hi
    · have := (V.out.lt _ e).1; have := HPW.out; omega
    · simp [blk] at hi
  refine ⟨_, rfl, ?_, none, 0, ((T.out.alloc _).alloc _).keep HK.out hne, step_nil (((K.out.alloc _).alloc _).trans HK.out (fun i hi e => by have := (V.out.lt i e).1; omega))⟩
  exact HO.out

set_option maxRecDepth 100000 in
set_option maxHeartbeats 1600000 in
theorem refFeed_anew_keep (p : Nat) (B : List Nat) (A : Option Addr) (cap b : Nat) (w : World) (h : RfU w p B A cap) (hb : b < 256) (h0 : B ≠ []) (hm1 : mayB (B ++ [b]) = (false, false)) (hm : mayB [b] = (true, false)) :
    Calls Try.prog 27 #[.pointer (some ⟨p, 0, none⟩), .int .u8 (b : Int)] w (FRefU p A w (byteB B b)) := by
  obtain ⟨i0, hi0, hz0, hz1, hz2⟩ := info_parts rune_info
  obtain ⟨i1, hi1, hy0, hy1, hy2⟩ := info_parts byte_info
  have H := Lib.hid h
  obtain ⟨n, hn⟩ : ∃ n, B.length = n := ⟨_, rfl⟩
  have hfew := h.few
  have hnp : 0 < n := by rw [← hn]; exact List.length_pos_iff.2 h0
  rw [hn] at hfew
  have HM1 := Lib.hid hm1
  have HX : Hid (byteB B b = ([b], [65533])) := Lib.hid (by simp [byteB, hm1, hm, h0])
  have HM := Lib.hid hm
  clear hm1 hm
  have c0 := h.cell.1
  have f0 := h.cell.2
  rw [hn] at c0
  have hsrc := h.src
  rw [hn] at hsrc
  obtain ⟨v1, w1, hr, o1, b1⟩ := run_copy_src (P := Try.prog) w 30 30 5 i1 (.int .u8 0) 1 Try.underlying30 hi1 hy0 hy1 hy2 rfl A n cap _ hsrc (bsU_one B) (by unfold maxLen; omega) (by omega)
  have HPW : Hid (p < w.heap.size) := Lib.hid h.ltp
  have HR := Lib.hid hr
  have O1 := Lib.hid o1
  have B1 := Lib.hid b1
  have HN := Lib.hid hn
  have h0n : (0 : Int) < (n : Int) := by omega
  obtain ⟨c1, r, hcr⟩ : ∃ c1 r, B ++ [b] = c1 :: r := by
    cases B with
    | nil => exact absurd rfl h0
    | cons x y => exact ⟨x, y ++ [b], rfl⟩
  have HCR := Lib.hid hcr
  clear h hr o1 b1 hsrc hcr hn h0
  have hs1 := B1.out.size
  go_enter Try.func27, Try.ntmps27
  go_wp2_with (at_builtin; first
    | (refine wpList_plain rfl fun K hK => ?_; unfold Oper.wp execOp; simp only [resolve, invoke, builtin, Sem.run_bind, Sem.run_pure, Result.andThen_ok, List.map_toArray, List.map_cons, List.map_nil]; rw [show (Builtin.append_ _ _ #[Act.eval _ _, Act.eval _ _]).run _ _ = _ from HR.out]; refine hK _ _ ?_)
    | (refine wpList_own_more _ rfl (.tmp 21) (.tmp 23) 30 rfl w.heap.size w1.heap.size 5 i1 (.int .u8 0) 1 1 Try.underlying30 hi1 hy0 hy1 hy2 rfl (by decide) _ _ _ 1 _ [.int .u8 (b : Int)] rfl rfl (own_keep O1.out ((Keep.refl (fun _ => False) w1).alloc _) (fun _ _ x => x)) (own_new1 _ _ _ rfl (Nat.le_refl _)) ?d2 ?d3 ?d4 ?d5 ?_))
  case d2 => first | rfl | (intro u hu; simp at hu; subst hu; rfl)
  case d3 => unfold maxLen; omega
  case d4 => omega
  case d5 => first | omega | (simp; omega)
  intro v2 w2 hown hkeep hat
  obtain ⟨A2, c2, rfl, -⟩ := own_form hown
  have b2 : Below w.heap.size w w2 := ((B1.out.alloc hs1 _).trans (hkeep.below (by simp; omega) (fun i hi e => by have := (O1.out.lt i e).1; omega)))
  have B2 := Lib.hid b2
  have S2 : Hid (Src w2 A2 (n + 1) (bsU (c1 :: r))) := Lib.hid (by rw [← HCR.out, bsU_snoc]; exact (Buf.of_own hown).src)
  have L2 : Hid (∀ i, blk A2 = some i → w.heap.size ≤ i ∧ i < w2.heap.size) := Lib.hid (fun i hi => hown.lt i (by rw [ownBlock_slice]; exact hi))
  have d0 := (b2.cell (p := ⟨p, 0, none⟩) HPW.out).trans c0
  have g0 := (b2.frozen (p := ⟨p, 0, none⟩) HPW.out).trans f0
  clear hown hkeep hat b2 c0 f0 hs1
  go_wp2_with fail
  refine (ref_may A2 (n + 1) c2 c1 r w2 S2.out (by omega)).mono ?_
  rintro e wm ⟨rfl, rfl⟩
  have hm1 : mayB (c1 :: r) = (false, false) := by rw [← HCR.out]; exact HM1.out
  rw [hm1]
  clear hm1
  go_upto_region 13 with fail
  obtain ⟨w3, hw3⟩ : ∃ w3, w3 = wm.setCell ⟨p, 0, none⟩ (.slice none 0 0) := ⟨_, rfl⟩
  have K3 : Hid (Keep (fun i => i = p) wm w3) := Lib.hid (by rw [hw3]; exact keep_set wm p 0 _)
  have hnil : Cell w3 p 0 (.slice none 0 0) := by rw [hw3]; exact Cell.set (b := p) (o := 0) ⟨d0, g0⟩ _
  have T3 := Lib.hid (RfU.empty hnil)
  rw [← hw3]
  have hz3 : w3.heap.size = wm.heap.size := by rw [hw3]; simp [World.setCell]
  try rw [← hz3]
  clear hw3 hnil d0 g0
  obtain ⟨w4, hw4⟩ : ∃ w4, w4 = w3.alloc (.cells #[.int .i32 65533] 21) := ⟨_, rfl⟩
  obtain ⟨q4, hq4⟩ : ∃ q4, q4 = w3.heap.size := ⟨_, rfl⟩
  have T : Hid (RfU w4 p [] none 0) := Lib.hid (by rw [hw4]; exact T3.out.alloc _)
  have K : Hid (Keep (fun i => i = p) w w4) := Lib.hid (by rw [hw4]; exact ((Keep.of_below (fun i => i = p) B2.out).trans K3.out (fun _ _ x => x)).alloc _)
  have V : Hid (w4.ownsRow w.heap.size 21 1 (.slice (some ⟨q4, 0, none⟩) 1 1) 1 (([65533] : List Int).map (Value.int .i32))) := Lib.hid (by rw [hw4]; exact own_new1 _ _ _ hq4 (by rw [hq4]; exact Nat.le_trans B2.out.size K3.out.size))
  rw [← hw4]
  try rw [← hq4]
  clear hw4 hq4 hz3 T3
  go_wp2_with fail
  refine (ref_may (some ⟨w4.heap.size, 0, none⟩) 1 1 b [] _ (src_new w4 [.int .u8 (b : Int)] 5 w4.heap.size rfl 1 rfl) (by omega)).mono ?_
  rintro e wm ⟨rfl, rfl⟩
  rw [HM.out]
  have c5 := ((T.out.alloc (.cells #[.int .u8 (b : Int)] 5)).cell).1
  have f5 := ((T.out.alloc (.cells #[.int .u8 (b : Int)] 5)).cell).2
  simp only [List.length_nil] at c5
  have hpl := T.out.ltp
  have hpl2 := (T.out.alloc (.cells #[.int .u8 (b : Int)] 5)).ltp
  go_wp2_with fail
  go_ret
  rw [HX.out]
  have k6 := keep_set w4 p 0 (.slice (some ⟨w4.heap.size + 1, 0, none⟩) 1 1)
  have k7 := ((K.out.trans k6 (fun _ _ x => x)).alloc (.cells #[.int .u8 (b : Int)] 5)).alloc (.cells #[.int .u8 (b : Int)] 5)
  refine ⟨_, rfl, ?_, some ⟨w4.heap.size + 1, 0, none⟩, 1, ⟨((T.out.cell.set _).alloc _).alloc _, ?_, fun e => by simp at e, fun k hk => ?_, fun e => ?_, by simp⟩, step_new k7 (fun i hi => ?_)⟩
  · exact own_keep V.out ((k6.alloc _).alloc _) (fun k hk e => by have := (V.out.lt k hk).1; have := HPW.out; omega)
  · exact src_new ((w4.setCell ⟨p, 0, none⟩ (.slice (some ⟨w4.heap.size + 1, 0, none⟩) 1 1)).alloc (.cells #[.int .u8 (b : Int)] 5)) [.int .u8 (b : Int)] 5 (w4.heap.size + 1) (by simp [World.setCell]) 1 rfl
  · simp [blk] at hk; simp [World.setCell]; omega
  · simp [blk] at e; omega
  · simp [blk] at hi; have := K.out.size; omega

theorem mayB_pair (B : List Nat) : mayB B = (true, true) ∨ mayB B = (true, false) ∨ mayB B = (false, false) := by
  cases B with
  | nil => simp [mayB]
  | cons c r =>
    simp only [mayB]
    split
    · by_cases h : r.length = 0
      · rw [decide_eq_true h]; exact .inl rfl
      · rw [decide_eq_false h]; exact .inr (.inl rfl)
    · split
      · split
        · by_cases h : r.length = moreB c
          · rw [decide_eq_true h]; exact .inl rfl
          · rw [decide_eq_false h]; exact .inr (.inl rfl)
        · exact .inr (.inr rfl)
      · exact .inr (.inr rfl)

theorem ref_feed (p : Nat) (B : List Nat) (A : Option Addr) (cap b : Nat) (w : World) (h : RfU w p B A cap) (hb : b < 256) (hl : (byteB B b).1.length ≤ 3) :
    Calls Try.prog 27 #[.pointer (some ⟨p, 0, none⟩), .int .u8 (b : Int)] w (FRefU p A w (byteB B b)) := by
  by_cases h0 : B = []
  · rcases mayB_pair [b] with e | e | e
    · exact refFeed_nil_whole p B A cap b w h hb h0 e
    · exact refFeed_nil_keep p B A cap b w h hb h0 e
    · exact refFeed_nil_bad p B A cap b w h hb h0 e
  · rcases mayB_pair (B ++ [b]) with e1 | e1 | e1
    · exact refFeed_on_whole p B A cap b w h hb h0 e1
    · have hx : byteB B b = (B ++ [b], []) := by simp [byteB, e1, h0]
      rw [hx] at hl
      exact refFeed_on_more p B A cap b w h hb h0 e1 hl
    · rcases mayB_pair [b] with e | e | e
      · exact refFeed_anew_whole p B A cap b w h hb h0 e1 e
      · exact refFeed_anew_keep p B A cap b w h hb h0 e1 e
      · exact refFeed_anew_bad p B A cap b w h hb h0 e1 e

end Go.Proofs.Ytoihadjboeeglaa
