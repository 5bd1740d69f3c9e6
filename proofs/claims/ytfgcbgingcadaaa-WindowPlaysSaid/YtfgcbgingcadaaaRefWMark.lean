/- The document's own window: Mark. Own work. -/
import Derived.Test.YtfgcbgingcadaaaRefW
namespace Go.Proofs.Ytfgcbgingcadaaa
set_option linter.unusedVariables false
set_option linter.unusedSimpArgs false
open Go.RowKit

/-- What is left of the first k numbers. -/
def leftL (t : Int) (g : List Int) (k : Nat) : List Int := (g.take k).filter (fun x => decide (t - 64 < x))

theorem leftL_yes {t x : Int} {g : List Int} {k : Nat} (hx : g[k]? = some x) (h : t - 64 < x) : leftL t g (k + 1) = leftL t g k ++ [x] := by
  unfold leftL
  rw [take_next hx, List.filter_append]
  simp [h]
theorem leftL_no {t x : Int} {g : List Int} {k : Nat} (hx : g[k]? = some x) (h : ¬ t - 64 < x) : leftL t g (k + 1) = leftL t g k := by
  unfold leftL
  rw [take_next hx, List.filter_append]
  simp [h]
theorem leftL_len (t : Int) (g : List Int) (k : Nat) : (leftL t g k).length ≤ k := Nat.le_trans (List.length_filter_le _ _) (List.length_take_le _ _)

/-- Between the rounds of Mark. -/
structure MarkAt (w0 : World) (p o : Nat) (t : Int) (A : Option Addr) (c : Nat) (g : List Int) (L : Option Addr) (lc : Nat) (lst : List Int) (w : World) : Prop where
  ref : RefAt w p o t A c g
  buf : Buf w L lst.length lc (lst.map (Value.int .i64))
  new : ∀ k, blk L = some k → w0.heap.size ≤ k
  keep : Keep (fun k => p = k) w0 w
  lp : p < w0.heap.size
  la : ∀ k, blk A = some k → k < w0.heap.size

theorem MarkAt.drewN {w0 w : World} {p o : Nat} {t : Int} {A : Option Addr} {c : Nat} {g : List Int} {L : Option Addr} {lc : Nat} {lst : List Int} (h : MarkAt w0 p o t A c g L lc lst w) (k : Nat) : MarkAt w0 p o t A c g L lc lst (w.drewN k) :=
  ⟨h.ref.keep (S := fun _ => False) ((Keep.refl _ w).drewN k) (fun x => x) (fun _ _ x => x), h.buf.drewN k, h.new, h.keep.drewN k, h.lp, h.la⟩

/-- One more. -/
theorem MarkAt.more {w0 w w2 : World} {p o : Nat} {t : Int} {A : Option Addr} {c : Nat} {g : List Int} {L L' : Option Addr} {lc lc' : Nat} {lst : List Int} {x : Int} {ob : Obj} (h : MarkAt w0 p o t A c g L lc lst w)
    (hb : Buf w2 L' (lst.length + 1) lc' (lst.map (Value.int .i64) ++ [.int .i64 x])) (hk : Keep (fun k => blk L = some k) (w.alloc ob) w2) (hf : ∀ k, blk L' = some k → blk L = some k ∨ (w.alloc ob).heap.size ≤ k) :
    MarkAt w0 p o t A c g L' lc' (lst ++ [x]) w2 := by
  have hk2 : Keep (fun k => blk L = some k) w w2 := ((Keep.refl (fun k => blk L = some k) w).alloc ob).trans hk (fun _ _ e => e)
  have hs := h.keep.size
  refine ⟨h.ref.keep hk2 (fun e => ?_) (fun i hi e => ?_), ?_, fun k hk' => ?_, h.keep.trans hk2 (fun i hi e => ?_), h.lp, h.la⟩
  · have := h.new _ e; have := h.lp; omega
  · have := h.new _ e; have := h.la _ hi; omega
  · simpa using hb
  · rcases hf k hk' with e | e
    · exact h.new k e
    · simp at e; omega
  · have := h.new _ e; omega

/-- The list is kept. -/
theorem MarkAt.done {w0 w : World} {p o : Nat} {t : Int} {A : Option Addr} {c : Nat} {g : List Int} {L : Option Addr} {lc : Nat} {lst : List Int} (h : MarkAt w0 p o t A c g L lc lst w) : RefAt (w.setCell ⟨p, o + 1, none⟩ (.slice L lst.length lc)) p o t L lc lst := by
  have kp : Keep (fun k => p = k) w (w.setCell ⟨p, o + 1, none⟩ (.slice L lst.length lc)) := Keep.setCell (S := fun k => p = k) (Keep.refl _ w) (p := ⟨p, o + 1, none⟩) (fun _ => rfl) _
  have hn : ∀ i, blk L = some i → ¬ p = i := fun i hi e => by have := h.new i hi; have := h.lp; omega
  exact ⟨(World.cell?_setCell_other w _ _ _ (by simp)).trans h.ref.c0, World.cell?_setCell_same w _ _ h.ref.c1, by simpa using h.ref.f0, by simpa using h.ref.f1, h.buf.keep kp hn, hn⟩

set_option maxRecDepth 100000 in
set_option maxHeartbeats 1600000 in
theorem ref_mark_not (p o : Nat) (t : Int) (A : Option Addr) (c : Nat) (g : List Int) (n : Int) (w : World) (h : RefAt w p o t A c g) (h0 : 0 ≤ t) (h1 : t ≤ 4611686018427387904) (hl : g.length ≤ 1000000) (hf : freshL t g n = false) :
    Calls Try.prog 11 #[.pointer (some ⟨p, o, none⟩), .int .i64 n] w fun e w' => e = .returned (.bool false) ∧ w = w' := by
  have HF := Lib.hid hf
  have HR := Lib.hid (ref_fresh p o t A c g n w h h0 h1 hl)
  clear h hf
  go_enter Try.func11, Try.ntmps11
  go_wp2_with fail
  refine HR.out.mono ?_
  rintro e w' ⟨rfl, rfl⟩
  rw [HF.out]
  go_wp2_with fail
  go_ret
  exact ⟨rfl, rfl⟩

/-- What Mark leaves. -/
def MarkedTo (p o : Nat) (t : Int) (g : List Int) (n : Int) (w : World) (e : Ending) (w' : World) : Prop :=
  e = .returned (.bool true) ∧ ∃ A' c', RefAt w' p o (max t n) A' c' (markL t g n) ∧ Keep (fun k => p = k) w w' ∧ ∀ k, blk A' = some k → w.heap.size ≤ k

set_option maxRecDepth 100000 in
set_option maxHeartbeats 3200000 in
theorem ref_mark_yes (p o : Nat) (t : Int) (A : Option Addr) (c : Nat) (g : List Int) (n : Int) (w : World) (h : RefAt w p o t A c g) (hg : GotOk t g) (hl : g.length ≤ 1000000) (hf : freshL t g n = true) :
    Calls Try.prog 11 #[.pointer (some ⟨p, o, none⟩), .int .i64 n] w (MarkedTo p o t g n w) := by
  obtain ⟨i0, hi0, hz0, hz1, hz2⟩ := info_parts int_info
  have HI0 := Lib.hid hi0
  have HI1 := Lib.hid hz0
  have HI2 := Lib.hid hz1
  have HI3 := Lib.hid hz2
  clear hi0 hz0 hz1 hz2
  have hok := mark_ok hg hf
  have h0 := hg.lo
  have h1 := hg.hi
  have m0 := hok.lo
  have m1 := hok.hi
  have HF := Lib.hid hf
  have HR := Lib.hid (ref_fresh p o t A c g n w h h0 h1 hl)
  have H := Lib.hid h
  have c0 := h.c0
  have c1 := h.c1
  have f0 := h.f0
  clear h hf hok hg
  go_enter Try.func11, Try.ntmps11
  go_wp2_with fail
  refine HR.out.mono ?_
  rintro e w' ⟨rfl, rfl⟩
  rw [HF.out]
  go_wp2_with fail
  obtain ⟨T, hT⟩ : ∃ T, T = max t n := ⟨_, rfl⟩
  rw [← hT] at m0 m1 ⊢
  have HT := Lib.hid hT
  clear hT
  have M0 : Hid (MarkAt w p o T A c g none 0 [] (w.setCell ⟨p, o, none⟩ (.int .i64 T))) := by
    have h := H.out
    have kp : Keep (fun k => p = k) w (w.setCell ⟨p, o, none⟩ (.int .i64 T)) := Keep.setCell (S := fun k => p = k) (Keep.refl _ w) (p := ⟨p, o, none⟩) (fun _ => rfl) _
    exact Lib.hid ⟨⟨World.cell?_setCell_same w _ _ h.c0, (World.cell?_setCell_other w _ _ _ (by simp)).trans h.c1, by simpa using h.f0, by simpa using h.f1, h.buf.keep kp (fun i hi e => h.ne i hi e), h.ne⟩,
      Buf.nil _, fun k hk => by simp [blk] at hk, kp, h.lt, fun k hk => h.buf.lt hk⟩
  clear c0 c1 f0 HR
  go_loopw [5, 6] (fun l i wr => ∃ (k : Nat) (L : Option Addr) (lc : Nat), i = .int .i64 k ∧ k ≤ g.length ∧ l = .slice L (leftL T g k).length lc ∧ Hid (MarkAt w p o T A c g L lc (leftL T g k) wr)) (fun _ i _ => g.length - (intOf i).toNat)
  case atStart => exact ⟨0, none, 0, rfl, by omega, rfl, M0⟩
  case round =>
    obtain ⟨k, L, lc, rfl, hk, rfl, HM⟩ := hrel
    clear M0
    have c0 := HM.out.ref.c0
    have c1 := HM.out.ref.c1
    have hll := leftL_len T g k
    by_cases hlt : k < g.length
    · obtain ⟨x, b, off, hx, rfl, rx, hpb, hbl⟩ := HM.out.ref.at hlt
      have HX := Lib.hid hx
      have i1 : IntKind.i64.wrap (T - 64) = T - 64 := IntWalk.i64_in _ (by omega)
      clear hx
      by_cases hxt : T - 64 < x
      · have hd : decide (T - 64 < x) = true := by simpa using hxt
        go_wp2_with fail
        go_quiet (fail)
        clear i1
        have NL := Lib.hid (leftL_yes HX.out hxt)
        go_wp2_with (at_builtin; refine wpList_append_buf _ rfl (.tmp 42) (.tmp 50) 22 rfl 3 i0 (.int .i64 0) 8 Try.underlying22 HI0.out HI1.out HI2.out HI3.out rfl rfl ((HM.out.drewN _).buf.keep ((Keep.refl (fun _ => False) _).alloc _) (fun _ _ x => x)) [.int .i64 x] rfl (src_one _ _ _ (by simp)) (by intro u hu; simp at hu; subst hu; rfl) (by unfold maxLen; omega) (by omega) ?_)
        intro L' lc' w2 hb hk2 hf
        have HM2 : Hid (MarkAt w p o T _ c g L' lc' (leftL T g k ++ [x]) w2) := Lib.hid ((HM.out.drewN _).more hb hk2 (fun k hk => (hf k hk).imp_right (fun h => by first | exact h | (simp; omega))))
        have HLE : Hid ((leftL T g k).length + 1 = (leftL T g (k + 1)).length) := Lib.hid (by rw [NL.out]; simp)
        clear hb hk2 hf
        go_wp2_with fail
        go_roundw
        case rel => exact ⟨k + 1, L', lc', by go_num, by omega, by rw [← HLE.out], by rw [NL.out]; exact HM2⟩
        case measure => simp [intOf]; omega
      · have hd : decide (T - 64 < x) = false := by simpa using hxt
        have NL := Lib.hid (leftL_no HX.out hxt)
        go_wp2_with fail
        go_quiet (fail)
        clear i1
        go_wp2_with fail
        go_roundw
        case rel => exact ⟨k + 1, L, lc, by go_num, by omega, by rw [NL.out], by rw [NL.out]; exact Lib.hid (HM.out.drewN _)⟩
        case measure => simp [intOf]; omega
    · have hm : Hid (leftL T g k ++ [n] = markL t g n) := Lib.hid (by
        unfold leftL markL
        rw [List.take_of_length_le (by omega), HT.out])
      have f1 := HM.out.ref.f1
      go_wp2_with (at_builtin; refine wpList_append_buf _ rfl (.tmp 53) (.tmp 55) 22 rfl 3 i0 (.int .i64 0) 8 Try.underlying22 HI0.out HI1.out HI2.out HI3.out rfl rfl (HM.out.buf.keep ((Keep.refl (fun _ => False) _).alloc _) (fun _ _ x => x)) [.int .i64 n] rfl (src_one _ _ _ (by simp)) (by intro u hu; simp at hu; subst hu; rfl) (by unfold maxLen; omega) (by omega) ?_)
      intro L' lc' w2 hb hk2 hf
      have HM2 : Hid (MarkAt w p o T A c g L' lc' (leftL T g k ++ [n]) w2) := Lib.hid (HM.out.more hb hk2 (fun k hk => (hf k hk).imp_right (fun h => by first | exact h | (simp; omega))))
      have HLE : Hid ((leftL T g k).length + 1 = (leftL T g k ++ [n]).length) := Lib.hid (by simp)
      have e1 := HM2.out.ref.c1
      have e2 := HM2.out.ref.f1
      clear hb hk2 hf c0 c1 f1
      go_wp2_with fail
      go_ret
      refine ⟨rfl, L', lc', ?_, ?_, HM2.out.new⟩
      · rw [← hm.out, ← HT.out, HLE.out]
        exact HM2.out.done
      · exact HM2.out.keep.trans (Keep.setCell (S := fun k => p = k) (Keep.refl _ w2) (p := ⟨p, o + 1, none⟩) (fun _ => rfl) _) (fun _ _ e => e)

end Go.Proofs.Ytfgcbgingcadaaa
