/- The document's Reader in memory: sub. Own work. -/
import Derived.Test.YtopgejjencoelaaRefR
namespace Go.Proofs.Ytopgejjencoelaa
set_option linter.unusedVariables false
set_option linter.unusedSimpArgs false
open Go.RowKit

section
variable (p : Nat) (bin : Bool) (f : Rf) (C : Option Addr) (k : Nat) (A : Option Addr) (c : Nat) (b : UInt8) (w : World)

/-- A call of sub, told. -/
def SubTold : Prop := Calls Try.prog 51 #[.pointer (some ⟨p, 0, none⟩), .int .u8 (b.toNat : Int)] w (FRes p bin C A w (subR f b))

set_option maxRecDepth 100000 in
set_option maxHeartbeats 800000 in
theorem sub_iac (h : RfIn w p bin f C k A c) (hi : f.iac = false) (hb : b = 255) : SubTold p bin f C A b w := by
  have c7 := (h.cs 7 _ rfl).1
  have f7 := (h.cs 7 _ rfl).2
  rw [hi] at c7
  have e1 : ((b.toNat : Int) == 255) = true := (u8_int b 255).trans (by simp [hb])
  have HF := Lib.hid (RfTo.of (h.turn (f' := ⟨f.cr, f.cmd, f.inn, f.opt, f.body, f.long, true⟩) (C' := C) (k' := k) (A' := A) (c' := c) (keep_set w p 7 _) (h.cs.set 7 (by simp [rfCells]) (.bool true)) (.inl ⟨rfl, rfl⟩) (.inl ⟨rfl, rfl, rfl⟩)))
  have HR := Lib.hid (show subR f b = (⟨f.cr, f.cmd, f.inn, f.opt, f.body, f.long, true⟩, []) from if_pos ⟨hi, hb⟩)
  unfold SubTold
  rw [HR.out]
  clear h hi hb
  go_enter Try.func51, Try.ntmps51
  go_wp2_with fail
  go_ret
  exact FRes.nil HF.out

set_option maxRecDepth 100000 in
set_option maxHeartbeats 800000 in
theorem sub_kept (h : RfIn w p bin f C k A c) (hi : ¬ (f.iac = false ∧ b = 255)) (hj : ¬ (f.iac = true ∧ b ≠ 255)) : SubTold p bin f C A b w := by
  obtain ⟨i0, hi0, hz0, hz1, hz2⟩ := info_parts byte_info
  obtain ⟨x, hx⟩ : ∃ x, x = f.iac := ⟨_, rfl⟩
  have c7 := (h.cs 7 _ rfl).1
  have f7 := (h.cs 7 _ rfl).2
  have c5 := (h.cs 5 _ rfl).1
  have f5 := (h.cs 5 _ rfl).2
  have c6 := (h.cs 6 _ rfl).1
  have f6 := (h.cs 6 _ rfl).2
  rw [← hx] at c7
  have e1 : ((b.toNat : Int) == 255) = x := (u8_int b 255).trans (by cases x <;> simp_all)
  have H := Lib.hid h
  have hp := h.lt
  have hok := h.ok
  have k7 : Keep (· = p) w (w.setCell ⟨p, 7, none⟩ (.bool false)) := keep_set w p 7 _
  by_cases hf : 40 ≤ f.body.length
  · have HR := Lib.hid (show subR f b = (⟨f.cr, f.cmd, f.inn, f.opt, f.body, true, false⟩, []) by unfold subR; rw [if_neg hi, if_neg hj, if_pos hf])
    have HF := Lib.hid (RfTo.of (h.turn (f' := ⟨f.cr, f.cmd, f.inn, f.opt, f.body, true, false⟩) (C' := C) (k' := k) (A' := A) (c' := c) (k7.own 6 _) ((h.cs.set 7 (by simp [rfCells]) (.bool false)).set 6 (by simp [rfCells]) (.bool true)) (.inl ⟨rfl, rfl⟩) (.inl ⟨rfl, rfl, rfl⟩)))
    have e2 : (40 : Int) ≤ (f.body.length : Int) := by omega
    unfold SubTold
    rw [HR.out]
    clear h hi hj hx hf hok k7
    cases x
    · go_enter Try.func51, Try.ntmps51
      go_wp2_with fail
      go_ret
      exact FRes.nil HF.out
    · go_enter Try.func51, Try.ntmps51
      go_wp2_with fail
      go_ret
      exact FRes.nil HF.out
  · have HR := Lib.hid (show subR f b = (⟨f.cr, f.cmd, f.inn, f.opt, f.body ++ [b], f.long, false⟩, []) by unfold subR; rw [if_neg hi, if_neg hj, if_neg hf])
    have HG := Lib.hid (h.turn (f' := ⟨f.cr, f.cmd, f.inn, f.opt, f.body, f.long, false⟩) (C' := C) (k' := k) (A' := A) (c' := c) k7 (h.cs.set 7 (by simp [rfCells]) (.bool false)) (.inl ⟨rfl, rfl⟩) (.inl ⟨rfl, rfl, rfl⟩))
    have e2 : ¬ (40 : Int) ≤ (f.body.length : Int) := by omega
    have hl2 := Lib.hid (show f.body.length + 1 ≤ 40 by omega)
    unfold SubTold
    rw [HR.out]
    clear h hi hj hx hf hok k7
    cases x
    all_goals
      go_enter Try.func51, Try.ntmps51
      go_wp2_with (at_builtin; refine wpList_append_buf _ rfl (.tmp 77) (.tmp 79) 58 rfl 5 i0 (.int .u8 0) 1 Try.underlying58 hi0 hz0 hz1 hz2 rfl rfl (HG.out.1.alloc _).buf [.int .u8 (b.toNat : Int)] rfl (src_one _ _ _ (by simp)) (one_byte _) ?_ ?_ ?_)
      · have := hl2.out; unfold maxLen; omega
      · have := hl2.out; omega
      · intro A2 c2 w2 hb hk hat
        have hk' : Keep (fun k => blk A = some k) (w.setCell ⟨p, 7, none⟩ (.bool false)) w2 := ((Keep.refl _ _).alloc _).trans hk (fun _ _ x => x)
        have e1 : (f.body ++ [b]).length = f.body.length + 1 := by simp
        have e2 : Lib.byteCells (f.body ++ [b]) = Lib.byteCells f.body ++ [.int .u8 (b.toNat : Int)] := by simp [Lib.byteCells]
        have hb' : Buf w2 A2 (f.body ++ [b]).length c2 (Lib.byteCells (f.body ++ [b])) := by rw [e1, e2]; exact hb
        have HF := Lib.hid (HG.out.1.setBody hk' hb' (by rw [e1]; exact hl2.out) (fun i hi => (hat i hi).imp id (fun x => by simp at x ⊢; omega)))
        have g4 := ((HG.out.1.cs 5 _ rfl).keep hk' H.out.ne).1
        have k4 := ((HG.out.1.cs 5 _ rfl).keep hk' H.out.ne).2
        have HF2 := Lib.hid (RfTo.of ⟨HF.out.1, HG.out.2.trans HF.out.2⟩)
        rw [e1] at HF2
        clear hb hk hk' hat e1 e2 hb' HF
        go_wp2_with fail
        go_ret
        exact FRes.nil HF2.out

set_option maxRecDepth 100000 in
set_option maxHeartbeats 1600000 in
theorem sub_long (h : RfIn w p bin f C k A c) (hi : f.iac = true) (hb : b ≠ 255) (h240 : b = 240) (hl : f.long = true) : SubTold p bin f C A b w := by
  have c3 := (h.cs 3 _ rfl).1
  have c4 := (h.cs 4 _ rfl).1
  have c5 := (h.cs 5 _ rfl).1
  have c6 := (h.cs 6 _ rfl).1
  have c7 := (h.cs 7 _ rfl).1
  rw [hi] at c7
  have hp := h.lt
  have e1 : ((b.toNat : Int) == 255) = false := (u8_int b 255).trans (by simp [hb])
  obtain ⟨T, hT⟩ : ∃ T : ByteArray, T = ⟨f.body.toArray⟩ := ⟨_, rfl⟩
  have HS := Lib.hid (show ∀ w', Below w.heap.size w w' → w'.cell? ⟨p, 4, none⟩ = some (.int .i64 f.opt) ∧ w'.cell? ⟨p, 5, none⟩ = some (.slice A f.body.length c) ∧ (convert 58 9 (.slice A f.body.length c)).run Try.prog w' = .ok (.string T) w' from fun w' q => by
    have := run_buf_string (P := Try.prog) 58 9 5 (h.below q).buf Try.underlying58 Try.underlying5 Try.underlying9 f.body.length (Nat.le_refl _)
    rw [List.take_of_length_le (Nat.le_refl _), ← hT] at this
    exact ⟨((h.below q).cs 4 _ rfl).1, ((h.below q).cs 5 _ rfl).1, this⟩)
  have H := Lib.hid h
  have HT := Lib.hid hT
  have r1 : ¬ (f.iac = false ∧ b = 255) := fun x => hb x.2
  have r2 : f.iac = true ∧ b ≠ 255 := ⟨hi, hb⟩
  rw [hl] at c6
  have e2 : ((b.toNat : Int) == 240) = true := (u8_int b 240).trans (by simp [h240])
  have HR := Lib.hid (show subR f b = (⟨f.cr, f.cmd, false, f.opt, [], false, false⟩, []) by unfold subR; rw [if_neg r1, if_pos r2, if_neg (fun x => x h240), if_pos hl])
  unfold SubTold
  rw [HR.out]
  have HW := Lib.hid (show ∀ W1, Below w.heap.size w W1 → W1.cell? ⟨p, 3, none⟩ = some (.bool f.inn) ∧ W1.frozen? ⟨p, 3, none⟩ = false ∧ W1.cell? ⟨p, 5, none⟩ = some (.slice A f.body.length c) ∧ W1.frozen? ⟨p, 5, none⟩ = false ∧ W1.cell? ⟨p, 6, none⟩ = some (.bool true) ∧ W1.frozen? ⟨p, 6, none⟩ = false ∧ W1.cell? ⟨p, 7, none⟩ = some (.bool true) ∧ W1.frozen? ⟨p, 7, none⟩ = false from fun W1 q =>
    ⟨((h.below q).cs 3 _ rfl).1, ((h.below q).cs 3 _ rfl).2, ((h.below q).cs 5 _ rfl).1, ((h.below q).cs 5 _ rfl).2, (q.cell (p := ⟨p, 6, none⟩) hp).trans c6, ((h.below q).cs 6 _ rfl).2, (q.cell (p := ⟨p, 7, none⟩) hp).trans c7, ((h.below q).cs 7 _ rfl).2⟩)
  have HF := Lib.hid (show ∀ W1, Below w.heap.size w W1 → RfIn ((((W1.setCell ⟨p, 3, none⟩ (.bool false)).setCell ⟨p, 5, none⟩ (.slice none 0 0)).setCell ⟨p, 7, none⟩ (.bool false)).setCell ⟨p, 6, none⟩ (.bool false)) p bin ⟨f.cr, f.cmd, false, f.opt, [], false, false⟩ C k none 0 ∧ Step (rfOwn p C A) w (rfOwn p C none) ((((W1.setCell ⟨p, 3, none⟩ (.bool false)).setCell ⟨p, 5, none⟩ (.slice none 0 0)).setCell ⟨p, 7, none⟩ (.bool false)).setCell ⟨p, 6, none⟩ (.bool false)) from fun W1 q =>
    h.turn ((((Keep.of_below (· = p) q).own 3 _).own 5 _).own 7 _ |>.own 6 _) (((((h.below q).cs.set 3 (by simp [rfCells]) _).set 5 (by simp [rfCells]) _).set 7 (by simp [rfCells]) _).set 6 (by simp [rfCells]) _) (.inl ⟨rfl, rfl⟩) (.inr ⟨rfl, rfl, rfl⟩))
  clear h hi hb hT r1 r2 h240 hl
  go_enter Try.func51, Try.ntmps51
  go_wp2_with fail
  refine wp_region_noPanic ?_
  refine wp_region_held_drew (S := fun w' => w'.cell? ⟨p, 4, none⟩ = some (.int .i64 f.opt) ∧ w'.cell? ⟨p, 5, none⟩ = some (.slice A f.body.length c) ∧ (convert 58 9 (.slice A f.body.length c)).run Try.prog w' = .ok (.string T) w') (by kernel_rfl) (HS.out _ ((Below.refl _ _).drew)) (fun hHeld => ?_)
  refine wpAnyH_take (i := 0) (oi := _) (v := ?va0) rfl (by kernel_rfl) (by kernel_rfl) (by kernel_rfl) (fun _ _ _ h => h) (Or.inl ⟨by rfl, ?hya0⟩) (by assumption) ?resta0
  case hya0 => (intro w hSw; (try dsimp only at hSw); (try simp only [List.getElem_toArray, List.getElem_cons_zero, List.getElem_cons_succ]); go_simp; (try with_reducible rfl))
  (try simp only [Act.put, List.setIfInBounds_toArray, List.set_cons_zero, List.set_cons_succ, List.getElem_toArray, List.getElem_cons_zero, List.getElem_cons_succ])
  refine wpAnyH_take (i := 1) (oi := _) (v := ?va1) rfl (by kernel_rfl) (by kernel_rfl) (by kernel_rfl) (fun _ _ _ h => h) (Or.inl ⟨by rfl, ?hya1⟩) (by assumption) ?resta1
  case hya1 => (intro w hSw; (try dsimp only at hSw); (try simp only [List.getElem_toArray, List.getElem_cons_zero, List.getElem_cons_succ]); go_simp; (try with_reducible rfl))
  (try simp only [Act.put, List.setIfInBounds_toArray, List.set_cons_zero, List.set_cons_succ, List.getElem_toArray, List.getElem_cons_zero, List.getElem_cons_succ])
  refine wpAnyH_take (i := 2) (oi := _) (v := ?va2) rfl (by kernel_rfl) (by kernel_rfl) (by kernel_rfl) (fun _ _ _ h => h) (Or.inl ⟨by rfl, ?hya2⟩) (by assumption) ?resta2
  case hya2 => (intro w hSw; (try dsimp only at hSw); (try simp only [List.getElem_toArray, List.getElem_cons_zero, List.getElem_cons_succ]); go_simp; (try with_reducible rfl))
  (try simp only [Act.put, List.setIfInBounds_toArray, List.set_cons_zero, List.set_cons_succ, List.getElem_toArray, List.getElem_cons_zero, List.getElem_cons_succ])
  refine wpAnyH_take (i := 3) (oi := _) (v := ?va3) rfl (by kernel_rfl) (by kernel_rfl) (by kernel_rfl) (fun _ _ _ h => h) (Or.inl ⟨by rfl, ?hya3⟩) (by assumption) ?resta3
  case hya3 => (intro w hSw; (try dsimp only at hSw); (try simp only [List.getElem_toArray, List.getElem_cons_zero, List.getElem_cons_succ]); go_simp; (try with_reducible rfl))
  (try simp only [Act.put, List.setIfInBounds_toArray, List.set_cons_zero, List.set_cons_succ, List.getElem_toArray, List.getElem_cons_zero, List.getElem_cons_succ])
  refine wpAnyH_take (i := 4) (oi := _) (v := ?va4) rfl (by kernel_rfl) (by kernel_rfl) (by kernel_rfl) (fun _ _ _ h => h) (Or.inl ⟨by rfl, ?hya4⟩) (by assumption) ?resta4
  case hya4 => (intro w hSw; (try dsimp only at hSw); (try simp only [List.getElem_toArray, List.getElem_cons_zero, List.getElem_cons_succ]); go_simp; (try with_reducible rfl))
  (try simp only [Act.put, List.setIfInBounds_toArray, List.set_cons_zero, List.set_cons_succ, List.getElem_toArray, List.getElem_cons_zero, List.getElem_cons_succ])
  refine wpAnyH_take (i := 5) (oi := _) (v := ?va5) rfl (by kernel_rfl) (by kernel_rfl) (by kernel_rfl) (fun _ _ _ h => h) (Or.inl ⟨by rfl, ?hya5⟩) (by assumption) ?resta5
  case hya5 => (intro w hSw; (try dsimp only at hSw); (try simp only [List.getElem_toArray, List.getElem_cons_zero, List.getElem_cons_succ]); go_simp; (try with_reducible rfl))
  (try simp only [Act.put, List.setIfInBounds_toArray, List.set_cons_zero, List.set_cons_succ, List.getElem_toArray, List.getElem_cons_zero, List.getElem_cons_succ])
  refine wpAnyH_take (i := 6) (oi := _) (v := ?va6) rfl (by kernel_rfl) (by kernel_rfl) (by kernel_rfl) (fun _ _ _ h => h) (Or.inl ⟨by rfl, ?hya6⟩) (by assumption) ?resta6
  case hya6 => (intro w hSw; (try dsimp only at hSw); (try simp only [List.getElem_toArray, List.getElem_cons_zero, List.getElem_cons_succ]); go_simp; (try with_reducible rfl))
  (try simp only [Act.put, List.setIfInBounds_toArray, List.set_cons_zero, List.set_cons_succ, List.getElem_toArray, List.getElem_cons_zero, List.getElem_cons_succ])
  refine wpAnyH_take (i := 7) (oi := _) (v := ?va7) rfl (by kernel_rfl) (by kernel_rfl) (by kernel_rfl) (fun _ _ _ h => h) (Or.inl ⟨by rfl, ?hya7⟩) (by assumption) ?resta7
  case hya7 => (intro w hSw; (try dsimp only at hSw); (try simp only [List.getElem_toArray, List.getElem_cons_zero, List.getElem_cons_succ]); go_simp; (try with_reducible rfl))
  (try simp only [Act.put, List.setIfInBounds_toArray, List.set_cons_zero, List.set_cons_succ, List.getElem_toArray, List.getElem_cons_zero, List.getElem_cons_succ])
  refine wpAnyH_take (i := 8) (oi := _) (v := ?va8) rfl (by kernel_rfl) (by kernel_rfl) (by kernel_rfl) (fun _ _ _ h => h) (Or.inl ⟨by rfl, ?hya8⟩) (by assumption) ?resta8
  case hya8 => (intro w hSw; (try dsimp only at hSw); (try simp only [List.getElem_toArray, List.getElem_cons_zero, List.getElem_cons_succ]); go_simp; (try with_reducible rfl))
  (try simp only [Act.put, List.setIfInBounds_toArray, List.set_cons_zero, List.set_cons_succ, List.getElem_toArray, List.getElem_cons_zero, List.getElem_cons_succ])
  refine wpAnyH_take (i := 9) (oi := _) (v := ?va9) rfl (by kernel_rfl) (by kernel_rfl) (by kernel_rfl) (fun _ _ _ h => h) (Or.inl ⟨by rfl, ?hya9⟩) (by assumption) ?resta9
  case hya9 => (intro w hSw; (try dsimp only at hSw); (try simp only [List.getElem_toArray, List.getElem_cons_zero, List.getElem_cons_succ]); go_simp; (try with_reducible rfl))
  (try simp only [Act.put, List.setIfInBounds_toArray, List.set_cons_zero, List.set_cons_succ, List.getElem_toArray, List.getElem_cons_zero, List.getElem_cons_succ])
  refine wpAnyH_ready (rs := [10]) (by kernel_rfl) (by simp) ?_
  refine AllReadyH.cons (o := _) rfl (fun K hK => ?_) AllReadyH.nil
  (try simp only [List.getElem_toArray, List.getElem_cons_zero, List.getElem_cons_succ])
  go_simp
  refine hK.out _ _ ?_ (fun hHeld => ?_)
  · exact HS.out _ (((Below.refl _ w).drew).alloc (Nat.le_refl _) _)
  clear hK K
  (try simp only [Act.put, List.setIfInBounds_toArray, List.set_cons_zero, List.set_cons_succ, List.getElem_toArray, List.getElem_cons_zero, List.getElem_cons_succ])
  refine wpAnyH_ready (rs := [11]) (by kernel_rfl) (by simp) ?_
  refine AllReadyH.cons (o := _) rfl (fun K hK => ?_) AllReadyH.nil
  (try simp only [List.getElem_toArray, List.getElem_cons_zero, List.getElem_cons_succ])
  go_simp
  refine hK.out _ _ ?_ (fun hHeld => ?_)
  · exact HS.out _ (((Below.refl _ w).alloc (Nat.le_refl _) _).drew)
  clear hK K
  (try simp only [Act.put, List.setIfInBounds_toArray, List.set_cons_zero, List.set_cons_succ, List.getElem_toArray, List.getElem_cons_zero, List.getElem_cons_succ])
  refine wpAnyH_done (by kernel_rfl) ?_ _
  refine NoPanic.normal ?_
  obtain ⟨W1, hW1⟩ : ∃ W1, W1 = (w.alloc (.cells #[.int .i64 3, .int .i64 0, .int .i64 f.opt, .string T] 67)).drew := ⟨_, rfl⟩
  obtain ⟨n, hn⟩ : ∃ n, n = w.heap.size := ⟨_, rfl⟩
  have q1 : Below w.heap.size w W1 := by rw [hW1]; exact ((Below.refl _ w).alloc (Nat.le_refl _) _).drew
  have g0 : W1.cell? ⟨n, 0, none⟩ = some (.int .i64 3) := by rw [hW1, hn]; exact cells_new w [.int .i64 3, .int .i64 0, .int .i64 f.opt, .string T] _ _ rfl 0 _ rfl
  have g1 : W1.cell? ⟨n, 1, none⟩ = some (.int .i64 0) := by rw [hW1, hn]; exact cells_new w [.int .i64 3, .int .i64 0, .int .i64 f.opt, .string T] _ _ rfl 1 _ rfl
  have g2 : W1.cell? ⟨n, 2, none⟩ = some (.int .i64 f.opt) := by rw [hW1, hn]; exact cells_new w [.int .i64 3, .int .i64 0, .int .i64 f.opt, .string T] _ _ rfl 2 _ rfl
  have g3 : W1.cell? ⟨n, 3, none⟩ = some (.string T) := by rw [hW1, hn]; exact cells_new w [.int .i64 3, .int .i64 0, .int .i64 f.opt, .string T] _ _ rfl 3 _ rfl
  have hpn : p < n := by rw [hn]; exact hp
  obtain ⟨x3, y3, x5, y5, x6, y6, x7, y7⟩ := HW.out W1 q1
  have HF1 := Lib.hid (HF.out W1 q1)
  rw [← hW1, ← hn]
  have HZ := Lib.hid hn
  clear hW1 hn q1 c3 c4 c5 c6 c7 hHeld HW HS HF hp
  go_wp2_with fail
  go_ret
  exact FRes.nil (RfTo.of HF1.out)

set_option maxRecDepth 100000 in
set_option maxHeartbeats 1600000 in
theorem sub_tells (h : RfIn w p bin f C k A c) (hi : f.iac = true) (hb : b ≠ 255) (h240 : b = 240) (hl : f.long = false) : SubTold p bin f C A b w := by
  have c3 := (h.cs 3 _ rfl).1
  have c4 := (h.cs 4 _ rfl).1
  have c5 := (h.cs 5 _ rfl).1
  have c6 := (h.cs 6 _ rfl).1
  have c7 := (h.cs 7 _ rfl).1
  rw [hi] at c7
  have hp := h.lt
  have e1 : ((b.toNat : Int) == 255) = false := (u8_int b 255).trans (by simp [hb])
  obtain ⟨T, hT⟩ : ∃ T : ByteArray, T = ⟨f.body.toArray⟩ := ⟨_, rfl⟩
  have HS := Lib.hid (show ∀ w', Below w.heap.size w w' → w'.cell? ⟨p, 4, none⟩ = some (.int .i64 f.opt) ∧ w'.cell? ⟨p, 5, none⟩ = some (.slice A f.body.length c) ∧ (convert 58 9 (.slice A f.body.length c)).run Try.prog w' = .ok (.string T) w' from fun w' q => by
    have := run_buf_string (P := Try.prog) 58 9 5 (h.below q).buf Try.underlying58 Try.underlying5 Try.underlying9 f.body.length (Nat.le_refl _)
    rw [List.take_of_length_le (Nat.le_refl _), ← hT] at this
    exact ⟨((h.below q).cs 4 _ rfl).1, ((h.below q).cs 5 _ rfl).1, this⟩)
  have H := Lib.hid h
  have HT := Lib.hid hT
  have r1 : ¬ (f.iac = false ∧ b = 255) := fun x => hb x.2
  have r2 : f.iac = true ∧ b ≠ 255 := ⟨hi, hb⟩
  rw [hl] at c6
  have e2 : ((b.toNat : Int) == 240) = true := (u8_int b 240).trans (by simp [h240])
  have HR := Lib.hid (show subR f b = (⟨f.cr, f.cmd, false, f.opt, [], false, false⟩, [⟨3, 0, f.opt, f.body⟩]) by unfold subR; rw [if_neg r1, if_pos r2, if_neg (fun x => x h240), if_neg (by rw [hl]; simp)])
  unfold SubTold
  rw [HR.out]
  have HW := Lib.hid (show ∀ W1, Below w.heap.size w W1 → W1.cell? ⟨p, 3, none⟩ = some (.bool f.inn) ∧ W1.frozen? ⟨p, 3, none⟩ = false ∧ W1.cell? ⟨p, 5, none⟩ = some (.slice A f.body.length c) ∧ W1.frozen? ⟨p, 5, none⟩ = false ∧ W1.cell? ⟨p, 6, none⟩ = some (.bool false) ∧ W1.frozen? ⟨p, 6, none⟩ = false ∧ W1.cell? ⟨p, 7, none⟩ = some (.bool true) ∧ W1.frozen? ⟨p, 7, none⟩ = false from fun W1 q =>
    ⟨((h.below q).cs 3 _ rfl).1, ((h.below q).cs 3 _ rfl).2, ((h.below q).cs 5 _ rfl).1, ((h.below q).cs 5 _ rfl).2, (q.cell (p := ⟨p, 6, none⟩) hp).trans c6, ((h.below q).cs 6 _ rfl).2, (q.cell (p := ⟨p, 7, none⟩) hp).trans c7, ((h.below q).cs 7 _ rfl).2⟩)
  have HF := Lib.hid (show ∀ W1, Below w.heap.size w W1 → RfIn ((((W1.setCell ⟨p, 3, none⟩ (.bool false)).setCell ⟨p, 5, none⟩ (.slice none 0 0)).setCell ⟨p, 7, none⟩ (.bool false)).setCell ⟨p, 6, none⟩ (.bool false)) p bin ⟨f.cr, f.cmd, false, f.opt, [], false, false⟩ C k none 0 ∧ Step (rfOwn p C A) w (rfOwn p C none) ((((W1.setCell ⟨p, 3, none⟩ (.bool false)).setCell ⟨p, 5, none⟩ (.slice none 0 0)).setCell ⟨p, 7, none⟩ (.bool false)).setCell ⟨p, 6, none⟩ (.bool false)) from fun W1 q =>
    h.turn ((((Keep.of_below (· = p) q).own 3 _).own 5 _).own 7 _ |>.own 6 _) (((((h.below q).cs.set 3 (by simp [rfCells]) _).set 5 (by simp [rfCells]) _).set 7 (by simp [rfCells]) _).set 6 (by simp [rfCells]) _) (.inl ⟨rfl, rfl⟩) (.inr ⟨rfl, rfl, rfl⟩))
  clear h hi hb hT r1 r2 h240 hl
  go_enter Try.func51, Try.ntmps51
  go_wp2_with fail
  refine wp_region_noPanic ?_
  refine wp_region_held_drew (S := fun w' => w'.cell? ⟨p, 4, none⟩ = some (.int .i64 f.opt) ∧ w'.cell? ⟨p, 5, none⟩ = some (.slice A f.body.length c) ∧ (convert 58 9 (.slice A f.body.length c)).run Try.prog w' = .ok (.string T) w') (by kernel_rfl) (HS.out _ ((Below.refl _ _).drew)) (fun hHeld => ?_)
  refine wpAnyH_take (i := 0) (oi := _) (v := ?va0) rfl (by kernel_rfl) (by kernel_rfl) (by kernel_rfl) (fun _ _ _ h => h) (Or.inl ⟨by rfl, ?hya0⟩) (by assumption) ?resta0
  case hya0 => (intro w hSw; (try dsimp only at hSw); (try simp only [List.getElem_toArray, List.getElem_cons_zero, List.getElem_cons_succ]); go_simp; (try with_reducible rfl))
  (try simp only [Act.put, List.setIfInBounds_toArray, List.set_cons_zero, List.set_cons_succ, List.getElem_toArray, List.getElem_cons_zero, List.getElem_cons_succ])
  refine wpAnyH_take (i := 1) (oi := _) (v := ?va1) rfl (by kernel_rfl) (by kernel_rfl) (by kernel_rfl) (fun _ _ _ h => h) (Or.inl ⟨by rfl, ?hya1⟩) (by assumption) ?resta1
  case hya1 => (intro w hSw; (try dsimp only at hSw); (try simp only [List.getElem_toArray, List.getElem_cons_zero, List.getElem_cons_succ]); go_simp; (try with_reducible rfl))
  (try simp only [Act.put, List.setIfInBounds_toArray, List.set_cons_zero, List.set_cons_succ, List.getElem_toArray, List.getElem_cons_zero, List.getElem_cons_succ])
  refine wpAnyH_take (i := 2) (oi := _) (v := ?va2) rfl (by kernel_rfl) (by kernel_rfl) (by kernel_rfl) (fun _ _ _ h => h) (Or.inl ⟨by rfl, ?hya2⟩) (by assumption) ?resta2
  case hya2 => (intro w hSw; (try dsimp only at hSw); (try simp only [List.getElem_toArray, List.getElem_cons_zero, List.getElem_cons_succ]); go_simp; (try with_reducible rfl))
  (try simp only [Act.put, List.setIfInBounds_toArray, List.set_cons_zero, List.set_cons_succ, List.getElem_toArray, List.getElem_cons_zero, List.getElem_cons_succ])
  refine wpAnyH_take (i := 3) (oi := _) (v := ?va3) rfl (by kernel_rfl) (by kernel_rfl) (by kernel_rfl) (fun _ _ _ h => h) (Or.inl ⟨by rfl, ?hya3⟩) (by assumption) ?resta3
  case hya3 => (intro w hSw; (try dsimp only at hSw); (try simp only [List.getElem_toArray, List.getElem_cons_zero, List.getElem_cons_succ]); go_simp; (try with_reducible rfl))
  (try simp only [Act.put, List.setIfInBounds_toArray, List.set_cons_zero, List.set_cons_succ, List.getElem_toArray, List.getElem_cons_zero, List.getElem_cons_succ])
  refine wpAnyH_take (i := 4) (oi := _) (v := ?va4) rfl (by kernel_rfl) (by kernel_rfl) (by kernel_rfl) (fun _ _ _ h => h) (Or.inl ⟨by rfl, ?hya4⟩) (by assumption) ?resta4
  case hya4 => (intro w hSw; (try dsimp only at hSw); (try simp only [List.getElem_toArray, List.getElem_cons_zero, List.getElem_cons_succ]); go_simp; (try with_reducible rfl))
  (try simp only [Act.put, List.setIfInBounds_toArray, List.set_cons_zero, List.set_cons_succ, List.getElem_toArray, List.getElem_cons_zero, List.getElem_cons_succ])
  refine wpAnyH_take (i := 5) (oi := _) (v := ?va5) rfl (by kernel_rfl) (by kernel_rfl) (by kernel_rfl) (fun _ _ _ h => h) (Or.inl ⟨by rfl, ?hya5⟩) (by assumption) ?resta5
  case hya5 => (intro w hSw; (try dsimp only at hSw); (try simp only [List.getElem_toArray, List.getElem_cons_zero, List.getElem_cons_succ]); go_simp; (try with_reducible rfl))
  (try simp only [Act.put, List.setIfInBounds_toArray, List.set_cons_zero, List.set_cons_succ, List.getElem_toArray, List.getElem_cons_zero, List.getElem_cons_succ])
  refine wpAnyH_take (i := 6) (oi := _) (v := ?va6) rfl (by kernel_rfl) (by kernel_rfl) (by kernel_rfl) (fun _ _ _ h => h) (Or.inl ⟨by rfl, ?hya6⟩) (by assumption) ?resta6
  case hya6 => (intro w hSw; (try dsimp only at hSw); (try simp only [List.getElem_toArray, List.getElem_cons_zero, List.getElem_cons_succ]); go_simp; (try with_reducible rfl))
  (try simp only [Act.put, List.setIfInBounds_toArray, List.set_cons_zero, List.set_cons_succ, List.getElem_toArray, List.getElem_cons_zero, List.getElem_cons_succ])
  refine wpAnyH_take (i := 7) (oi := _) (v := ?va7) rfl (by kernel_rfl) (by kernel_rfl) (by kernel_rfl) (fun _ _ _ h => h) (Or.inl ⟨by rfl, ?hya7⟩) (by assumption) ?resta7
  case hya7 => (intro w hSw; (try dsimp only at hSw); (try simp only [List.getElem_toArray, List.getElem_cons_zero, List.getElem_cons_succ]); go_simp; (try with_reducible rfl))
  (try simp only [Act.put, List.setIfInBounds_toArray, List.set_cons_zero, List.set_cons_succ, List.getElem_toArray, List.getElem_cons_zero, List.getElem_cons_succ])
  refine wpAnyH_take (i := 8) (oi := _) (v := ?va8) rfl (by kernel_rfl) (by kernel_rfl) (by kernel_rfl) (fun _ _ _ h => h) (Or.inl ⟨by rfl, ?hya8⟩) (by assumption) ?resta8
  case hya8 => (intro w hSw; (try dsimp only at hSw); (try simp only [List.getElem_toArray, List.getElem_cons_zero, List.getElem_cons_succ]); go_simp; (try with_reducible rfl))
  (try simp only [Act.put, List.setIfInBounds_toArray, List.set_cons_zero, List.set_cons_succ, List.getElem_toArray, List.getElem_cons_zero, List.getElem_cons_succ])
  refine wpAnyH_take (i := 9) (oi := _) (v := ?va9) rfl (by kernel_rfl) (by kernel_rfl) (by kernel_rfl) (fun _ _ _ h => h) (Or.inl ⟨by rfl, ?hya9⟩) (by assumption) ?resta9
  case hya9 => (intro w hSw; (try dsimp only at hSw); (try simp only [List.getElem_toArray, List.getElem_cons_zero, List.getElem_cons_succ]); go_simp; (try with_reducible rfl))
  (try simp only [Act.put, List.setIfInBounds_toArray, List.set_cons_zero, List.set_cons_succ, List.getElem_toArray, List.getElem_cons_zero, List.getElem_cons_succ])
  refine wpAnyH_ready (rs := [10]) (by kernel_rfl) (by simp) ?_
  refine AllReadyH.cons (o := _) rfl (fun K hK => ?_) AllReadyH.nil
  (try simp only [List.getElem_toArray, List.getElem_cons_zero, List.getElem_cons_succ])
  go_simp
  refine hK.out _ _ ?_ (fun hHeld => ?_)
  · exact HS.out _ (((Below.refl _ w).drew).alloc (Nat.le_refl _) _)
  clear hK K
  (try simp only [Act.put, List.setIfInBounds_toArray, List.set_cons_zero, List.set_cons_succ, List.getElem_toArray, List.getElem_cons_zero, List.getElem_cons_succ])
  refine wpAnyH_ready (rs := [11]) (by kernel_rfl) (by simp) ?_
  refine AllReadyH.cons (o := _) rfl (fun K hK => ?_) AllReadyH.nil
  (try simp only [List.getElem_toArray, List.getElem_cons_zero, List.getElem_cons_succ])
  go_simp
  refine hK.out _ _ ?_ (fun hHeld => ?_)
  · exact HS.out _ (((Below.refl _ w).alloc (Nat.le_refl _) _).drew)
  clear hK K
  (try simp only [Act.put, List.setIfInBounds_toArray, List.set_cons_zero, List.set_cons_succ, List.getElem_toArray, List.getElem_cons_zero, List.getElem_cons_succ])
  refine wpAnyH_done (by kernel_rfl) ?_ _
  refine NoPanic.normal ?_
  obtain ⟨W1, hW1⟩ : ∃ W1, W1 = (w.alloc (.cells #[.int .i64 3, .int .i64 0, .int .i64 f.opt, .string T] 67)).drew := ⟨_, rfl⟩
  obtain ⟨n, hn⟩ : ∃ n, n = w.heap.size := ⟨_, rfl⟩
  have q1 : Below w.heap.size w W1 := by rw [hW1]; exact ((Below.refl _ w).alloc (Nat.le_refl _) _).drew
  have g0 : W1.cell? ⟨n, 0, none⟩ = some (.int .i64 3) := by rw [hW1, hn]; exact cells_new w [.int .i64 3, .int .i64 0, .int .i64 f.opt, .string T] _ _ rfl 0 _ rfl
  have g1 : W1.cell? ⟨n, 1, none⟩ = some (.int .i64 0) := by rw [hW1, hn]; exact cells_new w [.int .i64 3, .int .i64 0, .int .i64 f.opt, .string T] _ _ rfl 1 _ rfl
  have g2 : W1.cell? ⟨n, 2, none⟩ = some (.int .i64 f.opt) := by rw [hW1, hn]; exact cells_new w [.int .i64 3, .int .i64 0, .int .i64 f.opt, .string T] _ _ rfl 2 _ rfl
  have g3 : W1.cell? ⟨n, 3, none⟩ = some (.string T) := by rw [hW1, hn]; exact cells_new w [.int .i64 3, .int .i64 0, .int .i64 f.opt, .string T] _ _ rfl 3 _ rfl
  have hpn : p < n := by rw [hn]; exact hp
  obtain ⟨x3, y3, x5, y5, x6, y6, x7, y7⟩ := HW.out W1 q1
  have HF1 := Lib.hid (HF.out W1 q1)
  rw [← hW1, ← hn]
  have HZ := Lib.hid hn
  clear hW1 hn q1 c3 c4 c5 c6 c7 hHeld HW HS HF hp
  go_wp2_with fail
  go_ret
  exact FRes.one (RfTo.of HF1.out) ⟨3, 0, f.opt, f.body⟩ HT.out (by simp)

set_option maxRecDepth 100000 in
set_option maxHeartbeats 1600000 in
theorem sub_else (h : RfIn w p bin f C k A c) (hi : f.iac = true) (hb : b ≠ 255) (h240 : b ≠ 240) : SubTold p bin f C A b w := by
  have c3 := (h.cs 3 _ rfl).1
  have c4 := (h.cs 4 _ rfl).1
  have c5 := (h.cs 5 _ rfl).1
  have c6 := (h.cs 6 _ rfl).1
  have c7 := (h.cs 7 _ rfl).1
  rw [hi] at c7
  have hp := h.lt
  have e1 : ((b.toNat : Int) == 255) = false := (u8_int b 255).trans (by simp [hb])
  obtain ⟨T, hT⟩ : ∃ T : ByteArray, T = ⟨f.body.toArray⟩ := ⟨_, rfl⟩
  have HS := Lib.hid (show ∀ w', Below w.heap.size w w' → w'.cell? ⟨p, 4, none⟩ = some (.int .i64 f.opt) ∧ w'.cell? ⟨p, 5, none⟩ = some (.slice A f.body.length c) ∧ (convert 58 9 (.slice A f.body.length c)).run Try.prog w' = .ok (.string T) w' from fun w' q => by
    have := run_buf_string (P := Try.prog) 58 9 5 (h.below q).buf Try.underlying58 Try.underlying5 Try.underlying9 f.body.length (Nat.le_refl _)
    rw [List.take_of_length_le (Nat.le_refl _), ← hT] at this
    exact ⟨((h.below q).cs 4 _ rfl).1, ((h.below q).cs 5 _ rfl).1, this⟩)
  have H := Lib.hid h
  have HT := Lib.hid hT
  have r1 : ¬ (f.iac = false ∧ b = 255) := fun x => hb x.2
  have r2 : f.iac = true ∧ b ≠ 255 := ⟨hi, hb⟩
  have e2 : ((b.toNat : Int) == 240) = false := (u8_int b 240).trans (by simp [h240])
  have HR := Lib.hid (show subR f b = commandR ⟨f.cr, f.cmd, false, f.opt, [], false, false⟩ b by unfold subR; rw [if_neg r1, if_pos r2, if_pos h240])
  unfold SubTold
  rw [HR.out]
  have HW := Lib.hid (show ∀ W1, Below w.heap.size w W1 → W1.cell? ⟨p, 3, none⟩ = some (.bool f.inn) ∧ W1.frozen? ⟨p, 3, none⟩ = false ∧ W1.cell? ⟨p, 5, none⟩ = some (.slice A f.body.length c) ∧ W1.frozen? ⟨p, 5, none⟩ = false ∧ W1.cell? ⟨p, 6, none⟩ = some (.bool f.long) ∧ W1.frozen? ⟨p, 6, none⟩ = false ∧ W1.cell? ⟨p, 7, none⟩ = some (.bool true) ∧ W1.frozen? ⟨p, 7, none⟩ = false from fun W1 q =>
    ⟨((h.below q).cs 3 _ rfl).1, ((h.below q).cs 3 _ rfl).2, ((h.below q).cs 5 _ rfl).1, ((h.below q).cs 5 _ rfl).2, (q.cell (p := ⟨p, 6, none⟩) hp).trans c6, ((h.below q).cs 6 _ rfl).2, (q.cell (p := ⟨p, 7, none⟩) hp).trans c7, ((h.below q).cs 7 _ rfl).2⟩)
  have HF := Lib.hid (show ∀ W1, Below w.heap.size w W1 → RfIn ((((W1.setCell ⟨p, 3, none⟩ (.bool false)).setCell ⟨p, 5, none⟩ (.slice none 0 0)).setCell ⟨p, 7, none⟩ (.bool false)).setCell ⟨p, 6, none⟩ (.bool false)) p bin ⟨f.cr, f.cmd, false, f.opt, [], false, false⟩ C k none 0 ∧ Step (rfOwn p C A) w (rfOwn p C none) ((((W1.setCell ⟨p, 3, none⟩ (.bool false)).setCell ⟨p, 5, none⟩ (.slice none 0 0)).setCell ⟨p, 7, none⟩ (.bool false)).setCell ⟨p, 6, none⟩ (.bool false)) from fun W1 q =>
    h.turn ((((Keep.of_below (· = p) q).own 3 _).own 5 _).own 7 _ |>.own 6 _) (((((h.below q).cs.set 3 (by simp [rfCells]) _).set 5 (by simp [rfCells]) _).set 7 (by simp [rfCells]) _).set 6 (by simp [rfCells]) _) (.inl ⟨rfl, rfl⟩) (.inr ⟨rfl, rfl, rfl⟩))
  clear h hi hb hT r1 r2 h240
  go_enter Try.func51, Try.ntmps51
  go_wp2_with fail
  refine wp_region_noPanic ?_
  refine wp_region_held_drew (S := fun w' => w'.cell? ⟨p, 4, none⟩ = some (.int .i64 f.opt) ∧ w'.cell? ⟨p, 5, none⟩ = some (.slice A f.body.length c) ∧ (convert 58 9 (.slice A f.body.length c)).run Try.prog w' = .ok (.string T) w') (by kernel_rfl) (HS.out _ ((Below.refl _ _).drew)) (fun hHeld => ?_)
  refine wpAnyH_take (i := 0) (oi := _) (v := ?va0) rfl (by kernel_rfl) (by kernel_rfl) (by kernel_rfl) (fun _ _ _ h => h) (Or.inl ⟨by rfl, ?hya0⟩) (by assumption) ?resta0
  case hya0 => (intro w hSw; (try dsimp only at hSw); (try simp only [List.getElem_toArray, List.getElem_cons_zero, List.getElem_cons_succ]); go_simp; (try with_reducible rfl))
  (try simp only [Act.put, List.setIfInBounds_toArray, List.set_cons_zero, List.set_cons_succ, List.getElem_toArray, List.getElem_cons_zero, List.getElem_cons_succ])
  refine wpAnyH_take (i := 1) (oi := _) (v := ?va1) rfl (by kernel_rfl) (by kernel_rfl) (by kernel_rfl) (fun _ _ _ h => h) (Or.inl ⟨by rfl, ?hya1⟩) (by assumption) ?resta1
  case hya1 => (intro w hSw; (try dsimp only at hSw); (try simp only [List.getElem_toArray, List.getElem_cons_zero, List.getElem_cons_succ]); go_simp; (try with_reducible rfl))
  (try simp only [Act.put, List.setIfInBounds_toArray, List.set_cons_zero, List.set_cons_succ, List.getElem_toArray, List.getElem_cons_zero, List.getElem_cons_succ])
  refine wpAnyH_take (i := 2) (oi := _) (v := ?va2) rfl (by kernel_rfl) (by kernel_rfl) (by kernel_rfl) (fun _ _ _ h => h) (Or.inl ⟨by rfl, ?hya2⟩) (by assumption) ?resta2
  case hya2 => (intro w hSw; (try dsimp only at hSw); (try simp only [List.getElem_toArray, List.getElem_cons_zero, List.getElem_cons_succ]); go_simp; (try with_reducible rfl))
  (try simp only [Act.put, List.setIfInBounds_toArray, List.set_cons_zero, List.set_cons_succ, List.getElem_toArray, List.getElem_cons_zero, List.getElem_cons_succ])
  refine wpAnyH_take (i := 3) (oi := _) (v := ?va3) rfl (by kernel_rfl) (by kernel_rfl) (by kernel_rfl) (fun _ _ _ h => h) (Or.inl ⟨by rfl, ?hya3⟩) (by assumption) ?resta3
  case hya3 => (intro w hSw; (try dsimp only at hSw); (try simp only [List.getElem_toArray, List.getElem_cons_zero, List.getElem_cons_succ]); go_simp; (try with_reducible rfl))
  (try simp only [Act.put, List.setIfInBounds_toArray, List.set_cons_zero, List.set_cons_succ, List.getElem_toArray, List.getElem_cons_zero, List.getElem_cons_succ])
  refine wpAnyH_take (i := 4) (oi := _) (v := ?va4) rfl (by kernel_rfl) (by kernel_rfl) (by kernel_rfl) (fun _ _ _ h => h) (Or.inl ⟨by rfl, ?hya4⟩) (by assumption) ?resta4
  case hya4 => (intro w hSw; (try dsimp only at hSw); (try simp only [List.getElem_toArray, List.getElem_cons_zero, List.getElem_cons_succ]); go_simp; (try with_reducible rfl))
  (try simp only [Act.put, List.setIfInBounds_toArray, List.set_cons_zero, List.set_cons_succ, List.getElem_toArray, List.getElem_cons_zero, List.getElem_cons_succ])
  refine wpAnyH_take (i := 5) (oi := _) (v := ?va5) rfl (by kernel_rfl) (by kernel_rfl) (by kernel_rfl) (fun _ _ _ h => h) (Or.inl ⟨by rfl, ?hya5⟩) (by assumption) ?resta5
  case hya5 => (intro w hSw; (try dsimp only at hSw); (try simp only [List.getElem_toArray, List.getElem_cons_zero, List.getElem_cons_succ]); go_simp; (try with_reducible rfl))
  (try simp only [Act.put, List.setIfInBounds_toArray, List.set_cons_zero, List.set_cons_succ, List.getElem_toArray, List.getElem_cons_zero, List.getElem_cons_succ])
  refine wpAnyH_take (i := 6) (oi := _) (v := ?va6) rfl (by kernel_rfl) (by kernel_rfl) (by kernel_rfl) (fun _ _ _ h => h) (Or.inl ⟨by rfl, ?hya6⟩) (by assumption) ?resta6
  case hya6 => (intro w hSw; (try dsimp only at hSw); (try simp only [List.getElem_toArray, List.getElem_cons_zero, List.getElem_cons_succ]); go_simp; (try with_reducible rfl))
  (try simp only [Act.put, List.setIfInBounds_toArray, List.set_cons_zero, List.set_cons_succ, List.getElem_toArray, List.getElem_cons_zero, List.getElem_cons_succ])
  refine wpAnyH_take (i := 7) (oi := _) (v := ?va7) rfl (by kernel_rfl) (by kernel_rfl) (by kernel_rfl) (fun _ _ _ h => h) (Or.inl ⟨by rfl, ?hya7⟩) (by assumption) ?resta7
  case hya7 => (intro w hSw; (try dsimp only at hSw); (try simp only [List.getElem_toArray, List.getElem_cons_zero, List.getElem_cons_succ]); go_simp; (try with_reducible rfl))
  (try simp only [Act.put, List.setIfInBounds_toArray, List.set_cons_zero, List.set_cons_succ, List.getElem_toArray, List.getElem_cons_zero, List.getElem_cons_succ])
  refine wpAnyH_take (i := 8) (oi := _) (v := ?va8) rfl (by kernel_rfl) (by kernel_rfl) (by kernel_rfl) (fun _ _ _ h => h) (Or.inl ⟨by rfl, ?hya8⟩) (by assumption) ?resta8
  case hya8 => (intro w hSw; (try dsimp only at hSw); (try simp only [List.getElem_toArray, List.getElem_cons_zero, List.getElem_cons_succ]); go_simp; (try with_reducible rfl))
  (try simp only [Act.put, List.setIfInBounds_toArray, List.set_cons_zero, List.set_cons_succ, List.getElem_toArray, List.getElem_cons_zero, List.getElem_cons_succ])
  refine wpAnyH_take (i := 9) (oi := _) (v := ?va9) rfl (by kernel_rfl) (by kernel_rfl) (by kernel_rfl) (fun _ _ _ h => h) (Or.inl ⟨by rfl, ?hya9⟩) (by assumption) ?resta9
  case hya9 => (intro w hSw; (try dsimp only at hSw); (try simp only [List.getElem_toArray, List.getElem_cons_zero, List.getElem_cons_succ]); go_simp; (try with_reducible rfl))
  (try simp only [Act.put, List.setIfInBounds_toArray, List.set_cons_zero, List.set_cons_succ, List.getElem_toArray, List.getElem_cons_zero, List.getElem_cons_succ])
  refine wpAnyH_ready (rs := [10]) (by kernel_rfl) (by simp) ?_
  refine AllReadyH.cons (o := _) rfl (fun K hK => ?_) AllReadyH.nil
  (try simp only [List.getElem_toArray, List.getElem_cons_zero, List.getElem_cons_succ])
  go_simp
  refine hK.out _ _ ?_ (fun hHeld => ?_)
  · exact HS.out _ (((Below.refl _ w).drew).alloc (Nat.le_refl _) _)
  clear hK K
  (try simp only [Act.put, List.setIfInBounds_toArray, List.set_cons_zero, List.set_cons_succ, List.getElem_toArray, List.getElem_cons_zero, List.getElem_cons_succ])
  refine wpAnyH_ready (rs := [11]) (by kernel_rfl) (by simp) ?_
  refine AllReadyH.cons (o := _) rfl (fun K hK => ?_) AllReadyH.nil
  (try simp only [List.getElem_toArray, List.getElem_cons_zero, List.getElem_cons_succ])
  go_simp
  refine hK.out _ _ ?_ (fun hHeld => ?_)
  · exact HS.out _ (((Below.refl _ w).alloc (Nat.le_refl _) _).drew)
  clear hK K
  (try simp only [Act.put, List.setIfInBounds_toArray, List.set_cons_zero, List.set_cons_succ, List.getElem_toArray, List.getElem_cons_zero, List.getElem_cons_succ])
  refine wpAnyH_done (by kernel_rfl) ?_ _
  refine NoPanic.normal ?_
  obtain ⟨W1, hW1⟩ : ∃ W1, W1 = (w.alloc (.cells #[.int .i64 3, .int .i64 0, .int .i64 f.opt, .string T] 67)).drew := ⟨_, rfl⟩
  obtain ⟨n, hn⟩ : ∃ n, n = w.heap.size := ⟨_, rfl⟩
  have q1 : Below w.heap.size w W1 := by rw [hW1]; exact ((Below.refl _ w).alloc (Nat.le_refl _) _).drew
  have g0 : W1.cell? ⟨n, 0, none⟩ = some (.int .i64 3) := by rw [hW1, hn]; exact cells_new w [.int .i64 3, .int .i64 0, .int .i64 f.opt, .string T] _ _ rfl 0 _ rfl
  have g1 : W1.cell? ⟨n, 1, none⟩ = some (.int .i64 0) := by rw [hW1, hn]; exact cells_new w [.int .i64 3, .int .i64 0, .int .i64 f.opt, .string T] _ _ rfl 1 _ rfl
  have g2 : W1.cell? ⟨n, 2, none⟩ = some (.int .i64 f.opt) := by rw [hW1, hn]; exact cells_new w [.int .i64 3, .int .i64 0, .int .i64 f.opt, .string T] _ _ rfl 2 _ rfl
  have g3 : W1.cell? ⟨n, 3, none⟩ = some (.string T) := by rw [hW1, hn]; exact cells_new w [.int .i64 3, .int .i64 0, .int .i64 f.opt, .string T] _ _ rfl 3 _ rfl
  have hpn : p < n := by rw [hn]; exact hp
  obtain ⟨x3, y3, x5, y5, x6, y6, x7, y7⟩ := HW.out W1 q1
  have HF1 := Lib.hid (HF.out W1 q1)
  rw [← hW1, ← hn]
  have HZ := Lib.hid hn
  clear hW1 hn q1 c3 c4 c5 c6 c7 hHeld HW HS HF hp
  go_wp2_with fail
  refine (command_ref p bin _ _ _ _ _ b _ HF1.out.1).mono ?_
  intro e w2 hr
  have HH := Lib.hid (FRes.of HF1.out.2 hr)
  obtain ⟨v, rfl, _⟩ := hr
  go_wp2_with fail
  go_ret
  exact HH.out

theorem sub_ref (h : RfIn w p bin f C k A c) : SubTold p bin f C A b w := by
  by_cases hi : f.iac = true
  · by_cases hb : b = 255
    · exact sub_kept p bin f C k A c b w h (by simp [hi]) (by simp [hb])
    · by_cases h240 : b = 240
      · cases hl : f.long
        · exact sub_tells p bin f C k A c b w h hi hb h240 hl
        · exact sub_long p bin f C k A c b w h hi hb h240 hl
      · exact sub_else p bin f C k A c b w h hi hb h240
  · have hi2 : f.iac = false := by simpa using hi
    by_cases hb : b = 255
    · exact sub_iac p bin f C k A c b w h hi2 hb
    · exact sub_kept p bin f C k A c b w h (by simp [hb]) (by simp [hi2])
end

end Go.Proofs.Ytopgejjencoelaa
