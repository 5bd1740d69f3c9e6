/- pact's twoBytes, tellName, tellSize. Own work. -/
import Derived.Test.YtmkgcmnimpkmjaaPactB
import Derived.Test.YtmkgcmnimpkmjaaWireSub
namespace Go.Proofs.Ytmkgcmnimpkmjaa
set_option linter.unusedVariables false
set_option linter.unusedSimpArgs false
open Go.RowKit

theorem below_step {w W w2 : World} (h : Below w.heap.size w W) (k : Below W.heap.size W w2) : Below w.heap.size w w2 := h.trans (k.mono h.size)

set_option maxRecDepth 100000 in
set_option maxHeartbeats 800000 in
theorem two_any (n : Nat) (w : World) (hn : n ≤ 65535) :
    Calls Try.prog 46 #[.int .i64 (n : Int)] w fun e w' => e = .returned (.string ⟨(twoL n).toArray⟩) ∧ Below w.heap.size w w' := by
  obtain ⟨H, hH⟩ : ∃ H, H = UInt8.ofNat (n / 256) := ⟨_, rfl⟩
  obtain ⟨O, hO⟩ : ∃ O, O = UInt8.ofNat n := ⟨_, rfl⟩
  have h1 : (n : Int) / 256 = (H.toNat : Int) := by rw [hH, toNat_ofNat (by omega)]; omega
  have h2 : (0 : Int) ≤ (H.toNat : Int) := by omega
  have h3 : (H.toNat : Int) ≤ 255 := by have := H.toNat_lt; omega
  have o2 : (n : Int) % 256 = (O.toNat : Int) := by rw [hO]; simp
  have o1 : IntKind.u8.wrap (n : Int) = (O.toNat : Int) := by rw [IntKind.wrap_u8']; exact o2
  have HR := Lib.hid (show twoL n = [H, O] by rw [hH, hO]; rfl)
  have hb := buf_row w [H, O] 5 _ 2 rfl rfl (by omega) (by omega)
  have hc := run_buf_string (P := Try.prog) 90 9 5 hb Try.underlying90 Try.underlying5 Try.underlying9 2 (Nat.le_refl _)
  rw [show List.take 2 [H, O] = [H, O] from rfl] at hc
  have hc' : (convert 90 9 (.slice (some ⟨w.heap.size, 0, none⟩) 2 2)).run Try.prog (w.alloc (.cells #[.int .u8 (H.toNat : Int), .int .u8 (O.toNat : Int)] 5)) = .ok (.string ⟨[H, O].toArray⟩) (w.alloc (.cells #[.int .u8 (H.toNat : Int), .int .u8 (O.toNat : Int)] 5)) := hc
  clear hH hO hb hc
  go_enter Try.func46, Try.ntmps46
  go_wp2_with fail
  go_ret
  exact ⟨by rw [HR.out]; rfl, (Below.refl _ _).alloc (Nat.le_refl _) _⟩

section
variable (p : Nat) (L : Blk) (name : ByteArray) (d l : Int) (m : Pm) (w : World)

set_option maxHeartbeats 800000 in
theorem tellName_any (h : PactAt w p L name d l m) (hn : name.size ≤ 30) :
    Calls Try.prog 37 #[.pointer (some ⟨p, 0, none⟩)] w fun e w' => e = .returned (.string ⟨(nameL name.data.toList).toArray⟩) ∧ Below w.heap.size w w' := by
  have c := (h.cs 13 _ rfl).1
  have hs := src_new w [.string ⟨#[0]⟩, .string name] 9 w.heap.size rfl 2 rfl
  have hx : ∀ x ∈ [(⟨#[0]⟩ : ByteArray), name], x.size ≤ maxLen := by
    intro x hx
    simp at hx
    rcases hx with rfl | rfl
    · decide
    · unfold maxLen; omega
  have hj : joinL [(⟨#[0]⟩ : ByteArray), name] = 0 :: name.data.toList := by simp [joinL]
  have hw := wire_sub 24 (some ⟨w.heap.size, 0, none⟩) 2 2 [⟨#[0]⟩, name] _ (by omega) hs hx (Nat.le_refl _) (by omega) (by rw [sum_two]; show 1 + name.size ≤ 40; omega)
  rw [hj] at hw
  have HW : Hid (Calls Try.prog 45 #[.int .i64 24, .slice (some ⟨w.heap.size, 0, none⟩) 2 2] (w.alloc (.cells #[.string ⟨#[0]⟩, .string name] 9)) fun e w' => e = .returned (.tuple #[.string ⟨(nameL name.data.toList).toArray⟩, .int .i64 0]) ∧ Below (w.alloc (.cells #[.string ⟨#[0]⟩, .string name] 9)).heap.size (w.alloc (.cells #[.string ⟨#[0]⟩, .string name] 9)) w') := Lib.hid hw
  clear h hn hs hx hj hw
  go_enter Try.func37, Try.ntmps37
  go_wp2_with fail
  refine HW.out.mono ?_
  rintro e w1 ⟨rfl, hb⟩
  have HB : Hid (Below w.heap.size w w1) := Lib.hid (((Below.refl w.heap.size w).alloc (Nat.le_refl _) _).trans (hb.mono (by simp)))
  clear hb
  go_wp2_with fail
  go_ret
  exact ⟨rfl, HB.out⟩

/-- The cells behind what tells the size. -/
theorem PactAt.tells (h : PactAt w p L name d l m) : PactAt (((w.setCell ⟨p, 16, none⟩ (.int .i64 (m.w : Int))).setCell ⟨p, 17, none⟩ (.int .i64 (m.h : Int))).setCell ⟨p, 18, none⟩ (.bool true)) p L name d l m.tell := by
  refine h.cells (((keep_set w p 16 _).own 17 _).own 18 _) ?_ rfl rfl (Nat.le_refl _)
  exact ((h.cs.set 16 (by simp [pcs]) _).set 17 (by simp [pcs]) _).set 18 (by simp [pcs]) _

set_option maxRecDepth 100000 in
set_option maxHeartbeats 1600000 in
theorem tellSize_any (h : PactAt w p L name d l m) (h1 : m.w ≤ 65535) (h2 : m.h ≤ 65535) :
    Calls Try.prog 28 #[.pointer (some ⟨p, 0, none⟩)] w fun e w' => e = .returned (.string ⟨(sizeL m).toArray⟩) ∧ PactAt w' p L name d l m.tell ∧ Keep (pown p L) w w' := by
  have c14 := h.cs 14 _ rfl
  have c15 := h.cs 15 _ rfl
  have c16 := h.cs 16 _ rfl
  have c17 := h.cs 17 _ rfl
  have c18 := h.cs 18 _ rfl
  obtain ⟨W0, hW0⟩ : ∃ W0, W0 = ((w.setCell ⟨p, 16, none⟩ (.int .i64 (m.w : Int))).setCell ⟨p, 17, none⟩ (.int .i64 (m.h : Int))).setCell ⟨p, 18, none⟩ (.bool true) := ⟨_, rfl⟩
  have HP : Hid (PactAt W0 p L name d l m.tell) := Lib.hid (by rw [hW0]; exact h.tells)
  have HK : Hid (Keep (pown p L) w W0) := Lib.hid (by rw [hW0]; exact (((keep_set w p 16 _).own 17 _).own 18 _).mono (fun i _ e => .inl e))
  have HSS : Hid (∀ W, Below W0.heap.size W0 W → W.cell? ⟨p, 14, none⟩ = some (.int .i64 (m.w : Int)) ∧ W.cell? ⟨p, 15, none⟩ = some (.int .i64 (m.h : Int))) := Lib.hid (fun W q => ⟨((HP.out.below q).cs 14 _ rfl).1, ((HP.out.below q).cs 15 _ rfl).1⟩)
  obtain ⟨T1, hT1⟩ : ∃ T : ByteArray, T = ⟨(twoL m.w).toArray⟩ := ⟨_, rfl⟩
  obtain ⟨T2, hT2⟩ : ∃ T : ByteArray, T = ⟨(twoL m.h).toArray⟩ := ⟨_, rfl⟩
  have HA := Lib.hid (fun W => two_any m.w W h1)
  have HB := Lib.hid (fun W => two_any m.h W h2)
  rw [← hT1] at HA
  rw [← hT2] at HB
  have HW : Hid (∀ W : World, Calls Try.prog 45 #[.int .i64 31, .slice (some ⟨W.heap.size, 0, none⟩) 2 2] (W.alloc (.cells #[.string T1, .string T2] 9)) fun e w' => e = .returned (.tuple #[.string ⟨(sizeL m).toArray⟩, .int .i64 0]) ∧ Below (W.alloc (.cells #[.string T1, .string T2] 9)).heap.size (W.alloc (.cells #[.string T1, .string T2] 9)) w') := Lib.hid (fun W => by
    have hx : ∀ x ∈ [T1, T2], x.size ≤ maxLen := by
      intro x hx
      simp at hx
      rcases hx with rfl | rfl
      · rw [hT1]; show 2 ≤ _; decide
      · rw [hT2]; show 2 ≤ _; decide
    have hw := wire_sub 31 (some ⟨W.heap.size, 0, none⟩) 2 2 [T1, T2] _ (by omega) (src_new W [.string T1, .string T2] 9 W.heap.size rfl 2 rfl) hx (Nat.le_refl _) (by omega) (by rw [sum_two, hT1, hT2]; show 2 + 2 ≤ 40; omega)
    rw [show subL 31 (joinL [T1, T2]) = sizeL m by rw [hT1, hT2, sizeL]; simp [joinL]] at hw
    exact hw)
  have HW0 := Lib.hid hW0
  clear h h1 h2 hT1 hT2 hW0
  obtain ⟨c14, f14⟩ := c14
  obtain ⟨c15, f15⟩ := c15
  obtain ⟨c16, f16⟩ := c16
  obtain ⟨c17, f17⟩ := c17
  obtain ⟨c18, f18⟩ := c18
  go_enter Try.func28, Try.ntmps28
  go_wp2_with fail
  rw [← HW0.out]
  clear HW0 c14 c15 c16 c17 c18 f14 f15 f16 f17 f18
  refine wp_region_noPanic ?_
  refine wp_region_held_drew (S := fun W => W.cell? ⟨p, 14, none⟩ = some (.int .i64 (m.w : Int)) ∧ W.cell? ⟨p, 15, none⟩ = some (.int .i64 (m.h : Int))) (by kernel_rfl) (HSS.out _ (Below.refl _ _).drew) (fun hHeld => ?_)
  refine wpAnyH_take (i := 0) (oi := _) (v := ?vct0) rfl (by kernel_rfl) (by kernel_rfl) (by kernel_rfl) (fun _ _ _ h => h) (Or.inl ⟨by rfl, ?hyct0⟩) (by assumption) ?restct0
  case hyct0 => (intro w hSw; (try dsimp only at hSw); (try simp only [List.getElem_toArray, List.getElem_cons_zero, List.getElem_cons_succ]); go_simp; (try with_reducible rfl))
  (try simp only [Act.put, List.setIfInBounds_toArray, List.set_cons_zero, List.set_cons_succ, List.getElem_toArray, List.getElem_cons_zero, List.getElem_cons_succ])
  refine wpAnyH_take (i := 1) (oi := _) (v := ?vct1) rfl (by kernel_rfl) (by kernel_rfl) (by kernel_rfl) (fun _ _ _ h => h) (Or.inl ⟨by rfl, ?hyct1⟩) (by assumption) ?restct1
  case hyct1 => (intro w hSw; (try dsimp only at hSw); (try simp only [List.getElem_toArray, List.getElem_cons_zero, List.getElem_cons_succ]); go_simp; (try with_reducible rfl))
  (try simp only [Act.put, List.setIfInBounds_toArray, List.set_cons_zero, List.set_cons_succ, List.getElem_toArray, List.getElem_cons_zero, List.getElem_cons_succ])
  refine wpAnyH_take (i := 2) (oi := _) (v := ?vct2) rfl (by kernel_rfl) (by kernel_rfl) (by kernel_rfl) (fun _ _ _ h => h) (Or.inl ⟨by rfl, ?hyct2⟩) (by assumption) ?restct2
  case hyct2 => (intro w hSw; (try dsimp only at hSw); (try simp only [List.getElem_toArray, List.getElem_cons_zero, List.getElem_cons_succ]); go_simp; (try with_reducible rfl))
  (try simp only [Act.put, List.setIfInBounds_toArray, List.set_cons_zero, List.set_cons_succ, List.getElem_toArray, List.getElem_cons_zero, List.getElem_cons_succ])
  refine wpAnyH_take (i := 3) (oi := _) (v := ?vct3) rfl (by kernel_rfl) (by kernel_rfl) (by kernel_rfl) (fun _ _ _ h => h) (Or.inl ⟨by rfl, ?hyct3⟩) (by assumption) ?restct3
  case hyct3 => (intro w hSw; (try dsimp only at hSw); (try simp only [List.getElem_toArray, List.getElem_cons_zero, List.getElem_cons_succ]); go_simp; (try with_reducible rfl))
  (try simp only [Act.put, List.setIfInBounds_toArray, List.set_cons_zero, List.set_cons_succ, List.getElem_toArray, List.getElem_cons_zero, List.getElem_cons_succ])
  refine wpAnyH_take (i := 4) (oi := _) (v := ?vct4) rfl (by kernel_rfl) (by kernel_rfl) (by kernel_rfl) (fun _ _ _ h => h) (Or.inl ⟨by rfl, ?hyct4⟩) (by assumption) ?restct4
  case hyct4 => (intro w hSw; (try dsimp only at hSw); (try simp only [List.getElem_toArray, List.getElem_cons_zero, List.getElem_cons_succ]); go_simp; (try with_reducible rfl))
  (try simp only [Act.put, List.setIfInBounds_toArray, List.set_cons_zero, List.set_cons_succ, List.getElem_toArray, List.getElem_cons_zero, List.getElem_cons_succ])
  refine wpAnyH_take (i := 6) (oi := _) (v := ?vct6) rfl (by kernel_rfl) (by kernel_rfl) (by kernel_rfl) (fun _ _ _ h => h) (Or.inl ⟨by rfl, ?hyct6⟩) (by assumption) ?restct6
  case hyct6 => (intro w hSw; (try dsimp only at hSw); (try simp only [List.getElem_toArray, List.getElem_cons_zero, List.getElem_cons_succ]); go_simp; (try with_reducible rfl))
  (try simp only [Act.put, List.setIfInBounds_toArray, List.set_cons_zero, List.set_cons_succ, List.getElem_toArray, List.getElem_cons_zero, List.getElem_cons_succ])
  refine wpAnyH_take (i := 7) (oi := _) (v := ?vct7) rfl (by kernel_rfl) (by kernel_rfl) (by kernel_rfl) (fun _ _ _ h => h) (Or.inl ⟨by rfl, ?hyct7⟩) (by assumption) ?restct7
  case hyct7 => (intro w hSw; (try dsimp only at hSw); (try simp only [List.getElem_toArray, List.getElem_cons_zero, List.getElem_cons_succ]); go_simp; (try with_reducible rfl))
  (try simp only [Act.put, List.setIfInBounds_toArray, List.set_cons_zero, List.set_cons_succ, List.getElem_toArray, List.getElem_cons_zero, List.getElem_cons_succ])
  refine wpAnyH_take (i := 8) (oi := _) (v := ?vct8) rfl (by kernel_rfl) (by kernel_rfl) (by kernel_rfl) (fun _ _ _ h => h) (Or.inl ⟨by rfl, ?hyct8⟩) (by assumption) ?restct8
  case hyct8 => (intro w hSw; (try dsimp only at hSw); (try simp only [List.getElem_toArray, List.getElem_cons_zero, List.getElem_cons_succ]); go_simp; (try with_reducible rfl))
  (try simp only [Act.put, List.setIfInBounds_toArray, List.set_cons_zero, List.set_cons_succ, List.getElem_toArray, List.getElem_cons_zero, List.getElem_cons_succ])
  refine wpAnyH_take (i := 9) (oi := _) (v := ?vct9) rfl (by kernel_rfl) (by kernel_rfl) (by kernel_rfl) (fun _ _ _ h => h) (Or.inl ⟨by rfl, ?hyct9⟩) (by assumption) ?restct9
  case hyct9 => (intro w hSw; (try dsimp only at hSw); (try simp only [List.getElem_toArray, List.getElem_cons_zero, List.getElem_cons_succ]); go_simp; (try with_reducible rfl))
  (try simp only [Act.put, List.setIfInBounds_toArray, List.set_cons_zero, List.set_cons_succ, List.getElem_toArray, List.getElem_cons_zero, List.getElem_cons_succ])
  refine wpAnyH_take (i := 10) (oi := _) (v := ?vct10) rfl (by kernel_rfl) (by kernel_rfl) (by kernel_rfl) (fun _ _ _ h => h) (Or.inl ⟨by rfl, ?hyct10⟩) (by assumption) ?restct10
  case hyct10 => (intro w hSw; (try dsimp only at hSw); (try simp only [List.getElem_toArray, List.getElem_cons_zero, List.getElem_cons_succ]); go_simp; (try with_reducible rfl))
  (try simp only [Act.put, List.setIfInBounds_toArray, List.set_cons_zero, List.set_cons_succ, List.getElem_toArray, List.getElem_cons_zero, List.getElem_cons_succ])
  refine wpAnyH_ready (rs := [5]) (by kernel_rfl) (by simp) ?_
  refine AllReadyH.cons (o := _) rfl (fun K hK => ?_) AllReadyH.nil
  (try simp only [List.getElem_toArray, List.getElem_cons_zero, List.getElem_cons_succ])
  go_simp
  go_at_call 46; refine (HA.out _).mono ?_; rintro e w1 ⟨rfl, hb⟩; have HB1 : Hid (Below W0.heap.size W0 w1) := Lib.hid (below_step (w := W0) (Below.refl _ _).drew hb); clear hb
  refine hK.out _ _ ?_ (fun hHeld => ?_)
  · exact HSS.out _ HB1.out
  clear hK K
  (try simp only [Act.put, List.setIfInBounds_toArray, List.set_cons_zero, List.set_cons_succ, List.getElem_toArray, List.getElem_cons_zero, List.getElem_cons_succ])
  refine wpAnyH_ready (rs := [11]) (by kernel_rfl) (by simp) ?_
  refine AllReadyH.cons (o := _) rfl (fun K hK => ?_) AllReadyH.nil
  (try simp only [List.getElem_toArray, List.getElem_cons_zero, List.getElem_cons_succ])
  go_simp
  go_at_call 46; refine (HB.out _).mono ?_; rintro e w2 ⟨rfl, hb⟩; have HB2 : Hid (Below W0.heap.size W0 w2) := Lib.hid (below_step (w := W0) HB1.out hb); clear hb
  refine hK.out _ _ ?_ (fun hHeld => ?_)
  · exact HSS.out _ HB2.out
  clear hK K
  (try simp only [Act.put, List.setIfInBounds_toArray, List.set_cons_zero, List.set_cons_succ, List.getElem_toArray, List.getElem_cons_zero, List.getElem_cons_succ])
  refine wpAnyH_ready (rs := [12]) (by kernel_rfl) (by simp) ?_
  refine AllReadyH.cons (o := _) rfl (fun K hK => ?_) AllReadyH.nil
  (try simp only [List.getElem_toArray, List.getElem_cons_zero, List.getElem_cons_succ])
  go_simp
  refine hK.out _ _ ?_ (fun hHeld => ?_)
  · exact HSS.out _ (HB2.out.alloc HB2.out.size _)
  clear hK K
  (try simp only [Act.put, List.setIfInBounds_toArray, List.set_cons_zero, List.set_cons_succ, List.getElem_toArray, List.getElem_cons_zero, List.getElem_cons_succ])
  refine wpAnyH_ready (rs := [13]) (by kernel_rfl) (by simp) ?_
  refine AllReadyH.cons (o := _) rfl (fun K hK => ?_) AllReadyH.nil
  (try simp only [List.getElem_toArray, List.getElem_cons_zero, List.getElem_cons_succ])
  go_simp
  go_at_call 45; refine (HW.out _).mono ?_; rintro e w3 ⟨rfl, hb⟩; have HB3 : Hid (Below W0.heap.size W0 w3) := Lib.hid (below_step (w := W0) (HB2.out.alloc HB2.out.size _) hb); clear hb
  refine hK.out _ _ ?_ (fun hHeld => ?_)
  · exact HSS.out _ HB3.out
  clear hK K
  (try simp only [Act.put, List.setIfInBounds_toArray, List.set_cons_zero, List.set_cons_succ, List.getElem_toArray, List.getElem_cons_zero, List.getElem_cons_succ])
  refine wpAnyH_take (i := 14) (oi := _) (v := ?vct14) rfl (by kernel_rfl) (by kernel_rfl) (by kernel_rfl) (fun _ _ _ h => h) (Or.inl ⟨by rfl, ?hyct14⟩) (by assumption) ?restct14
  case hyct14 => (intro w hSw; (try dsimp only at hSw); (try simp only [List.getElem_toArray, List.getElem_cons_zero, List.getElem_cons_succ]); go_simp; (try with_reducible rfl))
  (try simp only [Act.put, List.setIfInBounds_toArray, List.set_cons_zero, List.set_cons_succ, List.getElem_toArray, List.getElem_cons_zero, List.getElem_cons_succ])
  refine wpAnyH_take (i := 15) (oi := _) (v := ?vct15) rfl (by kernel_rfl) (by kernel_rfl) (by kernel_rfl) (fun _ _ _ h => h) (Or.inl ⟨by rfl, ?hyct15⟩) (by assumption) ?restct15
  case hyct15 => (intro w hSw; (try dsimp only at hSw); (try simp only [List.getElem_toArray, List.getElem_cons_zero, List.getElem_cons_succ]); go_simp; (try with_reducible rfl))
  (try simp only [Act.put, List.setIfInBounds_toArray, List.set_cons_zero, List.set_cons_succ, List.getElem_toArray, List.getElem_cons_zero, List.getElem_cons_succ])
  refine wpAnyH_take (i := 16) (oi := _) (v := ?vct16) rfl (by kernel_rfl) (by kernel_rfl) (by kernel_rfl) (fun _ _ _ h => h) (Or.inl ⟨by rfl, ?hyct16⟩) (by assumption) ?restct16
  case hyct16 => (intro w hSw; (try dsimp only at hSw); (try simp only [List.getElem_toArray, List.getElem_cons_zero, List.getElem_cons_succ]); go_simp; (try with_reducible rfl))
  (try simp only [Act.put, List.setIfInBounds_toArray, List.set_cons_zero, List.set_cons_succ, List.getElem_toArray, List.getElem_cons_zero, List.getElem_cons_succ])
  refine wpAnyH_take (i := 17) (oi := _) (v := ?vct17) rfl (by kernel_rfl) (by kernel_rfl) (by kernel_rfl) (fun _ _ _ h => h) (Or.inl ⟨by rfl, ?hyct17⟩) (by assumption) ?restct17
  case hyct17 => (intro w hSw; (try dsimp only at hSw); (try simp only [List.getElem_toArray, List.getElem_cons_zero, List.getElem_cons_succ]); go_simp; (try with_reducible rfl))
  (try simp only [Act.put, List.setIfInBounds_toArray, List.set_cons_zero, List.set_cons_succ, List.getElem_toArray, List.getElem_cons_zero, List.getElem_cons_succ])
  refine wpAnyH_take (i := 18) (oi := _) (v := ?vct18) rfl (by kernel_rfl) (by kernel_rfl) (by kernel_rfl) (fun _ _ _ h => h) (Or.inl ⟨by rfl, ?hyct18⟩) (by assumption) ?restct18
  case hyct18 => (intro w hSw; (try dsimp only at hSw); (try simp only [List.getElem_toArray, List.getElem_cons_zero, List.getElem_cons_succ]); go_simp; (try with_reducible rfl))
  (try simp only [Act.put, List.setIfInBounds_toArray, List.set_cons_zero, List.set_cons_succ, List.getElem_toArray, List.getElem_cons_zero, List.getElem_cons_succ])
  refine wpAnyH_done (by kernel_rfl) ?_ _
  refine NoPanic.normal ?_
  go_wp2_with fail
  go_ret
  exact ⟨rfl, HP.out.below HB3.out, HK.out.trans (Keep.of_below (pown p L) HB3.out) (fun _ _ x => x)⟩
end

end Go.Proofs.Ytmkgcmnimpkmjaa
