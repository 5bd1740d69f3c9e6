/- The document's NewPact, send, tell, Size. Own work. -/
import Derived.Test.YtmkgcmnimpkmjaaRPact
namespace Go.Proofs.Ytmkgcmnimpkmjaa
set_option linter.unusedVariables false
set_option linter.unusedSimpArgs false
open Go.RowKit

section
variable (r : Nat) (name : ByteArray) (m : Pm) (w : World)

theorem putN_turn (y : Bool) (o : Int) (v : Int × Bool) (n : Int) (hn : n ≠ 0) (h : RefAt w r name (m.turn y o v 0)) : RefAt (w.setCell ⟨r, 1027, none⟩ (.int .i64 ((m.sent : Int) + 1))) r name (m.turn y o v n) := by
  have h1 := h.putN
  cases y <;> exact h1.congr rfl rfl (by simp [Pm.turn, hn]) rfl rfl rfl rfl rfl rfl

set_option maxRecDepth 100000 in
set_option maxHeartbeats 1600000 in
theorem rsend_any (y : Bool) (o' : Int) (v : Int × Bool) (n : Int) (o : Nat) (on off : Int) (hon : on = (onC y : Nat)) (hoff : off = (offC y : Nat)) (h : RefAt w r name (m.turn y o' v 0)) (ho : o ≤ 255) (hs : m.sent < 1000000) :
    Calls Try.prog 34 #[.pointer (some ⟨r, 0, none⟩), .int .i64 n, .int .i64 on, .int .i64 off, .int .i64 (o : Int)] w fun e w' =>
      e = .returned (.string ⟨(cmdL y o n).toArray⟩) ∧ RefAt w' r name (m.turn y o' v n) ∧ Keep (· = r) w w' := by
  by_cases hn : n = 0
  · subst hn
    have HC := Lib.hid (show cmdL y o 0 = [] from rfl)
    go_enter Try.func34, Try.ntmps34
    go_wp2_with fail
    go_ret
    exact ⟨by rw [HC.out]; rfl, h, Keep.refl _ _⟩
  · have hn1 : (n == 0) = false := by simpa using hn
    have hsn : (m.turn y o' v 0).sent = m.sent := by cases y <;> rfl
    have hc := h.n
    rw [hsn] at hc
    obtain ⟨c, f⟩ := hc
    have HP := Lib.hid (putN_turn r name m w y o' v n hn h)
    have hsz : (m.sent : Int) < 1000000 := by omega
    by_cases h0 : 0 < n
    · have HC := Lib.hid (show cmdL y o n = optL (onC y) o by unfold cmdL; rw [if_neg hn, if_pos h0])
      have HW := Lib.hid (fun W => rw_option (onC y) o W (by cases y <;> decide) ho)
      rw [← hon] at HW
      generalize m.sent = sent at *
      clear hn h hsn hs hon hoff
      go_enter Try.func34, Try.ntmps34
      go_wp2_with fail
      refine (HW.out _).mono ?_
      rintro e w1 ⟨rfl, hb⟩
      have HB := Lib.hid hb
      clear hb
      go_wp2_with fail
      go_ret
      exact ⟨by rw [HC.out]; rfl, HP.out.below HB.out, (keep_set w r 1027 _).trans (Keep.of_below (· = r) HB.out) (fun _ _ x => x)⟩
    · have HC := Lib.hid (show cmdL y o n = optL (offC y) o by unfold cmdL; rw [if_neg hn, if_neg h0])
      have HW := Lib.hid (fun W => rw_option (offC y) o W (by cases y <;> decide) ho)
      rw [← hoff] at HW
      generalize m.sent = sent at *
      clear hn h hsn hs hon hoff
      go_enter Try.func34, Try.ntmps34
      go_wp2_with fail
      refine (HW.out _).mono ?_
      rintro e w1 ⟨rfl, hb⟩
      have HB := Lib.hid hb
      clear hb
      go_wp2_with fail
      go_ret
      exact ⟨by rw [HC.out]; rfl, HP.out.below HB.out, (keep_set w r 1027 _).trans (Keep.of_below (· = r) HB.out) (fun _ _ x => x)⟩

set_option maxRecDepth 100000 in
set_option maxHeartbeats 1600000 in
theorem rtell_any (h : RefAt w r name m) (h1 : m.w ≤ 65535) (h2 : m.h ≤ 65535) :
    Calls Try.prog 29 #[.pointer (some ⟨r, 0, none⟩)] w fun e w' => e = .returned (.string ⟨(sizeL m).toArray⟩) ∧ RefAt w' r name m.tell ∧ Keep (· = r) w w' := by
  obtain ⟨c1, f1⟩ := h.wd
  obtain ⟨c2, f2⟩ := h.ht
  obtain ⟨c3, f3⟩ := h.tw
  obtain ⟨c4, f4⟩ := h.th
  obtain ⟨c5, f5⟩ := h.told
  obtain ⟨S, hS⟩ : ∃ S, S = sizeL m := ⟨_, rfl⟩
  rw [← hS]
  obtain ⟨W0, hW0⟩ : ∃ W0, W0 = (((w.setCell ⟨r, 1028, none⟩ (.int .i64 (m.w : Int))).setCell ⟨r, 1029, none⟩ (.int .i64 (m.h : Int))).setCell ⟨r, 1030, none⟩ (.bool true)).drew := ⟨_, rfl⟩
  have ht := h.tells
  have HT : Hid (RefAt W0 r name m.tell) := Lib.hid (by rw [hW0]; exact ht.drew)
  have HK : Hid (Keep (· = r) w W0) := Lib.hid (by rw [hW0]; exact (((keep_set w r 1028 _).own 1029 _).own 1030 _).drew)
  have e1 : W0.cell? ⟨r, 1, none⟩ = some (.int .i64 (m.w : Int)) := HT.out.wd.1
  have e2 : W0.cell? ⟨r, 2, none⟩ = some (.int .i64 (m.h : Int)) := HT.out.ht.1
  obtain ⟨A1, hA1⟩ : ∃ H, H = UInt8.ofNat (m.w / 256) := ⟨_, rfl⟩
  obtain ⟨A2, hA2⟩ : ∃ O, O = UInt8.ofNat m.w := ⟨_, rfl⟩
  obtain ⟨B1, hB1⟩ : ∃ H, H = UInt8.ofNat (m.h / 256) := ⟨_, rfl⟩
  obtain ⟨B2, hB2⟩ : ∃ O, O = UInt8.ofNat m.h := ⟨_, rfl⟩
  have a1 : (m.w : Int) / 256 = (A1.toNat : Int) := by rw [hA1, toNat_ofNat (by omega)]; omega
  have a2 : IntKind.u8.wrap (m.w : Int) = (A2.toNat : Int) := by rw [IntKind.wrap_u8', hA2]; simp
  have a3 : (m.w : Int) % 256 = (A2.toNat : Int) := by rw [hA2]; simp
  have b1 : (m.h : Int) / 256 = (B1.toNat : Int) := by rw [hB1, toNat_ofNat (by omega)]; omega
  have b2 : IntKind.u8.wrap (m.h : Int) = (B2.toNat : Int) := by rw [IntKind.wrap_u8', hB2]; simp
  have b3 : (m.h : Int) % 256 = (B2.toNat : Int) := by rw [hB2]; simp
  have u1 : (0 : Int) ≤ (A1.toNat : Int) := by omega
  have u2 : (A1.toNat : Int) ≤ 255 := by have := A1.toNat_lt; omega
  have u3 : (0 : Int) ≤ (B1.toNat : Int) := by omega
  have u4 : (B1.toNat : Int) ≤ 255 := by have := B1.toNat_lt; omega
  have hb := buf_row W0 [A1, A2, B1, B2] 5 _ 4 rfl rfl (by omega) (by omega)
  have hc := fun W (k : Below (W0.alloc (.cells (Lib.byteCells [A1, A2, B1, B2]).toArray 5)).heap.size (W0.alloc (.cells (Lib.byteCells [A1, A2, B1, B2]).toArray 5)) W) => run_buf_string (P := Try.prog) 90 9 5 (hb.keep (S := fun _ => False) (w' := W) (Keep.of_below _ k) (fun _ _ x => x)) Try.underlying90 Try.underlying5 Try.underlying9 4 (Nat.le_refl _)
  have hcd : (convert 90 9 (.slice (some ⟨W0.heap.size, 0, none⟩) 4 4)).run Try.prog (W0.alloc (.cells #[.int .u8 (A1.toNat : Int), .int .u8 (A2.toNat : Int), .int .u8 (B1.toNat : Int), .int .u8 (B2.toNat : Int)] 5)).drew = .ok (.string ⟨[A1, A2, B1, B2].toArray⟩) (W0.alloc (.cells #[.int .u8 (A1.toNat : Int), .int .u8 (A2.toNat : Int), .int .u8 (B1.toNat : Int), .int .u8 (B2.toNat : Int)] 5)).drew := hc _ (Below.refl _ _).drew
  have v1 : IntKind.i64.wrap (A1.toNat : Int) = (A1.toNat : Int) := by rw [IntWalk.i64_in _ (by omega)]
  have v2 : IntKind.i64.wrap (B1.toNat : Int) = (B1.toNat : Int) := by rw [IntWalk.i64_in _ (by omega)]
  have v3 : IntKind.u8.wrap (A1.toNat : Int) = (A1.toNat : Int) := by rw [IntKind.wrap_u8']; omega
  have v4 : IntKind.u8.wrap (B1.toNat : Int) = (B1.toNat : Int) := by rw [IntKind.wrap_u8']; omega
  have HSUB := Lib.hid (fun W => rw_sub 31 ⟨[A1, A2, B1, B2].toArray⟩ W (by omega) (by show 4 ≤ _; omega))
  rw [show subL 31 (⟨[A1, A2, B1, B2].toArray⟩ : ByteArray).data.toList = S by rw [hS, sizeL, hA1, hA2, hB1, hB2]; rfl] at HSUB
  have HW0 := Lib.hid hW0
  have HX : Hid (∀ W, Below W0.heap.size W0 W → W.cell? ⟨r, 1, none⟩ = some (.int .i64 (m.w : Int)) ∧ W.cell? ⟨r, 2, none⟩ = some (.int .i64 (m.h : Int))) := Lib.hid (fun W q => ⟨(HT.out.below q).wd.1, (HT.out.below q).ht.1⟩)
  have HCD := Lib.hid hcd
  clear hA1 hA2 hB1 hB2 hb hc h ht hW0 hS hcd
  generalize m.w = a at *
  generalize m.h = b at *
  generalize m.tw = tw at *
  generalize m.th = th at *
  generalize m.told = told at *
  go_enter Try.func29, Try.ntmps29
  go_wp2_with fail
  go_region
  rw [← HW0.out]
  clear HW0 c1 c2 c3 c4 c5 f1 f2 f3 f4 f5
  go_wp2_with fail
  refine wp_region_noPanic ?_
  refine wp_region_held_drew (S := fun W => W.cell? ⟨r, 1, none⟩ = some (.int .i64 (a : Int)) ∧ W.cell? ⟨r, 2, none⟩ = some (.int .i64 (b : Int))) (by kernel_rfl) ⟨e1, e2⟩ (fun hHeld => ?_)
  refine wpAnyH_take (i := 0) (oi := _) (v := ?vt0_1) rfl (by kernel_rfl) (by kernel_rfl) (by kernel_rfl) (fun _ _ _ h => h) (Or.inl ⟨by rfl, ?hyt0_1⟩) (by assumption) ?restt0_1
  case hyt0_1 => (intro w hSw; (try dsimp only at hSw); (try simp only [List.getElem_toArray, List.getElem_cons_zero, List.getElem_cons_succ]); go_simp; (try with_reducible rfl))
  (try simp only [Act.put, List.setIfInBounds_toArray, List.set_cons_zero, List.set_cons_succ, List.getElem_toArray, List.getElem_cons_zero, List.getElem_cons_succ])
  refine wpAnyH_take (i := 6) (oi := _) (v := ?vt6_2) rfl (by kernel_rfl) (by kernel_rfl) (by kernel_rfl) (fun _ _ _ h => h) (Or.inl ⟨by rfl, ?hyt6_2⟩) (by assumption) ?restt6_2
  case hyt6_2 => (intro w hSw; (try dsimp only at hSw); (try simp only [List.getElem_toArray, List.getElem_cons_zero, List.getElem_cons_succ]); go_simp; (try with_reducible rfl))
  (try simp only [Act.put, List.setIfInBounds_toArray, List.set_cons_zero, List.set_cons_succ, List.getElem_toArray, List.getElem_cons_zero, List.getElem_cons_succ])
  refine wpAnyH_take (i := 11) (oi := _) (v := ?vt11_3) rfl (by kernel_rfl) (by kernel_rfl) (by kernel_rfl) (fun _ _ _ h => h) (Or.inl ⟨by rfl, ?hyt11_3⟩) (by assumption) ?restt11_3
  case hyt11_3 => (intro w hSw; (try dsimp only at hSw); (try simp only [List.getElem_toArray, List.getElem_cons_zero, List.getElem_cons_succ]); go_simp; (try with_reducible rfl))
  (try simp only [Act.put, List.setIfInBounds_toArray, List.set_cons_zero, List.set_cons_succ, List.getElem_toArray, List.getElem_cons_zero, List.getElem_cons_succ])
  refine wpAnyH_take (i := 17) (oi := _) (v := ?vt17_4) rfl (by kernel_rfl) (by kernel_rfl) (by kernel_rfl) (fun _ _ _ h => h) (Or.inl ⟨by rfl, ?hyt17_4⟩) (by assumption) ?restt17_4
  case hyt17_4 => (intro w hSw; (try dsimp only at hSw); (try simp only [List.getElem_toArray, List.getElem_cons_zero, List.getElem_cons_succ]); go_simp; (try with_reducible rfl))
  (try simp only [Act.put, List.setIfInBounds_toArray, List.set_cons_zero, List.set_cons_succ, List.getElem_toArray, List.getElem_cons_zero, List.getElem_cons_succ])
  refine wpAnyH_take (i := 1) (oi := _) (v := ?vt1_5) rfl (by kernel_rfl) (by kernel_rfl) (by kernel_rfl) (fun _ _ _ h => h) (Or.inl ⟨by rfl, ?hyt1_5⟩) (by assumption) ?restt1_5
  case hyt1_5 => (intro w hSw; (try dsimp only at hSw); (try simp only [List.getElem_toArray, List.getElem_cons_zero, List.getElem_cons_succ]); go_simp; (try with_reducible rfl))
  (try simp only [Act.put, List.setIfInBounds_toArray, List.set_cons_zero, List.set_cons_succ, List.getElem_toArray, List.getElem_cons_zero, List.getElem_cons_succ])
  refine wpAnyH_take (i := 7) (oi := _) (v := ?vt7_6) rfl (by kernel_rfl) (by kernel_rfl) (by kernel_rfl) (fun _ _ _ h => h) (Or.inl ⟨by rfl, ?hyt7_6⟩) (by assumption) ?restt7_6
  case hyt7_6 => (intro w hSw; (try dsimp only at hSw); (try simp only [List.getElem_toArray, List.getElem_cons_zero, List.getElem_cons_succ]); go_simp; (try with_reducible rfl))
  (try simp only [Act.put, List.setIfInBounds_toArray, List.set_cons_zero, List.set_cons_succ, List.getElem_toArray, List.getElem_cons_zero, List.getElem_cons_succ])
  refine wpAnyH_take (i := 12) (oi := _) (v := ?vt12_7) rfl (by kernel_rfl) (by kernel_rfl) (by kernel_rfl) (fun _ _ _ h => h) (Or.inl ⟨by rfl, ?hyt12_7⟩) (by assumption) ?restt12_7
  case hyt12_7 => (intro w hSw; (try dsimp only at hSw); (try simp only [List.getElem_toArray, List.getElem_cons_zero, List.getElem_cons_succ]); go_simp; (try with_reducible rfl))
  (try simp only [Act.put, List.setIfInBounds_toArray, List.set_cons_zero, List.set_cons_succ, List.getElem_toArray, List.getElem_cons_zero, List.getElem_cons_succ])
  refine wpAnyH_take (i := 18) (oi := _) (v := ?vt18_8) rfl (by kernel_rfl) (by kernel_rfl) (by kernel_rfl) (fun _ _ _ h => h) (Or.inl ⟨by rfl, ?hyt18_8⟩) (by assumption) ?restt18_8
  case hyt18_8 => (intro w hSw; (try dsimp only at hSw); (try simp only [List.getElem_toArray, List.getElem_cons_zero, List.getElem_cons_succ]); go_simp; (try with_reducible rfl))
  (try simp only [Act.put, List.setIfInBounds_toArray, List.set_cons_zero, List.set_cons_succ, List.getElem_toArray, List.getElem_cons_zero, List.getElem_cons_succ])
  refine wpAnyH_take (i := 2) (oi := _) (v := ?vt2_9) rfl (by kernel_rfl) (by kernel_rfl) (by kernel_rfl) (fun _ _ _ h => h) (Or.inl ⟨by rfl, ?hyt2_9⟩) (by assumption) ?restt2_9
  case hyt2_9 => (intro w hSw; (try dsimp only at hSw); (try simp only [List.getElem_toArray, List.getElem_cons_zero, List.getElem_cons_succ]); go_simp; (try with_reducible rfl))
  (try simp only [Act.put, List.setIfInBounds_toArray, List.set_cons_zero, List.set_cons_succ, List.getElem_toArray, List.getElem_cons_zero, List.getElem_cons_succ])
  refine wpAnyH_take (i := 8) (oi := _) (v := ?vt8_10) rfl (by kernel_rfl) (by kernel_rfl) (by kernel_rfl) (fun _ _ _ h => h) (Or.inl ⟨by rfl, ?hyt8_10⟩) (by assumption) ?restt8_10
  case hyt8_10 => (intro w hSw; (try dsimp only at hSw); (try simp only [List.getElem_toArray, List.getElem_cons_zero, List.getElem_cons_succ]); go_simp; (try with_reducible rfl))
  (try simp only [Act.put, List.setIfInBounds_toArray, List.set_cons_zero, List.set_cons_succ, List.getElem_toArray, List.getElem_cons_zero, List.getElem_cons_succ])
  refine wpAnyH_take (i := 13) (oi := _) (v := ?vt13_11) rfl (by kernel_rfl) (by kernel_rfl) (by kernel_rfl) (fun _ _ _ h => h) (Or.inl ⟨by rfl, ?hyt13_11⟩) (by assumption) ?restt13_11
  case hyt13_11 => (intro w hSw; (try dsimp only at hSw); (try simp only [List.getElem_toArray, List.getElem_cons_zero, List.getElem_cons_succ]); go_simp; (try with_reducible rfl))
  (try simp only [Act.put, List.setIfInBounds_toArray, List.set_cons_zero, List.set_cons_succ, List.getElem_toArray, List.getElem_cons_zero, List.getElem_cons_succ])
  refine wpAnyH_take (i := 19) (oi := _) (v := ?vt19_12) rfl (by kernel_rfl) (by kernel_rfl) (by kernel_rfl) (fun _ _ _ h => h) (Or.inl ⟨by rfl, ?hyt19_12⟩) (by assumption) ?restt19_12
  case hyt19_12 => (intro w hSw; (try dsimp only at hSw); (try simp only [List.getElem_toArray, List.getElem_cons_zero, List.getElem_cons_succ]); go_simp; (try with_reducible rfl))
  (try simp only [Act.put, List.setIfInBounds_toArray, List.set_cons_zero, List.set_cons_succ, List.getElem_toArray, List.getElem_cons_zero, List.getElem_cons_succ])
  refine wpAnyH_take (i := 3) (oi := _) (v := ?vt3_13) rfl (by kernel_rfl) (by kernel_rfl) (by kernel_rfl) (fun _ _ _ h => h) (Or.inl ⟨by rfl, ?hyt3_13⟩) (by assumption) ?restt3_13
  case hyt3_13 => (intro w hSw; (try dsimp only at hSw); (try simp only [List.getElem_toArray, List.getElem_cons_zero, List.getElem_cons_succ]); go_simp; (try with_reducible rfl))
  (try simp only [Act.put, List.setIfInBounds_toArray, List.set_cons_zero, List.set_cons_succ, List.getElem_toArray, List.getElem_cons_zero, List.getElem_cons_succ])
  refine wpAnyH_take (i := 9) (oi := _) (v := ?vt9_14) rfl (by kernel_rfl) (by kernel_rfl) (by kernel_rfl) (fun _ _ _ h => h) (Or.inl ⟨by rfl, ?hyt9_14⟩) (by assumption) ?restt9_14
  case hyt9_14 => (intro w hSw; (try dsimp only at hSw); (try simp only [List.getElem_toArray, List.getElem_cons_zero, List.getElem_cons_succ]); go_simp; (try with_reducible rfl))
  (try simp only [Act.put, List.setIfInBounds_toArray, List.set_cons_zero, List.set_cons_succ, List.getElem_toArray, List.getElem_cons_zero, List.getElem_cons_succ])
  refine wpAnyH_take (i := 14) (oi := _) (v := ?vt14_15) rfl (by kernel_rfl) (by kernel_rfl) (by kernel_rfl) (fun _ _ _ h => h) (Or.inl ⟨by rfl, ?hyt14_15⟩) (by assumption) ?restt14_15
  case hyt14_15 => (intro w hSw; (try dsimp only at hSw); (try simp only [List.getElem_toArray, List.getElem_cons_zero, List.getElem_cons_succ]); go_simp; (try with_reducible rfl))
  (try simp only [Act.put, List.setIfInBounds_toArray, List.set_cons_zero, List.set_cons_succ, List.getElem_toArray, List.getElem_cons_zero, List.getElem_cons_succ])
  refine wpAnyH_take (i := 20) (oi := _) (v := ?vt20_16) rfl (by kernel_rfl) (by kernel_rfl) (by kernel_rfl) (fun _ _ _ h => h) (Or.inl ⟨by rfl, ?hyt20_16⟩) (by assumption) ?restt20_16
  case hyt20_16 => (intro w hSw; (try dsimp only at hSw); (try simp only [List.getElem_toArray, List.getElem_cons_zero, List.getElem_cons_succ]); go_simp; (try with_reducible rfl))
  (try simp only [Act.put, List.setIfInBounds_toArray, List.set_cons_zero, List.set_cons_succ, List.getElem_toArray, List.getElem_cons_zero, List.getElem_cons_succ])
  refine wpAnyH_take (i := 4) (oi := _) (v := ?vt4_17) rfl (by kernel_rfl) (by kernel_rfl) (by kernel_rfl) (fun _ _ _ h => h) (Or.inl ⟨by rfl, ?hyt4_17⟩) (by assumption) ?restt4_17
  case hyt4_17 => (intro w hSw; (try dsimp only at hSw); (try simp only [List.getElem_toArray, List.getElem_cons_zero, List.getElem_cons_succ]); go_simp; (try with_reducible rfl))
  (try simp only [Act.put, List.setIfInBounds_toArray, List.set_cons_zero, List.set_cons_succ, List.getElem_toArray, List.getElem_cons_zero, List.getElem_cons_succ])
  refine wpAnyH_take (i := 10) (oi := _) (v := ?vt10_18) rfl (by kernel_rfl) (by kernel_rfl) (by kernel_rfl) (fun _ _ _ h => h) (Or.inl ⟨by rfl, ?hyt10_18⟩) (by assumption) ?restt10_18
  case hyt10_18 => (intro w hSw; (try dsimp only at hSw); (try simp only [List.getElem_toArray, List.getElem_cons_zero, List.getElem_cons_succ]); go_simp; (try with_reducible rfl))
  (try simp only [Act.put, List.setIfInBounds_toArray, List.set_cons_zero, List.set_cons_succ, List.getElem_toArray, List.getElem_cons_zero, List.getElem_cons_succ])
  refine wpAnyH_take (i := 15) (oi := _) (v := ?vt15_19) rfl (by kernel_rfl) (by kernel_rfl) (by kernel_rfl) (fun _ _ _ h => h) (Or.inl ⟨by rfl, ?hyt15_19⟩) (by assumption) ?restt15_19
  case hyt15_19 => (intro w hSw; (try dsimp only at hSw); (try simp only [List.getElem_toArray, List.getElem_cons_zero, List.getElem_cons_succ]); go_simp; (try with_reducible rfl))
  (try simp only [Act.put, List.setIfInBounds_toArray, List.set_cons_zero, List.set_cons_succ, List.getElem_toArray, List.getElem_cons_zero, List.getElem_cons_succ])
  refine wpAnyH_take (i := 21) (oi := _) (v := ?vt21_20) rfl (by kernel_rfl) (by kernel_rfl) (by kernel_rfl) (fun _ _ _ h => h) (Or.inl ⟨by rfl, ?hyt21_20⟩) (by assumption) ?restt21_20
  case hyt21_20 => (intro w hSw; (try dsimp only at hSw); (try simp only [List.getElem_toArray, List.getElem_cons_zero, List.getElem_cons_succ]); go_simp; (try with_reducible rfl))
  (try simp only [Act.put, List.setIfInBounds_toArray, List.set_cons_zero, List.set_cons_succ, List.getElem_toArray, List.getElem_cons_zero, List.getElem_cons_succ])
  refine wpAnyH_take (i := 5) (oi := _) (v := ?vt5_21) rfl (by kernel_rfl) (by kernel_rfl) (by kernel_rfl) (fun _ _ _ h => h) (Or.inl ⟨by rfl, ?hyt5_21⟩) (by assumption) ?restt5_21
  case hyt5_21 => (intro w hSw; (try dsimp only at hSw); (try simp only [List.getElem_toArray, List.getElem_cons_zero, List.getElem_cons_succ]); go_simp; (try with_reducible rfl))
  (try simp only [Act.put, List.setIfInBounds_toArray, List.set_cons_zero, List.set_cons_succ, List.getElem_toArray, List.getElem_cons_zero, List.getElem_cons_succ])
  refine wpAnyH_take (i := 16) (oi := _) (v := ?vt16_22) rfl (by kernel_rfl) (by kernel_rfl) (by kernel_rfl) (fun _ _ _ h => h) (Or.inl ⟨by rfl, ?hyt16_22⟩) (by assumption) ?restt16_22
  case hyt16_22 => (intro w hSw; (try dsimp only at hSw); (try simp only [List.getElem_toArray, List.getElem_cons_zero, List.getElem_cons_succ]); go_simp; (try with_reducible rfl))
  (try simp only [Act.put, List.setIfInBounds_toArray, List.set_cons_zero, List.set_cons_succ, List.getElem_toArray, List.getElem_cons_zero, List.getElem_cons_succ])
  refine wpAnyH_ready (rs := [22]) (by kernel_rfl) (by simp) ?_
  refine AllReadyH.cons (o := _) rfl (fun K hK => ?_) AllReadyH.nil
  · (try simp only [List.getElem_toArray, List.getElem_cons_zero, List.getElem_cons_succ])
    go_simp
    refine hK.out _ _ ?_ (fun hHeld => ?_)
    · exact HX.out _ (by first | exact ((Below.refl W0.heap.size W0).alloc (Nat.le_refl _) _).drew | exact (Below.refl W0.heap.size W0).drew.alloc (Nat.le_refl _) _ | exact (Below.refl W0.heap.size W0).alloc (Nat.le_refl _) _)
    clear hK K
    (try simp only [Act.put, List.setIfInBounds_toArray, List.set_cons_zero, List.set_cons_succ, List.getElem_toArray, List.getElem_cons_zero, List.getElem_cons_succ])
    refine wpAnyH_ready (rs := [23]) (by kernel_rfl) (by simp) ?_
    refine AllReadyH.cons (o := _) rfl (fun K hK => ?_) AllReadyH.nil
    · (try simp only [List.getElem_toArray, List.getElem_cons_zero, List.getElem_cons_succ])
      go_simp
      rw [HCD.out]
      go_simp
      refine hK.out _ _ ?_ (fun hHeld => ?_)
      · exact HX.out _ (by first | exact ((Below.refl W0.heap.size W0).alloc (Nat.le_refl _) _).drew | exact (Below.refl W0.heap.size W0).drew.alloc (Nat.le_refl _) _ | exact (Below.refl W0.heap.size W0).alloc (Nat.le_refl _) _)
      clear hK K
      (try simp only [Act.put, List.setIfInBounds_toArray, List.set_cons_zero, List.set_cons_succ, List.getElem_toArray, List.getElem_cons_zero, List.getElem_cons_succ])
      refine wpAnyH_ready (rs := [24]) (by kernel_rfl) (by simp) ?_
      refine AllReadyH.cons (o := _) rfl (fun K hK => ?_) AllReadyH.nil
      · (try simp only [List.getElem_toArray, List.getElem_cons_zero, List.getElem_cons_succ])
        go_simp
        go_at_call 22
        refine (HSUB.out _).mono ?_
        rintro e w1 ⟨rfl, hb⟩
        have HB : Hid (Below W0.heap.size W0 w1) := Lib.hid (((Below.refl W0.heap.size W0).alloc (Nat.le_refl _) _).drew.trans (hb.mono (by simp)))
        clear hb
        refine hK.out _ _ ?_ (fun hHeld => ?_)
        · exact HX.out _ HB.out
        clear hK K
        (try simp only [Act.put, List.setIfInBounds_toArray, List.set_cons_zero, List.set_cons_succ, List.getElem_toArray, List.getElem_cons_zero, List.getElem_cons_succ])
        refine wpAnyH_take (i := 25) (oi := _) (v := ?vt25_23) rfl (by kernel_rfl) (by kernel_rfl) (by kernel_rfl) (fun _ _ _ h => h) (Or.inl ⟨by rfl, ?hyt25_23⟩) (by assumption) ?restt25_23
        case hyt25_23 => (intro w hSw; (try dsimp only at hSw); (try simp only [List.getElem_toArray, List.getElem_cons_zero, List.getElem_cons_succ]); go_simp; (try with_reducible rfl))
        (try simp only [Act.put, List.setIfInBounds_toArray, List.set_cons_zero, List.set_cons_succ, List.getElem_toArray, List.getElem_cons_zero, List.getElem_cons_succ])
        refine wpAnyH_done (by kernel_rfl) ?_ _
        refine NoPanic.normal ?_
        go_wp2_with fail
        go_ret
        exact ⟨rfl, HT.out.below HB.out, HK.out.trans (Keep.of_below (· = r) HB.out) (fun _ _ x => x)⟩
end

end Go.Proofs.Ytmkgcmnimpkmjaa
