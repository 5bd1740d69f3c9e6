/- Law EscControls: the walk. Own work (rgn/XEscControlsWalk.lean by rgn.py). -/
import Derived.Test.YthphnjilbpidgaaEscW
import Derived.Test.YthphnjilbpidgaaBkSameI
import Derived.Test.YthphnjilbpidgaaActsR
import Derived.IntWalk
namespace Go.Proofs.Ythphnjilbpidgaa
set_option linter.unusedVariables false
set_option linter.unusedSimpArgs false
open Go.RowKit

set_option maxRecDepth 100000 in
set_option maxHeartbeats 1600000 in
theorem escControls_early (n c a : Int) (w : World) (h : n < 0 ∨ (¬ n < 0 ∧ n > 9999) ∨ (¬ n < 0 ∧ ¬ n > 9999 ∧ c < 0) ∨ (¬ n < 0 ∧ ¬ n > 9999 ∧ ¬ c < 0 ∧ c > 31) ∨ (¬ n < 0 ∧ ¬ n > 9999 ∧ c = 24) ∨ (¬ n < 0 ∧ ¬ n > 9999 ∧ c = 26) ∨ (¬ n < 0 ∧ ¬ n > 9999 ∧ c = 27) ∨ (¬ n < 0 ∧ ¬ n > 9999 ∧ ¬ c < 0 ∧ ¬ c > 31 ∧ (c == 24) = false ∧ (c == 26) = false ∧ (c == 27) = false ∧ a < 0)) :
    Calls Try.prog 7 #[.int .i64 n, .int .i64 c, .int .i64 a] w fun e w' => e = .returned (.bool true) ∧ Below w.heap.size w w' := by
  rcases h with h | ⟨h1, h⟩ | ⟨h1, h2, h⟩ | ⟨h1, h2, h3, h⟩ | ⟨h1, h2, rfl⟩ | ⟨h1, h2, rfl⟩ | ⟨h1, h2, rfl⟩ | ⟨h1, h2, h3, h4, h5, h6, h7, h⟩
  all_goals
    go_enter Try.func7, Try.ntmps7
    go_wp2_with fail
    refine (alive_any _).mono ?_
    rintro e w1 ⟨rfl, hb⟩
    have HB := Lib.hid hb
    clear hb
    go_wp2_with fail
    go_ret
    exact ⟨rfl, HB.out⟩

theorem ctl_nats (n : Nat) : natsOf ((⟨#[27, 91]⟩ : ByteArray) ++ bytesN (decN n) ++ ⟨#[65]⟩) = ctlL n := by
  rw [natsOf_add, natsOf_add, natsOf_bytesN _ (fun c hc => by have := decN_mem n c hc; omega)]
  simp [ctlL, natsOf]

set_option maxRecDepth 100000 in
set_option maxHeartbeats 1600000 in
theorem escControls_main (n c a : Int) (w : World) (h1 : ¬ n < 0) (h2 : ¬ n > 9999) (h3 : ¬ c < 0) (h4 : ¬ c > 31) (h5 : (c == 24) = false) (h6 : (c == 26) = false) (h7 : (c == 27) = false) (h8 : ¬ a < 0) :
    Calls Try.prog 7 #[.int .i64 n, .int .i64 c, .int .i64 a] w fun e w' => e = .returned (.bool true) ∧ Below w.heap.size w w' := by
  obtain ⟨N, hN⟩ : ∃ N : Nat, n = (N : Int) := ⟨n.toNat, by omega⟩
  obtain ⟨C, hC⟩ : ∃ C : Nat, c = (C : Int) := ⟨c.toNat, by omega⟩
  have HN := Lib.hid hN
  have HC := Lib.hid hC
  have hN9 : Hid (N ≤ 9999) := Lib.hid (by omega)
  have hC31 : Hid (C < 32 ∧ C ≠ 24 ∧ C ≠ 26 ∧ C ≠ 27) := Lib.hid (by
    refine ⟨by omega, fun e => ?_, fun e => ?_, fun e => ?_⟩
    · rw [hC, e] at h5; simp at h5
    · rw [hC, e] at h6; simp at h6
    · rw [hC, e] at h7; simp at h7)
  obtain ⟨D, hD⟩ : ∃ D, D = bytesN (decN N) := ⟨_, rfl⟩
  have hDs : D.size ≤ 4 := by rw [hD, bytesN_size]; exact decN_len 3 N (by omega)
  have hDp : 0 < D.size := by rw [hD, bytesN_size]; exact decN_pos N
  obtain ⟨S, hS⟩ : ∃ S, S = (⟨#[27, 91]⟩ : ByteArray) ++ D ++ ⟨#[65]⟩ := ⟨_, rfl⟩
  have hSn : natsOf S = ctlL N := by rw [hS, hD]; exact ctl_nats N
  have hSs : S.size = D.size + 3 := by rw [hS, ByteArray.size_append, ByteArray.size_append]; show 2 + D.size + 1 = D.size + 3; omega
  obtain ⟨Z, hK⟩ : ∃ Z : Nat, 1 + a % ((S.size : Int) - 1) = (Z : Int) := ⟨(1 + a % ((S.size : Int) - 1)).toNat, by have := Int.emod_nonneg a (show ((S.size : Int) - 1) ≠ 0 by omega); omega⟩
  have hK1 : 1 ≤ Z := by have := Int.emod_nonneg a (show ((S.size : Int) - 1) ≠ 0 by omega); omega
  have hK2 : Z < S.size := by have := Int.emod_lt_of_pos a (show 0 < ((S.size : Int) - 1) by omega); omega
  have hz1 : (⟨#[27, 91]⟩ : ByteArray).size + D.size ≤ 9223372036854775807 := by show 2 + D.size ≤ _; omega
  have hz2 : ((⟨#[27, 91]⟩ : ByteArray) ++ D).size + (⟨#[65]⟩ : ByteArray).size ≤ 9223372036854775807 := by rw [ByteArray.size_append]; show 2 + D.size + 1 ≤ _; omega
  have hc8 : IntKind.u8.wrap c = c := by rw [hC, u8_of (by omega), toNat_ofNat (by omega)]
  have hdig : ∀ W, Calls Try.prog 18 #[.int .i64 n] W fun e w' => e = .returned (.string D) ∧ Below W.heap.size W w' := fun W => by rw [hN, hD]; exact digits_any N (by omega) W
  have HD := Lib.hid hdig
  have HS := Lib.hid hS
  have HSn := Lib.hid hSn
  have HK := Lib.hid hK
  have HC8 := Lib.hid hc8
  have HSs := Lib.hid hSs
  obtain ⟨E, hE⟩ : ∃ E, E = bytesN [C, 127] := ⟨_, rfl⟩
  have hcv : ∀ W : World, (convert 48 9 (.slice (some ⟨W.heap.size, 0, none⟩) 2 2)).run Try.prog ((W.alloc (.cells #[.int .u8 c, .int .u8 127] 5)).drew) = .ok (.string E) ((W.alloc (.cells #[.int .u8 c, .int .u8 127] 5)).drew) := fun W => by
    rw [hE]
    have := hC31.out.1
    exact bytes_str (W := (W.alloc (.cells #[.int .u8 c, .int .u8 127] 5)).drew) (P := Try.prog) 48 9 5 [C, 127] #[.int .u8 c, .int .u8 127] W.heap.size 2 (heap_alloc_new W _) (by rw [hC]; rfl) (by intro x hx; simp at hx; omega) rfl (by unfold maxLen; omega) Try.underlying48 Try.underlying5 Try.underlying9
  have HE := Lib.hid hE
  clear hN hC hD hS hSn hK hSs hdig hc8 hE
  go_enter Try.func7, Try.ntmps7
  go_wp2_with fail
  refine (alive_any _).mono ?_
  rintro e w1 ⟨rfl, hb⟩
  have HB1 := Lib.hid hb
  clear hb
  go_wp2_with fail
  refine (HD.out _).mono ?_
  rintro e w2 ⟨rfl, hb⟩
  have HB2 := Lib.hid (HB1.out.trans (hb.mono HB1.out.size))
  clear hb
  go_upto_region 4 with fail
  rw [← HS.out]
  have hs5 : 4 ≤ S.size := by have := HSs.out; omega
  have hs7 : S.size ≤ 7 := by have := HSs.out; omega
  clear hz1 hz2 hDs hDp
  go_upto_region 5 with fail
  rw [HK.out]
  have hc8 := HC8.out
  obtain ⟨w3, hw3⟩ : ∃ w3, w3 = w2.alloc (.cells parserCs 37) := ⟨_, rfl⟩
  have HE3 : Hid (EscAt w3 w2.heap.size 0 .z) := Lib.hid (by rw [hw3]; exact esc_new w2)
  have HB3 : Hid (Below w.heap.size w w3) := Lib.hid (by rw [hw3]; exact HB2.out.alloc HB2.out.size _)
  have hz3 : w3.heap.size = w2.heap.size + 1 := by rw [hw3]; simp
  have hq : w.heap.size ≤ w2.heap.size := HB2.out.size
  unfold parserCs at hw3
  go_upto_region 6 with fail
  rw [← hw3]
  obtain ⟨p, hp⟩ : ∃ p, p = w2.heap.size := ⟨_, rfl⟩
  rw [← hp] at HE3 hz3 hq
  try rw [← hp]
  have HZ3 := Lib.hid hz3
  clear hw3 hp hz3
  have hpl : p < w3.heap.size := by have := HZ3.out; omega
  have hKi0 : (0 : Int) ≤ (Z : Int) := by omega
  have hKi1 : (Z : Int) ≤ (S.size : Int) := by omega
  have hKi2 : (Z : Int) ≤ 6 := by omega
  have hKw : wrap64 (Z : Int) = (Z : Int) := IntWalk.wrap64_in _ (by omega)
  have HF : Hid (∀ (W : World) (A : Option Addr), Below w3.heap.size w3 W → Src W A 3 ([S.extract 0 Z, E, S.extract Z S.size].map Value.string) → blk A ≠ some p → Calls Try.prog 12 #[.pointer (some ⟨p, 0, none⟩), .slice A 3 3] W (FeedTo p 0 W (feedsE .z [S.extract 0 Z, E, S.extract Z S.size]))) := Lib.hid (fun W A hb hs hA => esc_feed p 0 .z A 3 3 [S.extract 0 Z, E, S.extract Z S.size] W (HE3.out.below hb) hs (fun _ => hA) (by omega) (by
    have e1 : (S.extract 0 Z).size ≤ S.size := by rw [ByteArray.size_extract]; omega
    have e2 : (S.extract Z S.size).size ≤ S.size := by rw [ByteArray.size_extract]; omega
    have e3 : E.size = 2 := by rw [HE.out, bytesN_size]; rfl
    simp [sum]; omega) (by decide))
  have HSR : Hid (Src (((w3.alloc (.cells #[.int .u8 c, .int .u8 127] 5)).alloc (.cells #[.string (S.extract 0 Z), .string E, .string (S.extract Z S.size)] 9)).drew) (some ⟨w3.heap.size + 1, 0, none⟩) 3 ([S.extract 0 Z, E, S.extract Z S.size].map Value.string)) := Lib.hid (by
    have := src_new (w3.alloc (.cells #[.int .u8 c, .int .u8 127] 5)) ([S.extract 0 Z, E, S.extract Z S.size].map Value.string) 9 (w3.heap.size + 1) (by simp) 3 rfl
    exact this)
  have HALL : Hid (feedP (pAt 0) ([S.extract 0 Z, E, S.extract Z S.size].flatMap natsOf) = (pAt 0, [eControl C, eCsi 0 [(N : Int)] [] 65])) := Lib.hid (by
    obtain ⟨q1, q2⟩ := natsOf_cut S Z (by omega)
    have q3 := hC31.out
    have hl := natsOf_len S
    have := control_fed N C Z hN9.out q3.1 q3.2.1 q3.2.2.1 q3.2.2.2 hK1 (by rw [← HSn.out, hl]; exact hK2)
    rw [← this]
    simp only [List.flatMap_cons, List.flatMap_nil, List.append_nil]
    rw [q1, q2, HE.out, natsOf_bytesN _ (by intro x hx; simp at hx; omega), HSn.out])
  have HFED : Hid ((feedsE .z [S.extract 0 Z, E, S.extract Z S.size]).2 = [eControl C, eCsi 0 [(N : Int)] [] 65] ∧ (feedsE .z [S.extract 0 Z, E, S.extract Z S.size]).1.ground = true) := Lib.hid (by
    have h2 := feed_alikeE ([S.extract 0 Z, E, S.extract Z S.size].flatMap natsOf) AlikeE.z
    rw [HALL.out] at h2
    rw [feedsE_nats]
    exact ⟨h2.2, (AlikeE.at0 h2.1 rfl rfl).1⟩)
  refine wp_region_noPanic ?_
  refine wp_region_held_drew (S := fun _ => True) (by kernel_rfl) trivial (fun hHeld => ?_)
  refine wpAnyH_take (i := 0) (oi := _) (v := ?va0) rfl (by kernel_rfl) (by kernel_rfl) (by kernel_rfl) (fun _ _ _ h => h) (Or.inl ⟨by rfl, ?hya0⟩) (by assumption) ?resta0
  case hya0 => (intro w hSw; (try dsimp only at hSw); (try simp only [List.getElem_toArray, List.getElem_cons_zero, List.getElem_cons_succ]); go_simp; (try with_reducible rfl))
  (try simp only [Act.put, List.setIfInBounds_toArray, List.set_cons_zero, List.set_cons_succ, List.getElem_toArray, List.getElem_cons_zero, List.getElem_cons_succ])
  refine wpAnyH_take (i := 1) (oi := _) (v := ?va1) rfl (by kernel_rfl) (by kernel_rfl) (by kernel_rfl) (fun _ _ _ h => h) (Or.inl ⟨by rfl, ?hya1⟩) (by assumption) ?resta1
  case hya1 => (intro w hSw; (try dsimp only at hSw); (try simp only [List.getElem_toArray, List.getElem_cons_zero, List.getElem_cons_succ]); go_simp; (try with_reducible rfl))
  (try simp only [Act.put, List.setIfInBounds_toArray, List.set_cons_zero, List.set_cons_succ, List.getElem_toArray, List.getElem_cons_zero, List.getElem_cons_succ])
  refine wpAnyH_take (i := 2) (oi := _) (v := ?va2) rfl (by kernel_rfl) (by kernel_rfl) (by kernel_rfl) (fun _ _ _ h => h) (Or.inl ⟨by rfl, ?hya2⟩) (by assumption) ?resta2
  case hya2 => (intro w hSw; (try dsimp only at hSw); (try simp only [List.getElem_toArray, List.getElem_cons_zero, List.getElem_cons_succ]); go_simp; (try with_reducible rfl))
  (try simp only [Act.put, List.setIfInBounds_toArray, List.set_cons_zero, List.set_cons_succ, List.getElem_toArray, List.getElem_cons_zero, List.getElem_cons_succ])
  refine wpAnyH_take (i := 3) (oi := _) (v := ?va3) rfl (by kernel_rfl) (by kernel_rfl) (by kernel_rfl) (fun _ _ _ h => h) (Or.inl ⟨by rfl, ?hya3⟩) (by assumption) ?resta3
  case hya3 => (intro w hSw; (try dsimp only at hSw); (try simp only [List.getElem_toArray, List.getElem_cons_zero, List.getElem_cons_succ]); go_simp; (try with_reducible rfl))
  (try simp only [Act.put, List.setIfInBounds_toArray, List.set_cons_zero, List.set_cons_succ, List.getElem_toArray, List.getElem_cons_zero, List.getElem_cons_succ])
  refine wpAnyH_take (i := 4) (oi := _) (v := ?va4) rfl (by kernel_rfl) (by kernel_rfl) (by kernel_rfl) (fun _ _ _ h => h) (Or.inl ⟨by rfl, ?hya4⟩) (by assumption) ?resta4
  case hya4 => (intro w hSw; (try dsimp only at hSw); (try simp only [List.getElem_toArray, List.getElem_cons_zero, List.getElem_cons_succ]); go_simp; (try with_reducible rfl))
  (try simp only [Act.put, List.setIfInBounds_toArray, List.set_cons_zero, List.set_cons_succ, List.getElem_toArray, List.getElem_cons_zero, List.getElem_cons_succ])
  refine wpAnyH_take (i := 5) (oi := _) (v := ?va5) rfl (by kernel_rfl) (by kernel_rfl) (by kernel_rfl) (fun _ _ _ h => h) (Or.inl ⟨by rfl, ?hya5⟩) (by assumption) ?resta5
  case hya5 => (intro w hSw; (try dsimp only at hSw); (try simp only [List.getElem_toArray, List.getElem_cons_zero, List.getElem_cons_succ]); go_simp; (try with_reducible rfl))
  (try simp only [Act.put, List.setIfInBounds_toArray, List.set_cons_zero, List.set_cons_succ, List.getElem_toArray, List.getElem_cons_zero, List.getElem_cons_succ])
  refine wpAnyH_take (i := 8) (oi := _) (v := ?va8) rfl (by kernel_rfl) (by kernel_rfl) (by kernel_rfl) (fun _ _ _ h => h) (Or.inl ⟨by rfl, ?hya8⟩) (by assumption) ?resta8
  case hya8 => (intro w hSw; (try dsimp only at hSw); (try simp only [List.getElem_toArray, List.getElem_cons_zero, List.getElem_cons_succ]); go_simp; (try with_reducible rfl))
  (try simp only [Act.put, List.setIfInBounds_toArray, List.set_cons_zero, List.set_cons_succ, List.getElem_toArray, List.getElem_cons_zero, List.getElem_cons_succ])
  refine wpAnyH_take (i := 9) (oi := _) (v := ?va9) rfl (by kernel_rfl) (by kernel_rfl) (by kernel_rfl) (fun _ _ _ h => h) (Or.inl ⟨by rfl, ?hya9⟩) (by assumption) ?resta9
  case hya9 => (intro w hSw; (try dsimp only at hSw); (try simp only [List.getElem_toArray, List.getElem_cons_zero, List.getElem_cons_succ]); go_simp; (try with_reducible rfl))
  (try simp only [Act.put, List.setIfInBounds_toArray, List.set_cons_zero, List.set_cons_succ, List.getElem_toArray, List.getElem_cons_zero, List.getElem_cons_succ])
  refine wpAnyH_take (i := 10) (oi := _) (v := ?va10) rfl (by kernel_rfl) (by kernel_rfl) (by kernel_rfl) (fun _ _ _ h => h) (Or.inl ⟨by rfl, ?hya10⟩) (by assumption) ?resta10
  case hya10 => (intro w hSw; (try dsimp only at hSw); (try simp only [List.getElem_toArray, List.getElem_cons_zero, List.getElem_cons_succ]); go_simp; (try with_reducible rfl))
  (try simp only [Act.put, List.setIfInBounds_toArray, List.set_cons_zero, List.set_cons_succ, List.getElem_toArray, List.getElem_cons_zero, List.getElem_cons_succ])
  refine wpAnyH_ready (rs := [6]) (by kernel_rfl) (by simp) ?_
  refine AllReadyH.cons (o := _) rfl (fun K hK => ?_) AllReadyH.nil
  (try simp only [List.getElem_toArray, List.getElem_cons_zero, List.getElem_cons_succ])
  go_simp
  refine hK.out _ _ ?_ (fun hHeld => ?_)
  · trivial
  clear hK K
  (try simp only [Act.put, List.setIfInBounds_toArray, List.set_cons_zero, List.set_cons_succ, List.getElem_toArray, List.getElem_cons_zero, List.getElem_cons_succ])
  refine wpAnyH_ready (rs := [7]) (by kernel_rfl) (by simp) ?_
  refine AllReadyH.cons (o := _) rfl (fun K hK => ?_) AllReadyH.nil
  (try simp only [List.getElem_toArray, List.getElem_cons_zero, List.getElem_cons_succ])
  go_simp
  refine hK.out _ _ ?_ (fun hHeld => ?_)
  · trivial
  clear hK K
  (try simp only [Act.put, List.setIfInBounds_toArray, List.set_cons_zero, List.set_cons_succ, List.getElem_toArray, List.getElem_cons_zero, List.getElem_cons_succ])
  refine wpAnyH_ready (rs := [11]) (by kernel_rfl) (by simp) ?_
  refine AllReadyH.cons (o := _) rfl (fun K hK => ?_) AllReadyH.nil
  (try simp only [List.getElem_toArray, List.getElem_cons_zero, List.getElem_cons_succ])
  go_simp
  refine hK.out _ _ ?_ (fun hHeld => ?_)
  · trivial
  clear hK K
  (try simp only [Act.put, List.setIfInBounds_toArray, List.set_cons_zero, List.set_cons_succ, List.getElem_toArray, List.getElem_cons_zero, List.getElem_cons_succ])
  refine wpAnyH_ready (rs := [12]) (by kernel_rfl) (by simp) ?_
  refine AllReadyH.cons (o := _) rfl (fun K hK => ?_) AllReadyH.nil
  (try simp only [List.getElem_toArray, List.getElem_cons_zero, List.getElem_cons_succ])
  go_simp
  (refine (HF.out _ _ ((((Below.refl _ w3).alloc (Nat.le_refl _) _).alloc (by simp) _).drew) HSR.out (by simp [blk]; omega)).mono ?_); rintro e w4 ⟨A4, n4, c4, rfl, hn4, ha4, he4, hk4⟩; have HN4 := Lib.hid hn4; have HA4 := Lib.hid ha4; have HE4 := Lib.hid he4; have HK4 := Lib.hid hk4.keep; clear hn4 ha4 he4 hk4
  refine hK.out _ _ ?_ (fun hHeld => ?_)
  · trivial
  clear hK K
  (try simp only [Act.put, List.setIfInBounds_toArray, List.set_cons_zero, List.set_cons_succ, List.getElem_toArray, List.getElem_cons_zero, List.getElem_cons_succ])
  refine wpAnyH_take (i := 13) (oi := _) (v := ?va13) rfl (by kernel_rfl) (by kernel_rfl) (by kernel_rfl) (fun _ _ _ h => h) (Or.inl ⟨by rfl, ?hya13⟩) (by assumption) ?resta13
  case hya13 => (intro w hSw; (try dsimp only at hSw); (try simp only [List.getElem_toArray, List.getElem_cons_zero, List.getElem_cons_succ]); go_simp; (try with_reducible rfl))
  (try simp only [Act.put, List.setIfInBounds_toArray, List.set_cons_zero, List.set_cons_succ, List.getElem_toArray, List.getElem_cons_zero, List.getElem_cons_succ])
  refine wpAnyH_done (by kernel_rfl) ?_ _
  refine NoPanic.normal ?_
  have ha4 := HA4.out
  have hn4 := HN4.out
  rw [HFED.out.1] at ha4 hn4
  obtain ⟨g, rfl, hg, hcs⟩ := ha4.cells (by rw [hn4]; simp)
  replace hn4 : n4 = 2 := hn4
  subst hn4
  obtain ⟨s0, -, c0⟩ := hcs 0 _ rfl
  obtain ⟨⟨A1, d1⟩, hn1, c1⟩ := hcs 1 _ rfl
  have d00 : w4.cell? ⟨g, 0, none⟩ = some (.int .i64 2) := c0 0 _ rfl
  have d02 : w4.cell? ⟨g, 2, none⟩ = some (.int .i64 c) := by rw [HC.out]; exact c0 2 _ rfl
  have d10 : w4.cell? ⟨g, 7, none⟩ = some (.int .i64 4) := c1 0 _ rfl
  have d12 : w4.cell? ⟨g, 9, none⟩ = some (.int .i64 65) := c1 2 _ rfl
  have d14 : w4.cell? ⟨g, 11, none⟩ = some (.slice A1 1 d1) := c1 4 _ rfl
  have HNR : Hid (Src w4 A1 1 ([n].map (Value.int .i64))) := Lib.hid (by rw [HN.out]; exact own_src1 hn1 rfl)
  have HB4 : Hid (Below w.heap.size w w4) := Lib.hid (by
    have hs3 := HB3.out.size
    have X := ((((Below.refl _ w3).alloc (Nat.le_refl _) (.cells #[.int .u8 c, .int .u8 127] 5)).alloc (by simp) (.cells #[.string (S.extract 0 Z), .string E, .string (S.extract Z S.size)] 9)).drew)
    exact HB3.out.trans ((X.mono hs3).trans (HK4.out.below (Nat.le_trans hs3 X.size) (fun k hk e => by omega))))
  clear ha4 hcs c0 c1 hn1 hcv hg HA4 HN4 HK4
  go_wp2_with fail
  refine (sameI_Ints A1 (some ⟨w4.heap.size, 0, none⟩) 1 d1 1 [n] _ (HNR.out.below ((Below.refl _ w4).alloc (Nat.le_refl _) _)) (src_new w4 [.int .i64 n] 3 _ rfl 1 rfl) (by omega)).mono ?_
  rintro e w5 ⟨rfl, k5, rfl⟩
  go_wp2_with fail
  refine (esc_ground p 0 _ _ (HE4.out.keep (((Keep.refl (fun _ => False) w4).alloc _).drewN k5) (fun x => x) (fun i x => x.elim))).mono ?_
  rintro e w6 ⟨rfl, rfl⟩
  rw [HFED.out.2]
  go_wp2_with fail
  go_ret
  have q := HB4.out.alloc HB4.out.size (.cells #[.int .i64 n] 3)
  exact ⟨rfl, q.os, q.tape, q.output, q.size, q.block⟩

set_option maxRecDepth 100000 in
theorem walk_EscControls (n : Int) (wn : (Lit.int .i64 n).wf = true) (c : Int) (wc : (Lit.int .i64 c).wf = true) (a : Int) (wa : (Lit.int .i64 a).wf = true) (w : World) :
    Calls Try.prog 7 #[.int .i64 n, .int .i64 c, .int .i64 a] w fun e w' => e = .returned (.bool true) ∧ Below w.heap.size w w' := by
  by_cases h1 : n < 0
  · exact escControls_early n c a w (.inl h1)
  by_cases h2 : n > 9999
  · exact escControls_early n c a w (.inr (.inl ⟨h1, h2⟩))
  by_cases h3 : c < 0
  · exact escControls_early n c a w (.inr (.inr (.inl ⟨h1, h2, h3⟩)))
  by_cases h4 : c > 31
  · exact escControls_early n c a w (.inr (.inr (.inr (.inl ⟨h1, h2, h3, h4⟩))))
  by_cases h5 : c = 24
  · exact escControls_early n c a w (.inr (.inr (.inr (.inr (.inl ⟨h1, h2, h5⟩)))))
  by_cases h6 : c = 26
  · exact escControls_early n c a w (.inr (.inr (.inr (.inr (.inr (.inl ⟨h1, h2, h6⟩))))))
  by_cases h7 : c = 27
  · exact escControls_early n c a w (.inr (.inr (.inr (.inr (.inr (.inr (.inl ⟨h1, h2, h7⟩)))))))
  have h5' : (c == 24) = false := by simpa using h5
  have h6' : (c == 26) = false := by simpa using h6
  have h7' : (c == 27) = false := by simpa using h7
  by_cases h8 : a < 0
  · exact escControls_early n c a w (.inr (.inr (.inr (.inr (.inr (.inr (.inr ⟨h1, h2, h3, h4, h5', h6', h7', h8⟩)))))))
  exact escControls_main n c a w h1 h2 h3 h4 h5' h6' h7' h8

end Go.Proofs.Ythphnjilbpidgaa
