/- Law EscInters: the walk. By program (rgn/XEscIntersWalk.py). Own work. -/
import Derived.Test.YthphnjilbpidgaaEscW
import Derived.IntWalk
namespace Go.Proofs.Ythphnjilbpidgaa
set_option linter.unusedVariables false
set_option linter.unusedSimpArgs false
open Go.RowKit

theorem repN_add (k b : Nat) : bytesN (List.replicate k b) ++ bytesN [b] = bytesN (List.replicate (k + 1) b) := by rw [← bytesN_add, List.replicate_succ']

/-- What the rests are. -/
theorem rem_nat (c : Int) (k : Nat) (hk : 0 < k) : ∃ tm : Int, c.tmod (k : Int) = tm ∧ -(k : Int) < tm ∧ tm < (k : Int) ∧ ∃ m : Nat, (tm + (k : Int)) % (k : Int) = (m : Int) ∧ m < k := by
  refine ⟨_, rfl, ?_, Int.tmod_lt_of_pos c (by omega), ((c.tmod (k : Int) + (k : Int)) % (k : Int)).toNat, ?_, ?_⟩
  · have h1 := Int.natAbs_tmod c (k : Int)
    have h2 := Nat.mod_lt c.natAbs (show 0 < (k : Int).natAbs by omega)
    rw [← h1] at h2
    omega
  · have := Int.emod_nonneg (c.tmod (k : Int) + (k : Int)) (show (k : Int) ≠ 0 by omega)
    omega
  · have := Int.emod_lt_of_pos (c.tmod (k : Int) + (k : Int)) (show 0 < (k : Int) by omega)
    have := Int.emod_nonneg (c.tmod (k : Int) + (k : Int)) (show (k : Int) ≠ 0 by omega)
    omega

set_option maxRecDepth 100000 in
set_option maxHeartbeats 1600000 in
theorem escInters_early (n c f : Int) (csi : Bool) (w : World) (h : n < 0 ∨ (¬ n < 0 ∧ n > 8)) :
    Calls Try.prog 9 #[.int .i64 n, .int .i64 c, .int .i64 f, .bool csi] w fun e w' => e = .returned (.bool true) ∧ Below w.heap.size w w' := by
  rcases h with h | ⟨h1, h⟩
  all_goals
    go_enter Try.func9, Try.ntmps9
    go_wp2_with fail
    refine (alive_any _).mono ?_
    rintro e w1 ⟨rfl, hb⟩
    have HB := Lib.hid hb
    clear hb
    go_wp2_with fail
    go_ret
    exact ⟨rfl, HB.out⟩

set_option maxRecDepth 100000 in
set_option maxHeartbeats 3200000 in
theorem escInters_csi (n c f : Int) (w : World) (h1 : ¬ n < 0) (h2 : ¬ n > 8) (t1 t2 : Int) (B F m1 m2 : Nat) (e1 : c.tmod 16 = t1) (l1 : -16 < t1) (l2 : t1 < 16) (e2 : (t1 + 16) % 16 = (m1 : Int)) (hB : B = 32 + m1) (hm1 : m1 < 16)
    (e3 : f.tmod 63 = t2) (l3 : -63 < t2) (l4 : t2 < 63) (e4 : (t2 + 63) % 63 = (m2 : Int)) (hF : F = 64 + m2) (hm2 : m2 < 63) :
    Calls Try.prog 9 #[.int .i64 n, .int .i64 c, .int .i64 f, .bool true] w fun e w' => e = .returned (.bool true) ∧ Below w.heap.size w w' := by
  obtain ⟨N, hN⟩ : ∃ N : Nat, n = (N : Int) := ⟨n.toNat, by omega⟩
  have e5 : (32 : Int) + (m1 : Int) = (B : Int) := by omega
  have e6 : (64 : Int) + (m2 : Int) = (F : Int) := by omega
  have e7 : IntKind.u8.wrap (B : Int) = (B : Int) := by rw [u8_of (by omega), toNat_ofNat (by omega)]
  have e8 : IntKind.u8.wrap (F : Int) = (F : Int) := by rw [u8_of (by omega), toNat_ofNat (by omega)]
  have hB1 : Hid (32 ≤ B ∧ B ≤ 47) := Lib.hid (by omega)
  have hF1 : Hid (64 ≤ F ∧ F ≤ 126) := Lib.hid (by omega)
  have HN := Lib.hid hN
  have hN8 : Hid (N ≤ 8) := Lib.hid (by omega)
  clear hB hF hm1 hm2 hN
  go_enter Try.func9, Try.ntmps9
  go_wp2_with fail
  refine (alive_any _).mono ?_
  rintro e w1 ⟨rfl, hb⟩
  have HB1 := Lib.hid hb
  clear hb
  go_wp2_with fail
  go_loopw [13, 14] (fun s i wr => ∃ k : Nat, i = .int .i64 k ∧ k ≤ N ∧ s = .string (bytesN (List.replicate k B)) ∧ Hid (Below w.heap.size w wr)) (fun _ i _ => N - (intOf i).toNat)
  case atStart => exact ⟨0, rfl, Nat.zero_le _, rfl, HB1⟩
  case round =>
    obtain ⟨k, rfl, hk, rfl, HB⟩ := hrel
    by_cases hlt : k < N
    · have hlt' : (k : Int) < n := by rw [HN.out]; omega
      have hcv := bytes_str (W := wr.alloc (.cells #[.int .u8 (B : Int)] 5)) (P := Try.prog) 48 9 5 [B] #[.int .u8 (B : Int)] wr.heap.size 1 (heap_alloc_new wr _) rfl (by intro c hc; simp at hc; have := hB1.out; omega) rfl (by unfold maxLen; omega) Try.underlying48 Try.underlying5 Try.underlying9
      have hsz : (bytesN (List.replicate k B)).size + (bytesN [B]).size ≤ 9223372036854775807 := by rw [bytesN_size, bytesN_size]; have := hN8.out; simp; omega
      have hkb : (k : Int) ≤ 8 := by have := hN8.out; omega
      go_wp2_with fail
      go_roundw
      case rel => exact ⟨k + 1, by go_num, by omega, by rw [repN_add], Lib.hid (HB.out.alloc HB.out.size _)⟩
      case measure => simp [intOf]; omega
    · have hkN : k = N := by omega
      have hge : ¬ (k : Int) < n := by rw [HN.out]; omega
      subst hkN
      obtain ⟨T, hT⟩ : ∃ T, T = bytesN (List.replicate k B) := ⟨_, rfl⟩
      have HT := Lib.hid hT
      rw [← hT]
      clear hT hlt hk
      obtain ⟨w3, hw3⟩ : ∃ w3, w3 = wr.alloc (.cells parserCs 37) := ⟨_, rfl⟩
      have HE3 : Hid (EscAt w3 wr.heap.size 0 .z) := Lib.hid (by rw [hw3]; exact esc_new wr)
      have HB3 : Hid (Below w.heap.size w w3) := Lib.hid (by rw [hw3]; exact HB.out.alloc HB.out.size _)
      have hz3 : w3.heap.size = wr.heap.size + 1 := by rw [hw3]; simp
      have hq : w.heap.size ≤ wr.heap.size := HB.out.size
      unfold parserCs at hw3
      go_upto_region 17 with fail
      rw [← hw3]
      obtain ⟨p, hp⟩ : ∃ p, p = wr.heap.size := ⟨_, rfl⟩
      rw [← hp] at HE3 hz3 hq
      try rw [← hp]
      have HZ3 := Lib.hid hz3
      clear hw3 hp hz3 HB
      have hpl : p < w3.heap.size := by have := HZ3.out; omega
      have hcv := bytes_str (W := w3.alloc (.cells #[.int .u8 (F : Int)] 5)) (P := Try.prog) 48 9 5 [F] #[.int .u8 (F : Int)] w3.heap.size 1 (heap_alloc_new w3 _) rfl (by intro c hc; simp at hc; have := hF1.out; omega) rfl (by unfold maxLen; omega) Try.underlying48 Try.underlying5 Try.underlying9
      obtain ⟨G, hG⟩ : ∃ G, G = bytesN [F] := ⟨_, rfl⟩
      have HG := Lib.hid hG
      rw [← hG] at hcv
      clear hG
      have HALL : Hid (feedP (pAt 0) ([⟨#[27, 91]⟩, T, G, (⟨#[107]⟩ : ByteArray)].flatMap natsOf) = (pAt 0, (if 2 < k then [] else [interAct true (List.replicate k B) F]) ++ [ePrint 107])) := Lib.hid (by
        have hb1 := hB1.out
        have hf1 := hF1.out
        have := inter_fed true B F k hb1.1 hb1.2 hf1.1 hf1.2 (fun e => by cases e)
        rw [← this]
        simp only [List.flatMap_cons, List.flatMap_nil, List.append_nil]
        rw [HT.out, HG.out, natsOf_bytesN _ (by intro x hx; rw [List.mem_replicate] at hx; omega), natsOf_bytesN _ (by intro x hx; simp at hx; omega)]
        rfl)
      have HFED : Hid ((feedsE .z [⟨#[27, 91]⟩, T, G, (⟨#[107]⟩ : ByteArray)]).2 = (if 2 < k then [] else [interAct true (List.replicate k B) F]) ++ [ePrint 107] ∧ (feedsE .z [⟨#[27, 91]⟩, T, G, (⟨#[107]⟩ : ByteArray)]).1.ground = true) := Lib.hid (by
        have h2 := feed_alikeE ([⟨#[27, 91]⟩, T, G, (⟨#[107]⟩ : ByteArray)].flatMap natsOf) AlikeE.z
        rw [HALL.out] at h2
        rw [feedsE_nats]
        exact ⟨h2.2, (AlikeE.at0 h2.1 rfl rfl).1⟩)
      have hTs : T.size ≤ 8 := by rw [HT.out, bytesN_size]; have := hN8.out; simp; omega
      have hGs : G.size = 1 := by rw [HG.out, bytesN_size]; rfl
      have HTS := Lib.hid hTs
      have HGS := Lib.hid hGs
      clear hTs hGs
      go_wp2_with fail
      have hsr : Src ((w3.alloc (.cells #[.int .u8 (F : Int)] 5)).alloc (.cells #[.string ⟨#[27, 91]⟩, .string T, .string G, .string ⟨#[107]⟩] 9)) (some ⟨w3.heap.size + 1, 0, none⟩) 4 ([⟨#[27, 91]⟩, T, G, (⟨#[107]⟩ : ByteArray)].map Value.string) := src_new (w3.alloc (.cells #[.int .u8 (F : Int)] 5)) ([⟨#[27, 91]⟩, T, G, (⟨#[107]⟩ : ByteArray)].map Value.string) 9 (w3.heap.size + 1) (by simp) 4 rfl
      have X : Below w3.heap.size w3 ((w3.alloc (.cells #[.int .u8 (F : Int)] 5)).alloc (.cells #[.string ⟨#[27, 91]⟩, .string T, .string G, .string ⟨#[107]⟩] 9)) := ((Below.refl _ w3).alloc (Nat.le_refl _) _).alloc (by simp) _
      refine (esc_feed p 0 .z _ 4 4 [⟨#[27, 91]⟩, T, G, ⟨#[107]⟩] _ (HE3.out.below X) hsr (fun _ => by simp [blk]; omega) (by omega) (by have a := HTS.out; have b := HGS.out; have c1 : (⟨#[27]⟩ : ByteArray).size = 1 := rfl; have c2 : (⟨#[27, 91]⟩ : ByteArray).size = 2 := rfl; have c3 : (⟨#[107]⟩ : ByteArray).size = 1 := rfl; simp only [sum, List.map_cons, List.map_nil, List.foldr_cons, List.foldr_nil]; omega) (by decide)).mono ?_
      rintro e w4 ⟨A4, n4, c4, rfl, hn4, ha4, he4, hk4⟩
      have HE4 := Lib.hid he4
      have HB4 : Hid (Below w.heap.size w w4) := Lib.hid (by
        have hs3 := HB3.out.size
        exact HB3.out.trans ((X.mono hs3).trans (hk4.keep.below (Nat.le_trans hs3 X.size) (fun k hk e => by omega))))
      rw [HFED.out.1] at ha4 hn4
      by_cases h2k : 2 < k
      · rw [if_pos h2k] at ha4 hn4
        obtain ⟨g, rfl, hg, hcs⟩ := ha4.cells (by rw [hn4]; simp)
        replace hn4 : n4 = 1 := hn4
        subst hn4
        obtain ⟨s0, -, c0⟩ := hcs 0 _ rfl
        have d00 : w4.cell? ⟨g, 0, none⟩ = some (.int .i64 1) := c0 0 _ rfl
        have d01 : w4.cell? ⟨g, 1, none⟩ = some (.int .i32 107) := c0 1 _ rfl
        have hn2 : n > 2 := by rw [HN.out]; omega
        clear ha4 hcs c0 hcv hg he4 hk4 X hsr
        go_wp2_with fail
        go_ret
        exact ⟨rfl, HB4.out⟩
      · rw [if_neg h2k] at ha4 hn4
        obtain ⟨g, rfl, hg, hcs⟩ := ha4.cells (by rw [hn4]; simp)
        replace hn4 : n4 = 2 := hn4
        subst hn4
        obtain ⟨⟨A1, d1⟩, hn1, c0⟩ := hcs 0 _ rfl
        obtain ⟨s1, -, c1⟩ := hcs 1 _ rfl
        have d00 : w4.cell? ⟨g, 0, none⟩ = some (.int .i64 4) := c0 0 _ rfl
        have d02 : w4.cell? ⟨g, 2, none⟩ = some (.int .i64 (F : Int)) := c0 2 _ rfl
        have d04 : w4.cell? ⟨g, 4, none⟩ = some (.slice A1 0 d1) := c0 4 _ rfl
        have d05 : w4.cell? ⟨g, 5, none⟩ = some (.string T) := by rw [HT.out]; exact c0 5 _ rfl
        have d11 : w4.cell? ⟨g, 8, none⟩ = some (.int .i32 107) := c1 1 _ rfl
        have hn2 : ¬ n > 2 := by rw [HN.out]; omega
        clear ha4 hcs c0 c1 hcv hg he4 hk4 X hsr hn1
        go_wp2_with fail
        refine (esc_ground p 0 _ _ HE4.out).mono ?_
        rintro e w6 ⟨rfl, rfl⟩
        rw [HFED.out.2]
        go_wp2_with fail
        go_ret
        exact ⟨rfl, HB4.out⟩

set_option maxRecDepth 100000 in
set_option maxHeartbeats 3200000 in
theorem escInters_some (n c f : Int) (w : World) (h1 : ¬ n < 0) (h2 : ¬ n > 8) (t1 t2 : Int) (B F m1 m2 : Nat) (e1 : c.tmod 16 = t1) (l1 : -16 < t1) (l2 : t1 < 16) (e2 : (t1 + 16) % 16 = (m1 : Int)) (hB : B = 32 + m1) (hm1 : m1 < 16)
    (e3 : f.tmod 63 = t2) (l3 : -63 < t2) (l4 : t2 < 63) (e4 : (t2 + 63) % 63 = (m2 : Int)) (hF : F = 64 + m2) (hm2 : m2 < 63) (hn0 : n ≠ 0) :
    Calls Try.prog 9 #[.int .i64 n, .int .i64 c, .int .i64 f, .bool false] w fun e w' => e = .returned (.bool true) ∧ Below w.heap.size w w' := by
  obtain ⟨N, hN⟩ : ∃ N : Nat, n = (N : Int) := ⟨n.toNat, by omega⟩
  have e5 : (32 : Int) + (m1 : Int) = (B : Int) := by omega
  have e6 : (64 : Int) + (m2 : Int) = (F : Int) := by omega
  have e7 : IntKind.u8.wrap (B : Int) = (B : Int) := by rw [u8_of (by omega), toNat_ofNat (by omega)]
  have e8 : IntKind.u8.wrap (F : Int) = (F : Int) := by rw [u8_of (by omega), toNat_ofNat (by omega)]
  have hB1 : Hid (32 ≤ B ∧ B ≤ 47) := Lib.hid (by omega)
  have hF1 : Hid (64 ≤ F ∧ F ≤ 126) := Lib.hid (by omega)
  have HN := Lib.hid hN
  have hN8 : Hid (N ≤ 8) := Lib.hid (by omega)
  clear hB hF hm1 hm2 hN
  have tn : (n == 0) = false := by simpa using hn0
  have HN0 : Hid (N ≠ 0) := Lib.hid (fun e => hn0 (by rw [HN.out, e]; rfl))
  clear hn0
  go_enter Try.func9, Try.ntmps9
  go_wp2_with fail
  refine (alive_any _).mono ?_
  rintro e w1 ⟨rfl, hb⟩
  have HB1 := Lib.hid hb
  clear hb
  go_wp2_with fail
  go_loopw [13, 14] (fun s i wr => ∃ k : Nat, i = .int .i64 k ∧ k ≤ N ∧ s = .string (bytesN (List.replicate k B)) ∧ Hid (Below w.heap.size w wr)) (fun _ i _ => N - (intOf i).toNat)
  case atStart => exact ⟨0, rfl, Nat.zero_le _, rfl, HB1⟩
  case round =>
    obtain ⟨k, rfl, hk, rfl, HB⟩ := hrel
    by_cases hlt : k < N
    · have hlt' : (k : Int) < n := by rw [HN.out]; omega
      have hcv := bytes_str (W := wr.alloc (.cells #[.int .u8 (B : Int)] 5)) (P := Try.prog) 48 9 5 [B] #[.int .u8 (B : Int)] wr.heap.size 1 (heap_alloc_new wr _) rfl (by intro c hc; simp at hc; have := hB1.out; omega) rfl (by unfold maxLen; omega) Try.underlying48 Try.underlying5 Try.underlying9
      have hsz : (bytesN (List.replicate k B)).size + (bytesN [B]).size ≤ 9223372036854775807 := by rw [bytesN_size, bytesN_size]; have := hN8.out; simp; omega
      have hkb : (k : Int) ≤ 8 := by have := hN8.out; omega
      go_wp2_with fail
      go_roundw
      case rel => exact ⟨k + 1, by go_num, by omega, by rw [repN_add], Lib.hid (HB.out.alloc HB.out.size _)⟩
      case measure => simp [intOf]; omega
    · have hkN : k = N := by omega
      have hge : ¬ (k : Int) < n := by rw [HN.out]; omega
      subst hkN
      obtain ⟨T, hT⟩ : ∃ T, T = bytesN (List.replicate k B) := ⟨_, rfl⟩
      have HT := Lib.hid hT
      rw [← hT]
      clear hT hlt hk
      obtain ⟨w3, hw3⟩ : ∃ w3, w3 = wr.alloc (.cells parserCs 37) := ⟨_, rfl⟩
      have HE3 : Hid (EscAt w3 wr.heap.size 0 .z) := Lib.hid (by rw [hw3]; exact esc_new wr)
      have HB3 : Hid (Below w.heap.size w w3) := Lib.hid (by rw [hw3]; exact HB.out.alloc HB.out.size _)
      have hz3 : w3.heap.size = wr.heap.size + 1 := by rw [hw3]; simp
      have hq : w.heap.size ≤ wr.heap.size := HB.out.size
      unfold parserCs at hw3
      go_upto_region 17 with fail
      rw [← hw3]
      obtain ⟨p, hp⟩ : ∃ p, p = wr.heap.size := ⟨_, rfl⟩
      rw [← hp] at HE3 hz3 hq
      try rw [← hp]
      have HZ3 := Lib.hid hz3
      clear hw3 hp hz3 HB
      have hpl : p < w3.heap.size := by have := HZ3.out; omega
      have hcv := bytes_str (W := w3.alloc (.cells #[.int .u8 (F : Int)] 5)) (P := Try.prog) 48 9 5 [F] #[.int .u8 (F : Int)] w3.heap.size 1 (heap_alloc_new w3 _) rfl (by intro c hc; simp at hc; have := hF1.out; omega) rfl (by unfold maxLen; omega) Try.underlying48 Try.underlying5 Try.underlying9
      obtain ⟨G, hG⟩ : ∃ G, G = bytesN [F] := ⟨_, rfl⟩
      have HG := Lib.hid hG
      rw [← hG] at hcv
      clear hG
      have HALL : Hid (feedP (pAt 0) ([⟨#[27]⟩, T, G, (⟨#[107]⟩ : ByteArray)].flatMap natsOf) = (pAt 0, (if 2 < k then [] else [interAct false (List.replicate k B) F]) ++ [ePrint 107])) := Lib.hid (by
        have hb1 := hB1.out
        have hf1 := hF1.out
        have := inter_fed false B F k hb1.1 hb1.2 hf1.1 hf1.2 (fun _ e => absurd e HN0.out)
        rw [← this]
        simp only [List.flatMap_cons, List.flatMap_nil, List.append_nil]
        rw [HT.out, HG.out, natsOf_bytesN _ (by intro x hx; rw [List.mem_replicate] at hx; omega), natsOf_bytesN _ (by intro x hx; simp at hx; omega)]
        rfl)
      have HFED : Hid ((feedsE .z [⟨#[27]⟩, T, G, (⟨#[107]⟩ : ByteArray)]).2 = (if 2 < k then [] else [interAct false (List.replicate k B) F]) ++ [ePrint 107] ∧ (feedsE .z [⟨#[27]⟩, T, G, (⟨#[107]⟩ : ByteArray)]).1.ground = true) := Lib.hid (by
        have h2 := feed_alikeE ([⟨#[27]⟩, T, G, (⟨#[107]⟩ : ByteArray)].flatMap natsOf) AlikeE.z
        rw [HALL.out] at h2
        rw [feedsE_nats]
        exact ⟨h2.2, (AlikeE.at0 h2.1 rfl rfl).1⟩)
      have hTs : T.size ≤ 8 := by rw [HT.out, bytesN_size]; have := hN8.out; simp; omega
      have hGs : G.size = 1 := by rw [HG.out, bytesN_size]; rfl
      have HTS := Lib.hid hTs
      have HGS := Lib.hid hGs
      clear hTs hGs
      go_wp2_with fail
      have hsr : Src ((w3.alloc (.cells #[.int .u8 (F : Int)] 5)).alloc (.cells #[.string ⟨#[27]⟩, .string T, .string G, .string ⟨#[107]⟩] 9)) (some ⟨w3.heap.size + 1, 0, none⟩) 4 ([⟨#[27]⟩, T, G, (⟨#[107]⟩ : ByteArray)].map Value.string) := src_new (w3.alloc (.cells #[.int .u8 (F : Int)] 5)) ([⟨#[27]⟩, T, G, (⟨#[107]⟩ : ByteArray)].map Value.string) 9 (w3.heap.size + 1) (by simp) 4 rfl
      have X : Below w3.heap.size w3 ((w3.alloc (.cells #[.int .u8 (F : Int)] 5)).alloc (.cells #[.string ⟨#[27]⟩, .string T, .string G, .string ⟨#[107]⟩] 9)) := ((Below.refl _ w3).alloc (Nat.le_refl _) _).alloc (by simp) _
      refine (esc_feed p 0 .z _ 4 4 [⟨#[27]⟩, T, G, ⟨#[107]⟩] _ (HE3.out.below X) hsr (fun _ => by simp [blk]; omega) (by omega) (by have a := HTS.out; have b := HGS.out; have c1 : (⟨#[27]⟩ : ByteArray).size = 1 := rfl; have c2 : (⟨#[27, 91]⟩ : ByteArray).size = 2 := rfl; have c3 : (⟨#[107]⟩ : ByteArray).size = 1 := rfl; simp only [sum, List.map_cons, List.map_nil, List.foldr_cons, List.foldr_nil]; omega) (by decide)).mono ?_
      rintro e w4 ⟨A4, n4, c4, rfl, hn4, ha4, he4, hk4⟩
      have HE4 := Lib.hid he4
      have HB4 : Hid (Below w.heap.size w w4) := Lib.hid (by
        have hs3 := HB3.out.size
        exact HB3.out.trans ((X.mono hs3).trans (hk4.keep.below (Nat.le_trans hs3 X.size) (fun k hk e => by omega))))
      rw [HFED.out.1] at ha4 hn4
      by_cases h2k : 2 < k
      · rw [if_pos h2k] at ha4 hn4
        obtain ⟨g, rfl, hg, hcs⟩ := ha4.cells (by rw [hn4]; simp)
        replace hn4 : n4 = 1 := hn4
        subst hn4
        obtain ⟨s0, -, c0⟩ := hcs 0 _ rfl
        have d00 : w4.cell? ⟨g, 0, none⟩ = some (.int .i64 1) := c0 0 _ rfl
        have d01 : w4.cell? ⟨g, 1, none⟩ = some (.int .i32 107) := c0 1 _ rfl
        have hn2 : n > 2 := by rw [HN.out]; omega
        clear ha4 hcs c0 hcv hg he4 hk4 X hsr
        go_wp2_with fail
        go_ret
        exact ⟨rfl, HB4.out⟩
      · rw [if_neg h2k] at ha4 hn4
        obtain ⟨g, rfl, hg, hcs⟩ := ha4.cells (by rw [hn4]; simp)
        replace hn4 : n4 = 2 := hn4
        subst hn4
        obtain ⟨⟨A1, d1⟩, hn1, c0⟩ := hcs 0 _ rfl
        obtain ⟨s1, -, c1⟩ := hcs 1 _ rfl
        have d00 : w4.cell? ⟨g, 0, none⟩ = some (.int .i64 3) := c0 0 _ rfl
        have d02 : w4.cell? ⟨g, 2, none⟩ = some (.int .i64 (F : Int)) := c0 2 _ rfl
        have d04 : w4.cell? ⟨g, 4, none⟩ = some (.slice A1 0 d1) := c0 4 _ rfl
        have d05 : w4.cell? ⟨g, 5, none⟩ = some (.string T) := by rw [HT.out]; exact c0 5 _ rfl
        have d11 : w4.cell? ⟨g, 8, none⟩ = some (.int .i32 107) := c1 1 _ rfl
        have hn2 : ¬ n > 2 := by rw [HN.out]; omega
        clear ha4 hcs c0 c1 hcv hg he4 hk4 X hsr hn1
        go_wp2_with fail
        refine (esc_ground p 0 _ _ HE4.out).mono ?_
        rintro e w6 ⟨rfl, rfl⟩
        rw [HFED.out.2]
        go_wp2_with fail
        go_ret
        exact ⟨rfl, HB4.out⟩

set_option maxRecDepth 100000 in
set_option maxHeartbeats 3200000 in
theorem escInters_none (n c f : Int) (w : World) (h1 : ¬ n < 0) (h2 : ¬ n > 8) (t1 t2 : Int) (B F m1 m2 : Nat) (e1 : c.tmod 16 = t1) (l1 : -16 < t1) (l2 : t1 < 16) (e2 : (t1 + 16) % 16 = (m1 : Int)) (hB : B = 32 + m1) (hm1 : m1 < 16)
    (e3 : f.tmod 63 = t2) (l3 : -63 < t2) (l4 : t2 < 63) (e4 : (t2 + 63) % 63 = (m2 : Int)) (hF : F = 64 + m2) (hm2 : m2 < 63) (hn0 : (n == 0) = true) (hf3 : F ≠ 91 ∧ F ≠ 93 ∧ F ≠ 80) :
    Calls Try.prog 9 #[.int .i64 n, .int .i64 c, .int .i64 f, .bool false] w fun e w' => e = .returned (.bool true) ∧ Below w.heap.size w w' := by
  obtain ⟨N, hN⟩ : ∃ N : Nat, n = (N : Int) := ⟨n.toNat, by omega⟩
  have e5 : (32 : Int) + (m1 : Int) = (B : Int) := by omega
  have e6 : (64 : Int) + (m2 : Int) = (F : Int) := by omega
  have e7 : IntKind.u8.wrap (B : Int) = (B : Int) := by rw [u8_of (by omega), toNat_ofNat (by omega)]
  have e8 : IntKind.u8.wrap (F : Int) = (F : Int) := by rw [u8_of (by omega), toNat_ofNat (by omega)]
  have hB1 : Hid (32 ≤ B ∧ B ≤ 47) := Lib.hid (by omega)
  have hF1 : Hid (64 ≤ F ∧ F ≤ 126) := Lib.hid (by omega)
  have HN := Lib.hid hN
  have hN8 : Hid (N ≤ 8) := Lib.hid (by omega)
  clear hB hF hm1 hm2 hN
  have HF3 := Lib.hid hf3
  have f1 : ((F : Int) == 91) = false := by simp; omega
  have f2 : ((F : Int) == 93) = false := by simp; omega
  have f3 : ((F : Int) == 80) = false := by simp; omega
  clear hf3
  go_enter Try.func9, Try.ntmps9
  go_wp2_with fail
  refine (alive_any _).mono ?_
  rintro e w1 ⟨rfl, hb⟩
  have HB1 := Lib.hid hb
  clear hb
  go_wp2_with fail
  go_loopw [13, 14] (fun s i wr => ∃ k : Nat, i = .int .i64 k ∧ k ≤ N ∧ s = .string (bytesN (List.replicate k B)) ∧ Hid (Below w.heap.size w wr)) (fun _ i _ => N - (intOf i).toNat)
  case atStart => exact ⟨0, rfl, Nat.zero_le _, rfl, HB1⟩
  case round =>
    obtain ⟨k, rfl, hk, rfl, HB⟩ := hrel
    by_cases hlt : k < N
    · have hlt' : (k : Int) < n := by rw [HN.out]; omega
      have hcv := bytes_str (W := wr.alloc (.cells #[.int .u8 (B : Int)] 5)) (P := Try.prog) 48 9 5 [B] #[.int .u8 (B : Int)] wr.heap.size 1 (heap_alloc_new wr _) rfl (by intro c hc; simp at hc; have := hB1.out; omega) rfl (by unfold maxLen; omega) Try.underlying48 Try.underlying5 Try.underlying9
      have hsz : (bytesN (List.replicate k B)).size + (bytesN [B]).size ≤ 9223372036854775807 := by rw [bytesN_size, bytesN_size]; have := hN8.out; simp; omega
      have hkb : (k : Int) ≤ 8 := by have := hN8.out; omega
      go_wp2_with fail
      go_roundw
      case rel => exact ⟨k + 1, by go_num, by omega, by rw [repN_add], Lib.hid (HB.out.alloc HB.out.size _)⟩
      case measure => simp [intOf]; omega
    · have hkN : k = N := by omega
      have hge : ¬ (k : Int) < n := by rw [HN.out]; omega
      subst hkN
      obtain ⟨T, hT⟩ : ∃ T, T = bytesN (List.replicate k B) := ⟨_, rfl⟩
      have HT := Lib.hid hT
      rw [← hT]
      clear hT hlt hk
      obtain ⟨w3, hw3⟩ : ∃ w3, w3 = wr.alloc (.cells parserCs 37) := ⟨_, rfl⟩
      have HE3 : Hid (EscAt w3 wr.heap.size 0 .z) := Lib.hid (by rw [hw3]; exact esc_new wr)
      have HB3 : Hid (Below w.heap.size w w3) := Lib.hid (by rw [hw3]; exact HB.out.alloc HB.out.size _)
      have hz3 : w3.heap.size = wr.heap.size + 1 := by rw [hw3]; simp
      have hq : w.heap.size ≤ wr.heap.size := HB.out.size
      unfold parserCs at hw3
      go_upto_region 17 with fail
      rw [← hw3]
      obtain ⟨p, hp⟩ : ∃ p, p = wr.heap.size := ⟨_, rfl⟩
      rw [← hp] at HE3 hz3 hq
      try rw [← hp]
      have HZ3 := Lib.hid hz3
      clear hw3 hp hz3 HB
      have hpl : p < w3.heap.size := by have := HZ3.out; omega
      have hcv := bytes_str (W := w3.alloc (.cells #[.int .u8 (F : Int)] 5)) (P := Try.prog) 48 9 5 [F] #[.int .u8 (F : Int)] w3.heap.size 1 (heap_alloc_new w3 _) rfl (by intro c hc; simp at hc; have := hF1.out; omega) rfl (by unfold maxLen; omega) Try.underlying48 Try.underlying5 Try.underlying9
      obtain ⟨G, hG⟩ : ∃ G, G = bytesN [F] := ⟨_, rfl⟩
      have HG := Lib.hid hG
      rw [← hG] at hcv
      clear hG
      have HALL : Hid (feedP (pAt 0) ([⟨#[27]⟩, T, G, (⟨#[107]⟩ : ByteArray)].flatMap natsOf) = (pAt 0, (if 2 < k then [] else [interAct false (List.replicate k B) F]) ++ [ePrint 107])) := Lib.hid (by
        have hb1 := hB1.out
        have hf1 := hF1.out
        have := inter_fed false B F k hb1.1 hb1.2 hf1.1 hf1.2 (fun _ _ => HF3.out)
        rw [← this]
        simp only [List.flatMap_cons, List.flatMap_nil, List.append_nil]
        rw [HT.out, HG.out, natsOf_bytesN _ (by intro x hx; rw [List.mem_replicate] at hx; omega), natsOf_bytesN _ (by intro x hx; simp at hx; omega)]
        rfl)
      have HFED : Hid ((feedsE .z [⟨#[27]⟩, T, G, (⟨#[107]⟩ : ByteArray)]).2 = (if 2 < k then [] else [interAct false (List.replicate k B) F]) ++ [ePrint 107] ∧ (feedsE .z [⟨#[27]⟩, T, G, (⟨#[107]⟩ : ByteArray)]).1.ground = true) := Lib.hid (by
        have h2 := feed_alikeE ([⟨#[27]⟩, T, G, (⟨#[107]⟩ : ByteArray)].flatMap natsOf) AlikeE.z
        rw [HALL.out] at h2
        rw [feedsE_nats]
        exact ⟨h2.2, (AlikeE.at0 h2.1 rfl rfl).1⟩)
      have hTs : T.size ≤ 8 := by rw [HT.out, bytesN_size]; have := hN8.out; simp; omega
      have hGs : G.size = 1 := by rw [HG.out, bytesN_size]; rfl
      have HTS := Lib.hid hTs
      have HGS := Lib.hid hGs
      clear hTs hGs
      go_wp2_with fail
      have hsr : Src ((w3.alloc (.cells #[.int .u8 (F : Int)] 5)).alloc (.cells #[.string ⟨#[27]⟩, .string T, .string G, .string ⟨#[107]⟩] 9)) (some ⟨w3.heap.size + 1, 0, none⟩) 4 ([⟨#[27]⟩, T, G, (⟨#[107]⟩ : ByteArray)].map Value.string) := src_new (w3.alloc (.cells #[.int .u8 (F : Int)] 5)) ([⟨#[27]⟩, T, G, (⟨#[107]⟩ : ByteArray)].map Value.string) 9 (w3.heap.size + 1) (by simp) 4 rfl
      have X : Below w3.heap.size w3 ((w3.alloc (.cells #[.int .u8 (F : Int)] 5)).alloc (.cells #[.string ⟨#[27]⟩, .string T, .string G, .string ⟨#[107]⟩] 9)) := ((Below.refl _ w3).alloc (Nat.le_refl _) _).alloc (by simp) _
      refine (esc_feed p 0 .z _ 4 4 [⟨#[27]⟩, T, G, ⟨#[107]⟩] _ (HE3.out.below X) hsr (fun _ => by simp [blk]; omega) (by omega) (by have a := HTS.out; have b := HGS.out; have c1 : (⟨#[27]⟩ : ByteArray).size = 1 := rfl; have c2 : (⟨#[27, 91]⟩ : ByteArray).size = 2 := rfl; have c3 : (⟨#[107]⟩ : ByteArray).size = 1 := rfl; simp only [sum, List.map_cons, List.map_nil, List.foldr_cons, List.foldr_nil]; omega) (by decide)).mono ?_
      rintro e w4 ⟨A4, n4, c4, rfl, hn4, ha4, he4, hk4⟩
      have HE4 := Lib.hid he4
      have HB4 : Hid (Below w.heap.size w w4) := Lib.hid (by
        have hs3 := HB3.out.size
        exact HB3.out.trans ((X.mono hs3).trans (hk4.keep.below (Nat.le_trans hs3 X.size) (fun k hk e => by omega))))
      rw [HFED.out.1] at ha4 hn4
      by_cases h2k : 2 < k
      · rw [if_pos h2k] at ha4 hn4
        obtain ⟨g, rfl, hg, hcs⟩ := ha4.cells (by rw [hn4]; simp)
        replace hn4 : n4 = 1 := hn4
        subst hn4
        obtain ⟨s0, -, c0⟩ := hcs 0 _ rfl
        have d00 : w4.cell? ⟨g, 0, none⟩ = some (.int .i64 1) := c0 0 _ rfl
        have d01 : w4.cell? ⟨g, 1, none⟩ = some (.int .i32 107) := c0 1 _ rfl
        have hn2 : n > 2 := by rw [HN.out]; omega
        clear ha4 hcs c0 hcv hg he4 hk4 X hsr
        go_wp2_with fail
        go_ret
        exact ⟨rfl, HB4.out⟩
      · rw [if_neg h2k] at ha4 hn4
        obtain ⟨g, rfl, hg, hcs⟩ := ha4.cells (by rw [hn4]; simp)
        replace hn4 : n4 = 2 := hn4
        subst hn4
        obtain ⟨⟨A1, d1⟩, hn1, c0⟩ := hcs 0 _ rfl
        obtain ⟨s1, -, c1⟩ := hcs 1 _ rfl
        have d00 : w4.cell? ⟨g, 0, none⟩ = some (.int .i64 3) := c0 0 _ rfl
        have d02 : w4.cell? ⟨g, 2, none⟩ = some (.int .i64 (F : Int)) := c0 2 _ rfl
        have d04 : w4.cell? ⟨g, 4, none⟩ = some (.slice A1 0 d1) := c0 4 _ rfl
        have d05 : w4.cell? ⟨g, 5, none⟩ = some (.string T) := by rw [HT.out]; exact c0 5 _ rfl
        have d11 : w4.cell? ⟨g, 8, none⟩ = some (.int .i32 107) := c1 1 _ rfl
        have hn2 : ¬ n > 2 := by rw [HN.out]; omega
        clear ha4 hcs c0 c1 hcv hg he4 hk4 X hsr hn1
        go_wp2_with fail
        refine (esc_ground p 0 _ _ HE4.out).mono ?_
        rintro e w6 ⟨rfl, rfl⟩
        rw [HFED.out.2]
        go_wp2_with fail
        go_ret
        exact ⟨rfl, HB4.out⟩

set_option maxRecDepth 100000 in
set_option maxHeartbeats 3200000 in
theorem escInters_out91 (n c f : Int) (w : World) (h1 : ¬ n < 0) (h2 : ¬ n > 8) (t1 t2 : Int) (B F m1 m2 : Nat) (e1 : c.tmod 16 = t1) (l1 : -16 < t1) (l2 : t1 < 16) (e2 : (t1 + 16) % 16 = (m1 : Int)) (hB : B = 32 + m1) (hm1 : m1 < 16)
    (e3 : f.tmod 63 = t2) (l3 : -63 < t2) (l4 : t2 < 63) (e4 : (t2 + 63) % 63 = (m2 : Int)) (hF : F = 64 + m2) (hm2 : m2 < 63) (hn0 : (n == 0) = true) (hf3 : F = 91) :
    Calls Try.prog 9 #[.int .i64 n, .int .i64 c, .int .i64 f, .bool false] w fun e w' => e = .returned (.bool true) ∧ Below w.heap.size w w' := by
  obtain ⟨N, hN⟩ : ∃ N : Nat, n = (N : Int) := ⟨n.toNat, by omega⟩
  have e5 : (32 : Int) + (m1 : Int) = (B : Int) := by omega
  have e6 : (64 : Int) + (m2 : Int) = (F : Int) := by omega
  have e7 : IntKind.u8.wrap (B : Int) = (B : Int) := by rw [u8_of (by omega), toNat_ofNat (by omega)]
  have e8 : IntKind.u8.wrap (F : Int) = (F : Int) := by rw [u8_of (by omega), toNat_ofNat (by omega)]
  have hB1 : Hid (32 ≤ B ∧ B ≤ 47) := Lib.hid (by omega)
  have hF1 : Hid (64 ≤ F ∧ F ≤ 126) := Lib.hid (by omega)
  have HN := Lib.hid hN
  have hN8 : Hid (N ≤ 8) := Lib.hid (by omega)
  clear hB hF hm1 hm2 hN
  subst hf3
  go_enter Try.func9, Try.ntmps9
  go_wp2_with fail
  refine (alive_any _).mono ?_
  rintro e w1 ⟨rfl, hb⟩
  have HB1 := Lib.hid hb
  clear hb
  go_wp2_with fail
  go_ret
  exact ⟨rfl, HB1.out⟩

set_option maxRecDepth 100000 in
set_option maxHeartbeats 3200000 in
theorem escInters_out93 (n c f : Int) (w : World) (h1 : ¬ n < 0) (h2 : ¬ n > 8) (t1 t2 : Int) (B F m1 m2 : Nat) (e1 : c.tmod 16 = t1) (l1 : -16 < t1) (l2 : t1 < 16) (e2 : (t1 + 16) % 16 = (m1 : Int)) (hB : B = 32 + m1) (hm1 : m1 < 16)
    (e3 : f.tmod 63 = t2) (l3 : -63 < t2) (l4 : t2 < 63) (e4 : (t2 + 63) % 63 = (m2 : Int)) (hF : F = 64 + m2) (hm2 : m2 < 63) (hn0 : (n == 0) = true) (hf3 : F = 93) :
    Calls Try.prog 9 #[.int .i64 n, .int .i64 c, .int .i64 f, .bool false] w fun e w' => e = .returned (.bool true) ∧ Below w.heap.size w w' := by
  obtain ⟨N, hN⟩ : ∃ N : Nat, n = (N : Int) := ⟨n.toNat, by omega⟩
  have e5 : (32 : Int) + (m1 : Int) = (B : Int) := by omega
  have e6 : (64 : Int) + (m2 : Int) = (F : Int) := by omega
  have e7 : IntKind.u8.wrap (B : Int) = (B : Int) := by rw [u8_of (by omega), toNat_ofNat (by omega)]
  have e8 : IntKind.u8.wrap (F : Int) = (F : Int) := by rw [u8_of (by omega), toNat_ofNat (by omega)]
  have hB1 : Hid (32 ≤ B ∧ B ≤ 47) := Lib.hid (by omega)
  have hF1 : Hid (64 ≤ F ∧ F ≤ 126) := Lib.hid (by omega)
  have HN := Lib.hid hN
  have hN8 : Hid (N ≤ 8) := Lib.hid (by omega)
  clear hB hF hm1 hm2 hN
  subst hf3
  go_enter Try.func9, Try.ntmps9
  go_wp2_with fail
  refine (alive_any _).mono ?_
  rintro e w1 ⟨rfl, hb⟩
  have HB1 := Lib.hid hb
  clear hb
  go_wp2_with fail
  go_ret
  exact ⟨rfl, HB1.out⟩

set_option maxRecDepth 100000 in
set_option maxHeartbeats 3200000 in
theorem escInters_out80 (n c f : Int) (w : World) (h1 : ¬ n < 0) (h2 : ¬ n > 8) (t1 t2 : Int) (B F m1 m2 : Nat) (e1 : c.tmod 16 = t1) (l1 : -16 < t1) (l2 : t1 < 16) (e2 : (t1 + 16) % 16 = (m1 : Int)) (hB : B = 32 + m1) (hm1 : m1 < 16)
    (e3 : f.tmod 63 = t2) (l3 : -63 < t2) (l4 : t2 < 63) (e4 : (t2 + 63) % 63 = (m2 : Int)) (hF : F = 64 + m2) (hm2 : m2 < 63) (hn0 : (n == 0) = true) (hf3 : F = 80) :
    Calls Try.prog 9 #[.int .i64 n, .int .i64 c, .int .i64 f, .bool false] w fun e w' => e = .returned (.bool true) ∧ Below w.heap.size w w' := by
  obtain ⟨N, hN⟩ : ∃ N : Nat, n = (N : Int) := ⟨n.toNat, by omega⟩
  have e5 : (32 : Int) + (m1 : Int) = (B : Int) := by omega
  have e6 : (64 : Int) + (m2 : Int) = (F : Int) := by omega
  have e7 : IntKind.u8.wrap (B : Int) = (B : Int) := by rw [u8_of (by omega), toNat_ofNat (by omega)]
  have e8 : IntKind.u8.wrap (F : Int) = (F : Int) := by rw [u8_of (by omega), toNat_ofNat (by omega)]
  have hB1 : Hid (32 ≤ B ∧ B ≤ 47) := Lib.hid (by omega)
  have hF1 : Hid (64 ≤ F ∧ F ≤ 126) := Lib.hid (by omega)
  have HN := Lib.hid hN
  have hN8 : Hid (N ≤ 8) := Lib.hid (by omega)
  clear hB hF hm1 hm2 hN
  subst hf3
  go_enter Try.func9, Try.ntmps9
  go_wp2_with fail
  refine (alive_any _).mono ?_
  rintro e w1 ⟨rfl, hb⟩
  have HB1 := Lib.hid hb
  clear hb
  go_wp2_with fail
  go_ret
  exact ⟨rfl, HB1.out⟩

theorem walk_EscInters (n : Int) (wn : (Lit.int .i64 n).wf = true) (c : Int) (wc : (Lit.int .i64 c).wf = true) (f : Int) (wf : (Lit.int .i64 f).wf = true) (csi : Bool) (w : World) :
    Calls Try.prog 9 #[.int .i64 n, .int .i64 c, .int .i64 f, .bool csi] w fun e w' => e = .returned (.bool true) ∧ Below w.heap.size w w' := by
  by_cases h1 : n < 0
  · exact escInters_early n c f csi w (.inl h1)
  by_cases h2 : n > 8
  · exact escInters_early n c f csi w (.inr ⟨h1, h2⟩)
  obtain ⟨t1, e1, l1, l2, m1, e2, hm1⟩ := rem_nat c 16 (by omega)
  obtain ⟨t2, e3, l3, l4, m2, e4, hm2⟩ := rem_nat f 63 (by omega)
  cases csi with
  | true => exact escInters_csi n c f w h1 h2 t1 t2 _ _ m1 m2 e1 l1 l2 e2 rfl hm1 e3 l3 l4 e4 rfl hm2
  | false =>
    by_cases hn0 : n = 0
    · have hn0' : (n == 0) = true := by simpa using hn0
      by_cases f1 : 64 + m2 = 91
      · exact escInters_out91 n c f w h1 h2 t1 t2 _ _ m1 m2 e1 l1 l2 e2 rfl hm1 e3 l3 l4 e4 rfl hm2 hn0' f1
      by_cases f2 : 64 + m2 = 93
      · exact escInters_out93 n c f w h1 h2 t1 t2 _ _ m1 m2 e1 l1 l2 e2 rfl hm1 e3 l3 l4 e4 rfl hm2 hn0' f2
      by_cases f3 : 64 + m2 = 80
      · exact escInters_out80 n c f w h1 h2 t1 t2 _ _ m1 m2 e1 l1 l2 e2 rfl hm1 e3 l3 l4 e4 rfl hm2 hn0' f3
      exact escInters_none n c f w h1 h2 t1 t2 _ _ m1 m2 e1 l1 l2 e2 rfl hm1 e3 l3 l4 e4 rfl hm2 hn0' ⟨f1, f2, f3⟩
    · exact escInters_some n c f w h1 h2 t1 t2 _ _ m1 m2 e1 l1 l2 e2 rfl hm1 e3 l3 l4 e4 rfl hm2 hn0

end Go.Proofs.Ythphnjilbpidgaa
