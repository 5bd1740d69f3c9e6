/- Law WindowShift: the walk. Own work. -/
import Derived.Test.YtfgcbgingcadaaaWinAt
import Derived.Test.YtfgcbgingcadaaaWindowFarWalk
import Derived.Deep.QuietTactic
import Derived.BigQuiet
import Derived.Deep.RegionHeld3
import Derived.Deep.Cut
import Derived.RegionCalls
import Derived.Deep.RegionWith
namespace Go.Proofs.Ytfgcbgingcadaaa
set_option linter.unusedVariables false
set_option linter.unusedSimpArgs false
open Go.RowKit

theorem fresh_shift {t : Int} {s : Nat} {n b : Int} (ht : 64 ≤ t) (hb : 0 ≤ b) (hn : n + b ≤ 4611686018427387904) : freshB (t + b) s (n + b) = freshB t s n := by
  rw [Bool.eq_iff_iff, fresh_true, fresh_true, oldF_eq, oldF_eq, show t + b - (n + b) = t - n from by omega]
  have e1 : n + b ≤ t + b ↔ n ≤ t := by omega
  rw [e1]
  have e2 : (if t + b ≤ 64 then 0 else t + b - 64) = t + b - 64 := by split <;> omega
  have e3 : (if t ≤ 64 then 0 else t - 64) = t - 64 := by split <;> omega
  rw [e2, e3]
  constructor <;> rintro ⟨h1, h2, h3⟩ <;> exact ⟨by omega, by omega, h3⟩

theorem mark_shift {t : Int} {s : Nat} {n b : Int} : markS (t + b) s (n + b) = markS t s n := by
  unfold markS upS
  rw [show max (t + b) (n + b) - (n + b) = max t n - n from by omega, show n + b - (t + b) = n - t from by omega]
  by_cases h : t < n
  · rw [if_pos h, if_pos (by omega)]
  · rw [if_neg h, if_neg (by omega)]

set_option maxRecDepth 100000 in
set_option maxHeartbeats 1600000 in
theorem shift_good (A : Option Addr) (n c : Nat) (zs : List Int) (b : Int) (w : World) (hz : Ints w A n zs) (h1 : n ≤ 60) (h2 : 0 ≤ b) (h3 : b ≤ 1099511627776) :
    Calls Try.prog 6 #[.slice A n c, .int .i64 b] w fun e w' => e = .returned (.bool true) ∧ Below w.heap.size w w' := by
  have HZ := Lib.hid hz
  clear hz
  have d1 : decide (60 < (n : Int)) = false := by simp; omega
  have d2 : decide (b < 0) = false := by simp; omega
  have d3 : decide (1099511627776 < b) = false := by simp; omega
  go_enter Try.func6, Try.ntmps6
  go_wp2_with fail
  refine (alive_any _).mono ?_
  rintro e w0 ⟨rfl, hb⟩
  have HB := Lib.hid hb
  clear hb
  go_wp2_with fail
  refine (take_first 200 _ (by omega) (by omega)).mono ?_
  rintro e w1 ⟨rfl, hb⟩
  have HB1 := Lib.hid (HB.out.trans (hb.mono HB.out.size))
  clear HB hb
  go_wp2_with fail
  refine (take_first (200 + b) _ (by omega) (by omega)).mono ?_
  rintro e w2 ⟨rfl, hb⟩
  have HA : Hid (WinAt w2 w1.heap.size 200 1 ∧ w.heap.size ≤ w1.heap.size ∧ w1.heap.size < w2.heap.size) := Lib.hid ⟨(winAt_new w1 200 1 26).below hb, HB1.out.size, by have := hb.size; simp at this; omega⟩
  have HB2 := Lib.hid (((HB1.out.alloc HB1.out.size _).trans (hb.mono (by have := HB1.out.size; simp; omega))))
  clear HB1 hb
  go_wp2_with fail
  have KA : Hid (WinAt (w2.alloc (.cells #[.int .i64 (200 + b), .int .u64 1] 26)) w1.heap.size 200 1) := Lib.hid (HA.out.1.alloc _)
  have KB : Hid (WinAt (w2.alloc (.cells #[.int .i64 (200 + b), .int .u64 1] 26)) w2.heap.size (200 + b) 1) := Lib.hid (winAt_new w2 (200 + b) 1 26)
  have KW : Hid (Below w.heap.size w (w2.alloc (.cells #[.int .i64 (200 + b), .int .u64 1] 26))) := Lib.hid (HB2.out.alloc HB2.out.size _)
  have ba := HA.out.2.1
  have bb := HA.out.2.2
  clear HA HB2
  obtain ⟨pa, hpa⟩ : ∃ p, p = w1.heap.size := ⟨_, rfl⟩
  obtain ⟨pb, hpb⟩ : ∃ p, p = w2.heap.size := ⟨_, rfl⟩
  rw [← hpa, ← hpb] at bb
  rw [← hpa] at KA ba
  rw [← hpb] at KB
  rw [← hpa, ← hpb]
  clear hpa hpb
  go_loopw [9] (fun i wr => ∃ (k : Nat) (t : Int) (s : Nat), i = .int .i64 k ∧ k ≤ n ∧ 200 ≤ t ∧ t ≤ 600 ∧ s < 18446744073709551616 ∧ Hid (WinAt wr pa t s) ∧ Hid (WinAt wr pb (t + b) s) ∧ Hid (Below w.heap.size w wr)) (fun i _ => n - (intOf i).toNat)
  case atStart => exact ⟨0, 200, 1, rfl, by omega, by omega, by omega, by omega, KA, KB, KW⟩
  case round =>
    obtain ⟨k, t, s, rfl, hk, ht1, ht2, hs, JA, JB, JW⟩ := hrel
    clear KA KB KW
    by_cases hlt : k < n
    · obtain ⟨x, hx⟩ : ∃ x, zs[k]? = some x := ⟨zs[k]'(by rw [HZ.out.1]; exact hlt), List.getElem?_eq_getElem _⟩
      obtain ⟨q, off, rfl, hq, hcz⟩ := HZ.out.2.1 (by omega)
      have bx := HZ.out.2.2.1 x (List.mem_of_getElem? hx)
      have rx : wr.cell? ⟨q, off + k, none⟩ = some (.int .i64 x) := (JW.out.cell (p := ⟨q, off + k, none⟩) hq).trans (hcz k x hx)
      clear hx hcz
      have m1 : -399 ≤ x.tmod 400 ∧ x.tmod 400 ≤ 399 := by
        rw [Int.tmod_eq_emod]
        split <;> simp <;> omega
      have m2 := m1.1
      have m3 := m1.2
      clear m1
      have a0 := JA.out.c0
      have a1 := JA.out.c1
      go_wp2_with fail
      obtain ⟨m, hm⟩ : ∃ m, m = 100 + x.tmod 400 % 400 := ⟨_, rfl⟩
      have hm1 : 100 ≤ m := by omega
      have hm2 : m ≤ 499 := by omega
      rw [← hm]
      clear hm m2 m3 rx bx
      rcases Bool.eq_false_or_eq_true (freshB t s m) with hf | hf
      all_goals
        have hf := Lib.hid hf
      · have ltm : markS t s m < 18446744073709551616 := markS_lt hs (by have := (fresh_true.1 hf.out).1; rw [oldF_eq] at this; split at this <;> omega)
        refine (win_take t s m (max t m) (markS t s m) _ hs (by omega) (by omega) hf.out rfl rfl).mono ?_
        rintro e w3 ⟨rfl, hb⟩
        have B0 := Lib.hid (JB.out.below hb)
        have W0 := Lib.hid (JW.out.trans (hb.mono JW.out.size))
        have PA := Lib.hid (JA.out.below hb)
        have lb : pb < w3.heap.size := (JB.out.below hb).lt
        have la : pa < w3.heap.size := (JA.out.below hb).lt
        have N0 : Hid (WinAt (w3.alloc (.cells #[.int .i64 (max t m), .int .u64 ((markS t s m) : Nat)] 26)) w3.heap.size (max t m) (markS t s m)) := Lib.hid (winAt_new w3 _ _ _)
        clear hb JA JB JW a0 a1
        have b0 := (B0.out.alloc (.cells #[.int .i64 (max t m), .int .u64 ((markS t s m) : Nat)] 26)).c0
        have b1 := (B0.out.alloc (.cells #[.int .i64 (max t m), .int .u64 ((markS t s m) : Nat)] 26)).c1
        go_wp2_with fail
        refine (win_take (t + b) s (m + b) (max t m + b) (markS t s m) _ hs (by omega) (by omega) (by rw [fresh_shift (by omega) (by omega) (by omega)]; exact hf.out) (by omega) mark_shift).mono ?_
        rintro e w4 ⟨rfl, hb⟩
        have N1 := Lib.hid (N0.out.below hb)
        have B1 := Lib.hid ((B0.out.alloc _).below hb)
        have A1 := Lib.hid ((PA.out.alloc _).below hb)
        have W1 := Lib.hid ((W0.out.alloc W0.out.size _).trans (hb.mono (by have := W0.out.size; simp; omega)))
        have l3 : w3.heap.size < w4.heap.size := by have := hb.size; simp at this; omega
        clear hb b0 b1 N0 B0 PA W0
        obtain ⟨px, hpx⟩ : ∃ p, p = w3.heap.size := ⟨_, rfl⟩
        rw [← hpx] at la lb l3 N1 ⊢
        clear hpx
        have n0 := (N1.out.alloc (.cells #[.int .i64 (max t m + b), .int .u64 ((markS t s m) : Nat)] 26)).c0
        have n1 := (N1.out.alloc (.cells #[.int .i64 (max t m + b), .int .u64 ((markS t s m) : Nat)] 26)).c1
        have q0 := (A1.out.alloc (.cells #[.int .i64 (max t m + b), .int .u64 ((markS t s m) : Nat)] 26)).c0
        have q1 := (A1.out.alloc (.cells #[.int .i64 (max t m + b), .int .u64 ((markS t s m) : Nat)] 26)).c1
        have q2 := (A1.out.alloc (.cells #[.int .i64 (max t m + b), .int .u64 ((markS t s m) : Nat)] 26)).f0
        have q3 := (A1.out.alloc (.cells #[.int .i64 (max t m + b), .int .u64 ((markS t s m) : Nat)] 26)).f1
        have r0 := (B1.out.alloc (.cells #[.int .i64 (max t m + b), .int .u64 ((markS t s m) : Nat)] 26)).c0
        have r1 := (B1.out.alloc (.cells #[.int .i64 (max t m + b), .int .u64 ((markS t s m) : Nat)] 26)).c1
        have r2 := (B1.out.alloc (.cells #[.int .i64 (max t m + b), .int .u64 ((markS t s m) : Nat)] 26)).f0
        have r3 := (B1.out.alloc (.cells #[.int .i64 (max t m + b), .int .u64 ((markS t s m) : Nat)] 26)).f1
        go_wp2_with fail
        go_region_with fail
        all_goals
          go_wp2_with fail
          go_roundw
          case rel =>
            exact ⟨k + 1, (max t m), (markS t s m), by go_num, by omega, by omega, by omega, ltm,
              Lib.hid (by (repeat (with_reducible refine WinAt.drew ?_)); exact (((A1.out.alloc _).set ((max t m)) ((markS t s m))).far (show pa ≠ pb by omega) 0 _).far (show pa ≠ pb by omega) 1 _),
              Lib.hid (by (repeat (with_reducible refine WinAt.drew ?_)); exact (((B1.out.alloc _).far (show pb ≠ pa by omega) 0 _).far (show pb ≠ pa by omega) 1 _).set (max t m + b) ((markS t s m))),
              Lib.hid (by (repeat (with_reducible refine Below.drew ?_)); exact ((((W1.out.alloc W1.out.size _).setCell ba _).setCell ba _).setCell (show w.heap.size ≤ pb by omega) _).setCell (show w.heap.size ≤ pb by omega) _)⟩
          case measure => simp [intOf]; omega
      · refine (win_mark_not t s m _ hs (by omega) (by omega) hf.out).mono ?_
        rintro e w3 ⟨rfl, hb⟩
        have B0 := Lib.hid (JB.out.below hb)
        have W0 := Lib.hid (JW.out.trans (hb.mono JW.out.size))
        have PA := Lib.hid (JA.out.below hb)
        have lb : pb < w3.heap.size := (JB.out.below hb).lt
        have la : pa < w3.heap.size := (JA.out.below hb).lt
        have N0 : Hid (WinAt (w3.alloc (.cells #[.int .i64 t, .int .u64 (s : Nat)] 26)) w3.heap.size t s) := Lib.hid (winAt_new w3 _ _ _)
        clear hb JA JB JW a0 a1
        have b0 := (B0.out.alloc (.cells #[.int .i64 t, .int .u64 (s : Nat)] 26)).c0
        have b1 := (B0.out.alloc (.cells #[.int .i64 t, .int .u64 (s : Nat)] 26)).c1
        go_wp2_with fail
        refine (win_mark_not (t + b) s (m + b) _ hs (by omega) (by omega) (by rw [fresh_shift (by omega) (by omega) (by omega)]; exact hf.out)).mono ?_
        rintro e w4 ⟨rfl, hb⟩
        have N1 := Lib.hid (N0.out.below hb)
        have B1 := Lib.hid ((B0.out.alloc _).below hb)
        have A1 := Lib.hid ((PA.out.alloc _).below hb)
        have W1 := Lib.hid ((W0.out.alloc W0.out.size _).trans (hb.mono (by have := W0.out.size; simp; omega)))
        have l3 : w3.heap.size < w4.heap.size := by have := hb.size; simp at this; omega
        clear hb b0 b1 N0 B0 PA W0
        obtain ⟨px, hpx⟩ : ∃ p, p = w3.heap.size := ⟨_, rfl⟩
        rw [← hpx] at la lb l3 N1 ⊢
        clear hpx
        have n0 := (N1.out.alloc (.cells #[.int .i64 (t + b), .int .u64 (s : Nat)] 26)).c0
        have n1 := (N1.out.alloc (.cells #[.int .i64 (t + b), .int .u64 (s : Nat)] 26)).c1
        have q0 := (A1.out.alloc (.cells #[.int .i64 (t + b), .int .u64 (s : Nat)] 26)).c0
        have q1 := (A1.out.alloc (.cells #[.int .i64 (t + b), .int .u64 (s : Nat)] 26)).c1
        have q2 := (A1.out.alloc (.cells #[.int .i64 (t + b), .int .u64 (s : Nat)] 26)).f0
        have q3 := (A1.out.alloc (.cells #[.int .i64 (t + b), .int .u64 (s : Nat)] 26)).f1
        have r0 := (B1.out.alloc (.cells #[.int .i64 (t + b), .int .u64 (s : Nat)] 26)).c0
        have r1 := (B1.out.alloc (.cells #[.int .i64 (t + b), .int .u64 (s : Nat)] 26)).c1
        have r2 := (B1.out.alloc (.cells #[.int .i64 (t + b), .int .u64 (s : Nat)] 26)).f0
        have r3 := (B1.out.alloc (.cells #[.int .i64 (t + b), .int .u64 (s : Nat)] 26)).f1
        go_wp2_with fail
        go_region_with fail
        all_goals
          go_wp2_with fail
          go_roundw
          case rel =>
            exact ⟨k + 1, t, s, by go_num, by omega, by omega, by omega, hs,
              Lib.hid (by (repeat (with_reducible refine WinAt.drew ?_)); exact (((A1.out.alloc _).set (t) (s)).far (show pa ≠ pb by omega) 0 _).far (show pa ≠ pb by omega) 1 _),
              Lib.hid (by (repeat (with_reducible refine WinAt.drew ?_)); exact (((B1.out.alloc _).far (show pb ≠ pa by omega) 0 _).far (show pb ≠ pa by omega) 1 _).set (t + b) (s)),
              Lib.hid (by (repeat (with_reducible refine Below.drew ?_)); exact ((((W1.out.alloc W1.out.size _).setCell ba _).setCell ba _).setCell (show w.heap.size ≤ pb by omega) _).setCell (show w.heap.size ≤ pb by omega) _)⟩
          case measure => simp [intOf]; omega
    · clear JA JB
      go_wp2_with fail
      go_ret
      exact ⟨rfl, JW.out⟩

set_option maxRecDepth 100000 in
set_option maxHeartbeats 1600000 in
theorem walk_WindowShift (A : Option Addr) (n c : Nat) (zs : List Int) (b : Int) (wb : (Lit.int .i64 b).wf = true) (w : World) (hz : Ints w A n zs) :
    Calls Try.prog 6 #[.slice A n c, .int .i64 b] w fun e w' => e = .returned (.bool true) ∧ Below w.heap.size w w' := by
  have hm := hz.2.2.2
  unfold maxLen at hm
  by_cases h0 : 60 < (n : Int)
  · have e0 : decide (60 < (n : Int)) = true := by simpa using h0
    clear hz
    go_enter Try.func6, Try.ntmps6
    go_wp2_with fail
    refine (alive_any _).mono ?_
    rintro e w1 ⟨rfl, hb⟩
    go_wp2_with fail
    go_ret
    exact ⟨rfl, hb⟩
  have e0 : decide (60 < (n : Int)) = false := by simpa using h0
  by_cases h1 : b < 0
  · have e1 : decide (b < 0) = true := by simpa using h1
    clear hz
    go_enter Try.func6, Try.ntmps6
    go_wp2_with fail
    refine (alive_any _).mono ?_
    rintro e w1 ⟨rfl, hb⟩
    go_wp2_with fail
    go_ret
    exact ⟨rfl, hb⟩
  have e1 : decide (b < 0) = false := by simpa using h1
  by_cases h2 : 1099511627776 < b
  · have e2 : decide (1099511627776 < b) = true := by simpa using h2
    clear hz
    go_enter Try.func6, Try.ntmps6
    go_wp2_with fail
    refine (alive_any _).mono ?_
    rintro e w1 ⟨rfl, hb⟩
    go_wp2_with fail
    go_ret
    exact ⟨rfl, hb⟩
  have e2 : decide (1099511627776 < b) = false := by simpa using h2
  exact shift_good A n c zs b w hz (by omega) (by omega) (by omega)

end Go.Proofs.Ytfgcbgingcadaaa
