/- grid: our Grid's calls, told by rows and columns as the document's are. Own work. -/
import Derived.Test.YtbjdcbnmpmcdiaaGridC
import Derived.Test.YtbjdcbnmpmcdiaaRGridSet
import Derived.Test.YtbjdcbnmpmcdiaaRGridCells
import Derived.Test.YtbjdcbnmpmcdiaaRGridUp
import Derived.Test.YtbjdcbnmpmcdiaaRGridDown
import Derived.Test.YtbjdcbnmpmcdiaaRGridLeft
import Derived.Test.YtbjdcbnmpmcdiaaRGridRight
import Derived.Test.YtbjdcbnmpmcdiaaRGridSize
namespace Go.Proofs.Ytbjdcbnmpmcdiaa
set_option linter.unusedVariables false
set_option linter.unusedSimpArgs false
open Go.RowKit

theorem lin_of {W H : Nat} {f : Nat → CellM} {F : Nat → Nat → CellM} (hW : 0 < W) (h : ∀ i j, i < H → j < W → f (i * W + j) = F i j) : ∀ k, k < W * H → f k = linF W F k := fun k hk => by
  have h1 := Nat.div_add_mod k W
  have h2 := Nat.mod_lt k hW
  have h3 : k / W < H := (Nat.div_lt_iff_lt_mul hW).2 (by rw [Nat.mul_comm]; exact hk)
  have := h (k / W) (k % W) h3 h2
  rw [Nat.mul_comm (k / W) W, h1] at this
  exact this

section
variable {w : World} {p g c W H n : Nat} {F : Nat → Nat → CellM}

theorem lin_keep {a m : Nat} {x : Nat → CellM} {w' : World} {G : Nat → Nat → CellM} (h : GridAt w p g c W H n (linF W F)) (q : PutC g (a * 6) m x w w') (ha : 0 < m → a + m ≤ n)
    (e : ∀ i j, i < H → j < W → (if a ≤ i * W + j ∧ i * W + j < a + m then x (i * W + j - a) else F i j) = G i j) : GridAt w' p g c W H n (linF W G) := by
  have hW : 0 < W := by have := h.hw; omega
  have main : ∀ a, PutC g (a * 6) m x w w' → a + m ≤ n → (∀ i j, i < H → j < W → (if a ≤ i * W + j ∧ i * W + j < a + m then x (i * W + j - a) else F i j) = G i j) → GridAt w' p g c W H n (linF W G) := fun a q ha e => by
    refine (h.put q ha).congr (fun k hk => ?_)
    rw [h.hn] at hk
    refine lin_of (f := fun k => if a ≤ k ∧ k < a + m then x (k - a) else linF W F k) hW (fun i j hi hj => ?_) k hk
    (try dsimp only)
    rw [linF_at F i j hj]
    exact e i j hi hj
  rcases Nat.eq_zero_or_pos m with h0 | h0
  · subst h0
    refine main 0 ⟨q.keep, q.fz, fun k hk => absurd hk (by omega), fun i _ => q.out i (by omega)⟩ (by omega) (fun i j hi hj => ?_)
    have := e i j hi hj
    rw [if_neg (by omega)] at this ⊢
    exact this
  · exact main a q (ha h0) e

/-- A row's places. -/
theorem row_le {W i y : Nat} (h : i < y) : i * W + W ≤ y * W := by
  have := Nat.mul_le_mul_right W (Nat.succ_le_of_lt h)
  rwa [Nat.succ_mul] at this

theorem lin_set (h : GridAt w p g c W H n (linF W F)) (X Y : Int) (B : Option Addr) (m mc : Nat) (l : Nat → CellM) (hl : Src w B (m * 6) (flatF l m)) (hm : m ≤ 100000) :
    Calls Try.prog 13 #[.pointer (some ⟨p, 0, none⟩), .int .i64 X, .int .i64 Y, .slice B m mc] w fun e w' => e = .returned (.int .i64 ((min m (restN W H X Y) : Nat) : Int)) ∧ GridAt w' p g c W H n (linF W (setTo W H X Y (min m (restN W H X Y)) l F)) ∧ Keep (· = g) w w' := by
  refine (grid_setR w p g c W H n _ X Y B m mc l h hl hm _ rfl).mono ?_
  rintro e w' ⟨rfl, q⟩
  have hr := restN_le h.hn X Y
  refine ⟨rfl, lin_keep h q (fun h0 => by have := hr (by omega); omega) (fun i j hi hj => ?_), q.keep⟩
  unfold setTo
  by_cases hin : 0 ≤ X ∧ X < W ∧ 0 ≤ Y ∧ Y < H
  · have hN : restN W H X Y = W - X.toNat := if_pos hin
    obtain ⟨x, rfl⟩ := Int.eq_ofNat_of_zero_le hin.1
    obtain ⟨y, rfl⟩ := Int.eq_ofNat_of_zero_le hin.2.2.1
    have hA : restA W (x : Int) (y : Int) = y * W + x := by unfold restA; simp
    (try simp only [Int.ofNat_eq_natCast] at hN hA ⊢)
    rw [hN, hA]
    simp only [Int.toNat_natCast]
    by_cases e : i = y
    · subst e
      by_cases e2 : x ≤ j ∧ j < x + min m (W - x)
      · rw [if_pos (by omega), if_pos (by omega)]; congr 1; omega
      · rw [if_neg (by omega), if_neg (by omega)]
    · rw [if_neg, if_neg (by omega)]
      rcases Nat.lt_or_gt_of_ne e with z | z
      · have := row_le (W := W) z; omega
      · have := row_le (W := W) z; omega
  · have hN : restN W H X Y = 0 := if_neg hin
    rw [hN, Nat.min_zero, if_neg (by omega), if_neg (by omega)]

theorem lin_fill (h : GridAt w p g c W H n (linF W F)) (s t : Int) (x : CellM) :
    Calls Try.prog 15 #[.pointer (some ⟨p, 0, none⟩), .int .i64 s, .int .i64 t, x.v] w fun e w' => e = .returned (.tuple #[]) ∧ GridAt w' p g c W H n (linF W (fillG W s t x F)) ∧ Keep (· = g) w w' := by
  refine (grid_fill w p g c W H n _ s t (max s 0).toNat _ x h rfl (fun _ => by omega)).mono ?_
  rintro e w' ⟨rfl, q⟩
  refine ⟨rfl, lin_keep h q (fun h0 => by omega) (fun i j hi hj => ?_), q.keep⟩
  have hp := place_lt hi hj
  rw [← h.hn] at hp
  unfold fillG
  generalize i * W + j = k at hp ⊢
  repeat' split
  all_goals first | rfl | omega

theorem lin_up (h : GridAt w p g c W H n (linF W F)) (t b k : Int) (x : CellM) :
    Calls Try.prog 17 #[.pointer (some ⟨p, 0, none⟩), .int .i64 t, .int .i64 b, .int .i64 k, x.v] w fun e w' => e = .returned (.tuple #[]) ∧ GridAt w' p g c W H n (linF W (upG (max t 0).toNat (min b H).toNat (min k.toNat ((min b H).toNat - (max t 0).toNat)) x F)) ∧ Keep (· = g) w w' := by
  refine (grid_up w p g c W H n _ t b k (min (max k 0) (H : Int)).toNat x h (by omega)).mono ?_
  rintro e w' ⟨rfl, q⟩
  refine ⟨rfl, lin_keep h q (fun h0 => rowsN_le h.hn t b h0) (fun i j hi hj => ?_), q.keep⟩
  obtain ⟨T, hT⟩ : ∃ T, T = (max t 0).toNat := ⟨_, rfl⟩
  obtain ⟨D, hD⟩ : ∃ D, D = (min b (H : Int) - max t 0).toNat := ⟨_, rfl⟩
  obtain ⟨B, hB⟩ : ∃ B, B = (min b (H : Int)).toNat := ⟨_, rfl⟩
  have hDB : D = B - T := by omega
  obtain ⟨m, hm⟩ : ∃ m, m = min k.toNat (B - T) := ⟨_, rfl⟩
  have hmm : min ((min (max k 0) (H : Int)).toNat * W) (D * W) = m * W := by
    have h1 : min (min (max k 0) (H : Int)).toNat D = m := by omega
    rw [← h1]
    rcases Nat.le_total (min (max k 0) (H : Int)).toNat D with z | z
    · have := Nat.mul_le_mul_right W z
      rw [Nat.min_eq_left z, Nat.min_eq_left this]
    · have := Nat.mul_le_mul_right W z
      rw [Nat.min_eq_right z, Nat.min_eq_right this]
  unfold rowsA rowsN frontF upG
  rw [← hT, ← hD, ← hB, hmm, ← hm]
  have e1 : T * W + D * W = (T + D) * W := (Nat.add_mul T D W).symm
  by_cases hin : T ≤ i ∧ i < B
  · have h1 := Nat.mul_le_mul_right W hin.1
    have h2 := row_le (W := W) (show i < T + D by omega)
    rw [if_pos (by omega), if_pos hin]
    have e2 : i * W + m * W = (i + m) * W := (Nat.add_mul i m W).symm
    by_cases hz : i + m < B
    · have h3 := row_le (W := W) (show i + m < T + D by omega)
      rw [if_pos (by omega), if_pos hz]
      dsimp only
      rw [show T * W + (i * W + j - T * W + m * W) = (i + m) * W + j from by omega, linF_at F _ _ hj]
    · have h3 := Nat.mul_le_mul_right W (show T + D ≤ i + m by omega)
      rw [if_neg (by omega), if_neg hz]
  · rw [if_neg, if_neg hin]
    rintro ⟨z1, z2⟩
    apply hin
    constructor
    · rcases Nat.lt_or_ge i T with z | z
      · have := row_le (W := W) z; omega
      · exact z
    · rcases Nat.lt_or_ge i (T + D) with z | z
      · by_cases hTB : T ≤ B
        · omega
        · have := row_le (W := W) (show i < T by omega)
          have hD0 : D = 0 := by omega
          rw [hD0] at z2 e1
          omega
      · have := Nat.mul_le_mul_right W z; omega

theorem lin_down (h : GridAt w p g c W H n (linF W F)) (t b k : Int) (x : CellM) :
    Calls Try.prog 19 #[.pointer (some ⟨p, 0, none⟩), .int .i64 t, .int .i64 b, .int .i64 k, x.v] w fun e w' => e = .returned (.tuple #[]) ∧ GridAt w' p g c W H n (linF W (downG (max t 0).toNat (min b H).toNat (min k.toNat ((min b H).toNat - (max t 0).toNat)) x F)) ∧ Keep (· = g) w w' := by
  refine (grid_down w p g c W H n _ t b k (min (max k 0) (H : Int)).toNat x h (by omega)).mono ?_
  rintro e w' ⟨rfl, q⟩
  refine ⟨rfl, lin_keep h q (fun h0 => rowsN_le h.hn t b h0) (fun i j hi hj => ?_), q.keep⟩
  obtain ⟨T, hT⟩ : ∃ T, T = (max t 0).toNat := ⟨_, rfl⟩
  obtain ⟨D, hD⟩ : ∃ D, D = (min b (H : Int) - max t 0).toNat := ⟨_, rfl⟩
  obtain ⟨B, hB⟩ : ∃ B, B = (min b (H : Int)).toNat := ⟨_, rfl⟩
  have hDB : D = B - T := by omega
  obtain ⟨m, hm⟩ : ∃ m, m = min k.toNat (B - T) := ⟨_, rfl⟩
  have hmm : min ((min (max k 0) (H : Int)).toNat * W) (D * W) = m * W := by
    have h1 : min (min (max k 0) (H : Int)).toNat D = m := by omega
    rw [← h1]
    rcases Nat.le_total (min (max k 0) (H : Int)).toNat D with z | z
    · have := Nat.mul_le_mul_right W z
      rw [Nat.min_eq_left z, Nat.min_eq_left this]
    · have := Nat.mul_le_mul_right W z
      rw [Nat.min_eq_right z, Nat.min_eq_right this]
  unfold rowsA rowsN backF downG
  rw [← hT, ← hD, ← hB, hmm, ← hm]
  have e1 : T * W + D * W = (T + D) * W := (Nat.add_mul T D W).symm
  by_cases hin : T ≤ i ∧ i < B
  · have h1 := Nat.mul_le_mul_right W hin.1
    have h2 := row_le (W := W) (show i < T + D by omega)
    rw [if_pos (by omega), if_pos hin]
    have e2 : T * W + m * W = (T + m) * W := (Nat.add_mul T m W).symm
    by_cases hz : i < T + m
    · have h3 := row_le (W := W) hz
      rw [if_pos (by omega), if_pos hz]
    · have h3 := Nat.mul_le_mul_right W (show T + m ≤ i by omega)
      have e3 : (i - m) * W + m * W = i * W := by rw [← Nat.add_mul, Nat.sub_add_cancel (by omega)]
      rw [if_neg (by omega), if_neg hz]
      dsimp only
      rw [show T * W + (i * W + j - T * W - m * W) = (i - m) * W + j from by omega, linF_at F _ _ hj]
  · rw [if_neg, if_neg hin]
    rintro ⟨z1, z2⟩
    apply hin
    constructor
    · rcases Nat.lt_or_ge i T with z | z
      · have := row_le (W := W) z; omega
      · exact z
    · rcases Nat.lt_or_ge i (T + D) with z | z
      · by_cases hTB : T ≤ B
        · omega
        · have := row_le (W := W) (show i < T by omega)
          have hD0 : D = 0 := by omega
          rw [hD0] at z2 e1
          omega
      · have := Nat.mul_le_mul_right W z; omega

theorem lin_right (h : GridAt w p g c W H n (linF W F)) (X Y k : Int) (x : CellM) :
    Calls Try.prog 21 #[.pointer (some ⟨p, 0, none⟩), .int .i64 X, .int .i64 Y, .int .i64 k, x.v] w fun e w' => e = .returned (.tuple #[]) ∧ GridAt w' p g c W H n (linF W (fun i j => if 0 ≤ X ∧ X < W ∧ (i : Int) = Y then shiftRight W X.toNat (min k.toNat W) x (F i) j else F i j)) ∧ Keep (· = g) w w' := by
  refine (grid_right w p g c W H n _ X Y k x h).mono ?_
  rintro e w' ⟨rfl, q⟩
  refine ⟨rfl, lin_keep h q (fun h0 => restN_le h.hn X Y h0) (fun i j hi hj => ?_), q.keep⟩
  by_cases hin : 0 ≤ X ∧ X < W ∧ 0 ≤ Y ∧ Y < H
  · have hN : restN W H X Y = W - X.toNat := if_pos hin
    obtain ⟨a, rfl⟩ := Int.eq_ofNat_of_zero_le hin.1
    obtain ⟨y, rfl⟩ := Int.eq_ofNat_of_zero_le hin.2.2.1
    have hA : restA W (a : Int) (y : Int) = y * W + a := by unfold restA; simp
    (try simp only [Int.ofNat_eq_natCast] at hN hA ⊢)
    rw [hN, hA]
    simp only [Int.toNat_natCast]
    unfold backF shiftRight
    by_cases e : i = y
    · subst e
      rw [if_pos (show (0 : Int) ≤ (a : Int) ∧ (a : Int) < (W : Int) ∧ (i : Int) = (i : Int) from ⟨by omega, by omega, rfl⟩)]
      by_cases e2 : j < a
      · rw [if_neg (by omega), if_pos e2]
      · rw [if_pos (by omega), if_neg e2]
        by_cases e3 : j < a + min k.toNat W
        · rw [if_pos (by omega), if_pos e3]
        · rw [if_neg (by omega), if_neg e3]
          (try dsimp only)
          rw [show i * W + a + (i * W + j - (i * W + a) - min k.toNat (W - a)) = i * W + (j - min k.toNat W) from by omega, linF_at F _ _ (by omega)]
    · rw [if_neg, if_neg (by omega)]
      rcases Nat.lt_or_gt_of_ne e with z | z
      · have := row_le (W := W) z; omega
      · have := row_le (W := W) z; omega
  · have hN : restN W H X Y = 0 := if_neg hin
    rw [hN, if_neg (by omega), if_neg (by omega)]

theorem lin_left (h : GridAt w p g c W H n (linF W F)) (X Y k : Int) (x : CellM) :
    Calls Try.prog 23 #[.pointer (some ⟨p, 0, none⟩), .int .i64 X, .int .i64 Y, .int .i64 k, x.v] w fun e w' => e = .returned (.tuple #[]) ∧ GridAt w' p g c W H n (linF W (fun i j => if 0 ≤ X ∧ X < W ∧ (i : Int) = Y then shiftLeft W X.toNat (min k.toNat W) x (F i) j else F i j)) ∧ Keep (· = g) w w' := by
  refine (grid_left w p g c W H n _ X Y k x h).mono ?_
  rintro e w' ⟨rfl, q⟩
  refine ⟨rfl, lin_keep h q (fun h0 => restN_le h.hn X Y h0) (fun i j hi hj => ?_), q.keep⟩
  by_cases hin : 0 ≤ X ∧ X < W ∧ 0 ≤ Y ∧ Y < H
  · have hN : restN W H X Y = W - X.toNat := if_pos hin
    obtain ⟨a, rfl⟩ := Int.eq_ofNat_of_zero_le hin.1
    obtain ⟨y, rfl⟩ := Int.eq_ofNat_of_zero_le hin.2.2.1
    have hA : restA W (a : Int) (y : Int) = y * W + a := by unfold restA; simp
    (try simp only [Int.ofNat_eq_natCast] at hN hA ⊢)
    rw [hN, hA]
    simp only [Int.toNat_natCast]
    unfold frontF shiftLeft
    by_cases e : i = y
    · subst e
      rw [if_pos (show (0 : Int) ≤ (a : Int) ∧ (a : Int) < (W : Int) ∧ (i : Int) = (i : Int) from ⟨by omega, by omega, rfl⟩)]
      by_cases e2 : j < a
      · rw [if_neg (by omega), if_pos e2]
      · rw [if_pos (by omega), if_neg e2]
        by_cases e3 : j + min k.toNat W < W
        · rw [if_pos (by omega), if_pos e3]
          (try dsimp only)
          rw [show i * W + a + (i * W + j - (i * W + a) + min k.toNat (W - a)) = i * W + (j + min k.toNat W) from by omega, linF_at F _ _ (by omega)]
        · rw [if_neg (by omega), if_neg e3]
    · rw [if_neg, if_neg (by omega)]
      rcases Nat.lt_or_gt_of_ne e with z | z
      · have := row_le (W := W) z; omega
      · have := row_le (W := W) z; omega
  · have hN : restN W H X Y = 0 := if_neg hin
    rw [hN, if_neg (by omega), if_neg (by omega)]

theorem lin_size (h : GridAt w p g c W H n (linF W F)) (x y : Int) (W' H' n' : Nat) (hW : min (max x 2) 40 = (W' : Int)) (hH : min (max y 1) 20 = (H' : Int)) (hn : n' = W' * H') :
    Calls Try.prog 25 #[.pointer (some ⟨p, 0, none⟩), .int .i64 x, .int .i64 y] w (SizeTo p W' H' n' (linF W' (sizeG W H F)) w) := by
  refine (grid_size w p g c W H n _ x y W' H' n' h hW hH hn).mono ?_
  rintro e w' ⟨rfl, g', c', h1, h2, h3⟩
  refine ⟨rfl, g', c', h1, h2.congr (fun k hk => ?_), h3⟩
  rw [hn] at hk
  refine lin_of (by omega) (fun i j hi hj => ?_) k hk
  unfold sizeF sizeG
  have e1 : (i * W' + j) / W' = i := by rw [Nat.mul_comm, Nat.mul_add_div (by omega), Nat.div_eq_of_lt hj, Nat.add_zero]
  have e2 : (i * W' + j) % W' = j := by rw [Nat.mul_comm, Nat.mul_add_mod, Nat.mod_eq_of_lt hj]
  rw [e1, e2]
  by_cases e : i < H ∧ j < W
  · rw [if_pos ⟨by omega, e.2⟩, if_pos e, linF_at F _ _ e.2]
  · rw [if_neg (by omega), if_neg e]
end

end Go.Proofs.Ytbjdcbnmpmcdiaa
