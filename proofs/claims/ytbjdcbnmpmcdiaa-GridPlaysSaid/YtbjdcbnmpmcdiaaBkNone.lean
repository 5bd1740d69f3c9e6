/- pontoonbook.Book: kinds of which no list was kept. By program (bknone.py). Own work. -/
import Derived.Test.YtbjdcbnmpmcdiaaBkStage
import Derived.Test.YtbjdcbnmpmcdiaaBookNone
set_option linter.unusedVariables false
set_option linter.unusedSimpArgs false
namespace Go.Proofs.Ytbjdcbnmpmcdiaa
set_option linter.unusedVariables false
open Go.RowKit

theorem none_Texts (w : World) (q N : Nat) (own av : Nat → Prop) (hq : q < w.heap.size) (c : w.cell? ⟨q, 0, none⟩ = some (.slice none 0 0)) : St1 Try.prog 60 70 76 84 0 q N own av w := by
  intro W1 k1
  have c1 := (k1.cell (p := ⟨q, 0, none⟩) hq (fun e => e.2.2 rfl)).trans c
  have q1 := Nat.lt_of_lt_of_le hq k1.size
  refine ⟨(stillTexts_none q W1 c1).mono ?_, (putTexts_none q W1 c1).mono ?_⟩
  · rintro e W2 ⟨rfl, rfl⟩
    exact ⟨rfl, Keep.refl _ _⟩
  rintro e W2 ⟨rfl, rfl⟩
  refine ⟨rfl, Keep.refl _ _, fun W3 k3 => ?_⟩
  have c3 := (k3.cell (p := ⟨q, 0, none⟩) q1 (fun e => e.2.2 rfl)).trans c1
  have q3 := Nat.lt_of_lt_of_le q1 k3.size
  refine (growTexts_none q W3 c3).mono ?_
  rintro e W4 ⟨rfl, rfl⟩
  refine ⟨_, rfl, Keep.refl _ _, fun W5 k5 => ?_⟩
  have c5 := (k5.cell (p := ⟨q, 0, none⟩) q3 (fun e => e.2.2 rfl)).trans c3
  refine ⟨(markedTexts_none W5).mono ?_, _, c5, (markedTexts_none W5).mono ?_⟩
  all_goals
    rintro e W6 ⟨rfl, rfl⟩
    exact ⟨rfl, Keep.refl _ _⟩

theorem none_Ints (w : World) (q N : Nat) (own av : Nat → Prop) (hq : q < w.heap.size) (c : w.cell? ⟨q, 2, none⟩ = some (.slice none 0 0)) : St1 Try.prog 61 71 77 85 2 q N own av w := by
  intro W1 k1
  have c1 := (k1.cell (p := ⟨q, 2, none⟩) hq (fun e => e.2.2 rfl)).trans c
  have q1 := Nat.lt_of_lt_of_le hq k1.size
  refine ⟨(stillInts_none q W1 c1).mono ?_, (putInts_none q W1 c1).mono ?_⟩
  · rintro e W2 ⟨rfl, rfl⟩
    exact ⟨rfl, Keep.refl _ _⟩
  rintro e W2 ⟨rfl, rfl⟩
  refine ⟨rfl, Keep.refl _ _, fun W3 k3 => ?_⟩
  have c3 := (k3.cell (p := ⟨q, 2, none⟩) q1 (fun e => e.2.2 rfl)).trans c1
  have q3 := Nat.lt_of_lt_of_le q1 k3.size
  refine (growInts_none q W3 c3).mono ?_
  rintro e W4 ⟨rfl, rfl⟩
  refine ⟨_, rfl, Keep.refl _ _, fun W5 k5 => ?_⟩
  have c5 := (k5.cell (p := ⟨q, 2, none⟩) q3 (fun e => e.2.2 rfl)).trans c3
  refine ⟨(markedInts_none W5).mono ?_, _, c5, (markedInts_none W5).mono ?_⟩
  all_goals
    rintro e W6 ⟨rfl, rfl⟩
    exact ⟨rfl, Keep.refl _ _⟩

theorem none_Runes (w : World) (q N : Nat) (own av : Nat → Prop) (hq : q < w.heap.size) (c : w.cell? ⟨q, 4, none⟩ = some (.slice none 0 0)) : St1 Try.prog 62 72 78 86 4 q N own av w := by
  intro W1 k1
  have c1 := (k1.cell (p := ⟨q, 4, none⟩) hq (fun e => e.2.2 rfl)).trans c
  have q1 := Nat.lt_of_lt_of_le hq k1.size
  refine ⟨(stillRunes_none q W1 c1).mono ?_, (putRunes_none q W1 c1).mono ?_⟩
  · rintro e W2 ⟨rfl, rfl⟩
    exact ⟨rfl, Keep.refl _ _⟩
  rintro e W2 ⟨rfl, rfl⟩
  refine ⟨rfl, Keep.refl _ _, fun W3 k3 => ?_⟩
  have c3 := (k3.cell (p := ⟨q, 4, none⟩) q1 (fun e => e.2.2 rfl)).trans c1
  have q3 := Nat.lt_of_lt_of_le q1 k3.size
  refine (growRunes_none q W3 c3).mono ?_
  rintro e W4 ⟨rfl, rfl⟩
  refine ⟨_, rfl, Keep.refl _ _, fun W5 k5 => ?_⟩
  have c5 := (k5.cell (p := ⟨q, 4, none⟩) q3 (fun e => e.2.2 rfl)).trans c3
  refine ⟨(markedRunes_none W5).mono ?_, _, c5, (markedRunes_none W5).mono ?_⟩
  all_goals
    rintro e W6 ⟨rfl, rfl⟩
    exact ⟨rfl, Keep.refl _ _⟩

theorem none_Tokens (w : World) (q N : Nat) (own av : Nat → Prop) (hq : q < w.heap.size) (c : w.cell? ⟨q, 6, none⟩ = some (.slice none 0 0)) : St1 Try.prog 63 73 79 87 6 q N own av w := by
  intro W1 k1
  have c1 := (k1.cell (p := ⟨q, 6, none⟩) hq (fun e => e.2.2 rfl)).trans c
  have q1 := Nat.lt_of_lt_of_le hq k1.size
  refine ⟨(stillTokens_none q W1 c1).mono ?_, (putTokens_none q W1 c1).mono ?_⟩
  · rintro e W2 ⟨rfl, rfl⟩
    exact ⟨rfl, Keep.refl _ _⟩
  rintro e W2 ⟨rfl, rfl⟩
  refine ⟨rfl, Keep.refl _ _, fun W3 k3 => ?_⟩
  have c3 := (k3.cell (p := ⟨q, 6, none⟩) q1 (fun e => e.2.2 rfl)).trans c1
  have q3 := Nat.lt_of_lt_of_le q1 k3.size
  refine (growTokens_none q W3 c3).mono ?_
  rintro e W4 ⟨rfl, rfl⟩
  refine ⟨_, rfl, Keep.refl _ _, fun W5 k5 => ?_⟩
  have c5 := (k5.cell (p := ⟨q, 6, none⟩) q3 (fun e => e.2.2 rfl)).trans c3
  refine ⟨(markedTokens_none W5).mono ?_, _, c5, (markedTokens_none W5).mono ?_⟩
  all_goals
    rintro e W6 ⟨rfl, rfl⟩
    exact ⟨rfl, Keep.refl _ _⟩

theorem none_Acts (w : World) (q N : Nat) (own av : Nat → Prop) (hq : q < w.heap.size) (c : w.cell? ⟨q, 8, none⟩ = some (.slice none 0 0)) : St1 Try.prog 64 69 80 88 8 q N own av w := by
  intro W1 k1
  have c1 := (k1.cell (p := ⟨q, 8, none⟩) hq (fun e => e.2.2 rfl)).trans c
  have q1 := Nat.lt_of_lt_of_le hq k1.size
  refine ⟨(stillActs_none q W1 c1).mono ?_, (putActs_none q W1 c1).mono ?_⟩
  · rintro e W2 ⟨rfl, rfl⟩
    exact ⟨rfl, Keep.refl _ _⟩
  rintro e W2 ⟨rfl, rfl⟩
  refine ⟨rfl, Keep.refl _ _, fun W3 k3 => ?_⟩
  have c3 := (k3.cell (p := ⟨q, 8, none⟩) q1 (fun e => e.2.2 rfl)).trans c1
  have q3 := Nat.lt_of_lt_of_le q1 k3.size
  refine (growActs_none q W3 c3).mono ?_
  rintro e W4 ⟨rfl, rfl⟩
  refine ⟨_, rfl, Keep.refl _ _, fun W5 k5 => ?_⟩
  have c5 := (k5.cell (p := ⟨q, 8, none⟩) q3 (fun e => e.2.2 rfl)).trans c3
  refine ⟨(markedActs_none W5).mono ?_, _, c5, (markedActs_none W5).mono ?_⟩
  all_goals
    rintro e W6 ⟨rfl, rfl⟩
    exact ⟨rfl, Keep.refl _ _⟩

theorem none_Cells (w : World) (q N : Nat) (own av : Nat → Prop) (hq : q < w.heap.size) (c : w.cell? ⟨q, 10, none⟩ = some (.slice none 0 0)) : St1 Try.prog 65 74 81 89 10 q N own av w := by
  intro W1 k1
  have c1 := (k1.cell (p := ⟨q, 10, none⟩) hq (fun e => e.2.2 rfl)).trans c
  have q1 := Nat.lt_of_lt_of_le hq k1.size
  refine ⟨(stillCells_none q W1 c1).mono ?_, (putCells_none q W1 c1).mono ?_⟩
  · rintro e W2 ⟨rfl, rfl⟩
    exact ⟨rfl, Keep.refl _ _⟩
  rintro e W2 ⟨rfl, rfl⟩
  refine ⟨rfl, Keep.refl _ _, fun W3 k3 => ?_⟩
  have c3 := (k3.cell (p := ⟨q, 10, none⟩) q1 (fun e => e.2.2 rfl)).trans c1
  have q3 := Nat.lt_of_lt_of_le q1 k3.size
  refine (growCells_none q W3 c3).mono ?_
  rintro e W4 ⟨rfl, rfl⟩
  refine ⟨_, rfl, Keep.refl _ _, fun W5 k5 => ?_⟩
  have c5 := (k5.cell (p := ⟨q, 10, none⟩) q3 (fun e => e.2.2 rfl)).trans c3
  refine ⟨(markedCells_none W5).mono ?_, _, c5, (markedCells_none W5).mono ?_⟩
  all_goals
    rintro e W6 ⟨rfl, rfl⟩
    exact ⟨rfl, Keep.refl _ _⟩

theorem none_Events (w : World) (q N : Nat) (own av : Nat → Prop) (hq : q < w.heap.size) (c : w.cell? ⟨q, 12, none⟩ = some (.slice none 0 0)) : St1 Try.prog 66 75 82 90 12 q N own av w := by
  intro W1 k1
  have c1 := (k1.cell (p := ⟨q, 12, none⟩) hq (fun e => e.2.2 rfl)).trans c
  have q1 := Nat.lt_of_lt_of_le hq k1.size
  refine ⟨(stillEvents_none q W1 c1).mono ?_, (putEvents_none q W1 c1).mono ?_⟩
  · rintro e W2 ⟨rfl, rfl⟩
    exact ⟨rfl, Keep.refl _ _⟩
  rintro e W2 ⟨rfl, rfl⟩
  refine ⟨rfl, Keep.refl _ _, fun W3 k3 => ?_⟩
  have c3 := (k3.cell (p := ⟨q, 12, none⟩) q1 (fun e => e.2.2 rfl)).trans c1
  have q3 := Nat.lt_of_lt_of_le q1 k3.size
  refine (growEvents_none q W3 c3).mono ?_
  rintro e W4 ⟨rfl, rfl⟩
  refine ⟨_, rfl, Keep.refl _ _, fun W5 k5 => ?_⟩
  have c5 := (k5.cell (p := ⟨q, 12, none⟩) q3 (fun e => e.2.2 rfl)).trans c3
  refine ⟨(markedEvents_none W5).mono ?_, _, c5, (markedEvents_none W5).mono ?_⟩
  all_goals
    rintro e W6 ⟨rfl, rfl⟩
    exact ⟨rfl, Keep.refl _ _⟩

theorem none_Steps (w : World) (q N : Nat) (own av : Nat → Prop) (hq : q < w.heap.size) (c : w.cell? ⟨q, 14, none⟩ = some (.slice none 0 0)) : St1 Try.prog 67 68 83 91 14 q N own av w := by
  intro W1 k1
  have c1 := (k1.cell (p := ⟨q, 14, none⟩) hq (fun e => e.2.2 rfl)).trans c
  have q1 := Nat.lt_of_lt_of_le hq k1.size
  refine ⟨(stillSteps_none q W1 c1).mono ?_, (putSteps_none q W1 c1).mono ?_⟩
  · rintro e W2 ⟨rfl, rfl⟩
    exact ⟨rfl, Keep.refl _ _⟩
  rintro e W2 ⟨rfl, rfl⟩
  refine ⟨rfl, Keep.refl _ _, fun W3 k3 => ?_⟩
  have c3 := (k3.cell (p := ⟨q, 14, none⟩) q1 (fun e => e.2.2 rfl)).trans c1
  have q3 := Nat.lt_of_lt_of_le q1 k3.size
  refine (growSteps_none q W3 c3).mono ?_
  rintro e W4 ⟨rfl, rfl⟩
  refine ⟨_, rfl, Keep.refl _ _, fun W5 k5 => ?_⟩
  have c5 := (k5.cell (p := ⟨q, 14, none⟩) q3 (fun e => e.2.2 rfl)).trans c3
  refine ⟨(markedSteps_none W5).mono ?_, _, c5, (markedSteps_none W5).mono ?_⟩
  all_goals
    rintro e W6 ⟨rfl, rfl⟩
    exact ⟨rfl, Keep.refl _ _⟩

end Go.Proofs.Ytbjdcbnmpmcdiaa
