/- The statements' painted: beside the program. Own work. -/
import Derived.Test.YtpmnbfifpenlkaaGreatDoorEmuPrM
import Derived.Test.YtpmnbfifpenlkaaGreatDoorEmuLaw2
namespace Go.Proofs.YtpmnbfifpenlkaaGreatDoor
set_option linter.unusedVariables false
set_option linter.unusedSimpArgs false

theorem goRow_nats (y : Nat) : natsJ [⟨#[27, 91]⟩, bytesN (decN (y + 1)), ⟨#[59, 49, 72]⟩] = goXY (y + 1) 1 := by
  rw [natsJ_eq]
  simp only [List.flatMap_cons, List.flatMap_nil, List.append_nil]
  rw [natsOf_decN, show natsOf ⟨#[27, 91]⟩ = [27, 91] from rfl, show natsOf ⟨#[59, 49, 72]⟩ = [59, 49, 72] from rfl]
  unfold goXY
  rw [show decN 1 = [49] from by rw [decN, if_pos (by omega)]]
  simp
theorem goRow_size (y : Nat) (hy : y + 1 < 100) : sum [⟨#[27, 91]⟩, bytesN (decN (y + 1)), ⟨#[59, 49, 72]⟩] ≤ 20 := by
  have := two_decN hy
  simp only [sum, List.map_cons, List.map_nil, List.foldr_cons, List.foldr_nil, bytesN_size]
  show 2 + ((decN (y + 1)).length + (3 + 0)) ≤ 20
  omega
theorem one_nats (c : Nat) (h : c < 256) : natsJ [bytesN [c]] = [c] := by
  rw [natsJ_eq]
  simp only [List.flatMap_cons, List.flatMap_nil, List.append_nil]
  exact natsOf_bytesN [c] (by intro d hd; simp at hd; omega)
theorem one_size (c : Nat) : sum [bytesN [c]] = 1 := by simp [sum, bytesN_size]
variable {W H x y : Nat} {F : Nat → CellM} {late : Bool}
theorem paint_go (x y0 : Nat) (hW : 2 ≤ W ∧ W ≤ 40) (hH : 1 ≤ H ∧ H ≤ 20) (hy : y < H) : feedM (pAt 0, plM W H F x y0 late 0 H) (natsJ [⟨#[27, 91]⟩, bytesN (decN (y + 1)), ⟨#[59, 49, 72]⟩]) = ((pAt 0, plM W H (rowF (y * W) 0 (fun _ => 97 + y) F) (min 0 (W - 1)) y (decide (0 = W)) 0 H), []) := by
  rw [goRow_nats, rowF_zero, show min 0 (W - 1) = 0 from by omega, show decide (0 = W) = false from by simp; omega]
  exact pl_go 0 y (by omega) hy hW.2 hH.2
theorem paint_letter (n : Nat) (hW : 2 ≤ W ∧ W ≤ 40) (hH : 1 ≤ H ∧ H ≤ 20) (hy : y < H) (hn : n < W) :
    feedM (pAt 0, plM W H (rowF (y * W) n (fun _ => 97 + y) F) (min n (W - 1)) y (decide (n = W)) 0 H) (natsJ [bytesN [97 + y]]) = ((pAt 0, plM W H (rowF (y * W) (n + 1) (fun _ => 97 + y) F) (min (n + 1) (W - 1)) y (decide (n + 1 = W)) 0 H), []) := by
  rw [one_nats _ (by omega), feed_one _ _ (by omega) (by omega), pl_next n (fun _ => 97 + y) (by omega) hn hy hW.1]
/-- Behind n letters of the row j. -/
def paintAt (W H j n : Nat) : EmM := plM W H (rowF (j * W) n (fun _ => 97 + j) (paintF W j (fun _ => blankC))) (min n (W - 1)) j (decide (n = W)) 0 H
theorem paint_at_go (x y0 : Nat) (late : Bool) (hW : 2 ≤ W ∧ W ≤ 40) (hH : 1 ≤ H ∧ H ≤ 20) (hy : y < H) : feedM (pAt 0, plM W H (paintF W y (fun _ => blankC)) x y0 late 0 H) (natsJ [⟨#[27, 91]⟩, bytesN (decN (y + 1)), ⟨#[59, 49, 72]⟩]) = ((pAt 0, paintAt W H y 0), []) := paint_go x y0 hW hH hy
theorem paint_at_letter (n D : Nat) (hD : D = 97 + y) (hW : 2 ≤ W ∧ W ≤ 40) (hH : 1 ≤ H ∧ H ≤ 20) (hy : y < H) (hn : n < W) : feedM (pAt 0, paintAt W H y n) (natsJ [bytesN [D]]) = ((pAt 0, paintAt W H y (n + 1)), []) := by
  subst hD
  exact paint_letter n hW hH hy hn
theorem paint_at_end (j : Nat) (hW : 0 < W) : paintAt W H j W = plM W H (paintF W (j + 1) (fun _ => blankC)) (min W (W - 1)) j (decide (W = W)) 0 H := by
  unfold paintAt
  rw [paint_row j hW]
theorem paint_zero : paintF W 0 F = F := by funext i; unfold paintF; rw [if_neg (by omega)]
/-- string([]byte{c}). -/
theorem letter_str (c : Nat) (h : c < 256) (V : World) : (convert 42 9 (.slice (some ⟨V.heap.size, 0, none⟩) 1 1)).run Tryz.prog (V.alloc (.cells #[.int .u8 (c : Int)] 5)) = .ok (.string (bytesN [c])) (V.alloc (.cells #[.int .u8 (c : Int)] 5)) :=
  bytes_str (W := V.alloc (.cells #[.int .u8 (c : Int)] 5)) (P := Tryz.prog) 42 9 5 [c] #[.int .u8 (c : Int)] V.heap.size 1 (heap_alloc_new V _) rfl (by intro d hd; simp at hd; omega) rfl (by unfold maxLen; omega) Tryz.underlying42 Tryz.underlying5 Tryz.underlying9
theorem u8_small {c : Nat} (h : c < 256) : IntKind.u8.wrap (c : Int) = (c : Int) := by rw [u8_of h, toNat_ofNat h]

end Go.Proofs.YtpmnbfifpenlkaaGreatDoor
