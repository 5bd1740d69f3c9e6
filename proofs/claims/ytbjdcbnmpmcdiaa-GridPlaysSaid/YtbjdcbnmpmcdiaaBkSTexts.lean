/- pontoonbook.Book: texts: marks, what is alike. Own work. -/
import Derived.Test.YtbjdcbnmpmcdiaaBkMark
import Derived.Test.YtbjdcbnmpmcdiaaBookName
namespace Go.Proofs.Ytbjdcbnmpmcdiaa
set_option linter.unusedVariables false
set_option linter.unusedSimpArgs false
open Go.RowKit

def mkTexts (i k : Nat) : List Value := [.string (nameB i k)]
theorem mkshape_Texts (i k : Nat) : ∃ m, mkTexts i k = [.string m] := ⟨_, rfl⟩
theorem mkok_Texts : MarkOk 1 mkTexts := ⟨by decide, fun _ _ => rfl, fun _ _ u hu => by simp [mkTexts] at hu; subst hu; rfl⟩
theorem marks_is_Texts (i f n : Nat) : marksZ mkTexts i f n = (marksT i f n).map Value.string := by
  induction n with
  | zero => rfl
  | succ n ih => rw [marksZ_succ, marksT_succ, List.map_append, ih]; rfl
theorem marks_Texts (i f n : Nat) (w : World) (hi : i ≤ 1000000) (hf : f + n ≤ 1000000) :
    Calls Try.prog 102 #[.int .i64 i, .int .i64 f, .int .i64 n] w fun e w' => ∃ v, e = .returned v ∧ w'.ownsRow w.heap.size 9 1 v n (marksZ mkTexts i f n) ∧ Below w.heap.size w w' := by
  rw [marks_is_Texts]; exact marks_any i f n w hi hf
theorem info_Texts : (Try.prog.info? 9).map (fun i => (i.zero, i.size, i.bytes)) = some (some (.string .empty), 1, 16) := string_info

/-- Two lists of texts are alike. -/
def SmTexts (rd : Nat → Prop) (w : World) (us vs : List Value) : Prop := ∃ xs : List ByteArray, us = xs.map Value.string ∧ vs = xs.map Value.string
theorem smkept_Texts (rd : Nat → Prop) : SmKept (SmTexts rd) rd := fun _ _ _ _ _ _ _ h => h
theorem smmark_Texts (rd : Nat → Prop) (w : World) (i n : Nat) : SmTexts rd w (marksZ mkTexts i 0 n) (marksZ mkTexts i 0 n) := ⟨_, marks_is_Texts i 0 n, marks_is_Texts i 0 n⟩
theorem same'_Texts (rd : Nat → Prop) (A B : Option Addr) (n c d : Nat) (us vs : List Value) (w : World) (hA : Src w A (n * 1) us) (hB : Src w B (n * 1) vs) (h : SmTexts rd w us vs) (hn : n ≤ 1099511627776) :
    Calls Try.prog 93 #[.slice A n c, .slice B n d] w fun e w' => e = .returned (.bool true) ∧ ∃ k, w' = w.drewN k := by
  obtain ⟨xs, rfl, rfl⟩ := h
  rw [Nat.mul_one] at hA hB
  exact same_Texts A B n c d xs w hA hB hn

end Go.Proofs.Ytbjdcbnmpmcdiaa
