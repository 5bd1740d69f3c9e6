/- pontoonbook.Book: stillTexts, putTexts. Own work. -/
import Derived.Test.YtoihadjboeeglaaBookPutR
import Derived.Deep.QuietTactic
import Derived.BigQuiet
set_option linter.unusedVariables false
set_option linter.unusedSimpArgs false
namespace Go.Proofs.Ytoihadjboeeglaa.Rn
set_option linter.unusedVariables false
open Go.RowKit

theorem drew_drew (w : World) (a b : Nat) : (w.drewN a).drewN b = w.drewN (a + b) := by simp [World.drewN, Nat.add_assoc]

theorem BookT.drewN {w : World} {q : Nat} {own : Nat → Prop} {tA wA : Option Addr} {tc wc : Nat} {its ws : List Item} (h : BookT w q own tA tc wA wc its ws) (n : Nat) : BookT (w.drewN n) q own tA tc wA wc its ws := h.keep (S := fun _ => False) ((Keep.refl _ w).drewN n) (fun _ _ x => x)

set_option maxRecDepth 100000 in
set_option maxHeartbeats 1600000 in
theorem bookT_still (w : World) (q : Nat) (own : Nat → Prop) (tA wA : Option Addr) (tc wc : Nat) (its ws : List Item) (h : BookT w q own tA tc wA wc its ws) (hfew : its.length ≤ 250) :
    Calls Try.prog 30 #[.pointer (some ⟨q, 0, none⟩)] w fun e w' => e = .returned (.bool true) ∧ ∃ k, w' = w.drewN k := by
  obtain ⟨c0, c1, -⟩ := h.cells
  have H := Lib.hid h
  obtain ⟨n, hn⟩ : ∃ n, n = its.length := ⟨_, rfl⟩
  have HN := Lib.hid hn
  rw [← hn] at c0 c1 hfew
  clear h hn
  go_enter Try.func30, Try.ntmps30
  go_wp2_with fail
  go_loopw [3] (fun i wr => ∃ (k p : Nat), i = .int .i64 k ∧ k ≤ n ∧ Hid (wr = w.drewN p)) (fun i _ => n - (intOf i).toNat)
  case atStart => exact ⟨0, 0, rfl, by omega, rfl⟩
  case round =>
    obtain ⟨k, p, rfl, hk, HE⟩ := hrel
    have HR : Hid (BookT wr q own tA tc wA wc its ws) := by
      show BookT _ _ _ _ _ _ _ _ _
      rw [HE.out]; exact H.out.drewN p
    have c0 := HR.out.cells.1
    have c1 := HR.out.cells.2.1
    rw [← HN.out] at c0 c1
    by_cases hlt : k < n
    · obtain ⟨it, hit⟩ : ∃ it, its[k]? = some it := ⟨its[k]'(by rw [← HN.out]; exact hlt), List.getElem?_eq_getElem _⟩
      obtain ⟨wt, hwt⟩ : ∃ wt, ws[k]? = some wt := ⟨ws[k]'(by rw [H.out.lw, ← HN.out]; exact hlt), List.getElem?_eq_getElem _⟩
      obtain ⟨b1, o1, rfl, _, r1⟩ := HR.out.rows.some_of (by rw [← HN.out]; omega)
      obtain ⟨b2, o2, rfl, _, r2⟩ := HR.out.was.some_of (by rw [← HN.out]; omega)
      have x1 : wr.cell? ⟨b1, o1 + k, none⟩ = some (.slice it.A it.n it.c) := r1.val k _ (by rw [List.getElem?_map, hit]; rfl)
      have x2 : wr.cell? ⟨b2, o2 + k, none⟩ = some (.slice wt.A wt.n wt.c) := r2.val k _ (by rw [List.getElem?_map, hwt]; rfl)
      obtain ⟨sn, sx⟩ := H.out.same k it wt hit hwt
      have HS : Hid (∀ j, Calls Try.prog 13 #[.slice it.A it.n it.c, .slice wt.A wt.n wt.c] (wr.drewN j) fun e w' => e = .returned (.bool true) ∧ ∃ k, w' = (wr.drewN j).drewN k) := fun j => by
        have i1 := (HR.out.item it (List.mem_of_getElem? hit))
        have i2 := (HR.out.copy wt (List.mem_of_getElem? hwt))
        have j1 := i1.1.drewN j
        have j2 := i2.drewN j
        rw [sx] at j2
        rw [sn] at j2 ⊢
        exact same_Runes it.A wt.A it.n it.c wt.c it.xs (wr.drewN j) j1.src j2.src (by have := i1.2; omega)
      have hki : ((k : Int) < (n : Int)) := by omega
      have hk0 : (0 : Int) ≤ (k : Int) := by omega
      clear r1 r2 hit hwt sn sx
      go_wp2_with fail
      go_quiet ((go_at_call 13; exact Calls.quiet_of (HS.out _)))
      go_wp2_with fail
      go_roundw
      case rel => exact ⟨k + 1, p + nq, by go_num, by omega, by show _ = _; rw [HE.out]; exact drew_drew w p nq⟩
      case measure => simp [intOf]; omega
    · go_wp2_with fail
      go_ret
      exact ⟨rfl, p, HE.out⟩

end Go.Proofs.Ytoihadjboeeglaa.Rn
