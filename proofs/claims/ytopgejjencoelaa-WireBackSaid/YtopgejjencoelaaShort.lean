/- pontoonbook's Short. Own work. -/
import Derived.Test.YtopgejjencoelaaRoom
set_option linter.unusedVariables false
set_option linter.unusedSimpArgs false
namespace Go.Proofs.Ytopgejjencoelaa
set_option linter.unusedVariables false
open Go.RowKit

/-- Are texts few, and together no longer than that? -/
def shortB (few room : Nat) (xs : List ByteArray) : Bool := decide (xs.length ≤ few ∧ sum xs ≤ room)

/-- What is left of the room behind k texts. -/
def leftI (room : Nat) (xs : List ByteArray) : Int := if sum xs ≤ room then (room : Int) - (sum xs : Int) else -1

theorem leftI_bounds (room : Nat) (xs : List ByteArray) : -1 ≤ leftI room xs ∧ leftI room xs ≤ room := by unfold leftI; split <;> omega

theorem leftI_step (room : Nat) (xs : List ByteArray) (x : ByteArray) (h : 0 ≤ leftI room xs) : roomF (leftI room xs) [(x.size : Int)] = leftI room (xs ++ [x]) := by
  have e := sum_snoc xs x
  unfold leftI at h ⊢
  rw [e]
  by_cases h1 : sum xs ≤ room
  · rw [if_pos h1] at h ⊢
    by_cases h2 : (room : Int) - (sum xs : Int) < (x.size : Int)
    · rw [roomF_neg _ _ _ (.inr h2), if_neg (by omega)]
    · rw [roomF_go _ _ _ (by omega) (by omega), if_pos (by omega)]
      show (room : Int) - (sum xs : Int) - (x.size : Int) = _
      omega
  · rw [if_neg h1] at h; omega

theorem leftI_nil (room : Nat) : leftI room [] = room := by
  unfold leftI
  rw [if_pos (by simp [sum])]
  simp [sum]

theorem leftI_neg (room : Nat) (xs : List ByteArray) (k : Nat) (h : leftI room (xs.take k) < 0) : ¬ sum xs ≤ room := by
  have := sum_take xs k
  unfold leftI at h
  split at h
  · omega
  · omega

theorem leftI_iff (room : Nat) (xs : List ByteArray) : (0 ≤ leftI room xs) ↔ sum xs ≤ room := by
  unfold leftI
  split <;> omega

set_option maxRecDepth 100000 in
set_option maxHeartbeats 1600000 in
theorem short_any (few room : Nat) (A : Option Addr) (n c : Nat) (xs : List ByteArray) (w : World) (h : Src w A n (xs.map Value.string)) (hxs : ∀ x ∈ xs, x.size ≤ maxLen) (hf : few ≤ 1000000) (hr : room ≤ 1000000000) (hm : n ≤ maxLen) :
    Calls Try.prog 6 #[.int .i64 few, .int .i64 room, .slice A n c] w fun e w' => e = .returned (.bool (shortB few room xs)) ∧ Below w.heap.size w w' := by
  have H := Lib.hid h
  have hl : xs.length = n := by have := h.1; rwa [List.length_map] at this
  have HL := Lib.hid hl
  have HB := Lib.hid hxs
  unfold maxLen at hm
  clear h hxs
  by_cases hbig : few < n
  · have e : shortB few room xs = false := by unfold shortB; exact decide_eq_false (fun q => by omega)
    rw [e]
    clear e hl
    go_enter Try.func6, Try.ntmps6
    go_wp2_with fail
    go_ret
    exact ⟨rfl, Below.refl _ _⟩
  · have hn6 : n ≤ 1000000 := by omega
    have hd0 : decide ((few : Int) < (n : Int)) = false := by simp; omega
    clear hl
    go_enter Try.func6, Try.ntmps6
    go_wp2_with fail
    go_loopw [1, 7] (fun a i wr => ∃ (k : Nat) (m : Int), i = .int .i64 k ∧ k ≤ n ∧ a = .int .i64 m ∧ -1 ≤ m ∧ m ≤ 1000000000 ∧ Hid (m = leftI room (xs.take k)) ∧ Hid (Below w.heap.size w wr)) (fun _ i _ => n - (intOf i).toNat)
    case atStart => exact ⟨0, room, rfl, by omega, rfl, by omega, by omega, by show (room : Int) = leftI room []; rw [leftI_nil], Below.refl _ _⟩
    case round =>
      obtain ⟨k, m, rfl, hk, rfl, hm0, hm1, HM, HW⟩ := hrel
      by_cases hneg : m < 0
      · have e : shortB few room xs = false := by
          unfold shortB
          exact decide_eq_false (fun q => leftI_neg room xs k (by rw [← HM.out]; exact hneg) q.2)
        have E := Lib.hid e
        have hdm : decide (0 ≤ m) = false := by simp; omega
        clear e
        by_cases hlt : k < n
        all_goals
          go_wp2_with fail
          go_ret
          rw [E.out]
          exact ⟨rfl, HW.out⟩
      · have hdm : decide (0 ≤ m) = true := by simp; omega
        by_cases hlt : k < n
        · obtain ⟨x, hx⟩ : ∃ x, xs[k]? = some x := ⟨xs[k]'(by rw [HL.out]; exact hlt), List.getElem?_eq_getElem _⟩
          obtain ⟨b, o, rfl, hb, hc⟩ := H.out.2 (by omega)
          have hcx : wr.cell? ⟨b, o + k, none⟩ = some (.string x) := (HW.out.cell (p := ⟨b, o + k, none⟩) hb).trans (hc k _ (by rw [List.getElem?_map, hx]; rfl))
          have hxm := HB.out x (List.mem_of_getElem? hx)
          unfold maxLen at hxm
          have e1 : leftI room (xs.take (k + 1)) = roomF m [(x.size : Int)] := by rw [take_next hx, HM.out]; exact (leftI_step room _ x (by rw [← HM.out]; omega)).symm
          have E1 := Lib.hid e1
          have hb2 := leftI_bounds room (xs.take (k + 1))
          rw [e1] at hb2
          have HR := Lib.hid (fun W : World => room_any (some ⟨W.heap.size, 0, none⟩) 1 1 [(x.size : Int)] m (W.alloc (.cells #[.int .i64 x.size] 3)) (slice_new rfl _ _ (fun x => x)) rfl (by intro y hy; rw [List.mem_singleton.1 hy]; omega) hm0 (by omega) (by omega))
          clear hc hx e1
          go_wp2_with fail
          refine (HR.out _).mono ?_
          rintro r w1 ⟨rfl, rfl⟩
          obtain ⟨mm, hmm⟩ : ∃ mm, mm = roomF m [(x.size : Int)] := ⟨_, rfl⟩
          rw [← hmm] at hb2 ⊢
          have HMM := Lib.hid hmm
          clear hmm HR
          go_wp2_with fail
          go_roundw
          case rel => exact ⟨k + 1, mm, by go_num, by omega, rfl, by omega, by omega, (by show mm = _; rw [HMM.out, ← E1.out]), HW.out.alloc HW.out.size _⟩
          case measure => simp [intOf]; omega
        · have e : shortB few room xs = true := by
            unfold shortB
            have h2 := HM.out
            rw [List.take_of_length_le (by rw [HL.out]; omega)] at h2
            exact decide_eq_true ⟨by rw [HL.out]; omega, (leftI_iff room xs).1 (by omega)⟩
          have E := Lib.hid e
          have h0 : (0 : Int) ≤ m := by omega
          clear e
          go_wp2_with fail
          go_ret
          rw [E.out]
          exact ⟨rfl, HW.out⟩

end Go.Proofs.Ytopgejjencoelaa
