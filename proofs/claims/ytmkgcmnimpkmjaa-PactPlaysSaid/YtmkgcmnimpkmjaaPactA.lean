/- pact's small functions: slices.Contains, sizeOf, inTwoBytes, isOption, ready, isOn, Us, Him, Sent, Told. Own work. -/
import Derived.Test.YtmkgcmnimpkmjaaPact
namespace Go.Proofs.Ytmkgcmnimpkmjaa
set_option linter.unusedVariables false
set_option linter.unusedSimpArgs false
open Go.RowKit

set_option maxHeartbeats 800000 in
theorem index_any (A : Option Addr) (n c : Nat) (zs : List Int) (x : Int) (w : World) (h : Ints w A n zs) :
    Calls Try.prog 80 #[.slice A n c, .int .i64 x] w fun e w' => ∃ r, e = .returned (.int .i64 r) ∧ (x ∈ zs ∧ 0 ≤ r ∧ r ≤ n ∨ x ∉ zs ∧ r = -1) ∧ w = w' := by
  have hm := h.2.2.2
  unfold maxLen at hm
  have H := Lib.hid h
  clear h
  go_enter Try.func80, Try.ntmps80
  go_wp2
  go_loop [8] (fun i => ∃ k : Nat, k ≤ n ∧ i = .int .i64 k ∧ Hid (x ∉ zs.take k)) (fun i => n - (intOf i).toNat)
  case atStart => exact ⟨0, Nat.zero_le _, rfl, Lib.hid (by simp)⟩
  case round =>
    obtain ⟨k, hk, rfl, hn⟩ := hrel
    by_cases hlt : k < n
    · obtain ⟨y, hy⟩ : ∃ y, zs[k]? = some y := ⟨zs[k]'(by rw [H.out.1]; exact hlt), List.getElem?_eq_getElem _⟩
      obtain ⟨b, off, rfl, hb, hc⟩ := H.out.2.1 (by omega)
      have hcx := hc k y hy
      have HY := Lib.hid hy
      clear hy hc
      by_cases e : x = y
      · subst e
        have HX := Lib.hid (List.mem_of_getElem? HY.out)
        have hk0 : (0 : Int) ≤ (k : Int) := by omega
        go_wp2
        go_ret
        exact ⟨_, rfl, .inl ⟨HX.out, hk0, by omega⟩, rfl⟩
      · have e1 : (x == y) = false := by simpa using e
        have HN := Lib.hid (show x ∉ zs.take (k + 1) by rw [take_next HY.out, List.mem_append]; rintro (q | q); exact hn.out q; exact e (by simpa using q))
        clear e
        go_wp2
        go_round
        case rel => exact ⟨k + 1, by omega, by go_num, HN⟩
        case measure => simp [intOf]; omega
    · have ht : zs.take k = zs := List.take_of_length_le (by rw [H.out.1]; omega)
      have HN : Hid (x ∉ zs) := Lib.hid (by have q := hn.out; rwa [ht] at q)
      clear ht hn
      have hkn : ¬ (k : Int) < (n : Int) := by omega
      go_wp2
      go_ret
      exact ⟨_, rfl, .inr ⟨HN.out, rfl⟩, rfl⟩

theorem contains_any (A : Option Addr) (n c : Nat) (zs : List Int) (x : Int) (w : World) (h : Ints w A n zs) :
    Calls Try.prog 66 #[.slice A n c, .int .i64 x] w fun e w' => e = .returned (.bool (decide (x ∈ zs))) ∧ w = w' := by
  have hm := h.2.2.2
  unfold maxLen at hm
  have H := Lib.hid (index_any A n c zs x w h)
  clear h
  go_enter Try.func66, Try.ntmps66
  go_wp2_with fail
  refine H.out.mono ?_
  rintro e w1 ⟨r, rfl, hr, rfl⟩
  rcases hr with ⟨h1, h2, h3⟩ | ⟨h1, rfl⟩
  · have E := Lib.hid (show decide (x ∈ zs) = true from decide_eq_true h1)
    clear h1 h3
    go_wp2_with fail
    go_ret
    exact ⟨by rw [E.out]; rfl, rfl⟩
  · have E := Lib.hid (show decide (x ∈ zs) = false from decide_eq_false h1)
    clear h1
    go_wp2_with fail
    go_ret
    exact ⟨by rw [E.out]; rfl, rfl⟩

theorem inTwo_any (n : Int) (w : World) :
    Calls Try.prog 43 #[.int .i64 n] w fun e w' => e = .returned (.int .i64 (sz n : Nat)) ∧ w = w' := by
  have E := Lib.hid (show ((sz n : Nat) : Int) = min (max n 0) 65535 by unfold sz; omega)
  go_enter Try.func43, Try.ntmps43
  go_wp2_with fail
  go_ret
  exact ⟨by rw [E.out]; rfl, rfl⟩

theorem sizeOf_any (a b : Int) (w : World) :
    Calls Try.prog 24 #[.int .i64 a, .int .i64 b] w fun e w' => e = .returned (.agg #[.int .i64 (sz a : Nat), .int .i64 (sz b : Nat)]) ∧ Below w.heap.size w w' := by
  go_enter Try.func24, Try.ntmps24
  go_wp2_with fail
  refine (inTwo_any a _).mono ?_
  rintro e w1 ⟨rfl, rfl⟩
  go_wp2_with fail
  refine (inTwo_any b _).mono ?_
  rintro e w1 ⟨rfl, rfl⟩
  go_wp2_with fail
  refine bodyPost_ret (v := .agg #[.int .i64 (sz a : Nat), .int .i64 (sz b : Nat)]) (by simp [results, Try.results24, go_sem]) rfl ⟨rfl, ?_⟩
  repeat (first | exact Below.refl _ _ | (refine Below.setCell ?_ (by simp) _) | (refine Below.alloc ?_ (by simp) _))

theorem pact_isOption (o : Int) (w : World) (h0 : -9223372036854775808 ≤ o) (h1 : o ≤ 9223372036854775807) (b : Bool) (hb : b = decide (0 ≤ o ∧ o ≤ 255)) :
    Calls Try.prog 35 #[.int .i64 o] w fun e w' => e = .returned (.bool b) ∧ w = w' := by
  by_cases h2 : 0 ≤ o
  · by_cases h3 : o ≤ 255
    · rw [decide_eq_true ⟨h2, h3⟩] at hb
      subst hb
      go_enter Try.func35, Try.ntmps35
      go_wp2_with fail
      go_ret
      exact ⟨rfl, rfl⟩
    · rw [decide_eq_false (fun x => h3 x.2)] at hb
      subst hb
      go_enter Try.func35, Try.ntmps35
      go_wp2_with fail
      go_ret
      exact ⟨rfl, rfl⟩
  · rw [decide_eq_false (fun x => h2 x.1)] at hb
    subst hb
    go_enter Try.func35, Try.ntmps35
    go_wp2_with fail
    go_ret
    exact ⟨rfl, rfl⟩

section
variable (p : Nat) (L : Blk) (name : ByteArray) (d l : Int) (m : Pm) (w : World)

theorem pready_any (h : PactAt w p L name d l m) :
    Calls Try.prog 26 #[.pointer (some ⟨p, 0, none⟩)] w fun e w' => e = .returned (.bool true) ∧ w = w' := by
  have c0 := (h.cs 0 _ rfl).1
  clear h
  go_enter Try.func26, Try.ntmps26
  go_wp2_with fail
  go_ret
  exact ⟨rfl, rfl⟩

theorem pready_nil : Calls Try.prog 26 #[.pointer none] w fun e w' => e = .returned (.bool false) ∧ w = w' := by
  go_enter Try.func26, Try.ntmps26
  go_wp2_with fail
  go_ret
  exact ⟨rfl, rfl⟩

/-- Is our side of an option on? -/
theorem isOn_us (o : Int) (ho : (Lit.int .i64 o).wf = true) (b : Bool) (hb : ((m.us o).1 == 1) = b) (h : PactAt w p L name d l m) :
    Calls Try.prog 27 #[.pointer (some ⟨p, 5, none⟩), .int .i64 o] w fun e w' => e = .returned (.bool b) ∧ Below w.heap.size w w' := by
  have c0 := (h.cs 8 _ rfl).1
  have hl := h.m1.look ho
  have H := Lib.hid (fun W => side_on (m.us o).1 (m.us o).2 W b hb)
  generalize (m.us o).1 = s at *
  generalize (m.us o).2 = t at *
  clear h hb ho
  go_enter Try.func27, Try.ntmps27
  go_wp2_with fail
  refine (H.out _).mono ?_
  rintro e w1 ⟨rfl, hw⟩
  have HW := Lib.hid hw
  clear hw
  go_wp2_with fail
  go_ret
  exact ⟨rfl, HW.out⟩

theorem pUs (o : Int) (ho : (Lit.int .i64 o).wf = true) (h : PactAt w p L name d l m) :
    Calls Try.prog 19 #[.pointer (some ⟨p, 0, none⟩), .int .i64 o] w fun e w' => e = .returned (.agg #[.int .i64 (m.us o).1, .bool (m.us o).2]) ∧ Below w.heap.size w w' := by
  have hA := h.alloc (.cells #[.int .i64 0, .bool false] 44)
  have c0 := (hA.cs 8 _ rfl).1
  have c1 := (h.cs 8 _ rfl).1
  have hp := h.lt
  have hl := hA.m1.look ho
  generalize (m.us o).1 = s at *
  generalize (m.us o).2 = t at *
  clear h ho hA
  go_enter Try.func19, Try.ntmps19
  go_wp2_with fail
  refine bodyPost_ret (v := .agg #[.int .i64 s, .bool t]) (by simp [results, Try.results19, go_sem]) rfl ⟨rfl, ?_⟩
  repeat (first | exact Below.refl _ _ | (refine Below.setCell ?_ (by simp) _) | (refine Below.alloc ?_ (by simp) _))

theorem pUs_nil (o : Int) : Calls Try.prog 19 #[.pointer none, .int .i64 o] w fun e w' => e = .returned (.agg #[.int .i64 0, .bool false]) ∧ Below w.heap.size w w' := by
  go_enter Try.func19, Try.ntmps19
  go_wp2_with fail
  refine bodyPost_ret (v := .agg #[.int .i64 0, .bool false]) (by simp [results, Try.results19, go_sem]) rfl ⟨rfl, ?_⟩
  repeat (first | exact Below.refl _ _ | (refine Below.setCell ?_ (by simp) _) | (refine Below.alloc ?_ (by simp) _))

theorem pHim (o : Int) (ho : (Lit.int .i64 o).wf = true) (h : PactAt w p L name d l m) :
    Calls Try.prog 20 #[.pointer (some ⟨p, 0, none⟩), .int .i64 o] w fun e w' => e = .returned (.agg #[.int .i64 (m.him o).1, .bool (m.him o).2]) ∧ Below w.heap.size w w' := by
  have hA := h.alloc (.cells #[.int .i64 0, .bool false] 44)
  have c0 := (hA.cs 12 _ rfl).1
  have c1 := (h.cs 12 _ rfl).1
  have hp := h.lt
  have hl := hA.m2.look ho
  generalize (m.him o).1 = s at *
  generalize (m.him o).2 = t at *
  clear h ho hA
  go_enter Try.func20, Try.ntmps20
  go_wp2_with fail
  refine bodyPost_ret (v := .agg #[.int .i64 s, .bool t]) (by simp [results, Try.results20, go_sem]) rfl ⟨rfl, ?_⟩
  repeat (first | exact Below.refl _ _ | (refine Below.setCell ?_ (by simp) _) | (refine Below.alloc ?_ (by simp) _))

theorem pHim_nil (o : Int) : Calls Try.prog 20 #[.pointer none, .int .i64 o] w fun e w' => e = .returned (.agg #[.int .i64 0, .bool false]) ∧ Below w.heap.size w w' := by
  go_enter Try.func20, Try.ntmps20
  go_wp2_with fail
  refine bodyPost_ret (v := .agg #[.int .i64 0, .bool false]) (by simp [results, Try.results20, go_sem]) rfl ⟨rfl, ?_⟩
  repeat (first | exact Below.refl _ _ | (refine Below.setCell ?_ (by simp) _) | (refine Below.alloc ?_ (by simp) _))

theorem psent (h : PactAt w p L name d l m) :
    Calls Try.prog 18 #[.pointer (some ⟨p, 0, none⟩)] w fun e w' => e = .returned (.int .i64 (m.sent : Int)) ∧ w = w' := by
  have H := Lib.hid (tnow_any p 4 (m.sent : Int) w ⟨(h.cs 4 _ rfl).1, (h.cs 4 _ rfl).2⟩)
  clear h
  go_enter Try.func18, Try.ntmps18
  go_wp2_with fail
  refine H.out.mono ?_
  rintro e w1 ⟨rfl, rfl⟩
  go_wp2_with fail
  go_ret
  exact ⟨rfl, rfl⟩

theorem psent_nil : Calls Try.prog 18 #[.pointer none] w fun e w' => e = .returned (.int .i64 0) ∧ w = w' := by
  go_enter Try.func18, Try.ntmps18
  go_wp2_with fail
  go_ret
  exact ⟨rfl, rfl⟩

theorem ptold (h : PactAt w p L name d l m) :
    Calls Try.prog 17 #[.pointer (some ⟨p, 0, none⟩)] w fun e w' => e = .returned (.tuple #[.int .i64 (m.tw : Int), .int .i64 (m.th : Int), .bool m.told]) ∧ ∃ n, w' = w.drewN n := by
  have c1 := (h.cs 16 _ rfl).1
  have c2 := (h.cs 17 _ rfl).1
  have c3 := (h.cs 18 _ rfl).1
  clear h
  go_enter Try.func17, Try.ntmps17
  go_wp2_with fail
  go_region
  all_goals
    try go_wp2_with fail
    refine bodyPost_ret (v := .tuple #[.int .i64 (m.tw : Int), .int .i64 (m.th : Int), .bool m.told]) (by simp [results, Try.results17, go_sem]) rfl ⟨rfl, _, rfl⟩

theorem ptold_nil : Calls Try.prog 17 #[.pointer none] w fun e w' => e = .returned (.tuple #[.int .i64 0, .int .i64 0, .bool false]) ∧ w = w' := by
  go_enter Try.func17, Try.ntmps17
  go_wp2_with fail
  refine bodyPost_ret (v := .tuple #[.int .i64 0, .int .i64 0, .bool false]) (by simp [results, Try.results17, go_sem]) rfl ⟨rfl, rfl⟩
end

end Go.Proofs.Ytmkgcmnimpkmjaa
