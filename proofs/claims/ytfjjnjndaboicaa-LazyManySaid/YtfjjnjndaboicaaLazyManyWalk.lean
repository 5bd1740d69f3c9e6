/- Law LazyMany: the walk. Own work. By tools/lazymany.gen.py. -/
import Derived.Test.YtfjjnjndaboicaaMany
namespace Go.Proofs.Ytfjjnjndaboicaa
set_option linter.unusedVariables false
open Go.RowKit Go.MuLone

set_option maxRecDepth 100000 in
set_option maxHeartbeats 6400000 in
theorem many_good (A : Option Addr) (n c : Nat) (zs : List ByteArray) (a1 : Int) (w : World) (hz : Strs w A n zs) (h2 : n ≤ 30) (hw : (Lit.int .i64 a1).wf = true) :
    Calls Try.prog 5 #[.slice A n c, .int .i64 a1] w fun e w' => e = .returned (.bool true) ∧ Below w.heap.size w w' := by
  have HZ := Lib.hid hz
  clear hz
  have hmf := run_makeFunc Try.prog
  have hma := make_lazies n h2
  have hmb := make_doors n h2
  have hd3 : decide (30 < (n : Int)) = false := by simp; omega
  obtain ⟨f, hf⟩ : ∃ f : Nat → Int, ∀ k : Nat, f k = wrap64 (a1 + (k : Int)) := ⟨fun k => wrap64 (a1 + (k : Int)), fun _ => rfl⟩
  have HF := Lib.hid hf
  clear hf
  go_enter Try.func5, Try.ntmps5
  go_wp2_with fail
  refine (alive_any _).mono ?_
  rintro r w1 ⟨rfl, hb⟩
  go_wp2_with fail
  go_region_with fail
  · have K := Lib.hid (many_fresh (w0 := w) (w := w1) (w1 := w1) f zs n (w1.heap.size) (w1.heap.size + 1) HZ.out.1 hb (.inl ⟨rfl, rfl, rfl⟩))
    clear hb hma hmb
    (try simp only [Act.put, List.setIfInBounds_toArray, List.set_cons_zero, List.set_cons_succ])
    generalize (World.alloc (World.alloc w1 _) _) = w2 at K ⊢
    generalize w1.heap.size + 1 = pb at K ⊢
    generalize w1.heap.size = pa at K ⊢
    go_wp2_with fail
    go_loopw [7] (fun i wr => ∃ k : Nat, i = .int .i64 k ∧ k ≤ n ∧ Hid (ManyIs w pa pb f zs k k wr)) (fun i _ => n - (intOf i).toNat)
    case atStart => exact ⟨0, rfl, by omega, Lib.hid K.out.drew⟩
    case round =>
      obtain ⟨k, rfl, hk, H1⟩ := hrel
      clear K
      by_cases hlt : k < n
      · obtain ⟨x, hx⟩ : ∃ x, zs[k]? = some x := ⟨zs[k]'(by rw [HZ.out.1]; exact hlt), List.getElem?_eq_getElem _⟩
        obtain ⟨b, off, rfl, hbl, hc⟩ := HZ.out.2.1 (by omega)
        have hcx := (H1.out.below.cell (p := ⟨b, off + k, none⟩) hbl).trans (hc k x hx)
        have hcb := Lib.hid (Cell.box (w := wr) (cs := #[.string x]) (t := 9) 0 rfl)
        have HX := Lib.hid hx
        have H2 := Lib.hid (H1.out.alloc (.cells #[.string x] 9))
        have hkl : k < zs.length := by rw [HZ.out.1]; exact hlt
        have hsa := Lib.hid (show wr.heap.size ≠ pa by have := H1.out.la0; omega)
        have hsb := Lib.hid (show ¬ wr.heap.size = pb by have := H1.out.lb0; omega)
        have d1 := hcb.out.1
        have HKL := Lib.hid hkl
        clear hc hx H1 hkl
        go_wp2_with fail
        go_region_held3 (fun w' => w'.cell? ⟨wr.heap.size, 0, none⟩ = some (.string x)) (first | exact d1 | exact d2 | exact d3 | go_keep) (first
          | (go_at_call 7; refine (H2.out.drew.made_no HKL.out (Nat.lt_irrefl _)).mono ?_; rintro e w5 ⟨rfl, rfl⟩)
          | (go_at_call 11; refine (H2.out.drew.is_no HKL.out (Nat.lt_irrefl _)).mono ?_; rintro e w5 ⟨rfl, rfl⟩)
          | (go_at_call 8; refine (H2.out.drew.get HX.out hcb.out.drew hsa.out).mono ?_; rintro e w6 ⟨rfl, h1, h2⟩; have H3 := Lib.hid h1; have hc3 := Lib.hid h2; have d2 := h2.1; clear h1 h2)
          | (go_at_call 13; refine (H3.out.open_ HKL.out ?_).mono ?_; (rw [HF.out]; first | rfl | exact IntWalk.i64_left _ | exact (IntWalk.i64_left _).symm); rintro e w7 ⟨rfl, h1, h2⟩; have H4 := Lib.hid h1; have d3 := (hc3.out.keep h2 hsb.out).1; clear h1 h2)
          | fail)
        have H5 : Hid (ManyIs w pa pb f zs (k + 1) (k + 1) w7) := by assumption
        clear d1 d2 d3 H2 H3 H4 hc3 hcb hsb hsa hcx
        go_wp2_with fail
        obtain ⟨wo, rfl⟩ : ∃ wo : World, wo = wr := ⟨_, rfl⟩
        go_loopw [9] (fun i wr2 => ∃ m : Nat, i = .int .i64 m ∧ m ≤ n ∧ Hid (ManyIs w pa pb f zs (k + 1) (k + 1) wr2)) (fun i _ => n - (intOf i).toNat)
        case atStart => exact ⟨0, rfl, by omega, H5⟩
        case round =>
          obtain ⟨m, rfl, hm, H6⟩ := hrel
          clear H5
          by_cases hmt : m < n
          · obtain ⟨y, hy⟩ : ∃ y, zs[m]? = some y := ⟨zs[m]'(by rw [HZ.out.1]; exact hmt), List.getElem?_eq_getElem _⟩
            obtain ⟨b', off', e', hbl', hc⟩ := HZ.out.2.1 (by omega)
            injection e' with e'
            injection e' with e1 e2 _
            subst e1 e2
            have rd : ∀ W, Below w.heap.size w W → W.cell? ⟨b, off + m, none⟩ = some (.string y) := fun W hW => (hW.cell (p := ⟨b, off + m, none⟩) hbl).trans (hc m y hy)
            have RD := Lib.hid rd
            have HY := Lib.hid hy
            have HML := Lib.hid (show m < zs.length by rw [HZ.out.1]; exact hmt)
            by_cases hle : m ≤ k
            · have hlt' := Lib.hid (show m < k + 1 by omega)
              have hde : decide (m ≤ k) = true := by simpa using hle
              have hsum : IntKind.i64.wrap (a1 + (m : Int)) = f m := by rw [HF.out]; exact IntWalk.i64_left _
              have d1 := rd wr H6.out.below
              clear rd hc hy
              go_wp2_with fail
              go_region_held3 (fun w' => w'.cell? ⟨b, off + m, none⟩ = some (.string y)) (first | exact d1 | exact d2 | go_keep) (first
                | (go_at_call 7; refine (H6.out.drew.made_yes HML.out hlt'.out).mono ?_; rintro e w5 ⟨rfl, rfl⟩)
                | (go_at_call 11; refine (H6.out.drew.is_yes HML.out hlt'.out).mono ?_; rintro e w5 ⟨rfl, rfl⟩)
                | (go_at_call 8; refine (H6.out.drew.getNil HY.out hlt'.out).mono ?_; rintro e w6 ⟨rfl, h1⟩; have H7 := Lib.hid h1; have d2 := RD.out w6 h1.below; clear h1)
                | (go_at_call 12; refine (H7.out.who HML.out hlt'.out).mono ?_; rintro e w7 ⟨rfl, rfl⟩)
                | fail)
              have H8 : Hid (ManyIs w pa pb f zs (k + 1) (k + 1) w6) := by assumption
              clear d1 d2 H6 H7
              go_wp2_with fail
              go_roundw
              case rel => exact ⟨m + 1, by go_num, by omega, H8⟩
              case measure => simp [intOf]; omega
            · have hlt' := Lib.hid (show ¬ m < k + 1 by omega)
              have hde : decide (m ≤ k) = false := by simpa using hle
              clear rd hc hy
              go_wp2_with fail
              go_quiet (first
                | (go_at_call 7; exact Calls.quiet_of_same (((H6.out.drewN _).made_no HML.out hlt'.out).mono fun e w' ⟨a, b⟩ => ⟨a, b.symm⟩))
                | (go_at_call 11; exact Calls.quiet_of_same (((H6.out.drewN _).is_no HML.out hlt'.out).mono fun e w' ⟨a, b⟩ => ⟨a, b.symm⟩)))
              have H8 := Lib.hid (H6.out.drewN nq)
              clear H6
              go_wp2_with fail
              go_roundw
              case rel => exact ⟨m + 1, by go_num, by omega, H8⟩
              case measure => simp [intOf]; omega
          · go_wp2_with fail
            go_roundw
            case rel => exact ⟨k + 1, by go_num, by omega, H6⟩
            case measure => simp [intOf]; omega
      · go_wp2_with fail
        go_ret
        exact ⟨rfl, H1.out.below⟩
  · have K := Lib.hid (many_fresh (w0 := w) (w := w1) (w1 := w1) f zs n (w1.heap.size + 1) (w1.heap.size) HZ.out.1 hb (.inr ⟨rfl, rfl, rfl⟩))
    clear hb hma hmb
    (try simp only [Act.put, List.setIfInBounds_toArray, List.set_cons_zero, List.set_cons_succ])
    generalize (World.alloc (World.alloc w1 _) _) = w2 at K ⊢
    generalize w1.heap.size + 1 = pa at K ⊢
    generalize w1.heap.size = pb at K ⊢
    go_wp2_with fail
    go_loopw [7] (fun i wr => ∃ k : Nat, i = .int .i64 k ∧ k ≤ n ∧ Hid (ManyIs w pa pb f zs k k wr)) (fun i _ => n - (intOf i).toNat)
    case atStart => exact ⟨0, rfl, by omega, Lib.hid K.out.drew⟩
    case round =>
      obtain ⟨k, rfl, hk, H1⟩ := hrel
      clear K
      by_cases hlt : k < n
      · obtain ⟨x, hx⟩ : ∃ x, zs[k]? = some x := ⟨zs[k]'(by rw [HZ.out.1]; exact hlt), List.getElem?_eq_getElem _⟩
        obtain ⟨b, off, rfl, hbl, hc⟩ := HZ.out.2.1 (by omega)
        have hcx := (H1.out.below.cell (p := ⟨b, off + k, none⟩) hbl).trans (hc k x hx)
        have hcb := Lib.hid (Cell.box (w := wr) (cs := #[.string x]) (t := 9) 0 rfl)
        have HX := Lib.hid hx
        have H2 := Lib.hid (H1.out.alloc (.cells #[.string x] 9))
        have hkl : k < zs.length := by rw [HZ.out.1]; exact hlt
        have hsa := Lib.hid (show wr.heap.size ≠ pa by have := H1.out.la0; omega)
        have hsb := Lib.hid (show ¬ wr.heap.size = pb by have := H1.out.lb0; omega)
        have d1 := hcb.out.1
        have HKL := Lib.hid hkl
        clear hc hx H1 hkl
        go_wp2_with fail
        go_region_held3 (fun w' => w'.cell? ⟨wr.heap.size, 0, none⟩ = some (.string x)) (first | exact d1 | exact d2 | exact d3 | go_keep) (first
          | (go_at_call 7; refine (H2.out.drew.made_no HKL.out (Nat.lt_irrefl _)).mono ?_; rintro e w5 ⟨rfl, rfl⟩)
          | (go_at_call 11; refine (H2.out.drew.is_no HKL.out (Nat.lt_irrefl _)).mono ?_; rintro e w5 ⟨rfl, rfl⟩)
          | (go_at_call 8; refine (H2.out.drew.get HX.out hcb.out.drew hsa.out).mono ?_; rintro e w6 ⟨rfl, h1, h2⟩; have H3 := Lib.hid h1; have hc3 := Lib.hid h2; have d2 := h2.1; clear h1 h2)
          | (go_at_call 13; refine (H3.out.open_ HKL.out ?_).mono ?_; (rw [HF.out]; first | rfl | exact IntWalk.i64_left _ | exact (IntWalk.i64_left _).symm); rintro e w7 ⟨rfl, h1, h2⟩; have H4 := Lib.hid h1; have d3 := (hc3.out.keep h2 hsb.out).1; clear h1 h2)
          | fail)
        have H5 : Hid (ManyIs w pa pb f zs (k + 1) (k + 1) w7) := by assumption
        clear d1 d2 d3 H2 H3 H4 hc3 hcb hsb hsa hcx
        go_wp2_with fail
        obtain ⟨wo, rfl⟩ : ∃ wo : World, wo = wr := ⟨_, rfl⟩
        go_loopw [9] (fun i wr2 => ∃ m : Nat, i = .int .i64 m ∧ m ≤ n ∧ Hid (ManyIs w pa pb f zs (k + 1) (k + 1) wr2)) (fun i _ => n - (intOf i).toNat)
        case atStart => exact ⟨0, rfl, by omega, H5⟩
        case round =>
          obtain ⟨m, rfl, hm, H6⟩ := hrel
          clear H5
          by_cases hmt : m < n
          · obtain ⟨y, hy⟩ : ∃ y, zs[m]? = some y := ⟨zs[m]'(by rw [HZ.out.1]; exact hmt), List.getElem?_eq_getElem _⟩
            obtain ⟨b', off', e', hbl', hc⟩ := HZ.out.2.1 (by omega)
            injection e' with e'
            injection e' with e1 e2 _
            subst e1 e2
            have rd : ∀ W, Below w.heap.size w W → W.cell? ⟨b, off + m, none⟩ = some (.string y) := fun W hW => (hW.cell (p := ⟨b, off + m, none⟩) hbl).trans (hc m y hy)
            have RD := Lib.hid rd
            have HY := Lib.hid hy
            have HML := Lib.hid (show m < zs.length by rw [HZ.out.1]; exact hmt)
            by_cases hle : m ≤ k
            · have hlt' := Lib.hid (show m < k + 1 by omega)
              have hde : decide (m ≤ k) = true := by simpa using hle
              have hsum : IntKind.i64.wrap (a1 + (m : Int)) = f m := by rw [HF.out]; exact IntWalk.i64_left _
              have d1 := rd wr H6.out.below
              clear rd hc hy
              go_wp2_with fail
              go_region_held3 (fun w' => w'.cell? ⟨b, off + m, none⟩ = some (.string y)) (first | exact d1 | exact d2 | go_keep) (first
                | (go_at_call 7; refine (H6.out.drew.made_yes HML.out hlt'.out).mono ?_; rintro e w5 ⟨rfl, rfl⟩)
                | (go_at_call 11; refine (H6.out.drew.is_yes HML.out hlt'.out).mono ?_; rintro e w5 ⟨rfl, rfl⟩)
                | (go_at_call 8; refine (H6.out.drew.getNil HY.out hlt'.out).mono ?_; rintro e w6 ⟨rfl, h1⟩; have H7 := Lib.hid h1; have d2 := RD.out w6 h1.below; clear h1)
                | (go_at_call 12; refine (H7.out.who HML.out hlt'.out).mono ?_; rintro e w7 ⟨rfl, rfl⟩)
                | fail)
              have H8 : Hid (ManyIs w pa pb f zs (k + 1) (k + 1) w6) := by assumption
              clear d1 d2 H6 H7
              go_wp2_with fail
              go_roundw
              case rel => exact ⟨m + 1, by go_num, by omega, H8⟩
              case measure => simp [intOf]; omega
            · have hlt' := Lib.hid (show ¬ m < k + 1 by omega)
              have hde : decide (m ≤ k) = false := by simpa using hle
              clear rd hc hy
              go_wp2_with fail
              go_quiet (first
                | (go_at_call 7; exact Calls.quiet_of_same (((H6.out.drewN _).made_no HML.out hlt'.out).mono fun e w' ⟨a, b⟩ => ⟨a, b.symm⟩))
                | (go_at_call 11; exact Calls.quiet_of_same (((H6.out.drewN _).is_no HML.out hlt'.out).mono fun e w' ⟨a, b⟩ => ⟨a, b.symm⟩)))
              have H8 := Lib.hid (H6.out.drewN nq)
              clear H6
              go_wp2_with fail
              go_roundw
              case rel => exact ⟨m + 1, by go_num, by omega, H8⟩
              case measure => simp [intOf]; omega
          · go_wp2_with fail
            go_roundw
            case rel => exact ⟨k + 1, by go_num, by omega, H6⟩
            case measure => simp [intOf]; omega
      · go_wp2_with fail
        go_ret
        exact ⟨rfl, H1.out.below⟩

set_option maxRecDepth 100000 in
set_option maxHeartbeats 1600000 in
theorem walk_LazyMany (A : Option Addr) (n c : Nat) (zs : List ByteArray) (a1 : Int) (w1 : (Lit.int .i64 a1).wf = true) (w : World) (hz : Strs w A n zs) :
    Calls Try.prog 5 #[.slice A n c, .int .i64 a1] w fun e w' => e = .returned (.bool true) ∧ Below w.heap.size w w' := by
  have hm := hz.2.2.2
  unfold maxLen at hm
  by_cases h3 : 30 < (n : Int)
  · clear hz w1
    go_enter Try.func5, Try.ntmps5
    go_wp2_with fail
    refine (alive_any _).mono ?_
    rintro r w1 ⟨rfl, hb⟩
    go_wp2_with fail
    go_ret
    exact ⟨rfl, hb⟩
  exact many_good A n c zs a1 w hz (by omega) w1

end Go.Proofs.Ytfjjnjndaboicaa
