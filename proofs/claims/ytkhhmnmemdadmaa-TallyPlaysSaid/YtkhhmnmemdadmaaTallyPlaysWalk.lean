/- Law TallyPlays: the walk. Own work. -/
import Derived.Test.YtkhhmnmemdadmaaTallyOps
import Derived.Test.YtkhhmnmemdadmaaBookI
import Derived.Deep.QuietTactic
import Derived.BigQuiet
namespace Go.Proofs.Ytkhhmnmemdadmaa
set_option linter.unusedVariables false
open Go.RowKit

theorem src_of_ints {w w' : World} {A : Option Addr} {n : Nat} {xs : List Int} (h : Ints w A n xs) (k : Below w.heap.size w w') : Src w' A n (xs.map (Value.int .i64)) := (src_ints h).below k

theorem Lent.on {S : Nat → Prop} {w w' : World} {e : TypeId} {g c : Nat} {us : List Value} {mark : Value} (h : Lent w e g c us mark) (k : Keep S w w') (hn : ¬ S g) : Lent w' e g c us mark := h.keep k hn

/-- A lent list is numbers that are read. -/
theorem lent_ints {w : World} {e : TypeId} {g c n : Nat} {xs : List Int} {mark : Value} (h : Lent w e g c (xs.map (Value.int .i64)) mark) (hn : xs.length = n) (hx : ∀ x ∈ xs, -9223372036854775808 ≤ x ∧ x ≤ 9223372036854775807) (hm : n ≤ maxLen) : Ints w (some ⟨g, 0, none⟩) n xs :=
  ⟨hn, fun _ => ⟨g, 0, rfl, h.lt, fun i x hi => by
    rw [Nat.zero_add]
    exact h.cells i _ (by rw [List.getElem?_map, hi]; rfl)⟩, hx, hm⟩

theorem keep_drew' {S : Nat → Prop} {w w' : World} (h : Keep S w.drew w') : Keep S w w' := ⟨h.os, h.tape, h.output, h.size, h.block⟩

theorem tot_all {now : Int} {L : List Int} {k : Nat} {x : Int} (h : L[k]? = some x) : wrap64 (wrap64 (now + tot (L.take k)) + x) = wrap64 (now + tot (L.take (k + 1))) := by
  rw [tot_next h, wrap64_add, wrap64_add', Int.add_assoc]

set_option maxRecDepth 100000 in
set_option maxHeartbeats 12800000 in
theorem plays_good (A : Option Addr) (n cap : Nat) (ops : List OpV) (w : World) (hops : Structs (OpAt w) 4 w A n ops) (h2 : n ≤ 60) :
    Calls Try.prog 3 #[.slice A n cap] w fun e w' => e = .returned (.bool true) ∧ Below w.heap.size w w' := by
  have HO := Lib.hid hops
  have hd1 : decide (60 < (n : Int)) = false := by simp; omega
  clear hops
  go_enter Try.func3, Try.ntmps3
  go_wp2_with fail
  refine (talive_any _).mono ?_
  rintro r w1 ⟨rfl, hb⟩
  have k1 := TalIs.made hb (.cells #[.int .i64 0] 31) rfl _ rfl
  have H1 := Lib.hid k1
  clear k1 hb
  obtain ⟨p, hp⟩ : ∃ p, p = w1.heap.size := ⟨_, rfl⟩
  rw [← hp] at H1
  go_wp2_with fail
  rw [← hp]
  clear hp
  go_loopw [4, 5] (fun v i wr => ∃ (k : Nat) (now : Int), i = .int .i64 k ∧ v = .int .i64 now ∧ k ≤ n ∧ (-9223372036854775808 ≤ now ∧ now ≤ 9223372036854775807) ∧ Hid (TalIs w p now wr)) (fun _ i _ => n - (intOf i).toNat)
  case atStart => exact ⟨0, 0, rfl, rfl, by omega, by omega, H1⟩
  case round =>
    obtain ⟨k, now, rfl, rfl, hk, hnow, HR⟩ := hrel
    clear H1
    by_cases hlt : k < n
    · obtain ⟨b, off, o, rfl, hbl, _, ho⟩ := HO.out.at hlt
      obtain ⟨ho0, ho1, ho2, ⟨TA, tc, ho3, hT⟩, hbk, hbn, hbm⟩ := ho
      have HT := Lib.hid hT
      have c0 := (HR.out.below.cell (p := ⟨b, off + k * 4, none⟩) hbl).trans ho0
      have c1 := (HR.out.below.cell (p := ⟨b, off + k * 4 + 1, none⟩) hbl).trans ho1
      have c2 := (HR.out.below.cell (p := ⟨b, off + k * 4 + 2, none⟩) hbl).trans ho2
      have c3 := (HR.out.below.cell (p := ⟨b, off + k * 4 + 3, none⟩) hbl).trans ho3
      have htm := hT.2.2.2
      unfold maxLen at htm
      clear ho0 ho1 ho2 ho3 hT
      obtain ⟨g, hg⟩ : ∃ g, g = wr.heap.size := ⟨_, rfl⟩
      have hpg : p < g := by rw [hg]; exact HR.out.1.lt
      by_cases hbig : 20 < o.L.length
      · go_wp2_with fail
        go_ret
        exact ⟨rfl, HR.out.below.alloc HR.out.below.size _⟩
      · have HR2 := Lib.hid (HR.out.alloc (.cells #[.int .i64 o.kind, .int .i64 o.n, .int .i64 o.m, .slice TA o.L.length tc] 34))
        have G2 := Lib.hid (heap_alloc_new wr (.cells #[.int .i64 o.kind, .int .i64 o.n, .int .i64 o.m, .slice TA o.L.length tc] 34))
        have HL := Lib.hid (lent_Ints TA o.L.length tc o.L _ (src_of_ints HT.out HR2.out.below) (by omega))
        rw [← hg] at G2
        go_wp2_with fail
        rw [← hg]
        refine HL.out.mono ?_
        rintro r w4 ⟨lg, c', rfl, hl1, hl2, hl3⟩
        have L4 := Lib.hid hl1
        have hlg : g < lg := by rw [hg]; simp at hl2; omega
        have R4 := Lib.hid (HR2.out.keep (Keep.of_below (fun _ => False) hl3) (fun x => x) (fun _ _ x => x))
        have G4 := Lib.hid ((Keep.of_below (fun _ => False) hl3).heap G2.out (fun x => x))
        clear hl1 hl2 hl3 HL HR2 G2 hg c0 c1 c2 c3 HR
        have d0 := cell_at G4.out 0
        have d1 := cell_at G4.out 1
        have d2 := cell_at G4.out 2
        have d3 := cell_at G4.out 3
        simp only [List.getElem?_toArray, List.getElem?_cons_zero, List.getElem?_cons_succ] at d0 d1 d2 d3
        have hz := lent_ints L4.out rfl HT.out.2.2.1 HT.out.2.2.2
        have HZ := Lib.hid hz
        clear hz
        by_cases hk1 : o.kind = 1
        · have t0 : (o.kind == 1) = true := by rw [hk1]; rfl
          clear hk1
          go_wp2_with fail
          go_loop [4, 10] (fun v i => ∃ (j : Nat) (a : Int), i = .int .i64 j ∧ v = .int .i64 a ∧ j ≤ o.L.length ∧ (-9223372036854775808 ≤ a ∧ a ≤ 9223372036854775807) ∧ Hid (a = wrap64 (now + tot (o.L.take j)))) (fun _ i => o.L.length - (intOf i).toNat)
          case atStart => exact ⟨0, now, rfl, rfl, by omega, hnow, by show now = _; rw [List.take_zero, tot_nil, Int.add_zero, wrap64_id hnow.1 hnow.2]⟩
          case round =>
            obtain ⟨j, a, rfl, rfl, hj, ha, HA⟩ := hrel
            by_cases hjl : j < o.L.length
            · obtain ⟨x, hx⟩ : ∃ x, o.L[j]? = some x := ⟨o.L[j]'hjl, List.getElem?_eq_getElem _⟩
              obtain ⟨b2, off2, rfl, hb2, hc2⟩ := HT.out.2.1 (by omega)
              have hcx := (R4.out.below.cell (p := ⟨b2, off2 + j, none⟩) hb2).trans (hc2 j x hx)
              have HX : Hid (wrap64 (a + x) = wrap64 (now + tot (o.L.take (j + 1)))) := by show _ = _; rw [HA.out]; exact tot_all hx
              clear hc2 hx HA
              go_wp2_with fail
              go_round
              case rel => exact ⟨j + 1, _, by go_num, rfl, by omega, wrap64_bd _, HX⟩
              case measure => simp [intOf]; omega
            · have HE : Hid (wrap64 (now + tot o.L) = a) := by
                show _ = _
                rw [HA.out, List.take_of_length_le (by omega)]
              clear HA
              go_wp2_with fail
              refine (tisAdd R4.out o.L HZ.out).mono ?_
              rw [HE.out]
              rintro r w5 ⟨rfl, q1, q2⟩
              have HR5 := Lib.hid q1
              have L5 := Lib.hid (L4.out.on q2 (by omega))
              have G5 := Lib.hid (q2.heap G4.out (by omega))
              have d3 := cell_at G5.out 3
              simp only [List.getElem?_toArray, List.getElem?_cons_zero, List.getElem?_cons_succ] at d3
              clear q1 q2
              go_wp2_with fail
              refine (tisNow HR5.out).mono ?_
              rintro r w6 ⟨rfl, rfl⟩
              go_wp2_with fail
              refine (stays_Ints lg c' TA o.L.length tc o.L _ L5.out (src_of_ints HT.out HR5.out.below) (by omega)).mono ?_
              rintro r w6 ⟨rfl, q8, rfl⟩
              go_wp2_with fail
              go_roundw
              case rel => exact ⟨k + 1, _, by go_num, rfl, by omega, ha, (HR5.out.drewN _)⟩
              case measure => simp [intOf]; omega
        by_cases hk2 : o.kind = 2
        · have t0 : (o.kind == 1) = false := by rw [hk2]; rfl
          have t00 : (o.kind == 2) = true := by rw [hk2]; rfl
          clear hk1 hk2
          go_wp2_with fail
          go_loop [4, 11] (fun v i => ∃ (j : Nat) (a : Int), i = .int .i64 j ∧ v = .int .i64 a ∧ j ≤ o.L.length ∧ (-9223372036854775808 ≤ a ∧ a ≤ 9223372036854775807) ∧ Hid (a = most now (o.L.take j))) (fun _ i => o.L.length - (intOf i).toNat)
          case atStart => exact ⟨0, now, rfl, rfl, by omega, hnow, rfl⟩
          case round =>
            obtain ⟨j, a, rfl, rfl, hj, ha, HA⟩ := hrel
            by_cases hjl : j < o.L.length
            · obtain ⟨x, hx⟩ : ∃ x, o.L[j]? = some x := ⟨o.L[j]'hjl, List.getElem?_eq_getElem _⟩
              obtain ⟨b2, off2, rfl, hb2, hc2⟩ := HT.out.2.1 (by omega)
              have hcx := (R4.out.below.cell (p := ⟨b2, off2 + j, none⟩) hb2).trans (hc2 j x hx)
              have bx := HT.out.2.2.1 x (List.mem_of_getElem? hx)
              have HX : Hid (max a x = most now (o.L.take (j + 1))) := by show _ = _; rw [HA.out]; exact (most_next now hx).symm
              have hbd : -9223372036854775808 ≤ max a x ∧ max a x ≤ 9223372036854775807 := by omega
              have HBD := Lib.hid hbd
              clear hc2 hx HA hbd
              go_wp2_with fail
              go_round
              case rel => exact ⟨j + 1, _, by go_num, rfl, by omega, HBD.out, HX⟩
              case measure => simp [intOf]; omega
            · have HE : Hid (most now o.L = a) := by
                show _ = _
                rw [HA.out, List.take_of_length_le (by omega)]
              clear HA
              go_wp2_with fail
              refine (tisTop R4.out o.L HZ.out).mono ?_
              rw [HE.out]
              rintro r w5 ⟨rfl, q1, q2⟩
              have HR5 := Lib.hid q1
              have L5 := Lib.hid (L4.out.on q2 (by omega))
              have G5 := Lib.hid (q2.heap G4.out (by omega))
              have d3 := cell_at G5.out 3
              simp only [List.getElem?_toArray, List.getElem?_cons_zero, List.getElem?_cons_succ] at d3
              clear q1 q2
              go_wp2_with fail
              refine (tisNow HR5.out).mono ?_
              rintro r w6 ⟨rfl, rfl⟩
              go_wp2_with fail
              refine (stays_Ints lg c' TA o.L.length tc o.L _ L5.out (src_of_ints HT.out HR5.out.below) (by omega)).mono ?_
              rintro r w6 ⟨rfl, q8, rfl⟩
              go_wp2_with fail
              go_roundw
              case rel => exact ⟨k + 1, _, by go_num, rfl, by omega, ha, (HR5.out.drewN _)⟩
              case measure => simp [intOf]; omega
        by_cases hk3 : o.kind = 3
        · have t0 : (o.kind == 1) = false := by rw [hk3]; rfl
          have t00 : (o.kind == 2) = false := by rw [hk3]; rfl
          have t000 : (o.kind == 3) = true := by rw [hk3]; rfl
          clear hk1 hk2 hk3
          go_wp2_with fail
          refine (tisSwap R4.out o.n).mono ?_
          rintro r w5 ⟨rfl, q1, q2⟩
          have HR5 := Lib.hid q1
          have L5 := Lib.hid (L4.out.on q2 (by omega))
          have G5 := Lib.hid (q2.heap G4.out (by omega))
          have d3 := cell_at G5.out 3
          simp only [List.getElem?_toArray, List.getElem?_cons_zero, List.getElem?_cons_succ] at d3
          clear q1 q2
          go_wp2_with fail
          refine (tisNow HR5.out).mono ?_
          rintro r w6 ⟨rfl, rfl⟩
          go_wp2_with fail
          refine (stays_Ints lg c' TA o.L.length tc o.L _ L5.out (src_of_ints HT.out HR5.out.below) (by omega)).mono ?_
          rintro r w6 ⟨rfl, q8, rfl⟩
          go_wp2_with fail
          go_roundw
          case rel => exact ⟨k + 1, _, by go_num, rfl, by omega, hbn, (HR5.out.drewN _)⟩
          case measure => simp [intOf]; omega
        · have t0 : (o.kind == 1) = false := by rw [beq_eq_false_iff_ne]; exact hk1
          have t00 : (o.kind == 2) = false := by rw [beq_eq_false_iff_ne]; exact hk2
          have t000 : (o.kind == 3) = false := by rw [beq_eq_false_iff_ne]; exact hk3
          clear hk1 hk2 hk3
          by_cases hw : now = o.n
          · have s0 : (now == o.n) = true := by rw [hw]; simp
            have hif : Hid (∀ W, TalIs w p now W → Calls Try.prog 11 #[.pointer (some ⟨p, 0, none⟩), .int .i64 o.n, .int .i64 o.m] W fun e w' => e = .returned (.bool true) ∧ TalIs w p o.m w' ∧ Keep (· = p) W w') := fun W hW => by
              rw [hw] at hW
              exact (tif_hit p 0 o.n o.m W hW.1).mono fun e w' ⟨h1, h2⟩ => ⟨h1, hW.set h2, h2.keep⟩
            clear hw
            go_wp2_with fail
            go_region_held3 (fun w' => w'.cell? ⟨g, 1, none⟩ = some (.int .i64 o.n) ∧ w'.cell? ⟨g, 2, none⟩ = some (.int .i64 o.m)) (first | exact ⟨d1, d2⟩ | exact ⟨d1', d2'⟩ | go_keep) (first | (go_at_call 11; refine (hif.out _ ?_).mono ?_; (first | exact R4.out | exact R4.out.drewN 1); rintro r w5 ⟨rfl, q1', q2'⟩; have Q1 := Lib.hid q1'; have Q2 := Lib.hid (keep_drew' q2'); have d1' := (Q2.out.cell (p := ⟨g, 1, none⟩) (lt_heap G4.out) (show ¬ g = p by omega)).trans d1; have d2' := (Q2.out.cell (p := ⟨g, 2, none⟩) (lt_heap G4.out) (show ¬ g = p by omega)).trans d2; clear q1' q2'))
            have q1 := Q1.out
            have q2 : Keep (· = p) w4 w5 := Q2.out
            clear Q1 Q2
            have HR5 := Lib.hid q1
            have L5 := Lib.hid (L4.out.on q2 (by omega))
            have G5 := Lib.hid (q2.heap G4.out (by omega))
            have d3 := cell_at G5.out 3
            simp only [List.getElem?_toArray, List.getElem?_cons_zero, List.getElem?_cons_succ] at d3
            clear q1 q2
            go_wp2_with fail
            refine (tisNow HR5.out).mono ?_
            rintro r w6 ⟨rfl, rfl⟩
            go_wp2_with fail
            refine (stays_Ints lg c' TA o.L.length tc o.L _ L5.out (src_of_ints HT.out HR5.out.below) (by omega)).mono ?_
            rintro r w6 ⟨rfl, q8, rfl⟩
            go_wp2_with fail
            go_roundw
            case rel => exact ⟨k + 1, _, by go_num, rfl, by omega, hbm, (HR5.out.drewN _)⟩
            case measure => simp [intOf]; omega
          · have s0 : (now == o.n) = false := by rw [beq_eq_false_iff_ne]; exact hw
            have hif : Hid (∀ j, Calls Try.prog 11 #[.pointer (some ⟨p, 0, none⟩), .int .i64 o.n, .int .i64 o.m] (w4.drewN j) fun e w' => e = .returned (.bool false) ∧ ∃ k, w' = (w4.drewN j).drewN k) := fun j =>
              (tif_miss p 0 now o.m o.n (w4.drewN j) (R4.out.drewN j).1 (by omega)).mono fun e w' ⟨h1, h2⟩ => ⟨h1, 0, h2.symm⟩
            clear hw
            go_wp2_with fail
            go_quiet ((go_at_call 11; exact Calls.quiet_of (hif.out _)))
            have q1 := R4.out.drewN nq
            have q2 : Keep (· = p) w4 (w4.drewN nq) := (Keep.refl _ _).drewN nq
            obtain ⟨w5, hw5⟩ : ∃ w5, w5 = w4.drewN nq := ⟨_, rfl⟩
            have d1' : w5.cell? ⟨g, 1, none⟩ = some (.int .i64 o.n) := by rw [hw5]; exact d1
            rw [← hw5] at q1 q2 ⊢
            clear hw5
            have HR5 := Lib.hid q1
            have L5 := Lib.hid (L4.out.on q2 (by omega))
            have G5 := Lib.hid (q2.heap G4.out (by omega))
            have d3 := cell_at G5.out 3
            simp only [List.getElem?_toArray, List.getElem?_cons_zero, List.getElem?_cons_succ] at d3
            clear q1 q2
            go_wp2_with fail
            refine (tisNow HR5.out).mono ?_
            rintro r w6 ⟨rfl, rfl⟩
            go_wp2_with fail
            refine (stays_Ints lg c' TA o.L.length tc o.L _ L5.out (src_of_ints HT.out HR5.out.below) (by omega)).mono ?_
            rintro r w6 ⟨rfl, q8, rfl⟩
            go_wp2_with fail
            go_roundw
            case rel => exact ⟨k + 1, _, by go_num, rfl, by omega, hnow, (HR5.out.drewN _)⟩
            case measure => simp [intOf]; omega
    · have HE := Lib.hid HR.out.below
      clear HR HO
      go_wp2_with fail
      refine (tadd_nil _ _).mono ?_
      rintro r w3 ⟨rfl, rfl⟩
      go_wp2_with fail
      refine (tnow_nil _).mono ?_
      rintro r w3 ⟨rfl, rfl⟩
      go_wp2_with fail
      refine (ttop_nil _ _).mono ?_
      rintro r w3 ⟨rfl, rfl⟩
      go_wp2_with fail
      refine (tswap_nil _ _).mono ?_
      rintro r w3 ⟨rfl, rfl⟩
      go_wp2_with fail
      refine (tif_nil _ _ _).mono ?_
      rintro r w3 ⟨rfl, rfl⟩
      go_wp2_with fail
      go_ret
      exact ⟨rfl, (HE.out.alloc HE.out.size _).alloc (by have := HE.out.size; simp; omega) _⟩

set_option maxRecDepth 100000 in
set_option maxHeartbeats 1600000 in
theorem walk_TallyPlays (A : Option Addr) (n cap : Nat) (ops : List OpV) (w : World) (h : Structs (OpAt w) 4 w A n ops) :
    Calls Try.prog 3 #[.slice A n cap] w fun e w' => e = .returned (.bool true) ∧ Below w.heap.size w w' := by
  have hm := h.2.1
  unfold maxLen at hm
  by_cases h2 : n ≤ 60
  · exact plays_good A n cap ops w h h2
  · clear h
    have h3 : 60 < (n : Int) := by omega
    go_enter Try.func3, Try.ntmps3
    go_wp2_with fail
    refine (talive_any _).mono ?_
    rintro r w1 ⟨rfl, hb⟩
    go_wp2_with fail
    go_ret
    exact ⟨rfl, hb⟩

end Go.Proofs.Ytkhhmnmemdadmaa
