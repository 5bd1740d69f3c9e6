/- cell: marksOf, Lay. By program (rgn/XCellLay.py). Own work. -/
import Derived.Test.YtgomnigchfmfhaaCellA
import Derived.Test.YtgomnigchfmfhaaCodec
import Derived.IntWalk
import Derived.Deep.Cut
namespace Go.Proofs.Ytgomnigchfmfhaa
set_option linter.unusedVariables false
set_option linter.unusedSimpArgs false
open Go.RowKit

def vcs (c : CellM) : Array Value := #[.int .i32 c.r, .int .i64 c.a.fg, .int .i64 c.a.bg, .bool c.a.b, .bool c.a.u, .bool c.a.i]
theorem cs_six {w : World} {q : Nat} {x : CellM} {t : TypeId} (h : w.heap[q]? = some (.cells (vcs x) t (0, 0))) :
    w.cell? ⟨q, 1, none⟩ = some (.int .i64 x.a.fg) ∧ w.cell? ⟨q, 2, none⟩ = some (.int .i64 x.a.bg) ∧ w.cell? ⟨q, 3, none⟩ = some (.bool x.a.b) ∧ w.cell? ⟨q, 4, none⟩ = some (.bool x.a.u) ∧ w.cell? ⟨q, 5, none⟩ = some (.bool x.a.i) :=
  ⟨cell_at h 1, cell_at h 2, cell_at h 3, cell_at h 4, cell_at h 5⟩

set_option maxHeartbeats 800000 in
theorem cell_marks (a : At) (w : World) :
    Calls Try.prog 52 #[a.v] w fun e w' => e = .returned (.int .i64 (a.marks : Nat)) ∧ Below w.heap.size w w' := by
  obtain ⟨f, g, b, u, i⟩ := a
  simp only [At.v]
  cases b <;> cases u <;> cases i
  all_goals
    go_enter Try.func52, Try.ntmps52
    go_wp2_with fail
    go_ret
    exact ⟨rfl, below_box ..⟩

/-- A cell's bytes. -/
def layL (r : Nat) (a : At) : List UInt8 := enc r ++ [UInt8.ofNat a.fg.toNat, UInt8.ofNat a.bg.toNat, UInt8.ofNat a.marks]
theorem nums_one (r : Nat) : numsO [] 0 [(r : Int)] = (enc r, 0) := by
  simp [numsO, numO]
theorem bytes_three (l : List UInt8) (f g : Int) (m : Nat) (h1 : 0 ≤ f ∧ f ≤ 16) (h2 : 0 ≤ g ∧ g ≤ 16) (h3 : m ≤ 7) : bytesO l 0 [f, g, (m : Int)] = (l ++ [UInt8.ofNat f.toNat, UInt8.ofNat g.toNat, UInt8.ofNat m], 0) := by
  have k : ∀ (l : List UInt8) (f : Int), 0 ≤ f ∧ f ≤ 16 → byteO l 0 f = (l ++ [UInt8.ofNat f.toNat], 0) := fun l f h => by
    unfold byteO
    rw [if_pos rfl, if_neg (by omega)]
  simp only [bytesO, List.foldl_cons, List.foldl_nil]
  rw [k l f h1]
  simp only
  rw [k _ g h2]
  simp only
  rw [k _ (m : Int) (by omega)]
  simp

set_option maxRecDepth 100000 in
set_option maxHeartbeats 3200000 in
theorem cell_lay_low (c : CellM) (w : World) (hv : c.a.ok) (r : Nat) (hr9 : r < 2147483648) (hr : c.r = (r : Int)) (hn : ¬ c.r < 0) :
    Calls Try.prog 25 #[c.v] w fun e w' => e = .returned (.string ⟨(layL r c.a).toArray⟩) ∧ Below w.heap.size w w' := by
  obtain ⟨w1, hw1⟩ : ∃ w1, w1 = w.alloc (.cells (vcs c) 40) := ⟨_, rfl⟩
  have HB1 : Hid (Below w.heap.size w w1) := Lib.hid (by rw [hw1]; exact (Below.refl _ w).alloc (Nat.le_refl _) _)
  have HQ1 : Hid (w1.heap[w.heap.size]? = some (.cells (vcs c) 40 (0, 0))) := Lib.hid (by rw [hw1]; exact heap_alloc_new w _)
  have c0 : w1.cell? ⟨w.heap.size, 0, none⟩ = some (.int .i32 c.r) := cell_at HQ1.out 0
  obtain ⟨x1, x2, x3, x4, x5⟩ := cs_six HQ1.out
  have HV := Lib.hid (fun V => cell_valid c.a V true (decide_eq_true hv))
  have HOK := Lib.hid hv
  have HM := Lib.hid (fun V => cell_marks c.a V)
  have hm7 := Lib.hid (At.marks_le c.a)
  simp only [At.v] at HV HM
  have HRE := Lib.hid hr
  clear hr
  clear hv
  simp only [CellM.v]
  unfold vcs at hw1
  go_enter Try.func25, Try.ntmps25
  go_upto_region 1 with fail
  rw [← hw1]
  obtain ⟨q, hq⟩ : ∃ q, q = w.heap.size := ⟨_, rfl⟩
  rw [← hq] at HQ1 c0 x1 x2 x3 x4 x5
  rw [← hq]
  have HQE := Lib.hid hq
  clear hw1 hq
  go_wp2_with fail
  refine (HV.out _).mono ?_
  rintro e w2 ⟨rfl, hb⟩
  have HB2 : Hid (Below w.heap.size w w2) := Lib.hid (HB1.out.trans (hb.mono HB1.out.size))
  have HQ2 := Lib.hid ((Keep.of_below (fun _ => False) hb).heap HQ1.out (fun y => y))
  have d0 : w2.cell? ⟨q, 0, none⟩ = some (.int .i32 c.r) := cell_at HQ2.out 0
  have hq2 : q < w2.heap.size := lt_heap HQ2.out
  clear hb c0 x1 x2 x3 x4 x5 HQ1 HB1
  go_wp2_with fail
  obtain ⟨w3, hw3⟩ : ∃ w3, w3 = w2.alloc (.cells #[.slice none 0 0, .int .i64 0] 48) := ⟨_, rfl⟩
  obtain ⟨p, hp⟩ : ∃ p, p = w2.heap.size := ⟨_, rfl⟩
  have HO3 : Hid (OutAt w3 p none 0 [] 0) := Lib.hid (by rw [hw3, hp]; exact OutAt.new w2)
  have HB3 : Hid (Below w.heap.size w w3) := Lib.hid (by rw [hw3]; exact HB2.out.alloc HB2.out.size _)
  have HQ3 : Hid (w3.heap[q]? = some (.cells (vcs c) 40 (0, 0))) := Lib.hid (by rw [hw3]; exact heap_alloc HQ2.out _)
  have hqp : q < p := by rw [hp]; exact hq2
  have hwp : Hid (w.heap.size ≤ p) := Lib.hid (by rw [hp]; exact HB2.out.size)
  have hp3 : p < w3.heap.size := HO3.out.lt
  try rw [← hw3]
  try rw [← hp]
  clear hw3 hp d0 HQ2 HB2 hq2
  rw [HRE.out]
  have hwr : IntKind.i64.wrap (r : Int) = (r : Int) := IntWalk.i64_in _ (by omega)
  refine wp_region_noPanic ?_
  refine wp_region_held_drew (S := fun w' => w'.cell? ⟨q, 1, none⟩ = some (.int .i64 c.a.fg) ∧ w'.cell? ⟨q, 2, none⟩ = some (.int .i64 c.a.bg) ∧ w'.cell? ⟨q, 3, none⟩ = some (.bool c.a.b) ∧ w'.cell? ⟨q, 4, none⟩ = some (.bool c.a.u) ∧ w'.cell? ⟨q, 5, none⟩ = some (.bool c.a.i)) (by kernel_rfl) (cs_six (w := w3) HQ3.out) (fun hHeld => ?_)
  refine wpAnyH_take (i := 0) (oi := _) (v := ?va0) rfl (by kernel_rfl) (by kernel_rfl) (by kernel_rfl) (fun _ _ _ h => h) (Or.inl ⟨by rfl, ?hya0⟩) (by assumption) ?resta0
  case hya0 => (intro w hSw; (try dsimp only at hSw); (try simp only [List.getElem_toArray, List.getElem_cons_zero, List.getElem_cons_succ]); go_simp; (try with_reducible rfl))
  (try simp only [Act.put, List.setIfInBounds_toArray, List.set_cons_zero, List.set_cons_succ, List.getElem_toArray, List.getElem_cons_zero, List.getElem_cons_succ])
  refine wpAnyH_take (i := 1) (oi := _) (v := ?va1) rfl (by kernel_rfl) (by kernel_rfl) (by kernel_rfl) (fun _ _ _ h => h) (Or.inl ⟨by rfl, ?hya1⟩) (by assumption) ?resta1
  case hya1 => (intro w hSw; (try dsimp only at hSw); (try simp only [List.getElem_toArray, List.getElem_cons_zero, List.getElem_cons_succ]); go_simp; (try with_reducible rfl))
  (try simp only [Act.put, List.setIfInBounds_toArray, List.set_cons_zero, List.set_cons_succ, List.getElem_toArray, List.getElem_cons_zero, List.getElem_cons_succ])
  refine wpAnyH_take (i := 4) (oi := _) (v := ?va4) rfl (by kernel_rfl) (by kernel_rfl) (by kernel_rfl) (fun _ _ _ h => h) (Or.inl ⟨by rfl, ?hya4⟩) (by assumption) ?resta4
  case hya4 => (intro w hSw; (try dsimp only at hSw); (try simp only [List.getElem_toArray, List.getElem_cons_zero, List.getElem_cons_succ]); go_simp; (try with_reducible rfl))
  (try simp only [Act.put, List.setIfInBounds_toArray, List.set_cons_zero, List.set_cons_succ, List.getElem_toArray, List.getElem_cons_zero, List.getElem_cons_succ])
  refine wpAnyH_take (i := 5) (oi := _) (v := ?va5) rfl (by kernel_rfl) (by kernel_rfl) (by kernel_rfl) (fun _ _ _ h => h) (Or.inl ⟨by rfl, ?hya5⟩) (by assumption) ?resta5
  case hya5 => (intro w hSw; (try dsimp only at hSw); (try simp only [List.getElem_toArray, List.getElem_cons_zero, List.getElem_cons_succ]); go_simp; (try with_reducible rfl))
  (try simp only [Act.put, List.setIfInBounds_toArray, List.set_cons_zero, List.set_cons_succ, List.getElem_toArray, List.getElem_cons_zero, List.getElem_cons_succ])
  refine wpAnyH_take (i := 6) (oi := _) (v := ?va6) rfl (by kernel_rfl) (by kernel_rfl) (by kernel_rfl) (fun _ _ _ h => h) (Or.inl ⟨by rfl, ?hya6⟩) (by assumption) ?resta6
  case hya6 => (intro w hSw; (try dsimp only at hSw); (try simp only [List.getElem_toArray, List.getElem_cons_zero, List.getElem_cons_succ]); go_simp; (try with_reducible rfl))
  (try simp only [Act.put, List.setIfInBounds_toArray, List.set_cons_zero, List.set_cons_succ, List.getElem_toArray, List.getElem_cons_zero, List.getElem_cons_succ])
  refine wpAnyH_take (i := 7) (oi := _) (v := ?va7) rfl (by kernel_rfl) (by kernel_rfl) (by kernel_rfl) (fun _ _ _ h => h) (Or.inl ⟨by rfl, ?hya7⟩) (by assumption) ?resta7
  case hya7 => (intro w hSw; (try dsimp only at hSw); (try simp only [List.getElem_toArray, List.getElem_cons_zero, List.getElem_cons_succ]); go_simp; (try with_reducible rfl))
  (try simp only [Act.put, List.setIfInBounds_toArray, List.set_cons_zero, List.set_cons_succ, List.getElem_toArray, List.getElem_cons_zero, List.getElem_cons_succ])
  refine wpAnyH_take (i := 8) (oi := _) (v := ?va8) rfl (by kernel_rfl) (by kernel_rfl) (by kernel_rfl) (fun _ _ _ h => h) (Or.inl ⟨by rfl, ?hya8⟩) (by assumption) ?resta8
  case hya8 => (intro w hSw; (try dsimp only at hSw); (try simp only [List.getElem_toArray, List.getElem_cons_zero, List.getElem_cons_succ]); go_simp; (try with_reducible rfl))
  (try simp only [Act.put, List.setIfInBounds_toArray, List.set_cons_zero, List.set_cons_succ, List.getElem_toArray, List.getElem_cons_zero, List.getElem_cons_succ])
  refine wpAnyH_take (i := 9) (oi := _) (v := ?va9) rfl (by kernel_rfl) (by kernel_rfl) (by kernel_rfl) (fun _ _ _ h => h) (Or.inl ⟨by rfl, ?hya9⟩) (by assumption) ?resta9
  case hya9 => (intro w hSw; (try dsimp only at hSw); (try simp only [List.getElem_toArray, List.getElem_cons_zero, List.getElem_cons_succ]); go_simp; (try with_reducible rfl))
  (try simp only [Act.put, List.setIfInBounds_toArray, List.set_cons_zero, List.set_cons_succ, List.getElem_toArray, List.getElem_cons_zero, List.getElem_cons_succ])
  refine wpAnyH_take (i := 10) (oi := _) (v := ?va10) rfl (by kernel_rfl) (by kernel_rfl) (by kernel_rfl) (fun _ _ _ h => h) (Or.inl ⟨by rfl, ?hya10⟩) (by assumption) ?resta10
  case hya10 => (intro w hSw; (try dsimp only at hSw); (try simp only [List.getElem_toArray, List.getElem_cons_zero, List.getElem_cons_succ]); go_simp; (try with_reducible rfl))
  (try simp only [Act.put, List.setIfInBounds_toArray, List.set_cons_zero, List.set_cons_succ, List.getElem_toArray, List.getElem_cons_zero, List.getElem_cons_succ])
  refine wpAnyH_take (i := 11) (oi := _) (v := ?va11) rfl (by kernel_rfl) (by kernel_rfl) (by kernel_rfl) (fun _ _ _ h => h) (Or.inl ⟨by rfl, ?hya11⟩) (by assumption) ?resta11
  case hya11 => (intro w hSw; (try dsimp only at hSw); (try simp only [List.getElem_toArray, List.getElem_cons_zero, List.getElem_cons_succ]); go_simp; (try with_reducible rfl))
  (try simp only [Act.put, List.setIfInBounds_toArray, List.set_cons_zero, List.set_cons_succ, List.getElem_toArray, List.getElem_cons_zero, List.getElem_cons_succ])
  refine wpAnyH_ready (rs := [2]) (by kernel_rfl) (by simp) ?_
  refine AllReadyH.cons (o := _) rfl (fun K hK => ?_) AllReadyH.nil
  (try simp only [List.getElem_toArray, List.getElem_cons_zero, List.getElem_cons_succ])
  go_simp
  refine hK.out _ _ ?_ (fun hHeld => ?_)
  · exact cs_six (w := w3.alloc (.cells #[.int .i64 (r : Int)] 3)) (heap_alloc HQ3.out _)
  clear hK K
  (try simp only [Act.put, List.setIfInBounds_toArray, List.set_cons_zero, List.set_cons_succ, List.getElem_toArray, List.getElem_cons_zero, List.getElem_cons_succ])
  refine wpAnyH_ready (rs := [3]) (by kernel_rfl) (by simp) ?_
  refine AllReadyH.cons (o := _) rfl (fun K hK => ?_) AllReadyH.nil
  (try simp only [List.getElem_toArray, List.getElem_cons_zero, List.getElem_cons_succ])
  go_simp
  refine (outNum_any p none 0 [] 0 _ 1 1 [(r : Int)] _ (((HO3.out.alloc _).drew)) (slice_drew (slice_new (g := w3.heap.size) rfl [.int .i64 (r : Int)] 3 (by simp [blk]; omega))) rfl (by intro x hx; simp at hx; omega) (by simp)).mono ?_; rintro e w4 ⟨rfl, A4, c4, h4, s4⟩; rw [nums_one] at h4; have HO4 := Lib.hid h4; have HQ4 : Hid (w4.heap[q]? = some (.cells (vcs c) 40 (0, 0))) := Lib.hid (s4.1.heap (show ((w3.alloc (.cells #[.int .i64 (r : Int)] 3)).drew).heap[q]? = _ from heap_alloc HQ3.out _) (by simp [blk]; omega)); have HB4 : Hid (Below w.heap.size w w4) := Lib.hid (HB3.out.trans ((((Below.refl _ w3).alloc (Nat.le_refl _) _).drew.mono HB3.out.size).trans (s4.1.below (by have := HB3.out.size; simp; omega) (fun k hk e => by have := hwp.out; simp [blk] at e; omega)))); have HA4 : Hid (∀ k, blk A4 = some k → p < k) := Lib.hid (fun k hk => by have := s4.2 k hk; simp [blk] at this; omega); clear h4 s4
  refine hK.out _ _ ?_ (fun hHeld => ?_)
  · exact cs_six HQ4.out
  clear hK K
  (try simp only [Act.put, List.setIfInBounds_toArray, List.set_cons_zero, List.set_cons_succ, List.getElem_toArray, List.getElem_cons_zero, List.getElem_cons_succ])
  refine wpAnyH_ready (rs := [12]) (by kernel_rfl) (by simp) ?_
  refine AllReadyH.cons (o := _) rfl (fun K hK => ?_) AllReadyH.nil
  (try simp only [List.getElem_toArray, List.getElem_cons_zero, List.getElem_cons_succ])
  go_simp
  refine (HM.out _).mono ?_; rintro e w5 ⟨rfl, hb⟩; have HO5 := Lib.hid (HO4.out.keep (Keep.of_below (fun _ => False) hb) (fun y => y) (fun _ _ y => y)); have HQ5 := Lib.hid ((Keep.of_below (fun _ => False) hb).heap HQ4.out (fun y => y)); have HB5 : Hid (Below w.heap.size w w5) := Lib.hid (HB4.out.trans (hb.mono HB4.out.size)); clear hb
  refine hK.out _ _ ?_ (fun hHeld => ?_)
  · exact cs_six HQ5.out
  clear hK K
  (try simp only [Act.put, List.setIfInBounds_toArray, List.set_cons_zero, List.set_cons_succ, List.getElem_toArray, List.getElem_cons_zero, List.getElem_cons_succ])
  refine wpAnyH_ready (rs := [13]) (by kernel_rfl) (by simp) ?_
  refine AllReadyH.cons (o := _) rfl (fun K hK => ?_) AllReadyH.nil
  (try simp only [List.getElem_toArray, List.getElem_cons_zero, List.getElem_cons_succ])
  go_simp
  refine hK.out _ _ ?_ (fun hHeld => ?_)
  · exact cs_six (heap_alloc HQ5.out _)
  clear hK K
  (try simp only [Act.put, List.setIfInBounds_toArray, List.set_cons_zero, List.set_cons_succ, List.getElem_toArray, List.getElem_cons_zero, List.getElem_cons_succ])
  refine wpAnyH_ready (rs := [14]) (by kernel_rfl) (by simp) ?_
  refine AllReadyH.cons (o := _) rfl (fun K hK => ?_) AllReadyH.nil
  (try simp only [List.getElem_toArray, List.getElem_cons_zero, List.getElem_cons_succ])
  go_simp
  refine (outByte_any p A4 c4 (enc r) 0 _ 3 3 [c.a.fg, c.a.bg, (c.a.marks : Int)] _ (HO5.out.alloc _) (slice_new (g := w5.heap.size) rfl [.int .i64 c.a.fg, .int .i64 c.a.bg, .int .i64 (c.a.marks : Int)] 3 (fun e => by rcases e with e | e; (have := HO5.out.lt; omega); (have := HO5.out.row e; omega))) rfl (by have := enc_le r (by omega); omega)).mono ?_; rintro e w6 ⟨rfl, A6, c6, h6, s6⟩; rw [bytes_three _ _ _ _ (by have := HOK.out; unfold At.ok at this; omega) (by have := HOK.out; unfold At.ok at this; omega) hm7.out] at h6; have HO6 := Lib.hid h6; have HQ6 : Hid (w6.heap[q]? = some (.cells (vcs c) 40 (0, 0))) := Lib.hid (s6.1.heap (heap_alloc HQ5.out _) (fun e => by rcases e with e | e; (omega); (have := HA4.out _ e; omega))); have HB6 : Hid (Below w.heap.size w w6) := Lib.hid ((HB5.out.alloc HB5.out.size _).trans (s6.1.below (by have := HB5.out.size; simp; omega) (fun k hk e => by have := hwp.out; rcases e with e | e; (omega); (have := HA4.out _ e; omega)))); clear h6 s6
  refine hK.out _ _ ?_ (fun hHeld => ?_)
  · exact cs_six HQ6.out
  clear hK K
  (try simp only [Act.put, List.setIfInBounds_toArray, List.set_cons_zero, List.set_cons_succ, List.getElem_toArray, List.getElem_cons_zero, List.getElem_cons_succ])
  refine wpAnyH_ready (rs := [15]) (by kernel_rfl) (by simp) ?_
  refine AllReadyH.cons (o := _) rfl (fun K hK => ?_) AllReadyH.nil
  (try simp only [List.getElem_toArray, List.getElem_cons_zero, List.getElem_cons_succ])
  go_simp
  refine (outend_any p A6 c6 _ _ w6 HO6.out).mono ?_; rintro e w7 ⟨rfl, k7, hw7⟩; have K7 : Hid (Keep (fun _ => False) w6 w7) := Lib.hid (by rw [hw7]; exact (Keep.refl _ w6).drewN k7); have HQ7 := Lib.hid (K7.out.heap HQ6.out (fun y => y)); clear hw7
  refine hK.out _ _ ?_ (fun hHeld => ?_)
  · exact cs_six HQ7.out
  clear hK K
  (try simp only [Act.put, List.setIfInBounds_toArray, List.set_cons_zero, List.set_cons_succ, List.getElem_toArray, List.getElem_cons_zero, List.getElem_cons_succ])
  refine wpAnyH_take (i := 16) (oi := _) (v := ?va16) rfl (by kernel_rfl) (by kernel_rfl) (by kernel_rfl) (fun _ _ _ h => h) (Or.inl ⟨by rfl, ?hya16⟩) (by assumption) ?resta16
  case hya16 => (intro w hSw; (try dsimp only at hSw); (try simp only [List.getElem_toArray, List.getElem_cons_zero, List.getElem_cons_succ]); go_simp; (try with_reducible rfl))
  (try simp only [Act.put, List.setIfInBounds_toArray, List.set_cons_zero, List.set_cons_succ, List.getElem_toArray, List.getElem_cons_zero, List.getElem_cons_succ])
  refine wpAnyH_take (i := 17) (oi := _) (v := ?va17) rfl (by kernel_rfl) (by kernel_rfl) (by kernel_rfl) (fun _ _ _ h => h) (Or.inl ⟨by rfl, ?hya17⟩) (by assumption) ?resta17
  case hya17 => (intro w hSw; (try dsimp only at hSw); (try simp only [List.getElem_toArray, List.getElem_cons_zero, List.getElem_cons_succ]); go_simp; (try with_reducible rfl))
  (try simp only [Act.put, List.setIfInBounds_toArray, List.set_cons_zero, List.set_cons_succ, List.getElem_toArray, List.getElem_cons_zero, List.getElem_cons_succ])
  refine wpAnyH_take (i := 18) (oi := _) (v := ?va18) rfl (by kernel_rfl) (by kernel_rfl) (by kernel_rfl) (fun _ _ _ h => h) (Or.inl ⟨by rfl, ?hya18⟩) (by assumption) ?resta18
  case hya18 => (intro w hSw; (try dsimp only at hSw); (try simp only [List.getElem_toArray, List.getElem_cons_zero, List.getElem_cons_succ]); go_simp; (try with_reducible rfl))
  (try simp only [Act.put, List.setIfInBounds_toArray, List.set_cons_zero, List.set_cons_succ, List.getElem_toArray, List.getElem_cons_zero, List.getElem_cons_succ])
  refine wpAnyH_take (i := 19) (oi := _) (v := ?va19) rfl (by kernel_rfl) (by kernel_rfl) (by kernel_rfl) (fun _ _ _ h => h) (Or.inl ⟨by rfl, ?hya19⟩) (by assumption) ?resta19
  case hya19 => (intro w hSw; (try dsimp only at hSw); (try simp only [List.getElem_toArray, List.getElem_cons_zero, List.getElem_cons_succ]); go_simp; (try with_reducible rfl))
  (try simp only [Act.put, List.setIfInBounds_toArray, List.set_cons_zero, List.set_cons_succ, List.getElem_toArray, List.getElem_cons_zero, List.getElem_cons_succ])
  refine wpAnyH_take (i := 20) (oi := _) (v := ?va20) rfl (by kernel_rfl) (by kernel_rfl) (by kernel_rfl) (fun _ _ _ h => h) (Or.inl ⟨by rfl, ?hya20⟩) (by assumption) ?resta20
  case hya20 => (intro w hSw; (try dsimp only at hSw); (try simp only [List.getElem_toArray, List.getElem_cons_zero, List.getElem_cons_succ]); go_simp; (try with_reducible rfl))
  (try simp only [Act.put, List.setIfInBounds_toArray, List.set_cons_zero, List.set_cons_succ, List.getElem_toArray, List.getElem_cons_zero, List.getElem_cons_succ])
  refine wpAnyH_done (by kernel_rfl) ?_ _
  refine NoPanic.normal ?_
  go_wp2_with fail
  go_ret
  exact ⟨rfl, HB6.out.trans (K7.out.below HB6.out.size (fun _ _ e => e.elim))⟩

end Go.Proofs.Ytgomnigchfmfhaa
