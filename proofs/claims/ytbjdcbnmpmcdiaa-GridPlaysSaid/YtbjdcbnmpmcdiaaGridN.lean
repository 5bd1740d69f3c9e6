/- grid: New, At. Own work. -/
import Derived.Test.YtbjdcbnmpmcdiaaGridM
import Derived.Laws.MakeOwn
namespace Go.Proofs.Ytbjdcbnmpmcdiaa
set_option linter.unusedVariables false
set_option linter.unusedSimpArgs false
open Go.RowKit

theorem Below.drewN' {B : Nat} {w W : World} (h : Below B w W) (k : Nat) : Below B w (W.drewN k) := ⟨h.os, h.tape, h.output, h.size, h.block⟩
def blankC : CellM := ⟨32, .z⟩
theorem cell_row : (Try.prog.info? 42).map (fun i => (i.zero, i.size, i.bytes)) = some (some (.agg #[.int .i32 0, .int .i64 0, .int .i64 0, .bool false, .bool false, .bool false]), 6, 32) := by kernel_rfl

theorem lies_made (w : World) (n : Nat) (t : TypeId) : Lies (w.alloc (.cells (madeCells #[.int .i32 0, .int .i64 0, .int .i64 0, .bool false, .bool false, .bool false] (n * 6)) t)) w.heap.size 0 n (fun _ => CellM.z) := by
  refine ⟨fun k hk i v hv => ?_, fun j hj => free_at (heap_alloc_new w _) _⟩
  have hi := cellCs_lt hv
  rw [Nat.zero_add, cell_of_row _ _ _ _ t (0, 0) (heap_alloc_new w _)]
  have hlt : k * 6 + i < (madeCells #[.int .i32 0, .int .i64 0, .int .i64 0, .bool false, .bool false, .bool false] (n * 6)).size := by rw [size_madeCells]; omega
  rw [Array.getElem?_eq_getElem hlt]
  have e : (k * 6 + i) % 6 = i := by omega
  rcases i with _ | _ | _ | _ | _ | _ | i
  all_goals first | omega | (simp [madeCells, e]; simpa [cellCs, attrCs, CellM.z, At.z] using hv)

theorem grid_blank (w : World) :
    Calls Try.prog 46 #[At.z.v] w fun e w' => e = .returned blankC.v ∧ Below w.heap.size w w' := by
  simp only [At.v, At.z]
  go_enter Try.func46, Try.ntmps46
  go_wp2_with fail
  refine bodyPost_ret (v := .agg #[.int .i32 32, .int .i64 0, .int .i64 0, .bool false, .bool false, .bool false]) (by simp [results, Try.results46, go_sem]) rfl ⟨rfl, ?_⟩
  repeat (first | exact Below.refl _ _ | (refine Below.setCell ?_ (by simp) _) | (refine Below.alloc ?_ (by simp) _))

/-- Behind New. -/
def NewTo (W H n : Nat) (w : World) (e : Ending) (w' : World) : Prop :=
  e = .returned (.pointer (some ⟨w.heap.size + 1, 0, none⟩)) ∧ GridAt w' (w.heap.size + 1) w.heap.size n W H n (fun _ => blankC) ∧ Below w.heap.size w w'

set_option maxRecDepth 100000 in
set_option maxHeartbeats 1600000 in
theorem grid_new (w : World) (x y : Int) (W H n : Nat) (hW : min (max x 2) 40 = (W : Int)) (hH : min (max y 1) 20 = (H : Int)) (hn : n = W * H) :
    Calls Try.prog 10 #[.int .i64 x, .int .i64 y] w (NewTo W H n w) := by
  obtain ⟨i0, hi0, hz0, hz1, hz2⟩ := info_parts cell_row
  have hX : Hid (∀ V, Calls Try.prog 44 #[.int .i64 x, .int .i64 2, .int .i64 40] V fun e w' => e = .returned (.int .i64 W) ∧ w' = V) := Lib.hid (fun V => by have := within_any x 2 40 V; rwa [hW] at this)
  have hY : Hid (∀ V, Calls Try.prog 44 #[.int .i64 y, .int .i64 1, .int .i64 20] V fun e w' => e = .returned (.int .i64 H) ∧ w' = V) := Lib.hid (fun V => by have := within_any y 1 20 V; rwa [hH] at this)
  have hw40 : 2 ≤ W ∧ W ≤ 40 := by omega
  have hh20 : 1 ≤ H ∧ H ≤ 20 := by omega
  have h8 : W * H ≤ 800 := Nat.mul_le_mul hw40.2 hh20.2
  have h2 : 2 ≤ W * H := Nat.mul_le_mul hw40.1 hh20.1
  have hPi : (W : Int) * (H : Int) = (n : Int) := by rw [hn]; exact (Int.natCast_mul W H).symm
  have hw1 : IntKind.i64.wrap ((W : Int) * (H : Int)) = (n : Int) := by rw [hPi]; exact IntWalk.i64_in _ (by omega)
  have t5 : (n : Int) ≤ 800 := by omega
  have t6 : (0 : Int) ≤ (n : Int) := by omega
  obtain ⟨M, hM⟩ : ∃ M, M = madeCells #[.int .i32 0, .int .i64 0, .int .i64 0, .bool false, .bool false, .bool false] (n * 6) := ⟨_, rfl⟩
  have hmk : ∀ V : World, (Instr.makeSlice 43 (.int .i64 (n : Int)) (.int .i64 (n : Int))).run Try.prog V = .ok (.slice (some ⟨V.heap.size, 0, none⟩) n n) (V.alloc (.cells M 42)) := fun V => by
    have h := run_make (P := Try.prog) V 43 42 i0 _ Try.underlying43 hi0 hz0 .i64 .i64 (n : Int) (n : Int) (by omega) (by omega) (by rw [hz2]; omega) (by omega)
    rw [hz1] at h
    rw [hM]
    simp at h
    exact h
  obtain ⟨w2, hw2⟩ : ∃ w2, w2 = (w.alloc (.cells M 42)).alloc (.cells #[.int .i64 (W : Int), .int .i64 (H : Int), .slice (some ⟨w.heap.size, 0, none⟩) n n] 80) := ⟨_, rfl⟩
  have HG2 : Hid (GridAt w2 (w.heap.size + 1) w.heap.size n W H n (fun _ => CellM.z)) := Lib.hid (by
    have hl := lies_made w n 42
    rw [← hM] at hl
    have hb : ∀ i v, (#[.int .i64 (W : Int), .int .i64 (H : Int), .slice (some ⟨w.heap.size, 0, none⟩) n n] : Array Value)[i]? = some v → Cell w2 (w.heap.size + 1) i v := fun i v hv => by
      have := Cell.box (w := w.alloc (.cells M 42)) (t := 80) i hv
      rw [hw2]
      rwa [show (w.alloc (.cells M 42)).heap.size = w.heap.size + 1 from by simp] at this
    refine ⟨hb 0 _ rfl, hb 1 _ rfl, hb 2 _ rfl, ?_, by rw [hw2]; simp; omega, by omega, hn, hw40, hh20, Nat.le_refl _, by omega⟩
    rw [hw2]
    exact hl.keep (S := fun _ => False) (by simp) ((Keep.refl _ _).alloc _) (fun y => y))
  have HB2 : Hid (Below w.heap.size w w2) := Lib.hid (by rw [hw2]; exact ((Below.refl _ w).alloc (Nat.le_refl _) _).alloc (by simp) _)
  have c2 := HG2.out.cs.1
  have HC2 := Lib.hid c2
  clear hW hH hn h8 h2 hM hw40 hh20 c2
  go_enter Try.func10, Try.ntmps10
  go_wp2_with fail
  refine (hX.out _).mono ?_
  rintro e w1 ⟨rfl, rfl⟩
  go_wp2_with fail
  refine (hY.out _).mono ?_
  rintro e w1 ⟨rfl, rfl⟩
  go_upto_region 3 with fail
  rw [← hw2]
  obtain ⟨g, hg⟩ : ∃ g, g = w1.heap.size := ⟨_, rfl⟩
  have HB3 : Hid (∀ V, Keep (· = g) w2 V → Below w1.heap.size w1 V) := Lib.hid (fun V k => HB2.out.trans (k.below HB2.out.size (fun i hi e => by omega)))
  unfold NewTo
  rw [← hg] at HG2 HC2 HB2 HB3
  rw [← hg]
  have HGE := Lib.hid hg
  clear hw2 hmk hg hPi hw1
  have hgl : g < w2.heap.size := HG2.out.hg
  refine wp_region_noPanic ?_
  refine wp_region_held_drew (S := fun w' => w'.cell? ⟨g + 1, 2, none⟩ = some (.slice (some ⟨g, 0, none⟩) n n)) (by kernel_rfl) HC2.out (fun hHeld => ?_)
  refine wpAnyH_take (i := 0) (oi := _) (v := ?va0) rfl (by kernel_rfl) (by kernel_rfl) (by kernel_rfl) (fun _ _ _ h => h) (Or.inl ⟨by rfl, ?hya0⟩) (by assumption) ?resta0
  case hya0 => (intro w hSw; (try dsimp only at hSw); (try simp only [List.getElem_toArray, List.getElem_cons_zero, List.getElem_cons_succ]); go_simp; (try with_reducible rfl))
  (try simp only [Act.put, List.setIfInBounds_toArray, List.set_cons_zero, List.set_cons_succ, List.getElem_toArray, List.getElem_cons_zero, List.getElem_cons_succ])
  refine wpAnyH_take (i := 1) (oi := _) (v := ?va1) rfl (by kernel_rfl) (by kernel_rfl) (by kernel_rfl) (fun _ _ _ h => h) (Or.inl ⟨by rfl, ?hya1⟩) (by assumption) ?resta1
  case hya1 => (intro w hSw; (try dsimp only at hSw); (try simp only [List.getElem_toArray, List.getElem_cons_zero, List.getElem_cons_succ]); go_simp; (try with_reducible rfl))
  (try simp only [Act.put, List.setIfInBounds_toArray, List.set_cons_zero, List.set_cons_succ, List.getElem_toArray, List.getElem_cons_zero, List.getElem_cons_succ])
  refine wpAnyH_take (i := 2) (oi := _) (v := ?va2) rfl (by kernel_rfl) (by kernel_rfl) (by kernel_rfl) (fun _ _ _ h => h) (Or.inl ⟨by rfl, ?hya2⟩) (by assumption) ?resta2
  case hya2 => (intro w hSw; (try dsimp only at hSw); (try simp only [List.getElem_toArray, List.getElem_cons_zero, List.getElem_cons_succ]); go_simp; (try with_reducible rfl))
  (try simp only [Act.put, List.setIfInBounds_toArray, List.set_cons_zero, List.set_cons_succ, List.getElem_toArray, List.getElem_cons_zero, List.getElem_cons_succ])
  refine wpAnyH_take (i := 3) (oi := _) (v := ?va3) rfl (by kernel_rfl) (by kernel_rfl) (by kernel_rfl) (fun _ _ _ h => h) (Or.inl ⟨by rfl, ?hya3⟩) (by assumption) ?resta3
  case hya3 => (intro w hSw; (try dsimp only at hSw); (try simp only [List.getElem_toArray, List.getElem_cons_zero, List.getElem_cons_succ]); go_simp; (try with_reducible rfl))
  (try simp only [Act.put, List.setIfInBounds_toArray, List.set_cons_zero, List.set_cons_succ, List.getElem_toArray, List.getElem_cons_zero, List.getElem_cons_succ])
  refine wpAnyH_take (i := 4) (oi := _) (v := ?va4) rfl (by kernel_rfl) (by kernel_rfl) (by kernel_rfl) (fun _ _ _ h => h) (Or.inl ⟨by rfl, ?hya4⟩) (by assumption) ?resta4
  case hya4 => (intro w hSw; (try dsimp only at hSw); (try simp only [List.getElem_toArray, List.getElem_cons_zero, List.getElem_cons_succ]); go_simp; (try with_reducible rfl))
  (try simp only [Act.put, List.setIfInBounds_toArray, List.set_cons_zero, List.set_cons_succ, List.getElem_toArray, List.getElem_cons_zero, List.getElem_cons_succ])
  refine wpAnyH_ready (rs := [5]) (by kernel_rfl) (by simp) ?_
  refine AllReadyH.cons (o := _) rfl (fun K hK => ?_) AllReadyH.nil
  (try simp only [List.getElem_toArray, List.getElem_cons_zero, List.getElem_cons_succ])
  go_simp
  refine (grid_blank _).mono ?_; rintro e w3 ⟨rfl, hb⟩; have K3 : Hid (Keep (fun _ => False) w2 w3) := Lib.hid (((Keep.refl (fun _ => False) w2).drew).trans (Keep.of_below _ hb) (fun _ _ y => y)); have HG3 := Lib.hid (HG2.out.keep K3.out (fun y => y) (fun y => y)); clear hb
  refine hK.out _ _ ?_ (fun hHeld => ?_)
  · exact HG3.out.cs.1
  clear hK K
  (try simp only [Act.put, List.setIfInBounds_toArray, List.set_cons_zero, List.set_cons_succ, List.getElem_toArray, List.getElem_cons_zero, List.getElem_cons_succ])
  refine wpAnyH_ready (rs := [6]) (by kernel_rfl) (by simp) ?_
  refine AllReadyH.cons (o := _) rfl (fun K hK => ?_) AllReadyH.nil
  (try simp only [List.getElem_toArray, List.getElem_cons_zero, List.getElem_cons_succ])
  go_simp
  refine (fill_any (some ⟨g, 0, none⟩) g 0 n n _ blankC w3 (fun _ => ⟨rfl, HG3.out.l, HG3.out.hg⟩) (by omega)).mono ?_; rintro e w4 ⟨rfl, hf⟩; have HF4 := Lib.hid hf; have HG4 : Hid (GridAt w4 (g + 1) g n W H n (fun _ => blankC)) := Lib.hid ((HG3.out.put (a := 0) (m := n) (by simpa using hf.put HG3.out.hg) (by omega)).congr (fun k hk => by simp [hk])); clear hf
  refine hK.out _ _ ?_ (fun hHeld => ?_)
  · exact HG4.out.cs.1
  clear hK K
  (try simp only [Act.put, List.setIfInBounds_toArray, List.set_cons_zero, List.set_cons_succ, List.getElem_toArray, List.getElem_cons_zero, List.getElem_cons_succ])
  refine wpAnyH_done (by kernel_rfl) ?_ _
  refine NoPanic.normal ?_
  have HB4 := Lib.hid (HB3.out w4 (((K3.out.mono (fun _ _ y => y.elim) : Keep (· = g) w2 w3)).trans HF4.out.keep (fun _ _ y => y)))
  clear hHeld HB3 HF4
  go_wp2_with fail
  go_ret
  have hg := HGE.out
  show NewTo W H n w1 (.returned (.pointer (some ⟨g + 1, 0, none⟩))) w4
  have hb := HB4.out
  unfold NewTo
  rw [← hg]
  exact ⟨rfl, HG4.out, hb⟩

/-- What At tells. -/
def atF (W H : Nat) (f : Nat → CellM) (x y : Int) : CellM := if 0 ≤ x ∧ x < W ∧ 0 ≤ y ∧ y < H then f (restA W x y) else .z

set_option maxRecDepth 100000 in
set_option maxHeartbeats 1600000 in
theorem grid_at (w : World) (p g c W H n : Nat) (f : Nat → CellM) (x y : Int) (h : GridAt w p g c W H n f) :
    Calls Try.prog 35 #[.pointer (some ⟨p, 0, none⟩), .int .i64 x, .int .i64 y] w fun e w' => e = .returned (atF W H f x y).v ∧ Below w.heap.size w w' := by
  have HR : Hid (∀ V, Keep (fun _ => False) w V → Calls Try.prog 50 #[.pointer (some ⟨p, 0, none⟩), .int .i64 x, .int .i64 y] V (Tells V g c (restA W x y) (restN W H x y))) := Lib.hid (fun V k => grid_rest V p g c W H n f x y (h.keep k (fun z => z) (fun z => z)))
  by_cases hi : 0 ≤ x ∧ x < W ∧ 0 ≤ y ∧ y < H
  · have hF : atF W H f x y = f (restA W x y) := if_pos hi
    have hm : 0 < restN W H x y := by unfold restN; rw [if_pos hi]; omega
    have hle := restN_le h.hn x y hm
    have hg := h.hg
    have cc := h.l.val (restA W x y) (by omega)
    rw [hF]
    obtain ⟨a, ha⟩ : ∃ a, a = restA W x y := ⟨_, rfl⟩
    obtain ⟨m, hmq⟩ : ∃ m, m = restN W H x y := ⟨_, rfl⟩
    rw [← ha] at cc HR ⊢
    rw [← hmq] at hm HR
    obtain ⟨F, hFq⟩ : ∃ F, F = f a := ⟨_, rfl⟩
    rw [← hFq] at cc ⊢
    have c0 : w.cell? ⟨g, a * 6, none⟩ = some (.int .i32 F.r) := by have := cc 0 _ rfl; simpa using this
    have c1 : w.cell? ⟨g, a * 6 + 1, none⟩ = some (.int .i64 F.a.fg) := by have := cc 1 _ rfl; simpa using this
    have c2 : w.cell? ⟨g, a * 6 + 2, none⟩ = some (.int .i64 F.a.bg) := by have := cc 2 _ rfl; simpa using this
    have c3 : w.cell? ⟨g, a * 6 + 3, none⟩ = some (.bool F.a.b) := by have := cc 3 _ rfl; simpa using this
    have c4 : w.cell? ⟨g, a * 6 + 4, none⟩ = some (.bool F.a.u) := by have := cc 4 _ rfl; simpa using this
    have c5 : w.cell? ⟨g, a * 6 + 5, none⟩ = some (.bool F.a.i) := by have := cc 5 _ rfl; simpa using this
    have hmz : ((m : Int) == 0) = false := by simp; omega
    have hm0 : (0 : Int) < (m : Int) := by omega
    clear h hF hle cc ha hmq hFq hi
    go_enter Try.func35, Try.ntmps35
    go_wp2_with fail
    refine (HR.out _ ((Keep.refl _ w).alloc _)).mono ?_
    rintro e w2 ⟨⟨k, rfl⟩, ⟨hz, rfl⟩ | ⟨hz, rfl⟩⟩
    · exact absurd hz (by omega)
    · clear hz
      go_wp2_with fail
      refine bodyPost_ret (v := .agg #[.int .i32 F.r, .int .i64 F.a.fg, .int .i64 F.a.bg, .bool F.a.b, .bool F.a.u, .bool F.a.i]) (by simp [results, Try.results35, go_sem]) rfl ⟨rfl, ?_⟩
      repeat (first | (with_reducible exact Below.refl _ _) | (with_reducible refine Below.drewN' ?_ _) | (with_reducible refine Below.setCell ?_ (by simp) _) | (with_reducible refine Below.alloc ?_ (by simp) _))
  · have hF : atF W H f x y = .z := if_neg hi
    have hm : restN W H x y = 0 := if_neg hi
    rw [hF]
    rw [hm] at HR
    obtain ⟨a, ha⟩ : ∃ a, a = restA W x y := ⟨_, rfl⟩
    rw [← ha] at HR
    clear h hF hm hi ha
    go_enter Try.func35, Try.ntmps35
    go_wp2_with fail
    refine (HR.out _ ((Keep.refl _ w).alloc _)).mono ?_
    rintro e w2 ⟨⟨k, rfl⟩, ⟨-, rfl⟩ | ⟨hz, rfl⟩⟩
    · go_wp2_with fail
      refine bodyPost_ret (v := .agg #[.int .i32 0, .int .i64 0, .int .i64 0, .bool false, .bool false, .bool false]) (by simp [results, Try.results35, go_sem]) rfl ⟨rfl, ?_⟩
      repeat (first | (with_reducible exact Below.refl _ _) | (with_reducible refine Below.drewN' ?_ _) | (with_reducible refine Below.setCell ?_ (by simp) _) | (with_reducible refine Below.alloc ?_ (by simp) _))
    · exact absurd hz (by omega)

end Go.Proofs.Ytbjdcbnmpmcdiaa
