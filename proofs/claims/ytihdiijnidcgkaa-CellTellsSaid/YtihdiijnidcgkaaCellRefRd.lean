/- The document's ReadCell. By program (rgn/XCellRefRd.py). Own work. -/
import Derived.Test.YtihdiijnidcgkaaCellRdA
import Derived.Test.YtihdiijnidcgkaaCellA
import Derived.Test.YtihdiijnidcgkaaRefIn
import Derived.Deep.Cut
namespace Go.Proofs.Ytihdiijnidcgkaa
set_option linter.unusedVariables false
set_option linter.unusedSimpArgs false
open Go.RowKit

set_option maxRecDepth 100000 in
set_option maxHeartbeats 6400000 in
theorem refrd_err (p : Nat) (S : ByteArray) (hS : S.size ≤ 2000) (r f g mk : Int) (S1 S2 S3 S4 : ByteArray) (e1 e2 e3 e4 : Int) (h : Reads4 S r f g mk S1 S2 S3 S4 e1 e2 e3 e4) (w : World) (hr : RefAt w p S 0) (he : e4 ≠ 0) :
    Calls Try.prog 14 #[.pointer (some ⟨p, 0, none⟩)] w fun e w' => e = .returned (.agg #[.int .i32 0, .int .i64 0, .int .i64 0, .bool false, .bool false, .bool false]) ∧ (∃ t, RefAt w' p t e4) ∧ Keep (· = p) w w' := by
  have he1 : (e4 == 0) = false := by simpa using he
  have H4 := Lib.hid h
  have H := Lib.hid hr
  have hpl := hr.lt
  obtain ⟨w0, hw0⟩ : ∃ w0, w0 = w.alloc (.cells #[.int .i32 0, .int .i64 0, .int .i64 0, .bool false, .bool false, .bool false] 26) := ⟨_, rfl⟩
  have hR0 : w0.heap[w.heap.size]? = some (.cells #[.int .i32 0, .int .i64 0, .int .i64 0, .bool false, .bool false, .bool false] 26 (0, 0)) := by rw [hw0]; exact heap_alloc_new w _
  have HK0 : Hid (Keep (· = p) w w0) := Lib.hid (by rw [hw0]; exact (Keep.refl _ w).alloc _)
  have HI0 : Hid (RefAt w0 p S 0) := Lib.hid (by rw [hw0]; exact heap_alloc hr _)
  have HW0 := Lib.hid hw0
  obtain ⟨rc, hrc⟩ : ∃ rc, rc = w.heap.size := ⟨_, rfl⟩
  have hpr : p ≠ rc := by omega
  have HRC := Lib.hid hrc
  rw [← hrc] at hR0
  have HR0 := Lib.hid hR0
  clear h hr hw0 hrc hR0 hpl
  go_enter Try.func14, Try.ntmps14
  go_wp2_with fail
  rw [← HW0.out]
  try rw [← HRC.out]
  refine (refnum_any p S S 0 w0 HI0.out (fun _ => rfl) (by omega)).mono ?_
  rintro e w1 ⟨rfl, h1⟩
  rw [H4.out.n] at h1
  rw [H4.out.n]
  obtain ⟨t1, i1, q1, k1⟩ := h1
  have HI1 := Lib.hid i1
  have HQ1 := Lib.hid q1
  have HR1 := Lib.hid (k1.heap HR0.out (fun e => hpr e.symm))
  have HK1 : Hid (Keep (· = p) w w1) := Lib.hid (HK0.out.trans k1 (fun _ _ x => x))
  clear i1 q1 k1
  go_wp2_with fail
  refine (refbyte_any p S1 t1 e1 w1 HI1.out HQ1.out (by have := H4.out.z1; omega)).mono ?_
  rintro e w2 ⟨rfl, h1⟩
  rw [H4.out.b1] at h1
  rw [H4.out.b1]
  obtain ⟨t2, i1, q1, k1⟩ := h1
  have HI2 := Lib.hid i1
  have HQ2 := Lib.hid q1
  have HR2 := Lib.hid (k1.heap HR1.out (fun e => hpr e.symm))
  have HK2 : Hid (Keep (· = p) w w2) := Lib.hid (HK1.out.trans k1 (fun _ _ x => x))
  clear i1 q1 k1
  go_wp2_with fail
  refine (refbyte_any p S2 t2 e2 w2 HI2.out HQ2.out (by have := H4.out.z2; omega)).mono ?_
  rintro e w3 ⟨rfl, h1⟩
  rw [H4.out.b2] at h1
  rw [H4.out.b2]
  obtain ⟨t3, i1, q1, k1⟩ := h1
  have HI3 := Lib.hid i1
  have HQ3 := Lib.hid q1
  have HR3 := Lib.hid (k1.heap HR2.out (fun e => hpr e.symm))
  have HK3 : Hid (Keep (· = p) w w3) := Lib.hid (HK2.out.trans k1 (fun _ _ x => x))
  clear i1 q1 k1
  go_wp2_with fail
  refine (refbyte_any p S3 t3 e3 w3 HI3.out HQ3.out (by have := H4.out.z3; omega)).mono ?_
  rintro e w4 ⟨rfl, h1⟩
  rw [H4.out.b3] at h1
  rw [H4.out.b3]
  obtain ⟨t4, i1, q1, k1⟩ := h1
  have HI4 := Lib.hid i1
  have HQ4 := Lib.hid q1
  have HR4 := Lib.hid (k1.heap HR3.out (fun e => hpr e.symm))
  have HK4 : Hid (Keep (· = p) w w4) := Lib.hid (HK3.out.trans k1 (fun _ _ x => x))
  have d1 := i1.c1
  clear i1 q1 k1 HI0 HI1 HI2 HI3 HQ1 HQ2 HQ3 HR0 HR1 HR2 HR3 HK0 HK1 HK2 HK3
  obtain ⟨w7, hw7⟩ : ∃ w7, w4 = w7 := ⟨_, rfl⟩
  rw [hw7] at HR4 HK4 HI4 d1
  try rw [hw7]
  have HR7 := HR4
  have HK7 := HK4
  have HI7 := HI4
  clear HR4 HK4 HI4 hw7
  go_wp2_with (with_reducible refine wpList_store_at rfl _ _ _ rfl rc 0 #[.int .i32 0, .int .i64 0, .int .i64 0, .bool false, .bool false, .bool false] ?hx ?hy ?hi ?h1 ?hc ?hf ?_)
  case hx => rfl
  case hy => rfl
  case hi => exact cell_info
  case h1 => simp [Value.oneCell']
  case hc => intro j hj; rcases j with _ | _ | _ | _ | _ | _ | j <;> first | (rw [cell_at HR7.out _]; rfl) | (simp at hj; omega)
  case hf => intro j hj; exact free_at HR7.out _
  obtain ⟨W8, hW8⟩ : ∃ W8, W8 = w7.setCells rc 0 (#[.int .i32 0, .int .i64 0, .int .i64 0, .bool false, .bool false, .bool false] : Array Value).toList := ⟨_, rfl⟩
  have hs7 : ∀ j, j < 6 → (w7.cell? ⟨rc, 0 + j, none⟩).isSome = true := by intro j hj; rcases j with _ | _ | _ | _ | _ | _ | j <;> first | (rw [cell_at HR7.out _]; rfl) | omega
  have hin := fun j hj => World.cell?_setCells_in rc [.int .i32 0, .int .i64 0, .int .i64 0, .bool false, .bool false, .bool false] 0 w7 hs7 j hj
  have b0 : W8.cell? ⟨rc, 0, none⟩ = some (.int .i32 0) := by rw [hW8]; exact hin 0 (by simp)
  have b1 : W8.cell? ⟨rc, 1, none⟩ = some (.int .i64 0) := by rw [hW8]; exact hin 1 (by simp)
  have b2 : W8.cell? ⟨rc, 2, none⟩ = some (.int .i64 0) := by rw [hW8]; exact hin 2 (by simp)
  have b3 : W8.cell? ⟨rc, 3, none⟩ = some (.bool false) := by rw [hW8]; exact hin 3 (by simp)
  have b4 : W8.cell? ⟨rc, 4, none⟩ = some (.bool false) := by rw [hW8]; exact hin 4 (by simp)
  have b5 : W8.cell? ⟨rc, 5, none⟩ = some (.bool false) := by rw [hW8]; exact hin 5 (by simp)
  have k8 : Keep (· = rc) w7 W8 := by rw [hW8]; exact keep_setCells (S := (· = rc)) rc (fun _ => rfl) _ _ _ (Keep.refl _ _)
  have HI8 := Lib.hid (HI7.out.keep k8 hpr)
  have HK8 : Hid (Keep (· = p) w W8) := Lib.hid (HK7.out.trans (k8.mono (S' := fun i => i = p ∨ w.heap.size ≤ i) (fun i _ e => .inr (by rw [show i = rc from e, HRC.out]; exact Nat.le_refl _))) (fun i hi e => by
    rcases e with e | e
    · exact e
    · omega))
  rw [← hW8]
  clear hW8 hin hs7 HR7 HK7 HI7 k8
  go_wp2_with fail
  refine bodyPost_ret (v := .agg #[.int .i32 0, .int .i64 0, .int .i64 0, .bool false, .bool false, .bool false]) (by simp [results, Try.results14, go_sem, b0, b1, b2, b3, b4, b5]) rfl ⟨rfl, ⟨t4, HI8.out⟩, HK8.out⟩

set_option maxRecDepth 100000 in
set_option maxHeartbeats 6400000 in
theorem refrd_ok (p : Nat) (S : ByteArray) (hS : S.size ≤ 2000) (r f g mk : Int) (S1 S2 S3 S4 : ByteArray) (e1 e2 e3 e4 : Int) (h : Reads4 S r f g mk S1 S2 S3 S4 e1 e2 e3 e4) (w : World) (hr : RefAt w p S 0) (b u i : Bool) (e1' : (mk % 2 == 1) = b) (e2' : (mk / 2 % 2 == 1) = u) (e4' : (mk / 4 % 2 == 1) = i) (hm0 : 0 ≤ mk) (hm256 : mk < 256) (he : e4 = 0) (ha : At.ok ⟨f, g, b, u, i⟩) (hr0 : 0 ≤ r) (hr1 : ¬ r > 1114111) (hm : ¬ mk > 7) :
    Calls Try.prog 14 #[.pointer (some ⟨p, 0, none⟩)] w fun e w' => e = .returned (.agg #[.int .i32 r, .int .i64 f, .int .i64 g, .bool b, .bool u, .bool i]) ∧ RefAt w' p S4 0 ∧ Keep (· = p) w w' := by
  subst he
  have E1 := Lib.hid e1'
  have E2 := Lib.hid e2'
  have E4 := Lib.hid e4'
  have HV := Lib.hid (fun V => ref_valid ⟨f, g, b, u, i⟩ V true (by exact decide_eq_true ha))
  simp only [At.v] at HV
  have hr32 : IntKind.i32.wrap r = r := by rw [IntKind.wrap_i32]; omega
  clear e1' e2' e4'
  have H4 := Lib.hid h
  have H := Lib.hid hr
  have hpl := hr.lt
  obtain ⟨w0, hw0⟩ : ∃ w0, w0 = w.alloc (.cells #[.int .i32 0, .int .i64 0, .int .i64 0, .bool false, .bool false, .bool false] 26) := ⟨_, rfl⟩
  have hR0 : w0.heap[w.heap.size]? = some (.cells #[.int .i32 0, .int .i64 0, .int .i64 0, .bool false, .bool false, .bool false] 26 (0, 0)) := by rw [hw0]; exact heap_alloc_new w _
  have HK0 : Hid (Keep (· = p) w w0) := Lib.hid (by rw [hw0]; exact (Keep.refl _ w).alloc _)
  have HI0 : Hid (RefAt w0 p S 0) := Lib.hid (by rw [hw0]; exact heap_alloc hr _)
  have HW0 := Lib.hid hw0
  obtain ⟨rc, hrc⟩ : ∃ rc, rc = w.heap.size := ⟨_, rfl⟩
  have hpr : p ≠ rc := by omega
  have HRC := Lib.hid hrc
  rw [← hrc] at hR0
  have HR0 := Lib.hid hR0
  clear h hr hw0 hrc hR0 hpl
  go_enter Try.func14, Try.ntmps14
  go_wp2_with fail
  rw [← HW0.out]
  try rw [← HRC.out]
  refine (refnum_any p S S 0 w0 HI0.out (fun _ => rfl) (by omega)).mono ?_
  rintro e w1 ⟨rfl, h1⟩
  rw [H4.out.n] at h1
  rw [H4.out.n]
  obtain ⟨t1, i1, q1, k1⟩ := h1
  have HI1 := Lib.hid i1
  have HQ1 := Lib.hid q1
  have HR1 := Lib.hid (k1.heap HR0.out (fun e => hpr e.symm))
  have HK1 : Hid (Keep (· = p) w w1) := Lib.hid (HK0.out.trans k1 (fun _ _ x => x))
  clear i1 q1 k1
  go_wp2_with fail
  refine (refbyte_any p S1 t1 e1 w1 HI1.out HQ1.out (by have := H4.out.z1; omega)).mono ?_
  rintro e w2 ⟨rfl, h1⟩
  rw [H4.out.b1] at h1
  rw [H4.out.b1]
  obtain ⟨t2, i1, q1, k1⟩ := h1
  have HI2 := Lib.hid i1
  have HQ2 := Lib.hid q1
  have HR2 := Lib.hid (k1.heap HR1.out (fun e => hpr e.symm))
  have HK2 : Hid (Keep (· = p) w w2) := Lib.hid (HK1.out.trans k1 (fun _ _ x => x))
  clear i1 q1 k1
  go_wp2_with fail
  refine (refbyte_any p S2 t2 e2 w2 HI2.out HQ2.out (by have := H4.out.z2; omega)).mono ?_
  rintro e w3 ⟨rfl, h1⟩
  rw [H4.out.b2] at h1
  rw [H4.out.b2]
  obtain ⟨t3, i1, q1, k1⟩ := h1
  have HI3 := Lib.hid i1
  have HQ3 := Lib.hid q1
  have HR3 := Lib.hid (k1.heap HR2.out (fun e => hpr e.symm))
  have HK3 : Hid (Keep (· = p) w w3) := Lib.hid (HK2.out.trans k1 (fun _ _ x => x))
  clear i1 q1 k1
  go_wp2_with fail
  refine (refbyte_any p S3 t3 e3 w3 HI3.out HQ3.out (by have := H4.out.z3; omega)).mono ?_
  rintro e w4 ⟨rfl, h1⟩
  rw [H4.out.b3] at h1
  rw [H4.out.b3]
  obtain ⟨t4, i1, q1, k1⟩ := h1
  have HI4 := Lib.hid i1
  have HQ4 := Lib.hid q1
  have HR4 := Lib.hid (k1.heap HR3.out (fun e => hpr e.symm))
  have HK4 : Hid (Keep (· = p) w w4) := Lib.hid (HK3.out.trans k1 (fun _ _ x => x))
  have d1 := i1.c1
  clear i1 q1 k1 HI0 HI1 HI2 HI3 HQ1 HQ2 HQ3 HR0 HR1 HR2 HR3 HK0 HK1 HK2 HK3
  go_wp2_with fail
  try rw [E1.out]
  try rw [E2.out]
  try rw [E4.out]
  refine (HV.out _).mono ?_
  rintro e w6 ⟨rfl, hb⟩
  obtain ⟨w5, hw5⟩ : ∃ w5, w5 = w4.alloc (.cells #[.int .i64 f, .int .i64 g, .bool b, .bool u, .bool i] 23) := ⟨_, rfl⟩
  have k46 : Keep (fun _ => False) w4 w6 := ((Keep.refl _ w4).alloc _).trans (Keep.of_below (fun _ => False) hb) (fun _ _ x => x)
  have HR6 := Lib.hid (k46.heap HR4.out (fun x => x))
  have HK6 : Hid (Keep (· = p) w w6) := Lib.hid (HK4.out.trans (k46.mono (S' := (· = p)) (fun _ _ x => x.elim)) (fun _ _ x => x))
  have HI6 := Lib.hid (HI4.out.keep k46 (fun x => x))
  have HA6 := Lib.hid ((Keep.of_below (fun _ => False) hb).heap (heap_alloc_new w4 (.cells #[.int .i64 f, .int .i64 g, .bool b, .bool u, .bool i] 23)) (fun y => y))
  have HP6 : Hid (w4.heap.size ≠ p) := Lib.hid (by have := HI4.out.lt; omega)
  clear hb k46 hw5 d1 HR4 HK4 HI4
  have hq4 := HQ4.out trivial
  subst hq4
  have a0 : w6.cell? ⟨w4.heap.size, 0, none⟩ = some (.int .i64 f) := cell_at HA6.out 0
  have a1 : w6.cell? ⟨w4.heap.size, 1, none⟩ = some (.int .i64 g) := cell_at HA6.out 1
  have a2 : w6.cell? ⟨w4.heap.size, 2, none⟩ = some (.bool b) := cell_at HA6.out 2
  have a3 : w6.cell? ⟨w4.heap.size, 3, none⟩ = some (.bool u) := cell_at HA6.out 3
  have a4 : w6.cell? ⟨w4.heap.size, 4, none⟩ = some (.bool i) := cell_at HA6.out 4
  obtain ⟨w7, hw7⟩ : ∃ w7, w6 = w7 := ⟨_, rfl⟩
  rw [hw7] at HR6 HK6 HI6 a0 a1 a2 a3 a4
  rw [hw7]
  have HR7 := HR6
  have HK7 := HK6
  have HI7 := HI6
  clear HR6 HK6 HI6 hw7 HA6
  go_wp2_with (with_reducible refine wpList_store_at rfl _ _ _ rfl rc 0 #[.int .i32 r, .int .i64 f, .int .i64 g, .bool b, .bool u, .bool i] ?hx ?hy ?hi ?h1 ?hc ?hf ?_)
  case hx => rfl
  case hy => rfl
  case hi => exact cell_info
  case h1 => simp [Value.oneCell']
  case hc => intro j hj; rcases j with _ | _ | _ | _ | _ | _ | j <;> first | (rw [cell_at HR7.out _]; rfl) | (simp at hj; omega)
  case hf => intro j hj; exact free_at HR7.out _
  obtain ⟨W8, hW8⟩ : ∃ W8, W8 = w7.setCells rc 0 (#[.int .i32 r, .int .i64 f, .int .i64 g, .bool b, .bool u, .bool i] : Array Value).toList := ⟨_, rfl⟩
  have hs7 : ∀ j, j < 6 → (w7.cell? ⟨rc, 0 + j, none⟩).isSome = true := by intro j hj; rcases j with _ | _ | _ | _ | _ | _ | j <;> first | (rw [cell_at HR7.out _]; rfl) | omega
  have hin := fun j hj => World.cell?_setCells_in rc [.int .i32 r, .int .i64 f, .int .i64 g, .bool b, .bool u, .bool i] 0 w7 hs7 j hj
  have b0 : W8.cell? ⟨rc, 0, none⟩ = some (.int .i32 r) := by rw [hW8]; exact hin 0 (by simp)
  have b1 : W8.cell? ⟨rc, 1, none⟩ = some (.int .i64 f) := by rw [hW8]; exact hin 1 (by simp)
  have b2 : W8.cell? ⟨rc, 2, none⟩ = some (.int .i64 g) := by rw [hW8]; exact hin 2 (by simp)
  have b3 : W8.cell? ⟨rc, 3, none⟩ = some (.bool b) := by rw [hW8]; exact hin 3 (by simp)
  have b4 : W8.cell? ⟨rc, 4, none⟩ = some (.bool u) := by rw [hW8]; exact hin 4 (by simp)
  have b5 : W8.cell? ⟨rc, 5, none⟩ = some (.bool i) := by rw [hW8]; exact hin 5 (by simp)
  have k8 : Keep (· = rc) w7 W8 := by rw [hW8]; exact keep_setCells (S := (· = rc)) rc (fun _ => rfl) _ _ _ (Keep.refl _ _)
  have HI8 := Lib.hid (HI7.out.keep k8 hpr)
  have HK8 : Hid (Keep (· = p) w W8) := Lib.hid (HK7.out.trans (k8.mono (S' := fun i => i = p ∨ w.heap.size ≤ i) (fun i _ e => .inr (by rw [show i = rc from e, HRC.out]; exact Nat.le_refl _))) (fun i hi e => by
    rcases e with e | e
    · exact e
    · omega))
  rw [← hW8]
  clear hW8 hin hs7 HR7 HK7 HI7 k8
  go_wp2_with fail
  refine bodyPost_ret (v := .agg #[.int .i32 r, .int .i64 f, .int .i64 g, .bool b, .bool u, .bool i]) (by simp [results, Try.results14, go_sem, b0, b1, b2, b3, b4, b5]) rfl ⟨rfl, HI8.out, HK8.out⟩

set_option maxRecDepth 100000 in
set_option maxHeartbeats 6400000 in
theorem refrd_attr (p : Nat) (S : ByteArray) (hS : S.size ≤ 2000) (r f g mk : Int) (S1 S2 S3 S4 : ByteArray) (e1 e2 e3 e4 : Int) (h : Reads4 S r f g mk S1 S2 S3 S4 e1 e2 e3 e4) (w : World) (hr : RefAt w p S 0) (b u i : Bool) (e1' : (mk % 2 == 1) = b) (e2' : (mk / 2 % 2 == 1) = u) (e4' : (mk / 4 % 2 == 1) = i) (hm0 : 0 ≤ mk) (hm256 : mk < 256) (he : e4 = 0) (ha : ¬ At.ok ⟨f, g, b, u, i⟩) :
    Calls Try.prog 14 #[.pointer (some ⟨p, 0, none⟩)] w fun e w' => e = .returned (.agg #[.int .i32 0, .int .i64 0, .int .i64 0, .bool false, .bool false, .bool false]) ∧ (∃ t, RefAt w' p t 3) ∧ Keep (· = p) w w' := by
  subst he
  have E1 := Lib.hid e1'
  have E2 := Lib.hid e2'
  have E4 := Lib.hid e4'
  have HV := Lib.hid (fun V => ref_valid ⟨f, g, b, u, i⟩ V false (by exact decide_eq_false ha))
  simp only [At.v] at HV
  clear e1' e2' e4'
  have H4 := Lib.hid h
  have H := Lib.hid hr
  have hpl := hr.lt
  obtain ⟨w0, hw0⟩ : ∃ w0, w0 = w.alloc (.cells #[.int .i32 0, .int .i64 0, .int .i64 0, .bool false, .bool false, .bool false] 26) := ⟨_, rfl⟩
  have hR0 : w0.heap[w.heap.size]? = some (.cells #[.int .i32 0, .int .i64 0, .int .i64 0, .bool false, .bool false, .bool false] 26 (0, 0)) := by rw [hw0]; exact heap_alloc_new w _
  have HK0 : Hid (Keep (· = p) w w0) := Lib.hid (by rw [hw0]; exact (Keep.refl _ w).alloc _)
  have HI0 : Hid (RefAt w0 p S 0) := Lib.hid (by rw [hw0]; exact heap_alloc hr _)
  have HW0 := Lib.hid hw0
  obtain ⟨rc, hrc⟩ : ∃ rc, rc = w.heap.size := ⟨_, rfl⟩
  have hpr : p ≠ rc := by omega
  have HRC := Lib.hid hrc
  rw [← hrc] at hR0
  have HR0 := Lib.hid hR0
  clear h hr hw0 hrc hR0 hpl
  go_enter Try.func14, Try.ntmps14
  go_wp2_with fail
  rw [← HW0.out]
  try rw [← HRC.out]
  refine (refnum_any p S S 0 w0 HI0.out (fun _ => rfl) (by omega)).mono ?_
  rintro e w1 ⟨rfl, h1⟩
  rw [H4.out.n] at h1
  rw [H4.out.n]
  obtain ⟨t1, i1, q1, k1⟩ := h1
  have HI1 := Lib.hid i1
  have HQ1 := Lib.hid q1
  have HR1 := Lib.hid (k1.heap HR0.out (fun e => hpr e.symm))
  have HK1 : Hid (Keep (· = p) w w1) := Lib.hid (HK0.out.trans k1 (fun _ _ x => x))
  clear i1 q1 k1
  go_wp2_with fail
  refine (refbyte_any p S1 t1 e1 w1 HI1.out HQ1.out (by have := H4.out.z1; omega)).mono ?_
  rintro e w2 ⟨rfl, h1⟩
  rw [H4.out.b1] at h1
  rw [H4.out.b1]
  obtain ⟨t2, i1, q1, k1⟩ := h1
  have HI2 := Lib.hid i1
  have HQ2 := Lib.hid q1
  have HR2 := Lib.hid (k1.heap HR1.out (fun e => hpr e.symm))
  have HK2 : Hid (Keep (· = p) w w2) := Lib.hid (HK1.out.trans k1 (fun _ _ x => x))
  clear i1 q1 k1
  go_wp2_with fail
  refine (refbyte_any p S2 t2 e2 w2 HI2.out HQ2.out (by have := H4.out.z2; omega)).mono ?_
  rintro e w3 ⟨rfl, h1⟩
  rw [H4.out.b2] at h1
  rw [H4.out.b2]
  obtain ⟨t3, i1, q1, k1⟩ := h1
  have HI3 := Lib.hid i1
  have HQ3 := Lib.hid q1
  have HR3 := Lib.hid (k1.heap HR2.out (fun e => hpr e.symm))
  have HK3 : Hid (Keep (· = p) w w3) := Lib.hid (HK2.out.trans k1 (fun _ _ x => x))
  clear i1 q1 k1
  go_wp2_with fail
  refine (refbyte_any p S3 t3 e3 w3 HI3.out HQ3.out (by have := H4.out.z3; omega)).mono ?_
  rintro e w4 ⟨rfl, h1⟩
  rw [H4.out.b3] at h1
  rw [H4.out.b3]
  obtain ⟨t4, i1, q1, k1⟩ := h1
  have HI4 := Lib.hid i1
  have HQ4 := Lib.hid q1
  have HR4 := Lib.hid (k1.heap HR3.out (fun e => hpr e.symm))
  have HK4 : Hid (Keep (· = p) w w4) := Lib.hid (HK3.out.trans k1 (fun _ _ x => x))
  have d1 := i1.c1
  clear i1 q1 k1 HI0 HI1 HI2 HI3 HQ1 HQ2 HQ3 HR0 HR1 HR2 HR3 HK0 HK1 HK2 HK3
  go_wp2_with fail
  try rw [E1.out]
  try rw [E2.out]
  try rw [E4.out]
  refine (HV.out _).mono ?_
  rintro e w6 ⟨rfl, hb⟩
  obtain ⟨w5, hw5⟩ : ∃ w5, w5 = w4.alloc (.cells #[.int .i64 f, .int .i64 g, .bool b, .bool u, .bool i] 23) := ⟨_, rfl⟩
  have k46 : Keep (fun _ => False) w4 w6 := ((Keep.refl _ w4).alloc _).trans (Keep.of_below (fun _ => False) hb) (fun _ _ x => x)
  have HR6 := Lib.hid (k46.heap HR4.out (fun x => x))
  have HK6 : Hid (Keep (· = p) w w6) := Lib.hid (HK4.out.trans (k46.mono (S' := (· = p)) (fun _ _ x => x.elim)) (fun _ _ x => x))
  have HI6 := Lib.hid (HI4.out.keep k46 (fun x => x))
  have HA6 := Lib.hid ((Keep.of_below (fun _ => False) hb).heap (heap_alloc_new w4 (.cells #[.int .i64 f, .int .i64 g, .bool b, .bool u, .bool i] 23)) (fun y => y))
  have HP6 : Hid (w4.heap.size ≠ p) := Lib.hid (by have := HI4.out.lt; omega)
  clear hb k46 hw5 d1 HR4 HK4 HI4
  obtain ⟨w7, hw7⟩ : ∃ w7, w7 = w6.setCell ⟨p, 1, none⟩ (.int .i64 3) := ⟨_, rfl⟩
  have HR7 : Hid (w7.heap[rc]? = some (.cells #[.int .i32 0, .int .i64 0, .int .i64 0, .bool false, .bool false, .bool false] 26 (0, 0))) := Lib.hid (by rw [hw7]; exact heap_far HR6.out (fun e => hpr e.symm) _)
  have HK7 : Hid (Keep (· = p) w w7) := Lib.hid (by rw [hw7]; exact HK6.out.own 1 _)
  have HI7 : Hid (RefAt w7 p t4 3) := Lib.hid (by rw [hw7]; exact HI6.out.set1 3)
  have dp := HI6.out.c1
  have fp := HI6.out.fr 1
  have HW7 := Lib.hid hw7
  clear HR6 HK6 HI6 HA6 hw7
  go_upto_region 8 with fail
  rw [← HW7.out]
  clear dp fp HW7
  go_wp2_with (with_reducible refine wpList_store_at rfl _ _ _ rfl rc 0 #[.int .i32 0, .int .i64 0, .int .i64 0, .bool false, .bool false, .bool false] ?hx ?hy ?hi ?h1 ?hc ?hf ?_)
  case hx => rfl
  case hy => rfl
  case hi => exact cell_info
  case h1 => simp [Value.oneCell']
  case hc => intro j hj; rcases j with _ | _ | _ | _ | _ | _ | j <;> first | (rw [cell_at HR7.out _]; rfl) | (simp at hj; omega)
  case hf => intro j hj; exact free_at HR7.out _
  obtain ⟨W8, hW8⟩ : ∃ W8, W8 = w7.setCells rc 0 (#[.int .i32 0, .int .i64 0, .int .i64 0, .bool false, .bool false, .bool false] : Array Value).toList := ⟨_, rfl⟩
  have hs7 : ∀ j, j < 6 → (w7.cell? ⟨rc, 0 + j, none⟩).isSome = true := by intro j hj; rcases j with _ | _ | _ | _ | _ | _ | j <;> first | (rw [cell_at HR7.out _]; rfl) | omega
  have hin := fun j hj => World.cell?_setCells_in rc [.int .i32 0, .int .i64 0, .int .i64 0, .bool false, .bool false, .bool false] 0 w7 hs7 j hj
  have b0 : W8.cell? ⟨rc, 0, none⟩ = some (.int .i32 0) := by rw [hW8]; exact hin 0 (by simp)
  have b1 : W8.cell? ⟨rc, 1, none⟩ = some (.int .i64 0) := by rw [hW8]; exact hin 1 (by simp)
  have b2 : W8.cell? ⟨rc, 2, none⟩ = some (.int .i64 0) := by rw [hW8]; exact hin 2 (by simp)
  have b3 : W8.cell? ⟨rc, 3, none⟩ = some (.bool false) := by rw [hW8]; exact hin 3 (by simp)
  have b4 : W8.cell? ⟨rc, 4, none⟩ = some (.bool false) := by rw [hW8]; exact hin 4 (by simp)
  have b5 : W8.cell? ⟨rc, 5, none⟩ = some (.bool false) := by rw [hW8]; exact hin 5 (by simp)
  have k8 : Keep (· = rc) w7 W8 := by rw [hW8]; exact keep_setCells (S := (· = rc)) rc (fun _ => rfl) _ _ _ (Keep.refl _ _)
  have HI8 := Lib.hid (HI7.out.keep k8 hpr)
  have HK8 : Hid (Keep (· = p) w W8) := Lib.hid (HK7.out.trans (k8.mono (S' := fun i => i = p ∨ w.heap.size ≤ i) (fun i _ e => .inr (by rw [show i = rc from e, HRC.out]; exact Nat.le_refl _))) (fun i hi e => by
    rcases e with e | e
    · exact e
    · omega))
  rw [← hW8]
  clear hW8 hin hs7 HR7 HK7 HI7 k8
  go_wp2_with fail
  refine bodyPost_ret (v := .agg #[.int .i32 0, .int .i64 0, .int .i64 0, .bool false, .bool false, .bool false]) (by simp [results, Try.results14, go_sem, b0, b1, b2, b3, b4, b5]) rfl ⟨rfl, ⟨t4, HI8.out⟩, HK8.out⟩

set_option maxRecDepth 100000 in
set_option maxHeartbeats 6400000 in
theorem refrd_rune (p : Nat) (S : ByteArray) (hS : S.size ≤ 2000) (r f g mk : Int) (S1 S2 S3 S4 : ByteArray) (e1 e2 e3 e4 : Int) (h : Reads4 S r f g mk S1 S2 S3 S4 e1 e2 e3 e4) (w : World) (hr : RefAt w p S 0) (b u i : Bool) (e1' : (mk % 2 == 1) = b) (e2' : (mk / 2 % 2 == 1) = u) (e4' : (mk / 4 % 2 == 1) = i) (hm0 : 0 ≤ mk) (hm256 : mk < 256) (he : e4 = 0) (ha : At.ok ⟨f, g, b, u, i⟩) (hr1 : r > 1114111) :
    Calls Try.prog 14 #[.pointer (some ⟨p, 0, none⟩)] w fun e w' => e = .returned (.agg #[.int .i32 0, .int .i64 0, .int .i64 0, .bool false, .bool false, .bool false]) ∧ (∃ t, RefAt w' p t 3) ∧ Keep (· = p) w w' := by
  subst he
  have E1 := Lib.hid e1'
  have E2 := Lib.hid e2'
  have E4 := Lib.hid e4'
  have HV := Lib.hid (fun V => ref_valid ⟨f, g, b, u, i⟩ V true (by exact decide_eq_true ha))
  simp only [At.v] at HV
  clear e1' e2' e4'
  have H4 := Lib.hid h
  have H := Lib.hid hr
  have hpl := hr.lt
  obtain ⟨w0, hw0⟩ : ∃ w0, w0 = w.alloc (.cells #[.int .i32 0, .int .i64 0, .int .i64 0, .bool false, .bool false, .bool false] 26) := ⟨_, rfl⟩
  have hR0 : w0.heap[w.heap.size]? = some (.cells #[.int .i32 0, .int .i64 0, .int .i64 0, .bool false, .bool false, .bool false] 26 (0, 0)) := by rw [hw0]; exact heap_alloc_new w _
  have HK0 : Hid (Keep (· = p) w w0) := Lib.hid (by rw [hw0]; exact (Keep.refl _ w).alloc _)
  have HI0 : Hid (RefAt w0 p S 0) := Lib.hid (by rw [hw0]; exact heap_alloc hr _)
  have HW0 := Lib.hid hw0
  obtain ⟨rc, hrc⟩ : ∃ rc, rc = w.heap.size := ⟨_, rfl⟩
  have hpr : p ≠ rc := by omega
  have HRC := Lib.hid hrc
  rw [← hrc] at hR0
  have HR0 := Lib.hid hR0
  clear h hr hw0 hrc hR0 hpl
  go_enter Try.func14, Try.ntmps14
  go_wp2_with fail
  rw [← HW0.out]
  try rw [← HRC.out]
  refine (refnum_any p S S 0 w0 HI0.out (fun _ => rfl) (by omega)).mono ?_
  rintro e w1 ⟨rfl, h1⟩
  rw [H4.out.n] at h1
  rw [H4.out.n]
  obtain ⟨t1, i1, q1, k1⟩ := h1
  have HI1 := Lib.hid i1
  have HQ1 := Lib.hid q1
  have HR1 := Lib.hid (k1.heap HR0.out (fun e => hpr e.symm))
  have HK1 : Hid (Keep (· = p) w w1) := Lib.hid (HK0.out.trans k1 (fun _ _ x => x))
  clear i1 q1 k1
  go_wp2_with fail
  refine (refbyte_any p S1 t1 e1 w1 HI1.out HQ1.out (by have := H4.out.z1; omega)).mono ?_
  rintro e w2 ⟨rfl, h1⟩
  rw [H4.out.b1] at h1
  rw [H4.out.b1]
  obtain ⟨t2, i1, q1, k1⟩ := h1
  have HI2 := Lib.hid i1
  have HQ2 := Lib.hid q1
  have HR2 := Lib.hid (k1.heap HR1.out (fun e => hpr e.symm))
  have HK2 : Hid (Keep (· = p) w w2) := Lib.hid (HK1.out.trans k1 (fun _ _ x => x))
  clear i1 q1 k1
  go_wp2_with fail
  refine (refbyte_any p S2 t2 e2 w2 HI2.out HQ2.out (by have := H4.out.z2; omega)).mono ?_
  rintro e w3 ⟨rfl, h1⟩
  rw [H4.out.b2] at h1
  rw [H4.out.b2]
  obtain ⟨t3, i1, q1, k1⟩ := h1
  have HI3 := Lib.hid i1
  have HQ3 := Lib.hid q1
  have HR3 := Lib.hid (k1.heap HR2.out (fun e => hpr e.symm))
  have HK3 : Hid (Keep (· = p) w w3) := Lib.hid (HK2.out.trans k1 (fun _ _ x => x))
  clear i1 q1 k1
  go_wp2_with fail
  refine (refbyte_any p S3 t3 e3 w3 HI3.out HQ3.out (by have := H4.out.z3; omega)).mono ?_
  rintro e w4 ⟨rfl, h1⟩
  rw [H4.out.b3] at h1
  rw [H4.out.b3]
  obtain ⟨t4, i1, q1, k1⟩ := h1
  have HI4 := Lib.hid i1
  have HQ4 := Lib.hid q1
  have HR4 := Lib.hid (k1.heap HR3.out (fun e => hpr e.symm))
  have HK4 : Hid (Keep (· = p) w w4) := Lib.hid (HK3.out.trans k1 (fun _ _ x => x))
  have d1 := i1.c1
  clear i1 q1 k1 HI0 HI1 HI2 HI3 HQ1 HQ2 HQ3 HR0 HR1 HR2 HR3 HK0 HK1 HK2 HK3
  go_wp2_with fail
  try rw [E1.out]
  try rw [E2.out]
  try rw [E4.out]
  refine (HV.out _).mono ?_
  rintro e w6 ⟨rfl, hb⟩
  obtain ⟨w5, hw5⟩ : ∃ w5, w5 = w4.alloc (.cells #[.int .i64 f, .int .i64 g, .bool b, .bool u, .bool i] 23) := ⟨_, rfl⟩
  have k46 : Keep (fun _ => False) w4 w6 := ((Keep.refl _ w4).alloc _).trans (Keep.of_below (fun _ => False) hb) (fun _ _ x => x)
  have HR6 := Lib.hid (k46.heap HR4.out (fun x => x))
  have HK6 : Hid (Keep (· = p) w w6) := Lib.hid (HK4.out.trans (k46.mono (S' := (· = p)) (fun _ _ x => x.elim)) (fun _ _ x => x))
  have HI6 := Lib.hid (HI4.out.keep k46 (fun x => x))
  have HA6 := Lib.hid ((Keep.of_below (fun _ => False) hb).heap (heap_alloc_new w4 (.cells #[.int .i64 f, .int .i64 g, .bool b, .bool u, .bool i] 23)) (fun y => y))
  have HP6 : Hid (w4.heap.size ≠ p) := Lib.hid (by have := HI4.out.lt; omega)
  clear hb k46 hw5 d1 HR4 HK4 HI4
  obtain ⟨w7, hw7⟩ : ∃ w7, w7 = w6.setCell ⟨p, 1, none⟩ (.int .i64 3) := ⟨_, rfl⟩
  have HR7 : Hid (w7.heap[rc]? = some (.cells #[.int .i32 0, .int .i64 0, .int .i64 0, .bool false, .bool false, .bool false] 26 (0, 0))) := Lib.hid (by rw [hw7]; exact heap_far HR6.out (fun e => hpr e.symm) _)
  have HK7 : Hid (Keep (· = p) w w7) := Lib.hid (by rw [hw7]; exact HK6.out.own 1 _)
  have HI7 : Hid (RefAt w7 p t4 3) := Lib.hid (by rw [hw7]; exact HI6.out.set1 3)
  have dp := HI6.out.c1
  have fp := HI6.out.fr 1
  have HW7 := Lib.hid hw7
  clear HR6 HK6 HI6 HA6 hw7
  go_upto_region 8 with fail
  rw [← HW7.out]
  clear dp fp HW7
  go_wp2_with (with_reducible refine wpList_store_at rfl _ _ _ rfl rc 0 #[.int .i32 0, .int .i64 0, .int .i64 0, .bool false, .bool false, .bool false] ?hx ?hy ?hi ?h1 ?hc ?hf ?_)
  case hx => rfl
  case hy => rfl
  case hi => exact cell_info
  case h1 => simp [Value.oneCell']
  case hc => intro j hj; rcases j with _ | _ | _ | _ | _ | _ | j <;> first | (rw [cell_at HR7.out _]; rfl) | (simp at hj; omega)
  case hf => intro j hj; exact free_at HR7.out _
  obtain ⟨W8, hW8⟩ : ∃ W8, W8 = w7.setCells rc 0 (#[.int .i32 0, .int .i64 0, .int .i64 0, .bool false, .bool false, .bool false] : Array Value).toList := ⟨_, rfl⟩
  have hs7 : ∀ j, j < 6 → (w7.cell? ⟨rc, 0 + j, none⟩).isSome = true := by intro j hj; rcases j with _ | _ | _ | _ | _ | _ | j <;> first | (rw [cell_at HR7.out _]; rfl) | omega
  have hin := fun j hj => World.cell?_setCells_in rc [.int .i32 0, .int .i64 0, .int .i64 0, .bool false, .bool false, .bool false] 0 w7 hs7 j hj
  have b0 : W8.cell? ⟨rc, 0, none⟩ = some (.int .i32 0) := by rw [hW8]; exact hin 0 (by simp)
  have b1 : W8.cell? ⟨rc, 1, none⟩ = some (.int .i64 0) := by rw [hW8]; exact hin 1 (by simp)
  have b2 : W8.cell? ⟨rc, 2, none⟩ = some (.int .i64 0) := by rw [hW8]; exact hin 2 (by simp)
  have b3 : W8.cell? ⟨rc, 3, none⟩ = some (.bool false) := by rw [hW8]; exact hin 3 (by simp)
  have b4 : W8.cell? ⟨rc, 4, none⟩ = some (.bool false) := by rw [hW8]; exact hin 4 (by simp)
  have b5 : W8.cell? ⟨rc, 5, none⟩ = some (.bool false) := by rw [hW8]; exact hin 5 (by simp)
  have k8 : Keep (· = rc) w7 W8 := by rw [hW8]; exact keep_setCells (S := (· = rc)) rc (fun _ => rfl) _ _ _ (Keep.refl _ _)
  have HI8 := Lib.hid (HI7.out.keep k8 hpr)
  have HK8 : Hid (Keep (· = p) w W8) := Lib.hid (HK7.out.trans (k8.mono (S' := fun i => i = p ∨ w.heap.size ≤ i) (fun i _ e => .inr (by rw [show i = rc from e, HRC.out]; exact Nat.le_refl _))) (fun i hi e => by
    rcases e with e | e
    · exact e
    · omega))
  rw [← hW8]
  clear hW8 hin hs7 HR7 HK7 HI7 k8
  go_wp2_with fail
  refine bodyPost_ret (v := .agg #[.int .i32 0, .int .i64 0, .int .i64 0, .bool false, .bool false, .bool false]) (by simp [results, Try.results14, go_sem, b0, b1, b2, b3, b4, b5]) rfl ⟨rfl, ⟨t4, HI8.out⟩, HK8.out⟩

set_option maxRecDepth 100000 in
set_option maxHeartbeats 6400000 in
theorem refrd_mark (p : Nat) (S : ByteArray) (hS : S.size ≤ 2000) (r f g mk : Int) (S1 S2 S3 S4 : ByteArray) (e1 e2 e3 e4 : Int) (h : Reads4 S r f g mk S1 S2 S3 S4 e1 e2 e3 e4) (w : World) (hr : RefAt w p S 0) (b u i : Bool) (e1' : (mk % 2 == 1) = b) (e2' : (mk / 2 % 2 == 1) = u) (e4' : (mk / 4 % 2 == 1) = i) (hm0 : 0 ≤ mk) (hm256 : mk < 256) (he : e4 = 0) (ha : At.ok ⟨f, g, b, u, i⟩) (hr1 : ¬ r > 1114111) (hm : mk > 7) :
    Calls Try.prog 14 #[.pointer (some ⟨p, 0, none⟩)] w fun e w' => e = .returned (.agg #[.int .i32 0, .int .i64 0, .int .i64 0, .bool false, .bool false, .bool false]) ∧ (∃ t, RefAt w' p t 3) ∧ Keep (· = p) w w' := by
  subst he
  have E1 := Lib.hid e1'
  have E2 := Lib.hid e2'
  have E4 := Lib.hid e4'
  have HV := Lib.hid (fun V => ref_valid ⟨f, g, b, u, i⟩ V true (by exact decide_eq_true ha))
  simp only [At.v] at HV
  clear e1' e2' e4'
  have H4 := Lib.hid h
  have H := Lib.hid hr
  have hpl := hr.lt
  obtain ⟨w0, hw0⟩ : ∃ w0, w0 = w.alloc (.cells #[.int .i32 0, .int .i64 0, .int .i64 0, .bool false, .bool false, .bool false] 26) := ⟨_, rfl⟩
  have hR0 : w0.heap[w.heap.size]? = some (.cells #[.int .i32 0, .int .i64 0, .int .i64 0, .bool false, .bool false, .bool false] 26 (0, 0)) := by rw [hw0]; exact heap_alloc_new w _
  have HK0 : Hid (Keep (· = p) w w0) := Lib.hid (by rw [hw0]; exact (Keep.refl _ w).alloc _)
  have HI0 : Hid (RefAt w0 p S 0) := Lib.hid (by rw [hw0]; exact heap_alloc hr _)
  have HW0 := Lib.hid hw0
  obtain ⟨rc, hrc⟩ : ∃ rc, rc = w.heap.size := ⟨_, rfl⟩
  have hpr : p ≠ rc := by omega
  have HRC := Lib.hid hrc
  rw [← hrc] at hR0
  have HR0 := Lib.hid hR0
  clear h hr hw0 hrc hR0 hpl
  go_enter Try.func14, Try.ntmps14
  go_wp2_with fail
  rw [← HW0.out]
  try rw [← HRC.out]
  refine (refnum_any p S S 0 w0 HI0.out (fun _ => rfl) (by omega)).mono ?_
  rintro e w1 ⟨rfl, h1⟩
  rw [H4.out.n] at h1
  rw [H4.out.n]
  obtain ⟨t1, i1, q1, k1⟩ := h1
  have HI1 := Lib.hid i1
  have HQ1 := Lib.hid q1
  have HR1 := Lib.hid (k1.heap HR0.out (fun e => hpr e.symm))
  have HK1 : Hid (Keep (· = p) w w1) := Lib.hid (HK0.out.trans k1 (fun _ _ x => x))
  clear i1 q1 k1
  go_wp2_with fail
  refine (refbyte_any p S1 t1 e1 w1 HI1.out HQ1.out (by have := H4.out.z1; omega)).mono ?_
  rintro e w2 ⟨rfl, h1⟩
  rw [H4.out.b1] at h1
  rw [H4.out.b1]
  obtain ⟨t2, i1, q1, k1⟩ := h1
  have HI2 := Lib.hid i1
  have HQ2 := Lib.hid q1
  have HR2 := Lib.hid (k1.heap HR1.out (fun e => hpr e.symm))
  have HK2 : Hid (Keep (· = p) w w2) := Lib.hid (HK1.out.trans k1 (fun _ _ x => x))
  clear i1 q1 k1
  go_wp2_with fail
  refine (refbyte_any p S2 t2 e2 w2 HI2.out HQ2.out (by have := H4.out.z2; omega)).mono ?_
  rintro e w3 ⟨rfl, h1⟩
  rw [H4.out.b2] at h1
  rw [H4.out.b2]
  obtain ⟨t3, i1, q1, k1⟩ := h1
  have HI3 := Lib.hid i1
  have HQ3 := Lib.hid q1
  have HR3 := Lib.hid (k1.heap HR2.out (fun e => hpr e.symm))
  have HK3 : Hid (Keep (· = p) w w3) := Lib.hid (HK2.out.trans k1 (fun _ _ x => x))
  clear i1 q1 k1
  go_wp2_with fail
  refine (refbyte_any p S3 t3 e3 w3 HI3.out HQ3.out (by have := H4.out.z3; omega)).mono ?_
  rintro e w4 ⟨rfl, h1⟩
  rw [H4.out.b3] at h1
  rw [H4.out.b3]
  obtain ⟨t4, i1, q1, k1⟩ := h1
  have HI4 := Lib.hid i1
  have HQ4 := Lib.hid q1
  have HR4 := Lib.hid (k1.heap HR3.out (fun e => hpr e.symm))
  have HK4 : Hid (Keep (· = p) w w4) := Lib.hid (HK3.out.trans k1 (fun _ _ x => x))
  have d1 := i1.c1
  clear i1 q1 k1 HI0 HI1 HI2 HI3 HQ1 HQ2 HQ3 HR0 HR1 HR2 HR3 HK0 HK1 HK2 HK3
  go_wp2_with fail
  try rw [E1.out]
  try rw [E2.out]
  try rw [E4.out]
  refine (HV.out _).mono ?_
  rintro e w6 ⟨rfl, hb⟩
  obtain ⟨w5, hw5⟩ : ∃ w5, w5 = w4.alloc (.cells #[.int .i64 f, .int .i64 g, .bool b, .bool u, .bool i] 23) := ⟨_, rfl⟩
  have k46 : Keep (fun _ => False) w4 w6 := ((Keep.refl _ w4).alloc _).trans (Keep.of_below (fun _ => False) hb) (fun _ _ x => x)
  have HR6 := Lib.hid (k46.heap HR4.out (fun x => x))
  have HK6 : Hid (Keep (· = p) w w6) := Lib.hid (HK4.out.trans (k46.mono (S' := (· = p)) (fun _ _ x => x.elim)) (fun _ _ x => x))
  have HI6 := Lib.hid (HI4.out.keep k46 (fun x => x))
  have HA6 := Lib.hid ((Keep.of_below (fun _ => False) hb).heap (heap_alloc_new w4 (.cells #[.int .i64 f, .int .i64 g, .bool b, .bool u, .bool i] 23)) (fun y => y))
  have HP6 : Hid (w4.heap.size ≠ p) := Lib.hid (by have := HI4.out.lt; omega)
  clear hb k46 hw5 d1 HR4 HK4 HI4
  obtain ⟨w7, hw7⟩ : ∃ w7, w7 = w6.setCell ⟨p, 1, none⟩ (.int .i64 3) := ⟨_, rfl⟩
  have HR7 : Hid (w7.heap[rc]? = some (.cells #[.int .i32 0, .int .i64 0, .int .i64 0, .bool false, .bool false, .bool false] 26 (0, 0))) := Lib.hid (by rw [hw7]; exact heap_far HR6.out (fun e => hpr e.symm) _)
  have HK7 : Hid (Keep (· = p) w w7) := Lib.hid (by rw [hw7]; exact HK6.out.own 1 _)
  have HI7 : Hid (RefAt w7 p t4 3) := Lib.hid (by rw [hw7]; exact HI6.out.set1 3)
  have dp := HI6.out.c1
  have fp := HI6.out.fr 1
  have HW7 := Lib.hid hw7
  clear HR6 HK6 HI6 HA6 hw7
  go_upto_region 8 with fail
  rw [← HW7.out]
  clear dp fp HW7
  go_wp2_with (with_reducible refine wpList_store_at rfl _ _ _ rfl rc 0 #[.int .i32 0, .int .i64 0, .int .i64 0, .bool false, .bool false, .bool false] ?hx ?hy ?hi ?h1 ?hc ?hf ?_)
  case hx => rfl
  case hy => rfl
  case hi => exact cell_info
  case h1 => simp [Value.oneCell']
  case hc => intro j hj; rcases j with _ | _ | _ | _ | _ | _ | j <;> first | (rw [cell_at HR7.out _]; rfl) | (simp at hj; omega)
  case hf => intro j hj; exact free_at HR7.out _
  obtain ⟨W8, hW8⟩ : ∃ W8, W8 = w7.setCells rc 0 (#[.int .i32 0, .int .i64 0, .int .i64 0, .bool false, .bool false, .bool false] : Array Value).toList := ⟨_, rfl⟩
  have hs7 : ∀ j, j < 6 → (w7.cell? ⟨rc, 0 + j, none⟩).isSome = true := by intro j hj; rcases j with _ | _ | _ | _ | _ | _ | j <;> first | (rw [cell_at HR7.out _]; rfl) | omega
  have hin := fun j hj => World.cell?_setCells_in rc [.int .i32 0, .int .i64 0, .int .i64 0, .bool false, .bool false, .bool false] 0 w7 hs7 j hj
  have b0 : W8.cell? ⟨rc, 0, none⟩ = some (.int .i32 0) := by rw [hW8]; exact hin 0 (by simp)
  have b1 : W8.cell? ⟨rc, 1, none⟩ = some (.int .i64 0) := by rw [hW8]; exact hin 1 (by simp)
  have b2 : W8.cell? ⟨rc, 2, none⟩ = some (.int .i64 0) := by rw [hW8]; exact hin 2 (by simp)
  have b3 : W8.cell? ⟨rc, 3, none⟩ = some (.bool false) := by rw [hW8]; exact hin 3 (by simp)
  have b4 : W8.cell? ⟨rc, 4, none⟩ = some (.bool false) := by rw [hW8]; exact hin 4 (by simp)
  have b5 : W8.cell? ⟨rc, 5, none⟩ = some (.bool false) := by rw [hW8]; exact hin 5 (by simp)
  have k8 : Keep (· = rc) w7 W8 := by rw [hW8]; exact keep_setCells (S := (· = rc)) rc (fun _ => rfl) _ _ _ (Keep.refl _ _)
  have HI8 := Lib.hid (HI7.out.keep k8 hpr)
  have HK8 : Hid (Keep (· = p) w W8) := Lib.hid (HK7.out.trans (k8.mono (S' := fun i => i = p ∨ w.heap.size ≤ i) (fun i _ e => .inr (by rw [show i = rc from e, HRC.out]; exact Nat.le_refl _))) (fun i hi e => by
    rcases e with e | e
    · exact e
    · omega))
  rw [← hW8]
  clear hW8 hin hs7 HR7 HK7 HI7 k8
  go_wp2_with fail
  refine bodyPost_ret (v := .agg #[.int .i32 0, .int .i64 0, .int .i64 0, .bool false, .bool false, .bool false]) (by simp [results, Try.results14, go_sem, b0, b1, b2, b3, b4, b5]) rfl ⟨rfl, ⟨t4, HI8.out⟩, HK8.out⟩

end Go.Proofs.Ytihdiijnidcgkaa
