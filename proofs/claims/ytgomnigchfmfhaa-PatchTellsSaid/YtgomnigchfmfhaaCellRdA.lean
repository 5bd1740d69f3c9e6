/- cell.Read of any bytes. By program (rgn/XCellRdA.py), with greater bounds. Own work. -/
import Derived.Test.YtgomnigchfmfhaaCellRd
namespace Go.Proofs.Ytgomnigchfmfhaa
set_option linter.unusedVariables false
set_option linter.unusedSimpArgs false
open Go.RowKit

theorem bits_and (k : Nat) (h : k < 256) : (bits BinOp.and IntKind.i64 (k : Int) 1 != 0) = ((k : Int) % 2 == 1) ∧ (bits BinOp.and IntKind.i64 (k : Int) 2 != 0) = ((k : Int) / 2 % 2 == 1) ∧ (bits BinOp.and IntKind.i64 (k : Int) 4 != 0) = ((k : Int) / 4 % 2 == 1) := by
  have : ∀ k : Fin 256, (bits BinOp.and IntKind.i64 ((k : Nat) : Int) 1 != 0) = (((k : Nat) : Int) % 2 == 1) ∧ (bits BinOp.and IntKind.i64 ((k : Nat) : Int) 2 != 0) = (((k : Nat) : Int) / 2 % 2 == 1) ∧ (bits BinOp.and IntKind.i64 ((k : Nat) : Int) 4 != 0) = (((k : Nat) : Int) / 4 % 2 == 1) := by decide +kernel
  exact this ⟨k, h⟩

/-- What the four reads tell, one behind the other. -/
structure Reads4 (S : ByteArray) (r f g mk : Int) (S1 S2 S3 S4 : ByteArray) (e1 e2 e3 e4 : Int) : Prop where
  n : numS S 0 = (r, S1, e1)
  b1 : byteS S1 e1 = (f, S2, e2)
  b2 : byteS S2 e2 = (g, S3, e3)
  b3 : byteS S3 e3 = (mk, S4, e4)
  z1 : S1.size ≤ 1000000
  z2 : S2.size ≤ 1000000
  z3 : S3.size ≤ 1000000
  z4 : S4.size ≤ S.size

theorem rawS_size (s : ByteArray) (e n : Int) : (rawS s e n).2.1.size ≤ s.size := by
  unfold rawS
  split
  · split
    · exact Nat.zero_le _
    · split
      · exact Nat.zero_le _
      · simp only [ByteArray.size_extract]; omega
  · exact Nat.le_refl _
theorem byteS_size (s : ByteArray) (e : Int) : (byteS s e).2.1.size ≤ s.size := rawS_size s e 1
theorem byteS_lt (s : ByteArray) (e : Int) : 0 ≤ (byteS s e).1 ∧ (byteS s e).1 < 256 := by
  unfold byteS
  have := UInt8.toNat_lt ((rawS s e 1).1.data.toList.headD 0)
  simp only
  omega
theorem numS_err (s : ByteArray) (h : (numS s 0).2.2 ≠ 0) : (numS s 0).2.1.size = 0 := by
  unfold numS at *
  rw [if_pos rfl] at *
  split at h
  · exact absurd rfl h
  · rename_i h2
    rw [if_neg h2]
    rfl
theorem byteS_err (s : ByteArray) (e : Int) (h0 : e ≠ 0 → s.size = 0) (h : (byteS s e).2.2 ≠ 0) : (byteS s e).2.1.size = 0 := by
  unfold byteS rawS at *
  simp only at *
  by_cases he : e = 0
  · subst he
    simp only [if_true] at *
    split at h
    · rename_i h1; rw [if_pos h1]; rfl
    · rename_i h1
      rw [if_neg h1]
      split at h
      · rename_i h2; rw [if_pos h2]; rfl
      · exact absurd rfl h
  · rw [if_neg he]
    exact h0 he

theorem numS_in (S : ByteArray) : 0 ≤ (numS S 0).1 ∧ (numS S 0).1 ≤ 9223372036854775807 := by
  unfold numS
  rw [if_pos rfl]
  split
  · have := dec_lt S.data.toList 0 0 (by decide) (by decide)
    simp only
    omega
  · simp only; omega

theorem reads_is (S : ByteArray) (hS : S.size ≤ 1000000) : ∃ (r f g mk : Int) (S1 S2 S3 S4 : ByteArray) (e1 e2 e3 e4 : Int), Reads4 S r f g mk S1 S2 S3 S4 e1 e2 e3 e4 ∧ (e4 ≠ 0 → S4.size = 0) ∧ (0 ≤ r ∧ r ≤ 9223372036854775807) ∧ (0 ≤ f ∧ f < 256) ∧ (0 ≤ g ∧ g < 256) ∧ (0 ≤ mk ∧ mk < 256) := by
  obtain ⟨r, S1, e1, h1⟩ : ∃ r S1 e1, numS S 0 = (r, S1, e1) := ⟨_, _, _, rfl⟩
  obtain ⟨f, S2, e2, h2⟩ : ∃ a b c, byteS S1 e1 = (a, b, c) := ⟨_, _, _, rfl⟩
  obtain ⟨g, S3, e3, h3⟩ : ∃ a b c, byteS S2 e2 = (a, b, c) := ⟨_, _, _, rfl⟩
  obtain ⟨mk, S4, e4, h4⟩ : ∃ a b c, byteS S3 e3 = (a, b, c) := ⟨_, _, _, rfl⟩
  have s1 := numS_size S 0
  have s2 := byteS_size S1 e1
  have s3 := byteS_size S2 e2
  have s4 := byteS_size S3 e3
  have r1 := numS_in S
  have q1 := numS_err S
  have r2 := byteS_lt S1 e1
  have r3 := byteS_lt S2 e2
  have r4 := byteS_lt S3 e3
  have q2 := byteS_err S1 e1
  have q3 := byteS_err S2 e2
  have q4 := byteS_err S3 e3
  rw [h1] at s1 r1 q1
  rw [h2] at s2 r2 q2
  rw [h3] at s3 r3 q3
  rw [h4] at s4 r4 q4
  simp only at s1 s2 s3 s4 r1 r2 r3 r4 q1 q2 q3 q4
  exact ⟨r, f, g, mk, S1, S2, S3, S4, e1, e2, e3, e4, ⟨h1, h2, h3, h4, by omega, by omega, by omega, by omega⟩, q4 (q3 (q2 q1)), r1, r2, r3, r4⟩

set_option maxRecDepth 100000 in
set_option maxHeartbeats 6400000 in
theorem read_err (S : ByteArray) (hS : S.size ≤ 1000000) (r f g mk : Int) (S1 S2 S3 S4 : ByteArray) (e1 e2 e3 e4 : Int) (h : Reads4 S r f g mk S1 S2 S3 S4 e1 e2 e3 e4) (w : World) (he : e4 ≠ 0) (hz : S4.size = 0) :
    Calls Try.prog 71 #[.string S] w fun e w' => e = .returned (.tuple #[.agg #[.int .i32 0, .int .i64 0, .int .i64 0, .bool false, .bool false, .bool false], .int .i64 0, .int .i64 e4]) ∧ Below w.heap.size w w' := by
  have H4 := Lib.hid h
  have hz4 := h.z4
  have he1 : (e4 == 0) = false := by simpa using he
  have hzi : ((S4.size : Nat) : Int) = 0 := by omega
  clear h
  go_enter Try.func71, Try.ntmps71
  go_wp2_with fail
  refine (on_any S _).mono ?_
  rintro e w1 ⟨rfl, h1, hb⟩
  obtain ⟨w0, hw0⟩ : ∃ w0, w0 = w.alloc (.cells #[.int .i32 0, .int .i64 0, .int .i64 0, .bool false, .bool false, .bool false] 40) := ⟨_, rfl⟩
  rw [← hw0] at h1 hb
  have hR0 : w0.heap[w.heap.size]? = some (.cells #[.int .i32 0, .int .i64 0, .int .i64 0, .bool false, .bool false, .bool false] 40 (0, 0)) := by rw [hw0]; exact heap_alloc_new w _
  have hB0 : Below w.heap.size w w0 := by rw [hw0]; exact (Below.refl _ w).alloc (Nat.le_refl _) _
  obtain ⟨p, hp⟩ : ∃ p, p = w0.heap.size := ⟨_, rfl⟩
  have hpw : w.heap.size < p := by rw [hp]; exact lt_heap hR0
  rw [← hp] at h1
  have HI1 := Lib.hid h1
  have HR1 := Lib.hid ((Keep.of_below (fun _ => False) hb).heap hR0 (fun y => y))
  have HBB1 : Hid (Below w.heap.size w w1) := Lib.hid (hB0.trans (hb.mono hB0.size))
  try rw [← hw0]
  try rw [← hp]
  obtain ⟨rc, hrc⟩ : ∃ rc, rc = w.heap.size := ⟨_, rfl⟩
  rw [← hrc] at HR1 hpw
  try rw [← hrc]
  have HRC := Lib.hid hrc
  clear h1 hb hw0 hR0 hB0 hp hrc
  go_wp2_with fail
  refine (innum_any p S 0 w1 HI1.out (by unfold maxLen; omega)).mono ?_
  rintro e w2 ⟨rfl, h2, k2⟩
  rw [H4.out.n] at h2
  rw [H4.out.n]
  have HI2 := Lib.hid h2
  have HR2 := Lib.hid (k2.heap HR1.out (by omega))
  have HBB2 : Hid (Below w.heap.size w w2) := Lib.hid (HBB1.out.trans (k2.below HBB1.out.size (fun k hk e => by have := HRC.out; omega)))
  clear h2 k2
  go_wp2_with fail
  refine (inbyte_any p S1 e1 w2 HI2.out (by have := H4.out.z1; omega)).mono ?_
  rintro e w3 ⟨rfl, h2, k2⟩
  rw [H4.out.b1] at h2
  rw [H4.out.b1]
  have HI3 := Lib.hid h2
  have HR3 := Lib.hid (k2.heap HR2.out (by omega))
  have HBB3 : Hid (Below w.heap.size w w3) := Lib.hid (HBB2.out.trans (k2.below HBB2.out.size (fun k hk e => by have := HRC.out; omega)))
  clear h2 k2
  go_wp2_with fail
  refine (inbyte_any p S2 e2 w3 HI3.out (by have := H4.out.z2; omega)).mono ?_
  rintro e w4 ⟨rfl, h2, k2⟩
  rw [H4.out.b2] at h2
  rw [H4.out.b2]
  have HI4 := Lib.hid h2
  have HR4 := Lib.hid (k2.heap HR3.out (by omega))
  have HBB4 : Hid (Below w.heap.size w w4) := Lib.hid (HBB3.out.trans (k2.below HBB3.out.size (fun k hk e => by have := HRC.out; omega)))
  clear h2 k2
  go_wp2_with fail
  refine (inbyte_any p S3 e3 w4 HI4.out (by have := H4.out.z3; omega)).mono ?_
  rintro e w5 ⟨rfl, h2, k2⟩
  rw [H4.out.b3] at h2
  rw [H4.out.b3]
  have HI5 := Lib.hid h2
  have HR5 := Lib.hid (k2.heap HR4.out (by omega))
  have HBB5 : Hid (Below w.heap.size w w5) := Lib.hid (HBB4.out.trans (k2.below HBB4.out.size (fun k hk e => by have := HRC.out; omega)))
  clear h2 k2
  go_wp2_with fail
  refine (inleft_any p S4 e4 w5 HI5.out (by omega)).mono ?_
  rintro e w6 ⟨rfl, rfl⟩
  clear HI1 HI2 HI3 HI4 HBB1 HBB2 HBB3 HBB4 HR1 HR2 HR3 HR4
  rw [hzi]
  go_wp2_with fail
  refine (inend_any p S4 e4 w5 HI5.out (by omega)).mono ?_
  rintro e w7 ⟨rfl, _, k6⟩
  rw [show endS S4 e4 = e4 by unfold endS; rw [if_pos hz]]
  have HR7 := Lib.hid (k6.heap HR5.out (by omega))
  have HB7 : Hid (Below w.heap.size w w7) := Lib.hid (HBB5.out.trans (k6.below HBB5.out.size (fun k hk e => by have := HRC.out; omega)))
  clear k6 HR5 HBB5 hzi hz
  go_wp2_with (with_reducible refine wpList_store_at rfl _ _ _ rfl rc 0 #[.int .i32 0, .int .i64 0, .int .i64 0, .bool false, .bool false, .bool false] ?hx ?hy ?hi ?h1 ?hc ?hf ?_)
  case hx => rfl
  case hy => rfl
  case hi => exact cell_info
  case h1 => simp [Value.oneCell']
  case hc => intro j hj; rcases j with _ | _ | _ | _ | _ | _ | j <;> first | (rw [cell_at HR7.out _]; rfl) | (simp at hj; omega)
  case hf => intro j hj; exact free_at HR7.out _
  obtain ⟨W8, hW8⟩ : ∃ W8, W8 = w7.setCells rc 0 (#[.int .i32 0, .int .i64 0, .int .i64 0, .bool false, .bool false, .bool false] : Array Value).toList := ⟨_, rfl⟩
  have hs7 : ∀ j, j < 6 → (w7.cell? ⟨rc, 0 + j, none⟩).isSome = true := by intro j hj; rcases j with _ | _ | _ | _ | _ | _ | j <;> first | (rw [cell_at HR7.out _]; rfl) | omega
  have hin := fun j hj => World.cell?_setCells_in rc [.int .i32 0, .int .i64 0, .int .i64 0, .bool false, .bool false, .bool false] 0 w7 hs7 j hj
  have b0 : W8.cell? ⟨rc, 0, none⟩ = some (.int .i32 0) := by rw [hW8]; exact hin 0 (by simp)
  have b1 : W8.cell? ⟨rc, 1, none⟩ = some (.int .i64 0) := by rw [hW8]; exact hin 1 (by simp)
  have b2 : W8.cell? ⟨rc, 2, none⟩ = some (.int .i64 0) := by rw [hW8]; exact hin 2 (by simp)
  have b3 : W8.cell? ⟨rc, 3, none⟩ = some (.bool false) := by rw [hW8]; exact hin 3 (by simp)
  have b4 : W8.cell? ⟨rc, 4, none⟩ = some (.bool false) := by rw [hW8]; exact hin 4 (by simp)
  have b5 : W8.cell? ⟨rc, 5, none⟩ = some (.bool false) := by rw [hW8]; exact hin 5 (by simp)
  have HB8 : Hid (Below w.heap.size w W8) := Lib.hid (HB7.out.trans ((show Keep (· = rc) w7 W8 by rw [hW8]; exact keep_setCells (S := (· = rc)) rc (fun _ => rfl) _ _ _ (Keep.refl _ _)).below HB7.out.size (fun k hk e => by have := HRC.out; omega)))
  rw [← hW8]
  clear hW8 hin hs7 HR7 HB7
  go_wp2_with fail
  refine bodyPost_ret (v := .tuple #[.agg #[.int .i32 0, .int .i64 0, .int .i64 0, .bool false, .bool false, .bool false], .int .i64 0, .int .i64 e4]) (by simp [results, Try.results71, go_sem, b0, b1, b2, b3, b4, b5]) rfl ⟨rfl, HB8.out⟩

set_option maxRecDepth 100000 in
set_option maxHeartbeats 6400000 in
theorem read_ok0 (S : ByteArray) (hS : S.size ≤ 1000000) (r f g mk : Int) (S1 S2 S3 S4 : ByteArray) (e1 e2 e3 e4 : Int) (h : Reads4 S r f g mk S1 S2 S3 S4 e1 e2 e3 e4) (w : World) (b u i : Bool) (e1' : (bits BinOp.and IntKind.i64 mk 1 != 0) = b) (e2' : (bits BinOp.and IntKind.i64 mk 2 != 0) = u) (e4' : (bits BinOp.and IntKind.i64 mk 4 != 0) = i) (he : e4 = 0) (hz : S4.size = 0) (ha : At.ok ⟨f, g, b, u, i⟩) (hr0 : 0 ≤ r) (hr : ¬ r > 1114111) (hm : ¬ mk > 7) :
    Calls Try.prog 71 #[.string S] w fun e w' => e = .returned (.tuple #[.agg #[.int .i32 r, .int .i64 f, .int .i64 g, .bool b, .bool u, .bool i], .int .i64 (S.size : Int), .int .i64 0]) ∧ Below w.heap.size w w' := by
  subst he
  have H4 := Lib.hid h
  have hz4 := h.z4
  have E1 := Lib.hid e1'
  have E2 := Lib.hid e2'
  have E4 := Lib.hid e4'
  have HV := Lib.hid (fun V => cell_valid ⟨f, g, b, u, i⟩ V true (by exact decide_eq_true ha))
  simp only [At.v] at HV
  obtain ⟨sz, hsz⟩ : ∃ sz, S4.size = sz := ⟨_, rfl⟩
  obtain ⟨SZ, hSZ⟩ : ∃ SZ, S.size = SZ := ⟨_, rfl⟩
  have HSZ := Lib.hid hSZ
  rw [hsz, hSZ] at hz4
  rw [hSZ] at hS
  try rw [hsz]
  try rw [hSZ]
  have hSZi : (S.size : Int) = (SZ : Int) := by omega
  have hr32 : IntKind.i32.wrap r = r := by rw [IntKind.wrap_i32]; omega
  have t9 : (SZ : Int) ≤ 1000000 := by omega
  have t8 : (sz : Int) ≤ (SZ : Int) := by omega
  have hs0 : sz = 0 := by omega
  subst hs0
  clear hz
  clear e1' e2' e4' h hSZ
  go_enter Try.func71, Try.ntmps71
  go_wp2_with fail
  refine (on_any S _).mono ?_
  rintro e w1 ⟨rfl, h1, hb⟩
  obtain ⟨w0, hw0⟩ : ∃ w0, w0 = w.alloc (.cells #[.int .i32 0, .int .i64 0, .int .i64 0, .bool false, .bool false, .bool false] 40) := ⟨_, rfl⟩
  rw [← hw0] at h1 hb
  have hR0 : w0.heap[w.heap.size]? = some (.cells #[.int .i32 0, .int .i64 0, .int .i64 0, .bool false, .bool false, .bool false] 40 (0, 0)) := by rw [hw0]; exact heap_alloc_new w _
  have hB0 : Below w.heap.size w w0 := by rw [hw0]; exact (Below.refl _ w).alloc (Nat.le_refl _) _
  obtain ⟨p, hp⟩ : ∃ p, p = w0.heap.size := ⟨_, rfl⟩
  have hpw : w.heap.size < p := by rw [hp]; exact lt_heap hR0
  rw [← hp] at h1
  have HI1 := Lib.hid h1
  have HR1 := Lib.hid ((Keep.of_below (fun _ => False) hb).heap hR0 (fun y => y))
  have HBB1 : Hid (Below w.heap.size w w1) := Lib.hid (hB0.trans (hb.mono hB0.size))
  try rw [← hw0]
  try rw [← hp]
  obtain ⟨rc, hrc⟩ : ∃ rc, rc = w.heap.size := ⟨_, rfl⟩
  rw [← hrc] at HR1 hpw
  try rw [← hrc]
  have HRC := Lib.hid hrc
  clear h1 hb hw0 hR0 hB0 hp hrc
  go_wp2_with fail
  refine (innum_any p S 0 w1 HI1.out (by unfold maxLen; have := HSZ.out; omega)).mono ?_
  rintro e w2 ⟨rfl, h2, k2⟩
  rw [H4.out.n] at h2
  rw [H4.out.n]
  have HI2 := Lib.hid h2
  have HR2 := Lib.hid (k2.heap HR1.out (by omega))
  have HBB2 : Hid (Below w.heap.size w w2) := Lib.hid (HBB1.out.trans (k2.below HBB1.out.size (fun k hk e => by have := HRC.out; omega)))
  clear h2 k2
  go_wp2_with fail
  refine (inbyte_any p S1 e1 w2 HI2.out (by have := H4.out.z1; omega)).mono ?_
  rintro e w3 ⟨rfl, h2, k2⟩
  rw [H4.out.b1] at h2
  rw [H4.out.b1]
  have HI3 := Lib.hid h2
  have HR3 := Lib.hid (k2.heap HR2.out (by omega))
  have HBB3 : Hid (Below w.heap.size w w3) := Lib.hid (HBB2.out.trans (k2.below HBB2.out.size (fun k hk e => by have := HRC.out; omega)))
  clear h2 k2
  go_wp2_with fail
  refine (inbyte_any p S2 e2 w3 HI3.out (by have := H4.out.z2; omega)).mono ?_
  rintro e w4 ⟨rfl, h2, k2⟩
  rw [H4.out.b2] at h2
  rw [H4.out.b2]
  have HI4 := Lib.hid h2
  have HR4 := Lib.hid (k2.heap HR3.out (by omega))
  have HBB4 : Hid (Below w.heap.size w w4) := Lib.hid (HBB3.out.trans (k2.below HBB3.out.size (fun k hk e => by have := HRC.out; omega)))
  clear h2 k2
  go_wp2_with fail
  refine (inbyte_any p S3 e3 w4 HI4.out (by have := H4.out.z3; omega)).mono ?_
  rintro e w5 ⟨rfl, h2, k2⟩
  rw [H4.out.b3] at h2
  rw [H4.out.b3]
  have HI5 := Lib.hid h2
  have HR5 := Lib.hid (k2.heap HR4.out (by omega))
  have HBB5 : Hid (Below w.heap.size w w5) := Lib.hid (HBB4.out.trans (k2.below HBB4.out.size (fun k hk e => by have := HRC.out; omega)))
  clear h2 k2
  go_wp2_with fail
  refine (inleft_any p S4 0 w5 HI5.out (by omega)).mono ?_
  rintro e w6 ⟨rfl, rfl⟩
  clear HI1 HI2 HI3 HI4 HBB1 HBB2 HBB3 HBB4 HR1 HR2 HR3 HR4
  rw [hsz]
  go_wp2_with fail
  refine (inend_any p S4 0 w5 HI5.out (by omega)).mono ?_
  rintro e w6 ⟨rfl, _, k6⟩
  rw [show endS S4 0 = 0 by unfold endS; split; rfl; omega]
  have HR6 := Lib.hid (k6.heap HR5.out (by omega))
  have HBB6 : Hid (Below w.heap.size w w6) := Lib.hid (HBB5.out.trans (k6.below HBB5.out.size (fun k hk e => by have := HRC.out; omega)))
  clear k6 HR5 HBB5
  go_wp2_with fail
  rw [E1.out, E2.out, E4.out]
  refine (HV.out _).mono ?_
  rintro e w7 ⟨rfl, hb⟩
  have HB7 : Hid (Below w.heap.size w w7) := Lib.hid ((HBB6.out.alloc HBB6.out.size _).trans (hb.mono (by have := HBB6.out.size; simp; omega)))
  have HR7 := Lib.hid ((Keep.of_below (fun _ => False) hb).heap (heap_alloc HR6.out _) (fun y => y))
  have HA7 := Lib.hid ((Keep.of_below (fun _ => False) hb).heap (heap_alloc_new w6 (.cells #[.int .i64 f, .int .i64 g, .bool b, .bool u, .bool i] 38)) (fun y => y))
  have a0 : w7.cell? ⟨w6.heap.size, 0, none⟩ = some (.int .i64 f) := cell_at HA7.out 0
  have a1 : w7.cell? ⟨w6.heap.size, 1, none⟩ = some (.int .i64 g) := cell_at HA7.out 1
  have a2 : w7.cell? ⟨w6.heap.size, 2, none⟩ = some (.bool b) := cell_at HA7.out 2
  have a3 : w7.cell? ⟨w6.heap.size, 3, none⟩ = some (.bool u) := cell_at HA7.out 3
  have a4 : w7.cell? ⟨w6.heap.size, 4, none⟩ = some (.bool i) := cell_at HA7.out 4
  clear hb HR6 HBB6 HI5 HA7
  go_wp2_with (with_reducible refine wpList_store_at rfl _ _ _ rfl rc 0 #[.int .i32 r, .int .i64 f, .int .i64 g, .bool b, .bool u, .bool i] ?hx ?hy ?hi ?h1 ?hc ?hf ?_)
  case hx => rfl
  case hy => rfl
  case hi => exact cell_info
  case h1 => simp [Value.oneCell']
  case hc => intro j hj; rcases j with _ | _ | _ | _ | _ | _ | j <;> first | (rw [cell_at HR7.out _]; rfl) | (simp at hj; omega)
  case hf => intro j hj; exact free_at HR7.out _
  obtain ⟨W8, hW8⟩ : ∃ W8, W8 = w7.setCells rc 0 (#[.int .i32 r, .int .i64 f, .int .i64 g, .bool b, .bool u, .bool i] : Array Value).toList := ⟨_, rfl⟩
  have hs7 : ∀ j, j < 6 → (w7.cell? ⟨rc, 0 + j, none⟩).isSome = true := by intro j hj; rcases j with _ | _ | _ | _ | _ | _ | j <;> first | (rw [cell_at HR7.out _]; rfl) | omega
  have hin := fun j hj => World.cell?_setCells_in rc [.int .i32 r, .int .i64 f, .int .i64 g, .bool b, .bool u, .bool i] 0 w7 hs7 j hj
  have b0 : W8.cell? ⟨rc, 0, none⟩ = some (.int .i32 r) := by rw [hW8]; exact hin 0 (by simp)
  have b1 : W8.cell? ⟨rc, 1, none⟩ = some (.int .i64 f) := by rw [hW8]; exact hin 1 (by simp)
  have b2 : W8.cell? ⟨rc, 2, none⟩ = some (.int .i64 g) := by rw [hW8]; exact hin 2 (by simp)
  have b3 : W8.cell? ⟨rc, 3, none⟩ = some (.bool b) := by rw [hW8]; exact hin 3 (by simp)
  have b4 : W8.cell? ⟨rc, 4, none⟩ = some (.bool u) := by rw [hW8]; exact hin 4 (by simp)
  have b5 : W8.cell? ⟨rc, 5, none⟩ = some (.bool i) := by rw [hW8]; exact hin 5 (by simp)
  have HB8 : Hid (Below w.heap.size w W8) := Lib.hid (HB7.out.trans ((show Keep (· = rc) w7 W8 by rw [hW8]; exact keep_setCells (S := (· = rc)) rc (fun _ => rfl) _ _ _ (Keep.refl _ _)).below HB7.out.size (fun k hk e => by have := HRC.out; omega)))
  rw [← hW8]
  clear hW8 hin hs7 HR7 HB7
  go_wp2_with fail
  refine bodyPost_ret (v := .tuple #[.agg #[.int .i32 r, .int .i64 f, .int .i64 g, .bool b, .bool u, .bool i], .int .i64 (SZ : Int), .int .i64 0]) (by simp [results, Try.results71, go_sem, b0, b1, b2, b3, b4, b5]) rfl ⟨rfl, HB8.out⟩

set_option maxRecDepth 100000 in
set_option maxHeartbeats 6400000 in
theorem read_attr0 (S : ByteArray) (hS : S.size ≤ 1000000) (r f g mk : Int) (S1 S2 S3 S4 : ByteArray) (e1 e2 e3 e4 : Int) (h : Reads4 S r f g mk S1 S2 S3 S4 e1 e2 e3 e4) (w : World) (b u i : Bool) (e1' : (bits BinOp.and IntKind.i64 mk 1 != 0) = b) (e2' : (bits BinOp.and IntKind.i64 mk 2 != 0) = u) (e4' : (bits BinOp.and IntKind.i64 mk 4 != 0) = i) (he : e4 = 0) (hz : S4.size = 0) (ha : ¬ At.ok ⟨f, g, b, u, i⟩) :
    Calls Try.prog 71 #[.string S] w fun e w' => e = .returned (.tuple #[.agg #[.int .i32 0, .int .i64 0, .int .i64 0, .bool false, .bool false, .bool false], .int .i64 0, .int .i64 3]) ∧ Below w.heap.size w w' := by
  subst he
  have H4 := Lib.hid h
  have hz4 := h.z4
  have E1 := Lib.hid e1'
  have E2 := Lib.hid e2'
  have E4 := Lib.hid e4'
  have HV := Lib.hid (fun V => cell_valid ⟨f, g, b, u, i⟩ V false (by exact decide_eq_false ha))
  simp only [At.v] at HV
  obtain ⟨sz, hsz⟩ : ∃ sz, S4.size = sz := ⟨_, rfl⟩
  obtain ⟨SZ, hSZ⟩ : ∃ SZ, S.size = SZ := ⟨_, rfl⟩
  have HSZ := Lib.hid hSZ
  rw [hsz, hSZ] at hz4
  rw [hSZ] at hS
  try rw [hsz]
  try rw [hSZ]
  have hSZi : (S.size : Int) = (SZ : Int) := by omega
  have hs0 : sz = 0 := by omega
  subst hs0
  clear hz
  clear e1' e2' e4' h hSZ
  go_enter Try.func71, Try.ntmps71
  go_wp2_with fail
  refine (on_any S _).mono ?_
  rintro e w1 ⟨rfl, h1, hb⟩
  obtain ⟨w0, hw0⟩ : ∃ w0, w0 = w.alloc (.cells #[.int .i32 0, .int .i64 0, .int .i64 0, .bool false, .bool false, .bool false] 40) := ⟨_, rfl⟩
  rw [← hw0] at h1 hb
  have hR0 : w0.heap[w.heap.size]? = some (.cells #[.int .i32 0, .int .i64 0, .int .i64 0, .bool false, .bool false, .bool false] 40 (0, 0)) := by rw [hw0]; exact heap_alloc_new w _
  have hB0 : Below w.heap.size w w0 := by rw [hw0]; exact (Below.refl _ w).alloc (Nat.le_refl _) _
  obtain ⟨p, hp⟩ : ∃ p, p = w0.heap.size := ⟨_, rfl⟩
  have hpw : w.heap.size < p := by rw [hp]; exact lt_heap hR0
  rw [← hp] at h1
  have HI1 := Lib.hid h1
  have HR1 := Lib.hid ((Keep.of_below (fun _ => False) hb).heap hR0 (fun y => y))
  have HBB1 : Hid (Below w.heap.size w w1) := Lib.hid (hB0.trans (hb.mono hB0.size))
  try rw [← hw0]
  try rw [← hp]
  obtain ⟨rc, hrc⟩ : ∃ rc, rc = w.heap.size := ⟨_, rfl⟩
  rw [← hrc] at HR1 hpw
  try rw [← hrc]
  have HRC := Lib.hid hrc
  clear h1 hb hw0 hR0 hB0 hp hrc
  go_wp2_with fail
  refine (innum_any p S 0 w1 HI1.out (by unfold maxLen; have := HSZ.out; omega)).mono ?_
  rintro e w2 ⟨rfl, h2, k2⟩
  rw [H4.out.n] at h2
  rw [H4.out.n]
  have HI2 := Lib.hid h2
  have HR2 := Lib.hid (k2.heap HR1.out (by omega))
  have HBB2 : Hid (Below w.heap.size w w2) := Lib.hid (HBB1.out.trans (k2.below HBB1.out.size (fun k hk e => by have := HRC.out; omega)))
  clear h2 k2
  go_wp2_with fail
  refine (inbyte_any p S1 e1 w2 HI2.out (by have := H4.out.z1; omega)).mono ?_
  rintro e w3 ⟨rfl, h2, k2⟩
  rw [H4.out.b1] at h2
  rw [H4.out.b1]
  have HI3 := Lib.hid h2
  have HR3 := Lib.hid (k2.heap HR2.out (by omega))
  have HBB3 : Hid (Below w.heap.size w w3) := Lib.hid (HBB2.out.trans (k2.below HBB2.out.size (fun k hk e => by have := HRC.out; omega)))
  clear h2 k2
  go_wp2_with fail
  refine (inbyte_any p S2 e2 w3 HI3.out (by have := H4.out.z2; omega)).mono ?_
  rintro e w4 ⟨rfl, h2, k2⟩
  rw [H4.out.b2] at h2
  rw [H4.out.b2]
  have HI4 := Lib.hid h2
  have HR4 := Lib.hid (k2.heap HR3.out (by omega))
  have HBB4 : Hid (Below w.heap.size w w4) := Lib.hid (HBB3.out.trans (k2.below HBB3.out.size (fun k hk e => by have := HRC.out; omega)))
  clear h2 k2
  go_wp2_with fail
  refine (inbyte_any p S3 e3 w4 HI4.out (by have := H4.out.z3; omega)).mono ?_
  rintro e w5 ⟨rfl, h2, k2⟩
  rw [H4.out.b3] at h2
  rw [H4.out.b3]
  have HI5 := Lib.hid h2
  have HR5 := Lib.hid (k2.heap HR4.out (by omega))
  have HBB5 : Hid (Below w.heap.size w w5) := Lib.hid (HBB4.out.trans (k2.below HBB4.out.size (fun k hk e => by have := HRC.out; omega)))
  clear h2 k2
  go_wp2_with fail
  refine (inleft_any p S4 0 w5 HI5.out (by omega)).mono ?_
  rintro e w6 ⟨rfl, rfl⟩
  clear HI1 HI2 HI3 HI4 HBB1 HBB2 HBB3 HBB4 HR1 HR2 HR3 HR4
  rw [hsz]
  go_wp2_with fail
  refine (inend_any p S4 0 w5 HI5.out (by omega)).mono ?_
  rintro e w6 ⟨rfl, _, k6⟩
  rw [show endS S4 0 = 0 by unfold endS; split; rfl; omega]
  have HR6 := Lib.hid (k6.heap HR5.out (by omega))
  have HBB6 : Hid (Below w.heap.size w w6) := Lib.hid (HBB5.out.trans (k6.below HBB5.out.size (fun k hk e => by have := HRC.out; omega)))
  clear k6 HR5 HBB5
  go_wp2_with fail
  rw [E1.out, E2.out, E4.out]
  refine (HV.out _).mono ?_
  rintro e w7 ⟨rfl, hb⟩
  have HB7 : Hid (Below w.heap.size w w7) := Lib.hid ((HBB6.out.alloc HBB6.out.size _).trans (hb.mono (by have := HBB6.out.size; simp; omega)))
  have HR7 := Lib.hid ((Keep.of_below (fun _ => False) hb).heap (heap_alloc HR6.out _) (fun y => y))
  have HA7 := Lib.hid ((Keep.of_below (fun _ => False) hb).heap (heap_alloc_new w6 (.cells #[.int .i64 f, .int .i64 g, .bool b, .bool u, .bool i] 38)) (fun y => y))
  have a0 : w7.cell? ⟨w6.heap.size, 0, none⟩ = some (.int .i64 f) := cell_at HA7.out 0
  have a1 : w7.cell? ⟨w6.heap.size, 1, none⟩ = some (.int .i64 g) := cell_at HA7.out 1
  have a2 : w7.cell? ⟨w6.heap.size, 2, none⟩ = some (.bool b) := cell_at HA7.out 2
  have a3 : w7.cell? ⟨w6.heap.size, 3, none⟩ = some (.bool u) := cell_at HA7.out 3
  have a4 : w7.cell? ⟨w6.heap.size, 4, none⟩ = some (.bool i) := cell_at HA7.out 4
  clear hb HR6 HBB6 HI5 HA7
  go_wp2_with (with_reducible refine wpList_store_at rfl _ _ _ rfl rc 0 #[.int .i32 0, .int .i64 0, .int .i64 0, .bool false, .bool false, .bool false] ?hx ?hy ?hi ?h1 ?hc ?hf ?_)
  case hx => rfl
  case hy => rfl
  case hi => exact cell_info
  case h1 => simp [Value.oneCell']
  case hc => intro j hj; rcases j with _ | _ | _ | _ | _ | _ | j <;> first | (rw [cell_at HR7.out _]; rfl) | (simp at hj; omega)
  case hf => intro j hj; exact free_at HR7.out _
  obtain ⟨W8, hW8⟩ : ∃ W8, W8 = w7.setCells rc 0 (#[.int .i32 0, .int .i64 0, .int .i64 0, .bool false, .bool false, .bool false] : Array Value).toList := ⟨_, rfl⟩
  have hs7 : ∀ j, j < 6 → (w7.cell? ⟨rc, 0 + j, none⟩).isSome = true := by intro j hj; rcases j with _ | _ | _ | _ | _ | _ | j <;> first | (rw [cell_at HR7.out _]; rfl) | omega
  have hin := fun j hj => World.cell?_setCells_in rc [.int .i32 0, .int .i64 0, .int .i64 0, .bool false, .bool false, .bool false] 0 w7 hs7 j hj
  have b0 : W8.cell? ⟨rc, 0, none⟩ = some (.int .i32 0) := by rw [hW8]; exact hin 0 (by simp)
  have b1 : W8.cell? ⟨rc, 1, none⟩ = some (.int .i64 0) := by rw [hW8]; exact hin 1 (by simp)
  have b2 : W8.cell? ⟨rc, 2, none⟩ = some (.int .i64 0) := by rw [hW8]; exact hin 2 (by simp)
  have b3 : W8.cell? ⟨rc, 3, none⟩ = some (.bool false) := by rw [hW8]; exact hin 3 (by simp)
  have b4 : W8.cell? ⟨rc, 4, none⟩ = some (.bool false) := by rw [hW8]; exact hin 4 (by simp)
  have b5 : W8.cell? ⟨rc, 5, none⟩ = some (.bool false) := by rw [hW8]; exact hin 5 (by simp)
  have HB8 : Hid (Below w.heap.size w W8) := Lib.hid (HB7.out.trans ((show Keep (· = rc) w7 W8 by rw [hW8]; exact keep_setCells (S := (· = rc)) rc (fun _ => rfl) _ _ _ (Keep.refl _ _)).below HB7.out.size (fun k hk e => by have := HRC.out; omega)))
  rw [← hW8]
  clear hW8 hin hs7 HR7 HB7
  go_wp2_with fail
  refine bodyPost_ret (v := .tuple #[.agg #[.int .i32 0, .int .i64 0, .int .i64 0, .bool false, .bool false, .bool false], .int .i64 0, .int .i64 3]) (by simp [results, Try.results71, go_sem, b0, b1, b2, b3, b4, b5]) rfl ⟨rfl, HB8.out⟩

set_option maxRecDepth 100000 in
set_option maxHeartbeats 6400000 in
theorem read_rune0 (S : ByteArray) (hS : S.size ≤ 1000000) (r f g mk : Int) (S1 S2 S3 S4 : ByteArray) (e1 e2 e3 e4 : Int) (h : Reads4 S r f g mk S1 S2 S3 S4 e1 e2 e3 e4) (w : World) (b u i : Bool) (e1' : (bits BinOp.and IntKind.i64 mk 1 != 0) = b) (e2' : (bits BinOp.and IntKind.i64 mk 2 != 0) = u) (e4' : (bits BinOp.and IntKind.i64 mk 4 != 0) = i) (he : e4 = 0) (hz : S4.size = 0) (ha : At.ok ⟨f, g, b, u, i⟩) (hr : r > 1114111) :
    Calls Try.prog 71 #[.string S] w fun e w' => e = .returned (.tuple #[.agg #[.int .i32 0, .int .i64 0, .int .i64 0, .bool false, .bool false, .bool false], .int .i64 0, .int .i64 3]) ∧ Below w.heap.size w w' := by
  subst he
  have H4 := Lib.hid h
  have hz4 := h.z4
  have E1 := Lib.hid e1'
  have E2 := Lib.hid e2'
  have E4 := Lib.hid e4'
  have HV := Lib.hid (fun V => cell_valid ⟨f, g, b, u, i⟩ V true (by exact decide_eq_true ha))
  simp only [At.v] at HV
  obtain ⟨sz, hsz⟩ : ∃ sz, S4.size = sz := ⟨_, rfl⟩
  obtain ⟨SZ, hSZ⟩ : ∃ SZ, S.size = SZ := ⟨_, rfl⟩
  have HSZ := Lib.hid hSZ
  rw [hsz, hSZ] at hz4
  rw [hSZ] at hS
  try rw [hsz]
  try rw [hSZ]
  have hSZi : (S.size : Int) = (SZ : Int) := by omega
  have hs0 : sz = 0 := by omega
  subst hs0
  clear hz
  clear e1' e2' e4' h hSZ
  go_enter Try.func71, Try.ntmps71
  go_wp2_with fail
  refine (on_any S _).mono ?_
  rintro e w1 ⟨rfl, h1, hb⟩
  obtain ⟨w0, hw0⟩ : ∃ w0, w0 = w.alloc (.cells #[.int .i32 0, .int .i64 0, .int .i64 0, .bool false, .bool false, .bool false] 40) := ⟨_, rfl⟩
  rw [← hw0] at h1 hb
  have hR0 : w0.heap[w.heap.size]? = some (.cells #[.int .i32 0, .int .i64 0, .int .i64 0, .bool false, .bool false, .bool false] 40 (0, 0)) := by rw [hw0]; exact heap_alloc_new w _
  have hB0 : Below w.heap.size w w0 := by rw [hw0]; exact (Below.refl _ w).alloc (Nat.le_refl _) _
  obtain ⟨p, hp⟩ : ∃ p, p = w0.heap.size := ⟨_, rfl⟩
  have hpw : w.heap.size < p := by rw [hp]; exact lt_heap hR0
  rw [← hp] at h1
  have HI1 := Lib.hid h1
  have HR1 := Lib.hid ((Keep.of_below (fun _ => False) hb).heap hR0 (fun y => y))
  have HBB1 : Hid (Below w.heap.size w w1) := Lib.hid (hB0.trans (hb.mono hB0.size))
  try rw [← hw0]
  try rw [← hp]
  obtain ⟨rc, hrc⟩ : ∃ rc, rc = w.heap.size := ⟨_, rfl⟩
  rw [← hrc] at HR1 hpw
  try rw [← hrc]
  have HRC := Lib.hid hrc
  clear h1 hb hw0 hR0 hB0 hp hrc
  go_wp2_with fail
  refine (innum_any p S 0 w1 HI1.out (by unfold maxLen; have := HSZ.out; omega)).mono ?_
  rintro e w2 ⟨rfl, h2, k2⟩
  rw [H4.out.n] at h2
  rw [H4.out.n]
  have HI2 := Lib.hid h2
  have HR2 := Lib.hid (k2.heap HR1.out (by omega))
  have HBB2 : Hid (Below w.heap.size w w2) := Lib.hid (HBB1.out.trans (k2.below HBB1.out.size (fun k hk e => by have := HRC.out; omega)))
  clear h2 k2
  go_wp2_with fail
  refine (inbyte_any p S1 e1 w2 HI2.out (by have := H4.out.z1; omega)).mono ?_
  rintro e w3 ⟨rfl, h2, k2⟩
  rw [H4.out.b1] at h2
  rw [H4.out.b1]
  have HI3 := Lib.hid h2
  have HR3 := Lib.hid (k2.heap HR2.out (by omega))
  have HBB3 : Hid (Below w.heap.size w w3) := Lib.hid (HBB2.out.trans (k2.below HBB2.out.size (fun k hk e => by have := HRC.out; omega)))
  clear h2 k2
  go_wp2_with fail
  refine (inbyte_any p S2 e2 w3 HI3.out (by have := H4.out.z2; omega)).mono ?_
  rintro e w4 ⟨rfl, h2, k2⟩
  rw [H4.out.b2] at h2
  rw [H4.out.b2]
  have HI4 := Lib.hid h2
  have HR4 := Lib.hid (k2.heap HR3.out (by omega))
  have HBB4 : Hid (Below w.heap.size w w4) := Lib.hid (HBB3.out.trans (k2.below HBB3.out.size (fun k hk e => by have := HRC.out; omega)))
  clear h2 k2
  go_wp2_with fail
  refine (inbyte_any p S3 e3 w4 HI4.out (by have := H4.out.z3; omega)).mono ?_
  rintro e w5 ⟨rfl, h2, k2⟩
  rw [H4.out.b3] at h2
  rw [H4.out.b3]
  have HI5 := Lib.hid h2
  have HR5 := Lib.hid (k2.heap HR4.out (by omega))
  have HBB5 : Hid (Below w.heap.size w w5) := Lib.hid (HBB4.out.trans (k2.below HBB4.out.size (fun k hk e => by have := HRC.out; omega)))
  clear h2 k2
  go_wp2_with fail
  refine (inleft_any p S4 0 w5 HI5.out (by omega)).mono ?_
  rintro e w6 ⟨rfl, rfl⟩
  clear HI1 HI2 HI3 HI4 HBB1 HBB2 HBB3 HBB4 HR1 HR2 HR3 HR4
  rw [hsz]
  go_wp2_with fail
  refine (inend_any p S4 0 w5 HI5.out (by omega)).mono ?_
  rintro e w6 ⟨rfl, _, k6⟩
  rw [show endS S4 0 = 0 by unfold endS; split; rfl; omega]
  have HR6 := Lib.hid (k6.heap HR5.out (by omega))
  have HBB6 : Hid (Below w.heap.size w w6) := Lib.hid (HBB5.out.trans (k6.below HBB5.out.size (fun k hk e => by have := HRC.out; omega)))
  clear k6 HR5 HBB5
  go_wp2_with fail
  rw [E1.out, E2.out, E4.out]
  refine (HV.out _).mono ?_
  rintro e w7 ⟨rfl, hb⟩
  have HB7 : Hid (Below w.heap.size w w7) := Lib.hid ((HBB6.out.alloc HBB6.out.size _).trans (hb.mono (by have := HBB6.out.size; simp; omega)))
  have HR7 := Lib.hid ((Keep.of_below (fun _ => False) hb).heap (heap_alloc HR6.out _) (fun y => y))
  have HA7 := Lib.hid ((Keep.of_below (fun _ => False) hb).heap (heap_alloc_new w6 (.cells #[.int .i64 f, .int .i64 g, .bool b, .bool u, .bool i] 38)) (fun y => y))
  have a0 : w7.cell? ⟨w6.heap.size, 0, none⟩ = some (.int .i64 f) := cell_at HA7.out 0
  have a1 : w7.cell? ⟨w6.heap.size, 1, none⟩ = some (.int .i64 g) := cell_at HA7.out 1
  have a2 : w7.cell? ⟨w6.heap.size, 2, none⟩ = some (.bool b) := cell_at HA7.out 2
  have a3 : w7.cell? ⟨w6.heap.size, 3, none⟩ = some (.bool u) := cell_at HA7.out 3
  have a4 : w7.cell? ⟨w6.heap.size, 4, none⟩ = some (.bool i) := cell_at HA7.out 4
  clear hb HR6 HBB6 HI5 HA7
  go_wp2_with (with_reducible refine wpList_store_at rfl _ _ _ rfl rc 0 #[.int .i32 0, .int .i64 0, .int .i64 0, .bool false, .bool false, .bool false] ?hx ?hy ?hi ?h1 ?hc ?hf ?_)
  case hx => rfl
  case hy => rfl
  case hi => exact cell_info
  case h1 => simp [Value.oneCell']
  case hc => intro j hj; rcases j with _ | _ | _ | _ | _ | _ | j <;> first | (rw [cell_at HR7.out _]; rfl) | (simp at hj; omega)
  case hf => intro j hj; exact free_at HR7.out _
  obtain ⟨W8, hW8⟩ : ∃ W8, W8 = w7.setCells rc 0 (#[.int .i32 0, .int .i64 0, .int .i64 0, .bool false, .bool false, .bool false] : Array Value).toList := ⟨_, rfl⟩
  have hs7 : ∀ j, j < 6 → (w7.cell? ⟨rc, 0 + j, none⟩).isSome = true := by intro j hj; rcases j with _ | _ | _ | _ | _ | _ | j <;> first | (rw [cell_at HR7.out _]; rfl) | omega
  have hin := fun j hj => World.cell?_setCells_in rc [.int .i32 0, .int .i64 0, .int .i64 0, .bool false, .bool false, .bool false] 0 w7 hs7 j hj
  have b0 : W8.cell? ⟨rc, 0, none⟩ = some (.int .i32 0) := by rw [hW8]; exact hin 0 (by simp)
  have b1 : W8.cell? ⟨rc, 1, none⟩ = some (.int .i64 0) := by rw [hW8]; exact hin 1 (by simp)
  have b2 : W8.cell? ⟨rc, 2, none⟩ = some (.int .i64 0) := by rw [hW8]; exact hin 2 (by simp)
  have b3 : W8.cell? ⟨rc, 3, none⟩ = some (.bool false) := by rw [hW8]; exact hin 3 (by simp)
  have b4 : W8.cell? ⟨rc, 4, none⟩ = some (.bool false) := by rw [hW8]; exact hin 4 (by simp)
  have b5 : W8.cell? ⟨rc, 5, none⟩ = some (.bool false) := by rw [hW8]; exact hin 5 (by simp)
  have HB8 : Hid (Below w.heap.size w W8) := Lib.hid (HB7.out.trans ((show Keep (· = rc) w7 W8 by rw [hW8]; exact keep_setCells (S := (· = rc)) rc (fun _ => rfl) _ _ _ (Keep.refl _ _)).below HB7.out.size (fun k hk e => by have := HRC.out; omega)))
  rw [← hW8]
  clear hW8 hin hs7 HR7 HB7
  go_wp2_with fail
  refine bodyPost_ret (v := .tuple #[.agg #[.int .i32 0, .int .i64 0, .int .i64 0, .bool false, .bool false, .bool false], .int .i64 0, .int .i64 3]) (by simp [results, Try.results71, go_sem, b0, b1, b2, b3, b4, b5]) rfl ⟨rfl, HB8.out⟩

set_option maxRecDepth 100000 in
set_option maxHeartbeats 6400000 in
theorem read_mark0 (S : ByteArray) (hS : S.size ≤ 1000000) (r f g mk : Int) (S1 S2 S3 S4 : ByteArray) (e1 e2 e3 e4 : Int) (h : Reads4 S r f g mk S1 S2 S3 S4 e1 e2 e3 e4) (w : World) (b u i : Bool) (e1' : (bits BinOp.and IntKind.i64 mk 1 != 0) = b) (e2' : (bits BinOp.and IntKind.i64 mk 2 != 0) = u) (e4' : (bits BinOp.and IntKind.i64 mk 4 != 0) = i) (he : e4 = 0) (hz : S4.size = 0) (ha : At.ok ⟨f, g, b, u, i⟩) (hr : ¬ r > 1114111) (hm : mk > 7) :
    Calls Try.prog 71 #[.string S] w fun e w' => e = .returned (.tuple #[.agg #[.int .i32 0, .int .i64 0, .int .i64 0, .bool false, .bool false, .bool false], .int .i64 0, .int .i64 3]) ∧ Below w.heap.size w w' := by
  subst he
  have H4 := Lib.hid h
  have hz4 := h.z4
  have E1 := Lib.hid e1'
  have E2 := Lib.hid e2'
  have E4 := Lib.hid e4'
  have HV := Lib.hid (fun V => cell_valid ⟨f, g, b, u, i⟩ V true (by exact decide_eq_true ha))
  simp only [At.v] at HV
  obtain ⟨sz, hsz⟩ : ∃ sz, S4.size = sz := ⟨_, rfl⟩
  obtain ⟨SZ, hSZ⟩ : ∃ SZ, S.size = SZ := ⟨_, rfl⟩
  have HSZ := Lib.hid hSZ
  rw [hsz, hSZ] at hz4
  rw [hSZ] at hS
  try rw [hsz]
  try rw [hSZ]
  have hSZi : (S.size : Int) = (SZ : Int) := by omega
  have hs0 : sz = 0 := by omega
  subst hs0
  clear hz
  clear e1' e2' e4' h hSZ
  go_enter Try.func71, Try.ntmps71
  go_wp2_with fail
  refine (on_any S _).mono ?_
  rintro e w1 ⟨rfl, h1, hb⟩
  obtain ⟨w0, hw0⟩ : ∃ w0, w0 = w.alloc (.cells #[.int .i32 0, .int .i64 0, .int .i64 0, .bool false, .bool false, .bool false] 40) := ⟨_, rfl⟩
  rw [← hw0] at h1 hb
  have hR0 : w0.heap[w.heap.size]? = some (.cells #[.int .i32 0, .int .i64 0, .int .i64 0, .bool false, .bool false, .bool false] 40 (0, 0)) := by rw [hw0]; exact heap_alloc_new w _
  have hB0 : Below w.heap.size w w0 := by rw [hw0]; exact (Below.refl _ w).alloc (Nat.le_refl _) _
  obtain ⟨p, hp⟩ : ∃ p, p = w0.heap.size := ⟨_, rfl⟩
  have hpw : w.heap.size < p := by rw [hp]; exact lt_heap hR0
  rw [← hp] at h1
  have HI1 := Lib.hid h1
  have HR1 := Lib.hid ((Keep.of_below (fun _ => False) hb).heap hR0 (fun y => y))
  have HBB1 : Hid (Below w.heap.size w w1) := Lib.hid (hB0.trans (hb.mono hB0.size))
  try rw [← hw0]
  try rw [← hp]
  obtain ⟨rc, hrc⟩ : ∃ rc, rc = w.heap.size := ⟨_, rfl⟩
  rw [← hrc] at HR1 hpw
  try rw [← hrc]
  have HRC := Lib.hid hrc
  clear h1 hb hw0 hR0 hB0 hp hrc
  go_wp2_with fail
  refine (innum_any p S 0 w1 HI1.out (by unfold maxLen; have := HSZ.out; omega)).mono ?_
  rintro e w2 ⟨rfl, h2, k2⟩
  rw [H4.out.n] at h2
  rw [H4.out.n]
  have HI2 := Lib.hid h2
  have HR2 := Lib.hid (k2.heap HR1.out (by omega))
  have HBB2 : Hid (Below w.heap.size w w2) := Lib.hid (HBB1.out.trans (k2.below HBB1.out.size (fun k hk e => by have := HRC.out; omega)))
  clear h2 k2
  go_wp2_with fail
  refine (inbyte_any p S1 e1 w2 HI2.out (by have := H4.out.z1; omega)).mono ?_
  rintro e w3 ⟨rfl, h2, k2⟩
  rw [H4.out.b1] at h2
  rw [H4.out.b1]
  have HI3 := Lib.hid h2
  have HR3 := Lib.hid (k2.heap HR2.out (by omega))
  have HBB3 : Hid (Below w.heap.size w w3) := Lib.hid (HBB2.out.trans (k2.below HBB2.out.size (fun k hk e => by have := HRC.out; omega)))
  clear h2 k2
  go_wp2_with fail
  refine (inbyte_any p S2 e2 w3 HI3.out (by have := H4.out.z2; omega)).mono ?_
  rintro e w4 ⟨rfl, h2, k2⟩
  rw [H4.out.b2] at h2
  rw [H4.out.b2]
  have HI4 := Lib.hid h2
  have HR4 := Lib.hid (k2.heap HR3.out (by omega))
  have HBB4 : Hid (Below w.heap.size w w4) := Lib.hid (HBB3.out.trans (k2.below HBB3.out.size (fun k hk e => by have := HRC.out; omega)))
  clear h2 k2
  go_wp2_with fail
  refine (inbyte_any p S3 e3 w4 HI4.out (by have := H4.out.z3; omega)).mono ?_
  rintro e w5 ⟨rfl, h2, k2⟩
  rw [H4.out.b3] at h2
  rw [H4.out.b3]
  have HI5 := Lib.hid h2
  have HR5 := Lib.hid (k2.heap HR4.out (by omega))
  have HBB5 : Hid (Below w.heap.size w w5) := Lib.hid (HBB4.out.trans (k2.below HBB4.out.size (fun k hk e => by have := HRC.out; omega)))
  clear h2 k2
  go_wp2_with fail
  refine (inleft_any p S4 0 w5 HI5.out (by omega)).mono ?_
  rintro e w6 ⟨rfl, rfl⟩
  clear HI1 HI2 HI3 HI4 HBB1 HBB2 HBB3 HBB4 HR1 HR2 HR3 HR4
  rw [hsz]
  go_wp2_with fail
  refine (inend_any p S4 0 w5 HI5.out (by omega)).mono ?_
  rintro e w6 ⟨rfl, _, k6⟩
  rw [show endS S4 0 = 0 by unfold endS; split; rfl; omega]
  have HR6 := Lib.hid (k6.heap HR5.out (by omega))
  have HBB6 : Hid (Below w.heap.size w w6) := Lib.hid (HBB5.out.trans (k6.below HBB5.out.size (fun k hk e => by have := HRC.out; omega)))
  clear k6 HR5 HBB5
  go_wp2_with fail
  rw [E1.out, E2.out, E4.out]
  refine (HV.out _).mono ?_
  rintro e w7 ⟨rfl, hb⟩
  have HB7 : Hid (Below w.heap.size w w7) := Lib.hid ((HBB6.out.alloc HBB6.out.size _).trans (hb.mono (by have := HBB6.out.size; simp; omega)))
  have HR7 := Lib.hid ((Keep.of_below (fun _ => False) hb).heap (heap_alloc HR6.out _) (fun y => y))
  have HA7 := Lib.hid ((Keep.of_below (fun _ => False) hb).heap (heap_alloc_new w6 (.cells #[.int .i64 f, .int .i64 g, .bool b, .bool u, .bool i] 38)) (fun y => y))
  have a0 : w7.cell? ⟨w6.heap.size, 0, none⟩ = some (.int .i64 f) := cell_at HA7.out 0
  have a1 : w7.cell? ⟨w6.heap.size, 1, none⟩ = some (.int .i64 g) := cell_at HA7.out 1
  have a2 : w7.cell? ⟨w6.heap.size, 2, none⟩ = some (.bool b) := cell_at HA7.out 2
  have a3 : w7.cell? ⟨w6.heap.size, 3, none⟩ = some (.bool u) := cell_at HA7.out 3
  have a4 : w7.cell? ⟨w6.heap.size, 4, none⟩ = some (.bool i) := cell_at HA7.out 4
  clear hb HR6 HBB6 HI5 HA7
  go_wp2_with (with_reducible refine wpList_store_at rfl _ _ _ rfl rc 0 #[.int .i32 0, .int .i64 0, .int .i64 0, .bool false, .bool false, .bool false] ?hx ?hy ?hi ?h1 ?hc ?hf ?_)
  case hx => rfl
  case hy => rfl
  case hi => exact cell_info
  case h1 => simp [Value.oneCell']
  case hc => intro j hj; rcases j with _ | _ | _ | _ | _ | _ | j <;> first | (rw [cell_at HR7.out _]; rfl) | (simp at hj; omega)
  case hf => intro j hj; exact free_at HR7.out _
  obtain ⟨W8, hW8⟩ : ∃ W8, W8 = w7.setCells rc 0 (#[.int .i32 0, .int .i64 0, .int .i64 0, .bool false, .bool false, .bool false] : Array Value).toList := ⟨_, rfl⟩
  have hs7 : ∀ j, j < 6 → (w7.cell? ⟨rc, 0 + j, none⟩).isSome = true := by intro j hj; rcases j with _ | _ | _ | _ | _ | _ | j <;> first | (rw [cell_at HR7.out _]; rfl) | omega
  have hin := fun j hj => World.cell?_setCells_in rc [.int .i32 0, .int .i64 0, .int .i64 0, .bool false, .bool false, .bool false] 0 w7 hs7 j hj
  have b0 : W8.cell? ⟨rc, 0, none⟩ = some (.int .i32 0) := by rw [hW8]; exact hin 0 (by simp)
  have b1 : W8.cell? ⟨rc, 1, none⟩ = some (.int .i64 0) := by rw [hW8]; exact hin 1 (by simp)
  have b2 : W8.cell? ⟨rc, 2, none⟩ = some (.int .i64 0) := by rw [hW8]; exact hin 2 (by simp)
  have b3 : W8.cell? ⟨rc, 3, none⟩ = some (.bool false) := by rw [hW8]; exact hin 3 (by simp)
  have b4 : W8.cell? ⟨rc, 4, none⟩ = some (.bool false) := by rw [hW8]; exact hin 4 (by simp)
  have b5 : W8.cell? ⟨rc, 5, none⟩ = some (.bool false) := by rw [hW8]; exact hin 5 (by simp)
  have HB8 : Hid (Below w.heap.size w W8) := Lib.hid (HB7.out.trans ((show Keep (· = rc) w7 W8 by rw [hW8]; exact keep_setCells (S := (· = rc)) rc (fun _ => rfl) _ _ _ (Keep.refl _ _)).below HB7.out.size (fun k hk e => by have := HRC.out; omega)))
  rw [← hW8]
  clear hW8 hin hs7 HR7 HB7
  go_wp2_with fail
  refine bodyPost_ret (v := .tuple #[.agg #[.int .i32 0, .int .i64 0, .int .i64 0, .bool false, .bool false, .bool false], .int .i64 0, .int .i64 3]) (by simp [results, Try.results71, go_sem, b0, b1, b2, b3, b4, b5]) rfl ⟨rfl, HB8.out⟩

set_option maxRecDepth 100000 in
set_option maxHeartbeats 6400000 in
theorem read_ok1 (S : ByteArray) (hS : S.size ≤ 1000000) (r f g mk : Int) (S1 S2 S3 S4 : ByteArray) (e1 e2 e3 e4 : Int) (h : Reads4 S r f g mk S1 S2 S3 S4 e1 e2 e3 e4) (w : World) (b u i : Bool) (e1' : (bits BinOp.and IntKind.i64 mk 1 != 0) = b) (e2' : (bits BinOp.and IntKind.i64 mk 2 != 0) = u) (e4' : (bits BinOp.and IntKind.i64 mk 4 != 0) = i) (he : e4 = 0) (hz : S4.size ≠ 0) (ha : At.ok ⟨f, g, b, u, i⟩) (hr0 : 0 ≤ r) (hr : ¬ r > 1114111) (hm : ¬ mk > 7) :
    Calls Try.prog 71 #[.string S] w fun e w' => e = .returned (.tuple #[.agg #[.int .i32 r, .int .i64 f, .int .i64 g, .bool b, .bool u, .bool i], .int .i64 ((S.size : Int) - (S4.size : Int)), .int .i64 0]) ∧ Below w.heap.size w w' := by
  subst he
  have H4 := Lib.hid h
  have hz4 := h.z4
  have E1 := Lib.hid e1'
  have E2 := Lib.hid e2'
  have E4 := Lib.hid e4'
  have HV := Lib.hid (fun V => cell_valid ⟨f, g, b, u, i⟩ V true (by exact decide_eq_true ha))
  simp only [At.v] at HV
  obtain ⟨sz, hsz⟩ : ∃ sz, S4.size = sz := ⟨_, rfl⟩
  obtain ⟨SZ, hSZ⟩ : ∃ SZ, S.size = SZ := ⟨_, rfl⟩
  have HSZ := Lib.hid hSZ
  rw [hsz, hSZ] at hz4
  rw [hSZ] at hS
  try rw [hsz]
  try rw [hSZ]
  have hSZi : (S.size : Int) = (SZ : Int) := by omega
  have hr32 : IntKind.i32.wrap r = r := by rw [IntKind.wrap_i32]; omega
  have t9 : (SZ : Int) ≤ 1000000 := by omega
  have t8 : (sz : Int) ≤ (SZ : Int) := by omega
  have t0 : ((sz : Int) == 0) = false := by simp; omega
  clear hz
  clear e1' e2' e4' h hSZ
  go_enter Try.func71, Try.ntmps71
  go_wp2_with fail
  refine (on_any S _).mono ?_
  rintro e w1 ⟨rfl, h1, hb⟩
  obtain ⟨w0, hw0⟩ : ∃ w0, w0 = w.alloc (.cells #[.int .i32 0, .int .i64 0, .int .i64 0, .bool false, .bool false, .bool false] 40) := ⟨_, rfl⟩
  rw [← hw0] at h1 hb
  have hR0 : w0.heap[w.heap.size]? = some (.cells #[.int .i32 0, .int .i64 0, .int .i64 0, .bool false, .bool false, .bool false] 40 (0, 0)) := by rw [hw0]; exact heap_alloc_new w _
  have hB0 : Below w.heap.size w w0 := by rw [hw0]; exact (Below.refl _ w).alloc (Nat.le_refl _) _
  obtain ⟨p, hp⟩ : ∃ p, p = w0.heap.size := ⟨_, rfl⟩
  have hpw : w.heap.size < p := by rw [hp]; exact lt_heap hR0
  rw [← hp] at h1
  have HI1 := Lib.hid h1
  have HR1 := Lib.hid ((Keep.of_below (fun _ => False) hb).heap hR0 (fun y => y))
  have HBB1 : Hid (Below w.heap.size w w1) := Lib.hid (hB0.trans (hb.mono hB0.size))
  try rw [← hw0]
  try rw [← hp]
  obtain ⟨rc, hrc⟩ : ∃ rc, rc = w.heap.size := ⟨_, rfl⟩
  rw [← hrc] at HR1 hpw
  try rw [← hrc]
  have HRC := Lib.hid hrc
  clear h1 hb hw0 hR0 hB0 hp hrc
  go_wp2_with fail
  refine (innum_any p S 0 w1 HI1.out (by unfold maxLen; have := HSZ.out; omega)).mono ?_
  rintro e w2 ⟨rfl, h2, k2⟩
  rw [H4.out.n] at h2
  rw [H4.out.n]
  have HI2 := Lib.hid h2
  have HR2 := Lib.hid (k2.heap HR1.out (by omega))
  have HBB2 : Hid (Below w.heap.size w w2) := Lib.hid (HBB1.out.trans (k2.below HBB1.out.size (fun k hk e => by have := HRC.out; omega)))
  clear h2 k2
  go_wp2_with fail
  refine (inbyte_any p S1 e1 w2 HI2.out (by have := H4.out.z1; omega)).mono ?_
  rintro e w3 ⟨rfl, h2, k2⟩
  rw [H4.out.b1] at h2
  rw [H4.out.b1]
  have HI3 := Lib.hid h2
  have HR3 := Lib.hid (k2.heap HR2.out (by omega))
  have HBB3 : Hid (Below w.heap.size w w3) := Lib.hid (HBB2.out.trans (k2.below HBB2.out.size (fun k hk e => by have := HRC.out; omega)))
  clear h2 k2
  go_wp2_with fail
  refine (inbyte_any p S2 e2 w3 HI3.out (by have := H4.out.z2; omega)).mono ?_
  rintro e w4 ⟨rfl, h2, k2⟩
  rw [H4.out.b2] at h2
  rw [H4.out.b2]
  have HI4 := Lib.hid h2
  have HR4 := Lib.hid (k2.heap HR3.out (by omega))
  have HBB4 : Hid (Below w.heap.size w w4) := Lib.hid (HBB3.out.trans (k2.below HBB3.out.size (fun k hk e => by have := HRC.out; omega)))
  clear h2 k2
  go_wp2_with fail
  refine (inbyte_any p S3 e3 w4 HI4.out (by have := H4.out.z3; omega)).mono ?_
  rintro e w5 ⟨rfl, h2, k2⟩
  rw [H4.out.b3] at h2
  rw [H4.out.b3]
  have HI5 := Lib.hid h2
  have HR5 := Lib.hid (k2.heap HR4.out (by omega))
  have HBB5 : Hid (Below w.heap.size w w5) := Lib.hid (HBB4.out.trans (k2.below HBB4.out.size (fun k hk e => by have := HRC.out; omega)))
  clear h2 k2
  go_wp2_with fail
  refine (inleft_any p S4 0 w5 HI5.out (by omega)).mono ?_
  rintro e w6 ⟨rfl, rfl⟩
  clear HI1 HI2 HI3 HI4 HBB1 HBB2 HBB3 HBB4 HR1 HR2 HR3 HR4
  rw [hsz]
  have HR6 := HR5
  have HBB6 := HBB5
  clear HR5 HBB5
  go_wp2_with fail
  rw [E1.out, E2.out, E4.out]
  refine (HV.out _).mono ?_
  rintro e w7 ⟨rfl, hb⟩
  have HB7 : Hid (Below w.heap.size w w7) := Lib.hid ((HBB6.out.alloc HBB6.out.size _).trans (hb.mono (by have := HBB6.out.size; simp; omega)))
  have HR7 := Lib.hid ((Keep.of_below (fun _ => False) hb).heap (heap_alloc HR6.out _) (fun y => y))
  have HA7 := Lib.hid ((Keep.of_below (fun _ => False) hb).heap (heap_alloc_new w5 (.cells #[.int .i64 f, .int .i64 g, .bool b, .bool u, .bool i] 38)) (fun y => y))
  have a0 : w7.cell? ⟨w5.heap.size, 0, none⟩ = some (.int .i64 f) := cell_at HA7.out 0
  have a1 : w7.cell? ⟨w5.heap.size, 1, none⟩ = some (.int .i64 g) := cell_at HA7.out 1
  have a2 : w7.cell? ⟨w5.heap.size, 2, none⟩ = some (.bool b) := cell_at HA7.out 2
  have a3 : w7.cell? ⟨w5.heap.size, 3, none⟩ = some (.bool u) := cell_at HA7.out 3
  have a4 : w7.cell? ⟨w5.heap.size, 4, none⟩ = some (.bool i) := cell_at HA7.out 4
  clear hb HR6 HBB6 HI5 HA7
  go_wp2_with (with_reducible refine wpList_store_at rfl _ _ _ rfl rc 0 #[.int .i32 r, .int .i64 f, .int .i64 g, .bool b, .bool u, .bool i] ?hx ?hy ?hi ?h1 ?hc ?hf ?_)
  case hx => rfl
  case hy => rfl
  case hi => exact cell_info
  case h1 => simp [Value.oneCell']
  case hc => intro j hj; rcases j with _ | _ | _ | _ | _ | _ | j <;> first | (rw [cell_at HR7.out _]; rfl) | (simp at hj; omega)
  case hf => intro j hj; exact free_at HR7.out _
  obtain ⟨W8, hW8⟩ : ∃ W8, W8 = w7.setCells rc 0 (#[.int .i32 r, .int .i64 f, .int .i64 g, .bool b, .bool u, .bool i] : Array Value).toList := ⟨_, rfl⟩
  have hs7 : ∀ j, j < 6 → (w7.cell? ⟨rc, 0 + j, none⟩).isSome = true := by intro j hj; rcases j with _ | _ | _ | _ | _ | _ | j <;> first | (rw [cell_at HR7.out _]; rfl) | omega
  have hin := fun j hj => World.cell?_setCells_in rc [.int .i32 r, .int .i64 f, .int .i64 g, .bool b, .bool u, .bool i] 0 w7 hs7 j hj
  have b0 : W8.cell? ⟨rc, 0, none⟩ = some (.int .i32 r) := by rw [hW8]; exact hin 0 (by simp)
  have b1 : W8.cell? ⟨rc, 1, none⟩ = some (.int .i64 f) := by rw [hW8]; exact hin 1 (by simp)
  have b2 : W8.cell? ⟨rc, 2, none⟩ = some (.int .i64 g) := by rw [hW8]; exact hin 2 (by simp)
  have b3 : W8.cell? ⟨rc, 3, none⟩ = some (.bool b) := by rw [hW8]; exact hin 3 (by simp)
  have b4 : W8.cell? ⟨rc, 4, none⟩ = some (.bool u) := by rw [hW8]; exact hin 4 (by simp)
  have b5 : W8.cell? ⟨rc, 5, none⟩ = some (.bool i) := by rw [hW8]; exact hin 5 (by simp)
  have HB8 : Hid (Below w.heap.size w W8) := Lib.hid (HB7.out.trans ((show Keep (· = rc) w7 W8 by rw [hW8]; exact keep_setCells (S := (· = rc)) rc (fun _ => rfl) _ _ _ (Keep.refl _ _)).below HB7.out.size (fun k hk e => by have := HRC.out; omega)))
  rw [← hW8]
  clear hW8 hin hs7 HR7 HB7
  go_wp2_with fail
  refine bodyPost_ret (v := .tuple #[.agg #[.int .i32 r, .int .i64 f, .int .i64 g, .bool b, .bool u, .bool i], .int .i64 ((SZ : Int) - (sz : Int)), .int .i64 0]) (by simp [results, Try.results71, go_sem, b0, b1, b2, b3, b4, b5]) rfl ⟨rfl, HB8.out⟩

set_option maxRecDepth 100000 in
set_option maxHeartbeats 6400000 in
theorem read_attr1 (S : ByteArray) (hS : S.size ≤ 1000000) (r f g mk : Int) (S1 S2 S3 S4 : ByteArray) (e1 e2 e3 e4 : Int) (h : Reads4 S r f g mk S1 S2 S3 S4 e1 e2 e3 e4) (w : World) (b u i : Bool) (e1' : (bits BinOp.and IntKind.i64 mk 1 != 0) = b) (e2' : (bits BinOp.and IntKind.i64 mk 2 != 0) = u) (e4' : (bits BinOp.and IntKind.i64 mk 4 != 0) = i) (he : e4 = 0) (hz : S4.size ≠ 0) (ha : ¬ At.ok ⟨f, g, b, u, i⟩) :
    Calls Try.prog 71 #[.string S] w fun e w' => e = .returned (.tuple #[.agg #[.int .i32 0, .int .i64 0, .int .i64 0, .bool false, .bool false, .bool false], .int .i64 0, .int .i64 3]) ∧ Below w.heap.size w w' := by
  subst he
  have H4 := Lib.hid h
  have hz4 := h.z4
  have E1 := Lib.hid e1'
  have E2 := Lib.hid e2'
  have E4 := Lib.hid e4'
  have HV := Lib.hid (fun V => cell_valid ⟨f, g, b, u, i⟩ V false (by exact decide_eq_false ha))
  simp only [At.v] at HV
  obtain ⟨sz, hsz⟩ : ∃ sz, S4.size = sz := ⟨_, rfl⟩
  obtain ⟨SZ, hSZ⟩ : ∃ SZ, S.size = SZ := ⟨_, rfl⟩
  have HSZ := Lib.hid hSZ
  rw [hsz, hSZ] at hz4
  rw [hSZ] at hS
  try rw [hsz]
  try rw [hSZ]
  have hSZi : (S.size : Int) = (SZ : Int) := by omega
  have t0 : ((sz : Int) == 0) = false := by simp; omega
  clear hz
  clear e1' e2' e4' h hSZ
  go_enter Try.func71, Try.ntmps71
  go_wp2_with fail
  refine (on_any S _).mono ?_
  rintro e w1 ⟨rfl, h1, hb⟩
  obtain ⟨w0, hw0⟩ : ∃ w0, w0 = w.alloc (.cells #[.int .i32 0, .int .i64 0, .int .i64 0, .bool false, .bool false, .bool false] 40) := ⟨_, rfl⟩
  rw [← hw0] at h1 hb
  have hR0 : w0.heap[w.heap.size]? = some (.cells #[.int .i32 0, .int .i64 0, .int .i64 0, .bool false, .bool false, .bool false] 40 (0, 0)) := by rw [hw0]; exact heap_alloc_new w _
  have hB0 : Below w.heap.size w w0 := by rw [hw0]; exact (Below.refl _ w).alloc (Nat.le_refl _) _
  obtain ⟨p, hp⟩ : ∃ p, p = w0.heap.size := ⟨_, rfl⟩
  have hpw : w.heap.size < p := by rw [hp]; exact lt_heap hR0
  rw [← hp] at h1
  have HI1 := Lib.hid h1
  have HR1 := Lib.hid ((Keep.of_below (fun _ => False) hb).heap hR0 (fun y => y))
  have HBB1 : Hid (Below w.heap.size w w1) := Lib.hid (hB0.trans (hb.mono hB0.size))
  try rw [← hw0]
  try rw [← hp]
  obtain ⟨rc, hrc⟩ : ∃ rc, rc = w.heap.size := ⟨_, rfl⟩
  rw [← hrc] at HR1 hpw
  try rw [← hrc]
  have HRC := Lib.hid hrc
  clear h1 hb hw0 hR0 hB0 hp hrc
  go_wp2_with fail
  refine (innum_any p S 0 w1 HI1.out (by unfold maxLen; have := HSZ.out; omega)).mono ?_
  rintro e w2 ⟨rfl, h2, k2⟩
  rw [H4.out.n] at h2
  rw [H4.out.n]
  have HI2 := Lib.hid h2
  have HR2 := Lib.hid (k2.heap HR1.out (by omega))
  have HBB2 : Hid (Below w.heap.size w w2) := Lib.hid (HBB1.out.trans (k2.below HBB1.out.size (fun k hk e => by have := HRC.out; omega)))
  clear h2 k2
  go_wp2_with fail
  refine (inbyte_any p S1 e1 w2 HI2.out (by have := H4.out.z1; omega)).mono ?_
  rintro e w3 ⟨rfl, h2, k2⟩
  rw [H4.out.b1] at h2
  rw [H4.out.b1]
  have HI3 := Lib.hid h2
  have HR3 := Lib.hid (k2.heap HR2.out (by omega))
  have HBB3 : Hid (Below w.heap.size w w3) := Lib.hid (HBB2.out.trans (k2.below HBB2.out.size (fun k hk e => by have := HRC.out; omega)))
  clear h2 k2
  go_wp2_with fail
  refine (inbyte_any p S2 e2 w3 HI3.out (by have := H4.out.z2; omega)).mono ?_
  rintro e w4 ⟨rfl, h2, k2⟩
  rw [H4.out.b2] at h2
  rw [H4.out.b2]
  have HI4 := Lib.hid h2
  have HR4 := Lib.hid (k2.heap HR3.out (by omega))
  have HBB4 : Hid (Below w.heap.size w w4) := Lib.hid (HBB3.out.trans (k2.below HBB3.out.size (fun k hk e => by have := HRC.out; omega)))
  clear h2 k2
  go_wp2_with fail
  refine (inbyte_any p S3 e3 w4 HI4.out (by have := H4.out.z3; omega)).mono ?_
  rintro e w5 ⟨rfl, h2, k2⟩
  rw [H4.out.b3] at h2
  rw [H4.out.b3]
  have HI5 := Lib.hid h2
  have HR5 := Lib.hid (k2.heap HR4.out (by omega))
  have HBB5 : Hid (Below w.heap.size w w5) := Lib.hid (HBB4.out.trans (k2.below HBB4.out.size (fun k hk e => by have := HRC.out; omega)))
  clear h2 k2
  go_wp2_with fail
  refine (inleft_any p S4 0 w5 HI5.out (by omega)).mono ?_
  rintro e w6 ⟨rfl, rfl⟩
  clear HI1 HI2 HI3 HI4 HBB1 HBB2 HBB3 HBB4 HR1 HR2 HR3 HR4
  rw [hsz]
  have HR6 := HR5
  have HBB6 := HBB5
  clear HR5 HBB5
  go_wp2_with fail
  rw [E1.out, E2.out, E4.out]
  refine (HV.out _).mono ?_
  rintro e w7 ⟨rfl, hb⟩
  have HB7 : Hid (Below w.heap.size w w7) := Lib.hid ((HBB6.out.alloc HBB6.out.size _).trans (hb.mono (by have := HBB6.out.size; simp; omega)))
  have HR7 := Lib.hid ((Keep.of_below (fun _ => False) hb).heap (heap_alloc HR6.out _) (fun y => y))
  have HA7 := Lib.hid ((Keep.of_below (fun _ => False) hb).heap (heap_alloc_new w5 (.cells #[.int .i64 f, .int .i64 g, .bool b, .bool u, .bool i] 38)) (fun y => y))
  have a0 : w7.cell? ⟨w5.heap.size, 0, none⟩ = some (.int .i64 f) := cell_at HA7.out 0
  have a1 : w7.cell? ⟨w5.heap.size, 1, none⟩ = some (.int .i64 g) := cell_at HA7.out 1
  have a2 : w7.cell? ⟨w5.heap.size, 2, none⟩ = some (.bool b) := cell_at HA7.out 2
  have a3 : w7.cell? ⟨w5.heap.size, 3, none⟩ = some (.bool u) := cell_at HA7.out 3
  have a4 : w7.cell? ⟨w5.heap.size, 4, none⟩ = some (.bool i) := cell_at HA7.out 4
  clear hb HR6 HBB6 HI5 HA7
  go_wp2_with (with_reducible refine wpList_store_at rfl _ _ _ rfl rc 0 #[.int .i32 0, .int .i64 0, .int .i64 0, .bool false, .bool false, .bool false] ?hx ?hy ?hi ?h1 ?hc ?hf ?_)
  case hx => rfl
  case hy => rfl
  case hi => exact cell_info
  case h1 => simp [Value.oneCell']
  case hc => intro j hj; rcases j with _ | _ | _ | _ | _ | _ | j <;> first | (rw [cell_at HR7.out _]; rfl) | (simp at hj; omega)
  case hf => intro j hj; exact free_at HR7.out _
  obtain ⟨W8, hW8⟩ : ∃ W8, W8 = w7.setCells rc 0 (#[.int .i32 0, .int .i64 0, .int .i64 0, .bool false, .bool false, .bool false] : Array Value).toList := ⟨_, rfl⟩
  have hs7 : ∀ j, j < 6 → (w7.cell? ⟨rc, 0 + j, none⟩).isSome = true := by intro j hj; rcases j with _ | _ | _ | _ | _ | _ | j <;> first | (rw [cell_at HR7.out _]; rfl) | omega
  have hin := fun j hj => World.cell?_setCells_in rc [.int .i32 0, .int .i64 0, .int .i64 0, .bool false, .bool false, .bool false] 0 w7 hs7 j hj
  have b0 : W8.cell? ⟨rc, 0, none⟩ = some (.int .i32 0) := by rw [hW8]; exact hin 0 (by simp)
  have b1 : W8.cell? ⟨rc, 1, none⟩ = some (.int .i64 0) := by rw [hW8]; exact hin 1 (by simp)
  have b2 : W8.cell? ⟨rc, 2, none⟩ = some (.int .i64 0) := by rw [hW8]; exact hin 2 (by simp)
  have b3 : W8.cell? ⟨rc, 3, none⟩ = some (.bool false) := by rw [hW8]; exact hin 3 (by simp)
  have b4 : W8.cell? ⟨rc, 4, none⟩ = some (.bool false) := by rw [hW8]; exact hin 4 (by simp)
  have b5 : W8.cell? ⟨rc, 5, none⟩ = some (.bool false) := by rw [hW8]; exact hin 5 (by simp)
  have HB8 : Hid (Below w.heap.size w W8) := Lib.hid (HB7.out.trans ((show Keep (· = rc) w7 W8 by rw [hW8]; exact keep_setCells (S := (· = rc)) rc (fun _ => rfl) _ _ _ (Keep.refl _ _)).below HB7.out.size (fun k hk e => by have := HRC.out; omega)))
  rw [← hW8]
  clear hW8 hin hs7 HR7 HB7
  go_wp2_with fail
  refine bodyPost_ret (v := .tuple #[.agg #[.int .i32 0, .int .i64 0, .int .i64 0, .bool false, .bool false, .bool false], .int .i64 0, .int .i64 3]) (by simp [results, Try.results71, go_sem, b0, b1, b2, b3, b4, b5]) rfl ⟨rfl, HB8.out⟩

set_option maxRecDepth 100000 in
set_option maxHeartbeats 6400000 in
theorem read_rune1 (S : ByteArray) (hS : S.size ≤ 1000000) (r f g mk : Int) (S1 S2 S3 S4 : ByteArray) (e1 e2 e3 e4 : Int) (h : Reads4 S r f g mk S1 S2 S3 S4 e1 e2 e3 e4) (w : World) (b u i : Bool) (e1' : (bits BinOp.and IntKind.i64 mk 1 != 0) = b) (e2' : (bits BinOp.and IntKind.i64 mk 2 != 0) = u) (e4' : (bits BinOp.and IntKind.i64 mk 4 != 0) = i) (he : e4 = 0) (hz : S4.size ≠ 0) (ha : At.ok ⟨f, g, b, u, i⟩) (hr : r > 1114111) :
    Calls Try.prog 71 #[.string S] w fun e w' => e = .returned (.tuple #[.agg #[.int .i32 0, .int .i64 0, .int .i64 0, .bool false, .bool false, .bool false], .int .i64 0, .int .i64 3]) ∧ Below w.heap.size w w' := by
  subst he
  have H4 := Lib.hid h
  have hz4 := h.z4
  have E1 := Lib.hid e1'
  have E2 := Lib.hid e2'
  have E4 := Lib.hid e4'
  have HV := Lib.hid (fun V => cell_valid ⟨f, g, b, u, i⟩ V true (by exact decide_eq_true ha))
  simp only [At.v] at HV
  obtain ⟨sz, hsz⟩ : ∃ sz, S4.size = sz := ⟨_, rfl⟩
  obtain ⟨SZ, hSZ⟩ : ∃ SZ, S.size = SZ := ⟨_, rfl⟩
  have HSZ := Lib.hid hSZ
  rw [hsz, hSZ] at hz4
  rw [hSZ] at hS
  try rw [hsz]
  try rw [hSZ]
  have hSZi : (S.size : Int) = (SZ : Int) := by omega
  have t0 : ((sz : Int) == 0) = false := by simp; omega
  clear hz
  clear e1' e2' e4' h hSZ
  go_enter Try.func71, Try.ntmps71
  go_wp2_with fail
  refine (on_any S _).mono ?_
  rintro e w1 ⟨rfl, h1, hb⟩
  obtain ⟨w0, hw0⟩ : ∃ w0, w0 = w.alloc (.cells #[.int .i32 0, .int .i64 0, .int .i64 0, .bool false, .bool false, .bool false] 40) := ⟨_, rfl⟩
  rw [← hw0] at h1 hb
  have hR0 : w0.heap[w.heap.size]? = some (.cells #[.int .i32 0, .int .i64 0, .int .i64 0, .bool false, .bool false, .bool false] 40 (0, 0)) := by rw [hw0]; exact heap_alloc_new w _
  have hB0 : Below w.heap.size w w0 := by rw [hw0]; exact (Below.refl _ w).alloc (Nat.le_refl _) _
  obtain ⟨p, hp⟩ : ∃ p, p = w0.heap.size := ⟨_, rfl⟩
  have hpw : w.heap.size < p := by rw [hp]; exact lt_heap hR0
  rw [← hp] at h1
  have HI1 := Lib.hid h1
  have HR1 := Lib.hid ((Keep.of_below (fun _ => False) hb).heap hR0 (fun y => y))
  have HBB1 : Hid (Below w.heap.size w w1) := Lib.hid (hB0.trans (hb.mono hB0.size))
  try rw [← hw0]
  try rw [← hp]
  obtain ⟨rc, hrc⟩ : ∃ rc, rc = w.heap.size := ⟨_, rfl⟩
  rw [← hrc] at HR1 hpw
  try rw [← hrc]
  have HRC := Lib.hid hrc
  clear h1 hb hw0 hR0 hB0 hp hrc
  go_wp2_with fail
  refine (innum_any p S 0 w1 HI1.out (by unfold maxLen; have := HSZ.out; omega)).mono ?_
  rintro e w2 ⟨rfl, h2, k2⟩
  rw [H4.out.n] at h2
  rw [H4.out.n]
  have HI2 := Lib.hid h2
  have HR2 := Lib.hid (k2.heap HR1.out (by omega))
  have HBB2 : Hid (Below w.heap.size w w2) := Lib.hid (HBB1.out.trans (k2.below HBB1.out.size (fun k hk e => by have := HRC.out; omega)))
  clear h2 k2
  go_wp2_with fail
  refine (inbyte_any p S1 e1 w2 HI2.out (by have := H4.out.z1; omega)).mono ?_
  rintro e w3 ⟨rfl, h2, k2⟩
  rw [H4.out.b1] at h2
  rw [H4.out.b1]
  have HI3 := Lib.hid h2
  have HR3 := Lib.hid (k2.heap HR2.out (by omega))
  have HBB3 : Hid (Below w.heap.size w w3) := Lib.hid (HBB2.out.trans (k2.below HBB2.out.size (fun k hk e => by have := HRC.out; omega)))
  clear h2 k2
  go_wp2_with fail
  refine (inbyte_any p S2 e2 w3 HI3.out (by have := H4.out.z2; omega)).mono ?_
  rintro e w4 ⟨rfl, h2, k2⟩
  rw [H4.out.b2] at h2
  rw [H4.out.b2]
  have HI4 := Lib.hid h2
  have HR4 := Lib.hid (k2.heap HR3.out (by omega))
  have HBB4 : Hid (Below w.heap.size w w4) := Lib.hid (HBB3.out.trans (k2.below HBB3.out.size (fun k hk e => by have := HRC.out; omega)))
  clear h2 k2
  go_wp2_with fail
  refine (inbyte_any p S3 e3 w4 HI4.out (by have := H4.out.z3; omega)).mono ?_
  rintro e w5 ⟨rfl, h2, k2⟩
  rw [H4.out.b3] at h2
  rw [H4.out.b3]
  have HI5 := Lib.hid h2
  have HR5 := Lib.hid (k2.heap HR4.out (by omega))
  have HBB5 : Hid (Below w.heap.size w w5) := Lib.hid (HBB4.out.trans (k2.below HBB4.out.size (fun k hk e => by have := HRC.out; omega)))
  clear h2 k2
  go_wp2_with fail
  refine (inleft_any p S4 0 w5 HI5.out (by omega)).mono ?_
  rintro e w6 ⟨rfl, rfl⟩
  clear HI1 HI2 HI3 HI4 HBB1 HBB2 HBB3 HBB4 HR1 HR2 HR3 HR4
  rw [hsz]
  have HR6 := HR5
  have HBB6 := HBB5
  clear HR5 HBB5
  go_wp2_with fail
  rw [E1.out, E2.out, E4.out]
  refine (HV.out _).mono ?_
  rintro e w7 ⟨rfl, hb⟩
  have HB7 : Hid (Below w.heap.size w w7) := Lib.hid ((HBB6.out.alloc HBB6.out.size _).trans (hb.mono (by have := HBB6.out.size; simp; omega)))
  have HR7 := Lib.hid ((Keep.of_below (fun _ => False) hb).heap (heap_alloc HR6.out _) (fun y => y))
  have HA7 := Lib.hid ((Keep.of_below (fun _ => False) hb).heap (heap_alloc_new w5 (.cells #[.int .i64 f, .int .i64 g, .bool b, .bool u, .bool i] 38)) (fun y => y))
  have a0 : w7.cell? ⟨w5.heap.size, 0, none⟩ = some (.int .i64 f) := cell_at HA7.out 0
  have a1 : w7.cell? ⟨w5.heap.size, 1, none⟩ = some (.int .i64 g) := cell_at HA7.out 1
  have a2 : w7.cell? ⟨w5.heap.size, 2, none⟩ = some (.bool b) := cell_at HA7.out 2
  have a3 : w7.cell? ⟨w5.heap.size, 3, none⟩ = some (.bool u) := cell_at HA7.out 3
  have a4 : w7.cell? ⟨w5.heap.size, 4, none⟩ = some (.bool i) := cell_at HA7.out 4
  clear hb HR6 HBB6 HI5 HA7
  go_wp2_with (with_reducible refine wpList_store_at rfl _ _ _ rfl rc 0 #[.int .i32 0, .int .i64 0, .int .i64 0, .bool false, .bool false, .bool false] ?hx ?hy ?hi ?h1 ?hc ?hf ?_)
  case hx => rfl
  case hy => rfl
  case hi => exact cell_info
  case h1 => simp [Value.oneCell']
  case hc => intro j hj; rcases j with _ | _ | _ | _ | _ | _ | j <;> first | (rw [cell_at HR7.out _]; rfl) | (simp at hj; omega)
  case hf => intro j hj; exact free_at HR7.out _
  obtain ⟨W8, hW8⟩ : ∃ W8, W8 = w7.setCells rc 0 (#[.int .i32 0, .int .i64 0, .int .i64 0, .bool false, .bool false, .bool false] : Array Value).toList := ⟨_, rfl⟩
  have hs7 : ∀ j, j < 6 → (w7.cell? ⟨rc, 0 + j, none⟩).isSome = true := by intro j hj; rcases j with _ | _ | _ | _ | _ | _ | j <;> first | (rw [cell_at HR7.out _]; rfl) | omega
  have hin := fun j hj => World.cell?_setCells_in rc [.int .i32 0, .int .i64 0, .int .i64 0, .bool false, .bool false, .bool false] 0 w7 hs7 j hj
  have b0 : W8.cell? ⟨rc, 0, none⟩ = some (.int .i32 0) := by rw [hW8]; exact hin 0 (by simp)
  have b1 : W8.cell? ⟨rc, 1, none⟩ = some (.int .i64 0) := by rw [hW8]; exact hin 1 (by simp)
  have b2 : W8.cell? ⟨rc, 2, none⟩ = some (.int .i64 0) := by rw [hW8]; exact hin 2 (by simp)
  have b3 : W8.cell? ⟨rc, 3, none⟩ = some (.bool false) := by rw [hW8]; exact hin 3 (by simp)
  have b4 : W8.cell? ⟨rc, 4, none⟩ = some (.bool false) := by rw [hW8]; exact hin 4 (by simp)
  have b5 : W8.cell? ⟨rc, 5, none⟩ = some (.bool false) := by rw [hW8]; exact hin 5 (by simp)
  have HB8 : Hid (Below w.heap.size w W8) := Lib.hid (HB7.out.trans ((show Keep (· = rc) w7 W8 by rw [hW8]; exact keep_setCells (S := (· = rc)) rc (fun _ => rfl) _ _ _ (Keep.refl _ _)).below HB7.out.size (fun k hk e => by have := HRC.out; omega)))
  rw [← hW8]
  clear hW8 hin hs7 HR7 HB7
  go_wp2_with fail
  refine bodyPost_ret (v := .tuple #[.agg #[.int .i32 0, .int .i64 0, .int .i64 0, .bool false, .bool false, .bool false], .int .i64 0, .int .i64 3]) (by simp [results, Try.results71, go_sem, b0, b1, b2, b3, b4, b5]) rfl ⟨rfl, HB8.out⟩

set_option maxRecDepth 100000 in
set_option maxHeartbeats 6400000 in
theorem read_mark1 (S : ByteArray) (hS : S.size ≤ 1000000) (r f g mk : Int) (S1 S2 S3 S4 : ByteArray) (e1 e2 e3 e4 : Int) (h : Reads4 S r f g mk S1 S2 S3 S4 e1 e2 e3 e4) (w : World) (b u i : Bool) (e1' : (bits BinOp.and IntKind.i64 mk 1 != 0) = b) (e2' : (bits BinOp.and IntKind.i64 mk 2 != 0) = u) (e4' : (bits BinOp.and IntKind.i64 mk 4 != 0) = i) (he : e4 = 0) (hz : S4.size ≠ 0) (ha : At.ok ⟨f, g, b, u, i⟩) (hr : ¬ r > 1114111) (hm : mk > 7) :
    Calls Try.prog 71 #[.string S] w fun e w' => e = .returned (.tuple #[.agg #[.int .i32 0, .int .i64 0, .int .i64 0, .bool false, .bool false, .bool false], .int .i64 0, .int .i64 3]) ∧ Below w.heap.size w w' := by
  subst he
  have H4 := Lib.hid h
  have hz4 := h.z4
  have E1 := Lib.hid e1'
  have E2 := Lib.hid e2'
  have E4 := Lib.hid e4'
  have HV := Lib.hid (fun V => cell_valid ⟨f, g, b, u, i⟩ V true (by exact decide_eq_true ha))
  simp only [At.v] at HV
  obtain ⟨sz, hsz⟩ : ∃ sz, S4.size = sz := ⟨_, rfl⟩
  obtain ⟨SZ, hSZ⟩ : ∃ SZ, S.size = SZ := ⟨_, rfl⟩
  have HSZ := Lib.hid hSZ
  rw [hsz, hSZ] at hz4
  rw [hSZ] at hS
  try rw [hsz]
  try rw [hSZ]
  have hSZi : (S.size : Int) = (SZ : Int) := by omega
  have t0 : ((sz : Int) == 0) = false := by simp; omega
  clear hz
  clear e1' e2' e4' h hSZ
  go_enter Try.func71, Try.ntmps71
  go_wp2_with fail
  refine (on_any S _).mono ?_
  rintro e w1 ⟨rfl, h1, hb⟩
  obtain ⟨w0, hw0⟩ : ∃ w0, w0 = w.alloc (.cells #[.int .i32 0, .int .i64 0, .int .i64 0, .bool false, .bool false, .bool false] 40) := ⟨_, rfl⟩
  rw [← hw0] at h1 hb
  have hR0 : w0.heap[w.heap.size]? = some (.cells #[.int .i32 0, .int .i64 0, .int .i64 0, .bool false, .bool false, .bool false] 40 (0, 0)) := by rw [hw0]; exact heap_alloc_new w _
  have hB0 : Below w.heap.size w w0 := by rw [hw0]; exact (Below.refl _ w).alloc (Nat.le_refl _) _
  obtain ⟨p, hp⟩ : ∃ p, p = w0.heap.size := ⟨_, rfl⟩
  have hpw : w.heap.size < p := by rw [hp]; exact lt_heap hR0
  rw [← hp] at h1
  have HI1 := Lib.hid h1
  have HR1 := Lib.hid ((Keep.of_below (fun _ => False) hb).heap hR0 (fun y => y))
  have HBB1 : Hid (Below w.heap.size w w1) := Lib.hid (hB0.trans (hb.mono hB0.size))
  try rw [← hw0]
  try rw [← hp]
  obtain ⟨rc, hrc⟩ : ∃ rc, rc = w.heap.size := ⟨_, rfl⟩
  rw [← hrc] at HR1 hpw
  try rw [← hrc]
  have HRC := Lib.hid hrc
  clear h1 hb hw0 hR0 hB0 hp hrc
  go_wp2_with fail
  refine (innum_any p S 0 w1 HI1.out (by unfold maxLen; have := HSZ.out; omega)).mono ?_
  rintro e w2 ⟨rfl, h2, k2⟩
  rw [H4.out.n] at h2
  rw [H4.out.n]
  have HI2 := Lib.hid h2
  have HR2 := Lib.hid (k2.heap HR1.out (by omega))
  have HBB2 : Hid (Below w.heap.size w w2) := Lib.hid (HBB1.out.trans (k2.below HBB1.out.size (fun k hk e => by have := HRC.out; omega)))
  clear h2 k2
  go_wp2_with fail
  refine (inbyte_any p S1 e1 w2 HI2.out (by have := H4.out.z1; omega)).mono ?_
  rintro e w3 ⟨rfl, h2, k2⟩
  rw [H4.out.b1] at h2
  rw [H4.out.b1]
  have HI3 := Lib.hid h2
  have HR3 := Lib.hid (k2.heap HR2.out (by omega))
  have HBB3 : Hid (Below w.heap.size w w3) := Lib.hid (HBB2.out.trans (k2.below HBB2.out.size (fun k hk e => by have := HRC.out; omega)))
  clear h2 k2
  go_wp2_with fail
  refine (inbyte_any p S2 e2 w3 HI3.out (by have := H4.out.z2; omega)).mono ?_
  rintro e w4 ⟨rfl, h2, k2⟩
  rw [H4.out.b2] at h2
  rw [H4.out.b2]
  have HI4 := Lib.hid h2
  have HR4 := Lib.hid (k2.heap HR3.out (by omega))
  have HBB4 : Hid (Below w.heap.size w w4) := Lib.hid (HBB3.out.trans (k2.below HBB3.out.size (fun k hk e => by have := HRC.out; omega)))
  clear h2 k2
  go_wp2_with fail
  refine (inbyte_any p S3 e3 w4 HI4.out (by have := H4.out.z3; omega)).mono ?_
  rintro e w5 ⟨rfl, h2, k2⟩
  rw [H4.out.b3] at h2
  rw [H4.out.b3]
  have HI5 := Lib.hid h2
  have HR5 := Lib.hid (k2.heap HR4.out (by omega))
  have HBB5 : Hid (Below w.heap.size w w5) := Lib.hid (HBB4.out.trans (k2.below HBB4.out.size (fun k hk e => by have := HRC.out; omega)))
  clear h2 k2
  go_wp2_with fail
  refine (inleft_any p S4 0 w5 HI5.out (by omega)).mono ?_
  rintro e w6 ⟨rfl, rfl⟩
  clear HI1 HI2 HI3 HI4 HBB1 HBB2 HBB3 HBB4 HR1 HR2 HR3 HR4
  rw [hsz]
  have HR6 := HR5
  have HBB6 := HBB5
  clear HR5 HBB5
  go_wp2_with fail
  rw [E1.out, E2.out, E4.out]
  refine (HV.out _).mono ?_
  rintro e w7 ⟨rfl, hb⟩
  have HB7 : Hid (Below w.heap.size w w7) := Lib.hid ((HBB6.out.alloc HBB6.out.size _).trans (hb.mono (by have := HBB6.out.size; simp; omega)))
  have HR7 := Lib.hid ((Keep.of_below (fun _ => False) hb).heap (heap_alloc HR6.out _) (fun y => y))
  have HA7 := Lib.hid ((Keep.of_below (fun _ => False) hb).heap (heap_alloc_new w5 (.cells #[.int .i64 f, .int .i64 g, .bool b, .bool u, .bool i] 38)) (fun y => y))
  have a0 : w7.cell? ⟨w5.heap.size, 0, none⟩ = some (.int .i64 f) := cell_at HA7.out 0
  have a1 : w7.cell? ⟨w5.heap.size, 1, none⟩ = some (.int .i64 g) := cell_at HA7.out 1
  have a2 : w7.cell? ⟨w5.heap.size, 2, none⟩ = some (.bool b) := cell_at HA7.out 2
  have a3 : w7.cell? ⟨w5.heap.size, 3, none⟩ = some (.bool u) := cell_at HA7.out 3
  have a4 : w7.cell? ⟨w5.heap.size, 4, none⟩ = some (.bool i) := cell_at HA7.out 4
  clear hb HR6 HBB6 HI5 HA7
  go_wp2_with (with_reducible refine wpList_store_at rfl _ _ _ rfl rc 0 #[.int .i32 0, .int .i64 0, .int .i64 0, .bool false, .bool false, .bool false] ?hx ?hy ?hi ?h1 ?hc ?hf ?_)
  case hx => rfl
  case hy => rfl
  case hi => exact cell_info
  case h1 => simp [Value.oneCell']
  case hc => intro j hj; rcases j with _ | _ | _ | _ | _ | _ | j <;> first | (rw [cell_at HR7.out _]; rfl) | (simp at hj; omega)
  case hf => intro j hj; exact free_at HR7.out _
  obtain ⟨W8, hW8⟩ : ∃ W8, W8 = w7.setCells rc 0 (#[.int .i32 0, .int .i64 0, .int .i64 0, .bool false, .bool false, .bool false] : Array Value).toList := ⟨_, rfl⟩
  have hs7 : ∀ j, j < 6 → (w7.cell? ⟨rc, 0 + j, none⟩).isSome = true := by intro j hj; rcases j with _ | _ | _ | _ | _ | _ | j <;> first | (rw [cell_at HR7.out _]; rfl) | omega
  have hin := fun j hj => World.cell?_setCells_in rc [.int .i32 0, .int .i64 0, .int .i64 0, .bool false, .bool false, .bool false] 0 w7 hs7 j hj
  have b0 : W8.cell? ⟨rc, 0, none⟩ = some (.int .i32 0) := by rw [hW8]; exact hin 0 (by simp)
  have b1 : W8.cell? ⟨rc, 1, none⟩ = some (.int .i64 0) := by rw [hW8]; exact hin 1 (by simp)
  have b2 : W8.cell? ⟨rc, 2, none⟩ = some (.int .i64 0) := by rw [hW8]; exact hin 2 (by simp)
  have b3 : W8.cell? ⟨rc, 3, none⟩ = some (.bool false) := by rw [hW8]; exact hin 3 (by simp)
  have b4 : W8.cell? ⟨rc, 4, none⟩ = some (.bool false) := by rw [hW8]; exact hin 4 (by simp)
  have b5 : W8.cell? ⟨rc, 5, none⟩ = some (.bool false) := by rw [hW8]; exact hin 5 (by simp)
  have HB8 : Hid (Below w.heap.size w W8) := Lib.hid (HB7.out.trans ((show Keep (· = rc) w7 W8 by rw [hW8]; exact keep_setCells (S := (· = rc)) rc (fun _ => rfl) _ _ _ (Keep.refl _ _)).below HB7.out.size (fun k hk e => by have := HRC.out; omega)))
  rw [← hW8]
  clear hW8 hin hs7 HR7 HB7
  go_wp2_with fail
  refine bodyPost_ret (v := .tuple #[.agg #[.int .i32 0, .int .i64 0, .int .i64 0, .bool false, .bool false, .bool false], .int .i64 0, .int .i64 3]) (by simp [results, Try.results71, go_sem, b0, b1, b2, b3, b4, b5]) rfl ⟨rfl, HB8.out⟩

end Go.Proofs.Ytgomnigchfmfhaa
