/- cell: Read of what Lay laid. By program (rgn/XCellRd.py). Own work. -/
import Derived.Test.YtihdiijnidcgkaaCellLay
namespace Go.Proofs.Ytihdiijnidcgkaa
set_option linter.unusedVariables false
set_option linter.unusedSimpArgs false
open Go.RowKit

theorem run_storeVar_at {P : Program} (w : World) (b off : Nat) (ty : TypeId) (cells : Array Value) (hi : (P.info? ty).map (·.size) = some cells.size) (h1 : cells.all (·.oneCell') = true)
    (hc : ∀ j, j < cells.size → (w.cell? ⟨b, off + j, none⟩).isSome = true) (hf : ∀ j, j < cells.size → w.frozen? ⟨b, off + j, none⟩ = false) :
    (storeVar ty ⟨b, off, none⟩ (.agg cells)).run P w = .ok () (w.setCells b off cells.toList) := by
  have := run_storeCells_cells (P := P) b off cells.toList 0 w (by simpa using hc) (by simpa using hf) (fun v hv => (Array.all_eq_true_iff_forall_mem.1 h1) v (by simpa using hv))
  cases hq : P.info? ty with
  | none => simp [hq] at hi
  | some i =>
    have hs : cells.size = i.size := by simp [hq] at hi; omega
    simp [storeVar, sizeOf, typeInfo, hq, Value.cells, hs, this]

theorem wp_store_at {P : Program} {o : Oper} {a : Act} {w : World} {K : Act → World → Prop} {Q : Exit → Act → World → Prop} (ty : TypeId) (x y : Operand) (ho : o.op = .store ty x y)
    (b off : Nat) (cells : Array Value) (hx : a.eval x = .pointer (some ⟨b, off, none⟩)) (hy : a.eval y = .agg cells) (hi : (P.info? ty).map (·.size) = some cells.size) (h1 : cells.all (·.oneCell') = true)
    (hc : ∀ j, j < cells.size → (w.cell? ⟨b, off + j, none⟩).isSome = true) (hf : ∀ j, j < cells.size → w.frozen? ⟨b, off + j, none⟩ = false)
    (h : K (a.put o.dst undef) (w.setCells b off cells.toList)) : o.wp P a w K Q := by
  unfold Oper.wp execOp
  simp only [ho, hx, hy, Instr.storeAt, Instr.sureAddr, Sem.run_bind, Sem.run_pure, Result.andThen_ok, run_storeVar_at w b off ty cells hi h1 hc hf]
  exact h

theorem cell_info : (Try.prog.info? 26).map (·.size) = some 6 := by kernel_rfl
theorem wpList_store_at {P : Program} {ops : Array Oper} {rest : List Oper} {o : Oper} {a : Act} {w : World} {Q : Exit → Act → World → Prop} (hgd : o.guard = none) (ty : TypeId) (x y : Operand) (ho : o.op = .store ty x y)
    (b off : Nat) (cells : Array Value) (hx : a.eval x = .pointer (some ⟨b, off, none⟩)) (hy : a.eval y = .agg cells) (hi : (P.info? ty).map (·.size) = some cells.size) (h1 : cells.all (·.oneCell') = true)
    (hc : ∀ j, j < cells.size → (w.cell? ⟨b, off + j, none⟩).isSome = true) (hf : ∀ j, j < cells.size → w.frozen? ⟨b, off + j, none⟩ = false)
    (h : wpList P ops Q rest (a.put o.dst undef) (w.setCells b off cells.toList)) : wpList P ops Q (o :: rest) a w :=
  wpList_plain hgd fun _ hK => wp_store_at ty x y ho b off cells hx hy hi h1 hc hf (hK _ _ h)

theorem numS_enc (n : Nat) (r : List UInt8) (h : n < 9223372036854775808) : numS ⟨(enc n ++ r).toArray⟩ 0 = ((n : Int), ⟨r.toArray⟩, 0) := by
  unfold numS
  rw [if_pos rfl]
  have hd := dec_enc0 n r h
  simp only [hd, if_true, extract_end]
theorem rawS_app (l r : List UInt8) : rawS ⟨(l ++ r).toArray⟩ 0 l.length = (⟨l.toArray⟩, ⟨r.toArray⟩, 0) := by
  unfold rawS
  rw [if_pos rfl, if_neg (by omega), if_neg (by rw [size_mk, List.length_append]; omega)]
  simp only [Int.toNat_natCast, extract_start, extract_end]
theorem byteS_cons (b : UInt8) (r : List UInt8) : byteS ⟨(b :: r).toArray⟩ 0 = ((b.toNat : Int), ⟨r.toArray⟩, 0) := by
  have := rawS_app [b] r
  simp only [List.length_singleton, List.singleton_append] at this
  unfold byteS
  rw [show ((1 : Int)) = ((1 : Nat) : Int) from rfl, this]
  rfl

theorem bit1 (f g : Int) (b u i : Bool) : (bits BinOp.and IntKind.i64 ((At.marks ⟨f, g, b, u, i⟩ : Nat) : Int) 1 != 0) = b := by
  cases b <;> cases u <;> cases i <;> kernel_rfl
theorem bit2 (f g : Int) (b u i : Bool) : (bits BinOp.and IntKind.i64 ((At.marks ⟨f, g, b, u, i⟩ : Nat) : Int) 2 != 0) = u := by
  cases b <;> cases u <;> cases i <;> kernel_rfl
theorem bit4 (f g : Int) (b u i : Bool) : (bits BinOp.and IntKind.i64 ((At.marks ⟨f, g, b, u, i⟩ : Nat) : Int) 4 != 0) = i := by
  cases b <;> cases u <;> cases i <;> kernel_rfl
theorem endS_nil : endS ⟨([] : List UInt8).toArray⟩ 0 = 0 := rfl

set_option maxRecDepth 100000 in
set_option maxHeartbeats 6400000 in
theorem read_laid (r : Nat) (hr : r ≤ 1114111) (f g : Int) (b u i : Bool) (ha : At.ok ⟨f, g, b, u, i⟩) (more : List UInt8) (hm : more.length ≤ 1000) (S : ByteArray) (hS : S = ⟨(enc r ++ (UInt8.ofNat f.toNat :: UInt8.ofNat g.toNat :: UInt8.ofNat (At.marks ⟨f, g, b, u, i⟩) :: more)).toArray⟩) (w : World) :
    Calls Try.prog 13 #[.string S] w fun e w' => e = .returned (.tuple #[.agg #[.int .i32 r, .int .i64 f, .int .i64 g, .bool b, .bool u, .bool i], .int .i64 ((enc r).length + 3 : Nat), .int .i64 0]) ∧ Below w.heap.size w w' := by
  obtain ⟨n, hn⟩ : ∃ n, n = (enc r).length + 3 := ⟨_, rfl⟩
  have hle := enc_le r (by omega)
  have hsz : S.size = n + more.length := by rw [hS, size_mk, hn]; simp; omega
  have hszi : (S.size : Int) = (n : Int) + (more.length : Int) := by omega
  have hok := ha
  unfold At.ok at hok
  simp only at hok
  have hNum : numS S 0 = ((r : Int), ⟨(UInt8.ofNat f.toNat :: UInt8.ofNat g.toNat :: UInt8.ofNat (At.marks ⟨f, g, b, u, i⟩) :: more).toArray⟩, 0) := by rw [hS]; exact numS_enc r _ (by omega)
  have hB1 : byteS ⟨(UInt8.ofNat f.toNat :: UInt8.ofNat g.toNat :: UInt8.ofNat (At.marks ⟨f, g, b, u, i⟩) :: more).toArray⟩ 0 = (f, ⟨(UInt8.ofNat g.toNat :: UInt8.ofNat (At.marks ⟨f, g, b, u, i⟩) :: more).toArray⟩, 0) := by rw [byteS_cons, toNat_ofNat (by omega), Int.toNat_of_nonneg (by omega)]
  have hB2 : byteS ⟨(UInt8.ofNat g.toNat :: UInt8.ofNat (At.marks ⟨f, g, b, u, i⟩) :: more).toArray⟩ 0 = (g, ⟨(UInt8.ofNat (At.marks ⟨f, g, b, u, i⟩) :: more).toArray⟩, 0) := by rw [byteS_cons, toNat_ofNat (by omega), Int.toNat_of_nonneg (by omega)]
  have h7 := At.marks_le ⟨f, g, b, u, i⟩
  obtain ⟨mk, hmk⟩ : ∃ mk : Nat, mk = At.marks ⟨f, g, b, u, i⟩ := ⟨_, rfl⟩
  have E1 : Hid ((bits BinOp.and IntKind.i64 (mk : Int) 1 != 0) = b) := Lib.hid (by rw [hmk]; exact bit1 f g b u i)
  have E2 : Hid ((bits BinOp.and IntKind.i64 (mk : Int) 2 != 0) = u) := Lib.hid (by rw [hmk]; exact bit2 f g b u i)
  have E4 : Hid ((bits BinOp.and IntKind.i64 (mk : Int) 4 != 0) = i) := Lib.hid (by rw [hmk]; exact bit4 f g b u i)
  rw [← hmk] at h7 hS hNum hB1 hB2
  have hmi : (mk : Int) ≤ 7 := by omega
  clear hmk
  have hB3 : byteS ⟨(UInt8.ofNat mk :: more).toArray⟩ 0 = ((mk : Int), ⟨more.toArray⟩, 0) := by rw [byteS_cons, toNat_ofNat (by omega)]
  obtain ⟨S1, hS1⟩ : ∃ S1 : ByteArray, S1 = ⟨(UInt8.ofNat f.toNat :: UInt8.ofNat g.toNat :: UInt8.ofNat (mk) :: more).toArray⟩ := ⟨_, rfl⟩
  obtain ⟨S2, hS2⟩ : ∃ S2 : ByteArray, S2 = ⟨(UInt8.ofNat g.toNat :: UInt8.ofNat (mk) :: more).toArray⟩ := ⟨_, rfl⟩
  obtain ⟨S3, hS3⟩ : ∃ S3 : ByteArray, S3 = ⟨(UInt8.ofNat (mk) :: more).toArray⟩ := ⟨_, rfl⟩
  obtain ⟨S4, hS4⟩ : ∃ S4 : ByteArray, S4 = ⟨more.toArray⟩ := ⟨_, rfl⟩
  have z1 : S1.size ≤ 2000 := by rw [hS1, size_mk]; simp; omega
  have z2 : S2.size ≤ 2000 := by rw [hS2, size_mk]; simp; omega
  have z3 : S3.size ≤ 2000 := by rw [hS3, size_mk]; simp; omega
  have z4 : S4.size = more.length := by rw [hS4, size_mk]
  rw [← hS1] at hNum hB1
  rw [← hS2] at hB1 hB2
  rw [← hS3] at hB2 hB3
  rw [← hS4] at hB3
  have HNum := Lib.hid hNum
  have HB1 := Lib.hid hB1
  have HB2 := Lib.hid hB2
  have HB3 := Lib.hid hB3
  obtain ⟨ml, hml⟩ : ∃ ml, ml = more.length := ⟨_, rfl⟩
  rw [← hml] at hszi z4 hm hsz
  have HS4 := Lib.hid hS4
  have HML := Lib.hid hml
  have HZ4 := Lib.hid z4
  have HV := Lib.hid (fun V => cell_valid ⟨f, g, b, u, i⟩ V true (decide_eq_true ha))
  simp only [At.v] at HV
  have hri : (r : Int) ≤ 1114111 := by omega
  have hr32 : IntKind.i32.wrap (r : Int) = (r : Int) := by rw [IntKind.wrap_i32]; omega
  have hS2k : S.size ≤ 2000 := by omega
  have HNE := Lib.hid hn
  rw [← hn]
  clear hS hS1 hS2 hS3 hS4 hNum hB1 hB2 hB3 hml z4 ha hok hle hsz hn
  have hzz : ((ml : Int) == 0) = true ∨ ((ml : Int) == 0) = false := by cases ((ml : Int) == 0) <;> simp
  have t1 : (n : Int) ≤ 2000 := by have := HNE.out; have := enc_le r (by omega); omega
  have t2 : (ml : Int) ≤ 1000 := by omega
  rcases hzz with hz | hz
  all_goals
    go_enter Try.func13, Try.ntmps13
    go_wp2_with fail
    refine (on_any S _).mono ?_
    rintro e w1 ⟨rfl, h1, hb⟩
    obtain ⟨w0, hw0⟩ : ∃ w0, w0 = w.alloc (.cells #[.int .i32 0, .int .i64 0, .int .i64 0, .bool false, .bool false, .bool false] 26) := ⟨_, rfl⟩
    rw [← hw0] at h1 hb
    have hR0 : w0.heap[w.heap.size]? = some (.cells #[.int .i32 0, .int .i64 0, .int .i64 0, .bool false, .bool false, .bool false] 26 (0, 0)) := by rw [hw0]; exact heap_alloc_new w _
    have hB0 : Below w.heap.size w w0 := by rw [hw0]; exact (Below.refl _ w).alloc (Nat.le_refl _) _
    obtain ⟨p, hp⟩ : ∃ p, p = w0.heap.size := ⟨_, rfl⟩
    have hpw : w.heap.size < p := by rw [hp]; exact lt_heap hR0
    rw [← hp] at h1
    have HI1 := Lib.hid h1
    have HR1 := Lib.hid ((Keep.of_below (fun _ => False) hb).heap hR0 (fun y => y))
    have HBB1 : Hid (Below w.heap.size w w1) := Lib.hid (hB0.trans (hb.mono hB0.size))
    try rw [← hw0]
    try rw [← hp]
    obtain ⟨rc, hrc⟩ : ∃ rc, rc = w.heap.size := ⟨_, rfl⟩
    rw [← hrc] at HR1 hpw
    try rw [← hrc]
    have HRC := Lib.hid hrc
    clear h1 hb hw0 hR0 hB0 hp hrc
    go_wp2_with fail
    refine (innum_any p S 0 w1 HI1.out (by unfold maxLen; omega)).mono ?_
    rintro e w2 ⟨rfl, h2, k2⟩
    rw [HNum.out] at h2
    rw [HNum.out]
    have HI2 := Lib.hid h2
    have HR2 := Lib.hid (k2.heap HR1.out (by omega))
    have HBB2 : Hid (Below w.heap.size w w2) := Lib.hid (HBB1.out.trans (k2.below HBB1.out.size (fun k hk e => by have := HRC.out; omega)))
    clear h2 k2
    go_wp2_with fail
    refine (inbyte_any p S1 0 w2 HI2.out (by omega)).mono ?_
    rintro e w3 ⟨rfl, h2, k2⟩
    rw [HB1.out] at h2
    rw [HB1.out]
    have HI3 := Lib.hid h2
    have HR3 := Lib.hid (k2.heap HR2.out (by omega))
    have HBB3 : Hid (Below w.heap.size w w3) := Lib.hid (HBB2.out.trans (k2.below HBB2.out.size (fun k hk e => by have := HRC.out; omega)))
    clear h2 k2
    go_wp2_with fail
    refine (inbyte_any p S2 0 w3 HI3.out (by omega)).mono ?_
    rintro e w4 ⟨rfl, h2, k2⟩
    rw [HB2.out] at h2
    rw [HB2.out]
    have HI4 := Lib.hid h2
    have HR4 := Lib.hid (k2.heap HR3.out (by omega))
    have HBB4 : Hid (Below w.heap.size w w4) := Lib.hid (HBB3.out.trans (k2.below HBB3.out.size (fun k hk e => by have := HRC.out; omega)))
    clear h2 k2
    go_wp2_with fail
    refine (inbyte_any p S3 0 w4 HI4.out (by omega)).mono ?_
    rintro e w5 ⟨rfl, h2, k2⟩
    rw [HB3.out] at h2
    rw [HB3.out]
    have HI5 := Lib.hid h2
    have HR5 := Lib.hid (k2.heap HR4.out (by omega))
    have HBB5 : Hid (Below w.heap.size w w5) := Lib.hid (HBB4.out.trans (k2.below HBB4.out.size (fun k hk e => by have := HRC.out; omega)))
    clear h2 k2
    go_wp2_with fail
    refine (inleft_any p S4 0 w5 HI5.out (by have := HZ4.out; omega)).mono ?_
    rintro e w6 ⟨rfl, rfl⟩
    rw [HZ4.out]
    clear HI1 HI2 HI3 HI4 HNum HB1 HB2 HB3 HBB1 HBB2 HBB3 HBB4 HR1 HR2 HR3 HR4
  · go_wp2_with fail
    refine (inend_any p S4 0 w5 HI5.out (by have := HZ4.out; omega)).mono ?_
    rintro e w6 ⟨rfl, _, k6⟩
    rw [show endS S4 0 = 0 by unfold endS; rw [if_pos (by have := HZ4.out; simp at hz; omega)]]
    have HR6 := Lib.hid (k6.heap HR5.out (by omega))
    have HBB6 : Hid (Below w.heap.size w w6) := Lib.hid (HBB5.out.trans (k6.below HBB5.out.size (fun k hk e => by have := HRC.out; omega)))
    clear k6 HR5 HBB5
    go_wp2_with fail
    rw [E1.out, E2.out, E4.out]
    refine (HV.out _).mono ?_
    rintro e w7 ⟨rfl, hb⟩
    have HB7 : Hid (Below w.heap.size w w7) := Lib.hid ((HBB6.out.alloc HBB6.out.size _).trans (hb.mono (by have := HBB6.out.size; simp; omega)))
    have HR7 := Lib.hid ((Keep.of_below (fun _ => False) hb).heap (heap_alloc HR6.out _) (fun y => y))
    have HA7 := Lib.hid ((Keep.of_below (fun _ => False) hb).heap (heap_alloc_new w6 (.cells #[.int .i64 f, .int .i64 g, .bool b, .bool u, .bool i] 23)) (fun y => y))
    have a0 : w7.cell? ⟨w6.heap.size, 0, none⟩ = some (.int .i64 f) := cell_at HA7.out 0
    have a1 : w7.cell? ⟨w6.heap.size, 1, none⟩ = some (.int .i64 g) := cell_at HA7.out 1
    have a2 : w7.cell? ⟨w6.heap.size, 2, none⟩ = some (.bool b) := cell_at HA7.out 2
    have a3 : w7.cell? ⟨w6.heap.size, 3, none⟩ = some (.bool u) := cell_at HA7.out 3
    have a4 : w7.cell? ⟨w6.heap.size, 4, none⟩ = some (.bool i) := cell_at HA7.out 4
    clear hb HR6 HBB6 HI5 HA7
    go_wp2_with (with_reducible refine wpList_store_at rfl _ _ _ rfl rc 0 #[.int .i32 r, .int .i64 f, .int .i64 g, .bool b, .bool u, .bool i] ?hx ?hy ?hi ?h1 ?hc ?hf ?_)
    case hx => rfl
    case hy => rfl
    case hi => exact cell_info
    case h1 => simp [Value.oneCell']
    case hc => intro j hj; rcases j with _ | _ | _ | _ | _ | _ | j <;> first | (rw [cell_at HR7.out _]; rfl) | (simp at hj; omega)
    case hf => intro j hj; exact free_at HR7.out _
    obtain ⟨W8, hW8⟩ : ∃ W8, W8 = w7.setCells rc 0 (#[.int .i32 r, .int .i64 f, .int .i64 g, .bool b, .bool u, .bool i] : Array Value).toList := ⟨_, rfl⟩
    have hs7 : ∀ j, j < 6 → (w7.cell? ⟨rc, 0 + j, none⟩).isSome = true := by intro j hj; rcases j with _ | _ | _ | _ | _ | _ | j <;> first | (rw [cell_at HR7.out _]; rfl) | omega
    have hin := fun j hj => World.cell?_setCells_in rc [.int .i32 r, .int .i64 f, .int .i64 g, .bool b, .bool u, .bool i] 0 w7 hs7 j hj
    have b0 : W8.cell? ⟨rc, 0, none⟩ = some (.int .i32 r) := by rw [hW8]; exact hin 0 (by simp)
    have b1 : W8.cell? ⟨rc, 1, none⟩ = some (.int .i64 f) := by rw [hW8]; exact hin 1 (by simp)
    have b2 : W8.cell? ⟨rc, 2, none⟩ = some (.int .i64 g) := by rw [hW8]; exact hin 2 (by simp)
    have b3 : W8.cell? ⟨rc, 3, none⟩ = some (.bool b) := by rw [hW8]; exact hin 3 (by simp)
    have b4 : W8.cell? ⟨rc, 4, none⟩ = some (.bool u) := by rw [hW8]; exact hin 4 (by simp)
    have b5 : W8.cell? ⟨rc, 5, none⟩ = some (.bool i) := by rw [hW8]; exact hin 5 (by simp)
    have HB8 : Hid (Below w.heap.size w W8) := Lib.hid (HB7.out.trans ((show Keep (· = rc) w7 W8 by rw [hW8]; exact keep_setCells (S := (· = rc)) rc (fun _ => rfl) _ _ _ (Keep.refl _ _)).below HB7.out.size (fun k hk e => by have := HRC.out; omega)))
    rw [← hW8]
    clear hW8 hin hs7 HR7 HB7
    go_wp2_with fail
    refine bodyPost_ret (v := .tuple #[.agg #[.int .i32 r, .int .i64 f, .int .i64 g, .bool b, .bool u, .bool i], .int .i64 n, .int .i64 0]) (by simp [results, Try.results13, go_sem, b0, b1, b2, b3, b4, b5]) rfl ⟨rfl, HB8.out⟩
  · have HR6 := HR5
    have HBB6 := HBB5
    clear HR5 HBB5
    go_wp2_with fail
    rw [E1.out, E2.out, E4.out]
    refine (HV.out _).mono ?_
    rintro e w7 ⟨rfl, hb⟩
    have HB7 : Hid (Below w.heap.size w w7) := Lib.hid ((HBB6.out.alloc HBB6.out.size _).trans (hb.mono (by have := HBB6.out.size; simp; omega)))
    have HR7 := Lib.hid ((Keep.of_below (fun _ => False) hb).heap (heap_alloc HR6.out _) (fun y => y))
    have HA7 := Lib.hid ((Keep.of_below (fun _ => False) hb).heap (heap_alloc_new w5 (.cells #[.int .i64 f, .int .i64 g, .bool b, .bool u, .bool i] 23)) (fun y => y))
    have a0 : w7.cell? ⟨w5.heap.size, 0, none⟩ = some (.int .i64 f) := cell_at HA7.out 0
    have a1 : w7.cell? ⟨w5.heap.size, 1, none⟩ = some (.int .i64 g) := cell_at HA7.out 1
    have a2 : w7.cell? ⟨w5.heap.size, 2, none⟩ = some (.bool b) := cell_at HA7.out 2
    have a3 : w7.cell? ⟨w5.heap.size, 3, none⟩ = some (.bool u) := cell_at HA7.out 3
    have a4 : w7.cell? ⟨w5.heap.size, 4, none⟩ = some (.bool i) := cell_at HA7.out 4
    clear hb HR6 HBB6 HI5 HA7
    go_wp2_with (with_reducible refine wpList_store_at rfl _ _ _ rfl rc 0 #[.int .i32 r, .int .i64 f, .int .i64 g, .bool b, .bool u, .bool i] ?hx ?hy ?hi ?h1 ?hc ?hf ?_)
    case hx => rfl
    case hy => rfl
    case hi => exact cell_info
    case h1 => simp [Value.oneCell']
    case hc => intro j hj; rcases j with _ | _ | _ | _ | _ | _ | j <;> first | (rw [cell_at HR7.out _]; rfl) | (simp at hj; omega)
    case hf => intro j hj; exact free_at HR7.out _
    obtain ⟨W8, hW8⟩ : ∃ W8, W8 = w7.setCells rc 0 (#[.int .i32 r, .int .i64 f, .int .i64 g, .bool b, .bool u, .bool i] : Array Value).toList := ⟨_, rfl⟩
    have hs7 : ∀ j, j < 6 → (w7.cell? ⟨rc, 0 + j, none⟩).isSome = true := by intro j hj; rcases j with _ | _ | _ | _ | _ | _ | j <;> first | (rw [cell_at HR7.out _]; rfl) | omega
    have hin := fun j hj => World.cell?_setCells_in rc [.int .i32 r, .int .i64 f, .int .i64 g, .bool b, .bool u, .bool i] 0 w7 hs7 j hj
    have b0 : W8.cell? ⟨rc, 0, none⟩ = some (.int .i32 r) := by rw [hW8]; exact hin 0 (by simp)
    have b1 : W8.cell? ⟨rc, 1, none⟩ = some (.int .i64 f) := by rw [hW8]; exact hin 1 (by simp)
    have b2 : W8.cell? ⟨rc, 2, none⟩ = some (.int .i64 g) := by rw [hW8]; exact hin 2 (by simp)
    have b3 : W8.cell? ⟨rc, 3, none⟩ = some (.bool b) := by rw [hW8]; exact hin 3 (by simp)
    have b4 : W8.cell? ⟨rc, 4, none⟩ = some (.bool u) := by rw [hW8]; exact hin 4 (by simp)
    have b5 : W8.cell? ⟨rc, 5, none⟩ = some (.bool i) := by rw [hW8]; exact hin 5 (by simp)
    have HB8 : Hid (Below w.heap.size w W8) := Lib.hid (HB7.out.trans ((show Keep (· = rc) w7 W8 by rw [hW8]; exact keep_setCells (S := (· = rc)) rc (fun _ => rfl) _ _ _ (Keep.refl _ _)).below HB7.out.size (fun k hk e => by have := HRC.out; omega)))
    rw [← hW8]
    clear hW8 hin hs7 HR7 HB7
    go_wp2_with fail
    refine bodyPost_ret (v := .tuple #[.agg #[.int .i32 r, .int .i64 f, .int .i64 g, .bool b, .bool u, .bool i], .int .i64 n, .int .i64 0]) (by simp [results, Try.results13, go_sem, b0, b1, b2, b3, b4, b5]) rfl ⟨rfl, HB8.out⟩

end Go.Proofs.Ytihdiijnidcgkaa
