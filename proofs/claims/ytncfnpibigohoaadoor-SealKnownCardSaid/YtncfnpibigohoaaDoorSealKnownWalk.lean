/- Law SealKnown: the walk. Own work. -/
import Derived.Test.YtncfnpibigohoaaDoorSealChangedWalk
namespace Go.Proofs.YtncfnpibigohoaaDoor
set_option linter.unusedVariables false
set_option linter.unusedSimpArgs false
open Go.RowKit

/-- A key that is longer than a block counts by its digest. -/
theorem tag_by_digest (long text : List UInt8) (h : 64 < long.length) : tagL (digest long) text = tagL long text := by
  have e1 : keyOf long = digest long := by unfold keyOf; rw [if_pos h]
  have e2 : keyOf (digest long) = digest long := by unfold keyOf; rw [if_neg (by rw [digest_len]; omega)]
  unfold tagL
  rw [e1, e2]

theorem open_by_digest (long text : List UInt8) (h : 64 < long.length) : openL (digest long) (sealedL long text) = (text, 0) := by
  rw [open_sealed, if_pos (tag_by_digest long text h).symm]

/-- The first k bytes are their places. -/
def idB (n k : Nat) : List UInt8 := (List.range k).map UInt8.ofNat ++ List.replicate (n - k) 0

theorem idB_len {n k : Nat} (h : k ≤ n) : (idB n k).length = n := by unfold idB; simp; omega

theorem idB_set {n k : Nat} (h : k < n) : (idB n k).set k (UInt8.ofNat k) = idB n (k + 1) := by
  unfold idB
  rw [List.set_append_right _ _ (by simp)]
  simp only [List.length_map, List.length_range, Nat.sub_self]
  rw [show n - k = (n - (k + 1)) + 1 from by omega, List.replicate_succ, List.set_cons_zero, List.range_succ]
  simp

/-- Tag of two texts that a call lays, where it is known. -/
theorem tag_two (key a b t : ByteArray) (W : World) (hW : Roots W) (hk : key.size ≤ 1000) (ha : a.size ≤ 1000) (hb : b.size ≤ 1000) (h : tagL key.data.toList (a.data.toList ++ b.data.toList) = t.data.toList) :
    Calls Tryd.prog 12 #[.string key, .slice (some ⟨W.heap.size, 0, none⟩) 2 2] (W.alloc (.cells #[.string a, .string b] 9)) fun r w' => r = .returned (.string t) ∧ Below W.heap.size W w' := by
  have hb0 : Below W.heap.size W (W.alloc (.cells #[.string a, .string b] 9)) := (Below.refl _ _).alloc (Nat.le_refl _) _
  have := tag_any key (some ⟨W.heap.size, 0, none⟩) 2 2 [a, b] _ (src_two _ _ _ _ rfl) (hW.below hb0) (by rw [sum_two]; omega) (by omega) (by omega)
  refine this.mono fun r w' ⟨h1, h2⟩ => ⟨?_, hb0.trans (h2.mono hb0.size)⟩
  have e : joinL [a, b] = a.data.toList ++ b.data.toList := by simp [joinL]
  rw [h1, e, h, mk_data]

set_option maxRecDepth 100000 in
set_option maxHeartbeats 3200000 in
theorem known_good (key : ByteArray) (n : Nat) (w : World) (hr : Roots w) (h1 : key.size ≤ 50) (h2 : 65 ≤ n) (h3 : n ≤ 300) :
    Calls Tryd.prog 5 #[.string key, .int .i64 n] w fun e w' => e = .returned (.bool true) ∧ Below w.heap.size w w' := by
  have HR := Lib.hid hr
  have q1 : ¬ (50 < (key.size : Int)) := by omega
  have q2 : ¬ ((n : Int) < 65) := by omega
  have q3 : ¬ (300 < (n : Int)) := by omega
  obtain ⟨i0, hi, hz0, hz1, hzz2⟩ := info_parts byte_info
  obtain ⟨M, hM⟩ : ∃ M, M = madeCells (Value.int .u8 0).cells (((n : Nat) : Int).toNat * i0.size) := ⟨_, rfl⟩
  have hMl : M.toList = Lib.byteCells (List.replicate n 0) := by
    rw [hM, hz1]
    simp [madeCells, Lib.byteCells, Value.cells]
    have e : (fun x : Nat => ([Value.int IntKind.u8 0] : List Value)[x % 1]?.getD default) = fun _ => Value.int IntKind.u8 0 := by
      funext x; rw [Nat.mod_one]; rfl
    rw [e, List.map_const', List.length_range]
  have hmk : ∀ W : World, (Instr.makeSlice 34 (.int .i64 (n : Int)) (.int .i64 (n : Int))).run Tryd.prog W = .ok (.slice (some ⟨W.heap.size, 0, none⟩) n n) (W.alloc (.cells M 5)) := fun W => by
    have h := run_make (P := Tryd.prog) W 34 5 i0 (.int .u8 0) Tryd.underlying34 hi hz0 .i64 .i64 (n : Int) (n : Int) (by omega) (by omega) (by rw [hzz2]; omega) (by omega)
    rw [← hM] at h
    simpa using h
  have HMK := Lib.hid hmk
  have HML := Lib.hid hMl
  clear hr hi hz0 hz1 hzz2 hM hMl hmk
  go_enter Tryd.func5, Tryd.ntmps5
  go_wp2_with fail
  refine (alive_any w HR.out).mono ?_
  rintro r w1 ⟨rfl, hb1⟩
  have HB1 := Lib.hid hb1
  clear hb1
  go_wp2_with fail
  go_loop [5, 6] (fun v i => ∃ (k : Nat) (f : ByteArray), k ≤ 20 ∧ i = .int .i64 k ∧ v = .string f ∧ f.size ≤ k ∧ Hid (f.data.toList = List.replicate k 11)) (fun _ i => 20 - (intOf i).toNat)
  case atStart => exact ⟨0, ⟨#[]⟩, by omega, rfl, rfl, Nat.le_refl _, rfl⟩
  case round =>
    obtain ⟨k, f, hk, rfl, rfl, hfs, HF⟩ := hrel
    by_cases hlt : k < 20
    · have hz : f.size + 1 ≤ 9223372036854775807 := by omega
      have hf2 : (f ++ ⟨#[11]⟩ : ByteArray).data.toList = List.replicate (k + 1) 11 := by
        rw [List.replicate_succ', ← HF.out]; simp
      have hf3 : (f ++ ⟨#[11]⟩ : ByteArray).size = f.size + 1 := by rw [ByteArray.size_append]; rfl
      have HF2 := Lib.hid hf2
      have HF3 := Lib.hid hf3
      clear hf2 hf3
      go_wp2_with fail
      go_round
      case rel => exact ⟨k + 1, _, by omega, by go_num, rfl, by rw [HF3.out]; omega, HF2⟩
      case measure => simp [intOf]; omega
    · obtain rfl : k = 20 := by omega
      have hff : f = ⟨#[11, 11, 11, 11, 11, 11, 11, 11, 11, 11, 11, 11, 11, 11, 11, 11, 11, 11, 11, 11]⟩ := by rw [← mk_data f, HF.out]; rfl
      subst hff
      clear HF hfs hlt hk
      have hmk := HMK.out
      go_wp2_with fail
      clear hmk
      obtain ⟨B, hB⟩ : ∃ B, B = w1.heap.size := ⟨_, rfl⟩
      obtain ⟨w2, hw2⟩ : ∃ w2, w2 = w1.alloc (.cells M 5) := ⟨_, rfl⟩
      have hT : Bytes w2 5 B (idB n 0) := by
        unfold Bytes idB
        rw [hw2, hB, heap_alloc_new]
        congr 2
        apply Array.ext'
        rw [HML.out]
        simp
      have hb2 : Below w.heap.size w w2 := by rw [hw2]; exact HB1.out.alloc HB1.out.size _
      have hBge : w.heap.size ≤ B := by rw [hB]; exact HB1.out.size
      rw [← hB, ← hw2]
      have HT := Lib.hid hT
      have HB2 := Lib.hid hb2
      clear hT hb2 hB hw2
      go_loopw [38] (fun i wr => ∃ k : Nat, k ≤ n ∧ i = .int .i64 k ∧ Hid (Bytes wr 5 B (idB n k)) ∧ Hid (Keep (· = B) w2 wr)) (fun i _ => n - (intOf i).toNat)
      case atStart => exact ⟨0, by omega, rfl, HT, Keep.refl _ _⟩
      case round =>
        obtain ⟨k, hk, rfl, HQ, HK⟩ := hrel
        by_cases hlt : k < n
        · have hlen := idB_len (n := n) (k := k) (by omega)
          obtain ⟨x, hx⟩ : ∃ x, (idB n k)[k]? = some x := ⟨(idB n k)[k]'(by rw [hlen]; exact hlt), List.getElem?_eq_getElem _⟩
          have c := HQ.out.cell hx
          have f := HQ.out.fr k
          have e : (k : Int) % 256 = (((UInt8.ofNat k).toNat : Nat) : Int) := by simp
          obtain ⟨y, hy⟩ : ∃ y, y = UInt8.ofNat k := ⟨_, rfl⟩
          rw [← hy] at e
          have hs := HQ.out.set k y
          rw [hy, idB_set hlt, ← hy] at hs
          have HS := Lib.hid hs
          clear hlen hx hy hs
          go_wp2_with fail
          go_roundw
          case rel => exact ⟨k + 1, by omega, by go_num, HS, HK.out.own _ _⟩
          case measure => simp [intOf]; omega
        · obtain rfl : k = n := by omega
          obtain ⟨Lg, hL⟩ : ∃ Lg : ByteArray, Lg = ⟨(idB k k).toArray⟩ := ⟨_, rfl⟩
          have hLs : Lg.size = k := by rw [hL, size_mk, idB_len (Nat.le_refl k)]
          have hLl : Lg.data.toList = idB k k := by rw [hL]
          have hl64 : 64 < Lg.data.toList.length := by rw [← Lib.size_eq, hLs]; omega
          have hcv : ∀ W : World, Keep (fun _ => False) wr W → (convert 34 9 (.slice (some ⟨B, 0, none⟩) k k)).run Tryd.prog W = .ok (.string Lg) W := fun W hW => by
            have hq : Bytes W 5 B (idB k k) := hW.heap HQ.out (fun x => x)
            have := run_convert_bytes_back (P := Tryd.prog) W 34 9 5 ⟨B, 0, none⟩ k (idB k k) Tryd.underlying34 Tryd.underlying5 Tryd.underlying9 (fun j hj => by
              rw [add_mk, Nat.zero_add, hq.cell (List.getElem?_eq_getElem hj)])
            rw [idB_len (Nat.le_refl k)] at this
            rw [this, hL]
          have HCV := Lib.hid hcv
          have HBw := Lib.hid (HB2.out.trans (HK.out.below HB2.out.size (fun j hj e => by omega)))
          obtain ⟨b, hb⟩ : ∃ b : ByteArray, b = ⟨(sealedL Lg.data.toList key.data.toList).toArray⟩ := ⟨_, rfl⟩
          obtain ⟨D, hD⟩ : ∃ D : ByteArray, D = ⟨(digest Lg.data.toList).toArray⟩ := ⟨_, rfl⟩
          have hbs : b.size = key.size + 16 := by rw [hb, size_mk]; unfold sealedL; rw [List.length_append, tagL_len, ← Lib.size_eq]
          have hDs : D.size = 32 := by rw [hD, size_mk, digest_len]
          have hop : openL D.data.toList b.data.toList = (key.data.toList, 0) := by rw [hb, hD]; exact open_by_digest _ _ hl64
          have HLS := Lib.hid hLs
          have HBb := Lib.hid hb
          have HD := Lib.hid hD
          have HBS := Lib.hid hbs
          have HDS := Lib.hid hDs
          have HOP := Lib.hid hop
          have cv0 := hcv wr (Keep.refl _ _)
          clear hL hLs hLl hl64 hcv hb hD hbs hDs hop hlt hk
          go_wp2_with fail
          refine (sealing_one Lg key wr (HR.out.below HBw.out) (by rw [HLS.out]; omega) (by omega)).mono ?_
          rintro r w3 ⟨rfl, hb3⟩
          rw [← HBb.out]
          have HB3 := Lib.hid (HBw.out.trans (hb3.mono HBw.out.size))
          have cv1 := HCV.out w3 (Keep.of_below _ hb3)
          clear hb3 cv0
          go_wp2_with fail
          refine (digest_ref Lg w3 (by rw [HLS.out]; omega)).mono ?_
          rintro r w4 ⟨rfl, hb4⟩
          rw [← HD.out]
          have HB4 := Lib.hid (HB3.out.trans (hb4.mono HB3.out.size))
          clear hb4 cv1
          go_wp2_with fail
          refine (open_back D b w4 (HR.out.below HB4.out) (by rw [HDS.out]; omega) (by rw [HBS.out]; omega) _ _ HOP.out).mono ?_
          rintro r w5 ⟨rfl, hb5⟩
          rw [mk_data key]
          have HB5 := Lib.hid (HB4.out.trans (hb5.mono HB4.out.size))
          clear hb5
          go_wp2_with fail
          refine (tag_two ⟨#[11, 11, 11, 11, 11, 11, 11, 11, 11, 11, 11, 11, 11, 11, 11, 11, 11, 11, 11, 11]⟩ ⟨#[72, 105, 32]⟩ ⟨#[84, 104, 101, 114, 101]⟩ ⟨#[176, 52, 76, 97, 216, 219, 56, 83, 92, 168, 175, 206, 175, 11, 241, 43]⟩ w5 (HR.out.below HB5.out) (by decide) (by decide) (by decide) known_hi).mono ?_
          rintro r w6 ⟨rfl, hb6⟩
          have HB6 := Lib.hid (HB5.out.trans (hb6.mono HB5.out.size))
          clear hb6
          go_wp2_with fail
          refine (tag_two ⟨#[74, 101, 102, 101]⟩ ⟨#[119, 104, 97, 116, 32, 100, 111, 32, 121, 97, 32, 119, 97, 110, 116, 32]⟩ ⟨#[102, 111, 114, 32, 110, 111, 116, 104, 105, 110, 103, 63]⟩ ⟨#[91, 220, 193, 70, 191, 96, 117, 78, 106, 4, 36, 38, 8, 149, 117, 199]⟩ w6 (HR.out.below HB6.out) (by decide) (by decide) (by decide) known_jefe).mono ?_
          rintro r w7 ⟨rfl, hb7⟩
          have HB7 := Lib.hid (HB6.out.trans (hb7.mono HB6.out.size))
          clear hb7
          go_wp2_with fail
          go_ret
          exact ⟨rfl, HB7.out⟩

set_option maxRecDepth 100000 in
set_option maxHeartbeats 1600000 in
theorem walk_SealKnown (key : ByteArray) (hk : key.size ≤ maxLen) (a : Int) (ha : (Lit.int .i64 a).wf = true) (w : World) (hr : Roots w) :
    Calls Tryd.prog 5 #[.string key, .int .i64 a] w fun e w' => e = .returned (.bool true) ∧ Below w.heap.size w w' := by
  unfold maxLen at hk
  have ba := wf_bounds ha
  clear ha
  have HR := Lib.hid hr
  by_cases h1 : 50 < key.size
  · have q1 : (50 : Int) < (key.size : Int) := by omega
    clear hr
    go_enter Tryd.func5, Tryd.ntmps5
    go_wp2_with fail
    refine (alive_any w HR.out).mono ?_
    rintro r w1 ⟨rfl, hb1⟩
    go_wp2_with fail
    go_ret
    exact ⟨rfl, hb1⟩
  by_cases h2 : a < 65
  · have q1 : ¬ (50 : Int) < (key.size : Int) := by omega
    clear hr
    go_enter Tryd.func5, Tryd.ntmps5
    go_wp2_with fail
    refine (alive_any w HR.out).mono ?_
    rintro r w1 ⟨rfl, hb1⟩
    go_wp2_with fail
    go_ret
    exact ⟨rfl, hb1⟩
  by_cases h3 : 300 < a
  · have q1 : ¬ (50 : Int) < (key.size : Int) := by omega
    clear hr
    go_enter Tryd.func5, Tryd.ntmps5
    go_wp2_with fail
    refine (alive_any w HR.out).mono ?_
    rintro r w1 ⟨rfl, hb1⟩
    go_wp2_with fail
    go_ret
    exact ⟨rfl, hb1⟩
  obtain ⟨n, rfl⟩ := Int.eq_ofNat_of_zero_le (show 0 ≤ a from by omega)
  exact known_good key n w hr (by omega) (by omega) (by omega)

end Go.Proofs.YtncfnpibigohoaaDoor
