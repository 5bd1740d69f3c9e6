/- Law UtfPlain: the walk. Own work. -/
import Derived.Test.YtoihadjboeeglaaUtfA
namespace Go.Proofs.Ytoihadjboeeglaa
set_option linter.unusedVariables false
set_option linter.unusedSimpArgs false
open Go.RowKit

theorem and127 (b : Nat) (h : b < 256) : bits .and .u8 (b : Int) 127 = ((b % 128 : Nat) : Int) := by
  rw [show bits .and .u8 (b : Int) 127 = (b : Int) % 128 from bits_mask .u8 8 (by decide) wraps_u8 7 (by decide) (b : Int) (by omega) (by omega)]; omega

theorem natsOf_one (c : Nat) (h : c < 256) : natsOf ⟨#[UInt8.ofNat c]⟩ = [c] := by
  simp only [natsOf, List.map_cons, List.map_nil]
  rw [toNat_ofNat h]

theorem feedU_low (c : Nat) (h : c < 128) : feedU .z [c] = (.z, [c]) := by
  simp [feedU, byteU, fresh, badsU, St.z, h]

theorem byte_string {W : World} {P : Program} (src dst e : TypeId) (c : Nat) (h : c < 256) (hs : P.underlying src = some (.slice e)) (he : P.underlying e = some (.int .u8)) (hd : P.underlying dst = some .string) :
    (convert src dst (.slice (some ⟨W.heap.size, 0, none⟩) 1 1)).run P (W.alloc (.cells #[.int .u8 (c : Int)] e)) = .ok (.string ⟨#[UInt8.ofNat c]⟩) (W.alloc (.cells #[.int .u8 (c : Int)] e)) := by
  have hrow := Row.of_block (heap_alloc_new W (.cells #[.int .u8 (c : Int)] e)) (.inl (Nat.le_refl _)) (n := 1) (by simp) (by simp [maxLen])
  have h1 : ([.int .u8 (c : Int)] : List Value) = Lib.byteCells [UInt8.ofNat c] := by rw [byteCells_one, toNat_ofNat h]
  have h2 : (#[Value.int .u8 (c : Int)] : Array Value).toList.take 1 = Lib.byteCells [UInt8.ofNat c] := h1
  rw [h2] at hrow
  exact run_row_string src dst e hrow hs he hd

set_option maxRecDepth 100000 in
set_option maxHeartbeats 1600000 in
theorem walk_UtfPlain (a : ByteArray) (wa : a.size ≤ maxLen) (w : World) :
    Calls Try.prog 8 #[.string a] w fun e w' => e = .returned (.bool true) ∧ Below w.heap.size w w' := by
  by_cases hsz : a.size ≤ 500
  · have h500 : ¬ ((a.size : Int) > 500) := by omega
    go_enter Try.func8, Try.ntmps8
    go_wp2_with fail
    refine (alive_any _).mono ?_
    rintro e w1 ⟨rfl, hb⟩
    obtain ⟨w2, hw2⟩ : ∃ w2, w2 = w1.alloc (.cells #[.int .i32 0, .int .i64 0, .int .i64 0, .int .u8 0, .int .u8 0] 28) := ⟨_, rfl⟩
    obtain ⟨q, hq⟩ : ∃ q, q = w1.heap.size := ⟨_, rfl⟩
    have HB : Hid (Below w.heap.size w w2) := by
      show Below _ _ _
      rw [hw2]; exact hb.alloc hb.size _
    have HR : Hid (RdU w2 q 0 .z) := by
      show RdU _ _ _ _
      rw [hw2, hq]; exact RdU.made w1 _
    have hqw : w.heap.size ≤ q := by rw [hq]; exact hb.size
    clear hb
    go_upto_region 5 with fail
    rw [← hw2, ← hq]
    clear hw2 hq
    go_loopw [4] (fun i wr => ∃ k : Nat, i = .int .i64 k ∧ k ≤ a.size ∧ Hid (Below w.heap.size w wr) ∧ Hid (RdU wr q 0 .z)) (fun i _ => a.size - (intOf i).toNat)
    case atStart => exact ⟨0, rfl, by omega, HB, HR⟩
    case round =>
      obtain ⟨k, rfl, hk, HB, HR⟩ := hrel
      by_cases hlt : k < a.size
      · obtain ⟨c, hc⟩ : ∃ c, a[k].toNat % 128 = c := ⟨_, rfl⟩
        have hm := and127 a[k].toNat a[k].toNat_lt
        rw [hc] at hm
        have hcl : c < 128 := by omega
        have hcv := byte_string (W := wr) (P := Try.prog) 30 9 5 c (by omega) Try.underlying30 Try.underlying5 Try.underlying9
        have hw := i32_nat c (by omega)
        have hql := HR.out.lt
        clear hc
        go_wp2_with fail
        refine (utf_feed_one q 0 .z (wr.heap.size + 1) ⟨#[UInt8.ofNat c]⟩ 1 _ ((HR.out.alloc (.cells #[.int .u8 (c : Int)] 5)).alloc (.cells #[.string ⟨#[UInt8.ofNat c]⟩] 9)) (by simp [go_sem, Array.size_push]) (by omega) (by simp [ByteArray.size])).mono ?_
        rintro e w3 ⟨v, rfl, h1, h2, h3⟩
        rw [natsOf_one c (by omega), feedU_low c hcl] at h1 h2
        obtain ⟨g, cg, rfl, -, hg, hcs⟩ := rune_cells h1 (by simp)
        have d0 : w3.cell? ⟨g, 0, none⟩ = some (.int .i32 (c : Int)) := hcs 0 _ rfl
        have HR3 := Lib.hid h2
        have HB3 : Hid (Below w.heap.size w w3) := by
          have hs := HB.out.size
          exact ((HB.out.alloc hs _).alloc (by simp; omega) _).trans (h3.below (by simp; omega) (fun k hk e => by omega))
        clear h1 h2 h3 hcs hcv
        go_wp2_with fail
        refine (utf_half q 0 _ _ HR3.out).mono ?_
        rintro e w4 ⟨rfl, rfl⟩
        go_wp2_with fail
        go_roundw
        case rel => exact ⟨k + 1, by go_num, by omega, HB3, HR3⟩
        case measure => simp [intOf]; omega
      · go_wp2_with fail
        refine (utf_flush q 0 _ _ HR.out).mono ?_
        rintro e w3 ⟨v, rfl, h1, h2, h3⟩
        obtain ⟨A, c, rfl, -⟩ := own_form h1
        have hl : (badsU St.z).length = 0 := rfl
        have HA : Hid (Below w.heap.size w w3) := HB.out.trans (h3.below HB.out.size (fun k hk e => by omega))
        clear h1 h2 h3
        go_wp2_with fail
        go_ret
        exact ⟨by simp [badsU, St.z], HA.out⟩
  · have h500 : (a.size : Int) > 500 := by omega
    go_enter Try.func8, Try.ntmps8
    go_wp2_with fail
    refine (alive_any _).mono ?_
    rintro e w1 ⟨rfl, hb⟩
    have HB := Lib.hid hb
    clear hb
    go_wp2_with fail
    go_ret
    exact ⟨rfl, HB.out⟩

end Go.Proofs.Ytoihadjboeeglaa
