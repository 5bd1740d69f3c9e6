/- The contracts of ring.Ring: Put, All. Own work. -/
import Derived.Test.YthpghomnfailkaaRingB
import Derived.Test.YthpghomnfailkaaInfoS
import Derived.Deep.RegionHeld3
import Derived.Deep.RegionLaw
namespace Go.Proofs.Ythpghomnfailkaa
set_option linter.unusedVariables false
open Go.RowKit

/-- What waits behind Put. -/
def putL (room : Nat) (l : List UInt8) (xs : List ByteArray) : List UInt8 := l ++ (joinL xs).take (room - l.length)

theorem putL_nil (room : Nat) (l : List UInt8) : putL room l [] = l := by simp [putL, joinL]

theorem putL_len (room : Nat) (l : List UInt8) (xs : List ByteArray) : (putL room l xs).length = l.length + min (room - l.length) (sum xs) := by
  unfold putL
  rw [List.length_append, List.length_take, joinL_len]

theorem putL_snoc (room : Nat) (l : List UInt8) (xs : List ByteArray) (x : ByteArray) : putL room l (xs ++ [x]) = putL room l xs ++ x.data.toList.take (room - (putL room l xs).length) := by
  rw [putL_len]
  unfold putL
  rw [joinL_snoc, List.take_append, List.append_assoc, joinL_len]
  congr 2
  congr 1
  omega

theorem strCells_take (s : ByteArray) (k : Nat) : Lib.strCells (s.extract 0 k) = Lib.byteCells (s.data.toList.take k) := by
  rw [Lib.strCells_eq]
  congr 1
  simp

theorem ring_mid {w w1 : World} {p : Nat} {A : Option Addr} {c room : Nat} {l : List UInt8} (h : RingAt w p A c room l) (k : Keep (fun i => blk A = some i) w w1) :
    w1.cell? ⟨p, 0, none⟩ = some (.slice A l.length c) ∧ w1.frozen? ⟨p, 0, none⟩ = false :=
  ⟨(k.cell (p := ⟨p, 0, none⟩) h.lt h.2.2.1).trans h.c0, (k.frozen (p := ⟨p, 0, none⟩) h.lt h.2.2.1).trans (h.fr 0)⟩

/-- Behind the append and the store of Put's round. -/
theorem put_store {w w6 : World} {p : Nat} {A1 A2 : Option Addr} {c1 c2 room m : Nat} {cur : List UInt8} {x y : ByteArray} (h : RingAt w p A1 c1 room cur) (hy : y.size = m) (hc : Lib.strCells y = Lib.byteCells (x.data.toList.take m)) (hm : m ≤ x.size) (hr : m ≤ room - cur.length)
    (hown : Buf w6 A2 (cur.length + y.size) c2 (Lib.byteCells cur ++ Lib.strCells y)) (hkeep : Keep (fun k => blk A1 = some k) w w6) (hat : ∀ k, blk A2 = some k → blk A1 = some k ∨ w.heap.size ≤ k) :
    RingAt (w6.setCell ⟨p, 0, none⟩ (.slice A2 (cur.length + m) c2)) p A2 c2 room (cur ++ x.data.toList.take m) ∧ RingStep p A1 w A2 (w6.setCell ⟨p, 0, none⟩ (.slice A2 (cur.length + m) c2)) := by
  have hl : cur.length + m = (cur ++ x.data.toList.take m).length := by
    rw [List.length_append, List.length_take, ← Lib.size_eq]; omega
  rw [hy, hc, ← Lib.byteCells_append, hl] at hown
  rw [hl]
  exact ring_store h hown (by have := h.2.2.2.1; omega) hkeep hat

theorem take_min (x : ByteArray) (m r : Nat) (h : min (x.size : Int) (r : Int) = (m : Int)) : x.data.toList.take m = x.data.toList.take r := by
  have hs := Lib.size_eq x
  by_cases q : x.size ≤ r
  · rw [List.take_of_length_le (by omega), List.take_of_length_le (by omega)]
  · rw [show m = r from by omega]

set_option maxRecDepth 100000 in
set_option maxHeartbeats 3200000 in
theorem put_any (p : Nat) (A : Option Addr) (c room : Nat) (l : List UInt8) (B : Option Addr) (n cap : Nat) (xs : List ByteArray) (w : World) (h : RingAt w p A c room l)
    (hx : SliceAt w B (xs.map Value.string) (fun k => k = p ∨ blk A = some k)) (hn : xs.length = n) (hxs : ∀ x ∈ xs, x.size ≤ maxLen) (hm : n ≤ maxLen) :
    Calls Try.prog 11 #[.pointer (some ⟨p, 0, none⟩), .slice B n cap] w fun r w' => r = .returned (.int .i64 ((putL room l xs).length - l.length : Nat)) ∧ RingTo p A w room (putL room l xs) w' := by
  obtain ⟨i0, hi, hz0, hz1, hz2⟩ := info_parts byte_info
  have HX := Lib.hid hx
  have HN := Lib.hid hn
  have HB := Lib.hid hxs
  have H := Lib.hid h
  have c0 := h.c0
  have hr := h.2.2.2.1
  have hr2 := h.2.2.2.2
  unfold maxLen at hm
  clear h hx hn hxs
  go_enter Try.func11, Try.ntmps11
  go_wp2_with fail
  refine (ready_ok p A c room l _ H.out).mono ?_
  rintro r w1 ⟨rfl, rfl⟩
  go_wp2_with fail
  clear c0
  go_loopw [18] (fun i wr => ∃ (k : Nat) (A1 : Option Addr) (c1 : Nat), i = .int .i64 k ∧ k ≤ n ∧ Hid (RingAt wr p A1 c1 room (putL room l (xs.take k))) ∧ Hid (RingStep p A w A1 wr)) (fun i _ => n - (intOf i).toNat)
  case atStart => exact ⟨0, A, c, rfl, by omega, by show RingAt _ _ _ _ _ _; rw [List.take_zero, putL_nil]; exact H.out, RingStep.refl _ _ _⟩
  case round =>
    obtain ⟨k, A1, c1, rfl, hk, H1, H2⟩ := hrel
    by_cases hlt : k < n
    · obtain ⟨x, hxk⟩ : ∃ x, xs[k]? = some x := ⟨xs[k]'(by rw [HN.out]; exact hlt), List.getElem?_eq_getElem _⟩
      obtain ⟨b, off, rfl, hb, hnb, hc⟩ := HX.out (by rw [List.length_map, HN.out]; omega)
      have hcx : wr.cell? ⟨b, off + k, none⟩ = some (.string x) := (H2.out.1.cell (p := ⟨b, off + k, none⟩) hb hnb).trans (hc k _ (by rw [List.getElem?_map, hxk]; rfl))
      have hx1 := HB.out x (List.mem_of_getElem? hxk)
      unfold maxLen at hx1
      obtain ⟨cur, hcur⟩ : ∃ cur, cur = putL room l (xs.take k) := ⟨_, rfl⟩
      have e1 : putL room l (xs.take (k + 1)) = cur ++ x.data.toList.take (room - cur.length) := by rw [take_next hxk, putL_snoc, ← hcur]
      rw [← hcur] at H1
      have H3 := Lib.hid e1
      have c0 := H1.out.c0
      have f0 := H1.out.fr 0
      have hcl := H1.out.2.2.2.1
      obtain ⟨m, hm'⟩ : ∃ m : Nat, min (x.size : Int) (((room - cur.length : Nat) : Int)) = (m : Int) := ⟨min x.size (room - cur.length), by omega⟩
      have hm1 : (m : Int) ≤ (x.size : Int) := by omega
      have hm1' : m ≤ x.size := by omega
      have HTK := Lib.hid (take_min x m (room - cur.length) hm')
      have hm0 : (0 : Int) ≤ (m : Int) := by omega
      have hmr : m ≤ room - cur.length := by omega
      have hroom := Lib.hid (fun W hW => room_is p A1 c1 room cur W hW)
      clear hc hnb hb hxk e1 hcur
      have hs1 : (x.extract 0 m).size = m := by simp; omega
      have HS := Lib.hid hs1
      have HSC := Lib.hid (strCells_take x m)
      go_wp2_with fail
      go_region_law (first | (refine step_append_buf_str _ (by rfl) (.tmp 26) (.tmp 33) 40 9 (by rfl) 5 i0 Try.underlying40 Try.underlying9 hi hz0 hz1 hz2 (by rfl) (Buf.drewN H1.out.2.1 _) (x.extract 0 m) (by rfl) (by rw [HS.out]; unfold maxLen; omega) (by rw [HS.out]; omega) ?_; intro A2 c2 w6 hown hkeep hat; obtain ⟨d0, d1⟩ := ring_mid (RingAt.drewN H1.out _) hkeep) | (go_simp; go_at_call 17; refine (hroom.out _ ?_).mono ?_; (first | exact H1.out | exact H1.out.drew); rintro r w5 ⟨rfl, q5, rfl⟩) | fail)
      all_goals
        have HP := Lib.hid (put_store (RingAt.drewN H1.out _) HS.out HSC.out hm1' hmr hown hkeep hat)
        clear hown hkeep hat d0 d1 c0 f0 hcx
        go_wp2_with fail
        go_roundw
        case rel =>
          refine ⟨k + 1, A2, c2, by go_num, by omega, ?_, ?_⟩
          · show RingAt _ _ _ _ _ _
            rw [H3.out, ← HTK.out]
            exact HP.out.1
          · exact (H2.out.trans (RingStep.drewN _ _ _ _)).trans HP.out.2
        case measure => simp [intOf]; omega
    · have hk2 : k = n := by omega
      subst hk2
      rw [List.take_of_length_le (by rw [HN.out]; omega)] at H1
      have c0 := H1.out.c0
      have hl2 := putL_len room l xs
      have hcl := H1.out.2.2.2.1
      have e2 : ((putL room l xs).length : Int) - (l.length : Int) = (((putL room l xs).length - l.length : Nat) : Int) := by omega
      have hge : (l.length : Int) ≤ ((putL room l xs).length : Int) := by omega
      have E2 := Lib.hid e2
      clear hl2 e2
      go_wp2_with fail
      go_ret
      rw [← E2.out]
      exact ⟨rfl, A1, c1, H1.out, H2.out⟩

set_option maxHeartbeats 400000 in
theorem put_none (B : Option Addr) (n cap : Nat) (w : World) :
    Calls Try.prog 11 #[.pointer none, .slice B n cap] w fun r w' => r = .returned (.int .i64 0) ∧ w = w' := by
  go_enter Try.func11, Try.ntmps11
  go_wp2_with fail
  refine (ready_nil _).mono ?_
  rintro r w1 ⟨rfl, rfl⟩
  go_wp2
  go_ret
  exact ⟨rfl, rfl⟩

set_option maxHeartbeats 400000 in
theorem all_none (B : Option Addr) (n cap : Nat) (w : World) :
    Calls Try.prog 12 #[.pointer none, .slice B n cap] w fun r w' => r = .returned (.bool false) ∧ w = w' := by
  go_enter Try.func12, Try.ntmps12
  go_wp2_with fail
  refine (ready_nil _).mono ?_
  rintro r w1 ⟨rfl, rfl⟩
  go_wp2
  go_ret
  exact ⟨rfl, rfl⟩

/-- What waits behind All. -/
def allL (room : Nat) (l : List UInt8) (xs : List ByteArray) : List UInt8 := if fitsL (room - l.length) xs = true then l ++ joinL xs else l

theorem putL_fits (room : Nat) (l : List UInt8) (xs : List ByteArray) (h : fitsL (room - l.length) xs = true) : putL room l xs = allL room l xs := by
  unfold allL
  rw [if_pos h]
  unfold fitsL at h
  have h2 := of_decide_eq_true h
  unfold putL
  rw [List.take_of_length_le (by rw [joinL_len]; exact h2)]

theorem slice_drewN {w : World} {B : Option Addr} {vs : List Value} {S : Nat → Prop} (h : SliceAt w B vs S) (n : Nat) : SliceAt (w.drewN n) B vs S := h

theorem src_of {w : World} {B : Option Addr} {n : Nat} {us : List Value} {S : Nat → Prop} (h : SliceAt w B us S) (hn : us.length = n) : Src w B n us :=
  ⟨hn, fun h0 => by
    obtain ⟨b, off, e, hb, _, hc⟩ := h (by omega)
    exact ⟨b, off, e, hb, hc⟩⟩

set_option maxRecDepth 100000 in
set_option maxHeartbeats 800000 in
theorem all_any (p : Nat) (A : Option Addr) (c room : Nat) (l : List UInt8) (B : Option Addr) (n cap : Nat) (xs : List ByteArray) (w : World) (h : RingAt w p A c room l)
    (hx : SliceAt w B (xs.map Value.string) (fun k => k = p ∨ blk A = some k)) (hn : xs.length = n) (hxs : ∀ x ∈ xs, x.size ≤ maxLen) (hm : n ≤ maxLen) :
    Calls Try.prog 12 #[.pointer (some ⟨p, 0, none⟩), .slice B n cap] w fun r w' => r = .returned (.bool (fitsL (room - l.length) xs)) ∧ RingTo p A w room (allL room l xs) w' := by
  have HX := Lib.hid hx
  have HN := Lib.hid (show (xs.map Value.string).length = n by rw [List.length_map]; exact hn)
  have HN2 := Lib.hid hn
  have HB := Lib.hid hxs
  have H := Lib.hid h
  have hr2 := h.2.2.2.2
  have HM := Lib.hid hm
  have hrm : room - l.length ≤ 100000 := by omega
  clear h hx hn hxs hm
  by_cases hf : fitsL (room - l.length) xs = true
  · have HF := Lib.hid hf
    rw [hf, ← putL_fits room l xs hf]
    clear hf
    go_enter Try.func12, Try.ntmps12
    go_wp2_with fail
    refine (ready_ok p A c room l _ H.out).mono ?_
    rintro r w1 ⟨rfl, rfl⟩
    go_wp2_with fail
    refine (room_is p A c room l _ H.out).mono ?_
    rintro r w1 ⟨rfl, q, rfl⟩
    go_wp2_with fail
    refine (fits_any B n cap xs (room - l.length) _ (src_of (slice_drewN HX.out q) HN.out) HB.out hrm HM.out).mono ?_
    rintro r w1 ⟨rfl, rfl⟩
    rw [HF.out]
    go_wp2_with fail
    refine (put_any p A c room l B n cap xs _ (H.out.drewN q) (slice_drewN HX.out q) HN2.out HB.out HM.out).mono ?_
    rintro r w1 ⟨rfl, h1⟩
    have H1 := Lib.hid h1
    clear h1
    go_wp2_with fail
    go_ret
    obtain ⟨A', c', q1, q2⟩ := H1.out
    exact ⟨rfl, A', c', q1, (RingStep.drewN p A w q).trans q2⟩
  · have hf' : fitsL (room - l.length) xs = false := by simpa using hf
    have ha : allL room l xs = l := by unfold allL; rw [if_neg hf]
    rw [hf', ha]
    have HF := Lib.hid hf'
    clear hf hf' ha
    go_enter Try.func12, Try.ntmps12
    go_wp2_with fail
    refine (ready_ok p A c room l _ H.out).mono ?_
    rintro r w1 ⟨rfl, rfl⟩
    go_wp2_with fail
    refine (room_is p A c room l _ H.out).mono ?_
    rintro r w1 ⟨rfl, q, rfl⟩
    go_wp2_with fail
    refine (fits_any B n cap xs (room - l.length) _ (src_of (slice_drewN HX.out q) HN.out) HB.out hrm HM.out).mono ?_
    rintro r w1 ⟨rfl, rfl⟩
    rw [HF.out]
    go_wp2_with fail
    go_ret
    exact ⟨rfl, A, c, H.out.drewN q, RingStep.drewN _ _ _ _⟩

end Go.Proofs.Ythpghomnfailkaa
