/- emu: edit. By program (rgn/XEmuI.py). Own work. -/
import Derived.Test.YtnminmaklbhakaaGreatDoorEmuP
namespace Go.Proofs.YtnminmaklbhakaaGreatDoor
set_option linter.unusedVariables false
set_option linter.unusedSimpArgs false
open Go.RowKit

theorem blank_v (m : EmM) : m.blank.v = .agg #[.int .i32 32, .int .i64 0, .int .i64 m.st.pen.bg, .bool false, .bool false, .bool false] := rfl
def blankCs (m : EmM) : Array Value := #[.int .i32 32, .int .i64 0, .int .i64 m.st.pen.bg, .bool false, .bool false, .bool false]
def zeroCs : Array Value := #[.int .i32 0, .int .i64 0, .int .i64 0, .bool false, .bool false, .bool false]

set_option maxRecDepth 100000 in
set_option maxHeartbeats 3200000 in
theorem emu_edit (w : World) (e : Nat) (L : Loc) (m : EmM) (b n : Nat) (hb : b = 88 ∨ b = 64 ∨ b = 80 ∨ b = 83 ∨ b = 84) (hn : n ≤ 9999) (h : EmR w e L m) :
    Calls Tryz.prog 100 #[.pointer (some ⟨e, 0, none⟩), .int .i64 (b : Int), .int .i64 (n : Int)] w fun v w' => v = .returned (.tuple #[]) ∧ EmR w' e L (m.edit b n) ∧ Mv e L L w w' := by
  have HE := Lib.hid h
  have hok := h.ok
  have hx := hok.x; have hy := hok.y; have w40 := hok.w40; have h20 := hok.h20; have htb := hok.tb; have hbh := hok.bh
  have helt := h.elt
  have hp := place_in hok
  have ha := area_le hok
  have HS := Lib.hid h.shownK
  have HB := Lib.hid h.blankK
  rw [blank_v] at HB
  go_enter Tryz.func100, Tryz.ntmps100
  go_upto_region 1 with (first | (refine (HS.out _ (Keep.refl _ _)).mono ?_; rintro v w3 ⟨rfl, hw3⟩; rw [hw3]; clear hw3) | (refine (HB.out _ (Keep.refl _ _)).mono ?_; rintro v w3 ⟨rfl, hk⟩; have HK3 := Lib.hid hk; have helt3 : e < w3.heap.size := Nat.lt_of_lt_of_le helt hk.size; clear hk) | fail)
  obtain ⟨w4, hw4⟩ : ∃ w4, w4 = w3.alloc (.cells #[.int .i32 32, .int .i64 0, .int .i64 m.st.pen.bg, .bool false, .bool false, .bool false] 46) := ⟨_, rfl⟩
  have K4 : Hid (Keep (fun _ => False) w w4) := Lib.hid (by rw [hw4]; exact HK3.out.alloc _)
  have hq4 : w4.heap[w3.heap.size]? = some (.cells #[.int .i32 32, .int .i64 0, .int .i64 m.st.pen.bg, .bool false, .bool false, .bool false] 46 (0, 0)) := by rw [hw4]; exact heap_alloc_new _ _
  rw [← hw4]
  obtain ⟨q, hq⟩ : ∃ q, q = w3.heap.size := ⟨_, rfl⟩
  rw [← hq] at hq4 ⊢
  have d0 := cell_at hq4 0
  have d1 := cell_at hq4 1
  have d2 := cell_at hq4 2
  have d3 := cell_at hq4 3
  have d4 := cell_at hq4 4
  have d5 := cell_at hq4 5
  have H4 := Lib.hid (HE.out.quiet K4.out)
  have c22 := (H4.out.cell 0 22 rfl _ rfl).1
  have c23 := (H4.out.cell 1 23 rfl _ rfl).1
  have c24 := (H4.out.cell 2 24 rfl _ rfl).1
  have c25 := (H4.out.cell 3 25 rfl _ rfl).1
  clear hw4 hq4 hq HS HB helt3
  rcases hb with rfl | rfl | rfl | rfl | rfl
  · have e1 : m.edit 88 n = (m.fill m.place (min (m.place + n) ((m.st.y + 1) * m.W))).soon := rfl
    have E1 := Lib.hid e1
    have hz : (m.st.y + 1) * m.W ≤ m.W * m.H := by rw [Nat.succ_mul]; exact hp.2
    have HFI := Lib.hid (fun V k => HE.out.fill m.place (min (m.place + n) ((m.st.y + 1) * m.W)) (by omega) V k)
    rw [blank_v, show ((min (m.place + n) ((m.st.y + 1) * m.W) : Nat) : Int) = min ((m.place : Int) + (n : Int)) (((m.st.y + 1) * m.W : Nat) : Int) by omega] at HFI
    have HPL := Lib.hid (emu_place w4 e L m H4.out)
    have HRE : Hid (∀ k, Calls Tryz.prog 124 #[.pointer (some ⟨e, 0, none⟩), .pointer (some ⟨L.sh.1, 0, none⟩)] (w4.drewN k) fun v w' => v = .returned (.tuple #[.int .i64 ((m.st.y * m.W : Nat) : Int), .int .i64 (((m.st.y + 1) * m.W : Nat) : Int)]) ∧ ∃ j, w' = (w4.drewN k).drewN j) := Lib.hid (fun k => emu_rowEnds _ e L m (H4.out.drewN k))
    have hplt : (m.place : Int) ≤ 800 := by omega
    have hrz : (((m.st.y + 1) * m.W : Nat) : Int) ≤ 800 := by omega
    generalize m.place = PL at *
    generalize (m.st.y + 1) * m.W = RZ at *
    generalize m.st.y * m.W = RY at *
    clear h hok e1 hp ha hz
    go_wp2_with fail
    refine HPL.out.mono ?_
    rintro v w5 ⟨rfl, k5, hw5⟩
    rw [hw5]
    clear hw5
    go_wp2_with fail
    refine (HRE.out _).mono ?_
    rintro v w5 ⟨rfl, k6, hw5⟩
    rw [hw5, World.drewN_drewN]
    clear hw5
    go_wp2_with fail
    refine (HFI.out _ (K4.out.drewN _)).mono ?_
    rintro v w6 ⟨rfl, he, hm⟩
    have HE6 := Lib.hid (he.lateTo false)
    have HM6 := Lib.hid hm
    have d46 := (he.cell 24 46 rfl _ rfl).1
    have f46 := (he.cell 24 46 rfl _ rfl).2
    clear he hm
    go_wp2_with fail
    go_end0
    exact ⟨rfl, by rw [E1.out]; exact HE6.out.1, HM6.out.trans HE6.out.2⟩
  · have E1 : Hid (m.edit 64 n = (m.put (rightF m.W m.st.x m.st.y n m.blank m.shown)).soon) := Lib.hid rfl
    have HU := Lib.hid (HE.out.right n)
    rw [blank_v] at HU
    clear h hok hp ha
    go_wp2_with fail
    go_region_law (first | (go_simp; go_at_call 67; refine (HU.out _ (by first | exact K4.out | exact K4.out.drew | exact K4.out.drewN _ | exact K4.out.drew.drew)).mono ?_; rintro v w6 ⟨rfl, he, hm⟩; have HE6 := Lib.hid (he.lateTo false); have HM6 := Lib.hid hm; have d46 := (he.cellp 24 46 rfl _ rfl).1; have f46 := (he.cellp 24 46 rfl _ rfl).2; clear he hm) | fail)
    all_goals
      go_wp2_with fail
      go_end0
      exact ⟨rfl, by rw [E1.out]; exact HE6.out.1, HM6.out.trans HE6.out.2⟩
  · have E1 : Hid (m.edit 80 n = (m.put (leftF m.W m.st.x m.st.y n m.blank m.shown)).soon) := Lib.hid rfl
    have HU := Lib.hid (HE.out.left n)
    rw [blank_v] at HU
    clear h hok hp ha
    go_wp2_with fail
    go_region_law (first | (go_simp; go_at_call 127; refine (HU.out _ (by first | exact K4.out | exact K4.out.drew | exact K4.out.drewN _ | exact K4.out.drew.drew)).mono ?_; rintro v w6 ⟨rfl, he, hm⟩; have HE6 := Lib.hid (he.lateTo false); have HM6 := Lib.hid hm; have d46 := (he.cellp 24 46 rfl _ rfl).1; have f46 := (he.cellp 24 46 rfl _ rfl).2; clear he hm) | fail)
    all_goals
      go_wp2_with fail
      go_end0
      exact ⟨rfl, by rw [E1.out]; exact HE6.out.1, HM6.out.trans HE6.out.2⟩
  · have E1 : Hid (m.edit 83 n = (m.put (upF m.W m.top m.bottom n m.blank m.shown)).soon) := Lib.hid rfl
    have HU := Lib.hid (HE.out.up m.top m.bottom n htb hbh)
    rw [blank_v] at HU
    clear h hok hp ha
    go_wp2_with fail
    go_region_law (first | (go_simp; go_at_call 87; refine (HU.out _ (by first | exact K4.out | exact K4.out.drew | exact K4.out.drewN _ | exact K4.out.drew.drew)).mono ?_; rintro v w6 ⟨rfl, he, hm⟩; have HE6 := Lib.hid (he.lateTo false); have HM6 := Lib.hid hm; have d46 := (he.cellp 24 46 rfl _ rfl).1; have f46 := (he.cellp 24 46 rfl _ rfl).2; clear he hm) | fail)
    all_goals
      go_wp2_with fail
      go_end0
      exact ⟨rfl, by rw [E1.out]; exact HE6.out.1, HM6.out.trans HE6.out.2⟩
  · have E1 : Hid (m.edit 84 n = (m.put (downF m.W m.top m.bottom n m.blank m.shown)).soon) := Lib.hid rfl
    have HU := Lib.hid (HE.out.down m.top m.bottom n htb hbh)
    rw [blank_v] at HU
    clear h hok hp ha
    go_wp2_with fail
    go_region_law (first | (go_simp; go_at_call 119; refine (HU.out _ (by first | exact K4.out | exact K4.out.drew | exact K4.out.drewN _ | exact K4.out.drew.drew)).mono ?_; rintro v w6 ⟨rfl, he, hm⟩; have HE6 := Lib.hid (he.lateTo false); have HM6 := Lib.hid hm; have d46 := (he.cellp 24 46 rfl _ rfl).1; have f46 := (he.cellp 24 46 rfl _ rfl).2; clear he hm) | fail)
    all_goals
      go_wp2_with fail
      go_end0
      exact ⟨rfl, by rw [E1.out]; exact HE6.out.1, HM6.out.trans HE6.out.2⟩

end Go.Proofs.YtnminmaklbhakaaGreatDoor
