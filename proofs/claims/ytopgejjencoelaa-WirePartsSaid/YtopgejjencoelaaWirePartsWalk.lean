/- Law WireParts: the walk. Own work. -/
import Derived.Test.YtopgejjencoelaaWireAlive
import Derived.Test.YtopgejjencoelaaRefP
namespace Go.Proofs.Ytopgejjencoelaa
set_option linter.unusedVariables false
set_option linter.unusedSimpArgs false
open Go.RowKit

theorem below_drewN {B : Nat} {a w : World} (h : Below B a w) (n : Nat) : Below B a (w.drewN n) := ⟨h.os, h.tape, h.output, h.size, h.block⟩

/-- Behind k parts. -/
structure PartsAt (bin : Bool) (k : Nat) (S W : List UInt8) : Prop where
  g : ∃ q, Between bin q ∧ bytesL bin (Rd.new, An.new) S = (Rd.new.goes q, ⟨[], W⟩)
  s : S.length ≤ 200 * k
  w : W.length ≤ 100 * k
theorem parts_nil (bin : Bool) : PartsAt bin 0 [] [] := ⟨⟨0, .inl rfl, rfl⟩, by simp, by simp⟩
theorem parts_next {bin : Bool} {k : Nat} {S W x : List UInt8} (h : PartsAt bin k S W) (hx : x.length ≤ 100) : PartsAt bin (k + 1) (S ++ sentL bin x) (W ++ x) := by
  obtain ⟨q, h1, h2⟩ := h.g
  obtain ⟨q', h3, h4⟩ := sent_read bin x.length x (Nat.le_refl _) q W h1
  refine ⟨⟨q', h3, by rw [bytes_add, h2, h4]⟩, ?_, ?_⟩
  · have := h.s; have := (sent_len bin x).2; rw [List.length_append]; omega
  · have := h.w; rw [List.length_append]; omega
theorem parts_told {bin : Bool} {k : Nat} {S W : List UInt8} (h : PartsAt bin k S W) : plainOf bin S = W := by
  obtain ⟨q, _, h2⟩ := h.g
  exact told_plain h2

set_option maxRecDepth 100000 in
set_option maxHeartbeats 6400000 in
theorem parts_good (bin : Bool) (A : Option Addr) (n c : Nat) (zs : List ByteArray) (w : World) (hz : Strs w A n zs) (hn : n ≤ 20) :
    Calls Try.prog 5 #[.bool bin, .slice A n c] w fun e w' => e = .returned (.bool true) ∧ Below w.heap.size w w' := by
  have k1 : ¬ (20 < (n : Int)) := by omega
  have hnb : (n : Int) ≤ 20 := by omega
  have HZ := Lib.hid hz
  clear hz
  go_enter Try.func5, Try.ntmps5
  go_wp2_with fail
  refine (alive_any w).mono ?_
  rintro r w1 ⟨rfl, b1⟩
  have B1 := Lib.hid b1
  clear b1
  go_wp2_with fail
  go_loopw [5, 6, 7] (fun sv wv i wr => ∃ (k : Nat) (S W : List UInt8), i = .int .i64 k ∧ k ≤ n ∧ sv = .string ⟨S.toArray⟩ ∧ wv = .string ⟨W.toArray⟩ ∧ Hid (PartsAt bin k S W) ∧ Hid (Below w.heap.size w wr)) (fun _ _ i _ => n - (intOf i).toNat)
  case atStart => exact ⟨0, [], [], rfl, by omega, rfl, rfl, Lib.hid (parts_nil bin), B1⟩
  case round =>
    obtain ⟨k, S, W, rfl, hk, rfl, rfl, hl, hb⟩ := hrel
    have hk0 : (0 : Int) ≤ (k : Int) := by omega
    have hkb : (k : Int) ≤ 20 := by omega
    obtain ⟨SS, hSS⟩ : ∃ SS : ByteArray, SS = ⟨S.toArray⟩ := ⟨_, rfl⟩
    obtain ⟨WW, hWW⟩ : ∃ WW : ByteArray, WW = ⟨W.toArray⟩ := ⟨_, rfl⟩
    have hSz : SS.size ≤ 4000 := by rw [hSS, size_mk]; have := hl.out.s; omega
    have hWz : WW.size ≤ 2000 := by rw [hWW, size_mk]; have := hl.out.w; omega
    rw [← hSS, ← hWW]
    by_cases hlt : k < n
    · have hki : (k : Int) < (n : Int) := by omega
      obtain ⟨b, o, rfl, hbl, hcs⟩ := HZ.out.2.1 (by omega)
      obtain ⟨x, hx⟩ : ∃ x, zs[k]? = some x := ⟨zs[k]'(by rw [HZ.out.1]; exact hlt), List.getElem?_eq_getElem _⟩
      have hcx : wr.cell? ⟨b, o + k, none⟩ = some (.string x) := (hb.out.cell (p := ⟨b, o + k, none⟩) hbl).trans (hcs k x hx)
      have hxm : x.size ≤ maxLen := HZ.out.2.2.1 x (List.mem_of_getElem? hx)
      unfold maxLen at hxm
      have HBL := Lib.hid hbl
      have HCS := Lib.hid (hcs k x hx)
      by_cases hxl : 100 < x.size
      · have t1 : (100 : Int) < (x.size : Int) := by omega
        clear hSS hWW hcs hx hbl
        go_wp2_with fail
        go_ret
        exact ⟨rfl, hb.out⟩
      · have t1 : ¬ (100 : Int) < (x.size : Int) := by omega
        have hxd : x.data.toList.length = x.size := (Lib.size_eq x).symm
        have hbx : Below wr.heap.size wr (wr.alloc (.cells #[.string x] 9)) := (Below.refl _ _).alloc (Nat.le_refl _) _
        have hdt := wire_data bin (some ⟨wr.heap.size, 0, none⟩) 1 1 [x] (wr.alloc (.cells #[.string x] 9)) (src_one _ _ _ rfl) (Nat.le_refl _) (by rw [sum_one]; omega) (by omega)
        rw [show joinL [x] = x.data.toList by simp [joinL]] at hdt
        obtain ⟨D, hD⟩ : ∃ D : ByteArray, D = ⟨(sentL bin x.data.toList).toArray⟩ := ⟨_, rfl⟩
        rw [← hD] at hdt
        have HDT := Lib.hid hdt
        have hsl := sent_len bin x.data.toList
        have hDs : D.size = (sentL bin x.data.toList).length := by rw [hD]; rfl
        have hD1 : x.size ≤ D.size := by rw [hxd] at hsl; omega
        have hD2 : D.size ≤ 2 * x.size := by rw [hxd] at hsl; omega
        have HNX := Lib.hid (parts_next hl.out (x := x.data.toList) (by omega))
        have HS2 := Lib.hid (show (⟨(S ++ sentL bin x.data.toList).toArray⟩ : ByteArray) = SS ++ D by rw [hSS, hD, mk_add])
        have HW2 := Lib.hid (show (⟨(W ++ x.data.toList).toArray⟩ : ByteArray) = WW ++ x by rw [hWW, mk_add'])
        have hcat1 : ∀ W, (Op.stringOp .add SS D).run Try.prog W = .ok (.string (SS ++ D)) W := fun W => run_string_add_sum W SS D (by omega)
        have hcat2 : ∀ W, (Op.stringOp .add WW x).run Try.prog W = .ok (.string (WW ++ x)) W := fun W => run_string_add_sum W WW x (by omega)
        have t2 : ¬ ((D.size : Int) < (x.size : Int)) := by omega
        have t3 : ¬ (2 * (x.size : Int) < (D.size : Int)) := by omega
        have t4 : (0 : Int) ≤ (x.size : Int) := by omega
        have t5 : (x.size : Int) ≤ 100 := by omega
        clear hSS hWW hD hdt hsl hxd hcs hx hbl hD1 hD2 hDs hbx
        go_wp2_with fail
        refine HDT.out.mono ?_
        rintro r w2 ⟨rfl, b2⟩
        have HB2 := Lib.hid ((hb.out.alloc hb.out.size (.cells #[.string x] 9)).trans (b2.mono (by have := hb.out.size; simp; omega)))
        have hcx2 : w2.cell? ⟨b, o + k, none⟩ = some (.string x) := (HB2.out.cell (p := ⟨b, o + k, none⟩) HBL.out).trans HCS.out
        clear b2
        go_wp2_with fail
        go_quiet (fail)
        go_wp2_with fail
        go_roundw
        case rel => exact ⟨k + 1, _, _, by go_num, by omega, by rw [HS2.out], by rw [HW2.out], HNX, Lib.hid (below_drewN HB2.out _)⟩
        case measure => simp [intOf]; omega
    · have hkn : k = n := by omega
      subst hkn
      have hp := parts_told hl.out
      have hSd : SS.data.toList = S := by rw [hSS]
      have h1 := fun W => plain_ref bin SS W (by omega)
      have h2 := fun W => wire_plain bin SS W (by omega)
      simp only [hSd, hp] at h1 h2
      rw [← hWW] at h1 h2
      have h3 := fun W => wire_data bin none 0 0 [] W ⟨rfl, fun h => absurd h (by omega)⟩ (Nat.le_refl _) (by simp [sum]) (by omega)
      have H1 := Lib.hid h1
      have H2 := Lib.hid h2
      have H3 := Lib.hid (show ∀ W : World, Calls Try.prog 14 #[.bool bin, .slice none 0 0] W fun e w' => e = .returned (.string ⟨#[]⟩) ∧ Below W.heap.size W w' from h3)
      clear hp hSd hSS hWW h1 h2 h3
      go_wp2_with fail
      refine (H1.out wr).mono ?_
      rintro r w2 ⟨rfl, b2⟩
      have B2 := Lib.hid (hb.out.trans (b2.mono hb.out.size))
      clear b2
      go_wp2_with fail
      refine (H2.out w2).mono ?_
      rintro r w3 ⟨rfl, b3⟩
      have B3 := Lib.hid (B2.out.trans (b3.mono B2.out.size))
      clear b3
      go_wp2_with fail
      refine (H3.out w3).mono ?_
      rintro r w4 ⟨rfl, b4⟩
      have B4 := Lib.hid (B3.out.trans (b4.mono B3.out.size))
      clear b4
      go_wp2_with fail
      go_ret
      exact ⟨rfl, B4.out⟩

set_option maxRecDepth 100000 in
set_option maxHeartbeats 1600000 in
theorem walk_WireParts (bin : Bool) (A : Option Addr) (n c : Nat) (zs : List ByteArray) (w : World) (hz : Strs w A n zs) :
    Calls Try.prog 5 #[.bool bin, .slice A n c] w fun e w' => e = .returned (.bool true) ∧ Below w.heap.size w w' := by
  by_cases h1 : 20 < n
  · have h1' : (20 : Int) < (n : Int) := by omega
    have hm : (n : Int) ≤ 9223372036854775807 := by have := hz.2.2.2; unfold maxLen at this; omega
    clear hz
    go_enter Try.func5, Try.ntmps5
    go_wp2_with fail
    refine (alive_any w).mono ?_
    rintro r w1 ⟨rfl, b1⟩
    go_wp2_with fail
    go_ret
    exact ⟨rfl, b1⟩
  exact parts_good bin A n c zs w hz (by omega)

end Go.Proofs.Ytopgejjencoelaa
