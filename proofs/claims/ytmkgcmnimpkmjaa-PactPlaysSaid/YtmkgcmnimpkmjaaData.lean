/- wire.Data. Own work. -/
import Derived.Test.YtmkgcmnimpkmjaaWireM
import Derived.Test.YtmkgcmnimpkmjaaJoins
namespace Go.Proofs.Ytmkgcmnimpkmjaa
set_option linter.unusedVariables false
set_option linter.unusedSimpArgs false
open Go.RowKit

theorem prefix_lf (s : List UInt8) : Lib.hasPrefix s [10] = decide (s.head? = some 10) := by
  unfold Lib.hasPrefix
  cases s with
  | nil => rfl
  | cons b s =>
    by_cases h : b = 10
    · subst h; simp
    · have e : ((10 : UInt8) == b) = false := by simpa using fun e => h e.symm
      show ((10 : UInt8) == b && List.isPrefixOf [] s) = _
      rw [e]
      simp [h]

theorem u8_ne {b c : UInt8} (h : b ≠ c) : ((b.toNat : Int) == (c.toNat : Int)) = false := by
  have : ¬ (b.toNat : Int) = (c.toNat : Int) := fun e => h (UInt8.toNat_inj.1 (by omega))
  simpa using this

/-- Does a 10 stand there? -/
theorem pre_any (s : ByteArray) (l : List UInt8) (k : Nat) (hl : s.data.toList = l) (hk : k ≤ s.size) (t : Bool) (ht : decide ((l.drop k).head? = some 10) = t) (w : World) :
    Calls Try.prog 70 #[.string (s.extract k s.size), .string ⟨#[10]⟩] w fun e w' => e = .returned (.bool t) ∧ w = w' := by
  refine (Try.strings_HasPrefix (s.extract k s.size) ⟨#[10]⟩ w).mono fun e w' ⟨h1, h2⟩ => ⟨?_, ?_⟩
  · rw [h1]
    show Ending.returned (.bool (Lib.hasPrefix _ [10])) = _
    rw [prefix_lf]
    have e : (s.extract k s.size).data.toList = l.drop k := by
      have h3 := extract_mk s.data.toList k s.size
      rw [mk_data] at h3
      rw [h3, List.take_of_length_le (by rw [← Lib.size_eq]; exact Nat.le_refl _), hl]
    rw [e, ht]
  · first | exact h2 | exact h2.symm

set_option maxRecDepth 100000 in
set_option maxHeartbeats 3200000 in
theorem wire_data (bin : Bool) (A : Option Addr) (n c : Nat) (xs : List ByteArray) (w : World) (h : Src w A n (xs.map Value.string)) (hc : n ≤ c) (hs : sum xs ≤ 1000000000) (hn : n ≤ 1000000000) :
    Calls Try.prog 57 #[.bool bin, .slice A n c] w fun e w' => e = .returned (.string ⟨(sentL bin (joinL xs)).toArray⟩) ∧ Below w.heap.size w w' := by
  have HJ := Lib.hid (joins_any A n c xs w h hc hs hn)
  have hsz : (joinL xs).length ≤ 1000000000 := by rw [joinL_len]; exact hs
  obtain ⟨l, hl⟩ : ∃ l, l = joinL xs := ⟨_, rfl⟩
  rw [← hl] at hsz
  have HL := Lib.hid hl
  have HSZ := Lib.hid hsz
  clear h hc hs hn hl hsz
  go_enter Try.func57, Try.ntmps57
  go_wp2_with fail
  refine HJ.out.mono ?_
  rintro r w1 ⟨rfl, b1⟩
  rw [← HL.out]
  obtain ⟨s, hsl⟩ : ∃ s : ByteArray, s = ⟨l.toArray⟩ := ⟨_, rfl⟩
  have hsd : s.data.toList = l := by rw [hsl]
  have hss : s.size ≤ 1000000000 := by rw [hsl, size_mk]; exact HSZ.out
  rw [← hsl]
  have HD := Lib.hid hsd
  have B1 := Lib.hid b1
  have hsb : (s.size : Int) ≤ 1000000000 := by omega
  have hs0 : (0 : Int) ≤ (s.size : Int) := by omega
  have HN := Lib.hid (bld_new w1)
  clear HJ b1 hsl hsd
  go_wp2_with fail
  go_loopw [12] (fun i wr => ∃ (k : Nat) (acc : List UInt8), i = .int .i64 k ∧ k ≤ s.size ∧ Hid (Bld w1.heap.size w1.heap.size acc wr) ∧ Hid (Sent bin l k acc) ∧ Hid (Below w1.heap.size w1 wr)) (fun i _ => s.size - (intOf i).toNat)
  case atStart => exact ⟨0, [], rfl, by omega, HN, Sent.nil _ _, Lib.hid ((Below.refl w1.heap.size w1).alloc (Nat.le_refl _) _)⟩
  case round =>
    obtain ⟨k, acc, rfl, hk, hb, hd, hw⟩ := hrel
    have hk0 : (0 : Int) ≤ (k : Int) := by omega
    have hdl := hd.out.len
    have hal : acc.length ≤ 2000000000 := by have := HSZ.out; omega
    have hwz := hw.out.size
    have WB := Lib.hid (fun (c : UInt8) => hb.out.byte c (by omega) hwz)
    clear hdl
    by_cases hlt : k < s.size
    · have hki : (k : Int) < (s.size : Int) := by omega
      obtain ⟨y, hy⟩ : ∃ y, y = s[k] := ⟨_, rfl⟩
      have hlk : l[k]? = some y := by rw [← HD.out, hy]; simp [hlt]; rfl
      have HX := Lib.hid (hd.out.next hlk)
      have HY := Lib.hid hy
      go_wp2_with fail
      rw [← HY.out]
      refine (WB.out y).mono ?_
      rintro r w2 ⟨rfl, hb2, k2⟩
      have B2 := Lib.hid (hw.out.trans k2)
      have BB2 := Lib.hid hb2
      have WB2 := Lib.hid (fun (c : UInt8) => hb2.byte c (by rw [List.length_append]; simp; omega) (Nat.le_trans hwz k2.size))
      clear hb2 k2 WB
      by_cases h255 : y = 255
      · have t1 : ((s[k].toNat : Int) == 255) = true := by rw [← hy, h255]; rfl
        go_wp2_with fail
        refine (WB2.out 255).mono ?_
        rintro r w3 ⟨rfl, hb3, k3⟩
        go_wp2_with fail
        have HP := Lib.hid (show acc ++ pieceL bin y (l.drop (k + 1)) = acc ++ [y] ++ [255] by rw [h255, piece_255]; simp)
        have HB3 := Lib.hid hb3
        have B3 := Lib.hid (B2.out.trans k3)
        clear h255 hb3 k3
        go_roundw
        case rel => exact ⟨k + 1, acc ++ [y] ++ [255], by go_num, by omega, HB3, Lib.hid (HP.out ▸ HX.out), B3⟩
        case measure => simp [intOf]; omega
      · have t1 : ((s[k].toNat : Int) == 255) = false := by rw [← hy]; exact u8_ne h255
        have H255 := Lib.hid h255
        by_cases h13 : y = 13
        · have t2 : ((s[k].toNat : Int) == 13) = true := by rw [← hy, h13]; rfl
          have H13 := Lib.hid h13
          cases bin
          · have hk1 : (k : Int) + 1 ≤ (s.size : Int) := by omega
            by_cases h10 : (l.drop (k + 1)).head? = some 10
            · have HF := Lib.hid (pre_any s l (k + 1) HD.out (by omega) true (by rw [h10]; rfl))
              have HP := Lib.hid (show acc ++ pieceL false y (l.drop (k + 1)) = acc ++ [y] by rw [piece_one h255 (fun q => q.2.2 h10)])
              clear hy h255 h13 h10 hlk
              go_wp2_with fail
              refine (HF.out w2).mono ?_
              rintro r w3 ⟨rfl, rfl⟩
              go_wp2_with fail
              go_roundw
              case rel => exact ⟨k + 1, acc ++ [y], by go_num, by omega, BB2, Lib.hid (HP.out ▸ HX.out), B2⟩
              case measure => simp [intOf]; omega
            · have HF := Lib.hid (pre_any s l (k + 1) HD.out (by omega) false (by simpa using h10))
              have HP := Lib.hid (show acc ++ pieceL false y (l.drop (k + 1)) = acc ++ [y] ++ [0] by rw [h13, piece_cr h10]; simp)
              clear hy h255 h13 h10 hlk
              go_wp2_with fail
              refine (HF.out w2).mono ?_
              rintro r w3 ⟨rfl, rfl⟩
              go_wp2_with fail
              refine (WB2.out 0).mono ?_
              rintro r w3 ⟨rfl, hb3, k3⟩
              have HB3 := Lib.hid hb3
              have B3 := Lib.hid (B2.out.trans k3)
              clear hb3 k3
              go_wp2_with fail
              go_roundw
              case rel => exact ⟨k + 1, acc ++ [y] ++ [0], by go_num, by omega, HB3, Lib.hid (HP.out ▸ HX.out), B3⟩
              case measure => simp [intOf]; omega
          · have HP := Lib.hid (show acc ++ pieceL true y (l.drop (k + 1)) = acc ++ [y] by rw [piece_one h255 (fun q => by have := q.2.1; cases this)])
            clear hy h255 h13 hlk
            go_wp2_with fail
            go_roundw
            case rel => exact ⟨k + 1, acc ++ [y], by go_num, by omega, BB2, Lib.hid (HP.out ▸ HX.out), B2⟩
            case measure => simp [intOf]; omega
        · have t2 : ((s[k].toNat : Int) == 13) = false := by rw [← hy]; exact u8_ne h13
          have HP := Lib.hid (show acc ++ pieceL bin y (l.drop (k + 1)) = acc ++ [y] by rw [piece_one h255 (fun q => h13 q.1)])
          clear hy h255 h13 hlk
          go_wp2_with fail
          go_roundw
          case rel => exact ⟨k + 1, acc ++ [y], by go_num, by omega, BB2, Lib.hid (HP.out ▸ HX.out), B2⟩
          case measure => simp [intOf]; omega
    · have hkn : k = s.size := by omega
      subst hkn
      have HA := Lib.hid (hd.out.all (show l.length ≤ s.size by rw [← HD.out, ← Lib.size_eq]; exact Nat.le_refl _))
      have HS := Lib.hid (hb.out.string hwz)
      have B2 := Lib.hid (B1.out.trans (hw.out.mono B1.out.size))
      go_wp2_with fail
      refine HS.out.mono ?_
      rintro r w2 ⟨rfl, k2⟩
      have B3 := Lib.hid (B2.out.trans (k2.mono B1.out.size))
      clear k2
      go_wp2_with fail
      go_ret
      exact ⟨by rw [HA.out, HL.out]; rfl, B3.out⟩

end Go.Proofs.Ytmkgcmnimpkmjaa
