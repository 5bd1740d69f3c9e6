/- The document's Data of chapter 9. Own work. -/
import Derived.Test.YtmkgcmnimpkmjaaWireFn
namespace Go.Proofs.Ytmkgcmnimpkmjaa
set_option linter.unusedVariables false
set_option linter.unusedSimpArgs false
open Go.RowKit

theorem one_u8 (n : Int) : ∀ u ∈ [Value.int .u8 n], u.oneCell' = true := by intro u hu; simp at hu; subst hu; rfl
theorem byte_more {w wr w2 : World} {v v2 : Value} {acc : List UInt8} {c : UInt8} {X : Obj} {e : TypeId} {m : Nat} (hm : m = acc.length + 1) (hw : Below w.heap.size w wr) (ho : wr.ownsRow w.heap.size e 1 v acc.length (Lib.byteCells acc))
    (hown : w2.ownsRow w.heap.size e 1 v2 m (Lib.byteCells acc ++ [.int .u8 (c.toNat : Int)])) (hk : Keep (fun k => v.ownBlock = some k) (wr.alloc X) w2) :
    w2.ownsRow w.heap.size e 1 v2 (acc ++ [c]).length (Lib.byteCells (acc ++ [c])) ∧ Below w.heap.size w w2 := by
  subst hm
  refine ⟨by rw [bytes_add_one, List.length_append]; exact hown, hw.trans ?_⟩
  have h1 : Keep (fun i => v.ownBlock = some i) wr w2 := ((Keep.refl (fun i => v.ownBlock = some i) wr).alloc X).trans hk (fun _ _ x => x)
  exact h1.below hw.size (fun i hi x => by have := (ho.lt i x).1; omega)

set_option maxRecDepth 100000 in
set_option maxHeartbeats 3200000 in
theorem rw_data (bin : Bool) (s : ByteArray) (w : World) (hs : s.size ≤ 1000000000) :
    Calls Try.prog 41 #[.bool bin, .string s] w fun e w' => e = .returned (.string ⟨(sentL bin s.data.toList).toArray⟩) ∧ Below w.heap.size w w' := by
  obtain ⟨i0, hi, hz0, hz1, hz2⟩ := info_parts byte_info
  obtain ⟨l, hl⟩ : ∃ l, l = s.data.toList := ⟨_, rfl⟩
  have hsz : l.length = s.size := by rw [hl]; exact (Lib.size_eq s).symm
  have HL := Lib.hid hl
  have HSZ := Lib.hid hsz
  have hsb : (s.size : Int) ≤ 1000000000 := by omega
  rw [← hl]
  clear hl hsz
  go_enter Try.func41, Try.ntmps41
  go_wp2_with fail
  go_loopw [5, 6] (fun v i wr => ∃ (k : Nat) (acc : List UInt8), i = .int .i64 k ∧ k ≤ s.size ∧ Hid (wr.ownsRow w.heap.size 5 1 v acc.length (Lib.byteCells acc)) ∧ Hid (Sent bin l k acc) ∧ Hid (Below w.heap.size w wr)) (fun _ i _ => s.size - (intOf i).toNat)
  case atStart => exact ⟨0, [], rfl, by omega, Lib.hid (World.ownsRow_nil _ _ _ _), Sent.nil _ _, Lib.hid (Below.refl _ _)⟩
  case round =>
    obtain ⟨k, acc, rfl, hk, ho, hd, hw⟩ := hrel
    have hk0 : (0 : Int) ≤ (k : Int) := by omega
    have hdl := hd.out.len
    have hal : acc.length ≤ 2000000000 := by have := HSZ.out; omega
    have HAL := Lib.hid hal
    clear hdl hal
    by_cases hlt : k < s.size
    · have hki : (k : Int) < (s.size : Int) := by omega
      obtain ⟨y, hy⟩ : ∃ y, y = s[k] := ⟨_, rfl⟩
      have hlk : l[k]? = some y := by rw [HL.out, hy]; simp [hlt]; rfl
      have HX := Lib.hid (hd.out.next hlk)
      have HY := Lib.hid hy
      go_wp2_with (at_builtin; refine wpList_own_at _ rfl (.tmp 13) (.tmp 17) 90 rfl w.heap.size 5 i0 (.int .u8 0) 1 1 Try.underlying90 hi hz0 hz1 hz2 rfl (by decide) _ _ _ rfl (own_keep ho.out ((Keep.refl (fun _ => False) wr).alloc _) (fun _ _ x => x)) ⟨wr.heap.size, 0, none⟩ 1 1 [.int .u8 (s[k].toNat : Int)] rfl rfl (cells_new wr _ _ _ rfl) (one_u8 _) ?c3a ?c4a ?c5a ?_)
      case c3a => have := HAL.out; unfold maxLen; simp; omega
      case c4a => have := HAL.out; simp; omega
      case c5a => have := hw.out.size; simp; omega
      intro v2 w2 hown hkeep hat
      have HO2 := Lib.hid (byte_more (c := s[k]) (by simp) hw.out ho.out hown hkeep).1
      have HW2 := Lib.hid (byte_more (c := s[k]) (by simp) hw.out ho.out hown hkeep).2
      clear hown hkeep hat
      rw [← HY.out] at HO2
      by_cases h255 : y = 255
      · have t1 : ((s[k].toNat : Int) == 255) = true := by rw [← hy, h255]; rfl
        have HP := Lib.hid (show acc ++ pieceL bin y (l.drop (k + 1)) = acc ++ [y] ++ [255] by rw [h255, piece_255]; simp)
        have t2 : ((s[k].toNat : Int) == 13) = false := by rw [← hy, h255]; rfl
        clear h255 hy hlk
        go_wp2_with (at_builtin; refine wpList_own_at _ rfl (.tmp 23) (.tmp 24) 90 rfl w.heap.size 5 i0 (.int .u8 0) 1 1 Try.underlying90 hi hz0 hz1 hz2 rfl (by decide) _ _ _ rfl (own_keep HO2.out ((Keep.refl (fun _ => False) w2).alloc _) (fun _ _ x => x)) ⟨w2.heap.size, 0, none⟩ 1 1 [.int .u8 255] rfl rfl (cells_new w2 _ _ _ rfl) (one_u8 _) ?c3b ?c4b ?c5b ?_)
        case c3b => have := HAL.out; unfold maxLen; simp; omega
        case c4b => have := HAL.out; simp; omega
        case c5b => have := HW2.out.size; simp; omega
        intro v3 w3 hown hkeep hat
        have HO3 := Lib.hid (byte_more (c := 255) (by simp) HW2.out HO2.out hown hkeep).1
        have HW3 := Lib.hid (byte_more (c := 255) (by simp) HW2.out HO2.out hown hkeep).2
        clear hown hkeep hat
        go_wp2_with fail
        go_roundw
        case rel => exact ⟨k + 1, acc ++ [y] ++ [255], by go_num, by omega, HO3, Lib.hid (HP.out ▸ HX.out), HW3⟩
        case measure => simp [intOf]; omega
      · have t1 : ((s[k].toNat : Int) == 255) = false := by rw [← hy]; exact u8_ne h255
        by_cases h13 : y = 13
        · have t2 : ((s[k].toNat : Int) == 13) = true := by rw [← hy, h13]; rfl
          cases bin
          · by_cases hend : k + 1 = s.size
            · have HP := Lib.hid (show acc ++ pieceL false y (l.drop (k + 1)) = acc ++ [y] ++ [0] by rw [h13, piece_cr (by rw [List.drop_of_length_le (by rw [HSZ.out, hend]; exact Nat.le_refl _)]; simp)]; simp)
              have t3 : ((k : Int) + 1 == (s.size : Int)) = true := by simp; omega
              clear hy h255 h13 hlk
              go_wp2_with (at_builtin; refine wpList_own_at _ rfl (.tmp 48) (.tmp 49) 90 rfl w.heap.size 5 i0 (.int .u8 0) 1 1 Try.underlying90 hi hz0 hz1 hz2 rfl (by decide) _ _ _ rfl (own_keep HO2.out ((Keep.refl (fun _ => False) w2).alloc _) (fun _ _ x => x)) ⟨w2.heap.size, 0, none⟩ 1 1 [.int .u8 0] rfl rfl (cells_new w2 _ _ _ rfl) (one_u8 _) ?c3c ?c4c ?c5c ?_)
              case c3c => have := HAL.out; unfold maxLen; simp; omega
              case c4c => have := HAL.out; simp; omega
              case c5c => have := HW2.out.size; simp; omega
              intro v3 w3 hown hkeep hat
              have HO3 := Lib.hid (byte_more (c := 0) (by simp) HW2.out HO2.out hown hkeep).1
              have HW3 := Lib.hid (byte_more (c := 0) (by simp) HW2.out HO2.out hown hkeep).2
              clear hown hkeep hat
              go_wp2_with fail
              go_roundw
              case rel => exact ⟨k + 1, acc ++ [y] ++ [0], by go_num, by omega, HO3, Lib.hid (HP.out ▸ HX.out), HW3⟩
              case measure => simp [intOf]; omega
            · have t3 : ((k : Int) + 1 == (s.size : Int)) = false := by simp; omega
              have hlt1 : k + 1 < s.size := by omega
              have hki1 : (k : Int) + 1 < (s.size : Int) := by omega
              obtain ⟨z, hz⟩ : ∃ z, z = s[k + 1] := ⟨_, rfl⟩
              have hzh : (l.drop (k + 1)).head? = some z := by rw [head_drop, HL.out, hz]; simp [hlt1]; rfl
              by_cases h10 : z = 10
              · have t4 : ((s[k + 1].toNat : Int) == 10) = true := by rw [← hz, h10]; rfl
                have HP := Lib.hid (show acc ++ pieceL false y (l.drop (k + 1)) = acc ++ [y] by rw [piece_one h255 (fun q => q.2.2 (by rw [hzh, h10]))])
                clear hy h255 h13 hlk hz hzh h10
                go_wp2_with fail
                go_roundw
                case rel => exact ⟨k + 1, acc ++ [y], by go_num, by omega, HO2, Lib.hid (HP.out ▸ HX.out), HW2⟩
                case measure => simp [intOf]; omega
              · have t4 : ((s[k + 1].toNat : Int) == 10) = false := by rw [← hz]; exact u8_ne h10
                have HP := Lib.hid (show acc ++ pieceL false y (l.drop (k + 1)) = acc ++ [y] ++ [0] by rw [h13, piece_cr (by rw [hzh]; simpa using h10)]; simp)
                clear hy h255 h13 hlk hz hzh h10
                go_wp2_with (at_builtin; refine wpList_own_at _ rfl (.tmp 48) (.tmp 49) 90 rfl w.heap.size 5 i0 (.int .u8 0) 1 1 Try.underlying90 hi hz0 hz1 hz2 rfl (by decide) _ _ _ rfl (own_keep HO2.out ((Keep.refl (fun _ => False) w2).alloc _) (fun _ _ x => x)) ⟨w2.heap.size, 0, none⟩ 1 1 [.int .u8 0] rfl rfl (cells_new w2 _ _ _ rfl) (one_u8 _) ?c3d ?c4d ?c5d ?_)
                case c3d => have := HAL.out; unfold maxLen; simp; omega
                case c4d => have := HAL.out; simp; omega
                case c5d => have := HW2.out.size; simp; omega
                intro v3 w3 hown hkeep hat
                have HO3 := Lib.hid (byte_more (c := 0) (by simp) HW2.out HO2.out hown hkeep).1
                have HW3 := Lib.hid (byte_more (c := 0) (by simp) HW2.out HO2.out hown hkeep).2
                clear hown hkeep hat
                go_wp2_with fail
                go_roundw
                case rel => exact ⟨k + 1, acc ++ [y] ++ [0], by go_num, by omega, HO3, Lib.hid (HP.out ▸ HX.out), HW3⟩
                case measure => simp [intOf]; omega
          · have HP := Lib.hid (show acc ++ pieceL true y (l.drop (k + 1)) = acc ++ [y] by rw [piece_one h255 (fun q => by have := q.2.1; cases this)])
            clear hy h255 h13 hlk
            go_wp2_with fail
            go_roundw
            case rel => exact ⟨k + 1, acc ++ [y], by go_num, by omega, HO2, Lib.hid (HP.out ▸ HX.out), HW2⟩
            case measure => simp [intOf]; omega
        · have t2 : ((s[k].toNat : Int) == 13) = false := by rw [← hy]; exact u8_ne h13
          have HP := Lib.hid (show acc ++ pieceL bin y (l.drop (k + 1)) = acc ++ [y] by rw [piece_one h255 (fun q => h13 q.1)])
          clear hy h255 h13 hlk
          go_wp2_with fail
          go_roundw
          case rel => exact ⟨k + 1, acc ++ [y], by go_num, by omega, HO2, Lib.hid (HP.out ▸ HX.out), HW2⟩
          case measure => simp [intOf]; omega
    · have hkn : k = s.size := by omega
      subst hkn
      have HA := Lib.hid (hd.out.all (show l.length ≤ s.size by rw [HSZ.out]; exact Nat.le_refl _))
      obtain ⟨Av, cv, rfl, _⟩ := own_form ho.out
      have HCV := Lib.hid (run_own_string (P := Try.prog) ho.out Try.underlying90 Try.underlying5 Try.underlying9)
      go_wp2_with fail
      rw [HCV.out]
      go_wp2_with fail
      go_ret
      exact ⟨by rw [← HA.out]; rfl, hw.out⟩

end Go.Proofs.Ytmkgcmnimpkmjaa
