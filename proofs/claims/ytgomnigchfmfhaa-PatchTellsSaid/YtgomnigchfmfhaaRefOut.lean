/- The document's own Num and Text (pontoonref1), pontoonbook.Join. Own work. -/
import Derived.Test.YtgomnigchfmfhaaCodec
import Derived.Test.YtgomnigchfmfhaaBase
namespace Go.Proofs.Ytgomnigchfmfhaa
set_option linter.unusedVariables false
set_option linter.unusedSimpArgs false
open Go.RowKit

set_option maxRecDepth 100000 in
set_option maxHeartbeats 1600000 in
theorem refnum15_any (n : Nat) (w : World) (hn : n < 9223372036854775808) :
    Calls Try.prog 37 #[.int .i64 n] w fun e w' => e = .returned (.string ⟨(enc n).toArray⟩) ∧ Below w.heap.size w w' := by
  obtain ⟨i0, hi, hz0, hz1, hz2⟩ := info_parts byte_info
  have hn' : (n : Int) ≤ 9223372036854775807 := by omega
  have hlen := enc_le n hn
  go_enter Try.func37, Try.ntmps37
  go_wp2_with fail
  go_loopw [0, 3] (fun i v wr => ∃ (m : Nat) (k : List UInt8) (A1 : Option Addr) (c1 : Nat), i = .int .i64 m ∧ v = .slice A1 k.length c1 ∧ m < 9223372036854775808 ∧ Hid (wr.ownsRow w.heap.size 5 1 (.slice A1 k.length c1) k.length (Lib.byteCells k)) ∧ Hid (Below w.heap.size w wr) ∧ Hid (k ++ enc m = enc n))
    (fun i _ _ => (intOf i).toNat)
  case atStart => exact ⟨n, [], none, 0, rfl, rfl, hn, World.ownsRow_nil _ _ _ _, Below.refl _ _, rfl⟩
  case round =>
    obtain ⟨m, k, A1, cc, rfl, rfl, hm, H1, H2, H3⟩ := hrel
    have hkl : k.length ≤ 9 := by
      have := congrArg List.length H3.out
      simp only [List.length_append] at this
      omega
    by_cases hlt : m < 128
    · go_wp2_with (at_builtin; refine wpList_append_own_at _ rfl (.tmp 15) (.tmp 18) 46 rfl w.heap.size 5 i0 (.int .u8 0) 1 1 Try.underlying46 hi hz0 hz1 hz2 rfl (by decide) (.slice A1 k.length cc) k.length (Lib.byteCells k) rfl (H1.out.alloc _) ⟨wr.heap.size, 0, none⟩ 1 1 _ rfl rfl (cell_one_new _ _ _) ?c2 ?c3 ?c4 ?c5 ?_)
      case c2 => intro u hu; simp at hu; subst hu; rfl
      case c3 => unfold maxLen; omega
      case c4 => omega
      case c5 => have := H2.out.size; simp; omega
      · intro v' w1 hown' hgrow _ hat
        obtain ⟨A2, c2, rfl, _⟩ := own_form hown'
        have hx := toNat_ofNat (n := m) (by omega)
        have hB : Below w.heap.size w w1 := (H2.out.alloc H2.out.size _).grown hgrow (by have := H2.out.size; simp; omega) (fun j hj => (H1.out.lt j hj).1)
        have hl1 : k.length + 1 = (k ++ [UInt8.ofNat m]).length := by simp
        have hown2 : w1.ownsRow w.heap.size 5 1 (.slice A2 (k ++ [UInt8.ofNat m]).length c2) (k ++ [UInt8.ofNat m]).length (Lib.byteCells (k ++ [UInt8.ofNat m])) := by
          rw [Lib.byteCells_append, byteCells_one, hx, ← hl1]; exact hown'
        have hcv := run_own_string (P := Try.prog) (t := 46) (u := 9) hown2 Try.underlying46 Try.underlying5 Try.underlying9
        rw [← hl1] at hcv
        have HB := Lib.hid hB
        have hfin := H3.out
        rw [enc_small hlt] at hfin
        rw [hfin] at hcv
        clear hown' hgrow hat hown2 hl1 hx hB hfin
        go_wp2_with fail
        go_ret
        exact ⟨rfl, HB.out⟩
    · go_wp2_with (at_builtin; refine wpList_append_own_at _ rfl (.tmp 6) (.tmp 11) 46 rfl w.heap.size 5 i0 (.int .u8 0) 1 1 Try.underlying46 hi hz0 hz1 hz2 rfl (by decide) (.slice A1 k.length cc) k.length (Lib.byteCells k) rfl (H1.out.alloc _) ⟨wr.heap.size, 0, none⟩ 1 1 _ rfl rfl (cell_one_new _ _ _) ?d2 ?d3 ?d4 ?d5 ?_)
      case d2 => intro u hu; simp at hu; subst hu; rfl
      case d3 => unfold maxLen; omega
      case d4 => omega
      case d5 => have := H2.out.size; simp; omega
      · intro v' w1 hown' hgrow _ hat
        obtain ⟨A2, c2, rfl, _⟩ := own_form hown'
        have hx := toNat_ofNat (n := m % 128 + 128) (by omega)
        have hB : Below w.heap.size w w1 := (H2.out.alloc H2.out.size _).grown hgrow (by have := H2.out.size; simp; omega) (fun j hj => (H1.out.lt j hj).1)
        have hl1 : k.length + 1 = (k ++ [UInt8.ofNat (m % 128 + 128)]).length := by simp
        have hown2 : Hid (w1.ownsRow w.heap.size 5 1 (.slice A2 (k ++ [UInt8.ofNat (m % 128 + 128)]).length c2) (k ++ [UInt8.ofNat (m % 128 + 128)]).length (Lib.byteCells (k ++ [UInt8.ofNat (m % 128 + 128)]))) := by
          show World.ownsRow _ _ _ _ _ _ _
          rw [Lib.byteCells_append, byteCells_one, hx, ← hl1]
          exact hown'
        have HB := Lib.hid hB
        clear hown' hgrow hat hl1 hx hB
        go_wp2_with fail
        go_roundw
        case rel =>
          have hfin := H3.out
          rw [enc_big (by omega)] at hfin
          exact ⟨m / 128, _, A2, c2, by go_num, by simp, by omega, hown2, HB, by show _ = _; rw [← hfin]; simp⟩
        case measure => simp [intOf]; omega

end Go.Proofs.Ytgomnigchfmfhaa
