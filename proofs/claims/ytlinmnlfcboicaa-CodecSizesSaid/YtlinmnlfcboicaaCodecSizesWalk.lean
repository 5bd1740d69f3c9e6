/- Law CodecSizes: the walk. Own work. -/
import Derived.Test.YtlinmnlfcboicaaAlive
import Derived.Test.YtlinmnlfcboicaaBytes
namespace Go.Proofs.Ytlinmnlfcboicaa
set_option linter.unusedVariables false
open Go.RowKit

/-- How many bytes are still to be counted. -/
def lv (v : Nat) : Nat := if v = 0 then 0 else (enc v).length
theorem lv_step {v : Nat} (h : 0 < v) : lv v = lv (v / 128) + 1 := by
  unfold lv
  rw [if_neg (by omega)]
  by_cases h1 : v < 128
  · rw [enc_small h1, if_pos (by omega)]; rfl
  · rw [enc_big (by omega), if_neg (by omega), List.length_cons]
theorem lv_start (n : Nat) : lv (n / 128) + 1 = (enc n).length := by
  by_cases h : n = 0
  · subst h; rw [enc_small (by omega)]; rfl
  · have := lv_step (v := n) (by omega)
    rw [← this, lv, if_neg h]

/-- All bytes of a number go on, but for the last one. -/
theorem enc_parts (n : Nat) : ∃ l b, enc n = l ++ [b] ∧ (∀ x ∈ l, 128 ≤ x.toNat) ∧ b.toNat < 128 := by
  induction n using Nat.strongRecOn with
  | _ n ih =>
    by_cases h : n < 128
    · exact ⟨[], UInt8.ofNat n, by rw [enc_small h]; rfl, by simp, by rw [toNat_ofNat (by omega)]; exact h⟩
    · obtain ⟨l, b, h1, h2, h3⟩ := ih (n / 128) (by omega)
      refine ⟨UInt8.ofNat (n % 128 + 128) :: l, b, by rw [enc_big (by omega), h1]; rfl, fun x hx => ?_, h3⟩
      rcases List.mem_cons.1 hx with e | e
      · rw [e, toNat_ofNat (by omega)]; omega
      · exact h2 x e

theorem numS_more (l : List UInt8) (hl : 0 < l.length) (h : ∀ b ∈ l, 128 ≤ b.toNat) : numS ⟨(l ++ [0]).toArray⟩ 0 = (0, .empty, 3) := by
  unfold numS
  rw [if_pos rfl]
  have hd := dec_more l 0 0 (by omega) h (by omega)
  simp only [hd]
  rfl

theorem u8_or128 {b : UInt8} (h : b.toNat < 128) : bits BinOp.or IntKind.u8 (b.toNat : Int) 128 = ((UInt8.ofNat (b.toNat + 128)).toNat : Int) := by
  have h1 := u8_or_nat b.toNat 128 (by omega) (by omega)
  have h2 := nat_join 7 128 b.toNat (by decide) (by omega)
  rw [Nat.or_comm, h2] at h1
  rw [toNat_ofNat (by omega), Nat.add_comm]
  exact h1

theorem set_last (l : List UInt8) (b c : UInt8) : (Lib.byteCells (l ++ [b])).set l.length (.int .u8 c.toNat) = Lib.byteCells (l ++ [c]) := by
  simp [Lib.byteCells]

set_option maxRecDepth 100000 in
set_option maxHeartbeats 3200000 in
theorem sizes_good (n : Nat) (m : Nat) (hn : n < 9223372036854775808) (h1 : 1 ≤ m) (h6 : m ≤ 6) (w : World) :
    Calls Try.prog 8 #[.int .i64 n, .int .i64 m] w fun e w' => e = .returned (.bool true) ∧ Below w.heap.size w w' := by
  have hn0 : (n : Int) ≤ 9223372036854775807 := by omega
  have ln := enc_le n hn
  obtain ⟨i0, hi, hz0, hz1, hz2⟩ := info_parts byte_info
  obtain ⟨l, b, hlb, hlx, hbx⟩ := enc_parts n
  rw [hlb, List.length_append, List.length_singleton] at ln
  have HLB := Lib.hid hlb
  have HLX := Lib.hid hlx
  have hor := u8_or128 hbx
  clear hlb hlx
  go_enter Try.func8, Try.ntmps8
  go_wp2_with fail
  refine (alive_any _).mono ?_
  rintro r w1 ⟨rfl, hb⟩
  have H1 := Lib.hid (OutIs.new hb)
  clear hb
  go_wp2_with fail
  refine (isNum H1.out [(n : Int)] (by simp) rfl (by simp; omega) (by simp)).mono ?_
  rintro r w2 ⟨rfl, h2⟩
  rw [numsO_one, List.nil_append, HLB.out] at h2
  have H2 := Lib.hid h2
  clear h2 H1
  go_wp2_with fail
  refine (isEnd H2.out).mono ?_
  rintro r w3 ⟨rfl, nq, rfl⟩
  have H3 := Lib.hid (H2.out.drewN nq).below
  clear H2
  obtain ⟨cap, V, hconv, hrow, hbel⟩ := run_bytes_row (P := Try.prog) (w2.drewN nq) 9 26 5 ⟨(l ++ [b]).toArray⟩ Try.underlying9 Try.underlying26 Try.underlying5 (by rw [size_mk, List.length_append]; unfold maxLen; simp; omega)
  have hsl : (⟨(l ++ [b]).toArray⟩ : ByteArray).size = l.length + 1 := by rw [size_mk]; simp
  rw [hsl] at hconv hrow
  have hge : w.heap.size ≤ w2.heap.size := H3.out.size
  have HB := Lib.hid (H3.out.trans (hbel.mono H3.out.size))
  have HR := Lib.hid hrow
  have hc0 : V.cell? ⟨w2.heap.size, l.length, none⟩ = some (.int .u8 b.toNat) := by
    have h4 := hrow.val l.length (.int .u8 b.toNat) (by simp [Lib.byteCells])
    rw [Nat.zero_add] at h4
    exact h4
  have hf0 : V.frozen? ⟨w2.heap.size, l.length, none⟩ = false := by
    have h4 := (hrow.can l.length (by have := hrow.le; omega)).2
    rw [Nat.zero_add] at h4
    exact h4
  clear hrow hbel hsl
  go_wp2_with fail
  go_loop [8, 9] (fun c v => ∃ k u : Nat, c = .int .i64 k ∧ v = .int .i64 u ∧ k ≤ 9 ∧ u < 9223372036854775808 ∧ Hid (lv u + k = l.length + 1)) (fun _ v => (intOf v).toNat)
  case atStart =>
    refine ⟨1, n / 128, rfl, by go_num, by omega, by omega, ?_⟩
    show _ = _
    have h4 := lv_start n
    rw [HLB.out, List.length_append] at h4
    simpa using h4
  case round =>
    obtain ⟨k, u, rfl, rfl, hk9, hu, hlv⟩ := hrel
    by_cases hpos : 0 < u
    · go_wp2
      go_round
      case rel =>
        have h3 := hlv.out
        rw [lv_step hpos] at h3
        have : lv (u / 128) + (k + 1) = l.length + 1 := by omega
        exact ⟨k + 1, u / 128, by go_num, by go_num, by omega, by omega, this⟩
      case measure => simp [intOf]; omega
    · obtain rfl : k = l.length + 1 := by
        have h3 := hlv.out
        have h4 : u = 0 := by omega
        rw [h4] at h3
        rw [← h3]
        simp [lv]
      clear hlv hk9
      go_wp2_with fail
      go_loopw [10, 11] (fun v i wr => ∃ (k g off cap : Nat) (ys : List UInt8), i = .int .i64 k ∧ 1 ≤ k ∧ k ≤ m ∧ v = .slice (some ⟨g, off, none⟩) ys.length cap ∧ ys.length + 6 ≤ 20 + k ∧ 0 < ys.length ∧ Hid (Row wr g off ys.length cap (Lib.byteCells ys)) ∧ Hid (∀ x ∈ ys, 128 ≤ x.toNat) ∧ Hid (Below w.heap.size w wr) ∧ w.heap.size ≤ g)
        (fun _ i _ => m - (intOf i).toNat)
      case atStart =>
        refine ⟨1, w2.heap.size, 0, cap, l ++ [UInt8.ofNat (b.toNat + 128)], rfl, by omega, h1, by simp, by simp; omega, by simp, ?_, ?_, ?_, hge⟩
        · show Row _ _ _ _ _ _
          have h4 := HR.out.set l.length (by omega) (.int .u8 (UInt8.ofNat (b.toNat + 128)).toNat)
          rw [set_last, Nat.zero_add] at h4
          rw [List.length_append]
          exact h4
        · intro x hx
          rcases List.mem_append.1 hx with e | e
          · exact HLX.out x e
          · rw [List.mem_singleton.1 e, toNat_ofNat (by omega)]; omega
        · exact HB.out.setCell (p := ⟨w2.heap.size, l.length, none⟩) hge _
      case round =>
        obtain ⟨k, g, off, cap2, ys, rfl, hk1, hkm, rfl, hyl, hyp, R1, R2, R3, hg⟩ := hrel
        by_cases hlt : k < m
        · go_wp2_with (at_builtin; refine wpList_append_row _ rfl (.tmp 69) (.tmp 70) 26 rfl 5 i0 (.int .u8 0) 1 Try.underlying26 hi hz0 hz1 hz2 rfl rfl (R1.out.alloc _) ⟨wr.heap.size, 0, none⟩ 1 1 [.int .u8 128] rfl rfl (cell_one_new _ _ _) ?c1 ?c2 ?c3 ?_)
          case c1 => intro u hu; simp at hu; subst hu; rfl
          case c2 => unfold maxLen; omega
          case c3 => omega
          · intro g2 off2 cap3 W2 hr2 hk2 hg2
            have Q1 : Hid (Row W2 g2 off2 (ys ++ [128]).length cap3 (Lib.byteCells (ys ++ [128]))) := by
              show Row _ _ _ _ _ _
              rw [List.length_append, Lib.byteCells_append]
              exact hr2
            have Q2 : Hid (Below w.heap.size w W2) := (R3.out.alloc R3.out.size _).trans (hk2.below (by have := R3.out.size; simp; omega) (fun j hj e => by omega))
            have Q3 : w.heap.size ≤ g2 := by
              rcases hg2 with e | e
              · omega
              · have := R3.out.size; omega
            clear hr2 hk2 hg2
            go_wp2_with fail
            go_roundw
            case rel =>
              refine ⟨k + 1, g2, off2, cap3, ys ++ [128], by go_num, by omega, by omega, by simp, by simp; omega, by simp, Q1, ?_, Q2, Q3⟩
              intro x hx
              rcases List.mem_append.1 hx with e | e
              · exact R2.out x e
              · rw [List.mem_singleton.1 e]; decide
            case measure => simp [intOf]; omega
        · go_wp2_with (at_builtin; refine wpList_append_row _ rfl (.tmp 72) (.tmp 73) 26 rfl 5 i0 (.int .u8 0) 1 Try.underlying26 hi hz0 hz1 hz2 rfl rfl (R1.out.alloc _) ⟨wr.heap.size, 0, none⟩ 1 1 [.int .u8 0] rfl rfl (cell_one_new _ _ _) ?d1 ?d2 ?d3 ?_)
          case d1 => intro u hu; simp at hu; subst hu; rfl
          case d2 => unfold maxLen; omega
          case d3 => omega
          · intro g2 off2 cap3 W2 hr2 hk2 hg2
            have Q2 : Hid (Below w.heap.size w W2) := (R3.out.alloc R3.out.size _).trans (hk2.below (by have := R3.out.size; simp; omega) (fun j hj e => by omega))
            have hcv := run_row_string (P := Try.prog) 26 9 5 (l := ys ++ [0]) (by rw [Lib.byteCells_append]; exact hr2) Try.underlying26 Try.underlying5 Try.underlying9
            clear hr2 hk2 hg2
            go_wp2_with fail
            refine (inOn Q2.out _).mono ?_
            rintro r w7 ⟨rfl, h2⟩
            have k1 := inNum h2 (by rw [size_mk]; simp; omega)
            rw [numS_more ys hyp R2.out] at k1
            have K1 := Lib.hid k1
            clear k1 h2 hcv
            go_wp2_with fail
            refine K1.out.mono ?_
            rintro r w8 ⟨rfl, h2⟩
            have K2 := Lib.hid (inEnd h2 (by decide))
            clear h2 K1
            go_wp2_with fail
            refine K2.out.mono ?_
            rintro r w9 ⟨rfl, h2⟩
            have H9 := Lib.hid h2.2.1
            clear h2 K2
            go_wp2_with fail
            go_ret
            exact ⟨rfl, H9.out⟩

set_option maxRecDepth 100000 in
set_option maxHeartbeats 1600000 in
theorem walk_CodecSizes (a0 : Int) (w0 : (Lit.int .i64 a0).wf = true) (a1 : Int) (w1 : (Lit.int .i64 a1).wf = true) (w : World) :
    Calls Try.prog 8 #[.int .i64 a0, .int .i64 a1] w fun e w' => e = .returned (.bool true) ∧ Below w.heap.size w w' := by
  have b0 : -9223372036854775808 ≤ a0 ∧ a0 ≤ 9223372036854775807 := by simpa [Lit.wf, IntKind.min, IntKind.max, IntKind.signed, IntKind.bits] using w0
  have b1 : -9223372036854775808 ≤ a1 ∧ a1 ≤ 9223372036854775807 := by simpa [Lit.wf, IntKind.min, IntKind.max, IntKind.signed, IntKind.bits] using w1
  obtain ⟨b0, b0'⟩ := b0
  obtain ⟨b1, b1'⟩ := b1
  clear w0 w1
  by_cases hgood : 0 ≤ a0 ∧ 1 ≤ a1 ∧ a1 ≤ 6
  · obtain ⟨g1, g2, g3⟩ := hgood
    obtain ⟨m, rfl⟩ := Int.eq_ofNat_of_zero_le g1
    obtain ⟨n, rfl⟩ := Int.eq_ofNat_of_zero_le (show 0 ≤ a1 from by omega)
    exact sizes_good m n (by omega) (by omega) (by omega) w
  · have hcase : a0 < 0 ∨ (0 ≤ a0 ∧ a1 < 1) ∨ (0 ≤ a0 ∧ 1 ≤ a1 ∧ 6 < a1) := by omega
    clear hgood
    rcases hcase with h | ⟨h, h2⟩ | ⟨h, h2, h3⟩
    all_goals
      go_enter Try.func8, Try.ntmps8
      go_wp2_with fail
      refine (alive_any _).mono ?_
      rintro r w1 ⟨rfl, hb⟩
      go_wp2_with fail
      go_ret
      exact ⟨rfl, hb⟩

end Go.Proofs.Ytlinmnlfcboicaa
