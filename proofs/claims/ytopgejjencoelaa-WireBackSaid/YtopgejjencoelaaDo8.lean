/- nvt.Reader.do: a Sub's end; whatever act. Own work. -/
import Derived.Test.YtopgejjencoelaaDo
namespace Go.Proofs.Ytopgejjencoelaa
set_option linter.unusedVariables false
set_option linter.unusedSimpArgs false
open Go.RowKit

section
variable {p q base : Nat} {bin made : Bool} {r : Rd} {a : An} {A : Option Addr} {c : Nat} {v : Value} {B : Option Addr} {d : Nat} {w : World}

set_option maxRecDepth 100000 in
set_option maxHeartbeats 1600000 in
theorem do_8_long (b : UInt8) (h : PairIn w p q base bin made r a A c v B d) (hlong : r.long = true) : DoTold p q base bin made r a A v B w 8 b := by
  have c2 := h.1.c2.1
  have f2 := h.1.c2.2
  have c3 := h.1.c3.1
  have f3 := h.1.c3.2
  have c4 := h.1.c4.1
  have f4 := h.1.c4.2
  have c5 := h.1.c5.1
  have f5 := h.1.c5.2
  rw [hlong] at c5
  have hn := h.1.anew 0
  have H1 := Lib.hid (PairTo.rd (Step.refl _ _) h hn.1 hn.2)
  have HG := Lib.hid (show doA 8 b r a = a by simp [doA, hlong])
  clear h hn hlong
  unfold DoTold
  rw [HG.out]
  go_enter Try.func47, Try.ntmps47
  go_wp2_with fail
  go_end0
  exact ⟨rfl, H1.out⟩

set_option maxRecDepth 100000 in
set_option maxHeartbeats 1600000 in
theorem do_8_told (b : UInt8) (h : PairIn w p q base bin made r a A c v B d) (hl : a.bytes.length ≤ 1099511627776) (ht : a.told.length + 1 ≤ 1099511627776) (hb : base ≤ w.heap.size) (hlong : r.long = false) : DoTold p q base bin made r a A v B w 8 b := by
  have c3 := h.1.c3.1
  have c4 := h.1.c4.1
  have c5 := h.1.c5.1
  rw [hlong] at c5
  obtain ⟨T, hT⟩ : ∃ T : ByteArray, T = ⟨r.text.toArray⟩ := ⟨_, rfl⟩
  have hcv : (convert 58 9 (.slice A r.text.length c)).run Try.prog w.drew = .ok (.string T) w.drew := by
    have := run_buf_string (P := Try.prog) 58 9 5 h.1.buf.drew Try.underlying58 Try.underlying5 Try.underlying9 r.text.length (Nat.le_refl _)
    rw [List.take_of_length_le (Nat.le_refl _), ← hT] at this
    exact this
  have HG := Lib.hid (show doA 8 b r a = tellA a ⟨3, 0, r.opt, T.data.toList⟩ by simp [doA, hlong, hT])
  have H := Lib.hid h
  have HB := Lib.hid hb
  have HL := Lib.hid hl
  have HT := Lib.hid ht
  clear h hl ht hb hlong hT
  unfold DoTold
  rw [HG.out]
  go_enter Try.func47, Try.ntmps47
  go_wp2_with fail
  go_region_law (first | (go_simp; go_at_call 59; refine (tell_any q base a v B d 3 0 r.opt T _ (H.out.2.1.drewN 1) HL.out HT.out HB.out).mono ?_; rintro e w2 ⟨rfl, v1, B1, d1, h1, s1⟩) | fail)
  all_goals
    have K1 := Lib.hid (H.out.an h1 (((Step.refl (anOwn q v B) w).drewN 1).trans s1))
    have d2 := K1.out.1.1.c2.1
    have e2 := K1.out.1.1.c2.2
    have d3 := K1.out.1.1.c3.1
    have e3 := K1.out.1.1.c3.2
    have d4 := K1.out.1.1.c4.1
    have e4 := K1.out.1.1.c4.2
    have d5 := K1.out.1.1.c5.1
    have e5 := K1.out.1.1.c5.2
    have HH := Lib.hid (PairTo.rd K1.out.2 K1.out.1 (K1.out.1.1.anew 0).1 (K1.out.1.1.anew 0).2)
    clear h1 s1 c3 c4 c5 hcv
    go_wp2_with fail
    go_end0
    exact ⟨rfl, HH.out⟩

theorem do_any (n : Nat) (hn : n < 9) (b : UInt8) (h : PairIn w p q base bin made r a A c v B d) (hl : a.bytes.length ≤ 1099511627776) (ht : a.told.length + 1 ≤ 1099511627776) (hb : base ≤ w.heap.size) : DoTold p q base bin made r a A v B w n b := by
  match n, hn with
  | 0, _ => exact do_0 b h
  | 1, _ => exact do_1 b h hl
  | 2, _ => exact do_2 b h hl ht hb
  | 3, _ => exact do_3 b h
  | 4, _ => exact do_4 b h hl ht hb
  | 5, _ => exact do_5 b h
  | 6, _ => exact do_6 b h
  | 7, _ => exact do_7 b h
  | 8, _ =>
    cases hlong : r.long
    · exact do_8_told b h hl ht hb hlong
    · exact do_8_long b h hlong
  | n + 9, hn => omega
end

end Go.Proofs.Ytopgejjencoelaa
