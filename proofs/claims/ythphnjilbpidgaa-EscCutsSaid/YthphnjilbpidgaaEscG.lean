/- esc's begun: keep. Own work. -/
import Derived.Test.YthphnjilbpidgaaEscK
namespace Go.Proofs.Ythphnjilbpidgaa
set_option linter.unusedVariables false
set_option linter.unusedSimpArgs false
open Go.RowKit

/-- What is begun, at p, q. -/
structure BegC (w : World) (p q : Nat) (b : BP) : Prop where
  m : Cell w p q (.int .i64 (b.mark : Int))
  i : Cell w p (q + 1) (.string (bytesN b.inter))
  n : NumAt w p (q + 2) b.nums b.came
  t : Cell w p (q + 11) (.string (bytesN b.text))
namespace BegC
variable {w w' : World} {p q : Nat} {b b' : BP}
theorem lt (h : BegC w p q b) : p < w.heap.size := h.m.lt
theorem keep {S : Nat → Prop} (h : BegC w p q b) (k : Keep S w w') (hn : ¬ S p) : BegC w' p q b := ⟨h.m.keep k hn, h.i.keep k hn, h.n.keep k hn, h.t.keep k hn⟩
theorem drew (h : BegC w p q b) : BegC w.drew p q b := ⟨h.m, h.i, h.n.drew, h.t⟩
theorem span {lo hi : Nat} (h : BegC w p q b) (k : SpanP p lo hi w w') (hq : q + 12 ≤ lo ∨ hi ≤ q) : BegC w' p q b :=
  ⟨k.cell h.m (by omega), k.cell h.i (by omega), h.n.span k (by omega), k.cell h.t (by omega)⟩
theorem of_eq (h : BegC w p q b) (h1 : b'.mark = b.mark) (h2 : b'.inter = b.inter) (h3 : b'.nums = b.nums) (h4 : b'.came = b.came) (h5 : b'.text = b.text) : BegC w p q b' :=
  ⟨by rw [h1]; exact h.m, by rw [h2]; exact h.i, by rw [h3, h4]; exact h.n, by rw [h5]; exact h.t⟩
end BegC

theorem span_below {p lo hi : Nat} {w w1 : World} (hp : p < w.heap.size) (k : Below w.heap.size w w1) : SpanP p lo hi w w1 := (SpanP.refl p lo hi w).below hp k

set_option maxHeartbeats 1600000 in
theorem esc_keep (p q : Nat) (b : BP) (d c : Nat) (w : World) (h : BegC w p q b) (hi : b.inter.length ≤ 100) (ht : b.text.length ≤ 100) (hc : c < 256) (hn : b.came < 1000000000) (hd : d = 9 → 48 ≤ c ∧ c ≤ 57) :
    Calls Try.prog 46 #[.pointer (some ⟨p, q, none⟩), .int .u8 (d : Int), .int .i64 (c : Int)] w fun e w' => e = .returned (.tuple #[]) ∧ BegC w' p q (keepE b d c) ∧ SpanP p q (q + 12) w w' := by
  by_cases h7 : d = 7
  · subst h7
    have f0 := h.m.2
    have c0 := h.m.1
    have fin : Hid (BegC (w.setCell ⟨p, q, none⟩ (.int .i64 (c : Int))) p q { b with mark := c } ∧ SpanP p q (q + 12) w (w.setCell ⟨p, q, none⟩ (.int .i64 (c : Int)))) := Lib.hid (by
      have k := (SpanP.refl p q (q + 1) w).set q (by omega) (by omega) (.int .i64 (c : Int))
      exact ⟨⟨h.m.set _, k.cell h.i (by omega), h.n.span k (by omega), k.cell h.t (by omega)⟩, k.mono (by omega) (by omega)⟩)
    clear h
    go_enter Try.func46, Try.ntmps46
    go_wp2_with fail
    go_end0
    exact ⟨rfl, fin.out⟩
  by_cases h8 : d = 8
  · subst h8
    have f0 := h.i.2
    have c0 := h.i.1
    have hpl := h.lt
    obtain ⟨I, hI⟩ : ∃ I, bytesN b.inter = I := ⟨_, rfl⟩
    obtain ⟨S, hS⟩ : ∃ S, bytesN [c] = S := ⟨_, rfl⟩
    have hIs : I.size ≤ 100 := by rw [← hI, bytesN_size]; exact hi
    have hSs : S.size = 1 := by rw [← hS, bytesN_size]; rfl
    have hIS : I.size + S.size ≤ 9223372036854775807 := by omega
    have hcat : ∀ W : World, (Op.stringOp .add I S).run Try.prog W = .ok (.string (I ++ S)) W := fun W => run_string_add_sum W I S hIS
    have hIS1 : I.size + 1 ≤ 9223372036854775807 := by omega
    clear hSs
    have HT := Lib.hid (fun W => hS ▸ esc_textOf c W hc)
    have HE : Hid (bytesN (b.inter ++ [c]) = I ++ S) := Lib.hid (by rw [bytesN_add, hI, hS])
    have H := Lib.hid h
    rw [hI] at c0
    have e : keepE b 8 c = { b with inter := b.inter ++ [c] } := rfl
    rw [e]
    clear h hI hS e hi
    go_enter Try.func46, Try.ntmps46
    go_wp2_with fail
    go_region_law (first | (go_simp; go_at_call 44; refine (HT.out _).mono ?_; rintro e w1 ⟨rfl, hb⟩; have B1 : Hid (Below w.heap.size w w1) := Lib.hid ⟨hb.os, hb.tape, hb.output, hb.size, hb.block⟩; have g0 := (B1.out.cell (p := ⟨p, q + 1, none⟩) hpl).trans c0; have gf := (B1.out.frozen (p := ⟨p, q + 1, none⟩) hpl).trans f0; clear hb) | fail)
    all_goals
      have fin : Hid (BegC (w1.setCell ⟨p, q + 1, none⟩ (.string (I ++ S))) p q { b with inter := b.inter ++ [c] } ∧ SpanP p q (q + 12) w (w1.setCell ⟨p, q + 1, none⟩ (.string (I ++ S)))) := Lib.hid (by
        have k1 := span_below (lo := q + 1) (hi := q + 2) hpl B1.out
        have k := k1.set (q + 1) (by omega) (by omega) (.string (I ++ S))
        refine ⟨⟨k.cell H.out.m (by omega), ?_, H.out.n.span k (by omega), k.cell H.out.t (by omega)⟩, k.mono (by omega) (by omega)⟩
        show Cell _ _ _ (.string (bytesN (b.inter ++ [c])))
        rw [HE.out]
        exact (H.out.i.keep (Keep.of_below (fun _ => False) B1.out) (fun x => x)).set _)
      go_wp2_with fail
      go_end0
      first | exact ⟨rfl, fin.out⟩ | exact ⟨rfl, fin.out.1.drew, fin.out.2.drew⟩
  by_cases h9 : d = 9
  · subst h9
    obtain ⟨x, hx⟩ : ∃ x : Nat, c = 48 + x := ⟨c - 48, by have := hd rfl; omega⟩
    have hx9 : x ≤ 9 := by have := hd rfl; omega
    subst hx
    have H := Lib.hid h
    have HN := Lib.hid (num_digit p (q + 2) b.nums b.came x w h.n (by omega) hx9)
    have hs : IntKind.i64.wrap (((48 + x : Nat) : Int) - 48) = (x : Int) := by rw [IntWalk.i64_in _ (by omega)]; omega
    have hs2 : ((48 + x : Nat) : Int) - 48 = (x : Int) := by omega
    have e : keepE b 9 (48 + x) = { b with nums := (digitN b.nums b.came x).1, came := (digitN b.nums b.came x).2 } := by
      unfold keepE
      rw [if_neg (by decide), if_neg (by decide), if_pos rfl, show 48 + x - 48 = x by omega]
    rw [e]
    obtain ⟨y, hy⟩ : ∃ y : Int, ((48 + x : Nat) : Int) = y := ⟨_, rfl⟩
    rw [hy] at hs hs2 ⊢
    clear h e hy
    go_enter Try.func46, Try.ntmps46
    go_wp2_with fail
    refine HN.out.mono ?_
    rintro e w1 ⟨rfl, h1, h2⟩
    have H1 := Lib.hid h1
    have H2 := Lib.hid h2
    clear h1 h2
    go_wp2_with fail
    go_end0
    exact ⟨rfl, ⟨H2.out.cell H.out.m (by omega), H2.out.cell H.out.i (by omega), H1.out, H2.out.cell H.out.t (by omega)⟩, H2.out.mono (by omega) (by omega)⟩
  by_cases h10 : d = 10
  · subst h10
    have H := Lib.hid h
    have HN := Lib.hid (num_next p (q + 2) b.nums b.came w h.n hn)
    have e : keepE b 10 c = { b with nums := (nextN b.nums b.came).1, came := (nextN b.nums b.came).2 } := rfl
    rw [e]
    clear h e
    go_enter Try.func46, Try.ntmps46
    go_wp2_with fail
    refine HN.out.mono ?_
    rintro e w1 ⟨rfl, h1, h2⟩
    have H1 := Lib.hid h1
    have H2 := Lib.hid h2
    clear h1 h2
    go_wp2_with fail
    go_end0
    exact ⟨rfl, ⟨H2.out.cell H.out.m (by omega), H2.out.cell H.out.i (by omega), H1.out, H2.out.cell H.out.t (by omega)⟩, H2.out.mono (by omega) (by omega)⟩
  by_cases h11 : d = 11
  · subst h11
    have f0 := h.t.2
    have c0 := h.t.1
    have hpl := h.lt
    obtain ⟨I, hI⟩ : ∃ I, bytesN b.text = I := ⟨_, rfl⟩
    have hIs : I.size = b.text.length := by rw [← hI, bytesN_size]
    by_cases hl : b.text.length < 60
    · obtain ⟨S, hS⟩ : ∃ S, bytesN [c] = S := ⟨_, rfl⟩
      have hSs : S.size = 1 := by rw [← hS, bytesN_size]; rfl
      have hIS : I.size + S.size ≤ 9223372036854775807 := by omega
      have hcat : ∀ W : World, (Op.stringOp .add I S).run Try.prog W = .ok (.string (I ++ S)) W := fun W => run_string_add_sum W I S hIS
      have hIS1 : I.size + 1 ≤ 9223372036854775807 := by omega
      clear hSs
      have hI60 : (I.size : Int) < 60 := by omega
      clear hIs
      have HT := Lib.hid (fun W => hS ▸ esc_textOf c W hc)
      have HE : Hid (bytesN (b.text ++ [c]) = I ++ S) := Lib.hid (by rw [bytesN_add, hI, hS])
      have H := Lib.hid h
      rw [hI] at c0
      have e : keepE b 11 c = { b with text := b.text ++ [c] } := by unfold keepE; simp [hl]
      rw [e]
      clear h hI hS e hl ht
      go_enter Try.func46, Try.ntmps46
      go_wp2_with fail
      go_region_law (first | (go_simp; go_at_call 44; refine (HT.out _).mono ?_; rintro e w1 ⟨rfl, hb⟩; have B1 : Hid (Below w.heap.size w w1) := Lib.hid ⟨hb.os, hb.tape, hb.output, hb.size, hb.block⟩; have g0 := (B1.out.cell (p := ⟨p, q + 11, none⟩) hpl).trans c0; have gf := (B1.out.frozen (p := ⟨p, q + 11, none⟩) hpl).trans f0; clear hb) | fail)
      all_goals
        have fin : Hid (BegC (w1.setCell ⟨p, q + 11, none⟩ (.string (I ++ S))) p q { b with text := b.text ++ [c] } ∧ SpanP p q (q + 12) w (w1.setCell ⟨p, q + 11, none⟩ (.string (I ++ S)))) := Lib.hid (by
          have k1 := span_below (lo := q + 11) (hi := q + 12) hpl B1.out
          have k := k1.set (q + 11) (by omega) (by omega) (.string (I ++ S))
          refine ⟨⟨k.cell H.out.m (by omega), k.cell H.out.i (by omega), H.out.n.span k (by omega), ?_⟩, k.mono (by omega) (by omega)⟩
          show Cell _ _ _ (.string (bytesN (b.text ++ [c])))
          rw [HE.out]
          exact (H.out.t.keep (Keep.of_below (fun _ => False) B1.out) (fun x => x)).set _)
        go_wp2_with fail
        go_end0
        first | exact ⟨rfl, fin.out⟩ | exact ⟨rfl, fin.out.1.drew, fin.out.2.drew⟩
    · have hI60 : ¬ (I.size : Int) < 60 := by omega
      have H := Lib.hid h
      rw [hI] at c0
      have e : keepE b 11 c = b := by unfold keepE; simp [hl]
      rw [e]
      clear h hI e hl ht
      go_enter Try.func46, Try.ntmps46
      go_wp2_with fail
      go_end0
      exact ⟨rfl, H.out, SpanP.refl _ _ _ _⟩
  · have t7 : ((d : Int) == 7) = false := by simp; omega
    have t8 : ((d : Int) == 8) = false := by simp; omega
    have t9 : ((d : Int) == 9) = false := by simp; omega
    have t10 : ((d : Int) == 10) = false := by simp; omega
    have t11 : ((d : Int) == 11) = false := by simp; omega
    have H := Lib.hid h
    have e : keepE b d c = b := by unfold keepE; simp [h7, h8, h9, h10, h11]
    rw [e]
    clear h e h7 h8 h9 h10 h11 hd
    go_enter Try.func46, Try.ntmps46
    go_wp2_with fail
    go_end0
    exact ⟨rfl, H.out, SpanP.refl _ _ _ _⟩

end Go.Proofs.Ythphnjilbpidgaa
