/- The laws' first call (frame). Own work. -/
import Derived.Test.YtncpjapfkcgjnaaDoorFrmTake
namespace Go.Proofs.YtncpjapfkcgjnaaDoor
set_option linter.unusedVariables false
set_option linter.unusedSimpArgs false
open Go.RowKit

theorem send_is {p : Nat} {key : ByteArray} {way sent t : Int} {s : Nat} (b d : ByteArray) (sent' e : Int) (w : World) (h : PortAt w p key way sent t s) (hw : way = 1 ∨ way = 2) (hr : Roots w) (hk : key.size ≤ 90000) (hs : 0 ≤ sent ∧ sent ≤ 4611686018427387904) (hb : b.size ≤ maxLen)
    (hx : layL key.data.toList way (sent + 1) b.data.toList = (d.data.toList, e)) (hn : sentN sent e = sent') :
    Calls Tryd.prog 13 #[.pointer (some ⟨p, 0, none⟩), .string b] w fun r w' => r = .returned (.tuple #[.string d, .int .i64 e]) ∧ PortAt w' p key way sent' t s ∧ Keep (· = p) w w' := by
  have h1 := send_any b w h hw hr hk hs hb
  rw [hx] at h1
  simp only [hn, mk_data] at h1
  exact h1

theorem ptake_is {p : Nat} {key : ByteArray} {way sent t : Int} {s : Nat} (b : ByteArray) (f : Frm) (er t' : Int) (s' : Nat) (w : World) (fresh : Int → Bool) (hfr : ∀ n, freshB t s n = fresh n) (h : PortAt w p key way sent t s) (hw : way = 1 ∨ way = 2) (hr : Roots w) (hk : key.size ≤ 90000) (hb : b.size ≤ 90000)
    (hs : s < 18446744073709551616) (h0 : 0 ≤ t) (h1 : t ≤ 4611686018427387904) (hx : takeL key.data.toList b.data.toList way fresh = (f, er)) (ht : tookT t (f, er) = t') (hs' : tookS t s (f, er) = s') : TakeTold w p key b f er key way sent t' s' := by
  have h1 := ptake_any b w fresh hfr h hw hr hk hb hs h0 h1
  rw [hx, ht, hs'] at h1
  exact h1

theorem take_laid (key : List UInt8) (way way2 seq : Int) (body : ByteArray) (fresh : Int → Bool) (hf : faultI way seq body.size = 0) (hne : way ≠ way2) (hfr : fresh seq = true) :
    takeL key (layL key way seq body.data.toList).1 way2 fresh = (⟨way, seq, body⟩, 0) := by
  unfold takeL
  rw [read_laid key way seq body hf, if_pos rfl, if_neg hne, if_pos hfr]

theorem take_again (key : List UInt8) (way way2 seq : Int) (body : ByteArray) (fresh : Int → Bool) (hf : faultI way seq body.size = 0) (hne : way ≠ way2) (hfr : fresh seq = false) :
    takeL key (layL key way seq body.data.toList).1 way2 fresh = (Frm.none, 6) := by
  unfold takeL
  rw [read_laid key way seq body hf, if_pos rfl, if_neg hne, if_neg (by simp [hfr])]

theorem layL_ok (key : List UInt8) (way seq : Int) (body : ByteArray) (hf : faultI way seq body.size = 0) : (layL key way seq body.data.toList).2 = 0 := by
  unfold layL
  rw [if_pos (by rw [← Lib.size_eq]; exact hf)]

theorem layL_len (key : List UInt8) (way seq : Int) (body : ByteArray) : (layL key way seq body.data.toList).1.length ≤ body.size + 25 := by
  unfold layL
  split
  · unfold sealedL
    rw [List.length_append, List.length_append, headL_len, tagL_len, ← Lib.size_eq]
    omega
  · simp

set_option maxRecDepth 100000 in
set_option maxHeartbeats 1600000 in
theorem alive_any (w : World) (hr : Roots w) : Calls Tryd.prog 6 #[] w fun e w' => e = .returned (.bool true) ∧ Below w.heap.size w w' := by
  have hr0 : 0 < w.heap.size := hr.1
  have hf : faultI 1 1 (⟨#[120]⟩ : ByteArray).size = 0 := by decide
  obtain ⟨D, hD⟩ : ∃ D : ByteArray, D = ⟨(layL (⟨#[107]⟩ : ByteArray).data.toList 1 1 (⟨#[120]⟩ : ByteArray).data.toList).1.toArray⟩ := ⟨_, rfl⟩
  have hDl : D.data.toList = (layL (⟨#[107]⟩ : ByteArray).data.toList 1 1 (⟨#[120]⟩ : ByteArray).data.toList).1 := by rw [hD]
  have hDs : D.size ≤ 90000 := by
    have := layL_len (⟨#[107]⟩ : ByteArray).data.toList 1 1 ⟨#[120]⟩
    rw [Lib.size_eq, hDl]
    exact Nat.le_trans this (by decide)
  have E1 : Hid (layL (⟨#[107]⟩ : ByteArray).data.toList 1 (0 + 1) (⟨#[120]⟩ : ByteArray).data.toList = (D.data.toList, 0)) := Lib.hid (Prod.ext hDl.symm (layL_ok _ 1 1 ⟨#[120]⟩ hf))
  have E2 : Hid (takeL (⟨#[107]⟩ : ByteArray).data.toList D.data.toList 2 (freshB 0 0) = (⟨1, 1, ⟨#[120]⟩⟩, 0)) := Lib.hid (by rw [hDl]; exact take_laid _ 1 2 1 ⟨#[120]⟩ _ hf (by decide) (by decide))
  have E3 : Hid (takeL (⟨#[107]⟩ : ByteArray).data.toList D.data.toList 2 (freshB 1 1) = (Frm.none, 6)) := Lib.hid (by rw [hDl]; exact take_again _ 1 2 1 ⟨#[120]⟩ _ hf (by decide) (by decide))
  have HR := Lib.hid hr
  clear hr hf hD hDl
  go_enter Tryd.func6, Tryd.ntmps6
  go_wp2_with fail
  refine (portnew_any ⟨#[107]⟩ 1 _ (by decide)).mono ?_
  rintro r w1 ⟨pa, rfl, ha, hpa, hb1⟩
  have HA := Lib.hid ha
  have B1 := Lib.hid hb1
  have hl1 := ha.lt
  clear ha hb1
  go_wp2_with fail
  refine (portnew_any ⟨#[107]⟩ 2 _ (by decide)).mono ?_
  rintro r w2 ⟨pb, rfl, hbp, hpb, hb2⟩
  have HA2 := Lib.hid (HA.out.below hb2)
  have HB := Lib.hid hbp
  have B2 := Lib.hid (B1.out.trans (hb2.mono B1.out.size))
  clear hbp hb2 HA B1
  go_wp2_with fail
  refine (send_is ⟨#[120]⟩ D 1 0 _ HA2.out (.inl rfl) (HR.out.below B2.out) (by decide) (by omega) (by decide) E1.out rfl).mono ?_
  rintro r w3 ⟨rfl, ha, hk⟩
  have HA3 := Lib.hid ha
  have HB3 := Lib.hid (HB.out.keep hk (by omega))
  have B3 := Lib.hid (B2.out.trans (hk.below B2.out.size (fun k hk2 e => by omega)))
  clear ha hk HA2 HB B2
  go_wp2_with fail
  refine (ptake_is D ⟨1, 1, ⟨#[120]⟩⟩ 0 1 1 _ (freshB 0 0) (fun _ => rfl) HB3.out (.inr rfl) (HR.out.below B3.out) (by decide) hDs (by decide) (by omega) (by omega) E2.out (by decide) (by decide)).mono ?_
  rintro r w4 ⟨rfl, hb, hk⟩
  have HA4 := Lib.hid ((HA3.out.keep hk (by omega)).alloc (.cells #[.int .i64 1, .int .i64 1, .string ⟨#[120]⟩] 28))
  have HB4 := Lib.hid (hb.alloc (.cells #[.int .i64 1, .int .i64 1, .string ⟨#[120]⟩] 28))
  have hb4 := B3.out.trans (hk.below B3.out.size (fun k hk2 e => by omega))
  have B4 := Lib.hid (hb4.alloc hb4.size (.cells #[.int .i64 1, .int .i64 1, .string ⟨#[120]⟩] 28))
  have Q4 := Lib.hid (three_new w4 (.int .i64 1) (.int .i64 1) (.string ⟨#[120]⟩) 28)
  have hl4 := Lib.hid hb.lt
  clear hb hk HA3 HB3 B3 hb4
  go_wp2_with fail
  refine (ptake_is D Frm.none 6 1 1 _ (freshB 1 1) (fun _ => rfl) HB4.out (.inr rfl) (HR.out.below B4.out) (by decide) hDs (by decide) (by omega) (by omega) E3.out (by decide) (by decide)).mono ?_
  rintro r w5 ⟨rfl, hb, hk⟩
  have HA5 := Lib.hid ((HA4.out.keep hk (by omega)).alloc (.cells #[.int .i64 0, .int .i64 0, .string ⟨#[]⟩] 28))
  have HB5 := Lib.hid (hb.alloc (.cells #[.int .i64 0, .int .i64 0, .string ⟨#[]⟩] 28))
  have hb5 := B4.out.trans (hk.below B4.out.size (fun k hk2 e => by omega))
  have B5 := Lib.hid (hb5.alloc hb5.size (.cells #[.int .i64 0, .int .i64 0, .string ⟨#[]⟩] 28))
  have hz4 : w4.heap.size < w5.heap.size := by have := hk.size; simp at this; omega
  obtain ⟨q0, q1, q2, _, _, _⟩ := Q4.out.keep hk (by have := hl4.out; omega)
  clear hb hk HA4 HB4 B4 hb5 Q4
  go_wp2_with (first | (go_at_call 17; refine (sent_any _ HA5.out).mono ?_; rintro r w6 ⟨rfl, rfl⟩) | (go_at_call 18; refine (top_any _ HB5.out).mono ?_; rintro r w7 ⟨rfl, rfl⟩))
  go_ret
  exact ⟨rfl, B5.out⟩

end Go.Proofs.YtncpjapfkcgjnaaDoor
