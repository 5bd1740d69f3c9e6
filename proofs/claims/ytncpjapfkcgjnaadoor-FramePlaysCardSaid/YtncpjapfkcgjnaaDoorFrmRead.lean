/- frame.Read. Own work. -/
import Derived.Test.YtncpjapfkcgjnaaDoorFrmOpen
import Derived.Test.YtncpjapfkcgjnaaDoorFrmLay
namespace Go.Proofs.YtncpjapfkcgjnaaDoor
set_option linter.unusedVariables false
set_option linter.unusedSimpArgs false
open Go.RowKit

/-- Three cells that may be written. -/
structure Three (w : World) (p : Nat) (u v x : Value) : Prop where
  c0 : w.cell? ⟨p, 0, none⟩ = some u
  c1 : w.cell? ⟨p, 1, none⟩ = some v
  c2 : w.cell? ⟨p, 2, none⟩ = some x
  g0 : w.frozen? ⟨p, 0, none⟩ = false
  g1 : w.frozen? ⟨p, 1, none⟩ = false
  g2 : w.frozen? ⟨p, 2, none⟩ = false

theorem three_new (w : World) (u v x : Value) (T : TypeId) : Three (w.alloc (.cells #[u, v, x] T)) w.heap.size u v x := by
  have h0 := heap_alloc_new w (.cells #[u, v, x] T)
  exact ⟨cell_at h0 0, cell_at h0 1, cell_at h0 2, free_at h0 0, free_at h0 1, free_at h0 2⟩

theorem Three.lt {w : World} {p : Nat} {u v x : Value} (h : Three w p u v x) : p < w.heap.size := World.block_lt_of_cell? w _ h.c0

theorem Three.keep {S : Nat → Prop} {w w' : World} {p : Nat} {u v x : Value} (h : Three w p u v x) (k : Keep S w w') (hn : ¬ S p) : Three w' p u v x :=
  ⟨(k.cell (p := ⟨p, 0, none⟩) h.lt hn).trans h.c0, (k.cell (p := ⟨p, 1, none⟩) h.lt hn).trans h.c1, (k.cell (p := ⟨p, 2, none⟩) h.lt hn).trans h.c2,
    (k.frozen (p := ⟨p, 0, none⟩) h.lt hn).trans h.g0, (k.frozen (p := ⟨p, 1, none⟩) h.lt hn).trans h.g1, (k.frozen (p := ⟨p, 2, none⟩) h.lt hn).trans h.g2⟩

theorem Three.below {w w' : World} {p : Nat} {u v x : Value} (h : Three w p u v x) (k : Below w.heap.size w w') : Three w' p u v x := h.keep (Keep.of_below (fun _ => False) k) (fun x => x)
theorem Three.alloc {w : World} {p : Nat} {u v x : Value} (h : Three w p u v x) (o : Obj) : Three (w.alloc o) p u v x := h.keep (Keep.alloc (Keep.refl (fun _ => False) w) o) (fun x => x)

theorem Three.set {w : World} {p : Nat} {u v x : Value} (h : Three w p u v x) (a b c : Value) : Three (((w.setCell ⟨p, 0, none⟩ a).setCell ⟨p, 1, none⟩ b).setCell ⟨p, 2, none⟩ c) p a b c := by
  obtain ⟨c0, c1, c2, g0, g1, g2⟩ := h
  exact ⟨by simp [go_sem, c0, c1, c2], by simp [go_sem, c0, c1, c2], by simp [go_sem, c0, c1, c2], by simp [go_sem, g0, g1, g2], by simp [go_sem, g0, g1, g2], by simp [go_sem, g0, g1, g2]⟩

theorem below_three {B : Nat} {w w1 : World} {p : Nat} (h : Below B w w1) (hp : B ≤ p) (u v x : Value) : Below B w (((w1.setCell ⟨p, 0, none⟩ u).setCell ⟨p, 1, none⟩ v).setCell ⟨p, 2, none⟩ x) :=
  ((h.setCell hp _).setCell hp _).setCell hp _

theorem keeps_three {w0 w : World} (h : Below w0.heap.size w0 w) {a b c : Addr} {u v x : Value} (ha : w0.cell? a = some u ∧ w0.cell? b = some v ∧ w0.cell? c = some x) : w.cell? a = some u ∧ w.cell? b = some v ∧ w.cell? c = some x :=
  ⟨(h.cell (World.block_lt_of_cell? w0 _ ha.1)).trans ha.1, (h.cell (World.block_lt_of_cell? w0 _ ha.2.1)).trans ha.2.1, (h.cell (World.block_lt_of_cell? w0 _ ha.2.2)).trans ha.2.2⟩

theorem below_step {w0 w w' : World} (h : Below w0.heap.size w0 w) (k : Below w.heap.size w w') : Below w0.heap.size w0 w' := h.trans (k.mono h.size)

theorem fault_wrap (way : Int) (N n : Nat) (h : N < 18446744073709551616) : faultI way (wrap64 (N : Int)) n = 0 ↔ faultI way (N : Int) n = 0 := by
  rw [fault_ok, fault_ok]
  unfold wrap64
  constructor
  · rintro ⟨h1, h2, h3, h4⟩; exact ⟨h1, by omega, by omega, h4⟩
  · rintro ⟨h1, h2, h3, h4⟩; exact ⟨h1, by omega, by omega, h4⟩

theorem wrap64_range (x : Int) : -9223372036854775808 ≤ wrap64 x ∧ wrap64 x ≤ 9223372036854775807 := by unfold wrap64; omega

/-- A datagram's value. -/
def Frm.val (f : Frm) : Value := .agg #[.int .i64 f.way, .int .i64 f.seq, .string f.body]

theorem readL_bad {key b : List UInt8} {e : Int} (he : e ≠ 0) (h : (openL key b).2 = e) : readL key b = (Frm.none, e) := by
  subst h; unfold readL; rw [if_neg he]

theorem readL_good {key b : List UInt8} (h : (openL key b).2 = 0) : readL key b = textL (openL key b).1 := by
  unfold readL; rw [if_pos h]

set_option maxRecDepth 100000 in
set_option maxHeartbeats 1600000 in
theorem frmread_any (key b : ByteArray) (w : World) (hr : Roots w) (hk : key.size ≤ 90000) (hb : b.size ≤ 90000) :
    Calls Tryd.prog 10 #[.string key, .string b] w fun r w' => r = .returned (.tuple #[.agg #[.int .i64 (readL key.data.toList b.data.toList).1.way, .int .i64 (readL key.data.toList b.data.toList).1.seq, .string (readL key.data.toList b.data.toList).1.body], .int .i64 (readL key.data.toList b.data.toList).2]) ∧ Below w.heap.size w w' := by
  have hopen := open_any key b (w.alloc (.cells #[.int .i64 0, .int .i64 0, .string ⟨#[]⟩] 28)) (hr.keep (Keep.alloc (Keep.refl (fun _ => False) w) _) (fun x => x)) (by omega) (by omega)
  have hol := open_len key.data.toList b.data.toList
  rw [← Lib.size_eq] at hol
  obtain ⟨t, ht⟩ : ∃ t : ByteArray, t = ⟨(openL key.data.toList b.data.toList).1.toArray⟩ := ⟨_, rfl⟩
  have htl : t.data.toList = (openL key.data.toList b.data.toList).1 := by rw [ht]
  have hts : t.size ≤ b.size := by rw [ht, size_mk]; exact hol
  obtain ⟨e, he⟩ : ∃ e, e = (openL key.data.toList b.data.toList).2 := ⟨_, rfl⟩
  rw [← ht, ← he] at hopen
  have HO := Lib.hid hopen
  have T0 := Lib.hid (three_new w (.int .i64 0) (.int .i64 0) (.string ⟨#[]⟩) 28)
  have B0 := Lib.hid ((Below.refl w.heap.size w).alloc (Nat.le_refl _) (.cells #[.int .i64 0, .int .i64 0, .string ⟨#[]⟩] 28))
  clear hopen hol hr ht
  by_cases h0 : e = 0
  · subst h0
    rw [readL_good he.symm, ← htl]
    clear he htl
    by_cases h9 : 9 ≤ t.size
    · have hhd : t.data.toList.headD 0 = t.data.toList.headD 0 := rfl
      obtain ⟨A, hA⟩ : ∃ A : Int, A = ((t.data.toList.headD 0).toNat : Int) := ⟨_, rfl⟩
      obtain ⟨N, hN⟩ : ∃ N : Nat, N = numL ((t.data.toList.drop 1).take 8) := ⟨_, rfl⟩
      have hNl : N < 18446744073709551616 := by
        rw [hN]
        have h1 := numL_lt ((t.data.toList.drop 1).take 8)
        rw [show ((t.data.toList.drop 1).take 8).length = 8 from by rw [List.length_take, List.length_drop, ← Lib.size_eq]; omega] at h1
        exact h1
      have hop := fun W => opened_ok t W (by omega) h9
      rw [← hA, ← hN] at hop
      have HP := Lib.hid hop
      have hrz := restB_size t 9
      have htx : textL t.data.toList = if faultI A N (t.size - 9) = 0 then (⟨A, N, restB t 9⟩, 0) else (Frm.none, 3) := by
        unfold textL
        rw [if_neg (by rw [← Lib.size_eq]; omega), ← Lib.size_eq, ← hA, ← hN]
        rfl
      rw [htx]
      have hfw := fault_wrap A N (t.size - 9) hNl
      have hwr := wrap64_range (N : Int)
      by_cases hf : faultI A N (t.size - 9) = 0
      · rw [if_pos hf]
        have hNn : wrap64 (N : Int) = N := by
          have := fault_ok.1 hf
          unfold wrap64; omega
        rw [hNn] at hop
        have HP2 := Lib.hid hop
        rw [← hrz] at hf
        have HF := Lib.hid hf
        have hN2 : (N : Int) ≤ 4611686018427387904 := (fault_ok.1 hf).2.2.1
        have hN3 := Lib.hid hrz
        clear hA hN hNl hop HP hrz htx hfw hwr hf hhd
        go_enter Tryd.func10, Tryd.ntmps10
        go_wp2_with fail
        refine HO.out.mono ?_
        rintro r w1 ⟨rfl, hb1⟩
        have T1 := Lib.hid (T0.out.below hb1)
        have HB1 := Lib.hid (B0.out.trans (hb1.mono B0.out.size))
        clear hb1 HO T0 B0
        go_wp2_with fail
        refine (HP2.out _).mono ?_
        rintro r w2 ⟨rfl, hb2⟩
        have T2 := Lib.hid (T1.out.below hb2)
        have HB2 := Lib.hid (HB1.out.trans (hb2.mono HB1.out.size))
        clear hb2 T1 HB1
        go_wp2_with fail
        refine (fault_is A N (restB t 9) 0 _ (by omega) (by rw [hN3.out]; unfold maxLen; omega) HF.out).mono ?_
        rintro r w3 ⟨rfl, hb3⟩
        have T3 := (T2.out.alloc _).below hb3
        obtain ⟨c0, c1, c2, g0, g1, g2⟩ := T3
        obtain ⟨d0, d1, d2⟩ := box_three hb3
        have HB3 := Lib.hid ((HB2.out.alloc HB2.out.size _).trans (hb3.mono (by have := HB2.out.size; simp; omega)))
        clear hb3 T2 HB2
        go_wp2_with fail
        refine bodyPost_ret (v := .tuple #[.agg #[.int .i64 A, .int .i64 N, .string (restB t 9)], .int .i64 0]) (by simp [results, Tryd.results10, go_sem, c0, c1, c2]) rfl ⟨rfl, ?_⟩
        exact below_three HB3.out (Nat.le_refl _) _ _ _
      · rw [if_neg hf]
        have hf2 : faultI A (wrap64 (N : Int)) (restB t 9).size ≠ 0 := by rw [hrz, Ne, hfw]; exact hf
        obtain ⟨Y, hY⟩ : ∃ Y : Int, Y = wrap64 (N : Int) := ⟨_, rfl⟩
        obtain ⟨f, hf3⟩ : ∃ f : Int, f = faultI A Y (restB t 9).size := ⟨_, rfl⟩
        rw [← hY, ← hf3] at hf2
        rw [← hY] at hop hwr
        have HP2 := Lib.hid hop
        have HF := Lib.hid hf3.symm
        have hf4 : (f != 0) = true := by simpa using hf2
        have hN3 := Lib.hid hrz
        clear hA hN hNl hop HP hrz htx hfw hf hhd hf2 hf3 hY
        go_enter Tryd.func10, Tryd.ntmps10
        go_wp2_with fail
        refine HO.out.mono ?_
        rintro r w1 ⟨rfl, hb1⟩
        have T1 := Lib.hid (T0.out.below hb1)
        have HB1 := Lib.hid (B0.out.trans (hb1.mono B0.out.size))
        clear hb1 HO T0 B0
        go_wp2_with fail
        refine (HP2.out _).mono ?_
        rintro r w2 ⟨rfl, hb2⟩
        have T2 := Lib.hid (T1.out.below hb2)
        have HB2 := Lib.hid (HB1.out.trans (hb2.mono HB1.out.size))
        clear hb2 T1 HB1
        go_wp2_with fail
        refine (fault_is A Y (restB t 9) f _ hwr (by rw [hN3.out]; unfold maxLen; omega) HF.out).mono ?_
        rintro r w3 ⟨rfl, hb3⟩
        have T3 := (T2.out.alloc _).below hb3
        obtain ⟨c0, c1, c2, g0, g1, g2⟩ := T3
        have HB3 := Lib.hid ((HB2.out.alloc HB2.out.size _).trans (hb3.mono (by have := HB2.out.size; simp; omega)))
        clear hb3 T2 HB2
        go_wp2_with fail
        refine bodyPost_ret (v := .tuple #[.agg #[.int .i64 0, .int .i64 0, .string ⟨#[]⟩], .int .i64 3]) (by simp [results, Tryd.results10, go_sem, c0, c1, c2]) rfl ⟨rfl, ?_⟩
        exact below_three HB3.out (Nat.le_refl _) _ _ _
    · have htx : textL t.data.toList = (Frm.none, 2) := by unfold textL; rw [if_pos (by rw [← Lib.size_eq]; omega)]
      rw [htx]
      clear htx
      go_enter Tryd.func10, Tryd.ntmps10
      go_wp2_with fail
      refine HO.out.mono ?_
      rintro r w1 ⟨rfl, hb1⟩
      have T1 := Lib.hid (T0.out.below hb1)
      have HB1 := Lib.hid (B0.out.trans (hb1.mono B0.out.size))
      clear hb1 HO T0 B0
      go_wp2_with fail
      refine (opened_short t _ (by omega) (by omega)).mono ?_
      rintro r w2 ⟨a, x, s, rfl, hb2⟩
      have T2 := T1.out.below hb2
      obtain ⟨e0, e1, e2, _, _, _⟩ := (T2.set (.int .i64 0) (.int .i64 0) (.string ⟨#[]⟩)).alloc (.cells #[.int .i64 a, .int .i64 x, .string s] 28)
      have E0 := Lib.hid e0
      have E1 := Lib.hid e1
      have E2 := Lib.hid e2
      obtain ⟨c0, c1, c2, g0, g1, g2⟩ := T2
      clear e0 e1 e2
      have HB2 := Lib.hid (HB1.out.trans (hb2.mono HB1.out.size))
      have hz : w.heap.size < w2.heap.size := (T1.out.below hb2).lt
      clear hb2 T1 HB1
      go_wp2_with fail
      refine bodyPost_ret (v := .tuple #[.agg #[.int .i64 0, .int .i64 0, .string ⟨#[]⟩], .int .i64 2]) (by simp [results, Tryd.results10, go_sem, E0.out, E1.out, E2.out]) rfl ⟨rfl, ?_⟩
      exact (below_three HB2.out (Nat.le_refl _) _ _ _).alloc (by have := HB2.out.size; simp; omega) _
  · rw [readL_bad h0 he.symm]
    have h1 : (e != 0) = true := by simpa using h0
    clear he htl h0
    go_enter Tryd.func10, Tryd.ntmps10
    go_wp2_with fail
    refine HO.out.mono ?_
    rintro r w1 ⟨rfl, hb1⟩
    obtain ⟨c0, c1, c2, g0, g1, g2⟩ := T0.out.below hb1
    have HB1 := Lib.hid (B0.out.trans (hb1.mono B0.out.size))
    clear hb1 HO T0 B0
    go_wp2_with fail
    refine bodyPost_ret (v := .tuple #[.agg #[.int .i64 0, .int .i64 0, .string ⟨#[]⟩], .int .i64 e]) (by simp [results, Tryd.results10, go_sem, c0, c1, c2]) rfl ⟨rfl, ?_⟩
    exact below_three HB1.out (Nat.le_refl _) _ _ _

end Go.Proofs.YtncpjapfkcgjnaaDoor
