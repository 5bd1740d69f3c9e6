/- The document's Start. Own work. -/
import Derived.Test.YtmkgcmnimpkmjaaRPactA
namespace Go.Proofs.Ytmkgcmnimpkmjaa
set_option linter.unusedVariables false
set_option linter.unusedSimpArgs false
open Go.RowKit

section
variable (r : Nat) (name : ByteArray) (m : Pm) (w : World)

theorem setS_self (f : Int → Int × Bool) (o : Int) : setS f o (f o) = f := by
  funext x
  unfold setS
  split
  · rename_i e; rw [e]
  · rfl

/-- How many were sent, behind one more. -/
def more (n : Int) (s : Nat) : Nat := if n = 0 then s else s + 1

/-- send, whatever was set ahead of it. -/
theorem rsend_m (y : Bool) (n : Int) (o : Nat) (on off : Int) (hon : on = (onC y : Nat)) (hoff : off = (offC y : Nat)) (h : RefAt w r name m) (ho : o ≤ 255) (hs : m.sent < 1000000) :
    Calls Try.prog 34 #[.pointer (some ⟨r, 0, none⟩), .int .i64 n, .int .i64 on, .int .i64 off, .int .i64 (o : Int)] w fun e w' =>
      e = .returned (.string ⟨(cmdL y o n).toArray⟩) ∧ RefAt w' r name { m with sent := more n m.sent } ∧ Keep (· = r) w w' := by
  have h1 : RefAt w r name (m.turn y o (m.of y o) 0) := by
    cases y
    · exact h.congr rfl (setS_self m.him o) rfl rfl rfl rfl rfl rfl rfl
    · exact h.congr (setS_self m.us o) rfl rfl rfl rfl rfl rfl rfl rfl
  refine (rsend_any r name m w y o (m.of y o) n o on off hon hoff h1 ho hs).mono ?_
  rintro e w1 ⟨e1, h2, k⟩
  refine ⟨e1, ?_, k⟩
  cases y
  · exact h2.congr rfl (setS_self m.him o).symm rfl rfl rfl rfl rfl rfl rfl
  · exact h2.congr (setS_self m.us o).symm rfl rfl rfl rfl rfl rfl rfl rfl

set_option maxRecDepth 100000 in
set_option maxHeartbeats 1600000 in
theorem rstart_again (h : RefAt w r name m) (hok : m.Ok) (hst : m.started = true) :
    Calls Try.prog 14 #[.pointer (some ⟨r, 0, none⟩)] w fun e w' => e = .returned (.string ⟨#[]⟩) ∧ Below w.heap.size w w' := by
  have HF := Lib.hid (fun W (q : Below w.heap.size w W) => h.below q)
  have HA := Lib.hid (fun W => rside_ask (m.us 31).1 (m.us 31).2 true W (hok.us 31))
  have HB := Lib.hid (fun W => rside_ask (m.him 3).1 (m.him 3).2 true W (hok.him 3))
  have HX : Hid (∀ W, Below w.heap.size w W → W.cell? ⟨r, 65, none⟩ = some (.int .i64 (m.us 31).1) ∧ W.cell? ⟨r, 66, none⟩ = some (.bool (m.us 31).2) ∧ W.cell? ⟨r, 521, none⟩ = some (.int .i64 (m.him 3).1) ∧ W.cell? ⟨r, 522, none⟩ = some (.bool (m.him 3).2) ∧ W.cell? ⟨r, 1031, none⟩ = some (.bool true)) :=
    Lib.hid (fun W q => ⟨((h.below q).us 31 (by omega)).1.1, ((h.below q).us 31 (by omega)).2.1, ((h.below q).him 3 (by omega)).1.1, ((h.below q).him 3 (by omega)).2.1, hst ▸ (h.below q).started.1⟩)
  obtain ⟨c1, c2, c3, c4, c5⟩ := HX.out w (Below.refl _ _)
  have hp := h.lt
  generalize (askL (m.us 31).1 (m.us 31).2 true) = A at *
  generalize (askL (m.him 3).1 (m.him 3).2 true) = B at *
  generalize (m.us 31).1 = u1 at *
  generalize (m.us 31).2 = u2 at *
  generalize (m.him 3).1 = v1 at *
  generalize (m.him 3).2 = v2 at *
  obtain ⟨A1, A2, A3⟩ := A
  obtain ⟨B1, B2, B3⟩ := B
  clear h hok hst HF
  go_enter Try.func14, Try.ntmps14
  go_wp2_with fail
  refine (HA.out _).mono ?_
  rintro e w1 ⟨rfl, hb⟩
  have B1' := Lib.hid hb
  clear hb c1 c2 c3 c4 c5
  go_upto_region 2 with fail
  have K1 : Hid (Below w.heap.size w (w1.alloc (.cells #[.int .i64 A1, .bool A2] 39))) := Lib.hid (B1'.out.alloc B1'.out.size _)
  generalize w1.alloc (.cells #[.int .i64 A1, .bool A2] 39) = w2 at *
  obtain ⟨c1, c2, c3, c4, c5⟩ := HX.out _ K1.out
  go_wp2_with fail
  refine (HB.out _).mono ?_
  rintro e w3 ⟨rfl, hb⟩
  have K3 : Hid (Below w.heap.size w w3) := Lib.hid (K1.out.trans (hb.mono K1.out.size))
  clear hb c1 c2 c3 c4 c5
  go_upto_region 3 with fail
  have K4 : Hid (Below w.heap.size w (w3.alloc (.cells #[.int .i64 B1, .bool B2] 39))) := Lib.hid (K3.out.alloc K3.out.size _)
  generalize w3.alloc (.cells #[.int .i64 B1, .bool B2] 39) = w4 at *
  obtain ⟨c1, c2, c3, c4, c5⟩ := HX.out _ K4.out
  go_wp2_with fail
  go_ret
  exact ⟨rfl, K4.out⟩

set_option maxRecDepth 100000 in
set_option maxHeartbeats 3200000 in
theorem rstart_first (h : RefAt w r name m) (hok : m.Ok) (hst : m.started = false) (hs : m.sent < 900000) :
    Calls Try.prog 14 #[.pointer (some ⟨r, 0, none⟩)] w fun e w' => e = .returned (.string ⟨m.beginT.toArray⟩) ∧ RefAt w' r name m.begin ∧ Keep (· = r) w w' := by
  have HA := Lib.hid (fun W => rside_ask (m.us 31).1 (m.us 31).2 true W (hok.us 31))
  have HB := Lib.hid (fun W => rside_ask (m.him 3).1 (m.him 3).2 true W (hok.him 3))
  have HH := Lib.hid h
  have HX : Hid (∀ W, Below w.heap.size w W → W.cell? ⟨r, 65, none⟩ = some (.int .i64 (m.us 31).1) ∧ W.cell? ⟨r, 66, none⟩ = some (.bool (m.us 31).2) ∧ W.cell? ⟨r, 521, none⟩ = some (.int .i64 (m.him 3).1) ∧ W.cell? ⟨r, 522, none⟩ = some (.bool (m.him 3).2) ∧ W.cell? ⟨r, 1031, none⟩ = some (.bool false)) :=
    Lib.hid (fun W q => ⟨((h.below q).us 31 (by omega)).1.1, ((h.below q).us 31 (by omega)).2.1, ((h.below q).him 3 (by omega)).1.1, ((h.below q).him 3 (by omega)).2.1, hst ▸ (h.below q).started.1⟩)
  have HXF : Hid (∀ W, Below w.heap.size w W → W.frozen? ⟨r, 65, none⟩ = false ∧ W.frozen? ⟨r, 66, none⟩ = false ∧ W.frozen? ⟨r, 521, none⟩ = false ∧ W.frozen? ⟨r, 522, none⟩ = false ∧ W.frozen? ⟨r, 1031, none⟩ = false) :=
    Lib.hid (fun W q => ⟨((h.below q).us 31 (by omega)).1.2, ((h.below q).us 31 (by omega)).2.2, ((h.below q).him 3 (by omega)).1.2, ((h.below q).him 3 (by omega)).2.2, (h.below q).started.2⟩)
  obtain ⟨c1, c2, c3, c4, c5⟩ := HX.out w (Below.refl _ _)
  have hp := h.lt
  obtain ⟨A1, hA1⟩ : ∃ x, x = (askL (m.us 31).1 (m.us 31).2 true).1 := ⟨_, rfl⟩
  obtain ⟨A2, hA2⟩ : ∃ x, x = (askL (m.us 31).1 (m.us 31).2 true).2.1 := ⟨_, rfl⟩
  obtain ⟨A3, hA3⟩ : ∃ x, x = (askL (m.us 31).1 (m.us 31).2 true).2.2 := ⟨_, rfl⟩
  obtain ⟨B1, hB1⟩ : ∃ x, x = (askL (m.him 3).1 (m.him 3).2 true).1 := ⟨_, rfl⟩
  obtain ⟨B2, hB2⟩ : ∃ x, x = (askL (m.him 3).1 (m.him 3).2 true).2.1 := ⟨_, rfl⟩
  obtain ⟨B3, hB3⟩ : ∃ x, x = (askL (m.him 3).1 (m.him 3).2 true).2.2 := ⟨_, rfl⟩
  rw [← hA1, ← hA2, ← hA3] at HA
  rw [← hB1, ← hB2, ← hB3] at HB
  -- what is made of it
  obtain ⟨mf, hmf⟩ : ∃ mf : Pm, mf = (({ m with started := true } : Pm).turn true ((31 : Nat) : Int) (A1, A2) 0).turn false ((3 : Nat) : Int) (B1, B2) 0 := ⟨_, rfl⟩
  have HPUT : Hid (∀ W, Below w.heap.size w W → RefAt (((((W.setCell ⟨r, 1031, none⟩ (.bool true)).setCell ⟨r, 65, none⟩ (.int .i64 A1)).setCell ⟨r, 66, none⟩ (.bool A2)).setCell ⟨r, 521, none⟩ (.int .i64 B1)).setCell ⟨r, 522, none⟩ (.bool B2)) r name mf) := Lib.hid (fun W q => by
    rw [hmf]
    exact (((h.below q).begun.putUs 31 (by omega) (A1, A2)).putHim 3 (by omega) (B1, B2)))
  have hsm : mf.sent = m.sent := by rw [hmf]; rfl
  have HS1 := Lib.hid (fun W (q : RefAt W r name mf) => rsend_m r name mf W true A3 31 251 252 rfl rfl q (by omega) (by omega))
  have hs2 : more A3 mf.sent ≤ m.sent + 1 := by unfold more; split <;> omega
  have HS2 := Lib.hid (fun W (q : RefAt W r name { mf with sent := more A3 mf.sent }) => rsend_m r name _ W false B3 3 253 254 rfl rfl q (by omega) (by show more A3 mf.sent < _; omega))
  obtain ⟨T1, hT1⟩ : ∃ T : ByteArray, T = ⟨(cmdL true 31 A3).toArray⟩ := ⟨_, rfl⟩
  obtain ⟨T2, hT2⟩ : ∃ T : ByteArray, T = ⟨(cmdL false 3 B3).toArray⟩ := ⟨_, rfl⟩
  rw [← hT1] at HS1
  rw [← hT2] at HS2
  have z1 : T1.size ≤ 3 := by rw [hT1, size_mk]; exact cmd_len _ _ _
  have z2 : T2.size ≤ 3 := by rw [hT2, size_mk]; exact cmd_len _ _ _
  have z3 : T1.size + T2.size ≤ 9223372036854775807 := by omega
  have HTT : Hid ((⟨m.beginT.toArray⟩ : ByteArray) = T1 ++ T2) := Lib.hid (by rw [hT1, hT2, mk_add, hA3, hB3]; rfl)
  have HFIN : Hid (∀ W, RefAt W r name { ({ mf with sent := more A3 mf.sent } : Pm) with sent := more B3 ({ mf with sent := more A3 mf.sent } : Pm).sent } → RefAt W r name m.begin) := Lib.hid (fun W q => by
    refine q.congr ?_ ?_ ?_ ?_ ?_ ?_ ?_ ?_ ?_ <;> (rw [hmf, hA1, hA2, hA3, hB1, hB2, hB3] <;> rfl))
  generalize (m.us 31).1 = u1 at *
  generalize (m.us 31).2 = u2 at *
  generalize (m.him 3).1 = v1 at *
  generalize (m.him 3).2 = v2 at *
  clear h hok hst hs hA1 hA2 hA3 hB1 hB2 hB3 hmf hsm hs2 hT1 hT2 z1 z2
  go_enter Try.func14, Try.ntmps14
  go_wp2_with fail
  refine (HA.out _).mono ?_
  rintro e w1 ⟨rfl, hb⟩
  have B1' := Lib.hid hb
  clear hb c1 c2 c3 c4 c5
  go_upto_region 2 with fail
  have K1 : Hid (Below w.heap.size w (w1.alloc (.cells #[.int .i64 A1, .bool A2] 39))) := Lib.hid (B1'.out.alloc B1'.out.size _)
  have X0 : Hid (Cell (w1.alloc (.cells #[.int .i64 A1, .bool A2] 39)) w1.heap.size 0 (.int .i64 A1) ∧ Cell (w1.alloc (.cells #[.int .i64 A1, .bool A2] 39)) w1.heap.size 1 (.bool A2)) := Lib.hid ⟨Cell.box 0 rfl, Cell.box 1 rfl⟩
  have hne1 : w1.heap.size ≠ r := by have := B1'.out.size; omega
  generalize w1.alloc (.cells #[.int .i64 A1, .bool A2] 39) = w2 at *
  generalize w1.heap.size = g1 at *
  obtain ⟨c1, c2, c3, c4, c5⟩ := HX.out _ K1.out
  go_wp2_with fail
  refine (HB.out _).mono ?_
  rintro e w3 ⟨rfl, hb⟩
  have K3 : Hid (Below w.heap.size w w3) := Lib.hid (K1.out.trans (hb.mono K1.out.size))
  have X1 : Hid (Cell w3 g1 0 (.int .i64 A1) ∧ Cell w3 g1 1 (.bool A2)) := Lib.hid ⟨X0.out.1.keep (S := fun _ => False) (Keep.of_below _ hb) (fun x => x), X0.out.2.keep (S := fun _ => False) (Keep.of_below _ hb) (fun x => x)⟩
  clear hb c1 c2 c3 c4 c5
  go_upto_region 3 with fail
  have K4 : Hid (Below w.heap.size w (w3.alloc (.cells #[.int .i64 B1, .bool B2] 39))) := Lib.hid (K3.out.alloc K3.out.size _)
  have X2 : Hid (Cell (w3.alloc (.cells #[.int .i64 B1, .bool B2] 39)) w3.heap.size 0 (.int .i64 B1) ∧ Cell (w3.alloc (.cells #[.int .i64 B1, .bool B2] 39)) w3.heap.size 1 (.bool B2)) := Lib.hid ⟨Cell.box 0 rfl, Cell.box 1 rfl⟩
  have X3 := Lib.hid (And.intro (X1.out.1.alloc (.cells #[.int .i64 B1, .bool B2] 39)) (X1.out.2.alloc (.cells #[.int .i64 B1, .bool B2] 39)))
  have hne2 : w3.heap.size ≠ r := by have := K3.out.size; omega
  generalize w3.alloc (.cells #[.int .i64 B1, .bool B2] 39) = w4 at *
  generalize w3.heap.size = g2 at *
  obtain ⟨c1, c2, c3, c4, c5⟩ := HX.out _ K4.out
  obtain ⟨f1, f2, f3, f4, f5⟩ := HXF.out _ K4.out
  obtain ⟨⟨x1, _⟩, x2, _⟩ := X3.out
  obtain ⟨⟨y1, _⟩, y2, _⟩ := X2.out
  go_wp2_with fail
  go_region
  have HM := Lib.hid (HPUT.out _ K4.out)
  have KM : Hid (Keep (· = r) w (((((w4.setCell ⟨r, 1031, none⟩ (.bool true)).setCell ⟨r, 65, none⟩ (.int .i64 A1)).setCell ⟨r, 66, none⟩ (.bool A2)).setCell ⟨r, 521, none⟩ (.int .i64 B1)).setCell ⟨r, 522, none⟩ (.bool B2))) := Lib.hid ((Keep.of_below (· = r) K4.out).trans (((((keep_set w4 r 1031 _).own 65 _).own 66 _).own 521 _).own 522 _) (fun _ _ x => x))
  clear c1 c2 c3 c4 c5 f1 f2 f3 f4 f5 x1 x2 y1 y2 X0 X1 X2 X3
  generalize ((((w4.setCell ⟨r, 1031, none⟩ (.bool true)).setCell ⟨r, 65, none⟩ (.int .i64 A1)).setCell ⟨r, 66, none⟩ (.bool A2)).setCell ⟨r, 521, none⟩ (.int .i64 B1)).setCell ⟨r, 522, none⟩ (.bool B2) = w5 at *
  go_wp2_with fail
  refine (HS1.out _ (by first | exact HM.out.drew | exact HM.out)).mono ?_
  rintro e w6 ⟨rfl, hq, hk⟩
  have H6 := Lib.hid hq
  have K6 : Hid (Keep (· = r) w w6) := Lib.hid (KM.out.drew.trans hk (fun _ _ x => x))
  clear hq hk
  go_wp2_with fail
  refine (HS2.out _ H6.out).mono ?_
  rintro e w7 ⟨rfl, hq, hk⟩
  have H7 := Lib.hid (HFIN.out _ hq)
  have K7 : Hid (Keep (· = r) w w7) := Lib.hid (K6.out.trans hk (fun _ _ x => x))
  clear hq hk
  go_wp2_with fail
  go_ret
  exact ⟨by rw [HTT.out]; rfl, H7.out, K7.out⟩

theorem rstart_any (h : RefAt w r name m) (hok : m.Ok) (hs : m.sent < 900000) :
    Calls Try.prog 14 #[.pointer (some ⟨r, 0, none⟩)] w fun e w' => e = .returned (.string ⟨m.startT.toArray⟩) ∧ RefAt w' r name m.start ∧ Keep (· = r) w w' := by
  cases hst : m.started
  · rw [show m.startT = m.beginT by rw [Pm.startT, hst]; rfl, show m.start = m.begin by rw [Pm.start, hst]; rfl]
    exact rstart_first r name m w h hok hst hs
  · rw [show m.startT = [] by rw [Pm.startT, hst]; rfl, show m.start = m by rw [Pm.start, hst]; rfl]
    refine (rstart_again r name m w h hok hst).mono ?_
    rintro e w1 ⟨rfl, hb⟩
    exact ⟨rfl, h.below hb, Keep.of_below _ hb⟩
end

end Go.Proofs.Ytmkgcmnimpkmjaa
