/- esc.Parser in memory: take. By program (rgn/XEscT.py). Own work. -/
import Derived.Test.YthphnjilbpidgaaEscD
import Derived.Test.YthphnjilbpidgaaEscRules
namespace Go.Proofs.Ythphnjilbpidgaa
set_option linter.unusedVariables false
set_option linter.unusedSimpArgs false
open Go.RowKit

theorem wpList_store_at {P : Program} {ops : Array Oper} {rest : List Oper} {o : Oper} {a : Act} {w : World} {Q : Exit → Act → World → Prop} (hgd : o.guard = none) (ty : TypeId) (x y : Operand) (ho : o.op = .store ty x y)
    (b off : Nat) (cells : Array Value) (hx : a.eval x = .pointer (some ⟨b, off, none⟩)) (hy : a.eval y = .agg cells) (hi : (P.info? ty).map (·.size) = some cells.size) (h1 : cells.all (·.oneCell') = true)
    (hc : ∀ j, j < cells.size → (w.cell? ⟨b, off + j, none⟩).isSome = true) (hf : ∀ j, j < cells.size → w.frozen? ⟨b, off + j, none⟩ = false)
    (h : wpList P ops Q rest (a.put o.dst undef) (w.setCells b off cells.toList)) : wpList P ops Q (o :: rest) a w :=
  wpList_plain hgd fun _ hK => wp_store_at ty x y ho b off cells hx hy hi h1 hc hf (hK _ _ h)

def zbeg : Array Value := #[.int .i64 0, .string ⟨#[]⟩, .int .i64 0, .int .i64 0, .int .i64 0, .int .i64 0, .int .i64 0, .int .i64 0, .int .i64 0, .int .i64 0, .int .i64 0, .string ⟨#[]⟩]
theorem zbeg_info : (Try.prog.info? 35).map (·.size) = some zbeg.size := by kernel_rfl
theorem zbeg_one : zbeg.all (·.oneCell') = true := by simp [zbeg, Value.oneCell']
theorem BegC.at' {w : World} {p q : Nat} {b : BP} (h : BegC w p q b) (j : Nat) (hj : j < 12) : (w.cell? ⟨p, q + j, none⟩).isSome = true ∧ w.frozen? ⟨p, q + j, none⟩ = false := by
  have one : ∀ {i : Nat} {v : Value}, Cell w p i v → (w.cell? ⟨p, i, none⟩).isSome = true ∧ w.frozen? ⟨p, i, none⟩ = false := fun c => ⟨by rw [c.1]; rfl, c.2⟩
  by_cases h0 : j = 0
  · subst h0; exact one h.m
  by_cases h1 : j = 1
  · subst h1; exact one h.i
  by_cases h2 : j < 10
  · have := one (h.n.nn (j - 2) (by omega))
    rwa [show q + 2 + (j - 2) = q + j by omega] at this
  by_cases h3 : j = 10
  · subst h3; have := one h.n.cm; rwa [show q + 2 + 8 = q + 10 by omega] at this
  · have e : j = 11 := by omega
    subst e; exact one h.t
/-- What is begun goes. -/
theorem BegC.zero {w : World} {p q : Nat} {b : BP} (h : BegC w p q b) :
    (∀ j, j < zbeg.size → (w.cell? ⟨p, q + j, none⟩).isSome = true ∧ w.frozen? ⟨p, q + j, none⟩ = false) ∧ BegC (w.setCells p q zbeg.toList) p q .z ∧ SpanP p q (q + 12) w (w.setCells p q zbeg.toList) := by
  have hs : zbeg.toList.length = 12 := rfl
  have hz : zbeg.size = 12 := rfl
  have k : ∀ j v, zbeg.toList[j]? = some v → Cell (w.setCells p q zbeg.toList) p (q + j) v := fun j v hv => by
    have hj : j < 12 := by
      rcases Nat.lt_or_ge j 12 with e | e
      · exact e
      · rw [List.getElem?_eq_none (by omega)] at hv; cases hv
    refine ⟨?_, (World.frozen?_setCells _ _ _ _ _).trans (h.at' j hj).2⟩
    rw [World.cell?_setCells_in p zbeg.toList q w (fun i hi => (h.at' i (by omega)).1) j (by omega)]
    rw [List.getElem?_eq_getElem (by omega)] at hv
    exact hv
  refine ⟨fun j hj => h.at' j (by omega), ⟨k 0 _ rfl, k 1 _ rfl, ⟨fun i hi => ?_, ?_, rfl, by simp [BP.z]⟩, k 11 _ rfl⟩, keep_setCells (S := fun x => x = p) p (fun _ => rfl) _ _ _ (Keep.refl _ w), fun i hi => ⟨World.cell?_setCells_out _ _ _ _ _ (fun _ _ => by rw [hs]; simp; omega), World.frozen?_setCells _ _ _ _ _⟩⟩
  · have e : zbeg.toList[i + 2]? = some (.int .i64 0) := by
      rcases i with _ | _ | _ | _ | _ | _ | _ | _ | i <;> first | rfl | omega
    have := k (i + 2) _ e
    rwa [show q + (i + 2) = q + 2 + i by omega] at this
  · exact k 10 _ rfl

theorem flushE_ok {b : BP} (h : b.Ok) (d : Nat) : (flushE b d).1.Ok := by
  unfold flushE; split
  · exact h
  · exact ⟨h.s, h.few, h.nm, h.tx⟩
theorem badsU_le (s : St) : (badsU s).length ≤ 1 := by unfold badsU; split <;> simp

theorem EscC.alloc {w : World} {p o : Nat} {b : BP} (h : EscC w p o b) (x : Obj) : EscC (w.alloc x) p o b := h.below ((Below.refl _ w).alloc (Nat.le_refl _) x)

set_option maxRecDepth 100000 in
set_option maxHeartbeats 3200000 in
theorem take_print (p o B : Nat) (b : BP) (A : Option Addr) (n cc : Nat) (rs0 : List EAct) (nx c : Nat) (w : World) (h : EscC w p o b) (hA : ActsV w B A n cc rs0) (hpB : p < B) (hB : B ≤ w.heap.size) (hb : b.Ok) (hc : c < 256) (hn : b.came < 1000000000) (hnn : n ≤ 800000000) :
    Calls Try.prog 21 #[.pointer (some ⟨p, o, none⟩), .slice A n cc, .agg #[.int .u8 (nx : Int), .int .u8 1], .int .u8 (c : Int)] w (DoTo p o B A n rs0 (stepE b nx 1 c) w) := by
  have hd9 : 1 = 9 → 48 ≤ c ∧ c ≤ 57 := fun e => by omega
  have HL : Hid (n + (doE b 1 c).2.length = n + (stepE b nx 1 c).2.length) := Lib.hid (by simp [stepE, flushE])
  have HRS : Hid (rs0 ++ (doE b 1 c).2 = rs0 ++ (stepE b nx 1 c).2) := Lib.hid (by simp [stepE, flushE])
  have HST : Hid (toE (doE b 1 c).1 nx = (stepE b nx 1 c).1) := Lib.hid (by simp [stepE, flushE])
  have hpl := h.lt
  obtain ⟨g0, hg0⟩ : ∃ g0, g0 = w.heap.size := ⟨_, rfl⟩
  obtain ⟨w1, hw1⟩ : ∃ w1 : World, w1 = w.alloc (.cells #[.int .u8 (nx : Int), .int .u8 1] 71) := ⟨_, rfl⟩
  have H1 : Hid (EscC w1 p o b) := Lib.hid (by rw [hw1]; exact h.alloc _)
  have HA1 : Hid (ActsV w1 B A n cc rs0) := Lib.hid (by rw [hw1]; exact hA.alloc _)
  have P1 : Hid (PStep p o A w A w1) := Lib.hid (by rw [hw1]; exact PStep.of_below ((Below.refl _ w).alloc (Nat.le_refl _) _) hpl)
  have HB1 : Hid (B ≤ w1.heap.size) := Lib.hid (by rw [hw1]; simp; omega)
  have x0 : w1.cell? ⟨g0, 0, none⟩ = some (.int .u8 (nx : Int)) := by rw [hw1, hg0]; exact (Cell.box (t := 71) (cs := #[.int .u8 (nx : Int), .int .u8 1]) 0 rfl).1
  have x1 : w1.cell? ⟨g0, 1, none⟩ = some (.int .u8 1) := by rw [hw1, hg0]; exact (Cell.box (t := 71) (cs := #[.int .u8 (nx : Int), .int .u8 1]) 1 rfl).1
  have hg0l : g0 < w1.heap.size := by rw [hw1, hg0]; simp
  have hg0p : g0 ≠ p := by omega
  have HG1 : Hid (¬ blk A = some g0) := Lib.hid (fun e => by have := (hA.blk_ge e).2; omega)
  have HOK := Lib.hid hb
  have HCM := Lib.hid hn
  have HN1 : Hid (n ≤ 900000000) := Lib.hid (by omega)
  clear h hA hb hn hnn
  go_enter Try.func21, Try.ntmps21
  go_upto_region 1 with fail
  rw [← hw1, ← hg0]
  clear hw1 hg0
  go_wp2_with fail
  refine (esc_do p o B b A n cc rs0 1 c w1 H1.out HA1.out hpB HB1.out HOK.out hc HCM.out hd9 HN1.out).mono ?_
  rintro e w2 ⟨A2, c2, rfl, h2, g2, k2⟩
  have HA2 := Lib.hid h2
  have H2 := Lib.hid g2
  have K2 := Lib.hid k2
  have cs := g2.s.1
  have fs := g2.s.2
  have x2 : w2.cell? ⟨g0, 0, none⟩ = some (.int .u8 (nx : Int)) := (K2.out.keep.cell (p := ⟨g0, 0, none⟩) hg0l (fun e => e.elim (fun e => by simp at e; omega) (fun e => HG1.out e))).trans x0
  clear h2 g2 k2 x0
  obtain ⟨W3, hW3⟩ : ∃ W3 : World, W3 = w2.setCell ⟨p, o + 1, none⟩ (.int .u8 (nx : Int)) := ⟨_, rfl⟩
  have S3 : Hid (SpanP p (o + 1) (o + 2) w2 W3) := Lib.hid (by rw [hW3]; exact (SpanP.refl p (o + 1) (o + 2) w2).set (o + 1) (by omega) (by omega) _)
  have H3 : Hid (EscC W3 p o { (doE b 1 c).1 with s := nx }) := Lib.hid (by
    have k := S3.out
    refine ⟨?_, H2.out.u.span k (by omega), (H2.out.g.span k (by omega)).of_eq rfl rfl rfl rfl rfl⟩
    rw [hW3]; exact H2.out.s.set _)
  have HA3 : Hid (ActsV W3 B A2 (n + (doE b 1 c).2.length) c2 (rs0 ++ (doE b 1 c).2)) := Lib.hid (HA2.out.keep S3.out.keep (fun i hi e => by omega))
  have K3 : Hid (PStep p o A w A2 W3) := Lib.hid ((P1.out.trans K2.out).trans (PStep.of_span S3.out (by omega) (by omega)))
  have c1' : W3.cell? ⟨p, o + 1, none⟩ = some (.int .u8 (nx : Int)) := H3.out.s.1
  by_cases hx : nx = 0 ∨ nx = 1
  · have HTE : Hid (toE (doE b 1 c).1 nx = { (doE b 1 c).1 with s := nx }.clear) := Lib.hid (by unfold toE; rw [if_pos hx])
    have ht : ((nx : Int) == 0) = true ∨ (((nx : Int) == 0) = false ∧ ((nx : Int) == 1) = true) := by
      rcases hx with e | e
      · exact .inl (by simp; omega)
      · exact .inr ⟨by simp; omega, by simp; omega⟩
    have HZ := Lib.hid (H3.out.g.zero)
    clear hx
    rcases ht with t0 | ⟨t0, t1⟩
    all_goals
      go_upto_region 5 with fail
      rw [← hW3]
      clear hW3
      go_wp2_with (with_reducible refine wpList_store_at rfl 35 (.tmp 45) (.tmp 43) rfl p (o + 7) zbeg rfl rfl zbeg_info zbeg_one (fun j hj => (HZ.out.1 j hj).1) (fun j hj => (HZ.out.1 j hj).2) ?_)
      go_ret
      have hf := HZ.out.2
      refine ⟨A2, c2, by rw [← HL.out]; rfl, by rw [← HRS.out, ← HL.out]; exact HA3.out.keep hf.2.keep (fun i hi e => by omega), ?_, K3.out.trans (PStep.of_span hf.2 (by omega) (by omega))⟩
      rw [← HST.out, HTE.out]
      exact ⟨hf.2.cell H3.out.s (by omega), H3.out.u.span hf.2 (by omega), hf.1.of_eq rfl rfl rfl rfl rfl⟩
  · have HTE : Hid (toE (doE b 1 c).1 nx = { (doE b 1 c).1 with s := nx }) := Lib.hid (by unfold toE; rw [if_neg hx])
    have t0 : ((nx : Int) == 0) = false := by simp; omega
    have t1 : ((nx : Int) == 1) = false := by simp; omega
    clear hx
    go_upto_region 5 with fail
    rw [← hW3]
    clear hW3
    go_wp2_with fail
    go_ret
    refine ⟨A2, c2, by rw [← HL.out]; rfl, by rw [← HRS.out, ← HL.out]; exact HA3.out, ?_, K3.out⟩
    rw [← HST.out, HTE.out]
    exact H3.out

set_option maxRecDepth 100000 in
set_option maxHeartbeats 3200000 in
theorem take_other (p o B : Nat) (b : BP) (A : Option Addr) (n cc : Nat) (rs0 : List EAct) (nx d c : Nat) (w : World) (h : EscC w p o b) (hA : ActsV w B A n cc rs0) (hpB : p < B) (hB : B ≤ w.heap.size) (hb : b.Ok) (hc : c < 256) (hn : b.came < 1000000000) (hd9 : d = 9 → 48 ≤ c ∧ c ≤ 57) (hnn : n ≤ 800000000) (hd1 : d ≠ 1) :
    Calls Try.prog 21 #[.pointer (some ⟨p, o, none⟩), .slice A n cc, .agg #[.int .u8 (nx : Int), .int .u8 (d : Int)], .int .u8 (c : Int)] w (DoTo p o B A n rs0 (stepE b nx d c) w) := by
  have hfl : flushE b d = ({ b with u := .z }, (badsU b.u).map ePrint) := by unfold flushE; rw [if_neg hd1]
  have HL : Hid (n + (badsU b.u).length + (doE { b with u := .z } d c).2.length = n + (stepE b nx d c).2.length) := Lib.hid (by simp [stepE, hfl]; omega)
  have HRS : Hid (rs0 ++ (badsU b.u).map ePrint ++ (doE { b with u := .z } d c).2 = rs0 ++ (stepE b nx d c).2) := Lib.hid (by simp [stepE, hfl])
  have HST : Hid (toE (doE { b with u := .z } d c).1 nx = (stepE b nx d c).1) := Lib.hid (by simp [stepE, hfl])
  have hpl := h.lt
  obtain ⟨g0, hg0⟩ : ∃ g0, g0 = w.heap.size := ⟨_, rfl⟩
  obtain ⟨w0, hw0⟩ : ∃ w0 : World, w0 = w.alloc (.cells #[.int .u8 (nx : Int), .int .u8 (d : Int)] 71) := ⟨_, rfl⟩
  have H0 : Hid (EscC w0 p o b) := Lib.hid (by rw [hw0]; exact h.alloc _)
  have HA0 : Hid (ActsV w0 B A n cc rs0) := Lib.hid (by rw [hw0]; exact hA.alloc _)
  have P0 : Hid (PStep p o A w A w0) := Lib.hid (by rw [hw0]; exact PStep.of_below ((Below.refl _ w).alloc (Nat.le_refl _) _) hpl)
  have HB0 : Hid (B ≤ w0.heap.size) := Lib.hid (by rw [hw0]; simp; omega)
  have y0 : w0.cell? ⟨g0, 0, none⟩ = some (.int .u8 (nx : Int)) := by rw [hw0, hg0]; exact (Cell.box (t := 71) (cs := #[.int .u8 (nx : Int), .int .u8 (d : Int)]) 0 rfl).1
  have y1 : w0.cell? ⟨g0, 1, none⟩ = some (.int .u8 (d : Int)) := by rw [hw0, hg0]; exact (Cell.box (t := 71) (cs := #[.int .u8 (nx : Int), .int .u8 (d : Int)]) 1 rfl).1
  have hg00 : g0 < w0.heap.size := by rw [hw0, hg0]; simp
  have hg0p : g0 ≠ p := by omega
  have HG0 : Hid (¬ blk A = some g0) := Lib.hid (fun e => by have := (hA.blk_ge e).2; omega)
  have HOK : Hid (BP.Ok { b with u := .z }) := Lib.hid ⟨hb.s, hb.few, hb.nm, hb.tx⟩
  have HCM : Hid (({ b with u := St.z } : BP).came < 1000000000) := Lib.hid hn
  have hbl := badsU_le b.u
  have HN1 : Hid (n + (badsU b.u).length ≤ 900000000) := Lib.hid (by omega)
  have td : ((d : Int) != 1) = true := by simp; omega
  have td2 : ((d : Int) == 1) = false := by simp; omega
  clear h hA hb hn hfl hd1
  go_enter Try.func21, Try.ntmps21
  go_upto_region 1 with fail
  rw [← hw0, ← hg0]
  clear hw0 hg0
  go_wp2_with fail
  refine (utf_flush p (o + 2) b.u w0 H0.out.u).mono ?_
  rintro e wf ⟨v, rfl, ho, hu, hk⟩
  have KF1 := Lib.hid hk
  have UF := Lib.hid hu
  have OF := Lib.hid ho
  have z0 : wf.cell? ⟨g0, 0, none⟩ = some (.int .u8 (nx : Int)) := (hk.k.cell (p := ⟨g0, 0, none⟩) hg00 hg0p).trans y0
  have z1 : wf.cell? ⟨g0, 1, none⟩ = some (.int .u8 (d : Int)) := (hk.k.cell (p := ⟨g0, 1, none⟩) hg00 hg0p).trans y1
  have hsf := hk.size
  clear ho hu hk y0 y1
  go_wp2_with fail
  refine (esc_prints B A n cc rs0 v _ (badsU b.u) wf (HA0.out.keep KF1.out.k (fun i hi e => by omega)) (Nat.le_trans HB0.out hsf) _ OF.out (by have := HN1.out; first | omega | (simp only; omega))).mono ?_
  rintro e w1 ⟨A1, c1, rfl, h1, k1, a1⟩
  have HAF := Lib.hid (HA0.out.keep KF1.out.k (fun i hi e => by omega))
  have HA1 : Hid (ActsV w1 B A1 (n + (badsU b.u).length) c1 (rs0 ++ (badsU b.u).map ePrint)) := Lib.hid h1
  have H1 : Hid (EscC w1 p o { b with u := .z }) := Lib.hid ((H0.out.kf KF1.out UF.out).keep k1 (fun e => by have := (HA0.out.blk_ge e).1; omega))
  have P1 : Hid (PStep p o A w A1 w1) := Lib.hid ((P0.out.trans (PStep.of_kf KF1.out H0.out.lt)).trans (PStep.of_acts k1 a1 (Nat.lt_of_lt_of_le H0.out.lt hsf) (fun e => by have := (HA0.out.blk_ge e).1; omega)))
  have HB1 : Hid (B ≤ w1.heap.size) := Lib.hid (Nat.le_trans (Nat.le_trans HB0.out hsf) k1.size)
  have x0 : w1.cell? ⟨g0, 0, none⟩ = some (.int .u8 (nx : Int)) := (k1.cell (p := ⟨g0, 0, none⟩) (Nat.lt_of_lt_of_le hg00 hsf) HG0.out).trans z0
  have x1 : w1.cell? ⟨g0, 1, none⟩ = some (.int .u8 (d : Int)) := (k1.cell (p := ⟨g0, 1, none⟩) (Nat.lt_of_lt_of_le hg00 hsf) HG0.out).trans z1
  have hg0l : g0 < w1.heap.size := Nat.lt_of_lt_of_le (Nat.lt_of_lt_of_le hg00 hsf) k1.size
  have HG1 : Hid (¬ blk A1 = some g0) := Lib.hid (fun e => (a1 g0 e).elim HG0.out (fun x => by omega))
  clear h1 k1 a1 z0 z1
  go_wp2_with fail
  refine (esc_do p o B { b with u := .z } A1 (n + (badsU b.u).length) c1 (rs0 ++ (badsU b.u).map ePrint) d c w1 H1.out HA1.out hpB HB1.out HOK.out hc HCM.out hd9 HN1.out).mono ?_
  rintro e w2 ⟨A2, c2, rfl, h2, g2, k2⟩
  have HA2 := Lib.hid h2
  have H2 := Lib.hid g2
  have K2 := Lib.hid k2
  have cs := g2.s.1
  have fs := g2.s.2
  have x2 : w2.cell? ⟨g0, 0, none⟩ = some (.int .u8 (nx : Int)) := (K2.out.keep.cell (p := ⟨g0, 0, none⟩) hg0l (fun e => e.elim (fun e => by simp at e; omega) (fun e => HG1.out e))).trans x0
  clear h2 g2 k2 x0
  obtain ⟨W3, hW3⟩ : ∃ W3 : World, W3 = w2.setCell ⟨p, o + 1, none⟩ (.int .u8 (nx : Int)) := ⟨_, rfl⟩
  have S3 : Hid (SpanP p (o + 1) (o + 2) w2 W3) := Lib.hid (by rw [hW3]; exact (SpanP.refl p (o + 1) (o + 2) w2).set (o + 1) (by omega) (by omega) _)
  have H3 : Hid (EscC W3 p o { (doE { b with u := .z } d c).1 with s := nx }) := Lib.hid (by
    have k := S3.out
    refine ⟨?_, H2.out.u.span k (by omega), (H2.out.g.span k (by omega)).of_eq rfl rfl rfl rfl rfl⟩
    rw [hW3]; exact H2.out.s.set _)
  have HA3 : Hid (ActsV W3 B A2 ((n + (badsU b.u).length) + (doE { b with u := .z } d c).2.length) c2 ((rs0 ++ (badsU b.u).map ePrint) ++ (doE { b with u := .z } d c).2)) := Lib.hid (HA2.out.keep S3.out.keep (fun i hi e => by omega))
  have K3 : Hid (PStep p o A w A2 W3) := Lib.hid ((P1.out.trans K2.out).trans (PStep.of_span S3.out (by omega) (by omega)))
  have c1' : W3.cell? ⟨p, o + 1, none⟩ = some (.int .u8 (nx : Int)) := H3.out.s.1
  by_cases hx : nx = 0 ∨ nx = 1
  · have HTE : Hid (toE (doE { b with u := .z } d c).1 nx = { (doE { b with u := .z } d c).1 with s := nx }.clear) := Lib.hid (by unfold toE; rw [if_pos hx])
    have ht : ((nx : Int) == 0) = true ∨ (((nx : Int) == 0) = false ∧ ((nx : Int) == 1) = true) := by
      rcases hx with e | e
      · exact .inl (by simp; omega)
      · exact .inr ⟨by simp; omega, by simp; omega⟩
    have HZ := Lib.hid (H3.out.g.zero)
    clear hx
    rcases ht with t0 | ⟨t0, t1⟩
    all_goals
      go_upto_region 5 with fail
      rw [← hW3]
      clear hW3
      go_wp2_with (with_reducible refine wpList_store_at rfl 35 (.tmp 45) (.tmp 43) rfl p (o + 7) zbeg rfl rfl zbeg_info zbeg_one (fun j hj => (HZ.out.1 j hj).1) (fun j hj => (HZ.out.1 j hj).2) ?_)
      go_ret
      have hf := HZ.out.2
      refine ⟨A2, c2, by rw [← HL.out]; rfl, by rw [← HRS.out, ← HL.out]; exact HA3.out.keep hf.2.keep (fun i hi e => by omega), ?_, K3.out.trans (PStep.of_span hf.2 (by omega) (by omega))⟩
      rw [← HST.out, HTE.out]
      exact ⟨hf.2.cell H3.out.s (by omega), H3.out.u.span hf.2 (by omega), hf.1.of_eq rfl rfl rfl rfl rfl⟩
  · have HTE : Hid (toE (doE { b with u := .z } d c).1 nx = { (doE { b with u := .z } d c).1 with s := nx }) := Lib.hid (by unfold toE; rw [if_neg hx])
    have t0 : ((nx : Int) == 0) = false := by simp; omega
    have t1 : ((nx : Int) == 1) = false := by simp; omega
    clear hx
    go_upto_region 5 with fail
    rw [← hW3]
    clear hW3
    go_wp2_with fail
    go_ret
    refine ⟨A2, c2, by rw [← HL.out]; rfl, by rw [← HRS.out, ← HL.out]; exact HA3.out, ?_, K3.out⟩
    rw [← HST.out, HTE.out]
    exact H3.out

/-- take. -/
theorem esc_take (p o B : Nat) (b : BP) (A : Option Addr) (n cc : Nat) (rs0 : List EAct) (nx d c : Nat) (w : World) (h : EscC w p o b) (hA : ActsV w B A n cc rs0) (hpB : p < B) (hB : B ≤ w.heap.size) (hb : b.Ok) (hc : c < 256) (hn : b.came < 1000000000) (hd9 : d = 9 → 48 ≤ c ∧ c ≤ 57) (hnn : n ≤ 800000000) :
    Calls Try.prog 21 #[.pointer (some ⟨p, o, none⟩), .slice A n cc, .agg #[.int .u8 (nx : Int), .int .u8 (d : Int)], .int .u8 (c : Int)] w (DoTo p o B A n rs0 (stepE b nx d c) w) := by
  by_cases hd1 : d = 1
  · subst hd1; exact take_print p o B b A n cc rs0 nx c w h hA hpB hB hb hc hn hnn
  · exact take_other p o B b A n cc rs0 nx d c w h hA hpB hB hb hc hn hd9 hnn hd1

end Go.Proofs.Ythphnjilbpidgaa
