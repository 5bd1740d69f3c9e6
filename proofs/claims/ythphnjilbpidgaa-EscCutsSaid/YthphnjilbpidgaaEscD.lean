/- esc.Parser in memory: do. Own work (rgn/XEscD.lean by rgn.py). -/
import Derived.Test.YthphnjilbpidgaaActs
namespace Go.Proofs.Ythphnjilbpidgaa
set_option linter.unusedVariables false
set_option linter.unusedSimpArgs false
open Go.RowKit

/-- A Parser at p, o, but for its rules. -/
structure EscC (w : World) (p o : Nat) (b : BP) : Prop where
  s : Cell w p (o + 1) (.int .u8 (b.s : Int))
  u : RdU w p (o + 2) b.u
  g : BegC w p (o + 7) b
/-- What a call turns: of block p the cells of the Parser, but for its rules; the acts' row, which is then the old one, or new. -/
structure PStep (p o : Nat) (A : Option Addr) (w : World) (A' : Option Addr) (w' : World) : Prop where
  keep : Keep (fun k => k = p ∨ blk A = some k) w w'
  at' : ∀ k, blk A' = some k → blk A = some k ∨ w.heap.size ≤ k
  out : ∀ i, i ≤ o ∨ o + 19 ≤ i → w'.cell? ⟨p, i, none⟩ = w.cell? ⟨p, i, none⟩ ∧ w'.frozen? ⟨p, i, none⟩ = w.frozen? ⟨p, i, none⟩
namespace PStep
variable {p o : Nat} {A A1 A2 : Option Addr} {w w1 w2 : World}
theorem refl (p o : Nat) (A : Option Addr) (w : World) : PStep p o A w A w := ⟨Keep.refl _ _, fun _ x => .inl x, fun _ _ => ⟨rfl, rfl⟩⟩
theorem trans (h : PStep p o A w A1 w1) (k : PStep p o A1 w1 A2 w2) : PStep p o A w A2 w2 :=
  ⟨h.keep.trans k.keep (fun i hi x => x.elim .inl (fun x => (h.at' i x).elim .inr (fun y => by omega))), fun i hi => (k.at' i hi).elim (fun x => h.at' i x) (fun x => .inr (Nat.le_trans h.keep.size x)),
    fun i hi => ⟨(k.out i hi).1.trans (h.out i hi).1, (k.out i hi).2.trans (h.out i hi).2⟩⟩
theorem of_span {lo hi : Nat} (h : SpanP p lo hi w w1) (h1 : o < lo) (h2 : hi ≤ o + 19) : PStep p o A w A w1 := ⟨h.keep.mono (fun _ _ x => .inl x), fun _ x => .inl x, fun i hi => h.out i (by omega)⟩
theorem of_kf (h : KF p (o + 2) (· = p) w w1) (hp : p < w.heap.size) : PStep p o A w A w1 := ⟨h.k.mono (fun _ _ x => .inl x), fun _ x => .inl x, fun i hi => h.f hp i (by omega)⟩
theorem of_acts (h : Keep (fun k => blk A = some k) w w1) (ha : ∀ k, blk A1 = some k → blk A = some k ∨ w.heap.size ≤ k) (hp : p < w.heap.size) (hA : blk A ≠ some p) : PStep p o A w A1 w1 :=
  ⟨h.mono (fun _ _ x => .inr x), ha, fun i _ => ⟨h.cell (p := ⟨p, i, none⟩) hp hA, h.frozen (p := ⟨p, i, none⟩) hp hA⟩⟩
theorem of_below (h : Below w.heap.size w w1) (hp : p < w.heap.size) : PStep p o A w A w1 :=
  ⟨Keep.of_below _ h, fun _ x => .inl x, fun i _ => ⟨h.cell (p := ⟨p, i, none⟩) hp, h.frozen (p := ⟨p, i, none⟩) hp⟩⟩
end PStep
namespace EscC
variable {w w' : World} {p o : Nat} {b b' : BP}
theorem lt (h : EscC w p o b) : p < w.heap.size := h.s.lt
theorem keep {S : Nat → Prop} (h : EscC w p o b) (k : Keep S w w') (hn : ¬ S p) : EscC w' p o b := ⟨h.s.keep k hn, h.u.keep k hn, h.g.keep k hn⟩
theorem below (h : EscC w p o b) (k : Below w.heap.size w w') : EscC w' p o b := h.keep (Keep.of_below (fun _ => False) k) (fun x => x)
end EscC
theorem RdU.span {w w' : World} {p o lo hi : Nat} {s : St} (h : RdU w p o s) (k : SpanP p lo hi w w') (hq : o + 5 ≤ lo ∨ hi ≤ o) : RdU w' p o s :=
  ⟨k.cell h.c0 (by omega), k.cell h.c1 (by omega), k.cell h.c2 (by omega), k.cell h.c3 (by omega), k.cell h.c4 (by omega), h.ok⟩
theorem KF.cell {p o : Nat} {S : Nat → Prop} {w w' : World} (h : KF p o S w w') {i : Nat} {v : Value} (c : Cell w p i v) (hi : i < o ∨ o + 5 ≤ i) : Cell w' p i v :=
  ⟨(h.f c.lt i hi).1.trans c.1, (h.f c.lt i hi).2.trans c.2⟩
theorem BegC.kf {w w' : World} {p q o : Nat} {S : Nat → Prop} {b : BP} (h : BegC w p q b) (k : KF p o S w w') (hq : o + 5 ≤ q) : BegC w' p q b :=
  ⟨k.cell h.m (by omega), k.cell h.i (by omega), ⟨fun j hj => k.cell (h.n.nn j hj) (by omega), k.cell h.n.cm (by omega), h.n.len, h.n.bd⟩, k.cell h.t (by omega)⟩
theorem EscC.kf {w w' : World} {p o : Nat} {b : BP} {u : St} (h : EscC w p o b) (k : KF p (o + 2) (· = p) w w') (hu : RdU w' p (o + 2) u) : EscC w' p o { b with u := u } :=
  ⟨k.cell h.s (by omega), hu, (h.g.kf k (by omega)).of_eq rfl rfl rfl rfl rfl⟩
theorem natsOf_one (c : Nat) (h : c < 256) : natsOf (bytesN [c]) = [c] := by
  simp [natsOf, bytesN]; omega
theorem feedU_one (s : St) (c : Nat) : feedU s [c] = byteU s c := by simp [feedU]

/-- What `do` answers. -/
def DoTo (p o B : Nat) (A : Option Addr) (n : Nat) (rs0 : List EAct) (x : BP × List EAct) (w : World) (e : Ending) (w' : World) : Prop :=
  ∃ A' c', e = .returned (.slice A' (n + x.2.length : Nat) c') ∧ ActsV w' B A' (n + x.2.length) c' (rs0 ++ x.2) ∧ EscC w' p o x.1 ∧ PStep p o A w A' w'

set_option maxRecDepth 100000 in
set_option maxHeartbeats 1600000 in
theorem do_print (p o B : Nat) (b : BP) (A : Option Addr) (n cc : Nat) (rs0 : List EAct) (c : Nat) (w : World) (h : EscC w p o b) (hA : ActsV w B A n cc rs0) (hpB : p < B) (hB : B ≤ w.heap.size) (hc : c < 256) (hn : n ≤ 900000000) :
    Calls Try.prog 32 #[.pointer (some ⟨p, o, none⟩), .slice A n cc, .int .u8 1, .int .i64 (c : Int)] w (DoTo p o B A n rs0 ({ b with u := (byteU b.u c).1 }, (byteU b.u c).2.map ePrint) w) := by
  have H := Lib.hid h
  have HA := Lib.hid hA
  have hpl := h.lt
  have HT := Lib.hid (fun W => esc_textOf c W hc)
  have hbl : (byteU b.u c).2.length ≤ 2 := by have := byteU_len h.u.ok c; have := St.some_le b.u; omega
  have HBL := Lib.hid hbl
  clear h hA hbl
  go_enter Try.func32, Try.ntmps32
  go_wp2_with fail
  refine wp_region_noPanic ?_
  refine wp_region_held_drew (S := fun w' => True) (by kernel_rfl) trivial (fun hHeld => ?_)
  refine wpAnyH_take (i := 0) (oi := _) (v := ?va0) rfl (by kernel_rfl) (by kernel_rfl) (by kernel_rfl) (fun _ _ _ h => h) (Or.inl ⟨by rfl, ?hya0⟩) (by assumption) ?resta0
  case hya0 => (intro w hSw; (try dsimp only at hSw); (try simp only [List.getElem_toArray, List.getElem_cons_zero, List.getElem_cons_succ]); go_simp; (try with_reducible rfl))
  (try simp only [Act.put, List.setIfInBounds_toArray, List.set_cons_zero, List.set_cons_succ, List.getElem_toArray, List.getElem_cons_zero, List.getElem_cons_succ])
  refine wpAnyH_take (i := 1) (oi := _) (v := ?va1) rfl (by kernel_rfl) (by kernel_rfl) (by kernel_rfl) (fun _ _ _ h => h) (Or.inl ⟨by rfl, ?hya1⟩) (by assumption) ?resta1
  case hya1 => (intro w hSw; (try dsimp only at hSw); (try simp only [List.getElem_toArray, List.getElem_cons_zero, List.getElem_cons_succ]); go_simp; (try with_reducible rfl))
  (try simp only [Act.put, List.setIfInBounds_toArray, List.set_cons_zero, List.set_cons_succ, List.getElem_toArray, List.getElem_cons_zero, List.getElem_cons_succ])
  refine wpAnyH_take (i := 2) (oi := _) (v := ?va2) rfl (by kernel_rfl) (by kernel_rfl) (by kernel_rfl) (fun _ _ _ h => h) (Or.inl ⟨by rfl, ?hya2⟩) (by assumption) ?resta2
  case hya2 => (intro w hSw; (try dsimp only at hSw); (try simp only [List.getElem_toArray, List.getElem_cons_zero, List.getElem_cons_succ]); go_simp; (try with_reducible rfl))
  (try simp only [Act.put, List.setIfInBounds_toArray, List.set_cons_zero, List.set_cons_succ, List.getElem_toArray, List.getElem_cons_zero, List.getElem_cons_succ])
  refine wpAnyH_take (i := 3) (oi := _) (v := ?va3) rfl (by kernel_rfl) (by kernel_rfl) (by kernel_rfl) (fun _ _ _ h => h) (Or.inl ⟨by rfl, ?hya3⟩) (by assumption) ?resta3
  case hya3 => (intro w hSw; (try dsimp only at hSw); (try simp only [List.getElem_toArray, List.getElem_cons_zero, List.getElem_cons_succ]); go_simp; (try with_reducible rfl))
  (try simp only [Act.put, List.setIfInBounds_toArray, List.set_cons_zero, List.set_cons_succ, List.getElem_toArray, List.getElem_cons_zero, List.getElem_cons_succ])
  refine wpAnyH_take (i := 4) (oi := _) (v := ?va4) rfl (by kernel_rfl) (by kernel_rfl) (by kernel_rfl) (fun _ _ _ h => h) (Or.inl ⟨by rfl, ?hya4⟩) (by assumption) ?resta4
  case hya4 => (intro w hSw; (try dsimp only at hSw); (try simp only [List.getElem_toArray, List.getElem_cons_zero, List.getElem_cons_succ]); go_simp; (try with_reducible rfl))
  (try simp only [Act.put, List.setIfInBounds_toArray, List.set_cons_zero, List.set_cons_succ, List.getElem_toArray, List.getElem_cons_zero, List.getElem_cons_succ])
  refine wpAnyH_ready (rs := [5]) (by kernel_rfl) (by simp) ?_
  refine AllReadyH.cons (o := _) rfl (fun K hK => ?_) AllReadyH.nil
  (try simp only [List.getElem_toArray, List.getElem_cons_zero, List.getElem_cons_succ])
  go_simp
  refine (HT.out _).mono ?_; rintro e w1 ⟨rfl, hb⟩; have B1 : Hid (Below w.heap.size w w1) := Lib.hid ⟨hb.os, hb.tape, hb.output, hb.size, hb.block⟩; clear hb; have hs1 := B1.out.size
  refine hK.out _ _ ?_ (fun hHeld => ?_)
  · trivial
  clear hK K
  (try simp only [Act.put, List.setIfInBounds_toArray, List.set_cons_zero, List.set_cons_succ, List.getElem_toArray, List.getElem_cons_zero, List.getElem_cons_succ])
  refine wpAnyH_ready (rs := [6]) (by kernel_rfl) (by simp) ?_
  refine AllReadyH.cons (o := _) rfl (fun K hK => ?_) AllReadyH.nil
  (try simp only [List.getElem_toArray, List.getElem_cons_zero, List.getElem_cons_succ])
  go_simp
  refine hK.out _ _ ?_ (fun hHeld => ?_)
  · trivial
  clear hK K
  (try simp only [Act.put, List.setIfInBounds_toArray, List.set_cons_zero, List.set_cons_succ, List.getElem_toArray, List.getElem_cons_zero, List.getElem_cons_succ])
  refine wpAnyH_ready (rs := [7]) (by kernel_rfl) (by simp) ?_
  refine AllReadyH.cons (o := _) rfl (fun K hK => ?_) AllReadyH.nil
  (try simp only [List.getElem_toArray, List.getElem_cons_zero, List.getElem_cons_succ])
  go_simp
  refine (utf_feed_one p (o + 2) b.u w1.heap.size (bytesN [c]) 1 _ (((H.out.below B1.out).u).alloc _) (by simp [go_sem, Array.size_push]) (by omega) (by rw [bytesN_size]; simp)).mono ?_; rintro e w2 ⟨v, rfl, ho, hu, hk⟩; rw [natsOf_one c hc, feedU_one] at ho hu; have K2 := Lib.hid ((KF.of_below p (o + 2) (· = p) B1.out).trans (((KF.refl p (o + 2) (· = p) w1).alloc _).trans hk (fun _ _ x => x)) (fun _ _ x => x)); have U2 := Lib.hid hu; have O2 := Lib.hid ho; have hs2 := K2.out.size; clear hk hu ho
  refine hK.out _ _ ?_ (fun hHeld => ?_)
  · trivial
  clear hK K
  (try simp only [Act.put, List.setIfInBounds_toArray, List.set_cons_zero, List.set_cons_succ, List.getElem_toArray, List.getElem_cons_zero, List.getElem_cons_succ])
  refine wpAnyH_ready (rs := [8]) (by kernel_rfl) (by simp) ?_
  refine AllReadyH.cons (o := _) rfl (fun K hK => ?_) AllReadyH.nil
  (try simp only [List.getElem_toArray, List.getElem_cons_zero, List.getElem_cons_succ])
  go_simp
  refine (esc_prints B A n cc rs0 v _ (byteU b.u c).2 w2 (HA.out.keep K2.out.k (fun i hi e => by omega)) (by omega) _ O2.out (by have := HBL.out; omega)).mono ?_; rintro e w3 ⟨A3, c3, rfl, h3, k3, a3⟩; have H3 := Lib.hid h3; have K3 := Lib.hid k3; have A3' := Lib.hid a3; clear h3 k3 a3
  refine hK.out _ _ ?_ (fun hHeld => ?_)
  · trivial
  clear hK K
  (try simp only [Act.put, List.setIfInBounds_toArray, List.set_cons_zero, List.set_cons_succ, List.getElem_toArray, List.getElem_cons_zero, List.getElem_cons_succ])
  refine wpAnyH_take (i := 9) (oi := _) (v := ?va9) rfl (by kernel_rfl) (by kernel_rfl) (by kernel_rfl) (fun _ _ _ h => h) (Or.inl ⟨by rfl, ?hya9⟩) (by assumption) ?resta9
  case hya9 => (intro w hSw; (try dsimp only at hSw); (try simp only [List.getElem_toArray, List.getElem_cons_zero, List.getElem_cons_succ]); go_simp; (try with_reducible rfl))
  (try simp only [Act.put, List.setIfInBounds_toArray, List.set_cons_zero, List.set_cons_succ, List.getElem_toArray, List.getElem_cons_zero, List.getElem_cons_succ])
  refine wpAnyH_done (by kernel_rfl) ?_ _
  refine NoPanic.normal ?_
  clear hHeld
  go_wp2_with fail
  go_ret
  refine ⟨A3, c3, by simp, by simpa using H3.out, ?_, ?_⟩
  · exact (H.out.kf K2.out U2.out).keep K3.out (fun e => by have := (HA.out.blk_ge e).1; omega)
  · exact (PStep.of_kf K2.out hpl).trans (PStep.of_acts K3.out A3'.out (by omega) (fun e => by have := (HA.out.blk_ge e).1; omega))

set_option maxRecDepth 100000 in
set_option maxHeartbeats 1600000 in
theorem do_control (p o B : Nat) (b : BP) (A : Option Addr) (n cc : Nat) (rs0 : List EAct) (c : Nat) (w : World) (h : EscC w p o b) (hA : ActsV w B A n cc rs0) (hpB : p < B) (hB : B ≤ w.heap.size) (hn : n ≤ 900000000) :
    Calls Try.prog 32 #[.pointer (some ⟨p, o, none⟩), .slice A n cc, .int .u8 2, .int .i64 (c : Int)] w (DoTo p o B A n rs0 (b, [eControl c]) w) := by
  have H := Lib.hid h
  have HA := Lib.hid hA
  have hpl := h.lt
  obtain ⟨A2, c2, w3, hr, h3, k3, a3⟩ := acts_append w (w.alloc (.cells #[.int .i64 2, .int .i32 0, .int .i64 (c : Int), .int .i64 0, .slice none 0 0, .string ⟨#[]⟩, .string ⟨#[]⟩] 51)) B A n cc rs0 (eControl c) (none, 0) w.heap.size hA ((Below.refl _ w).alloc (Nat.le_refl _) _) hB (numsRow_nil _ _ _ rfl)
    (act_cells_new w (eControl c) (none, 0) _ rfl _ rfl) (by omega)
  have HRU := Lib.hid hr
  have H3 := Lib.hid h3
  have K3 := Lib.hid k3
  have A3' := Lib.hid a3
  clear hr h3 k3 a3 h hA
  go_enter Try.func32, Try.ntmps32
  go_wp2_with (at_builtin; refine wpList_plain rfl fun K hK => ?_; unfold Oper.wp execOp; simp only [resolve, invoke, builtin, Sem.run_bind, Sem.run_pure, Result.andThen_ok, List.map_toArray, List.map_cons, List.map_nil]; rw [show (Builtin.append_ _ _ #[Act.eval _ _, Act.eval _ _]).run _ _ = _ from HRU.out]; refine hK _ _ ?_)
  go_wp2_with fail
  go_ret
  exact ⟨A2, c2, rfl, H3.out, (H.out.keep ((Keep.refl (fun _ => False) w).alloc _) (fun x => x)).keep K3.out (fun e => by have := (HA.out.blk_ge e).1; omega), (PStep.of_below ((Below.refl _ w).alloc (Nat.le_refl _) _) hpl).trans (PStep.of_acts K3.out A3'.out (by simp; omega) (fun e => by have := (HA.out.blk_ge e).1; omega))⟩

set_option maxRecDepth 100000 in
set_option maxHeartbeats 1600000 in
theorem do_escape (p o B : Nat) (b : BP) (A : Option Addr) (n cc : Nat) (rs0 : List EAct) (c : Nat) (w : World) (h : EscC w p o b) (hA : ActsV w B A n cc rs0) (hpB : p < B) (hB : B ≤ w.heap.size) (hn : n ≤ 900000000) :
    Calls Try.prog 32 #[.pointer (some ⟨p, o, none⟩), .slice A n cc, .int .u8 3, .int .i64 (c : Int)] w (DoTo p o B A n rs0 (b, [eEscape b.inter c]) w) := by
  have H := Lib.hid h
  have HA := Lib.hid hA
  have hpl := h.lt
  have c8 : w.cell? ⟨p, o + 7 + 1, none⟩ = some (.string (bytesN b.inter)) := h.g.i.1
  have c8' : w.cell? ⟨p, o + 8, none⟩ = some (.string (bytesN b.inter)) := h.g.i.1
  obtain ⟨A2, c2, w3, hr, h3, k3, a3⟩ := acts_append w (w.alloc (.cells #[.int .i64 3, .int .i32 0, .int .i64 (c : Int), .int .i64 0, .slice none 0 0, .string (bytesN b.inter), .string ⟨#[]⟩] 51)) B A n cc rs0 (eEscape b.inter c) (none, 0) w.heap.size hA ((Below.refl _ w).alloc (Nat.le_refl _) _) hB (numsRow_nil _ _ _ rfl)
    (act_cells_new w (eEscape b.inter c) (none, 0) _ rfl _ rfl) (by omega)
  have HRU := Lib.hid hr
  have H3 := Lib.hid h3
  have K3 := Lib.hid k3
  have A3' := Lib.hid a3
  clear hr h3 k3 a3 h hA
  go_enter Try.func32, Try.ntmps32
  go_wp2_with (at_builtin; refine wpList_plain rfl fun K hK => ?_; unfold Oper.wp execOp; simp only [resolve, invoke, builtin, Sem.run_bind, Sem.run_pure, Result.andThen_ok, List.map_toArray, List.map_cons, List.map_nil]; rw [show (Builtin.append_ _ _ #[Act.eval _ _, Act.eval _ _]).run _ _ = _ from HRU.out]; refine hK _ _ ?_)
  go_wp2_with fail
  go_ret
  exact ⟨A2, c2, rfl, H3.out, (H.out.keep ((Keep.refl (fun _ => False) w).alloc _) (fun x => x)).keep K3.out (fun e => by have := (HA.out.blk_ge e).1; omega), (PStep.of_below ((Below.refl _ w).alloc (Nat.le_refl _) _) hpl).trans (PStep.of_acts K3.out A3'.out (by simp; omega) (fun e => by have := (HA.out.blk_ge e).1; omega))⟩

set_option maxRecDepth 100000 in
set_option maxHeartbeats 1600000 in
theorem do_osc (p o B : Nat) (b : BP) (A : Option Addr) (n cc : Nat) (rs0 : List EAct) (c : Nat) (w : World) (h : EscC w p o b) (hA : ActsV w B A n cc rs0) (hpB : p < B) (hB : B ≤ w.heap.size) (hn : n ≤ 900000000) :
    Calls Try.prog 32 #[.pointer (some ⟨p, o, none⟩), .slice A n cc, .int .u8 5, .int .i64 (c : Int)] w (DoTo p o B A n rs0 (b, [eText 5 b.text]) w) := by
  have H := Lib.hid h
  have HA := Lib.hid hA
  have hpl := h.lt
  have c8 : w.cell? ⟨p, o + 7 + 11, none⟩ = some (.string (bytesN b.text)) := h.g.t.1
  have c8' : w.cell? ⟨p, o + 18, none⟩ = some (.string (bytesN b.text)) := h.g.t.1
  obtain ⟨A2, c2, w3, hr, h3, k3, a3⟩ := acts_append w (w.alloc (.cells #[.int .i64 5, .int .i32 0, .int .i64 0, .int .i64 0, .slice none 0 0, .string ⟨#[]⟩, .string (bytesN b.text)] 51)) B A n cc rs0 (eText 5 b.text) (none, 0) w.heap.size hA ((Below.refl _ w).alloc (Nat.le_refl _) _) hB (numsRow_nil _ _ _ rfl)
    (act_cells_new w (eText 5 b.text) (none, 0) _ rfl _ rfl) (by omega)
  have HRU := Lib.hid hr
  have H3 := Lib.hid h3
  have K3 := Lib.hid k3
  have A3' := Lib.hid a3
  clear hr h3 k3 a3 h hA
  go_enter Try.func32, Try.ntmps32
  go_wp2_with (at_builtin; refine wpList_plain rfl fun K hK => ?_; unfold Oper.wp execOp; simp only [resolve, invoke, builtin, Sem.run_bind, Sem.run_pure, Result.andThen_ok, List.map_toArray, List.map_cons, List.map_nil]; rw [show (Builtin.append_ _ _ #[Act.eval _ _, Act.eval _ _]).run _ _ = _ from HRU.out]; refine hK _ _ ?_)
  go_wp2_with fail
  go_ret
  exact ⟨A2, c2, rfl, H3.out, (H.out.keep ((Keep.refl (fun _ => False) w).alloc _) (fun x => x)).keep K3.out (fun e => by have := (HA.out.blk_ge e).1; omega), (PStep.of_below ((Below.refl _ w).alloc (Nat.le_refl _) _) hpl).trans (PStep.of_acts K3.out A3'.out (by simp; omega) (fun e => by have := (HA.out.blk_ge e).1; omega))⟩

set_option maxRecDepth 100000 in
set_option maxHeartbeats 1600000 in
theorem do_dcs (p o B : Nat) (b : BP) (A : Option Addr) (n cc : Nat) (rs0 : List EAct) (c : Nat) (w : World) (h : EscC w p o b) (hA : ActsV w B A n cc rs0) (hpB : p < B) (hB : B ≤ w.heap.size) (hn : n ≤ 900000000) :
    Calls Try.prog 32 #[.pointer (some ⟨p, o, none⟩), .slice A n cc, .int .u8 6, .int .i64 (c : Int)] w (DoTo p o B A n rs0 (b, [eText 6 b.text]) w) := by
  have H := Lib.hid h
  have HA := Lib.hid hA
  have hpl := h.lt
  have c8 : w.cell? ⟨p, o + 7 + 11, none⟩ = some (.string (bytesN b.text)) := h.g.t.1
  have c8' : w.cell? ⟨p, o + 18, none⟩ = some (.string (bytesN b.text)) := h.g.t.1
  obtain ⟨A2, c2, w3, hr, h3, k3, a3⟩ := acts_append w (w.alloc (.cells #[.int .i64 6, .int .i32 0, .int .i64 0, .int .i64 0, .slice none 0 0, .string ⟨#[]⟩, .string (bytesN b.text)] 51)) B A n cc rs0 (eText 6 b.text) (none, 0) w.heap.size hA ((Below.refl _ w).alloc (Nat.le_refl _) _) hB (numsRow_nil _ _ _ rfl)
    (act_cells_new w (eText 6 b.text) (none, 0) _ rfl _ rfl) (by omega)
  have HRU := Lib.hid hr
  have H3 := Lib.hid h3
  have K3 := Lib.hid k3
  have A3' := Lib.hid a3
  clear hr h3 k3 a3 h hA
  go_enter Try.func32, Try.ntmps32
  go_wp2_with (at_builtin; refine wpList_plain rfl fun K hK => ?_; unfold Oper.wp execOp; simp only [resolve, invoke, builtin, Sem.run_bind, Sem.run_pure, Result.andThen_ok, List.map_toArray, List.map_cons, List.map_nil]; rw [show (Builtin.append_ _ _ #[Act.eval _ _, Act.eval _ _]).run _ _ = _ from HRU.out]; refine hK _ _ ?_)
  go_wp2_with fail
  go_ret
  exact ⟨A2, c2, rfl, H3.out, (H.out.keep ((Keep.refl (fun _ => False) w).alloc _) (fun x => x)).keep K3.out (fun e => by have := (HA.out.blk_ge e).1; omega), (PStep.of_below ((Below.refl _ w).alloc (Nat.le_refl _) _) hpl).trans (PStep.of_acts K3.out A3'.out (by simp; omega) (fun e => by have := (HA.out.blk_ge e).1; omega))⟩

set_option maxRecDepth 100000 in
set_option maxHeartbeats 1600000 in
theorem do_csi (p o B : Nat) (b : BP) (A : Option Addr) (n cc : Nat) (rs0 : List EAct) (c : Nat) (w : World) (h : EscC w p o b) (hA : ActsV w B A n cc rs0) (hpB : p < B) (hB : B ≤ w.heap.size) (hn : n ≤ 900000000) :
    Calls Try.prog 32 #[.pointer (some ⟨p, o, none⟩), .slice A n cc, .int .u8 4, .int .i64 (c : Int)] w (DoTo p o B A n rs0 (b, [eCsi b.mark b.nums b.inter c]) w) := by
  have H := Lib.hid h
  have HA := Lib.hid hA
  have hpl := h.lt
  have cm : w.cell? ⟨p, o + 7, none⟩ = some (.int .i64 (b.mark : Int)) := h.g.m.1
  have ci : w.cell? ⟨p, o + 7 + 1, none⟩ = some (.string (bytesN b.inter)) := h.g.i.1
  have ci' : w.cell? ⟨p, o + 8, none⟩ = some (.string (bytesN b.inter)) := h.g.i.1
  have HN := Lib.hid (fun W hN => num_all p (o + 7 + 2) b.nums b.came W hN)
  clear h hA
  go_enter Try.func32, Try.ntmps32
  go_wp2_with fail
  refine wp_region_noPanic ?_
  refine wp_region_held_drew (S := fun w' => w'.cell? ⟨p, o + 7, none⟩ = some (.int .i64 (b.mark : Int)) ∧ w'.cell? ⟨p, o + 7 + 1, none⟩ = some (.string (bytesN b.inter)) ∧ w'.cell? ⟨p, o + 8, none⟩ = some (.string (bytesN b.inter))) (by kernel_rfl) ⟨cm, ci, ci'⟩ (fun hHeld => ?_)
  refine wpAnyH_take (i := 0) (oi := _) (v := ?va0) rfl (by kernel_rfl) (by kernel_rfl) (by kernel_rfl) (fun _ _ _ h => h) (Or.inl ⟨by rfl, ?hya0⟩) (by assumption) ?resta0
  case hya0 => (intro w hSw; (try dsimp only at hSw); (try simp only [List.getElem_toArray, List.getElem_cons_zero, List.getElem_cons_succ]); go_simp; (try with_reducible rfl))
  (try simp only [Act.put, List.setIfInBounds_toArray, List.set_cons_zero, List.set_cons_succ, List.getElem_toArray, List.getElem_cons_zero, List.getElem_cons_succ])
  refine wpAnyH_take (i := 1) (oi := _) (v := ?va1) rfl (by kernel_rfl) (by kernel_rfl) (by kernel_rfl) (fun _ _ _ h => h) (Or.inl ⟨by rfl, ?hya1⟩) (by assumption) ?resta1
  case hya1 => (intro w hSw; (try dsimp only at hSw); (try simp only [List.getElem_toArray, List.getElem_cons_zero, List.getElem_cons_succ]); go_simp; (try with_reducible rfl))
  (try simp only [Act.put, List.setIfInBounds_toArray, List.set_cons_zero, List.set_cons_succ, List.getElem_toArray, List.getElem_cons_zero, List.getElem_cons_succ])
  refine wpAnyH_take (i := 2) (oi := _) (v := ?va2) rfl (by kernel_rfl) (by kernel_rfl) (by kernel_rfl) (fun _ _ _ h => h) (Or.inl ⟨by rfl, ?hya2⟩) (by assumption) ?resta2
  case hya2 => (intro w hSw; (try dsimp only at hSw); (try simp only [List.getElem_toArray, List.getElem_cons_zero, List.getElem_cons_succ]); go_simp; (try with_reducible rfl))
  (try simp only [Act.put, List.setIfInBounds_toArray, List.set_cons_zero, List.set_cons_succ, List.getElem_toArray, List.getElem_cons_zero, List.getElem_cons_succ])
  refine wpAnyH_take (i := 3) (oi := _) (v := ?va3) rfl (by kernel_rfl) (by kernel_rfl) (by kernel_rfl) (fun _ _ _ h => h) (Or.inl ⟨by rfl, ?hya3⟩) (by assumption) ?resta3
  case hya3 => (intro w hSw; (try dsimp only at hSw); (try simp only [List.getElem_toArray, List.getElem_cons_zero, List.getElem_cons_succ]); go_simp; (try with_reducible rfl))
  (try simp only [Act.put, List.setIfInBounds_toArray, List.set_cons_zero, List.set_cons_succ, List.getElem_toArray, List.getElem_cons_zero, List.getElem_cons_succ])
  refine wpAnyH_take (i := 4) (oi := _) (v := ?va4) rfl (by kernel_rfl) (by kernel_rfl) (by kernel_rfl) (fun _ _ _ h => h) (Or.inl ⟨by rfl, ?hya4⟩) (by assumption) ?resta4
  case hya4 => (intro w hSw; (try dsimp only at hSw); (try simp only [List.getElem_toArray, List.getElem_cons_zero, List.getElem_cons_succ]); go_simp; (try with_reducible rfl))
  (try simp only [Act.put, List.setIfInBounds_toArray, List.set_cons_zero, List.set_cons_succ, List.getElem_toArray, List.getElem_cons_zero, List.getElem_cons_succ])
  refine wpAnyH_take (i := 5) (oi := _) (v := ?va5) rfl (by kernel_rfl) (by kernel_rfl) (by kernel_rfl) (fun _ _ _ h => h) (Or.inl ⟨by rfl, ?hya5⟩) (by assumption) ?resta5
  case hya5 => (intro w hSw; (try dsimp only at hSw); (try simp only [List.getElem_toArray, List.getElem_cons_zero, List.getElem_cons_succ]); go_simp; (try with_reducible rfl))
  (try simp only [Act.put, List.setIfInBounds_toArray, List.set_cons_zero, List.set_cons_succ, List.getElem_toArray, List.getElem_cons_zero, List.getElem_cons_succ])
  refine wpAnyH_take (i := 6) (oi := _) (v := ?va6) rfl (by kernel_rfl) (by kernel_rfl) (by kernel_rfl) (fun _ _ _ h => h) (Or.inl ⟨by rfl, ?hya6⟩) (by assumption) ?resta6
  case hya6 => (intro w hSw; (try dsimp only at hSw); (try simp only [List.getElem_toArray, List.getElem_cons_zero, List.getElem_cons_succ]); go_simp; (try with_reducible rfl))
  (try simp only [Act.put, List.setIfInBounds_toArray, List.set_cons_zero, List.set_cons_succ, List.getElem_toArray, List.getElem_cons_zero, List.getElem_cons_succ])
  refine wpAnyH_take (i := 7) (oi := _) (v := ?va7) rfl (by kernel_rfl) (by kernel_rfl) (by kernel_rfl) (fun _ _ _ h => h) (Or.inl ⟨by rfl, ?hya7⟩) (by assumption) ?resta7
  case hya7 => (intro w hSw; (try dsimp only at hSw); (try simp only [List.getElem_toArray, List.getElem_cons_zero, List.getElem_cons_succ]); go_simp; (try with_reducible rfl))
  (try simp only [Act.put, List.setIfInBounds_toArray, List.set_cons_zero, List.set_cons_succ, List.getElem_toArray, List.getElem_cons_zero, List.getElem_cons_succ])
  refine wpAnyH_take (i := 9) (oi := _) (v := ?va9) rfl (by kernel_rfl) (by kernel_rfl) (by kernel_rfl) (fun _ _ _ h => h) (Or.inl ⟨by rfl, ?hya9⟩) (by assumption) ?resta9
  case hya9 => (intro w hSw; (try dsimp only at hSw); (try simp only [List.getElem_toArray, List.getElem_cons_zero, List.getElem_cons_succ]); go_simp; (try with_reducible rfl))
  (try simp only [Act.put, List.setIfInBounds_toArray, List.set_cons_zero, List.set_cons_succ, List.getElem_toArray, List.getElem_cons_zero, List.getElem_cons_succ])
  refine wpAnyH_take (i := 10) (oi := _) (v := ?va10) rfl (by kernel_rfl) (by kernel_rfl) (by kernel_rfl) (fun _ _ _ h => h) (Or.inl ⟨by rfl, ?hya10⟩) (by assumption) ?resta10
  case hya10 => (intro w hSw; (try dsimp only at hSw); (try simp only [List.getElem_toArray, List.getElem_cons_zero, List.getElem_cons_succ]); go_simp; (try with_reducible rfl))
  (try simp only [Act.put, List.setIfInBounds_toArray, List.set_cons_zero, List.set_cons_succ, List.getElem_toArray, List.getElem_cons_zero, List.getElem_cons_succ])
  refine wpAnyH_take (i := 11) (oi := _) (v := ?va11) rfl (by kernel_rfl) (by kernel_rfl) (by kernel_rfl) (fun _ _ _ h => h) (Or.inl ⟨by rfl, ?hya11⟩) (by assumption) ?resta11
  case hya11 => (intro w hSw; (try dsimp only at hSw); (try simp only [List.getElem_toArray, List.getElem_cons_zero, List.getElem_cons_succ]); go_simp; (try with_reducible rfl))
  (try simp only [Act.put, List.setIfInBounds_toArray, List.set_cons_zero, List.set_cons_succ, List.getElem_toArray, List.getElem_cons_zero, List.getElem_cons_succ])
  refine wpAnyH_take (i := 12) (oi := _) (v := ?va12) rfl (by kernel_rfl) (by kernel_rfl) (by kernel_rfl) (fun _ _ _ h => h) (Or.inl ⟨by rfl, ?hya12⟩) (by assumption) ?resta12
  case hya12 => (intro w hSw; (try dsimp only at hSw); (try simp only [List.getElem_toArray, List.getElem_cons_zero, List.getElem_cons_succ]); go_simp; (try with_reducible rfl))
  (try simp only [Act.put, List.setIfInBounds_toArray, List.set_cons_zero, List.set_cons_succ, List.getElem_toArray, List.getElem_cons_zero, List.getElem_cons_succ])
  refine wpAnyH_take (i := 13) (oi := _) (v := ?va13) rfl (by kernel_rfl) (by kernel_rfl) (by kernel_rfl) (fun _ _ _ h => h) (Or.inl ⟨by rfl, ?hya13⟩) (by assumption) ?resta13
  case hya13 => (intro w hSw; (try dsimp only at hSw); (try simp only [List.getElem_toArray, List.getElem_cons_zero, List.getElem_cons_succ]); go_simp; (try with_reducible rfl))
  (try simp only [Act.put, List.setIfInBounds_toArray, List.set_cons_zero, List.set_cons_succ, List.getElem_toArray, List.getElem_cons_zero, List.getElem_cons_succ])
  refine wpAnyH_ready (rs := [8]) (by kernel_rfl) (by simp) ?_
  refine AllReadyH.cons (o := _) rfl (fun K hK => ?_) AllReadyH.nil
  (try simp only [List.getElem_toArray, List.getElem_cons_zero, List.getElem_cons_succ])
  go_simp
  refine (HN.out _ H.out.g.n.drew).mono ?_; rintro e w1 ⟨NA, nd, rfl, hno, hb⟩; have B1 : Hid (Below w.heap.size w w1) := Lib.hid ⟨hb.os, hb.tape, hb.output, hb.size, hb.block⟩; have NO : Hid (w1.ownsRow w.heap.size 3 1 (.slice NA b.nums.length nd) b.nums.length (b.nums.map (Value.int .i64))) := Lib.hid hno; have hs1 := B1.out.size; clear hb hno; obtain ⟨A2, c2, w3, hr, h3, k3, a3⟩ := acts_append w (w1.alloc (.cells #[.int .i64 4, .int .i32 0, .int .i64 (c : Int), .int .i64 (b.mark : Int), .slice NA b.nums.length nd, .string (bytesN b.inter), .string ⟨#[]⟩] 51)) B A n cc rs0 (eCsi b.mark b.nums b.inter c) (NA, nd) w1.heap.size HA.out (B1.out.alloc hs1 _) hB (NO.out.alloc _) (act_cells_new w1 (eCsi b.mark b.nums b.inter c) (NA, nd) _ rfl _ rfl) (by omega); have HRU := Lib.hid hr; have H3 := Lib.hid h3; have K3 := Lib.hid k3; have A3' := Lib.hid a3; have HC1 := Lib.hid (H.out.below B1.out); clear hr h3 k3 a3
  refine hK.out _ _ ?_ (fun hHeld => ?_)
  · exact ⟨HC1.out.g.m.1, HC1.out.g.i.1, HC1.out.g.i.1⟩
  clear hK K
  (try simp only [Act.put, List.setIfInBounds_toArray, List.set_cons_zero, List.set_cons_succ, List.getElem_toArray, List.getElem_cons_zero, List.getElem_cons_succ])
  refine wpAnyH_take (i := 14) (oi := _) (v := ?va14) rfl (by kernel_rfl) (by kernel_rfl) (by kernel_rfl) (fun _ _ _ h => h) (Or.inl ⟨by rfl, ?hya14⟩) (by assumption) ?resta14
  case hya14 => (intro w hSw; (try dsimp only at hSw); (try simp only [List.getElem_toArray, List.getElem_cons_zero, List.getElem_cons_succ]); go_simp; (try with_reducible rfl))
  (try simp only [Act.put, List.setIfInBounds_toArray, List.set_cons_zero, List.set_cons_succ, List.getElem_toArray, List.getElem_cons_zero, List.getElem_cons_succ])
  refine wpAnyH_ready (rs := [15]) (by kernel_rfl) (by simp) ?_
  refine AllReadyH.cons (o := _) rfl (fun K hK => ?_) AllReadyH.nil
  (try simp only [List.getElem_toArray, List.getElem_cons_zero, List.getElem_cons_succ])
  go_simp
  refine hK.out _ _ ?_ (fun hHeld => ?_)
  · exact ⟨(HC1.out.g.m.alloc _).1, (HC1.out.g.i.alloc _).1, (HC1.out.g.i.alloc _).1⟩
  clear hK K
  (try simp only [Act.put, List.setIfInBounds_toArray, List.set_cons_zero, List.set_cons_succ, List.getElem_toArray, List.getElem_cons_zero, List.getElem_cons_succ])
  refine wpAnyH_ready (rs := [16]) (by kernel_rfl) (by simp) ?_
  refine AllReadyH.cons (o := _) rfl (fun K hK => ?_) AllReadyH.nil
  (try simp only [List.getElem_toArray, List.getElem_cons_zero, List.getElem_cons_succ])
  rw [if_pos (by rfl)]; unfold Oper.wp execOp; simp only [resolve, invoke, builtin, Sem.run_bind, Sem.run_pure, Result.andThen_ok, List.map_toArray, List.map_cons, List.map_nil]; rw [show (Builtin.append_ _ _ #[Act.eval _ _, Act.eval _ _]).run _ _ = _ from HRU.out]; have HC3 := Lib.hid ((HC1.out.keep ((Keep.refl (fun _ => False) w1).alloc _) (fun x => x)).keep K3.out (fun e => by have := (HA.out.blk_ge e).1; omega))
  refine hK.out _ _ ?_ (fun hHeld => ?_)
  · exact ⟨HC3.out.g.m.1, HC3.out.g.i.1, HC3.out.g.i.1⟩
  clear hK K
  (try simp only [Act.put, List.setIfInBounds_toArray, List.set_cons_zero, List.set_cons_succ, List.getElem_toArray, List.getElem_cons_zero, List.getElem_cons_succ])
  refine wpAnyH_take (i := 17) (oi := _) (v := ?va17) rfl (by kernel_rfl) (by kernel_rfl) (by kernel_rfl) (fun _ _ _ h => h) (Or.inl ⟨by rfl, ?hya17⟩) (by assumption) ?resta17
  case hya17 => (intro w hSw; (try dsimp only at hSw); (try simp only [List.getElem_toArray, List.getElem_cons_zero, List.getElem_cons_succ]); go_simp; (try with_reducible rfl))
  (try simp only [Act.put, List.setIfInBounds_toArray, List.set_cons_zero, List.set_cons_succ, List.getElem_toArray, List.getElem_cons_zero, List.getElem_cons_succ])
  refine wpAnyH_done (by kernel_rfl) ?_ _
  refine NoPanic.normal ?_
  clear hHeld
  go_wp2_with fail
  go_ret
  exact ⟨A2, c2, rfl, H3.out, HC3.out, (PStep.of_below (B1.out.alloc hs1 _) hpl).trans (PStep.of_acts K3.out A3'.out (by simp; omega) (fun e => by have := (HA.out.blk_ge e).1; omega))⟩

set_option maxRecDepth 100000 in
set_option maxHeartbeats 1600000 in
theorem do_keep (p o B : Nat) (b : BP) (A : Option Addr) (n cc : Nat) (rs0 : List EAct) (d c : Nat) (w : World) (h : EscC w p o b) (hA : ActsV w B A n cc rs0) (hpB : p < B) (hb : b.Ok) (hc : c < 256) (hn : b.came < 1000000000) (hd9 : d = 9 → 48 ≤ c ∧ c ≤ 57) (hd : d = 0 ∨ 6 < d) :
    Calls Try.prog 32 #[.pointer (some ⟨p, o, none⟩), .slice A n cc, .int .u8 (d : Int), .int .i64 (c : Int)] w (DoTo p o B A n rs0 (keepE b d c, []) w) := by
  have H := Lib.hid h
  have HA := Lib.hid hA
  have hpl := h.lt
  have HK := Lib.hid (esc_keep p (o + 7) b d c w h.g (by have := hb.few; omega) (by have := hb.tx; omega) hc hn hd9)
  have t1 : ((d : Int) == 1) = false := by simp; omega
  have t2 : ((d : Int) == 2) = false := by simp; omega
  have t3 : ((d : Int) == 3) = false := by simp; omega
  have t4 : ((d : Int) == 4) = false := by simp; omega
  have t5 : ((d : Int) == 5) = false := by simp; omega
  have t6 : ((d : Int) == 6) = false := by simp; omega
  have hs : (keepE b d c).s = b.s ∧ (keepE b d c).u = b.u := by
    unfold keepE
    repeat' split
    all_goals exact ⟨rfl, rfl⟩
  have HS := Lib.hid hs
  clear h hA hb hc hn hd9 hd hs
  go_enter Try.func32, Try.ntmps32
  go_wp2_with fail
  refine HK.out.mono ?_
  rintro e w1 ⟨rfl, h1, h2⟩
  have H1 := Lib.hid h1
  have H2 := Lib.hid h2
  clear h1 h2
  go_wp2_with fail
  go_ret
  refine ⟨A, cc, rfl, by simpa using HA.out.keep H2.out.keep (fun i hi e => by omega), ⟨?_, ?_, H1.out⟩, PStep.of_span H2.out (by omega) (by omega)⟩
  · rw [HS.out.1]; exact H2.out.cell H.out.s (by omega)
  · rw [HS.out.2]; exact H.out.u.span H2.out (by omega)

/-- do. -/
theorem esc_do (p o B : Nat) (b : BP) (A : Option Addr) (n cc : Nat) (rs0 : List EAct) (d c : Nat) (w : World) (h : EscC w p o b) (hA : ActsV w B A n cc rs0) (hpB : p < B) (hB : B ≤ w.heap.size) (hb : b.Ok) (hc : c < 256) (hn : b.came < 1000000000) (hd9 : d = 9 → 48 ≤ c ∧ c ≤ 57) (hnn : n ≤ 900000000) :
    Calls Try.prog 32 #[.pointer (some ⟨p, o, none⟩), .slice A n cc, .int .u8 (d : Int), .int .i64 (c : Int)] w (DoTo p o B A n rs0 (doE b d c) w) := by
  by_cases h1 : d = 1
  · subst h1; exact do_print p o B b A n cc rs0 c w h hA hpB hB hc hnn
  by_cases h2 : d = 2
  · subst h2; exact do_control p o B b A n cc rs0 c w h hA hpB hB hnn
  by_cases h3 : d = 3
  · subst h3; exact do_escape p o B b A n cc rs0 c w h hA hpB hB hnn
  by_cases h4 : d = 4
  · subst h4; exact do_csi p o B b A n cc rs0 c w h hA hpB hB hnn
  by_cases h5 : d = 5
  · subst h5; exact do_osc p o B b A n cc rs0 c w h hA hpB hB hnn
  by_cases h6 : d = 6
  · subst h6; exact do_dcs p o B b A n cc rs0 c w h hA hpB hB hnn
  have e : doE b d c = (keepE b d c, []) := by unfold doE; simp [h1, h2, h3, h4, h5, h6]
  rw [e]
  exact do_keep p o B b A n cc rs0 d c w h hA hpB hb hc hn hd9 (by omega)

end Go.Proofs.Ythphnjilbpidgaa
