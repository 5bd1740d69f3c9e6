/- Two ports, and those of the document's own answer. Own work. -/
import Derived.Test.YtncpjapfkcgjnaaDoorFrmRefP
import Derived.Test.YtncpjapfkcgjnaaDoorFrmAlive
namespace Go.Proofs.YtncpjapfkcgjnaaDoor
set_option linter.unusedVariables false
set_option linter.unusedSimpArgs false
open Go.RowKit

theorem i64_and1 (n : Int) : bits .and .i64 n 1 = n % 2 := by
  have h1 : (BitVec.ofInt 64 1).toNat = 2 ^ 1 - 1 := by decide
  have key : (BitVec.ofInt 64 n &&& BitVec.ofInt 64 1).toNat = (n % ((2 ^ 64 : Nat) : Int)).toNat % 2 ^ 1 := by
    rw [BitVec.toNat_and, BitVec.toNat_ofInt, h1, Nat.and_two_pow_sub_one_eq_mod]
  show IntKind.i64.wrap ((BitVec.ofInt 64 n &&& BitVec.ofInt 64 1).toNat : Nat) = n % 2
  rw [key, IntKind.wrap_i64]
  omega

theorem port_of (n : Int) : ∃ a : Nat, a < 2 ∧ bits .and .i64 n 1 = (a : Int) := ⟨(n % 2).toNat, by omega, by rw [i64_and1]; omega⟩

theorem take_zero {key b : List UInt8} {way : Int} {fresh : Int → Bool} (h : (takeL key b way fresh).2 = 0) : fresh (takeL key b way fresh).1.seq = true := by
  unfold takeL at h ⊢
  by_cases h1 : (readL key b).2 = 0
  · rw [if_pos h1] at h ⊢
    by_cases h2 : (readL key b).1.way = way
    · rw [if_pos h2] at h; simp at h
    · rw [if_neg h2] at h ⊢
      by_cases h3 : fresh (readL key b).1.seq = true
      · rw [if_pos h3]; exact h3
      · rw [if_neg h3] at h; simp at h
  · rw [if_neg h1] at h; exact absurd h h1

/-- What a port keeps. -/
structure PSt where
  sent : Int
  t : Int
  A : Option Addr
  c : Nat
  g : List Int

def updP (st : Nat → PSt) (a : Nat) (x : PSt) : Nat → PSt := fun i => if i = a then x else st i

theorem updP_same (st : Nat → PSt) (a : Nat) (x : PSt) : updP st a x a = x := if_pos rfl
theorem updP_other (st : Nat → PSt) (a i : Nat) (x : PSt) (h : i ≠ a) : updP st a x i = st i := if_neg h

structure Pairs (w0 : World) (pw pr : Nat → Nat) (bp br : Nat) (key : ByteArray) (sp sr : Nat → PSt) (SA : Option Addr) (sc : Nat) (dl : List ByteArray) (w : World) : Prop where
  port : ∀ a, a < 2 → PortAt w (pw a) key ((a : Int) + 1) (sp a).sent (sp a).t (bitsF (sp a).t (sp a).g)
  ref : ∀ a, a < 2 → RefPort w (pr a) key ((a : Int) + 1) (sr a).sent (sr a).t (sr a).A (sr a).c (sr a).g
  ptr : ∀ a, a < 2 → w.cell? ⟨bp, a, none⟩ = some (.pointer (some ⟨pw a, 0, none⟩))
  rtr : ∀ a, a < 2 → w.cell? ⟨br, a, none⟩ = some (.pointer (some ⟨pr a, 0, none⟩))
  sent : Buf w SA dl.length sc (dl.map Value.string)
  base : Below w0.heap.size w0 w
  o0 : w0.heap.size ≤ pw 0
  o1 : pw 0 < pw 1
  o2 : pw 1 < bp
  o3 : bp < pr 0
  o4 : pr 0 < pr 1
  o5 : pr 1 < br
  o6 : br < w.heap.size
  rowA : ∀ a, a < 2 → ∀ k, blk (sr a).A = some k → br < k ∧ blk SA ≠ some k
  rowS : ∀ k, blk SA = some k → br < k

theorem two_cases {a : Nat} (h : a < 2) : a = 0 ∨ a = 1 := by omega

namespace Pairs
variable {w0 w w' : World} {pw pr : Nat → Nat} {bp br : Nat} {key : ByteArray} {sp sr : Nat → PSt} {SA : Option Addr} {sc : Nat} {dl : List ByteArray}

theorem pw_lt (h : Pairs w0 pw pr bp br key sp sr SA sc dl w) {a : Nat} (ha : a < 2) : w0.heap.size ≤ pw a ∧ pw a < bp := by
  have := h.o0; have := h.o1; have := h.o2
  rcases two_cases ha with rfl | rfl <;> omega
theorem pr_lt (h : Pairs w0 pw pr bp br key sp sr SA sc dl w) {a : Nat} (ha : a < 2) : bp < pr a ∧ pr a < br := by
  have := h.o3; have := h.o4; have := h.o5
  rcases two_cases ha with rfl | rfl <;> omega
theorem pw_ne (h : Pairs w0 pw pr bp br key sp sr SA sc dl w) {a i : Nat} (ha : a < 2) (hi : i < 2) (hn : i ≠ a) : pw i ≠ pw a := by
  have := h.o1
  rcases two_cases ha with rfl | rfl <;> rcases two_cases hi with rfl | rfl <;> omega
theorem pr_ne (h : Pairs w0 pw pr bp br key sp sr SA sc dl w) {a i : Nat} (ha : a < 2) (hi : i < 2) (hn : i ≠ a) : pr i ≠ pr a := by
  have := h.o4
  rcases two_cases ha with rfl | rfl <;> rcases two_cases hi with rfl | rfl <;> omega

/-- Nothing of it was turned. -/
theorem keep {S : Nat → Prop} (h : Pairs w0 pw pr bp br key sp sr SA sc dl w) (k : Keep S w w') (hS : ∀ i, S i → br < i) (hA : ∀ a, a < 2 → ∀ i, blk (sr a).A = some i → ¬ S i) (hs : ∀ i, blk SA = some i → ¬ S i) : Pairs w0 pw pr bp br key sp sr SA sc dl w' := by
  have h0 := h.o0; have h2 := h.o2; have h3 := h.o3; have h5 := h.o5; have h1 := h.o1; have h4 := h.o4
  refine ⟨fun a ha => (h.port a ha).keep k (fun e => ?_), fun a ha => (h.ref a ha).keep k (fun e => ?_) (hA a ha), fun a ha => (k.cell (p := ⟨bp, a, none⟩) (by have := h.o6; show bp < _; omega) (fun e => ?_)).trans (h.ptr a ha), fun a ha => (k.cell (p := ⟨br, a, none⟩) h.o6 (fun e => ?_)).trans (h.rtr a ha), h.sent.keep k hs,
    h.base.trans (k.below h.base.size (fun i hi e => ?_)), h0, h1, h2, h3, h4, h5, Nat.lt_of_lt_of_le h.o6 k.size, h.rowA, h.rowS⟩
  · have := hS _ e; have := (h.pw_lt ha).2; omega
  · have := hS _ e; have := (h.pr_lt ha).2; omega
  · have q : br < bp := hS _ e; omega
  · have q : br < br := hS _ e; omega
  · have := hS _ e; omega

theorem quiet (h : Pairs w0 pw pr bp br key sp sr SA sc dl w) (k : Keep (fun _ => False) w w') : Pairs w0 pw pr bp br key sp sr SA sc dl w' := h.keep k (fun _ x => x.elim) (fun _ _ _ _ x => x) (fun _ _ x => x)
theorem drew (h : Pairs w0 pw pr bp br key sp sr SA sc dl w) : Pairs w0 pw pr bp br key sp sr SA sc dl w.drew := h.quiet (Keep.refl _ w).drew
theorem drewN (h : Pairs w0 pw pr bp br key sp sr SA sc dl w) (n : Nat) : Pairs w0 pw pr bp br key sp sr SA sc dl (w.drewN n) := h.quiet ((Keep.refl _ w).drewN n)
theorem alloc (h : Pairs w0 pw pr bp br key sp sr SA sc dl w) (o : Obj) : Pairs w0 pw pr bp br key sp sr SA sc dl (w.alloc o) := h.quiet ((Keep.refl _ w).alloc o)

/-- A port was turned. -/
theorem set_port (h : Pairs w0 pw pr bp br key sp sr SA sc dl w) {a : Nat} (ha : a < 2) (x : PSt) (hp : PortAt w' (pw a) key ((a : Int) + 1) x.sent x.t (bitsF x.t x.g)) (k : Keep (· = pw a) w w') : Pairs w0 pw pr bp br key (updP sp a x) sr SA sc dl w' := by
  have h0 := h.o0; have h2 := h.o2; have h3 := h.o3; have h5 := h.o5; have h1 := h.o1; have h4 := h.o4
  have hl := h.pw_lt ha
  refine ⟨fun i hi => ?_, fun i hi => (h.ref i hi).keep k (fun e => by have := (h.pr_lt hi).1; omega) (fun j hj e => by have := (h.rowA i hi j hj).1; omega), fun i hi => (k.cell (p := ⟨bp, i, none⟩) (by have := h.o6; show bp < _; omega) (fun e => ?_)).trans (h.ptr i hi), fun i hi => (k.cell (p := ⟨br, i, none⟩) h.o6 (fun e => ?_)).trans (h.rtr i hi), h.sent.keep k (fun j hj e => by have := h.rowS j hj; omega),
    h.base.trans (k.below h.base.size (fun i hi e => by omega)), h0, h1, h2, h3, h4, h5, Nat.lt_of_lt_of_le h.o6 k.size, h.rowA, h.rowS⟩
  · by_cases e : i = a
    · subst e; rw [updP_same]; exact hp
    · rw [updP_other _ _ _ _ e]; exact (h.port i hi).keep k (h.pw_ne ha hi e)
  · have e : bp = pw a := e; omega
  · have e : br = pw a := e; omega

/-- A port of the document's was turned. -/
theorem set_ref (h : Pairs w0 pw pr bp br key sp sr SA sc dl w) {a : Nat} (ha : a < 2) (x : PSt) (hp : RefPort w' (pr a) key ((a : Int) + 1) x.sent x.t x.A x.c x.g) (k : Keep (· = pr a) w w') (hx : ∀ j, blk x.A = some j → blk (sr a).A = some j ∨ w.heap.size ≤ j) : Pairs w0 pw pr bp br key sp (updP sr a x) SA sc dl w' := by
  have h0 := h.o0; have h2 := h.o2; have h3 := h.o3; have h5 := h.o5; have h1 := h.o1; have h4 := h.o4
  have hl := h.pr_lt ha
  refine ⟨fun i hi => (h.port i hi).keep k (fun e => by have := (h.pw_lt hi).2; omega), fun i hi => ?_, fun i hi => (k.cell (p := ⟨bp, i, none⟩) (by have := h.o6; show bp < _; omega) (fun e => ?_)).trans (h.ptr i hi), fun i hi => (k.cell (p := ⟨br, i, none⟩) h.o6 (fun e => ?_)).trans (h.rtr i hi), h.sent.keep k (fun j hj e => by have := h.rowS j hj; omega),
    h.base.trans (k.below h.base.size (fun i hi e => by have := h.pw_lt (show 0 < 2 by omega); omega)), h0, h1, h2, h3, h4, h5, Nat.lt_of_lt_of_le h.o6 k.size, fun i hi j hj => ?_, h.rowS⟩
  · by_cases e : i = a
    · subst e; rw [updP_same]; exact hp
    · rw [updP_other _ _ _ _ e]; exact (h.ref i hi).keep k (h.pr_ne ha hi e) (fun j hj e2 => by have := (h.rowA i hi j hj).1; omega)
  · have e : bp = pr a := e; omega
  · have e : br = pr a := e; omega
  · by_cases e : i = a
    · subst e
      rw [updP_same] at hj
      rcases hx j hj with h6 | h6
      · exact h.rowA i hi j h6
      · refine ⟨by have := h.o6; omega, fun e2 => by have := h.sent.lt e2; omega⟩
    · rw [updP_other _ _ _ _ e] at hj
      exact h.rowA i hi j hj

/-- Something more was sent. -/
theorem grow (h : Pairs w0 pw pr bp br key sp sr SA sc dl w) {SA' : Option Addr} {sc' : Nat} {d : ByteArray} (hb : Buf w' SA' (dl.length + 1) sc' (dl.map Value.string ++ [.string d])) (k : Keep (fun i => blk SA = some i) w w') (hf : ∀ j, blk SA' = some j → blk SA = some j ∨ w.heap.size ≤ j) : Pairs w0 pw pr bp br key sp sr SA' sc' (dl ++ [d]) w' := by
  have h1 := h.keep (S := fun i => blk SA = some i ∧ br < i) (w' := w') ⟨k.os, k.tape, k.output, k.size, fun i hi hn => k.block i hi (fun e => hn ⟨e, h.rowS i e⟩)⟩ (fun i e => e.2) (fun a ha i hi e => (h.rowA a ha i hi).2 e.1)
  have hk : Keep (fun i => blk SA = some i) w w' := k
  have h0 := h.o0; have h2 := h.o2; have h3 := h.o3; have h5 := h.o5; have h1' := h.o1; have h4 := h.o4
  refine ⟨fun a ha => (h.port a ha).keep k (fun e => by have := h.rowS _ e; have := (h.pw_lt ha).2; omega), fun a ha => (h.ref a ha).keep k (fun e => by have := h.rowS _ e; have := (h.pr_lt ha).2; omega) (fun i hi e => (h.rowA a ha i hi).2 e), fun a ha => (k.cell (p := ⟨bp, a, none⟩) (by have := h.o6; show bp < _; omega) (fun e => by have q : br < bp := h.rowS _ e; omega)).trans (h.ptr a ha), fun a ha => (k.cell (p := ⟨br, a, none⟩) h.o6 (fun e => by have q : br < br := h.rowS _ e; omega)).trans (h.rtr a ha), by simpa using hb,
    h.base.trans (k.below h.base.size (fun i hi e => by have := h.rowS _ e; omega)), h0, h1', h2, h3, h4, h5, Nat.lt_of_lt_of_le h.o6 k.size, fun a ha j hj => ⟨(h.rowA a ha j hj).1, fun e => ?_⟩, fun j hj => ?_⟩
  · rcases hf j e with h6 | h6
    · exact (h.rowA a ha j hj).2 h6
    · have := (h.ref a ha).win.buf.lt hj; omega
  · rcases hf j hj with h6 | h6
    · exact h.rowS j h6
    · have := h.o6; omega

/-- Both keep the same. -/
theorem same (h : Pairs w0 pw pr bp br key sp sr SA sc dl w) (e : ∀ a, a < 2 → (sp a).sent = (sr a).sent ∧ (sp a).t = (sr a).t ∧ (sp a).g = (sr a).g) : Pairs w0 pw pr bp br key sr sr SA sc dl w :=
  { h with port := fun a ha => by obtain ⟨e1, e2, e3⟩ := e a ha; rw [← e1, ← e2, ← e3]; exact h.port a ha }
end Pairs

theorem way_of {a : Nat} (h : a < 2) : ((a : Int) + 1 = 1 ∨ (a : Int) + 1 = 2) := by omega

/-- What a Send tells. -/
def sendB (key : ByteArray) (a : Nat) (sent : Int) (s : ByteArray) : ByteArray := ⟨(layL key.data.toList ((a : Int) + 1) (sent + 1) s.data.toList).1.toArray⟩

theorem sendB_fault {a : Nat} (ha : a < 2) {sent : Int} (h0 : 0 ≤ sent) (h1 : sent ≤ 1000) {s : ByteArray} (hs : s.size ≤ 300) : faultI ((a : Int) + 1) (sent + 1) s.size = 0 :=
  fault_ok.2 ⟨way_of ha, by omega, by omega, by omega⟩

theorem sendB_size (key : ByteArray) (a : Nat) (sent : Int) (s : ByteArray) (hs : s.size ≤ 300) : (sendB key a sent s).size ≤ 400 := by
  have := layL_len key.data.toList ((a : Int) + 1) (sent + 1) s
  unfold sendB
  rw [size_mk]
  omega

section
variable {w0 w w' : World} {pw pr : Nat → Nat} {bp br : Nat} {key : ByteArray} {sp sr : Nat → PSt} {SA : Option Addr} {sc : Nat} {dl : List ByteArray}

theorem pairs_send (h : Pairs w0 pw pr bp br key sp sr SA sc dl w) {a : Nat} (ha : a < 2) (s : ByteArray) (hr : Roots w) (hk : key.size ≤ 1000) (h0 : 0 ≤ (sp a).sent) (h1 : (sp a).sent ≤ 1000) (hs : s.size ≤ 300) :
    Calls Tryd.prog 13 #[.pointer (some ⟨pw a, 0, none⟩), .string s] w fun r w' => r = .returned (.tuple #[.string (sendB key a (sp a).sent s), .int .i64 0]) ∧ Pairs w0 pw pr bp br key (updP sp a { sp a with sent := (sp a).sent + 1 }) sr SA sc dl w' ∧ Keep (· = pw a) w w' :=
  (send_is s (sendB key a (sp a).sent s) ((sp a).sent + 1) 0 w (h.port a ha) (way_of ha) hr (by omega) ⟨h0, by omega⟩ (by unfold maxLen; omega) (Prod.ext rfl (layL_ok _ _ _ _ (sendB_fault ha h0 h1 hs))) rfl).mono
    fun r w' ⟨e, hp, k⟩ => ⟨e, h.set_port ha _ hp k, k⟩

theorem pairs_rsend (h : Pairs w0 pw pr bp br key sp sr SA sc dl w) {a : Nat} (ha : a < 2) (s : ByteArray) (hk : key.size ≤ 1000) (h0 : 0 ≤ (sr a).sent) (h1 : (sr a).sent ≤ 1000) (hs : s.size ≤ 300) :
    Calls Tryd.prog 14 #[.pointer (some ⟨pr a, 0, none⟩), .string s] w fun r w' => r = .returned (.tuple #[.string (sendB key a (sr a).sent s), .int .i64 0]) ∧ Pairs w0 pw pr bp br key sp (updP sr a { sr a with sent := (sr a).sent + 1 }) SA sc dl w' ∧ Keep (· = pr a) w w' := by
  have hl := refsend_any s w (h.ref a ha) ⟨by omega, by omega⟩ (by omega) ⟨h0, by omega⟩ (by unfold maxLen; omega)
  rw [layL_ok _ _ _ _ (sendB_fault ha h0 h1 hs)] at hl
  exact hl.mono fun r w' ⟨e, hp, k⟩ => ⟨e, h.set_ref ha _ hp k (fun j hj => .inl hj), k⟩

/-- What a Take makes of a port. -/
def tookP (x : PSt) (f : Frm) (er : Int) (A : Option Addr) (c : Nat) : PSt := ⟨x.sent, tookT x.t (f, er), A, c, if er = 0 then markL x.t x.g f.seq else x.g⟩

theorem took_got {key b : List UInt8} {way : Int} {x : PSt} {f : Frm} {er : Int} (hg : GotOk x.t x.g) (he : takeL key b way (freshL x.t x.g) = (f, er)) (A : Option Addr) (c : Nat) :
    GotOk (tookP x f er A c).t (tookP x f er A c).g ∧ tookS x.t (bitsF x.t x.g) (f, er) = bitsF (tookP x f er A c).t (tookP x f er A c).g ∧ (tookP x f er A c).g.length ≤ x.g.length + 1 := by
  unfold tookP tookT tookS
  by_cases h : er = 0
  · have hf : freshL x.t x.g f.seq = true := by
      have := take_zero (key := key) (b := b) (way := way) (fresh := freshL x.t x.g) (by rw [he]; exact h)
      rw [he] at this
      exact this
    simp only [h, if_true]
    refine ⟨mark_ok hg hf, bits_mark hg hf, ?_⟩
    unfold markL
    rw [List.length_append]
    have := List.length_filter_le (fun y => decide (max x.t f.seq - 64 < y)) x.g
    simp
    exact this
  · simp only [h, if_false]
    exact ⟨hg, trivial, by omega⟩

theorem pairs_take (h : Pairs w0 pw pr bp br key sp sr SA sc dl w) {a : Nat} (ha : a < 2) (b : ByteArray) (f : Frm) (er : Int) (hr : Roots w) (hk : key.size ≤ 1000) (hb : b.size ≤ 1000) (hg : GotOk (sp a).t (sp a).g) (he : takeL key.data.toList b.data.toList ((a : Int) + 1) (freshL (sp a).t (sp a).g) = (f, er)) (A : Option Addr) (c : Nat) :
    Calls Tryd.prog 15 #[.pointer (some ⟨pw a, 0, none⟩), .string b] w fun r w' => r = .returned (.tuple #[.agg #[.int .i64 f.way, .int .i64 f.seq, .string f.body], .int .i64 er]) ∧ Pairs w0 pw pr bp br key (updP sp a (tookP (sp a) f er A c)) sr SA sc dl w' ∧ Keep (· = pw a) w w' :=
  (ptake_is b f er _ _ w (freshL (sp a).t (sp a).g) (fun n => fresh_ref hg n) (h.port a ha) (way_of ha) hr (by omega) (by omega) (bits_lt hg) hg.lo hg.hi he rfl (took_got hg he A c).2.1).mono
    fun r w' ⟨e, hp, k⟩ => ⟨e, h.set_port ha (tookP (sp a) f er A c) hp k, k⟩

theorem pairs_rtake (h : Pairs w0 pw pr bp br key sp sr SA sc dl w) {a : Nat} (ha : a < 2) (b : ByteArray) (f : Frm) (er : Int) (hk : key.size ≤ 1000) (hb : b.size ≤ 1000) (hg : GotOk (sr a).t (sr a).g) (hgl : (sr a).g.length ≤ 1000000) (he : takeL key.data.toList b.data.toList ((a : Int) + 1) (freshL (sr a).t (sr a).g) = (f, er)) :
    Calls Tryd.prog 16 #[.pointer (some ⟨pr a, 0, none⟩), .string b] w fun r w' => r = .returned (.tuple #[.agg #[.int .i64 f.way, .int .i64 f.seq, .string f.body], .int .i64 er]) ∧ (∃ A c, Pairs w0 pw pr bp br key sp (updP sr a (tookP (sr a) f er A c)) SA sc dl w') ∧ Keep (· = pr a) w w' := by
  have hl := reftake_any b w (h.ref a ha) (by omega) (by omega) hg hgl
  rw [he] at hl
  exact hl.mono fun r w' ⟨e, A, c, hp, k, hx⟩ => ⟨e, ⟨A, c, h.set_ref ha (tookP (sr a) f er A c) hp k hx⟩, k⟩
end

end Go.Proofs.YtncpjapfkcgjnaaDoor
