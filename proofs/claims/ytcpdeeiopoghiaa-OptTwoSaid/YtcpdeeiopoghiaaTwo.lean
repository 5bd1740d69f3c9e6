/- What OptTwo keeps: two sides, and what each was sent. Own work. -/
import Derived.Test.YtcpdeeiopoghiaaBox
import Derived.Test.YtcpdeeiopoghiaaRowed
namespace Go.Proofs.Ytcpdeeiopoghiaa
set_option linter.unusedVariables false
set_option linter.unusedSimpArgs false
open Go.RowKit

structure TwoAt (w wr : World) (pa pb : Nat) (sa : Int) (oa : Bool) (sb : Int) (ob : Bool) (TB : Option Addr) (nb cb : Nat) (lb : List Value) (TA : Option Addr) (na ca : Nat) (la : List Value) : Prop where
  a : Box wr pa sa oa
  b : Box wr pb sb ob
  tb : Buf wr TB nb cb lb
  ta : Buf wr TA na ca la
  hb : ∀ k, blk TB = some k → w.heap.size ≤ k ∧ k ≠ pa ∧ k ≠ pb
  ha : ∀ k, blk TA = some k → w.heap.size ≤ k ∧ k ≠ pa ∧ k ≠ pb
  ne : ∀ k, blk TB = some k → blk TA ≠ some k
  ab : pa ≠ pb
  ga : w.heap.size ≤ pa
  gb : w.heap.size ≤ pb
  base : Below w.heap.size w wr

namespace TwoAt
variable {w wr wr' : World} {pa pb : Nat} {sa sb : Int} {oa ob : Bool} {TB TA : Option Addr} {nb cb na ca : Nat} {lb la : List Value}

theorem swap (h : TwoAt w wr pa pb sa oa sb ob TB nb cb lb TA na ca la) : TwoAt w wr pb pa sb ob sa oa TA na ca la TB nb cb lb :=
  ⟨h.b, h.a, h.ta, h.tb, fun k hk => ⟨(h.ha k hk).1, (h.ha k hk).2.2, (h.ha k hk).2.1⟩, fun k hk => ⟨(h.hb k hk).1, (h.hb k hk).2.2, (h.hb k hk).2.1⟩, fun k hk e => h.ne k e hk, fun e => h.ab e.symm, h.gb, h.ga, h.base⟩

theorem below (h : TwoAt w wr pa pb sa oa sb ob TB nb cb lb TA na ca la) (k : Below wr.heap.size wr wr') : TwoAt w wr' pa pb sa oa sb ob TB nb cb lb TA na ca la :=
  ⟨h.a.call k, h.b.call k, h.tb.keep (Keep.of_below (fun _ => False) k) (fun _ _ x => x), h.ta.keep (Keep.of_below (fun _ => False) k) (fun _ _ x => x), h.hb, h.ha, h.ne, h.ab, h.ga, h.gb, h.base.trans (k.mono h.base.size)⟩

theorem alloc (h : TwoAt w wr pa pb sa oa sb ob TB nb cb lb TA na ca la) (o : Obj) : TwoAt w (wr.alloc o) pa pb sa oa sb ob TB nb cb lb TA na ca la := h.below ((Below.refl _ _).alloc (Nat.le_refl _) o)

theorem drew (h : TwoAt w wr pa pb sa oa sb ob TB nb cb lb TA na ca la) : TwoAt w wr.drew pa pb sa oa sb ob TB nb cb lb TA na ca la := h.below ((Below.refl _ _).drew)

theorem setA (h : TwoAt w wr pa pb sa oa sb ob TB nb cb lb TA na ca la) (s : Int) (o : Bool) : TwoAt w ((wr.setCell ⟨pa, 0, none⟩ (.int .i64 s)).setCell ⟨pa, 1, none⟩ (.bool o)) pa pb s o sb ob TB nb cb lb TA na ca la := by
  have k : Keep (· = pa) wr ((wr.setCell ⟨pa, 0, none⟩ (.int .i64 s)).setCell ⟨pa, 1, none⟩ (.bool o)) := (keep_set wr pa 0 _).own 1 _
  exact ⟨h.a.put s o, (h.b.far (q := ⟨pa, 0, none⟩) h.ab _).far (q := ⟨pa, 1, none⟩) h.ab _, h.tb.keep k (fun i hi e => (h.hb i hi).2.1 e), h.ta.keep k (fun i hi e => (h.ha i hi).2.1 e), h.hb, h.ha, h.ne, h.ab, h.ga, h.gb,
    (h.base.setCell (p := ⟨pa, 0, none⟩) h.ga _).setCell (p := ⟨pa, 1, none⟩) h.ga _⟩

theorem setB (h : TwoAt w wr pa pb sa oa sb ob TB nb cb lb TA na ca la) (s : Int) (o : Bool) : TwoAt w ((wr.setCell ⟨pb, 0, none⟩ (.int .i64 s)).setCell ⟨pb, 1, none⟩ (.bool o)) pa pb sa oa s o TB nb cb lb TA na ca la := (h.swap.setA s o).swap

theorem appB (h : TwoAt w wr pa pb sa oa sb ob TB nb cb lb TA na ca la) {T : Option Addr} {n c : Nat} {l : List Value} (hb : Buf wr' T n c l) (k : Keep (fun k => blk TB = some k) wr wr') (hT : ∀ k, blk T = some k → blk TB = some k ∨ wr.heap.size ≤ k) :
    TwoAt w wr' pa pb sa oa sb ob T n c l TA na ca la := by
  have za := h.a.lt
  have zb := h.b.lt
  have zs := h.base.size
  have keepBox : ∀ {p : Nat} {s : Int} {o : Bool}, Box wr p s o → blk TB ≠ some p → Box wr' p s o := fun {p s o} x hn =>
    ⟨Nat.lt_of_lt_of_le x.lt k.size, (k.cell (p := ⟨p, 0, none⟩) x.lt hn).trans x.c0, (k.cell (p := ⟨p, 1, none⟩) x.lt hn).trans x.c1, (k.frozen (p := ⟨p, 0, none⟩) x.lt hn).trans x.f0, (k.frozen (p := ⟨p, 1, none⟩) x.lt hn).trans x.f1⟩
  refine ⟨keepBox h.a (fun e => (h.hb _ e).2.1 rfl), keepBox h.b (fun e => (h.hb _ e).2.2 rfl), hb, h.ta.keep k (fun i hi e => h.ne i e hi), fun j hj => ?_, h.ha, fun j hj e => ?_, h.ab, h.ga, h.gb,
    h.base.trans (k.below h.base.size (fun i hi e => by have := (h.hb i e).1; omega))⟩
  · rcases hT j hj with x | x
    · exact h.hb j x
    · exact ⟨by omega, by omega, by omega⟩
  · rcases hT j hj with x | x
    · exact h.ne j x e
    · have := h.ta.lt e; omega

theorem appA (h : TwoAt w wr pa pb sa oa sb ob TB nb cb lb TA na ca la) {T : Option Addr} {n c : Nat} {l : List Value} (hb : Buf wr' T n c l) (k : Keep (fun k => blk TA = some k) wr wr') (hT : ∀ k, blk T = some k → blk TA = some k ∨ wr.heap.size ≤ k) :
    TwoAt w wr' pa pb sa oa sb ob TB nb cb lb T n c l := (h.swap.appB hb k hT).swap

theorem cutB {u : Value} (h : TwoAt w wr pa pb sa oa sb ob TB 1 cb [u] TA na ca la) {T : Option Addr} (hT : T = if cb = 1 then TB else TB.map (·.add 1)) : TwoAt w wr pa pb sa oa sb ob T 0 (cb - 1) [] TA na ca la := by
  obtain ⟨b, off, rfl, hl, hr⟩ := h.tb.some_of (by omega)
  have key : Buf wr T 0 (cb - 1) [] ∧ blk T = some b := by
    by_cases hc : cb = 1
    · subst hc
      rw [if_pos rfl] at hT
      subst hT
      exact ⟨.inr ⟨b, off, rfl, hl, ⟨rfl, by omega, by unfold maxLen; omega, fun j u hj => by simp at hj, fun j hj => absurd hj (by omega)⟩⟩, rfl⟩
    · rw [if_neg hc] at hT
      have e : T = some ⟨b, off + 1, none⟩ := by rw [hT]; simp [add_mk]
      subst e
      exact ⟨.inr ⟨b, off + 1, rfl, hl, hr.drop 1 (by omega)⟩, rfl⟩
  exact ⟨h.a, h.b, key.1, h.ta, fun k hk => h.hb k (key.2.symm.trans hk ▸ rfl), h.ha, fun k hk => h.ne k (key.2.symm.trans hk ▸ rfl), h.ab, h.ga, h.gb, h.base⟩

theorem cutA {u : Value} (h : TwoAt w wr pa pb sa oa sb ob TB nb cb lb TA 1 ca [u]) {T : Option Addr} (hT : T = if ca = 1 then TA else TA.map (·.add 1)) : TwoAt w wr pa pb sa oa sb ob TB nb cb lb T 0 (ca - 1) [] := (h.swap.cutB hT).swap
end TwoAt

end Go.Proofs.Ytcpdeeiopoghiaa
