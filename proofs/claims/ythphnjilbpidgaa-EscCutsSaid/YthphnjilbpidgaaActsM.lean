/- append of acts to acts. Own work. -/
import Derived.Test.YthphnjilbpidgaaActs
import Derived.Test.YthphnjilbpidgaaEscL
import Derived.Test.YthphnjilbpidgaaEscW
namespace Go.Proofs.Ythphnjilbpidgaa
set_option linter.unusedVariables false
set_option linter.unusedSimpArgs false
open Go.RowKit

theorem actsCs_add (rs rs2 : List EAct) (ss ss2 : List (Option Addr × Nat)) (h : ss.length = rs.length) : actsCs (rs ++ rs2) (ss ++ ss2) = actsCs rs ss ++ actsCs rs2 ss2 := by
  unfold actsCs
  rw [List.zip_append h.symm]
  simp
theorem zip_mem {rs : List EAct} {ss : List (Option Addr × Nat)} (hl : ss.length = rs.length) {t : Option Addr × Nat} (ht : t ∈ ss) : ∃ r, (r, t) ∈ rs.zip ss := by
  obtain ⟨i, hi, e⟩ := List.getElem_of_mem ht
  have hir : i < rs.length := by rw [← hl]; exact hi
  refine ⟨rs[i], ?_⟩
  rw [← e]
  have : (rs.zip ss)[i]'(by rw [List.length_zip, hl]; omega) = (rs[i], ss[i]) := List.getElem_zip
  rw [← this]
  exact List.getElem_mem _
theorem actsCs_one (rs : List EAct) (ss : List (Option Addr × Nat)) : ∀ u ∈ actsCs rs ss, u.oneCell' = true := by
  intro u hu
  obtain ⟨x, _, hx⟩ := List.mem_flatMap.1 hu
  exact actCs_one _ _ u hx

theorem run_append_zero {P : Program} (w : World) (t ty e : TypeId) (i : TypeInfo) (ht : P.underlying t = some (.slice e)) (hi : P.info? e = some i) (A A2 : Option Addr) (n c c2 : Nat) (hc : n ≤ c) (hA : c ≤ maxLen) :
    (Builtin.append_ #[t, t] ty #[.slice A n c, .slice A2 0 c2]).run P w = .ok (.slice A n c) w := by
  have hm : ¬ 9223372036854775807 < n := by unfold maxLen at hA; omega
  rcases A2 with _ | a <;> rcases A with _ | b
  all_goals simp [Builtin.append_, run_underlying ht, sizeOf, typeInfo, hi, Builtin.lenOf, Builtin.firstCells, hc, hA, hm, loadCells, loadCellsFrom, storeCells]
theorem own_room {w : World} {B e size n c : Nat} {A : Option Addr} {xs : List Value} (h : w.ownsRow B e size (.slice A n c) n xs) : n ≤ c ∧ c ≤ maxLen := by
  rcases h.2 with ⟨q, _⟩ | ⟨g', cap, cur, q, _, _, q2, q3, _⟩
  · injection q with _ q4 q5
    subst q4 q5
    exact ⟨Nat.le_refl _, Nat.zero_le _⟩
  · injection q with _ _ q4
    subst q4
    exact ⟨q2, q3⟩

theorem acts_more0 {S : Nat → Prop} (w1 w2 : World) (B : Nat) (A A2 : Option Addr) (n c n2 c2 : Nat) (rs rs2 : List EAct) (h : ActsV w1 B A n c rs) (k12 : Keep S w1 w2) (hS : ∀ i, B ≤ i → ¬ S i) (hB : B ≤ w1.heap.size)
    (h2 : ActsV w2 w1.heap.size A2 n2 c2 rs2) (hn : n + n2 ≤ 1000000000) :
    ∃ A' c' w3, (Builtin.append_ #[38, 38] 38 #[.slice A n c, .slice A2 n2 c2]).run Try.prog w2 = .ok (.slice A' (n + n2) c') w3 ∧ ActsV w3 B A' (n + n2) c' (rs ++ rs2) ∧ Keep (fun k => blk A = some k) w2 w3 := by
  obtain ⟨i0, hi0, hz0, hz1, hz2⟩ := info_parts info_act
  obtain ⟨ss, h1⟩ := h
  have g1 := h1.keep k12 hS
  obtain ⟨ss2, g2⟩ := h2
  have hsz := k12.size
  obtain ⟨v', w3, hrun, hown, hkp, hat⟩ := own_more (P := Try.prog) w2 B w1.heap.size 38 38 51 i0 _ 7 88 Try.underlying38 hi0 hz0 hz1 hz2 rfl (by decide) _ _ n n2 _ _ g1.row g2.row (actsCs_one _ _)
    (by unfold maxLen; omega) (by omega) (by omega)
  obtain ⟨A', c', rfl, -⟩ := own_form hown
  have hkp' : Keep (fun k => blk A = some k) w2 w3 := hkp.mono (fun k _ e => by rw [ownBlock_slice] at e; exact e)
  have hnums : ∀ x ∈ rs.zip ss, NumsRow w3 B x.1 x.2 := fun x hx => own_keep (g1.nums x hx) hkp (fun i hi => own_apart (g1.nums x hx) g1.row int_ne_act hi)
  have hnums2 : ∀ x ∈ rs2.zip ss2, NumsRow w3 w1.heap.size x.1 x.2 := fun x hx => own_keep (g2.nums x hx) hkp (fun i hi => own_apart (g2.nums x hx) g1.row int_ne_act hi)
  refine ⟨A', c', w3, hrun, ⟨ss ++ ss2, by simp [g1.l, g2.l], by simp [g1.cnt, g2.cnt], ?_, ?_, ?_⟩, hkp'⟩
  · rw [actsCs_add _ _ _ _ g1.l]
    exact hown
  · intro x hx
    rw [List.zip_append g1.l.symm] at hx
    rcases List.mem_append.1 hx with hx | hx
    · exact hnums x hx
    · exact own_base (hnums2 x hx) hB
  · rw [List.filterMap_append]
    refine List.nodup_append.2 ⟨g1.nd, g2.nd, ?_⟩
    intro a ha b hb hab
    subst hab
    obtain ⟨t, ht, hta⟩ := List.mem_filterMap.1 ha
    obtain ⟨t2, ht2, hta2⟩ := List.mem_filterMap.1 hb
    obtain ⟨r, hr⟩ := zip_mem h1.l ht
    obtain ⟨r2, hr2⟩ := zip_mem g2.l ht2
    have e1 := ((h1.nums _ hr).lt a (by rw [ownBlock_slice]; exact hta)).2
    have e2 := ((hnums2 _ hr2).lt a (by rw [ownBlock_slice]; exact hta2)).1
    omega

/-- append of acts that were just made; nothing stays nothing. -/
theorem acts_more {S : Nat → Prop} (w1 w2 : World) (B : Nat) (A A2 : Option Addr) (n c n2 c2 : Nat) (rs rs2 : List EAct) (h : ActsV w1 B A n c rs) (k12 : Keep S w1 w2) (hS : ∀ i, B ≤ i → ¬ S i) (hB : B ≤ w1.heap.size)
    (h2 : ActsV w2 w1.heap.size A2 n2 c2 rs2) (hn : n + n2 ≤ 1000000000) (hz : n = 0 → A = none) :
    ∃ A' c' w3, (Builtin.append_ #[38, 38] 38 #[.slice A n c, .slice A2 n2 c2]).run Try.prog w2 = .ok (.slice A' (n + n2) c') w3 ∧ ActsV w3 B A' (n + n2) c' (rs ++ rs2) ∧ Keep (fun k => blk A = some k) w2 w3 ∧ (n + n2 = 0 → A' = none) := by
  by_cases e : n2 = 0
  · subst e
    obtain ⟨i0, hi0, _⟩ := info_parts info_act
    have hr2 : rs2 = [] := List.eq_nil_of_length_eq_zero h2.len.symm
    subst hr2
    have g1 := h.keep k12 hS
    have hrm : n ≤ c ∧ c ≤ maxLen := by obtain ⟨ss, g⟩ := g1; exact own_room g.row
    exact ⟨A, c, w2, run_append_zero w2 _ _ _ i0 Try.underlying38 hi0 A A2 n c c2 hrm.1 hrm.2, by rw [List.append_nil]; exact g1, Keep.refl _ _, hz⟩
  · obtain ⟨A', c', w3, r1, r2, r3⟩ := acts_more0 w1 w2 B A A2 n c n2 c2 rs rs2 h k12 hS hB h2 hn
    exact ⟨A', c', w3, r1, r2, r3, fun x => by omega⟩

/-- The block of acts is not one of rules. -/
theorem acts_no_rules {w : World} {B : Nat} {A : Option Addr} {n c : Nat} {rs : List EAct} (h : ActsV w B A n c rs) (h0 : 0 < n) {R : Nat} (hR : RulesAt w R true) : blk A ≠ some R := by
  obtain ⟨g, rfl, hg, hc⟩ := h.cells h0
  obtain ⟨s, _, hs⟩ := hc 0 (rs[0]'(by have := h.len; omega)) (List.getElem?_eq_getElem _)
  intro e
  have e' : g = R := by simpa [blk] using e
  subst e'
  have h1 := hs 0 _ rfl
  have h2 := hR.o0.1
  rw [show 0 * 7 + 0 = 0 from rfl, h2] at h1
  simp at h1

/-- What was fed, and told. -/
def FedA (p B : Nat) (w3 : World) (L : List Nat) (l : Value) (wr : World) : Prop :=
  ∃ A n c, l = .slice A n c ∧ ActsV wr B A n c (feedE .z L).2 ∧ EscAt wr p 0 (feedE .z L).1 ∧ Keep (· = p) w3 wr ∧ (n = 0 → A = none)

theorem feed_step (p : Nat) (w3 wr : World) (L : List Nat) (x : ByteArray) (A : Option Addr) (n c : Nat) (hA : ActsV wr w3.heap.size A n c (feedE .z L).2) (hE : EscAt wr p 0 (feedE .z L).1) (hK : Keep (· = p) w3 wr) (hz : n = 0 → A = none) (hp : p < w3.heap.size) (hl : L.length + x.size ≤ 100000) :
    Calls Try.prog 12 #[.pointer (some ⟨p, 0, none⟩), .slice (some ⟨wr.heap.size, 0, none⟩) 1 1] (wr.alloc (.cells #[.string x] 9)) (fun e w6 => ∃ A2 n2 c2, e = .returned (.slice A2 n2 c2) ∧ ∃ A' c' w7, (Builtin.append_ #[38, 38] 38 #[.slice A n c, .slice A2 n2 c2]).run Try.prog w6 = .ok (.slice A' (n + n2) c') w7 ∧ FedA p w3.heap.size w3 (L ++ natsOf x) (.slice A' (n + n2) c') w7) := by
  have hlen := len_feedE L .z St.Ok.z
  have ez : BP.z.came = 0 := rfl
  refine (esc_feed_new p 0 (feedE .z L).1 [x] #[.string x] wr hE rfl (by simp) (by simp [sum]; omega) (by omega) 1 rfl).mono ?_
  rintro e w6 ⟨A2, n2, c2, rfl, hn2, ha2, he2, hke⟩
  rw [feedsE_nats, show [x].flatMap natsOf = natsOf x from by simp] at hn2 ha2 he2
  have hs3 := hK.size
  have k12 : Keep (· = p) wr w6 := ((Keep.refl (· = p) wr).alloc _).trans hke.keep (fun _ _ y => y)
  have hlx := len_feedE (natsOf x) (feedE .z L).1 hlen.2.2
  rw [natsOf_len] at hlx
  have hnl := hA.len
  obtain ⟨A', c', w7, r1, r2, r3, r4⟩ := acts_more wr w6 w3.heap.size A A2 n c n2 c2 _ _ hA k12 (fun i hi e => by omega) hs3 (ha2.base (by simp)) (by omega) hz
  refine ⟨A2, n2, c2, rfl, A', c', w7, r1, A', _, c', rfl, ?_, ?_, ?_, r4⟩
  · rw [feedE_add]
    exact r2
  · rw [feedE_add]
    refine he2.keep r3 (fun e => ?_) (fun i hi R hR => ?_)
    · have := (hA.blk_ge e).1; omega
    · intro e
      subst e
      rcases he2.r with h0 | ⟨R', hr, hR', _⟩
      · rw [h0.1] at hR; simp at hR
      · rw [hr.1] at hR
        have e' : R' = i := by simpa using hR
        subst e'
        rcases Nat.eq_zero_or_pos n with e0 | e0
        · rw [hz e0] at hi; simp [blk] at hi
        · exact acts_no_rules (hA.keep k12 (fun i hi e => by omega)) e0 hR' hi
  · exact (hK.trans k12 (fun _ _ y => y)).trans r3 (fun i hi e => by have := (hA.blk_ge e).1; omega)

end Go.Proofs.Ythphnjilbpidgaa
