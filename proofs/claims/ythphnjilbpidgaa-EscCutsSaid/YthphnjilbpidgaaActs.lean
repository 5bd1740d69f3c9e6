/- Acts in memory: a row of the call's own, whose numbers lie in rows of their own; append; esc.prints. Own work. -/
import Derived.Test.YthphnjilbpidgaaEscG
namespace Go.Proofs.Ythphnjilbpidgaa
set_option linter.unusedVariables false
set_option linter.unusedSimpArgs false
open Go.RowKit

/-- An act's cells; s: where its numbers lie, and their room. -/
def actCs (r : EAct) (s : Option Addr × Nat) : List Value := [.int .i64 (r.kind : Int), .int .i32 (r.rune : Int), .int .i64 (r.byte : Int), .int .i64 (r.mark : Int), .slice s.1 r.nums.length s.2, .string (bytesN r.inter), .string (bytesN r.text)]
def actsCs (rs : List EAct) (ss : List (Option Addr × Nat)) : List Value := (rs.zip ss).flatMap fun x => actCs x.1 x.2
def NumsRow (w : World) (B : Nat) (r : EAct) (s : Option Addr × Nat) : Prop := w.ownsRow B 3 1 (.slice s.1 r.nums.length s.2) r.nums.length (r.nums.map (Value.int .i64))

/-- Acts that lie in a row of the call's own. -/
structure ActsS (w : World) (B : Nat) (A : Option Addr) (n c : Nat) (rs : List EAct) (ss : List (Option Addr × Nat)) : Prop where
  l : ss.length = rs.length
  cnt : n = rs.length
  row : w.ownsRow B 51 7 (.slice A n c) n (actsCs rs ss)
  nums : ∀ x ∈ rs.zip ss, NumsRow w B x.1 x.2
  nd : (ss.filterMap fun s => blk s.1).Nodup
def ActsV (w : World) (B : Nat) (A : Option Addr) (n c : Nat) (rs : List EAct) : Prop := ∃ ss, ActsS w B A n c rs ss

theorem actCs_one (r : EAct) (s : Option Addr × Nat) : ∀ u ∈ actCs r s, u.oneCell' = true := by
  intro u hu
  simp only [actCs, List.mem_cons, List.not_mem_nil, or_false] at hu
  rcases hu with rfl | rfl | rfl | rfl | rfl | rfl | rfl <;> rfl
theorem actsCs_snoc (rs : List EAct) (ss : List (Option Addr × Nat)) (r : EAct) (s : Option Addr × Nat) (h : ss.length = rs.length) : actsCs (rs ++ [r]) (ss ++ [s]) = actsCs rs ss ++ actCs r s := by
  unfold actsCs
  rw [List.zip_append h.symm]
  simp
theorem own_apart {w : World} {B1 B2 e1 e2 s1 s2 n1 n2 : Nat} {v1 v2 : Value} {x1 x2 : List Value} (h1 : w.ownsRow B1 e1 s1 v1 n1 x1) (h2 : w.ownsRow B2 e2 s2 v2 n2 x2) (hne : e1 ≠ e2) {k : Nat} (k1 : v1.ownBlock = some k) : v2.ownBlock ≠ some k := by
  rcases h1.2 with ⟨rfl, _⟩ | ⟨g, cap, cur, rfl, _, hg, _⟩
  · simp [Value.ownBlock] at k1
  · have : g = k := by simpa [Value.ownBlock] using k1
    subst this
    exact own_ne h2 hg (Ne.symm hne)
theorem numsRow_nil (w : World) (B : Nat) (r : EAct) (h : r.nums = []) : NumsRow w B r (none, 0) := by
  unfold NumsRow; rw [h]; exact World.ownsRow_nil _ _ _ _
theorem int_ne_act : 3 ≠ 51 := by decide

theorem ActsS.keep {w w' : World} {B : Nat} {A : Option Addr} {n c : Nat} {rs : List EAct} {ss : List (Option Addr × Nat)} {S : Nat → Prop} (h : ActsS w B A n c rs ss) (k : Keep S w w') (hs : ∀ i, B ≤ i → ¬ S i) : ActsS w' B A n c rs ss :=
  ⟨h.l, h.cnt, own_keep h.row k (fun i hi => hs i (h.row.lt i hi).1), fun x hx => own_keep (h.nums x hx) k (fun i hi => hs i ((h.nums x hx).lt i hi).1), h.nd⟩
namespace ActsV
variable {w w' : World} {B : Nat} {A : Option Addr} {n c : Nat} {rs : List EAct}
theorem nil (w : World) (B : Nat) : ActsV w B none 0 0 [] := ⟨[], rfl, rfl, World.ownsRow_nil _ _ _ _, by simp, by simp⟩
theorem len (h : ActsV w B A n c rs) : n = rs.length := by obtain ⟨ss, h⟩ := h; exact h.cnt
theorem keep {S : Nat → Prop} (h : ActsV w B A n c rs) (k : Keep S w w') (hs : ∀ i, B ≤ i → ¬ S i) : ActsV w' B A n c rs := by
  obtain ⟨ss, h⟩ := h
  exact ⟨ss, h.l, h.cnt, own_keep h.row k (fun i hi => hs i (h.row.lt i hi).1), fun x hx => own_keep (h.nums x hx) k (fun i hi => hs i ((h.nums x hx).lt i hi).1), h.nd⟩
theorem below (h : ActsV w B A n c rs) (k : Below w.heap.size w w') : ActsV w' B A n c rs := h.keep (Keep.of_below (fun _ => False) k) (fun _ _ x => x)
theorem alloc (h : ActsV w B A n c rs) (o : Obj) : ActsV (w.alloc o) B A n c rs := h.keep (S := fun _ => False) ((Keep.refl _ w).alloc o) (fun _ _ x => x)
theorem blk_ge (h : ActsV w B A n c rs) {k : Nat} (hk : blk A = some k) : B ≤ k ∧ k < w.heap.size := by
  obtain ⟨ss, h⟩ := h
  exact h.row.lt k (by rw [ownBlock_slice]; exact hk)
end ActsV

theorem info_act : (Try.prog.info? 51).map (fun i => (i.zero, i.size, i.bytes)) = some (some (.agg #[.int .i64 0, .int .i32 0, .int .i64 0, .int .i64 0, .slice none 0 0, .string .empty, .string .empty]), 7, 88) := by kernel_rfl

/-- append of an act that was just laid at g. -/
theorem acts_append (w1 w2 : World) (B : Nat) (A : Option Addr) (n c : Nat) (rs : List EAct) (r : EAct) (s : Option Addr × Nat) (g : Nat) (h : ActsV w1 B A n c rs) (k12 : Below w1.heap.size w1 w2) (hB : B ≤ w1.heap.size)
    (hr : NumsRow w2 w1.heap.size r s) (hg : ∀ j u, (actCs r s)[j]? = some u → w2.cell? ((⟨g, 0, none⟩ : Addr).add j) = some u) (hn : n ≤ 1000000000) :
    ∃ A' c' w3, (Builtin.append_ #[38, 38] 38 #[.slice A n c, .slice (some ⟨g, 0, none⟩) 1 1]).run Try.prog w2 = .ok (.slice A' (n + 1) c') w3 ∧ ActsV w3 B A' (n + 1) c' (rs ++ [r]) ∧ Keep (fun k => blk A = some k) w2 w3 ∧ ∀ k, blk A' = some k → blk A = some k ∨ w2.heap.size ≤ k := by
  obtain ⟨i0, hi0, hz0, hz1, hz2⟩ := info_parts info_act
  obtain ⟨ss, h1⟩ := h
  have h2 := h1.keep (Keep.of_below (fun _ => False) k12) (fun _ _ x => x)
  have hsz := k12.size
  obtain ⟨v', w3, hrun, hown, hkp, hat⟩ := own_at (P := Try.prog) w2 B 38 38 51 i0 _ 7 88 Try.underlying38 hi0 hz0 hz1 hz2 rfl (by decide) _ n _ h2.row ⟨g, 0, none⟩ 1 1 (actCs r s) rfl hg (actCs_one r s)
    (by unfold maxLen; omega) (by omega) (by omega)
  obtain ⟨A', c', rfl, -⟩ := own_form hown
  have hkp' : Keep (fun k => blk A = some k) w2 w3 := hkp.mono (fun k _ e => by rw [ownBlock_slice] at e; exact e)
  have hnums : ∀ x ∈ rs.zip ss, NumsRow w3 B x.1 x.2 := fun x hx => own_keep (h2.nums x hx) hkp (fun i hi => own_apart (h2.nums x hx) h2.row int_ne_act hi)
  have hr3 : NumsRow w3 w1.heap.size r s := own_keep hr hkp (fun i hi => own_apart hr h2.row int_ne_act hi)
  refine ⟨A', c', w3, hrun, ⟨ss ++ [s], by simp [h2.l], by simp [h2.cnt], ?_, ?_, ?_⟩, hkp', fun k hk => by have := hat k (by rw [ownBlock_slice]; exact hk); rwa [ownBlock_slice] at this⟩
  · rw [actsCs_snoc _ _ _ _ h2.l]
    exact hown
  · intro x hx
    rw [List.zip_append h2.l.symm] at hx
    rcases List.mem_append.1 hx with hx | hx
    · exact hnums x hx
    · simp at hx
      subst hx
      exact own_base hr3 hB
  · rw [List.filterMap_append]
    refine List.nodup_append.2 ⟨h2.nd, ?_, ?_⟩
    · cases hs : blk s.1 <;> simp [hs]
    · intro a ha b hb hab
      subst hab
      have hb' : blk s.1 = some a := by
        simp only [List.filterMap_cons, List.filterMap_nil] at hb
        cases hs : blk s.1 with
        | none => rw [hs] at hb; simp at hb
        | some k => rw [hs] at hb; simp at hb; rw [hb]
      have h3 := (hr.lt a (by rw [ownBlock_slice]; exact hb')).1
      obtain ⟨t, ht, hta⟩ := List.mem_filterMap.1 ha
      obtain ⟨i, hi, e⟩ := List.getElem_of_mem ht
      have hir : i < rs.length := by rw [← h2.l]; exact hi
      have hz : (rs[i], t) ∈ rs.zip ss := by
        rw [← e]
        have : (rs.zip ss)[i]'(by rw [List.length_zip, h2.l]; omega) = (rs[i], ss[i]) := List.getElem_zip
        rw [← this]
        exact List.getElem_mem _
      have := ((h1.nums _ hz).lt a (by rw [ownBlock_slice]; exact hta)).2
      omega

/-- A row of another type than acts, behind an append of acts. -/
theorem ActsV.row_keep {w w' : World} {B : Nat} {A : Option Addr} {n c : Nat} {rs : List EAct} (h : ActsV w B A n c rs) (k : Keep (fun k => blk A = some k) w w') {B2 e2 n2 s2 : Nat} {v2 : Value} {x2 : List Value} (h2 : w.ownsRow B2 e2 s2 v2 n2 x2) (hne : e2 ≠ 51) : w'.ownsRow B2 e2 s2 v2 n2 x2 := by
  obtain ⟨ss, h⟩ := h
  exact own_keep h2 k (fun i hi e => own_apart h2 h.row hne hi (by rw [ownBlock_slice]; exact e))

theorem act_cells_new (w : World) (r : EAct) (s : Option Addr × Nat) (cs : Array Value) (h : cs = (actCs r s).toArray) (g : Nat) (hg : g = w.heap.size) :
    ∀ j u, (actCs r s)[j]? = some u → (w.alloc (.cells cs 51)).cell? ((⟨g, 0, none⟩ : Addr).add j) = some u := by
  subst h
  exact cells_new w (actCs r s) _ g hg
theorem rune_ne_act : 21 ≠ 51 := by decide

set_option maxRecDepth 100000 in
set_option maxHeartbeats 1600000 in
theorem esc_prints (B : Nat) (A : Option Addr) (n c : Nat) (rs0 : List EAct) (v : Value) (m : Nat) (xs : List Nat) (w : World) (h : ActsV w B A n c rs0) (hB : B ≤ w.heap.size) (B2 : Nat) (hv : w.ownsRow B2 21 1 v m ((rs xs).map (Value.int .i32))) (hn : n + m ≤ 1000000000) :
    Calls Try.prog 30 #[.slice A n c, v] w fun e w' => ∃ A' c', e = .returned (.slice A' (n + m) c') ∧ ActsV w' B A' (n + m) c' (rs0 ++ xs.map ePrint) ∧ Keep (fun k => blk A = some k) w w' ∧ ∀ k, blk A' = some k → blk A = some k ∨ w.heap.size ≤ k := by
  have hlx := Lib.hid (show xs.length = m from by have := hv.1; simpa [rs] using this)
  obtain ⟨R, d, rfl, -⟩ := own_form hv
  have HV := Lib.hid hv
  have HA := Lib.hid h
  clear hv h
  go_enter Try.func30, Try.ntmps30
  go_wp2_with fail
  go_loopw [0, 9] (fun l i wr => ∃ (k : Nat) (A1 : Option Addr) (c1 : Nat), l = .slice A1 (n + k : Nat) c1 ∧ i = .int .i64 k ∧ k ≤ m ∧ Hid (ActsV wr B A1 (n + k) c1 (rs0 ++ (xs.take k).map ePrint)) ∧ Hid (Keep (fun k => blk A = some k) w wr ∧ ∀ k, blk A1 = some k → blk A = some k ∨ w.heap.size ≤ k) ∧ Hid (wr.ownsRow B2 21 1 (.slice R m d) m ((rs xs).map (Value.int .i32)))) (fun _ i _ => m - (intOf i).toNat)
  case atStart => exact ⟨0, A, c, rfl, rfl, Nat.zero_le _, by show ActsV _ _ _ _ _ _; simpa using HA.out, Lib.hid ⟨Keep.refl _ _, fun _ x => .inl x⟩, HV⟩
  case round =>
    obtain ⟨k, A1, c1, rfl, rfl, hk, H1, HK, HR⟩ := hrel
    by_cases hlt : k < m
    · obtain ⟨x, hx⟩ : ∃ x, xs[k]? = some x := ⟨xs[k]'(by rw [hlx.out]; exact hlt), List.getElem?_eq_getElem _⟩
      obtain ⟨b, off, rfl, hbl, hcs⟩ := (Buf.of_own HR.out).src.2 (by omega)
      have hcx : wr.cell? ⟨b, off + k, none⟩ = some (.int .i32 (x : Int)) := hcs k _ (by simp [rs, hx])
      have hki : ((k : Int) < (m : Int)) := by omega
      have hk0 : (0 : Int) ≤ (k : Int) := by omega
      have hT := Lib.hid (take_next hx)
      have hw := HK.out.1.size
      obtain ⟨A2, c2, w3, hr, h3, k3, a3⟩ := acts_append wr (wr.alloc (.cells #[.int .i64 1, .int .i32 (x : Int), .int .i64 0, .int .i64 0, .slice none 0 0, .string ⟨#[]⟩, .string ⟨#[]⟩] 51)) B A1 (n + k) c1 _ (ePrint x) (none, 0) wr.heap.size H1.out ((Below.refl _ wr).alloc (Nat.le_refl _) _) (by omega) (numsRow_nil _ _ _ rfl)
        (act_cells_new wr (ePrint x) (none, 0) _ rfl _ rfl) (by omega)
      have HRU := Lib.hid hr
      have H3 := Lib.hid h3
      have K3 : Hid (Keep (fun k => blk A = some k) w w3 ∧ ∀ k, blk A2 = some k → blk A = some k ∨ w.heap.size ≤ k) := Lib.hid ⟨(HK.out.1.alloc _).trans k3 (fun i hi e => (HK.out.2 i e).elim id (fun x => by omega)), fun k hk => (a3 k hk).elim (fun x => HK.out.2 k x) (fun x => .inr (by simp at x; omega))⟩
      have R3 := Lib.hid ((H1.out.alloc _).row_keep k3 (HR.out.alloc _) rune_ne_act)
      clear hr h3 k3 a3 hcs hx
      go_wp2_with (at_builtin; refine wpList_plain rfl fun K hK => ?_; unfold Oper.wp execOp; simp only [resolve, invoke, builtin, Sem.run_bind, Sem.run_pure, Result.andThen_ok, List.map_toArray, List.map_cons, List.map_nil]; rw [show (Builtin.append_ _ _ #[Act.eval _ _, Act.eval _ _]).run _ _ = _ from HRU.out]; refine hK _ _ ?_)
      go_roundw
      case rel => exact ⟨k + 1, A2, c2, rfl, by go_num, by omega, by show ActsV _ _ _ _ _ _; rw [hT.out, List.map_append, ← List.append_assoc]; exact H3.out, K3, R3⟩
      case measure => simp [intOf]; omega
    · obtain rfl : k = m := by omega
      have hfin := H1.out
      rw [List.take_of_length_le (by rw [hlx.out]; omega)] at hfin
      have HF := Lib.hid hfin
      clear hfin
      go_wp2_with fail
      go_ret
      exact ⟨A1, c1, rfl, HF.out, HK.out.1, HK.out.2⟩

end Go.Proofs.Ythphnjilbpidgaa
