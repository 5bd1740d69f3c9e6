/- emu: Act. Own work. -/
import Derived.Test.YtnminmaklbhakaaGreatDoorEmuVs
import Derived.Test.YtnminmaklbhakaaGreatDoorEmuXs
namespace Go.Proofs.YtnminmaklbhakaaGreatDoor
set_option linter.unusedVariables false
set_option linter.unusedSimpArgs false
open Go.RowKit

theorem flatY_at {α : Type} (enc : α → List Value) (z : Nat) (hz : ∀ x, (enc x).length = z) (l : List α) : ∀ (k t : Nat) (x : α), l[k]? = some x → t < z → (l.flatMap enc)[k * z + t]? = (enc x)[t]? := by
  induction l with
  | nil => intro k t x h; simp at h
  | cons y r ih =>
    intro k t x h ht
    rw [List.flatMap_cons]
    rcases k with _ | k
    · simp at h
      subst h
      rw [Nat.zero_mul, Nat.zero_add, List.getElem?_append_left (by rw [hz]; exact ht)]
    · simp at h
      rw [List.getElem?_append_right (by rw [hz, Nat.succ_mul]; omega), hz, Nat.succ_mul, show k * z + z + t - z = k * z + t from by omega]
      exact ih k t x h ht

theorem ActsS.cells {w : World} {B : Nat} {A : Option Addr} {n c : Nat} {rs : List EAct} {ss : List (Option Addr × Nat)} (h : ActsS w B A n c rs ss) (h0 : 0 < n) :
    ∃ g, A = some ⟨g, 0, none⟩ ∧ (B ≤ g ∧ g < w.heap.size) ∧ ∀ i r s, rs[i]? = some r → ss[i]? = some s → ∀ j u, (actCs r s)[j]? = some u → w.cell? ⟨g, i * 7 + j, none⟩ = some u := by
  obtain ⟨A', c', e, hA⟩ := own_form h.row
  injection e with e1 e2 e3
  subst e1
  obtain ⟨g, rfl⟩ := hA h0
  refine ⟨g, rfl, h.row.lt g rfl, fun i r s hr hs j u hu => ?_⟩
  have hj : j < 7 := by
    by_cases hj : j < 7
    · exact hj
    · rw [List.getElem?_eq_none (by simp [actCs]; omega)] at hu; cases hu
  have hz : (rs.zip ss)[i]? = some (r, s) := by rw [List.getElem?_zip_eq_some]; exact ⟨hr, hs⟩
  have := World.ownsRow.cells h.row (g := g) rfl (i * 7 + j) u (by rw [show actsCs rs ss = (rs.zip ss).flatMap (fun x => actCs x.1 x.2) from rfl, flatY_at (fun x : EAct × (Option Addr × Nat) => actCs x.1 x.2) 7 (fun _ => rfl) _ i j _ hz hj]; exact hu)
  rwa [add_mk, Nat.zero_add] at this

theorem ActsV.cells {w : World} {B : Nat} {A : Option Addr} {n c : Nat} {rs : List EAct} (h : ActsV w B A n c rs) (h0 : 0 < n) :
    ∃ g, A = some ⟨g, 0, none⟩ ∧ (B ≤ g ∧ g < w.heap.size) ∧ ∀ i r, rs[i]? = some r → ∃ s : Option Addr × Nat, NumsRow w B r s ∧ ∀ j u, (actCs r s)[j]? = some u → w.cell? ⟨g, i * 7 + j, none⟩ = some u := by
  obtain ⟨ss, h⟩ := h
  obtain ⟨g, e, hg, hc⟩ := h.cells h0
  refine ⟨g, e, hg, fun i r hr => ?_⟩
  have hi : i < ss.length := by
    rw [h.l]
    by_cases hi : i < rs.length
    · exact hi
    · rw [List.getElem?_eq_none (by omega)] at hr; cases hr
  have hs : ss[i]? = some ss[i] := List.getElem?_eq_getElem hi
  exact ⟨ss[i], h.nums (r, ss[i]) (List.mem_of_getElem? (i := i) (by rw [List.getElem?_zip_eq_some]; exact ⟨hr, hs⟩)), hc i r _ hr hs⟩

/-- The numbers of an act that lies in a row. -/
theorem numsIn_row {w w' : World} {e B : Nat} {L : Loc} {r : EAct} {s : Option Addr × Nat} (h : NumsRow w B r s) (h' : NumsRow w' B r s) (hB : ∀ i, L.T e i → i < B ∨ w.heap.size ≤ i) (hw : w.heap.size ≤ w'.heap.size) (hn : r.nums.length ≤ 100000) (hb : ∀ x ∈ r.nums, -1 ≤ x ∧ x ≤ 9999) : NumsIn w' e L s.1 r.nums.length s.2 r.nums := by
  have hcap : r.nums.length ≤ s.2 := by
    rcases h.2 with ⟨q, q2⟩ | ⟨g', cap, cur, q, _, _, q2, _⟩
    · injection q with _ q3 q4; omega
    · injection q with _ q3 q4; omega
  refine ⟨(Buf.of_own h').src, fun h0 b hbk => ?_, hn, hcap, hb⟩
  have := h.lt b (by rw [ownBlock_slice]; exact hbk)
  exact ⟨fun hT => by have := hB b hT; omega, by omega⟩
theorem ParC.mv' {w w' : World} {e : Nat} {L L' : Loc} (h : ParC w e) (k : Mv e L L' w w') : ParC w' e := fun i hi => by
  obtain ⟨v, c, o⟩ := h i hi
  exact ⟨v, ⟨(k.low i hi).1.trans c.1, (k.low i hi).2.trans c.2⟩, o⟩
/-- New blocks beside were turned. -/
theorem Mv.ext {e : Nat} {L L1 : Loc} {w w1 w2 : World} {S : Nat → Prop} (h : Mv e L L1 w w1) (he : e < w1.heap.size) (k : Keep S w1 w2) (hS : ∀ i, S i → w.heap.size ≤ i) (hSe : ¬ S e) : Mv e L L1 w w2 :=
  ⟨h.keep.trans k (fun i hi x => by have := hS i x; omega), fun j hj => ⟨(k.cell (p := ⟨e, j, none⟩) he hSe).trans (h.low j hj).1, (k.frozen (p := ⟨e, j, none⟩) he hSe).trans (h.low j hj).2⟩, h.new⟩
theorem acts_snoc (m : EmM) (l : List EAct) (x : EAct) : m.acts (l ++ [x]) = (((m.acts l).1.act x).1, (m.acts l).2 ++ ((m.acts l).1.act x).2) := by
  rw [EmM.acts_add]; simp [EmM.acts]
theorem bytesN_list (l : List Nat) : (bytesN l).data.toList = l.map UInt8.ofNat := by simp [bytesN]

set_option maxRecDepth 100000 in
set_option maxHeartbeats 3200000 in
theorem emu_acts (w : World) (e B : Nat) (L : Loc) (m : EmM) (A : Option Addr) (n c : Nat) (rs : List EAct) (h : EmR w e L m) (hp : ParC w e) (ha : ActsV w B A n c rs) (hB : ∀ i, L.T e i → i < B) (hBw : B ≤ w.heap.size) (hok : ∀ a ∈ rs, ActOk a) (hnm : ∀ a ∈ rs, a.nums.length ≤ 100000) (hn : n ≤ 1000000000) :
    Calls Tryz.prog 26 #[.pointer (some ⟨e, 0, none⟩), .slice A n c] w (UnTo e L w (m.acts rs)) := by
  have HL := Lib.hid ha.len
  have HE := Lib.hid h
  have HP := Lib.hid hp
  have HA := Lib.hid ha
  have HB := Lib.hid hB
  have HOK := Lib.hid hok
  have HNM := Lib.hid hnm
  have helt := h.elt
  obtain ⟨W0, hW0⟩ : ∃ W0, W0 = w.alloc (.cells #[.pointer none, .slice none 0 0] 95) := ⟨_, rfl⟩
  have K0 : Hid (Keep (fun _ => False) w W0) := Lib.hid (by rw [hW0]; exact (Keep.refl _ w).alloc _)
  have HBV := Lib.hid (BldV.new w)
  rw [← hW0] at HBV
  obtain ⟨bb, hbb⟩ : ∃ bb, bb = w.heap.size := ⟨_, rfl⟩
  have HBB := Lib.hid hbb
  rw [← hbb] at HBV
  have HR := Lib.hid (emu_ready w e L m h)
  have HMOK := Lib.hid h.ok
  have HSZ : Hid (bb < W0.heap.size) := Lib.hid (by rw [hW0, hbb]; simp)
  clear h hp ha hB hok hnm
  go_enter Tryz.func26, Tryz.ntmps26
  go_wp2_with fail
  refine HR.out.mono ?_
  rintro v w1 ⟨rfl, hw1⟩
  rw [hw1]
  clear hw1
  go_upto_region 4 with fail
  rw [← hbb]
  rw [← hW0]
  clear hW0 hbb
  go_wp2_with fail
  go_loopw [13] (fun i wr => ∃ k : Nat, i = .int .i64 k ∧ k ≤ n ∧ Hid (∃ L' v, EmR wr e L' (m.acts (rs.take k)).1 ∧ Mv e L L' w wr ∧ BldV wr bb bb v ((m.acts (rs.take k)).2.map UInt8.ofNat) ∧ (∀ i, v.ownBlock = some i → ¬ L'.T e i ∧ bb ≤ i) ∧ ¬ L'.T e bb ∧ W0.heap.size ≤ wr.heap.size)) (fun i _ => n - (intOf i).toNat)
  case atStart =>
    refine ⟨0, rfl, by omega, ?_⟩
    show ∃ L' v, _
    refine ⟨L, .slice none 0 0, HE.out.quiet K0.out, (Mv.refl e L w).quiet helt K0.out, HBV.out, fun i hi => by simp [Value.ownBlock] at hi, fun hT => ?_, Nat.le_refl _⟩
    have := HE.out.lt bb hT
    have := HBB.out
    omega
  case round =>
    obtain ⟨k, rfl, hk, HK⟩ := hrel
    by_cases hlt : k < n
    · obtain ⟨x, hx⟩ : ∃ x, rs[k]? = some x := ⟨rs[k]'(by rw [← HL.out]; exact hlt), List.getElem?_eq_getElem _⟩
      obtain ⟨L1, v, he1, hm1, hb1, hv1, hT1, hsz1⟩ := HK.out
      obtain ⟨g, hA, ⟨hgB, hg⟩, hc⟩ := HA.out.cells (by omega)
      obtain ⟨s, hns0, hcs0⟩ := hc k x hx
      have hcs : ∀ (j : Nat) (u : Value), (actCs x s)[j]? = some u → wr.cell? ⟨g, k * 7 + j, none⟩ = some u := fun j u hu => (hm1.keep.cell (p := ⟨g, k * 7 + j, none⟩) hg (fun hT => by have := HB.out g hT; omega)).trans (hcs0 j u hu)
      have hns : NumsRow wr B x s := own_keep hns0 hm1.keep (fun i hi hT => by have := HB.out i hT; have := hns0.lt i hi; omega)
      have hmem := List.mem_of_getElem? hx
      have hLB : ∀ i, L1.T e i → i < B ∨ w.heap.size ≤ i := fun i hi => (hm1.new i hi).imp (fun h => HB.out i h) id
      have c0 : wr.cell? ⟨g, k * 7, none⟩ = some (.int .i64 (x.kind : Int)) := hcs 0 _ rfl
      have c1 := hcs 1 _ rfl
      have c2 := hcs 2 _ rfl
      have c3 := hcs 3 _ rfl
      have c4 := hcs 4 _ rfl
      have c5 := hcs 5 _ rfl
      have c6 := hcs 6 _ rfl
      have hki : ((k : Int) < (n : Int)) := by omega
      have hk0 : (0 : Int) ≤ (k : Int) := by omega
      subst hA
      go_wp2_with fail
      generalize hW1 : wr.alloc _ = W1
      have K1 : Keep (fun _ => False) wr W1 := by rw [← hW1]; exact (Keep.refl _ wr).alloc _
      have K1s : W1.heap.size = wr.heap.size + 1 := by rw [← hW1]; simp
      clear hW1
      have hlw : w.heap.size ≤ wr.heap.size := hm1.keep.size
      have hsz := HSZ.out
      have hvb := fun i hi => (hb1.row.lt i hi).2
      have HNI := Lib.hid (numsIn_row (e := e) (L := L1) hns0 (own_keep hns K1 (fun _ _ x => x)) hLB (by omega) (HNM.out x hmem) (HOK.out x hmem).n)
      have HC := Lib.hid (emu_act W1 e L1 _ x s (he1.quiet K1) (HP.out.mv' (hm1.quiet he1.elt K1)) HNI.out (HOK.out x hmem))
      go_wp2_with fail
      refine HC.out.mono ?_
      rintro v1 w2 ⟨rfl, L2, he2, hm2⟩
      have hW1 : ∀ i, v.ownBlock = some i → i < W1.heap.size := fun i hi => by have := hvb i hi; omega
      have hb2 : BldV w2 bb bb v (List.map UInt8.ofNat (m.acts (rs.take k)).2) :=
        (hb1.keep K1 (fun x => x) (fun _ _ x => x)).keep hm2.keep hT1 (fun i hi => (hv1 i hi).1)
      have hl1 : (m.acts (rs.take k)).2.length ≤ 8 * k := Nat.le_trans (acts_len _ m HMOK.out) (by rw [List.length_take]; omega)
      have hl2 : (((m.acts (rs.take k)).1.act x).2).length ≤ 8 := act_len he1.ok x
      have hs2 : (bytesN ((m.acts (rs.take k)).1.act x).2).size = (((m.acts (rs.take k)).1.act x).2).length := by rw [bytesN_size]
      have HWR := Lib.hid (hb2.write (bytesN ((m.acts (rs.take k)).1.act x).2) (by rw [List.length_map, hs2]; omega) (by have := hm2.keep.size; omega))
      have hT2 : ¬ L2.T e bb := fun hT => (hm2.new bb hT).elim hT1 (fun y => by have := HSZ.out; omega)
      have hv2 : ∀ i, v.ownBlock = some i → ¬ L2.T e i := fun i hi hT => (hm2.new i hT).elim (hv1 i hi).1 (fun y => by have := hW1 i hi; omega)
      have HE2 := Lib.hid he2
      have HM2 := Lib.hid ((hm1.quiet he1.elt K1).trans hm2)
      have hs12 := hm2.keep.size
      go_wp2_with fail
      refine HWR.out.mono ?_
      rintro v3 w3 ⟨rfl, v', hb3, k3, hn3⟩
      have hs23 := k3.size
      have HF : Hid (∃ L' v, EmR w3 e L' (m.acts (rs.take (k + 1))).1 ∧ Mv e L L' w w3 ∧ BldV w3 bb bb v ((m.acts (rs.take (k + 1))).2.map UInt8.ofNat) ∧ (∀ i, v.ownBlock = some i → ¬ L'.T e i ∧ bb ≤ i) ∧ ¬ L'.T e bb ∧ W0.heap.size ≤ w3.heap.size) := Lib.hid (by
        rw [show rs.take (k + 1) = rs.take k ++ [x] from by rw [List.take_add_one, hx]; rfl, acts_snoc]
        refine ⟨L2, v', he2.keep k3 (fun i hT hi => ?_), HM2.out.ext he2.elt k3 (fun i hi => ?_) (fun hi => ?_), ?_, fun i hi => ?_, hT2, by omega⟩
        · rcases hi with rfl | hi
          · exact hT2 hT
          · exact hv2 i hi hT
        · have hbe := HBB.out
          rcases hi with rfl | hi
          · omega
          · have := (hv1 i hi).2; omega
        · have hbe := HBB.out
          rcases hi with rfl | hi
          · omega
          · exact (hv1 e hi).1 (L1.e_T e)
        · rw [List.map_append, ← bytesN_list (((m.acts (rs.take k)).1.act x).2)]
          exact hb3
        · rcases hn3 i hi with h | h
          · exact ⟨hv2 i h, (hv1 i h).2⟩
          · exact ⟨fun hT => by have := he2.lt i hT; omega, by have := HBB.out; omega⟩)
      clear k3 hb3 he2 hm2 hb2 he1 hm1 hb1
      go_wp2_with fail
      go_roundw
      case rel => exact ⟨k + 1, by go_num, by omega, HF⟩
      case measure => simp [intOf]; omega
    · have hkn : k = n := by omega
      subst hkn
      obtain ⟨L1, v, he1, hm1, hb1, hv1, hT1, hsz1⟩ := HK.out
      rw [List.take_of_length_le (by rw [← HL.out]; exact Nat.le_refl _)] at he1 hb1
      have hki : ¬ ((k : Int) < (k : Int)) := by omega
      have HST := Lib.hid hb1.str
      have HM := Lib.hid hm1
      have HE1 := Lib.hid he1
      go_wp2_with fail
      refine HST.out.mono ?_
      rintro v3 w3 ⟨rfl, k3⟩
      have HF : Hid (UnTo e L w (m.acts rs) (.returned (.string ⟨((m.acts rs).2.map UInt8.ofNat).toArray⟩)) w3) := Lib.hid (by
        refine ⟨by rw [bytesN], L1, HE1.out.keep k3 (fun i hT hi => (hv1 i hi).1 hT), HM.out.ext HE1.out.elt k3 (fun i hi => ?_) (fun hi => (hv1 e hi).1 (L1.e_T e))⟩
        have := (hv1 i hi).2
        have := HBB.out
        omega)
      go_wp2_with fail
      go_ret
      exact HF.out

end Go.Proofs.YtnminmaklbhakaaGreatDoor
