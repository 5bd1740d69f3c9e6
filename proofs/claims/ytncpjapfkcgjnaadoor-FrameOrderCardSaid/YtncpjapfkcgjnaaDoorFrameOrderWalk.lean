/- Law FrameOrder: the walk. Own work. -/
import Derived.Test.YtncpjapfkcgjnaaDoorFrameOrderM
import Derived.Test.YtncpjapfkcgjnaaDoorBase
import Derived.Deep.QuietTactic
import Derived.BigQuiet
namespace Go.Proofs.YtncpjapfkcgjnaaDoor
set_option linter.unusedVariables false
set_option linter.unusedSimpArgs false
open Go.RowKit

/-- What was sent, a list that grows. -/
def sentV (key : ByteArray) (ss : List ByteArray) (k : Nat) : List Value := (List.range k).map fun j => .string (sendD key ss j)

theorem sentV_next (key : ByteArray) (ss : List ByteArray) (k : Nat) : sentV key ss (k + 1) = sentV key ss k ++ [.string (sendD key ss k)] := by
  unfold sentV
  rw [List.range_succ, List.map_append]
  rfl

theorem sentV_at (key : ByteArray) (ss : List ByteArray) (k j : Nat) (h : j < k) : (sentV key ss k)[j]? = some (.string (sendD key ss j)) := by
  unfold sentV
  rw [List.getElem?_map, List.getElem?_range h]
  rfl

/-- While datagrams are sent. -/
structure Sending (w0 : World) (pa pb : Nat) (key : ByteArray) (ss : List ByteArray) (k : Nat) (A : Option Addr) (c : Nat) (w : World) : Prop where
  a : PortAt w pa key 1 k 0 0
  b : PortAt w pb key 2 0 0 0
  sent : Buf w A k c (sentV key ss k)
  base : Below w0.heap.size w0 w
  la : w0.heap.size ≤ pa
  lb : w0.heap.size ≤ pb
  ne : pa ≠ pb
  rows : ∀ j, blk A = some j → w0.heap.size ≤ j ∧ j ≠ pa ∧ j ≠ pb
  small : ∀ j, j < k → (ss.getD j .empty).size ≤ 200

/-- While datagrams are taken. -/
structure Taking (w0 : World) (pb pt : Nat) (key : ByteArray) (ss : List ByteArray) (n : Nat) (A : Option Addr) (c : Nat) (t : Int) (g : List Int) (w : World) : Prop where
  b : PortAt w pb key 2 0 t (bitsF t g)
  sent : Buf w A n c (sentV key ss n)
  row : Row40 w pt n (fun j => decide (((j : Int) + 1) ∈ g))
  base : Below w0.heap.size w0 w
  lb : w0.heap.size ≤ pb
  lt : w0.heap.size ≤ pt
  ne : pb ≠ pt
  rows : ∀ j, blk A = some j → w0.heap.size ≤ j ∧ j ≠ pb ∧ j ≠ pt
  few : Few n t g

theorem Taking.next {w0 w w4 : World} {pb pt : Nat} {key : ByteArray} {ss : List ByteArray} {n : Nat} {A : Option Addr} {c : Nat} {t t' : Int} {g g' : List Int} (h : Taking w0 pb pt key ss n A c t g w) (hb : PortAt w4 pb key 2 0 t' (bitsF t' g')) (k : Keep (· = pb) w w4)
    (o : Obj) (nq q : Nat) (hq : q < n) (hf : Few n t' g') (hm : ∀ j : Nat, ((j : Int) + 1) ∈ g' ↔ ((j : Int) + 1) ∈ g ∨ (j : Int) + 1 = (q : Int) + 1) :
    Taking w0 pb pt key ss n A c t' g' (((w4.alloc o).drewN nq).setCell ⟨pt, q, none⟩ (.bool true)) := by
  have k1 : Keep (fun _ => False) w4 ((w4.alloc o).drewN nq) := ((Keep.refl _ w4).alloc o).drewN nq
  have k2 : Keep (· = pt) ((w4.alloc o).drewN nq) (((w4.alloc o).drewN nq).setCell ⟨pt, q, none⟩ (.bool true)) := keep_set _ pt q _
  have k3 : Keep (fun i => i = pb ∨ i = pt) w (((w4.alloc o).drewN nq).setCell ⟨pt, q, none⟩ (.bool true)) :=
    ((k.mono (fun _ _ e => .inl e)).trans k1 (fun _ _ x => x.elim)).trans k2 (fun _ _ e => .inr e)
  refine ⟨(hb.keep k1 (fun x => x)).keep k2 h.ne, h.sent.keep k3 (fun j hj e => ?_), ?_, h.base.trans (k3.below h.base.size (fun i hi e => ?_)), h.lb, h.lt, h.ne, h.rows, hf⟩
  · have := h.rows j hj
    rcases e with e | e
    · exact this.2.1 e
    · exact this.2.2 e
  · have hr := (((h.row.keep k (fun e => h.ne e.symm)).keep k1 (fun x => x)).set q hq)
    refine hr.congr fun j hj => ?_
    rw [Bool.eq_iff_iff, Bool.or_eq_true, decide_eq_true_iff, decide_eq_true_iff, decide_eq_true_iff, hm j]
    constructor
    · rintro (x | x)
      · exact .inl x
      · exact .inr (by omega)
    · rintro (x | x)
      · exact .inl x
      · exact .inr (by omega)
  · have := h.lb
    have := h.lt
    rcases e with e | e <;> omega

theorem bool_info : (Tryd.prog.info? 4).map (fun i => (i.zero, i.size, i.bytes)) = some (some (.bool false), 1, 1) := by kernel_rfl

theorem make_bools (n : Nat) (hn : n ≤ 1000) (W : World) : (Instr.makeSlice 55 (.int .i64 (n : Int)) (.int .i64 (n : Int))).run Tryd.prog W = .ok (.slice (some ⟨W.heap.size, 0, none⟩) n n) (W.alloc (.cells (madeCells (Value.bool false).cells n) 4)) := by
  obtain ⟨i0, hi, hz0, hz1, hz2⟩ := info_parts bool_info
  have h := run_make (P := Tryd.prog) W 55 4 i0 (.bool false) Tryd.underlying55 hi hz0 .i64 .i64 (n : Int) (n : Int) (by omega) (by omega) (by rw [hz2]; omega) (by omega)
  rw [hz1] at h
  simpa using h

theorem taking_new {w0 w : World} {pa pb : Nat} {key : ByteArray} {ss : List ByteArray} {n : Nat} {A : Option Addr} {c : Nat} (h : Sending w0 pa pb key ss n A c w) (hn : n ≤ 40) {M : Array Value} (hM : M = madeCells (Value.bool false).cells n) (T : TypeId) :
    Taking w0 pb w.heap.size key ss n A c 0 [] (w.alloc (.cells M T)) := by
  subst hM
  have hk := (Keep.refl (fun _ => False) w).alloc (.cells (madeCells (Value.bool false).cells n) T)
  refine ⟨h.b.keep hk (fun x => x), h.sent.keep hk (fun _ _ x => x), ?_, h.base.alloc h.base.size _, h.lb, h.base.size, by have := h.b.lt; omega, fun j hj => ⟨(h.rows j hj).1, (h.rows j hj).2.2, by have := h.sent.lt hj; omega⟩, few_nil hn⟩
  have := row40_new w n T
  simpa using this

set_option maxRecDepth 100000 in
set_option maxHeartbeats 3200000 in
theorem order_good (key : ByteArray) (L : Option Addr) (n cl : Nat) (ss : List ByteArray) (Z : Option Addr) (m cz : Nat) (zs : List Int) (w : World) (h1 : key.size ≤ 60) (h2 : n ≤ 40) (h3 : m ≤ 60) (hs : Strs w L n ss) (hz : Ints w Z m zs) (hr : Roots w) :
    Calls Tryd.prog 5 #[.string key, .slice L n cl, .slice Z m cz] w fun e w' => e = .returned (.bool true) ∧ Below w.heap.size w w' := by
  obtain ⟨i0, hi, hz0, hz1, hz2⟩ := info_parts string_info
  have HI := Lib.hid hi
  have HI0 := Lib.hid hz0
  have HI1 := Lib.hid hz1
  have HI2 := Lib.hid hz2
  have HS := Lib.hid hs
  have HZ := Lib.hid hz
  have HR := Lib.hid hr
  have k1 : ¬ (60 < (key.size : Int)) := by omega
  have k2 : decide (40 < (n : Int)) = false := by simp; omega
  have k3 : decide (60 < (m : Int)) = false := by simp; omega
  have hr0 : 0 < w.heap.size := hr.1
  clear hi hz0 hz1 hz2 hs hz hr
  go_enter Tryd.func5, Tryd.ntmps5
  go_wp2_with fail
  refine (alive_any w HR.out).mono ?_
  rintro r w1 ⟨rfl, b1⟩
  have B1 := Lib.hid b1
  clear b1
  go_wp2_with fail
  refine (portnew_any key 1 _ (by omega)).mono ?_
  rintro r w2 ⟨pa, rfl, ha, hpa, hb2⟩
  have HA := Lib.hid ha
  have B2 := Lib.hid (below_step B1.out hb2)
  have hwa : w.heap.size ≤ pa := Nat.le_trans B1.out.size hpa
  have hl1 := ha.lt
  clear ha hb2 B1 hpa
  go_wp2_with fail
  refine (portnew_any key 2 _ (by omega)).mono ?_
  rintro r w3 ⟨pb, rfl, hbp, hpb, hb3⟩
  have S0 : Hid (Sending w pa pb key ss 0 none 0 w3) := Lib.hid ⟨HA.out.below hb3, hbp, Buf.nil _, below_step B2.out hb3, hwa, by omega, by omega, fun j hj => by simp [blk] at hj, fun j hj => absurd hj (by omega)⟩
  clear hbp hb3 HA B2 hpb hwa hl1
  go_wp2_with fail
  go_loopw [9, 10] (fun l i wr => ∃ (k : Nat) (A : Option Addr) (c : Nat), i = .int .i64 k ∧ k ≤ n ∧ l = .slice A k c ∧ Hid (Sending w pa pb key ss k A c wr)) (fun _ i _ => n - (intOf i).toNat)
  case atStart => exact ⟨0, none, 0, rfl, by omega, rfl, S0⟩
  case round =>
    obtain ⟨k, A, c, rfl, hk, rfl, HW⟩ := hrel
    clear S0
    by_cases hlt : k < n
    · obtain ⟨x, hx⟩ : ∃ x, ss[k]? = some x := ⟨ss[k]'(by rw [HS.out.1]; exact hlt), List.getElem?_eq_getElem _⟩
      obtain ⟨b, off, rfl, hbl, hc⟩ := HS.out.2.1 (by omega)
      have rx : wr.cell? ⟨b, off + k, none⟩ = some (.string x) := (HW.out.base.cell (p := ⟨b, off + k, none⟩) hbl).trans (hc k x hx)
      have hxg : ss.getD k .empty = x := by rw [List.getD_eq_getElem?_getD, hx]; rfl
      have hxm : x.size ≤ maxLen := HS.out.2.2.1 x (List.mem_of_getElem? hx)
      have HXG := Lib.hid hxg
      unfold maxLen at hxm
      clear hc hx hxg
      by_cases hx2 : 200 < x.size
      · have d1 : decide (200 < (x.size : Int)) = true := by simp; omega
        go_wp2_with fail
        go_ret
        exact ⟨rfl, HW.out.base⟩
      · have d1 : decide (200 < (x.size : Int)) = false := by simp; omega
        have EL : Hid (layL key.data.toList 1 ((k : Int) + 1) x.data.toList = ((sendD key ss k).data.toList, 0)) := Lib.hid (by rw [← HXG.out]; exact sendD_laid key ss k (by omega) (by rw [HXG.out]; omega))
        go_wp2_with fail
        refine (send_is x (sendD key ss k) ((k : Int) + 1) 0 _ HW.out.a (.inl rfl) (HR.out.below HW.out.base) (by omega) (by omega) (by unfold maxLen; omega) EL.out rfl).mono ?_
        rintro r w4 ⟨rfl, ha, hka⟩
        have HA := Lib.hid ha
        have HBP := Lib.hid (HW.out.b.keep hka (fun e => HW.out.ne e.symm))
        have HU := Lib.hid (HW.out.sent.keep hka (fun j hj e => (HW.out.rows j hj).2.1 e))
        have B4 := Lib.hid (HW.out.base.trans (hka.below HW.out.base.size (fun i hi e => by have := HW.out.la; omega)))
        have hal := ha.lt
        have hbl4 := HBP.out.lt
        clear ha hka rx
        go_wp2_with fail
        refine (sent_any _ HA.out).mono ?_
        rintro r w5 ⟨rfl, rfl⟩
        go_wp2_with (at_builtin; refine wpList_append_buf _ rfl (.tmp 77) (.tmp 79) 47 rfl 9 i0 (.string .empty) 16 Tryd.underlying47 HI.out HI0.out HI1.out HI2.out rfl rfl (HU.out.keep ((Keep.refl (fun _ => False) _).alloc _) (fun _ _ x => x)) _ rfl (src_one _ _ _ (by simp)) (by intro u hu; simp at hu; subst hu; rfl) (by unfold maxLen; omega) (by omega) ?_)
        intro A' c' w6 hb hk2 hf
        rw [← sentV_next] at hb
        have hk3 : Keep (fun j => blk A = some j) w4 w6 := ((Keep.refl (fun j => blk A = some j) w4).alloc _).trans hk2 (fun _ _ e => e)
        have S6 : Hid (Sending w pa pb key ss (k + 1) A' c' w6) := Lib.hid ⟨by have := HA.out.keep hk3 (fun e => (HW.out.rows pa e).2.1 rfl); simpa using this, HBP.out.keep hk3 (fun e => (HW.out.rows pb e).2.2 rfl), hb,
          B4.out.trans (hk3.below B4.out.size (fun i hi e => by have := (HW.out.rows i e).1; omega)), HW.out.la, HW.out.lb, HW.out.ne, fun j hj => by
            rcases hf j hj with h | h
            · exact HW.out.rows j h
            · have := B4.out.size
              (try simp at h)
              exact ⟨by omega, by omega, by omega⟩, fun j hj => by
            rcases Nat.lt_or_ge j k with h | h
            · exact HW.out.small j h
            · obtain rfl : j = k := by omega
              rw [HXG.out]; omega⟩
        clear hb hk2 hf hk3 HA HBP HU B4 hal hbl4
        go_wp2_with fail
        go_roundw
        case rel => exact ⟨k + 1, A', c', by go_num, by omega, by congr 1, S6⟩
        case measure => simp [intOf]; omega
    · obtain rfl : k = n := by omega
      obtain ⟨M, hM⟩ : ∃ M, M = madeCells (Value.bool false).cells k := ⟨_, rfl⟩
      have hmk := make_bools k (by omega)
      rw [← hM] at hmk
      have hwb := Lib.hid HW.out.base
      have T0 : Hid (Taking w pb wr.heap.size key ss k A c 0 [] (wr.alloc (.cells M 4))) := Lib.hid (taking_new HW.out h2 hM _)
      have HSM := Lib.hid HW.out.small
      clear hM HW
      go_wp2_with fail
      obtain ⟨pt, hpt⟩ : ∃ pt, pt = wr.heap.size := ⟨_, rfl⟩
      rw [← hpt] at T0 ⊢
      clear hmk hpt
      go_loopw [14, 15] (fun top i wi => ∃ (j : Nat) (t : Int) (g : List Int), i = .int .i64 j ∧ j ≤ m ∧ top = .int .i64 t ∧ Hid (Taking w pb pt key ss k A c t g wi)) (fun _ i _ => m - (intOf i).toNat)
      case atStart => exact ⟨0, 0, [], rfl, by omega, rfl, T0⟩
      case round =>
        obtain ⟨j, t, g, rfl, hj, rfl, HT⟩ := hrel
        clear T0
        by_cases hjm : j < m ∧ 0 < k
        · obtain ⟨hjm, hk0⟩ := hjm
          obtain ⟨z, hz⟩ : ∃ z, zs[j]? = some z := ⟨zs[j]'(by rw [HZ.out.1]; exact hjm), List.getElem?_eq_getElem _⟩
          obtain ⟨b, off, rfl, hbl, hc⟩ := HZ.out.2.1 (by omega)
          have rz : wr.cell? ⟨b, off + j, none⟩ = some (.int .i64 z) := (HT.out.base.cell (p := ⟨b, off + j, none⟩) hbl).trans (hc j z hz)
          have hzr := HZ.out.2.2.1 z (List.mem_of_getElem? hz)
          obtain ⟨hz1, hz2⟩ := hzr
          have d1 : decide (0 < (k : Int)) = true := by simp; omega
          have d2 : decide ((j : Int) < (m : Int)) = true := by simp; omega
          obtain ⟨q, hq, hmod⟩ := index_of z k hk0 (by omega)
          obtain ⟨b8, off8, rfl, hb8, row8⟩ := HT.out.sent.some_of hk0
          have r8 : wr.cell? ⟨b8, off8 + q, none⟩ = some (.string (sendD key ss q)) := row8.val q _ (sentV_at key ss k q hq)
          obtain ⟨x, hx⟩ : ∃ x, ss[q]? = some x := ⟨ss[q]'(by rw [HS.out.1]; exact hq), List.getElem?_eq_getElem _⟩
          obtain ⟨bl, offl, rfl, hbll, hcl⟩ := HS.out.2.1 (by omega)
          have RL : Hid (∀ W, Below w.heap.size w W → W.cell? ⟨bl, offl + q, none⟩ = some (.string x)) := Lib.hid (fun W hW => (hW.cell (p := ⟨bl, offl + q, none⟩) hbll).trans (hcl q x hx))
          have HXG : Hid (ss.getD q .empty = x) := Lib.hid (by rw [List.getD_eq_getElem?_getD, hx]; rfl)
          have hq0 : (0 : Int) ≤ (q : Int) := by omega
          have hq1 : (q : Int) < (k : Int) := by omega
          have hxs := HSM.out q hq
          have HXS := Lib.hid hxs
          have hDs := sendD_size key ss q hxs
          have HBT := Lib.hid (bits_lt HT.out.few.got)
          have t0 := HT.out.few.got.lo
          have t1 := HT.out.few.got.hi
          have tk := HT.out.few.le
          have HFR := Lib.hid (fun n => fresh_ref HT.out.few.got n)
          have hpbl := HT.out.b.lt
          have hptl := HT.out.row.lt
          have u1 : IntKind.i64.wrap ((q : Int) + 1) = (q : Int) + 1 := IntWalk.i64_in _ (by omega)
          clear hc hz row8 hcl hx hxs
          by_cases hin : ((q : Int) + 1) ∈ g
          · have E1 := Lib.hid (few_old HT.out.few key ss hq HXS.out hin)
            have hqt := (HT.out.few.got.all _ hin).2.1
            have HIN := Lib.hid hin
            have hmax : max t ((q : Int) + 1) = t := by omega
            clear hin
            go_wp2_with fail
            refine (ptake_is (sendD key ss q) Frm.none 6 t (bitsF t g) _ (freshL t g) HFR.out HT.out.b (.inr rfl) (HR.out.below HT.out.base) (by omega) (by omega) HBT.out (by omega) (by omega) E1.out rfl rfl).mono ?_
            rintro r w4 ⟨rfl, hb, hkb⟩
            have HPB := Lib.hid hb
            have HKB := Lib.hid hkb
            have HRW := Lib.hid (HT.out.row.keep hkb (fun e => HT.out.ne e.symm))
            have rt : w4.cell? ⟨pt, q, none⟩ = some (.bool true) := by rw [(HRW.out.at' q hq).1]; simp [HIN.out]
            have ft : w4.frozen? ⟨pt, q, none⟩ = false := (HRW.out.at' q hq).2
            have rl := RL.out w4 (HT.out.base.trans (hkb.below HT.out.base.size (fun i hi e => by have := HT.out.lb; omega)))
            have hpt4 := HRW.out.lt
            have hbl4 : bl < w4.heap.size := by have := hkb.size; have := HT.out.base.size; omega
            clear hb hkb r8 rz hmod hDs
            go_wp2_with fail
            go_quiet (fail)
            clear rl u1
            go_wp2_with fail
            have HTN := Lib.hid (HT.out.next HPB.out HKB.out (.cells #[.int .i64 Frm.none.way, .int .i64 Frm.none.seq, .string Frm.none.body] 28) nq q hq HT.out.few (fun i => ⟨fun h => .inl h, fun h => h.elim id (fun h => h ▸ HIN.out)⟩))
            clear rt ft HRW HPB HKB E1 HIN
            refine (top_any _ HTN.out.b).mono ?_
            rintro r w5 ⟨rfl, rfl⟩
            go_wp2_with fail
            go_roundw
            case rel => exact ⟨j + 1, t, g, by go_num, by omega, rfl, HTN⟩
            case measure => simp [intOf]; omega
          · have E1 := Lib.hid (few_take HT.out.few key ss hq HXS.out hin)
            have HF2 := Lib.hid (HT.out.few.mark hq hin)
            have HMM := Lib.hid (fun x => HT.out.few.mark_mem hq x)
            have hfl : freshL t g ((q : Int) + 1) = true := by rw [HT.out.few.fresh hq]; simpa using hin
            have HBM := Lib.hid (bits_mark HT.out.few.got hfl)
            have HIN := Lib.hid hin
            obtain ⟨t', ht'⟩ : ∃ t', t' = max t ((q : Int) + 1) := ⟨_, rfl⟩
            obtain ⟨g', hg'⟩ : ∃ g', g' = markL t g ((q : Int) + 1) := ⟨_, rfl⟩
            have hmax : max t ((q : Int) + 1) = t' := ht'.symm
            rw [← ht', ← hg'] at HF2 HBM
            rw [← hg'] at HMM
            have HTT := Lib.hid ht'
            rw [HXG.out] at E1
            clear hin hfl hg' ht'
            have hgo := Lib.hid (ptake_is (p := pb) (way := 2) (sent := 0) (sendD key ss q) ⟨1, (q : Int) + 1, x⟩ 0 t' (bitsF t' g') wr (freshL t g) HFR.out HT.out.b (.inr rfl) (HR.out.below HT.out.base) (by omega) (by omega) HBT.out (by omega) (by omega) E1.out (by unfold tookT; rw [if_pos rfl]; exact HTT.out.symm) (by unfold tookS; rw [if_pos rfl]; exact HBM.out))
            go_wp2_with fail
            refine hgo.out.mono ?_
            rintro r w4 ⟨rfl, hb, hkb⟩
            have HPB := Lib.hid hb
            have HKB := Lib.hid hkb
            have HRW := Lib.hid (HT.out.row.keep hkb (fun e => HT.out.ne e.symm))
            have rt : w4.cell? ⟨pt, q, none⟩ = some (.bool false) := by rw [(HRW.out.at' q hq).1]; simp [HIN.out]
            have ft : w4.frozen? ⟨pt, q, none⟩ = false := (HRW.out.at' q hq).2
            have rl := RL.out w4 (HT.out.base.trans (hkb.below HT.out.base.size (fun i hi e => by have := HT.out.lb; omega)))
            have hpt4 := HRW.out.lt
            have hbl4 : bl < w4.heap.size := by have := hkb.size; have := HT.out.base.size; omega
            clear hb hkb r8 rz hmod hDs hgo
            go_wp2_with fail
            go_quiet (fail)
            clear rl u1
            go_wp2_with fail
            have HTN := Lib.hid (HT.out.next HPB.out HKB.out (.cells #[.int .i64 1, .int .i64 ((q : Int) + 1), .string x] 28) nq q hq HF2.out (fun i => HMM.out _))
            clear rt ft HRW HPB HKB E1 HIN
            refine (top_any _ HTN.out.b).mono ?_
            rintro r w5 ⟨rfl, rfl⟩
            go_wp2_with fail
            go_roundw
            case rel => exact ⟨j + 1, t', g', by go_num, by omega, rfl, HTN⟩
            case measure => simp [intOf]; omega
        · by_cases hjm2 : j < m
          · have d1 : decide (0 < (k : Int)) = false := by simp; omega
            have d2 : decide ((j : Int) < (m : Int)) = true := by simp; omega
            go_wp2_with fail
            go_ret
            exact ⟨rfl, HT.out.base⟩
          · have d2 : decide ((j : Int) < (m : Int)) = false := by simp; omega
            go_wp2_with fail
            go_ret
            exact ⟨rfl, HT.out.base⟩

set_option maxRecDepth 100000 in
set_option maxHeartbeats 1600000 in
theorem walk_FrameOrder (key : ByteArray) (hk : key.size ≤ maxLen) (L : Option Addr) (n cl : Nat) (ss : List ByteArray) (Z : Option Addr) (m cz : Nat) (zs : List Int) (w : World) (hs : Strs w L n ss) (hz : Ints w Z m zs) (hr : Roots w) :
    Calls Tryd.prog 5 #[.string key, .slice L n cl, .slice Z m cz] w fun e w' => e = .returned (.bool true) ∧ Below w.heap.size w w' := by
  unfold maxLen at hk
  have hnm := hs.2.2.2
  have hmm := hz.2.2.2
  unfold maxLen at hnm hmm
  by_cases h1 : 60 < key.size
  · have h1' : (60 : Int) < (key.size : Int) := by omega
    have HR := Lib.hid hr
    clear hr hs hz
    go_enter Tryd.func5, Tryd.ntmps5
    go_wp2_with fail
    refine (alive_any w HR.out).mono ?_
    rintro r w1 ⟨rfl, b1⟩
    go_wp2_with fail
    go_ret
    exact ⟨rfl, b1⟩
  by_cases h2 : 40 < n
  · have h1' : ¬ (60 : Int) < (key.size : Int) := by omega
    have h2' : decide ((40 : Int) < (n : Int)) = true := by simp; omega
    have HR := Lib.hid hr
    clear hr hs hz
    go_enter Tryd.func5, Tryd.ntmps5
    go_wp2_with fail
    refine (alive_any w HR.out).mono ?_
    rintro r w1 ⟨rfl, b1⟩
    go_wp2_with fail
    go_ret
    exact ⟨rfl, b1⟩
  by_cases h3 : 60 < m
  · have h1' : ¬ (60 : Int) < (key.size : Int) := by omega
    have h2' : decide ((40 : Int) < (n : Int)) = false := by simp; omega
    have h3' : decide ((60 : Int) < (m : Int)) = true := by simp; omega
    have HR := Lib.hid hr
    clear hr hs hz
    go_enter Tryd.func5, Tryd.ntmps5
    go_wp2_with fail
    refine (alive_any w HR.out).mono ?_
    rintro r w1 ⟨rfl, b1⟩
    go_wp2_with fail
    go_ret
    exact ⟨rfl, b1⟩
  exact order_good key L n cl ss Z m cz zs w (by omega) (by omega) (by omega) hs hz hr

end Go.Proofs.YtncpjapfkcgjnaaDoor
