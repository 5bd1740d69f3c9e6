/- tally.Board: Add, Now, Names. Own work. -/
import Derived.Test.YtkhhmnmemdadmaaGreatBoard
import Derived.Test.YtkhhmnmemdadmaaGreatLays
import Derived.Test.YtkhhmnmemdadmaaGreatCounts
namespace Go.Proofs.YtkhhmnmemdadmaaGreat
set_option linter.unusedVariables false
open Go.RowKit Go.Maps Go.Sort Go.Shelf Go.MuLone

/-- slices.Sort at this translation. -/
theorem sorts_here (m : Nat) : AnyZ.SortsIn Tryz.prog Tryz.sorted17_ren Fence.wide m :=
  ⟨fun blk off cap ss W hH hblk hsz => callsIn_wide.2 (AnyM.slices_Sort_string Tryz.sort63 blk off cap ss W hH hblk hsz),
   fun p cap W => callsIn_wide.2 (AnyM.slices_Sort_string_none Tryz.sort63 p cap W)⟩

theorem keys_here (mb : Option Nat) (W : World) : Calls Tryz.prog 18 #[.map mb] W fun e w' => e = .returned (.func (.func 64) #[] #[.pointer (some ⟨W.heap.size, 0, none⟩)]) ∧ w' = W.alloc (.cells #[.map mb] 38) :=
  (callsIn_wide (n := 5)).1 (AnyZ.keys_in Tryz.keys18 Fence.wide 5 trivial rfl mb W)

set_option maxHeartbeats 1000000 in
theorem sorted_here {H : Type} (b nn : Nat) (D0 : DataW H) (R : Value → Option (DataW H × List MemPlace)) (w : World) (hown : w.ownsMap Tryz.prog 9 R b nn D0) (hmax : Maps.size D0 ≤ maxLen) (hbytes : Maps.size D0 * 16 ≤ 140737488355328) :
    Calls Tryz.prog 17 #[.func (.func 64) #[] #[.pointer (some ⟨w.heap.size, 0, none⟩)]] (w.alloc (.cells #[.map (some b)] 38)) fun e w' => ∃ (v : Value) (ss : List (List UInt8)), e = .returned v ∧ ss.Perm (strKeys D0) ∧
      w'.ownsRow (w.alloc (.cells #[.map (some b)] 38)).heap.size 9 1 v ss.length ((ss.mergeSort (fun x y => decide (x ≤ y))).map encStr) ∧ (v = .slice none 0 0 ↔ ss = []) ∧ Below (w.alloc (.cells #[.map (some b)] 38)).heap.size (w.alloc (.cells #[.map (some b)] 38)) w' := by
  have hbl := hown.lt
  have hseq : SeqGives Fence.wide 2 Tryz.prog 64 #[.pointer (some ⟨w.heap.size, 0, none⟩)] encStr (fun ss => ss.Perm (strKeys D0)) (Maps.size D0) (w.alloc (.cells #[.map (some b)] 38)) :=
    AnyZ.keys_gives (ρ := Tryz.keys18_ren) { Tryz.keys18 with } Fence.wide _ trivial rfl (by omega) w.heap.size b nn D0 _ (by simp) (by simp) (by
      obtain ⟨es, clock, hb, Ft, hs, hD⟩ := hown
      exact ⟨es, clock, (Below.heap_alloc _ _ b hbl).trans hb, Ft, hs, hD⟩)
  exact (callsIn_wide (n := 5)).1 (AnyZ.sorted_in Tryz.sorted17 Fence.wide 5 trivial trivial trivial trivial rfl (by omega) (sorts_here _) (enters_of Tryz.func63 (by kernel_rfl) rfl) 64 #[.pointer (some ⟨w.heap.size, 0, none⟩)] trivial (enters_of Tryz.func64 (by kernel_rfl) rfl) _ _ hmax hbytes _ hseq)


set_option maxRecDepth 100000 in
set_option maxHeartbeats 1600000 in
theorem bnames_any (p : Nat) (own : Nat → Prop) (ks : List (List UInt8)) (a : List UInt8 → Nat) (g : List UInt8 → Int) (w : World) (h : BoardAt w p own ks a g 0) (hlen : ks.length ≤ 1000000) :
    Calls Tryz.prog 5 #[.pointer (some ⟨p, 0, none⟩)] w fun e w' => ∃ v own', e = .returned v ∧ BoardAt w' p own' ks a g 0 ∧ Step own w own' w' ∧ w'.ownsRow w.heap.size 9 1 v ks.length ((rising ks).map encStr) ∧ (∀ k, v.ownBlock = some k → ¬ own' k) := by
  have H1 := Lib.hid (h.setLock 1)
  have HK := Lib.hid (show Keep own w (w.setCell ⟨p, 3, none⟩ (.int .i32 1)) from (keep_set w p 3 _).mono (fun i _ e => e ▸ h.ownp))
  have H := Lib.hid h
  clear h
  go_enter_defers Tryz.func5, Tryz.ntmps5
  go_wp2_with fail
  refine (lock_free muLib ⟨p, 3, none⟩ _ H.out.c3 (H.out.fr 3)).mono ?_
  rintro e w' ⟨rfl, rfl⟩
  go_wp2_with fail
  refine (tallies_any p own ks a g 1 _ H1.out).mono ?_
  rintro e w1 ⟨bm, own', rfl, r1, s1⟩
  have R1 := Lib.hid r1
  have S1 := Lib.hid s1
  obtain ⟨D, d1, d2, d3⟩ := r1.map.perm Tryz.underlying9
  have D1 := Lib.hid d1
  have D2 := Lib.hid d2
  have D3 := Lib.hid d3
  clear r1 s1 d1 d2 d3
  go_wp2_with fail
  refine (keys_here _ _).mono ?_
  rintro e w2 ⟨rfl, rfl⟩
  go_wp2_with fail
  refine (sorted_here bm _ D _ w1 D1.out (by rw [D3.out]; unfold maxLen; omega) (by rw [D3.out]; omega)).mono ?_
  rintro e w3 ⟨v, ss, rfl, q1, q2, q3, q4⟩
  have hpm := q1.trans D2.out.symm
  have e1 : ss.mergeSort (fun x y => decide (x ≤ y)) = rising ks := mergeSort_of_perm hpm
  rw [e1, hpm.length_eq] at q2
  have kk : Keep (fun _ => False) w1 w3 := ((Keep.refl _ w1).alloc _).trans (Keep.of_below (fun _ => False) q4) (fun _ _ x => x)
  have R3 := Lib.hid ((R1.out.keep kk (fun _ _ x => x)).setLock 0)
  have c3 := (R1.out.keep kk (fun _ _ x => x)).blk.c3
  have f3 := (R1.out.keep kk (fun _ _ x => x)).blk.fr 3
  have S3 : Hid (Step own w own' (w3.setCell ⟨p, 3, none⟩ (.int .i32 0))) := by
    show Step _ _ _ _
    have s0 : Step own w own (w.setCell ⟨p, 3, none⟩ (.int .i32 1)) := ⟨HK.out, fun _ x => .inl x⟩
    have s2 : Step own' w1 own' (w3.setCell ⟨p, 3, none⟩ (.int .i32 0)) := Step.of_keep ((kk.mono (S' := fun k => k = p) (fun _ _ x => x.elim)).own 3 (.int .i32 0)) (fun i e => e ▸ R1.out.ownp)
    exact (s0.trans S1.out).trans s2
  have hfar : ∀ k, v.ownBlock = some k → w1.heap.size < k := fun k hk => by
    have := (q2.lt k hk).1
    simp at this
    omega
  have Q2 : Hid ((w3.setCell ⟨p, 3, none⟩ (.int .i32 0)).ownsRow w.heap.size 9 1 v ks.length ((rising ks).map encStr)) := by
    show World.ownsRow _ _ _ _ _ _ _
    have hw1 : w.heap.size ≤ w1.heap.size := Nat.le_trans HK.out.size S1.out.1.size
    have h2 := own_keep q2 (keep_set w3 p 3 (.int .i32 0)) (fun i hi e => by have := hfar i hi; have := R1.out.blk.lt; omega)
    exact ⟨h2.1, by
      rcases h2.2 with q | ⟨g', cap, cur, q1, q2, q3⟩
      · exact .inl q
      · refine .inr ⟨g', cap, cur, q1, ?_, q3⟩
        simp at q2
        omega⟩
  have HF := Lib.hid hfar
  clear q1 q2 q3 q4 hpm e1 kk hfar H1
  go_wp2_with fail
  refine leaves_cons (f := 16) (args := #[.pointer (some ⟨p, 3, none⟩)]) (by simp) (by simp [go_sem]) ?_
  refine (unlock_deferred muLib ⟨p, 3, none⟩ .returning _ c3 f3).mono ?_
  rintro e u' w'' ⟨rfl, rfl, rfl⟩
  refine ⟨_, results_tmp rfl _ _ _, v, own', rfl, .inr ⟨bm, R3.out⟩, S3.out, Q2.out, fun k hk ho => ?_⟩
  have := HF.out k hk
  have := R1.out.lt k ho
  omega

theorem bnames_nil (w : World) : Calls Tryz.prog 5 #[.pointer none] w fun e w' => e = .returned (.slice none 0 0) ∧ w = w' := by
  go_enter_defers Tryz.func5, Tryz.ntmps5
  go_wp2_with fail
  exact ⟨_, results_tmp rfl _ _ _, rfl, rfl⟩

theorem zero_tal (w : World) : (zeroValue 72).run Tryz.prog w = .ok (.pointer none) w := by kernel_rfl

/-- A lock that is let go. -/
theorem step_unlock {w w1 w3 : World} {p : Nat} {own own' : Nat → Prop} (h : Step own (w.setCell ⟨p, 3, none⟩ (.int .i32 1)) own' w1) (hp : own p) (hp' : own' p) {own2 : Nat → Prop} (k : Step own' w1 own2 w3) (hp2 : own2 p) :
    Step own w own2 (w3.setCell ⟨p, 3, none⟩ (.int .i32 0)) := by
  have s0 : Step own w own (w.setCell ⟨p, 3, none⟩ (.int .i32 1)) := ⟨(keep_set w p 3 _).mono (fun i _ e => e ▸ hp), fun _ x => .inl x⟩
  have s2 : Step own2 w3 own2 (w3.setCell ⟨p, 3, none⟩ (.int .i32 0)) := ⟨(keep_set w3 p 3 _).mono (fun i _ e => e ▸ hp2), fun _ x => .inl x⟩
  exact ((s0.trans h).trans k).trans s2

set_option maxRecDepth 100000 in
set_option maxHeartbeats 1600000 in
theorem bnow_any (p : Nat) (own : Nat → Prop) (ks : List (List UInt8)) (a : List UInt8 → Nat) (g : List UInt8 → Int) (s : ByteArray) (w : World) (h : BoardAt w p own ks a g 0) (hs : s.size ≤ maxLen) :
    Calls Tryz.prog 7 #[.pointer (some ⟨p, 0, none⟩), .string s] w fun e w' => ∃ own', e = .returned (.int .i64 (g s.data.toList)) ∧ BoardAt w' p own' ks a g 0 ∧ Step own w own' w' := by
  have H1 := Lib.hid (h.setLock 1)
  have H := Lib.hid h
  have HP := Lib.hid h.ownp
  clear h
  go_enter_defers Tryz.func7, Tryz.ntmps7
  go_wp2_with fail
  refine (lock_free muLib ⟨p, 3, none⟩ _ H.out.c3 (H.out.fr 3)).mono ?_
  rintro e w' ⟨rfl, rfl⟩
  go_wp2_with fail
  refine (tallies_any p own ks a g 1 _ H1.out).mono ?_
  rintro e w1 ⟨bm, own', rfl, r1, s1⟩
  have R1 := Lib.hid r1
  have S1 := Lib.hid s1
  clear r1 s1 H1 H
  by_cases hin : s.data.toList ∈ ks
  · have hl := R1.out.map.look_in Tryz.underlying9 Tryz.underlying38 (zero_tal w1) hs hin
    have ht := Lib.hid (R1.out.tal _ hin).2.2.2
    clear hin
    go_wp2_with fail
    refine (tnow_any _ 0 _ _ ht.out).mono ?_
    rintro e w2 ⟨rfl, rfl⟩
    clear hl
    have c3 := R1.out.blk.c3
    go_wp2_with fail
    refine leaves_cons (f := 16) (args := #[.pointer (some ⟨p, 3, none⟩)]) (by simp) (by simp [go_sem]) ?_
    refine (unlock_deferred muLib ⟨p, 3, none⟩ .returning _ c3 (R1.out.blk.fr 3)).mono ?_
    rintro e u' w'' ⟨rfl, rfl, rfl⟩
    exact ⟨_, results_tmp rfl _ _ _, own', rfl, .inr ⟨bm, R1.out.setLock 0⟩, step_unlock S1.out HP.out R1.out.ownp (Step.refl _ _) R1.out.ownp⟩
  · have hl := R1.out.map.look_out Tryz.underlying9 Tryz.underlying38 (zero_tal w1) hs hin
    have HIN := Lib.hid hin
    clear hin
    go_wp2_with fail
    refine (tnow_nil _).mono ?_
    rintro e w2 ⟨rfl, rfl⟩
    clear hl
    have c3 := R1.out.blk.c3
    go_wp2_with fail
    refine leaves_cons (f := 16) (args := #[.pointer (some ⟨p, 3, none⟩)]) (by simp) (by simp [go_sem]) ?_
    refine (unlock_deferred muLib ⟨p, 3, none⟩ .returning _ c3 (R1.out.blk.fr 3)).mono ?_
    rintro e u' w'' ⟨rfl, rfl, rfl⟩
    exact ⟨_, results_tmp rfl _ _ _, own', by rw [R1.out.zero _ HIN.out]; rfl, .inr ⟨bm, R1.out.setLock 0⟩, step_unlock S1.out HP.out R1.out.ownp (Step.refl _ _) R1.out.ownp⟩

theorem bnow_nil (v : Value) (w : World) : Calls Tryz.prog 7 #[.pointer none, v] w fun e w' => e = .returned (.int .i64 0) ∧ w = w' := by
  go_enter_defers Tryz.func7, Tryz.ntmps7
  go_wp2_with fail
  exact ⟨_, results_tmp rfl _ _ _, rfl, rfl⟩

/-- A new name's tally is laid. -/
theorem Ready.put {w w3 : World} {p bm : Nat} {own : Nat → Prop} {ks : List (List UInt8)} {a : List UInt8 → Nat} {g : List UInt8 → Int} {lv : Int} (h : Ready w p bm own ks a g lv) {s : List UInt8} (hs : s ∉ ks) {w2 : World}
    (h2 : w2 = w.alloc (.cells #[.int .i64 0] 64)) (hm : MapS Tryz.prog 9 w3 bm (insKey s ks) (setAt (fun x => .pointer (some ⟨a x, 0, none⟩)) s (.pointer (some ⟨w.heap.size, 0, none⟩)))) (hg : w2.grownBy w3 (some bm)) :
    Ready w3 p bm (fun k => own k ∨ k = w.heap.size) (insKey s ks) (setAt a s w.heap.size) g lv ∧ Step own w (fun k => own k ∨ k = w.heap.size) w3 := by
  subst h2
  have k1 : Keep (fun k => k = bm) w w3 := ((Keep.refl (fun k => k = bm) w).alloc _).grown hg (fun k hk _ => by injection hk with hk; exact hk.symm)
  have k2 : Keep (fun k => k = bm) (w.alloc (.cells #[.int .i64 0] 64)) w3 := (Keep.refl (fun k => k = bm) _).grown hg (fun k hk _ => by injection hk with hk; exact hk.symm)
  have hbm := h.lt bm h.ownm
  have hpl := h.lt p h.ownp
  have hsz : w.heap.size + 1 ≤ w3.heap.size := by have := k2.size; simpa using this
  have hT : TalAt w3 w.heap.size 0 0 := TalAt.keep (S := fun k => k = bm) ⟨by simp, free_at (heap_alloc_new w _) 0⟩ k2 (by omega)
  refine ⟨{ blk := h.blk.keep k1 (fun e => h.ne e.symm), ownp := .inl h.ownp, ownm := .inl h.ownm, ne := h.ne, lt := fun k hk => ?_, zero := fun x hx => h.zero x (fun q => hx (mem_insKey.2 (.inr q))), map := hm.congr (fun x hx => ?_), tal := fun x hx => ?_, inj := fun x hx y hy e => ?_ }, k1.mono (fun i _ e => e ▸ h.ownm), fun k hk => hk.imp id (fun e => by omega)⟩
  · rcases hk with hk | hk
    · have := h.lt k hk; omega
    · omega
  · by_cases e : x = s
    · rw [e, setAt_same, setAt_same]
    · rw [setAt_other _ _ e, setAt_other _ _ e]
  · by_cases e : x = s
    · subst e
      rw [setAt_same, h.zero x hs]
      exact ⟨.inr rfl, by omega, by omega, hT⟩
    · rw [setAt_other _ _ e]
      obtain ⟨t1, t2, t3, t4⟩ := h.tal x (by rcases mem_insKey.1 hx with q | q; exact absurd q e; exact q)
      exact ⟨.inl t1, t2, t3, t4.keep k1 t3⟩
  · have old : ∀ z, z ∈ insKey s ks → z ≠ s → z ∈ ks := fun z hz hne => by rcases mem_insKey.1 hz with q | q; exact absurd q hne; exact q
    by_cases e1 : x = s
    · by_cases e2 : y = s
      · rw [e1, e2]
      · rw [e1, setAt_same, setAt_other _ _ e2] at e
        have := h.lt _ (h.tal y (old y hy e2)).1
        omega
    · by_cases e2 : y = s
      · rw [e2, setAt_same, setAt_other _ _ e1] at e
        have := h.lt _ (h.tal x (old x hx e1)).1
        omega
      · rw [setAt_other _ _ e1, setAt_other _ _ e2] at e
        exact h.inj x (old x hx e1) y (old y hy e2) e

set_option maxRecDepth 100000 in
set_option maxHeartbeats 1600000 in
theorem named_any (p : Nat) (own : Nat → Prop) (ks : List (List UInt8)) (a : List UInt8 → Nat) (g : List UInt8 → Int) (s : ByteArray) (w : World) (h : BoardAt w p own ks a g 0) (hs : s.size ≤ maxLen) (hlen : ks.length ≤ 1000000) :
    Calls Tryz.prog 20 #[.pointer (some ⟨p, 0, none⟩), .string s] w fun e w' => ∃ own' a' bm, e = .returned (.pointer (some ⟨a' s.data.toList, 0, none⟩)) ∧ Ready w' p bm own' (insKey s.data.toList ks) a' g 0 ∧ Step own w own' w' := by
  have H1 := Lib.hid (h.setLock 1)
  have H := Lib.hid h
  have HP := Lib.hid h.ownp
  clear h
  go_enter_defers Tryz.func20, Tryz.ntmps20
  go_wp2_with fail
  refine (lock_free muLib ⟨p, 3, none⟩ _ H.out.c3 (H.out.fr 3)).mono ?_
  rintro e w' ⟨rfl, rfl⟩
  go_wp2_with fail
  refine (tallies_any p own ks a g 1 _ H1.out).mono ?_
  rintro e w1 ⟨bm, own', rfl, r1, s1⟩
  have R1 := Lib.hid r1
  have S1 := Lib.hid s1
  clear r1 s1 H1 H
  by_cases hin : s.data.toList ∈ ks
  · have hl := R1.out.map.look_in Tryz.underlying9 Tryz.underlying38 (zero_tal w1) hs hin
    have HIN := Lib.hid hin
    clear hin
    go_wp2_with fail
    clear hl
    have c3 := R1.out.blk.c3
    refine leaves_cons (f := 16) (args := #[.pointer (some ⟨p, 3, none⟩)]) (by simp) (by simp [go_sem]) ?_
    refine (unlock_deferred muLib ⟨p, 3, none⟩ .returning _ c3 (R1.out.blk.fr 3)).mono ?_
    rintro e u' w'' ⟨rfl, rfl, rfl⟩
    exact ⟨_, results_tmp rfl _ _ _, own', a, bm, rfl, by rw [insKey_in HIN.out]; exact R1.out.setLock 0, step_unlock S1.out HP.out R1.out.ownp (Step.refl _ _) R1.out.ownp⟩
  · have hl := R1.out.map.look_out Tryz.underlying9 Tryz.underlying38 (zero_tal w1) hs hin
    have HIN := Lib.hid hin
    clear hin
    go_wp2_with (at_mapUpdate; refine wpList_update_S _ rfl _ _ _ 38 rfl 9 72 Tryz.underlying9 Tryz.underlying38 bm ks (fun x => .pointer (some ⟨a x, 0, none⟩)) rfl (R1.out.map.keep ((Keep.refl (fun _ => False) w1).alloc _) (fun x => x)) (by unfold maxLen; omega) s hs rfl ?_)
    intro w3 hm hg
    obtain ⟨r3, s3⟩ := R1.out.put HIN.out rfl hm hg
    have R3 := Lib.hid r3
    have S3 := Lib.hid s3
    have hl3 := r3.map.look_in Tryz.underlying9 Tryz.underlying38 (zero_tal w3) hs (mem_insKey.2 (.inl rfl))
    rw [setAt_same] at hl3
    clear hm hg r3 s3 hl
    go_wp2_with fail
    clear hl3
    have c3 := R3.out.blk.c3
    refine leaves_cons (f := 16) (args := #[.pointer (some ⟨p, 3, none⟩)]) (by simp) (by simp [go_sem]) ?_
    refine (unlock_deferred muLib ⟨p, 3, none⟩ .returning _ c3 (R3.out.blk.fr 3)).mono ?_
    rintro e u' w'' ⟨rfl, rfl, rfl⟩
    exact ⟨_, results_tmp rfl _ _ _, _, _, bm, by rw [setAt_same]; rfl, R3.out.setLock 0, step_unlock S1.out HP.out R1.out.ownp S3.out R3.out.ownp⟩

set_option maxRecDepth 100000 in
set_option maxHeartbeats 1600000 in
theorem badd_any (p : Nat) (own : Nat → Prop) (ks : List (List UInt8)) (a : List UInt8 → Nat) (g : List UInt8 → Int) (s : ByteArray) (n : Int) (w : World) (h : BoardAt w p own ks a g 0) (hs : s.size ≤ maxLen) (hlen : ks.length ≤ 1000000) (hn : -9223372036854775808 ≤ n ∧ n ≤ 9223372036854775807) :
    Calls Tryz.prog 6 #[.pointer (some ⟨p, 0, none⟩), .string s, .int .i64 n] w fun e w' => ∃ own' a', e = .returned (.int .i64 (wrap64 (g s.data.toList + n))) ∧ BoardAt w' p own' (insKey s.data.toList ks) a' (setAt g s.data.toList (wrap64 (g s.data.toList + n))) 0 ∧ Step own w own' w' := by
  have HN := Lib.hid (named_any p own ks a g s w h hs hlen)
  clear h
  go_enter Tryz.func6, Tryz.ntmps6
  go_wp2_with fail
  refine HN.out.mono ?_
  rintro e w1 ⟨own', a', bm, rfl, r1, s1⟩
  have kk := (Keep.refl (fun _ => False) w1).alloc (.cells #[.int .i64 n] 3)
  have R1 := Lib.hid (r1.keep kk (fun _ _ x => x))
  have S1 := Lib.hid s1
  have K1 := Lib.hid kk
  clear r1 s1 kk
  have hin : s.data.toList ∈ insKey s.data.toList ks := mem_insKey.2 (.inl rfl)
  have HIN := Lib.hid hin
  clear hin
  go_wp2_with fail
  refine (tadd_any _ 0 _ _ 1 1 [n] _ (R1.out.tal _ HIN.out).2.2.2 (by exact fresh_ints [n] (by simpa using hn) (by simp [maxLen]) _ rfl _ rfl)).mono ?_
  rintro e w2 ⟨rfl, t⟩
  rw [tot_one hn] at t ⊢
  have R2 := Lib.hid (R1.out.setTal HIN.out t)
  have S2 : Hid (Step own w own' w2) := S1.out.trans ((Step.of_keep (own := own') K1.out (fun _ x => x.elim)).trans (Step.of_keep (own := own') t.keep (fun i e => by rw [e]; exact (R1.out.tal _ HIN.out).1)))
  clear t
  go_wp2_with fail
  go_ret
  exact ⟨own', a', rfl, .inr ⟨bm, R2.out⟩, S2.out⟩

theorem badd_nil (v x : Value) (w : World) : Calls Tryz.prog 6 #[.pointer none, v, x] w fun e w' => e = .returned (.int .i64 0) ∧ w = w' := by
  go_enter Tryz.func6, Tryz.ntmps6
  go_wp2_with fail
  go_ret
  exact ⟨rfl, rfl⟩

end Go.Proofs.YtkhhmnmemdadmaaGreat
