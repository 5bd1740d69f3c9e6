/- patch: Diff. By program (rgn/XPat6.py). Own work. -/
import Derived.Test.YtgomnigchfmfhaaPat5
import Derived.Test.YtgomnigchfmfhaaPatD
import Derived.Deep.CutRange
import Derived.Deep.Cut
namespace Go.Proofs.Ytgomnigchfmfhaa
set_option linter.unusedVariables false
set_option linter.unusedSimpArgs false
open Go.RowKit

theorem slice_heap {w : World} {g : Nat} {cs : Array Value} {t : TypeId} {S : Nat → Prop} (h : w.heap[g]? = some (.cells cs t (0, 0))) (hS : ¬ S g) : SliceAt w (some ⟨g, 0, none⟩) cs.toList S :=
  fun _ => ⟨g, 0, rfl, lt_heap h, hS, fun i v hv => by rw [Nat.zero_add]; exact (cell_at h i).trans (by simpa using hv)⟩
theorem out_far {w : World} {q g : Nat} {A : Option Addr} {c : Nat} {l : List UInt8} {e : Int} {cs : Array Value} (h : OutAt w q A c l e) (hg : w.heap[g]? = some (.cells cs 3 (0, 0))) : ¬ (g = q ∨ blk A = some g) := by
  rintro (e | e)
  · subst e
    have := h.1
    rw [hg] at this
    injection this with this
    injection this with _ h2 _
    exact absurd h2 (by decide)
  · have := own_ne h.2 hg (by decide)
    rw [ownBlock_slice] at this
    exact this e
theorem out_far2 {w : World} {q g : Nat} {A : Option Addr} {c : Nat} {l : List UInt8} {e : Int} {cs : Array Value} (h : OutAt w q A c l e) (hg : w.heap[g]? = some (.cells cs 24 (0, 0))) : ¬ (g = q ∨ blk A = some g) := by
  rintro (e | e)
  · subst e
    have := h.1
    rw [hg] at this
    injection this with this
    injection this with _ h2 _
    exact absurd h2 (by decide)
  · have := own_ne h.2 hg (by decide)
    rw [ownBlock_slice] at this
    exact this e
theorem out_far3 {w : World} {q g : Nat} {A : Option Addr} {c : Nat} {l : List UInt8} {e : Int} {cs : Array Value} (h : OutAt w q A c l e) (hg : w.heap[g]? = some (.cells cs 53 (0, 0))) : ¬ (g = q ∨ blk A = some g) := by
  rintro (e | e)
  · subst e
    have := h.1
    rw [hg] at this
    injection this with this
    injection this with _ h2 _
    exact absurd h2 (by decide)
  · have := own_ne h.2 hg (by decide)
    rw [ownBlock_slice] at this
    exact this e
theorem scr_cells {w : World} {p : Nat} {W H X Y : Int} {B : Option Addr} {n d : Nat} {hi : Bool} {t : TypeId} (h : w.heap[p]? = some (.cells #[.int .i64 W, .int .i64 H, .slice B n d, .int .i64 X, .int .i64 Y, .bool hi] t (0, 0))) :
    w.cell? ⟨p, 0, none⟩ = some (.int .i64 W) ∧ w.cell? ⟨p, 1, none⟩ = some (.int .i64 H) ∧ w.cell? ⟨p, 2, none⟩ = some (.slice B n d) ∧ w.cell? ⟨p, 3, none⟩ = some (.int .i64 X) ∧ w.cell? ⟨p, 4, none⟩ = some (.int .i64 Y) ∧ w.cell? ⟨p, 5, none⟩ = some (.bool hi) :=
  ⟨cell_at h 0, cell_at h 1, cell_at h 2, cell_at h 3, cell_at h 4, cell_at h 5⟩
theorem cell_Lay (c : CellM) (w : World) (h : okC c) : Calls Try.prog 25 #[c.v] w fun e w' => e = .returned (.string ⟨(cellB c).toArray⟩) ∧ Below w.heap.size w w' := by
  have h1 := h.1
  exact cell_lay_low c w h.2 c.r.toNat (by omega) (by omega) (by omega)

set_option maxRecDepth 100000 in
set_option maxHeartbeats 6400000 in
theorem patch_Diff_bad (a b : Scr) (A B : Option Addr) (c d : Nat) (w : World) (hA : a.at' w A) (hB : b.at' w B) (hn1 : a.n ≤ 1099511627776) (hn2 : b.n ≤ 1099511627776) (hv : (validB a && validB b) = false) :
    Calls Try.prog 7 #[a.v A c, b.v B d] w fun e w' => e = .returned (.tuple #[.string ⟨#[]⟩, .int .i64 1]) ∧ Below w.heap.size w w' := by
  obtain ⟨W0, hW0, hb0, q1, q2⟩ := scr_boxes w (a.cs A c) (b.cs B d) 24
  have HR := Lib.hid (patch_runs_bad a b A B c d W0 (hA.keep (Keep.of_below _ hb0)) (hB.keep (Keep.of_below _ hb0)) hn1 hn2 hv)
  have HB0 := Lib.hid hb0
  obtain ⟨p, hp⟩ : ∃ p, p = w.heap.size := ⟨_, rfl⟩
  rw [← hp] at q1 q2
  have a0 := cell_at q1 0; have a1 := cell_at q1 1; have a2 := cell_at q1 2; have a3 := cell_at q1 3; have a4 := cell_at q1 4; have a5 := cell_at q1 5
  have b0 := cell_at q2 0; have b1 := cell_at q2 1; have b2 := cell_at q2 2; have b3 := cell_at q2 3; have b4 := cell_at q2 4; have b5 := cell_at q2 5
  clear hA hB hb0 hn1 hn2 hv q1 q2
  obtain ⟨W, H, n, F, X, Y, hi⟩ := a
  obtain ⟨W', H', n', F', X', Y', hi'⟩ := b
  simp only [Scr.v, Scr.cs] at hW0 HR a0 a1 a2 a3 a4 a5 b0 b1 b2 b3 b4 b5 ⊢
  simp at a0 a1 a2 a3 a4 a5 b0 b1 b2 b3 b4 b5
  go_enter Try.func7, Try.ntmps7
  go_upto_region 1 with fail
  rw [← hW0, ← hp]
  clear hW0 hp
  go_wp2_with fail
  refine HR.out.mono ?_
  rintro e w1 ⟨rfl, hb⟩
  have HB1 : Hid (Below w.heap.size w w1) := Lib.hid (HB0.out.trans (hb.mono HB0.out.size))
  clear hb a0 a1 a2 a3 a4 a5 b0 b1 b2 b3 b4 b5
  go_wp2_with fail
  go_ret2
  exact ⟨rfl, HB1.out⟩

set_option maxRecDepth 100000 in
set_option maxHeartbeats 25600000 in
theorem patch_Diff (a b : Scr) (A B : Option Addr) (c d : Nat) (w : World) (hA : a.at' w A) (hB : b.at' w B) (hcap : b.n ≤ d) (ha : a.Ok) (hb : b.Ok) :
    Calls Try.prog 7 #[a.v A c, b.v B d] w fun e w' => e = .returned (.tuple #[.string ⟨(diffB a b).toArray⟩, .int .i64 0]) ∧ Below w.heap.size w w' := by
  obtain ⟨W0, hW0, hb0, q1, q2⟩ := scr_boxes w (a.cs A c) (b.cs B d) 24
  have HR := Lib.hid (patch_runs a b A B c d W0 (hA.keep (Keep.of_below _ hb0)) (hB.keep (Keep.of_below _ hb0)) ha hb)
  have HB0 := Lib.hid hb0
  have hn8 := hb.n800.1
  have hokw := hb.w
  have hokh := hb.h
  have hokx := hb.x
  have hoky := hb.y
  have HOK := Lib.hid hb.c
  obtain ⟨hso, -, hsum, -, -⟩ := runsN_ok (chg a b) b.n
  have hl8 := runsN_len (chg a b) b.n
  have HD : Hid (diffB a b = headB b ++ enc (runsN (chg a b) b.n).length ++ runsB b.F 0 (runsN (chg a b) b.n)) := Lib.hid rfl
  generalize diffB a b = D at HD ⊢
  generalize runsN (chg a b) b.n = l at HR hso hsum hl8 HD
  have HSo := Lib.hid hso
  have HSB : Hid (Src w B (b.n * 6) (flatF b.F b.n)) := Lib.hid hB
  have HSrc := Lib.hid (hB.keep (Keep.of_below _ hb0))
  obtain ⟨p, hp⟩ : ∃ p, p = w.heap.size := ⟨_, rfl⟩
  rw [← hp] at q1 q2
  have a0 := cell_at q1 0; have a1 := cell_at q1 1; have a2 := cell_at q1 2; have a3 := cell_at q1 3; have a4 := cell_at q1 4; have a5 := cell_at q1 5
  have b0 := cell_at q2 0; have b1 := cell_at q2 1; have b2 := cell_at q2 2; have b3 := cell_at q2 3; have b4 := cell_at q2 4; have b5 := cell_at q2 5
  have Q2 := Lib.hid q2
  clear hA hB hb0 ha hb q1 q2 hso hsum
  obtain ⟨W, H, n, F, X, Y, hi⟩ := a
  obtain ⟨W', H', n', F', X', Y', hi'⟩ := b
  simp only [Scr.v, Scr.cs, Scr.at', headB] at hW0 HR a0 a1 a2 a3 a4 a5 b0 b1 b2 b3 b4 b5 HSo hn8 hl8 hokw hokh hokx hoky HOK HD HSrc HSB Q2 hcap ⊢
  simp at a0 a1 a2 a3 a4 a5 b0 b1 b2 b3 b4 b5
  have HI4 : Hid (∀ x ∈ [W', H', X', Y'], x ≤ 9223372036854775807) := Lib.hid (by intro x hx; simp at hx; omega)
  have HE9 : Hid (numsO [] 0 [W', H', X', Y'] = (enc W'.toNat ++ enc H'.toNat ++ enc X'.toNat ++ enc Y'.toNat, 0)) := Lib.hid (by
    have := nums_nat [] [W'.toNat, H'.toNat, X'.toNat, Y'.toNat]
    simp only [List.map_cons, List.map_nil, List.flatMap_cons, List.flatMap_nil, List.nil_append, List.append_nil, ← List.append_assoc] at this
    rw [← this]
    congr 1
    rw [show ((W'.toNat : Nat) : Int) = W' from by omega, show ((H'.toNat : Nat) : Int) = H' from by omega, show ((X'.toNat : Nat) : Int) = X' from by omega, show ((Y'.toNat : Nat) : Int) = Y' from by omega])
  have hl1 : (enc W'.toNat ++ enc H'.toNat ++ enc X'.toNat ++ enc Y'.toNat).length ≤ 36 := by
    have := enc_le W'.toNat (by omega)
    have := enc_le H'.toNat (by omega)
    have := enc_le X'.toNat (by omega)
    have := enc_le Y'.toNat (by omega)
    simp only [List.length_append]
    omega
  generalize enc W'.toNat ++ enc H'.toNat ++ enc X'.toNat ++ enc Y'.toNat = l1 at HE9 HD hl1
  have HE14 := Lib.hid (bytes_flag l1 hi')
  generalize hl2 : l1 ++ [UInt8.ofNat (if hi' = true then 1 else 0)] = l2 at HE14 HD
  have hl2n : l2.length ≤ 37 := by rw [← hl2]; simp; omega
  have HF := Lib.hid (fun V => patch_flag hi' V)
  generalize (if hi' = true then 1 else 0 : Int) = fv at HE14 HF
  have HI1 : Hid (l1.length + 1 ≤ 1099511627776) := Lib.hid (by omega)
  clear hl2
  go_enter Try.func7, Try.ntmps7
  go_upto_region 1 with fail
  rw [← hW0, ← hp]
  clear hW0 hp
  go_wp2_with fail
  refine HR.out.mono ?_
  rintro e w1 ⟨C, z, rfl, ho, hb⟩
  obtain ⟨m, hm⟩ : ∃ m, l.length = m := ⟨_, rfl⟩
  rw [hm] at ho hl8 HD
  rw [hm]
  have HM := Lib.hid hm.symm
  have HB1 : Hid (Below w.heap.size w w1) := Lib.hid (HB0.out.trans (hb.mono HB0.out.size))
  have HRow := Lib.hid ho
  have Q2' := Lib.hid ((Keep.of_below (fun _ => False) hb).heap Q2.out (fun x => x))
  have HSrc1 := Lib.hid (Src.keep HSrc.out (Keep.of_below _ hb))
  have HE18 : Hid (numsO l2 0 [(m : Int)] = (l2 ++ enc m, 0)) := Lib.hid (by have := nums_nat l2 [m]; simpa using this)
  generalize hl3 : l2 ++ enc m = l3 at HE18 HD
  have hl3n : l3.length ≤ 46 := by rw [← hl3]; have := enc_le m (by omega); simp; omega
  have HIm : Hid (∀ x ∈ [(m : Int)], x ≤ 9223372036854775807) := Lib.hid (by intro x hx; simp at hx; omega)
  have HI2 : Hid (l2.length + 9 * 1 ≤ 1099511627776) := Lib.hid (by omega)
  clear hl3 hm ho hb a0 a1 a2 a3 a4 a5 b0 b1 b2 b3 b4 b5 HR HSrc Q2 hokw hokh hokx hoky
  go_upto_region 5 with fail
  obtain ⟨Wq, hWq⟩ : ∃ Wq, Wq = w1.alloc (.cells #[.slice none 0 0, .int .i64 0] 48) := ⟨_, rfl⟩
  obtain ⟨q, hq⟩ : ∃ q, q = w1.heap.size := ⟨_, rfl⟩
  have HOq : Hid (OutAt Wq q none 0 [] 0) := Lib.hid (by rw [hWq, hq]; exact OutAt.new w1)
  have HBq : Hid (Below w.heap.size w Wq) := Lib.hid (by rw [hWq]; exact HB1.out.alloc HB1.out.size _)
  have HRq : Hid (Wq.ownsRow W0.heap.size 53 2 (.slice C m z) m (rv l)) := Lib.hid (by rw [hWq]; exact World.ownsRow.alloc HRow.out _)
  have HSq : Hid (Src Wq B (n' * 6) (flatF F' n')) := Lib.hid (by rw [hWq]; exact Src.keep HSrc1.out ((Keep.refl _ _).alloc _))
  have HQq : Hid (Wq.heap[p + 1]? = some (.cells #[.int .i64 W', .int .i64 H', .slice B n' d, .int .i64 X', .int .i64 Y', .bool hi'] 24 (0, 0))) := Lib.hid (by rw [hWq]; exact heap_alloc Q2'.out _)
  have HNq : Hid (w.heap.size ≤ q ∧ (∀ k, (Value.slice C m z).ownBlock = some k → k < q)) := Lib.hid ⟨by rw [hq]; exact HB1.out.size, fun k hk => by rw [hq]; exact (World.ownsRow.lt HRow.out k hk).2⟩
  rw [← hWq, ← hq]
  clear hWq hq HRow Q2' HSrc1 HB1
  go_cut [8] from 23 to 41 (fun v wx => v = .pointer (some ⟨q, 0, none⟩) ∧ True ∧ ∃ A' c', Hid (OutAt wx q A' c' l3 0) ∧ Hid (OutStep q none Wq A' wx))
  case first =>
    refine wp_region_noPanic ?_
    refine wp_region_held_drew (S := fun V => V.cell? ⟨p + 1, 0, none⟩ = some (.int .i64 W') ∧ V.cell? ⟨p + 1, 1, none⟩ = some (.int .i64 H') ∧ V.cell? ⟨p + 1, 2, none⟩ = some (.slice B n' d) ∧ V.cell? ⟨p + 1, 3, none⟩ = some (.int .i64 X') ∧ V.cell? ⟨p + 1, 4, none⟩ = some (.int .i64 Y') ∧ V.cell? ⟨p + 1, 5, none⟩ = some (.bool hi')) (by kernel_rfl) (scr_cells HQq.out) (fun hHeld => ?_)
    obtain ⟨Wd, hWd⟩ : ∃ V, V = Wq.drew := ⟨_, rfl⟩
    have HOWd : Hid (OutAt Wd q none 0 [] 0) := Lib.hid (by rw [hWd]; exact HOq.out.drew)
    have HTWd : Hid (OutStep q none Wq none Wd) := Lib.hid (by rw [hWd]; exact ⟨(Keep.refl _ _).drew, fun _ h => .inl h⟩)
    have HQWd : Hid (Wd.heap[p + 1]? = some (.cells #[.int .i64 W', .int .i64 H', .slice B n' d, .int .i64 X', .int .i64 Y', .bool hi'] 24 (0, 0))) := Lib.hid (by rw [hWd]; exact HQq.out)
    rw [← hWd]
    clear hWd hHeld
    have hHeld := scr_cells HQWd.out
    refine wpAnyH_take (i := 0) (oi := _) (v := ?vt0_1) rfl (by kernel_rfl) (by kernel_rfl) (by kernel_rfl) (fun _ _ _ h => h) (Or.inl ⟨by rfl, ?hyt0_1⟩) (by assumption) ?restt0_1
    case hyt0_1 => (intro w hSw; (try dsimp only at hSw); (try simp only [List.getElem_toArray, List.getElem_cons_zero, List.getElem_cons_succ]); go_simp; (try with_reducible rfl))
    (try simp only [Act.put, List.setIfInBounds_toArray, List.set_cons_zero, List.set_cons_succ, List.getElem_toArray, List.getElem_cons_zero, List.getElem_cons_succ])
    refine wpAnyH_take (i := 1) (oi := _) (v := ?vt1_2) rfl (by kernel_rfl) (by kernel_rfl) (by kernel_rfl) (fun _ _ _ h => h) (Or.inl ⟨by rfl, ?hyt1_2⟩) (by assumption) ?restt1_2
    case hyt1_2 => (intro w hSw; (try dsimp only at hSw); (try simp only [List.getElem_toArray, List.getElem_cons_zero, List.getElem_cons_succ]); go_simp; (try with_reducible rfl))
    (try simp only [Act.put, List.setIfInBounds_toArray, List.set_cons_zero, List.set_cons_succ, List.getElem_toArray, List.getElem_cons_zero, List.getElem_cons_succ])
    refine wpAnyH_take (i := 2) (oi := _) (v := ?vt2_3) rfl (by kernel_rfl) (by kernel_rfl) (by kernel_rfl) (fun _ _ _ h => h) (Or.inl ⟨by rfl, ?hyt2_3⟩) (by assumption) ?restt2_3
    case hyt2_3 => (intro w hSw; (try dsimp only at hSw); (try simp only [List.getElem_toArray, List.getElem_cons_zero, List.getElem_cons_succ]); go_simp; (try with_reducible rfl))
    (try simp only [Act.put, List.setIfInBounds_toArray, List.set_cons_zero, List.set_cons_succ, List.getElem_toArray, List.getElem_cons_zero, List.getElem_cons_succ])
    refine wpAnyH_take (i := 3) (oi := _) (v := ?vt3_4) rfl (by kernel_rfl) (by kernel_rfl) (by kernel_rfl) (fun _ _ _ h => h) (Or.inl ⟨by rfl, ?hyt3_4⟩) (by assumption) ?restt3_4
    case hyt3_4 => (intro w hSw; (try dsimp only at hSw); (try simp only [List.getElem_toArray, List.getElem_cons_zero, List.getElem_cons_succ]); go_simp; (try with_reducible rfl))
    (try simp only [Act.put, List.setIfInBounds_toArray, List.set_cons_zero, List.set_cons_succ, List.getElem_toArray, List.getElem_cons_zero, List.getElem_cons_succ])
    refine wpAnyH_take (i := 4) (oi := _) (v := ?vt4_5) rfl (by kernel_rfl) (by kernel_rfl) (by kernel_rfl) (fun _ _ _ h => h) (Or.inl ⟨by rfl, ?hyt4_5⟩) (by assumption) ?restt4_5
    case hyt4_5 => (intro w hSw; (try dsimp only at hSw); (try simp only [List.getElem_toArray, List.getElem_cons_zero, List.getElem_cons_succ]); go_simp; (try with_reducible rfl))
    (try simp only [Act.put, List.setIfInBounds_toArray, List.set_cons_zero, List.set_cons_succ, List.getElem_toArray, List.getElem_cons_zero, List.getElem_cons_succ])
    refine wpAnyH_take (i := 5) (oi := _) (v := ?vt5_6) rfl (by kernel_rfl) (by kernel_rfl) (by kernel_rfl) (fun _ _ _ h => h) (Or.inl ⟨by rfl, ?hyt5_6⟩) (by assumption) ?restt5_6
    case hyt5_6 => (intro w hSw; (try dsimp only at hSw); (try simp only [List.getElem_toArray, List.getElem_cons_zero, List.getElem_cons_succ]); go_simp; (try with_reducible rfl))
    (try simp only [Act.put, List.setIfInBounds_toArray, List.set_cons_zero, List.set_cons_succ, List.getElem_toArray, List.getElem_cons_zero, List.getElem_cons_succ])
    refine wpAnyH_take (i := 6) (oi := _) (v := ?vt6_7) rfl (by kernel_rfl) (by kernel_rfl) (by kernel_rfl) (fun _ _ _ h => h) (Or.inl ⟨by rfl, ?hyt6_7⟩) (by assumption) ?restt6_7
    case hyt6_7 => (intro w hSw; (try dsimp only at hSw); (try simp only [List.getElem_toArray, List.getElem_cons_zero, List.getElem_cons_succ]); go_simp; (try with_reducible rfl))
    (try simp only [Act.put, List.setIfInBounds_toArray, List.set_cons_zero, List.set_cons_succ, List.getElem_toArray, List.getElem_cons_zero, List.getElem_cons_succ])
    refine wpAnyH_take (i := 7) (oi := _) (v := ?vt7_8) rfl (by kernel_rfl) (by kernel_rfl) (by kernel_rfl) (fun _ _ _ h => h) (Or.inl ⟨by rfl, ?hyt7_8⟩) (by assumption) ?restt7_8
    case hyt7_8 => (intro w hSw; (try dsimp only at hSw); (try simp only [List.getElem_toArray, List.getElem_cons_zero, List.getElem_cons_succ]); go_simp; (try with_reducible rfl))
    (try simp only [Act.put, List.setIfInBounds_toArray, List.set_cons_zero, List.set_cons_succ, List.getElem_toArray, List.getElem_cons_zero, List.getElem_cons_succ])
    refine wpAnyH_take (i := 10) (oi := _) (v := ?vt10_9) rfl (by kernel_rfl) (by kernel_rfl) (by kernel_rfl) (fun _ _ _ h => h) (Or.inl ⟨by rfl, ?hyt10_9⟩) (by assumption) ?restt10_9
    case hyt10_9 => (intro w hSw; (try dsimp only at hSw); (try simp only [List.getElem_toArray, List.getElem_cons_zero, List.getElem_cons_succ]); go_simp; (try with_reducible rfl))
    (try simp only [Act.put, List.setIfInBounds_toArray, List.set_cons_zero, List.set_cons_succ, List.getElem_toArray, List.getElem_cons_zero, List.getElem_cons_succ])
    refine wpAnyH_take (i := 11) (oi := _) (v := ?vt11_10) rfl (by kernel_rfl) (by kernel_rfl) (by kernel_rfl) (fun _ _ _ h => h) (Or.inl ⟨by rfl, ?hyt11_10⟩) (by assumption) ?restt11_10
    case hyt11_10 => (intro w hSw; (try dsimp only at hSw); (try simp only [List.getElem_toArray, List.getElem_cons_zero, List.getElem_cons_succ]); go_simp; (try with_reducible rfl))
    (try simp only [Act.put, List.setIfInBounds_toArray, List.set_cons_zero, List.set_cons_succ, List.getElem_toArray, List.getElem_cons_zero, List.getElem_cons_succ])
    refine wpAnyH_take (i := 15) (oi := _) (v := ?vt15_11) rfl (by kernel_rfl) (by kernel_rfl) (by kernel_rfl) (fun _ _ _ h => h) (Or.inl ⟨by rfl, ?hyt15_11⟩) (by assumption) ?restt15_11
    case hyt15_11 => (intro w hSw; (try dsimp only at hSw); (try simp only [List.getElem_toArray, List.getElem_cons_zero, List.getElem_cons_succ]); go_simp; (try with_reducible rfl))
    (try simp only [Act.put, List.setIfInBounds_toArray, List.set_cons_zero, List.set_cons_succ, List.getElem_toArray, List.getElem_cons_zero, List.getElem_cons_succ])
    refine wpAnyH_take (i := 16) (oi := _) (v := ?vt16_12) rfl (by kernel_rfl) (by kernel_rfl) (by kernel_rfl) (fun _ _ _ h => h) (Or.inl ⟨by rfl, ?hyt16_12⟩) (by assumption) ?restt16_12
    case hyt16_12 => (intro w hSw; (try dsimp only at hSw); (try simp only [List.getElem_toArray, List.getElem_cons_zero, List.getElem_cons_succ]); go_simp; (try with_reducible rfl))
    (try simp only [Act.put, List.setIfInBounds_toArray, List.set_cons_zero, List.set_cons_succ, List.getElem_toArray, List.getElem_cons_zero, List.getElem_cons_succ])
    refine wpAnyH_ready (rs := [8, 17]) (by kernel_rfl) (by simp) ?_
    refine AllReadyH.cons (o := _) rfl (fun K hK => ?_) (AllReadyH.cons (o := _) rfl (fun K hK => ?_) AllReadyH.nil)
    · (try simp only [List.getElem_toArray, List.getElem_cons_zero, List.getElem_cons_succ])
      go_simp
      obtain ⟨V1a, hV⟩ : ∃ V, V = Wd.alloc (.cells #[.int .i64 W', .int .i64 H', .int .i64 X', .int .i64 Y'] 3) := ⟨_, rfl⟩
      obtain ⟨g8a, hg⟩ : ∃ g, g = Wd.heap.size := ⟨_, rfl⟩
      have HOV1a : Hid (OutAt V1a q none 0 [] 0) := Lib.hid (by rw [hV]; exact HOWd.out.alloc _)
      have HTV1a : Hid (OutStep q none Wq none V1a) := Lib.hid (by rw [hV]; exact HTWd.out.trans ⟨(Keep.refl _ _).alloc _, fun _ h => .inl h⟩)
      have HQV1a : Hid (V1a.heap[p + 1]? = some (.cells #[.int .i64 W', .int .i64 H', .slice B n' d, .int .i64 X', .int .i64 Y', .bool hi'] 24 (0, 0))) := Lib.hid (by rw [hV]; exact heap_alloc HQWd.out _)
      have HS8V1a : Hid (V1a.heap[g8a]? = some (.cells #[.int .i64 W', .int .i64 H', .int .i64 X', .int .i64 Y'] 3 (0, 0))) := Lib.hid (by rw [hV, hg]; exact heap_alloc_new _ _)
      rw [← hV, ← hg]
      clear hV hg
      refine hK.out _ _ ?_ (fun hHeld => ?_)
      · exact scr_cells HQV1a.out
      clear hK K
      (try simp only [Act.put, List.setIfInBounds_toArray, List.set_cons_zero, List.set_cons_succ, List.getElem_toArray, List.getElem_cons_zero, List.getElem_cons_succ])
      refine wpAnyH_ready (rs := [9, 17]) (by kernel_rfl) (by simp) ?_
      refine AllReadyH.cons (o := _) rfl (fun K hK => ?_) (AllReadyH.cons (o := _) rfl (fun K hK => ?_) AllReadyH.nil)
      · (try simp only [List.getElem_toArray, List.getElem_cons_zero, List.getElem_cons_succ])
        go_simp
        refine (outNum_any q none 0 [] 0 _ 4 4 [W', H', X', Y'] _ HOV1a.out (slice_heap HS8V1a.out (out_far HOV1a.out HS8V1a.out)) rfl HI4.out (by simp)).mono ?_; rintro e V2aa ⟨rfl, A9aa, c9aa, ho, hst⟩
        have HOV2aa : Hid (OutAt V2aa q A9aa c9aa l1 0) := Lib.hid (by have := ho; rwa [HE9.out] at this)
        have HTV2aa := Lib.hid (HTV1a.out.trans hst)
        have HQV2aa := Lib.hid (hst.1.heap HQV1a.out (out_far2 HOV1a.out HQV1a.out))
        clear ho hst
        refine hK.out _ _ ?_ (fun hHeld => ?_)
        · exact scr_cells HQV2aa.out
        clear hK K
        (try simp only [Act.put, List.setIfInBounds_toArray, List.set_cons_zero, List.set_cons_succ, List.getElem_toArray, List.getElem_cons_zero, List.getElem_cons_succ])
        refine wpAnyH_ready (rs := [12, 17]) (by kernel_rfl) (by simp) ?_
        refine AllReadyH.cons (o := _) rfl (fun K hK => ?_) (AllReadyH.cons (o := _) rfl (fun K hK => ?_) AllReadyH.nil)
        · (try simp only [List.getElem_toArray, List.getElem_cons_zero, List.getElem_cons_succ])
          go_simp
          refine (HF.out _).mono ?_; rintro e Vx ⟨rfl, hw⟩; rw [hw]; clear hw Vx
          refine hK.out _ _ ?_ (fun hHeld => ?_)
          · exact scr_cells HQV2aa.out
          clear hK K
          (try simp only [Act.put, List.setIfInBounds_toArray, List.set_cons_zero, List.set_cons_succ, List.getElem_toArray, List.getElem_cons_zero, List.getElem_cons_succ])
          refine wpAnyH_ready (rs := [13, 17]) (by kernel_rfl) (by simp) ?_
          refine AllReadyH.cons (o := _) rfl (fun K hK => ?_) (AllReadyH.cons (o := _) rfl (fun K hK => ?_) AllReadyH.nil)
          · (try simp only [List.getElem_toArray, List.getElem_cons_zero, List.getElem_cons_succ])
            go_simp
            obtain ⟨V3aaaa, hV⟩ : ∃ V, V = V2aa.alloc (.cells #[.int .i64 fv] 3) := ⟨_, rfl⟩
            obtain ⟨g13aaaa, hg⟩ : ∃ g, g = V2aa.heap.size := ⟨_, rfl⟩
            have HOV3aaaa : Hid (OutAt V3aaaa q A9aa c9aa l1 0) := Lib.hid (by rw [hV]; exact HOV2aa.out.alloc _)
            have HTV3aaaa : Hid (OutStep q none Wq A9aa V3aaaa) := Lib.hid (by rw [hV]; exact HTV2aa.out.trans ⟨(Keep.refl _ _).alloc _, fun _ h => .inl h⟩)
            have HQV3aaaa : Hid (V3aaaa.heap[p + 1]? = some (.cells #[.int .i64 W', .int .i64 H', .slice B n' d, .int .i64 X', .int .i64 Y', .bool hi'] 24 (0, 0))) := Lib.hid (by rw [hV]; exact heap_alloc HQV2aa.out _)
            have HS13V3aaaa : Hid (V3aaaa.heap[g13aaaa]? = some (.cells #[.int .i64 fv] 3 (0, 0))) := Lib.hid (by rw [hV, hg]; exact heap_alloc_new _ _)
            rw [← hV, ← hg]
            clear hV hg
            refine hK.out _ _ ?_ (fun hHeld => ?_)
            · exact scr_cells HQV3aaaa.out
            clear hK K
            (try simp only [Act.put, List.setIfInBounds_toArray, List.set_cons_zero, List.set_cons_succ, List.getElem_toArray, List.getElem_cons_zero, List.getElem_cons_succ])
            refine wpAnyH_ready (rs := [14, 17]) (by kernel_rfl) (by simp) ?_
            refine AllReadyH.cons (o := _) rfl (fun K hK => ?_) (AllReadyH.cons (o := _) rfl (fun K hK => ?_) AllReadyH.nil)
            · (try simp only [List.getElem_toArray, List.getElem_cons_zero, List.getElem_cons_succ])
              go_simp
              refine (outByte_any q A9aa c9aa l1 0 _ 1 1 [fv] _ HOV3aaaa.out (slice_heap HS13V3aaaa.out (out_far HOV3aaaa.out HS13V3aaaa.out)) rfl HI1.out).mono ?_; rintro e V4aaaaa ⟨rfl, A14aaaaa, c14aaaaa, ho, hst⟩
              have HOV4aaaaa : Hid (OutAt V4aaaaa q A14aaaaa c14aaaaa l2 0) := Lib.hid (by have := ho; rwa [HE14.out] at this)
              have HTV4aaaaa := Lib.hid (HTV3aaaa.out.trans hst)
              have HQV4aaaaa := Lib.hid (hst.1.heap HQV3aaaa.out (out_far2 HOV3aaaa.out HQV3aaaa.out))
              clear ho hst
              refine hK.out _ _ ?_ (fun hHeld => ?_)
              · exact scr_cells HQV4aaaaa.out
              clear hK K
              (try simp only [Act.put, List.setIfInBounds_toArray, List.set_cons_zero, List.set_cons_succ, List.getElem_toArray, List.getElem_cons_zero, List.getElem_cons_succ])
              refine wpAnyH_ready (rs := [17]) (by kernel_rfl) (by simp) ?_
              refine AllReadyH.cons (o := _) rfl (fun K hK => ?_) AllReadyH.nil
              · (try simp only [List.getElem_toArray, List.getElem_cons_zero, List.getElem_cons_succ])
                go_simp
                obtain ⟨V5aaaaa, hV⟩ : ∃ V, V = V4aaaaa.alloc (.cells #[.int .i64 (m : Int)] 3) := ⟨_, rfl⟩
                obtain ⟨g17aaaaa, hg⟩ : ∃ g, g = V4aaaaa.heap.size := ⟨_, rfl⟩
                have HOV5aaaaa : Hid (OutAt V5aaaaa q A14aaaaa c14aaaaa l2 0) := Lib.hid (by rw [hV]; exact HOV4aaaaa.out.alloc _)
                have HTV5aaaaa : Hid (OutStep q none Wq A14aaaaa V5aaaaa) := Lib.hid (by rw [hV]; exact HTV4aaaaa.out.trans ⟨(Keep.refl _ _).alloc _, fun _ h => .inl h⟩)
                have HQV5aaaaa : Hid (V5aaaaa.heap[p + 1]? = some (.cells #[.int .i64 W', .int .i64 H', .slice B n' d, .int .i64 X', .int .i64 Y', .bool hi'] 24 (0, 0))) := Lib.hid (by rw [hV]; exact heap_alloc HQV4aaaaa.out _)
                have HS17V5aaaaa : Hid (V5aaaaa.heap[g17aaaaa]? = some (.cells #[.int .i64 (m : Int)] 3 (0, 0))) := Lib.hid (by rw [hV, hg]; exact heap_alloc_new _ _)
                rw [← hV, ← hg]
                clear hV hg
                refine hK.out _ _ ?_ (fun hHeld => ?_)
                · exact scr_cells HQV5aaaaa.out
                clear hK K
                (try simp only [Act.put, List.setIfInBounds_toArray, List.set_cons_zero, List.set_cons_succ, List.getElem_toArray, List.getElem_cons_zero, List.getElem_cons_succ])
                refine wpAnyH_ready (rs := [18]) (by kernel_rfl) (by simp) ?_
                refine AllReadyH.cons (o := _) rfl (fun K hK => ?_) AllReadyH.nil
                · (try simp only [List.getElem_toArray, List.getElem_cons_zero, List.getElem_cons_succ])
                  go_simp
                  refine (outNum_any q A14aaaaa c14aaaaa l2 0 _ 1 1 [(m : Int)] _ HOV5aaaaa.out (slice_heap HS17V5aaaaa.out (out_far HOV5aaaaa.out HS17V5aaaaa.out)) rfl HIm.out HI2.out).mono ?_; rintro e V6aaaaa ⟨rfl, A18aaaaa, c18aaaaa, ho, hst⟩
                  have HOV6aaaaa : Hid (OutAt V6aaaaa q A18aaaaa c18aaaaa l3 0) := Lib.hid (by have := ho; rwa [HE18.out] at this)
                  have HTV6aaaaa := Lib.hid (HTV5aaaaa.out.trans hst)
                  have HQV6aaaaa := Lib.hid (hst.1.heap HQV5aaaaa.out (out_far2 HOV5aaaaa.out HQV5aaaaa.out))
                  clear ho hst
                  refine hK.out _ _ ?_ (fun hHeld => ?_)
                  · exact scr_cells HQV6aaaaa.out
                  clear hK K
                  (try simp only [Act.put, List.setIfInBounds_toArray, List.set_cons_zero, List.set_cons_succ, List.getElem_toArray, List.getElem_cons_zero, List.getElem_cons_succ])
                  refine wpAnyH_done (by kernel_rfl) ?_ _
                  refine NoPanic.normal ?_
                  go_wp2_with fail
                  go_meet
                  exact ⟨rfl, trivial, A18aaaaa, c18aaaaa, HOV6aaaaa, HTV6aaaaa⟩
            · (try simp only [List.getElem_toArray, List.getElem_cons_zero, List.getElem_cons_succ])
              go_simp
              obtain ⟨V4aaaab, hV⟩ : ∃ V, V = V3aaaa.alloc (.cells #[.int .i64 (m : Int)] 3) := ⟨_, rfl⟩
              obtain ⟨g17aaaab, hg⟩ : ∃ g, g = V3aaaa.heap.size := ⟨_, rfl⟩
              have HOV4aaaab : Hid (OutAt V4aaaab q A9aa c9aa l1 0) := Lib.hid (by rw [hV]; exact HOV3aaaa.out.alloc _)
              have HTV4aaaab : Hid (OutStep q none Wq A9aa V4aaaab) := Lib.hid (by rw [hV]; exact HTV3aaaa.out.trans ⟨(Keep.refl _ _).alloc _, fun _ h => .inl h⟩)
              have HQV4aaaab : Hid (V4aaaab.heap[p + 1]? = some (.cells #[.int .i64 W', .int .i64 H', .slice B n' d, .int .i64 X', .int .i64 Y', .bool hi'] 24 (0, 0))) := Lib.hid (by rw [hV]; exact heap_alloc HQV3aaaa.out _)
              have HS17V4aaaab : Hid (V4aaaab.heap[g17aaaab]? = some (.cells #[.int .i64 (m : Int)] 3 (0, 0))) := Lib.hid (by rw [hV, hg]; exact heap_alloc_new _ _)
              have HS13V4aaaab := Lib.hid (show V4aaaab.heap[g13aaaa]? = some (.cells #[.int .i64 fv] 3 (0, 0)) by rw [hV]; exact heap_alloc HS13V3aaaa.out _)
              rw [← hV, ← hg]
              clear hV hg
              refine hK.out _ _ ?_ (fun hHeld => ?_)
              · exact scr_cells HQV4aaaab.out
              clear hK K
              (try simp only [Act.put, List.setIfInBounds_toArray, List.set_cons_zero, List.set_cons_succ, List.getElem_toArray, List.getElem_cons_zero, List.getElem_cons_succ])
              refine wpAnyH_ready (rs := [14]) (by kernel_rfl) (by simp) ?_
              refine AllReadyH.cons (o := _) rfl (fun K hK => ?_) AllReadyH.nil
              · (try simp only [List.getElem_toArray, List.getElem_cons_zero, List.getElem_cons_succ])
                go_simp
                refine (outByte_any q A9aa c9aa l1 0 _ 1 1 [fv] _ HOV4aaaab.out (slice_heap HS13V4aaaab.out (out_far HOV4aaaab.out HS13V4aaaab.out)) rfl HI1.out).mono ?_; rintro e V5aaaab ⟨rfl, A14aaaab, c14aaaab, ho, hst⟩
                have HOV5aaaab : Hid (OutAt V5aaaab q A14aaaab c14aaaab l2 0) := Lib.hid (by have := ho; rwa [HE14.out] at this)
                have HTV5aaaab := Lib.hid (HTV4aaaab.out.trans hst)
                have HQV5aaaab := Lib.hid (hst.1.heap HQV4aaaab.out (out_far2 HOV4aaaab.out HQV4aaaab.out))
                have HS17V5aaaab := Lib.hid (hst.1.heap HS17V4aaaab.out (out_far HOV4aaaab.out HS17V4aaaab.out))
                clear ho hst
                refine hK.out _ _ ?_ (fun hHeld => ?_)
                · exact scr_cells HQV5aaaab.out
                clear hK K
                (try simp only [Act.put, List.setIfInBounds_toArray, List.set_cons_zero, List.set_cons_succ, List.getElem_toArray, List.getElem_cons_zero, List.getElem_cons_succ])
                refine wpAnyH_ready (rs := [18]) (by kernel_rfl) (by simp) ?_
                refine AllReadyH.cons (o := _) rfl (fun K hK => ?_) AllReadyH.nil
                · (try simp only [List.getElem_toArray, List.getElem_cons_zero, List.getElem_cons_succ])
                  go_simp
                  refine (outNum_any q A14aaaab c14aaaab l2 0 _ 1 1 [(m : Int)] _ HOV5aaaab.out (slice_heap HS17V5aaaab.out (out_far HOV5aaaab.out HS17V5aaaab.out)) rfl HIm.out HI2.out).mono ?_; rintro e V6aaaab ⟨rfl, A18aaaab, c18aaaab, ho, hst⟩
                  have HOV6aaaab : Hid (OutAt V6aaaab q A18aaaab c18aaaab l3 0) := Lib.hid (by have := ho; rwa [HE18.out] at this)
                  have HTV6aaaab := Lib.hid (HTV5aaaab.out.trans hst)
                  have HQV6aaaab := Lib.hid (hst.1.heap HQV5aaaab.out (out_far2 HOV5aaaab.out HQV5aaaab.out))
                  clear ho hst
                  refine hK.out _ _ ?_ (fun hHeld => ?_)
                  · exact scr_cells HQV6aaaab.out
                  clear hK K
                  (try simp only [Act.put, List.setIfInBounds_toArray, List.set_cons_zero, List.set_cons_succ, List.getElem_toArray, List.getElem_cons_zero, List.getElem_cons_succ])
                  refine wpAnyH_done (by kernel_rfl) ?_ _
                  refine NoPanic.normal ?_
                  go_wp2_with fail
                  go_meet
                  exact ⟨rfl, trivial, A18aaaab, c18aaaab, HOV6aaaab, HTV6aaaab⟩
          · (try simp only [List.getElem_toArray, List.getElem_cons_zero, List.getElem_cons_succ])
            go_simp
            obtain ⟨V3aaab, hV⟩ : ∃ V, V = V2aa.alloc (.cells #[.int .i64 (m : Int)] 3) := ⟨_, rfl⟩
            obtain ⟨g17aaab, hg⟩ : ∃ g, g = V2aa.heap.size := ⟨_, rfl⟩
            have HOV3aaab : Hid (OutAt V3aaab q A9aa c9aa l1 0) := Lib.hid (by rw [hV]; exact HOV2aa.out.alloc _)
            have HTV3aaab : Hid (OutStep q none Wq A9aa V3aaab) := Lib.hid (by rw [hV]; exact HTV2aa.out.trans ⟨(Keep.refl _ _).alloc _, fun _ h => .inl h⟩)
            have HQV3aaab : Hid (V3aaab.heap[p + 1]? = some (.cells #[.int .i64 W', .int .i64 H', .slice B n' d, .int .i64 X', .int .i64 Y', .bool hi'] 24 (0, 0))) := Lib.hid (by rw [hV]; exact heap_alloc HQV2aa.out _)
            have HS17V3aaab : Hid (V3aaab.heap[g17aaab]? = some (.cells #[.int .i64 (m : Int)] 3 (0, 0))) := Lib.hid (by rw [hV, hg]; exact heap_alloc_new _ _)
            rw [← hV, ← hg]
            clear hV hg
            refine hK.out _ _ ?_ (fun hHeld => ?_)
            · exact scr_cells HQV3aaab.out
            clear hK K
            (try simp only [Act.put, List.setIfInBounds_toArray, List.set_cons_zero, List.set_cons_succ, List.getElem_toArray, List.getElem_cons_zero, List.getElem_cons_succ])
            refine wpAnyH_ready (rs := [13]) (by kernel_rfl) (by simp) ?_
            refine AllReadyH.cons (o := _) rfl (fun K hK => ?_) AllReadyH.nil
            · (try simp only [List.getElem_toArray, List.getElem_cons_zero, List.getElem_cons_succ])
              go_simp
              obtain ⟨V4aaab, hV⟩ : ∃ V, V = V3aaab.alloc (.cells #[.int .i64 fv] 3) := ⟨_, rfl⟩
              obtain ⟨g13aaab, hg⟩ : ∃ g, g = V3aaab.heap.size := ⟨_, rfl⟩
              have HOV4aaab : Hid (OutAt V4aaab q A9aa c9aa l1 0) := Lib.hid (by rw [hV]; exact HOV3aaab.out.alloc _)
              have HTV4aaab : Hid (OutStep q none Wq A9aa V4aaab) := Lib.hid (by rw [hV]; exact HTV3aaab.out.trans ⟨(Keep.refl _ _).alloc _, fun _ h => .inl h⟩)
              have HQV4aaab : Hid (V4aaab.heap[p + 1]? = some (.cells #[.int .i64 W', .int .i64 H', .slice B n' d, .int .i64 X', .int .i64 Y', .bool hi'] 24 (0, 0))) := Lib.hid (by rw [hV]; exact heap_alloc HQV3aaab.out _)
              have HS13V4aaab : Hid (V4aaab.heap[g13aaab]? = some (.cells #[.int .i64 fv] 3 (0, 0))) := Lib.hid (by rw [hV, hg]; exact heap_alloc_new _ _)
              have HS17V4aaab := Lib.hid (show V4aaab.heap[g17aaab]? = some (.cells #[.int .i64 (m : Int)] 3 (0, 0)) by rw [hV]; exact heap_alloc HS17V3aaab.out _)
              rw [← hV, ← hg]
              clear hV hg
              refine hK.out _ _ ?_ (fun hHeld => ?_)
              · exact scr_cells HQV4aaab.out
              clear hK K
              (try simp only [Act.put, List.setIfInBounds_toArray, List.set_cons_zero, List.set_cons_succ, List.getElem_toArray, List.getElem_cons_zero, List.getElem_cons_succ])
              refine wpAnyH_ready (rs := [14]) (by kernel_rfl) (by simp) ?_
              refine AllReadyH.cons (o := _) rfl (fun K hK => ?_) AllReadyH.nil
              · (try simp only [List.getElem_toArray, List.getElem_cons_zero, List.getElem_cons_succ])
                go_simp
                refine (outByte_any q A9aa c9aa l1 0 _ 1 1 [fv] _ HOV4aaab.out (slice_heap HS13V4aaab.out (out_far HOV4aaab.out HS13V4aaab.out)) rfl HI1.out).mono ?_; rintro e V5aaab ⟨rfl, A14aaab, c14aaab, ho, hst⟩
                have HOV5aaab : Hid (OutAt V5aaab q A14aaab c14aaab l2 0) := Lib.hid (by have := ho; rwa [HE14.out] at this)
                have HTV5aaab := Lib.hid (HTV4aaab.out.trans hst)
                have HQV5aaab := Lib.hid (hst.1.heap HQV4aaab.out (out_far2 HOV4aaab.out HQV4aaab.out))
                have HS17V5aaab := Lib.hid (hst.1.heap HS17V4aaab.out (out_far HOV4aaab.out HS17V4aaab.out))
                clear ho hst
                refine hK.out _ _ ?_ (fun hHeld => ?_)
                · exact scr_cells HQV5aaab.out
                clear hK K
                (try simp only [Act.put, List.setIfInBounds_toArray, List.set_cons_zero, List.set_cons_succ, List.getElem_toArray, List.getElem_cons_zero, List.getElem_cons_succ])
                refine wpAnyH_ready (rs := [18]) (by kernel_rfl) (by simp) ?_
                refine AllReadyH.cons (o := _) rfl (fun K hK => ?_) AllReadyH.nil
                · (try simp only [List.getElem_toArray, List.getElem_cons_zero, List.getElem_cons_succ])
                  go_simp
                  refine (outNum_any q A14aaab c14aaab l2 0 _ 1 1 [(m : Int)] _ HOV5aaab.out (slice_heap HS17V5aaab.out (out_far HOV5aaab.out HS17V5aaab.out)) rfl HIm.out HI2.out).mono ?_; rintro e V6aaab ⟨rfl, A18aaab, c18aaab, ho, hst⟩
                  have HOV6aaab : Hid (OutAt V6aaab q A18aaab c18aaab l3 0) := Lib.hid (by have := ho; rwa [HE18.out] at this)
                  have HTV6aaab := Lib.hid (HTV5aaab.out.trans hst)
                  have HQV6aaab := Lib.hid (hst.1.heap HQV5aaab.out (out_far2 HOV5aaab.out HQV5aaab.out))
                  clear ho hst
                  refine hK.out _ _ ?_ (fun hHeld => ?_)
                  · exact scr_cells HQV6aaab.out
                  clear hK K
                  (try simp only [Act.put, List.setIfInBounds_toArray, List.set_cons_zero, List.set_cons_succ, List.getElem_toArray, List.getElem_cons_zero, List.getElem_cons_succ])
                  refine wpAnyH_done (by kernel_rfl) ?_ _
                  refine NoPanic.normal ?_
                  go_wp2_with fail
                  go_meet
                  exact ⟨rfl, trivial, A18aaab, c18aaab, HOV6aaab, HTV6aaab⟩
        · (try simp only [List.getElem_toArray, List.getElem_cons_zero, List.getElem_cons_succ])
          go_simp
          obtain ⟨V3aab, hV⟩ : ∃ V, V = V2aa.alloc (.cells #[.int .i64 (m : Int)] 3) := ⟨_, rfl⟩
          obtain ⟨g17aab, hg⟩ : ∃ g, g = V2aa.heap.size := ⟨_, rfl⟩
          have HOV3aab : Hid (OutAt V3aab q A9aa c9aa l1 0) := Lib.hid (by rw [hV]; exact HOV2aa.out.alloc _)
          have HTV3aab : Hid (OutStep q none Wq A9aa V3aab) := Lib.hid (by rw [hV]; exact HTV2aa.out.trans ⟨(Keep.refl _ _).alloc _, fun _ h => .inl h⟩)
          have HQV3aab : Hid (V3aab.heap[p + 1]? = some (.cells #[.int .i64 W', .int .i64 H', .slice B n' d, .int .i64 X', .int .i64 Y', .bool hi'] 24 (0, 0))) := Lib.hid (by rw [hV]; exact heap_alloc HQV2aa.out _)
          have HS17V3aab : Hid (V3aab.heap[g17aab]? = some (.cells #[.int .i64 (m : Int)] 3 (0, 0))) := Lib.hid (by rw [hV, hg]; exact heap_alloc_new _ _)
          rw [← hV, ← hg]
          clear hV hg
          refine hK.out _ _ ?_ (fun hHeld => ?_)
          · exact scr_cells HQV3aab.out
          clear hK K
          (try simp only [Act.put, List.setIfInBounds_toArray, List.set_cons_zero, List.set_cons_succ, List.getElem_toArray, List.getElem_cons_zero, List.getElem_cons_succ])
          refine wpAnyH_ready (rs := [12]) (by kernel_rfl) (by simp) ?_
          refine AllReadyH.cons (o := _) rfl (fun K hK => ?_) AllReadyH.nil
          · (try simp only [List.getElem_toArray, List.getElem_cons_zero, List.getElem_cons_succ])
            go_simp
            refine (HF.out _).mono ?_; rintro e Vx ⟨rfl, hw⟩; rw [hw]; clear hw Vx
            refine hK.out _ _ ?_ (fun hHeld => ?_)
            · exact scr_cells HQV3aab.out
            clear hK K
            (try simp only [Act.put, List.setIfInBounds_toArray, List.set_cons_zero, List.set_cons_succ, List.getElem_toArray, List.getElem_cons_zero, List.getElem_cons_succ])
            refine wpAnyH_ready (rs := [13]) (by kernel_rfl) (by simp) ?_
            refine AllReadyH.cons (o := _) rfl (fun K hK => ?_) AllReadyH.nil
            · (try simp only [List.getElem_toArray, List.getElem_cons_zero, List.getElem_cons_succ])
              go_simp
              obtain ⟨V4aab, hV⟩ : ∃ V, V = V3aab.alloc (.cells #[.int .i64 fv] 3) := ⟨_, rfl⟩
              obtain ⟨g13aab, hg⟩ : ∃ g, g = V3aab.heap.size := ⟨_, rfl⟩
              have HOV4aab : Hid (OutAt V4aab q A9aa c9aa l1 0) := Lib.hid (by rw [hV]; exact HOV3aab.out.alloc _)
              have HTV4aab : Hid (OutStep q none Wq A9aa V4aab) := Lib.hid (by rw [hV]; exact HTV3aab.out.trans ⟨(Keep.refl _ _).alloc _, fun _ h => .inl h⟩)
              have HQV4aab : Hid (V4aab.heap[p + 1]? = some (.cells #[.int .i64 W', .int .i64 H', .slice B n' d, .int .i64 X', .int .i64 Y', .bool hi'] 24 (0, 0))) := Lib.hid (by rw [hV]; exact heap_alloc HQV3aab.out _)
              have HS13V4aab : Hid (V4aab.heap[g13aab]? = some (.cells #[.int .i64 fv] 3 (0, 0))) := Lib.hid (by rw [hV, hg]; exact heap_alloc_new _ _)
              have HS17V4aab := Lib.hid (show V4aab.heap[g17aab]? = some (.cells #[.int .i64 (m : Int)] 3 (0, 0)) by rw [hV]; exact heap_alloc HS17V3aab.out _)
              rw [← hV, ← hg]
              clear hV hg
              refine hK.out _ _ ?_ (fun hHeld => ?_)
              · exact scr_cells HQV4aab.out
              clear hK K
              (try simp only [Act.put, List.setIfInBounds_toArray, List.set_cons_zero, List.set_cons_succ, List.getElem_toArray, List.getElem_cons_zero, List.getElem_cons_succ])
              refine wpAnyH_ready (rs := [14]) (by kernel_rfl) (by simp) ?_
              refine AllReadyH.cons (o := _) rfl (fun K hK => ?_) AllReadyH.nil
              · (try simp only [List.getElem_toArray, List.getElem_cons_zero, List.getElem_cons_succ])
                go_simp
                refine (outByte_any q A9aa c9aa l1 0 _ 1 1 [fv] _ HOV4aab.out (slice_heap HS13V4aab.out (out_far HOV4aab.out HS13V4aab.out)) rfl HI1.out).mono ?_; rintro e V5aab ⟨rfl, A14aab, c14aab, ho, hst⟩
                have HOV5aab : Hid (OutAt V5aab q A14aab c14aab l2 0) := Lib.hid (by have := ho; rwa [HE14.out] at this)
                have HTV5aab := Lib.hid (HTV4aab.out.trans hst)
                have HQV5aab := Lib.hid (hst.1.heap HQV4aab.out (out_far2 HOV4aab.out HQV4aab.out))
                have HS17V5aab := Lib.hid (hst.1.heap HS17V4aab.out (out_far HOV4aab.out HS17V4aab.out))
                clear ho hst
                refine hK.out _ _ ?_ (fun hHeld => ?_)
                · exact scr_cells HQV5aab.out
                clear hK K
                (try simp only [Act.put, List.setIfInBounds_toArray, List.set_cons_zero, List.set_cons_succ, List.getElem_toArray, List.getElem_cons_zero, List.getElem_cons_succ])
                refine wpAnyH_ready (rs := [18]) (by kernel_rfl) (by simp) ?_
                refine AllReadyH.cons (o := _) rfl (fun K hK => ?_) AllReadyH.nil
                · (try simp only [List.getElem_toArray, List.getElem_cons_zero, List.getElem_cons_succ])
                  go_simp
                  refine (outNum_any q A14aab c14aab l2 0 _ 1 1 [(m : Int)] _ HOV5aab.out (slice_heap HS17V5aab.out (out_far HOV5aab.out HS17V5aab.out)) rfl HIm.out HI2.out).mono ?_; rintro e V6aab ⟨rfl, A18aab, c18aab, ho, hst⟩
                  have HOV6aab : Hid (OutAt V6aab q A18aab c18aab l3 0) := Lib.hid (by have := ho; rwa [HE18.out] at this)
                  have HTV6aab := Lib.hid (HTV5aab.out.trans hst)
                  have HQV6aab := Lib.hid (hst.1.heap HQV5aab.out (out_far2 HOV5aab.out HQV5aab.out))
                  clear ho hst
                  refine hK.out _ _ ?_ (fun hHeld => ?_)
                  · exact scr_cells HQV6aab.out
                  clear hK K
                  (try simp only [Act.put, List.setIfInBounds_toArray, List.set_cons_zero, List.set_cons_succ, List.getElem_toArray, List.getElem_cons_zero, List.getElem_cons_succ])
                  refine wpAnyH_done (by kernel_rfl) ?_ _
                  refine NoPanic.normal ?_
                  go_wp2_with fail
                  go_meet
                  exact ⟨rfl, trivial, A18aab, c18aab, HOV6aab, HTV6aab⟩
      · (try simp only [List.getElem_toArray, List.getElem_cons_zero, List.getElem_cons_succ])
        go_simp
        obtain ⟨V2ab, hV⟩ : ∃ V, V = V1a.alloc (.cells #[.int .i64 (m : Int)] 3) := ⟨_, rfl⟩
        obtain ⟨g17ab, hg⟩ : ∃ g, g = V1a.heap.size := ⟨_, rfl⟩
        have HOV2ab : Hid (OutAt V2ab q none 0 [] 0) := Lib.hid (by rw [hV]; exact HOV1a.out.alloc _)
        have HTV2ab : Hid (OutStep q none Wq none V2ab) := Lib.hid (by rw [hV]; exact HTV1a.out.trans ⟨(Keep.refl _ _).alloc _, fun _ h => .inl h⟩)
        have HQV2ab : Hid (V2ab.heap[p + 1]? = some (.cells #[.int .i64 W', .int .i64 H', .slice B n' d, .int .i64 X', .int .i64 Y', .bool hi'] 24 (0, 0))) := Lib.hid (by rw [hV]; exact heap_alloc HQV1a.out _)
        have HS17V2ab : Hid (V2ab.heap[g17ab]? = some (.cells #[.int .i64 (m : Int)] 3 (0, 0))) := Lib.hid (by rw [hV, hg]; exact heap_alloc_new _ _)
        have HS8V2ab := Lib.hid (show V2ab.heap[g8a]? = some (.cells #[.int .i64 W', .int .i64 H', .int .i64 X', .int .i64 Y'] 3 (0, 0)) by rw [hV]; exact heap_alloc HS8V1a.out _)
        rw [← hV, ← hg]
        clear hV hg
        refine hK.out _ _ ?_ (fun hHeld => ?_)
        · exact scr_cells HQV2ab.out
        clear hK K
        (try simp only [Act.put, List.setIfInBounds_toArray, List.set_cons_zero, List.set_cons_succ, List.getElem_toArray, List.getElem_cons_zero, List.getElem_cons_succ])
        refine wpAnyH_ready (rs := [9]) (by kernel_rfl) (by simp) ?_
        refine AllReadyH.cons (o := _) rfl (fun K hK => ?_) AllReadyH.nil
        · (try simp only [List.getElem_toArray, List.getElem_cons_zero, List.getElem_cons_succ])
          go_simp
          refine (outNum_any q none 0 [] 0 _ 4 4 [W', H', X', Y'] _ HOV2ab.out (slice_heap HS8V2ab.out (out_far HOV2ab.out HS8V2ab.out)) rfl HI4.out (by simp)).mono ?_; rintro e V3ab ⟨rfl, A9ab, c9ab, ho, hst⟩
          have HOV3ab : Hid (OutAt V3ab q A9ab c9ab l1 0) := Lib.hid (by have := ho; rwa [HE9.out] at this)
          have HTV3ab := Lib.hid (HTV2ab.out.trans hst)
          have HQV3ab := Lib.hid (hst.1.heap HQV2ab.out (out_far2 HOV2ab.out HQV2ab.out))
          have HS17V3ab := Lib.hid (hst.1.heap HS17V2ab.out (out_far HOV2ab.out HS17V2ab.out))
          clear ho hst
          refine hK.out _ _ ?_ (fun hHeld => ?_)
          · exact scr_cells HQV3ab.out
          clear hK K
          (try simp only [Act.put, List.setIfInBounds_toArray, List.set_cons_zero, List.set_cons_succ, List.getElem_toArray, List.getElem_cons_zero, List.getElem_cons_succ])
          refine wpAnyH_ready (rs := [12]) (by kernel_rfl) (by simp) ?_
          refine AllReadyH.cons (o := _) rfl (fun K hK => ?_) AllReadyH.nil
          · (try simp only [List.getElem_toArray, List.getElem_cons_zero, List.getElem_cons_succ])
            go_simp
            refine (HF.out _).mono ?_; rintro e Vx ⟨rfl, hw⟩; rw [hw]; clear hw Vx
            refine hK.out _ _ ?_ (fun hHeld => ?_)
            · exact scr_cells HQV3ab.out
            clear hK K
            (try simp only [Act.put, List.setIfInBounds_toArray, List.set_cons_zero, List.set_cons_succ, List.getElem_toArray, List.getElem_cons_zero, List.getElem_cons_succ])
            refine wpAnyH_ready (rs := [13]) (by kernel_rfl) (by simp) ?_
            refine AllReadyH.cons (o := _) rfl (fun K hK => ?_) AllReadyH.nil
            · (try simp only [List.getElem_toArray, List.getElem_cons_zero, List.getElem_cons_succ])
              go_simp
              obtain ⟨V4ab, hV⟩ : ∃ V, V = V3ab.alloc (.cells #[.int .i64 fv] 3) := ⟨_, rfl⟩
              obtain ⟨g13ab, hg⟩ : ∃ g, g = V3ab.heap.size := ⟨_, rfl⟩
              have HOV4ab : Hid (OutAt V4ab q A9ab c9ab l1 0) := Lib.hid (by rw [hV]; exact HOV3ab.out.alloc _)
              have HTV4ab : Hid (OutStep q none Wq A9ab V4ab) := Lib.hid (by rw [hV]; exact HTV3ab.out.trans ⟨(Keep.refl _ _).alloc _, fun _ h => .inl h⟩)
              have HQV4ab : Hid (V4ab.heap[p + 1]? = some (.cells #[.int .i64 W', .int .i64 H', .slice B n' d, .int .i64 X', .int .i64 Y', .bool hi'] 24 (0, 0))) := Lib.hid (by rw [hV]; exact heap_alloc HQV3ab.out _)
              have HS13V4ab : Hid (V4ab.heap[g13ab]? = some (.cells #[.int .i64 fv] 3 (0, 0))) := Lib.hid (by rw [hV, hg]; exact heap_alloc_new _ _)
              have HS17V4ab := Lib.hid (show V4ab.heap[g17ab]? = some (.cells #[.int .i64 (m : Int)] 3 (0, 0)) by rw [hV]; exact heap_alloc HS17V3ab.out _)
              rw [← hV, ← hg]
              clear hV hg
              refine hK.out _ _ ?_ (fun hHeld => ?_)
              · exact scr_cells HQV4ab.out
              clear hK K
              (try simp only [Act.put, List.setIfInBounds_toArray, List.set_cons_zero, List.set_cons_succ, List.getElem_toArray, List.getElem_cons_zero, List.getElem_cons_succ])
              refine wpAnyH_ready (rs := [14]) (by kernel_rfl) (by simp) ?_
              refine AllReadyH.cons (o := _) rfl (fun K hK => ?_) AllReadyH.nil
              · (try simp only [List.getElem_toArray, List.getElem_cons_zero, List.getElem_cons_succ])
                go_simp
                refine (outByte_any q A9ab c9ab l1 0 _ 1 1 [fv] _ HOV4ab.out (slice_heap HS13V4ab.out (out_far HOV4ab.out HS13V4ab.out)) rfl HI1.out).mono ?_; rintro e V5ab ⟨rfl, A14ab, c14ab, ho, hst⟩
                have HOV5ab : Hid (OutAt V5ab q A14ab c14ab l2 0) := Lib.hid (by have := ho; rwa [HE14.out] at this)
                have HTV5ab := Lib.hid (HTV4ab.out.trans hst)
                have HQV5ab := Lib.hid (hst.1.heap HQV4ab.out (out_far2 HOV4ab.out HQV4ab.out))
                have HS17V5ab := Lib.hid (hst.1.heap HS17V4ab.out (out_far HOV4ab.out HS17V4ab.out))
                clear ho hst
                refine hK.out _ _ ?_ (fun hHeld => ?_)
                · exact scr_cells HQV5ab.out
                clear hK K
                (try simp only [Act.put, List.setIfInBounds_toArray, List.set_cons_zero, List.set_cons_succ, List.getElem_toArray, List.getElem_cons_zero, List.getElem_cons_succ])
                refine wpAnyH_ready (rs := [18]) (by kernel_rfl) (by simp) ?_
                refine AllReadyH.cons (o := _) rfl (fun K hK => ?_) AllReadyH.nil
                · (try simp only [List.getElem_toArray, List.getElem_cons_zero, List.getElem_cons_succ])
                  go_simp
                  refine (outNum_any q A14ab c14ab l2 0 _ 1 1 [(m : Int)] _ HOV5ab.out (slice_heap HS17V5ab.out (out_far HOV5ab.out HS17V5ab.out)) rfl HIm.out HI2.out).mono ?_; rintro e V6ab ⟨rfl, A18ab, c18ab, ho, hst⟩
                  have HOV6ab : Hid (OutAt V6ab q A18ab c18ab l3 0) := Lib.hid (by have := ho; rwa [HE18.out] at this)
                  have HTV6ab := Lib.hid (HTV5ab.out.trans hst)
                  have HQV6ab := Lib.hid (hst.1.heap HQV5ab.out (out_far2 HOV5ab.out HQV5ab.out))
                  clear ho hst
                  refine hK.out _ _ ?_ (fun hHeld => ?_)
                  · exact scr_cells HQV6ab.out
                  clear hK K
                  (try simp only [Act.put, List.setIfInBounds_toArray, List.set_cons_zero, List.set_cons_succ, List.getElem_toArray, List.getElem_cons_zero, List.getElem_cons_succ])
                  refine wpAnyH_done (by kernel_rfl) ?_ _
                  refine NoPanic.normal ?_
                  go_wp2_with fail
                  go_meet
                  exact ⟨rfl, trivial, A18ab, c18ab, HOV6ab, HTV6ab⟩
    · (try simp only [List.getElem_toArray, List.getElem_cons_zero, List.getElem_cons_succ])
      go_simp
      obtain ⟨V1b, hV⟩ : ∃ V, V = Wd.alloc (.cells #[.int .i64 (m : Int)] 3) := ⟨_, rfl⟩
      obtain ⟨g17b, hg⟩ : ∃ g, g = Wd.heap.size := ⟨_, rfl⟩
      have HOV1b : Hid (OutAt V1b q none 0 [] 0) := Lib.hid (by rw [hV]; exact HOWd.out.alloc _)
      have HTV1b : Hid (OutStep q none Wq none V1b) := Lib.hid (by rw [hV]; exact HTWd.out.trans ⟨(Keep.refl _ _).alloc _, fun _ h => .inl h⟩)
      have HQV1b : Hid (V1b.heap[p + 1]? = some (.cells #[.int .i64 W', .int .i64 H', .slice B n' d, .int .i64 X', .int .i64 Y', .bool hi'] 24 (0, 0))) := Lib.hid (by rw [hV]; exact heap_alloc HQWd.out _)
      have HS17V1b : Hid (V1b.heap[g17b]? = some (.cells #[.int .i64 (m : Int)] 3 (0, 0))) := Lib.hid (by rw [hV, hg]; exact heap_alloc_new _ _)
      rw [← hV, ← hg]
      clear hV hg
      refine hK.out _ _ ?_ (fun hHeld => ?_)
      · exact scr_cells HQV1b.out
      clear hK K
      (try simp only [Act.put, List.setIfInBounds_toArray, List.set_cons_zero, List.set_cons_succ, List.getElem_toArray, List.getElem_cons_zero, List.getElem_cons_succ])
      refine wpAnyH_ready (rs := [8]) (by kernel_rfl) (by simp) ?_
      refine AllReadyH.cons (o := _) rfl (fun K hK => ?_) AllReadyH.nil
      · (try simp only [List.getElem_toArray, List.getElem_cons_zero, List.getElem_cons_succ])
        go_simp
        obtain ⟨V2b, hV⟩ : ∃ V, V = V1b.alloc (.cells #[.int .i64 W', .int .i64 H', .int .i64 X', .int .i64 Y'] 3) := ⟨_, rfl⟩
        obtain ⟨g8b, hg⟩ : ∃ g, g = V1b.heap.size := ⟨_, rfl⟩
        have HOV2b : Hid (OutAt V2b q none 0 [] 0) := Lib.hid (by rw [hV]; exact HOV1b.out.alloc _)
        have HTV2b : Hid (OutStep q none Wq none V2b) := Lib.hid (by rw [hV]; exact HTV1b.out.trans ⟨(Keep.refl _ _).alloc _, fun _ h => .inl h⟩)
        have HQV2b : Hid (V2b.heap[p + 1]? = some (.cells #[.int .i64 W', .int .i64 H', .slice B n' d, .int .i64 X', .int .i64 Y', .bool hi'] 24 (0, 0))) := Lib.hid (by rw [hV]; exact heap_alloc HQV1b.out _)
        have HS8V2b : Hid (V2b.heap[g8b]? = some (.cells #[.int .i64 W', .int .i64 H', .int .i64 X', .int .i64 Y'] 3 (0, 0))) := Lib.hid (by rw [hV, hg]; exact heap_alloc_new _ _)
        have HS17V2b := Lib.hid (show V2b.heap[g17b]? = some (.cells #[.int .i64 (m : Int)] 3 (0, 0)) by rw [hV]; exact heap_alloc HS17V1b.out _)
        rw [← hV, ← hg]
        clear hV hg
        refine hK.out _ _ ?_ (fun hHeld => ?_)
        · exact scr_cells HQV2b.out
        clear hK K
        (try simp only [Act.put, List.setIfInBounds_toArray, List.set_cons_zero, List.set_cons_succ, List.getElem_toArray, List.getElem_cons_zero, List.getElem_cons_succ])
        refine wpAnyH_ready (rs := [9]) (by kernel_rfl) (by simp) ?_
        refine AllReadyH.cons (o := _) rfl (fun K hK => ?_) AllReadyH.nil
        · (try simp only [List.getElem_toArray, List.getElem_cons_zero, List.getElem_cons_succ])
          go_simp
          refine (outNum_any q none 0 [] 0 _ 4 4 [W', H', X', Y'] _ HOV2b.out (slice_heap HS8V2b.out (out_far HOV2b.out HS8V2b.out)) rfl HI4.out (by simp)).mono ?_; rintro e V3b ⟨rfl, A9b, c9b, ho, hst⟩
          have HOV3b : Hid (OutAt V3b q A9b c9b l1 0) := Lib.hid (by have := ho; rwa [HE9.out] at this)
          have HTV3b := Lib.hid (HTV2b.out.trans hst)
          have HQV3b := Lib.hid (hst.1.heap HQV2b.out (out_far2 HOV2b.out HQV2b.out))
          have HS17V3b := Lib.hid (hst.1.heap HS17V2b.out (out_far HOV2b.out HS17V2b.out))
          clear ho hst
          refine hK.out _ _ ?_ (fun hHeld => ?_)
          · exact scr_cells HQV3b.out
          clear hK K
          (try simp only [Act.put, List.setIfInBounds_toArray, List.set_cons_zero, List.set_cons_succ, List.getElem_toArray, List.getElem_cons_zero, List.getElem_cons_succ])
          refine wpAnyH_ready (rs := [12]) (by kernel_rfl) (by simp) ?_
          refine AllReadyH.cons (o := _) rfl (fun K hK => ?_) AllReadyH.nil
          · (try simp only [List.getElem_toArray, List.getElem_cons_zero, List.getElem_cons_succ])
            go_simp
            refine (HF.out _).mono ?_; rintro e Vx ⟨rfl, hw⟩; rw [hw]; clear hw Vx
            refine hK.out _ _ ?_ (fun hHeld => ?_)
            · exact scr_cells HQV3b.out
            clear hK K
            (try simp only [Act.put, List.setIfInBounds_toArray, List.set_cons_zero, List.set_cons_succ, List.getElem_toArray, List.getElem_cons_zero, List.getElem_cons_succ])
            refine wpAnyH_ready (rs := [13]) (by kernel_rfl) (by simp) ?_
            refine AllReadyH.cons (o := _) rfl (fun K hK => ?_) AllReadyH.nil
            · (try simp only [List.getElem_toArray, List.getElem_cons_zero, List.getElem_cons_succ])
              go_simp
              obtain ⟨V4b, hV⟩ : ∃ V, V = V3b.alloc (.cells #[.int .i64 fv] 3) := ⟨_, rfl⟩
              obtain ⟨g13b, hg⟩ : ∃ g, g = V3b.heap.size := ⟨_, rfl⟩
              have HOV4b : Hid (OutAt V4b q A9b c9b l1 0) := Lib.hid (by rw [hV]; exact HOV3b.out.alloc _)
              have HTV4b : Hid (OutStep q none Wq A9b V4b) := Lib.hid (by rw [hV]; exact HTV3b.out.trans ⟨(Keep.refl _ _).alloc _, fun _ h => .inl h⟩)
              have HQV4b : Hid (V4b.heap[p + 1]? = some (.cells #[.int .i64 W', .int .i64 H', .slice B n' d, .int .i64 X', .int .i64 Y', .bool hi'] 24 (0, 0))) := Lib.hid (by rw [hV]; exact heap_alloc HQV3b.out _)
              have HS13V4b : Hid (V4b.heap[g13b]? = some (.cells #[.int .i64 fv] 3 (0, 0))) := Lib.hid (by rw [hV, hg]; exact heap_alloc_new _ _)
              have HS17V4b := Lib.hid (show V4b.heap[g17b]? = some (.cells #[.int .i64 (m : Int)] 3 (0, 0)) by rw [hV]; exact heap_alloc HS17V3b.out _)
              rw [← hV, ← hg]
              clear hV hg
              refine hK.out _ _ ?_ (fun hHeld => ?_)
              · exact scr_cells HQV4b.out
              clear hK K
              (try simp only [Act.put, List.setIfInBounds_toArray, List.set_cons_zero, List.set_cons_succ, List.getElem_toArray, List.getElem_cons_zero, List.getElem_cons_succ])
              refine wpAnyH_ready (rs := [14]) (by kernel_rfl) (by simp) ?_
              refine AllReadyH.cons (o := _) rfl (fun K hK => ?_) AllReadyH.nil
              · (try simp only [List.getElem_toArray, List.getElem_cons_zero, List.getElem_cons_succ])
                go_simp
                refine (outByte_any q A9b c9b l1 0 _ 1 1 [fv] _ HOV4b.out (slice_heap HS13V4b.out (out_far HOV4b.out HS13V4b.out)) rfl HI1.out).mono ?_; rintro e V5b ⟨rfl, A14b, c14b, ho, hst⟩
                have HOV5b : Hid (OutAt V5b q A14b c14b l2 0) := Lib.hid (by have := ho; rwa [HE14.out] at this)
                have HTV5b := Lib.hid (HTV4b.out.trans hst)
                have HQV5b := Lib.hid (hst.1.heap HQV4b.out (out_far2 HOV4b.out HQV4b.out))
                have HS17V5b := Lib.hid (hst.1.heap HS17V4b.out (out_far HOV4b.out HS17V4b.out))
                clear ho hst
                refine hK.out _ _ ?_ (fun hHeld => ?_)
                · exact scr_cells HQV5b.out
                clear hK K
                (try simp only [Act.put, List.setIfInBounds_toArray, List.set_cons_zero, List.set_cons_succ, List.getElem_toArray, List.getElem_cons_zero, List.getElem_cons_succ])
                refine wpAnyH_ready (rs := [18]) (by kernel_rfl) (by simp) ?_
                refine AllReadyH.cons (o := _) rfl (fun K hK => ?_) AllReadyH.nil
                · (try simp only [List.getElem_toArray, List.getElem_cons_zero, List.getElem_cons_succ])
                  go_simp
                  refine (outNum_any q A14b c14b l2 0 _ 1 1 [(m : Int)] _ HOV5b.out (slice_heap HS17V5b.out (out_far HOV5b.out HS17V5b.out)) rfl HIm.out HI2.out).mono ?_; rintro e V6b ⟨rfl, A18b, c18b, ho, hst⟩
                  have HOV6b : Hid (OutAt V6b q A18b c18b l3 0) := Lib.hid (by have := ho; rwa [HE18.out] at this)
                  have HTV6b := Lib.hid (HTV5b.out.trans hst)
                  have HQV6b := Lib.hid (hst.1.heap HQV5b.out (out_far2 HOV5b.out HQV5b.out))
                  clear ho hst
                  refine hK.out _ _ ?_ (fun hHeld => ?_)
                  · exact scr_cells HQV6b.out
                  clear hK K
                  (try simp only [Act.put, List.setIfInBounds_toArray, List.set_cons_zero, List.set_cons_succ, List.getElem_toArray, List.getElem_cons_zero, List.getElem_cons_succ])
                  refine wpAnyH_done (by kernel_rfl) ?_ _
                  refine NoPanic.normal ?_
                  go_wp2_with fail
                  go_meet
                  exact ⟨rfl, trivial, A18b, c18b, HOV6b, HTV6b⟩
  case rest =>
    obtain ⟨rfl, -, A0, c0, HO0, HT0⟩ := hcut
    obtain ⟨hq1, hq2⟩ := HNq.out
    have HL := Lib.hid (fun k => runsB_le F' n' HOK.out (by omega) (l.take k) 0 0 (HSo.out.take k))
    have HW : Hid (∀ (A : Option Addr) (V : World), OutStep q none Wq A V → Below w.heap.size w V) := Lib.hid (fun A V h => HBq.out.trans (h.1.below HBq.out.size (fun i hi e => by rcases e with e | e; omega; simp [blk] at e)))
    clear hq2
    go_wp2_with fail
    go_loopw [9, 44] (fun bh i wr => ∃ (k e : Nat) (A : Option Addr) (c : Nat), k ≤ m ∧ i = .int .i64 k ∧ bh = .int .i64 e ∧ Hid (e = endR (l.take k)) ∧ e ≤ 800 ∧ Hid (OutAt wr q A c (l3 ++ runsB F' 0 (l.take k)) 0) ∧ Hid (OutStep q none Wq A wr)) (fun _ i _ => m - (intOf i).toNat)
    case atStart => exact ⟨0, 0, A0, c0, by omega, rfl, rfl, Lib.hid rfl, by omega, Lib.hid (by simpa [runsB] using HO0.out), HT0⟩
    case round =>
      obtain ⟨k, e, A, c, hk, rfl, rfl, HE, he8, HO, HT⟩ := hrel
      by_cases hlt : k < m
      · obtain ⟨⟨f, b⟩, hkx⟩ : ∃ x, l[k]? = some x := ⟨l[k]'(by rw [← HM.out]; exact hlt), List.getElem?_eq_getElem _⟩
        obtain ⟨h1, h2, h3⟩ := HSo.out.at' k f b hkx
        have hef : e ≤ f := by rw [HE.out]; exact endR_le l 0 k f b HSo.out hkx
        have HR1 := Lib.hid (runsB_take F' l k f b hkx)
        have hLk := HL.out k
        have hfar : ∀ i, i < q → ¬ (i = q ∨ blk none = some i) := fun i hi x => by rcases x with x | x; omega; simp [blk] at x
        obtain ⟨g, rfl, hg, x1, x2⟩ := own_two (own_keep HRq.out HT.out.1 (fun i hi => hfar i (HNq.out.2 i hi))) HM.out hkx
        have hki : ((k : Int) < (m : Int)) := by omega
        have hk0 : (0 : Int) ≤ (k : Int) := by omega
        have hqp : p + 1 < Wq.heap.size := lt_heap HQq.out
        have HQr := Lib.hid (HT.out.1.heap HQq.out (fun x => by rcases x with x | x; (have := HOq.out.1; rw [← x, HQq.out] at this; injection this with this; injection this with _ y _; exact absurd y (by decide)); simp [blk] at x))
        obtain ⟨base, hbase⟩ : ∃ base, l3 ++ runsB F' 0 (l.take k) = base := ⟨_, rfl⟩
        have hbl : base.length ≤ 46 + 30 * 800 := by rw [← hbase, List.length_append]; omega
        rw [hbase] at HO
        have HBase := Lib.hid hbase
        clear hbase hkx hLk
        go_upto_region 10 with fail
        obtain ⟨w3, hw3⟩ : ∃ w3, w3 = wr.alloc (.cells #[.int .i64 (f : Int), .int .i64 (b : Int)] 53) := ⟨_, rfl⟩
        obtain ⟨rb, hrb⟩ : ∃ rb, rb = wr.heap.size := ⟨_, rfl⟩
        have HO3 : Hid (OutAt w3 q A c base 0) := Lib.hid (by rw [hw3]; exact HO.out.alloc _)
        have HT3 : Hid (OutStep q none Wq A w3) := Lib.hid (by rw [hw3]; exact HT.out.trans ⟨(Keep.refl _ _).alloc _, fun _ h => .inl h⟩)
        have HQ3 : Hid (w3.heap[p + 1]? = some (.cells #[.int .i64 W', .int .i64 H', .slice B n' d, .int .i64 X', .int .i64 Y', .bool hi'] 24 (0, 0))) := Lib.hid (by rw [hw3]; exact heap_alloc HQr.out _)
        have HR3 : Hid (w3.heap[rb]? = some (.cells #[.int .i64 (f : Int), .int .i64 (b : Int)] 53 (0, 0))) := Lib.hid (by rw [hw3, hrb]; exact heap_alloc_new _ _)
        rw [← hw3, ← hrb]
        clear hw3 hrb x1 x2 HQr
        have r0 := cell_at HR3.out 0; have r1 := cell_at HR3.out 1
        simp at r0 r1
        have hfe : ((e : Int) ≤ (f : Int)) := by omega
        have hfb : ((f : Int) < (b : Int)) := by omega
        have hb8 : ((b : Int) ≤ 800) := by omega
        have HE4 : Hid (numsO base 0 [(f : Int) - (e : Int), (b : Int) - (f : Int)] = (base ++ (enc (f - e) ++ enc (b - f)), 0)) := Lib.hid (by
          have := nums_nat base [f - e, b - f]
          simp only [List.map_cons, List.map_nil, List.flatMap_cons, List.flatMap_nil, List.append_nil] at this
          rw [← this]
          congr 1
          rw [show ((f - e : Nat) : Int) = (f : Int) - e from by omega, show ((b - f : Nat) : Int) = (b : Int) - f from by omega])
        go_wp2_with fail
        refine (outNum_any q A c base 0 _ 2 2 [(f : Int) - (e : Int), (b : Int) - (f : Int)] _ (HO3.out.alloc _) (slice_new (g := w3.heap.size) rfl [.int .i64 ((f : Int) - (e : Int)), .int .i64 ((b : Int) - (f : Int))] 3 (fun x => by rcases x with x | x; (have := HO3.out.lt; omega); (have := HO3.out.row x; omega))) rfl (by intro x hx; simp at hx; omega) (by omega)).mono ?_
        rintro r w4 ⟨rfl, A4, c4, ho, hst⟩
        have HO4 : Hid (OutAt w4 q A4 c4 (base ++ (enc (f - e) ++ enc (b - f))) 0) := Lib.hid (by have := ho; rwa [HE4.out] at this)
        have HT4 : Hid (OutStep q none Wq A4 w4) := Lib.hid ((HT3.out.trans ⟨(Keep.refl _ _).alloc (.cells #[.int .i64 ((f : Int) - (e : Int)), .int .i64 ((b : Int) - (f : Int))] 3), fun _ h => .inl h⟩).trans hst)
        have HQ4 := Lib.hid (hst.1.heap (heap_alloc HQ3.out (.cells #[.int .i64 ((f : Int) - (e : Int)), .int .i64 ((b : Int) - (f : Int))] 3)) (out_far2 (HO3.out.alloc _) (heap_alloc HQ3.out (.cells #[.int .i64 ((f : Int) - (e : Int)), .int .i64 ((b : Int) - (f : Int))] 3))))
        have HR4 := Lib.hid (hst.1.heap (heap_alloc HR3.out (.cells #[.int .i64 ((f : Int) - (e : Int)), .int .i64 ((b : Int) - (f : Int))] 3)) (out_far3 (HO3.out.alloc _) (heap_alloc HR3.out (.cells #[.int .i64 ((f : Int) - (e : Int)), .int .i64 ((b : Int) - (f : Int))] 3))))
        have hbl2 : (base ++ (enc (f - e) ++ enc (b - f))).length ≤ 30000 := by
          have := enc_le (f - e) (by omega)
          have := enc_le (b - f) (by omega)
          simp only [List.length_append]
          omega
        obtain ⟨b2, hb2⟩ : ∃ b2, b2 = base ++ (enc (f - e) ++ enc (b - f)) := ⟨_, rfl⟩
        rw [← hb2] at HO4 hbl2
        have HB2 := Lib.hid hb2
        clear ho hst r0 r1 HO3 HT3 HQ3 HR3 hb2 HE4
        have s2 := cell_at HQ4.out 2
        have r0 := cell_at HR4.out 0; have r1 := cell_at HR4.out 1
        simp at s2 r0 r1
        have hbd : ((b : Int) ≤ (d : Int)) := by omega
        have hf0 : ((0 : Int) ≤ (f : Int)) := by omega
        have hdf : ¬ d = f := by omega
        obtain ⟨g2, o2, rfl, -, -⟩ := HSB.out.2 (by omega)
        go_wp2_with fail
        go_loopw [67] (fun i wx => ∃ (j : Nat) (A5 : Option Addr) (c5 : Nat), j ≤ b - f ∧ i = .int .i64 j ∧ Hid (OutAt wx q A5 c5 (b2 ++ cellsB F' f j) 0) ∧ Hid (OutStep q none Wq A5 wx) ∧ Hid (wx.heap[rb]? = some (.cells #[.int .i64 (f : Int), .int .i64 (b : Int)] 53 (0, 0)))) (fun i _ => (b - f) - (intOf i).toNat)
        case atStart => exact ⟨0, A4, c4, by omega, rfl, Lib.hid (by simpa [cellsB] using HO4.out), HT4, HR4⟩
        case round =>
          obtain ⟨j, A5, c5, hj, rfl, HO5, HT5, HR5⟩ := hrel
          by_cases hjl : j < b - f
          · have hsrc := Src.keep HSB.out (Keep.of_below _ (HW.out _ _ HT5.out))
            obtain ⟨g3, o3, hg3, -, hc3⟩ := hsrc.2 (by omega)
            injection hg3 with hg3
            injection hg3 with hg3 ho3
            subst hg3 ho3
            obtain ⟨y0, y1, y2, y3, y4, y5⟩ := six_src (k := f + j) hc3 (by omega)
            have HLay := Lib.hid (fun V => cell_Lay (F' (f + j)) V (HOK.out _ (by omega)))
            have HC1 := Lib.hid (cellsB_succ F' f j)
            have hcl := cellsB_le F' f j (fun i hi => HOK.out _ (by omega))
            have hcl1 := cellB_le (F' (f + j)) (HOK.out _ (by omega))
            obtain ⟨b3, hb3⟩ : ∃ b3, b3 = b2 ++ cellsB F' f j := ⟨_, rfl⟩
            have hb3n : b3.length ≤ 30000 + 12 * 800 := by rw [hb3, List.length_append]; omega
            rw [← hb3] at HO5
            have HB3 := Lib.hid hb3
            clear hsrc hc3 hb3 hcl
            generalize F' (f + j) = r at y0 y1 y2 y3 y4 y5 HLay HC1 hcl1
            rw [show o2 + (f + j) * 6 = o2 + f * 6 + j * 6 from by omega] at y0 y1 y2 y3 y4 y5
            obtain ⟨cb, hcb⟩ : ∃ cb, cb = cellB r := ⟨_, rfl⟩
            rw [← hcb] at HLay HC1 hcl1
            clear hcb
            obtain ⟨r0, ⟨r1, r2, r3, r4, r5⟩⟩ := r
            simp only [CellM.v] at y0 y1 y2 y3 y4 y5 HLay
            have hji : ((j : Int) < (b : Int) - (f : Int)) := by omega
            have hj0 : (0 : Int) ≤ (j : Int) := by omega
            go_upto_region 14 with fail
            obtain ⟨w5, hw5⟩ : ∃ w5, w5 = wr.alloc (.cells #[.int .i32 r0, .int .i64 r1, .int .i64 r2, .bool r3, .bool r4, .bool r5] 40) := ⟨_, rfl⟩
            obtain ⟨xb, hxb⟩ : ∃ xb, xb = wr.heap.size := ⟨_, rfl⟩
            have HO6 : Hid (OutAt w5 q A5 c5 b3 0) := Lib.hid (by rw [hw5]; exact HO5.out.alloc _)
            have HT6 : Hid (OutStep q none Wq A5 w5) := Lib.hid (by rw [hw5]; exact HT5.out.trans ⟨(Keep.refl _ _).alloc _, fun _ h => .inl h⟩)
            have HR6 : Hid (w5.heap[rb]? = some (.cells #[.int .i64 (f : Int), .int .i64 (b : Int)] 53 (0, 0))) := Lib.hid (by rw [hw5]; exact heap_alloc HR5.out _)
            have HX6 : Hid (w5.heap[xb]? = some (.cells #[.int .i32 r0, .int .i64 r1, .int .i64 r2, .bool r3, .bool r4, .bool r5] 40 (0, 0))) := Lib.hid (by rw [hw5, hxb]; exact heap_alloc_new _ _)
            rw [← hw5, ← hxb]
            clear hw5 hxb y0 y1 y2 y3 y4 y5
            have y0 := cell_at HX6.out 0; have y1 := cell_at HX6.out 1; have y2 := cell_at HX6.out 2; have y3 := cell_at HX6.out 3; have y4 := cell_at HX6.out 4; have y5 := cell_at HX6.out 5
            simp at y0 y1 y2 y3 y4 y5
            go_wp2_with fail
            refine (HLay.out _).mono ?_
            rintro e6 w6 ⟨rfl, hb⟩
            have K6 := Keep.of_below (fun _ => False) hb
            have HO7 := Lib.hid (HO6.out.keep K6 (fun x => x) (fun _ _ x => x))
            have HT7 : Hid (OutStep q none Wq A5 w6) := Lib.hid (HT6.out.trans ⟨K6.mono (fun _ _ x => x.elim), fun _ h => .inl h⟩)
            have HR7 := Lib.hid (K6.heap HR6.out (fun x => x))
            clear hb K6 y0 y1 y2 y3 y4 y5 HO6 HT6 HR6 HX6
            obtain ⟨S, hS⟩ : ∃ S : ByteArray, S = ⟨cb.toArray⟩ := ⟨_, rfl⟩
            have hSz : S.size ≤ 12 := by rw [hS]; exact hcl1
            have HS := Lib.hid hS
            rw [← hS]
            clear hS
            go_wp2_with fail
            refine (outRaw_any q A5 c5 b3 0 _ 1 1 [S] _ (HO7.out.alloc _) (slice_new (g := w6.heap.size) rfl [.string S] 9 (fun x => by rcases x with x | x; (have := HO7.out.lt; omega); (have := HO7.out.row x; omega))) rfl (by omega) (by rw [sum_one]; omega)).mono ?_
            rintro e7 w7 ⟨rfl, A7, c7, ho, hst⟩
            have HO8 : Hid (OutAt w7 q A7 c7 (b2 ++ cellsB F' f (j + 1)) 0) := Lib.hid (by rw [raws_one] at ho; rw [HC1.out, ← List.append_assoc, ← HB3.out, show cb = S.data.toList from by rw [HS.out]]; exact ho)
            have HT8 : Hid (OutStep q none Wq A7 w7) := Lib.hid ((HT7.out.trans ⟨(Keep.refl _ _).alloc (.cells #[.string S] 9), fun _ h => .inl h⟩).trans hst)
            have HR8 := Lib.hid (hst.1.heap (heap_alloc HR7.out (.cells #[.string S] 9)) (out_far3 (HO7.out.alloc _) (heap_alloc HR7.out (.cells #[.string S] 9))))
            clear ho hst
            go_wp2_with fail
            go_roundw
            case rel => exact ⟨j + 1, A7, c7, by omega, by go_num, HO8, HT8, HR8⟩
            case measure => simp [intOf]; omega
          · obtain rfl : j = b - f := by omega
            have hji : ¬ (((b - f : Nat) : Int) < (b : Int) - (f : Int)) := by omega
            have r1 := cell_at HR5.out 1
            simp at r1
            go_wp2_with fail
            go_roundw
            case rel =>
              refine ⟨k + 1, b, A5, c5, by omega, by go_num, rfl, Lib.hid HR1.out.2.symm, by omega, Lib.hid ?_, HT5⟩
              have e1 := HR1.out.1
              rw [e1, ← HE.out, ← List.append_assoc, HBase.out, ← List.append_assoc, ← HB2.out]
              exact HO5.out
            case measure => simp [intOf]; omega
      · obtain rfl : k = m := by omega
        have hki : ¬ ((k : Int) < (k : Int)) := by omega
        have HF : Hid (l3 ++ runsB F' 0 (l.take k) = D) := Lib.hid (by rw [HD.out, List.take_of_length_le (by rw [HM.out]; exact Nat.le_refl _)])
        have HO1 : Hid (OutAt wr q A c D 0) := Lib.hid (by rw [← HF.out]; exact HO.out)
        have HB9 := Lib.hid (HW.out _ _ HT.out)
        clear HO HF
        go_wp2_with fail
        refine (outend_any q A c D 0 wr HO1.out).mono ?_
        rintro r w9 ⟨rfl, nq, hw9⟩
        rw [hw9]
        clear hw9
        go_wp2_with fail
        go_ret2
        exact ⟨rfl, Below.drewN' HB9.out nq⟩

end Go.Proofs.Ytgomnigchfmfhaa
