/- Law PactPlays: the walk. Own work. -/
import Derived.Test.YtmkgcmnimpkmjaaPactPair
import Derived.Test.YtmkgcmnimpkmjaaBox
import Derived.Deep.CutRange
import Derived.Deep.CutBlock
namespace Go.Proofs.Ytmkgcmnimpkmjaa
set_option linter.unusedVariables false
set_option linter.unusedSimpArgs false
open Go.RowKit

/-- What the law keeps of both. -/
def KeptP (B : Nat) (p : Nat) (L : Blk) (N : ByteArray) (r k c : Nat) (w : World) : Prop := ∃ m, PairAt B w p L N r m ∧ Few m c ∧ m.g ≤ 2 * k

theorem op_at_far {w W : World} {b off : Nat} {o : OpV} (h : OpAt w b off o) (k : Below w.heap.size w W) (hb : b < w.heap.size) : OpAt W b off o :=
  ⟨(k.cell (p := ⟨b, off, none⟩) hb).trans h.c0, (k.cell (p := ⟨b, off + 1, none⟩) hb).trans h.c1, (k.cell (p := ⟨b, off + 2, none⟩) hb).trans h.c2, (k.cell (p := ⟨b, off + 3, none⟩) hb).trans h.c3,
    (k.cell (p := ⟨b, off + 4, none⟩) hb).trans h.c4, (k.cell (p := ⟨b, off + 5, none⟩) hb).trans h.c5, (k.cell (p := ⟨b, off + 6, none⟩) hb).trans h.c6, (k.cell (p := ⟨b, off + 7, none⟩) hb).trans h.c7, h.lo, h.hi⟩

theorem few_le {m : Pm} {c : Nat} (h : Few m c) : m.sent ≤ c + 2 := by unfold Few at h; split at h <;> omega

set_option maxRecDepth 100000 in
set_option maxHeartbeats 16000000 in
theorem plays_good (name : ByteArray) (pw ph : Int) (A : Option Addr) (n cap : Nat) (ops : List OpV) (ask : Int) (w : World) (hops : Structs (OpAt w) 8 w A n ops) (h1 : name.size ≤ 100) (h2 : n ≤ 100) (a0 : -9223372036854775808 ≤ ask) (a1 : ask ≤ 9223372036854775807) :
    Calls Try.prog 3 #[.string name, .int .i64 pw, .int .i64 ph, .slice A n cap, .int .i64 ask] w fun e w' => e = .returned (.bool true) ∧ Below w.heap.size w w' := by
  have HO := Lib.hid hops
  have hd1 : decide (100 < (name.size : Int)) = false := by simp; omega
  have hd2 : decide (100 < (n : Int)) = false := by simp; omega
  obtain ⟨q, hq, hq1, hq2⟩ : ∃ q : Nat, min (name.size : Int) 30 = (q : Int) ∧ q ≤ name.size ∧ q ≤ 30 := ⟨min name.size 30, by omega, by omega, by omega⟩
  obtain ⟨N, hN⟩ : ∃ N, N = name.extract 0 q := ⟨_, rfl⟩
  have HN := Lib.hid (fun W (h : w.heap.size ≤ W.heap.size) => pk_new name q hq pw ph W w.heap.size h)
  have HR := Lib.hid (fun W => rnew_any name q hq hq1 pw ph W)
  rw [← hN] at HN HR
  clear hops hq hq1 hq2 hN h1
  go_enter Try.func3, Try.ntmps3
  go_wp2_with fail
  refine (alive_any _).mono ?_
  rintro r w1 ⟨rfl, hb⟩
  have HB1 := Lib.hid hb
  clear hb
  go_wp2_with fail
  refine (HN.out _ HB1.out.size).mono ?_
  rintro e w2 ⟨p, L, rfl, hp1, hb⟩
  have HP2 := Lib.hid hp1
  have HB2 : Hid (Below w.heap.size w w2) := Lib.hid (HB1.out.trans (hb.mono HB1.out.size))
  clear hb hp1 HB1 HN
  go_wp2_with fail
  refine (HR.out _).mono ?_
  rintro e w3 ⟨r, rfl, hr0, hr, hb⟩
  have HB3 : Hid (Below w.heap.size w w3) := Lib.hid (HB2.out.trans (hb.mono HB2.out.size))
  have H0 : Hid (KeptP w.heap.size p L N r 0 0 w3) := Lib.hid ⟨Pm.new pw ph, ⟨HP2.out.below hb, hr, by
    have h5 := HP2.out.ac.lts
    have h6 := HP2.out.le
    unfold Apart
    omega⟩, by unfold Few; simp [Pm.new], by simp [Pm.new]⟩
  clear hb hr hr0 HP2 HB2 HR
  go_wp2_with fail
  go_loopw [13, 14] (fun cv i wr => ∃ (k c : Nat), i = .int .i64 k ∧ k ≤ n ∧ cv = .int .i64 c ∧ c ≤ k ∧ Hid (KeptP w.heap.size p L N r k c wr) ∧ Hid (Below w.heap.size w wr)) (fun _ i _ => n - (intOf i).toNat)
  case atStart => exact ⟨0, 0, rfl, by omega, rfl, by omega, H0, HB3⟩
  case round =>
    obtain ⟨k, c, rfl, hk, rfl, hck, hm, hw⟩ := hrel
    clear H0 HB3
    by_cases hlt : k < n
    · have hd : decide ((k : Int) < (n : Int)) = true := by simp; omega
      obtain ⟨b, off, o, rfl, hbl, _, ho⟩ := HO.out.at hlt
      have HOB : Hid (-9223372036854775808 ≤ o.o ∧ o.o ≤ 9223372036854775807) := Lib.hid ⟨ho.lo, ho.hi⟩
      obtain ⟨e0, e1, e2, e3, e4, e5, e6, e7, _, _⟩ := op_at_far ho hw.out hbl
      have hbw : b < wr.heap.size := Nat.lt_of_lt_of_le hbl hw.out.size
      obtain ⟨W1, hW1⟩ : ∃ W1, W1 = wr.alloc (.cells (opCells o).toArray 31) := ⟨_, rfl⟩
      obtain ⟨g, hg⟩ : ∃ g, g = wr.heap.size := ⟨_, rfl⟩
      have HM1 : Hid (∃ m, PairAt w.heap.size W1 p L N r m ∧ Few m c ∧ m.g ≤ 2 * k ∧ g ≠ r ∧ ¬ pown p L g) := Lib.hid (by
        obtain ⟨m, q1, q2, q3⟩ := hm.out
        have l1 := q1.rf.lt
        have l2 := q1.pk.ac.lts
        rw [hW1]
        refine ⟨m, q1.alloc _, q2, q3, by omega, fun e => ?_⟩
        rcases e with e | e | e <;> omega)
      have HW1 : Hid (Below w.heap.size w W1) := Lib.hid (by rw [hW1]; exact hw.out.alloc hw.out.size _)
      have HC1 : Hid (Cells W1 g (opCells o)) := Lib.hid (by rw [hW1, hg]; exact Cells.box wr _ _)
      have HWE : Hid (W1 = wr.alloc (.cells #[.int .i64 o.k, .int .i64 o.c, .int .i64 o.o, .string o.s, .bool o.size, .bool o.start, .int .i64 o.w, .int .i64 o.h] 31)) := Lib.hid hW1
      clear ho hW1 hm
      go_upto_region 12 with fail
      rw [← hg, ← HWE.out]
      clear e0 e1 e2 e3 e4 e5 e6 e7 hbw hg HWE hw
      have x3 := (HC1.out 3 _ rfl).1
      by_cases hlong : 100 < o.s.size
      · have hl : decide (100 < (o.s.size : Int)) = true := by simp; omega
        go_wp2_with fail
        go_ret
        exact ⟨rfl, HW1.out⟩
      have hl : decide (100 < (o.s.size : Int)) = false := by simp; omega
      clear hlong
      go_upto_block 2 with fail
      clear hl x3
      go_cut [13, 16, 17] from 52 to 235 (fun cv av bv wx => ∃ (c' : Nat) (T : ByteArray), cv = .int .i64 c' ∧ av = .string T ∧ bv = .string T ∧ c' ≤ k + 1 ∧ Hid (∃ m, PairAt w.heap.size wx p L N r m ∧ Few m c' ∧ m.g ≤ 2 * (k + 1)) ∧ Hid (Cells wx g (opCells o)) ∧ Hid (Below w.heap.size w wx))
      case first =>
        obtain ⟨m, q1, q2, q3, n1, n2⟩ := HM1.out
        have HQ := Lib.hid q1
        have HF := Lib.hid q2
        have HNE := Lib.hid (And.intro n1 n2)
        have hsent := few_le q2
        clear q1 q2 n1 n2 HM1
        have x0 := (HC1.out 0 _ rfl).1
        have x4 := (HC1.out 4 _ rfl).1
        have x5 := (HC1.out 5 _ rfl).1
        obtain ⟨ok, hok⟩ : ∃ z, z = o.k := ⟨_, rfl⟩
        obtain ⟨osz, hosz⟩ : ∃ z, z = o.size := ⟨_, rfl⟩
        obtain ⟨ost, host⟩ : ∃ z, z = o.start := ⟨_, rfl⟩
        rw [← hok] at x0
        rw [← hosz] at x4
        rw [← host] at x5
        have HOK := Lib.hid hok
        clear hosz host hok
        cases osz
        · cases ost
          · as_aux_lemma =>
              go_upto_region 15 with fail
              refine wp_region_noPanic ?_
              refine wp_region_held_drew (S := fun W => W.cell? ⟨g, 0, none⟩ = some (.int .i64 o.k) ∧ W.cell? ⟨g, 1, none⟩ = some (.int .i64 o.c) ∧ W.cell? ⟨g, 2, none⟩ = some (.int .i64 o.o) ∧ W.cell? ⟨g, 3, none⟩ = some (.string o.s)) (by kernel_rfl) ⟨(HC1.out 0 _ rfl).1, (HC1.out 1 _ rfl).1, (HC1.out 2 _ rfl).1, (HC1.out 3 _ rfl).1⟩ (fun hHeld => ?_)
              refine wpAnyH_take (i := 0) (oi := _) (v := ?vpt0) rfl (by kernel_rfl) (by kernel_rfl) (by kernel_rfl) (fun _ _ _ h => h) (Or.inl ⟨by rfl, ?hypt0⟩) (by assumption) ?restpt0
              case hypt0 => (intro w hSw; (try dsimp only at hSw); (try simp only [List.getElem_toArray, List.getElem_cons_zero, List.getElem_cons_succ]); go_simp; (try with_reducible rfl))
              (try simp only [Act.put, List.setIfInBounds_toArray, List.set_cons_zero, List.set_cons_succ, List.getElem_toArray, List.getElem_cons_zero, List.getElem_cons_succ])
              refine wpAnyH_take (i := 1) (oi := _) (v := ?vpt1) rfl (by kernel_rfl) (by kernel_rfl) (by kernel_rfl) (fun _ _ _ h => h) (Or.inl ⟨by rfl, ?hypt1⟩) (by assumption) ?restpt1
              case hypt1 => (intro w hSw; (try dsimp only at hSw); (try simp only [List.getElem_toArray, List.getElem_cons_zero, List.getElem_cons_succ]); go_simp; (try with_reducible rfl))
              (try simp only [Act.put, List.setIfInBounds_toArray, List.set_cons_zero, List.set_cons_succ, List.getElem_toArray, List.getElem_cons_zero, List.getElem_cons_succ])
              refine wpAnyH_take (i := 2) (oi := _) (v := ?vpt2) rfl (by kernel_rfl) (by kernel_rfl) (by kernel_rfl) (fun _ _ _ h => h) (Or.inl ⟨by rfl, ?hypt2⟩) (by assumption) ?restpt2
              case hypt2 => (intro w hSw; (try dsimp only at hSw); (try simp only [List.getElem_toArray, List.getElem_cons_zero, List.getElem_cons_succ]); go_simp; (try with_reducible rfl))
              (try simp only [Act.put, List.setIfInBounds_toArray, List.set_cons_zero, List.set_cons_succ, List.getElem_toArray, List.getElem_cons_zero, List.getElem_cons_succ])
              refine wpAnyH_take (i := 4) (oi := _) (v := ?vpt4) rfl (by kernel_rfl) (by kernel_rfl) (by kernel_rfl) (fun _ _ _ h => h) (Or.inl ⟨by rfl, ?hypt4⟩) (by assumption) ?restpt4
              case hypt4 => (intro w hSw; (try dsimp only at hSw); (try simp only [List.getElem_toArray, List.getElem_cons_zero, List.getElem_cons_succ]); go_simp; (try with_reducible rfl))
              (try simp only [Act.put, List.setIfInBounds_toArray, List.set_cons_zero, List.set_cons_succ, List.getElem_toArray, List.getElem_cons_zero, List.getElem_cons_succ])
              refine wpAnyH_take (i := 5) (oi := _) (v := ?vpt5) rfl (by kernel_rfl) (by kernel_rfl) (by kernel_rfl) (fun _ _ _ h => h) (Or.inl ⟨by rfl, ?hypt5⟩) (by assumption) ?restpt5
              case hypt5 => (intro w hSw; (try dsimp only at hSw); (try simp only [List.getElem_toArray, List.getElem_cons_zero, List.getElem_cons_succ]); go_simp; (try with_reducible rfl))
              (try simp only [Act.put, List.setIfInBounds_toArray, List.set_cons_zero, List.set_cons_succ, List.getElem_toArray, List.getElem_cons_zero, List.getElem_cons_succ])
              refine wpAnyH_take (i := 6) (oi := _) (v := ?vpt6) rfl (by kernel_rfl) (by kernel_rfl) (by kernel_rfl) (fun _ _ _ h => h) (Or.inl ⟨by rfl, ?hypt6⟩) (by assumption) ?restpt6
              case hypt6 => (intro w hSw; (try dsimp only at hSw); (try simp only [List.getElem_toArray, List.getElem_cons_zero, List.getElem_cons_succ]); go_simp; (try with_reducible rfl))
              (try simp only [Act.put, List.setIfInBounds_toArray, List.set_cons_zero, List.set_cons_succ, List.getElem_toArray, List.getElem_cons_zero, List.getElem_cons_succ])
              refine wpAnyH_ready (rs := [3]) (by kernel_rfl) (by simp) ?_
              refine AllReadyH.cons (o := _) rfl (fun K hK => ?_) AllReadyH.nil
              (try simp only [List.getElem_toArray, List.getElem_cons_zero, List.getElem_cons_succ])
              go_simp
              go_at_call 15; refine (pair_take HQ.out.drew o.k o.c o.o o.s HOB.out.1 HOB.out.2 (by omega) (by omega)).mono ?_; rintro e w5 ⟨rfl, r1, r2, r3⟩; have H5 := Lib.hid r1; have B5 : Hid (Below w.heap.size w w5) := Lib.hid (HW1.out.drew.trans r2); have C5 : Hid (Cells w5 g (opCells o)) := Lib.hid ((show Cells W1.drew g (opCells o) from HC1.out).keep r3 HNE.out.2); clear r1 r2 r3
              refine hK.out _ _ ?_ (fun hHeld => ?_)
              · exact ⟨(C5.out 0 _ rfl).1, (C5.out 1 _ rfl).1, (C5.out 2 _ rfl).1, (C5.out 3 _ rfl).1⟩
              clear hK K
              (try simp only [Act.put, List.setIfInBounds_toArray, List.set_cons_zero, List.set_cons_succ, List.getElem_toArray, List.getElem_cons_zero, List.getElem_cons_succ])
              refine wpAnyH_ready (rs := [7]) (by kernel_rfl) (by simp) ?_
              refine AllReadyH.cons (o := _) rfl (fun K hK => ?_) AllReadyH.nil
              (try simp only [List.getElem_toArray, List.getElem_cons_zero, List.getElem_cons_succ])
              go_simp
              go_at_call 16; refine (half_take o.k o.c o.o o.s H5.out (by omega)).mono ?_; rintro e w6 ⟨rfl, r1, r2, r3⟩; have H6 := Lib.hid r1; have B6 : Hid (Below w.heap.size w w6) := Lib.hid (B5.out.trans r2); have C6 : Hid (Cells w6 g (opCells o)) := Lib.hid (C5.out.keep r3 HNE.out.1); clear r1 r2 r3
              refine hK.out _ _ ?_ (fun hHeld => ?_)
              · exact ⟨(C6.out 0 _ rfl).1, (C6.out 1 _ rfl).1, (C6.out 2 _ rfl).1, (C6.out 3 _ rfl).1⟩
              clear hK K
              (try simp only [Act.put, List.setIfInBounds_toArray, List.set_cons_zero, List.set_cons_succ, List.getElem_toArray, List.getElem_cons_zero, List.getElem_cons_succ])
              refine wpAnyH_take (i := 8) (oi := _) (v := ?vpt8) rfl (by kernel_rfl) (by kernel_rfl) (by kernel_rfl) (fun _ _ _ h => h) (Or.inl ⟨by rfl, ?hypt8⟩) (by assumption) ?restpt8
              case hypt8 => (intro w hSw; (try dsimp only at hSw); (try simp only [List.getElem_toArray, List.getElem_cons_zero, List.getElem_cons_succ]); go_simp; (try with_reducible rfl))
              (try simp only [Act.put, List.setIfInBounds_toArray, List.set_cons_zero, List.set_cons_succ, List.getElem_toArray, List.getElem_cons_zero, List.getElem_cons_succ])
              refine wpAnyH_take (i := 9) (oi := _) (v := ?vpt9) rfl (by kernel_rfl) (by kernel_rfl) (by kernel_rfl) (fun _ _ _ h => h) (Or.inl ⟨by rfl, ?hypt9⟩) (by assumption) ?restpt9
              case hypt9 => (intro w hSw; (try dsimp only at hSw); (try simp only [List.getElem_toArray, List.getElem_cons_zero, List.getElem_cons_succ]); go_simp; (try with_reducible rfl))
              (try simp only [Act.put, List.setIfInBounds_toArray, List.set_cons_zero, List.set_cons_succ, List.getElem_toArray, List.getElem_cons_zero, List.getElem_cons_succ])
              refine wpAnyH_done (by kernel_rfl) ?_ _
              refine NoPanic.normal ?_
              have y0 := (C6.out 0 _ rfl).1
              clear x0 x4 x5
              have HFT := Lib.hid (few_take HF.out o.k o.c o.o)
              have HGT := Lib.hid (m.take_sent o.k o.c o.o).2.1
              by_cases hk2 : o.k = 2
              · have z0 : (o.k == 2) = true := by simp [hk2]
                have hk3 : o.k = 2 := hk2
                have HF2 : Hid (Few (m.take o.k o.c o.o) (c + 1)) := Lib.hid (by have q := HFT.out; rw [if_pos hk3] at q; exact q)
                clear hk2 hk3 HFT
                go_wp2_with fail
                go_meet
                exact ⟨c + 1, _, by go_num, rfl, rfl, by omega, Lib.hid ⟨_, H6.out, HF2.out, by have := HGT.out; omega⟩, C6, B6⟩
              · have z0 : (o.k == 2) = false := by simpa using hk2
                have hk3 : ¬ o.k = 2 := hk2
                have HF2 : Hid (Few (m.take o.k o.c o.o) c) := Lib.hid (by have q := HFT.out; rw [if_neg hk3] at q; exact q)
                clear hk2 hk3 HFT
                go_wp2_with fail
                go_meet
                exact ⟨c, _, rfl, rfl, rfl, by omega, Lib.hid ⟨_, H6.out, HF2.out, by have := HGT.out; omega⟩, C6, B6⟩
          · as_aux_lemma =>
              go_wp2_with fail
              refine (pair_start HQ.out (by omega) (by omega)).mono ?_
              rintro e w5 ⟨rfl, r1, r2, r3⟩
              have H5 := Lib.hid r1
              have B5 : Hid (Below w.heap.size w w5) := Lib.hid (HW1.out.trans r2)
              have C5 : Hid (Cells w5 g (opCells o)) := Lib.hid (HC1.out.keep r3 HNE.out.2)
              clear r1 r2 r3
              go_wp2_with fail
              refine (half_start H5.out (by omega)).mono ?_
              rintro e w6 ⟨rfl, r1, r2, r3⟩
              have H6 := Lib.hid r1
              have B6 : Hid (Below w.heap.size w w6) := Lib.hid (B5.out.trans r2)
              have C6 : Hid (Cells w6 g (opCells o)) := Lib.hid (C5.out.keep r3 HNE.out.1)
              have HFS := Lib.hid (few_start HF.out)
              clear r1 r2 r3
              go_wp2_with fail
              go_meet
              exact ⟨c, _, rfl, rfl, rfl, by omega, Lib.hid ⟨_, H6.out, HFS.out.1, by have := HFS.out.2; omega⟩, C6, B6⟩
        · as_aux_lemma =>
            have hpz := HQ.out.rf.lt
            go_upto_region 19 with fail
            refine wp_region_noPanic ?_
            refine wp_region_held_drew (S := fun W => W.cell? ⟨g, 6, none⟩ = some (.int .i64 o.w) ∧ W.cell? ⟨g, 7, none⟩ = some (.int .i64 o.h)) (by kernel_rfl) ⟨(HC1.out 6 _ rfl).1, (HC1.out 7 _ rfl).1⟩ (fun hHeld => ?_)
            refine wpAnyH_take (i := 0) (oi := _) (v := ?vps0) rfl (by kernel_rfl) (by kernel_rfl) (by kernel_rfl) (fun _ _ _ h => h) (Or.inl ⟨by rfl, ?hyps0⟩) (by assumption) ?restps0
            case hyps0 => (intro w hSw; (try dsimp only at hSw); (try simp only [List.getElem_toArray, List.getElem_cons_zero, List.getElem_cons_succ]); go_simp; (try with_reducible rfl))
            (try simp only [Act.put, List.setIfInBounds_toArray, List.set_cons_zero, List.set_cons_succ, List.getElem_toArray, List.getElem_cons_zero, List.getElem_cons_succ])
            refine wpAnyH_take (i := 1) (oi := _) (v := ?vps1) rfl (by kernel_rfl) (by kernel_rfl) (by kernel_rfl) (fun _ _ _ h => h) (Or.inl ⟨by rfl, ?hyps1⟩) (by assumption) ?restps1
            case hyps1 => (intro w hSw; (try dsimp only at hSw); (try simp only [List.getElem_toArray, List.getElem_cons_zero, List.getElem_cons_succ]); go_simp; (try with_reducible rfl))
            (try simp only [Act.put, List.setIfInBounds_toArray, List.set_cons_zero, List.set_cons_succ, List.getElem_toArray, List.getElem_cons_zero, List.getElem_cons_succ])
            refine wpAnyH_take (i := 2) (oi := _) (v := ?vps2) rfl (by kernel_rfl) (by kernel_rfl) (by kernel_rfl) (fun _ _ _ h => h) (Or.inl ⟨by rfl, ?hyps2⟩) (by assumption) ?restps2
            case hyps2 => (intro w hSw; (try dsimp only at hSw); (try simp only [List.getElem_toArray, List.getElem_cons_zero, List.getElem_cons_succ]); go_simp; (try with_reducible rfl))
            (try simp only [Act.put, List.setIfInBounds_toArray, List.set_cons_zero, List.set_cons_succ, List.getElem_toArray, List.getElem_cons_zero, List.getElem_cons_succ])
            refine wpAnyH_take (i := 3) (oi := _) (v := ?vps3) rfl (by kernel_rfl) (by kernel_rfl) (by kernel_rfl) (fun _ _ _ h => h) (Or.inl ⟨by rfl, ?hyps3⟩) (by assumption) ?restps3
            case hyps3 => (intro w hSw; (try dsimp only at hSw); (try simp only [List.getElem_toArray, List.getElem_cons_zero, List.getElem_cons_succ]); go_simp; (try with_reducible rfl))
            (try simp only [Act.put, List.setIfInBounds_toArray, List.set_cons_zero, List.set_cons_succ, List.getElem_toArray, List.getElem_cons_zero, List.getElem_cons_succ])
            refine wpAnyH_take (i := 4) (oi := _) (v := ?vps4) rfl (by kernel_rfl) (by kernel_rfl) (by kernel_rfl) (fun _ _ _ h => h) (Or.inl ⟨by rfl, ?hyps4⟩) (by assumption) ?restps4
            case hyps4 => (intro w hSw; (try dsimp only at hSw); (try simp only [List.getElem_toArray, List.getElem_cons_zero, List.getElem_cons_succ]); go_simp; (try with_reducible rfl))
            (try simp only [Act.put, List.setIfInBounds_toArray, List.set_cons_zero, List.set_cons_succ, List.getElem_toArray, List.getElem_cons_zero, List.getElem_cons_succ])
            refine wpAnyH_take (i := 6) (oi := _) (v := ?vps6) rfl (by kernel_rfl) (by kernel_rfl) (by kernel_rfl) (fun _ _ _ h => h) (Or.inl ⟨by rfl, ?hyps6⟩) (by assumption) ?restps6
            case hyps6 => (intro w hSw; (try dsimp only at hSw); (try simp only [List.getElem_toArray, List.getElem_cons_zero, List.getElem_cons_succ]); go_simp; (try with_reducible rfl))
            (try simp only [Act.put, List.setIfInBounds_toArray, List.set_cons_zero, List.set_cons_succ, List.getElem_toArray, List.getElem_cons_zero, List.getElem_cons_succ])
            refine wpAnyH_take (i := 7) (oi := _) (v := ?vps7) rfl (by kernel_rfl) (by kernel_rfl) (by kernel_rfl) (fun _ _ _ h => h) (Or.inl ⟨by rfl, ?hyps7⟩) (by assumption) ?restps7
            case hyps7 => (intro w hSw; (try dsimp only at hSw); (try simp only [List.getElem_toArray, List.getElem_cons_zero, List.getElem_cons_succ]); go_simp; (try with_reducible rfl))
            (try simp only [Act.put, List.setIfInBounds_toArray, List.set_cons_zero, List.set_cons_succ, List.getElem_toArray, List.getElem_cons_zero, List.getElem_cons_succ])
            refine wpAnyH_take (i := 8) (oi := _) (v := ?vps8) rfl (by kernel_rfl) (by kernel_rfl) (by kernel_rfl) (fun _ _ _ h => h) (Or.inl ⟨by rfl, ?hyps8⟩) (by assumption) ?restps8
            case hyps8 => (intro w hSw; (try dsimp only at hSw); (try simp only [List.getElem_toArray, List.getElem_cons_zero, List.getElem_cons_succ]); go_simp; (try with_reducible rfl))
            (try simp only [Act.put, List.setIfInBounds_toArray, List.set_cons_zero, List.set_cons_succ, List.getElem_toArray, List.getElem_cons_zero, List.getElem_cons_succ])
            refine wpAnyH_take (i := 9) (oi := _) (v := ?vps9) rfl (by kernel_rfl) (by kernel_rfl) (by kernel_rfl) (fun _ _ _ h => h) (Or.inl ⟨by rfl, ?hyps9⟩) (by assumption) ?restps9
            case hyps9 => (intro w hSw; (try dsimp only at hSw); (try simp only [List.getElem_toArray, List.getElem_cons_zero, List.getElem_cons_succ]); go_simp; (try with_reducible rfl))
            (try simp only [Act.put, List.setIfInBounds_toArray, List.set_cons_zero, List.set_cons_succ, List.getElem_toArray, List.getElem_cons_zero, List.getElem_cons_succ])
            refine wpAnyH_take (i := 10) (oi := _) (v := ?vps10) rfl (by kernel_rfl) (by kernel_rfl) (by kernel_rfl) (fun _ _ _ h => h) (Or.inl ⟨by rfl, ?hyps10⟩) (by assumption) ?restps10
            case hyps10 => (intro w hSw; (try dsimp only at hSw); (try simp only [List.getElem_toArray, List.getElem_cons_zero, List.getElem_cons_succ]); go_simp; (try with_reducible rfl))
            (try simp only [Act.put, List.setIfInBounds_toArray, List.set_cons_zero, List.set_cons_succ, List.getElem_toArray, List.getElem_cons_zero, List.getElem_cons_succ])
            refine wpAnyH_ready (rs := [5]) (by kernel_rfl) (by simp) ?_
            refine AllReadyH.cons (o := _) rfl (fun K hK => ?_) AllReadyH.nil
            (try simp only [List.getElem_toArray, List.getElem_cons_zero, List.getElem_cons_succ])
            go_simp
            go_at_call 11; refine (pair_size HQ.out.drew o.w o.h).mono ?_; rintro e w5 ⟨rfl, r1, r2, r3⟩; have H5 := Lib.hid r1; have B5 : Hid (Below w.heap.size w w5) := Lib.hid (HW1.out.drew.trans r2); have C5 : Hid (Cells w5 g (opCells o)) := Lib.hid ((show Cells W1.drew g (opCells o) from HC1.out).keep r3 HNE.out.2); clear r1 r2 r3
            refine hK.out _ _ ?_ (fun hHeld => ?_)
            · exact ⟨(C5.out 6 _ rfl).1, (C5.out 7 _ rfl).1⟩
            clear hK K
            (try simp only [Act.put, List.setIfInBounds_toArray, List.set_cons_zero, List.set_cons_succ, List.getElem_toArray, List.getElem_cons_zero, List.getElem_cons_succ])
            refine wpAnyH_ready (rs := [11]) (by kernel_rfl) (by simp) ?_
            refine AllReadyH.cons (o := _) rfl (fun K hK => ?_) AllReadyH.nil
            (try simp only [List.getElem_toArray, List.getElem_cons_zero, List.getElem_cons_succ])
            go_simp
            go_at_call 12; refine (half_size o.w o.h H5.out).mono ?_; rintro e w6 ⟨rfl, r1, r2, r3⟩; have H6 := Lib.hid r1; have B6 : Hid (Below w.heap.size w w6) := Lib.hid (B5.out.trans r2); have C6 : Hid (Cells w6 g (opCells o)) := Lib.hid (C5.out.keep r3 HNE.out.1); clear r1 r2 r3
            refine hK.out _ _ ?_ (fun hHeld => ?_)
            · exact ⟨(C6.out 6 _ rfl).1, (C6.out 7 _ rfl).1⟩
            clear hK K
            (try simp only [Act.put, List.setIfInBounds_toArray, List.set_cons_zero, List.set_cons_succ, List.getElem_toArray, List.getElem_cons_zero, List.getElem_cons_succ])
            refine wpAnyH_take (i := 12) (oi := _) (v := ?vps12) rfl (by kernel_rfl) (by kernel_rfl) (by kernel_rfl) (fun _ _ _ h => h) (Or.inl ⟨by rfl, ?hyps12⟩) (by assumption) ?restps12
            case hyps12 => (intro w hSw; (try dsimp only at hSw); (try simp only [List.getElem_toArray, List.getElem_cons_zero, List.getElem_cons_succ]); go_simp; (try with_reducible rfl))
            (try simp only [Act.put, List.setIfInBounds_toArray, List.set_cons_zero, List.set_cons_succ, List.getElem_toArray, List.getElem_cons_zero, List.getElem_cons_succ])
            refine wpAnyH_take (i := 13) (oi := _) (v := ?vps13) rfl (by kernel_rfl) (by kernel_rfl) (by kernel_rfl) (fun _ _ _ h => h) (Or.inl ⟨by rfl, ?hyps13⟩) (by assumption) ?restps13
            case hyps13 => (intro w hSw; (try dsimp only at hSw); (try simp only [List.getElem_toArray, List.getElem_cons_zero, List.getElem_cons_succ]); go_simp; (try with_reducible rfl))
            (try simp only [Act.put, List.setIfInBounds_toArray, List.set_cons_zero, List.set_cons_succ, List.getElem_toArray, List.getElem_cons_zero, List.getElem_cons_succ])
            refine wpAnyH_done (by kernel_rfl) ?_ _
            refine NoPanic.normal ?_
            go_wp2_with fail
            go_meet
            exact ⟨c, _, rfl, rfl, rfl, by omega, Lib.hid ⟨_, H6.out, few_size HF.out _ _, by rw [(m.size_sent o.w o.h).2.1]; omega⟩, C6, B6⟩
      case rest =>
        obtain ⟨c', T, rfl, rfl, rfl, hc', HM2, HC2, HB2⟩ := hcut
        clear HM1 HC1 HW1
        as_aux_lemma =>
          obtain ⟨m, q1, q2, q3⟩ := HM2.out
          have HQ := Lib.hid q1
          have hsent := few_le q2
          have HF := Lib.hid (And.intro q2 q3)
          clear q1 q2 HM2
          have HTO := Lib.hid (ptold p L _ _ 0 m wc HQ.out.pk.ac)
          obtain ⟨tw, htw⟩ : ∃ z, z = m.tw := ⟨_, rfl⟩
          obtain ⟨th, hth⟩ : ∃ z, z = m.th := ⟨_, rfl⟩
          obtain ⟨td, htd⟩ : ∃ z, z = m.told := ⟨_, rfl⟩
          obtain ⟨sn, hsn⟩ : ∃ z, z = m.sent := ⟨_, rfl⟩
          rw [← htw, ← hth, ← htd] at HTO
          rw [← hsn] at hsent
          go_wp2_with fail
          refine HTO.out.mono ?_
          rintro e w7 ⟨rfl, K, hK⟩
          have H7 : Hid (PairAt w.heap.size w7 p L N r m) := Lib.hid (by rw [hK]; exact HQ.out.drewN _)
          have C7 : Hid (Cells w7 g (opCells o)) := Lib.hid (by rw [hK]; exact HC2.out)
          have B7 : Hid (Below w.heap.size w w7) := Lib.hid (by rw [hK]; exact ⟨HB2.out.os, HB2.out.tape, HB2.out.output, HB2.out.size, HB2.out.block⟩)
          clear hK HQ HC2 HB2 HTO
          have HSN := Lib.hid (fun N' => psent p L _ _ 0 m (w7.drewN N') (H7.out.drewN N').pk.ac)
          rw [← hsn] at HSN
          have HS := Lib.hid (show w7.cell? ⟨r, 1027, none⟩ = some (.int .i64 (sn : Int)) ∧ w7.cell? ⟨r, 1028, none⟩ = some (.int .i64 (tw : Int)) ∧ w7.cell? ⟨r, 1029, none⟩ = some (.int .i64 (th : Int)) ∧ w7.cell? ⟨r, 1030, none⟩ = some (.bool td) by
            rw [hsn, htw, hth, htd]; exact ⟨H7.out.rf.n.1, H7.out.rf.tw.1, H7.out.rf.th.1, H7.out.rf.told.1⟩)
          clear htw hth htd hsn
          have u1 : IntKind.i64.wrap ((c' : Int) + 2) = (c' : Int) + 2 := by rw [IntWalk.i64_in _ (by omega)]
          have u2 : decide ((c' : Int) + 2 < (sn : Int)) = false := by simp; omega
          go_upto_region 23 with fail
          refine wp_region_noPanic ?_
          refine wp_region_held_drew (S := fun W => W.cell? ⟨r, 1027, none⟩ = some (.int .i64 (sn : Int)) ∧ W.cell? ⟨r, 1028, none⟩ = some (.int .i64 (tw : Int)) ∧ W.cell? ⟨r, 1029, none⟩ = some (.int .i64 (th : Int)) ∧ W.cell? ⟨r, 1030, none⟩ = some (.bool td)) (by kernel_rfl) (by exact HS.out) (fun hHeld => ?_)
          refine wpAnyH_take (i := 0) (oi := _) (v := ?vpc0) rfl (by kernel_rfl) (by kernel_rfl) (by kernel_rfl) (fun _ _ _ h => h) (Or.inl ⟨by rfl, ?hypc0⟩) (by assumption) ?restpc0
          case hypc0 => (intro w hSw; (try dsimp only at hSw); (try simp only [List.getElem_toArray, List.getElem_cons_zero, List.getElem_cons_succ]); go_simp; (try with_reducible rfl))
          (try simp only [Act.put, List.setIfInBounds_toArray, List.set_cons_zero, List.set_cons_succ, List.getElem_toArray, List.getElem_cons_zero, List.getElem_cons_succ])
          refine wpAnyH_take (i := 1) (oi := _) (v := ?vpc1) rfl (by kernel_rfl) (by kernel_rfl) (by kernel_rfl) (fun _ _ _ h => h) (Or.inl ⟨by rfl, ?hypc1⟩) (by assumption) ?restpc1
          case hypc1 => (intro w hSw; (try dsimp only at hSw); (try simp only [List.getElem_toArray, List.getElem_cons_zero, List.getElem_cons_succ]); go_simp; (try with_reducible rfl))
          (try simp only [Act.put, List.setIfInBounds_toArray, List.set_cons_zero, List.set_cons_succ, List.getElem_toArray, List.getElem_cons_zero, List.getElem_cons_succ])
          refine wpAnyH_take (i := 2) (oi := _) (v := ?vpc2) rfl (by kernel_rfl) (by kernel_rfl) (by kernel_rfl) (fun _ _ _ h => h) (Or.inl ⟨by rfl, ?hypc2⟩) (by assumption) ?restpc2
          case hypc2 => (intro w hSw; (try dsimp only at hSw); (try simp only [List.getElem_toArray, List.getElem_cons_zero, List.getElem_cons_succ]); go_simp; (try with_reducible rfl))
          (try simp only [Act.put, List.setIfInBounds_toArray, List.set_cons_zero, List.set_cons_succ, List.getElem_toArray, List.getElem_cons_zero, List.getElem_cons_succ])
          refine wpAnyH_take (i := 3) (oi := _) (v := ?vpc3) rfl (by kernel_rfl) (by kernel_rfl) (by kernel_rfl) (fun _ _ _ h => h) (Or.inl ⟨by rfl, ?hypc3⟩) (by assumption) ?restpc3
          case hypc3 => (intro w hSw; (try dsimp only at hSw); (try simp only [List.getElem_toArray, List.getElem_cons_zero, List.getElem_cons_succ]); go_simp; (try with_reducible rfl))
          (try simp only [Act.put, List.setIfInBounds_toArray, List.set_cons_zero, List.set_cons_succ, List.getElem_toArray, List.getElem_cons_zero, List.getElem_cons_succ])
          refine wpAnyH_take (i := 4) (oi := _) (v := ?vpc4) rfl (by kernel_rfl) (by kernel_rfl) (by kernel_rfl) (fun _ _ _ h => h) (Or.inl ⟨by rfl, ?hypc4⟩) (by assumption) ?restpc4
          case hypc4 => (intro w hSw; (try dsimp only at hSw); (try simp only [List.getElem_toArray, List.getElem_cons_zero, List.getElem_cons_succ]); go_simp; (try with_reducible rfl))
          (try simp only [Act.put, List.setIfInBounds_toArray, List.set_cons_zero, List.set_cons_succ, List.getElem_toArray, List.getElem_cons_zero, List.getElem_cons_succ])
          refine wpAnyH_take (i := 6) (oi := _) (v := ?vpc6) rfl (by kernel_rfl) (by kernel_rfl) (by kernel_rfl) (fun _ _ _ h => h) (Or.inl ⟨by rfl, ?hypc6⟩) (by assumption) ?restpc6
          case hypc6 => (intro w hSw; (try dsimp only at hSw); (try simp only [List.getElem_toArray, List.getElem_cons_zero, List.getElem_cons_succ]); go_simp; (try with_reducible rfl))
          (try simp only [Act.put, List.setIfInBounds_toArray, List.set_cons_zero, List.set_cons_succ, List.getElem_toArray, List.getElem_cons_zero, List.getElem_cons_succ])
          refine wpAnyH_take (i := 7) (oi := _) (v := ?vpc7) rfl (by kernel_rfl) (by kernel_rfl) (by kernel_rfl) (fun _ _ _ h => h) (Or.inl ⟨by rfl, ?hypc7⟩) (by assumption) ?restpc7
          case hypc7 => (intro w hSw; (try dsimp only at hSw); (try simp only [List.getElem_toArray, List.getElem_cons_zero, List.getElem_cons_succ]); go_simp; (try with_reducible rfl))
          (try simp only [Act.put, List.setIfInBounds_toArray, List.set_cons_zero, List.set_cons_succ, List.getElem_toArray, List.getElem_cons_zero, List.getElem_cons_succ])
          refine wpAnyH_take (i := 8) (oi := _) (v := ?vpc8) rfl (by kernel_rfl) (by kernel_rfl) (by kernel_rfl) (fun _ _ _ h => h) (Or.inl ⟨by rfl, ?hypc8⟩) (by assumption) ?restpc8
          case hypc8 => (intro w hSw; (try dsimp only at hSw); (try simp only [List.getElem_toArray, List.getElem_cons_zero, List.getElem_cons_succ]); go_simp; (try with_reducible rfl))
          (try simp only [Act.put, List.setIfInBounds_toArray, List.set_cons_zero, List.set_cons_succ, List.getElem_toArray, List.getElem_cons_zero, List.getElem_cons_succ])
          refine wpAnyH_take (i := 9) (oi := _) (v := ?vpc9) rfl (by kernel_rfl) (by kernel_rfl) (by kernel_rfl) (fun _ _ _ h => h) (Or.inl ⟨by rfl, ?hypc9⟩) (by assumption) ?restpc9
          case hypc9 => (intro w hSw; (try dsimp only at hSw); (try simp only [List.getElem_toArray, List.getElem_cons_zero, List.getElem_cons_succ]); go_simp; (try with_reducible rfl))
          (try simp only [Act.put, List.setIfInBounds_toArray, List.set_cons_zero, List.set_cons_succ, List.getElem_toArray, List.getElem_cons_zero, List.getElem_cons_succ])
          refine wpAnyH_ready (rs := [5]) (by kernel_rfl) (by simp) ?_
          refine AllReadyH.cons (o := _) rfl (fun K hK => ?_) AllReadyH.nil
          (try simp only [List.getElem_toArray, List.getElem_cons_zero, List.getElem_cons_succ])
          go_simp
          go_at_call 18; refine (HSN.out 1).mono ?_; rintro e w8 ⟨rfl, rfl⟩
          refine hK.out _ _ ?_ (fun hHeld => ?_)
          · exact HS.out
          clear hK K
          (try simp only [Act.put, List.setIfInBounds_toArray, List.set_cons_zero, List.set_cons_succ, List.getElem_toArray, List.getElem_cons_zero, List.getElem_cons_succ])
          refine wpAnyH_take (i := 10) (oi := _) (v := ?vpc10) rfl (by kernel_rfl) (by kernel_rfl) (by kernel_rfl) (fun _ _ _ h => h) (Or.inl ⟨by rfl, ?hypc10⟩) (by assumption) ?restpc10
          case hypc10 => (intro w hSw; (try dsimp only at hSw); (try simp only [List.getElem_toArray, List.getElem_cons_zero, List.getElem_cons_succ]); go_simp; (try with_reducible rfl))
          (try simp only [Act.put, List.setIfInBounds_toArray, List.set_cons_zero, List.set_cons_succ, List.getElem_toArray, List.getElem_cons_zero, List.getElem_cons_succ])
          refine wpAnyH_take (i := 11) (oi := _) (v := ?vpc11) rfl (by kernel_rfl) (by kernel_rfl) (by kernel_rfl) (fun _ _ _ h => h) (Or.inl ⟨by rfl, ?hypc11⟩) (by assumption) ?restpc11
          case hypc11 => (intro w hSw; (try dsimp only at hSw); (try simp only [List.getElem_toArray, List.getElem_cons_zero, List.getElem_cons_succ]); go_simp; (try with_reducible rfl))
          (try simp only [Act.put, List.setIfInBounds_toArray, List.set_cons_zero, List.set_cons_succ, List.getElem_toArray, List.getElem_cons_zero, List.getElem_cons_succ])
          refine wpAnyH_take (i := 12) (oi := _) (v := ?vpc12) rfl (by kernel_rfl) (by kernel_rfl) (by kernel_rfl) (fun _ _ _ h => h) (Or.inl ⟨by rfl, ?hypc12⟩) (by assumption) ?restpc12
          case hypc12 => (intro w hSw; (try dsimp only at hSw); (try simp only [List.getElem_toArray, List.getElem_cons_zero, List.getElem_cons_succ]); go_simp; (try with_reducible rfl))
          (try simp only [Act.put, List.setIfInBounds_toArray, List.set_cons_zero, List.set_cons_succ, List.getElem_toArray, List.getElem_cons_zero, List.getElem_cons_succ])
          refine wpAnyH_take (i := 13) (oi := _) (v := ?vpc13) rfl (by kernel_rfl) (by kernel_rfl) (by kernel_rfl) (fun _ _ _ h => h) (Or.inl ⟨by rfl, ?hypc13⟩) (by assumption) ?restpc13
          case hypc13 => (intro w hSw; (try dsimp only at hSw); (try simp only [List.getElem_toArray, List.getElem_cons_zero, List.getElem_cons_succ]); go_simp; (try with_reducible rfl))
          (try simp only [Act.put, List.setIfInBounds_toArray, List.set_cons_zero, List.set_cons_succ, List.getElem_toArray, List.getElem_cons_zero, List.getElem_cons_succ])
          refine wpAnyH_take (i := 15) (oi := _) (v := ?vpc15) rfl (by kernel_rfl) (by kernel_rfl) (by kernel_rfl) (fun _ _ _ h => h) (Or.inl ⟨by rfl, ?hypc15⟩) (by assumption) ?restpc15
          case hypc15 => (intro w hSw; (try dsimp only at hSw); (try simp only [List.getElem_toArray, List.getElem_cons_zero, List.getElem_cons_succ]); go_simp; (try with_reducible rfl))
          (try simp only [Act.put, List.setIfInBounds_toArray, List.set_cons_zero, List.set_cons_succ, List.getElem_toArray, List.getElem_cons_zero, List.getElem_cons_succ])
          refine wpAnyH_take (i := 16) (oi := _) (v := ?vpc16) rfl (by kernel_rfl) (by kernel_rfl) (by kernel_rfl) (fun _ _ _ h => h) (Or.inl ⟨by rfl, ?hypc16⟩) (by assumption) ?restpc16
          case hypc16 => (intro w hSw; (try dsimp only at hSw); (try simp only [List.getElem_toArray, List.getElem_cons_zero, List.getElem_cons_succ]); go_simp; (try with_reducible rfl))
          (try simp only [Act.put, List.setIfInBounds_toArray, List.set_cons_zero, List.set_cons_succ, List.getElem_toArray, List.getElem_cons_zero, List.getElem_cons_succ])
          refine wpAnyH_ready (rs := [14]) (by kernel_rfl) (by simp) ?_
          refine AllReadyH.cons (o := _) rfl (fun K hK => ?_) AllReadyH.nil
          (try simp only [List.getElem_toArray, List.getElem_cons_zero, List.getElem_cons_succ])
          go_simp
          go_at_call 18; refine (HSN.out 1).mono ?_; rintro e w8 ⟨rfl, rfl⟩
          refine hK.out _ _ ?_ (fun hHeld => ?_)
          · exact HS.out
          clear hK K
          (try simp only [Act.put, List.setIfInBounds_toArray, List.set_cons_zero, List.set_cons_succ, List.getElem_toArray, List.getElem_cons_zero, List.getElem_cons_succ])
          refine wpAnyH_take (i := 17) (oi := _) (v := ?vpc17) rfl (by kernel_rfl) (by kernel_rfl) (by kernel_rfl) (fun _ _ _ h => h) (Or.inl ⟨by rfl, ?hypc17⟩) (by assumption) ?restpc17
          case hypc17 => (intro w hSw; (try dsimp only at hSw); (try simp only [List.getElem_toArray, List.getElem_cons_zero, List.getElem_cons_succ]); go_simp; (try with_reducible rfl))
          (try simp only [Act.put, List.setIfInBounds_toArray, List.set_cons_zero, List.set_cons_succ, List.getElem_toArray, List.getElem_cons_zero, List.getElem_cons_succ])
          refine wpAnyH_take (i := 18) (oi := _) (v := ?vpc18) rfl (by kernel_rfl) (by kernel_rfl) (by kernel_rfl) (fun _ _ _ h => h) (Or.inl ⟨by rfl, ?hypc18⟩) (by assumption) ?restpc18
          case hypc18 => (intro w hSw; (try dsimp only at hSw); (try simp only [List.getElem_toArray, List.getElem_cons_zero, List.getElem_cons_succ]); go_simp; (try with_reducible rfl))
          (try simp only [Act.put, List.setIfInBounds_toArray, List.set_cons_zero, List.set_cons_succ, List.getElem_toArray, List.getElem_cons_zero, List.getElem_cons_succ])
          refine wpAnyH_take (i := 19) (oi := _) (v := ?vpc19) rfl (by kernel_rfl) (by kernel_rfl) (by kernel_rfl) (fun _ _ _ h => h) (Or.inl ⟨by rfl, ?hypc19⟩) (by assumption) ?restpc19
          case hypc19 => (intro w hSw; (try dsimp only at hSw); (try simp only [List.getElem_toArray, List.getElem_cons_zero, List.getElem_cons_succ]); go_simp; (try with_reducible rfl))
          (try simp only [Act.put, List.setIfInBounds_toArray, List.set_cons_zero, List.set_cons_succ, List.getElem_toArray, List.getElem_cons_zero, List.getElem_cons_succ])
          refine wpAnyH_take (i := 20) (oi := _) (v := ?vpc20) rfl (by kernel_rfl) (by kernel_rfl) (by kernel_rfl) (fun _ _ _ h => h) (Or.inl ⟨by rfl, ?hypc20⟩) (by assumption) ?restpc20
          case hypc20 => (intro w hSw; (try dsimp only at hSw); (try simp only [List.getElem_toArray, List.getElem_cons_zero, List.getElem_cons_succ]); go_simp; (try with_reducible rfl))
          (try simp only [Act.put, List.setIfInBounds_toArray, List.set_cons_zero, List.set_cons_succ, List.getElem_toArray, List.getElem_cons_zero, List.getElem_cons_succ])
          refine wpAnyH_take (i := 21) (oi := _) (v := ?vpc21) rfl (by kernel_rfl) (by kernel_rfl) (by kernel_rfl) (fun _ _ _ h => h) (Or.inl ⟨by rfl, ?hypc21⟩) (by assumption) ?restpc21
          case hypc21 => (intro w hSw; (try dsimp only at hSw); (try simp only [List.getElem_toArray, List.getElem_cons_zero, List.getElem_cons_succ]); go_simp; (try with_reducible rfl))
          (try simp only [Act.put, List.setIfInBounds_toArray, List.set_cons_zero, List.set_cons_succ, List.getElem_toArray, List.getElem_cons_zero, List.getElem_cons_succ])
          refine wpAnyH_take (i := 22) (oi := _) (v := ?vpc22) rfl (by kernel_rfl) (by kernel_rfl) (by kernel_rfl) (fun _ _ _ h => h) (Or.inl ⟨by rfl, ?hypc22⟩) (by assumption) ?restpc22
          case hypc22 => (intro w hSw; (try dsimp only at hSw); (try simp only [List.getElem_toArray, List.getElem_cons_zero, List.getElem_cons_succ]); go_simp; (try with_reducible rfl))
          (try simp only [Act.put, List.setIfInBounds_toArray, List.set_cons_zero, List.set_cons_succ, List.getElem_toArray, List.getElem_cons_zero, List.getElem_cons_succ])
          refine wpAnyH_take (i := 23) (oi := _) (v := ?vpc23) rfl (by kernel_rfl) (by kernel_rfl) (by kernel_rfl) (fun _ _ _ h => h) (Or.inl ⟨by rfl, ?hypc23⟩) (by assumption) ?restpc23
          case hypc23 => (intro w hSw; (try dsimp only at hSw); (try simp only [List.getElem_toArray, List.getElem_cons_zero, List.getElem_cons_succ]); go_simp; (try with_reducible rfl))
          (try simp only [Act.put, List.setIfInBounds_toArray, List.set_cons_zero, List.set_cons_succ, List.getElem_toArray, List.getElem_cons_zero, List.getElem_cons_succ])
          refine wpAnyH_take (i := 24) (oi := _) (v := ?vpc24) rfl (by kernel_rfl) (by kernel_rfl) (by kernel_rfl) (fun _ _ _ h => h) (Or.inl ⟨by rfl, ?hypc24⟩) (by assumption) ?restpc24
          case hypc24 => (intro w hSw; (try dsimp only at hSw); (try simp only [List.getElem_toArray, List.getElem_cons_zero, List.getElem_cons_succ]); go_simp; (try with_reducible rfl))
          (try simp only [Act.put, List.setIfInBounds_toArray, List.set_cons_zero, List.set_cons_succ, List.getElem_toArray, List.getElem_cons_zero, List.getElem_cons_succ])
          refine wpAnyH_take (i := 25) (oi := _) (v := ?vpc25) rfl (by kernel_rfl) (by kernel_rfl) (by kernel_rfl) (fun _ _ _ h => h) (Or.inl ⟨by rfl, ?hypc25⟩) (by assumption) ?restpc25
          case hypc25 => (intro w hSw; (try dsimp only at hSw); (try simp only [List.getElem_toArray, List.getElem_cons_zero, List.getElem_cons_succ]); go_simp; (try with_reducible rfl))
          (try simp only [Act.put, List.setIfInBounds_toArray, List.set_cons_zero, List.set_cons_succ, List.getElem_toArray, List.getElem_cons_zero, List.getElem_cons_succ])
          refine wpAnyH_take (i := 26) (oi := _) (v := ?vpc26) rfl (by kernel_rfl) (by kernel_rfl) (by kernel_rfl) (fun _ _ _ h => h) (Or.inl ⟨by rfl, ?hypc26⟩) (by assumption) ?restpc26
          case hypc26 => (intro w hSw; (try dsimp only at hSw); (try simp only [List.getElem_toArray, List.getElem_cons_zero, List.getElem_cons_succ]); go_simp; (try with_reducible rfl))
          (try simp only [Act.put, List.setIfInBounds_toArray, List.set_cons_zero, List.set_cons_succ, List.getElem_toArray, List.getElem_cons_zero, List.getElem_cons_succ])
          refine wpAnyH_take (i := 27) (oi := _) (v := ?vpc27) rfl (by kernel_rfl) (by kernel_rfl) (by kernel_rfl) (fun _ _ _ h => h) (Or.inl ⟨by rfl, ?hypc27⟩) (by assumption) ?restpc27
          case hypc27 => (intro w hSw; (try dsimp only at hSw); (try simp only [List.getElem_toArray, List.getElem_cons_zero, List.getElem_cons_succ]); go_simp; (try with_reducible rfl))
          (try simp only [Act.put, List.setIfInBounds_toArray, List.set_cons_zero, List.set_cons_succ, List.getElem_toArray, List.getElem_cons_zero, List.getElem_cons_succ])
          refine wpAnyH_take (i := 28) (oi := _) (v := ?vpc28) rfl (by kernel_rfl) (by kernel_rfl) (by kernel_rfl) (fun _ _ _ h => h) (Or.inl ⟨by rfl, ?hypc28⟩) (by assumption) ?restpc28
          case hypc28 => (intro w hSw; (try dsimp only at hSw); (try simp only [List.getElem_toArray, List.getElem_cons_zero, List.getElem_cons_succ]); go_simp; (try with_reducible rfl))
          (try simp only [Act.put, List.setIfInBounds_toArray, List.set_cons_zero, List.set_cons_succ, List.getElem_toArray, List.getElem_cons_zero, List.getElem_cons_succ])
          refine wpAnyH_take (i := 29) (oi := _) (v := ?vpc29) rfl (by kernel_rfl) (by kernel_rfl) (by kernel_rfl) (fun _ _ _ h => h) (Or.inl ⟨by rfl, ?hypc29⟩) (by assumption) ?restpc29
          case hypc29 => (intro w hSw; (try dsimp only at hSw); (try simp only [List.getElem_toArray, List.getElem_cons_zero, List.getElem_cons_succ]); go_simp; (try with_reducible rfl))
          (try simp only [Act.put, List.setIfInBounds_toArray, List.set_cons_zero, List.set_cons_succ, List.getElem_toArray, List.getElem_cons_zero, List.getElem_cons_succ])
          refine wpAnyH_take (i := 30) (oi := _) (v := ?vpc30) rfl (by kernel_rfl) (by kernel_rfl) (by kernel_rfl) (fun _ _ _ h => h) (Or.inl ⟨by rfl, ?hypc30⟩) (by assumption) ?restpc30
          case hypc30 => (intro w hSw; (try dsimp only at hSw); (try simp only [List.getElem_toArray, List.getElem_cons_zero, List.getElem_cons_succ]); go_simp; (try with_reducible rfl))
          (try simp only [Act.put, List.setIfInBounds_toArray, List.set_cons_zero, List.set_cons_succ, List.getElem_toArray, List.getElem_cons_zero, List.getElem_cons_succ])
          refine wpAnyH_take (i := 31) (oi := _) (v := ?vpc31) rfl (by kernel_rfl) (by kernel_rfl) (by kernel_rfl) (fun _ _ _ h => h) (Or.inl ⟨by rfl, ?hypc31⟩) (by assumption) ?restpc31
          case hypc31 => (intro w hSw; (try dsimp only at hSw); (try simp only [List.getElem_toArray, List.getElem_cons_zero, List.getElem_cons_succ]); go_simp; (try with_reducible rfl))
          (try simp only [Act.put, List.setIfInBounds_toArray, List.set_cons_zero, List.set_cons_succ, List.getElem_toArray, List.getElem_cons_zero, List.getElem_cons_succ])
          refine wpAnyH_take (i := 32) (oi := _) (v := ?vpc32) rfl (by kernel_rfl) (by kernel_rfl) (by kernel_rfl) (fun _ _ _ h => h) (Or.inl ⟨by rfl, ?hypc32⟩) (by assumption) ?restpc32
          case hypc32 => (intro w hSw; (try dsimp only at hSw); (try simp only [List.getElem_toArray, List.getElem_cons_zero, List.getElem_cons_succ]); go_simp; (try with_reducible rfl))
          (try simp only [Act.put, List.setIfInBounds_toArray, List.set_cons_zero, List.set_cons_succ, List.getElem_toArray, List.getElem_cons_zero, List.getElem_cons_succ])
          refine wpAnyH_take (i := 33) (oi := _) (v := ?vpc33) rfl (by kernel_rfl) (by kernel_rfl) (by kernel_rfl) (fun _ _ _ h => h) (Or.inl ⟨by rfl, ?hypc33⟩) (by assumption) ?restpc33
          case hypc33 => (intro w hSw; (try dsimp only at hSw); (try simp only [List.getElem_toArray, List.getElem_cons_zero, List.getElem_cons_succ]); go_simp; (try with_reducible rfl))
          (try simp only [Act.put, List.setIfInBounds_toArray, List.set_cons_zero, List.set_cons_succ, List.getElem_toArray, List.getElem_cons_zero, List.getElem_cons_succ])
          refine wpAnyH_take (i := 34) (oi := _) (v := ?vpc34) rfl (by kernel_rfl) (by kernel_rfl) (by kernel_rfl) (fun _ _ _ h => h) (Or.inl ⟨by rfl, ?hypc34⟩) (by assumption) ?restpc34
          case hypc34 => (intro w hSw; (try dsimp only at hSw); (try simp only [List.getElem_toArray, List.getElem_cons_zero, List.getElem_cons_succ]); go_simp; (try with_reducible rfl))
          (try simp only [Act.put, List.setIfInBounds_toArray, List.set_cons_zero, List.set_cons_succ, List.getElem_toArray, List.getElem_cons_zero, List.getElem_cons_succ])
          refine wpAnyH_take (i := 35) (oi := _) (v := ?vpc35) rfl (by kernel_rfl) (by kernel_rfl) (by kernel_rfl) (fun _ _ _ h => h) (Or.inl ⟨by rfl, ?hypc35⟩) (by assumption) ?restpc35
          case hypc35 => (intro w hSw; (try dsimp only at hSw); (try simp only [List.getElem_toArray, List.getElem_cons_zero, List.getElem_cons_succ]); go_simp; (try with_reducible rfl))
          (try simp only [Act.put, List.setIfInBounds_toArray, List.set_cons_zero, List.set_cons_succ, List.getElem_toArray, List.getElem_cons_zero, List.getElem_cons_succ])
          refine wpAnyH_take (i := 36) (oi := _) (v := ?vpc36) rfl (by kernel_rfl) (by kernel_rfl) (by kernel_rfl) (fun _ _ _ h => h) (Or.inl ⟨by rfl, ?hypc36⟩) (by assumption) ?restpc36
          case hypc36 => (intro w hSw; (try dsimp only at hSw); (try simp only [List.getElem_toArray, List.getElem_cons_zero, List.getElem_cons_succ]); go_simp; (try with_reducible rfl))
          (try simp only [Act.put, List.setIfInBounds_toArray, List.set_cons_zero, List.set_cons_succ, List.getElem_toArray, List.getElem_cons_zero, List.getElem_cons_succ])
          refine wpAnyH_take (i := 37) (oi := _) (v := ?vpc37) rfl (by kernel_rfl) (by kernel_rfl) (by kernel_rfl) (fun _ _ _ h => h) (Or.inl ⟨by rfl, ?hypc37⟩) (by assumption) ?restpc37
          case hypc37 => (intro w hSw; (try dsimp only at hSw); (try simp only [List.getElem_toArray, List.getElem_cons_zero, List.getElem_cons_succ]); go_simp; (try with_reducible rfl))
          (try simp only [Act.put, List.setIfInBounds_toArray, List.set_cons_zero, List.set_cons_succ, List.getElem_toArray, List.getElem_cons_zero, List.getElem_cons_succ])
          refine wpAnyH_take (i := 38) (oi := _) (v := ?vpc38) rfl (by kernel_rfl) (by kernel_rfl) (by kernel_rfl) (fun _ _ _ h => h) (Or.inl ⟨by rfl, ?hypc38⟩) (by assumption) ?restpc38
          case hypc38 => (intro w hSw; (try dsimp only at hSw); (try simp only [List.getElem_toArray, List.getElem_cons_zero, List.getElem_cons_succ]); go_simp; (try with_reducible rfl))
          (try simp only [Act.put, List.setIfInBounds_toArray, List.set_cons_zero, List.set_cons_succ, List.getElem_toArray, List.getElem_cons_zero, List.getElem_cons_succ])
          refine wpAnyH_take (i := 39) (oi := _) (v := ?vpc39) rfl (by kernel_rfl) (by kernel_rfl) (by kernel_rfl) (fun _ _ _ h => h) (Or.inl ⟨by rfl, ?hypc39⟩) (by assumption) ?restpc39
          case hypc39 => (intro w hSw; (try dsimp only at hSw); (try simp only [List.getElem_toArray, List.getElem_cons_zero, List.getElem_cons_succ]); go_simp; (try with_reducible rfl))
          (try simp only [Act.put, List.setIfInBounds_toArray, List.set_cons_zero, List.set_cons_succ, List.getElem_toArray, List.getElem_cons_zero, List.getElem_cons_succ])
          refine wpAnyH_take (i := 40) (oi := _) (v := ?vpc40) rfl (by kernel_rfl) (by kernel_rfl) (by kernel_rfl) (fun _ _ _ h => h) (Or.inl ⟨by rfl, ?hypc40⟩) (by assumption) ?restpc40
          case hypc40 => (intro w hSw; (try dsimp only at hSw); (try simp only [List.getElem_toArray, List.getElem_cons_zero, List.getElem_cons_succ]); go_simp; (try with_reducible rfl))
          (try simp only [Act.put, List.setIfInBounds_toArray, List.set_cons_zero, List.set_cons_succ, List.getElem_toArray, List.getElem_cons_zero, List.getElem_cons_succ])
          refine wpAnyH_take (i := 41) (oi := _) (v := ?vpc41) rfl (by kernel_rfl) (by kernel_rfl) (by kernel_rfl) (fun _ _ _ h => h) (Or.inl ⟨by rfl, ?hypc41⟩) (by assumption) ?restpc41
          case hypc41 => (intro w hSw; (try dsimp only at hSw); (try simp only [List.getElem_toArray, List.getElem_cons_zero, List.getElem_cons_succ]); go_simp; (try with_reducible rfl))
          (try simp only [Act.put, List.setIfInBounds_toArray, List.set_cons_zero, List.set_cons_succ, List.getElem_toArray, List.getElem_cons_zero, List.getElem_cons_succ])
          refine wpAnyH_take (i := 42) (oi := _) (v := ?vpc42) rfl (by kernel_rfl) (by kernel_rfl) (by kernel_rfl) (fun _ _ _ h => h) (Or.inl ⟨by rfl, ?hypc42⟩) (by assumption) ?restpc42
          case hypc42 => (intro w hSw; (try dsimp only at hSw); (try simp only [List.getElem_toArray, List.getElem_cons_zero, List.getElem_cons_succ]); go_simp; (try with_reducible rfl))
          (try simp only [Act.put, List.setIfInBounds_toArray, List.set_cons_zero, List.set_cons_succ, List.getElem_toArray, List.getElem_cons_zero, List.getElem_cons_succ])
          refine wpAnyH_done (by kernel_rfl) ?_ _
          refine NoPanic.normal ?_
          clear u1 u2 HS HSN hsent
          have H8 : Hid (PairAt w.heap.size (w7.drewN 1) p L N r m) := Lib.hid (H7.out.drewN 1)
          have C8 : Hid (Cells (w7.drewN 1) g (opCells o)) := Lib.hid C7.out
          have B8 : Hid (Below w.heap.size w (w7.drewN 1)) := Lib.hid ⟨B7.out.os, B7.out.tape, B7.out.output, B7.out.size, B7.out.block⟩
          generalize w7.drewN 1 = w8 at *
          clear H7 C7 B7
          have HQM := Lib.hid H8.out.pk.ok
          go_wp2_with fail
          go_loopw [21] (fun i wr => ∃ j : Nat, i = .int .i64 j ∧ j ≤ 4 ∧ Hid (PairAt w.heap.size wr p L N r m) ∧ Hid (Cells wr g (opCells o)) ∧ Hid (Below w.heap.size w wr)) (fun i _ => 4 - (intOf i).toNat)
          case atStart => exact ⟨0, rfl, by omega, H8, C8, B8⟩
          case round =>
            obtain ⟨j, rfl, hj, HP, HC, HW⟩ := hrel
            clear H8 C8 B8
            by_cases hj4 : j < 4
            · have hd4 : decide ((j : Int) < 4) = true := by simp; omega
              have hj4' : (j : Int) < 4 := by omega
              have y2 := (HC.out 2 _ rfl).1
              have hgz := (HC.out 2 _ rfl).lt
              go_upto_region 29 with fail
              obtain ⟨z, hz, hz0, hz1⟩ : ∃ z : Int, (([Value.int IntKind.i64 o.o, Value.int IntKind.i64 ask, Value.int IntKind.i64 31, Value.int IntKind.i64 3] : List Value)[j]'(by simpa using hj4)) = Value.int .i64 z ∧ -9223372036854775808 ≤ z ∧ z ≤ 9223372036854775807 := by
                have h1 := HOB.out.1
                have h2 := HOB.out.2
                rcases j with _ | _ | _ | _ | j
                · exact ⟨_, rfl, h1, h2⟩
                · exact ⟨_, rfl, a0, a1⟩
                · exact ⟨31, rfl, by omega, by omega⟩
                · exact ⟨3, rfl, by omega, by omega⟩
                · omega
              rw [hz]
              clear hz y2 hj4
              have hwf : (Lit.int .i64 z).wf = true := by simp [Lit.wf, IntKind.min, IntKind.max, IntKind.signed, IntKind.bits]; omega
              have HUS := Lib.hid (fun W (q : PairAt w.heap.size W p L N r m) => pUs p L N _ 0 m W z hwf q.pk.ac)
              have HHI := Lib.hid (fun W (q : PairAt w.heap.size W p L N r m) => pHim p L N _ 0 m W z hwf q.pk.ac)
              obtain ⟨s0, hs0⟩ : ∃ x, x = (m.us z).1 := ⟨_, rfl⟩
              obtain ⟨t0, ht0⟩ : ∃ x, x = (m.us z).2 := ⟨_, rfl⟩
              obtain ⟨s1, hs1⟩ : ∃ x, x = (m.him z).1 := ⟨_, rfl⟩
              obtain ⟨t1, ht1⟩ : ∃ x, x = (m.him z).2 := ⟨_, rfl⟩
              rw [← hs0, ← ht0] at HUS
              rw [← hs1, ← ht1] at HHI
              have HST := Lib.hid (And.intro (And.intro hs0 ht0) (And.intro hs1 ht1))
              clear hs0 ht0 hs1 ht1 hwf
              have HPA := Lib.hid (HP.out.alloc (.cells #[.int .i64 o.o, .int .i64 ask, .int .i64 31, .int .i64 3] 3))
              have HCA := Lib.hid (HC.out.alloc (.cells #[.int .i64 o.o, .int .i64 ask, .int .i64 31, .int .i64 3] 3))
              have HWA := Lib.hid (HW.out.alloc HW.out.size (.cells #[.int .i64 o.o, .int .i64 ask, .int .i64 31, .int .i64 3] 3))
              clear HP HC HW hgz
              generalize wr.alloc (.cells #[.int .i64 o.o, .int .i64 ask, .int .i64 31, .int .i64 3] 3) = w9 at *
              go_wp2_with fail
              refine (HUS.out _ HPA.out).mono ?_
              rintro e w10 ⟨rfl, hb⟩
              have HP10 := Lib.hid (HPA.out.below hb)
              have HC10 : Hid (Cells w10 g (opCells o)) := Lib.hid (HCA.out.keep (S := fun _ => False) (Keep.of_below _ hb) (fun x => x))
              have HW10 : Hid (Below w.heap.size w w10) := Lib.hid (HWA.out.trans (hb.mono HWA.out.size))
              clear hb HPA HCA HWA
              go_wp2_with fail
              refine (HHI.out _ HP10.out).mono ?_
              rintro e w11 ⟨rfl, hb⟩
              have HP11 := Lib.hid (HP10.out.below hb)
              have HC11 : Hid (Cells w11 g (opCells o)) := Lib.hid (HC10.out.keep (S := fun _ => False) (Keep.of_below _ hb) (fun x => x))
              have HW11 : Hid (Below w.heap.size w w11) := Lib.hid (HW10.out.trans (hb.mono HW10.out.size))
              clear hb HP10 HC10 HW10 HUS HHI
              go_upto_region 30 with fail
              have X1 := Lib.hid ((Box.new w11 s0 t0 44 w11.heap.size rfl).alloc (.cells #[.int .i64 s1, .bool t1] 44))
              have X2 := Lib.hid (Box.new (w11.alloc (.cells #[.int .i64 s0, .bool t0] 44)) s1 t1 44 (w11.heap.size + 1) (by simp))
              have HP12 := Lib.hid ((HP11.out.alloc (.cells #[.int .i64 s0, .bool t0] 44)).alloc (.cells #[.int .i64 s1, .bool t1] 44))
              have HC12 := Lib.hid ((HC11.out.alloc (.cells #[.int .i64 s0, .bool t0] 44)).alloc (.cells #[.int .i64 s1, .bool t1] 44))
              have HW12 := Lib.hid (show Below w.heap.size w ((w11.alloc (.cells #[.int .i64 s0, .bool t0] 44)).alloc (.cells #[.int .i64 s1, .bool t1] 44)) from (HW11.out.alloc HW11.out.size _).alloc (by simpa using Nat.le_succ_of_le HW11.out.size) _)
              clear HP11 HC11 HW11
              generalize (w11.alloc (.cells #[.int .i64 s0, .bool t0] 44)).alloc (.cells #[.int .i64 s1, .bool t1] 44) = w12 at *
              generalize w11.heap.size + 1 = g2 at *
              generalize w11.heap.size = g1 at *
              by_cases hin : 0 ≤ z ∧ z ≤ 255
              · as_aux_lemma =>
                have d1 : decide (z < 0) = false := by simp; omega
                have d2 : decide (255 < z) = false := by simp; omega
                obtain ⟨zn, hzn⟩ : ∃ zn : Nat, z = (zn : Int) := ⟨z.toNat, by omega⟩
                have hle : zn ≤ 255 := by omega
                have HJ := Lib.hid hj4'
                clear hin hz0 hz1 hd4 hj4'
                go_upto_region 33 with fail
                subst hzn
                have HQ := Lib.hid (show w12.cell? ⟨g1, 0, none⟩ = some (.int .i64 s0) ∧ w12.cell? ⟨g1, 1, none⟩ = some (.bool t0) ∧ w12.cell? ⟨g2, 0, none⟩ = some (.int .i64 s1) ∧ w12.cell? ⟨g2, 1, none⟩ = some (.bool t1) ∧ w12.cell? ⟨r, 3 + zn * 2, none⟩ = some (.int .i64 s0) ∧ w12.cell? ⟨r, 3 + zn * 2 + 1, none⟩ = some (.bool t0) ∧ w12.cell? ⟨r, 515 + zn * 2, none⟩ = some (.int .i64 s1) ∧ w12.cell? ⟨r, 515 + zn * 2 + 1, none⟩ = some (.bool t1) by
                  obtain ⟨⟨h1, h2⟩, h3, h4⟩ := HST.out
                  subst h1 h2 h3 h4
                  exact ⟨X1.out.c0, X1.out.c1, X2.out.c0, X2.out.c1, (HP12.out.rf.us zn hle).1.1, (HP12.out.rf.us zn hle).2.1, (HP12.out.rf.him zn hle).1.1, (HP12.out.rf.him zn hle).2.1⟩)
                clear X1 X2 HST d1 d2
                have hl6 : (zn : Int) < 256 := by omega
                have hl7 : (0 : Int) ≤ (zn : Int) := by omega
                refine wp_region_noPanic ?_
                refine wp_region_held_drew (S := fun W => W.cell? ⟨g1, 0, none⟩ = some (.int .i64 s0) ∧ W.cell? ⟨g1, 1, none⟩ = some (.bool t0) ∧ W.cell? ⟨g2, 0, none⟩ = some (.int .i64 s1) ∧ W.cell? ⟨g2, 1, none⟩ = some (.bool t1) ∧ W.cell? ⟨r, 3 + zn * 2, none⟩ = some (.int .i64 s0) ∧ W.cell? ⟨r, 3 + zn * 2 + 1, none⟩ = some (.bool t0) ∧ W.cell? ⟨r, 515 + zn * 2, none⟩ = some (.int .i64 s1) ∧ W.cell? ⟨r, 515 + zn * 2 + 1, none⟩ = some (.bool t1)) (by kernel_rfl) (by exact HQ.out) (fun hHeld => ?_)
                refine wpAnyH_take (i := 0) (oi := _) (v := ?vpi0) rfl (by kernel_rfl) (by kernel_rfl) (by kernel_rfl) (fun _ _ _ h => h) (Or.inl ⟨by rfl, ?hypi0⟩) (by assumption) ?restpi0
                case hypi0 => (intro w hSw; (try dsimp only at hSw); (try simp only [List.getElem_toArray, List.getElem_cons_zero, List.getElem_cons_succ]); go_simp; (try with_reducible rfl))
                (try simp only [Act.put, List.setIfInBounds_toArray, List.set_cons_zero, List.set_cons_succ, List.getElem_toArray, List.getElem_cons_zero, List.getElem_cons_succ])
                refine wpAnyH_take (i := 1) (oi := _) (v := ?vpi1) rfl (by kernel_rfl) (by kernel_rfl) (by kernel_rfl) (fun _ _ _ h => h) (Or.inl ⟨by rfl, ?hypi1⟩) (by assumption) ?restpi1
                case hypi1 => (intro w hSw; (try dsimp only at hSw); (try simp only [List.getElem_toArray, List.getElem_cons_zero, List.getElem_cons_succ]); go_simp; (try with_reducible rfl))
                (try simp only [Act.put, List.setIfInBounds_toArray, List.set_cons_zero, List.set_cons_succ, List.getElem_toArray, List.getElem_cons_zero, List.getElem_cons_succ])
                refine wpAnyH_take (i := 2) (oi := _) (v := ?vpi2) rfl (by kernel_rfl) (by kernel_rfl) (by kernel_rfl) (fun _ _ _ h => h) (Or.inl ⟨by rfl, ?hypi2⟩) (by assumption) ?restpi2
                case hypi2 => (intro w hSw; (try dsimp only at hSw); (try simp only [List.getElem_toArray, List.getElem_cons_zero, List.getElem_cons_succ]); go_simp; (try with_reducible rfl))
                (try simp only [Act.put, List.setIfInBounds_toArray, List.set_cons_zero, List.set_cons_succ, List.getElem_toArray, List.getElem_cons_zero, List.getElem_cons_succ])
                refine wpAnyH_take (i := 3) (oi := _) (v := ?vpi3) rfl (by kernel_rfl) (by kernel_rfl) (by kernel_rfl) (fun _ _ _ h => h) (Or.inl ⟨by rfl, ?hypi3⟩) (by assumption) ?restpi3
                case hypi3 => (intro w hSw; (try dsimp only at hSw); (try simp only [List.getElem_toArray, List.getElem_cons_zero, List.getElem_cons_succ]); go_simp; (try with_reducible rfl))
                (try simp only [Act.put, List.setIfInBounds_toArray, List.set_cons_zero, List.set_cons_succ, List.getElem_toArray, List.getElem_cons_zero, List.getElem_cons_succ])
                refine wpAnyH_take (i := 4) (oi := _) (v := ?vpi4) rfl (by kernel_rfl) (by kernel_rfl) (by kernel_rfl) (fun _ _ _ h => h) (Or.inl ⟨by rfl, ?hypi4⟩) (by assumption) ?restpi4
                case hypi4 => (intro w hSw; (try dsimp only at hSw); (try simp only [List.getElem_toArray, List.getElem_cons_zero, List.getElem_cons_succ]); go_simp; (try with_reducible rfl))
                (try simp only [Act.put, List.setIfInBounds_toArray, List.set_cons_zero, List.set_cons_succ, List.getElem_toArray, List.getElem_cons_zero, List.getElem_cons_succ])
                refine wpAnyH_take (i := 5) (oi := _) (v := ?vpi5) rfl (by kernel_rfl) (by kernel_rfl) (by kernel_rfl) (fun _ _ _ h => h) (Or.inl ⟨by rfl, ?hypi5⟩) (by assumption) ?restpi5
                case hypi5 => (intro w hSw; (try dsimp only at hSw); (try simp only [List.getElem_toArray, List.getElem_cons_zero, List.getElem_cons_succ]); go_simp; (try with_reducible rfl))
                (try simp only [Act.put, List.setIfInBounds_toArray, List.set_cons_zero, List.set_cons_succ, List.getElem_toArray, List.getElem_cons_zero, List.getElem_cons_succ])
                refine wpAnyH_take (i := 6) (oi := _) (v := ?vpi6) rfl (by kernel_rfl) (by kernel_rfl) (by kernel_rfl) (fun _ _ _ h => h) (Or.inl ⟨by rfl, ?hypi6⟩) (by assumption) ?restpi6
                case hypi6 => (intro w hSw; (try dsimp only at hSw); (try simp only [List.getElem_toArray, List.getElem_cons_zero, List.getElem_cons_succ]); go_simp; (try with_reducible rfl))
                (try simp only [Act.put, List.setIfInBounds_toArray, List.set_cons_zero, List.set_cons_succ, List.getElem_toArray, List.getElem_cons_zero, List.getElem_cons_succ])
                refine wpAnyH_take (i := 7) (oi := _) (v := ?vpi7) rfl (by kernel_rfl) (by kernel_rfl) (by kernel_rfl) (fun _ _ _ h => h) (Or.inl ⟨by rfl, ?hypi7⟩) (by assumption) ?restpi7
                case hypi7 => (intro w hSw; (try dsimp only at hSw); (try simp only [List.getElem_toArray, List.getElem_cons_zero, List.getElem_cons_succ]); go_simp; (try with_reducible rfl))
                (try simp only [Act.put, List.setIfInBounds_toArray, List.set_cons_zero, List.set_cons_succ, List.getElem_toArray, List.getElem_cons_zero, List.getElem_cons_succ])
                refine wpAnyH_take (i := 8) (oi := _) (v := ?vpi8) rfl (by kernel_rfl) (by kernel_rfl) (by kernel_rfl) (fun _ _ _ h => h) (Or.inl ⟨by rfl, ?hypi8⟩) (by assumption) ?restpi8
                case hypi8 => (intro w hSw; (try dsimp only at hSw); (try simp only [List.getElem_toArray, List.getElem_cons_zero, List.getElem_cons_succ]); go_simp; (try with_reducible rfl))
                (try simp only [Act.put, List.setIfInBounds_toArray, List.set_cons_zero, List.set_cons_succ, List.getElem_toArray, List.getElem_cons_zero, List.getElem_cons_succ])
                refine wpAnyH_take (i := 9) (oi := _) (v := ?vpi9) rfl (by kernel_rfl) (by kernel_rfl) (by kernel_rfl) (fun _ _ _ h => h) (Or.inl ⟨by rfl, ?hypi9⟩) (by assumption) ?restpi9
                case hypi9 => (intro w hSw; (try dsimp only at hSw); (try simp only [List.getElem_toArray, List.getElem_cons_zero, List.getElem_cons_succ]); go_simp; (try with_reducible rfl))
                (try simp only [Act.put, List.setIfInBounds_toArray, List.set_cons_zero, List.set_cons_succ, List.getElem_toArray, List.getElem_cons_zero, List.getElem_cons_succ])
                refine wpAnyH_take (i := 10) (oi := _) (v := ?vpi10) rfl (by kernel_rfl) (by kernel_rfl) (by kernel_rfl) (fun _ _ _ h => h) (Or.inl ⟨by rfl, ?hypi10⟩) (by assumption) ?restpi10
                case hypi10 => (intro w hSw; (try dsimp only at hSw); (try simp only [List.getElem_toArray, List.getElem_cons_zero, List.getElem_cons_succ]); go_simp; (try with_reducible rfl))
                (try simp only [Act.put, List.setIfInBounds_toArray, List.set_cons_zero, List.set_cons_succ, List.getElem_toArray, List.getElem_cons_zero, List.getElem_cons_succ])
                refine wpAnyH_take (i := 11) (oi := _) (v := ?vpi11) rfl (by kernel_rfl) (by kernel_rfl) (by kernel_rfl) (fun _ _ _ h => h) (Or.inl ⟨by rfl, ?hypi11⟩) (by assumption) ?restpi11
                case hypi11 => (intro w hSw; (try dsimp only at hSw); (try simp only [List.getElem_toArray, List.getElem_cons_zero, List.getElem_cons_succ]); go_simp; (try with_reducible rfl))
                (try simp only [Act.put, List.setIfInBounds_toArray, List.set_cons_zero, List.set_cons_succ, List.getElem_toArray, List.getElem_cons_zero, List.getElem_cons_succ])
                refine wpAnyH_take (i := 12) (oi := _) (v := ?vpi12) rfl (by kernel_rfl) (by kernel_rfl) (by kernel_rfl) (fun _ _ _ h => h) (Or.inl ⟨by rfl, ?hypi12⟩) (by assumption) ?restpi12
                case hypi12 => (intro w hSw; (try dsimp only at hSw); (try simp only [List.getElem_toArray, List.getElem_cons_zero, List.getElem_cons_succ]); go_simp; (try with_reducible rfl))
                (try simp only [Act.put, List.setIfInBounds_toArray, List.set_cons_zero, List.set_cons_succ, List.getElem_toArray, List.getElem_cons_zero, List.getElem_cons_succ])
                refine wpAnyH_take (i := 13) (oi := _) (v := ?vpi13) rfl (by kernel_rfl) (by kernel_rfl) (by kernel_rfl) (fun _ _ _ h => h) (Or.inl ⟨by rfl, ?hypi13⟩) (by assumption) ?restpi13
                case hypi13 => (intro w hSw; (try dsimp only at hSw); (try simp only [List.getElem_toArray, List.getElem_cons_zero, List.getElem_cons_succ]); go_simp; (try with_reducible rfl))
                (try simp only [Act.put, List.setIfInBounds_toArray, List.set_cons_zero, List.set_cons_succ, List.getElem_toArray, List.getElem_cons_zero, List.getElem_cons_succ])
                refine wpAnyH_take (i := 14) (oi := _) (v := ?vpi14) rfl (by kernel_rfl) (by kernel_rfl) (by kernel_rfl) (fun _ _ _ h => h) (Or.inl ⟨by rfl, ?hypi14⟩) (by assumption) ?restpi14
                case hypi14 => (intro w hSw; (try dsimp only at hSw); (try simp only [List.getElem_toArray, List.getElem_cons_zero, List.getElem_cons_succ]); go_simp; (try with_reducible rfl))
                (try simp only [Act.put, List.setIfInBounds_toArray, List.set_cons_zero, List.set_cons_succ, List.getElem_toArray, List.getElem_cons_zero, List.getElem_cons_succ])
                refine wpAnyH_take (i := 15) (oi := _) (v := ?vpi15) rfl (by kernel_rfl) (by kernel_rfl) (by kernel_rfl) (fun _ _ _ h => h) (Or.inl ⟨by rfl, ?hypi15⟩) (by assumption) ?restpi15
                case hypi15 => (intro w hSw; (try dsimp only at hSw); (try simp only [List.getElem_toArray, List.getElem_cons_zero, List.getElem_cons_succ]); go_simp; (try with_reducible rfl))
                (try simp only [Act.put, List.setIfInBounds_toArray, List.set_cons_zero, List.set_cons_succ, List.getElem_toArray, List.getElem_cons_zero, List.getElem_cons_succ])
                refine wpAnyH_take (i := 16) (oi := _) (v := ?vpi16) rfl (by kernel_rfl) (by kernel_rfl) (by kernel_rfl) (fun _ _ _ h => h) (Or.inl ⟨by rfl, ?hypi16⟩) (by assumption) ?restpi16
                case hypi16 => (intro w hSw; (try dsimp only at hSw); (try simp only [List.getElem_toArray, List.getElem_cons_zero, List.getElem_cons_succ]); go_simp; (try with_reducible rfl))
                (try simp only [Act.put, List.setIfInBounds_toArray, List.set_cons_zero, List.set_cons_succ, List.getElem_toArray, List.getElem_cons_zero, List.getElem_cons_succ])
                refine wpAnyH_take (i := 17) (oi := _) (v := ?vpi17) rfl (by kernel_rfl) (by kernel_rfl) (by kernel_rfl) (fun _ _ _ h => h) (Or.inl ⟨by rfl, ?hypi17⟩) (by assumption) ?restpi17
                case hypi17 => (intro w hSw; (try dsimp only at hSw); (try simp only [List.getElem_toArray, List.getElem_cons_zero, List.getElem_cons_succ]); go_simp; (try with_reducible rfl))
                (try simp only [Act.put, List.setIfInBounds_toArray, List.set_cons_zero, List.set_cons_succ, List.getElem_toArray, List.getElem_cons_zero, List.getElem_cons_succ])
                refine wpAnyH_take (i := 18) (oi := _) (v := ?vpi18) rfl (by kernel_rfl) (by kernel_rfl) (by kernel_rfl) (fun _ _ _ h => h) (Or.inl ⟨by rfl, ?hypi18⟩) (by assumption) ?restpi18
                case hypi18 => (intro w hSw; (try dsimp only at hSw); (try simp only [List.getElem_toArray, List.getElem_cons_zero, List.getElem_cons_succ]); go_simp; (try with_reducible rfl))
                (try simp only [Act.put, List.setIfInBounds_toArray, List.set_cons_zero, List.set_cons_succ, List.getElem_toArray, List.getElem_cons_zero, List.getElem_cons_succ])
                refine wpAnyH_take (i := 19) (oi := _) (v := ?vpi19) rfl (by kernel_rfl) (by kernel_rfl) (by kernel_rfl) (fun _ _ _ h => h) (Or.inl ⟨by rfl, ?hypi19⟩) (by assumption) ?restpi19
                case hypi19 => (intro w hSw; (try dsimp only at hSw); (try simp only [List.getElem_toArray, List.getElem_cons_zero, List.getElem_cons_succ]); go_simp; (try with_reducible rfl))
                (try simp only [Act.put, List.setIfInBounds_toArray, List.set_cons_zero, List.set_cons_succ, List.getElem_toArray, List.getElem_cons_zero, List.getElem_cons_succ])
                refine wpAnyH_take (i := 20) (oi := _) (v := ?vpi20) rfl (by kernel_rfl) (by kernel_rfl) (by kernel_rfl) (fun _ _ _ h => h) (Or.inl ⟨by rfl, ?hypi20⟩) (by assumption) ?restpi20
                case hypi20 => (intro w hSw; (try dsimp only at hSw); (try simp only [List.getElem_toArray, List.getElem_cons_zero, List.getElem_cons_succ]); go_simp; (try with_reducible rfl))
                (try simp only [Act.put, List.setIfInBounds_toArray, List.set_cons_zero, List.set_cons_succ, List.getElem_toArray, List.getElem_cons_zero, List.getElem_cons_succ])
                refine wpAnyH_take (i := 21) (oi := _) (v := ?vpi21) rfl (by kernel_rfl) (by kernel_rfl) (by kernel_rfl) (fun _ _ _ h => h) (Or.inl ⟨by rfl, ?hypi21⟩) (by assumption) ?restpi21
                case hypi21 => (intro w hSw; (try dsimp only at hSw); (try simp only [List.getElem_toArray, List.getElem_cons_zero, List.getElem_cons_succ]); go_simp; (try with_reducible rfl))
                (try simp only [Act.put, List.setIfInBounds_toArray, List.set_cons_zero, List.set_cons_succ, List.getElem_toArray, List.getElem_cons_zero, List.getElem_cons_succ])
                refine wpAnyH_take (i := 22) (oi := _) (v := ?vpi22) rfl (by kernel_rfl) (by kernel_rfl) (by kernel_rfl) (fun _ _ _ h => h) (Or.inl ⟨by rfl, ?hypi22⟩) (by assumption) ?restpi22
                case hypi22 => (intro w hSw; (try dsimp only at hSw); (try simp only [List.getElem_toArray, List.getElem_cons_zero, List.getElem_cons_succ]); go_simp; (try with_reducible rfl))
                (try simp only [Act.put, List.setIfInBounds_toArray, List.set_cons_zero, List.set_cons_succ, List.getElem_toArray, List.getElem_cons_zero, List.getElem_cons_succ])
                refine wpAnyH_take (i := 23) (oi := _) (v := ?vpi23) rfl (by kernel_rfl) (by kernel_rfl) (by kernel_rfl) (fun _ _ _ h => h) (Or.inl ⟨by rfl, ?hypi23⟩) (by assumption) ?restpi23
                case hypi23 => (intro w hSw; (try dsimp only at hSw); (try simp only [List.getElem_toArray, List.getElem_cons_zero, List.getElem_cons_succ]); go_simp; (try with_reducible rfl))
                (try simp only [Act.put, List.setIfInBounds_toArray, List.set_cons_zero, List.set_cons_succ, List.getElem_toArray, List.getElem_cons_zero, List.getElem_cons_succ])
                refine wpAnyH_take (i := 24) (oi := _) (v := ?vpi24) rfl (by kernel_rfl) (by kernel_rfl) (by kernel_rfl) (fun _ _ _ h => h) (Or.inl ⟨by rfl, ?hypi24⟩) (by assumption) ?restpi24
                case hypi24 => (intro w hSw; (try dsimp only at hSw); (try simp only [List.getElem_toArray, List.getElem_cons_zero, List.getElem_cons_succ]); go_simp; (try with_reducible rfl))
                (try simp only [Act.put, List.setIfInBounds_toArray, List.set_cons_zero, List.set_cons_succ, List.getElem_toArray, List.getElem_cons_zero, List.getElem_cons_succ])
                refine wpAnyH_take (i := 25) (oi := _) (v := ?vpi25) rfl (by kernel_rfl) (by kernel_rfl) (by kernel_rfl) (fun _ _ _ h => h) (Or.inl ⟨by rfl, ?hypi25⟩) (by assumption) ?restpi25
                case hypi25 => (intro w hSw; (try dsimp only at hSw); (try simp only [List.getElem_toArray, List.getElem_cons_zero, List.getElem_cons_succ]); go_simp; (try with_reducible rfl))
                (try simp only [Act.put, List.setIfInBounds_toArray, List.set_cons_zero, List.set_cons_succ, List.getElem_toArray, List.getElem_cons_zero, List.getElem_cons_succ])
                refine wpAnyH_take (i := 26) (oi := _) (v := ?vpi26) rfl (by kernel_rfl) (by kernel_rfl) (by kernel_rfl) (fun _ _ _ h => h) (Or.inl ⟨by rfl, ?hypi26⟩) (by assumption) ?restpi26
                case hypi26 => (intro w hSw; (try dsimp only at hSw); (try simp only [List.getElem_toArray, List.getElem_cons_zero, List.getElem_cons_succ]); go_simp; (try with_reducible rfl))
                (try simp only [Act.put, List.setIfInBounds_toArray, List.set_cons_zero, List.set_cons_succ, List.getElem_toArray, List.getElem_cons_zero, List.getElem_cons_succ])
                refine wpAnyH_take (i := 27) (oi := _) (v := ?vpi27) rfl (by kernel_rfl) (by kernel_rfl) (by kernel_rfl) (fun _ _ _ h => h) (Or.inl ⟨by rfl, ?hypi27⟩) (by assumption) ?restpi27
                case hypi27 => (intro w hSw; (try dsimp only at hSw); (try simp only [List.getElem_toArray, List.getElem_cons_zero, List.getElem_cons_succ]); go_simp; (try with_reducible rfl))
                (try simp only [Act.put, List.setIfInBounds_toArray, List.set_cons_zero, List.set_cons_succ, List.getElem_toArray, List.getElem_cons_zero, List.getElem_cons_succ])
                refine wpAnyH_take (i := 28) (oi := _) (v := ?vpi28) rfl (by kernel_rfl) (by kernel_rfl) (by kernel_rfl) (fun _ _ _ h => h) (Or.inl ⟨by rfl, ?hypi28⟩) (by assumption) ?restpi28
                case hypi28 => (intro w hSw; (try dsimp only at hSw); (try simp only [List.getElem_toArray, List.getElem_cons_zero, List.getElem_cons_succ]); go_simp; (try with_reducible rfl))
                (try simp only [Act.put, List.setIfInBounds_toArray, List.set_cons_zero, List.set_cons_succ, List.getElem_toArray, List.getElem_cons_zero, List.getElem_cons_succ])
                refine wpAnyH_take (i := 29) (oi := _) (v := ?vpi29) rfl (by kernel_rfl) (by kernel_rfl) (by kernel_rfl) (fun _ _ _ h => h) (Or.inl ⟨by rfl, ?hypi29⟩) (by assumption) ?restpi29
                case hypi29 => (intro w hSw; (try dsimp only at hSw); (try simp only [List.getElem_toArray, List.getElem_cons_zero, List.getElem_cons_succ]); go_simp; (try with_reducible rfl))
                (try simp only [Act.put, List.setIfInBounds_toArray, List.set_cons_zero, List.set_cons_succ, List.getElem_toArray, List.getElem_cons_zero, List.getElem_cons_succ])
                refine wpAnyH_take (i := 30) (oi := _) (v := ?vpi30) rfl (by kernel_rfl) (by kernel_rfl) (by kernel_rfl) (fun _ _ _ h => h) (Or.inl ⟨by rfl, ?hypi30⟩) (by assumption) ?restpi30
                case hypi30 => (intro w hSw; (try dsimp only at hSw); (try simp only [List.getElem_toArray, List.getElem_cons_zero, List.getElem_cons_succ]); go_simp; (try with_reducible rfl))
                (try simp only [Act.put, List.setIfInBounds_toArray, List.set_cons_zero, List.set_cons_succ, List.getElem_toArray, List.getElem_cons_zero, List.getElem_cons_succ])
                refine wpAnyH_take (i := 31) (oi := _) (v := ?vpi31) rfl (by kernel_rfl) (by kernel_rfl) (by kernel_rfl) (fun _ _ _ h => h) (Or.inl ⟨by rfl, ?hypi31⟩) (by assumption) ?restpi31
                case hypi31 => (intro w hSw; (try dsimp only at hSw); (try simp only [List.getElem_toArray, List.getElem_cons_zero, List.getElem_cons_succ]); go_simp; (try with_reducible rfl))
                (try simp only [Act.put, List.setIfInBounds_toArray, List.set_cons_zero, List.set_cons_succ, List.getElem_toArray, List.getElem_cons_zero, List.getElem_cons_succ])
                refine wpAnyH_take (i := 32) (oi := _) (v := ?vpi32) rfl (by kernel_rfl) (by kernel_rfl) (by kernel_rfl) (fun _ _ _ h => h) (Or.inl ⟨by rfl, ?hypi32⟩) (by assumption) ?restpi32
                case hypi32 => (intro w hSw; (try dsimp only at hSw); (try simp only [List.getElem_toArray, List.getElem_cons_zero, List.getElem_cons_succ]); go_simp; (try with_reducible rfl))
                (try simp only [Act.put, List.setIfInBounds_toArray, List.set_cons_zero, List.set_cons_succ, List.getElem_toArray, List.getElem_cons_zero, List.getElem_cons_succ])
                refine wpAnyH_take (i := 33) (oi := _) (v := ?vpi33) rfl (by kernel_rfl) (by kernel_rfl) (by kernel_rfl) (fun _ _ _ h => h) (Or.inl ⟨by rfl, ?hypi33⟩) (by assumption) ?restpi33
                case hypi33 => (intro w hSw; (try dsimp only at hSw); (try simp only [List.getElem_toArray, List.getElem_cons_zero, List.getElem_cons_succ]); go_simp; (try with_reducible rfl))
                (try simp only [Act.put, List.setIfInBounds_toArray, List.set_cons_zero, List.set_cons_succ, List.getElem_toArray, List.getElem_cons_zero, List.getElem_cons_succ])
                refine wpAnyH_take (i := 34) (oi := _) (v := ?vpi34) rfl (by kernel_rfl) (by kernel_rfl) (by kernel_rfl) (fun _ _ _ h => h) (Or.inl ⟨by rfl, ?hypi34⟩) (by assumption) ?restpi34
                case hypi34 => (intro w hSw; (try dsimp only at hSw); (try simp only [List.getElem_toArray, List.getElem_cons_zero, List.getElem_cons_succ]); go_simp; (try with_reducible rfl))
                (try simp only [Act.put, List.setIfInBounds_toArray, List.set_cons_zero, List.set_cons_succ, List.getElem_toArray, List.getElem_cons_zero, List.getElem_cons_succ])
                refine wpAnyH_take (i := 35) (oi := _) (v := ?vpi35) rfl (by kernel_rfl) (by kernel_rfl) (by kernel_rfl) (fun _ _ _ h => h) (Or.inl ⟨by rfl, ?hypi35⟩) (by assumption) ?restpi35
                case hypi35 => (intro w hSw; (try dsimp only at hSw); (try simp only [List.getElem_toArray, List.getElem_cons_zero, List.getElem_cons_succ]); go_simp; (try with_reducible rfl))
                (try simp only [Act.put, List.setIfInBounds_toArray, List.set_cons_zero, List.set_cons_succ, List.getElem_toArray, List.getElem_cons_zero, List.getElem_cons_succ])
                refine wpAnyH_take (i := 36) (oi := _) (v := ?vpi36) rfl (by kernel_rfl) (by kernel_rfl) (by kernel_rfl) (fun _ _ _ h => h) (Or.inl ⟨by rfl, ?hypi36⟩) (by assumption) ?restpi36
                case hypi36 => (intro w hSw; (try dsimp only at hSw); (try simp only [List.getElem_toArray, List.getElem_cons_zero, List.getElem_cons_succ]); go_simp; (try with_reducible rfl))
                (try simp only [Act.put, List.setIfInBounds_toArray, List.set_cons_zero, List.set_cons_succ, List.getElem_toArray, List.getElem_cons_zero, List.getElem_cons_succ])
                refine wpAnyH_take (i := 37) (oi := _) (v := ?vpi37) rfl (by kernel_rfl) (by kernel_rfl) (by kernel_rfl) (fun _ _ _ h => h) (Or.inl ⟨by rfl, ?hypi37⟩) (by assumption) ?restpi37
                case hypi37 => (intro w hSw; (try dsimp only at hSw); (try simp only [List.getElem_toArray, List.getElem_cons_zero, List.getElem_cons_succ]); go_simp; (try with_reducible rfl))
                (try simp only [Act.put, List.setIfInBounds_toArray, List.set_cons_zero, List.set_cons_succ, List.getElem_toArray, List.getElem_cons_zero, List.getElem_cons_succ])
                refine wpAnyH_take (i := 38) (oi := _) (v := ?vpi38) rfl (by kernel_rfl) (by kernel_rfl) (by kernel_rfl) (fun _ _ _ h => h) (Or.inl ⟨by rfl, ?hypi38⟩) (by assumption) ?restpi38
                case hypi38 => (intro w hSw; (try dsimp only at hSw); (try simp only [List.getElem_toArray, List.getElem_cons_zero, List.getElem_cons_succ]); go_simp; (try with_reducible rfl))
                (try simp only [Act.put, List.setIfInBounds_toArray, List.set_cons_zero, List.set_cons_succ, List.getElem_toArray, List.getElem_cons_zero, List.getElem_cons_succ])
                refine wpAnyH_take (i := 39) (oi := _) (v := ?vpi39) rfl (by kernel_rfl) (by kernel_rfl) (by kernel_rfl) (fun _ _ _ h => h) (Or.inl ⟨by rfl, ?hypi39⟩) (by assumption) ?restpi39
                case hypi39 => (intro w hSw; (try dsimp only at hSw); (try simp only [List.getElem_toArray, List.getElem_cons_zero, List.getElem_cons_succ]); go_simp; (try with_reducible rfl))
                (try simp only [Act.put, List.setIfInBounds_toArray, List.set_cons_zero, List.set_cons_succ, List.getElem_toArray, List.getElem_cons_zero, List.getElem_cons_succ])
                refine wpAnyH_take (i := 40) (oi := _) (v := ?vpi40) rfl (by kernel_rfl) (by kernel_rfl) (by kernel_rfl) (fun _ _ _ h => h) (Or.inl ⟨by rfl, ?hypi40⟩) (by assumption) ?restpi40
                case hypi40 => (intro w hSw; (try dsimp only at hSw); (try simp only [List.getElem_toArray, List.getElem_cons_zero, List.getElem_cons_succ]); go_simp; (try with_reducible rfl))
                (try simp only [Act.put, List.setIfInBounds_toArray, List.set_cons_zero, List.set_cons_succ, List.getElem_toArray, List.getElem_cons_zero, List.getElem_cons_succ])
                refine wpAnyH_take (i := 41) (oi := _) (v := ?vpi41) rfl (by kernel_rfl) (by kernel_rfl) (by kernel_rfl) (fun _ _ _ h => h) (Or.inl ⟨by rfl, ?hypi41⟩) (by assumption) ?restpi41
                case hypi41 => (intro w hSw; (try dsimp only at hSw); (try simp only [List.getElem_toArray, List.getElem_cons_zero, List.getElem_cons_succ]); go_simp; (try with_reducible rfl))
                (try simp only [Act.put, List.setIfInBounds_toArray, List.set_cons_zero, List.set_cons_succ, List.getElem_toArray, List.getElem_cons_zero, List.getElem_cons_succ])
                refine wpAnyH_take (i := 42) (oi := _) (v := ?vpi42) rfl (by kernel_rfl) (by kernel_rfl) (by kernel_rfl) (fun _ _ _ h => h) (Or.inl ⟨by rfl, ?hypi42⟩) (by assumption) ?restpi42
                case hypi42 => (intro w hSw; (try dsimp only at hSw); (try simp only [List.getElem_toArray, List.getElem_cons_zero, List.getElem_cons_succ]); go_simp; (try with_reducible rfl))
                (try simp only [Act.put, List.setIfInBounds_toArray, List.set_cons_zero, List.set_cons_succ, List.getElem_toArray, List.getElem_cons_zero, List.getElem_cons_succ])
                refine wpAnyH_take (i := 43) (oi := _) (v := ?vpi43) rfl (by kernel_rfl) (by kernel_rfl) (by kernel_rfl) (fun _ _ _ h => h) (Or.inl ⟨by rfl, ?hypi43⟩) (by assumption) ?restpi43
                case hypi43 => (intro w hSw; (try dsimp only at hSw); (try simp only [List.getElem_toArray, List.getElem_cons_zero, List.getElem_cons_succ]); go_simp; (try with_reducible rfl))
                (try simp only [Act.put, List.setIfInBounds_toArray, List.set_cons_zero, List.set_cons_succ, List.getElem_toArray, List.getElem_cons_zero, List.getElem_cons_succ])
                refine wpAnyH_take (i := 44) (oi := _) (v := ?vpi44) rfl (by kernel_rfl) (by kernel_rfl) (by kernel_rfl) (fun _ _ _ h => h) (Or.inl ⟨by rfl, ?hypi44⟩) (by assumption) ?restpi44
                case hypi44 => (intro w hSw; (try dsimp only at hSw); (try simp only [List.getElem_toArray, List.getElem_cons_zero, List.getElem_cons_succ]); go_simp; (try with_reducible rfl))
                (try simp only [Act.put, List.setIfInBounds_toArray, List.set_cons_zero, List.set_cons_succ, List.getElem_toArray, List.getElem_cons_zero, List.getElem_cons_succ])
                refine wpAnyH_take (i := 45) (oi := _) (v := ?vpi45) rfl (by kernel_rfl) (by kernel_rfl) (by kernel_rfl) (fun _ _ _ h => h) (Or.inl ⟨by rfl, ?hypi45⟩) (by assumption) ?restpi45
                case hypi45 => (intro w hSw; (try dsimp only at hSw); (try simp only [List.getElem_toArray, List.getElem_cons_zero, List.getElem_cons_succ]); go_simp; (try with_reducible rfl))
                (try simp only [Act.put, List.setIfInBounds_toArray, List.set_cons_zero, List.set_cons_succ, List.getElem_toArray, List.getElem_cons_zero, List.getElem_cons_succ])
                refine wpAnyH_done (by kernel_rfl) ?_ _
                refine NoPanic.normal ?_
                clear HQ
                go_wp2_with fail
                have hj5 := HJ.out
                go_roundw
                case rel => exact ⟨j + 1, by go_num, by omega, Lib.hid (HP12.out.drewN 1), Lib.hid HC12.out, Lib.hid ⟨HW12.out.os, HW12.out.tape, HW12.out.output, HW12.out.size, HW12.out.block⟩⟩
                case measure => simp [intOf]; omega
              · have e0 := HQM.out.usIn z hin
                have e1 := HQM.out.himIn z hin
                have HS0 := Lib.hid (show s0 = 0 ∧ t0 = false ∧ s1 = 0 ∧ t1 = false from ⟨by rw [HST.out.1.1, e0], by rw [HST.out.1.2, e0], by rw [HST.out.2.1, e1], by rw [HST.out.2.2, e1]⟩)
                clear e0 e1 HST
                obtain ⟨rfl, rfl, rfl, rfl⟩ := HS0.out
                have v0 := X1.out.c0
                have v1 := X1.out.c1
                have v2 := X2.out.c0
                have v3 := X2.out.c1
                clear X1 X2 HS0
                by_cases hz2 : z < 0
                · have d1 : decide (z < 0) = true := by simp; omega
                  clear hin hz2 hz0 hz1
                  go_wp2_with fail
                  go_roundw
                  case rel => exact ⟨j + 1, by go_num, by omega, HP12, HC12, HW12⟩
                  case measure => simp [intOf]; omega
                · have d1 : decide (z < 0) = false := by simp; omega
                  have d2 : decide (255 < z) = true := by simp; omega
                  clear hin hz2 hz0 hz1
                  go_wp2_with fail
                  go_roundw
                  case rel => exact ⟨j + 1, by go_num, by omega, HP12, HC12, HW12⟩
                  case measure => simp [intOf]; omega
            · have hd4 : decide ((j : Int) < 4) = false := by simp; omega
              have hj4' : ¬ (j : Int) < 4 := by omega
              go_wp2_with fail
              go_roundw
              case rel => exact ⟨k + 1, c', by go_num, by omega, rfl, by omega, Lib.hid ⟨m, HP.out, HF.out.1, by have := HF.out.2; omega⟩, HW⟩
              case measure => simp [intOf]; omega
    · have hd : decide ((k : Int) < (n : Int)) = false := by simp; omega
      as_aux_lemma =>
        clear HO
        have hd0 : ¬ (k : Int) < (n : Int) := by omega
        go_wp2_with fail
        have hfd : ∀ W : World, (Instr.field 44 (.agg #[.int .i64 0, .bool false]) 0).run Try.prog W = .ok (.int .i64 0) W := fun _ => by kernel_rfl
        have hem : ((⟨#[]⟩ : ByteArray) ++ ⟨#[]⟩ ++ ⟨#[]⟩).toList = [] := by decide +kernel
        refine (ptold_nil _).mono ?_
        rintro e w4 ⟨rfl, rfl⟩
        clear hm hd0
        go_wp2_with fail
        refine (start_nil _).mono ?_
        rintro e w5 ⟨rfl, r1⟩
        have B5 : Hid (Below w.heap.size w w5) := Lib.hid (hw.out.trans (r1.mono hw.out.size))
        clear r1
        go_wp2_with fail
        refine (take_nil _ _ 0 0 0 ⟨#[]⟩ rfl).mono ?_
        rintro e w6 ⟨rfl, r1⟩
        have B6 : Hid (Below w.heap.size w w6) := Lib.hid (B5.out.trans (r1.mono B5.out.size))
        clear r1
        go_wp2_with fail
        refine (size_nil _ 1 1).mono ?_
        rintro e w7 ⟨rfl, rfl⟩
        go_wp2_with fail
        refine (psent_nil _).mono ?_
        rintro e w7 ⟨rfl, rfl⟩
        go_wp2_with fail
        refine (pUs_nil _ 1).mono ?_
        rintro e w8 ⟨rfl, r1⟩
        have B8 : Hid (Below w.heap.size w w8) := Lib.hid (B6.out.trans (r1.mono B6.out.size))
        clear r1
        go_wp2_with fail
        refine (pHim_nil _ 1).mono ?_
        rintro e w9 ⟨rfl, r1⟩
        have B9 : Hid (Below w.heap.size w w9) := Lib.hid (B8.out.trans (r1.mono B8.out.size))
        clear r1
        go_wp2_with fail
        go_ret
        exact ⟨rfl, B9.out⟩

set_option maxRecDepth 100000 in
set_option maxHeartbeats 800000 in
theorem plays_long (name : ByteArray) (pw ph : Int) (A : Option Addr) (n cap : Nat) (ask : Int) (w : World) (h : 100 < name.size ∨ 100 < n) :
    Calls Try.prog 3 #[.string name, .int .i64 pw, .int .i64 ph, .slice A n cap, .int .i64 ask] w fun e w' => e = .returned (.bool true) ∧ Below w.heap.size w w' := by
  have hs : (decide (100 < (name.size : Int)) = true) ∨ (decide (100 < (name.size : Int)) = false ∧ decide (100 < (n : Int)) = true) := by simp; omega
  clear h
  rcases hs with d1 | ⟨d1, d2⟩
  all_goals
    go_enter Try.func3, Try.ntmps3
    go_wp2_with fail
    refine (alive_any _).mono ?_
    rintro r w1 ⟨rfl, hb⟩
    go_wp2_with fail
    go_ret
    exact ⟨rfl, hb⟩

theorem walk_PactPlays (name : ByteArray) (wn : name.size ≤ maxLen) (pw : Int) (wpw : (Lit.int .i64 pw).wf = true) (ph : Int) (wph : (Lit.int .i64 ph).wf = true) (A : Option Addr) (n cap : Nat) (ops : List OpV) (ask : Int) (wask : (Lit.int .i64 ask).wf = true) (w : World) (hops : Structs (OpAt w) 8 w A n ops) :
    Calls Try.prog 3 #[.string name, .int .i64 pw, .int .i64 ph, .slice A n cap, .int .i64 ask] w fun e w' => e = .returned (.bool true) ∧ Below w.heap.size w w' := by
  by_cases h : 100 < name.size ∨ 100 < n
  · exact plays_long name pw ph A n cap ask w h
  · obtain ⟨b0, b1⟩ := wf_bounds wask
    exact plays_good name pw ph A n cap ops ask w hops (by omega) (by omega) b0 b1

end Go.Proofs.Ytmkgcmnimpkmjaa
