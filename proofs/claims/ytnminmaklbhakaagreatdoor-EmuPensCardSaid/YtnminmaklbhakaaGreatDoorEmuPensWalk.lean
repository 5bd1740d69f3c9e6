/- Law EmuPens: the walk. Own work. -/
import Derived.Test.YtnminmaklbhakaaGreatDoorEmuPensM
import Derived.Test.YtnminmaklbhakaaGreatDoorEmuLaw2
import Derived.Test.YtnminmaklbhakaaGreatDoorEmuRest
import Derived.Test.YtnminmaklbhakaaGreatDoorCellRefSgr
import Derived.Deep.QuietTactic
import Derived.BigQuiet
namespace Go.Proofs.YtnminmaklbhakaaGreatDoor
set_option linter.unusedVariables false
set_option linter.unusedSimpArgs false
open Go.RowKit

def rem120 (v : Int) : Nat := ((v.tmod 120 + 120) % 120).toNat
theorem rem120_lt (v : Int) : rem120 v < 120 := by unfold rem120; omega
def remsL (xs : List Int) : List Nat := xs.map rem120
theorem remsL_le (xs : List Int) : ∀ n ∈ remsL xs, n ≤ 9999 := by
  intro n hn
  obtain ⟨v, -, rfl⟩ := List.mem_map.1 hn
  have := rem120_lt v; omega
theorem rem_known (v : Int) : ∃ tm : Int, v.tmod 120 = tm ∧ -120 < tm ∧ tm < 120 ∧ ∃ r : Nat, (tm + 120) % 120 = (r : Int) ∧ r < 120 ∧ rem120 v = r := by
  obtain ⟨tm, h1, h2, h3, r, h4, h5⟩ := rest_twice v 120 (by omega)
  exact ⟨tm, h1, h2, h3, r, h4, h5, by unfold rem120; rw [show v.tmod 120 = tm from h1, show (tm + 120) % 120 = (r : Int) from h4]; rfl⟩
theorem pens_nats (S : ByteArray) (l : List Nat) (x : Nat) (hS : natsOf S = l) : natsJ [⟨#[27, 91]⟩, S, ⟨#[109, 27, 91, 49, 59]⟩, bytesN (decN (x + 1)), ⟨#[72, 122, 27, 91, 50, 59, 49, 72, 27, 91, 75]⟩] = [27, 91] ++ (l ++ ([109, 27, 91, 49, 59] ++ (decN (x + 1) ++ [72, 122, 27, 91, 50, 59, 49, 72, 27, 91, 75]))) := by
  rw [natsJ_eq]
  simp only [List.flatMap_cons, List.flatMap_nil, List.append_nil]
  rw [natsOf_decN, hS]
  rfl
theorem pens_size (S : ByteArray) (x : Nat) (hS : S.size ≤ 48) (hx : x + 1 < 100) : sum [⟨#[27, 91]⟩, S, ⟨#[109, 27, 91, 49, 59]⟩, bytesN (decN (x + 1)), ⟨#[72, 122, 27, 91, 50, 59, 49, 72, 27, 91, 75]⟩] ≤ 68 := by
  have := two_decN hx
  simp only [sum, List.map_cons, List.map_nil, List.foldr_cons, List.foldr_nil, bytesN_size]
  show 2 + (S.size + (5 + ((decN (x + 1)).length + (11 + 0)))) ≤ 68
  omega

/-- Six cells of a block. -/
theorem six_cells {w : World} {q : Nat} {a0 a1 a2 a3 a4 a5 : Value} (h : Cells w q [a0, a1, a2, a3, a4, a5]) : Cell w q 0 a0 ∧ Cell w q 1 a1 ∧ Cell w q 2 a2 ∧ Cell w q 3 a3 ∧ Cell w q 4 a4 ∧ Cell w q 5 a5 :=
  ⟨h 0 _ rfl, h 1 _ rfl, h 2 _ rfl, h 3 _ rfl, h 4 _ rfl, h 5 _ rfl⟩
def six_put (w : World) (q : Nat) (b0 b1 b2 b3 b4 b5 : Value) : World := (((((w.setCell ⟨q, 0, none⟩ b0).setCell ⟨q, 1, none⟩ b1).setCell ⟨q, 2, none⟩ b2).setCell ⟨q, 3, none⟩ b3).setCell ⟨q, 4, none⟩ b4).setCell ⟨q, 5, none⟩ b5
theorem six_set (w : World) (q : Nat) {a0 a1 a2 a3 a4 a5 : Value} (b0 b1 b2 b3 b4 b5 : Value) (h : Cells w q [a0, a1, a2, a3, a4, a5]) :
    Cells (six_put w q b0 b1 b2 b3 b4 b5) q [b0, b1, b2, b3, b4, b5] ∧ Keep (· = q) w (six_put w q b0 b1 b2 b3 b4 b5) := by
  unfold six_put
  constructor
  · exact (((((h.set 0 (by simp) b0).set 1 (by simp) b1).set 2 (by simp) b2).set 3 (by simp) b3).set 4 (by simp) b4).set 5 (by simp) b5
  · exact (((((keep_set w q 0 b0).trans (keep_set _ q 1 b1) (fun _ _ x => x)).trans (keep_set _ q 2 b2) (fun _ _ x => x)).trans (keep_set _ q 3 b3) (fun _ _ x => x)).trans (keep_set _ q 4 b4) (fun _ _ x => x)).trans (keep_set _ q 5 b5) (fun _ _ x => x)
/-- Nothing old was turned but a block that is new. -/
structure OutWq (w : World) (q : Nat) (w' : World) : Prop where
  k : Keep (· = q) w w'
  h : w.heap.size ≤ q
theorem OutWq.of {w w' : World} {q : Nat} (k : Keep (fun _ => False) w w') (h : w.heap.size ≤ q) : OutWq w q w' := ⟨k.mono (fun _ _ x => x.elim), h⟩
theorem OutWq.trans {w w' w2 : World} {q : Nat} (h : OutWq w q w') (k : Keep (· = q) w' w2) : OutWq w q w2 := ⟨h.k.trans k (fun _ _ x => x), h.h⟩
theorem OutWq.below {w w' : World} {q : Nat} (h : OutWq w q w') : Below w.heap.size w w' := h.k.below (Nat.le_refl _) (fun j hj e => by have := h.h; omega)
theorem OutWq.facts {w w' : World} {q tq pq g7 c7 i : Nat} {f g : Int} {bo u iv : Bool} {F : Nat → CellM} (h : OutWq w q w')
    (hc : ∀ V, Keep (fun _ => False) w V → V.cell? ⟨tq, 2, none⟩ = some (.slice (some ⟨g7, 0, none⟩) 20 c7) ∧ V.cell? ⟨pq, 0, none⟩ = some (.int .i64 f) ∧ V.cell? ⟨pq, 1, none⟩ = some (.int .i64 g) ∧ V.cell? ⟨pq, 2, none⟩ = some (.bool bo) ∧ V.cell? ⟨pq, 3, none⟩ = some (.bool u) ∧ V.cell? ⟨pq, 4, none⟩ = some (.bool iv) ∧ tq < V.heap.size ∧ pq < V.heap.size)
    (hg : g7 < w.heap.size) (hs : Src w (some ⟨g7, 0, none⟩) 120 (flatF F 20)) (hi : i < 20) :
    w'.cell? ⟨tq, 2, none⟩ = some (.slice (some ⟨g7, 0, none⟩) 20 c7) ∧ w'.cell? ⟨g7, i * 6, none⟩ = some (.int .i32 (F i).r) ∧ w'.cell? ⟨g7, i * 6 + 1, none⟩ = some (.int .i64 (F i).a.fg) ∧ w'.cell? ⟨g7, i * 6 + 2, none⟩ = some (.int .i64 (F i).a.bg) ∧
    w'.cell? ⟨g7, i * 6 + 3, none⟩ = some (.bool (F i).a.b) ∧ w'.cell? ⟨g7, i * 6 + 4, none⟩ = some (.bool (F i).a.u) ∧ w'.cell? ⟨g7, i * 6 + 5, none⟩ = some (.bool (F i).a.i) := by
  obtain ⟨c2, -, -, -, -, -, htl, -⟩ := hc w (Keep.refl _ _)
  have hq := h.h
  obtain ⟨g8, o8, hg8, -, hc8⟩ := (hs.of_keep h.k (fun j hj e => by simp [blk] at hj; omega)).2 (by omega)
  cases hg8
  have r : ∀ j v, (cellCs (F i))[j]? = some v → w'.cell? ⟨g7, i * 6 + j, none⟩ = some v := fun j v hv => by have := hc8 _ _ (flatF_row F 20 i j v hi hv); simpa using this
  exact ⟨(h.k.cell (p := ⟨tq, 2, none⟩) htl (by show ¬ tq = q; omega)).trans c2, r 0 _ rfl, r 1 _ rfl, r 2 _ rfl, r 3 _ rfl, r 4 _ rfl, r 5 _ rfl⟩

set_option maxRecDepth 100000 in
set_option maxHeartbeats 1600000 in
theorem emuPens_early (A0 : Option Addr) (n cap : Nat) (x : Int) (w : World) (h : (n : Int) > 12) :
    Calls Tryz.prog 4 #[.slice A0 n cap, .int .i64 x] w fun e w' => e = .returned (.bool true) ∧ Below w.heap.size w w' := by
  go_enter Tryz.func4, Tryz.ntmps4
  go_wp2_with fail
  refine (emu_alive _).mono ?_
  rintro e w1 ⟨rfl, hb⟩
  have HB := Lib.hid hb
  clear hb
  go_wp2_with fail
  go_ret
  exact ⟨rfl, HB.out⟩

/-- What the first loop has made. -/
structure PenR (w : World) (ns : List Nat) (k : Nat) (S : ByteArray) (A : Option Addr) (c : Nat) (wr : World) : Prop where
  s : natsOf S = penT ns k
  z : S.size ≤ 4 * k
  o : wr.ownsRow w.heap.size 3 1 (.slice A k c) k ((penL ns k).map (Value.int .i64))
  b : Below w.heap.size w wr
theorem three_decN {n : Nat} (h : n < 1000) : (decN n).length ≤ 3 := decN_len 2 n (by omega)

set_option maxRecDepth 100000 in
set_option maxHeartbeats 12800000 in
theorem walk_EmuPens (A0 : Option Addr) (n cap : Nat) (xs : List Int) (x : Int) (wx : (Lit.int .i64 x).wf = true) (w : World) (h : Ints w A0 n xs) :
    Calls Tryz.prog 4 #[.slice A0 n cap, .int .i64 x] w fun e w' => e = .returned (.bool true) ∧ Below w.heap.size w w' := by
  by_cases h12 : (n : Int) > 12
  · exact emuPens_early A0 n cap x w h12
  obtain ⟨i0, hi0, hz0, hz1, hz2⟩ := info_parts int_info
  have HN := Lib.hid (fun V => emu_newF V 10 2 10 2 rfl rfl)
  have HS := Lib.hid (src_ints h)
  have HL := Lib.hid h.1
  obtain ⟨tp, htp, tp1, tp2, p, hp, hpl⟩ : ∃ tm : Int, x.tmod 9 = tm ∧ -9 < tm ∧ tm < 9 ∧ ∃ r : Nat, (tm + 9) % 9 = (r : Int) ∧ r < 9 := rest_twice x 9 (by omega)
  have HDX : Hid (∀ V, Calls Tryz.prog 13 #[.int .i64 ((p : Int) + 1)] V fun e w' => e = .returned (.string (bytesN (decN (p + 1)))) ∧ Below V.heap.size V w') := Lib.hid (fun V => digits_any (p + 1) (by omega) V)
  have hpl2 : (p : Int) < 9 := by omega
  have HPL := Lib.hid hpl
  clear h wx hpl
  go_enter Tryz.func4, Tryz.ntmps4
  go_wp2_with fail
  refine (emu_alive _).mono ?_
  rintro v w1 ⟨rfl, hb1⟩
  have HE1 := Lib.hid ((Ems.start w).quiet (Keep.of_below _ hb1))
  clear hb1
  go_wp2_with fail
  refine (HN.out _).mono ?_
  rintro v w2 h2
  obtain ⟨e, L, rfl, -, he2⟩ := HE1.out.add h2
  have HE2 : Hid (Ems w w2 [⟨e, L, 0, (pAt 0, EmM.new 10 2)⟩]) := Lib.hid he2
  clear h2 he2 HE1 HN
  have HXS : Hid (Src w2 A0 n (xs.map (Value.int .i64))) := Lib.hid (HS.out.keep HE2.out.k)
  clear HS
  go_wp2_with fail
  go_loopw [6, 7, 8] (fun s v i wr => ∃ (k : Nat) (S : ByteArray) (A : Option Addr) (c : Nat), i = .int .i64 k ∧ k ≤ n ∧ k ≤ 8 ∧ s = .string S ∧ v = .slice A k c ∧ Hid (PenR w2 (remsL xs) k S A c wr)) (fun _ _ i _ => n - (intOf i).toNat)
  case atStart => exact ⟨0, _, none, 0, rfl, Nat.zero_le _, Nat.zero_le _, rfl, rfl, Lib.hid ⟨by simp [natsOf, penT], by show 0 ≤ _; omega, World.ownsRow_nil _ _ _ _, Below.refl _ _⟩⟩
  case round =>
    obtain ⟨k, S, A, c, rfl, hk, hk8, rfl, rfl, HR⟩ := hrel
    by_cases hlt : k < n ∧ k < 8
    · obtain ⟨y, hy⟩ : ∃ y, xs[k]? = some y := ⟨xs[k]'(by rw [HL.out]; exact hlt.1), List.getElem?_eq_getElem _⟩
      obtain ⟨b, off, rfl, hbl, hcs⟩ := (HXS.out.below HR.out.b).2 (by omega)
      have hcx : wr.cell? ⟨b, off + k, none⟩ = some (.int .i64 y) := hcs k _ (by rw [List.getElem?_map, hy]; rfl)
      obtain ⟨tm, ht1, ht2, ht3, d, hd, hdl, hrd⟩ := rem_known y
      have HGD : Hid ((remsL xs).getD k 0 = d) := Lib.hid (by unfold remsL; rw [List.getD_eq_getElem?_getD, List.getElem?_map, hy]; exact hrd)
      have hkl : Hid (k < (remsL xs).length) := Lib.hid (by unfold remsL; rw [List.length_map, HL.out]; exact hlt.1)
      have hki : ((k : Int) < (n : Int)) := by omega
      have hk8i : ((k : Int) < 8) := by omega
      have hk0 : (0 : Int) ≤ (k : Int) := by omega
      have HLT := Lib.hid hlt
      have hSz : S.size ≤ 200 := by have := HR.out.z; omega
      have HSZ := Lib.hid hSz
      have q59 : S.size + (⟨#[59]⟩ : ByteArray).size ≤ 9223372036854775807 := by show S.size + 1 ≤ _; omega
      have HDG := Lib.hid (fun V => digits_any d (by omega) V)
      obtain ⟨D, hD⟩ : ∃ D, D = bytesN (decN d) := ⟨_, rfl⟩
      have hDs : D.size ≤ 3 := by rw [hD, bytesN_size]; exact three_decN (by omega)
      have hDn : natsOf D = decN d := by rw [hD]; exact natsOf_decN d
      rw [← hD] at HDG
      have HDN := Lib.hid hDn
      have HDS := Lib.hid hDs
      clear hcs hy hSz hD hDs hDn hlt hk hk8 hrd
      rcases Nat.eq_zero_or_pos k with hk00 | hkp
      · subst hk00
        have hcx0 : wr.cell? ⟨b, off, none⟩ = some (.int .i64 y) := hcx
        have hqD : S.size + D.size ≤ 9223372036854775807 := by have := HSZ.out; have := HDS.out; omega
        have HPT : Hid (penT (remsL xs) (0 + 1) = penT (remsL xs) 0 ++ decN d) := Lib.hid (by rw [← HGD.out]; rfl)
        go_wp2_with fail
        refine (HDG.out _).mono ?_
        rintro e5 w5 ⟨rfl, hb5⟩
        have O5 : Hid (w5.ownsRow w2.heap.size 3 1 (.slice A 0 c) 0 ((penL (remsL xs) 0).map (Value.int .i64))) := Lib.hid (own_below HR.out.o hb5 (fun i hi => (HR.out.o.lt i hi).2))
        have B5 : Hid (Below w2.heap.size w2 w5) := Lib.hid (HR.out.b.trans (hb5.mono HR.out.b.size))
        clear hb5 HDG
        go_wp2_with (at_builtin; refine wpList_own_at _ rfl (.tmp 50) (.tmp 52) 40 rfl w2.heap.size 3 i0 (.int .i64 0) 1 8 Tryz.underlying40 hi0 hz0 hz1 hz2 rfl (by decide) (.slice A 0 c) 0 ((penL (remsL xs) 0).map (Value.int .i64)) rfl (O5.out.alloc _) ⟨w5.heap.size, 0, none⟩ 1 1 [.int .i64 (d : Int)] rfl rfl (cell_one_new _ _ _) ?c2 ?c3 ?c4 ?c5 ?_)
        case c2 => first | rfl | (intro u hu; simp at hu; subst hu; rfl)
        case c3 => have := HLT.out; unfold maxLen; omega
        case c4 => have := HLT.out; omega
        case c5 => have := B5.out.size; simp; omega
        intro v6 w6 hown6 hk6 hat6
        obtain ⟨A6, c6, rfl, -⟩ := own_form hown6
        have HN6 : Hid (PenR w2 (remsL xs) (0 + 1) (S ++ D) A6 c6 w6) := Lib.hid (by
          refine ⟨?_, ?_, ?_, B5.out.trans (((Below.refl _ w5).alloc (Nat.le_refl _) _ |>.mono B5.out.size).trans (hk6.below (by have := B5.out.size; simp; omega) (fun j hj e => by have := (O5.out.lt j e).1; omega)))⟩
          · rw [HPT.out, ← HR.out.s]
            try simp only [natsOf_add, List.append_assoc]
            rw [HDN.out]
            try rfl
          · have := HR.out.z; have := HDS.out; simp only [ByteArray.size_append]; try have : (⟨#[59]⟩ : ByteArray).size = 1 := rfl
            omega
          · rw [penL_succ _ _ hkl.out, HGD.out, List.map_append]
            exact hown6)
        clear hown6 hk6 hat6
        go_wp2_with fail
        go_roundw
        case rel => exact ⟨0 + 1, _, A6, c6, by go_num, by have := HLT.out; omega, by have := HLT.out; omega, rfl, rfl, HN6⟩
        case measure => have := HLT.out; simp [intOf]; omega
      · have hkg : ((k : Int) > 0) := by omega
        have hqD : (S ++ ⟨#[59]⟩).size + D.size ≤ 9223372036854775807 := by have := HSZ.out; have := HDS.out; rw [ByteArray.size_append]; show S.size + 1 + D.size ≤ _; omega
        have HPT : Hid (penT (remsL xs) (k + 1) = penT (remsL xs) k ++ ([59] ++ decN d)) := Lib.hid (by rw [← HGD.out, penT, if_pos hkp])
        clear hkp
        go_wp2_with fail
        refine (HDG.out _).mono ?_
        rintro e5 w5 ⟨rfl, hb5⟩
        have O5 : Hid (w5.ownsRow w2.heap.size 3 1 (.slice A k c) k ((penL (remsL xs) k).map (Value.int .i64))) := Lib.hid (own_below HR.out.o hb5 (fun i hi => (HR.out.o.lt i hi).2))
        have B5 : Hid (Below w2.heap.size w2 w5) := Lib.hid (HR.out.b.trans (hb5.mono HR.out.b.size))
        clear hb5 HDG
        go_wp2_with (at_builtin; refine wpList_own_at _ rfl (.tmp 50) (.tmp 52) 40 rfl w2.heap.size 3 i0 (.int .i64 0) 1 8 Tryz.underlying40 hi0 hz0 hz1 hz2 rfl (by decide) (.slice A k c) k ((penL (remsL xs) k).map (Value.int .i64)) rfl (O5.out.alloc _) ⟨w5.heap.size, 0, none⟩ 1 1 [.int .i64 (d : Int)] rfl rfl (cell_one_new _ _ _) ?c2 ?c3 ?c4 ?c5 ?_)
        case c2 => first | rfl | (intro u hu; simp at hu; subst hu; rfl)
        case c3 => have := HLT.out; unfold maxLen; omega
        case c4 => have := HLT.out; omega
        case c5 => have := B5.out.size; simp; omega
        intro v6 w6 hown6 hk6 hat6
        obtain ⟨A6, c6, rfl, -⟩ := own_form hown6
        have HN6 : Hid (PenR w2 (remsL xs) (k + 1) (S ++ ⟨#[59]⟩ ++ D) A6 c6 w6) := Lib.hid (by
          refine ⟨?_, ?_, ?_, B5.out.trans (((Below.refl _ w5).alloc (Nat.le_refl _) _ |>.mono B5.out.size).trans (hk6.below (by have := B5.out.size; simp; omega) (fun j hj e => by have := (O5.out.lt j e).1; omega)))⟩
          · rw [HPT.out, ← HR.out.s]
            try simp only [natsOf_add, List.append_assoc]
            rw [HDN.out]
            try rfl
          · have := HR.out.z; have := HDS.out; simp only [ByteArray.size_append]; try have : (⟨#[59]⟩ : ByteArray).size = 1 := rfl
            omega
          · rw [penL_succ _ _ hkl.out, HGD.out, List.map_append]
            exact hown6)
        clear hown6 hk6 hat6
        go_wp2_with fail
        go_roundw
        case rel => exact ⟨k + 1, _, A6, c6, by go_num, by have := HLT.out; omega, by have := HLT.out; omega, rfl, rfl, HN6⟩
        case measure => have := HLT.out; simp [intOf]; omega
    · have hkk : k ≤ 8 ∧ k ≤ (remsL xs).length := ⟨hk8, by unfold remsL; rw [List.length_map, HL.out]; exact hk⟩
      have HK := Lib.hid hkk
      obtain ⟨q, hq⟩ : ∃ q, sgrL .z (penL (remsL xs) k) = q := ⟨_, rfl⟩
      have hfd := pens_says (remsL xs) (remsL_le xs) k hkk.2 hkk.1 p HPL.out
      have hsg := ref_sgr .z A k c (penL (remsL xs) k) wr (Buf.of_own HR.out.o).src (by omega) (fun y hy => by
        obtain ⟨m, hm, rfl⟩ := List.mem_map.1 hy
        have := remsL_le xs m (List.mem_of_mem_take hm)
        omega)
      rw [hq] at hfd hsg
      obtain ⟨f, g, bo, u, iv⟩ := q
      simp only [At.v, At.z] at hsg
      have HSG := Lib.hid hsg
      have HFD := Lib.hid hfd
      have hnk : ((k : Int) < (n : Int)) ∧ ¬ ((k : Int) < 8) ∨ ¬ ((k : Int) < (n : Int)) := by omega
      clear hk hk8 hlt hkk hq hsg hfd
      rcases hnk with ⟨hnk, hn8⟩ | hnk
      all_goals
        go_wp2_with fail
        refine HSG.out.mono ?_
        rintro v w7 ⟨rfl, hb7⟩
        have HE7 : Hid (Ems w w7 [⟨e, L, 0, (pAt 0, EmM.new 10 2)⟩]) := Lib.hid (HE2.out.quiet (Keep.of_below _ (HR.out.b.trans (hb7.mono HR.out.b.size))))
        obtain ⟨W8, hW8⟩ : ∃ W8, W8 = w7.alloc (.cells #[.int .i64 f, .int .i64 g, .bool bo, .bool u, .bool iv] 43) := ⟨_, rfl⟩
        have HE8 : Hid (Ems w W8 [⟨e, L, 0, (pAt 0, EmM.new 10 2)⟩]) := Lib.hid (by rw [hW8]; exact HE7.out.quiet ((Keep.refl (fun _ => False) w7).alloc _))
        obtain ⟨pq, hpq⟩ : ∃ pq, pq = w7.heap.size := ⟨_, rfl⟩
        have HP8 : Hid (Kp W8 e L pq (.cells #[.int .i64 f, .int .i64 g, .bool bo, .bool u, .bool iv] 43)) := Lib.hid (by rw [hW8, hpq]; exact Kp.new HE7.out.one _)
        clear hb7 HE7 HSG
        go_upto_region 17 with fail
        rw [← hW8, ← hpq]
        clear hW8 hpq
        go_wp2_with fail
        refine (HDX.out _).mono ?_
        rintro v w9 ⟨rfl, hb9⟩
        have HE9 := Lib.hid (HE8.out.quiet (Keep.of_below _ hb9))
        have HP9 := Lib.hid (HP8.out.quiet HE8.out.one (Keep.of_below _ hb9))
        have HF := Lib.hid (fed1 (k' := 1000) (m' := pnM 10 2 (pensF ⟨f, g, bo, u, iv⟩ p) ⟨f, g, bo, u, iv⟩ 0 1 false) (o := []) HE9.out [⟨#[27, 91]⟩, S, ⟨#[109, 27, 91, 49, 59]⟩, bytesN (decN (p + 1)), ⟨#[72, 122, 27, 91, 50, 59, 49, 72, 27, 91, 75]⟩] 5 rfl (by omega) (Nat.le_trans (pens_size S p (by have := HR.out.z; have := HK.out; omega) (by have := HPL.out; omega)) (by omega)) (by omega) (by have := pens_size S p (by have := HR.out.z; have := HK.out; omega) (by have := HPL.out; omega); omega) (by
          rw [pens_nats S _ p HR.out.s]; exact HFD.out))
        obtain ⟨d1, hd1⟩ : ∃ d1, bytesN (decN (p + 1)) = d1 := ⟨_, rfl⟩
        rw [hd1] at HF
        rw [hd1]
        clear hb9 hd1 HE8 HP8
        go_wp2_with fail
        refine HF.out.mono ?_
        rintro v w10 ⟨rfl, L4, he10, hkp10, -⟩
        have HE10 := Lib.hid he10
        have HP10 := Lib.hid (hkp10 _ _ HP9.out)
        have HSC := Lib.hid (emu_screen w10 e L4 _ he10.one.r)
        clear he10 hkp10 HF HP9 HE9
        go_wp2_with fail
        refine HSC.out.mono ?_
        rintro v w11 ⟨g7, c7, rfl, hg7, hgl7, -, hs7, hb7⟩
        have hsv : scrV (pnM 10 2 (pensF ⟨f, g, bo, u, iv⟩ p) ⟨f, g, bo, u, iv⟩ 0 1 false) (some ⟨g7, 0, none⟩) c7 = .agg #[.int .i64 10, .int .i64 2, .slice (some ⟨g7, 0, none⟩) 20 c7, .int .i64 0, .int .i64 1, .bool false] := rfl
        rw [hsv]
        obtain ⟨W12, hW12⟩ : ∃ W12, W12 = w11.alloc (.cells #[.int .i64 10, .int .i64 2, .slice (some ⟨g7, 0, none⟩) 20 c7, .int .i64 0, .int .i64 1, .bool false] 34) := ⟨_, rfl⟩
        obtain ⟨tq, htq⟩ : ∃ tq, tq = w11.heap.size := ⟨_, rfl⟩
        have K12 : Keep (fun _ => False) w11 W12 := by rw [hW12]; exact (Keep.refl _ w11).alloc _
        have hq12 : W12.heap[tq]? = some (.cells #[.int .i64 10, .int .i64 2, .slice (some ⟨g7, 0, none⟩) 20 c7, .int .i64 0, .int .i64 1, .bool false] 34 (0, 0)) := by rw [hW12, htq]; exact heap_alloc_new w11 _
        have hp12 : W12.heap[pq]? = some (.cells #[.int .i64 f, .int .i64 g, .bool bo, .bool u, .bool iv] 43 (0, 0)) := by
          have K := (Keep.of_below (fun _ => False) hb7).trans K12 (fun _ _ x => x)
          exact (K.block pq (lt_heap HP10.out.1) (fun x => x)).trans HP10.out.1
        have HC12 : Hid (∀ V, Keep (fun _ => False) W12 V → V.cell? ⟨tq, 2, none⟩ = some (.slice (some ⟨g7, 0, none⟩) 20 c7) ∧ V.cell? ⟨pq, 0, none⟩ = some (.int .i64 f) ∧ V.cell? ⟨pq, 1, none⟩ = some (.int .i64 g) ∧ V.cell? ⟨pq, 2, none⟩ = some (.bool bo) ∧ V.cell? ⟨pq, 3, none⟩ = some (.bool u) ∧ V.cell? ⟨pq, 4, none⟩ = some (.bool iv) ∧ tq < V.heap.size ∧ pq < V.heap.size) := Lib.hid (fun V k => by
          have q1 := (k.block tq (lt_heap hq12) (fun x => x)).trans hq12
          have q2 := (k.block pq (lt_heap hp12) (fun x => x)).trans hp12
          exact ⟨cell_at q1 2, cell_at q2 0, cell_at q2 1, cell_at q2 2, cell_at q2 3, cell_at q2 4, lt_heap q1, lt_heap q2⟩)
        have HS12 : Hid (Src W12 (some ⟨g7, 0, none⟩) 120 (flatF (pensF ⟨f, g, bo, u, iv⟩ p) 20)) := Lib.hid (hs7.keep K12)
        have HB12 : Hid (Below w.heap.size w W12) := Lib.hid ((HE10.out.quiet (Keep.of_below _ hb7)).quiet K12).below
        have c2 := (HC12.out W12 (Keep.refl _ _)).1
        have HG7 : Hid (g7 < W12.heap.size) := Lib.hid (Nat.lt_of_lt_of_le hgl7 K12.size)
        clear hg7 hgl7 hs7 hb7 hsv K12 hq12 hp12 HSC HP10 HE10
        go_upto_region 20 with fail
        rw [← hW12, ← htq]
        clear hW12 htq
        go_wp2_with fail
        go_loopw [12] (fun vi wr => ∃ i : Nat, vi = .int .i64 (i : Int) ∧ i ≤ 20 ∧ Hid (Below W12.heap.size W12 wr)) (fun vi _ => 20 - (intOf vi).toNat)
        case atStart => exact ⟨0, rfl, by omega, Lib.hid (Below.refl _ _)⟩
        case round =>
          clear c2
          obtain ⟨i, rfl, hi, HBr⟩ := hrel
          by_cases hlt : i < 20
          · have hii : (i : Int) < 20 := by omega
            have hi0 : (0 : Int) ≤ (i : Int) := by omega
            have HI := Lib.hid hlt
            obtain ⟨W13, hW13⟩ : ∃ W13, W13 = wr.alloc (.cells #[.int .i32 32, .int .i64 0, .int .i64 0, .bool false, .bool false, .bool false] 46) := ⟨_, rfl⟩
            obtain ⟨wq, hwq⟩ : ∃ wq, wq = wr.heap.size := ⟨_, rfl⟩
            have K13 : Hid (Keep (fun _ => False) W12 W13) := Lib.hid (by rw [hW13]; exact (Keep.of_below (fun _ => False) HBr.out).alloc _)
            have Z13 : Hid (Cells W13 wq [.int .i32 32, .int .i64 0, .int .i64 0, .bool false, .bool false, .bool false]) := Lib.hid (by rw [hW13, hwq]; exact Cells.box wr _ _)
            have HWQ : Hid (W12.heap.size ≤ wq) := Lib.hid (by rw [hwq]; exact HBr.out.size)
            clear hlt hi
            go_upto_region 26 with fail
            rw [← hW13, ← hwq]
            clear hW13 hwq
            by_cases h10 : 10 ≤ i
            · have ev : pensF ⟨f, g, bo, u, iv⟩ p i = ⟨32, ⟨0, g, false, false, false⟩⟩ := by unfold pensF; rw [if_pos (by have := HI.out; omega)]; rfl
              have EV := Lib.hid ev
              have hip : ((i : Int) == (p : Int)) = false := by have := HPL.out; simp; omega
              have hig : (i : Int) ≥ 10 := by omega
              have HBL := Lib.hid (fun V => ref_blank ⟨f, g, bo, u, iv⟩ V)
              simp only [At.v, CellM.v] at HBL
              obtain ⟨-, x0, x1, x2, x3, x4, -, hpl⟩ := HC12.out W13 K13.out
              clear ev h10
              go_wp2_with fail
              refine (HBL.out _).mono ?_
              rintro v w14 ⟨rfl, hb14⟩
              have K14 : Hid (Keep (fun _ => False) W12 w14) := Lib.hid (K13.out.trans (Keep.of_below _ hb14) (fun _ _ x => x))
              have Z14 : Hid (Cells w14 wq [.int .i32 32, .int .i64 0, .int .i64 0, .bool false, .bool false, .bool false]) := Lib.hid (Z13.out.keep (Keep.of_below (fun _ => False) hb14) (fun x => x))
              clear hb14 x0 x1 x2 x3 x4 hpl HBL
              obtain ⟨⟨z0, f0⟩, ⟨z1, f1⟩, ⟨z2, f2⟩, ⟨z3, f3⟩, ⟨z4, f4⟩, ⟨z5, f5⟩⟩ := six_cells Z14.out
              go_upto_region 30 with fail
              obtain ⟨W15, hW15⟩ : ∃ W15, W15 = six_put w14 wq (.int .i32 32) (.int .i64 0) (.int .i64 g) (.bool false) (.bool false) (.bool false) := ⟨_, rfl⟩
              have hs := six_set w14 wq (.int .i32 32) (.int .i64 0) (.int .i64 g) (.bool false) (.bool false) (.bool false) Z14.out
              have K15 : Hid (OutWq W12 wq W15) := Lib.hid (by rw [hW15]; exact (OutWq.of K14.out HWQ.out).trans hs.2)
              have Z15 : Hid (Cells W15 wq [.int .i32 32, .int .i64 0, .int .i64 g, .bool false, .bool false, .bool false]) := Lib.hid (by rw [hW15]; exact hs.1)
              clear z0 f0 z1 f1 z2 f2 z3 f3 z4 f4 z5 f5 hs K14 Z14 K13 Z13
              unfold six_put at hW15
              rw [← hW15]
              clear hW15
              have hx := K15.out.facts HC12.out HG7.out HS12.out HI.out
              rw [EV.out] at hx
              obtain ⟨c2, y0, y1, y2, y3, y4, y5⟩ := hx
              obtain ⟨⟨z0, -⟩, ⟨z1, -⟩, ⟨z2, -⟩, ⟨z3, -⟩, ⟨z4, -⟩, ⟨z5, -⟩⟩ := six_cells Z15.out
              have e1 : (f == f) = true := by simp
              have e2 : (g == g) = true := by simp
              have e3 : (bo == bo) = true := by simp
              have e4 : (u == u) = true := by simp
              have e5 : (iv == iv) = true := by simp
              clear EV
              go_upto_region 30 with fail
              go_quiet (fail)
              go_wp2_with fail
              go_roundw
              case rel => exact ⟨i + 1, by go_num, by have := HI.out; omega, Lib.hid (Below.drewN' K15.out.below _)⟩
              case measure => have := HI.out; simp [intOf]; omega
            · have hig : ¬ (i : Int) ≥ 10 := by omega
              by_cases hip : i = p
              · have ev : pensF ⟨f, g, bo, u, iv⟩ p i = ⟨122, ⟨f, g, bo, u, iv⟩⟩ := by unfold pensF; rw [if_neg (by omega), if_pos hip]
                have EV := Lib.hid ev
                have hipb : ((i : Int) == (p : Int)) = true := by simp; omega
                obtain ⟨-, x0, x1, x2, x3, x4, -, hpl⟩ := HC12.out W13 K13.out
                obtain ⟨⟨z0, f0⟩, ⟨z1, f1⟩, ⟨z2, f2⟩, ⟨z3, f3⟩, ⟨z4, f4⟩, ⟨z5, f5⟩⟩ := six_cells Z13.out
                clear ev h10 hip
                go_upto_region 28 with fail
                obtain ⟨W15, hW15⟩ : ∃ W15, W15 = six_put W13 wq (.int .i32 122) (.int .i64 f) (.int .i64 g) (.bool bo) (.bool u) (.bool iv) := ⟨_, rfl⟩
                have hs := six_set W13 wq (.int .i32 122) (.int .i64 f) (.int .i64 g) (.bool bo) (.bool u) (.bool iv) Z13.out
                have K15 : Hid (OutWq W12 wq W15) := Lib.hid (by rw [hW15]; exact (OutWq.of K13.out HWQ.out).trans hs.2)
                have Z15 : Hid (Cells W15 wq [.int .i32 122, .int .i64 f, .int .i64 g, .bool bo, .bool u, .bool iv]) := Lib.hid (by rw [hW15]; exact hs.1)
                clear z0 f0 z1 f1 z2 f2 z3 f3 z4 f4 z5 f5 hs K13 Z13 x0 x1 x2 x3 x4 hpl
                unfold six_put at hW15
                rw [← hW15]
                clear hW15
                have hx := K15.out.facts HC12.out HG7.out HS12.out HI.out
                rw [EV.out] at hx
                obtain ⟨c2, y0, y1, y2, y3, y4, y5⟩ := hx
                obtain ⟨⟨z0, -⟩, ⟨z1, -⟩, ⟨z2, -⟩, ⟨z3, -⟩, ⟨z4, -⟩, ⟨z5, -⟩⟩ := six_cells Z15.out
                have e1 : (f == f) = true := by simp
                have e2 : (g == g) = true := by simp
                have e3 : (bo == bo) = true := by simp
                have e4 : (u == u) = true := by simp
                have e5 : (iv == iv) = true := by simp
                clear EV
                go_upto_region 30 with fail
                go_quiet (fail)
                go_wp2_with fail
                go_roundw
                case rel => exact ⟨i + 1, by go_num, by have := HI.out; omega, Lib.hid (Below.drewN' K15.out.below _)⟩
                case measure => have := HI.out; simp [intOf]; omega
              · have ev : pensF ⟨f, g, bo, u, iv⟩ p i = ⟨32, ⟨0, 0, false, false, false⟩⟩ := by unfold pensF; rw [if_neg (by omega), if_neg hip]; rfl
                have EV := Lib.hid ev
                have hipb : ((i : Int) == (p : Int)) = false := by simp; omega
                have K15 : Hid (OutWq W12 wq W13) := Lib.hid (OutWq.of K13.out HWQ.out)
                have Z15 := Z13
                clear ev h10 hip K13 Z13
                obtain ⟨W15, hW15⟩ : ∃ W15, W15 = W13 := ⟨_, rfl⟩
                rw [← hW15] at K15 Z15
                rw [← hW15]
                clear hW15
                have hx := K15.out.facts HC12.out HG7.out HS12.out HI.out
                rw [EV.out] at hx
                obtain ⟨c2, y0, y1, y2, y3, y4, y5⟩ := hx
                obtain ⟨⟨z0, -⟩, ⟨z1, -⟩, ⟨z2, -⟩, ⟨z3, -⟩, ⟨z4, -⟩, ⟨z5, -⟩⟩ := six_cells Z15.out
                have e1 : (f == f) = true := by simp
                have e2 : (g == g) = true := by simp
                have e3 : (bo == bo) = true := by simp
                have e4 : (u == u) = true := by simp
                have e5 : (iv == iv) = true := by simp
                clear EV
                go_upto_region 30 with fail
                go_quiet (fail)
                go_wp2_with fail
                go_roundw
                case rel => exact ⟨i + 1, by go_num, by have := HI.out; omega, Lib.hid (Below.drewN' K15.out.below _)⟩
                case measure => have := HI.out; simp [intOf]; omega
          · have hii : ¬ (i : Int) < 20 := by omega
            go_wp2_with fail
            go_ret
            exact ⟨rfl, HB12.out.trans (HBr.out.mono HB12.out.size)⟩

end Go.Proofs.YtnminmaklbhakaaGreatDoor
