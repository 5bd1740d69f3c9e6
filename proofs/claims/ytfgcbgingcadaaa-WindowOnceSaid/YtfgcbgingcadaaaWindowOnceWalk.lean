/- Law WindowOnce: the walk. Own work. -/
import Derived.Test.YtfgcbgingcadaaaWinAt
import Derived.Test.YtfgcbgingcadaaaWindowOnceM
import Derived.Test.YtfgcbgingcadaaaInfoI
import Derived.Test.YtfgcbgingcadaaaBufs
import Derived.Deep.QuietTactic
import Derived.BigQuiet
import Derived.Deep.DeepCutAuto
import Derived.Deep.CutRange
import Derived.Deep.RegionHeld3
import Derived.RegionCalls
import Derived.Deep.RegionWith
import Derived.Carry
namespace Go.Proofs.Ytfgcbgingcadaaa
set_option linter.unusedVariables false
set_option linter.unusedSimpArgs false
open Go.RowKit

/-- What is kept between the rounds. -/
structure OnceAt (w0 : World) (pw pm : Nat) (j : Int) (s m : Nat) (w : World) : Prop where
  win : WinAt w pw j s
  map : MapI Try.prog 3 w pm m (cntI j)
  base : Below w0.heap.size w0 w
  lw : w0.heap.size ≤ pw
  lm : w0.heap.size ≤ pm
  ne : pw ≠ pm

theorem OnceAt.keep {w0 w w' : World} {pw pm : Nat} {j : Int} {s m : Nat} (h : OnceAt w0 pw pm j s m w) {S : Nat → Prop} (k : Keep S w w') (h1 : ¬ S pw) (h2 : ¬ S pm) (h3 : ∀ i, S i → w0.heap.size ≤ i) : OnceAt w0 pw pm j s m w' :=
  ⟨h.win.keep k h1, h.map.keep k h2, h.base.trans (k.below h.base.size (fun i hi hs => by have := h3 i hs; omega)), h.lw, h.lm, h.ne⟩
theorem OnceAt.alloc {w0 w : World} {pw pm : Nat} {j : Int} {s m : Nat} (h : OnceAt w0 pw pm j s m w) (o : Obj) : OnceAt w0 pw pm j s m (w.alloc o) := h.keep (S := fun _ => False) ((Keep.refl _ w).alloc o) (fun x => x) (fun x => x) (fun _ x => x.elim)
theorem OnceAt.below {w0 w w' : World} {pw pm : Nat} {j : Int} {s m : Nat} (h : OnceAt w0 pw pm j s m w) (k : Below w.heap.size w w') : OnceAt w0 pw pm j s m w' := h.keep (S := fun _ => False) (Keep.of_below _ k) (fun x => x) (fun x => x) (fun _ x => x.elim)
theorem OnceAt.drew {w0 w : World} {pw pm : Nat} {j : Int} {s m : Nat} (h : OnceAt w0 pw pm j s m w) : OnceAt w0 pw pm j s m w.drew := h.keep (S := fun _ => False) ((Keep.refl _ w).drew) (fun x => x) (fun x => x) (fun _ x => x.elim)
theorem OnceAt.drewN {w0 w : World} {pw pm : Nat} {j : Int} {s m : Nat} (h : OnceAt w0 pw pm j s m w) (k : Nat) : OnceAt w0 pw pm j s m (w.drewN k) := h.keep (S := fun _ => False) ((Keep.refl _ w).drewN k) (fun x => x) (fun x => x) (fun _ x => x.elim)

/-- The list of a round: what stands in it. -/
structure LstAt (w : World) (A : Option Addr) (len cap : Nat) (lst : List Int) (j : Nat) (pw : Nat) : Prop where
  buf : Buf w A len cap (lst.map (Value.int .i64))
  ne : ∀ k, blk A = some k → pw ≠ k ∧ pw + 1 ≠ k
  head : lst[0]? = some ((j : Int) + 1)
  all : ∀ x ∈ lst, x ≤ (j : Int) + 1 ∧ (j : Int) + 1 - 64 < x
  le : len ≤ 3

theorem LstAt.keep {S : Nat → Prop} {w w' : World} {A : Option Addr} {len cap : Nat} {lst : List Int} {j pw : Nat} (h : LstAt w A len cap lst j pw) (k : Keep S w w') (hn : ∀ i, S i → pw = i ∨ pw + 1 = i ∨ w.heap.size ≤ i) : LstAt w' A len cap lst j pw :=
  ⟨h.buf.keep k (fun i hi hs => by
    have h1 := h.ne i hi
    have h2 := h.buf.lt hi
    rcases hn i hs with e | e | e
    · exact h1.1 e
    · exact h1.2 e
    · omega), h.ne, h.head, h.all, h.le⟩

theorem lst_new0 (wr : World) (j : Nat) : Buf (wr.alloc (.cells #[.int .i64 ((j : Int) + 1), .int .i64 ((j : Int) + 1)] 3)) (some ⟨wr.heap.size, 0, none⟩) 2 2 ([(j : Int) + 1, (j : Int) + 1].map (Value.int .i64)) := by
  have := Row.of_block (n := 2) (heap_alloc_new wr (.cells #[.int .i64 ((j : Int) + 1), .int .i64 ((j : Int) + 1)] 3)) (.inl (Nat.le_refl _)) (by simp) (by simp [maxLen])
  exact .inr ⟨_, 0, rfl, by simp, by simpa using this⟩

theorem lst_new (wr : World) (j : Nat) (o : Obj) : Buf ((wr.alloc (.cells #[.int .i64 ((j : Int) + 1), .int .i64 ((j : Int) + 1)] 3)).alloc o) (some ⟨wr.heap.size, 0, none⟩) 2 2 [.int .i64 ((j : Int) + 1), .int .i64 ((j : Int) + 1)] :=
  (lst_new0 wr j).keep (S := fun _ => False) ((Keep.refl _ _).alloc o) (fun _ _ x => x)

theorem tmod64 (x : Int) : -63 ≤ x.tmod 64 ∧ x.tmod 64 ≤ 63 := by
  rw [Int.tmod_eq_emod]
  split <;> simp <;> omega

set_option maxRecDepth 100000 in
set_option maxHeartbeats 3200000 in
theorem once_good (nn : Int) (A : Option Addr) (n c : Nat) (zs : List Int) (w : World) (hz : Ints w A n zs) (h1 : 1 ≤ nn) (h2 : nn ≤ 300) (h3 : n ≤ 100) :
    Calls Try.prog 4 #[.int .i64 nn, .slice A n c] w fun e w' => e = .returned (.bool true) ∧ Below w.heap.size w w' := by
  obtain ⟨i0, hi0, hz0, hz1, hz2⟩ := info_parts int_info
  have HI0 := Lib.hid hi0
  have HI1 := Lib.hid hz0
  have HI2 := Lib.hid hz1
  have HI3 := Lib.hid hz2
  clear hi0 hz0 hz1 hz2
  have HZ := Lib.hid hz
  clear hz
  have hmm := @run_makeMap Try.prog
  have d1 : decide (nn < 1) = false := by simp; omega
  have d2 : decide (300 < nn) = false := by simp; omega
  have d3 : decide (100 < (n : Int)) = false := by simp; omega
  go_enter Try.func4, Try.ntmps4
  go_wp2_with fail
  refine (alive_any _).mono ?_
  rintro e w1 ⟨rfl, hb⟩
  have K0 : Hid (OnceAt w w1.heap.size (w1.heap.size + 1) 0 0 0 ((w1.alloc (.cells #[.int .i64 0, .int .u64 0] 26)).alloc (.map #[] 0))) :=
    Lib.hid ⟨(winAt_new w1 0 0 26).alloc _, by
        have := MapI.made Try.prog 3 (w1.alloc (.cells #[.int .i64 0, .int .u64 0] 26))
        rw [cnt_zero]
        simpa using this, (hb.alloc hb.size _).alloc (by have := hb.size; simp; omega) _, hb.size, by have := hb.size; omega, by omega⟩
  clear hb
  go_wp2_with fail
  clear hmm
  obtain ⟨pw, hpw⟩ : ∃ p, p = w1.heap.size := ⟨_, rfl⟩
  rw [← hpw] at K0 ⊢
  clear hpw
  go_loopw [7] (fun i wr => ∃ (j s : Nat), i = .int .i64 ((j : Int) + 1) ∧ (j : Int) ≤ nn ∧ Hid (FullW j s) ∧ Hid (OnceAt w pw (pw + 1) j s j wr)) (fun i _ => 301 - (intOf i).toNat)
  case atStart => exact ⟨0, 0, rfl, by omega, Lib.hid full_zero, K0⟩
  case round =>
    obtain ⟨j, s, rfl, hj, HF, HO⟩ := hrel
    clear K0
    by_cases hlt : (j : Int) + 1 ≤ nn
    · by_cases hin : j < n
      · obtain ⟨x, hx⟩ : ∃ x, zs[j]? = some x := ⟨zs[j]'(by rw [HZ.out.1]; exact hin), List.getElem?_eq_getElem _⟩
        obtain ⟨q, off, rfl, hq, hcz⟩ := HZ.out.2.1 (by omega)
        have bx := HZ.out.2.2.1 x (List.mem_of_getElem? hx)
        have rx : wr.cell? ⟨q, off + j, none⟩ = some (.int .i64 x) := (HO.out.base.cell (p := ⟨q, off + j, none⟩) hq).trans (hcz j x hx)
        have hq2 : q < wr.heap.size := Nat.lt_of_lt_of_le hq HO.out.base.size
        have m2 := (tmod64 x).1
        have m3 := (tmod64 x).2
        clear hx hcz
        go_wp2_with (at_builtin; refine wpList_append_buf _ rfl (.tmp 43) (.tmp 54) 22 rfl 3 i0 (.int .i64 0) 8 Try.underlying22 HI0.out HI1.out HI2.out HI3.out rfl rfl (lst_new wr j _) [.int .i64 ((j : Int) + 1 - x.tmod 64 % 64)] rfl (src_one _ _ _ (by simp)) (by intro u hu; simp at hu; subst hu; rfl) (by unfold maxLen; omega) (by omega) ?_)
        intro A8 cap w2 hb2 hk2 hf2
        obtain ⟨lst, hlst⟩ : ∃ lst, lst = [(j : Int) + 1, (j : Int) + 1, (j : Int) + 1 - x.tmod 64 % 64] := ⟨_, rfl⟩
        have lb : pw + 1 < wr.heap.size := HO.out.map.lt
        have HL : Hid (LstAt w2 A8 3 cap lst j pw) := Lib.hid ⟨by rw [hlst]; exact hb2, fun k hk => by
            rcases hf2 k hk with e | e
            · have : k = wr.heap.size := by simpa [blk] using e.symm
              omega
            · first | omega | (simp at e; omega), by rw [hlst]; rfl, by rw [hlst]; intro z hz; simp at hz; omega, by omega⟩
        have HO2 : Hid (OnceAt w pw (pw + 1) j s j w2) := Lib.hid (((HO.out.alloc _).alloc _).keep hk2 (by simp [blk]; omega) (by simp [blk]; omega) (fun i hi => by have := HO.out.base.size; simp [blk] at hi; omega))
        clear hb2 hk2 hf2 hlst rx bx m2 m3 lb
        go_wp2_with fail
        obtain ⟨len, hsl, HL2⟩ : ∃ l, Value.slice A8 3 cap = Value.slice A8 l cap ∧ Hid (LstAt w2 A8 l cap lst j pw) := ⟨_, rfl, HL⟩
        rw [hsl]
        clear HL hsl HO
        have HL := HL2
        clear HL2
        obtain ⟨wo, hwo⟩ : ∃ wo : World, wo = wr := ⟨_, rfl⟩
        subst hwo
        go_loopw [9] (fun k wi => ∃ q : Nat, k = .int .i64 q ∧ q ≤ len ∧ Hid (LstAt wi A8 len cap lst j pw) ∧ Hid (OnceAt w pw (pw + 1) (if q = 0 then (j : Int) else (j : Int) + 1) (if q = 0 then s else markS j s ((j : Int) + 1)) (if q = 0 then j else j + 1) wi)) (fun k _ => len - (intOf k).toNat)
        case atStart => exact ⟨0, rfl, by omega, HL, HO2⟩
        case round =>
          obtain ⟨q, rfl, hq', HL', HS⟩ := hrel
          clear HL HO2
          by_cases hql : q < len
          · have hll : lst.length = len := by have := HL'.out.buf.len; rwa [List.length_map] at this
            obtain ⟨y, hy⟩ : ∃ y, lst[q]? = some y := ⟨lst[q]'(by omega), List.getElem?_eq_getElem _⟩
            have hlen3 := HL'.out.le
            have hya := HL'.out.all y (List.mem_of_getElem? hy)
            obtain ⟨b8, off8, hA8, hb8, row⟩ := HL'.out.buf.some_of (by omega)
            have ry : wr.cell? ⟨b8, off8 + q, none⟩ = some (.int .i64 y) := row.val q _ (by rw [List.getElem?_map, hy]; rfl)
            have hh := HL'.out.head
            subst hA8
            clear row hll
            by_cases h0 : q = 0
            · have hyj : y = (j : Int) + 1 := by
                rw [h0, hh] at hy
                injection hy with hy
                exact hy.symm
              subst hyj
              have HS2 : Hid (OnceAt w pw (pw + 1) j s j wr) := Lib.hid (by have := HS.out; simpa [h0] using this)
              have H0 := Lib.hid h0
              clear hy hh h0 HS
              have c0 := HS2.out.win.c0
              have c1 := HS2.out.win.c1
              go_wp2_with fail
              have e1 : wr.cell? ⟨pw, 0, none⟩ = some (.int .i64 (j : Int)) ∧ wr.cell? ⟨pw, 1, none⟩ = some (.int .u64 (s : Nat)) ∧ wr.cell? ⟨b8, off8 + q, none⟩ = some (.int .i64 ((j : Int) + 1)) := ⟨c0, c1, ry⟩
              go_cut [10, 11] from 56 to 79 (fun s10 s11 wx => ∃ pv : Nat, s10 = .pointer (some ⟨pv, 0, none⟩) ∧ s11 = .bool true ∧ Hid (WinAt wx pv ((j : Int) + 1) (markS j s ((j : Int) + 1))) ∧ Hid (Keep (fun k => wr.heap.size ≤ k) wr wx) ∧ wr.heap.size ≤ pv)
              case first =>
                refine wp_region_noPanic ?_
                refine wp_region_held_drew (S := fun w' => w'.cell? ⟨pw, 0, none⟩ = some (.int .i64 (j : Int)) ∧ w'.cell? ⟨pw, 1, none⟩ = some (.int .u64 (s : Nat)) ∧ w'.cell? ⟨b8, off8 + q, none⟩ = some (.int .i64 ((j : Int) + 1))) (by kernel_rfl) e1 (fun hHeld => ?_)
                refine wpAnyH_take (i := 0) (oi := _) (v := ?vaxa0) rfl (by kernel_rfl) (by kernel_rfl) (by kernel_rfl) (fun _ _ _ h => h) (Or.inl ⟨by rfl, ?hyaxa0⟩) (by assumption) ?restaxa0
                case hyaxa0 => (intro w hSw; (try dsimp only at hSw); (try simp only [List.getElem_toArray, List.getElem_cons_zero, List.getElem_cons_succ]); go_simp; (try with_reducible rfl))
                (try simp only [Act.put, List.setIfInBounds_toArray, List.set_cons_zero, List.set_cons_succ, List.getElem_toArray, List.getElem_cons_zero, List.getElem_cons_succ])
                refine wpAnyH_take (i := 1) (oi := _) (v := ?vaxa1) rfl (by kernel_rfl) (by kernel_rfl) (by kernel_rfl) (fun _ _ _ h => h) (Or.inl ⟨by rfl, ?hyaxa1⟩) (by assumption) ?restaxa1
                case hyaxa1 => (intro w hSw; (try dsimp only at hSw); (try simp only [List.getElem_toArray, List.getElem_cons_zero, List.getElem_cons_succ]); go_simp; (try with_reducible rfl))
                (try simp only [Act.put, List.setIfInBounds_toArray, List.set_cons_zero, List.set_cons_succ, List.getElem_toArray, List.getElem_cons_zero, List.getElem_cons_succ])
                refine wpAnyH_take (i := 2) (oi := _) (v := ?vaxa2) rfl (by kernel_rfl) (by kernel_rfl) (by kernel_rfl) (fun _ _ _ h => h) (Or.inl ⟨by rfl, ?hyaxa2⟩) (by assumption) ?restaxa2
                case hyaxa2 => (intro w hSw; (try dsimp only at hSw); (try simp only [List.getElem_toArray, List.getElem_cons_zero, List.getElem_cons_succ]); go_simp; (try with_reducible rfl))
                (try simp only [Act.put, List.setIfInBounds_toArray, List.set_cons_zero, List.set_cons_succ, List.getElem_toArray, List.getElem_cons_zero, List.getElem_cons_succ])
                refine wpAnyH_take (i := 3) (oi := _) (v := ?vaxa3) rfl (by kernel_rfl) (by kernel_rfl) (by kernel_rfl) (fun _ _ _ h => h) (Or.inl ⟨by rfl, ?hyaxa3⟩) (by assumption) ?restaxa3
                case hyaxa3 => (intro w hSw; (try dsimp only at hSw); (try simp only [List.getElem_toArray, List.getElem_cons_zero, List.getElem_cons_succ]); go_simp; (try with_reducible rfl))
                (try simp only [Act.put, List.setIfInBounds_toArray, List.set_cons_zero, List.set_cons_succ, List.getElem_toArray, List.getElem_cons_zero, List.getElem_cons_succ])
                refine wpAnyH_take (i := 4) (oi := _) (v := ?vaxa4) rfl (by kernel_rfl) (by kernel_rfl) (by kernel_rfl) (fun _ _ _ h => h) (Or.inl ⟨by rfl, ?hyaxa4⟩) (by assumption) ?restaxa4
                case hyaxa4 => (intro w hSw; (try dsimp only at hSw); (try simp only [List.getElem_toArray, List.getElem_cons_zero, List.getElem_cons_succ]); go_simp; (try with_reducible rfl))
                (try simp only [Act.put, List.setIfInBounds_toArray, List.set_cons_zero, List.set_cons_succ, List.getElem_toArray, List.getElem_cons_zero, List.getElem_cons_succ])
                refine wpAnyH_ready (rs := [5, 9]) (by kernel_rfl) (by simp) ?_
                refine AllReadyH.cons (o := _) rfl (fun K hK => ?_) (AllReadyH.cons (o := _) rfl (fun K hK => ?_) AllReadyH.nil)
                · (try simp only [List.getElem_toArray, List.getElem_cons_zero, List.getElem_cons_succ])
                  go_simp
                  (refine (win_take j s ((j : Int) + 1) ((j : Int) + 1) (markS j s ((j : Int) + 1)) _ (full_lt HF.out) (by omega) (by omega) (full_next HF.out (by omega)).1 (by omega) rfl).mono ?_; rintro e w3 ⟨rfl, hb3⟩; have k3 := quiet_keep (w0 := wr) (by first | exact Keep.refl _ _ | exact (Keep.refl _ _).drew | exact (Keep.refl _ _).alloc _ | exact ((Keep.refl _ _).alloc _).drew | exact ((Keep.refl _ _).drew).alloc _) hb3; have d1 := tell3 e1 k3)
                  refine hK.out _ _ ?_ (fun hHeld => ?_)
                  · exact d1
                  clear hK K
                  (try simp only [Act.put, List.setIfInBounds_toArray, List.set_cons_zero, List.set_cons_succ, List.getElem_toArray, List.getElem_cons_zero, List.getElem_cons_succ])
                  refine wpAnyH_take (i := 6) (oi := _) (v := ?vaxb6) rfl (by kernel_rfl) (by kernel_rfl) (by kernel_rfl) (fun _ _ _ h => h) (Or.inl ⟨by rfl, ?hyaxb6⟩) (by assumption) ?restaxb6
                  case hyaxb6 => (intro w hSw; (try dsimp only at hSw); (try simp only [List.getElem_toArray, List.getElem_cons_zero, List.getElem_cons_succ]); go_simp; (try with_reducible rfl))
                  (try simp only [Act.put, List.setIfInBounds_toArray, List.set_cons_zero, List.set_cons_succ, List.getElem_toArray, List.getElem_cons_zero, List.getElem_cons_succ])
                  refine wpAnyH_take (i := 7) (oi := _) (v := ?vaxb7) rfl (by kernel_rfl) (by kernel_rfl) (by kernel_rfl) (fun _ _ _ h => h) (Or.inl ⟨by rfl, ?hyaxb7⟩) (by assumption) ?restaxb7
                  case hyaxb7 => (intro w hSw; (try dsimp only at hSw); (try simp only [List.getElem_toArray, List.getElem_cons_zero, List.getElem_cons_succ]); go_simp; (try with_reducible rfl))
                  (try simp only [Act.put, List.setIfInBounds_toArray, List.set_cons_zero, List.set_cons_succ, List.getElem_toArray, List.getElem_cons_zero, List.getElem_cons_succ])
                  refine wpAnyH_take (i := 8) (oi := _) (v := ?vaxb8) rfl (by kernel_rfl) (by kernel_rfl) (by kernel_rfl) (fun _ _ _ h => h) (Or.inl ⟨by rfl, ?hyaxb8⟩) (by assumption) ?restaxb8
                  case hyaxb8 => (intro w hSw; (try dsimp only at hSw); (try simp only [List.getElem_toArray, List.getElem_cons_zero, List.getElem_cons_succ]); go_simp; (try with_reducible rfl))
                  (try simp only [Act.put, List.setIfInBounds_toArray, List.set_cons_zero, List.set_cons_succ, List.getElem_toArray, List.getElem_cons_zero, List.getElem_cons_succ])
                  refine wpAnyH_ready (rs := [9]) (by kernel_rfl) (by simp) ?_
                  refine AllReadyH.cons (o := _) rfl (fun K hK => ?_) AllReadyH.nil
                  (try simp only [List.getElem_toArray, List.getElem_cons_zero, List.getElem_cons_succ])
                  go_simp
                  refine hK.out _ _ ?_ (fun hHeld => ?_)
                  · exact tell3 e1 (k3.alloc _)
                  clear hK K
                  (try simp only [Act.put, List.setIfInBounds_toArray, List.set_cons_zero, List.set_cons_succ, List.getElem_toArray, List.getElem_cons_zero, List.getElem_cons_succ])
                  refine wpAnyH_ready (rs := [10]) (by kernel_rfl) (by simp) ?_
                  refine AllReadyH.cons (o := _) rfl (fun K hK => ?_) AllReadyH.nil
                  (try simp only [List.getElem_toArray, List.getElem_cons_zero, List.getElem_cons_succ])
                  go_simp
                  refine hK.out _ _ ?_ (fun hHeld => ?_)
                  · exact tell3 e1 (k3.alloc _)
                  clear hK K
                  (try simp only [Act.put, List.setIfInBounds_toArray, List.set_cons_zero, List.set_cons_succ, List.getElem_toArray, List.getElem_cons_zero, List.getElem_cons_succ])
                  refine wpAnyH_take (i := 11) (oi := _) (v := ?vaxb11) rfl (by kernel_rfl) (by kernel_rfl) (by kernel_rfl) (fun _ _ _ h => h) (Or.inl ⟨by rfl, ?hyaxb11⟩) (by assumption) ?restaxb11
                  case hyaxb11 => (intro w hSw; (try dsimp only at hSw); (try simp only [List.getElem_toArray, List.getElem_cons_zero, List.getElem_cons_succ]); go_simp; (try with_reducible rfl))
                  (try simp only [Act.put, List.setIfInBounds_toArray, List.set_cons_zero, List.set_cons_succ, List.getElem_toArray, List.getElem_cons_zero, List.getElem_cons_succ])
                  refine wpAnyH_done (by kernel_rfl) ?_ _
                  refine NoPanic.normal ?_
                  clear d1
                  go_wp2_with fail
                  go_meet
                  first | exact ⟨w3.heap.size, rfl, rfl, Lib.hid (winAt_new w3 _ _ _), Lib.hid (k3.alloc _), k3.size⟩ | exact ⟨w3.heap.size, rfl, rfl, Lib.hid (WinAt.drew (winAt_new w3 _ _ _)), Lib.hid (Keep.drew (k3.alloc _)), k3.size⟩
                · (try simp only [List.getElem_toArray, List.getElem_cons_zero, List.getElem_cons_succ])
                  go_simp
                  refine hK.out _ _ ?_ (fun hHeld => ?_)
                  · first | exact tell3 e1 ((Keep.refl _ _).alloc _) | exact tell3 e1 ((Keep.refl _ _).alloc _).drew
                  clear hK K
                  (try simp only [Act.put, List.setIfInBounds_toArray, List.set_cons_zero, List.set_cons_succ, List.getElem_toArray, List.getElem_cons_zero, List.getElem_cons_succ])
                  refine wpAnyH_ready (rs := [5]) (by kernel_rfl) (by simp) ?_
                  refine AllReadyH.cons (o := _) rfl (fun K hK => ?_) AllReadyH.nil
                  (try simp only [List.getElem_toArray, List.getElem_cons_zero, List.getElem_cons_succ])
                  go_simp
                  (refine (win_take j s ((j : Int) + 1) ((j : Int) + 1) (markS j s ((j : Int) + 1)) _ (full_lt HF.out) (by omega) (by omega) (full_next HF.out (by omega)).1 (by omega) rfl).mono ?_; rintro e w3 ⟨rfl, hb3⟩; have k3 := quiet_keep (w0 := wr) (by first | exact Keep.refl _ _ | exact (Keep.refl _ _).drew | exact (Keep.refl _ _).alloc _ | exact ((Keep.refl _ _).alloc _).drew | exact ((Keep.refl _ _).drew).alloc _) hb3; have d1 := tell3 e1 k3; obtain ⟨g0, g1, g2, g3⟩ := made3 (p := wr.heap.size) (by first | exact winAt_new _ 0 0 _ | exact (winAt_new _ 0 0 _).drew) hb3)
                  refine hK.out _ _ ?_ (fun hHeld => ?_)
                  · exact d1
                  clear hK K
                  (try simp only [Act.put, List.setIfInBounds_toArray, List.set_cons_zero, List.set_cons_succ, List.getElem_toArray, List.getElem_cons_zero, List.getElem_cons_succ])
                  refine wpAnyH_take (i := 6) (oi := _) (v := ?vaxc6) rfl (by kernel_rfl) (by kernel_rfl) (by kernel_rfl) (fun _ _ _ h => h) (Or.inl ⟨by rfl, ?hyaxc6⟩) (by assumption) ?restaxc6
                  case hyaxc6 => (intro w hSw; (try dsimp only at hSw); (try simp only [List.getElem_toArray, List.getElem_cons_zero, List.getElem_cons_succ]); go_simp; (try with_reducible rfl))
                  (try simp only [Act.put, List.setIfInBounds_toArray, List.set_cons_zero, List.set_cons_succ, List.getElem_toArray, List.getElem_cons_zero, List.getElem_cons_succ])
                  refine wpAnyH_take (i := 7) (oi := _) (v := ?vaxc7) rfl (by kernel_rfl) (by kernel_rfl) (by kernel_rfl) (fun _ _ _ h => h) (Or.inl ⟨by rfl, ?hyaxc7⟩) (by assumption) ?restaxc7
                  case hyaxc7 => (intro w hSw; (try dsimp only at hSw); (try simp only [List.getElem_toArray, List.getElem_cons_zero, List.getElem_cons_succ]); go_simp; (try with_reducible rfl))
                  (try simp only [Act.put, List.setIfInBounds_toArray, List.set_cons_zero, List.set_cons_succ, List.getElem_toArray, List.getElem_cons_zero, List.getElem_cons_succ])
                  refine wpAnyH_take (i := 8) (oi := _) (v := ?vaxc8) rfl (by kernel_rfl) (by kernel_rfl) (by kernel_rfl) (fun _ _ _ h => h) (Or.inl ⟨by rfl, ?hyaxc8⟩) (by assumption) ?restaxc8
                  case hyaxc8 => (intro w hSw; (try dsimp only at hSw); (try simp only [List.getElem_toArray, List.getElem_cons_zero, List.getElem_cons_succ]); go_simp; (try with_reducible rfl))
                  (try simp only [Act.put, List.setIfInBounds_toArray, List.set_cons_zero, List.set_cons_succ, List.getElem_toArray, List.getElem_cons_zero, List.getElem_cons_succ])
                  refine wpAnyH_ready (rs := [10]) (by kernel_rfl) (by simp) ?_
                  refine AllReadyH.cons (o := _) rfl (fun K hK => ?_) AllReadyH.nil
                  (try simp only [List.getElem_toArray, List.getElem_cons_zero, List.getElem_cons_succ])
                  go_simp
                  refine hK.out _ _ ?_ (fun hHeld => ?_)
                  · exact tell3 e1 ((k3.setCell (fun _ => Nat.le_refl _) _).setCell (fun _ => Nat.le_refl _) _)
                  clear hK K
                  (try simp only [Act.put, List.setIfInBounds_toArray, List.set_cons_zero, List.set_cons_succ, List.getElem_toArray, List.getElem_cons_zero, List.getElem_cons_succ])
                  refine wpAnyH_take (i := 11) (oi := _) (v := ?vaxc11) rfl (by kernel_rfl) (by kernel_rfl) (by kernel_rfl) (fun _ _ _ h => h) (Or.inl ⟨by rfl, ?hyaxc11⟩) (by assumption) ?restaxc11
                  case hyaxc11 => (intro w hSw; (try dsimp only at hSw); (try simp only [List.getElem_toArray, List.getElem_cons_zero, List.getElem_cons_succ]); go_simp; (try with_reducible rfl))
                  (try simp only [Act.put, List.setIfInBounds_toArray, List.set_cons_zero, List.set_cons_succ, List.getElem_toArray, List.getElem_cons_zero, List.getElem_cons_succ])
                  refine wpAnyH_done (by kernel_rfl) ?_ _
                  refine NoPanic.normal ?_
                  have Q0 : Hid (WinAt w3 wr.heap.size 0 0) := Lib.hid ⟨g0, g1, g2, g3⟩
                  clear g0 g1 g2 g3
                  clear d1
                  go_wp2_with fail
                  go_meet
                  first | exact ⟨wr.heap.size, rfl, rfl, Lib.hid ((Q0.out).set _ _), Lib.hid ((k3.setCell (fun _ => Nat.le_refl _) _).setCell (fun _ => Nat.le_refl _) _), Nat.le_refl _⟩ | exact ⟨wr.heap.size, rfl, rfl, Lib.hid (WinAt.drew ((Q0.out).set _ _)), Lib.hid (Keep.drew ((k3.setCell (fun _ => Nat.le_refl _) _).setCell (fun _ => Nat.le_refl _) _)), Nat.le_refl _⟩
              case rest =>
                obtain ⟨pv, rfl, rfl, HV, HK, hpv⟩ := hcut
                have lm := HS2.out.map.lt
                have OW : Hid (OnceAt w pw (pw + 1) (j : Int) (s) j wc) := Lib.hid (HS2.out.keep HK.out (by omega) (by omega) (fun i hi => by have := HS2.out.base.size; omega))
                have LW : Hid (LstAt wc (some ⟨b8, off8, none⟩) len cap lst j pw) := Lib.hid (HL'.out.keep HK.out (fun i hi => .inr (.inr hi)))
                have rc : wc.cell? ⟨b8, off8 + q, none⟩ = some (.int .i64 ((j : Int) + 1)) := (HK.out.cell (p := ⟨b8, off8 + q, none⟩) hb8 (by show ¬ wr.heap.size ≤ b8; omega)).trans ry
                clear HS2 HL' c0 c1 e1 ry HK
                have hlk := OW.out.map.look Try.underlying3 Try.underlying36 (t := 36) (e := 3) (z := .int .i64 0) rfl (x := (j : Int) + 1) (by simp [Lit.wf, IntKind.min, IntKind.max, IntKind.signed, IntKind.bits]; omega)
                rw [cnt_out] at hlk
                have hlk2 : (Instr.lookup 36 (.map (some (pw + 1))) (.int .i64 ((j : Int) + 1)) false).run Try.prog wc = .ok (.int .i64 0) wc := hlk
                clear hlk
                go_wp2_with (at_mapUpdate; refine wpList_update_new _ rfl (.tmp 72) (.tmp 76) (.tmp 78) 36 rfl 3 3 Try.underlying3 Try.underlying36 (pw + 1) j (cntI j) rfl OW.out.map (by unfold maxLen; omega) ((j : Int) + 1) (by simp [Lit.wf, IntKind.min, IntKind.max, IntKind.signed, IntKind.bits]; omega) rfl (cnt_out _) ?_)
                intro w5 hm hg
                have hm' : MapI Try.prog 3 w5 (pw + 1) (j + 1) (putI (cntI j) ((j : Int) + 1) (.int .i64 1)) := hm
                rw [cnt_next _ (by omega)] at hm'
                have HM : Hid (MapI Try.prog 3 w5 (pw + 1) (j + 1) (cntI ((j : Int) + 1))) := Lib.hid hm'
                have K5 : Hid (Keep (fun k => pw + 1 = k) wc w5) := Lib.hid ((Keep.refl _ wc).grown hg (fun k hk _ => by injection hk))
                have V5 := Lib.hid (HV.out.keep K5.out (by omega))
                have W5 := Lib.hid (OW.out.win.keep K5.out (by omega))
                have L5 := Lib.hid (LW.out.keep K5.out (fun i hi => .inr (.inl hi)))
                have B5 : Hid (Below w.heap.size w w5) := Lib.hid (OW.out.base.trans (K5.out.below OW.out.base.size (fun i hi e => by have := OW.out.lm; omega)))
                have lw := OW.out.lw
                clear hm hm' hg hlk2 OW HV LW rc K5
                have v0 := V5.out.c0
                have v1 := V5.out.c1
                have u0 := W5.out.c0
                have u1 := W5.out.c1
                have u2 := W5.out.f0
                have u3 := W5.out.f1
                go_wp2_with fail
                have KS : Hid (∀ u v, Keep (fun k => pw = k) w5 ((w5.setCell ⟨pw, 0, none⟩ u).setCell ⟨pw, 1, none⟩ v)) := Lib.hid (fun u v => Keep.setCell (S := fun k => pw = k) (Keep.setCell (S := fun k => pw = k) (Keep.refl _ _) (p := ⟨pw, 0, none⟩) (fun _ => rfl) u) (p := ⟨pw, 1, none⟩) (fun _ => rfl) v)
                go_roundw
                case rel =>
                  exact ⟨q + 1, by go_num, by omega, Lib.hid (L5.out.keep (KS.out _ _) (fun i hi => .inl hi)), Lib.hid (by
                    rw [if_neg (Nat.succ_ne_zero q), if_neg (Nat.succ_ne_zero q), if_neg (Nat.succ_ne_zero q)]
                    exact ⟨W5.out.set _ _, HM.out.keep (KS.out _ _) (by omega), B5.out.trans ((KS.out _ _).below B5.out.size (fun i hi e => by omega)), lw, by omega, by omega⟩)⟩
                case measure => simp [intOf]; omega
            · obtain ⟨s', hs'⟩ : ∃ s', s' = markS j s ((j : Int) + 1) := ⟨_, rfl⟩
              have hfn := full_next HF.out (show (j : Int) < 1000 by omega)
              rw [← hs'] at hfn
              have HF2 := Lib.hid hfn.2
              have HS2 : Hid (OnceAt w pw (pw + 1) ((j : Int) + 1) s' (j + 1) wr) := Lib.hid (by have := HS.out; rw [hs']; simpa [h0] using this)
              have y1 := hya.1
              have y2 := hya.2
              have HSS := Lib.hid hs'
              clear hfn hs' hya
              have H0 := Lib.hid h0
              clear hy hh h0 HS
              have c0 := HS2.out.win.c0
              have c1 := HS2.out.win.c1
              go_wp2_with fail
              have e1 : wr.cell? ⟨pw, 0, none⟩ = some (.int .i64 ((j : Int) + 1)) ∧ wr.cell? ⟨pw, 1, none⟩ = some (.int .u64 (s' : Nat)) ∧ wr.cell? ⟨b8, off8 + q, none⟩ = some (.int .i64 (y)) := ⟨c0, c1, ry⟩
              go_cut [10, 11] from 56 to 79 (fun s10 s11 wx => ∃ pv : Nat, s10 = .pointer (some ⟨pv, 0, none⟩) ∧ s11 = .bool false ∧ Hid (WinAt wx pv ((j : Int) + 1) (s')) ∧ Hid (Keep (fun k => wr.heap.size ≤ k) wr wx) ∧ wr.heap.size ≤ pv)
              case first =>
                refine wp_region_noPanic ?_
                refine wp_region_held_drew (S := fun w' => w'.cell? ⟨pw, 0, none⟩ = some (.int .i64 ((j : Int) + 1)) ∧ w'.cell? ⟨pw, 1, none⟩ = some (.int .u64 (s' : Nat)) ∧ w'.cell? ⟨b8, off8 + q, none⟩ = some (.int .i64 (y))) (by kernel_rfl) e1 (fun hHeld => ?_)
                refine wpAnyH_take (i := 0) (oi := _) (v := ?vaya0) rfl (by kernel_rfl) (by kernel_rfl) (by kernel_rfl) (fun _ _ _ h => h) (Or.inl ⟨by rfl, ?hyaya0⟩) (by assumption) ?restaya0
                case hyaya0 => (intro w hSw; (try dsimp only at hSw); (try simp only [List.getElem_toArray, List.getElem_cons_zero, List.getElem_cons_succ]); go_simp; (try with_reducible rfl))
                (try simp only [Act.put, List.setIfInBounds_toArray, List.set_cons_zero, List.set_cons_succ, List.getElem_toArray, List.getElem_cons_zero, List.getElem_cons_succ])
                refine wpAnyH_take (i := 1) (oi := _) (v := ?vaya1) rfl (by kernel_rfl) (by kernel_rfl) (by kernel_rfl) (fun _ _ _ h => h) (Or.inl ⟨by rfl, ?hyaya1⟩) (by assumption) ?restaya1
                case hyaya1 => (intro w hSw; (try dsimp only at hSw); (try simp only [List.getElem_toArray, List.getElem_cons_zero, List.getElem_cons_succ]); go_simp; (try with_reducible rfl))
                (try simp only [Act.put, List.setIfInBounds_toArray, List.set_cons_zero, List.set_cons_succ, List.getElem_toArray, List.getElem_cons_zero, List.getElem_cons_succ])
                refine wpAnyH_take (i := 2) (oi := _) (v := ?vaya2) rfl (by kernel_rfl) (by kernel_rfl) (by kernel_rfl) (fun _ _ _ h => h) (Or.inl ⟨by rfl, ?hyaya2⟩) (by assumption) ?restaya2
                case hyaya2 => (intro w hSw; (try dsimp only at hSw); (try simp only [List.getElem_toArray, List.getElem_cons_zero, List.getElem_cons_succ]); go_simp; (try with_reducible rfl))
                (try simp only [Act.put, List.setIfInBounds_toArray, List.set_cons_zero, List.set_cons_succ, List.getElem_toArray, List.getElem_cons_zero, List.getElem_cons_succ])
                refine wpAnyH_take (i := 3) (oi := _) (v := ?vaya3) rfl (by kernel_rfl) (by kernel_rfl) (by kernel_rfl) (fun _ _ _ h => h) (Or.inl ⟨by rfl, ?hyaya3⟩) (by assumption) ?restaya3
                case hyaya3 => (intro w hSw; (try dsimp only at hSw); (try simp only [List.getElem_toArray, List.getElem_cons_zero, List.getElem_cons_succ]); go_simp; (try with_reducible rfl))
                (try simp only [Act.put, List.setIfInBounds_toArray, List.set_cons_zero, List.set_cons_succ, List.getElem_toArray, List.getElem_cons_zero, List.getElem_cons_succ])
                refine wpAnyH_take (i := 4) (oi := _) (v := ?vaya4) rfl (by kernel_rfl) (by kernel_rfl) (by kernel_rfl) (fun _ _ _ h => h) (Or.inl ⟨by rfl, ?hyaya4⟩) (by assumption) ?restaya4
                case hyaya4 => (intro w hSw; (try dsimp only at hSw); (try simp only [List.getElem_toArray, List.getElem_cons_zero, List.getElem_cons_succ]); go_simp; (try with_reducible rfl))
                (try simp only [Act.put, List.setIfInBounds_toArray, List.set_cons_zero, List.set_cons_succ, List.getElem_toArray, List.getElem_cons_zero, List.getElem_cons_succ])
                refine wpAnyH_ready (rs := [5, 9]) (by kernel_rfl) (by simp) ?_
                refine AllReadyH.cons (o := _) rfl (fun K hK => ?_) (AllReadyH.cons (o := _) rfl (fun K hK => ?_) AllReadyH.nil)
                · (try simp only [List.getElem_toArray, List.getElem_cons_zero, List.getElem_cons_succ])
                  go_simp
                  (refine (win_mark_not ((j : Int) + 1) s' y _ (full_lt HF2.out) (by omega) (by omega) (full_not HF2.out y1 y2)).mono ?_; rintro e w3 ⟨rfl, hb3⟩; have k3 := quiet_keep (w0 := wr) (by first | exact Keep.refl _ _ | exact (Keep.refl _ _).drew | exact (Keep.refl _ _).alloc _ | exact ((Keep.refl _ _).alloc _).drew | exact ((Keep.refl _ _).drew).alloc _) hb3; have d1 := tell3 e1 k3)
                  refine hK.out _ _ ?_ (fun hHeld => ?_)
                  · exact d1
                  clear hK K
                  (try simp only [Act.put, List.setIfInBounds_toArray, List.set_cons_zero, List.set_cons_succ, List.getElem_toArray, List.getElem_cons_zero, List.getElem_cons_succ])
                  refine wpAnyH_take (i := 6) (oi := _) (v := ?vayb6) rfl (by kernel_rfl) (by kernel_rfl) (by kernel_rfl) (fun _ _ _ h => h) (Or.inl ⟨by rfl, ?hyayb6⟩) (by assumption) ?restayb6
                  case hyayb6 => (intro w hSw; (try dsimp only at hSw); (try simp only [List.getElem_toArray, List.getElem_cons_zero, List.getElem_cons_succ]); go_simp; (try with_reducible rfl))
                  (try simp only [Act.put, List.setIfInBounds_toArray, List.set_cons_zero, List.set_cons_succ, List.getElem_toArray, List.getElem_cons_zero, List.getElem_cons_succ])
                  refine wpAnyH_take (i := 7) (oi := _) (v := ?vayb7) rfl (by kernel_rfl) (by kernel_rfl) (by kernel_rfl) (fun _ _ _ h => h) (Or.inl ⟨by rfl, ?hyayb7⟩) (by assumption) ?restayb7
                  case hyayb7 => (intro w hSw; (try dsimp only at hSw); (try simp only [List.getElem_toArray, List.getElem_cons_zero, List.getElem_cons_succ]); go_simp; (try with_reducible rfl))
                  (try simp only [Act.put, List.setIfInBounds_toArray, List.set_cons_zero, List.set_cons_succ, List.getElem_toArray, List.getElem_cons_zero, List.getElem_cons_succ])
                  refine wpAnyH_take (i := 8) (oi := _) (v := ?vayb8) rfl (by kernel_rfl) (by kernel_rfl) (by kernel_rfl) (fun _ _ _ h => h) (Or.inl ⟨by rfl, ?hyayb8⟩) (by assumption) ?restayb8
                  case hyayb8 => (intro w hSw; (try dsimp only at hSw); (try simp only [List.getElem_toArray, List.getElem_cons_zero, List.getElem_cons_succ]); go_simp; (try with_reducible rfl))
                  (try simp only [Act.put, List.setIfInBounds_toArray, List.set_cons_zero, List.set_cons_succ, List.getElem_toArray, List.getElem_cons_zero, List.getElem_cons_succ])
                  refine wpAnyH_ready (rs := [9]) (by kernel_rfl) (by simp) ?_
                  refine AllReadyH.cons (o := _) rfl (fun K hK => ?_) AllReadyH.nil
                  (try simp only [List.getElem_toArray, List.getElem_cons_zero, List.getElem_cons_succ])
                  go_simp
                  refine hK.out _ _ ?_ (fun hHeld => ?_)
                  · exact tell3 e1 (k3.alloc _)
                  clear hK K
                  (try simp only [Act.put, List.setIfInBounds_toArray, List.set_cons_zero, List.set_cons_succ, List.getElem_toArray, List.getElem_cons_zero, List.getElem_cons_succ])
                  refine wpAnyH_ready (rs := [10]) (by kernel_rfl) (by simp) ?_
                  refine AllReadyH.cons (o := _) rfl (fun K hK => ?_) AllReadyH.nil
                  (try simp only [List.getElem_toArray, List.getElem_cons_zero, List.getElem_cons_succ])
                  go_simp
                  refine hK.out _ _ ?_ (fun hHeld => ?_)
                  · exact tell3 e1 (k3.alloc _)
                  clear hK K
                  (try simp only [Act.put, List.setIfInBounds_toArray, List.set_cons_zero, List.set_cons_succ, List.getElem_toArray, List.getElem_cons_zero, List.getElem_cons_succ])
                  refine wpAnyH_take (i := 11) (oi := _) (v := ?vayb11) rfl (by kernel_rfl) (by kernel_rfl) (by kernel_rfl) (fun _ _ _ h => h) (Or.inl ⟨by rfl, ?hyayb11⟩) (by assumption) ?restayb11
                  case hyayb11 => (intro w hSw; (try dsimp only at hSw); (try simp only [List.getElem_toArray, List.getElem_cons_zero, List.getElem_cons_succ]); go_simp; (try with_reducible rfl))
                  (try simp only [Act.put, List.setIfInBounds_toArray, List.set_cons_zero, List.set_cons_succ, List.getElem_toArray, List.getElem_cons_zero, List.getElem_cons_succ])
                  refine wpAnyH_done (by kernel_rfl) ?_ _
                  refine NoPanic.normal ?_
                  clear d1
                  go_wp2_with fail
                  go_meet
                  first | exact ⟨w3.heap.size, rfl, rfl, Lib.hid (winAt_new w3 _ _ _), Lib.hid (k3.alloc _), k3.size⟩ | exact ⟨w3.heap.size, rfl, rfl, Lib.hid (WinAt.drew (winAt_new w3 _ _ _)), Lib.hid (Keep.drew (k3.alloc _)), k3.size⟩
                · (try simp only [List.getElem_toArray, List.getElem_cons_zero, List.getElem_cons_succ])
                  go_simp
                  refine hK.out _ _ ?_ (fun hHeld => ?_)
                  · first | exact tell3 e1 ((Keep.refl _ _).alloc _) | exact tell3 e1 ((Keep.refl _ _).alloc _).drew
                  clear hK K
                  (try simp only [Act.put, List.setIfInBounds_toArray, List.set_cons_zero, List.set_cons_succ, List.getElem_toArray, List.getElem_cons_zero, List.getElem_cons_succ])
                  refine wpAnyH_ready (rs := [5]) (by kernel_rfl) (by simp) ?_
                  refine AllReadyH.cons (o := _) rfl (fun K hK => ?_) AllReadyH.nil
                  (try simp only [List.getElem_toArray, List.getElem_cons_zero, List.getElem_cons_succ])
                  go_simp
                  (refine (win_mark_not ((j : Int) + 1) s' y _ (full_lt HF2.out) (by omega) (by omega) (full_not HF2.out y1 y2)).mono ?_; rintro e w3 ⟨rfl, hb3⟩; have k3 := quiet_keep (w0 := wr) (by first | exact Keep.refl _ _ | exact (Keep.refl _ _).drew | exact (Keep.refl _ _).alloc _ | exact ((Keep.refl _ _).alloc _).drew | exact ((Keep.refl _ _).drew).alloc _) hb3; have d1 := tell3 e1 k3; obtain ⟨g0, g1, g2, g3⟩ := made3 (p := wr.heap.size) (by first | exact winAt_new _ 0 0 _ | exact (winAt_new _ 0 0 _).drew) hb3)
                  refine hK.out _ _ ?_ (fun hHeld => ?_)
                  · exact d1
                  clear hK K
                  (try simp only [Act.put, List.setIfInBounds_toArray, List.set_cons_zero, List.set_cons_succ, List.getElem_toArray, List.getElem_cons_zero, List.getElem_cons_succ])
                  refine wpAnyH_take (i := 6) (oi := _) (v := ?vayc6) rfl (by kernel_rfl) (by kernel_rfl) (by kernel_rfl) (fun _ _ _ h => h) (Or.inl ⟨by rfl, ?hyayc6⟩) (by assumption) ?restayc6
                  case hyayc6 => (intro w hSw; (try dsimp only at hSw); (try simp only [List.getElem_toArray, List.getElem_cons_zero, List.getElem_cons_succ]); go_simp; (try with_reducible rfl))
                  (try simp only [Act.put, List.setIfInBounds_toArray, List.set_cons_zero, List.set_cons_succ, List.getElem_toArray, List.getElem_cons_zero, List.getElem_cons_succ])
                  refine wpAnyH_take (i := 7) (oi := _) (v := ?vayc7) rfl (by kernel_rfl) (by kernel_rfl) (by kernel_rfl) (fun _ _ _ h => h) (Or.inl ⟨by rfl, ?hyayc7⟩) (by assumption) ?restayc7
                  case hyayc7 => (intro w hSw; (try dsimp only at hSw); (try simp only [List.getElem_toArray, List.getElem_cons_zero, List.getElem_cons_succ]); go_simp; (try with_reducible rfl))
                  (try simp only [Act.put, List.setIfInBounds_toArray, List.set_cons_zero, List.set_cons_succ, List.getElem_toArray, List.getElem_cons_zero, List.getElem_cons_succ])
                  refine wpAnyH_take (i := 8) (oi := _) (v := ?vayc8) rfl (by kernel_rfl) (by kernel_rfl) (by kernel_rfl) (fun _ _ _ h => h) (Or.inl ⟨by rfl, ?hyayc8⟩) (by assumption) ?restayc8
                  case hyayc8 => (intro w hSw; (try dsimp only at hSw); (try simp only [List.getElem_toArray, List.getElem_cons_zero, List.getElem_cons_succ]); go_simp; (try with_reducible rfl))
                  (try simp only [Act.put, List.setIfInBounds_toArray, List.set_cons_zero, List.set_cons_succ, List.getElem_toArray, List.getElem_cons_zero, List.getElem_cons_succ])
                  refine wpAnyH_ready (rs := [10]) (by kernel_rfl) (by simp) ?_
                  refine AllReadyH.cons (o := _) rfl (fun K hK => ?_) AllReadyH.nil
                  (try simp only [List.getElem_toArray, List.getElem_cons_zero, List.getElem_cons_succ])
                  go_simp
                  refine hK.out _ _ ?_ (fun hHeld => ?_)
                  · exact tell3 e1 ((k3.setCell (fun _ => Nat.le_refl _) _).setCell (fun _ => Nat.le_refl _) _)
                  clear hK K
                  (try simp only [Act.put, List.setIfInBounds_toArray, List.set_cons_zero, List.set_cons_succ, List.getElem_toArray, List.getElem_cons_zero, List.getElem_cons_succ])
                  refine wpAnyH_take (i := 11) (oi := _) (v := ?vayc11) rfl (by kernel_rfl) (by kernel_rfl) (by kernel_rfl) (fun _ _ _ h => h) (Or.inl ⟨by rfl, ?hyayc11⟩) (by assumption) ?restayc11
                  case hyayc11 => (intro w hSw; (try dsimp only at hSw); (try simp only [List.getElem_toArray, List.getElem_cons_zero, List.getElem_cons_succ]); go_simp; (try with_reducible rfl))
                  (try simp only [Act.put, List.setIfInBounds_toArray, List.set_cons_zero, List.set_cons_succ, List.getElem_toArray, List.getElem_cons_zero, List.getElem_cons_succ])
                  refine wpAnyH_done (by kernel_rfl) ?_ _
                  refine NoPanic.normal ?_
                  have Q0 : Hid (WinAt w3 wr.heap.size 0 0) := Lib.hid ⟨g0, g1, g2, g3⟩
                  clear g0 g1 g2 g3
                  clear d1
                  go_wp2_with fail
                  go_meet
                  first | exact ⟨wr.heap.size, rfl, rfl, Lib.hid ((Q0.out).set _ _), Lib.hid ((k3.setCell (fun _ => Nat.le_refl _) _).setCell (fun _ => Nat.le_refl _) _), Nat.le_refl _⟩ | exact ⟨wr.heap.size, rfl, rfl, Lib.hid (WinAt.drew ((Q0.out).set _ _)), Lib.hid (Keep.drew ((k3.setCell (fun _ => Nat.le_refl _) _).setCell (fun _ => Nat.le_refl _) _)), Nat.le_refl _⟩
              case rest =>
                obtain ⟨pv, rfl, rfl, HV, HK, hpv⟩ := hcut
                have lm := HS2.out.map.lt
                have OW : Hid (OnceAt w pw (pw + 1) ((j : Int) + 1) (s') (j + 1) wc) := Lib.hid (HS2.out.keep HK.out (by omega) (by omega) (fun i hi => by have := HS2.out.base.size; omega))
                have LW : Hid (LstAt wc (some ⟨b8, off8, none⟩) len cap lst j pw) := Lib.hid (HL'.out.keep HK.out (fun i hi => .inr (.inr hi)))
                have rc : wc.cell? ⟨b8, off8 + q, none⟩ = some (.int .i64 (y)) := (HK.out.cell (p := ⟨b8, off8 + q, none⟩) hb8 (by show ¬ wr.heap.size ≤ b8; omega)).trans ry
                clear HS2 HL' c0 c1 e1 ry HK
                have V5 := HV
                have HM : Hid (MapI Try.prog 3 wc (pw + 1) (j + 1) (cntI ((j : Int) + 1))) := Lib.hid OW.out.map
                have W5 := Lib.hid OW.out.win
                have L5 := LW
                have B5 := Lib.hid OW.out.base
                have lw := OW.out.lw
                clear OW HV LW rc
                have v0 := V5.out.c0
                have v1 := V5.out.c1
                have u0 := W5.out.c0
                have u1 := W5.out.c1
                have u2 := W5.out.f0
                have u3 := W5.out.f1
                go_wp2_with fail
                have KS : Hid (∀ u v, Keep (fun k => pw = k) wc ((wc.setCell ⟨pw, 0, none⟩ u).setCell ⟨pw, 1, none⟩ v)) := Lib.hid (fun u v => Keep.setCell (S := fun k => pw = k) (Keep.setCell (S := fun k => pw = k) (Keep.refl _ _) (p := ⟨pw, 0, none⟩) (fun _ => rfl) u) (p := ⟨pw, 1, none⟩) (fun _ => rfl) v)
                go_roundw
                case rel =>
                  exact ⟨q + 1, by go_num, by omega, Lib.hid (L5.out.keep (KS.out _ _) (fun i hi => .inl hi)), Lib.hid (by
                    rw [if_neg (Nat.succ_ne_zero q), if_neg (Nat.succ_ne_zero q), if_neg (Nat.succ_ne_zero q)]
                    rw [← HSS.out]
                    exact ⟨W5.out.set _ _, HM.out.keep (KS.out _ _) (by omega), B5.out.trans ((KS.out _ _).below B5.out.size (fun i hi e => by omega)), lw, by omega, by omega⟩)⟩
                case measure => simp [intOf]; omega
          · have hq0 : q ≠ 0 := by
              intro e
              have h1 := HL'.out.head
              have h2 := HL'.out.buf.len
              rw [List.length_map] at h2
              have h3 := (List.getElem?_eq_some_iff.1 h1).1
              omega
            have HS2 : Hid (OnceAt w pw (pw + 1) ((j : Int) + 1) (markS j s ((j : Int) + 1)) (j + 1) wr) := Lib.hid (by have := HS.out; simpa [hq0] using this)
            have HF2 := Lib.hid (full_next HF.out (show (j : Int) < 1000 by omega)).2
            clear HS HL' hq0
            go_wp2_with fail
            go_roundw
            case rel => exact ⟨j + 1, markS j s ((j : Int) + 1), by go_num, by omega, by rw [show ((j + 1 : Nat) : Int) = (j : Int) + 1 from by omega]; exact HF2, by rw [show ((j + 1 : Nat) : Int) = (j : Int) + 1 from by omega]; exact HS2⟩
            case measure => simp [intOf]; omega
      · have hin' : decide (j < n) = false := by simpa using hin
        obtain ⟨lst, hlst⟩ : ∃ lst, lst = [(j : Int) + 1, (j : Int) + 1] := ⟨_, rfl⟩
        have lb : pw + 1 < wr.heap.size := HO.out.map.lt
        have HL : Hid (LstAt (wr.alloc (.cells #[.int .i64 ((j : Int) + 1), .int .i64 ((j : Int) + 1)] 3)) (some ⟨wr.heap.size, 0, none⟩) 2 2 lst j pw) := Lib.hid ⟨by rw [hlst]; exact lst_new0 wr j, fun k hk => by
            have : k = wr.heap.size := by simpa [blk] using hk.symm
            omega, by rw [hlst]; rfl, by rw [hlst]; intro z hz; simp at hz; omega, by omega⟩
        have HO2 : Hid (OnceAt w pw (pw + 1) j s j (wr.alloc (.cells #[.int .i64 ((j : Int) + 1), .int .i64 ((j : Int) + 1)] 3))) := Lib.hid (HO.out.alloc _)
        clear hlst lb
        go_wp2_with fail
        obtain ⟨A8, len, cap, hA8, HL2⟩ : ∃ A l c, Value.slice (some ⟨wr.heap.size, 0, none⟩) 2 2 = Value.slice A l c ∧ Hid (LstAt (wr.alloc (.cells #[.int .i64 ((j : Int) + 1), .int .i64 ((j : Int) + 1)] 3)) A l c lst j pw) := ⟨_, _, _, rfl, HL⟩
        rw [hA8]
        clear HL hA8
        have HL := HL2
        clear HL2
        obtain ⟨w2, hw2⟩ : ∃ w2, w2 = wr.alloc (.cells #[.int .i64 ((j : Int) + 1), .int .i64 ((j : Int) + 1)] 3) := ⟨_, rfl⟩
        rw [← hw2] at HL HO2 ⊢
        clear hw2 HO
        obtain ⟨wo, hwo⟩ : ∃ wo : World, wo = wr := ⟨_, rfl⟩
        subst hwo
        go_loopw [9] (fun k wi => ∃ q : Nat, k = .int .i64 q ∧ q ≤ len ∧ Hid (LstAt wi A8 len cap lst j pw) ∧ Hid (OnceAt w pw (pw + 1) (if q = 0 then (j : Int) else (j : Int) + 1) (if q = 0 then s else markS j s ((j : Int) + 1)) (if q = 0 then j else j + 1) wi)) (fun k _ => len - (intOf k).toNat)
        case atStart => exact ⟨0, rfl, by omega, HL, HO2⟩
        case round =>
          obtain ⟨q, rfl, hq', HL', HS⟩ := hrel
          clear HL HO2
          by_cases hql : q < len
          · have hll : lst.length = len := by have := HL'.out.buf.len; rwa [List.length_map] at this
            obtain ⟨y, hy⟩ : ∃ y, lst[q]? = some y := ⟨lst[q]'(by omega), List.getElem?_eq_getElem _⟩
            have hlen3 := HL'.out.le
            have hya := HL'.out.all y (List.mem_of_getElem? hy)
            obtain ⟨b8, off8, hA8, hb8, row⟩ := HL'.out.buf.some_of (by omega)
            have ry : wr.cell? ⟨b8, off8 + q, none⟩ = some (.int .i64 y) := row.val q _ (by rw [List.getElem?_map, hy]; rfl)
            have hh := HL'.out.head
            subst hA8
            clear row hll
            by_cases h0 : q = 0
            · have hyj : y = (j : Int) + 1 := by
                rw [h0, hh] at hy
                injection hy with hy
                exact hy.symm
              subst hyj
              have HS2 : Hid (OnceAt w pw (pw + 1) j s j wr) := Lib.hid (by have := HS.out; simpa [h0] using this)
              have H0 := Lib.hid h0
              clear hy hh h0 HS
              have c0 := HS2.out.win.c0
              have c1 := HS2.out.win.c1
              go_wp2_with fail
              have e1 : wr.cell? ⟨pw, 0, none⟩ = some (.int .i64 (j : Int)) ∧ wr.cell? ⟨pw, 1, none⟩ = some (.int .u64 (s : Nat)) ∧ wr.cell? ⟨b8, off8 + q, none⟩ = some (.int .i64 ((j : Int) + 1)) := ⟨c0, c1, ry⟩
              go_cut [10, 11] from 56 to 79 (fun s10 s11 wx => ∃ pv : Nat, s10 = .pointer (some ⟨pv, 0, none⟩) ∧ s11 = .bool true ∧ Hid (WinAt wx pv ((j : Int) + 1) (markS j s ((j : Int) + 1))) ∧ Hid (Keep (fun k => wr.heap.size ≤ k) wr wx) ∧ wr.heap.size ≤ pv)
              case first =>
                refine wp_region_noPanic ?_
                refine wp_region_held_drew (S := fun w' => w'.cell? ⟨pw, 0, none⟩ = some (.int .i64 (j : Int)) ∧ w'.cell? ⟨pw, 1, none⟩ = some (.int .u64 (s : Nat)) ∧ w'.cell? ⟨b8, off8 + q, none⟩ = some (.int .i64 ((j : Int) + 1))) (by kernel_rfl) e1 (fun hHeld => ?_)
                refine wpAnyH_take (i := 0) (oi := _) (v := ?vbxa0) rfl (by kernel_rfl) (by kernel_rfl) (by kernel_rfl) (fun _ _ _ h => h) (Or.inl ⟨by rfl, ?hybxa0⟩) (by assumption) ?restbxa0
                case hybxa0 => (intro w hSw; (try dsimp only at hSw); (try simp only [List.getElem_toArray, List.getElem_cons_zero, List.getElem_cons_succ]); go_simp; (try with_reducible rfl))
                (try simp only [Act.put, List.setIfInBounds_toArray, List.set_cons_zero, List.set_cons_succ, List.getElem_toArray, List.getElem_cons_zero, List.getElem_cons_succ])
                refine wpAnyH_take (i := 1) (oi := _) (v := ?vbxa1) rfl (by kernel_rfl) (by kernel_rfl) (by kernel_rfl) (fun _ _ _ h => h) (Or.inl ⟨by rfl, ?hybxa1⟩) (by assumption) ?restbxa1
                case hybxa1 => (intro w hSw; (try dsimp only at hSw); (try simp only [List.getElem_toArray, List.getElem_cons_zero, List.getElem_cons_succ]); go_simp; (try with_reducible rfl))
                (try simp only [Act.put, List.setIfInBounds_toArray, List.set_cons_zero, List.set_cons_succ, List.getElem_toArray, List.getElem_cons_zero, List.getElem_cons_succ])
                refine wpAnyH_take (i := 2) (oi := _) (v := ?vbxa2) rfl (by kernel_rfl) (by kernel_rfl) (by kernel_rfl) (fun _ _ _ h => h) (Or.inl ⟨by rfl, ?hybxa2⟩) (by assumption) ?restbxa2
                case hybxa2 => (intro w hSw; (try dsimp only at hSw); (try simp only [List.getElem_toArray, List.getElem_cons_zero, List.getElem_cons_succ]); go_simp; (try with_reducible rfl))
                (try simp only [Act.put, List.setIfInBounds_toArray, List.set_cons_zero, List.set_cons_succ, List.getElem_toArray, List.getElem_cons_zero, List.getElem_cons_succ])
                refine wpAnyH_take (i := 3) (oi := _) (v := ?vbxa3) rfl (by kernel_rfl) (by kernel_rfl) (by kernel_rfl) (fun _ _ _ h => h) (Or.inl ⟨by rfl, ?hybxa3⟩) (by assumption) ?restbxa3
                case hybxa3 => (intro w hSw; (try dsimp only at hSw); (try simp only [List.getElem_toArray, List.getElem_cons_zero, List.getElem_cons_succ]); go_simp; (try with_reducible rfl))
                (try simp only [Act.put, List.setIfInBounds_toArray, List.set_cons_zero, List.set_cons_succ, List.getElem_toArray, List.getElem_cons_zero, List.getElem_cons_succ])
                refine wpAnyH_take (i := 4) (oi := _) (v := ?vbxa4) rfl (by kernel_rfl) (by kernel_rfl) (by kernel_rfl) (fun _ _ _ h => h) (Or.inl ⟨by rfl, ?hybxa4⟩) (by assumption) ?restbxa4
                case hybxa4 => (intro w hSw; (try dsimp only at hSw); (try simp only [List.getElem_toArray, List.getElem_cons_zero, List.getElem_cons_succ]); go_simp; (try with_reducible rfl))
                (try simp only [Act.put, List.setIfInBounds_toArray, List.set_cons_zero, List.set_cons_succ, List.getElem_toArray, List.getElem_cons_zero, List.getElem_cons_succ])
                refine wpAnyH_ready (rs := [5, 9]) (by kernel_rfl) (by simp) ?_
                refine AllReadyH.cons (o := _) rfl (fun K hK => ?_) (AllReadyH.cons (o := _) rfl (fun K hK => ?_) AllReadyH.nil)
                · (try simp only [List.getElem_toArray, List.getElem_cons_zero, List.getElem_cons_succ])
                  go_simp
                  (refine (win_take j s ((j : Int) + 1) ((j : Int) + 1) (markS j s ((j : Int) + 1)) _ (full_lt HF.out) (by omega) (by omega) (full_next HF.out (by omega)).1 (by omega) rfl).mono ?_; rintro e w3 ⟨rfl, hb3⟩; have k3 := quiet_keep (w0 := wr) (by first | exact Keep.refl _ _ | exact (Keep.refl _ _).drew | exact (Keep.refl _ _).alloc _ | exact ((Keep.refl _ _).alloc _).drew | exact ((Keep.refl _ _).drew).alloc _) hb3; have d1 := tell3 e1 k3)
                  refine hK.out _ _ ?_ (fun hHeld => ?_)
                  · exact d1
                  clear hK K
                  (try simp only [Act.put, List.setIfInBounds_toArray, List.set_cons_zero, List.set_cons_succ, List.getElem_toArray, List.getElem_cons_zero, List.getElem_cons_succ])
                  refine wpAnyH_take (i := 6) (oi := _) (v := ?vbxb6) rfl (by kernel_rfl) (by kernel_rfl) (by kernel_rfl) (fun _ _ _ h => h) (Or.inl ⟨by rfl, ?hybxb6⟩) (by assumption) ?restbxb6
                  case hybxb6 => (intro w hSw; (try dsimp only at hSw); (try simp only [List.getElem_toArray, List.getElem_cons_zero, List.getElem_cons_succ]); go_simp; (try with_reducible rfl))
                  (try simp only [Act.put, List.setIfInBounds_toArray, List.set_cons_zero, List.set_cons_succ, List.getElem_toArray, List.getElem_cons_zero, List.getElem_cons_succ])
                  refine wpAnyH_take (i := 7) (oi := _) (v := ?vbxb7) rfl (by kernel_rfl) (by kernel_rfl) (by kernel_rfl) (fun _ _ _ h => h) (Or.inl ⟨by rfl, ?hybxb7⟩) (by assumption) ?restbxb7
                  case hybxb7 => (intro w hSw; (try dsimp only at hSw); (try simp only [List.getElem_toArray, List.getElem_cons_zero, List.getElem_cons_succ]); go_simp; (try with_reducible rfl))
                  (try simp only [Act.put, List.setIfInBounds_toArray, List.set_cons_zero, List.set_cons_succ, List.getElem_toArray, List.getElem_cons_zero, List.getElem_cons_succ])
                  refine wpAnyH_take (i := 8) (oi := _) (v := ?vbxb8) rfl (by kernel_rfl) (by kernel_rfl) (by kernel_rfl) (fun _ _ _ h => h) (Or.inl ⟨by rfl, ?hybxb8⟩) (by assumption) ?restbxb8
                  case hybxb8 => (intro w hSw; (try dsimp only at hSw); (try simp only [List.getElem_toArray, List.getElem_cons_zero, List.getElem_cons_succ]); go_simp; (try with_reducible rfl))
                  (try simp only [Act.put, List.setIfInBounds_toArray, List.set_cons_zero, List.set_cons_succ, List.getElem_toArray, List.getElem_cons_zero, List.getElem_cons_succ])
                  refine wpAnyH_ready (rs := [9]) (by kernel_rfl) (by simp) ?_
                  refine AllReadyH.cons (o := _) rfl (fun K hK => ?_) AllReadyH.nil
                  (try simp only [List.getElem_toArray, List.getElem_cons_zero, List.getElem_cons_succ])
                  go_simp
                  refine hK.out _ _ ?_ (fun hHeld => ?_)
                  · exact tell3 e1 (k3.alloc _)
                  clear hK K
                  (try simp only [Act.put, List.setIfInBounds_toArray, List.set_cons_zero, List.set_cons_succ, List.getElem_toArray, List.getElem_cons_zero, List.getElem_cons_succ])
                  refine wpAnyH_ready (rs := [10]) (by kernel_rfl) (by simp) ?_
                  refine AllReadyH.cons (o := _) rfl (fun K hK => ?_) AllReadyH.nil
                  (try simp only [List.getElem_toArray, List.getElem_cons_zero, List.getElem_cons_succ])
                  go_simp
                  refine hK.out _ _ ?_ (fun hHeld => ?_)
                  · exact tell3 e1 (k3.alloc _)
                  clear hK K
                  (try simp only [Act.put, List.setIfInBounds_toArray, List.set_cons_zero, List.set_cons_succ, List.getElem_toArray, List.getElem_cons_zero, List.getElem_cons_succ])
                  refine wpAnyH_take (i := 11) (oi := _) (v := ?vbxb11) rfl (by kernel_rfl) (by kernel_rfl) (by kernel_rfl) (fun _ _ _ h => h) (Or.inl ⟨by rfl, ?hybxb11⟩) (by assumption) ?restbxb11
                  case hybxb11 => (intro w hSw; (try dsimp only at hSw); (try simp only [List.getElem_toArray, List.getElem_cons_zero, List.getElem_cons_succ]); go_simp; (try with_reducible rfl))
                  (try simp only [Act.put, List.setIfInBounds_toArray, List.set_cons_zero, List.set_cons_succ, List.getElem_toArray, List.getElem_cons_zero, List.getElem_cons_succ])
                  refine wpAnyH_done (by kernel_rfl) ?_ _
                  refine NoPanic.normal ?_
                  clear d1
                  go_wp2_with fail
                  go_meet
                  first | exact ⟨w3.heap.size, rfl, rfl, Lib.hid (winAt_new w3 _ _ _), Lib.hid (k3.alloc _), k3.size⟩ | exact ⟨w3.heap.size, rfl, rfl, Lib.hid (WinAt.drew (winAt_new w3 _ _ _)), Lib.hid (Keep.drew (k3.alloc _)), k3.size⟩
                · (try simp only [List.getElem_toArray, List.getElem_cons_zero, List.getElem_cons_succ])
                  go_simp
                  refine hK.out _ _ ?_ (fun hHeld => ?_)
                  · first | exact tell3 e1 ((Keep.refl _ _).alloc _) | exact tell3 e1 ((Keep.refl _ _).alloc _).drew
                  clear hK K
                  (try simp only [Act.put, List.setIfInBounds_toArray, List.set_cons_zero, List.set_cons_succ, List.getElem_toArray, List.getElem_cons_zero, List.getElem_cons_succ])
                  refine wpAnyH_ready (rs := [5]) (by kernel_rfl) (by simp) ?_
                  refine AllReadyH.cons (o := _) rfl (fun K hK => ?_) AllReadyH.nil
                  (try simp only [List.getElem_toArray, List.getElem_cons_zero, List.getElem_cons_succ])
                  go_simp
                  (refine (win_take j s ((j : Int) + 1) ((j : Int) + 1) (markS j s ((j : Int) + 1)) _ (full_lt HF.out) (by omega) (by omega) (full_next HF.out (by omega)).1 (by omega) rfl).mono ?_; rintro e w3 ⟨rfl, hb3⟩; have k3 := quiet_keep (w0 := wr) (by first | exact Keep.refl _ _ | exact (Keep.refl _ _).drew | exact (Keep.refl _ _).alloc _ | exact ((Keep.refl _ _).alloc _).drew | exact ((Keep.refl _ _).drew).alloc _) hb3; have d1 := tell3 e1 k3; obtain ⟨g0, g1, g2, g3⟩ := made3 (p := wr.heap.size) (by first | exact winAt_new _ 0 0 _ | exact (winAt_new _ 0 0 _).drew) hb3)
                  refine hK.out _ _ ?_ (fun hHeld => ?_)
                  · exact d1
                  clear hK K
                  (try simp only [Act.put, List.setIfInBounds_toArray, List.set_cons_zero, List.set_cons_succ, List.getElem_toArray, List.getElem_cons_zero, List.getElem_cons_succ])
                  refine wpAnyH_take (i := 6) (oi := _) (v := ?vbxc6) rfl (by kernel_rfl) (by kernel_rfl) (by kernel_rfl) (fun _ _ _ h => h) (Or.inl ⟨by rfl, ?hybxc6⟩) (by assumption) ?restbxc6
                  case hybxc6 => (intro w hSw; (try dsimp only at hSw); (try simp only [List.getElem_toArray, List.getElem_cons_zero, List.getElem_cons_succ]); go_simp; (try with_reducible rfl))
                  (try simp only [Act.put, List.setIfInBounds_toArray, List.set_cons_zero, List.set_cons_succ, List.getElem_toArray, List.getElem_cons_zero, List.getElem_cons_succ])
                  refine wpAnyH_take (i := 7) (oi := _) (v := ?vbxc7) rfl (by kernel_rfl) (by kernel_rfl) (by kernel_rfl) (fun _ _ _ h => h) (Or.inl ⟨by rfl, ?hybxc7⟩) (by assumption) ?restbxc7
                  case hybxc7 => (intro w hSw; (try dsimp only at hSw); (try simp only [List.getElem_toArray, List.getElem_cons_zero, List.getElem_cons_succ]); go_simp; (try with_reducible rfl))
                  (try simp only [Act.put, List.setIfInBounds_toArray, List.set_cons_zero, List.set_cons_succ, List.getElem_toArray, List.getElem_cons_zero, List.getElem_cons_succ])
                  refine wpAnyH_take (i := 8) (oi := _) (v := ?vbxc8) rfl (by kernel_rfl) (by kernel_rfl) (by kernel_rfl) (fun _ _ _ h => h) (Or.inl ⟨by rfl, ?hybxc8⟩) (by assumption) ?restbxc8
                  case hybxc8 => (intro w hSw; (try dsimp only at hSw); (try simp only [List.getElem_toArray, List.getElem_cons_zero, List.getElem_cons_succ]); go_simp; (try with_reducible rfl))
                  (try simp only [Act.put, List.setIfInBounds_toArray, List.set_cons_zero, List.set_cons_succ, List.getElem_toArray, List.getElem_cons_zero, List.getElem_cons_succ])
                  refine wpAnyH_ready (rs := [10]) (by kernel_rfl) (by simp) ?_
                  refine AllReadyH.cons (o := _) rfl (fun K hK => ?_) AllReadyH.nil
                  (try simp only [List.getElem_toArray, List.getElem_cons_zero, List.getElem_cons_succ])
                  go_simp
                  refine hK.out _ _ ?_ (fun hHeld => ?_)
                  · exact tell3 e1 ((k3.setCell (fun _ => Nat.le_refl _) _).setCell (fun _ => Nat.le_refl _) _)
                  clear hK K
                  (try simp only [Act.put, List.setIfInBounds_toArray, List.set_cons_zero, List.set_cons_succ, List.getElem_toArray, List.getElem_cons_zero, List.getElem_cons_succ])
                  refine wpAnyH_take (i := 11) (oi := _) (v := ?vbxc11) rfl (by kernel_rfl) (by kernel_rfl) (by kernel_rfl) (fun _ _ _ h => h) (Or.inl ⟨by rfl, ?hybxc11⟩) (by assumption) ?restbxc11
                  case hybxc11 => (intro w hSw; (try dsimp only at hSw); (try simp only [List.getElem_toArray, List.getElem_cons_zero, List.getElem_cons_succ]); go_simp; (try with_reducible rfl))
                  (try simp only [Act.put, List.setIfInBounds_toArray, List.set_cons_zero, List.set_cons_succ, List.getElem_toArray, List.getElem_cons_zero, List.getElem_cons_succ])
                  refine wpAnyH_done (by kernel_rfl) ?_ _
                  refine NoPanic.normal ?_
                  have Q0 : Hid (WinAt w3 wr.heap.size 0 0) := Lib.hid ⟨g0, g1, g2, g3⟩
                  clear g0 g1 g2 g3
                  clear d1
                  go_wp2_with fail
                  go_meet
                  first | exact ⟨wr.heap.size, rfl, rfl, Lib.hid ((Q0.out).set _ _), Lib.hid ((k3.setCell (fun _ => Nat.le_refl _) _).setCell (fun _ => Nat.le_refl _) _), Nat.le_refl _⟩ | exact ⟨wr.heap.size, rfl, rfl, Lib.hid (WinAt.drew ((Q0.out).set _ _)), Lib.hid (Keep.drew ((k3.setCell (fun _ => Nat.le_refl _) _).setCell (fun _ => Nat.le_refl _) _)), Nat.le_refl _⟩
              case rest =>
                obtain ⟨pv, rfl, rfl, HV, HK, hpv⟩ := hcut
                have lm := HS2.out.map.lt
                have OW : Hid (OnceAt w pw (pw + 1) (j : Int) (s) j wc) := Lib.hid (HS2.out.keep HK.out (by omega) (by omega) (fun i hi => by have := HS2.out.base.size; omega))
                have LW : Hid (LstAt wc (some ⟨b8, off8, none⟩) len cap lst j pw) := Lib.hid (HL'.out.keep HK.out (fun i hi => .inr (.inr hi)))
                have rc : wc.cell? ⟨b8, off8 + q, none⟩ = some (.int .i64 ((j : Int) + 1)) := (HK.out.cell (p := ⟨b8, off8 + q, none⟩) hb8 (by show ¬ wr.heap.size ≤ b8; omega)).trans ry
                clear HS2 HL' c0 c1 e1 ry HK
                have hlk := OW.out.map.look Try.underlying3 Try.underlying36 (t := 36) (e := 3) (z := .int .i64 0) rfl (x := (j : Int) + 1) (by simp [Lit.wf, IntKind.min, IntKind.max, IntKind.signed, IntKind.bits]; omega)
                rw [cnt_out] at hlk
                have hlk2 : (Instr.lookup 36 (.map (some (pw + 1))) (.int .i64 ((j : Int) + 1)) false).run Try.prog wc = .ok (.int .i64 0) wc := hlk
                clear hlk
                go_wp2_with (at_mapUpdate; refine wpList_update_new _ rfl (.tmp 72) (.tmp 76) (.tmp 78) 36 rfl 3 3 Try.underlying3 Try.underlying36 (pw + 1) j (cntI j) rfl OW.out.map (by unfold maxLen; omega) ((j : Int) + 1) (by simp [Lit.wf, IntKind.min, IntKind.max, IntKind.signed, IntKind.bits]; omega) rfl (cnt_out _) ?_)
                intro w5 hm hg
                have hm' : MapI Try.prog 3 w5 (pw + 1) (j + 1) (putI (cntI j) ((j : Int) + 1) (.int .i64 1)) := hm
                rw [cnt_next _ (by omega)] at hm'
                have HM : Hid (MapI Try.prog 3 w5 (pw + 1) (j + 1) (cntI ((j : Int) + 1))) := Lib.hid hm'
                have K5 : Hid (Keep (fun k => pw + 1 = k) wc w5) := Lib.hid ((Keep.refl _ wc).grown hg (fun k hk _ => by injection hk))
                have V5 := Lib.hid (HV.out.keep K5.out (by omega))
                have W5 := Lib.hid (OW.out.win.keep K5.out (by omega))
                have L5 := Lib.hid (LW.out.keep K5.out (fun i hi => .inr (.inl hi)))
                have B5 : Hid (Below w.heap.size w w5) := Lib.hid (OW.out.base.trans (K5.out.below OW.out.base.size (fun i hi e => by have := OW.out.lm; omega)))
                have lw := OW.out.lw
                clear hm hm' hg hlk2 OW HV LW rc K5
                have v0 := V5.out.c0
                have v1 := V5.out.c1
                have u0 := W5.out.c0
                have u1 := W5.out.c1
                have u2 := W5.out.f0
                have u3 := W5.out.f1
                go_wp2_with fail
                have KS : Hid (∀ u v, Keep (fun k => pw = k) w5 ((w5.setCell ⟨pw, 0, none⟩ u).setCell ⟨pw, 1, none⟩ v)) := Lib.hid (fun u v => Keep.setCell (S := fun k => pw = k) (Keep.setCell (S := fun k => pw = k) (Keep.refl _ _) (p := ⟨pw, 0, none⟩) (fun _ => rfl) u) (p := ⟨pw, 1, none⟩) (fun _ => rfl) v)
                go_roundw
                case rel =>
                  exact ⟨q + 1, by go_num, by omega, Lib.hid (L5.out.keep (KS.out _ _) (fun i hi => .inl hi)), Lib.hid (by
                    rw [if_neg (Nat.succ_ne_zero q), if_neg (Nat.succ_ne_zero q), if_neg (Nat.succ_ne_zero q)]
                    exact ⟨W5.out.set _ _, HM.out.keep (KS.out _ _) (by omega), B5.out.trans ((KS.out _ _).below B5.out.size (fun i hi e => by omega)), lw, by omega, by omega⟩)⟩
                case measure => simp [intOf]; omega
            · obtain ⟨s', hs'⟩ : ∃ s', s' = markS j s ((j : Int) + 1) := ⟨_, rfl⟩
              have hfn := full_next HF.out (show (j : Int) < 1000 by omega)
              rw [← hs'] at hfn
              have HF2 := Lib.hid hfn.2
              have HS2 : Hid (OnceAt w pw (pw + 1) ((j : Int) + 1) s' (j + 1) wr) := Lib.hid (by have := HS.out; rw [hs']; simpa [h0] using this)
              have y1 := hya.1
              have y2 := hya.2
              have HSS := Lib.hid hs'
              clear hfn hs' hya
              have H0 := Lib.hid h0
              clear hy hh h0 HS
              have c0 := HS2.out.win.c0
              have c1 := HS2.out.win.c1
              go_wp2_with fail
              have e1 : wr.cell? ⟨pw, 0, none⟩ = some (.int .i64 ((j : Int) + 1)) ∧ wr.cell? ⟨pw, 1, none⟩ = some (.int .u64 (s' : Nat)) ∧ wr.cell? ⟨b8, off8 + q, none⟩ = some (.int .i64 (y)) := ⟨c0, c1, ry⟩
              go_cut [10, 11] from 56 to 79 (fun s10 s11 wx => ∃ pv : Nat, s10 = .pointer (some ⟨pv, 0, none⟩) ∧ s11 = .bool false ∧ Hid (WinAt wx pv ((j : Int) + 1) (s')) ∧ Hid (Keep (fun k => wr.heap.size ≤ k) wr wx) ∧ wr.heap.size ≤ pv)
              case first =>
                refine wp_region_noPanic ?_
                refine wp_region_held_drew (S := fun w' => w'.cell? ⟨pw, 0, none⟩ = some (.int .i64 ((j : Int) + 1)) ∧ w'.cell? ⟨pw, 1, none⟩ = some (.int .u64 (s' : Nat)) ∧ w'.cell? ⟨b8, off8 + q, none⟩ = some (.int .i64 (y))) (by kernel_rfl) e1 (fun hHeld => ?_)
                refine wpAnyH_take (i := 0) (oi := _) (v := ?vbya0) rfl (by kernel_rfl) (by kernel_rfl) (by kernel_rfl) (fun _ _ _ h => h) (Or.inl ⟨by rfl, ?hybya0⟩) (by assumption) ?restbya0
                case hybya0 => (intro w hSw; (try dsimp only at hSw); (try simp only [List.getElem_toArray, List.getElem_cons_zero, List.getElem_cons_succ]); go_simp; (try with_reducible rfl))
                (try simp only [Act.put, List.setIfInBounds_toArray, List.set_cons_zero, List.set_cons_succ, List.getElem_toArray, List.getElem_cons_zero, List.getElem_cons_succ])
                refine wpAnyH_take (i := 1) (oi := _) (v := ?vbya1) rfl (by kernel_rfl) (by kernel_rfl) (by kernel_rfl) (fun _ _ _ h => h) (Or.inl ⟨by rfl, ?hybya1⟩) (by assumption) ?restbya1
                case hybya1 => (intro w hSw; (try dsimp only at hSw); (try simp only [List.getElem_toArray, List.getElem_cons_zero, List.getElem_cons_succ]); go_simp; (try with_reducible rfl))
                (try simp only [Act.put, List.setIfInBounds_toArray, List.set_cons_zero, List.set_cons_succ, List.getElem_toArray, List.getElem_cons_zero, List.getElem_cons_succ])
                refine wpAnyH_take (i := 2) (oi := _) (v := ?vbya2) rfl (by kernel_rfl) (by kernel_rfl) (by kernel_rfl) (fun _ _ _ h => h) (Or.inl ⟨by rfl, ?hybya2⟩) (by assumption) ?restbya2
                case hybya2 => (intro w hSw; (try dsimp only at hSw); (try simp only [List.getElem_toArray, List.getElem_cons_zero, List.getElem_cons_succ]); go_simp; (try with_reducible rfl))
                (try simp only [Act.put, List.setIfInBounds_toArray, List.set_cons_zero, List.set_cons_succ, List.getElem_toArray, List.getElem_cons_zero, List.getElem_cons_succ])
                refine wpAnyH_take (i := 3) (oi := _) (v := ?vbya3) rfl (by kernel_rfl) (by kernel_rfl) (by kernel_rfl) (fun _ _ _ h => h) (Or.inl ⟨by rfl, ?hybya3⟩) (by assumption) ?restbya3
                case hybya3 => (intro w hSw; (try dsimp only at hSw); (try simp only [List.getElem_toArray, List.getElem_cons_zero, List.getElem_cons_succ]); go_simp; (try with_reducible rfl))
                (try simp only [Act.put, List.setIfInBounds_toArray, List.set_cons_zero, List.set_cons_succ, List.getElem_toArray, List.getElem_cons_zero, List.getElem_cons_succ])
                refine wpAnyH_take (i := 4) (oi := _) (v := ?vbya4) rfl (by kernel_rfl) (by kernel_rfl) (by kernel_rfl) (fun _ _ _ h => h) (Or.inl ⟨by rfl, ?hybya4⟩) (by assumption) ?restbya4
                case hybya4 => (intro w hSw; (try dsimp only at hSw); (try simp only [List.getElem_toArray, List.getElem_cons_zero, List.getElem_cons_succ]); go_simp; (try with_reducible rfl))
                (try simp only [Act.put, List.setIfInBounds_toArray, List.set_cons_zero, List.set_cons_succ, List.getElem_toArray, List.getElem_cons_zero, List.getElem_cons_succ])
                refine wpAnyH_ready (rs := [5, 9]) (by kernel_rfl) (by simp) ?_
                refine AllReadyH.cons (o := _) rfl (fun K hK => ?_) (AllReadyH.cons (o := _) rfl (fun K hK => ?_) AllReadyH.nil)
                · (try simp only [List.getElem_toArray, List.getElem_cons_zero, List.getElem_cons_succ])
                  go_simp
                  (refine (win_mark_not ((j : Int) + 1) s' y _ (full_lt HF2.out) (by omega) (by omega) (full_not HF2.out y1 y2)).mono ?_; rintro e w3 ⟨rfl, hb3⟩; have k3 := quiet_keep (w0 := wr) (by first | exact Keep.refl _ _ | exact (Keep.refl _ _).drew | exact (Keep.refl _ _).alloc _ | exact ((Keep.refl _ _).alloc _).drew | exact ((Keep.refl _ _).drew).alloc _) hb3; have d1 := tell3 e1 k3)
                  refine hK.out _ _ ?_ (fun hHeld => ?_)
                  · exact d1
                  clear hK K
                  (try simp only [Act.put, List.setIfInBounds_toArray, List.set_cons_zero, List.set_cons_succ, List.getElem_toArray, List.getElem_cons_zero, List.getElem_cons_succ])
                  refine wpAnyH_take (i := 6) (oi := _) (v := ?vbyb6) rfl (by kernel_rfl) (by kernel_rfl) (by kernel_rfl) (fun _ _ _ h => h) (Or.inl ⟨by rfl, ?hybyb6⟩) (by assumption) ?restbyb6
                  case hybyb6 => (intro w hSw; (try dsimp only at hSw); (try simp only [List.getElem_toArray, List.getElem_cons_zero, List.getElem_cons_succ]); go_simp; (try with_reducible rfl))
                  (try simp only [Act.put, List.setIfInBounds_toArray, List.set_cons_zero, List.set_cons_succ, List.getElem_toArray, List.getElem_cons_zero, List.getElem_cons_succ])
                  refine wpAnyH_take (i := 7) (oi := _) (v := ?vbyb7) rfl (by kernel_rfl) (by kernel_rfl) (by kernel_rfl) (fun _ _ _ h => h) (Or.inl ⟨by rfl, ?hybyb7⟩) (by assumption) ?restbyb7
                  case hybyb7 => (intro w hSw; (try dsimp only at hSw); (try simp only [List.getElem_toArray, List.getElem_cons_zero, List.getElem_cons_succ]); go_simp; (try with_reducible rfl))
                  (try simp only [Act.put, List.setIfInBounds_toArray, List.set_cons_zero, List.set_cons_succ, List.getElem_toArray, List.getElem_cons_zero, List.getElem_cons_succ])
                  refine wpAnyH_take (i := 8) (oi := _) (v := ?vbyb8) rfl (by kernel_rfl) (by kernel_rfl) (by kernel_rfl) (fun _ _ _ h => h) (Or.inl ⟨by rfl, ?hybyb8⟩) (by assumption) ?restbyb8
                  case hybyb8 => (intro w hSw; (try dsimp only at hSw); (try simp only [List.getElem_toArray, List.getElem_cons_zero, List.getElem_cons_succ]); go_simp; (try with_reducible rfl))
                  (try simp only [Act.put, List.setIfInBounds_toArray, List.set_cons_zero, List.set_cons_succ, List.getElem_toArray, List.getElem_cons_zero, List.getElem_cons_succ])
                  refine wpAnyH_ready (rs := [9]) (by kernel_rfl) (by simp) ?_
                  refine AllReadyH.cons (o := _) rfl (fun K hK => ?_) AllReadyH.nil
                  (try simp only [List.getElem_toArray, List.getElem_cons_zero, List.getElem_cons_succ])
                  go_simp
                  refine hK.out _ _ ?_ (fun hHeld => ?_)
                  · exact tell3 e1 (k3.alloc _)
                  clear hK K
                  (try simp only [Act.put, List.setIfInBounds_toArray, List.set_cons_zero, List.set_cons_succ, List.getElem_toArray, List.getElem_cons_zero, List.getElem_cons_succ])
                  refine wpAnyH_ready (rs := [10]) (by kernel_rfl) (by simp) ?_
                  refine AllReadyH.cons (o := _) rfl (fun K hK => ?_) AllReadyH.nil
                  (try simp only [List.getElem_toArray, List.getElem_cons_zero, List.getElem_cons_succ])
                  go_simp
                  refine hK.out _ _ ?_ (fun hHeld => ?_)
                  · exact tell3 e1 (k3.alloc _)
                  clear hK K
                  (try simp only [Act.put, List.setIfInBounds_toArray, List.set_cons_zero, List.set_cons_succ, List.getElem_toArray, List.getElem_cons_zero, List.getElem_cons_succ])
                  refine wpAnyH_take (i := 11) (oi := _) (v := ?vbyb11) rfl (by kernel_rfl) (by kernel_rfl) (by kernel_rfl) (fun _ _ _ h => h) (Or.inl ⟨by rfl, ?hybyb11⟩) (by assumption) ?restbyb11
                  case hybyb11 => (intro w hSw; (try dsimp only at hSw); (try simp only [List.getElem_toArray, List.getElem_cons_zero, List.getElem_cons_succ]); go_simp; (try with_reducible rfl))
                  (try simp only [Act.put, List.setIfInBounds_toArray, List.set_cons_zero, List.set_cons_succ, List.getElem_toArray, List.getElem_cons_zero, List.getElem_cons_succ])
                  refine wpAnyH_done (by kernel_rfl) ?_ _
                  refine NoPanic.normal ?_
                  clear d1
                  go_wp2_with fail
                  go_meet
                  first | exact ⟨w3.heap.size, rfl, rfl, Lib.hid (winAt_new w3 _ _ _), Lib.hid (k3.alloc _), k3.size⟩ | exact ⟨w3.heap.size, rfl, rfl, Lib.hid (WinAt.drew (winAt_new w3 _ _ _)), Lib.hid (Keep.drew (k3.alloc _)), k3.size⟩
                · (try simp only [List.getElem_toArray, List.getElem_cons_zero, List.getElem_cons_succ])
                  go_simp
                  refine hK.out _ _ ?_ (fun hHeld => ?_)
                  · first | exact tell3 e1 ((Keep.refl _ _).alloc _) | exact tell3 e1 ((Keep.refl _ _).alloc _).drew
                  clear hK K
                  (try simp only [Act.put, List.setIfInBounds_toArray, List.set_cons_zero, List.set_cons_succ, List.getElem_toArray, List.getElem_cons_zero, List.getElem_cons_succ])
                  refine wpAnyH_ready (rs := [5]) (by kernel_rfl) (by simp) ?_
                  refine AllReadyH.cons (o := _) rfl (fun K hK => ?_) AllReadyH.nil
                  (try simp only [List.getElem_toArray, List.getElem_cons_zero, List.getElem_cons_succ])
                  go_simp
                  (refine (win_mark_not ((j : Int) + 1) s' y _ (full_lt HF2.out) (by omega) (by omega) (full_not HF2.out y1 y2)).mono ?_; rintro e w3 ⟨rfl, hb3⟩; have k3 := quiet_keep (w0 := wr) (by first | exact Keep.refl _ _ | exact (Keep.refl _ _).drew | exact (Keep.refl _ _).alloc _ | exact ((Keep.refl _ _).alloc _).drew | exact ((Keep.refl _ _).drew).alloc _) hb3; have d1 := tell3 e1 k3; obtain ⟨g0, g1, g2, g3⟩ := made3 (p := wr.heap.size) (by first | exact winAt_new _ 0 0 _ | exact (winAt_new _ 0 0 _).drew) hb3)
                  refine hK.out _ _ ?_ (fun hHeld => ?_)
                  · exact d1
                  clear hK K
                  (try simp only [Act.put, List.setIfInBounds_toArray, List.set_cons_zero, List.set_cons_succ, List.getElem_toArray, List.getElem_cons_zero, List.getElem_cons_succ])
                  refine wpAnyH_take (i := 6) (oi := _) (v := ?vbyc6) rfl (by kernel_rfl) (by kernel_rfl) (by kernel_rfl) (fun _ _ _ h => h) (Or.inl ⟨by rfl, ?hybyc6⟩) (by assumption) ?restbyc6
                  case hybyc6 => (intro w hSw; (try dsimp only at hSw); (try simp only [List.getElem_toArray, List.getElem_cons_zero, List.getElem_cons_succ]); go_simp; (try with_reducible rfl))
                  (try simp only [Act.put, List.setIfInBounds_toArray, List.set_cons_zero, List.set_cons_succ, List.getElem_toArray, List.getElem_cons_zero, List.getElem_cons_succ])
                  refine wpAnyH_take (i := 7) (oi := _) (v := ?vbyc7) rfl (by kernel_rfl) (by kernel_rfl) (by kernel_rfl) (fun _ _ _ h => h) (Or.inl ⟨by rfl, ?hybyc7⟩) (by assumption) ?restbyc7
                  case hybyc7 => (intro w hSw; (try dsimp only at hSw); (try simp only [List.getElem_toArray, List.getElem_cons_zero, List.getElem_cons_succ]); go_simp; (try with_reducible rfl))
                  (try simp only [Act.put, List.setIfInBounds_toArray, List.set_cons_zero, List.set_cons_succ, List.getElem_toArray, List.getElem_cons_zero, List.getElem_cons_succ])
                  refine wpAnyH_take (i := 8) (oi := _) (v := ?vbyc8) rfl (by kernel_rfl) (by kernel_rfl) (by kernel_rfl) (fun _ _ _ h => h) (Or.inl ⟨by rfl, ?hybyc8⟩) (by assumption) ?restbyc8
                  case hybyc8 => (intro w hSw; (try dsimp only at hSw); (try simp only [List.getElem_toArray, List.getElem_cons_zero, List.getElem_cons_succ]); go_simp; (try with_reducible rfl))
                  (try simp only [Act.put, List.setIfInBounds_toArray, List.set_cons_zero, List.set_cons_succ, List.getElem_toArray, List.getElem_cons_zero, List.getElem_cons_succ])
                  refine wpAnyH_ready (rs := [10]) (by kernel_rfl) (by simp) ?_
                  refine AllReadyH.cons (o := _) rfl (fun K hK => ?_) AllReadyH.nil
                  (try simp only [List.getElem_toArray, List.getElem_cons_zero, List.getElem_cons_succ])
                  go_simp
                  refine hK.out _ _ ?_ (fun hHeld => ?_)
                  · exact tell3 e1 ((k3.setCell (fun _ => Nat.le_refl _) _).setCell (fun _ => Nat.le_refl _) _)
                  clear hK K
                  (try simp only [Act.put, List.setIfInBounds_toArray, List.set_cons_zero, List.set_cons_succ, List.getElem_toArray, List.getElem_cons_zero, List.getElem_cons_succ])
                  refine wpAnyH_take (i := 11) (oi := _) (v := ?vbyc11) rfl (by kernel_rfl) (by kernel_rfl) (by kernel_rfl) (fun _ _ _ h => h) (Or.inl ⟨by rfl, ?hybyc11⟩) (by assumption) ?restbyc11
                  case hybyc11 => (intro w hSw; (try dsimp only at hSw); (try simp only [List.getElem_toArray, List.getElem_cons_zero, List.getElem_cons_succ]); go_simp; (try with_reducible rfl))
                  (try simp only [Act.put, List.setIfInBounds_toArray, List.set_cons_zero, List.set_cons_succ, List.getElem_toArray, List.getElem_cons_zero, List.getElem_cons_succ])
                  refine wpAnyH_done (by kernel_rfl) ?_ _
                  refine NoPanic.normal ?_
                  have Q0 : Hid (WinAt w3 wr.heap.size 0 0) := Lib.hid ⟨g0, g1, g2, g3⟩
                  clear g0 g1 g2 g3
                  clear d1
                  go_wp2_with fail
                  go_meet
                  first | exact ⟨wr.heap.size, rfl, rfl, Lib.hid ((Q0.out).set _ _), Lib.hid ((k3.setCell (fun _ => Nat.le_refl _) _).setCell (fun _ => Nat.le_refl _) _), Nat.le_refl _⟩ | exact ⟨wr.heap.size, rfl, rfl, Lib.hid (WinAt.drew ((Q0.out).set _ _)), Lib.hid (Keep.drew ((k3.setCell (fun _ => Nat.le_refl _) _).setCell (fun _ => Nat.le_refl _) _)), Nat.le_refl _⟩
              case rest =>
                obtain ⟨pv, rfl, rfl, HV, HK, hpv⟩ := hcut
                have lm := HS2.out.map.lt
                have OW : Hid (OnceAt w pw (pw + 1) ((j : Int) + 1) (s') (j + 1) wc) := Lib.hid (HS2.out.keep HK.out (by omega) (by omega) (fun i hi => by have := HS2.out.base.size; omega))
                have LW : Hid (LstAt wc (some ⟨b8, off8, none⟩) len cap lst j pw) := Lib.hid (HL'.out.keep HK.out (fun i hi => .inr (.inr hi)))
                have rc : wc.cell? ⟨b8, off8 + q, none⟩ = some (.int .i64 (y)) := (HK.out.cell (p := ⟨b8, off8 + q, none⟩) hb8 (by show ¬ wr.heap.size ≤ b8; omega)).trans ry
                clear HS2 HL' c0 c1 e1 ry HK
                have V5 := HV
                have HM : Hid (MapI Try.prog 3 wc (pw + 1) (j + 1) (cntI ((j : Int) + 1))) := Lib.hid OW.out.map
                have W5 := Lib.hid OW.out.win
                have L5 := LW
                have B5 := Lib.hid OW.out.base
                have lw := OW.out.lw
                clear OW HV LW rc
                have v0 := V5.out.c0
                have v1 := V5.out.c1
                have u0 := W5.out.c0
                have u1 := W5.out.c1
                have u2 := W5.out.f0
                have u3 := W5.out.f1
                go_wp2_with fail
                have KS : Hid (∀ u v, Keep (fun k => pw = k) wc ((wc.setCell ⟨pw, 0, none⟩ u).setCell ⟨pw, 1, none⟩ v)) := Lib.hid (fun u v => Keep.setCell (S := fun k => pw = k) (Keep.setCell (S := fun k => pw = k) (Keep.refl _ _) (p := ⟨pw, 0, none⟩) (fun _ => rfl) u) (p := ⟨pw, 1, none⟩) (fun _ => rfl) v)
                go_roundw
                case rel =>
                  exact ⟨q + 1, by go_num, by omega, Lib.hid (L5.out.keep (KS.out _ _) (fun i hi => .inl hi)), Lib.hid (by
                    rw [if_neg (Nat.succ_ne_zero q), if_neg (Nat.succ_ne_zero q), if_neg (Nat.succ_ne_zero q)]
                    rw [← HSS.out]
                    exact ⟨W5.out.set _ _, HM.out.keep (KS.out _ _) (by omega), B5.out.trans ((KS.out _ _).below B5.out.size (fun i hi e => by omega)), lw, by omega, by omega⟩)⟩
                case measure => simp [intOf]; omega
          · have hq0 : q ≠ 0 := by
              intro e
              have h1 := HL'.out.head
              have h2 := HL'.out.buf.len
              rw [List.length_map] at h2
              have h3 := (List.getElem?_eq_some_iff.1 h1).1
              omega
            have HS2 : Hid (OnceAt w pw (pw + 1) ((j : Int) + 1) (markS j s ((j : Int) + 1)) (j + 1) wr) := Lib.hid (by have := HS.out; simpa [hq0] using this)
            have HF2 := Lib.hid (full_next HF.out (show (j : Int) < 1000 by omega)).2
            clear HS HL' hq0
            go_wp2_with fail
            go_roundw
            case rel => exact ⟨j + 1, markS j s ((j : Int) + 1), by go_num, by omega, by rw [show ((j + 1 : Nat) : Int) = (j : Int) + 1 from by omega]; exact HF2, by rw [show ((j + 1 : Nat) : Int) = (j : Int) + 1 from by omega]; exact HS2⟩
            case measure => simp [intOf]; omega
    · have hjn : (j : Int) = nn := by omega
      have hO := HO.out
      rw [hjn] at hO
      have HN := Lib.hid hjn
      have HX := Lib.hid hO
      clear hjn hO HO HF
      go_wp2_with fail
      go_loop [12] (fun i => ∃ k : Nat, i = .int .i64 ((k : Int) + 1) ∧ (k : Int) ≤ nn) (fun i => 301 - (intOf i).toNat)
      case atStart => exact ⟨0, rfl, by omega⟩
      case round =>
        obtain ⟨k, rfl, hk⟩ := hrel
        by_cases hkl : (k : Int) + 1 ≤ nn
        · have hlk := HX.out.map.look Try.underlying3 Try.underlying36 (t := 36) (e := 3) (z := .int .i64 0) rfl (x := (k : Int) + 1) (by simp [Lit.wf, IntKind.min, IntKind.max, IntKind.signed, IntKind.bits]; omega)
          rw [cnt_in (by omega) hkl] at hlk
          have hlk2 : (Instr.lookup 36 (.map (some (pw + 1))) (.int .i64 ((k : Int) + 1)) false).run Try.prog wr = .ok (.int .i64 1) wr := hlk
          clear hlk
          go_wp2_with fail
          go_round
          case rel => exact ⟨k + 1, by go_num, by omega⟩
          case measure => simp [intOf]; omega
        · have c0 := HX.out.win.c0
          have hlen : (Builtin.len_ #[36] 3 #[.map (some (pw + 1))]).run Try.prog wr = .ok (.int .i64 nn) wr := by
            have := HX.out.map.len Try.underlying36 3
            rw [HN.out] at this
            exact this
          go_wp2_with fail
          go_ret
          exact ⟨rfl, HX.out.base⟩

set_option maxRecDepth 100000 in
set_option maxHeartbeats 1600000 in
theorem walk_WindowOnce (a0 : Int) (w0 : (Lit.int .i64 a0).wf = true) (A : Option Addr) (n c : Nat) (zs : List Int) (w : World) (hz : Ints w A n zs) :
    Calls Try.prog 4 #[.int .i64 a0, .slice A n c] w fun e w' => e = .returned (.bool true) ∧ Below w.heap.size w w' := by
  have hm := hz.2.2.2
  unfold maxLen at hm
  by_cases h0 : a0 < 1
  · have e0 : decide (a0 < 1) = true := by simpa using h0
    clear hz
    go_enter Try.func4, Try.ntmps4
    go_wp2_with fail
    refine (alive_any _).mono ?_
    rintro e w1 ⟨rfl, hb⟩
    go_wp2_with fail
    go_ret
    exact ⟨rfl, hb⟩
  have e0 : decide (a0 < 1) = false := by simpa using h0
  by_cases h1 : 300 < a0
  · have e1 : decide (300 < a0) = true := by simpa using h1
    clear hz
    go_enter Try.func4, Try.ntmps4
    go_wp2_with fail
    refine (alive_any _).mono ?_
    rintro e w1 ⟨rfl, hb⟩
    go_wp2_with fail
    go_ret
    exact ⟨rfl, hb⟩
  have e1 : decide (300 < a0) = false := by simpa using h1
  by_cases h2 : 100 < (n : Int)
  · have e2 : decide (100 < (n : Int)) = true := by simpa using h2
    clear hz
    go_enter Try.func4, Try.ntmps4
    go_wp2_with fail
    refine (alive_any _).mono ?_
    rintro e w1 ⟨rfl, hb⟩
    go_wp2_with fail
    go_ret
    exact ⟨rfl, hb⟩
  have e2 : decide (100 < (n : Int)) = false := by simpa using h2
  exact once_good a0 A n c zs w hz (by omega) (by omega) (by omega)

end Go.Proofs.Ytfgcbgingcadaaa
