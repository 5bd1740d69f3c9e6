/- Law WindowPlays: the walk. Own work. -/
import Derived.Test.YtfgcbgingcadaaaRefWMark
import Derived.Test.YtfgcbgingcadaaaWindowFarWalk
import Derived.Deep.RegionHeld3
import Derived.Deep.CutRange
namespace Go.Proofs.Ytfgcbgingcadaaa
set_option linter.unusedVariables false
set_option linter.unusedSimpArgs false
open Go.RowKit

/-- The program's window and the document's, alike. -/
structure Both (w0 : World) (pw pr : Nat) (t : Int) (A : Option Addr) (c : Nat) (g : List Int) (w : World) : Prop where
  win : WinAt w pw t (bitsF t g)
  ref : RefAt w pr 0 t A c g
  base : Below w0.heap.size w0 w
  lw : w0.heap.size ≤ pw
  lr : w0.heap.size ≤ pr
  ne : pw ≠ pr
  la : ∀ k, blk A = some k → w0.heap.size ≤ k ∧ pw ≠ k

theorem Both.keep {w0 w w' : World} {pw pr : Nat} {t : Int} {A : Option Addr} {c : Nat} {g : List Int} (h : Both w0 pw pr t A c g w) {S : Nat → Prop} (k : Keep S w w') (h1 : ¬ S pw) (h2 : ¬ S pr) (h3 : ∀ i, blk A = some i → ¬ S i) (h4 : ∀ i, S i → w0.heap.size ≤ i) : Both w0 pw pr t A c g w' :=
  ⟨h.win.keep k h1, h.ref.keep k h2 h3, h.base.trans (k.below h.base.size (fun i hi hs => by have := h4 i hs; omega)), h.lw, h.lr, h.ne, h.la⟩
theorem Both.below {w0 w w' : World} {pw pr : Nat} {t : Int} {A : Option Addr} {c : Nat} {g : List Int} (h : Both w0 pw pr t A c g w) (k : Below w.heap.size w w') : Both w0 pw pr t A c g w' := h.keep (S := fun _ => False) (Keep.of_below _ k) (fun x => x) (fun x => x) (fun _ _ x => x) (fun _ x => x.elim)
theorem Both.alloc {w0 w : World} {pw pr : Nat} {t : Int} {A : Option Addr} {c : Nat} {g : List Int} (h : Both w0 pw pr t A c g w) (o : Obj) : Both w0 pw pr t A c g (w.alloc o) := h.keep (S := fun _ => False) ((Keep.refl _ w).alloc o) (fun x => x) (fun x => x) (fun _ _ x => x) (fun _ x => x.elim)
theorem Both.drew {w0 w : World} {pw pr : Nat} {t : Int} {A : Option Addr} {c : Nat} {g : List Int} (h : Both w0 pw pr t A c g w) : Both w0 pw pr t A c g w.drew := h.keep (S := fun _ => False) ((Keep.refl _ w).drew) (fun x => x) (fun x => x) (fun _ _ x => x) (fun _ x => x.elim)
theorem Both.drewN {w0 w : World} {pw pr : Nat} {t : Int} {A : Option Addr} {c : Nat} {g : List Int} (h : Both w0 pw pr t A c g w) (k : Nat) : Both w0 pw pr t A c g (w.drewN k) := h.keep (S := fun _ => False) ((Keep.refl _ w).drewN k) (fun x => x) (fun x => x) (fun _ _ x => x) (fun _ x => x.elim)

/-- Fresh of the program's window, in the document's words. -/
theorem both_fresh {w0 w : World} {pw pr : Nat} {t : Int} {A : Option Addr} {c : Nat} {g : List Int} (h : Both w0 pw pr t A c g w) (hg : GotOk t g) (n : Int) :
    Calls Try.prog 8 #[.agg #[.int .i64 t, .int .u64 (bitsF t g : Nat)], .int .i64 n] w fun e w' => e = .returned (.bool (freshL t g n)) ∧ Both w0 pw pr t A c g w' :=
  (win_fresh_is t (bitsF t g) n (freshL t g n) w (bits_lt hg) hg.lo hg.hi (fresh_ref hg n)).mono fun e w' ⟨h1, h2⟩ => ⟨h1, h.below h2⟩
theorem both_old {w0 w : World} {pw pr : Nat} {t : Int} {A : Option Addr} {c : Nat} {g : List Int} (h : Both w0 pw pr t A c g w) (hg : GotOk t g) :
    Calls Try.prog 13 #[.agg #[.int .i64 t, .int .u64 (bitsF t g : Nat)]] w fun e w' => e = .returned (.int .i64 (max (t - 64) 0)) ∧ Both w0 pw pr t A c g w' :=
  (old_is t (bitsF t g) w hg.lo hg.hi).mono fun e w' ⟨h1, h2⟩ => ⟨h1, h.below h2⟩
theorem both_ref {w0 w : World} {pw pr : Nat} {t : Int} {A : Option Addr} {c : Nat} {g : List Int} (h : Both w0 pw pr t A c g w) (hg : GotOk t g) (hl : g.length ≤ 1000000) (n : Int) :
    Calls Try.prog 9 #[.pointer (some ⟨pr, 0, none⟩), .int .i64 n] w fun e w' => e = .returned (.bool (freshL t g n)) ∧ Both w0 pw pr t A c g w' :=
  (ref_fresh pr 0 t A c g n w h.ref hg.lo hg.hi hl).mono fun e w' ⟨h1, h2⟩ => ⟨h1, h2 ▸ h⟩
theorem both_bits {w0 w : World} {pw pr : Nat} {t : Int} {A : Option Addr} {c : Nat} {g : List Int} (h : Both w0 pw pr t A c g w) (hg : GotOk t g) (hl : g.length ≤ 1000000) :
    Calls Try.prog 12 #[.pointer (some ⟨pr, 0, none⟩)] w fun e w' => e = .returned (.int .u64 ((bitsF t g : Nat) : Int)) ∧ Both w0 pw pr t A c g w' :=
  (ref_bits pr 0 t A c g w h.ref hg hl).mono fun e w' ⟨h1, k, h2⟩ => ⟨h1, h2 ▸ h.drewN k⟩

theorem not_fresh_now {t : Int} {g : List Int} (hg : GotOk t g) {n : Int} : freshL (if freshL t g n then max t n else t) (if freshL t g n then markL t g n else g) n = false := by
  cases hf : freshL t g n
  · simpa using hf
  · simp only [if_true]
    rw [← Bool.not_eq_true, freshL_true]
    rintro ⟨_, _, _, h4⟩
    exact h4 (by unfold markL; simp)

theorem markL_len (t : Int) (g : List Int) (n : Int) : (markL t g n).length ≤ g.length + 1 := by
  unfold markL
  rw [List.length_append]
  have := List.length_filter_le (fun x => decide (max t n - 64 < x)) g
  simp
  exact this

theorem tells8 {w0 w : World} {pw pr : Nat} {t : Int} {A : Option Addr} {c : Nat} {g : List Int} (h : Both w0 pw pr t A c g w) {a : Addr} {v : Value} (ha : w.cell? a = some v) :
    w.cell? ⟨pw, 0, none⟩ = some (.int .i64 t) ∧ w.cell? ⟨pw, 1, none⟩ = some (.int .u64 (bitsF t g : Nat)) ∧ w.cell? ⟨pr, 0, none⟩ = some (.int .i64 t) ∧ w.cell? a = some v := ⟨h.win.c0, h.win.c1, h.ref.c0, ha⟩

set_option maxRecDepth 100000 in
set_option maxHeartbeats 3200000 in
theorem plays_good (Z : Option Addr) (n c : Nat) (zs : List Int) (ask : Int) (w : World) (hz : Ints w Z n zs) (h1 : n ≤ 200) :
    Calls Try.prog 3 #[.slice Z n c, .int .i64 ask] w fun e w' => e = .returned (.bool true) ∧ Below w.heap.size w w' := by
  have HZ := Lib.hid hz
  clear hz
  have d1 : decide (200 < (n : Int)) = false := by simp; omega
  go_enter Try.func3, Try.ntmps3
  go_wp2_with fail
  refine (alive_any _).mono ?_
  rintro e w1 ⟨rfl, hb⟩
  have K0 : Hid (Both w w1.heap.size (w1.heap.size + 1) 0 none 0 [] ((w1.alloc (.cells #[.int .i64 0, .int .u64 0] 26)).alloc (.cells #[.int .i64 0, .slice none 0 0] 29))) :=
    Lib.hid ⟨(winAt_new w1 0 0 26).alloc _, ⟨by simp [go_sem, Array.size_push], by simp [go_sem, Array.size_push], by simp [go_sem, Array.size_push], by simp [go_sem, Array.size_push], Buf.nil _, fun k hk => by simp [blk] at hk⟩,
      (hb.alloc hb.size _).alloc (by have := hb.size; simp; omega) _, hb.size, by have := hb.size; omega, by omega, fun k hk => by simp [blk] at hk⟩
  clear hb
  go_wp2_with fail
  obtain ⟨pw, hpw⟩ : ∃ p, p = w1.heap.size := ⟨_, rfl⟩
  rw [← hpw] at K0 ⊢
  clear hpw
  go_loopw [7] (fun i wr => ∃ (k : Nat) (t : Int) (A : Option Addr) (ca : Nat) (g : List Int), i = .int .i64 k ∧ k ≤ n ∧ g.length ≤ k ∧ Hid (GotOk t g) ∧ Hid (Both w pw (pw + 1) t A ca g wr)) (fun i _ => n - (intOf i).toNat)
  case atStart => exact ⟨0, 0, none, 0, [], rfl, by omega, by simp, Lib.hid got_nil, K0⟩
  case round =>
    obtain ⟨k, t, A, ca, g, rfl, hk, hgl, HG, HB⟩ := hrel
    clear K0
    by_cases hlt : k < n
    · obtain ⟨x, hx⟩ : ∃ x, zs[k]? = some x := ⟨zs[k]'(by rw [HZ.out.1]; exact hlt), List.getElem?_eq_getElem _⟩
      obtain ⟨q, off, rfl, hq, hcz⟩ := HZ.out.2.1 (by omega)
      have rx0 := hcz k x hx
      have RD : Hid (∀ W, Below w.heap.size w W → W.cell? ⟨q, off + k, none⟩ = some (.int .i64 x)) := Lib.hid (fun W hW => (hW.cell (p := ⟨q, off + k, none⟩) hq).trans rx0)
      clear hx hcz rx0
      have g0 := HG.out.lo
      have g1 := HG.out.hi
      have s1 : wr.cell? ⟨pw, 0, none⟩ = some (.int .i64 t) ∧ wr.cell? ⟨pw, 1, none⟩ = some (.int .u64 (bitsF t g : Nat)) ∧ wr.cell? ⟨q, off + k, none⟩ = some (.int .i64 x) := ⟨HB.out.win.c0, HB.out.win.c1, RD.out _ HB.out.base⟩
      go_wp2_with fail
      go_region_held3 (fun w' => w'.cell? ⟨pw, 0, none⟩ = some (.int .i64 t) ∧ w'.cell? ⟨pw, 1, none⟩ = some (.int .u64 (bitsF t g : Nat)) ∧ w'.cell? ⟨q, off + k, none⟩ = some (.int .i64 x)) (first | exact s2 | exact s1 | go_keep) (first
        | (go_at_call 8; refine (both_fresh (w0 := w) (pw := pw) (pr := pw + 1) (A := A) (c := ca) ?_ HG.out x).mono ?_; (first | exact HB.out | exact HB.out.drew); rintro e w5 ⟨rfl, h1⟩; have H2 := Lib.hid h1; have s2 : w5.cell? ⟨pw, 0, none⟩ = some (.int .i64 t) ∧ w5.cell? ⟨pw, 1, none⟩ = some (.int .u64 (bitsF t g : Nat)) ∧ w5.cell? ⟨q, off + k, none⟩ = some (.int .i64 x) := ⟨h1.win.c0, h1.win.c1, RD.out _ h1.base⟩; clear h1)
        | (go_at_call 9; refine (both_ref (w0 := w) (pw := pw) (pr := pw + 1) (A := A) (c := ca) H2.out HG.out (by omega) x).mono ?_; rintro e w6 ⟨rfl, h1⟩; have H3 := Lib.hid h1; have s3 : w6.cell? ⟨pw, 0, none⟩ = some (.int .i64 t) ∧ w6.cell? ⟨pw, 1, none⟩ = some (.int .u64 (bitsF t g : Nat)) ∧ w6.cell? ⟨q, off + k, none⟩ = some (.int .i64 x) := ⟨h1.win.c0, h1.win.c1, RD.out _ h1.base⟩; clear h1)
        | fail)
      go_wp2_with fail
      have HB6 : Hid (Both w pw (pw + 1) t A ca g w6) := by assumption
      have e1 : w6.cell? ⟨pw, 0, none⟩ = some (.int .i64 t) ∧ w6.cell? ⟨pw, 1, none⟩ = some (.int .u64 (bitsF t g : Nat)) ∧ w6.cell? ⟨q, off + k, none⟩ = some (.int .i64 x) := ⟨HB6.out.win.c0, HB6.out.win.c1, RD.out _ HB6.out.base⟩
      clear s1 s2 HB H2
      clear s3 H3
      rcases Bool.eq_false_or_eq_true (freshL t g x) with hl | hl
      · have HL := Lib.hid hl
        have FB : Hid (freshB t (bitsF t g) x = true) := Lib.hid (by rw [fresh_ref HG.out]; exact hl)
        clear hl
        go_cut [8, 9] from 20 to 107 (fun s8 s9 wx => ∃ pv : Nat, s8 = .pointer (some ⟨pv, 0, none⟩) ∧ s9 = .bool true ∧ Hid (WinAt wx pv (max t x) (bitsF (max t x) (markL t g x))) ∧ Hid (Keep (fun k => w6.heap.size ≤ k) w6 wx) ∧ w6.heap.size ≤ pv)
        case first =>
          refine wp_region_noPanic ?_
          refine wp_region_held_drew (S := fun w' => w'.cell? ⟨pw, 0, none⟩ = some (.int .i64 t) ∧ w'.cell? ⟨pw, 1, none⟩ = some (.int .u64 (bitsF t g : Nat)) ∧ w'.cell? ⟨q, off + k, none⟩ = some (.int .i64 x)) (by kernel_rfl) e1 (fun hHeld => ?_)
          refine wpAnyH_take (i := 0) (oi := _) (v := ?vraa0) rfl (by kernel_rfl) (by kernel_rfl) (by kernel_rfl) (fun _ _ _ h => h) (Or.inl ⟨by rfl, ?hyraa0⟩) (by assumption) ?restraa0
          case hyraa0 => (intro w hSw; (try dsimp only at hSw); (try simp only [List.getElem_toArray, List.getElem_cons_zero, List.getElem_cons_succ]); go_simp; (try with_reducible rfl))
          (try simp only [Act.put, List.setIfInBounds_toArray, List.set_cons_zero, List.set_cons_succ, List.getElem_toArray, List.getElem_cons_zero, List.getElem_cons_succ])
          refine wpAnyH_take (i := 1) (oi := _) (v := ?vraa1) rfl (by kernel_rfl) (by kernel_rfl) (by kernel_rfl) (fun _ _ _ h => h) (Or.inl ⟨by rfl, ?hyraa1⟩) (by assumption) ?restraa1
          case hyraa1 => (intro w hSw; (try dsimp only at hSw); (try simp only [List.getElem_toArray, List.getElem_cons_zero, List.getElem_cons_succ]); go_simp; (try with_reducible rfl))
          (try simp only [Act.put, List.setIfInBounds_toArray, List.set_cons_zero, List.set_cons_succ, List.getElem_toArray, List.getElem_cons_zero, List.getElem_cons_succ])
          refine wpAnyH_take (i := 2) (oi := _) (v := ?vraa2) rfl (by kernel_rfl) (by kernel_rfl) (by kernel_rfl) (fun _ _ _ h => h) (Or.inl ⟨by rfl, ?hyraa2⟩) (by assumption) ?restraa2
          case hyraa2 => (intro w hSw; (try dsimp only at hSw); (try simp only [List.getElem_toArray, List.getElem_cons_zero, List.getElem_cons_succ]); go_simp; (try with_reducible rfl))
          (try simp only [Act.put, List.setIfInBounds_toArray, List.set_cons_zero, List.set_cons_succ, List.getElem_toArray, List.getElem_cons_zero, List.getElem_cons_succ])
          refine wpAnyH_take (i := 3) (oi := _) (v := ?vraa3) rfl (by kernel_rfl) (by kernel_rfl) (by kernel_rfl) (fun _ _ _ h => h) (Or.inl ⟨by rfl, ?hyraa3⟩) (by assumption) ?restraa3
          case hyraa3 => (intro w hSw; (try dsimp only at hSw); (try simp only [List.getElem_toArray, List.getElem_cons_zero, List.getElem_cons_succ]); go_simp; (try with_reducible rfl))
          (try simp only [Act.put, List.setIfInBounds_toArray, List.set_cons_zero, List.set_cons_succ, List.getElem_toArray, List.getElem_cons_zero, List.getElem_cons_succ])
          refine wpAnyH_take (i := 4) (oi := _) (v := ?vraa4) rfl (by kernel_rfl) (by kernel_rfl) (by kernel_rfl) (fun _ _ _ h => h) (Or.inl ⟨by rfl, ?hyraa4⟩) (by assumption) ?restraa4
          case hyraa4 => (intro w hSw; (try dsimp only at hSw); (try simp only [List.getElem_toArray, List.getElem_cons_zero, List.getElem_cons_succ]); go_simp; (try with_reducible rfl))
          (try simp only [Act.put, List.setIfInBounds_toArray, List.set_cons_zero, List.set_cons_succ, List.getElem_toArray, List.getElem_cons_zero, List.getElem_cons_succ])
          refine wpAnyH_ready (rs := [5, 9]) (by kernel_rfl) (by simp) ?_
          refine AllReadyH.cons (o := _) rfl (fun K hK => ?_) (AllReadyH.cons (o := _) rfl (fun K hK => ?_) AllReadyH.nil)
          · (try simp only [List.getElem_toArray, List.getElem_cons_zero, List.getElem_cons_succ])
            go_simp
            (refine (win_take t (bitsF t g) x (max t x) (bitsF (max t x) (markL t g x)) _ (bits_lt HG.out) g0 g1 FB.out rfl (bits_mark HG.out HL.out)).mono ?_; rintro e w3 ⟨rfl, hb3⟩; have k3 := quiet_keep (w0 := w6) (by first | exact Keep.refl _ _ | exact (Keep.refl _ _).drew | exact (Keep.refl _ _).alloc _ | exact ((Keep.refl _ _).alloc _).drew | exact ((Keep.refl _ _).drew).alloc _) hb3; have d1 := tell3 e1 k3)
            refine hK.out _ _ ?_ (fun hHeld => ?_)
            · exact d1
            clear hK K
            (try simp only [Act.put, List.setIfInBounds_toArray, List.set_cons_zero, List.set_cons_succ, List.getElem_toArray, List.getElem_cons_zero, List.getElem_cons_succ])
            refine wpAnyH_take (i := 6) (oi := _) (v := ?vrab6) rfl (by kernel_rfl) (by kernel_rfl) (by kernel_rfl) (fun _ _ _ h => h) (Or.inl ⟨by rfl, ?hyrab6⟩) (by assumption) ?restrab6
            case hyrab6 => (intro w hSw; (try dsimp only at hSw); (try simp only [List.getElem_toArray, List.getElem_cons_zero, List.getElem_cons_succ]); go_simp; (try with_reducible rfl))
            (try simp only [Act.put, List.setIfInBounds_toArray, List.set_cons_zero, List.set_cons_succ, List.getElem_toArray, List.getElem_cons_zero, List.getElem_cons_succ])
            refine wpAnyH_take (i := 7) (oi := _) (v := ?vrab7) rfl (by kernel_rfl) (by kernel_rfl) (by kernel_rfl) (fun _ _ _ h => h) (Or.inl ⟨by rfl, ?hyrab7⟩) (by assumption) ?restrab7
            case hyrab7 => (intro w hSw; (try dsimp only at hSw); (try simp only [List.getElem_toArray, List.getElem_cons_zero, List.getElem_cons_succ]); go_simp; (try with_reducible rfl))
            (try simp only [Act.put, List.setIfInBounds_toArray, List.set_cons_zero, List.set_cons_succ, List.getElem_toArray, List.getElem_cons_zero, List.getElem_cons_succ])
            refine wpAnyH_take (i := 8) (oi := _) (v := ?vrab8) rfl (by kernel_rfl) (by kernel_rfl) (by kernel_rfl) (fun _ _ _ h => h) (Or.inl ⟨by rfl, ?hyrab8⟩) (by assumption) ?restrab8
            case hyrab8 => (intro w hSw; (try dsimp only at hSw); (try simp only [List.getElem_toArray, List.getElem_cons_zero, List.getElem_cons_succ]); go_simp; (try with_reducible rfl))
            (try simp only [Act.put, List.setIfInBounds_toArray, List.set_cons_zero, List.set_cons_succ, List.getElem_toArray, List.getElem_cons_zero, List.getElem_cons_succ])
            refine wpAnyH_ready (rs := [9]) (by kernel_rfl) (by simp) ?_
            refine AllReadyH.cons (o := _) rfl (fun K hK => ?_) AllReadyH.nil
            (try simp only [List.getElem_toArray, List.getElem_cons_zero, List.getElem_cons_succ])
            go_simp
            refine hK.out _ _ ?_ (fun hHeld => ?_)
            · exact tell3 e1 (k3.alloc _)
            clear hK K
            (try simp only [Act.put, List.setIfInBounds_toArray, List.set_cons_zero, List.set_cons_succ, List.getElem_toArray, List.getElem_cons_zero, List.getElem_cons_succ])
            refine wpAnyH_ready (rs := [10]) (by kernel_rfl) (by simp) ?_
            refine AllReadyH.cons (o := _) rfl (fun K hK => ?_) AllReadyH.nil
            (try simp only [List.getElem_toArray, List.getElem_cons_zero, List.getElem_cons_succ])
            go_simp
            refine hK.out _ _ ?_ (fun hHeld => ?_)
            · exact tell3 e1 (k3.alloc _)
            clear hK K
            (try simp only [Act.put, List.setIfInBounds_toArray, List.set_cons_zero, List.set_cons_succ, List.getElem_toArray, List.getElem_cons_zero, List.getElem_cons_succ])
            refine wpAnyH_take (i := 11) (oi := _) (v := ?vrab11) rfl (by kernel_rfl) (by kernel_rfl) (by kernel_rfl) (fun _ _ _ h => h) (Or.inl ⟨by rfl, ?hyrab11⟩) (by assumption) ?restrab11
            case hyrab11 => (intro w hSw; (try dsimp only at hSw); (try simp only [List.getElem_toArray, List.getElem_cons_zero, List.getElem_cons_succ]); go_simp; (try with_reducible rfl))
            (try simp only [Act.put, List.setIfInBounds_toArray, List.set_cons_zero, List.set_cons_succ, List.getElem_toArray, List.getElem_cons_zero, List.getElem_cons_succ])
            refine wpAnyH_done (by kernel_rfl) ?_ _
            refine NoPanic.normal ?_
            clear d1
            go_wp2_with fail
            go_meet
            first | exact ⟨w3.heap.size, rfl, rfl, Lib.hid (winAt_new w3 _ _ _), Lib.hid (k3.alloc _), k3.size⟩ | exact ⟨w3.heap.size, rfl, rfl, Lib.hid (WinAt.drew (winAt_new w3 _ _ _)), Lib.hid (Keep.drew (k3.alloc _)), k3.size⟩
          · (try simp only [List.getElem_toArray, List.getElem_cons_zero, List.getElem_cons_succ])
            go_simp
            refine hK.out _ _ ?_ (fun hHeld => ?_)
            · first | exact tell3 e1 ((Keep.refl _ _).alloc _) | exact tell3 e1 ((Keep.refl _ _).alloc _).drew
            clear hK K
            (try simp only [Act.put, List.setIfInBounds_toArray, List.set_cons_zero, List.set_cons_succ, List.getElem_toArray, List.getElem_cons_zero, List.getElem_cons_succ])
            refine wpAnyH_ready (rs := [5]) (by kernel_rfl) (by simp) ?_
            refine AllReadyH.cons (o := _) rfl (fun K hK => ?_) AllReadyH.nil
            (try simp only [List.getElem_toArray, List.getElem_cons_zero, List.getElem_cons_succ])
            go_simp
            (refine (win_take t (bitsF t g) x (max t x) (bitsF (max t x) (markL t g x)) _ (bits_lt HG.out) g0 g1 FB.out rfl (bits_mark HG.out HL.out)).mono ?_; rintro e w3 ⟨rfl, hb3⟩; have k3 := quiet_keep (w0 := w6) (by first | exact Keep.refl _ _ | exact (Keep.refl _ _).drew | exact (Keep.refl _ _).alloc _ | exact ((Keep.refl _ _).alloc _).drew | exact ((Keep.refl _ _).drew).alloc _) hb3; have d1 := tell3 e1 k3; obtain ⟨g0, g1, g2, g3⟩ := made3 (p := w6.heap.size) (by first | exact winAt_new _ 0 0 _ | exact (winAt_new _ 0 0 _).drew) hb3)
            refine hK.out _ _ ?_ (fun hHeld => ?_)
            · exact d1
            clear hK K
            (try simp only [Act.put, List.setIfInBounds_toArray, List.set_cons_zero, List.set_cons_succ, List.getElem_toArray, List.getElem_cons_zero, List.getElem_cons_succ])
            refine wpAnyH_take (i := 6) (oi := _) (v := ?vrac6) rfl (by kernel_rfl) (by kernel_rfl) (by kernel_rfl) (fun _ _ _ h => h) (Or.inl ⟨by rfl, ?hyrac6⟩) (by assumption) ?restrac6
            case hyrac6 => (intro w hSw; (try dsimp only at hSw); (try simp only [List.getElem_toArray, List.getElem_cons_zero, List.getElem_cons_succ]); go_simp; (try with_reducible rfl))
            (try simp only [Act.put, List.setIfInBounds_toArray, List.set_cons_zero, List.set_cons_succ, List.getElem_toArray, List.getElem_cons_zero, List.getElem_cons_succ])
            refine wpAnyH_take (i := 7) (oi := _) (v := ?vrac7) rfl (by kernel_rfl) (by kernel_rfl) (by kernel_rfl) (fun _ _ _ h => h) (Or.inl ⟨by rfl, ?hyrac7⟩) (by assumption) ?restrac7
            case hyrac7 => (intro w hSw; (try dsimp only at hSw); (try simp only [List.getElem_toArray, List.getElem_cons_zero, List.getElem_cons_succ]); go_simp; (try with_reducible rfl))
            (try simp only [Act.put, List.setIfInBounds_toArray, List.set_cons_zero, List.set_cons_succ, List.getElem_toArray, List.getElem_cons_zero, List.getElem_cons_succ])
            refine wpAnyH_take (i := 8) (oi := _) (v := ?vrac8) rfl (by kernel_rfl) (by kernel_rfl) (by kernel_rfl) (fun _ _ _ h => h) (Or.inl ⟨by rfl, ?hyrac8⟩) (by assumption) ?restrac8
            case hyrac8 => (intro w hSw; (try dsimp only at hSw); (try simp only [List.getElem_toArray, List.getElem_cons_zero, List.getElem_cons_succ]); go_simp; (try with_reducible rfl))
            (try simp only [Act.put, List.setIfInBounds_toArray, List.set_cons_zero, List.set_cons_succ, List.getElem_toArray, List.getElem_cons_zero, List.getElem_cons_succ])
            refine wpAnyH_ready (rs := [10]) (by kernel_rfl) (by simp) ?_
            refine AllReadyH.cons (o := _) rfl (fun K hK => ?_) AllReadyH.nil
            (try simp only [List.getElem_toArray, List.getElem_cons_zero, List.getElem_cons_succ])
            go_simp
            refine hK.out _ _ ?_ (fun hHeld => ?_)
            · exact tell3 e1 ((k3.setCell (fun _ => Nat.le_refl _) _).setCell (fun _ => Nat.le_refl _) _)
            clear hK K
            (try simp only [Act.put, List.setIfInBounds_toArray, List.set_cons_zero, List.set_cons_succ, List.getElem_toArray, List.getElem_cons_zero, List.getElem_cons_succ])
            refine wpAnyH_take (i := 11) (oi := _) (v := ?vrac11) rfl (by kernel_rfl) (by kernel_rfl) (by kernel_rfl) (fun _ _ _ h => h) (Or.inl ⟨by rfl, ?hyrac11⟩) (by assumption) ?restrac11
            case hyrac11 => (intro w hSw; (try dsimp only at hSw); (try simp only [List.getElem_toArray, List.getElem_cons_zero, List.getElem_cons_succ]); go_simp; (try with_reducible rfl))
            (try simp only [Act.put, List.setIfInBounds_toArray, List.set_cons_zero, List.set_cons_succ, List.getElem_toArray, List.getElem_cons_zero, List.getElem_cons_succ])
            refine wpAnyH_done (by kernel_rfl) ?_ _
            refine NoPanic.normal ?_
            have Q0 : Hid (WinAt w3 w6.heap.size 0 0) := Lib.hid ⟨g0, g1, g2, g3⟩
            clear g0 g1 g2 g3
            clear d1
            go_wp2_with fail
            go_meet
            first | exact ⟨w6.heap.size, rfl, rfl, Lib.hid ((Q0.out).set _ _), Lib.hid ((k3.setCell (fun _ => Nat.le_refl _) _).setCell (fun _ => Nat.le_refl _) _), Nat.le_refl _⟩ | exact ⟨w6.heap.size, rfl, rfl, Lib.hid (WinAt.drew ((Q0.out).set _ _)), Lib.hid (Keep.drew ((k3.setCell (fun _ => Nat.le_refl _) _).setCell (fun _ => Nat.le_refl _) _)), Nat.le_refl _⟩
        case rest =>
          obtain ⟨pv, rfl, rfl, HV, HK, hpv⟩ := hcut
          have lr := HB6.out.ref.lt
          have lw := HB6.out.win.lt
          have hsz := HB6.out.base.size
          have BW : Hid (Both w pw (pw + 1) t A ca g wc) := Lib.hid (HB6.out.keep HK.out (by omega) (by omega) (fun i hi e => by have := HB6.out.ref.buf.lt hi; omega) (fun i hi => by omega))
          have rc : wc.cell? ⟨q, off + k, none⟩ = some (.int .i64 x) := RD.out _ BW.out.base
          have hpv2 : pw < pv := by omega
          have hpv3 : pw + 1 < pv := by omega
          clear HB6 HK e1 lr lw hsz hpv
          go_wp2_with fail
          refine (ref_mark_yes (pw + 1) 0 t A ca g x wc BW.out.ref HG.out (by omega) HL.out).mono ?_
          rintro e w7 ⟨rfl, A', c', r1, r2, r3⟩
          have lwc := BW.out.win.lt
          have hwc := BW.out.base.size
          have lpv := HV.out.lt
          have V7 := Lib.hid (HV.out.keep r2 (by omega))
          have W7 := Lib.hid (BW.out.win.keep r2 (by omega))
          have R7 := Lib.hid r1
          have B7 : Hid (Below w.heap.size w w7) := Lib.hid (BW.out.base.trans (r2.below BW.out.base.size (fun i hi e => by have := BW.out.lr; omega)))
          have N7 := Lib.hid r3
          have l0 := BW.out.lw
          clear r1 r2 r3 rc HV
          have v0 := V7.out.c0
          have v1 := V7.out.c1
          have u0 := W7.out.c0
          have u1 := W7.out.c1
          have u2 := W7.out.f0
          have u3 := W7.out.f1
          have z7 : pw < w7.heap.size := W7.out.lt
          obtain ⟨t2, ht2⟩ : ∃ t2, t2 = max t x := ⟨_, rfl⟩
          obtain ⟨g2, hg2⟩ : ∃ g2, g2 = markL t g x := ⟨_, rfl⟩
          have GK := mark_ok HG.out HL.out
          have GF := not_fresh_now HG.out (n := x)
          have GL := markL_len t g x
          rw [HL.out] at GF
          simp only [if_true, ↓reduceIte] at GF
          rw [← ht2, ← hg2] at R7 GK GF
          rw [← hg2] at GL
          rw [← ht2] at v0
          rw [← ht2, ← hg2] at v1
          clear ht2 hg2 V7
          have GK2 := Lib.hid GK
          have GF2 := Lib.hid GF
          clear GK GF
          go_upto_region 14 with fail
          have KS : Hid (∀ u v, Keep (fun k => pw = k) w7 ((w7.setCell ⟨pw, 0, none⟩ u).setCell ⟨pw, 1, none⟩ v)) := Lib.hid (fun u v => Keep.setCell (S := fun k => pw = k) (Keep.setCell (S := fun k => pw = k) (Keep.refl _ _) (p := ⟨pw, 0, none⟩) (fun _ => rfl) u) (p := ⟨pw, 1, none⟩) (fun _ => rfl) v)
          have HB8 : Hid (Both w pw (pw + 1) t2 A' c' g2 ((w7.setCell ⟨pw, 0, none⟩ (.int .i64 t2)).setCell ⟨pw, 1, none⟩ (.int .u64 (bitsF t2 g2 : Nat)))) := Lib.hid
            ⟨W7.out.set _ _, R7.out.keep (KS.out _ _) (by omega) (fun i hi e => by have := N7.out i hi; omega), B7.out.trans ((KS.out _ _).below B7.out.size (fun i hi e => by omega)), l0, by omega, by omega, fun i hi => by have := N7.out i hi; omega⟩
          have tb0 := GK2.out.lo
          have tb1 := GK2.out.hi
          have i1 : IntKind.i64.wrap (t2 - 64) = t2 - 64 := IntWalk.i64_in _ (by omega)
          have s8 := tells8 HB8.out (RD.out _ HB8.out.base)
          have B9 := HB8.out
          have FX := GF2.out
          clear HB8
          go_region_held3 (fun w' => w'.cell? ⟨pw, 0, none⟩ = some (.int .i64 t2) ∧ w'.cell? ⟨pw, 1, none⟩ = some (.int .u64 (bitsF t2 g2 : Nat)) ∧ w'.cell? ⟨pw + 1, 0, none⟩ = some (.int .i64 t2) ∧ w'.cell? ⟨q, off + k, none⟩ = some (.int .i64 x)) (first | exact s9 | exact s8 | go_keep) (first
            | (go_at_call 12; refine (both_bits (w0 := w) (pw := pw) (pr := pw + 1) (A := A') (c := c') ?_ GK2.out (by omega)).mono ?_; (first | exact B9 | exact B9.drew); rintro e w9 ⟨rfl, B10⟩; have s9 := tells8 B10 (RD.out _ B10.base); clear B9)
            | (go_at_call 9; refine (both_ref (w0 := w) (pw := pw) (pr := pw + 1) (A := A') (c := c') B11 GK2.out (by omega) _).mono ?_; rintro e w11 ⟨rfl, B12⟩; have s9 := tells8 B12 (RD.out _ B12.base); clear B11)
            | (go_at_call 13; refine (both_old (w0 := w) (pw := pw) (pr := pw + 1) (A := A') (c := c') B12 GK2.out).mono ?_; rintro e w12 ⟨rfl, B13⟩; have s9 := tells8 B13 (RD.out _ B13.base); clear B12)
            | (go_at_call 8; refine (both_fresh (w0 := w) (pw := pw) (pr := pw + 1) (A := A') (c := c') B10 GK2.out _).mono ?_; rintro e w10 ⟨rfl, B11⟩; have s9 := tells8 B11 (RD.out _ B11.base); clear B10)
            | (go_at_call 8; refine (both_fresh (w0 := w) (pw := pw) (pr := pw + 1) (A := A') (c := c') B13 GK2.out _).mono ?_; rintro e w13 ⟨rfl, B14⟩; have s9 := tells8 B14 (RD.out _ B14.base); clear B13)
            | fail)
          all_goals
            clear i1 FX
            have B15 : Hid (Both w pw (pw + 1) t2 A' c' g2 w13) := Lib.hid (by assumption)
            clear B14 s9 s8
            go_wp2_with fail
            go_roundw
            case rel => exact ⟨k + 1, t2, A', c', g2, by go_num, by omega, by omega, GK2, B15⟩
            case measure => simp [intOf]; omega
      · have HL := Lib.hid hl
        have FB : Hid (freshB t (bitsF t g) x = false) := Lib.hid (by rw [fresh_ref HG.out]; exact hl)
        clear hl
        go_cut [8, 9] from 20 to 107 (fun s8 s9 wx => ∃ pv : Nat, s8 = .pointer (some ⟨pv, 0, none⟩) ∧ s9 = .bool false ∧ Hid (WinAt wx pv (t) (bitsF t g)) ∧ Hid (Keep (fun k => w6.heap.size ≤ k) w6 wx) ∧ w6.heap.size ≤ pv)
        case first =>
          refine wp_region_noPanic ?_
          refine wp_region_held_drew (S := fun w' => w'.cell? ⟨pw, 0, none⟩ = some (.int .i64 t) ∧ w'.cell? ⟨pw, 1, none⟩ = some (.int .u64 (bitsF t g : Nat)) ∧ w'.cell? ⟨q, off + k, none⟩ = some (.int .i64 x)) (by kernel_rfl) e1 (fun hHeld => ?_)
          refine wpAnyH_take (i := 0) (oi := _) (v := ?vrba0) rfl (by kernel_rfl) (by kernel_rfl) (by kernel_rfl) (fun _ _ _ h => h) (Or.inl ⟨by rfl, ?hyrba0⟩) (by assumption) ?restrba0
          case hyrba0 => (intro w hSw; (try dsimp only at hSw); (try simp only [List.getElem_toArray, List.getElem_cons_zero, List.getElem_cons_succ]); go_simp; (try with_reducible rfl))
          (try simp only [Act.put, List.setIfInBounds_toArray, List.set_cons_zero, List.set_cons_succ, List.getElem_toArray, List.getElem_cons_zero, List.getElem_cons_succ])
          refine wpAnyH_take (i := 1) (oi := _) (v := ?vrba1) rfl (by kernel_rfl) (by kernel_rfl) (by kernel_rfl) (fun _ _ _ h => h) (Or.inl ⟨by rfl, ?hyrba1⟩) (by assumption) ?restrba1
          case hyrba1 => (intro w hSw; (try dsimp only at hSw); (try simp only [List.getElem_toArray, List.getElem_cons_zero, List.getElem_cons_succ]); go_simp; (try with_reducible rfl))
          (try simp only [Act.put, List.setIfInBounds_toArray, List.set_cons_zero, List.set_cons_succ, List.getElem_toArray, List.getElem_cons_zero, List.getElem_cons_succ])
          refine wpAnyH_take (i := 2) (oi := _) (v := ?vrba2) rfl (by kernel_rfl) (by kernel_rfl) (by kernel_rfl) (fun _ _ _ h => h) (Or.inl ⟨by rfl, ?hyrba2⟩) (by assumption) ?restrba2
          case hyrba2 => (intro w hSw; (try dsimp only at hSw); (try simp only [List.getElem_toArray, List.getElem_cons_zero, List.getElem_cons_succ]); go_simp; (try with_reducible rfl))
          (try simp only [Act.put, List.setIfInBounds_toArray, List.set_cons_zero, List.set_cons_succ, List.getElem_toArray, List.getElem_cons_zero, List.getElem_cons_succ])
          refine wpAnyH_take (i := 3) (oi := _) (v := ?vrba3) rfl (by kernel_rfl) (by kernel_rfl) (by kernel_rfl) (fun _ _ _ h => h) (Or.inl ⟨by rfl, ?hyrba3⟩) (by assumption) ?restrba3
          case hyrba3 => (intro w hSw; (try dsimp only at hSw); (try simp only [List.getElem_toArray, List.getElem_cons_zero, List.getElem_cons_succ]); go_simp; (try with_reducible rfl))
          (try simp only [Act.put, List.setIfInBounds_toArray, List.set_cons_zero, List.set_cons_succ, List.getElem_toArray, List.getElem_cons_zero, List.getElem_cons_succ])
          refine wpAnyH_take (i := 4) (oi := _) (v := ?vrba4) rfl (by kernel_rfl) (by kernel_rfl) (by kernel_rfl) (fun _ _ _ h => h) (Or.inl ⟨by rfl, ?hyrba4⟩) (by assumption) ?restrba4
          case hyrba4 => (intro w hSw; (try dsimp only at hSw); (try simp only [List.getElem_toArray, List.getElem_cons_zero, List.getElem_cons_succ]); go_simp; (try with_reducible rfl))
          (try simp only [Act.put, List.setIfInBounds_toArray, List.set_cons_zero, List.set_cons_succ, List.getElem_toArray, List.getElem_cons_zero, List.getElem_cons_succ])
          refine wpAnyH_ready (rs := [5, 9]) (by kernel_rfl) (by simp) ?_
          refine AllReadyH.cons (o := _) rfl (fun K hK => ?_) (AllReadyH.cons (o := _) rfl (fun K hK => ?_) AllReadyH.nil)
          · (try simp only [List.getElem_toArray, List.getElem_cons_zero, List.getElem_cons_succ])
            go_simp
            (refine (win_mark_not t (bitsF t g) x _ (bits_lt HG.out) g0 g1 FB.out).mono ?_; rintro e w3 ⟨rfl, hb3⟩; have k3 := quiet_keep (w0 := w6) (by first | exact Keep.refl _ _ | exact (Keep.refl _ _).drew | exact (Keep.refl _ _).alloc _ | exact ((Keep.refl _ _).alloc _).drew | exact ((Keep.refl _ _).drew).alloc _) hb3; have d1 := tell3 e1 k3)
            refine hK.out _ _ ?_ (fun hHeld => ?_)
            · exact d1
            clear hK K
            (try simp only [Act.put, List.setIfInBounds_toArray, List.set_cons_zero, List.set_cons_succ, List.getElem_toArray, List.getElem_cons_zero, List.getElem_cons_succ])
            refine wpAnyH_take (i := 6) (oi := _) (v := ?vrbb6) rfl (by kernel_rfl) (by kernel_rfl) (by kernel_rfl) (fun _ _ _ h => h) (Or.inl ⟨by rfl, ?hyrbb6⟩) (by assumption) ?restrbb6
            case hyrbb6 => (intro w hSw; (try dsimp only at hSw); (try simp only [List.getElem_toArray, List.getElem_cons_zero, List.getElem_cons_succ]); go_simp; (try with_reducible rfl))
            (try simp only [Act.put, List.setIfInBounds_toArray, List.set_cons_zero, List.set_cons_succ, List.getElem_toArray, List.getElem_cons_zero, List.getElem_cons_succ])
            refine wpAnyH_take (i := 7) (oi := _) (v := ?vrbb7) rfl (by kernel_rfl) (by kernel_rfl) (by kernel_rfl) (fun _ _ _ h => h) (Or.inl ⟨by rfl, ?hyrbb7⟩) (by assumption) ?restrbb7
            case hyrbb7 => (intro w hSw; (try dsimp only at hSw); (try simp only [List.getElem_toArray, List.getElem_cons_zero, List.getElem_cons_succ]); go_simp; (try with_reducible rfl))
            (try simp only [Act.put, List.setIfInBounds_toArray, List.set_cons_zero, List.set_cons_succ, List.getElem_toArray, List.getElem_cons_zero, List.getElem_cons_succ])
            refine wpAnyH_take (i := 8) (oi := _) (v := ?vrbb8) rfl (by kernel_rfl) (by kernel_rfl) (by kernel_rfl) (fun _ _ _ h => h) (Or.inl ⟨by rfl, ?hyrbb8⟩) (by assumption) ?restrbb8
            case hyrbb8 => (intro w hSw; (try dsimp only at hSw); (try simp only [List.getElem_toArray, List.getElem_cons_zero, List.getElem_cons_succ]); go_simp; (try with_reducible rfl))
            (try simp only [Act.put, List.setIfInBounds_toArray, List.set_cons_zero, List.set_cons_succ, List.getElem_toArray, List.getElem_cons_zero, List.getElem_cons_succ])
            refine wpAnyH_ready (rs := [9]) (by kernel_rfl) (by simp) ?_
            refine AllReadyH.cons (o := _) rfl (fun K hK => ?_) AllReadyH.nil
            (try simp only [List.getElem_toArray, List.getElem_cons_zero, List.getElem_cons_succ])
            go_simp
            refine hK.out _ _ ?_ (fun hHeld => ?_)
            · exact tell3 e1 (k3.alloc _)
            clear hK K
            (try simp only [Act.put, List.setIfInBounds_toArray, List.set_cons_zero, List.set_cons_succ, List.getElem_toArray, List.getElem_cons_zero, List.getElem_cons_succ])
            refine wpAnyH_ready (rs := [10]) (by kernel_rfl) (by simp) ?_
            refine AllReadyH.cons (o := _) rfl (fun K hK => ?_) AllReadyH.nil
            (try simp only [List.getElem_toArray, List.getElem_cons_zero, List.getElem_cons_succ])
            go_simp
            refine hK.out _ _ ?_ (fun hHeld => ?_)
            · exact tell3 e1 (k3.alloc _)
            clear hK K
            (try simp only [Act.put, List.setIfInBounds_toArray, List.set_cons_zero, List.set_cons_succ, List.getElem_toArray, List.getElem_cons_zero, List.getElem_cons_succ])
            refine wpAnyH_take (i := 11) (oi := _) (v := ?vrbb11) rfl (by kernel_rfl) (by kernel_rfl) (by kernel_rfl) (fun _ _ _ h => h) (Or.inl ⟨by rfl, ?hyrbb11⟩) (by assumption) ?restrbb11
            case hyrbb11 => (intro w hSw; (try dsimp only at hSw); (try simp only [List.getElem_toArray, List.getElem_cons_zero, List.getElem_cons_succ]); go_simp; (try with_reducible rfl))
            (try simp only [Act.put, List.setIfInBounds_toArray, List.set_cons_zero, List.set_cons_succ, List.getElem_toArray, List.getElem_cons_zero, List.getElem_cons_succ])
            refine wpAnyH_done (by kernel_rfl) ?_ _
            refine NoPanic.normal ?_
            clear d1
            go_wp2_with fail
            go_meet
            first | exact ⟨w3.heap.size, rfl, rfl, Lib.hid (winAt_new w3 _ _ _), Lib.hid (k3.alloc _), k3.size⟩ | exact ⟨w3.heap.size, rfl, rfl, Lib.hid (WinAt.drew (winAt_new w3 _ _ _)), Lib.hid (Keep.drew (k3.alloc _)), k3.size⟩
          · (try simp only [List.getElem_toArray, List.getElem_cons_zero, List.getElem_cons_succ])
            go_simp
            refine hK.out _ _ ?_ (fun hHeld => ?_)
            · first | exact tell3 e1 ((Keep.refl _ _).alloc _) | exact tell3 e1 ((Keep.refl _ _).alloc _).drew
            clear hK K
            (try simp only [Act.put, List.setIfInBounds_toArray, List.set_cons_zero, List.set_cons_succ, List.getElem_toArray, List.getElem_cons_zero, List.getElem_cons_succ])
            refine wpAnyH_ready (rs := [5]) (by kernel_rfl) (by simp) ?_
            refine AllReadyH.cons (o := _) rfl (fun K hK => ?_) AllReadyH.nil
            (try simp only [List.getElem_toArray, List.getElem_cons_zero, List.getElem_cons_succ])
            go_simp
            (refine (win_mark_not t (bitsF t g) x _ (bits_lt HG.out) g0 g1 FB.out).mono ?_; rintro e w3 ⟨rfl, hb3⟩; have k3 := quiet_keep (w0 := w6) (by first | exact Keep.refl _ _ | exact (Keep.refl _ _).drew | exact (Keep.refl _ _).alloc _ | exact ((Keep.refl _ _).alloc _).drew | exact ((Keep.refl _ _).drew).alloc _) hb3; have d1 := tell3 e1 k3; obtain ⟨g0, g1, g2, g3⟩ := made3 (p := w6.heap.size) (by first | exact winAt_new _ 0 0 _ | exact (winAt_new _ 0 0 _).drew) hb3)
            refine hK.out _ _ ?_ (fun hHeld => ?_)
            · exact d1
            clear hK K
            (try simp only [Act.put, List.setIfInBounds_toArray, List.set_cons_zero, List.set_cons_succ, List.getElem_toArray, List.getElem_cons_zero, List.getElem_cons_succ])
            refine wpAnyH_take (i := 6) (oi := _) (v := ?vrbc6) rfl (by kernel_rfl) (by kernel_rfl) (by kernel_rfl) (fun _ _ _ h => h) (Or.inl ⟨by rfl, ?hyrbc6⟩) (by assumption) ?restrbc6
            case hyrbc6 => (intro w hSw; (try dsimp only at hSw); (try simp only [List.getElem_toArray, List.getElem_cons_zero, List.getElem_cons_succ]); go_simp; (try with_reducible rfl))
            (try simp only [Act.put, List.setIfInBounds_toArray, List.set_cons_zero, List.set_cons_succ, List.getElem_toArray, List.getElem_cons_zero, List.getElem_cons_succ])
            refine wpAnyH_take (i := 7) (oi := _) (v := ?vrbc7) rfl (by kernel_rfl) (by kernel_rfl) (by kernel_rfl) (fun _ _ _ h => h) (Or.inl ⟨by rfl, ?hyrbc7⟩) (by assumption) ?restrbc7
            case hyrbc7 => (intro w hSw; (try dsimp only at hSw); (try simp only [List.getElem_toArray, List.getElem_cons_zero, List.getElem_cons_succ]); go_simp; (try with_reducible rfl))
            (try simp only [Act.put, List.setIfInBounds_toArray, List.set_cons_zero, List.set_cons_succ, List.getElem_toArray, List.getElem_cons_zero, List.getElem_cons_succ])
            refine wpAnyH_take (i := 8) (oi := _) (v := ?vrbc8) rfl (by kernel_rfl) (by kernel_rfl) (by kernel_rfl) (fun _ _ _ h => h) (Or.inl ⟨by rfl, ?hyrbc8⟩) (by assumption) ?restrbc8
            case hyrbc8 => (intro w hSw; (try dsimp only at hSw); (try simp only [List.getElem_toArray, List.getElem_cons_zero, List.getElem_cons_succ]); go_simp; (try with_reducible rfl))
            (try simp only [Act.put, List.setIfInBounds_toArray, List.set_cons_zero, List.set_cons_succ, List.getElem_toArray, List.getElem_cons_zero, List.getElem_cons_succ])
            refine wpAnyH_ready (rs := [10]) (by kernel_rfl) (by simp) ?_
            refine AllReadyH.cons (o := _) rfl (fun K hK => ?_) AllReadyH.nil
            (try simp only [List.getElem_toArray, List.getElem_cons_zero, List.getElem_cons_succ])
            go_simp
            refine hK.out _ _ ?_ (fun hHeld => ?_)
            · exact tell3 e1 ((k3.setCell (fun _ => Nat.le_refl _) _).setCell (fun _ => Nat.le_refl _) _)
            clear hK K
            (try simp only [Act.put, List.setIfInBounds_toArray, List.set_cons_zero, List.set_cons_succ, List.getElem_toArray, List.getElem_cons_zero, List.getElem_cons_succ])
            refine wpAnyH_take (i := 11) (oi := _) (v := ?vrbc11) rfl (by kernel_rfl) (by kernel_rfl) (by kernel_rfl) (fun _ _ _ h => h) (Or.inl ⟨by rfl, ?hyrbc11⟩) (by assumption) ?restrbc11
            case hyrbc11 => (intro w hSw; (try dsimp only at hSw); (try simp only [List.getElem_toArray, List.getElem_cons_zero, List.getElem_cons_succ]); go_simp; (try with_reducible rfl))
            (try simp only [Act.put, List.setIfInBounds_toArray, List.set_cons_zero, List.set_cons_succ, List.getElem_toArray, List.getElem_cons_zero, List.getElem_cons_succ])
            refine wpAnyH_done (by kernel_rfl) ?_ _
            refine NoPanic.normal ?_
            have Q0 : Hid (WinAt w3 w6.heap.size 0 0) := Lib.hid ⟨g0, g1, g2, g3⟩
            clear g0 g1 g2 g3
            clear d1
            go_wp2_with fail
            go_meet
            first | exact ⟨w6.heap.size, rfl, rfl, Lib.hid ((Q0.out).set _ _), Lib.hid ((k3.setCell (fun _ => Nat.le_refl _) _).setCell (fun _ => Nat.le_refl _) _), Nat.le_refl _⟩ | exact ⟨w6.heap.size, rfl, rfl, Lib.hid (WinAt.drew ((Q0.out).set _ _)), Lib.hid (Keep.drew ((k3.setCell (fun _ => Nat.le_refl _) _).setCell (fun _ => Nat.le_refl _) _)), Nat.le_refl _⟩
        case rest =>
          obtain ⟨pv, rfl, rfl, HV, HK, hpv⟩ := hcut
          have lr := HB6.out.ref.lt
          have lw := HB6.out.win.lt
          have hsz := HB6.out.base.size
          have BW : Hid (Both w pw (pw + 1) t A ca g wc) := Lib.hid (HB6.out.keep HK.out (by omega) (by omega) (fun i hi e => by have := HB6.out.ref.buf.lt hi; omega) (fun i hi => by omega))
          have rc : wc.cell? ⟨q, off + k, none⟩ = some (.int .i64 x) := RD.out _ BW.out.base
          have hpv2 : pw < pv := by omega
          have hpv3 : pw + 1 < pv := by omega
          clear HB6 HK e1 lr lw hsz hpv
          go_wp2_with fail
          refine (ref_mark_not (pw + 1) 0 t A ca g x wc BW.out.ref g0 g1 (by omega) HL.out).mono ?_
          rintro e w7 ⟨rfl, rfl⟩
          have v0 := HV.out.c0
          have v1 := HV.out.c1
          have u0 := BW.out.win.c0
          have u1 := BW.out.win.c1
          have u2 := BW.out.win.f0
          have u3 := BW.out.win.f1
          go_upto_region 14 with fail
          have KS : Hid (∀ u v, Keep (fun k => pw = k) wc ((wc.setCell ⟨pw, 0, none⟩ u).setCell ⟨pw, 1, none⟩ v)) := Lib.hid (fun u v => Keep.setCell (S := fun k => pw = k) (Keep.setCell (S := fun k => pw = k) (Keep.refl _ _) (p := ⟨pw, 0, none⟩) (fun _ => rfl) u) (p := ⟨pw, 1, none⟩) (fun _ => rfl) v)
          have HB8 : Hid (Both w pw (pw + 1) t A ca g ((wc.setCell ⟨pw, 0, none⟩ (.int .i64 t)).setCell ⟨pw, 1, none⟩ (.int .u64 (bitsF t g : Nat)))) := Lib.hid
            ⟨BW.out.win.set _ _, BW.out.ref.keep (KS.out _ _) (by omega) (fun i hi e => (BW.out.la i hi).2 e), BW.out.base.trans ((KS.out _ _).below BW.out.base.size (fun i hi e => by have := BW.out.lw; omega)), BW.out.lw, BW.out.lr, BW.out.ne, BW.out.la⟩
          clear rc v0 v1 u0 u1 u2 u3
          have i1 : IntKind.i64.wrap (t - 64) = t - 64 := IntWalk.i64_in _ (by omega)
          have s8 := tells8 HB8.out (RD.out _ HB8.out.base)
          have B9 := HB8.out
          have FX := HL.out
          clear HB8
          go_region_held3 (fun w' => w'.cell? ⟨pw, 0, none⟩ = some (.int .i64 t) ∧ w'.cell? ⟨pw, 1, none⟩ = some (.int .u64 (bitsF t g : Nat)) ∧ w'.cell? ⟨pw + 1, 0, none⟩ = some (.int .i64 t) ∧ w'.cell? ⟨q, off + k, none⟩ = some (.int .i64 x)) (first | exact s9 | exact s8 | go_keep) (first
            | (go_at_call 12; refine (both_bits (w0 := w) (pw := pw) (pr := pw + 1) (A := A) (c := ca) ?_ HG.out (by omega)).mono ?_; (first | exact B9 | exact B9.drew); rintro e w9 ⟨rfl, B10⟩; have s9 := tells8 B10 (RD.out _ B10.base); clear B9)
            | (go_at_call 9; refine (both_ref (w0 := w) (pw := pw) (pr := pw + 1) (A := A) (c := ca) B11 HG.out (by omega) _).mono ?_; rintro e w11 ⟨rfl, B12⟩; have s9 := tells8 B12 (RD.out _ B12.base); clear B11)
            | (go_at_call 13; refine (both_old (w0 := w) (pw := pw) (pr := pw + 1) (A := A) (c := ca) B12 HG.out).mono ?_; rintro e w12 ⟨rfl, B13⟩; have s9 := tells8 B13 (RD.out _ B13.base); clear B12)
            | (go_at_call 8; refine (both_fresh (w0 := w) (pw := pw) (pr := pw + 1) (A := A) (c := ca) B10 HG.out _).mono ?_; rintro e w10 ⟨rfl, B11⟩; have s9 := tells8 B11 (RD.out _ B11.base); clear B10)
            | (go_at_call 8; refine (both_fresh (w0 := w) (pw := pw) (pr := pw + 1) (A := A) (c := ca) B13 HG.out _).mono ?_; rintro e w13 ⟨rfl, B14⟩; have s9 := tells8 B14 (RD.out _ B14.base); clear B13)
            | fail)
          all_goals
            clear i1 FX
            have B15 : Hid (Both w pw (pw + 1) t A ca g w13) := Lib.hid (by assumption)
            clear B14 s9 s8
            go_wp2_with fail
            go_roundw
            case rel => exact ⟨k + 1, t, A, ca, g, by go_num, by omega, by omega, HG, B15⟩
            case measure => simp [intOf]; omega
    · go_wp2_with fail
      go_ret
      exact ⟨rfl, HB.out.base⟩

set_option maxRecDepth 100000 in
set_option maxHeartbeats 1600000 in
theorem walk_WindowPlays (A : Option Addr) (n c : Nat) (zs : List Int) (a1 : Int) (w1 : (Lit.int .i64 a1).wf = true) (w : World) (hz : Ints w A n zs) :
    Calls Try.prog 3 #[.slice A n c, .int .i64 a1] w fun e w' => e = .returned (.bool true) ∧ Below w.heap.size w w' := by
  have hm := hz.2.2.2
  unfold maxLen at hm
  by_cases h0 : 200 < (n : Int)
  · have e0 : decide (200 < (n : Int)) = true := by simpa using h0
    clear hz
    go_enter Try.func3, Try.ntmps3
    go_wp2_with fail
    refine (alive_any _).mono ?_
    rintro e w1 ⟨rfl, hb⟩
    go_wp2_with fail
    go_ret
    exact ⟨rfl, hb⟩
  exact plays_good A n c zs a1 w hz (by omega)

end Go.Proofs.Ytfgcbgingcadaaa
