/- Law UtfBad: the walk. By program (rgn/XUtfBadWalk.py). Own work. -/
import Derived.Test.YtoihadjboeeglaaUtfA
import Derived.Deep.RegionHeld3
namespace Go.Proofs.Ytoihadjboeeglaa
set_option linter.unusedVariables false
set_option linter.unusedSimpArgs false
open Go.RowKit

/-- A byte below 128 ends what is half read. -/
theorem feedsU_bar {s : St} (h : s.Ok) (b : ByteArray) : feedsU s [⟨#[124]⟩, b] = ((feedU .z (natsOf b)).1, (badsU s ++ [124]) ++ (feedU .z (natsOf b)).2) := by
  have e1 : natsOf ⟨#[124]⟩ = [124] := by decide
  have e2 : byteU s 124 = (.z, badsU s ++ [124]) := by
    unfold byteU
    rw [if_neg (by
      rcases h with rfl | h
      · simp [St.z]
      · omega)]
    rfl
  simp only [feedsU, e1, feedU, e2, List.append_nil]

theorem src_drop {w : World} {g n j : Nat} {us : List Value} (h : Src w (some ⟨g, 0, none⟩) n us) (hj : j ≤ n) : Src w (some ⟨g, j, none⟩) (n - j) (us.drop j) :=
  ⟨by rw [List.length_drop, h.1], fun h0 => by
    obtain ⟨b, off, e, hb, hc⟩ := h.2 (by omega)
    injection e with e
    injection e with e1 e2
    subst e1 e2
    refine ⟨g, j, rfl, hb, fun i u hu => ?_⟩
    rw [List.getElem?_drop] at hu
    have := hc _ u hu
    rwa [Nat.zero_add] at this⟩

/-- From j on: where nothing lies behind, the address stays. -/
theorem src_from {w : World} {g n c j : Nat} {us : List Value} (h : Src w (some ⟨g, 0, none⟩) n us) (hj : j ≤ n) (hc : n ≤ c) {OC : Option Addr} (e : OC = if c = j then (some ⟨g, 0, none⟩ : Option Addr) else (some ⟨g, 0, none⟩ : Option Addr).map (·.add j)) : Src w OC (n - j) (us.drop j) := by
  by_cases hz : c = j
  · rw [if_pos hz] at e
    refine ⟨by rw [List.length_drop, h.1], fun h0 => by omega⟩
  · rw [if_neg hz] at e
    have := src_drop h hj
    rw [e, show (some ⟨g, 0, none⟩ : Option Addr).map (·.add j) = some ⟨g, j, none⟩ from by rw [Option.map_some, add_mk, Nat.zero_add]]
    exact this

theorem own_cap {w : World} {B : Nat} {e : TypeId} {A : Option Addr} {n m c : Nat} {us : List Value} (h : w.ownsRow B e 1 (.slice A m c) n us) (h0 : 0 < n) : m = n ∧ n ≤ c := by
  rcases h.2 with ⟨q, h2⟩ | ⟨g', cap, cur, q, _, _, q2, q3, _⟩
  · omega
  · injection q with q1 q2' q3'
    subst q2' q3'
    exact ⟨rfl, q2⟩

set_option maxRecDepth 100000 in
set_option maxHeartbeats 1600000 in
theorem utfBad_a (a b : ByteArray) (w : World) (h1 : (a.size : Int) > 600) :
    Calls Try.prog 5 #[.string a, .string b] w fun e w' => e = .returned (.bool true) ∧ Below w.heap.size w w' := by
  go_enter Try.func5, Try.ntmps5
  go_wp2_with fail
  refine (alive_any _).mono ?_
  rintro e w1 ⟨rfl, hb⟩
  have HB := Lib.hid hb
  clear hb
  go_wp2_with fail
  go_ret
  exact ⟨rfl, HB.out⟩

set_option maxRecDepth 100000 in
set_option maxHeartbeats 1600000 in
theorem utfBad_b (a b : ByteArray) (w : World) (h1 : ¬ (a.size : Int) > 600) (h2 : (b.size : Int) > 300) :
    Calls Try.prog 5 #[.string a, .string b] w fun e w' => e = .returned (.bool true) ∧ Below w.heap.size w w' := by
  go_enter Try.func5, Try.ntmps5
  go_wp2_with fail
  refine (alive_any _).mono ?_
  rintro e w1 ⟨rfl, hb⟩
  have HB := Lib.hid hb
  clear hb
  go_wp2_with fail
  go_ret
  exact ⟨rfl, HB.out⟩

set_option maxRecDepth 100000 in
set_option maxHeartbeats 3200000 in
theorem utfBad_1 (a b : ByteArray) (w : World) (h1 : ¬ (a.size : Int) > 600) (h2 : ¬ (b.size : Int) > 300) (h0 : (feedU .z (natsOf a)).1.half = 0) :
    Calls Try.prog 5 #[.string a, .string b] w fun e w' => e = .returned (.bool true) ∧ Below w.heap.size w w' := by
  have hbar := feedsU_bar (St.Ok.z.feed (natsOf a)) b
  have hbad : badsU (feedU .z (natsOf a)).1 ++ [124] = [124] := by unfold badsU; simp only [h0, if_true, List.nil_append]
  rw [hbad] at hbar
  have hla := feedU_len St.Ok.z (natsOf a)
  have hlb := feedU_len St.Ok.z (natsOf b)
  have ea : (natsOf a).length = a.size := by rw [Lib.size_eq]; simp [natsOf]
  have eb : (natsOf b).length = b.size := by rw [Lib.size_eq]; simp [natsOf]
  have ez : St.z.some = 0 := rfl
  obtain ⟨T, hT⟩ : ∃ T, (feedU .z (natsOf b)).2 = T := ⟨_, rfl⟩
  obtain ⟨s2, hs2⟩ : ∃ s2, (feedU .z (natsOf b)).1 = s2 := ⟨_, rfl⟩
  obtain ⟨t, ht⟩ : ∃ t, T.length = t := ⟨_, rfl⟩
  obtain ⟨n1, hn1⟩ : ∃ n1, (feedU .z (natsOf a)).2.length = n1 := ⟨_, rfl⟩
  obtain ⟨n, hn⟩ : ∃ n, ([124] ++ T).length = n := ⟨_, rfl⟩
  rw [hT, ht] at hlb
  rw [hT, hs2] at hbar
  rw [hn1] at hla
  have hnt : n = t + 1 := by rw [← hn, List.length_append, ht]; simp; omega
  have HN1 := Lib.hid hn1
  have HNJ : Hid (n - 1 = t) := Lib.hid (by omega)
  have HTL : Hid (t ≤ 1000) := Lib.hid (by omega)
  have HT := Lib.hid ht
  have HNN := Lib.hid hn
  have HF1 := Lib.hid (fun (q g : Nat) (W : World) h hs hb => utf_feed_one q 0 .z g a 1 W h hs hb (by omega))
  have HF2 := Lib.hid (fun (q : Nat) (A : Option Addr) (W : World) h hs hA => hbar ▸ utf_feed q 0 (feedU .z (natsOf a)).1 A 2 2 [⟨#[124]⟩, b] W h hs hA (by omega) (by simp [sum]; have : (⟨#[124]⟩ : ByteArray).size = 1 := rfl; omega))
  have HFB : Hid (feedU .z (natsOf b) = (s2, T)) := Lib.hid (by rw [← hT, ← hs2])
  have HF4 := Lib.hid (fun (q g : Nat) (W : World) h hs hb => HFB.out ▸ utf_feed_one q 0 .z g b 1 W h hs hb (by omega))
  have hl1 : ¬ (n1 : Int) > (a.size : Int) := by omega
  have hl2 : ¬ (n : Int) < 1 := by omega
  have hl3 : (0 : Int) < (n : Int) := by omega
  have hl5 : 0 < n := by omega
  have HN0 : Hid (1 ≤ n) := Lib.hid (by omega)
  have hnj : (1 : Int) ≤ (n : Int) := by omega
  have hwj : IntKind.i64.wrap 1 = 1 := by decide
  clear hbar hbad hla hlb ea eb ez hT hs2 ht hn1 hn hnt h0
  go_enter Try.func5, Try.ntmps5
  go_wp2_with fail
  refine (alive_any _).mono ?_
  rintro e w1 ⟨rfl, hb⟩
  have HB := Lib.hid hb
  clear hb
  go_wp2_with fail
  refine (HF1.out w1.heap.size (w1.heap.size + 1) _ ((RdU.made w1 28).alloc (.cells #[.string a] 9)) (by simp [go_sem, Array.size_push]) (by omega)).mono ?_
  rintro e w2 ⟨v2, rfl, o2, r2, k2⟩
  obtain ⟨A2, c2, rfl, -⟩ := own_form o2
  obtain ⟨q, hq⟩ : ∃ q, q = w1.heap.size := ⟨_, rfl⟩
  rw [← hq] at r2 k2 ⊢
  have HR2 := Lib.hid r2
  have HB2 : Hid (Below w.heap.size w w2) := by
    have hs := HB.out.size
    exact Lib.hid (((HB.out.alloc hs _).alloc (by simp; omega) _).trans (k2.below (by simp; omega) (fun k hk e => by omega)))
  have hqw : w.heap.size ≤ q := by have := HB.out.size; omega
  have HQ := Lib.hid hqw
  rw [HN1.out]
  clear o2 r2 k2 hqw hq
  go_wp2_with fail
  refine (HF2.out q (some ⟨w2.heap.size, 0, none⟩) _ (HR2.out.alloc (.cells #[.string ⟨#[124]⟩, .string b] 9)) (src_new w2 [.string ⟨#[124]⟩, .string b] 9 w2.heap.size rfl 2 rfl) (fun _ e => by have := HR2.out.lt; simp [blk] at e; omega)).mono ?_
  rintro e w3 ⟨v3, rfl, o3, r3, k3⟩
  simp only [] at o3
  rw [HNN.out] at o3
  obtain ⟨gm, cm, rfl, bm, lm, dm⟩ := rune_cells o3 (by have := HN0.out; omega)
  have d0 : w3.cell? ⟨gm, 0, none⟩ = some (.int .i32 124) := dm 0 _ rfl
  have hcap := (own_cap o3 (by have := HN0.out; omega)).2
  have O3 := Lib.hid (Buf.of_own o3).src
  have LM3 := Lib.hid lm
  have HC := Lib.hid hcap
  have hncm : (n : Int) ≤ (cm : Int) := by omega
  have HB3 : Hid (Below w.heap.size w w3) := by
    have hs := HB2.out.size
    have hq := HQ.out
    exact Lib.hid ((HB2.out.alloc hs _).trans (k3.below (by simp; omega) (fun k hk e => by omega)))
  clear o3 r3 k3 dm bm lm hcap
  go_upto_region 14 with fail
  obtain ⟨w5, hw5⟩ : ∃ w5, w5 = w3.alloc (.cells #[.int .i32 0, .int .i64 0, .int .i64 0, .int .u8 0, .int .u8 0] 28) := ⟨_, rfl⟩
  obtain ⟨q2, hq2⟩ : ∃ q2, q2 = w3.heap.size := ⟨_, rfl⟩
  have HR5 : Hid (RdU w5 q2 0 .z) := Lib.hid (by rw [hw5, hq2]; exact RdU.made w3 _)
  have HB5 : Hid (Below w.heap.size w w5) := Lib.hid (by rw [hw5]; exact HB3.out.alloc HB3.out.size _)
  have K5 : Keep (fun _ => False) w3 w5 := by rw [hw5]; exact (Keep.refl _ w3).alloc _
  have dk : w5.cell? ⟨gm, 0, none⟩ = some (.int .i32 124) := (K5.cell (p := ⟨gm, 0, none⟩) LM3.out (fun x => x)).trans d0
  have O5 := Lib.hid (O3.out.keep K5)
  have LM : Hid (gm < w5.heap.size) := Lib.hid (Nat.lt_of_lt_of_le LM3.out K5.size)
  have NM : Hid (gm ≠ q2) := Lib.hid (by have := LM3.out; omega)
  have HQ2 : Hid (w.heap.size ≤ q2) := Lib.hid (by rw [hq2]; exact HB3.out.size)
  try rw [← hw5]
  try rw [← hq2]
  clear hw5 hq2 K5 d0 
  obtain ⟨OC, hOC⟩ : ∃ x : Option Addr, x = (if cm = 1 then (some ⟨gm, 0, none⟩ : Option Addr) else (some ⟨gm, 0, none⟩ : Option Addr).map (·.add 1)) := ⟨_, rfl⟩
  have HS : Hid (∀ W, Keep (fun k => k = q2) w5 W → Src W OC (n - 1) ((rs T).map (Value.int .i32))) := Lib.hid (fun W hW => src_from (O5.out.of_keep hW (fun i hi e => by simp [blk] at hi; exact NM.out (hi.trans e))) HN0.out HC.out hOC)
  have HOC := Lib.hid hOC
  have HF3 : Hid (∀ X, Keep (fun _ => False) w5 X → Calls Try.prog 11 #[.pointer (some ⟨q2, 0, none⟩), .slice (some ⟨X.heap.size, 0, none⟩) 1 1] (X.alloc (.cells #[.string b] 9)) (URes q2 0 (X.alloc (.cells #[.string b] 9)) (s2, T))) := Lib.hid (fun X hX =>
    HF4.out q2 X.heap.size _ ((HR5.out.keep hX (fun x => x)).alloc (.cells #[.string b] 9)) (by simp [go_sem, Array.size_push]) (by have := HR5.out.lt; have := hX.size; omega))
  clear hOC
  refine wp_region_noPanic ?_
  refine wp_region_held_drew (S := fun w' => w'.cell? ⟨gm, 0, none⟩ = some (.int .i32 124)) (by kernel_rfl) dk (fun hHeld => ?_)
  refine wpAnyH_take (i := 0) (oi := _) (v := ?va0) rfl (by kernel_rfl) (by kernel_rfl) (by kernel_rfl) (fun _ _ _ h => h) (Or.inl ⟨by rfl, ?hya0⟩) (by assumption) ?resta0
  case hya0 => (intro w hSw; (try dsimp only at hSw); (try simp only [List.getElem_toArray, List.getElem_cons_zero, List.getElem_cons_succ]); go_simp; (try with_reducible rfl))
  (try simp only [Act.put, List.setIfInBounds_toArray, List.set_cons_zero, List.set_cons_succ, List.getElem_toArray, List.getElem_cons_zero, List.getElem_cons_succ])
  refine wpAnyH_take (i := 1) (oi := _) (v := ?va1) rfl (by kernel_rfl) (by kernel_rfl) (by kernel_rfl) (fun _ _ _ h => h) (Or.inl ⟨by rfl, ?hya1⟩) (by assumption) ?resta1
  case hya1 => (intro w hSw; (try dsimp only at hSw); (try simp only [List.getElem_toArray, List.getElem_cons_zero, List.getElem_cons_succ]); go_simp; (try with_reducible rfl))
  (try simp only [Act.put, List.setIfInBounds_toArray, List.set_cons_zero, List.set_cons_succ, List.getElem_toArray, List.getElem_cons_zero, List.getElem_cons_succ])
  refine wpAnyH_take (i := 2) (oi := _) (v := ?va2) rfl (by kernel_rfl) (by kernel_rfl) (by kernel_rfl) (fun _ _ _ h => h) (Or.inl ⟨by rfl, ?hya2⟩) (by assumption) ?resta2
  case hya2 => (intro w hSw; (try dsimp only at hSw); (try simp only [List.getElem_toArray, List.getElem_cons_zero, List.getElem_cons_succ]); go_simp; (try with_reducible rfl))
  (try simp only [Act.put, List.setIfInBounds_toArray, List.set_cons_zero, List.set_cons_succ, List.getElem_toArray, List.getElem_cons_zero, List.getElem_cons_succ])
  refine wpAnyH_take (i := 3) (oi := _) (v := ?va3) rfl (by kernel_rfl) (by kernel_rfl) (by kernel_rfl) (fun _ _ _ h => h) (Or.inl ⟨by rfl, ?hya3⟩) (by assumption) ?resta3
  case hya3 => (intro w hSw; (try dsimp only at hSw); (try simp only [List.getElem_toArray, List.getElem_cons_zero, List.getElem_cons_succ]); go_simp; (try with_reducible rfl))
  (try simp only [Act.put, List.setIfInBounds_toArray, List.set_cons_zero, List.set_cons_succ, List.getElem_toArray, List.getElem_cons_zero, List.getElem_cons_succ])
  refine wpAnyH_take (i := 4) (oi := _) (v := ?va4) rfl (by kernel_rfl) (by kernel_rfl) (by kernel_rfl) (fun _ _ _ h => h) (Or.inl ⟨by rfl, ?hya4⟩) (by assumption) ?resta4
  case hya4 => (intro w hSw; (try dsimp only at hSw); (try simp only [List.getElem_toArray, List.getElem_cons_zero, List.getElem_cons_succ]); go_simp; (try with_reducible rfl))
  (try simp only [Act.put, List.setIfInBounds_toArray, List.set_cons_zero, List.set_cons_succ, List.getElem_toArray, List.getElem_cons_zero, List.getElem_cons_succ])
  refine wpAnyH_take (i := 5) (oi := _) (v := ?va5) rfl (by kernel_rfl) (by kernel_rfl) (by kernel_rfl) (fun _ _ _ h => h) (Or.inl ⟨by rfl, ?hya5⟩) (by assumption) ?resta5
  case hya5 => (intro w hSw; (try dsimp only at hSw); (try simp only [List.getElem_toArray, List.getElem_cons_zero, List.getElem_cons_succ]); go_simp; (try with_reducible rfl))
  (try simp only [Act.put, List.setIfInBounds_toArray, List.set_cons_zero, List.set_cons_succ, List.getElem_toArray, List.getElem_cons_zero, List.getElem_cons_succ])
  refine wpAnyH_take (i := 6) (oi := _) (v := ?va6) rfl (by kernel_rfl) (by kernel_rfl) (by kernel_rfl) (fun _ _ _ h => h) (Or.inl ⟨by rfl, ?hya6⟩) (by assumption) ?resta6
  case hya6 => (intro w hSw; (try dsimp only at hSw); (try simp only [List.getElem_toArray, List.getElem_cons_zero, List.getElem_cons_succ]); go_simp; (try with_reducible rfl))
  (try simp only [Act.put, List.setIfInBounds_toArray, List.set_cons_zero, List.set_cons_succ, List.getElem_toArray, List.getElem_cons_zero, List.getElem_cons_succ])
  refine wpAnyH_take (i := 7) (oi := _) (v := ?va7) rfl (by kernel_rfl) (by kernel_rfl) (by kernel_rfl) (fun _ _ _ h => h) (Or.inl ⟨by rfl, ?hya7⟩) (by assumption) ?resta7
  case hya7 => (intro w hSw; (try dsimp only at hSw); (try simp only [List.getElem_toArray, List.getElem_cons_zero, List.getElem_cons_succ]); go_simp; (try with_reducible rfl))
  (try simp only [Act.put, List.setIfInBounds_toArray, List.set_cons_zero, List.set_cons_succ, List.getElem_toArray, List.getElem_cons_zero, List.getElem_cons_succ])
  refine wpAnyH_take (i := 8) (oi := _) (v := ?va8) rfl (by kernel_rfl) (by kernel_rfl) (by kernel_rfl) (fun _ _ _ h => h) (Or.inl ⟨by rfl, ?hya8⟩) (by assumption) ?resta8
  case hya8 => (intro w hSw; (try dsimp only at hSw); (try simp only [List.getElem_toArray, List.getElem_cons_zero, List.getElem_cons_succ]); go_simp; (try with_reducible rfl))
  (try simp only [Act.put, List.setIfInBounds_toArray, List.set_cons_zero, List.set_cons_succ, List.getElem_toArray, List.getElem_cons_zero, List.getElem_cons_succ])
  refine wpAnyH_take (i := 9) (oi := _) (v := .slice OC (n - 1) (cm - 1)) rfl (by kernel_rfl) (by kernel_rfl) (by kernel_rfl) (fun _ _ _ h => h) (Or.inl ⟨by rfl, ?hya9⟩) (by assumption) ?resta9
  case hya9 => (intro w hSw; (try dsimp only at hSw); (try simp only [List.getElem_toArray, List.getElem_cons_zero, List.getElem_cons_succ]); go_simp; (first | rfl | (simp [HOC.out]; done) | (simp [HOC.out, add_mk]; done)))
  (try simp only [Act.put, List.setIfInBounds_toArray, List.set_cons_zero, List.set_cons_succ, List.getElem_toArray, List.getElem_cons_zero, List.getElem_cons_succ])
  refine wpAnyH_take (i := 10) (oi := _) (v := ?va10) rfl (by kernel_rfl) (by kernel_rfl) (by kernel_rfl) (fun _ _ _ h => h) (Or.inl ⟨by rfl, ?hya10⟩) (by assumption) ?resta10
  case hya10 => (intro w hSw; (try dsimp only at hSw); (try simp only [List.getElem_toArray, List.getElem_cons_zero, List.getElem_cons_succ]); go_simp; (try with_reducible rfl))
  (try simp only [Act.put, List.setIfInBounds_toArray, List.set_cons_zero, List.set_cons_succ, List.getElem_toArray, List.getElem_cons_zero, List.getElem_cons_succ])
  refine wpAnyH_take (i := 11) (oi := _) (v := ?va11) rfl (by kernel_rfl) (by kernel_rfl) (by kernel_rfl) (fun _ _ _ h => h) (Or.inl ⟨by rfl, ?hya11⟩) (by assumption) ?resta11
  case hya11 => (intro w hSw; (try dsimp only at hSw); (try simp only [List.getElem_toArray, List.getElem_cons_zero, List.getElem_cons_succ]); go_simp; (try with_reducible rfl))
  (try simp only [Act.put, List.setIfInBounds_toArray, List.set_cons_zero, List.set_cons_succ, List.getElem_toArray, List.getElem_cons_zero, List.getElem_cons_succ])
  refine wpAnyH_ready (rs := [12]) (by kernel_rfl) (by simp) ?_
  refine AllReadyH.cons (o := _) rfl (fun K hK => ?_) AllReadyH.nil
  (try simp only [List.getElem_toArray, List.getElem_cons_zero, List.getElem_cons_succ])
  go_simp
  refine hK.out _ _ ?_ (fun hHeld => ?_)
  · exact (World.cell?_alloc_past _ _ _ LM.out).trans dk
  clear hK K
  (try simp only [Act.put, List.setIfInBounds_toArray, List.set_cons_zero, List.set_cons_succ, List.getElem_toArray, List.getElem_cons_zero, List.getElem_cons_succ])
  refine wpAnyH_ready (rs := [13]) (by kernel_rfl) (by simp) ?_
  refine AllReadyH.cons (o := _) rfl (fun K hK => ?_) AllReadyH.nil
  (try simp only [List.getElem_toArray, List.getElem_cons_zero, List.getElem_cons_succ])
  go_simp
  ((first | (refine (HF3.out _ ((Keep.refl _ w5).drew)).mono ?_) | (refine (HF3.out _ (Keep.refl _ w5)).mono ?_)); rintro r w6 ⟨v6, rfl, o6, r6, k6⟩; obtain ⟨A6, c6, rfl, -⟩ := own_form o6; rw [HT.out] at o6; (try rw [HT.out]); have K6 : Hid (Keep (fun k => k = q2) w5 w6) := Lib.hid (((((Keep.refl (fun k => k = q2) w5).drew).alloc _).trans k6 (fun _ _ x => x))); have O6 := Lib.hid (Buf.of_own o6).src; have R6 := Lib.hid r6; clear o6 r6 k6)
  refine hK.out _ _ ?_ (fun hHeld => ?_)
  · exact (K6.out.cell (p := ⟨gm, 0, none⟩) (Nat.lt_of_lt_of_le LM.out (Nat.le_refl _)) NM.out).trans dk
  clear hK K
  (try simp only [Act.put, List.setIfInBounds_toArray, List.set_cons_zero, List.set_cons_succ, List.getElem_toArray, List.getElem_cons_zero, List.getElem_cons_succ])
  refine wpAnyH_ready (rs := [14]) (by kernel_rfl) (by simp) ?_
  refine AllReadyH.cons (o := _) rfl (fun K hK => ?_) AllReadyH.nil
  (try simp only [List.getElem_toArray, List.getElem_cons_zero, List.getElem_cons_succ])
  go_simp
  (have CS : Hid (∀ W, W = w6 ∨ W = w6.drew → Calls Try.prog 13 #[.slice OC (n - 1) (cm - 1), .slice A6 t c6] W fun e w' => e = .returned (.bool true) ∧ ∃ k, w' = W.drewN k) := Lib.hid (fun W hW => by have ks : Keep (fun _ => False) w6 W := (by rcases hW with rfl | rfl; exact Keep.refl _ _; exact (Keep.refl _ w6).drew); have e := HNJ.out; rw [e]; exact same_Runes OC A6 t (cm - 1) c6 (rs T) W (by have := (HS.out w6 K6.out).keep ks; rwa [e] at this) (O6.out.keep ks) (by have := HTL.out; omega)); (first | (refine (CS.out _ (.inl rfl)).mono ?_) | (refine (CS.out _ (.inr rfl)).mono ?_)); rintro r w7 ⟨rfl, k7, hw7⟩; have HW7 : Hid (Keep (fun _ => False) w6 w7) := Lib.hid (by rw [hw7]; first | exact (Keep.refl _ w6).drewN k7 | exact ((Keep.refl _ w6).drew).drewN k7); clear hw7 CS)
  refine hK.out _ _ ?_ (fun hHeld => ?_)
  · exact (((K6.out.mono (S' := fun k => k = q2) (fun _ _ x => x)).trans HW7.out (fun _ _ x => x.elim)).cell (p := ⟨gm, 0, none⟩) LM.out NM.out).trans dk
  clear hK K
  (try simp only [Act.put, List.setIfInBounds_toArray, List.set_cons_zero, List.set_cons_succ, List.getElem_toArray, List.getElem_cons_zero, List.getElem_cons_succ])
  refine wpAnyH_take (i := 15) (oi := _) (v := ?va15) rfl (by kernel_rfl) (by kernel_rfl) (by kernel_rfl) (fun _ _ _ h => h) (Or.inl ⟨by rfl, ?hya15⟩) (by assumption) ?resta15
  case hya15 => (intro w hSw; (try dsimp only at hSw); (try simp only [List.getElem_toArray, List.getElem_cons_zero, List.getElem_cons_succ]); go_simp; (try with_reducible rfl))
  (try simp only [Act.put, List.setIfInBounds_toArray, List.set_cons_zero, List.set_cons_succ, List.getElem_toArray, List.getElem_cons_zero, List.getElem_cons_succ])
  refine wpAnyH_take (i := 16) (oi := _) (v := ?va16) rfl (by kernel_rfl) (by kernel_rfl) (by kernel_rfl) (fun _ _ _ h => h) (Or.inl ⟨by rfl, ?hya16⟩) (by assumption) ?resta16
  case hya16 => (intro w hSw; (try dsimp only at hSw); (try simp only [List.getElem_toArray, List.getElem_cons_zero, List.getElem_cons_succ]); go_simp; (try with_reducible rfl))
  (try simp only [Act.put, List.setIfInBounds_toArray, List.set_cons_zero, List.set_cons_succ, List.getElem_toArray, List.getElem_cons_zero, List.getElem_cons_succ])
  refine wpAnyH_done (by kernel_rfl) ?_ _

  refine NoPanic.normal ?_
  go_wp2_with fail
  go_ret
  have hs := HB5.out.size
  have hq := HQ2.out
  exact ⟨rfl, (HB5.out.trans (K6.out.below hs (fun k hk e => by omega))).trans (HW7.out.below (Nat.le_trans hs K6.out.size) (fun _ _ x => x))⟩

set_option maxRecDepth 100000 in
set_option maxHeartbeats 3200000 in
theorem utfBad_2 (a b : ByteArray) (w : World) (h1 : ¬ (a.size : Int) > 600) (h2 : ¬ (b.size : Int) > 300) (h0 : 0 < (feedU .z (natsOf a)).1.half) :
    Calls Try.prog 5 #[.string a, .string b] w fun e w' => e = .returned (.bool true) ∧ Below w.heap.size w w' := by
  have hbar := feedsU_bar (St.Ok.z.feed (natsOf a)) b
  have hbad : badsU (feedU .z (natsOf a)).1 ++ [124] = [65533, 124] := by unfold badsU; simp only [if_neg (show ¬ (feedU .z (natsOf a)).1.half = 0 by omega), List.singleton_append]
  rw [hbad] at hbar
  have hla := feedU_len St.Ok.z (natsOf a)
  have hlb := feedU_len St.Ok.z (natsOf b)
  have ea : (natsOf a).length = a.size := by rw [Lib.size_eq]; simp [natsOf]
  have eb : (natsOf b).length = b.size := by rw [Lib.size_eq]; simp [natsOf]
  have ez : St.z.some = 0 := rfl
  obtain ⟨T, hT⟩ : ∃ T, (feedU .z (natsOf b)).2 = T := ⟨_, rfl⟩
  obtain ⟨s2, hs2⟩ : ∃ s2, (feedU .z (natsOf b)).1 = s2 := ⟨_, rfl⟩
  obtain ⟨t, ht⟩ : ∃ t, T.length = t := ⟨_, rfl⟩
  obtain ⟨n1, hn1⟩ : ∃ n1, (feedU .z (natsOf a)).2.length = n1 := ⟨_, rfl⟩
  obtain ⟨n, hn⟩ : ∃ n, ([65533, 124] ++ T).length = n := ⟨_, rfl⟩
  rw [hT, ht] at hlb
  rw [hT, hs2] at hbar
  rw [hn1] at hla
  have hnt : n = t + 2 := by rw [← hn, List.length_append, ht]; simp; omega
  have HN1 := Lib.hid hn1
  have HNJ : Hid (n - 2 = t) := Lib.hid (by omega)
  have HTL : Hid (t ≤ 1000) := Lib.hid (by omega)
  have HT := Lib.hid ht
  have HNN := Lib.hid hn
  have HF1 := Lib.hid (fun (q g : Nat) (W : World) h hs hb => utf_feed_one q 0 .z g a 1 W h hs hb (by omega))
  have HF2 := Lib.hid (fun (q : Nat) (A : Option Addr) (W : World) h hs hA => hbar ▸ utf_feed q 0 (feedU .z (natsOf a)).1 A 2 2 [⟨#[124]⟩, b] W h hs hA (by omega) (by simp [sum]; have : (⟨#[124]⟩ : ByteArray).size = 1 := rfl; omega))
  have HFB : Hid (feedU .z (natsOf b) = (s2, T)) := Lib.hid (by rw [← hT, ← hs2])
  have HF4 := Lib.hid (fun (q g : Nat) (W : World) h hs hb => HFB.out ▸ utf_feed_one q 0 .z g b 1 W h hs hb (by omega))
  have hl1 : ¬ (n1 : Int) > (a.size : Int) := by omega
  have hl2 : ¬ (n : Int) < 1 := by omega
  have hl3 : (0 : Int) < (n : Int) := by omega
  have hl4 : ¬ (n : Int) < 2 := by omega
  have hl5 : (1 : Int) < (n : Int) := by omega
  have HN0 : Hid (2 ≤ n) := Lib.hid (by omega)
  have hnj : (2 : Int) ≤ (n : Int) := by omega
  have hwj : IntKind.i64.wrap 2 = 2 := by decide
  clear hbar hbad hla hlb ea eb ez hT hs2 ht hn1 hn hnt h0
  go_enter Try.func5, Try.ntmps5
  go_wp2_with fail
  refine (alive_any _).mono ?_
  rintro e w1 ⟨rfl, hb⟩
  have HB := Lib.hid hb
  clear hb
  go_wp2_with fail
  refine (HF1.out w1.heap.size (w1.heap.size + 1) _ ((RdU.made w1 28).alloc (.cells #[.string a] 9)) (by simp [go_sem, Array.size_push]) (by omega)).mono ?_
  rintro e w2 ⟨v2, rfl, o2, r2, k2⟩
  obtain ⟨A2, c2, rfl, -⟩ := own_form o2
  obtain ⟨q, hq⟩ : ∃ q, q = w1.heap.size := ⟨_, rfl⟩
  rw [← hq] at r2 k2 ⊢
  have HR2 := Lib.hid r2
  have HB2 : Hid (Below w.heap.size w w2) := by
    have hs := HB.out.size
    exact Lib.hid (((HB.out.alloc hs _).alloc (by simp; omega) _).trans (k2.below (by simp; omega) (fun k hk e => by omega)))
  have hqw : w.heap.size ≤ q := by have := HB.out.size; omega
  have HQ := Lib.hid hqw
  rw [HN1.out]
  clear o2 r2 k2 hqw hq
  go_wp2_with fail
  refine (HF2.out q (some ⟨w2.heap.size, 0, none⟩) _ (HR2.out.alloc (.cells #[.string ⟨#[124]⟩, .string b] 9)) (src_new w2 [.string ⟨#[124]⟩, .string b] 9 w2.heap.size rfl 2 rfl) (fun _ e => by have := HR2.out.lt; simp [blk] at e; omega)).mono ?_
  rintro e w3 ⟨v3, rfl, o3, r3, k3⟩
  simp only [] at o3
  rw [HNN.out] at o3
  obtain ⟨gm, cm, rfl, bm, lm, dm⟩ := rune_cells o3 (by have := HN0.out; omega)
  have d0 : w3.cell? ⟨gm, 0, none⟩ = some (.int .i32 65533) := dm 0 _ rfl
  have d1 : w3.cell? ⟨gm, 1, none⟩ = some (.int .i32 124) := dm 1 _ rfl
  have hcap := (own_cap o3 (by have := HN0.out; omega)).2
  have O3 := Lib.hid (Buf.of_own o3).src
  have LM3 := Lib.hid lm
  have HC := Lib.hid hcap
  have hncm : (n : Int) ≤ (cm : Int) := by omega
  have HB3 : Hid (Below w.heap.size w w3) := by
    have hs := HB2.out.size
    have hq := HQ.out
    exact Lib.hid ((HB2.out.alloc hs _).trans (k3.below (by simp; omega) (fun k hk e => by omega)))
  clear o3 r3 k3 dm bm lm hcap
  go_upto_region 14 with fail
  obtain ⟨w5, hw5⟩ : ∃ w5, w5 = w3.alloc (.cells #[.int .i32 0, .int .i64 0, .int .i64 0, .int .u8 0, .int .u8 0] 28) := ⟨_, rfl⟩
  obtain ⟨q2, hq2⟩ : ∃ q2, q2 = w3.heap.size := ⟨_, rfl⟩
  have HR5 : Hid (RdU w5 q2 0 .z) := Lib.hid (by rw [hw5, hq2]; exact RdU.made w3 _)
  have HB5 : Hid (Below w.heap.size w w5) := Lib.hid (by rw [hw5]; exact HB3.out.alloc HB3.out.size _)
  have K5 : Keep (fun _ => False) w3 w5 := by rw [hw5]; exact (Keep.refl _ w3).alloc _
  have dk : w5.cell? ⟨gm, 1, none⟩ = some (.int .i32 124) := (K5.cell (p := ⟨gm, 1, none⟩) LM3.out (fun x => x)).trans d1
  have O5 := Lib.hid (O3.out.keep K5)
  have LM : Hid (gm < w5.heap.size) := Lib.hid (Nat.lt_of_lt_of_le LM3.out K5.size)
  have NM : Hid (gm ≠ q2) := Lib.hid (by have := LM3.out; omega)
  have HQ2 : Hid (w.heap.size ≤ q2) := Lib.hid (by rw [hq2]; exact HB3.out.size)
  try rw [← hw5]
  try rw [← hq2]
  clear hw5 hq2 K5 d0 d1
  obtain ⟨OC, hOC⟩ : ∃ x : Option Addr, x = (if cm = 2 then (some ⟨gm, 0, none⟩ : Option Addr) else (some ⟨gm, 0, none⟩ : Option Addr).map (·.add 2)) := ⟨_, rfl⟩
  have HS : Hid (∀ W, Keep (fun k => k = q2) w5 W → Src W OC (n - 2) ((rs T).map (Value.int .i32))) := Lib.hid (fun W hW => src_from (O5.out.of_keep hW (fun i hi e => by simp [blk] at hi; exact NM.out (hi.trans e))) HN0.out HC.out hOC)
  have HOC := Lib.hid hOC
  have HF3 : Hid (∀ X, Keep (fun _ => False) w5 X → Calls Try.prog 11 #[.pointer (some ⟨q2, 0, none⟩), .slice (some ⟨X.heap.size, 0, none⟩) 1 1] (X.alloc (.cells #[.string b] 9)) (URes q2 0 (X.alloc (.cells #[.string b] 9)) (s2, T))) := Lib.hid (fun X hX =>
    HF4.out q2 X.heap.size _ ((HR5.out.keep hX (fun x => x)).alloc (.cells #[.string b] 9)) (by simp [go_sem, Array.size_push]) (by have := HR5.out.lt; have := hX.size; omega))
  clear hOC
  refine wp_region_noPanic ?_
  refine wp_region_held_drew (S := fun w' => w'.cell? ⟨gm, 1, none⟩ = some (.int .i32 124)) (by kernel_rfl) dk (fun hHeld => ?_)
  refine wpAnyH_take (i := 0) (oi := _) (v := ?va0) rfl (by kernel_rfl) (by kernel_rfl) (by kernel_rfl) (fun _ _ _ h => h) (Or.inl ⟨by rfl, ?hya0⟩) (by assumption) ?resta0
  case hya0 => (intro w hSw; (try dsimp only at hSw); (try simp only [List.getElem_toArray, List.getElem_cons_zero, List.getElem_cons_succ]); go_simp; (try with_reducible rfl))
  (try simp only [Act.put, List.setIfInBounds_toArray, List.set_cons_zero, List.set_cons_succ, List.getElem_toArray, List.getElem_cons_zero, List.getElem_cons_succ])
  refine wpAnyH_take (i := 1) (oi := _) (v := ?va1) rfl (by kernel_rfl) (by kernel_rfl) (by kernel_rfl) (fun _ _ _ h => h) (Or.inl ⟨by rfl, ?hya1⟩) (by assumption) ?resta1
  case hya1 => (intro w hSw; (try dsimp only at hSw); (try simp only [List.getElem_toArray, List.getElem_cons_zero, List.getElem_cons_succ]); go_simp; (try with_reducible rfl))
  (try simp only [Act.put, List.setIfInBounds_toArray, List.set_cons_zero, List.set_cons_succ, List.getElem_toArray, List.getElem_cons_zero, List.getElem_cons_succ])
  refine wpAnyH_take (i := 2) (oi := _) (v := ?va2) rfl (by kernel_rfl) (by kernel_rfl) (by kernel_rfl) (fun _ _ _ h => h) (Or.inl ⟨by rfl, ?hya2⟩) (by assumption) ?resta2
  case hya2 => (intro w hSw; (try dsimp only at hSw); (try simp only [List.getElem_toArray, List.getElem_cons_zero, List.getElem_cons_succ]); go_simp; (try with_reducible rfl))
  (try simp only [Act.put, List.setIfInBounds_toArray, List.set_cons_zero, List.set_cons_succ, List.getElem_toArray, List.getElem_cons_zero, List.getElem_cons_succ])
  refine wpAnyH_take (i := 3) (oi := _) (v := ?va3) rfl (by kernel_rfl) (by kernel_rfl) (by kernel_rfl) (fun _ _ _ h => h) (Or.inl ⟨by rfl, ?hya3⟩) (by assumption) ?resta3
  case hya3 => (intro w hSw; (try dsimp only at hSw); (try simp only [List.getElem_toArray, List.getElem_cons_zero, List.getElem_cons_succ]); go_simp; (try with_reducible rfl))
  (try simp only [Act.put, List.setIfInBounds_toArray, List.set_cons_zero, List.set_cons_succ, List.getElem_toArray, List.getElem_cons_zero, List.getElem_cons_succ])
  refine wpAnyH_take (i := 4) (oi := _) (v := ?va4) rfl (by kernel_rfl) (by kernel_rfl) (by kernel_rfl) (fun _ _ _ h => h) (Or.inl ⟨by rfl, ?hya4⟩) (by assumption) ?resta4
  case hya4 => (intro w hSw; (try dsimp only at hSw); (try simp only [List.getElem_toArray, List.getElem_cons_zero, List.getElem_cons_succ]); go_simp; (try with_reducible rfl))
  (try simp only [Act.put, List.setIfInBounds_toArray, List.set_cons_zero, List.set_cons_succ, List.getElem_toArray, List.getElem_cons_zero, List.getElem_cons_succ])
  refine wpAnyH_take (i := 5) (oi := _) (v := ?va5) rfl (by kernel_rfl) (by kernel_rfl) (by kernel_rfl) (fun _ _ _ h => h) (Or.inl ⟨by rfl, ?hya5⟩) (by assumption) ?resta5
  case hya5 => (intro w hSw; (try dsimp only at hSw); (try simp only [List.getElem_toArray, List.getElem_cons_zero, List.getElem_cons_succ]); go_simp; (try with_reducible rfl))
  (try simp only [Act.put, List.setIfInBounds_toArray, List.set_cons_zero, List.set_cons_succ, List.getElem_toArray, List.getElem_cons_zero, List.getElem_cons_succ])
  refine wpAnyH_take (i := 6) (oi := _) (v := ?va6) rfl (by kernel_rfl) (by kernel_rfl) (by kernel_rfl) (fun _ _ _ h => h) (Or.inl ⟨by rfl, ?hya6⟩) (by assumption) ?resta6
  case hya6 => (intro w hSw; (try dsimp only at hSw); (try simp only [List.getElem_toArray, List.getElem_cons_zero, List.getElem_cons_succ]); go_simp; (try with_reducible rfl))
  (try simp only [Act.put, List.setIfInBounds_toArray, List.set_cons_zero, List.set_cons_succ, List.getElem_toArray, List.getElem_cons_zero, List.getElem_cons_succ])
  refine wpAnyH_take (i := 7) (oi := _) (v := ?va7) rfl (by kernel_rfl) (by kernel_rfl) (by kernel_rfl) (fun _ _ _ h => h) (Or.inl ⟨by rfl, ?hya7⟩) (by assumption) ?resta7
  case hya7 => (intro w hSw; (try dsimp only at hSw); (try simp only [List.getElem_toArray, List.getElem_cons_zero, List.getElem_cons_succ]); go_simp; (try with_reducible rfl))
  (try simp only [Act.put, List.setIfInBounds_toArray, List.set_cons_zero, List.set_cons_succ, List.getElem_toArray, List.getElem_cons_zero, List.getElem_cons_succ])
  refine wpAnyH_take (i := 8) (oi := _) (v := ?va8) rfl (by kernel_rfl) (by kernel_rfl) (by kernel_rfl) (fun _ _ _ h => h) (Or.inl ⟨by rfl, ?hya8⟩) (by assumption) ?resta8
  case hya8 => (intro w hSw; (try dsimp only at hSw); (try simp only [List.getElem_toArray, List.getElem_cons_zero, List.getElem_cons_succ]); go_simp; (try with_reducible rfl))
  (try simp only [Act.put, List.setIfInBounds_toArray, List.set_cons_zero, List.set_cons_succ, List.getElem_toArray, List.getElem_cons_zero, List.getElem_cons_succ])
  refine wpAnyH_take (i := 9) (oi := _) (v := .slice OC (n - 2) (cm - 2)) rfl (by kernel_rfl) (by kernel_rfl) (by kernel_rfl) (fun _ _ _ h => h) (Or.inl ⟨by rfl, ?hya9⟩) (by assumption) ?resta9
  case hya9 => (intro w hSw; (try dsimp only at hSw); (try simp only [List.getElem_toArray, List.getElem_cons_zero, List.getElem_cons_succ]); go_simp; (first | rfl | (simp [HOC.out]; done) | (simp [HOC.out, add_mk]; done)))
  (try simp only [Act.put, List.setIfInBounds_toArray, List.set_cons_zero, List.set_cons_succ, List.getElem_toArray, List.getElem_cons_zero, List.getElem_cons_succ])
  refine wpAnyH_take (i := 10) (oi := _) (v := ?va10) rfl (by kernel_rfl) (by kernel_rfl) (by kernel_rfl) (fun _ _ _ h => h) (Or.inl ⟨by rfl, ?hya10⟩) (by assumption) ?resta10
  case hya10 => (intro w hSw; (try dsimp only at hSw); (try simp only [List.getElem_toArray, List.getElem_cons_zero, List.getElem_cons_succ]); go_simp; (try with_reducible rfl))
  (try simp only [Act.put, List.setIfInBounds_toArray, List.set_cons_zero, List.set_cons_succ, List.getElem_toArray, List.getElem_cons_zero, List.getElem_cons_succ])
  refine wpAnyH_take (i := 11) (oi := _) (v := ?va11) rfl (by kernel_rfl) (by kernel_rfl) (by kernel_rfl) (fun _ _ _ h => h) (Or.inl ⟨by rfl, ?hya11⟩) (by assumption) ?resta11
  case hya11 => (intro w hSw; (try dsimp only at hSw); (try simp only [List.getElem_toArray, List.getElem_cons_zero, List.getElem_cons_succ]); go_simp; (try with_reducible rfl))
  (try simp only [Act.put, List.setIfInBounds_toArray, List.set_cons_zero, List.set_cons_succ, List.getElem_toArray, List.getElem_cons_zero, List.getElem_cons_succ])
  refine wpAnyH_ready (rs := [12]) (by kernel_rfl) (by simp) ?_
  refine AllReadyH.cons (o := _) rfl (fun K hK => ?_) AllReadyH.nil
  (try simp only [List.getElem_toArray, List.getElem_cons_zero, List.getElem_cons_succ])
  go_simp
  refine hK.out _ _ ?_ (fun hHeld => ?_)
  · exact (World.cell?_alloc_past _ _ _ LM.out).trans dk
  clear hK K
  (try simp only [Act.put, List.setIfInBounds_toArray, List.set_cons_zero, List.set_cons_succ, List.getElem_toArray, List.getElem_cons_zero, List.getElem_cons_succ])
  refine wpAnyH_ready (rs := [13]) (by kernel_rfl) (by simp) ?_
  refine AllReadyH.cons (o := _) rfl (fun K hK => ?_) AllReadyH.nil
  (try simp only [List.getElem_toArray, List.getElem_cons_zero, List.getElem_cons_succ])
  go_simp
  ((first | (refine (HF3.out _ ((Keep.refl _ w5).drew)).mono ?_) | (refine (HF3.out _ (Keep.refl _ w5)).mono ?_)); rintro r w6 ⟨v6, rfl, o6, r6, k6⟩; obtain ⟨A6, c6, rfl, -⟩ := own_form o6; rw [HT.out] at o6; (try rw [HT.out]); have K6 : Hid (Keep (fun k => k = q2) w5 w6) := Lib.hid (((((Keep.refl (fun k => k = q2) w5).drew).alloc _).trans k6 (fun _ _ x => x))); have O6 := Lib.hid (Buf.of_own o6).src; have R6 := Lib.hid r6; clear o6 r6 k6)
  refine hK.out _ _ ?_ (fun hHeld => ?_)
  · exact (K6.out.cell (p := ⟨gm, 1, none⟩) (Nat.lt_of_lt_of_le LM.out (Nat.le_refl _)) NM.out).trans dk
  clear hK K
  (try simp only [Act.put, List.setIfInBounds_toArray, List.set_cons_zero, List.set_cons_succ, List.getElem_toArray, List.getElem_cons_zero, List.getElem_cons_succ])
  refine wpAnyH_ready (rs := [14]) (by kernel_rfl) (by simp) ?_
  refine AllReadyH.cons (o := _) rfl (fun K hK => ?_) AllReadyH.nil
  (try simp only [List.getElem_toArray, List.getElem_cons_zero, List.getElem_cons_succ])
  go_simp
  (have CS : Hid (∀ W, W = w6 ∨ W = w6.drew → Calls Try.prog 13 #[.slice OC (n - 2) (cm - 2), .slice A6 t c6] W fun e w' => e = .returned (.bool true) ∧ ∃ k, w' = W.drewN k) := Lib.hid (fun W hW => by have ks : Keep (fun _ => False) w6 W := (by rcases hW with rfl | rfl; exact Keep.refl _ _; exact (Keep.refl _ w6).drew); have e := HNJ.out; rw [e]; exact same_Runes OC A6 t (cm - 2) c6 (rs T) W (by have := (HS.out w6 K6.out).keep ks; rwa [e] at this) (O6.out.keep ks) (by have := HTL.out; omega)); (first | (refine (CS.out _ (.inl rfl)).mono ?_) | (refine (CS.out _ (.inr rfl)).mono ?_)); rintro r w7 ⟨rfl, k7, hw7⟩; have HW7 : Hid (Keep (fun _ => False) w6 w7) := Lib.hid (by rw [hw7]; first | exact (Keep.refl _ w6).drewN k7 | exact ((Keep.refl _ w6).drew).drewN k7); clear hw7 CS)
  refine hK.out _ _ ?_ (fun hHeld => ?_)
  · exact (((K6.out.mono (S' := fun k => k = q2) (fun _ _ x => x)).trans HW7.out (fun _ _ x => x.elim)).cell (p := ⟨gm, 1, none⟩) LM.out NM.out).trans dk
  clear hK K
  (try simp only [Act.put, List.setIfInBounds_toArray, List.set_cons_zero, List.set_cons_succ, List.getElem_toArray, List.getElem_cons_zero, List.getElem_cons_succ])
  refine wpAnyH_take (i := 15) (oi := _) (v := ?va15) rfl (by kernel_rfl) (by kernel_rfl) (by kernel_rfl) (fun _ _ _ h => h) (Or.inl ⟨by rfl, ?hya15⟩) (by assumption) ?resta15
  case hya15 => (intro w hSw; (try dsimp only at hSw); (try simp only [List.getElem_toArray, List.getElem_cons_zero, List.getElem_cons_succ]); go_simp; (try with_reducible rfl))
  (try simp only [Act.put, List.setIfInBounds_toArray, List.set_cons_zero, List.set_cons_succ, List.getElem_toArray, List.getElem_cons_zero, List.getElem_cons_succ])
  refine wpAnyH_take (i := 16) (oi := _) (v := ?va16) rfl (by kernel_rfl) (by kernel_rfl) (by kernel_rfl) (fun _ _ _ h => h) (Or.inl ⟨by rfl, ?hya16⟩) (by assumption) ?resta16
  case hya16 => (intro w hSw; (try dsimp only at hSw); (try simp only [List.getElem_toArray, List.getElem_cons_zero, List.getElem_cons_succ]); go_simp; (try with_reducible rfl))
  (try simp only [Act.put, List.setIfInBounds_toArray, List.set_cons_zero, List.set_cons_succ, List.getElem_toArray, List.getElem_cons_zero, List.getElem_cons_succ])
  refine wpAnyH_done (by kernel_rfl) ?_ _

  refine NoPanic.normal ?_
  go_wp2_with fail
  go_ret
  have hs := HB5.out.size
  have hq := HQ2.out
  exact ⟨rfl, (HB5.out.trans (K6.out.below hs (fun k hk e => by omega))).trans (HW7.out.below (Nat.le_trans hs K6.out.size) (fun _ _ x => x))⟩

theorem walk_UtfBad (a : ByteArray) (wa : a.size ≤ maxLen) (b : ByteArray) (wb : b.size ≤ maxLen) (w : World) :
    Calls Try.prog 5 #[.string a, .string b] w fun e w' => e = .returned (.bool true) ∧ Below w.heap.size w w' := by
  by_cases h1 : (a.size : Int) > 600
  · exact utfBad_a a b w h1
  by_cases h2 : (b.size : Int) > 300
  · exact utfBad_b a b w h1 h2
  by_cases h0 : (feedU .z (natsOf a)).1.half = 0
  · exact utfBad_1 a b w h1 h2 h0
  · exact utfBad_2 a b w h1 h2 (by omega)

end Go.Proofs.Ytoihadjboeeglaa
