/- Law EscStrings: the walk. By program (rgn/XEscStringsWalk.py). Own work. -/
import Derived.Test.YthphnjilbpidgaaEscW
import Derived.Test.YthphnjilbpidgaaEscH
import Derived.Test.YthphnjilbpidgaaActsR
import Derived.IntWalk
namespace Go.Proofs.Ythphnjilbpidgaa
set_option linter.unusedVariables false
set_option linter.unusedSimpArgs false
open Go.RowKit

theorem AlikeE.text {b : BP} {q : PL} (h : AlikeE b q) (hs : q.st = 3 ∨ q.st = 4) : b.ground = false ∧ b.kept ≤ 60 ∧ b.came = 0 := by
  cases h with
  | o t h => exact ⟨rfl, by show 0 + 0 + t.length + 0 ≤ 60; omega, rfl⟩
  | d t h => exact ⟨rfl, by show 0 + 0 + t.length + 0 ≤ 60; omega, rfl⟩
  | _ => exact absurd hs (by simp)
theorem AlikeE.cameZ {b : BP} {q : PL} (h : AlikeE b q) (h1 : q.st = 0) : b.came = 0 := by
  cases h with
  | g u B h => rfl
  | _ => exact absurd h1 (by simp)
theorem sameZ_fed {b c : BP} {q : PL} (h : AlikeE b q) (h' : AlikeE c q) (ts : List ByteArray) : (feedsE b ts).2 = (feedsE c ts).2 := by
  unfold feedsE
  rw [(feed_alikeE _ h).2, (feed_alikeE _ h').2]

def LowTo (a : ByteArray) (k : Nat) : Prop := ∀ j (h : j < a.size), j < k → 32 ≤ a[j].toNat
theorem LowTo.nats {a : ByteArray} (h : LowTo a a.size) : ∀ c ∈ natsOf a, 32 ≤ c := fun c hc => by
  obtain ⟨i, hi, rfl⟩ := List.mem_iff_getElem.1 hc
  have hi' : i < a.size := by simpa [natsOf] using hi
  have := h i hi' hi'
  have e2 : (natsOf a)[i] = a[i].toNat := by simp [natsOf]; rfl
  rw [e2]; exact this
def strP (s : Nat) (a : ByteArray) : PL := { pAt s with body := (natsOf a).take 60 }
theorem string_fed (s : Nat) (hs : s = 3 ∨ s = 4) (c : Nat) (hc : byteP (pAt 1) c = (pAt s, [])) (F a : ByteArray) (hF : natsOf F = [27, c]) (h : LowTo a a.size) : AlikeE (feedsE .z [F, a]).1 (strP s a) := by
  have h2 := (feed_alikeE ([F, a].flatMap natsOf) AlikeE.z).1
  have e : feedP (pAt 0) ([F, a].flatMap natsOf) = (strP s a, []) := by
    simp only [List.flatMap_cons, List.flatMap_nil, List.append_nil]
    rw [hF, List.cons_append, List.cons_append, List.nil_append, open_esc, feedP_cons, hc]
    simp only
    rw [feedP_body (natsOf a) h.nats (pAt s) (by unfold PL.text; show s = 3 ∨ s = 4; exact hs) (by simp [pAt])]
    rfl
  rw [e] at h2
  rw [feedsE_nats]
  exact h2
theorem string_ends {b : BP} (s : Nat) (hs : s = 3 ∨ s = 4) (a E : ByteArray) (h : AlikeE b (strP s a)) (hE : natsOf E = [27, 92]) :
    AlikeE (feedsE b [E]).1 (pAt 0) ∧ (feedsE b [E]).2 = [eText (if s = 4 then 6 else 5) ((natsOf a).take 60), eEscape [] 92] := by
  have h2 := feed_alikeE ([E].flatMap natsOf) h
  have e : feedP (strP s a) ([E].flatMap natsOf) = (pAt 0, [eText (if s = 4 then 6 else 5) ((natsOf a).take 60), eEscape [] 92]) := by
    simp only [List.flatMap_cons, List.flatMap_nil, List.append_nil]
    rw [hE, feedP_cons, feedP_one]
    have h1 : byteP (strP s a) 27 = (pAt 1, [eText (if s = 4 then 6 else 5) ((natsOf a).take 60)]) := by rcases hs with rfl | rfl <;> rfl
    rw [h1]
    have h3 := esc_end (pAt 1) rfl rfl 92 (by omega) (by omega) (fun _ => ⟨by omega, by omega, by omega⟩)
    simp only [h3]
    rfl
  rw [e] at h2
  rw [feedsE_nats]
  exact ⟨h2.1, h2.2⟩
theorem string_bell {b : BP} (a E : ByteArray) (h : AlikeE b (strP 3 a)) (hE : natsOf E = [7]) :
    AlikeE (feedsE b [E]).1 (pAt 0) ∧ (feedsE b [E]).2 = [eText 5 ((natsOf a).take 60)] := by
  have h2 := feed_alikeE ([E].flatMap natsOf) h
  have e : feedP (strP 3 a) ([E].flatMap natsOf) = (pAt 0, [eText 5 ((natsOf a).take 60)]) := by
    simp only [List.flatMap_cons, List.flatMap_nil, List.append_nil]
    rw [hE, feedP_one]
    rfl
  rw [e] at h2
  rw [feedsE_nats]
  exact ⟨h2.1, h2.2⟩
theorem text_cut (a : ByteArray) (q : Nat) (hq : min (a.size : Int) 60 = (q : Int)) : bytesN ((natsOf a).take 60) = a.extract 0 q := by
  apply nats_ext
  have hl := natsOf_len a
  rw [(natsOf_cut a q (by omega)).1, natsOf_bytesN _ (fun c hc => by
    have := List.mem_of_mem_take hc
    simp only [natsOf, List.mem_map] at this
    obtain ⟨x, -, rfl⟩ := this
    exact x.toNat_lt)]
  by_cases h : a.size ≤ 60
  · rw [List.take_of_length_le (by omega), List.take_of_length_le (by omega)]
  · rw [show q = 60 from by omega]

set_option maxRecDepth 100000 in
set_option maxHeartbeats 1600000 in
theorem escStrings_early (a : ByteArray) (dcs bell : Bool) (b : ByteArray) (w : World) (h : (a.size : Int) > 300 ∨ (¬ (a.size : Int) > 300 ∧ (b.size : Int) > 200)) :
    Calls Try.prog 6 #[.string a, .bool dcs, .bool bell, .string b] w fun e w' => e = .returned (.bool true) ∧ Below w.heap.size w w' := by
  rcases h with h | ⟨h1, h⟩
  all_goals
    go_enter Try.func6, Try.ntmps6
    go_wp2_with fail
    refine (alive_any _).mono ?_
    rintro e w1 ⟨rfl, hb⟩
    have HB := Lib.hid hb
    clear hb
    go_wp2_with fail
    go_ret
    exact ⟨rfl, HB.out⟩

set_option maxRecDepth 100000 in
set_option maxHeartbeats 6400000 in
theorem escStrings_dcs (a : ByteArray) (bell : Bool) (b : ByteArray) (w : World) (h1 : ¬ (a.size : Int) > 300) (h2 : ¬ (b.size : Int) > 200) :
    Calls Try.prog 6 #[.string a, .bool true, .bool bell, .string b] w fun e w' => e = .returned (.bool true) ∧ Below w.heap.size w w' := by
  obtain ⟨qn, hqn⟩ : ∃ qn : Nat, min (a.size : Int) 60 = (qn : Int) := ⟨(min (a.size : Int) 60).toNat, by omega⟩
  have hqa : qn ≤ a.size := by omega
  have HT := Lib.hid (text_cut a qn hqn)
  have HQ := Lib.hid hqn
  have ha3 : a.size ≤ 300 := by omega
  have hb3 : b.size ≤ 200 := by omega
  clear hqn
  go_enter Try.func6, Try.ntmps6
  go_wp2_with fail
  refine (alive_any _).mono ?_
  rintro e w1 ⟨rfl, hb⟩
  have HB := Lib.hid hb
  clear hb
  go_wp2_with fail
  go_loopw [9] (fun i wr => ∃ k : Nat, i = .int .i64 k ∧ k ≤ a.size ∧ wr = w1 ∧ Hid (LowTo a k)) (fun i _ => a.size - (intOf i).toNat)
  case atStart => exact ⟨0, rfl, by omega, rfl, fun j _ h => by omega⟩
  case round =>
    obtain ⟨k, rfl, hk, rfl, HP⟩ := hrel
    by_cases hlt : k < a.size
    · by_cases h1 : a[k].toNat < 32
      · have t1 : ((a[k].toNat : Int) < 32) := by omega
        go_wp2_with fail
        go_ret
        exact ⟨rfl, HB.out⟩
      · have t1 : ¬ ((a[k].toNat : Int) < 32) := by omega
        go_wp2_with fail
        go_roundw
        case rel =>
          refine ⟨k + 1, by go_num, by omega, trivial, fun j hj hjk => ?_⟩
          by_cases e : j = k
          · subst e; omega
          · exact HP.out j hj (by omega)
        case measure => simp [intOf]; omega
    · have hkk : k = a.size := by omega
      subst hkk
      have HJ := Lib.hid (string_fed 4 (.inr rfl) 80 (by kernel_rfl) ⟨#[27, 80]⟩ a rfl HP.out)
      clear HP
      go_wp2_with fail
      have hf := esc_feed_new wr.heap.size 0 .z [⟨#[27, 80]⟩, a] #[.string ⟨#[27, 80]⟩, .string a] (wr.alloc (.cells parserCs 37)) (esc_new wr) (by simp) (by simp) (by show 2 + (a.size + 0) ≤ _; omega) (by decide) 2 (by simp)
      rw [show (wr.alloc (.cells parserCs 37)).heap.size = wr.heap.size + 1 from by simp] at hf
      unfold parserCs at hf
      refine hf.mono ?_
      rintro e w2 ⟨A, n, c, rfl, hn, ha, he, hk⟩
      have HB2 : Hid (Below w.heap.size w w2) := by
        have hs := HB.out.size
        have := (((HB.out.alloc hs (.cells parserCs 37)).alloc (by simp; omega) (.cells #[.string ⟨#[27, 80]⟩, .string a] 9)).trans (hk.keep.below (by simp; omega) (fun k hk e => by omega)))
        exact this
      have HE := Lib.hid he
      have hq : w.heap.size ≤ wr.heap.size := HB.out.size
      clear hn ha he hk hf HB
      obtain ⟨p, hp⟩ : ∃ p, p = wr.heap.size := ⟨_, rfl⟩
      rw [← hp] at HE hq
      obtain ⟨b1, hb1⟩ : ∃ b1, b1 = (feedsE .z [⟨#[27, 80]⟩, a]).1 := ⟨_, rfl⟩
      rw [← hb1] at HE HJ
      clear hb1
      have hg1 := (HJ.out.text (.inr rfl)).1
      have hkp : ¬ ((b1.kept : Int) > 76) := by have := (HJ.out.text (.inr rfl)).2.1; omega
      go_wp2_with fail
      rw [← hp]
      refine (esc_ground p 0 _ _ HE.out).mono ?_
      rintro e w3 ⟨rfl, rfl⟩
      rw [hg1]
      go_wp2_with fail
      try rw [← hp]
      refine (esc_kept p 0 _ _ HE.out).mono ?_
      rintro e w4 ⟨rfl, k4, hw4⟩
      have K4 : Keep (fun _ => False) w3 w4 := by rw [hw4]; exact (Keep.refl _ w3).drewN k4
      have HE4 := Lib.hid (HE.out.keep K4 (fun x => x) (fun i x => x.elim))
      have HB4 : Hid (Below w.heap.size w w4) := Lib.hid (HB2.out.trans (K4.below HB2.out.size (fun k hk e => e.elim)))
      clear hw4 K4 hg1
      go_wp2_with fail
      try rw [← hp]
      refine (esc_feed_new p 0 _ [⟨#[27, 92]⟩] #[.string ⟨#[27, 92]⟩] w4 HE4.out (by simp) (by simp) (by decide) (by rw [(HJ.out.text (.inr rfl)).2.2]; omega) 1 (by simp)).mono ?_
      rintro e w5 ⟨A5, n5, c5, rfl, hn5, ha5, he5, hk5⟩
      have K5 : Keep (· = p) w4 w5 := ((Keep.refl _ w4).alloc _).trans hk5.keep (fun _ _ x => x)
      have HB5 : Hid (Below w.heap.size w w5) := Lib.hid (HB4.out.trans (K5.below HB4.out.size (fun k hk e => by omega)))
      have HS := Lib.hid (string_ends 4 (.inr rfl) a ⟨#[27, 92]⟩ HJ.out rfl)
      rw [HS.out.2] at hn5 ha5
      obtain ⟨g, rfl, hg, hcs⟩ := ha5.cells (by rw [hn5]; simp)
      replace hn5 : n5 = 2 := hn5
      subst hn5
      obtain ⟨s0, -, c0⟩ := hcs 0 _ rfl
      have d00 : w5.cell? ⟨g, 0, none⟩ = some (.int .i64 6) := c0 0 _ rfl
      have d06 : w5.cell? ⟨g, 6, none⟩ = some (.string (a.extract 0 qn)) := by rw [← HT.out]; exact c0 6 _ rfl
      obtain ⟨s1, -, c1⟩ := hcs 1 _ rfl
      have d10 : w5.cell? ⟨g, 7, none⟩ = some (.int .i64 3) := c1 0 _ rfl
      have d12 : w5.cell? ⟨g, 9, none⟩ = some (.int .i64 92) := c1 2 _ rfl
      clear c1
      have HE5 := Lib.hid he5
      have HA := Lib.hid HS.out.1
      obtain ⟨b2, hb2⟩ : ∃ b2, b2 = (feedsE b1 [⟨#[27, 92]⟩]).1 := ⟨_, rfl⟩
      rw [← hb2] at HE5 HA
      have hg2 := (AlikeE.at0 HA.out rfl rfl).1
      have hz5 : p < w5.heap.size := HE5.out.lt
      clear ha5 hcs c0 hg he5 hk5 K5 HS hb2 HB4 HE4 HJ hkp
      have hqi := HQ.out
      have hqa2 : (qn : Int) ≤ (a.size : Int) := by omega
      have hqa0 : (0 : Int) ≤ (qn : Int) := by omega
      have hqw : wrap64 (qn : Int) = (qn : Int) := IntWalk.wrap64_in _ (by omega)
      have HGR : Hid (∀ W, Keep (fun _ => False) w5 W → Calls Try.prog 16 #[.pointer (some ⟨p, 0, none⟩)] W fun e w' => e = .returned (.bool true) ∧ w' = W) := Lib.hid (fun W k => by
        have := esc_ground p 0 b2 W (HE5.out.keep k (fun x => x) (fun i x => x.elim))
        rw [hg2] at this
        exact this)
      subst hp
      clear hg2 HE HB2
      go_wp2_with fail
      refine wp_region_noPanic ?_
      refine wp_region_held_drew (S := fun w' => w'.cell? ⟨g, 0, none⟩ = some (.int .i64 6) ∧ w'.cell? ⟨g, 6, none⟩ = some (.string (a.extract 0 qn)) ∧ w'.cell? ⟨g, 7, none⟩ = some (.int .i64 3) ∧ w'.cell? ⟨g, 9, none⟩ = some (.int .i64 92)) (by kernel_rfl) ⟨d00, d06, d10, d12⟩ (fun hHeld => ?_)
      refine wpAnyH_take (i := 0) (oi := _) (v := ?vra0) rfl (by kernel_rfl) (by kernel_rfl) (by kernel_rfl) (fun _ _ _ h => h) (Or.inl ⟨by rfl, ?hyra0⟩) (by assumption) ?restra0
      case hyra0 => (intro w hSw; (try dsimp only at hSw); (try simp only [List.getElem_toArray, List.getElem_cons_zero, List.getElem_cons_succ]); go_simp; (try with_reducible rfl))
      (try simp only [Act.put, List.setIfInBounds_toArray, List.set_cons_zero, List.set_cons_succ, List.getElem_toArray, List.getElem_cons_zero, List.getElem_cons_succ])
      refine wpAnyH_take (i := 1) (oi := _) (v := ?vra1) rfl (by kernel_rfl) (by kernel_rfl) (by kernel_rfl) (fun _ _ _ h => h) (Or.inl ⟨by rfl, ?hyra1⟩) (by assumption) ?restra1
      case hyra1 => (intro w hSw; (try dsimp only at hSw); (try simp only [List.getElem_toArray, List.getElem_cons_zero, List.getElem_cons_succ]); go_simp; (try with_reducible rfl))
      (try simp only [Act.put, List.setIfInBounds_toArray, List.set_cons_zero, List.set_cons_succ, List.getElem_toArray, List.getElem_cons_zero, List.getElem_cons_succ])
      refine wpAnyH_take (i := 2) (oi := _) (v := ?vra2) rfl (by kernel_rfl) (by kernel_rfl) (by kernel_rfl) (fun _ _ _ h => h) (Or.inl ⟨by rfl, ?hyra2⟩) (by assumption) ?restra2
      case hyra2 => (intro w hSw; (try dsimp only at hSw); (try simp only [List.getElem_toArray, List.getElem_cons_zero, List.getElem_cons_succ]); go_simp; (try with_reducible rfl))
      (try simp only [Act.put, List.setIfInBounds_toArray, List.set_cons_zero, List.set_cons_succ, List.getElem_toArray, List.getElem_cons_zero, List.getElem_cons_succ])
      refine wpAnyH_take (i := 3) (oi := _) (v := ?vra3) rfl (by kernel_rfl) (by kernel_rfl) (by kernel_rfl) (fun _ _ _ h => h) (Or.inl ⟨by rfl, ?hyra3⟩) (by assumption) ?restra3
      case hyra3 => (intro w hSw; (try dsimp only at hSw); (try simp only [List.getElem_toArray, List.getElem_cons_zero, List.getElem_cons_succ]); go_simp; (try with_reducible rfl))
      (try simp only [Act.put, List.setIfInBounds_toArray, List.set_cons_zero, List.set_cons_succ, List.getElem_toArray, List.getElem_cons_zero, List.getElem_cons_succ])
      refine wpAnyH_take (i := 4) (oi := _) (v := ?vra4) rfl (by kernel_rfl) (by kernel_rfl) (by kernel_rfl) (fun _ _ _ h => h) (Or.inl ⟨by rfl, ?hyra4⟩) (by assumption) ?restra4
      case hyra4 => (intro w hSw; (try dsimp only at hSw); (try simp only [List.getElem_toArray, List.getElem_cons_zero, List.getElem_cons_succ]); go_simp; (try with_reducible rfl))
      (try simp only [Act.put, List.setIfInBounds_toArray, List.set_cons_zero, List.set_cons_succ, List.getElem_toArray, List.getElem_cons_zero, List.getElem_cons_succ])
      refine wpAnyH_take (i := 5) (oi := _) (v := ?vra5) rfl (by kernel_rfl) (by kernel_rfl) (by kernel_rfl) (fun _ _ _ h => h) (Or.inl ⟨by rfl, ?hyra5⟩) (by assumption) ?restra5
      case hyra5 => (intro w hSw; (try dsimp only at hSw); (try simp only [List.getElem_toArray, List.getElem_cons_zero, List.getElem_cons_succ]); go_simp; (try with_reducible rfl))
      (try simp only [Act.put, List.setIfInBounds_toArray, List.set_cons_zero, List.set_cons_succ, List.getElem_toArray, List.getElem_cons_zero, List.getElem_cons_succ])
      refine wpAnyH_take (i := 6) (oi := _) (v := ?vra6) rfl (by kernel_rfl) (by kernel_rfl) (by kernel_rfl) (fun _ _ _ h => h) (Or.inl ⟨by rfl, ?hyra6⟩) (by assumption) ?restra6
      case hyra6 => (intro w hSw; (try dsimp only at hSw); (try simp only [List.getElem_toArray, List.getElem_cons_zero, List.getElem_cons_succ]); go_simp; (try with_reducible rfl))
      (try simp only [Act.put, List.setIfInBounds_toArray, List.set_cons_zero, List.set_cons_succ, List.getElem_toArray, List.getElem_cons_zero, List.getElem_cons_succ])
      refine wpAnyH_take (i := 7) (oi := _) (v := ?vra7) rfl (by kernel_rfl) (by kernel_rfl) (by kernel_rfl) (fun _ _ _ h => h) (Or.inl ⟨by rfl, ?hyra7⟩) (by assumption) ?restra7
      case hyra7 => (intro w hSw; (try dsimp only at hSw); (try simp only [List.getElem_toArray, List.getElem_cons_zero, List.getElem_cons_succ]); go_simp; (try with_reducible rfl))
      (try simp only [Act.put, List.setIfInBounds_toArray, List.set_cons_zero, List.set_cons_succ, List.getElem_toArray, List.getElem_cons_zero, List.getElem_cons_succ])
      refine wpAnyH_take (i := 8) (oi := _) (v := ?vra8) rfl (by kernel_rfl) (by kernel_rfl) (by kernel_rfl) (fun _ _ _ h => h) (Or.inl ⟨by rfl, ?hyra8⟩) (by assumption) ?restra8
      case hyra8 => (intro w hSw; (try dsimp only at hSw); (try simp only [List.getElem_toArray, List.getElem_cons_zero, List.getElem_cons_succ]); go_simp; (try with_reducible rfl))
      (try simp only [Act.put, List.setIfInBounds_toArray, List.set_cons_zero, List.set_cons_succ, List.getElem_toArray, List.getElem_cons_zero, List.getElem_cons_succ])
      refine wpAnyH_take (i := 9) (oi := _) (v := ?vra9) rfl (by kernel_rfl) (by kernel_rfl) (by kernel_rfl) (fun _ _ _ h => h) (Or.inl ⟨by rfl, ?hyra9⟩) (by assumption) ?restra9
      case hyra9 => (intro w hSw; (try dsimp only at hSw); (try simp only [List.getElem_toArray, List.getElem_cons_zero, List.getElem_cons_succ]); go_simp; (try with_reducible rfl))
      (try simp only [Act.put, List.setIfInBounds_toArray, List.set_cons_zero, List.set_cons_succ, List.getElem_toArray, List.getElem_cons_zero, List.getElem_cons_succ])
      refine wpAnyH_take (i := 10) (oi := _) (v := ?vra10) rfl (by kernel_rfl) (by kernel_rfl) (by kernel_rfl) (fun _ _ _ h => h) (Or.inl ⟨by rfl, ?hyra10⟩) (by assumption) ?restra10
      case hyra10 => (intro w hSw; (try dsimp only at hSw); (try simp only [List.getElem_toArray, List.getElem_cons_zero, List.getElem_cons_succ]); go_simp; (try with_reducible rfl))
      (try simp only [Act.put, List.setIfInBounds_toArray, List.set_cons_zero, List.set_cons_succ, List.getElem_toArray, List.getElem_cons_zero, List.getElem_cons_succ])
      refine wpAnyH_take (i := 11) (oi := _) (v := ?vra11) rfl (by kernel_rfl) (by kernel_rfl) (by kernel_rfl) (fun _ _ _ h => h) (Or.inl ⟨by rfl, ?hyra11⟩) (by assumption) ?restra11
      case hyra11 => (intro w hSw; (try dsimp only at hSw); (try simp only [List.getElem_toArray, List.getElem_cons_zero, List.getElem_cons_succ]); go_simp; (try with_reducible rfl))
      (try simp only [Act.put, List.setIfInBounds_toArray, List.set_cons_zero, List.set_cons_succ, List.getElem_toArray, List.getElem_cons_zero, List.getElem_cons_succ])
      refine wpAnyH_take (i := 12) (oi := _) (v := ?vra12) rfl (by kernel_rfl) (by kernel_rfl) (by kernel_rfl) (fun _ _ _ h => h) (Or.inl ⟨by rfl, ?hyra12⟩) (by assumption) ?restra12
      case hyra12 => (intro w hSw; (try dsimp only at hSw); (try simp only [List.getElem_toArray, List.getElem_cons_zero, List.getElem_cons_succ]); go_simp; (try with_reducible rfl))
      (try simp only [Act.put, List.setIfInBounds_toArray, List.set_cons_zero, List.set_cons_succ, List.getElem_toArray, List.getElem_cons_zero, List.getElem_cons_succ])
      refine wpAnyH_take (i := 13) (oi := _) (v := ?vra13) rfl (by kernel_rfl) (by kernel_rfl) (by kernel_rfl) (fun _ _ _ h => h) (Or.inl ⟨by rfl, ?hyra13⟩) (by assumption) ?restra13
      case hyra13 => (intro w hSw; (try dsimp only at hSw); (try simp only [List.getElem_toArray, List.getElem_cons_zero, List.getElem_cons_succ]); go_simp; (try with_reducible rfl))
      (try simp only [Act.put, List.setIfInBounds_toArray, List.set_cons_zero, List.set_cons_succ, List.getElem_toArray, List.getElem_cons_zero, List.getElem_cons_succ])
      refine wpAnyH_take (i := 14) (oi := _) (v := ?vra14) rfl (by kernel_rfl) (by kernel_rfl) (by kernel_rfl) (fun _ _ _ h => h) (Or.inl ⟨by rfl, ?hyra14⟩) (by assumption) ?restra14
      case hyra14 => (intro w hSw; (try dsimp only at hSw); (try simp only [List.getElem_toArray, List.getElem_cons_zero, List.getElem_cons_succ]); go_simp; (try with_reducible rfl))
      (try simp only [Act.put, List.setIfInBounds_toArray, List.set_cons_zero, List.set_cons_succ, List.getElem_toArray, List.getElem_cons_zero, List.getElem_cons_succ])
      refine wpAnyH_take (i := 15) (oi := _) (v := ?vra15) rfl (by kernel_rfl) (by kernel_rfl) (by kernel_rfl) (fun _ _ _ h => h) (Or.inl ⟨by rfl, ?hyra15⟩) (by assumption) ?restra15
      case hyra15 => (intro w hSw; (try dsimp only at hSw); (try simp only [List.getElem_toArray, List.getElem_cons_zero, List.getElem_cons_succ]); go_simp; (try with_reducible rfl))
      (try simp only [Act.put, List.setIfInBounds_toArray, List.set_cons_zero, List.set_cons_succ, List.getElem_toArray, List.getElem_cons_zero, List.getElem_cons_succ])
      refine wpAnyH_take (i := 16) (oi := _) (v := ?vra16) rfl (by kernel_rfl) (by kernel_rfl) (by kernel_rfl) (fun _ _ _ h => h) (Or.inl ⟨by rfl, ?hyra16⟩) (by assumption) ?restra16
      case hyra16 => (intro w hSw; (try dsimp only at hSw); (try simp only [List.getElem_toArray, List.getElem_cons_zero, List.getElem_cons_succ]); go_simp; (try with_reducible rfl))
      (try simp only [Act.put, List.setIfInBounds_toArray, List.set_cons_zero, List.set_cons_succ, List.getElem_toArray, List.getElem_cons_zero, List.getElem_cons_succ])
      refine wpAnyH_take (i := 17) (oi := _) (v := ?vra17) rfl (by kernel_rfl) (by kernel_rfl) (by kernel_rfl) (fun _ _ _ h => h) (Or.inl ⟨by rfl, ?hyra17⟩) (by assumption) ?restra17
      case hyra17 => (intro w hSw; (try dsimp only at hSw); (try simp only [List.getElem_toArray, List.getElem_cons_zero, List.getElem_cons_succ]); go_simp; (try with_reducible rfl))
      (try simp only [Act.put, List.setIfInBounds_toArray, List.set_cons_zero, List.set_cons_succ, List.getElem_toArray, List.getElem_cons_zero, List.getElem_cons_succ])
      refine wpAnyH_take (i := 18) (oi := _) (v := ?vra18) rfl (by kernel_rfl) (by kernel_rfl) (by kernel_rfl) (fun _ _ _ h => h) (Or.inl ⟨by rfl, ?hyra18⟩) (by assumption) ?restra18
      case hyra18 => (intro w hSw; (try dsimp only at hSw); (try simp only [List.getElem_toArray, List.getElem_cons_zero, List.getElem_cons_succ]); go_simp; (try with_reducible rfl))
      (try simp only [Act.put, List.setIfInBounds_toArray, List.set_cons_zero, List.set_cons_succ, List.getElem_toArray, List.getElem_cons_zero, List.getElem_cons_succ])
      refine wpAnyH_take (i := 19) (oi := _) (v := ?vra19) rfl (by kernel_rfl) (by kernel_rfl) (by kernel_rfl) (fun _ _ _ h => h) (Or.inl ⟨by rfl, ?hyra19⟩) (by assumption) ?restra19
      case hyra19 => (intro w hSw; (try dsimp only at hSw); (try simp only [List.getElem_toArray, List.getElem_cons_zero, List.getElem_cons_succ]); go_simp; (try with_reducible rfl))
      (try simp only [Act.put, List.setIfInBounds_toArray, List.set_cons_zero, List.set_cons_succ, List.getElem_toArray, List.getElem_cons_zero, List.getElem_cons_succ])
      refine wpAnyH_take (i := 20) (oi := _) (v := ?vra20) rfl (by kernel_rfl) (by kernel_rfl) (by kernel_rfl) (fun _ _ _ h => h) (Or.inl ⟨by rfl, ?hyra20⟩) (by assumption) ?restra20
      case hyra20 => (intro w hSw; (try dsimp only at hSw); (try simp only [List.getElem_toArray, List.getElem_cons_zero, List.getElem_cons_succ]); go_simp; (try with_reducible rfl))
      (try simp only [Act.put, List.setIfInBounds_toArray, List.set_cons_zero, List.set_cons_succ, List.getElem_toArray, List.getElem_cons_zero, List.getElem_cons_succ])
      refine wpAnyH_take (i := 21) (oi := _) (v := ?vra21) rfl (by kernel_rfl) (by kernel_rfl) (by kernel_rfl) (fun _ _ _ h => h) (Or.inl ⟨by rfl, ?hyra21⟩) (by assumption) ?restra21
      case hyra21 => (intro w hSw; (try dsimp only at hSw); (try simp only [List.getElem_toArray, List.getElem_cons_zero, List.getElem_cons_succ]); go_simp; (try with_reducible rfl))
      (try simp only [Act.put, List.setIfInBounds_toArray, List.set_cons_zero, List.set_cons_succ, List.getElem_toArray, List.getElem_cons_zero, List.getElem_cons_succ])
      refine wpAnyH_take (i := 22) (oi := _) (v := ?vra22) rfl (by kernel_rfl) (by kernel_rfl) (by kernel_rfl) (fun _ _ _ h => h) (Or.inl ⟨by rfl, ?hyra22⟩) (by assumption) ?restra22
      case hyra22 => (intro w hSw; (try dsimp only at hSw); (try simp only [List.getElem_toArray, List.getElem_cons_zero, List.getElem_cons_succ]); go_simp; (try with_reducible rfl))
      (try simp only [Act.put, List.setIfInBounds_toArray, List.set_cons_zero, List.set_cons_succ, List.getElem_toArray, List.getElem_cons_zero, List.getElem_cons_succ])
      refine wpAnyH_take (i := 23) (oi := _) (v := ?vra23) rfl (by kernel_rfl) (by kernel_rfl) (by kernel_rfl) (fun _ _ _ h => h) (Or.inl ⟨by rfl, ?hyra23⟩) (by assumption) ?restra23
      case hyra23 => (intro w hSw; (try dsimp only at hSw); (try simp only [List.getElem_toArray, List.getElem_cons_zero, List.getElem_cons_succ]); go_simp; (try with_reducible rfl))
      (try simp only [Act.put, List.setIfInBounds_toArray, List.set_cons_zero, List.set_cons_succ, List.getElem_toArray, List.getElem_cons_zero, List.getElem_cons_succ])
      refine wpAnyH_take (i := 24) (oi := _) (v := ?vra24) rfl (by kernel_rfl) (by kernel_rfl) (by kernel_rfl) (fun _ _ _ h => h) (Or.inl ⟨by rfl, ?hyra24⟩) (by assumption) ?restra24
      case hyra24 => (intro w hSw; (try dsimp only at hSw); (try simp only [List.getElem_toArray, List.getElem_cons_zero, List.getElem_cons_succ]); go_simp; (try with_reducible rfl))
      (try simp only [Act.put, List.setIfInBounds_toArray, List.set_cons_zero, List.set_cons_succ, List.getElem_toArray, List.getElem_cons_zero, List.getElem_cons_succ])
      refine wpAnyH_take (i := 25) (oi := _) (v := ?vra25) rfl (by kernel_rfl) (by kernel_rfl) (by kernel_rfl) (fun _ _ _ h => h) (Or.inl ⟨by rfl, ?hyra25⟩) (by assumption) ?restra25
      case hyra25 => (intro w hSw; (try dsimp only at hSw); (try simp only [List.getElem_toArray, List.getElem_cons_zero, List.getElem_cons_succ]); go_simp; (try with_reducible rfl))
      (try simp only [Act.put, List.setIfInBounds_toArray, List.set_cons_zero, List.set_cons_succ, List.getElem_toArray, List.getElem_cons_zero, List.getElem_cons_succ])
      refine wpAnyH_take (i := 26) (oi := _) (v := ?vra26) rfl (by kernel_rfl) (by kernel_rfl) (by kernel_rfl) (fun _ _ _ h => h) (Or.inl ⟨by rfl, ?hyra26⟩) (by assumption) ?restra26
      case hyra26 => (intro w hSw; (try dsimp only at hSw); (try simp only [List.getElem_toArray, List.getElem_cons_zero, List.getElem_cons_succ]); go_simp; (try with_reducible rfl))
      (try simp only [Act.put, List.setIfInBounds_toArray, List.set_cons_zero, List.set_cons_succ, List.getElem_toArray, List.getElem_cons_zero, List.getElem_cons_succ])
      refine wpAnyH_take (i := 27) (oi := _) (v := ?vra27) rfl (by kernel_rfl) (by kernel_rfl) (by kernel_rfl) (fun _ _ _ h => h) (Or.inl ⟨by rfl, ?hyra27⟩) (by assumption) ?restra27
      case hyra27 => (intro w hSw; (try dsimp only at hSw); (try simp only [List.getElem_toArray, List.getElem_cons_zero, List.getElem_cons_succ]); go_simp; (try with_reducible rfl))
      (try simp only [Act.put, List.setIfInBounds_toArray, List.set_cons_zero, List.set_cons_succ, List.getElem_toArray, List.getElem_cons_zero, List.getElem_cons_succ])
      refine wpAnyH_take (i := 28) (oi := _) (v := ?vra28) rfl (by kernel_rfl) (by kernel_rfl) (by kernel_rfl) (fun _ _ _ h => h) (Or.inl ⟨by rfl, ?hyra28⟩) (by assumption) ?restra28
      case hyra28 => (intro w hSw; (try dsimp only at hSw); (try simp only [List.getElem_toArray, List.getElem_cons_zero, List.getElem_cons_succ]); go_simp; (try with_reducible rfl))
      (try simp only [Act.put, List.setIfInBounds_toArray, List.set_cons_zero, List.set_cons_succ, List.getElem_toArray, List.getElem_cons_zero, List.getElem_cons_succ])
      refine wpAnyH_take (i := 29) (oi := _) (v := ?vra29) rfl (by kernel_rfl) (by kernel_rfl) (by kernel_rfl) (fun _ _ _ h => h) (Or.inl ⟨by rfl, ?hyra29⟩) (by assumption) ?restra29
      case hyra29 => (intro w hSw; (try dsimp only at hSw); (try simp only [List.getElem_toArray, List.getElem_cons_zero, List.getElem_cons_succ]); go_simp; (try with_reducible rfl))
      (try simp only [Act.put, List.setIfInBounds_toArray, List.set_cons_zero, List.set_cons_succ, List.getElem_toArray, List.getElem_cons_zero, List.getElem_cons_succ])
      refine wpAnyH_take (i := 30) (oi := _) (v := ?vra30) rfl (by kernel_rfl) (by kernel_rfl) (by kernel_rfl) (fun _ _ _ h => h) (Or.inl ⟨by rfl, ?hyra30⟩) (by assumption) ?restra30
      case hyra30 => (intro w hSw; (try dsimp only at hSw); (try simp only [List.getElem_toArray, List.getElem_cons_zero, List.getElem_cons_succ]); go_simp; (try with_reducible rfl))
      (try simp only [Act.put, List.setIfInBounds_toArray, List.set_cons_zero, List.set_cons_succ, List.getElem_toArray, List.getElem_cons_zero, List.getElem_cons_succ])
      refine wpAnyH_take (i := 31) (oi := _) (v := ?vra31) rfl (by kernel_rfl) (by kernel_rfl) (by kernel_rfl) (fun _ _ _ h => h) (Or.inl ⟨by rfl, ?hyra31⟩) (by assumption) ?restra31
      case hyra31 => (intro w hSw; (try dsimp only at hSw); (try simp only [List.getElem_toArray, List.getElem_cons_zero, List.getElem_cons_succ]); go_simp; (try with_reducible rfl))
      (try simp only [Act.put, List.setIfInBounds_toArray, List.set_cons_zero, List.set_cons_succ, List.getElem_toArray, List.getElem_cons_zero, List.getElem_cons_succ])
      refine wpAnyH_take (i := 32) (oi := _) (v := ?vra32) rfl (by kernel_rfl) (by kernel_rfl) (by kernel_rfl) (fun _ _ _ h => h) (Or.inl ⟨by rfl, ?hyra32⟩) (by assumption) ?restra32
      case hyra32 => (intro w hSw; (try dsimp only at hSw); (try simp only [List.getElem_toArray, List.getElem_cons_zero, List.getElem_cons_succ]); go_simp; (try with_reducible rfl))
      (try simp only [Act.put, List.setIfInBounds_toArray, List.set_cons_zero, List.set_cons_succ, List.getElem_toArray, List.getElem_cons_zero, List.getElem_cons_succ])
      refine wpAnyH_take (i := 33) (oi := _) (v := ?vra33) rfl (by kernel_rfl) (by kernel_rfl) (by kernel_rfl) (fun _ _ _ h => h) (Or.inl ⟨by rfl, ?hyra33⟩) (by assumption) ?restra33
      case hyra33 => (intro w hSw; (try dsimp only at hSw); (try simp only [List.getElem_toArray, List.getElem_cons_zero, List.getElem_cons_succ]); go_simp; (try with_reducible rfl))
      (try simp only [Act.put, List.setIfInBounds_toArray, List.set_cons_zero, List.set_cons_succ, List.getElem_toArray, List.getElem_cons_zero, List.getElem_cons_succ])
      refine wpAnyH_take (i := 34) (oi := _) (v := ?vra34) rfl (by kernel_rfl) (by kernel_rfl) (by kernel_rfl) (fun _ _ _ h => h) (Or.inl ⟨by rfl, ?hyra34⟩) (by assumption) ?restra34
      case hyra34 => (intro w hSw; (try dsimp only at hSw); (try simp only [List.getElem_toArray, List.getElem_cons_zero, List.getElem_cons_succ]); go_simp; (try with_reducible rfl))
      (try simp only [Act.put, List.setIfInBounds_toArray, List.set_cons_zero, List.set_cons_succ, List.getElem_toArray, List.getElem_cons_zero, List.getElem_cons_succ])
      refine wpAnyH_take (i := 35) (oi := _) (v := ?vra35) rfl (by kernel_rfl) (by kernel_rfl) (by kernel_rfl) (fun _ _ _ h => h) (Or.inl ⟨by rfl, ?hyra35⟩) (by assumption) ?restra35
      case hyra35 => (intro w hSw; (try dsimp only at hSw); (try simp only [List.getElem_toArray, List.getElem_cons_zero, List.getElem_cons_succ]); go_simp; (try with_reducible rfl))
      (try simp only [Act.put, List.setIfInBounds_toArray, List.set_cons_zero, List.set_cons_succ, List.getElem_toArray, List.getElem_cons_zero, List.getElem_cons_succ])
      refine wpAnyH_take (i := 36) (oi := _) (v := ?vra36) rfl (by kernel_rfl) (by kernel_rfl) (by kernel_rfl) (fun _ _ _ h => h) (Or.inl ⟨by rfl, ?hyra36⟩) (by assumption) ?restra36
      case hyra36 => (intro w hSw; (try dsimp only at hSw); (try simp only [List.getElem_toArray, List.getElem_cons_zero, List.getElem_cons_succ]); go_simp; (try with_reducible rfl))
      (try simp only [Act.put, List.setIfInBounds_toArray, List.set_cons_zero, List.set_cons_succ, List.getElem_toArray, List.getElem_cons_zero, List.getElem_cons_succ])
      refine wpAnyH_take (i := 37) (oi := _) (v := ?vra37) rfl (by kernel_rfl) (by kernel_rfl) (by kernel_rfl) (fun _ _ _ h => h) (Or.inl ⟨by rfl, ?hyra37⟩) (by assumption) ?restra37
      case hyra37 => (intro w hSw; (try dsimp only at hSw); (try simp only [List.getElem_toArray, List.getElem_cons_zero, List.getElem_cons_succ]); go_simp; (try with_reducible rfl))
      (try simp only [Act.put, List.setIfInBounds_toArray, List.set_cons_zero, List.set_cons_succ, List.getElem_toArray, List.getElem_cons_zero, List.getElem_cons_succ])
      refine wpAnyH_take (i := 38) (oi := _) (v := ?vra38) rfl (by kernel_rfl) (by kernel_rfl) (by kernel_rfl) (fun _ _ _ h => h) (Or.inl ⟨by rfl, ?hyra38⟩) (by assumption) ?restra38
      case hyra38 => (intro w hSw; (try dsimp only at hSw); (try simp only [List.getElem_toArray, List.getElem_cons_zero, List.getElem_cons_succ]); go_simp; (try with_reducible rfl))
      (try simp only [Act.put, List.setIfInBounds_toArray, List.set_cons_zero, List.set_cons_succ, List.getElem_toArray, List.getElem_cons_zero, List.getElem_cons_succ])
      refine wpAnyH_take (i := 39) (oi := _) (v := ?vra39) rfl (by kernel_rfl) (by kernel_rfl) (by kernel_rfl) (fun _ _ _ h => h) (Or.inl ⟨by rfl, ?hyra39⟩) (by assumption) ?restra39
      case hyra39 => (intro w hSw; (try dsimp only at hSw); (try simp only [List.getElem_toArray, List.getElem_cons_zero, List.getElem_cons_succ]); go_simp; (try with_reducible rfl))
      (try simp only [Act.put, List.setIfInBounds_toArray, List.set_cons_zero, List.set_cons_succ, List.getElem_toArray, List.getElem_cons_zero, List.getElem_cons_succ])
      refine wpAnyH_take (i := 40) (oi := _) (v := ?vra40) rfl (by kernel_rfl) (by kernel_rfl) (by kernel_rfl) (fun _ _ _ h => h) (Or.inl ⟨by rfl, ?hyra40⟩) (by assumption) ?restra40
      case hyra40 => (intro w hSw; (try dsimp only at hSw); (try simp only [List.getElem_toArray, List.getElem_cons_zero, List.getElem_cons_succ]); go_simp; (try with_reducible rfl))
      (try simp only [Act.put, List.setIfInBounds_toArray, List.set_cons_zero, List.set_cons_succ, List.getElem_toArray, List.getElem_cons_zero, List.getElem_cons_succ])
      refine wpAnyH_take (i := 41) (oi := _) (v := ?vra41) rfl (by kernel_rfl) (by kernel_rfl) (by kernel_rfl) (fun _ _ _ h => h) (Or.inl ⟨by rfl, ?hyra41⟩) (by assumption) ?restra41
      case hyra41 => (intro w hSw; (try dsimp only at hSw); (try simp only [List.getElem_toArray, List.getElem_cons_zero, List.getElem_cons_succ]); go_simp; (try with_reducible rfl))
      (try simp only [Act.put, List.setIfInBounds_toArray, List.set_cons_zero, List.set_cons_succ, List.getElem_toArray, List.getElem_cons_zero, List.getElem_cons_succ])
      refine wpAnyH_take (i := 42) (oi := _) (v := ?vra42) rfl (by kernel_rfl) (by kernel_rfl) (by kernel_rfl) (fun _ _ _ h => h) (Or.inl ⟨by rfl, ?hyra42⟩) (by assumption) ?restra42
      case hyra42 => (intro w hSw; (try dsimp only at hSw); (try simp only [List.getElem_toArray, List.getElem_cons_zero, List.getElem_cons_succ]); go_simp; (try with_reducible rfl))
      (try simp only [Act.put, List.setIfInBounds_toArray, List.set_cons_zero, List.set_cons_succ, List.getElem_toArray, List.getElem_cons_zero, List.getElem_cons_succ])
      refine wpAnyH_take (i := 43) (oi := _) (v := ?vra43) rfl (by kernel_rfl) (by kernel_rfl) (by kernel_rfl) (fun _ _ _ h => h) (Or.inl ⟨by rfl, ?hyra43⟩) (by assumption) ?restra43
      case hyra43 => (intro w hSw; (try dsimp only at hSw); (try simp only [List.getElem_toArray, List.getElem_cons_zero, List.getElem_cons_succ]); go_simp; (try with_reducible rfl))
      (try simp only [Act.put, List.setIfInBounds_toArray, List.set_cons_zero, List.set_cons_succ, List.getElem_toArray, List.getElem_cons_zero, List.getElem_cons_succ])
      refine wpAnyH_ready (rs := [44]) (by kernel_rfl) (by simp) ?_
      refine AllReadyH.cons (o := _) rfl (fun K hK => ?_) AllReadyH.nil
      (try simp only [List.getElem_toArray, List.getElem_cons_zero, List.getElem_cons_succ])
      go_simp
      (first | refine (HGR.out _ ((Keep.refl _ w5).drew)).mono ?_ | refine (HGR.out _ (((Keep.refl _ w5).drew).drew)).mono ?_); rintro e w6 ⟨rfl, rfl⟩
      refine hK.out _ _ ?_ (fun hHeld => ?_)
      · exact ⟨d00, d06, d10, d12⟩
      clear hK K
      (try simp only [Act.put, List.setIfInBounds_toArray, List.set_cons_zero, List.set_cons_succ, List.getElem_toArray, List.getElem_cons_zero, List.getElem_cons_succ])
      refine wpAnyH_take (i := 45) (oi := _) (v := ?vra45) rfl (by kernel_rfl) (by kernel_rfl) (by kernel_rfl) (fun _ _ _ h => h) (Or.inl ⟨by rfl, ?hyra45⟩) (by assumption) ?restra45
      case hyra45 => (intro w hSw; (try dsimp only at hSw); (try simp only [List.getElem_toArray, List.getElem_cons_zero, List.getElem_cons_succ]); go_simp; (try with_reducible rfl))
      (try simp only [Act.put, List.setIfInBounds_toArray, List.set_cons_zero, List.set_cons_succ, List.getElem_toArray, List.getElem_cons_zero, List.getElem_cons_succ])
      refine wpAnyH_take (i := 46) (oi := _) (v := ?vra46) rfl (by kernel_rfl) (by kernel_rfl) (by kernel_rfl) (fun _ _ _ h => h) (Or.inl ⟨by rfl, ?hyra46⟩) (by assumption) ?restra46
      case hyra46 => (intro w hSw; (try dsimp only at hSw); (try simp only [List.getElem_toArray, List.getElem_cons_zero, List.getElem_cons_succ]); go_simp; (try with_reducible rfl))
      (try simp only [Act.put, List.setIfInBounds_toArray, List.set_cons_zero, List.set_cons_succ, List.getElem_toArray, List.getElem_cons_zero, List.getElem_cons_succ])
      refine wpAnyH_done (by kernel_rfl) ?_ _
      refine NoPanic.normal ?_
      go_upto_region 25 with fail
      obtain ⟨p, hp⟩ : ∃ p, p = wr.heap.size := ⟨_, rfl⟩
      obtain ⟨Q, hQ⟩ : ∃ Q, Q = w5.heap.size := ⟨_, rfl⟩
      obtain ⟨w6, hw6⟩ : ∃ w6, w6 = (w5.alloc (.cells parserCs 37)).drew := ⟨_, rfl⟩
      have KD : Keep (fun _ => False) w5 w6 := by rw [hw6]; exact ((Keep.refl _ w5).alloc _).drew
      have HE6 : Hid (EscAt w6 p 0 b2) := Lib.hid (by rw [hp]; exact HE5.out.keep KD (fun x => x) (fun i x => x.elim))
      have HY6 : Hid (EscAt w6 Q 0 .z) := Lib.hid (by rw [hw6, hQ]; exact (esc_new w5).keep ((Keep.refl (fun _ => False) _).drew) (fun x => x) (fun i x => x.elim))
      have HC6 : Hid (Cell w6 Q 0 (.pointer none)) := Lib.hid (by rw [hw6, hQ]; exact Cell.box (w := w5) (t := 37) (cs := parserCs) 0 (v := .pointer none) rfl)
      have HB6 : Hid (Below w.heap.size w w6) := Lib.hid (HB5.out.trans (KD.below HB5.out.size (fun k hk e => e.elim)))
      have hpQ : p < Q := by rw [hp, hQ]; exact hz5
      have hz6 : Q < w6.heap.size := by rw [hw6, hQ]; simp
      rw [← hp] at hq
      unfold parserCs at hw6
      rw [← hw6, ← hp, ← hQ]
      clear hw6 hp hQ KD d00 d06 d10 d12 HGR hHeld HE5 hz5 hqi HB5
      go_wp2_with fail
      refine (esc_feed_new p 0 _ [b] #[.string b] w6 HE6.out (by simp) (by simp) (by simp [sum]; omega) (by rw [HA.out.cameZ rfl]; omega) 1 (by simp)).mono ?_
      rintro e w7 ⟨A7, n7, c7, rfl, hn7, ha7, he7, hk7⟩
      have K7 : Keep (· = p) w6 w7 := ((Keep.refl _ w6).alloc _).trans hk7.keep (fun _ _ x => x)
      have HY7 : Hid (EscAt w7 Q 0 .z) := Lib.hid (HY6.out.keep K7 (by omega) (fun i hi R hR => by rw [HC6.out.1] at hR; cases hR))
      have HB7 : Hid (Below w.heap.size w w7) := Lib.hid (HB6.out.trans (K7.below HB6.out.size (fun k hk e => by omega)))
      rw [sameZ_fed HA.out AlikeE.z] at hn7 ha7
      have HN := Lib.hid hn7
      have ha7' := ha7.base (B2 := w6.heap.size) (by simp)
      have HA7 := Lib.hid ha7'
      clear hn7 ha7 ha7' he7 hk7 K7 HY6 HC6 HB6 HE6 HA
      go_wp2_with fail
      refine (esc_feed_new Q 0 .z [b] #[.string b] w7 HY7.out (by simp) (by simp) (by simp [sum]; omega) (by decide) 1 (by simp)).mono ?_
      rintro e w8 ⟨A8, n8, c8, rfl, hn8, ha8, he8, hk8⟩
      have K8 : Keep (· = Q) w7 w8 := ((Keep.refl _ w7).alloc _).trans hk8.keep (fun _ _ x => x)
      have HA78 := Lib.hid (HA7.out.keep K8 (fun i hi e => by omega))
      have HA8 := Lib.hid ha8
      have HB8 : Hid (Below w.heap.size w w8) := Lib.hid (HB7.out.trans (K8.below HB7.out.size (fun k hk e => by omega)))
      obtain rfl : n8 = n7 := hn8.trans HN.out.symm
      have hn : Hid (n8 ≤ 1099511627776) := by
        show n8 ≤ 1099511627776
        rw [hn8]
        have hl := (len_feedE ((joinL [b]).map (·.toNat)) .z St.Ok.z).1
        have e : ((joinL [b]).map (·.toNat)).length = b.size := by simp [joinL]
        rw [e] at hl
        exact Nat.le_trans hl (by omega)
      have H8 := Lib.hid (nums8_feeds AlikeE.z [b])
      clear hn8 HN ha8 he8 hk8 K8 HY7 HB7 HA7
      go_wp2_with fail
      refine (esc_same HA78.out HA8.out H8.out hn.out).mono ?_
      rintro e w9 ⟨rfl, k9, hw9⟩
      have HB9 : Hid (Below w.heap.size w w9) := Lib.hid (by rw [hw9]; exact ⟨HB8.out.os, HB8.out.tape, HB8.out.output, HB8.out.size, HB8.out.block⟩)
      clear hw9
      go_wp2_with fail
      go_ret
      exact ⟨rfl, HB9.out⟩

set_option maxRecDepth 100000 in
set_option maxHeartbeats 6400000 in
theorem escStrings_osc (a : ByteArray) (b : ByteArray) (w : World) (h1 : ¬ (a.size : Int) > 300) (h2 : ¬ (b.size : Int) > 200) :
    Calls Try.prog 6 #[.string a, .bool false, .bool false, .string b] w fun e w' => e = .returned (.bool true) ∧ Below w.heap.size w w' := by
  obtain ⟨qn, hqn⟩ : ∃ qn : Nat, min (a.size : Int) 60 = (qn : Int) := ⟨(min (a.size : Int) 60).toNat, by omega⟩
  have hqa : qn ≤ a.size := by omega
  have HT := Lib.hid (text_cut a qn hqn)
  have HQ := Lib.hid hqn
  have ha3 : a.size ≤ 300 := by omega
  have hb3 : b.size ≤ 200 := by omega
  clear hqn
  go_enter Try.func6, Try.ntmps6
  go_wp2_with fail
  refine (alive_any _).mono ?_
  rintro e w1 ⟨rfl, hb⟩
  have HB := Lib.hid hb
  clear hb
  go_wp2_with fail
  go_loopw [9] (fun i wr => ∃ k : Nat, i = .int .i64 k ∧ k ≤ a.size ∧ wr = w1 ∧ Hid (LowTo a k)) (fun i _ => a.size - (intOf i).toNat)
  case atStart => exact ⟨0, rfl, by omega, rfl, fun j _ h => by omega⟩
  case round =>
    obtain ⟨k, rfl, hk, rfl, HP⟩ := hrel
    by_cases hlt : k < a.size
    · by_cases h1 : a[k].toNat < 32
      · have t1 : ((a[k].toNat : Int) < 32) := by omega
        go_wp2_with fail
        go_ret
        exact ⟨rfl, HB.out⟩
      · have t1 : ¬ ((a[k].toNat : Int) < 32) := by omega
        go_wp2_with fail
        go_roundw
        case rel =>
          refine ⟨k + 1, by go_num, by omega, trivial, fun j hj hjk => ?_⟩
          by_cases e : j = k
          · subst e; omega
          · exact HP.out j hj (by omega)
        case measure => simp [intOf]; omega
    · have hkk : k = a.size := by omega
      subst hkk
      have HJ := Lib.hid (string_fed 3 (.inl rfl) 93 (by kernel_rfl) ⟨#[27, 93]⟩ a rfl HP.out)
      clear HP
      go_wp2_with fail
      have hf := esc_feed_new wr.heap.size 0 .z [⟨#[27, 93]⟩, a] #[.string ⟨#[27, 93]⟩, .string a] (wr.alloc (.cells parserCs 37)) (esc_new wr) (by simp) (by simp) (by show 2 + (a.size + 0) ≤ _; omega) (by decide) 2 (by simp)
      rw [show (wr.alloc (.cells parserCs 37)).heap.size = wr.heap.size + 1 from by simp] at hf
      unfold parserCs at hf
      refine hf.mono ?_
      rintro e w2 ⟨A, n, c, rfl, hn, ha, he, hk⟩
      have HB2 : Hid (Below w.heap.size w w2) := by
        have hs := HB.out.size
        have := (((HB.out.alloc hs (.cells parserCs 37)).alloc (by simp; omega) (.cells #[.string ⟨#[27, 93]⟩, .string a] 9)).trans (hk.keep.below (by simp; omega) (fun k hk e => by omega)))
        exact this
      have HE := Lib.hid he
      have hq : w.heap.size ≤ wr.heap.size := HB.out.size
      clear hn ha he hk hf HB
      obtain ⟨p, hp⟩ : ∃ p, p = wr.heap.size := ⟨_, rfl⟩
      rw [← hp] at HE hq
      obtain ⟨b1, hb1⟩ : ∃ b1, b1 = (feedsE .z [⟨#[27, 93]⟩, a]).1 := ⟨_, rfl⟩
      rw [← hb1] at HE HJ
      clear hb1
      have hg1 := (HJ.out.text (.inl rfl)).1
      have hkp : ¬ ((b1.kept : Int) > 76) := by have := (HJ.out.text (.inl rfl)).2.1; omega
      go_wp2_with fail
      rw [← hp]
      refine (esc_ground p 0 _ _ HE.out).mono ?_
      rintro e w3 ⟨rfl, rfl⟩
      rw [hg1]
      go_wp2_with fail
      try rw [← hp]
      refine (esc_kept p 0 _ _ HE.out).mono ?_
      rintro e w4 ⟨rfl, k4, hw4⟩
      have K4 : Keep (fun _ => False) w3 w4 := by rw [hw4]; exact (Keep.refl _ w3).drewN k4
      have HE4 := Lib.hid (HE.out.keep K4 (fun x => x) (fun i x => x.elim))
      have HB4 : Hid (Below w.heap.size w w4) := Lib.hid (HB2.out.trans (K4.below HB2.out.size (fun k hk e => e.elim)))
      clear hw4 K4 hg1
      go_wp2_with fail
      try rw [← hp]
      refine (esc_feed_new p 0 _ [⟨#[27, 92]⟩] #[.string ⟨#[27, 92]⟩] w4 HE4.out (by simp) (by simp) (by decide) (by rw [(HJ.out.text (.inl rfl)).2.2]; omega) 1 (by simp)).mono ?_
      rintro e w5 ⟨A5, n5, c5, rfl, hn5, ha5, he5, hk5⟩
      have K5 : Keep (· = p) w4 w5 := ((Keep.refl _ w4).alloc _).trans hk5.keep (fun _ _ x => x)
      have HB5 : Hid (Below w.heap.size w w5) := Lib.hid (HB4.out.trans (K5.below HB4.out.size (fun k hk e => by omega)))
      have HS := Lib.hid (string_ends 3 (.inl rfl) a ⟨#[27, 92]⟩ HJ.out rfl)
      rw [HS.out.2] at hn5 ha5
      obtain ⟨g, rfl, hg, hcs⟩ := ha5.cells (by rw [hn5]; simp)
      replace hn5 : n5 = 2 := hn5
      subst hn5
      obtain ⟨s0, -, c0⟩ := hcs 0 _ rfl
      have d00 : w5.cell? ⟨g, 0, none⟩ = some (.int .i64 5) := c0 0 _ rfl
      have d06 : w5.cell? ⟨g, 6, none⟩ = some (.string (a.extract 0 qn)) := by rw [← HT.out]; exact c0 6 _ rfl
      obtain ⟨s1, -, c1⟩ := hcs 1 _ rfl
      have d10 : w5.cell? ⟨g, 7, none⟩ = some (.int .i64 3) := c1 0 _ rfl
      have d12 : w5.cell? ⟨g, 9, none⟩ = some (.int .i64 92) := c1 2 _ rfl
      clear c1
      have HE5 := Lib.hid he5
      have HA := Lib.hid HS.out.1
      obtain ⟨b2, hb2⟩ : ∃ b2, b2 = (feedsE b1 [⟨#[27, 92]⟩]).1 := ⟨_, rfl⟩
      rw [← hb2] at HE5 HA
      have hg2 := (AlikeE.at0 HA.out rfl rfl).1
      have hz5 : p < w5.heap.size := HE5.out.lt
      clear ha5 hcs c0 hg he5 hk5 K5 HS hb2 HB4 HE4 HJ hkp
      have hqi := HQ.out
      have hqa2 : (qn : Int) ≤ (a.size : Int) := by omega
      have hqa0 : (0 : Int) ≤ (qn : Int) := by omega
      have hqw : wrap64 (qn : Int) = (qn : Int) := IntWalk.wrap64_in _ (by omega)
      have HGR : Hid (∀ W, Keep (fun _ => False) w5 W → Calls Try.prog 16 #[.pointer (some ⟨p, 0, none⟩)] W fun e w' => e = .returned (.bool true) ∧ w' = W) := Lib.hid (fun W k => by
        have := esc_ground p 0 b2 W (HE5.out.keep k (fun x => x) (fun i x => x.elim))
        rw [hg2] at this
        exact this)
      subst hp
      clear hg2 HE HB2
      go_wp2_with fail
      refine wp_region_noPanic ?_
      refine wp_region_held_drew (S := fun w' => w'.cell? ⟨g, 0, none⟩ = some (.int .i64 5) ∧ w'.cell? ⟨g, 6, none⟩ = some (.string (a.extract 0 qn)) ∧ w'.cell? ⟨g, 7, none⟩ = some (.int .i64 3) ∧ w'.cell? ⟨g, 9, none⟩ = some (.int .i64 92)) (by kernel_rfl) ⟨d00, d06, d10, d12⟩ (fun hHeld => ?_)
      refine wpAnyH_take (i := 0) (oi := _) (v := ?vra0) rfl (by kernel_rfl) (by kernel_rfl) (by kernel_rfl) (fun _ _ _ h => h) (Or.inl ⟨by rfl, ?hyra0⟩) (by assumption) ?restra0
      case hyra0 => (intro w hSw; (try dsimp only at hSw); (try simp only [List.getElem_toArray, List.getElem_cons_zero, List.getElem_cons_succ]); go_simp; (try with_reducible rfl))
      (try simp only [Act.put, List.setIfInBounds_toArray, List.set_cons_zero, List.set_cons_succ, List.getElem_toArray, List.getElem_cons_zero, List.getElem_cons_succ])
      refine wpAnyH_take (i := 1) (oi := _) (v := ?vra1) rfl (by kernel_rfl) (by kernel_rfl) (by kernel_rfl) (fun _ _ _ h => h) (Or.inl ⟨by rfl, ?hyra1⟩) (by assumption) ?restra1
      case hyra1 => (intro w hSw; (try dsimp only at hSw); (try simp only [List.getElem_toArray, List.getElem_cons_zero, List.getElem_cons_succ]); go_simp; (try with_reducible rfl))
      (try simp only [Act.put, List.setIfInBounds_toArray, List.set_cons_zero, List.set_cons_succ, List.getElem_toArray, List.getElem_cons_zero, List.getElem_cons_succ])
      refine wpAnyH_take (i := 2) (oi := _) (v := ?vra2) rfl (by kernel_rfl) (by kernel_rfl) (by kernel_rfl) (fun _ _ _ h => h) (Or.inl ⟨by rfl, ?hyra2⟩) (by assumption) ?restra2
      case hyra2 => (intro w hSw; (try dsimp only at hSw); (try simp only [List.getElem_toArray, List.getElem_cons_zero, List.getElem_cons_succ]); go_simp; (try with_reducible rfl))
      (try simp only [Act.put, List.setIfInBounds_toArray, List.set_cons_zero, List.set_cons_succ, List.getElem_toArray, List.getElem_cons_zero, List.getElem_cons_succ])
      refine wpAnyH_take (i := 3) (oi := _) (v := ?vra3) rfl (by kernel_rfl) (by kernel_rfl) (by kernel_rfl) (fun _ _ _ h => h) (Or.inl ⟨by rfl, ?hyra3⟩) (by assumption) ?restra3
      case hyra3 => (intro w hSw; (try dsimp only at hSw); (try simp only [List.getElem_toArray, List.getElem_cons_zero, List.getElem_cons_succ]); go_simp; (try with_reducible rfl))
      (try simp only [Act.put, List.setIfInBounds_toArray, List.set_cons_zero, List.set_cons_succ, List.getElem_toArray, List.getElem_cons_zero, List.getElem_cons_succ])
      refine wpAnyH_take (i := 4) (oi := _) (v := ?vra4) rfl (by kernel_rfl) (by kernel_rfl) (by kernel_rfl) (fun _ _ _ h => h) (Or.inl ⟨by rfl, ?hyra4⟩) (by assumption) ?restra4
      case hyra4 => (intro w hSw; (try dsimp only at hSw); (try simp only [List.getElem_toArray, List.getElem_cons_zero, List.getElem_cons_succ]); go_simp; (try with_reducible rfl))
      (try simp only [Act.put, List.setIfInBounds_toArray, List.set_cons_zero, List.set_cons_succ, List.getElem_toArray, List.getElem_cons_zero, List.getElem_cons_succ])
      refine wpAnyH_take (i := 5) (oi := _) (v := ?vra5) rfl (by kernel_rfl) (by kernel_rfl) (by kernel_rfl) (fun _ _ _ h => h) (Or.inl ⟨by rfl, ?hyra5⟩) (by assumption) ?restra5
      case hyra5 => (intro w hSw; (try dsimp only at hSw); (try simp only [List.getElem_toArray, List.getElem_cons_zero, List.getElem_cons_succ]); go_simp; (try with_reducible rfl))
      (try simp only [Act.put, List.setIfInBounds_toArray, List.set_cons_zero, List.set_cons_succ, List.getElem_toArray, List.getElem_cons_zero, List.getElem_cons_succ])
      refine wpAnyH_take (i := 6) (oi := _) (v := ?vra6) rfl (by kernel_rfl) (by kernel_rfl) (by kernel_rfl) (fun _ _ _ h => h) (Or.inl ⟨by rfl, ?hyra6⟩) (by assumption) ?restra6
      case hyra6 => (intro w hSw; (try dsimp only at hSw); (try simp only [List.getElem_toArray, List.getElem_cons_zero, List.getElem_cons_succ]); go_simp; (try with_reducible rfl))
      (try simp only [Act.put, List.setIfInBounds_toArray, List.set_cons_zero, List.set_cons_succ, List.getElem_toArray, List.getElem_cons_zero, List.getElem_cons_succ])
      refine wpAnyH_take (i := 7) (oi := _) (v := ?vra7) rfl (by kernel_rfl) (by kernel_rfl) (by kernel_rfl) (fun _ _ _ h => h) (Or.inl ⟨by rfl, ?hyra7⟩) (by assumption) ?restra7
      case hyra7 => (intro w hSw; (try dsimp only at hSw); (try simp only [List.getElem_toArray, List.getElem_cons_zero, List.getElem_cons_succ]); go_simp; (try with_reducible rfl))
      (try simp only [Act.put, List.setIfInBounds_toArray, List.set_cons_zero, List.set_cons_succ, List.getElem_toArray, List.getElem_cons_zero, List.getElem_cons_succ])
      refine wpAnyH_take (i := 8) (oi := _) (v := ?vra8) rfl (by kernel_rfl) (by kernel_rfl) (by kernel_rfl) (fun _ _ _ h => h) (Or.inl ⟨by rfl, ?hyra8⟩) (by assumption) ?restra8
      case hyra8 => (intro w hSw; (try dsimp only at hSw); (try simp only [List.getElem_toArray, List.getElem_cons_zero, List.getElem_cons_succ]); go_simp; (try with_reducible rfl))
      (try simp only [Act.put, List.setIfInBounds_toArray, List.set_cons_zero, List.set_cons_succ, List.getElem_toArray, List.getElem_cons_zero, List.getElem_cons_succ])
      refine wpAnyH_take (i := 9) (oi := _) (v := ?vra9) rfl (by kernel_rfl) (by kernel_rfl) (by kernel_rfl) (fun _ _ _ h => h) (Or.inl ⟨by rfl, ?hyra9⟩) (by assumption) ?restra9
      case hyra9 => (intro w hSw; (try dsimp only at hSw); (try simp only [List.getElem_toArray, List.getElem_cons_zero, List.getElem_cons_succ]); go_simp; (try with_reducible rfl))
      (try simp only [Act.put, List.setIfInBounds_toArray, List.set_cons_zero, List.set_cons_succ, List.getElem_toArray, List.getElem_cons_zero, List.getElem_cons_succ])
      refine wpAnyH_take (i := 10) (oi := _) (v := ?vra10) rfl (by kernel_rfl) (by kernel_rfl) (by kernel_rfl) (fun _ _ _ h => h) (Or.inl ⟨by rfl, ?hyra10⟩) (by assumption) ?restra10
      case hyra10 => (intro w hSw; (try dsimp only at hSw); (try simp only [List.getElem_toArray, List.getElem_cons_zero, List.getElem_cons_succ]); go_simp; (try with_reducible rfl))
      (try simp only [Act.put, List.setIfInBounds_toArray, List.set_cons_zero, List.set_cons_succ, List.getElem_toArray, List.getElem_cons_zero, List.getElem_cons_succ])
      refine wpAnyH_take (i := 11) (oi := _) (v := ?vra11) rfl (by kernel_rfl) (by kernel_rfl) (by kernel_rfl) (fun _ _ _ h => h) (Or.inl ⟨by rfl, ?hyra11⟩) (by assumption) ?restra11
      case hyra11 => (intro w hSw; (try dsimp only at hSw); (try simp only [List.getElem_toArray, List.getElem_cons_zero, List.getElem_cons_succ]); go_simp; (try with_reducible rfl))
      (try simp only [Act.put, List.setIfInBounds_toArray, List.set_cons_zero, List.set_cons_succ, List.getElem_toArray, List.getElem_cons_zero, List.getElem_cons_succ])
      refine wpAnyH_take (i := 12) (oi := _) (v := ?vra12) rfl (by kernel_rfl) (by kernel_rfl) (by kernel_rfl) (fun _ _ _ h => h) (Or.inl ⟨by rfl, ?hyra12⟩) (by assumption) ?restra12
      case hyra12 => (intro w hSw; (try dsimp only at hSw); (try simp only [List.getElem_toArray, List.getElem_cons_zero, List.getElem_cons_succ]); go_simp; (try with_reducible rfl))
      (try simp only [Act.put, List.setIfInBounds_toArray, List.set_cons_zero, List.set_cons_succ, List.getElem_toArray, List.getElem_cons_zero, List.getElem_cons_succ])
      refine wpAnyH_take (i := 13) (oi := _) (v := ?vra13) rfl (by kernel_rfl) (by kernel_rfl) (by kernel_rfl) (fun _ _ _ h => h) (Or.inl ⟨by rfl, ?hyra13⟩) (by assumption) ?restra13
      case hyra13 => (intro w hSw; (try dsimp only at hSw); (try simp only [List.getElem_toArray, List.getElem_cons_zero, List.getElem_cons_succ]); go_simp; (try with_reducible rfl))
      (try simp only [Act.put, List.setIfInBounds_toArray, List.set_cons_zero, List.set_cons_succ, List.getElem_toArray, List.getElem_cons_zero, List.getElem_cons_succ])
      refine wpAnyH_take (i := 14) (oi := _) (v := ?vra14) rfl (by kernel_rfl) (by kernel_rfl) (by kernel_rfl) (fun _ _ _ h => h) (Or.inl ⟨by rfl, ?hyra14⟩) (by assumption) ?restra14
      case hyra14 => (intro w hSw; (try dsimp only at hSw); (try simp only [List.getElem_toArray, List.getElem_cons_zero, List.getElem_cons_succ]); go_simp; (try with_reducible rfl))
      (try simp only [Act.put, List.setIfInBounds_toArray, List.set_cons_zero, List.set_cons_succ, List.getElem_toArray, List.getElem_cons_zero, List.getElem_cons_succ])
      refine wpAnyH_take (i := 15) (oi := _) (v := ?vra15) rfl (by kernel_rfl) (by kernel_rfl) (by kernel_rfl) (fun _ _ _ h => h) (Or.inl ⟨by rfl, ?hyra15⟩) (by assumption) ?restra15
      case hyra15 => (intro w hSw; (try dsimp only at hSw); (try simp only [List.getElem_toArray, List.getElem_cons_zero, List.getElem_cons_succ]); go_simp; (try with_reducible rfl))
      (try simp only [Act.put, List.setIfInBounds_toArray, List.set_cons_zero, List.set_cons_succ, List.getElem_toArray, List.getElem_cons_zero, List.getElem_cons_succ])
      refine wpAnyH_take (i := 16) (oi := _) (v := ?vra16) rfl (by kernel_rfl) (by kernel_rfl) (by kernel_rfl) (fun _ _ _ h => h) (Or.inl ⟨by rfl, ?hyra16⟩) (by assumption) ?restra16
      case hyra16 => (intro w hSw; (try dsimp only at hSw); (try simp only [List.getElem_toArray, List.getElem_cons_zero, List.getElem_cons_succ]); go_simp; (try with_reducible rfl))
      (try simp only [Act.put, List.setIfInBounds_toArray, List.set_cons_zero, List.set_cons_succ, List.getElem_toArray, List.getElem_cons_zero, List.getElem_cons_succ])
      refine wpAnyH_take (i := 17) (oi := _) (v := ?vra17) rfl (by kernel_rfl) (by kernel_rfl) (by kernel_rfl) (fun _ _ _ h => h) (Or.inl ⟨by rfl, ?hyra17⟩) (by assumption) ?restra17
      case hyra17 => (intro w hSw; (try dsimp only at hSw); (try simp only [List.getElem_toArray, List.getElem_cons_zero, List.getElem_cons_succ]); go_simp; (try with_reducible rfl))
      (try simp only [Act.put, List.setIfInBounds_toArray, List.set_cons_zero, List.set_cons_succ, List.getElem_toArray, List.getElem_cons_zero, List.getElem_cons_succ])
      refine wpAnyH_take (i := 18) (oi := _) (v := ?vra18) rfl (by kernel_rfl) (by kernel_rfl) (by kernel_rfl) (fun _ _ _ h => h) (Or.inl ⟨by rfl, ?hyra18⟩) (by assumption) ?restra18
      case hyra18 => (intro w hSw; (try dsimp only at hSw); (try simp only [List.getElem_toArray, List.getElem_cons_zero, List.getElem_cons_succ]); go_simp; (try with_reducible rfl))
      (try simp only [Act.put, List.setIfInBounds_toArray, List.set_cons_zero, List.set_cons_succ, List.getElem_toArray, List.getElem_cons_zero, List.getElem_cons_succ])
      refine wpAnyH_take (i := 19) (oi := _) (v := ?vra19) rfl (by kernel_rfl) (by kernel_rfl) (by kernel_rfl) (fun _ _ _ h => h) (Or.inl ⟨by rfl, ?hyra19⟩) (by assumption) ?restra19
      case hyra19 => (intro w hSw; (try dsimp only at hSw); (try simp only [List.getElem_toArray, List.getElem_cons_zero, List.getElem_cons_succ]); go_simp; (try with_reducible rfl))
      (try simp only [Act.put, List.setIfInBounds_toArray, List.set_cons_zero, List.set_cons_succ, List.getElem_toArray, List.getElem_cons_zero, List.getElem_cons_succ])
      refine wpAnyH_take (i := 20) (oi := _) (v := ?vra20) rfl (by kernel_rfl) (by kernel_rfl) (by kernel_rfl) (fun _ _ _ h => h) (Or.inl ⟨by rfl, ?hyra20⟩) (by assumption) ?restra20
      case hyra20 => (intro w hSw; (try dsimp only at hSw); (try simp only [List.getElem_toArray, List.getElem_cons_zero, List.getElem_cons_succ]); go_simp; (try with_reducible rfl))
      (try simp only [Act.put, List.setIfInBounds_toArray, List.set_cons_zero, List.set_cons_succ, List.getElem_toArray, List.getElem_cons_zero, List.getElem_cons_succ])
      refine wpAnyH_take (i := 21) (oi := _) (v := ?vra21) rfl (by kernel_rfl) (by kernel_rfl) (by kernel_rfl) (fun _ _ _ h => h) (Or.inl ⟨by rfl, ?hyra21⟩) (by assumption) ?restra21
      case hyra21 => (intro w hSw; (try dsimp only at hSw); (try simp only [List.getElem_toArray, List.getElem_cons_zero, List.getElem_cons_succ]); go_simp; (try with_reducible rfl))
      (try simp only [Act.put, List.setIfInBounds_toArray, List.set_cons_zero, List.set_cons_succ, List.getElem_toArray, List.getElem_cons_zero, List.getElem_cons_succ])
      refine wpAnyH_take (i := 22) (oi := _) (v := ?vra22) rfl (by kernel_rfl) (by kernel_rfl) (by kernel_rfl) (fun _ _ _ h => h) (Or.inl ⟨by rfl, ?hyra22⟩) (by assumption) ?restra22
      case hyra22 => (intro w hSw; (try dsimp only at hSw); (try simp only [List.getElem_toArray, List.getElem_cons_zero, List.getElem_cons_succ]); go_simp; (try with_reducible rfl))
      (try simp only [Act.put, List.setIfInBounds_toArray, List.set_cons_zero, List.set_cons_succ, List.getElem_toArray, List.getElem_cons_zero, List.getElem_cons_succ])
      refine wpAnyH_take (i := 23) (oi := _) (v := ?vra23) rfl (by kernel_rfl) (by kernel_rfl) (by kernel_rfl) (fun _ _ _ h => h) (Or.inl ⟨by rfl, ?hyra23⟩) (by assumption) ?restra23
      case hyra23 => (intro w hSw; (try dsimp only at hSw); (try simp only [List.getElem_toArray, List.getElem_cons_zero, List.getElem_cons_succ]); go_simp; (try with_reducible rfl))
      (try simp only [Act.put, List.setIfInBounds_toArray, List.set_cons_zero, List.set_cons_succ, List.getElem_toArray, List.getElem_cons_zero, List.getElem_cons_succ])
      refine wpAnyH_take (i := 24) (oi := _) (v := ?vra24) rfl (by kernel_rfl) (by kernel_rfl) (by kernel_rfl) (fun _ _ _ h => h) (Or.inl ⟨by rfl, ?hyra24⟩) (by assumption) ?restra24
      case hyra24 => (intro w hSw; (try dsimp only at hSw); (try simp only [List.getElem_toArray, List.getElem_cons_zero, List.getElem_cons_succ]); go_simp; (try with_reducible rfl))
      (try simp only [Act.put, List.setIfInBounds_toArray, List.set_cons_zero, List.set_cons_succ, List.getElem_toArray, List.getElem_cons_zero, List.getElem_cons_succ])
      refine wpAnyH_take (i := 25) (oi := _) (v := ?vra25) rfl (by kernel_rfl) (by kernel_rfl) (by kernel_rfl) (fun _ _ _ h => h) (Or.inl ⟨by rfl, ?hyra25⟩) (by assumption) ?restra25
      case hyra25 => (intro w hSw; (try dsimp only at hSw); (try simp only [List.getElem_toArray, List.getElem_cons_zero, List.getElem_cons_succ]); go_simp; (try with_reducible rfl))
      (try simp only [Act.put, List.setIfInBounds_toArray, List.set_cons_zero, List.set_cons_succ, List.getElem_toArray, List.getElem_cons_zero, List.getElem_cons_succ])
      refine wpAnyH_take (i := 26) (oi := _) (v := ?vra26) rfl (by kernel_rfl) (by kernel_rfl) (by kernel_rfl) (fun _ _ _ h => h) (Or.inl ⟨by rfl, ?hyra26⟩) (by assumption) ?restra26
      case hyra26 => (intro w hSw; (try dsimp only at hSw); (try simp only [List.getElem_toArray, List.getElem_cons_zero, List.getElem_cons_succ]); go_simp; (try with_reducible rfl))
      (try simp only [Act.put, List.setIfInBounds_toArray, List.set_cons_zero, List.set_cons_succ, List.getElem_toArray, List.getElem_cons_zero, List.getElem_cons_succ])
      refine wpAnyH_take (i := 27) (oi := _) (v := ?vra27) rfl (by kernel_rfl) (by kernel_rfl) (by kernel_rfl) (fun _ _ _ h => h) (Or.inl ⟨by rfl, ?hyra27⟩) (by assumption) ?restra27
      case hyra27 => (intro w hSw; (try dsimp only at hSw); (try simp only [List.getElem_toArray, List.getElem_cons_zero, List.getElem_cons_succ]); go_simp; (try with_reducible rfl))
      (try simp only [Act.put, List.setIfInBounds_toArray, List.set_cons_zero, List.set_cons_succ, List.getElem_toArray, List.getElem_cons_zero, List.getElem_cons_succ])
      refine wpAnyH_take (i := 28) (oi := _) (v := ?vra28) rfl (by kernel_rfl) (by kernel_rfl) (by kernel_rfl) (fun _ _ _ h => h) (Or.inl ⟨by rfl, ?hyra28⟩) (by assumption) ?restra28
      case hyra28 => (intro w hSw; (try dsimp only at hSw); (try simp only [List.getElem_toArray, List.getElem_cons_zero, List.getElem_cons_succ]); go_simp; (try with_reducible rfl))
      (try simp only [Act.put, List.setIfInBounds_toArray, List.set_cons_zero, List.set_cons_succ, List.getElem_toArray, List.getElem_cons_zero, List.getElem_cons_succ])
      refine wpAnyH_take (i := 29) (oi := _) (v := ?vra29) rfl (by kernel_rfl) (by kernel_rfl) (by kernel_rfl) (fun _ _ _ h => h) (Or.inl ⟨by rfl, ?hyra29⟩) (by assumption) ?restra29
      case hyra29 => (intro w hSw; (try dsimp only at hSw); (try simp only [List.getElem_toArray, List.getElem_cons_zero, List.getElem_cons_succ]); go_simp; (try with_reducible rfl))
      (try simp only [Act.put, List.setIfInBounds_toArray, List.set_cons_zero, List.set_cons_succ, List.getElem_toArray, List.getElem_cons_zero, List.getElem_cons_succ])
      refine wpAnyH_take (i := 30) (oi := _) (v := ?vra30) rfl (by kernel_rfl) (by kernel_rfl) (by kernel_rfl) (fun _ _ _ h => h) (Or.inl ⟨by rfl, ?hyra30⟩) (by assumption) ?restra30
      case hyra30 => (intro w hSw; (try dsimp only at hSw); (try simp only [List.getElem_toArray, List.getElem_cons_zero, List.getElem_cons_succ]); go_simp; (try with_reducible rfl))
      (try simp only [Act.put, List.setIfInBounds_toArray, List.set_cons_zero, List.set_cons_succ, List.getElem_toArray, List.getElem_cons_zero, List.getElem_cons_succ])
      refine wpAnyH_take (i := 31) (oi := _) (v := ?vra31) rfl (by kernel_rfl) (by kernel_rfl) (by kernel_rfl) (fun _ _ _ h => h) (Or.inl ⟨by rfl, ?hyra31⟩) (by assumption) ?restra31
      case hyra31 => (intro w hSw; (try dsimp only at hSw); (try simp only [List.getElem_toArray, List.getElem_cons_zero, List.getElem_cons_succ]); go_simp; (try with_reducible rfl))
      (try simp only [Act.put, List.setIfInBounds_toArray, List.set_cons_zero, List.set_cons_succ, List.getElem_toArray, List.getElem_cons_zero, List.getElem_cons_succ])
      refine wpAnyH_take (i := 32) (oi := _) (v := ?vra32) rfl (by kernel_rfl) (by kernel_rfl) (by kernel_rfl) (fun _ _ _ h => h) (Or.inl ⟨by rfl, ?hyra32⟩) (by assumption) ?restra32
      case hyra32 => (intro w hSw; (try dsimp only at hSw); (try simp only [List.getElem_toArray, List.getElem_cons_zero, List.getElem_cons_succ]); go_simp; (try with_reducible rfl))
      (try simp only [Act.put, List.setIfInBounds_toArray, List.set_cons_zero, List.set_cons_succ, List.getElem_toArray, List.getElem_cons_zero, List.getElem_cons_succ])
      refine wpAnyH_take (i := 33) (oi := _) (v := ?vra33) rfl (by kernel_rfl) (by kernel_rfl) (by kernel_rfl) (fun _ _ _ h => h) (Or.inl ⟨by rfl, ?hyra33⟩) (by assumption) ?restra33
      case hyra33 => (intro w hSw; (try dsimp only at hSw); (try simp only [List.getElem_toArray, List.getElem_cons_zero, List.getElem_cons_succ]); go_simp; (try with_reducible rfl))
      (try simp only [Act.put, List.setIfInBounds_toArray, List.set_cons_zero, List.set_cons_succ, List.getElem_toArray, List.getElem_cons_zero, List.getElem_cons_succ])
      refine wpAnyH_take (i := 34) (oi := _) (v := ?vra34) rfl (by kernel_rfl) (by kernel_rfl) (by kernel_rfl) (fun _ _ _ h => h) (Or.inl ⟨by rfl, ?hyra34⟩) (by assumption) ?restra34
      case hyra34 => (intro w hSw; (try dsimp only at hSw); (try simp only [List.getElem_toArray, List.getElem_cons_zero, List.getElem_cons_succ]); go_simp; (try with_reducible rfl))
      (try simp only [Act.put, List.setIfInBounds_toArray, List.set_cons_zero, List.set_cons_succ, List.getElem_toArray, List.getElem_cons_zero, List.getElem_cons_succ])
      refine wpAnyH_take (i := 35) (oi := _) (v := ?vra35) rfl (by kernel_rfl) (by kernel_rfl) (by kernel_rfl) (fun _ _ _ h => h) (Or.inl ⟨by rfl, ?hyra35⟩) (by assumption) ?restra35
      case hyra35 => (intro w hSw; (try dsimp only at hSw); (try simp only [List.getElem_toArray, List.getElem_cons_zero, List.getElem_cons_succ]); go_simp; (try with_reducible rfl))
      (try simp only [Act.put, List.setIfInBounds_toArray, List.set_cons_zero, List.set_cons_succ, List.getElem_toArray, List.getElem_cons_zero, List.getElem_cons_succ])
      refine wpAnyH_take (i := 36) (oi := _) (v := ?vra36) rfl (by kernel_rfl) (by kernel_rfl) (by kernel_rfl) (fun _ _ _ h => h) (Or.inl ⟨by rfl, ?hyra36⟩) (by assumption) ?restra36
      case hyra36 => (intro w hSw; (try dsimp only at hSw); (try simp only [List.getElem_toArray, List.getElem_cons_zero, List.getElem_cons_succ]); go_simp; (try with_reducible rfl))
      (try simp only [Act.put, List.setIfInBounds_toArray, List.set_cons_zero, List.set_cons_succ, List.getElem_toArray, List.getElem_cons_zero, List.getElem_cons_succ])
      refine wpAnyH_take (i := 37) (oi := _) (v := ?vra37) rfl (by kernel_rfl) (by kernel_rfl) (by kernel_rfl) (fun _ _ _ h => h) (Or.inl ⟨by rfl, ?hyra37⟩) (by assumption) ?restra37
      case hyra37 => (intro w hSw; (try dsimp only at hSw); (try simp only [List.getElem_toArray, List.getElem_cons_zero, List.getElem_cons_succ]); go_simp; (try with_reducible rfl))
      (try simp only [Act.put, List.setIfInBounds_toArray, List.set_cons_zero, List.set_cons_succ, List.getElem_toArray, List.getElem_cons_zero, List.getElem_cons_succ])
      refine wpAnyH_take (i := 38) (oi := _) (v := ?vra38) rfl (by kernel_rfl) (by kernel_rfl) (by kernel_rfl) (fun _ _ _ h => h) (Or.inl ⟨by rfl, ?hyra38⟩) (by assumption) ?restra38
      case hyra38 => (intro w hSw; (try dsimp only at hSw); (try simp only [List.getElem_toArray, List.getElem_cons_zero, List.getElem_cons_succ]); go_simp; (try with_reducible rfl))
      (try simp only [Act.put, List.setIfInBounds_toArray, List.set_cons_zero, List.set_cons_succ, List.getElem_toArray, List.getElem_cons_zero, List.getElem_cons_succ])
      refine wpAnyH_take (i := 39) (oi := _) (v := ?vra39) rfl (by kernel_rfl) (by kernel_rfl) (by kernel_rfl) (fun _ _ _ h => h) (Or.inl ⟨by rfl, ?hyra39⟩) (by assumption) ?restra39
      case hyra39 => (intro w hSw; (try dsimp only at hSw); (try simp only [List.getElem_toArray, List.getElem_cons_zero, List.getElem_cons_succ]); go_simp; (try with_reducible rfl))
      (try simp only [Act.put, List.setIfInBounds_toArray, List.set_cons_zero, List.set_cons_succ, List.getElem_toArray, List.getElem_cons_zero, List.getElem_cons_succ])
      refine wpAnyH_take (i := 40) (oi := _) (v := ?vra40) rfl (by kernel_rfl) (by kernel_rfl) (by kernel_rfl) (fun _ _ _ h => h) (Or.inl ⟨by rfl, ?hyra40⟩) (by assumption) ?restra40
      case hyra40 => (intro w hSw; (try dsimp only at hSw); (try simp only [List.getElem_toArray, List.getElem_cons_zero, List.getElem_cons_succ]); go_simp; (try with_reducible rfl))
      (try simp only [Act.put, List.setIfInBounds_toArray, List.set_cons_zero, List.set_cons_succ, List.getElem_toArray, List.getElem_cons_zero, List.getElem_cons_succ])
      refine wpAnyH_take (i := 41) (oi := _) (v := ?vra41) rfl (by kernel_rfl) (by kernel_rfl) (by kernel_rfl) (fun _ _ _ h => h) (Or.inl ⟨by rfl, ?hyra41⟩) (by assumption) ?restra41
      case hyra41 => (intro w hSw; (try dsimp only at hSw); (try simp only [List.getElem_toArray, List.getElem_cons_zero, List.getElem_cons_succ]); go_simp; (try with_reducible rfl))
      (try simp only [Act.put, List.setIfInBounds_toArray, List.set_cons_zero, List.set_cons_succ, List.getElem_toArray, List.getElem_cons_zero, List.getElem_cons_succ])
      refine wpAnyH_take (i := 42) (oi := _) (v := ?vra42) rfl (by kernel_rfl) (by kernel_rfl) (by kernel_rfl) (fun _ _ _ h => h) (Or.inl ⟨by rfl, ?hyra42⟩) (by assumption) ?restra42
      case hyra42 => (intro w hSw; (try dsimp only at hSw); (try simp only [List.getElem_toArray, List.getElem_cons_zero, List.getElem_cons_succ]); go_simp; (try with_reducible rfl))
      (try simp only [Act.put, List.setIfInBounds_toArray, List.set_cons_zero, List.set_cons_succ, List.getElem_toArray, List.getElem_cons_zero, List.getElem_cons_succ])
      refine wpAnyH_take (i := 43) (oi := _) (v := ?vra43) rfl (by kernel_rfl) (by kernel_rfl) (by kernel_rfl) (fun _ _ _ h => h) (Or.inl ⟨by rfl, ?hyra43⟩) (by assumption) ?restra43
      case hyra43 => (intro w hSw; (try dsimp only at hSw); (try simp only [List.getElem_toArray, List.getElem_cons_zero, List.getElem_cons_succ]); go_simp; (try with_reducible rfl))
      (try simp only [Act.put, List.setIfInBounds_toArray, List.set_cons_zero, List.set_cons_succ, List.getElem_toArray, List.getElem_cons_zero, List.getElem_cons_succ])
      refine wpAnyH_ready (rs := [44]) (by kernel_rfl) (by simp) ?_
      refine AllReadyH.cons (o := _) rfl (fun K hK => ?_) AllReadyH.nil
      (try simp only [List.getElem_toArray, List.getElem_cons_zero, List.getElem_cons_succ])
      go_simp
      (first | refine (HGR.out _ ((Keep.refl _ w5).drew)).mono ?_ | refine (HGR.out _ (((Keep.refl _ w5).drew).drew)).mono ?_); rintro e w6 ⟨rfl, rfl⟩
      refine hK.out _ _ ?_ (fun hHeld => ?_)
      · exact ⟨d00, d06, d10, d12⟩
      clear hK K
      (try simp only [Act.put, List.setIfInBounds_toArray, List.set_cons_zero, List.set_cons_succ, List.getElem_toArray, List.getElem_cons_zero, List.getElem_cons_succ])
      refine wpAnyH_take (i := 45) (oi := _) (v := ?vra45) rfl (by kernel_rfl) (by kernel_rfl) (by kernel_rfl) (fun _ _ _ h => h) (Or.inl ⟨by rfl, ?hyra45⟩) (by assumption) ?restra45
      case hyra45 => (intro w hSw; (try dsimp only at hSw); (try simp only [List.getElem_toArray, List.getElem_cons_zero, List.getElem_cons_succ]); go_simp; (try with_reducible rfl))
      (try simp only [Act.put, List.setIfInBounds_toArray, List.set_cons_zero, List.set_cons_succ, List.getElem_toArray, List.getElem_cons_zero, List.getElem_cons_succ])
      refine wpAnyH_take (i := 46) (oi := _) (v := ?vra46) rfl (by kernel_rfl) (by kernel_rfl) (by kernel_rfl) (fun _ _ _ h => h) (Or.inl ⟨by rfl, ?hyra46⟩) (by assumption) ?restra46
      case hyra46 => (intro w hSw; (try dsimp only at hSw); (try simp only [List.getElem_toArray, List.getElem_cons_zero, List.getElem_cons_succ]); go_simp; (try with_reducible rfl))
      (try simp only [Act.put, List.setIfInBounds_toArray, List.set_cons_zero, List.set_cons_succ, List.getElem_toArray, List.getElem_cons_zero, List.getElem_cons_succ])
      refine wpAnyH_done (by kernel_rfl) ?_ _
      refine NoPanic.normal ?_
      go_upto_region 25 with fail
      obtain ⟨p, hp⟩ : ∃ p, p = wr.heap.size := ⟨_, rfl⟩
      obtain ⟨Q, hQ⟩ : ∃ Q, Q = w5.heap.size := ⟨_, rfl⟩
      obtain ⟨w6, hw6⟩ : ∃ w6, w6 = (w5.alloc (.cells parserCs 37)).drew := ⟨_, rfl⟩
      have KD : Keep (fun _ => False) w5 w6 := by rw [hw6]; exact ((Keep.refl _ w5).alloc _).drew
      have HE6 : Hid (EscAt w6 p 0 b2) := Lib.hid (by rw [hp]; exact HE5.out.keep KD (fun x => x) (fun i x => x.elim))
      have HY6 : Hid (EscAt w6 Q 0 .z) := Lib.hid (by rw [hw6, hQ]; exact (esc_new w5).keep ((Keep.refl (fun _ => False) _).drew) (fun x => x) (fun i x => x.elim))
      have HC6 : Hid (Cell w6 Q 0 (.pointer none)) := Lib.hid (by rw [hw6, hQ]; exact Cell.box (w := w5) (t := 37) (cs := parserCs) 0 (v := .pointer none) rfl)
      have HB6 : Hid (Below w.heap.size w w6) := Lib.hid (HB5.out.trans (KD.below HB5.out.size (fun k hk e => e.elim)))
      have hpQ : p < Q := by rw [hp, hQ]; exact hz5
      have hz6 : Q < w6.heap.size := by rw [hw6, hQ]; simp
      rw [← hp] at hq
      unfold parserCs at hw6
      rw [← hw6, ← hp, ← hQ]
      clear hw6 hp hQ KD d00 d06 d10 d12 HGR hHeld HE5 hz5 hqi HB5
      go_wp2_with fail
      refine (esc_feed_new p 0 _ [b] #[.string b] w6 HE6.out (by simp) (by simp) (by simp [sum]; omega) (by rw [HA.out.cameZ rfl]; omega) 1 (by simp)).mono ?_
      rintro e w7 ⟨A7, n7, c7, rfl, hn7, ha7, he7, hk7⟩
      have K7 : Keep (· = p) w6 w7 := ((Keep.refl _ w6).alloc _).trans hk7.keep (fun _ _ x => x)
      have HY7 : Hid (EscAt w7 Q 0 .z) := Lib.hid (HY6.out.keep K7 (by omega) (fun i hi R hR => by rw [HC6.out.1] at hR; cases hR))
      have HB7 : Hid (Below w.heap.size w w7) := Lib.hid (HB6.out.trans (K7.below HB6.out.size (fun k hk e => by omega)))
      rw [sameZ_fed HA.out AlikeE.z] at hn7 ha7
      have HN := Lib.hid hn7
      have ha7' := ha7.base (B2 := w6.heap.size) (by simp)
      have HA7 := Lib.hid ha7'
      clear hn7 ha7 ha7' he7 hk7 K7 HY6 HC6 HB6 HE6 HA
      go_wp2_with fail
      refine (esc_feed_new Q 0 .z [b] #[.string b] w7 HY7.out (by simp) (by simp) (by simp [sum]; omega) (by decide) 1 (by simp)).mono ?_
      rintro e w8 ⟨A8, n8, c8, rfl, hn8, ha8, he8, hk8⟩
      have K8 : Keep (· = Q) w7 w8 := ((Keep.refl _ w7).alloc _).trans hk8.keep (fun _ _ x => x)
      have HA78 := Lib.hid (HA7.out.keep K8 (fun i hi e => by omega))
      have HA8 := Lib.hid ha8
      have HB8 : Hid (Below w.heap.size w w8) := Lib.hid (HB7.out.trans (K8.below HB7.out.size (fun k hk e => by omega)))
      obtain rfl : n8 = n7 := hn8.trans HN.out.symm
      have hn : Hid (n8 ≤ 1099511627776) := by
        show n8 ≤ 1099511627776
        rw [hn8]
        have hl := (len_feedE ((joinL [b]).map (·.toNat)) .z St.Ok.z).1
        have e : ((joinL [b]).map (·.toNat)).length = b.size := by simp [joinL]
        rw [e] at hl
        exact Nat.le_trans hl (by omega)
      have H8 := Lib.hid (nums8_feeds AlikeE.z [b])
      clear hn8 HN ha8 he8 hk8 K8 HY7 HB7 HA7
      go_wp2_with fail
      refine (esc_same HA78.out HA8.out H8.out hn.out).mono ?_
      rintro e w9 ⟨rfl, k9, hw9⟩
      have HB9 : Hid (Below w.heap.size w w9) := Lib.hid (by rw [hw9]; exact ⟨HB8.out.os, HB8.out.tape, HB8.out.output, HB8.out.size, HB8.out.block⟩)
      clear hw9
      go_wp2_with fail
      go_ret
      exact ⟨rfl, HB9.out⟩

set_option maxRecDepth 100000 in
set_option maxHeartbeats 6400000 in
theorem escStrings_bell (a : ByteArray) (b : ByteArray) (w : World) (h1 : ¬ (a.size : Int) > 300) (h2 : ¬ (b.size : Int) > 200) :
    Calls Try.prog 6 #[.string a, .bool false, .bool true, .string b] w fun e w' => e = .returned (.bool true) ∧ Below w.heap.size w w' := by
  obtain ⟨qn, hqn⟩ : ∃ qn : Nat, min (a.size : Int) 60 = (qn : Int) := ⟨(min (a.size : Int) 60).toNat, by omega⟩
  have hqa : qn ≤ a.size := by omega
  have HT := Lib.hid (text_cut a qn hqn)
  have HQ := Lib.hid hqn
  have ha3 : a.size ≤ 300 := by omega
  have hb3 : b.size ≤ 200 := by omega
  clear hqn
  go_enter Try.func6, Try.ntmps6
  go_wp2_with fail
  refine (alive_any _).mono ?_
  rintro e w1 ⟨rfl, hb⟩
  have HB := Lib.hid hb
  clear hb
  go_wp2_with fail
  go_loopw [9] (fun i wr => ∃ k : Nat, i = .int .i64 k ∧ k ≤ a.size ∧ wr = w1 ∧ Hid (LowTo a k)) (fun i _ => a.size - (intOf i).toNat)
  case atStart => exact ⟨0, rfl, by omega, rfl, fun j _ h => by omega⟩
  case round =>
    obtain ⟨k, rfl, hk, rfl, HP⟩ := hrel
    by_cases hlt : k < a.size
    · by_cases h1 : a[k].toNat < 32
      · have t1 : ((a[k].toNat : Int) < 32) := by omega
        go_wp2_with fail
        go_ret
        exact ⟨rfl, HB.out⟩
      · have t1 : ¬ ((a[k].toNat : Int) < 32) := by omega
        go_wp2_with fail
        go_roundw
        case rel =>
          refine ⟨k + 1, by go_num, by omega, trivial, fun j hj hjk => ?_⟩
          by_cases e : j = k
          · subst e; omega
          · exact HP.out j hj (by omega)
        case measure => simp [intOf]; omega
    · have hkk : k = a.size := by omega
      subst hkk
      have HJ := Lib.hid (string_fed 3 (.inl rfl) 93 (by kernel_rfl) ⟨#[27, 93]⟩ a rfl HP.out)
      clear HP
      go_wp2_with fail
      have hf := esc_feed_new wr.heap.size 0 .z [⟨#[27, 93]⟩, a] #[.string ⟨#[27, 93]⟩, .string a] (wr.alloc (.cells parserCs 37)) (esc_new wr) (by simp) (by simp) (by show 2 + (a.size + 0) ≤ _; omega) (by decide) 2 (by simp)
      rw [show (wr.alloc (.cells parserCs 37)).heap.size = wr.heap.size + 1 from by simp] at hf
      unfold parserCs at hf
      refine hf.mono ?_
      rintro e w2 ⟨A, n, c, rfl, hn, ha, he, hk⟩
      have HB2 : Hid (Below w.heap.size w w2) := by
        have hs := HB.out.size
        have := (((HB.out.alloc hs (.cells parserCs 37)).alloc (by simp; omega) (.cells #[.string ⟨#[27, 93]⟩, .string a] 9)).trans (hk.keep.below (by simp; omega) (fun k hk e => by omega)))
        exact this
      have HE := Lib.hid he
      have hq : w.heap.size ≤ wr.heap.size := HB.out.size
      clear hn ha he hk hf HB
      obtain ⟨p, hp⟩ : ∃ p, p = wr.heap.size := ⟨_, rfl⟩
      rw [← hp] at HE hq
      obtain ⟨b1, hb1⟩ : ∃ b1, b1 = (feedsE .z [⟨#[27, 93]⟩, a]).1 := ⟨_, rfl⟩
      rw [← hb1] at HE HJ
      clear hb1
      have hg1 := (HJ.out.text (.inl rfl)).1
      have hkp : ¬ ((b1.kept : Int) > 76) := by have := (HJ.out.text (.inl rfl)).2.1; omega
      go_wp2_with fail
      rw [← hp]
      refine (esc_ground p 0 _ _ HE.out).mono ?_
      rintro e w3 ⟨rfl, rfl⟩
      rw [hg1]
      go_wp2_with fail
      try rw [← hp]
      refine (esc_kept p 0 _ _ HE.out).mono ?_
      rintro e w4 ⟨rfl, k4, hw4⟩
      have K4 : Keep (fun _ => False) w3 w4 := by rw [hw4]; exact (Keep.refl _ w3).drewN k4
      have HE4 := Lib.hid (HE.out.keep K4 (fun x => x) (fun i x => x.elim))
      have HB4 : Hid (Below w.heap.size w w4) := Lib.hid (HB2.out.trans (K4.below HB2.out.size (fun k hk e => e.elim)))
      clear hw4 K4 hg1
      go_wp2_with fail
      try rw [← hp]
      refine (esc_feed_new p 0 _ [⟨#[7]⟩] #[.string ⟨#[7]⟩] w4 HE4.out (by simp) (by simp) (by decide) (by rw [(HJ.out.text (.inl rfl)).2.2]; omega) 1 (by simp)).mono ?_
      rintro e w5 ⟨A5, n5, c5, rfl, hn5, ha5, he5, hk5⟩
      have K5 : Keep (· = p) w4 w5 := ((Keep.refl _ w4).alloc _).trans hk5.keep (fun _ _ x => x)
      have HB5 : Hid (Below w.heap.size w w5) := Lib.hid (HB4.out.trans (K5.below HB4.out.size (fun k hk e => by omega)))
      have HS := Lib.hid (string_bell a ⟨#[7]⟩ HJ.out rfl)
      rw [HS.out.2] at hn5 ha5
      obtain ⟨g, rfl, hg, hcs⟩ := ha5.cells (by rw [hn5]; simp)
      replace hn5 : n5 = 1 := hn5
      subst hn5
      obtain ⟨s0, -, c0⟩ := hcs 0 _ rfl
      have d00 : w5.cell? ⟨g, 0, none⟩ = some (.int .i64 5) := c0 0 _ rfl
      have d06 : w5.cell? ⟨g, 6, none⟩ = some (.string (a.extract 0 qn)) := by rw [← HT.out]; exact c0 6 _ rfl
      have HE5 := Lib.hid he5
      have HA := Lib.hid HS.out.1
      obtain ⟨b2, hb2⟩ : ∃ b2, b2 = (feedsE b1 [⟨#[7]⟩]).1 := ⟨_, rfl⟩
      rw [← hb2] at HE5 HA
      have hg2 := (AlikeE.at0 HA.out rfl rfl).1
      have hz5 : p < w5.heap.size := HE5.out.lt
      clear ha5 hcs c0 hg he5 hk5 K5 HS hb2 HB4 HE4 HJ hkp
      have hqi := HQ.out
      have hqa2 : (qn : Int) ≤ (a.size : Int) := by omega
      have hqa0 : (0 : Int) ≤ (qn : Int) := by omega
      have hqw : wrap64 (qn : Int) = (qn : Int) := IntWalk.wrap64_in _ (by omega)
      have HGR : Hid (∀ W, Keep (fun _ => False) w5 W → Calls Try.prog 16 #[.pointer (some ⟨p, 0, none⟩)] W fun e w' => e = .returned (.bool true) ∧ w' = W) := Lib.hid (fun W k => by
        have := esc_ground p 0 b2 W (HE5.out.keep k (fun x => x) (fun i x => x.elim))
        rw [hg2] at this
        exact this)
      subst hp
      clear hg2 HE HB2
      go_wp2_with fail
      refine wp_region_noPanic ?_
      refine wp_region_held_drew (S := fun w' => w'.cell? ⟨g, 0, none⟩ = some (.int .i64 5) ∧ w'.cell? ⟨g, 6, none⟩ = some (.string (a.extract 0 qn))) (by kernel_rfl) ⟨d00, d06⟩ (fun hHeld => ?_)
      refine wpAnyH_take (i := 0) (oi := _) (v := ?vra0) rfl (by kernel_rfl) (by kernel_rfl) (by kernel_rfl) (fun _ _ _ h => h) (Or.inl ⟨by rfl, ?hyra0⟩) (by assumption) ?restra0
      case hyra0 => (intro w hSw; (try dsimp only at hSw); (try simp only [List.getElem_toArray, List.getElem_cons_zero, List.getElem_cons_succ]); go_simp; (try with_reducible rfl))
      (try simp only [Act.put, List.setIfInBounds_toArray, List.set_cons_zero, List.set_cons_succ, List.getElem_toArray, List.getElem_cons_zero, List.getElem_cons_succ])
      refine wpAnyH_take (i := 1) (oi := _) (v := ?vra1) rfl (by kernel_rfl) (by kernel_rfl) (by kernel_rfl) (fun _ _ _ h => h) (Or.inl ⟨by rfl, ?hyra1⟩) (by assumption) ?restra1
      case hyra1 => (intro w hSw; (try dsimp only at hSw); (try simp only [List.getElem_toArray, List.getElem_cons_zero, List.getElem_cons_succ]); go_simp; (try with_reducible rfl))
      (try simp only [Act.put, List.setIfInBounds_toArray, List.set_cons_zero, List.set_cons_succ, List.getElem_toArray, List.getElem_cons_zero, List.getElem_cons_succ])
      refine wpAnyH_take (i := 2) (oi := _) (v := ?vra2) rfl (by kernel_rfl) (by kernel_rfl) (by kernel_rfl) (fun _ _ _ h => h) (Or.inl ⟨by rfl, ?hyra2⟩) (by assumption) ?restra2
      case hyra2 => (intro w hSw; (try dsimp only at hSw); (try simp only [List.getElem_toArray, List.getElem_cons_zero, List.getElem_cons_succ]); go_simp; (try with_reducible rfl))
      (try simp only [Act.put, List.setIfInBounds_toArray, List.set_cons_zero, List.set_cons_succ, List.getElem_toArray, List.getElem_cons_zero, List.getElem_cons_succ])
      refine wpAnyH_take (i := 3) (oi := _) (v := ?vra3) rfl (by kernel_rfl) (by kernel_rfl) (by kernel_rfl) (fun _ _ _ h => h) (Or.inl ⟨by rfl, ?hyra3⟩) (by assumption) ?restra3
      case hyra3 => (intro w hSw; (try dsimp only at hSw); (try simp only [List.getElem_toArray, List.getElem_cons_zero, List.getElem_cons_succ]); go_simp; (try with_reducible rfl))
      (try simp only [Act.put, List.setIfInBounds_toArray, List.set_cons_zero, List.set_cons_succ, List.getElem_toArray, List.getElem_cons_zero, List.getElem_cons_succ])
      refine wpAnyH_take (i := 4) (oi := _) (v := ?vra4) rfl (by kernel_rfl) (by kernel_rfl) (by kernel_rfl) (fun _ _ _ h => h) (Or.inl ⟨by rfl, ?hyra4⟩) (by assumption) ?restra4
      case hyra4 => (intro w hSw; (try dsimp only at hSw); (try simp only [List.getElem_toArray, List.getElem_cons_zero, List.getElem_cons_succ]); go_simp; (try with_reducible rfl))
      (try simp only [Act.put, List.setIfInBounds_toArray, List.set_cons_zero, List.set_cons_succ, List.getElem_toArray, List.getElem_cons_zero, List.getElem_cons_succ])
      refine wpAnyH_take (i := 5) (oi := _) (v := ?vra5) rfl (by kernel_rfl) (by kernel_rfl) (by kernel_rfl) (fun _ _ _ h => h) (Or.inl ⟨by rfl, ?hyra5⟩) (by assumption) ?restra5
      case hyra5 => (intro w hSw; (try dsimp only at hSw); (try simp only [List.getElem_toArray, List.getElem_cons_zero, List.getElem_cons_succ]); go_simp; (try with_reducible rfl))
      (try simp only [Act.put, List.setIfInBounds_toArray, List.set_cons_zero, List.set_cons_succ, List.getElem_toArray, List.getElem_cons_zero, List.getElem_cons_succ])
      refine wpAnyH_take (i := 6) (oi := _) (v := ?vra6) rfl (by kernel_rfl) (by kernel_rfl) (by kernel_rfl) (fun _ _ _ h => h) (Or.inl ⟨by rfl, ?hyra6⟩) (by assumption) ?restra6
      case hyra6 => (intro w hSw; (try dsimp only at hSw); (try simp only [List.getElem_toArray, List.getElem_cons_zero, List.getElem_cons_succ]); go_simp; (try with_reducible rfl))
      (try simp only [Act.put, List.setIfInBounds_toArray, List.set_cons_zero, List.set_cons_succ, List.getElem_toArray, List.getElem_cons_zero, List.getElem_cons_succ])
      refine wpAnyH_take (i := 7) (oi := _) (v := ?vra7) rfl (by kernel_rfl) (by kernel_rfl) (by kernel_rfl) (fun _ _ _ h => h) (Or.inl ⟨by rfl, ?hyra7⟩) (by assumption) ?restra7
      case hyra7 => (intro w hSw; (try dsimp only at hSw); (try simp only [List.getElem_toArray, List.getElem_cons_zero, List.getElem_cons_succ]); go_simp; (try with_reducible rfl))
      (try simp only [Act.put, List.setIfInBounds_toArray, List.set_cons_zero, List.set_cons_succ, List.getElem_toArray, List.getElem_cons_zero, List.getElem_cons_succ])
      refine wpAnyH_take (i := 8) (oi := _) (v := ?vra8) rfl (by kernel_rfl) (by kernel_rfl) (by kernel_rfl) (fun _ _ _ h => h) (Or.inl ⟨by rfl, ?hyra8⟩) (by assumption) ?restra8
      case hyra8 => (intro w hSw; (try dsimp only at hSw); (try simp only [List.getElem_toArray, List.getElem_cons_zero, List.getElem_cons_succ]); go_simp; (try with_reducible rfl))
      (try simp only [Act.put, List.setIfInBounds_toArray, List.set_cons_zero, List.set_cons_succ, List.getElem_toArray, List.getElem_cons_zero, List.getElem_cons_succ])
      refine wpAnyH_take (i := 9) (oi := _) (v := ?vra9) rfl (by kernel_rfl) (by kernel_rfl) (by kernel_rfl) (fun _ _ _ h => h) (Or.inl ⟨by rfl, ?hyra9⟩) (by assumption) ?restra9
      case hyra9 => (intro w hSw; (try dsimp only at hSw); (try simp only [List.getElem_toArray, List.getElem_cons_zero, List.getElem_cons_succ]); go_simp; (try with_reducible rfl))
      (try simp only [Act.put, List.setIfInBounds_toArray, List.set_cons_zero, List.set_cons_succ, List.getElem_toArray, List.getElem_cons_zero, List.getElem_cons_succ])
      refine wpAnyH_take (i := 10) (oi := _) (v := ?vra10) rfl (by kernel_rfl) (by kernel_rfl) (by kernel_rfl) (fun _ _ _ h => h) (Or.inl ⟨by rfl, ?hyra10⟩) (by assumption) ?restra10
      case hyra10 => (intro w hSw; (try dsimp only at hSw); (try simp only [List.getElem_toArray, List.getElem_cons_zero, List.getElem_cons_succ]); go_simp; (try with_reducible rfl))
      (try simp only [Act.put, List.setIfInBounds_toArray, List.set_cons_zero, List.set_cons_succ, List.getElem_toArray, List.getElem_cons_zero, List.getElem_cons_succ])
      refine wpAnyH_take (i := 11) (oi := _) (v := ?vra11) rfl (by kernel_rfl) (by kernel_rfl) (by kernel_rfl) (fun _ _ _ h => h) (Or.inl ⟨by rfl, ?hyra11⟩) (by assumption) ?restra11
      case hyra11 => (intro w hSw; (try dsimp only at hSw); (try simp only [List.getElem_toArray, List.getElem_cons_zero, List.getElem_cons_succ]); go_simp; (try with_reducible rfl))
      (try simp only [Act.put, List.setIfInBounds_toArray, List.set_cons_zero, List.set_cons_succ, List.getElem_toArray, List.getElem_cons_zero, List.getElem_cons_succ])
      refine wpAnyH_take (i := 12) (oi := _) (v := ?vra12) rfl (by kernel_rfl) (by kernel_rfl) (by kernel_rfl) (fun _ _ _ h => h) (Or.inl ⟨by rfl, ?hyra12⟩) (by assumption) ?restra12
      case hyra12 => (intro w hSw; (try dsimp only at hSw); (try simp only [List.getElem_toArray, List.getElem_cons_zero, List.getElem_cons_succ]); go_simp; (try with_reducible rfl))
      (try simp only [Act.put, List.setIfInBounds_toArray, List.set_cons_zero, List.set_cons_succ, List.getElem_toArray, List.getElem_cons_zero, List.getElem_cons_succ])
      refine wpAnyH_take (i := 13) (oi := _) (v := ?vra13) rfl (by kernel_rfl) (by kernel_rfl) (by kernel_rfl) (fun _ _ _ h => h) (Or.inl ⟨by rfl, ?hyra13⟩) (by assumption) ?restra13
      case hyra13 => (intro w hSw; (try dsimp only at hSw); (try simp only [List.getElem_toArray, List.getElem_cons_zero, List.getElem_cons_succ]); go_simp; (try with_reducible rfl))
      (try simp only [Act.put, List.setIfInBounds_toArray, List.set_cons_zero, List.set_cons_succ, List.getElem_toArray, List.getElem_cons_zero, List.getElem_cons_succ])
      refine wpAnyH_take (i := 14) (oi := _) (v := ?vra14) rfl (by kernel_rfl) (by kernel_rfl) (by kernel_rfl) (fun _ _ _ h => h) (Or.inl ⟨by rfl, ?hyra14⟩) (by assumption) ?restra14
      case hyra14 => (intro w hSw; (try dsimp only at hSw); (try simp only [List.getElem_toArray, List.getElem_cons_zero, List.getElem_cons_succ]); go_simp; (try with_reducible rfl))
      (try simp only [Act.put, List.setIfInBounds_toArray, List.set_cons_zero, List.set_cons_succ, List.getElem_toArray, List.getElem_cons_zero, List.getElem_cons_succ])
      refine wpAnyH_take (i := 15) (oi := _) (v := ?vra15) rfl (by kernel_rfl) (by kernel_rfl) (by kernel_rfl) (fun _ _ _ h => h) (Or.inl ⟨by rfl, ?hyra15⟩) (by assumption) ?restra15
      case hyra15 => (intro w hSw; (try dsimp only at hSw); (try simp only [List.getElem_toArray, List.getElem_cons_zero, List.getElem_cons_succ]); go_simp; (try with_reducible rfl))
      (try simp only [Act.put, List.setIfInBounds_toArray, List.set_cons_zero, List.set_cons_succ, List.getElem_toArray, List.getElem_cons_zero, List.getElem_cons_succ])
      refine wpAnyH_take (i := 16) (oi := _) (v := ?vra16) rfl (by kernel_rfl) (by kernel_rfl) (by kernel_rfl) (fun _ _ _ h => h) (Or.inl ⟨by rfl, ?hyra16⟩) (by assumption) ?restra16
      case hyra16 => (intro w hSw; (try dsimp only at hSw); (try simp only [List.getElem_toArray, List.getElem_cons_zero, List.getElem_cons_succ]); go_simp; (try with_reducible rfl))
      (try simp only [Act.put, List.setIfInBounds_toArray, List.set_cons_zero, List.set_cons_succ, List.getElem_toArray, List.getElem_cons_zero, List.getElem_cons_succ])
      refine wpAnyH_take (i := 17) (oi := _) (v := ?vra17) rfl (by kernel_rfl) (by kernel_rfl) (by kernel_rfl) (fun _ _ _ h => h) (Or.inl ⟨by rfl, ?hyra17⟩) (by assumption) ?restra17
      case hyra17 => (intro w hSw; (try dsimp only at hSw); (try simp only [List.getElem_toArray, List.getElem_cons_zero, List.getElem_cons_succ]); go_simp; (try with_reducible rfl))
      (try simp only [Act.put, List.setIfInBounds_toArray, List.set_cons_zero, List.set_cons_succ, List.getElem_toArray, List.getElem_cons_zero, List.getElem_cons_succ])
      refine wpAnyH_take (i := 18) (oi := _) (v := ?vra18) rfl (by kernel_rfl) (by kernel_rfl) (by kernel_rfl) (fun _ _ _ h => h) (Or.inl ⟨by rfl, ?hyra18⟩) (by assumption) ?restra18
      case hyra18 => (intro w hSw; (try dsimp only at hSw); (try simp only [List.getElem_toArray, List.getElem_cons_zero, List.getElem_cons_succ]); go_simp; (try with_reducible rfl))
      (try simp only [Act.put, List.setIfInBounds_toArray, List.set_cons_zero, List.set_cons_succ, List.getElem_toArray, List.getElem_cons_zero, List.getElem_cons_succ])
      refine wpAnyH_take (i := 19) (oi := _) (v := ?vra19) rfl (by kernel_rfl) (by kernel_rfl) (by kernel_rfl) (fun _ _ _ h => h) (Or.inl ⟨by rfl, ?hyra19⟩) (by assumption) ?restra19
      case hyra19 => (intro w hSw; (try dsimp only at hSw); (try simp only [List.getElem_toArray, List.getElem_cons_zero, List.getElem_cons_succ]); go_simp; (try with_reducible rfl))
      (try simp only [Act.put, List.setIfInBounds_toArray, List.set_cons_zero, List.set_cons_succ, List.getElem_toArray, List.getElem_cons_zero, List.getElem_cons_succ])
      refine wpAnyH_take (i := 20) (oi := _) (v := ?vra20) rfl (by kernel_rfl) (by kernel_rfl) (by kernel_rfl) (fun _ _ _ h => h) (Or.inl ⟨by rfl, ?hyra20⟩) (by assumption) ?restra20
      case hyra20 => (intro w hSw; (try dsimp only at hSw); (try simp only [List.getElem_toArray, List.getElem_cons_zero, List.getElem_cons_succ]); go_simp; (try with_reducible rfl))
      (try simp only [Act.put, List.setIfInBounds_toArray, List.set_cons_zero, List.set_cons_succ, List.getElem_toArray, List.getElem_cons_zero, List.getElem_cons_succ])
      refine wpAnyH_take (i := 21) (oi := _) (v := ?vra21) rfl (by kernel_rfl) (by kernel_rfl) (by kernel_rfl) (fun _ _ _ h => h) (Or.inl ⟨by rfl, ?hyra21⟩) (by assumption) ?restra21
      case hyra21 => (intro w hSw; (try dsimp only at hSw); (try simp only [List.getElem_toArray, List.getElem_cons_zero, List.getElem_cons_succ]); go_simp; (try with_reducible rfl))
      (try simp only [Act.put, List.setIfInBounds_toArray, List.set_cons_zero, List.set_cons_succ, List.getElem_toArray, List.getElem_cons_zero, List.getElem_cons_succ])
      refine wpAnyH_take (i := 22) (oi := _) (v := ?vra22) rfl (by kernel_rfl) (by kernel_rfl) (by kernel_rfl) (fun _ _ _ h => h) (Or.inl ⟨by rfl, ?hyra22⟩) (by assumption) ?restra22
      case hyra22 => (intro w hSw; (try dsimp only at hSw); (try simp only [List.getElem_toArray, List.getElem_cons_zero, List.getElem_cons_succ]); go_simp; (try with_reducible rfl))
      (try simp only [Act.put, List.setIfInBounds_toArray, List.set_cons_zero, List.set_cons_succ, List.getElem_toArray, List.getElem_cons_zero, List.getElem_cons_succ])
      refine wpAnyH_take (i := 23) (oi := _) (v := ?vra23) rfl (by kernel_rfl) (by kernel_rfl) (by kernel_rfl) (fun _ _ _ h => h) (Or.inl ⟨by rfl, ?hyra23⟩) (by assumption) ?restra23
      case hyra23 => (intro w hSw; (try dsimp only at hSw); (try simp only [List.getElem_toArray, List.getElem_cons_zero, List.getElem_cons_succ]); go_simp; (try with_reducible rfl))
      (try simp only [Act.put, List.setIfInBounds_toArray, List.set_cons_zero, List.set_cons_succ, List.getElem_toArray, List.getElem_cons_zero, List.getElem_cons_succ])
      refine wpAnyH_take (i := 24) (oi := _) (v := ?vra24) rfl (by kernel_rfl) (by kernel_rfl) (by kernel_rfl) (fun _ _ _ h => h) (Or.inl ⟨by rfl, ?hyra24⟩) (by assumption) ?restra24
      case hyra24 => (intro w hSw; (try dsimp only at hSw); (try simp only [List.getElem_toArray, List.getElem_cons_zero, List.getElem_cons_succ]); go_simp; (try with_reducible rfl))
      (try simp only [Act.put, List.setIfInBounds_toArray, List.set_cons_zero, List.set_cons_succ, List.getElem_toArray, List.getElem_cons_zero, List.getElem_cons_succ])
      refine wpAnyH_take (i := 25) (oi := _) (v := ?vra25) rfl (by kernel_rfl) (by kernel_rfl) (by kernel_rfl) (fun _ _ _ h => h) (Or.inl ⟨by rfl, ?hyra25⟩) (by assumption) ?restra25
      case hyra25 => (intro w hSw; (try dsimp only at hSw); (try simp only [List.getElem_toArray, List.getElem_cons_zero, List.getElem_cons_succ]); go_simp; (try with_reducible rfl))
      (try simp only [Act.put, List.setIfInBounds_toArray, List.set_cons_zero, List.set_cons_succ, List.getElem_toArray, List.getElem_cons_zero, List.getElem_cons_succ])
      refine wpAnyH_take (i := 26) (oi := _) (v := ?vra26) rfl (by kernel_rfl) (by kernel_rfl) (by kernel_rfl) (fun _ _ _ h => h) (Or.inl ⟨by rfl, ?hyra26⟩) (by assumption) ?restra26
      case hyra26 => (intro w hSw; (try dsimp only at hSw); (try simp only [List.getElem_toArray, List.getElem_cons_zero, List.getElem_cons_succ]); go_simp; (try with_reducible rfl))
      (try simp only [Act.put, List.setIfInBounds_toArray, List.set_cons_zero, List.set_cons_succ, List.getElem_toArray, List.getElem_cons_zero, List.getElem_cons_succ])
      refine wpAnyH_take (i := 27) (oi := _) (v := ?vra27) rfl (by kernel_rfl) (by kernel_rfl) (by kernel_rfl) (fun _ _ _ h => h) (Or.inl ⟨by rfl, ?hyra27⟩) (by assumption) ?restra27
      case hyra27 => (intro w hSw; (try dsimp only at hSw); (try simp only [List.getElem_toArray, List.getElem_cons_zero, List.getElem_cons_succ]); go_simp; (try with_reducible rfl))
      (try simp only [Act.put, List.setIfInBounds_toArray, List.set_cons_zero, List.set_cons_succ, List.getElem_toArray, List.getElem_cons_zero, List.getElem_cons_succ])
      refine wpAnyH_take (i := 28) (oi := _) (v := undef) rfl (by kernel_rfl) (by kernel_rfl) (by kernel_rfl) (fun _ _ _ h => h) (Or.inr ⟨by rfl, rfl⟩) (by assumption) ?_
      (try simp only [Act.put, List.setIfInBounds_toArray, List.set_cons_zero, List.set_cons_succ, List.getElem_toArray, List.getElem_cons_zero, List.getElem_cons_succ])
      refine wpAnyH_take (i := 29) (oi := _) (v := undef) rfl (by kernel_rfl) (by kernel_rfl) (by kernel_rfl) (fun _ _ _ h => h) (Or.inr ⟨by rfl, rfl⟩) (by assumption) ?_
      (try simp only [Act.put, List.setIfInBounds_toArray, List.set_cons_zero, List.set_cons_succ, List.getElem_toArray, List.getElem_cons_zero, List.getElem_cons_succ])
      refine wpAnyH_take (i := 30) (oi := _) (v := undef) rfl (by kernel_rfl) (by kernel_rfl) (by kernel_rfl) (fun _ _ _ h => h) (Or.inr ⟨by rfl, rfl⟩) (by assumption) ?_
      (try simp only [Act.put, List.setIfInBounds_toArray, List.set_cons_zero, List.set_cons_succ, List.getElem_toArray, List.getElem_cons_zero, List.getElem_cons_succ])
      refine wpAnyH_take (i := 31) (oi := _) (v := undef) rfl (by kernel_rfl) (by kernel_rfl) (by kernel_rfl) (fun _ _ _ h => h) (Or.inr ⟨by rfl, rfl⟩) (by assumption) ?_
      (try simp only [Act.put, List.setIfInBounds_toArray, List.set_cons_zero, List.set_cons_succ, List.getElem_toArray, List.getElem_cons_zero, List.getElem_cons_succ])
      refine wpAnyH_take (i := 32) (oi := _) (v := undef) rfl (by kernel_rfl) (by kernel_rfl) (by kernel_rfl) (fun _ _ _ h => h) (Or.inr ⟨by rfl, rfl⟩) (by assumption) ?_
      (try simp only [Act.put, List.setIfInBounds_toArray, List.set_cons_zero, List.set_cons_succ, List.getElem_toArray, List.getElem_cons_zero, List.getElem_cons_succ])
      refine wpAnyH_take (i := 33) (oi := _) (v := undef) rfl (by kernel_rfl) (by kernel_rfl) (by kernel_rfl) (fun _ _ _ h => h) (Or.inr ⟨by rfl, rfl⟩) (by assumption) ?_
      (try simp only [Act.put, List.setIfInBounds_toArray, List.set_cons_zero, List.set_cons_succ, List.getElem_toArray, List.getElem_cons_zero, List.getElem_cons_succ])
      refine wpAnyH_take (i := 34) (oi := _) (v := undef) rfl (by kernel_rfl) (by kernel_rfl) (by kernel_rfl) (fun _ _ _ h => h) (Or.inr ⟨by rfl, rfl⟩) (by assumption) ?_
      (try simp only [Act.put, List.setIfInBounds_toArray, List.set_cons_zero, List.set_cons_succ, List.getElem_toArray, List.getElem_cons_zero, List.getElem_cons_succ])
      refine wpAnyH_take (i := 35) (oi := _) (v := undef) rfl (by kernel_rfl) (by kernel_rfl) (by kernel_rfl) (fun _ _ _ h => h) (Or.inr ⟨by rfl, rfl⟩) (by assumption) ?_
      (try simp only [Act.put, List.setIfInBounds_toArray, List.set_cons_zero, List.set_cons_succ, List.getElem_toArray, List.getElem_cons_zero, List.getElem_cons_succ])
      refine wpAnyH_take (i := 36) (oi := _) (v := undef) rfl (by kernel_rfl) (by kernel_rfl) (by kernel_rfl) (fun _ _ _ h => h) (Or.inr ⟨by rfl, rfl⟩) (by assumption) ?_
      (try simp only [Act.put, List.setIfInBounds_toArray, List.set_cons_zero, List.set_cons_succ, List.getElem_toArray, List.getElem_cons_zero, List.getElem_cons_succ])
      refine wpAnyH_take (i := 37) (oi := _) (v := undef) rfl (by kernel_rfl) (by kernel_rfl) (by kernel_rfl) (fun _ _ _ h => h) (Or.inr ⟨by rfl, rfl⟩) (by assumption) ?_
      (try simp only [Act.put, List.setIfInBounds_toArray, List.set_cons_zero, List.set_cons_succ, List.getElem_toArray, List.getElem_cons_zero, List.getElem_cons_succ])
      refine wpAnyH_take (i := 38) (oi := _) (v := undef) rfl (by kernel_rfl) (by kernel_rfl) (by kernel_rfl) (fun _ _ _ h => h) (Or.inr ⟨by rfl, rfl⟩) (by assumption) ?_
      (try simp only [Act.put, List.setIfInBounds_toArray, List.set_cons_zero, List.set_cons_succ, List.getElem_toArray, List.getElem_cons_zero, List.getElem_cons_succ])
      refine wpAnyH_take (i := 39) (oi := _) (v := undef) rfl (by kernel_rfl) (by kernel_rfl) (by kernel_rfl) (fun _ _ _ h => h) (Or.inr ⟨by rfl, rfl⟩) (by assumption) ?_
      (try simp only [Act.put, List.setIfInBounds_toArray, List.set_cons_zero, List.set_cons_succ, List.getElem_toArray, List.getElem_cons_zero, List.getElem_cons_succ])
      refine wpAnyH_take (i := 40) (oi := _) (v := ?vra40) rfl (by kernel_rfl) (by kernel_rfl) (by kernel_rfl) (fun _ _ _ h => h) (Or.inl ⟨by rfl, ?hyra40⟩) (by assumption) ?restra40
      case hyra40 => (intro w hSw; (try dsimp only at hSw); (try simp only [List.getElem_toArray, List.getElem_cons_zero, List.getElem_cons_succ]); go_simp; (try with_reducible rfl))
      (try simp only [Act.put, List.setIfInBounds_toArray, List.set_cons_zero, List.set_cons_succ, List.getElem_toArray, List.getElem_cons_zero, List.getElem_cons_succ])
      refine wpAnyH_take (i := 41) (oi := _) (v := ?vra41) rfl (by kernel_rfl) (by kernel_rfl) (by kernel_rfl) (fun _ _ _ h => h) (Or.inl ⟨by rfl, ?hyra41⟩) (by assumption) ?restra41
      case hyra41 => (intro w hSw; (try dsimp only at hSw); (try simp only [List.getElem_toArray, List.getElem_cons_zero, List.getElem_cons_succ]); go_simp; (try with_reducible rfl))
      (try simp only [Act.put, List.setIfInBounds_toArray, List.set_cons_zero, List.set_cons_succ, List.getElem_toArray, List.getElem_cons_zero, List.getElem_cons_succ])
      refine wpAnyH_take (i := 42) (oi := _) (v := ?vra42) rfl (by kernel_rfl) (by kernel_rfl) (by kernel_rfl) (fun _ _ _ h => h) (Or.inl ⟨by rfl, ?hyra42⟩) (by assumption) ?restra42
      case hyra42 => (intro w hSw; (try dsimp only at hSw); (try simp only [List.getElem_toArray, List.getElem_cons_zero, List.getElem_cons_succ]); go_simp; (try with_reducible rfl))
      (try simp only [Act.put, List.setIfInBounds_toArray, List.set_cons_zero, List.set_cons_succ, List.getElem_toArray, List.getElem_cons_zero, List.getElem_cons_succ])
      refine wpAnyH_take (i := 43) (oi := _) (v := ?vra43) rfl (by kernel_rfl) (by kernel_rfl) (by kernel_rfl) (fun _ _ _ h => h) (Or.inl ⟨by rfl, ?hyra43⟩) (by assumption) ?restra43
      case hyra43 => (intro w hSw; (try dsimp only at hSw); (try simp only [List.getElem_toArray, List.getElem_cons_zero, List.getElem_cons_succ]); go_simp; (try with_reducible rfl))
      (try simp only [Act.put, List.setIfInBounds_toArray, List.set_cons_zero, List.set_cons_succ, List.getElem_toArray, List.getElem_cons_zero, List.getElem_cons_succ])
      refine wpAnyH_ready (rs := [44]) (by kernel_rfl) (by simp) ?_
      refine AllReadyH.cons (o := _) rfl (fun K hK => ?_) AllReadyH.nil
      (try simp only [List.getElem_toArray, List.getElem_cons_zero, List.getElem_cons_succ])
      go_simp
      (first | refine (HGR.out _ ((Keep.refl _ w5).drew)).mono ?_ | refine (HGR.out _ (((Keep.refl _ w5).drew).drew)).mono ?_); rintro e w6 ⟨rfl, rfl⟩
      refine hK.out _ _ ?_ (fun hHeld => ?_)
      · exact ⟨d00, d06⟩
      clear hK K
      (try simp only [Act.put, List.setIfInBounds_toArray, List.set_cons_zero, List.set_cons_succ, List.getElem_toArray, List.getElem_cons_zero, List.getElem_cons_succ])
      refine wpAnyH_take (i := 45) (oi := _) (v := ?vra45) rfl (by kernel_rfl) (by kernel_rfl) (by kernel_rfl) (fun _ _ _ h => h) (Or.inl ⟨by rfl, ?hyra45⟩) (by assumption) ?restra45
      case hyra45 => (intro w hSw; (try dsimp only at hSw); (try simp only [List.getElem_toArray, List.getElem_cons_zero, List.getElem_cons_succ]); go_simp; (try with_reducible rfl))
      (try simp only [Act.put, List.setIfInBounds_toArray, List.set_cons_zero, List.set_cons_succ, List.getElem_toArray, List.getElem_cons_zero, List.getElem_cons_succ])
      refine wpAnyH_take (i := 46) (oi := _) (v := ?vra46) rfl (by kernel_rfl) (by kernel_rfl) (by kernel_rfl) (fun _ _ _ h => h) (Or.inl ⟨by rfl, ?hyra46⟩) (by assumption) ?restra46
      case hyra46 => (intro w hSw; (try dsimp only at hSw); (try simp only [List.getElem_toArray, List.getElem_cons_zero, List.getElem_cons_succ]); go_simp; (try with_reducible rfl))
      (try simp only [Act.put, List.setIfInBounds_toArray, List.set_cons_zero, List.set_cons_succ, List.getElem_toArray, List.getElem_cons_zero, List.getElem_cons_succ])
      refine wpAnyH_done (by kernel_rfl) ?_ _
      refine NoPanic.normal ?_
      go_upto_region 25 with fail
      obtain ⟨p, hp⟩ : ∃ p, p = wr.heap.size := ⟨_, rfl⟩
      obtain ⟨Q, hQ⟩ : ∃ Q, Q = w5.heap.size := ⟨_, rfl⟩
      obtain ⟨w6, hw6⟩ : ∃ w6, w6 = (w5.alloc (.cells parserCs 37)).drew := ⟨_, rfl⟩
      have KD : Keep (fun _ => False) w5 w6 := by rw [hw6]; exact ((Keep.refl _ w5).alloc _).drew
      have HE6 : Hid (EscAt w6 p 0 b2) := Lib.hid (by rw [hp]; exact HE5.out.keep KD (fun x => x) (fun i x => x.elim))
      have HY6 : Hid (EscAt w6 Q 0 .z) := Lib.hid (by rw [hw6, hQ]; exact (esc_new w5).keep ((Keep.refl (fun _ => False) _).drew) (fun x => x) (fun i x => x.elim))
      have HC6 : Hid (Cell w6 Q 0 (.pointer none)) := Lib.hid (by rw [hw6, hQ]; exact Cell.box (w := w5) (t := 37) (cs := parserCs) 0 (v := .pointer none) rfl)
      have HB6 : Hid (Below w.heap.size w w6) := Lib.hid (HB5.out.trans (KD.below HB5.out.size (fun k hk e => e.elim)))
      have hpQ : p < Q := by rw [hp, hQ]; exact hz5
      have hz6 : Q < w6.heap.size := by rw [hw6, hQ]; simp
      rw [← hp] at hq
      unfold parserCs at hw6
      rw [← hw6, ← hp, ← hQ]
      clear hw6 hp hQ KD d00 d06 HGR hHeld HE5 hz5 hqi HB5
      go_wp2_with fail
      refine (esc_feed_new p 0 _ [b] #[.string b] w6 HE6.out (by simp) (by simp) (by simp [sum]; omega) (by rw [HA.out.cameZ rfl]; omega) 1 (by simp)).mono ?_
      rintro e w7 ⟨A7, n7, c7, rfl, hn7, ha7, he7, hk7⟩
      have K7 : Keep (· = p) w6 w7 := ((Keep.refl _ w6).alloc _).trans hk7.keep (fun _ _ x => x)
      have HY7 : Hid (EscAt w7 Q 0 .z) := Lib.hid (HY6.out.keep K7 (by omega) (fun i hi R hR => by rw [HC6.out.1] at hR; cases hR))
      have HB7 : Hid (Below w.heap.size w w7) := Lib.hid (HB6.out.trans (K7.below HB6.out.size (fun k hk e => by omega)))
      rw [sameZ_fed HA.out AlikeE.z] at hn7 ha7
      have HN := Lib.hid hn7
      have ha7' := ha7.base (B2 := w6.heap.size) (by simp)
      have HA7 := Lib.hid ha7'
      clear hn7 ha7 ha7' he7 hk7 K7 HY6 HC6 HB6 HE6 HA
      go_wp2_with fail
      refine (esc_feed_new Q 0 .z [b] #[.string b] w7 HY7.out (by simp) (by simp) (by simp [sum]; omega) (by decide) 1 (by simp)).mono ?_
      rintro e w8 ⟨A8, n8, c8, rfl, hn8, ha8, he8, hk8⟩
      have K8 : Keep (· = Q) w7 w8 := ((Keep.refl _ w7).alloc _).trans hk8.keep (fun _ _ x => x)
      have HA78 := Lib.hid (HA7.out.keep K8 (fun i hi e => by omega))
      have HA8 := Lib.hid ha8
      have HB8 : Hid (Below w.heap.size w w8) := Lib.hid (HB7.out.trans (K8.below HB7.out.size (fun k hk e => by omega)))
      obtain rfl : n8 = n7 := hn8.trans HN.out.symm
      have hn : Hid (n8 ≤ 1099511627776) := by
        show n8 ≤ 1099511627776
        rw [hn8]
        have hl := (len_feedE ((joinL [b]).map (·.toNat)) .z St.Ok.z).1
        have e : ((joinL [b]).map (·.toNat)).length = b.size := by simp [joinL]
        rw [e] at hl
        exact Nat.le_trans hl (by omega)
      have H8 := Lib.hid (nums8_feeds AlikeE.z [b])
      clear hn8 HN ha8 he8 hk8 K8 HY7 HB7 HA7
      go_wp2_with fail
      refine (esc_same HA78.out HA8.out H8.out hn.out).mono ?_
      rintro e w9 ⟨rfl, k9, hw9⟩
      have HB9 : Hid (Below w.heap.size w w9) := Lib.hid (by rw [hw9]; exact ⟨HB8.out.os, HB8.out.tape, HB8.out.output, HB8.out.size, HB8.out.block⟩)
      clear hw9
      go_wp2_with fail
      go_ret
      exact ⟨rfl, HB9.out⟩

theorem walk_EscStrings (a : ByteArray) (wa : a.size ≤ maxLen) (dcs bell : Bool) (b : ByteArray) (wb : b.size ≤ maxLen) (w : World) :
    Calls Try.prog 6 #[.string a, .bool dcs, .bool bell, .string b] w fun e w' => e = .returned (.bool true) ∧ Below w.heap.size w w' := by
  by_cases h1 : (a.size : Int) > 300
  · exact escStrings_early a dcs bell b w (.inl h1)
  by_cases h2 : (b.size : Int) > 200
  · exact escStrings_early a dcs bell b w (.inr ⟨h1, h2⟩)
  cases dcs with
  | true => exact escStrings_dcs a bell b w h1 h2
  | false =>
    cases bell with
    | true => exact escStrings_bell a b w h1 h2
    | false => exact escStrings_osc a b w h1 h2

end Go.Proofs.Ythphnjilbpidgaa
