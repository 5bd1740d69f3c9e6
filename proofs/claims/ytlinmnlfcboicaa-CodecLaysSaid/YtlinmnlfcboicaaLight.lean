/- pontoonbook.Room, and the statements' Light of chapter 1. Own work. -/
import Derived.Test.YtlinmnlfcboicaaAlive
import Derived.Test.YtlinmnlfcboicaaOps
import Derived.Deep.RegionHeld3
namespace Go.Proofs.Ytlinmnlfcboicaa
set_option linter.unusedVariables false
open Go.RowKit

/-- What Room tells. -/
def roomF : Int → List Int → Int
  | l, [] => l
  | l, x :: r => if l < 0 ∨ l < x then -1 else roomF (l - x) r

theorem roomF_neg (l : Int) (x : Int) (r : List Int) (h : l < 0 ∨ l < x) : roomF l (x :: r) = -1 := if_pos h
theorem roomF_go (l : Int) (x : Int) (r : List Int) (h1 : 0 ≤ l) (h2 : x ≤ l) : roomF l (x :: r) = roomF (l - x) r := if_neg (by omega)
theorem roomF_facts (xs : List Int) : ∀ l, (∀ x ∈ xs, 0 ≤ x) → -1 ≤ l → -1 ≤ roomF l xs ∧ roomF l xs ≤ max l (-1) ∧ (0 ≤ roomF l xs → 0 ≤ l ∧ ∀ x ∈ xs, x ≤ l) := by
  induction xs with
  | nil => intro l _ hl; simp only [roomF]; exact ⟨hl, by omega, fun h => ⟨h, by simp⟩⟩
  | cons x r ih =>
    intro l hx hl
    by_cases h : l < 0 ∨ l < x
    · rw [roomF_neg l x r h]; exact ⟨by omega, by omega, fun h => absurd h (by omega)⟩
    · rw [roomF_go l x r (by omega) (by omega)]
      have h0 := hx x (by simp)
      obtain ⟨h1, h2, h3⟩ := ih (l - x) (fun y hy => hx y (by simp [hy])) (by omega)
      refine ⟨h1, by omega, fun h4 => ⟨by omega, fun y hy => ?_⟩⟩
      rcases List.mem_cons.1 hy with e | e
      · omega
      · have := (h3 h4).2 y e; omega
theorem roomF_one (l x : Int) (h : 0 ≤ roomF l [x]) : roomF l [x] = l - x ∧ 0 ≤ l := by
  by_cases h1 : l < 0 ∨ l < x
  · rw [roomF_neg l x [] h1] at h; omega
  · rw [roomF_go l x [] (by omega) (by omega)]; exact ⟨rfl, by omega⟩

theorem drop_next {α : Type} {xs : List α} {k : Nat} {x : α} (h : xs[k]? = some x) : xs.drop k = x :: xs.drop (k + 1) := by
  have hk : k < xs.length := by
    rcases Nat.lt_or_ge k xs.length with h1 | h1
    · exact h1
    · rw [List.getElem?_eq_none h1] at h; cases h
  rw [List.drop_eq_getElem_cons hk]
  rw [List.getElem?_eq_getElem hk] at h
  injection h with h
  rw [h]

theorem slice_drew {w : World} {B : Option Addr} {vs : List Value} {S : Nat → Prop} (h : SliceAt w B vs S) : SliceAt w.drew B vs S := h

set_option maxRecDepth 100000 in
set_option maxHeartbeats 800000 in
theorem room_any (B : Option Addr) (n cap : Nat) (xs : List Int) (l : Int) (w : World) (hx : SliceAt w B (xs.map (Value.int .i64)) (fun _ => False)) (hn : xs.length = n) (hxs : ∀ x ∈ xs, 0 ≤ x ∧ x ≤ 9223372036854775807) (hl0 : -1 ≤ l) (hl1 : l ≤ 9223372036854775807) (hsm : n ≤ 9223372036854775807) :
    Calls Try.prog 37 #[.int .i64 l, .slice B n cap] w fun r w' => r = .returned (.int .i64 (roomF l xs)) ∧ w = w' := by
  have HX := Lib.hid hx
  have HN := Lib.hid hn
  have HB := Lib.hid hxs
  clear hx hn hxs
  go_enter Try.func37, Try.ntmps37
  go_wp2_with fail
  go_loop [0, 5] (fun a i => ∃ (k : Nat) (m : Int), k ≤ n ∧ i = .int .i64 k ∧ a = .int .i64 m ∧ -1 ≤ m ∧ m ≤ 9223372036854775807 ∧ Hid (roomF m (xs.drop k) = roomF l xs)) (fun _ i => n - (intOf i).toNat)
  case atStart => exact ⟨0, l, by omega, rfl, rfl, hl0, hl1, rfl⟩
  case round =>
    obtain ⟨k, m, hk, rfl, rfl, hm0, hm1, hd⟩ := hrel
    by_cases hlt : k < n
    · obtain ⟨x, hxk⟩ : ∃ x, xs[k]? = some x := ⟨xs[k]'(by rw [HN.out]; exact hlt), List.getElem?_eq_getElem _⟩
      obtain ⟨b, off, rfl, hb, hs, hc⟩ := HX.out (by rw [List.length_map, HN.out]; omega)
      have hcx : w.cell? ⟨b, off + k, none⟩ = some (.int .i64 x) := hc k _ (by rw [List.getElem?_map, hxk]; rfl)
      obtain ⟨hx0, hx1⟩ := HB.out x (List.mem_of_getElem? hxk)
      have H1 := Lib.hid (drop_next hxk)
      clear hc hs hb hxk
      by_cases hneg : m < 0
      · go_wp2
        go_ret
        have h2 := hd.out
        rw [H1.out, roomF_neg m x _ (.inl hneg)] at h2
        rw [← h2]; exact ⟨rfl, rfl⟩
      · by_cases hbig : m < x
        · go_wp2
          go_ret
          have h2 := hd.out
          rw [H1.out, roomF_neg m x _ (.inr hbig)] at h2
          rw [← h2]; exact ⟨rfl, rfl⟩
        · go_wp2
          go_round
          case rel =>
            have h2 := hd.out
            rw [H1.out, roomF_go m x _ (by omega) (by omega)] at h2
            exact ⟨k + 1, m - x, by omega, by go_num, by go_num, by omega, by omega, h2⟩
          case measure => simp [intOf]; omega
    · go_wp2
      go_ret
      have h2 := hd.out
      rw [List.drop_of_length_le (by rw [HN.out]; omega)] at h2
      rw [← h2]; exact ⟨rfl, rfl⟩

/-- An operation that is short enough. -/
def Small (o : OpV) : Prop := o.L.length ≤ 20000 ∧ o.T.length ≤ 20000 ∧ sum o.T ≤ 20000

/-- What Light's answer is good for. -/
def LightOk (n : Nat) (ops : List OpV) (e : Ending) : Prop := ∃ b : Bool, e = .returned (.bool b) ∧ (b = true → n ≤ 40 ∧ ∀ o ∈ ops, Small o)

set_option maxRecDepth 100000 in
set_option maxHeartbeats 3200000 in
theorem light_any (A : Option Addr) (n cap : Nat) (ops : List OpV) (w : World) (h : OpsAt w A n ops) :
    Calls Try.prog 10 #[.slice A n cap] w fun e w' => LightOk n ops e ∧ Below w.heap.size w w' := by
  have HO := Lib.hid h
  have hm := h.2.1
  unfold maxLen at hm
  clear h
  go_enter Try.func10, Try.ntmps10
  go_wp2_with fail
  go_loopw [3, 4] (fun a i wr => ∃ (k : Nat) (r : Int), k ≤ n ∧ i = .int .i64 k ∧ a = .int .i64 r ∧ -1 ≤ r ∧ r ≤ 20000 ∧ Hid (Below w.heap.size w wr) ∧ Hid (0 ≤ r → ∀ o ∈ ops.take k, Small o)) (fun _ i _ => n - (intOf i).toNat)
  case atStart => exact ⟨0, 20000, by omega, rfl, rfl, by omega, by omega, Below.refl _ _, fun _ o ho => by simp at ho⟩
  case round =>
    obtain ⟨k, r, hk, rfl, rfl, hr0, hr1, HB, HS⟩ := hrel
    obtain ⟨wo, rfl⟩ : ∃ wo : World, wo = wr := ⟨_, rfl⟩
    by_cases hin : k < n ∧ k < 100 ∧ 0 ≤ r
    · obtain ⟨hkn, hk1, hrp⟩ := hin
      obtain ⟨o, hok⟩ : ∃ o, ops[k]? = some o := ⟨ops[k]'(by rw [HO.out.1]; exact hkn), List.getElem?_eq_getElem _⟩
      obtain ⟨b, off, rfl, hbl, hc⟩ := HO.out.2.2 (by omega)
      obtain ⟨_, _, ⟨A2, p2, hL, hLi⟩, ⟨A3, p3, hT, hTs⟩, _, _⟩ := hc k o hok
      have hL0 := (HB.out.cell (p := ⟨b, off + k * 4 + 2, none⟩) hbl).trans hL
      have hT0 := (HB.out.cell (p := ⟨b, off + k * 4 + 3, none⟩) hbl).trans hT
      have hll := hLi.2.2.2
      have htl := hTs.2.2.2
      unfold maxLen at hll htl
      have hx2 : ∀ x ∈ [(o.L.length : Int), (o.T.length : Int)], 0 ≤ x ∧ x ≤ 9223372036854775807 := by
        intro x hx
        simp at hx
        omega
      have HX2 := Lib.hid hx2
      clear hx2
      go_wp2_with fail
      go_region_held3 (fun w' => w'.cell? ⟨b, off + k * 4 + 2, none⟩ = some (.slice A2 o.L.length p2) ∧ w'.cell? ⟨b, off + k * 4 + 3, none⟩ = some (.slice A3 o.T.length p3)) (first | exact ⟨hL0, hT0⟩ | go_keep) (first | (go_at_call 37; refine (room_any _ 2 2 [(o.L.length : Int), (o.T.length : Int)] r _ ?_ rfl HX2.out hr0 ?_ ?_).mono ?_; (exact slice_drew (slice_new rfl _ _ (fun x => x))); omega; omega; rintro e w5 ⟨rfl, rfl⟩))
      have hb1 : Below w.heap.size w ((wo.alloc (.cells #[.int .i64 (o.L.length : Int), .int .i64 (o.T.length : Int)] 3)).drew) := (HB.out.alloc HB.out.size _).drew
      obtain ⟨f1, f2, f3⟩ := roomF_facts [(o.L.length : Int), (o.T.length : Int)] r (fun x hx => (HX2.out x hx).1) hr0
      have f2' : roomF r [(o.L.length : Int), (o.T.length : Int)] ≤ 20000 := by omega
      have f3' : 0 ≤ roomF r [(o.L.length : Int), (o.T.length : Int)] → (o.L.length : Int) ≤ r ∧ (o.T.length : Int) ≤ r := fun h => ⟨(f3 h).2 _ (by simp), (f3 h).2 _ (by simp)⟩
      generalize roomF r [(o.L.length : Int), (o.T.length : Int)] = r1 at *
      have H3 := Lib.hid f3'
      have HB1 := Lib.hid hb1
      have HT1 := Lib.hid hT
      have H4 := Lib.hid (take_next hok)
      clear f2 f3 f3' hb1 hL0 hT0 hL hT
      go_wp2_with fail
      go_loopw [3, 5] (fun a i wr2 => ∃ (j : Nat) (r2 : Int), j ≤ o.T.length ∧ i = .int .i64 j ∧ a = .int .i64 r2 ∧ -1 ≤ r2 ∧ r2 ≤ 20000 ∧ Hid (Below w.heap.size w wr2) ∧ Hid (0 ≤ r2 → 0 ≤ r1 ∧ (sum (o.T.take j) : Int) + r2 ≤ 20000)) (fun _ i _ => o.T.length - (intOf i).toNat)
      case atStart => exact ⟨0, r1, by omega, rfl, rfl, f1, f2', HB1, fun h => ⟨h, by simp [sum]; exact f2'⟩⟩
      case round =>
        obtain ⟨j, r2, hj, rfl, rfl, hq0, hq1, HB2, HS2⟩ := hrel
        have hT0 := (HB2.out.cell (p := ⟨b, off + k * 4 + 3, none⟩) hbl).trans HT1.out
        by_cases hin2 : j < o.T.length ∧ 0 ≤ r2
        · obtain ⟨hjl, hr2⟩ := hin2
          obtain ⟨x, hx⟩ : ∃ x, o.T[j]? = some x := ⟨o.T[j], List.getElem?_eq_getElem _⟩
          obtain ⟨b3, off3, rfl, hbl3, hc3⟩ := hTs.2.1 (by omega)
          have hcx : wr.cell? ⟨b3, off3 + j, none⟩ = some (.string x) := (HB2.out.cell (p := ⟨b3, off3 + j, none⟩) hbl3).trans (hc3 j x hx)
          have hxm := hTs.2.2.1 x (List.mem_of_getElem? hx)
          unfold maxLen at hxm
          have H5 := Lib.hid (sum_snoc (o.T.take j) x)
          have H6 := Lib.hid (take_next hx)
          clear hc3 hx
          go_wp2_with fail
          refine (room_any _ 1 1 [(x.size : Int)] r2 _ (slice_new rfl _ _ (fun x => x)) rfl (by simp; omega) hq0 (by omega) (by omega)).mono ?_
          rintro e w6 ⟨rfl, rfl⟩
          obtain ⟨g1, g2, g3⟩ := roomF_facts [(x.size : Int)] r2 (by simp) hq0
          have g4 := roomF_one r2 x.size
          generalize roomF r2 [(x.size : Int)] = r3 at *
          have G4 := Lib.hid g4
          have g2' : r3 ≤ 20000 := by omega
          clear g2 g3 g4 hcx hT0
          go_wp2_with fail
          go_roundw
          case rel =>
            refine ⟨j + 1, r3, by omega, by go_num, rfl, g1, g2', HB2.out.alloc HB2.out.size _, fun h => ?_⟩
            obtain ⟨e1, e2⟩ := G4.out h
            obtain ⟨e3, e4⟩ := HS2.out e2
            rw [H6.out, H5.out]
            exact ⟨e3, by omega⟩
          case measure => simp [intOf]; omega
        · have hfin : 0 ≤ r2 → ∀ q ∈ ops.take (k + 1), Small q := fun h => by
            obtain ⟨e1, e2⟩ := HS2.out h
            obtain ⟨e3, e4⟩ := H3.out e1
            have hjT : j = o.T.length := by omega
            rw [List.take_of_length_le (by omega)] at e2
            intro q hq
            rw [H4.out] at hq
            rcases List.mem_append.1 hq with e | e
            · exact HS.out hrp q e
            · rw [List.mem_singleton.1 e]
              exact ⟨by omega, by omega, by omega⟩
          have HF := Lib.hid hfin
          clear hfin
          by_cases hjl : j < o.T.length
          · have hr2 : r2 < 0 := by omega
            clear hin2
            go_wp2_with fail
            go_roundw
            case rel => exact ⟨k + 1, r2, by omega, by go_num, rfl, hq0, hq1, HB2, HF⟩
            case measure => simp [intOf]; omega
          · clear hin2
            go_wp2_with fail
            go_roundw
            case rel => exact ⟨k + 1, r2, by omega, by go_num, rfl, hq0, hq1, HB2, HF⟩
            case measure => simp [intOf]; omega
    · have hfin : ∀ bb : Bool, (bb = true → n ≤ 40 ∧ 0 ≤ r) → LightOk n ops (.returned (.bool bb)) := fun bb hbb => ⟨bb, rfl, fun h => by
        obtain ⟨e1, e2⟩ := hbb h
        refine ⟨e1, fun o ho => HS.out e2 o ?_⟩
        rw [List.take_of_length_le (by rw [HO.out.1]; omega)]
        exact ho⟩
      have HF := Lib.hid hfin
      clear hfin
      by_cases hkn : k < n
      · by_cases hk1 : k < 100
        · have hr2 : r < 0 := by omega
          clear hin
          go_wp2_with fail
          all_goals go_ret
          all_goals exact ⟨HF.out _ (by first | (simp; done) | (simp; omega)), HB.out⟩
        · clear hin
          go_wp2_with fail
          all_goals go_ret
          all_goals exact ⟨HF.out _ (by first | (simp; done) | (simp; omega)), HB.out⟩
      · clear hin
        go_wp2_with fail
        all_goals go_ret
        all_goals exact ⟨HF.out _ (by first | (simp; done) | (simp; omega)), HB.out⟩

end Go.Proofs.Ytlinmnlfcboicaa
