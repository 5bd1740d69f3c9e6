/- Law UtfTexts: the walk. Own work. -/
import Derived.Test.YtoihadjboeeglaaUtfRefT
import Derived.Test.YtoihadjboeeglaaRuneRead
namespace Go.Proofs.Ytoihadjboeeglaa
set_option linter.unusedVariables false
set_option linter.unusedSimpArgs false
open Go.RowKit

theorem runesBytes_snoc (a : List Int) (x : Int) : runesBytes (a ++ [x]) = runesBytes a ++ Utf8.encode x := by simp [runesBytes]

theorem natsOf_add (a b : ByteArray) : natsOf (a ++ b) = natsOf a ++ natsOf b := by simp [natsOf]

theorem runesBytes_feed (xs : List Int) : feedU .z (natsOf (runesBytes xs)) = (.z, xs.map runeN) := by
  suffices h : ∀ (n : Nat) (ys : List Int), ys.length = n → feedU .z (natsOf (runesBytes ys)) = (.z, ys.map runeN) from h _ xs rfl
  intro n
  induction n with
  | zero =>
    intro ys hy
    have : ys = [] := List.eq_nil_of_length_eq_zero hy
    subst this
    rfl
  | succ n ih =>
    intro ys hy
    have hne : ys ≠ [] := fun e => by rw [e] at hy; simp at hy
    have hl := List.dropLast_concat_getLast hne
    have hd : ys.dropLast.length = n := by rw [List.length_dropLast]; omega
    have h1 := ih _ hd
    obtain ⟨r1, r2⟩ := runeN_le (ys.getLast hne)
    rw [← hl, runesBytes_snoc, natsOf_add, feedU_add, h1, natsOf_encode, (encN_feed _ r1 r2).1, List.map_append]
    rfl

/-- The runes of numbers. -/
def runesOf (xs : List Int) : List Int := xs.map fun x => (runeN x : Int)
theorem runesOf_rs (xs : List Int) : rs (xs.map runeN) = runesOf xs := by simp [rs, runesOf]

set_option maxRecDepth 100000 in
set_option maxHeartbeats 6400000 in
theorem walk_UtfTexts (A : Option Addr) (n cap : Nat) (xs : List Int) (w : World) (h : Runes w A n xs) :
    Calls Try.prog 4 #[.slice A n cap] w fun e w' => e = .returned (.bool true) ∧ Below w.heap.size w w' := by
  by_cases hn : (n : Int) > 300
  · clear h
    go_enter Try.func4, Try.ntmps4
    go_wp2_with fail
    refine (alive_any _).mono ?_
    rintro e w1 ⟨rfl, hb⟩
    have HB := Lib.hid hb
    clear hb
    go_wp2_with fail
    go_ret
    exact ⟨rfl, HB.out⟩
  · obtain ⟨i0, hi0, hz0, hz1, hz2⟩ := info_parts rune_info
    have hl := Lib.hid (show xs.length = n from by have := h.1.1; rwa [List.length_map] at this)
    have H := Lib.hid h.1
    clear h
    go_enter Try.func4, Try.ntmps4
    go_wp2_with fail
    refine (alive_any _).mono ?_
    rintro e w1 ⟨rfl, hb⟩
    have HB1 := Lib.hid hb
    have H1 := Lib.hid (H.out.below hb)
    clear hb
    go_wp2_with fail
    refine (lent_Runes A n cap xs _ H1.out (by omega)).mono ?_
    rintro e w2 ⟨g, cg, rfl, hle, hg, hb⟩
    have HL := Lib.hid hle
    have HB2 := Lib.hid (HB1.out.trans (hb.mono HB1.out.size))
    have H2 := Lib.hid (H1.out.below hb)
    clear hle hb
    have hgw : w.heap.size ≤ g := Nat.le_trans HB1.out.size hg
    clear hg
    go_wp2_with fail
    go_loopw [4, 5, 6] (fun s v i wr => ∃ k : Nat, i = .int .i64 k ∧ k ≤ n ∧ s = .string (runesBytes (xs.take k)) ∧ Hid (wr.ownsRow w2.heap.size 21 1 v k ((runesOf (xs.take k)).map (Value.int .i32))) ∧ Hid (Below w2.heap.size w2 wr)) (fun _ _ i _ => n - (intOf i).toNat)
    case atStart => exact ⟨0, rfl, by omega, rfl, World.ownsRow_nil _ _ _ _, Below.refl _ _⟩
    case round =>
      obtain ⟨k, rfl, hk, rfl, HO, HB⟩ := hrel
      by_cases hlt : k < n
      · obtain ⟨x, hx⟩ : ∃ x, xs[k]? = some x := ⟨xs[k]'(by rw [hl.out]; exact hlt), List.getElem?_eq_getElem _⟩
        obtain ⟨b, off, rfl, hbl, hcs⟩ := (H2.out.below HB.out).2 (by omega)
        have hcx : wr.cell? ⟨b, off + k, none⟩ = some (.int .i32 x) := hcs k _ (by rw [List.getElem?_map, hx]; rfl)
        have hki : ((k : Int) < (n : Int)) := by omega
        have hk0 : (0 : Int) ≤ (k : Int) := by omega
        have HT := Lib.hid (take_next hx)
        obtain ⟨S, hS⟩ : ∃ S, runesBytes (xs.take k) = S := ⟨_, rfl⟩
        obtain ⟨E, hE⟩ : ∃ E, Utf8.encode x = E := ⟨_, rfl⟩
        have hSs : S.size ≤ 1200 := by rw [← hS]; have := runesBytes_size_le (xs.take k); rw [List.length_take] at this; omega
        have hEs : E.size ≤ 4 := by rw [← hE]; exact encode_size_le x
        have HS := Lib.hid hS
        have HE := Lib.hid hE
        have HR := Lib.hid (fun W => hE ▸ refText x W)
        rw [hS]
        clear hcs hS hE
        have HXB : Hid (∀ W, Below wr.heap.size wr W → W.cell? ⟨b, off + k, none⟩ = some (.int .i32 x)) := Lib.hid (fun W q => (q.cell (p := ⟨b, off + k, none⟩) hbl).trans hcx)
        have hcls : ∃ c : Int, (runeN x : Int) = c ∧ ((x < 0 ∧ c = 65533) ∨ (¬ x < 0 ∧ x > 1114111 ∧ c = 65533) ∨ (¬ x < 0 ∧ ¬ x > 1114111 ∧ x ≥ 55296 ∧ x ≤ 57343 ∧ c = 65533) ∨ (¬ x < 0 ∧ ¬ x > 1114111 ∧ x ≥ 55296 ∧ ¬ x ≤ 57343 ∧ c = x) ∨ (¬ x < 0 ∧ ¬ x > 1114111 ∧ ¬ x ≥ 55296 ∧ c = x)) := by
          refine ⟨_, rfl, ?_⟩
          unfold runeN
          split <;> omega
        obtain ⟨c, hc, hcls⟩ := hcls
        have HC := Lib.hid hc
        clear hx hc
        rcases hcls with ⟨x1, rfl⟩ | ⟨x1, x2, rfl⟩ | ⟨x1, x2, x3, x4, rfl⟩ | ⟨x1, x2, x3, x4, rfl⟩ | ⟨x1, x2, x3, rfl⟩
        all_goals
          as_aux_lemma =>
            go_wp2_with fail
            refine (HR.out _).mono ?_
            rintro e w3 ⟨rfl, hb⟩
            have hcx3 := HXB.out _ hb
            have HB3 := Lib.hid (HB.out.trans (hb.mono HB.out.size))
            have HO3 := Lib.hid (own_keep HO.out (Keep.of_below (fun _ => False) hb) (fun _ _ x => x))
            have hs3 : w2.heap.size ≤ w3.heap.size := HB3.out.size
            clear hb hcx
            go_wp2_with (at_builtin; refine wpList_own_more _ rfl (.tmp 51) (.tmp 53) 46 rfl w2.heap.size w3.heap.size 21 i0 (.int .i32 0) 1 4 Try.underlying46 hi0 hz0 hz1 hz2 rfl (by decide) _ _ _ 1 _ [.int .i32 _] rfl rfl (own_keep HO3.out ((Keep.refl (fun _ => False) w3).alloc _) (fun _ _ x => x)) (own_new1 _ _ _ rfl (Nat.le_refl _)) ?c2 ?c3 ?c4 ?c5 ?_)
            case c2 => first | rfl | (intro u hu; simp at hu; subst hu; rfl)
            case c3 => unfold maxLen; omega
            case c4 => omega
            case c5 => first | omega | (simp; omega)
            intro v' w4 hown hkeep hat
            have HO4 : Hid (w4.ownsRow w2.heap.size 21 1 v' (k + 1) ((runesOf (xs.take (k + 1))).map (Value.int .i32))) := by
              show World.ownsRow _ _ _ _ _ _ _
              rw [HT.out, runesOf, List.map_append, List.map_append, List.map_cons, List.map_nil, HC.out]
              exact hown
            have HB4 : Hid (Below w2.heap.size w2 w4) := Lib.hid ((HB3.out.alloc hs3 _).trans (hkeep.below (by simp; omega) (fun i hi e => by have := (HO3.out.lt i e).1; omega)))
            have HSE : Hid (S ++ E = runesBytes (xs.take (k + 1))) := Lib.hid (by rw [HT.out, runesBytes_snoc, HS.out, HE.out])
            clear hown hkeep hat
            go_wp2_with fail
            go_roundw
            case rel => exact ⟨k + 1, by go_num, by omega, by rw [← HSE.out], HO4, HB4⟩
            case measure => simp [intOf]; omega
      · have hkn : k = n := by omega
        have HXS : Hid (xs.take k = xs) := Lib.hid (List.take_of_length_le (by rw [hl.out]; omega))
        have HO2 : Hid (wr.ownsRow w2.heap.size 21 1 u5 n ((runesOf xs).map (Value.int .i32))) := by
          show World.ownsRow _ _ _ _ _ _ _
          have := HO.out
          rw [HXS.out, hkn] at this; exact this
        rw [HXS.out]
        obtain ⟨S, hS⟩ : ∃ S, runesBytes xs = S := ⟨_, rfl⟩
        rw [hS]
        have hSs : S.size ≤ 1200 := by rw [← hS]; have := runesBytes_size_le xs; rw [hl.out] at this; omega
        have hfeed := runesBytes_feed xs
        rw [hS] at hfeed
        have HLE := Lib.hid (HL.out.keep (Keep.of_below (fun _ => False) HB.out) (fun x => x))
        have HTX := Lib.hid (fun W h => hS ▸ utf_text (some ⟨g, 0, none⟩) n cg xs W h)
        have HSRC : Hid (∀ W, Below wr.heap.size wr W → Src W (some ⟨g, 0, none⟩) n (xs.map (Value.int .i32))) := Lib.hid (fun W q => by
          have := ((HLE.out.keep (Keep.of_below (fun _ => False) q) (fun x => x)).src)
          rwa [List.length_map, hl.out] at this)
        have HF := Lib.hid (fun (q b : Nat) (W : World) h hs hb => hfeed ▸ utf_feed_one q 0 .z b S 1 W h hs hb (by omega))
        have HBW := Lib.hid (HB2.out.trans (HB.out.mono HB2.out.size))
        clear hfeed hS HO hkn HXS
        obtain ⟨vA, vc, rfl, -⟩ := own_form HO2.out
        go_wp2_with fail
        refine (HTX.out _ (HSRC.out _ (Below.refl _ _))).mono ?_
        rintro e w5 ⟨rfl, rfl⟩
        go_wp2_with fail
        refine (HF.out w5.heap.size (w5.heap.size + 1) _ ((RdU.made w5 28).alloc (.cells #[.string S] 9)) (by simp [go_sem, Array.size_push]) (by omega)).mono ?_
        rintro e w6 ⟨v6, rfl, o6, r6, k6⟩
        obtain ⟨A6, c6, rfl, -⟩ := own_form o6
        have HB6 : Hid (Below w5.heap.size w5 w6) := Lib.hid ((((Below.refl w5.heap.size w5).alloc (Nat.le_refl _) _).alloc (by simp) _).trans (k6.below (by simp; omega) (fun i hi e => by omega)))
        have hl6 : (List.map runeN xs).length = n := by rw [List.length_map, hl.out]
        simp only [] at o6
        rw [runesOf_rs, hl6] at o6
        simp only []
        rw [hl6]
        have O6 := Lib.hid (Buf.of_own o6).src
        have R6 := Lib.hid r6
        have V6 := Lib.hid ((Buf.of_own HO2.out).src.below HB6.out)
        clear o6 r6 k6 hl6
        go_wp2_with fail
        refine (same_Runes A6 vA n c6 vc (runesOf xs) w6 O6.out V6.out (by omega)).mono ?_
        rintro e w7 ⟨rfl, k7, hw7⟩
        have HK7 : Hid (Keep (fun _ => False) w6 w7) := Lib.hid (by rw [hw7]; exact (Keep.refl _ w6).drewN k7)
        have R7 := Lib.hid (R6.out.keep HK7.out (fun x => x))
        clear hw7
        go_wp2_with fail
        refine (utf_half _ 0 _ _ R7.out).mono ?_
        rintro e w8 ⟨rfl, rfl⟩
        have HB8 : Hid (Below w5.heap.size w5 w8) := Lib.hid (HB6.out.trans (HK7.out.below HB6.out.size (fun _ _ x => x)))
        go_wp2_with fail
        refine (stays_Runes g cg A n cap xs _ (HLE.out.keep (Keep.of_below (fun _ => False) HB8.out) (fun x => x)) ((H2.out.below HB.out).below HB8.out) (by omega)).mono ?_
        rintro e w9 ⟨rfl, k9, hw9⟩
        have HB9 : Hid (Below w.heap.size w w9) := Lib.hid (by
          have h1 := HBW.out.trans (HB8.out.mono HBW.out.size)
          rw [hw9]; exact h1.trans (((Keep.refl (fun _ => False) w8).drewN k9).below h1.size (fun _ _ x => x)))
        clear hw9
        go_wp2_with fail
        go_ret
        exact ⟨rfl, HB9.out⟩

end Go.Proofs.Ytoihadjboeeglaa
