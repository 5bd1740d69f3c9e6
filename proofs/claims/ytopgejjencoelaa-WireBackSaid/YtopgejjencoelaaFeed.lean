/- nvt.Reader.Feed, Whole, Sub. Own work (rgn/XFeed.lean by rgn.py). -/
import Derived.Test.YtopgejjencoelaaOpen
import Derived.Test.YtopgejjencoelaaTake
namespace Go.Proofs.Ytopgejjencoelaa
set_option linter.unusedVariables false
set_option linter.unusedSimpArgs false
open Go.RowKit

/-! How much is told. -/
theorem endA_sz (a : An) : (endA a).told.length ≤ a.told.length + a.bytes.length := by
  unfold endA
  split
  · exact Nat.le_add_right _ _
  · rename_i h
    have := List.length_pos_iff.2 h
    simp
    omega
theorem tellA_sz (a : An) (t : Tok) : (tellA a t).told.length + (tellA a t).bytes.length ≤ a.told.length + a.bytes.length + 1 := by
  have := endA_sz a
  simp [tellA]
  omega
theorem doA_sz (c : Nat) (b : UInt8) (r : Rd) (a : An) : (doA c b r a).told.length + (doA c b r a).bytes.length ≤ a.told.length + a.bytes.length + 1 := by
  unfold doA
  split
  · simp [dataA]; omega
  · exact tellA_sz _ _
  · exact tellA_sz _ _
  · split
    · omega
    · exact tellA_sz _ _
  · omega
theorem bytes_sz (bin : Bool) (s : List UInt8) : ∀ x : Rd × An, (bytesL bin x s).2.told.length + (bytesL bin x s).2.bytes.length ≤ x.2.told.length + x.2.bytes.length + s.length := by
  induction s with
  | nil => intro x; exact Nat.le_refl _
  | cons b s ih =>
    intro x
    have h1 := ih (takeL bin x b)
    have h2 := doA_sz (actL x.1.at' (kindL bin b)) b x.1 x.2
    simp only [List.length_cons]
    show (bytesL bin (takeL bin x b) s).2.told.length + (bytesL bin (takeL bin x b) s).2.bytes.length ≤ _
    have h3 : (takeL bin x b).2 = doA (actL x.1.at' (kindL bin b)) b x.1 x.2 := rfl
    rw [h3] at h1
    omega

/-- Behind a Feed. -/
def FeedTo (p : Nat) (bin : Bool) (A : Option Addr) (w : World) (l : List Tok) (r : Rd) (v : Value) (w' : World) : Prop :=
  w'.ownsRow w.heap.size 67 4 v l.length (toks l) ∧ ∃ A' c', RdIn w' p bin true r A' c' ∧ Step (rdOwn p A) w (rdOwn p A') w' ∧ ∀ k, v.ownBlock = some k → ¬ rdOwn p A' k

def FeedIs (p : Nat) (bin : Bool) (A : Option Addr) (w : World) (l : List Tok) (r : Rd) (e : Ending) (w' : World) : Prop := ∃ v, e = .returned v ∧ FeedTo p bin A w l r v w'

theorem an_new (w : World) (base : Nat) : AnIn (w.alloc (.cells #[.slice none 0 0, .slice none 0 0] 92)) w.heap.size base An.new (.slice none 0 0) none 0 :=
  ⟨Cell.box 0 rfl, Cell.box 1 rfl, World.ownsRow_nil _ _ _ _, Buf.nil _, by simp [Value.ownBlock], by simp [blk], by simp [Value.ownBlock]⟩

set_option maxHeartbeats 400000 in
theorem feed_nil (S : Value) (w : World) : Calls Try.prog 20 #[.pointer none, S] w fun e w' => e = .returned (.slice none 0 0) ∧ Below w.heap.size w w' := by
  have hb : Below w.heap.size w (w.alloc (.cells #[.pointer none] 38)) := (Below.refl _ _).alloc (Nat.le_refl _) _
  have HB := Lib.hid hb
  clear hb
  go_enter Try.func20, Try.ntmps20
  go_wp2_with fail
  go_ret
  exact ⟨rfl, HB.out⟩

set_option maxRecDepth 100000 in
set_option maxHeartbeats 3200000 in
theorem feed_any (p : Nat) (bin made : Bool) (r : Rd) (A : Option Addr) (c : Nat) (S : Option Addr) (n cap : Nat) (xs : List ByteArray) (w : World) (h : RdIn w p bin made r A c) (hs : Src w S n (xs.map Value.string)) (hns : ∀ i, blk S = some i → ¬ rdOwn p A i)
    (hn : n ≤ 1099511627776) (hsum : sum xs ≤ 1000000000000) :
    Calls Try.prog 20 #[.pointer (some ⟨p, 0, none⟩), .slice S n cap] w (FeedIs p bin A w (feedL bin r (joinL xs)) (goL bin r (joinL xs))) := by
  have hmf := run_makeFunc Try.prog
  have hl := Lib.hid (show xs.length = n from by have := hs.1; rwa [List.length_map] at this)
  have H := Lib.hid h
  have HS := Lib.hid hs
  have HNS := Lib.hid hns
  have HSUM := Lib.hid hsum
  clear h hs hns hsum
  go_enter Try.func20, Try.ntmps20
  go_wp2_with fail
  refine (open_any p bin made r A c w H.out).mono ?_
  rintro e w1 ⟨rfl, h1, k1, g1⟩
  have H1 := Lib.hid h1
  have K1 := Lib.hid k1
  have G1 := Lib.hid g1
  have hzw : w.heap.size < w1.heap.size := World.block_lt_of_cell? w1 _ g1
  clear h1 k1
  go_wp2_with fail
  -- the answer
  obtain ⟨q, hq⟩ : ∃ q, q = w1.heap.size := ⟨_, rfl⟩
  obtain ⟨g, hg⟩ : ∃ g, g = w.heap.size := ⟨_, rfl⟩
  obtain ⟨w2, hw2⟩ : ∃ w2, w2 = w1.alloc (.cells #[.slice none 0 0, .slice none 0 0] 92) := ⟨_, rfl⟩
  rw [← hw2, ← hq, ← hg]
  have hpl : p < w.heap.size := H.out.lt
  have P2 : Hid (PairIn w2 p q w.heap.size bin true r An.new A c (.slice none 0 0) none 0) := by
    refine ⟨?_, ?_, fun k hk ha => ?_⟩
    · rw [hw2]; exact H1.out.alloc _
    · rw [hw2, hq]; exact an_new w1 _
    · have := H1.out.lto hk
      rcases ha with ha | ha | ha
      · omega
      · simp [Value.ownBlock] at ha
      · simp [blk] at ha
  have K2 : Hid (Keep (· = p) w w2) := by show Keep _ _ _; rw [hw2]; exact K1.out.alloc _
  have G2 : Hid (w2.cell? ⟨g, 0, none⟩ = some (.pointer (some ⟨p, 0, none⟩)) ∧ g < w2.heap.size) := by
    refine ⟨?_, ?_⟩
    · rw [hw2, hg, World.cell?_alloc_past _ _ _ hzw]; exact G1.out
    · rw [hw2, hg]; simp; omega
  have S2 : Hid (Src w2 S n (xs.map Value.string)) := Lib.hid (HS.out.of_keep K2.out (fun i hi e => HNS.out i hi (.inl e)))
  have HZ : Hid (w.heap.size ≤ w2.heap.size ∧ g = w.heap.size ∧ q = w1.heap.size ∧ w.heap.size < q) := ⟨K2.out.size, hg, hq, by omega⟩
  have own0 : Hid (∀ k, pairOwn p A q (.slice none 0 0) none k → rdOwn p A k ∨ k = q) := Lib.hid (fun k hk => by
    rcases hk with hk | hk | hk | hk
    · exact .inl hk
    · exact .inr hk
    · simp [Value.ownBlock] at hk
    · simp [blk] at hk)
  have notg : Hid (∀ W R v B, Step (pairOwn p A q (.slice none 0 0) none) w2 (pairOwn p R q v B) W → W.cell? ⟨g, 0, none⟩ = some (.pointer (some ⟨p, 0, none⟩)) ∧ Src W S n (xs.map Value.string)) := Lib.hid (fun W R v B s => by
    have hz := HZ.out
    refine ⟨(s.1.cell (p := ⟨g, 0, none⟩) G2.out.2 (fun x => ?_)).trans G2.out.1, S2.out.far s.1 (fun h0 i hi x => ?_)⟩
    · rcases own0.out _ x with y | y
      · have : g < w.heap.size := H.out.lto y
        omega
      · have : g = q := y
        omega
    · rcases own0.out _ x with y | y
      · exact HNS.out i hi y
      · have : i < w.heap.size := HS.out.lt h0 hi
        omega)
  clear hw2 hq hg g1 hzw hmf
  go_wp2_with fail
  go_loopw [18] (fun i wr => ∃ k : Nat, i = .int .i64 k ∧ k ≤ n ∧ Hid (PairTo p q w.heap.size bin true A (.slice none 0 0) none w2 (bytesL bin (r, An.new) (joinL (xs.take k))).1 (bytesL bin (r, An.new) (joinL (xs.take k))).2 wr)) (fun i _ => n - (intOf i).toNat)
  case atStart => exact ⟨0, rfl, by omega, Lib.hid P2.out.to⟩
  case round =>
    obtain ⟨k, rfl, hk, hp⟩ := hrel
    obtain ⟨wo, rfl⟩ : ∃ wo : World, wo = wr := ⟨_, rfl⟩
    by_cases hlt : k < n
    · obtain ⟨x, hx⟩ : ∃ x, xs[k]? = some x := ⟨xs[k]'(by rw [hl.out]; exact hlt), List.getElem?_eq_getElem _⟩
      obtain ⟨A1, c1, v1, B1, d1, hp1, hst1⟩ := hp.out
      obtain ⟨_, hsr⟩ := notg.out _ _ _ _ hst1
      obtain ⟨b, o, rfl, hbl, hcs⟩ := hsr.2 (by omega)
      have hcx : wo.cell? ⟨b, o + k, none⟩ = some (.string x) := hcs k _ (by rw [List.getElem?_map, hx]; rfl)
      have e1 := Lib.hid (show joinL (xs.take (k + 1)) = joinL (xs.take k) ++ x.data.toList from by rw [take_next hx, joinL_snoc])
      have e2 : sum (xs.take (k + 1)) = sum (xs.take k) + x.size := by rw [take_next hx, sum_snoc]
      have e3 := sum_take xs (k + 1)
      obtain ⟨s, hs⟩ : ∃ s, s = joinL (xs.take k) := ⟨_, rfl⟩
      have hsl : s.length = sum (xs.take k) := by rw [hs, joinL_len]
      have HSL := Lib.hid (show s.length + x.size ≤ 1000000000000 by have := HSUM.out; omega)
      have hxs : x.size ≤ 1000000000000 := by have := HSL.out; omega
      rw [← hs] at e1 hp
      have HPP := hp
      clear hcs hx e2 e3 hs hsl hp1 hst1 hsr hp
      go_wp2_with fail
      go_loopw [24] (fun i wi => ∃ j : Nat, i = .int .i64 j ∧ j ≤ x.size ∧ Hid (PairTo p q w.heap.size bin true A (.slice none 0 0) none w2 (bytesL bin (r, An.new) (s ++ x.data.toList.take j)).1 (bytesL bin (r, An.new) (s ++ x.data.toList.take j)).2 wi)) (fun i _ => x.size - (intOf i).toNat)
      case atStart => exact ⟨0, rfl, by omega, by show PairTo _ _ _ _ _ _ _ _ _ _ _ _; rw [List.take_zero, List.append_nil]; exact HPP.out⟩
      case round =>
        obtain ⟨j, rfl, hj, hp⟩ := hrel
        by_cases hlj : j < x.size
        · obtain ⟨A2, c2, v2, B2, d2, hp2, hst2⟩ := hp.out
          obtain ⟨gc, _⟩ := notg.out _ _ _ _ hst2
          obtain ⟨y, hy⟩ : ∃ y, y = x[j] := ⟨_, rfl⟩
          have t1 := Lib.hid (show s ++ x.data.toList.take (j + 1) = (s ++ x.data.toList.take j) ++ [y] from by
            rw [List.append_assoc, hy]
            congr 1
            rw [List.take_succ_eq_append_getElem (by simpa using hlj)]
            rfl)
          obtain ⟨z, hz⟩ : ∃ z, z = s ++ x.data.toList.take j := ⟨_, rfl⟩
          have hzl : z.length ≤ 1000000000000 := by
            have := HSL.out
            rw [hz, List.length_append, List.length_take]
            omega
          have hsz := bytes_sz bin z (r, An.new)
          have hsz2 : (bytesL bin (r, An.new) z).2.told.length + (bytesL bin (r, An.new) z).2.bytes.length ≤ z.length := by
            simpa [An.new] using hsz
          rw [← hz] at t1 hp2
          obtain ⟨r2, hr2⟩ : ∃ r2, r2 = (bytesL bin (r, An.new) z).1 := ⟨_, rfl⟩
          obtain ⟨a2, ha2⟩ : ∃ a2, a2 = (bytesL bin (r, An.new) z).2 := ⟨_, rfl⟩
          have t2 := Lib.hid (show bytesL bin (r, An.new) (z ++ [y]) = takeL bin (r2, a2) y by rw [bytes_add, hr2, ha2]; rfl)
          rw [← hr2, ← ha2] at hp2
          rw [← ha2] at hsz2
          have W2 := Lib.hid (hp2.quiet ((Keep.refl (fun _ => False) wr).drew))
          have ST := Lib.hid hst2
          have HB := Lib.hid (show w.heap.size ≤ wr.heap.size from Nat.le_trans HZ.out.1 hst2.1.size)
          have L1 := Lib.hid (show a2.bytes.length ≤ 1099511627776 by omega)
          have L2 := Lib.hid (show a2.told.length + 1 ≤ 1099511627776 by omega)
          have HY := Lib.hid hy
          clear hp2 hst2 hsz hsz2 hzl hr2 ha2 hz hy hp
          go_wp2_with fail
          refine wp_region_noPanic ?_
          refine wp_region_held_drew (S := fun w' => w'.cell? ⟨g, 0, none⟩ = some (.pointer (some ⟨p, 0, none⟩))) (by kernel_rfl) gc (fun hHeld => ?_)
          refine wpAnyH_take (i := 0) (oi := _) (v := ?va0) rfl (by kernel_rfl) (by kernel_rfl) (by kernel_rfl) (fun _ _ _ h => h) (Or.inl ⟨by rfl, ?hya0⟩) (by assumption) ?resta0
          case hya0 => (intro w hSw; (try dsimp only at hSw); (try simp only [List.getElem_toArray, List.getElem_cons_zero, List.getElem_cons_succ]); go_simp; (try with_reducible rfl))
          (try simp only [Act.put, List.setIfInBounds_toArray, List.set_cons_zero, List.set_cons_succ, List.getElem_toArray, List.getElem_cons_zero, List.getElem_cons_succ])
          refine wpAnyH_take (i := 1) (oi := _) (v := ?va1) rfl (by kernel_rfl) (by kernel_rfl) (by kernel_rfl) (fun _ _ _ h => h) (Or.inl ⟨by rfl, ?hya1⟩) (by assumption) ?resta1
          case hya1 => (intro w hSw; (try dsimp only at hSw); (try simp only [List.getElem_toArray, List.getElem_cons_zero, List.getElem_cons_succ]); go_simp; (try with_reducible rfl))
          (try simp only [Act.put, List.setIfInBounds_toArray, List.set_cons_zero, List.set_cons_succ, List.getElem_toArray, List.getElem_cons_zero, List.getElem_cons_succ])
          refine wpAnyH_take (i := 2) (oi := _) (v := ?va2) rfl (by kernel_rfl) (by kernel_rfl) (by kernel_rfl) (fun _ _ _ h => h) (Or.inl ⟨by rfl, ?hya2⟩) (by assumption) ?resta2
          case hya2 => (intro w hSw; (try dsimp only at hSw); (try simp only [List.getElem_toArray, List.getElem_cons_zero, List.getElem_cons_succ]); go_simp; (try with_reducible rfl))
          (try simp only [Act.put, List.setIfInBounds_toArray, List.set_cons_zero, List.set_cons_succ, List.getElem_toArray, List.getElem_cons_zero, List.getElem_cons_succ])
          refine wpAnyH_take (i := 3) (oi := _) (v := ?va3) rfl (by kernel_rfl) (by kernel_rfl) (by kernel_rfl) (fun _ _ _ h => h) (Or.inl ⟨by rfl, ?hya3⟩) (by assumption) ?resta3
          case hya3 => (intro w hSw; (try dsimp only at hSw); (try simp only [List.getElem_toArray, List.getElem_cons_zero, List.getElem_cons_succ]); go_simp; (try with_reducible rfl))
          (try simp only [Act.put, List.setIfInBounds_toArray, List.set_cons_zero, List.set_cons_succ, List.getElem_toArray, List.getElem_cons_zero, List.getElem_cons_succ])
          refine wpAnyH_ready (rs := [4]) (by kernel_rfl) (by simp) ?_
          refine AllReadyH.cons (o := _) rfl (fun K hK => ?_) AllReadyH.nil
          (try simp only [List.getElem_toArray, List.getElem_cons_zero, List.getElem_cons_succ])
          go_simp
          (refine (take_any p q w.heap.size bin r2 a2 A2 c2 v2 B2 d2 x[j] _ W2.out L1.out L2.out (by simpa using HB.out)).mono ?_; rintro e w3 ⟨rfl, A3, c3, v3, B3, d3, h3, s3⟩; have H3 := Lib.hid h3; have ST3 := Lib.hid (ST.out.trans ((Step.of_keep ((Keep.refl (fun _ => False) wr).drew) (fun _ e => e.elim)).trans s3)); clear h3 s3)
          refine hK.out _ _ ?_ (fun hHeld => ?_)
          · exact (notg.out _ _ _ _ ST3.out).1
          clear hK K
          (try simp only [Act.put, List.setIfInBounds_toArray, List.set_cons_zero, List.set_cons_succ, List.getElem_toArray, List.getElem_cons_zero, List.getElem_cons_succ])
          refine wpAnyH_done (by kernel_rfl) ?_ _
          refine NoPanic.normal ?_
          clear gc hHeld
          go_wp2_with fail
          go_roundw
          case rel =>
            refine ⟨j + 1, by go_num, by omega, ?_⟩
            show PairTo _ _ _ _ _ _ _ _ _ _ _ _
            rw [t1.out, t2.out, HY.out]
            exact ⟨A3, c3, v3, B3, d3, H3.out, ST3.out⟩
          case measure => simp [intOf]; omega
        · have hjx : j = x.size := by omega
          subst hjx
          have t1 := Lib.hid (show s ++ x.data.toList.take x.size = s ++ x.data.toList from by rw [List.take_of_length_le (by rw [← Lib.size_eq]; exact Nat.le_refl _)])
          go_wp2_with fail
          go_roundw
          case rel =>
            refine ⟨k + 1, by go_num, by omega, ?_⟩
            show PairTo _ _ _ _ _ _ _ _ _ _ _ _
            rw [e1.out, ← t1.out]
            exact hp.out
          case measure => simp [intOf]; omega
    · have hkn : k = n := by omega
      subst hkn
      rw [List.take_of_length_le (by rw [hl.out]; exact Nat.le_refl _)] at hp
      obtain ⟨A2, c2, v2, B2, d2, hp2, hst2⟩ := hp.out
      obtain ⟨z, hz⟩ : ∃ z, z = joinL xs := ⟨_, rfl⟩
      have hzl : z.length ≤ 1000000000000 := by rw [hz, joinL_len]; exact HSUM.out
      have hsz := bytes_sz bin z (r, An.new)
      have hsz2 : (bytesL bin (r, An.new) z).2.told.length + (bytesL bin (r, An.new) z).2.bytes.length ≤ z.length := by
        simpa [An.new] using hsz
      rw [← hz] at hp2
      have eF : feedL bin r (joinL xs) = (endA (bytesL bin (r, An.new) z).2).told := by rw [hz]; rfl
      have eG : goL bin r (joinL xs) = (bytesL bin (r, An.new) z).1 := by rw [hz]; rfl
      obtain ⟨r2, hr2⟩ : ∃ r2, r2 = (bytesL bin (r, An.new) z).1 := ⟨_, rfl⟩
      obtain ⟨a2, ha2⟩ : ∃ a2, a2 = (bytesL bin (r, An.new) z).2 := ⟨_, rfl⟩
      rw [← hr2, ← ha2] at hp2
      rw [← ha2] at hsz2
      rw [← ha2] at eF
      rw [← hr2] at eG
      have EF := Lib.hid eF
      have EG := Lib.hid eG
      have HP2 := Lib.hid hp2
      have ST := Lib.hid hst2
      have HB := Lib.hid (show w.heap.size ≤ wo.heap.size from Nat.le_trans HZ.out.1 hst2.1.size)
      have L1 := Lib.hid (show a2.bytes.length ≤ 1099511627776 by omega)
      have L2 := Lib.hid (show a2.told.length ≤ 1099511627776 by omega)
      clear hp2 hst2 hsz hsz2 hzl hr2 ha2 hz hp eF eG
      go_wp2_with fail
      refine (all_any q w.heap.size a2 v2 B2 d2 _ HP2.out.2.1 L1.out L2.out HB.out).mono ?_
      rintro e w3 ⟨v3, rfl, hrow, hk3, hv3⟩
      have HR := Lib.hid hrow
      have HK := Lib.hid hk3
      have HV := Lib.hid hv3
      clear hrow hk3 hv3
      go_wp2_with fail
      go_ret
      refine ⟨v3, rfl, by rw [EF.out]; exact HR.out, A2, c2, by rw [EG.out]; exact HP2.out.1.keep HK.out (fun i hi x => HP2.out.2.2 i hi x), ⟨?_, fun i hi => ?_⟩, fun i hi x => ?_⟩
      · refine (K2.out.mono (S' := rdOwn p A) (fun _ _ x => .inl x)).trans (ST.out.1.trans HK.out (S := pairOwn p A q (.slice none 0 0) none) (fun i hi x => ?_)) (fun i hi x => ?_)
        · rcases ST.out.2 i (.inr x) with y | y
          · exact y
          · omega
        · rcases own0.out i x with y | y
          · exact y
          · have := HZ.out; omega
      · rcases ST.out.2 i (.inl hi) with y | y
        · rcases own0.out i y with y | y
          · exact .inl y
          · have := HZ.out; exact .inr (by omega)
        · have := HZ.out; exact .inr (by omega)
      · rcases HV.out i hi with y | y
        · exact HP2.out.2.2 i x y
        · have := HP2.out.1.lto x; omega

end Go.Proofs.Ytopgejjencoelaa
