/- patch: runs, Size. Own work. -/
import Derived.Test.YtgomnigchfmfhaaPat4
namespace Go.Proofs.Ytgomnigchfmfhaa
set_option linter.unusedVariables false
set_option linter.unusedSimpArgs false
open Go.RowKit

theorem chg_any (a b : Scr) (A B : Option Addr) (c d : Nat) (k : Nat) (w : World) (hA : a.at' w A) (hB : b.at' w B) (hn : sizeB a b = true → a.n = b.n) (hk : k < b.n) :
    Calls Try.prog 46 #[a.v A c, b.v B d, .int .i64 k] w fun e w' => e = .returned (.bool (chg a b k)) ∧ Below w.heap.size w w' := by
  cases hs : sizeB a b with
  | true => exact patch_changed_same a b A B c d k w hs hA hB (by rw [hn hs]; exact hk) hk
  | false => rw [chg_size hs]; exact patch_changed_size a b A B c d k w hs

def rv (l : List (Nat × Nat)) : List Value := l.flatMap (fun r => [.int .i64 (r.1 : Int), .int .i64 (r.2 : Int)])
theorem rv_len (l : List (Nat × Nat)) : (rv l).length = l.length * 2 := by
  induction l with
  | nil => rfl
  | cons r l ih => simp only [rv, List.flatMap_cons, List.length_append, List.length_cons, List.length_nil] at ih ⊢; omega
theorem rv_snoc (l : List (Nat × Nat)) (f b : Nat) : rv (l ++ [(f, b)]) = rv l ++ [.int .i64 (f : Int), .int .i64 (b : Int)] := by simp [rv]
theorem rv_at (l : List (Nat × Nat)) : ∀ (i f b : Nat), l[i]? = some (f, b) → (rv l)[i * 2]? = some (.int .i64 (f : Int)) ∧ (rv l)[i * 2 + 1]? = some (.int .i64 (b : Int)) := by
  induction l with
  | nil => intro i f b h; simp at h
  | cons r l ih =>
    intro i f b h
    cases i with
    | zero => simp at h; subst h; exact ⟨rfl, rfl⟩
    | succ i =>
      have := ih i f b (by simpa using h)
      rw [show (i + 1) * 2 = i * 2 + 1 + 1 from by omega]
      simpa [rv] using this
theorem run_row : (Try.prog.info? 53).map (fun i => (i.zero, i.size, i.bytes)) = some (some (.agg #[.int .i64 0, .int .i64 0]), 2, 16) := by kernel_rfl
theorem one_run (f b : Int) : ∀ u ∈ [Value.int .i64 f, Value.int .i64 b], u.oneCell' = true := by
  intro u hu
  simp at hu
  rcases hu with rfl | rfl <;> rfl
/-- A cell of an own row is set. -/
theorem own_set {w : World} {base e size n c g : Nat} {xs : List Value} (h : w.ownsRow base e size (.slice (some ⟨g, 0, none⟩) n c) n xs) (j : Nat) (u : Value) :
    (w.setCell ⟨g, j, none⟩ u).ownsRow base e size (.slice (some ⟨g, 0, none⟩) n c) n (xs.set j u) := by
  rcases h with ⟨hl, ⟨h, _⟩ | ⟨g', cap, cur, h, hb, hg, h1, h2, h3, h4⟩⟩
  · cases h
  · injection h with h5 h6 h7
    injection h5 with h5
    injection h5 with h5
    subst h5 h7
    refine ⟨by rw [List.length_set]; exact hl, .inr ⟨g, c, cur.setIfInBounds j u, rfl, hb, heap_set hg j u, h1, h2, by simp [h3], ?_⟩⟩
    rw [← h4, Array.toList_setIfInBounds, List.take_set]
/-- The last of the runs that lie there. -/
theorem own_last {w : World} {B z : Nat} {C : Option Addr} {r : List (Nat × Nat)} {f b : Nat} (h : w.ownsRow B 53 2 (.slice C (r ++ [(f, b)]).length z) (r ++ [(f, b)]).length (rv (r ++ [(f, b)]))) :
    ∃ g, C = some ⟨g, 0, none⟩ ∧ B ≤ g ∧ g < w.heap.size ∧ Cell w g (r.length * 2 + 1) (.int .i64 (b : Int)) ∧ Cell w g (r.length * 2) (.int .i64 (f : Int)) := by
  obtain ⟨h1, ⟨h2, _⟩ | ⟨g, cap, cur, h2, hb, hg, h3, h4, h5, h6⟩⟩ := h
  · injection h2 with h2 h3; simp at h3
  · injection h2 with h2
    have q := rv_at (r ++ [(f, b)]) r.length f b (by simp)
    have hs : ∀ j u, (rv (r ++ [(f, b)]))[j]? = some u → cur[j]? = some u := fun j u hj => by
      rw [← h6] at hj
      rw [List.getElem?_take] at hj
      split at hj
      · simpa using hj
      · cases hj
    exact ⟨g, h2, hb, lt_heap hg, cell_in hg _ (hs _ _ q.2), cell_in hg _ (hs _ _ q.1)⟩
theorem rv_set (r : List (Nat × Nat)) (f b : Nat) : (rv (r ++ [(f, b)])).set (r.length * 2 + 1) (.int .i64 ((b : Int) + 1)) = rv (r ++ [(f, b + 1)]) := by
  rw [rv_snoc, rv_snoc, ← rv_len, List.set_append_right _ _ (by omega)]
  simp [List.set]
theorem own_below2 {w w' : World} {B n z : Nat} {C : Option Addr} {e size : Nat} {xs : List Value} (h : w.ownsRow B e size (.slice C n z) n xs) (k : Keep (fun i => (Value.slice C n z).ownBlock = some i) w w') {w0 : World} (hb : Below w0.heap.size w0 w) (hB : w0.heap.size ≤ B) : Below w0.heap.size w0 w' :=
  hb.trans (k.below hb.size (fun i hi e => by have := (World.ownsRow.lt h i e).1; omega))

set_option maxRecDepth 100000 in
set_option maxHeartbeats 6400000 in
theorem patch_runs_bad (a b : Scr) (A B : Option Addr) (c d : Nat) (w : World) (hA : a.at' w A) (hB : b.at' w B) (hn1 : a.n ≤ 1099511627776) (hn2 : b.n ≤ 1099511627776) (hv : (validB a && validB b) = false) :
    Calls Try.prog 20 #[a.v A c, b.v B d] w fun e w' => e = .returned (.tuple #[.slice none 0 0, .int .i64 1]) ∧ Below w.heap.size w w' := by
  obtain ⟨W0, hW0, hb0, q1, q2⟩ := scr_boxes w (a.cs A c) (b.cs B d) 24
  have HVA : Hid (∀ V, Below w.heap.size w V → Calls Try.prog 9 #[a.v A c] V fun e w' => e = .returned (.bool (validB a)) ∧ Below V.heap.size V w') := Lib.hid (fun V k => patch_Valid a A c V (hA.keep (Keep.of_below _ k)) hn1)
  have HVB : Hid (∀ V, Below w.heap.size w V → Calls Try.prog 9 #[b.v B d] V fun e w' => e = .returned (.bool (validB b)) ∧ Below V.heap.size V w') := Lib.hid (fun V k => patch_Valid b B d V (hB.keep (Keep.of_below _ k)) hn2)
  have HB0 := Lib.hid hb0
  have Q1 := Lib.hid q1
  have Q2 := Lib.hid q2
  clear hA hB hb0 q1 q2 hn1 hn2
  generalize validB a = va at HVA hv
  generalize validB b = vb at HVB hv
  obtain ⟨p, hp⟩ : ∃ p, p = w.heap.size := ⟨_, rfl⟩
  rw [← hp] at Q1 Q2
  obtain ⟨W, H, n, F, X, Y, hi⟩ := a
  obtain ⟨W', H', n', F', X', Y', hi'⟩ := b
  simp only [Scr.v, Scr.cs] at hW0 HVA HVB Q1 Q2 ⊢
  go_enter Try.func20, Try.ntmps20
  go_upto_region 1 with fail
  rw [← hW0, ← hp]
  clear hW0 hp
  have a0 := cell_at Q1.out 0; have a1 := cell_at Q1.out 1; have a2 := cell_at Q1.out 2; have a3 := cell_at Q1.out 3; have a4 := cell_at Q1.out 4; have a5 := cell_at Q1.out 5
  simp at a0 a1 a2 a3 a4 a5
  go_wp2_with fail
  refine (HVA.out _ HB0.out).mono ?_
  rintro e w1 ⟨rfl, hb⟩
  have HB1 : Hid (Below w.heap.size w w1) := Lib.hid (HB0.out.trans (hb.mono HB0.out.size))
  have Q2' := Lib.hid ((Keep.of_below (fun _ => False) hb).heap Q2.out (fun x => x))
  clear a0 a1 a2 a3 a4 a5 hb Q1 Q2
  have b0 := cell_at Q2'.out 0; have b1 := cell_at Q2'.out 1; have b2 := cell_at Q2'.out 2; have b3 := cell_at Q2'.out 3; have b4 := cell_at Q2'.out 4; have b5 := cell_at Q2'.out 5
  simp at b0 b1 b2 b3 b4 b5
  cases va
  · go_wp2_with fail
    go_ret2
    exact ⟨rfl, HB1.out⟩
  cases vb
  · go_wp2_with fail
    refine (HVB.out _ HB1.out).mono ?_
    rintro e w2 ⟨rfl, hb⟩
    have HB2 : Hid (Below w.heap.size w w2) := Lib.hid (HB1.out.trans (hb.mono HB1.out.size))
    clear hb
    go_wp2_with fail
    go_ret2
    exact ⟨rfl, HB2.out⟩
  · cases hv

/-- The runs that are told, in a row of the call's own. -/
def RunsTo (l : List (Nat × Nat)) (w : World) (e : Ending) (w' : World) : Prop := ∃ A c, e = .returned (.tuple #[.slice A l.length c, .int .i64 0]) ∧ w'.ownsRow w.heap.size 53 2 (.slice A l.length c) l.length (rv l) ∧ Below w.heap.size w w'

set_option maxRecDepth 100000 in
set_option maxHeartbeats 12800000 in
theorem patch_runs (a b : Scr) (A B : Option Addr) (c d : Nat) (w : World) (hA : a.at' w A) (hB : b.at' w B) (ha : a.Ok) (hb : b.Ok) :
    Calls Try.prog 20 #[a.v A c, b.v B d] w (RunsTo (runsN (chg a b) b.n) w) := by
  obtain ⟨W0, hW0, hb0, q1, q2⟩ := scr_boxes w (a.cs A c) (b.cs B d) 24
  have hn8 := hb.n800.1
  have hn8a := ha.n800.1
  obtain ⟨i0, hi0, hz0, hz1, hz2⟩ := info_parts run_row
  have HVA : Hid (∀ V, Below w.heap.size w V → Calls Try.prog 9 #[a.v A c] V fun e w' => e = .returned (.bool true) ∧ Below V.heap.size V w') := Lib.hid (fun V k => by
    have := patch_Valid a A c V (hA.keep (Keep.of_below _ k)) (by omega); rwa [(validB_iff a).2 ha] at this)
  have HVB : Hid (∀ V, Below w.heap.size w V → Calls Try.prog 9 #[b.v B d] V fun e w' => e = .returned (.bool true) ∧ Below V.heap.size V w') := Lib.hid (fun V k => by
    have := patch_Valid b B d V (hB.keep (Keep.of_below _ k)) (by omega); rwa [(validB_iff b).2 hb] at this)
  have HCH : Hid (∀ V (k : Nat), Below w.heap.size w V → k < b.n → Calls Try.prog 46 #[a.v A c, b.v B d, .int .i64 k] V fun e w' => e = .returned (.bool (chg a b k)) ∧ Below V.heap.size V w') := Lib.hid (fun V k kk hk =>
    chg_any a b A B c d k V (hA.keep (Keep.of_below _ kk)) (hB.keep (Keep.of_below _ kk)) (fun hs => by
      simp only [sizeB, decide_eq_true_eq] at hs
      have e1 := ha.n
      have e2 := hb.n
      rw [hs.1, hs.2] at e1
      omega) hk)
  have HB0 := Lib.hid hb0
  have Q1 := Lib.hid q1
  have Q2 := Lib.hid q2
  clear hA hB hb0 q1 q2 ha hb hn8a
  obtain ⟨ch, hch⟩ : ∃ ch, ch = chg a b := ⟨_, rfl⟩
  rw [← hch] at HCH
  rw [← hch]
  clear hch
  have HL := Lib.hid (fun k => runsN_len ch k)
  obtain ⟨p, hp⟩ : ∃ p, p = w.heap.size := ⟨_, rfl⟩
  rw [← hp] at Q1 Q2
  have HPW : Hid (w.heap.size = p) := Lib.hid hp.symm
  obtain ⟨W, H, n, F, X, Y, hi⟩ := a
  obtain ⟨W', H', n', F', X', Y', hi'⟩ := b
  simp only [Scr.v, Scr.cs] at hW0 HVA HVB HCH Q1 Q2 hn8 ⊢
  go_enter Try.func20, Try.ntmps20
  go_upto_region 1 with fail
  rw [← hW0, ← hp]
  clear hW0 hp
  have a0 := cell_at Q1.out 0; have a1 := cell_at Q1.out 1; have a2 := cell_at Q1.out 2; have a3 := cell_at Q1.out 3; have a4 := cell_at Q1.out 4; have a5 := cell_at Q1.out 5
  simp at a0 a1 a2 a3 a4 a5
  go_wp2_with fail
  refine (HVA.out _ HB0.out).mono ?_
  rintro e w1 ⟨rfl, hb⟩
  have HB1 : Hid (Below w.heap.size w w1) := Lib.hid (HB0.out.trans (hb.mono HB0.out.size))
  have Q1' := Lib.hid ((Keep.of_below (fun _ => False) hb).heap Q1.out (fun x => x))
  have Q2' := Lib.hid ((Keep.of_below (fun _ => False) hb).heap Q2.out (fun x => x))
  clear a0 a1 a2 a3 a4 a5 hb Q1 Q2
  have b0 := cell_at Q2'.out 0; have b1 := cell_at Q2'.out 1; have b2 := cell_at Q2'.out 2; have b3 := cell_at Q2'.out 3; have b4 := cell_at Q2'.out 4; have b5 := cell_at Q2'.out 5
  simp at b0 b1 b2 b3 b4 b5
  go_wp2_with fail
  refine (HVB.out _ HB1.out).mono ?_
  rintro e w2 ⟨rfl, hb⟩
  have HB2 : Hid (Below w.heap.size w w2) := Lib.hid (HB1.out.trans (hb.mono HB1.out.size))
  have Q1 := Lib.hid ((Keep.of_below (fun _ => False) hb).heap Q1'.out (fun x => x))
  have Q2 := Lib.hid ((Keep.of_below (fun _ => False) hb).heap Q2'.out (fun x => x))
  clear b0 b1 b2 b3 b4 b5 hb Q1' Q2'
  have b2 := cell_at Q2.out 2
  simp at b2
  go_wp2_with fail
  go_loopw [6, 20] (fun l i wr => ∃ (k : Nat) (C : Option Addr) (z : Nat), k ≤ n' ∧ i = .int .i64 k ∧ l = .slice C (runsN ch k).length z ∧ Hid (wr.ownsRow w2.heap.size 53 2 (.slice C (runsN ch k).length z) (runsN ch k).length (rv (runsN ch k))) ∧ Hid (Below w2.heap.size w2 wr)) (fun _ i _ => n' - (intOf i).toNat)
  case atStart => exact ⟨0, none, 0, by omega, rfl, rfl, Lib.hid (World.ownsRow_nil _ _ _ _), Lib.hid (Below.refl _ _)⟩
  case round =>
    obtain ⟨k, C, z, hk, rfl, rfl, HO, HB⟩ := hrel
    by_cases hlt : k < n'
    · have HBW : Hid (Below w.heap.size w wr) := Lib.hid (HB2.out.trans (HB.out.mono HB2.out.size))
      have K := Keep.of_below (fun _ => False) HB.out
      have R1 := Lib.hid (K.heap Q1.out (fun x => x))
      have R2 := Lib.hid (K.heap Q2.out (fun x => x))
      have a0 := cell_at R1.out 0; have a1 := cell_at R1.out 1; have a2 := cell_at R1.out 2; have a3 := cell_at R1.out 3; have a4 := cell_at R1.out 4; have a5 := cell_at R1.out 5
      have b0 := cell_at R2.out 0; have b1 := cell_at R2.out 1; have b2 := cell_at R2.out 2; have b3 := cell_at R2.out 3; have b4 := cell_at R2.out 4; have b5 := cell_at R2.out 5
      simp at a0 a1 a2 a3 a4 a5 b0 b1 b2 b3 b4 b5
      have hki : ((k : Int) < (n' : Int)) := by omega
      have hk0 : (0 : Int) ≤ (k : Int) := by omega
      clear K
      go_wp2_with fail
      refine (HCH.out _ k HBW.out hlt).mono ?_
      rintro e w3 ⟨rfl, hb⟩
      have HB3 : Hid (Below w2.heap.size w2 w3) := Lib.hid (HB.out.trans (hb.mono HB.out.size))
      have HO3 := Lib.hid (own_below HO.out hb (fun i hi => (World.ownsRow.lt HO.out i hi).2))
      clear hb a0 a1 a2 a3 a4 a5 b0 b1 b2 b3 b4 b5
      have hlen := HL.out k
      obtain ⟨cb, hcb⟩ : ∃ cb, ch k = cb := ⟨_, rfl⟩
      cases cb
      · have HE := Lib.hid (runsN_no hcb)
        rw [hcb]
        clear hcb
        go_wp2_with fail
        go_roundw
        case rel => exact ⟨k + 1, C, z, by omega, by go_num, by rw [HE.out], Lib.hid (by rw [HE.out]; exact HO3.out), HB3⟩
        case measure => simp [intOf]; omega
      · have hy := runsN_yes hcb
        rw [hcb]
        clear hcb
        rcases last_split (runsN ch k) with e0 | ⟨r, ⟨f, b⟩, e0⟩
        · rw [e0] at HO3 hy
          have HE : Hid (runsN ch (k + 1) = [(k, k + 1)]) := Lib.hid hy
          have hl0 : (runsN ch k).length = 0 := by rw [e0]; rfl
          rw [hl0]
          clear e0 hy hl0 hlen HO
          simp only [List.length_nil] at HO3
          go_wp2_with (at_builtin; refine wpList_own_at _ rfl (.tmp 51) (.tmp 56) 43 rfl w2.heap.size 53 i0 _ 2 16 Try.underlying43 hi0 hz0 hz1 hz2 rfl (by decide) _ _ _ rfl (own_keep HO3.out ((Keep.refl (fun _ => False) w3).alloc _) (fun _ _ x => x)) ⟨w3.heap.size, 0, none⟩ 1 1 [.int .i64 (k : Int), .int .i64 ((k : Int) + 1)] rfl rfl (cells_new w3 _ _ _ rfl) (one_run _ _) ?c3x ?c4x ?c5x ?_)
          case c3x => unfold maxLen; omega
          case c4x => omega
          case c5x => have := HB3.out.size; simp; omega
          intro v4 w4 hown hk hat
          obtain ⟨A4, z4, rfl, -⟩ := own_form hown
          have HO4 := Lib.hid hown
          have HB4 : Hid (Below w2.heap.size w2 w4) := Lib.hid (own_below2 (own_keep HO3.out ((Keep.refl (fun _ => False) w3).alloc (.cells #[.int .i64 (k : Int), .int .i64 ((k : Int) + 1)] 53)) (fun _ _ x => x)) hk (HB3.out.alloc HB3.out.size _) (Nat.le_refl _))
          clear hown hk hat
          go_wp2_with fail
          go_roundw
          case rel => exact ⟨k + 1, A4, z4, by omega, by go_num, by rw [HE.out]; simp, Lib.hid (by rw [HE.out]; simpa [rv_snoc, rv] using HO4.out), HB4⟩
          case measure => simp [intOf]; omega
        · rw [e0] at HO3 hy hlen
          have hl1 : (runsN ch k).length = r.length + 1 := by rw [e0]; simp
          obtain ⟨g, rfl, hg1, hg2, cb1, cb2⟩ := own_last HO3.out
          have HG := Lib.hid hg1
          obtain ⟨x1, x2⟩ := cb1
          rw [hl1]
          simp only [List.length_append, List.length_cons, List.length_nil, Nat.zero_add] at HO3 hlen
          by_cases hbk : b = k
          · subst hbk
            rw [pushR_last] at hy
            have HE := Lib.hid hy
            have eb : ((b : Int) == (b : Int)) = true := by simp
            clear hy e0 hl1 HO cb2
            go_wp2_with fail
            go_roundw
            case rel =>
              refine ⟨b + 1, some ⟨g, 0, none⟩, z, by omega, by go_num, by rw [HE.out]; simp, Lib.hid ?_, Lib.hid ?_⟩
              · rw [HE.out]
                have := own_set HO3.out (r.length * 2 + 1) (.int .i64 ((b : Int) + 1))
                rw [rv_set] at this
                simpa using this
              · exact HB3.out.trans ((keep_set w3 g _ _).below HB3.out.size (fun i hi e => by have := HG.out; omega))
            case measure => simp [intOf]; omega
          · rw [pushR_far _ _ _ _ hbk] at hy
            have HE := Lib.hid hy
            have eb : ((b : Int) == (k : Int)) = false := by simp; omega
            clear hy e0 hl1 HO cb2
            go_wp2_with (at_builtin; refine wpList_own_at _ rfl (.tmp 51) (.tmp 56) 43 rfl w2.heap.size 53 i0 _ 2 16 Try.underlying43 hi0 hz0 hz1 hz2 rfl (by decide) _ _ _ rfl (own_keep HO3.out ((Keep.refl (fun _ => False) w3).alloc _) (fun _ _ x => x)) ⟨w3.heap.size, 0, none⟩ 1 1 [.int .i64 (k : Int), .int .i64 ((k : Int) + 1)] rfl rfl (cells_new w3 _ _ _ rfl) (one_run _ _) ?c3y ?c4y ?c5y ?_)
            case c3y => unfold maxLen; omega
            case c4y => omega
            case c5y => have := HB3.out.size; simp; omega
            intro v4 w4 hown hk hat
            obtain ⟨A4, z4, rfl, -⟩ := own_form hown
            have HO4 := Lib.hid hown
            have HB4 : Hid (Below w2.heap.size w2 w4) := Lib.hid (own_below2 (own_keep HO3.out ((Keep.refl (fun _ => False) w3).alloc (.cells #[.int .i64 (k : Int), .int .i64 ((k : Int) + 1)] 53)) (fun _ _ x => x)) hk (HB3.out.alloc HB3.out.size _) (Nat.le_refl _))
            clear hown hk hat
            go_wp2_with fail
            go_roundw
            case rel => exact ⟨k + 1, A4, z4, by omega, by go_num, by rw [HE.out]; simp, Lib.hid (by rw [HE.out]; simpa [rv_snoc, rv] using HO4.out), HB4⟩
            case measure => simp [intOf]; omega
    · obtain rfl : k = n' := by omega
      have hki : ¬ ((k : Int) < (k : Int)) := by omega
      have HBW : Hid (Below w.heap.size w wr) := Lib.hid (HB2.out.trans (HB.out.mono HB2.out.size))
      have HOF : Hid (wr.ownsRow w.heap.size 53 2 (.slice C (runsN ch k).length z) (runsN ch k).length (rv (runsN ch k))) := Lib.hid (own_base HO.out HB2.out.size)
      go_wp2_with fail
      go_ret2
      exact ⟨C, z, rfl, HOF.out, HBW.out⟩

theorem sumR_take (l : List (Nat × Nat)) (k f b : Nat) (h : l[k]? = some (f, b)) : sumR (l.take (k + 1)) = sumR (l.take k) + (b - f) := by
  rw [take_next h, sumR_snoc]
theorem sumR_le (e n : Nat) (l : List (Nat × Nat)) (h : Sorted e n l) : ∀ k, sumR (l.take k) ≤ n - e := by
  induction l generalizing e with
  | nil => intro k; simp [sumR]
  | cons r l ih =>
    intro k
    cases k with
    | zero => simp [sumR]
    | succ k =>
      have := ih _ h.2.2.2 k
      have h1 := h.1
      have h2 := h.2.1
      have h3 := h.2.2.1
      simp only [List.take_succ_cons, sumR, List.map_cons, List.sum_cons] at this ⊢
      omega
theorem Sorted.at' {e n : Nat} {l : List (Nat × Nat)} (h : Sorted e n l) : ∀ (k f b : Nat), l[k]? = some (f, b) → e ≤ f ∧ f < b ∧ b ≤ n := by
  induction l generalizing e with
  | nil => intro k f b h; simp at h
  | cons r l ih =>
    intro k f b hk
    cases k with
    | zero => simp at hk; subst hk; exact ⟨h.1, h.2.1, h.2.2.1⟩
    | succ k =>
      have := ih h.2.2.2 k f b (by simpa using hk)
      have h2 := h.1
      have h3 := h.2.1
      exact ⟨by omega, this.2⟩
/-- The two cells of a run. -/
theorem own_two {w : World} {B n z k f b : Nat} {C : Option Addr} {l : List (Nat × Nat)} (h : w.ownsRow B 53 2 (.slice C n z) n (rv l)) (hn : n = l.length) (hk : l[k]? = some (f, b)) :
    ∃ g, C = some ⟨g, 0, none⟩ ∧ g < w.heap.size ∧ w.cell? ⟨g, k * 2, none⟩ = some (.int .i64 (f : Int)) ∧ w.cell? ⟨g, k * 2 + 1, none⟩ = some (.int .i64 (b : Int)) := by
  have hl : k < l.length := (List.getElem?_eq_some_iff.1 hk).1
  have q := rv_at l k f b hk
  obtain ⟨h1, ⟨h2, h3⟩ | ⟨g, cap, cur, h2, hb, hg, h3, h4, h5, h6⟩⟩ := h
  · omega
  · injection h2 with h2
    have hs : ∀ j u, (rv l)[j]? = some u → w.cell? ⟨g, j, none⟩ = some u := fun j u hj => by
      rw [← h6] at hj
      rw [List.getElem?_take] at hj
      split at hj
      · exact (cell_at hg j).trans (by simpa using hj)
      · cases hj
    exact ⟨g, h2, lt_heap hg, hs _ _ q.1, hs _ _ q.2⟩

set_option maxRecDepth 100000 in
set_option maxHeartbeats 6400000 in
theorem patch_Size_bad (a b : Scr) (A B : Option Addr) (c d : Nat) (w : World) (hA : a.at' w A) (hB : b.at' w B) (hn1 : a.n ≤ 1099511627776) (hn2 : b.n ≤ 1099511627776) (hv : (validB a && validB b) = false) :
    Calls Try.prog 12 #[a.v A c, b.v B d] w fun e w' => e = .returned (.int .i64 0) ∧ Below w.heap.size w w' := by
  obtain ⟨W0, hW0, hb0, q1, q2⟩ := scr_boxes w (a.cs A c) (b.cs B d) 24
  have HR := Lib.hid (patch_runs_bad a b A B c d W0 (hA.keep (Keep.of_below _ hb0)) (hB.keep (Keep.of_below _ hb0)) hn1 hn2 hv)
  have HB0 := Lib.hid hb0
  obtain ⟨p, hp⟩ : ∃ p, p = w.heap.size := ⟨_, rfl⟩
  rw [← hp] at q1 q2
  have a0 := cell_at q1 0; have a1 := cell_at q1 1; have a2 := cell_at q1 2; have a3 := cell_at q1 3; have a4 := cell_at q1 4; have a5 := cell_at q1 5
  have b0 := cell_at q2 0; have b1 := cell_at q2 1; have b2 := cell_at q2 2; have b3 := cell_at q2 3; have b4 := cell_at q2 4; have b5 := cell_at q2 5
  clear hA hB hb0 hn1 hn2 hv q1 q2
  obtain ⟨W, H, n, F, X, Y, hi⟩ := a
  obtain ⟨W', H', n', F', X', Y', hi'⟩ := b
  simp only [Scr.v, Scr.cs] at hW0 HR a0 a1 a2 a3 a4 a5 b0 b1 b2 b3 b4 b5 ⊢
  simp at a0 a1 a2 a3 a4 a5 b0 b1 b2 b3 b4 b5
  go_enter Try.func12, Try.ntmps12
  go_upto_region 1 with fail
  rw [← hW0, ← hp]
  clear hW0 hp
  go_wp2_with fail
  refine HR.out.mono ?_
  rintro e w1 ⟨rfl, hb⟩
  have HB1 : Hid (Below w.heap.size w w1) := Lib.hid (HB0.out.trans (hb.mono HB0.out.size))
  clear hb a0 a1 a2 a3 a4 a5 b0 b1 b2 b3 b4 b5
  go_wp2_with fail
  go_loopw [7, 18] (fun s i wr => s = .int .i64 0 ∧ i = .int .i64 0 ∧ wr = w1) (fun _ i _ => 0)
  case atStart => exact ⟨rfl, rfl, rfl⟩
  case round =>
    obtain ⟨rfl, rfl, rfl⟩ := hrel
    go_wp2_with fail
    go_ret
    exact ⟨rfl, HB1.out⟩

set_option maxRecDepth 100000 in
set_option maxHeartbeats 6400000 in
theorem patch_Size (a b : Scr) (A B : Option Addr) (c d : Nat) (w : World) (hA : a.at' w A) (hB : b.at' w B) (ha : a.Ok) (hb : b.Ok) :
    Calls Try.prog 12 #[a.v A c, b.v B d] w fun e w' => e = .returned (.int .i64 (cntN (chg a b) b.n : Nat)) ∧ Below w.heap.size w w' := by
  obtain ⟨W0, hW0, hb0, q1, q2⟩ := scr_boxes w (a.cs A c) (b.cs B d) 24
  have HR := Lib.hid (patch_runs a b A B c d W0 (hA.keep (Keep.of_below _ hb0)) (hB.keep (Keep.of_below _ hb0)) ha hb)
  have HB0 := Lib.hid hb0
  have hn8 := hb.n800.1
  obtain ⟨hso, -, hsum, -, -⟩ := runsN_ok (chg a b) b.n
  have hl8 := runsN_len (chg a b) b.n
  generalize runsN (chg a b) b.n = l at HR hso hsum hl8
  have HSum := Lib.hid hsum
  have HSo := Lib.hid hso
  obtain ⟨p, hp⟩ : ∃ p, p = w.heap.size := ⟨_, rfl⟩
  rw [← hp] at q1 q2
  have a0 := cell_at q1 0; have a1 := cell_at q1 1; have a2 := cell_at q1 2; have a3 := cell_at q1 3; have a4 := cell_at q1 4; have a5 := cell_at q1 5
  have b0 := cell_at q2 0; have b1 := cell_at q2 1; have b2 := cell_at q2 2; have b3 := cell_at q2 3; have b4 := cell_at q2 4; have b5 := cell_at q2 5
  clear hA hB hb0 ha hb q1 q2 hso hsum
  generalize cntN (chg a b) b.n = res at HSum ⊢
  obtain ⟨W, H, n, F, X, Y, hi⟩ := a
  obtain ⟨W', H', n', F', X', Y', hi'⟩ := b
  simp only [Scr.v, Scr.cs] at hW0 HR a0 a1 a2 a3 a4 a5 b0 b1 b2 b3 b4 b5 HSo hn8 hl8 ⊢
  simp at a0 a1 a2 a3 a4 a5 b0 b1 b2 b3 b4 b5
  go_enter Try.func12, Try.ntmps12
  go_upto_region 1 with fail
  rw [← hW0, ← hp]
  clear hW0 hp
  go_wp2_with fail
  refine HR.out.mono ?_
  rintro e w1 ⟨C, z, rfl, ho, hb⟩
  have HB1 : Hid (Below w.heap.size w w1) := Lib.hid (HB0.out.trans (hb.mono HB0.out.size))
  have HO := Lib.hid ho
  clear hb ho a0 a1 a2 a3 a4 a5 b0 b1 b2 b3 b4 b5
  obtain ⟨m, hm⟩ : ∃ m, l.length = m := ⟨_, rfl⟩
  rw [hm] at HO hl8
  rw [hm]
  have HM := Lib.hid hm.symm
  clear hm
  go_wp2_with fail
  go_loopw [7, 18] (fun s i wr => ∃ (k t : Nat), k ≤ m ∧ i = .int .i64 k ∧ s = .int .i64 t ∧ Hid (t = sumR (l.take k)) ∧ t ≤ 800 ∧ Hid (Below w1.heap.size w1 wr)) (fun _ i _ => m - (intOf i).toNat)
  case atStart => exact ⟨0, 0, by omega, rfl, rfl, Lib.hid rfl, by omega, Lib.hid (Below.refl _ _)⟩
  case round =>
    obtain ⟨k, t, hk, rfl, rfl, HT, ht8, HB⟩ := hrel
    by_cases hlt : k < m
    · obtain ⟨⟨f, b⟩, hkx⟩ : ∃ x, l[k]? = some x := ⟨l[k]'(by rw [← HM.out]; exact hlt), List.getElem?_eq_getElem _⟩
      obtain ⟨h1, h2, h3⟩ := HSo.out.at' k f b hkx
      have HS1 := Lib.hid (sumR_take l k f b hkx)
      have HS2 := Lib.hid (sumR_le _ _ l HSo.out (k + 1))
      obtain ⟨g, rfl, hg, x1, x2⟩ := own_two (own_below HO.out HB.out (fun i hi => (World.ownsRow.lt HO.out i hi).2)) HM.out hkx
      have hki : ((k : Int) < (m : Int)) := by omega
      have hk0 : (0 : Int) ≤ (k : Int) := by omega
      have hbi : (b : Int) ≤ 800 := by omega
      have hfi : (f : Int) ≤ (b : Int) := by omega
      have hti : (t : Int) ≤ 800 := by omega
      clear hkx
      go_wp2_with fail
      go_roundw
      case rel =>
        have e1 := HS1.out
        have e2 := HS2.out
        have e3 := HT.out
        exact ⟨k + 1, t + (b - f), by omega, by go_num, by congr 1; omega, Lib.hid (by omega), by omega, Lib.hid ((HB.out.alloc HB.out.size _).trans (by first | exact Below.refl _ _ | exact (keep_set _ _ _ _).below (Nat.le_refl _) (fun i hi e => by simp at hi e; omega)))⟩
      case measure => simp [intOf]; omega
    · obtain rfl : k = m := by omega
      have hki : ¬ ((k : Int) < (k : Int)) := by omega
      have HB2 : Hid (Below w.heap.size w wr) := Lib.hid (HB1.out.trans (HB.out.mono HB1.out.size))
      have HF : Hid (t = res) := Lib.hid (by rw [HT.out, ← HSum.out, List.take_of_length_le (by rw [HM.out]; exact Nat.le_refl _)])
      go_wp2_with fail
      go_ret
      exact ⟨by rw [← HF.out]; rfl, HB2.out⟩

end Go.Proofs.Ytgomnigchfmfhaa
