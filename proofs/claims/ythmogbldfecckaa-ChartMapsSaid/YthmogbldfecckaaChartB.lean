/- chart.Stops: Set, Clear, None, All, Copy, New; the document's Stops. Own work. -/
import Derived.Test.YthmogbldfecckaaChart
import Derived.Laws.MakeOwn
namespace Go.Proofs.Ythmogbldfecckaa
set_option linter.unusedVariables false
set_option linter.unusedSimpArgs false
open Go.RowKit

set_option maxRecDepth 100000 in
set_option maxHeartbeats 800000 in
theorem chart_set (w : World) (p g n c : Nat) (l : List Bool) (A : Option Addr) (m mc : Nat) (xs : List Int) (h : StopsAt w p g n c l) (hx : Src w A m (xs.map (Value.int .i64))) (hfar : 0 < n → 0 < m → blk A ≠ some g) (hm : m ≤ 1000000) :
    Calls Try.prog 10 #[.pointer (some ⟨p, 0, none⟩), .slice A m mc] w fun e w' => e = .returned (.tuple #[]) ∧ StopsAt w' p g n c (putL true l xs) ∧ Keep (fun i => i = g ∧ 0 < n) w w' := by
  have hP := Lib.hid (chart_put w p g n c l true A m mc xs h hx hfar hm)
  clear h hx hfar
  go_enter Try.func10, Try.ntmps10
  go_wp2_with fail
  refine hP.out.mono ?_
  rintro e w1 ⟨rfl, h1, h2⟩
  have H1 := Lib.hid h1
  have H2 := Lib.hid h2
  clear h1 h2 hP
  go_wp2_with fail
  go_end0
  exact ⟨rfl, H1.out, H2.out⟩

set_option maxRecDepth 100000 in
set_option maxHeartbeats 800000 in
theorem chart_clear (w : World) (p g n c : Nat) (l : List Bool) (A : Option Addr) (m mc : Nat) (xs : List Int) (h : StopsAt w p g n c l) (hx : Src w A m (xs.map (Value.int .i64))) (hfar : 0 < n → 0 < m → blk A ≠ some g) (hm : m ≤ 1000000) :
    Calls Try.prog 11 #[.pointer (some ⟨p, 0, none⟩), .slice A m mc] w fun e w' => e = .returned (.tuple #[]) ∧ StopsAt w' p g n c (putL false l xs) ∧ Keep (fun i => i = g ∧ 0 < n) w w' := by
  have hP := Lib.hid (chart_put w p g n c l false A m mc xs h hx hfar hm)
  clear h hx hfar
  go_enter Try.func11, Try.ntmps11
  go_wp2_with fail
  refine hP.out.mono ?_
  rintro e w1 ⟨rfl, h1, h2⟩
  have H1 := Lib.hid h1
  have H2 := Lib.hid h2
  clear h1 h2 hP
  go_wp2_with fail
  go_end0
  exact ⟨rfl, H1.out, H2.out⟩

theorem zero_bool (w : World) : (zeroValue 4).run Try.prog w = .ok (.bool false) w := by kernel_rfl

theorem Row.sets1 {w : World} {b off n cap : Nat} {xs : List Value} (h : Row w b off n cap xs) (us : List Value) (hu : us.length = n) : Row (w.setCells b off us) b off n cap us := by
  refine ⟨hu, h.le, h.cm, fun j u hj => ?_, fun j hj => ?_⟩
  · have hjl : j < us.length := by
      rcases Nat.lt_or_ge j us.length with x | x
      · exact x
      · rw [List.getElem?_eq_none x] at hj; cases hj
    have := World.cell?_setCells_in b us off w (fun k hk => (h.can k (by have := h.le; omega)).1) j hjl
    rw [this]
    rw [List.getElem?_eq_getElem hjl] at hj
    exact hj
  · rw [World.frozen?_setCells]
    refine ⟨?_, (h.can j hj).2⟩
    by_cases e : j < us.length
    · have := World.cell?_setCells_in b us off w (fun k hk => (h.can k (by have := h.le; omega)).1) j e
      rw [this]; rfl
    · rw [World.cell?_setCells_out _ _ _ _ _ (fun _ _ => by simp; omega)]
      exact (h.can j hj).1

theorem StopsAt.none {w : World} {p g n c : Nat} {l : List Bool} (h : StopsAt w p g n c l) : StopsAt (w.setCells g 0 (List.replicate n (.bool false))) p g n c (List.replicate n false) := by
  have k1 : Keep (· = g) w (w.setCells g 0 (List.replicate n (.bool false))) := keep_setCells (S := fun x => x = g) g (fun _ => rfl) _ _ _ (Keep.refl _ w)
  refine ⟨h.cs.keep k1 (fun e => h.ne e.symm), ?_, h.ne, Nat.lt_of_lt_of_le h.lg k1.size, h.le⟩
  have := h.row.sets1 (List.replicate n (.bool false)) (by simp)
  rwa [List.map_replicate]

set_option maxRecDepth 100000 in
set_option maxHeartbeats 800000 in
theorem chart_none (w : World) (p g n c : Nat) (l : List Bool) (h : StopsAt w p g n c l) :
    Calls Try.prog 12 #[.pointer (some ⟨p, 0, none⟩)] w fun e w' => e = .returned (.tuple #[]) ∧ StopsAt w' p g n c (List.replicate n false) ∧ Keep (fun i => i = g ∧ 0 < n) w w' := by
  have hC := Lib.hid (chart_columns w p g n c l h)
  have hcl : ∀ ty, (Builtin.clear_ #[26] ty #[.slice (some ⟨g, 0, none⟩) n c]).run Try.prog w = .ok (.tuple #[]) (w.setCells g 0 (List.replicate n (.bool false))) := fun ty => by
    rcases Nat.eq_zero_or_pos n with h0 | h0
    · subst h0
      simp [Builtin.clear_, run_underlying Try.underlying26, World.setCells]
    · exact Lib.run_clear_slice w _ _ ty _ Try.underlying26 zero_bool rfl rfl g 0 n c h0 (fun j hj => (h.row.can j (by have := h.row.le; omega)).1) (fun j hj => (h.row.can j (by have := h.row.le; omega)).2)
  have HS := Lib.hid h.none
  have HK : Hid (Keep (fun i => i = g ∧ 0 < n) w (w.setCells g 0 (List.replicate n (.bool false)))) := Lib.hid (by
    rcases Nat.eq_zero_or_pos n with h0 | h0
    · subst h0
      exact Keep.refl _ w
    · exact keep_setCells (S := fun i => i = g ∧ 0 < n) g (fun _ => ⟨rfl, h0⟩) _ _ _ (Keep.refl _ w))
  clear h
  go_enter Try.func12, Try.ntmps12
  go_wp2_with fail
  refine hC.out.mono ?_
  rintro e w1 ⟨rfl, rfl⟩
  go_wp2_with fail
  go_end0
  exact ⟨rfl, HS.out, HK.out⟩

set_option maxRecDepth 100000 in
set_option maxHeartbeats 1600000 in
theorem chart_all (w : World) (p g n c : Nat) (l : List Bool) (h : StopsAt w p g n c l) :
    Calls Try.prog 14 #[.pointer (some ⟨p, 0, none⟩)] w fun e w' => ∃ v, e = .returned v ∧ w'.ownsRow w.heap.size 3 1 v (allL l).length ((allL l).map (Value.int .i64)) ∧ Below w.heap.size w w' := by
  obtain ⟨i0, hi0, hz0, hz1, hz2⟩ := info_parts int_info
  have hC := Lib.hid (chart_columns w p g n c l h)
  have hn := h.le
  have hni : (n : Int) ≤ 40 := by omega
  have H := Lib.hid h
  clear h
  go_enter Try.func14, Try.ntmps14
  go_wp2_with fail
  refine hC.out.mono ?_
  rintro e w1 ⟨rfl, rfl⟩
  go_wp2_with fail
  go_loopw [3, 4, 5, 9] (fun v _ _ i wr => ∃ k : Nat, i = .int .i64 k ∧ k ≤ n ∧ Hid (wr.ownsRow w1.heap.size 3 1 v (allL (l.take k)).length ((allL (l.take k)).map (Value.int .i64))) ∧ Hid (Below w1.heap.size w1 wr)) (fun _ _ _ i _ => n - (intOf i).toNat)
  case atStart => exact ⟨0, rfl, Nat.zero_le _, Lib.hid (World.ownsRow_nil _ _ _ _), Lib.hid (Below.refl _ _)⟩
  case round =>
    obtain ⟨k, rfl, hk, HO, HB⟩ := hrel
    clear hC
    by_cases hlt : k < n
    · have HW := Lib.hid (H.out.keep (S := fun _ => False) (Keep.of_below _ HB.out) (fun x => x) (fun x => x))
      obtain ⟨b, hb, hcb⟩ := HW.out.at' hlt
      have hki : ((k : Int) < (n : Int)) := by omega
      have hk0 : (0 : Int) ≤ (k : Int) := by omega
      have hal := all_take hb
      have hle := all_take_len l k
      have hs1 : w1.heap.size ≤ wr.heap.size := HB.out.size
      have HLE := Lib.hid hle
      clear hb hle
      cases b with
      | false =>
        have HO2 : Hid (wr.ownsRow w1.heap.size 3 1 u3 (allL (l.take (k + 1))).length ((allL (l.take (k + 1))).map (Value.int .i64))) := Lib.hid (by
          rw [hal]; simpa using HO.out)
        clear hal HO
        go_wp2_with fail
        go_roundw
        case rel => exact ⟨k + 1, by go_num, by omega, HO2, HB⟩
        case measure => simp [intOf]; omega
      | true =>
        have hal' : allL (l.take (k + 1)) = allL (l.take k) ++ [(k : Int)] := by rw [hal]; rfl
        obtain ⟨L, hL⟩ : ∃ L, allL (l.take k) = L := ⟨_, rfl⟩
        obtain ⟨nn, hnn⟩ : ∃ nn, L.length = nn := ⟨_, rfl⟩
        rw [hL] at hal' HO HLE
        rw [hnn] at HO HLE
        have HL2 : Hid (allL (l.take (k + 1)) = L ++ [(k : Int)] ∧ L.length = nn) := Lib.hid ⟨hal', hnn⟩
        have hnn40 : nn ≤ 40 := by have := HLE.out; omega
        clear hal hal' hL hnn
        go_wp2_with (at_builtin; refine wpList_own_at _ rfl (.tmp 15) (.tmp 17) 39 rfl w1.heap.size 3 i0 (.int .i64 0) 1 8 Try.underlying39 hi0 hz0 hz1 hz2 rfl (by decide) _ nn (L.map (Value.int .i64)) rfl (own_keep HO.out ((Keep.refl (fun _ => False) wr).alloc _) (fun _ _ x => x)) ⟨wr.heap.size, 0, none⟩ 1 1 [.int .i64 (k : Int)] rfl rfl (cells_new wr [.int .i64 (k : Int)] _ _ rfl) (by intro u hu; simp at hu; subst hu; rfl) ?c3 ?c4 ?c5 ?_)
        case c3 => unfold maxLen; omega
        case c4 => omega
        case c5 => simp; omega
        · intro v' w2 hown hgrow _
          have HO2 : Hid (w2.ownsRow w1.heap.size 3 1 v' (allL (l.take (k + 1))).length ((allL (l.take (k + 1))).map (Value.int .i64))) := Lib.hid (by
            rw [HL2.out.1, List.length_append, HL2.out.2, List.map_append]
            exact hown)
          have HB2 : Hid (Below w1.heap.size w1 w2) := Lib.hid ((HB.out.alloc hs1 _).trans (hgrow.below (by simp; omega) (fun q hq e => by have := (HO.out.lt q e).1; omega)))
          clear hown hgrow HO HB HW
          go_wp2_with fail
          go_roundw
          case rel => exact ⟨k + 1, by go_num, by omega, HO2, HB2⟩
          case measure => simp [intOf]; omega
    · have hkn : k = n := by omega
      subst hkn
      have HO2 : Hid (wr.ownsRow w1.heap.size 3 1 u3 (allL l).length ((allL l).map (Value.int .i64))) := Lib.hid (by
        have := HO.out
        rwa [List.take_of_length_le (by rw [H.out.len]; exact Nat.le_refl _)] at this)
      clear HO
      go_wp2_with fail
      go_ret
      exact ⟨_, rfl, HO2.out, HB.out⟩

end Go.Proofs.Ythmogbldfecckaa
