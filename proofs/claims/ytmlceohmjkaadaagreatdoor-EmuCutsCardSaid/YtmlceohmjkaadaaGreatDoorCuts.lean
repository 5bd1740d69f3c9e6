/- pontoonbook's Cuts. Own work. -/
import Derived.Test.YtmlceohmjkaadaaGreatDoorBase
import Derived.IntWalk
namespace Go.Proofs.YtmlceohmjkaadaaGreatDoor
set_option linter.unusedVariables false
set_option linter.unusedSimpArgs false
open Go.RowKit

/-- Behind Cuts: parts of s. -/
def CutsIs (s : ByteArray) (n : Nat) (w : World) (e : Ending) (w' : World) : Prop :=
  ∃ v ps, e = .returned v ∧ w'.ownsRow w.heap.size 9 1 v ps.length (ps.map Value.string) ∧ joinL ps = s.data.toList ∧ ps.length ≤ n + 1 ∧ Below w.heap.size w w'

set_option maxRecDepth 100000 in
set_option maxHeartbeats 1600000 in
theorem cuts_any (s : ByteArray) (A : Option Addr) (n c : Nat) (xs : List Int) (w : World) (h : Src w A n (xs.map (Value.int .i64))) (hx : ∀ x ∈ xs, -9223372036854775808 ≤ x ∧ x ≤ 9223372036854775807) (hs : s.size ≤ 1000000000000) (hn : n ≤ 1000000000000) :
    Calls Tryz.prog 21 #[.string s, .slice A n c] w (CutsIs s n w) := by
  obtain ⟨i0, hi, hz0, hz1, hz2⟩ := info_parts string_info
  have hl := Lib.hid (show xs.length = n from by have := h.1; rwa [List.length_map] at this)
  have H := Lib.hid h
  have HX := Lib.hid hx
  have HS := Lib.hid hs
  have hnb : (n : Int) ≤ 1000000000000 := by omega
  clear h hx hs
  go_enter Tryz.func21, Tryz.ntmps21
  go_wp2_with fail
  go_loopw [0, 5, 6] (fun q o i wr => ∃ (k : Nat) (r : ByteArray) (ps : List ByteArray), i = .int .i64 k ∧ k ≤ n ∧ q = .string r ∧ Hid (wr.ownsRow w.heap.size 9 1 o ps.length (ps.map Value.string)) ∧ Hid (joinL ps ++ r.data.toList = s.data.toList) ∧ ps.length ≤ k ∧ Hid (Below w.heap.size w wr)) (fun _ _ i _ => n - (intOf i).toNat)
  case atStart => exact ⟨0, s, [], rfl, by omega, rfl, World.ownsRow_nil _ _ _ _, Lib.hid (by simp [joinL]), by simp, Below.refl _ _⟩
  case round =>
    obtain ⟨k, r, ps, rfl, hk, rfl, ho, hj, hpk, hb⟩ := hrel
    have hrs : (r.size : Int) ≤ 1000000000000 := by
      have h1 := congrArg List.length hj.out
      rw [List.length_append, ← Lib.size_eq, ← Lib.size_eq] at h1
      have := HS.out
      omega
    have hr0 : (0 : Int) ≤ (r.size : Int) := by omega
    by_cases hlt : k < n ∧ 0 < r.size
    · obtain ⟨hkn, hrp⟩ := hlt
      obtain ⟨x, hxk⟩ : ∃ x, xs[k]? = some x := ⟨xs[k]'(by rw [hl.out]; exact hkn), List.getElem?_eq_getElem _⟩
      have hsr := H.out.far (S := fun i => w.heap.size ≤ i) ⟨hb.out.os, hb.out.tape, hb.out.output, hb.out.size, fun i hi hn => hb.out.block i (by omega)⟩ (fun h0 i hi x => by have := H.out.lt h0 hi; omega)
      obtain ⟨b, o, rfl, hbl, hcs⟩ := hsr.2 (by omega)
      have hcx : wr.cell? ⟨b, o + k, none⟩ = some (.int .i64 x) := hcs k _ (by rw [List.getElem?_map, hxk]; rfl)
      obtain ⟨hx0, hx1⟩ := HX.out x (List.mem_of_getElem? hxk)
      have hrp' : (0 : Int) < (r.size : Int) := by omega
      clear hcs hxk hsr
      obtain ⟨tm, htm⟩ : ∃ tm, x.tmod ((r.size : Int) + 1) = tm := ⟨_, rfl⟩
      have ht1 : -(r.size : Int) ≤ tm := by
        have h1 := Int.natAbs_tmod x ((r.size : Int) + 1)
        have h2 := Nat.mod_lt x.natAbs (show 0 < ((r.size : Int) + 1).natAbs by omega)
        rw [← h1, htm] at h2
        omega
      have ht2 : tm ≤ (r.size : Int) := by
        have := Int.tmod_lt_of_pos x (show 0 < (r.size : Int) + 1 by omega)
        omega
      obtain ⟨m, hm⟩ : ∃ m : Nat, (tm + (r.size : Int) + 1) % ((r.size : Int) + 1) = (m : Int) := ⟨((tm + (r.size : Int) + 1) % ((r.size : Int) + 1)).toNat, by
        have := Int.emod_nonneg (tm + (r.size : Int) + 1) (show (r.size : Int) + 1 ≠ 0 by omega)
        omega⟩
      have hm2 : (m : Int) ≤ (r.size : Int) := by
        have := Int.emod_lt_of_pos (tm + (r.size : Int) + 1) (show 0 < (r.size : Int) + 1 by omega)
        omega
      have hm0 : (0 : Int) ≤ (m : Int) := by omega
      have hmn : m ≤ r.size := by omega
      have HP := Lib.hid hpk
      have HK := Lib.hid hk
      go_wp2_with (at_builtin; refine wpList_own_at _ rfl (.tmp 35) (.tmp 39) 32 rfl w.heap.size 9 i0 (.string .empty) 1 16 Tryz.underlying32 hi hz0 hz1 hz2 rfl (by decide) _ _ _ rfl (own_keep ho.out ((Keep.refl (fun _ => False) wr).alloc _) (fun _ _ x => x)) ⟨wr.heap.size, 0, none⟩ 1 1 [.string (r.extract 0 m)] rfl rfl (cells_new wr _ _ _ rfl) (by intro u hu; simp at hu; subst hu; rfl) ?c3 ?c4 ?c5 ?_)
      case c3 => have := HP.out; have := HK.out; unfold maxLen; omega
      case c4 => have := HP.out; have := HK.out; omega
      case c5 => have := hb.out.size; simp; omega
      intro v2 w2 hown hkeep hat
      have kk : Below w.heap.size wr w2 := by
        have h1 : Keep (fun i => Value.ownBlock u5 = some i) wr w2 := ((Keep.refl (fun i => Value.ownBlock u5 = some i) wr).alloc _).trans hkeep (fun _ _ x => x)
        exact h1.below hb.out.size (fun i hi x => by have := (ho.out.lt i x).1; omega)
      have HB := Lib.hid (hb.out.trans kk)
      have HO : Hid (w2.ownsRow w.heap.size 9 1 v2 (ps ++ [r.extract 0 m]).length ((ps ++ [r.extract 0 m]).map Value.string)) := by
        show World.ownsRow _ _ _ _ _ _ _
        rw [List.length_append, List.map_append]
        exact hown
      have HJ : Hid (joinL (ps ++ [r.extract 0 m]) ++ (r.extract m r.size).data.toList = s.data.toList) := by
        show _ = _
        rw [joinL_snoc, ← hj.out, List.append_assoc]
        congr 1
        have := extract_mk r.data.toList
        rw [mk_data] at this
        rw [this, this]
        simp only [List.drop_zero]
        rw [List.take_of_length_le (show r.data.toList.length ≤ r.size by rw [← Lib.size_eq]; exact Nat.le_refl _)]
        exact List.take_append_drop m r.data.toList
      have HQ := Lib.hid (show (ps ++ [r.extract 0 m]).length ≤ k + 1 by rw [List.length_append]; have := HP.out; simp; omega)
      clear hown hkeep hat kk htm hm
      go_wp2_with fail
      go_roundw
      case rel => exact ⟨k + 1, r.extract m r.size, ps ++ [r.extract 0 m], by go_num, by omega, rfl, HO.out, HJ, HQ.out, HB.out⟩
      case measure => simp [intOf]; omega
    · have HP := Lib.hid hpk
      have HK := Lib.hid hk
      by_cases hkn : k < n
      · have hrz : ¬ (0 : Int) < (r.size : Int) := by omega
        have hki : (k : Int) < (n : Int) := by omega
        clear hlt
        go_wp2_with (at_builtin; refine wpList_own_at _ rfl (.tmp 44) (.tmp 46) 32 rfl w.heap.size 9 i0 (.string .empty) 1 16 Tryz.underlying32 hi hz0 hz1 hz2 rfl (by decide) _ _ _ rfl (own_keep ho.out ((Keep.refl (fun _ => False) wr).alloc _) (fun _ _ x => x)) ⟨wr.heap.size, 0, none⟩ 1 1 [.string r] rfl rfl (cells_new wr _ _ _ rfl) (by intro u hu; simp at hu; subst hu; rfl) ?c3x ?c4x ?c5x ?_)
        case c3x => have := HP.out; have := HK.out; unfold maxLen; omega
        case c4x => have := HP.out; have := HK.out; omega
        case c5x => have := hb.out.size; simp; omega
        intro v2 w2 hown hkeep hat
        have kk : Below w.heap.size wr w2 := by
          have h1 : Keep (fun i => Value.ownBlock u5 = some i) wr w2 := ((Keep.refl (fun i => Value.ownBlock u5 = some i) wr).alloc _).trans hkeep (fun _ _ x => x)
          exact h1.below hb.out.size (fun i hi x => by have := (ho.out.lt i x).1; omega)
        have HB := Lib.hid (hb.out.trans kk)
        have HO : Hid (w2.ownsRow w.heap.size 9 1 v2 (ps ++ [r]).length ((ps ++ [r]).map Value.string)) := by
          show World.ownsRow _ _ _ _ _ _ _
          rw [List.length_append, List.map_append]
          exact hown
        have HJ := Lib.hid (show joinL (ps ++ [r]) = s.data.toList by rw [joinL_snoc]; exact hj.out)
        have HQ := Lib.hid (show (ps ++ [r]).length ≤ n + 1 by rw [List.length_append]; have := HP.out; have := HK.out; simp; omega)
        clear hown hkeep hat kk
        go_wp2_with fail
        go_ret
        exact ⟨v2, ps ++ [r], rfl, HO.out, HJ.out, HQ.out, HB.out⟩
      · have hki : ¬ (k : Int) < (n : Int) := by omega
        clear hlt
        go_wp2_with (at_builtin; refine wpList_own_at _ rfl (.tmp 44) (.tmp 46) 32 rfl w.heap.size 9 i0 (.string .empty) 1 16 Tryz.underlying32 hi hz0 hz1 hz2 rfl (by decide) _ _ _ rfl (own_keep ho.out ((Keep.refl (fun _ => False) wr).alloc _) (fun _ _ x => x)) ⟨wr.heap.size, 0, none⟩ 1 1 [.string r] rfl rfl (cells_new wr _ _ _ rfl) (by intro u hu; simp at hu; subst hu; rfl) ?c3y ?c4y ?c5y ?_)
        case c3y => have := HP.out; have := HK.out; unfold maxLen; omega
        case c4y => have := HP.out; have := HK.out; omega
        case c5y => have := hb.out.size; simp; omega
        intro v2 w2 hown hkeep hat
        have kk : Below w.heap.size wr w2 := by
          have h1 : Keep (fun i => Value.ownBlock u5 = some i) wr w2 := ((Keep.refl (fun i => Value.ownBlock u5 = some i) wr).alloc _).trans hkeep (fun _ _ x => x)
          exact h1.below hb.out.size (fun i hi x => by have := (ho.out.lt i x).1; omega)
        have HB := Lib.hid (hb.out.trans kk)
        have HO : Hid (w2.ownsRow w.heap.size 9 1 v2 (ps ++ [r]).length ((ps ++ [r]).map Value.string)) := by
          show World.ownsRow _ _ _ _ _ _ _
          rw [List.length_append, List.map_append]
          exact hown
        have HJ := Lib.hid (show joinL (ps ++ [r]) = s.data.toList by rw [joinL_snoc]; exact hj.out)
        have HQ := Lib.hid (show (ps ++ [r]).length ≤ n + 1 by rw [List.length_append]; have := HP.out; have := HK.out; simp; omega)
        clear hown hkeep hat kk
        go_wp2_with fail
        go_ret
        exact ⟨v2, ps ++ [r], rfl, HO.out, HJ.out, HQ.out, HB.out⟩

end Go.Proofs.YtmlceohmjkaadaaGreatDoor
