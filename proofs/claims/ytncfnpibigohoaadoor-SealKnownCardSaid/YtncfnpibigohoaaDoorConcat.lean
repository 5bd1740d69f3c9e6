/- slices.Grow, slices.Concat of two. Own work. -/
import Derived.Test.YtncfnpibigohoaaDoorTags
import Derived.Test.YtncfnpibigohoaaDoorInfoS
import Derived.Lib.AppendZerosOnto
namespace Go.Proofs.YtncfnpibigohoaaDoor
set_option linter.unusedVariables false
open Go.RowKit

set_option maxRecDepth 100000 in
set_option maxHeartbeats 1600000 in
theorem grow_any (n : Nat) (w : World) (h1 : 1 ≤ n) (h2 : n ≤ 1000000) :
    Calls Tryd.prog 39 #[.slice none 0 0, .int .i64 n] w fun r w' => ∃ A c, r = .returned (.slice A 0 c) ∧ Buf w' A 0 c [] ∧ Below w.heap.size w w' ∧ (∀ k, blk A = some k → w.heap.size ≤ k) := by
  obtain ⟨i0, hi, hz0, hz1, hz2⟩ := info_parts string_info
  have hap : ∀ W : World, (Builtin.append_ #[22, 3] 22 #[.slice none 0 0, .int .i64 (n : Int)]).run Tryd.prog W =
      .ok (.slice (some ⟨W.heap.size, 0, none⟩) n (grownCap W n 0 9)) (W.drew.alloc (.cells (Builtin.zeroCells (Value.string .empty).cells n ++ Builtin.zeroCells (Value.string .empty).cells (grownCap W n 0 9 - n)) 9)) := fun W => by
    have := Lib.run_append_grow_zeros (P := Tryd.prog) W 22 3 22 9 i0 (.string .empty) .i64 .i64 Tryd.underlying22 Tryd.underlying3 hi hz0 none 0 0 [] (by simp [Builtin.firstCells]) n (by omega) (by rw [hz1]; omega) (by omega) (by omega) (by rw [hz2]; omega) (by rw [hz2]; exact growslice_fits (by omega) (by omega))
    simpa using this
  have hcap : ∀ W : World, n ≤ grownCap W n 0 9 ∧ grownCap W n 0 9 ≤ maxLen := fun W => ⟨grownCap_ge W n 0 _, grownCap_le_maxLen W n 0 _ (by unfold maxLen; omega)⟩
  have HAP := Lib.hid hap
  have HCAP := Lib.hid hcap
  clear hap hcap
  go_enter Tryd.func39, Tryd.ntmps39
  go_wp2_with (at_builtin; refine wpList_plain rfl fun K hK => ?_; unfold Oper.wp execOp; simp only [resolve, invoke, builtin, Sem.run_bind, Sem.run_pure, Result.andThen_ok, List.map_toArray, List.map_cons, List.map_nil]; rw [show (Builtin.append_ _ _ #[Act.eval _ _, Act.eval _ _]).run _ _ = _ from HAP.out _]; refine hK _ _ ?_)
  go_ret
  refine ⟨_, _, rfl, ?_, ((Below.refl _ _).drew).alloc (Nat.le_refl _) _, fun k hk => by simp [blk] at hk; omega⟩
  obtain ⟨q1, q2⟩ := HCAP.out w
  obtain ⟨C, hC⟩ : ∃ C : Array Value, C = Builtin.zeroCells (Value.string .empty).cells n ++ Builtin.zeroCells (Value.string .empty).cells (grownCap w n 0 9 - n) := ⟨_, rfl⟩
  have hCs : C.size = grownCap w n 0 9 := by
    rw [hC, Array.size_append, size_zeroCells, size_zeroCells]
    simp [Value.cells]
    omega
  have hrow := Row.of_block (heap_alloc_new w.drew (.cells C 9)) (.inl (Nat.le_refl _)) (n := 0) (by omega) (by rw [hCs]; exact q2)
  rw [hCs, List.take_zero] at hrow
  have hC' : Builtin.zeroCells #[Value.string ByteArray.empty] n ++ Builtin.zeroCells #[Value.string ByteArray.empty] (grownCap w n 0 9 - n) = C := hC.symm
  rw [hC']
  exact .inr ⟨_, 0, rfl, by simp, hrow⟩

set_option maxRecDepth 100000 in
set_option maxHeartbeats 3200000 in
/-- Two rows of texts, one behind the other. -/
theorem concat_two (S : Option Addr) (A B : Option Addr) (n m ca cb cs : Nat) (xs ys : List Value) (w : World) (hS : Src w S 2 [.slice A n ca, .slice B m cb]) (hA : Src w A n xs) (hB : Src w B m ys)
    (h1 : ∀ u ∈ xs, u.oneCell' = true) (h2 : ∀ u ∈ ys, u.oneCell' = true) (hn : n ≤ 100000) (hm : 1 ≤ m) (hm2 : m ≤ 100000) :
    Calls Tryd.prog 28 #[.slice S 2 cs] w fun r w' => ∃ R c, r = .returned (.slice R (n + m) c) ∧ Src w' R (n + m) (xs ++ ys) ∧ n + m ≤ c ∧ Below w.heap.size w w' := by
  obtain ⟨b, off, rfl, hb, hc⟩ := hS.2 (by omega)
  have c0 := hc 0 _ rfl
  have c1 := hc 1 _ rfl
  rw [Nat.add_zero] at c0
  obtain ⟨i0, hi, hz0, hz1, hz2⟩ := info_parts string_info
  have HA := Lib.hid hA
  have HB := Lib.hid hB
  have H1 := Lib.hid h1
  have H2 := Lib.hid h2
  have HI := Lib.hid hi
  have HZ0 := Lib.hid hz0
  have HZ1 := Lib.hid hz1
  have HZ2 := Lib.hid hz2
  have CC0 := Lib.hid c0
  have CC1 := Lib.hid c1
  clear hS hc hA hB h1 h2 hi hz0 hz1 hz2
  go_enter Tryd.func28, Tryd.ntmps28
  go_wp2_with fail
  go_loop [3, 11] (fun z i => ∃ k q : Nat, i = .int .i64 k ∧ z = .int .i64 q ∧ ((k = 0 ∧ q = 0) ∨ (k = 1 ∧ q = n) ∨ (k = 2 ∧ q = n + m))) (fun _ i => 2 - (intOf i).toNat)
  case atStart => exact ⟨0, 0, rfl, rfl, .inl ⟨rfl, rfl⟩⟩
  case round =>
    obtain ⟨k, q, rfl, rfl, hkq⟩ := hrel
    rcases hkq with ⟨rfl, hq⟩ | ⟨rfl, hq⟩ | ⟨rfl, hq⟩ <;> obtain rfl := hq.symm
    · have h0 : ¬ ((n : Int) < 0) := by omega
      go_wp2_with fail
      go_round
      case rel => exact ⟨1, n, by go_num, by go_num, .inr (.inl ⟨rfl, rfl⟩)⟩
      case measure => simp [intOf]
    · have h0 : ¬ ((n : Int) + (m : Int) < 0) := by omega
      go_wp2_with fail
      go_round
      case rel => exact ⟨2, n + m, by go_num, by go_num, .inr (.inr ⟨rfl, rfl⟩)⟩
      case measure => simp [intOf]
    · rw [show ((2 : Nat) : Int) = 2 from rfl]
      clear c0 c1
      go_wp2_with fail
      refine (grow_any (n + m) w (by omega) (by omega)).mono ?_
      rintro r w1 ⟨G, c, rfl, hbuf, hb1, hfar⟩
      have HG := Lib.hid hbuf
      have HB1 := Lib.hid hb1
      have HF := Lib.hid hfar
      have C0 := Lib.hid ((hb1.cell (p := ⟨b, off, none⟩) hb).trans CC0.out)
      have C1 := Lib.hid ((hb1.cell (p := ⟨b, off + 1, none⟩) hb).trans CC1.out)
      clear hbuf hb1 hfar
      go_wp2_with fail
      go_loopw [6, 27] (fun v i wr => ∃ (k : Nat) (R : Option Addr) (c : Nat) (us : List Value), i = .int .i64 k ∧ v = .slice R us.length c ∧ ((k = 0 ∧ us = []) ∨ (k = 1 ∧ us = xs) ∨ (k = 2 ∧ us = xs ++ ys)) ∧ Hid (Buf wr R us.length c us) ∧ Hid (∀ j, blk R = some j → w.heap.size ≤ j) ∧ Hid (Below w.heap.size w wr)) (fun _ i _ => 2 - (intOf i).toNat)
      case atStart => exact ⟨0, G, c, [], rfl, rfl, .inl ⟨rfl, rfl⟩, HG, HF, HB1⟩
      clear C0 C1
      case round =>
        obtain ⟨k, R, c2, us, rfl, rfl, hku, HQ, HFa, HBw⟩ := hrel
        have xl := HA.out.1
        have yl := HB.out.1
        rcases hku with ⟨rfl, hu⟩ | ⟨rfl, hu⟩ | ⟨rfl, hu⟩ <;> obtain rfl := hu.symm
        · have c0 := (HBw.out.cell (p := ⟨b, off, none⟩) hb).trans CC0.out
          have HS := Lib.hid (HA.out.below HBw.out)
          have XL := Lib.hid xl
          clear xl yl
          go_wp2_with (at_builtin; refine wpList_append_buf _ rfl (.tmp 31) (.tmp 32) 22 rfl 9 i0 (.string .empty) 16 Tryd.underlying22 HI.out HZ0.out HZ1.out HZ2.out rfl rfl HQ.out xs rfl HS.out H1.out (by unfold maxLen; simp; omega) (by simp; omega) ?_)
          intro A' c' w2 hb2 hk2 hf2
          have HQ2 : Hid (Buf w2 A' xs.length c' xs) := by
            show Buf _ _ _ _ _
            rw [XL.out]
            simpa using hb2
          have HB2 := Lib.hid (HBw.out.trans (hk2.below HBw.out.size (fun j hj e => by have := HFa.out j e; omega)))
          have HF2 : Hid (∀ j, blk A' = some j → w.heap.size ≤ j) := fun j hj => by
            rcases hf2 j hj with e | e
            · exact HFa.out j e
            · exact Nat.le_trans HBw.out.size e
          clear hb2 hk2 hf2
          go_wp2_with fail
          go_roundw
          case rel => exact ⟨1, A', c', xs, by go_num, by rw [XL.out], .inr (.inl ⟨rfl, rfl⟩), HQ2, HF2, HB2⟩
          case measure => simp [intOf]
        · have c1 := (HBw.out.cell (p := ⟨b, off + 1, none⟩) hb).trans CC1.out
          have HS := Lib.hid (HB.out.below HBw.out)
          have XL := Lib.hid xl
          have YL := Lib.hid yl
          have hxl : xs.length ≤ 100000 := by omega
          clear xl yl
          go_wp2_with (at_builtin; refine wpList_append_buf _ rfl (.tmp 31) (.tmp 32) 22 rfl 9 i0 (.string .empty) 16 Tryd.underlying22 HI.out HZ0.out HZ1.out HZ2.out rfl rfl HQ.out ys rfl HS.out H2.out (by unfold maxLen; omega) (by omega) ?_)
          intro A' c' w2 hb2 hk2 hf2
          have e : xs.length + m = (xs ++ ys).length := by rw [List.length_append, YL.out]
          have HQ2 : Hid (Buf w2 A' (xs ++ ys).length c' (xs ++ ys)) := by
            show Buf _ _ _ _ _
            rw [← e]; exact hb2
          have HB2 := Lib.hid (HBw.out.trans (hk2.below HBw.out.size (fun j hj e => by have := HFa.out j e; omega)))
          have HF2 : Hid (∀ j, blk A' = some j → w.heap.size ≤ j) := fun j hj => by
            rcases hf2 j hj with e | e
            · exact HFa.out j e
            · exact Nat.le_trans HBw.out.size e
          rw [e]
          clear hb2 hk2 hf2 e
          go_wp2_with fail
          go_roundw
          case rel => exact ⟨2, A', c', xs ++ ys, by go_num, rfl, .inr (.inr ⟨rfl, rfl⟩), HQ2, HF2, HB2⟩
          case measure => simp [intOf]
        · rw [show ((2 : Nat) : Int) = 2 from rfl]
          have e : (xs ++ ys).length = n + m := by rw [List.length_append, xl, yl]
          rw [e] at HQ ⊢
          have hcc := HQ.out.le
          clear xl yl e
          go_wp2_with fail
          go_ret
          exact ⟨R, c2, rfl, HQ.out.src, hcc, HBw.out⟩
end Go.Proofs.YtncfnpibigohoaaDoor
