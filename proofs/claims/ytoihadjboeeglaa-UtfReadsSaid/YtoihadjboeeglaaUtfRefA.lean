/- The law's all: the document's runes of bytes. Own work. -/
import Derived.Test.YtoihadjboeeglaaUtfRefF
namespace Go.Proofs.Ytoihadjboeeglaa
set_option linter.unusedVariables false
set_option linter.unusedSimpArgs false
open Go.RowKit

theorem feedB_len {s : St} {B : List Nat} (h : AlikeU s B) (hs : s.Ok) (l : List Nat) : (feedB B l).2.length ≤ l.length + 1 := by
  have h1 := feedU_len hs l
  have h2 := (feed_alike h l).2
  have := s.some_le
  rw [← h2]; omega

/-- all has read these bytes. -/
def AllU (p : Nat) (B : List Nat) (A : Option Addr) (w : World) (v : Value) (l : List Nat) (w' : World) : Prop :=
  w'.ownsRow w.heap.size 21 1 v (rs (feedB B l).2).length ((rs (feedB B l).2).map (Value.int .i32)) ∧ ∃ A' c', RfU w' p (feedB B l).1 A' c' ∧ Step (rfuOwn p A) w (rfuOwn p A') w' ∧ ∀ i, v.ownBlock = some i → ¬ rfuOwn p A' i

set_option maxRecDepth 100000 in
set_option maxHeartbeats 3200000 in
theorem ref_all (p : Nat) (B : List Nat) (A : Option Addr) (cap : Nat) (s : St) (x : ByteArray) (w : World) (h : RfU w p B A cap) (ha : AlikeU s B) (hs : s.Ok) (hx : x.size ≤ 100000000000) :
    Calls Try.prog 14 #[.pointer (some ⟨p, 0, none⟩), .string x] w (FRefU p A w (feedB B (natsOf x))) := by
  obtain ⟨i0, hi0, hz0, hz1, hz2⟩ := info_parts rune_info
  have H0 : Hid (AllU p B A w (.slice none 0 0) ((natsOf x).take 0) w) := Lib.hid (by
    rw [List.take_zero]
    exact ⟨World.ownsRow_nil _ _ _ _, A, cap, h, Step.refl _ _, fun i hi => by simp [Value.ownBlock] at hi⟩)
  have HA := Lib.hid ha
  have HS := Lib.hid hs
  have hlen : (natsOf x).length = x.size := by rw [Lib.size_eq]; simp [natsOf]
  have HL := Lib.hid hlen
  clear h ha hs hlen
  go_enter Try.func14, Try.ntmps14
  go_wp2_with fail
  go_loopw [5, 6] (fun v i wr => ∃ j : Nat, i = .int .i64 j ∧ j ≤ x.size ∧ Hid (AllU p B A w v ((natsOf x).take j) wr)) (fun _ i _ => x.size - (intOf i).toNat)
  case atStart => exact ⟨0, rfl, by omega, H0⟩
  case round =>
    obtain ⟨j, rfl, hj, HF⟩ := hrel
    by_cases hlj : j < x.size
    · obtain ⟨o5, A5, c5, r5, s5, n5⟩ := HF.out
      have hb256 : x[j].toNat < 256 := x[j].toNat_lt
      have HN : Hid ((natsOf x).take (j + 1) = (natsOf x).take j ++ [x[j].toNat]) := Lib.hid (by
        unfold natsOf
        rw [List.take_succ_eq_append_getElem (by simpa using hlj), List.getElem_map]
        rfl)
      obtain ⟨l, hl⟩ : ∃ l, (natsOf x).take j = l := ⟨_, rfl⟩
      have hll : l.length ≤ x.size := by rw [← hl, List.length_take]; omega
      rw [hl] at o5 r5 HN
      have hal := feed_alike HA.out l
      have hal2 := byte_alike hal.1 x[j].toNat
      have hok := (HS.out.feed l)
      have hl3 : (byteB (feedB B l).1 x[j].toNat).1.length ≤ 3 := by
        rw [← hal2.1.half]; exact (hok.byte _).half3
      have hf1 := feedB_len HA.out HS.out l
      have hf2 := feedB_len hal.1 hok [x[j].toNat]
      have hf3 : (byteB (feedB B l).1 x[j].toNat).2.length ≤ 2 := by simpa [feedB] using hf2
      obtain ⟨y, hy⟩ : ∃ y, byteB (feedB B l).1 x[j].toNat = y := ⟨_, rfl⟩
      rw [hy] at hf3
      have HSN : Hid (feedB B (l ++ [x[j].toNat]) = (y.1, (feedB B l).2 ++ y.2)) := Lib.hid (by rw [feedB_snoc, hy])
      have HCC := Lib.hid (hy ▸ ref_feed p (feedB B l).1 A5 c5 x[j].toNat wr r5 hb256 hl3)
      have HLN : Hid ((rs (feedB B l).2).length + y.2.length ≤ 200000000000) := Lib.hid (by rw [rs_len]; omega)
      have O5 := Lib.hid o5
      have R5 := Lib.hid r5
      have S5 := Lib.hid s5
      have N5 := Lib.hid n5
      clear o5 r5 s5 n5 hal hal2 hok hl3 hf1 hf2 hf3 hy hl hll
      go_wp2_with fail
      refine HCC.out.mono ?_
      rintro e w6 ⟨v6, rfl, o6, A6, c6, r6, s6⟩
      have O6 := Lib.hid o6
      have R6 := Lib.hid r6
      have S6 := Lib.hid s6
      have V6 := Lib.hid (own_keep O5.out s6.1 (fun i hi e => N5.out i hi e))
      have hs6 : w.heap.size ≤ w6.heap.size := Nat.le_trans S5.out.1.size s6.1.size
      have N6 : Hid (∀ i, u5.ownBlock = some i → ¬ rfuOwn p A6 i) := Lib.hid (fun i hi e => by
        rcases s6.2 i e with e2 | e2
        · exact N5.out i hi e2
        · have := (O5.out.lt i hi).2; omega)
      clear o6 r6 s6
      go_wp2_with (at_builtin; refine wpList_own_more _ rfl (.tmp 13) (.tmp 18) 46 rfl w.heap.size wr.heap.size 21 i0 (.int .i32 0) 1 4 Try.underlying46 hi0 hz0 hz1 hz2 rfl (by decide) _ _ _ _ _ _ rfl rfl V6.out O6.out ?c2 ?c3 ?c4 ?c5 ?_)
      case c2 => exact one_Runes _
      case c3 => have := HLN.out; unfold maxLen; omega
      case c4 => have := HLN.out; omega
      case c5 => exact hs6
      intro v7 w7 hown hkeep hat
      have HF7 : Hid (AllU p B A w v7 ((natsOf x).take (j + 1)) w7) := Lib.hid (by
        rw [HN.out]
        refine ⟨?_, A6, c6, ?_, ?_, fun i hi e => ?_⟩
        · rw [HSN.out]
          simp only [rs_add, List.length_append, List.map_append]
          rw [rs_len y.2]
          exact hown
        · rw [HSN.out]
          exact R6.out.keep hkeep (fun i hi e => N6.out i e hi)
        · have st := S5.out.trans S6.out
          exact ⟨st.1.trans hkeep (fun i hi e => by have := (O5.out.lt i e).1; omega), st.2⟩
        · rcases hat i hi with e2 | e2
          · exact N6.out i e2 e
          · have := R6.out.lto e; omega)
      clear hown hkeep hat
      go_wp2_with fail
      go_roundw
      case rel => exact ⟨j + 1, by go_num, by omega, HF7⟩
      case measure => simp [intOf]; omega
    · have HE : Hid ((natsOf x).take j = natsOf x) := Lib.hid (List.take_of_length_le (by rw [HL.out]; omega))
      go_wp2_with fail
      go_ret
      have h1 := HF.out
      rw [HE.out] at h1
      obtain ⟨o5, A5, c5, r5, s5, -⟩ := h1
      rw [rs_len] at o5
      exact ⟨_, rfl, o5, A5, c5, r5, s5⟩

end Go.Proofs.Ytoihadjboeeglaa
