/- utf.Reader: Feed; of a nil one. Own work. -/
import Derived.Test.YtoihadjboeeglaaUtfK
namespace Go.Proofs.Ytoihadjboeeglaa
set_option linter.unusedVariables false
set_option linter.unusedSimpArgs false
open Go.RowKit

/-- The bytes ahead of byte j of text k. -/
def preU (ts : List ByteArray) (k j : Nat) : List Nat := (joinL (ts.take k)).map (·.toNat) ++ (natsOf (ts.getD k .empty)).take j

theorem preU_zero (ts : List ByteArray) : preU ts 0 0 = [] := by simp [preU, joinL]
theorem preU_next {ts : List ByteArray} {k j : Nat} {x : ByteArray} (hx : ts[k]? = some x) (hj : j < x.size) : preU ts k (j + 1) = preU ts k j ++ [x[j].toNat] := by
  unfold preU natsOf
  rw [List.getD_eq_getElem?_getD, hx, Option.getD_some, List.append_assoc]
  congr 1
  rw [List.take_succ_eq_append_getElem (by simpa using hj), List.getElem_map]
  rfl
theorem preU_row {ts : List ByteArray} {k : Nat} {x : ByteArray} (hx : ts[k]? = some x) : preU ts k x.size = preU ts (k + 1) 0 := by
  unfold preU natsOf
  have h1 : (List.map (fun b : UInt8 => b.toNat) x.data.toList).take x.size = List.map (fun b : UInt8 => b.toNat) x.data.toList := List.take_of_length_le (by rw [List.length_map, ← Lib.size_eq]; exact Nat.le_refl _)
  rw [List.getD_eq_getElem?_getD, hx, Option.getD_some, take_next hx, joinL_snoc, h1]
  simp
theorem preU_end (ts : List ByteArray) : preU ts ts.length 0 = (joinL ts).map (·.toNat) := by simp [preU]
theorem preU_len (ts : List ByteArray) (k j : Nat) (h : j ≤ (ts.getD k .empty).size) : (preU ts k j).length ≤ sum ts := by
  unfold preU natsOf
  rw [List.length_append, List.length_take, List.length_map, List.length_map, joinL_len, ← Lib.size_eq]
  by_cases hk : k < ts.length
  · have h1 := sum_take ts (k + 1)
    have hx : ts[k]? = some ts[k] := List.getElem?_eq_getElem hk
    rw [take_next hx, sum_snoc] at h1
    rw [List.getD_eq_getElem?_getD, hx, Option.getD_some] at h ⊢
    omega
  · have h1 := sum_take ts k
    rw [List.getD_eq_getElem?_getD, List.getElem?_eq_none (by omega), Option.getD_none] at h ⊢
    have : ByteArray.empty.size = 0 := rfl
    omega

/-- Feed has read these bytes. -/
def FedU (p o : Nat) (s : St) (w : World) (v : Value) (l : List Nat) (w' : World) : Prop :=
  w'.ownsRow w.heap.size 21 1 v (rs (feedU s l).2).length ((rs (feedU s l).2).map (Value.int .i32)) ∧ RdU w' p o (feedU s l).1 ∧ Keep (· = p) w w'

theorem FedU.ne {p o : Nat} {s : St} {w w' : World} {v : Value} {l : List Nat} (h : FedU p o s w v l w') (hp : p < w.heap.size) : ∀ k, v.ownBlock = some k → k ≠ p := fun k hk => by
  have := (h.1.lt k hk).1; omega

theorem FedU.next {p o : Nat} {s : St} {w w1 w2 : World} {v : Value} {l : List Nat} {b : Nat} {e : Ending} (hp : p < w.heap.size) (h : FedU p o s w v l w1)
    (x : LRes p o w.heap.size v (rs (feedU s l).2) w1 (byteU (feedU s l).1 b) e w2) : ∃ v', e = .returned v' ∧ FedU p o s w v' (l ++ [b]) w2 := by
  obtain ⟨v', rfl, h1, h2, h3, h4⟩ := x
  refine ⟨v', rfl, ?_, ?_, h.2.2.trans h3 (fun i hi x => ?_)⟩
  · rw [feedU_snoc]; simp only [rs_add]; exact h1
  · rw [feedU_snoc]; exact h2
  · rcases x with x | x
    · exact x
    · have := (h.1.lt i x).1; omega

set_option maxHeartbeats 800000 in
theorem utf_feed_nil (S : Value) (w : World) :
    Calls Try.prog 11 #[.pointer none, S] w fun e w' => e = .returned (.slice none 0 0) ∧ w' = w := by
  go_enter Try.func11, Try.ntmps11
  go_wp2_with fail
  go_ret
  exact ⟨rfl, rfl⟩

set_option maxRecDepth 100000 in
set_option maxHeartbeats 3200000 in
theorem utf_feed_pre (p o : Nat) (s : St) (A : Option Addr) (n c : Nat) (ts : List ByteArray) (w : World) (h : RdU w p o s) (hs : Src w A n (ts.map Value.string)) (hA : 0 < n → blk A ≠ some p) (hn : n ≤ 100000000000) (hsum : sum ts ≤ 100000000000) :
    Calls Try.prog 11 #[.pointer (some ⟨p, o, none⟩), .slice A n c] w fun e w' => ∃ v, e = .returned v ∧ FedU p o s w v (preU ts n 0) w' := by
  have hl := Lib.hid (show ts.length = n from by have := hs.1; rwa [List.length_map] at this)
  have hpl : p < w.heap.size := h.lt
  have HS := Lib.hid hs
  have HA := Lib.hid hA
  have HSUM := Lib.hid hsum
  have F0 : Hid (FedU p o s w (.slice none 0 0) (preU ts 0 0) w) := by
    show FedU _ _ _ _ _ _ _
    rw [preU_zero]
    exact ⟨World.ownsRow_nil _ _ _ _, h, Keep.refl _ _⟩
  have hok := h.ok
  have HLEN : Hid (∀ l : List Nat, (rs (feedU s l).2).length ≤ l.length + 1) := fun l => by
    have h1 := feedU_len hok l
    have h2 := s.some_le
    rw [rs_len]; omega
  clear h hs hA hsum hok
  go_enter Try.func11, Try.ntmps11
  go_wp2_with fail
  go_loopw [5, 13] (fun v i wr => ∃ k : Nat, i = .int .i64 k ∧ k ≤ n ∧ Hid (FedU p o s w v (preU ts k 0) wr)) (fun _ i _ => n - (intOf i).toNat)
  case atStart => exact ⟨0, rfl, by omega, F0⟩
  case round =>
    obtain ⟨k, rfl, hk, HF⟩ := hrel
    obtain ⟨wo, rfl⟩ : ∃ wo : World, wo = wr := ⟨_, rfl⟩
    by_cases hlt : k < n
    · obtain ⟨x, hx⟩ : ∃ x, ts[k]? = some x := ⟨ts[k]'(by rw [hl.out]; exact hlt), List.getElem?_eq_getElem _⟩
      obtain ⟨b, off, rfl, hbl, hcs⟩ := (HS.out.far HF.out.2.2 (fun h0 i hi e => HA.out h0 (by rw [hi, e]))).2 (by omega)
      have hcx : wo.cell? ⟨b, off + k, none⟩ = some (.string x) := hcs k _ (by rw [List.getElem?_map, hx]; rfl)
      have hxs : x.size ≤ 100000000000 := by
        have h1 := sum_mem (List.mem_of_getElem? hx)
        have := HSUM.out
        omega
      have hki : ((k : Int) < (n : Int)) := by omega
      have hk0 : (0 : Int) ≤ (k : Int) := by omega
      have HX := Lib.hid hx
      clear hcs hx
      go_wp2_with fail
      go_loopw [5, 19] (fun v i wr => ∃ j : Nat, i = .int .i64 j ∧ j ≤ x.size ∧ Hid (FedU p o s w v (preU ts k j) wr)) (fun _ i _ => x.size - (intOf i).toNat)
      case atStart => exact ⟨0, rfl, by omega, HF⟩
      case round =>
        obtain ⟨j, rfl, hj, HF2⟩ := hrel
        by_cases hlj : j < x.size
        · have HL : Hid ((rs (feedU s (preU ts k j)).2).length ≤ 1000000000000) := by
            have h1 := HLEN.out (preU ts k j)
            have h2 := preU_len ts k j (by rw [List.getD_eq_getElem?_getD, HX.out, Option.getD_some]; omega)
            have h3 := HSUM.out
            exact Lib.hid (by omega)
          have hb256 : x[j].toNat < 256 := x[j].toNat_lt
          have HN := Lib.hid (preU_next HX.out hlj)
          have hz := HF2.out.2.2.size
          have HC := utf_take p o w.heap.size u5 (rs (feedU s (preU ts k j)).2) (feedU s (preU ts k j)).1 x[j].toNat wr HF2.out.2.1 HF2.out.1 (HF2.out.ne hpl) hz HL.out hb256
          have HCC := Lib.hid HC
          clear HC hz
          go_wp2_with fail
          refine HCC.out.mono ?_
          intro e w2 hx2
          obtain ⟨v', rfl, hv'⟩ := FedU.next hpl HF2.out hx2
          have HF3 : Hid (FedU p o s w v' (preU ts k (j + 1)) w2) := by
            show FedU _ _ _ _ _ _ _
            rw [HN.out]; exact hv'
          clear hx2 hv'
          go_wp2_with fail
          go_roundw
          case rel => exact ⟨j + 1, by go_num, by omega, HF3⟩
          case measure => simp [intOf]; omega
        · have ej : j = x.size := by omega
          have HF3 : Hid (FedU p o s w u5 (preU ts (k + 1) 0) wr) := by
            show FedU _ _ _ _ _ _ _
            rw [← preU_row HX.out, ← ej]; exact HF2.out
          clear ej
          go_wp2_with fail
          go_roundw
          case rel => exact ⟨k + 1, by go_num, by omega, HF3⟩
          case measure => simp [intOf]; omega
    · have ek : k = n := by omega
      have HF3 : Hid (FedU p o s w u5 (preU ts n 0) wo) := by
        show FedU _ _ _ _ _ _ _
        rw [← ek]; exact HF.out
      clear ek
      go_wp2_with fail
      go_ret
      exact ⟨_, rfl, HF3.out⟩

/-- Feed of texts. -/
theorem utf_feed (p o : Nat) (s : St) (A : Option Addr) (n c : Nat) (ts : List ByteArray) (w : World) (h : RdU w p o s) (hs : Src w A n (ts.map Value.string)) (hA : 0 < n → blk A ≠ some p) (hn : n ≤ 100000000000) (hsum : sum ts ≤ 100000000000) :
    Calls Try.prog 11 #[.pointer (some ⟨p, o, none⟩), .slice A n c] w (URes p o w (feedsU s ts)) := by
  refine (utf_feed_pre p o s A n c ts w h hs hA hn hsum).mono ?_
  rintro e w' ⟨v, rfl, h1, h2, h3⟩
  have hl : ts.length = n := by have := hs.1; rwa [List.length_map] at this
  rw [← hl, preU_end, ← feedsU_join] at h1 h2
  rw [rs_len] at h1
  exact ⟨v, rfl, h1, h2, h3⟩

/-- Feed of one text. -/
theorem utf_feed_one (p o : Nat) (s : St) (b : Nat) (x : ByteArray) (c : Nat) (w : World) (h : RdU w p o s) (hs : w.cell? ⟨b, 0, none⟩ = some (.string x)) (hb : b ≠ p) (hx : x.size ≤ 100000000000) :
    Calls Try.prog 11 #[.pointer (some ⟨p, o, none⟩), .slice (some ⟨b, 0, none⟩) 1 c] w (URes p o w (feedU s (natsOf x))) := by
  rw [← feedsU_one]
  exact utf_feed p o s _ 1 c [x] w h ⟨rfl, fun _ => ⟨b, 0, rfl, World.block_lt_of_cell? w _ hs, fun i u hu => by
    rcases i with _ | i
    · simp at hu; subst hu; simpa using hs
    · simp at hu⟩⟩ (fun _ e => hb (by simpa [blk] using e)) (by omega) (by simpa [sum] using hx)

end Go.Proofs.Ytoihadjboeeglaa
