/- The document's Pact in memory; its small functions. Own work. -/
import Derived.Test.YtmkgcmnimpkmjaaRPn
import Derived.Test.YtmkgcmnimpkmjaaRefH
import Derived.Test.YtmkgcmnimpkmjaaRefWS
import Derived.Deep.RegionLaw
import Derived.Deep.CutRange
namespace Go.Proofs.Ytmkgcmnimpkmjaa
set_option linter.unusedVariables false
set_option linter.unusedSimpArgs false
open Go.RowKit

/-- The document's Pact behind a pointer. -/
structure RefAt (w : World) (r : Nat) (name : ByteArray) (m : Pm) : Prop where
  nm : Cell w r 0 (.string name)
  wd : Cell w r 1 (.int .i64 (m.w : Int))
  ht : Cell w r 2 (.int .i64 (m.h : Int))
  us : ∀ o : Nat, o ≤ 255 → Cell w r (3 + o * 2) (.int .i64 (m.us o).1) ∧ Cell w r (3 + o * 2 + 1) (.bool (m.us o).2)
  him : ∀ o : Nat, o ≤ 255 → Cell w r (515 + o * 2) (.int .i64 (m.him o).1) ∧ Cell w r (515 + o * 2 + 1) (.bool (m.him o).2)
  n : Cell w r 1027 (.int .i64 (m.sent : Int))
  tw : Cell w r 1028 (.int .i64 (m.tw : Int))
  th : Cell w r 1029 (.int .i64 (m.th : Int))
  told : Cell w r 1030 (.bool m.told)
  started : Cell w r 1031 (.bool m.started)

namespace RefAt
variable {w w' : World} {r : Nat} {name : ByteArray} {m m' : Pm}
theorem lt (h : RefAt w r name m) : r < w.heap.size := h.nm.lt
theorem keep {S : Nat → Prop} (h : RefAt w r name m) (k : Keep S w w') (hn : ¬ S r) : RefAt w' r name m :=
  ⟨h.nm.keep k hn, h.wd.keep k hn, h.ht.keep k hn, fun o ho => ⟨(h.us o ho).1.keep k hn, (h.us o ho).2.keep k hn⟩, fun o ho => ⟨(h.him o ho).1.keep k hn, (h.him o ho).2.keep k hn⟩, h.n.keep k hn, h.tw.keep k hn, h.th.keep k hn, h.told.keep k hn, h.started.keep k hn⟩
theorem below (h : RefAt w r name m) (k : Below w.heap.size w w') : RefAt w' r name m := h.keep (S := fun _ => False) (Keep.of_below _ k) (fun x => x)
theorem alloc (h : RefAt w r name m) (o : Obj) : RefAt (w.alloc o) r name m := h.keep (S := fun _ => False) ((Keep.refl _ w).alloc o) (fun x => x)
theorem drew (h : RefAt w r name m) : RefAt w.drew r name m := h.keep (S := fun _ => False) (Keep.refl _ w).drew (fun x => x)
theorem drewN (h : RefAt w r name m) (n : Nat) : RefAt (w.drewN n) r name m := h.keep (S := fun _ => False) ((Keep.refl _ w).drewN n) (fun x => x)
/-- All its parts alike. -/
theorem congr (h : RefAt w r name m) (h1 : m'.us = m.us) (h2 : m'.him = m.him) (h3 : m'.sent = m.sent) (h4 : m'.w = m.w) (h5 : m'.h = m.h) (h6 : m'.tw = m.tw) (h7 : m'.th = m.th) (h8 : m'.told = m.told) (h9 : m'.started = m.started) : RefAt w r name m' :=
  ⟨h.nm, h4 ▸ h.wd, h5 ▸ h.ht, by rw [h1]; exact h.us, by rw [h2]; exact h.him, h3 ▸ h.n, h6 ▸ h.tw, h7 ▸ h.th, h8 ▸ h.told, h9 ▸ h.started⟩
theorem putUs (h : RefAt w r name m) (o : Nat) (ho : o ≤ 255) (v : Int × Bool) : RefAt ((w.setCell ⟨r, 3 + o * 2, none⟩ (.int .i64 v.1)).setCell ⟨r, 3 + o * 2 + 1, none⟩ (.bool v.2)) r name (m.turn true o v 0) := by
  refine ⟨(h.nm.far (by omega) _).far (by omega) _, (h.wd.far (by omega) _).far (by omega) _, (h.ht.far (by omega) _).far (by omega) _, fun q hq => ?_, fun q hq => ⟨((h.him q hq).1.far (by omega) _).far (by omega) _, ((h.him q hq).2.far (by omega) _).far (by omega) _⟩,
    (h.n.far (by omega) _).far (by omega) _, (h.tw.far (by omega) _).far (by omega) _, (h.th.far (by omega) _).far (by omega) _, (h.told.far (by omega) _).far (by omega) _, (h.started.far (by omega) _).far (by omega) _⟩
  by_cases e : q = o
  · subst e
    simp only [Pm.turn, setS_same]
    exact ⟨((h.us q hq).1.set _).far (by omega) _, ((h.us q hq).2.far (by omega) _).set _⟩
  · simp only [Pm.turn, setS_other _ _ (show (q : Int) ≠ (o : Int) by omega)]
    exact ⟨((h.us q hq).1.far (by omega) _).far (by omega) _, ((h.us q hq).2.far (by omega) _).far (by omega) _⟩
theorem putHim (h : RefAt w r name m) (o : Nat) (ho : o ≤ 255) (v : Int × Bool) : RefAt ((w.setCell ⟨r, 515 + o * 2, none⟩ (.int .i64 v.1)).setCell ⟨r, 515 + o * 2 + 1, none⟩ (.bool v.2)) r name (m.turn false o v 0) := by
  refine ⟨(h.nm.far (by omega) _).far (by omega) _, (h.wd.far (by omega) _).far (by omega) _, (h.ht.far (by omega) _).far (by omega) _, fun q hq => ⟨((h.us q hq).1.far (by omega) _).far (by omega) _, ((h.us q hq).2.far (by omega) _).far (by omega) _⟩, fun q hq => ?_,
    (h.n.far (by omega) _).far (by omega) _, (h.tw.far (by omega) _).far (by omega) _, (h.th.far (by omega) _).far (by omega) _, (h.told.far (by omega) _).far (by omega) _, (h.started.far (by omega) _).far (by omega) _⟩
  by_cases e : q = o
  · subst e
    simp only [Pm.turn, setS_same]
    exact ⟨((h.him q hq).1.set _).far (by omega) _, ((h.him q hq).2.far (by omega) _).set _⟩
  · simp only [Pm.turn, setS_other _ _ (show (q : Int) ≠ (o : Int) by omega)]
    exact ⟨((h.him q hq).1.far (by omega) _).far (by omega) _, ((h.him q hq).2.far (by omega) _).far (by omega) _⟩
theorem putN (h : RefAt w r name m) : RefAt (w.setCell ⟨r, 1027, none⟩ (.int .i64 ((m.sent + 1 : Nat) : Int))) r name { m with sent := m.sent + 1 } :=
  ⟨h.nm.far (by omega) _, h.wd.far (by omega) _, h.ht.far (by omega) _, fun q hq => ⟨(h.us q hq).1.far (by omega) _, (h.us q hq).2.far (by omega) _⟩, fun q hq => ⟨(h.him q hq).1.far (by omega) _, (h.him q hq).2.far (by omega) _⟩,
    h.n.set _, h.tw.far (by omega) _, h.th.far (by omega) _, h.told.far (by omega) _, h.started.far (by omega) _⟩
theorem begun (h : RefAt w r name m) : RefAt (w.setCell ⟨r, 1031, none⟩ (.bool true)) r name { m with started := true } :=
  ⟨h.nm.far (by omega) _, h.wd.far (by omega) _, h.ht.far (by omega) _, fun q hq => ⟨(h.us q hq).1.far (by omega) _, (h.us q hq).2.far (by omega) _⟩, fun q hq => ⟨(h.him q hq).1.far (by omega) _, (h.him q hq).2.far (by omega) _⟩,
    h.n.far (by omega) _, h.tw.far (by omega) _, h.th.far (by omega) _, h.told.far (by omega) _, h.started.set _⟩
theorem sized (h : RefAt w r name m) (a b : Int) : RefAt ((w.setCell ⟨r, 1, none⟩ (.int .i64 (sz a : Nat))).setCell ⟨r, 2, none⟩ (.int .i64 (sz b : Nat))) r name (m.sized a b) :=
  ⟨(h.nm.far (by omega) _).far (by omega) _, (h.wd.set _).far (by omega) _, (h.ht.far (by omega) _).set _, fun q hq => ⟨((h.us q hq).1.far (by omega) _).far (by omega) _, ((h.us q hq).2.far (by omega) _).far (by omega) _⟩, fun q hq => ⟨((h.him q hq).1.far (by omega) _).far (by omega) _, ((h.him q hq).2.far (by omega) _).far (by omega) _⟩,
    (h.n.far (by omega) _).far (by omega) _, (h.tw.far (by omega) _).far (by omega) _, (h.th.far (by omega) _).far (by omega) _, (h.told.far (by omega) _).far (by omega) _, (h.started.far (by omega) _).far (by omega) _⟩
theorem tells (h : RefAt w r name m) : RefAt (((w.setCell ⟨r, 1028, none⟩ (.int .i64 (m.w : Int))).setCell ⟨r, 1029, none⟩ (.int .i64 (m.h : Int))).setCell ⟨r, 1030, none⟩ (.bool true)) r name m.tell :=
  ⟨((h.nm.far (by omega) _).far (by omega) _).far (by omega) _, ((h.wd.far (by omega) _).far (by omega) _).far (by omega) _, ((h.ht.far (by omega) _).far (by omega) _).far (by omega) _, fun q hq => ⟨(((h.us q hq).1.far (by omega) _).far (by omega) _).far (by omega) _, (((h.us q hq).2.far (by omega) _).far (by omega) _).far (by omega) _⟩, fun q hq => ⟨(((h.him q hq).1.far (by omega) _).far (by omega) _).far (by omega) _, (((h.him q hq).2.far (by omega) _).far (by omega) _).far (by omega) _⟩,
    ((h.n.far (by omega) _).far (by omega) _).far (by omega) _, ((h.tw.set _).far (by omega) _).far (by omega) _, ((h.th.far (by omega) _).set _).far (by omega) _, ((h.told.far (by omega) _).far (by omega) _).set _, ((h.started.far (by omega) _).far (by omega) _).far (by omega) _⟩
end RefAt

theorem flat_even (n : Nat) (a b : Value) : (List.replicate n [a, b]).flatten.length = n * 2 ∧ ∀ k, k < n → (List.replicate n [a, b]).flatten[k * 2]? = some a ∧ (List.replicate n [a, b]).flatten[k * 2 + 1]? = some b := by
  induction n with
  | zero => exact ⟨rfl, fun k h => by omega⟩
  | succ n ih =>
    rw [List.replicate_succ, List.flatten_cons]
    refine ⟨by rw [List.length_append, ih.1]; show 2 + n * 2 = _; omega, fun k h => ?_⟩
    cases k with
    | zero => exact ⟨rfl, rfl⟩
    | succ k =>
      rw [show (k + 1) * 2 = k * 2 + 2 by omega]
      exact ih.2 k (by omega)

/-- A new Pact's cells: three, the sides, five. -/
theorem rp_list (name : ByteArray) (w h : Int) : ∃ M, rpList name w h = Value.string name :: Value.int .i64 w :: Value.int .i64 h :: (M ++ [Value.int .i64 0, Value.int .i64 0, Value.int .i64 0, Value.bool false, Value.bool false]) ∧ M.length = 1024 ∧ ∀ k, k < 512 → M[k * 2]? = some (.int .i64 0) ∧ M[k * 2 + 1]? = some (.bool false) :=
  ⟨_, rfl, (flat_even 512 _ _).1, (flat_even 512 _ _).2⟩

theorem RefAt.made (w : World) (name : ByteArray) (a b : Int) (t : TypeId) : RefAt (w.alloc (.cells (rpCells name (sz a : Nat) (sz b : Nat)) t)) w.heap.size name (Pm.new a b) := by
  obtain ⟨M, e, hl, hm⟩ := rp_list name (sz a : Nat) (sz b : Nat)
  have c : ∀ i v, (rpList name (sz a : Nat) (sz b : Nat))[i]? = some v → Cell (w.alloc (.cells (rpCells name (sz a : Nat) (sz b : Nat)) t)) w.heap.size i v := fun i v h => Cell.box i (by unfold rpCells; rw [List.getElem?_toArray]; exact h)
  rw [e] at c
  have hs : ∀ k, k < 512 → Cell (w.alloc (.cells (rpCells name (sz a : Nat) (sz b : Nat)) t)) w.heap.size (3 + k * 2) (.int .i64 0) ∧ Cell (w.alloc (.cells (rpCells name (sz a : Nat) (sz b : Nat)) t)) w.heap.size (3 + k * 2 + 1) (.bool false) := fun k hk => by
    refine ⟨c _ _ ?_, c _ _ ?_⟩
    · rw [show 3 + k * 2 = k * 2 + 1 + 1 + 1 by omega, List.getElem?_cons_succ, List.getElem?_cons_succ, List.getElem?_cons_succ, List.getElem?_append_left (by omega)]
      exact (hm k hk).1
    · rw [show 3 + k * 2 + 1 = k * 2 + 1 + 1 + 1 + 1 by omega, List.getElem?_cons_succ, List.getElem?_cons_succ, List.getElem?_cons_succ, List.getElem?_append_left (by omega)]
      exact (hm k hk).2
  have he : ∀ k v, ([Value.int .i64 0, Value.int .i64 0, Value.int .i64 0, Value.bool false, Value.bool false] : List Value)[k]? = some v → Cell (w.alloc (.cells (rpCells name (sz a : Nat) (sz b : Nat)) t)) w.heap.size (1027 + k) v := fun k v hv => by
    refine c _ _ ?_
    rw [show 1027 + k = (1024 + k) + 1 + 1 + 1 by omega, List.getElem?_cons_succ, List.getElem?_cons_succ, List.getElem?_cons_succ, List.getElem?_append_right (by omega), hl, Nat.add_sub_cancel_left]
    exact hv
  clear hm hl e
  refine ⟨c 0 _ rfl, c 1 _ rfl, c 2 _ rfl, fun o ho => hs o (by omega), fun o ho => ?_, he 0 _ rfl, he 1 _ rfl, he 2 _ rfl, he 3 _ rfl, he 4 _ rfl⟩
  have := hs (256 + o) (by omega)
  rwa [show 3 + (256 + o) * 2 = 515 + o * 2 by omega] at this

theorem rsize_any (n : Int) (w : World) :
    Calls Try.prog 25 #[.int .i64 n] w fun e w' => e = .returned (.int .i64 (sz n : Nat)) ∧ w = w' := by
  have E := Lib.hid (show ((sz n : Nat) : Int) = min (max n 0) 65535 by unfold sz; omega)
  go_enter Try.func25, Try.ntmps25
  go_wp2_with fail
  go_ret
  exact ⟨by rw [E.out]; rfl, rfl⟩

set_option maxHeartbeats 800000 in
theorem agree_any (A : Option Addr) (n c : Nat) (zs : List Int) (x : Int) (w : World) (h : Ints w A n zs) :
    Calls Try.prog 39 #[.int .i64 x, .slice A n c] w fun e w' => e = .returned (.bool (decide (x ∈ zs))) ∧ w = w' := by
  have hm := h.2.2.2
  unfold maxLen at hm
  have H := Lib.hid h
  clear h
  go_enter Try.func39, Try.ntmps39
  go_wp2
  go_loop [5] (fun i => ∃ k : Nat, k ≤ n ∧ i = .int .i64 k ∧ Hid (x ∉ zs.take k)) (fun i => n - (intOf i).toNat)
  case atStart => exact ⟨0, Nat.zero_le _, rfl, Lib.hid (by simp)⟩
  case round =>
    obtain ⟨k, hk, rfl, hn⟩ := hrel
    by_cases hlt : k < n
    · obtain ⟨y, hy⟩ : ∃ y, zs[k]? = some y := ⟨zs[k]'(by rw [H.out.1]; exact hlt), List.getElem?_eq_getElem _⟩
      obtain ⟨b, off, rfl, hb, hc⟩ := H.out.2.1 (by omega)
      have hcx := hc k y hy
      have HY := Lib.hid hy
      clear hy hc
      by_cases e : y = x
      · subst e
        have HX := Lib.hid (show decide (y ∈ zs) = true from decide_eq_true (List.mem_of_getElem? HY.out))
        go_wp2
        go_ret
        exact ⟨by rw [HX.out]; rfl, rfl⟩
      · have e1 : (y == x) = false := by simpa using e
        have HN := Lib.hid (show x ∉ zs.take (k + 1) by rw [take_next HY.out, List.mem_append]; rintro (q | q); exact hn.out q; exact e (by simpa using (List.mem_singleton.1 q).symm))
        clear e
        go_wp2
        go_round
        case rel => exact ⟨k + 1, by omega, by go_num, HN⟩
        case measure => simp [intOf]; omega
    · have ht : zs.take k = zs := List.take_of_length_le (by rw [H.out.1]; omega)
      have HN : Hid (decide (x ∈ zs) = false) := Lib.hid (by have q := hn.out; rw [ht] at q; exact decide_eq_false q)
      clear ht hn
      have hkn : ¬ (k : Int) < (n : Int) := by omega
      go_wp2
      go_ret
      exact ⟨by rw [HN.out]; rfl, rfl⟩

end Go.Proofs.Ytmkgcmnimpkmjaa
