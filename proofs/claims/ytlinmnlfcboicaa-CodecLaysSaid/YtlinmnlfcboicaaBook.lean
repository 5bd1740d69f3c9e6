/- pontoonbook's LentInts, StaysInts, LentTexts, StaysTexts, Join; the document's own Num and Text of chapter 1. Own work. -/
import Derived.Test.YtlinmnlfcboicaaLight
import Derived.Test.YtlinmnlfcboicaaRow
import Derived.Deep.QuietTactic
import Derived.BigQuiet
import Derived.ShutString
namespace Go.Proofs.Ytlinmnlfcboicaa
set_option linter.unusedVariables false
open Go.RowKit

/-- A slice that is read: m elements us. -/
def Src (w : World) (A : Option Addr) (m : Nat) (us : List Value) : Prop :=
  us.length = m ∧ (0 < m → ∃ b off, A = some ⟨b, off, none⟩ ∧ b < w.heap.size ∧ ∀ i u, us[i]? = some u → w.cell? ⟨b, off + i, none⟩ = some u)

theorem Src.keep {w w' : World} {A : Option Addr} {m : Nat} {us : List Value} (h : Src w A m us) (k : Keep (fun _ => False) w w') : Src w' A m us :=
  ⟨h.1, fun h0 => by
    obtain ⟨b, off, e, hb, hc⟩ := h.2 h0
    exact ⟨b, off, e, Nat.lt_of_lt_of_le hb k.size, fun i u hu => (k.cell (p := ⟨b, off + i, none⟩) hb (fun x => x)).trans (hc i u hu)⟩⟩
theorem Src.below {w w' : World} {A : Option Addr} {m : Nat} {us : List Value} (h : Src w A m us) (k : Below w.heap.size w w') : Src w' A m us := h.keep (Keep.of_below _ k)

theorem src_ints {w : World} {A : Option Addr} {n : Nat} {xs : List Int} (h : Ints w A n xs) : Src w A n (xs.map (Value.int .i64)) :=
  ⟨by rw [List.length_map]; exact h.1, fun h0 => by
    obtain ⟨b, off, e, hb, hc⟩ := h.2.1 h0
    refine ⟨b, off, e, hb, fun i u hu => ?_⟩
    rw [List.getElem?_map] at hu
    obtain ⟨x, hx, rfl⟩ := Option.map_eq_some_iff.1 hu
    exact hc i x hx⟩
theorem src_strs {w : World} {A : Option Addr} {n : Nat} {xs : List ByteArray} (h : Strs w A n xs) : Src w A n (xs.map Value.string) :=
  ⟨by rw [List.length_map]; exact h.1, fun h0 => by
    obtain ⟨b, off, e, hb, hc⟩ := h.2.1 h0
    refine ⟨b, off, e, hb, fun i u hu => ?_⟩
    rw [List.getElem?_map] at hu
    obtain ⟨x, hx, rfl⟩ := Option.map_eq_some_iff.1 hu
    exact hc i x hx⟩

/-- append(nil, l...): a new row, or nil. -/
theorem run_copy_src {P : Program} (w : World) (t ty e : TypeId) (i : TypeInfo) (z : Value) (bytes : Nat) (ht : P.underlying t = some (.slice e)) (hi : P.info? e = some i) (hz : i.zero = some z)
    (hsize : i.size = 1) (hby : i.bytes = bytes) (hzs : z.cells.size = 1) (A : Option Addr) (m c : Nat) (us : List Value) (hs : Src w A m us) (h1 : ∀ u ∈ us, u.oneCell' = true)
    (h63 : m ≤ maxLen) (hbytes : m * bytes ≤ 140737488355328) :
    ∃ v' w', (Builtin.append_ #[t, t] ty #[.slice none 0 0, .slice A m c]).run P w = .ok v' w' ∧ w'.ownsRow w.heap.size e 1 v' m us ∧ Below w.heap.size w w' := by
  rcases Nat.eq_zero_or_pos m with h0 | h0
  · subst h0
    have hn : us = [] := List.eq_nil_of_length_eq_zero hs.1
    subst hn
    rcases A with _ | ad
    · refine ⟨.slice none 0 0, w, ?_, World.ownsRow_nil _ _ _ _, Below.refl _ _⟩
      simp [Builtin.append_, run_underlying ht, sizeOf, typeInfo, hi, Builtin.lenOf, Builtin.firstCells]
    · obtain ⟨v', w', hr, h2, h3, _⟩ := run_append_own (P := P) w w.heap.size t ty e i z 1 bytes ht hi hz hsize hby hzs (by omega) (.slice none 0 0) 0 [] (World.ownsRow_nil _ _ _ _) ad 0 c [] rfl (fun j u hj => by simp at hj) (fun u hu => by simp at hu) (by unfold maxLen; omega) (by omega) (Nat.le_refl _)
      exact ⟨v', w', hr, by simpa using h2, (Below.refl _ _).grown h3 (Nat.le_refl _) (fun k hk => by simp [Value.ownBlock] at hk)⟩
  · obtain ⟨b, off, rfl, hb, hc⟩ := hs.2 h0
    obtain ⟨v', w', hr, h2, h3, _⟩ := run_append_own (P := P) w w.heap.size t ty e i z 1 bytes ht hi hz hsize hby hzs (by omega) (.slice none 0 0) 0 [] (World.ownsRow_nil _ _ _ _) ⟨b, off, none⟩ m c us (by rw [hs.1]; omega) (fun j u hj => by rw [add_mk]; exact hc j u hj) h1 (by omega) (by rw [Nat.zero_add]; exact hbytes) (Nat.le_refl _)
    exact ⟨v', w', hr, by simpa using h2, (Below.refl _ _).grown h3 (Nat.le_refl _) (fun k hk => by simp [Value.ownBlock] at hk)⟩

/-- A list that was lent: it may be written; behind it stands a mark. -/
def Lent (w : World) (e : TypeId) (g c : Nat) (us : List Value) (mark : Value) : Prop := w.ownsRow 0 e 1 (.slice (some ⟨g, 0, none⟩) (us.length + 1) c) (us.length + 1) (us ++ [mark])
theorem Lent.keep {S : Nat → Prop} {w w' : World} {e : TypeId} {g c : Nat} {us : List Value} {mark : Value} (h : Lent w e g c us mark) (k : Keep S w w') (hn : ¬ S g) : Lent w' e g c us mark :=
  own_keep h k (fun i hi => by simp [Value.ownBlock] at hi; subst hi; exact hn)
theorem Lent.lt {w : World} {e : TypeId} {g c : Nat} {us : List Value} {mark : Value} (h : Lent w e g c us mark) : g < w.heap.size := (World.ownsRow.lt h g rfl).2
theorem Lent.cells {w : World} {e : TypeId} {g c : Nat} {us : List Value} {mark : Value} (h : Lent w e g c us mark) : ∀ j u, us[j]? = some u → w.cell? ⟨g, j, none⟩ = some u := fun j u hj => by
  have h1 := World.ownsRow.cells h (g := g) rfl j u (by rw [List.getElem?_append_left (List.getElem?_eq_some_iff.1 hj).1]; exact hj)
  rw [add_mk, Nat.zero_add] at h1
  exact h1
theorem Lent.mark {w : World} {e : TypeId} {g c : Nat} {us : List Value} {mark : Value} (h : Lent w e g c us mark) : w.cell? ⟨g, us.length, none⟩ = some mark := by
  have h1 := World.ownsRow.cells h (g := g) rfl us.length mark (by rw [List.getElem?_append_right (Nat.le_refl _)]; simp)
  rw [add_mk, Nat.zero_add] at h1
  exact h1
theorem Lent.cap {w : World} {e : TypeId} {g c : Nat} {us : List Value} {mark : Value} (h : Lent w e g c us mark) : us.length + 1 ≤ c ∧ c ≤ maxLen := by
  rcases h.2 with ⟨h1, _⟩ | ⟨g', cap, cur, h1, _, _, h2, h3, _⟩
  · cases h1
  · injection h1 with _ _ h4
    subst h4
    exact ⟨h2, h3⟩
theorem Lent.src {w : World} {e : TypeId} {g c : Nat} {us : List Value} {mark : Value} (h : Lent w e g c us mark) : Src w (some ⟨g, 0, none⟩) us.length us :=
  ⟨rfl, fun _ => ⟨g, 0, rfl, h.lt, fun i u hu => by rw [Nat.zero_add]; exact h.cells i u hu⟩⟩
theorem Lent.slice {w : World} {e : TypeId} {g c : Nat} {us : List Value} {mark : Value} (h : Lent w e g c us mark) {S : Nat → Prop} (hS : ¬ S g) : SliceAt w (some ⟨g, 0, none⟩) us S :=
  fun _ => ⟨g, 0, rfl, h.lt, hS, fun i u hu => by rw [Nat.zero_add]; exact h.cells i u hu⟩
theorem Lent.ne {w : World} {e t : TypeId} {g c p : Nat} {us : List Value} {mark : Value} {cs : Array Value} (h : Lent w e g c us mark) (hp : w.heap[p]? = some (.cells cs t (0, 0))) (hne : e ≠ t) : g ≠ p := fun x => own_ne h hp hne (by rw [← x]; rfl)
theorem Lent.block {w : World} {e : TypeId} {g c : Nat} {us : List Value} {mark : Value} (h : Lent w e g c us mark) : ∃ cur, w.heap[g]? = some (.cells cur e (0, 0)) := by
  rcases h.2 with ⟨h1, _⟩ | ⟨g', cap, cur, h1, _, hg, _⟩
  · cases h1
  · injection h1 with h2
    injection h2 with h2
    injection h2 with h2
    subst h2
    exact ⟨cur, hg⟩

theorem int_info : (Try.prog.info? 3).map (fun i => (i.zero, i.size, i.bytes)) = some (some (.int .i64 0), 1, 8) := by kernel_rfl
theorem string_info : (Try.prog.info? 9).map (fun i => (i.zero, i.size, i.bytes)) = some (some (.string .empty), 1, 16) := by kernel_rfl

theorem one_Ints (xs : List Int) : ∀ u ∈ xs.map (Value.int .i64), u.oneCell' = true := by
  intro u hu
  obtain ⟨x, _, rfl⟩ := List.mem_map.1 hu
  rfl

set_option maxRecDepth 100000 in
set_option maxHeartbeats 800000 in
theorem copy_Ints (A : Option Addr) (n c : Nat) (xs : List Int) (w : World) (h : Src w A n (xs.map (Value.int .i64))) (hn : n ≤ 1099511627776) :
    Calls Try.prog 38 #[.slice A n c] w fun e w' => ∃ v, e = .returned v ∧ w'.ownsRow w.heap.size 3 1 v n (xs.map (Value.int .i64)) ∧ Below w.heap.size w w' := by
  obtain ⟨i0, hi, hz0, hz1, hz2⟩ := info_parts int_info
  obtain ⟨v, w1, hr, h1, h2⟩ := run_copy_src (P := Try.prog) w 30 30 3 i0 (.int .i64 0) 8 Try.underlying30 hi hz0 hz1 hz2 rfl A n c _ h (one_Ints xs) (by unfold maxLen; omega) (by omega)
  have H1 := Lib.hid h1
  have H2 := Lib.hid h2
  have HR := Lib.hid hr
  clear h1 h2 h hr
  go_enter Try.func38, Try.ntmps38
  go_wp2_with (at_builtin; refine wpList_plain rfl fun K hK => ?_; unfold Oper.wp execOp; simp only [resolve, invoke, builtin, Sem.run_bind, Sem.run_pure, Result.andThen_ok, List.map_toArray, List.map_cons, List.map_nil]; rw [show (Builtin.append_ _ _ #[Act.eval _ _, Act.eval _ _]).run _ _ = _ from HR.out]; refine hK _ _ ?_)
  go_ret
  exact ⟨_, rfl, H1.out, H2.out⟩

set_option maxRecDepth 100000 in
set_option maxHeartbeats 800000 in
theorem lent_Ints (A : Option Addr) (n c : Nat) (xs : List Int) (w : World) (h : Src w A n (xs.map (Value.int .i64))) (hn : n ≤ 1099511627776) :
    Calls Try.prog 12 #[.slice A n c] w fun e w' => ∃ g c', e = .returned (.slice (some ⟨g, 0, none⟩) n c') ∧ Lent w' 3 g c' (xs.map (Value.int .i64)) (.int .i64 (-77)) ∧ w.heap.size ≤ g ∧ Below w.heap.size w w' := by
  obtain ⟨i0, hi, hz0, hz1, hz2⟩ := info_parts int_info
  have hlen := Lib.hid (show xs.length = n from by have := h.1; rwa [List.length_map] at this)
  have H := Lib.hid h
  clear h
  go_enter Try.func12, Try.ntmps12
  go_wp2_with fail
  refine (copy_Ints A n c xs _ H.out hn).mono ?_
  rintro r w1 ⟨v, rfl, h1, h2⟩
  have H1 := Lib.hid h1
  have H2 := Lib.hid h2
  clear h1 h2
  go_wp2_with (at_builtin; refine wpList_append_own_at _ rfl (.tmp 4) (.tmp 5) 30 rfl w.heap.size 3 i0 (.int .i64 0) 1 8 Try.underlying30 hi hz0 hz1 hz2 rfl (by decide) v n (xs.map (Value.int .i64)) rfl (H1.out.alloc _) ⟨w1.heap.size, 0, none⟩ 1 1 [.int .i64 (-77)] rfl rfl (cell_one_new _ _ _) ?c2 ?c3 ?c4 ?c5 ?_)
  case c2 => intro u hu; simp at hu; subst hu; rfl
  case c3 => unfold maxLen; omega
  case c4 => omega
  case c5 => have := H2.out.size; simp; omega
  · intro v' w2 hown hgrow _ _
    obtain ⟨A2, c2, rfl, hA2⟩ := own_form hown
    obtain ⟨g, rfl⟩ := hA2 (by omega)
    have hcap : n + 1 ≤ c2 := by
      rcases hown.2 with ⟨q, _⟩ | ⟨g', cap, cur, q, _, _, q2, q3, _⟩
      · cases q
      · injection q with _ _ q4
        subst q4
        exact q2
    have hg := (hown.lt g rfl).1
    have HO : Hid (Lent w2 3 g c2 (xs.map (Value.int .i64)) (.int .i64 (-77))) := by
      show World.ownsRow _ _ _ _ _ _ _
      rw [List.length_map, hlen.out]
      exact ⟨hown.1, by
        rcases hown.2 with q | ⟨g', cap, cur, q1, q2, q3⟩
        · exact .inl q
        · exact .inr ⟨g', cap, cur, q1, Nat.zero_le _, q3⟩⟩
    have HB : Hid (Below w.heap.size w w2) := (H2.out.alloc H2.out.size _).grown hgrow (by have := H2.out.size; simp; omega) (fun k hk => (H1.out.lt k hk).1)
    clear hown hgrow
    go_wp2_with fail
    go_ret
    exact ⟨g, c2, rfl, HO.out, hg, HB.out⟩

set_option maxRecDepth 100000 in
set_option maxHeartbeats 1600000 in
theorem same_Ints (A B : Option Addr) (n c d : Nat) (xs : List Int) (w : World) (hA : Src w A n (xs.map (Value.int .i64))) (hB : Src w B n (xs.map (Value.int .i64))) (hn : n ≤ 1099511627776) :
    Calls Try.prog 44 #[.slice A n c, .slice B n d] w fun e w' => e = .returned (.bool true) ∧ ∃ k, w' = w.drewN k := by
  have HA := Lib.hid hA
  have HB := Lib.hid hB
  have hl := Lib.hid (show xs.length = n from by have := hA.1; rwa [List.length_map] at this)
  clear hA hB
  go_enter Try.func44, Try.ntmps44
  go_wp2_with fail
  go_loopw [5] (fun i wr => ∃ (k q : Nat), i = .int .i64 k ∧ k ≤ n ∧ wr = w.drewN q) (fun i _ => n - (intOf i).toNat)
  case atStart => exact ⟨0, 0, rfl, by omega, rfl⟩
  case round =>
    obtain ⟨k, q, rfl, hk, rfl⟩ := hrel
    by_cases hlt : k < n
    · obtain ⟨x, hx⟩ : ∃ x, xs[k]? = some x := ⟨xs[k]'(by rw [hl.out]; exact hlt), List.getElem?_eq_getElem _⟩
      obtain ⟨b1, o1, rfl, _, hc1⟩ := HA.out.2 (by omega)
      obtain ⟨b2, o2, rfl, _, hc2⟩ := HB.out.2 (by omega)
      have hx1 : w.cell? ⟨b1, o1 + k, none⟩ = some (Value.int .i64 x) := hc1 k _ (by rw [List.getElem?_map, hx]; rfl)
      have hx2 : w.cell? ⟨b2, o2 + k, none⟩ = some (Value.int .i64 x) := hc2 k _ (by rw [List.getElem?_map, hx]; rfl)
      have hki : ((k : Int) < (n : Int)) := by omega
      have hk0 : (0 : Int) ≤ (k : Int) := by omega
      clear hc1 hc2 hx
      go_wp2_with fail
      go_quiet (fail)
      go_wp2_with fail
      go_roundw
      case rel => exact ⟨k + 1, _, by go_num, by omega, rfl⟩
      case measure => simp [intOf]; omega
    · go_wp2_with fail
      go_ret
      exact ⟨rfl, q, rfl⟩

set_option maxRecDepth 100000 in
set_option maxHeartbeats 800000 in
theorem stays_Ints (g c : Nat) (B : Option Addr) (n d : Nat) (xs : List Int) (w : World) (h : Lent w 3 g c (xs.map (Value.int .i64)) (.int .i64 (-77))) (hB : Src w B n (xs.map (Value.int .i64))) (hn : n ≤ 1099511627776) :
    Calls Try.prog 22 #[.slice (some ⟨g, 0, none⟩) n c, .slice B n d] w fun e w' => e = .returned (.bool true) ∧ ∃ k, w' = w.drewN k := by
  have hl : xs.length = n := by have := hB.1; rwa [List.length_map] at this
  have hA := h.src
  have hm := h.mark
  have hcap := h.cap.1
  rw [List.length_map, hl] at hA hm hcap
  have HS := Lib.hid (same_Ints (some ⟨g, 0, none⟩) B n c d xs w hA hB hn)
  clear hA hB h hl
  go_enter Try.func22, Try.ntmps22
  go_wp2_with fail
  refine HS.out.mono ?_
  rintro r w1 ⟨rfl, q, rfl⟩
  go_wp2_with fail
  go_ret
  exact ⟨rfl, q, rfl⟩

theorem one_Texts (xs : List ByteArray) : ∀ u ∈ xs.map (Value.string), u.oneCell' = true := by
  intro u hu
  obtain ⟨x, _, rfl⟩ := List.mem_map.1 hu
  rfl

set_option maxRecDepth 100000 in
set_option maxHeartbeats 800000 in
theorem copy_Texts (A : Option Addr) (n c : Nat) (xs : List ByteArray) (w : World) (h : Src w A n (xs.map (Value.string))) (hn : n ≤ 1099511627776) :
    Calls Try.prog 39 #[.slice A n c] w fun e w' => ∃ v, e = .returned v ∧ w'.ownsRow w.heap.size 9 1 v n (xs.map (Value.string)) ∧ Below w.heap.size w w' := by
  obtain ⟨i0, hi, hz0, hz1, hz2⟩ := info_parts string_info
  obtain ⟨v, w1, hr, h1, h2⟩ := run_copy_src (P := Try.prog) w 31 31 9 i0 (.string .empty) 16 Try.underlying31 hi hz0 hz1 hz2 rfl A n c _ h (one_Texts xs) (by unfold maxLen; omega) (by omega)
  have H1 := Lib.hid h1
  have H2 := Lib.hid h2
  have HR := Lib.hid hr
  clear h1 h2 h hr
  go_enter Try.func39, Try.ntmps39
  go_wp2_with (at_builtin; refine wpList_plain rfl fun K hK => ?_; unfold Oper.wp execOp; simp only [resolve, invoke, builtin, Sem.run_bind, Sem.run_pure, Result.andThen_ok, List.map_toArray, List.map_cons, List.map_nil]; rw [show (Builtin.append_ _ _ #[Act.eval _ _, Act.eval _ _]).run _ _ = _ from HR.out]; refine hK _ _ ?_)
  go_ret
  exact ⟨_, rfl, H1.out, H2.out⟩

set_option maxRecDepth 100000 in
set_option maxHeartbeats 800000 in
theorem lent_Texts (A : Option Addr) (n c : Nat) (xs : List ByteArray) (w : World) (h : Src w A n (xs.map (Value.string))) (hn : n ≤ 1099511627776) :
    Calls Try.prog 13 #[.slice A n c] w fun e w' => ∃ g c', e = .returned (.slice (some ⟨g, 0, none⟩) n c') ∧ Lent w' 9 g c' (xs.map (Value.string)) (.string ⟨#[109, 97, 114, 107]⟩) ∧ w.heap.size ≤ g ∧ Below w.heap.size w w' := by
  obtain ⟨i0, hi, hz0, hz1, hz2⟩ := info_parts string_info
  have hlen := Lib.hid (show xs.length = n from by have := h.1; rwa [List.length_map] at this)
  have H := Lib.hid h
  clear h
  go_enter Try.func13, Try.ntmps13
  go_wp2_with fail
  refine (copy_Texts A n c xs _ H.out hn).mono ?_
  rintro r w1 ⟨v, rfl, h1, h2⟩
  have H1 := Lib.hid h1
  have H2 := Lib.hid h2
  clear h1 h2
  go_wp2_with (at_builtin; refine wpList_append_own_at _ rfl (.tmp 4) (.tmp 5) 31 rfl w.heap.size 9 i0 (.string .empty) 1 16 Try.underlying31 hi hz0 hz1 hz2 rfl (by decide) v n (xs.map (Value.string)) rfl (H1.out.alloc _) ⟨w1.heap.size, 0, none⟩ 1 1 [.string ⟨#[109, 97, 114, 107]⟩] rfl rfl (cell_one_new _ _ _) ?c2 ?c3 ?c4 ?c5 ?_)
  case c2 => intro u hu; simp at hu; subst hu; rfl
  case c3 => unfold maxLen; omega
  case c4 => omega
  case c5 => have := H2.out.size; simp; omega
  · intro v' w2 hown hgrow _ _
    obtain ⟨A2, c2, rfl, hA2⟩ := own_form hown
    obtain ⟨g, rfl⟩ := hA2 (by omega)
    have hcap : n + 1 ≤ c2 := by
      rcases hown.2 with ⟨q, _⟩ | ⟨g', cap, cur, q, _, _, q2, q3, _⟩
      · cases q
      · injection q with _ _ q4
        subst q4
        exact q2
    have hg := (hown.lt g rfl).1
    have HO : Hid (Lent w2 9 g c2 (xs.map (Value.string)) (.string ⟨#[109, 97, 114, 107]⟩)) := by
      show World.ownsRow _ _ _ _ _ _ _
      rw [List.length_map, hlen.out]
      exact ⟨hown.1, by
        rcases hown.2 with q | ⟨g', cap, cur, q1, q2, q3⟩
        · exact .inl q
        · exact .inr ⟨g', cap, cur, q1, Nat.zero_le _, q3⟩⟩
    have HB : Hid (Below w.heap.size w w2) := (H2.out.alloc H2.out.size _).grown hgrow (by have := H2.out.size; simp; omega) (fun k hk => (H1.out.lt k hk).1)
    clear hown hgrow
    go_wp2_with fail
    go_ret
    exact ⟨g, c2, rfl, HO.out, hg, HB.out⟩

set_option maxRecDepth 100000 in
set_option maxHeartbeats 1600000 in
theorem same_Texts (A B : Option Addr) (n c d : Nat) (xs : List ByteArray) (w : World) (hA : Src w A n (xs.map (Value.string))) (hB : Src w B n (xs.map (Value.string))) (hn : n ≤ 1099511627776) :
    Calls Try.prog 45 #[.slice A n c, .slice B n d] w fun e w' => e = .returned (.bool true) ∧ ∃ k, w' = w.drewN k := by
  have HA := Lib.hid hA
  have HB := Lib.hid hB
  have hl := Lib.hid (show xs.length = n from by have := hA.1; rwa [List.length_map] at this)
  clear hA hB
  go_enter Try.func45, Try.ntmps45
  go_wp2_with fail
  go_loopw [5] (fun i wr => ∃ (k q : Nat), i = .int .i64 k ∧ k ≤ n ∧ wr = w.drewN q) (fun i _ => n - (intOf i).toNat)
  case atStart => exact ⟨0, 0, rfl, by omega, rfl⟩
  case round =>
    obtain ⟨k, q, rfl, hk, rfl⟩ := hrel
    by_cases hlt : k < n
    · obtain ⟨x, hx⟩ : ∃ x, xs[k]? = some x := ⟨xs[k]'(by rw [hl.out]; exact hlt), List.getElem?_eq_getElem _⟩
      obtain ⟨b1, o1, rfl, _, hc1⟩ := HA.out.2 (by omega)
      obtain ⟨b2, o2, rfl, _, hc2⟩ := HB.out.2 (by omega)
      have hx1 : w.cell? ⟨b1, o1 + k, none⟩ = some (Value.string x) := hc1 k _ (by rw [List.getElem?_map, hx]; rfl)
      have hx2 : w.cell? ⟨b2, o2 + k, none⟩ = some (Value.string x) := hc2 k _ (by rw [List.getElem?_map, hx]; rfl)
      have hki : ((k : Int) < (n : Int)) := by omega
      have hk0 : (0 : Int) ≤ (k : Int) := by omega
      clear hc1 hc2 hx
      go_wp2_with fail
      go_quiet (fail)
      go_wp2_with fail
      go_roundw
      case rel => exact ⟨k + 1, _, by go_num, by omega, rfl⟩
      case measure => simp [intOf]; omega
    · go_wp2_with fail
      go_ret
      exact ⟨rfl, q, rfl⟩

set_option maxRecDepth 100000 in
set_option maxHeartbeats 800000 in
theorem stays_Texts (g c : Nat) (B : Option Addr) (n d : Nat) (xs : List ByteArray) (w : World) (h : Lent w 9 g c (xs.map (Value.string)) (.string ⟨#[109, 97, 114, 107]⟩)) (hB : Src w B n (xs.map (Value.string))) (hn : n ≤ 1099511627776) :
    Calls Try.prog 23 #[.slice (some ⟨g, 0, none⟩) n c, .slice B n d] w fun e w' => e = .returned (.bool true) ∧ ∃ k, w' = w.drewN k := by
  have hl : xs.length = n := by have := hB.1; rwa [List.length_map] at this
  have hA := h.src
  have hm := h.mark
  have hcap := h.cap.1
  rw [List.length_map, hl] at hA hm hcap
  have HS := Lib.hid (same_Texts (some ⟨g, 0, none⟩) B n c d xs w hA hB hn)
  clear hA hB h hl
  go_enter Try.func23, Try.ntmps23
  go_wp2_with fail
  refine HS.out.mono ?_
  rintro r w1 ⟨rfl, q, rfl⟩
  go_wp2_with fail
  go_ret
  exact ⟨rfl, q, rfl⟩

end Go.Proofs.Ytlinmnlfcboicaa
