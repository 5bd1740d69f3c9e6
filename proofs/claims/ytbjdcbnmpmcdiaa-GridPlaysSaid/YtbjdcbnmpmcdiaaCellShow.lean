/- cell.Show, and the document's. Own work. -/
import Derived.Test.YtbjdcbnmpmcdiaaCellBk
import Derived.Test.YtbjdcbnmpmcdiaaUtfRefX
import Derived.Laws.MakeOwn
namespace Go.Proofs.Ytbjdcbnmpmcdiaa
set_option linter.unusedVariables false
set_option linter.unusedSimpArgs false
open Go.RowKit

/-- The text of cells. -/
def showL (xs : List CellM) : ByteArray := runesBytes (xs.map (·.r))
theorem showL_snoc (xs : List CellM) (c : CellM) : showL (xs ++ [c]) = showL xs ++ Utf8.encode c.r := by
  unfold showL runesBytes
  rw [List.map_append, List.foldl_append]
  rfl

theorem showL_size (xs : List CellM) (k : Nat) : (showL (xs.take k)).size ≤ 4 * k := by
  induction k with
  | zero => rw [List.take_zero]; exact Nat.le_refl _
  | succ k ih =>
    rcases Nat.lt_or_ge k xs.length with e | e
    · rw [take_next (List.getElem?_eq_getElem e), showL_snoc, ByteArray.size_append]
      have := encode_size_le (xs[k]).r
      omega
    · rw [List.take_of_length_le (by omega), ← List.take_of_length_le (l := xs) (i := k) (by omega)]
      omega

theorem flatL_cell {w : World} {A : Option Addr} {n : Nat} {xs : List CellM} (h : Src w A (n * 6) (flatL xs)) (hl : xs.length = n) {k : Nat} {c : CellM} (hk : xs[k]? = some c) :
    ∃ b off, A = some ⟨b, off, none⟩ ∧ b < w.heap.size ∧ ∀ i v, (cellCs c)[i]? = some v → w.cell? ⟨b, off + k * 6 + i, none⟩ = some v := by
  have hkl : k < xs.length := by
    rcases Nat.lt_or_ge k xs.length with e | e
    · exact e
    · rw [List.getElem?_eq_none e] at hk; cases hk
  obtain ⟨b, off, e, hb, hc⟩ := h.2 (by omega)
  exact ⟨b, off, e, hb, fun i v hv => by rw [Nat.add_assoc]; exact hc _ v (flatL_at xs k i c v hk hv)⟩

set_option maxRecDepth 100000 in
set_option maxHeartbeats 1600000 in
theorem cell_show (A : Option Addr) (n c : Nat) (xs : List CellM) (w : World) (h : Src w A (n * 6) (flatL xs)) (hn : n ≤ 1000000) :
    Calls Try.prog 57 #[.slice A n c] w fun e w' => e = .returned (.string (showL xs)) ∧ Below w.heap.size w w' := by
  obtain ⟨i0, hi0, hz0, hz1, hz2⟩ := info_parts rune_info
  have hl : xs.length = n := by have := h.1; rw [flatL_len] at this; omega
  have hni : (n : Int) ≤ 1000000 := by omega
  have hmk : (Instr.makeSlice 107 (.int .i64 0) (.int .i64 (n : Int))).run Try.prog w = .ok (.slice (some ⟨w.heap.size, 0, none⟩) 0 n) (w.alloc (.cells (madeCells (Value.int .i32 0).cells (n * i0.size)) 21)) := by
    have h := run_make (P := Try.prog) w 107 21 i0 _ Try.underlying107 hi0 hz0 .i64 .i64 0 (n : Int) (by omega) (by omega) (by rw [hz2]; omega) (by omega)
    simpa using h
  obtain ⟨w2, hw2⟩ : ∃ w2, w2 = w.alloc (.cells (madeCells (Value.int .i32 0).cells (n * i0.size)) 21) := ⟨_, rfl⟩
  rw [← hw2] at hmk
  obtain ⟨g, hg⟩ : ∃ g, g = w.heap.size := ⟨_, rfl⟩
  have HO : Hid (w2.ownsRow g 21 1 (.slice (some ⟨g, 0, none⟩) 0 n) 0 (((xs.take 0).map (·.r)).map (Value.int .i32))) := Lib.hid (by
    refine ⟨by simp, .inr ⟨g, n, _, rfl, Nat.le_refl _, by rw [hw2, hg]; exact heap_alloc_new w _, Nat.zero_le _, by unfold maxLen; omega, ?_, by simp⟩⟩
    rw [size_madeCells, hz1])
  have HB : Hid (Below g w w2) := Lib.hid (by rw [hw2, hg]; exact (Below.refl _ w).alloc (Nat.le_refl _) _)
  have HG := Lib.hid hg
  have H := Lib.hid h
  have HL := Lib.hid hl
  rw [← hg] at hmk
  clear h hl hw2
  go_enter Try.func57, Try.ntmps57
  go_wp2_with fail
  try rw [← hg]
  clear hmk hg
  go_loopw [3, 11] (fun v i wr => ∃ k : Nat, i = .int .i64 k ∧ k ≤ n ∧ Hid (wr.ownsRow g 21 1 v k (((xs.take k).map (·.r)).map (Value.int .i32))) ∧ Hid (Below g w wr)) (fun _ i _ => n - (intOf i).toNat)
  case atStart => exact ⟨0, rfl, Nat.zero_le _, HO, HB⟩
  case round =>
    obtain ⟨k, rfl, hk, HO2, HB2⟩ := hrel
    clear HO HB
    by_cases hlt : k < n
    · obtain ⟨x, hx⟩ : ∃ x, xs[k]? = some x := ⟨xs[k]'(by rw [HL.out]; exact hlt), List.getElem?_eq_getElem _⟩
      obtain ⟨b, off, rfl, hb, hcc⟩ := flatL_cell H.out HL.out hx
      have hbg : b < g := by rw [HG.out]; exact hb
      have cc : ∀ i v, (cellCs x)[i]? = some v → wr.cell? ⟨b, off + k * 6 + i, none⟩ = some v := fun i v hv => (HB2.out.cell (p := ⟨b, off + k * 6 + i, none⟩) hbg).trans (hcc i v hv)
      have x0 := cc 0 _ rfl
      have x1 := cc 1 _ rfl
      have x2 := cc 2 _ rfl
      have x3 := cc 3 _ rfl
      have x4 := cc 4 _ rfl
      have x5 := cc 5 _ rfl
      rw [Nat.add_zero] at x0
      have hki : ((k : Int) < (n : Int)) := by omega
      have hk0 : (0 : Int) ≤ (k : Int) := by omega
      have hgr : g ≤ wr.heap.size := by have := HB2.out.size; have := HG.out; omega
      have htk : Hid (((xs.take (k + 1)).map (·.r)).map (Value.int .i32) = ((xs.take k).map (·.r)).map (Value.int .i32) ++ [.int .i32 x.r]) := Lib.hid (by rw [take_next hx]; simp)
      obtain ⟨L, hL⟩ : ∃ L, ((xs.take k).map (·.r)).map (Value.int .i32) = L := ⟨_, rfl⟩
      rw [hL] at htk HO2
      clear hx hcc cc hL
      go_wp2_with (at_builtin; refine wpList_own_at _ rfl (.tmp 15) (.tmp 18) 107 rfl g 21 i0 (.int .i32 0) 1 4 Try.underlying107 hi0 hz0 hz1 hz2 rfl (by decide) _ k L rfl (own_keep HO2.out (((Keep.refl (fun _ => False) wr).alloc _).alloc _) (fun _ _ x => x)) ⟨wr.heap.size + 1, 0, none⟩ 1 1 [.int .i32 x.r] rfl rfl ?c1 (by intro u hu; simp at hu; subst hu; rfl) ?c3 ?c4 ?c5 ?_)
      case c1 =>
        intro j u hu
        have := cells_new (wr.alloc (.cells (#[.int .i32 x.r, .int .i64 x.a.fg, .int .i64 x.a.bg, .bool x.a.b, .bool x.a.u, .bool x.a.i] : Array Value) 42)) [.int .i32 x.r] 21 _ rfl j u hu
        simpa using this
      case c3 => unfold maxLen; omega
      case c4 => omega
      case c5 => simp; omega
      intro v' w3 hown hgrow _
      have HO3 : Hid (w3.ownsRow g 21 1 v' (k + 1) (((xs.take (k + 1)).map (·.r)).map (Value.int .i32))) := Lib.hid (by rw [htk.out]; exact hown)
      have HB3 : Hid (Below g w w3) := Lib.hid (((HB2.out.alloc hgr _).alloc (by simp; omega) _).trans (hgrow.below (by simp; omega) (fun q hq e => by have := (HO2.out.lt q e).1; omega)))
      clear hown hgrow HO2 HB2 htk
      go_wp2_with fail
      go_roundw
      case rel => exact ⟨k + 1, by go_num, by omega, HO3, HB3⟩
      case measure => simp [intOf]; omega
    · have hkn : k = n := by omega
      subst hkn
      obtain ⟨A3, c3, rfl, -⟩ := own_form HO2.out
      have HS : Hid (Src wr A3 k ((xs.map (·.r)).map (Value.int .i32))) := Lib.hid (by
        have := (Buf.of_own HO2.out).src
        rwa [List.take_of_length_le (by rw [HL.out]; exact Nat.le_refl _)] at this)
      have HT := Lib.hid (utf_text A3 k c3 _ wr HS.out)
      clear HO2 HS
      go_wp2_with fail
      refine HT.out.mono ?_
      rintro e w4 ⟨rfl, rfl⟩
      go_wp2_with fail
      go_ret
      have hb := HB2.out
      rw [HG.out] at hb
      exact ⟨rfl, hb⟩

set_option maxRecDepth 100000 in
set_option maxHeartbeats 1600000 in
theorem ref_show (A : Option Addr) (n c : Nat) (xs : List CellM) (w : World) (h : Src w A (n * 6) (flatL xs)) (hn : n ≤ 1000000) :
    Calls Try.prog 39 #[.slice A n c] w fun e w' => e = .returned (.string (showL xs)) ∧ Below w.heap.size w w' := by
  have hl : xs.length = n := by have := h.1; rw [flatL_len] at this; omega
  have hni : (n : Int) ≤ 1000000 := by omega
  have H := Lib.hid h
  have HL := Lib.hid hl
  clear h hl
  go_enter Try.func39, Try.ntmps39
  go_wp2_with fail
  go_loopw [3, 4] (fun v i wr => ∃ k : Nat, i = .int .i64 k ∧ k ≤ n ∧ v = .string (showL (xs.take k)) ∧ Hid (Below w.heap.size w wr)) (fun _ i _ => n - (intOf i).toNat)
  case atStart => exact ⟨0, rfl, Nat.zero_le _, rfl, Lib.hid (Below.refl _ _)⟩
  case round =>
    obtain ⟨k, rfl, hk, rfl, HB2⟩ := hrel
    by_cases hlt : k < n
    · obtain ⟨x, hx⟩ : ∃ x, xs[k]? = some x := ⟨xs[k]'(by rw [HL.out]; exact hlt), List.getElem?_eq_getElem _⟩
      obtain ⟨b, off, rfl, hb, hcc⟩ := flatL_cell H.out HL.out hx
      have x0 : wr.cell? ⟨b, off + k * 6, none⟩ = some (.int .i32 x.r) := (HB2.out.cell (p := ⟨b, off + k * 6, none⟩) hb).trans (hcc 0 _ rfl)
      have hki : ((k : Int) < (n : Int)) := by omega
      have hk0 : (0 : Int) ≤ (k : Int) := by omega
      have htk : Hid (showL (xs.take (k + 1)) = showL (xs.take k) ++ Utf8.encode x.r) := Lib.hid (by rw [take_next hx, showL_snoc])
      obtain ⟨S, hS⟩ : ∃ S, showL (xs.take k) = S := ⟨_, rfl⟩
      rw [hS] at htk ⊢
      have hs4 := showL_size xs k
      rw [hS] at hs4
      have he4 := encode_size_le x.r
      obtain ⟨E, hE⟩ : ∃ E, Utf8.encode x.r = E := ⟨_, rfl⟩
      have HT := Lib.hid (fun V => refText x.r V)
      rw [hE] at htk HT he4
      have hsE : S.size + E.size ≤ 9223372036854775807 := by omega
      clear hx hcc hS hE
      go_wp2_with fail
      refine (HT.out _).mono ?_
      rintro e w2 ⟨rfl, hb2⟩
      have HB3 : Hid (Below w.heap.size w w2) := Lib.hid (HB2.out.trans (hb2.mono HB2.out.size))
      clear hb2 HB2
      go_wp2_with fail
      go_roundw
      case rel => exact ⟨k + 1, by go_num, by omega, by rw [htk.out], HB3⟩
      case measure => simp [intOf]; omega
    · have hkn : k = n := by omega
      subst hkn
      have HS : Hid (showL (xs.take k) = showL xs) := Lib.hid (by rw [List.take_of_length_le (by rw [HL.out]; exact Nat.le_refl _)])
      rw [HS.out]
      go_wp2_with fail
      go_ret
      exact ⟨rfl, HB2.out⟩

end Go.Proofs.Ytbjdcbnmpmcdiaa
