/- wire.Plain. Own work. -/
import Derived.Test.YtopgejjencoelaaData
import Derived.Test.YtopgejjencoelaaFeedOne
import Derived.Test.YtopgejjencoelaaToks
namespace Go.Proofs.Ytopgejjencoelaa
set_option linter.unusedVariables false
set_option linter.unusedSimpArgs false
open Go.RowKit

/-- A store of all cells of a block that was just made. -/
theorem run_store_new {P : Program} (w : World) (t : TypeId) (Z cs : Array Value) (hz : cs.size = Z.size) (h1 : ∀ v ∈ cs.toList, v.oneCell' = true) : (storeCells ⟨w.heap.size, 0, none⟩ cs.toList).run P (w.alloc (.cells Z t)) = .ok () (w.alloc (.cells cs t)) := by
  have h := run_storeCells_from (P := P) w.heap.size t cs.toList 0 Z (w.alloc (.cells Z t)) (heap_alloc_new w _) (by simp [hz]) h1
  rw [h]
  congr 1
  unfold World.setRow World.alloc
  congr 1
  apply Array.ext
  · simp
  · intro k h2 h3
    simp only [Array.getElem_modify, Array.getElem_push]
    have h4 : k < w.heap.size + 1 := by simpa using h3
    by_cases h5 : k = w.heap.size
    · subst h5; simp
    · have : k < w.heap.size := by omega
      simp [this, Ne.symm h5]

set_option maxRecDepth 100000 in
set_option maxHeartbeats 3200000 in
theorem wire_plain (bin : Bool) (s : ByteArray) (w : World) (hs : s.size ≤ 1000000000) :
    Calls Try.prog 16 #[.bool bin, .string s] w fun e w' => e = .returned (.string ⟨(plainOf bin s.data.toList).toArray⟩) ∧ Below w.heap.size w w' := by
  obtain ⟨CS, hCS⟩ : ∃ CS, CS = rdCells bin := ⟨_, rfl⟩
  have hbt := rd_built bin
  have hnw := rd_new w bin
  rw [← hCS] at hbt hnw
  have hz1 : (w.alloc (.cells CS 62)).heap.size = w.heap.size + 1 := by simp
  have hbl := bld_new (w.alloc (.cells CS 62))
  rw [hz1] at hbl
  have F1 := feed_one w.heap.size bin false Rd.new none 0 s _ (hnw.alloc (.cells #[.pointer none, .slice none 0 0] 77)) (by omega)
  have hz2 : ((w.alloc (.cells CS 62)).alloc (.cells #[.pointer none, .slice none 0 0] 77)).heap.size = w.heap.size + 2 := by simp
  rw [hz2] at F1
  have HST := Lib.hid (run_store_new (P := Try.prog) w 62 Try.zeroCells62 CS (by rw [hCS]; cases bin <;> kernel_rfl) (by rw [hCS]; cases bin <;> exact of_decide_eq_true (by kernel_rfl)))
  have HB := Lib.hid hbt
  have HBL := Lib.hid hbl
  have FF := Lib.hid F1
  have HS := Lib.hid hs
  have HZ := Lib.hid hz2
  have hcs : CS.size = 107 := by rw [hCS]; cases bin <;> kernel_rfl
  clear hCS hbt hnw F1 hs hbl hz1 hz2
  go_enter Try.func16, Try.ntmps16
  go_wp2_with (with_reducible refine wpList_built rfl 62 #[(0, .tmp 9)] rfl CS ?hbuilt ?_)
  case hbuilt => first | exact HB.out | (simp; exact HB.out)
  rw [HST.out]
  go_wp2_with fail
  refine FF.out.mono ?_
  rintro e w3 ⟨v3, rfl, hr3, A3, c3, h3, s3, n3⟩
  obtain ⟨l, hl⟩ : ∃ l, l = feedL bin Rd.new s.data.toList := ⟨_, rfl⟩
  rw [← hl] at hr3
  have hpl : plainOf bin s.data.toList = dataOf l := by rw [hl]; exact dataOf_plain _
  have hs1 : tsum l ≤ 1000000000 := by
    have h1 := feed_sum bin Rd.new s.data.toList
    have h4 : s.data.toList.length = s.size := (Lib.size_eq s).symm
    have h5 : Rd.new.text.length = 0 := rfl
    have h6 := HS.out
    rw [hl]; omega
  have hs2 : l.length ≤ 1000000000 := by
    have h1 := feed_len bin Rd.new s.data.toList
    have h4 : s.data.toList.length = s.size := (Lib.size_eq s).symm
    have h6 := HS.out
    rw [hl]; omega
  have hfar : ∀ i, w.heap.size + 1 ≤ i → ¬ rdOwn w.heap.size none i := fun i hi x => by
    have := rdOwn_none x
    omega
  have HBL3 := Lib.hid (HBL.out.keep s3.1 hfar)
  have B3 := Lib.hid (show Below w.heap.size w w3 from (((Below.refl w.heap.size w).alloc (Nat.le_refl _) (.cells CS 62)).alloc (by simp) (.cells #[.pointer none, .slice none 0 0] 77)).trans (s3.1.below (by rw [HZ.out]; omega) (fun i hi x => by
    have := rdOwn_none x
    omega)))
  have hsz3 := s3.1.size
  rw [HZ.out] at hsz3
  have HPL := Lib.hid hpl
  have HR := Lib.hid hr3
  have HT := Lib.hid hs1
  have hlb : (l.length : Int) ≤ 1000000000 := by omega
  obtain ⟨Av, cv, rfl, _⟩ := own_form hr3
  clear hr3 h3 s3 n3 hl hpl hs1 hs2 hfar
  go_wp2_with fail
  go_loopw [15] (fun i wr => ∃ k : Nat, i = .int .i64 k ∧ k ≤ l.length ∧ Hid (Bld (w.heap.size + 1) (w.heap.size + 1) (dataOf (l.take k)) wr) ∧ Hid (wr.ownsRow (w.heap.size + 2) 67 4 (.slice Av l.length cv) l.length (toks l)) ∧ Hid (Below w.heap.size w wr) ∧ w.heap.size + 2 ≤ wr.heap.size) (fun i _ => l.length - (intOf i).toNat)
  case atStart => exact ⟨0, rfl, by omega, HBL3, Lib.hid (own_base HR.out (by rw [HZ.out]; exact Nat.le_refl _)), B3, hsz3⟩
  case round =>
    obtain ⟨k, rfl, hk, hb, hr, hw, hwz⟩ := hrel
    have hk0 : (0 : Int) ≤ (k : Int) := by omega
    by_cases hlt : k < l.length
    · obtain ⟨t, ht⟩ : ∃ t, l[k]? = some t := ⟨_, List.getElem?_eq_getElem hlt⟩
      obtain ⟨g1, d1, e1, hg1, p0, p1, p2, p3⟩ := tok_cells hr.out ht
      injection e1 with e1 _ e3
      subst e1 e3
      have hg2 : w.heap.size + 2 ≤ g1 := (hr.out.lt g1 rfl).1
      have hki : (k : Int) < (l.length : Int) := by omega
      obtain ⟨T, hT⟩ : ∃ T : ByteArray, T = ⟨t.text.toArray⟩ := ⟨_, rfl⟩
      rw [← hT] at p3
      have hnx := Lib.hid (show dataOf (l.take (k + 1)) = dataOf (l.take k) ++ (if t.kind = 0 then t.text else []) by rw [take_next ht, dataOf_add]; simp [dataOf])
      have hz : (dataOf (l.take k)).length + T.size ≤ 10000000000 := by
        rw [hT, size_mk]
        have h1 := tsum_mem (List.mem_of_getElem? ht)
        have h2 := HT.out
        have h3 := tsum_take l k
        have h4 := dataOf_len (l.take k)
        omega
      have hTd : T.data.toList = t.text := by rw [hT]
      have HTD := Lib.hid hTd
      have HB2 := Lib.hid (hb.out.alloc (.cells #[.int .i64 t.kind, .int .i64 t.cmd, .int .i64 t.opt, .string T] 67))
      have HR2 := Lib.hid (own_keep hr.out ((Keep.refl (fun _ => False) wr).alloc (.cells #[.int .i64 t.kind, .int .i64 t.cmd, .int .i64 t.opt, .string T] 67)) (fun _ _ x => x))
      have HW2 := Lib.hid (hw.out.alloc hw.out.size (.cells #[.int .i64 t.kind, .int .i64 t.cmd, .int .i64 t.opt, .string T] 67))
      have HCT := Lib.hid (HB2.out.text T hz (by simp; omega))
      by_cases hkz : t.kind = 0
      · have tk : (t.kind == 0) = true := by simpa using hkz
        have HE := Lib.hid (show dataOf (l.take (k + 1)) = dataOf (l.take k) ++ T.data.toList by rw [hnx.out, if_pos hkz, hTd])
        clear ht hT hTd hkz
        go_wp2_with fail
        refine HCT.out.mono ?_
        rintro r w2 ⟨rfl, hb2, k2, q2⟩
        have HB3 := Lib.hid (HE.out ▸ hb2)
        have HR3 := Lib.hid (own_rest HR2.out q2 (by decide) (by simp [Value.ownBlock]; omega))
        have HW3 := Lib.hid (HW2.out.trans (k2.mono (by omega)))
        have hz2 := k2.size
        rw [World.size_alloc] at hz2
        clear hb2 k2 q2
        go_wp2_with fail
        go_roundw
        case rel => exact ⟨k + 1, by go_num, by omega, HB3, HR3, HW3, by omega⟩
        case measure => simp [intOf]; omega
      · have tk : (t.kind == 0) = false := by simpa using hkz
        have HE := Lib.hid (show dataOf (l.take (k + 1)) = dataOf (l.take k) by rw [hnx.out, if_neg hkz, List.append_nil])
        have HB3 := Lib.hid (HE.out.symm ▸ HB2.out)
        clear ht hT hTd hkz
        go_wp2_with fail
        go_roundw
        case rel => exact ⟨k + 1, by go_num, by omega, HB3, HR2, HW2, by simp; omega⟩
        case measure => simp [intOf]; omega
    · have hkn : k = l.length := by omega
      subst hkn
      rw [List.take_of_length_le (Nat.le_refl _), ← HPL.out] at hb
      have HS2 := Lib.hid (hb.out.string (by omega))
      go_wp2_with fail
      refine HS2.out.mono ?_
      rintro r w2 ⟨rfl, k2⟩
      have B4 := Lib.hid (hw.out.trans (k2.mono (by omega)))
      clear k2
      go_wp2_with fail
      go_ret
      exact ⟨rfl, B4.out⟩

end Go.Proofs.Ytopgejjencoelaa
