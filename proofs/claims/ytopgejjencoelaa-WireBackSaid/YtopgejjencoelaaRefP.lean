/- The document's Reader in memory: Plain. Own work. -/
import Derived.Test.YtopgejjencoelaaRefA
import Derived.Test.YtopgejjencoelaaNew
import Derived.Test.YtopgejjencoelaaRefAlike
namespace Go.Proofs.Ytopgejjencoelaa
set_option linter.unusedVariables false
set_option linter.unusedSimpArgs false
open Go.RowKit

/-- The bytes of Data. -/
def dataOf : List Tok → List UInt8
  | [] => []
  | t :: l => (if t.kind = 0 then t.text else []) ++ dataOf l
theorem dataOf_add (l m : List Tok) : dataOf (l ++ m) = dataOf l ++ dataOf m := by
  induction l with
  | nil => rfl
  | cons t l ih => simp [dataOf, ih]
theorem dataOf_len (l : List Tok) : (dataOf l).length ≤ tsum l := by
  induction l with
  | nil => exact Nat.zero_le _
  | cons t l ih =>
    rw [show t :: l = [t] ++ l from rfl, tsum_add, tsum_one]
    show ((if t.kind = 0 then t.text else []) ++ dataOf l).length ≤ _
    rw [List.length_append]
    split <;> simp <;> omega
/-- What Plain answers. -/
def plainOf (bin : Bool) (s : List UInt8) : List UInt8 := dataOf (plainL (feedL bin Rd.new s))

theorem rf_built (bin : Bool) : Try.prog.built 87 [(0, .bool bin)] = some (rfCells bin Rf.new none 0 none 0).toArray := by cases bin <;> kernel_rfl
theorem rf_new (w : World) (bin : Bool) : RfIn (w.alloc (.cells (rfCells bin Rf.new none 0 none 0).toArray 87)) w.heap.size bin Rf.new none 0 none 0 :=
  ⟨Cells.box w _ _, Buf.nil _, fun e => (by cases e), fun i hi => (by simp [blk] at hi), by simp [blk], by simp [blk], fun i hi => (by simp [blk] at hi), by decide⟩

set_option maxRecDepth 100000 in
set_option maxHeartbeats 3200000 in
theorem plain_ref (bin : Bool) (s : ByteArray) (w : World) (hs : s.size ≤ 1000000000) :
    Calls Try.prog 17 #[.bool bin, .string s] w fun e w' => e = .returned (.string ⟨(plainOf bin s.data.toList).toArray⟩) ∧ Below w.heap.size w w' := by
  obtain ⟨CS, hCS⟩ : ∃ CS, CS = (rfCells bin Rf.new none 0 none 0).toArray := ⟨_, rfl⟩
  have hb := rf_built bin
  have hnw := rf_new w bin
  rw [← hCS] at hb hnw
  have HB := Lib.hid hb
  have HN := Lib.hid hnw
  have HS := Lib.hid hs
  clear hb hnw hCS hs
  go_enter Try.func17, Try.ntmps17
  go_wp2_with (with_reducible refine wpList_built rfl 87 #[(0, .tmp 9)] rfl CS ?hbuilt ?_)
  case hbuilt => first | exact HB.out | (simp; exact HB.out)
  refine (all_ref w.heap.size bin Rf.new none 0 none 0 s _ HN.out HS.out).mono ?_
  rintro e w1 ⟨v, rfl, hr, C1, k1, A1, c1, h1, s1, n1⟩
  rw [all_is] at hr
  have B1 : Hid (Below w.heap.size w w1) := Lib.hid (((Below.refl w.heap.size w).alloc (Nat.le_refl _) _).trans (s1.1.below (by simp) (fun i hi x => by
    rcases x with x | x | x
    · omega
    · simp [blk] at x
    · simp [blk] at x)))
  obtain ⟨l, hl⟩ : ∃ l, l = plainL (feedL bin Rd.new s.data.toList) := ⟨_, rfl⟩
  have hpl : plainOf bin s.data.toList = dataOf l := by rw [hl]; rfl
  have hs1 : tsum l ≤ 1000000000 := by
    have := feed_sum bin Rd.new s.data.toList
    rw [hl, tsum_plain]
    have h3 := HS.out
    have h4 : s.data.toList.length = s.size := (Lib.size_eq s).symm
    have h5 : Rd.new.text.length = 0 := rfl
    omega
  have hs2 : l.length ≤ 1000000000 := by
    have h1 := plain_len (feedL bin Rd.new s.data.toList)
    have h2 := feed_len bin Rd.new s.data.toList
    have h3 := HS.out
    have h4 : s.data.toList.length = s.size := (Lib.size_eq s).symm
    rw [hl]; omega
  rw [← hl] at hr
  have HPL := Lib.hid hpl
  have HR := Lib.hid hr
  have HT := Lib.hid hs1
  have hlb : (l.length : Int) ≤ 1000000000 := by omega
  obtain ⟨Av, cv, rfl, _⟩ := own_form hr
  clear hr h1 s1 n1 hl hpl hs1 hs2
  go_wp2_with fail
  go_loop [7, 8] (fun o i => ∃ k : Nat, i = .int .i64 k ∧ k ≤ l.length ∧ o = .string ⟨(dataOf (l.take k)).toArray⟩) (fun _ i => l.length - (intOf i).toNat)
  case atStart => exact ⟨0, rfl, by omega, rfl⟩
  case round =>
    obtain ⟨k, rfl, hk, rfl⟩ := hrel
    by_cases hlt : k < l.length
    · obtain ⟨t, ht⟩ : ∃ t, l[k]? = some t := ⟨_, List.getElem?_eq_getElem hlt⟩
      obtain ⟨g1, d1, e1, hg1, p0, p1, p2, p3⟩ := tok_cells HR.out ht
      injection e1 with e1 _ e3
      subst e1 e3
      have hki : (k : Int) < (l.length : Int) := by omega
      have hk0 : (0 : Int) ≤ (k : Int) := by omega
      have hnx := Lib.hid (show dataOf (l.take (k + 1)) = dataOf (l.take k) ++ (if t.kind = 0 then t.text else []) by rw [take_next ht, dataOf_add]; simp [dataOf])
      obtain ⟨D, hD⟩ : ∃ D : ByteArray, D = ⟨(dataOf (l.take k)).toArray⟩ := ⟨_, rfl⟩
      obtain ⟨T, hT⟩ : ∃ T : ByteArray, T = ⟨t.text.toArray⟩ := ⟨_, rfl⟩
      have hz : D.size + T.size ≤ 9223372036854775807 := by
        rw [hD, hT, size_mk, size_mk]
        have h1 := tsum_mem (List.mem_of_getElem? ht)
        have h2 := HT.out
        have h3 := tsum_take l k
        have h4 := dataOf_len (l.take k)
        omega
      rw [← hT] at p3
      rw [← hD]
      have HD := Lib.hid hD
      have HTT := Lib.hid hT
      by_cases hkz : t.kind = 0
      · have tk : (t.kind == 0) = true := by simpa using hkz
        have HE := Lib.hid (show (⟨(dataOf (l.take (k + 1))).toArray⟩ : ByteArray) = D ++ T by rw [hnx.out, if_pos hkz, hD, hT, mk_add])
        clear ht hkz hD hT
        go_wp2_with fail
        go_round
        case rel => exact ⟨k + 1, by go_num, by omega, by rw [HE.out]⟩
        case measure => simp [intOf]; omega
      · have tk : (t.kind == 0) = false := by simpa using hkz
        have HE := Lib.hid (show (⟨(dataOf (l.take (k + 1))).toArray⟩ : ByteArray) = D by rw [hnx.out, if_neg hkz, List.append_nil, hD])
        clear ht hkz hD hT
        go_wp2_with fail
        go_round
        case rel => exact ⟨k + 1, by go_num, by omega, by rw [HE.out]⟩
        case measure => simp [intOf]; omega
    · have hkn : k = l.length := by omega
      subst hkn
      rw [List.take_of_length_le (Nat.le_refl _), ← HPL.out]
      go_wp2_with fail
      go_ret
      exact ⟨rfl, B1.out⟩

end Go.Proofs.Ytopgejjencoelaa
