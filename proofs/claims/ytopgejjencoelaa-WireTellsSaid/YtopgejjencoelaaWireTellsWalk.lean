/- Law WireTells: the walk, one way after another. Own work. -/
import Derived.Test.YtopgejjencoelaaTellsAt
namespace Go.Proofs.Ytopgejjencoelaa
set_option linter.unusedVariables false
set_option linter.unusedSimpArgs false
open Go.RowKit

theorem below_drewN' {B : Nat} {a w : World} (h : Below B a w) (n : Nat) : Below B a (w.drewN n) := ⟨h.os, h.tape, h.output, h.size, h.block⟩

set_option maxRecDepth 100000 in
set_option maxHeartbeats 3200000 in
theorem tells_o0 (bin : Bool) (A : Option Addr) (n c : Nat) (zs : List ByteArray) (cmd : Int) (o : Int) (b : ByteArray) (w : World) (hz : Strs w A n zs) (hsh : shortB 20 600 zs = true) (hb : b.size ≤ 600)
    (hc0 : -9223372036854775808 ≤ (cmd : Int)) (hc1 : (cmd : Int) ≤ 9223372036854775807) (ho0 : -9223372036854775808 ≤ (o : Int)) (ho1 : (o : Int) ≤ 9223372036854775807) (h1 : o < 0) :
    Calls Try.prog 3 #[.bool bin, .slice A n c, .int .i64 (cmd : Int), .int .i64 (o : Int), .string b] w fun e w' => e = .returned (.bool true) ∧ Below w.heap.size w w' := by
  have hq := of_decide_eq_true hsh
  have hsr := src_strs hz
  have hn : n ≤ 20 := by have := hz.1; omega
  have HSUM := Lib.hid hq.2
  have HX := Lib.hid hz.2.2.1
  have HSH := Lib.hid (short_any 20 600 A n c zs w hsr hz.2.2.1 (by omega) (by omega) hz.2.2.2)
  rw [hsh] at HSH
  have HS := Lib.hid hsr
  have hbb : ¬ (600 < (b.size : Int)) := by omega
  have HBZ := Lib.hid hb
  obtain ⟨J, hJ⟩ : ∃ J : ByteArray, J = ⟨(joinL zs).toArray⟩ := ⟨_, rfl⟩
  have hjd : J.data.toList = joinL zs := by rw [hJ]
  have hjs : J.size = sum zs := by rw [hJ, size_mk, joinL_len]
  obtain ⟨D, hD⟩ : ∃ D : ByteArray, D = ⟨(sentL bin (joinL zs)).toArray⟩ := ⟨_, rfl⟩
  obtain ⟨P, hP⟩ : ∃ P : ByteArray, P = ⟨(plainOf bin b.data.toList).toArray⟩ := ⟨_, rfl⟩
  have HDT := Lib.hid (show ∀ (W : World) (g k : Nat), Src W (some ⟨g, 0, none⟩) n (zs.map Value.string) → n ≤ k → Calls Try.prog 14 #[.bool bin, .slice (some ⟨g, 0, none⟩) n k] W fun e w' => e = .returned (.string D) ∧ Below W.heap.size W w' from fun W g k q h => by
    rw [hD]; exact wire_data bin _ n k zs W q h (by have := HSUM.out; omega) (by omega))
  have HRD := Lib.hid (show ∀ W : World, Calls Try.prog 15 #[.bool bin, .string J] W fun e w' => e = .returned (.string D) ∧ Below W.heap.size W w' from fun W => by
    have := rw_data bin J W (by rw [hjs]; have := HSUM.out; omega)
    rwa [hjd, ← hD] at this)
  have HPL := Lib.hid (show ∀ W : World, Calls Try.prog 16 #[.bool bin, .string b] W fun e w' => e = .returned (.string P) ∧ Below W.heap.size W w' from fun W => by rw [hP]; exact wire_plain bin b W (by omega))
  have HRP := Lib.hid (show ∀ W : World, Calls Try.prog 17 #[.bool bin, .string b] W fun e w' => e = .returned (.string P) ∧ Below W.heap.size W w' from fun W => by rw [hP]; exact plain_ref bin b W (by omega))
  have HJ := Lib.hid hJ
  have HJD := Lib.hid hjd
  have HJS := Lib.hid hjs
  clear hz hsh hb hq hsr hJ hjd hjs hD hP
  have HNO : Hid (¬ (251 ≤ (cmd : Int) ∧ (cmd : Int) ≤ 254 ∧ 0 ≤ (o : Int) ∧ (o : Int) ≤ 255)) := Lib.hid (by omega)
  have HNS : Hid (¬ (0 ≤ o ∧ o ≤ 255)) := Lib.hid (by omega)
  go_enter Try.func3, Try.ntmps3
  go_wp2_with fail
  refine HSH.out.mono ?_
  rintro r w1 ⟨rfl, b1⟩
  have B1 := Lib.hid b1
  clear b1
  go_wp2_with fail
  refine (alive_any w1).mono ?_
  rintro r w2 ⟨rfl, b2⟩
  have B2 := Lib.hid (B1.out.trans (b2.mono B1.out.size))
  clear b2
  go_wp2_with fail
  refine (lent_Texts A n c zs w2 (HS.out.below B2.out) (by omega)).mono ?_
  rintro r w3 ⟨g, k, rfl, hl, hg, b3⟩
  have HT : Hid (TellsAt w A n g k zs w3) := Lib.hid ⟨B2.out.trans (b3.mono B2.out.size), hl, (HS.out.below B2.out).below b3⟩
  clear hl hg b3
  go_wp2_with fail
  refine (join_any A n c zs w3 HT.out.s (by omega) (by have := HSUM.out; omega)).mono ?_
  rintro r w4 ⟨rfl, rfl⟩
  rw [← HJ.out]
  go_wp2_with fail
  refine (wire_option_no _ _ w3 hc0 hc1 ho0 ho1 HNO.out).mono ?_
  rintro r w4 ⟨rfl, rfl⟩
  go_wp2_with fail
  refine (wire_sub_arg _ _ n k w3 ho0 ho1 HNS.out).mono ?_
  rintro r w5 ⟨rfl, rfl⟩
  go_wp2_with fail
  refine (HDT.out _ g k HT.out.lent HT.out.cap).mono ?_
  rintro r v1 ⟨rfl, b1⟩
  replace HT := Lib.hid (HT.out.next b1)
  clear b1
  go_wp2_with fail
  refine (HRD.out _).mono ?_
  rintro r v2 ⟨rfl, b2⟩
  replace HT := Lib.hid (HT.out.next b2)
  clear b2
  go_wp2_with fail
  refine (HPL.out _).mono ?_
  rintro r v3 ⟨rfl, b3⟩
  replace HT := Lib.hid (HT.out.next b3)
  clear b3
  go_wp2_with fail
  refine (HRP.out _).mono ?_
  rintro r v4 ⟨rfl, b4⟩
  replace HT := Lib.hid (HT.out.next b4)
  clear b4
  go_wp2_with fail
  refine (stays_Texts g k A n c zs v4 HT.out.l HT.out.s (by omega)).mono ?_
  rintro r v5 ⟨rfl, q, rfl⟩
  go_wp2_with fail
  go_ret
  exact ⟨rfl, below_drewN' HT.out.b q⟩

set_option maxRecDepth 100000 in
set_option maxHeartbeats 3200000 in
theorem tells_o1 (bin : Bool) (A : Option Addr) (n c : Nat) (zs : List ByteArray) (cmd : Int) (o : Int) (b : ByteArray) (w : World) (hz : Strs w A n zs) (hsh : shortB 20 600 zs = true) (hb : b.size ≤ 600)
    (hc0 : -9223372036854775808 ≤ (cmd : Int)) (hc1 : (cmd : Int) ≤ 9223372036854775807) (ho0 : -9223372036854775808 ≤ (o : Int)) (ho1 : (o : Int) ≤ 9223372036854775807) (h1 : 255 < o) :
    Calls Try.prog 3 #[.bool bin, .slice A n c, .int .i64 (cmd : Int), .int .i64 (o : Int), .string b] w fun e w' => e = .returned (.bool true) ∧ Below w.heap.size w w' := by
  have hq := of_decide_eq_true hsh
  have hsr := src_strs hz
  have hn : n ≤ 20 := by have := hz.1; omega
  have HSUM := Lib.hid hq.2
  have HX := Lib.hid hz.2.2.1
  have HSH := Lib.hid (short_any 20 600 A n c zs w hsr hz.2.2.1 (by omega) (by omega) hz.2.2.2)
  rw [hsh] at HSH
  have HS := Lib.hid hsr
  have hbb : ¬ (600 < (b.size : Int)) := by omega
  have HBZ := Lib.hid hb
  obtain ⟨J, hJ⟩ : ∃ J : ByteArray, J = ⟨(joinL zs).toArray⟩ := ⟨_, rfl⟩
  have hjd : J.data.toList = joinL zs := by rw [hJ]
  have hjs : J.size = sum zs := by rw [hJ, size_mk, joinL_len]
  obtain ⟨D, hD⟩ : ∃ D : ByteArray, D = ⟨(sentL bin (joinL zs)).toArray⟩ := ⟨_, rfl⟩
  obtain ⟨P, hP⟩ : ∃ P : ByteArray, P = ⟨(plainOf bin b.data.toList).toArray⟩ := ⟨_, rfl⟩
  have HDT := Lib.hid (show ∀ (W : World) (g k : Nat), Src W (some ⟨g, 0, none⟩) n (zs.map Value.string) → n ≤ k → Calls Try.prog 14 #[.bool bin, .slice (some ⟨g, 0, none⟩) n k] W fun e w' => e = .returned (.string D) ∧ Below W.heap.size W w' from fun W g k q h => by
    rw [hD]; exact wire_data bin _ n k zs W q h (by have := HSUM.out; omega) (by omega))
  have HRD := Lib.hid (show ∀ W : World, Calls Try.prog 15 #[.bool bin, .string J] W fun e w' => e = .returned (.string D) ∧ Below W.heap.size W w' from fun W => by
    have := rw_data bin J W (by rw [hjs]; have := HSUM.out; omega)
    rwa [hjd, ← hD] at this)
  have HPL := Lib.hid (show ∀ W : World, Calls Try.prog 16 #[.bool bin, .string b] W fun e w' => e = .returned (.string P) ∧ Below W.heap.size W w' from fun W => by rw [hP]; exact wire_plain bin b W (by omega))
  have HRP := Lib.hid (show ∀ W : World, Calls Try.prog 17 #[.bool bin, .string b] W fun e w' => e = .returned (.string P) ∧ Below W.heap.size W w' from fun W => by rw [hP]; exact plain_ref bin b W (by omega))
  have HJ := Lib.hid hJ
  have HJD := Lib.hid hjd
  have HJS := Lib.hid hjs
  clear hz hsh hb hq hsr hJ hjd hjs hD hP
  have HNO : Hid (¬ (251 ≤ (cmd : Int) ∧ (cmd : Int) ≤ 254 ∧ 0 ≤ (o : Int) ∧ (o : Int) ≤ 255)) := Lib.hid (by omega)
  have HNS : Hid (¬ (0 ≤ o ∧ o ≤ 255)) := Lib.hid (by omega)
  go_enter Try.func3, Try.ntmps3
  go_wp2_with fail
  refine HSH.out.mono ?_
  rintro r w1 ⟨rfl, b1⟩
  have B1 := Lib.hid b1
  clear b1
  go_wp2_with fail
  refine (alive_any w1).mono ?_
  rintro r w2 ⟨rfl, b2⟩
  have B2 := Lib.hid (B1.out.trans (b2.mono B1.out.size))
  clear b2
  go_wp2_with fail
  refine (lent_Texts A n c zs w2 (HS.out.below B2.out) (by omega)).mono ?_
  rintro r w3 ⟨g, k, rfl, hl, hg, b3⟩
  have HT : Hid (TellsAt w A n g k zs w3) := Lib.hid ⟨B2.out.trans (b3.mono B2.out.size), hl, (HS.out.below B2.out).below b3⟩
  clear hl hg b3
  go_wp2_with fail
  refine (join_any A n c zs w3 HT.out.s (by omega) (by have := HSUM.out; omega)).mono ?_
  rintro r w4 ⟨rfl, rfl⟩
  rw [← HJ.out]
  go_wp2_with fail
  refine (wire_option_no _ _ w3 hc0 hc1 ho0 ho1 HNO.out).mono ?_
  rintro r w4 ⟨rfl, rfl⟩
  go_wp2_with fail
  refine (wire_sub_arg _ _ n k w3 ho0 ho1 HNS.out).mono ?_
  rintro r w5 ⟨rfl, rfl⟩
  go_wp2_with fail
  refine (HDT.out _ g k HT.out.lent HT.out.cap).mono ?_
  rintro r v1 ⟨rfl, b1⟩
  replace HT := Lib.hid (HT.out.next b1)
  clear b1
  go_wp2_with fail
  refine (HRD.out _).mono ?_
  rintro r v2 ⟨rfl, b2⟩
  replace HT := Lib.hid (HT.out.next b2)
  clear b2
  go_wp2_with fail
  refine (HPL.out _).mono ?_
  rintro r v3 ⟨rfl, b3⟩
  replace HT := Lib.hid (HT.out.next b3)
  clear b3
  go_wp2_with fail
  refine (HRP.out _).mono ?_
  rintro r v4 ⟨rfl, b4⟩
  replace HT := Lib.hid (HT.out.next b4)
  clear b4
  go_wp2_with fail
  refine (stays_Texts g k A n c zs v4 HT.out.l HT.out.s (by omega)).mono ?_
  rintro r v5 ⟨rfl, q, rfl⟩
  go_wp2_with fail
  go_ret
  exact ⟨rfl, below_drewN' HT.out.b q⟩

set_option maxRecDepth 100000 in
set_option maxHeartbeats 3200000 in
theorem tells_lo_long (bin : Bool) (A : Option Addr) (n c : Nat) (zs : List ByteArray) (cmd : Int) (o : Nat) (b : ByteArray) (w : World) (hz : Strs w A n zs) (hsh : shortB 20 600 zs = true) (hb : b.size ≤ 600)
    (hc0 : -9223372036854775808 ≤ (cmd : Int)) (hc1 : (cmd : Int) ≤ 9223372036854775807) (ho0 : -9223372036854775808 ≤ (o : Int)) (ho1 : (o : Int) ≤ 9223372036854775807) (h1 : cmd < 251) (ho : o ≤ 255) (hlg : 40 < sum zs) :
    Calls Try.prog 3 #[.bool bin, .slice A n c, .int .i64 (cmd : Int), .int .i64 (o : Int), .string b] w fun e w' => e = .returned (.bool true) ∧ Below w.heap.size w w' := by
  have hq := of_decide_eq_true hsh
  have hsr := src_strs hz
  have hn : n ≤ 20 := by have := hz.1; omega
  have HSUM := Lib.hid hq.2
  have HX := Lib.hid hz.2.2.1
  have HSH := Lib.hid (short_any 20 600 A n c zs w hsr hz.2.2.1 (by omega) (by omega) hz.2.2.2)
  rw [hsh] at HSH
  have HS := Lib.hid hsr
  have hbb : ¬ (600 < (b.size : Int)) := by omega
  have HBZ := Lib.hid hb
  obtain ⟨J, hJ⟩ : ∃ J : ByteArray, J = ⟨(joinL zs).toArray⟩ := ⟨_, rfl⟩
  have hjd : J.data.toList = joinL zs := by rw [hJ]
  have hjs : J.size = sum zs := by rw [hJ, size_mk, joinL_len]
  obtain ⟨D, hD⟩ : ∃ D : ByteArray, D = ⟨(sentL bin (joinL zs)).toArray⟩ := ⟨_, rfl⟩
  obtain ⟨P, hP⟩ : ∃ P : ByteArray, P = ⟨(plainOf bin b.data.toList).toArray⟩ := ⟨_, rfl⟩
  have HDT := Lib.hid (show ∀ (W : World) (g k : Nat), Src W (some ⟨g, 0, none⟩) n (zs.map Value.string) → n ≤ k → Calls Try.prog 14 #[.bool bin, .slice (some ⟨g, 0, none⟩) n k] W fun e w' => e = .returned (.string D) ∧ Below W.heap.size W w' from fun W g k q h => by
    rw [hD]; exact wire_data bin _ n k zs W q h (by have := HSUM.out; omega) (by omega))
  have HRD := Lib.hid (show ∀ W : World, Calls Try.prog 15 #[.bool bin, .string J] W fun e w' => e = .returned (.string D) ∧ Below W.heap.size W w' from fun W => by
    have := rw_data bin J W (by rw [hjs]; have := HSUM.out; omega)
    rwa [hjd, ← hD] at this)
  have HPL := Lib.hid (show ∀ W : World, Calls Try.prog 16 #[.bool bin, .string b] W fun e w' => e = .returned (.string P) ∧ Below W.heap.size W w' from fun W => by rw [hP]; exact wire_plain bin b W (by omega))
  have HRP := Lib.hid (show ∀ W : World, Calls Try.prog 17 #[.bool bin, .string b] W fun e w' => e = .returned (.string P) ∧ Below W.heap.size W w' from fun W => by rw [hP]; exact plain_ref bin b W (by omega))
  have HJ := Lib.hid hJ
  have HJD := Lib.hid hjd
  have HJS := Lib.hid hjs
  clear hz hsh hb hq hsr hJ hjd hjs hD hP
  have HNO : Hid (¬ (251 ≤ (cmd : Int) ∧ (cmd : Int) ≤ 254 ∧ 0 ≤ (o : Int) ∧ (o : Int) ≤ 255)) := Lib.hid (by omega)
  have ob1 : (o : Int) ≤ 255 := by omega
  have ob0 : (0 : Int) ≤ (o : Int) := by omega
  have HLG := Lib.hid hlg
  have t5 : (40 < (J.size : Int)) := by have := HJS.out; omega
  clear hlg
  go_enter Try.func3, Try.ntmps3
  go_wp2_with fail
  refine HSH.out.mono ?_
  rintro r w1 ⟨rfl, b1⟩
  have B1 := Lib.hid b1
  clear b1
  go_wp2_with fail
  refine (alive_any w1).mono ?_
  rintro r w2 ⟨rfl, b2⟩
  have B2 := Lib.hid (B1.out.trans (b2.mono B1.out.size))
  clear b2
  go_wp2_with fail
  refine (lent_Texts A n c zs w2 (HS.out.below B2.out) (by omega)).mono ?_
  rintro r w3 ⟨g, k, rfl, hl, hg, b3⟩
  have HT : Hid (TellsAt w A n g k zs w3) := Lib.hid ⟨B2.out.trans (b3.mono B2.out.size), hl, (HS.out.below B2.out).below b3⟩
  clear hl hg b3
  go_wp2_with fail
  refine (join_any A n c zs w3 HT.out.s (by omega) (by have := HSUM.out; omega)).mono ?_
  rintro r w4 ⟨rfl, rfl⟩
  rw [← HJ.out]
  go_wp2_with fail
  refine (wire_option_no _ _ w3 hc0 hc1 ho0 ho1 HNO.out).mono ?_
  rintro r w4 ⟨rfl, rfl⟩
  go_wp2_with fail
  refine (wire_sub_long o _ n k zs _ ho HT.out.lent HX.out (by omega) HLG.out).mono ?_
  rintro r w5 ⟨rfl, rfl⟩
  go_wp2_with fail
  refine (HDT.out _ g k HT.out.lent HT.out.cap).mono ?_
  rintro r v1 ⟨rfl, b1⟩
  replace HT := Lib.hid (HT.out.next b1)
  clear b1
  go_wp2_with fail
  refine (HRD.out _).mono ?_
  rintro r v2 ⟨rfl, b2⟩
  replace HT := Lib.hid (HT.out.next b2)
  clear b2
  go_wp2_with fail
  refine (HPL.out _).mono ?_
  rintro r v3 ⟨rfl, b3⟩
  replace HT := Lib.hid (HT.out.next b3)
  clear b3
  go_wp2_with fail
  refine (HRP.out _).mono ?_
  rintro r v4 ⟨rfl, b4⟩
  replace HT := Lib.hid (HT.out.next b4)
  clear b4
  go_wp2_with fail
  refine (stays_Texts g k A n c zs v4 HT.out.l HT.out.s (by omega)).mono ?_
  rintro r v5 ⟨rfl, q, rfl⟩
  go_wp2_with fail
  go_ret
  exact ⟨rfl, below_drewN' HT.out.b q⟩

set_option maxRecDepth 100000 in
set_option maxHeartbeats 3200000 in
theorem tells_lo (bin : Bool) (A : Option Addr) (n c : Nat) (zs : List ByteArray) (cmd : Int) (o : Nat) (b : ByteArray) (w : World) (hz : Strs w A n zs) (hsh : shortB 20 600 zs = true) (hb : b.size ≤ 600)
    (hc0 : -9223372036854775808 ≤ (cmd : Int)) (hc1 : (cmd : Int) ≤ 9223372036854775807) (ho0 : -9223372036854775808 ≤ (o : Int)) (ho1 : (o : Int) ≤ 9223372036854775807) (h1 : cmd < 251) (ho : o ≤ 255) (hlg : sum zs ≤ 40) :
    Calls Try.prog 3 #[.bool bin, .slice A n c, .int .i64 (cmd : Int), .int .i64 (o : Int), .string b] w fun e w' => e = .returned (.bool true) ∧ Below w.heap.size w w' := by
  have hq := of_decide_eq_true hsh
  have hsr := src_strs hz
  have hn : n ≤ 20 := by have := hz.1; omega
  have HSUM := Lib.hid hq.2
  have HX := Lib.hid hz.2.2.1
  have HSH := Lib.hid (short_any 20 600 A n c zs w hsr hz.2.2.1 (by omega) (by omega) hz.2.2.2)
  rw [hsh] at HSH
  have HS := Lib.hid hsr
  have hbb : ¬ (600 < (b.size : Int)) := by omega
  have HBZ := Lib.hid hb
  obtain ⟨J, hJ⟩ : ∃ J : ByteArray, J = ⟨(joinL zs).toArray⟩ := ⟨_, rfl⟩
  have hjd : J.data.toList = joinL zs := by rw [hJ]
  have hjs : J.size = sum zs := by rw [hJ, size_mk, joinL_len]
  obtain ⟨D, hD⟩ : ∃ D : ByteArray, D = ⟨(sentL bin (joinL zs)).toArray⟩ := ⟨_, rfl⟩
  obtain ⟨P, hP⟩ : ∃ P : ByteArray, P = ⟨(plainOf bin b.data.toList).toArray⟩ := ⟨_, rfl⟩
  have HDT := Lib.hid (show ∀ (W : World) (g k : Nat), Src W (some ⟨g, 0, none⟩) n (zs.map Value.string) → n ≤ k → Calls Try.prog 14 #[.bool bin, .slice (some ⟨g, 0, none⟩) n k] W fun e w' => e = .returned (.string D) ∧ Below W.heap.size W w' from fun W g k q h => by
    rw [hD]; exact wire_data bin _ n k zs W q h (by have := HSUM.out; omega) (by omega))
  have HRD := Lib.hid (show ∀ W : World, Calls Try.prog 15 #[.bool bin, .string J] W fun e w' => e = .returned (.string D) ∧ Below W.heap.size W w' from fun W => by
    have := rw_data bin J W (by rw [hjs]; have := HSUM.out; omega)
    rwa [hjd, ← hD] at this)
  have HPL := Lib.hid (show ∀ W : World, Calls Try.prog 16 #[.bool bin, .string b] W fun e w' => e = .returned (.string P) ∧ Below W.heap.size W w' from fun W => by rw [hP]; exact wire_plain bin b W (by omega))
  have HRP := Lib.hid (show ∀ W : World, Calls Try.prog 17 #[.bool bin, .string b] W fun e w' => e = .returned (.string P) ∧ Below W.heap.size W w' from fun W => by rw [hP]; exact plain_ref bin b W (by omega))
  have HJ := Lib.hid hJ
  have HJD := Lib.hid hjd
  have HJS := Lib.hid hjs
  clear hz hsh hb hq hsr hJ hjd hjs hD hP
  have HNO : Hid (¬ (251 ≤ (cmd : Int) ∧ (cmd : Int) ≤ 254 ∧ 0 ≤ (o : Int) ∧ (o : Int) ≤ 255)) := Lib.hid (by omega)
  have ob1 : (o : Int) ≤ 255 := by omega
  have ob0 : (0 : Int) ≤ (o : Int) := by omega
  obtain ⟨X, hX⟩ : ∃ X : ByteArray, X = ⟨(subL o (joinL zs)).toArray⟩ := ⟨_, rfl⟩
  have HSB := Lib.hid (show ∀ (W : World) (g k : Nat), Src W (some ⟨g, 0, none⟩) n (zs.map Value.string) → n ≤ k → Calls Try.prog 11 #[.int .i64 (o : Int), .slice (some ⟨g, 0, none⟩) n k] W fun e w' => e = .returned (.tuple #[.string X, .int .i64 0]) ∧ Below W.heap.size W w' from fun W g k q h => by
    rw [hX]; exact wire_sub o _ n k zs W ho q HX.out h (by omega) hlg)
  have HRS := Lib.hid (show ∀ W : World, Calls Try.prog 13 #[.int .i64 (o : Int), .string J] W fun e w' => e = .returned (.string X) ∧ Below W.heap.size W w' from fun W => by
    have := rw_sub o J W ho (by rw [HJS.out]; omega)
    rwa [HJD.out, ← hX] at this)
  have t5 : ¬ (40 < (J.size : Int)) := by have := HJS.out; omega
  clear hX hlg
  go_enter Try.func3, Try.ntmps3
  go_wp2_with fail
  refine HSH.out.mono ?_
  rintro r w1 ⟨rfl, b1⟩
  have B1 := Lib.hid b1
  clear b1
  go_wp2_with fail
  refine (alive_any w1).mono ?_
  rintro r w2 ⟨rfl, b2⟩
  have B2 := Lib.hid (B1.out.trans (b2.mono B1.out.size))
  clear b2
  go_wp2_with fail
  refine (lent_Texts A n c zs w2 (HS.out.below B2.out) (by omega)).mono ?_
  rintro r w3 ⟨g, k, rfl, hl, hg, b3⟩
  have HT : Hid (TellsAt w A n g k zs w3) := Lib.hid ⟨B2.out.trans (b3.mono B2.out.size), hl, (HS.out.below B2.out).below b3⟩
  clear hl hg b3
  go_wp2_with fail
  refine (join_any A n c zs w3 HT.out.s (by omega) (by have := HSUM.out; omega)).mono ?_
  rintro r w4 ⟨rfl, rfl⟩
  rw [← HJ.out]
  go_wp2_with fail
  refine (wire_option_no _ _ w3 hc0 hc1 ho0 ho1 HNO.out).mono ?_
  rintro r w4 ⟨rfl, rfl⟩
  go_wp2_with fail
  refine (HSB.out _ g k HT.out.lent HT.out.cap).mono ?_
  rintro r w5 ⟨rfl, b5⟩
  replace HT := Lib.hid (HT.out.next b5)
  clear b5
  go_wp2_with fail
  refine (HRS.out _).mono ?_
  rintro r w7 ⟨rfl, b7⟩
  replace HT := Lib.hid (HT.out.next b7)
  clear b7
  go_wp2_with fail
  refine (HDT.out _ g k HT.out.lent HT.out.cap).mono ?_
  rintro r v1 ⟨rfl, b1⟩
  replace HT := Lib.hid (HT.out.next b1)
  clear b1
  go_wp2_with fail
  refine (HRD.out _).mono ?_
  rintro r v2 ⟨rfl, b2⟩
  replace HT := Lib.hid (HT.out.next b2)
  clear b2
  go_wp2_with fail
  refine (HPL.out _).mono ?_
  rintro r v3 ⟨rfl, b3⟩
  replace HT := Lib.hid (HT.out.next b3)
  clear b3
  go_wp2_with fail
  refine (HRP.out _).mono ?_
  rintro r v4 ⟨rfl, b4⟩
  replace HT := Lib.hid (HT.out.next b4)
  clear b4
  go_wp2_with fail
  refine (stays_Texts g k A n c zs v4 HT.out.l HT.out.s (by omega)).mono ?_
  rintro r v5 ⟨rfl, q, rfl⟩
  go_wp2_with fail
  go_ret
  exact ⟨rfl, below_drewN' HT.out.b q⟩

set_option maxRecDepth 100000 in
set_option maxHeartbeats 3200000 in
theorem tells_hi_long (bin : Bool) (A : Option Addr) (n c : Nat) (zs : List ByteArray) (cmd : Int) (o : Nat) (b : ByteArray) (w : World) (hz : Strs w A n zs) (hsh : shortB 20 600 zs = true) (hb : b.size ≤ 600)
    (hc0 : -9223372036854775808 ≤ (cmd : Int)) (hc1 : (cmd : Int) ≤ 9223372036854775807) (ho0 : -9223372036854775808 ≤ (o : Int)) (ho1 : (o : Int) ≤ 9223372036854775807) (h1 : 254 < cmd) (ho : o ≤ 255) (hlg : 40 < sum zs) :
    Calls Try.prog 3 #[.bool bin, .slice A n c, .int .i64 (cmd : Int), .int .i64 (o : Int), .string b] w fun e w' => e = .returned (.bool true) ∧ Below w.heap.size w w' := by
  have hq := of_decide_eq_true hsh
  have hsr := src_strs hz
  have hn : n ≤ 20 := by have := hz.1; omega
  have HSUM := Lib.hid hq.2
  have HX := Lib.hid hz.2.2.1
  have HSH := Lib.hid (short_any 20 600 A n c zs w hsr hz.2.2.1 (by omega) (by omega) hz.2.2.2)
  rw [hsh] at HSH
  have HS := Lib.hid hsr
  have hbb : ¬ (600 < (b.size : Int)) := by omega
  have HBZ := Lib.hid hb
  obtain ⟨J, hJ⟩ : ∃ J : ByteArray, J = ⟨(joinL zs).toArray⟩ := ⟨_, rfl⟩
  have hjd : J.data.toList = joinL zs := by rw [hJ]
  have hjs : J.size = sum zs := by rw [hJ, size_mk, joinL_len]
  obtain ⟨D, hD⟩ : ∃ D : ByteArray, D = ⟨(sentL bin (joinL zs)).toArray⟩ := ⟨_, rfl⟩
  obtain ⟨P, hP⟩ : ∃ P : ByteArray, P = ⟨(plainOf bin b.data.toList).toArray⟩ := ⟨_, rfl⟩
  have HDT := Lib.hid (show ∀ (W : World) (g k : Nat), Src W (some ⟨g, 0, none⟩) n (zs.map Value.string) → n ≤ k → Calls Try.prog 14 #[.bool bin, .slice (some ⟨g, 0, none⟩) n k] W fun e w' => e = .returned (.string D) ∧ Below W.heap.size W w' from fun W g k q h => by
    rw [hD]; exact wire_data bin _ n k zs W q h (by have := HSUM.out; omega) (by omega))
  have HRD := Lib.hid (show ∀ W : World, Calls Try.prog 15 #[.bool bin, .string J] W fun e w' => e = .returned (.string D) ∧ Below W.heap.size W w' from fun W => by
    have := rw_data bin J W (by rw [hjs]; have := HSUM.out; omega)
    rwa [hjd, ← hD] at this)
  have HPL := Lib.hid (show ∀ W : World, Calls Try.prog 16 #[.bool bin, .string b] W fun e w' => e = .returned (.string P) ∧ Below W.heap.size W w' from fun W => by rw [hP]; exact wire_plain bin b W (by omega))
  have HRP := Lib.hid (show ∀ W : World, Calls Try.prog 17 #[.bool bin, .string b] W fun e w' => e = .returned (.string P) ∧ Below W.heap.size W w' from fun W => by rw [hP]; exact plain_ref bin b W (by omega))
  have HJ := Lib.hid hJ
  have HJD := Lib.hid hjd
  have HJS := Lib.hid hjs
  clear hz hsh hb hq hsr hJ hjd hjs hD hP
  have HNO : Hid (¬ (251 ≤ (cmd : Int) ∧ (cmd : Int) ≤ 254 ∧ 0 ≤ (o : Int) ∧ (o : Int) ≤ 255)) := Lib.hid (by omega)
  have ob1 : (o : Int) ≤ 255 := by omega
  have ob0 : (0 : Int) ≤ (o : Int) := by omega
  have HLG := Lib.hid hlg
  have t5 : (40 < (J.size : Int)) := by have := HJS.out; omega
  clear hlg
  go_enter Try.func3, Try.ntmps3
  go_wp2_with fail
  refine HSH.out.mono ?_
  rintro r w1 ⟨rfl, b1⟩
  have B1 := Lib.hid b1
  clear b1
  go_wp2_with fail
  refine (alive_any w1).mono ?_
  rintro r w2 ⟨rfl, b2⟩
  have B2 := Lib.hid (B1.out.trans (b2.mono B1.out.size))
  clear b2
  go_wp2_with fail
  refine (lent_Texts A n c zs w2 (HS.out.below B2.out) (by omega)).mono ?_
  rintro r w3 ⟨g, k, rfl, hl, hg, b3⟩
  have HT : Hid (TellsAt w A n g k zs w3) := Lib.hid ⟨B2.out.trans (b3.mono B2.out.size), hl, (HS.out.below B2.out).below b3⟩
  clear hl hg b3
  go_wp2_with fail
  refine (join_any A n c zs w3 HT.out.s (by omega) (by have := HSUM.out; omega)).mono ?_
  rintro r w4 ⟨rfl, rfl⟩
  rw [← HJ.out]
  go_wp2_with fail
  refine (wire_option_no _ _ w3 hc0 hc1 ho0 ho1 HNO.out).mono ?_
  rintro r w4 ⟨rfl, rfl⟩
  go_wp2_with fail
  refine (wire_sub_long o _ n k zs _ ho HT.out.lent HX.out (by omega) HLG.out).mono ?_
  rintro r w5 ⟨rfl, rfl⟩
  go_wp2_with fail
  refine (HDT.out _ g k HT.out.lent HT.out.cap).mono ?_
  rintro r v1 ⟨rfl, b1⟩
  replace HT := Lib.hid (HT.out.next b1)
  clear b1
  go_wp2_with fail
  refine (HRD.out _).mono ?_
  rintro r v2 ⟨rfl, b2⟩
  replace HT := Lib.hid (HT.out.next b2)
  clear b2
  go_wp2_with fail
  refine (HPL.out _).mono ?_
  rintro r v3 ⟨rfl, b3⟩
  replace HT := Lib.hid (HT.out.next b3)
  clear b3
  go_wp2_with fail
  refine (HRP.out _).mono ?_
  rintro r v4 ⟨rfl, b4⟩
  replace HT := Lib.hid (HT.out.next b4)
  clear b4
  go_wp2_with fail
  refine (stays_Texts g k A n c zs v4 HT.out.l HT.out.s (by omega)).mono ?_
  rintro r v5 ⟨rfl, q, rfl⟩
  go_wp2_with fail
  go_ret
  exact ⟨rfl, below_drewN' HT.out.b q⟩

set_option maxRecDepth 100000 in
set_option maxHeartbeats 3200000 in
theorem tells_hi (bin : Bool) (A : Option Addr) (n c : Nat) (zs : List ByteArray) (cmd : Int) (o : Nat) (b : ByteArray) (w : World) (hz : Strs w A n zs) (hsh : shortB 20 600 zs = true) (hb : b.size ≤ 600)
    (hc0 : -9223372036854775808 ≤ (cmd : Int)) (hc1 : (cmd : Int) ≤ 9223372036854775807) (ho0 : -9223372036854775808 ≤ (o : Int)) (ho1 : (o : Int) ≤ 9223372036854775807) (h1 : 254 < cmd) (ho : o ≤ 255) (hlg : sum zs ≤ 40) :
    Calls Try.prog 3 #[.bool bin, .slice A n c, .int .i64 (cmd : Int), .int .i64 (o : Int), .string b] w fun e w' => e = .returned (.bool true) ∧ Below w.heap.size w w' := by
  have hq := of_decide_eq_true hsh
  have hsr := src_strs hz
  have hn : n ≤ 20 := by have := hz.1; omega
  have HSUM := Lib.hid hq.2
  have HX := Lib.hid hz.2.2.1
  have HSH := Lib.hid (short_any 20 600 A n c zs w hsr hz.2.2.1 (by omega) (by omega) hz.2.2.2)
  rw [hsh] at HSH
  have HS := Lib.hid hsr
  have hbb : ¬ (600 < (b.size : Int)) := by omega
  have HBZ := Lib.hid hb
  obtain ⟨J, hJ⟩ : ∃ J : ByteArray, J = ⟨(joinL zs).toArray⟩ := ⟨_, rfl⟩
  have hjd : J.data.toList = joinL zs := by rw [hJ]
  have hjs : J.size = sum zs := by rw [hJ, size_mk, joinL_len]
  obtain ⟨D, hD⟩ : ∃ D : ByteArray, D = ⟨(sentL bin (joinL zs)).toArray⟩ := ⟨_, rfl⟩
  obtain ⟨P, hP⟩ : ∃ P : ByteArray, P = ⟨(plainOf bin b.data.toList).toArray⟩ := ⟨_, rfl⟩
  have HDT := Lib.hid (show ∀ (W : World) (g k : Nat), Src W (some ⟨g, 0, none⟩) n (zs.map Value.string) → n ≤ k → Calls Try.prog 14 #[.bool bin, .slice (some ⟨g, 0, none⟩) n k] W fun e w' => e = .returned (.string D) ∧ Below W.heap.size W w' from fun W g k q h => by
    rw [hD]; exact wire_data bin _ n k zs W q h (by have := HSUM.out; omega) (by omega))
  have HRD := Lib.hid (show ∀ W : World, Calls Try.prog 15 #[.bool bin, .string J] W fun e w' => e = .returned (.string D) ∧ Below W.heap.size W w' from fun W => by
    have := rw_data bin J W (by rw [hjs]; have := HSUM.out; omega)
    rwa [hjd, ← hD] at this)
  have HPL := Lib.hid (show ∀ W : World, Calls Try.prog 16 #[.bool bin, .string b] W fun e w' => e = .returned (.string P) ∧ Below W.heap.size W w' from fun W => by rw [hP]; exact wire_plain bin b W (by omega))
  have HRP := Lib.hid (show ∀ W : World, Calls Try.prog 17 #[.bool bin, .string b] W fun e w' => e = .returned (.string P) ∧ Below W.heap.size W w' from fun W => by rw [hP]; exact plain_ref bin b W (by omega))
  have HJ := Lib.hid hJ
  have HJD := Lib.hid hjd
  have HJS := Lib.hid hjs
  clear hz hsh hb hq hsr hJ hjd hjs hD hP
  have HNO : Hid (¬ (251 ≤ (cmd : Int) ∧ (cmd : Int) ≤ 254 ∧ 0 ≤ (o : Int) ∧ (o : Int) ≤ 255)) := Lib.hid (by omega)
  have ob1 : (o : Int) ≤ 255 := by omega
  have ob0 : (0 : Int) ≤ (o : Int) := by omega
  obtain ⟨X, hX⟩ : ∃ X : ByteArray, X = ⟨(subL o (joinL zs)).toArray⟩ := ⟨_, rfl⟩
  have HSB := Lib.hid (show ∀ (W : World) (g k : Nat), Src W (some ⟨g, 0, none⟩) n (zs.map Value.string) → n ≤ k → Calls Try.prog 11 #[.int .i64 (o : Int), .slice (some ⟨g, 0, none⟩) n k] W fun e w' => e = .returned (.tuple #[.string X, .int .i64 0]) ∧ Below W.heap.size W w' from fun W g k q h => by
    rw [hX]; exact wire_sub o _ n k zs W ho q HX.out h (by omega) hlg)
  have HRS := Lib.hid (show ∀ W : World, Calls Try.prog 13 #[.int .i64 (o : Int), .string J] W fun e w' => e = .returned (.string X) ∧ Below W.heap.size W w' from fun W => by
    have := rw_sub o J W ho (by rw [HJS.out]; omega)
    rwa [HJD.out, ← hX] at this)
  have t5 : ¬ (40 < (J.size : Int)) := by have := HJS.out; omega
  clear hX hlg
  go_enter Try.func3, Try.ntmps3
  go_wp2_with fail
  refine HSH.out.mono ?_
  rintro r w1 ⟨rfl, b1⟩
  have B1 := Lib.hid b1
  clear b1
  go_wp2_with fail
  refine (alive_any w1).mono ?_
  rintro r w2 ⟨rfl, b2⟩
  have B2 := Lib.hid (B1.out.trans (b2.mono B1.out.size))
  clear b2
  go_wp2_with fail
  refine (lent_Texts A n c zs w2 (HS.out.below B2.out) (by omega)).mono ?_
  rintro r w3 ⟨g, k, rfl, hl, hg, b3⟩
  have HT : Hid (TellsAt w A n g k zs w3) := Lib.hid ⟨B2.out.trans (b3.mono B2.out.size), hl, (HS.out.below B2.out).below b3⟩
  clear hl hg b3
  go_wp2_with fail
  refine (join_any A n c zs w3 HT.out.s (by omega) (by have := HSUM.out; omega)).mono ?_
  rintro r w4 ⟨rfl, rfl⟩
  rw [← HJ.out]
  go_wp2_with fail
  refine (wire_option_no _ _ w3 hc0 hc1 ho0 ho1 HNO.out).mono ?_
  rintro r w4 ⟨rfl, rfl⟩
  go_wp2_with fail
  refine (HSB.out _ g k HT.out.lent HT.out.cap).mono ?_
  rintro r w5 ⟨rfl, b5⟩
  replace HT := Lib.hid (HT.out.next b5)
  clear b5
  go_wp2_with fail
  refine (HRS.out _).mono ?_
  rintro r w7 ⟨rfl, b7⟩
  replace HT := Lib.hid (HT.out.next b7)
  clear b7
  go_wp2_with fail
  refine (HDT.out _ g k HT.out.lent HT.out.cap).mono ?_
  rintro r v1 ⟨rfl, b1⟩
  replace HT := Lib.hid (HT.out.next b1)
  clear b1
  go_wp2_with fail
  refine (HRD.out _).mono ?_
  rintro r v2 ⟨rfl, b2⟩
  replace HT := Lib.hid (HT.out.next b2)
  clear b2
  go_wp2_with fail
  refine (HPL.out _).mono ?_
  rintro r v3 ⟨rfl, b3⟩
  replace HT := Lib.hid (HT.out.next b3)
  clear b3
  go_wp2_with fail
  refine (HRP.out _).mono ?_
  rintro r v4 ⟨rfl, b4⟩
  replace HT := Lib.hid (HT.out.next b4)
  clear b4
  go_wp2_with fail
  refine (stays_Texts g k A n c zs v4 HT.out.l HT.out.s (by omega)).mono ?_
  rintro r v5 ⟨rfl, q, rfl⟩
  go_wp2_with fail
  go_ret
  exact ⟨rfl, below_drewN' HT.out.b q⟩

set_option maxRecDepth 100000 in
set_option maxHeartbeats 3200000 in
theorem tells_ok_long (bin : Bool) (A : Option Addr) (n c : Nat) (zs : List ByteArray) (cmd : Nat) (o : Nat) (b : ByteArray) (w : World) (hz : Strs w A n zs) (hsh : shortB 20 600 zs = true) (hb : b.size ≤ 600)
    (hc0 : -9223372036854775808 ≤ (cmd : Int)) (hc1 : (cmd : Int) ≤ 9223372036854775807) (ho0 : -9223372036854775808 ≤ (o : Int)) (ho1 : (o : Int) ≤ 9223372036854775807) (hcm0 : 251 ≤ cmd) (hcm1 : cmd ≤ 254) (ho : o ≤ 255) (hlg : 40 < sum zs) :
    Calls Try.prog 3 #[.bool bin, .slice A n c, .int .i64 (cmd : Int), .int .i64 (o : Int), .string b] w fun e w' => e = .returned (.bool true) ∧ Below w.heap.size w w' := by
  have hq := of_decide_eq_true hsh
  have hsr := src_strs hz
  have hn : n ≤ 20 := by have := hz.1; omega
  have HSUM := Lib.hid hq.2
  have HX := Lib.hid hz.2.2.1
  have HSH := Lib.hid (short_any 20 600 A n c zs w hsr hz.2.2.1 (by omega) (by omega) hz.2.2.2)
  rw [hsh] at HSH
  have HS := Lib.hid hsr
  have hbb : ¬ (600 < (b.size : Int)) := by omega
  have HBZ := Lib.hid hb
  obtain ⟨J, hJ⟩ : ∃ J : ByteArray, J = ⟨(joinL zs).toArray⟩ := ⟨_, rfl⟩
  have hjd : J.data.toList = joinL zs := by rw [hJ]
  have hjs : J.size = sum zs := by rw [hJ, size_mk, joinL_len]
  obtain ⟨D, hD⟩ : ∃ D : ByteArray, D = ⟨(sentL bin (joinL zs)).toArray⟩ := ⟨_, rfl⟩
  obtain ⟨P, hP⟩ : ∃ P : ByteArray, P = ⟨(plainOf bin b.data.toList).toArray⟩ := ⟨_, rfl⟩
  have HDT := Lib.hid (show ∀ (W : World) (g k : Nat), Src W (some ⟨g, 0, none⟩) n (zs.map Value.string) → n ≤ k → Calls Try.prog 14 #[.bool bin, .slice (some ⟨g, 0, none⟩) n k] W fun e w' => e = .returned (.string D) ∧ Below W.heap.size W w' from fun W g k q h => by
    rw [hD]; exact wire_data bin _ n k zs W q h (by have := HSUM.out; omega) (by omega))
  have HRD := Lib.hid (show ∀ W : World, Calls Try.prog 15 #[.bool bin, .string J] W fun e w' => e = .returned (.string D) ∧ Below W.heap.size W w' from fun W => by
    have := rw_data bin J W (by rw [hjs]; have := HSUM.out; omega)
    rwa [hjd, ← hD] at this)
  have HPL := Lib.hid (show ∀ W : World, Calls Try.prog 16 #[.bool bin, .string b] W fun e w' => e = .returned (.string P) ∧ Below W.heap.size W w' from fun W => by rw [hP]; exact wire_plain bin b W (by omega))
  have HRP := Lib.hid (show ∀ W : World, Calls Try.prog 17 #[.bool bin, .string b] W fun e w' => e = .returned (.string P) ∧ Below W.heap.size W w' from fun W => by rw [hP]; exact plain_ref bin b W (by omega))
  have HJ := Lib.hid hJ
  have HJD := Lib.hid hjd
  have HJS := Lib.hid hjs
  clear hz hsh hb hq hsr hJ hjd hjs hD hP
  have ob1 : (o : Int) ≤ 255 := by omega
  have ob0 : (0 : Int) ≤ (o : Int) := by omega
  obtain ⟨Y, hY⟩ : ∃ Y : ByteArray, Y = ⟨(optL cmd o).toArray⟩ := ⟨_, rfl⟩
  have HOP := Lib.hid (show ∀ W : World, Calls Try.prog 10 #[.int .i64 (cmd : Int), .int .i64 (o : Int)] W fun e w' => e = .returned (.tuple #[.string Y, .int .i64 0]) ∧ Below W.heap.size W w' from fun W => by rw [hY]; exact wire_option cmd o W hcm0 hcm1 ho)
  have HRO := Lib.hid (show ∀ W : World, Calls Try.prog 12 #[.int .i64 (cmd : Int), .int .i64 (o : Int)] W fun e w' => e = .returned (.string Y) ∧ Below W.heap.size W w' from fun W => by rw [hY]; exact rw_option cmd o W (by omega) ho)
  have d1 : (251 : Int) ≤ (cmd : Int) := by omega
  have d2 : (cmd : Int) ≤ 254 := by omega
  clear hY
  have HLG := Lib.hid hlg
  have t5 : (40 < (J.size : Int)) := by have := HJS.out; omega
  clear hlg
  go_enter Try.func3, Try.ntmps3
  go_wp2_with fail
  refine HSH.out.mono ?_
  rintro r w1 ⟨rfl, b1⟩
  have B1 := Lib.hid b1
  clear b1
  go_wp2_with fail
  refine (alive_any w1).mono ?_
  rintro r w2 ⟨rfl, b2⟩
  have B2 := Lib.hid (B1.out.trans (b2.mono B1.out.size))
  clear b2
  go_wp2_with fail
  refine (lent_Texts A n c zs w2 (HS.out.below B2.out) (by omega)).mono ?_
  rintro r w3 ⟨g, k, rfl, hl, hg, b3⟩
  have HT : Hid (TellsAt w A n g k zs w3) := Lib.hid ⟨B2.out.trans (b3.mono B2.out.size), hl, (HS.out.below B2.out).below b3⟩
  clear hl hg b3
  go_wp2_with fail
  refine (join_any A n c zs w3 HT.out.s (by omega) (by have := HSUM.out; omega)).mono ?_
  rintro r w4 ⟨rfl, rfl⟩
  rw [← HJ.out]
  go_wp2_with fail
  refine (HOP.out w3).mono ?_
  rintro r w4 ⟨rfl, b4⟩
  replace HT := Lib.hid (HT.out.next b4)
  clear b4
  go_wp2_with fail
  refine (wire_sub_long o _ n k zs _ ho HT.out.lent HX.out (by omega) HLG.out).mono ?_
  rintro r w5 ⟨rfl, rfl⟩
  go_wp2_with fail
  refine (HRO.out _).mono ?_
  rintro r w6 ⟨rfl, b6⟩
  replace HT := Lib.hid (HT.out.next b6)
  clear b6
  go_wp2_with fail
  refine (HDT.out _ g k HT.out.lent HT.out.cap).mono ?_
  rintro r v1 ⟨rfl, b1⟩
  replace HT := Lib.hid (HT.out.next b1)
  clear b1
  go_wp2_with fail
  refine (HRD.out _).mono ?_
  rintro r v2 ⟨rfl, b2⟩
  replace HT := Lib.hid (HT.out.next b2)
  clear b2
  go_wp2_with fail
  refine (HPL.out _).mono ?_
  rintro r v3 ⟨rfl, b3⟩
  replace HT := Lib.hid (HT.out.next b3)
  clear b3
  go_wp2_with fail
  refine (HRP.out _).mono ?_
  rintro r v4 ⟨rfl, b4⟩
  replace HT := Lib.hid (HT.out.next b4)
  clear b4
  go_wp2_with fail
  refine (stays_Texts g k A n c zs v4 HT.out.l HT.out.s (by omega)).mono ?_
  rintro r v5 ⟨rfl, q, rfl⟩
  go_wp2_with fail
  go_ret
  exact ⟨rfl, below_drewN' HT.out.b q⟩

set_option maxRecDepth 100000 in
set_option maxHeartbeats 3200000 in
theorem tells_ok (bin : Bool) (A : Option Addr) (n c : Nat) (zs : List ByteArray) (cmd : Nat) (o : Nat) (b : ByteArray) (w : World) (hz : Strs w A n zs) (hsh : shortB 20 600 zs = true) (hb : b.size ≤ 600)
    (hc0 : -9223372036854775808 ≤ (cmd : Int)) (hc1 : (cmd : Int) ≤ 9223372036854775807) (ho0 : -9223372036854775808 ≤ (o : Int)) (ho1 : (o : Int) ≤ 9223372036854775807) (hcm0 : 251 ≤ cmd) (hcm1 : cmd ≤ 254) (ho : o ≤ 255) (hlg : sum zs ≤ 40) :
    Calls Try.prog 3 #[.bool bin, .slice A n c, .int .i64 (cmd : Int), .int .i64 (o : Int), .string b] w fun e w' => e = .returned (.bool true) ∧ Below w.heap.size w w' := by
  have hq := of_decide_eq_true hsh
  have hsr := src_strs hz
  have hn : n ≤ 20 := by have := hz.1; omega
  have HSUM := Lib.hid hq.2
  have HX := Lib.hid hz.2.2.1
  have HSH := Lib.hid (short_any 20 600 A n c zs w hsr hz.2.2.1 (by omega) (by omega) hz.2.2.2)
  rw [hsh] at HSH
  have HS := Lib.hid hsr
  have hbb : ¬ (600 < (b.size : Int)) := by omega
  have HBZ := Lib.hid hb
  obtain ⟨J, hJ⟩ : ∃ J : ByteArray, J = ⟨(joinL zs).toArray⟩ := ⟨_, rfl⟩
  have hjd : J.data.toList = joinL zs := by rw [hJ]
  have hjs : J.size = sum zs := by rw [hJ, size_mk, joinL_len]
  obtain ⟨D, hD⟩ : ∃ D : ByteArray, D = ⟨(sentL bin (joinL zs)).toArray⟩ := ⟨_, rfl⟩
  obtain ⟨P, hP⟩ : ∃ P : ByteArray, P = ⟨(plainOf bin b.data.toList).toArray⟩ := ⟨_, rfl⟩
  have HDT := Lib.hid (show ∀ (W : World) (g k : Nat), Src W (some ⟨g, 0, none⟩) n (zs.map Value.string) → n ≤ k → Calls Try.prog 14 #[.bool bin, .slice (some ⟨g, 0, none⟩) n k] W fun e w' => e = .returned (.string D) ∧ Below W.heap.size W w' from fun W g k q h => by
    rw [hD]; exact wire_data bin _ n k zs W q h (by have := HSUM.out; omega) (by omega))
  have HRD := Lib.hid (show ∀ W : World, Calls Try.prog 15 #[.bool bin, .string J] W fun e w' => e = .returned (.string D) ∧ Below W.heap.size W w' from fun W => by
    have := rw_data bin J W (by rw [hjs]; have := HSUM.out; omega)
    rwa [hjd, ← hD] at this)
  have HPL := Lib.hid (show ∀ W : World, Calls Try.prog 16 #[.bool bin, .string b] W fun e w' => e = .returned (.string P) ∧ Below W.heap.size W w' from fun W => by rw [hP]; exact wire_plain bin b W (by omega))
  have HRP := Lib.hid (show ∀ W : World, Calls Try.prog 17 #[.bool bin, .string b] W fun e w' => e = .returned (.string P) ∧ Below W.heap.size W w' from fun W => by rw [hP]; exact plain_ref bin b W (by omega))
  have HJ := Lib.hid hJ
  have HJD := Lib.hid hjd
  have HJS := Lib.hid hjs
  clear hz hsh hb hq hsr hJ hjd hjs hD hP
  have ob1 : (o : Int) ≤ 255 := by omega
  have ob0 : (0 : Int) ≤ (o : Int) := by omega
  obtain ⟨Y, hY⟩ : ∃ Y : ByteArray, Y = ⟨(optL cmd o).toArray⟩ := ⟨_, rfl⟩
  have HOP := Lib.hid (show ∀ W : World, Calls Try.prog 10 #[.int .i64 (cmd : Int), .int .i64 (o : Int)] W fun e w' => e = .returned (.tuple #[.string Y, .int .i64 0]) ∧ Below W.heap.size W w' from fun W => by rw [hY]; exact wire_option cmd o W hcm0 hcm1 ho)
  have HRO := Lib.hid (show ∀ W : World, Calls Try.prog 12 #[.int .i64 (cmd : Int), .int .i64 (o : Int)] W fun e w' => e = .returned (.string Y) ∧ Below W.heap.size W w' from fun W => by rw [hY]; exact rw_option cmd o W (by omega) ho)
  have d1 : (251 : Int) ≤ (cmd : Int) := by omega
  have d2 : (cmd : Int) ≤ 254 := by omega
  clear hY
  obtain ⟨X, hX⟩ : ∃ X : ByteArray, X = ⟨(subL o (joinL zs)).toArray⟩ := ⟨_, rfl⟩
  have HSB := Lib.hid (show ∀ (W : World) (g k : Nat), Src W (some ⟨g, 0, none⟩) n (zs.map Value.string) → n ≤ k → Calls Try.prog 11 #[.int .i64 (o : Int), .slice (some ⟨g, 0, none⟩) n k] W fun e w' => e = .returned (.tuple #[.string X, .int .i64 0]) ∧ Below W.heap.size W w' from fun W g k q h => by
    rw [hX]; exact wire_sub o _ n k zs W ho q HX.out h (by omega) hlg)
  have HRS := Lib.hid (show ∀ W : World, Calls Try.prog 13 #[.int .i64 (o : Int), .string J] W fun e w' => e = .returned (.string X) ∧ Below W.heap.size W w' from fun W => by
    have := rw_sub o J W ho (by rw [HJS.out]; omega)
    rwa [HJD.out, ← hX] at this)
  have t5 : ¬ (40 < (J.size : Int)) := by have := HJS.out; omega
  clear hX hlg
  go_enter Try.func3, Try.ntmps3
  go_wp2_with fail
  refine HSH.out.mono ?_
  rintro r w1 ⟨rfl, b1⟩
  have B1 := Lib.hid b1
  clear b1
  go_wp2_with fail
  refine (alive_any w1).mono ?_
  rintro r w2 ⟨rfl, b2⟩
  have B2 := Lib.hid (B1.out.trans (b2.mono B1.out.size))
  clear b2
  go_wp2_with fail
  refine (lent_Texts A n c zs w2 (HS.out.below B2.out) (by omega)).mono ?_
  rintro r w3 ⟨g, k, rfl, hl, hg, b3⟩
  have HT : Hid (TellsAt w A n g k zs w3) := Lib.hid ⟨B2.out.trans (b3.mono B2.out.size), hl, (HS.out.below B2.out).below b3⟩
  clear hl hg b3
  go_wp2_with fail
  refine (join_any A n c zs w3 HT.out.s (by omega) (by have := HSUM.out; omega)).mono ?_
  rintro r w4 ⟨rfl, rfl⟩
  rw [← HJ.out]
  go_wp2_with fail
  refine (HOP.out w3).mono ?_
  rintro r w4 ⟨rfl, b4⟩
  replace HT := Lib.hid (HT.out.next b4)
  clear b4
  go_wp2_with fail
  refine (HSB.out _ g k HT.out.lent HT.out.cap).mono ?_
  rintro r w5 ⟨rfl, b5⟩
  replace HT := Lib.hid (HT.out.next b5)
  clear b5
  go_wp2_with fail
  refine (HRO.out _).mono ?_
  rintro r w6 ⟨rfl, b6⟩
  replace HT := Lib.hid (HT.out.next b6)
  clear b6
  go_wp2_with fail
  refine (HRS.out _).mono ?_
  rintro r w7 ⟨rfl, b7⟩
  replace HT := Lib.hid (HT.out.next b7)
  clear b7
  go_wp2_with fail
  refine (HDT.out _ g k HT.out.lent HT.out.cap).mono ?_
  rintro r v1 ⟨rfl, b1⟩
  replace HT := Lib.hid (HT.out.next b1)
  clear b1
  go_wp2_with fail
  refine (HRD.out _).mono ?_
  rintro r v2 ⟨rfl, b2⟩
  replace HT := Lib.hid (HT.out.next b2)
  clear b2
  go_wp2_with fail
  refine (HPL.out _).mono ?_
  rintro r v3 ⟨rfl, b3⟩
  replace HT := Lib.hid (HT.out.next b3)
  clear b3
  go_wp2_with fail
  refine (HRP.out _).mono ?_
  rintro r v4 ⟨rfl, b4⟩
  replace HT := Lib.hid (HT.out.next b4)
  clear b4
  go_wp2_with fail
  refine (stays_Texts g k A n c zs v4 HT.out.l HT.out.s (by omega)).mono ?_
  rintro r v5 ⟨rfl, q, rfl⟩
  go_wp2_with fail
  go_ret
  exact ⟨rfl, below_drewN' HT.out.b q⟩

set_option maxRecDepth 100000 in
set_option maxHeartbeats 1600000 in
theorem walk_WireTells (bin : Bool) (A : Option Addr) (n c : Nat) (zs : List ByteArray) (cmd : Int) (wc : (Lit.int .i64 cmd).wf = true) (o : Int) (wo : (Lit.int .i64 o).wf = true) (b : ByteArray) (wb : b.size ≤ maxLen) (w : World) (hz : Strs w A n zs) :
    Calls Try.prog 3 #[.bool bin, .slice A n c, .int .i64 cmd, .int .i64 o, .string b] w fun e w' => e = .returned (.bool true) ∧ Below w.heap.size w w' := by
  obtain ⟨hc0, hc1⟩ := wf_bounds wc
  obtain ⟨ho0, ho1⟩ := wf_bounds wo
  have HSH := Lib.hid (short_any 20 600 A n c zs w (src_strs hz) hz.2.2.1 (by omega) (by omega) hz.2.2.2)
  by_cases hsh : shortB 20 600 zs = true
  · by_cases hb : b.size ≤ 600
    · by_cases o0 : 0 ≤ o
      · by_cases o1 : o ≤ 255
        · obtain ⟨m, rfl⟩ : ∃ m : Nat, o = (m : Int) := ⟨o.toNat, by omega⟩
          have hm : m ≤ 255 := by omega
          by_cases hl : sum zs ≤ 40
          · by_cases c0 : cmd < 251
            · exact tells_lo bin A n c zs cmd m b w hz hsh hb hc0 hc1 ho0 ho1 c0 hm hl
            · by_cases c1 : 254 < cmd
              · exact tells_hi bin A n c zs cmd m b w hz hsh hb hc0 hc1 ho0 ho1 c1 hm hl
              · obtain ⟨q, rfl⟩ : ∃ q : Nat, cmd = (q : Int) := ⟨cmd.toNat, by omega⟩
                exact tells_ok bin A n c zs q m b w hz hsh hb hc0 hc1 ho0 ho1 (by omega) (by omega) hm hl
          · by_cases c0 : cmd < 251
            · exact tells_lo_long bin A n c zs cmd m b w hz hsh hb hc0 hc1 ho0 ho1 c0 hm (by omega)
            · by_cases c1 : 254 < cmd
              · exact tells_hi_long bin A n c zs cmd m b w hz hsh hb hc0 hc1 ho0 ho1 c1 hm (by omega)
              · obtain ⟨q, rfl⟩ : ∃ q : Nat, cmd = (q : Int) := ⟨cmd.toNat, by omega⟩
                exact tells_ok_long bin A n c zs q m b w hz hsh hb hc0 hc1 ho0 ho1 (by omega) (by omega) hm (by omega)
        · exact tells_o1 bin A n c zs cmd o b w hz hsh hb hc0 hc1 ho0 ho1 (by omega)
      · exact tells_o0 bin A n c zs cmd o b w hz hsh hb hc0 hc1 ho0 ho1 (by omega)
    · have hbb : (600 : Int) < (b.size : Int) := by omega
      unfold maxLen at wb
      rw [hsh] at HSH
      clear hz hsh hb hc0 hc1 ho0 ho1
      go_enter Try.func3, Try.ntmps3
      go_wp2_with fail
      refine HSH.out.mono ?_
      rintro r w1 ⟨rfl, b1⟩
      have B1 := Lib.hid b1
      clear b1
      go_wp2_with fail
      refine (alive_any w1).mono ?_
      rintro r w2 ⟨rfl, b2⟩
      have B2 := Lib.hid (B1.out.trans (b2.mono B1.out.size))
      clear b2
      go_wp2_with fail
      go_ret
      exact ⟨rfl, B2.out⟩
  · rw [show shortB 20 600 zs = false by simpa using hsh] at HSH
    unfold maxLen at wb
    clear hz hsh hc0 hc1 ho0 ho1
    go_enter Try.func3, Try.ntmps3
    go_wp2_with fail
    refine HSH.out.mono ?_
    rintro r w1 ⟨rfl, b1⟩
    have B1 := Lib.hid b1
    clear b1
    go_wp2_with fail
    refine (alive_any w1).mono ?_
    rintro r w2 ⟨rfl, b2⟩
    have B2 := Lib.hid (B1.out.trans (b2.mono B1.out.size))
    clear b2
    go_wp2_with fail
    go_ret
    exact ⟨rfl, B2.out⟩

end Go.Proofs.Ytopgejjencoelaa
