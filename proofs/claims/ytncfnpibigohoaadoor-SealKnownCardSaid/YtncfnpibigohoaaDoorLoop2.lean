/- Loops of the document's Digest. Own work (by sealloops.gen.py). -/
import Derived.Test.YtncfnpibigohoaaDoorLoop4
import Derived.Test.YtncfnpibigohoaaDoorLoop5
import Derived.Test.YtncfnpibigohoaaDoorLoop6
namespace Go.Proofs.YtncfnpibigohoaaDoor
set_option linter.unusedVariables false
open Go.RowKit

set_option maxRecDepth 100000 in
set_option maxHeartbeats 6400000 in
theorem loop2 (Q0 : Exit → Act → World → Prop) (Q : ByteArray) (pl : List UInt8) (Bh Bk Bw : Nat) (f0 : Nat → Wd) (wr : World) (c1 c2 c5 c6 c18 c19 c20 c21 c22 c23 c24 c25 c26 c27 c28 c29 c30 c31 c32 c33 c34 c35 c36 c37 c38 c39 c40 c41 c42 c43 c44 c45 c46 c47 c241 c242 c243 c244 c245 c246 c247 c248 c249 c250 c251 c252 c253 c254 c255 c256 c257 c258 c259 c260 c261 c262 c263 c264 c265 c266 c267 c268 : Value) (u9 u10 u11 u12 u13 u14 u15 u16 u17 u48 u49 u50 u51 u52 u53 u54 u55 u56 u57 u58 u59 u60 u61 u62 u63 u64 u65 u66 u67 u68 u69 u70 u71 u72 u73 u74 u75 u76 u77 u78 u79 u80 u81 u82 u83 u84 u85 u86 u87 u88 u89 u90 u91 u92 u93 u94 u95 u96 u97 u98 u99 u100 u101 u102 u103 u104 u105 u106 u107 u108 u109 u110 u111 u112 u113 u114 u115 u116 u117 u118 u119 u120 u121 u122 u123 u124 u125 u126 u127 u128 u129 u130 u131 u132 u133 u134 u135 u136 u137 u138 u139 u140 u141 u142 u143 u144 u145 u146 u147 u148 u149 u150 u151 u152 u153 u154 u155 u156 u157 u158 u159 u160 u161 u162 u163 u164 u165 u166 u167 u168 u169 u170 u171 u172 u173 u174 u175 u176 u177 u178 u179 u180 u181 u182 u183 u184 u185 u186 u187 u188 u189 u190 u191 u192 u193 u194 u195 u196 u197 u198 u199 u200 u201 u202 u203 u204 u205 u206 u207 u208 u209 u210 u211 u212 u213 u214 u215 u216 u217 u218 u219 u220 u221 u222 u223 u224 u225 u226 u227 u228 u229 u230 u231 u232 u233 u234 u235 u236 u237 u238 u239 u240 : Value)
    (HPP : Hid (Q.data.toList = pl))
    (hP64 : Q.size % 64 = 0)
    (hQz : Q.size ≤ 100200)
    (HTH3 : Hid (Tab wr 49 Bh 8 st0.at))
    (HTK3 : Hid (Tab wr 48 Bk 64 kAt))
    (HTW : Hid (Tab wr 53 Bw 64 f0))
    (hlt : Bh < Bk)
    (hBkw : Bk < Bw)
    (hexit : ∀ (z8 z9 z10 z11 z12 z13 z14 z15 z16 z17 z48 z49 z50 z51 z52 z53 z54 z55 z56 z57 z58 z59 z60 z61 z62 z63 z64 z65 z66 z67 z68 z69 z70 z71 z72 z73 z74 z75 z76 z77 z78 z79 z80 z81 z82 z83 z84 z85 z86 z87 z88 z89 z90 z91 z92 z93 z94 z95 z96 z97 z98 z99 z100 z101 z102 z103 z104 z105 z106 z107 z108 z109 z110 z111 z112 z113 z114 z115 z116 z117 z118 z119 z120 z121 z122 z123 z124 z125 z126 z127 z128 z129 z130 z131 z132 z133 z134 z135 z136 z137 z138 z139 z140 z141 z142 z143 z144 z145 z146 z147 z148 z149 z150 z151 z152 z153 z154 z155 z156 z157 z158 z159 z160 z161 z162 z163 z164 z165 z166 z167 z168 z169 z170 z171 z172 z173 z174 z175 z176 z177 z178 z179 z180 z181 z182 z183 z184 z185 z186 z187 z188 z189 z190 z191 z192 z193 z194 z195 z196 z197 z198 z199 z200 z201 z202 z203 z204 z205 z206 z207 z208 z209 z210 z211 z212 z213 z214 z215 z216 z217 z218 z219 z220 z221 z222 z223 z224 z225 z226 z227 z228 z229 z230 z231 z232 z233 z234 z235 z236 z237 z238 z239 z240 : Value) (w' : World), Hid (Tab w' 49 Bh 8 (run pl (Q.size / 64)).at) → Hid (Keep (fun k => k = Bh ∨ k = Bw) wr w') → Q0 (.exit 2) ⟨List.toArray (Value.string Q :: c1 :: c2 :: Value.pointer (some ⟨Bh, 0, none⟩) :: Value.slice (some ⟨Bk, 0, none⟩) 64 64 :: c5 :: c6 :: Value.pointer (some ⟨Bw, 0, none⟩) :: z8 :: z9 :: z10 :: z11 :: z12 :: z13 :: z14 :: z15 :: z16 :: z17 :: c18 :: c19 :: c20 :: c21 :: c22 :: c23 :: c24 :: c25 :: c26 :: c27 :: c28 :: c29 :: c30 :: c31 :: c32 :: c33 :: c34 :: c35 :: c36 :: c37 :: c38 :: c39 :: c40 :: c41 :: c42 :: c43 :: c44 :: c45 :: c46 :: c47 :: z48 :: z49 :: z50 :: z51 :: z52 :: z53 :: z54 :: z55 :: z56 :: z57 :: z58 :: z59 :: z60 :: z61 :: z62 :: z63 :: z64 :: z65 :: z66 :: z67 :: z68 :: z69 :: z70 :: z71 :: z72 :: z73 :: z74 :: z75 :: z76 :: z77 :: z78 :: z79 :: z80 :: z81 :: z82 :: z83 :: z84 :: z85 :: z86 :: z87 :: z88 :: z89 :: z90 :: z91 :: z92 :: z93 :: z94 :: z95 :: z96 :: z97 :: z98 :: z99 :: z100 :: z101 :: z102 :: z103 :: z104 :: z105 :: z106 :: z107 :: z108 :: z109 :: z110 :: z111 :: z112 :: z113 :: z114 :: z115 :: z116 :: z117 :: z118 :: z119 :: z120 :: z121 :: z122 :: z123 :: z124 :: z125 :: z126 :: z127 :: z128 :: z129 :: z130 :: z131 :: z132 :: z133 :: z134 :: z135 :: z136 :: z137 :: z138 :: z139 :: z140 :: z141 :: z142 :: z143 :: z144 :: z145 :: z146 :: z147 :: z148 :: z149 :: z150 :: z151 :: z152 :: z153 :: z154 :: z155 :: z156 :: z157 :: z158 :: z159 :: z160 :: z161 :: z162 :: z163 :: z164 :: z165 :: z166 :: z167 :: z168 :: z169 :: z170 :: z171 :: z172 :: z173 :: z174 :: z175 :: z176 :: z177 :: z178 :: z179 :: z180 :: z181 :: z182 :: z183 :: z184 :: z185 :: z186 :: z187 :: z188 :: z189 :: z190 :: z191 :: z192 :: z193 :: z194 :: z195 :: z196 :: z197 :: z198 :: z199 :: z200 :: z201 :: z202 :: z203 :: z204 :: z205 :: z206 :: z207 :: z208 :: z209 :: z210 :: z211 :: z212 :: z213 :: z214 :: z215 :: z216 :: z217 :: z218 :: z219 :: z220 :: z221 :: z222 :: z223 :: z224 :: z225 :: z226 :: z227 :: z228 :: z229 :: z230 :: z231 :: z232 :: z233 :: z234 :: z235 :: z236 :: z237 :: z238 :: z239 :: z240 :: c241 :: c242 :: c243 :: c244 :: c245 :: c246 :: c247 :: c248 :: c249 :: c250 :: c251 :: c252 :: c253 :: c254 :: c255 :: c256 :: c257 :: c258 :: c259 :: c260 :: c261 :: c262 :: c263 :: c264 :: c265 :: c266 :: c267 :: c268 :: ([] : List Value)), []⟩ w') :
    Code.wp Tryd.prog (Code.loop (loopN 1)) Q0 ⟨List.toArray (Value.string Q :: c1 :: c2 :: Value.pointer (some ⟨Bh, 0, none⟩) :: Value.slice (some ⟨Bk, 0, none⟩) 64 64 :: c5 :: c6 :: Value.pointer (some ⟨Bw, 0, none⟩) :: Value.int .i64 0 :: u9 :: u10 :: u11 :: u12 :: u13 :: u14 :: u15 :: u16 :: u17 :: c18 :: c19 :: c20 :: c21 :: c22 :: c23 :: c24 :: c25 :: c26 :: c27 :: c28 :: c29 :: c30 :: c31 :: c32 :: c33 :: c34 :: c35 :: c36 :: c37 :: c38 :: c39 :: c40 :: c41 :: c42 :: c43 :: c44 :: c45 :: c46 :: c47 :: u48 :: u49 :: u50 :: u51 :: u52 :: u53 :: u54 :: u55 :: u56 :: u57 :: u58 :: u59 :: u60 :: u61 :: u62 :: u63 :: u64 :: u65 :: u66 :: u67 :: u68 :: u69 :: u70 :: u71 :: u72 :: u73 :: u74 :: u75 :: u76 :: u77 :: u78 :: u79 :: u80 :: u81 :: u82 :: u83 :: u84 :: u85 :: u86 :: u87 :: u88 :: u89 :: u90 :: u91 :: u92 :: u93 :: u94 :: u95 :: u96 :: u97 :: u98 :: u99 :: u100 :: u101 :: u102 :: u103 :: u104 :: u105 :: u106 :: u107 :: u108 :: u109 :: u110 :: u111 :: u112 :: u113 :: u114 :: u115 :: u116 :: u117 :: u118 :: u119 :: u120 :: u121 :: u122 :: u123 :: u124 :: u125 :: u126 :: u127 :: u128 :: u129 :: u130 :: u131 :: u132 :: u133 :: u134 :: u135 :: u136 :: u137 :: u138 :: u139 :: u140 :: u141 :: u142 :: u143 :: u144 :: u145 :: u146 :: u147 :: u148 :: u149 :: u150 :: u151 :: u152 :: u153 :: u154 :: u155 :: u156 :: u157 :: u158 :: u159 :: u160 :: u161 :: u162 :: u163 :: u164 :: u165 :: u166 :: u167 :: u168 :: u169 :: u170 :: u171 :: u172 :: u173 :: u174 :: u175 :: u176 :: u177 :: u178 :: u179 :: u180 :: u181 :: u182 :: u183 :: u184 :: u185 :: u186 :: u187 :: u188 :: u189 :: u190 :: u191 :: u192 :: u193 :: u194 :: u195 :: u196 :: u197 :: u198 :: u199 :: u200 :: u201 :: u202 :: u203 :: u204 :: u205 :: u206 :: u207 :: u208 :: u209 :: u210 :: u211 :: u212 :: u213 :: u214 :: u215 :: u216 :: u217 :: u218 :: u219 :: u220 :: u221 :: u222 :: u223 :: u224 :: u225 :: u226 :: u227 :: u228 :: u229 :: u230 :: u231 :: u232 :: u233 :: u234 :: u235 :: u236 :: u237 :: u238 :: u239 :: u240 :: c241 :: c242 :: c243 :: c244 :: c245 :: c246 :: c247 :: c248 :: c249 :: c250 :: c251 :: c252 :: c253 :: c254 :: c255 :: c256 :: c257 :: c258 :: c259 :: c260 :: c261 :: c262 :: c263 :: c264 :: c265 :: c266 :: c267 :: c268 :: ([] : List Value)), []⟩ wr := by
  unfold loopN
  conv => arg 2; arg 1; whnf
  obtain ⟨wz, rfl⟩ : ∃ wz : World, wz = wr := ⟨_, rfl⟩
  go_loopw [8] (fun i wr => ∃ (a : Nat) (f : Nat → Wd), a % 64 = 0 ∧ a ≤ Q.size ∧ i = .int .i64 a ∧ Hid (Tab wr 49 Bh 8 (run pl (a / 64)).at) ∧ Hid (Tab wr 53 Bw 64 f) ∧ Hid (Keep (fun k => k = Bh ∨ k = Bw) wz wr)) (fun i _ => Q.size - (intOf i).toNat)
  case atStart => exact ⟨0, _, rfl, by omega, rfl, HTH3, HTW, Keep.refl _ _⟩
  case round =>
    obtain ⟨a, f, ha, haq, rfl, HH, HW, HK⟩ := hrel
    have HKk := Lib.hid (HTK3.out.keep HK.out (by rintro (e | e) <;> omega))
    obtain ⟨wo, rfl⟩ : ∃ wo : World, wo = wr := ⟨_, rfl⟩
    by_cases hal : a < Q.size
    · have ha64 : a + 64 ≤ Q.size := by omega
      obtain ⟨blk, hblk⟩ : ∃ blk, blk = blockAt pl (a / 64) := ⟨_, rfl⟩
      have hbyte : ∀ j, j < 64 → ∃ x, Q[a + j]? = some x ∧ blk[j]? = some x := fun j hj => by
        have hq : a + j < Q.size := by omega
        refine ⟨Q[a + j], by simp [hq], ?_⟩
        rw [hblk, ← HPP.out]
        unfold blockAt
        rw [List.getElem?_take, if_pos hj, List.getElem?_drop, show 64 * (a / 64) + j = a + j from by omega]
        rw [List.getElem?_eq_getElem (by rw [← Lib.size_eq]; exact hq)]
        rfl
      have HY := Lib.hid hbyte
      obtain ⟨hst, hhst⟩ : ∃ hst, hst = run pl (a / 64) := ⟨_, rfl⟩
      rw [← hhst] at HH
      have hmx : run pl ((a + 64) / 64) = mixed hst blk := by
        rw [show (a + 64) / 64 = a / 64 + 1 from by omega, hhst, hblk]; rfl
      have HMX := Lib.hid hmx
      obtain ⟨X, hX⟩ : ∃ X, X = (wcells (tabL 8 hst.at)).toArray := ⟨_, rfl⟩
      have hXs : X.size = 8 := by rw [hX, List.size_toArray, wcells_length, tabL_len]
      have hi8 : (Tryd.prog.info? 49).map (·.size) = some X.size := by rw [state_info, hXs]
      have hX1 : X.all (·.oneCell') = true := by rw [hX]; exact wcells_one _
      have hsl : (Tryd.prog.info? 49).map (·.size) = some (wcells (tabL 8 hst.at)).length := by rw [state_info, wcells_length, tabL_len]
      have HXX := Lib.hid hX
      have HXS := Lib.hid hXs
      have HI8 := Lib.hid hi8
      have HX1 := Lib.hid hX1
      have HSL := Lib.hid hsl
      clear hblk hbyte hhst hmx hX hXs hi8 hX1 hsl hexit
      go_wp2_with fail
      refine loop3 _ Q blk a Bw f _ _ _ _ _ _ _ _ _ _ _ _ _ _ _ _ _ _ _ _ _ _ _ _ _ _ _ _ _ _ _ _ _ _ _ _ _ _ _ _ _ _ _ _ _ _ _ _ _ _ _ _ _ _ _ _ _ _ _ _ _ _ _ _ _ _ _ _ _ _ _ _ _ _ _ _ _ _ _ _ _ _ _ _ _ _ _ _ _ _ _ _ _ _ _ _ _ _ _ _ _ _ _ _ _ _ _ _ _ _ _ _ _ _ _ _ _ _ _ _ _ _ _ _ _ _ _ _ _ _ _ _ _ _ _ _ _ _ _ _ _ _ _ _ _ _ _ _ _ _ _ _ _ _ _ _ _ _ _ _ _ _ _ _ _ _ _ _ _ _ _ _ _ _ _ _ _ _ _ _ _ _ _ _ _ _ _ _ _ _ _ _ _ _ _ _ _ _ _ _ _ _ _ _ _ _ _ _ _ _ _ _ _ _ _ _ _ _ _ _ _ _ _ _ _ _ _ _ _ _ _ _ _ _ _ _ _ _ _ _ _ _ _ _ _ _ _ _ _ _ _ _ _ _ _ _ _ _ _ _ _ _ _ _ _ _ HY ha64 hQz HW ?_
      intro _ _ _ _ _ _ _ _ _ _ _ _ _ _ _ _ _ _ _ _ _ _ _ _ _ _ _ _ _ _ _ _ _ _ _ _ _ _ _ _ _ _ _ _ w3 f3 HF3 HT3 HK3
      clear HY HW
      go_wp2_with fail
      refine loop4 _ blk Bw f3 _ _ _ _ _ _ _ _ _ _ _ _ _ _ _ _ _ _ _ _ _ _ _ _ _ _ _ _ _ _ _ _ _ _ _ _ _ _ _ _ _ _ _ _ _ _ _ _ _ _ _ _ _ _ _ _ _ _ _ _ _ _ _ _ _ _ _ _ _ _ _ _ _ _ _ _ _ _ _ _ _ _ _ _ _ _ _ _ _ _ _ _ _ _ _ _ _ _ _ _ _ _ _ _ _ _ _ _ _ _ _ _ _ _ _ _ _ _ _ _ _ _ _ _ _ _ _ _ _ _ _ _ _ _ _ _ _ _ _ _ _ _ _ _ _ _ _ _ _ _ _ _ _ _ _ _ _ _ _ _ _ _ _ _ _ _ _ _ _ _ _ _ _ _ _ _ _ _ _ _ _ _ _ _ _ _ _ _ _ _ _ _ _ _ _ _ _ _ _ _ _ _ _ _ _ _ _ _ _ _ _ _ _ _ _ _ _ _ _ _ _ _ _ _ _ _ _ _ _ _ _ _ _ _ _ _ _ _ _ _ _ _ _ _ _ _ _ _ _ _ _ _ _ _ _ _ _ _ _ _ _ _ _ _ _ _ _ _ HF3 HT3 ?_
      intro _ _ _ _ _ _ _ _ _ _ _ _ _ _ _ _ _ _ _ _ _ _ _ _ _ _ _ _ _ _ _ _ _ _ _ _ _ _ _ _ _ _ _ _ wp HT4 HK4
      have HHp : Hid (Tab wp 49 Bh 8 hst.at) := (HH.out.keep HK3.out (by omega)).keep HK4.out (by omega)
      have HKp := Lib.hid ((HKk.out.keep HK3.out (by omega)).keep HK4.out (by omega))
      have HKo : Hid (Keep (fun k => k = Bh ∨ k = Bw) wz wp) := (HK.out.trans HK3.out (fun _ _ e => .inr e)).trans HK4.out (fun _ _ e => .inr e)
      clear HF3 HT3 HK3 HK4 HH HK HKk
      go_wp2_with (first
        | (refine wpList_load_mid rfl 49 (.tmp 3) rfl Bh 0 rfl (wcells (tabL 8 hst.at)) _ HHp.out.range Tryd.underlying49 rfl HSL.out ?_; rw [← HXX.out])
        | (refine wpList_store_row rfl 49 (.tmp 13) (.tmp 138) rfl wp.heap.size 49 _ X rfl rfl (heap_alloc_new _ _) HI8.out (by rw [HXS.out]; rfl) HX1.out ?_; rw [World.setRow_alloc_new]))
      obtain ⟨Bv, hBv⟩ : ∃ Bv, Bv = wp.heap.size := ⟨_, rfl⟩
      obtain ⟨w6, hw6⟩ : ∃ w6, w6 = wp.alloc (.cells X 49) := ⟨_, rfl⟩
      have hb6 : Below wp.heap.size wp w6 := by rw [hw6]; exact (Below.refl _ _).alloc (Nat.le_refl _) _
      have HTv : Hid (Tab w6 49 Bv 8 hst.at) := by
        show Tab _ _ _ _ _
        unfold Tab
        rw [hw6, hBv, heap_alloc_new, HXX.out]
      have HTw6 := Lib.hid (HT4.out.below hb6)
      have HHw6 := Lib.hid (HHp.out.below hb6)
      have HKw6 := Lib.hid (HKp.out.below hb6)
      have HK6 : Hid (Keep (fun k => k = Bh ∨ k = Bw) wz w6) := HKo.out.trans (Keep.of_below (fun _ => False) hb6) (fun _ _ e => e.elim)
      have hvw : Bw < Bv := by rw [hBv]; exact HT4.out.lt
      have hvz : wz.heap.size ≤ Bv := by rw [hBv]; exact HKo.out.size
      rw [← hBv, ← hw6]
      clear hb6 hw6 hBv HXX HXS HI8 HX1 HSL HT4 HHp HKp HKo
      refine loop5 _ blk hst Bw Bk Bv _ _ _ _ _ _ _ _ _ _ _ _ _ _ _ _ _ _ _ _ _ _ _ _ _ _ _ _ _ _ _ _ _ _ _ _ _ _ _ _ _ _ _ _ _ _ _ _ _ _ _ _ _ _ _ _ _ _ _ _ _ _ _ _ _ _ _ _ _ _ _ _ _ _ _ _ _ _ _ _ _ _ _ _ _ _ _ _ _ _ _ _ _ _ _ _ _ _ _ _ _ _ _ _ _ _ _ _ _ _ _ _ _ _ _ _ _ _ _ _ _ _ _ _ _ _ _ _ _ _ _ _ _ _ _ _ _ _ _ _ _ _ _ _ _ _ _ _ _ _ _ _ _ _ _ _ _ _ _ _ _ _ _ _ _ _ _ _ _ _ _ _ _ _ _ _ _ _ _ _ _ _ _ _ _ _ _ _ _ _ _ _ _ _ _ _ _ _ _ _ _ _ _ _ _ _ _ _ _ _ _ _ _ _ _ _ _ _ _ _ _ _ _ _ _ _ _ _ _ _ _ _ _ _ _ _ _ _ _ _ _ _ _ _ _ _ _ _ _ _ _ _ _ _ _ _ _ _ _ _ _ _ _ _ _ _ HTv HTw6 HKw6 hvw (by omega) ?_
      intro _ _ _ _ _ _ _ _ _ _ _ _ _ _ _ _ _ _ _ _ _ _ _ _ _ _ _ _ _ _ _ _ _ _ _ _ _ _ _ _ _ _ _ _ _ _ _ _ _ _ _ _ _ _ _ _ _ _ _ _ _ _ _ _ _ _ _ _ _ _ _ _ _ _ _ _ _ _ _ _ _ _ _ _ _ _ _ _ _ _ _ _ w7 HV7 HK5
      have HH7 := Lib.hid (HHw6.out.keep HK5.out (by omega))
      have HW7 := Lib.hid (HTw6.out.keep HK5.out (by omega))
      have HK7 : Hid (Keep (fun k => k = Bh ∨ k = Bw) wz w7) := HK6.out.trans HK5.out (fun i hi e => by omega)
      clear HTv HTw6 HHw6 HKw6 HK6 HK5
      go_wp2_with fail
      refine loop6 _ hst (rounds hst blk 64) Bh Bv _ _ _ _ _ _ _ _ _ _ _ _ _ _ _ _ _ _ _ _ _ _ _ _ _ _ _ _ _ _ _ _ _ _ _ _ _ _ _ _ _ _ _ _ _ _ _ _ _ _ _ _ _ _ _ _ _ _ _ _ _ _ _ _ _ _ _ _ _ _ _ _ _ _ _ _ _ _ _ _ _ _ _ _ _ _ _ _ _ _ _ _ _ _ _ _ _ _ _ _ _ _ _ _ _ _ _ _ _ _ _ _ _ _ _ _ _ _ _ _ _ _ _ _ _ _ _ _ _ _ _ _ _ _ _ _ _ _ _ _ _ _ _ _ _ _ _ _ _ _ _ _ _ _ _ _ _ _ _ _ _ _ _ _ _ _ _ _ _ _ _ _ _ _ _ _ _ _ _ _ _ _ _ _ _ _ _ _ _ _ _ _ _ _ _ _ _ _ _ _ _ _ _ _ _ _ _ _ _ _ _ _ _ _ _ _ _ _ _ _ _ _ _ _ _ _ _ _ _ _ _ _ _ _ _ _ _ _ _ _ _ _ _ _ _ _ _ _ _ _ _ _ _ _ _ _ _ _ _ _ _ _ _ _ _ _ _ HV7 HH7 (by omega) ?_
      intro _ _ _ _ _ _ _ _ _ _ _ _ _ _ w8 HH8 HK8
      have HH9 : Hid (Tab w8 49 Bh 8 (run pl ((a + 64) / 64)).at) := by
        show Tab _ _ _ _ _
        rw [HMX.out]; exact HH8.out
      have HW9 := Lib.hid (HW7.out.keep HK8.out (by omega))
      have HK9 : Hid (Keep (fun k => k = Bh ∨ k = Bw) wz w8) := HK7.out.trans HK8.out (fun _ _ e => .inl e)
      clear HH8 HH7 HW7 HK7 HK8 HMX HV7
      go_wp2_with fail
      go_roundw
      case rel => exact ⟨a + 64, _, by omega, by omega, by go_num, HH9, HW9, HK9⟩
      case measure => simp [intOf]; omega
    · obtain rfl : a = Q.size := by omega
      go_wp2_with fail
      exact hexit _ _ _ _ _ _ _ _ _ _ _ _ _ _ _ _ _ _ _ _ _ _ _ _ _ _ _ _ _ _ _ _ _ _ _ _ _ _ _ _ _ _ _ _ _ _ _ _ _ _ _ _ _ _ _ _ _ _ _ _ _ _ _ _ _ _ _ _ _ _ _ _ _ _ _ _ _ _ _ _ _ _ _ _ _ _ _ _ _ _ _ _ _ _ _ _ _ _ _ _ _ _ _ _ _ _ _ _ _ _ _ _ _ _ _ _ _ _ _ _ _ _ _ _ _ _ _ _ _ _ _ _ _ _ _ _ _ _ _ _ _ _ _ _ _ _ _ _ _ _ _ _ _ _ _ _ _ _ _ _ _ _ _ _ _ _ _ _ _ _ _ _ _ _ _ _ _ _ _ _ _ _ _ _ _ _ _ _ _ _ _ _ _ _ _ _ _ _ _ _ _ _ _ _ HH HK

end Go.Proofs.YtncfnpibigohoaaDoor
