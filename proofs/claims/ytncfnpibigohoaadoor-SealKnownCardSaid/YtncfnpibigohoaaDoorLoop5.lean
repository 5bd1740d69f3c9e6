/- Loops of the document's Digest. Own work (by sealloops.gen.py). -/
import Derived.Test.YtncfnpibigohoaaDoorLoop3
namespace Go.Proofs.YtncfnpibigohoaaDoor
set_option linter.unusedVariables false
open Go.RowKit

set_option maxRecDepth 100000 in
set_option maxHeartbeats 6400000 in
theorem loop5 (Q0 : Exit → Act → World → Prop) (blk : List UInt8) (hst : St) (Bw Bk Bv : Nat) (wr : World) (c0 c1 c2 c3 c5 c6 c8 c9 c10 c11 c12 c17 c18 c19 c20 c21 c22 c23 c24 c25 c26 c27 c28 c29 c30 c31 c32 c33 c34 c35 c36 c37 c38 c39 c40 c41 c42 c43 c44 c45 c46 c47 c48 c49 c50 c51 c52 c53 c54 c55 c56 c57 c58 c59 c60 c61 c62 c63 c64 c65 c66 c67 c68 c69 c70 c71 c72 c73 c74 c75 c76 c77 c78 c79 c80 c81 c82 c83 c84 c85 c86 c87 c88 c89 c90 c91 c92 c93 c94 c95 c96 c97 c98 c99 c100 c101 c102 c103 c104 c105 c106 c107 c108 c109 c110 c111 c112 c113 c114 c115 c116 c117 c118 c119 c120 c121 c122 c123 c124 c125 c126 c127 c128 c129 c130 c131 c132 c133 c134 c135 c136 c137 c138 c228 c229 c230 c231 c232 c233 c234 c235 c236 c237 c238 c239 c240 c241 c242 c243 c244 c245 c246 c247 c248 c249 c250 c251 c252 c253 c254 c255 c256 c257 c258 c259 c260 c261 c262 c263 c264 c265 c266 c267 c268 : Value) (u15 u16 u139 u140 u141 u142 u143 u144 u145 u146 u147 u148 u149 u150 u151 u152 u153 u154 u155 u156 u157 u158 u159 u160 u161 u162 u163 u164 u165 u166 u167 u168 u169 u170 u171 u172 u173 u174 u175 u176 u177 u178 u179 u180 u181 u182 u183 u184 u185 u186 u187 u188 u189 u190 u191 u192 u193 u194 u195 u196 u197 u198 u199 u200 u201 u202 u203 u204 u205 u206 u207 u208 u209 u210 u211 u212 u213 u214 u215 u216 u217 u218 u219 u220 u221 u222 u223 u224 u225 u226 u227 : Value)
    (HTv : Hid (Tab wr 49 Bv 8 hst.at))
    (HTw6 : Hid (Tab wr 53 Bw 64 (wd blk)))
    (HKw6 : Hid (Tab wr 48 Bk 64 kAt))
    (hvw : Bw < Bv)
    (hvk : Bk < Bv)
    (hexit : ∀ (z14 z15 z16 z139 z140 z141 z142 z143 z144 z145 z146 z147 z148 z149 z150 z151 z152 z153 z154 z155 z156 z157 z158 z159 z160 z161 z162 z163 z164 z165 z166 z167 z168 z169 z170 z171 z172 z173 z174 z175 z176 z177 z178 z179 z180 z181 z182 z183 z184 z185 z186 z187 z188 z189 z190 z191 z192 z193 z194 z195 z196 z197 z198 z199 z200 z201 z202 z203 z204 z205 z206 z207 z208 z209 z210 z211 z212 z213 z214 z215 z216 z217 z218 z219 z220 z221 z222 z223 z224 z225 z226 z227 : Value) (w' : World), Hid (Tab w' 49 Bv 8 (rounds hst blk 64).at) → Hid (Keep (· = Bv) wr w') → Q0 (.exit 8) ⟨List.toArray (c0 :: c1 :: c2 :: c3 :: Value.slice (some ⟨Bk, 0, none⟩) 64 64 :: c5 :: c6 :: Value.pointer (some ⟨Bw, 0, none⟩) :: c8 :: c9 :: c10 :: c11 :: c12 :: Value.pointer (some ⟨Bv, 0, none⟩) :: z14 :: z15 :: z16 :: c17 :: c18 :: c19 :: c20 :: c21 :: c22 :: c23 :: c24 :: c25 :: c26 :: c27 :: c28 :: c29 :: c30 :: c31 :: c32 :: c33 :: c34 :: c35 :: c36 :: c37 :: c38 :: c39 :: c40 :: c41 :: c42 :: c43 :: c44 :: c45 :: c46 :: c47 :: c48 :: c49 :: c50 :: c51 :: c52 :: c53 :: c54 :: c55 :: c56 :: c57 :: c58 :: c59 :: c60 :: c61 :: c62 :: c63 :: c64 :: c65 :: c66 :: c67 :: c68 :: c69 :: c70 :: c71 :: c72 :: c73 :: c74 :: c75 :: c76 :: c77 :: c78 :: c79 :: c80 :: c81 :: c82 :: c83 :: c84 :: c85 :: c86 :: c87 :: c88 :: c89 :: c90 :: c91 :: c92 :: c93 :: c94 :: c95 :: c96 :: c97 :: c98 :: c99 :: c100 :: c101 :: c102 :: c103 :: c104 :: c105 :: c106 :: c107 :: c108 :: c109 :: c110 :: c111 :: c112 :: c113 :: c114 :: c115 :: c116 :: c117 :: c118 :: c119 :: c120 :: c121 :: c122 :: c123 :: c124 :: c125 :: c126 :: c127 :: c128 :: c129 :: c130 :: c131 :: c132 :: c133 :: c134 :: c135 :: c136 :: c137 :: c138 :: z139 :: z140 :: z141 :: z142 :: z143 :: z144 :: z145 :: z146 :: z147 :: z148 :: z149 :: z150 :: z151 :: z152 :: z153 :: z154 :: z155 :: z156 :: z157 :: z158 :: z159 :: z160 :: z161 :: z162 :: z163 :: z164 :: z165 :: z166 :: z167 :: z168 :: z169 :: z170 :: z171 :: z172 :: z173 :: z174 :: z175 :: z176 :: z177 :: z178 :: z179 :: z180 :: z181 :: z182 :: z183 :: z184 :: z185 :: z186 :: z187 :: z188 :: z189 :: z190 :: z191 :: z192 :: z193 :: z194 :: z195 :: z196 :: z197 :: z198 :: z199 :: z200 :: z201 :: z202 :: z203 :: z204 :: z205 :: z206 :: z207 :: z208 :: z209 :: z210 :: z211 :: z212 :: z213 :: z214 :: z215 :: z216 :: z217 :: z218 :: z219 :: z220 :: z221 :: z222 :: z223 :: z224 :: z225 :: z226 :: z227 :: c228 :: c229 :: c230 :: c231 :: c232 :: c233 :: c234 :: c235 :: c236 :: c237 :: c238 :: c239 :: c240 :: c241 :: c242 :: c243 :: c244 :: c245 :: c246 :: c247 :: c248 :: c249 :: c250 :: c251 :: c252 :: c253 :: c254 :: c255 :: c256 :: c257 :: c258 :: c259 :: c260 :: c261 :: c262 :: c263 :: c264 :: c265 :: c266 :: c267 :: c268 :: ([] : List Value)), []⟩ w') :
    Code.wp Tryd.prog (Code.loop (loopN 4)) Q0 ⟨List.toArray (c0 :: c1 :: c2 :: c3 :: Value.slice (some ⟨Bk, 0, none⟩) 64 64 :: c5 :: c6 :: Value.pointer (some ⟨Bw, 0, none⟩) :: c8 :: c9 :: c10 :: c11 :: c12 :: Value.pointer (some ⟨Bv, 0, none⟩) :: Value.int .i64 0 :: u15 :: u16 :: c17 :: c18 :: c19 :: c20 :: c21 :: c22 :: c23 :: c24 :: c25 :: c26 :: c27 :: c28 :: c29 :: c30 :: c31 :: c32 :: c33 :: c34 :: c35 :: c36 :: c37 :: c38 :: c39 :: c40 :: c41 :: c42 :: c43 :: c44 :: c45 :: c46 :: c47 :: c48 :: c49 :: c50 :: c51 :: c52 :: c53 :: c54 :: c55 :: c56 :: c57 :: c58 :: c59 :: c60 :: c61 :: c62 :: c63 :: c64 :: c65 :: c66 :: c67 :: c68 :: c69 :: c70 :: c71 :: c72 :: c73 :: c74 :: c75 :: c76 :: c77 :: c78 :: c79 :: c80 :: c81 :: c82 :: c83 :: c84 :: c85 :: c86 :: c87 :: c88 :: c89 :: c90 :: c91 :: c92 :: c93 :: c94 :: c95 :: c96 :: c97 :: c98 :: c99 :: c100 :: c101 :: c102 :: c103 :: c104 :: c105 :: c106 :: c107 :: c108 :: c109 :: c110 :: c111 :: c112 :: c113 :: c114 :: c115 :: c116 :: c117 :: c118 :: c119 :: c120 :: c121 :: c122 :: c123 :: c124 :: c125 :: c126 :: c127 :: c128 :: c129 :: c130 :: c131 :: c132 :: c133 :: c134 :: c135 :: c136 :: c137 :: c138 :: u139 :: u140 :: u141 :: u142 :: u143 :: u144 :: u145 :: u146 :: u147 :: u148 :: u149 :: u150 :: u151 :: u152 :: u153 :: u154 :: u155 :: u156 :: u157 :: u158 :: u159 :: u160 :: u161 :: u162 :: u163 :: u164 :: u165 :: u166 :: u167 :: u168 :: u169 :: u170 :: u171 :: u172 :: u173 :: u174 :: u175 :: u176 :: u177 :: u178 :: u179 :: u180 :: u181 :: u182 :: u183 :: u184 :: u185 :: u186 :: u187 :: u188 :: u189 :: u190 :: u191 :: u192 :: u193 :: u194 :: u195 :: u196 :: u197 :: u198 :: u199 :: u200 :: u201 :: u202 :: u203 :: u204 :: u205 :: u206 :: u207 :: u208 :: u209 :: u210 :: u211 :: u212 :: u213 :: u214 :: u215 :: u216 :: u217 :: u218 :: u219 :: u220 :: u221 :: u222 :: u223 :: u224 :: u225 :: u226 :: u227 :: c228 :: c229 :: c230 :: c231 :: c232 :: c233 :: c234 :: c235 :: c236 :: c237 :: c238 :: c239 :: c240 :: c241 :: c242 :: c243 :: c244 :: c245 :: c246 :: c247 :: c248 :: c249 :: c250 :: c251 :: c252 :: c253 :: c254 :: c255 :: c256 :: c257 :: c258 :: c259 :: c260 :: c261 :: c262 :: c263 :: c264 :: c265 :: c266 :: c267 :: c268 :: ([] : List Value)), []⟩ wr := by
  unfold loopN
  conv => arg 2; arg 1; whnf
  obtain ⟨w6, rfl⟩ : ∃ w6 : World, w6 = wr := ⟨_, rfl⟩
  go_loopw [14] (fun i wr => ∃ t : Nat, t ≤ 64 ∧ i = .int .i64 t ∧ Hid (Tab wr 49 Bv 8 (rounds hst blk t).at) ∧ Hid (Keep (· = Bv) w6 wr)) (fun i _ => 64 - (intOf i).toNat)
  case atStart => exact ⟨0, by omega, rfl, HTv, Keep.refl _ _⟩
  case round =>
    obtain ⟨t, ht, rfl, HV, HK5⟩ := hrel
    by_cases hlt : t < 64
    · have HN : Hid (round (rounds hst blk t) (kAt t) (wd blk t) = rounds hst blk (t + 1)) := rfl
      generalize hvv : rounds hst blk t = vv at HV HN
      clear hvv
      obtain ⟨va, vb, vc, vd, ve, vf, vg, vh⟩ := vv
      have c0 : wr.cell? ⟨Bv, 0, none⟩ = some (.int .u32 va.n) := HV.out.cell (i := 0) (by omega)
      have c1 : wr.cell? ⟨Bv, 1, none⟩ = some (.int .u32 vb.n) := HV.out.cell (i := 1) (by omega)
      have c2 : wr.cell? ⟨Bv, 2, none⟩ = some (.int .u32 vc.n) := HV.out.cell (i := 2) (by omega)
      have c3 : wr.cell? ⟨Bv, 3, none⟩ = some (.int .u32 vd.n) := HV.out.cell (i := 3) (by omega)
      have c4 : wr.cell? ⟨Bv, 4, none⟩ = some (.int .u32 ve.n) := HV.out.cell (i := 4) (by omega)
      have c5 : wr.cell? ⟨Bv, 5, none⟩ = some (.int .u32 vf.n) := HV.out.cell (i := 5) (by omega)
      have c6 : wr.cell? ⟨Bv, 6, none⟩ = some (.int .u32 vg.n) := HV.out.cell (i := 6) (by omega)
      have c7 : wr.cell? ⟨Bv, 7, none⟩ = some (.int .u32 vh.n) := HV.out.cell (i := 7) (by omega)
      have ck := (HKw6.out.keep HK5.out (by omega)).cell hlt
      have cw := (HTw6.out.keep HK5.out (by omega)).cell hlt
      have hti : (t : Int) < 64 := by omega
      have hti0 : (0 : Int) ≤ (t : Int) := by omega
      generalize kAt t = kt at ck HN
      generalize wd blk t = wt at cw HN
      have e0 := Wd.xor_is (ve.rot 6) (ve.rot 11)
      have e0' : bits .xor .u32 ((ve.rot 6).xor (ve.rot 11)).n (ve.rot 25).n = (ve.big 6 11 25).n := Wd.xor_is _ _
      have e1 := Wd.and_is ve vf
      have e2 := Wd.not_is ve
      have e2' : bits .xor .u32 IntKind.u32.max ve.n = ve.not.n := Wd.not_is ve
      have hsg : IntKind.u32.signed = false := rfl
      have e3 := Wd.and_is ve.not vg
      have e4 := Wd.xor_is (ve.and vf) (ve.not.and vg)
      have e5 := Wd.and_is va vb
      have e6 := Wd.and_is va vc
      have e7 := Wd.xor_is (va.and vb) (va.and vc)
      have e8 := Wd.and_is vb vc
      have e9 := Wd.xor_is ((va.and vb).xor (va.and vc)) (vb.and vc)
      have d0 := Wd.xor_is (va.rot 2) (va.rot 13)
      have d0' : bits .xor .u32 ((va.rot 2).xor (va.rot 13)).n (va.rot 22).n = (va.big 2 13 22).n := Wd.xor_is _ _
      obtain ⟨ch, hch⟩ : ∃ ch, ch = Wd.ch ve vf vg := ⟨_, rfl⟩
      obtain ⟨mj, hmj⟩ : ∃ mj, mj = Wd.maj va vb vc := ⟨_, rfl⟩
      rw [show (ve.and vf).xor (ve.not.and vg) = ch from hch.symm] at e4
      rw [show ((va.and vb).xor (va.and vc)).xor (vb.and vc) = mj from hmj.symm] at e9
      have f1 := Wd.add_is vh (ve.big 6 11 25)
      have k1 := Wd.add_is' vh (ve.big 6 11 25)
      have f2 := Wd.add_is (vh.add (ve.big 6 11 25)) ch
      have k2 := Wd.add_is' (vh.add (ve.big 6 11 25)) ch
      have f3 := Wd.add_is ((vh.add (ve.big 6 11 25)).add ch) kt
      have k3 := Wd.add_is' ((vh.add (ve.big 6 11 25)).add ch) kt
      have f4 := Wd.add_is (((vh.add (ve.big 6 11 25)).add ch).add kt) wt
      have k4 := Wd.add_is' (((vh.add (ve.big 6 11 25)).add ch).add kt) wt
      obtain ⟨x1, hx1⟩ : ∃ x1, x1 = t1 ⟨va, vb, vc, vd, ve, vf, vg, vh⟩ kt wt := ⟨_, rfl⟩
      rw [show (((vh.add (ve.big 6 11 25)).add ch).add kt).add wt = x1 from by rw [hx1, hch]; rfl] at f4 k4
      have f5 := Wd.add_is (va.big 2 13 22) mj
      have g5 := Wd.add_is' (va.big 2 13 22) mj
      obtain ⟨x2, hx2⟩ : ∃ x2, x2 = t2 ⟨va, vb, vc, vd, ve, vf, vg, vh⟩ := ⟨_, rfl⟩
      rw [show (va.big 2 13 22).add mj = x2 from by rw [hx2, hmj]; rfl] at f5 g5
      have f6 := Wd.add_is x1 x2
      have f7 := Wd.add_is vd x1
      have g6 := Wd.add_is' x1 x2
      have g7 := Wd.add_is' vd x1
      have HX1 := Lib.hid hx1
      have HX2 := Lib.hid hx2
      clear hx1 hx2 hch hmj
      obtain ⟨Y, hY⟩ : ∃ Y : List Value, Y = wcells (tabL 8 (rounds hst blk (t + 1)).at) := ⟨_, rfl⟩
      have hYl : Y = [.int .u32 (x1.add x2).n, .int .u32 va.n, .int .u32 vb.n, .int .u32 vc.n, .int .u32 (vd.add x1).n, .int .u32 ve.n, .int .u32 vf.n, .int .u32 vg.n] := by
        rw [hY, ← HN.out, HX1.out, HX2.out]; rfl
      have HY := Lib.hid hY
      have HYL := Lib.hid hYl
      clear hY hYl
      have Rve6 : Hid (∀ W : World, Calls Tryd.prog 31 #[.int .u32 ve.n, .int .i64 6] W fun r w' => r = .returned (.int .u32 (ve.rot 6).n) ∧ ∃ k, w' = W.drewN k) := fun W => rot_ref ve 6 W (by omega) (by omega)
      have Rve11 : Hid (∀ W : World, Calls Tryd.prog 31 #[.int .u32 ve.n, .int .i64 11] W fun r w' => r = .returned (.int .u32 (ve.rot 11).n) ∧ ∃ k, w' = W.drewN k) := fun W => rot_ref ve 11 W (by omega) (by omega)
      have Rve25 : Hid (∀ W : World, Calls Tryd.prog 31 #[.int .u32 ve.n, .int .i64 25] W fun r w' => r = .returned (.int .u32 (ve.rot 25).n) ∧ ∃ k, w' = W.drewN k) := fun W => rot_ref ve 25 W (by omega) (by omega)
      have Rva2 : Hid (∀ W : World, Calls Tryd.prog 31 #[.int .u32 va.n, .int .i64 2] W fun r w' => r = .returned (.int .u32 (va.rot 2).n) ∧ ∃ k, w' = W.drewN k) := fun W => rot_ref va 2 W (by omega) (by omega)
      have Rva13 : Hid (∀ W : World, Calls Tryd.prog 31 #[.int .u32 va.n, .int .i64 13] W fun r w' => r = .returned (.int .u32 (va.rot 13).n) ∧ ∃ k, w' = W.drewN k) := fun W => rot_ref va 13 W (by omega) (by omega)
      have Rva22 : Hid (∀ W : World, Calls Tryd.prog 31 #[.int .u32 va.n, .int .i64 22] W fun r w' => r = .returned (.int .u32 (va.rot 22).n) ∧ ∃ k, w' = W.drewN k) := fun W => rot_ref va 22 W (by omega) (by omega)
      go_wp2_with fail
      go_quiet ((go_at_call 31; with_reducible first | exact Calls.quiet_of (Rve6.out _) | exact Calls.quiet_of (Rve11.out _) | exact Calls.quiet_of (Rve25.out _)))
      go_wp2_with fail
      have HV2 : Hid (Tab (wr.drewN nq) 49 Bv 8 (St.mk va vb vc vd ve vf vg vh).at) := HV.out
      have HK6 : Hid (Keep (· = Bv) w6 (wr.drewN nq)) := HK5.out.drewN nq
      clear c0 c1 c2 c3 c4 c5 c6 c7 ck cw HV HK5
      generalize wr.drewN nq = wq at HV2 HK6 ⊢
      have c0 : wq.cell? ⟨Bv, 0, none⟩ = some (.int .u32 va.n) := HV2.out.cell (i := 0) (by omega)
      have c1 : wq.cell? ⟨Bv, 1, none⟩ = some (.int .u32 vb.n) := HV2.out.cell (i := 1) (by omega)
      have c2 : wq.cell? ⟨Bv, 2, none⟩ = some (.int .u32 vc.n) := HV2.out.cell (i := 2) (by omega)
      have c3 : wq.cell? ⟨Bv, 3, none⟩ = some (.int .u32 vd.n) := HV2.out.cell (i := 3) (by omega)
      have c4 : wq.cell? ⟨Bv, 4, none⟩ = some (.int .u32 ve.n) := HV2.out.cell (i := 4) (by omega)
      have c5 : wq.cell? ⟨Bv, 5, none⟩ = some (.int .u32 vf.n) := HV2.out.cell (i := 5) (by omega)
      have c6 : wq.cell? ⟨Bv, 6, none⟩ = some (.int .u32 vg.n) := HV2.out.cell (i := 6) (by omega)
      go_quiet ((go_at_call 31; with_reducible first | exact Calls.quiet_of (Rva2.out _) | exact Calls.quiet_of (Rva13.out _) | exact Calls.quiet_of (Rva22.out _)))
      go_wp2_with (with_reducible refine wpList_store_row rfl 49 (.tmp 13) (.tmp 227) rfl Bv 49 ?sold #[.int .u32 (x1.add x2).n, .int .u32 va.n, .int .u32 vb.n, .int .u32 vc.n, .int .u32 (vd.add x1).n, .int .u32 ve.n, .int .u32 vf.n, .int .u32 vg.n] ?shx ?shy ?shg ?shi ?shs ?sh1 ?_)
      case shx => rfl
      case shy => rfl
      case shg => exact HV2.out
      case shi => exact state_info
      case shs => simp [wcells_length, tabL_len]
      case sh1 => simp [Value.oneCell']
      go_roundw
      case rel => exact ⟨t + 1, by omega, by go_num, (by
          show Tab _ _ _ _ _
          unfold Tab
          rw [setRow_heap _ _ _ _ _ _ (show (wq.drewN nq).heap[Bv]? = _ from HV2.out), ← HY.out, HYL.out]), (HK6.out.drewN _).trans (keep_row _ _ _) (fun _ _ e => e)⟩
      case measure => simp [intOf]; omega
    · obtain rfl : t = 64 := by omega
      go_wp2_with fail
      exact hexit _ _ _ _ _ _ _ _ _ _ _ _ _ _ _ _ _ _ _ _ _ _ _ _ _ _ _ _ _ _ _ _ _ _ _ _ _ _ _ _ _ _ _ _ _ _ _ _ _ _ _ _ _ _ _ _ _ _ _ _ _ _ _ _ _ _ _ _ _ _ _ _ _ _ _ _ _ _ _ _ _ _ _ _ _ _ _ _ _ _ _ _ wr HV HK5

end Go.Proofs.YtncfnpibigohoaaDoor
