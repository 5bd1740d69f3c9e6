/- Loops of the document's Digest. Own work (by sealloops.gen.py). Loops of the document's Digest. Own work (by sealloops.gen.py). Loops of the document's Digest. Own work (by sealloops.gen.py). The document's own Digest. Own work (by sealloops.gen.py). -/
import Derived.Test.YtncpjapfkcgjnaaDoorDigA
set_option linter.unusedVariables false
set_option linter.unusedSimpArgs false
namespace Go.Proofs.YtncpjapfkcgjnaaDoor
set_option linter.unusedVariables false
set_option linter.unusedSimpArgs false
open Go.RowKit

set_option maxRecDepth 100000 in
set_option maxHeartbeats 6400000 in
theorem loop5 (Q0 : Exit → Act → World → Prop) (blk : List UInt8) (hst : St) (Bw Bk Bv : Nat) (wr : World) (c0 c1 c2 c3 c5 c6 c8 c9 c10 c11 c12 c17 c18 c19 c20 c21 c22 c23 c24 c25 c26 c27 c28 c29 c30 c31 c32 c33 c34 c35 c36 c37 c38 c39 c40 c41 c42 c43 c44 c45 c46 c47 c48 c49 c50 c51 c52 c53 c54 c55 c56 c57 c58 c59 c60 c61 c62 c63 c64 c65 c66 c67 c68 c69 c70 c71 c72 c73 c74 c75 c76 c77 c78 c79 c80 c81 c82 c83 c84 c85 c86 c87 c88 c89 c90 c91 c92 c93 c94 c95 c96 c97 c98 c99 c100 c101 c102 c103 c104 c105 c106 c107 c108 c109 c110 c111 c112 c113 c114 c115 c116 c117 c118 c119 c120 c121 c122 c123 c124 c125 c126 c127 c128 c129 c130 c131 c132 c133 c134 c135 c136 c137 c138 c228 c229 c230 c231 c232 c233 c234 c235 c236 c237 c238 c239 c240 c241 c242 c243 c244 c245 c246 c247 c248 c249 c250 c251 c252 c253 c254 c255 c256 c257 c258 c259 c260 c261 c262 c263 c264 c265 c266 c267 c268 : Value) (u15 u16 u139 u140 u141 u142 u143 u144 u145 u146 u147 u148 u149 u150 u151 u152 u153 u154 u155 u156 u157 u158 u159 u160 u161 u162 u163 u164 u165 u166 u167 u168 u169 u170 u171 u172 u173 u174 u175 u176 u177 u178 u179 u180 u181 u182 u183 u184 u185 u186 u187 u188 u189 u190 u191 u192 u193 u194 u195 u196 u197 u198 u199 u200 u201 u202 u203 u204 u205 u206 u207 u208 u209 u210 u211 u212 u213 u214 u215 u216 u217 u218 u219 u220 u221 u222 u223 u224 u225 u226 u227 : Value)
    (HTv : Hid (Tab wr 88 Bv 8 hst.at))
    (HTw6 : Hid (Tab wr 91 Bw 64 (wd blk)))
    (HKw6 : Hid (Tab wr 87 Bk 64 kAt))
    (hvw : Bw < Bv)
    (hvk : Bk < Bv)
    (hexit : ∀ (z14 z15 z16 z139 z140 z141 z142 z143 z144 z145 z146 z147 z148 z149 z150 z151 z152 z153 z154 z155 z156 z157 z158 z159 z160 z161 z162 z163 z164 z165 z166 z167 z168 z169 z170 z171 z172 z173 z174 z175 z176 z177 z178 z179 z180 z181 z182 z183 z184 z185 z186 z187 z188 z189 z190 z191 z192 z193 z194 z195 z196 z197 z198 z199 z200 z201 z202 z203 z204 z205 z206 z207 z208 z209 z210 z211 z212 z213 z214 z215 z216 z217 z218 z219 z220 z221 z222 z223 z224 z225 z226 z227 : Value) (w' : World), Hid (Tab w' 88 Bv 8 (rounds hst blk 64).at) → Hid (Keep (· = Bv) wr w') → Q0 (.exit 8) ⟨List.toArray (c0 :: c1 :: c2 :: c3 :: Value.slice (some ⟨Bk, 0, none⟩) 64 64 :: c5 :: c6 :: Value.pointer (some ⟨Bw, 0, none⟩) :: c8 :: c9 :: c10 :: c11 :: c12 :: Value.pointer (some ⟨Bv, 0, none⟩) :: z14 :: z15 :: z16 :: c17 :: c18 :: c19 :: c20 :: c21 :: c22 :: c23 :: c24 :: c25 :: c26 :: c27 :: c28 :: c29 :: c30 :: c31 :: c32 :: c33 :: c34 :: c35 :: c36 :: c37 :: c38 :: c39 :: c40 :: c41 :: c42 :: c43 :: c44 :: c45 :: c46 :: c47 :: c48 :: c49 :: c50 :: c51 :: c52 :: c53 :: c54 :: c55 :: c56 :: c57 :: c58 :: c59 :: c60 :: c61 :: c62 :: c63 :: c64 :: c65 :: c66 :: c67 :: c68 :: c69 :: c70 :: c71 :: c72 :: c73 :: c74 :: c75 :: c76 :: c77 :: c78 :: c79 :: c80 :: c81 :: c82 :: c83 :: c84 :: c85 :: c86 :: c87 :: c88 :: c89 :: c90 :: c91 :: c92 :: c93 :: c94 :: c95 :: c96 :: c97 :: c98 :: c99 :: c100 :: c101 :: c102 :: c103 :: c104 :: c105 :: c106 :: c107 :: c108 :: c109 :: c110 :: c111 :: c112 :: c113 :: c114 :: c115 :: c116 :: c117 :: c118 :: c119 :: c120 :: c121 :: c122 :: c123 :: c124 :: c125 :: c126 :: c127 :: c128 :: c129 :: c130 :: c131 :: c132 :: c133 :: c134 :: c135 :: c136 :: c137 :: c138 :: z139 :: z140 :: z141 :: z142 :: z143 :: z144 :: z145 :: z146 :: z147 :: z148 :: z149 :: z150 :: z151 :: z152 :: z153 :: z154 :: z155 :: z156 :: z157 :: z158 :: z159 :: z160 :: z161 :: z162 :: z163 :: z164 :: z165 :: z166 :: z167 :: z168 :: z169 :: z170 :: z171 :: z172 :: z173 :: z174 :: z175 :: z176 :: z177 :: z178 :: z179 :: z180 :: z181 :: z182 :: z183 :: z184 :: z185 :: z186 :: z187 :: z188 :: z189 :: z190 :: z191 :: z192 :: z193 :: z194 :: z195 :: z196 :: z197 :: z198 :: z199 :: z200 :: z201 :: z202 :: z203 :: z204 :: z205 :: z206 :: z207 :: z208 :: z209 :: z210 :: z211 :: z212 :: z213 :: z214 :: z215 :: z216 :: z217 :: z218 :: z219 :: z220 :: z221 :: z222 :: z223 :: z224 :: z225 :: z226 :: z227 :: c228 :: c229 :: c230 :: c231 :: c232 :: c233 :: c234 :: c235 :: c236 :: c237 :: c238 :: c239 :: c240 :: c241 :: c242 :: c243 :: c244 :: c245 :: c246 :: c247 :: c248 :: c249 :: c250 :: c251 :: c252 :: c253 :: c254 :: c255 :: c256 :: c257 :: c258 :: c259 :: c260 :: c261 :: c262 :: c263 :: c264 :: c265 :: c266 :: c267 :: c268 :: ([] : List Value)), []⟩ w') :
    Code.wp Tryd.prog (Code.loop (loopN 4)) Q0 ⟨List.toArray (c0 :: c1 :: c2 :: c3 :: Value.slice (some ⟨Bk, 0, none⟩) 64 64 :: c5 :: c6 :: Value.pointer (some ⟨Bw, 0, none⟩) :: c8 :: c9 :: c10 :: c11 :: c12 :: Value.pointer (some ⟨Bv, 0, none⟩) :: Value.int .i64 0 :: u15 :: u16 :: c17 :: c18 :: c19 :: c20 :: c21 :: c22 :: c23 :: c24 :: c25 :: c26 :: c27 :: c28 :: c29 :: c30 :: c31 :: c32 :: c33 :: c34 :: c35 :: c36 :: c37 :: c38 :: c39 :: c40 :: c41 :: c42 :: c43 :: c44 :: c45 :: c46 :: c47 :: c48 :: c49 :: c50 :: c51 :: c52 :: c53 :: c54 :: c55 :: c56 :: c57 :: c58 :: c59 :: c60 :: c61 :: c62 :: c63 :: c64 :: c65 :: c66 :: c67 :: c68 :: c69 :: c70 :: c71 :: c72 :: c73 :: c74 :: c75 :: c76 :: c77 :: c78 :: c79 :: c80 :: c81 :: c82 :: c83 :: c84 :: c85 :: c86 :: c87 :: c88 :: c89 :: c90 :: c91 :: c92 :: c93 :: c94 :: c95 :: c96 :: c97 :: c98 :: c99 :: c100 :: c101 :: c102 :: c103 :: c104 :: c105 :: c106 :: c107 :: c108 :: c109 :: c110 :: c111 :: c112 :: c113 :: c114 :: c115 :: c116 :: c117 :: c118 :: c119 :: c120 :: c121 :: c122 :: c123 :: c124 :: c125 :: c126 :: c127 :: c128 :: c129 :: c130 :: c131 :: c132 :: c133 :: c134 :: c135 :: c136 :: c137 :: c138 :: u139 :: u140 :: u141 :: u142 :: u143 :: u144 :: u145 :: u146 :: u147 :: u148 :: u149 :: u150 :: u151 :: u152 :: u153 :: u154 :: u155 :: u156 :: u157 :: u158 :: u159 :: u160 :: u161 :: u162 :: u163 :: u164 :: u165 :: u166 :: u167 :: u168 :: u169 :: u170 :: u171 :: u172 :: u173 :: u174 :: u175 :: u176 :: u177 :: u178 :: u179 :: u180 :: u181 :: u182 :: u183 :: u184 :: u185 :: u186 :: u187 :: u188 :: u189 :: u190 :: u191 :: u192 :: u193 :: u194 :: u195 :: u196 :: u197 :: u198 :: u199 :: u200 :: u201 :: u202 :: u203 :: u204 :: u205 :: u206 :: u207 :: u208 :: u209 :: u210 :: u211 :: u212 :: u213 :: u214 :: u215 :: u216 :: u217 :: u218 :: u219 :: u220 :: u221 :: u222 :: u223 :: u224 :: u225 :: u226 :: u227 :: c228 :: c229 :: c230 :: c231 :: c232 :: c233 :: c234 :: c235 :: c236 :: c237 :: c238 :: c239 :: c240 :: c241 :: c242 :: c243 :: c244 :: c245 :: c246 :: c247 :: c248 :: c249 :: c250 :: c251 :: c252 :: c253 :: c254 :: c255 :: c256 :: c257 :: c258 :: c259 :: c260 :: c261 :: c262 :: c263 :: c264 :: c265 :: c266 :: c267 :: c268 :: ([] : List Value)), []⟩ wr := by
  unfold loopN
  conv => arg 2; arg 1; whnf
  obtain ⟨w6, rfl⟩ : ∃ w6 : World, w6 = wr := ⟨_, rfl⟩
  go_loopw [14] (fun i wr => ∃ t : Nat, t ≤ 64 ∧ i = .int .i64 t ∧ Hid (Tab wr 88 Bv 8 (rounds hst blk t).at) ∧ Hid (Keep (· = Bv) w6 wr)) (fun i _ => 64 - (intOf i).toNat)
  case atStart => exact ⟨0, by omega, rfl, HTv, Keep.refl _ _⟩
  case round =>
    obtain ⟨t, ht, rfl, HV, HK5⟩ := hrel
    by_cases hlt : t < 64
    · have HN : Hid (round (rounds hst blk t) (kAt t) (wd blk t) = rounds hst blk (t + 1)) := rfl
      generalize hvv : rounds hst blk t = vv at HV HN
      clear hvv
      obtain ⟨va, vb, vc, vd, ve, vf, vg, vh⟩ := vv
      have c0 : wr.cell? ⟨Bv, 0, none⟩ = some (.int .u32 va.n) := HV.out.cell (i := 0) (by omega)
      have c1 : wr.cell? ⟨Bv, 1, none⟩ = some (.int .u32 vb.n) := HV.out.cell (i := 1) (by omega)
      have c2 : wr.cell? ⟨Bv, 2, none⟩ = some (.int .u32 vc.n) := HV.out.cell (i := 2) (by omega)
      have c3 : wr.cell? ⟨Bv, 3, none⟩ = some (.int .u32 vd.n) := HV.out.cell (i := 3) (by omega)
      have c4 : wr.cell? ⟨Bv, 4, none⟩ = some (.int .u32 ve.n) := HV.out.cell (i := 4) (by omega)
      have c5 : wr.cell? ⟨Bv, 5, none⟩ = some (.int .u32 vf.n) := HV.out.cell (i := 5) (by omega)
      have c6 : wr.cell? ⟨Bv, 6, none⟩ = some (.int .u32 vg.n) := HV.out.cell (i := 6) (by omega)
      have c7 : wr.cell? ⟨Bv, 7, none⟩ = some (.int .u32 vh.n) := HV.out.cell (i := 7) (by omega)
      have ck := (HKw6.out.keep HK5.out (by omega)).cell hlt
      have cw := (HTw6.out.keep HK5.out (by omega)).cell hlt
      have hti : (t : Int) < 64 := by omega
      have hti0 : (0 : Int) ≤ (t : Int) := by omega
      generalize kAt t = kt at ck HN
      generalize wd blk t = wt at cw HN
      have e0 := Wd.xor_is (ve.rot 6) (ve.rot 11)
      have e0' : bits .xor .u32 ((ve.rot 6).xor (ve.rot 11)).n (ve.rot 25).n = (ve.big 6 11 25).n := Wd.xor_is _ _
      have e1 := Wd.and_is ve vf
      have e2 := Wd.not_is ve
      have e2' : bits .xor .u32 IntKind.u32.max ve.n = ve.not.n := Wd.not_is ve
      have hsg : IntKind.u32.signed = false := rfl
      have e3 := Wd.and_is ve.not vg
      have e4 := Wd.xor_is (ve.and vf) (ve.not.and vg)
      have e5 := Wd.and_is va vb
      have e6 := Wd.and_is va vc
      have e7 := Wd.xor_is (va.and vb) (va.and vc)
      have e8 := Wd.and_is vb vc
      have e9 := Wd.xor_is ((va.and vb).xor (va.and vc)) (vb.and vc)
      have d0 := Wd.xor_is (va.rot 2) (va.rot 13)
      have d0' : bits .xor .u32 ((va.rot 2).xor (va.rot 13)).n (va.rot 22).n = (va.big 2 13 22).n := Wd.xor_is _ _
      obtain ⟨ch, hch⟩ : ∃ ch, ch = Wd.ch ve vf vg := ⟨_, rfl⟩
      obtain ⟨mj, hmj⟩ : ∃ mj, mj = Wd.maj va vb vc := ⟨_, rfl⟩
      rw [show (ve.and vf).xor (ve.not.and vg) = ch from hch.symm] at e4
      rw [show ((va.and vb).xor (va.and vc)).xor (vb.and vc) = mj from hmj.symm] at e9
      have f1 := Wd.add_is vh (ve.big 6 11 25)
      have k1 := Wd.add_is' vh (ve.big 6 11 25)
      have f2 := Wd.add_is (vh.add (ve.big 6 11 25)) ch
      have k2 := Wd.add_is' (vh.add (ve.big 6 11 25)) ch
      have f3 := Wd.add_is ((vh.add (ve.big 6 11 25)).add ch) kt
      have k3 := Wd.add_is' ((vh.add (ve.big 6 11 25)).add ch) kt
      have f4 := Wd.add_is (((vh.add (ve.big 6 11 25)).add ch).add kt) wt
      have k4 := Wd.add_is' (((vh.add (ve.big 6 11 25)).add ch).add kt) wt
      obtain ⟨x1, hx1⟩ : ∃ x1, x1 = t1 ⟨va, vb, vc, vd, ve, vf, vg, vh⟩ kt wt := ⟨_, rfl⟩
      rw [show (((vh.add (ve.big 6 11 25)).add ch).add kt).add wt = x1 from by rw [hx1, hch]; rfl] at f4 k4
      have f5 := Wd.add_is (va.big 2 13 22) mj
      have g5 := Wd.add_is' (va.big 2 13 22) mj
      obtain ⟨x2, hx2⟩ : ∃ x2, x2 = t2 ⟨va, vb, vc, vd, ve, vf, vg, vh⟩ := ⟨_, rfl⟩
      rw [show (va.big 2 13 22).add mj = x2 from by rw [hx2, hmj]; rfl] at f5 g5
      have f6 := Wd.add_is x1 x2
      have f7 := Wd.add_is vd x1
      have g6 := Wd.add_is' x1 x2
      have g7 := Wd.add_is' vd x1
      have HX1 := Lib.hid hx1
      have HX2 := Lib.hid hx2
      clear hx1 hx2 hch hmj
      obtain ⟨Y, hY⟩ : ∃ Y : List Value, Y = wcells (tabL 8 (rounds hst blk (t + 1)).at) := ⟨_, rfl⟩
      have hYl : Y = [.int .u32 (x1.add x2).n, .int .u32 va.n, .int .u32 vb.n, .int .u32 vc.n, .int .u32 (vd.add x1).n, .int .u32 ve.n, .int .u32 vf.n, .int .u32 vg.n] := by
        rw [hY, ← HN.out, HX1.out, HX2.out]; rfl
      have HY := Lib.hid hY
      have HYL := Lib.hid hYl
      clear hY hYl
      have Rve6 : Hid (∀ W : World, Calls Tryd.prog 50 #[.int .u32 ve.n, .int .i64 6] W fun r w' => r = .returned (.int .u32 (ve.rot 6).n) ∧ ∃ k, w' = W.drewN k) := fun W => rot_ref ve 6 W (by omega) (by omega)
      have Rve11 : Hid (∀ W : World, Calls Tryd.prog 50 #[.int .u32 ve.n, .int .i64 11] W fun r w' => r = .returned (.int .u32 (ve.rot 11).n) ∧ ∃ k, w' = W.drewN k) := fun W => rot_ref ve 11 W (by omega) (by omega)
      have Rve25 : Hid (∀ W : World, Calls Tryd.prog 50 #[.int .u32 ve.n, .int .i64 25] W fun r w' => r = .returned (.int .u32 (ve.rot 25).n) ∧ ∃ k, w' = W.drewN k) := fun W => rot_ref ve 25 W (by omega) (by omega)
      have Rva2 : Hid (∀ W : World, Calls Tryd.prog 50 #[.int .u32 va.n, .int .i64 2] W fun r w' => r = .returned (.int .u32 (va.rot 2).n) ∧ ∃ k, w' = W.drewN k) := fun W => rot_ref va 2 W (by omega) (by omega)
      have Rva13 : Hid (∀ W : World, Calls Tryd.prog 50 #[.int .u32 va.n, .int .i64 13] W fun r w' => r = .returned (.int .u32 (va.rot 13).n) ∧ ∃ k, w' = W.drewN k) := fun W => rot_ref va 13 W (by omega) (by omega)
      have Rva22 : Hid (∀ W : World, Calls Tryd.prog 50 #[.int .u32 va.n, .int .i64 22] W fun r w' => r = .returned (.int .u32 (va.rot 22).n) ∧ ∃ k, w' = W.drewN k) := fun W => rot_ref va 22 W (by omega) (by omega)
      go_wp2_with fail
      go_quiet ((go_at_call 50; with_reducible first | exact Calls.quiet_of (Rve6.out _) | exact Calls.quiet_of (Rve11.out _) | exact Calls.quiet_of (Rve25.out _)))
      go_wp2_with fail
      have HV2 : Hid (Tab (wr.drewN nq) 88 Bv 8 (St.mk va vb vc vd ve vf vg vh).at) := HV.out
      have HK6 : Hid (Keep (· = Bv) w6 (wr.drewN nq)) := HK5.out.drewN nq
      clear c0 c1 c2 c3 c4 c5 c6 c7 ck cw HV HK5
      generalize wr.drewN nq = wq at HV2 HK6 ⊢
      have c0 : wq.cell? ⟨Bv, 0, none⟩ = some (.int .u32 va.n) := HV2.out.cell (i := 0) (by omega)
      have c1 : wq.cell? ⟨Bv, 1, none⟩ = some (.int .u32 vb.n) := HV2.out.cell (i := 1) (by omega)
      have c2 : wq.cell? ⟨Bv, 2, none⟩ = some (.int .u32 vc.n) := HV2.out.cell (i := 2) (by omega)
      have c3 : wq.cell? ⟨Bv, 3, none⟩ = some (.int .u32 vd.n) := HV2.out.cell (i := 3) (by omega)
      have c4 : wq.cell? ⟨Bv, 4, none⟩ = some (.int .u32 ve.n) := HV2.out.cell (i := 4) (by omega)
      have c5 : wq.cell? ⟨Bv, 5, none⟩ = some (.int .u32 vf.n) := HV2.out.cell (i := 5) (by omega)
      have c6 : wq.cell? ⟨Bv, 6, none⟩ = some (.int .u32 vg.n) := HV2.out.cell (i := 6) (by omega)
      go_quiet ((go_at_call 50; with_reducible first | exact Calls.quiet_of (Rva2.out _) | exact Calls.quiet_of (Rva13.out _) | exact Calls.quiet_of (Rva22.out _)))
      go_wp2_with (with_reducible refine wpList_store_row rfl 88 (.tmp 13) (.tmp 227) rfl Bv 88 ?sold #[.int .u32 (x1.add x2).n, .int .u32 va.n, .int .u32 vb.n, .int .u32 vc.n, .int .u32 (vd.add x1).n, .int .u32 ve.n, .int .u32 vf.n, .int .u32 vg.n] ?shx ?shy ?shg ?shi ?shs ?sh1 ?_)
      case shx => rfl
      case shy => rfl
      case shg => exact HV2.out
      case shi => exact state_info
      case shs => simp [wcells_length, tabL_len]
      case sh1 => simp [Value.oneCell']
      go_roundw
      case rel => exact ⟨t + 1, by omega, by go_num, (by
          show Tab _ _ _ _ _
          unfold Tab
          rw [setRow_heap _ _ _ _ _ _ (show (wq.drewN nq).heap[Bv]? = _ from HV2.out), ← HY.out, HYL.out]), (HK6.out.drewN _).trans (keep_row _ _ _) (fun _ _ e => e)⟩
      case measure => simp [intOf]; omega
    · obtain rfl : t = 64 := by omega
      go_wp2_with fail
      exact hexit _ _ _ _ _ _ _ _ _ _ _ _ _ _ _ _ _ _ _ _ _ _ _ _ _ _ _ _ _ _ _ _ _ _ _ _ _ _ _ _ _ _ _ _ _ _ _ _ _ _ _ _ _ _ _ _ _ _ _ _ _ _ _ _ _ _ _ _ _ _ _ _ _ _ _ _ _ _ _ _ _ _ _ _ _ _ _ _ _ _ _ _ wr HV HK5

end Go.Proofs.YtncpjapfkcgjnaaDoor
namespace Go.Proofs.YtncpjapfkcgjnaaDoor
set_option linter.unusedVariables false
set_option linter.unusedSimpArgs false
open Go.RowKit

set_option maxRecDepth 100000 in
set_option maxHeartbeats 6400000 in
theorem loop6 (Q0 : Exit → Act → World → Prop) (hst v : St) (Bh Bv : Nat) (wr : World) (c0 c1 c2 c4 c5 c6 c7 c8 c9 c10 c11 c12 c14 c15 c16 c18 c19 c20 c21 c22 c23 c24 c25 c26 c27 c28 c29 c30 c31 c32 c33 c34 c35 c36 c37 c38 c39 c40 c41 c42 c43 c44 c45 c46 c47 c48 c49 c50 c51 c52 c53 c54 c55 c56 c57 c58 c59 c60 c61 c62 c63 c64 c65 c66 c67 c68 c69 c70 c71 c72 c73 c74 c75 c76 c77 c78 c79 c80 c81 c82 c83 c84 c85 c86 c87 c88 c89 c90 c91 c92 c93 c94 c95 c96 c97 c98 c99 c100 c101 c102 c103 c104 c105 c106 c107 c108 c109 c110 c111 c112 c113 c114 c115 c116 c117 c118 c119 c120 c121 c122 c123 c124 c125 c126 c127 c128 c129 c130 c131 c132 c133 c134 c135 c136 c137 c138 c139 c140 c141 c142 c143 c144 c145 c146 c147 c148 c149 c150 c151 c152 c153 c154 c155 c156 c157 c158 c159 c160 c161 c162 c163 c164 c165 c166 c167 c168 c169 c170 c171 c172 c173 c174 c175 c176 c177 c178 c179 c180 c181 c182 c183 c184 c185 c186 c187 c188 c189 c190 c191 c192 c193 c194 c195 c196 c197 c198 c199 c200 c201 c202 c203 c204 c205 c206 c207 c208 c209 c210 c211 c212 c213 c214 c215 c216 c217 c218 c219 c220 c221 c222 c223 c224 c225 c226 c227 c241 c242 c243 c244 c245 c246 c247 c248 c249 c250 c251 c252 c253 c254 c255 c256 c257 c258 c259 c260 c261 c262 c263 c264 c265 c266 c267 c268 : Value) (u228 u229 u230 u231 u232 u233 u234 u235 u236 u237 u238 u239 u240 : Value)
    (HV : Hid (Tab wr 88 Bv 8 v.at))
    (HH7 : Hid (Tab wr 88 Bh 8 hst.at))
    (hvh : Bh < Bv)
    (hexit : ∀ (z17 z228 z229 z230 z231 z232 z233 z234 z235 z236 z237 z238 z239 z240 : Value) (w' : World), Hid (Tab w' 88 Bh 8 (hst.plus v).at) → Hid (Keep (· = Bh) wr w') → Q0 (.exit 10) ⟨List.toArray (c0 :: c1 :: c2 :: Value.pointer (some ⟨Bh, 0, none⟩) :: c4 :: c5 :: c6 :: c7 :: c8 :: c9 :: c10 :: c11 :: c12 :: Value.pointer (some ⟨Bv, 0, none⟩) :: c14 :: c15 :: c16 :: z17 :: c18 :: c19 :: c20 :: c21 :: c22 :: c23 :: c24 :: c25 :: c26 :: c27 :: c28 :: c29 :: c30 :: c31 :: c32 :: c33 :: c34 :: c35 :: c36 :: c37 :: c38 :: c39 :: c40 :: c41 :: c42 :: c43 :: c44 :: c45 :: c46 :: c47 :: c48 :: c49 :: c50 :: c51 :: c52 :: c53 :: c54 :: c55 :: c56 :: c57 :: c58 :: c59 :: c60 :: c61 :: c62 :: c63 :: c64 :: c65 :: c66 :: c67 :: c68 :: c69 :: c70 :: c71 :: c72 :: c73 :: c74 :: c75 :: c76 :: c77 :: c78 :: c79 :: c80 :: c81 :: c82 :: c83 :: c84 :: c85 :: c86 :: c87 :: c88 :: c89 :: c90 :: c91 :: c92 :: c93 :: c94 :: c95 :: c96 :: c97 :: c98 :: c99 :: c100 :: c101 :: c102 :: c103 :: c104 :: c105 :: c106 :: c107 :: c108 :: c109 :: c110 :: c111 :: c112 :: c113 :: c114 :: c115 :: c116 :: c117 :: c118 :: c119 :: c120 :: c121 :: c122 :: c123 :: c124 :: c125 :: c126 :: c127 :: c128 :: c129 :: c130 :: c131 :: c132 :: c133 :: c134 :: c135 :: c136 :: c137 :: c138 :: c139 :: c140 :: c141 :: c142 :: c143 :: c144 :: c145 :: c146 :: c147 :: c148 :: c149 :: c150 :: c151 :: c152 :: c153 :: c154 :: c155 :: c156 :: c157 :: c158 :: c159 :: c160 :: c161 :: c162 :: c163 :: c164 :: c165 :: c166 :: c167 :: c168 :: c169 :: c170 :: c171 :: c172 :: c173 :: c174 :: c175 :: c176 :: c177 :: c178 :: c179 :: c180 :: c181 :: c182 :: c183 :: c184 :: c185 :: c186 :: c187 :: c188 :: c189 :: c190 :: c191 :: c192 :: c193 :: c194 :: c195 :: c196 :: c197 :: c198 :: c199 :: c200 :: c201 :: c202 :: c203 :: c204 :: c205 :: c206 :: c207 :: c208 :: c209 :: c210 :: c211 :: c212 :: c213 :: c214 :: c215 :: c216 :: c217 :: c218 :: c219 :: c220 :: c221 :: c222 :: c223 :: c224 :: c225 :: c226 :: c227 :: z228 :: z229 :: z230 :: z231 :: z232 :: z233 :: z234 :: z235 :: z236 :: z237 :: z238 :: z239 :: z240 :: c241 :: c242 :: c243 :: c244 :: c245 :: c246 :: c247 :: c248 :: c249 :: c250 :: c251 :: c252 :: c253 :: c254 :: c255 :: c256 :: c257 :: c258 :: c259 :: c260 :: c261 :: c262 :: c263 :: c264 :: c265 :: c266 :: c267 :: c268 :: ([] : List Value)), []⟩ w') :
    Code.wp Tryd.prog (Code.loop (loopN 5)) Q0 ⟨List.toArray (c0 :: c1 :: c2 :: Value.pointer (some ⟨Bh, 0, none⟩) :: c4 :: c5 :: c6 :: c7 :: c8 :: c9 :: c10 :: c11 :: c12 :: Value.pointer (some ⟨Bv, 0, none⟩) :: c14 :: c15 :: c16 :: Value.int .i64 0 :: c18 :: c19 :: c20 :: c21 :: c22 :: c23 :: c24 :: c25 :: c26 :: c27 :: c28 :: c29 :: c30 :: c31 :: c32 :: c33 :: c34 :: c35 :: c36 :: c37 :: c38 :: c39 :: c40 :: c41 :: c42 :: c43 :: c44 :: c45 :: c46 :: c47 :: c48 :: c49 :: c50 :: c51 :: c52 :: c53 :: c54 :: c55 :: c56 :: c57 :: c58 :: c59 :: c60 :: c61 :: c62 :: c63 :: c64 :: c65 :: c66 :: c67 :: c68 :: c69 :: c70 :: c71 :: c72 :: c73 :: c74 :: c75 :: c76 :: c77 :: c78 :: c79 :: c80 :: c81 :: c82 :: c83 :: c84 :: c85 :: c86 :: c87 :: c88 :: c89 :: c90 :: c91 :: c92 :: c93 :: c94 :: c95 :: c96 :: c97 :: c98 :: c99 :: c100 :: c101 :: c102 :: c103 :: c104 :: c105 :: c106 :: c107 :: c108 :: c109 :: c110 :: c111 :: c112 :: c113 :: c114 :: c115 :: c116 :: c117 :: c118 :: c119 :: c120 :: c121 :: c122 :: c123 :: c124 :: c125 :: c126 :: c127 :: c128 :: c129 :: c130 :: c131 :: c132 :: c133 :: c134 :: c135 :: c136 :: c137 :: c138 :: c139 :: c140 :: c141 :: c142 :: c143 :: c144 :: c145 :: c146 :: c147 :: c148 :: c149 :: c150 :: c151 :: c152 :: c153 :: c154 :: c155 :: c156 :: c157 :: c158 :: c159 :: c160 :: c161 :: c162 :: c163 :: c164 :: c165 :: c166 :: c167 :: c168 :: c169 :: c170 :: c171 :: c172 :: c173 :: c174 :: c175 :: c176 :: c177 :: c178 :: c179 :: c180 :: c181 :: c182 :: c183 :: c184 :: c185 :: c186 :: c187 :: c188 :: c189 :: c190 :: c191 :: c192 :: c193 :: c194 :: c195 :: c196 :: c197 :: c198 :: c199 :: c200 :: c201 :: c202 :: c203 :: c204 :: c205 :: c206 :: c207 :: c208 :: c209 :: c210 :: c211 :: c212 :: c213 :: c214 :: c215 :: c216 :: c217 :: c218 :: c219 :: c220 :: c221 :: c222 :: c223 :: c224 :: c225 :: c226 :: c227 :: u228 :: u229 :: u230 :: u231 :: u232 :: u233 :: u234 :: u235 :: u236 :: u237 :: u238 :: u239 :: u240 :: c241 :: c242 :: c243 :: c244 :: c245 :: c246 :: c247 :: c248 :: c249 :: c250 :: c251 :: c252 :: c253 :: c254 :: c255 :: c256 :: c257 :: c258 :: c259 :: c260 :: c261 :: c262 :: c263 :: c264 :: c265 :: c266 :: c267 :: c268 :: ([] : List Value)), []⟩ wr := by
  unfold loopN
  conv => arg 2; arg 1; whnf
  obtain ⟨w7, rfl⟩ : ∃ w7 : World, w7 = wr := ⟨_, rfl⟩
  go_loopw [17] (fun i wr => ∃ k : Nat, k ≤ 8 ∧ i = .int .i64 k ∧ Hid (Tab wr 88 Bh 8 (partly hst v k)) ∧ Hid (Keep (· = Bh) w7 wr)) (fun i _ => 8 - (intOf i).toNat)
  case atStart => exact ⟨0, by omega, rfl, HH7.out.congr (fun i _ => by simp [partly]), Keep.refl _ _⟩
  case round =>
    obtain ⟨k, hk, rfl, HQ, HK8⟩ := hrel
    by_cases hlt : k < 8
    · have rk := HQ.out.cell hlt
      have rf := HQ.out.fr k
      have rv := (HV.out.keep HK8.out (by omega)).cell hlt
      have HS := Lib.hid ((HQ.out.set hlt ((hst.at k).add (v.at k))).congr (fun i _ => partly_step hst v hlt i))
      have rk' : partly hst v k k = hst.at k := by simp [partly]
      rw [rk'] at rk
      have hne : Bv ≠ Bh := by omega
      generalize hst.at k = sk at rk HS
      generalize v.at k = vk at rv HS
      have e1 := Wd.add_is sk vk
      have hki : ((k : Nat) : Int) < 8 := by omega
      clear rk'
      go_wp2_with fail
      refine wp_region_noPanic ?_
      refine wp_region_held_drew (S := fun w' => w'.cell? ⟨Bv, k, none⟩ = some (.int .u32 vk.n)) (by kernel_rfl) rv (fun hHeld => ?_)
      refine wpAnyH_take (i := 0) (oi := _) (v := ?vd0) rfl (by kernel_rfl) (by kernel_rfl) (by kernel_rfl) (fun _ _ _ h => h) (Or.inl ⟨by rfl, ?hyd0⟩) (by assumption) ?restd0
      case hyd0 => (intro w hSw; (try dsimp only at hSw); (try simp only [List.getElem_toArray, List.getElem_cons_zero, List.getElem_cons_succ]); go_simp; (try with_reducible rfl))
      (try simp only [Act.put, List.setIfInBounds_toArray, List.set_cons_zero, List.set_cons_succ, List.getElem_toArray, List.getElem_cons_zero, List.getElem_cons_succ])
      refine wpAnyH_take (i := 1) (oi := _) (v := ?vd1) rfl (by kernel_rfl) (by kernel_rfl) (by kernel_rfl) (fun _ _ _ h => h) (Or.inl ⟨by rfl, ?hyd1⟩) (by assumption) ?restd1
      case hyd1 => (intro w hSw; (try dsimp only at hSw); (try simp only [List.getElem_toArray, List.getElem_cons_zero, List.getElem_cons_succ]); go_simp; (try with_reducible rfl))
      (try simp only [Act.put, List.setIfInBounds_toArray, List.set_cons_zero, List.set_cons_succ, List.getElem_toArray, List.getElem_cons_zero, List.getElem_cons_succ])
      refine wpAnyH_take (i := 2) (oi := _) (v := ?vd2) rfl (by kernel_rfl) (by kernel_rfl) (by kernel_rfl) (fun _ _ _ h => h) (Or.inl ⟨by rfl, ?hyd2⟩) (by assumption) ?restd2
      case hyd2 => (intro w hSw; (try dsimp only at hSw); (try simp only [List.getElem_toArray, List.getElem_cons_zero, List.getElem_cons_succ]); go_simp; (try with_reducible rfl))
      (try simp only [Act.put, List.setIfInBounds_toArray, List.set_cons_zero, List.set_cons_succ, List.getElem_toArray, List.getElem_cons_zero, List.getElem_cons_succ])
      refine wpAnyH_take (i := 4) (oi := _) (v := ?vd4) rfl (by kernel_rfl) (by kernel_rfl) (by kernel_rfl) (fun _ _ _ h => h) (Or.inl ⟨by rfl, ?hyd4⟩) (by assumption) ?restd4
      case hyd4 => (intro w hSw; (try dsimp only at hSw); (try simp only [List.getElem_toArray, List.getElem_cons_zero, List.getElem_cons_succ]); go_simp; (try with_reducible rfl))
      (try simp only [Act.put, List.setIfInBounds_toArray, List.set_cons_zero, List.set_cons_succ, List.getElem_toArray, List.getElem_cons_zero, List.getElem_cons_succ])
      refine wpAnyH_take (i := 5) (oi := _) (v := ?vd5) rfl (by kernel_rfl) (by kernel_rfl) (by kernel_rfl) (fun _ _ _ h => h) (Or.inl ⟨by rfl, ?hyd5⟩) (by assumption) ?restd5
      case hyd5 => (intro w hSw; (try dsimp only at hSw); (try simp only [List.getElem_toArray, List.getElem_cons_zero, List.getElem_cons_succ]); go_simp; (try with_reducible rfl))
      (try simp only [Act.put, List.setIfInBounds_toArray, List.set_cons_zero, List.set_cons_succ, List.getElem_toArray, List.getElem_cons_zero, List.getElem_cons_succ])
      refine wpAnyH_take (i := 6) (oi := _) (v := ?vd6) rfl (by kernel_rfl) (by kernel_rfl) (by kernel_rfl) (fun _ _ _ h => h) (Or.inl ⟨by rfl, ?hyd6⟩) (by assumption) ?restd6
      case hyd6 => (intro w hSw; (try dsimp only at hSw); (try simp only [List.getElem_toArray, List.getElem_cons_zero, List.getElem_cons_succ]); go_simp; (try with_reducible rfl))
      (try simp only [Act.put, List.setIfInBounds_toArray, List.set_cons_zero, List.set_cons_succ, List.getElem_toArray, List.getElem_cons_zero, List.getElem_cons_succ])
      refine wpAnyH_ready (rs := [3]) (by kernel_rfl) (by simp) ?_
      refine AllReadyH.cons (o := _) rfl (fun K hK => ?_) AllReadyH.nil
      (try simp only [List.getElem_toArray, List.getElem_cons_zero, List.getElem_cons_succ])
      go_simp
      refine hK.out _ _ ?_ (fun hHeld => ?_)
      · exact rv
      clear hK K
      (try simp only [Act.put, List.setIfInBounds_toArray, List.set_cons_zero, List.set_cons_succ, List.getElem_toArray, List.getElem_cons_zero, List.getElem_cons_succ])
      refine wpAnyH_take (i := 7) (oi := _) (v := ?vd7) rfl (by kernel_rfl) (by kernel_rfl) (by kernel_rfl) (fun _ _ _ h => h) (Or.inl ⟨by rfl, ?hyd7⟩) (by assumption) ?restd7
      case hyd7 => (intro w hSw; (try dsimp only at hSw); (try simp only [List.getElem_toArray, List.getElem_cons_zero, List.getElem_cons_succ]); go_simp; (try with_reducible rfl))
      (try simp only [Act.put, List.setIfInBounds_toArray, List.set_cons_zero, List.set_cons_succ, List.getElem_toArray, List.getElem_cons_zero, List.getElem_cons_succ])
      refine wpAnyH_take (i := 8) (oi := _) (v := ?vd8) rfl (by kernel_rfl) (by kernel_rfl) (by kernel_rfl) (fun _ _ _ h => h) (Or.inl ⟨by rfl, ?hyd8⟩) (by assumption) ?restd8
      case hyd8 => (intro w hSw; (try dsimp only at hSw); (try simp only [List.getElem_toArray, List.getElem_cons_zero, List.getElem_cons_succ]); go_simp; (try with_reducible rfl))
      (try simp only [Act.put, List.setIfInBounds_toArray, List.set_cons_zero, List.set_cons_succ, List.getElem_toArray, List.getElem_cons_zero, List.getElem_cons_succ])
      refine wpAnyH_ready (rs := [9]) (by kernel_rfl) (by simp) ?_
      refine AllReadyH.cons (o := _) rfl (fun K hK => ?_) AllReadyH.nil
      (try simp only [List.getElem_toArray, List.getElem_cons_zero, List.getElem_cons_succ])
      go_simp
      refine hK.out _ _ ?_ (fun hHeld => ?_)
      · exact (World.cell?_setCell_other _ _ _ _ (by simp [hne])).trans rv
      clear hK K
      (try simp only [Act.put, List.setIfInBounds_toArray, List.set_cons_zero, List.set_cons_succ, List.getElem_toArray, List.getElem_cons_zero, List.getElem_cons_succ])
      refine wpAnyH_done (by kernel_rfl) ?_ _
      refine NoPanic.normal ?_
      go_wp2_with fail
      go_roundw
      case rel => exact ⟨k + 1, by omega, by go_num, HS.out, (HK8.out.own _ _).drew⟩
      case measure => simp [intOf]; omega
    · obtain rfl : k = 8 := by omega
      have HH9 : Hid (Tab wr 88 Bh 8 (hst.plus v).at) := HQ.out.congr fun i hi => by simp [partly, hi]
      go_wp2_with fail
      exact hexit _ _ _ _ _ _ _ _ _ _ _ _ _ _ wr HH9 HK8

set_option maxRecDepth 100000 in
set_option maxHeartbeats 6400000 in
theorem loop7 (Q0 : Exit → Act → World → Prop) (h : St) (Bh B : Nat) (wr : World) (c0 c1 c2 c4 c5 c6 c7 c8 c9 c10 c11 c12 c13 c14 c15 c16 c17 c20 c21 c22 c23 c24 c25 c26 c27 c28 c29 c30 c31 c32 c33 c34 c35 c36 c37 c38 c39 c40 c41 c42 c43 c44 c45 c46 c47 c48 c49 c50 c51 c52 c53 c54 c55 c56 c57 c58 c59 c60 c61 c62 c63 c64 c65 c66 c67 c68 c69 c70 c71 c72 c73 c74 c75 c76 c77 c78 c79 c80 c81 c82 c83 c84 c85 c86 c87 c88 c89 c90 c91 c92 c93 c94 c95 c96 c97 c98 c99 c100 c101 c102 c103 c104 c105 c106 c107 c108 c109 c110 c111 c112 c113 c114 c115 c116 c117 c118 c119 c120 c121 c122 c123 c124 c125 c126 c127 c128 c129 c130 c131 c132 c133 c134 c135 c136 c137 c138 c139 c140 c141 c142 c143 c144 c145 c146 c147 c148 c149 c150 c151 c152 c153 c154 c155 c156 c157 c158 c159 c160 c161 c162 c163 c164 c165 c166 c167 c168 c169 c170 c171 c172 c173 c174 c175 c176 c177 c178 c179 c180 c181 c182 c183 c184 c185 c186 c187 c188 c189 c190 c191 c192 c193 c194 c195 c196 c197 c198 c199 c200 c201 c202 c203 c204 c205 c206 c207 c208 c209 c210 c211 c212 c213 c214 c215 c216 c217 c218 c219 c220 c221 c222 c223 c224 c225 c226 c227 c228 c229 c230 c231 c232 c233 c234 c235 c236 c237 c238 c239 c240 c267 c268 : Value) (u241 u242 u243 u244 u245 u246 u247 u248 u249 u250 u251 u252 u253 u254 u255 u256 u257 u258 u259 u260 u261 u262 u263 u264 u265 u266 : Value)
    (HH : Hid (Tab wr 88 Bh 8 h.at))
    (hbl : Bh < B)
    (HBe : Hid (B = wr.heap.size))
    (hexit : ∀ (z18 z19 z241 z242 z243 z244 z245 z246 z247 z248 z249 z250 z251 z252 z253 z254 z255 z256 z257 z258 z259 z260 z261 z262 z263 z264 z265 z266 : Value) (w' : World), Hid (OwnB w' B z18 (outOf h)) → Hid (Below B wr w') → Q0 (.exit 12) ⟨List.toArray (c0 :: c1 :: c2 :: Value.pointer (some ⟨Bh, 0, none⟩) :: c4 :: c5 :: c6 :: c7 :: c8 :: c9 :: c10 :: c11 :: c12 :: c13 :: c14 :: c15 :: c16 :: c17 :: z18 :: z19 :: c20 :: c21 :: c22 :: c23 :: c24 :: c25 :: c26 :: c27 :: c28 :: c29 :: c30 :: c31 :: c32 :: c33 :: c34 :: c35 :: c36 :: c37 :: c38 :: c39 :: c40 :: c41 :: c42 :: c43 :: c44 :: c45 :: c46 :: c47 :: c48 :: c49 :: c50 :: c51 :: c52 :: c53 :: c54 :: c55 :: c56 :: c57 :: c58 :: c59 :: c60 :: c61 :: c62 :: c63 :: c64 :: c65 :: c66 :: c67 :: c68 :: c69 :: c70 :: c71 :: c72 :: c73 :: c74 :: c75 :: c76 :: c77 :: c78 :: c79 :: c80 :: c81 :: c82 :: c83 :: c84 :: c85 :: c86 :: c87 :: c88 :: c89 :: c90 :: c91 :: c92 :: c93 :: c94 :: c95 :: c96 :: c97 :: c98 :: c99 :: c100 :: c101 :: c102 :: c103 :: c104 :: c105 :: c106 :: c107 :: c108 :: c109 :: c110 :: c111 :: c112 :: c113 :: c114 :: c115 :: c116 :: c117 :: c118 :: c119 :: c120 :: c121 :: c122 :: c123 :: c124 :: c125 :: c126 :: c127 :: c128 :: c129 :: c130 :: c131 :: c132 :: c133 :: c134 :: c135 :: c136 :: c137 :: c138 :: c139 :: c140 :: c141 :: c142 :: c143 :: c144 :: c145 :: c146 :: c147 :: c148 :: c149 :: c150 :: c151 :: c152 :: c153 :: c154 :: c155 :: c156 :: c157 :: c158 :: c159 :: c160 :: c161 :: c162 :: c163 :: c164 :: c165 :: c166 :: c167 :: c168 :: c169 :: c170 :: c171 :: c172 :: c173 :: c174 :: c175 :: c176 :: c177 :: c178 :: c179 :: c180 :: c181 :: c182 :: c183 :: c184 :: c185 :: c186 :: c187 :: c188 :: c189 :: c190 :: c191 :: c192 :: c193 :: c194 :: c195 :: c196 :: c197 :: c198 :: c199 :: c200 :: c201 :: c202 :: c203 :: c204 :: c205 :: c206 :: c207 :: c208 :: c209 :: c210 :: c211 :: c212 :: c213 :: c214 :: c215 :: c216 :: c217 :: c218 :: c219 :: c220 :: c221 :: c222 :: c223 :: c224 :: c225 :: c226 :: c227 :: c228 :: c229 :: c230 :: c231 :: c232 :: c233 :: c234 :: c235 :: c236 :: c237 :: c238 :: c239 :: c240 :: z241 :: z242 :: z243 :: z244 :: z245 :: z246 :: z247 :: z248 :: z249 :: z250 :: z251 :: z252 :: z253 :: z254 :: z255 :: z256 :: z257 :: z258 :: z259 :: z260 :: z261 :: z262 :: z263 :: z264 :: z265 :: z266 :: c267 :: c268 :: ([] : List Value)), []⟩ w') :
    Code.wp Tryd.prog (Code.loop (loopN 6)) Q0 ⟨List.toArray (c0 :: c1 :: c2 :: Value.pointer (some ⟨Bh, 0, none⟩) :: c4 :: c5 :: c6 :: c7 :: c8 :: c9 :: c10 :: c11 :: c12 :: c13 :: c14 :: c15 :: c16 :: c17 :: Value.slice none 0 0 :: Value.int .i64 0 :: c20 :: c21 :: c22 :: c23 :: c24 :: c25 :: c26 :: c27 :: c28 :: c29 :: c30 :: c31 :: c32 :: c33 :: c34 :: c35 :: c36 :: c37 :: c38 :: c39 :: c40 :: c41 :: c42 :: c43 :: c44 :: c45 :: c46 :: c47 :: c48 :: c49 :: c50 :: c51 :: c52 :: c53 :: c54 :: c55 :: c56 :: c57 :: c58 :: c59 :: c60 :: c61 :: c62 :: c63 :: c64 :: c65 :: c66 :: c67 :: c68 :: c69 :: c70 :: c71 :: c72 :: c73 :: c74 :: c75 :: c76 :: c77 :: c78 :: c79 :: c80 :: c81 :: c82 :: c83 :: c84 :: c85 :: c86 :: c87 :: c88 :: c89 :: c90 :: c91 :: c92 :: c93 :: c94 :: c95 :: c96 :: c97 :: c98 :: c99 :: c100 :: c101 :: c102 :: c103 :: c104 :: c105 :: c106 :: c107 :: c108 :: c109 :: c110 :: c111 :: c112 :: c113 :: c114 :: c115 :: c116 :: c117 :: c118 :: c119 :: c120 :: c121 :: c122 :: c123 :: c124 :: c125 :: c126 :: c127 :: c128 :: c129 :: c130 :: c131 :: c132 :: c133 :: c134 :: c135 :: c136 :: c137 :: c138 :: c139 :: c140 :: c141 :: c142 :: c143 :: c144 :: c145 :: c146 :: c147 :: c148 :: c149 :: c150 :: c151 :: c152 :: c153 :: c154 :: c155 :: c156 :: c157 :: c158 :: c159 :: c160 :: c161 :: c162 :: c163 :: c164 :: c165 :: c166 :: c167 :: c168 :: c169 :: c170 :: c171 :: c172 :: c173 :: c174 :: c175 :: c176 :: c177 :: c178 :: c179 :: c180 :: c181 :: c182 :: c183 :: c184 :: c185 :: c186 :: c187 :: c188 :: c189 :: c190 :: c191 :: c192 :: c193 :: c194 :: c195 :: c196 :: c197 :: c198 :: c199 :: c200 :: c201 :: c202 :: c203 :: c204 :: c205 :: c206 :: c207 :: c208 :: c209 :: c210 :: c211 :: c212 :: c213 :: c214 :: c215 :: c216 :: c217 :: c218 :: c219 :: c220 :: c221 :: c222 :: c223 :: c224 :: c225 :: c226 :: c227 :: c228 :: c229 :: c230 :: c231 :: c232 :: c233 :: c234 :: c235 :: c236 :: c237 :: c238 :: c239 :: c240 :: u241 :: u242 :: u243 :: u244 :: u245 :: u246 :: u247 :: u248 :: u249 :: u250 :: u251 :: u252 :: u253 :: u254 :: u255 :: u256 :: u257 :: u258 :: u259 :: u260 :: u261 :: u262 :: u263 :: u264 :: u265 :: u266 :: c267 :: c268 :: ([] : List Value)), []⟩ wr := by
  unfold loopN
  conv => arg 2; arg 1; whnf
  obtain ⟨wo, rfl⟩ : ∃ wo : World, wo = wr := ⟨_, rfl⟩
  have hon := World.ownsRow_nil wo B 5 1
  obtain ⟨i0, hi, hz0, hz1, hzz2⟩ := info_parts byte_info
  go_loopw [18, 19] (fun v i wr => ∃ k : Nat, k ≤ 8 ∧ i = .int .i64 k ∧ Hid (OwnB wr B v (outK h k)) ∧ Hid (Below B wo wr)) (fun _ i _ => 8 - (intOf i).toNat)
  case atStart => exact ⟨0, by omega, rfl, hon, Below.refl _ _⟩
  case round =>
    obtain ⟨k, hk, rfl, HO, HBw⟩ := hrel
    obtain ⟨A1, c1, rfl, _⟩ := own_form HO.out
    by_cases hlt : k < 8
    · have hol := outK_len h k hk
      have hst := outK_step h k hlt
      have rk : wr.cell? ⟨Bh, k, none⟩ = some (.int .u32 (h.at k).n) := (HBw.out.cell (p := ⟨Bh, k, none⟩) hbl).trans (HH.out.cell hlt)
      have hHB : B ≤ wr.heap.size := by rw [HBe.out]; exact HBw.out.size
      have HST := Lib.hid hst
      have HOL := Lib.hid hol
      clear hst hol
      have hwx := Lib.hid (HH.out.cell hlt)
      generalize h.at k = x at rk HST hwx
      have hki : ((k : Nat) : Int) < 8 := by omega
      obtain ⟨y0, hy0⟩ : ∃ y0 : UInt8, y0 = UInt8.ofNat (x.nat >>> 24) := ⟨_, rfl⟩
      obtain ⟨y1, hy1⟩ : ∃ y1 : UInt8, y1 = UInt8.ofNat (x.nat >>> 16) := ⟨_, rfl⟩
      obtain ⟨y2, hy2⟩ : ∃ y2 : UInt8, y2 = UInt8.ofNat (x.nat >>> 8) := ⟨_, rfl⟩
      obtain ⟨y3, hy3⟩ : ∃ y3 : UInt8, y3 = UInt8.ofNat (x.nat >>> 0) := ⟨_, rfl⟩
      have e0 : x.n / 16777216 % 256 = (y0.toNat : Int) := by rw [hy0]; exact byte_of x 3
      have e1 : x.n / 65536 % 256 = (y1.toNat : Int) := by rw [hy1]; exact byte_of x 2
      have e2 : x.n / 256 % 256 = (y2.toNat : Int) := by rw [hy2]; exact byte_of x 1
      have e3 : x.n % 256 = (y3.toNat : Int) := by rw [hy3]; have := byte_of x 0; simpa using this
      have u0 : IntKind.u8.wrap (x.n / 16777216) = (y0.toNat : Int) := by rw [IntKind.wrap_u8']; exact e0
      have u1 : IntKind.u8.wrap (x.n / 65536) = (y1.toNat : Int) := by rw [IntKind.wrap_u8']; exact e1
      have u2 : IntKind.u8.wrap (x.n / 256) = (y2.toNat : Int) := by rw [IntKind.wrap_u8']; exact e2
      have u3 : IntKind.u8.wrap x.n = (y3.toNat : Int) := by rw [IntKind.wrap_u8']; exact e3
      have hyb : be x.nat 4 = [y0, y1, y2, y3] := by rw [hy0, hy1, hy2, hy3]; rfl
      have HYB := Lib.hid hyb
      have HIi := Lib.hid hi
      have HZ0 := Lib.hid hz0
      have HZ1 := Lib.hid hz1
      have HZ2 := Lib.hid hzz2
      clear hy0 hy1 hy2 hy3 hyb
      go_wp2_with fail
      refine wp_region_noPanic ?_
      refine wp_region_held_drew (S := fun w' => w'.cell? ⟨Bh, k, none⟩ = some (.int .u32 x.n)) (by kernel_rfl) rk (fun hHeld => ?_)
      refine wpAnyH_take (i := 0) (oi := _) (v := ?ve0) rfl (by kernel_rfl) (by kernel_rfl) (by kernel_rfl) (fun _ _ _ h => h) (Or.inl ⟨by rfl, ?hye0⟩) (by assumption) ?reste0
      case hye0 => (intro w hSw; (try dsimp only at hSw); (try simp only [List.getElem_toArray, List.getElem_cons_zero, List.getElem_cons_succ]); go_simp; (try with_reducible rfl))
      (try simp only [Act.put, List.setIfInBounds_toArray, List.set_cons_zero, List.set_cons_succ, List.getElem_toArray, List.getElem_cons_zero, List.getElem_cons_succ])
      refine wpAnyH_take (i := 1) (oi := _) (v := ?ve1) rfl (by kernel_rfl) (by kernel_rfl) (by kernel_rfl) (fun _ _ _ h => h) (Or.inl ⟨by rfl, ?hye1⟩) (by assumption) ?reste1
      case hye1 => (intro w hSw; (try dsimp only at hSw); (try simp only [List.getElem_toArray, List.getElem_cons_zero, List.getElem_cons_succ]); go_simp; (try with_reducible rfl))
      (try simp only [Act.put, List.setIfInBounds_toArray, List.set_cons_zero, List.set_cons_succ, List.getElem_toArray, List.getElem_cons_zero, List.getElem_cons_succ])
      refine wpAnyH_take (i := 2) (oi := _) (v := ?ve2) rfl (by kernel_rfl) (by kernel_rfl) (by kernel_rfl) (fun _ _ _ h => h) (Or.inl ⟨by rfl, ?hye2⟩) (by assumption) ?reste2
      case hye2 => (intro w hSw; (try dsimp only at hSw); (try simp only [List.getElem_toArray, List.getElem_cons_zero, List.getElem_cons_succ]); go_simp; (try with_reducible rfl))
      (try simp only [Act.put, List.setIfInBounds_toArray, List.set_cons_zero, List.set_cons_succ, List.getElem_toArray, List.getElem_cons_zero, List.getElem_cons_succ])
      refine wpAnyH_take (i := 3) (oi := _) (v := ?ve3) rfl (by kernel_rfl) (by kernel_rfl) (by kernel_rfl) (fun _ _ _ h => h) (Or.inl ⟨by rfl, ?hye3⟩) (by assumption) ?reste3
      case hye3 => (intro w hSw; (try dsimp only at hSw); (try simp only [List.getElem_toArray, List.getElem_cons_zero, List.getElem_cons_succ]); go_simp; (try with_reducible rfl))
      (try simp only [Act.put, List.setIfInBounds_toArray, List.set_cons_zero, List.set_cons_succ, List.getElem_toArray, List.getElem_cons_zero, List.getElem_cons_succ])
      refine wpAnyH_take (i := 4) (oi := _) (v := ?ve4) rfl (by kernel_rfl) (by kernel_rfl) (by kernel_rfl) (fun _ _ _ h => h) (Or.inl ⟨by rfl, ?hye4⟩) (by assumption) ?reste4
      case hye4 => (intro w hSw; (try dsimp only at hSw); (try simp only [List.getElem_toArray, List.getElem_cons_zero, List.getElem_cons_succ]); go_simp; (try with_reducible rfl))
      (try simp only [Act.put, List.setIfInBounds_toArray, List.set_cons_zero, List.set_cons_succ, List.getElem_toArray, List.getElem_cons_zero, List.getElem_cons_succ])
      refine wpAnyH_take (i := 5) (oi := _) (v := ?ve5) rfl (by kernel_rfl) (by kernel_rfl) (by kernel_rfl) (fun _ _ _ h => h) (Or.inl ⟨by rfl, ?hye5⟩) (by assumption) ?reste5
      case hye5 => (intro w hSw; (try dsimp only at hSw); (try simp only [List.getElem_toArray, List.getElem_cons_zero, List.getElem_cons_succ]); go_simp; (try with_reducible rfl))
      (try simp only [Act.put, List.setIfInBounds_toArray, List.set_cons_zero, List.set_cons_succ, List.getElem_toArray, List.getElem_cons_zero, List.getElem_cons_succ])
      refine wpAnyH_take (i := 6) (oi := _) (v := ?ve6) rfl (by kernel_rfl) (by kernel_rfl) (by kernel_rfl) (fun _ _ _ h => h) (Or.inl ⟨by rfl, ?hye6⟩) (by assumption) ?reste6
      case hye6 => (intro w hSw; (try dsimp only at hSw); (try simp only [List.getElem_toArray, List.getElem_cons_zero, List.getElem_cons_succ]); go_simp; (try with_reducible rfl))
      (try simp only [Act.put, List.setIfInBounds_toArray, List.set_cons_zero, List.set_cons_succ, List.getElem_toArray, List.getElem_cons_zero, List.getElem_cons_succ])
      refine wpAnyH_take (i := 7) (oi := _) (v := ?ve7) rfl (by kernel_rfl) (by kernel_rfl) (by kernel_rfl) (fun _ _ _ h => h) (Or.inl ⟨by rfl, ?hye7⟩) (by assumption) ?reste7
      case hye7 => (intro w hSw; (try dsimp only at hSw); (try simp only [List.getElem_toArray, List.getElem_cons_zero, List.getElem_cons_succ]); go_simp; (try with_reducible rfl))
      (try simp only [Act.put, List.setIfInBounds_toArray, List.set_cons_zero, List.set_cons_succ, List.getElem_toArray, List.getElem_cons_zero, List.getElem_cons_succ])
      refine wpAnyH_take (i := 8) (oi := _) (v := ?ve8) rfl (by kernel_rfl) (by kernel_rfl) (by kernel_rfl) (fun _ _ _ h => h) (Or.inl ⟨by rfl, ?hye8⟩) (by assumption) ?reste8
      case hye8 => (intro w hSw; (try dsimp only at hSw); (try simp only [List.getElem_toArray, List.getElem_cons_zero, List.getElem_cons_succ]); go_simp; (try with_reducible rfl))
      (try simp only [Act.put, List.setIfInBounds_toArray, List.set_cons_zero, List.set_cons_succ, List.getElem_toArray, List.getElem_cons_zero, List.getElem_cons_succ])
      refine wpAnyH_take (i := 9) (oi := _) (v := ?ve9) rfl (by kernel_rfl) (by kernel_rfl) (by kernel_rfl) (fun _ _ _ h => h) (Or.inl ⟨by rfl, ?hye9⟩) (by assumption) ?reste9
      case hye9 => (intro w hSw; (try dsimp only at hSw); (try simp only [List.getElem_toArray, List.getElem_cons_zero, List.getElem_cons_succ]); go_simp; (try with_reducible rfl))
      (try simp only [Act.put, List.setIfInBounds_toArray, List.set_cons_zero, List.set_cons_succ, List.getElem_toArray, List.getElem_cons_zero, List.getElem_cons_succ])
      refine wpAnyH_take (i := 10) (oi := _) (v := ?ve10) rfl (by kernel_rfl) (by kernel_rfl) (by kernel_rfl) (fun _ _ _ h => h) (Or.inl ⟨by rfl, ?hye10⟩) (by assumption) ?reste10
      case hye10 => (intro w hSw; (try dsimp only at hSw); (try simp only [List.getElem_toArray, List.getElem_cons_zero, List.getElem_cons_succ]); go_simp; (try with_reducible rfl))
      (try simp only [Act.put, List.setIfInBounds_toArray, List.set_cons_zero, List.set_cons_succ, List.getElem_toArray, List.getElem_cons_zero, List.getElem_cons_succ])
      refine wpAnyH_take (i := 11) (oi := _) (v := ?ve11) rfl (by kernel_rfl) (by kernel_rfl) (by kernel_rfl) (fun _ _ _ h => h) (Or.inl ⟨by rfl, ?hye11⟩) (by assumption) ?reste11
      case hye11 => (intro w hSw; (try dsimp only at hSw); (try simp only [List.getElem_toArray, List.getElem_cons_zero, List.getElem_cons_succ]); go_simp; (try with_reducible rfl))
      (try simp only [Act.put, List.setIfInBounds_toArray, List.set_cons_zero, List.set_cons_succ, List.getElem_toArray, List.getElem_cons_zero, List.getElem_cons_succ])
      refine wpAnyH_take (i := 12) (oi := _) (v := ?ve12) rfl (by kernel_rfl) (by kernel_rfl) (by kernel_rfl) (fun _ _ _ h => h) (Or.inl ⟨by rfl, ?hye12⟩) (by assumption) ?reste12
      case hye12 => (intro w hSw; (try dsimp only at hSw); (try simp only [List.getElem_toArray, List.getElem_cons_zero, List.getElem_cons_succ]); go_simp; (try with_reducible rfl))
      (try simp only [Act.put, List.setIfInBounds_toArray, List.set_cons_zero, List.set_cons_succ, List.getElem_toArray, List.getElem_cons_zero, List.getElem_cons_succ])
      refine wpAnyH_take (i := 13) (oi := _) (v := ?ve13) rfl (by kernel_rfl) (by kernel_rfl) (by kernel_rfl) (fun _ _ _ h => h) (Or.inl ⟨by rfl, ?hye13⟩) (by assumption) ?reste13
      case hye13 => (intro w hSw; (try dsimp only at hSw); (try simp only [List.getElem_toArray, List.getElem_cons_zero, List.getElem_cons_succ]); go_simp; (try with_reducible rfl))
      (try simp only [Act.put, List.setIfInBounds_toArray, List.set_cons_zero, List.set_cons_succ, List.getElem_toArray, List.getElem_cons_zero, List.getElem_cons_succ])
      refine wpAnyH_take (i := 14) (oi := _) (v := ?ve14) rfl (by kernel_rfl) (by kernel_rfl) (by kernel_rfl) (fun _ _ _ h => h) (Or.inl ⟨by rfl, ?hye14⟩) (by assumption) ?reste14
      case hye14 => (intro w hSw; (try dsimp only at hSw); (try simp only [List.getElem_toArray, List.getElem_cons_zero, List.getElem_cons_succ]); go_simp; (try with_reducible rfl))
      (try simp only [Act.put, List.setIfInBounds_toArray, List.set_cons_zero, List.set_cons_succ, List.getElem_toArray, List.getElem_cons_zero, List.getElem_cons_succ])
      refine wpAnyH_take (i := 15) (oi := _) (v := ?ve15) rfl (by kernel_rfl) (by kernel_rfl) (by kernel_rfl) (fun _ _ _ h => h) (Or.inl ⟨by rfl, ?hye15⟩) (by assumption) ?reste15
      case hye15 => (intro w hSw; (try dsimp only at hSw); (try simp only [List.getElem_toArray, List.getElem_cons_zero, List.getElem_cons_succ]); go_simp; (try with_reducible rfl))
      (try simp only [Act.put, List.setIfInBounds_toArray, List.set_cons_zero, List.set_cons_succ, List.getElem_toArray, List.getElem_cons_zero, List.getElem_cons_succ])
      refine wpAnyH_take (i := 16) (oi := _) (v := ?ve16) rfl (by kernel_rfl) (by kernel_rfl) (by kernel_rfl) (fun _ _ _ h => h) (Or.inl ⟨by rfl, ?hye16⟩) (by assumption) ?reste16
      case hye16 => (intro w hSw; (try dsimp only at hSw); (try simp only [List.getElem_toArray, List.getElem_cons_zero, List.getElem_cons_succ]); go_simp; (try with_reducible rfl))
      (try simp only [Act.put, List.setIfInBounds_toArray, List.set_cons_zero, List.set_cons_succ, List.getElem_toArray, List.getElem_cons_zero, List.getElem_cons_succ])
      refine wpAnyH_take (i := 17) (oi := _) (v := ?ve17) rfl (by kernel_rfl) (by kernel_rfl) (by kernel_rfl) (fun _ _ _ h => h) (Or.inl ⟨by rfl, ?hye17⟩) (by assumption) ?reste17
      case hye17 => (intro w hSw; (try dsimp only at hSw); (try simp only [List.getElem_toArray, List.getElem_cons_zero, List.getElem_cons_succ]); go_simp; (try with_reducible rfl))
      (try simp only [Act.put, List.setIfInBounds_toArray, List.set_cons_zero, List.set_cons_succ, List.getElem_toArray, List.getElem_cons_zero, List.getElem_cons_succ])
      refine wpAnyH_take (i := 18) (oi := _) (v := ?ve18) rfl (by kernel_rfl) (by kernel_rfl) (by kernel_rfl) (fun _ _ _ h => h) (Or.inl ⟨by rfl, ?hye18⟩) (by assumption) ?reste18
      case hye18 => (intro w hSw; (try dsimp only at hSw); (try simp only [List.getElem_toArray, List.getElem_cons_zero, List.getElem_cons_succ]); go_simp; (try with_reducible rfl))
      (try simp only [Act.put, List.setIfInBounds_toArray, List.set_cons_zero, List.set_cons_succ, List.getElem_toArray, List.getElem_cons_zero, List.getElem_cons_succ])
      refine wpAnyH_take (i := 19) (oi := _) (v := ?ve19) rfl (by kernel_rfl) (by kernel_rfl) (by kernel_rfl) (fun _ _ _ h => h) (Or.inl ⟨by rfl, ?hye19⟩) (by assumption) ?reste19
      case hye19 => (intro w hSw; (try dsimp only at hSw); (try simp only [List.getElem_toArray, List.getElem_cons_zero, List.getElem_cons_succ]); go_simp; (try with_reducible rfl))
      (try simp only [Act.put, List.setIfInBounds_toArray, List.set_cons_zero, List.set_cons_succ, List.getElem_toArray, List.getElem_cons_zero, List.getElem_cons_succ])
      refine wpAnyH_ready (rs := [20]) (by kernel_rfl) (by simp) ?_
      refine AllReadyH.cons (o := _) rfl (fun K hK => ?_) AllReadyH.nil
      (try simp only [List.getElem_toArray, List.getElem_cons_zero, List.getElem_cons_succ])
      go_simp
      refine hK.out _ _ ?_ (fun hHeld => ?_)
      · exact (((Keep.refl (fun _ => False) wr).alloc _).cell (p := ⟨Bh, k, none⟩) (show Bh < wr.heap.size by omega) (fun x => x)).trans rk
      clear hK K
      (try simp only [Act.put, List.setIfInBounds_toArray, List.set_cons_zero, List.set_cons_succ, List.getElem_toArray, List.getElem_cons_zero, List.getElem_cons_succ])
      refine wpAnyH_ready (rs := [21]) (by kernel_rfl) (by simp) ?_
      refine AllReadyH.cons (o := _) rfl (fun K hK => ?_) AllReadyH.nil
      (try simp only [List.getElem_toArray, List.getElem_cons_zero, List.getElem_cons_succ])
      (rw [if_pos (by rfl)]; refine wp_append_own _ (.tmp 245) (.tmp 265) 59 rfl B 5 i0 (.int .u8 0) 1 1 Tryd.underlying59 HIi.out HZ0.out HZ1.out HZ2.out rfl (by decide) (.slice A1 (outK h k).length c1) (outK h k).length (Lib.byteCells (outK h k)) rfl (HO.out.alloc _) ⟨wr.heap.size, 0, none⟩ 4 4 [.int .u8 y0.toNat, .int .u8 y1.toNat, .int .u8 y2.toNat, .int .u8 y3.toNat] rfl rfl (four_new _ _ _ _ _ _) (by intro u hu; simp at hu; rcases hu with rfl | rfl | rfl | rfl <;> rfl) (by rw [HOL.out]; unfold maxLen; omega) (by rw [HOL.out]; omega) (by simp; omega) ?_; intro v' w1 hown' hgrow _; have HO2 : Hid (OwnB w1 B v' (outK h k ++ [y0, y1, y2, y3])) := (by show World.ownsRow _ _ _ _ _ _ _; rw [List.length_append]; have e : Lib.byteCells (outK h k ++ [y0, y1, y2, y3]) = Lib.byteCells (outK h k) ++ [.int .u8 y0.toNat, .int .u8 y1.toNat, .int .u8 y2.toNat, .int .u8 y3.toNat] := (by simp [Lib.byteCells]); rw [e]; exact hown'); have HB2 : Hid (Below B wo w1) := HBw.out.trans ((((Below.refl _ _).drew).alloc hHB _).grown hgrow (by simp; omega) (fun k hk => (World.ownsRow.lt HO.out k (by simpa [Value.ownBlock] using hk)).1)); clear hown' hgrow)
      refine hK.out _ _ ?_ (fun hHeld => ?_)
      · exact (HB2.out.cell (p := ⟨Bh, k, none⟩) hbl).trans hwx.out
      clear hK K
      (try simp only [Act.put, List.setIfInBounds_toArray, List.set_cons_zero, List.set_cons_succ, List.getElem_toArray, List.getElem_cons_zero, List.getElem_cons_succ])
      refine wpAnyH_take (i := 22) (oi := _) (v := ?ve22) rfl (by kernel_rfl) (by kernel_rfl) (by kernel_rfl) (fun _ _ _ h => h) (Or.inl ⟨by rfl, ?hye22⟩) (by assumption) ?reste22
      case hye22 => (intro w hSw; (try dsimp only at hSw); (try simp only [List.getElem_toArray, List.getElem_cons_zero, List.getElem_cons_succ]); go_simp; (try with_reducible rfl))
      (try simp only [Act.put, List.setIfInBounds_toArray, List.set_cons_zero, List.set_cons_succ, List.getElem_toArray, List.getElem_cons_zero, List.getElem_cons_succ])
      refine wpAnyH_done (by kernel_rfl) ?_ _
      refine NoPanic.normal ?_
      go_wp2_with fail
      go_roundw
      case rel => exact ⟨k + 1, by omega, by go_num, by rw [HST.out, HYB.out]; exact HO2.out, HB2.out⟩
      case measure => simp [intOf]; omega
    · obtain rfl : k = 8 := by omega
      go_wp2_with fail
      exact hexit _ _ _ _ _ _ _ _ _ _ _ _ _ _ _ _ _ _ _ _ _ _ _ _ _ _ _ _ wr HO HBw

end Go.Proofs.YtncpjapfkcgjnaaDoor
namespace Go.Proofs.YtncpjapfkcgjnaaDoor
set_option linter.unusedVariables false
set_option linter.unusedSimpArgs false
open Go.RowKit

set_option maxRecDepth 100000 in
set_option maxHeartbeats 6400000 in
theorem loop2 (Q0 : Exit → Act → World → Prop) (Q : ByteArray) (pl : List UInt8) (Bh Bk Bw : Nat) (f0 : Nat → Wd) (wr : World) (c1 c2 c5 c6 c18 c19 c20 c21 c22 c23 c24 c25 c26 c27 c28 c29 c30 c31 c32 c33 c34 c35 c36 c37 c38 c39 c40 c41 c42 c43 c44 c45 c46 c47 c241 c242 c243 c244 c245 c246 c247 c248 c249 c250 c251 c252 c253 c254 c255 c256 c257 c258 c259 c260 c261 c262 c263 c264 c265 c266 c267 c268 : Value) (u9 u10 u11 u12 u13 u14 u15 u16 u17 u48 u49 u50 u51 u52 u53 u54 u55 u56 u57 u58 u59 u60 u61 u62 u63 u64 u65 u66 u67 u68 u69 u70 u71 u72 u73 u74 u75 u76 u77 u78 u79 u80 u81 u82 u83 u84 u85 u86 u87 u88 u89 u90 u91 u92 u93 u94 u95 u96 u97 u98 u99 u100 u101 u102 u103 u104 u105 u106 u107 u108 u109 u110 u111 u112 u113 u114 u115 u116 u117 u118 u119 u120 u121 u122 u123 u124 u125 u126 u127 u128 u129 u130 u131 u132 u133 u134 u135 u136 u137 u138 u139 u140 u141 u142 u143 u144 u145 u146 u147 u148 u149 u150 u151 u152 u153 u154 u155 u156 u157 u158 u159 u160 u161 u162 u163 u164 u165 u166 u167 u168 u169 u170 u171 u172 u173 u174 u175 u176 u177 u178 u179 u180 u181 u182 u183 u184 u185 u186 u187 u188 u189 u190 u191 u192 u193 u194 u195 u196 u197 u198 u199 u200 u201 u202 u203 u204 u205 u206 u207 u208 u209 u210 u211 u212 u213 u214 u215 u216 u217 u218 u219 u220 u221 u222 u223 u224 u225 u226 u227 u228 u229 u230 u231 u232 u233 u234 u235 u236 u237 u238 u239 u240 : Value)
    (HPP : Hid (Q.data.toList = pl))
    (hP64 : Q.size % 64 = 0)
    (hQz : Q.size ≤ 100200)
    (HTH3 : Hid (Tab wr 88 Bh 8 st0.at))
    (HTK3 : Hid (Tab wr 87 Bk 64 kAt))
    (HTW : Hid (Tab wr 91 Bw 64 f0))
    (hlt : Bh < Bk)
    (hBkw : Bk < Bw)
    (hexit : ∀ (z8 z9 z10 z11 z12 z13 z14 z15 z16 z17 z48 z49 z50 z51 z52 z53 z54 z55 z56 z57 z58 z59 z60 z61 z62 z63 z64 z65 z66 z67 z68 z69 z70 z71 z72 z73 z74 z75 z76 z77 z78 z79 z80 z81 z82 z83 z84 z85 z86 z87 z88 z89 z90 z91 z92 z93 z94 z95 z96 z97 z98 z99 z100 z101 z102 z103 z104 z105 z106 z107 z108 z109 z110 z111 z112 z113 z114 z115 z116 z117 z118 z119 z120 z121 z122 z123 z124 z125 z126 z127 z128 z129 z130 z131 z132 z133 z134 z135 z136 z137 z138 z139 z140 z141 z142 z143 z144 z145 z146 z147 z148 z149 z150 z151 z152 z153 z154 z155 z156 z157 z158 z159 z160 z161 z162 z163 z164 z165 z166 z167 z168 z169 z170 z171 z172 z173 z174 z175 z176 z177 z178 z179 z180 z181 z182 z183 z184 z185 z186 z187 z188 z189 z190 z191 z192 z193 z194 z195 z196 z197 z198 z199 z200 z201 z202 z203 z204 z205 z206 z207 z208 z209 z210 z211 z212 z213 z214 z215 z216 z217 z218 z219 z220 z221 z222 z223 z224 z225 z226 z227 z228 z229 z230 z231 z232 z233 z234 z235 z236 z237 z238 z239 z240 : Value) (w' : World), Hid (Tab w' 88 Bh 8 (run pl (Q.size / 64)).at) → Hid (Keep (fun k => k = Bh ∨ k = Bw) wr w') → Q0 (.exit 2) ⟨List.toArray (Value.string Q :: c1 :: c2 :: Value.pointer (some ⟨Bh, 0, none⟩) :: Value.slice (some ⟨Bk, 0, none⟩) 64 64 :: c5 :: c6 :: Value.pointer (some ⟨Bw, 0, none⟩) :: z8 :: z9 :: z10 :: z11 :: z12 :: z13 :: z14 :: z15 :: z16 :: z17 :: c18 :: c19 :: c20 :: c21 :: c22 :: c23 :: c24 :: c25 :: c26 :: c27 :: c28 :: c29 :: c30 :: c31 :: c32 :: c33 :: c34 :: c35 :: c36 :: c37 :: c38 :: c39 :: c40 :: c41 :: c42 :: c43 :: c44 :: c45 :: c46 :: c47 :: z48 :: z49 :: z50 :: z51 :: z52 :: z53 :: z54 :: z55 :: z56 :: z57 :: z58 :: z59 :: z60 :: z61 :: z62 :: z63 :: z64 :: z65 :: z66 :: z67 :: z68 :: z69 :: z70 :: z71 :: z72 :: z73 :: z74 :: z75 :: z76 :: z77 :: z78 :: z79 :: z80 :: z81 :: z82 :: z83 :: z84 :: z85 :: z86 :: z87 :: z88 :: z89 :: z90 :: z91 :: z92 :: z93 :: z94 :: z95 :: z96 :: z97 :: z98 :: z99 :: z100 :: z101 :: z102 :: z103 :: z104 :: z105 :: z106 :: z107 :: z108 :: z109 :: z110 :: z111 :: z112 :: z113 :: z114 :: z115 :: z116 :: z117 :: z118 :: z119 :: z120 :: z121 :: z122 :: z123 :: z124 :: z125 :: z126 :: z127 :: z128 :: z129 :: z130 :: z131 :: z132 :: z133 :: z134 :: z135 :: z136 :: z137 :: z138 :: z139 :: z140 :: z141 :: z142 :: z143 :: z144 :: z145 :: z146 :: z147 :: z148 :: z149 :: z150 :: z151 :: z152 :: z153 :: z154 :: z155 :: z156 :: z157 :: z158 :: z159 :: z160 :: z161 :: z162 :: z163 :: z164 :: z165 :: z166 :: z167 :: z168 :: z169 :: z170 :: z171 :: z172 :: z173 :: z174 :: z175 :: z176 :: z177 :: z178 :: z179 :: z180 :: z181 :: z182 :: z183 :: z184 :: z185 :: z186 :: z187 :: z188 :: z189 :: z190 :: z191 :: z192 :: z193 :: z194 :: z195 :: z196 :: z197 :: z198 :: z199 :: z200 :: z201 :: z202 :: z203 :: z204 :: z205 :: z206 :: z207 :: z208 :: z209 :: z210 :: z211 :: z212 :: z213 :: z214 :: z215 :: z216 :: z217 :: z218 :: z219 :: z220 :: z221 :: z222 :: z223 :: z224 :: z225 :: z226 :: z227 :: z228 :: z229 :: z230 :: z231 :: z232 :: z233 :: z234 :: z235 :: z236 :: z237 :: z238 :: z239 :: z240 :: c241 :: c242 :: c243 :: c244 :: c245 :: c246 :: c247 :: c248 :: c249 :: c250 :: c251 :: c252 :: c253 :: c254 :: c255 :: c256 :: c257 :: c258 :: c259 :: c260 :: c261 :: c262 :: c263 :: c264 :: c265 :: c266 :: c267 :: c268 :: ([] : List Value)), []⟩ w') :
    Code.wp Tryd.prog (Code.loop (loopN 1)) Q0 ⟨List.toArray (Value.string Q :: c1 :: c2 :: Value.pointer (some ⟨Bh, 0, none⟩) :: Value.slice (some ⟨Bk, 0, none⟩) 64 64 :: c5 :: c6 :: Value.pointer (some ⟨Bw, 0, none⟩) :: Value.int .i64 0 :: u9 :: u10 :: u11 :: u12 :: u13 :: u14 :: u15 :: u16 :: u17 :: c18 :: c19 :: c20 :: c21 :: c22 :: c23 :: c24 :: c25 :: c26 :: c27 :: c28 :: c29 :: c30 :: c31 :: c32 :: c33 :: c34 :: c35 :: c36 :: c37 :: c38 :: c39 :: c40 :: c41 :: c42 :: c43 :: c44 :: c45 :: c46 :: c47 :: u48 :: u49 :: u50 :: u51 :: u52 :: u53 :: u54 :: u55 :: u56 :: u57 :: u58 :: u59 :: u60 :: u61 :: u62 :: u63 :: u64 :: u65 :: u66 :: u67 :: u68 :: u69 :: u70 :: u71 :: u72 :: u73 :: u74 :: u75 :: u76 :: u77 :: u78 :: u79 :: u80 :: u81 :: u82 :: u83 :: u84 :: u85 :: u86 :: u87 :: u88 :: u89 :: u90 :: u91 :: u92 :: u93 :: u94 :: u95 :: u96 :: u97 :: u98 :: u99 :: u100 :: u101 :: u102 :: u103 :: u104 :: u105 :: u106 :: u107 :: u108 :: u109 :: u110 :: u111 :: u112 :: u113 :: u114 :: u115 :: u116 :: u117 :: u118 :: u119 :: u120 :: u121 :: u122 :: u123 :: u124 :: u125 :: u126 :: u127 :: u128 :: u129 :: u130 :: u131 :: u132 :: u133 :: u134 :: u135 :: u136 :: u137 :: u138 :: u139 :: u140 :: u141 :: u142 :: u143 :: u144 :: u145 :: u146 :: u147 :: u148 :: u149 :: u150 :: u151 :: u152 :: u153 :: u154 :: u155 :: u156 :: u157 :: u158 :: u159 :: u160 :: u161 :: u162 :: u163 :: u164 :: u165 :: u166 :: u167 :: u168 :: u169 :: u170 :: u171 :: u172 :: u173 :: u174 :: u175 :: u176 :: u177 :: u178 :: u179 :: u180 :: u181 :: u182 :: u183 :: u184 :: u185 :: u186 :: u187 :: u188 :: u189 :: u190 :: u191 :: u192 :: u193 :: u194 :: u195 :: u196 :: u197 :: u198 :: u199 :: u200 :: u201 :: u202 :: u203 :: u204 :: u205 :: u206 :: u207 :: u208 :: u209 :: u210 :: u211 :: u212 :: u213 :: u214 :: u215 :: u216 :: u217 :: u218 :: u219 :: u220 :: u221 :: u222 :: u223 :: u224 :: u225 :: u226 :: u227 :: u228 :: u229 :: u230 :: u231 :: u232 :: u233 :: u234 :: u235 :: u236 :: u237 :: u238 :: u239 :: u240 :: c241 :: c242 :: c243 :: c244 :: c245 :: c246 :: c247 :: c248 :: c249 :: c250 :: c251 :: c252 :: c253 :: c254 :: c255 :: c256 :: c257 :: c258 :: c259 :: c260 :: c261 :: c262 :: c263 :: c264 :: c265 :: c266 :: c267 :: c268 :: ([] : List Value)), []⟩ wr := by
  unfold loopN
  conv => arg 2; arg 1; whnf
  obtain ⟨wz, rfl⟩ : ∃ wz : World, wz = wr := ⟨_, rfl⟩
  go_loopw [8] (fun i wr => ∃ (a : Nat) (f : Nat → Wd), a % 64 = 0 ∧ a ≤ Q.size ∧ i = .int .i64 a ∧ Hid (Tab wr 88 Bh 8 (run pl (a / 64)).at) ∧ Hid (Tab wr 91 Bw 64 f) ∧ Hid (Keep (fun k => k = Bh ∨ k = Bw) wz wr)) (fun i _ => Q.size - (intOf i).toNat)
  case atStart => exact ⟨0, _, rfl, by omega, rfl, HTH3, HTW, Keep.refl _ _⟩
  case round =>
    obtain ⟨a, f, ha, haq, rfl, HH, HW, HK⟩ := hrel
    have HKk := Lib.hid (HTK3.out.keep HK.out (by rintro (e | e) <;> omega))
    obtain ⟨wo, rfl⟩ : ∃ wo : World, wo = wr := ⟨_, rfl⟩
    by_cases hal : a < Q.size
    · have ha64 : a + 64 ≤ Q.size := by omega
      obtain ⟨blk, hblk⟩ : ∃ blk, blk = blockAt pl (a / 64) := ⟨_, rfl⟩
      have hbyte : ∀ j, j < 64 → ∃ x, Q[a + j]? = some x ∧ blk[j]? = some x := fun j hj => by
        have hq : a + j < Q.size := by omega
        refine ⟨Q[a + j], by simp [hq], ?_⟩
        rw [hblk, ← HPP.out]
        unfold blockAt
        rw [List.getElem?_take, if_pos hj, List.getElem?_drop, show 64 * (a / 64) + j = a + j from by omega]
        rw [List.getElem?_eq_getElem (by rw [← Lib.size_eq]; exact hq)]
        rfl
      have HY := Lib.hid hbyte
      obtain ⟨hst, hhst⟩ : ∃ hst, hst = run pl (a / 64) := ⟨_, rfl⟩
      rw [← hhst] at HH
      have hmx : run pl ((a + 64) / 64) = mixed hst blk := by
        rw [show (a + 64) / 64 = a / 64 + 1 from by omega, hhst, hblk]; rfl
      have HMX := Lib.hid hmx
      obtain ⟨X, hX⟩ : ∃ X, X = (wcells (tabL 8 hst.at)).toArray := ⟨_, rfl⟩
      have hXs : X.size = 8 := by rw [hX, List.size_toArray, wcells_length, tabL_len]
      have hi8 : (Tryd.prog.info? 88).map (·.size) = some X.size := by rw [state_info, hXs]
      have hX1 : X.all (·.oneCell') = true := by rw [hX]; exact wcells_one _
      have hsl : (Tryd.prog.info? 88).map (·.size) = some (wcells (tabL 8 hst.at)).length := by rw [state_info, wcells_length, tabL_len]
      have HXX := Lib.hid hX
      have HXS := Lib.hid hXs
      have HI8 := Lib.hid hi8
      have HX1 := Lib.hid hX1
      have HSL := Lib.hid hsl
      clear hblk hbyte hhst hmx hX hXs hi8 hX1 hsl hexit
      go_wp2_with fail
      refine loop3 _ Q blk a Bw f _ _ _ _ _ _ _ _ _ _ _ _ _ _ _ _ _ _ _ _ _ _ _ _ _ _ _ _ _ _ _ _ _ _ _ _ _ _ _ _ _ _ _ _ _ _ _ _ _ _ _ _ _ _ _ _ _ _ _ _ _ _ _ _ _ _ _ _ _ _ _ _ _ _ _ _ _ _ _ _ _ _ _ _ _ _ _ _ _ _ _ _ _ _ _ _ _ _ _ _ _ _ _ _ _ _ _ _ _ _ _ _ _ _ _ _ _ _ _ _ _ _ _ _ _ _ _ _ _ _ _ _ _ _ _ _ _ _ _ _ _ _ _ _ _ _ _ _ _ _ _ _ _ _ _ _ _ _ _ _ _ _ _ _ _ _ _ _ _ _ _ _ _ _ _ _ _ _ _ _ _ _ _ _ _ _ _ _ _ _ _ _ _ _ _ _ _ _ _ _ _ _ _ _ _ _ _ _ _ _ _ _ _ _ _ _ _ _ _ _ _ _ _ _ _ _ _ _ _ _ _ _ _ _ _ _ _ _ _ _ _ _ _ _ _ _ _ _ _ _ _ _ _ _ _ _ _ _ _ _ _ _ _ _ _ _ HY ha64 hQz HW ?_
      intro _ _ _ _ _ _ _ _ _ _ _ _ _ _ _ _ _ _ _ _ _ _ _ _ _ _ _ _ _ _ _ _ _ _ _ _ _ _ _ _ _ _ _ _ w3 f3 HF3 HT3 HK3
      clear HY HW
      go_wp2_with fail
      refine loop4 _ blk Bw f3 _ _ _ _ _ _ _ _ _ _ _ _ _ _ _ _ _ _ _ _ _ _ _ _ _ _ _ _ _ _ _ _ _ _ _ _ _ _ _ _ _ _ _ _ _ _ _ _ _ _ _ _ _ _ _ _ _ _ _ _ _ _ _ _ _ _ _ _ _ _ _ _ _ _ _ _ _ _ _ _ _ _ _ _ _ _ _ _ _ _ _ _ _ _ _ _ _ _ _ _ _ _ _ _ _ _ _ _ _ _ _ _ _ _ _ _ _ _ _ _ _ _ _ _ _ _ _ _ _ _ _ _ _ _ _ _ _ _ _ _ _ _ _ _ _ _ _ _ _ _ _ _ _ _ _ _ _ _ _ _ _ _ _ _ _ _ _ _ _ _ _ _ _ _ _ _ _ _ _ _ _ _ _ _ _ _ _ _ _ _ _ _ _ _ _ _ _ _ _ _ _ _ _ _ _ _ _ _ _ _ _ _ _ _ _ _ _ _ _ _ _ _ _ _ _ _ _ _ _ _ _ _ _ _ _ _ _ _ _ _ _ _ _ _ _ _ _ _ _ _ _ _ _ _ _ _ _ _ _ _ _ _ _ _ _ _ _ _ HF3 HT3 ?_
      intro _ _ _ _ _ _ _ _ _ _ _ _ _ _ _ _ _ _ _ _ _ _ _ _ _ _ _ _ _ _ _ _ _ _ _ _ _ _ _ _ _ _ _ _ wp HT4 HK4
      have HHp : Hid (Tab wp 88 Bh 8 hst.at) := (HH.out.keep HK3.out (by omega)).keep HK4.out (by omega)
      have HKp := Lib.hid ((HKk.out.keep HK3.out (by omega)).keep HK4.out (by omega))
      have HKo : Hid (Keep (fun k => k = Bh ∨ k = Bw) wz wp) := (HK.out.trans HK3.out (fun _ _ e => .inr e)).trans HK4.out (fun _ _ e => .inr e)
      clear HF3 HT3 HK3 HK4 HH HK HKk
      go_wp2_with (first
        | (refine wpList_load_mid rfl 88 (.tmp 3) rfl Bh 0 rfl (wcells (tabL 8 hst.at)) _ HHp.out.range Tryd.underlying88 rfl HSL.out ?_; rw [← HXX.out])
        | (refine wpList_store_row rfl 88 (.tmp 13) (.tmp 138) rfl wp.heap.size 88 _ X rfl rfl (heap_alloc_new _ _) HI8.out (by rw [HXS.out]; rfl) HX1.out ?_; rw [World.setRow_alloc_new]))
      obtain ⟨Bv, hBv⟩ : ∃ Bv, Bv = wp.heap.size := ⟨_, rfl⟩
      obtain ⟨w6, hw6⟩ : ∃ w6, w6 = wp.alloc (.cells X 88) := ⟨_, rfl⟩
      have hb6 : Below wp.heap.size wp w6 := by rw [hw6]; exact (Below.refl _ _).alloc (Nat.le_refl _) _
      have HTv : Hid (Tab w6 88 Bv 8 hst.at) := by
        show Tab _ _ _ _ _
        unfold Tab
        rw [hw6, hBv, heap_alloc_new, HXX.out]
      have HTw6 := Lib.hid (HT4.out.below hb6)
      have HHw6 := Lib.hid (HHp.out.below hb6)
      have HKw6 := Lib.hid (HKp.out.below hb6)
      have HK6 : Hid (Keep (fun k => k = Bh ∨ k = Bw) wz w6) := HKo.out.trans (Keep.of_below (fun _ => False) hb6) (fun _ _ e => e.elim)
      have hvw : Bw < Bv := by rw [hBv]; exact HT4.out.lt
      have hvz : wz.heap.size ≤ Bv := by rw [hBv]; exact HKo.out.size
      rw [← hBv, ← hw6]
      clear hb6 hw6 hBv HXX HXS HI8 HX1 HSL HT4 HHp HKp HKo
      refine loop5 _ blk hst Bw Bk Bv _ _ _ _ _ _ _ _ _ _ _ _ _ _ _ _ _ _ _ _ _ _ _ _ _ _ _ _ _ _ _ _ _ _ _ _ _ _ _ _ _ _ _ _ _ _ _ _ _ _ _ _ _ _ _ _ _ _ _ _ _ _ _ _ _ _ _ _ _ _ _ _ _ _ _ _ _ _ _ _ _ _ _ _ _ _ _ _ _ _ _ _ _ _ _ _ _ _ _ _ _ _ _ _ _ _ _ _ _ _ _ _ _ _ _ _ _ _ _ _ _ _ _ _ _ _ _ _ _ _ _ _ _ _ _ _ _ _ _ _ _ _ _ _ _ _ _ _ _ _ _ _ _ _ _ _ _ _ _ _ _ _ _ _ _ _ _ _ _ _ _ _ _ _ _ _ _ _ _ _ _ _ _ _ _ _ _ _ _ _ _ _ _ _ _ _ _ _ _ _ _ _ _ _ _ _ _ _ _ _ _ _ _ _ _ _ _ _ _ _ _ _ _ _ _ _ _ _ _ _ _ _ _ _ _ _ _ _ _ _ _ _ _ _ _ _ _ _ _ _ _ _ _ _ _ _ _ _ _ _ _ _ _ _ _ _ HTv HTw6 HKw6 hvw (by omega) ?_
      intro _ _ _ _ _ _ _ _ _ _ _ _ _ _ _ _ _ _ _ _ _ _ _ _ _ _ _ _ _ _ _ _ _ _ _ _ _ _ _ _ _ _ _ _ _ _ _ _ _ _ _ _ _ _ _ _ _ _ _ _ _ _ _ _ _ _ _ _ _ _ _ _ _ _ _ _ _ _ _ _ _ _ _ _ _ _ _ _ _ _ _ _ w7 HV7 HK5
      have HH7 := Lib.hid (HHw6.out.keep HK5.out (by omega))
      have HW7 := Lib.hid (HTw6.out.keep HK5.out (by omega))
      have HK7 : Hid (Keep (fun k => k = Bh ∨ k = Bw) wz w7) := HK6.out.trans HK5.out (fun i hi e => by omega)
      clear HTv HTw6 HHw6 HKw6 HK6 HK5
      go_wp2_with fail
      refine loop6 _ hst (rounds hst blk 64) Bh Bv _ _ _ _ _ _ _ _ _ _ _ _ _ _ _ _ _ _ _ _ _ _ _ _ _ _ _ _ _ _ _ _ _ _ _ _ _ _ _ _ _ _ _ _ _ _ _ _ _ _ _ _ _ _ _ _ _ _ _ _ _ _ _ _ _ _ _ _ _ _ _ _ _ _ _ _ _ _ _ _ _ _ _ _ _ _ _ _ _ _ _ _ _ _ _ _ _ _ _ _ _ _ _ _ _ _ _ _ _ _ _ _ _ _ _ _ _ _ _ _ _ _ _ _ _ _ _ _ _ _ _ _ _ _ _ _ _ _ _ _ _ _ _ _ _ _ _ _ _ _ _ _ _ _ _ _ _ _ _ _ _ _ _ _ _ _ _ _ _ _ _ _ _ _ _ _ _ _ _ _ _ _ _ _ _ _ _ _ _ _ _ _ _ _ _ _ _ _ _ _ _ _ _ _ _ _ _ _ _ _ _ _ _ _ _ _ _ _ _ _ _ _ _ _ _ _ _ _ _ _ _ _ _ _ _ _ _ _ _ _ _ _ _ _ _ _ _ _ _ _ _ _ _ _ _ _ _ _ _ _ _ _ _ _ _ _ _ HV7 HH7 (by omega) ?_
      intro _ _ _ _ _ _ _ _ _ _ _ _ _ _ w8 HH8 HK8
      have HH9 : Hid (Tab w8 88 Bh 8 (run pl ((a + 64) / 64)).at) := by
        show Tab _ _ _ _ _
        rw [HMX.out]; exact HH8.out
      have HW9 := Lib.hid (HW7.out.keep HK8.out (by omega))
      have HK9 : Hid (Keep (fun k => k = Bh ∨ k = Bw) wz w8) := HK7.out.trans HK8.out (fun _ _ e => .inl e)
      clear HH8 HH7 HW7 HK7 HK8 HMX HV7
      go_wp2_with fail
      go_roundw
      case rel => exact ⟨a + 64, _, by omega, by omega, by go_num, HH9, HW9, HK9⟩
      case measure => simp [intOf]; omega
    · obtain rfl : a = Q.size := by omega
      go_wp2_with fail
      exact hexit _ _ _ _ _ _ _ _ _ _ _ _ _ _ _ _ _ _ _ _ _ _ _ _ _ _ _ _ _ _ _ _ _ _ _ _ _ _ _ _ _ _ _ _ _ _ _ _ _ _ _ _ _ _ _ _ _ _ _ _ _ _ _ _ _ _ _ _ _ _ _ _ _ _ _ _ _ _ _ _ _ _ _ _ _ _ _ _ _ _ _ _ _ _ _ _ _ _ _ _ _ _ _ _ _ _ _ _ _ _ _ _ _ _ _ _ _ _ _ _ _ _ _ _ _ _ _ _ _ _ _ _ _ _ _ _ _ _ _ _ _ _ _ _ _ _ _ _ _ _ _ _ _ _ _ _ _ _ _ _ _ _ _ _ _ _ _ _ _ _ _ _ _ _ _ _ _ _ _ _ _ _ _ _ _ _ _ _ _ _ _ _ _ _ _ _ _ _ _ _ _ _ _ _ HH HK

end Go.Proofs.YtncpjapfkcgjnaaDoor
namespace Go.Proofs.YtncpjapfkcgjnaaDoor
set_option linter.unusedVariables false
set_option linter.unusedSimpArgs false
open Go.RowKit

set_option maxRecDepth 100000 in
set_option maxHeartbeats 12800000 in
theorem digest_ref (s : ByteArray) (w : World) (hs : s.size ≤ 100000) :
    Calls Tryd.prog 33 #[.string s] w fun r w' => r = .returned (.string ⟨(digest s.data.toList).toArray⟩) ∧ Below w.heap.size w w' := by
  obtain ⟨z, hz⟩ : ∃ z : Nat, z = (119 - s.size % 64) % 64 := ⟨_, rfl⟩
  have e1 : (119 - (s.size : Int) % 64) % 64 = (z : Int) := by omega
  have hz2 : z ≤ 63 := by omega
  obtain ⟨i0, hi, hz0, hz1, hzz2⟩ := info_parts byte_info
  -- zeros, made and made a string
  obtain ⟨M, hM⟩ : ∃ M, M = madeCells (Value.int .u8 0).cells (((z : Nat) : Int).toNat * i0.size) := ⟨_, rfl⟩
  have hMl : M.toList = Lib.byteCells (List.replicate z 0) := by
    rw [hM, hz1]
    simp [madeCells, Lib.byteCells, Value.cells]
    have e : (fun x : Nat => ([Value.int IntKind.u8 0] : List Value)[x % 1]?.getD default) = fun _ => Value.int IntKind.u8 0 := by
      funext x; rw [Nat.mod_one]; rfl
    rw [e, List.map_const', List.length_range]
  have hmk : ∀ W : World, (Instr.makeSlice 59 (.int .i64 (z : Int)) (.int .i64 (z : Int))).run Tryd.prog W = .ok (.slice (some ⟨W.heap.size, 0, none⟩) z z) (W.alloc (.cells M 5)) := fun W => by
    have h := run_make (P := Tryd.prog) W 59 5 i0 (.int .u8 0) Tryd.underlying59 hi hz0 .i64 .i64 (z : Int) (z : Int) (by omega) (by omega) (by rw [hzz2]; omega) (by omega)
    rw [← hM] at h
    simpa using h
  obtain ⟨R, hR⟩ : ∃ R : ByteArray, R = ⟨(List.replicate z (0 : UInt8)).toArray⟩ := ⟨_, rfl⟩
  have hRs : R.size = z := by rw [hR, size_mk, List.length_replicate]
  have hcv : ∀ W : World, (convert 59 9 (.slice (some ⟨W.heap.size, 0, none⟩) z z)).run Tryd.prog (W.alloc (.cells M 5)) = .ok (.string R) (W.alloc (.cells M 5)) := fun W => by
    have := run_convert_bytes_back (P := Tryd.prog) (W.alloc (.cells M 5)) 59 9 5 ⟨W.heap.size, 0, none⟩ z (List.replicate z (0 : UInt8)) Tryd.underlying59 Tryd.underlying5 Tryd.underlying9 (fun j hj => by
      rw [add_mk, Nat.zero_add, cell_of_row _ _ j _ 5 (0, 0) (heap_alloc_new W _), ← Array.getElem?_toList, hMl]
      have hjz : j < z := by simpa using hj
      simp only [Lib.byteCells, List.map_replicate, List.getElem_replicate]
      rw [List.getElem?_replicate, if_pos hjz])
    rw [List.length_replicate, ← hR] at this
    exact this
  have hcat1 : s.size + 1 ≤ 9223372036854775807 := by omega
  have hcat2 : (s ++ ⟨#[128]⟩ : ByteArray).size + R.size ≤ 9223372036854775807 := by
    rw [ByteArray.size_append, hRs]
    show s.size + 1 + z ≤ _
    omega
  obtain ⟨m8, hm8⟩ : ∃ m8 : Nat, m8 = 8 * s.size := ⟨_, rfl⟩
  have em8 : 8 * (s.size : Int) = (m8 : Int) := by omega
  have hm8z : m8 ≤ 800000 := by omega
  have HM8 := Lib.hid hm8
  have HZ := Lib.hid hz
  have HR := Lib.hid hR
  have HRS := Lib.hid hRs
  clear hz hMl hM hR hRs hm8
  go_enter Tryd.func33, Tryd.ntmps33
  go_wp2_with fail
  generalize hwa : w.alloc _ = wa
  have hTh : Tab wa 88 w.heap.size 8 st0.at := by
    rw [← hwa]
    unfold Tab
    rw [heap_alloc_new]
    rfl
  have hba : Below w.heap.size w wa := by rw [← hwa]; exact (Below.refl _ _).alloc (Nat.le_refl _) _
  obtain ⟨Bh, hBh⟩ : ∃ Bh, Bh = w.heap.size := ⟨_, rfl⟩
  rw [← hBh] at hTh ⊢
  have HTH := Lib.hid hTh
  have HBA := Lib.hid hba
  have HBH := Lib.hid hBh
  clear hwa hTh hba hBh
  refine (keys_any wa).mono ?_
  rintro r wb ⟨rfl, hT, hb⟩
  obtain ⟨Bk, hBk⟩ : ∃ Bk, Bk = wa.heap.size := ⟨_, rfl⟩
  rw [← hBk] at hT ⊢
  have HTK := Lib.hid hT
  have HTHb := Lib.hid (HTH.out.below hb)
  have HBB := Lib.hid (HBA.out.trans (hb.mono HBA.out.size))
  have hlt : Bh < Bk := by rw [hBk]; exact HTH.out.lt
  clear hT hb hBk HTH
  go_wp2_with fail
  obtain ⟨wc, hwc⟩ : ∃ wc, wc = wb.alloc (Obj.cells M 5) := ⟨_, rfl⟩
  have hbc : Below w.heap.size w wc := by rw [hwc]; exact HBB.out.alloc HBB.out.size _
  have hThc : Tab wc 88 Bh 8 st0.at := by rw [hwc]; exact HTHb.out.below ((Below.refl _ _).alloc (Nat.le_refl _) _)
  have hTkc : Tab wc 87 Bk 64 kAt := by rw [hwc]; exact HTK.out.below ((Below.refl _ _).alloc (Nat.le_refl _) _)
  rw [← hwc]
  have HBC := Lib.hid hbc
  have HTHC := Lib.hid hThc
  have HTKC := Lib.hid hTkc
  obtain ⟨Q0, hQ0⟩ : ∃ Q0 : ByteArray, Q0 = s ++ ⟨#[128]⟩ ++ R := ⟨_, rfl⟩
  have hQs : Q0.size = s.size + 1 + z := by rw [hQ0, ByteArray.size_append, ByteArray.size_append, HRS.out]; rfl
  have hQp : Q0.data.toList ++ be m8 8 = padded s.data.toList := by
    rw [hQ0, HR.out, HM8.out]
    have e : s.data.toList.length = s.size := (Lib.size_eq s).symm
    simp only [padded, endOf, e, ← HZ.out]
    simp
  rw [← hQ0]
  have HQP := Lib.hid hQp
  have hQz : Q0.size ≤ 100100 := by omega
  clear hwc hbc hThc hTkc HTHb HTK HBB HBA hQ0 hQp hQs hcat1 hcat2 hmk hcv e1 HRS HR HZ HM8 hs
  go_loopw [0, 6] (fun v i wr => ∃ (k : Nat) (Q : ByteArray), k ≤ 8 ∧ i = .int .i64 ((k : Int) - 1) ∧ v = .string Q ∧ Q.size ≤ 100200 - k ∧ Hid (Q.data.toList ++ be m8 k = padded s.data.toList) ∧ Hid (Below wc.heap.size wc wr)) (fun _ i _ => (intOf i + 1).toNat)
  case atStart => exact ⟨8, Q0, Nat.le_refl _, rfl, rfl, by omega, HQP, Below.refl _ _⟩
  case round =>
    obtain ⟨k, Q, hk, rfl, rfl, hQz, HQ, HBw⟩ := hrel
    rcases Nat.eq_zero_or_pos k with h0 | h0
    · subst h0
      have hP : Q.data.toList = padded s.data.toList := by have := HQ.out; simpa [be] using this
      have hP64 : Q.size % 64 = 0 := by
        rw [Lib.size_eq, hP]
        unfold padded
        rw [List.length_append, endOf_len]; omega
      have HPP := Lib.hid hP
      have HBC2 := Lib.hid (HBC.out.trans (HBw.out.mono HBC.out.size))
      have HTH2 := Lib.hid (HTHC.out.below HBw.out)
      have HTK2 := Lib.hid (HTKC.out.below HBw.out)
      clear hP HQ
      obtain ⟨wf, rfl⟩ : ∃ wf : World, wf = wr := ⟨_, rfl⟩
      go_wp2_with fail
      generalize Value.int IntKind.i64 ((119 - (s.size : Int) % 64) % 64) = j29
      generalize Value.int IntKind.i64 (119 - (s.size : Int) % 64) = j28
      generalize Value.int IntKind.i64 (((0 : Nat) : Int) - 1) = j6
      generalize Value.agg _ = j20
      generalize Value.slice (some ⟨wb.heap.size, 0, none⟩) z z = j30
      generalize hwz : World.alloc wf _ = wz
      obtain ⟨Bw, hBw⟩ : ∃ Bw, Bw = wf.heap.size := ⟨_, rfl⟩
      have hTw : Tab wz 91 Bw 64 (accW [] 0) := by rw [← hwz, hBw]; exact tab_zero wf [] 91 _ (by kernel_rfl)
      have hbd : Below wf.heap.size wf wz := by rw [← hwz]; exact (Below.refl _ _).alloc (Nat.le_refl _) _
      rw [← hBw]
      have HTW := Lib.hid hTw
      have HTH3 := Lib.hid (HTH2.out.below hbd)
      have HTK3 := Lib.hid (HTK2.out.below hbd)
      have HBD := Lib.hid (HBC2.out.trans (hbd.mono HBC2.out.size))
      have hBhw : Bh < Bw := by rw [hBw]; exact HTH2.out.lt
      have hBkw : Bk < Bw := by rw [hBw]; exact HTK2.out.lt
      have hwh : w.heap.size ≤ Bh := by rw [HBH.out]; exact Nat.le_refl _
      clear hTw hbd hBw hwz HTH2 HTK2 HBC2 HBw
      refine loop2 _ Q (padded s.data.toList) Bh Bk Bw _ _ _ _ _ _ _ _ _ _ _ _ _ _ _ _ _ _ _ _ _ _ _ _ _ _ _ _ _ _ _ _ _ _ _ _ _ _ _ _ _ _ _ _ _ _ _ _ _ _ _ _ _ _ _ _ _ _ _ _ _ _ _ _ _ _ _ _ _ _ _ _ _ _ _ _ _ _ _ _ _ _ _ _ _ _ _ _ _ _ _ _ _ _ _ _ _ _ _ _ _ _ _ _ _ _ _ _ _ _ _ _ _ _ _ _ _ _ _ _ _ _ _ _ _ _ _ _ _ _ _ _ _ _ _ _ _ _ _ _ _ _ _ _ _ _ _ _ _ _ _ _ _ _ _ _ _ _ _ _ _ _ _ _ _ _ _ _ _ _ _ _ _ _ _ _ _ _ _ _ _ _ _ _ _ _ _ _ _ _ _ _ _ _ _ _ _ _ _ _ _ _ _ _ _ _ _ _ _ _ _ _ _ _ _ _ _ _ _ _ _ _ _ _ _ _ _ _ _ _ _ _ _ _ _ _ _ _ _ _ _ _ _ _ _ _ _ _ _ _ _ _ _ _ _ _ _ _ _ _ _ _ _ _ _ _ HPP hP64 (by omega) HTH3 HTK3 HTW hlt hBkw ?_
      intro _ _ _ _ _ _ _ _ _ _ _ _ _ _ _ _ _ _ _ _ _ _ _ _ _ _ _ _ _ _ _ _ _ _ _ _ _ _ _ _ _ _ _ _ _ _ _ _ _ _ _ _ _ _ _ _ _ _ _ _ _ _ _ _ _ _ _ _ _ _ _ _ _ _ _ _ _ _ _ _ _ _ _ _ _ _ _ _ _ _ _ _ _ _ _ _ _ _ _ _ _ _ _ _ _ _ _ _ _ _ _ _ _ _ _ _ _ _ _ _ _ _ _ _ _ _ _ _ _ _ _ _ _ _ _ _ _ _ _ _ _ _ _ _ _ _ _ _ _ _ _ _ _ _ _ _ _ _ _ _ _ _ _ _ _ _ _ _ _ _ _ _ _ _ _ _ _ _ _ _ _ _ _ _ _ _ _ _ _ _ _ _ _ _ _ _ _ _ _ _ _ _ _ w9 HH9 HK9
      obtain ⟨h, hh⟩ : ∃ h, h = run (padded s.data.toList) (Q.size / 64) := ⟨_, rfl⟩
      rw [← hh] at HH9
      have hd : outOf h = digest s.data.toList := by
        rw [hh, Lib.size_eq, HPP.out]; rfl
      have HD := Lib.hid hd
      have HB9 : Hid (Below w.heap.size w w9) := HBD.out.trans (HK9.out.below HBD.out.size (by rintro k hk (e | e) <;> omega))
      have hbl : Bh < w9.heap.size := HH9.out.lt
      obtain ⟨B, hB⟩ : ∃ B, B = w9.heap.size := ⟨_, rfl⟩
      have HBe := Lib.hid hB
      rw [← hB] at hbl
      clear hh hd hB HK9
      go_wp2_with fail
      refine loop7 _ h Bh B _ _ _ _ _ _ _ _ _ _ _ _ _ _ _ _ _ _ _ _ _ _ _ _ _ _ _ _ _ _ _ _ _ _ _ _ _ _ _ _ _ _ _ _ _ _ _ _ _ _ _ _ _ _ _ _ _ _ _ _ _ _ _ _ _ _ _ _ _ _ _ _ _ _ _ _ _ _ _ _ _ _ _ _ _ _ _ _ _ _ _ _ _ _ _ _ _ _ _ _ _ _ _ _ _ _ _ _ _ _ _ _ _ _ _ _ _ _ _ _ _ _ _ _ _ _ _ _ _ _ _ _ _ _ _ _ _ _ _ _ _ _ _ _ _ _ _ _ _ _ _ _ _ _ _ _ _ _ _ _ _ _ _ _ _ _ _ _ _ _ _ _ _ _ _ _ _ _ _ _ _ _ _ _ _ _ _ _ _ _ _ _ _ _ _ _ _ _ _ _ _ _ _ _ _ _ _ _ _ _ _ _ _ _ _ _ _ _ _ _ _ _ _ _ _ _ _ _ _ _ _ _ _ _ _ _ _ _ _ _ _ _ _ _ _ _ _ _ _ _ _ _ _ _ _ _ _ _ _ _ _ _ _ _ _ _ _ HH9 hbl HBe ?_
      intro z18 _ _ _ _ _ _ _ _ _ _ _ _ _ _ _ _ _ _ _ _ _ _ _ _ _ _ _ wr HO HBw
      obtain ⟨A1, c1, rfl, _⟩ := own_form HO.out
      have hcv := run_own_string (P := Tryd.prog) (t := 59) (u := 9) HO.out Tryd.underlying59 Tryd.underlying5 Tryd.underlying9
      go_wp2_with fail
      go_ret
      exact ⟨by rw [← HD.out]; rfl, HB9.out.trans (HBw.out.mono (by rw [HBe.out]; exact HB9.out.size))⟩
    · obtain ⟨j, rfl⟩ : ∃ j, k = j + 1 := ⟨k - 1, by omega⟩
      have e1 : ((j + 1 : Nat) : Int) - 1 = (j : Int) := by omega
      rw [e1]
      have hj : (j : Int) ≤ 7 := by omega
      have hj0 : (0 : Int) ≤ (j : Int) := by omega
      obtain ⟨b, hb⟩ : ∃ b : UInt8, b = UInt8.ofNat (m8 >>> (8 * j)) := ⟨_, rfl⟩
      have e4 : (m8 : Int) / 2 ^ (8 * j) % 256 = (b.toNat : Int) := by
        rw [hb, ← u8_shift, IntKind.wrap_u8']; simp
      have hcb : ∀ W : World, (convert 59 9 (.slice (some ⟨W.heap.size, 0, none⟩) 1 1)).run Tryd.prog (W.alloc (.cells #[.int .u8 b.toNat] 5)) = .ok (.string ⟨#[b]⟩) (W.alloc (.cells #[.int .u8 b.toNat] 5)) := fun W =>
        run_convert_bytes_back (P := Tryd.prog) (W.alloc (.cells #[.int .u8 b.toNat] 5)) 59 9 5 ⟨W.heap.size, 0, none⟩ 1 [b] Tryd.underlying59 Tryd.underlying5 Tryd.underlying9 (fun i hi => by
          rw [add_mk, Nat.zero_add, cell_of_row _ _ i _ 5 (0, 0) (heap_alloc_new W _)]
          match i, hi with
          | 0, _ => rfl)
      have hcat : Q.size + 1 ≤ 9223372036854775807 := by omega
      have hE2 : (Q ++ ⟨#[b]⟩ : ByteArray).data.toList ++ be m8 j = padded s.data.toList := by
        rw [← HQ.out, hb]; simp [be]
      have hs2 : (Q ++ ⟨#[b]⟩ : ByteArray).size = Q.size + 1 := by rw [ByteArray.size_append]; rfl
      have HE2 := Lib.hid hE2
      have HS2 := Lib.hid hs2
      clear hE2 hs2 hb e1
      go_wp2_with fail
      go_roundw
      case rel => exact ⟨j, _, by omega, by go_num, rfl, by rw [HS2.out]; omega, HE2.out, HBw.out.alloc HBw.out.size _⟩
      case measure => simp [intOf]
end Go.Proofs.YtncpjapfkcgjnaaDoor
