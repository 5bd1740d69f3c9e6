/- patch: readCells. Own work. -/
import Derived.Test.YtgomnigchfmfhaaPatS
import Derived.Test.YtgomnigchfmfhaaPat6
namespace Go.Proofs.Ytgomnigchfmfhaa
set_option linter.unusedVariables false
set_option linter.unusedSimpArgs false
open Go.RowKit

/-- A cell is stored among those that lie there. -/
theorem lies_set {w : World} {g n k : Nat} {F : Nat → CellM} (h : Lies w g 0 n F) (hk : k < n) (c : CellM) : Lies (w.setCells g (k * 6) (cellCs c)) g 0 n (layF k c F) ∧ Keep (· = g) w (w.setCells g (k * 6) (cellCs c)) := by
  have hl : Lies w g (0 + k * 6) 1 (fun i => F (k + i)) := h.sub k 1 (by omega)
  have hp := put_sets (f := fun _ => c) hl
  have hf : flatF (fun _ => c) 1 = cellCs c := by simp [flatF]
  rw [Nat.zero_add, hf] at hp
  refine ⟨?_, hp.keep⟩
  have := PutC.lies (a := k) (m := 1) h (by rw [Nat.zero_add]; exact hp) (by omega)
  exact this.congr (fun i _ => by
    unfold layF
    by_cases e : i = k
    · subst e; rw [if_pos (by omega), if_pos rfl]
    · rw [if_neg (by omega), if_neg e])
theorem wpList_store_cell2 {P : Program} {w : World} {ops : Array Oper} {rest : List Oper} {op : Oper} {act : Act} {Q : Exit → Act → World → Prop} (hgd : op.guard = none) (ty : TypeId) (x y : Operand) (ho : op.op = .store ty x y)
    (g o i n : Nat) (f0 : Nat → CellM) (l : Lies w g o n f0) (hi : i < n) (cx : CellM) (hx : act.eval x = .pointer (some ⟨g, o + i * 6, none⟩)) (hy : act.eval y = cx.v) (hinfo : (P.info? ty).map (·.size) = some 6)
    (h : ∀ w', PutC g (o + i * 6) 1 (fun _ => cx) w w' → (∀ c, Shape w g c → Shape w' g c) → wpList P ops Q rest (act.put op.dst undef) w') : wpList P ops Q (op :: rest) act w := by
  have ls := l.sub i 1 (by omega)
  refine wpList_plain hgd fun K hK => ?_
  refine wp_store_at ty x y ho g (o + i * 6) (vcells cx) hx hy hinfo (by simp [vcells, Value.oneCell']) (fun j hj => ls.some' j (by simpa [vcells] using hj)) (fun j hj => ls.can j (by simpa [vcells] using hj)) ?_
  have hp := put_sets (f := fun _ => cx) ls
  exact hK _ _ (h _ hp (fun c hs => hs.sets _ _))
def CellsTo (p g n zc : Nat) (d : ByteArray) (r : Option ((Nat → CellM) × ByteArray)) (w : World) (e : Ending) (w' : World) : Prop :=
  Keep (fun k => k = g ∨ k = p) w w' ∧ Shape w' g zc ∧ match r with
    | none => e = .returned (.bool false)
    | some (G, T) => e = .returned (.bool true) ∧ Lies w' g 0 n G ∧ InAt w' p T 0 ∧ Suf d T

set_option maxRecDepth 100000 in
set_option maxHeartbeats 12800000 in
theorem patch_readCells (p g n a m cap zc : Nat) (d S : ByteArray) (F : Nat → CellM) (w : World) (hl : Lies w g 0 n F) (hg : g < w.heap.size) (hsh : Shape w g zc) (hi : InAt w p S 0) (hne : g ≠ p) (ha : a + m ≤ n) (hn : n ≤ 1000) (hs : Suf d S) (hd : d.size ≤ 1000000) :
    Calls Try.prog 64 #[.slice (some ⟨g, a * 6, none⟩) m cap, .string d, .pointer (some ⟨p, 0, none⟩)] w (CellsTo p g n zc d (cellsS m F a S) w) := by
  obtain ⟨R, hR⟩ : ∃ R, cellsS m F a S = R := ⟨_, rfl⟩
  rw [hR]
  have HR := Lib.hid hR
  have HL := Lib.hid hl
  have HI := Lib.hid hi
  have HS := Lib.hid hs
  have HSh := Lib.hid hsh
  clear hR hl hi hs hsh
  go_enter Try.func64, Try.ntmps64
  go_wp2_with fail
  go_loopw [13] (fun i wr => ∃ (j : Nat) (G : Nat → CellM) (T : ByteArray), j ≤ m ∧ i = .int .i64 j ∧ Hid (cellsS (m - j) G (a + j) T = R) ∧ Hid (Lies wr g 0 n G) ∧ Hid (InAt wr p T 0) ∧ Hid (Suf d T) ∧ Hid (Keep (fun k => k = g ∨ k = p) w wr) ∧ Hid (Shape wr g zc)) (fun i _ => m - (intOf i).toNat)
  case atStart => exact ⟨0, F, S, by omega, rfl, HR, HL, HI, HS, Lib.hid (Keep.refl _ _), HSh⟩
  case round =>
    obtain ⟨j, G, T, hj, rfl, HR1, HL1, HI1, HS1, HK1, HSh1⟩ := hrel
    by_cases hlt : j < m
    · have hji : ((j : Int) < (m : Int)) := by omega
      have hj0 : (0 : Int) ≤ (j : Int) := by omega
      have hT := HS1.out.1
      obtain ⟨x, hx⟩ : ∃ x : Nat, x = d.size - T.size := ⟨_, rfl⟩
      have hxe : (d.size : Int) - (T.size : Int) = (x : Int) := by omega
      have hxd : x ≤ d.size := by omega
      have hTe : Hid (d.extract x d.size = T) := Lib.hid (by rw [hx]; exact HS1.out.2.symm)
      have hstep : cellsS (m - j) G (a + j) T = match cellS T with | none => none | some (c, U) => cellsS (m - (j + 1)) (layF (a + j) c G) (a + (j + 1)) U := by
        rw [show m - j = (m - (j + 1)) + 1 from by omega]
        rfl
      have HSt := Lib.hid hstep
      have hT6 : T.size ≤ 1000000 := by omega
      clear hstep hx
      go_wp2_with fail
      refine (inleft_any p T 0 wr HI1.out (by omega)).mono ?_
      rintro r w1 ⟨rfl, hw1⟩
      rw [← hw1]
      clear hw1 w1
      rcases cell_Read T hT6 with ⟨hn0, e, he, hrd⟩ | ⟨c, U, hc0, hrd⟩
      · have HN := Lib.hid hn0
        have HRd := Lib.hid hrd
        have hez : (e == 0) = false := by simpa using he
        have hez2 : (e != 0) = true := by simpa using he
        clear hn0 hrd he
        go_wp2_with fail
        rw [hTe.out]
        refine (HRd.out _).mono ?_
        rintro r w2 ⟨rfl, hb⟩
        have HK2 : Hid (Keep (fun k => k = g ∨ k = p) w w2) := Lib.hid (HK1.out.trans (Keep.of_below (fun _ => False) hb) (fun _ _ x => x.elim))
        have HE : Hid (R = none) := Lib.hid (by rw [← HR1.out, HSt.out, HN.out])
        have HSh2 := Lib.hid (HSh1.out.keep (Keep.of_below (fun _ => False) hb) (fun x => x))
        clear hb
        unfold zV
        go_wp2_with fail
        go_ret
        unfold CellsTo
        rw [HE.out]
        exact ⟨HK2.out.alloc _, HSh2.out.keep ((Keep.refl (fun _ => False) _).alloc _) (fun x => x), rfl⟩
      · have HC0 := Lib.hid hc0
        have HRd := Lib.hid hrd
        have hUT := (cellS_suf T U c hc0).1
        have HU : Hid (Suf d U) := Lib.hid (HS1.out.trans (cellS_suf T U c hc0))
        have HUT := Lib.hid (cellS_suf T U c hc0)
        clear hc0 hrd
        go_wp2_with fail
        rw [hTe.out]
        refine (HRd.out _).mono ?_
        rintro r w2 ⟨rfl, hb⟩
        have K2 := Keep.of_below (fun _ => False) hb
        have HK2 : Hid (Keep (fun k => k = g ∨ k = p) w w2) := Lib.hid (HK1.out.trans K2 (fun _ _ x => x.elim))
        have hgr : g < wr.heap.size := Nat.lt_of_lt_of_le hg HK1.out.size
        have HL2 := Lib.hid (HL1.out.keep hgr K2 (fun x => x))
        have HI2 := Lib.hid (HI1.out.keep K2 (fun x => x))
        have HSh2 := Lib.hid (HSh1.out.keep K2 (fun x => x))
        have hg2 : g < w2.heap.size := Nat.lt_of_lt_of_le hgr K2.size
        clear hb K2 HK1 HL1 HI1
        obtain ⟨c0, ⟨c1, c2, c3, c4, c5⟩⟩ := c
        simp only [CellM.v]
        go_upto_region 7 with fail
        obtain ⟨w3, hw3⟩ : ∃ w3, w3 = w2.alloc (.cells #[.int .i32 c0, .int .i64 c1, .int .i64 c2, .bool c3, .bool c4, .bool c5] 40) := ⟨_, rfl⟩
        obtain ⟨xb, hxb⟩ : ∃ xb, xb = w2.heap.size := ⟨_, rfl⟩
        have HX3 : Hid (w3.heap[xb]? = some (.cells #[.int .i32 c0, .int .i64 c1, .int .i64 c2, .bool c3, .bool c4, .bool c5] 40 (0, 0))) := Lib.hid (by rw [hw3, hxb]; exact heap_alloc_new _ _)
        have K3 : Keep (fun _ => False) w2 w3 := by rw [hw3]; exact (Keep.refl _ _).alloc _
        have HK3 : Hid (Keep (fun k => k = g ∨ k = p) w w3) := Lib.hid (HK2.out.trans K3 (fun _ _ x => x.elim))
        have HL3 := Lib.hid (HL2.out.keep hg2 K3 (fun x => x))
        have HI3 := Lib.hid (HI2.out.keep K3 (fun x => x))
        have HSh3 := Lib.hid (HSh2.out.keep K3 (fun x => x))
        rw [← hw3, ← hxb]
        clear hw3 hxb K3 HK2 HL2 HI2 hgr hg2
        have y0 := cell_at HX3.out 0; have y1 := cell_at HX3.out 1; have y2 := cell_at HX3.out 2; have y3 := cell_at HX3.out 3; have y4 := cell_at HX3.out 4; have y5 := cell_at HX3.out 5
        simp at y0 y1 y2 y3 y4 y5
        go_wp2_with (with_reducible refine wpList_store_cell2 rfl _ _ _ rfl g 0 (a + j) n _ HL3.out (by omega) ⟨c0, ⟨c1, c2, c3, c4, c5⟩⟩ ?hx ?hy cell_info ?_)
        case hx => exact congrArg (fun z => Value.pointer (some ⟨g, z, none⟩)) (show a * 6 + j * 6 = 0 + (a + j) * 6 by omega)
        case hy => rfl
        intro w4 hp4 hs4
        have HSh4 := Lib.hid (hs4 _ HSh3.out)
        clear hs4
        have HK4 : Hid (Keep (fun k => k = g ∨ k = p) w w4) := Lib.hid (HK3.out.trans hp4.keep (fun _ _ x => .inl x))
        have HI4 := Lib.hid (HI3.out.keep hp4.keep (fun x => hne x.symm))
        have HL4 : Hid (Lies w4 g 0 n (layF (a + j) ⟨c0, ⟨c1, c2, c3, c4, c5⟩⟩ G)) := Lib.hid ((PutC.lies (a := a + j) (m := 1) (h := fun _ => ⟨c0, ⟨c1, c2, c3, c4, c5⟩⟩) HL3.out (by simpa using hp4) (by omega)).congr (fun i _ => by
          unfold layF
          by_cases e : i = a + j
          · subst e; rw [if_pos (by omega), if_pos rfl]
          · rw [if_neg (by omega), if_neg e]))
        clear hp4 y0 y1 y2 y3 y4 y5 HX3 HK3 HL3 HI3
        go_wp2_with fail
        refine (inraw_any p T 0 ((T.size : Int) - (U.size : Int)) w4 HI4.out (by omega)).mono ?_
        rintro r w5 ⟨rfl, hi, hk⟩
        have HI5 : Hid (InAt w5 p U 0) := Lib.hid (by
          have e : rawS T 0 ((T.size : Int) - (U.size : Int)) = (T.extract 0 (T.size - U.size), U, 0) := by
            unfold rawS
            rw [if_pos rfl, if_neg (by omega), if_neg (by omega), show ((T.size : Int) - (U.size : Int)).toNat = T.size - U.size from by omega, ← HUT.out.2]
          rwa [e] at hi)
        have HK5 : Hid (Keep (fun k => k = g ∨ k = p) w w5) := Lib.hid (HK4.out.trans hk (fun _ _ x => .inr x))
        have HSh5 := Lib.hid (HSh4.out.keep hk hne)
        have HL5 := Lib.hid (HL4.out.keep (Nat.lt_of_lt_of_le hg HK4.out.size) hk hne)
        have HR5 : Hid (cellsS (m - (j + 1)) (layF (a + j) ⟨c0, ⟨c1, c2, c3, c4, c5⟩⟩ G) (a + (j + 1)) U = R) := Lib.hid (by rw [← HR1.out, HSt.out, HC0.out])
        clear hi hk
        go_wp2_with fail
        go_roundw
        case rel => exact ⟨j + 1, _, U, by omega, by go_num, HR5, HL5, HI5, HU, HK5, HSh5⟩
        case measure => simp [intOf]; omega
    · obtain rfl : j = m := by omega
      have hji : ¬ ((j : Int) < (j : Int)) := by omega
      have HE : Hid (R = some (G, T)) := Lib.hid (by rw [← HR1.out, Nat.sub_self]; rfl)
      go_wp2_with fail
      go_ret
      unfold CellsTo
      rw [HE.out]
      exact ⟨HK1.out, HSh1.out, rfl, HL1.out, HI1.out, HS1.out⟩

end Go.Proofs.Ytgomnigchfmfhaa
