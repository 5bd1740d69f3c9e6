/- Law FramePlays: the walk. Own work (by frameplays.gen.py). -/
import Derived.Test.YtncpjapfkcgjnaaDoorFramePair
import Derived.Test.YtncpjapfkcgjnaaDoorFrameOps
import Derived.Test.YtncpjapfkcgjnaaDoorBase
import Derived.Test.YtncpjapfkcgjnaaDoorFrameOrderM
import Derived.Deep.QuietTactic
import Derived.BigQuiet
import Derived.Deep.RegionHeld3
namespace Go.Proofs.YtncpjapfkcgjnaaDoor
set_option linter.unusedVariables false
set_option linter.unusedSimpArgs false
open Go.RowKit

theorem PortAt.drewN {w : World} {p : Nat} {key : ByteArray} {way sent t : Int} {s : Nat} (h : PortAt w p key way sent t s) (n : Nat) : PortAt (w.drewN n) p key way sent t s := h.keep ((Keep.refl (fun _ => False) w).drewN n) (fun x => x)

/-- Both ports at the beginning. -/
def pst0 : Nat → PSt := fun _ => ⟨0, 0, none, 0, []⟩

theorem pairs_new {w0 w3 : World} {pa pb : Nat} {key : ByteArray} (ha : PortAt w3 pa key 1 0 0 0) (hb : PortAt w3 pb key 2 0 0 0) (hbase : Below w0.heap.size w0 w3) (h0 : w0.heap.size ≤ pa) (h1 : pa < pb) :
    Pairs w0 (fun a => if a = 0 then pa else pb) (fun a => w3.heap.size + 1 + a) w3.heap.size (w3.heap.size + 1 + 1 + 1) key pst0 pst0 none 0 []
      ((((w3.alloc (.cells #[.pointer (some ⟨pa, 0, none⟩), .pointer (some ⟨pb, 0, none⟩)] 37)).alloc (.cells #[.string key, .int .i64 1, .int .i64 0, .int .i64 0, .slice none 0 0] 45)).alloc (.cells #[.string key, .int .i64 2, .int .i64 0, .int .i64 0, .slice none 0 0] 45)).alloc (.cells #[.pointer (some ⟨w3.heap.size + 1, 0, none⟩), .pointer (some ⟨w3.heap.size + 1 + 1, 0, none⟩)] 40)) := by
  have n0 : ∀ (w : World) (o : Obj), Keep (fun _ => False) w (w.alloc o) := fun w o => (Keep.refl _ w).alloc o
  have hlb := hb.lt
  generalize hX1 : w3.alloc (.cells #[.pointer (some ⟨pa, 0, none⟩), .pointer (some ⟨pb, 0, none⟩)] 37) = X1
  have z1 : X1.heap.size = w3.heap.size + 1 := by rw [← hX1]; simp
  have k1 : Keep (fun _ => False) w3 X1 := by rw [← hX1]; exact n0 _ _
  have p1 : X1.heap[w3.heap.size]? = some (.cells #[.pointer (some ⟨pa, 0, none⟩), .pointer (some ⟨pb, 0, none⟩)] 37 (0, 0)) := by rw [← hX1]; exact heap_alloc_new _ _
  generalize hX2 : X1.alloc (.cells #[.string key, .int .i64 1, .int .i64 0, .int .i64 0, .slice none 0 0] 45) = X2
  have z2 : X2.heap.size = w3.heap.size + 2 := by rw [← hX2]; simp [z1]
  have k2 : Keep (fun _ => False) X1 X2 := by rw [← hX2]; exact n0 _ _
  have r1 : RefPort X2 (w3.heap.size + 1) key 1 0 0 none 0 [] := by rw [← hX2]; exact refport_new X1 _ z1.symm key 1 _
  generalize hX3 : X2.alloc (.cells #[.string key, .int .i64 2, .int .i64 0, .int .i64 0, .slice none 0 0] 45) = X3
  have z3 : X3.heap.size = w3.heap.size + 3 := by rw [← hX3]; simp [z2]
  have k3 : Keep (fun _ => False) X2 X3 := by rw [← hX3]; exact n0 _ _
  have r2 : RefPort X3 (w3.heap.size + 2) key 2 0 0 none 0 [] := by rw [← hX3]; exact refport_new X2 _ z2.symm key 2 _
  have k4 := n0 X3 (.cells #[.pointer (some ⟨w3.heap.size + 1, 0, none⟩), .pointer (some ⟨w3.heap.size + 1 + 1, 0, none⟩)] 40)
  have p4 := heap_alloc_new X3 (.cells #[.pointer (some ⟨w3.heap.size + 1, 0, none⟩), .pointer (some ⟨w3.heap.size + 1 + 1, 0, none⟩)] 40)
  rw [z3] at p4
  have k123 : Keep (fun _ => False) w3 X3 := (k1.trans k2 (fun _ _ x => x)).trans k3 (fun _ _ x => x)
  have kall := k123.trans k4 (fun _ _ x => x)
  have b0 : bitsF 0 [] = 0 := rfl
  refine ⟨fun a h => ?_, fun a h => ?_, fun a h => ?_, fun a h => ?_, Buf.nil _, hbase.trans (kall.below hbase.size (fun _ _ x => x)), h0, h1, by simpa using hlb, by show w3.heap.size < w3.heap.size + 1 + 0; omega, by show w3.heap.size + 1 + 0 < w3.heap.size + 1 + 1; omega, by show w3.heap.size + 1 + 1 < _; omega, by simp [z3], fun a h k hk => by simp [pst0, blk] at hk, fun k hk => by simp [blk] at hk⟩
  · rcases two_cases h with rfl | rfl
    · exact ha.keep kall (fun x => x)
    · exact hb.keep kall (fun x => x)
  · rcases two_cases h with rfl | rfl
    · exact (r1.keep k3 (fun x => x) (fun _ _ x => x)).keep k4 (fun x => x) (fun _ _ x => x)
    · exact r2.keep k4 (fun x => x) (fun _ _ x => x)
  · have hp := k4.heap (k3.heap (k2.heap p1 (fun x => x)) (fun x => x)) (fun x => x)
    rcases two_cases h with rfl | rfl
    · exact cell_at hp 0
    · exact cell_at hp 1
  · rcases two_cases h with rfl | rfl
    · exact cell_at p4 0
    · exact cell_at p4 1

/-- A variable of four cells. -/
def Four (w : World) (u : Nat) (o : FOp) : Prop := w.heap[u]? = some (.cells #[.int .i64 o.kind, .int .i64 o.a, .int .i64 o.k, .string o.s] 49 (0, 0))

theorem Four.keep {S : Nat → Prop} {w w' : World} {u : Nat} {o : FOp} (h : Four w u o) (k : Keep S w w') (hn : ¬ S u) : Four w' u o := k.heap h hn

/-- What the loop keeps of the numbers. -/
def Nums (st : Nat → PSt) (k : Nat) : Prop := ∀ a, a < 2 → 0 ≤ (st a).sent ∧ (st a).sent ≤ k ∧ (st a).g.length ≤ k ∧ GotOk (st a).t (st a).g

theorem nums_new : Nums pst0 0 := fun a h => ⟨by show (0 : Int) ≤ 0; omega, by show (0 : Int) ≤ 0; omega, by simp [pst0], got_nil⟩

theorem Nums.upd {st : Nat → PSt} {k : Nat} (h : Nums st k) (a : Nat) (x : PSt) (h0 : 0 ≤ x.sent) (h1 : x.sent ≤ k + 1) (h2 : x.g.length ≤ k + 1) (h3 : GotOk x.t x.g) : Nums (updP st a x) (k + 1) := fun i hi => by
  by_cases e : i = a
  · subst e; rw [updP_same]; exact ⟨h0, by omega, h2, h3⟩
  · rw [updP_other _ _ _ _ e]; obtain ⟨q0, q1, q2, q3⟩ := h i hi; exact ⟨q0, by omega, by omega, q3⟩

set_option maxRecDepth 100000 in
set_option maxHeartbeats 12800000 in
theorem plays_good (key : ByteArray) (Z : Option Addr) (n cz : Nat) (ops : List FOp) (way : Int) (w : World) (h1 : key.size ≤ 100) (h2 : n ≤ 80) (ho : Structs (FOpAt w) 4 w Z n ops) (hw : -9223372036854775808 ≤ way ∧ way ≤ 9223372036854775807) (hr : Roots w) :
    Calls Tryd.prog 4 #[.string key, .slice Z n cz, .int .i64 way] w fun e w' => e = .returned (.bool true) ∧ Below w.heap.size w w' := by
  obtain ⟨i0, hi, hz0, hz1, hz2⟩ := info_parts string_info
  have HI := Lib.hid hi
  have HI0 := Lib.hid hz0
  have HI1 := Lib.hid hz1
  have HI2 := Lib.hid hz2
  have HO := Lib.hid ho
  have HR := Lib.hid hr
  have HWAY := Lib.hid hw
  have k1 : ¬ (100 < (key.size : Int)) := by omega
  have k2 : decide (80 < (n : Int)) = false := by simp; omega
  clear hi hz0 hz1 hz2 ho hr hw
  go_enter Tryd.func4, Tryd.ntmps4
  go_wp2_with fail
  refine (alive_any w HR.out).mono ?_
  rintro r w1 ⟨rfl, b1⟩
  have B1 := Lib.hid b1
  clear b1
  go_wp2_with fail
  refine (portnew_any key 1 _ (by omega)).mono ?_
  rintro r w2 ⟨pa, rfl, ha, hpa, hb2⟩
  have HA := Lib.hid ha
  have B2 := Lib.hid (below_step B1.out hb2)
  have hwa : w.heap.size ≤ pa := Nat.le_trans B1.out.size hpa
  have hl1 := ha.lt
  clear ha hb2 B1 hpa
  go_wp2_with fail
  refine (portnew_any key 2 _ (by omega)).mono ?_
  rintro r w3 ⟨pb, rfl, hbp, hpb, hb3⟩
  have P0 := Lib.hid (pairs_new (HA.out.below hb3) hbp (below_step B2.out hb3) hwa (by omega))
  clear hbp hb3 HA B2 hwa hl1 hpb
  go_wp2_with fail
  obtain ⟨pw, hpw⟩ : ∃ f : Nat → Nat, f = fun a => if a = 0 then pa else pb := ⟨_, rfl⟩
  obtain ⟨pr, hpr⟩ : ∃ f : Nat → Nat, f = fun a => w3.heap.size + 1 + a := ⟨_, rfl⟩
  obtain ⟨br, hbr⟩ : ∃ x, x = w3.heap.size + 1 + 1 + 1 := ⟨_, rfl⟩
  obtain ⟨bp, hbp⟩ : ∃ x, x = w3.heap.size := ⟨_, rfl⟩
  rw [← hpw, ← hpr, ← hbr] at P0
  rw [← hbr]
  rw [← hbp] at P0 ⊢
  clear hpw hpr hbr hbp
  go_loopw [9, 10] (fun l i wr => ∃ (k : Nat) (st : Nat → PSt) (SA : Option Addr) (sc : Nat) (dl : List ByteArray), i = .int .i64 k ∧ k ≤ n ∧ dl.length ≤ k ∧ l = .slice SA dl.length sc ∧ Hid (Nums st k) ∧ Hid (∀ d ∈ dl, d.size ≤ 400) ∧ Hid (Pairs w pw pr bp br key st st SA sc dl wr)) (fun _ i _ => n - (intOf i).toNat)
  case atStart => exact ⟨0, pst0, none, 0, [], rfl, by omega, by simp, rfl, Lib.hid nums_new, Lib.hid (fun d hd => absurd hd (by simp)), P0⟩
  case round =>
    obtain ⟨k, st, SA, sc, dl, rfl, hk, hdl, rfl, HN, HD, HP⟩ := hrel
    clear P0
    by_cases hlt : k < n
    · obtain ⟨b, off, o, rfl, hbl, _, ho⟩ := HO.out.at hlt
      obtain ⟨ho0, ho1, ho2, ho3, hok, hoa, hokk, hos⟩ := ho
      have c0 := (HP.out.base.cell (p := ⟨b, off + k * 4, none⟩) hbl).trans ho0
      have c1 := (HP.out.base.cell (p := ⟨b, off + k * 4 + 1, none⟩) hbl).trans ho1
      have c2 := (HP.out.base.cell (p := ⟨b, off + k * 4 + 2, none⟩) hbl).trans ho2
      have c3 := (HP.out.base.cell (p := ⟨b, off + k * 4 + 3, none⟩) hbl).trans ho3
      obtain ⟨hok1, hok2⟩ := hok
      obtain ⟨hoa1, hoa2⟩ := hoa
      obtain ⟨hkk1, hkk2⟩ := hokk
      unfold maxLen at hos
      obtain ⟨a, ha, hand⟩ := port_of o.a
      clear ho0 ho1 ho2 ho3
      by_cases hs : 300 < o.s.size
      · have d1 : decide (300 < (o.s.size : Int)) = true := by simp; omega
        go_wp2_with fail
        go_ret
        exact ⟨rfl, HP.out.base.alloc HP.out.base.size _⟩
      · have d1 : decide (300 < (o.s.size : Int)) = false := by simp; omega
        obtain ⟨n0, n1, n2, n3⟩ := HN.out a ha
        have N3 := Lib.hid n3
        have HP1 := Lib.hid (HP.out.alloc (.cells #[.int .i64 o.kind, .int .i64 o.a, .int .i64 o.k, .string o.s] 49))
        have HU := Lib.hid (show Four (wr.alloc (.cells #[.int .i64 o.kind, .int .i64 o.a, .int .i64 o.k, .string o.s] 49)) wr.heap.size o from heap_alloc_new wr _)
        have hou := Lib.hid HP.out.o6
        clear n3
        have ha0 : (0 : Int) ≤ (a : Int) := by omega
        have ha1 : (a : Int) < 2 := by omega
        by_cases hk1 : o.kind = 1
        · have e1 : (o.kind == 1) = true := by simp [hk1]
          clear hk1
          go_wp2_with fail
          obtain ⟨u, hu⟩ : ∃ u, u = wr.heap.size := ⟨_, rfl⟩
          obtain ⟨W1, hW1⟩ : ∃ W1, W1 = wr.alloc (.cells #[.int .i64 o.kind, .int .i64 o.a, .int .i64 o.k, .string o.s] 49) := ⟨_, rfl⟩
          rw [← hW1] at HP1 HU ⊢
          rw [← hu] at HU hou ⊢
          clear hu hW1 c0 c1 c2 c3 hand d1 e1 HP
          have s1 : W1.cell? ⟨bp, a, none⟩ = some (.pointer (some ⟨pw a, 0, none⟩)) ∧ W1.cell? ⟨u, 3, none⟩ = some (.string o.s) := ⟨HP1.out.ptr a ha, cell_at HU.out 3⟩
          have hsz : o.s.size ≤ 300 := by omega
          go_region_held3 (fun w' => w'.cell? ⟨bp, a, none⟩ = some (.pointer (some ⟨pw a, 0, none⟩)) ∧ w'.cell? ⟨u, 3, none⟩ = some (.string o.s)) (first | exact s2 | exact s1 | go_keep) (first
            | (go_at_call 13; ((with_reducible refine (pairs_send HP1.out.drew ha o.s (HR.out.below HP1.out.drew.base) (by omega) n0 (by omega) hsz).mono ?_); rintro r w4 ⟨rfl, hp4, kp4⟩; have HP4 := Lib.hid hp4; have HU4 : Hid (Four w4 u o) := Lib.hid ((HU.out.keep (Keep.refl (fun _ => False) _).drew (fun x => x)).keep kp4 (fun e => by have := (hp4.pw_lt ha).2; have := hp4.o3; have := hp4.o4; have := hp4.o5; have := hou.out; omega)); have s2 : w4.cell? ⟨bp, a, none⟩ = some (.pointer (some ⟨pw a, 0, none⟩)) ∧ w4.cell? ⟨u, 3, none⟩ = some (.string o.s) := ⟨hp4.ptr a ha, cell_at HU4.out 3⟩; clear hp4 kp4))
            | fail)
          all_goals
            clear s1 s2 HP1 HU
            have s3 : w4.cell? ⟨br, a, none⟩ = some (.pointer (some ⟨pr a, 0, none⟩)) ∧ w4.cell? ⟨u, 3, none⟩ = some (.string o.s) := ⟨HP4.out.rtr a ha, cell_at HU4.out 3⟩
            go_wp2_with fail
            go_region_held3 (fun w' => w'.cell? ⟨br, a, none⟩ = some (.pointer (some ⟨pr a, 0, none⟩)) ∧ w'.cell? ⟨u, 3, none⟩ = some (.string o.s)) (first | exact s4 | exact s3 | go_keep) (first
              | (go_at_call 14; ((with_reducible refine (pairs_rsend HP4.out.drew ha o.s (by omega) n0 (by omega) hsz).mono ?_); rintro r w5 ⟨rfl, hp5, kp5⟩; have HP5 := Lib.hid hp5; have HU5 : Hid (Four w5 u o) := Lib.hid ((HU4.out.keep (Keep.refl (fun _ => False) _).drew (fun x => x)).keep kp5 (fun e => by have := (hp5.pr_lt ha).2; have := hou.out; omega)); have s4 : w5.cell? ⟨br, a, none⟩ = some (.pointer (some ⟨pr a, 0, none⟩)) ∧ w5.cell? ⟨u, 3, none⟩ = some (.string o.s) := ⟨hp5.rtr a ha, cell_at HU5.out 3⟩; clear hp5 kp5))
              | fail)
            all_goals
              clear s3 s4 HP4 HU4 HU5
              obtain ⟨d, hd⟩ : ∃ d, d = sendB key a (st a).sent o.s := ⟨_, rfl⟩
              have hds : d.size ≤ 400 := by rw [hd]; exact sendB_size key a _ _ hsz
              rw [← hd]
              clear hd
              go_wp2_with (at_builtin; refine wpList_append_buf _ rfl (.tmp 115) (.tmp 117) 47 rfl 9 i0 (.string .empty) 16 Tryd.underlying47 HI.out HI0.out HI1.out HI2.out rfl rfl (HP5.out.sent.keep ((Keep.refl (fun _ => False) _).alloc _) (fun _ _ x => x)) [.string d] rfl (src_one _ _ _ (by simp)) (by intro u hu; simp at hu; subst hu; rfl) (by unfold maxLen; omega) (by omega) ?_)
              intro A' c' w6 hb hk2 hf
              have hk3 : Keep (fun j => blk SA = some j) w5 w6 := ((Keep.refl (fun j => blk SA = some j) w5).alloc _).trans hk2 (fun _ _ e => e)
              have HP6 := Lib.hid (HP5.out.grow hb hk3 (fun j hj => (hf j hj).imp_right (fun h => by first | omega | exact h | (simp at h; omega))))
              have HN6 := Lib.hid (HN.out.upd a { st a with sent := (st a).sent + 1 } (by show 0 ≤ (st a).sent + 1; omega) (by show (st a).sent + 1 ≤ (k : Int) + 1; omega) (Nat.le_succ_of_le n2) N3.out)
              have HD6 : Hid (∀ x ∈ dl ++ [d], x.size ≤ 400) := Lib.hid (fun x hx => by
                rcases List.mem_append.1 hx with h | h
                · exact HD.out x h
                · rw [List.mem_singleton.1 h]; exact hds)
              have HLEN : Hid (dl.length + 1 = (dl ++ [d]).length) := Lib.hid (by simp)
              clear hb hk2 hf hk3 HP5 HN
              have HPT : Hid (PortAt w6 (pw a) key ((a : Int) + 1) ((st a).sent + 1) (st a).t (bitsF (st a).t (st a).g)) := Lib.hid (by have := HP6.out.port a ha; rw [updP_same] at this; exact this)
              have HRF : Hid (RefPort w6 (pr a) key ((a : Int) + 1) ((st a).sent + 1) (st a).t (st a).A (st a).c (st a).g) := Lib.hid (by have := HP6.out.ref a ha; rw [updP_same] at this; exact this)
              obtain ⟨SN, hSN⟩ : ∃ SN, SN = (st a).sent + 1 := ⟨_, rfl⟩
              obtain ⟨TT, hTT⟩ : ∃ TT, TT = (st a).t := ⟨_, rfl⟩
              rw [← hSN, ← hTT] at HPT HRF
              clear hSN hTT
              have q1 : w6.cell? ⟨bp, a, none⟩ = some (.pointer (some ⟨pw a, 0, none⟩)) := HP6.out.ptr a ha
              have q2 : w6.cell? ⟨br, a, none⟩ = some (.pointer (some ⟨pr a, 0, none⟩)) := HP6.out.rtr a ha
              have q3 := HRF.out.c2
              have q4 := HRF.out.win.c0
              go_wp2_with fail
              go_quiet ((first | (go_at_call 17; exact quiet_is (sent_any _ (HPT.out.drewN _))) | (go_at_call 18; exact quiet_is (top_any _ (HPT.out.drewN _)))))
              clear q1 q2 q3 q4
              go_wp2_with fail
              go_roundw
              case rel => exact ⟨k + 1, _, A', c', dl ++ [d], by go_num, by omega, by have := HLEN.out; omega, by rw [← HLEN.out], HN6, HD6, Lib.hid (HP6.out.drewN _)⟩
              case measure => simp [intOf]; omega
        · have e1 : (o.kind == 1) = false := by simpa using hk1
          have p1 : wr.cell? ⟨bp, a, none⟩ = some (.pointer (some ⟨pw a, 0, none⟩)) := HP.out.ptr a ha
          have hz1 : bp < wr.heap.size := by have := HP.out.o6; have := HP.out.o3; have := HP.out.o4; have := HP.out.o5; omega
          clear hk1
          by_cases hk2 : o.kind = 2 ∧ 0 < dl.length
          · obtain ⟨hk2, hd0⟩ := hk2
            have e2 : (o.kind == 2) = true := by simp [hk2]
            have e3 : decide (0 < (dl.length : Int)) = true := decide_eq_true (by omega)
            obtain ⟨q, hq, hmod⟩ := index_of o.k dl.length hd0 (by omega)
            obtain ⟨b8, off8, rfl, hb8, row8⟩ := HP.out.sent.some_of hd0
            obtain ⟨B, hB⟩ : ∃ B, dl[q]? = some B := ⟨dl[q], List.getElem?_eq_getElem hq⟩
            have r8 : wr.cell? ⟨b8, off8 + q, none⟩ = some (.string B) := row8.val q _ (by rw [List.getElem?_map, hB]; rfl)
            have hBs : B.size ≤ 400 := HD.out B (List.mem_of_getElem? hB)
            have hq0 : (0 : Int) ≤ (q : Int) := by omega
            have hq1 : (q : Int) < (dl.length : Int) := by omega
            clear hk2 row8 hB HP HU hou
            go_wp2_with fail
            clear hmod r8 c0 c1 c2 c3 e1 e2 e3 p1 hz1 hand d1 hb8
            obtain ⟨fw, fs, fb, er, he⟩ : ∃ fw fs fb er, takeL key.data.toList B.data.toList ((a : Int) + 1) (freshL (st a).t (st a).g) = (⟨fw, fs, fb⟩, er) := ⟨_, _, _, _, rfl⟩
            have HE := Lib.hid he
            clear he
            refine (pairs_take HP1.out ha B ⟨fw, fs, fb⟩ er (HR.out.below HP1.out.base) (by omega) (by omega) N3.out HE.out none 0).mono ?_
            rintro r w4 ⟨rfl, hp4, kp4⟩
            have HP4 := Lib.hid (hp4.alloc (.cells #[.int .i64 fw, .int .i64 fs, .string fb] 28))
            have Q4 := Lib.hid (three_new w4 (.int .i64 fw) (.int .i64 fs) (.string fb) 28)
            have p2 : w4.cell? ⟨br, a, none⟩ = some (.pointer (some ⟨pr a, 0, none⟩)) := hp4.rtr a ha
            have hz4 : br < w4.heap.size := hp4.o6
            clear hp4 kp4 HP1
            go_wp2_with fail
            refine (pairs_rtake HP4.out ha B ⟨fw, fs, fb⟩ er (by omega) (by omega) N3.out (by omega) HE.out).mono ?_
            rintro r w5 ⟨rfl, ⟨A5, c5, hp5⟩, kp5⟩
            have HP5 : Hid (Pairs w pw pr bp br key (updP st a (tookP (st a) ⟨fw, fs, fb⟩ er A5 c5)) (updP st a (tookP (st a) ⟨fw, fs, fb⟩ er A5 c5)) (some ⟨b8, off8, none⟩) sc dl (w5.alloc (.cells #[.int .i64 fw, .int .i64 fs, .string fb] 30))) := Lib.hid ((hp5.alloc _).same (fun i hi => by
              by_cases e : i = a
              · subst e; rw [updP_same, updP_same]; exact ⟨rfl, rfl, rfl⟩
              · rw [updP_other _ _ _ _ e, updP_other _ _ _ _ e]; exact ⟨rfl, rfl, rfl⟩))
            obtain ⟨v0, v1, v2, _, _, _⟩ := Q4.out.keep kp5 (fun e => by have e2 : w4.heap.size = pr a := e; have := (hp5.pr_lt ha).2; omega)
            have hz5 : w4.heap.size < w5.heap.size := by have := kp5.size; simp at this; omega
            obtain ⟨tg1, tg2, tg3⟩ := took_got N3.out HE.out A5 c5
            have HN7 := Lib.hid (HN.out.upd a (tookP (st a) ⟨fw, fs, fb⟩ er A5 c5) n0 (by show (st a).sent ≤ (k : Int) + 1; omega) (Nat.le_trans tg3 (by omega)) tg1)
            clear hp5 kp5 HP4 Q4 tg1 tg2 tg3 p2 hz4 HE HN
            go_wp2_with fail
            obtain ⟨W5, hW5⟩ : ∃ W5, W5 = w5.alloc (.cells #[.int .i64 fw, .int .i64 fs, .string fb] 30) := ⟨_, rfl⟩
            rw [← hW5] at HP5 ⊢
            clear hW5 v0 v1 v2 hz5
            have HPT : Hid (PortAt W5 (pw a) key ((a : Int) + 1) (st a).sent (tookT (st a).t (⟨fw, fs, fb⟩, er)) (bitsF (tookP (st a) ⟨fw, fs, fb⟩ er A5 c5).t (tookP (st a) ⟨fw, fs, fb⟩ er A5 c5).g)) := Lib.hid (by have := HP5.out.port a ha; rw [updP_same] at this; exact this)
            have HRF : Hid (RefPort W5 (pr a) key ((a : Int) + 1) (st a).sent (tookT (st a).t (⟨fw, fs, fb⟩, er)) A5 c5 (tookP (st a) ⟨fw, fs, fb⟩ er A5 c5).g) := Lib.hid (by have := HP5.out.ref a ha; rw [updP_same] at this; exact this)
            obtain ⟨SN, hSN⟩ : ∃ SN, SN = (st a).sent := ⟨_, rfl⟩
            obtain ⟨TT, hTT⟩ : ∃ TT, TT = tookT (st a).t (⟨fw, fs, fb⟩, er) := ⟨_, rfl⟩
            rw [← hSN, ← hTT] at HPT HRF
            clear hSN hTT
            have q1 : W5.cell? ⟨bp, a, none⟩ = some (.pointer (some ⟨pw a, 0, none⟩)) := HP5.out.ptr a ha
            have q2 : W5.cell? ⟨br, a, none⟩ = some (.pointer (some ⟨pr a, 0, none⟩)) := HP5.out.rtr a ha
            have q3 := HRF.out.c2
            have q4 := HRF.out.win.c0
            go_wp2_with fail
            go_quiet ((first | (go_at_call 17; exact quiet_is (sent_any _ (HPT.out.drewN _))) | (go_at_call 18; exact quiet_is (top_any _ (HPT.out.drewN _)))))
            clear q1 q2 q3 q4
            go_wp2_with fail
            go_roundw
            case rel => exact ⟨k + 1, _, (some ⟨b8, off8, none⟩), sc, dl, by go_num, by omega, by omega, rfl, HN7, HD, Lib.hid (HP5.out.drewN _)⟩
            case measure => simp [intOf]; omega
          · obtain ⟨B, hB⟩ : ∃ B, B = o.s := ⟨_, rfl⟩
            have hBs : B.size ≤ 400 := by rw [hB]; omega
            have c3' : wr.cell? ⟨b, off + k * 4 + 3, none⟩ = some (.string B) := by rw [hB]; exact c3
            have d1' : decide (300 < (B.size : Int)) = false := by rw [hB]; exact d1
            rw [← hB] at HP1
            clear hB c3 d1 HU
            by_cases hk3 : o.kind = 2
            · have e2 : (o.kind == 2) = true := by simp [hk3]
              have hd0 : ¬ 0 < dl.length := fun h => hk2 ⟨hk3, h⟩
              have e3 : decide (0 < (dl.length : Int)) = false := decide_eq_false (by omega)
              clear hk3 hk2 HP hou
              go_wp2_with fail
              clear c0 c1 c2 c3' e1 e2 e3 p1 hz1 hand d1'
              obtain ⟨fw, fs, fb, er, he⟩ : ∃ fw fs fb er, takeL key.data.toList B.data.toList ((a : Int) + 1) (freshL (st a).t (st a).g) = (⟨fw, fs, fb⟩, er) := ⟨_, _, _, _, rfl⟩
              have HE := Lib.hid he
              clear he
              refine (pairs_take HP1.out ha B ⟨fw, fs, fb⟩ er (HR.out.below HP1.out.base) (by omega) (by omega) N3.out HE.out none 0).mono ?_
              rintro r w4 ⟨rfl, hp4, kp4⟩
              have HP4 := Lib.hid (hp4.alloc (.cells #[.int .i64 fw, .int .i64 fs, .string fb] 28))
              have Q4 := Lib.hid (three_new w4 (.int .i64 fw) (.int .i64 fs) (.string fb) 28)
              have p2 : w4.cell? ⟨br, a, none⟩ = some (.pointer (some ⟨pr a, 0, none⟩)) := hp4.rtr a ha
              have hz4 : br < w4.heap.size := hp4.o6
              clear hp4 kp4 HP1
              go_wp2_with fail
              refine (pairs_rtake HP4.out ha B ⟨fw, fs, fb⟩ er (by omega) (by omega) N3.out (by omega) HE.out).mono ?_
              rintro r w5 ⟨rfl, ⟨A5, c5, hp5⟩, kp5⟩
              have HP5 : Hid (Pairs w pw pr bp br key (updP st a (tookP (st a) ⟨fw, fs, fb⟩ er A5 c5)) (updP st a (tookP (st a) ⟨fw, fs, fb⟩ er A5 c5)) SA sc dl (w5.alloc (.cells #[.int .i64 fw, .int .i64 fs, .string fb] 30))) := Lib.hid ((hp5.alloc _).same (fun i hi => by
                by_cases e : i = a
                · subst e; rw [updP_same, updP_same]; exact ⟨rfl, rfl, rfl⟩
                · rw [updP_other _ _ _ _ e, updP_other _ _ _ _ e]; exact ⟨rfl, rfl, rfl⟩))
              obtain ⟨v0, v1, v2, _, _, _⟩ := Q4.out.keep kp5 (fun e => by have e2 : w4.heap.size = pr a := e; have := (hp5.pr_lt ha).2; omega)
              have hz5 : w4.heap.size < w5.heap.size := by have := kp5.size; simp at this; omega
              obtain ⟨tg1, tg2, tg3⟩ := took_got N3.out HE.out A5 c5
              have HN7 := Lib.hid (HN.out.upd a (tookP (st a) ⟨fw, fs, fb⟩ er A5 c5) n0 (by show (st a).sent ≤ (k : Int) + 1; omega) (Nat.le_trans tg3 (by omega)) tg1)
              clear hp5 kp5 HP4 Q4 tg1 tg2 tg3 p2 hz4 HE HN
              go_wp2_with fail
              obtain ⟨W5, hW5⟩ : ∃ W5, W5 = w5.alloc (.cells #[.int .i64 fw, .int .i64 fs, .string fb] 30) := ⟨_, rfl⟩
              rw [← hW5] at HP5 ⊢
              clear hW5 v0 v1 v2 hz5
              have HPT : Hid (PortAt W5 (pw a) key ((a : Int) + 1) (st a).sent (tookT (st a).t (⟨fw, fs, fb⟩, er)) (bitsF (tookP (st a) ⟨fw, fs, fb⟩ er A5 c5).t (tookP (st a) ⟨fw, fs, fb⟩ er A5 c5).g)) := Lib.hid (by have := HP5.out.port a ha; rw [updP_same] at this; exact this)
              have HRF : Hid (RefPort W5 (pr a) key ((a : Int) + 1) (st a).sent (tookT (st a).t (⟨fw, fs, fb⟩, er)) A5 c5 (tookP (st a) ⟨fw, fs, fb⟩ er A5 c5).g) := Lib.hid (by have := HP5.out.ref a ha; rw [updP_same] at this; exact this)
              obtain ⟨SN, hSN⟩ : ∃ SN, SN = (st a).sent := ⟨_, rfl⟩
              obtain ⟨TT, hTT⟩ : ∃ TT, TT = tookT (st a).t (⟨fw, fs, fb⟩, er) := ⟨_, rfl⟩
              rw [← hSN, ← hTT] at HPT HRF
              clear hSN hTT
              have q1 : W5.cell? ⟨bp, a, none⟩ = some (.pointer (some ⟨pw a, 0, none⟩)) := HP5.out.ptr a ha
              have q2 : W5.cell? ⟨br, a, none⟩ = some (.pointer (some ⟨pr a, 0, none⟩)) := HP5.out.rtr a ha
              have q3 := HRF.out.c2
              have q4 := HRF.out.win.c0
              go_wp2_with fail
              go_quiet ((first | (go_at_call 17; exact quiet_is (sent_any _ (HPT.out.drewN _))) | (go_at_call 18; exact quiet_is (top_any _ (HPT.out.drewN _)))))
              clear q1 q2 q3 q4
              go_wp2_with fail
              go_roundw
              case rel => exact ⟨k + 1, _, SA, sc, dl, by go_num, by omega, by omega, rfl, HN7, HD, Lib.hid (HP5.out.drewN _)⟩
              case measure => simp [intOf]; omega
            · have e2 : (o.kind == 2) = false := by simpa using hk3
              clear hk3 hk2 HP hou
              go_wp2_with fail
              clear c0 c1 c2 c3' e1 e2 p1 hz1 hand d1'
              obtain ⟨fw, fs, fb, er, he⟩ : ∃ fw fs fb er, takeL key.data.toList B.data.toList ((a : Int) + 1) (freshL (st a).t (st a).g) = (⟨fw, fs, fb⟩, er) := ⟨_, _, _, _, rfl⟩
              have HE := Lib.hid he
              clear he
              refine (pairs_take HP1.out ha B ⟨fw, fs, fb⟩ er (HR.out.below HP1.out.base) (by omega) (by omega) N3.out HE.out none 0).mono ?_
              rintro r w4 ⟨rfl, hp4, kp4⟩
              have HP4 := Lib.hid (hp4.alloc (.cells #[.int .i64 fw, .int .i64 fs, .string fb] 28))
              have Q4 := Lib.hid (three_new w4 (.int .i64 fw) (.int .i64 fs) (.string fb) 28)
              have p2 : w4.cell? ⟨br, a, none⟩ = some (.pointer (some ⟨pr a, 0, none⟩)) := hp4.rtr a ha
              have hz4 : br < w4.heap.size := hp4.o6
              clear hp4 kp4 HP1
              go_wp2_with fail
              refine (pairs_rtake HP4.out ha B ⟨fw, fs, fb⟩ er (by omega) (by omega) N3.out (by omega) HE.out).mono ?_
              rintro r w5 ⟨rfl, ⟨A5, c5, hp5⟩, kp5⟩
              have HP5 : Hid (Pairs w pw pr bp br key (updP st a (tookP (st a) ⟨fw, fs, fb⟩ er A5 c5)) (updP st a (tookP (st a) ⟨fw, fs, fb⟩ er A5 c5)) SA sc dl (w5.alloc (.cells #[.int .i64 fw, .int .i64 fs, .string fb] 30))) := Lib.hid ((hp5.alloc _).same (fun i hi => by
                by_cases e : i = a
                · subst e; rw [updP_same, updP_same]; exact ⟨rfl, rfl, rfl⟩
                · rw [updP_other _ _ _ _ e, updP_other _ _ _ _ e]; exact ⟨rfl, rfl, rfl⟩))
              obtain ⟨v0, v1, v2, _, _, _⟩ := Q4.out.keep kp5 (fun e => by have e2 : w4.heap.size = pr a := e; have := (hp5.pr_lt ha).2; omega)
              have hz5 : w4.heap.size < w5.heap.size := by have := kp5.size; simp at this; omega
              obtain ⟨tg1, tg2, tg3⟩ := took_got N3.out HE.out A5 c5
              have HN7 := Lib.hid (HN.out.upd a (tookP (st a) ⟨fw, fs, fb⟩ er A5 c5) n0 (by show (st a).sent ≤ (k : Int) + 1; omega) (Nat.le_trans tg3 (by omega)) tg1)
              clear hp5 kp5 HP4 Q4 tg1 tg2 tg3 p2 hz4 HE HN
              go_wp2_with fail
              obtain ⟨W5, hW5⟩ : ∃ W5, W5 = w5.alloc (.cells #[.int .i64 fw, .int .i64 fs, .string fb] 30) := ⟨_, rfl⟩
              rw [← hW5] at HP5 ⊢
              clear hW5 v0 v1 v2 hz5
              have HPT : Hid (PortAt W5 (pw a) key ((a : Int) + 1) (st a).sent (tookT (st a).t (⟨fw, fs, fb⟩, er)) (bitsF (tookP (st a) ⟨fw, fs, fb⟩ er A5 c5).t (tookP (st a) ⟨fw, fs, fb⟩ er A5 c5).g)) := Lib.hid (by have := HP5.out.port a ha; rw [updP_same] at this; exact this)
              have HRF : Hid (RefPort W5 (pr a) key ((a : Int) + 1) (st a).sent (tookT (st a).t (⟨fw, fs, fb⟩, er)) A5 c5 (tookP (st a) ⟨fw, fs, fb⟩ er A5 c5).g) := Lib.hid (by have := HP5.out.ref a ha; rw [updP_same] at this; exact this)
              obtain ⟨SN, hSN⟩ : ∃ SN, SN = (st a).sent := ⟨_, rfl⟩
              obtain ⟨TT, hTT⟩ : ∃ TT, TT = tookT (st a).t (⟨fw, fs, fb⟩, er) := ⟨_, rfl⟩
              rw [← hSN, ← hTT] at HPT HRF
              clear hSN hTT
              have q1 : W5.cell? ⟨bp, a, none⟩ = some (.pointer (some ⟨pw a, 0, none⟩)) := HP5.out.ptr a ha
              have q2 : W5.cell? ⟨br, a, none⟩ = some (.pointer (some ⟨pr a, 0, none⟩)) := HP5.out.rtr a ha
              have q3 := HRF.out.c2
              have q4 := HRF.out.win.c0
              go_wp2_with fail
              go_quiet ((first | (go_at_call 17; exact quiet_is (sent_any _ (HPT.out.drewN _))) | (go_at_call 18; exact quiet_is (top_any _ (HPT.out.drewN _)))))
              clear q1 q2 q3 q4
              go_wp2_with fail
              go_roundw
              case rel => exact ⟨k + 1, _, SA, sc, dl, by go_num, by omega, by omega, rfl, HN7, HD, Lib.hid (HP5.out.drewN _)⟩
              case measure => simp [intOf]; omega
    · obtain rfl : k = n := by omega
      have HB := Lib.hid HP.out.base
      clear HP HN HD
      go_wp2_with fail
      refine (portnew_any key way _ (by omega)).mono ?_
      rintro r w4 ⟨pc, rfl, hc, hpc, hb4⟩
      have HC := Lib.hid hc
      have B4 := Lib.hid (below_step HB.out hb4)
      clear hc hpc hb4 HB
      go_wp2_with fail
      refine (send_nil _ _).mono ?_
      rintro r w5 ⟨rfl, rfl⟩
      go_wp2_with fail
      refine (take_nil _ _).mono ?_
      rintro r w5 ⟨rfl, hb5⟩
      have HC5 := Lib.hid ((HC.out.below hb5).alloc (.cells #[.int .i64 0, .int .i64 0, .string ⟨#[]⟩] 28))
      have B5 := Lib.hid ((below_step B4.out hb5).alloc (below_step B4.out hb5).size (.cells #[.int .i64 0, .int .i64 0, .string ⟨#[]⟩] 28))
      clear hb5 HC B4
      by_cases hw1 : way = 1
      · have f1 : (way == 1) = true := by simp [hw1]
        clear hw1
        go_wp2_with (first | (go_at_call 17; refine (sent_nil _).mono ?_; rintro r w6 ⟨rfl, rfl⟩) | (go_at_call 18; refine (top_nil _).mono ?_; rintro r w6 ⟨rfl, rfl⟩))
        go_ret
        exact ⟨rfl, B5.out⟩
      have f1 : (way == 1) = false := by simpa using hw1
      by_cases hw2 : way = 2
      · have f2 : (way == 2) = true := by simp [hw2]
        clear hw1 hw2
        go_wp2_with (first | (go_at_call 17; refine (sent_nil _).mono ?_; rintro r w6 ⟨rfl, rfl⟩) | (go_at_call 18; refine (top_nil _).mono ?_; rintro r w6 ⟨rfl, rfl⟩))
        go_ret
        exact ⟨rfl, B5.out⟩
      have f2 : (way == 2) = false := by simpa using hw2
      have HNW : Hid (¬ (way = 1 ∨ way = 2)) := Lib.hid (by omega)
      clear hw1 hw2
      go_wp2_with (first | (go_at_call 17; refine (sent_nil _).mono ?_; rintro r w6 ⟨rfl, rfl⟩) | (go_at_call 18; refine (top_nil _).mono ?_; rintro r w6 ⟨rfl, rfl⟩))
      refine (send_no _ _ HC5.out HNW.out).mono ?_
      rintro r w6 ⟨rfl, rfl⟩
      go_wp2_with fail
      refine (take_no _ _ HC5.out HNW.out).mono ?_
      rintro r w7 ⟨rfl, hb7⟩
      have B7 := Lib.hid ((below_step B5.out hb7).alloc (below_step B5.out hb7).size (.cells #[.int .i64 0, .int .i64 0, .string ⟨#[]⟩] 28))
      clear hb7
      go_wp2_with fail
      go_ret
      exact ⟨rfl, B7.out⟩

set_option maxRecDepth 100000 in
set_option maxHeartbeats 1600000 in
theorem walk_FramePlays (key : ByteArray) (hk : key.size ≤ maxLen) (Z : Option Addr) (n cz : Nat) (ops : List FOp) (way : Int) (hw : (Lit.int .i64 way).wf = true) (w : World) (ho : Structs (FOpAt w) 4 w Z n ops) (hr : Roots w) :
    Calls Tryd.prog 4 #[.string key, .slice Z n cz, .int .i64 way] w fun e w' => e = .returned (.bool true) ∧ Below w.heap.size w w' := by
  unfold maxLen at hk
  have hnm := ho.2.1
  unfold maxLen at hnm
  by_cases h1 : 100 < key.size
  · have h1' : (100 : Int) < (key.size : Int) := by omega
    have HR := Lib.hid hr
    clear hr ho hw
    go_enter Tryd.func4, Tryd.ntmps4
    go_wp2_with fail
    refine (alive_any w HR.out).mono ?_
    rintro r w1 ⟨rfl, b1⟩
    go_wp2_with fail
    go_ret
    exact ⟨rfl, b1⟩
  by_cases h2 : 80 < n
  · have h1' : ¬ (100 : Int) < (key.size : Int) := by omega
    have h2' : decide ((80 : Int) < (n : Int)) = true := decide_eq_true (by omega)
    have HR := Lib.hid hr
    clear hr ho hw
    go_enter Tryd.func4, Tryd.ntmps4
    go_wp2_with fail
    refine (alive_any w HR.out).mono ?_
    rintro r w1 ⟨rfl, b1⟩
    go_wp2_with fail
    go_ret
    exact ⟨rfl, b1⟩
  exact plays_good key Z n cz ops way w (by omega) (by omega) ho (wf_bounds hw) hr


end Go.Proofs.YtncpjapfkcgjnaaDoor
