/- Law NvtGiven: the walk. Own work. -/
import Derived.Test.YtnnkgdggkinblaaNvtGivenM
import Derived.Test.YtnnkgdggkinblaaNvtAlive
import Derived.Test.YtnnkgdggkinblaaFeedOne
import Derived.Deep.DeepCutAuto
import Derived.Deep.CutRange
namespace Go.Proofs.Ytnnkgdggkinblaa
set_option linter.unusedVariables false
set_option linter.unusedSimpArgs false
open Go.RowKit

theorem given_cmd (m : Nat) (hm : (m : Int) ≤ 14) (h : ((240 : Int) + (m : Int) == 240) = false) : ∃ C : UInt8, Value.int .u8 (240 + (m : Int)) = .int .u8 (C.toNat : Int) ∧ (241 ≤ C ∧ C ≤ 254) := by
  have hm0 : m ≠ 0 := fun e => by subst e; simp at h
  have hn : (UInt8.ofNat (240 + m)).toNat = 240 + m := toNat_ofNat (by omega)
  refine ⟨UInt8.ofNat (240 + m), by rw [hn]; congr 1, ?_, ?_⟩
  · rw [UInt8.le_iff_toNat_le, hn]; show 241 ≤ _; omega
  · rw [UInt8.le_iff_toNat_le, hn]; show _ ≤ 254; omega

/-- string([]byte{..}). -/
theorem run_three (W : World) (l : List UInt8) (g : Nat) (hg : g = W.heap.size) (n : Nat) (hn : l.length = n) : (convert 44 9 (.slice (some ⟨g, 0, none⟩) n n)).run Try.prog (W.alloc (.cells (Lib.byteCells l).toArray 5)) = .ok (.string ⟨l.toArray⟩) (W.alloc (.cells (Lib.byteCells l).toArray 5)) := by
  subst hg
  subst hn
  exact run_convert_bytes_back _ 44 9 5 _ _ l Try.underlying44 Try.underlying5 Try.underlying9 (Lib.bytes_of_row (heap_alloc_new W _) (by rw [List.toList_toArray, List.take_of_length_le (by rw [Lib.byteCells_length]; exact Nat.le_refl _)]))

set_option maxRecDepth 100000 in
set_option maxHeartbeats 3200000 in
theorem given_good (body : ByteArray) (hb : body.size ≤ 60) (cmd : Int) (hc : -9223372036854775808 ≤ cmd ∧ cmd ≤ 9223372036854775807) (o8 : UInt8) (more : ByteArray) (hm : more.size ≤ 200) (w : World) :
    Calls Try.prog 4 #[.string body, .int .i64 cmd, .int .i64 (o8.toNat : Int), .string more] w fun e w' => e = .returned (.bool true) ∧ Below w.heap.size w w' := by
  have k1 : ¬ (60 < (body.size : Int)) := by omega
  have k2 : ¬ (200 < (more.size : Int)) := by omega
  have k3 : (0 : Int) ≤ (o8.toNat : Int) := by omega
  have k4 : (o8.toNat : Int) ≤ 255 := by have := o8.toNat_lt; omega
  obtain ⟨hc0, hc1⟩ := hc
  obtain ⟨tm, htm⟩ : ∃ tm, cmd.tmod 15 = tm := ⟨_, rfl⟩
  have ht1 : -14 ≤ tm := by
    have h1 := Int.natAbs_tmod cmd 15
    have h2 := Nat.mod_lt cmd.natAbs (show 0 < (15 : Int).natAbs by decide)
    rw [← h1, htm] at h2
    have : (15 : Int).natAbs = 15 := rfl
    omega
  have ht2 : tm ≤ 14 := by
    have := Int.tmod_lt_of_pos cmd (show (0 : Int) < 15 by omega)
    omega
  obtain ⟨m, hmm⟩ : ∃ m : Nat, (tm + 15) % 15 = (m : Int) := ⟨((tm + 15) % 15).toNat, by omega⟩
  have hm0 : (0 : Int) ≤ (m : Int) := by omega
  have hm1 : (m : Int) ≤ 14 := by omega
  have HBS := Lib.hid hb
  have HMS := Lib.hid hm
  clear hb hm
  go_enter Try.func4, Try.ntmps4
  go_wp2_with fail
  refine (alive_any w).mono ?_
  rintro r w1 ⟨rfl, b1⟩
  have B1 := Lib.hid b1
  clear b1
  have hne1 : (255 < (o8.toNat : Int)) = False := by simp; omega
  have hne0 : ((o8.toNat : Int) < 0) = False := by simp
  go_upto_if 45 with (fail)
  go_cut [9] (fun c wx => ∃ C : UInt8, c = .int .u8 (C.toNat : Int) ∧ Hid (241 ≤ C ∧ C ≤ 254) ∧ wx = w1)
  case first =>
    go_wp2_with fail
    all_goals go_meet
    · exact ⟨241, rfl, Lib.hid (by decide), rfl⟩
    · obtain ⟨C, e, h⟩ := given_cmd m hm1 (by assumption)
      exact ⟨C, e, Lib.hid h, rfl⟩
  case rest =>
    obtain ⟨C, rfl, hC, rfl⟩ := hcut
    have c0 : (0 : Int) ≤ (C.toNat : Int) := by omega
    have c1 : (C.toNat : Int) ≤ 255 := by have := C.toNat_lt; omega
    have hbs : (body.size : Int) ≤ 60 := by have := HBS.out; omega
    clear htm ht1 ht2 hmm hm0 hm1 hc0 hc1
    go_wp2_with fail
    go_loop [10] (fun i => ∃ k : Nat, i = .int .i64 k ∧ k ≤ body.size ∧ Hid (∀ b ∈ body.data.toList.take k, b ≠ 255)) (fun i => body.size - (intOf i).toNat)
    case atStart => exact ⟨0, rfl, by omega, Lib.hid (by simp)⟩
    case round =>
      obtain ⟨k, rfl, hk, hok⟩ := hrel
      by_cases hlt : k < body.size
      · obtain ⟨y, hy⟩ : ∃ y, y = body[k] := ⟨_, rfl⟩
        by_cases h255 : y = 255
        · have t1 : (((body[k]).toNat : Int) == 255) = true := by rw [← hy, h255]; rfl
          clear hy h255
          go_wp2_with fail
          go_ret
          exact ⟨rfl, B1.out⟩
        · have t1 : (((body[k]).toNat : Int) == 255) = false := by
            rw [← hy]; have := mt (u8_eq y 255).1 h255; simpa using this
          have HO : Hid (∀ b ∈ body.data.toList.take (k + 1), b ≠ 255) := Lib.hid (by
            intro b hb
            rw [List.take_succ_eq_append_getElem (by simpa using hlt)] at hb
            rcases List.mem_append.1 hb with hb | hb
            · exact hok.out b hb
            · have : b = y := by have := List.mem_singleton.1 hb; rw [this, hy]; rfl
              rw [this]; exact h255)
          clear hy h255
          go_wp2_with fail
          go_round
          case rel => exact ⟨k + 1, by go_num, by omega, HO⟩
          case measure => simp [intOf]; omega
      · have hks : k = body.size := by omega
        subst hks
        have HOK : Hid (∀ b ∈ body.data.toList, b ≠ 255) := Lib.hid (by
          have := hok.out
          rwa [List.take_of_length_le (by rw [← Lib.size_eq]; exact Nat.le_refl _)] at this)
        obtain ⟨CS, hCS⟩ : ∃ CS, CS = rdCells false := ⟨_, rfl⟩
        have hb := rd_built0
        rw [← hCS] at hb
        have HB := Lib.hid hb
        have HCS := Lib.hid hCS
        clear hb hCS hok
        have hcv : (convert 44 9 (.slice (some ⟨wc.heap.size + 1 + 1, 0, none⟩) 3 3)).run Try.prog (((wc.alloc (.cells CS 48)).alloc (.cells CS 48)).alloc (.cells #[.int .u8 255, .int .u8 (C.toNat : Int), .int .u8 (o8.toNat : Int)] 5)) =
            .ok (.string ⟨#[255, C, o8]⟩) (((wc.alloc (.cells CS 48)).alloc (.cells CS 48)).alloc (.cells #[.int .u8 255, .int .u8 (C.toNat : Int), .int .u8 (o8.toNat : Int)] 5)) :=
          run_three ((wc.alloc (.cells CS 48)).alloc (.cells CS 48)) [255, C, o8] (wc.heap.size + 1 + 1) (by simp) 3 rfl
        have hmz : (⟨#[255, C, o8]⟩ : ByteArray).size + more.size ≤ 9223372036854775807 := by
          have := HMS.out
          show 3 + more.size ≤ _
          omega
        go_upto_region 12 with (with_reducible refine wpList_built rfl 48 #[] rfl CS (by simp only [List.map_toArray, List.map_nil]; exact HB.out) ?_)
        go_wp2_with fail
        obtain ⟨tl, htl⟩ : ∃ tl : ByteArray, tl = (⟨#[255, C, o8]⟩ : ByteArray) ++ more := ⟨_, rfl⟩
        rw [← htl]
        have htd : tl.data.toList = 255 :: C :: (o8 :: more.data.toList) := by rw [htl]; simp
        have hts : tl.size ≤ 203 := by rw [Lib.size_eq, htd]; have := HMS.out; rw [Lib.size_eq] at this; simp; omega
        obtain ⟨W, hW⟩ : ∃ W, W = ((wc.alloc (.cells CS 48)).alloc (.cells CS 48)).alloc (.cells #[.int .u8 255, .int .u8 (C.toNat : Int), .int .u8 (o8.toNat : Int)] 5) := ⟨_, rfl⟩
        rw [← hW]
        obtain ⟨pa, hpa⟩ : ∃ pa, pa = wc.heap.size := ⟨_, rfl⟩
        have hWz : W.heap.size = pa + 1 + 1 + 1 := by rw [hW, hpa]; simp
        have RA0 : RdIn W pa false false Rd.new none 0 := by
          rw [hW, hpa, HCS.out]
          exact ((rd_new wc false).alloc _).alloc _
        have RB0 : RdIn W (pa + 1) false false Rd.new none 0 := by
          have h1 := rd_new (wc.alloc (.cells (rdCells false) 48)) false
          rw [show (wc.alloc (.cells (rdCells false) 48)).heap.size = wc.heap.size + 1 from by simp] at h1
          rw [hW, hpa, HCS.out]
          exact h1.alloc _
        have BW : Below w.heap.size w W := by
          have hz := B1.out.size
          rw [hW]
          exact ((B1.out.alloc hz _).alloc (by simp; omega) _).alloc (by simp; omega) _
        have hwp : w.heap.size ≤ pa := by rw [hpa]; exact B1.out.size
        obtain ⟨hF, hG⟩ := given_feed body.data.toList C (o8 :: more.data.toList) HOK.out hC.out.1 hC.out.2
        obtain ⟨l, hl⟩ : ∃ l, l = feedL false Rd.new tl.data.toList := ⟨_, rfl⟩
        obtain ⟨rr, hrr⟩ : ∃ rr, rr = goL false Rd.new tl.data.toList := ⟨_, rfl⟩
        have hJ : joinL [⟨#[255, 250, 5]⟩, body, tl] = [255, 250, 5] ++ (body.data.toList ++ tl.data.toList) := by simp [joinL]
        have hll : l.length ≤ 203 := by
          have h1 := feed_len false Rd.new tl.data.toList
          rw [← hl, ← Lib.size_eq] at h1
          omega
        have F1 := feed_any pa false false Rd.new none 0 (some ⟨pa + 1 + 1 + 1, 0, none⟩) 3 3 [⟨#[255, 250, 5]⟩, body, tl] (W.alloc (.cells #[.string ⟨#[255, 250, 5]⟩, .string body, .string tl] 9)) (RA0.alloc _) (src_new W [.string ⟨#[255, 250, 5]⟩, .string body, .string tl] 9 _ hWz.symm 3 rfl) (fun i hi x => by
          have h1 : i = pa + 1 + 1 + 1 := by simp [blk] at hi; omega
          rcases x with x | x
          · omega
          · simp [blk] at x) (by omega) (by
            have : sum [⟨#[255, 250, 5]⟩, body, tl] = 3 + (body.size + (tl.size + 0)) := rfl
            have := HBS.out
            omega)
        rw [hJ, htd, hF, hG, ← htd, ← hl, ← hrr] at F1
        have F2 := fun (W' : World) h => feed_one (pa + 1) false false Rd.new none 0 tl W' h (by omega)
        rw [← hl, ← hrr] at F2
        have FF1 := Lib.hid F1
        have FF2 := Lib.hid F2
        have RA := Lib.hid RA0
        have RB := Lib.hid RB0
        have HBW := Lib.hid BW
        have HWZ := Lib.hid hWz
        rw [← hpa]
        have HPA := Lib.hid hpa
        clear F1 F2 RA0 RB0 BW hWz hF hG hJ hl hrr hW htl htd hcv hmz hpa
        refine FF1.out.mono ?_
        rintro e w3 ⟨v1, rfl, hr1, A1, c1, h1, s1, hv1⟩
        have hz3 : W.heap.size + 1 ≤ w3.heap.size := by have := s1.1.size; simpa using this
        have own1 : ∀ i, rdOwn pa A1 i → i = pa ∨ pa + 1 + 1 + 1 ≤ i := fun i hi => by
          rcases s1.2 i hi with x | x
          · exact .inl (rdOwn_none x)
          · have := HWZ.out; simp at x; exact .inr (by omega)
        have RB3 := Lib.hid (((RB.out.alloc (.cells #[.string ⟨#[255, 250, 5]⟩, .string body, .string tl] 9))).keep s1.1 (fun i hi x => by have := rdOwn_none hi; have := rdOwn_none x; omega))
        have BW3 : Below w.heap.size w w3 := by
          have h0 : Below w.heap.size W (W.alloc (.cells #[.string ⟨#[255, 250, 5]⟩, .string body, .string tl] 9)) := (Below.refl _ _).alloc (by have := HWZ.out; omega) _
          exact (HBW.out.trans h0).trans (s1.1.below (by have := HWZ.out; simp; omega) (fun i hi x => by have := rdOwn_none x; omega))
        have R1 := Lib.hid h1
        have HR1 := Lib.hid hr1
        have HO1 := Lib.hid own1
        have HB3 := Lib.hid BW3
        have HV1 := Lib.hid (show ∀ i, v1.ownBlock = some i → i ≠ pa + 1 from fun i hi => by
          have h0 := (hr1.lt i hi).1
          have h2 := HWZ.out
          simp at h0
          omega)
        clear hr1 h1 s1 hv1 own1 BW3
        go_wp2_with fail
        refine (FF2.out w3 RB3.out).mono ?_
        rintro e w4 ⟨v2, rfl, hr2, A2, c2, h2, s2, _⟩
        have hr1' := own_keep HR1.out s2.1 (fun i hi x => HV1.out i hi (rdOwn_none x))
        have h1' := R1.out.keep s2.1 (fun i hi x => by
          have h0 := rdOwn_none x
          rcases HO1.out i hi with y | y <;> omega)
        have HB4 := Lib.hid (show Below w.heap.size w w4 from HB3.out.trans (s2.1.below HB3.out.size (fun i hi x => by have := rdOwn_none x; omega)))
        obtain ⟨X1, d1, rfl, _⟩ := own_form hr1'
        obtain ⟨X2, d2, rfl, _⟩ := own_form hr2
        have HR4 := Lib.hid hr1'
        have HR5 := Lib.hid hr2
        have RA4 := Lib.hid h1'
        have RB4 := Lib.hid h2
        clear hr1' hr2 h1' h2 s2 HR1 HV1 HO1 RB3 FF1 FF2 R1 hz3
        have hlb : (l.length : Int) ≤ 203 := by omega
        go_wp2_with fail
        go_loopw [16] (fun i wr => ∃ (k q : Nat), i = .int .i64 k ∧ k ≤ l.length ∧ wr = w4.drewN q) (fun i _ => l.length - (intOf i).toNat)
        case atStart => exact ⟨0, 0, rfl, by omega, rfl⟩
        case round =>
          obtain ⟨k, q, rfl, hk, rfl⟩ := hrel
          by_cases hlt : k < l.length
          · obtain ⟨t, ht⟩ : ∃ t, l[k]? = some t := ⟨_, List.getElem?_eq_getElem hlt⟩
            obtain ⟨g1, e1, q1, hg1, p0, p1, p2, p3⟩ := tok_cells HR4.out ht
            obtain ⟨g2, e2, q2, hg2, q0, q1', q2', q3⟩ := tok_cells HR5.out ht
            injection q1 with q1 _ q4
            injection q2 with q2 _ q5
            subst q1 q2 q4 q5
            have hki : ((k : Int) < (l.length : Int)) := by omega
            have hk0 : (0 : Int) ≤ (k : Int) := by omega
            obtain ⟨T, hT⟩ : ∃ T : ByteArray, T = ⟨t.text.toArray⟩ := ⟨_, rfl⟩
            rw [← hT] at p3 q3
            clear ht hT
            go_wp2_with fail
            go_quiet (fail)
            go_wp2_with fail
            go_roundw
            case rel => exact ⟨k + 1, _, by go_num, by omega, rfl⟩
            case measure => simp [intOf]; omega
          · have HWA := Lib.hid (whole_any _ _ _ _ _ _ _ (RA4.out.drewN q))
            have HWB := Lib.hid (whole_any _ _ _ _ _ _ _ (RB4.out.drewN q))
            have HSA := Lib.hid (sub_any _ _ _ _ _ _ _ (RA4.out.drewN q))
            have HSB := Lib.hid (sub_any _ _ _ _ _ _ _ (RB4.out.drewN q))
            obtain ⟨wh, hwh⟩ : ∃ wh, wh = wholeL rr := ⟨_, rfl⟩
            rw [← hwh] at HWA HWB
            have HD := Lib.hid (show Below w.heap.size w (w4.drewN q) from ⟨HB4.out.os, HB4.out.tape, HB4.out.output, HB4.out.size, HB4.out.block⟩)
            clear hwh
            go_wp2_with fail
            refine HWA.out.mono ?_
            rintro e w5 ⟨rfl, rfl⟩
            go_wp2_with fail
            refine HWB.out.mono ?_
            rintro e w5 ⟨rfl, rfl⟩
            cases wh
            all_goals
              go_wp2_with fail
              refine HSA.out.mono ?_
              rintro e w5 ⟨rfl, rfl⟩
              go_wp2_with fail
              refine HSB.out.mono ?_
              rintro e w5 ⟨rfl, rfl⟩
              go_wp2_with fail
              go_ret
              exact ⟨rfl, HD.out⟩

set_option maxRecDepth 100000 in
set_option maxHeartbeats 1600000 in
theorem walk_NvtGiven (body : ByteArray) (hb : body.size ≤ maxLen) (cmd : Int) (hc : (Lit.int .i64 cmd).wf = true) (o : Int) (ho : (Lit.int .i64 o).wf = true) (more : ByteArray) (hm : more.size ≤ maxLen) (w : World) :
    Calls Try.prog 4 #[.string body, .int .i64 cmd, .int .i64 o, .string more] w fun e w' => e = .returned (.bool true) ∧ Below w.heap.size w w' := by
  have hcb := wf_bounds hc
  unfold maxLen at hb hm
  clear hc ho
  by_cases h1 : 60 < body.size
  · have t1 : (60 : Int) < (body.size : Int) := by omega
    clear hcb
    go_enter Try.func4, Try.ntmps4
    go_wp2_with fail
    refine (alive_any w).mono ?_
    rintro r w1 ⟨rfl, b1⟩
    go_wp2_with fail
    go_ret
    exact ⟨rfl, b1⟩
  by_cases h2 : 200 < more.size
  · have t1 : ¬ (60 : Int) < (body.size : Int) := by omega
    have t2 : (200 : Int) < (more.size : Int) := by omega
    clear hcb
    go_enter Try.func4, Try.ntmps4
    go_wp2_with fail
    refine (alive_any w).mono ?_
    rintro r w1 ⟨rfl, b1⟩
    go_wp2_with fail
    go_ret
    exact ⟨rfl, b1⟩
  by_cases h3 : o < 0
  · have t1 : ¬ (60 : Int) < (body.size : Int) := by omega
    have t2 : ¬ (200 : Int) < (more.size : Int) := by omega
    clear hcb
    go_enter Try.func4, Try.ntmps4
    go_wp2_with fail
    refine (alive_any w).mono ?_
    rintro r w1 ⟨rfl, b1⟩
    go_wp2_with fail
    go_ret
    exact ⟨rfl, b1⟩
  by_cases h4 : 255 < o
  · have t1 : ¬ (60 : Int) < (body.size : Int) := by omega
    have t2 : ¬ (200 : Int) < (more.size : Int) := by omega
    clear hcb
    go_enter Try.func4, Try.ntmps4
    go_wp2_with fail
    refine (alive_any w).mono ?_
    rintro r w1 ⟨rfl, b1⟩
    go_wp2_with fail
    go_ret
    exact ⟨rfl, b1⟩
  obtain ⟨o8, rfl⟩ : ∃ o8 : UInt8, o = (o8.toNat : Int) := ⟨UInt8.ofNat o.toNat, by rw [toNat_ofNat (by omega)]; omega⟩
  exact given_good body (by omega) cmd hcb o8 more (by omega) w

end Go.Proofs.Ytnnkgdggkinblaa
