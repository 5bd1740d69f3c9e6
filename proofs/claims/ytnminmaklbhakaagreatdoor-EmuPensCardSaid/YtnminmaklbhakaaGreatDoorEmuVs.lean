/- emu: csi, act. Own work. What a parser tells are acts that may be: runes, bytes, numbers within their bounds; replies are short. Own work. No act has more than eight numbers: beside the program. Own work (as esc's XActsR). -/
import Derived.Test.YtnminmaklbhakaaGreatDoorEmuU
import Derived.Test.YtnminmaklbhakaaGreatDoorEmuKs
set_option linter.unusedVariables false
set_option linter.unusedSimpArgs false
namespace Go.Proofs.YtnminmaklbhakaaGreatDoor
set_option linter.unusedVariables false
set_option linter.unusedSimpArgs false
open Go.RowKit

theorem NumsIn.quiet {w w' : World} {e : Nat} {L : Loc} {A : Option Addr} {n c : Nat} {xs : List Int} (h : NumsIn w e L A n c xs) (k : Keep (fun _ => False) w w') : NumsIn w' e L A n c xs :=
  ⟨h.src.keep k, fun h0 b hb => ⟨(h.far h0 b hb).1, Nat.lt_of_lt_of_le (h.far h0 b hb).2 k.size⟩, h.le, h.cap, h.bd⟩
theorem UnTo.quiet {e : Nat} {L : Loc} {w V : World} {x : EmM × List Nat} {v : Ending} {w' : World} (h : UnTo e L V x v w') (he : e < w.heap.size) (k : Keep (fun _ => False) w V) : UnTo e L w x v w' := by
  obtain ⟨h1, L', h2, h3⟩ := h
  exact ⟨h1, L', h2, ((Mv.refl e L w).quiet he k).trans h3⟩

/-- An act that a parser may tell. -/
structure ActOk (a : EAct) : Prop where
  r : a.rune ≤ 1114111
  b : a.byte < 256
  i : ∀ x ∈ a.inter, x < 256
  n : ∀ x ∈ a.nums, -1 ≤ x ∧ x ≤ 9999

set_option maxRecDepth 100000 in
set_option maxHeartbeats 3200000 in
theorem emu_csi (w : World) (e : Nat) (L : Loc) (m : EmM) (a : EAct) (s : Option Addr × Nat) (h : EmR w e L m) (hn : NumsIn w e L s.1 a.nums.length s.2 a.nums) (ha : ActOk a) :
    Calls Tryz.prog 54 #[.pointer (some ⟨e, 0, none⟩), .agg #[.int .i64 (a.kind : Int), .int .i32 (a.rune : Int), .int .i64 (a.byte : Int), .int .i64 (a.mark : Int), .slice s.1 a.nums.length s.2, .string (bytesN a.inter), .string (bytesN a.text)]] w (UnTo e L w (m.csi a)) := by
  have HE := Lib.hid h
  have helt := h.elt
  obtain ⟨W0, hW0⟩ : ∃ W0, W0 = w.alloc (.cells #[.int .i64 (a.kind : Int), .int .i32 (a.rune : Int), .int .i64 (a.byte : Int), .int .i64 (a.mark : Int), .slice s.1 a.nums.length s.2, .string (bytesN a.inter), .string (bytesN a.text)] 52) := ⟨_, rfl⟩
  have K0 : Hid (Keep (fun _ => False) w W0) := Lib.hid (by rw [hW0]; exact (Keep.refl _ w).alloc _)
  have hq0 : W0.heap[w.heap.size]? = some (.cells #[.int .i64 (a.kind : Int), .int .i32 (a.rune : Int), .int .i64 (a.byte : Int), .int .i64 (a.mark : Int), .slice s.1 a.nums.length s.2, .string (bytesN a.inter), .string (bytesN a.text)] 52 (0, 0)) := by rw [hW0]; exact heap_alloc_new w _
  have d2 := cell_at hq0 2
  have d3 := cell_at hq0 3
  have d4 := cell_at hq0 4
  have d5 := cell_at hq0 5
  have HUN := Lib.hid (emu_unmarked W0 e L m a.byte s.1 a.nums.length s.2 a.nums (HE.out.quiet K0.out) (hn.quiet K0.out))
  have HTM := Lib.hid (fun on => emu_turnM W0 e L m on s.1 a.nums.length s.2 a.nums (HE.out.quiet K0.out) (hn.quiet K0.out).src (hn.quiet K0.out).far hn.le)
  generalize hA1 : s.1 = A1 at *
  generalize hA2 : s.2 = A2 at *
  generalize hNL : a.nums.length = NL at *
  clear h hn hq0
  by_cases h0 : a.inter = []
  · rw [h0] at d5 hW0
    have d5 : W0.cell? ⟨w.heap.size, 5, none⟩ = some (.string ⟨#[]⟩) := d5
    rw [h0]
    by_cases h1 : a.mark = 0
    · have E1 : Hid (m.csi a = m.unmarked a.byte a.nums) := Lib.hid (by unfold EmM.csi; rw [if_neg (by simp [h0]), if_pos h1])
      have t0 : ((a.mark : Int) == 0) = true := by simp; omega
      generalize a.byte = B at *
      generalize a.mark = MK at *
      clear h0 h1
      go_enter Tryz.func54, Tryz.ntmps54
      go_upto_region 1 with fail
      rw [← hW0]
      clear hW0
      go_wp2_with fail
      refine HUN.out.mono ?_
      rintro v w5 ⟨rfl, hu⟩
      have HU := Lib.hid hu
      clear hu
      go_wp2_with fail
      go_ret
      rw [E1.out]
      exact UnTo.quiet ⟨rfl, HU.out⟩ helt K0.out
    · have t0 : ((a.mark : Int) == 0) = false := by simp; omega
      by_cases h2 : a.mark = 63 ∧ (a.byte = 104 ∨ a.byte = 108)
      · obtain ⟨h2, h3⟩ := h2
        have E1 : Hid (m.csi a = (a.nums.foldl (EmM.turnM (a.byte == 104)) m, [])) := Lib.hid (by unfold EmM.csi; rw [if_neg (by simp [h0]), if_neg h1, if_pos ⟨h2, h3⟩])
        have t1 : ((a.mark : Int) == 63) = true := by simp; omega
        rcases h3 with h3 | h3
        · have e2 : (a.byte == 104) = true := by simp [h3]
          rw [e2] at E1
          have t2 : ((a.byte : Int) == 104) = true := by simp; omega
          generalize a.byte = B at *
          generalize a.mark = MK at *
          clear e2 h1 h2 h3 h0
          go_enter Tryz.func54, Tryz.ntmps54
          go_upto_region 1 with fail
          rw [← hW0]
          clear hW0
          go_wp2_with fail
          refine (HTM.out true).mono ?_
          rintro v w5 ⟨rfl, hu⟩
          have HU := Lib.hid hu
          clear hu
          go_wp2_with fail
          go_ret
          rw [E1.out]
          exact UnTo.quiet ⟨rfl, HU.out⟩ helt K0.out
        · have e2 : (a.byte == 104) = false := by simp [h3]
          rw [e2] at E1
          have t2 : ((a.byte : Int) == 104) = false := by simp; omega
          have t3 : ((a.byte : Int) == 108) = true := by simp; omega
          generalize a.byte = B at *
          generalize a.mark = MK at *
          clear e2 h1 h2 h3 h0
          go_enter Tryz.func54, Tryz.ntmps54
          go_upto_region 1 with fail
          rw [← hW0]
          clear hW0
          go_wp2_with fail
          refine (HTM.out false).mono ?_
          rintro v w5 ⟨rfl, hu⟩
          have HU := Lib.hid hu
          clear hu
          go_wp2_with fail
          go_ret
          rw [E1.out]
          exact UnTo.quiet ⟨rfl, HU.out⟩ helt K0.out
      · have E1 : Hid (m.csi a = (m, [])) := Lib.hid (by unfold EmM.csi; rw [if_neg (by simp [h0]), if_neg h1, if_neg h2])
        by_cases h3 : a.mark = 63
        · have t1 : ((a.mark : Int) == 63) = true := by simp; omega
          have t2 : ((a.byte : Int) == 104) = false := by simp; omega
          have t3 : ((a.byte : Int) == 108) = false := by simp; omega
          generalize a.byte = B at *
          generalize a.mark = MK at *
          clear h1 h2 h3 h0
          go_enter Tryz.func54, Tryz.ntmps54
          go_upto_region 1 with fail
          rw [← hW0]
          clear hW0
          go_wp2_with fail
          go_ret
          rw [E1.out]
          exact UnTo.quiet ⟨rfl, L, HE.out.quiet K0.out, Mv.refl _ _ _⟩ helt K0.out
        · have t1 : ((a.mark : Int) == 63) = false := by simp; omega
          generalize a.byte = B at *
          generalize a.mark = MK at *
          clear h1 h2 h3 h0
          go_enter Tryz.func54, Tryz.ntmps54
          go_upto_region 1 with fail
          rw [← hW0]
          clear hW0
          go_wp2_with fail
          go_ret
          rw [E1.out]
          exact UnTo.quiet ⟨rfl, L, HE.out.quiet K0.out, Mv.refl _ _ _⟩ helt K0.out
  · have E1 : Hid (m.csi a = (m, [])) := Lib.hid (by unfold EmM.csi; rw [if_pos h0])
    have hs0 : (bytesN a.inter).toList.isEmpty = false := not_empty (by rw [bytesN_size]; intro e; exact h0 (List.eq_nil_of_length_eq_zero e))
    generalize bytesN a.inter = S at *
    clear h0
    go_enter Tryz.func54, Tryz.ntmps54
    go_upto_region 1 with fail
    rw [← hW0]
    clear hW0
    go_wp2_with fail
    go_ret
    rw [E1.out]
    exact UnTo.quiet ⟨rfl, L, HE.out.quiet K0.out, Mv.refl _ _ _⟩ helt K0.out

set_option maxRecDepth 100000 in
set_option maxHeartbeats 3200000 in
theorem emu_act (w : World) (e : Nat) (L : Loc) (m : EmM) (a : EAct) (s : Option Addr × Nat) (h : EmR w e L m) (hp : ParC w e) (hn : NumsIn w e L s.1 a.nums.length s.2 a.nums) (ha : ActOk a) :
    Calls Tryz.prog 38 #[.pointer (some ⟨e, 0, none⟩), .agg #[.int .i64 (a.kind : Int), .int .i32 (a.rune : Int), .int .i64 (a.byte : Int), .int .i64 (a.mark : Int), .slice s.1 a.nums.length s.2, .string (bytesN a.inter), .string (bytesN a.text)]] w (UnTo e L w (m.act a)) := by
  have HE := Lib.hid h
  have helt := h.elt
  obtain ⟨W0, hW0⟩ : ∃ W0, W0 = w.alloc (.cells #[.int .i64 (a.kind : Int), .int .i32 (a.rune : Int), .int .i64 (a.byte : Int), .int .i64 (a.mark : Int), .slice s.1 a.nums.length s.2, .string (bytesN a.inter), .string (bytesN a.text)] 52) := ⟨_, rfl⟩
  have K0 : Hid (Keep (fun _ => False) w W0) := Lib.hid (by rw [hW0]; exact (Keep.refl _ w).alloc _)
  have hq0 : W0.heap[w.heap.size]? = some (.cells #[.int .i64 (a.kind : Int), .int .i32 (a.rune : Int), .int .i64 (a.byte : Int), .int .i64 (a.mark : Int), .slice s.1 a.nums.length s.2, .string (bytesN a.inter), .string (bytesN a.text)] 52 (0, 0)) := by rw [hW0]; exact heap_alloc_new w _
  have d0 := cell_at hq0 0
  have d1 := cell_at hq0 1
  have d2 := cell_at hq0 2
  have d3 := cell_at hq0 3
  have d4 := cell_at hq0 4
  have d5 := cell_at hq0 5
  have d6 := cell_at hq0 6
  have hE0 := HE.out.quiet K0.out
  have hp0 : ParC W0 e := hp.mv ((Mv.refl e L w).quiet helt K0.out)
  have HP := Lib.hid (emu_print W0 e L m a.rune ha.r hE0)
  have HC := Lib.hid (emu_control W0 e L m a.byte ha.b hE0)
  have HX := Lib.hid (emu_escape W0 e L m a.inter a.byte ha.i ha.b hE0 hp0)
  have HCS := Lib.hid (emu_csi W0 e L m a s hE0 (hn.quiet K0.out) ha)
  generalize hA1 : s.1 = A1 at *
  generalize hA2 : s.2 = A2 at *
  generalize hNL : a.nums.length = NL at *
  have hkind : (a.kind = 1 ∨ a.kind = 2 ∨ a.kind = 3 ∨ a.kind = 4) ∨ (a.kind ≠ 1 ∧ a.kind ≠ 2 ∧ a.kind ≠ 3 ∧ a.kind ≠ 4) := by omega
  have HAC : Hid (m.act a = if a.kind = 1 then (m.print a.rune, []) else if a.kind = 2 then (m.control a.byte, []) else if a.kind = 3 then (m.escape a.inter a.byte, []) else if a.kind = 4 then m.csi a else (m, [])) := rfl
  clear h hn hq0 hE0 hp0 hp ha hA1 hA2 hNL
  generalize m.act a = MA at *
  generalize m.csi a = MC at *
  generalize m.print a.rune = MP at *
  generalize m.control a.byte = MT at *
  generalize m.escape a.inter a.byte = MX at *
  generalize a.kind = KD at *
  generalize a.rune = RU at *
  generalize a.byte = BY at *
  generalize a.mark = MK at *
  generalize bytesN a.inter = SI at *
  generalize bytesN a.text = ST at *
  rcases hkind with (rfl | rfl | rfl | rfl) | ⟨k1, k2, k3, k4⟩
  · have E1 : Hid (MA = (MP, [])) := Lib.hid HAC.out
    clear HAC
    rw [show ((1 : Nat) : Int) = 1 from rfl] at hW0 ⊢
    go_enter Tryz.func38, Tryz.ntmps38
    go_upto_region 1 with fail
    rw [← hW0]
    clear hW0
    go_wp2_with fail
    refine HP.out.mono ?_
    rintro v w5 ⟨rfl, he, hm⟩
    have HE5 := Lib.hid he
    have HM5 := Lib.hid hm
    clear he hm
    go_wp2_with fail
    go_ret
    rw [E1.out]
    exact UnTo.quiet ⟨rfl, L, HE5.out, HM5.out⟩ helt K0.out
  · have E1 : Hid (MA = (MT, [])) := Lib.hid HAC.out
    clear HAC
    rw [show ((2 : Nat) : Int) = 2 from rfl] at hW0 ⊢
    go_enter Tryz.func38, Tryz.ntmps38
    go_upto_region 1 with fail
    rw [← hW0]
    clear hW0
    go_wp2_with fail
    refine HC.out.mono ?_
    rintro v w5 ⟨rfl, he, hm⟩
    have HE5 := Lib.hid he
    have HM5 := Lib.hid hm
    clear he hm
    go_wp2_with fail
    go_ret
    rw [E1.out]
    exact UnTo.quiet ⟨rfl, L, HE5.out, HM5.out⟩ helt K0.out
  · have E1 : Hid (MA = (MX, [])) := Lib.hid HAC.out
    clear HAC
    rw [show ((3 : Nat) : Int) = 3 from rfl] at hW0 ⊢
    go_enter Tryz.func38, Tryz.ntmps38
    go_upto_region 1 with fail
    rw [← hW0]
    clear hW0
    go_wp2_with fail
    refine HX.out.mono ?_
    rintro v w5 ⟨rfl, L5, he, hm⟩
    have HE5 := Lib.hid he
    have HM5 := Lib.hid hm
    clear he hm
    go_wp2_with fail
    go_ret
    rw [E1.out]
    exact UnTo.quiet ⟨rfl, L5, HE5.out, HM5.out⟩ helt K0.out
  · have E1 : Hid (MA = MC) := Lib.hid HAC.out
    clear HAC
    rw [show ((4 : Nat) : Int) = 4 from rfl] at hW0 ⊢
    go_enter Tryz.func38, Tryz.ntmps38
    go_upto_region 1 with fail
    rw [← hW0]
    clear hW0
    go_wp2_with fail
    refine HCS.out.mono ?_
    rintro v w5 ⟨rfl, L5, he, hm⟩
    have HE5 := Lib.hid he
    have HM5 := Lib.hid hm
    clear he hm
    go_wp2_with fail
    go_ret
    rw [E1.out]
    exact UnTo.quiet ⟨rfl, L5, HE5.out, HM5.out⟩ helt K0.out
  · have E1 : Hid (MA = (m, [])) := Lib.hid (by rw [HAC.out, if_neg k1, if_neg k2, if_neg k3, if_neg k4])
    have t1 : ((KD : Int) == 1) = false := by simp; omega
    have t2 : ((KD : Int) == 2) = false := by simp; omega
    have t3 : ((KD : Int) == 3) = false := by simp; omega
    have t4 : ((KD : Int) == 4) = false := by simp; omega
    clear HAC k1 k2 k3 k4
    go_enter Tryz.func38, Tryz.ntmps38
    go_upto_region 1 with fail
    rw [← hW0]
    clear hW0
    go_wp2_with fail
    go_ret
    rw [E1.out]
    exact UnTo.quiet ⟨rfl, L, HE.out.quiet K0.out, Mv.refl _ _ _⟩ helt K0.out

end Go.Proofs.YtnminmaklbhakaaGreatDoor
namespace Go.Proofs.YtnminmaklbhakaaGreatDoor
set_option linter.unusedVariables false
set_option linter.unusedSimpArgs false
open Go.RowKit

/-- A rune that is half read: what it may still become. -/
structure St.Rb (s : St) : Prop where
  l1 : s.left = 1 → s.v ≤ 17407
  l2 : s.left = 2 → s.v ≤ 271
  l3 : s.left = 3 → s.v ≤ 3 ∨ (s.v = 4 ∧ s.hi = 143)
  h : 0 < s.half → (1 ≤ s.left ∧ s.left ≤ 3) ∧ 128 ≤ s.lo
theorem St.Rb.z : St.z.Rb := ⟨fun h => absurd h (by decide), fun h => absurd h (by decide), fun h => absurd h (by decide), fun h => absurd h (by decide)⟩
theorem secLo_128 (b : Nat) : 128 ≤ secLo b := by unfold secLo; split; omega; split <;> omega
theorem fresh_rb (b : Nat) (hb : b < 256) : (fresh b).1.Rb ∧ ∀ r ∈ (fresh b).2, r ≤ 1114111 := by
  unfold fresh
  repeat' split
  · exact ⟨.z, by simp; omega⟩
  · refine ⟨⟨fun _ => by simp only; omega, fun h => by simp at h, fun h => by simp at h, fun _ => ⟨by simp, secLo_128 b⟩⟩, by simp⟩
  · refine ⟨⟨fun h => by simp at h, fun _ => by simp only; omega, fun h => by simp at h, fun _ => ⟨by simp, secLo_128 b⟩⟩, by simp⟩
  · refine ⟨⟨fun h => by simp at h, fun h => by simp at h, fun _ => ?_, fun _ => ⟨by simp, secLo_128 b⟩⟩, by simp⟩
    simp only [secHi]
    by_cases h4 : b = 244
    · subst h4; right; decide
    · left; omega
  · exact ⟨.z, by simp⟩
theorem byteU_rb {s : St} (h : s.Rb) (b : Nat) (hb : b < 256) : (byteU s b).1.Rb ∧ ∀ r ∈ (byteU s b).2, r ≤ 1114111 := by
  unfold byteU
  split
  · rename_i hc
    obtain ⟨h0, h1, h2⟩ := hc
    obtain ⟨⟨hl1, hl3⟩, hlo⟩ := h.h h0
    unfold onward
    split
    · rename_i he
      have := h.l1 he
      exact ⟨.z, by simp; omega⟩
    · rename_i he
      have a2 := h.l2
      have a3 := h.l3
      refine ⟨⟨fun hx => ?_, fun hx => ?_, fun hx => ?_, fun _ => ⟨by simp only; omega, by simp⟩⟩, by simp⟩
      · simp only at hx ⊢
        have := a2 (by omega)
        omega
      · simp only at hx ⊢
        rcases a3 (by omega) with x | ⟨x, y⟩ <;> omega
      · simp only at hx; omega
  · have := fresh_rb b hb
    refine ⟨this.1, fun r hr => ?_⟩
    rcases List.mem_append.1 hr with x | x
    · unfold badsU at x
      split at x
      · simp at x
      · simp at x; omega
    · exact this.2 r x
theorem badsU_le' (s : St) : ∀ r ∈ badsU s, r ≤ 1114111 := by
  intro r hr
  unfold badsU at hr
  split at hr
  · simp at hr
  · simp at hr; omega

structure BOk (b : BP) : Prop where
  u : b.u.Rb
  i : ∀ x ∈ b.inter, x < 256
  n : ∀ x ∈ b.nums, -1 ≤ x ∧ x ≤ 9999
theorem BOk.z : BOk .z := ⟨.z, fun x h => by simp [BP.z] at h, fun x h => by simp [BP.z] at h⟩
theorem actOk_print (r : Nat) (h : r ≤ 1114111) : ActOk (ePrint r) := ⟨h, by simp [ePrint], by simp [ePrint], by simp [ePrint]⟩
theorem beginN_bd {n : List Int} {c : Nat} (h : ∀ x ∈ n, -1 ≤ x ∧ x ≤ 9999) : ∀ x ∈ (beginN n c).1, -1 ≤ x ∧ x ≤ 9999 := by
  unfold beginN addN
  split
  · simp only
    split
    · intro x hx; rcases List.mem_append.1 hx with y | y; exact h x y; simp at y; omega
    · exact h
  · exact h
theorem keepE_oka {b : BP} (h : BOk b) (d c : Nat) (hc : c < 256) : BOk (keepE b d c) := by
  have hbg := beginN_bd (c := b.came) h.n
  unfold keepE
  repeat' split
  · exact ⟨h.u, h.i, h.n⟩
  · exact ⟨h.u, fun x hx => (List.mem_append.1 hx).elim (h.i x) (fun y => by simp at y; omega), h.n⟩
  · refine ⟨h.u, h.i, ?_⟩
    simp only [digitN]
    split
    · intro x hx
      unfold digitL at hx
      rcases List.mem_append.1 hx with y | y
      · exact hbg x (List.dropLast_subset _ y)
      · simp at y; omega
    · exact hbg
  · refine ⟨h.u, h.i, ?_⟩
    simp only [nextN, addN]
    split
    · intro x hx; rcases List.mem_append.1 hx with y | y; exact hbg x y; simp at y; omega
    · exact hbg
  · exact ⟨h.u, h.i, h.n⟩
  · exact h
  · exact h
theorem doE_oka {b : BP} (h : BOk b) (d c : Nat) (hc : c < 256) : BOk (doE b d c).1 ∧ ∀ a ∈ (doE b d c).2, ActOk a := by
  unfold doE
  repeat' split
  · have := byteU_rb h.u c hc
    exact ⟨⟨this.1, h.i, h.n⟩, fun a ha => by obtain ⟨r, hr, rfl⟩ := List.mem_map.1 ha; exact actOk_print r (this.2 r hr)⟩
  · exact ⟨h, fun a ha => by simp at ha; subst ha; exact ⟨by simp [eControl], by simpa [eControl] using hc, by simp [eControl], by simp [eControl]⟩⟩
  · exact ⟨h, fun a ha => by simp at ha; subst ha; exact ⟨by simp [eEscape], by simpa [eEscape] using hc, h.i, by simp [eEscape]⟩⟩
  · exact ⟨h, fun a ha => by simp at ha; subst ha; exact ⟨by simp [eCsi], by simpa [eCsi] using hc, h.i, h.n⟩⟩
  · exact ⟨h, fun a ha => by simp at ha; subst ha; exact ⟨by simp [eText], by simp [eText], by simp [eText], by simp [eText]⟩⟩
  · exact ⟨h, fun a ha => by simp at ha; subst ha; exact ⟨by simp [eText], by simp [eText], by simp [eText], by simp [eText]⟩⟩
  · exact ⟨keepE_oka h d c hc, by simp⟩
theorem flushE_oka {b : BP} (h : BOk b) (d : Nat) : BOk (flushE b d).1 ∧ ∀ a ∈ (flushE b d).2, ActOk a := by
  unfold flushE
  split
  · exact ⟨h, by simp⟩
  · exact ⟨⟨.z, h.i, h.n⟩, fun a ha => by obtain ⟨r, hr, rfl⟩ := List.mem_map.1 ha; exact actOk_print r (badsU_le' _ r hr)⟩
theorem toE_oka {b : BP} (h : BOk b) (n : Nat) : BOk (toE b n) := by
  unfold toE BP.clear
  split
  · exact ⟨h.u, by simp, by simp⟩
  · exact ⟨h.u, h.i, h.n⟩
theorem byteE_oka {b : BP} (h : BOk b) (c : Nat) (hc : c < 256) : BOk (byteE b c).1 ∧ ∀ a ∈ (byteE b c).2, ActOk a := by
  unfold byteE stepE
  have h1 := flushE_oka h (deedE b.s (kindL c))
  have h2 := doE_oka h1.1 (deedE b.s (kindL c)) c hc
  exact ⟨toE_oka h2.1 _, fun a ha => (List.mem_append.1 ha).elim (h1.2 a) (h2.2 a)⟩
theorem feedE_oka (l : List Nat) : ∀ b : BP, BOk b → (∀ c ∈ l, c < 256) → BOk (feedE b l).1 ∧ ∀ a ∈ (feedE b l).2, ActOk a := by
  induction l with
  | nil => intro b h _; exact ⟨h, by simp [feedE]⟩
  | cons c r ih =>
    intro b h hl
    have h1 := byteE_oka h c (hl c (by simp))
    have h2 := ih _ h1.1 (fun x hx => hl x (by simp [hx]))
    exact ⟨h2.1, fun a ha => (List.mem_append.1 ha).elim (h1.2 a) (h2.2 a)⟩

theorem reply_len {m : EmM} (h : m.Ok) (b n : Nat) : (m.reply b n).length ≤ 8 := by
  have h1 := rowTold_le h
  have h2 := h.x; have h3 := h.w40
  have h4 := decN_le2 m.rowTold (by omega)
  have h5 := decN_le2 (m.st.x + 1) (by omega)
  unfold EmM.reply
  repeat' split
  all_goals simp
  all_goals omega
theorem unm_len {m : EmM} (h : m.Ok) (b : Nat) (l : List Int) : (m.unmarked b l).2.length ≤ 8 := by
  unfold EmM.unmarked
  repeat' split
  all_goals first | exact reply_len h _ _ | exact Nat.zero_le _
theorem csi_len {m : EmM} (h : m.Ok) (a : EAct) : (m.csi a).2.length ≤ 8 := by
  unfold EmM.csi
  repeat' split
  all_goals first | exact unm_len h _ _ | exact Nat.zero_le _
theorem act_len {m : EmM} (h : m.Ok) (a : EAct) : (m.act a).2.length ≤ 8 := by
  unfold EmM.act
  repeat' split
  all_goals first | exact csi_len h _ | exact Nat.zero_le _
theorem acts_len (l : List EAct) : ∀ m : EmM, m.Ok → (m.acts l).2.length ≤ 8 * l.length := by
  induction l with
  | nil => intro m h; simp [EmM.acts]
  | cons a r ih =>
    intro m h
    have h1 := act_len h a
    have h2 := ih _ (h.act a)
    simp only [EmM.acts, List.length_append, List.length_cons]
    omega

end Go.Proofs.YtnminmaklbhakaaGreatDoor
namespace Go.Proofs.YtnminmaklbhakaaGreatDoor

/-- No act has more than eight numbers. -/
theorem nums8_esc (p : PL) (c : Nat) : ∀ e ∈ (escP p c).2, e.nums.length ≤ 8 := by
  unfold escP
  split
  · simp
  split
  · simp
  split
  · simp
  split
  · simp
  · dsimp only; split <;> simp [eEscape]
theorem nums8_csi (p : PL) (c : Nat) : ∀ e ∈ (csiP p c).2, e.nums.length ≤ 8 := by
  unfold csiP
  split
  · simp
  split
  · simp
  split
  · simp
  split
  · simp
  split
  · simp
  · dsimp only; split
    · simp
    · simp [eCsi]; omega
theorem nums8_flushed (p : PL) : ∀ e ∈ p.flushed, e.nums.length ≤ 8 := by
  unfold PL.flushed
  split <;> simp [ePrint]
theorem nums8_prints (l : List Nat) : ∀ e ∈ l.map ePrint, e.nums.length ≤ 8 := by
  intro e he
  obtain ⟨x, _, rfl⟩ := List.mem_map.1 he
  simp [ePrint]
theorem nums8_byte (p : PL) (c : Nat) : ∀ e ∈ (byteP p c).2, e.nums.length ≤ 8 := by
  unfold byteP
  split
  · dsimp only; split
    · exact nums8_flushed p
    · simp
  split
  · dsimp only; split
    · exact nums8_flushed p
    · split <;> simp [PL.ends, eText]
  split
  · split
    · split <;> simp [PL.ends, eText]
    · split
      · intro e he
        rcases List.mem_append.1 he with he | he
        · exact nums8_flushed p e he
        · simp at he; subst he; simp [eControl]
      · simp [eControl]
  split
  · split
    · exact nums8_flushed p
    · simp
  split
  · simp
  split
  · exact nums8_esc p c
  split
  · exact nums8_csi p c
  split
  · exact nums8_prints _
  · exact nums8_prints _
theorem nums8_feed (l : List Nat) : ∀ (p : PL), ∀ e ∈ (feedP p l).2, e.nums.length ≤ 8 := by
  induction l with
  | nil => intro p e he; simp [feedP] at he
  | cons c r ih =>
    intro p e he
    rw [feedP_cons] at he
    rcases List.mem_append.1 he with he | he
    · exact nums8_byte p c e he
    · exact ih _ e he

end Go.Proofs.YtnminmaklbhakaaGreatDoor
