/- emu: New. Own work. emu: Screen, Text. Own work. emu: Feed. Own work. emu: New, with its parser; alive. Own work. emu: alive. Own work. emu: the document's Same of two Screens. Own work. emu: several terminals side by side. Own work. Law EmuResets: beside the program. Own work. What the laws of emu want: digits, texts that are cut, bytes as a text. Own work. -/
import Derived.Test.YtnminmaklbhakaaGreatDoorEmuN
import Derived.Test.YtnminmaklbhakaaGreatDoorEmuHs
import Derived.Test.YtnminmaklbhakaaGreatDoorGridTs
import Derived.Test.YtnminmaklbhakaaGreatDoorEmuY
import Derived.Test.YtnminmaklbhakaaGreatDoorEmuVs
import Derived.Test.YtnminmaklbhakaaGreatDoorEscs2
import Derived.Deep.QuietTactic
import Derived.BigQuiet
import Derived.Test.YtnminmaklbhakaaGreatDoorEmuLs
import Derived.Test.YtnminmaklbhakaaGreatDoorEscs
set_option linter.unusedVariables false
set_option linter.unusedSimpArgs false
namespace Go.Proofs.YtnminmaklbhakaaGreatDoor
set_option linter.unusedVariables false
set_option linter.unusedSimpArgs false
open Go.RowKit

theorem esc_zero {w : World} {e : Nat} (k : ∀ i v, parserCs[i]? = some v → Cell w e i v) : EscC w e 0 .z := by
  refine ⟨k 1 _ rfl, ⟨k 2 _ rfl, k 3 _ rfl, k 4 _ rfl, k 5 _ rfl, k 6 _ rfl, .z⟩, ⟨k 7 _ rfl, k 8 _ rfl, ⟨fun i hi => ?_, k 17 _ rfl, rfl, by simp [BP.z]⟩, k 18 _ rfl⟩⟩
  rcases i with _ | _ | _ | _ | _ | _ | _ | _ | i
  · exact k 9 _ rfl
  · exact k 10 _ rfl
  · exact k 11 _ rfl
  · exact k 12 _ rfl
  · exact k 13 _ rfl
  · exact k 14 _ rfl
  · exact k 15 _ rfl
  · exact k 16 _ rfl
  · omega

def zeroE : Array Value := #[.pointer none, .int .u8 0, .int .i32 0, .int .i64 0, .int .i64 0, .int .u8 0, .int .u8 0, .int .i64 0, .string ⟨#[]⟩, .int .i64 0, .int .i64 0, .int .i64 0, .int .i64 0, .int .i64 0, .int .i64 0, .int .i64 0, .int .i64 0, .int .i64 0, .string ⟨#[]⟩, .pointer none, .pointer none, .pointer none, .int .i64 0, .int .i64 0, .int .i64 0, .int .i64 0, .int .i64 0, .int .i64 0, .bool false, .bool false, .bool false, .bool false, .int .u8 0, .int .u8 0, .int .i64 0, .int .i64 0, .int .i64 0, .int .i64 0, .int .i64 0, .bool false, .bool false, .bool false, .bool false, .int .u8 0, .int .u8 0, .int .i64 0, .bool false, .bool false, .bool false, .bool false]
def pvZ (i : Nat) : Value := parserCs.getD i undef
theorem zeroE_built : Tryz.prog.built 74 [] = some zeroE := by kernel_rfl
theorem zeroE_at (i : Nat) (hi : i < 19) : zeroE[i]? = some (pvZ i) := by
  have h : i = 0 ∨ i = 1 ∨ i = 2 ∨ i = 3 ∨ i = 4 ∨ i = 5 ∨ i = 6 ∨ i = 7 ∨ i = 8 ∨ i = 9 ∨ i = 10 ∨ i = 11 ∨ i = 12 ∨ i = 13 ∨ i = 14 ∨ i = 15 ∨ i = 16 ∨ i = 17 ∨ i = 18 := by omega
  rcases h with rfl | rfl | rfl | rfl | rfl | rfl | rfl | rfl | rfl | rfl | rfl | rfl | rfl | rfl | rfl | rfl | rfl | rfl | rfl
  all_goals exact rfl
theorem pvZ_one (i : Nat) (hi : i < 19) : (pvZ i).oneCell' = true := by
  have h : i = 0 ∨ i = 1 ∨ i = 2 ∨ i = 3 ∨ i = 4 ∨ i = 5 ∨ i = 6 ∨ i = 7 ∨ i = 8 ∨ i = 9 ∨ i = 10 ∨ i = 11 ∨ i = 12 ∨ i = 13 ∨ i = 14 ∨ i = 15 ∨ i = 16 ∨ i = 17 ∨ i = 18 := by omega
  rcases h with rfl | rfl | rfl | rfl | rfl | rfl | rfl | rfl | rfl | rfl | rfl | rfl | rfl | rfl | rfl | rfl | rfl | rfl | rfl
  all_goals rfl

/-- What New answers. -/
def NewTo2 (W H : Nat) (w : World) (v : Ending) (w' : World) : Prop :=
  ∃ L, v = .returned (.pointer (some ⟨w.heap.size, 0, none⟩)) ∧ EmuAt w' w.heap.size L none 0 (pAt 0, EmM.new W H) ∧ Below w.heap.size w w' ∧ ∀ i, L.T w.heap.size i → w.heap.size ≤ i

set_option maxRecDepth 100000 in
set_option maxHeartbeats 1600000 in
theorem emu_new (w : World) (x y : Int) (W H : Nat) (hW : min (max x 2) 40 = (W : Int)) (hH : min (max y 1) 20 = (H : Int)) :
    Calls Tryz.prog 7 #[.int .i64 x, .int .i64 y] w (NewTo2 W H w) := by
  obtain ⟨W0, hW0⟩ : ∃ W0, W0 = w.alloc (.cells zeroE 74) := ⟨_, rfl⟩
  have hq : W0.heap[w.heap.size]? = some (.cells zeroE 74 (0, 0)) := by rw [hW0]; exact heap_alloc_new w _
  have hz : zeroE.size = 50 := by decide +kernel
  have HR := Lib.hid (emu_reset W0 w.heap.size x y W H pvZ hW hH (fun j hj => ⟨by rw [cell_at hq j, Array.getElem?_eq_getElem (by omega)]; rfl, free_at hq j⟩) (fun i hi => (cell_at hq i).trans (zeroE_at i hi)) pvZ_one (lt_heap hq))
  have HK : Hid (Keep (fun _ => False) w W0) := Lib.hid (by rw [hW0]; exact (Keep.refl _ w).alloc _)
  have HB := Lib.hid zeroE_built
  have HSZ : Hid (w.heap.size < W0.heap.size) := Lib.hid (lt_heap hq)
  clear hq hz hW hH
  go_enter Tryz.func7, Tryz.ntmps7
  have HR2 := HR.out
  rw [hW0] at HR2
  have HR3 := Lib.hid HR2
  clear HR2 HR HB
  go_wp2_with fail
  refine HR3.out.mono ?_
  rintro v w1 ⟨rfl, L, h1, h2, h3, h4⟩
  rw [← hW0] at h3 h4
  have H1 := Lib.hid h1
  have H2 := Lib.hid h2
  have H3 := Lib.hid h3
  have H4 := Lib.hid h4
  clear h1 h2 h3 h4
  go_wp2_with fail
  go_ret
  have hsz := HSZ.out
  refine ⟨L, rfl, ⟨H1.out, ⟨.z, esc_zero (fun i v hv => ?_), AlikeE.z, Nat.zero_le _⟩, .inl ⟨rfl, ?_⟩⟩, ?_, fun i hi => ?_⟩
  · have hi : i < 19 := by
      rcases Nat.lt_or_ge i 19 with x | x
      · exact x
      · rw [Array.getElem?_eq_none (by exact x)] at hv; cases hv
    have e1 : pvZ i = v := by unfold pvZ; rw [Array.getD_eq_getD_getElem?, hv]; rfl
    rw [← e1]
    exact H2.out i hi
  · exact H2.out 0 (by omega)
  · exact (HK.out.trans H3.out (S' := fun i => i = w.heap.size) (fun i hi x => by omega) : Keep (fun _ => False) w w1).below (Nat.le_refl _) (fun _ _ x => x)
  · rcases H4.out i hi with x | x <;> omega

end Go.Proofs.YtnminmaklbhakaaGreatDoor
namespace Go.Proofs.YtnminmaklbhakaaGreatDoor
set_option linter.unusedVariables false
set_option linter.unusedSimpArgs false
open Go.RowKit

set_option maxHeartbeats 1600000 in
theorem emu_text (w : World) (e : Nat) (L : Loc) (m : EmM) (h : EmR w e L m) :
    Calls Tryz.prog 18 #[.pointer (some ⟨e, 0, none⟩)] w fun v w' => ∃ r, v = .returned r ∧ w'.ownsRow w.heap.size 9 1 r m.H ((rowsT m.W m.shown m.H).map Value.string) ∧ Below w.heap.size w w' := by
  have HR := Lib.hid (emu_ready w e L m h)
  have HS := Lib.hid (emu_shown w e L m h)
  have HT := Lib.hid (grid_text w _ _ _ _ _ _ _ h.shown)
  clear h
  go_enter Tryz.func18, Tryz.ntmps18
  go_wp2_with fail
  refine HR.out.mono ?_
  rintro v w1 ⟨rfl, hw1⟩
  rw [hw1]
  clear hw1
  go_wp2_with fail
  refine HS.out.mono ?_
  rintro v w1 ⟨rfl, hw1⟩
  rw [hw1]
  clear hw1
  go_wp2_with fail
  refine HT.out.mono ?_
  rintro v w2 ⟨r, rfl, hr, hb⟩
  obtain ⟨A, c, rfl, -⟩ := own_form hr
  have HRR := Lib.hid hr
  have HB := Lib.hid hb
  clear hr hb
  go_wp2_with fail
  go_ret
  exact ⟨_, rfl, HRR.out, HB.out⟩

/-- What Screen answers: its cells lie in a new row. -/
def scrV (m : EmM) (A : Option Addr) (c : Nat) : Value := .agg #[.int .i64 (m.W : Int), .int .i64 (m.H : Int), .slice A (m.W * m.H) c, .int .i64 (m.st.x : Int), .int .i64 (m.st.y : Int), .bool m.hid]
def ScrTo (m : EmM) (w : World) (e : Ending) (w' : World) : Prop :=
  ∃ g c, e = .returned (scrV m (some ⟨g, 0, none⟩) c) ∧ w.heap.size ≤ g ∧ g < w'.heap.size ∧ m.W * m.H ≤ c ∧ Src w' (some ⟨g, 0, none⟩) (m.W * m.H * 6) (flatF m.shown (m.W * m.H)) ∧ Below w.heap.size w w'

end Go.Proofs.YtnminmaklbhakaaGreatDoor
namespace Go.Proofs.YtnminmaklbhakaaGreatDoor
set_option linter.unusedVariables false
set_option linter.unusedSimpArgs false
open Go.RowKit

/-- Where the parser's table lies behind a Feed. -/
def RAt (w : World) (p o : Nat) (w' : World) : Prop := ∃ R, Cell w' p o (.pointer (some ⟨R, 0, none⟩)) ∧ (Cell w p o (.pointer (some ⟨R, 0, none⟩)) ∨ w.heap.size ≤ R)
theorem fed_cell {p o B R : Nat} {b : BP} {w1 w' : World} {v : Value} {l : List Nat} (hf : FedE p o B R b w1 v l w') (hr : Cell w1 p o (.pointer (some ⟨R, 0, none⟩))) : Cell w' p o (.pointer (some ⟨R, 0, none⟩)) := by
  obtain ⟨A, n, c, rfl, hn, ha, he, hp⟩ := hf
  exact ⟨(hp.out o (by omega)).1.trans hr.1, (hp.out o (by omega)).2.trans hr.2⟩
theorem esc_feedR (p o : Nat) (b : BP) (A : Option Addr) (n c : Nat) (ts : List ByteArray) (w : World) (h : EscAt w p o b) (hs : Src w A n (ts.map Value.string)) (hA : 0 < n → blk A ≠ some p) (hn : n ≤ 100000000) (hsum : sum ts ≤ 100000000) (hcm : b.came ≤ 100000000) :
    Calls Tryz.prog 27 #[.pointer (some ⟨p, o, none⟩), .slice A n c] w (fun e w' => FeedTo p o w (feedsE b ts) e w' ∧ RAt w p o w') := by
  obtain ⟨q, hal⟩ := h.al
  have hl : ts.length = n := by have := hs.1; rwa [List.length_map] at this
  have hpre : feedE b (preU ts n 0) = feedsE b ts := by rw [← hl, preU_end]; rfl
  rw [← hpre]
  rcases h.r with hr | ⟨R, hr, hR, hRp⟩
  · refine (esc_feed_first p o b q hal A n c ts w h.c hr hs hA hn hsum hcm).mono ?_
    rintro e w' ⟨R, B, v, w1, hB, hRw, rfl, ⟨hr1, hR1, hk⟩, hf⟩
    exact ⟨fed_at hal hf hB (by have := h.lt; omega) hr1 hR1 hk, R, fed_cell hf hr1, .inr hRw⟩
  · refine (esc_feed_made p o R b q hal A n c ts w h.c hr hR hRp hs hA hn hsum hcm).mono ?_
    rintro e w' ⟨B, v, w1, hB, rfl, hk, hf⟩
    exact ⟨fed_at hal hf hB hRp (hr.keep hk (fun x => x)) (hR.keep hk (fun x => x)) ⟨hk.mono (fun _ _ x => x.elim), fun i _ => ⟨hk.cell (p := ⟨p, i, none⟩) h.lt (fun x => x), hk.frozen (p := ⟨p, i, none⟩) h.lt (fun x => x)⟩⟩, R, fed_cell hf (hr.keep hk (fun x => x)), .inl hr⟩

/-- The parser's cells turned, no other. -/
theorem EmG.fed {w w' : World} {e : Nat} {L : Loc} {W H : Nat} {F : Nat → CellM} {O : Option (Nat → CellM)} {stops : List Bool} (h : EmG w e L W H F O stops) (k : Keep (· = e) w w')
    (ho : ∀ i, 19 ≤ i → w'.cell? ⟨e, i, none⟩ = w.cell? ⟨e, i, none⟩ ∧ w'.frozen? ⟨e, i, none⟩ = w.frozen? ⟨e, i, none⟩) : EmG w' e L W H F O stops := by
  have nd := h.nd
  simp only [Loc.bl, List.nodup_cons, List.mem_cons, not_or] at nd
  obtain ⟨⟨n1, n2, n3, n4, n5⟩, -⟩ := nd
  have cc : ∀ {i : Nat} {v : Value}, 19 ≤ i → Cell w e i v → Cell w' e i v := fun hi c => ⟨(ho _ hi).1.trans c.1, (ho _ hi).2.trans c.2⟩
  refine ⟨cc (by omega) h.cm, h.gm.keep k (fun x => n1 x.symm) (fun x => n2 x.symm), ?_, cc (by omega) h.ct, h.sp.keep k (fun x => n3 x.symm) (fun x => n4 x.symm), h.nd⟩
  rcases h.co with ⟨a, b, c⟩ | ⟨a, b, c, G, ho, hG, hc, hg⟩
  · exact .inl ⟨a, b, cc (by omega) c⟩
  · simp [Loc.ob, ho] at n5
    exact .inr ⟨a, b, c, G, ho, hG, cc (by omega) hc, hg.keep k (fun x => n5.1 x.symm) (fun x => n5.2 x.symm)⟩
theorem EmR.fed {w w' : World} {e : Nat} {L : Loc} {m : EmM} (h : EmR w e L m) (k : KE e 0 w w') : EmR w' e L m := by
  have ho : ∀ i, 19 ≤ i → w'.cell? ⟨e, i, none⟩ = w.cell? ⟨e, i, none⟩ ∧ w'.frozen? ⟨e, i, none⟩ = w.frozen? ⟨e, i, none⟩ := fun i hi => k.out i (.inr (by omega))
  exact ⟨h.g.fed k.keep ho, fun i v hv => ⟨(ho _ (by omega)).1.trans (h.cs i v hv).1, (ho _ (by omega)).2.trans (h.cs i v hv).2⟩, h.ok⟩

theorem EscC.cells {w w' : World} {e : Nat} {b : BP} (h : EscC w e 0 b) (cc : ∀ i v, i < 19 → Cell w e i v → Cell w' e i v) : EscC w' e 0 b :=
  ⟨cc _ _ (by omega) h.s, ⟨cc _ _ (by omega) h.u.c0, cc _ _ (by omega) h.u.c1, cc _ _ (by omega) h.u.c2, cc _ _ (by omega) h.u.c3, cc _ _ (by omega) h.u.c4, h.u.ok⟩,
   ⟨cc _ _ (by omega) h.g.m, cc _ _ (by omega) h.g.i, ⟨fun k hk => cc _ _ (by omega) (h.g.n.nn k hk), cc _ _ (by omega) h.g.n.cm, h.g.n.len, h.g.n.bd⟩, cc _ _ (by omega) h.g.t⟩⟩
theorem EscC.par {w : World} {e : Nat} {b : BP} (h : EscC w e 0 b) {v : Value} (h0 : Cell w e 0 v) (h1 : v.oneCell' = true) : ParC w e := by
  intro i hi
  by_cases i0 : i = 0
  · subst i0; exact ⟨v, h0, h1⟩
  by_cases i1 : i = 1
  · subst i1; exact ⟨_, h.s, rfl⟩
  by_cases i2 : i = 2
  · subst i2; exact ⟨_, h.u.c0, rfl⟩
  by_cases i3 : i = 3
  · subst i3; exact ⟨_, h.u.c1, rfl⟩
  by_cases i4 : i = 4
  · subst i4; exact ⟨_, h.u.c2, rfl⟩
  by_cases i5 : i = 5
  · subst i5; exact ⟨_, h.u.c3, rfl⟩
  by_cases i6 : i = 6
  · subst i6; exact ⟨_, h.u.c4, rfl⟩
  by_cases i7 : i = 7
  · subst i7; exact ⟨_, h.g.m, rfl⟩
  by_cases i8 : i = 8
  · subst i8; exact ⟨_, h.g.i, rfl⟩
  by_cases i9 : i < 17
  · have := h.g.n.nn (i - 9) (by omega)
    rw [show 0 + 7 + 2 + (i - 9) = i from by omega] at this
    exact ⟨_, this, rfl⟩
  by_cases i17 : i = 17
  · subst i17; exact ⟨_, h.g.n.cm, rfl⟩
  have : i = 18 := by omega
  subst this
  exact ⟨_, h.g.t, rfl⟩

/-- A terminal with its parser; k: a bound of what came. -/
structure EmuF (w : World) (e : Nat) (L : Loc) (k : Nat) (x : PL × EmM) : Prop where
  r : EmR w e L x.2
  esc : ∃ b, EscAt w e 0 b ∧ AlikeE b x.1 ∧ b.came ≤ k ∧ BOk b
  rul : ∀ R, w.cell? ⟨e, 0, none⟩ = some (.pointer (some ⟨R, 0, none⟩)) → ¬ L.T e R

def natsJ (ts : List ByteArray) : List Nat := (joinL ts).map (·.toNat)
/-- What Feed answers and turns. -/
def FedTo (e : Nat) (L : Loc) (k : Nat) (w : World) (x : (PL × EmM) × List Nat) (v : Ending) (w' : World) : Prop :=
  v = .returned (.string (bytesN x.2)) ∧ ∃ L', EmuF w' e L' k x.1 ∧ Keep (L.T e) w w' ∧ (∀ i, L'.T e i → L.T e i ∨ w.heap.size ≤ i) ∧
    ∀ R, w'.cell? ⟨e, 0, none⟩ = some (.pointer (some ⟨R, 0, none⟩)) → w.cell? ⟨e, 0, none⟩ = some (.pointer (some ⟨R, 0, none⟩)) ∨ w.heap.size ≤ R

set_option maxRecDepth 100000 in
set_option maxHeartbeats 1600000 in
theorem emu_feed (w : World) (e : Nat) (L : Loc) (k : Nat) (x : PL × EmM) (A : Option Addr) (n c : Nat) (ts : List ByteArray) (h : EmuF w e L k x) (hs : Src w A n (ts.map Value.string)) (hA : 0 < n → blk A ≠ some e) (hn : n ≤ 100000000) (hsum : sum ts ≤ 100000000) (hk : k ≤ 100000000) :
    Calls Tryz.prog 9 #[.pointer (some ⟨e, 0, none⟩), .slice A n c] w (FedTo e L (k + 2 * sum ts) w (feedM x (natsJ ts))) := by
  obtain ⟨b, hb, hal, hcm, hbo⟩ := h.esc
  have hR0 := h.rul
  have HE := Lib.hid h.r
  have HRD := Lib.hid (emu_ready w e L x.2 h.r)
  have HF := Lib.hid (esc_feedR e 0 b A n c ts w hb hs hA hn hsum (by omega))
  have hx : (feedsE b ts).2 = (feedP x.1 (natsJ ts)).2 := (feed_alikeE _ hal).2
  have hjl : (natsJ ts).length = sum ts := by unfold natsJ; rw [List.length_map]; exact joinL_len ts
  have hb256 : ∀ c ∈ natsJ ts, c < 256 := fun c hc => by
    obtain ⟨u, _, rfl⟩ := List.mem_map.1 hc
    exact u.toNat_lt
  have hln := len_feedE (natsJ ts) b hb.c.u.ok
  have hoka := feedE_oka (natsJ ts) b hbo hb256
  have hal2 := (feed_alikeE (natsJ ts) hal).1
  have HAL := Lib.hid hal2
  have HLN := Lib.hid hln
  have HOK := Lib.hid hoka
  have HX := Lib.hid hx
  have HR0 := Lib.hid hR0
  have HJL := Lib.hid hjl
  clear h hb hal hx hln hoka hal2 hR0 hs hA hjl hbo hb256
  go_enter Tryz.func9, Tryz.ntmps9
  go_wp2_with fail
  refine HRD.out.mono ?_
  rintro v w1 ⟨rfl, hw1⟩
  rw [hw1]
  clear hw1
  go_wp2_with fail
  refine HF.out.mono ?_
  rintro v1 w1 ⟨⟨A', n', c', rfl, hn', ha, he1, hke⟩, R, hr1, hR1⟩
  have he := HE.out.fed hke
  have hlt := HE.out.lt
  have hRT : ¬ L.T e R := fun hT => hR1.elim (fun y => HR0.out R y.1 hT) (fun y => by have := hlt R hT; omega)
  have HAC := Lib.hid (emu_acts w1 e w.heap.size L x.2 A' n' c' _ he (he1.c.par hr1 rfl) ha hlt hke.keep.size (HOK.out.2) (fun a h => by
    have : a ∈ (feedP x.1 (natsJ ts)).2 := by rw [← HX.out]; exact h
    have := nums8_feed _ _ a this
    omega) (by have := HLN.out.1; rw [HJL.out] at this; rw [hn']; show (feedE b (natsJ ts)).2.length ≤ _; omega))
  have HH := Lib.hid (And.intro he1 (And.intro hke (And.intro hr1 (And.intro hRT hR1))))
  clear ha he he1 hke hr1 hRT hR1 hlt hn'
  go_wp2_with fail
  refine HAC.out.mono ?_
  rintro v2 w2 ⟨rfl, L', he2, hm⟩
  have HFI : Hid (FedTo e L (k + 2 * sum ts) w (feedM x (natsJ ts)) (.returned (.string (bytesN (x.2.acts (feedsE b ts).2).2))) w2) := Lib.hid (by
    obtain ⟨he1, hke, hr1, hRT, hR1⟩ := HH.out
    rw [HX.out] at he2 ⊢
    have cc : ∀ i v, i < 19 → Cell w1 e i v → Cell w2 e i v := fun i v hi c => ⟨(hm.low i hi).1.trans c.1, (hm.low i hi).2.trans c.2⟩
    have hR2 : RulesAt w1 R true ∧ R ≠ e := by
      rcases he1.r with hz | ⟨R', hr', hR', hRp'⟩
      · have := hz.1.symm.trans hr1.1; simp at this
      · have := hr'.1.symm.trans hr1.1
        simp at this
        subst this
        exact ⟨hR', hRp'⟩
    refine ⟨rfl, L', ⟨he2, ⟨_, ⟨he1.c.cells cc, .inr ⟨R, cc 0 _ (by omega) hr1, hR2.1.keep hm.keep hRT, hR2.2⟩, ⟨_, HAL.out⟩⟩, HAL.out, ?_, HOK.out.1⟩, ?_⟩, ?_, ?_, ?_⟩
    · have := HLN.out.2.1
      rw [HJL.out] at this
      show (feedE b (natsJ ts)).1.came ≤ _
      omega
    · intro R3 h3 hT
      have := (cc 0 _ (by omega) hr1).1.symm.trans h3
      simp at this
      subst this
      rcases hm.new _ hT with h | h
      · exact hRT h
      · have := hR2.1.lt; omega
    · exact (hke.keep.mono (fun i _ x => by subst x; exact L.e_T _)).trans hm.keep (fun i _ x => x)
    · intro i hi
      have := hke.keep.size
      exact (hm.new i hi).imp id (fun h => by omega)
    · intro R3 h3
      have := (cc 0 _ (by omega) hr1).1.symm.trans h3
      simp at this
      subst this
      exact hR1.imp (·.1) id)
  clear he2 hm
  go_wp2_with fail
  go_ret
  exact HFI.out

end Go.Proofs.YtnminmaklbhakaaGreatDoor
namespace Go.Proofs.YtnminmaklbhakaaGreatDoor
set_option linter.unusedVariables false
set_option linter.unusedSimpArgs false
open Go.RowKit

/-- What New answers. -/
def NewF (W H : Nat) (w : World) (v : Ending) (w' : World) : Prop :=
  ∃ L, v = .returned (.pointer (some ⟨w.heap.size, 0, none⟩)) ∧ EmuF w' w.heap.size L 0 (pAt 0, EmM.new W H) ∧ Below w.heap.size w w' ∧ (∀ i, L.T w.heap.size i → w.heap.size ≤ i) ∧ w'.cell? ⟨w.heap.size, 0, none⟩ = some (.pointer none)

set_option maxRecDepth 100000 in
set_option maxHeartbeats 1600000 in
theorem emu_newF (w : World) (x y : Int) (W H : Nat) (hW : min (max x 2) 40 = (W : Int)) (hH : min (max y 1) 20 = (H : Int)) :
    Calls Tryz.prog 7 #[.int .i64 x, .int .i64 y] w (NewF W H w) := by
  obtain ⟨W0, hW0⟩ : ∃ W0, W0 = w.alloc (.cells zeroE 74) := ⟨_, rfl⟩
  have hq : W0.heap[w.heap.size]? = some (.cells zeroE 74 (0, 0)) := by rw [hW0]; exact heap_alloc_new w _
  have hz : zeroE.size = 50 := by decide +kernel
  have HR := Lib.hid (emu_reset W0 w.heap.size x y W H pvZ hW hH (fun j hj => ⟨by rw [cell_at hq j, Array.getElem?_eq_getElem (by omega)]; rfl, free_at hq j⟩) (fun i hi => (cell_at hq i).trans (zeroE_at i hi)) pvZ_one (lt_heap hq))
  have HK : Hid (Keep (fun _ => False) w W0) := Lib.hid (by rw [hW0]; exact (Keep.refl _ w).alloc _)
  have HB := Lib.hid zeroE_built
  have HSZ : Hid (w.heap.size < W0.heap.size) := Lib.hid (lt_heap hq)
  clear hq hz hW hH
  go_enter Tryz.func7, Tryz.ntmps7
  have HR2 := HR.out
  rw [hW0] at HR2
  have HR3 := Lib.hid HR2
  clear HR2 HR HB
  go_wp2_with fail
  refine HR3.out.mono ?_
  rintro v w1 ⟨rfl, L, h1, h2, h3, h4⟩
  rw [← hW0] at h3 h4
  have H1 := Lib.hid h1
  have H2 := Lib.hid h2
  have H3 := Lib.hid h3
  have H4 := Lib.hid h4
  clear h1 h2 h3 h4
  go_wp2_with fail
  go_ret
  have hsz := HSZ.out
  refine ⟨L, rfl, ⟨H1.out, ⟨.z, ⟨esc_zero (fun i v hv => ?_), .inl ?_, ⟨_, AlikeE.z⟩⟩, AlikeE.z, Nat.zero_le _, BOk.z⟩, fun R hR => by rw [(H2.out 0 (by omega)).1] at hR; cases hR⟩, ?_, fun i hi => ?_, (H2.out 0 (by omega)).1⟩
  · have hi : i < 19 := by
      rcases Nat.lt_or_ge i 19 with x | x
      · exact x
      · rw [Array.getElem?_eq_none (by exact x)] at hv; cases hv
    have e1 : pvZ i = v := by unfold pvZ; rw [Array.getD_eq_getD_getElem?, hv]; rfl
    rw [← e1]
    exact H2.out i hi
  · exact H2.out 0 (by omega)
  · exact (HK.out.trans H3.out (S' := fun i => i = w.heap.size) (fun i hi x => by omega) : Keep (fun _ => False) w w1).below (Nat.le_refl _) (fun _ _ x => x)
  · rcases H4.out i hi with x | x <;> omega


end Go.Proofs.YtnminmaklbhakaaGreatDoor
namespace Go.Proofs.YtnminmaklbhakaaGreatDoor
set_option linter.unusedVariables false
set_option linter.unusedSimpArgs false
open Go.RowKit

theorem EmuF.keep {S : Nat → Prop} {w w' : World} {e k : Nat} {L : Loc} {x : PL × EmM} (h : EmuF w e L k x) (K : Keep S w w') (hS : ∀ i, S i → w.heap.size ≤ i) : EmuF w' e L k x := by
  obtain ⟨b, h1, h2, h3, h4⟩ := h.esc
  have hlt := h.r.lt
  have hel := h.r.elt
  refine ⟨h.r.keep K (fun i hT x => by have := hS i x; have := hlt i hT; omega), ⟨b, h1.keep K (fun x => by have := hS e x; omega) (fun i x R hR e0 => ?_), h2, h3, h4⟩, fun R hR => ?_⟩
  · subst e0
    rcases h1.r with hz | ⟨R', hr', hR', _⟩
    · have := hz.1.symm.trans hR; simp at this
    · have e1 := hr'.1.symm.trans hR
      simp at e1
      subst e1
      have := hR'.lt
      have := hS _ x
      omega
  · rw [K.cell (p := ⟨e, 0, none⟩) hel (fun x => by have := hS e x; omega)] at hR
    exact h.rul R hR

def aliveIn : ByteArray := ⟨#[97, 98, 99, 100, 101, 27, 91, 54, 110]⟩
theorem alive_says : (feedM (pAt 0, EmM.new 4 2) (natsJ [aliveIn])).2 = [27, 91, 50, 59, 50, 82] := by decide +kernel
theorem alive_shows : rowsT (feedM (pAt 0, EmM.new 4 2) (natsJ [aliveIn])).1.2.W (feedM (pAt 0, EmM.new 4 2) (natsJ [aliveIn])).1.2.shown (feedM (pAt 0, EmM.new 4 2) (natsJ [aliveIn])).1.2.H = [⟨#[97, 98, 99, 100]⟩, ⟨#[101, 32, 32, 32]⟩] := by decide +kernel
theorem alive_H : (feedM (pAt 0, EmM.new 4 2) (natsJ [aliveIn])).1.2.H = 2 := by decide +kernel

theorem emu_alive (w : World) :
    Calls Tryz.prog 6 #[] w fun v w' => v = .returned (.bool true) ∧ Below w.heap.size w w' := by
  have HN := Lib.hid (emu_newF w 4 2 4 2 rfl rfl)
  go_enter Tryz.func6, Tryz.ntmps6
  go_wp2_with fail
  refine HN.out.mono ?_
  rintro v w1 ⟨L, rfl, he, hb, hL, hz0⟩
  clear hz0
  have hlt := he.r.lt
  have hel := he.r.elt
  obtain ⟨e, hee⟩ : ∃ e, e = w.heap.size := ⟨_, rfl⟩
  rw [← hee]
  rw [← hee] at he hL hlt hel
  have HEE := Lib.hid hee
  have HE := Lib.hid he
  have HB := Lib.hid hb
  have HL := Lib.hid hL
  have hW : ∀ W : World, W = w1.alloc (.cells #[.string aliveIn] 9) → Src W (some ⟨w1.heap.size, 0, none⟩) 1 ([aliveIn].map Value.string) ∧ EmuF W e L 0 (pAt 0, EmM.new 4 2) := fun W hw => by
    subst hw
    exact ⟨src_one _ _ _ rfl, he.keep ((Keep.refl (fun _ => False) w1).alloc _) (fun _ x => x.elim)⟩
  have HF := Lib.hid (emu_feed (w1.alloc (.cells #[.string aliveIn] 9)) e L 0 _ (some ⟨w1.heap.size, 0, none⟩) 1 1 [aliveIn] (hW _ rfl).2 (hW _ rfl).1 (fun _ x => by simp [blk] at x; omega) (by omega) (by decide +kernel) (by omega))
  clear he hb hL hee hW
  go_wp2_with fail
  refine HF.out.mono ?_
  rintro v2 w2 ⟨rfl, L2, he2, hk2, hn2, hr2⟩
  rw [alive_says]
  have HTX := Lib.hid (emu_text w2 e L2 _ he2.r)
  rw [alive_shows, alive_H] at HTX
  have HK2 := Lib.hid hk2
  have HLT := Lib.hid hlt
  have hsz := hk2.size
  have hsz1 : w1.heap.size < w2.heap.size := by simp at hsz; omega
  clear he2 hk2 hn2 hr2 hsz hlt
  have t0 : ((bytesN [27, 91, 50, 59, 50, 82]).toList == [27, 91, 50, 59, 50, 82]) = true := by decide +kernel
  go_wp2_with fail
  refine HTX.out.mono ?_
  rintro v3 w3 ⟨r, rfl, hr, hb3⟩
  obtain ⟨A, c, rfl, hA⟩ := own_form hr
  obtain ⟨g, rfl⟩ := hA (by omega)
  have g0 : w3.cell? ⟨g, 0, none⟩ = some (.string ⟨#[97, 98, 99, 100]⟩) := World.ownsRow.cells hr (g := g) rfl 0 _ rfl
  have g1 : w3.cell? ⟨g, 1, none⟩ = some (.string ⟨#[101, 32, 32, 32]⟩) := World.ownsRow.cells hr (g := g) rfl 1 _ rfl
  have HFI : Hid (Below w.heap.size w w3) := Lib.hid (by
    have h1 : Keep (fun _ => False) w w1 := Keep.of_below _ HB.out
    have h2 : Keep (fun _ => False) w w2 := (h1.alloc _).trans HK2.out (fun i hi x => by have := HL.out i x; have := HEE.out; omega)
    exact (h2.trans (Keep.of_below (fun _ => False) hb3) (fun i hi x => x)).below (Nat.le_refl _) (fun _ _ x => x))
  clear hr hb3
  go_wp2_with fail
  go_ret
  exact ⟨rfl, HFI.out⟩

end Go.Proofs.YtnminmaklbhakaaGreatDoor
namespace Go.Proofs.YtnminmaklbhakaaGreatDoor
set_option linter.unusedVariables false
set_option linter.unusedSimpArgs false
open Go.RowKit

theorem flatF_row (F : Nat → CellM) (n k i : Nat) (v : Value) (hk : k < n) (hv : (cellCs (F k))[i]? = some v) : (flatF F n)[k * 6 + i]? = some v := by
  have hi := cellCs_lt hv
  exact (flatF_at F n _ v).2 ⟨by omega, by rw [show (k * 6 + i) / 6 = k from by omega, show (k * 6 + i) % 6 = i from by omega]; exact hv⟩
def scr6 (W H : Int) (A : Option Addr) (n c : Nat) (X Y : Int) (b : Bool) : Array Value := #[.int .i64 W, .int .i64 H, .slice A n c, .int .i64 X, .int .i64 Y, .bool b]

end Go.Proofs.YtnminmaklbhakaaGreatDoor
namespace Go.Proofs.YtnminmaklbhakaaGreatDoor
set_option linter.unusedVariables false
set_option linter.unusedSimpArgs false
open Go.RowKit

structure Em where
  e : Nat
  L : Loc
  k : Nat
  x : PL × EmM
/-- The blocks of a terminal, its parser's rules among them. -/
def Own (w : World) (e : Nat) (L : Loc) (i : Nat) : Prop := L.T e i ∨ w.cell? ⟨e, 0, none⟩ = some (.pointer (some ⟨i, 0, none⟩))
theorem EmuF.own_lt {w : World} {e k i : Nat} {L : Loc} {x : PL × EmM} (h : EmuF w e L k x) (o : Own w e L i) : i < w.heap.size := by
  obtain ⟨b, h1, -, -, -⟩ := h.esc
  rcases o with o | o
  · exact h.r.lt i o
  · rcases h1.r with hz | ⟨R', hr', hR', _⟩
    · have := hz.1.symm.trans o; simp at this
    · have e1 := hr'.1.symm.trans o
      simp at e1
      subst e1
      exact hR'.lt
theorem EmuF.far {S : Nat → Prop} {w w' : World} {e k : Nat} {L : Loc} {x : PL × EmM} (h : EmuF w e L k x) (K : Keep S w w') (hS : ∀ i, i < w.heap.size → S i → ¬ Own w e L i) : EmuF w' e L k x ∧ ∀ i, Own w' e L i ↔ Own w e L i := by
  obtain ⟨b, h1, h2, h3, h4⟩ := h.esc
  have hlt := h.r.lt
  have hel := h.r.elt
  have hSe : ¬ S e := fun x => hS e hel x (.inl (L.e_T e))
  have ce := K.cell (p := ⟨e, 0, none⟩) hel hSe
  refine ⟨⟨h.r.keep K (fun i hT x => hS i (hlt i hT) x (.inl hT)), ⟨b, h1.keep K hSe (fun i x R hR e0 => ?_), h2, h3, h4⟩, fun R hR => ?_⟩, fun i => ?_⟩
  · subst e0
    have o : Own w e L i := .inr hR
    exact hS i (h.own_lt o) x o
  · rw [ce] at hR
    exact h.rul R hR
  · unfold Own
    rw [ce]

/-- Terminals that have nothing in common, and nothing of the world w0. -/
structure Ems (w0 w : World) (l : List Em) : Prop where
  each : ∀ t ∈ l, EmuF w t.e t.L t.k t.x
  apart : l.Pairwise (fun s t => ∀ i, Own w s.e s.L i → ¬ Own w t.e t.L i)
  hi : ∀ t ∈ l, ∀ i, Own w t.e t.L i → w0.heap.size ≤ i
  k : Keep (fun _ => False) w0 w
theorem Ems.start (w : World) : Ems w w [] := ⟨by simp, List.Pairwise.nil, by simp, Keep.refl _ _⟩
theorem Ems.below {w0 w : World} {l : List Em} (h : Ems w0 w l) : Below w0.heap.size w0 w := h.k.below (Nat.le_refl _) (fun _ _ x => x)
theorem Ems.quiet {w0 w w' : World} {l : List Em} (h : Ems w0 w l) (K : Keep (fun _ => False) w w') : Ems w0 w' l := by
  have f : ∀ t ∈ l, EmuF w' t.e t.L t.k t.x ∧ ∀ i, Own w' t.e t.L i ↔ Own w t.e t.L i := fun t ht => (h.each t ht).far K (fun _ _ x => x.elim)
  refine ⟨fun t ht => (f t ht).1, ?_, fun t ht i o => h.hi t ht i (((f t ht).2 i).1 o), h.k.trans K (fun _ _ x => x)⟩
  exact List.Pairwise.imp_of_mem (fun {s t} hs ht r i o1 o2 => r i (((f s hs).2 i).1 o1) (((f t ht).2 i).1 o2)) h.apart
theorem Ems.less {w0 w : World} {l1 l2 : List Em} {t : Em} (h : Ems w0 w (l1 ++ t :: l2)) : Ems w0 w (l1 ++ l2) := by
  have s : List.Sublist (l1 ++ l2) (l1 ++ t :: l2) := List.Sublist.append_left (List.sublist_cons_self t l2) l1
  exact ⟨fun u hu => h.each u (s.subset hu), h.apart.sublist s, fun u hu => h.hi u (s.subset hu), h.k⟩
theorem Ems.at_ {w0 w : World} {l1 l2 : List Em} {t : Em} (h : Ems w0 w (l1 ++ t :: l2)) : EmuF w t.e t.L t.k t.x := h.each t (by simp)

/-- One of them moves. -/
theorem Ems.move {w0 w w' : World} {l1 l2 : List Em} {e k k' : Nat} {L L' : Loc} {x x' : PL × EmM} (h : Ems w0 w (l1 ++ ⟨e, L, k, x⟩ :: l2)) (K : Keep (L.T e) w w') (hf : EmuF w' e L' k' x') (hn : ∀ i, Own w' e L' i → Own w e L i ∨ w.heap.size ≤ i) :
    Ems w0 w' (l1 ++ ⟨e, L', k', x'⟩ :: l2) := by
  have hap := h.apart
  rw [List.pairwise_append, List.pairwise_cons] at hap
  obtain ⟨p1, ⟨p2, p3⟩, p4⟩ := hap
  have me : (⟨e, L, k, x⟩ : Em) ∈ l1 ++ ⟨e, L, k, x⟩ :: l2 := by simp
  have h0 := h.hi _ me
  have sz := h.k.size
  have f : ∀ t, t ∈ l1 ∨ t ∈ l2 → EmuF w' t.e t.L t.k t.x ∧ ∀ i, Own w' t.e t.L i ↔ Own w t.e t.L i := fun t ht => by
    refine (h.each t ?_).far K (fun i _ hT o => ?_)
    · rcases ht with y | y <;> simp [y]
    · rcases ht with y | y
      · exact p4 t y ⟨e, L, k, x⟩ List.mem_cons_self i o (.inl hT)
      · exact p2 t y i (.inl hT) o
  have lt : ∀ t, t ∈ l1 ∨ t ∈ l2 → ∀ i, Own w t.e t.L i → i < w.heap.size := fun t ht i o => (h.each t (by rcases ht with y | y <;> simp [y])).own_lt o
  refine ⟨fun t ht => ?_, ?_, fun t ht i o => ?_, h.k.trans K (fun i hi hT => by have := h0 i (.inl hT); omega)⟩
  · rcases List.mem_append.1 ht with y | y
    · exact (f t (.inl y)).1
    · rcases List.mem_cons.1 y with y | y
      · subst y; exact hf
      · exact (f t (.inr y)).1
  · rw [List.pairwise_append, List.pairwise_cons]
    refine ⟨List.Pairwise.imp_of_mem (fun {s t} hs ht r i o1 o2 => r i (((f s (.inl hs)).2 i).1 o1) (((f t (.inl ht)).2 i).1 o2)) p1, ⟨fun t ht i o1 o2 => ?_, List.Pairwise.imp_of_mem (fun {s t} hs ht r i o1 o2 => r i (((f s (.inr hs)).2 i).1 o1) (((f t (.inr ht)).2 i).1 o2)) p3⟩, fun s hs t ht i o1 o2 => ?_⟩
    · have o3 := ((f t (.inr ht)).2 i).1 o2
      rcases hn i o1 with y | y
      · exact p2 t ht i y o3
      · have := lt t (.inr ht) i o3; omega
    · have o3 := ((f s (.inl hs)).2 i).1 o1
      rcases List.mem_cons.1 ht with y | y
      · subst y
        rcases hn i o2 with y | y
        · exact p4 s hs ⟨e, L, k, x⟩ List.mem_cons_self i o3 y
        · have := lt s (.inl hs) i o3; omega
      · exact p4 s hs t (by simp [y]) i o3 (((f t (.inr y)).2 i).1 o2)
  · rcases List.mem_append.1 ht with y | y
    · exact h.hi t (by simp [y]) i (((f t (.inl y)).2 i).1 o)
    · rcases List.mem_cons.1 y with y | y
      · subst y
        rcases hn i o with y | y
        · exact h0 i y
        · omega
      · exact h.hi t (by simp [y]) i (((f t (.inr y)).2 i).1 o)

/-- One more. -/
theorem Ems.add {w0 w w' : World} {l : List Em} {W H : Nat} {v : Ending} (h : Ems w0 w l) (hn : NewF W H w v w') :
    ∃ e L, v = .returned (.pointer (some ⟨e, 0, none⟩)) ∧ w.heap.size ≤ e ∧ Ems w0 w' (l ++ [⟨e, L, 0, (pAt 0, EmM.new W H)⟩]) := by
  obtain ⟨L, rfl, he, hb, hL, hz⟩ := hn
  have K := Keep.of_below (fun _ => False) hb
  have q := h.quiet K
  have sz := h.k.size
  have oo : ∀ i, Own w' w.heap.size L i → w.heap.size ≤ i := fun i o => by
    rcases o with o | o
    · exact hL i o
    · rw [hz] at o; simp at o
  refine ⟨_, L, rfl, Nat.le_refl _, ⟨fun t ht => ?_, ?_, fun t ht i o => ?_, q.k⟩⟩
  · rcases List.mem_append.1 ht with y | y
    · exact q.each t y
    · rw [List.mem_singleton] at y; subst y; exact he
  · rw [List.pairwise_append]
    refine ⟨q.apart, List.pairwise_singleton _ _, fun s hs t ht i o1 o2 => ?_⟩
    rw [List.mem_singleton] at ht
    subst ht
    have a := oo i o2
    have b := (h.each s hs).own_lt ((((h.each s hs).far K (fun _ _ x => x.elim)).2 i).1 o1)
    omega
  · rcases List.mem_append.1 ht with y | y
    · exact q.hi t y i o
    · rw [List.mem_singleton] at y; subst y; have := oo i o; omega

/-- Feed of one of them. -/
def FedIn (w0 w : World) (l1 l2 : List Em) (e : Nat) (L : Loc) (k : Nat) (x : PL × EmM) (ts : List ByteArray) (v : Ending) (w' : World) : Prop :=
  v = .returned (.string (bytesN (feedM x (natsJ ts)).2)) ∧ ∃ L', Ems w0 w' (l1 ++ ⟨e, L', k + 2 * sum ts, (feedM x (natsJ ts)).1⟩ :: l2) ∧ Keep (L.T e) w w' ∧ ∀ i, i < w.heap.size → Own w' e L' i → Own w e L i
theorem ems_feed {w0 w : World} {l1 l2 : List Em} {e k : Nat} {L : Loc} {x : PL × EmM} (h : Ems w0 w (l1 ++ ⟨e, L, k, x⟩ :: l2)) (A : Option Addr) (n c : Nat) (ts : List ByteArray) (hs : Src w A n (ts.map Value.string)) (hA : 0 < n → blk A ≠ some e) (hn : n ≤ 100000000) (hsum : sum ts ≤ 100000000) (hk : k ≤ 100000000) :
    Calls Tryz.prog 9 #[.pointer (some ⟨e, 0, none⟩), .slice A n c] w (FedIn w0 w l1 l2 e L k x ts) := by
  refine (emu_feed w e L k x A n c ts h.at_ hs hA hn hsum hk).mono ?_
  rintro v w' ⟨rfl, L', hf, K, hn, hr⟩
  have oo : ∀ i, Own w' e L' i → Own w e L i ∨ w.heap.size ≤ i := fun i o => by
    rcases o with o | o
    · exact (hn i o).imp .inl id
    · exact (hr i o).imp .inr id
  exact ⟨rfl, L', h.move K hf oo, K, fun i hi o => (oo i o).resolve_right (by omega)⟩

end Go.Proofs.YtnminmaklbhakaaGreatDoor
namespace Go.Proofs.YtnminmaklbhakaaGreatDoor
set_option linter.unusedVariables false

theorem feedM_size (x : PL × EmM) (l : List Nat) : (feedM x l).1.2.W = x.2.W ∧ (feedM x l).1.2.H = x.2.H := EmM.like_acts _ x.2
theorem bareEscape_99 (m : EmM) : m.bareEscape 99 = EmM.new m.W m.H := rfl
/-- 24 and Escape c make all new, whatever came. -/
theorem feedM_resets (x : PL × EmM) (l : List Nat) : (feedM x (l ++ [24, 27, 99])).1 = (pAt 0, EmM.new x.2.W x.2.H) := by
  obtain ⟨m, hm⟩ := feed_24 x l
  have hs := feedM_size x (l ++ [24])
  rw [hm] at hs
  rw [show l ++ [24, 27, 99] = (l ++ [24]) ++ [27, 99] from by simp, feedM_add]
  show (feedM (feedM x (l ++ [24])).1 [27, 99]).1 = _
  rw [hm, feed_esc1 m 99 (by omega) (by omega) (by omega), bareEscape_99, hs.1, hs.2]
theorem natsJ_one (a : ByteArray) : natsJ [a] = a.data.toList.map (·.toNat) := by simp [natsJ, joinL]
theorem natsJ_resets (a : ByteArray) : natsJ [a, ⟨#[24, 27, 99]⟩] = natsJ [a] ++ [24, 27, 99] := by simp [natsJ, joinL]
theorem new_size (W H : Nat) : (EmM.new W H).W = W ∧ (EmM.new W H).H = H := ⟨rfl, rfl⟩
/-- Behind it the terminal is one that was just made. -/
theorem resets_new (W H : Nat) (a : ByteArray) : (feedM (pAt 0, EmM.new W H) (natsJ [a, ⟨#[24, 27, 99]⟩])).1 = (pAt 0, EmM.new W H) := by
  rw [natsJ_resets, feedM_resets]
  rfl

end Go.Proofs.YtnminmaklbhakaaGreatDoor
namespace Go.Proofs.YtnminmaklbhakaaGreatDoor
set_option linter.unusedVariables false
set_option linter.unusedSimpArgs false
open Go.RowKit

theorem natsOf_cut (S : ByteArray) (q : Nat) (h : q ≤ S.size) : natsOf (S.extract 0 q) = (natsOf S).take q ∧ natsOf (S.extract q S.size) = (natsOf S).drop q := by
  have hl : S.data.toList.length = S.size := (Lib.size_eq S).symm
  have e := extract_mk S.data.toList
  rw [mk_data] at e
  refine ⟨?_, ?_⟩
  · rw [e]; simp [natsOf, List.map_take]
  · rw [e, List.take_of_length_le (by omega)]; simp [natsOf, List.map_drop]
theorem natsOf_len (S : ByteArray) : (natsOf S).length = S.size := by
  rw [Lib.size_eq]
  simp [natsOf]
theorem natsOf_add (a b : ByteArray) : natsOf (a ++ b) = natsOf a ++ natsOf b := by simp [natsOf]
theorem natsOf_bytesN (l : List Nat) (h : ∀ c ∈ l, c < 256) : natsOf (bytesN l) = l := by
  induction l with
  | nil => rfl
  | cons c r ih =>
    rw [show c :: r = [c] ++ r from rfl, bytesN_add, natsOf_add, natsOf_one c (h c (by simp)), ih (fun x hx => h x (by simp [hx]))]
theorem bytesN_nats (s : ByteArray) : bytesN (natsOf s) = s := by
  apply ByteArray.ext
  apply Array.ext'
  have e : (UInt8.ofNat ∘ fun x : UInt8 => x.toNat) = id := by funext x; simp
  simp [bytesN, natsOf, e]
theorem nats_ext {a b : ByteArray} (h : natsOf a = natsOf b) : a = b := by rw [← bytesN_nats a, h, bytesN_nats]
theorem byteCells_bytesN (l : List Nat) (h : ∀ c ∈ l, c < 256) : Lib.byteCells (bytesN l).data.toList = l.map fun n : Nat => Value.int .u8 (n : Int) := by
  induction l with
  | nil => rfl
  | cons c r ih =>
    have := ih (fun x hx => h x (by simp [hx]))
    simp only [Lib.byteCells, bytesN, List.map_cons] at *
    rw [this, toNat_ofNat (h c (by simp))]

/-- string(b) of bytes that were laid in a row. -/
theorem bytes_str {W : World} {P : Program} (src dst e : TypeId) (l : List Nat) (cs : Array Value) (g n : Nat) (hg : W.heap[g]? = some (.cells cs e (0, 0))) (hcs : cs.toList = l.map fun n : Nat => Value.int .u8 (n : Int)) (h : ∀ c ∈ l, c < 256) (hn : cs.size = n) (hm : n ≤ maxLen) (hs : P.underlying src = some (.slice e)) (he : P.underlying e = some (.int .u8)) (hd : P.underlying dst = some .string) :
    (convert src dst (.slice (some ⟨g, 0, none⟩) n n)).run P W = .ok (.string (bytesN l)) W := by
  have hrow := Row.of_block hg (.inl (Nat.le_refl _)) (n := n) (by omega) (by omega)
  have h2 : cs.toList.take n = Lib.byteCells (bytesN l).data.toList := by
    rw [List.take_of_length_le (by simp; omega), byteCells_bytesN l h]; exact hcs
  rw [h2, hn] at hrow
  have := run_row_string src dst e hrow hs he hd
  rwa [mk_data] at this

/-- Behind some of a number's digits. -/
def DigL (n m : Nat) (l : List Nat) : Prop := (l = [] ∧ m = n) ∨ (l ≠ [] ∧ ((m = 0 ∧ decN n = l) ∨ (0 < m ∧ decN n = decN m ++ l)))
theorem decN_small {n : Nat} (h : n < 10) : decN n = [48 + n] := by rw [decN, if_pos h]
theorem decN_big {n : Nat} (h : ¬ n < 10) : decN n = decN (n / 10) ++ [48 + n % 10] := by rw [decN, if_neg h]
theorem DigL.step {n m : Nat} {l : List Nat} (h : DigL n m l) (hc : 0 < m ∨ l = []) : DigL n (m / 10) ((48 + m % 10) :: l) := by
  refine .inr ⟨by simp, ?_⟩
  rcases h with ⟨rfl, rfl⟩ | ⟨hl, h⟩
  · by_cases h10 : m < 10
    · exact .inl ⟨by omega, by rw [decN_small h10, show m % 10 = m from by omega]⟩
    · exact .inr ⟨by omega, decN_big h10⟩
  · rcases h with ⟨rfl, _⟩ | ⟨_, h⟩
    · rcases hc with h | h
      · omega
      · exact absurd h hl
    · by_cases h10 : m < 10
      · exact .inl ⟨by omega, by rw [h, decN_small h10, show m % 10 = m from by omega]; rfl⟩
      · exact .inr ⟨by omega, by rw [h, decN_big h10, List.append_assoc]; rfl⟩
theorem DigL.done {n : Nat} {l : List Nat} (h : DigL n 0 l) (hl : l ≠ []) : decN n = l := by
  rcases h with ⟨h, _⟩ | ⟨_, h | h⟩
  · exact absurd h hl
  · exact h.2
  · omega
theorem decN_len (k : Nat) : ∀ n, n < 10 ^ (k + 1) → (decN n).length ≤ k + 1 := by
  induction k with
  | zero => intro n h; rw [decN_small (by simpa using h)]; simp
  | succ k ih =>
    intro n h
    by_cases h10 : n < 10
    · rw [decN_small h10]; simp
    · rw [decN_big h10]
      have := ih (n / 10) (by rw [Nat.div_lt_iff_lt_mul (by omega)]; rw [Nat.pow_succ] at h; exact h)
      simp; exact this
theorem decN_pos (n : Nat) : 0 < (decN n).length := by
  by_cases h10 : n < 10
  · rw [decN_small h10]; simp
  · rw [decN_big h10]; simp

def strZ : Value → Nat
  | .string s => if s.size = 0 then 1 else 0
  | _ => 0
theorem size_bytesN_pos {l : List Nat} (h : l ≠ []) : (bytesN l).size ≠ 0 := by rw [bytesN_size]; intro e; exact h (List.eq_nil_of_length_eq_zero e)

set_option maxRecDepth 100000 in
set_option maxHeartbeats 1600000 in
theorem digits_any (n : Nat) (hn : n < 100000) (w : World) :
    Calls Tryz.prog 13 #[.int .i64 n] w fun e w' => e = .returned (.string (bytesN (decN n))) ∧ Below w.heap.size w w' := by
  go_enter Tryz.func13, Tryz.ntmps13
  go_wp2_with fail
  go_loopw [0, 3] (fun i s wr => ∃ (m : Nat) (l : List Nat), i = .int .i64 m ∧ s = .string (bytesN l) ∧ m < 100000 ∧ Hid (DigL n m l) ∧ Hid (l.length ≤ 100) ∧ Hid (Below w.heap.size w wr)) (fun i s _ => (intOf i).toNat + strZ s)
  case atStart => exact ⟨n, [], rfl, rfl, hn, .inl ⟨rfl, rfl⟩, Nat.zero_le _, Below.refl _ _⟩
  case round =>
    obtain ⟨m, l, rfl, rfl, hm, HD, HL, HB⟩ := hrel
    by_cases hc : 0 < m ∨ l = []
    · have hcc := hc
      obtain ⟨d, hd⟩ : ∃ d : Nat, d = 48 + m % 10 := ⟨_, rfl⟩
      have hd256 : d < 58 := by omega
      have hdm : (48 : Int) + (m : Int) % 10 = (d : Int) := by omega
      have HDM := Lib.hid hdm
      have hd8 : IntKind.u8.wrap (d : Int) = (d : Int) := by rw [u8_of (by omega), toNat_ofNat (by omega)]
      have hcv := bytes_str (W := wr.alloc (.cells #[.int .u8 (d : Int)] 5)) (P := Tryz.prog) 83 9 5 [d] #[.int .u8 (d : Int)] wr.heap.size 1 (heap_alloc_new wr _) rfl (by intro c hc; simp at hc; omega) rfl (by unfold maxLen; omega) Tryz.underlying83 Tryz.underlying5 Tryz.underlying9
      have hst : Hid (DigL n (m / 10) (d :: l)) := by rw [hd]; exact HD.out.step hc
      have hsz : (bytesN [d]).size + (bytesN l).size ≤ 9223372036854775807 := by rw [bytesN_size, bytesN_size]; have := HL.out; simp; omega
      have hl2 : Hid ((d :: l).length ≤ 100) := by
        show (d :: l).length ≤ 100
        have h5 := decN_len 4 n (by omega)
        rcases hst.out with ⟨h, _⟩ | ⟨_, ⟨_, h⟩ | ⟨_, h⟩⟩
        · simp at h
        · rw [← h]; omega
        · have := congrArg List.length h
          rw [List.length_append] at this
          omega
      have HDD := Lib.hid hd
      clear hd
      have hadd : bytesN [d] ++ bytesN l = bytesN (d :: l) := (bytesN_add [d] l).symm
      have HADD := Lib.hid hadd
      have hz9 : Hid (strZ (.string (bytesN (d :: l))) = 0) := by show strZ _ = 0; unfold strZ; exact if_neg (size_bytesN_pos (by simp))
      have HCC := Lib.hid hc
      have hB2 : Hid (Below w.heap.size w (wr.alloc (.cells #[.int .u8 (d : Int)] 5))) := Lib.hid (HB.out.alloc HB.out.size _)
      clear hc hcc hadd
      by_cases h0 : 0 < m
      · have t1 : ((m : Int) > 0) := by omega
        go_wp2_with fail
        go_roundw
        case rel => exact ⟨m / 10, d :: l, by go_num, by rw [HADD.out], by omega, hst, hl2, hB2⟩
        case measure => rw [HADD.out, hz9.out]; simp [intOf]; omega
      · have hl0 : l = [] := HCC.out.resolve_left h0
        have hm0 : m = 0 := by omega
        have hd48 : d = 48 := by have := HDD.out; omega
        subst hl0 hm0 hd48
        clear hcv hdm hd8 h0
        have hcv := bytes_str (W := wr.alloc (.cells #[.int .u8 48] 5)) (P := Tryz.prog) 83 9 5 [48] #[.int .u8 48] wr.heap.size 1 (heap_alloc_new wr _) rfl (by intro c hc; simp at hc; omega) rfl (by unfold maxLen; omega) Tryz.underlying83 Tryz.underlying5 Tryz.underlying9
        have he0 : (bytesN []).toList.isEmpty = true := by decide +kernel
        have hB3 : Hid (Below w.heap.size w (wr.alloc (.cells #[.int .u8 48] 5))) := hB2
        go_wp2_with fail
        go_roundw
        case rel => exact ⟨0, [48], rfl, by rw [HADD.out], by omega, hst, hl2, hB3⟩
        case measure => rw [HADD.out, hz9.out]; simp [intOf, strZ, bytesN_size]
    · have hm0 : m = 0 := by omega
      have hl0 : l ≠ [] := fun e => hc (.inr e)
      subst hm0
      have hne := not_empty (size_bytesN_pos hl0)
      have HFIN : Hid (decN n = l) := Lib.hid (HD.out.done hl0)
      clear hc
      go_wp2_with fail
      go_ret
      exact ⟨by rw [HFIN.out]; rfl, HB.out⟩

end Go.Proofs.YtnminmaklbhakaaGreatDoor

