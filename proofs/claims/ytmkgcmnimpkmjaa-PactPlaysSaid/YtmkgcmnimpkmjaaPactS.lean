/- pact's Start. Own work. -/
import Derived.Test.YtmkgcmnimpkmjaaPactD
import Derived.Lib.AppendStr
namespace Go.Proofs.Ytmkgcmnimpkmjaa
set_option linter.unusedVariables false
set_option linter.unusedSimpArgs false
open Go.RowKit Go.MuLone

/-- Both sides that are asked for. -/
def Pm.two (m : Pm) : Pm := (m.ask true 31).ask false 3

section
variable (p : Nat) (L : Blk) (name : ByteArray) (d l : Int) (m : Pm) (w : World)

theorem start_nil : Calls Try.prog 13 #[.pointer none] w fun e w' => e = .returned (.string ⟨#[]⟩) ∧ Below w.heap.size w w' := by
  go_enter Try.func13, Try.ntmps13
  go_wp2_with fail
  refine (pready_nil _).mono ?_
  rintro e w1 ⟨rfl, rfl⟩
  go_wp2_with fail
  go_ret
  exact ⟨rfl, (Below.refl _ _).alloc (Nat.le_refl _) _⟩

/-- What the Once calls leaves. -/
def Begun (g : Nat) (T : ByteArray) (w w' : World) : Prop := PactAt w' p L name d l m.two ∧ Cell w' g 0 (.pointer (some ⟨p, 0, none⟩)) ∧ Cell w' (g + 1) 0 (.string T) ∧ Keep (fun i => pown p L i ∨ i = g + 1) w w'

set_option maxRecDepth 100000 in
set_option maxHeartbeats 3200000 in
theorem start_body (g : Nat) (T : ByteArray) (hT : T = ⟨m.beginT.toArray⟩) (h : PactAt w p L name d l m) (hok : m.Ok) (hg : m.g < 900000) (hs : m.sent < 900000)
    (c0 : Cell w g 0 (.pointer (some ⟨p, 0, none⟩))) (c1 : Cell w (g + 1) 0 (.string ⟨#[]⟩)) (hl : p < g ∧ L.q1 < g ∧ L.q2 < g ∧ L.b1 < g ∧ L.b2 < g) :
    Calls Try.prog 31 #[.pointer (some ⟨g, 0, none⟩), .pointer (some ⟨g + 1, 0, none⟩)] w fun e w' => e = .returned (.tuple #[]) ∧ Begun p L name d l m g T w w' := by
  have hs1 := m.turn_sent true 31 ((m.askR true 31).1, (m.askR true 31).2.1) (m.askR true 31).2.2
  have hs2 : (m.ask true 31).g = m.g + 1 := hs1.2.1
  have hs3 : (m.ask true 31).sent ≤ m.sent + 1 := hs1.1
  have hok1 := hok.ask true 31 (by omega)
  have HA := Lib.hid (fun W (q : PactAt W p L name d l m) => ask_us p L name d l m 31 W q (hok.us _) (by omega) (by omega) (by omega))
  have HB := Lib.hid (fun W (q : PactAt W p L name d l (m.ask true 31)) => ask_him p L name d l _ 3 W q (hok1.him _) (by omega) (by omega) (by omega))
  obtain ⟨T1, hT1⟩ : ∃ T : ByteArray, T = ⟨(m.askT true 31).toArray⟩ := ⟨_, rfl⟩
  obtain ⟨T2, hT2⟩ : ∃ T : ByteArray, T = ⟨((m.ask true 31).askT false 3).toArray⟩ := ⟨_, rfl⟩
  rw [← hT1] at HA
  rw [← hT2] at HB
  have hTT : T = T1 ++ T2 := by rw [hT, hT1, hT2, mk_add]; rfl
  have z1 : T1.size ≤ 3 := by rw [hT1, size_mk]; exact cmd_len _ _ _
  have z2 : T2.size ≤ 3 := by rw [hT2, size_mk]; exact cmd_len _ _ _
  have hcat : ∀ W, (Op.stringOp .add T1 T2).run Try.prog W = .ok (.string T) W := fun W => by rw [hTT]; exact run_string_add_sum W T1 T2 (by omega)
  have H := Lib.hid h
  have C0 := Lib.hid c0
  have C1 := Lib.hid c1
  have HL := Lib.hid hl
  have g0 := c0.1
  clear h hok hok1 hs hs1 hs2 hs3 hg c0 c1 hl hT hT1 hT2 hTT z1 z2
  go_enter Try.func31, Try.ntmps31
  go_wp2_with fail
  refine wp_region_noPanic ?_
  refine wp_region_held_drew (S := fun W => W.cell? ⟨g, 0, none⟩ = some (.pointer (some ⟨p, 0, none⟩))) (by kernel_rfl) (by exact g0) (fun hHeld => ?_)
  refine wpAnyH_take (i := 0) (oi := _) (v := ?vst0) rfl (by kernel_rfl) (by kernel_rfl) (by kernel_rfl) (fun _ _ _ h => h) (Or.inl ⟨by rfl, ?hyst0⟩) (by assumption) ?restst0
  case hyst0 => (intro w hSw; (try dsimp only at hSw); (try simp only [List.getElem_toArray, List.getElem_cons_zero, List.getElem_cons_succ]); go_simp; (try with_reducible rfl))
  (try simp only [Act.put, List.setIfInBounds_toArray, List.set_cons_zero, List.set_cons_succ, List.getElem_toArray, List.getElem_cons_zero, List.getElem_cons_succ])
  refine wpAnyH_take (i := 1) (oi := _) (v := ?vst1) rfl (by kernel_rfl) (by kernel_rfl) (by kernel_rfl) (fun _ _ _ h => h) (Or.inl ⟨by rfl, ?hyst1⟩) (by assumption) ?restst1
  case hyst1 => (intro w hSw; (try dsimp only at hSw); (try simp only [List.getElem_toArray, List.getElem_cons_zero, List.getElem_cons_succ]); go_simp; (try with_reducible rfl))
  (try simp only [Act.put, List.setIfInBounds_toArray, List.set_cons_zero, List.set_cons_succ, List.getElem_toArray, List.getElem_cons_zero, List.getElem_cons_succ])
  refine wpAnyH_take (i := 2) (oi := _) (v := ?vst2) rfl (by kernel_rfl) (by kernel_rfl) (by kernel_rfl) (fun _ _ _ h => h) (Or.inl ⟨by rfl, ?hyst2⟩) (by assumption) ?restst2
  case hyst2 => (intro w hSw; (try dsimp only at hSw); (try simp only [List.getElem_toArray, List.getElem_cons_zero, List.getElem_cons_succ]); go_simp; (try with_reducible rfl))
  (try simp only [Act.put, List.setIfInBounds_toArray, List.set_cons_zero, List.set_cons_succ, List.getElem_toArray, List.getElem_cons_zero, List.getElem_cons_succ])
  refine wpAnyH_take (i := 3) (oi := _) (v := ?vst3) rfl (by kernel_rfl) (by kernel_rfl) (by kernel_rfl) (fun _ _ _ h => h) (Or.inl ⟨by rfl, ?hyst3⟩) (by assumption) ?restst3
  case hyst3 => (intro w hSw; (try dsimp only at hSw); (try simp only [List.getElem_toArray, List.getElem_cons_zero, List.getElem_cons_succ]); go_simp; (try with_reducible rfl))
  (try simp only [Act.put, List.setIfInBounds_toArray, List.set_cons_zero, List.set_cons_succ, List.getElem_toArray, List.getElem_cons_zero, List.getElem_cons_succ])
  refine wpAnyH_take (i := 5) (oi := _) (v := ?vst5) rfl (by kernel_rfl) (by kernel_rfl) (by kernel_rfl) (fun _ _ _ h => h) (Or.inl ⟨by rfl, ?hyst5⟩) (by assumption) ?restst5
  case hyst5 => (intro w hSw; (try dsimp only at hSw); (try simp only [List.getElem_toArray, List.getElem_cons_zero, List.getElem_cons_succ]); go_simp; (try with_reducible rfl))
  (try simp only [Act.put, List.setIfInBounds_toArray, List.set_cons_zero, List.set_cons_succ, List.getElem_toArray, List.getElem_cons_zero, List.getElem_cons_succ])
  refine wpAnyH_take (i := 6) (oi := _) (v := ?vst6) rfl (by kernel_rfl) (by kernel_rfl) (by kernel_rfl) (fun _ _ _ h => h) (Or.inl ⟨by rfl, ?hyst6⟩) (by assumption) ?restst6
  case hyst6 => (intro w hSw; (try dsimp only at hSw); (try simp only [List.getElem_toArray, List.getElem_cons_zero, List.getElem_cons_succ]); go_simp; (try with_reducible rfl))
  (try simp only [Act.put, List.setIfInBounds_toArray, List.set_cons_zero, List.set_cons_succ, List.getElem_toArray, List.getElem_cons_zero, List.getElem_cons_succ])
  refine wpAnyH_take (i := 7) (oi := _) (v := ?vst7) rfl (by kernel_rfl) (by kernel_rfl) (by kernel_rfl) (fun _ _ _ h => h) (Or.inl ⟨by rfl, ?hyst7⟩) (by assumption) ?restst7
  case hyst7 => (intro w hSw; (try dsimp only at hSw); (try simp only [List.getElem_toArray, List.getElem_cons_zero, List.getElem_cons_succ]); go_simp; (try with_reducible rfl))
  (try simp only [Act.put, List.setIfInBounds_toArray, List.set_cons_zero, List.set_cons_succ, List.getElem_toArray, List.getElem_cons_zero, List.getElem_cons_succ])
  refine wpAnyH_take (i := 8) (oi := _) (v := ?vst8) rfl (by kernel_rfl) (by kernel_rfl) (by kernel_rfl) (fun _ _ _ h => h) (Or.inl ⟨by rfl, ?hyst8⟩) (by assumption) ?restst8
  case hyst8 => (intro w hSw; (try dsimp only at hSw); (try simp only [List.getElem_toArray, List.getElem_cons_zero, List.getElem_cons_succ]); go_simp; (try with_reducible rfl))
  (try simp only [Act.put, List.setIfInBounds_toArray, List.set_cons_zero, List.set_cons_succ, List.getElem_toArray, List.getElem_cons_zero, List.getElem_cons_succ])
  refine wpAnyH_ready (rs := [4]) (by kernel_rfl) (by simp) ?_
  refine AllReadyH.cons (o := _) rfl (fun K hK => ?_) AllReadyH.nil
  (try simp only [List.getElem_toArray, List.getElem_cons_zero, List.getElem_cons_succ])
  go_simp
  go_at_call 32; refine (HA.out _ H.out.drew).mono ?_; rintro e w1 ⟨rfl, hq, hk⟩; have H1 := Lib.hid hq; have K1 : Hid (Keep (fun i => pown p L i ∨ i = g + 1) w w1) := Lib.hid ((Keep.refl (fun i => pown p L i ∨ i = g + 1) w).drew.trans hk (fun _ _ x => .inl x)); have D0 := Lib.hid (C0.out.drew.keep hk (by have := HL.out; simp [pown]; omega)); have D1 := Lib.hid (C1.out.drew.keep hk (by have := HL.out; simp [pown]; omega)); clear hq hk
  refine hK.out _ _ ?_ (fun hHeld => ?_)
  · exact D0.out.1
  clear hK K
  (try simp only [Act.put, List.setIfInBounds_toArray, List.set_cons_zero, List.set_cons_succ, List.getElem_toArray, List.getElem_cons_zero, List.getElem_cons_succ])
  refine wpAnyH_ready (rs := [9]) (by kernel_rfl) (by simp) ?_
  refine AllReadyH.cons (o := _) rfl (fun K hK => ?_) AllReadyH.nil
  (try simp only [List.getElem_toArray, List.getElem_cons_zero, List.getElem_cons_succ])
  go_simp
  go_at_call 32; refine (HB.out _ H1.out).mono ?_; rintro e w2 ⟨rfl, hq, hk⟩; have H2 := Lib.hid hq; have K2 := Lib.hid (K1.out.trans hk (fun _ _ x => .inl x)); replace D0 := Lib.hid (D0.out.keep hk (by have := HL.out; simp [pown]; omega)); replace D1 := Lib.hid (D1.out.keep hk (by have := HL.out; simp [pown]; omega)); have x0 := D1.out.1; have x1 := D1.out.2; clear hq hk
  refine hK.out _ _ ?_ (fun hHeld => ?_)
  · exact D0.out.1
  clear hK K
  (try simp only [Act.put, List.setIfInBounds_toArray, List.set_cons_zero, List.set_cons_succ, List.getElem_toArray, List.getElem_cons_zero, List.getElem_cons_succ])
  refine wpAnyH_take (i := 10) (oi := _) (v := ?vst10) rfl (by kernel_rfl) (by kernel_rfl) (by kernel_rfl) (fun _ _ _ h => h) (Or.inl ⟨by rfl, ?hyst10⟩) (by assumption) ?restst10
  case hyst10 => (intro w hSw; (try dsimp only at hSw); (try simp only [List.getElem_toArray, List.getElem_cons_zero, List.getElem_cons_succ]); go_simp; (try with_reducible rfl))
  (try simp only [Act.put, List.setIfInBounds_toArray, List.set_cons_zero, List.set_cons_succ, List.getElem_toArray, List.getElem_cons_zero, List.getElem_cons_succ])
  refine wpAnyH_ready (rs := [11]) (by kernel_rfl) (by simp) ?_
  refine AllReadyH.cons (o := _) rfl (fun K hK => ?_) AllReadyH.nil
  (try simp only [List.getElem_toArray, List.getElem_cons_zero, List.getElem_cons_succ])
  go_simp
  refine hK.out _ _ ?_ (fun hHeld => ?_)
  · exact (D0.out.far (by omega) _).1
  clear hK K
  (try simp only [Act.put, List.setIfInBounds_toArray, List.set_cons_zero, List.set_cons_succ, List.getElem_toArray, List.getElem_cons_zero, List.getElem_cons_succ])
  refine wpAnyH_done (by kernel_rfl) ?_ _
  refine NoPanic.normal ?_
  go_wp2_with fail
  go_end0
  refine ⟨rfl, H2.out.keep (S := fun i => i = g + 1) (Keep.setCell (S := fun i => i = g + 1) (Keep.refl _ _) (p := ⟨g + 1, 0, none⟩) (fun _ => rfl) _) (fun i hi e => ?_), D0.out.far (by omega) _, D1.out.set _, (K2.out.setCell (fun _ => .inr rfl) _)⟩
  have := HL.out
  omega

set_option maxRecDepth 100000 in
set_option maxHeartbeats 3200000 in
/-- Start, the first time. -/
theorem start_first (h : PactAt w p L name 0 0 m) (hok : m.Ok) (hg : m.g < 900000) (hs : m.sent < 900000) :
    Calls Try.prog 13 #[.pointer (some ⟨p, 0, none⟩)] w fun e w' => e = .returned (.string ⟨m.beginT.toArray⟩) ∧ PactAt w' p L name 1 0 m.begin ∧ Keep (pown p L) w w' := by
  obtain ⟨T, hT⟩ : ∃ T : ByteArray, T = ⟨m.beginT.toArray⟩ := ⟨_, rfl⟩
  rw [← hT]
  have hl := h.lts
  have hp := h.lt
  obtain ⟨w3, hw3⟩ : ∃ w3, w3 = (w.alloc (.cells #[.pointer (some ⟨p, 0, none⟩)] 24)).alloc (.cells #[.string ⟨#[]⟩] 9) := ⟨_, rfl⟩
  have h3 : PactAt w3 p L name 0 0 m := by rw [hw3]; exact (h.alloc _).alloc _
  have k3 : Keep (pown p L) w w3 := by rw [hw3]; exact ((Keep.refl _ w).alloc _).alloc _
  have e0 : Cell w3 w.heap.size 0 (.pointer (some ⟨p, 0, none⟩)) := by rw [hw3]; exact (Cell.box 0 rfl).alloc _
  have e1 : Cell w3 (w.heap.size + 1) 0 (.string ⟨#[]⟩) := by
    have x := Cell.box (w := w.alloc (.cells #[.pointer (some ⟨p, 0, none⟩)] 24)) (cs := #[.string ⟨#[]⟩]) (t := 9) 0 rfl
    rw [hw3]; simpa using x
  have hO : OnceAt p 1 0 w3 := ⟨(h3.cs 1 _ rfl).1, (h3.cs 1 _ rfl).2, (h3.cs 2 _ rfl).1, (h3.cs 2 _ rfl).2⟩
  have h4 : PactAt (w3.setCell ⟨p, 2, none⟩ (.int .i32 1)) p L name 0 1 m := h3.cells (keep_set w3 p 2 _) (h3.cs.set 2 (by simp [pcs]) _) rfl rfl (Nat.le_refl _)
  have hb := start_body p L name 0 1 m _ w.heap.size T hT h4 hok hg hs (e0.far (by omega) _) (e1.far (by omega) _) hl
  have HD := do_first p 1 31 #[.pointer (some ⟨w.heap.size, 0, none⟩), .pointer (some ⟨w.heap.size + 1, 0, none⟩)] (Begun p L name 0 1 m w.heap.size T (w3.setCell ⟨p, 2, none⟩ (.int .i32 1))) w3 hO (fun _ => by kernel_rfl) hb
    (fun w' q => ⟨(q.1.cs 1 _ rfl).1, (q.1.cs 1 _ rfl).2, (q.1.cs 2 _ rfl).1, (q.1.cs 2 _ rfl).2⟩)
  have HE : Hid (∀ w2, Begun p L name 0 1 m w.heap.size T (w3.setCell ⟨p, 2, none⟩ (.int .i32 1)) w2 → (onceDone p 1 w2).cell? ⟨w.heap.size + 1, 0, none⟩ = some (.string T) ∧ (onceDone p 1 w2).cell? ⟨w.heap.size, 0, none⟩ = some (.pointer (some ⟨p, 0, none⟩)) ∧ PactAt (onceDone p 1 w2) p L name 1 0 m.begin ∧ Keep (pown p L) w (onceDone p 1 w2)) := Lib.hid (fun w2 q => by
    obtain ⟨q1, q2, q3, q4⟩ := q
    have f0 := (q2.drew.far (k := p) (i := 1) (by omega) (.int .u32 1)).far (k := p) (i := 2) (by omega) (.int .i32 0)
    have f1 := (q3.drew.far (k := p) (i := 1) (by omega) (.int .u32 1)).far (k := p) (i := 2) (by omega) (.int .i32 0)
    refine ⟨f1.1, f0.1, ?_, ?_⟩
    · exact (q1.drew.cells (m' := m.begin) ((keep_set w2.drew p 1 _).own 2 _) ((q1.drew.cs.set 1 (by simp [pcs]) _).set 2 (by simp [pcs]) _) rfl rfl (Nat.le_refl _))
    · have k5 : Keep (pown p L) w (w3.setCell ⟨p, 2, none⟩ (.int .i32 1)) := k3.setCell (fun _ => .inl rfl) _
      have k6 : Keep (pown p L) w w2 := k5.trans q4 (fun i hi x => by
        rcases x with x | x
        · exact x
        · omega)
      exact (k6.drew.setCell (fun _ => .inl rfl) _).setCell (fun _ => .inl rfl) _)
  have H := Lib.hid (h.alloc (.cells #[.pointer (some ⟨p, 0, none⟩)] 24))
  rw [hw3] at HD
  have HD := Lib.hid HD
  rw [hw3] at HE
  clear h hok hg hs hT hl h3 k3 e0 e1 hO h4 hb hw3
  go_enter Try.func13, Try.ntmps13
  go_wp2_with fail
  refine (pready_any p L name 0 0 m _ H.out).mono ?_
  rintro e w1 ⟨rfl, rfl⟩
  go_wp2_with fail
  refine HD.out.mono ?_
  rintro e w1 ⟨rfl, w2, hq, rfl⟩
  obtain ⟨a0, a1, a2, a3⟩ := HE.out w2 hq
  have A2 := Lib.hid a2
  have A3 := Lib.hid a3
  clear a2 a3 hq
  generalize onceDone p 1 w2 = W at *
  clear HD HE H
  go_wp2_with fail
  go_ret
  exact ⟨rfl, A2.out, A3.out⟩

set_option maxHeartbeats 1600000 in
/-- Start, again. -/
theorem start_again (h : PactAt w p L name 1 0 m) :
    Calls Try.prog 13 #[.pointer (some ⟨p, 0, none⟩)] w fun e w' => e = .returned (.string ⟨#[]⟩) ∧ Below w.heap.size w w' := by
  have hp := h.lt
  have h3 := (h.alloc (.cells #[.pointer (some ⟨p, 0, none⟩)] 24)).alloc (.cells #[.string ⟨#[]⟩] 9)
  have HD := Lib.hid (fun fv => do_done p 1 fv _ ⟨(h3.cs 1 _ rfl).1, (h3.cs 1 _ rfl).2, (h3.cs 2 _ rfl).1, (h3.cs 2 _ rfl).2⟩)
  have H := Lib.hid (h.alloc (.cells #[.pointer (some ⟨p, 0, none⟩)] 24))
  clear h h3
  go_enter Try.func13, Try.ntmps13
  go_wp2_with fail
  refine (pready_any p L name 1 0 m _ H.out).mono ?_
  rintro e w1 ⟨rfl, rfl⟩
  go_wp2_with fail
  refine (HD.out _).mono ?_
  rintro e w1 ⟨rfl, rfl⟩
  go_wp2_with fail
  go_ret
  exact ⟨rfl, ((Below.refl w.heap.size w).alloc (Nat.le_refl _) _).alloc (by simp) _⟩

theorem start_any (h : PactAt w p L name (if m.started then 1 else 0) 0 m) (hok : m.Ok) (hg : m.g < 900000) (hs : m.sent < 900000) :
    Calls Try.prog 13 #[.pointer (some ⟨p, 0, none⟩)] w fun e w' => e = .returned (.string ⟨m.startT.toArray⟩) ∧ PactAt w' p L name (if m.start.started then 1 else 0) 0 m.start ∧ Keep (pown p L) w w' := by
  cases hst : m.started
  · rw [hst] at h
    rw [show m.startT = m.beginT by rw [Pm.startT, hst]; rfl, show m.start = m.begin by rw [Pm.start, hst]; rfl]
    exact start_first p L name m w h hok hg hs
  · rw [hst] at h
    rw [show m.startT = [] by rw [Pm.startT, hst]; rfl, show m.start = m by rw [Pm.start, hst]; rfl, hst]
    refine (start_again p L name m w h).mono ?_
    rintro e w1 ⟨rfl, hb⟩
    exact ⟨rfl, h.below hb, Keep.of_below _ hb⟩
end

end Go.Proofs.Ytmkgcmnimpkmjaa
