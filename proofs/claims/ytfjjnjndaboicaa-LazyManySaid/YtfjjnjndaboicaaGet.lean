/- The contracts of lazy.Lazy: Made, Get. Own work. -/
import Derived.Test.YtfjjnjndaboicaaLazy
import Derived.Deep.RegionWith
namespace Go.Proofs.Ytfjjnjndaboicaa
set_option linter.unusedVariables false
open Go.RowKit Go.MuLone

/-- A Lazy: fresh, or made. -/
def LazyAt (w : World) (b off : Nat) : Option ByteArray → Prop
  | none => Cell w b off (.int .u32 0) ∧ Cell w b (off + 1) (.int .i32 0) ∧ Cell w b (off + 3) (.int .u32 0) ∧ Cell w b (off + 4) (.string ⟨#[]⟩)
  | some t => Cell w b off (.int .u32 1) ∧ Cell w b (off + 1) (.int .i32 0) ∧ Cell w b (off + 3) (.int .u32 1) ∧ Cell w b (off + 4) (.string t)

theorem LazyAt.lt {w : World} {b off : Nat} {s : Option ByteArray} (h : LazyAt w b off s) : b < w.heap.size := by cases s <;> exact h.1.lt
theorem LazyAt.keep {S : Nat → Prop} {w w' : World} {b off : Nat} {s : Option ByteArray} (h : LazyAt w b off s) (k : Keep S w w') (hn : ¬ S b) : LazyAt w' b off s := by
  cases s <;> exact ⟨h.1.keep k hn, h.2.1.keep k hn, h.2.2.1.keep k hn, h.2.2.2.keep k hn⟩
theorem DoorAt.lt {w : World} {b off : Nat} {s : Option Int} (h : DoorAt w b off s) : b < w.heap.size := by cases s <;> exact h.1.lt

set_option maxHeartbeats 400000 in
theorem lazy_made (b off : Nat) (s : Option ByteArray) (w : World) (h : LazyAt w b off s) :
    Calls Try.prog 7 #[.pointer (some ⟨b, off, none⟩)] w fun e w' => e = .returned (.bool s.isSome) ∧ w = w' := by
  cases s with
  | none =>
    have H := Lib.hid (bool_load0 b (off + 3) w h.2.2.1.1)
    clear h
    go_enter Try.func7, Try.ntmps7
    go_wp2_with fail
    refine H.out.mono ?_
    rintro e w1 ⟨rfl, rfl⟩
    go_wp2_with fail
    go_ret
    exact ⟨rfl, rfl⟩
  | some t =>
    have H := Lib.hid (bool_load1 b (off + 3) w h.2.2.1.1)
    clear h
    go_enter Try.func7, Try.ntmps7
    go_wp2_with fail
    refine H.out.mono ?_
    rintro e w1 ⟨rfl, rfl⟩
    go_wp2_with fail
    go_ret
    exact ⟨rfl, rfl⟩

set_option maxHeartbeats 400000 in
theorem lazy_made_nil (w : World) : Calls Try.prog 7 #[.pointer none] w fun e w' => e = .returned (.bool false) ∧ w = w' := by
  go_enter Try.func7, Try.ntmps7
  go_wp2
  go_ret
  exact ⟨rfl, rfl⟩

/-- The deferred closure, where nothing panicked. -/
theorem catch_idle (w : World) : CallsD Try.prog 28 #[] .returning w fun e u' w' => e = .returned (.tuple #[]) ∧ u' = .returning ∧ w' = w := by
  refine callsD_of_wpS Try.func28 rfl fun c₀ cs hu => ?_
  apply wpS_region
  cases c₀
  simp_all [wpOpsS, go_sem, recoverD, Try.ntmps28, Exit.thenS, bodyPostS, results, Try.results28]

set_option maxHeartbeats 400000 in
theorem answer_none (w : World) : Calls Try.prog 20 #[.nilFunc] w fun e w' => e = .returned (.string ⟨#[]⟩) ∧ w = w' := by
  have hnil : ∀ w : World, (binOp .eql 40 .nilFunc .nilFunc).run Try.prog w = .ok (.bool true) w := fun _ => by kernel_rfl
  go_enter_defers Try.func20, Try.ntmps20
  go_wp2_with fail
  exact ⟨_, results_tmp rfl _ _ _, rfl, rfl⟩

set_option maxHeartbeats 400000 in
theorem answer_some (F : Nat) (caps : Array Value) (t : ByteArray) (R : World → Prop) (w : World) (hen : ∀ w, (callFunc F caps).run Try.prog w = .ok (.enter F caps) w)
    (hcl : Calls Try.prog F caps w fun e w' => e = .returned (.string t) ∧ R w') :
    Calls Try.prog 20 #[.func (.func F) #[] caps] w fun e w' => e = .returned (.string t) ∧ R w' := by
  have hnil : ∀ w : World, (binOp .eql 40 (.func (.func F) #[] caps) .nilFunc).run Try.prog w = .ok (.bool false) w := fun _ => by kernel_rfl
  have hmf := run_makeFunc Try.prog
  have HC := Lib.hid hcl
  clear hcl
  go_enter_defers Try.func20, Try.ntmps20
  go_wp2_with fail
  refine HC.out.mono ?_
  rintro e w2 ⟨rfl, hr⟩
  have HR := Lib.hid hr
  clear hr
  go_wp2_with fail
  refine leaves_cons (f := 28) (args := #[]) (by simp) (by simp [go_sem]) ?_
  refine (catch_idle _).mono ?_
  rintro e u' w'' ⟨rfl, rfl, rfl⟩
  exact ⟨_, results_tmp rfl _ _ _, rfl, HR.out⟩

theorem Span.drewN {S : Nat → Prop} {b lo hi : Nat} {w w1 : World} (h : Span S b lo hi w w1) (n : Nat) : Span S b lo hi w (w1.drewN n) := ⟨h.keep.drewN n, h.cell, h.fr⟩

/-- What a make is to be: whatever was done to the Lazy's own cells, it answers t, turns the blocks of S alone, and leaves Q. -/
def Makes (S : Nat → Prop) (Q : World → Prop) (b off : Nat) (fv : Value) (t : ByteArray) (w : World) : Prop :=
  ∀ w1, Span (fun _ => False) b off (off + 5) w w1 → Calls Try.prog 20 #[fv] w1 fun e w2 => e = .returned (.string t) ∧ Keep S w1 w2 ∧ Q w2

theorem Makes.span {S : Nat → Prop} {Q : World → Prop} {b off : Nat} {fv : Value} {t : ByteArray} {w w1 : World} (h : Makes S Q b off fv t w) (s : Span (fun _ => False) b off (off + 5) w w1) : Makes S Q b off fv t w1 := fun w2 s2 => h w2 (s.trans s2)

set_option maxRecDepth 100000 in
set_option maxHeartbeats 1600000 in
/-- What the Once calls. -/
theorem get_body (S : Nat → Prop) (Q : World → Prop) (g b off : Nat) (fv u4 : Value) (t : ByteArray) (w : World) (h0 : Cell w g 0 (.pointer (some ⟨b, off, none⟩))) (h1 : Cell w (g + 1) 0 fv)
    (d0 : Cell w b off (.int .u32 0)) (d1 : Cell w b (off + 1) (.int .i32 1)) (d3 : Cell w b (off + 3) (.int .u32 0)) (d4 : Cell w b (off + 4) u4) (hne : g ≠ b ∧ g + 1 ≠ b) (hS : ¬ S b ∧ ¬ S g ∧ ¬ S (g + 1))
    (hm : Makes S Q b off fv t w) (hQ : ∀ w1 w2, Q w1 → Span (fun _ => False) b off (off + 5) w1 w2 → Q w2) :
    Calls Try.prog 18 #[.pointer (some ⟨g, 0, none⟩), .pointer (some ⟨g + 1, 0, none⟩)] w fun e w' =>
      e = .returned (.tuple #[]) ∧ (Span S b off (off + 5) w w' ∧ Cell w' b off (.int .u32 0) ∧ Cell w' b (off + 1) (.int .i32 1) ∧ Cell w' b (off + 3) (.int .u32 1) ∧ Cell w' b (off + 4) (.string t) ∧ Q w') := by
  obtain ⟨w1, hw1⟩ : ∃ w1, w1 = w.drew.setCell ⟨b, off + 3, none⟩ (.int .u32 1) := ⟨_, rfl⟩
  have s1 : Span (fun _ => False) b off (off + 5) w w1 := by rw [hw1]; exact (Span.refl _ _ _ _ w).drew.set (by omega) _
  have c0 : Cell w1 g 0 (.pointer (some ⟨b, off, none⟩)) := by rw [hw1]; exact h0.drew.far (by omega) _
  have c1 : Cell w1 (g + 1) 0 fv := by rw [hw1]; exact h1.drew.far (by omega) _
  have k0 : Cell w1 b off (.int .u32 0) := by rw [hw1]; exact d0.drew.far (by omega) _
  have k1 : Cell w1 b (off + 1) (.int .i32 1) := by rw [hw1]; exact d1.drew.far (by omega) _
  have k3 : Cell w1 b (off + 3) (.int .u32 1) := by rw [hw1]; exact d3.drew.set _
  have k4 : Cell w1 b (off + 4) u4 := by rw [hw1]; exact d4.drew.far (by omega) _
  have hm1 := hm.span s1
  have hend : ∀ n w2, Keep S (w1.drewN n) w2 → Q w2 → w2.cell? ⟨g, 0, none⟩ = some (.pointer (some ⟨b, off, none⟩)) ∧ w2.cell? ⟨b, off + 4, none⟩ = some u4 ∧ w2.frozen? ⟨b, off + 4, none⟩ = false ∧
      (Span S b off (off + 5) w (w2.setCell ⟨b, off + 4, none⟩ (.string t)) ∧ Cell (w2.setCell ⟨b, off + 4, none⟩ (.string t)) b off (.int .u32 0) ∧ Cell (w2.setCell ⟨b, off + 4, none⟩ (.string t)) b (off + 1) (.int .i32 1) ∧ Cell (w2.setCell ⟨b, off + 4, none⟩ (.string t)) b (off + 3) (.int .u32 1) ∧ Cell (w2.setCell ⟨b, off + 4, none⟩ (.string t)) b (off + 4) (.string t) ∧ Q (w2.setCell ⟨b, off + 4, none⟩ (.string t))) := by
    intro n w2 hk hq
    have kk : ∀ {o v}, Cell w1 b o v → Cell w2 b o v := fun c => Cell.keep (w := w1.drewN n) c hk hS.1
    have g0 : Cell w2 g 0 (.pointer (some ⟨b, off, none⟩)) := Cell.keep (w := w1.drewN n) c0 hk hS.2.1
    refine ⟨g0.1, (kk k4).1, (kk k4).2, ?_, (kk k0).far (by omega) _, (kk k1).far (by omega) _, (kk k3).far (by omega) _, (kk k4).set _, hQ _ _ hq ((Span.refl _ _ _ _ w2).set (by omega) _)⟩
    exact (((s1.drewN n).mono (fun _ x => x.elim)).trans (Span.of_keep hk (by exact k0.lt) hS.1)).set (by omega) _
  have hst := bool_store b (off + 3) (.int .u32 0) w d3.1 d3.2
  have HA := Lib.hid (fun n => hm1 (w1.drewN n) ((Span.refl _ _ _ _ w1).drewN n))
  have HS := Lib.hid hst
  have HE := Lib.hid hend
  have HW := Lib.hid hw1
  have a0 := h0.1
  have b0 := c0.1
  have b1 := c1.1
  clear hst hend hm1 k0 k1 k3 k4 c0 c1 s1 hw1 hm hQ hS hne d0 d1 d3 d4 h0 h1
  go_enter Try.func18, Try.ntmps18
  go_wp2_with fail
  refine HS.out.mono ?_
  rintro e w' ⟨rfl, hw'⟩
  rw [← HW.out] at hw'
  subst hw'
  go_wp2_with fail
  go_region_with (go_at_call 20; refine (HA.out _).mono ?_; rintro e w2 ⟨rfl, hk, hq⟩; obtain ⟨e1, e2, e3, he⟩ := HE.out _ _ hk hq; have HQ := Lib.hid he; clear he hk hq)
  all_goals (go_end0; exact ⟨rfl, HQ.out⟩)

set_option maxRecDepth 100000 in
set_option maxHeartbeats 1600000 in
theorem lazy_get_pre (S : Nat → Prop) (Q : World → Prop) (b off : Nat) (fv : Value) (t : ByteArray) (w : World) (h : LazyAt w b off none) (hS : ∀ k, S k → k < w.heap.size ∧ k ≠ b)
    (hm : Makes S Q b off fv t w) (hQ : ∀ w1 w2, Q w1 → Span (fun _ => False) b off (off + 5) w1 w2 → Q w2) :
    Calls Try.prog 17 #[.pointer (some ⟨b, off, none⟩), .func (.func 18) #[] #[.pointer (some ⟨w.heap.size, 0, none⟩), .pointer (some ⟨w.heap.size + 1, 0, none⟩)]] ((w.alloc (.cells #[.pointer (some ⟨b, off, none⟩)] 24)).alloc (.cells #[fv] 40)) fun e w' =>
      e = .returned (.tuple #[]) ∧ (w'.cell? ⟨w.heap.size, 0, none⟩ = some (.pointer (some ⟨b, off, none⟩)) ∧ w'.cell? ⟨b, off + 4, none⟩ = some (.string t) ∧ (LazyAt w' b off (some t) ∧ Span S b off (off + 5) w w' ∧ Q w')) := by
  have hb := h.lt
  obtain ⟨w3, hw3⟩ : ∃ w3, w3 = (w.alloc (.cells #[.pointer (some ⟨b, off, none⟩)] 24)).alloc (.cells #[fv] 40) := ⟨_, rfl⟩
  have s3 : Span (fun _ => False) b off (off + 5) w w3 := by
    rw [hw3]; exact ((Span.refl _ _ _ _ w).alloc hb _).alloc (by simp; omega) _
  have e0 : Cell w3 w.heap.size 0 (.pointer (some ⟨b, off, none⟩)) := by rw [hw3]; exact (Cell.box 0 rfl).alloc _
  have e1 : Cell w3 (w.heap.size + 1) 0 fv := by
    have x := Cell.box (w := w.alloc (.cells #[.pointer (some ⟨b, off, none⟩)] 24)) (cs := #[fv]) (t := 40) 0 rfl
    rw [hw3]; simpa using x
  have dd : ∀ {o v}, Cell w b o v → Cell w3 b o v := fun c => by rw [hw3]; exact (c.alloc _).alloc _
  have s4 : Span (fun _ => False) b off (off + 5) w (w3.setCell ⟨b, off + 1, none⟩ (.int .i32 1)) := s3.set (by omega) _
  have nS : ∀ k, w.heap.size ≤ k → ¬ S k := fun k hk x => by have := (hS k x).1; omega
  have hbody := get_body S Q w.heap.size b off fv (.string ⟨#[]⟩) t (w3.setCell ⟨b, off + 1, none⟩ (.int .i32 1)) (e0.far (by omega) _) (e1.far (by omega) _) ((dd h.1).far (by omega) _) ((dd h.2.1).set _) ((dd h.2.2.1).far (by omega) _) ((dd h.2.2.2).far (by omega) _)
    ⟨by omega, by omega⟩ ⟨fun x => (hS b x).2 rfl, nS _ (Nat.le_refl _), nS _ (by omega)⟩ (hm.span s4) hQ
  have hd := do_first b off 18 #[.pointer (some ⟨w.heap.size, 0, none⟩), .pointer (some ⟨w.heap.size + 1, 0, none⟩)] _ w3 (once_of (dd h.1) (dd h.2.1))
    (fun W => MuLone.run_callFunc_enter Try.func18 (by kernel_rfl) rfl _ W) hbody (fun w' hw => held_of hw.2.1 hw.2.2.1)
  have hfin : ∀ w2, (Span S b off (off + 5) (w3.setCell ⟨b, off + 1, none⟩ (.int .i32 1)) w2 ∧ Cell w2 b off (.int .u32 0) ∧ Cell w2 b (off + 1) (.int .i32 1) ∧ Cell w2 b (off + 3) (.int .u32 1) ∧ Cell w2 b (off + 4) (.string t) ∧ Q w2) →
      (onceDone b off w2).cell? ⟨w.heap.size, 0, none⟩ = some (.pointer (some ⟨b, off, none⟩)) ∧ (onceDone b off w2).cell? ⟨b, off + 4, none⟩ = some (.string t) ∧ (LazyAt (onceDone b off w2) b off (some t) ∧ Span S b off (off + 5) w (onceDone b off w2) ∧ Q (onceDone b off w2)) := by
    rintro w2 ⟨s, a0, a1, a3, a4, q⟩
    have g0 : Cell w2 w.heap.size 0 (.pointer (some ⟨b, off, none⟩)) := Cell.keep (e0.far (by omega) _) s.keep (fun x => x.elim (fun y => by omega) (nS _ (Nat.le_refl _)))
    have z0 : Cell (onceDone b off w2) w.heap.size 0 (.pointer (some ⟨b, off, none⟩)) := (g0.drew.far (by omega) _).far (by omega) _
    have z4 : Cell (onceDone b off w2) b (off + 4) (.string t) := (a4.drew.far (by omega) _).far (by omega) _
    refine ⟨z0.1, z4.1, ⟨(a0.drew.set _).far (by omega) _, (a1.drew.far (by omega) _).set _, (a3.drew.far (by omega) _).far (by omega) _, z4⟩, ?_, ?_⟩
    · exact ((((s4.mono (fun _ x => x.elim)).trans s).drew.set (by omega) _).set (by omega) _)
    · exact hQ _ _ q (((Span.refl _ _ _ _ w2).drew.set (by omega) _).set (by omega) _)
  rw [← hw3]
  refine hd.mono ?_
  rintro e w1 ⟨rfl, w2, hr, rfl⟩
  exact ⟨rfl, hfin _ hr⟩

set_option maxHeartbeats 400000 in
theorem lazy_get_first (S : Nat → Prop) (Q : World → Prop) (b off : Nat) (F : Nat) (caps : Array Value) (t : ByteArray) (w : World) (h : LazyAt w b off none) (hS : ∀ k, S k → k < w.heap.size ∧ k ≠ b)
    (hm : Makes S Q b off (.func (.func F) #[] caps) t w) (hQ : ∀ w1 w2, Q w1 → Span (fun _ => False) b off (off + 5) w1 w2 → Q w2) :
    Calls Try.prog 8 #[.pointer (some ⟨b, off, none⟩), (.func (.func F) #[] caps)] w fun e w' => e = .returned (.string t) ∧ LazyAt w' b off (some t) ∧ Span S b off (off + 5) w w' ∧ Q w' := by
  have hmf := run_makeFunc Try.prog
  have HD := Lib.hid (lazy_get_pre S Q b off (.func (.func F) #[] caps) t w h hS hm hQ)
  clear hm hQ hS h
  go_enter Try.func8, Try.ntmps8
  go_wp2_with fail
  refine HD.out.mono ?_
  rintro e w1 ⟨rfl, z0, z4, hz⟩
  have HZ := Lib.hid hz
  clear hz
  go_wp2_with fail
  go_ret
  exact ⟨rfl, HZ.out⟩

set_option maxHeartbeats 400000 in
theorem lazy_get_again (b off : Nat) (F : Nat) (caps : Array Value) (t : ByteArray) (w : World) (h : LazyAt w b off (some t)) :
    Calls Try.prog 8 #[.pointer (some ⟨b, off, none⟩), (.func (.func F) #[] caps)] w fun e w' => e = .returned (.string t) ∧ Keep (fun _ => False) w w' := by
  have hmf := run_makeFunc Try.prog
  have hk : Keep (fun _ => False) w ((w.alloc (.cells #[.pointer (some ⟨b, off, none⟩)] 24)).alloc (.cells #[(.func (.func F) #[] caps)] 40)) := ((Keep.refl _ w).alloc _).alloc _
  have h2 := h.keep hk (fun x => x)
  have e0 : Cell ((w.alloc (.cells #[.pointer (some ⟨b, off, none⟩)] 24)).alloc (.cells #[(.func (.func F) #[] caps)] 40)) w.heap.size 0 (.pointer (some ⟨b, off, none⟩)) := (Cell.box 0 rfl).alloc _
  have z0 := e0.1
  have H := Lib.hid (once_of h2.1 h2.2.1)
  have HK := Lib.hid hk
  have c4 := h2.2.2.2.1
  clear hk h h2 e0
  go_enter Try.func8, Try.ntmps8
  go_wp2_with fail
  refine (do_done b off _ _ H.out).mono ?_
  rintro e w1 ⟨rfl, rfl⟩
  go_wp2_with fail
  go_ret
  exact ⟨rfl, HK.out⟩

set_option maxHeartbeats 400000 in
theorem lazy_get_first_none (S : Nat → Prop) (Q : World → Prop) (b off : Nat) (t : ByteArray) (w : World) (h : LazyAt w b off none) (hS : ∀ k, S k → k < w.heap.size ∧ k ≠ b)
    (hm : Makes S Q b off .nilFunc t w) (hQ : ∀ w1 w2, Q w1 → Span (fun _ => False) b off (off + 5) w1 w2 → Q w2) :
    Calls Try.prog 8 #[.pointer (some ⟨b, off, none⟩), .nilFunc] w fun e w' => e = .returned (.string t) ∧ LazyAt w' b off (some t) ∧ Span S b off (off + 5) w w' ∧ Q w' := by
  have hmf := run_makeFunc Try.prog
  have HD := Lib.hid (lazy_get_pre S Q b off .nilFunc t w h hS hm hQ)
  clear hm hQ hS h
  go_enter Try.func8, Try.ntmps8
  go_wp2_with fail
  refine HD.out.mono ?_
  rintro e w1 ⟨rfl, z0, z4, hz⟩
  have HZ := Lib.hid hz
  clear hz
  go_wp2_with fail
  go_ret
  exact ⟨rfl, HZ.out⟩

set_option maxHeartbeats 400000 in
theorem lazy_get_again_none (b off : Nat) (t : ByteArray) (w : World) (h : LazyAt w b off (some t)) :
    Calls Try.prog 8 #[.pointer (some ⟨b, off, none⟩), .nilFunc] w fun e w' => e = .returned (.string t) ∧ Keep (fun _ => False) w w' := by
  have hmf := run_makeFunc Try.prog
  have hk : Keep (fun _ => False) w ((w.alloc (.cells #[.pointer (some ⟨b, off, none⟩)] 24)).alloc (.cells #[.nilFunc] 40)) := ((Keep.refl _ w).alloc _).alloc _
  have h2 := h.keep hk (fun x => x)
  have e0 : Cell ((w.alloc (.cells #[.pointer (some ⟨b, off, none⟩)] 24)).alloc (.cells #[.nilFunc] 40)) w.heap.size 0 (.pointer (some ⟨b, off, none⟩)) := (Cell.box 0 rfl).alloc _
  have z0 := e0.1
  have H := Lib.hid (once_of h2.1 h2.2.1)
  have HK := Lib.hid hk
  have c4 := h2.2.2.2.1
  clear hk h h2 e0
  go_enter Try.func8, Try.ntmps8
  go_wp2_with fail
  refine (do_done b off _ _ H.out).mono ?_
  rintro e w1 ⟨rfl, rfl⟩
  go_wp2_with fail
  go_ret
  exact ⟨rfl, HK.out⟩

set_option maxHeartbeats 400000 in
theorem lazy_get_nil (F : Nat) (caps : Array Value) (w : World) : Calls Try.prog 8 #[.pointer none, .func (.func F) #[] caps] w fun e w' => e = .returned (.string ⟨#[]⟩) ∧ Keep (fun _ => False) w w' := by
  have hk : Keep (fun _ => False) w ((w.alloc (.cells #[.pointer none] 24)).alloc (.cells #[.func (.func F) #[] caps] 40)) := ((Keep.refl _ w).alloc _).alloc _
  have HK := Lib.hid hk
  clear hk
  go_enter Try.func8, Try.ntmps8
  go_wp2
  go_ret
  exact ⟨rfl, HK.out⟩

/-- A nil make. -/
theorem makes_nil (b off : Nat) (w : World) : Makes (fun _ => False) (fun _ => True) b off .nilFunc ⟨#[]⟩ w := fun w1 _ => (answer_none w1).mono fun e w2 ⟨h1, h2⟩ => ⟨h1, h2 ▸ Keep.refl _ w1, trivial⟩

end Go.Proofs.Ytfjjnjndaboicaa
