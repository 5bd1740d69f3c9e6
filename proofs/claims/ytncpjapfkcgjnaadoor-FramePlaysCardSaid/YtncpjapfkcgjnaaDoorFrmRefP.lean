/- The port of the document's own answer. Own work. -/
import Derived.Test.YtncpjapfkcgjnaaDoorFrmRefR
import Derived.Test.YtncpjapfkcgjnaaDoorFrmTake
import Derived.Test.YtncpjapfkcgjnaaDoorWins
namespace Go.Proofs.YtncpjapfkcgjnaaDoor
set_option linter.unusedVariables false
set_option linter.unusedSimpArgs false
open Go.RowKit

/-- The document's port behind a pointer. -/
structure RefPort (w : World) (p : Nat) (key : ByteArray) (way sent t : Int) (A : Option Addr) (c : Nat) (g : List Int) : Prop where
  c0 : w.cell? ⟨p, 0, none⟩ = some (.string key)
  c1 : w.cell? ⟨p, 1, none⟩ = some (.int .i64 way)
  c2 : w.cell? ⟨p, 2, none⟩ = some (.int .i64 sent)
  f2 : w.frozen? ⟨p, 2, none⟩ = false
  win : RefAt w p 3 t A c g

namespace RefPort
variable {w w' : World} {p : Nat} {key : ByteArray} {way sent t : Int} {A : Option Addr} {c : Nat} {g : List Int}
theorem lt (h : RefPort w p key way sent t A c g) : p < w.heap.size := h.win.lt
theorem keep {S : Nat → Prop} (h : RefPort w p key way sent t A c g) (k : Keep S w w') (hn : ¬ S p) (hA : ∀ i, blk A = some i → ¬ S i) : RefPort w' p key way sent t A c g :=
  ⟨(k.cell (p := ⟨p, 0, none⟩) h.lt hn).trans h.c0, (k.cell (p := ⟨p, 1, none⟩) h.lt hn).trans h.c1, (k.cell (p := ⟨p, 2, none⟩) h.lt hn).trans h.c2, (k.frozen (p := ⟨p, 2, none⟩) h.lt hn).trans h.f2, h.win.keep k hn hA⟩
theorem below (h : RefPort w p key way sent t A c g) (k : Below w.heap.size w w') : RefPort w' p key way sent t A c g := h.keep (Keep.of_below (fun _ => False) k) (fun x => x) (fun _ _ x => x)
theorem alloc (h : RefPort w p key way sent t A c g) (o : Obj) : RefPort (w.alloc o) p key way sent t A c g := h.keep (Keep.alloc (Keep.refl (fun _ => False) w) o) (fun x => x) (fun _ _ x => x)
/-- The third cell set. -/
theorem set2 (h : RefPort w p key way sent t A c g) (n : Int) : RefPort (w.setCell ⟨p, 2, none⟩ (.int .i64 n)) p key way n t A c g := by
  have hne : ∀ i, i ≠ 2 → (w.setCell ⟨p, 2, none⟩ (.int .i64 n)).cell? ⟨p, i, none⟩ = w.cell? ⟨p, i, none⟩ := fun i hi => World.cell?_setCell_other w _ _ _ (fun e => by injection e with _ e2; omega)
  refine ⟨(hne 0 (by omega)).trans h.c0, (hne 1 (by omega)).trans h.c1, World.cell?_setCell_same w _ _ h.c2, by simpa using h.f2, ⟨(hne 3 (by omega)).trans h.win.c0, (hne 4 (by omega)).trans h.win.c1, by simpa using h.win.f0, by simpa using h.win.f1, ?_, h.win.ne⟩⟩
  exact h.win.buf.keep (keep_set w p 2 _) (fun i hi e => h.win.ne i hi e.symm)
end RefPort

theorem refport_new (w : World) (p : Nat) (hp : p = w.heap.size) (key : ByteArray) (way : Int) (T : TypeId) :
    RefPort (w.alloc (.cells #[.string key, .int .i64 way, .int .i64 0, .int .i64 0, .slice none 0 0] T)) p key way 0 0 none 0 [] := by
  subst hp
  have h0 := heap_alloc_new w (.cells #[.string key, .int .i64 way, .int .i64 0, .int .i64 0, .slice none 0 0] T)
  exact ⟨cell_at h0 0, cell_at h0 1, cell_at h0 2, free_at h0 2, ⟨cell_at h0 3, cell_at h0 4, free_at h0 3, free_at h0 4, Buf.nil _, fun k hk => by simp [blk] at hk⟩⟩

set_option maxRecDepth 100000 in
set_option maxHeartbeats 800000 in
theorem refsend_any {p : Nat} {key : ByteArray} {way sent t : Int} {A : Option Addr} {c : Nat} {g : List Int} (b : ByteArray) (w : World) (h : RefPort w p key way sent t A c g) (hw : -9223372036854775808 ≤ way ∧ way ≤ 9223372036854775807) (hk : key.size ≤ 90000) (hs : 0 ≤ sent ∧ sent ≤ 4611686018427387904) (hb : b.size ≤ maxLen) :
    Calls Tryd.prog 14 #[.pointer (some ⟨p, 0, none⟩), .string b] w fun r w' => r = .returned (.tuple #[.string ⟨(layL key.data.toList way (sent + 1) b.data.toList).1.toArray⟩, .int .i64 (layL key.data.toList way (sent + 1) b.data.toList).2]) ∧ RefPort w' p key way (sentN sent (layL key.data.toList way (sent + 1) b.data.toList).2) t A c g ∧ Keep (· = p) w w' := by
  obtain ⟨hs1, hs2⟩ := hs
  have hl := fun W => reflay_any key way (sent + 1) b W hk hw ⟨by omega, by omega⟩ hb
  obtain ⟨d, e, hde⟩ : ∃ d e, layL key.data.toList way (sent + 1) b.data.toList = (d, e) := ⟨_, _, rfl⟩
  rw [hde] at hl ⊢
  have HL := Lib.hid hl
  have H := Lib.hid h
  have t1 : w.cell? ⟨p, 0, none⟩ = some (.string key) ∧ w.cell? ⟨p, 1, none⟩ = some (.int .i64 way) ∧ w.cell? ⟨p, 2, none⟩ = some (.int .i64 sent) := ⟨h.c0, h.c1, h.c2⟩
  have u1 : IntKind.i64.wrap (sent + 1) = sent + 1 := IntWalk.i64_in _ (by omega)
  clear hl h hw hde
  go_enter Tryd.func14, Tryd.ntmps14
  go_wp2_with fail
  go_region_held3 (fun w' => w'.cell? ⟨p, 0, none⟩ = some (.string key) ∧ w'.cell? ⟨p, 1, none⟩ = some (.int .i64 way) ∧ w'.cell? ⟨p, 2, none⟩ = some (.int .i64 sent)) (first | exact t2 | exact t1 | go_keep) (first
    | (go_at_call 9; ((with_reducible refine (HL.out _).mono ?_); rintro r w2 ⟨rfl, b2⟩; have B2 := Lib.hid (below_step (Below.refl w.heap.size w).drew b2); have t2 := keeps_three B2.out t1; clear b2))
    | fail)
  all_goals
    by_cases he : e = 0
    · subst he
      have H2 := H.out.below B2.out
      have d2 := H2.c2
      have f2 := H2.f2
      have HP := Lib.hid (H2.set2 (sent + 1))
      have HK := Lib.hid ((Keep.of_below (· = p) B2.out).own 2 (.int .i64 (sent + 1)))
      clear H2 B2 t1 t2 u1
      go_wp2_with fail
      go_ret2
      exact ⟨rfl, HP.out, HK.out⟩
    · have he2 : (e == 0) = false := by simpa using he
      have HP := Lib.hid (H.out.below B2.out)
      have HS : Hid (sentN sent e = sent) := Lib.hid (if_neg he)
      have HK := Lib.hid (Keep.of_below (· = p) B2.out)
      clear B2 t1 t2 u1
      go_wp2_with fail
      go_ret2
      exact ⟨rfl, by rw [HS.out]; exact HP.out, HK.out⟩

/-- A Take of the document's port, told. -/
def RefTold (w : World) (p : Nat) (key b : ByteArray) (f : Frm) (er : Int) (way sent t : Int) (A : Option Addr) (g : List Int) : Prop :=
  Calls Tryd.prog 16 #[.pointer (some ⟨p, 0, none⟩), .string b] w fun r w' => r = .returned (.tuple #[.agg #[.int .i64 f.way, .int .i64 f.seq, .string f.body], .int .i64 er]) ∧ ∃ A' c', RefPort w' p key way sent t A' c' g ∧ Keep (· = p) w w' ∧ ∀ k, blk A' = some k → blk A = some k ∨ w.heap.size ≤ k

set_option maxRecDepth 100000 in
set_option maxHeartbeats 1600000 in
theorem reftake_err {p : Nat} {key : ByteArray} {way sent t : Int} {A : Option Addr} {c : Nat} {g : List Int} (b : ByteArray) (w : World) (fw fs : Int) (fb : ByteArray) (e : Int) (h : RefPort w p key way sent t A c g)
    (hrd : ∀ W, Calls Tryd.prog 11 #[.string key, .string b] W fun r w' => r = .returned (.tuple #[.agg #[.int .i64 fw, .int .i64 fs, .string fb], .int .i64 e]) ∧ Below W.heap.size W w') (he : (e != 0) = true) :
    RefTold w p key b Frm.none e way sent t A g := by
  have T0 := Lib.hid (three_new w (.int .i64 0) (.int .i64 0) (.string ⟨#[]⟩) 30)
  have B0 := Lib.hid ((Below.refl w.heap.size w).alloc (Nat.le_refl _) (.cells #[.int .i64 0, .int .i64 0, .string ⟨#[]⟩] 30))
  have H := Lib.hid (h.alloc (.cells #[.int .i64 0, .int .i64 0, .string ⟨#[]⟩] 30))
  have H0 := Lib.hid h
  have RD := Lib.hid hrd
  have p0 := h.c0
  have hpl := h.lt
  have HPL := Lib.hid hpl
  clear h hrd
  unfold RefTold
  go_enter Tryd.func16, Tryd.ntmps16
  go_wp2_with fail
  refine (RD.out _).mono ?_
  rintro r w1 ⟨rfl, hb1⟩
  have P1 := Lib.hid (H.out.below hb1)
  have T1 := Lib.hid (T0.out.below hb1)
  have B1 := Lib.hid (B0.out.trans (hb1.mono B0.out.size))
  clear hb1 H T0 B0 RD p0
  obtain ⟨e0, e1, e2, _, _, _⟩ := (T1.out.set (.int .i64 0) (.int .i64 0) (.string ⟨#[]⟩)).alloc (.cells #[.int .i64 fw, .int .i64 fs, .string fb] 30)
  have E0 := Lib.hid e0
  have E1 := Lib.hid e1
  have E2 := Lib.hid e2
  obtain ⟨c0, c1, c2, g0, g1, g2⟩ := T1.out
  have hz : w.heap.size < w1.heap.size := T1.out.lt
  clear e0 e1 e2
  go_wp2_with fail
  refine bodyPost_ret (v := .tuple #[.agg #[.int .i64 0, .int .i64 0, .string ⟨#[]⟩], .int .i64 e]) (by simp [results, Tryd.results16, go_sem, E0.out, E1.out, E2.out]) rfl ⟨rfl, A, c, ?_, ?_, fun k hk => .inl hk⟩
  · exact (P1.out.keep ((((keep_set w1 w.heap.size 0 _).own 1 _).own 2 _).alloc _) (by have := HPL.out; omega) (fun i hi e => by have := H0.out.win.buf.lt hi; omega))
  · exact Keep.of_below _ ((below_three B1.out (Nat.le_refl _) _ _ _).alloc (by have := B1.out.size; simp; omega) _)

set_option maxRecDepth 100000 in
set_option maxHeartbeats 1600000 in
theorem reftake_own {p : Nat} {key : ByteArray} {way sent t : Int} {A : Option Addr} {c : Nat} {g : List Int} (b : ByteArray) (w : World) (fw fs : Int) (fb : ByteArray) (e : Int) (h : RefPort w p key way sent t A c g)
    (hrd : ∀ W, Calls Tryd.prog 11 #[.string key, .string b] W fun r w' => r = .returned (.tuple #[.agg #[.int .i64 fw, .int .i64 fs, .string fb], .int .i64 e]) ∧ Below W.heap.size W w') (he : e = 0) (hown : (fw == way) = true) :
    RefTold w p key b Frm.none 3 way sent t A g := by
  subst he
  have T0 := Lib.hid (three_new w (.int .i64 0) (.int .i64 0) (.string ⟨#[]⟩) 30)
  have B0 := Lib.hid ((Below.refl w.heap.size w).alloc (Nat.le_refl _) (.cells #[.int .i64 0, .int .i64 0, .string ⟨#[]⟩] 30))
  have H := Lib.hid (h.alloc (.cells #[.int .i64 0, .int .i64 0, .string ⟨#[]⟩] 30))
  have H0 := Lib.hid h
  have RD := Lib.hid hrd
  have p0 := h.c0
  have hpl := h.lt
  have HPL := Lib.hid hpl
  clear h hrd
  unfold RefTold
  go_enter Tryd.func16, Tryd.ntmps16
  go_wp2_with fail
  refine (RD.out _).mono ?_
  rintro r w1 ⟨rfl, hb1⟩
  have P1 := Lib.hid (H.out.below hb1)
  have T1 := Lib.hid (T0.out.below hb1)
  have B1 := Lib.hid (B0.out.trans (hb1.mono B0.out.size))
  clear hb1 H T0 B0 RD p0
  have p1 := P1.out.c1
  have hz : w.heap.size < w1.heap.size := T1.out.lt
  have hpz : p < w1.heap.size := P1.out.lt
  go_wp2_with fail
  go_quiet (fail)
  clear p1
  obtain ⟨q, hq⟩ : ∃ q, q = w1.heap.size := ⟨_, rfl⟩
  obtain ⟨W2, hW2⟩ : ∃ W2, W2 = (w1.alloc (.cells #[.int .i64 fw, .int .i64 fs, .string fb] 30)).drewN nq := ⟨_, rfl⟩
  rw [← hW2, ← hq]
  have Q2 : Hid (Three W2 q (.int .i64 fw) (.int .i64 fs) (.string fb)) := Lib.hid (by rw [hW2, hq]; exact (three_new w1 _ _ _ _).keep (Keep.drewN (Keep.refl (fun _ => False) _) nq) (fun x => x))
  have K2 : Hid (Keep (fun _ => False) w1 W2) := Lib.hid (by rw [hW2]; exact ((Keep.refl _ w1).alloc _).drewN nq)
  have P2 := Lib.hid (P1.out.keep K2.out (fun x => x) (fun _ _ x => x))
  have T2 := Lib.hid (T1.out.keep K2.out (fun x => x))
  have B2 := Lib.hid (B1.out.trans (K2.out.below B1.out.size (fun _ _ x => x)))
  have hqp : p < q := by omega
  have hqr : w.heap.size < q := by omega
  have hpr := HPL.out
  have hla : Hid (∀ k, blk A = some k → k < w.heap.size) := Lib.hid (fun k hk => H0.out.win.buf.lt hk)
  clear hW2 hq K2 P1 T1 B1 hz hpz
  obtain ⟨e0, e1, e2, _, _, _⟩ := T2.out.set (.int .i64 0) (.int .i64 0) (.string ⟨#[]⟩)
  have E0 := Lib.hid e0
  have E1 := Lib.hid e1
  have E2 := Lib.hid e2
  obtain ⟨c0, c1, c2, g0, g1, g2⟩ := T2.out
  clear e0 e1 e2
  go_wp2_with fail
  refine bodyPost_ret (v := .tuple #[.agg #[.int .i64 0, .int .i64 0, .string ⟨#[]⟩], .int .i64 3]) (by simp [results, Tryd.results16, go_sem, E0.out, E1.out, E2.out]) rfl ⟨rfl, A, c, ?_, ?_, fun k hk => .inl hk⟩
  · exact P2.out.keep (((keep_set W2 w.heap.size 0 _).own 1 _).own 2 _) (by omega) (fun i hi e => by have := hla.out i hi; omega)
  · exact Keep.of_below _ (below_three B2.out (Nat.le_refl _) _ _ _)

set_option maxRecDepth 100000 in
set_option maxHeartbeats 1600000 in
theorem reftake_old {p : Nat} {key : ByteArray} {way sent t : Int} {A : Option Addr} {c : Nat} {g : List Int} (b : ByteArray) (w : World) (fw fs : Int) (fb : ByteArray) (e : Int) (h : RefPort w p key way sent t A c g)
    (hrd : ∀ W, Calls Tryd.prog 11 #[.string key, .string b] W fun r w' => r = .returned (.tuple #[.agg #[.int .i64 fw, .int .i64 fs, .string fb], .int .i64 e]) ∧ Below W.heap.size W w') (he : e = 0) (hown : (fw == way) = false) (hg : GotOk t g) (hgl : g.length ≤ 1000000) (hf : freshL t g fs = false) :
    RefTold w p key b Frm.none 6 way sent t A g := by
  subst he
  have HG := Lib.hid hg
  have HF := Lib.hid hf
  clear hg hf
  have T0 := Lib.hid (three_new w (.int .i64 0) (.int .i64 0) (.string ⟨#[]⟩) 30)
  have B0 := Lib.hid ((Below.refl w.heap.size w).alloc (Nat.le_refl _) (.cells #[.int .i64 0, .int .i64 0, .string ⟨#[]⟩] 30))
  have H := Lib.hid (h.alloc (.cells #[.int .i64 0, .int .i64 0, .string ⟨#[]⟩] 30))
  have H0 := Lib.hid h
  have RD := Lib.hid hrd
  have p0 := h.c0
  have hpl := h.lt
  have HPL := Lib.hid hpl
  clear h hrd
  unfold RefTold
  go_enter Tryd.func16, Tryd.ntmps16
  go_wp2_with fail
  refine (RD.out _).mono ?_
  rintro r w1 ⟨rfl, hb1⟩
  have P1 := Lib.hid (H.out.below hb1)
  have T1 := Lib.hid (T0.out.below hb1)
  have B1 := Lib.hid (B0.out.trans (hb1.mono B0.out.size))
  clear hb1 H T0 B0 RD p0
  have p1 := P1.out.c1
  have hz : w.heap.size < w1.heap.size := T1.out.lt
  have hpz : p < w1.heap.size := P1.out.lt
  go_wp2_with fail
  go_quiet (fail)
  clear p1
  obtain ⟨q, hq⟩ : ∃ q, q = w1.heap.size := ⟨_, rfl⟩
  obtain ⟨W2, hW2⟩ : ∃ W2, W2 = (w1.alloc (.cells #[.int .i64 fw, .int .i64 fs, .string fb] 30)).drewN nq := ⟨_, rfl⟩
  rw [← hW2, ← hq]
  have Q2 : Hid (Three W2 q (.int .i64 fw) (.int .i64 fs) (.string fb)) := Lib.hid (by rw [hW2, hq]; exact (three_new w1 _ _ _ _).keep (Keep.drewN (Keep.refl (fun _ => False) _) nq) (fun x => x))
  have K2 : Hid (Keep (fun _ => False) w1 W2) := Lib.hid (by rw [hW2]; exact ((Keep.refl _ w1).alloc _).drewN nq)
  have P2 := Lib.hid (P1.out.keep K2.out (fun x => x) (fun _ _ x => x))
  have T2 := Lib.hid (T1.out.keep K2.out (fun x => x))
  have B2 := Lib.hid (B1.out.trans (K2.out.below B1.out.size (fun _ _ x => x)))
  have hqp : p < q := by omega
  have hqr : w.heap.size < q := by omega
  have hpr := HPL.out
  have hla : Hid (∀ k, blk A = some k → k < w.heap.size) := Lib.hid (fun k hk => H0.out.win.buf.lt hk)
  clear hW2 hq K2 P1 T1 B1 hz hpz
  have m1 : W2.cell? ⟨q, 1, none⟩ = some (.int .i64 fs) := Q2.out.c1
  go_wp2_with fail
  go_region_held3 (fun w' => w'.cell? ⟨q, 1, none⟩ = some (.int .i64 fs)) (first | exact m1 | go_keep) (first
    | (go_at_call 32; ((with_reducible refine (ref_mark_not p 3 t A c g fs _ ?_ HG.out.lo HG.out.hi hgl HF.out).mono ?_); (first | exact P2.out.win | exact (P2.out.win.keep ((Keep.refl (fun _ => False) W2).drew) (fun x => x) (fun _ _ x => x))); rintro r w3 ⟨rfl, rfl⟩))
    | fail)
  all_goals
    obtain ⟨e0, e1, e2, _, _, _⟩ := T2.out.set (.int .i64 0) (.int .i64 0) (.string ⟨#[]⟩)
    have E0 := Lib.hid e0
    have E1 := Lib.hid e1
    have E2 := Lib.hid e2
    obtain ⟨c0, c1, c2, g0, g1, g2⟩ := T2.out
    clear e0 e1 e2 m1
    go_wp2_with fail
    refine bodyPost_ret (v := .tuple #[.agg #[.int .i64 0, .int .i64 0, .string ⟨#[]⟩], .int .i64 6]) (by simp [results, Tryd.results16, go_sem, E0.out, E1.out, E2.out]) rfl ⟨rfl, A, c, ?_, ?_, fun k hk => .inl hk⟩
    · exact P2.out.keep ((((keep_set W2 w.heap.size 0 _).own 1 _).own 2 _).drew) (by omega) (fun i hi e => by have := hla.out i hi; omega)
    · exact Keep.of_below _ (below_three B2.out (Nat.le_refl _) _ _ _).drew

set_option maxRecDepth 100000 in
set_option maxHeartbeats 1600000 in
theorem reftake_new {p : Nat} {key : ByteArray} {way sent t : Int} {A : Option Addr} {c : Nat} {g : List Int} (b : ByteArray) (w : World) (fw fs : Int) (fb : ByteArray) (e : Int) (h : RefPort w p key way sent t A c g)
    (hrd : ∀ W, Calls Tryd.prog 11 #[.string key, .string b] W fun r w' => r = .returned (.tuple #[.agg #[.int .i64 fw, .int .i64 fs, .string fb], .int .i64 e]) ∧ Below W.heap.size W w') (he : e = 0) (hown : (fw == way) = false) (hg : GotOk t g) (hgl : g.length ≤ 1000000) (hf : freshL t g fs = true) :
    RefTold w p key b ⟨fw, fs, fb⟩ 0 way sent (max t fs) A (markL t g fs) := by
  subst he
  have HG := Lib.hid hg
  have HF := Lib.hid hf
  clear hg hf
  have T0 := Lib.hid (three_new w (.int .i64 0) (.int .i64 0) (.string ⟨#[]⟩) 30)
  have B0 := Lib.hid ((Below.refl w.heap.size w).alloc (Nat.le_refl _) (.cells #[.int .i64 0, .int .i64 0, .string ⟨#[]⟩] 30))
  have H := Lib.hid (h.alloc (.cells #[.int .i64 0, .int .i64 0, .string ⟨#[]⟩] 30))
  have H0 := Lib.hid h
  have RD := Lib.hid hrd
  have p0 := h.c0
  have hpl := h.lt
  have HPL := Lib.hid hpl
  clear h hrd
  unfold RefTold
  go_enter Tryd.func16, Tryd.ntmps16
  go_wp2_with fail
  refine (RD.out _).mono ?_
  rintro r w1 ⟨rfl, hb1⟩
  have P1 := Lib.hid (H.out.below hb1)
  have T1 := Lib.hid (T0.out.below hb1)
  have B1 := Lib.hid (B0.out.trans (hb1.mono B0.out.size))
  clear hb1 H T0 B0 RD p0
  have p1 := P1.out.c1
  have hz : w.heap.size < w1.heap.size := T1.out.lt
  have hpz : p < w1.heap.size := P1.out.lt
  go_wp2_with fail
  go_quiet (fail)
  clear p1
  obtain ⟨q, hq⟩ : ∃ q, q = w1.heap.size := ⟨_, rfl⟩
  obtain ⟨W2, hW2⟩ : ∃ W2, W2 = (w1.alloc (.cells #[.int .i64 fw, .int .i64 fs, .string fb] 30)).drewN nq := ⟨_, rfl⟩
  rw [← hW2, ← hq]
  have Q2 : Hid (Three W2 q (.int .i64 fw) (.int .i64 fs) (.string fb)) := Lib.hid (by rw [hW2, hq]; exact (three_new w1 _ _ _ _).keep (Keep.drewN (Keep.refl (fun _ => False) _) nq) (fun x => x))
  have K2 : Hid (Keep (fun _ => False) w1 W2) := Lib.hid (by rw [hW2]; exact ((Keep.refl _ w1).alloc _).drewN nq)
  have P2 := Lib.hid (P1.out.keep K2.out (fun x => x) (fun _ _ x => x))
  have T2 := Lib.hid (T1.out.keep K2.out (fun x => x))
  have B2 := Lib.hid (B1.out.trans (K2.out.below B1.out.size (fun _ _ x => x)))
  have hqp : p < q := by omega
  have hqr : w.heap.size < q := by omega
  have hpr := HPL.out
  have hla : Hid (∀ k, blk A = some k → k < w.heap.size) := Lib.hid (fun k hk => H0.out.win.buf.lt hk)
  clear hW2 hq K2 P1 T1 B1 hz hpz
  have m1 : W2.cell? ⟨q, 1, none⟩ = some (.int .i64 fs) := Q2.out.c1
  have HQL := Lib.hid Q2.out.lt
  go_wp2_with fail
  go_region_held3 (fun w' => w'.cell? ⟨q, 1, none⟩ = some (.int .i64 fs)) (first | exact m3 | exact m1 | go_keep) (first
    | (go_at_call 32; ((with_reducible refine (ref_mark_in p 3 t A c g fs _ ?_ HG.out hgl HF.out).mono ?_); (first | exact P2.out.win | exact (P2.out.win.keep ((Keep.refl (fun _ => False) W2).drew) (fun x => x) (fun _ _ x => x))); rintro r w3 ⟨rfl, A', c', hwin, hk3, hA', hbes⟩; have WIN := Lib.hid hwin; have K3 : Hid (Keep (fun k => p = k) W2 w3) := Lib.hid (((Keep.refl (fun k => p = k) W2).drew).trans hk3 (fun _ _ x => x)); have BES : Hid (Beside p 3 W2 w3) := Lib.hid hbes; have LA : Hid (∀ k, blk A' = some k → W2.heap.size ≤ k) := Lib.hid hA'; clear hwin hk3 hA' hbes; have m3 : w3.cell? ⟨q, 1, none⟩ = some (.int .i64 fs) := (K3.out.cell (p := ⟨q, 1, none⟩) HQL.out (by show ¬ p = q; omega)).trans m1))
    | fail)
  all_goals
    have Q3 := Q2.out.keep K3.out (by omega)
    have T3 := T2.out.keep K3.out (by omega)
    obtain ⟨q0, q1, q2, _, _, _⟩ := Q3
    have hqrn : q ≠ w.heap.size := by omega
    obtain ⟨e0, e1, e2, _, _, _⟩ := T3.set (.int .i64 fw) (.int .i64 fs) (.string fb)
    have E0 := Lib.hid e0
    have E1 := Lib.hid e1
    have E2 := Lib.hid e2
    obtain ⟨c0, c1, c2, g0, g1, g2⟩ := T3
    clear e0 e1 e2 m1 m3
    go_wp2_with fail
    refine bodyPost_ret (v := .tuple #[.agg #[.int .i64 fw, .int .i64 fs, .string fb], .int .i64 0]) (by simp [results, Tryd.results16, go_sem, E0.out, E1.out, E2.out]) rfl ⟨rfl, A', c', ?_, ?_, fun k hk => .inr (Nat.le_trans B2.out.size (LA.out k hk))⟩
    · have hP : RefPort w3 p key way sent (max t fs) A' c' (markL t g fs) :=
        ⟨(BES.out 0 (by omega) (by omega)).1.trans P2.out.c0, (BES.out 1 (by omega) (by omega)).1.trans P2.out.c1, (BES.out 2 (by omega) (by omega)).1.trans P2.out.c2, (BES.out 2 (by omega) (by omega)).2.trans P2.out.f2, WIN.out⟩
      have hz2 := T2.out.lt
      exact hP.keep (((keep_set w3 w.heap.size 0 _).own 1 _).own 2 _) (by omega) (fun i hi e => by have := LA.out i hi; omega)
    · have hB : Keep (· = p) w w3 := (Keep.of_below (· = p) B2.out).trans K3.out (fun _ _ e => e.symm)
      exact ((((hB.setCell (p := ⟨w.heap.size, 0, none⟩) (fun h => absurd h (by simp)) _).setCell (p := ⟨w.heap.size, 1, none⟩) (fun h => absurd h (by simp)) _).setCell (p := ⟨w.heap.size, 2, none⟩) (fun h => absurd h (by simp)) _))

theorem reftake_any {p : Nat} {key : ByteArray} {way sent t : Int} {A : Option Addr} {c : Nat} {g : List Int} (b : ByteArray) (w : World) (h : RefPort w p key way sent t A c g) (hk : key.size ≤ 90000) (hb : b.size ≤ 90000) (hg : GotOk t g) (hgl : g.length ≤ 1000000) :
    RefTold w p key b (takeL key.data.toList b.data.toList way (freshL t g)).1 (takeL key.data.toList b.data.toList way (freshL t g)).2 way sent (tookT t (takeL key.data.toList b.data.toList way (freshL t g))) A (if (takeL key.data.toList b.data.toList way (freshL t g)).2 = 0 then markL t g (takeL key.data.toList b.data.toList way (freshL t g)).1.seq else g) := by
  have hrd := fun W => refread_any key b W hk hb
  obtain ⟨⟨fw, fs, fb⟩, e, he⟩ : ∃ f e, readL key.data.toList b.data.toList = (f, e) := ⟨_, _, rfl⟩
  unfold takeL
  rw [he] at hrd ⊢
  simp only at hrd ⊢
  by_cases h2 : e = 0
  · subst h2
    rw [if_pos rfl]
    by_cases h3 : fw = way
    · rw [if_pos h3]
      exact reftake_own b w fw fs fb 0 h hrd rfl (by simp [h3])
    · rw [if_neg h3]
      have hne : (fw == way) = false := by simpa using h3
      cases hf : freshL t g fs
      · rw [if_neg (by simp)]
        exact reftake_old b w fw fs fb 0 h hrd rfl hne hg hgl hf
      · rw [if_pos rfl]
        exact reftake_new b w fw fs fb 0 h hrd rfl hne hg hgl hf
  · rw [if_neg h2]
    have hx := reftake_err b w fw fs fb e h hrd (by simpa using h2)
    unfold tookT
    rw [if_neg h2, if_neg h2]
    exact hx

end Go.Proofs.YtncpjapfkcgjnaaDoor
