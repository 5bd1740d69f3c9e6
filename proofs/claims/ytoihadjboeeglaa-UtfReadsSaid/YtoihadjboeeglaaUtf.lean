/- utf.Reader in memory: further, second, has, Half, Flush. Own work. -/
import Derived.Test.YtoihadjboeeglaaUtfM
import Derived.Test.YtoihadjboeeglaaBase
namespace Go.Proofs.Ytoihadjboeeglaa
set_option linter.unusedVariables false
set_option linter.unusedSimpArgs false
open Go.RowKit

/-- A Reader that lies at p, o. -/
structure RdU (w : World) (p o : Nat) (s : St) : Prop where
  c0 : Cell w p o (.int .i32 (s.v : Int))
  c1 : Cell w p (o + 1) (.int .i64 (s.half : Int))
  c2 : Cell w p (o + 2) (.int .i64 (s.left : Int))
  c3 : Cell w p (o + 3) (.int .u8 (s.lo : Int))
  c4 : Cell w p (o + 4) (.int .u8 (s.hi : Int))
  ok : s.Ok

namespace RdU
variable {w w' : World} {p o : Nat} {s : St}
theorem lt (h : RdU w p o s) : p < w.heap.size := h.c0.lt
theorem keep {S : Nat → Prop} (h : RdU w p o s) (k : Keep S w w') (hp : ¬ S p) : RdU w' p o s :=
  ⟨h.c0.keep k hp, h.c1.keep k hp, h.c2.keep k hp, h.c3.keep k hp, h.c4.keep k hp, h.ok⟩
theorem drewN (h : RdU w p o s) (n : Nat) : RdU (w.drewN n) p o s := h.keep (S := fun _ => False) ((Keep.refl _ w).drewN n) (fun x => x)
theorem alloc (h : RdU w p o s) (x : Obj) : RdU (w.alloc x) p o s := h.keep (S := fun _ => False) ((Keep.refl _ w).alloc x) (fun x => x)
theorem below (h : RdU w p o s) (k : Below w.heap.size w w') : RdU w' p o s := h.keep (S := fun _ => False) (Keep.of_below _ k) (fun x => x)
/-- All cells set anew. -/
theorem put (h : RdU w p o s) (t : St) (ht : t.Ok) :
    RdU (((((w.setCell ⟨p, o, none⟩ (.int .i32 (t.v : Int))).setCell ⟨p, o + 1, none⟩ (.int .i64 (t.half : Int))).setCell ⟨p, o + 2, none⟩ (.int .i64 (t.left : Int))).setCell ⟨p, o + 3, none⟩ (.int .u8 (t.lo : Int))).setCell ⟨p, o + 4, none⟩ (.int .u8 (t.hi : Int))) p o t :=
  ⟨((((h.c0.set _).far (by omega) _).far (by omega) _).far (by omega) _).far (by omega) _,
   ((((h.c1.far (by omega) _).set _).far (by omega) _).far (by omega) _).far (by omega) _,
   ((((h.c2.far (by omega) _).far (by omega) _).set _).far (by omega) _).far (by omega) _,
   ((((h.c3.far (by omega) _).far (by omega) _).far (by omega) _).set _).far (by omega) _,
   ((((h.c4.far (by omega) _).far (by omega) _).far (by omega) _).far (by omega) _).set _, ht⟩
theorem made (w : World) (t : TypeId) : RdU (w.alloc (.cells #[.int .i32 0, .int .i64 0, .int .i64 0, .int .u8 0, .int .u8 0] t)) w.heap.size 0 .z :=
  ⟨Cell.box 0 rfl, Cell.box 1 rfl, Cell.box 2 rfl, Cell.box 3 rfl, Cell.box 4 rfl, .z⟩
end RdU

theorem keep_put (w : World) (p o : Nat) (a b c d e : Value) : Keep (· = p) w (((((w.setCell ⟨p, o, none⟩ a).setCell ⟨p, o + 1, none⟩ b).setCell ⟨p, o + 2, none⟩ c).setCell ⟨p, o + 3, none⟩ d).setCell ⟨p, o + 4, none⟩ e) :=
  ((((keep_set w p o a).own (o + 1) b).own (o + 2) c).own (o + 3) d).own (o + 4) e

set_option maxHeartbeats 800000 in
theorem utf_further (w : World) :
    Calls Try.prog 81 #[] w fun e w' => e = .returned (.agg #[.int .u8 128, .int .u8 191]) ∧ Below w.heap.size w w' := by
  go_enter Try.func81, Try.ntmps81
  go_wp2_with fail
  refine bodyPost_ret (v := .agg #[.int .u8 128, .int .u8 191]) (by simp [results, Try.results81, go_sem]) rfl ⟨rfl, ?_⟩
  repeat (first | exact Below.refl _ _ | (refine Below.setCell ?_ (by simp) _) | (refine Below.alloc ?_ (by simp) _))

/-- A block that was just laid, behind a call. -/
theorem box_call {w w1 : World} {u0 u1 : Value} {t : TypeId} (hb : Below (w.alloc (.cells #[u0, u1] t)).heap.size (w.alloc (.cells #[u0, u1] t)) w1) :
    Below w.heap.size w w1 ∧ w.heap.size < w1.heap.size ∧ w1.cell? ⟨w.heap.size, 0, none⟩ = some u0 ∧ w1.cell? ⟨w.heap.size, 1, none⟩ = some u1 ∧ w1.frozen? ⟨w.heap.size, 0, none⟩ = false ∧ w1.frozen? ⟨w.heap.size, 1, none⟩ = false :=
  ⟨((Below.refl w.heap.size w).alloc (Nat.le_refl _) _).trans (hb.mono (by simp)), by have := hb.size; simp at this; omega,
    (hb.cell (p := ⟨w.heap.size, 0, none⟩) (by simp)).trans (by simp [go_sem, Array.size_push]), (hb.cell (p := ⟨w.heap.size, 1, none⟩) (by simp)).trans (by simp [go_sem, Array.size_push]),
    (hb.frozen (p := ⟨w.heap.size, 0, none⟩) (by simp)).trans (by simp [go_sem, Array.size_push]), (hb.frozen (p := ⟨w.heap.size, 1, none⟩) (by simp)).trans (by simp [go_sem, Array.size_push])⟩

set_option maxHeartbeats 3200000 in
theorem utf_second (b : Nat) (w : World) (hb : b < 256) :
    Calls Try.prog 82 #[.int .u8 (b : Int)] w fun e w' => e = .returned (.agg #[.int .u8 (secLo b : Int), .int .u8 (secHi b : Int)]) ∧ Below w.heap.size w w' := by
  obtain ⟨x, hx⟩ : ∃ x, secLo b = x := ⟨_, rfl⟩
  obtain ⟨y, hy⟩ : ∃ y, secHi b = y := ⟨_, rfl⟩
  rw [hx, hy]
  have h1 : ((b : Int) == 224) = decide (b = 224) := by rw [Bool.eq_iff_iff]; simp; omega
  have h2 : ((b : Int) == 237) = decide (b = 237) := by rw [Bool.eq_iff_iff]; simp; omega
  have h3 : ((b : Int) == 240) = decide (b = 240) := by rw [Bool.eq_iff_iff]; simp; omega
  have h4 : ((b : Int) == 244) = decide (b = 244) := by rw [Bool.eq_iff_iff]; simp; omega
  have hcase : (b = 224 ∧ x = 160 ∧ y = 191) ∨ (b = 237 ∧ x = 128 ∧ y = 159) ∨ (b = 240 ∧ x = 144 ∧ y = 191) ∨ (b = 244 ∧ x = 128 ∧ y = 143) ∨ (b ≠ 224 ∧ b ≠ 237 ∧ b ≠ 240 ∧ b ≠ 244 ∧ x = 128 ∧ y = 191) := by
    subst hx hy
    unfold secLo secHi
    by_cases e1 : b = 224
    · subst e1; simp
    by_cases e2 : b = 237
    · subst e2; simp
    by_cases e3 : b = 240
    · subst e3; simp
    by_cases e4 : b = 244
    · subst e4; simp
    · simp [e1, e2, e3, e4]
  clear hx hy
  rcases hcase with ⟨e, rfl, rfl⟩ | ⟨e, rfl, rfl⟩ | ⟨e, rfl, rfl⟩ | ⟨e, rfl, rfl⟩ | ⟨e1, e2, e3, e4, rfl, rfl⟩
  all_goals
    simp only [*, decide_true, decide_false, reduceCtorEq] at h1 h2 h3 h4
    try (subst e; simp at h1 h2 h3 h4)
    go_enter Try.func82, Try.ntmps82
    go_wp2_with fail
    refine (utf_further _).mono ?_
    rintro e w1 ⟨rfl, hb⟩
    obtain ⟨hB, hz, c0, c1, f0, f1⟩ := box_call hb
    have HB := Lib.hid hB
    clear hb hB
    go_wp2_with fail
    refine bodyPost_ret (v := .agg #[.int .u8 _, .int .u8 _]) (by simp [results, Try.results82, go_sem, hz, c0, c1]) rfl ⟨rfl, ?_⟩
    repeat (first | exact HB.out | (refine Below.setCell ?_ (by simp) _) | (refine Below.alloc ?_ (by simp; try omega) _))

theorem utf_has (lo hi b : Nat) (w : World) (r : Bool) (hr : decide (lo ≤ b ∧ b ≤ hi) = r) :
    Calls Try.prog 62 #[.agg #[.int .u8 (lo : Int), .int .u8 (hi : Int)], .int .u8 (b : Int)] w fun e w' => e = .returned (.bool r) ∧ Below w.heap.size w w' := by
  subst hr
  by_cases h1 : lo ≤ b
  · by_cases h2 : b ≤ hi
    · have k1 : (lo : Int) ≤ (b : Int) := by omega
      have k2 : (b : Int) ≤ (hi : Int) := by omega
      rw [decide_eq_true (show lo ≤ b ∧ b ≤ hi from ⟨h1, h2⟩)]
      clear h1 h2
      go_enter Try.func62, Try.ntmps62
      go_wp2_with fail
      go_ret
      exact ⟨rfl, (Below.refl _ _).alloc (Nat.le_refl _) _⟩
    · have k1 : (lo : Int) ≤ (b : Int) := by omega
      have k2 : ¬ (b : Int) ≤ (hi : Int) := by omega
      rw [decide_eq_false (show ¬ (lo ≤ b ∧ b ≤ hi) from fun x => h2 x.2)]
      clear h1 h2
      go_enter Try.func62, Try.ntmps62
      go_wp2_with fail
      go_ret
      exact ⟨rfl, (Below.refl _ _).alloc (Nat.le_refl _) _⟩
  · have k1 : ¬ (lo : Int) ≤ (b : Int) := by omega
    rw [decide_eq_false (show ¬ (lo ≤ b ∧ b ≤ hi) from fun x => h1 x.1)]
    clear h1
    go_enter Try.func62, Try.ntmps62
    go_wp2_with fail
    go_ret
    exact ⟨rfl, (Below.refl _ _).alloc (Nat.le_refl _) _⟩

set_option maxHeartbeats 800000 in
theorem utf_half (p o : Nat) (s : St) (w : World) (h : RdU w p o s) :
    Calls Try.prog 15 #[.pointer (some ⟨p, o, none⟩)] w fun e w' => e = .returned (.int .i64 (s.half : Int)) ∧ w' = w := by
  have c1 := h.c1.1
  clear h
  go_enter Try.func15, Try.ntmps15
  go_wp2_with fail
  go_ret
  exact ⟨rfl, rfl⟩

set_option maxHeartbeats 800000 in
theorem utf_half_nil (w : World) :
    Calls Try.prog 15 #[.pointer none] w fun e w' => e = .returned (.int .i64 0) ∧ w' = w := by
  go_enter Try.func15, Try.ntmps15
  go_wp2_with fail
  go_ret
  exact ⟨rfl, rfl⟩

set_option maxHeartbeats 800000 in
theorem utf_flush_nil (w : World) :
    Calls Try.prog 16 #[.pointer none] w fun e w' => e = .returned (.slice none 0 0) ∧ w' = w := by
  go_enter Try.func16, Try.ntmps16
  go_wp2_with fail
  refine (utf_half_nil _).mono ?_
  rintro e w1 ⟨rfl, rfl⟩
  go_wp2_with fail
  go_ret
  exact ⟨rfl, rfl⟩

/-- Runes, as the program's numbers. -/
def rs (l : List Nat) : List Int := l.map fun n : Nat => (n : Int)
theorem rs_add (a b : List Nat) : rs (a ++ b) = rs a ++ rs b := by simp [rs]
theorem rs_len (a : List Nat) : (rs a).length = a.length := by simp [rs]

theorem own_new1 (w : World) (u : Value) (e : TypeId) {g B : Nat} (hg : g = w.heap.size) (hB : B ≤ g) : (w.alloc (.cells #[u] e)).ownsRow B e 1 (.slice (some ⟨g, 0, none⟩) 1 1) 1 [u] := by
  subst hg
  exact ⟨rfl, .inr ⟨w.heap.size, 1, #[u], rfl, hB, heap_alloc_new w _, by omega, by unfold maxLen; omega, by simp, by simp⟩⟩

/-- What a call answers that turns the Reader alone. -/
def URes (p o : Nat) (w : World) (x : St × List Nat) (e : Ending) (w' : World) : Prop :=
  ∃ v, e = .returned v ∧ w'.ownsRow w.heap.size 21 1 v x.2.length ((rs x.2).map (Value.int .i32)) ∧ RdU w' p o x.1 ∧ Keep (· = p) w w'

set_option maxHeartbeats 800000 in
theorem utf_flush (p o : Nat) (s : St) (w : World) (h : RdU w p o s) :
    Calls Try.prog 16 #[.pointer (some ⟨p, o, none⟩)] w (URes p o w (.z, badsU s)) := by
  have H := Lib.hid h
  have c0 := h.c0.1
  have c1 := h.c1.1
  have c2 := h.c2.1
  have c3 := h.c3.1
  have c4 := h.c4.1
  have f0 := h.c0.2
  have f1 := h.c1.2
  have f2 := h.c2.2
  have f3 := h.c3.2
  have f4 := h.c4.2
  by_cases h0 : s.half = 0
  · obtain rfl := h.ok.z_of h0
    clear h h0
    go_enter Try.func16, Try.ntmps16
    go_wp2_with fail
    refine (utf_half p o _ _ H.out).mono ?_
    rintro e w1 ⟨rfl, rfl⟩
    go_wp2_with fail
    go_ret
    exact ⟨_, rfl, World.ownsRow_nil _ _ _ _, H.out, Keep.refl _ _⟩
  · have hn : ((s.half : Int) == 0) = false := by simp; omega
    clear h
    go_enter Try.func16, Try.ntmps16
    go_wp2_with fail
    refine (utf_half p o _ _ H.out).mono ?_
    rintro e w1 ⟨rfl, rfl⟩
    go_wp2_with fail
    go_ret
    have hs : badsU s = [65533] := by simp [badsU, h0]
    refine ⟨_, rfl, ?_, (H.out.put .z .z).alloc _, (keep_put _ _ _ _ _ _ _ _).alloc _⟩
    rw [hs]
    exact own_new1 _ _ _ (by simp) (by simp)

end Go.Proofs.Ytoihadjboeeglaa
