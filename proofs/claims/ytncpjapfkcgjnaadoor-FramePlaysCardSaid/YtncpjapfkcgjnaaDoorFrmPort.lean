/- frame.Port: New, ready, Send, Sent, Top. Own work. -/
import Derived.Test.YtncpjapfkcgjnaaDoorFrmRead
import Derived.Test.YtncpjapfkcgjnaaDoorBase
import Derived.Test.YtncpjapfkcgjnaaDoorWins
import Derived.Deep.RegionHeld3
namespace Go.Proofs.YtncpjapfkcgjnaaDoor
set_option linter.unusedVariables false
set_option linter.unusedSimpArgs false
open Go.RowKit

/-- A port behind a pointer. -/
def PortAt (w : World) (p : Nat) (key : ByteArray) (way sent t : Int) (s : Nat) : Prop :=
  w.heap[p]? = some (.cells #[.string key, .int .i64 way, .int .i64 sent, .int .i64 t, .int .u64 (s : Int)] 73 (0, 0))

namespace PortAt
variable {w w' : World} {p : Nat} {key : ByteArray} {way sent t : Int} {s : Nat}
theorem lt (h : PortAt w p key way sent t s) : p < w.heap.size := lt_heap h
theorem c0 (h : PortAt w p key way sent t s) : w.cell? ⟨p, 0, none⟩ = some (.string key) := cell_at h 0
theorem c1 (h : PortAt w p key way sent t s) : w.cell? ⟨p, 1, none⟩ = some (.int .i64 way) := cell_at h 1
theorem c2 (h : PortAt w p key way sent t s) : w.cell? ⟨p, 2, none⟩ = some (.int .i64 sent) := cell_at h 2
theorem c3 (h : PortAt w p key way sent t s) : w.cell? ⟨p, 3, none⟩ = some (.int .i64 t) := cell_at h 3
theorem c4 (h : PortAt w p key way sent t s) : w.cell? ⟨p, 4, none⟩ = some (.int .u64 (s : Int)) := cell_at h 4
theorem fr (h : PortAt w p key way sent t s) (i : Nat) : w.frozen? ⟨p, i, none⟩ = false := free_at h i
theorem keep {S : Nat → Prop} (h : PortAt w p key way sent t s) (k : Keep S w w') (hn : ¬ S p) : PortAt w' p key way sent t s := k.heap h hn
theorem below (h : PortAt w p key way sent t s) (k : Below w.heap.size w w') : PortAt w' p key way sent t s := h.keep (Keep.of_below (fun _ => False) k) (fun x => x)
theorem alloc (h : PortAt w p key way sent t s) (o : Obj) : PortAt (w.alloc o) p key way sent t s := heap_alloc h o
theorem set2 (h : PortAt w p key way sent t s) (n : Int) : PortAt (w.setCell ⟨p, 2, none⟩ (.int .i64 n)) p key way n t s := heap_set h 2 _
theorem set34 (h : PortAt w p key way sent t s) (t' : Int) (s' : Nat) : PortAt ((w.setCell ⟨p, 3, none⟩ (.int .i64 t')).setCell ⟨p, 4, none⟩ (.int .u64 (s' : Int))) p key way sent t' s' := heap_set (heap_set h 3 _) 4 _
end PortAt

set_option maxRecDepth 100000 in
set_option maxHeartbeats 400000 in
theorem portnew_any (key : ByteArray) (way : Int) (w : World) (hk : key.size ≤ 281474976710656) :
    Calls Tryd.prog 12 #[.string key, .int .i64 way] w fun r w' => ∃ p, r = .returned (.pointer (some ⟨p, 0, none⟩)) ∧ PortAt w' p key way 0 0 0 ∧ w.heap.size ≤ p ∧ Below w.heap.size w w' := by
  go_enter Tryd.func12, Tryd.ntmps12
  go_wp2_with fail
  refine (clone_any key w hk).mono ?_
  rintro r w1 ⟨rfl, hb⟩
  have HB := Lib.hid hb
  clear hb
  go_wp2_with fail
  go_ret
  exact ⟨_, rfl, heap_alloc_new w1 _, HB.out.size, HB.out.alloc HB.out.size _⟩

set_option maxHeartbeats 400000 in
theorem ready_nil (w : World) : Calls Tryd.prog 30 #[.pointer none] w fun r w' => r = .returned (.bool false) ∧ w = w' := by
  go_enter Tryd.func30, Tryd.ntmps30
  go_wp2_with fail
  go_ret
  exact ⟨rfl, rfl⟩

set_option maxHeartbeats 400000 in
theorem ready_yes {p : Nat} {key : ByteArray} {way sent t : Int} {s : Nat} (w : World) (h : PortAt w p key way sent t s) (hw : way = 1 ∨ way = 2) : Calls Tryd.prog 30 #[.pointer (some ⟨p, 0, none⟩)] w fun r w' => r = .returned (.bool true) ∧ w = w' := by
  have c1 := h.c1
  have HW := Lib.hid hw
  clear h hw
  go_enter Tryd.func30, Tryd.ntmps30
  go_wp2_with fail
  refine (isway_yes way _ HW.out).mono ?_
  rintro r w1 ⟨rfl, rfl⟩
  go_wp2_with fail
  go_ret
  exact ⟨rfl, rfl⟩

set_option maxHeartbeats 400000 in
theorem ready_no {p : Nat} {key : ByteArray} {way sent t : Int} {s : Nat} (w : World) (h : PortAt w p key way sent t s) (hw : ¬ (way = 1 ∨ way = 2)) : Calls Tryd.prog 30 #[.pointer (some ⟨p, 0, none⟩)] w fun r w' => r = .returned (.bool false) ∧ w = w' := by
  have c1 := h.c1
  have HW := Lib.hid hw
  clear h hw
  go_enter Tryd.func30, Tryd.ntmps30
  go_wp2_with fail
  refine (isway_no way _ HW.out).mono ?_
  rintro r w1 ⟨rfl, rfl⟩
  go_wp2_with fail
  go_ret
  exact ⟨rfl, rfl⟩

set_option maxHeartbeats 400000 in
theorem sent_any {p : Nat} {key : ByteArray} {way sent t : Int} {s : Nat} (w : World) (h : PortAt w p key way sent t s) : Calls Tryd.prog 17 #[.pointer (some ⟨p, 0, none⟩)] w fun r w' => r = .returned (.int .i64 sent) ∧ w = w' := by
  have c2 := h.c2
  clear h
  go_enter Tryd.func17, Tryd.ntmps17
  go_wp2_with fail
  go_ret
  exact ⟨rfl, rfl⟩

set_option maxHeartbeats 400000 in
theorem sent_nil (w : World) : Calls Tryd.prog 17 #[.pointer none] w fun r w' => r = .returned (.int .i64 0) ∧ w = w' := by
  go_enter Tryd.func17, Tryd.ntmps17
  go_wp2_with fail
  go_ret
  exact ⟨rfl, rfl⟩

set_option maxHeartbeats 400000 in
theorem top_any {p : Nat} {key : ByteArray} {way sent t : Int} {s : Nat} (w : World) (h : PortAt w p key way sent t s) : Calls Tryd.prog 18 #[.pointer (some ⟨p, 0, none⟩)] w fun r w' => r = .returned (.int .i64 t) ∧ w = w' := by
  have c3 := h.c3
  clear h
  go_enter Tryd.func18, Tryd.ntmps18
  go_wp2_with fail
  go_ret
  exact ⟨rfl, rfl⟩

set_option maxHeartbeats 400000 in
theorem top_nil (w : World) : Calls Tryd.prog 18 #[.pointer none] w fun r w' => r = .returned (.int .i64 0) ∧ w = w' := by
  go_enter Tryd.func18, Tryd.ntmps18
  go_wp2_with fail
  go_ret
  exact ⟨rfl, rfl⟩

set_option maxHeartbeats 400000 in
theorem send_nil (b : ByteArray) (w : World) : Calls Tryd.prog 13 #[.pointer none, .string b] w fun r w' => r = .returned (.tuple #[.string ⟨#[]⟩, .int .i64 1]) ∧ w = w' := by
  go_enter Tryd.func13, Tryd.ntmps13
  go_wp2_with fail
  refine (ready_nil _).mono ?_
  rintro r w1 ⟨rfl, rfl⟩
  go_wp2_with fail
  go_ret2
  exact ⟨rfl, rfl⟩

set_option maxHeartbeats 400000 in
theorem send_no {p : Nat} {key : ByteArray} {way sent t : Int} {s : Nat} (b : ByteArray) (w : World) (h : PortAt w p key way sent t s) (hw : ¬ (way = 1 ∨ way = 2)) : Calls Tryd.prog 13 #[.pointer (some ⟨p, 0, none⟩), .string b] w fun r w' => r = .returned (.tuple #[.string ⟨#[]⟩, .int .i64 1]) ∧ w = w' := by
  have H := Lib.hid h
  have HW := Lib.hid hw
  clear h hw
  go_enter Tryd.func13, Tryd.ntmps13
  go_wp2_with fail
  refine (ready_no _ H.out HW.out).mono ?_
  rintro r w1 ⟨rfl, rfl⟩
  go_wp2_with fail
  go_ret2
  exact ⟨rfl, rfl⟩

theorem roots_drew {w : World} (h : Roots w) : Roots w.drew := h

/-- The last number behind a Send. -/
def sentN (sent e : Int) : Int := if e = 0 then sent + 1 else sent

set_option maxRecDepth 100000 in
set_option maxHeartbeats 800000 in
theorem send_any {p : Nat} {key : ByteArray} {way sent t : Int} {s : Nat} (b : ByteArray) (w : World) (h : PortAt w p key way sent t s) (hw : way = 1 ∨ way = 2) (hr : Roots w) (hk : key.size ≤ 90000) (hs : 0 ≤ sent ∧ sent ≤ 4611686018427387904) (hb : b.size ≤ maxLen) :
    Calls Tryd.prog 13 #[.pointer (some ⟨p, 0, none⟩), .string b] w fun r w' => r = .returned (.tuple #[.string ⟨(layL key.data.toList way (sent + 1) b.data.toList).1.toArray⟩, .int .i64 (layL key.data.toList way (sent + 1) b.data.toList).2]) ∧ PortAt w' p key way (sentN sent (layL key.data.toList way (sent + 1) b.data.toList).2) t s ∧ Keep (· = p) w w' := by
  obtain ⟨hs1, hs2⟩ := hs
  have hl := fun W hW => frmlay_any key way (sent + 1) b W hW hk ⟨by omega, by omega⟩ hb
  obtain ⟨d, e, hde⟩ : ∃ d e, layL key.data.toList way (sent + 1) b.data.toList = (d, e) := ⟨_, _, rfl⟩
  rw [hde] at hl ⊢
  have HL := Lib.hid hl
  have H := Lib.hid h
  have HR := Lib.hid hr
  have HW := Lib.hid hw
  have t1 : w.cell? ⟨p, 0, none⟩ = some (.string key) ∧ w.cell? ⟨p, 1, none⟩ = some (.int .i64 way) ∧ w.cell? ⟨p, 2, none⟩ = some (.int .i64 sent) := ⟨h.c0, h.c1, h.c2⟩
  have u1 : IntKind.i64.wrap (sent + 1) = sent + 1 := IntWalk.i64_in _ (by omega)
  clear hl h hr hw hde
  go_enter Tryd.func13, Tryd.ntmps13
  go_wp2_with fail
  refine (ready_yes _ H.out HW.out).mono ?_
  rintro r w1 ⟨rfl, rfl⟩
  go_wp2_with fail
  go_region_held3 (fun w' => w'.cell? ⟨p, 0, none⟩ = some (.string key) ∧ w'.cell? ⟨p, 1, none⟩ = some (.int .i64 way) ∧ w'.cell? ⟨p, 2, none⟩ = some (.int .i64 sent)) (first | exact t2 | exact t1 | go_keep) (first
    | (go_at_call 8; ((with_reducible refine (HL.out _ (roots_drew HR.out)).mono ?_); rintro r w2 ⟨rfl, b2⟩; have B2 := Lib.hid (below_step (Below.refl w.heap.size w).drew b2); have t2 := keeps_three B2.out t1; clear b2))
    | fail)
  all_goals
    by_cases he : e = 0
    · subst he
      have H2 := H.out.below B2.out
      have d2 := H2.c2
      have f2 := H2.fr 2
      have HP := Lib.hid (H2.set2 (sent + 1))
      have HK := Lib.hid ((Keep.of_below (· = p) B2.out).own 2 (.int .i64 (sent + 1)))
      clear H2 B2 t1 t2 u1
      go_wp2_with fail
      go_ret2
      exact ⟨rfl, HP.out, HK.out⟩
    · have he2 : (e == 0) = false := by simpa using he
      have HP := Lib.hid (H.out.below B2.out)
      have HS : Hid (sentN sent e = sent) := Lib.hid (if_neg he)
      have HK := Lib.hid (Keep.of_below (· = p) B2.out)
      clear B2 t1 t2 u1
      go_wp2_with fail
      go_ret2
      exact ⟨rfl, by rw [HS.out]; exact HP.out, HK.out⟩

end Go.Proofs.YtncpjapfkcgjnaaDoor
