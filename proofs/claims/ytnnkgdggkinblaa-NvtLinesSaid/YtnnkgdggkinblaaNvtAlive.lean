/- The law's alive. Own work. -/
import Derived.Test.YtnnkgdggkinblaaToks
import Derived.Test.YtnnkgdggkinblaaNew
namespace Go.Proofs.Ytnnkgdggkinblaa
set_option linter.unusedVariables false
set_option linter.unusedSimpArgs false
open Go.RowKit

theorem alive_fed : feedL false Rd.new (joinL [⟨#[97, 13, 0, 98]⟩, ⟨#[255, 255, 255, 251, 1]⟩]) = [⟨0, 0, 0, [97, 13, 98, 255]⟩, ⟨2, 251, 1, []⟩] := by decide +kernel
theorem alive_whole : wholeL (goL false Rd.new (joinL [⟨#[97, 13, 0, 98]⟩, ⟨#[255, 255, 255, 251, 1]⟩])) = true := by decide +kernel

/-- Texts that were just laid. -/
theorem src_new (w : World) (us : List Value) (t : TypeId) (g : Nat) (hg : g = w.heap.size) (n : Nat) (hn : us.length = n) : Src (w.alloc (.cells us.toArray t)) (some ⟨g, 0, none⟩) n us := by
  subst hg
  refine ⟨hn, fun _ => ⟨_, 0, rfl, by simp, fun i v hv => ?_⟩⟩
  rw [Nat.zero_add, cell_of_row _ _ i _ t (0, 0) (heap_alloc_new w _)]
  simpa using hv

set_option maxRecDepth 100000 in
set_option maxHeartbeats 1600000 in
theorem alive_any (w : World) : Calls Try.prog 7 #[] w fun e w' => e = .returned (.bool true) ∧ Below w.heap.size w w' := by
  obtain ⟨CS, hCS⟩ : ∃ CS, CS = rdCells false := ⟨_, rfl⟩
  have hb := rd_built0
  have hn := rd_new w false
  rw [← hCS] at hb hn
  have HB := Lib.hid hb
  have HN := Lib.hid hn
  clear hb hn hCS
  go_enter Try.func7, Try.ntmps7
  go_wp2_with (with_reducible refine wpList_built rfl 48 #[] rfl CS (by simp only [List.map_toArray, List.map_nil]; exact HB.out) ?_)
  have hb0 : Below w.heap.size w (w.alloc (.cells CS 48)) := (Below.refl _ _).alloc (Nat.le_refl _) _
  refine (feed_any w.heap.size false false Rd.new none 0 (some ⟨w.heap.size + 1, 0, none⟩) 2 2 [⟨#[97, 13, 0, 98]⟩, ⟨#[255, 255, 255, 251, 1]⟩] _ (HN.out.alloc _) (src_new (w.alloc (.cells CS 48)) [.string ⟨#[97, 13, 0, 98]⟩, .string ⟨#[255, 255, 255, 251, 1]⟩] 9 _ (by simp) 2 rfl) (fun i hi x => ?_) (by omega) (by decide)).mono ?_
  · simp [blk] at hi
    rcases x with x | x
    · omega
    · simp [blk] at x
  rintro e w1 ⟨v, rfl, hr, A1, c1, h1, s1, _⟩
  rw [alive_fed] at hr
  obtain ⟨g, cg, rfl, hg, p0, p1, p2, p3⟩ := tok_cells (l := [⟨0, 0, 0, [97, 13, 98, 255]⟩, ⟨2, 251, 1, []⟩]) hr (i := 0) rfl
  obtain ⟨g2, cg2, eg, _, q0, q1, q2, q3⟩ := tok_cells (l := [⟨0, 0, 0, [97, 13, 98, 255]⟩, ⟨2, 251, 1, []⟩]) hr (i := 1) rfl
  injection eg with eg _ _
  injection eg with eg
  injection eg with eg
  subst eg
  have HB1 : Hid (Below w.heap.size w w1) := by
    show Below _ _ _
    have hb1 : Below w.heap.size (w.alloc (.cells CS 48)) ((w.alloc (.cells CS 48)).alloc (.cells #[.string ⟨#[97, 13, 0, 98]⟩, .string ⟨#[255, 255, 255, 251, 1]⟩] 9)) := (Below.refl _ _).alloc (by simp) _
    exact (hb0.trans hb1).trans (s1.1.below (by simp; omega) (fun k hk x => by
      rcases x with x | x
      · omega
      · simp [blk] at x))
  have HW := whole_any _ _ _ _ _ _ _ h1
  rw [alive_whole] at HW
  have HWW := Lib.hid HW
  clear hr s1 h1 HW hb0
  go_wp2_with fail
  refine HWW.out.mono ?_
  rintro e w2 ⟨rfl, rfl⟩
  go_wp2_with fail
  go_ret
  exact ⟨rfl, HB1.out⟩

end Go.Proofs.Ytnnkgdggkinblaa
