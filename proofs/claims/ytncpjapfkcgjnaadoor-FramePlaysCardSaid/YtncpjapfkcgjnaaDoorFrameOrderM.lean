/- Law FrameOrder: which datagrams were taken. Own work. -/
import Derived.Test.YtncpjapfkcgjnaaDoorFrmAlive
namespace Go.Proofs.YtncpjapfkcgjnaaDoor
set_option linter.unusedVariables false
set_option linter.unusedSimpArgs false
open Go.RowKit

/-- What the k-th Send tells. -/
def sendD (key : ByteArray) (ss : List ByteArray) (k : Nat) : ByteArray := ⟨(layL key.data.toList 1 ((k : Int) + 1) (ss.getD k .empty).data.toList).1.toArray⟩

theorem sendD_list (key : ByteArray) (ss : List ByteArray) (k : Nat) : (sendD key ss k).data.toList = (layL key.data.toList 1 ((k : Int) + 1) (ss.getD k .empty).data.toList).1 := rfl

theorem sendD_fault (ss : List ByteArray) (k : Nat) (hk : k < 1000) (hs : (ss.getD k .empty).size ≤ 200) : faultI 1 ((k : Int) + 1) (ss.getD k .empty).size = 0 :=
  fault_ok.2 ⟨.inl rfl, by omega, by omega, by omega⟩

theorem sendD_size (key : ByteArray) (ss : List ByteArray) (k : Nat) (hs : (ss.getD k .empty).size ≤ 200) : (sendD key ss k).size ≤ 300 := by
  have := layL_len key.data.toList 1 ((k : Int) + 1) (ss.getD k .empty)
  unfold sendD
  rw [size_mk]
  omega

theorem sendD_laid (key : ByteArray) (ss : List ByteArray) (k : Nat) (hk : k < 1000) (hs : (ss.getD k .empty).size ≤ 200) : layL key.data.toList 1 ((k : Int) + 1) (ss.getD k .empty).data.toList = ((sendD key ss k).data.toList, 0) :=
  Prod.ext rfl (layL_ok _ _ _ _ (sendD_fault ss k hk hs))

/-- Small numbers: what is fresh is what did not come. -/
structure Few (n : Nat) (t : Int) (g : List Int) : Prop where
  got : GotOk t g
  le : t ≤ n
  n40 : n ≤ 40

theorem few_nil {n : Nat} (h : n ≤ 40) : Few n 0 [] := ⟨got_nil, by omega, h⟩

theorem Few.fresh {n : Nat} {t : Int} {g : List Int} (h : Few n t g) {k : Nat} (hk : k < n) : freshL t g ((k : Int) + 1) = decide (¬ ((k : Int) + 1) ∈ g) := by
  have h1 := h.le
  have h2 := h.n40
  rw [Bool.eq_iff_iff, freshL_true, decide_eq_true_iff]
  constructor
  · exact fun h => h.2.2.2
  · exact fun h => ⟨by omega, by omega, by omega, h⟩

theorem Few.mark_mem {n : Nat} {t : Int} {g : List Int} (h : Few n t g) {k : Nat} (hk : k < n) (x : Int) : x ∈ markL t g ((k : Int) + 1) ↔ x ∈ g ∨ x = (k : Int) + 1 := by
  have h1 := h.le
  have h2 := h.n40
  unfold markL
  rw [List.mem_append, List.mem_filter, List.mem_singleton]
  constructor
  · rintro (⟨h3, _⟩ | h3)
    · exact .inl h3
    · exact .inr h3
  · rintro (h3 | h3)
    · have := h.got.all x h3
      exact .inl ⟨h3, decide_eq_true (by omega)⟩
    · exact .inr h3

theorem Few.mark {n : Nat} {t : Int} {g : List Int} (h : Few n t g) {k : Nat} (hk : k < n) (hn : ¬ ((k : Int) + 1) ∈ g) : Few n (max t ((k : Int) + 1)) (markL t g ((k : Int) + 1)) := by
  have h1 := h.le
  exact ⟨mark_ok h.got (by rw [h.fresh hk]; simpa using hn), by omega, h.n40⟩

/-- What Take tells of the k-th datagram. -/
theorem few_take {n : Nat} {t : Int} {g : List Int} (h : Few n t g) (key : ByteArray) (ss : List ByteArray) {k : Nat} (hk : k < n) (hs : (ss.getD k .empty).size ≤ 200) (hn : ¬ ((k : Int) + 1) ∈ g) :
    takeL key.data.toList (sendD key ss k).data.toList 2 (freshL t g) = (⟨1, (k : Int) + 1, ss.getD k .empty⟩, 0) := by
  have h2 := h.n40
  rw [sendD_list]
  exact take_laid _ 1 2 _ _ _ (sendD_fault ss k (by omega) hs) (by decide) (by rw [h.fresh hk]; simpa using hn)

theorem few_old {n : Nat} {t : Int} {g : List Int} (h : Few n t g) (key : ByteArray) (ss : List ByteArray) {k : Nat} (hk : k < n) (hs : (ss.getD k .empty).size ≤ 200) (hn : ((k : Int) + 1) ∈ g) :
    takeL key.data.toList (sendD key ss k).data.toList 2 (freshL t g) = (Frm.none, 6) := by
  have h2 := h.n40
  rw [sendD_list]
  exact take_again _ 1 2 _ _ _ (sendD_fault ss k (by omega) hs) (by decide) (by rw [h.fresh hk]; simpa using hn)

/-- A row of answers. -/
structure Row40 (w : World) (b n : Nat) (F : Nat → Bool) : Prop where
  lt : b < w.heap.size
  at' : ∀ j, j < n → w.cell? ⟨b, j, none⟩ = some (.bool (F j)) ∧ w.frozen? ⟨b, j, none⟩ = false

theorem Row40.keep {S : Nat → Prop} {w w' : World} {b n : Nat} {F : Nat → Bool} (h : Row40 w b n F) (k : Keep S w w') (hn : ¬ S b) : Row40 w' b n F :=
  ⟨Nat.lt_of_lt_of_le h.lt k.size, fun j hj => ⟨(k.cell (p := ⟨b, j, none⟩) h.lt hn).trans (h.at' j hj).1, (k.frozen (p := ⟨b, j, none⟩) h.lt hn).trans (h.at' j hj).2⟩⟩

theorem Row40.set {w : World} {b n : Nat} {F : Nat → Bool} (h : Row40 w b n F) (m : Nat) (hm : m < n) : Row40 (w.setCell ⟨b, m, none⟩ (.bool true)) b n (fun j => F j || decide (j = m)) :=
  ⟨by simpa [World.setCell] using h.lt, fun j hj => by
    refine ⟨?_, by simpa using (h.at' j hj).2⟩
    by_cases e : j = m
    · subst e
      rw [World.cell?_setCell_same w _ _ (h.at' j hj).1]
      simp
    · rw [World.cell?_setCell_other w _ _ _ (fun q => by injection q with _ q2; omega), (h.at' j hj).1]
      simp [e]⟩

theorem row40_new (w : World) (n : Nat) (T : TypeId) : Row40 (w.alloc (.cells (madeCells (Value.bool false).cells n) T)) w.heap.size n (fun _ => false) := by
  refine ⟨by simp, fun j hj => ?_⟩
  have h0 := heap_alloc_new w (.cells (madeCells (Value.bool false).cells n) T)
  refine ⟨(cell_at h0 j).trans ?_, free_at h0 j⟩
  simp [madeCells, hj, Value.cells, Nat.mod_one]

theorem Row40.congr {w : World} {b n : Nat} {F G : Nat → Bool} (h : Row40 w b n F) (e : ∀ j, j < n → F j = G j) : Row40 w b n G :=
  ⟨h.lt, fun j hj => ⟨by rw [← e j hj]; exact (h.at' j hj).1, (h.at' j hj).2⟩⟩

/-- The index that a number chooses. -/
theorem index_of (z : Int) (k : Nat) (hk : 0 < k) (hk2 : k ≤ 1000000) : ∃ q : Nat, q < k ∧ (wrap64 (z.tmod (k : Int) + (k : Int))).tmod (k : Int) = (q : Int) := by
  have h1 := Int.tmod_lt_of_pos z (show (0 : Int) < (k : Int) by omega)
  have h2 : -(k : Int) < z.tmod (k : Int) := by
    have := Int.lt_tmod_of_pos z (show (0 : Int) < (k : Int) by omega)
    omega
  have e : wrap64 (z.tmod (k : Int) + (k : Int)) = z.tmod (k : Int) + (k : Int) := by unfold wrap64; omega
  rw [e, Int.tmod_eq_emod_of_nonneg (by omega)]
  refine ⟨((z.tmod (k : Int) + (k : Int)) % (k : Int)).toNat, ?_, ?_⟩
  · have := Int.emod_lt_of_pos (z.tmod (k : Int) + (k : Int)) (show (0 : Int) < (k : Int) by omega)
    have := Int.emod_nonneg (z.tmod (k : Int) + (k : Int)) (show (k : Int) ≠ 0 by omega)
    omega
  · have := Int.emod_nonneg (z.tmod (k : Int) + (k : Int)) (show (k : Int) ≠ 0 by omega)
    omega

end Go.Proofs.YtncpjapfkcgjnaaDoor
