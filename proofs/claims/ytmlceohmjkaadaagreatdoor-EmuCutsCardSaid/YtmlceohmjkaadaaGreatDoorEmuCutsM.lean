/- Law EmuCuts: beside the program; what is kept beside several terminals. Own work. -/
import Derived.Test.YtmlceohmjkaadaaGreatDoorEmuLaw2
namespace Go.Proofs.YtmlceohmjkaadaaGreatDoor
set_option linter.unusedVariables false
set_option linter.unusedSimpArgs false
open Go.RowKit

/-- How much is replied. -/
theorem out_len {W H : Nat} (ok : (EmM.new W H).Ok) (l : List Nat) (h : l.length ≤ 2000) : (feedM (pAt 0, EmM.new W H) l).2.length ≤ 100000 := by
  have h1 := acts_len (feedP (pAt 0) l).2 (EmM.new W H) ok
  have h2 := (len_feedE l .z St.Ok.z).1
  rw [(feed_alikeE l AlikeE.z).2] at h2
  show ((EmM.new W H).acts (feedP (pAt 0) l).2).2.length ≤ 100000
  omega

/-- A list that is none of the terminals'. -/
def FS (w : World) (l : List Em) (A : Option Addr) (n : Nat) (us : List Value) : Prop := Src w A n us ∧ ∀ i, blk A = some i → i < w.heap.size ∧ ∀ t ∈ l, ¬ Own w t.e t.L i
theorem FS.quiet {w0 w w' : World} {l : List Em} {A : Option Addr} {n : Nat} {us : List Value} (h : FS w l A n us) (f : Ems w0 w l) (K : Keep (fun _ => False) w w') : FS w' l A n us :=
  ⟨h.1.keep K, fun i hi => ⟨Nat.lt_of_lt_of_le (h.2 i hi).1 K.size, fun t ht o => (h.2 i hi).2 t ht (((f.each t ht).own_quiet K i).1 o)⟩⟩
theorem FS.fresh {w0 w w' : World} {l : List Em} {A : Option Addr} {n : Nat} {us : List Value} (f : Ems w0 w l) (K : Keep (fun _ => False) w w') (hs : Src w' A n us) (hl : ∀ i, blk A = some i → w.heap.size ≤ i ∧ i < w'.heap.size) : FS w' l A n us :=
  ⟨hs, fun i hi => ⟨(hl i hi).2, fun t ht o => by have := (f.each t ht).own_lt (((f.each t ht).own_quiet K i).1 o); have := (hl i hi).1; omega⟩⟩

/-- Feed of one of several. -/
def FedN (w0 w : World) (l1 l2 : List Em) (e : Nat) (L : Loc) (k : Nat) (x : PL × EmM) (ts : List ByteArray) (v : Ending) (w' : World) : Prop :=
  v = .returned (.string (bytesN (feedM x (natsJ ts)).2)) ∧ ∃ L', Ems w0 w' (l1 ++ ⟨e, L', k + 2 * sum ts, (feedM x (natsJ ts)).1⟩ :: l2) ∧
    ∀ A n us, FS w (l1 ++ ⟨e, L, k, x⟩ :: l2) A n us → FS w' (l1 ++ ⟨e, L', k + 2 * sum ts, (feedM x (natsJ ts)).1⟩ :: l2) A n us
theorem fedN {w0 w : World} {l1 l2 : List Em} {e k : Nat} {L : Loc} {x0 : PL × EmM} (h : Ems w0 w (l1 ++ ⟨e, L, k, x0⟩ :: l2)) (A : Option Addr) (n c : Nat) (ts : List ByteArray) (hs : Src w A n (ts.map Value.string)) (hA : 0 < n → blk A ≠ some e) (hn : n ≤ 100000000) (hsum : sum ts ≤ 100000000) (hk : k ≤ 100000000) :
    Calls Tryz.prog 15 #[.pointer (some ⟨e, 0, none⟩), .slice A n c] w (FedN w0 w l1 l2 e L k x0 ts) := by
  refine (ems_feed h A n c ts hs hA hn hsum hk).mono ?_
  rintro v w' ⟨rfl, L', he, K, hn⟩
  have hap := h.apart
  rw [List.pairwise_append, List.pairwise_cons] at hap
  obtain ⟨p1, ⟨p2, p3⟩, p4⟩ := hap
  have f : ∀ t, t ∈ l1 ∨ t ∈ l2 → ∀ i, Own w' t.e t.L i ↔ Own w t.e t.L i := fun t ht => by
    refine ((h.each t ?_).far K (fun i _ hT o => ?_)).2
    · rcases ht with y | y <;> simp [y]
    · rcases ht with y | y
      · exact p4 t y ⟨e, L, k, x0⟩ List.mem_cons_self i o (.inl hT)
      · exact p2 t y i (.inl hT) o
  refine ⟨rfl, L', he, fun A n us hF => ⟨hF.1.of_keep K (fun i hi x => (hF.2 i hi).2 ⟨e, L, k, x0⟩ (by simp) (.inl x)), fun i hi => ⟨Nat.lt_of_lt_of_le (hF.2 i hi).1 K.size, fun t ht o => ?_⟩⟩⟩
  rcases List.mem_append.1 ht with y | y
  · exact (hF.2 i hi).2 t (by simp [y]) ((f t (.inl y) i).1 o)
  · rcases List.mem_cons.1 y with y | y
    · subst y
      exact (hF.2 i hi).2 ⟨e, L, k, x0⟩ (by simp) (hn i (hF.2 i hi).1 o)
    · exact (hF.2 i hi).2 t (by simp [y]) ((f t (.inr y) i).1 o)

theorem natsJ_next {ps : List ByteArray} {k : Nat} {x : ByteArray} (h : ps[k]? = some x) : natsJ (ps.take (k + 1)) = natsJ (ps.take k) ++ natsJ [x] := by
  rw [take_next h]; simp [natsJ, joinL]
theorem natsJ_len (ps : List ByteArray) : (natsJ ps).length = sum ps := by
  unfold natsJ; rw [List.length_map]; exact joinL_len ps
theorem natsJ_bit (S : ByteArray) (k : Nat) (h : k < S.size) : (natsOf S).take (k + 1) = (natsOf S).take k ++ natsJ [S.extract k (k + 1)] := by
  have hl : S.data.toList.length = S.size := (Lib.size_eq S).symm
  have e : natsOf (S.extract k (k + 1)) = ((natsOf S).drop k).take 1 := by
    have e := extract_mk S.data.toList
    rw [mk_data] at e
    rw [e]
    simp [natsOf, List.map_drop, List.map_take, List.drop_take]
  have e2 : natsJ [S.extract k (k + 1)] = natsOf (S.extract k (k + 1)) := by rw [natsJ_eq]; simp
  rw [e2, e, List.take_add]
theorem bit_size (S : ByteArray) (k : Nat) (h : k < S.size) : (S.extract k (k + 1)).size = 1 := by
  have h1 := congrArg List.length (natsJ_bit S k h)
  rw [List.length_append, natsJ_len, List.length_take, List.length_take, natsOf_len] at h1
  simp [sum] at h1 ⊢
  omega
/-- What was fed, and one part more. -/
theorem feed_more (x0 : PL × EmM) (a b : List Nat) : (feedM x0 (a ++ b)).1 = (feedM (feedM x0 a).1 b).1 ∧ bytesN (feedM x0 (a ++ b)).2 = bytesN (feedM x0 a).2 ++ bytesN (feedM (feedM x0 a).1 b).2 := by
  rw [feedM_add]
  exact ⟨rfl, bytesN_add _ _⟩

end Go.Proofs.YtmlceohmjkaadaaGreatDoor
