/- What the laws of emu want: one terminal that is fed, what is kept beside it. Own work. -/
import Derived.Test.YtnminmaklbhakaaGreatDoorEmuLaw
namespace Go.Proofs.YtnminmaklbhakaaGreatDoor
set_option linter.unusedVariables false
set_option linter.unusedSimpArgs false
open Go.RowKit

/-- A block that is none of the terminal's. -/
def Kp (w : World) (e : Nat) (L : Loc) (p : Nat) (ob : Obj) : Prop := w.heap[p]? = some ob ∧ ¬ Own w e L p
/-- A list that is none of the terminal's. -/
def KS (w : World) (e : Nat) (L : Loc) (A : Option Addr) (n : Nat) (us : List Value) : Prop := Src w A n us ∧ ∀ i, blk A = some i → i < w.heap.size ∧ ¬ Own w e L i
theorem EmuF.own_quiet {w w' : World} {e k : Nat} {L : Loc} {x : PL × EmM} (h : EmuF w e L k x) (K : Keep (fun _ => False) w w') (i : Nat) : Own w' e L i ↔ Own w e L i := (h.far K (fun _ _ x => x.elim)).2 i
theorem Kp.quiet {w w' : World} {e k p : Nat} {L : Loc} {x : PL × EmM} {ob : Obj} (h : Kp w e L p ob) (f : EmuF w e L k x) (K : Keep (fun _ => False) w w') : Kp w' e L p ob :=
  ⟨(K.block p (lt_heap h.1) (fun x => x)).trans h.1, fun o => h.2 ((f.own_quiet K p).1 o)⟩
theorem KS.quiet {w w' : World} {e k n : Nat} {L : Loc} {x : PL × EmM} {A : Option Addr} {us : List Value} (h : KS w e L A n us) (f : EmuF w e L k x) (K : Keep (fun _ => False) w w') : KS w' e L A n us :=
  ⟨h.1.keep K, fun i hi => ⟨Nat.lt_of_lt_of_le (h.2 i hi).1 K.size, fun o => (h.2 i hi).2 ((f.own_quiet K i).1 o)⟩⟩
theorem Kp.new {w : World} {e k : Nat} {L : Loc} {x : PL × EmM} (f : EmuF w e L k x) (ob : Obj) : Kp (w.alloc ob) e L w.heap.size ob :=
  ⟨heap_alloc_new w _, fun o => by have := f.own_lt ((f.own_quiet ((Keep.refl _ w).alloc ob) _).1 o); omega⟩
theorem KS.new {w w' : World} {e k n g : Nat} {L : Loc} {x : PL × EmM} {us : List Value} (f : EmuF w e L k x) (K : Keep (fun _ => False) w w') (hs : Src w' (some ⟨g, 0, none⟩) n us) (hg : w.heap.size ≤ g) (hl : g < w'.heap.size) : KS w' e L (some ⟨g, 0, none⟩) n us :=
  ⟨hs, fun i hi => by
    simp [blk] at hi
    subst hi
    exact ⟨hl, fun o => by have := f.own_lt ((f.own_quiet K _).1 o); omega⟩⟩

/-- Feed of the one terminal that there is. -/
def Fed1 (w0 w : World) (e k : Nat) (L : Loc) (m' : EmM) (o : List Nat) (v : Ending) (w' : World) : Prop := v = .returned (.string (bytesN o)) ∧ ∃ L', Ems w0 w' [⟨e, L', k, (pAt 0, m')⟩] ∧
  (∀ p ob, Kp w e L p ob → Kp w' e L' p ob) ∧ ∀ A n us, KS w e L A n us → KS w' e L' A n us
theorem EmuF.more {w : World} {e k k' : Nat} {L : Loc} {x : PL × EmM} (h : EmuF w e L k x) (hk : k ≤ k') : EmuF w e L k' x := by
  obtain ⟨b, h1, h2, h3, h4⟩ := h.esc
  exact ⟨h.r, ⟨b, h1, h2, Nat.le_trans h3 hk, h4⟩, h.rul⟩
theorem Ems.more1 {w0 w : World} {e k k' : Nat} {L : Loc} {x : PL × EmM} (h : Ems w0 w [⟨e, L, k, x⟩]) (hk : k ≤ k') : Ems w0 w [⟨e, L, k', x⟩] :=
  ⟨fun t ht => by rw [List.mem_singleton] at ht; subst ht; exact h.one.more hk, List.pairwise_singleton _ _, fun t ht => by rw [List.mem_singleton] at ht; subst ht; exact h.hi ⟨e, L, k, x⟩ (List.mem_singleton.2 rfl), h.k⟩
theorem fed1 {w0 w : World} {e k k' : Nat} {L : Loc} {m m' : EmM} {o : List Nat} (h : Ems w0 w [⟨e, L, k, (pAt 0, m)⟩]) (ts : List ByteArray) (n : Nat) (hl : ts.length = n) (hn : n ≤ 100) (hsum : sum ts ≤ 10000) (hk : k ≤ 10000000) (hk' : k + 2 * sum ts ≤ k')
    (hf : feedM (pAt 0, m) (natsJ ts) = ((pAt 0, m'), o)) :
    Calls Tryz.prog 9 #[.pointer (some ⟨e, 0, none⟩), .slice (some ⟨w.heap.size, 0, none⟩) n n] (w.alloc (.cells (ts.map Value.string).toArray 9)) (Fed1 w0 w e k' L m' o) := by
  have hel := h.one.lt
  refine (ems_feed (l1 := []) (l2 := []) (h.quiet ((Keep.refl _ w).alloc _)) (some ⟨w.heap.size, 0, none⟩) n n ts (src_new w (ts.map Value.string) 9 _ rfl n (by rw [List.length_map]; exact hl)) (fun _ q => by simp [blk] at q; dsimp only at hel; omega) (by omega) (by omega) (by omega)).mono ?_
  rintro v w' ⟨rfl, L', he, K, hn⟩
  rw [hf] at he ⊢
  have Ka := (Keep.refl (fun _ => False) w).alloc (.cells (ts.map Value.string).toArray 9)
  have K2 : Keep (L.T e) w w' := (Ka.mono (fun _ _ x => x.elim)).trans K (fun _ _ x => x)
  have hno : ∀ i, i < w.heap.size → ¬ Own w e L i → ¬ Own w' e L' i := fun i hi h2 o => h2 ((h.one.own_quiet Ka i).1 (hn i (Nat.lt_of_lt_of_le hi Ka.size) o))
  exact ⟨rfl, L', Ems.more1 (show Ems w0 w' [⟨e, L', _, (pAt 0, m')⟩] from he) hk',
    fun p ob hp => ⟨(K2.block p (lt_heap hp.1) (fun x => hp.2 (.inl x))).trans hp.1, hno p (lt_heap hp.1) hp.2⟩,
    fun A n us hs => ⟨hs.1.of_keep K2 (fun i hi x => (hs.2 i hi).2 (.inl x)), fun i hi => ⟨Nat.lt_of_lt_of_le (hs.2 i hi).1 K2.size, hno i (hs.2 i hi).1 (hs.2 i hi).2⟩⟩⟩
theorem natsOf_lit (l : List UInt8) : natsOf ⟨l.toArray⟩ = l.map (·.toNat) := rfl
theorem size_lit (l : List UInt8) : (⟨l.toArray⟩ : ByteArray).size = l.length := rfl
theorem two_decN {n : Nat} (h : n < 100) : (decN n).length ≤ 2 := decN_len 1 n (by omega)

end Go.Proofs.YtnminmaklbhakaaGreatDoor
