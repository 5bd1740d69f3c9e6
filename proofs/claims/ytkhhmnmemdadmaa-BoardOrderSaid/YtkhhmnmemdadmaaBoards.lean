/- Two boards side by side, and lists of their names. Own work. -/
import Derived.Test.YtkhhmnmemdadmaaBoardOps
import Derived.Sort.Walk0
namespace Go.Proofs.Ytkhhmnmemdadmaa
set_option linter.unusedVariables false
open Go.RowKit Go.Maps

/-- A row that is owned, as a slice that is read. -/
theorem own_slice {w : World} {base : Nat} {e : TypeId} {v : Value} {n : Nat} {us : List Value} (h : w.ownsRow base e 1 v n us) : ∃ A c, v = .slice A n c ∧ ∀ S : Nat → Prop, (∀ k, v.ownBlock = some k → ¬ S k) → SliceAt w A us S := by
  obtain ⟨A, c, rfl, hA⟩ := own_form h
  refine ⟨A, c, rfl, fun S hS h0 => ?_⟩
  have hl : us.length = n := by simpa using h.1
  obtain ⟨g, rfl⟩ := hA (by omega)
  refine ⟨g, 0, rfl, (h.lt g rfl).2, hS g rfl, fun i u hu => ?_⟩
  have := h.cells (g := g) rfl i u hu
  rw [add_mk] at this
  exact this

theorem SliceAt.step {w w' : World} {B : Option Addr} {vs : List Value} {S S' own : Nat → Prop} (h : SliceAt w B vs S) (k : Keep own w w') (ho : ∀ i, own i → S i) (hs : ∀ i, i < w.heap.size → S' i → S i) : SliceAt w' B vs S' := by
  intro h0
  obtain ⟨b, off, e, h1, h2, h3⟩ := h h0
  exact ⟨b, off, e, Nat.lt_of_lt_of_le h1 k.size, fun q => h2 (hs b h1 q), fun i v hv => (k.cell (p := ⟨b, off + i, none⟩) h1 (fun q => h2 (ho b q))).trans (h3 i v hv)⟩

/-- Two boards that were made since w0, and lists that were made beside them. -/
def Boards (w0 : World) (pa pb : Nat) (ksA ksB : List (List UInt8)) (gA gB : List UInt8 → Int) (rows : List (Option Addr × List Value)) (w : World) : Prop :=
  ∃ (oA oB : Nat → Prop) (aA aB : List UInt8 → Nat), BoardAt w pa oA ksA aA gA 0 ∧ BoardAt w pb oB ksB aB gB 0 ∧ (∀ k, oA k → ¬ oB k) ∧ (∀ k, oA k → w0.heap.size ≤ k) ∧ (∀ k, oB k → w0.heap.size ≤ k) ∧ Below w0.heap.size w0 w ∧ ∀ r ∈ rows, SliceAt w r.1 r.2 (fun k => oA k ∨ oB k)

section
variable {w0 w : World} {pa pb : Nat} {ksA ksB : List (List UInt8)} {gA gB : List UInt8 → Int} {rows : List (Option Addr × List Value)}

theorem Boards.below (h : Boards w0 pa pb ksA ksB gA gB rows w) : Below w0.heap.size w0 w := by
  obtain ⟨_, _, _, _, _, _, _, _, _, h, _⟩ := h
  exact h

theorem Boards.keep {w' : World} (h : Boards w0 pa pb ksA ksB gA gB rows w) (k : Keep (fun _ => False) w w') : Boards w0 pa pb ksA ksB gA gB rows w' := by
  obtain ⟨oA, oB, aA, aB, h1, h2, h3, h4, h5, h6, h7⟩ := h
  exact ⟨oA, oB, aA, aB, h1.keep k (fun _ _ x => x), h2.keep k (fun _ _ x => x), h3, h4, h5, h6.trans (k.below h6.size (fun _ _ x => x)), fun r hr => (h7 r hr).step k (fun _ x => x.elim) (fun _ _ x => x)⟩

theorem Boards.drew (h : Boards w0 pa pb ksA ksB gA gB rows w) : Boards w0 pa pb ksA ksB gA gB rows w.drew := h.keep (Keep.refl _ w).drew

/-- One of them has been called: the other one, and the lists, stay. -/
theorem boards_a {oA oB oA' : Nat → Prop} {aA aB : List UInt8 → Nat} {ksA' : List (List UInt8)} {aA' : List UInt8 → Nat} {gA' : List UInt8 → Int} {w' : World} (h2 : BoardAt w pb oB ksB aB gB 0) (h1 : ∀ k, oA k → k < w.heap.size) (h3 : ∀ k, oA k → ¬ oB k) (h4 : ∀ k, oA k → w0.heap.size ≤ k) (h5 : ∀ k, oB k → w0.heap.size ≤ k) (h6 : Below w0.heap.size w0 w)
    (h7 : ∀ r ∈ rows, SliceAt w r.1 r.2 (fun k => oA k ∨ oB k)) (b : BoardAt w' pa oA' ksA' aA' gA' 0) (s : Step oA w oA' w') :
    BoardAt w' pb oB ksB aB gB 0 ∧ (∀ k, oA' k → ¬ oB k) ∧ (∀ k, oA' k → w0.heap.size ≤ k) ∧ Below w0.heap.size w0 w' ∧ ∀ r ∈ rows, SliceAt w' r.1 r.2 (fun k => oA' k ∨ oB k) := by
  refine ⟨h2.keep s.1 (fun i hi q => h3 i q hi), fun k hk hb => ?_, fun k hk => ?_, h6.trans (s.1.below h6.size (fun k hk q => by have := h4 k q; omega)), fun r hr => (h7 r hr).step s.1 (fun _ q => .inl q) (fun i hi q => ?_)⟩
  · rcases s.2 k hk with q | q
    · exact h3 k q hb
    · have := h2.lt k hb; omega
  · rcases s.2 k hk with q | q
    · exact h4 k q
    · have := h6.size; omega
  · rcases q with q | q
    · rcases s.2 i q with q | q
      · exact .inl q
      · omega
    · exact .inr q

theorem isAddA (h : Boards w0 pa pb ksA ksB gA gB rows w) (s : ByteArray) (n : Int) (hs : s.size ≤ maxLen) (hl : ksA.length ≤ 1000000) (hn : -9223372036854775808 ≤ n ∧ n ≤ 9223372036854775807) :
    Calls Try.prog 14 #[.pointer (some ⟨pa, 0, none⟩), .string s, .int .i64 n] w fun e w' => e = .returned (.int .i64 (wrap64 (gA s.data.toList + n))) ∧ Boards w0 pa pb (insKey s.data.toList ksA) ksB (setAt gA s.data.toList (wrap64 (gA s.data.toList + n))) gB rows w' := by
  obtain ⟨oA, oB, aA, aB, h1, h2, h3, h4, h5, h6, h7⟩ := h
  refine (badd_any pa oA ksA aA gA s n w h1 hs hl hn).mono fun e w' ⟨o', a', he, b, st⟩ => ⟨he, ?_⟩
  obtain ⟨k2, k3, k4, k6, k7⟩ := boards_a (aA := aA) h2 h1.lt h3 h4 h5 h6 h7 b st
  exact ⟨o', oB, a', aB, b, k2, k3, k4, h5, k6, k7⟩

theorem Boards.swap (h : Boards w0 pa pb ksA ksB gA gB rows w) : Boards w0 pb pa ksB ksA gB gA rows w := by
  obtain ⟨oA, oB, aA, aB, h1, h2, h3, h4, h5, h6, h7⟩ := h
  exact ⟨oB, oA, aB, aA, h2, h1, fun k q r => h3 k r q, h5, h4, h6, fun r hr => (h7 r hr).step (Keep.refl (fun _ => False) w) (fun _ x => x.elim) (fun i _ q => q.symm)⟩

theorem isAddB (h : Boards w0 pa pb ksA ksB gA gB rows w) (s : ByteArray) (n : Int) (hs : s.size ≤ maxLen) (hl : ksB.length ≤ 1000000) (hn : -9223372036854775808 ≤ n ∧ n ≤ 9223372036854775807) :
    Calls Try.prog 14 #[.pointer (some ⟨pb, 0, none⟩), .string s, .int .i64 n] w fun e w' => e = .returned (.int .i64 (wrap64 (gB s.data.toList + n))) ∧ Boards w0 pa pb ksA (insKey s.data.toList ksB) gA (setAt gB s.data.toList (wrap64 (gB s.data.toList + n))) rows w' :=
  (isAddA h.swap s n hs hl hn).mono fun e w' ⟨he, b⟩ => ⟨he, b.swap⟩

theorem isNowA (h : Boards w0 pa pb ksA ksB gA gB rows w) (s : ByteArray) (hs : s.size ≤ maxLen) :
    Calls Try.prog 16 #[.pointer (some ⟨pa, 0, none⟩), .string s] w fun e w' => e = .returned (.int .i64 (gA s.data.toList)) ∧ Boards w0 pa pb ksA ksB gA gB rows w' := by
  obtain ⟨oA, oB, aA, aB, h1, h2, h3, h4, h5, h6, h7⟩ := h
  refine (bnow_any pa oA ksA aA gA s w h1 hs).mono fun e w' ⟨o', he, b, st⟩ => ⟨he, ?_⟩
  obtain ⟨k2, k3, k4, k6, k7⟩ := boards_a (aA := aA) h2 h1.lt h3 h4 h5 h6 h7 b st
  exact ⟨o', oB, aA, aB, b, k2, k3, k4, h5, k6, k7⟩

/-- Either of two boards that count alike. -/
theorem isNowE {g : List UInt8 → Int} (h : Boards w0 pa pb ksA ksB g g rows w) (q : Nat) (hq : q = pa ∨ q = pb) (s : ByteArray) (hs : s.size ≤ maxLen) :
    Calls Try.prog 16 #[.pointer (some ⟨q, 0, none⟩), .string s] w fun e w' => e = .returned (.int .i64 (g s.data.toList)) ∧ Boards w0 pa pb ksA ksB g g rows w' := by
  rcases hq with rfl | rfl
  · exact isNowA h s hs
  · exact (isNowA h.swap s hs).mono fun e w' ⟨he, b⟩ => ⟨he, b.swap⟩

theorem isNamesA (h : Boards w0 pa pb ksA ksB gA gB rows w) (hl : ksA.length ≤ 1000000) :
    Calls Try.prog 15 #[.pointer (some ⟨pa, 0, none⟩)] w fun e w' => ∃ A c, e = .returned (.slice A ksA.length c) ∧ Boards w0 pa pb ksA ksB gA gB ((A, (rising ksA).map encStr) :: rows) w' := by
  obtain ⟨oA, oB, aA, aB, h1, h2, h3, h4, h5, h6, h7⟩ := h
  refine (bnames_any pa oA ksA aA gA w h1 hl).mono fun e w' ⟨v, o', he, b, st, row, far⟩ => ?_
  obtain ⟨k2, k3, k4, k6, k7⟩ := boards_a (aA := aA) h2 h1.lt h3 h4 h5 h6 h7 b st
  have hge : ∀ k, v.ownBlock = some k → w.heap.size ≤ k := fun k hk => (row.lt k hk).1
  obtain ⟨A, c, rfl, hs⟩ := own_slice row
  refine ⟨A, c, he, o', oB, aA, aB, b, k2, k3, k4, h5, k6, fun r hr => ?_⟩
  rcases List.mem_cons.1 hr with e | hr
  · rw [e]
    refine hs _ (fun k hk q => ?_)
    rcases q with q | q
    · exact far k hk q
    · have := h2.lt k q
      have := hge k hk
      omega
  · exact k7 r hr

theorem isNamesB (h : Boards w0 pa pb ksA ksB gA gB rows w) (hl : ksB.length ≤ 1000000) :
    Calls Try.prog 15 #[.pointer (some ⟨pb, 0, none⟩)] w fun e w' => ∃ A c, e = .returned (.slice A ksB.length c) ∧ Boards w0 pa pb ksA ksB gA gB ((A, (rising ksB).map encStr) :: rows) w' :=
  (isNamesA h.swap hl).mono fun e w' ⟨A, c, he, b⟩ => ⟨A, c, he, b.swap⟩
end

end Go.Proofs.Ytkhhmnmemdadmaa
