/- strings.Join without anything between; a strings.Builder that bytes go to. Own work. -/
import Derived.Test.YtmkgcmnimpkmjaaBase
import Derived.Test.YtmkgcmnimpkmjaaBuilders
set_option linter.unusedVariables false
set_option linter.unusedSimpArgs false
namespace Go.Proofs.Ytmkgcmnimpkmjaa
set_option linter.unusedVariables false
open Go.RowKit

theorem join_plain (l : List (List UInt8)) : Lib.join l [] = l.flatten := by
  cases l with
  | nil => rfl
  | cons x r =>
    rw [Lib.join_cons]
    simp [Lib.joinTail]
theorem join_joinL (xs : List ByteArray) : Lib.join (xs.map (·.data.toList)) [] = joinL xs := by rw [join_plain]; simp [joinL, List.flatMap]

theorem joins_any (A : Option Addr) (n c : Nat) (xs : List ByteArray) (w : World) (h : Src w A n (xs.map Value.string)) (hc : n ≤ c) (hs : sum xs ≤ 1000000000) (hn : n ≤ 1000000000) :
    Calls Try.prog 68 #[.slice A n c, .string ⟨#[]⟩] w fun e w' => e = .returned (.string ⟨(joinL xs).toArray⟩) ∧ Below w.heap.size w w' := by
  have hl : xs.length = n := by have := h.1; rwa [List.length_map] at this
  rcases Nat.eq_zero_or_pos n with h0 | h0
  · subst h0
    obtain rfl := List.eq_nil_of_length_eq_zero hl
    exact (Try.strings_Join_none A c ⟨#[]⟩ w).mono fun e w' ⟨h1, h2⟩ => ⟨h1, h2 ▸ Below.refl _ _⟩
  · obtain ⟨b, o, rfl, hb, hcell⟩ := h.2 h0
    have := Try.strings_Join b o c xs ⟨#[]⟩ w (fun j x hx => hcell j (.string x) (by rw [List.getElem?_map, hx]; rfl)) hb (by omega) (by omega) (by
      show (Lib.join _ []).length ≤ _
      rw [join_joinL, joinL_len]; omega)
    rw [hl] at this
    refine this.mono fun e w' ⟨h1, h2⟩ => ⟨?_, h2⟩
    rw [h1]
    show Ending.returned (.string ⟨(Lib.join (xs.map (·.data.toList)) []).toArray⟩) = _
    rw [join_joinL]

/-- A strings.Builder in block b that holds bytes; its row lies in no block below B. -/
def Bld (B b : Nat) (l : List UInt8) (w : World) : Prop := Lib.IsBuilderF 123 5 B b (Lib.byteCells l) w
/-- All other blocks stay that are no rows of bytes. -/
def Rest (b : Nat) (w w' : World) : Prop := Lib.OthersKept 5 (some b) w w'
theorem bld_new (w : World) : Bld w.heap.size w.heap.size [] (w.alloc (.cells #[.pointer none, .slice none 0 0] 123)) := Lib.IsBuilderF.of (Lib.fresh_isBuilder _ _ w)
theorem ownF_keep {S : Nat → Prop} {w w' : World} {base : Nat} {e : TypeId} {size : Nat} {v : Value} {n : Nat} {xs : List Value} (h : w.ownsRowF base e size v n xs) (k : Keep S w w')
    (hn : ∀ i, base ≤ i → ¬ S i) : w'.ownsRowF base e size v n xs := by
  refine ⟨h.1, ?_⟩
  rcases h.2 with h2 | ⟨g, cap, cur, fz, rfl, hb, hg, r⟩
  · exact .inl h2
  · exact .inr ⟨g, cap, cur, fz, rfl, hb, k.heap hg (hn g hb), r⟩
theorem Bld.keep {S : Nat → Prop} {B b : Nat} {l : List UInt8} {w w' : World} (h : Bld B b l w) (k : Keep S w w') (hn : ∀ i, B ≤ i → ¬ S i) : Bld B b l w' := by
  rcases h with ⟨h1, v, h2, h3, h4⟩ | ⟨h1, v, h2, h3, h4⟩
  · exact .inl ⟨h1, v, k.heap h2 (hn b h1), ownF_keep h3 k hn, h4⟩
  · exact .inr ⟨h1, v, k.heap h2 (hn b h1), ownF_keep h3 k hn, h4⟩
theorem Bld.alloc {B b : Nat} {l : List UInt8} {w : World} (h : Bld B b l w) (o : Obj) : Bld B b l (w.alloc o) := h.keep (S := fun _ => False) ((Keep.refl _ w).alloc o) (fun _ _ x => x)
theorem Bld.below {B b : Nat} {l : List UInt8} {w w' : World} (h : Bld B b l w) (k : Below w.heap.size w w') : Bld B b l w' := h.keep (S := fun _ => False) (Keep.of_below _ k) (fun _ _ x => x)
theorem bytes_add_one (l : List UInt8) (c : UInt8) : Lib.byteCells (l ++ [c]) = Lib.byteCells l ++ [.int .u8 (c.toNat : Int)] := by simp [Lib.byteCells]
theorem bytes_cells_len (l : List UInt8) : (Lib.byteCells l).length = l.length := Lib.byteCells_length l
theorem str_cells (s : ByteArray) : Lib.strCells s = Lib.byteCells s.data.toList := rfl
/-- A row of other things stays. -/
theorem own_rest {w w' : World} {base e size n b : Nat} {v : Value} {xs : List Value} (h : w.ownsRow base e size v n xs) (k : Rest b w w') (he : e ≠ 5) (hb : v.ownBlock ≠ some b) : w'.ownsRow base e size v n xs := by
  refine ⟨h.1, ?_⟩
  rcases h.2 with h2 | ⟨g, cap, cur, rfl, hg0, hg, r⟩
  · exact .inl h2
  · exact .inr ⟨g, cap, cur, rfl, hg0, k g _ hg (fun x => hb (by rw [← x]; rfl)) (fun c fz x => by cases x; exact he rfl), r⟩

/-- WriteByte. -/
theorem Bld.byteK {B b : Nat} {l : List UInt8} {w : World} (h : Bld B b l w) (c : UInt8) (hl : l.length ≤ 10000000000) (hB : B ≤ w.heap.size) :
    Calls Try.prog 69 #[.pointer (some ⟨b, 0, none⟩), .int .u8 (c.toNat : Int)] w fun e w' => e = .returned .nilIface ∧ Bld B b (l ++ [c]) w' ∧ Below B w w' ∧ Rest b w w' := by
  refine (Try.Builder_WriteByte_k B b _ (c.toNat : Int) w h (by rw [bytes_cells_len]; omega) hB).mono fun e w' ⟨h1, h2, h3, h4⟩ => ⟨h1, ?_, h3, h4⟩
  show Lib.IsBuilderF _ _ _ _ _ _
  rw [bytes_add_one]
  exact .inr h2
theorem Bld.byte {B b : Nat} {l : List UInt8} {w : World} (h : Bld B b l w) (c : UInt8) (hl : l.length ≤ 10000000000) (hB : B ≤ w.heap.size) :
    Calls Try.prog 69 #[.pointer (some ⟨b, 0, none⟩), .int .u8 (c.toNat : Int)] w fun e w' => e = .returned .nilIface ∧ Bld B b (l ++ [c]) w' ∧ Below B w w' := (h.byteK c hl hB).mono fun e w' ⟨h1, h2, h3, _⟩ => ⟨h1, h2, h3⟩
/-- WriteString. -/
theorem Bld.text {B b : Nat} {l : List UInt8} {w : World} (h : Bld B b l w) (s : ByteArray) (hl : l.length + s.size ≤ 10000000000) (hB : B ≤ w.heap.size) :
    Calls Try.prog 82 #[.pointer (some ⟨b, 0, none⟩), .string s] w fun e w' => e = .returned (.tuple #[.int .i64 s.size, .nilIface]) ∧ Bld B b (l ++ s.data.toList) w' ∧ Below B w w' ∧ Rest b w w' := by
  refine (Try.Builder_WriteString_k B b _ s w h (by rw [bytes_cells_len]; omega) hB).mono fun e w' ⟨h1, h2, h3, h4⟩ => ⟨h1, ?_, h3, h4⟩
  show Lib.IsBuilderF _ _ _ _ _ _
  rw [show Lib.byteCells (l ++ s.data.toList) = Lib.byteCells l ++ Lib.strCells s by rw [str_cells]; simp [Lib.byteCells]]
  exact .inr h2
/-- String. -/
theorem Bld.string {B b : Nat} {l : List UInt8} {w : World} (h : Bld B b l w) (hB : B ≤ w.heap.size) :
    Calls Try.prog 71 #[.pointer (some ⟨b, 0, none⟩)] w fun e w' => e = .returned (.string ⟨l.toArray⟩) ∧ Below B w w' := (Try.Builder_String_any_k B b l w h hB).mono fun e w' ⟨h1, _, h3, _⟩ => ⟨h1, h3⟩

end Go.Proofs.Ytmkgcmnimpkmjaa
