/- a strings.Builder that texts go to. Own work. A strings.Builder whose row is named: WriteString, String. Own work (after the shelf's Builder1, with its copyCheck). A strings.Builder whose row is named: String, and what it turns. Own work (after the shelf's BuilderK). -/
import Derived.Test.YtnminmaklbhakaaGreatDoorBase
import Derived.Test.YtnminmaklbhakaaGreatDoorBuilders
set_option linter.unusedVariables false
set_option linter.unusedSimpArgs false
namespace Go.Proofs.YtnminmaklbhakaaGreatDoor
set_option linter.unusedVariables false
open Go.RowKit

/-- A strings.Builder in block b that holds bytes; its row lies in no block below B. -/
def Bld (B b : Nat) (l : List UInt8) (w : World) : Prop := Lib.IsBuilderF 95 5 B b (Lib.byteCells l) w
/-- All other blocks stay that are no rows of bytes. -/
def Rest (b : Nat) (w w' : World) : Prop := Lib.OthersKept 5 (some b) w w'
theorem bld_new (w : World) : Bld w.heap.size w.heap.size [] (w.alloc (.cells #[.pointer none, .slice none 0 0] 95)) := Lib.IsBuilderF.of (Lib.fresh_isBuilder _ _ w)
theorem ownF_keep {S : Nat → Prop} {w w' : World} {base : Nat} {e : TypeId} {size : Nat} {v : Value} {n : Nat} {xs : List Value} (h : w.ownsRowF base e size v n xs) (k : Keep S w w')
    (hn : ∀ i, base ≤ i → ¬ S i) : w'.ownsRowF base e size v n xs := by
  refine ⟨h.1, ?_⟩
  rcases h.2 with h2 | ⟨g, cap, cur, fz, rfl, hb, hg, r⟩
  · exact .inl h2
  · exact .inr ⟨g, cap, cur, fz, rfl, hb, k.heap hg (hn g hb), r⟩
theorem Bld.keep {S : Nat → Prop} {B b : Nat} {l : List UInt8} {w w' : World} (h : Bld B b l w) (k : Keep S w w') (hn : ∀ i, B ≤ i → ¬ S i) : Bld B b l w' := by
  rcases h with ⟨h1, v, h2, h3, h4⟩ | ⟨h1, v, h2, h3, h4⟩
  · exact .inl ⟨h1, v, k.heap h2 (hn b h1), ownF_keep h3 k hn, h4⟩
  · exact .inr ⟨h1, v, k.heap h2 (hn b h1), ownF_keep h3 k hn, h4⟩
theorem Bld.alloc {B b : Nat} {l : List UInt8} {w : World} (h : Bld B b l w) (o : Obj) : Bld B b l (w.alloc o) := h.keep (S := fun _ => False) ((Keep.refl _ w).alloc o) (fun _ _ x => x)
theorem Bld.below {B b : Nat} {l : List UInt8} {w w' : World} (h : Bld B b l w) (k : Below w.heap.size w w') : Bld B b l w' := h.keep (S := fun _ => False) (Keep.of_below _ k) (fun _ _ x => x)
theorem bytes_add_one (l : List UInt8) (c : UInt8) : Lib.byteCells (l ++ [c]) = Lib.byteCells l ++ [.int .u8 (c.toNat : Int)] := by simp [Lib.byteCells]
theorem bytes_cells_len (l : List UInt8) : (Lib.byteCells l).length = l.length := Lib.byteCells_length l
theorem str_cells (s : ByteArray) : Lib.strCells s = Lib.byteCells s.data.toList := rfl
/-- A row of other things stays. -/
theorem own_rest {w w' : World} {base e size n b : Nat} {v : Value} {xs : List Value} (h : w.ownsRow base e size v n xs) (k : Rest b w w') (he : e ≠ 5) (hb : v.ownBlock ≠ some b) : w'.ownsRow base e size v n xs := by
  refine ⟨h.1, ?_⟩
  rcases h.2 with h2 | ⟨g, cap, cur, rfl, hg0, hg, r⟩
  · exact .inl h2
  · exact .inr ⟨g, cap, cur, rfl, hg0, k g _ hg (fun x => hb (by rw [← x]; rfl)) (fun c fz x => by cases x; exact he rfl), r⟩

/-- WriteString. -/
theorem Bld.text {B b : Nat} {l : List UInt8} {w : World} (h : Bld B b l w) (s : ByteArray) (hl : l.length + s.size ≤ 10000000000) (hB : B ≤ w.heap.size) :
    Calls Tryz.prog 37 #[.pointer (some ⟨b, 0, none⟩), .string s] w fun e w' => e = .returned (.tuple #[.int .i64 s.size, .nilIface]) ∧ Bld B b (l ++ s.data.toList) w' ∧ Below B w w' ∧ Rest b w w' := by
  refine (Tryz.Builder_WriteString_k B b _ s w h (by rw [bytes_cells_len]; omega) hB).mono fun e w' ⟨h1, h2, h3, h4⟩ => ⟨h1, ?_, h3, h4⟩
  show Lib.IsBuilderF _ _ _ _ _ _
  rw [show Lib.byteCells (l ++ s.data.toList) = Lib.byteCells l ++ Lib.strCells s by rw [str_cells]; simp [Lib.byteCells]]
  exact .inr h2
/-- String. -/
theorem Bld.string {B b : Nat} {l : List UInt8} {w : World} (h : Bld B b l w) (hB : B ≤ w.heap.size) :
    Calls Tryz.prog 39 #[.pointer (some ⟨b, 0, none⟩)] w fun e w' => e = .returned (.string ⟨l.toArray⟩) ∧ Below B w w' := (Tryz.Builder_String_any_k B b l w h hB).mono fun e w' ⟨h1, _, h3, _⟩ => ⟨h1, h3⟩

end Go.Proofs.YtnminmaklbhakaaGreatDoor
namespace Go.Proofs.YtnminmaklbhakaaGreatDoor
set_option linter.unusedVariables false
set_option linter.unusedSimpArgs false
open Go.RowKit

/-- A builder in block b: what its address holds, its row. -/
structure BldV (w : World) (B b : Nat) (v : Value) (l : List UInt8) : Prop where
  cells : ∃ p, w.heap[b]? = some (.cells #[p, v] 95 (0, 0)) ∧ (p = .pointer none ∨ p = .pointer (some ⟨b, 0, none⟩))
  row : w.ownsRow B 5 1 v l.length (Lib.byteCells l)
  ne : v.ownBlock ≠ some b
  le : B ≤ b
theorem BldV.new (w : World) : BldV (w.alloc (.cells #[.pointer none, .slice none 0 0] 95)) w.heap.size w.heap.size (.slice none 0 0) [] :=
  ⟨⟨_, heap_alloc_new w _, .inl rfl⟩, World.ownsRow_nil _ _ _ _, by simp [Value.ownBlock], Nat.le_refl _⟩
theorem BldV.keep {S : Nat → Prop} {w w' : World} {B b : Nat} {v : Value} {l : List UInt8} (h : BldV w B b v l) (k : Keep S w w') (hb : ¬ S b) (hv : ∀ i, v.ownBlock = some i → ¬ S i) : BldV w' B b v l := by
  obtain ⟨p, hp, hq⟩ := h.cells
  exact ⟨⟨p, k.heap hp hb, hq⟩, own_keep h.row k hv, h.ne, h.le⟩

theorem copyCheck_any (w : World) (b : Nat) (p v : Value) (hp : w.heap[b]? = some (.cells #[p, v] 95 (0, 0))) (hq : p = .pointer none ∨ p = .pointer (some ⟨b, 0, none⟩)) :
    Calls Tryz.prog 50 #[.pointer (some ⟨b, 0, none⟩)] w fun e w' => e = .returned (.tuple #[]) ∧ w'.heap[b]? = some (.cells #[.pointer (some ⟨b, 0, none⟩), v] 95 (0, 0)) ∧ Keep (· = b) w w' := by
  have L : Lays.n240 Tryz.prog Tryz.builder_ren := { Tryz.lays166 with }
  rcases hq with rfl | rfl
  · refine (Any.Builder_copyCheck_fresh L Tryz.Builder_Extra_wr.toX72 b w (by rw [Lib.cell_of_heap hp]; rfl) (by simp [World.shape?, hp]; rfl) (Lib.frozen_of_heap hp 0)).mono ?_
    rintro e w' ⟨rfl, rfl⟩
    exact ⟨rfl, by have := heap_set hp 0 (.pointer (some ⟨b, 0, none⟩)); simpa using this, keep_set w b 0 _⟩
  · refine (Any.Builder_copyCheck_used L Tryz.Builder_Extra_wr.toX72 b w (by rw [Lib.cell_of_heap hp]; rfl)).mono ?_
    rintro e w' ⟨rfl, rfl⟩
    exact ⟨rfl, hp, Keep.refl _ _⟩

set_option maxHeartbeats 1600000 in
theorem BldV.write {w : World} {B b : Nat} {v : Value} {l : List UInt8} (h : BldV w B b v l) (s : ByteArray) (hl : l.length + s.size ≤ 10000000000) (hB : B ≤ w.heap.size) :
    Calls Tryz.prog 37 #[.pointer (some ⟨b, 0, none⟩), .string s] w fun e w' => e = .returned (.tuple #[.int .i64 s.size, .nilIface]) ∧ ∃ v', BldV w' B b v' (l ++ s.data.toList) ∧ Keep (fun i => i = b ∨ v.ownBlock = some i) w w' ∧ ∀ k, v'.ownBlock = some k → v.ownBlock = some k ∨ w.heap.size ≤ k := by
  obtain ⟨i0, hi, hz0, hz1, hz2⟩ := info_parts byte_info
  obtain ⟨p, hp, hq⟩ := h.cells
  have HCC := Lib.hid (copyCheck_any w b p v hp hq)
  have HROW := Lib.hid h.row
  have HNE := Lib.hid h.ne
  have HLE := Lib.hid h.le
  obtain ⟨A, c, rfl, -⟩ := own_form h.row
  have hbl := lt_heap hp
  clear h hp hq
  go_enter Tryz.func37, Tryz.ntmps37
  go_wp2_with fail
  refine HCC.out.mono ?_
  rintro e w1 ⟨rfl, hb1, k1⟩
  have hown : w1.ownsRow B 5 1 (.slice A l.length c) l.length (Lib.byteCells l) := own_keep HROW.out k1 (fun i hi e => HNE.out (by rw [hi, e]))
  have c1 : w1.cell? ⟨b, 1, none⟩ = some (.slice A l.length c) := cell_at hb1 1
  have HK1 := Lib.hid k1
  have HB1 := Lib.hid hb1
  have HS1 := k1.size
  clear k1 hb1
  go_wp2_with (at_builtin; refine wpList_append_str_at _ rfl (.tmp 12) (.tmp 13) 83 9 rfl B 5 i0 Tryz.underlying83 Tryz.underlying9 hi hz0 hz1 hz2 (.slice A l.length c) l.length (Lib.byteCells l) rfl hown s rfl ?c3 ?c4 ?c5 ?_)
  case c3 => unfold maxLen; omega
  case c4 => omega
  case c5 => omega
  intro v2 w2 hown2 hgrow hat
  obtain ⟨A2, c2, rfl, -⟩ := own_form hown2
  have hbl1 : b < w1.heap.size := lt_heap HB1.out
  have hne2 : (Value.slice A l.length c).ownBlock ≠ some b := HNE.out
  have hb2 : w2.heap[b]? = some (.cells #[.pointer (some ⟨b, 0, none⟩), .slice A l.length c] 95 (0, 0)) := by
    rw [hgrow.block b hbl1 (fun e => hne2 e.symm)]
    exact HB1.out
  have d1 : w2.cell? ⟨b, 1, none⟩ = some (.slice A l.length c) := cell_at hb2 1
  have f1 : w2.frozen? ⟨b, 1, none⟩ = false := free_at hb2 1
  have k2 : Keep (fun i => (Value.slice A l.length c).ownBlock = some i) w1 w2 := (Keep.refl _ w1).grown hgrow (fun k hk _ => hk)
  have hne3 : (Value.slice A2 (l.length + s.size) c2).ownBlock ≠ some b := fun e => (hat b e).elim (fun x => hne2 x) (fun x => by omega)
  have HFIN : Hid (BldV (w2.setCell ⟨b, 1, none⟩ (.slice A2 (l.length + s.size) c2)) B b (.slice A2 (l.length + s.size) c2) (l ++ s.data.toList) ∧ Keep (fun i => i = b ∨ (Value.slice A l.length c).ownBlock = some i) w (w2.setCell ⟨b, 1, none⟩ (.slice A2 (l.length + s.size) c2)) ∧ ∀ k, (Value.slice A2 (l.length + s.size) c2).ownBlock = some k → (Value.slice A l.length c).ownBlock = some k ∨ w.heap.size ≤ k) := Lib.hid (by
    have e1 : (l ++ s.data.toList).length = l.length + s.size := by rw [List.length_append]; rfl
    refine ⟨⟨⟨_, by have := heap_set hb2 1 (.slice A2 (l.length + s.size) c2); simpa using this, .inr rfl⟩, ?_, hne3, HLE.out⟩, ?_, fun k hk => (hat k hk).imp id (fun x => by omega)⟩
    · rw [e1, show Lib.byteCells (l ++ s.data.toList) = Lib.byteCells l ++ Lib.strCells s by rw [str_cells]; simp [Lib.byteCells]]
      exact own_keep hown2 (keep_set w2 b 1 _) (fun i hi e => hne3 (by rw [hi, e]))
    · exact ((HK1.out.mono (fun _ _ x => Or.inl x)).trans k2 (fun i _ x => Or.inr x)).setCell (S := fun i => i = b ∨ (Value.slice A l.length c).ownBlock = some i) (p := ⟨b, 1, none⟩) (fun _ => .inl rfl) _)
  clear hown hown2 hgrow hat hb2 k2 hne2 hne3
  go_wp2_with fail
  go_ret2
  exact ⟨rfl, _, HFIN.out⟩

theorem BldV.string {w : World} {B b : Nat} {v : Value} {l : List UInt8} (h : BldV w B b v l) (hB : B ≤ w.heap.size) :
    Calls Tryz.prog 39 #[.pointer (some ⟨b, 0, none⟩)] w fun e w' => e = .returned (.string ⟨l.toArray⟩) ∧ Below B w w' := by
  obtain ⟨p, hp, hq⟩ := h.cells
  have h1 : Lib.BuilderAt 95 5 B b p (Lib.byteCells l) w := ⟨h.le, v, hp, by rw [bytes_cells_len]; exact h.row, h.ne⟩
  have h2 : Lib.IsBuilder 95 5 B b (Lib.byteCells l) w := by
    rcases hq with rfl | rfl
    · exact .inl h1
    · exact .inr h1
  exact Bld.string (Lib.IsBuilderF.of h2) hB

end Go.Proofs.YtnminmaklbhakaaGreatDoor
namespace Go.Proofs.YtnminmaklbhakaaGreatDoor
set_option linter.unusedVariables false
set_option linter.unusedSimpArgs false
open Go.RowKit

theorem keep_freeze {S : Nat → Prop} {w0 w : World} (k : Keep S w0 w) (p : Addr) (n : Nat) (hp : p.block < w0.heap.size → S p.block) : Keep S w0 (w.freeze p n) := by
  have hS : Keep (· = p.block) w (w.freeze p n) := by
    unfold World.freeze
    split
    · exact Keep.refl _ w
    · exact ⟨rfl, rfl, rfl, by simp, fun i hi hn => by
        simp only [Array.getElem?_modify]
        rw [if_neg (by intro e; exact hn e.symm)]⟩
  exact k.trans hS (fun i hi e => by subst e; exact hp hi)

set_option maxHeartbeats 1000000 in
set_option maxRecDepth 100000 in
theorem BldV.str {w : World} {B b : Nat} {v : Value} {l : List UInt8} (h : BldV w B b v l) :
    Calls Tryz.prog 39 #[.pointer (some ⟨b, 0, none⟩)] w fun e w' => e = .returned (.string ⟨l.toArray⟩) ∧ Keep (fun i => v.ownBlock = some i) w w' := by
  have L := Tryz.lays169
  have X := Tryz.Builder_Extra_169
  obtain ⟨p, hbk, hq⟩ := h.cells
  have hbl := lt_heap hbk
  have hown := h.row
  have hne := h.ne
  have k0 : Keep (fun i => v.ownBlock = some i) w w.drew := (Keep.refl _ w).drewN 1
  have mixed := L.mixed
  have t37 := L.t37; have t127 := L.t127; have t5 := X.t5
  rcases hown.2 with ⟨rfl, hl0⟩ | ⟨g, cap, cur, rfl, hbg, hg, hnc, hcm, hcs, htake⟩
  · have : l = [] := List.length_eq_zero_iff.mp hl0
    subst this
    have hUS : ∀ (W : World) (q : Option Addr), (Builtin.unsafeString_ #[134, 3] 9 #[.pointer q, .int .i64 0]).run Tryz.prog W = .ok (.string .empty) W := fun W q => Lib.run_unsafeString_none W _ _ _ q
    have c1 : w.drew.cell? ⟨b, 1, none⟩ = some (.slice none 0 0) := by
      have : w.drew.heap[b]? = some (.cells #[p, .slice none 0 0] 95 (0, 0)) := hbk
      rw [Lib.cell_of_heap this]; rfl
    have hSD : (Builtin.unsafeSliceData_ #[83] 134 #[.slice none 0 0]).run Tryz.prog w.drew = .ok (.pointer none) w.drew := rfl
    clear h hbk hown
    go_enter Tryz.func39, Tryz.ntmps39
    go_wp2
    go_region_o
    all_goals (go_wp2; go_ret; exact ⟨rfl, k0⟩)
  · by_cases h0 : l = []
    · subst h0
      have hUS : ∀ (W : World) (q : Option Addr), (Builtin.unsafeString_ #[134, 3] 9 #[.pointer q, .int .i64 0]).run Tryz.prog W = .ok (.string .empty) W := fun W q => Lib.run_unsafeString_none W _ _ _ q
      have c1 : w.drew.cell? ⟨b, 1, none⟩ = some (.slice (some ⟨g, 0, none⟩) 0 cap) := by
        have : w.drew.heap[b]? = some (.cells #[p, .slice (some ⟨g, 0, none⟩) 0 cap] 95 (0, 0)) := hbk
        rw [Lib.cell_of_heap this]; rfl
      by_cases hc0 : cap = 0
      · subst hc0
        have hSD : (Builtin.unsafeSliceData_ #[83] 134 #[.slice (some ⟨g, 0, none⟩) 0 0]).run Tryz.prog w.drew = .ok (.pointer (some ⟨w.drew.heap.size, 0, none⟩)) (w.drew.alloc (.view ⟨g, 0, none⟩ 5)) :=
          Lib.run_unsafeSliceData_zero w.drew _ _ 5 L.t127 ⟨g, 0, none⟩ 0 (5, cur.size) (by have hg' : w.drew.heap[g]? = some (.cells cur 5 (0, 0)) := hg; simp [World.shape?, hg'])
        have c2 : (w.drew.alloc (.view ⟨g, 0, none⟩ 5)).cell? ⟨b, 1, none⟩ = some (.slice (some ⟨g, 0, none⟩) 0 0) := by
          have : (w.drew.alloc (.view ⟨g, 0, none⟩ 5)).heap[b]? = _ := (Lib.alloc_old w.drew _ b hbl).trans hbk
          rw [Lib.cell_of_heap this]; rfl
        have c3 : (w.alloc (.view ⟨g, 0, none⟩ 5)).drew.cell? ⟨b, 1, none⟩ = some (.slice (some ⟨g, 0, none⟩) 0 0) := c2
        have c0 : w.cell? ⟨b, 1, none⟩ = some (.slice (some ⟨g, 0, none⟩) 0 0) := c1
        have k1 : Keep (fun i => (Value.slice (some ⟨g, 0, none⟩) 0 0).ownBlock = some i) w (w.drew.alloc (.view ⟨g, 0, none⟩ 5)) := k0.alloc _
        clear h hbk hown k0
        go_enter Tryz.func39, Tryz.ntmps39
        go_wp2
        go_region_o
        all_goals (go_wp2; go_ret; exact ⟨rfl, k1⟩)
      · have hSD : (Builtin.unsafeSliceData_ #[83] 134 #[.slice (some ⟨g, 0, none⟩) 0 cap]).run Tryz.prog w.drew = .ok (.pointer (some ⟨g, 0, none⟩)) w.drew :=
          Lib.run_unsafeSliceData_row _ _ _ _ _ _ hc0
        clear hc0 h hbk hown
        go_enter Tryz.func39, Tryz.ntmps39
        go_wp2
        go_region_o
        all_goals (go_wp2; go_ret; exact ⟨rfl, k0⟩)
    · have hl0 : l.length ≠ 0 := by simpa using h0
      have c1 : w.drew.cell? ⟨b, 1, none⟩ = some (.slice (some ⟨g, 0, none⟩) l.length cap) := by
        have : w.drew.heap[b]? = some (.cells #[p, .slice (some ⟨g, 0, none⟩) l.length cap] 95 (0, 0)) := hbk
        rw [Lib.cell_of_heap this]; rfl
      have hSD : (Builtin.unsafeSliceData_ #[83] 134 #[.slice (some ⟨g, 0, none⟩) l.length cap]).run Tryz.prog w.drew = .ok (.pointer (some ⟨g, 0, none⟩)) w.drew :=
        Lib.run_unsafeSliceData_row _ _ _ _ _ _ (by omega)
      have hUS : (Builtin.unsafeString_ #[134, 3] 9 #[.pointer (some ⟨g, 0, none⟩), .int .i64 l.length]).run Tryz.prog w.drew = .ok (.string ⟨l.toArray⟩) (w.drew.freeze ⟨g, 0, none⟩ l.length) := by
        refine Lib.run_unsafeString_row w.drew 134 3 9 5 L.t127 X.cellsByte g cur.size (by have hg' : w.drew.heap[g]? = some (.cells cur 5 (0, 0)) := hg; simp [World.shape?, hg']) l h0 (by omega) (by unfold maxLen at hcm; omega) ?_
        intro j x hx
        have := hown.cells (g := g) rfl j (.int .u8 x.toNat) (by simp [Lib.byteCells, hx])
        exact this
      have k1 : Keep (fun i => (Value.slice (some ⟨g, 0, none⟩) l.length cap).ownBlock = some i) w (w.drew.freeze ⟨g, 0, none⟩ l.length) := keep_freeze k0 _ _ (fun _ => rfl)
      clear h hbk hown k0
      go_enter Tryz.func39, Tryz.ntmps39
      go_wp2
      go_region_o
      all_goals (go_wp2; go_ret; exact ⟨rfl, k1⟩)

end Go.Proofs.YtnminmaklbhakaaGreatDoor
