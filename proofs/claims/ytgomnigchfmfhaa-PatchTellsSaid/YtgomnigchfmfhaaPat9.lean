/- patch: Apply. Own work. -/
import Derived.Test.YtgomnigchfmfhaaPat8
namespace Go.Proofs.Ytgomnigchfmfhaa
set_option linter.unusedVariables false
set_option linter.unusedSimpArgs false
open Go.RowKit

/-- What Apply makes of a screen that may be. -/
def applyS (a : Scr) (d : ByteArray) : Option Scr := if validB (readS a d) = true ∧ (⟨(diffB a (readS a d)).toArray⟩ : ByteArray) = d then some (readS a d) else none
theorem applyS_back (a b : Scr) (ha : a.Ok) (hb : b.Ok) : ∃ s, applyS a ⟨(diffB a b).toArray⟩ = some s ∧ s.Like b ∧ s.Ok := by
  have h := read_back a b ha hb
  have ho := hb.like h.symm
  refine ⟨readS a ⟨(diffB a b).toArray⟩, ?_, h, ho⟩
  unfold applyS
  refine if_pos ⟨(validB_iff _).2 ho, ?_⟩
  obtain ⟨s, hs⟩ : ∃ s, s = readS a ⟨(diffB a b).toArray⟩ := ⟨_, rfl⟩
  rw [← hs] at h ⊢
  congr 2
  have e1 : chg a s = fun k => chg a s k := rfl
  have hsz : sizeB a s = sizeB a b := by unfold sizeB; rw [h.w, h.h]
  have hch : ∀ k, k < b.n → chg a s k = chg a b k := fun k hk => by
    unfold chg
    rw [hsz, h.c k (by rw [h.n]; exact hk)]
  have hr : ∀ n, n ≤ b.n → runsN (chg a s) n = runsN (chg a b) n := by
    intro n
    induction n with
    | zero => intro _; rfl
    | succ n ih => intro hn; simp only [runsN]; rw [ih (by omega), hch n (by omega)]
  have hcb : ∀ (m f : Nat), f + m ≤ b.n → cellsB s.F f m = cellsB b.F f m := by
    intro m
    induction m with
    | zero => intro f _; rfl
    | succ m ih => intro f hf; rw [cellsB_succ, cellsB_succ, ih f (by omega), h.c (f + m) (by rw [h.n]; omega)]
  have hrb : ∀ (l : List (Nat × Nat)) (e k : Nat), Sorted e b.n l → runsB s.F k l = runsB b.F k l := by
    intro l
    induction l with
    | nil => intro e k _; rfl
    | cons r l ih =>
      intro e k hs
      obtain ⟨f, g⟩ := r
      have h2 : f < g := hs.2.1
      have h3 : g ≤ b.n := hs.2.2.1
      simp only [runsB]
      rw [hcb (g - f) f (by omega), ih _ g hs.2.2.2]
  unfold diffB headB
  rw [h.n, hr b.n (Nat.le_refl _), h.w, h.h, h.x, h.y, h.d, hrb _ 0 0 (runsN_ok _ _).1]
theorem zero_bad : validB zeroS = false := by
  unfold validB zeroS
  rw [decide_eq_false (by intro h; have : min (max (0 : Int) 2) 40 = 0 := h.1; omega)]
  rfl
theorem lies_at {w : World} {g n : Nat} {F : Nat → CellM} (h : Lies w g 0 n F) (hg : g < w.heap.size) : Src w (some ⟨g, 0, none⟩) (n * 6) (flatF F n) := h.src hg
theorem zero_at (w : World) : zeroS.at' w none := ⟨rfl, fun h => by simp [zeroS] at h⟩

def ApplyTo (r : Option Scr) (w : World) (e : Ending) (w' : World) : Prop := match r with
  | none => e = .returned (.tuple #[zeroS.v none 0, .int .i64 3]) ∧ Below w.heap.size w w'
  | some s => ∃ v, e = .returned (.tuple #[v, .int .i64 0]) ∧ ScrTo s w (.returned v) w'

set_option maxRecDepth 100000 in
set_option maxHeartbeats 12800000 in
theorem patch_Apply (a : Scr) (A : Option Addr) (c : Nat) (d : ByteArray) (w : World) (hA : a.at' w A) (ha : a.Ok) (hd : d.size ≤ 1000000) :
    Calls Try.prog 18 #[a.v A c, .string d] w (ApplyTo (applyS a d) w) := by
  obtain ⟨w0, hw0⟩ : ∃ w0, w0 = (w.alloc (.cells (a.cs A c) 24)).alloc (.cells #[.int .i64 0, .int .i64 0, .slice none 0 0, .int .i64 0, .int .i64 0, .bool false] 24) := ⟨_, rfl⟩
  obtain ⟨p, hp⟩ : ∃ p, p = w.heap.size := ⟨_, rfl⟩
  have HB0 : Hid (Below w.heap.size w w0) := Lib.hid (by rw [hw0]; exact ((Below.refl _ w).alloc (Nat.le_refl _) _).alloc (by simp) _)
  have HP0 : Hid (w0.heap[p]? = some (.cells (a.cs A c) 24 (0, 0))) := Lib.hid (by rw [hw0, hp]; exact (Lib.alloc_old _ _ _ (by simp)).trans (heap_alloc_new w _))
  have HR0 : Hid (w0.heap[p + 1]? = some (.cells #[.int .i64 0, .int .i64 0, .slice none 0 0, .int .i64 0, .int .i64 0, .bool false] 24 (0, 0))) := Lib.hid (by
    rw [hw0, hp]
    have := heap_alloc_new (w.alloc (.cells (a.cs A c) 24)) (.cells #[.int .i64 0, .int .i64 0, .slice none 0 0, .int .i64 0, .int .i64 0, .bool false] 24)
    simpa using this)
  have HPW : Hid (p = w.heap.size) := Lib.hid hp
  have HV : Hid (∀ V, Below w.heap.size w V → Calls Try.prog 9 #[a.v A c] V fun e w' => e = .returned (.bool true) ∧ Below V.heap.size V w') := Lib.hid (fun V k => by
    have := patch_Valid a A c V (hA.keep (Keep.of_below _ k)) (by have := ha.n800; omega); rwa [(validB_iff a).2 ha] at this)
  have HRD : Hid (∀ V, Below w.heap.size w V → Calls Try.prog 45 #[a.v A c, .string d] V (ReadTo (readS a d) V)) := Lib.hid (fun V k => patch_read a A c d V (hA.keep (Keep.of_below _ k)) ha hd)
  have HDB : Hid (∀ V B dd, Below w.heap.size w V → (readS a d).at' V B → validB (readS a d) = false → (readS a d).n ≤ 1099511627776 → Calls Try.prog 7 #[a.v A c, (readS a d).v B dd] V fun e w' => e = .returned (.tuple #[.string ⟨#[]⟩, .int .i64 1]) ∧ Below V.heap.size V w') := Lib.hid (fun V B dd k hB hv hn =>
    patch_Diff_bad a _ A B c dd V (hA.keep (Keep.of_below _ k)) hB (by have := ha.n800; omega) hn (by rw [hv, Bool.and_false]))
  have HDG : Hid (∀ V B dd, Below w.heap.size w V → (readS a d).at' V B → validB (readS a d) = true → (readS a d).n ≤ dd → Calls Try.prog 7 #[a.v A c, (readS a d).v B dd] V fun e w' => e = .returned (.tuple #[.string ⟨(diffB a (readS a d)).toArray⟩, .int .i64 0]) ∧ Below V.heap.size V w') := Lib.hid (fun V B dd k hB hv hn =>
    patch_Diff a _ A B c dd V (hA.keep (Keep.of_below _ k)) hB hn ha ((validB_iff _).1 hv))
  have HAP : Hid (applyS a d = if validB (readS a d) = true ∧ (⟨(diffB a (readS a d)).toArray⟩ : ByteArray) = d then some (readS a d) else none) := Lib.hid rfl
  have HN8 : Hid ((readS a d).n ≤ 1000) := Lib.hid (by
    unfold readS
    split
    · exact Nat.zero_le _
    · have := cl_n (sc1 d).1 (sc2 d).1
      show clW (sc1 d).1 * clH (sc2 d).1 ≤ 1000
      omega)
  generalize (⟨(diffB a (readS a d)).toArray⟩ : ByteArray) = LB at HAP HDG
  obtain ⟨vb, hvb⟩ : ∃ vb, validB (readS a d) = vb := ⟨_, rfl⟩
  rw [hvb] at HDB HDG HAP
  have hz : vb = true → readS a d ≠ zeroS := fun h e => by rw [e, zero_bad] at hvb; rw [← hvb] at h; cases h
  have HZ := Lib.hid hz
  clear hvb hz hA ha
  generalize readS a d = s at HRD HDB HDG HAP HN8 HZ
  generalize applyS a d = R at HAP ⊢
  obtain ⟨aW, aH, an, aF, aX, aY, ahi⟩ := a
  simp only [Scr.v, Scr.cs] at hw0 HP0 HV HRD HDB HDG ⊢
  go_enter Try.func18, Try.ntmps18
  go_upto_region 1 with fail
  rw [← hw0, ← hp]
  clear hw0 hp
  have a0 := cell_at HP0.out 0; have a1 := cell_at HP0.out 1; have a2 := cell_at HP0.out 2; have a3 := cell_at HP0.out 3; have a4 := cell_at HP0.out 4; have a5 := cell_at HP0.out 5
  simp at a0 a1 a2 a3 a4 a5
  go_wp2_with fail
  refine (HV.out _ HB0.out).mono ?_
  rintro e w1 ⟨rfl, hb⟩
  have HB1 : Hid (Below w.heap.size w w1) := Lib.hid (HB0.out.trans (hb.mono HB0.out.size))
  have HP1 := Lib.hid ((Keep.of_below (fun _ => False) hb).heap HP0.out (fun x => x))
  have HR1 := Lib.hid ((Keep.of_below (fun _ => False) hb).heap HR0.out (fun x => x))
  clear hb a0 a1 a2 a3 a4 a5 HP0 HR0 HB0
  have a0 := cell_at HP1.out 0; have a1 := cell_at HP1.out 1; have a2 := cell_at HP1.out 2; have a3 := cell_at HP1.out 3; have a4 := cell_at HP1.out 4; have a5 := cell_at HP1.out 5
  simp at a0 a1 a2 a3 a4 a5
  go_wp2_with fail
  refine (HRD.out _ HB1.out).mono ?_
  rintro e w2 hrd
  have hread : ∃ B dd, e = .returned (s.v B dd) ∧ s.at' w2 B ∧ s.n ≤ dd ∧ Below w1.heap.size w1 w2 ∧ (s ≠ zeroS → ScrTo s w1 e w2) := by
    rcases hrd with h | ⟨h1, h2, h3⟩
    · obtain ⟨g, cc, h1, h2, h3, h4, h5, h6, h7, h8⟩ := h
      exact ⟨_, cc, h1, h4.src h3, h5, h8, fun _ => ⟨g, cc, h1, h2, h3, h4, h5, h6, h7, h8⟩⟩
    · subst h1
      exact ⟨none, 0, h2, zero_at _, Nat.le_refl _, h3, fun h => absurd rfl h⟩
  obtain ⟨B, dd, rfl, hat, hdd, hb, hto⟩ := hread
  have HAT := Lib.hid hat
  have HTO := Lib.hid hto
  have HB2 : Hid (Below w.heap.size w w2) := Lib.hid (HB1.out.trans (hb.mono HB1.out.size))
  have HP2 := Lib.hid ((Keep.of_below (fun _ => False) hb).heap HP1.out (fun x => x))
  have HR2 := Lib.hid ((Keep.of_below (fun _ => False) hb).heap HR1.out (fun x => x))
  have HW12 : Hid (w.heap.size ≤ w1.heap.size ∧ p + 1 < w1.heap.size) := Lib.hid ⟨HB1.out.size, lt_heap HR1.out⟩
  clear hrd hat hto hb a0 a1 a2 a3 a4 a5 HP1 HR1
  obtain ⟨sW, sH, sn, sF, sX, sY, shi⟩ := s
  simp only [Scr.v] at HDB HDG HTO HN8 hdd ⊢
  go_upto_region 4 with fail
  obtain ⟨w3, hw3⟩ : ∃ w3, w3 = w2.alloc (.cells #[.int .i64 sW, .int .i64 sH, .slice B sn dd, .int .i64 sX, .int .i64 sY, .bool shi] 24) := ⟨_, rfl⟩
  obtain ⟨bx, hbx⟩ : ∃ bx, bx = w2.heap.size := ⟨_, rfl⟩
  have K3 : Keep (fun _ => False) w2 w3 := by rw [hw3]; exact (Keep.refl _ _).alloc _
  have HB3 : Hid (Below w.heap.size w w3) := Lib.hid (by rw [hw3]; exact HB2.out.alloc HB2.out.size _)
  have HP3 := Lib.hid (K3.heap HP2.out (fun x => x))
  have HR3 := Lib.hid (K3.heap HR2.out (fun x => x))
  have HX3 : Hid (w3.heap[bx]? = some (.cells #[.int .i64 sW, .int .i64 sH, .slice B sn dd, .int .i64 sX, .int .i64 sY, .bool shi] 24 (0, 0))) := Lib.hid (by rw [hw3, hbx]; exact heap_alloc_new _ _)
  have HAT3 := Lib.hid (HAT.out.keep K3)
  have HK3 := Lib.hid K3
  rw [← hw3, ← hbx]
  clear hw3 hbx K3 HB2 HP2 HR2 HAT
  have a0 := cell_at HP3.out 0; have a1 := cell_at HP3.out 1; have a2 := cell_at HP3.out 2; have a3 := cell_at HP3.out 3; have a4 := cell_at HP3.out 4; have a5 := cell_at HP3.out 5
  have b0 := cell_at HX3.out 0; have b1 := cell_at HX3.out 1; have b2 := cell_at HX3.out 2; have b3 := cell_at HX3.out 3; have b4 := cell_at HX3.out 4; have b5 := cell_at HX3.out 5
  simp at a0 a1 a2 a3 a4 a5 b0 b1 b2 b3 b4 b5
  cases vb
  · have HR : Hid (R = none) := Lib.hid (by rw [HAP.out]; simp)
    go_wp2_with fail
    refine (HDB.out w3 B dd HB3.out HAT3.out (by simp) (by have := HN8.out; omega)).mono ?_
    rintro e w4 ⟨rfl, hb⟩
    have HB4 : Hid (Below w.heap.size w w4) := Lib.hid (HB3.out.trans (hb.mono HB3.out.size))
    have HR4 := Lib.hid ((Keep.of_below (fun _ => False) hb).heap HR3.out (fun x => x))
    clear hb a0 a1 a2 a3 a4 a5 b0 b1 b2 b3 b4 b5
    have r0 := cell_at HR4.out 0; have r1 := cell_at HR4.out 1; have r2 := cell_at HR4.out 2; have r3 := cell_at HR4.out 3; have r4 := cell_at HR4.out 4; have r5 := cell_at HR4.out 5
    have fr := free_at HR4.out
    simp at r0 r1 r2 r3 r4 r5
    go_wp2_with fail
    refine bodyPost_ret (v := .tuple #[(zeroS.v none 0), .int .i64 3]) (by simp [results, Try.results18, go_sem, Scr.v, zeroS, r0, r1, r2, r3, r4, r5]) rfl ?_
    rw [HR.out]
    exact ⟨rfl, HB4.out.trans ((((((keep_set w4 (p + 1) 0 _).own 1 _).own 2 _).own 3 _).own 4 _).own 5 _ |>.below HB4.out.size (fun kk hk ee => by have := HPW.out; omega))⟩
  · go_wp2_with fail
    refine (HDG.out w3 B dd HB3.out HAT3.out (by simp) hdd).mono ?_
    rintro e w4 ⟨rfl, hb⟩
    have K4 := Keep.of_below (fun _ => False) hb
    have HK4 := Lib.hid (HK3.out.trans K4 (fun _ _ x => x))
    have HB4 : Hid (Below w.heap.size w w4) := Lib.hid (HB3.out.trans (hb.mono HB3.out.size))
    have HR4 := Lib.hid (K4.heap HR3.out (fun x => x))
    have HX4 := Lib.hid (K4.heap HX3.out (fun x => x))
    clear hb K4 a0 a1 a2 a3 a4 a5 b0 b1 b2 b3 b4 b5
    have r0 := cell_at HR4.out 0; have r1 := cell_at HR4.out 1; have r2 := cell_at HR4.out 2; have r3 := cell_at HR4.out 3; have r4 := cell_at HR4.out 4; have r5 := cell_at HR4.out 5
    have fr := free_at HR4.out
    have b0 := cell_at HX4.out 0; have b1 := cell_at HX4.out 1; have b2 := cell_at HX4.out 2; have b3 := cell_at HX4.out 3; have b4 := cell_at HX4.out 4; have b5 := cell_at HX4.out 5
    simp at r0 r1 r2 r3 r4 r5 b0 b1 b2 b3 b4 b5
    by_cases hld : LB = d
    · have HR : Hid (R = some ⟨sW, sH, sn, sF, sX, sY, shi⟩) := Lib.hid (by rw [HAP.out, if_pos ⟨by simp, hld⟩])
      subst hld
      have e1 : (LB.toList == LB.toList) = true := by simp
      go_wp2_with fail
      refine bodyPost_ret (v := .tuple #[(Scr.v ⟨sW, sH, sn, sF, sX, sY, shi⟩ B dd), .int .i64 0]) (by simp [results, Try.results18, go_sem, Scr.v, r0, r1, r2, r3, r4, r5]) rfl ?_
      rw [HR.out]
      have K := (((((keep_set w4 (p + 1) 0 (Value.int IntKind.i64 sW)).own 1 (Value.int IntKind.i64 sH)).own 2 (Value.slice B sn dd)).own 3 (Value.int IntKind.i64 sX)).own 4 (Value.int IntKind.i64 sY)).own 5 (Value.bool shi)
      obtain ⟨g, cc, h1, h2, h3, h4, h5, h6, h7, h8⟩ := HTO.out (HZ.out (by simp))
      have hne : g ≠ p + 1 := by have := HW12.out.2; omega
      have hw := HW12.out.1
      exact ⟨_, rfl, g, cc, h1, by omega, Nat.lt_of_lt_of_le (Nat.lt_of_lt_of_le h3 HK4.out.size) K.size, (h4.keep h3 HK4.out (fun x => x)).keep (Nat.lt_of_lt_of_le h3 HK4.out.size) K hne, h5, h6, (h7.keep HK4.out (fun x => x)).keep K hne, HB4.out.trans (K.below HB4.out.size (fun kk hk ee => by have := HPW.out; omega))⟩
    · have HR : Hid (R = none) := Lib.hid (by rw [HAP.out, if_neg (fun e => hld e.2)])
      have hl : LB.toList ≠ d.toList := fun e => hld (by rw [ByteArray.toList_eq, ByteArray.toList_eq] at e; exact ByteArray.ext (Array.ext' e))
      have e1 : (LB.toList == d.toList) = false := by simpa using hl
      clear hl
      go_wp2_with fail
      refine bodyPost_ret (v := .tuple #[(zeroS.v none 0), .int .i64 3]) (by simp [results, Try.results18, go_sem, Scr.v, zeroS, r0, r1, r2, r3, r4, r5]) rfl ?_
      rw [HR.out]
      exact ⟨rfl, HB4.out.trans ((((((keep_set w4 (p + 1) 0 _).own 1 _).own 2 _).own 3 _).own 4 _).own 5 _ |>.below HB4.out.size (fun kk hk ee => by have := HPW.out; omega))⟩

end Go.Proofs.Ytgomnigchfmfhaa
