/- nvt.Reader: kind, take. Own work. -/
import Derived.Test.YtopgejjencoelaaDo8
import Derived.Deep.QuietTactic
import Derived.BigQuiet
namespace Go.Proofs.Ytopgejjencoelaa
set_option linter.unusedVariables false
set_option linter.unusedSimpArgs false
open Go.RowKit

def kindI (bin : Bool) (x : Int) : Int :=
  if x = 0 ∧ bin = false then 1 else if x = 13 then 2 else if x = 240 then 3 else if x = 250 then 4 else if 251 ≤ x ∧ x ≤ 254 then 5 else if x = 255 then 6 else 0

theorem u8_eq (b n : UInt8) : ((b.toNat : Int) = (n.toNat : Int)) ↔ b = n := ⟨fun h => UInt8.toNat_inj.1 (by omega), fun h => by rw [h]⟩

theorem kindI_is (bin : Bool) (b : UInt8) : kindI bin (b.toNat : Int) = (kindL bin b : Nat) := by
  have e0 : ((b.toNat : Int) = 0) ↔ b = 0 := u8_eq b 0
  have e1 : ((b.toNat : Int) = 13) ↔ b = 13 := u8_eq b 13
  have e2 : ((b.toNat : Int) = 240) ↔ b = 240 := u8_eq b 240
  have e3 : ((b.toNat : Int) = 250) ↔ b = 250 := u8_eq b 250
  have e4 : ((b.toNat : Int) = 255) ↔ b = 255 := u8_eq b 255
  have e5 : ((251 : Int) ≤ (b.toNat : Int)) ↔ 251 ≤ b := by rw [UInt8.le_iff_toNat_le]; show _ ↔ 251 ≤ b.toNat; omega
  have e6 : ((b.toNat : Int) ≤ (254 : Int)) ↔ b ≤ 254 := by rw [UInt8.le_iff_toNat_le]; show _ ↔ b.toNat ≤ 254; omega
  unfold kindI kindL
  simp only [e0, e1, e2, e3, e4, e5, e6]
  repeat' split
  all_goals rfl

theorem kind_at (p : Nat) (bin : Bool) (x : Int) (w : World) (h0 : 0 ≤ x) (h1 : x ≤ 255) (hc : w.cell? ⟨p, 0, none⟩ = some (.bool bin)) :
    Calls Try.prog 46 #[.pointer (some ⟨p, 0, none⟩), .int .u8 x] w fun e w' => e = .returned (.int .u8 (kindI bin x)) ∧ w = w' := by
  by_cases e0 : x = 0
  · subst e0
    cases bin
    · go_enter Try.func46, Try.ntmps46
      go_wp2_with fail
      go_ret
      exact ⟨rfl, rfl⟩
    · go_enter Try.func46, Try.ntmps46
      go_wp2_with fail
      go_ret
      exact ⟨rfl, rfl⟩
  have n0 : (x == 0) = false := by simpa using e0
  by_cases e13 : x = 13
  · subst e13
    cases bin <;>
    · go_enter Try.func46, Try.ntmps46
      go_wp2_with fail
      go_ret
      exact ⟨rfl, rfl⟩
  have n13 : (x == 13) = false := by simpa using e13
  by_cases e240 : x = 240
  · subst e240
    cases bin <;>
    · go_enter Try.func46, Try.ntmps46
      go_wp2_with fail
      go_ret
      exact ⟨rfl, rfl⟩
  have n240 : (x == 240) = false := by simpa using e240
  by_cases e250 : x = 250
  · subst e250
    cases bin <;>
    · go_enter Try.func46, Try.ntmps46
      go_wp2_with fail
      go_ret
      exact ⟨rfl, rfl⟩
  have n250 : (x == 250) = false := by simpa using e250
  by_cases e255 : x = 255
  · subst e255
    cases bin <;>
    · go_enter Try.func46, Try.ntmps46
      go_wp2_with fail
      go_ret
      exact ⟨rfl, rfl⟩
  have n255 : (x == 255) = false := by simpa using e255
  by_cases hv : 251 ≤ x
  · have hv2 : x ≤ 254 := by omega
    have HK := Lib.hid (show kindI bin x = 5 by unfold kindI; rw [if_neg (fun z => e0 z.1), if_neg e13, if_neg e240, if_neg e250, if_pos ⟨hv, hv2⟩])
    rw [HK.out]
    clear e0 e13 e240 e250 e255
    go_enter Try.func46, Try.ntmps46
    go_wp2_with fail
    go_ret
    exact ⟨rfl, rfl⟩
  · have HK := Lib.hid (show kindI bin x = 0 by unfold kindI; rw [if_neg (fun z => e0 z.1), if_neg e13, if_neg e240, if_neg e250, if_neg (fun z => hv z.1), if_neg e255])
    rw [HK.out]
    clear e0 e13 e240 e250 e255
    go_enter Try.func46, Try.ntmps46
    go_wp2_with fail
    go_ret
    exact ⟨rfl, rfl⟩

theorem kind_any (p : Nat) (bin : Bool) (b : UInt8) (w : World) (hc : w.cell? ⟨p, 0, none⟩ = some (.bool bin)) :
    Calls Try.prog 46 #[.pointer (some ⟨p, 0, none⟩), .int .u8 (b.toNat : Int)] w fun e w' => e = .returned (.int .u8 ((kindL bin b : Nat) : Int)) ∧ w = w' := by
  rw [← kindI_is]
  exact kind_at p bin _ w (by omega) (by have := b.toNat_lt; omega) hc

/-- What the table says. -/
theorem RdIn.step {w : World} {p : Nat} {bin : Bool} {r : Rd} {A : Option Addr} {c : Nat} (h : RdIn w p bin true r A c) (k : Nat) (hk : k < 7) :
    w.cell? ⟨p, 4 + r.at' * 14 + k * 2, none⟩ = some (.int .u8 ((nextL r.at' k : Nat) : Int)) ∧ w.cell? ⟨p, 4 + r.at' * 14 + k * 2 + 1, none⟩ = some (.int .u8 ((actL r.at' k : Nat) : Int)) := by
  have hs := h.ok.1
  obtain ⟨v, a, e⟩ := h.tab (r.at' * 14 + k * 2) (by omega)
  obtain ⟨v2, a2, e2⟩ := h.tab (r.at' * 14 + k * 2 + 1) (by omega)
  rw [Nat.add_assoc, a.1, e rfl, show 4 + (r.at' * 14 + k * 2) + 1 = 4 + (r.at' * 14 + k * 2 + 1) from by omega, a2.1, e2 rfl]
  exact ⟨rfl, rfl⟩

theorem PairIn.quiet {w w' : World} {p q base : Nat} {bin made : Bool} {r : Rd} {a : An} {A : Option Addr} {c : Nat} {v : Value} {B : Option Addr} {d : Nat} (h : PairIn w p q base bin made r a A c v B d) (k : Keep (fun _ => False) w w') :
    PairIn w' p q base bin made r a A c v B d := ⟨h.1.keep k (fun _ _ x => x), h.2.1.keep k (fun _ _ x => x), h.2.2⟩
theorem PairIn.lto {w : World} {p q base : Nat} {bin made : Bool} {r : Rd} {a : An} {A : Option Addr} {c : Nat} {v : Value} {B : Option Addr} {d : Nat} (h : PairIn w p q base bin made r a A c v B d) {k : Nat} (hk : pairOwn p A q v B k) : k < w.heap.size :=
  hk.elim h.1.lto h.2.1.lto

set_option maxRecDepth 100000 in
set_option maxHeartbeats 3200000 in
theorem take_any (p q base : Nat) (bin : Bool) (r : Rd) (a : An) (A : Option Addr) (c : Nat) (v : Value) (B : Option Addr) (d : Nat) (b : UInt8) (w : World) (h : PairIn w p q base bin true r a A c v B d)
    (hl : a.bytes.length ≤ 1099511627776) (ht : a.told.length + 1 ≤ 1099511627776) (hb : base ≤ w.heap.size) :
    Calls Try.prog 37 #[.pointer (some ⟨p, 0, none⟩), .int .u8 (b.toNat : Int), .pointer (some ⟨q, 0, none⟩)] w fun e w' => e = .returned (.tuple #[]) ∧ PairTo p q base bin true A v B w (takeL bin (r, a) b).1 (takeL bin (r, a) b).2 w' := by
  obtain ⟨k, hk⟩ : ∃ k, k = kindL bin b := ⟨_, rfl⟩
  have hk7 : k < 7 := by rw [hk]; exact kindL_lt _ _
  have hs7 : r.at' < 7 := h.1.ok.1
  have HK := fun W hW => kind_any p bin b W hW
  rw [← hk] at HK
  have HKK := Lib.hid HK
  obtain ⟨s0, s1⟩ := h.1.step k hk7
  obtain ⟨st, hst⟩ : ∃ st, st = r.at' := ⟨_, rfl⟩
  have hst7 : st < 7 := by rw [hst]; exact hs7
  obtain ⟨nx, hnx⟩ : ∃ nx, nx = nextL r.at' k := ⟨_, rfl⟩
  obtain ⟨ac, hac⟩ : ∃ ac, ac = actL r.at' k := ⟨_, rfl⟩
  have hnx7 := next_lt hs7 hk7
  have hac9 := act_lt hs7 hk7
  have hgoal : takeL bin (r, a) b = ((doR ac b r).goes nx, doA ac b r a) := by rw [hnx, hac, hk]; rfl
  rw [hgoal]
  rw [← hnx] at s0 hnx7
  rw [← hac] at s1 hac9
  have c0 := h.1.c0.1
  have c1 := h.1.c1.1
  rw [← hst] at s0 s1 c1
  have hp : p < w.heap.size := h.1.lt
  have H := Lib.hid h
  have HB := Lib.hid hb
  have HL := Lib.hid hl
  have HT := Lib.hid ht
  have HN := Lib.hid hnx7
  have HA := Lib.hid hac9
  have hsi : (st : Int) < 7 := by omega
  have hki : (k : Int) < 7 := by omega
  clear h hl ht hb hgoal hst hnx hac hk HK hnx7 hac9 hs7 hst7 hk7
  go_enter Try.func37, Try.ntmps37
  go_wp2_with fail
  go_region_law (first | (go_simp; go_at_call 46; refine (HKK.out _ ?_).mono ?_; (first | exact c0 | exact (Cell.alloc (w := w) H.out.1.c0 _).1); rintro e w2 ⟨rfl, rfl⟩) | fail)
  all_goals
    clear s0 s1 c0 c1 hsi hki HKK
    have hkw : Keep (fun _ => False) w (w.alloc (.cells #[.int .u8 (nx : Int), .int .u8 (ac : Int)] 54)).drew := ((Keep.refl _ w).alloc _).drew
    have HW := Lib.hid (H.out.quiet hkw)
    have HKW := Lib.hid hkw
    clear hkw
    go_wp2_with fail
    refine (do_any ac HA.out b HW.out HL.out HT.out (by have := HB.out; simp; omega)).mono ?_
    rintro e w2 ⟨rfl, A1, c1, v1, B1, d1, h1, s1⟩
    have hfar : ¬ pairOwn p A q v B w.heap.size := fun x => by have := H.out.lto x; omega
    have g0 : w2.cell? ⟨w.heap.size, 0, none⟩ = some (.int .u8 (nx : Int)) := (s1.1.cell (p := ⟨w.heap.size, 0, none⟩) (by simp) hfar).trans ((cell_of_row _ _ 0 _ 54 (0, 0) (heap_alloc_new w _)).trans rfl)
    have e1 := h1.1.c1.1
    have f1 := h1.1.c1.2
    have HF := Lib.hid (PairTo.rd ((Step.of_keep HKW.out (fun _ x => x.elim)).trans s1) h1 (h1.1.goes HN.out) (h1.1.step_of (keep_set w2 p 102 _)))
    have hz : w.heap.size < w2.heap.size := by have := s1.1.size; simp at this; omega
    clear h1 s1 hfar hp
    go_wp2_with fail
    go_end0
    exact ⟨rfl, HF.out⟩

end Go.Proofs.Ytopgejjencoelaa
