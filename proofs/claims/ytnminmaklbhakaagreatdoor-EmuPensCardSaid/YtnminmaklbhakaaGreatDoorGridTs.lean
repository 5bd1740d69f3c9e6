/- pontoonbook's copyCells, LentCells, SameCells, StaysCells. Own work. utf.Text (of a seat without Readers). Own work. Law UtfHalf: runes, encoded and read. It speaks of no program. Own work. The document's Text of a rune. By program (rgn/XUtfRefT.py). Own work. cell.Show, and the document's. Own work. grid: Text; the document's Show of a row. Own work. -/
import Derived.Test.YtnminmaklbhakaaGreatDoorGrids
import Derived.Deep.QuietTactic
import Derived.BigQuiet
import Derived.Test.YtnminmaklbhakaaGreatDoorUtfs
import Derived.Laws.Cover4
import Derived.Deep.Cut
import Derived.Laws.MakeOwn
set_option linter.unusedVariables false
set_option linter.unusedSimpArgs false
namespace Go.Proofs.YtnminmaklbhakaaGreatDoor
set_option linter.unusedVariables false
set_option linter.unusedSimpArgs false
open Go.RowKit

theorem cell_row' : (Tryz.prog.info? 46).map (fun i => (i.zero, i.size, i.bytes)) = some (some (.agg #[.int .i32 0, .int .i64 0, .int .i64 0, .bool false, .bool false, .bool false]), 6, 32) := by kernel_rfl

theorem run_copy_srcz {P : Program} (w : World) (t ty e : TypeId) (i : TypeInfo) (z : Value) (size bytes : Nat) (ht : P.underlying t = some (.slice e)) (hi : P.info? e = some i) (hz : i.zero = some z)
    (hsize : i.size = size) (hby : i.bytes = bytes) (hzs : z.cells.size = size) (hs0 : 0 < size) (A : Option Addr) (m c : Nat) (us : List Value) (hs : Src w A (m * size) us) (h1 : ∀ u ∈ us, u.oneCell' = true)
    (h63 : m ≤ maxLen) (hbytes : m * bytes ≤ 140737488355328) :
    ∃ v' w', (Builtin.append_ #[t, t] ty #[.slice none 0 0, .slice A m c]).run P w = .ok v' w' ∧ w'.ownsRow w.heap.size e size v' m us ∧ Below w.heap.size w w' := by
  rcases Nat.eq_zero_or_pos m with h0 | h0
  · subst h0
    have hn : us = [] := List.eq_nil_of_length_eq_zero (by rw [hs.1, Nat.zero_mul])
    subst hn
    rcases A with _ | ad
    · refine ⟨.slice none 0 0, w, ?_, World.ownsRow_nil _ _ _ _, Below.refl _ _⟩
      simp [Builtin.append_, run_underlying ht, sizeOf, typeInfo, hi, Builtin.lenOf, Builtin.firstCells]
    · obtain ⟨v', w', hr, h2, h3, _⟩ := own_at (P := P) w w.heap.size t ty e i z size bytes ht hi hz hsize hby hzs hs0 (.slice none 0 0) 0 [] (World.ownsRow_nil _ _ _ _) ad 0 c [] (by simp) (fun j u hj => by simp at hj) (fun u hu => by simp at hu) (by unfold maxLen; omega) (by omega) (Nat.le_refl _)
      exact ⟨v', w', hr, by simpa using h2, h3.below (Nat.le_refl _) (fun k hk e => by simp [Value.ownBlock] at e)⟩
  · obtain ⟨b, off, rfl, hb, hc⟩ := hs.2 (Nat.mul_pos h0 hs0)
    obtain ⟨v', w', hr, h2, h3, _⟩ := own_at (P := P) w w.heap.size t ty e i z size bytes ht hi hz hsize hby hzs hs0 (.slice none 0 0) 0 [] (World.ownsRow_nil _ _ _ _) ⟨b, off, none⟩ m c us hs.1 (fun j u hj => by rw [add_mk]; exact hc j u hj) h1 (by omega) (by rw [Nat.zero_add]; exact hbytes) (Nat.le_refl _)
    exact ⟨v', w', hr, by simpa using h2, h3.below (Nat.le_refl _) (fun k hk e => by simp [Value.ownBlock] at e)⟩

def flatL (xs : List CellM) : List Value := xs.flatMap cellCs
theorem flatL_len (xs : List CellM) : (flatL xs).length = xs.length * 6 := flat6_len xs
theorem flatL_one (xs : List CellM) : ∀ u ∈ flatL xs, u.oneCell' = true := by
  intro u hu
  obtain ⟨c, _, hc⟩ := List.mem_flatMap.1 hu
  exact cellCs_one c u hc
theorem flatL_at : ∀ (xs : List CellM) (k i : Nat) (c : CellM) (v : Value), xs[k]? = some c → (cellCs c)[i]? = some v → (flatL xs)[k * 6 + i]? = some v := by
  intro xs
  induction xs with
  | nil => intro k i c v h; simp at h
  | cons x r ih =>
    intro k i c v h hv
    have hl : (cellCs x).length = 6 := rfl
    have hi := cellCs_lt hv
    rw [show flatL (x :: r) = cellCs x ++ flatL r from by simp [flatL]]
    cases k with
    | zero =>
      rw [List.getElem?_cons_zero] at h
      injection h with h
      subst h
      rw [List.getElem?_append_left (by omega), Nat.zero_mul, Nat.zero_add]
      exact hv
    | succ k =>
      rw [List.getElem?_cons_succ] at h
      rw [List.getElem?_append_right (by omega), show (k + 1) * 6 + i - (cellCs x).length = k * 6 + i from by omega]
      exact ih k i c v h hv

end Go.Proofs.YtnminmaklbhakaaGreatDoor
namespace Go.Proofs.YtnminmaklbhakaaGreatDoor
set_option linter.unusedVariables false
set_option linter.unusedSimpArgs false
open Go.RowKit

set_option maxHeartbeats 800000 in
theorem utf_text (A : Option Addr) (n c : Nat) (l : List Int) (w : World) (h : Src w A n (l.map (Value.int .i32))) :
    Calls Tryz.prog 63 #[.slice A n c] w fun e w' => e = .returned (.string (runesBytes l)) ∧ w' = w := by
  have hln : l.length = n := by have := h.1; rwa [List.length_map] at this
  have hcv : (convert 138 9 (.slice A n c)).run Tryz.prog w = .ok (.string (runesBytes l)) w := by
    rcases A with _ | ad
    · have hn : n = 0 := by
        rcases Nat.eq_zero_or_pos n with h0 | h0
        · exact h0
        · obtain ⟨b, off, e, _⟩ := h.2 h0; cases e
      have hl : l = [] := List.eq_nil_of_length_eq_zero (by omega)
      subst hl
      exact run_convert_runes_nil w 138 9 21 n c Tryz.underlying138 Tryz.underlying21 Tryz.underlying9
    · have := run_convert_runes (P := Tryz.prog) w 138 9 21 ad n c l (by omega) Tryz.underlying138 Tryz.underlying21 Tryz.underlying9 (fun j hj => by
        obtain ⟨b, off, e, _, hc⟩ := h.2 (by omega)
        injection e with e
        subst e
        rw [add_mk, List.getD_eq_getElem?_getD, List.getElem?_eq_getElem hj, Option.getD_some]
        exact hc j _ (by rw [List.getElem?_map, List.getElem?_eq_getElem hj]; rfl))
      rwa [List.take_of_length_le (by omega)] at this
  clear h hln
  go_enter Tryz.func63, Tryz.ntmps63
  go_wp2_with fail
  go_ret
  exact ⟨rfl, rfl⟩

end Go.Proofs.YtnminmaklbhakaaGreatDoor
namespace Go.Proofs.YtnminmaklbhakaaGreatDoor
set_option linter.unusedVariables false
set_option linter.unusedSimpArgs false

/-- The bytes of a rune. -/
def encN (c : Nat) : List Nat :=
  if c < 128 then [c]
  else if c < 2048 then [192 + c / 64, 128 + c % 64]
  else if c < 65536 then [224 + c / 4096, 128 + c / 64 % 64, 128 + c % 64]
  else [240 + c / 262144, 128 + c / 4096 % 64, 128 + c / 64 % 64, 128 + c % 64]

/-- What a number stands for as a rune. -/
def runeN (x : Int) : Nat := if x < 0 ∨ x > 1114111 ∨ (x ≥ 55296 ∧ x ≤ 57343) then 65533 else x.toNat

theorem runeN_le (x : Int) : runeN x ≤ 1114111 ∧ ¬ (55296 ≤ runeN x ∧ runeN x ≤ 57343) := by
  unfold runeN; split <;> omega

theorem natsOf_encode (x : Int) : natsOf (Utf8.encode x) = encN (runeN x) := by
  have hc : (if Utf8.valid x then x.toNat else Utf8.runeError) = runeN x := by
    unfold runeN Utf8.valid Utf8.runeError
    by_cases h : x < 0 ∨ x > 1114111 ∨ (x ≥ 55296 ∧ x ≤ 57343)
    · rw [if_pos h, if_neg (by simp; omega)]
    · rw [if_neg h, if_pos (by simp; omega)]
  obtain ⟨h1, -⟩ := runeN_le x
  unfold Utf8.encode
  simp only [hc]
  obtain ⟨c, hcc⟩ : ∃ c, runeN x = c := ⟨_, rfl⟩
  rw [hcc] at h1 ⊢
  clear hc hcc
  unfold encN
  by_cases c1 : c < 128
  · rw [if_pos c1, if_pos (show c < 0x80 from c1)]
    simp only [natsOf, List.map_cons, List.map_nil]
    rw [toNat_ofNat (by omega)]
  rw [if_neg c1, if_neg (show ¬ c < 0x80 from c1)]
  by_cases c2 : c < 2048
  · rw [if_pos c2, if_pos (show c < 0x800 from c2)]
    simp only [natsOf, List.map_cons, List.map_nil]
    rw [toNat_ofNat (by omega), toNat_ofNat (by omega)]
  rw [if_neg c2, if_neg (show ¬ c < 0x800 from c2)]
  by_cases c3 : c < 65536
  · rw [if_pos c3, if_pos (show c < 0x10000 from c3)]
    simp only [natsOf, List.map_cons, List.map_nil]
    rw [toNat_ofNat (by omega), toNat_ofNat (by omega), toNat_ofNat (by omega)]
  · rw [if_neg c3, if_neg (show ¬ c < 0x10000 from c3)]
    simp only [natsOf, List.map_cons, List.map_nil]
    rw [toNat_ofNat (by omega), toNat_ofNat (by omega), toNat_ofNat (by omega), toNat_ofNat (by omega)]

theorem byteU_z (b : Nat) : byteU .z b = fresh b := by simp [byteU, badsU, St.z]

/-- A rune that is cut off is half read; whole, it is itself. -/
theorem encN_feed (c : Nat) (h1 : c ≤ 1114111) (h2 : ¬ (55296 ≤ c ∧ c ≤ 57343)) : feedU .z (encN c) = (.z, [c]) ∧
    ∀ k, 0 < k → k < (encN c).length → (feedU .z ((encN c).take k)).2 = [] ∧ 0 < (feedU .z ((encN c).take k)).1.half ∧ feedU (feedU .z ((encN c).take k)).1 ((encN c).drop k) = (.z, [c]) := by
  have key : ∀ (l : List Nat) (n : Nat), l.length = n → feedU .z l = (.z, [c]) → (∀ k, 0 < k → k < n → (feedU .z (l.take k)).2 = [] ∧ 0 < (feedU .z (l.take k)).1.half) → feedU .z l = (.z, [c]) ∧
      ∀ k, 0 < k → k < l.length → (feedU .z (l.take k)).2 = [] ∧ 0 < (feedU .z (l.take k)).1.half ∧ feedU (feedU .z (l.take k)).1 (l.drop k) = (.z, [c]) := by
    intro l n hn hf hk
    refine ⟨hf, fun k k0 kn => ?_⟩
    obtain ⟨e1, e2⟩ := hk k k0 (by omega)
    refine ⟨e1, e2, ?_⟩
    have := feedU_add .z (l.take k) (l.drop k)
    rw [List.take_append_drop, hf, e1, List.nil_append] at this
    exact this.symm
  unfold encN
  by_cases c1 : c < 128
  · rw [if_pos c1]
    exact key _ 1 rfl (by simp [feedU, byteU_z, fresh, c1]) (fun k h h' => by omega)
  rw [if_neg c1]
  by_cases c2 : c < 2048
  · rw [if_pos c2]
    obtain ⟨a, ha⟩ : ∃ a, 192 + c / 64 = a := ⟨_, rfl⟩
    obtain ⟨b, hb⟩ : ∃ b, 128 + c % 64 = b := ⟨_, rfl⟩
    rw [ha, hb]
    have e1 : fresh a = (⟨a % 32, 1, 1, secLo a, secHi a⟩, []) := by
      unfold fresh; rw [if_neg (by omega), if_pos (by omega)]
    have g1 := secLo_ge a
    have e2 : secLo a = 128 := by unfold secLo; rw [if_neg (by omega), if_neg (by omega)]
    have e3 : secHi a = 191 := by unfold secHi; rw [if_neg (by omega), if_neg (by omega)]
    rw [e2, e3] at e1
    have e4 : byteU ⟨a % 32, 1, 1, 128, 191⟩ b = (.z, [c]) := by
      rw [byteU_on (by simp) (by show 128 ≤ b; omega) (by show b ≤ 191; omega)]
      unfold onward
      rw [if_pos rfl]
      simp only [Prod.mk.injEq, List.cons.injEq, and_true, true_and]
      omega
    refine key _ 2 rfl (by simp [feedU, byteU_z, e1, e4]) (fun k h h' => ?_)
    obtain rfl : k = 1 := by omega
    simp [feedU, byteU_z, e1]
  rw [if_neg c2]
  by_cases c3 : c < 65536
  · rw [if_pos c3]
    obtain ⟨a, ha⟩ : ∃ a, 224 + c / 4096 = a := ⟨_, rfl⟩
    obtain ⟨b, hb⟩ : ∃ b, 128 + c / 64 % 64 = b := ⟨_, rfl⟩
    obtain ⟨d, hd⟩ : ∃ d, 128 + c % 64 = d := ⟨_, rfl⟩
    rw [ha, hb, hd]
    have e1 : fresh a = (⟨a % 16, 1, 2, secLo a, secHi a⟩, []) := by
      unfold fresh; rw [if_neg (by omega), if_neg (by omega), if_pos (by omega)]
    have g1 : secLo a ≤ b := by unfold secLo; split <;> (try split) <;> omega
    have g2 : b ≤ secHi a := by unfold secHi; split <;> (try split) <;> omega
    have e4 : byteU ⟨a % 16, 1, 2, secLo a, secHi a⟩ b = (⟨a % 16 * 64 + b % 64, 2, 1, 128, 191⟩, []) := by
      rw [byteU_on (by simp) g1 g2]
      unfold onward
      exact (if_neg (by simp)).trans rfl
    have e5 : byteU ⟨a % 16 * 64 + b % 64, 2, 1, 128, 191⟩ d = (.z, [c]) := by
      rw [byteU_on (by simp) (by show 128 ≤ d; omega) (by show d ≤ 191; omega)]
      unfold onward
      rw [if_pos rfl]
      simp only [Prod.mk.injEq, List.cons.injEq, and_true, true_and]
      omega
    refine key _ 3 rfl (by simp [feedU, byteU_z, e1, e4, e5]) (fun k h h' => ?_)
    rcases (show k = 1 ∨ k = 2 by omega) with rfl | rfl
    · simp [feedU, byteU_z, e1]
    · simp [feedU, byteU_z, e1, e4]
  · rw [if_neg c3]
    obtain ⟨a, ha⟩ : ∃ a, 240 + c / 262144 = a := ⟨_, rfl⟩
    obtain ⟨b, hb⟩ : ∃ b, 128 + c / 4096 % 64 = b := ⟨_, rfl⟩
    obtain ⟨d, hd⟩ : ∃ d, 128 + c / 64 % 64 = d := ⟨_, rfl⟩
    obtain ⟨f, hf⟩ : ∃ f, 128 + c % 64 = f := ⟨_, rfl⟩
    rw [ha, hb, hd, hf]
    have e1 : fresh a = (⟨a % 8, 1, 3, secLo a, secHi a⟩, []) := by
      unfold fresh; rw [if_neg (by omega), if_neg (by omega), if_neg (by omega), if_pos (by omega)]
    have g1 : secLo a ≤ b := by unfold secLo; split <;> (try split) <;> omega
    have g2 : b ≤ secHi a := by unfold secHi; split <;> (try split) <;> omega
    have e4 : byteU ⟨a % 8, 1, 3, secLo a, secHi a⟩ b = (⟨a % 8 * 64 + b % 64, 2, 2, 128, 191⟩, []) := by
      rw [byteU_on (by simp) g1 g2]
      unfold onward
      exact (if_neg (by simp)).trans rfl
    have e5 : byteU ⟨a % 8 * 64 + b % 64, 2, 2, 128, 191⟩ d = (⟨(a % 8 * 64 + b % 64) * 64 + d % 64, 3, 1, 128, 191⟩, []) := by
      rw [byteU_on (by simp) (by show 128 ≤ d; omega) (by show d ≤ 191; omega)]
      unfold onward
      exact (if_neg (by simp)).trans rfl
    have e6 : byteU ⟨(a % 8 * 64 + b % 64) * 64 + d % 64, 3, 1, 128, 191⟩ f = (.z, [c]) := by
      rw [byteU_on (by simp) (by show 128 ≤ f; omega) (by show f ≤ 191; omega)]
      unfold onward
      rw [if_pos rfl]
      simp only [Prod.mk.injEq, List.cons.injEq, and_true, true_and]
      omega
    refine key _ 4 rfl (by simp [feedU, byteU_z, e1, e4, e5, e6]) (fun k h h' => ?_)
    rcases (show k = 1 ∨ k = 2 ∨ k = 3 by omega) with rfl | rfl | rfl
    · simp [feedU, byteU_z, e1]
    · simp [feedU, byteU_z, e1, e4]
    · simp [feedU, byteU_z, e1, e4, e5]

theorem encN_len (c : Nat) : (encN c).length = if c < 128 then 1 else if c < 2048 then 2 else if c < 65536 then 3 else 4 := by
  unfold encN
  split
  · rfl
  split
  · rfl
  split <;> rfl

end Go.Proofs.YtnminmaklbhakaaGreatDoor
namespace Go.Proofs.YtnminmaklbhakaaGreatDoor
set_option linter.unusedVariables false
set_option linter.unusedSimpArgs false
open Go.RowKit

theorem byteCells_nats (s : ByteArray) : Lib.byteCells s.data.toList = (natsOf s).map fun n : Nat => Value.int .u8 (n : Int) := by simp [Lib.byteCells, natsOf]

/-- string(b) of bytes that were just laid. -/
theorem bytes_string {W : World} {P : Program} (src dst e : TypeId) (s : ByteArray) (cs : Array Value) (n : Nat) (hcs : cs.toList = (natsOf s).map fun n : Nat => Value.int .u8 (n : Int)) (hn : cs.size = n) (hm : n ≤ maxLen) (hs : P.underlying src = some (.slice e)) (he : P.underlying e = some (.int .u8)) (hd : P.underlying dst = some .string) :
    (convert src dst (.slice (some ⟨W.heap.size, 0, none⟩) n n)).run P (W.alloc (.cells cs e)) = .ok (.string s) (W.alloc (.cells cs e)) := by
  have hrow := Row.of_block (heap_alloc_new W (.cells cs e)) (.inl (Nat.le_refl _)) (n := n) (by omega) (by omega)
  have h2 : cs.toList.take n = Lib.byteCells s.data.toList := by
    rw [List.take_of_length_le (by simp; omega), byteCells_nats]; exact hcs
  rw [h2] at hrow
  have hcap : cs.size = n := hn
  rw [hcap] at hrow
  have := run_row_string src dst e hrow hs he hd
  rwa [mk_data] at this

theorem encode_bad (x : Int) (h : x < 0 ∨ x > 1114111 ∨ (x ≥ 55296 ∧ x ≤ 57343)) : Utf8.encode x = Utf8.encode 65533 := by
  have hv : Utf8.valid x = false := by unfold Utf8.valid; simp; omega
  unfold Utf8.encode
  rw [hv]
  rfl

theorem enc_cells1 (x : Int) (h1 : 0 ≤ x) (h2 : x ≤ 127) : (#[.int .u8 (x)] : Array Value).toList = (natsOf (Utf8.encode x)).map fun n : Nat => Value.int .u8 (n : Int) := by
  obtain ⟨c, rfl⟩ : ∃ c : Nat, x = (c : Int) := ⟨x.toNat, by omega⟩
  have hr : runeN (c : Int) = c := by
    unfold runeN
    rw [if_neg (by omega)]
    exact Int.toNat_natCast c
  rw [natsOf_encode, hr]
  unfold encN
  rw [if_pos (by omega)]
  simp

theorem enc_cells2 (x : Int) (h1 : 128 ≤ x) (h2 : x ≤ 2047) : (#[.int .u8 (192 + x / 64), .int .u8 (128 + x % 64)] : Array Value).toList = (natsOf (Utf8.encode x)).map fun n : Nat => Value.int .u8 (n : Int) := by
  obtain ⟨c, rfl⟩ : ∃ c : Nat, x = (c : Int) := ⟨x.toNat, by omega⟩
  have hr : runeN (c : Int) = c := by
    unfold runeN
    rw [if_neg (by omega)]
    exact Int.toNat_natCast c
  rw [natsOf_encode, hr]
  unfold encN
  rw [if_neg (by omega)]
  rw [if_pos (by omega)]
  simp

theorem enc_cells3 (x : Int) (h1 : 2048 ≤ x) (h2 : x ≤ 65535) (h3 : ¬ (55296 ≤ x ∧ x ≤ 57343)) : (#[.int .u8 (224 + x / 4096), .int .u8 (128 + x / 64 % 64), .int .u8 (128 + x % 64)] : Array Value).toList = (natsOf (Utf8.encode x)).map fun n : Nat => Value.int .u8 (n : Int) := by
  obtain ⟨c, rfl⟩ : ∃ c : Nat, x = (c : Int) := ⟨x.toNat, by omega⟩
  have hr : runeN (c : Int) = c := by
    unfold runeN
    rw [if_neg (by omega)]
    exact Int.toNat_natCast c
  rw [natsOf_encode, hr]
  unfold encN
  rw [if_neg (by omega)]
  rw [if_neg (by omega)]
  rw [if_pos (by omega)]
  simp

theorem enc_cells4 (x : Int) (h1 : 65536 ≤ x) (h2 : x ≤ 1114111) : (#[.int .u8 (240 + x / 262144), .int .u8 (128 + x / 4096 % 64), .int .u8 (128 + x / 64 % 64), .int .u8 (128 + x % 64)] : Array Value).toList = (natsOf (Utf8.encode x)).map fun n : Nat => Value.int .u8 (n : Int) := by
  obtain ⟨c, rfl⟩ : ∃ c : Nat, x = (c : Int) := ⟨x.toNat, by omega⟩
  have hr : runeN (c : Int) = c := by
    unfold runeN
    rw [if_neg (by omega)]
    exact Int.toNat_natCast c
  rw [natsOf_encode, hr]
  unfold encN
  rw [if_neg (by omega)]
  rw [if_neg (by omega)]
  rw [if_neg (by omega)]
  simp

end Go.Proofs.YtnminmaklbhakaaGreatDoor
namespace Go.Proofs.YtnminmaklbhakaaGreatDoor
set_option linter.unusedVariables false
set_option linter.unusedSimpArgs false
open Go.RowKit

/-- The text of cells. -/
def showL (xs : List CellM) : ByteArray := runesBytes (xs.map (·.r))
theorem showL_snoc (xs : List CellM) (c : CellM) : showL (xs ++ [c]) = showL xs ++ Utf8.encode c.r := by
  unfold showL runesBytes
  rw [List.map_append, List.foldl_append]
  rfl

theorem showL_size (xs : List CellM) (k : Nat) : (showL (xs.take k)).size ≤ 4 * k := by
  induction k with
  | zero => rw [List.take_zero]; exact Nat.le_refl _
  | succ k ih =>
    rcases Nat.lt_or_ge k xs.length with e | e
    · rw [take_next (List.getElem?_eq_getElem e), showL_snoc, ByteArray.size_append]
      have := encode_size_le (xs[k]).r
      omega
    · rw [List.take_of_length_le (by omega), ← List.take_of_length_le (l := xs) (i := k) (by omega)]
      omega

theorem flatL_cell {w : World} {A : Option Addr} {n : Nat} {xs : List CellM} (h : Src w A (n * 6) (flatL xs)) (hl : xs.length = n) {k : Nat} {c : CellM} (hk : xs[k]? = some c) :
    ∃ b off, A = some ⟨b, off, none⟩ ∧ b < w.heap.size ∧ ∀ i v, (cellCs c)[i]? = some v → w.cell? ⟨b, off + k * 6 + i, none⟩ = some v := by
  have hkl : k < xs.length := by
    rcases Nat.lt_or_ge k xs.length with e | e
    · exact e
    · rw [List.getElem?_eq_none e] at hk; cases hk
  obtain ⟨b, off, e, hb, hc⟩ := h.2 (by omega)
  exact ⟨b, off, e, hb, fun i v hv => by rw [Nat.add_assoc]; exact hc _ v (flatL_at xs k i c v hk hv)⟩

set_option maxRecDepth 100000 in
set_option maxHeartbeats 1600000 in
theorem cell_show (A : Option Addr) (n c : Nat) (xs : List CellM) (w : World) (h : Src w A (n * 6) (flatL xs)) (hn : n ≤ 1000000) :
    Calls Tryz.prog 45 #[.slice A n c] w fun e w' => e = .returned (.string (showL xs)) ∧ Below w.heap.size w w' := by
  obtain ⟨i0, hi0, hz0, hz1, hz2⟩ := info_parts rune_info
  have hl : xs.length = n := by have := h.1; rw [flatL_len] at this; omega
  have hni : (n : Int) ≤ 1000000 := by omega
  have hmk : (Instr.makeSlice 138 (.int .i64 0) (.int .i64 (n : Int))).run Tryz.prog w = .ok (.slice (some ⟨w.heap.size, 0, none⟩) 0 n) (w.alloc (.cells (madeCells (Value.int .i32 0).cells (n * i0.size)) 21)) := by
    have h := run_make (P := Tryz.prog) w 138 21 i0 _ Tryz.underlying138 hi0 hz0 .i64 .i64 0 (n : Int) (by omega) (by omega) (by rw [hz2]; omega) (by omega)
    simpa using h
  obtain ⟨w2, hw2⟩ : ∃ w2, w2 = w.alloc (.cells (madeCells (Value.int .i32 0).cells (n * i0.size)) 21) := ⟨_, rfl⟩
  rw [← hw2] at hmk
  obtain ⟨g, hg⟩ : ∃ g, g = w.heap.size := ⟨_, rfl⟩
  have HO : Hid (w2.ownsRow g 21 1 (.slice (some ⟨g, 0, none⟩) 0 n) 0 (((xs.take 0).map (·.r)).map (Value.int .i32))) := Lib.hid (by
    refine ⟨by simp, .inr ⟨g, n, _, rfl, Nat.le_refl _, by rw [hw2, hg]; exact heap_alloc_new w _, Nat.zero_le _, by unfold maxLen; omega, ?_, by simp⟩⟩
    rw [size_madeCells, hz1])
  have HB : Hid (Below g w w2) := Lib.hid (by rw [hw2, hg]; exact (Below.refl _ w).alloc (Nat.le_refl _) _)
  have HG := Lib.hid hg
  have H := Lib.hid h
  have HL := Lib.hid hl
  rw [← hg] at hmk
  clear h hl hw2
  go_enter Tryz.func45, Tryz.ntmps45
  go_wp2_with fail
  try rw [← hg]
  clear hmk hg
  go_loopw [3, 11] (fun v i wr => ∃ k : Nat, i = .int .i64 k ∧ k ≤ n ∧ Hid (wr.ownsRow g 21 1 v k (((xs.take k).map (·.r)).map (Value.int .i32))) ∧ Hid (Below g w wr)) (fun _ i _ => n - (intOf i).toNat)
  case atStart => exact ⟨0, rfl, Nat.zero_le _, HO, HB⟩
  case round =>
    obtain ⟨k, rfl, hk, HO2, HB2⟩ := hrel
    clear HO HB
    by_cases hlt : k < n
    · obtain ⟨x, hx⟩ : ∃ x, xs[k]? = some x := ⟨xs[k]'(by rw [HL.out]; exact hlt), List.getElem?_eq_getElem _⟩
      obtain ⟨b, off, rfl, hb, hcc⟩ := flatL_cell H.out HL.out hx
      have hbg : b < g := by rw [HG.out]; exact hb
      have cc : ∀ i v, (cellCs x)[i]? = some v → wr.cell? ⟨b, off + k * 6 + i, none⟩ = some v := fun i v hv => (HB2.out.cell (p := ⟨b, off + k * 6 + i, none⟩) hbg).trans (hcc i v hv)
      have x0 := cc 0 _ rfl
      have x1 := cc 1 _ rfl
      have x2 := cc 2 _ rfl
      have x3 := cc 3 _ rfl
      have x4 := cc 4 _ rfl
      have x5 := cc 5 _ rfl
      rw [Nat.add_zero] at x0
      have hki : ((k : Int) < (n : Int)) := by omega
      have hk0 : (0 : Int) ≤ (k : Int) := by omega
      have hgr : g ≤ wr.heap.size := by have := HB2.out.size; have := HG.out; omega
      have htk : Hid (((xs.take (k + 1)).map (·.r)).map (Value.int .i32) = ((xs.take k).map (·.r)).map (Value.int .i32) ++ [.int .i32 x.r]) := Lib.hid (by rw [take_next hx]; simp)
      obtain ⟨L, hL⟩ : ∃ L, ((xs.take k).map (·.r)).map (Value.int .i32) = L := ⟨_, rfl⟩
      rw [hL] at htk HO2
      clear hx hcc cc hL
      go_wp2_with (at_builtin; refine wpList_own_at _ rfl (.tmp 15) (.tmp 18) 138 rfl g 21 i0 (.int .i32 0) 1 4 Tryz.underlying138 hi0 hz0 hz1 hz2 rfl (by decide) _ k L rfl (own_keep HO2.out (((Keep.refl (fun _ => False) wr).alloc _).alloc _) (fun _ _ x => x)) ⟨wr.heap.size + 1, 0, none⟩ 1 1 [.int .i32 x.r] rfl rfl ?c1 (by intro u hu; simp at hu; subst hu; rfl) ?c3 ?c4 ?c5 ?_)
      case c1 =>
        intro j u hu
        have := cells_new (wr.alloc (.cells (#[.int .i32 x.r, .int .i64 x.a.fg, .int .i64 x.a.bg, .bool x.a.b, .bool x.a.u, .bool x.a.i] : Array Value) 46)) [.int .i32 x.r] 21 _ rfl j u hu
        simpa using this
      case c3 => unfold maxLen; omega
      case c4 => omega
      case c5 => simp; omega
      intro v' w3 hown hgrow _
      have HO3 : Hid (w3.ownsRow g 21 1 v' (k + 1) (((xs.take (k + 1)).map (·.r)).map (Value.int .i32))) := Lib.hid (by rw [htk.out]; exact hown)
      have HB3 : Hid (Below g w w3) := Lib.hid (((HB2.out.alloc hgr _).alloc (by simp; omega) _).trans (hgrow.below (by simp; omega) (fun q hq e => by have := (HO2.out.lt q e).1; omega)))
      clear hown hgrow HO2 HB2 htk
      go_wp2_with fail
      go_roundw
      case rel => exact ⟨k + 1, by go_num, by omega, HO3, HB3⟩
      case measure => simp [intOf]; omega
    · have hkn : k = n := by omega
      subst hkn
      obtain ⟨A3, c3, rfl, -⟩ := own_form HO2.out
      have HS : Hid (Src wr A3 k ((xs.map (·.r)).map (Value.int .i32))) := Lib.hid (by
        have := (Buf.of_own HO2.out).src
        rwa [List.take_of_length_le (by rw [HL.out]; exact Nat.le_refl _)] at this)
      have HT := Lib.hid (utf_text A3 k c3 _ wr HS.out)
      clear HO2 HS
      go_wp2_with fail
      refine HT.out.mono ?_
      rintro e w4 ⟨rfl, rfl⟩
      go_wp2_with fail
      go_ret
      have hb := HB2.out
      rw [HG.out] at hb
      exact ⟨rfl, hb⟩

end Go.Proofs.YtnminmaklbhakaaGreatDoor
namespace Go.Proofs.YtnminmaklbhakaaGreatDoor
set_option linter.unusedVariables false
set_option linter.unusedSimpArgs false
open Go.RowKit

/-- A row of a grid, as a list; what it shows. -/
def rowL (W : Nat) (f : Nat → CellM) : List CellM := (List.range W).map f
theorem flatF_rowL (W : Nat) (f : Nat → CellM) : flatF f W = flatL (rowL W f) := by
  unfold flatF flatL rowL
  rw [List.flatMap_map]
theorem rowL_congr {W : Nat} {f g : Nat → CellM} (h : ∀ k, k < W → f k = g k) : rowL W f = rowL W g := List.map_congr_left (fun k hk => h k (List.mem_range.1 hk))
/-- The texts of n rows. -/
def rowsT (W : Nat) (f : Nat → CellM) (n : Nat) : List ByteArray := (List.range n).map fun i => showL (rowL W (fun x => f (i * W + x)))
theorem rowsT_succ (W : Nat) (f : Nat → CellM) (n : Nat) : rowsT W f (n + 1) = rowsT W f n ++ [showL (rowL W (fun x => f (n * W + x)))] := by simp [rowsT, List.range_succ]
theorem rowsT_len (W : Nat) (f : Nat → CellM) (n : Nat) : (rowsT W f n).length = n := by simp [rowsT]
theorem rowsT_at (W : Nat) (f : Nat → CellM) (n i : Nat) (hi : i < n) : (rowsT W f n)[i]? = some (showL (rowL W (fun x => f (i * W + x)))) := by simp [rowsT, hi]

set_option maxRecDepth 100000 in
set_option maxHeartbeats 1600000 in
theorem grid_text (w : World) (p g c W H n : Nat) (f : Nat → CellM) (h : GridAt w p g c W H n f) :
    Calls Tryz.prog 32 #[.pointer (some ⟨p, 0, none⟩)] w fun e w' => ∃ v, e = .returned v ∧ w'.ownsRow w.heap.size 9 1 v H ((rowsT W f H).map Value.string) ∧ Below w.heap.size w w' := by
  obtain ⟨i0, hi0, hz0, hz1, hz2⟩ := info_parts string_info
  have HG := Lib.hid h
  have hH := Lib.hid (grid_H w p g c W H n f h)
  have hww := h.hw
  have hhh := h.hh
  have hn := h.n800
  have hH20 : (H : Int) ≤ 20 := by omega
  have HR : Hid (∀ V, Below w.heap.size w V → ∀ i : Nat, i < H → Calls Tryz.prog 35 #[.pointer (some ⟨p, 0, none⟩), .int .i64 0, .int .i64 i] V (Tells V g c (i * W) W)) := Lib.hid (fun V k i hi => by
    have := rest_in V p g c W H n f 0 i (h.keep (Keep.of_below (fun _ => False) k) (fun y => y) (fun y => y)) (by omega) hi
    simpa using this)
  have HS : Hid (∀ i, i < H → Lies w g (i * W * 6) W (fun x => f (i * W + x))) := Lib.hid (fun i hi => by
    have h1 := Nat.mul_le_mul_right W (Nat.succ_le_of_lt hi)
    rw [Nat.succ_mul, Nat.mul_comm H W, ← h.hn] at h1
    have := h.l.sub (i * W) W h1
    rwa [Nat.zero_add] at this)
  have hgl := h.hg
  have hW0 : Hid (0 < W ∧ W ≤ 40) := Lib.hid (by omega)
  clear h hww hhh hn
  go_enter Tryz.func32, Tryz.ntmps32
  go_wp2_with fail
  refine hH.out.mono ?_
  rintro e w1 ⟨rfl, rfl⟩
  go_wp2_with fail
  go_loopw [3, 4, 7] (fun v _ i wr => ∃ k : Nat, i = .int .i64 k ∧ k ≤ H ∧ Hid (wr.ownsRow w1.heap.size 9 1 v k ((rowsT W f k).map Value.string)) ∧ Hid (Below w1.heap.size w1 wr)) (fun _ _ i _ => H - (intOf i).toNat)
  case atStart => exact ⟨0, rfl, Nat.zero_le _, Lib.hid ⟨by simp [rowsT], .inl ⟨rfl, rfl⟩⟩, Lib.hid (Below.refl _ _)⟩
  case round =>
    obtain ⟨k, rfl, hk, HO, HB⟩ := hrel
    by_cases hlt : k < H
    · have hki : (k : Int) < (H : Int) := by omega
      have hk0 : (0 : Int) ≤ (k : Int) := by omega
      have HRk := Lib.hid (HR.out wr HB.out k hlt)
      go_wp2_with fail
      refine HRk.out.mono ?_
      rintro e w2 ⟨⟨q, rfl⟩, ⟨hz, rfl⟩ | ⟨hz, rfl⟩⟩
      · exact absurd hz (by have := hW0.out; omega)
      clear hz
      have HSH : Hid (Calls Tryz.prog 45 #[.slice (some ⟨g, k * W * 6, none⟩) W (c - k * W)] (wr.drewN q) fun e w' => e = .returned (.string (showL (rowL W (fun x => f (k * W + x))))) ∧ Below (wr.drewN q).heap.size (wr.drewN q) w') := Lib.hid (by
        have l := ((HS.out k hlt).keep hgl (Keep.of_below (fun _ => False) HB.out) (fun y => y)).keep (w' := wr.drewN q) (by have := HB.out.size; omega) ((Keep.refl (fun _ => False) wr).drewN q) (fun y => y)
        have s := l.src (by have := HB.out.size; simp; omega)
        rw [flatF_rowL] at s
        exact cell_show _ W _ _ _ s (by have := hW0.out; omega))
      go_wp2_with fail
      refine HSH.out.mono ?_
      rintro e w3 ⟨rfl, hb3⟩
      obtain ⟨T, hT⟩ : ∃ T, T = showL (rowL W (fun x => f (k * W + x))) := ⟨_, rfl⟩
      have HT := Lib.hid hT
      rw [← hT]
      have HB3 : Hid (Below w1.heap.size w1 w3) := Lib.hid ((Below.drewN' HB.out q).trans (hb3.mono (Below.drewN' HB.out q).size))
      have HK3 : Hid (Keep (fun _ => False) wr w3) := Lib.hid (((Keep.refl (fun _ => False) wr).drewN q).trans (Keep.of_below _ hb3) (fun _ _ y => y))
      clear hb3 hT HSH HRk
      go_wp2_with (at_builtin; refine wpList_own_at _ rfl (.tmp 10) (.tmp 15) 53 rfl w1.heap.size 9 i0 (.string .empty) 1 16 Tryz.underlying53 hi0 hz0 hz1 hz2 rfl (by decide) _ k ((rowsT W f k).map Value.string) rfl (own_keep HO.out (HK3.out.alloc _) (fun _ _ y => y)) ⟨w3.heap.size, 0, none⟩ 1 1 [.string T] rfl rfl (cells_new w3 [.string T] 9 w3.heap.size rfl) (by simp [Value.oneCell']) ?c3 ?c4 ?c5 ?_)
      case c3 => unfold maxLen; omega
      case c4 => omega
      case c5 => have := HB3.out.size; simp; omega
      intro v1 w4 hown hkk hat
      have HO1 : Hid (w4.ownsRow w1.heap.size 9 1 v1 (k + 1) ((rowsT W f (k + 1)).map Value.string)) := Lib.hid (by
        rw [rowsT_succ, List.map_append, ← HT.out]
        exact hown)
      have HB4 : Hid (Below w1.heap.size w1 w4) := Lib.hid ((HB3.out.alloc HB3.out.size _).trans (hkk.below (by have := HB3.out.size; simp; omega) (fun i hi e => by have := (HO.out.lt i e).1; omega)))
      clear hown hkk hat
      go_wp2_with fail
      go_roundw
      case rel => exact ⟨k + 1, by go_num, by omega, HO1, HB4⟩
      case measure => simp [intOf]; omega
    · have hkH : k = H := by omega
      subst hkH
      go_wp2_with fail
      go_ret
      exact ⟨_, rfl, HO.out, HB.out⟩

end Go.Proofs.YtnminmaklbhakaaGreatDoor

