/- SHA-256 and its tags, on lists of bytes and words of 32 bits. Speaks of no program. Own work. The program's words, and those of the lists. Speaks of no program. Own work. Words that are turned: the contracts. Own work. What is hashed, as it lies in memory. Own work. Tables of words: lists, and rows in memory. Own work. schedule. Own work (by sched.gen.py). mix. Own work (by sealmix.gen.py). -/
import Derived.Laws.BitsAllLaws
import Derived.Test.YtncpjapfkcgjnaaDoorBase
import Derived.IntWalk
import Derived.Test.YtncpjapfkcgjnaaDoorChecked
import Derived.Deep.QuietTactic
import Derived.BigQuiet
import Derived.Deep.MidRow
import Derived.OrdersHeld
import Derived.Deep.RegionHeld3
import Derived.Deep.WholeRow
set_option linter.unusedVariables false
set_option linter.unusedSimpArgs false
namespace Go.Proofs.YtncpjapfkcgjnaaDoor
set_option linter.unusedVariables false

/-- A word of 32 bits. -/
def Wd : Type := BitVec 32

namespace Wd
def nat (x : Wd) : Nat := BitVec.toNat x
/-- As a number of Go's. -/
def n (x : Wd) : Int := (x.nat : Int)
def of (k : Nat) : Wd := BitVec.ofNat 32 k
def xor (x y : Wd) : Wd := BitVec.xor x y
def and (x y : Wd) : Wd := BitVec.and x y
def or (x y : Wd) : Wd := BitVec.or x y
def not (x : Wd) : Wd := BitVec.not x
def add (x y : Wd) : Wd := BitVec.add x y
def shr (x : Wd) (k : Nat) : Wd := BitVec.ushiftRight x k
def shl (x : Wd) (k : Nat) : Wd := BitVec.shiftLeft x k
/-- Turned to the right. -/
def rot (x : Wd) (k : Nat) : Wd := or (shr x k) (shl x (32 - k))
def big (x : Wd) (i j k : Nat) : Wd := xor (xor (rot x i) (rot x j)) (rot x k)
def small (x : Wd) (i j k : Nat) : Wd := xor (xor (rot x i) (rot x j)) (shr x k)
def ch (e f g : Wd) : Wd := xor (and e f) (and (not e) g)
def maj (a b c : Wd) : Wd := xor (xor (and a b) (and a c)) (and b c)
instance : DecidableEq Wd := inferInstanceAs (DecidableEq (BitVec 32))
instance : Inhabited Wd := ⟨of 0⟩
end Wd

/-- The state. -/
structure St where
  a : Wd
  b : Wd
  c : Wd
  d : Wd
  e : Wd
  f : Wd
  g : Wd
  h : Wd
deriving DecidableEq

def St.words (s : St) : List Wd := [s.a, s.b, s.c, s.d, s.e, s.f, s.g, s.h]

def kTable : List Nat := [1116352408, 1899447441, 3049323471, 3921009573, 961987163, 1508970993, 2453635748, 2870763221, 3624381080, 310598401, 607225278, 1426881987, 1925078388, 2162078206, 2614888103, 3248222580, 3835390401, 4022224774, 264347078, 604807628, 770255983, 1249150122, 1555081692, 1996064986, 2554220882, 2821834349, 2952996808, 3210313671, 3336571891, 3584528711, 113926993, 338241895, 666307205, 773529912, 1294757372, 1396182291, 1695183700, 1986661051, 2177026350, 2456956037, 2730485921, 2820302411, 3259730800, 3345764771, 3516065817, 3600352804, 4094571909, 275423344, 430227734, 506948616, 659060556, 883997877, 958139571, 1322822218, 1537002063, 1747873779, 1955562222, 2024104815, 2227730452, 2361852424, 2428436474, 2756734187, 3204031479, 3329325298]
def kAt (t : Nat) : Wd := Wd.of (kTable.getD t 0)
def st0 : St := ⟨Wd.of 1779033703, Wd.of 3144134277, Wd.of 1013904242, Wd.of 2773480762, Wd.of 1359893119, Wd.of 2600822924, Wd.of 528734635, Wd.of 1541459225⟩

def t1 (s : St) (k w : Wd) : Wd := (((s.h.add (Wd.big s.e 6 11 25)).add (Wd.ch s.e s.f s.g)).add k).add w
def t2 (s : St) : Wd := (Wd.big s.a 2 13 22).add (Wd.maj s.a s.b s.c)
def round (s : St) (k w : Wd) : St := ⟨(t1 s k w).add (t2 s), s.a, s.b, s.c, s.d.add (t1 s k w), s.e, s.f, s.g⟩

/-- Four bytes as a word. -/
def word (b : List UInt8) (t : Nat) : Wd :=
  Wd.of ((b.getD (4 * t) 0).toNat * 16777216 + (b.getD (4 * t + 1) 0).toNat * 65536 + (b.getD (4 * t + 2) 0).toNat * 256 + (b.getD (4 * t + 3) 0).toNat)

def at' (l : List Wd) (k : Nat) : Wd := l.getD k (Wd.of 0)

/-- The next word behind those of l. -/
def next (l : List Wd) (t : Nat) : Wd :=
  (((at' l (t - 16)).add (Wd.small (at' l (t - 15)) 7 18 3)).add (at' l (t - 7))).add (Wd.small (at' l (t - 2)) 17 19 10)

def sched (b : List UInt8) : Nat → List Wd
  | 0 => []
  | t + 1 => sched b t ++ [if t < 16 then word b t else next (sched b t) t]

/-- The word of a round. -/
def wd (b : List UInt8) (t : Nat) : Wd := at' (sched b (t + 1)) t

def rounds (s : St) (b : List UInt8) : Nat → St
  | 0 => s
  | t + 1 => round (rounds s b t) (kAt t) (wd b t)

def St.plus (s v : St) : St := ⟨s.a.add v.a, s.b.add v.b, s.c.add v.c, s.d.add v.d, s.e.add v.e, s.f.add v.f, s.g.add v.g, s.h.add v.h⟩

def mixed (s : St) (b : List UInt8) : St := s.plus (rounds s b 64)

/-- Block n. -/
def blockAt (l : List UInt8) (n : Nat) : List UInt8 := (l.drop (64 * n)).take 64

def run (l : List UInt8) : Nat → St
  | 0 => st0
  | n + 1 => mixed (run l n) (blockAt l n)

/-- A number in bytes, the highest first. -/
def be (n : Nat) : Nat → List UInt8
  | 0 => []
  | k + 1 => UInt8.ofNat (n >>> (8 * k)) :: be n k

def endOf (size : Nat) : List UInt8 := 128 :: (List.replicate ((119 - size % 64) % 64) 0 ++ be (8 * size) 8)

def padded (l : List UInt8) : List UInt8 := l ++ endOf l.length

def outOf (s : St) : List UInt8 := s.words.flatMap fun x => be x.nat 4

def digest (l : List UInt8) : List UInt8 := outOf (run (padded l) ((padded l).length / 64))

def keyOf (key : List UInt8) : List UInt8 := if 64 < key.length then digest key else key

def turned (key : List UInt8) (p : UInt8) : List UInt8 := (key ++ List.replicate (64 - key.length) 0).map (· ^^^ p)

def tagL (key text : List UInt8) : List UInt8 := (digest (turned (keyOf key) 92 ++ digest (turned (keyOf key) 54 ++ text))).take 16

end Go.Proofs.YtncpjapfkcgjnaaDoor
namespace Go.Proofs.YtncpjapfkcgjnaaDoor
set_option linter.unusedVariables false
open Go.RowKit

namespace Wd
theorem lt (x : Wd) : x.nat < 4294967296 := BitVec.isLt x
theorem n_bd (x : Wd) : 0 ≤ x.n ∧ x.n ≤ 4294967295 := by have := x.lt; unfold n; omega
theorem ext {x y : Wd} (h : x.nat = y.nat) : x = y := BitVec.eq_of_toNat_eq h
theorem of_nat {k : Nat} (h : k < 4294967296) : (of k).nat = k := by
  show (BitVec.ofNat 32 k).toNat = k
  rw [BitVec.toNat_ofNat]; omega
theorem of_n {k : Nat} (h : k < 4294967296) : (of k).n = (k : Int) := by unfold n; rw [of_nat h]
theorem nat_xor (x y : Wd) : (xor x y).nat = x.nat ^^^ y.nat := BitVec.toNat_xor ..
theorem nat_and (x y : Wd) : (and x y).nat = x.nat &&& y.nat := BitVec.toNat_and ..
theorem nat_or (x y : Wd) : (or x y).nat = x.nat ||| y.nat := BitVec.toNat_or ..
theorem nat_not (x : Wd) : (not x).nat = 4294967295 - x.nat := BitVec.toNat_not ..
theorem nat_add (x y : Wd) : (add x y).nat = (x.nat + y.nat) % 4294967296 := BitVec.toNat_add ..
theorem nat_shr (x : Wd) (k : Nat) : (shr x k).nat = x.nat / 2 ^ k := by
  show (BitVec.ushiftRight x k).toNat = _
  exact (BitVec.toNat_ushiftRight ..).trans (Nat.shiftRight_eq_div_pow ..)
theorem nat_shl (x : Wd) (k : Nat) : (shl x k).nat = x.nat * 2 ^ k % 4294967296 := by
  show (BitVec.shiftLeft x k).toNat = _
  exact (BitVec.toNat_shiftLeft ..).trans (by rw [Nat.shiftLeft_eq]; rfl)

theorem xor_is (x y : Wd) : bits .xor .u32 x.n y.n = (xor x y).n := by
  unfold n; rw [u32_xor_nat _ _ x.lt y.lt, nat_xor]
theorem and_is (x y : Wd) : bits .and .u32 x.n y.n = (and x y).n := by
  unfold n; rw [u32_and_nat _ _ x.lt y.lt, nat_and]
theorem or_is (x y : Wd) : bits .or .u32 x.n y.n = (or x y).n := by
  unfold n; rw [u32_or_nat _ _ x.lt y.lt, nat_or]
theorem not_nat (a : Nat) (h : a < 4294967296) : 4294967295 ^^^ a = 4294967295 - a := by
  have h1 := BitVec.toNat_not (x := BitVec.ofNat 32 a)
  have h2 : (~~~ (BitVec.ofNat 32 a)) = (BitVec.allOnes 32 ^^^ BitVec.ofNat 32 a) := by rw [BitVec.allOnes_xor]
  rw [h2, BitVec.toNat_xor, BitVec.toNat_allOnes, BitVec.toNat_ofNat, Nat.mod_eq_of_lt (show a < 2 ^ 32 from h)] at h1
  exact h1
theorem not_is (x : Wd) : bits .xor .u32 4294967295 x.n = (not x).n := by
  unfold n
  rw [show (4294967295 : Int) = ((4294967295 : Nat) : Int) from rfl, u32_xor_nat _ _ (by omega) x.lt, not_nat _ x.lt, nat_not]
theorem add_is (x y : Wd) : IntKind.u32.wrap (x.n + y.n) = (add x y).n := by
  unfold n; rw [IntKind.wrap_u32', nat_add]; omega
theorem add_is' (x y : Wd) : (x.n + y.n) % 4294967296 = (add x y).n := by
  unfold n; rw [nat_add]; omega
theorem shr_is (x : Wd) (k : Nat) : x.n / 2 ^ k = (shr x k).n := by
  unfold n; rw [nat_shr]; simp
theorem shl_is (x : Wd) (k : Nat) : x.n * 2 ^ k % 4294967296 = (shl x k).n := by
  unfold n; rw [nat_shl]; simp
theorem or_comm (x y : Wd) : or x y = or y x := ext (by rw [nat_or, nat_or, Nat.or_comm])
theorem add_assoc (x y z : Wd) : add (add x y) z = add x (add y z) := ext (by simp only [nat_add]; omega)
theorem add_comm (x y : Wd) : add x y = add y x := ext (by simp only [nat_add]; omega)
theorem add_right_comm (x y z : Wd) : add (add x y) z = add (add x z) y := ext (by simp only [nat_add]; omega)
theorem wf (x : Wd) : (Lit.int .u32 x.n).wf = true := by
  have := x.n_bd
  simp [Lit.wf, IntKind.min, IntKind.max, IntKind.signed, IntKind.bits]; omega
end Wd

theorem mask31 (k : Nat) (h1 : 1 ≤ k) (h2 : k ≤ 31) : bits .and .u64 (IntKind.u64.wrap (-(k : Int))) 31 = ((32 - k : Nat) : Int) := by
  have e : IntKind.u64.wrap (-(k : Int)) = ((18446744073709551616 - k : Nat) : Int) := by
    simp [IntKind.wrap, IntKind.bits, IntKind.signed]; omega
  rw [e, show (31 : Int) = ((31 : Nat) : Int) from rfl, u64_and_nat _ _ (by omega) (by omega), nat_mask5]
  omega

theorem ret32 {a b : Wd} (h : a = b) : Ending.returned (.int .u32 a.n) = .returned (.int .u32 b.n) := by rw [h]
end Go.Proofs.YtncpjapfkcgjnaaDoor
namespace Go.Proofs.YtncpjapfkcgjnaaDoor
set_option linter.unusedVariables false
open Go.RowKit

/-- In a quiet region: a callee whose contract says w = w'. -/
theorem quiet_is {P : Program} {f : FuncId} {args : Array Value} {w : World} {n : Nat} {v : Value}
    (h : Calls P f args (w.drewN n) fun e w' => e = .returned v ∧ w.drewN n = w') : Calls P f args (w.drewN n) fun e w'' => e = .returned v ∧ ∃ m, w'' = w.drewN m :=
  h.mono fun _ _ ⟨he, hm⟩ => ⟨he, n, hm.symm⟩

set_option maxHeartbeats 400000 in
theorem rot_ref (x : Wd) (k : Nat) (w : World) (h1 : 1 ≤ k) (h2 : k ≤ 31) :
    Calls Tryd.prog 50 #[.int .u32 x.n, .int .i64 k] w fun r w' => r = .returned (.int .u32 (x.rot k).n) ∧ ∃ k, w' = w.drewN k := by
  have e1 := Wd.shr_is x k
  have e2 := Wd.shl_is x (32 - k)
  have e3 := Wd.or_is (x.shr k) (x.shl (32 - k))
  go_enter Tryd.func50, Tryd.ntmps50
  go_wp2_with fail
  go_quiet (fail)
  go_wp2_with fail
  go_ret
  exact ⟨rfl, _, rfl⟩

set_option maxHeartbeats 400000 in
theorem rot_seal (x : Wd) (k : Nat) (w : World) (h1 : 1 ≤ k) (h2 : k ≤ 31) :
    Calls Tryd.prog 75 #[.int .u32 x.n, .int .i64 (-(k : Int))] w fun r w' => r = .returned (.int .u32 (x.rot k).n) ∧ w = w' := by
  have e0 := mask31 k h1 h2
  have e1 : x.n / 2 ^ (32 - (32 - k)) = (x.shr k).n := by rw [show 32 - (32 - k) = k from by omega]; exact Wd.shr_is x k
  have e2 := Wd.shl_is x (32 - k)
  have e3 := Wd.or_is (x.shl (32 - k)) (x.shr k)
  rw [Wd.or_comm] at e3
  go_enter Tryd.func75, Tryd.ntmps75
  go_wp2_with fail
  go_ret
  exact ⟨rfl, rfl⟩

set_option maxHeartbeats 400000 in
theorem turn_seal (x : Wd) (i j k : Nat) (w : World) (hi : 1 ≤ i) (hi' : i ≤ 31) (hj : 1 ≤ j) (hj' : j ≤ 31) (hk : 1 ≤ k) (hk' : k ≤ 31) :
    Calls Tryd.prog 72 #[.int .u32 x.n, .int .i64 i, .int .i64 j, .int .i64 k] w fun r w' => r = .returned (.int .u32 (x.big i j k).n) ∧ w = w' := by
  have e1 := Wd.xor_is (x.rot i) (x.rot j)
  have e2 := Wd.xor_is ((x.rot i).xor (x.rot j)) (x.rot k)
  go_enter Tryd.func72, Tryd.ntmps72
  go_wp2_with fail
  refine (rot_seal x i w hi hi').mono ?_
  rintro r w1 ⟨rfl, rfl⟩
  go_wp2_with fail
  refine (rot_seal x j w hj hj').mono ?_
  rintro r w1 ⟨rfl, rfl⟩
  go_wp2_with fail
  refine (rot_seal x k w hk hk').mono ?_
  rintro r w1 ⟨rfl, rfl⟩
  go_wp2_with fail
  go_ret
  exact ⟨rfl, rfl⟩

set_option maxHeartbeats 400000 in
theorem shift_seal (x : Wd) (i j k : Nat) (w : World) (hi : 1 ≤ i) (hi' : i ≤ 31) (hj : 1 ≤ j) (hj' : j ≤ 31) (hk : 1 ≤ k) (hk' : k ≤ 31) :
    Calls Tryd.prog 74 #[.int .u32 x.n, .int .i64 i, .int .i64 j, .int .i64 k] w fun r w' => r = .returned (.int .u32 (x.small i j k).n) ∧ ∃ k, w' = w.drewN k := by
  have e0 := Wd.shr_is x k
  have e1 := Wd.xor_is (x.rot i) (x.rot j)
  have e2 := Wd.xor_is ((x.rot i).xor (x.rot j)) (x.shr k)
  have a1 : IntKind.i64.wrap (-(i : Int)) = -(i : Int) := IntWalk.i64_in _ (by omega)
  have a2 : IntKind.i64.wrap (-(j : Int)) = -(j : Int) := IntWalk.i64_in _ (by omega)
  go_enter Tryd.func74, Tryd.ntmps74
  go_wp2_with fail
  go_quiet ((go_at_call 75; exact quiet_is (rot_seal _ _ _ (by omega) (by omega))))
  go_wp2_with fail
  go_ret
  exact ⟨rfl, _, rfl⟩
end Go.Proofs.YtncpjapfkcgjnaaDoor
namespace Go.Proofs.YtncpjapfkcgjnaaDoor
set_option linter.unusedVariables false
open Go.RowKit

/-- Words as cells. -/
def wcells (l : List Wd) : List Value := l.map fun x => .int .u32 x.n

theorem wcells_length (l : List Wd) : (wcells l).length = l.length := by simp [wcells]
theorem wcells_at (l : List Wd) {i : Nat} {x : Wd} (h : l[i]? = some x) : (wcells l)[i]? = some (.int .u32 x.n) := by simp [wcells, h]
theorem wcells_one (l : List Wd) : (wcells l).toArray.all (·.oneCell') = true := by
  rw [Array.all_eq_true_iff_forall_mem]
  intro v hv
  have hv' : v ∈ wcells l := by simpa using hv
  obtain ⟨x, _, rfl⟩ := List.mem_map.1 hv'
  rfl

/-- The cells of a message. -/
def msgCells (s : St) (part : List UInt8) (size : Nat) : List Value := wcells s.words ++ (Lib.byteCells part ++ [.int .i64 size])

/-- A message behind a pointer. -/
structure MsgAt (w : World) (p : Nat) (s : St) (part : List UInt8) (size : Nat) : Prop where
  len : part.length = 64
  row : w.heap[p]? = some (.cells (msgCells s part size).toArray 114 (0, 0))

theorem words_length (s : St) : s.words.length = 8 := rfl
theorem msg_length {s : St} {part : List UInt8} {size : Nat} (h : part.length = 64) : (msgCells s part size).length = 73 := by
  simp [msgCells, wcells_length, words_length, Lib.byteCells_length, h]

namespace MsgAt
variable {w w' : World} {p : Nat} {s : St} {part : List UInt8} {size : Nat}
theorem lt (h : MsgAt w p s part size) : p < w.heap.size := lt_heap h.row
theorem cell (h : MsgAt w p s part size) (i : Nat) : w.cell? ⟨p, i, none⟩ = (msgCells s part size)[i]? := by
  rw [cell_at h.row i]; simp
theorem fr (h : MsgAt w p s part size) (i : Nat) : w.frozen? ⟨p, i, none⟩ = false := free_at h.row i
theorem word (h : MsgAt w p s part size) {i : Nat} {x : Wd} (hx : s.words[i]? = some x) : w.cell? ⟨p, i, none⟩ = some (.int .u32 x.n) := by
  have hi : i < s.words.length := (List.getElem?_eq_some_iff.1 hx).1
  rw [h.cell, msgCells, List.getElem?_append_left (by rw [wcells_length]; exact hi)]
  exact wcells_at _ hx
theorem byte (h : MsgAt w p s part size) {i : Nat} {x : UInt8} (hx : part[i]? = some x) : w.cell? ⟨p, 8 + i, none⟩ = some (.int .u8 x.toNat) := by
  have hi : i < part.length := (List.getElem?_eq_some_iff.1 hx).1
  rw [h.cell, msgCells, List.getElem?_append_right (by rw [wcells_length, words_length]; omega), wcells_length, words_length, show 8 + i - 8 = i from by omega,
    List.getElem?_append_left (by rw [Lib.byteCells_length]; exact hi)]
  simp [Lib.byteCells, hx]
theorem size_at (h : MsgAt w p s part size) : w.cell? ⟨p, 72, none⟩ = some (.int .i64 size) := by
  rw [h.cell, msgCells, List.getElem?_append_right (by rw [wcells_length, words_length]; omega), wcells_length, words_length,
    List.getElem?_append_right (by rw [Lib.byteCells_length, h.len]; omega), Lib.byteCells_length, h.len]
  rfl
theorem keep {S : Nat → Prop} (h : MsgAt w p s part size) (k : Keep S w w') (hn : ¬ S p) : MsgAt w' p s part size := ⟨h.len, k.heap h.row hn⟩
theorem below (h : MsgAt w p s part size) (k : Below w.heap.size w w') : MsgAt w' p s part size := h.keep (Keep.of_below (fun _ => False) k) (fun x => x)
theorem drewN (h : MsgAt w p s part size) (n : Nat) : MsgAt (w.drewN n) p s part size := ⟨h.len, h.row⟩
/-- All of the part. -/
theorem part_range (h : MsgAt w p s part size) : w.rangeAt p 8 (Lib.byteCells part) := by
  intro j v hv
  have hj : j < part.length := by have := (List.getElem?_eq_some_iff.1 hv).1; rwa [Lib.byteCells_length] at this
  have h1 := h.byte (i := j) (List.getElem?_eq_getElem hj)
  rw [h1]
  rw [← hv]
  simp [Lib.byteCells, hj]
theorem state_range (h : MsgAt w p s part size) : w.rangeAt p 0 (wcells s.words) := by
  intro j v hv
  have hj : j < s.words.length := by have := (List.getElem?_eq_some_iff.1 hv).1; rwa [wcells_length] at this
  have h1 := h.word (i := j) (List.getElem?_eq_getElem hj)
  rw [Nat.zero_add, h1, ← hv, wcells_at _ (List.getElem?_eq_getElem hj)]
end MsgAt

theorem part_info : (Tryd.prog.info? 112).map (·.size) = some 64 := by kernel_rfl
theorem words_info : (Tryd.prog.info? 91).map (·.size) = some 64 := by kernel_rfl
theorem state_info : (Tryd.prog.info? 88).map (·.size) = some 8 := by kernel_rfl

/-- The part, loaded whole. -/
theorem load_part {w : World} {p : Nat} {s : St} {part : List UInt8} {size : Nat} (h : MsgAt w p s part size) :
    (Instr.loadAt 112 (.pointer (some ⟨p, 8, none⟩))).run Tryd.prog w = .ok (.agg (Lib.byteCells part).toArray) w :=
  run_loadAt_mid w p 8 112 (Lib.byteCells part) _ h.part_range Tryd.underlying112 rfl (by rw [part_info, Lib.byteCells_length, h.len])

theorem load_state {w : World} {p : Nat} {s : St} {part : List UInt8} {size : Nat} (h : MsgAt w p s part size) :
    (Instr.loadAt 88 (.pointer (some ⟨p, 0, none⟩))).run Tryd.prog w = .ok (.agg (wcells s.words).toArray) w :=
  run_loadAt_mid w p 0 88 (wcells s.words) _ h.state_range Tryd.underlying88 rfl (by rw [state_info, wcells_length, words_length])

end Go.Proofs.YtncpjapfkcgjnaaDoor
namespace Go.Proofs.YtncpjapfkcgjnaaDoor
set_option linter.unusedVariables false
open Go.RowKit

theorem sched_len (b : List UInt8) (n : Nat) : (sched b n).length = n := by
  induction n with
  | zero => rfl
  | succ n ih => simp [sched, ih]

theorem sched_at (b : List UInt8) {i n : Nat} (h : i < n) : at' (sched b n) i = wd b i := by
  induction n with
  | zero => omega
  | succ n ih =>
    by_cases e : i = n
    · subst e; rfl
    · rw [← ih (by omega)]
      simp only [at', sched]
      rw [List.getD_eq_getElem?_getD, List.getD_eq_getElem?_getD, List.getElem?_append_left (by rw [sched_len]; omega)]

theorem sched_is (b : List UInt8) (n : Nat) : sched b n = (List.range n).map (wd b) := by
  apply List.ext_getElem?
  intro i
  by_cases h : i < n
  · have h1 := sched_at b h
    simp only [at', List.getD_eq_getElem?_getD] at h1
    have hl : i < (sched b n).length := by rw [sched_len]; exact h
    rw [List.getElem?_eq_getElem hl] at h1 ⊢
    simp at h1
    rw [List.getElem?_map, List.getElem?_range h]
    simp [h1]
  · rw [List.getElem?_eq_none (by rw [sched_len]; omega), List.getElem?_eq_none (by simp; omega)]

theorem wd_last (b : List UInt8) (t : Nat) : wd b t = if t < 16 then word b t else next (sched b t) t := by
  simp only [wd, at', sched]
  rw [List.getD_eq_getElem?_getD, List.getElem?_append_right (by rw [sched_len]; omega), sched_len]
  simp

theorem wd_word (b : List UInt8) {t : Nat} (h : t < 16) : wd b t = word b t := by rw [wd_last, if_pos h]

theorem wd_next (b : List UInt8) {t : Nat} (h : 16 ≤ t) :
    wd b t = (((wd b (t - 16)).add (Wd.small (wd b (t - 15)) 7 18 3)).add (wd b (t - 7))).add (Wd.small (wd b (t - 2)) 17 19 10) := by
  rw [wd_last, if_neg (by omega)]
  unfold next
  rw [sched_at b (show t - 16 < t by omega), sched_at b (show t - 15 < t by omega), sched_at b (show t - 7 < t by omega), sched_at b (show t - 2 < t by omega)]

/-- n words told by a function. -/
def tabL (n : Nat) (f : Nat → Wd) : List Wd := (List.range n).map f
def upd (f : Nat → Wd) (i : Nat) (x : Wd) : Nat → Wd := fun j => if j = i then x else f j
theorem upd_same (f : Nat → Wd) (i : Nat) (x : Wd) : upd f i x i = x := if_pos rfl
theorem upd_ne (f : Nat → Wd) {i j : Nat} (x : Wd) (h : j ≠ i) : upd f i x j = f j := if_neg h
theorem tabL_len (n : Nat) (f : Nat → Wd) : (tabL n f).length = n := by simp [tabL]
theorem tabL_at {n : Nat} (f : Nat → Wd) {i : Nat} (h : i < n) : (tabL n f)[i]? = some (f i) := by simp [tabL, List.getElem?_map, List.getElem?_range h]
theorem tabL_set (n : Nat) (f : Nat → Wd) (i : Nat) (x : Wd) (h : i < n) : (tabL n f).set i x = tabL n (upd f i x) := by
  apply List.ext_getElem?
  intro j
  by_cases hj : j < n
  · rw [tabL_at _ hj]
    by_cases e : j = i
    · subst e
      rw [List.getElem?_set_self (by rw [tabL_len]; exact hj), upd_same]
    · rw [List.getElem?_set_ne (fun x => e x.symm), tabL_at _ hj, upd_ne _ _ e]
  · rw [List.getElem?_eq_none (by rw [List.length_set, tabL_len]; omega), List.getElem?_eq_none (by rw [tabL_len]; omega)]
theorem tabL_congr {n : Nat} {f g : Nat → Wd} (h : ∀ i, i < n → f i = g i) : tabL n f = tabL n g := by
  apply List.map_congr_left
  intro i hi
  exact h i (List.mem_range.1 hi)

/-- A row of n words, told by a function. -/
def Tab (w : World) (t : TypeId) (b n : Nat) (f : Nat → Wd) : Prop := w.heap[b]? = some (.cells (wcells (tabL n f)).toArray t (0, 0))

namespace Tab
variable {w w' : World} {t : TypeId} {b n : Nat} {f : Nat → Wd}
theorem lt (h : Tab w t b n f) : b < w.heap.size := lt_heap h
theorem cell (h : Tab w t b n f) {i : Nat} (hi : i < n) : w.cell? ⟨b, i, none⟩ = some (.int .u32 (f i).n) := by
  rw [cell_at h i]
  simp only [List.getElem?_toArray]
  exact wcells_at _ (tabL_at f hi)
theorem fr (h : Tab w t b n f) (i : Nat) : w.frozen? ⟨b, i, none⟩ = false := free_at h i
theorem keep {S : Nat → Prop} (h : Tab w t b n f) (k : Keep S w w') (hn : ¬ S b) : Tab w' t b n f := k.heap h hn
theorem below (h : Tab w t b n f) (k : Below w.heap.size w w') : Tab w' t b n f := h.keep (Keep.of_below (fun _ => False) k) (fun x => x)
theorem drewN (h : Tab w t b n f) (k : Nat) : Tab (w.drewN k) t b n f := h
theorem set (h : Tab w t b n f) {i : Nat} (hi : i < n) (x : Wd) : Tab (w.setCell ⟨b, i, none⟩ (.int .u32 x.n)) t b n (upd f i x) := by
  have h1 := heap_set h i (.int .u32 x.n)
  unfold Tab
  rw [h1, ← tabL_set n f i x hi]
  simp [wcells, List.map_set]
theorem congr {g : Nat → Wd} (h : Tab w t b n f) (e : ∀ i, i < n → f i = g i) : Tab w t b n g := by
  unfold Tab at h ⊢
  rw [← tabL_congr e]; exact h
theorem range (h : Tab w t b n f) : w.rangeAt b 0 (wcells (tabL n f)) := by
  intro j v hv
  rw [Nat.zero_add, cell_at h j]
  simpa using hv
end Tab

theorem keep_row (w : World) (g : Nat) (cs : Array Value) : Keep (· = g) w (w.setRow g cs) :=
  ⟨rfl, rfl, rfl, by simp, fun k _ hk => setRow_other w g k cs hk⟩

/-- A whole array stored into a block that is known whole. -/
theorem wpList_store_row {P : Program} {ops : Array Oper} {rest : List Oper} {op : Oper} {a : Act} {w : World} {Q : Exit → Act → World → Prop} (hgd : op.guard = none) (ty : TypeId) (x y : Operand) (ho : op.op = .store ty x y)
    (g : Nat) (t : TypeId) (old cells : Array Value) (hx : a.eval x = .pointer (some ⟨g, 0, none⟩)) (hy : a.eval y = .agg cells) (hg : w.heap[g]? = some (.cells old t (0, 0)))
    (hi : (P.info? ty).map (·.size) = some cells.size) (hs : old.size = cells.size) (h1 : cells.all (·.oneCell') = true)
    (h : wpList P ops Q rest (a.put op.dst undef) (w.setRow g cells)) : wpList P ops Q (op :: rest) a w :=
  wpList_plain hgd fun K hK => by
    unfold Oper.wp execOp
    simp only [ho, hx, hy, Instr.storeAt, Instr.sureAddr, Sem.run_bind, Sem.run_pure, Result.andThen_ok, run_storeVar_row w g t ty old cells hg hi hs h1]
    exact hK _ _ h

/-- a[i] of an array that is a value. -/
theorem run_index_agg {P : Program} (w : World) (t e : TypeId) (n : Nat) (i : TypeInfo) (d : TypeDesc) (h : P.underlying t = some (.array n e)) (he : P.underlying e = some d) (hd : d.isRow = false) (hi : P.info? e = some i) (hs : i.size = 1)
    (cs : Array Value) (k : IntKind) (j : Nat) (hj : j < n) (v : Value) (hv : cs[j]? = some v) : (Instr.index t (.agg cs) (.int k (j : Int))).run P w = .ok v w := by
  have hagg : (isAgg e).run P w = .ok false w := by
    unfold isAgg
    rw [Sem.run_bind, run_underlying he w]
    cases d <;> simp_all
  unfold Instr.index
  simp [Sem.run_bind, asIntOf, run_underlying h, sizeOf, typeInfo, hi, hs, part, hagg, hv, hj]

/-- The first bytes of word t, of k bytes that came. -/
def accN (b : List UInt8) (t : Nat) : Nat → Nat
  | 0 => 0
  | j + 1 => accN b t j * 256 + (b.getD (4 * t + j) 0).toNat

theorem accN_lt (b : List UInt8) (t : Nat) (j : Nat) : accN b t j < 256 ^ j := by
  induction j with
  | zero => simp [accN]
  | succ j ih =>
    have := (b.getD (4 * t + j) 0).toNat_lt
    simp only [accN, Nat.pow_succ]
    omega

def accW (b : List UInt8) (k t : Nat) : Wd := Wd.of (accN b t (min 4 (k - 4 * t)))

theorem accW_zero (b : List UInt8) (t : Nat) : accW b 0 t = Wd.of 0 := by simp [accW, accN]

theorem accW_word (b : List UInt8) {t : Nat} (h : t < 16) : accW b 64 t = wd b t := by
  rw [wd_word b h]
  have e : accN b t 4 = (b.getD (4 * t) 0).toNat * 16777216 + (b.getD (4 * t + 1) 0).toNat * 65536 + (b.getD (4 * t + 2) 0).toNat * 256 + (b.getD (4 * t + 3) 0).toNat := by
    simp only [accN, Nat.add_zero]
    generalize (b.getD (4 * t) 0).toNat = x0
    generalize (b.getD (4 * t + 1) 0).toNat = x1
    generalize (b.getD (4 * t + 2) 0).toNat = x2
    generalize (b.getD (4 * t + 3) 0).toNat = x3
    omega
  unfold accW word
  rw [show min 4 (64 - 4 * t) = 4 from by omega, e]

theorem accW_other (b : List UInt8) {k t : Nat} (h : t ≠ k / 4) : accW b (k + 1) t = accW b k t := by
  unfold accW
  rw [show min 4 (k + 1 - 4 * t) = min 4 (k - 4 * t) from by omega]

/-- The byte that comes next is put behind those that came. -/
theorem accW_same (b : List UInt8) {k : Nat} {x : UInt8} (hx : b[k]? = some x) :
    bits .or .u32 ((accW b k (k / 4)).n * 256 % 4294967296) (x.toNat : Int) = (accW b (k + 1) (k / 4)).n := by
  have h1 := accN_lt b (k / 4) (min 4 (k - 4 * (k / 4)))
  have h2 : (b.getD (4 * (k / 4) + k % 4) 0) = x := by
    rw [List.getD_eq_getElem?_getD, show 4 * (k / 4) + k % 4 = k from by omega, hx]; rfl
  have e1 : min 4 (k - 4 * (k / 4)) = k % 4 := by omega
  have e2 : min 4 (k + 1 - 4 * (k / 4)) = k % 4 + 1 := by omega
  unfold accW
  rw [e1] at h1 ⊢
  rw [e2]
  have h3 : accN b (k / 4) (k % 4) < 256 ^ 3 := Nat.lt_of_lt_of_le h1 (Nat.pow_le_pow_right (by omega) (by omega))
  have hb := x.toNat_lt
  simp only [accN, h2]
  rw [Wd.of_n (by omega), Wd.of_n (by omega)]
  have e3 : ((accN b (k / 4) (k % 4) : Nat) : Int) * 256 % 4294967296 = ((accN b (k / 4) (k % 4) * 256 : Nat) : Int) := by omega
  rw [e3, u32_or_nat _ _ (by omega) (by omega), nat_join 8 _ _ (by omega) (by omega)]

end Go.Proofs.YtncpjapfkcgjnaaDoor
namespace Go.Proofs.YtncpjapfkcgjnaaDoor
set_option linter.unusedVariables false
set_option linter.unusedSimpArgs false
open Go.RowKit

theorem tab_zero (w : World) (part : List UInt8) (t : TypeId) : ∀ Z : List Value, Z = wcells (List.replicate 64 (Wd.of 0)) → Tab (w.alloc (.cells Z.toArray t)) t w.heap.size 64 (accW part 0) := by
  intro Z hZ
  unfold Tab
  rw [heap_alloc_new, hZ]
  have e : tabL 64 (accW part 0) = tabL 64 (fun _ => Wd.of 0) := tabL_congr fun t _ => accW_zero part t
  rw [e]
  rfl

set_option maxRecDepth 100000 in
set_option maxHeartbeats 3200000 in
theorem sched_any (p : Nat) (s : St) (part : List UInt8) (size : Nat) (w : World) (h : MsgAt w p s part size) :
    Calls Tryd.prog 71 #[.pointer (some ⟨p, 0, none⟩)] w fun r w' => r = .returned (.agg (wcells (sched part 64)).toArray) ∧ Below w.heap.size w w' := by
  have hr : ∀ o1 o2, ((w.alloc o1).alloc o2).rangeAt p 8 (Lib.byteCells part) := fun o1 o2 =>
    (h.below (((Below.refl _ _).alloc (Nat.le_refl _) _).alloc (by simp) _)).part_range
  have HR := Lib.hid hr
  have HL := Lib.hid h.len
  obtain ⟨PA, hPA⟩ : ∃ PA, PA = (Lib.byteCells part).toArray := ⟨_, rfl⟩
  have HPA := Lib.hid hPA
  have HI : (Tryd.prog.info? 112).map (·.size) = some (Lib.byteCells part).length := by rw [part_info, Lib.byteCells_length, h.len]
  have HIh := Lib.hid HI
  clear h hPA hr HI
  obtain ⟨i0, hi, hz0, hz1, hz2⟩ := info_parts byte_info
  have I0 := Lib.hid hi
  clear hz0 hz2
  go_enter Tryd.func71, Tryd.ntmps71
  go_wp2_with (refine wpList_load_mid rfl 112 (.tmp 9) rfl p 8 rfl (Lib.byteCells part) _ (HR.out _ _) Tryd.underlying112 rfl HIh.out ?_; rw [← HPA.out])
  generalize hw1 : (w.alloc (Obj.cells _ 91)).alloc (Obj.cells _ 91) = w1
  obtain ⟨B, hB⟩ : ∃ B, B = w.heap.size + 1 := ⟨_, rfl⟩
  have hT0 : Tab w1 91 B 64 (accW part 0) := by
    have h1 := tab_zero (w.alloc (.cells (wcells (List.replicate 64 (Wd.of 0))).toArray 91)) part 91 _ rfl
    rw [show (w.alloc (.cells (wcells (List.replicate 64 (Wd.of 0))).toArray 91)).heap.size = w.heap.size + 1 from by simp] at h1
    rw [hB, ← hw1]
    exact h1
  have hb1 : Below w.heap.size w w1 := by rw [← hw1]; exact ((Below.refl _ _).alloc (Nat.le_refl _) _).alloc (by simp) _
  have hB0 : ∃ c : Array Value, c.size = 64 ∧ w1.heap[w.heap.size]? = some (.cells c 91 (0, 0)) := by
    rw [← hw1]; exact ⟨_, rfl, heap_alloc (heap_alloc_new w _) _⟩
  rw [← hB]
  have HT0 := Lib.hid hT0
  have HB1 := Lib.hid hb1
  have HB0 := Lib.hid hB0
  have HBe := Lib.hid hB
  clear hT0 hb1 hB0 hw1 hB
  go_loopw [11] (fun i wr => ∃ k : Nat, k ≤ 64 ∧ i = .int .i64 k ∧ Hid (Tab wr 91 B 64 (accW part k)) ∧ Hid (Keep (· = B) w1 wr)) (fun i _ => 64 - (intOf i).toNat)
  case atStart => exact ⟨0, by omega, rfl, HT0, Keep.refl _ _⟩
  case round =>
    obtain ⟨k, hk, rfl, HT, HK⟩ := hrel
    by_cases hlt : k < 64
    · obtain ⟨x, hx⟩ : ∃ x, part[k]? = some x := ⟨part[k]'(by rw [HL.out]; exact hlt), List.getElem?_eq_getElem _⟩
      have hpa : PA[k]? = some (.int .u8 x.toNat) := by rw [HPA.out]; simp [Lib.byteCells, hx]
      have hix : ∀ W, (Instr.index 112 (.agg PA) (.int .i64 (k : Int))).run Tryd.prog W = .ok (.int .u8 x.toNat) W := fun W =>
        run_index_agg W 112 5 64 i0 _ Tryd.underlying112 Tryd.underlying5 rfl hi hz1 PA .i64 k hlt _ hpa
      have hc := HT.out.cell (i := k / 4) (by omega)
      have hf := HT.out.fr (k / 4)
      have hq := accW_same part hx
      have hxl := x.toNat_lt
      clear hpa
      generalize accW part k (k / 4) = xo at hc hq
      go_wp2_with fail
      go_roundw
      case rel => exact ⟨k + 1, by omega, by go_num, ((HT.out.set (i := k / 4) (by omega) _).congr fun i _ => by
          by_cases e : i = k / 4
          · subst e; exact upd_same _ _ _
          · rw [upd_ne _ _ e, accW_other part e]), HK.out.own _ _⟩
      case measure => simp [intOf]; omega
    · obtain rfl : k = 64 := by omega
      have hT2 : Tab wr 91 B 64 (accW part 64) := HT.out
      clear hlt hk HT
      obtain ⟨we, rfl⟩ : ∃ we : World, we = wr := ⟨_, rfl⟩
      have HT2 := Lib.hid hT2
      have HK2 := Lib.hid HK.out
      clear hT2 HK
      rw [show ((64 : Nat) : Int) = 64 from rfl]
      go_wp2_with fail
      go_loopw [6] (fun i wr => ∃ (t : Nat) (f : Nat → Wd), 16 ≤ t ∧ t ≤ 64 ∧ i = .int .i64 t ∧ Hid (∀ i, i < t → f i = wd part i) ∧ Hid (Tab wr 91 B 64 f) ∧ Hid (Keep (· = B) w1 wr)) (fun i _ => 64 - (intOf i).toNat)
      case atStart => exact ⟨16, _, by omega, by omega, rfl, fun i h => accW_word part h, HT2, HK2⟩
      case round =>
        obtain ⟨t, f, ht1, ht2, rfl, HF, HT, HK⟩ := hrel
        by_cases hlt : t < 64
        · have b16 : ((t - 16 : Nat) : Int) < 64 := by omega
          have b15 : ((t - 15 : Nat) : Int) < 64 := by omega
          have b7 : ((t - 7 : Nat) : Int) < 64 := by omega
          have b2 : ((t - 2 : Nat) : Int) < 64 := by omega
          have a16 : IntKind.i64.wrap ((t : Int) - 16) = ((t - 16 : Nat) : Int) := by rw [IntWalk.i64_in _ (by omega)]; omega
          have a15 : IntKind.i64.wrap ((t : Int) - 15) = ((t - 15 : Nat) : Int) := by rw [IntWalk.i64_in _ (by omega)]; omega
          have a7 : IntKind.i64.wrap ((t : Int) - 7) = ((t - 7 : Nat) : Int) := by rw [IntWalk.i64_in _ (by omega)]; omega
          have a2 : IntKind.i64.wrap ((t : Int) - 2) = ((t - 2 : Nat) : Int) := by rw [IntWalk.i64_in _ (by omega)]; omega
          have c16 := HT.out.cell (i := t - 16) (by omega)
          have c15 := HT.out.cell (i := t - 15) (by omega)
          have c7 := HT.out.cell (i := t - 7) (by omega)
          have c2 := HT.out.cell (i := t - 2) (by omega)
          have cf := HT.out.fr t
          have cT := HT.out.cell (i := t) hlt
          have l16 : t - 16 < t := by omega
          have l15 : t - 15 < t := by omega
          have l7 : t - 7 < t := by omega
          have l2 : t - 2 < t := by omega
          have hne := wd_next part ht1
          rw [← HF.out (t - 16) (by omega), ← HF.out (t - 15) (by omega), ← HF.out (t - 7) (by omega), ← HF.out (t - 2) (by omega)] at hne
          have HN := Lib.hid hne
          have HT3 := Lib.hid (HT.out.set (i := t) hlt (wd part t))
          clear hne
          generalize f t = xt at cT
          generalize f (t - 16) = x16 at c16 HN
          generalize t - 16 = m16 at b16 a16 c16 l16
          generalize f (t - 15) = x15 at c15 HN
          generalize t - 15 = m15 at b15 a15 c15 l15
          generalize f (t - 7) = x7 at c7 HN
          generalize t - 7 = m7 at b7 a7 c7 l7
          generalize f (t - 2) = x2 at c2 HN
          generalize t - 2 = m2 at b2 a2 c2 l2
          have e1 := Wd.add_is x16 (x15.small 7 18 3)
          have e2 := Wd.add_is (x16.add (x15.small 7 18 3)) x7
          have e3 := Wd.add_is ((x16.add (x15.small 7 18 3)).add x7) (x2.small 17 19 10)
          rw [← HN.out] at e3
          go_wp2_with fail
          refine wp_region_noPanic ?_
          refine wp_region_held_drew (S := fun w' => w'.cell? ⟨B, m16, none⟩ = some (.int .u32 x16.n) ∧ w'.cell? ⟨B, m15, none⟩ = some (.int .u32 x15.n) ∧ w'.cell? ⟨B, m7, none⟩ = some (.int .u32 x7.n) ∧ w'.cell? ⟨B, m2, none⟩ = some (.int .u32 x2.n)) (by kernel_rfl) ⟨c16, c15, c7, c2⟩ (fun hHeld => ?_)
          refine wpAnyH_take (i := 0) (oi := _) (v := ?va0) rfl (by kernel_rfl) (by kernel_rfl) (by kernel_rfl) (fun _ _ _ h => h) (Or.inl ⟨by rfl, ?hya0⟩) (by assumption) ?resta0
          case hya0 => (intro w hSw; (try dsimp only at hSw); (try simp only [List.getElem_toArray, List.getElem_cons_zero, List.getElem_cons_succ]); go_simp; (try with_reducible rfl))
          (try simp only [Act.put, List.setIfInBounds_toArray, List.set_cons_zero, List.set_cons_succ, List.getElem_toArray, List.getElem_cons_zero, List.getElem_cons_succ])
          refine wpAnyH_take (i := 1) (oi := _) (v := ?va1) rfl (by kernel_rfl) (by kernel_rfl) (by kernel_rfl) (fun _ _ _ h => h) (Or.inl ⟨by rfl, ?hya1⟩) (by assumption) ?resta1
          case hya1 => (intro w hSw; (try dsimp only at hSw); (try simp only [List.getElem_toArray, List.getElem_cons_zero, List.getElem_cons_succ]); go_simp; (try with_reducible rfl))
          (try simp only [Act.put, List.setIfInBounds_toArray, List.set_cons_zero, List.set_cons_succ, List.getElem_toArray, List.getElem_cons_zero, List.getElem_cons_succ])
          refine wpAnyH_take (i := 2) (oi := _) (v := ?va2) rfl (by kernel_rfl) (by kernel_rfl) (by kernel_rfl) (fun _ _ _ h => h) (Or.inl ⟨by rfl, ?hya2⟩) (by assumption) ?resta2
          case hya2 => (intro w hSw; (try dsimp only at hSw); (try simp only [List.getElem_toArray, List.getElem_cons_zero, List.getElem_cons_succ]); go_simp; (try with_reducible rfl))
          (try simp only [Act.put, List.setIfInBounds_toArray, List.set_cons_zero, List.set_cons_succ, List.getElem_toArray, List.getElem_cons_zero, List.getElem_cons_succ])
          refine wpAnyH_take (i := 3) (oi := _) (v := ?va3) rfl (by kernel_rfl) (by kernel_rfl) (by kernel_rfl) (fun _ _ _ h => h) (Or.inl ⟨by rfl, ?hya3⟩) (by assumption) ?resta3
          case hya3 => (intro w hSw; (try dsimp only at hSw); (try simp only [List.getElem_toArray, List.getElem_cons_zero, List.getElem_cons_succ]); go_simp; (try with_reducible rfl))
          (try simp only [Act.put, List.setIfInBounds_toArray, List.set_cons_zero, List.set_cons_succ, List.getElem_toArray, List.getElem_cons_zero, List.getElem_cons_succ])
          refine wpAnyH_take (i := 4) (oi := _) (v := ?va4) rfl (by kernel_rfl) (by kernel_rfl) (by kernel_rfl) (fun _ _ _ h => h) (Or.inl ⟨by rfl, ?hya4⟩) (by assumption) ?resta4
          case hya4 => (intro w hSw; (try dsimp only at hSw); (try simp only [List.getElem_toArray, List.getElem_cons_zero, List.getElem_cons_succ]); go_simp; (try with_reducible rfl))
          (try simp only [Act.put, List.setIfInBounds_toArray, List.set_cons_zero, List.set_cons_succ, List.getElem_toArray, List.getElem_cons_zero, List.getElem_cons_succ])
          refine wpAnyH_take (i := 5) (oi := _) (v := ?va5) rfl (by kernel_rfl) (by kernel_rfl) (by kernel_rfl) (fun _ _ _ h => h) (Or.inl ⟨by rfl, ?hya5⟩) (by assumption) ?resta5
          case hya5 => (intro w hSw; (try dsimp only at hSw); (try simp only [List.getElem_toArray, List.getElem_cons_zero, List.getElem_cons_succ]); go_simp; (try with_reducible rfl))
          (try simp only [Act.put, List.setIfInBounds_toArray, List.set_cons_zero, List.set_cons_succ, List.getElem_toArray, List.getElem_cons_zero, List.getElem_cons_succ])
          refine wpAnyH_take (i := 6) (oi := _) (v := ?va6) rfl (by kernel_rfl) (by kernel_rfl) (by kernel_rfl) (fun _ _ _ h => h) (Or.inl ⟨by rfl, ?hya6⟩) (by assumption) ?resta6
          case hya6 => (intro w hSw; (try dsimp only at hSw); (try simp only [List.getElem_toArray, List.getElem_cons_zero, List.getElem_cons_succ]); go_simp; (try with_reducible rfl))
          (try simp only [Act.put, List.setIfInBounds_toArray, List.set_cons_zero, List.set_cons_succ, List.getElem_toArray, List.getElem_cons_zero, List.getElem_cons_succ])
          refine wpAnyH_take (i := 7) (oi := _) (v := ?va7) rfl (by kernel_rfl) (by kernel_rfl) (by kernel_rfl) (fun _ _ _ h => h) (Or.inl ⟨by rfl, ?hya7⟩) (by assumption) ?resta7
          case hya7 => (intro w hSw; (try dsimp only at hSw); (try simp only [List.getElem_toArray, List.getElem_cons_zero, List.getElem_cons_succ]); go_simp; (try with_reducible rfl))
          (try simp only [Act.put, List.setIfInBounds_toArray, List.set_cons_zero, List.set_cons_succ, List.getElem_toArray, List.getElem_cons_zero, List.getElem_cons_succ])
          refine wpAnyH_take (i := 8) (oi := _) (v := ?va8) rfl (by kernel_rfl) (by kernel_rfl) (by kernel_rfl) (fun _ _ _ h => h) (Or.inl ⟨by rfl, ?hya8⟩) (by assumption) ?resta8
          case hya8 => (intro w hSw; (try dsimp only at hSw); (try simp only [List.getElem_toArray, List.getElem_cons_zero, List.getElem_cons_succ]); go_simp; (try with_reducible rfl))
          (try simp only [Act.put, List.setIfInBounds_toArray, List.set_cons_zero, List.set_cons_succ, List.getElem_toArray, List.getElem_cons_zero, List.getElem_cons_succ])
          refine wpAnyH_take (i := 11) (oi := _) (v := ?va11) rfl (by kernel_rfl) (by kernel_rfl) (by kernel_rfl) (fun _ _ _ h => h) (Or.inl ⟨by rfl, ?hya11⟩) (by assumption) ?resta11
          case hya11 => (intro w hSw; (try dsimp only at hSw); (try simp only [List.getElem_toArray, List.getElem_cons_zero, List.getElem_cons_succ]); go_simp; (try with_reducible rfl))
          (try simp only [Act.put, List.setIfInBounds_toArray, List.set_cons_zero, List.set_cons_succ, List.getElem_toArray, List.getElem_cons_zero, List.getElem_cons_succ])
          refine wpAnyH_take (i := 12) (oi := _) (v := ?va12) rfl (by kernel_rfl) (by kernel_rfl) (by kernel_rfl) (fun _ _ _ h => h) (Or.inl ⟨by rfl, ?hya12⟩) (by assumption) ?resta12
          case hya12 => (intro w hSw; (try dsimp only at hSw); (try simp only [List.getElem_toArray, List.getElem_cons_zero, List.getElem_cons_succ]); go_simp; (try with_reducible rfl))
          (try simp only [Act.put, List.setIfInBounds_toArray, List.set_cons_zero, List.set_cons_succ, List.getElem_toArray, List.getElem_cons_zero, List.getElem_cons_succ])
          refine wpAnyH_take (i := 13) (oi := _) (v := ?va13) rfl (by kernel_rfl) (by kernel_rfl) (by kernel_rfl) (fun _ _ _ h => h) (Or.inl ⟨by rfl, ?hya13⟩) (by assumption) ?resta13
          case hya13 => (intro w hSw; (try dsimp only at hSw); (try simp only [List.getElem_toArray, List.getElem_cons_zero, List.getElem_cons_succ]); go_simp; (try with_reducible rfl))
          (try simp only [Act.put, List.setIfInBounds_toArray, List.set_cons_zero, List.set_cons_succ, List.getElem_toArray, List.getElem_cons_zero, List.getElem_cons_succ])
          refine wpAnyH_take (i := 14) (oi := _) (v := ?va14) rfl (by kernel_rfl) (by kernel_rfl) (by kernel_rfl) (fun _ _ _ h => h) (Or.inl ⟨by rfl, ?hya14⟩) (by assumption) ?resta14
          case hya14 => (intro w hSw; (try dsimp only at hSw); (try simp only [List.getElem_toArray, List.getElem_cons_zero, List.getElem_cons_succ]); go_simp; (try with_reducible rfl))
          (try simp only [Act.put, List.setIfInBounds_toArray, List.set_cons_zero, List.set_cons_succ, List.getElem_toArray, List.getElem_cons_zero, List.getElem_cons_succ])
          refine wpAnyH_take (i := 16) (oi := _) (v := ?va16) rfl (by kernel_rfl) (by kernel_rfl) (by kernel_rfl) (fun _ _ _ h => h) (Or.inl ⟨by rfl, ?hya16⟩) (by assumption) ?resta16
          case hya16 => (intro w hSw; (try dsimp only at hSw); (try simp only [List.getElem_toArray, List.getElem_cons_zero, List.getElem_cons_succ]); go_simp; (try with_reducible rfl))
          (try simp only [Act.put, List.setIfInBounds_toArray, List.set_cons_zero, List.set_cons_succ, List.getElem_toArray, List.getElem_cons_zero, List.getElem_cons_succ])
          refine wpAnyH_take (i := 17) (oi := _) (v := ?va17) rfl (by kernel_rfl) (by kernel_rfl) (by kernel_rfl) (fun _ _ _ h => h) (Or.inl ⟨by rfl, ?hya17⟩) (by assumption) ?resta17
          case hya17 => (intro w hSw; (try dsimp only at hSw); (try simp only [List.getElem_toArray, List.getElem_cons_zero, List.getElem_cons_succ]); go_simp; (try with_reducible rfl))
          (try simp only [Act.put, List.setIfInBounds_toArray, List.set_cons_zero, List.set_cons_succ, List.getElem_toArray, List.getElem_cons_zero, List.getElem_cons_succ])
          refine wpAnyH_take (i := 18) (oi := _) (v := ?va18) rfl (by kernel_rfl) (by kernel_rfl) (by kernel_rfl) (fun _ _ _ h => h) (Or.inl ⟨by rfl, ?hya18⟩) (by assumption) ?resta18
          case hya18 => (intro w hSw; (try dsimp only at hSw); (try simp only [List.getElem_toArray, List.getElem_cons_zero, List.getElem_cons_succ]); go_simp; (try with_reducible rfl))
          (try simp only [Act.put, List.setIfInBounds_toArray, List.set_cons_zero, List.set_cons_succ, List.getElem_toArray, List.getElem_cons_zero, List.getElem_cons_succ])
          refine wpAnyH_take (i := 19) (oi := _) (v := ?va19) rfl (by kernel_rfl) (by kernel_rfl) (by kernel_rfl) (fun _ _ _ h => h) (Or.inl ⟨by rfl, ?hya19⟩) (by assumption) ?resta19
          case hya19 => (intro w hSw; (try dsimp only at hSw); (try simp only [List.getElem_toArray, List.getElem_cons_zero, List.getElem_cons_succ]); go_simp; (try with_reducible rfl))
          (try simp only [Act.put, List.setIfInBounds_toArray, List.set_cons_zero, List.set_cons_succ, List.getElem_toArray, List.getElem_cons_zero, List.getElem_cons_succ])
          refine wpAnyH_ready (rs := [9]) (by kernel_rfl) (by simp) ?_
          refine AllReadyH.cons (o := _) rfl (fun K hK => ?_) AllReadyH.nil
          (try simp only [List.getElem_toArray, List.getElem_cons_zero, List.getElem_cons_succ])
          go_simp
          (refine (shift_seal x15 7 18 3 _ (by omega) (by omega) (by omega) (by omega) (by omega) (by omega)).mono ?_; rintro r w2 ⟨rfl, kk, rfl⟩)
          refine hK.out _ _ ?_ (fun hHeld => ?_)
          · exact ⟨c16, c15, c7, c2⟩
          clear hK K
          (try simp only [Act.put, List.setIfInBounds_toArray, List.set_cons_zero, List.set_cons_succ, List.getElem_toArray, List.getElem_cons_zero, List.getElem_cons_succ])
          refine wpAnyH_take (i := 10) (oi := _) (v := ?va10) rfl (by kernel_rfl) (by kernel_rfl) (by kernel_rfl) (fun _ _ _ h => h) (Or.inl ⟨by rfl, ?hya10⟩) (by assumption) ?resta10
          case hya10 => (intro w hSw; (try dsimp only at hSw); (try simp only [List.getElem_toArray, List.getElem_cons_zero, List.getElem_cons_succ]); go_simp; (try with_reducible rfl))
          (try simp only [Act.put, List.setIfInBounds_toArray, List.set_cons_zero, List.set_cons_succ, List.getElem_toArray, List.getElem_cons_zero, List.getElem_cons_succ])
          refine wpAnyH_take (i := 15) (oi := _) (v := ?va15) rfl (by kernel_rfl) (by kernel_rfl) (by kernel_rfl) (fun _ _ _ h => h) (Or.inl ⟨by rfl, ?hya15⟩) (by assumption) ?resta15
          case hya15 => (intro w hSw; (try dsimp only at hSw); (try simp only [List.getElem_toArray, List.getElem_cons_zero, List.getElem_cons_succ]); go_simp; (try with_reducible rfl))
          (try simp only [Act.put, List.setIfInBounds_toArray, List.set_cons_zero, List.set_cons_succ, List.getElem_toArray, List.getElem_cons_zero, List.getElem_cons_succ])
          refine wpAnyH_ready (rs := [20]) (by kernel_rfl) (by simp) ?_
          refine AllReadyH.cons (o := _) rfl (fun K hK => ?_) AllReadyH.nil
          (try simp only [List.getElem_toArray, List.getElem_cons_zero, List.getElem_cons_succ])
          go_simp
          (refine (shift_seal x2 17 19 10 _ (by omega) (by omega) (by omega) (by omega) (by omega) (by omega)).mono ?_; rintro r w2 ⟨rfl, kk, rfl⟩)
          refine hK.out _ _ ?_ (fun hHeld => ?_)
          · exact ⟨c16, c15, c7, c2⟩
          clear hK K
          (try simp only [Act.put, List.setIfInBounds_toArray, List.set_cons_zero, List.set_cons_succ, List.getElem_toArray, List.getElem_cons_zero, List.getElem_cons_succ])
          refine wpAnyH_take (i := 21) (oi := _) (v := ?va21) rfl (by kernel_rfl) (by kernel_rfl) (by kernel_rfl) (fun _ _ _ h => h) (Or.inl ⟨by rfl, ?hya21⟩) (by assumption) ?resta21
          case hya21 => (intro w hSw; (try dsimp only at hSw); (try simp only [List.getElem_toArray, List.getElem_cons_zero, List.getElem_cons_succ]); go_simp; (try with_reducible rfl))
          (try simp only [Act.put, List.setIfInBounds_toArray, List.set_cons_zero, List.set_cons_succ, List.getElem_toArray, List.getElem_cons_zero, List.getElem_cons_succ])
          refine wpAnyH_take (i := 22) (oi := _) (v := ?va22) rfl (by kernel_rfl) (by kernel_rfl) (by kernel_rfl) (fun _ _ _ h => h) (Or.inl ⟨by rfl, ?hya22⟩) (by assumption) ?resta22
          case hya22 => (intro w hSw; (try dsimp only at hSw); (try simp only [List.getElem_toArray, List.getElem_cons_zero, List.getElem_cons_succ]); go_simp; (try with_reducible rfl))
          (try simp only [Act.put, List.setIfInBounds_toArray, List.set_cons_zero, List.set_cons_succ, List.getElem_toArray, List.getElem_cons_zero, List.getElem_cons_succ])
          refine wpAnyH_ready (rs := [23]) (by kernel_rfl) (by simp) ?_
          refine AllReadyH.cons (o := _) rfl (fun K hK => ?_) AllReadyH.nil
          (try simp only [List.getElem_toArray, List.getElem_cons_zero, List.getElem_cons_succ])
          go_simp
          refine hK.out _ _ ?_ (fun hHeld => ?_)
          · exact ⟨(World.cell?_setCell_other _ _ _ _ (by simp; try omega)).trans c16, (World.cell?_setCell_other _ _ _ _ (by simp; try omega)).trans c15, (World.cell?_setCell_other _ _ _ _ (by simp; try omega)).trans c7, (World.cell?_setCell_other _ _ _ _ (by simp; try omega)).trans c2⟩
          clear hK K
          (try simp only [Act.put, List.setIfInBounds_toArray, List.set_cons_zero, List.set_cons_succ, List.getElem_toArray, List.getElem_cons_zero, List.getElem_cons_succ])
          refine wpAnyH_done (by kernel_rfl) ?_ _
          refine NoPanic.normal ?_
          go_wp2_with fail
          go_roundw
          case rel => exact ⟨t + 1, _, by omega, by omega, by go_num, (fun i hi => by
              by_cases e : i = t
              · subst e; rw [upd_same]
              · rw [upd_ne _ _ e]; exact HF.out i (by omega)), HT3.out, (HK.out.drewN _).own _ _⟩
          case measure => simp [intOf]; omega
        · obtain rfl : t = 64 := by omega
          have hT : Tab wr 91 B 64 (wd part) := HT.out.congr HF.out
          have HT4 := Lib.hid hT
          obtain ⟨c, hcs, hc⟩ := HB0.out
          have hc2 := HK.out.heap hc (by rw [HBe.out]; omega)
          have hb2 : Below w.heap.size w wr := HB1.out.trans (HK.out.below (by have := HB1.out.size; omega) (fun k hk e => by rw [HBe.out] at e; omega))
          have HC2 := Lib.hid hc2
          have HCs := Lib.hid hcs
          have HB2 := Lib.hid hb2
          clear hcs hc hc2 hb2 hT hlt ht1 ht2 HF HT
          rw [show ((64 : Nat) : Int) = 64 from rfl]
          have hz : (wcells (tabL 64 (wd part))).toArray.size = 64 := by rw [List.size_toArray, wcells_length, tabL_len]
          have h64 : (Tryd.prog.info? 91).map (·.size) = some (wcells (tabL 64 (wd part))).toArray.size := by rw [words_info, hz]
          have hold : c.size = (wcells (tabL 64 (wd part))).toArray.size := by rw [HCs.out, hz]
          have H64 := Lib.hid h64
          have HOL := Lib.hid hold
          have HZ := Lib.hid hz
          have H1 := Lib.hid (wcells_one (tabL 64 (wd part)))
          have hsched : wcells (sched part 64) = wcells (tabL 64 (wd part)) := by rw [sched_is]; rfl
          have HS := Lib.hid hsched
          clear hz h64 hold hsched
          go_wp2_with (first
            | refine wpList_load_mid rfl 91 (.tmp 3) rfl B 0 rfl (wcells (tabL 64 (wd part))) _ HT4.out.range Tryd.underlying91 rfl (by rw [words_info, wcells_length, tabL_len]) ?_
            | refine wpList_store_row rfl 91 (.tmp 2) (.tmp 54) rfl w.heap.size 91 c (wcells (tabL 64 (wd part))).toArray rfl rfl HC2.out H64.out HOL.out H1.out ?_)
          refine bodyPost_ret (v := .agg (wcells (tabL 64 (wd part))).toArray) ?_ rfl ⟨by rw [HS.out], ?_⟩
          · exact results_cell_row Tryd.results71 _ _ w.heap.size 91 _ (0, 0) _ rfl (setRow_heap _ _ _ _ _ _ HC2.out) Tryd.underlying91 rfl H64.out
          · exact (HB2.out.trans ((keep_row _ _ _).below HB2.out.size (fun k hk e => by omega)))

end Go.Proofs.YtncpjapfkcgjnaaDoor
namespace Go.Proofs.YtncpjapfkcgjnaaDoor
set_option linter.unusedVariables false
set_option linter.unusedSimpArgs false
open Go.RowKit

/-- The table of roots lies in the first block. -/
def Roots (w : World) : Prop := 0 < w.heap.size ∧ ∀ i, i < 64 → w.cell? ⟨0, i, none⟩ = some (.int .u32 (kAt i).n)

theorem Roots.keep {S : Nat → Prop} {w w' : World} (h : Roots w) (k : Keep S w w') (hn : ¬ S 0) : Roots w' :=
  ⟨Nat.lt_of_lt_of_le h.1 k.size, fun i hi => (k.cell (p := ⟨0, i, none⟩) h.1 hn).trans (h.2 i hi)⟩
theorem Roots.below {w w' : World} (h : Roots w) (k : Below w.heap.size w w') : Roots w' := h.keep (Keep.of_below (fun _ => False) k) (fun x => x)
theorem Roots.drewN {w : World} (h : Roots w) (n : Nat) : Roots (w.drewN n) := h

theorem below_drewN {B : Nat} {w w' : World} (h : Below B w w') (n : Nat) : Below B w (w'.drewN n) := ⟨h.os, h.tape, h.output, h.size, h.block⟩

/-- Word i of a state. -/
def St.at (s : St) (i : Nat) : Wd := s.words.getD i (Wd.of 0)
theorem words_tab (s : St) : s.words = tabL 8 s.at := rfl
theorem st_at {s : St} {i : Nat} (h : i < 8) : s.words[i]? = some (s.at i) := by
  rw [words_tab, tabL_at _ h]
theorem plus_at (s v : St) (i : Nat) (h : i < 8) : (s.plus v).at i = (s.at i).add (v.at i) := by
  match i, h with
  | 0, _ => rfl
  | 1, _ => rfl
  | 2, _ => rfl
  | 3, _ => rfl
  | 4, _ => rfl
  | 5, _ => rfl
  | 6, _ => rfl
  | 7, _ => rfl

/-- The first k words of s are those of s and v together. -/
def partly (s v : St) (k : Nat) : Nat → Wd := fun i => if i < k then (s.plus v).at i else s.at i

theorem partly_step (s v : St) {k : Nat} (h : k < 8) : ∀ i, upd (partly s v k) k ((s.at k).add (v.at k)) i = partly s v (k + 1) i := fun i => by
  by_cases e : i = k
  · subst e
    rw [upd_same, partly, if_pos (by omega), plus_at _ _ _ h]
  · rw [upd_ne _ _ e]
    simp only [partly]
    by_cases q : i < k
    · rw [if_pos q, if_pos (by omega)]
    · rw [if_neg q, if_neg (by omega)]

/-- A message whose state is told by a function. -/
def MsgW (w : World) (p : Nat) (f : Nat → Wd) (part : List UInt8) (size : Nat) : Prop :=
  w.heap[p]? = some (.cells (wcells (tabL 8 f) ++ (Lib.byteCells part ++ [Value.int .i64 size])).toArray 114 (0, 0))

namespace MsgW
variable {w w' : World} {p : Nat} {f : Nat → Wd} {part : List UInt8} {size : Nat}
theorem of (s : St) (h : MsgAt w p s part size) : MsgW w p s.at part size := h.row
theorem to {s : St} (h : MsgW w p s.at part size) (hl : part.length = 64) : MsgAt w p s part size := ⟨hl, h⟩
theorem keep {S : Nat → Prop} (h : MsgW w p f part size) (k : Keep S w w') (hn : ¬ S p) : MsgW w' p f part size := k.heap h hn
theorem drewN (h : MsgW w p f part size) (k : Nat) : MsgW (w.drewN k) p f part size := h
theorem cell (h : MsgW w p f part size) {i : Nat} (hi : i < 8) : w.cell? ⟨p, i, none⟩ = some (.int .u32 (f i).n) := by
  rw [cell_at h i]
  simp only [List.getElem?_toArray]
  rw [List.getElem?_append_left (by rw [wcells_length, tabL_len]; exact hi)]
  exact wcells_at _ (tabL_at f hi)
theorem fr (h : MsgW w p f part size) (i : Nat) : w.frozen? ⟨p, i, none⟩ = false := free_at h i
theorem set (h : MsgW w p f part size) {i : Nat} (hi : i < 8) (x : Wd) : MsgW (w.setCell ⟨p, i, none⟩ (.int .u32 x.n)) p (upd f i x) part size := by
  have h1 := heap_set h i (.int .u32 x.n)
  unfold MsgW
  rw [h1, ← tabL_set 8 f i x hi]
  congr 2
  apply Array.ext'
  simp only [Array.toList_setIfInBounds]
  rw [List.set_append_left _ _ (by rw [wcells_length, tabL_len]; exact hi)]
  simp [wcells, List.map_set]
theorem congr {g : Nat → Wd} (h : MsgW w p f part size) (e : ∀ i, i < 8 → f i = g i) : MsgW w p g part size := by
  unfold MsgW at h ⊢
  rw [← tabL_congr e]; exact h
end MsgW

/-- The table is no message. -/
theorem MsgAt.ne_roots {w : World} {p : Nat} {s : St} {part : List UInt8} {size : Nat} (h : MsgAt w p s part size) (hr : Roots w) : p ≠ 0 := by
  intro e
  subst e
  have hl : 0 < part.length := by rw [h.len]; omega
  have h1 := h.byte (i := 0) (List.getElem?_eq_getElem hl)
  rw [hr.2 8 (by omega)] at h1
  injection h1 with h1
  injection h1 with h1 _
  cases h1

theorem index_word {w : World} (v : St) {k : Nat} (h : k < 8) :
    (Instr.index 88 (.agg #[.int .u32 v.a.n, .int .u32 v.b.n, .int .u32 v.c.n, .int .u32 v.d.n, .int .u32 v.e.n, .int .u32 v.f.n, .int .u32 v.g.n, .int .u32 v.h.n]) (.int .i64 (k : Int))).run Tryd.prog w = .ok (.int .u32 (v.at k).n) w := by
  have hu : (Tryd.prog.info? 87).map (fun i => (i.zero, i.size, i.bytes)) = some (some (.int .u32 0), 1, 4) := by kernel_rfl
  obtain ⟨i1, hi, hz0, hz1, hz2⟩ := info_parts hu
  refine run_index_agg w 88 87 8 i1 _ Tryd.underlying88 Tryd.underlying87 rfl hi hz1 _ .i64 k h _ ?_
  have := wcells_at _ (st_at (s := v) h)
  simpa [wcells, St.words] using this

set_option maxRecDepth 100000 in
set_option maxHeartbeats 3200000 in
theorem mix_any (p : Nat) (s : St) (part : List UInt8) (size : Nat) (w : World) (h : MsgAt w p s part size) (hr : Roots w) :
    Calls Tryd.prog 66 #[.pointer (some ⟨p, 0, none⟩)] w fun r w' => r = .returned (.tuple #[]) ∧ MsgAt w' p (mixed s part) part size ∧ Keep (· = p) w w' := by
  have hp := h.ne_roots hr
  have H := Lib.hid h
  have HR := Lib.hid hr
  have hlt := h.lt
  have HP := Lib.hid hp
  have HLn := Lib.hid h.len
  clear h hr hp
  go_enter Tryd.func66, Tryd.ntmps66
  go_wp2_with fail
  refine (sched_any p s part size w H.out).mono ?_
  rintro r w1 ⟨rfl, hb⟩
  have HB := Lib.hid hb
  have hsz := hb.size
  have h64 : (Tryd.prog.info? 91).map (·.size) = some (wcells (sched part 64)).toArray.size := by rw [words_info, List.size_toArray, wcells_length, sched_len]
  have H64 := Lib.hid h64
  have H1 := Lib.hid (wcells_one (sched part 64))
  obtain ⟨X, hX⟩ : ∃ X, X = (wcells (sched part 64)).toArray := ⟨_, rfl⟩
  rw [← hX] at H64 H1 ⊢
  have HX := Lib.hid hX
  clear hb h64 hX
  go_wp2_with (refine wpList_store_row rfl 91 (.tmp 2) (.tmp 19) rfl w1.heap.size 91 _ X rfl rfl (heap_alloc_new _ _) H64.out (by have := H64.out; rw [words_info] at this; injection this) H1.out ?_; rw [World.setRow_alloc_new])
  obtain ⟨B, hB⟩ : ∃ B, B = w1.heap.size := ⟨_, rfl⟩
  obtain ⟨w2, hw2⟩ : ∃ w2, w2 = w1.alloc (.cells X 91) := ⟨_, rfl⟩
  have hT : Tab w2 91 B 64 (wd part) := by
    unfold Tab
    rw [hw2, hB, heap_alloc_new, HX.out, sched_is]
    rfl
  have hk2 : Below w.heap.size w w2 := by rw [hw2]; exact HB.out.alloc HB.out.size _
  have hBg : w.heap.size ≤ B := by rw [hB]; exact HB.out.size
  rw [← hB, ← hw2]
  have HT := Lib.hid hT
  have HK2 := Lib.hid hk2
  have HM := Lib.hid (H.out.below hk2)
  have HR2 := Lib.hid (HR.out.below hk2)
  clear hT hk2 hB hw2 HB hsz H64 H1 HX
  have c0 := HM.out.word (i := 0) rfl
  have c1 := HM.out.word (i := 1) rfl
  have c2 := HM.out.word (i := 2) rfl
  have c3 := HM.out.word (i := 3) rfl
  have c4 := HM.out.word (i := 4) rfl
  have c5 := HM.out.word (i := 5) rfl
  have c6 := HM.out.word (i := 6) rfl
  have c7 := HM.out.word (i := 7) rfl
  go_wp2_with fail
  go_quiet (fail)
  go_wp2_with fail
  go_quiet (fail)
  clear c0 c1 c2 c3 c4 c5 c6 c7
  go_wp2_with fail
  go_loopw [3, 4, 5, 6, 7, 8, 9, 10, 60] (fun a b c d e f g h i wr => ∃ (t m : Nat) (v : St), t ≤ 64 ∧ i = .int .i64 t ∧ a = .int .u32 v.a.n ∧ b = .int .u32 v.b.n ∧ c = .int .u32 v.c.n ∧ d = .int .u32 v.d.n ∧ e = .int .u32 v.e.n ∧ f = .int .u32 v.f.n ∧ g = .int .u32 v.g.n ∧ h = .int .u32 v.h.n ∧ Hid (v = rounds s part t) ∧ Hid (wr = w2.drewN m)) (fun _ _ _ _ _ _ _ _ i _ => 64 - (intOf i).toNat)
  case atStart => exact ⟨0, _, s, by omega, rfl, rfl, rfl, rfl, rfl, rfl, rfl, rfl, rfl, rfl, World.drewN_drewN _ _ _⟩
  case round =>
    obtain ⟨t, m, v, ht, rfl, rfl, rfl, rfl, rfl, rfl, rfl, rfl, rfl, HV, HW⟩ := hrel
    by_cases hlt : t < 64
    · obtain ⟨va, vb, vc, vd, ve, vf, vg, vh⟩ := v
      simp only
      have r1 := (HR2.out.drewN m).2 t hlt
      have r2 := (HT.out.drewN m).cell hlt
      rw [← HW.out] at r1 r2
      have HN : Hid (round ⟨va, vb, vc, vd, ve, vf, vg, vh⟩ (kAt t) (wd part t) = rounds s part (t + 1)) := by
        show _ = round (rounds s part t) (kAt t) (wd part t)
        rw [← HV.out]
      clear HV
      generalize kAt t = kt at r1 HN
      generalize wd part t = wt at r2 HN
      have e1 := Wd.and_is ve vf
      have e2 := Wd.not_is ve
      have e2' : bits .xor .u32 IntKind.u32.max ve.n = ve.not.n := Wd.not_is ve
      have e3 := Wd.and_is ve.not vg
      have e4 := Wd.xor_is (ve.and vf) (ve.not.and vg)
      have e5 := Wd.and_is va vb
      have e6 := Wd.and_is va vc
      have e7 := Wd.xor_is (va.and vb) (va.and vc)
      have e8 := Wd.and_is vb vc
      have e9 := Wd.xor_is ((va.and vb).xor (va.and vc)) (vb.and vc)
      obtain ⟨ch, hch⟩ : ∃ ch, ch = Wd.ch ve vf vg := ⟨_, rfl⟩
      obtain ⟨mj, hmj⟩ : ∃ mj, mj = Wd.maj va vb vc := ⟨_, rfl⟩
      rw [show (ve.and vf).xor (ve.not.and vg) = ch from hch.symm] at e4
      rw [show ((va.and vb).xor (va.and vc)).xor (vb.and vc) = mj from hmj.symm] at e9
      have f1 := Wd.add_is vh (ve.big 6 11 25)
      have k1 := Wd.add_is' vh (ve.big 6 11 25)
      have f2 := Wd.add_is (vh.add (ve.big 6 11 25)) ch
      have k2 := Wd.add_is' (vh.add (ve.big 6 11 25)) ch
      have f3 := Wd.add_is ((vh.add (ve.big 6 11 25)).add ch) kt
      have k3 := Wd.add_is' ((vh.add (ve.big 6 11 25)).add ch) kt
      have f4 := Wd.add_is (((vh.add (ve.big 6 11 25)).add ch).add kt) wt
      have k4 := Wd.add_is' (((vh.add (ve.big 6 11 25)).add ch).add kt) wt
      obtain ⟨x1, hx1⟩ : ∃ x1, x1 = t1 ⟨va, vb, vc, vd, ve, vf, vg, vh⟩ kt wt := ⟨_, rfl⟩
      rw [show (((vh.add (ve.big 6 11 25)).add ch).add kt).add wt = x1 from by rw [hx1, hch]; rfl] at f4 k4
      have f5 := Wd.add_is (va.big 2 13 22) mj
      obtain ⟨x2, hx2⟩ : ∃ x2, x2 = t2 ⟨va, vb, vc, vd, ve, vf, vg, vh⟩ := ⟨_, rfl⟩
      rw [show (va.big 2 13 22).add mj = x2 from by rw [hx2, hmj]; rfl] at f5
      have f6 := Wd.add_is x1 x2
      have f7 := Wd.add_is vd x1
      have g5 := Wd.add_is' (va.big 2 13 22) mj
      rw [show (va.big 2 13 22).add mj = x2 from by rw [hx2, hmj]; rfl] at g5
      have g6 := Wd.add_is' x1 x2
      have g7 := Wd.add_is' vd x1
      have HX1 := Lib.hid hx1
      have HX2 := Lib.hid hx2
      clear hx1 hx2 hch hmj
      go_wp2_with fail
      go_quiet ((go_at_call 72; exact quiet_is (turn_seal ve 6 11 25 _ (by omega) (by omega) (by omega) (by omega) (by omega) (by omega))))
      go_wp2_with fail
      refine (turn_seal va 2 13 22 _ (by omega) (by omega) (by omega) (by omega) (by omega) (by omega)).mono ?_
      rintro r w3 ⟨rfl, rfl⟩
      go_wp2_with fail
      go_roundw
      case rel => exact ⟨t + 1, m + nq, ⟨x1.add x2, va, vb, vc, vd.add x1, ve, vf, vg⟩, by omega, by go_num, rfl, rfl, rfl, rfl, rfl, rfl, rfl, rfl, by show _ = _; rw [← HN.out, HX1.out, HX2.out]; rfl, by show _ = _; rw [HW.out]; exact World.drewN_drewN _ _ _⟩
      case measure => simp [intOf]; omega
    · obtain rfl : t = 64 := by omega
      have HM3 : Hid (MsgW wr p s.at part size) := by
        show MsgW wr p s.at part size
        rw [HW.out]; exact MsgW.of s (HM.out.drewN _)
      have HK3 : Hid (Below w.heap.size w wr) := by
        show Below _ _ _
        rw [HW.out]; exact below_drewN HK2.out _
      have hmx : s.plus v = mixed s part := by rw [HV.out]; rfl
      have HX := Lib.hid hmx
      have hix : ∀ k : Nat, k < 8 → ∀ W, (Instr.index 88 (.agg #[.int .u32 v.a.n, .int .u32 v.b.n, .int .u32 v.c.n, .int .u32 v.d.n, .int .u32 v.e.n, .int .u32 v.f.n, .int .u32 v.g.n, .int .u32 v.h.n]) (.int .i64 (k : Int))).run Tryd.prog W = .ok (.int .u32 (v.at k).n) W := fun k hk W => index_word v hk
      have HI := Lib.hid hix
      clear hix hmx HV HW hlt ht
      obtain ⟨wb, rfl⟩ : ∃ wb : World, wb = wr := ⟨_, rfl⟩
      rw [show ((64 : Nat) : Int) = 64 from rfl]
      go_wp2_with fail
      go_loopw [122] (fun i wr => ∃ k : Nat, k ≤ 8 ∧ i = .int .i64 k ∧ Hid (MsgW wr p (partly s v k) part size) ∧ Hid (Keep (· = p) wb wr)) (fun i _ => 8 - (intOf i).toNat)
      case atStart => exact ⟨0, by omega, rfl, HM3, Keep.refl _ _⟩
      case round =>
        obtain ⟨k, hk, rfl, HQ, HK⟩ := hrel
        by_cases hlt : k < 8
        · have hi := HI.out k hlt
          have rk := HQ.out.cell hlt
          have rf := HQ.out.fr k
          have HS := Lib.hid ((HQ.out.set hlt ((s.at k).add (v.at k))).congr (fun i _ => partly_step s v hlt i))
          have rk' : partly s v k k = s.at k := by simp [partly]
          rw [rk'] at rk
          generalize s.at k = sk at rk HS
          generalize v.at k = vk at hi HS
          have e1 := Wd.add_is sk vk
          have hki : ((k : Nat) : Int) < 8 := by omega
          clear rk'
          go_wp2_with fail
          refine wp_region_noPanic ?_
          refine wp_region_held_drew (S := fun _ => True) (by kernel_rfl) trivial (fun hHeld => ?_)
          refine wpAnyH_take (i := 0) (oi := _) (v := ?vb0) rfl (by kernel_rfl) (by kernel_rfl) (by kernel_rfl) (fun _ _ _ h => h) (Or.inl ⟨by rfl, ?hyb0⟩) (by assumption) ?restb0
          case hyb0 => (intro w hSw; (try dsimp only at hSw); (try simp only [List.getElem_toArray, List.getElem_cons_zero, List.getElem_cons_succ]); go_simp; (try with_reducible rfl))
          (try simp only [Act.put, List.setIfInBounds_toArray, List.set_cons_zero, List.set_cons_succ, List.getElem_toArray, List.getElem_cons_zero, List.getElem_cons_succ])
          refine wpAnyH_take (i := 1) (oi := _) (v := ?vb1) rfl (by kernel_rfl) (by kernel_rfl) (by kernel_rfl) (fun _ _ _ h => h) (Or.inl ⟨by rfl, ?hyb1⟩) (by assumption) ?restb1
          case hyb1 => (intro w hSw; (try dsimp only at hSw); (try simp only [List.getElem_toArray, List.getElem_cons_zero, List.getElem_cons_succ]); go_simp; (try with_reducible rfl))
          (try simp only [Act.put, List.setIfInBounds_toArray, List.set_cons_zero, List.set_cons_succ, List.getElem_toArray, List.getElem_cons_zero, List.getElem_cons_succ])
          refine wpAnyH_take (i := 2) (oi := _) (v := ?vb2) rfl (by kernel_rfl) (by kernel_rfl) (by kernel_rfl) (fun _ _ _ h => h) (Or.inl ⟨by rfl, ?hyb2⟩) (by assumption) ?restb2
          case hyb2 => (intro w hSw; (try dsimp only at hSw); (try simp only [List.getElem_toArray, List.getElem_cons_zero, List.getElem_cons_succ]); go_simp; (try with_reducible rfl))
          (try simp only [Act.put, List.setIfInBounds_toArray, List.set_cons_zero, List.set_cons_succ, List.getElem_toArray, List.getElem_cons_zero, List.getElem_cons_succ])
          refine wpAnyH_take (i := 3) (oi := _) (v := ?vb3) rfl (by kernel_rfl) (by kernel_rfl) (by kernel_rfl) (fun _ _ _ h => h) (Or.inl ⟨by rfl, ?hyb3⟩) (by assumption) ?restb3
          case hyb3 => (intro w hSw; (try dsimp only at hSw); (try simp only [List.getElem_toArray, List.getElem_cons_zero, List.getElem_cons_succ]); go_simp; (try with_reducible rfl))
          (try simp only [Act.put, List.setIfInBounds_toArray, List.set_cons_zero, List.set_cons_succ, List.getElem_toArray, List.getElem_cons_zero, List.getElem_cons_succ])
          refine wpAnyH_take (i := 4) (oi := _) (v := ?vb4) rfl (by kernel_rfl) (by kernel_rfl) (by kernel_rfl) (fun _ _ _ h => h) (Or.inl ⟨by rfl, ?hyb4⟩) (by assumption) ?restb4
          case hyb4 => (intro w hSw; (try dsimp only at hSw); (try simp only [List.getElem_toArray, List.getElem_cons_zero, List.getElem_cons_succ]); go_simp; (try with_reducible rfl))
          (try simp only [Act.put, List.setIfInBounds_toArray, List.set_cons_zero, List.set_cons_succ, List.getElem_toArray, List.getElem_cons_zero, List.getElem_cons_succ])
          refine wpAnyH_take (i := 6) (oi := _) (v := ?vb6) rfl (by kernel_rfl) (by kernel_rfl) (by kernel_rfl) (fun _ _ _ h => h) (Or.inl ⟨by rfl, ?hyb6⟩) (by assumption) ?restb6
          case hyb6 => (intro w hSw; (try dsimp only at hSw); (try simp only [List.getElem_toArray, List.getElem_cons_zero, List.getElem_cons_succ]); go_simp; (try with_reducible rfl))
          (try simp only [Act.put, List.setIfInBounds_toArray, List.set_cons_zero, List.set_cons_succ, List.getElem_toArray, List.getElem_cons_zero, List.getElem_cons_succ])
          refine wpAnyH_take (i := 8) (oi := _) (v := ?vb8) rfl (by kernel_rfl) (by kernel_rfl) (by kernel_rfl) (fun _ _ _ h => h) (Or.inl ⟨by rfl, ?hyb8⟩) (by assumption) ?restb8
          case hyb8 => (intro w hSw; (try dsimp only at hSw); (try simp only [List.getElem_toArray, List.getElem_cons_zero, List.getElem_cons_succ]); go_simp; (try with_reducible rfl))
          (try simp only [Act.put, List.setIfInBounds_toArray, List.set_cons_zero, List.set_cons_succ, List.getElem_toArray, List.getElem_cons_zero, List.getElem_cons_succ])
          refine wpAnyH_take (i := 9) (oi := _) (v := ?vb9) rfl (by kernel_rfl) (by kernel_rfl) (by kernel_rfl) (fun _ _ _ h => h) (Or.inl ⟨by rfl, ?hyb9⟩) (by assumption) ?restb9
          case hyb9 => (intro w hSw; (try dsimp only at hSw); (try simp only [List.getElem_toArray, List.getElem_cons_zero, List.getElem_cons_succ]); go_simp; (try with_reducible rfl))
          (try simp only [Act.put, List.setIfInBounds_toArray, List.set_cons_zero, List.set_cons_succ, List.getElem_toArray, List.getElem_cons_zero, List.getElem_cons_succ])
          refine wpAnyH_ready (rs := [5]) (by kernel_rfl) (by simp) ?_
          refine AllReadyH.cons (o := _) rfl (fun K hK => ?_) AllReadyH.nil
          (try simp only [List.getElem_toArray, List.getElem_cons_zero, List.getElem_cons_succ])
          go_simp
          refine hK.out _ _ ?_ (fun hHeld => ?_)
          · exact trivial
          clear hK K
          (try simp only [Act.put, List.setIfInBounds_toArray, List.set_cons_zero, List.set_cons_succ, List.getElem_toArray, List.getElem_cons_zero, List.getElem_cons_succ])
          refine wpAnyH_take (i := 7) (oi := _) (v := ?vb7) rfl (by kernel_rfl) (by kernel_rfl) (by kernel_rfl) (fun _ _ _ h => h) (Or.inl ⟨by rfl, ?hyb7⟩) (by assumption) ?restb7
          case hyb7 => (intro w hSw; (try dsimp only at hSw); (try simp only [List.getElem_toArray, List.getElem_cons_zero, List.getElem_cons_succ]); go_simp; (try with_reducible rfl))
          (try simp only [Act.put, List.setIfInBounds_toArray, List.set_cons_zero, List.set_cons_succ, List.getElem_toArray, List.getElem_cons_zero, List.getElem_cons_succ])
          refine wpAnyH_take (i := 10) (oi := _) (v := ?vb10) rfl (by kernel_rfl) (by kernel_rfl) (by kernel_rfl) (fun _ _ _ h => h) (Or.inl ⟨by rfl, ?hyb10⟩) (by assumption) ?restb10
          case hyb10 => (intro w hSw; (try dsimp only at hSw); (try simp only [List.getElem_toArray, List.getElem_cons_zero, List.getElem_cons_succ]); go_simp; (try with_reducible rfl))
          (try simp only [Act.put, List.setIfInBounds_toArray, List.set_cons_zero, List.set_cons_succ, List.getElem_toArray, List.getElem_cons_zero, List.getElem_cons_succ])
          refine wpAnyH_ready (rs := [11]) (by kernel_rfl) (by simp) ?_
          refine AllReadyH.cons (o := _) rfl (fun K hK => ?_) AllReadyH.nil
          (try simp only [List.getElem_toArray, List.getElem_cons_zero, List.getElem_cons_succ])
          go_simp
          refine hK.out _ _ ?_ (fun hHeld => ?_)
          · exact trivial
          clear hK K
          (try simp only [Act.put, List.setIfInBounds_toArray, List.set_cons_zero, List.set_cons_succ, List.getElem_toArray, List.getElem_cons_zero, List.getElem_cons_succ])
          refine wpAnyH_done (by kernel_rfl) ?_ _
          refine NoPanic.normal ?_
          go_wp2_with fail
          go_roundw
          case rel => exact ⟨k + 1, by omega, by go_num, HS.out, (HK.out.own _ _).drew⟩
          case measure => simp [intOf]; omega
        · obtain rfl : k = 8 := by omega
          go_wp2_with fail
          go_end0
          refine ⟨rfl, ?_, ?_⟩
          · rw [← HX.out]
            refine MsgW.to (HQ.out.congr fun i hi => ?_) HLn.out
            simp [partly, hi]
          · exact (Keep.of_below _ HK3.out).trans HK.out (fun _ _ e => e)
end Go.Proofs.YtncpjapfkcgjnaaDoor
