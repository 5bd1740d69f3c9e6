/- SHA-256 and its tags, on lists of bytes and words of 32 bits. Speaks of no program. Own work. -/
import Derived.Laws.BitsAllLaws
namespace Go.Proofs.YtncfnpibigohoaaDoor
set_option linter.unusedVariables false

/-- A word of 32 bits. -/
def Wd : Type := BitVec 32

namespace Wd
def nat (x : Wd) : Nat := BitVec.toNat x
/-- As a number of Go's. -/
def n (x : Wd) : Int := (x.nat : Int)
def of (k : Nat) : Wd := BitVec.ofNat 32 k
def xor (x y : Wd) : Wd := BitVec.xor x y
def and (x y : Wd) : Wd := BitVec.and x y
def or (x y : Wd) : Wd := BitVec.or x y
def not (x : Wd) : Wd := BitVec.not x
def add (x y : Wd) : Wd := BitVec.add x y
def shr (x : Wd) (k : Nat) : Wd := BitVec.ushiftRight x k
def shl (x : Wd) (k : Nat) : Wd := BitVec.shiftLeft x k
/-- Turned to the right. -/
def rot (x : Wd) (k : Nat) : Wd := or (shr x k) (shl x (32 - k))
def big (x : Wd) (i j k : Nat) : Wd := xor (xor (rot x i) (rot x j)) (rot x k)
def small (x : Wd) (i j k : Nat) : Wd := xor (xor (rot x i) (rot x j)) (shr x k)
def ch (e f g : Wd) : Wd := xor (and e f) (and (not e) g)
def maj (a b c : Wd) : Wd := xor (xor (and a b) (and a c)) (and b c)
instance : DecidableEq Wd := inferInstanceAs (DecidableEq (BitVec 32))
instance : Inhabited Wd := ⟨of 0⟩
end Wd

/-- The state. -/
structure St where
  a : Wd
  b : Wd
  c : Wd
  d : Wd
  e : Wd
  f : Wd
  g : Wd
  h : Wd
deriving DecidableEq

def St.words (s : St) : List Wd := [s.a, s.b, s.c, s.d, s.e, s.f, s.g, s.h]

def kTable : List Nat := [1116352408, 1899447441, 3049323471, 3921009573, 961987163, 1508970993, 2453635748, 2870763221, 3624381080, 310598401, 607225278, 1426881987, 1925078388, 2162078206, 2614888103, 3248222580, 3835390401, 4022224774, 264347078, 604807628, 770255983, 1249150122, 1555081692, 1996064986, 2554220882, 2821834349, 2952996808, 3210313671, 3336571891, 3584528711, 113926993, 338241895, 666307205, 773529912, 1294757372, 1396182291, 1695183700, 1986661051, 2177026350, 2456956037, 2730485921, 2820302411, 3259730800, 3345764771, 3516065817, 3600352804, 4094571909, 275423344, 430227734, 506948616, 659060556, 883997877, 958139571, 1322822218, 1537002063, 1747873779, 1955562222, 2024104815, 2227730452, 2361852424, 2428436474, 2756734187, 3204031479, 3329325298]
def kAt (t : Nat) : Wd := Wd.of (kTable.getD t 0)
def st0 : St := ⟨Wd.of 1779033703, Wd.of 3144134277, Wd.of 1013904242, Wd.of 2773480762, Wd.of 1359893119, Wd.of 2600822924, Wd.of 528734635, Wd.of 1541459225⟩

def t1 (s : St) (k w : Wd) : Wd := (((s.h.add (Wd.big s.e 6 11 25)).add (Wd.ch s.e s.f s.g)).add k).add w
def t2 (s : St) : Wd := (Wd.big s.a 2 13 22).add (Wd.maj s.a s.b s.c)
def round (s : St) (k w : Wd) : St := ⟨(t1 s k w).add (t2 s), s.a, s.b, s.c, s.d.add (t1 s k w), s.e, s.f, s.g⟩

/-- Four bytes as a word. -/
def word (b : List UInt8) (t : Nat) : Wd :=
  Wd.of ((b.getD (4 * t) 0).toNat * 16777216 + (b.getD (4 * t + 1) 0).toNat * 65536 + (b.getD (4 * t + 2) 0).toNat * 256 + (b.getD (4 * t + 3) 0).toNat)

def at' (l : List Wd) (k : Nat) : Wd := l.getD k (Wd.of 0)

/-- The next word behind those of l. -/
def next (l : List Wd) (t : Nat) : Wd :=
  (((at' l (t - 16)).add (Wd.small (at' l (t - 15)) 7 18 3)).add (at' l (t - 7))).add (Wd.small (at' l (t - 2)) 17 19 10)

def sched (b : List UInt8) : Nat → List Wd
  | 0 => []
  | t + 1 => sched b t ++ [if t < 16 then word b t else next (sched b t) t]

/-- The word of a round. -/
def wd (b : List UInt8) (t : Nat) : Wd := at' (sched b (t + 1)) t

def rounds (s : St) (b : List UInt8) : Nat → St
  | 0 => s
  | t + 1 => round (rounds s b t) (kAt t) (wd b t)

def St.plus (s v : St) : St := ⟨s.a.add v.a, s.b.add v.b, s.c.add v.c, s.d.add v.d, s.e.add v.e, s.f.add v.f, s.g.add v.g, s.h.add v.h⟩

def mixed (s : St) (b : List UInt8) : St := s.plus (rounds s b 64)

/-- Block n. -/
def blockAt (l : List UInt8) (n : Nat) : List UInt8 := (l.drop (64 * n)).take 64

def run (l : List UInt8) : Nat → St
  | 0 => st0
  | n + 1 => mixed (run l n) (blockAt l n)

/-- A number in bytes, the highest first. -/
def be (n : Nat) : Nat → List UInt8
  | 0 => []
  | k + 1 => UInt8.ofNat (n >>> (8 * k)) :: be n k

def endOf (size : Nat) : List UInt8 := 128 :: (List.replicate ((119 - size % 64) % 64) 0 ++ be (8 * size) 8)

def padded (l : List UInt8) : List UInt8 := l ++ endOf l.length

def outOf (s : St) : List UInt8 := s.words.flatMap fun x => be x.nat 4

def digest (l : List UInt8) : List UInt8 := outOf (run (padded l) ((padded l).length / 64))

def keyOf (key : List UInt8) : List UInt8 := if 64 < key.length then digest key else key

def turned (key : List UInt8) (p : UInt8) : List UInt8 := (key ++ List.replicate (64 - key.length) 0).map (· ^^^ p)

def tagL (key text : List UInt8) : List UInt8 := (digest (turned (keyOf key) 92 ++ digest (turned (keyOf key) 54 ++ text))).take 16

end Go.Proofs.YtncfnpibigohoaaDoor
