/- emu over numbers and functions of a place: the model of a terminal, and what it does. Own work. What grid's calls leave, by the model's words. Own work. What a terminal does leaves one that may be, of its size. Own work. -/
import Derived.Test.YtnminmaklbhakaaGreatDoorEscs
import Derived.Test.YtnminmaklbhakaaGreatDoorCharts
import Derived.Test.YtnminmaklbhakaaGreatDoorGrids
set_option linter.unusedVariables false
set_option linter.unusedSimpArgs false
namespace Go.Proofs.YtnminmaklbhakaaGreatDoor
set_option linter.unusedVariables false
set_option linter.unusedSimpArgs false

/-- Cells that move, or are set: by places. -/
def upF (W t b k : Nat) (x : CellM) (F : Nat → CellM) (i : Nat) : CellM := if t * W ≤ i ∧ i < b * W then (if i + k * W < b * W then F (i + k * W) else x) else F i
def downF (W t b k : Nat) (x : CellM) (F : Nat → CellM) (i : Nat) : CellM := if t * W ≤ i ∧ i < b * W then (if i < t * W + k * W then x else F (i - k * W)) else F i
def rightF (W x y k : Nat) (b : CellM) (F : Nat → CellM) (i : Nat) : CellM := if y * W + x ≤ i ∧ i < y * W + W then (if i < y * W + x + k then b else F (i - k)) else F i
def leftF (W x y k : Nat) (b : CellM) (F : Nat → CellM) (i : Nat) : CellM := if y * W + x ≤ i ∧ i < y * W + W then (if i + k < y * W + W then F (i + k) else b) else F i
def fillF (s t : Nat) (b : CellM) (F : Nat → CellM) (i : Nat) : CellM := if s ≤ i ∧ i < t then b else F i
def setF (a : Nat) (c : CellM) (F : Nat → CellM) (i : Nat) : CellM := if i = a then c else F i

/-- What can be saved. -/
structure StM where
  x : Nat
  y : Nat
  pen : At
  origin : Bool
  s0 : Nat
  s1 : Nat
  use : Nat
def StM.z : StM := ⟨0, 0, .z, false, 66, 66, 0⟩

structure EmM where
  W : Nat
  H : Nat
  F : Nat → CellM
  O : Option (Nat → CellM)
  stops : List Bool
  top : Nat
  bottom : Nat
  st : StM
  sv : StM
  late : Bool
  ins : Bool
  wrap : Bool
  hid : Bool

def blankM (a : At) : CellM := ⟨32, ⟨0, a.bg, false, false, false⟩⟩
def clampN (x : Int) (n : Nat) : Nat := (min (max x 0) ((n : Int) - 1)).toNat

namespace EmM
def new (W H : Nat) : EmM := ⟨W, H, fun _ => blankC, none, newL W, 0, H, .z, .z, false, false, true, false⟩
def shown (m : EmM) : Nat → CellM := match m.O with | none => m.F | some G => G
def put (m : EmM) (G : Nat → CellM) : EmM := match m.O with | none => { m with F := G } | some _ => { m with O := some G }
def blank (m : EmM) : CellM := blankM m.st.pen
def goTo (m : EmM) (x y : Int) : EmM := { m with st := { m.st with x := clampN x m.W, y := clampN y m.H }, late := false }
def index (m : EmM) : EmM := if m.st.y + 1 = m.bottom then (m.put (upF m.W m.top m.bottom 1 m.blank m.shown)).goTo m.st.x m.st.y else m.goTo m.st.x ((m.st.y : Int) + 1)
def reverse (m : EmM) : EmM := if m.st.y = m.top then (m.put (downF m.W m.top m.bottom 1 m.blank m.shown)).goTo m.st.x m.st.y else m.goTo m.st.x ((m.st.y : Int) - 1)
def place (m : EmM) : Nat := m.st.y * m.W + m.st.x
def setX0 (m : EmM) : EmM := { m with st := { m.st with x := 0 } }
def charset (m : EmM) : Nat := if m.st.use = 0 then m.st.s0 else m.st.s1
def mapped (m : EmM) (r : Nat) : Int := if r < 128 then mapM m.charset r else r
def insOne (m : EmM) : EmM := if m.ins = true then m.put (rightF m.W m.st.x m.st.y 1 m.blank m.shown) else m
def setOne (m : EmM) (r : Int) : EmM := m.put (setF m.place ⟨r, m.st.pen⟩ m.shown)
def wrapOne (m : EmM) : EmM := if m.late = true ∧ m.wrap = true then m.setX0.index else m
def after (m : EmM) : EmM := { m.goTo ((m.st.x : Int) + 1) m.st.y with late := decide (m.st.x + 1 = m.W) && m.wrap }
def print (m : EmM) (r : Nat) : EmM := (m.wrapOne.insOne.setOne (m.wrapOne.mapped r)).after
def control (m : EmM) (b : Nat) : EmM :=
  if b = 8 then m.goTo ((m.st.x : Int) - 1) m.st.y
  else if b = 9 then m.goTo (nextL m.stops m.st.x) m.st.y
  else if b = 10 ∨ b = 11 ∨ b = 12 then m.index
  else if b = 13 then m.goTo 0 m.st.y
  else if b = 14 then { m with st := { m.st with use := 1 } }
  else if b = 15 then { m with st := { m.st with use := 0 } }
  else m
def save (m : EmM) : EmM := { m with sv := m.st }
def restore (m : EmM) : EmM := ({ m with st := m.sv }).goTo m.sv.x m.sv.y
def choose (m : EmM) (which b : Nat) : EmM := if knownM b = true ∧ b < 256 then { m with st := if which = 0 then { m.st with s0 := b } else { m.st with s1 := b } } else m
def bareEscape (m : EmM) (b : Nat) : EmM :=
  if b = 55 then m.save else if b = 56 then m.restore else if b = 68 then m.index else if b = 69 then m.setX0.index else if b = 77 then m.reverse
  else if b = 72 then { m with stops := putL true m.stops [(m.st.x : Int)] } else if b = 99 then EmM.new m.W m.H else m
def escape (m : EmM) (i : List Nat) (b : Nat) : EmM := if i = [] then m.bareEscape b else if i = [40] then m.choose 0 b else if i = [41] then m.choose 1 b else m
def numAt (l : List Int) (i : Nat) : Nat := (min (max (l.getD i 0) 0) 9999).toNat
def count (l : List Int) (i : Nat) : Nat := max (numAt l i) 1
def above (m : EmM) (n : Nat) : Int := if m.st.y < m.top then (m.st.y : Int) - n else max ((m.st.y : Int) - n) m.top
def below (m : EmM) (n : Nat) : Int := if m.bottom ≤ m.st.y then (m.st.y : Int) + n else min ((m.st.y : Int) + n) ((m.bottom : Int) - 1)
def row (m : EmM) (n : Nat) : Int := if m.st.origin = true then min ((m.top : Int) + n - 1) ((m.bottom : Int) - 1) else (n : Int) - 1
def home (m : EmM) : EmM := m.goTo 0 (m.row 1)
def move (m : EmM) (b n k : Nat) : EmM :=
  if b = 65 then m.goTo m.st.x (m.above n) else if b = 66 then m.goTo m.st.x (m.below n) else if b = 67 then m.goTo ((m.st.x : Int) + n) m.st.y
  else if b = 68 then m.goTo ((m.st.x : Int) - n) m.st.y else if b = 69 then m.goTo 0 (m.below n) else if b = 70 then m.goTo 0 (m.above n)
  else if b = 71 then m.goTo ((n : Int) - 1) m.st.y else if b = 100 then m.goTo m.st.x (m.row n) else if b = 72 ∨ b = 102 then m.goTo ((k : Int) - 1) (m.row n) else m
def fill (m : EmM) (s t : Nat) : EmM := m.put (fillF s t m.blank m.shown)
def soon (m : EmM) : EmM := { m with late := false }
def first (m : EmM) (b : Nat) : Nat := if b = 75 then m.st.y * m.W else 0
def last (m : EmM) (b : Nat) : Nat := if b = 75 then (m.st.y + 1) * m.W else m.W * m.H
def erase (m : EmM) (b part : Nat) : EmM :=
  if part = 0 then (m.fill m.place (m.last b)).soon else if part = 1 then (m.fill (m.first b) (m.place + 1)).soon else if part = 2 then (m.fill (m.first b) (m.last b)).soon else m
def edit (m : EmM) (b n : Nat) : EmM :=
  (if b = 88 then m.fill m.place (min (m.place + n) ((m.st.y + 1) * m.W)) else if b = 64 then m.put (rightF m.W m.st.x m.st.y n m.blank m.shown)
    else if b = 80 then m.put (leftF m.W m.st.x m.st.y n m.blank m.shown) else if b = 83 then m.put (upF m.W m.top m.bottom n m.blank m.shown)
    else if b = 84 then m.put (downF m.W m.top m.bottom n m.blank m.shown) else m).soon
def moveRows (m : EmM) (b n : Nat) : EmM :=
  if m.st.y < m.top ∨ m.bottom ≤ m.st.y then m
  else (if b = 76 then m.put (downF m.W m.st.y m.bottom n m.blank m.shown) else m.put (upF m.W m.st.y m.bottom n m.blank m.shown)).goTo 0 m.st.y
def clearStops (m : EmM) (n : Nat) : EmM :=
  if n = 0 then { m with stops := putL false m.stops [(m.st.x : Int)] } else if n = 3 then { m with stops := List.replicate m.stops.length false } else m
def low (m : EmM) (b : Nat) : Nat := if b = 0 ∨ m.H < b then m.H else b
def limit (m : EmM) (t b : Nat) : EmM := if m.low b ≤ t + 1 then m else ({ m with top := t, bottom := m.low b }).home
def pen (m : EmM) (l : List Int) : EmM := { m with st := { m.st with pen := sgrL m.st.pen l } }
def turnU (on : Bool) (m : EmM) (n : Int) : EmM := if n = 4 then { m with ins := on } else m
def alt (m : EmM) : Bool := m.O.isSome
def turnOther (m : EmM) (on : Bool) : EmM :=
  if on = m.alt then m else if on = true then { m.save with O := some fun _ => m.blank, late := false } else ({ m with O := none }).restore
def turnM (on : Bool) (m : EmM) (n : Int) : EmM :=
  if n = 6 then ({ m with st := { m.st with origin := on } }).home else if n = 7 then { m with wrap := on } else if n = 25 then { m with hid := !on } else if n = 1049 then m.turnOther on else m
def rowTold (m : EmM) : Nat := if m.st.origin = true then max (m.st.y + 1 - m.top) 1 else m.st.y + 1
def reply (m : EmM) (b n : Nat) : List Nat :=
  if b = 99 ∧ n = 0 then [27, 91, 63, 49, 59, 50, 99] else if b = 110 ∧ n = 5 then [27, 91, 48, 110]
  else if b = 110 ∧ n = 6 then [27, 91] ++ decN m.rowTold ++ [59] ++ decN (m.st.x + 1) ++ [82] else []
def unmarked (m : EmM) (b : Nat) (l : List Int) : EmM × List Nat :=
  if b = 65 ∨ b = 66 ∨ b = 67 ∨ b = 68 ∨ b = 69 ∨ b = 70 ∨ b = 71 ∨ b = 72 ∨ b = 100 ∨ b = 102 then (m.move b (count l 0) (count l 1), [])
  else if b = 74 ∨ b = 75 then (m.erase b (numAt l 0), [])
  else if b = 88 ∨ b = 64 ∨ b = 80 ∨ b = 83 ∨ b = 84 then (m.edit b (count l 0), [])
  else if b = 76 ∨ b = 77 then (m.moveRows b (count l 0), [])
  else if b = 103 then (m.clearStops (numAt l 0), [])
  else if b = 114 then (m.limit (count l 0 - 1) (numAt l 1), [])
  else if b = 109 then (m.pen l, [])
  else if b = 104 ∨ b = 108 then (l.foldl (turnU (b == 104)) m, [])
  else if b = 115 then (m.save, [])
  else if b = 117 then (m.restore, [])
  else if b = 110 ∨ b = 99 then (m, m.reply b (numAt l 0))
  else (m, [])
def csi (m : EmM) (a : EAct) : EmM × List Nat :=
  if a.inter ≠ [] then (m, []) else if a.mark = 0 then m.unmarked a.byte a.nums
  else if a.mark = 63 ∧ (a.byte = 104 ∨ a.byte = 108) then (a.nums.foldl (turnM (a.byte == 104)) m, []) else (m, [])
def act (m : EmM) (a : EAct) : EmM × List Nat :=
  if a.kind = 1 then (m.print a.rune, []) else if a.kind = 2 then (m.control a.byte, []) else if a.kind = 3 then (m.escape a.inter a.byte, []) else if a.kind = 4 then m.csi a else (m, [])
def acts : EmM → List EAct → EmM × List Nat
  | m, [] => (m, [])
  | m, a :: r => ((acts (m.act a).1 r).1, (m.act a).2 ++ (acts (m.act a).1 r).2)
theorem acts_add (m : EmM) (a b : List EAct) : acts m (a ++ b) = ((acts (acts m a).1 b).1, (acts m a).2 ++ (acts (acts m a).1 b).2) := by
  induction a generalizing m with
  | nil => simp [acts]
  | cons x r ih => simp [acts, ih, List.append_assoc]
/-- The size: what stood there, as far as it fits. -/
def sizeG (W W' H H' : Nat) (F : Nat → CellM) : Nat → CellM := sizeF W W' F (min H H')
def size (m : EmM) (W' H' : Nat) : EmM :=
  ({ m with W := W', H := H', F := sizeG m.W W' m.H H' m.F, O := m.O.map (sizeG m.W W' m.H H'), top := 0, bottom := H', stops := newL W' }).goTo m.st.x m.st.y

structure Ok (m : EmM) : Prop where
  w2 : 2 ≤ m.W
  w40 : m.W ≤ 40
  h1 : 1 ≤ m.H
  h20 : m.H ≤ 20
  sl : m.stops.length = m.W
  tb : m.top < m.bottom
  bh : m.bottom ≤ m.H
  x : m.st.x < m.W
  y : m.st.y < m.H
  sx : m.sv.x < 40
  sy : m.sv.y < 20
  a0 : m.st.s0 < 256
  a1 : m.st.s1 < 256
  b0 : m.sv.s0 < 256
  b1 : m.sv.s1 < 256
  u : m.st.use < 2
  v : m.sv.use < 2
  p : m.st.pen.ok
  r : m.sv.pen.ok
end EmM

/-- A terminal with its parser: what it is fed. -/
def feedM (x : PL × EmM) (l : List Nat) : (PL × EmM) × List Nat := (((feedP x.1 l).1, (x.2.acts (feedP x.1 l).2).1), (x.2.acts (feedP x.1 l).2).2)
theorem feedM_add (x : PL × EmM) (a b : List Nat) : feedM x (a ++ b) = ((feedM (feedM x a).1 b).1, (feedM x a).2 ++ (feedM (feedM x a).1 b).2) := by
  simp only [feedM, feedP_add, EmM.acts_add]

end Go.Proofs.YtnminmaklbhakaaGreatDoor
namespace Go.Proofs.YtnminmaklbhakaaGreatDoor
set_option linter.unusedVariables false
set_option linter.unusedSimpArgs false
open Go.RowKit

section
variable {w w' : World} {p g c W H n : Nat} {F : Nat → CellM}

theorem GridAt.keep0 (h : GridAt w p g c W H n F) (k : Keep (fun _ => False) w w') : GridAt w' p g c W H n F := h.keep k (fun x => x) (fun x => x)

theorem GridAt.up (h : GridAt w p g c W H n F) (t b k j : Nat) (x : CellM) (htb : t < b) (hb : b ≤ H) (hj : min (max (k : Int) 0) (H : Int) = (j : Int))
    (q : PutC g (rowsA W t * 6) (rowsN W H t b) (frontF (fun i => F (rowsA W t + i)) (rowsN W H t b) (min (j * W) (rowsN W H t b)) x) w w') : GridAt w' p g c W H n (upF W t b k x F) := by
  have e1 : rowsA W t = t * W := by unfold rowsA; congr 1; omega
  have e2 : rowsN W H t b = b * W - t * W := by unfold rowsN; rw [← Nat.sub_mul]; congr 1; omega
  have e3 : t * W ≤ b * W := Nat.mul_le_mul_right W (Nat.le_of_lt htb)
  have e4 : b * W ≤ H * W := Nat.mul_le_mul_right W hb
  have e5 : n = H * W := by rw [h.hn, Nat.mul_comm]
  rw [e1, e2] at q
  refine (h.put q (by omega)).congr fun i hi => ?_
  have key : min (j * W) (b * W - t * W) = min (k * W) (b * W - t * W) := by
    by_cases hk : k ≤ H
    · have : j = k := by omega
      rw [this]
    · have h1 : H * W ≤ j * W := Nat.mul_le_mul_right W (by omega)
      have h2 : H * W ≤ k * W := Nat.mul_le_mul_right W (by omega)
      omega
  rw [key]
  unfold upF frontF
  repeat' split
  all_goals first | rfl | (show F _ = F _; congr 1; omega) | (exfalso; omega)

theorem GridAt.down (h : GridAt w p g c W H n F) (t b k j : Nat) (x : CellM) (htb : t < b) (hb : b ≤ H) (hj : min (max (k : Int) 0) (H : Int) = (j : Int))
    (q : PutC g (rowsA W t * 6) (rowsN W H t b) (backF (fun i => F (rowsA W t + i)) (min (j * W) (rowsN W H t b)) x) w w') : GridAt w' p g c W H n (downF W t b k x F) := by
  have e1 : rowsA W t = t * W := by unfold rowsA; congr 1; omega
  have e2 : rowsN W H t b = b * W - t * W := by unfold rowsN; rw [← Nat.sub_mul]; congr 1; omega
  have e3 : t * W ≤ b * W := Nat.mul_le_mul_right W (Nat.le_of_lt htb)
  have e4 : b * W ≤ H * W := Nat.mul_le_mul_right W hb
  have e5 : n = H * W := by rw [h.hn, Nat.mul_comm]
  rw [e1, e2] at q
  refine (h.put q (by omega)).congr fun i hi => ?_
  have key : min (j * W) (b * W - t * W) = min (k * W) (b * W - t * W) := by
    by_cases hk : k ≤ H
    · have : j = k := by omega
      rw [this]
    · have h1 : H * W ≤ j * W := Nat.mul_le_mul_right W (by omega)
      have h2 : H * W ≤ k * W := Nat.mul_le_mul_right W (by omega)
      omega
  rw [key]
  unfold downF backF
  repeat' split
  all_goals first | rfl | (show F _ = F _; congr 1; omega) | (exfalso; omega)

theorem place_lt (h : GridAt w p g c W H n F) {x y : Nat} (hx : x < W) (hy : y < H) : y * W + W ≤ n ∧ restA W x y = y * W + x ∧ restN W H x y = W - x := by
  have e4 : (y + 1) * W ≤ H * W := Nat.mul_le_mul_right W hy
  have e5 : n = H * W := by rw [h.hn, Nat.mul_comm]
  rw [Nat.succ_mul] at e4
  refine ⟨by omega, by unfold restA; simp, ?_⟩
  unfold restN
  rw [if_pos (by omega)]
  simp

theorem GridAt.right (h : GridAt w p g c W H n F) (x y k : Nat) (b : CellM) (hx : x < W) (hy : y < H)
    (q : PutC g (restA W x y * 6) (restN W H x y) (backF (fun i => F (restA W x y + i)) (min (k : Int).toNat (restN W H x y)) b) w w') : GridAt w' p g c W H n (rightF W x y k b F) := by
  obtain ⟨h1, e1, e2⟩ := place_lt h hx hy
  rw [e1, e2, Int.toNat_natCast] at q
  refine (h.put q (by omega)).congr fun i hi => ?_
  unfold rightF backF
  repeat' split
  all_goals first | rfl | (show F _ = F _; congr 1; omega) | (exfalso; omega)

theorem GridAt.left (h : GridAt w p g c W H n F) (x y k : Nat) (b : CellM) (hx : x < W) (hy : y < H)
    (q : PutC g (restA W x y * 6) (restN W H x y) (frontF (fun i => F (restA W x y + i)) (restN W H x y) (min (k : Int).toNat (restN W H x y)) b) w w') : GridAt w' p g c W H n (leftF W x y k b F) := by
  obtain ⟨h1, e1, e2⟩ := place_lt h hx hy
  rw [e1, e2, Int.toNat_natCast] at q
  refine (h.put q (by omega)).congr fun i hi => ?_
  unfold leftF frontF
  repeat' split
  all_goals first | rfl | (show F _ = F _; congr 1; omega) | (exfalso; omega)

theorem GridAt.fill (h : GridAt w p g c W H n F) (s t a0 m0 : Nat) (b : CellM) (ht : t ≤ n) (hm : m0 = (min (t : Int) (n : Int) - max (s : Int) 0).toNat) (ha : 0 < m0 → max (s : Int) 0 = (a0 : Int))
    (q : PutC g (a0 * 6) m0 (fun _ => b) w w') : GridAt w' p g c W H n (fillF s t b F) := by
  rcases Nat.eq_zero_or_pos m0 with h0 | h0
  · subst h0
    refine (h.put (a := 0) (m := 0) (x := fun _ => b) ⟨q.keep, q.fz, fun k hk => by omega, fun i hi => q.out i (by omega)⟩ (by omega)).congr fun i hi => ?_
    unfold fillF
    rw [if_neg (by omega), if_neg (by omega)]
  · have := ha h0
    refine (h.put q (by omega)).congr fun i hi => ?_
    unfold fillF
    repeat' split
    all_goals first | rfl | omega

theorem GridAt.set1 (h : GridAt w p g c W H n F) (x y j : Nat) (l : Nat → CellM) (d : CellM) (hx : x < W) (hy : y < H) (hj : j = min 1 (restN W H x y)) (hl : l 0 = d)
    (q : PutC g (restA W x y * 6) j l w w') : GridAt w' p g c W H n (setF (y * W + x) d F) := by
  obtain ⟨h1, e1, e2⟩ := place_lt h hx hy
  have : j = 1 := by omega
  subst this
  rw [e1] at q
  refine (h.put q (by omega)).congr fun i hi => ?_
  unfold setF
  by_cases e : i = y * W + x
  · rw [if_pos (by omega), if_pos e, show i - (y * W + x) = 0 by omega, hl]
  · rw [if_neg (by omega), if_neg e]
end

end Go.Proofs.YtnminmaklbhakaaGreatDoor
namespace Go.Proofs.YtnminmaklbhakaaGreatDoor
set_option linter.unusedVariables false
set_option linter.unusedSimpArgs false
namespace EmM

theorem clampN_lt (x : Int) (n : Nat) (h : 1 ≤ n) : clampN x n < n := by unfold clampN; omega
theorem clampN_in (x : Nat) (n : Nat) (h : x < n) : clampN (x : Int) n = x := by unfold clampN; omega
variable {m : EmM}

theorem put_size (m : EmM) (G : Nat → CellM) : (m.put G).W = m.W ∧ (m.put G).H = m.H := by unfold put; split <;> exact ⟨rfl, rfl⟩
theorem put_st (m : EmM) (G : Nat → CellM) : (m.put G).st = m.st := by unfold put; split <;> rfl
theorem put_sv (m : EmM) (G : Nat → CellM) : (m.put G).sv = m.sv := by unfold put; split <;> rfl
theorem put_hid (m : EmM) (G : Nat → CellM) : (m.put G).hid = m.hid := by unfold put; split <;> rfl
theorem put_shown (m : EmM) (G : Nat → CellM) : (m.put G).shown = G := by unfold put shown; cases h : m.O <;> simp
theorem put_alt (m : EmM) (G : Nat → CellM) : (m.put G).alt = m.alt := by unfold put alt; cases h : m.O <;> simp [h]

theorem Ok.put (h : m.Ok) (G : Nat → CellM) : (m.put G).Ok := by
  unfold EmM.put
  split
  · exact ⟨h.w2, h.w40, h.h1, h.h20, h.sl, h.tb, h.bh, h.x, h.y, h.sx, h.sy, h.a0, h.a1, h.b0, h.b1, h.u, h.v, h.p, h.r⟩
  · exact ⟨h.w2, h.w40, h.h1, h.h20, h.sl, h.tb, h.bh, h.x, h.y, h.sx, h.sy, h.a0, h.a1, h.b0, h.b1, h.u, h.v, h.p, h.r⟩
theorem Ok.goTo (h : m.Ok) (x y : Int) : (m.goTo x y).Ok :=
  ⟨h.w2, h.w40, h.h1, h.h20, h.sl, h.tb, h.bh, clampN_lt x m.W (by have := h.w2; omega), clampN_lt y m.H h.h1, h.sx, h.sy, h.a0, h.a1, h.b0, h.b1, h.u, h.v, h.p, h.r⟩
theorem Ok.index (h : m.Ok) : m.index.Ok := by
  unfold EmM.index
  split
  · exact (h.put _).goTo _ _
  · exact h.goTo _ _
theorem Ok.reverse (h : m.Ok) : m.reverse.Ok := by
  unfold EmM.reverse
  split
  · exact (h.put _).goTo _ _
  · exact h.goTo _ _
theorem Ok.setX0 (h : m.Ok) : m.setX0.Ok := ⟨h.w2, h.w40, h.h1, h.h20, h.sl, h.tb, h.bh, by have := h.w2; show 0 < m.W; omega, h.y, h.sx, h.sy, h.a0, h.a1, h.b0, h.b1, h.u, h.v, h.p, h.r⟩
theorem Ok.late (h : m.Ok) (b : Bool) : ({ m with late := b } : EmM).Ok := ⟨h.w2, h.w40, h.h1, h.h20, h.sl, h.tb, h.bh, h.x, h.y, h.sx, h.sy, h.a0, h.a1, h.b0, h.b1, h.u, h.v, h.p, h.r⟩
theorem Ok.soon (h : m.Ok) : m.soon.Ok := h.late false
theorem Ok.wrapOne (h : m.Ok) : m.wrapOne.Ok := by unfold EmM.wrapOne; split; exact h.setX0.index; exact h
theorem Ok.insOne (h : m.Ok) : m.insOne.Ok := by unfold EmM.insOne; split; exact h.put _; exact h
theorem Ok.setOne (h : m.Ok) (r : Int) : (m.setOne r).Ok := h.put _
theorem Ok.after (h : m.Ok) : m.after.Ok := (h.goTo _ _).late _
theorem Ok.print (h : m.Ok) (r : Nat) : (m.print r).Ok := (h.wrapOne.insOne.setOne _).after
theorem Ok.inUse (h : m.Ok) (u : Nat) (hu : u < 2) : ({ m with st := { m.st with use := u } } : EmM).Ok := ⟨h.w2, h.w40, h.h1, h.h20, h.sl, h.tb, h.bh, h.x, h.y, h.sx, h.sy, h.a0, h.a1, h.b0, h.b1, hu, h.v, h.p, h.r⟩
theorem Ok.control (h : m.Ok) (b : Nat) : (m.control b).Ok := by
  unfold EmM.control
  repeat' split
  all_goals first | exact h.goTo _ _ | exact h.index | exact h.inUse _ (by decide) | exact h
theorem Ok.save (h : m.Ok) : m.save.Ok := ⟨h.w2, h.w40, h.h1, h.h20, h.sl, h.tb, h.bh, h.x, h.y, by have := h.x; have := h.w40; show m.st.x < 40; omega, by have := h.y; have := h.h20; show m.st.y < 20; omega, h.a0, h.a1, h.a0, h.a1, h.u, h.u, h.p, h.p⟩
theorem Ok.restore (h : m.Ok) : m.restore.Ok :=
  ⟨h.w2, h.w40, h.h1, h.h20, h.sl, h.tb, h.bh, clampN_lt m.sv.x m.W (by have := h.w2; omega), clampN_lt m.sv.y m.H h.h1, h.sx, h.sy, h.b0, h.b1, h.b0, h.b1, h.v, h.v, h.r, h.r⟩
theorem Ok.choose (h : m.Ok) (which b : Nat) : (m.choose which b).Ok := by
  unfold EmM.choose
  split
  · rename_i hb
    refine ⟨h.w2, h.w40, h.h1, h.h20, h.sl, h.tb, h.bh, ?_, ?_, h.sx, h.sy, ?_, ?_, h.b0, h.b1, ?_, h.v, ?_, h.r⟩
    all_goals simp only
    all_goals split
    all_goals first | exact h.x | exact h.y | exact hb.2 | exact h.a0 | exact h.a1 | exact h.u | exact h.p
  · exact h
theorem Ok.stops (h : m.Ok) (l : List Bool) (hl : l.length = m.stops.length) : ({ m with stops := l } : EmM).Ok := ⟨h.w2, h.w40, h.h1, h.h20, hl.trans h.sl, h.tb, h.bh, h.x, h.y, h.sx, h.sy, h.a0, h.a1, h.b0, h.b1, h.u, h.v, h.p, h.r⟩
theorem Ok.new {W H : Nat} (w2 : 2 ≤ W) (w40 : W ≤ 40) (h1 : 1 ≤ H) (h20 : H ≤ 20) : (EmM.new W H).Ok :=
  ⟨w2, w40, h1, h20, by simp [EmM.new, newL, newT], h1, Nat.le_refl _, by show 0 < W; omega, h1, (show StM.z.x < 40 by decide), (show StM.z.y < 20 by decide), (show StM.z.s0 < 256 by decide), (show StM.z.s1 < 256 by decide), (show StM.z.s0 < 256 by decide), (show StM.z.s1 < 256 by decide), (show StM.z.use < 2 by decide), (show StM.z.use < 2 by decide), (show StM.z.pen.ok by decide), (show StM.z.pen.ok by decide)⟩
theorem Ok.bareEscape (h : m.Ok) (b : Nat) : (m.bareEscape b).Ok := by
  unfold EmM.bareEscape
  repeat' split
  all_goals first | exact h.save | exact h.restore | exact h.setX0.index | exact h.index | exact h.reverse | exact h.stops _ (putL_len _ _ _) | exact Ok.new h.w2 h.w40 h.h1 h.h20 | exact h
theorem Ok.escape (h : m.Ok) (i : List Nat) (b : Nat) : (m.escape i b).Ok := by
  unfold EmM.escape
  repeat' split
  all_goals first | exact h.bareEscape _ | exact h.choose _ _ | exact h
theorem Ok.move (h : m.Ok) (b n k : Nat) : (m.move b n k).Ok := by
  unfold EmM.move
  repeat' split
  all_goals first | exact h.goTo _ _ | exact h
theorem Ok.erase (h : m.Ok) (b n : Nat) : (m.erase b n).Ok := by
  unfold EmM.erase EmM.fill
  repeat' split
  all_goals first | exact (h.put _).soon | exact h
theorem Ok.edit (h : m.Ok) (b n : Nat) : (m.edit b n).Ok := by
  unfold EmM.edit EmM.fill
  refine Ok.soon ?_
  repeat' split
  all_goals first | exact h.put _ | exact h
theorem Ok.moveRows (h : m.Ok) (b n : Nat) : (m.moveRows b n).Ok := by
  unfold EmM.moveRows
  split
  · exact h
  · split
    · exact (h.put _).goTo _ _
    · exact (h.put _).goTo _ _
theorem Ok.clearStops (h : m.Ok) (n : Nat) : (m.clearStops n).Ok := by
  unfold EmM.clearStops
  repeat' split
  all_goals first | exact h.stops _ (putL_len _ _ _) | exact h.stops _ (by simp) | exact h
theorem Ok.limit (h : m.Ok) (t b : Nat) : (m.limit t b).Ok := by
  unfold EmM.limit EmM.home
  split
  · exact h
  · rename_i hb
    refine Ok.goTo (m := { m with top := t, bottom := m.low b }) ?_ _ _
    refine ⟨h.w2, h.w40, h.h1, h.h20, h.sl, by show t < m.low b; omega, ?_, h.x, h.y, h.sx, h.sy, h.a0, h.a1, h.b0, h.b1, h.u, h.v, h.p, h.r⟩
    show m.low b ≤ m.H
    unfold EmM.low
    split <;> omega
theorem Ok.pen (h : m.Ok) (l : List Int) : (m.pen l).Ok := ⟨h.w2, h.w40, h.h1, h.h20, h.sl, h.tb, h.bh, h.x, h.y, h.sx, h.sy, h.a0, h.a1, h.b0, h.b1, h.u, h.v, sgrL_ok _ _ h.p, h.r⟩
theorem Ok.turnU (h : m.Ok) (on : Bool) (n : Int) : (EmM.turnU on m n).Ok := by
  unfold EmM.turnU
  split
  · exact ⟨h.w2, h.w40, h.h1, h.h20, h.sl, h.tb, h.bh, h.x, h.y, h.sx, h.sy, h.a0, h.a1, h.b0, h.b1, h.u, h.v, h.p, h.r⟩
  · exact h
theorem Ok.noO (h : m.Ok) (O : Option (Nat → CellM)) : ({ m with O := O } : EmM).Ok := ⟨h.w2, h.w40, h.h1, h.h20, h.sl, h.tb, h.bh, h.x, h.y, h.sx, h.sy, h.a0, h.a1, h.b0, h.b1, h.u, h.v, h.p, h.r⟩
theorem Ok.turnOther (h : m.Ok) (on : Bool) : (m.turnOther on).Ok := by
  unfold EmM.turnOther
  repeat' split
  · exact h
  · exact (h.save.noO (some fun _ => m.blank)).late false
  · exact (h.noO none).restore
theorem Ok.origin (h : m.Ok) (b : Bool) : ({ m with st := { m.st with origin := b } } : EmM).Ok := ⟨h.w2, h.w40, h.h1, h.h20, h.sl, h.tb, h.bh, h.x, h.y, h.sx, h.sy, h.a0, h.a1, h.b0, h.b1, h.u, h.v, h.p, h.r⟩
theorem Ok.turnM (h : m.Ok) (on : Bool) (n : Int) : (EmM.turnM on m n).Ok := by
  unfold EmM.turnM EmM.home
  repeat' split
  · exact (h.origin on).goTo _ _
  · exact ⟨h.w2, h.w40, h.h1, h.h20, h.sl, h.tb, h.bh, h.x, h.y, h.sx, h.sy, h.a0, h.a1, h.b0, h.b1, h.u, h.v, h.p, h.r⟩
  · exact ⟨h.w2, h.w40, h.h1, h.h20, h.sl, h.tb, h.bh, h.x, h.y, h.sx, h.sy, h.a0, h.a1, h.b0, h.b1, h.u, h.v, h.p, h.r⟩
  · exact h.turnOther _
  · exact h
theorem Ok.fold (f : EmM → Int → EmM) (hf : ∀ m n, EmM.Ok m → EmM.Ok (f m n)) (l : List Int) : ∀ m : EmM, m.Ok → (l.foldl f m).Ok := by
  induction l with
  | nil => intro m h; exact h
  | cons x r ih => intro m h; exact ih _ (hf m x h)
theorem Ok.unmarked (h : m.Ok) (b : Nat) (l : List Int) : (m.unmarked b l).1.Ok := by
  unfold EmM.unmarked
  repeat' split
  all_goals first | exact h.move _ _ _ | exact h.erase _ _ | exact h.edit _ _ | exact h.moveRows _ _ | exact h.clearStops _ | exact h.limit _ _ | exact h.pen _ | exact Ok.fold _ (fun m n h => h.turnU _ n) _ _ h | exact h.save | exact h.restore | exact h
theorem Ok.csi (h : m.Ok) (a : EAct) : (m.csi a).1.Ok := by
  unfold EmM.csi
  repeat' split
  all_goals first | exact h.unmarked _ _ | exact Ok.fold _ (fun m n h => h.turnM _ n) _ _ h | exact h
theorem Ok.act (h : m.Ok) (a : EAct) : (m.act a).1.Ok := by
  unfold EmM.act
  repeat' split
  all_goals first | exact h.print _ | exact h.control _ | exact h.escape _ _ | exact h.csi _ | exact h
theorem Ok.acts (l : List EAct) : ∀ m : EmM, m.Ok → (m.acts l).1.Ok := by
  induction l with
  | nil => intro m h; exact h
  | cons a r ih => intro m h; exact ih _ (h.act a)
theorem Ok.size (h : m.Ok) {W H : Nat} (w2 : 2 ≤ W) (w40 : W ≤ 40) (h1 : 1 ≤ H) (h20 : H ≤ 20) : (m.size W H).Ok :=
  ⟨w2, w40, h1, h20, by simp [EmM.size, EmM.goTo, newL, newT], h1, Nat.le_refl _, clampN_lt _ W (by omega), clampN_lt _ H h1, h.sx, h.sy, h.a0, h.a1, h.b0, h.b1, h.u, h.v, h.p, h.r⟩

/-- Of the same size. -/
def Like (m m' : EmM) : Prop := m'.W = m.W ∧ m'.H = m.H
theorem Like.refl (m : EmM) : Like m m := ⟨rfl, rfl⟩
theorem Like.trans {a b c : EmM} (h : Like a b) (k : Like b c) : Like a c := ⟨k.1.trans h.1, k.2.trans h.2⟩
theorem like_put (m : EmM) (G : Nat → CellM) : Like m (m.put G) := m.put_size G
theorem like_index (m : EmM) : Like m m.index := by unfold EmM.index; split; exact m.put_size _; exact ⟨rfl, rfl⟩
theorem like_reverse (m : EmM) : Like m m.reverse := by unfold EmM.reverse; split; exact m.put_size _; exact ⟨rfl, rfl⟩
theorem like_print (m : EmM) (r : Nat) : Like m (m.print r) := by
  have h1 : Like m m.wrapOne := by unfold EmM.wrapOne; split; exact like_index m.setX0; exact Like.refl m
  have h2 : Like m.wrapOne m.wrapOne.insOne := by generalize m.wrapOne = q; unfold EmM.insOne; split; exact like_put _ _; exact Like.refl _
  have h3 : Like m.wrapOne.insOne (m.wrapOne.insOne.setOne (m.wrapOne.mapped r)) := like_put _ _
  exact (h1.trans h2).trans h3
theorem like_move (m : EmM) (b n k : Nat) : Like m (m.move b n k) := by
  unfold EmM.move
  repeat' split
  all_goals exact ⟨rfl, rfl⟩
theorem like_erase (m : EmM) (b n : Nat) : Like m (m.erase b n) := by
  unfold EmM.erase EmM.fill EmM.soon
  repeat' split
  all_goals first | exact m.put_size _ | exact ⟨rfl, rfl⟩
theorem like_edit (m : EmM) (b n : Nat) : Like m (m.edit b n) := by
  unfold EmM.edit EmM.fill
  show Like m (if b = 88 then _ else _)
  repeat' split
  all_goals first | exact m.put_size _ | exact ⟨rfl, rfl⟩
theorem like_rows (m : EmM) (b n : Nat) : Like m (m.moveRows b n) := by
  unfold EmM.moveRows
  split
  · exact ⟨rfl, rfl⟩
  · split
    · exact m.put_size _
    · exact m.put_size _
theorem like_clear (m : EmM) (n : Nat) : Like m (m.clearStops n) := by
  unfold EmM.clearStops
  repeat' split
  all_goals exact ⟨rfl, rfl⟩
theorem like_limit (m : EmM) (t b : Nat) : Like m (m.limit t b) := by
  unfold EmM.limit
  split
  all_goals exact ⟨rfl, rfl⟩
theorem like_unmarked (m : EmM) (b : Nat) (l : List Int) : Like m (m.unmarked b l).1 := by
  have hf : ∀ (l : List Int) (m : EmM), Like m (l.foldl (EmM.turnU (b == 104)) m) := by
    intro l
    induction l with
    | nil => intro m; exact Like.refl m
    | cons x r ih =>
      intro m
      have h1 : Like m (EmM.turnU (b == 104) m x) := by unfold EmM.turnU; split <;> exact ⟨rfl, rfl⟩
      exact h1.trans (ih _)
  unfold EmM.unmarked
  repeat' split
  all_goals first | exact hf _ _ | exact like_move m _ _ _ | exact like_erase m _ _ | exact like_edit m _ _ | exact like_rows m _ _ | exact like_clear m _ | exact like_limit m _ _ | exact ⟨rfl, rfl⟩
theorem like_turnM (on : Bool) (m : EmM) (n : Int) : Like m (EmM.turnM on m n) := by
  unfold EmM.turnM EmM.turnOther
  repeat' split
  all_goals exact ⟨rfl, rfl⟩
theorem like_act (m : EmM) (a : EAct) : Like m (m.act a).1 := by
  have hf : ∀ (l : List Int) (m : EmM), Like m (l.foldl (EmM.turnM (a.byte == 104)) m) := by
    intro l
    induction l with
    | nil => intro m; exact Like.refl m
    | cons x r ih => intro m; exact (like_turnM _ m x).trans (ih _)
  have hc : ∀ b, Like m (m.control b) := by
    intro b
    unfold EmM.control
    repeat' split
    all_goals first | exact like_index m | exact ⟨rfl, rfl⟩
  have he : ∀ i b, Like m (m.escape i b) := by
    intro i b
    unfold EmM.escape EmM.bareEscape EmM.choose
    repeat' split
    all_goals first | exact like_index m | exact like_index m.setX0 | exact like_reverse m | exact ⟨rfl, rfl⟩
  unfold EmM.act EmM.csi
  repeat' split
  all_goals first | exact like_print m _ | exact hc _ | exact he _ _ | exact like_unmarked m _ _ | exact hf _ _ | exact ⟨rfl, rfl⟩
theorem like_acts (l : List EAct) : ∀ m : EmM, Like m (m.acts l).1 := by
  induction l with
  | nil => intro m; exact Like.refl m
  | cons a r ih => intro m; exact (like_act m a).trans (ih _)
end EmM

end Go.Proofs.YtnminmaklbhakaaGreatDoor
