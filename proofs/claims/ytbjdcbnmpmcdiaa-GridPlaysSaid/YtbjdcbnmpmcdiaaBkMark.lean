/- pontoonbook.Book, a kind of elements of z cells: what is kept; lists while they are marked and grown. mk: the cells of a mark; C: the kind's place in a Book. It speaks of no program. Own work. -/
import Derived.Test.YtbjdcbnmpmcdiaaBkRow
import Derived.Test.YtbjdcbnmpmcdiaaBkStage
namespace Go.Proofs.Ytbjdcbnmpmcdiaa
set_option linter.unusedVariables false
set_option linter.unusedSimpArgs false
open Go.RowKit

/-- A list that was kept; its cells. -/
structure ItZ where
  A : Option Addr
  n : Nat
  c : Nat
  us : List Value

def ItZ.val (i : ItZ) : Value := .slice i.A i.n i.c

theorem itz_one (its : List ItZ) : ∀ u ∈ its.map ItZ.val, u.oneCell' = true := by
  intro u hu
  obtain ⟨x, _, rfl⟩ := List.mem_map.1 hu
  rfl

/-- n marks of list i, from f on. -/
def marksZ (mk : Nat → Nat → List Value) (i f n : Nat) : List Value := (List.range n).flatMap fun j => mk i (f + j)
theorem marksZ_zero (mk : Nat → Nat → List Value) (i f : Nat) : marksZ mk i f 0 = [] := rfl
theorem marksZ_succ (mk : Nat → Nat → List Value) (i f n : Nat) : marksZ mk i f (n + 1) = marksZ mk i f n ++ mk i (f + n) := by simp [marksZ, List.range_succ]
theorem marksZ_add (mk : Nat → Nat → List Value) (i f n m : Nat) : marksZ mk i f n ++ marksZ mk i (f + n) m = marksZ mk i f (n + m) := by
  induction m with
  | zero => simp [marksZ]
  | succ m ih => rw [marksZ_succ, ← List.append_assoc, ih, show n + (m + 1) = (n + m) + 1 from by omega, marksZ_succ, Nat.add_assoc]

/-- What a mark is. -/
structure MarkOk (z : Nat) (mk : Nat → Nat → List Value) : Prop where
  pos : 0 < z
  len : ∀ i k, (mk i k).length = z
  one : ∀ i k, ∀ u ∈ mk i k, u.oneCell' = true

section
variable {z : Nat} {mk : Nat → Nat → List Value}
theorem MarkOk.marks (h : MarkOk z mk) (i f n : Nat) : (marksZ mk i f n).length = n * z := by
  induction n with
  | zero => simp [marksZ]
  | succ n ih => rw [marksZ_succ, List.length_append, ih, h.len, Nat.add_mul, Nat.one_mul]
theorem MarkOk.ones (h : MarkOk z mk) (i f n : Nat) : ∀ u ∈ marksZ mk i f n, u.oneCell' = true := by
  intro u hu
  obtain ⟨j, _, hj⟩ := List.mem_flatMap.1 hu
  exact h.one _ _ u hj
theorem MarkOk.at' (h : MarkOk z mk) (i f n j t : Nat) (hj : j < n) (ht : t < z) : (marksZ mk i f n)[j * z + t]? = (mk i (f + j))[t]? := by
  induction n with
  | zero => omega
  | succ n ih =>
    rw [marksZ_succ]
    have hl := h.marks i f n
    by_cases e : j < n
    · have h1 : j * z + t < n * z := by
        have : (j + 1) * z ≤ n * z := Nat.mul_le_mul_right z e
        rw [Nat.add_mul] at this; omega
      rw [List.getElem?_append_left (by omega)]
      exact ih e
    · have hjn : j = n := by omega
      subst hjn
      rw [List.getElem?_append_right (by omega), hl, Nat.add_sub_cancel_left]
end

/-- A kind's lists: its two cells of the Book, the rows of its lists and of their copies, the lists, the copies; no two of them share a block. Sm: are a list and its copy alike? -/
structure KS (z C : Nat) (Sm : World → List Value → List Value → Prop) (w : World) (q : Nat) (own : Nat → Prop) (tA : Option Addr) (tc : Nat) (wA : Option Addr) (wc : Nat) (its ws : List ItZ) : Prop where
  b0 : Cell w q C (.slice tA its.length tc)
  b1 : Cell w q (C + 1) (.slice wA its.length wc)
  lw : ws.length = its.length
  rows : Buf w tA its.length tc (its.map ItZ.val)
  was : Buf w wA its.length wc (ws.map ItZ.val)
  item : ∀ it ∈ its, BufZ z w it.A it.n it.c it.us ∧ it.n ≤ 4000
  copy : ∀ wt ∈ ws, BufZ z w wt.A wt.n wt.c wt.us
  same : ∀ (i : Nat) (it wt : ItZ), its[i]? = some it → ws[i]? = some wt → wt.n = it.n ∧ Sm w it.us wt.us
  d2 : ∀ k, blk wA = some k → blk tA ≠ some k
  d3 : ∀ it ∈ its, ∀ k, blk it.A = some k → blk tA ≠ some k ∧ blk wA ≠ some k
  d4 : ∀ wt ∈ ws, ∀ k, blk wt.A = some k → blk tA ≠ some k ∧ blk wA ≠ some k ∧ ∀ it ∈ its, blk it.A ≠ some k
  d5 : its.Pairwise (fun a b => ∀ k, blk a.A = some k → blk b.A ≠ some k)
  nq : ¬ own q
  lq : q < w.heap.size
  oA : ∀ k, blk tA = some k → own k
  oW : ∀ k, blk wA = some k → own k
  oI : ∀ it ∈ its, ∀ k, blk it.A = some k → own k
  oC : ∀ wt ∈ ws, ∀ k, blk wt.A = some k → own k
  lt : ∀ k, own k → k < w.heap.size

/-- It is kept as long as nobody turns its blocks, the Book, and what rd tells of. -/
def SmKept (Sm : World → List Value → List Value → Prop) (rd : Nat → Prop) : Prop := ∀ (S : Nat → Prop) (w w' : World), Keep S w w' → (∀ i, rd i → i < w.heap.size ∧ ¬ S i) → ∀ a b, Sm w a b → Sm w' a b

section
variable {z C : Nat} {Sm : World → List Value → List Value → Prop} {w w' : World} {q : Nat} {own rd : Nat → Prop} {tA wA : Option Addr} {tc wc : Nat} {its ws : List ItZ}
theorem KS.keep {S : Nat → Prop} (hs : SmKept Sm rd) (h : KS z C Sm w q own tA tc wA wc its ws) (k : Keep S w w') (hn : ∀ i, own i → ¬ S i) (hq : ¬ S q) (hr : ∀ i, rd i → i < w.heap.size ∧ ¬ S i) : KS z C Sm w' q own tA tc wA wc its ws :=
  { b0 := h.b0.keep k hq, b1 := h.b1.keep k hq, lw := h.lw, rows := h.rows.keep k (fun i hi => hn i (h.oA i hi)), was := h.was.keep k (fun i hi => hn i (h.oW i hi))
    item := fun it hit => ⟨(h.item it hit).1.keep k (fun i hi => hn i (h.oI it hit i hi)), (h.item it hit).2⟩
    copy := fun wt hwt => (h.copy wt hwt).keep k (fun i hi => hn i (h.oC wt hwt i hi))
    same := fun i it wt hi hj => ⟨(h.same i it wt hi hj).1, hs S w w' k hr _ _ (h.same i it wt hi hj).2⟩
    d2 := h.d2, d3 := h.d3, d4 := h.d4, d5 := h.d5, nq := h.nq, lq := Nat.lt_of_lt_of_le h.lq k.size, oA := h.oA, oW := h.oW, oI := h.oI, oC := h.oC
    lt := fun i hi => Nat.lt_of_lt_of_le (h.lt i hi) k.size }
end

/-- Lists, each with the cells that it has now. -/
structure TxZ (z C : Nat) (w : World) (q : Nat) (own : Nat → Prop) (A : Option Addr) (c : Nat) (its : List ItZ) (f : Nat → List Value) : Prop where
  c0 : w.cell? ⟨q, C, none⟩ = some (.slice A its.length c)
  rows : Buf w A its.length c (its.map ItZ.val)
  item : ∀ (i : Nat) (it : ItZ), its[i]? = some it → BufZ z w it.A it.n it.c (f i)
  few : ∀ it ∈ its, it.n ≤ 4000
  d3 : ∀ it ∈ its, ∀ k, blk it.A = some k → blk A ≠ some k
  d5 : ∀ (i j : Nat) (it jt : ItZ), i ≠ j → its[i]? = some it → its[j]? = some jt → ∀ k, blk it.A = some k → blk jt.A ≠ some k
  lq : q < w.heap.size
  nq : ¬ own q
  oA : ∀ k, blk A = some k → own k
  oI : ∀ it ∈ its, ∀ k, blk it.A = some k → own k
  lt : ∀ k, own k → k < w.heap.size

theorem KS.texts {z C : Nat} {Sm : World → List Value → List Value → Prop} {w : World} {q : Nat} {own : Nat → Prop} {tA wA : Option Addr} {tc wc : Nat} {its ws : List ItZ} (h : KS z C Sm w q own tA tc wA wc its ws) :
    TxZ z C w q own tA tc its (fun i => ((its[i]?).map (·.us)).getD []) :=
  { c0 := h.b0.1, rows := h.rows
    item := fun i it hi => by
      have := (h.item it (List.mem_of_getElem? hi)).1
      simpa [hi] using this
    few := fun it hit => (h.item it hit).2
    d3 := fun it hit k hk => (h.d3 it hit k hk).1
    d5 := fun i j it jt hij hi hj k hk e => by
      obtain ⟨hil, rfl⟩ := List.getElem?_eq_some_iff.1 hi
      obtain ⟨hjl, rfl⟩ := List.getElem?_eq_some_iff.1 hj
      rcases Nat.lt_or_gt_of_ne hij with x | x
      · exact List.pairwise_iff_getElem.1 h.d5 i j hil hjl x k hk e
      · exact List.pairwise_iff_getElem.1 h.d5 j i hjl hil x k e hk
    lq := h.lq, nq := h.nq, oA := h.oA, oI := h.oI, lt := h.lt }

namespace TxZ
variable {z C : Nat} {w w' : World} {q : Nat} {own : Nat → Prop} {A : Option Addr} {c : Nat} {its : List ItZ} {f : Nat → List Value}
theorem keep {S : Nat → Prop} (h : TxZ z C w q own A c its f) (k : Keep S w w') (hn : ∀ i, own i → ¬ S i) (hq : ¬ S q) : TxZ z C w' q own A c its f :=
  { c0 := (k.cell (p := ⟨q, C, none⟩) h.lq hq).trans h.c0, rows := h.rows.keep k (fun i hi => hn i (h.oA i hi))
    item := fun i it hi => (h.item i it hi).keep k (fun j hj => hn j (h.oI it (List.mem_of_getElem? hi) j hj))
    few := h.few, d3 := h.d3, d5 := h.d5, lq := Nat.lt_of_lt_of_le h.lq k.size, nq := h.nq, oA := h.oA, oI := h.oI, lt := fun i hi => Nat.lt_of_lt_of_le (h.lt i hi) k.size }

/-- An element is written. -/
theorem set (h : TxZ z C w q own A c its f) {i : Nat} {it : ItZ} {b off k : Nat} (hi : its[i]? = some it) (hA : it.A = some ⟨b, off, none⟩) (hk : k < it.n) (us : List Value) (hu : us.length = z) :
    TxZ z C (w.setCells b (off + k * z) us) q own A c its (fun j => if j = i then (f i).take (k * z) ++ us ++ (f i).drop (k * z + z) else f j) := by
  have K : Keep (· = b) w (w.setCells b (off + k * z) us) := keep_setCells (S := fun x => x = b) b (fun _ => rfl) _ _ _ (Keep.refl _ w)
  have hm := List.mem_of_getElem? hi
  have hb : blk it.A = some b := by rw [hA]; rfl
  have n2 := h.d3 it hm b hb
  have ho := h.oI it hm b hb
  have hlt := h.lt b ho
  have hqb : q ≠ b := fun e => h.nq (e ▸ ho)
  refine { c0 := (K.cell (p := ⟨q, C, none⟩) h.lq hqb).trans h.c0, rows := h.rows.keep K (fun j hj e => n2 (e ▸ hj)), item := fun j jt hj => ?_, few := h.few, d3 := h.d3, d5 := h.d5, lq := Nat.lt_of_lt_of_le h.lq K.size, nq := h.nq, oA := h.oA, oI := h.oI, lt := fun j hj => Nat.lt_of_lt_of_le (h.lt j hj) K.size }
  by_cases e : j = i
  · subst e
    rw [hi] at hj; injection hj with hj; subst hj
    simp only [if_pos]
    obtain ⟨b', off', e1, _, r⟩ := (h.item j it hi).some_of (by omega)
    rw [hA] at e1; injection e1 with e1; injection e1 with e1 e2; subst e1 e2
    have hle : (k + 1) * z ≤ it.n * z := Nat.mul_le_mul_right z hk
    rw [Nat.add_mul] at hle
    have := r.sets (k * z) us (by omega)
    rw [hu] at this
    exact .inr ⟨b, off, hA, Nat.lt_of_lt_of_le hlt K.size, this⟩
  · simp only [if_neg e]
    exact (h.item j jt hj).keep K (fun k' hk' e2 => by rw [show k' = b from e2] at hk'; exact h.d5 i j it jt (fun x => e x.symm) hi hj b hb hk')
end TxZ

/-- Elements set one behind the other: the first j are marks. -/
theorem take_setz {z j : Nat} {l m us : List Value} (h : l.take (j * z) = m.take (j * z)) (hl : j * z + z ≤ l.length) (hu : us.length = z) (hm : ∀ t, t < z → m[j * z + t]? = us[t]?) :
    (l.take (j * z) ++ us ++ l.drop (j * z + z)).take (j * z + z) = m.take (j * z + z) := by
  rw [List.take_append_of_le_length (by simp only [List.length_append, List.length_take]; omega), List.take_of_length_le (by simp only [List.length_append, List.length_take]; omega), h]
  apply List.ext_getElem?
  intro t
  have h0 := congrArg List.length h
  simp only [List.length_take] at h0
  by_cases e : t < j * z
  · rw [List.getElem?_append_left (by rw [List.length_take]; omega), List.getElem?_take_of_lt e, List.getElem?_take_of_lt (by omega)]
  · rw [List.getElem?_append_right (by rw [List.length_take]; omega), List.length_take]
    by_cases e2 : t < j * z + z
    · rw [List.getElem?_take_of_lt e2]
      have := hm (t - j * z) (by omega)
      rw [show j * z + (t - j * z) = t from by omega] at this
      rw [this]
      congr 1
      omega
    · rw [List.getElem?_eq_none (by omega), List.getElem?_eq_none (by rw [List.length_take]; omega)]

/-- A list of which more and more marks are appended: the list as it grows, the list as it was. -/
structure GrZ (z : Nat) (mk : Nat → Nat → List Value) (w0 w : World) (it : ItZ) (i : Nat) (A : Option Addr) (n c : Nat) : Prop where
  buf : BufZ z w A n c (marksZ mk i 0 n)
  src : Src w it.A (it.n * z) (marksZ mk i 0 it.n)
  le : it.n ≤ n
  wh : A = it.A ∨ ∀ k, blk A = some k → w0.heap.size ≤ k
  kp : Keep (fun k => blk it.A = some k) w0 w
  lt : ∀ k, blk it.A = some k → k < w0.heap.size

theorem srcz_take {w : World} {A : Option Addr} {n m : Nat} {xs ys : List Value} (h : Src w A n (xs ++ ys)) (hm : xs.length = m) : Src w A m xs := by
  refine ⟨hm, fun h0 => ?_⟩
  obtain ⟨b, off, e, hb, hc⟩ := h.2 (by have := h.1; simp at this; omega)
  exact ⟨b, off, e, hb, fun j u hj => hc j u (by
    have : j < xs.length := by
      rcases Nat.lt_or_ge j xs.length with x | x
      · exact x
      · rw [List.getElem?_eq_none x] at hj; cases hj
    rw [List.getElem?_append_left this]; exact hj)⟩

namespace GrZ
variable {z : Nat} {mk : Nat → Nat → List Value} {w0 w w' : World} {it : ItZ} {i : Nat} {A A' : Option Addr} {n c c' m : Nat}
theorem start (h : BufZ z w it.A it.n it.c (marksZ mk i 0 it.n)) : GrZ z mk w w it i it.A it.n it.c :=
  ⟨h, h.src, Nat.le_refl _, .inl rfl, Keep.refl _ _, fun k hk => h.lt hk⟩
theorem keep {S : Nat → Prop} (h : GrZ z mk w0 w it i A n c) (k : Keep S w w') (hn : ∀ j, (blk A = some j ∨ blk it.A = some j) → ¬ S j) (hs : ∀ j, j < w0.heap.size → ¬ S j) : GrZ z mk w0 w' it i A n c :=
  ⟨h.buf.keep k (fun j hj => hn j (.inl hj)), h.src.of_keep k (fun j hj => hn j (.inr hj)), h.le, h.wh, h.kp.trans k (fun j hj e => absurd e (hs j hj)), h.lt⟩
theorem more (hM : MarkOk z mk) (h : GrZ z mk w0 w it i A n c)
    (b : BufZ z w' A' (n + m) c' (marksZ mk i 0 n ++ marksZ mk i n m)) (k : Keep (fun k => blk A = some k) w w') (hA : A' = A ∨ ((∀ k, blk A' = some k → w.heap.size ≤ k) ∧ Keep (fun _ => False) w w')) : GrZ z mk w0 w' it i A' (n + m) c' := by
  have hb : BufZ z w' A' (n + m) c' (marksZ mk i 0 (n + m)) := by
    have := marksZ_add mk i 0 n m
    rw [Nat.zero_add] at this
    rw [← this]; exact b
  have hw := h.kp.size
  have hle := h.le
  rcases hA with rfl | ⟨h1, h2⟩
  · rcases h.wh with rfl | h3
    · refine ⟨hb, ?_, by omega, .inl rfl, h.kp.trans k (fun j _ e => e), h.lt⟩
      have hs := hb.src
      rw [show n + m = it.n + (n + m - it.n) from by omega, ← marksZ_add] at hs
      exact srcz_take hs (hM.marks i 0 it.n)
    · have far : ∀ j, blk it.A = some j → ¬ blk A' = some j := fun j hj e => by have := h.lt j hj; have := h3 j e; omega
      exact ⟨hb, h.src.of_keep k far, by omega, .inr h3, h.kp.trans k (fun j hj e => absurd (h3 j e) (by omega)), h.lt⟩
  · exact ⟨hb, h.src.of_keep h2 (fun _ _ x => x), by omega, .inr (fun j hj => by have := h1 j hj; omega), h.kp.trans h2 (fun j _ e => e.elim), h.lt⟩
end GrZ

/-- Lists of marks. -/
def MkdZ (z : Nat) (mk : Nat → Nat → List Value) (w : World) (A : Option Addr) (c : Nat) (gs : List ItZ) : Prop :=
  Buf w A gs.length c (gs.map ItZ.val) ∧ ∀ (j : Nat) (g : ItZ), gs[j]? = some g → Src w g.A (g.n * z) (marksZ mk j 0 g.n) ∧ g.n ≤ 5000

/-- The first k lists have grown. -/
structure GiZ (z C : Nat) (mk : Nat → Nat → List Value) (w wr : World) (q : Nat) (own : Nat → Prop) (A : Option Addr) (c : Nat) (its : List ItZ) (O : Option Addr) (oc : Nat) (gs : List ItZ) (k : Nat) : Prop where
  c0 : wr.cell? ⟨q, C, none⟩ = some (.slice A its.length c)
  rows : Buf wr A its.length c (its.map ItZ.val)
  later : ∀ (j : Nat) (it : ItZ), k ≤ j → its[j]? = some it → BufZ z wr it.A it.n it.c (marksZ mk j 0 it.n)
  src : ∀ (j : Nat) (it : ItZ), its[j]? = some it → Src wr it.A (it.n * z) (marksZ mk j 0 it.n)
  len : gs.length = k
  out : Buf wr O k oc (gs.map ItZ.val)
  fresh : ∀ y, blk O = some y → w.heap.size ≤ y
  gsrc : ∀ (j : Nat) (g it : ItZ), gs[j]? = some g → its[j]? = some it → Src wr g.A (g.n * z) (marksZ mk j 0 g.n) ∧ g.n = it.n + 72 ∧ (g.A = it.A ∨ ∀ y, blk g.A = some y → w.heap.size ≤ y) ∧ ∀ y, blk g.A = some y → blk O ≠ some y ∧ y < wr.heap.size
  kp : Keep own w wr

namespace GiZ
variable {z C : Nat} {mk : Nat → Nat → List Value} {w wr w1 w2 : World} {q : Nat} {own : Nat → Prop} {A : Option Addr} {c : Nat} {its : List ItZ} {f : Nat → List Value} {O O' : Option Addr} {oc oc' : Nat} {gs : List ItZ} {k : Nat}

theorem start (H : TxZ z C w q own A c its f) (hM : ∀ (j : Nat) (it : ItZ), its[j]? = some it → f j = marksZ mk j 0 it.n) : GiZ z C mk w w q own A c its none 0 [] 0 :=
  { c0 := H.c0, rows := H.rows, later := fun j it _ hj => by rw [← hM j it hj]; exact H.item j it hj, src := fun j it hj => by rw [← hM j it hj]; exact (H.item j it hj).src, len := rfl, out := Buf.nil _, fresh := fun z hz => by simp [blk] at hz, gsrc := fun j g it hg => by simp at hg, kp := Keep.refl _ _ }

theorem next (H : TxZ z C w q own A c its f) (h : GiZ z C mk w wr q own A c its O oc gs k) {it : ItZ} (hit : its[k]? = some it) {A' : Option Addr} {c' : Nat} (hg : GrZ z mk wr w1 it k A' (it.n + 72) c')
    (b : Buf w2 O' (k + 1) oc' (gs.map ItZ.val ++ [.slice A' (it.n + 72) c'])) (kk : Keep (fun z => blk O = some z) w1 w2) (hO : ∀ z, blk O' = some z → blk O = some z ∨ w1.heap.size ≤ z) :
    GiZ z C mk w w2 q own A c its O' oc' (gs ++ [⟨A', it.n + 72, c', []⟩]) (k + 1) := by
  have hm := List.mem_of_getElem? hit
  have s0 := h.kp.size
  have s1 := hg.kp.size
  have s2 := kk.size
  have K : Keep (fun z => blk it.A = some z ∨ blk O = some z) wr w2 := (hg.kp.mono (fun _ _ x => .inl x)).trans kk (fun _ _ x => .inr x)
  have old : ∀ z, own z → blk O ≠ some z := fun z hz e => by have := H.lt z hz; have := h.fresh z e; omega
  have oth : ∀ (j : Nat) (jt : ItZ), j ≠ k → its[j]? = some jt → ∀ z, blk jt.A = some z → ¬ (blk it.A = some z ∨ blk O = some z) := fun j jt hj hjt z hz e => by
    rcases e with e | e
    · exact H.d5 j k jt it hj hjt hit z hz e
    · exact old z (H.oI jt (List.mem_of_getElem? hjt) z hz) e
  have far : ∀ z, blk A' = some z → blk O ≠ some z := fun z hz e => by
    rcases hg.wh with rfl | x
    · exact old z (H.oI it hm z hz) e
    · have := x z hz; have := h.out.lt e; omega
  have g6 : ∀ z, blk A' = some z → blk O' ≠ some z := fun z hz e => by
    rcases hO z e with e | e
    · exact far z hz e
    · have := hg.buf.lt hz; omega
  refine { c0 := (K.cell (p := ⟨q, C, none⟩) (by have := H.lq; show q < _; omega) (fun e => ?_)).trans h.c0, rows := h.rows.keep K (fun z hz e => ?_), later := fun j jt hj hjt => (h.later j jt (by omega) hjt).keep K (oth j jt (by omega) hjt), src := fun j jt hjt => ?_, len := by simp [h.len], out := by rw [List.map_append]; exact b, fresh := fun z hz => ?_, gsrc := fun j g jt hj hjt => ?_, kp := h.kp.trans (K.mono (S' := fun z => own z ∨ wr.heap.size ≤ z ∨ blk O = some z) (fun z _ e => e.imp (H.oI it hm z) .inr)) (fun z hz e => ?_) }
  · rcases e with e | e
    · exact H.nq (H.oI it hm q e)
    · have := h.fresh q e; have := H.lq; omega
  · rcases e with e | e
    · exact H.d3 it hm z e hz
    · exact old z (H.oA z hz) e
  · by_cases e : j = k
    · subst e
      rw [hit] at hjt; injection hjt with hjt; subst hjt
      exact hg.src.of_keep kk (fun z hz e => old z (H.oI it hm z hz) e)
    · exact (h.src j jt hjt).of_keep K (oth j jt e hjt)
  · rcases hO z hz with e | e
    · exact h.fresh z e
    · omega
  · by_cases e : j < gs.length
    · rw [List.getElem?_append_left e] at hj
      obtain ⟨r1, r2, r3, r4⟩ := h.gsrc j g jt hj hjt
      have hjk : j ≠ k := by have := h.len; omega
      refine ⟨r1.of_keep K (fun z hz e2 => ?_), r2, r3, fun z hz => ⟨fun e2 => ?_, by have := (r4 z hz).2; omega⟩⟩
      · rcases e2 with e2 | e2
        · rcases r3 with x | x
          · rw [x] at hz; exact H.d5 j k jt it hjk hjt hit z hz e2
          · have := x z hz; have := H.lt z (H.oI it hm z e2); omega
        · exact (r4 z hz).1 e2
      · rcases hO z e2 with x | x
        · exact (r4 z hz).1 x
        · have := (r4 z hz).2; omega
    · rw [List.getElem?_append_right (by omega)] at hj
      have hz : j = k := by
        have := h.len
        rcases Nat.eq_zero_or_pos (j - gs.length) with x | x
        · omega
        · rw [List.getElem?_eq_none (by simp; omega)] at hj; cases hj
      subst hz
      rw [h.len, Nat.sub_self] at hj
      injection hj with hj
      subst hj
      rw [hit] at hjt; injection hjt with hjt; subst hjt
      exact ⟨hg.buf.src.of_keep kk far, rfl, hg.wh.imp id (fun x z hz => by have := x z hz; omega), fun z hz => ⟨g6 z hz, by have := hg.buf.lt hz; omega⟩⟩
  · rcases e with e | e | e
    · exact e
    · omega
    · exact absurd (h.fresh z e) (by omega)

/-- At the end: both what has grown and what there was are marks. -/
theorem done (H : TxZ z C w q own A c its f) (h : GiZ z C mk w wr q own A c its O oc gs its.length) : MkdZ z mk wr O oc gs ∧ MkdZ z mk wr A c its := by
  refine ⟨⟨by rw [h.len]; exact h.out, fun j g hj => ?_⟩, ⟨h.rows, fun j it hj => ⟨h.src j it hj, by have := H.few it (List.mem_of_getElem? hj); omega⟩⟩⟩
  obtain ⟨hjl, -⟩ := List.getElem?_eq_some_iff.1 hj
  rw [h.len] at hjl
  obtain ⟨r1, r2, -⟩ := h.gsrc j g _ hj (List.getElem?_eq_getElem hjl)
  exact ⟨r1, by have := H.few _ (List.getElem_mem hjl); omega⟩

/-- Others turn other blocks meanwhile. -/
theorem keep {S : Nat → Prop} (H : TxZ z C w q own A c its f) (h : GiZ z C mk w wr q own A c its O oc gs its.length) (kk : Keep S wr w2) (hS : ∀ i, S i → i < w.heap.size ∧ ¬ own i ∧ i ≠ q) :
    w2.cell? ⟨q, C, none⟩ = some (.slice A its.length c) ∧ MkdZ z mk w2 O oc gs ∧ MkdZ z mk w2 A c its := by
  have s0 := h.kp.size
  obtain ⟨m1, m2⟩ := h.done H
  refine ⟨(kk.cell (p := ⟨q, C, none⟩) (by have := H.lq; show q < _; omega) (fun e => (hS q e).2.2 rfl)).trans h.c0, ⟨m1.1.keep kk (fun i hi e => by have := h.fresh i hi; have := (hS i e).1; omega), fun j g hj => ⟨(m1.2 j g hj).1.of_keep kk (fun i hi e => ?_), (m1.2 j g hj).2⟩⟩, ⟨m2.1.keep kk (fun i hi e => (hS i e).2.1 (H.oA i hi)), fun j it hj => ⟨(m2.2 j it hj).1.of_keep kk (fun i hi e => (hS i e).2.1 (H.oI it (List.mem_of_getElem? hj) i hi)), (m2.2 j it hj).2⟩⟩⟩
  obtain ⟨hjl, -⟩ := List.getElem?_eq_some_iff.1 hj
  rw [h.len] at hjl
  obtain ⟨-, -, r3, -⟩ := h.gsrc j g _ hj (List.getElem?_eq_getElem hjl)
  rcases r3 with x | x
  · rw [x] at hi; exact (hS i e).2.1 (H.oI _ (List.getElem_mem hjl) i hi)
  · have := x i hi; have := (hS i e).1; omega
end GiZ

theorem MkdZ.keep {z : Nat} {mk : Nat → Nat → List Value} {w w' : World} {A : Option Addr} {c : Nat} {gs : List ItZ} (h : MkdZ z mk w A c gs) (k : Keep (fun _ => False) w w') : MkdZ z mk w' A c gs :=
  ⟨h.1.keep k (fun _ _ x => x), fun j g hj => ⟨(h.2 j g hj).1.of_keep k (fun _ _ x => x), (h.2 j g hj).2⟩⟩

end Go.Proofs.Ytbjdcbnmpmcdiaa
