/- The document's Reader in memory: All. Own work (by rgn/XRefA.py). -/
import Derived.Test.YtopgejjencoelaaRefF
import Derived.Test.YtopgejjencoelaaRefN
import Derived.Test.YtopgejjencoelaaToks
namespace Go.Proofs.Ytopgejjencoelaa
set_option linter.unusedVariables false
set_option linter.unusedSimpArgs false
open Go.RowKit

/-- In the midst of All. -/
def AllAt (p : Nat) (bin : Bool) (C A : Option Addr) (w : World) (y : Rf × List Tok) (o : Value) (w' : World) : Prop :=
  w'.ownsRow w.heap.size 67 4 o y.2.length (toks y.2) ∧ ∃ C' k' A' c', RfIn w' p bin y.1 C' k' A' c' ∧ Step (rfOwn p C A) w (rfOwn p C' A') w' ∧ ∀ i, o.ownBlock = some i → ¬ rfOwn p C' A' i
/-- Behind All. -/
def AllRes (p : Nat) (bin : Bool) (C A : Option Addr) (w : World) (y : Rf × List Tok) (e : Ending) (w' : World) : Prop := ∃ v, e = .returned v ∧ AllAt p bin C A w y v w'

/-- The tokens of a Feed are put to those before. -/
theorem AllAt.put {p : Nat} {bin : Bool} {C A C2 A2 : Option Addr} {k2 c2 : Nat} {w w2 wi : World} {y1 : Rf} {acc l : List Tok} {o o' : Value} (hw : w.heap.size ≤ w2.heap.size) (ho : ∀ i, o.ownBlock = some i → w.heap.size ≤ i ∧ i < w2.heap.size)
    (h2 : RfIn w2 p bin y1 C2 k2 A2 c2) (s2 : Step (rfOwn p C A) w (rfOwn p C2 A2) w2) (n2 : ∀ i, o.ownBlock = some i → ¬ rfOwn p C2 A2 i)
    (hr : wi.ownsRow w.heap.size 67 4 o' (joinsT acc l).length (toks (joinsT acc l))) (st : Step (fun i => o.ownBlock = some i) w2 (fun i => o'.ownBlock = some i) wi) : AllAt p bin C A w (y1, joinsT acc l) o' wi := by
  refine ⟨hr, C2, k2, A2, c2, h2.keep st.1 (fun i hi x => n2 i x hi), ⟨s2.1.trans st.1 (fun i hi x => ?_), s2.2⟩, fun i hi x => ?_⟩
  · have := (ho i x).1; omega
  · rcases st.2 i hi with z | z
    · exact n2 i z x
    · have := h2.lto x; omega

set_option maxRecDepth 100000 in
set_option maxHeartbeats 6400000 in
theorem all_ref (p : Nat) (bin : Bool) (f : Rf) (C : Option Addr) (k0 : Nat) (A : Option Addr) (c0 : Nat) (s : ByteArray) (w : World) (h : RfIn w p bin f C k0 A c0) (hs : s.size ≤ 1000000000) :
    Calls Try.prog 32 #[.pointer (some ⟨p, 0, none⟩), .string s] w (AllRes p bin C A w (allR bin (f, []) s.data.toList)) := by
  obtain ⟨i0, hi, hz0, hz1, hz2⟩ := info_parts token_info
  have H := Lib.hid h
  have HN := Lib.hid hs
  clear h hs
  go_enter Try.func32, Try.ntmps32
  go_wp2_with fail
  go_loopw [5, 6, 7, 8, 9] (fun o i lv kv nv wr => ∃ q : Nat, i = .int .i64 q ∧ q ≤ s.size ∧ Hid (AllAt p bin C A w (allR bin (f, []) (s.data.toList.take q)) o wr)) (fun _ i _ _ _ _ => s.size - (intOf i).toNat)
  case atStart => exact ⟨0, rfl, by omega, World.ownsRow_nil _ _ _ _, C, k0, A, c0, H.out, Step.refl _ _, by simp [Value.ownBlock]⟩
  case round =>
    obtain ⟨q, rfl, hq, hp⟩ := hrel
    have hq0 : (0 : Int) ≤ (q : Int) := by omega
    have hqb : (q : Int) ≤ 1000000000 := by have := HN.out; omega
    by_cases hlt : q < s.size
    · obtain ⟨r1, C1, k1, A1, c1, h1, s1, n1⟩ := hp.out
      obtain ⟨y, hy⟩ : ∃ y, y = allR bin (f, []) (s.data.toList.take q) := ⟨_, rfl⟩
      have HNX : Hid (allR bin (f, []) (s.data.toList.take (q + 1)) = ((feedR bin y.1 s[q]).1, joinsT y.2 (feedR bin y.1 s[q]).2)) := Lib.hid (by
        rw [List.take_succ_eq_append_getElem (by simpa using hlt), allR_add, ← hy, allR_one]
        rfl)
      have hfew := allR_few bin (s.data.toList.take q) (f, []) H.out.ok
      have hl1 : (s.data.toList.take q).length ≤ q := by rw [List.length_take]; omega
      rw [← hy] at r1 h1 hfew
      have HAL := Lib.hid (show y.2.length ≤ 1000000000 by have := HN.out; have := hfew.1; simp at this; omega)
      have HAT := Lib.hid (show tsum y.2 ≤ 40000000000 by have := HN.out; have h3 := hfew.2.1; simp [tsum] at h3 ⊢; omega)
      obtain ⟨Ao, co, rfl, _⟩ := own_form r1
      have hfd := feedR_few bin y.1 s[q] h1.ok
      obtain ⟨l, hl⟩ : ∃ l, l = (feedR bin y.1 s[q]).2 := ⟨_, rfl⟩
      have HL := Lib.hid (show l.length ≤ 1 by rw [hl]; exact hfd.1)
      have HLT := Lib.hid (show tsum l ≤ 40 by rw [hl]; exact hfd.2.1)
      have HLV := Lib.hid hl
      have R1 := Lib.hid r1
      have H1 := Lib.hid h1
      have S1 := Lib.hid s1
      have N1 := Lib.hid n1
      obtain ⟨T0, hT0⟩ : ∃ T0, T0 = y.2 := ⟨_, rfl⟩
      rw [← hT0] at R1 HAL HAT HNX N1 ⊢
      clear hp hy hfew hl1 hfd hl r1 h1 s1 n1 hT0
      go_wp2_with fail
      refine (feed_ref p bin y.1 C1 k1 A1 c1 s[q] _ H1.out).mono ?_
      rintro e w2 ⟨v, rfl, hr, C2, k2, A2, c2, h2, s2, hn⟩
      rw [← HLV.out] at hr
      rw [← HLV.out] at HNX
      have R2 : Hid (w2.ownsRow w.heap.size 67 4 (.slice Ao T0.length co) T0.length (toks T0)) := Lib.hid (own_keep R1.out s2.1 (fun i hi x => N1.out i hi x))
      have N2 : Hid (∀ i, (Value.slice Ao T0.length co).ownBlock = some i → (w.heap.size ≤ i ∧ i < w2.heap.size) ∧ ¬ rfOwn p C2 A2 i ∧ v.ownBlock ≠ some i) := Lib.hid (fun i hi => by
        have a1 := R1.out.lt i hi
        have a2 := s2.1.size
        refine ⟨⟨a1.1, by omega⟩, fun x => ?_, fun x => ?_⟩
        · rcases s2.2 i x with z | z
          · exact N1.out i hi z
          · omega
        · have := (hr.lt i x).1; omega)
      have LR := Lib.hid hr
      have H2 := Lib.hid h2
      have S2 := Lib.hid (S1.out.trans s2)
      have HW : Hid (w.heap.size ≤ w2.heap.size) := Lib.hid (Nat.le_trans S1.out.1.size s2.1.size)
      obtain ⟨Av, cv, rfl, _⟩ := own_form hr
      have hln : (l.length : Int) ≤ 1 := by have := HL.out; omega
      clear hr h2 s2 hn
      go_wp2_with fail
      go_loopw [5, 8, 9] (fun o i nv wi => ∃ k : Nat, i = .int .i64 k ∧ k ≤ l.length ∧ Hid (wi.ownsRow w.heap.size 67 4 o (joinsT T0 (l.take k)).length (toks (joinsT T0 (l.take k)))) ∧ Hid (Step (fun i => (Value.slice Ao T0.length co).ownBlock = some i) w2 (fun i => o.ownBlock = some i) wi)) (fun _ i _ _ => l.length - (intOf i).toNat)
      case atStart => exact ⟨0, rfl, by omega, R2.out, Step.refl _ _⟩
      case round =>
        obtain ⟨k, rfl, hk, ho, hb⟩ := hrel
        by_cases hlk : k < l.length
        · obtain ⟨t, ht⟩ : ∃ t, l[k]? = some t := ⟨_, List.getElem?_eq_getElem hlk⟩
          have hold := own_keep LR.out hb.out.1 (fun i hi x => (N2.out i x).2.2 hi)
          obtain ⟨g1, d1, e1, hg1, p0, p1, p2, p3⟩ := tok_cells hold ht
          injection e1 with e1 _ e3
          subst e1 e3
          have hnx := Lib.hid (joins_next (acc := T0) ht)
          obtain ⟨acc, hacc⟩ : ∃ acc, acc = joinsT T0 (l.take k) := ⟨_, rfl⟩
          have htk := tsum_take l k
          have hal : acc.length ≤ 1000000001 := by have h1 := joinsT_few T0 (l.take k); have h2 := HAL.out; have h3 := HL.out; rw [List.length_take, ← hacc] at h1; omega
          have hat : tsum acc ≤ 40000000040 := by have h1 := tsum_joinsT (l.take k) T0; have h2 := HAT.out; have h3 := HLT.out; rw [← hacc] at h1; omega
          have htt : t.text.length ≤ 40 := by have := tsum_mem (List.mem_of_getElem? ht); have := HLT.out; omega
          rw [← hacc] at ho hnx
          obtain ⟨T, hT⟩ : ∃ T : ByteArray, T = ⟨t.text.toArray⟩ := ⟨_, rfl⟩
          have hTs : T.size ≤ 40 := by rw [hT, size_mk]; exact htt
          rw [← hT] at p3
          have HT := Lib.hid hT
          have HAL2 := Lib.hid hal
          have HAT2 := Lib.hid hat
          have HTS := Lib.hid hTs
          have hki : ((k : Int) < (l.length : Int)) := by omega
          have hk0 : (0 : Int) ≤ (k : Int) := by omega
          have hkb : (k : Int) ≤ 1 := by omega
          clear hold ht hacc hT htt hal hat htk hTs
          by_cases hkz : t.kind = 0
          · have tk : (t.kind == 0) = true := by simpa using hkz
            rcases List.eq_nil_or_concat acc with rfl | ⟨ini, y2, rfl⟩
            · have HJ := Lib.hid (show joinT [] t = [] ++ [t] from rfl)
              obtain ⟨Ax, cx, rfl, _⟩ := own_form ho.out
              clear hkz
              go_wp2_with (at_builtin; refine wpList_own_at _ rfl (.tmp 63) (.tmp 68) 64 rfl w.heap.size 67 i0 _ 4 40 Try.underlying64 hi hz0 hz1 hz2 rfl (by decide) _ _ _ rfl (own_keep ho.out ((Keep.refl (fun _ => False) wr).alloc _) (fun _ _ x => x)) ⟨wr.heap.size, 0, none⟩ 1 1 [.int .i64 t.kind, .int .i64 t.cmd, .int .i64 t.opt, .string T] rfl rfl (cells_new wr _ _ _ rfl) (one_tok _ _ _ T) ?c3a ?c4a ?c5a ?_)
              case c3a => have := HAL2.out; (try simp at this); unfold maxLen; omega
              case c5a => have := hb.out.1.size; have := HW.out; simp; omega
              intro v2 wz hown hkeep hat
              have HO : Hid (wz.ownsRow w.heap.size 67 4 v2 (joinsT T0 (l.take (k + 1))).length (toks (joinsT T0 (l.take (k + 1))))) := by
                show World.ownsRow _ _ _ _ _ _ _
                rw [hnx.out, HJ.out, toks_add, toks_one, Tok.cells, ← HT.out, show (([] : List Tok) ++ [t]).length = ([] : List Tok).length + 1 from by simp]
                exact hown
              have HB : Hid (Step (fun i => (Value.slice Ao T0.length co).ownBlock = some i) w2 (fun i => v2.ownBlock = some i) wz) := by
                show Step _ _ _ _
                refine hb.out.trans ⟨((Keep.refl _ wr).alloc _).trans hkeep (fun _ _ x => x), fun i hi => ?_⟩
                rcases hat i hi with z | z
                · exact .inl z
                · exact .inr (by (try simp at z); omega)
              clear hown hkeep hat
              go_wp2_with fail
              go_roundw
              case rel => exact ⟨k + 1, by go_num, by omega, HO.out, HB.out⟩
              case measure => simp [intOf]; omega
            · rw [List.concat_eq_append] at ho hnx HAL2 HAT2
              have hin : (ini ++ [y2])[ini.length]? = some y2 := by simp
              obtain ⟨go, cx, eo, hgo, q0, q1, q2, q3⟩ := tok_cells ho.out hin
              subst eo
              have hm0 : (0 : Int) ≤ (ini.length : Int) := by omega
              have hmb : (ini.length : Int) ≤ 1000000001 := by have := HAL2.out; rw [List.length_append] at this; simp at this; omega
              have HLN := Lib.hid (show (ini ++ [y2]).length = ini.length + 1 by simp)
              by_cases hyz : y2.kind = 0
              · have tq : (y2.kind == 0) = true := by simpa using hyz
                have HJ := Lib.hid (show joinT (ini ++ [y2]) t = ini ++ [⟨y2.kind, y2.cmd, y2.opt, y2.text ++ t.text⟩] by rw [joinT_snoc, if_pos ⟨hkz, hyz⟩])
                obtain ⟨Y, hY⟩ : ∃ Y : ByteArray, Y = ⟨y2.text.toArray⟩ := ⟨_, rfl⟩
                have hYs : Y.size + T.size ≤ 9223372036854775807 := by
                  rw [hY, size_mk]
                  have h1 := tsum_mem (show y2 ∈ ini ++ [y2] by simp)
                  have h2 := HAT2.out
                  have h3 := HTS.out
                  omega
                rw [← hY] at q3
                have HY := Lib.hid hY
                have fz := ho.out.frozenAt (ini.length * 4 + 3)
                obtain ⟨E, hE⟩ : ∃ E : ByteArray, E = Y ++ T := ⟨_, rfl⟩
                have hcat : ∀ W, (Op.stringOp .add Y T).run Try.prog W = .ok (.string E) W := fun W => by rw [hE]; exact run_string_add_sum W Y T hYs
                have HE := Lib.hid hE
                rw [HLN.out] at ho
                have hl1 : (ini.length : Int) < (ini.length : Int) + 1 := by omega
                have HGO := Lib.hid (ho.out.lt go rfl)
                clear hin hkz hyz hY hE hYs
                go_wp2_with fail
                go_region_law (fail)
                all_goals
                  have HO : Hid ((wr.drew.setCell ⟨go, ini.length * 4 + 3, none⟩ (.string E)).ownsRow w.heap.size 67 4 (.slice (some ⟨go, 0, none⟩) (ini.length + 1) cx) (joinsT T0 (l.take (k + 1))).length (toks (joinsT T0 (l.take (k + 1))))) := by
                    show World.ownsRow _ _ _ _ _ _ _
                    have h1 := (World.ownsRow.stored (own_keep ho.out ((Keep.refl (fun _ => False) wr).drew) (fun _ _ x => x)) (ini.length * 4 + 3) (.string E)).1
                    have hEE : E = ⟨(y2.text ++ t.text).toArray⟩ := by rw [HE.out, HY.out, HT.out, mk_add]
                    rw [hnx.out, HJ.out, show (ini ++ [(⟨y2.kind, y2.cmd, y2.opt, y2.text ++ t.text⟩ : Tok)]).length = ini.length + 1 from by simp, ← toks_set, ← hEE]
                    exact h1
                  have HB : Hid (Step (fun i => (Value.slice Ao T0.length co).ownBlock = some i) w2 (fun i => (Value.slice (some ⟨go, 0, none⟩) (ini.length + 1) cx).ownBlock = some i) (wr.drew.setCell ⟨go, ini.length * 4 + 3, none⟩ (.string E))) := by
                    show Step _ _ _ _
                    exact hb.out.trans ⟨((Keep.refl (fun i => (Value.slice (some ⟨go, 0, none⟩) (ini ++ [y2]).length cx).ownBlock = some i) wr).drew).setCell (p := ⟨go, ini.length * 4 + 3, none⟩) (fun _ => rfl) _, fun i hi => .inl hi⟩
                  clear q0 q1 q2 q3 fz hcat
                  go_wp2_with fail
                  go_roundw
                  case rel => exact ⟨k + 1, by go_num, by omega, HO.out, HB.out⟩
                  case measure => simp [intOf]; omega
              · have tq : (y2.kind == 0) = false := by simpa using hyz
                have HJ := Lib.hid (show joinT (ini ++ [y2]) t = (ini ++ [y2]) ++ [t] by rw [joinT_snoc, if_neg (fun x => hyz x.2)])
                clear hin hkz hyz
                go_wp2_with (at_builtin; refine wpList_own_at _ rfl (.tmp 63) (.tmp 68) 64 rfl w.heap.size 67 i0 _ 4 40 Try.underlying64 hi hz0 hz1 hz2 rfl (by decide) _ _ _ rfl (own_keep ho.out ((Keep.refl (fun _ => False) wr).alloc _) (fun _ _ x => x)) ⟨wr.heap.size, 0, none⟩ 1 1 [.int .i64 t.kind, .int .i64 t.cmd, .int .i64 t.opt, .string T] rfl rfl (cells_new wr _ _ _ rfl) (one_tok _ _ _ T) ?c3b ?c4b ?c5b ?_)
                case c3b => have := HAL2.out; (try simp at this); unfold maxLen; omega
                case c4b => have := HAL2.out; (try simp at this); omega
                case c5b => have := hb.out.1.size; have := HW.out; simp; omega
                intro v2 wz hown hkeep hat
                have HO : Hid (wz.ownsRow w.heap.size 67 4 v2 (joinsT T0 (l.take (k + 1))).length (toks (joinsT T0 (l.take (k + 1))))) := by
                  show World.ownsRow _ _ _ _ _ _ _
                  rw [hnx.out, HJ.out, toks_add, toks_one, Tok.cells, ← HT.out, show ((ini ++ [y2]) ++ [t]).length = ini.length + 1 + 1 from by simp]
                  exact hown
                have HB : Hid (Step (fun i => (Value.slice Ao T0.length co).ownBlock = some i) w2 (fun i => v2.ownBlock = some i) wz) := by
                  show Step _ _ _ _
                  refine hb.out.trans ⟨((Keep.refl _ wr).alloc _).trans hkeep (fun _ _ x => x), fun i hi => ?_⟩
                  rcases hat i hi with z | z
                  · exact .inl z
                  · exact .inr (by (try simp at z); omega)
                clear hown hkeep hat
                go_wp2_with fail
                go_roundw
                case rel => exact ⟨k + 1, by go_num, by omega, HO.out, HB.out⟩
                case measure => simp [intOf]; omega
          · have tk : (t.kind == 0) = false := by simpa using hkz
            have HJ := Lib.hid (show joinT acc t = acc ++ [t] from joinT_app acc t hkz)
            obtain ⟨Ax, cx, rfl, _⟩ := own_form ho.out
            have hb0 : (0 : Int) ≤ (acc.length : Int) := by omega
            have hb1 : (acc.length : Int) ≤ 1000000001 := by have := HAL2.out; omega
            clear hkz
            go_wp2_with (at_builtin; refine wpList_own_at _ rfl (.tmp 63) (.tmp 68) 64 rfl w.heap.size 67 i0 _ 4 40 Try.underlying64 hi hz0 hz1 hz2 rfl (by decide) _ _ _ rfl (own_keep ho.out ((Keep.refl (fun _ => False) wr).alloc _) (fun _ _ x => x)) ⟨wr.heap.size, 0, none⟩ 1 1 [.int .i64 t.kind, .int .i64 t.cmd, .int .i64 t.opt, .string T] rfl rfl (cells_new wr _ _ _ rfl) (one_tok _ _ _ T) ?c3c ?c4c ?c5c ?_)
            case c3c => have := HAL2.out; (try simp at this); unfold maxLen; omega
            case c4c => have := HAL2.out; (try simp at this); omega
            case c5c => have := hb.out.1.size; have := HW.out; simp; omega
            intro v2 wz hown hkeep hat
            have HO : Hid (wz.ownsRow w.heap.size 67 4 v2 (joinsT T0 (l.take (k + 1))).length (toks (joinsT T0 (l.take (k + 1))))) := by
              show World.ownsRow _ _ _ _ _ _ _
              rw [hnx.out, HJ.out, toks_add, toks_one, Tok.cells, ← HT.out, show (acc ++ [t]).length = acc.length + 1 from by simp]
              exact hown
            have HB : Hid (Step (fun i => (Value.slice Ao T0.length co).ownBlock = some i) w2 (fun i => v2.ownBlock = some i) wz) := by
              show Step _ _ _ _
              refine hb.out.trans ⟨((Keep.refl _ wr).alloc _).trans hkeep (fun _ _ x => x), fun i hi => ?_⟩
              rcases hat i hi with z | z
              · exact .inl z
              · exact .inr (by (try simp at z); omega)
            clear hown hkeep hat
            go_wp2_with fail
            go_roundw
            case rel => exact ⟨k + 1, by go_num, by omega, HO.out, HB.out⟩
            case measure => simp [intOf]; omega
        · have hkn : k = l.length := by omega
          subst hkn
          rw [List.take_of_length_le (Nat.le_refl _)] at ho
          go_wp2_with fail
          go_roundw
          case rel =>
            refine ⟨q + 1, by go_num, by omega, ?_⟩
            show AllAt _ _ _ _ _ _ _ _
            rw [HNX.out]
            exact AllAt.put HW.out (fun i hi => (N2.out i hi).1) H2.out S2.out (fun i hi => (N2.out i hi).2.1) ho.out hb.out
          case measure => simp [intOf]; omega
    · have hqn : q = s.size := by omega
      subst hqn
      rw [List.take_of_length_le (by rw [← Lib.size_eq]; exact Nat.le_refl _)] at hp
      obtain ⟨vo, hvo⟩ : ∃ vo, vo = u5 := ⟨_, rfl⟩
      go_wp2_with fail
      go_ret
      exact ⟨_, rfl, hp.out⟩

end Go.Proofs.Ytopgejjencoelaa
