/- The law's plain: tokens, Data of several together. Own work. -/
import Derived.Test.YtnnkgdggkinblaaPlainM
import Derived.Test.YtnnkgdggkinblaaToks
namespace Go.Proofs.Ytnnkgdggkinblaa
set_option linter.unusedVariables false
set_option linter.unusedSimpArgs false
open Go.RowKit

theorem own_below {w w' : World} {base e size n : Nat} {v : Value} {xs : List Value} {B : Nat} (h : w.ownsRow base e size v n xs) (k : Below B w w') (hB : ∀ i, v.ownBlock = some i → i < B) : w'.ownsRow base e size v n xs := by
  refine ⟨h.1, ?_⟩
  rcases h.2 with h2 | ⟨g, cap, cur, rfl, hb, hg, r⟩
  · exact .inl h2
  · exact .inr ⟨g, cap, cur, rfl, hb, (k.block g (hB g rfl)).trans hg, r⟩

set_option maxRecDepth 100000 in
set_option maxHeartbeats 3200000 in
theorem plain_any (base : Nat) (v : Value) (l : List Tok) (w : World) (h : w.ownsRow base 60 4 v l.length (toks l)) (hn : l.length ≤ 1000000000000) (hs : tsum l ≤ 1000000000000) :
    Calls Try.prog 12 #[v] w fun e w' => ∃ v', e = .returned v' ∧ w'.ownsRow w.heap.size 60 4 v' (plainL l).length (toks (plainL l)) ∧ Below w.heap.size w w' := by
  obtain ⟨i0, hi, hz0, hz1, hz2⟩ := info_parts token_info
  obtain ⟨A, c, rfl, _⟩ := own_form h
  have H := Lib.hid h
  have HS := Lib.hid hs
  have HN := Lib.hid hn
  clear h hs hn
  go_enter Try.func12, Try.ntmps12
  go_wp2_with fail
  go_loopw [3, 4] (fun o i wr => ∃ k : Nat, i = .int .i64 k ∧ k ≤ l.length ∧ Hid (wr.ownsRow w.heap.size 60 4 o (plainL (l.take k)).length (toks (plainL (l.take k)))) ∧ Hid (Below w.heap.size w wr)) (fun _ i _ => l.length - (intOf i).toNat)
  case atStart => exact ⟨0, rfl, by omega, World.ownsRow_nil _ _ _ _, Below.refl _ _⟩
  case round =>
    obtain ⟨k, rfl, hk, ho, hb⟩ := hrel
    by_cases hlt : k < l.length
    · obtain ⟨t, ht⟩ : ∃ t, l[k]? = some t := ⟨_, List.getElem?_eq_getElem hlt⟩
      have hold := own_below H.out hb.out (fun i hi => own_lt H.out hi)
      obtain ⟨g1, d1, e1, hg1, p0, p1, p2, p3⟩ := tok_cells hold ht
      injection e1 with e1 _ e3
      subst e1 e3
      have hnx := Lib.hid (plain_next ht)
      obtain ⟨acc, hacc⟩ : ∃ acc, acc = plainL (l.take k) := ⟨_, rfl⟩
      have hal : acc.length ≤ 1000000000000 := by have h1 := plain_len (l.take k); have h2 := HN.out; rw [List.length_take, ← hacc] at h1; omega
      have hat : tsum acc ≤ 1000000000000 := by have h1 := tsum_take l k; have h2 := HS.out; rw [hacc, tsum_plain]; omega
      have htt : t.text.length ≤ 1000000000000 := by have := tsum_mem (List.mem_of_getElem? ht); have := HS.out; omega
      rw [← hacc] at ho hnx
      obtain ⟨T, hT⟩ : ∃ T : ByteArray, T = ⟨t.text.toArray⟩ := ⟨_, rfl⟩
      have hTs : T.size ≤ 1000000000000 := by rw [hT, size_mk]; exact htt
      rw [← hT] at p3
      have HT := Lib.hid hT
      have HAL := Lib.hid hal
      have HAT := Lib.hid hat
      have hki : ((k : Int) < (l.length : Int)) := by omega
      have hk0 : (0 : Int) ≤ (k : Int) := by omega
      have hkb : (k : Int) ≤ 1000000000000 := by have := HN.out; omega
      clear hold ht hacc hT htt hal hat
      by_cases hkz : t.kind = 0
      · have tk : (t.kind == 0) = true := by simpa using hkz
        rcases List.eq_nil_or_concat acc with rfl | ⟨ini, y, rfl⟩
        · have HJ := Lib.hid (show joinT [] t = [] ++ [t] from rfl)
          obtain ⟨Ao, co, rfl, _⟩ := own_form ho.out
          clear hkz
          go_wp2_with (at_builtin; refine wpList_own_at _ rfl (.tmp 48) (.tmp 53) 49 rfl w.heap.size 60 i0 _ 4 40 Try.underlying49 hi hz0 hz1 hz2 rfl (by decide) _ _ _ rfl (own_keep ho.out ((Keep.refl (fun _ => False) wr).alloc _) (fun _ _ x => x)) ⟨wr.heap.size, 0, none⟩ 1 1 [.int .i64 t.kind, .int .i64 t.cmd, .int .i64 t.opt, .string T] rfl rfl (cells_new wr _ _ _ rfl) (one_tok _ _ _ T) ?c3a ?c4a ?c5a ?_)
          case c3a => have := HAL.out; unfold maxLen; omega
          case c5a => have := hb.out.size; simp; omega
          intro v2 w2 hown hkeep hat
          have HO : Hid (w2.ownsRow w.heap.size 60 4 v2 (plainL (l.take (k + 1))).length (toks (plainL (l.take (k + 1))))) := by
            show World.ownsRow _ _ _ _ _ _ _
            rw [hnx.out, HJ.out, toks_add, toks_one, Tok.cells, ← HT.out, show (([] : List Tok) ++ [t]).length = ([] : List Tok).length + 1 from by simp]
            exact hown
          have HB : Hid (Below w.heap.size w w2) := by
            show Below _ _ _
            have kk : Below w.heap.size wr w2 := by
              have h1 : Keep (fun i => Value.ownBlock (.slice Ao ([] : List Tok).length co) = some i) wr w2 := ((Keep.refl (fun i => Value.ownBlock (.slice Ao ([] : List Tok).length co) = some i) wr).alloc _).trans hkeep (fun _ _ x => x)
              exact h1.below hb.out.size (fun i hi x => by have := (ho.out.lt i x).1; omega)
            exact hb.out.trans kk
          clear hown hkeep hat
          go_wp2_with fail
          go_roundw
          case rel => exact ⟨k + 1, by go_num, by omega, HO.out, HB.out⟩
          case measure => simp [intOf]; omega
        · rw [List.concat_eq_append] at ho hnx HAL HAT
          have hin : (ini ++ [y])[ini.length]? = some y := by simp
          obtain ⟨go, co, eo, hgo, q0, q1, q2, q3⟩ := tok_cells ho.out hin
          subst eo
          have hm0 : (0 : Int) ≤ (ini.length : Int) := by omega
          have hmb : (ini.length : Int) ≤ 1000000000000 := by have := HAL.out; rw [List.length_append] at this; simp at this; omega
          have HL := Lib.hid (show (ini ++ [y]).length = ini.length + 1 by simp)
          by_cases hyz : y.kind = 0
          · have tq : (y.kind == 0) = true := by simpa using hyz
            have HJ := Lib.hid (show joinT (ini ++ [y]) t = ini ++ [⟨y.kind, y.cmd, y.opt, y.text ++ t.text⟩] by rw [joinT_snoc, if_pos ⟨hkz, hyz⟩])
            obtain ⟨Y, hY⟩ : ∃ Y : ByteArray, Y = ⟨y.text.toArray⟩ := ⟨_, rfl⟩
            have hYs : Y.size + T.size ≤ 9223372036854775807 := by
              rw [hY, size_mk]
              have h1 := tsum_mem (show y ∈ ini ++ [y] by simp)
              have h2 := HAT.out
              omega
            rw [← hY] at q3
            have HY := Lib.hid hY
            have fz := ho.out.frozenAt (ini.length * 4 + 3)
            obtain ⟨E, hE⟩ : ∃ E : ByteArray, E = Y ++ T := ⟨_, rfl⟩
            have hcat : ∀ W, (Op.stringOp .add Y T).run Try.prog W = .ok (.string E) W := fun W => by rw [hE]; exact run_string_add_sum W Y T hYs
            have HE := Lib.hid hE
            rw [HL.out] at ho
            have hl1 : (ini.length : Int) < (ini.length : Int) + 1 := by omega
            clear hin hkz hyz hY hE
            go_wp2_with fail
            go_region_law (fail)
            all_goals
              have HO : Hid ((wr.drew.setCell ⟨go, ini.length * 4 + 3, none⟩ (.string E)).ownsRow w.heap.size 60 4 (.slice (some ⟨go, 0, none⟩) (ini.length + 1) co) (plainL (l.take (k + 1))).length (toks (plainL (l.take (k + 1))))) := by
                show World.ownsRow _ _ _ _ _ _ _
                have h1 := (World.ownsRow.stored (own_keep ho.out ((Keep.refl (fun _ => False) wr).drew) (fun _ _ x => x)) (ini.length * 4 + 3) (.string E)).1
                have hEE : E = ⟨(y.text ++ t.text).toArray⟩ := by rw [HE.out, HY.out, HT.out, mk_add]
                rw [hnx.out, HJ.out, show (ini ++ [(⟨y.kind, y.cmd, y.opt, y.text ++ t.text⟩ : Tok)]).length = ini.length + 1 from by simp, ← toks_set, ← hEE]
                exact h1
              have HB : Hid (Below w.heap.size w (wr.drew.setCell ⟨go, ini.length * 4 + 3, none⟩ (.string E))) := by
                show Below _ _ _
                exact (hb.out.drew).setCell (ho.out.lt go rfl).1 _
              clear q0 q1 q2 q3 fz hcat
              go_wp2_with fail
              go_roundw
              case rel => exact ⟨k + 1, by go_num, by omega, HO.out, HB.out⟩
              case measure => simp [intOf]; omega
          · have tq : (y.kind == 0) = false := by simpa using hyz
            have HJ := Lib.hid (show joinT (ini ++ [y]) t = (ini ++ [y]) ++ [t] by rw [joinT_snoc, if_neg (fun x => hyz x.2)])
            clear hin hkz hyz
            go_wp2_with (at_builtin; refine wpList_own_at _ rfl (.tmp 48) (.tmp 53) 49 rfl w.heap.size 60 i0 _ 4 40 Try.underlying49 hi hz0 hz1 hz2 rfl (by decide) _ _ _ rfl (own_keep ho.out ((Keep.refl (fun _ => False) wr).alloc _) (fun _ _ x => x)) ⟨wr.heap.size, 0, none⟩ 1 1 [.int .i64 t.kind, .int .i64 t.cmd, .int .i64 t.opt, .string T] rfl rfl (cells_new wr _ _ _ rfl) (one_tok _ _ _ T) ?c3b ?c4b ?c5b ?_)
            case c3b => have := HAL.out; unfold maxLen; omega
            case c4b => have := HAL.out; omega
            case c5b => have := hb.out.size; simp; omega
            intro v2 w2 hown hkeep hat
            have HO : Hid (w2.ownsRow w.heap.size 60 4 v2 (plainL (l.take (k + 1))).length (toks (plainL (l.take (k + 1))))) := by
              show World.ownsRow _ _ _ _ _ _ _
              rw [hnx.out, HJ.out, toks_add, toks_one, Tok.cells, ← HT.out, show ((ini ++ [y]) ++ [t]).length = ini.length + 1 + 1 from by simp]
              exact hown
            have HB : Hid (Below w.heap.size w w2) := by
              show Below _ _ _
              have kk : Below w.heap.size wr w2 := by
                have h1 : Keep (fun i => Value.ownBlock (.slice (some ⟨go, 0, none⟩) (ini ++ [y]).length co) = some i) wr w2 := ((Keep.refl (fun i => Value.ownBlock (.slice (some ⟨go, 0, none⟩) (ini ++ [y]).length co) = some i) wr).alloc _).trans hkeep (fun _ _ x => x)
                exact h1.below hb.out.size (fun i hi x => by have := (ho.out.lt i x).1; omega)
              exact hb.out.trans kk
            clear hown hkeep hat
            go_wp2_with fail
            go_roundw
            case rel => exact ⟨k + 1, by go_num, by omega, HO.out, HB.out⟩
            case measure => simp [intOf]; omega
      · have tk : (t.kind == 0) = false := by simpa using hkz
        have HJ := Lib.hid (show joinT acc t = acc ++ [t] from joinT_app acc t hkz)
        obtain ⟨Ao, co, rfl, _⟩ := own_form ho.out
        have hb0 : (0 : Int) ≤ (acc.length : Int) := by omega
        have hb1 : (acc.length : Int) ≤ 1000000000000 := by have := HAL.out; omega
        clear hkz
        go_wp2_with (at_builtin; refine wpList_own_at _ rfl (.tmp 48) (.tmp 53) 49 rfl w.heap.size 60 i0 _ 4 40 Try.underlying49 hi hz0 hz1 hz2 rfl (by decide) _ _ _ rfl (own_keep ho.out ((Keep.refl (fun _ => False) wr).alloc _) (fun _ _ x => x)) ⟨wr.heap.size, 0, none⟩ 1 1 [.int .i64 t.kind, .int .i64 t.cmd, .int .i64 t.opt, .string T] rfl rfl (cells_new wr _ _ _ rfl) (one_tok _ _ _ T) ?c3c ?c4c ?c5c ?_)
        case c3c => have := HAL.out; unfold maxLen; omega
        case c4c => have := HAL.out; omega
        case c5c => have := hb.out.size; simp; omega
        intro v2 w2 hown hkeep hat
        have HO : Hid (w2.ownsRow w.heap.size 60 4 v2 (plainL (l.take (k + 1))).length (toks (plainL (l.take (k + 1))))) := by
          show World.ownsRow _ _ _ _ _ _ _
          rw [hnx.out, HJ.out, toks_add, toks_one, Tok.cells, ← HT.out, show (acc ++ [t]).length = acc.length + 1 from by simp]
          exact hown
        have HB : Hid (Below w.heap.size w w2) := by
          show Below _ _ _
          have kk : Below w.heap.size wr w2 := by
            have h1 : Keep (fun i => Value.ownBlock (.slice Ao acc.length co) = some i) wr w2 := ((Keep.refl (fun i => Value.ownBlock (.slice Ao acc.length co) = some i) wr).alloc _).trans hkeep (fun _ _ x => x)
            exact h1.below hb.out.size (fun i hi x => by have := (ho.out.lt i x).1; omega)
          exact hb.out.trans kk
        clear hown hkeep hat
        go_wp2_with fail
        go_roundw
        case rel => exact ⟨k + 1, by go_num, by omega, HO.out, HB.out⟩
        case measure => simp [intOf]; omega
    · have hkn : k = l.length := by omega
      subst hkn
      rw [List.take_of_length_le (Nat.le_refl _)] at ho
      obtain ⟨vo, hvo⟩ : ∃ vo, vo = u3 := ⟨_, rfl⟩
      go_wp2_with fail
      go_ret
      exact ⟨_, rfl, ho.out, hb.out⟩

end Go.Proofs.Ytnnkgdggkinblaa
