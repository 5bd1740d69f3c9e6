/- esc.Parser: Feed of any, Ground, Kept. Own work (rgn/XEscA.lean by rgn.py). -/
import Derived.Test.YthphnjilbpidgaaEscF
namespace Go.Proofs.Ythphnjilbpidgaa
set_option linter.unusedVariables false
set_option linter.unusedSimpArgs false
open Go.RowKit

theorem ActsV.base {w : World} {B B2 : Nat} {A : Option Addr} {n c : Nat} {rs : List EAct} (h : ActsV w B A n c rs) (hb : B2 ≤ B) : ActsV w B2 A n c rs := by
  obtain ⟨ss, h⟩ := h
  exact ⟨ss, h.l, h.cnt, own_base h.row hb, fun x hx => own_base (h.nums x hx) hb, h.nd⟩

/-- What Feed answers. -/
def FeedTo (p o : Nat) (w : World) (x : BP × List EAct) (e : Ending) (w' : World) : Prop :=
  ∃ A' n' c', e = .returned (.slice A' n' c') ∧ n' = x.2.length ∧ ActsV w' w.heap.size A' n' c' x.2 ∧ EscAt w' p o x.1 ∧ KE p o w w'

theorem fed_at {p o B R : Nat} {b : BP} {q : PL} {w w1 w' : World} {v : Value} {l : List Nat} (hal : AlikeE b q) (hf : FedE p o B R b w1 v l w') (hB : w.heap.size ≤ B) (hRp : R ≠ p) (hr : Cell w1 p o (.pointer (some ⟨R, 0, none⟩))) (hR : RulesAt w1 R true)
    (hk : SpanP p o (o + 1) w w1) : FeedTo p o w (feedE b l) (.returned v) w' := by
  obtain ⟨A, n, c, rfl, hn, ha, he, hp⟩ := hf
  have kp : Keep (· = p) w1 w' := hp.keep.mono (fun _ _ e => e.elim id (fun e => by simp [blk] at e))
  refine ⟨A, n, c, rfl, hn, ha.base hB, ⟨he, .inr ⟨R, ⟨(hp.out o (by omega)).1.trans hr.1, (hp.out o (by omega)).2.trans hr.2⟩, hR.keep kp hRp, hRp⟩, ⟨_, (feed_alikeE l hal).1⟩⟩, ⟨hk.keep.trans kp (fun _ _ x => x), fun i hi => ?_⟩⟩
  exact ⟨(hp.out i (by omega)).1.trans (hk.out i (by omega)).1, (hp.out i (by omega)).2.trans (hk.out i (by omega)).2⟩

theorem esc_feed (p o : Nat) (b : BP) (A : Option Addr) (n c : Nat) (ts : List ByteArray) (w : World) (h : EscAt w p o b) (hs : Src w A n (ts.map Value.string)) (hA : 0 < n → blk A ≠ some p) (hn : n ≤ 100000000) (hsum : sum ts ≤ 100000000) (hcm : b.came ≤ 100000000) :
    Calls Try.prog 12 #[.pointer (some ⟨p, o, none⟩), .slice A n c] w (FeedTo p o w (feedsE b ts)) := by
  obtain ⟨q, hal⟩ := h.al
  have hl : ts.length = n := by have := hs.1; rwa [List.length_map] at this
  have hpre : feedE b (preU ts n 0) = feedsE b ts := by rw [← hl, preU_end]; rfl
  rw [← hpre]
  rcases h.r with hr | ⟨R, hr, hR, hRp⟩
  · refine (esc_feed_first p o b q hal A n c ts w h.c hr hs hA hn hsum hcm).mono ?_
    rintro e w' ⟨R, B, v, w1, hB, hRw, rfl, ⟨hr1, hR1, hk⟩, hf⟩
    exact fed_at hal hf hB (by have := h.lt; omega) hr1 hR1 hk
  · refine (esc_feed_made p o R b q hal A n c ts w h.c hr hR hRp hs hA hn hsum hcm).mono ?_
    rintro e w' ⟨B, v, w1, hB, rfl, hk, hf⟩
    exact fed_at hal hf hB hRp (hr.keep hk (fun x => x)) (hR.keep hk (fun x => x)) ⟨hk.mono (fun _ _ x => x.elim), fun i _ => ⟨hk.cell (p := ⟨p, i, none⟩) h.lt (fun x => x), hk.frozen (p := ⟨p, i, none⟩) h.lt (fun x => x)⟩⟩

/-- Is it there, with nothing half read? -/
def BP.ground (b : BP) : Bool := decide (b.s = 0 ∧ b.u.half = 0)

set_option maxHeartbeats 1600000 in
theorem esc_ground (p o : Nat) (b : BP) (w : World) (h : EscAt w p o b) :
    Calls Try.prog 16 #[.pointer (some ⟨p, o, none⟩)] w fun e w' => e = .returned (.bool b.ground) ∧ w' = w := by
  have c1 := h.c.s.1
  by_cases h0 : b.s = 0
  · have HH := Lib.hid (utf_half p (o + 2) b.u w h.c.u)
    have t0 : ((b.s : Int) == 0) = true := by simp; omega
    by_cases hz : b.u.half = 0
    · have t1 : ((b.u.half : Int) == 0) = true := by simp; omega
      have e : b.ground = true := decide_eq_true ⟨h0, hz⟩
      rw [e]
      clear h h0 hz e
      go_enter Try.func16, Try.ntmps16
      go_wp2_with fail
      refine HH.out.mono ?_
      rintro e w1 ⟨rfl, rfl⟩
      go_wp2_with fail
      go_ret
      exact ⟨rfl, rfl⟩
    · have t1 : ((b.u.half : Int) == 0) = false := by simp; omega
      have e : b.ground = false := decide_eq_false (fun x => hz x.2)
      rw [e]
      clear h h0 hz e
      go_enter Try.func16, Try.ntmps16
      go_wp2_with fail
      refine HH.out.mono ?_
      rintro e w1 ⟨rfl, rfl⟩
      go_wp2_with fail
      go_ret
      exact ⟨rfl, rfl⟩
  · have t0 : ((b.s : Int) == 0) = false := by simp; omega
    have e : b.ground = false := decide_eq_false (fun x => h0 x.1)
    rw [e]
    clear h h0 e
    go_enter Try.func16, Try.ntmps16
    go_wp2_with fail
    go_ret
    exact ⟨rfl, rfl⟩

/-- A new Parser. -/
def parserCs : Array Value := #[.pointer none, .int .u8 0, .int .i32 0, .int .i64 0, .int .i64 0, .int .u8 0, .int .u8 0, .int .i64 0, .string ⟨#[]⟩, .int .i64 0, .int .i64 0, .int .i64 0, .int .i64 0, .int .i64 0, .int .i64 0, .int .i64 0, .int .i64 0, .int .i64 0, .string ⟨#[]⟩]
theorem esc_new (w : World) : EscAt (w.alloc (.cells parserCs 37)) w.heap.size 0 .z := by
  have k : ∀ i v, parserCs[i]? = some v → Cell (w.alloc (.cells parserCs 37)) w.heap.size i v := fun i v hv => Cell.box i hv
  refine ⟨⟨k 1 _ rfl, ⟨k 2 _ rfl, k 3 _ rfl, k 4 _ rfl, k 5 _ rfl, k 6 _ rfl, .z⟩, ⟨k 7 _ rfl, k 8 _ rfl, ⟨fun i hi => ?_, k 17 _ rfl, rfl, by simp [BP.z]⟩, k 18 _ rfl⟩⟩, .inl (k 0 _ rfl), ⟨_, AlikeE.z⟩⟩
  rcases i with _ | _ | _ | _ | _ | _ | _ | _ | i
  · exact k 9 _ rfl
  · exact k 10 _ rfl
  · exact k 11 _ rfl
  · exact k 12 _ rfl
  · exact k 13 _ rfl
  · exact k 14 _ rfl
  · exact k 15 _ rfl
  · exact k 16 _ rfl
  · omega

/-- Feed of texts that were just laid. -/
theorem esc_feed_new (p o : Nat) (b : BP) (ts : List ByteArray) (us : Array Value) (w : World) (h : EscAt w p o b) (hu : us = (ts.map Value.string).toArray) (hn : ts.length ≤ 100000000) (hsum : sum ts ≤ 100000000) (hcm : b.came ≤ 100000000) (n : Nat) (hnn : ts.length = n) :
    Calls Try.prog 12 #[.pointer (some ⟨p, o, none⟩), .slice (some ⟨w.heap.size, 0, none⟩) n n] (w.alloc (.cells us 9)) (FeedTo p o (w.alloc (.cells us 9)) (feedsE b ts)) := by
  subst hnn hu
  exact esc_feed p o b _ ts.length ts.length ts _ (h.alloc _) (src_new w (ts.map Value.string) 9 _ rfl _ (by simp)) (fun _ e => by have := h.lt; simp [blk] at e; omega) hn hsum hcm

end Go.Proofs.Ythphnjilbpidgaa
