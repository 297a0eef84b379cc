/- queue: the script against the document's own queue -/
import Derived.Test.YthcfpohgjgbhpaaPkC
import Derived.Test.YthcfpohgjgbhpaaPkA
import Derived.Test.YthcfpohgjgbhpaaPkB
import Derived.Deep.CutBlock
namespace Go.Proofs.Ythcfpohgjgbhpaa
open Go.RowKit
set_option linter.unusedVariables false
set_option maxRecDepth 20000
/-- both queues hold L, in blocks apart -/
def Bth (w0 w : World) (b1 b2 : Nat) (L : List AskP) : Prop := ∃ S1 S2, QAt w b1 L S1 ∧ RAt w b2 L S2 ∧ (∀ k, S1 k → ¬ S2 k) ∧ (∀ k, S1 k → w0.heap.size ≤ k) ∧ (∀ k, S2 k → w0.heap.size ≤ k) ∧ Below w0.heap.size w0 w
theorem Bth.bel {w0 w : World} {b1 b2 : Nat} {L : List AskP} (h : Bth w0 w b1 b2 L) : Below w0.heap.size w0 w := by obtain ⟨_, _, _, _, _, _, _, h⟩ := h; exact h
theorem Bth.more {w0 w w' : World} {b1 b2 : Nat} {L : List AskP} (h : Bth w0 w b1 b2 L) (hb : Below w.heap.size w w') : Bth w0 w' b1 b2 L := by
  obtain ⟨S1, S2, q, r, d, l1, l2, b⟩ := h
  exact ⟨S1, S2, q.below hb, r.below hb, d, l1, l2, b.trans (hb.mono b.size)⟩
def PQ (w : World) (b : Nat) (L : List AskP) (S : Nat → Prop) (w' : World) : Prop := ∃ S', QAt w' b L S' ∧ (∀ k, S' k → S k ∨ w.heap.size ≤ k) ∧ Turn S w w'
def PR (w : World) (b : Nat) (L : List AskP) (S : Nat → Prop) (w' : World) : Prop := ∃ S', RAt w' b L S' ∧ (∀ k, S' k → S k ∨ w.heap.size ≤ k) ∧ Turn S w w'
theorem PQ.turn {w w' : World} {b : Nat} {L : List AskP} {S : Nat → Prop} (h : PQ w b L S w') : Turn S w w' := by obtain ⟨_, _, _, h⟩ := h; exact h
theorem PR.turn {w w' : World} {b : Nat} {L : List AskP} {S : Nat → Prop} (h : PR w b L S w') : Turn S w w' := by obtain ⟨_, _, _, h⟩ := h; exact h
structure Ctx (w0 w : World) (b1 b2 : Nat) (L : List AskP) (S1 S2 : Nat → Prop) : Prop where
  q : QAt w b1 L S1
  r : RAt w b2 L S2
  d : ∀ k, S1 k → ¬ S2 k
  l1 : ∀ k, S1 k → w0.heap.size ≤ k
  l2 : ∀ k, S2 k → w0.heap.size ≤ k
  b : Below w0.heap.size w0 w
theorem Ctx.q2 {w0 w w' : World} {b1 b2 : Nat} {L L2 : List AskP} {S1 S2 : Nat → Prop} (c : Ctx w0 w b1 b2 L S1 S2) (h : PR w b2 L2 S2 w') : QAt w' b1 L S1 := c.q.turn h.turn c.d
theorem Ctx.r2 {w0 w w' : World} {b1 b2 : Nat} {L L2 : List AskP} {S1 S2 : Nat → Prop} (c : Ctx w0 w b1 b2 L S1 S2) (h : PQ w b1 L2 S1 w') : RAt w' b2 L S2 := c.r.turn h.turn (fun k h2 h1 => c.d k h1 h2)
theorem Ctx.more {w0 w w' : World} {b1 b2 : Nat} {L : List AskP} {S1 S2 : Nat → Prop} (c : Ctx w0 w b1 b2 L S1 S2) (hb : Below w.heap.size w w') : Ctx w0 w' b1 b2 L S1 S2 := ⟨c.q.below hb, c.r.below hb, c.d, c.l1, c.l2, c.b.trans (hb.mono c.b.size)⟩
theorem Ctx.qr {w0 w w1 w2 : World} {b1 b2 : Nat} {L L2 : List AskP} {S1 S2 : Nat → Prop} (c : Ctx w0 w b1 b2 L S1 S2) (h : PQ w b1 L2 S1 w1) (k : PR w1 b2 L2 S2 w2) : Bth w0 w2 b1 b2 L2 := by
  obtain ⟨T1, q1, s1, t1⟩ := h
  obtain ⟨T2, r2, s2, t2⟩ := k
  have hz := t1.size
  have dd : ∀ k, T1 k → ¬ S2 k := fun k h1 h2 => by
    rcases s1 k h1 with x | x
    · exact c.d k x h2
    · have := c.r.lt k h2; omega
  refine ⟨T1, T2, q1.turn t2 dd, r2, fun k h1 h2 => ?_, fun k hk => ?_, fun k hk => ?_, ?_⟩
  · rcases s2 k h2 with x | x
    · exact dd k h1 x
    · have := q1.lt k h1; omega
  · rcases s1 k hk with x | x
    · exact c.l1 k x
    · have := c.b.size; omega
  · rcases s2 k hk with x | x
    · exact c.l2 k x
    · have := c.b.size; omega
  · exact c.b.trans ((t1.below c.l1 c.b.size).trans (t2.below c.l2 (Nat.le_trans c.b.size t1.size)))
theorem Ctx.rq {w0 w w1 w2 : World} {b1 b2 : Nat} {L L2 : List AskP} {S1 S2 : Nat → Prop} (c : Ctx w0 w b1 b2 L S1 S2) (h : PR w b2 L2 S2 w1) (k : PQ w1 b1 L2 S1 w2) : Bth w0 w2 b1 b2 L2 := by
  obtain ⟨T2, r1, s1, t1⟩ := h
  obtain ⟨T1, q2, s2, t2⟩ := k
  have hz := t1.size
  have dd : ∀ k, T2 k → ¬ S1 k := fun k h1 h2 => by
    rcases s1 k h1 with x | x
    · exact c.d k h2 x
    · have := c.q.lt k h2; omega
  refine ⟨T1, T2, q2, r1.turn t2 dd, fun k h2 h1 => ?_, fun k hk => ?_, fun k hk => ?_, ?_⟩
  · rcases s2 k h2 with x | x
    · exact dd k h1 x
    · have := r1.lt k h1; omega
  · rcases s2 k hk with x | x
    · exact c.l1 k x
    · have := c.b.size; omega
  · rcases s1 k hk with x | x
    · exact c.l2 k x
    · have := c.b.size; omega
  · exact c.b.trans ((t1.below c.l2 c.b.size).trans (t2.below c.l1 (Nat.le_trans c.b.size t1.size)))
theorem pushq_lit (a : AskP) (z : Bool) (L' : List AskP) (b : Nat) {L : List AskP} {S : Nat → Prop} (w : World) (h : QAt w b L S) (hg : Qu.Good L) (hz : Qu.pushed L a = z) (hL : Qu.push L a = L') :
    Calls Try.prog 11 #[.pointer (some ⟨b, 0, none⟩), .agg #[.int .i64 a.slot, .int .i64 a.query, .int .i64 a.shard, .int .i64 a.seq, .int .i64 a.epoch, .string a.text, .int .i64 a.k, .int .i64 a.batch, .bool a.first, .int .i64 a.ad, .string a.aw]] w fun e w' => e = .returned (.bool z) ∧ PQ w b L' S w' :=
  (qpush_any a b w h hg).mono fun e w' h => by subst hz hL; exact h
theorem pushr_lit (a : AskP) (z : Bool) (L' : List AskP) (b : Nat) {L : List AskP} {S : Nat → Prop} (w : World) (h : RAt w b L S) (hg : Qu.Good L) (hz : Qu.pushed L a = z) (hL : Qu.push L a = L') :
    Calls Try.prog 12 #[.pointer (some ⟨b, 0, none⟩), .agg #[.int .i64 a.slot, .int .i64 a.query, .int .i64 a.shard, .int .i64 a.seq, .int .i64 a.epoch, .string a.text, .int .i64 a.k, .int .i64 a.batch, .bool a.first, .int .i64 a.ad, .string a.aw]] w fun e w' => e = .returned (.bool z) ∧ PR w b L' S w' :=
  (rpush_any a b w h hg).mono fun e w' h => by subst hz hL; exact h
theorem stopq_lit (s q : Int) (r : Int) (L' : List AskP) (b : Nat) {L : List AskP} {S : Nat → Prop} (w : World) (h : QAt w b L S) (hg : Qu.Good L) (hL : Qu.stop L s q = L') (hr : (L.length : Int) - (L'.length : Int) = r) :
    Calls Try.prog 15 #[.pointer (some ⟨b, 0, none⟩), .int .i64 s, .int .i64 q] w fun e w' => e = .returned (.int .i64 r) ∧ PQ w b L' S w' :=
  (qStop_any b s q w h hg).mono fun e w' h => by subst hL hr; exact h
theorem stopr_lit (s q : Int) (r : Int) (L' : List AskP) (b : Nat) {L : List AskP} {S : Nat → Prop} (w : World) (h : RAt w b L S) (hg : Qu.Good L) (hL : Qu.stop L s q = L') (hr : (L.length : Int) - (L'.length : Int) = r) :
    Calls Try.prog 16 #[.pointer (some ⟨b, 0, none⟩), .int .i64 s, .int .i64 q] w fun e w' => e = .returned (.int .i64 r) ∧ PR w b L' S w' :=
  (rStop_any b s q w h hg).mono fun e w' h => by subst hL hr; exact h
theorem cell_turn {S : Nat → Prop} {w w' : World} {p o : Nat} {v : Value} (h : w.cell? ⟨p, o, none⟩ = some v) (t : Turn S w w') (hn : ¬ S p) : w'.cell? ⟨p, o, none⟩ = some v := (t.cell (lt_of_cell h) hn).trans h
def A11 (p : Nat) (a : AskP) (w : World) : Prop := w.cell? ⟨p, 3, none⟩ = some (.int .i64 a.slot) ∧ w.cell? ⟨p, 4, none⟩ = some (.int .i64 a.query) ∧ w.cell? ⟨p, 5, none⟩ = some (.int .i64 a.shard) ∧ w.cell? ⟨p, 6, none⟩ = some (.int .i64 a.seq) ∧ w.cell? ⟨p, 7, none⟩ = some (.int .i64 a.epoch) ∧ w.cell? ⟨p, 8, none⟩ = some (.string a.text) ∧ w.cell? ⟨p, 9, none⟩ = some (.int .i64 a.k) ∧ w.cell? ⟨p, 10, none⟩ = some (.int .i64 a.batch) ∧ w.cell? ⟨p, 11, none⟩ = some (.bool a.first) ∧ w.cell? ⟨p, 12, none⟩ = some (.int .i64 a.ad) ∧ w.cell? ⟨p, 13, none⟩ = some (.string a.aw)
theorem A11.turn {S : Nat → Prop} {w w' : World} {p : Nat} {a : AskP} (h : A11 p a w) (t : Turn S w w') (hn : ¬ S p) : A11 p a w' := by
  obtain ⟨h0, h1, h2, h3, h4, h5, h6, h7, h8, h9, h10⟩ := h
  exact ⟨cell_turn h0 t hn, cell_turn h1 t hn, cell_turn h2 t hn, cell_turn h3 t hn, cell_turn h4 t hn, cell_turn h5 t hn, cell_turn h6 t hn, cell_turn h7 t hn, cell_turn h8 t hn, cell_turn h9 t hn, cell_turn h10 t hn⟩
def A2 (p : Nat) (s q : Int) (w : World) : Prop := w.cell? ⟨p, 1, none⟩ = some (.int .i64 s) ∧ w.cell? ⟨p, 2, none⟩ = some (.int .i64 q)
theorem A2.turn {S : Nat → Prop} {w w' : World} {p : Nat} {s q : Int} (h : A2 p s q w) (t : Turn S w w') (hn : ¬ S p) : A2 p s q w' := ⟨cell_turn h.1 t hn, cell_turn h.2 t hn⟩
theorem PQ.more {w w' w'' : World} {b : Nat} {L : List AskP} {S : Nat → Prop} (h : PQ w b L S w') (hb : Below w'.heap.size w' w'') : PQ w b L S w'' := by
  obtain ⟨T, q, s, t⟩ := h
  exact ⟨T, q.below hb, s, t.trans (Turn.of_below hb)⟩
def PopH (L : List AskP) (y : AskP) (z : Bool) (L' : List AskP) : Prop := (L = [] ∧ y = ask0 ∧ z = false ∧ L' = []) ∨ (L = y :: L' ∧ z = true)
theorem popq_lit (y : AskP) (z : Bool) (L' : List AskP) (b : Nat) {L : List AskP} {S : Nat → Prop} (w : World) (h : QAt w b L S) (hg : Qu.Good L) (hp : PopH L y z L') :
    Calls Try.prog 13 #[.pointer (some ⟨b, 0, none⟩)] w fun e w' => e = .returned (.tuple #[.agg #[.int .i64 y.slot, .int .i64 y.query, .int .i64 y.shard, .int .i64 y.seq, .int .i64 y.epoch, .string y.text, .int .i64 y.k, .int .i64 y.batch, .bool y.first, .int .i64 y.ad, .string y.aw], .bool z]) ∧ PQ w b L' S w' := by
  rcases hp with ⟨rfl, rfl, rfl, rfl⟩ | ⟨rfl, rfl⟩
  · exact (qPop_empty b w h).mono fun e w' ⟨e1, hb⟩ => ⟨e1, S, h.below hb, fun k hk => Or.inl hk, Turn.of_below hb⟩
  · exact (qPop_any b w h hg).mono fun e w' ⟨e1, q, t⟩ => ⟨e1, S, q, fun k hk => Or.inl hk, t⟩
theorem popr_lit (y : AskP) (z : Bool) (L' : List AskP) (b : Nat) {L : List AskP} {S : Nat → Prop} (w : World) (h : RAt w b L S) (hg : Qu.Good L) (hp : PopH L y z L') :
    Calls Try.prog 14 #[.pointer (some ⟨b, 0, none⟩)] w fun e w' => e = .returned (.tuple #[.agg #[.int .i64 y.slot, .int .i64 y.query, .int .i64 y.shard, .int .i64 y.seq, .int .i64 y.epoch, .string y.text, .int .i64 y.k, .int .i64 y.batch, .bool y.first, .int .i64 y.ad, .string y.aw], .bool z]) ∧ PR w b L' S w' := by
  rcases hp with ⟨rfl, rfl, rfl, rfl⟩ | ⟨rfl, rfl⟩
  · exact (rPop_empty b w h).mono fun e w' ⟨e1, hb⟩ => ⟨e1, S, h.below hb, fun k hk => Or.inl hk, Turn.of_below hb⟩
  · exact rPop_any b w h hg
theorem popH_any (L : List AskP) (hg : Qu.Good L) : ∃ y z L', PopH L y z L' ∧ Qu.Good L' := by
  cases L with
  | nil => exact ⟨ask0, false, [], Or.inl ⟨rfl, rfl, rfl, rfl⟩, hg⟩
  | cons y l => exact ⟨y, true, l, Or.inr ⟨rfl, rfl⟩, by have := Qu.tail_good hg; simpa using this⟩
def BC (w : World) (c : Nat) (v : Value) (w' : World) : Prop := Below w.heap.size w w' ∧ w'.cell? ⟨c, 0, none⟩ = some v
theorem bc_start {w : World} {c : Nat} {v : Value} (h : w.cell? ⟨c, 0, none⟩ = some v) : BC w c v w.drew := ⟨(Below.refl _ _).drew, h⟩
theorem bc_carry {w w' w'' : World} {c : Nat} {v : Value} (h : BC w c v w') (hb : Below w'.heap.size w' w'') : BC w c v w'' := ⟨h.1.trans (hb.mono h.1.size), (hb.cell (p := ⟨c, 0, none⟩) (lt_of_cell h.2)).trans h.2⟩
set_option maxHeartbeats 6400000 in
set_option maxRecDepth 100000 in
theorem queueScript_any (a : Option Addr) (n cap : Nat) (xs : Nat → QAct) (w : World) (h : HoldsQA w a n xs) (hn : n ≤ 9223372036854775807) (hok : ∀ i, i < n → QActOk (xs i)) :
    Calls Try.prog 3 #[.slice a n cap] w fun e w' => e = .returned (.bool true) ∧ Below w.heap.size w w' := by
  have H := Lib.hid h
  have CG := Lib.hid (great_any a n cap xs w h hn hok)
  clear h hok
  go_enter Try.func3, Try.ntmps3
  go_wp2_with fail
  refine CG.out.mono ?_
  rintro e w' ⟨z, rfl, rfl, hz⟩
  clear CG
  cases z
  · have hn100 := hz rfl
    clear hz
    go_wp2_with fail
    refine (qNew_any _).mono ?_
    rintro e w1 ⟨b, S, rfl, hq, hS, hb⟩
    have Q1 := Lib.hid hq; have SL := Lib.hid hS; have B1 := Lib.hid hb
    clear hq hS hb
    have hr0 : RAt (w1.alloc (.cells #[.slice none 0 0] 30)) w1.heap.size [] (fun k => k = w1.heap.size) := ⟨none, 0, by rw [cell_alloc rfl]; rfl, fun i => frozen_alloc rfl, World.ownsRow_nil _ _ _ _, rfl, fun g hg => (by cases hg), fun k hk => by simp; omega⟩
    have V1 := Lib.hid (show Bth w (w1.alloc (.cells #[.slice none 0 0] 30)) b w1.heap.size [] from ⟨S, _, Q1.out.below (below_one _ _), hr0, fun k h1 h2 => by have := Q1.out.lt k h1; omega, SL.out, fun k hk => by rw [hk]; exact B1.out.size, B1.out.trans ((below_one _ _).mono B1.out.size)⟩)
    clear hr0 Q1 SL B1
    go_upto_region 6 with fail
    generalize w1.alloc (.cells #[.slice none 0 0] 30) = w2 at *
    generalize w1.heap.size = c at *
    go_wp2_with fail
    go_loopw [5] (fun iv wr => ∃ j : Nat, j ≤ n ∧ iv = .int .i64 j ∧ Hid (∃ L, Bth w wr b c L ∧ Qu.Good L)) (fun iv _ => n - (intOf iv).toNat)
    case atStart => exact ⟨0, by omega, rfl, Lib.hid ⟨[], V1.out, Qu.good_nil⟩⟩
    case round =>
      obtain ⟨j, hj, rfl, hF⟩ := hrel
      obtain ⟨L, hFL, hG⟩ := hF.out
      have FL := Lib.hid hFL; have GL := Lib.hid hG
      have hl24 := Qu.good_len hG
      clear hF hFL hG V1
      by_cases hlt : j < n
      · rename World => wr
        obtain ⟨ab, ao, rfl, hc⟩ := (H.out.below FL.out.bel) (by omega)
        have hX := hc j hlt
        obtain ⟨x, hxx⟩ : ∃ x, xs j = x := ⟨_, rfl⟩
        rw [hxx] at hX
        have A3 := Lib.hid (actIn_new wr x 36 (0, 0))
        have F3 := Lib.hid (FL.out.more (below_one wr (.cells #[.int .i64 x.do_, .int .i64 x.slot, .int .i64 x.query, .int .i64 x.a.slot, .int .i64 x.a.query, .int .i64 x.a.shard, .int .i64 x.a.seq, .int .i64 x.a.epoch, .string x.a.text, .int .i64 x.a.k, .int .i64 x.a.batch, .bool x.a.first, .int .i64 x.a.ad, .string x.a.aw] 36)))
        have PLT := Lib.hid (show ∀ k, k < wr.heap.size → k ≠ wr.heap.size from fun k h => by omega)
        unfold ActIn at hX
        obtain ⟨x0, x1, x2, x3, x4, x5, x6, x7, x8, x9, x10, x11, x12, x13⟩ := hX
        obtain ⟨S1, S2, q3, r3, d3, l13, l23, b3⟩ := FL.out
        have NP1 := Lib.hid (show ¬ S1 wr.heap.size from fun hk => by have := q3.lt _ hk; omega)
        have NP2 := Lib.hid (show ¬ S2 wr.heap.size from fun hk => by have := r3.lt _ hk; omega)
        have C3 := Lib.hid ((show Ctx w wr b c L S1 S2 from ⟨q3, r3, d3, l13, l23, b3⟩).more (below_one wr (.cells #[.int .i64 x.do_, .int .i64 x.slot, .int .i64 x.query, .int .i64 x.a.slot, .int .i64 x.a.query, .int .i64 x.a.shard, .int .i64 x.a.seq, .int .i64 x.a.epoch, .string x.a.text, .int .i64 x.a.k, .int .i64 x.a.batch, .bool x.a.first, .int .i64 x.a.ad, .string x.a.aw] 36)))
        clear hc hxx q3 r3 d3 l13 l23 b3 FL F3 PLT
        go_upto_region 11 with fail
        clear x0 x1 x2 x3 x4 x5 x6 x7 x8 x9 x10 x11 x12 x13
        generalize wr.alloc (.cells #[.int .i64 x.do_, .int .i64 x.slot, .int .i64 x.query, .int .i64 x.a.slot, .int .i64 x.a.query, .int .i64 x.a.shard, .int .i64 x.a.seq, .int .i64 x.a.epoch, .string x.a.text, .int .i64 x.a.k, .int .i64 x.a.batch, .bool x.a.first, .int .i64 x.a.ad, .string x.a.aw] 36) = w3 at *
        generalize wr.heap.size = p at *
        have hA := A3.out
        unfold ActIn at hA
        simp only [Nat.zero_add] at hA
        obtain ⟨x0, -⟩ := hA
        go_upto_block 2 with fail
        clear x0
        go_cut [7] from 33 to 79 (fun v wc => v = .bool true ∧ Hid (∃ L2, Bth w wc b c L2 ∧ Qu.Good L2))
        case first =>
          have hA := A3.out
          unfold ActIn at hA
          simp only [Nat.zero_add] at hA
          obtain ⟨-, x1, x2, x3, x4, x5, x6, x7, x8, x9, x10, x11, x12, x13⟩ := hA
          have X11 := Lib.hid (show A11 p x.a w3 from ⟨x3, x4, x5, x6, x7, x8, x9, x10, x11, x12, x13⟩)
          have X2 := Lib.hid (show A2 p x.slot x.query w3 from ⟨x1, x2⟩)
          by_cases hd0 : x.do_ = 0
          · have d0 : (x.do_ == 0) = true := by simpa using hd0
            obtain ⟨z, hz⟩ : ∃ z, Qu.pushed L x.a = z := ⟨_, rfl⟩
            obtain ⟨L2, hL2⟩ : ∃ L2, Qu.push L x.a = L2 := ⟨_, rfl⟩
            have CQ := Lib.hid (fun w' (h' : QAt w' b L S1) => pushq_lit x.a z L2 b w' h' GL.out hz hL2)
            have CR := Lib.hid (fun w' (h' : RAt w' c L S2) => pushr_lit x.a z L2 c w' h' GL.out hz hL2)
            have G2 := Lib.hid (show Qu.Good L2 from hL2 ▸ Qu.push_good GL.out x.a)
            have CD := Lib.hid (C3.out.more (Below.refl _ _).drew)
            have e1 : (z == z) = true := by simp
            clear hd0 hz hL2 x1 x2 x3 x4 x5 x6 x7 x8 x9 x10 x11 x12 x13
            go_upto_region 13 with fail
            go_region_held3 (fun w' => w'.cell? ⟨p, 3, none⟩ = some (.int .i64 x.a.slot) ∧ w'.cell? ⟨p, 4, none⟩ = some (.int .i64 x.a.query) ∧ w'.cell? ⟨p, 5, none⟩ = some (.int .i64 x.a.shard) ∧ w'.cell? ⟨p, 6, none⟩ = some (.int .i64 x.a.seq) ∧ w'.cell? ⟨p, 7, none⟩ = some (.int .i64 x.a.epoch) ∧ w'.cell? ⟨p, 8, none⟩ = some (.string x.a.text) ∧ w'.cell? ⟨p, 9, none⟩ = some (.int .i64 x.a.k) ∧ w'.cell? ⟨p, 10, none⟩ = some (.int .i64 x.a.batch) ∧ w'.cell? ⟨p, 11, none⟩ = some (.bool x.a.first) ∧ w'.cell? ⟨p, 12, none⟩ = some (.int .i64 x.a.ad) ∧ w'.cell? ⟨p, 13, none⟩ = some (.string x.a.aw))
              (first | assumption | exact X11.out | exact A11.turn (by assumption) (PQ.turn (by assumption)) NP1.out | exact A11.turn (by assumption) (PR.turn (by assumption)) NP2.out)
              (first
                | (go_at_call 11; (with_reducible refine (CQ.out _ CD.out.q).mono ?_); rintro e w' ⟨rfl, hPQ⟩)
                | (go_at_call 11; (with_reducible refine (CQ.out _ (CD.out.q2 (by assumption))).mono ?_); rintro e w' ⟨rfl, hPQ⟩)
                | (go_at_call 12; (with_reducible refine (CR.out _ CD.out.r).mono ?_); rintro e w' ⟨rfl, hPR⟩)
                | (go_at_call 12; (with_reducible refine (CR.out _ (CD.out.r2 (by assumption))).mono ?_); rintro e w' ⟨rfl, hPR⟩))
            all_goals (go_wp2_with fail; go_meet)
            all_goals exact ⟨rfl, (by first | exact Lib.hid ⟨L2, CD.out.qr (by assumption) (by assumption), G2.out⟩ | exact Lib.hid ⟨L2, CD.out.rq (by assumption) (by assumption), G2.out⟩)⟩
          · have d0 : (x.do_ == 0) = false := by simpa using hd0
            by_cases hd1 : x.do_ = 1
            · have d1 : (x.do_ == 1) = true := by simpa using hd1
              obtain ⟨y, z, L2, hp, hg2⟩ := popH_any L GL.out
              have HP := Lib.hid hp; have G2 := Lib.hid hg2
              have e1 : (z == z) = true := by simp
              clear hd0 hd1 hp hg2 x1 x2 x3 x4 x5 x6 x7 x8 x9 x10 x11 x12 x13
              go_wp2_with fail
              refine (popq_lit y z L2 b _ C3.out.q GL.out HP.out).mono ?_
              rintro e w5 ⟨rfl, hPQ⟩
              have PQ6 := Lib.hid (hPQ.more (below_one w5 (.cells #[.int .i64 y.slot, .int .i64 y.query, .int .i64 y.shard, .int .i64 y.seq, .int .i64 y.epoch, .string y.text, .int .i64 y.k, .int .i64 y.batch, .bool y.first, .int .i64 y.ad, .string y.aw] 34)))
              have A6 := Lib.hid (askIn_new w5 y w5.heap.size 34 (0, 0) rfl)
              have R6 := Lib.hid ((C3.out.r2 hPQ).below (below_one w5 (.cells #[.int .i64 y.slot, .int .i64 y.query, .int .i64 y.shard, .int .i64 y.seq, .int .i64 y.epoch, .string y.text, .int .i64 y.k, .int .i64 y.batch, .bool y.first, .int .i64 y.ad, .string y.aw] 34)))
              have NS6 := Lib.hid (show ¬ S2 w5.heap.size from fun hk => by have := C3.out.r.lt _ hk; have := hPQ.turn.size; omega)
              clear hPQ
              go_upto_region 16 with fail
              generalize w5.alloc (.cells #[.int .i64 y.slot, .int .i64 y.query, .int .i64 y.shard, .int .i64 y.seq, .int .i64 y.epoch, .string y.text, .int .i64 y.k, .int .i64 y.batch, .bool y.first, .int .i64 y.ad, .string y.aw] 34) = w6 at *
              generalize w5.heap.size = p6 at *
              go_wp2_with fail
              refine (popr_lit y z L2 c _ R6.out GL.out HP.out).mono ?_
              rintro e w7 ⟨rfl, hPR⟩
              have A8 := Lib.hid ((A6.out.of (w' := w7) fun i => hPR.turn.cell (lt_of_cell A6.out.1) NS6.out).below (below_one w7 (.cells #[.int .i64 y.slot, .int .i64 y.query, .int .i64 y.shard, .int .i64 y.seq, .int .i64 y.epoch, .string y.text, .int .i64 y.k, .int .i64 y.batch, .bool y.first, .int .i64 y.ad, .string y.aw] 34)))
              have B8 := Lib.hid (askIn_new w7 y w7.heap.size 34 (0, 0) rfl)
              have V8 := Lib.hid ((C3.out.qr PQ6.out hPR).more (below_one w7 (.cells #[.int .i64 y.slot, .int .i64 y.query, .int .i64 y.shard, .int .i64 y.seq, .int .i64 y.epoch, .string y.text, .int .i64 y.k, .int .i64 y.batch, .bool y.first, .int .i64 y.ad, .string y.aw] 34)))
              clear hPR
              go_upto_region 17 with fail
              generalize w7.alloc (.cells #[.int .i64 y.slot, .int .i64 y.query, .int .i64 y.shard, .int .i64 y.seq, .int .i64 y.epoch, .string y.text, .int .i64 y.k, .int .i64 y.batch, .bool y.first, .int .i64 y.ad, .string y.aw] 34) = w8 at *
              generalize w7.heap.size = p8 at *
              have hA := A8.out
              have hB := B8.out
              unfold AskIn at hA hB
              obtain ⟨y0, y1, y2, y3, y4, y5, y6, y7, y8, y9, y10⟩ := hA
              obtain ⟨u0, u1, u2, u3, u4, u5, u6, u7, u8, u9, u10⟩ := hB
              have heq := fun w => ask_alike y w
              go_wp2_with fail
              go_meet
              exact ⟨rfl, Lib.hid ⟨L2, V8.out, G2.out⟩⟩
            · have d1 : (x.do_ == 1) = false := by simpa using hd1
              by_cases hd2 : x.do_ = 2
              · have d2 : (x.do_ == 2) = true := by simpa using hd2
                obtain ⟨L2, hL2⟩ : ∃ L2, Qu.stop L x.slot x.query = L2 := ⟨_, rfl⟩
                obtain ⟨r, hr⟩ : ∃ r : Int, (L.length : Int) - (L2.length : Int) = r := ⟨_, rfl⟩
                have CQ := Lib.hid (fun w' (h' : QAt w' b L S1) => stopq_lit x.slot x.query r L2 b w' h' GL.out hL2 hr)
                have CR := Lib.hid (fun w' (h' : RAt w' c L S2) => stopr_lit x.slot x.query r L2 c w' h' GL.out hL2 hr)
                have G2 := Lib.hid (show Qu.Good L2 from hL2 ▸ Qu.filter_good GL.out _)
                have CD := Lib.hid (C3.out.more (Below.refl _ _).drew)
                have e1 : (r == r) = true := by simp
                clear hd0 hd1 hd2 hL2 hr x1 x2 x3 x4 x5 x6 x7 x8 x9 x10 x11 x12 x13
                go_upto_region 19 with fail
                go_region_held3 (fun w' => w'.cell? ⟨p, 1, none⟩ = some (.int .i64 x.slot) ∧ w'.cell? ⟨p, 2, none⟩ = some (.int .i64 x.query))
                  (first | assumption | exact X2.out | exact A2.turn (by assumption) (PQ.turn (by assumption)) NP1.out | exact A2.turn (by assumption) (PR.turn (by assumption)) NP2.out)
                  (first
                    | (go_at_call 15; (with_reducible refine (CQ.out _ CD.out.q).mono ?_); rintro e w' ⟨rfl, hPQ⟩)
                    | (go_at_call 15; (with_reducible refine (CQ.out _ (CD.out.q2 (by assumption))).mono ?_); rintro e w' ⟨rfl, hPQ⟩)
                    | (go_at_call 16; (with_reducible refine (CR.out _ CD.out.r).mono ?_); rintro e w' ⟨rfl, hPR⟩)
                    | (go_at_call 16; (with_reducible refine (CR.out _ (CD.out.r2 (by assumption))).mono ?_); rintro e w' ⟨rfl, hPR⟩))
                all_goals (go_wp2_with fail; go_meet)
                all_goals exact ⟨rfl, (by first | exact Lib.hid ⟨L2, CD.out.qr (by assumption) (by assumption), G2.out⟩ | exact Lib.hid ⟨L2, CD.out.rq (by assumption) (by assumption), G2.out⟩)⟩
              · have d2 : (x.do_ == 2) = false := by simpa using hd2
                clear hd0 hd1 hd2 x1 x2 x3 x4 x5 x6 x7 x8 x9 x10 x11 x12 x13
                go_wp2_with fail
                go_meet
                exact ⟨rfl, Lib.hid ⟨L, ⟨S1, S2, C3.out.q, C3.out.r, C3.out.d, C3.out.l1, C3.out.l2, C3.out.b⟩, GL.out⟩⟩
        case rest =>
          obtain ⟨rfl, hV⟩ := hcut
          obtain ⟨L2, hV2, hG2⟩ := hV.out
          have V4 := Lib.hid hV2; have G4 := Lib.hid hG2
          have hl2 := Qu.good_len hG2
          obtain ⟨r, hr⟩ : ∃ r, L2.length = r := ⟨_, rfl⟩
          rw [hr] at hl2
          have R2 := Lib.hid hr
          obtain ⟨T1, T2, q4, r4, -⟩ := hV2
          have Q4 := Lib.hid q4; have R4 := Lib.hid r4
          clear hV hG2 hr q4 r4
          rename World => w4
          go_wp2_with fail
          refine (qAll_any b _ Q4.out G4.out).mono ?_
          rintro e w5 ⟨na, nc, rfl, ho, hb⟩
          have hr5 := R4.out.below hb
          obtain ⟨ra, rc, k5, -, ow5, -⟩ := hr5
          rw [R2.out] at ho k5 ow5
          rw [R2.out]
          have O5 := Lib.hid ho; have K5 := Lib.hid k5; have B5 := Lib.hid hb
          have CL := Lib.hid (fun w' (h' : Below w5.heap.size w5 w') => (show Calls Try.prog 18 #[.pointer (some ⟨b, 0, none⟩)] w' fun e w'' => e = .returned (.int .i64 r) ∧ w' = w'' from R2.out ▸ qLen_any b w' ((Q4.out.below hb).below h')))
          have CS := Lib.hid (fun w' (h' : Below w5.heap.size w5 w') => sameAsks_yes na ra r nc rc L2 w' ((HoldsAsk.own ho).below h') ((HoldsAsk.own ow5).below h') (by omega))
          have e1 : ((r : Int) != (r : Int)) = false := by simp
          clear ho hb k5 ow5
          go_upto_region 21 with fail
          go_region_held3 (fun w' => Below w5.heap.size w5 w' ∧ w'.cell? ⟨c, 0, none⟩ = some (.slice ra r rc))
            (first | assumption | exact bc_start K5.out | exact bc_carry (by assumption) (by assumption))
            (first
              | (go_at_call 18; (with_reducible refine (CL.out _ (And.left (by assumption))).mono ?_); rintro e w' ⟨rfl, rfl⟩)
              | (go_at_call 19; (with_reducible refine (CS.out _ (And.left (by assumption))).mono ?_); rintro e w' ⟨rfl, hb9⟩))
          all_goals
            rename_i S5
            have B6 := Lib.hid S5.1
            have O6 := Lib.hid (owns_below O5.out S5.1)
            have hz6 := B5.out.size
            have hz7 := S5.1.size
            clear S5
            go_wp2_with fail
            refine (overAsks_any w4.heap.size na r nc (asksV L2) _ O6.out (by omega) (by omega)).mono ?_
            rintro e w7 ⟨rfl, hb7, -⟩
            have V7 := Lib.hid (V4.out.more (B5.out.trans ((B6.out.mono B5.out.size).trans hb7)))
            clear hb7
            go_wp2_with fail
            go_roundw
            case rel => exact ⟨j + 1, by omega, by go_num, Lib.hid ⟨L2, V7.out, G4.out⟩⟩
            case measure => simp [intOf] <;> omega
      · obtain rfl : j = n := by omega
        rename World => wr
        obtain ⟨r, hr⟩ : ∃ r, L.length = r := ⟨_, rfl⟩
        rw [hr] at hl24
        have R2 := Lib.hid hr
        obtain ⟨T1, T2, q4, r4, -⟩ := FL.out
        have Q4 := Lib.hid q4
        obtain ⟨ra, rc, k5, -, ow5, -⟩ := r4
        rw [R2.out] at k5 ow5
        have K5 := Lib.hid k5
        have HR := Lib.hid (fun w' (h' : Below wr.heap.size wr w') => (HoldsAsk.own ow5).below h')
        have CA := Lib.hid (fun w' (h' : Below wr.heap.size wr w') => (show Calls Try.prog 17 #[.pointer (some ⟨b, 0, none⟩)] w' fun e w'' => ∃ a c, e = .returned (.slice a r c) ∧ HoldsAsk w'' a r L ∧ Below w'.heap.size w' w'' from (qAll_any b w' (Q4.out.below h') GL.out).mono fun e w'' ⟨a, c, e1, ho, hb⟩ => ⟨a, c, by rw [← R2.out]; exact e1, by rw [R2.out] at ho; exact HoldsAsk.own ho, hb⟩))
        have HL := Lib.hid (show r ≤ 4611686018427387904 from by omega)
        clear hr q4 k5 ow5
        go_upto_region 24 with fail
        go_region_held3 (fun w' => Below wr.heap.size wr w' ∧ w'.cell? ⟨c, 0, none⟩ = some (.slice ra r rc))
          (first | assumption | exact bc_start K5.out | exact bc_carry (by assumption) (by assumption))
          (first
            | (go_at_call 17; (with_reducible refine (CA.out _ (And.left (by assumption))).mono ?_); rintro e w' ⟨na, nc, rfl, hN, hb9⟩)
            | (go_at_call 19; (with_reducible refine (sameAsks_yes _ _ _ _ _ L _ (by assumption) (HR.out _ (And.left (by assumption))) HL.out).mono ?_); rintro e w' ⟨rfl, hb9⟩)
            | (go_at_call 9; (with_reducible refine (awake_any _).mono ?_); rintro e w' ⟨rfl, hb9⟩))
        all_goals
          rename_i S5
          have BE := Lib.hid (FL.out.bel.trans (S5.1.mono FL.out.bel.size))
          clear S5
          go_wp2_with fail
          go_ret
          exact ⟨rfl, BE.out⟩
  · go_wp2_with fail
    refine (awake_any _).mono ?_
    rintro e w' ⟨rfl, hb3⟩
    go_wp2_with fail
    go_ret
    exact ⟨rfl, hb3⟩
open Go.ChangeShapes Go.WideShapes Go.ChangeAt in
theorem queueScript_walk {H : Type} {enc : TypeId × Value → H} (W : World) (base : Nat) (v0 : Value) (d0 : DataW H) (p0 : List MemPlace)
    (h0 : DataW.Trod enc Try.prog W 0 (fun _ => true) true 22 v0 d0 p0) (o0 : Value.okWide Try.prog W .any base 22 v0) :
    Calls Try.prog 3 #[v0] W fun e w' => e = .returned (.bool true) ∧ RowKit.Below W.heap.size W w' := by
  obtain ⟨a, n, cap, xs, rfl, hh, hn, hok⟩ := open_qacts_arg o0 h0
  exact queueScript_any a n cap xs W hh (by unfold maxLen at hn; exact hn) hok
end Go.Proofs.Ythcfpohgjgbhpaa
