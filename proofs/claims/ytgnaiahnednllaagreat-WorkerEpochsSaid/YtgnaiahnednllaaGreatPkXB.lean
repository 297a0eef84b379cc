/- texts joined -/
import Derived.WalkKit
import Derived.ProofKit
import Derived.OpenShut
import Derived.Lib.SmallJoins
import Derived.Lib.Hide
import Derived.Test.YtgnaiahnednllaaGreatChecked
import Derived.Maps.OwnSet
import Derived.WalkArith
import Derived.Carry
import Derived.OwnWalk
import Derived.Laws.AppendOwnNone
import Derived.Lib.SliceRun
import Derived.Deep.RegionLaw
import Derived.Outline
import Derived.WalkLawsBesides
import Derived.WalkSpells
import Derived.Deep.QuietTactic
import Derived.BigQuiet
import Derived.Deep.DeepCutAuto
import Derived.Deep.RegionHeld3
import Derived.Deep.AppendLies
import Derived.Laws.ResultCell
import Derived.Laws.BitsAllLaws
import Derived.Laws.DeepBits32
import Derived.Sort.Walk0
import Derived.Laws.RangeAny
import Derived.Lib.DecodeN
import Derived.Lib.OthersKept
import Derived.Deep.Slices
import Derived.SliceStrings
import Derived.Deep.RegionWith
import Derived.Laws.AppendOwn
import Derived.StringKeys
import Derived.Laws.OwnMore
import Derived.DeepKeys4
import Derived.Test.YtgnaiahnednllaaGreatPkXA
namespace Go.Proofs.YtgnaiahnednllaaGreat
open Go.RowKit
set_option linter.unusedVariables false
set_option maxRecDepth 20000
theorem own_blockG {w : World} {base fb fo : Nat} {e : TypeId} {size : Nat} {a : Option Addr} {n c : Nat} {xs : List Value} (h : w.ownsRow base e size (.slice a n c) n xs) (ha : a = some ⟨fb, fo, none⟩) : base ≤ fb ∧ fb < w.heap.size := by
  rcases Joins.ownsRow_forms h with ⟨e1, _⟩ | ⟨g, cap, e1⟩
  · injection e1 with e2; rw [ha] at e2; cases e2
  · injection e1 with e2; rw [ha] at e2; injection e2 with e2; injection e2 with e2 e3; subst e2; subst e3; rw [ha] at h; exact h.lt _ rfl
/-- what the loop goes by -/
structure RL (bb g m : Nat) (W : World) (S : Nat → Prop) (p : Nat) (fin : Bool) (st1 : List GN) (ea : Option Addr) (ec : Nat) (es : List EdP) (sa : Option Addr) (l : List Tx) (S1 : Nat → Prop) (w : World) : Prop where
  q : QB bb g m st1 w S1
  sub : ∀ k, S1 k → S k ∨ W.heap.size ≤ k
  t : Turn S W w
  np : ¬ S1 p
  pw : W.heap.size ≤ p
  c0 : w.cell? ⟨p, 0, none⟩ = some (.bool fin)
  c1 : w.cell? ⟨p, 1, none⟩ = some (.slice ea es.length ec)
  fr : ∀ i, w.frozen? ⟨p, i, none⟩ = false
  o : w.ownsRow W.heap.size 281 2 (.slice ea es.length ec) es.length (edsV es)
  ne : ∀ k, ea = some ⟨k, 0, none⟩ → ¬ S1 k ∧ k ≠ p
  hl : HoldsT w sa l.length l
  la : 0 < l.length → ∀ fb fo, sa = some ⟨fb, fo, none⟩ → ¬ S fb ∧ fb < W.heap.size
theorem RL.qlt {bb g m : Nat} {W : World} {S : Nat → Prop} {p : Nat} {fin : Bool} {st1 : List GN} {ea : Option Addr} {ec : Nat} {es : List EdP} {sa : Option Addr} {l : List Tx} {S1 : Nat → Prop} {w : World} (h : RL bb g m W S p fin st1 ea ec es sa l S1 w) : ∀ k, S1 k → k < w.heap.size := (qb_ok bb g m st1).lt h.q
theorem RL.la1 {bb g m : Nat} {W : World} {S : Nat → Prop} {p : Nat} {fin : Bool} {st1 : List GN} {ea : Option Addr} {ec : Nat} {es : List EdP} {sa : Option Addr} {l : List Tx} {S1 : Nat → Prop} {w : World} (h : RL bb g m W S p fin st1 ea ec es sa l S1 w) : 0 < l.length → ∀ fb fo, sa = some ⟨fb, fo, none⟩ → ¬ S1 fb := fun h0 fb fo e hk => by
  have h1 := h.la h0 fb fo e
  rcases h.sub fb hk with x | x
  · exact h1.1 x
  · omega
theorem holdsT_turn {w w' : World} {a : Option Addr} {n : Nat} {ts : List Tx} {F : Nat → Prop} (h : HoldsT w a n ts) (t : Turn F w w') (hF : 0 < n → ∀ fb fo, a = some ⟨fb, fo, none⟩ → ¬ F fb) : HoldsT w' a n ts := by
  rcases Nat.eq_zero_or_pos n with h0 | h0
  · subst h0
    have hl := h.len
    have : ts = [] := List.eq_nil_of_length_eq_zero hl
    subst this
    exact HoldsT.nil _ _
  · obtain ⟨b, o, rfl, hc⟩ := h.at h0
    exact HoldsT.of h.len (fun i hi => (t.cell (lt_of_cell (hc i hi)) (hF h0 b o rfl)).trans (hc i hi))
theorem RL.more {bb g m : Nat} {W : World} {S : Nat → Prop} {p : Nat} {fin : Bool} {st1 : List GN} {ea : Option Addr} {ec : Nat} {es : List EdP} {sa : Option Addr} {l : List Tx} {S1 : Nat → Prop} {w w' : World} (h : RL bb g m W S p fin st1 ea ec es sa l S1 w) (hb : Below w.heap.size w w') : RL bb g m W S p fin st1 ea ec es sa l S1 w' := by
  have hp := lt_of_cell h.c0
  exact ⟨(qb_ok bb g m st1).below h.q hb, h.sub, h.t.trans (Turn.of_below hb), h.np, h.pw, (hb.cell (p := ⟨p, 0, none⟩) hp).trans h.c0, (hb.cell (p := ⟨p, 1, none⟩) hp).trans h.c1, fun i => (hb.frozen (p := ⟨p, i, none⟩) hp).trans (h.fr i), owns_below h.o hb, h.ne, h.hl.below hb, h.la⟩
/-- behind a call that turns the builder's blocks alone -/
theorem RL.step {bb g m : Nat} {W : World} {S : Nat → Prop} {p : Nat} {fin : Bool} {st1 st2 : List GN} {ea : Option Addr} {ec : Nat} {es : List EdP} {sa : Option Addr} {l : List Tx} {S1 : Nat → Prop} {w w' : World} (h : RL bb g m W S p fin st1 ea ec es sa l S1 w) (k : PO (QB bb g m st2) w S1 w') : ∃ S2, RL bb g m W S p fin st2 ea ec es sa l S2 w' := by
  obtain ⟨S2, q2, s2, t2⟩ := k
  have hp := lt_of_cell h.c0
  have hz := h.t.size
  refine ⟨S2, q2, fun k hk => ?_, h.t.trans' t2 (fun i hi => h.sub i hi), fun hk => ?_, h.pw, (t2.cell hp h.np).trans h.c0, (t2.cell hp h.np).trans h.c1, fun i => (t2.frozen hp h.np).trans (h.fr i), gowns_block h.o (fun r hr => t2.block r (h.o.lt r (by rw [hr]; rfl)).2 (h.ne r hr).1), fun k hk => ⟨fun hk2 => ?_, (h.ne k hk).2⟩, holdsT_turn h.hl t2 h.la1, h.la⟩
  · rcases s2 k hk with x | x
    · exact h.sub k x
    · exact Or.inr (by omega)
  · rcases s2 p hk with x | x
    · exact h.np x
    · omega
  · rcases s2 k hk2 with x | x
    · exact (h.ne k hk).1 x
    · have := (h.o.lt k (by rw [hk]; rfl)).2; omega
/-- behind an edge more -/
theorem RL.edge {bb g m : Nat} {W : World} {S : Nat → Prop} {p q cap : Nat} {fin : Bool} {st1 : List GN} {ea : Option Addr} {ec : Nat} {es : List EdP} {sa : Option Addr} {l : List Tx} {S1 : Nat → Prop} {w w6 : World} {o : Obj} {x : EdP} (h : RL bb g m W S p fin st1 ea ec es sa l S1 w)
    (own : w6.ownsRow W.heap.size 281 2 (.slice (some ⟨q, 0, none⟩) (es.length + 1) cap) (es.length + 1) (edsV es ++ cellsEd x))
    (hg : (w.alloc o).grownBy w6 (Value.slice ea es.length ec).ownBlock) (hat : (Value.slice ea es.length ec).ownBlock = some q ∨ q = (w.alloc o).heap.size) :
    RL bb g m W S p fin st1 (some ⟨q, 0, none⟩) cap (es ++ [x]) sa l S1 (w6.setCell ⟨p, 1, none⟩ (.slice (some ⟨q, 0, none⟩) (es.length + 1) cap)) := by
  have hza : (w.alloc o).heap.size = w.heap.size + 1 := by simp
  have hz6 := hg.size
  have hp := lt_of_cell h.c0
  have hz := h.t.size
  have old : ∀ k, k < w.heap.size → (∀ r, ea = some ⟨r, 0, none⟩ → k ≠ r) → w6.heap[k]? = w.heap[k]? := fun k hk hn =>
    (hg.block k (by omega) (fun e => hn k (gown_at h.o e) rfl)).trans (Below.heap_alloc _ _ _ (by omega))
  have op := old p hp (fun r e hq => (h.ne r e).2 hq.symm)
  have qw : W.heap.size ≤ q := (own.lt q rfl).1
  have qp : q ≠ p := by
    rcases hat with e | e
    · exact (h.ne q (gown_at h.o e.symm)).2
    · omega
  have qS : ¬ S1 q := by
    rcases hat with e | e
    · exact (h.ne q (gown_at h.o e.symm)).1
    · intro hk; have := h.qlt q hk; omega
  have t1 : Turn (fun k => ea = some ⟨k, 0, none⟩) w w6 := ⟨hg.os, hg.tape, hg.output, by omega, fun k hk hn => old k hk (fun r e e2 => hn (by rw [e2]; exact e))⟩
  have t2 : Turn (fun k => ea = some ⟨k, 0, none⟩ ∨ k = p) w (w6.setCell ⟨p, 1, none⟩ (.slice (some ⟨q, 0, none⟩) (es.length + 1) cap)) := (t1.mono fun k hk => Or.inl hk).trans (Turn.setCell (Or.inr rfl))
  have hS : ∀ k, S1 k → ¬ (ea = some ⟨k, 0, none⟩ ∨ k = p) := fun k hk e => by
    rcases e with e | e
    · exact (h.ne k e).1 hk
    · exact h.np (by rw [← e]; exact hk)
  refine ⟨(qb_ok bb g m st1).turn h.q t2 hS, h.sub, h.t.trans' t2 (fun k hk => Or.inr ?_), h.np, h.pw, ?_, ?_, fun i => ?_, ?_, fun k hk => ?_, holdsT_turn h.hl t2 (fun h0 fb fo e e2 => ?_), h.la⟩
  · rcases hk with e | e
    · exact (h.o.lt k (by rw [e]; rfl)).1
    · rw [e]; exact h.pw
  · rw [cset_ne (by omega)]; exact (World.cell?_of_block (w := w) op).trans h.c0
  · rw [List.length_append, List.length_singleton]; exact cset_at ((World.cell?_of_block (w := w) op).trans h.c1)
  · rw [fset_any]; exact (World.frozen?_of_block (w := w) op).trans (h.fr i)
  · rw [List.length_append, List.length_singleton, edsV_snoc]
    exact gowns_block own (fun r hr => by injection hr with hr; injection hr with hr; subst hr; exact gheap_far qp)
  · injection hk with hk; injection hk with hk; subst hk
    exact ⟨qS, qp⟩
  · have h1 := h.la h0 fb fo e
    rcases e2 with e2 | e2
    · have := (h.o.lt fb (by rw [e2]; rfl)).1; omega
    · have := h.pw; omega
/-- behind the flag, and another list -/
theorem RL.flag {bb g m : Nat} {W : World} {S : Nat → Prop} {p : Nat} {fin b : Bool} {st1 : List GN} {ea : Option Addr} {ec : Nat} {es : List EdP} {sa sa' : Option Addr} {l l' : List Tx} {S1 : Nat → Prop} {w : World} (h : RL bb g m W S p fin st1 ea ec es sa l S1 w) (hl : HoldsT w sa' l'.length l') (hla : 0 < l'.length → ∀ fb fo, sa' = some ⟨fb, fo, none⟩ → ¬ S fb ∧ fb < W.heap.size) :
    RL bb g m W S p b st1 ea ec es sa' l' S1 (w.setCell ⟨p, 0, none⟩ (.bool b)) := by
  have t2 : Turn (fun k => k = p) w (w.setCell ⟨p, 0, none⟩ (.bool b)) := Turn.setCell rfl
  have hpw := h.pw
  exact ⟨(qb_ok bb g m st1).turn h.q t2 (fun k hk e => h.np (by rw [← e]; exact hk)), h.sub, h.t.trans' t2 (fun k hk => Or.inr (by rw [hk]; exact h.pw)), h.np, h.pw, cset_at h.c0, (cset_ne (by omega)).trans h.c1, fun i => fset_any.trans (h.fr i), gowns_block h.o (fun r hr => gheap_far (h.ne r hr).2), h.ne, holdsT_turn hl t2 (fun h0 fb fo e e2 => by have := (hla h0 fb fo e).2; omega), hla⟩
theorem RL.other {bb g m : Nat} {W : World} {S : Nat → Prop} {p : Nat} {fin : Bool} {st1 : List GN} {ea : Option Addr} {ec : Nat} {es : List EdP} {sa sa' : Option Addr} {l l' : List Tx} {S1 : Nat → Prop} {w : World} (h : RL bb g m W S p fin st1 ea ec es sa l S1 w) (hl : HoldsT w sa' l'.length l') (hla : 0 < l'.length → ∀ fb fo, sa' = some ⟨fb, fo, none⟩ → ¬ S fb ∧ fb < W.heap.size) :
    RL bb g m W S p fin st1 ea ec es sa' l' S1 w := ⟨h.q, h.sub, h.t, h.np, h.pw, h.c0, h.c1, h.fr, h.o, h.ne, hl, hla⟩
theorem RL.keep {bb g m : Nat} {W : World} {S : Nat → Prop} {p : Nat} {fin : Bool} {st1 : List GN} {ea : Option Addr} {ec : Nat} {es : List EdP} {sa : Option Addr} {l : List Tx} {S1 : Nat → Prop} {w w6 : World} {o : Obj} (h : RL bb g m W S p fin st1 ea ec es sa l S1 w) (hg : (w.alloc o).grownBy w6 (Value.slice ea es.length ec).ownBlock) : w6.cell? ⟨p, 1, none⟩ = some (.slice ea es.length ec) ∧ w6.frozen? ⟨p, 1, none⟩ = false := by
  have hp := lt_of_cell h.c0
  have op := (hg.block p (by simp; omega) (fun e => (h.ne p (gown_at h.o e)).2 rfl)).trans (Below.heap_alloc w o p hp)
  exact ⟨(World.cell?_of_block (w := w) op).trans h.c1, (World.frozen?_of_block (w := w) op).trans (h.fr 1)⟩
/-- the place where the node is to lie -/
theorem RL.target {bb g m : Nat} {W : World} {S : Nat → Prop} {p : Nat} {fin : Bool} {st1 : List GN} {ea : Option Addr} {ec : Nat} {es : List EdP} {sa : Option Addr} {l : List Tx} {S1 : Nat → Prop} {w : World} (h : RL bb g m W S p fin st1 ea ec es sa l S1 w) (i : Nat) (hi : i < st1.length) (s : List Tx) (hr : (st1.getD i gn0).rests = s) :
    ∃ na nc NL q, BMid bb g m na nc NL st1 w S1 ∧ na = some ⟨q, 0, none⟩ ∧ (∃ v, w.cell? ⟨q, i * 2, none⟩ = some v) ∧ (∃ v, w.cell? ⟨q, i * 2 + 1, none⟩ = some v) ∧ (∀ k, w.frozen? ⟨q, k, none⟩ = false) ∧ q ≠ p ∧
      PO (QB bb g m (st1.set i ⟨s, fin, es⟩)) W S ((w.setCell ⟨q, i * 2, none⟩ (.bool fin)).setCell ⟨q, i * 2 + 1, none⟩ (.slice ea es.length ec)) := by
  obtain ⟨na, nc, NL, B⟩ := h.q
  have hnl : NL.length = st1.length := by have := congrArg List.length B.eq; simpa using this
  obtain ⟨q, rfl, h0, h1⟩ := B.G.at (i := i) (by omega)
  have sq := B.G.sn q rfl
  have hea : ∀ fb fo, ea = some ⟨fb, fo, none⟩ → ¬ S1 fb ∧ fb < w.heap.size ∧ W.heap.size ≤ fb := fun fb fo e => by
    have hb := own_blockG h.o e
    rcases Joins.ownsRow_forms h.o with ⟨e1, _⟩ | ⟨g2, cap, e1⟩
    · injection e1 with e2; rw [e] at e2; cases e2
    · injection e1 with e2; rw [e] at e2; injection e2 with e2; injection e2 with e2 e3; subst e2; subst e3
      exact ⟨(h.ne _ e).1, hb.2, hb.1⟩
  obtain ⟨P1, P2⟩ := B.G.put i (by omega) ⟨fin, ea, ec, es⟩ (HoldsEd.own h.o) (owns_none h.o).1 (owns_none h.o).2 (fun fb fo e => ⟨(hea fb fo e).1, (hea fb fo e).2.1⟩)
  refine ⟨_, nc, NL, q, B, rfl, ⟨_, h0⟩, ⟨_, h1⟩, fun k => B.G.o.frozenAt k, fun e => h.np (by rw [← e]; exact sq.1), _, ⟨_, nc, _, ⟨P1, ?_, ?_, ?_, ?_, Or.inl B.sb, Or.inl B.sm, B.n1, B.n2, B.n3, B.n4, fun x hx fb fo e => ?_⟩⟩, fun k hk => ?_, h.t.trans' P2 (fun k hk => by rw [hk]; exact h.sub q sq.1)⟩
  · rw [List.map_set, List.map_set, B.eq]; rfl
  · exact (P2.cell (lt_of_cell B.c0) (fun e => (B.n4 q rfl).2 e.symm)).trans B.c0
  · exact (P2.cell (lt_of_cell B.c0) (fun e => (B.n4 q rfl).2 e.symm)).trans B.c1
  · obtain ⟨f, m1, m2⟩ := B.M
    refine ⟨f, ?_, fun l hl => ?_⟩
    · rw [List.length_set]; exact m1.turn P2 (fun e => (B.n4 q rfl).1 e.symm)
    · rw [m2 l hl, find_set hi (by rw [hr])]
  · rcases List.mem_or_eq_of_mem_set hx with hx | rfl
    · exact B.n5 x hx fb fo e
    · have h3 := hea fb fo e
      exact ⟨fun e2 => h3.1 (by rw [e2]; exact B.sm), fun e2 => h3.1 (by rw [e2]; exact B.sb)⟩
  · rcases hk with hk | ⟨fo, hk⟩
    · exact h.sub k hk
    · exact Or.inr (hea k fo hk).2.2
theorem g4_store {w : World} {b g p q i j : Nat} {v1 v2 v3 v4 u v : Value} (hb : q ≠ b) (hg : q ≠ g) (hp : q ≠ p) (h : w.cell? ⟨b, 0, none⟩ = some v1 ∧ w.cell? ⟨g, 0, none⟩ = some v2 ∧ w.cell? ⟨p, 0, none⟩ = some v3 ∧ w.cell? ⟨p, 1, none⟩ = some v4) :
    ((w.setCell ⟨q, i, none⟩ u).setCell ⟨q, j, none⟩ v).cell? ⟨b, 0, none⟩ = some v1 ∧ ((w.setCell ⟨q, i, none⟩ u).setCell ⟨q, j, none⟩ v).cell? ⟨g, 0, none⟩ = some v2 ∧ ((w.setCell ⟨q, i, none⟩ u).setCell ⟨q, j, none⟩ v).cell? ⟨p, 0, none⟩ = some v3 ∧ ((w.setCell ⟨q, i, none⟩ u).setCell ⟨q, j, none⟩ v).cell? ⟨p, 1, none⟩ = some v4 :=
  ⟨((cset_far hb).trans (cset_far hb)).trans h.1, ((cset_far hg).trans (cset_far hg)).trans h.2.1, ((cset_far hp).trans (cset_far hp)).trans h.2.2.1, ((cset_far hp).trans (cset_far hp)).trans h.2.2.2⟩
def sliceLenG : Value → Nat
  | .slice _ n _ => n
  | _ => 0
theorem tx_nil (t : Tx) : t = (⟨#[]⟩ : ByteArray) ↔ t.toList = [] := by
  have e : (⟨#[]⟩ : ByteArray).toList = [] := by kernel_rfl
  constructor
  · intro h; rw [h]; exact e
  · intro h
    have : cmpS t ⟨#[]⟩ = 0 := by unfold cmpS; rw [h, e]; exact cmpL_same _
    exact cmpS_zero.1 this
end Go.Proofs.YtgnaiahnednllaaGreat
namespace Go.Proofs.YtgnaiahnednllaaGreat
open Go.RowKit Go.Maps
set_option linter.unusedVariables false
set_option maxRecDepth 20000
theorem nodeG_info : (Tryz.prog.info? 288).map (fun i => (i.zero, i.size, i.bytes)) = some (some (.agg #[.bool false, .slice none 0 0]), 2, 32) := by kernel_rfl
theorem edgeG_info : (Tryz.prog.info? 281).map (fun i => (i.zero, i.size, i.bytes)) = some (some (.agg #[.int .i32 0, .int .i64 0]), 2, 16) := by kernel_rfl
def Away (w : World) (S : Nat → Prop) (a : Option Addr) (n : Nat) : Prop := 0 < n → ∀ fb fo, a = some ⟨fb, fo, none⟩ → ¬ S fb ∧ fb < w.heap.size
def ReachP (bb g m : Nat) (w : World) (S : Nat → Prop) (r : Nat × List GN) (e : Ending) (w' : World) : Prop := e = .returned (.int .i64 r.1) ∧ PO (QB bb g m r.2) w S w'
def ReachAny (bb g m f : Nat) : Prop := ∀ (st : List GN) (s : List Tx) (a : Option Addr) (cap : Nat) (S : Nat → Prop) (w : World), QB bb g m st w S → OkL f s → HoldsT w a s.length s → Away w S a s.length → s.length ≤ cap → st.length + wtS s + 1 ≤ 1000000 →
    Calls Tryz.prog 199 #[.pointer (some ⟨bb, 0, none⟩), .slice a s.length cap] w (ReachP bb g m w S (reachF (f + 1) st s))
set_option maxHeartbeats 6400000 in
set_option maxRecDepth 100000 in
theorem reach_step (bb g m f : Nat) (IH : ∀ f', f = f' + 1 → ReachAny bb g m f') : ReachAny bb g m f := by
  intro st s a cap S w hQ hO hH hA hc hb
  obtain ⟨i0, hi, hz0, hz1, hz2⟩ := info_parts nodeG_info
  obtain ⟨j0, hj, hy0, hy1, hy2⟩ := info_parts edgeG_info
  have IHH := Lib.hid IH; have OK := Lib.hid hO; have HH := Lib.hid hH; have AW := Lib.hid hA; have QW := Lib.hid hQ
  obtain ⟨n, hn⟩ : ∃ n, s.length = n := ⟨_, rfl⟩
  have HN := Lib.hid hn
  rw [hn] at hH hc
  have hn100 : n ≤ 100 := by have := hO.n; omega
  have CN := Lib.hid (nameOf_any a n cap s w hH hn100 hO.sz)
  clear hQ hO hH hA IH
  rw [hn]
  clear hn
  go_enter Tryz.func199, Tryz.ntmps199
  go_wp2_with fail
  refine CN.out.mono ?_
  rintro e w' ⟨⟨nm, rfl, hnm⟩, rfl⟩
  have NM := Lib.hid hnm
  have nz : nm.size ≤ 10100 := by
    have h1 := nameL_len s OK.out.sz
    have h2 : nm.data.toList.length = nm.size := by simp
    rw [NM.out] at h2
    have h3 := HN.out
    have : s.length * 101 ≤ 10100 := by omega
    omega
  have nzl : nm.size ≤ maxLen := by unfold maxLen; omega
  clear hnm CN
  obtain ⟨na, nc, NL, B⟩ := QW.out
  obtain ⟨fm, hM, hF⟩ := B.M
  have c0 := B.c0
  have c1 := B.c1
  have BW := Lib.hid B
  have HF := Lib.hid hF
  have fnm : fm nm.data.toList = ointG (findG st s) := by rw [NM.out]; exact hF s OK.out.lo
  have hnl : NL.length = st.length := by have := congrArg List.length B.eq; simpa using this
  clear hF B
  cases hfd : findG st s with
  | some i =>
    rw [hfd] at fnm
    have FN := Lib.hid (show fm nm.data.toList = some (i : Int) from fnm)
    have R := Lib.hid (show reachF (f + 1) st s = (i, st) from by unfold reachF; rw [hfd])
    clear fnm hfd
    go_wp2_with (at_lookup; refine wpList_look_ms rfl _ _ rfl rfl hM nm rfl nzl ?_; rw [FN.out])
    go_ret
    rw [R.out]
    exact ⟨rfl, S, QW.out, fun k hk => Or.inl hk, Turn.refl _ _⟩
  | none =>
    rw [hfd] at fnm
    have FN := Lib.hid (show fm nm.data.toList = none from fnm)
    have FD := Lib.hid hfd
    clear fnm hfd
    have gc := BW.out.G.c
    rw [hnl] at gc
    have HNL := Lib.hid hnl
    clear hnl
    have ms : MapS w m st.length fm := hM
    have hst : st.length < maxLen := by unfold maxLen; omega
    have nwf : (Lit.int .i64 (st.length : Int)).wf = true := Go.WalkArith.wf_i64 (by omega)
    obtain ⟨w2, hrun, ms2, tm2⟩ := ms.put_run hst nm (st.length : Int) nzl nwf
    rw [FN.out] at ms2
    have MS2 := Lib.hid (show MapS w2 m (st.length + 1) (sset fm (nameL s) (some (st.length : Int))) from by rw [← NM.out]; exact ms2)
    have TM2 := Lib.hid tm2
    have t2 := Turn.of_mapTurnedS (F := fun k => k = m) tm2 rfl
    have T2 := Lib.hid t2
    have G2 := Lib.hid (BW.out.G.but t2 BW.out.n1 (fun r hr => (BW.out.n4 r hr).1) (fun x hx fb fo e => (BW.out.n5 x hx fb fo e).1))
    have d0 : w2.cell? ⟨bb, 0, none⟩ = some (.pointer (some ⟨g, 0, none⟩)) := (t2.cell (lt_of_cell c0) BW.out.n2).trans c0
    have dc : w2.cell? ⟨g, 0, none⟩ = some (.slice na st.length nc) := (t2.cell (lt_of_cell gc) BW.out.n1).trans gc
    clear ms2 tm2 t2 ms
    go_upto_region 7 with (at_lookup; refine wpList_look_ms rfl _ _ rfl rfl hM nm rfl nzl ?_; rw [FN.out])
    have OWN := Lib.hid (show w2.drew.ownsRow 0 288 2 (.slice na st.length nc) st.length (nmV NL) from by have := G2.out.o; rw [HNL.out] at this; exact owns_below this (Below.refl _ _).drew)
    have AB := Lib.hid (show ∀ o w', (w2.drew.alloc o).grownBy w' (Value.slice na st.length nc).ownBlock → w'.cell? ⟨bb, 0, none⟩ = some (.pointer (some ⟨g, 0, none⟩)) ∧ w'.cell? ⟨g, 0, none⟩ = some (.slice na st.length nc) ∧ w'.frozen? ⟨g, 0, none⟩ = false from fun o w' hg => by
      have lb := lt_of_cell d0
      have lg := lt_of_cell dc
      have o1 := (hg.block bb (by simp; omega) (fun e => (BW.out.n4 bb (gown_at OWN.out e)).2 rfl)).trans (Below.heap_alloc w2.drew o bb lb)
      have o2 := (hg.block g (by simp; omega) (fun e => (BW.out.G.sn g (gown_at OWN.out e)).2 rfl)).trans (Below.heap_alloc w2.drew o g lg)
      exact ⟨(World.cell?_of_block (w := w2) o1).trans d0, (World.cell?_of_block (w := w2) o2).trans dc, (World.frozen?_of_block (w := w2) o2).trans (G2.out.f 0)⟩)
    have n1 : w2.drew.cell? ⟨bb, 0, none⟩ = some (.pointer (some ⟨g, 0, none⟩)) := d0
    have n2 : w2.drew.cell? ⟨g, 0, none⟩ = some (.slice na st.length nc) := dc
    have n3 : (w2.alloc (.cells #[.bool false, .slice none 0 0] 288)).drew.cell? ⟨bb, 0, none⟩ = some (.pointer (some ⟨g, 0, none⟩)) := (Below.cell (below_one w2 _) (p := ⟨bb, 0, none⟩) (lt_of_cell d0)).trans d0
    have n4 : (w2.alloc (.cells #[.bool false, .slice none 0 0] 288)).drew.cell? ⟨g, 0, none⟩ = some (.slice na st.length nc) := (Below.cell (below_one w2 _) (p := ⟨g, 0, none⟩) (lt_of_cell dc)).trans dc
    have n5 : (w2.alloc (.cells #[.bool false, .slice none 0 0] 288)).cell? ⟨bb, 0, none⟩ = some (.pointer (some ⟨g, 0, none⟩)) := n3
    have n6 : (w2.alloc (.cells #[.bool false, .slice none 0 0] 288)).cell? ⟨g, 0, none⟩ = some (.slice na st.length nc) := n4
    have hst2 : st.length ≤ 1000000 := by omega
    clear hM c0 c1 gc hrun
    go_cut [] (fun wc => Hid (PO (QB bb g m (st ++ [⟨s, false, []⟩])) w S wc))
    case first =>
      go_region_law
        (refine step_append_lies _ (by rfl) _ _ _ (by rfl) 0 288 i0 _ 2 32 Tryz.underlying271 hi hz0 hz1 hz2 rfl (by omega) (.slice na st.length nc) st.length (nmV NL) (by rfl) (OWN.out.alloc _) ⟨w2.drew.heap.size, 0, none⟩ 1 1 [.bool false, .slice none 0 0] (by rfl) (by rfl) (World.news_of_block (cs := #[.bool false, .slice none 0 0]) (t := 288) (fr := (0, 0)) (heap_alloc_new w2.drew _)) (by simp [Value.oneCell']) (by omega) (by unfold maxLen; omega) (by omega) (by omega) (w2.drew.heap.size + 1) (by simp) ?_; intro g3 c3 w3 hown3 hgrow3 hat3 hlt3; obtain ⟨x0, x1, x2⟩ := AB.out _ _ hgrow3)
      all_goals
        have FR := Lib.hid (BW.out.fresh (w2 := w2.drew) (w3 := w3) (q := g3) (cap := c3) (s := s) (fm := fm) (MapS.block MS2.out rfl) T2.out.drew HF.out OK.out.lo FD.out (by rw [HNL.out]; exact hown3) (by rw [HNL.out]; exact hgrow3) (by rw [HNL.out]; exact hat3.imp id (fun e => by simp; exact e)) hlt3)
        rw [HNL.out] at FR
        clear hown3 hgrow3 hat3 hlt3 x0 x1 x2
        go_wp2_with fail
        go_meet
        obtain ⟨S', h1, h2, h3⟩ := FR.out
        exact Lib.hid ⟨S', ⟨_, _, _, h1⟩, h2, h3⟩
    case rest =>
      rename World => wc
      obtain ⟨Sc, qc, sc0, tc⟩ := hcut.out
      have HHT := Lib.hid (show HoldsT wc a s.length s from holdsT_turn HH.out tc (fun h0 fb fo e => (AW.out h0 fb fo e).1))
      have LC := (qb_ok bb g m (st ++ [⟨s, false, []⟩])).lt qc
      have R0 := Lib.hid (show RL bb g m w S wc.heap.size false (st ++ [⟨s, false, []⟩]) none 0 [] a s Sc (wc.alloc (.cells #[.bool false, .slice none 0 0] 288)) from
        ⟨(qb_ok bb g m _).below qc (below_one wc _), sc0, tc.trans (Turn.of_below (below_one wc _)), fun hk => by have := LC _ hk; omega, tc.size, by rw [cell_alloc rfl]; rfl, by rw [cell_alloc rfl]; rfl, fun i => frozen_alloc rfl, World.ownsRow_nil _ _ _ _, fun k e => (by cases e), HHT.out.below (below_one wc _), AW.out⟩)
      have ED := Lib.hid (show reachF (f + 1) st s = (st.length, (edgesF (reachF f) (bodS s).length (bodS s) [] (st ++ [⟨s, false, []⟩])).2.set st.length ⟨s, finS s, (edgesF (reachF f) (bodS s).length (bodS s) [] (st ++ [⟨s, false, []⟩])).1⟩) from by conv => lhs; unfold reachF; rw [FD.out])
      clear hcut qc sc0 tc LC HHT d0 dc n1 n2 n3 n4 n5 n6 OWN AB MS2 TM2 T2 G2 BW HF FN FD hst nwf NM nz nzl QW
      go_upto_region 9 with fail
      generalize wc.alloc (.cells #[.bool false, .slice none 0 0] 288) = w4 at *
      obtain ⟨p, hp⟩ : ∃ p, wc.heap.size = p := ⟨_, rfl⟩
      rw [hp] at R0
      rw [hp]
      clear hp
      obtain ⟨zf, hzf⟩ : ∃ z, finS s = z := ⟨_, rfl⟩
      have HZF := Lib.hid hzf
      obtain ⟨R, hR⟩ : ∃ r, edgesF (reachF f) (bodS s).length (bodS s) [] (st ++ [⟨s, false, []⟩]) = r := ⟨_, rfl⟩
      rw [hR] at ED
      have HR := Lib.hid hR
      clear hzf hR
      go_cut [64] (fun u wd => u = .bool zf ∧ w4 = wd)
      case first =>
        rcases Nat.eq_zero_or_pos n with hn0 | hn0
        · subst hn0
          have hs0 : s = [] := List.eq_nil_of_length_eq_zero HN.out
          obtain rfl : zf = false := by rw [← HZF.out, hs0]; rfl
          clear hs0
          go_wp2_with fail
          go_meet
          exact ⟨rfl, rfl⟩
        · have hd1 : decide ((n : Int) > 0) = true := decide_eq_true (by omega)
          have hd2 : decide (0 < n) = true := decide_eq_true hn0
          have hih := R0.out.hl
          rw [HN.out] at hih
          obtain ⟨b, o, rfl, hcc⟩ := hih.at hn0
          have x0 := hcc 0 hn0
          obtain ⟨t, ht⟩ : ∃ t, s.getD 0 ByteArray.empty = t := ⟨_, rfl⟩
          rw [ht, Nat.add_zero] at x0
          have hni : (0 : Int) < (n : Int) := by omega
          have hzt : t.toList.isEmpty = zf := by
            rw [← HZF.out]
            have hs2 : s.head? = some t := by
              have hsl := HN.out
              cases hs3 : s with
              | nil => rw [hs3] at hsl; simp at hsl; omega
              | cons t' l' => rw [hs3] at ht; simp at ht; simp [ht]
            unfold finS
            rw [hs2, Bool.eq_iff_iff]
            simp only [decide_eq_true_eq, List.isEmpty_iff]
            constructor
            · intro h; rw [(tx_nil t).2 h]
            · intro h; exact (tx_nil t).1 (by injection h)
          have hzt2 : (t.toList == []) = zf := by rw [← hzt]; cases t.toList <;> rfl
          clear hcc hih ht
          go_wp2_with fail
          go_meet
          exact ⟨by first | rfl | rw [hzt] | rw [hzt2], rfl⟩
      case rest =>
        obtain ⟨rfl, rfl⟩ := hcut
        go_upto_if 64 with fail
        go_cut [1] (fun v wd => ∃ sa sc, v = .slice sa (bodS s).length sc ∧ Hid ((bodS s).length ≤ sc) ∧ Hid (RL bb g m w S p zf (st ++ [⟨s, false, []⟩]) none 0 [] sa (bodS s) Sc wd))
        case first =>
          cases zf
          · have hbs : bodS s = s := by unfold bodS; rw [HZF.out]; rfl
            have HBS := Lib.hid hbs
            clear hbs
            go_wp2_with fail
            go_meet
            exact ⟨a, cap, by rw [HBS.out, HN.out], Lib.hid (by rw [HBS.out, HN.out]; exact hc), Lib.hid (by rw [HBS.out]; exact R0.out)⟩
          · obtain ⟨l, hsl⟩ : ∃ l, s = ⟨#[]⟩ :: l := by
              have h := HZF.out
              unfold finS at h
              have h2 := of_decide_eq_true h
              cases s with
              | nil => simp at h2
              | cons t l => simp at h2; exact ⟨l, by rw [h2]⟩
            have hbs : bodS s = l := by unfold bodS; rw [HZF.out, hsl]; rfl
            obtain ⟨k, rfl⟩ : ∃ k, n = k + 1 := ⟨l.length, by rw [← HN.out, hsl]; rfl⟩
            have hlk : l.length = k := by have := HN.out; rw [hsl] at this; simpa using this
            obtain ⟨c, rfl⟩ : ∃ c, cap = c + 1 := ⟨cap - 1, by omega⟩
            have hih := R0.out.hl
            rw [HN.out] at hih
            obtain ⟨b, o, rfl, hcc⟩ := hih.at (by omega)
            obtain ⟨o', hA, hAH⟩ : ∃ o', (if c = 0 then some (⟨b, o, none⟩ : Addr) else some ⟨b, o + 1, none⟩) = some ⟨b, o', none⟩ ∧ Hid (HoldsT w4 (some ⟨b, o', none⟩) k l) := by
              by_cases hc0 : c = 0
              · have hk0 : k = 0 := by omega
                subst hk0
                have hl0 : l = [] := List.eq_nil_of_length_eq_zero hlk
                exact ⟨o, by rw [if_pos hc0], Lib.hid (by rw [hl0]; exact HoldsT.nil _ _)⟩
              · refine ⟨o + 1, by rw [if_neg hc0], Lib.hid (HoldsT.of hlk (fun i hi => ?_))⟩
                have h := hcc (i + 1) (by omega)
                rw [hsl, List.getD_cons_succ] at h
                rw [show o + 1 + i = o + (i + 1) by omega]
                exact h
            have HBS := Lib.hid hbs; have HLK := Lib.hid hlk
            have z0 := R0.out.c0
            have zf0 := R0.out.fr 0
            have i1 : (1 : Int) ≤ (k : Int) + 1 := by omega
            have i2 : (1 : Int) ≤ ((k + 1 : Nat) : Int) := by omega
            have RN := Lib.hid (show RL bb g m w S p true (st ++ [⟨s, false, []⟩]) none 0 [] (some ⟨b, o', none⟩) l Sc (w4.setCell ⟨p, 0, none⟩ (.bool true)) from
              R0.out.flag (b := true) (by rw [hlk]; exact hAH.out) (fun h0 fb fo e => by injection e with e; injection e with e1 e2; subst e1; exact R0.out.la (by rw [hsl]; simp) b o rfl))
            clear hcc hih hbs hlk hsl
            go_wp2_with fail
            go_meet
            exact ⟨some ⟨b, o', none⟩, c, by rw [HBS.out, HLK.out], Lib.hid (by rw [HBS.out, HLK.out]; omega), Lib.hid (by rw [HBS.out]; exact RN.out)⟩
        case rest =>
          obtain ⟨sa, sc, rfl, hsc, hR1⟩ := hcut
          rename World => w5
          have hok : OkL f (bodS s) ∧ ∀ t ∈ bodS s, 0 < t.size := ⟨OK.out.bod, bod_pos OK.out.ord⟩
          have HOK := Lib.hid hok
          have hbl : (bodS s).length ≤ 100 := hok.1.n
          have HWT := Lib.hid (show (st ++ [(⟨s, false, []⟩ : GN)]).length + wtS (bodS s) ≤ 1000000 from by rw [List.length_append, List.length_singleton]; have := wt_bod s; omega)
          have HLT := Lib.hid (show st.length < (st ++ [(⟨s, false, []⟩ : GN)]).length from by rw [List.length_append, List.length_singleton]; omega)
          clear hok
          go_wp2_with fail
          go_loopw [1] (fun v wr => ∃ (k : Nat) (l : List Tx) (es : List EdP) (st1 : List GN) (S1 : Nat → Prop) (ea : Option Addr) (ec : Nat) (sa : Option Addr) (sc : Nat), v = .slice sa l.length sc ∧ l.length ≤ k ∧ es.length + k ≤ 100 ∧ Hid (l.length ≤ sc) ∧ Hid (edgesF (reachF f) k l es st1 = R) ∧ Hid (OkL f l ∧ ∀ t ∈ l, 0 < t.size) ∧ Hid (st1.length + wtS l ≤ 1000000) ∧ Hid (st.length < st1.length) ∧ Hid ((st1.getD st.length gn0).rests = s) ∧ Hid (RL bb g m w S p zf st1 ea ec es sa l S1 wr)) (fun v _ => sliceLenG v)
          case atStart => exact ⟨(bodS s).length, bodS s, [], _, Sc, none, 0, sa, sc, rfl, Nat.le_refl _, by simpa using hbl, hsc, HR, HOK, HWT, HLT, Lib.hid (by simp [List.getD_eq_getElem?_getD]), hR1⟩
          case round =>
            clear hR1 hsc HOK HWT HLT hbl
            obtain ⟨k, l, es, st1, S1, ea, ec, sa, sc, rfl, hlk, hek, hsc, hE, hOK, hWT, hLT, hRS, hRL⟩ := hrel
            rename World => wr
            by_cases hl0 : l = []
            · subst hl0
              have hRR : R = (es, st1) := by
                rw [← hE.out]
                cases k with
                | zero => rfl
                | succ k => unfold edgesF; rw [if_pos rfl]
              obtain ⟨na1, nc1, NL1, q, hB, hqa, ⟨vq0, hq0⟩, ⟨vq1, hq1⟩, hqf, hqn, hPO⟩ := hRL.out.target st.length hLT.out s hRS.out
              have c0 := hB.c0
              have gc := hB.G.c
              have p0 := hRL.out.c0
              have p1 := hRL.out.c1
              have qb : q ≠ bb := (hB.n4 q hqa).2
              have qg : q ≠ g := (hB.G.sn q hqa).2
              have qp : q ≠ p := hqn
              have hnl1 : NL1.length = st1.length := by have := congrArg List.length hB.eq; simpa using this
              rw [hnl1] at gc
              subst hqa
              have f1 := hqf (st.length * 2)
              have f2 := hqf (st.length * 2 + 1)
              have i1 : (0 : Int) ≤ (st.length : Int) := by omega
              have i2 : (st.length : Int) < (st1.length : Int) := by have := hLT.out; omega
              have FIN := Lib.hid hPO
              have HRR := Lib.hid hRR
              clear hB hnl1 hqf hPO hRR hqn
              go_upto_region 16 with fail
              go_region_held3 (fun w' => w'.cell? ⟨bb, 0, none⟩ = some (.pointer (some ⟨g, 0, none⟩)) ∧ w'.cell? ⟨g, 0, none⟩ = some (.slice (some ⟨q, 0, none⟩) st1.length nc1) ∧ w'.cell? ⟨p, 0, none⟩ = some (.bool zf) ∧ w'.cell? ⟨p, 1, none⟩ = some (.slice ea es.length ec))
                (first | assumption | exact ⟨c0, gc, p0, p1⟩ | exact g4_store qb qg qp ⟨c0, gc, p0, p1⟩)
                (fail)
              all_goals
                go_wp2_with fail
                go_ret
                rw [ED.out, HRR.out, HZF.out]
                exact ⟨rfl, FIN.out.more (qb_ok bb g m _) (Below.refl _ _).drew⟩
            · have hpos : 0 < l.length := by cases l with
                | nil => exact absurd rfl hl0
                | cons t l => simp
              obtain ⟨k, rfl⟩ : ∃ k', k = k' + 1 := ⟨k - 1, by omega⟩
              obtain ⟨f', rfl⟩ : ∃ f', f = f' + 1 := by
                refine ⟨f - 1, ?_⟩
                have hm : l.getD 0 ByteArray.empty ∈ l := getD_tx hpos
                have h1 := rst_len (hOK.out.1.lo _ hm) (hOK.out.2 _ hm)
                have h2 := hOK.out.1.hi _ hm
                omega
              have C := Lib.hid (IHH.out f' rfl)
              have hl100 := hOK.out.1.n
              have CF := Lib.hid (follow_any sa l.length sc l wr hRL.out.hl hpos hl100 hOK.out.2 hOK.out.1.sz)
              have HFL := Lib.hid (fol_len l hl0)
              have HWF := Lib.hid (wt_fol hl0 hOK.out.1.lo hOK.out.2)
              have OKF := Lib.hid (hOK.out.1.fol hOK.out.2)
              obtain ⟨⟨lab, rs⟩, hfo⟩ : ∃ r, folS l = r := ⟨_, rfl⟩
              have hEE := hE.out
              unfold edgesF at hEE
              rw [if_neg hl0, hfo] at hEE
              unfold FolP at CF
              rw [hfo] at CF HFL HWF OKF
              obtain ⟨⟨ix, st2⟩, hre⟩ : ∃ r, reachF (f' + 1) st1 rs = r := ⟨_, rfl⟩
              simp only at hEE
              rw [hre] at hEE
              have HE := Lib.hid hEE
              have HRE := Lib.hid hre
              have RLN := Lib.hid (reach_len f' st1 rs OKF.out)
              rw [hre] at RLN
              have hpi : (0 : Int) < (l.length : Int) := by omega
              have hd1 : decide ((l.length : Int) > 0) = true := decide_eq_true (by omega)
              have hd2 : decide (0 < l.length) = true := decide_eq_true hpos
              clear hEE hre hE hfo
              go_wp2_with fail
              refine CF.out.mono ?_
              rintro e w6 ⟨fa, fc, rfl, hfo, hb6⟩
              simp only at hfo ⊢
              have R6 := Lib.hid (hRL.out.more hb6)
              have FA := Lib.hid hfo
              have FW := Lib.hid (show Away w6.drew S1 fa rs.length from fun h0 fb fo e => by
                have h1 := own_blockG hfo e
                exact ⟨fun hk => by have := hRL.out.qlt fb hk; omega, h1.2⟩)
              have C6 := Lib.hid (C.out st1 rs fa fc S1 w6.drew ((qb_ok bb g m st1).below R6.out.q (Below.refl _ _).drew) OKF.out ((HoldsT.own FA.out).below (Below.refl _ _).drew) FW.out (owns_none FA.out).2 (by have := hWT.out; have := HWF.out; omega))
              rw [HRE.out] at C6
              clear hfo hb6 CF C FW
              have R6d := Lib.hid (R6.out.more (Below.refl w6.heap.size w6).drew)
              have y0 := R6d.out.c1
              have hes : es.length ≤ 100 := by omega
              go_upto_region 14 with fail
              go_cut [] (fun wd => Hid (∃ S2 ea2 ec2, RL bb g m w S p zf st2 ea2 ec2 (es ++ [⟨(lab : Int), (ix : Int)⟩]) sa l S2 wd))
              case first =>
                go_region_law
                  (first
                    | (refine step_append_lies _ (by rfl) _ _ _ (by rfl) w.heap.size 281 j0 _ 2 16 Tryz.underlying277 hj hy0 hy1 hy2 rfl (by omega) (.slice ea es.length ec) es.length (edsV es) (by first | rfl | (simp [Act.eval]; done) | simp [Act.eval, Act.put]) (hR7.o.alloc _) ⟨w7.heap.size, 0, none⟩ 1 1 [.int .i32 (lab : Int), .int .i64 (ix : Int)] (by first | rfl | (simp [Act.eval]; done) | simp [Act.eval, Act.put]) (by rfl) (World.news_of_block (cs := #[.int .i32 (lab : Int), .int .i64 (ix : Int)]) (t := 281) (fr := (0, 0)) (heap_alloc_new w7 _)) (by simp [Value.oneCell']) (by omega) (by unfold maxLen; omega) (by omega) (by have := hR7.t.size; simp; omega) (w7.heap.size + 1) (by simp) ?_; intro g3 c3 w8 hown8 hgrow8 hat8 hlt8; obtain ⟨x0, x1⟩ := hR7.keep hgrow8)
                    | (go_simp; go_at_call 199; (with_reducible refine C6.out.mono ?_); rintro e w7 ⟨rfl, hPO⟩; obtain ⟨S2, hR7⟩ := R6d.out.step hPO; have y1 := hR7.c1; have y3 := fun o => ((below_one w7 o).cell (p := ⟨p, 1, none⟩) (lt_of_cell y1)).trans y1))
                all_goals
                  have RN := Lib.hid (hR7.edge (x := ⟨(lab : Int), (ix : Int)⟩) hown8 hgrow8 (hat8.imp id (fun e => by simp; exact e)))
                  clear hown8 hgrow8 hat8 hlt8 x0 x1 y1 y3
                  go_wp2_with fail
                  go_meet
                  exact Lib.hid ⟨S2, _, _, RN.out⟩
              case rest =>
                obtain ⟨S2, ea2, ec2, hR8⟩ := hcut.out
                rename World => w9
                have R8 := Lib.hid hR8
                clear hcut hR8 R6 R6d C6 y0 FA
                obtain ⟨b, o, rfl, hcc⟩ := R8.out.hl.at hpos
                obtain ⟨d, hd⟩ : ∃ d, rs.length = d := ⟨_, rfl⟩
                rw [hd] at HFL HWF HE
                rw [hd]
                clear hd
                have hd1' := HFL.out.1
                have hd2' := HFL.out.2
                have hsc' := hsc.out
                obtain ⟨o', hA, hAH⟩ : ∃ o', (if sc = d then some (⟨b, o, none⟩ : Addr) else some ⟨b, o + d, none⟩) = some ⟨b, o', none⟩ ∧ Hid (HoldsT w9 (some ⟨b, o', none⟩) (l.drop d).length (l.drop d)) := by
                  by_cases hc0 : sc = d
                  · have hl0' : l.drop d = [] := List.drop_eq_nil_of_le (by omega)
                    exact ⟨o, by rw [if_pos hc0], Lib.hid (by rw [hl0']; exact HoldsT.nil _ _)⟩
                  · refine ⟨o + d, by rw [if_neg hc0], Lib.hid (HoldsT.of rfl (fun i hi => ?_))⟩
                    rw [List.length_drop] at hi
                    have h := hcc (d + i) (by omega)
                    rw [show o + d + i = o + (d + i) by omega, h]
                    congr 2
                    simp [List.getD_eq_getElem?_getD]
                have RN := Lib.hid (R8.out.other hAH.out (fun h0 fb fo e => by injection e with e; injection e with e1 e2; subst e1; exact R8.out.la hpos b o rfl))
                have i1 : (0 : Int) ≤ (d : Int) := by omega
                have i2 : (d : Int) ≤ (l.length : Int) := by omega
                have ldr : l.length - d = (l.drop d).length := by rw [List.length_drop]
                have LDR := Lib.hid ldr
                clear hcc ldr
                go_wp2_with fail
                go_roundw
                case rel => exact ⟨k, l.drop d, es ++ [⟨(lab : Int), (ix : Int)⟩], st2, S2, ea2, ec2, some ⟨b, o', none⟩, sc - d, by rw [LDR.out], by rw [List.length_drop]; omega, by simp; omega, Lib.hid (by rw [List.length_drop]; omega), HE, Lib.hid ⟨hOK.out.1.drop _, fun t ht => hOK.out.2 t (List.mem_of_mem_drop ht)⟩, Lib.hid (by have := hWT.out; have := HWF.out; have := RLN.out; omega), Lib.hid (by have := hLT.out; have := RLN.out; omega), Lib.hid (by rw [← hRS.out]; have := reach_rests f' st1 rs OKF.out st.length hLT.out; rw [HRE.out] at this; exact this), RN⟩
                case measure => simp only [sliceLenG]; rw [LDR.out, List.length_drop]; omega
theorem reach_any (bb g m : Nat) : ∀ f, ReachAny bb g m f := by
  intro f
  induction f with
  | zero => exact reach_step bb g m 0 (fun f' e => by omega)
  | succ f ih => exact reach_step bb g m (f + 1) (fun f' e => by obtain rfl : f = f' := by omega
                                                                 exact ih)
end Go.Proofs.YtgnaiahnednllaaGreat
namespace Go.Proofs.YtgnaiahnednllaaGreat
open Go.RowKit Go.Maps
set_option linter.unusedVariables false
set_option maxRecDepth 20000
/-- the nodes of the words -/
def grS (ts : List Tx) : List GN := (reachF 13 [] ts).2
theorem ok_good {ts : List Tx} (h : goodV ts = 0) (hsz : ∀ t ∈ ts, t.size ≤ 100) : OkL 12 ts := by
  obtain ⟨h1, h2, h3⟩ := goodV_zero h
  exact ⟨h3, fun t ht => by have := (h2 t ht).1; omega, fun t ht => (h2 t ht).2, by omega, hsz⟩
theorem wt_good : ∀ (ts : List Tx), (∀ t ∈ ts, lenS t ≤ 12) → wtS ts ≤ ts.length * 12
  | [], _ => by simp [wtS]
  | t :: l, h => by
    have h1 := wt_good l (fun u hu => h u (by simp [hu]))
    have h2 := h t (by simp)
    simp only [wtS, List.length_cons]
    omega
def BuildP (w : World) (ts : List Tx) (e : Ending) (w' : World) : Prop := ∃ g S, e = .returned (.tuple #[.pointer (some ⟨g, 0, none⟩), .int .i64 0]) ∧ GAt g (grS ts) w' S ∧ (∀ k, S k → w.heap.size ≤ k) ∧ Below w.heap.size w w'
theorem build_bad (a : Option Addr) (n cap : Nat) (ts : List Tx) (v : Int) (w : World) (hh : HoldsT w a n ts) (hn : n ≤ 9223372036854775807) (hs : ∀ t ∈ ts, t.size ≤ 9223372036854775807) (hv : goodV ts = v) (h0 : v ≠ 0) :
    Calls Tryz.prog 142 #[.slice a n cap] w fun e w' => e = .returned (.tuple #[.pointer none, .int .i64 v]) ∧ Below w.heap.size w w' := by
  have CG := Lib.hid (good_any' a n cap ts w hh hn hs)
  rw [hv] at CG
  have hne : (v != 0) = true := by simpa using h0
  clear hh hs hv h0
  go_enter Tryz.func142, Tryz.ntmps142
  go_wp2_with fail
  refine CG.out.mono ?_
  rintro e w1 ⟨rfl, hb⟩
  have B1 := Lib.hid hb
  clear hb
  go_wp2_with fail
  go_ret2
  exact ⟨rfl, B1.out⟩
theorem qb_start (w1 : World) (t1 t2 : TypeId) : QB (w1.heap.size + 1 + 1) w1.heap.size (w1.heap.size + 1) [] (((w1.alloc (Obj.cells #[Value.slice none 0 0] t1)).alloc (Obj.map #[] 0)).alloc (Obj.cells #[Value.pointer (some { block := w1.heap.size, off := 0 }), Value.map (some (w1.heap.size + 1))] t2)) (fun k => w1.heap.size ≤ k ∧ k < w1.heap.size + 3) := by
  have hm := mapS_made (w1.alloc (Obj.cells #[Value.slice none 0 0] t1))
  rw [show (w1.alloc (Obj.cells #[Value.slice none 0 0] t1)).heap.size = w1.heap.size + 1 from by simp] at hm
  have hb := Below.heap_alloc ((w1.alloc (Obj.cells #[Value.slice none 0 0] t1)).alloc (Obj.map #[] 0)) (Obj.cells #[Value.pointer (some { block := w1.heap.size, off := 0 }), Value.map (some (w1.heap.size + 1))] t2)
  have hc := Below.heap_alloc (w1.alloc (Obj.cells #[Value.slice none 0 0] t1)) (Obj.map #[] 0)
  have b0 := (hb w1.heap.size (by simp; omega)).trans (hc w1.heap.size (by simp))
  have b1 := hb (w1.heap.size + 1) (by simp)
  refine ⟨none, 0, [], ⟨⟨?_, fun i => ?_, World.ownsRow_nil _ 0 _ 2, fun x hx => by simp at hx, ⟨by omega, by omega⟩, fun q hq => by (cases hq), fun k hk => ?_⟩, rfl, ?_, ?_, ⟨fun _ => none, hm.block b1, fun l _ => rfl⟩, ⟨by omega, by omega⟩, ⟨by omega, by omega⟩, by omega, by omega, by omega, fun q hq => by (cases hq), fun x hx => by simp at hx⟩⟩
  · rw [World.cell?_of_block (w := w1.alloc (Obj.cells #[Value.slice none 0 0] t1)) b0, World.cell?_alloc_at _ _ _ _ rfl]; rfl
  · rw [World.frozen?_of_block (w := w1.alloc (Obj.cells #[Value.slice none 0 0] t1)) b0, World.frozen?_alloc_at _ _ _ _ rfl]
  · simp; omega
  · rw [World.cell?_alloc_at _ _ _ _ (by simp)]; rfl
  · rw [World.cell?_alloc_at _ _ _ _ (by simp)]; rfl
set_option maxHeartbeats 1600000 in
theorem build_good (a : Option Addr) (n cap : Nat) (ts : List Tx) (w : World) (hh : HoldsT w a n ts) (hc : n ≤ cap) (hn : n ≤ 9223372036854775807) (hs : ∀ t ∈ ts, t.size ≤ 100) (hv : goodV ts = 0) :
    Calls Tryz.prog 142 #[.slice a n cap] w (BuildP w ts) := by
  have CG := Lib.hid (good_any' a n cap ts w hh hn (fun t ht => by have := hs t ht; omega))
  rw [hv] at CG
  have OK := Lib.hid (ok_good hv hs)
  have HH := Lib.hid hh
  have hl := hh.len
  have HL := Lib.hid hl
  have hmm := @run_makeMap Tryz.prog
  clear hh hs hv hl
  go_enter Tryz.func142, Tryz.ntmps142
  go_wp2_with fail
  refine CG.out.mono ?_
  rintro e w1 ⟨rfl, hb⟩
  have B1 := Lib.hid hb
  clear hb CG
  go_upto_region 5 with fail
  have Q0 := Lib.hid (qb_start w1 273 276)
  obtain ⟨w2, hw2⟩ : ∃ w2, (((w1.alloc (Obj.cells #[Value.slice none 0 0] 273)).alloc (Obj.map #[] 0)).alloc (Obj.cells #[Value.pointer (some { block := w1.heap.size, off := 0 }), Value.map (some (w1.heap.size + 1))] 276)) = w2 := ⟨_, rfl⟩
  have B2 := Lib.hid (show Below w.heap.size w w2 from by
    rw [← hw2]
    have z1 := B1.out.size
    exact B1.out.trans (((below_one _ _).mono z1).trans (((below_one _ _).mono (by simp; omega)).trans ((below_one _ _).mono (by simp; omega)))))
  have hz2 : w2.heap.size = w1.heap.size + 3 := by rw [← hw2]; simp
  rw [hw2] at Q0
  rw [hw2]
  have CR := Lib.hid (reach_any (w1.heap.size + 1 + 1) w1.heap.size (w1.heap.size + 1) 12 [] ts a cap _ w2 Q0.out OK.out (HL.out.symm ▸ (HH.out.below B2.out)) (fun h0 fb fo e => by
    rw [HL.out] at h0
    obtain ⟨b, o, e2, hc2⟩ := HH.out.at h0
    have h3 := lt_of_cell (hc2 0 h0)
    rw [e2] at e
    injection e with e; injection e with e4 e5
    have z1 := B1.out.size
    exact ⟨by omega, by omega⟩) (by rw [HL.out]; exact hc) (by
    have h3 := wt_good ts OK.out.hi
    have h4 := OK.out.n
    simp only [List.length_nil]; omega))
  rw [HL.out] at CR
  clear hw2 Q0
  go_wp2_with fail
  refine CR.out.mono ?_
  rintro e w3 ⟨rfl, S3, ⟨na, nc, NL, hB⟩, hs3, ht3⟩
  have B := Lib.hid hB; have T3 := Lib.hid ht3; have S3H := Lib.hid hs3
  have c0 := hB.c0
  have z1 := B1.out.size
  clear hB ht3 hs3 CR
  go_wp2_with fail
  go_ret2
  refine ⟨_, S3, rfl, ⟨na, nc, NL, B.out.G, B.out.eq⟩, fun k hk => ?_, B2.out.trans (T3.out.below (fun k hk => by omega) (by omega))⟩
  rcases S3H.out k hk with x | x
  · omega
  · omega
end Go.Proofs.YtgnaiahnednllaaGreat
namespace Go.Proofs.YtgnaiahnednllaaGreat
open Go.RowKit
set_option linter.unusedVariables false
set_option maxRecDepth 20000
theorem map_eqG : ∀ (NL : List NM) (st : List GN), NL.map nmP = st.map gnP → NL.length = st.length ∧ ∀ n, n < st.length → (NL.getD n nm0).fin = (st.getD n gn0).final ∧ (NL.getD n nm0).es = (st.getD n gn0).edges
  | [], [], _ => ⟨rfl, fun n h => by simp at h⟩
  | [], g :: st, h => by simp at h
  | x :: NL, [], h => by simp at h
  | x :: NL, g :: st, h => by
    simp only [List.map_cons, List.cons.injEq] at h
    obtain ⟨h1, h2⟩ := map_eqG NL st h.2
    refine ⟨by simp [h1], fun n hn => ?_⟩
    have h3 := h.1
    unfold nmP gnP at h3
    cases n with
    | zero => exact ⟨congrArg Prod.fst h3, congrArg Prod.snd h3⟩
    | succ n => exact h2 n (by simpa using hn)
theorem GAt.len {g : Nat} {st : List GN} {w : World} {S : Nat → Prop} (h : GAt g st w S) : ∃ na nc, w.cell? ⟨g, 0, none⟩ = some (.slice na st.length nc) := by
  obtain ⟨na, nc, NL, G, e⟩ := h
  have := G.c
  rw [(map_eqG _ _ e).1] at this
  exact ⟨na, nc, this⟩
theorem GAt.node {g : Nat} {st : List GN} {w : World} {S : Nat → Prop} (h : GAt g st w S) {n : Nat} (hn : n < st.length) : ∃ q nc ea ec, w.cell? ⟨g, 0, none⟩ = some (.slice (some ⟨q, 0, none⟩) st.length nc) ∧ w.cell? ⟨q, n * 2, none⟩ = some (.bool (st.getD n gn0).final) ∧ w.cell? ⟨q, n * 2 + 1, none⟩ = some (.slice ea (st.getD n gn0).edges.length ec) ∧ HoldsEd w ea (st.getD n gn0).edges.length (st.getD n gn0).edges ∧ (ea = none → (st.getD n gn0).edges.length = 0 ∧ ec = 0) := by
  obtain ⟨na, nc, NL, G, e⟩ := h
  obtain ⟨e1, e2⟩ := map_eqG _ _ e
  have c := G.c
  obtain ⟨q, rfl, c0, c1⟩ := G.at (i := n) (by omega)
  obtain ⟨e3, e4⟩ := e2 n hn
  rw [e1] at c
  rw [e3] at c0
  have ei := G.e _ (mem_nm (show n < NL.length by omega))
  unfold EdIn at ei
  rw [e4] at c1 ei
  exact ⟨q, nc, _, _, c, c0, c1, ei.1, ei.2.1⟩
def hasG (st : List GN) (n : Int) : Bool := decide (0 ≤ n ∧ n < (st.length : Int))
theorem hasG_yes {st : List GN} {n : Int} (h : hasG st n = true) : ∃ k : Nat, n = k ∧ k < st.length := by
  simp only [hasG, decide_eq_true_eq] at h
  exact ⟨n.toNat, by omega, by omega⟩
theorem gHas_any (g : Nat) (st : List GN) (S : Nat → Prop) (n : Int) (w : World) (h : GAt g st w S) : Calls Tryz.prog 162 #[.pointer (some ⟨g, 0, none⟩), .int .i64 n] w fun e w' => e = .returned (.bool (hasG st n)) ∧ w = w' := by
  obtain ⟨na, nc, c⟩ := h.len
  by_cases h0 : n < 0
  · have d0 : decide (n ≥ 0) = false := decide_eq_false (by omega)
    have e : hasG st n = false := decide_eq_false (by omega)
    rw [e]
    clear e
    go_enter Tryz.func162, Tryz.ntmps162
    go_wp2_with fail
    go_ret
    exact ⟨rfl, rfl⟩
  · have d0 : decide (n ≥ 0) = true := decide_eq_true (by omega)
    have e : hasG st n = decide (n < (st.length : Int)) := by unfold hasG; congr 1; simp; omega
    rw [e]
    clear e
    go_enter Tryz.func162, Tryz.ntmps162
    go_wp2_with fail
    go_ret
    exact ⟨rfl, rfl⟩
theorem gNodes_any (g : Nat) (st : List GN) (S : Nat → Prop) (w : World) (h : GAt g st w S) : Calls Tryz.prog 201 #[.pointer (some ⟨g, 0, none⟩)] w fun e w' => e = .returned (.int .i64 st.length) ∧ w = w' := by
  obtain ⟨na, nc, c⟩ := h.len
  go_enter Tryz.func201, Tryz.ntmps201
  go_wp2_with fail
  go_ret
  exact ⟨rfl, rfl⟩
def finG (st : List GN) (n : Int) : Bool := hasG st n && (st.getD n.toNat gn0).final
theorem gFinal_any (g : Nat) (st : List GN) (S : Nat → Prop) (n : Int) (w : World) (h : GAt g st w S) : Calls Tryz.prog 204 #[.pointer (some ⟨g, 0, none⟩), .int .i64 n] w fun e w' => e = .returned (.bool (finG st n)) ∧ w = w' := by
  have CH := gHas_any g st S n w h
  unfold finG
  cases hb : hasG st n with
  | false =>
    rw [hb] at CH
    go_enter Tryz.func204, Tryz.ntmps204
    go_wp2_with fail
    refine CH.mono ?_
    rintro e w1 ⟨rfl, rfl⟩
    go_wp2_with fail
    go_ret
    exact ⟨rfl, rfl⟩
  | true =>
    rw [hb] at CH
    obtain ⟨k, rfl, hk⟩ := hasG_yes hb
    obtain ⟨q, nc, ea, ec, c0, c1, c2, -, -⟩ := h.node hk
    have i1 : (0 : Int) ≤ (k : Int) := by omega
    have i2 : (k : Int) < (st.length : Int) := by omega
    have e : (k : Int).toNat = k := by omega
    rw [e, Bool.true_and]
    obtain ⟨fb, hfb⟩ : ∃ b, (st.getD k gn0).final = b := ⟨_, rfl⟩
    rw [hfb] at c1 ⊢
    clear e c2 hfb
    go_enter Tryz.func204, Tryz.ntmps204
    go_wp2_with fail
    refine CH.mono ?_
    rintro e w1 ⟨rfl, rfl⟩
    go_wp2_with fail
    go_ret
    exact ⟨rfl, rfl⟩
def edgesG (st : List GN) (n : Int) : List EdP := if hasG st n then (st.getD n.toNat gn0).edges else []
def RetEd (w : World) (es : List EdP) (e : Ending) (w' : World) : Prop := ∃ a c, e = .returned (.slice a es.length c) ∧ w'.ownsRow w.heap.size 281 2 (.slice a es.length c) es.length (edsV es) ∧ Below w.heap.size w w'
theorem retEd_own {w w' : World} {a : Option Addr} {c n : Nat} {ys : List EdP} (hn : ys.length = n) (hh : w'.ownsRow w.heap.size 281 2 (.slice a n c) n (edsV ys)) (hb : Below w.heap.size w w') (v : Value) (hv : v = .slice a n c) : RetEd w ys (.returned v) w' := by
  subst hn hv
  exact ⟨a, c, rfl, hh, hb⟩
theorem cloneEd_any (a : Option Addr) (n cap : Nat) (l : List EdP) (w : World) (hh : HoldsEd w a n l) (hnil : a = none → n = 0 ∧ cap = 0) (hn : n ≤ 50000) :
    Calls Tryz.prog 235 #[.slice a n cap] w (RetEd w l) := by
  obtain ⟨i0, hi, hz0, hz1, hz2⟩ := info_parts edgeG_info
  have hll := hh.len
  cases a with
  | none =>
    obtain ⟨rfl, rfl⟩ := hnil rfl
    obtain rfl : l = [] := List.eq_nil_of_length_eq_zero hll
    have he := fun w => Lib.run_eql_slice_nil (P := Tryz.prog) w 277 281 none 0 0 0 0 Tryz.underlying277
    go_enter Tryz.func235, Tryz.ntmps235
    go_wp2_with fail
    go_ret
    exact retEd_own rfl (World.ownsRow_nil _ _ _ _) (Below.refl _ _) _ rfl
  | some ad =>
    have hnews : ∀ ad', (some ad : Option Addr) = some ad' → ∀ j u, (edsV l)[j]? = some u → (w.alloc (.cells #[] 281)).cell? (ad'.add j) = some u :=
      HoldsEd.cellsAny hh (World.grownBy_alloc w _ none)
    have HN := Lib.hid hnews
    have hown : (w.alloc (.cells #[] 281)).ownsRow w.heap.size 281 2 (.slice (some ⟨w.heap.size, 0, none⟩) 0 0) 0 [] := World.ownsRow_lit w #[] 0 (Nat.le_refl _) (by unfold maxLen; omega) rfl
    have HO := Lib.hid hown
    clear hnews hown hh
    have he := fun w => Lib.run_eql_slice_nil (P := Tryz.prog) w 277 281 (some ad) n cap 0 0 Tryz.underlying277
    go_enter Tryz.func235, Tryz.ntmps235
    go_wp2_with (at_builtin; refine wpList_append_any rfl (.tmp 5) (.tmp 6) 277 rfl w.heap.size 281 i0 _ 2 16 Tryz.underlying277 hi hz0 hz1 hz2 rfl (by decide) _ 0 [] rfl HO.out _ n cap (edsV l) rfl (some_none _) (by rw [edsV_len, hll]) HN.out (edsV_one _) (by unfold maxLen; omega) (by omega) (by simp) ?_; intro a3 c3 w3 hown3 hb3 hnil3)
    rw [Nat.zero_add, List.nil_append] at hown3
    go_ret
    exact retEd_own hll hown3 ((below_one w (.cells #[] 281)).trans (hb3)) _ (by simp)
theorem gEdges_any (g : Nat) (st : List GN) (S : Nat → Prop) (n : Int) (w : World) (h : GAt g st w S) (hE : ∀ x ∈ st, x.edges.length ≤ 1000) : Calls Tryz.prog 202 #[.pointer (some ⟨g, 0, none⟩), .int .i64 n] w (RetEd w (edgesG st n)) := by
  have CH := gHas_any g st S n w h
  unfold edgesG
  cases hb : hasG st n with
  | false =>
    rw [hb] at CH
    rw [if_neg (by simp)]
    go_enter Tryz.func202, Tryz.ntmps202
    go_wp2_with fail
    refine CH.mono ?_
    rintro e w1 ⟨rfl, rfl⟩
    go_wp2_with fail
    go_ret
    exact retEd_own rfl (World.ownsRow_nil _ _ _ _) (Below.refl _ _) _ rfl
  | true =>
    rw [hb] at CH
    rw [if_pos rfl]
    obtain ⟨k, rfl, hk⟩ := hasG_yes hb
    obtain ⟨q, nc, ea, ec, c0, c1, c2, c3, c4⟩ := h.node hk
    have i1 : (0 : Int) ≤ (k : Int) := by omega
    have i2 : (k : Int) < (st.length : Int) := by omega
    have e : (k : Int).toNat = k := by omega
    have hx : st.getD k gn0 ∈ st := by rw [List.getD_eq_getElem?_getD, List.getElem?_eq_getElem hk]; simp
    have hle := hE _ hx
    rw [e]
    obtain ⟨es, hes⟩ : ∃ b, (st.getD k gn0).edges = b := ⟨_, rfl⟩
    rw [hes] at c2 c3 c4 hle ⊢
    have CC := Lib.hid (cloneEd_any ea es.length ec es w c3 c4 (by omega))
    clear e c1 hes hx c3 c4
    go_enter Tryz.func202, Tryz.ntmps202
    go_wp2_with fail
    refine CH.mono ?_
    rintro e w1 ⟨rfl, rfl⟩
    go_wp2_with fail
    refine CC.out.mono ?_
    rintro e w2 ⟨a, c, rfl, ho, hb2⟩
    go_wp2_with fail
    go_ret
    exact ⟨a, c, rfl, ho, hb2⟩
end Go.Proofs.YtgnaiahnednllaaGreat
namespace Go.Proofs.YtgnaiahnednllaaGreat
open Go.RowKit
set_option linter.unusedVariables false
set_option maxRecDepth 20000
def edB (e : EdP) : List Nat := Cod.bytesOf (bitsV e.r) 4 ++ Cod.bytesOf (bitsV e.dst) 2
def finN (x : GN) : Nat := if x.final then 1 else 0
def ndB (x : GN) : List Nat := [finN x] ++ (Cod.bytesOf x.edges.length 2 ++ x.edges.flatMap edB)
def bodyB (st : List GN) : List Nat := [73, 78, 75, 49] ++ (Cod.bytesOf st.length 2 ++ st.flatMap ndB)
def imgB (st : List GN) : List Nat := sealB (bodyB st)
theorem edB_lt (e : EdP) : ∀ b ∈ edB e, b < 256 := fun b hb => by
  rcases List.mem_append.1 hb with hb | hb <;> exact Cod.bytesOf_lt _ _ b hb
theorem ndB_lt (x : GN) : ∀ b ∈ ndB x, b < 256 := fun b hb => by
  rcases List.mem_append.1 hb with hb | hb
  · have h1 : b = finN x := by simpa using hb
    rw [h1]; unfold finN; split <;> decide
  · rcases List.mem_append.1 hb with hb | hb
    · exact Cod.bytesOf_lt _ _ b hb
    · obtain ⟨e, -, he⟩ := List.mem_flatMap.1 hb
      exact edB_lt e b he
theorem bodyB_lt (st : List GN) : ∀ b ∈ bodyB st, b < 256 := fun b hb => by
  rcases List.mem_append.1 hb with hb | hb
  · simp at hb; omega
  · rcases List.mem_append.1 hb with hb | hb
    · exact Cod.bytesOf_lt _ _ b hb
    · obtain ⟨e, -, he⟩ := List.mem_flatMap.1 hb
      exact ndB_lt e b he
/-- an image, and no error -/
def RetE (w : World) (bs : List Nat) (e : Ending) (w' : World) : Prop :=
  ∃ a c, e = .returned (.tuple #[.slice a bs.length c, .int .i64 0]) ∧ w'.ownsRow w.heap.size 5 1 (.slice a bs.length c) bs.length (bytesV bs) ∧ Below w.heap.size w w' ∧ (a = none → bs.length = 0 ∧ c = 0)
theorem base_less9 {w : World} {B B' : Nat} {e : TypeId} {size n : Nat} {v : Value} {xs : List Value} (h : w.ownsRow B e size v n xs) (hB : B' ≤ B) : w.ownsRow B' e size v n xs := by
  obtain ⟨h1, h2⟩ := h
  refine ⟨h1, ?_⟩
  rcases h2 with h | ⟨g, cap, cur, hv, hge, r⟩
  · exact .inl h
  · exact .inr ⟨g, cap, cur, hv, Nat.le_trans hB hge, r⟩
theorem put9 (v : Int) (s : Nat) (hs : s ≤ 8) (w : World) : Calls Tryz.prog 200 #[.slice none 0 0, .int .i64 v, .int .i64 (s : Int)] w fun e w' => ∃ a c, e = .returned (.slice a s c) ∧ HoldsV w' a s (bytesV (Cod.bytesOf (bitsV v) s)) ∧ (a = none → s = 0 ∧ c = 0) ∧ Below w.heap.size w w' := by
  refine (put_any none 0 0 [] v (s : Int) w (holdsB_nil _ _) (fun _ => ⟨rfl, rfl⟩) (by omega)).mono ?_
  rintro e w' ⟨a, c, rfl, h1, h2, h3⟩
  have e1 : sizeV (s : Int) = s := by unfold sizeV; omega
  rw [e1, List.nil_append] at h1 h3 ⊢
  rw [Cod.bytesOf_length] at h1 h3 ⊢
  exact ⟨a, c, rfl, owns_holds h1, (owns_none h1).1, h2⟩
theorem getD_edges {st : List GN} {j : Nat} (h : j < st.length) : st.drop j = st.getD j gn0 :: st.drop (j + 1) := by
  rw [List.drop_eq_getElem_cons h, List.getD_eq_getElem?_getD, List.getElem?_eq_getElem h]; rfl
theorem drop_ed9 {es : List EdP} {j : Nat} (h : j < es.length) : es.drop j = es.getD j ed0 :: es.drop (j + 1) := by
  rw [List.drop_eq_getElem_cons h, List.getD_eq_getElem?_getD, List.getElem?_eq_getElem h]; rfl
/-- bytes that grow, beside edges that stay -/
structure OBK (w0 : World) (bs : List Nat) (a : Option Addr) (c : Nat) (ea : Option Addr) (es : List EdP) (w : World) : Prop where
  o : OB w0 bs a c w
  e : HoldsEd w ea es.length es
  d : ∀ g eb eo, a = some ⟨g, 0, none⟩ → ea = some ⟨eb, eo, none⟩ → 0 < es.length → g ≠ eb
theorem OBK.more {w0 w w' : World} {bs : List Nat} {a : Option Addr} {c : Nat} {ea : Option Addr} {es : List EdP} (h : OBK w0 bs a c ea es w) (hb : Below w.heap.size w w') : OBK w0 bs a c ea es w' := ⟨h.o.more hb, h.e.below hb, h.d⟩
theorem own_at9 {w : World} {B : Nat} {e : TypeId} {size n c k : Nat} {a : Option Addr} {xs : List Value} (h : w.ownsRow B e size (.slice a n c) n xs) (hk : (Value.slice a n c).ownBlock = some k) : a = some ⟨k, 0, none⟩ := by
  rcases Joins.ownsRow_forms h with ⟨e1, _⟩ | ⟨g, cap, e1⟩
  · injection e1 with e2; subst e2; cases hk
  · injection e1 with e2; subst e2; injection hk with hk; subst hk; rfl
theorem OBK.grow {w0 w w8 : World} {bs : List Nat} {a : Option Addr} {c g c' N : Nat} {ea : Option Addr} {es : List EdP} (h : OBK w0 bs a c ea es w) (bs' : List Nat) (hlen : bs'.length = N) (hown : w8.ownsRow w0.heap.size 5 1 (.slice (some ⟨g, 0, none⟩) N c') N (bytesV bs')) (hg : w.grownBy w8 (Value.slice a bs.length c).ownBlock) (hat : (Value.slice a bs.length c).ownBlock = some g ∨ g = w.heap.size) : OBK w0 bs' (some ⟨g, 0, none⟩) c' ea es w8 := by
  subst hlen
  have lt : ∀ eb eo, ea = some ⟨eb, eo, none⟩ → 0 < es.length → eb < w.heap.size := fun eb eo e1 h0 => by
    obtain ⟨b, o, e2, hc⟩ := h.e.at h0
    rw [e1] at e2; injection e2 with e2; injection e2 with e2; subst e2
    exact lt_of_cell (hc 0 h0).1
  refine ⟨⟨hown, h.o.2.grown hg h.o.2.size (fun k e => (h.o.1.lt k e).1)⟩, ?_, fun g2 eb eo e1 e2 h0 => ?_⟩
  · rcases Nat.eq_zero_or_pos es.length with h0 | h0
    · exact ⟨rfl, fun h1 => by omega⟩
    · exact holdsEd_blocks h.e fun b o e1 => hg.block b (lt b o e1 h0) fun e2 => h.d b b o (own_at9 h.o.1 e2.symm) e1 h0 rfl
  · injection e1 with e1; injection e1 with e1; subst e1
    rcases hat with e3 | e3
    · exact h.d _ eb eo (own_at9 h.o.1 e3) e2 h0
    · have := lt eb eo e2 h0; omega
theorem putB9 (v : Int) (s : Nat) (hs : 0 < s ∧ s ≤ 8) (w : World) : Calls Tryz.prog 200 #[.slice none 0 0, .int .i64 v, .int .i64 (s : Int)] w fun e w' => ∃ q c, e = .returned (.slice (some ⟨q, 0, none⟩) s c) ∧ (∀ (j : Nat) u, (bytesV (Cod.bytesOf (bitsV v) s))[j]? = some u → w'.cell? ((⟨q, 0, none⟩ : Addr).add j) = some u) ∧ Below w.heap.size w w' := by
  refine (put_any none 0 0 [] v (s : Int) w (holdsB_nil _ _) (fun _ => ⟨rfl, rfl⟩) (by omega)).mono ?_
  rintro e w' ⟨a, c, rfl, h1, h2, h3⟩
  have e1 : sizeV (s : Int) = s := by unfold sizeV; omega
  rw [e1, List.nil_append] at h1 h3 ⊢
  rw [Cod.bytesOf_length] at h1 h3 ⊢
  obtain ⟨q, cap, e2⟩ := Joins.ownsRow_form h1 hs.1
  injection e2 with e2
  subst e2
  exact ⟨q, c, rfl, (owns_holds h1).cells (World.grownBy.refl _ _) _ rfl, h2⟩
set_option maxHeartbeats 6400000 in
set_option maxRecDepth 100000 in
theorem encode_any (g : Nat) (st : List GN) (S : Nat → Prop) (w : World) (h : GAt g st w S) (hE : ∀ x ∈ st, x.edges.length ≤ 1000) (hR : ∀ x ∈ st, ∀ e ∈ x.edges, 0 ≤ e.r ∧ e.r ≤ 2147483647) (hS : (bodyB st).length ≤ 524000) (hL : st.length ≤ 60000) :
    Calls Tryz.prog 143 #[.pointer (some ⟨g, 0, none⟩)] w (RetE w (imgB st)) := by
  obtain ⟨i0, hi, hz0, hz1, hz2⟩ := info_parts u8_info
  have HG := Lib.hid h; have HE := Lib.hid hE; have HR := Lib.hid hR; have HS := Lib.hid hS
  obtain ⟨L, hLL⟩ : ∃ L, st.length = L := ⟨_, rfl⟩
  have HL := Lib.hid hLL
  rw [hLL] at hL
  have CN := Lib.hid (fun w' (hb : Below w.heap.size w w') => (show Calls Tryz.prog 201 #[.pointer (some ⟨g, 0, none⟩)] w' fun e w'' => e = .returned (.int .i64 L) ∧ w' = w'' from HL.out ▸ gNodes_any g st S w' ((gAt_ok g st).below HG.out hb)))
  clear h hE hR hS hLL
  go_enter Tryz.func143, Tryz.ntmps143
  go_wp2_with fail
  refine (magic_any w).mono ?_
  rintro e w1 ⟨a1, c1, rfl, o1, b1, -⟩
  have O1 := Lib.hid (show w1.ownsRow w.heap.size 5 1 (.slice a1 4 c1) 4 (bytesV [73, 78, 75, 49]) from o1); have B1 := Lib.hid b1
  clear o1 b1
  go_wp2_with fail
  with_reducible refine (CN.out w1 B1.out).mono ?_
  rintro e w2 ⟨rfl, rfl⟩
  go_wp2_with fail
  refine (put9 (L : Int) 2 (by omega) w1).mono ?_
  rintro e w2 ⟨a2, c2, rfl, v2, n2, b2⟩
  rw [bits_nat9 L (by omega)] at v2
  have V2 := Lib.hid v2; have N2 := Lib.hid n2; have O2 := Lib.hid (owns_below O1.out b2); have B2 := Lib.hid (B1.out.trans (b2.mono B1.out.size))
  clear v2 n2 b2
  go_wp2_with (at_builtin; refine wpList_append_any rfl (.tmp 12) (.tmp 15) 136 rfl w.heap.size 5 i0 (.int .u8 0) 1 1 Tryz.underlying136 hi hz0 hz1 hz2 rfl (by decide) _ 4 (bytesV [73, 78, 75, 49]) rfl O2.out a2 2 c2 (bytesV (Cod.bytesOf L 2)) rfl N2.out (by rw [bytesV_length, Cod.bytesOf_length]) (V2.out.cells (World.grownBy.refl _ _)) (bytesV_one _) (by unfold maxLen; omega) (by omega) B2.out.size ?_; intro a3 c3 w3 hown3 hb3 hnil3; rw [bytesV_append] at hown3)
  have O3 := Lib.hid (show OB w ([73, 78, 75, 49] ++ Cod.bytesOf L 2) a3 c3 w3 from ⟨by rw [List.length_append, Cod.bytesOf_length]; exact hown3, B2.out.trans (hb3.mono (Nat.le_refl _))⟩)
  have CN3 := Lib.hid (CN.out w3 O3.out.2)
  clear hown3 hb3 hnil3 O1 B1 V2 N2 O2 B2 CN
  go_wp2_with fail
  with_reducible refine CN3.out.mono ?_
  rintro e w4 ⟨rfl, rfl⟩
  go_wp2_with fail
  go_loopw [4, 19] (fun bv iv wr => ∃ (j : Nat) (bs : List Nat) (ba : Option Addr) (bc : Nat), j ≤ L ∧ bv = .slice ba bs.length bc ∧ iv = .int .i64 j ∧ Hid (bs ++ (st.drop j).flatMap ndB = bodyB st) ∧ Hid (OB w bs ba bc wr)) (fun _ iv _ => L - (intOf iv).toNat)
  case atStart => exact ⟨0, [73, 78, 75, 49] ++ Cod.bytesOf L 2, a3, c3, by omega, by rw [List.length_append, Cod.bytesOf_length]; rfl, rfl, Lib.hid (by rw [List.drop_zero, List.append_assoc]; unfold bodyB; rw [HL.out]), O3⟩
  case round =>
    clear O3 CN3
    obtain ⟨j, bs, ba, bc, hj, rfl, rfl, hB, hO⟩ := hrel
    have hbl : bs.length ≤ 524000 := by
      have h1 := congrArg List.length hB.out
      rw [List.length_append] at h1
      have := HS.out; omega
    by_cases hlt : j < L
    · obtain ⟨x, hx⟩ : ∃ x, st.getD j gn0 = x := ⟨_, rfl⟩
      have hmem : x ∈ st := by
        have := HL.out
        rw [← hx, List.getD_eq_getElem?_getD, List.getElem?_eq_getElem (show j < st.length by omega)]
        exact List.getElem_mem _
      have DJ := Lib.hid (show st.drop j = x :: st.drop (j + 1) from by rw [← hx]; exact getD_edges (by rw [HL.out]; exact hlt))
      have ER := Lib.hid (HR.out x hmem)
      have e1 : hasG st (j : Int) = true := by unfold hasG; rw [HL.out]; exact decide_eq_true (by omega)
      have CE := Lib.hid (gEdges_any g st S (j : Int) wr ((gAt_ok g st).below HG.out hO.out.2) HE.out)
      have CF := Lib.hid (fun w' (hb : Below w.heap.size w w') => (show Calls Tryz.prog 204 #[.pointer (some ⟨g, 0, none⟩), .int .i64 (j : Int)] w' fun e w'' => e = .returned (.bool x.final) ∧ w' = w'' from by
        have h1 := gFinal_any g st S (j : Int) w' ((gAt_ok g st).below HG.out hb)
        rw [show finG st (j : Int) = x.final by unfold finG; rw [e1, Bool.true_and, Int.toNat_natCast, hx]] at h1
        exact h1))
      rw [show edgesG st (j : Int) = x.edges by unfold edgesG; rw [if_pos e1, Int.toNat_natCast, hx]] at CE
      have hml := HE.out x hmem
      obtain ⟨m, hm⟩ : ∃ m, x.edges.length = m := ⟨_, rfl⟩
      have HM := Lib.hid hm
      rw [hm] at hml
      have n1 : (0 : Int) ≤ (j : Int) := by omega
      have n2 : (j : Int) < (L : Int) := by omega
      clear hx hmem e1 hm
      go_wp2_with fail
      with_reducible refine CE.out.mono ?_
      rintro e w4 ⟨ea, ec, rfl, ho, hb⟩
      have K4 := Lib.hid (show OBK w bs ba bc ea x.edges w4 from ⟨hO.out.more hb, HoldsEd.own ho, fun g1 eb eo e1 e2 h0 => by
        have h1 := (hO.out.1.lt g1 (by rw [e1]; rfl)).2
        have h2 := (ho.lt eb (by rw [e2]; rfl)).1
        omega⟩)
      rw [HM.out]
      clear ho hb CE
      go_wp2_with fail
      have CF4 := Lib.hid (CF.out w4 K4.out.o.2)
      with_reducible refine CF4.out.mono ?_
      rintro e w5 ⟨rfl, rfl⟩
      go_wp2_with fail
      refine (final_byte x.final w4).mono ?_
      rintro e w5 ⟨rfl, rfl⟩
      have FB := Lib.hid (show (if x.final then 1 else 0 : Nat) = finN x from rfl)
      rw [FB.out]
      have K4a := Lib.hid (K4.out.more (below_one w4 (.cells #[.int .u8 (finN x : Int)] 5)))
      obtain ⟨fb, hfb⟩ : ∃ fb, finN x = fb := ⟨_, rfl⟩
      have HFB := Lib.hid hfb
      rw [hfb] at K4a ⊢
      have O4a := Lib.hid K4a.out.o.1
      have Z4 := K4.out.o.2.size
      clear hfb FB
      go_wp2_with (at_builtin; refine wpList_append_lies _ rfl (.tmp 25) (.tmp 30) 136 rfl w.heap.size 5 i0 (.int .u8 0) 1 1 Tryz.underlying136 hi hz0 hz1 hz2 rfl (by decide) (.slice ba bs.length bc) bs.length (bytesV bs) (by rfl) O4a.out ⟨w4.heap.size, 0, none⟩ 1 1 [.int .u8 (fb : Int)] (by rfl) (by rfl) (World.news_of_block (cs := #[.int .u8 (fb : Int)]) (t := 5) (fr := (0, 0)) (heap_alloc_new w4 _)) (by simp [Value.oneCell']) (by decide) (by unfold maxLen; omega) (by omega) (by simp; omega) (w4.heap.size + 1) (by simp) ?_; intro g6 c6 w6 hown6 hgrow6 hat6 hlt6)
      have K6 := Lib.hid (K4a.out.grow (bs ++ [fb]) (N := bs.length + 1) (by simp) (by rw [← bytesV_append]; exact hown6) hgrow6 (hat6.imp id (fun e => by rw [e]; simp)))
      clear hown6 hgrow6 hat6 hlt6 K4a O4a
      refine (putB9 (m : Int) 2 (by omega) w6).mono ?_
      rintro e w7 ⟨q7, c7, rfl, v7, b7⟩
      rw [bits_nat9 m (by omega)] at v7
      have V7 := Lib.hid v7
      have K7 := Lib.hid (K6.out.more b7)
      have O7 := Lib.hid (show w7.ownsRow w.heap.size 5 1 (.slice (some ⟨g6, 0, none⟩) (bs.length + 1) c6) (bs.length + 1) (bytesV (bs ++ [fb])) from by
        have h1 := K7.out.o.1
        rw [List.length_append] at h1
        exact h1)
      clear v7 b7 K6
      go_wp2_with (at_builtin; refine wpList_append_lies _ rfl (.tmp 32) (.tmp 35) 136 rfl w.heap.size 5 i0 (.int .u8 0) 1 1 Tryz.underlying136 hi hz0 hz1 hz2 rfl (by decide) (.slice (some ⟨g6, 0, none⟩) (bs.length + 1) c6) (bs.length + 1) (bytesV (bs ++ [fb])) (by rfl) O7.out ⟨q7, 0, none⟩ 2 c7 (bytesV (Cod.bytesOf m 2)) (by rfl) (by rfl) V7.out (bytesV_one _) (by decide) (by unfold maxLen; omega) (by omega) K7.out.o.2.size w7.heap.size rfl ?_; intro g8 c8 w8 hown8 hgrow8 hat8 hlt8)
      have K8 := Lib.hid (K7.out.grow (bs ++ [fb] ++ Cod.bytesOf m 2) (N := bs.length + 1 + 2) (by rw [List.length_append, List.length_append, Cod.bytesOf_length]; rfl) (by rw [← bytesV_append]; exact hown8) (by rw [List.length_append]; exact hgrow8) (by rw [List.length_append]; exact hat8))
      have BD := Lib.hid (show (bs ++ [fb] ++ Cod.bytesOf m 2) ++ ((x.edges.drop 0).flatMap edB ++ (st.drop (j + 1)).flatMap ndB) = bodyB st from by
        rw [← hB.out, DJ.out, List.drop_zero, List.flatMap_cons]
        unfold ndB
        rw [HFB.out, HM.out]
        simp only [List.append_assoc])
      clear hown8 hgrow8 hat8 hlt8 K7 O7 V7 hO hB
      go_wp2_with fail
      go_loopw [4, 39] (fun bv iv wq => ∃ (k : Nat) (cs : List Nat) (ba : Option Addr) (bc : Nat), k ≤ m ∧ bv = .slice ba cs.length bc ∧ iv = .int .i64 k ∧ Hid (cs ++ ((x.edges.drop k).flatMap edB ++ (st.drop (j + 1)).flatMap ndB) = bodyB st) ∧ Hid (OBK w cs ba bc ea x.edges wq)) (fun _ iv _ => m - (intOf iv).toNat)
      case atStart => exact ⟨0, bs ++ [fb] ++ Cod.bytesOf m 2, _, _, by omega, by rw [List.length_append, List.length_append, Cod.bytesOf_length]; rfl, rfl, BD, K8⟩
      case round =>
        clear K8 BD
        obtain ⟨k, cs, ba, bc, hk, rfl, rfl, hB, hK⟩ := hrel
        rename World => wq
        have hcl : cs.length ≤ 524000 := by
          have h1 := congrArg List.length hB.out
          rw [List.length_append] at h1
          have := HS.out; omega
        by_cases hkm : k < m
        · have hpos : 0 < x.edges.length := by rw [HM.out]; omega
          obtain ⟨eb, eo, rfl, hcc⟩ := hK.out.e.at hpos
          obtain ⟨y0, y1⟩ := hcc k (by rw [HM.out]; exact hkm)
          obtain ⟨y, hy⟩ : ∃ y, x.edges.getD k ed0 = y := ⟨_, rfl⟩
          rw [hy] at y0 y1
          have DK := Lib.hid (show x.edges.drop k = y :: x.edges.drop (k + 1) from by rw [← hy]; exact drop_ed9 (by rw [HM.out]; exact hkm))
          obtain ⟨yr, yr2⟩ := ER.out y (by rw [← hy, List.getD_eq_getElem?_getD, List.getElem?_eq_getElem (show k < x.edges.length by rw [HM.out]; exact hkm)]; exact List.getElem_mem _)
          have n3 : (0 : Int) ≤ (k : Int) := by omega
          have n4 : (k : Int) < (m : Int) := by omega
          have K5 := Lib.hid (hK.out.more (below_one wq (.cells #[.int .i32 y.r, .int .i64 y.dst] 281)))
          have X5 := Lib.hid (show (wq.alloc (.cells #[.int .i32 y.r, .int .i64 y.dst] 281)).cell? ⟨wq.heap.size, 1, none⟩ = some (.int .i64 y.dst) from by rw [cell_alloc rfl]; rfl)
          have XN := Lib.hid (show some wq.heap.size ≠ (Value.slice ba cs.length bc).ownBlock from fun e => by
            have h1 := (hK.out.o.1.lt wq.heap.size e.symm).2
            omega)
          clear hcc hy
          go_wp2_with fail
          refine (putB9 y.r 4 (by omega) _).mono ?_
          rintro e w5 ⟨q5, c5, rfl, v5, b5⟩
          have V5 := Lib.hid v5
          have K5b := Lib.hid (K5.out.more b5)
          have O5 := Lib.hid K5b.out.o.1
          have X6 := Lib.hid ((b5.cell (p := ⟨wq.heap.size, 1, none⟩) (lt_of_cell X5.out)).trans X5.out)
          have Z5 := K5b.out.o.2.size
          clear v5 b5 K5
          go_wp2_with (at_builtin; refine wpList_append_lies _ rfl (.tmp 43) (.tmp 47) 136 rfl w.heap.size 5 i0 (.int .u8 0) 1 1 Tryz.underlying136 hi hz0 hz1 hz2 rfl (by decide) (.slice ba cs.length bc) cs.length (bytesV cs) (by rfl) O5.out ⟨q5, 0, none⟩ 4 c5 (bytesV (Cod.bytesOf (bitsV y.r) 4)) (by rfl) (by rfl) V5.out (bytesV_one _) (by decide) (by unfold maxLen; omega) (by omega) Z5 w5.heap.size rfl ?_; intro g6 c6 w6 hown6 hgrow6 hat6 hlt6; have x6 : w6.cell? ⟨wq.heap.size, 1, none⟩ = some (.int .i64 y.dst) := (hgrow6.cell_far ⟨wq.heap.size, 1, none⟩ (lt_of_cell X6.out) XN.out).trans X6.out)
          have K6 := Lib.hid (K5b.out.grow (cs ++ Cod.bytesOf (bitsV y.r) 4) (N := cs.length + 4) (by rw [List.length_append, Cod.bytesOf_length]) (by rw [← bytesV_append]; exact hown6) hgrow6 hat6)
          clear hown6 hgrow6 hat6 hlt6 K5b O5 V5
          refine (putB9 y.dst 2 (by omega) w6).mono ?_
          rintro e w7 ⟨q7, c7, rfl, v7, b7⟩
          have V7 := Lib.hid v7
          have K7 := Lib.hid (K6.out.more b7)
          have O7 := Lib.hid (show w7.ownsRow w.heap.size 5 1 (.slice (some ⟨g6, 0, none⟩) (cs.length + 4) c6) (cs.length + 4) (bytesV (cs ++ Cod.bytesOf (bitsV y.r) 4)) from by
            have h1 := K7.out.o.1
            rw [List.length_append, Cod.bytesOf_length] at h1
            exact h1)
          clear v7 b7 K6 x6
          go_wp2_with (at_builtin; refine wpList_append_lies _ rfl (.tmp 49) (.tmp 52) 136 rfl w.heap.size 5 i0 (.int .u8 0) 1 1 Tryz.underlying136 hi hz0 hz1 hz2 rfl (by decide) (.slice (some ⟨g6, 0, none⟩) (cs.length + 4) c6) (cs.length + 4) (bytesV (cs ++ Cod.bytesOf (bitsV y.r) 4)) (by rfl) O7.out ⟨q7, 0, none⟩ 2 c7 (bytesV (Cod.bytesOf (bitsV y.dst) 2)) (by rfl) (by rfl) V7.out (bytesV_one _) (by decide) (by unfold maxLen; omega) (by omega) K7.out.o.2.size w7.heap.size rfl ?_; intro g8 c8 w8 hown8 hgrow8 hat8 hlt8)
          have K8 := Lib.hid (K7.out.grow (cs ++ Cod.bytesOf (bitsV y.r) 4 ++ Cod.bytesOf (bitsV y.dst) 2) (N := cs.length + 4 + 2) (by rw [List.length_append, List.length_append, Cod.bytesOf_length, Cod.bytesOf_length]) (by rw [← bytesV_append]; exact hown8) (by rw [List.length_append, Cod.bytesOf_length]; exact hgrow8) (by rw [List.length_append, Cod.bytesOf_length]; exact hat8))
          have BD := Lib.hid (show (cs ++ Cod.bytesOf (bitsV y.r) 4 ++ Cod.bytesOf (bitsV y.dst) 2) ++ ((x.edges.drop (k + 1)).flatMap edB ++ (st.drop (j + 1)).flatMap ndB) = bodyB st from by
            rw [← hB.out, DK.out, List.flatMap_cons]
            unfold edB
            simp only [List.append_assoc])
          clear hown8 hgrow8 hat8 hlt8 K7 O7 V7
          go_roundw
          case rel => exact ⟨k + 1, cs ++ Cod.bytesOf (bitsV y.r) 4 ++ Cod.bytesOf (bitsV y.dst) 2, _, _, by omega, by rw [List.length_append, List.length_append, Cod.bytesOf_length, Cod.bytesOf_length], by go_num, BD, K8⟩
          case measure => simp [intOf] <;> omega
        · obtain rfl : k = m := by omega
          have BE := Lib.hid (show cs ++ (st.drop (j + 1)).flatMap ndB = bodyB st from by
            rw [← hB.out, show x.edges.drop k = [] from List.drop_of_length_le (by rw [HM.out]; exact Nat.le_refl _)]; rfl)
          have OE := Lib.hid hK.out.o
          clear hB hK
          go_wp2_with fail
          go_roundw
          case rel => exact ⟨j + 1, cs, ba, bc, by omega, rfl, by go_num, BE, OE⟩
          case measure => simp [intOf] <;> omega
    · obtain rfl : j = L := by omega
      have BE := Lib.hid (show bs = bodyB st from by
        have h1 := hB.out
        rw [List.drop_of_length_le (by rw [HL.out]; omega)] at h1
        simpa using h1)
      have OE := hO.out
      have CS := Lib.hid (wSeal_any ba bs.length bc bs wr (holdsB_of_values (owns_holds OE.1) (by rw [BE.out]; exact bodyB_lt st)) (owns_none OE.1).1 (by omega))
      have IM := Lib.hid (show sealB bs = imgB st from by rw [BE.out]; rfl)
      have WB := Lib.hid OE.2
      clear OE hO hB BE
      go_wp2_with fail
      with_reducible refine CS.out.mono ?_
      rintro e w5 ⟨a5, c5, rfl, h1, h2, h3⟩
      have F := Lib.hid (show RetE w (imgB st) (.returned (.tuple #[.slice a5 (sealB bs).length c5, .int .i64 0])) w5 from by
        rw [IM.out] at h1 h3 ⊢
        exact ⟨a5, c5, rfl, base_less9 h1 WB.out.size, WB.out.trans (h2.mono WB.out.size), h3⟩)
      clear h1 h2 h3 CS
      go_wp2_with fail
      go_ret2
      exact F.out
end Go.Proofs.YtgnaiahnednllaaGreat
namespace Go.Proofs.YtgnaiahnednllaaGreat
open Go.RowKit
set_option linter.unusedVariables false
set_option maxRecDepth 20000
/-- an image on a disk: the right bytes, and those that are stored, with where they lie -/
structure DI where
  oa : Option Addr
  ob : List Nat
  oc : Nat
  sa : Option Addr
  sb : List Nat
  sc : Nat
def diV (x : DI) : Value := .agg #[.slice x.oa x.ob.length x.oc, .slice x.sa x.sb.length x.sc]
def diZ : Value := .agg #[.slice none 0 0, .slice none 0 0]
theorem zeroDi (w : World) : (zeroValue 138).run Tryz.prog w = .ok diZ w := by kernel_rfl
theorem mapTd : MapT 156 138 diZ := ⟨Tryz.underlying156, zeroDi⟩
/-- the bytes of an image, as they lie -/
structure ImgK (w : World) (i : DI) : Prop where
  o : HoldsB w i.oa i.ob.length i.ob
  s : HoldsB w i.sa i.sb.length i.sb
  oc : i.ob.length ≤ i.oc
  sc : i.sb.length ≤ i.sc
  lo : 10 ≤ i.ob.length
  hi : i.ob.length ≤ 524004
  eq : i.sb.length = i.ob.length
theorem ImgK.below {w w' : World} {i : DI} (h : ImgK w i) (hb : Below w.heap.size w w') : ImgK w' i := ⟨h.o.below hb, h.s.below hb, h.oc, h.sc, h.lo, h.hi, h.eq⟩
theorem ImgK.turn {w w' : World} {i : DI} {F : Nat → Prop} (h : ImgK w i) (t : Turn F w w') (h1 : ∀ q o, i.oa = some ⟨q, o, none⟩ → ¬ F q) (h2 : ∀ q o, i.sa = some ⟨q, o, none⟩ → ¬ F q) : ImgK w' i := ⟨holdsB_turn h.o t h1, holdsB_turn h.s t h2, h.oc, h.sc, h.lo, h.hi, h.eq⟩
def apartD (d M : Nat) (a : Option Addr) : Prop := ∀ q o, a = some ⟨q, o, none⟩ → q ≠ d ∧ q ≠ M
def fV (f : Int → Option DI) : Int → Option Value := fun x => (f x).map diV
/-- a disk in block d, its map in M, all of it from B on -/
structure DAt (B d M n : Nat) (f : Int → Option DI) (life : Nat) (w : World) : Prop where
  c0 : w.cell? ⟨d, 0, none⟩ = some (.map (some M))
  c1 : w.cell? ⟨d, 1, none⟩ = some (.int .i64 (life : Int))
  fz : ∀ i, w.frozen? ⟨d, i, none⟩ = false
  dM : d ≠ M
  m : MapV w M n (fV f)
  im : ∀ x i, f x = some i → ImgK w i
  ap : ∀ x i, f x = some i → apartD d M i.oa ∧ apartD d M i.sa
  dB : B ≤ d
  MB : B ≤ M
  n1 : n ≤ 1000
theorem DAt.below {B d M n life : Nat} {f : Int → Option DI} {w w' : World} (h : DAt B d M n f life w) (hb : Below w.heap.size w w') : DAt B d M n f life w' := by
  have ld := lt_of_cell h.c0
  exact ⟨(hb.cell (p := ⟨d, 0, none⟩) ld).trans h.c0, (hb.cell (p := ⟨d, 1, none⟩) ld).trans h.c1, fun i => (hb.frozen (p := ⟨d, i, none⟩) ld).trans (h.fz i), h.dM, h.m.below hb, fun x i e => (h.im x i e).below hb, h.ap, h.dB, h.MB, h.n1⟩
/-- the next life -/
theorem DAt.born {B d M n life : Nat} {f : Int → Option DI} {w : World} (h : DAt B d M n f life w) : DAt B d M n f (life + 1) (w.setCell ⟨d, 1, none⟩ (.int .i64 ((life + 1 : Nat) : Int))) := by
  have t : Turn (fun k => k = d) w (w.setCell ⟨d, 1, none⟩ (.int .i64 ((life + 1 : Nat) : Int))) := Turn.setCell rfl
  exact ⟨(cset_ne (by omega)).trans h.c0, cset_at h.c1, fun i => fset_any.trans (h.fz i), h.dM, h.m.setCell (fun e => h.dM e.symm), fun x i e => (h.im x i e).turn t (fun q o e2 => ((h.ap x i e).1 q o e2).1) (fun q o e2 => ((h.ap x i e).2 q o e2).1), h.ap, h.dB, h.MB, h.n1⟩
/-- an image more, or another one -/
def fput (f : Int → Option DI) (x : Int) (i : DI) : Int → Option DI := fun a => if a = x then some i else f a
theorem fV_put (f : Int → Option DI) (x : Int) (i : DI) : vset (fV f) x (some (diV i)) = fV (fput f x i) := by
  funext a
  unfold vset fV fput
  by_cases h : a = x <;> simp [h]
theorem DAt.put {B d M n n' life : Nat} {f : Int → Option DI} {x : Int} {i : DI} {w w' : World} (h : DAt B d M n f life w) (hi : ImgK w i) (ha : apartD d M i.oa ∧ apartD d M i.sa) (m : MapV w' M n' (vset (fV f) x (some (diV i)))) (t : w.mapTurned w' M) (hn : n' ≤ 1000) : DAt B d M n' (fput f x i) life w' := by
  have T := TurnV.of_mapTurned (F := fun k => k = M) t rfl
  have ld := lt_of_cell h.c0
  refine ⟨(T.cell ld h.dM).trans h.c0, (T.cell ld h.dM).trans h.c1, fun j => (T.frozen ld h.dM).trans (h.fz j), h.dM, by rw [← fV_put]; exact m, fun z j e => ?_, fun z j e => ?_, h.dB, h.MB, hn⟩
  · unfold fput at e
    split at e
    · injection e with e; subst e
      exact hi.turn T (fun q o e2 => (ha.1 q o e2).2) (fun q o e2 => (ha.2 q o e2).2)
    · exact (h.im z j e).turn T (fun q o e2 => ((h.ap z j e).1 q o e2).2) (fun q o e2 => ((h.ap z j e).2 q o e2).2)
  · unfold fput at e
    split at e
    · injection e with e; subst e
      exact ha
    · exact h.ap z j e
set_option maxHeartbeats 1600000 in
theorem dfind_yes (d : Nat) (x : Int) (i : DI) {B M n life : Nat} {f : Int → Option DI} (w : World) (h : DAt B d M n f life w) (hx : wfI x) (hf : f x = some i) :
    Calls Tryz.prog 72 #[.pointer (some ⟨d, 0, none⟩), .int .i64 x] w fun e w' => e = .returned (.tuple #[.agg #[.slice i.oa i.ob.length i.oc, .slice i.sa i.sb.length i.sc], .int .i64 0]) ∧ Below w.heap.size w w' := by
  have hb1 := below_one w (.cells #[.slice none 0 0, .slice none 0 0] 138)
  have c0 := (hb1.cell (p := ⟨d, 0, none⟩) (lt_of_cell h.c0)).trans h.c0
  have HM := Lib.hid (h.m.below hb1)
  have e1 : (fV f x).getD diZ = diV i := by unfold fV; rw [hf]; rfl
  have e2 : (fV f x).isSome = true := by unfold fV; rw [hf]; rfl
  have E1 := Lib.hid e1; have E2 := Lib.hid e2
  obtain ⟨oa, ob, oc, sa, sb, sc⟩ := i
  obtain ⟨no, hno⟩ : ∃ v, ob.length = v := ⟨_, rfl⟩
  obtain ⟨ns, hns⟩ : ∃ v, sb.length = v := ⟨_, rfl⟩
  unfold diV at E1
  simp only [hno, hns] at E1 ⊢
  clear h hb1 e1 e2 hf hno hns
  go_enter Tryz.func72, Tryz.ntmps72
  go_wp2_with (at_lookup; refine wpList_look_mv mapTd rfl (.tmp 15) (.tmp 16) rfl rfl HM.out x rfl hx (.agg #[.slice oa no oc, .slice sa ns sc]) true E1.out E2.out ?_)
  exact bodyPost_ret (v := .tuple #[.agg #[.slice oa no oc, .slice sa ns sc], .int .i64 0]) (by simp [results, go_sem]) rfl ⟨rfl, (by repeat' (first | exact Below.refl _ _ | refine Below.drew ?_ | refine Below.alloc ?_ (by simp <;> omega) _ | refine Below.setCell ?_ (by simp <;> omega) _))⟩
theorem dfind_no (d : Nat) (x : Int) {B M n life : Nat} {f : Int → Option DI} (w : World) (h : DAt B d M n f life w) (hx : wfI x) (hf : f x = none) :
    Calls Tryz.prog 72 #[.pointer (some ⟨d, 0, none⟩), .int .i64 x] w fun e w' => e = .returned (.tuple #[.agg #[.slice none 0 0, .slice none 0 0], .int .i64 4]) ∧ Below w.heap.size w w' := by
  have hb1 := below_one w (.cells #[.slice none 0 0, .slice none 0 0] 138)
  have c0 := (hb1.cell (p := ⟨d, 0, none⟩) (lt_of_cell h.c0)).trans h.c0
  have HM := Lib.hid (h.m.below hb1)
  have E1 := Lib.hid (show (fV f x).getD diZ = .agg #[.slice none 0 0, .slice none 0 0] from by unfold fV; rw [hf]; rfl)
  have E2 := Lib.hid (show (fV f x).isSome = false from by unfold fV; rw [hf]; rfl)
  clear h hb1 hf
  go_enter Tryz.func72, Tryz.ntmps72
  go_wp2_with (at_lookup; refine wpList_look_mv mapTd rfl (.tmp 15) (.tmp 16) rfl rfl HM.out x rfl hx (.agg #[.slice none 0 0, .slice none 0 0]) false E1.out E2.out ?_)
  exact bodyPost_ret (v := .tuple #[.agg #[.slice none 0 0, .slice none 0 0], .int .i64 4]) (by simp [results, go_sem]) rfl ⟨rfl, (by repeat' (first | exact Below.refl _ _ | refine Below.drew ?_ | refine Below.alloc ?_ (by simp <;> omega) _ | refine Below.setCell ?_ (by simp <;> omega) _))⟩
def ReadD (w : World) (bs : List Nat) (e : Ending) (w' : World) : Prop := ∃ a c, e = .returned (.tuple #[.slice a bs.length c, .int .i64 0]) ∧ w'.ownsRow w.heap.size 5 1 (.slice a bs.length c) bs.length (bytesV bs) ∧ bs.length ≤ c ∧ Below w.heap.size w w'
theorem dread_yes (d : Nat) (x : Int) (i : DI) {B M n life : Nat} {f : Int → Option DI} (w : World) (h : DAt B d M n f life w) (hx : wfI x) (hf : f x = some i) :
    Calls Tryz.prog 90 #[.pointer (some ⟨d, 0, none⟩), .int .i64 x] w (ReadD w i.sb) := by
  have CF := Lib.hid (dfind_yes d x i w h hx hf)
  have K := Lib.hid (h.im x i hf)
  have CC := Lib.hid (fun w' (hb : Below w.heap.size w w') => clone_any i.sa i.sb.length i.sc i.sb w' (K.out.s.below hb) (fun e => by
    have h1 := K.out.s.at (by have := K.out.lo; have := K.out.eq; omega)
    obtain ⟨q, o, e2, -⟩ := h1
    rw [e] at e2; cases e2) (by have := K.out.hi; have := K.out.eq; omega))
  obtain ⟨oa, ob, oc, sa, sb, sc⟩ := i
  simp only at CF CC ⊢
  clear h hf
  go_enter Tryz.func90, Tryz.ntmps90
  go_wp2_with fail
  with_reducible refine CF.out.mono ?_
  rintro e w1 ⟨rfl, hb⟩
  have B1 := Lib.hid (hb.trans ((below_one w1 (.cells #[.slice oa ob.length oc, .slice sa sb.length sc] 138)).mono hb.size))
  have C1 := Lib.hid (CC.out _ B1.out)
  clear hb CF CC
  go_wp2_with fail
  with_reducible refine C1.out.mono ?_
  rintro e w2 ⟨a, c, rfl, ho, hb, -⟩
  have F := Lib.hid (show w2.ownsRow w.heap.size 5 1 (.slice a sb.length c) sb.length (bytesV sb) ∧ sb.length ≤ c ∧ Below w.heap.size w w2 from ⟨base_less9 ho B1.out.size, (owns_none ho).2, B1.out.trans (hb.mono B1.out.size)⟩)
  clear ho hb C1
  go_wp2_with fail
  go_ret2
  exact ⟨a, c, rfl, F.out⟩
theorem dread_no (d : Nat) (x : Int) {B M n life : Nat} {f : Int → Option DI} (w : World) (h : DAt B d M n f life w) (hx : wfI x) (hf : f x = none) :
    Calls Tryz.prog 90 #[.pointer (some ⟨d, 0, none⟩), .int .i64 x] w fun e w' => e = .returned (.tuple #[.slice none 0 0, .int .i64 4]) ∧ Below w.heap.size w w' := by
  have CF := Lib.hid (dfind_no d x w h hx hf)
  clear h hf
  go_enter Tryz.func90, Tryz.ntmps90
  go_wp2_with fail
  with_reducible refine CF.out.mono ?_
  rintro e w1 ⟨rfl, hb⟩
  have B1 := Lib.hid (hb.trans ((below_one w1 (.cells #[.slice none 0 0, .slice none 0 0] 138)).mono hb.size))
  clear hb CF
  go_wp2_with fail
  go_ret2
  exact ⟨rfl, B1.out⟩
theorem dlife_nil (w : World) : Calls Tryz.prog 70 #[.pointer none] w fun e w' => e = .returned (.int .i64 0) ∧ w = w' := by
  go_enter Tryz.func70, Tryz.ntmps70
  go_wp2_with fail
  go_ret
  exact ⟨rfl, rfl⟩
theorem dlife_any (d : Nat) {B M n life : Nat} {f : Int → Option DI} (w : World) (h : DAt B d M n f life w) : Calls Tryz.prog 70 #[.pointer (some ⟨d, 0, none⟩)] w fun e w' => e = .returned (.int .i64 (life : Int)) ∧ w = w' := by
  have c1 := h.c1
  clear h
  go_enter Tryz.func70, Tryz.ntmps70
  go_wp2_with fail
  go_ret
  exact ⟨rfl, rfl⟩
end Go.Proofs.YtgnaiahnednllaaGreat
namespace Go.Proofs.YtgnaiahnednllaaGreat
open Go.RowKit
set_option linter.unusedVariables false
set_option maxRecDepth 20000
theorem apartD_new {B d M n life : Nat} {f : Int → Option DI} {w w1 : World} (h : DAt B d M n f life w) (hz : w.heap.size ≤ w1.heap.size) {a : Option Addr} {L c : Nat} {xs : List Value} {e : TypeId} {w2 : World} (ho : w2.ownsRow w1.heap.size e 1 (.slice a L c) L xs) (hL : 0 < L) : apartD d M a := fun q o e1 => by
  obtain ⟨q2, cp, e2⟩ := Joins.ownsRow_form ho hL
  simp only [Value.slice.injEq] at e2
  have h1 := (ho.lt q2 (by rw [e2.1]; rfl)).1
  rw [e2.1] at e1
  injection e1 with e1; injection e1 with e1 e3; subst e1
  have := lt_of_cell h.c0
  have := h.m.lt
  omega
end Go.Proofs.YtgnaiahnednllaaGreat
namespace Go.Proofs.YtgnaiahnednllaaGreat
open Go.RowKit
set_option linter.unusedVariables false
set_option maxRecDepth 20000
structure AskP where
  slot : Int
  query : Int
  shard : Int
  seq : Int
  epoch : Int
  text : ByteArray
  k : Int
  batch : Int
  first : Bool
  ad : Int
  aw : ByteArray
def ask0 : AskP := ⟨0, 0, 0, 0, 0, ⟨#[]⟩, 0, 0, false, 0, ⟨#[]⟩⟩
def cellsAsk (x : AskP) : List Value := [(.int .i64 x.slot), (.int .i64 x.query), (.int .i64 x.shard), (.int .i64 x.seq), (.int .i64 x.epoch), (.string x.text), (.int .i64 x.k), (.int .i64 x.batch), (.bool x.first), (.int .i64 x.ad), (.string x.aw)]
theorem getD_memAsk (zs : List AskP) (j : Nat) (h : j < zs.length) : zs.getD j ask0 ∈ zs := by
  rw [List.getD_eq_getElem?_getD, List.getElem?_eq_getElem h]; simp
def asksV : List AskP → List Value
  | [] => []
  | k :: ks => (.int .i64 k.slot) :: (.int .i64 k.query) :: (.int .i64 k.shard) :: (.int .i64 k.seq) :: (.int .i64 k.epoch) :: (.string k.text) :: (.int .i64 k.k) :: (.int .i64 k.batch) :: (.bool k.first) :: (.int .i64 k.ad) :: (.string k.aw) :: asksV ks
theorem asksV_app : ∀ ks ls : List AskP, asksV (ks ++ ls) = asksV ks ++ asksV ls
  | [], ls => rfl
  | k :: ks, ls => by simp [asksV, asksV_app ks ls]
theorem asksV_snoc (ks : List AskP) (k : AskP) : asksV (ks ++ [k]) = asksV ks ++ cellsAsk k := by rw [asksV_app]; rfl
end Go.Proofs.YtgnaiahnednllaaGreat
namespace Go.Proofs.YtgnaiahnednllaaGreat
open Go.RowKit
set_option linter.unusedVariables false
set_option maxRecDepth 20000
namespace Qu
def same (x : AskP) (s d : Int) : Prop := x.slot = s ∧ x.shard = d
instance (x : AskP) (s d : Int) : Decidable (same x s d) := by unfold same; infer_instance
/-- where it waits -/
def find (L : List AskP) (s d : Int) : Option AskP := L.find? fun x => decide (same x s d)
def val (a : AskP) : Value := .agg #[.int .i64 a.slot, .int .i64 a.query, .int .i64 a.shard, .int .i64 a.seq, .int .i64 a.epoch, .string a.text, .int .i64 a.k, .int .i64 a.batch, .bool a.first, .int .i64 a.ad, .string a.aw]
def fQ (L : List AskP) (s d : Int) : Option Value := (find L s d).map val
def may (a : AskP) : Prop := (0 ≤ a.slot ∧ a.slot ≤ 3) ∧ (0 ≤ a.shard ∧ a.shard ≤ 5)
structure Good (L : List AskP) : Prop where
  may : ∀ x ∈ L, Qu.may x
  apart : L.Pairwise fun x y => ¬ (x.slot = y.slot ∧ x.shard = y.shard)
theorem good_nil : Good [] := ⟨fun _ h => by simp at h, List.Pairwise.nil⟩
theorem find_none {L : List AskP} {s d : Int} : find L s d = none ↔ ∀ x ∈ L, ¬ same x s d := by
  unfold find; rw [List.find?_eq_none]; simp
theorem find_some {L : List AskP} {s d : Int} {a : AskP} (h : find L s d = some a) : a ∈ L ∧ same a s d := by
  unfold find at h
  exact ⟨List.mem_of_find?_eq_some h, by have := List.find?_some h; simpa using this⟩
theorem find_at {L : List AskP} (hg : Good L) {i : Nat} (hi : i < L.length) : find L (L.getD i ask0).slot (L.getD i ask0).shard = some (L.getD i ask0) := by
  have hm : L.getD i ask0 ∈ L := getD_memAsk L i hi
  cases h : find L (L.getD i ask0).slot (L.getD i ask0).shard with
  | none => exact absurd ⟨rfl, rfl⟩ (find_none.1 h _ hm)
  | some b =>
    obtain ⟨hb, h1, h2⟩ := find_some h
    obtain ⟨j, hj, rfl⟩ := List.getElem_of_mem hb
    have hp := hg.apart
    rw [List.pairwise_iff_getElem] at hp
    have e : L.getD i ask0 = L[i] := by rw [List.getD_eq_getElem?_getD, List.getElem?_eq_getElem hi]; rfl
    rw [e] at h1 h2 ⊢
    rcases Nat.lt_trichotomy i j with x | x | x
    · exact absurd ⟨h1.symm, h2.symm⟩ (hp i j hi hj x)
    · subst x; rfl
    · exact absurd ⟨h1, h2⟩ (hp j i hj hi x)
/-- a comes behind b, which is not wanted any more -/
def newer (a b : AskP) : Prop := a.query > b.query ∨ (a.query = b.query ∧ a.seq > b.seq)
instance (a b : AskP) : Decidable (newer a b) := by unfold newer; infer_instance
instance (a : AskP) : Decidable (may a) := by unfold may; infer_instance
/-- a in the place of what waits there -/
def put (L : List AskP) (a : AskP) : List AskP := L.map fun x => if same x a.slot a.shard then a else x
def pushed (L : List AskP) (a : AskP) : Bool := decide (may a) && match find L a.slot a.shard with | some x => !decide (newer x a) | none => true
def push (L : List AskP) (a : AskP) : List AskP := if pushed L a = true then (match find L a.slot a.shard with | some _ => put L a | none => L ++ [a]) else L
theorem put_len (L : List AskP) (a : AskP) : (put L a).length = L.length := by simp [put]
theorem find_app_none {L : List AskP} {a : AskP} (h : find L a.slot a.shard = none) (s d : Int) : find (L ++ [a]) s d = if a.slot = s ∧ a.shard = d then some a else find L s d := by
  unfold find at h ⊢
  rw [List.find?_append]
  by_cases e : a.slot = s ∧ a.shard = d
  · obtain ⟨rfl, rfl⟩ := e
    rw [h, if_pos ⟨rfl, rfl⟩]
    simp [same]
  · rw [if_neg e]
    have : List.find? (fun x => decide (same x s d)) [a] = none := by
      rw [List.find?_eq_none]; intro x hx; simp at hx; subst hx; simp only [decide_eq_true_eq]; exact e
    rw [this, Option.or_none]
theorem find_put {L : List AskP} {a x : AskP} (h : find L a.slot a.shard = some x) (s d : Int) : find (put L a) s d = if a.slot = s ∧ a.shard = d then some a else find L s d := by
  unfold find put at *
  rw [List.find?_map]
  by_cases e : a.slot = s ∧ a.shard = d
  · obtain ⟨rfl, rfl⟩ := e
    rw [if_pos ⟨rfl, rfl⟩]
    have e2 : ((fun x => decide (same x a.slot a.shard)) ∘ fun x => if same x a.slot a.shard then a else x) = fun x => decide (same x a.slot a.shard) := by
      funext y
      simp only [Function.comp]
      apply decide_eq_decide.2
      by_cases hy : same y a.slot a.shard
      · rw [if_pos hy]; exact ⟨fun _ => hy, fun _ => ⟨rfl, rfl⟩⟩
      · rw [if_neg hy]
    rw [e2, h]
    have hx := List.find?_some h
    simp only [decide_eq_true_eq] at hx
    simp [hx]
  · rw [if_neg e]
    have e2 : ((fun x => decide (same x s d)) ∘ fun x => if same x a.slot a.shard then a else x) = fun x => decide (same x s d) := by
      funext y
      simp only [Function.comp]
      apply decide_eq_decide.2
      by_cases hy : same y a.slot a.shard
      · rw [if_pos hy]
        have h1 : ¬ same a s d := fun h => e ⟨h.1, h.2⟩
        have h2 : ¬ same y s d := fun h => e ⟨hy.1.symm.trans h.1, hy.2.symm.trans h.2⟩
        exact ⟨fun h => absurd h h1, fun h => absurd h h2⟩
      · rw [if_neg hy]
    rw [e2]
    cases hf : List.find? (fun x => decide (same x s d)) L with
    | none => rfl
    | some y =>
      have hy := List.find?_some hf
      simp only [decide_eq_true_eq] at hy
      have : ¬ same y a.slot a.shard := fun h => e ⟨h.1.symm.trans hy.1, h.2.symm.trans hy.2⟩
      simp [this]
theorem put_good {L : List AskP} (hg : Good L) {a : AskP} (ha : may a) : Good (put L a) := by
  refine ⟨fun x hx => ?_, ?_⟩
  · unfold put at hx
    obtain ⟨y, hy, rfl⟩ := List.mem_map.1 hx
    split
    · exact ha
    · exact hg.may y hy
  · unfold put
    rw [List.pairwise_map]
    refine hg.apart.imp_of_mem fun {x y} hx hy h => ?_
    by_cases h1 : same x a.slot a.shard
    · by_cases h2 : same y a.slot a.shard
      · exact absurd ⟨h1.1.trans h2.1.symm, h1.2.trans h2.2.symm⟩ h
      · rw [if_pos h1, if_neg h2]; exact fun e => h2 ⟨e.1.symm, e.2.symm⟩
    · by_cases h2 : same y a.slot a.shard
      · rw [if_neg h1, if_pos h2]; exact fun e => h1 ⟨e.1, e.2⟩
      · rw [if_neg h1, if_neg h2]; exact h
theorem app_good {L : List AskP} (hg : Good L) {a : AskP} (ha : may a) (h : find L a.slot a.shard = none) : Good (L ++ [a]) := by
  refine ⟨fun x hx => ?_, ?_⟩
  · rcases List.mem_append.1 hx with hx | hx
    · exact hg.may x hx
    · simp at hx; subst hx; exact ha
  · rw [List.pairwise_append]
    refine ⟨hg.apart, by simp, fun x hx y hy => ?_⟩
    simp at hy; subst hy
    exact fun e => find_none.1 h x hx ⟨e.1, e.2⟩
theorem push_good {L : List AskP} (hg : Good L) (a : AskP) : Good (push L a) := by
  unfold push
  split
  · rename_i h
    have ha : may a := by unfold pushed at h; simp at h; exact h.1
    split
    · exact put_good hg ha
    · rename_i h2; exact app_good hg ha h2
  · exact hg
/-- what a Stop leaves -/
def keeps (s q : Int) (x : AskP) : Bool := !(decide (x.slot = s) && decide (x.query ≤ q))
def stop (L : List AskP) (s q : Int) : List AskP := L.filter (keeps s q)
theorem filter_good {L : List AskP} (hg : Good L) (p : AskP → Bool) : Good (L.filter p) := ⟨fun x hx => hg.may x (List.mem_filter.1 hx).1, hg.apart.filter p⟩
theorem tail_good {L : List AskP} (hg : Good L) : Good L.tail := by
  cases L with
  | nil => exact hg
  | cons x l => exact ⟨fun y hy => hg.may y (by simp at hy ⊢; exact Or.inr hy), (List.pairwise_cons.1 hg.apart).2⟩
theorem find_tail {x : AskP} {l : List AskP} (hg : Good (x :: l)) (s d : Int) : find l s d = if s = x.slot ∧ d = x.shard then none else find (x :: l) s d := by
  by_cases e : s = x.slot ∧ d = x.shard
  · rw [if_pos e, find_none]
    obtain ⟨rfl, rfl⟩ := e
    intro y hy h
    exact (List.pairwise_cons.1 hg.apart).1 y hy ⟨h.1.symm, h.2.symm⟩
  · rw [if_neg e]
    unfold find
    rw [List.find?_cons_of_neg]
    simp only [decide_eq_true_eq]
    exact fun h => e ⟨h.1.symm, h.2.symm⟩
/-- there is room for twenty-four -/
theorem good_len {L : List AskP} (hg : Good L) : L.length ≤ 24 := by
  have h1 : (L.map fun x => (x.slot * 6 + x.shard).toNat).Nodup := by
    rw [List.Nodup, List.pairwise_map]
    refine hg.apart.imp_of_mem fun {x y} hx hy h => ?_
    have a := hg.may x hx; have b := hg.may y hy
    unfold may at a b
    intro e
    apply h
    omega
  have h2 : ∀ y ∈ (L.map fun x => (x.slot * 6 + x.shard).toNat), y ∈ List.range 24 := by
    intro y hy
    obtain ⟨x, hx, rfl⟩ := List.mem_map.1 hy
    have a := hg.may x hx
    unfold may at a
    rw [List.mem_range]; omega
  have := List.Nodup.length_le_of_subset h1 h2
  simpa using this
end Qu
end Go.Proofs.YtgnaiahnednllaaGreat
namespace Go.Proofs.YtgnaiahnednllaaGreat
open Go.RowKit Go.Maps
set_option linter.unusedVariables false
set_option maxRecDepth 20000
theorem laidOutTry : laidOutB Tryz.prog = true := by kernel_rfl
theorem rowPl : (193 : TypeId) < Tryz.prog.types.size := of_decide_eq_true (by kernel_rfl)
theorem widePl : (match Tryz.prog.underlying 193 with | some (.array _ _) | some (.struct _) => true | _ => false) = true := by rw [Tryz.underlying193]
theorem lawPl : Keyed Tryz.prog 193 := Keyed.of_law (deep_law_laid laidOutTry (m := 2) (by omega) rowPl (by kernel_rfl) widePl)
/-- what a place reads as -/
def plitQ (x y : Int) : Lit := .string (keyBytes [.int .i64 x, .int .i64 y])
theorem cellsPl : Tryz.prog.cellsOf 193 = 2 := by kernel_rfl
theorem cellsIn : Tryz.prog.cellsOf 3 = 1 := by kernel_rfl
theorem typePl : Tryz.prog.keyType 193 = true := by kernel_rfl
theorem sizePl : ∃ d, Tryz.prog.types.size + 1 = d + 2 := ⟨Tryz.prog.types.size - 1, by have h : 1 ≤ Tryz.prog.types.size := Nat.succ_le_of_lt (Nat.lt_of_le_of_lt (Nat.zero_le _) rowPl); omega⟩
theorem keyPl {x y : Int} (hx : (Lit.int .i64 x).wf = true) (hy : (Lit.int .i64 y).wf = true) : keyOf Tryz.prog 193 (.agg #[.int .i64 x, .int .i64 y]) = some (plitQ x y) := by
  obtain ⟨d, hd⟩ := sizePl
  unfold keyOf
  rw [Tryz.underlying193]
  simp only [typePl, Bool.true_and]
  rw [hd]
  simp [Value.formed, Tryz.underlying193, cellsPl, Value.cells, Program.keyLits, cellsIn, Tryz.underlying3, hx, hy, plitQ]
theorem plit_inj {x y x' y' : Int} (hx : (Lit.int .i64 x).wf = true) (hy : (Lit.int .i64 y).wf = true) (hx' : (Lit.int .i64 x').wf = true) (hy' : (Lit.int .i64 y').wf = true) (h : plitQ x y = plitQ x' y') : x = x' ∧ y = y' := by
  have h1 := keyPl hx hy
  have h2 := keyPl hx' hy'
  rw [← h] at h2
  have := lawPl.inj h1 h2
  simp at this
  exact this
/-- an element reads as itself -/
def anyE (v : Value) : Option (DataW Value × List MemPlace) := some (.held v, [])
theorem tight_mapQ {P : Program} {k : TypeId} {R : Value → Option (DataW Value × List MemPlace)} {w : World} {b n : Nat} {D : DataW Value} (h : w.ownsMap P k R b n D) : w.ownsMap P k R b (Maps.size D) D := by
  obtain ⟨es, clock, hb, F, hs, rfl⟩ := h
  exact ⟨es, clock, hb, F, by simp [Maps.size, length_sorted], rfl⟩
def wf2 (x y : Int) : Prop := (Lit.int .i64 x).wf = true ∧ (Lit.int .i64 y).wf = true
/-- block b is a map of n entries: what f says -/
def MapQ (w : World) (b n : Nat) (f : Int → Int → Option Value) : Prop :=
  ∃ D : DataW Value, w.ownsMap Tryz.prog 193 anyE b n D ∧ Maps.size D = n ∧
    ∀ x y, wf2 x y → Maps.has D (plitQ x y) = (f x y).isSome ∧ ∀ v, f x y = some v → ∀ z, D.atKey (plitQ x y) z = .held v
/-- f with v at x y -/
def qset (f : Int → Int → Option Value) (x y : Int) (v : Option Value) : Int → Int → Option Value := fun a b => if a = x ∧ b = y then v else f a b
theorem qset_at (f : Int → Int → Option Value) (x y : Int) (v : Option Value) : qset f x y v x y = v := by simp [qset]
theorem qset_ne (f : Int → Int → Option Value) (x y a b : Int) (v : Option Value) (h : ¬ (a = x ∧ b = y)) : qset f x y v a b = f a b := by simp only [qset, if_neg h]
theorem MapQ.lt {w : World} {b n : Nat} {f : Int → Int → Option Value} (h : MapQ w b n f) : b < w.heap.size := by obtain ⟨D, h, _⟩ := h; exact h.lt
theorem MapQ.block {w w' : World} {b n : Nat} {f : Int → Int → Option Value} (h : MapQ w b n f) (hb : w'.heap[b]? = w.heap[b]?) : MapQ w' b n f := by
  obtain ⟨D, ⟨es, clock, h1, h2⟩, h3⟩ := h
  exact ⟨D, ⟨es, clock, hb.trans h1, h2⟩, h3⟩
theorem MapQ.below {w w' : World} {b n : Nat} {f : Int → Int → Option Value} (h : MapQ w b n f) (t : Below w.heap.size w w') : MapQ w' b n f := h.block (t.block b h.lt)
theorem MapQ.setCell {w : World} {b n p o : Nat} {v : Value} {f : Int → Int → Option Value} (h : MapQ w b n f) (hp : b ≠ p) : MapQ (w.setCell ⟨p, o, none⟩ v) b n f := h.block (Below.heap_setCell _ _ _ _ hp)
theorem MapQ.no_cell {w : World} {b n : Nat} {f : Int → Int → Option Value} (h : MapQ w b n f) (o : Nat) (v : Value) : w.cell? ⟨b, o, none⟩ ≠ some v := by
  obtain ⟨D, ⟨es, clock, h1, h2⟩, h3⟩ := h
  simp [World.cell?, h1]
theorem mapQ_made (w : World) : MapQ (w.alloc (.map #[] 0)) w.heap.size 0 (fun _ _ => none) :=
  ⟨.map [], World.ownsMap_made w _ _ _, rfl, fun x y _ => ⟨rfl, fun v h => by cases h⟩⟩
theorem TurnQ.of_mapTurned {F : Nat → Prop} {w w' : World} {b : Nat} (h : w.mapTurned w' b) (hb : F b) : Turn F w w' := by
  have g := h.grown
  exact ⟨g.os, g.tape, g.output, g.size, fun k hk hn => g.block k hk (fun e => hn (by cases e; exact hb))⟩
theorem MapQ.put_run {w : World} {b n : Nat} {f : Int → Int → Option Value} (H : MapQ w b n f) (hn : n < maxLen) (x y : Int) (val : Value) (hk : wf2 x y) :
    ∃ w', (Instr.mapUpdate 189 (.map (some b)) (.agg #[.int .i64 x, .int .i64 y]) val).run Tryz.prog w = .ok () w' ∧ MapQ w' b (if (f x y).isSome then n else n + 1) (qset f x y (some val)) ∧ w.mapTurned w' b := by
  obtain ⟨D, hown, hs, hf⟩ := H
  have hkey := keyPl hk.1 hk.2
  obtain ⟨w', hrun, r1, r2⟩ := hown.store lawPl Tryz.underlying189 hn hkey (show anyE val = some (.held val, []) from rfl)
  have hD := hown.isMap
  have hsz := Maps.size_put (k := plitQ x y) (hown.tidy lawPl) (.held val)
  rw [(hf x y hk).1, hs] at hsz
  refine ⟨w', hrun, ⟨_, hsz ▸ tight_mapQ r1, hsz, fun a c hac => ?_⟩, r2⟩
  by_cases e : a = x ∧ c = y
  · obtain ⟨rfl, rfl⟩ := e
    rw [qset_at]
    exact ⟨Maps.has_put_same (k := plitQ a c) hD trivial _, fun v h z => by injection h with h; subst h; exact Maps.atKey_put_same (k := plitQ a c) hD trivial _ _⟩
  · have hne : plitQ a c ≠ plitQ x y := fun h => e (plit_inj hac.1 hac.2 hk.1 hk.2 h)
    rw [qset_ne _ _ _ _ _ _ e]
    exact ⟨by rw [Maps.has_put_other hne]; exact (hf a c hac).1, fun v h z => by rw [Maps.atKey_put_other hne]; exact (hf a c hac).2 v h z⟩
theorem MapQ.del_run {w : World} {b n : Nat} {f : Int → Int → Option Value} (H : MapQ w b n f) (x y : Int) (hk : wf2 x y) (ty : TypeId) :
    ∃ w', (Builtin.delete_ #[189, 193] ty #[.map (some b), .agg #[.int .i64 x, .int .i64 y]]).run Tryz.prog w = .ok (.tuple #[]) w' ∧ MapQ w' b (if (f x y).isSome then n - 1 else n) (qset f x y none) ∧ w.mapTurned w' b := by
  obtain ⟨D, hown, hs, hf⟩ := H
  have hkey := keyPl hk.1 hk.2
  obtain ⟨w', hrun, r1, r2⟩ := hown.drop lawPl Tryz.underlying189 hkey ty
  have hsz := Maps.size_del (k := plitQ x y) (hown.tidy lawPl)
  rw [(hf x y hk).1, hs] at hsz
  have hsz2 : Maps.size (D.del (plitQ x y)) = if (f x y).isSome then n - 1 else n := by split <;> simp_all <;> omega
  refine ⟨w', hrun, ⟨_, hsz2 ▸ tight_mapQ r1, hsz2, fun a c hac => ?_⟩, r2⟩
  by_cases e : a = x ∧ c = y
  · obtain ⟨rfl, rfl⟩ := e
    rw [qset_at]
    exact ⟨Maps.has_del_same, fun v h => by cases h⟩
  · have hne : plitQ a c ≠ plitQ x y := fun h => e (plit_inj hac.1 hac.2 hk.1 hk.2 h)
    rw [qset_ne _ _ _ _ _ _ e]
    exact ⟨by rw [Maps.has_del_other hne]; exact (hf a c hac).1, fun v h z => by rw [Maps.atKey_del_other hne]; exact (hf a c hac).2 v h z⟩
def zAsk : Value := .agg #[.int .i64 0, .int .i64 0, .int .i64 0, .int .i64 0, .int .i64 0, .string ⟨#[]⟩, .int .i64 0, .int .i64 0, .bool false, .int .i64 0, .string ⟨#[]⟩]
theorem zeroMq (w : World) : (zeroValue 41).run Tryz.prog w = .ok zAsk w := by kernel_rfl
theorem MapQ.look_run {w : World} {b n : Nat} {f : Int → Int → Option Value} (H : MapQ w b n f) (x y : Int) (hk : wf2 x y) :
    (Instr.lookup 189 (.map (some b)) (.agg #[.int .i64 x, .int .i64 y]) true).run Tryz.prog w = .ok (.tuple #[(f x y).getD zAsk, .bool (f x y).isSome]) w := by
  obtain ⟨D, hown, hs, hf⟩ := H
  obtain ⟨v, ps, hrun, hv⟩ := hown.look_ok lawPl Tryz.underlying189 (zeroMq w) (show anyE zAsk = some (.held zAsk, []) from rfl) (keyPl hk.1 hk.2)
  have hc : DataW.held v = D.atKey (plitQ x y) (.held zAsk) := by
    unfold anyE at hv
    injection hv with h; injection h
  have e : v = (f x y).getD zAsk := by
    cases hfk : f x y with
    | none =>
      have h1 := (hf x y hk).1
      rw [hfk] at h1
      rw [Maps.atKey_of_not_has (by simpa using h1)] at hc
      injection hc with h
    | some u =>
      rw [(hf x y hk).2 u hfk] at hc
      injection hc with h
  rw [hrun, (hf x y hk).1, e]
theorem MapQ.get_run {w : World} {b n : Nat} {f : Int → Int → Option Value} (H : MapQ w b n f) (x y : Int) (hk : wf2 x y) :
    (Instr.lookup 189 (.map (some b)) (.agg #[.int .i64 x, .int .i64 y]) false).run Tryz.prog w = .ok ((f x y).getD zAsk) w := by
  obtain ⟨D, hown, hs, hf⟩ := H
  obtain ⟨v, ps, hrun, hv⟩ := hown.lookup lawPl Tryz.underlying189 (zeroMq w) (show anyE zAsk = some (.held zAsk, []) from rfl) (keyPl hk.1 hk.2)
  have hc : DataW.held v = D.atKey (plitQ x y) (.held zAsk) := by
    unfold anyE at hv
    injection hv with h; injection h
  have e : v = (f x y).getD zAsk := by
    cases hfk : f x y with
    | none =>
      have h1 := (hf x y hk).1
      rw [hfk] at h1
      rw [Maps.atKey_of_not_has (by simpa using h1)] at hc
      injection hc with h
    | some u =>
      rw [(hf x y hk).2 u hfk] at hc
      injection hc with h
  rw [hrun, e]
section
variable {o : Oper} {a : Act} {w : World} {K : Act → World → Prop} {Q : Exit → Act → World → Prop} {ops : Array Oper} {rest : List Oper}
theorem wp_del_mq (m x : Operand) (hop : o.op = Op.call { callee := Callee.builtin Builtin.delete, args := #[m, x], argTypes := #[189, 193] }) {b n : Nat} {f : Int → Int → Option Value} (hm : a.eval m = .map (some b)) (H : MapQ w b n f) (x1 x2 : Int) (hx : a.eval x = .agg #[.int .i64 x1, .int .i64 x2]) (hk : wf2 x1 x2)
    (hK : ∀ w', MapQ w' b (if (f x1 x2).isSome then n - 1 else n) (qset f x1 x2 none) → w.mapTurned w' b → K (a.put o.dst (.tuple #[])) w') : o.wp Tryz.prog a w K Q := by
  obtain ⟨w', hrun, r1, r2⟩ := H.del_run x1 x2 hk o.type
  unfold Oper.wp
  simp [execOp, hop, resolve, invoke, builtin, hm, hx, hrun, Result.andThen]
  exact hK w' r1 r2
end
end Go.Proofs.YtgnaiahnednllaaGreat
namespace Go.Proofs.YtgnaiahnednllaaGreat
open Go.RowKit
set_option linter.unusedVariables false
set_option maxRecDepth 20000
def plcV : List AskP → List Value
  | [] => []
  | x :: l => .int .i64 x.slot :: .int .i64 x.shard :: plcV l
theorem plcV_app : ∀ k l : List AskP, plcV (k ++ l) = plcV k ++ plcV l
  | [], l => rfl
  | x :: k, l => by simp [plcV, plcV_app k l]
theorem plcV_at : ∀ (l : List AskP) (i : Nat), i < l.length → (plcV l)[i * 2]? = some (.int .i64 (l.getD i ask0).slot) ∧ (plcV l)[i * 2 + 1]? = some (.int .i64 (l.getD i ask0).shard)
  | [], i, h => by simp at h
  | x :: l, 0, _ => by simp [plcV]
  | x :: l, i + 1, h => by
    have ih := plcV_at l i (by simpa using h)
    have e1 : (i + 1) * 2 = i * 2 + 1 + 1 := by omega
    rw [e1]
    simpa [plcV] using ih
theorem plcV_put (L : List AskP) (a : AskP) : plcV (Qu.put L a) = plcV L := by
  unfold Qu.put
  induction L with
  | nil => rfl
  | cons x l ih =>
    simp only [List.map_cons, plcV, ih]
    split
    · rename_i h; rw [h.1, h.2]
    · rfl
/-- block b is a queue that holds L; its blocks lie in S -/
def QAt (w : World) (b : Nat) (L : List AskP) (S : Nat → Prop) : Prop :=
  ∃ a c bm, w.cell? ⟨b, 0, none⟩ = some (.slice a L.length c) ∧ w.cell? ⟨b, 1, none⟩ = some (.map (some bm)) ∧ (∀ i, w.frozen? ⟨b, i, none⟩ = false) ∧
    w.ownsRow 0 193 2 (.slice a L.length c) L.length (plcV L) ∧ MapQ w bm L.length (Qu.fQ L) ∧ b ≠ bm ∧ S b ∧ S bm ∧ (∀ g, a = some ⟨g, 0, none⟩ → S g ∧ g ≠ b ∧ g ≠ bm) ∧ ∀ k, S k → k < w.heap.size
theorem QAt.blocks {w w' : World} {b : Nat} {L : List AskP} {S : Nat → Prop} (h : QAt w b L S) (hs : w.heap.size ≤ w'.heap.size) (hb : ∀ k, S k → w'.heap[k]? = w.heap[k]?) : QAt w' b L S := by
  obtain ⟨a, c, bm, h1, h2, h3, h4, h5, h6, h7, h8, h9, h10⟩ := h
  have eb := hb b h7
  exact ⟨a, c, bm, (World.cell?_of_block (w := w) eb).trans h1, (World.cell?_of_block (w := w) eb).trans h2, fun i => (World.frozen?_of_block (w := w) eb).trans (h3 i), owns_block0 h4 (fun g hg => hb g (h9 g hg).1), h5.block (hb bm h8), h6, h7, h8, h9, fun k hk => Nat.lt_of_lt_of_le (h10 k hk) hs⟩
theorem QAt.lt {w : World} {b : Nat} {L : List AskP} {S : Nat → Prop} (h : QAt w b L S) : ∀ k, S k → k < w.heap.size := by obtain ⟨a, c, bm, h1, h2, h3, h4, h5, h6, h7, h8, h9, h10⟩ := h; exact h10
theorem QAt.has {w : World} {b : Nat} {L : List AskP} {S : Nat → Prop} (h : QAt w b L S) : S b := by obtain ⟨a, c, bm, h1, h2, h3, h4, h5, h6, h7, h8, h9, h10⟩ := h; exact h7
theorem QAt.turn {w w' : World} {b : Nat} {L : List AskP} {S F : Nat → Prop} (h : QAt w b L S) (t : Turn F w w') (hF : ∀ k, S k → ¬ F k) : QAt w' b L S :=
  h.blocks t.size fun k hk => t.block k (h.lt k hk) (hF k hk)
theorem QAt.below {w w' : World} {b : Nat} {L : List AskP} {S : Nat → Prop} (h : QAt w b L S) (t : Below w.heap.size w w') : QAt w' b L S :=
  h.blocks t.size fun k hk => t.block k (h.lt k hk)
/-- S and what is new -/
def andNew (S : Nat → Prop) (w w' : World) : Nat → Prop := fun k => S k ∨ (w.heap.size ≤ k ∧ k < w'.heap.size)
theorem qNew_any (w : World) :
    Calls Tryz.prog 89 #[] w fun e w' => ∃ b S, e = .returned (.pointer (some ⟨b, 0, none⟩)) ∧ QAt w' b [] S ∧ (∀ k, S k → w.heap.size ≤ k) ∧ Below w.heap.size w w' := by
  have hmm := @run_makeMap Tryz.prog
  go_enter Tryz.func89, Tryz.ntmps89
  go_wp2_with fail
  go_ret
  have m1 : MapQ (w.alloc (.map #[] 0)) w.heap.size 0 (fun _ _ => none) := mapQ_made w
  have m2 := m1.below (below_one _ (.cells #[.slice none 0 0, .map (some w.heap.size)] 191))
  refine ⟨w.heap.size + 1, fun k => k = w.heap.size ∨ k = w.heap.size + 1, rfl, ⟨none, 0, w.heap.size, by rw [cell_alloc (by simp)]; rfl, by rw [cell_alloc (by simp)]; rfl, fun i => frozen_alloc (by simp), World.ownsRow_nil _ _ _ _, m2, by omega, Or.inr rfl, Or.inl rfl, fun g hg => (by cases hg), fun k hk => by simp; omega⟩, fun k hk => by omega, ((Below.refl _ _).alloc (Nat.le_refl _) _).alloc (by simp) _⟩
theorem qLen_any {L : List AskP} {S : Nat → Prop} (b : Nat) (w : World) (h : QAt w b L S) :
    Calls Tryz.prog 125 #[.pointer (some ⟨b, 0, none⟩)] w fun e w' => e = .returned (.int .i64 L.length) ∧ w = w' := by
  obtain ⟨a, c, bm, h1, h2⟩ := h
  clear h2
  go_enter Tryz.func125, Tryz.ntmps125
  go_wp2_with fail
  go_ret
  exact ⟨rfl, rfl⟩
theorem newer_any (a b : AskP) (w : World) :
    Calls Tryz.prog 214 #[.agg #[.int .i64 a.slot, .int .i64 a.query, .int .i64 a.shard, .int .i64 a.seq, .int .i64 a.epoch, .string a.text, .int .i64 a.k, .int .i64 a.batch, .bool a.first, .int .i64 a.ad, .string a.aw], .agg #[.int .i64 b.slot, .int .i64 b.query, .int .i64 b.shard, .int .i64 b.seq, .int .i64 b.epoch, .string b.text, .int .i64 b.k, .int .i64 b.batch, .bool b.first, .int .i64 b.ad, .string b.aw]] w
      fun e w' => e = .returned (.bool (decide (Qu.newer a b))) ∧ Below w.heap.size w w' := by
  have hB : ∀ o1 o2, Below w.heap.size w ((w.alloc o1).alloc o2) := fun o1 o2 => ((Below.refl _ _).alloc (Nat.le_refl _) _).alloc (by simp) _
  obtain ⟨z, hz⟩ : ∃ z, decide (Qu.newer a b) = z := ⟨_, rfl⟩
  rw [hz]
  have HB := Lib.hid hB
  by_cases h1 : a.query > b.query
  · have d1 : decide (a.query > b.query) = true := decide_eq_true h1
    have d2 : decide (b.query < a.query) = true := decide_eq_true h1
    obtain rfl : z = true := by rw [← hz]; exact decide_eq_true (Or.inl h1)
    clear hz hB
    go_enter Tryz.func214, Tryz.ntmps214
    go_wp2_with fail
    go_ret
    exact ⟨rfl, HB.out _ _⟩
  · have d1 : decide (b.query < a.query) = false := decide_eq_false h1
    by_cases h2 : a.query = b.query
    · have d3 : (a.query == b.query) = true := by simpa using h2
      by_cases h3 : a.seq > b.seq
      · have d4 : decide (b.seq < a.seq) = true := decide_eq_true h3
        obtain rfl : z = true := by rw [← hz]; exact decide_eq_true (Or.inr ⟨h2, h3⟩)
        clear hz hB h2
        go_enter Tryz.func214, Tryz.ntmps214
        go_wp2_with fail
        go_ret
        exact ⟨rfl, HB.out _ _⟩
      · have d4 : decide (b.seq < a.seq) = false := decide_eq_false h3
        obtain rfl : z = false := by rw [← hz]; exact decide_eq_false (fun h => h.elim h1 (fun x => h3 x.2))
        clear hz hB h2
        go_enter Tryz.func214, Tryz.ntmps214
        go_wp2_with fail
        go_ret
        exact ⟨rfl, HB.out _ _⟩
    · have d3 : (a.query == b.query) = false := by simpa using h2
      obtain rfl : z = false := by rw [← hz]; exact decide_eq_false (fun h => h.elim h1 (fun x => h2 x.1))
      clear hz hB
      go_enter Tryz.func214, Tryz.ntmps214
      go_wp2_with fail
      go_ret
      exact ⟨rfl, HB.out _ _⟩
end Go.Proofs.YtgnaiahnednllaaGreat
namespace Go.Proofs.YtgnaiahnednllaaGreat
open Go.RowKit
set_option linter.unusedVariables false
set_option maxRecDepth 20000
theorem qin_lit (n lo hi : Int) (c : Bool) (w : World) (h : decide (lo ≤ n ∧ n ≤ hi) = c) :
    Calls Tryz.prog 64 #[.int .i64 n, .int .i64 lo, .int .i64 hi] w fun e w' => e = .returned (.bool c) ∧ w = w' := by
  subst h
  go_enter Tryz.func64, Tryz.ntmps64
  go_wp2
  all_goals (go_ret; exact ⟨ret_bool (by simp; try omega), rfl⟩)
def PushP (w : World) (b : Nat) (L : List AskP) (S : Nat → Prop) (a : AskP) (e : Ending) (w' : World) : Prop :=
  e = .returned (.bool (Qu.pushed L a)) ∧ ∃ S', QAt w' b (Qu.push L a) S' ∧ (∀ k, S' k → S k ∨ w.heap.size ≤ k) ∧ Turn S w w'
theorem push_no {w w' : World} {b : Nat} {L : List AskP} {S : Nat → Prop} {a : AskP} (h : QAt w b L S) (hp : Qu.pushed L a = false) (hb : Below w.heap.size w w') : PushP w b L S a (.returned (.bool false)) w' := by
  refine ⟨by rw [hp], S, ?_, fun k hk => Or.inl hk, Turn.of_below hb⟩
  unfold Qu.push
  rw [hp, if_neg (by decide)]
  exact h.below hb
theorem qpush_out (a : AskP) (b : Nat) {L : List AskP} {S : Nat → Prop} (w : World) (h : QAt w b L S) (hm : ¬ Qu.may a) :
    Calls Tryz.prog 168 #[.pointer (some ⟨b, 0, none⟩), .agg #[.int .i64 a.slot, .int .i64 a.query, .int .i64 a.shard, .int .i64 a.seq, .int .i64 a.epoch, .string a.text, .int .i64 a.k, .int .i64 a.batch, .bool a.first, .int .i64 a.ad, .string a.aw]] w (PushP w b L S a) := by
  have HP := Lib.hid (fun w' hb => push_no (w' := w') h (show Qu.pushed L a = false by unfold Qu.pushed; rw [decide_eq_false hm]; rfl) hb)
  have hlt := h.lt b h.has
  have HM := Lib.hid hm
  clear h hm
  by_cases h1 : 0 ≤ a.slot ∧ a.slot ≤ 3
  · have h2 : decide (0 ≤ a.shard ∧ a.shard ≤ 5) = false := decide_eq_false (fun h2 => HM.out ⟨h1, h2⟩)
    have H1 := Lib.hid (decide_eq_true h1); have H2 := Lib.hid h2
    clear h1 h2
    go_enter Tryz.func168, Tryz.ntmps168
    go_wp2_with fail
    refine (qin_lit _ _ _ _ _ H1.out).mono ?_
    rintro e w' ⟨rfl, rfl⟩
    go_wp2_with fail
    refine (qin_lit _ _ _ _ _ H2.out).mono ?_
    rintro e w' ⟨rfl, rfl⟩
    go_wp2_with fail
    go_ret
    exact HP.out _ (below_one _ _)
  · have H1 := Lib.hid (decide_eq_false h1)
    clear h1
    go_enter Tryz.func168, Tryz.ntmps168
    go_wp2_with fail
    refine (qin_lit _ _ _ _ _ H1.out).mono ?_
    rintro e w' ⟨rfl, rfl⟩
    go_wp2_with fail
    go_ret
    exact HP.out _ (below_one _ _)
/-- the cells of an Ask in block p -/
def AskIn (w : World) (p : Nat) (a : AskP) : Prop := w.cell? ⟨p, 0, none⟩ = some (.int .i64 a.slot) ∧ w.cell? ⟨p, 1, none⟩ = some (.int .i64 a.query) ∧ w.cell? ⟨p, 2, none⟩ = some (.int .i64 a.shard) ∧ w.cell? ⟨p, 3, none⟩ = some (.int .i64 a.seq) ∧ w.cell? ⟨p, 4, none⟩ = some (.int .i64 a.epoch) ∧ w.cell? ⟨p, 5, none⟩ = some (.string a.text) ∧ w.cell? ⟨p, 6, none⟩ = some (.int .i64 a.k) ∧ w.cell? ⟨p, 7, none⟩ = some (.int .i64 a.batch) ∧ w.cell? ⟨p, 8, none⟩ = some (.bool a.first) ∧ w.cell? ⟨p, 9, none⟩ = some (.int .i64 a.ad) ∧ w.cell? ⟨p, 10, none⟩ = some (.string a.aw)
theorem AskIn.of {w w' : World} {p : Nat} {a : AskP} (h : AskIn w p a) (e : ∀ i, w'.cell? ⟨p, i, none⟩ = w.cell? ⟨p, i, none⟩) : AskIn w' p a := by
  unfold AskIn at *
  rw [e, e, e, e, e, e, e, e, e, e, e]; exact h
theorem AskIn.below {w w' : World} {p : Nat} {a : AskP} (h : AskIn w p a) (hb : Below w.heap.size w w') : AskIn w' p a := h.of fun i => hb.cell (p := ⟨p, i, none⟩) (lt_of_cell h.1)
theorem askIn_new (w : World) (a : AskP) (p : Nat) (e : TypeId) (fr : Nat × Nat) (hp : p = w.heap.size) : AskIn (w.alloc (.cells #[.int .i64 a.slot, .int .i64 a.query, .int .i64 a.shard, .int .i64 a.seq, .int .i64 a.epoch, .string a.text, .int .i64 a.k, .int .i64 a.batch, .bool a.first, .int .i64 a.ad, .string a.aw] e fr)) p a := by
  subst hp
  unfold AskIn
  refine ⟨?_, ?_, ?_, ?_, ?_, ?_, ?_, ?_, ?_, ?_, ?_⟩ <;> (rw [World.cell?_alloc_mark]; rfl)
def PlIn (w : World) (p : Nat) (x y : Int) : Prop := w.cell? ⟨p, 0, none⟩ = some (.int .i64 x) ∧ w.cell? ⟨p, 1, none⟩ = some (.int .i64 y)
theorem PlIn.below {w w' : World} {p : Nat} {x y : Int} (h : PlIn w p x y) (hb : Below w.heap.size w w') : PlIn w' p x y :=
  ⟨(hb.cell (p := ⟨p, 0, none⟩) (lt_of_cell h.1)).trans h.1, (hb.cell (p := ⟨p, 1, none⟩) (lt_of_cell h.1)).trans h.2⟩
theorem plIn_new (w : World) (x y : Int) (p : Nat) (e : TypeId) (fr : Nat × Nat) (hp : p = w.heap.size) : PlIn (w.alloc (.cells #[.int .i64 x, .int .i64 y] e fr)) p x y := by
  subst hp
  constructor <;> (rw [World.cell?_alloc_mark]; rfl)
theorem push_start (w : World) (a : AskP) (e1 e2 : TypeId) (f1 f2 : Nat × Nat) : Below w.heap.size w ((w.alloc (.cells #[.int .i64 a.slot, .int .i64 a.query, .int .i64 a.shard, .int .i64 a.seq, .int .i64 a.epoch, .string a.text, .int .i64 a.k, .int .i64 a.batch, .bool a.first, .int .i64 a.ad, .string a.aw] e1 f1)).alloc (.cells #[.int .i64 a.slot, .int .i64 a.shard] e2 f2)) ∧
    AskIn ((w.alloc (.cells #[.int .i64 a.slot, .int .i64 a.query, .int .i64 a.shard, .int .i64 a.seq, .int .i64 a.epoch, .string a.text, .int .i64 a.k, .int .i64 a.batch, .bool a.first, .int .i64 a.ad, .string a.aw] e1 f1)).alloc (.cells #[.int .i64 a.slot, .int .i64 a.shard] e2 f2)) w.heap.size a ∧ PlIn ((w.alloc (.cells #[.int .i64 a.slot, .int .i64 a.query, .int .i64 a.shard, .int .i64 a.seq, .int .i64 a.epoch, .string a.text, .int .i64 a.k, .int .i64 a.batch, .bool a.first, .int .i64 a.ad, .string a.aw] e1 f1)).alloc (.cells #[.int .i64 a.slot, .int .i64 a.shard] e2 f2)) (w.heap.size + 1) a.slot a.shard :=
  ⟨((Below.refl _ _).alloc (Nat.le_refl _) _).alloc (by simp) _, (askIn_new w a _ e1 f1 rfl).below (below_one _ _), plIn_new _ _ _ _ e2 f2 (by simp)⟩
theorem wf_small {x : Int} (h : 0 ≤ x ∧ x ≤ 5) : (Lit.int .i64 x).wf = true := Go.WalkArith.wf_i64 ⟨by omega, by omega⟩
/-- a queue whose order is that of L', and whose map says f -/
def MidQ (w : World) (b bm n : Nat) (f : Int → Int → Option Value) (ao : Option Addr) (co : Nat) (L' : List AskP) (T : Nat → Prop) : Prop :=
  w.cell? ⟨b, 0, none⟩ = some (.slice ao L'.length co) ∧ w.cell? ⟨b, 1, none⟩ = some (.map (some bm)) ∧ (∀ i, w.frozen? ⟨b, i, none⟩ = false) ∧
    w.ownsRow 0 193 2 (.slice ao L'.length co) L'.length (plcV L') ∧ MapQ w bm n f ∧ b ≠ bm ∧ T b ∧ T bm ∧ (∀ g, ao = some ⟨g, 0, none⟩ → T g ∧ g ≠ b ∧ g ≠ bm) ∧ ∀ k, T k → k < w.heap.size
theorem QAt.mid {w : World} {b : Nat} {L : List AskP} {S : Nat → Prop} (h : QAt w b L S) : ∃ ao co bm, MidQ w b bm L.length (Qu.fQ L) ao co L S := h
theorem MidQ.qat {w : World} {b bm n : Nat} {f : Int → Int → Option Value} {ao : Option Addr} {co : Nat} {L' : List AskP} {T : Nat → Prop} (h : MidQ w b bm n f ao co L' T) (hn : n = L'.length) (hf : ∀ x y, f x y = Qu.fQ L' x y) : QAt w b L' T := by
  subst hn
  have e : f = Qu.fQ L' := by funext x y; exact hf x y
  subst e
  exact ⟨ao, co, bm, h⟩
/-- the map alone has turned -/
theorem MidQ.map {w w' : World} {b bm n m : Nat} {f g : Int → Int → Option Value} {ao : Option Addr} {co : Nat} {L' : List AskP} {T : Nat → Prop} (h : MidQ w b bm n f ao co L' T) (hm : MapQ w' bm m g) (ht : w.mapTurned w' bm) : MidQ w' b bm m g ao co L' T := by
  obtain ⟨h1, h2, h3, h4, h5, h6, h7, h8, h9, h10⟩ := h
  have tt := TurnQ.of_mapTurned (F := fun k => k = bm) ht rfl
  have hb := h10 b h7
  refine ⟨(tt.cell hb h6).trans h1, (tt.cell hb h6).trans h2, fun i => (tt.frozen hb h6).trans (h3 i), owns_block0 h4 (fun g hg => tt.block g (h10 g (h9 g hg).1) (h9 g hg).2.2), hm, h6, h7, h8, h9, fun k hk => Nat.lt_of_lt_of_le (h10 k hk) tt.size⟩
theorem MidQ.below {w w' : World} {b bm n : Nat} {f : Int → Int → Option Value} {ao : Option Addr} {co : Nat} {L' : List AskP} {T : Nat → Prop} (h : MidQ w b bm n f ao co L' T) (hb : Below w.heap.size w w') : MidQ w' b bm n f ao co L' T := by
  obtain ⟨h1, h2, h3, h4, h5, h6, h7, h8, h9, h10⟩ := h
  have hl := h10 b h7
  exact ⟨(hb.cell (p := ⟨b, 0, none⟩) hl).trans h1, (hb.cell (p := ⟨b, 1, none⟩) hl).trans h2, fun i => (hb.frozen (p := ⟨b, i, none⟩) hl).trans (h3 i), owns_block0 h4 (fun g hg => hb.block g (h10 g (h9 g hg).1)), h5.below hb, h6, h7, h8, h9, fun k hk => Nat.lt_of_lt_of_le (h10 k hk) hb.size⟩
/-- the order has been appended to, and stored -/
theorem MidQ.grown {w w1 : World} {b bm n : Nat} {f : Int → Int → Option Value} {ao : Option Addr} {co : Nat} {L : List AskP} {a : AskP} {S : Nat → Prop} {g cap H : Nat} (h : MidQ w b bm n f ao co L S)
    (own : w1.ownsRow 0 193 2 (.slice (some ⟨g, 0, none⟩) (L.length + 1) cap) (L.length + 1) (plcV L ++ [.int .i64 a.slot, .int .i64 a.shard])) (hg : w.grownBy w1 (Value.slice ao L.length co).ownBlock)
    (hat : (Value.slice ao L.length co).ownBlock = some g ∨ g = H) (hH : w.heap.size ≤ H) (hlt : g < w1.heap.size) :
    MidQ (w1.setCell ⟨b, 0, none⟩ (.slice (some ⟨g, 0, none⟩) (L.length + 1) cap)) b bm n f (some ⟨g, 0, none⟩) cap (L ++ [a]) (fun k => S k ∨ k = g) ∧ Turn S w (w1.setCell ⟨b, 0, none⟩ (.slice (some ⟨g, 0, none⟩) (L.length + 1) cap)) ∧ (S g ∨ w.heap.size ≤ g) := by
  obtain ⟨h1, h2, h3, h4, h5, h6, h7, h8, h9, h10⟩ := h
  have hb := h10 b h7
  have hbm := h10 bm h8
  have ho : ∀ k, (Value.slice ao L.length co).ownBlock = some k → S k ∧ k ≠ b ∧ k ≠ bm := by
    intro k hk
    rcases h4.2 with ⟨e, _⟩ | ⟨g', c', cur, e, _⟩
    · rw [e] at hk; cases hk
    · rw [e] at hk
      simp only [Value.ownBlock, Option.some.injEq] at hk
      subst hk
      simp only [Value.slice.injEq] at e
      exact h9 _ e.1
  have hgne : g ≠ b ∧ g ≠ bm ∧ (S g ∨ w.heap.size ≤ g) := by
    rcases hat with x | x
    · obtain ⟨y1, y2, y3⟩ := ho g x; exact ⟨y2, y3, Or.inl y1⟩
    · subst x; exact ⟨by omega, by omega, Or.inr hH⟩
  have bb : w1.heap[b]? = w.heap[b]? := hg.block b hb (fun e => (ho b e.symm).2.1 rfl)
  have bbm : w1.heap[bm]? = w.heap[bm]? := hg.block bm hbm (fun e => (ho bm e.symm).2.2 rfl)
  have cb : ∀ i, w1.cell? ⟨b, i, none⟩ = w.cell? ⟨b, i, none⟩ := fun i => World.cell?_of_block (w := w) bb
  have tt : Turn S w w1 := ⟨hg.os, hg.tape, hg.output, hg.size, fun k hk hn => hg.block k hk (fun e => hn (ho k e.symm).1)⟩
  refine ⟨⟨?_, ?_, fun i => ?_, ?_, ?_, h6, Or.inl h7, Or.inl h8, fun g' hg' => ?_, fun k hk => ?_⟩, tt.trans (Turn.setCell h7), hgne.2.2⟩
  · rw [List.length_append]; exact cset_at ((cb 0).trans h1)
  · rw [cset_ne (by omega), cb]; exact h2
  · rw [fset_any, World.frozen?_of_block (w := w) bb]; exact h3 i
  · rw [List.length_append, plcV_app]
    refine owns_block0 own (fun g' hg' => ?_)
    injection hg' with e; injection e with e; subst e
    exact Below.heap_setCell _ _ _ _ hgne.1
  · exact (h5.block bbm).setCell (Ne.symm h6)
  · injection hg' with e; injection e with e; subst e
    exact ⟨Or.inr rfl, hgne.1, hgne.2.1⟩
  · have := hg.size
    rw [show (w1.setCell ⟨b, 0, none⟩ (.slice (some ⟨g, 0, none⟩) (L.length + 1) cap)).heap.size = w1.heap.size by simp [World.setCell]]
    rcases hk with hk | rfl
    · exact Nat.lt_of_lt_of_le (h10 k hk) this
    · exact hlt
theorem MidQ.far {w w4 : World} {b bm n : Nat} {f : Int → Int → Option Value} {ao : Option Addr} {co : Nat} {L : List AskP} {S : Nat → Prop} {o : Obj} (h : MidQ w b bm n f ao co L S) (hg : ((w.alloc o).drew).grownBy w4 (Value.slice ao L.length co).ownBlock) :
    w4.cell? ⟨b, 0, none⟩ = some (.slice ao L.length co) ∧ w4.frozen? ⟨b, 0, none⟩ = false := by
  obtain ⟨h1, h2, h3, h4, h5, h6, h7, h8, h9, h10⟩ := h
  have hb := h10 b h7
  have e1 : ((w.alloc o).drew).heap[b]? = w.heap[b]? := Below.heap_alloc _ _ _ hb
  have e2 : w4.heap[b]? = ((w.alloc o).drew).heap[b]? := hg.block b (by show b < (w.alloc o).heap.size; simp; omega) (fun e => by
    rcases h4.2 with ⟨e', _⟩ | ⟨g', c', cur, e', _⟩
    · rw [e'] at e; cases e
    · rw [e'] at e
      simp only [Value.ownBlock, Option.some.injEq] at e
      subst e
      simp only [Value.slice.injEq] at e'
      exact (h9 _ e'.1).2.1 rfl)
  exact ⟨(World.cell?_of_block (w := w) (e2.trans e1)).trans h1, (World.frozen?_of_block (w := w) (e2.trans e1)).trans (h3 0)⟩
theorem push_done_new {w w5 : World} {b bm : Nat} {L : List AskP} {a : AskP} {S T : Nat → Prop} {ao : Option Addr} {co : Nat} (hm : Qu.may a) (hf : Qu.find L a.slot a.shard = none)
    (h : MidQ w5 b bm (if (Qu.fQ L a.slot a.shard).isSome then L.length else L.length + 1) (qset (Qu.fQ L) a.slot a.shard (some (Qu.val a))) ao co (L ++ [a]) T) (hT : ∀ k, T k → S k ∨ w.heap.size ≤ k) (t : Turn S w w5) : PushP w b L S a (.returned (.bool true)) w5 := by
  have hp : Qu.pushed L a = true := by unfold Qu.pushed; rw [decide_eq_true hm, hf]; rfl
  have hq : Qu.push L a = L ++ [a] := by unfold Qu.push; rw [hp, if_pos rfl, hf]
  refine ⟨by rw [hp], T, ?_, hT, t⟩
  rw [hq]
  refine h.qat ?_ (fun x y => ?_)
  · unfold Qu.fQ; rw [hf]; simp
  · unfold qset Qu.fQ
    rw [Qu.find_app_none hf]
    by_cases e : x = a.slot ∧ y = a.shard
    · rw [if_pos e, if_pos ⟨e.1.symm, e.2.symm⟩]; rfl
    · rw [if_neg e, if_neg (fun h => e ⟨h.1.symm, h.2.symm⟩)]
theorem push_done_put {w w5 : World} {b bm : Nat} {L : List AskP} {a x : AskP} {S T : Nat → Prop} {ao : Option Addr} {co : Nat} (hm : Qu.may a) (hf : Qu.find L a.slot a.shard = some x) (hn : ¬ Qu.newer x a)
    (h : MidQ w5 b bm (if (Qu.fQ L a.slot a.shard).isSome then L.length else L.length + 1) (qset (Qu.fQ L) a.slot a.shard (some (Qu.val a))) ao co L T) (hT : ∀ k, T k → S k ∨ w.heap.size ≤ k) (t : Turn S w w5) : PushP w b L S a (.returned (.bool true)) w5 := by
  have hp : Qu.pushed L a = true := by unfold Qu.pushed; rw [decide_eq_true hm, hf]; simp [hn]
  have hq : Qu.push L a = Qu.put L a := by unfold Qu.push; rw [hp, if_pos rfl, hf]
  refine ⟨by rw [hp], T, ?_, hT, t⟩
  rw [hq]
  obtain ⟨h1, h2, h3, h4, h5, h6⟩ := h
  have hl := Qu.put_len L a
  refine MidQ.qat (n := if (Qu.fQ L a.slot a.shard).isSome then L.length else L.length + 1) (f := qset (Qu.fQ L) a.slot a.shard (some (Qu.val a))) (ao := ao) (co := co) (bm := bm) ⟨by rw [hl]; exact h1, h2, h3, by rw [hl, plcV_put]; exact h4, h5, h6⟩ ?_ (fun x y => ?_)
  · unfold Qu.fQ; rw [hf, hl]; simp
  · unfold qset Qu.fQ
    rw [Qu.find_put hf]
    by_cases e : x = a.slot ∧ y = a.shard
    · rw [if_pos e, if_pos ⟨e.1.symm, e.2.symm⟩]; rfl
    · rw [if_neg e, if_neg (fun h => e ⟨h.1.symm, h.2.symm⟩)]
theorem pl_info : (Tryz.prog.info? 193).map (fun i => (i.zero, i.size, i.bytes)) = some (some (.agg #[.int .i64 0, .int .i64 0]), 2, 16) := by kernel_rfl
theorem three_carry {w1 w w' : World} {b o p o1 o2 : Nat} {v0 v1 v2 : Value} (h : Below w1.heap.size w1 w ∧ w.cell? ⟨b, o, none⟩ = some v0 ∧ w.cell? ⟨p, o1, none⟩ = some v1 ∧ w.cell? ⟨p, o2, none⟩ = some v2) (hb : Below w.heap.size w w') :
    Below w1.heap.size w1 w' ∧ w'.cell? ⟨b, o, none⟩ = some v0 ∧ w'.cell? ⟨p, o1, none⟩ = some v1 ∧ w'.cell? ⟨p, o2, none⟩ = some v2 :=
  ⟨h.1.trans (hb.mono h.1.size), (hb.cell (p := ⟨b, o, none⟩) (lt_of_cell h.2.1)).trans h.2.1, (hb.cell (p := ⟨p, o1, none⟩) (lt_of_cell h.2.2.1)).trans h.2.2.1, (hb.cell (p := ⟨p, o2, none⟩) (lt_of_cell h.2.2.2)).trans h.2.2.2⟩
set_option maxHeartbeats 3200000 in
set_option maxRecDepth 100000 in
theorem qpush_new (a : AskP) (b : Nat) {L : List AskP} {S : Nat → Prop} (w : World) (h : QAt w b L S) (hg : Qu.Good L) (hm : Qu.may a) (hf : Qu.find L a.slot a.shard = none) :
    Calls Tryz.prog 168 #[.pointer (some ⟨b, 0, none⟩), .agg #[.int .i64 a.slot, .int .i64 a.query, .int .i64 a.shard, .int .i64 a.seq, .int .i64 a.epoch, .string a.text, .int .i64 a.k, .int .i64 a.batch, .bool a.first, .int .i64 a.ad, .string a.aw]] w (PushP w b L S a) := by
  have H1 := Lib.hid (decide_eq_true hm.1); have H2 := Lib.hid (decide_eq_true hm.2)
  have HM := Lib.hid hm; have HG := Lib.hid hg; have HF := Lib.hid hf
  have hk : wf2 a.slot a.shard := ⟨wf_small (by have := hm.1; omega), wf_small (by have := hm.2; omega)⟩
  have HK := Lib.hid hk
  have H := Lib.hid h
  clear h hg hm hf hk
  go_enter Tryz.func168, Tryz.ntmps168
  go_wp2_with fail
  refine (qin_lit _ _ _ _ _ H1.out).mono ?_
  rintro e w' ⟨rfl, rfl⟩
  go_wp2_with fail
  refine (qin_lit _ _ _ _ _ H2.out).mono ?_
  rintro e w' ⟨rfl, rfl⟩
  go_upto_region 4 with fail
  have F0 := push_start w a 41 193 (0, 0) (0, 0)
  generalize (w.alloc (.cells #[.int .i64 a.slot, .int .i64 a.query, .int .i64 a.shard, .int .i64 a.seq, .int .i64 a.epoch, .string a.text, .int .i64 a.k, .int .i64 a.batch, .bool a.first, .int .i64 a.ad, .string a.aw] 41)).alloc (.cells #[.int .i64 a.slot, .int .i64 a.shard] 193) = w2 at *
  obtain ⟨hb2, hA2, hP2⟩ := F0
  obtain ⟨p, hp⟩ : ∃ p, w.heap.size = p := ⟨_, rfl⟩
  have HPS := Lib.hid hp
  rw [hp] at hA2 hP2
  rw [hp]
  have B2 := Lib.hid hb2; have A2 := Lib.hid hA2; have P2 := Lib.hid hP2
  have Q2 := Lib.hid (H.out.below hb2)
  clear hb2 hp
  obtain ⟨ao, co, bm, c0, c1, fr, own, mq, n1, s1, s2, s3, s4⟩ := Q2.out
  have OW := Lib.hid own; have MQ := Lib.hid mq; have FR := Lib.hid fr; have C0 := Lib.hid c0; have C1 := Lib.hid c1
  obtain ⟨p0, p1⟩ := hP2
  have FQ := Lib.hid (show Qu.fQ L a.slot a.shard = none by unfold Qu.fQ; rw [HF.out]; rfl)
  have SS := Lib.hid (And.intro s1 (And.intro s2 (And.intro s3 s4)))
  clear own mq fr s1 s2 s3 s4 hA2
  have hr4 := MapQ.look_run (w := w2.drew) (MQ.out.below (Below.refl _ _).drew) a.slot a.shard HK.out
  rw [FQ.out] at hr4
  have hr5 := MapQ.look_run (w := (w2.alloc (.cells #[.int .i64 0, .int .i64 0, .int .i64 0, .int .i64 0, .int .i64 0, .string ⟨#[]⟩, .int .i64 0, .int .i64 0, .bool false, .int .i64 0, .string ⟨#[]⟩] 41)).drew) (MQ.out.below ((Below.refl _ _).alloc (Nat.le_refl _) _).drew) a.slot a.shard HK.out
  rw [FQ.out] at hr5
  simp only [Option.getD_none, Option.isSome_none, zAsk] at hr4 hr5
  have hS0 : Below w2.heap.size w2 w2 ∧ w2.cell? ⟨b, 1, none⟩ = some (.map (some bm)) ∧ w2.cell? ⟨p + 1, 0, none⟩ = some (.int .i64 a.slot) ∧ w2.cell? ⟨p + 1, 1, none⟩ = some (.int .i64 a.shard) := ⟨Below.refl _ _, c1, p0, p1⟩
  go_cut [6, 7] from 27 to 35 (fun x y wc => x = .pointer (some ⟨w2.heap.size, 0, none⟩) ∧ y = .bool false ∧ Hid (Below w2.heap.size w2 wc))
  case first =>
    go_region_held3 (fun w' => Below w2.heap.size w2 w' ∧ w'.cell? ⟨b, 1, none⟩ = some (.map (some bm)) ∧ w'.cell? ⟨p + 1, 0, none⟩ = some (.int .i64 a.slot) ∧ w'.cell? ⟨p + 1, 1, none⟩ = some (.int .i64 a.shard))
      (first | assumption | (refine three_carry hS0 ?_; repeat' (first | exact Below.refl _ _ | refine Below.drew ?_ | refine Below.alloc ?_ (by simp <;> omega) _ | refine Below.setCell ?_ (by simp <;> omega) _)))
      (fail)
    all_goals
      go_wp2_with fail
      go_meet
      exact ⟨rfl, rfl, Lib.hid (((Below.refl _ _).alloc (Nat.le_refl _) _).drew)⟩
  case rest =>
    obtain ⟨rfl, rfl, hB3⟩ := hcut
    rename World => w3
    clear hr4 hr5 hS0 c0 c1 p0 p1
    obtain ⟨i0, hi, hz0, hz1, hz2⟩ := info_parts pl_info
    have hl24 := Qu.good_len HG.out
    have M3 := Lib.hid (MidQ.below (w := w2) ⟨C0.out, C1.out, FR.out, OW.out, MQ.out, n1, SS.out⟩ hB3.out)
    have A3 := Lib.hid (A2.out.below hB3.out)
    have P3 := Lib.hid (P2.out.below hB3.out)
    have B3 := Lib.hid (B2.out.trans (hB3.out.mono B2.out.size))
    obtain ⟨k0, k1, -, kown, -, -, kb, -⟩ := M3.out
    have KB := Lib.hid kb; have KO := Lib.hid kown
    obtain ⟨q0, q1⟩ := P3.out
    have lb : b < w3.heap.size := lt_of_cell k0
    have lp : p + 1 < w3.heap.size := lt_of_cell q0
    have fr0 : w3.frozen? ⟨b, 0, none⟩ = false := M3.out.2.2.1 0
    clear kb kown hB3
    have AB := Lib.hid (fun w4 hg => M3.out.far (w4 := w4) (o := (.cells #[.int .i64 a.slot, .int .i64 a.shard] 193)) hg)
    go_upto_region 8 with fail
    go_cut [7] from 44 to 53 (fun x wc => x = .bool false ∧ Hid (∃ ao' co' T, MidQ wc b bm L.length (Qu.fQ L) ao' co' (L ++ [a]) T ∧ Turn S w3 wc ∧ (∀ k, T k → S k ∨ w3.heap.size ≤ k)))
    case first =>
      go_region_law ((refine step_append_lies _ (by rfl) _ _ _ (by rfl) 0 193 i0 _ 2 16 Tryz.underlying188 hi hz0 hz1 hz2 rfl (by omega) (.slice ao L.length co) L.length (plcV L) (by rfl) ((KO.out.alloc _).drew) ⟨w3.heap.size, 0, none⟩ 1 1 [.int .i64 a.slot, .int .i64 a.shard] (by rfl) (by rfl) (World.news_of_block (cs := #[.int .i64 a.slot, .int .i64 a.shard]) (t := 193) (fr := (0, 0)) (heap_alloc_new w3 _)) (by simp [Value.oneCell']) (by omega) (by unfold maxLen; omega) (by omega) (by omega) (w3.heap.size + 1) (by simp) ?_; intro g cap w4 hown4 hgrow4 hat4 hlt4; obtain ⟨x0, x1⟩ := AB.out _ hgrow4))
      all_goals
        go_wp2_with fail
        go_meet
        have R := MidQ.grown (a := a) (M3.out.below ((Below.refl _ _).alloc (Nat.le_refl _) (.cells #[.int .i64 a.slot, .int .i64 a.shard] 193)).drew) hown4 hgrow4 hat4 (by simp) hlt4
        refine ⟨rfl, Lib.hid ⟨_, _, _, R.1, (Turn.of_below ((Below.refl _ _).alloc (Nat.le_refl _) _).drew).trans R.2.1, ?_⟩⟩
        intro k hk
        rcases hk with hk | rfl
        · exact Or.inl hk
        · rcases R.2.2 with x | x
          · exact Or.inl x
          · exact Or.inr (by simp at x; omega)
    case rest =>
      obtain ⟨rfl, hM⟩ := hcut
      rename World => w4
      obtain ⟨ao4, co4, T4, M4, t4, hT4⟩ := hM.out
      have HM4 := Lib.hid M4; have HT4 := Lib.hid hT4; have TT4 := Lib.hid t4
      have HSS := Lib.hid (show S bm from SS.out.2.1)
      clear M4 t4 hT4 hM q0 q1 k0 k1 fr0
      obtain ⟨m0, m1, mfr, mown, mmq, mbm, mTb, -⟩ := HM4.out
      have hpS : ∀ j, ¬ S (p + j) := fun j h => by have := H.out.lt _ h; have := HPS.out; omega
      have A4 := A3.out.of (w' := w4) fun i => TT4.out.cell (lt_of_cell A3.out.1) (hpS 0)
      have P4 : PlIn w4 (p + 1) a.slot a.shard := ⟨(TT4.out.cell (lt_of_cell P3.out.1) (hpS 1)).trans P3.out.1, (TT4.out.cell (lt_of_cell P3.out.1) (hpS 1)).trans P3.out.2⟩
      obtain ⟨w5, hr5, m5, t5⟩ := MapQ.put_run (w := w4.drew) (mmq.block rfl) (by unfold maxLen; omega) a.slot a.shard (.agg #[.int .i64 a.slot, .int .i64 a.query, .int .i64 a.shard, .int .i64 a.seq, .int .i64 a.epoch, .string a.text, .int .i64 a.k, .int .i64 a.batch, .bool a.first, .int .i64 a.ad, .string a.aw]) HK.out
      have T5 := TurnQ.of_mapTurned (F := fun k => k = bm) t5 rfl
      have lb4 : b < w4.drew.heap.size := lt_of_cell m0
      have hpb : p ≠ bm ∧ p + 1 ≠ bm := ⟨fun e => MapQ.no_cell mmq 0 _ (e ▸ A4.1), fun e => MapQ.no_cell mmq 0 _ (e ▸ P4.1)⟩
      have A5 := AskIn.of (w := w4) (w' := w5) A4 fun i => T5.cell (w := w4.drew) (lt_of_cell A4.1) hpb.1
      have P5 : PlIn w5 (p + 1) a.slot a.shard := ⟨(T5.cell (w := w4.drew) (lt_of_cell P4.1) hpb.2).trans P4.1, (T5.cell (w := w4.drew) (lt_of_cell P4.1) hpb.2).trans P4.2⟩
      have m51 : w5.cell? ⟨b, 1, none⟩ = some (.map (some bm)) := (T5.cell (w := w4.drew) lb4 mbm).trans m1
      have M5 := Lib.hid (MidQ.map (w := w4.drew) (MidQ.below HM4.out (Below.refl _ _).drew) m5 t5)
      have T5' := Lib.hid (TT4.out.trans' (G := fun k => k = bm) ((Turn.drewN _ w4 1).trans T5) (fun i hi => by subst hi; exact Or.inl HSS.out))
      unfold AskIn at A4 A5
      unfold PlIn at P4 P5
      obtain ⟨y0, y1, y2, y3, y4, y5, y6, y7, y8, y9, y10⟩ := A4
      obtain ⟨z0, z1, z2, z3, z4, z5, z6, z7, z8, z9, z10⟩ := A5
      obtain ⟨q0, q1⟩ := P4
      obtain ⟨r0, r1⟩ := P5
      clear mfr mown mmq m5 t5 T5 hpS
      go_upto_region 9 with fail
      go_region_held3 (fun w' => w'.cell? ⟨b, 1, none⟩ = some (.map (some bm)) ∧ w'.cell? ⟨p + 1, 0, none⟩ = some (.int .i64 a.slot) ∧ w'.cell? ⟨p + 1, 1, none⟩ = some (.int .i64 a.shard) ∧ w'.cell? ⟨p, 0, none⟩ = some (.int .i64 a.slot) ∧ w'.cell? ⟨p, 1, none⟩ = some (.int .i64 a.query) ∧ w'.cell? ⟨p, 2, none⟩ = some (.int .i64 a.shard) ∧ w'.cell? ⟨p, 3, none⟩ = some (.int .i64 a.seq) ∧ w'.cell? ⟨p, 4, none⟩ = some (.int .i64 a.epoch) ∧ w'.cell? ⟨p, 5, none⟩ = some (.string a.text) ∧ w'.cell? ⟨p, 6, none⟩ = some (.int .i64 a.k) ∧ w'.cell? ⟨p, 7, none⟩ = some (.int .i64 a.batch) ∧ w'.cell? ⟨p, 8, none⟩ = some (.bool a.first) ∧ w'.cell? ⟨p, 9, none⟩ = some (.int .i64 a.ad) ∧ w'.cell? ⟨p, 10, none⟩ = some (.string a.aw)) (go_keep) (fail)
      go_wp2_with fail
      have R := push_done_new (w := w) HM.out HF.out M5.out (fun k hk => (HT4.out k hk).imp id (fun h => Nat.le_trans B3.out.size h)) ((Turn.of_below B3.out).trans T5'.out)
      go_ret
      exact R
end Go.Proofs.YtgnaiahnednllaaGreat
namespace Go.Proofs.YtgnaiahnednllaaGreat
open Go.RowKit
set_option linter.unusedVariables false
set_option maxRecDepth 20000
theorem newer_lit (a b : AskP) (z : Bool) (w : World) (hz : decide (Qu.newer a b) = z) :
    Calls Tryz.prog 214 #[.agg #[.int .i64 a.slot, .int .i64 a.query, .int .i64 a.shard, .int .i64 a.seq, .int .i64 a.epoch, .string a.text, .int .i64 a.k, .int .i64 a.batch, .bool a.first, .int .i64 a.ad, .string a.aw], .agg #[.int .i64 b.slot, .int .i64 b.query, .int .i64 b.shard, .int .i64 b.seq, .int .i64 b.epoch, .string b.text, .int .i64 b.k, .int .i64 b.batch, .bool b.first, .int .i64 b.ad, .string b.aw]] w
      fun e w' => e = .returned (.bool z) ∧ Below w.heap.size w w' := by
  subst hz; exact newer_any a b w
set_option maxHeartbeats 3200000 in
set_option maxRecDepth 100000 in
theorem qpush_put (a x : AskP) (b : Nat) {L : List AskP} {S : Nat → Prop} (w : World) (h : QAt w b L S) (hg : Qu.Good L) (hm : Qu.may a) (hf : Qu.find L a.slot a.shard = some x) :
    Calls Tryz.prog 168 #[.pointer (some ⟨b, 0, none⟩), .agg #[.int .i64 a.slot, .int .i64 a.query, .int .i64 a.shard, .int .i64 a.seq, .int .i64 a.epoch, .string a.text, .int .i64 a.k, .int .i64 a.batch, .bool a.first, .int .i64 a.ad, .string a.aw]] w (PushP w b L S a) := by
  have H1 := Lib.hid (decide_eq_true hm.1); have H2 := Lib.hid (decide_eq_true hm.2)
  have HM := Lib.hid hm; have HG := Lib.hid hg; have HF := Lib.hid hf
  have hk : wf2 a.slot a.shard := ⟨wf_small (by have := hm.1; omega), wf_small (by have := hm.2; omega)⟩
  have HK := Lib.hid hk
  have H := Lib.hid h
  clear h hg hm hf hk
  go_enter Tryz.func168, Tryz.ntmps168
  go_wp2_with fail
  refine (qin_lit _ _ _ _ _ H1.out).mono ?_
  rintro e w' ⟨rfl, rfl⟩
  go_wp2_with fail
  refine (qin_lit _ _ _ _ _ H2.out).mono ?_
  rintro e w' ⟨rfl, rfl⟩
  go_upto_region 4 with fail
  have F0 := push_start w a 41 193 (0, 0) (0, 0)
  generalize (w.alloc (.cells #[.int .i64 a.slot, .int .i64 a.query, .int .i64 a.shard, .int .i64 a.seq, .int .i64 a.epoch, .string a.text, .int .i64 a.k, .int .i64 a.batch, .bool a.first, .int .i64 a.ad, .string a.aw] 41)).alloc (.cells #[.int .i64 a.slot, .int .i64 a.shard] 193) = w2 at *
  obtain ⟨hb2, hA2, hP2⟩ := F0
  obtain ⟨p, hp⟩ : ∃ p, w.heap.size = p := ⟨_, rfl⟩
  have HPS := Lib.hid hp
  rw [hp] at hA2 hP2
  rw [hp]
  have B2 := Lib.hid hb2; have A2 := Lib.hid hA2; have P2 := Lib.hid hP2
  have Q2 := Lib.hid (H.out.below hb2)
  clear hb2 hp
  obtain ⟨ao, co, bm, c0, c1, fr, own, mq, n1, s1, s2, s3, s4⟩ := Q2.out
  have OW := Lib.hid own; have MQ := Lib.hid mq; have FR := Lib.hid fr; have C0 := Lib.hid c0; have C1 := Lib.hid c1
  obtain ⟨p0, p1⟩ := hP2
  have FQ := Lib.hid (show Qu.fQ L a.slot a.shard = some (Qu.val x) by unfold Qu.fQ; rw [HF.out]; rfl)
  have SS := Lib.hid (And.intro s1 (And.intro s2 (And.intro s3 s4)))
  clear own mq fr s1 s2 s3 s4 hA2
  have hr4 := MapQ.look_run (w := w2.drew) (MQ.out.below (Below.refl _ _).drew) a.slot a.shard HK.out
  rw [FQ.out] at hr4
  have hr5 := MapQ.look_run (w := (w2.alloc (.cells #[.int .i64 0, .int .i64 0, .int .i64 0, .int .i64 0, .int .i64 0, .string ⟨#[]⟩, .int .i64 0, .int .i64 0, .bool false, .int .i64 0, .string ⟨#[]⟩] 41)).drew) (MQ.out.below ((Below.refl _ _).alloc (Nat.le_refl _) _).drew) a.slot a.shard HK.out
  rw [FQ.out] at hr5
  simp only [Option.getD_some, Option.isSome_some, Qu.val] at hr4 hr5
  have hS0 : Below w2.heap.size w2 w2 ∧ w2.cell? ⟨b, 1, none⟩ = some (.map (some bm)) ∧ w2.cell? ⟨p + 1, 0, none⟩ = some (.int .i64 a.slot) ∧ w2.cell? ⟨p + 1, 1, none⟩ = some (.int .i64 a.shard) := ⟨Below.refl _ _, c1, p0, p1⟩
  go_cut [6, 7] from 27 to 35 (fun v6 v7 wc => v6 = .pointer (some ⟨w2.heap.size, 0, none⟩) ∧ v7 = .bool true ∧ Hid (Below w2.heap.size w2 wc ∧ AskIn wc w2.heap.size x))
  case first =>
    go_region_held3 (fun w' => Below w2.heap.size w2 w' ∧ w'.cell? ⟨b, 1, none⟩ = some (.map (some bm)) ∧ w'.cell? ⟨p + 1, 0, none⟩ = some (.int .i64 a.slot) ∧ w'.cell? ⟨p + 1, 1, none⟩ = some (.int .i64 a.shard))
      (first | assumption | (refine three_carry hS0 ?_; repeat' (first | exact Below.refl _ _ | refine Below.drew ?_ | refine Below.alloc ?_ (by simp <;> omega) _ | refine Below.setCell ?_ (by simp <;> omega) _)))
      (fail)
    all_goals
      go_wp2_with fail
      go_meet
      exact ⟨rfl, rfl, Lib.hid ⟨((Below.refl _ _).alloc (Nat.le_refl _) _).drew, (askIn_new _ x _ _ _ rfl).below (Below.refl _ _).drew⟩⟩
  case rest =>
    obtain ⟨rfl, rfl, hB3⟩ := hcut
    rename World => w3
    clear hr4 hr5 hS0 c0 c1 p0 p1
    have hl24 := Qu.good_len HG.out
    have M3 := Lib.hid (MidQ.below (w := w2) ⟨C0.out, C1.out, FR.out, OW.out, MQ.out, n1, SS.out⟩ hB3.out.1)
    have A3 := Lib.hid (A2.out.below hB3.out.1)
    have P3 := Lib.hid (P2.out.below hB3.out.1)
    have B3 := Lib.hid (B2.out.trans (hB3.out.1.mono B2.out.size))
    have hX := hB3.out.2
    have hA := A3.out
    obtain ⟨p6, hp6⟩ : ∃ p6, w2.heap.size = p6 := ⟨_, rfl⟩
    rw [hp6] at hX
    rw [hp6]
    unfold AskIn at hX hA
    obtain ⟨y0, y1, y2, y3, y4, y5, y6, y7, y8, y9, y10⟩ := hA
    obtain ⟨z0, z1, z2, z3, z4, z5, z6, z7, z8, z9, z10⟩ := hX
    clear hp6 hB3
    by_cases hn : Qu.newer x a
    · have CN := Lib.hid (fun w => newer_lit x a true w (decide_eq_true hn))
      have HP := Lib.hid (fun w' hb => push_no (w' := w') H.out (show Qu.pushed L a = false by unfold Qu.pushed; rw [HF.out]; simp [hn]) hb)
      clear hn
      go_wp2_with fail
      refine (CN.out _).mono ?_
      rintro e w4 ⟨rfl, hb⟩
      go_wp2_with fail
      go_ret
      exact HP.out _ (B3.out.trans (hb.mono B3.out.size))
    · have CN := Lib.hid (fun w => newer_lit x a false w (decide_eq_false hn))
      have HN := Lib.hid hn
      clear hn
      go_wp2_with fail
      refine (CN.out _).mono ?_
      rintro e w4 ⟨rfl, hb⟩
      have HM4 := Lib.hid (M3.out.below hb)
      have TT4 := Lib.hid (Turn.of_below (F := S) hb)
      have HSS := Lib.hid (show S bm from SS.out.2.1)
      clear hb y0 y1 y2 y3 y4 y5 y6 y7 y8 y9 y10 z0 z1 z2 z3 z4 z5 z6 z7 z8 z9 z10
      obtain ⟨m0, m1, mfr, mown, mmq, mbm, mTb, -⟩ := HM4.out
      have hpS : ∀ j, ¬ S (p + j) := fun j h => by have := H.out.lt _ h; have := HPS.out; omega
      have A4 := A3.out.of (w' := w4) fun i => TT4.out.cell (lt_of_cell A3.out.1) (hpS 0)
      have P4 : PlIn w4 (p + 1) a.slot a.shard := ⟨(TT4.out.cell (lt_of_cell P3.out.1) (hpS 1)).trans P3.out.1, (TT4.out.cell (lt_of_cell P3.out.1) (hpS 1)).trans P3.out.2⟩
      obtain ⟨w5, hr5, m5, t5⟩ := MapQ.put_run (w := w4.drew) (mmq.block rfl) (by unfold maxLen; omega) a.slot a.shard (.agg #[.int .i64 a.slot, .int .i64 a.query, .int .i64 a.shard, .int .i64 a.seq, .int .i64 a.epoch, .string a.text, .int .i64 a.k, .int .i64 a.batch, .bool a.first, .int .i64 a.ad, .string a.aw]) HK.out
      have T5 := TurnQ.of_mapTurned (F := fun k => k = bm) t5 rfl
      have lb4 : b < w4.drew.heap.size := lt_of_cell m0
      have hpb : p ≠ bm ∧ p + 1 ≠ bm := ⟨fun e => MapQ.no_cell mmq 0 _ (e ▸ A4.1), fun e => MapQ.no_cell mmq 0 _ (e ▸ P4.1)⟩
      have A5 := AskIn.of (w := w4) (w' := w5) A4 fun i => T5.cell (w := w4.drew) (lt_of_cell A4.1) hpb.1
      have P5 : PlIn w5 (p + 1) a.slot a.shard := ⟨(T5.cell (w := w4.drew) (lt_of_cell P4.1) hpb.2).trans P4.1, (T5.cell (w := w4.drew) (lt_of_cell P4.1) hpb.2).trans P4.2⟩
      have m51 : w5.cell? ⟨b, 1, none⟩ = some (.map (some bm)) := (T5.cell (w := w4.drew) lb4 mbm).trans m1
      have M5 := Lib.hid (MidQ.map (w := w4.drew) (MidQ.below HM4.out (Below.refl _ _).drew) m5 t5)
      have T5' := Lib.hid (TT4.out.trans' (G := fun k => k = bm) ((Turn.drewN _ w4 1).trans T5) (fun i hi => by subst hi; exact Or.inl HSS.out))
      unfold AskIn at A4 A5
      unfold PlIn at P4 P5
      obtain ⟨y0, y1, y2, y3, y4, y5, y6, y7, y8, y9, y10⟩ := A4
      obtain ⟨z0, z1, z2, z3, z4, z5, z6, z7, z8, z9, z10⟩ := A5
      obtain ⟨q0, q1⟩ := P4
      obtain ⟨r0, r1⟩ := P5
      clear mfr mown mmq m5 t5 T5 hpS
      go_upto_region 9 with fail
      go_region_held3 (fun w' => w'.cell? ⟨b, 1, none⟩ = some (.map (some bm)) ∧ w'.cell? ⟨p + 1, 0, none⟩ = some (.int .i64 a.slot) ∧ w'.cell? ⟨p + 1, 1, none⟩ = some (.int .i64 a.shard) ∧ w'.cell? ⟨p, 0, none⟩ = some (.int .i64 a.slot) ∧ w'.cell? ⟨p, 1, none⟩ = some (.int .i64 a.query) ∧ w'.cell? ⟨p, 2, none⟩ = some (.int .i64 a.shard) ∧ w'.cell? ⟨p, 3, none⟩ = some (.int .i64 a.seq) ∧ w'.cell? ⟨p, 4, none⟩ = some (.int .i64 a.epoch) ∧ w'.cell? ⟨p, 5, none⟩ = some (.string a.text) ∧ w'.cell? ⟨p, 6, none⟩ = some (.int .i64 a.k) ∧ w'.cell? ⟨p, 7, none⟩ = some (.int .i64 a.batch) ∧ w'.cell? ⟨p, 8, none⟩ = some (.bool a.first) ∧ w'.cell? ⟨p, 9, none⟩ = some (.int .i64 a.ad) ∧ w'.cell? ⟨p, 10, none⟩ = some (.string a.aw)) (go_keep) (fail)
      go_wp2_with fail
      have R := push_done_put (w := w) HM.out HF.out HN.out M5.out (fun k hk => Or.inl hk) ((Turn.of_below B3.out).trans T5'.out)
      go_ret
      exact R
/-- the last one found -/
theorem qpush_any (a : AskP) (b : Nat) {L : List AskP} {S : Nat → Prop} (w : World) (h : QAt w b L S) (hg : Qu.Good L) :
    Calls Tryz.prog 168 #[.pointer (some ⟨b, 0, none⟩), .agg #[.int .i64 a.slot, .int .i64 a.query, .int .i64 a.shard, .int .i64 a.seq, .int .i64 a.epoch, .string a.text, .int .i64 a.k, .int .i64 a.batch, .bool a.first, .int .i64 a.ad, .string a.aw]] w (PushP w b L S a) := by
  by_cases hm : Qu.may a
  · cases hf : Qu.find L a.slot a.shard with
    | none => exact qpush_new a b w h hg hm hf
    | some x => exact qpush_put a x b w h hg hm hf
  · exact qpush_out a b w h hm
end Go.Proofs.YtgnaiahnednllaaGreat
namespace Go.Proofs.YtgnaiahnednllaaGreat
open Go.RowKit
set_option linter.unusedVariables false
set_option maxRecDepth 20000
theorem ask_info : (Tryz.prog.info? 41).map (fun i => (i.zero, i.size, i.bytes)) = some (some zAsk, 11, 104) := by kernel_rfl
def RetA (w : World) (L : List AskP) (e : Ending) (w' : World) : Prop := ∃ a c, e = .returned (.slice a L.length c) ∧ w'.ownsRow w.heap.size 41 11 (.slice a L.length c) L.length (asksV L) ∧ Below w.heap.size w w'
theorem allS_carry {w w' : World} {b bm p n : Nat} {x y : Int} {v : Value} {f : Int → Int → Option Value} (hk : wf2 x y) (hv : (f x y).getD zAsk = v)
    (h : w.cell? ⟨b, 1, none⟩ = some (.map (some bm)) ∧ w.cell? ⟨p, 0, none⟩ = some (.int .i64 x) ∧ w.cell? ⟨p, 1, none⟩ = some (.int .i64 y) ∧ MapQ w bm n f) (e : ∀ k, k = b ∨ k = p ∨ k = bm → w'.heap[k]? = w.heap[k]?) :
    w'.cell? ⟨b, 1, none⟩ = some (.map (some bm)) ∧ w'.cell? ⟨p, 0, none⟩ = some (.int .i64 x) ∧ w'.cell? ⟨p, 1, none⟩ = some (.int .i64 y) ∧ MapQ w' bm n f ∧ (Instr.lookup 189 (.map (some bm)) (.agg #[.int .i64 x, .int .i64 y]) false).run Tryz.prog w' = .ok v w' := by
  obtain ⟨h1, h2, h3, h4⟩ := h
  have hm := h4.block (e bm (Or.inr (Or.inr rfl)))
  refine ⟨(World.cell?_of_block (w := w) (e b (Or.inl rfl))).trans h1, (World.cell?_of_block (w := w) (e p (Or.inr (Or.inl rfl)))).trans h2, (World.cell?_of_block (w := w) (e p (Or.inr (Or.inl rfl)))).trans h3, hm, ?_⟩
  rw [← hv]; exact hm.get_run x y hk
set_option maxHeartbeats 3200000 in
set_option maxRecDepth 100000 in
theorem qAll_any (b : Nat) {L : List AskP} {S : Nat → Prop} (w : World) (h : QAt w b L S) (hg : Qu.Good L) :
    Calls Tryz.prog 71 #[.pointer (some ⟨b, 0, none⟩)] w (RetA w L) := by
  obtain ⟨i0, hi, hz0, hz1, hz2⟩ := info_parts ask_info
  have hl24 := Qu.good_len hg
  have HG := Lib.hid hg
  have H := Lib.hid h
  obtain ⟨ao, co, bm, M⟩ := h.mid
  have HM := Lib.hid M
  obtain ⟨c0, c1, -⟩ := M
  have lb := lt_of_cell c0
  have lm := HM.out.2.2.2.2.1.lt
  clear h hg
  go_enter Tryz.func71, Tryz.ntmps71
  go_wp2_with fail
  go_loopw [3, 13] (fun ov iv wr => ∃ (j : Nat) (av : Option Addr) (cv : Nat), j ≤ L.length ∧ iv = .int .i64 j ∧ ov = .slice av j cv ∧ Hid (wr.ownsRow w.heap.size 41 11 (.slice av j cv) j (asksV (L.take j))) ∧ Hid (Below w.heap.size w wr)) (fun _ iv _ => L.length - (intOf iv).toNat)
  case atStart => exact ⟨0, none, 0, by omega, rfl, rfl, Lib.hid (World.ownsRow_nil _ _ _ _), Lib.hid (Below.refl _ _)⟩
  case round =>
    obtain ⟨j, av, cv, hj, rfl, rfl, hO, hB⟩ := hrel
    by_cases hlt : j < L.length
    · have Mr := Lib.hid (HM.out.below hB.out)
      have hown := Mr.out.2.2.2.1
      obtain ⟨g, rfl⟩ : ∃ g, ao = some ⟨g, 0, none⟩ := by
        obtain ⟨g, cap', hv⟩ := Joins.ownsRow_form hown (by omega)
        simp only [Value.slice.injEq] at hv
        exact ⟨g, hv.1⟩
      have e0 := hown.cellAt (j * 2) (by omega)
      have e1 := hown.cellAt (j * 2 + 1) (by omega)
      obtain ⟨v0, v1⟩ := plcV_at L j hlt
      rw [v0] at e0
      rw [v1] at e1
      have hfa := Qu.find_at HG.out hlt
      have hmay := HG.out.may _ (getD_memAsk L j hlt)
      have htk := asksV_snoc (L.take j) (L.getD j ask0)
      have htk2 : L.take (j + 1) = L.take j ++ [L.getD j ask0] := by rw [List.take_add_one, List.getD_eq_getElem?_getD, List.getElem?_eq_getElem hlt]; rfl
      rw [← htk2] at htk
      obtain ⟨x, hx⟩ : ∃ x, L.getD j ask0 = x := ⟨_, rfl⟩
      rw [hx] at e0 e1 hfa hmay htk
      have TK := Lib.hid htk
      have FA := Lib.hid (show (Qu.fQ L x.slot x.shard).getD zAsk = .agg #[.int .i64 x.slot, .int .i64 x.query, .int .i64 x.shard, .int .i64 x.seq, .int .i64 x.epoch, .string x.text, .int .i64 x.k, .int .i64 x.batch, .bool x.first, .int .i64 x.ad, .string x.aw] from by unfold Qu.fQ; rw [hfa]; rfl)
      have HK := Lib.hid (show wf2 x.slot x.shard from ⟨wf_small (by have := hmay.1; omega), wf_small (by have := hmay.2; omega)⟩)
      have x1 : (0 : Int) ≤ (j : Int) := by omega
      have x2 : (j : Int) < (L.length : Int) := by omega
      clear hown v0 v1 hfa hmay htk htk2 hx
      have OB := Lib.hid (fun k hk => hO.out.lt k hk)
      have ONN := Lib.hid (fun o => owns_below hO.out (below_one wr o))
      have F5 := Lib.hid (plIn_new wr x.slot x.shard wr.heap.size 193 (0, 0) rfl)
      have B5 := Lib.hid (below_one wr (.cells #[.int .i64 x.slot, .int .i64 x.shard] 193))
      have hsz : (wr.alloc (.cells #[.int .i64 x.slot, .int .i64 x.shard] 193)).heap.size = wr.heap.size + 1 := by simp
      have hws := hB.out.size
      go_upto_region 7 with fail
      have O5 := Lib.hid (ONN.out (.cells #[.int .i64 x.slot, .int .i64 x.shard] 193))
      have M5 := Lib.hid (Mr.out.below B5.out)
      have BW := Lib.hid (hB.out.trans (B5.out.mono hB.out.size))
      generalize wr.alloc (.cells #[.int .i64 x.slot, .int .i64 x.shard] 193) = w5 at *
      obtain ⟨p, hp⟩ : ∃ p, wr.heap.size = p := ⟨_, rfl⟩
      rw [hp] at F5 OB hsz hws
      rw [hp]
      have hS0 : w5.cell? ⟨b, 1, none⟩ = some (.map (some bm)) ∧ w5.cell? ⟨p, 0, none⟩ = some (.int .i64 x.slot) ∧ w5.cell? ⟨p, 1, none⟩ = some (.int .i64 x.shard) ∧ MapQ w5 bm L.length (Qu.fQ L) := ⟨M5.out.2.1, F5.out.1, F5.out.2, M5.out.2.2.2.2.1⟩
      have HS := Lib.hid hS0
      have lt5 : ∀ k, k = b ∨ k = p ∨ k = bm → k < w5.heap.size := by intro k hk; omega
      have ne5 : ∀ k, k = b ∨ k = p ∨ k = bm → some k ≠ (Value.slice av j cv).ownBlock := by
        intro k hk e
        have := OB.out k e.symm
        omega
      have LT := Lib.hid lt5; have NE := Lib.hid ne5
      have HSZ := Lib.hid hsz
      clear hS0 lt5 ne5 hp e0 e1 hsz
      go_region_held3 (fun w' => w'.cell? ⟨b, 1, none⟩ = some (.map (some bm)) ∧ w'.cell? ⟨p, 0, none⟩ = some (.int .i64 x.slot) ∧ w'.cell? ⟨p, 1, none⟩ = some (.int .i64 x.shard) ∧ MapQ w' bm L.length (Qu.fQ L) ∧ (Instr.lookup 189 (.map (some bm)) (.agg #[.int .i64 x.slot, .int .i64 x.shard]) false).run Tryz.prog w' = .ok (.agg #[.int .i64 x.slot, .int .i64 x.query, .int .i64 x.shard, .int .i64 x.seq, .int .i64 x.epoch, .string x.text, .int .i64 x.k, .int .i64 x.batch, .bool x.first, .int .i64 x.ad, .string x.aw]) w')
        (first | assumption | exact allS_carry HK.out FA.out HS.out (fun k hk => rfl) | exact allS_carry HK.out FA.out HS.out (fun k hk => Below.heap_alloc _ _ _ (LT.out k hk)) | exact allS_carry HK.out FA.out HS.out (fun k hk => (hgrow.block k (by have := LT.out k hk; show k < (w5.alloc _).heap.size; simp; omega) (NE.out k hk)).trans (Below.heap_alloc _ _ _ (LT.out k hk))))
        ((refine step_append_lies _ (by rfl) _ _ _ (by rfl) w.heap.size 41 i0 _ 11 104 Tryz.underlying57 hi hz0 hz1 hz2 rfl (by omega) (.slice av j cv) j (asksV (L.take j)) (by rfl) ((O5.out.alloc _).drew) ⟨w5.heap.size, 0, none⟩ 1 1 [.int .i64 x.slot, .int .i64 x.query, .int .i64 x.shard, .int .i64 x.seq, .int .i64 x.epoch, .string x.text, .int .i64 x.k, .int .i64 x.batch, .bool x.first, .int .i64 x.ad, .string x.aw] (by rfl) (by rfl) (World.news_of_block (cs := #[.int .i64 x.slot, .int .i64 x.query, .int .i64 x.shard, .int .i64 x.seq, .int .i64 x.epoch, .string x.text, .int .i64 x.k, .int .i64 x.batch, .bool x.first, .int .i64 x.ad, .string x.aw]) (t := 41) (fr := (0, 0)) (heap_alloc_new w5 _)) (by simp [Value.oneCell']) (by omega) (by unfold maxLen; omega) (by omega) (by have := BW.out.size; simp; omega) (w5.heap.size + 1) (by simp) ?_; intro g3 c3 w6 hown hgrow hat hlt3))
      all_goals
        have O6 := Lib.hid (show w6.ownsRow w.heap.size 41 11 (.slice (some ⟨g3, 0, none⟩) (j + 1) c3) (j + 1) (asksV (L.take (j + 1))) from by rw [TK.out]; exact hown)
        have B6 := Lib.hid ((BW.out.alloc (BW.out.size) (.cells #[.int .i64 x.slot, .int .i64 x.query, .int .i64 x.shard, .int .i64 x.seq, .int .i64 x.epoch, .string x.text, .int .i64 x.k, .int .i64 x.batch, .bool x.first, .int .i64 x.ad, .string x.aw] 41)).drew.grown hgrow (by have := BW.out.size; show w.heap.size ≤ (w5.alloc _).heap.size; simp; omega) (fun k hk => (OB.out k hk).1))
        clear hown hgrow
        go_wp2_with fail
        go_roundw
        case rel => exact ⟨j + 1, _, c3, by omega, by go_num, rfl, O6, B6⟩
        case measure => simp [intOf] <;> omega
    · obtain rfl : j = L.length := by omega
      have OE := Lib.hid (show wr.ownsRow w.heap.size 41 11 (.slice av L.length cv) L.length (asksV L) from by have := hO.out; rwa [List.take_length] at this)
      clear hO hlt
      go_wp2_with fail
      go_ret
      exact ⟨av, cv, rfl, OE.out, hB.out⟩
end Go.Proofs.YtgnaiahnednllaaGreat
namespace Go.Proofs.YtgnaiahnednllaaGreat
open Go.RowKit
set_option linter.unusedVariables false
set_option maxRecDepth 20000
theorem dlPlaces_info : (Tryz.prog.info? 193).map (fun i => (i.zero, i.size, i.bytes)) = some (some (.agg #[.int .i64 0, .int .i64 0]), 2, 16) := by kernel_rfl
theorem dlPlaces_zero (w : World) : (zeroValue 193).run Tryz.prog w = .ok (.agg #[.int .i64 0, .int .i64 0]) w := by kernel_rfl
theorem dlPlaces_cells : (Builtin.zeroCells (Value.agg #[.int .i64 0, .int .i64 0]).cells 1).toList = [.int .i64 0, .int .i64 0] := by kernel_rfl
set_option maxHeartbeats 3200000 in
set_option maxRecDepth 100000 in
theorem deletePlaces_any (base g cap n i j : Nat) (xs : List Value) (w : World) (h : w.ownsRow base 193 2 (.slice (some ⟨g, 0, none⟩) n cap) n xs) (hi : i < n) (hj : j = i + 1) (hone : ∀ u ∈ xs, u.oneCell' = true) :
    Calls Tryz.prog 126 #[.slice (some ⟨g, 0, none⟩) n cap, .int .i64 i, .int .i64 j] w fun e w' => e = .returned (.slice (some ⟨g, 0, none⟩) (n - 1) cap) ∧ w'.ownsRow base 193 2 (.slice (some ⟨g, 0, none⟩) (n - 1) cap) (n - 1) (xs.take (i * 2) ++ xs.drop ((i + 1) * 2)) ∧ w.grownBy w' (some g) := by
  obtain ⟨i0, hi0, hz0, hz1, hz2⟩ := info_parts dlPlaces_info
  obtain ⟨hnc, hcm⟩ : n ≤ cap ∧ cap ≤ maxLen := by
    rcases h.2 with ⟨e1, _⟩ | ⟨g', cap', cur, hv, hb, hh, hc, hc2, hs, hx⟩
    · cases e1
    · simp only [Value.slice.injEq, Option.some.injEq, Addr.mk.injEq, and_true, true_and] at hv
      obtain ⟨rfl, rfl⟩ := hv
      exact ⟨hc, hc2⟩
  unfold maxLen at hcm
  have hl := h.1
  obtain ⟨news, hnews⟩ : ∃ news, news = xs.drop (j * 2) := ⟨_, rfl⟩
  have hlen : news.length = (n - j) * 2 := by rw [hnews, List.length_drop, hl]; omega
  obtain ⟨A, hA, hsrc⟩ : ∃ A : Addr, (if cap = j then some (⟨g, 0, none⟩ : Addr) else some ⟨g, j * 2, none⟩) = some A ∧ Hid (∀ t u, news[t]? = some u → w.drew.cell? (A.add t) = some u) := by
    by_cases hc : cap = j
    · refine ⟨⟨g, 0, none⟩, by simp [hc], fun t u hu => ?_⟩
      have h0 : news.length = 0 := by rw [hlen]; omega
      rw [List.length_eq_zero_iff.1 h0] at hu
      simp at hu
    · refine ⟨⟨g, j * 2, none⟩, by simp [hc], fun t u hu => ?_⟩
      have ht := (List.getElem?_eq_some_iff.1 hu).1
      rw [hlen] at ht
      rw [Go.WideShapes.add_plain]
      rw [hnews, List.getElem?_drop] at hu
      exact (h.cellAt (j * 2 + t) (by omega)).trans hu
  have s1 : Hid (news.length = (n - j) * 2) := hlen
  have s2 : Hid (∀ u ∈ news, u.oneCell' = true) := fun u hu => hone u (List.mem_of_mem_drop (hnews ▸ hu))
  have s3 : Hid (∀ t, t < news.length → (w.drew.cell? ⟨g, 0 + i * 2 + t, none⟩).isSome = true ∧ w.drew.frozen? ⟨g, 0 + i * 2 + t, none⟩ = false) := by
    intro t ht
    rw [hlen] at ht
    rw [Nat.zero_add]
    refine ⟨?_, h.frozenAt _⟩
    show (w.cell? _).isSome = true
    rw [h.cellAt (i * 2 + t) (by omega), List.getElem?_eq_getElem (by rw [hl]; omega)]; rfl
  have R1 := owns_setCells (g := g) news (i * 2) w.drew xs h (by rw [hlen]; omega)
  obtain ⟨W1, hW1⟩ : ∃ W1, W1 = w.drew.setCells g (0 + i * 2) news := ⟨_, rfl⟩
  rw [Nat.zero_add] at hW1
  rw [← hW1] at R1
  obtain ⟨O1, G1⟩ := R1
  have hj1 : i + (n - j) = n - 1 := by omega
  have hcl : ∀ ty, (Builtin.clear_ #[188] ty #[.slice (some ⟨g, (i + (n - j)) * 2, none⟩) (n - (i + (n - j))) (cap - (i + (n - j)))]).run Tryz.prog W1 = .ok (.tuple #[]) (W1.setCells g ((i + (n - j)) * 2) [.int .i64 0, .int .i64 0]) := by
    intro ty
    have h1 : n - (i + (n - j)) = 1 := by omega
    rw [h1]
    exact run_clear_many W1 _ _ ty _ Tryz.underlying188 dlPlaces_zero g _ 1 _ (by omega) [.int .i64 0, .int .i64 0] dlPlaces_cells (by simp [Value.oneCell']) (fun t ht => by
      rw [O1.cellAt _ (by simp at ht; omega), List.getElem?_eq_getElem (by rw [O1.1]; simp at ht; omega)]; rfl) (fun t _ => O1.frozenAt _)
  have R2 := owns_setCells (g := g) [.int .i64 0, .int .i64 0] ((n - 1) * 2) W1 _ O1 (by simp; omega)
  have R3 := owns_fewer R2.1 (show n - 1 ≤ n by omega)
  rw [hnews, hj, ow_del xs [.int .i64 0, .int .i64 0] n i 2 hl hi rfl] at R3
  have FIN := Lib.hid R3
  have GR := Lib.hid (show w.grownBy (W1.setCells g ((n - 1) * 2) [.int .i64 0, .int .i64 0]) (some g) from ⟨R2.2.os.trans G1.os, R2.2.tape.trans G1.tape, R2.2.output.trans G1.output, Nat.le_trans G1.size R2.2.size, fun k hk hne => (R2.2.block k (Nat.lt_of_lt_of_le hk G1.size) hne).trans (G1.block k hk hne)⟩)
  have hW : Hid (W1 = w.drew.setCells g (0 + i * 2) news) := by rw [Nat.zero_add]; exact hW1
  have HJ1 := Lib.hid hj1; have HJ := Lib.hid hj
  have hic : i ≤ cap := by omega
  have hjc : j ≤ cap := by omega
  have hlt : i < j := by omega
  have hjn : j ≤ n := by omega
  clear hW1 R2 R3 O1 G1 hnews hlen h hl hj1 hj hone
  go_enter Tryz.func126, Tryz.ntmps126
  go_wp2_with fail
  go_region_law (refine step_append_room rfl (.tmp 22) (.tmp 25) 188 rfl 193 i0 2 Tryz.underlying188 hi0 hz1 g 0 i cap (by simp [Act.eval, Act.put]) A (n - j) (cap - j) news (by simp [Act.eval, Act.put]) s1.out hsrc.out s2.out (by omega) s3.out ?_; rw [← hW.out])
  go_wp2
  go_ret
  rw [HJ1.out]
  exact ⟨rfl, FIN.out, GR.out⟩
end Go.Proofs.YtgnaiahnednllaaGreat
namespace Go.Proofs.YtgnaiahnednllaaGreat
open Go.RowKit
set_option linter.unusedVariables false
set_option maxRecDepth 20000
theorem qPop_empty (b : Nat) {S : Nat → Prop} (w : World) (h : QAt w b [] S) : Calls Tryz.prog 76 #[.pointer (some ⟨b, 0, none⟩)] w fun e w' => e = .returned (.tuple #[.agg #[.int .i64 0, .int .i64 0, .int .i64 0, .int .i64 0, .int .i64 0, .string ⟨#[]⟩, .int .i64 0, .int .i64 0, .bool false, .int .i64 0, .string ⟨#[]⟩], .bool false]) ∧ Below w.heap.size w w' := by
  have H := Lib.hid (h.below (below_one w (.cells #[.int .i64 0, .int .i64 0, .int .i64 0, .int .i64 0, .int .i64 0, .string ⟨#[]⟩, .int .i64 0, .int .i64 0, .bool false, .int .i64 0, .string ⟨#[]⟩] 41)))
  clear h
  go_enter Tryz.func76, Tryz.ntmps76
  go_wp2_with fail
  refine (qLen_any b _ H.out).mono ?_
  rintro e w' ⟨rfl, rfl⟩
  go_wp2_with fail
  exact bodyPost_ret (v := .tuple #[.agg #[.int .i64 0, .int .i64 0, .int .i64 0, .int .i64 0, .int .i64 0, .string ⟨#[]⟩, .int .i64 0, .int .i64 0, .bool false, .int .i64 0, .string ⟨#[]⟩], .bool false]) (by simp [results, go_sem]) rfl ⟨rfl, below_one _ _⟩
theorem MidQ.dropped {w w1 : World} {b bm n g co m : Nat} {f : Int → Int → Option Value} {x : AskP} {l : List AskP} {S : Nat → Prop} (h : MidQ w b bm n f (some ⟨g, 0, none⟩) co (x :: l) S) (hm : m = l.length)
    (own : w1.ownsRow 0 193 2 (.slice (some ⟨g, 0, none⟩) m co) m (plcV l)) (hg : w.grownBy w1 (some g)) :
    MidQ (w1.setCell ⟨b, 0, none⟩ (.slice (some ⟨g, 0, none⟩) m co)) b bm n f (some ⟨g, 0, none⟩) co l S ∧ Turn S w (w1.setCell ⟨b, 0, none⟩ (.slice (some ⟨g, 0, none⟩) m co)) ∧ w1.cell? ⟨b, 0, none⟩ = some (.slice (some ⟨g, 0, none⟩) (x :: l).length co) ∧ w1.frozen? ⟨b, 0, none⟩ = false := by
  obtain ⟨h1, h2, h3, h4, h5, h6, h7, h8, h9, h10⟩ := h
  subst hm
  obtain ⟨z1, z2, z3⟩ := h9 g rfl
  have hb := h10 b h7
  have bb : w1.heap[b]? = w.heap[b]? := hg.block b hb (fun e => z2 (by injection e with e; exact e.symm))
  have bbm : w1.heap[bm]? = w.heap[bm]? := hg.block bm (h10 bm h8) (fun e => z3 (by injection e with e; exact e.symm))
  have cb : ∀ i, w1.cell? ⟨b, i, none⟩ = w.cell? ⟨b, i, none⟩ := fun i => World.cell?_of_block (w := w) bb
  have tt : Turn S w w1 := ⟨hg.os, hg.tape, hg.output, hg.size, fun k hk hn => hg.block k hk (fun e => hn (by injection e with e; subst e; exact z1))⟩
  refine ⟨⟨cset_at ((cb 0).trans h1), ?_, fun i => ?_, ?_, (h5.block bbm).setCell (Ne.symm h6), h6, h7, h8, h9, fun k hk => ?_⟩, tt.trans (Turn.setCell h7), (cb 0).trans h1, ?_⟩
  · rw [cset_ne (by omega), cb]; exact h2
  · rw [fset_any, World.frozen?_of_block (w := w) bb]; exact h3 i
  · refine owns_block0 own (fun g' hg' => ?_)
    injection hg' with e; injection e with e; subst e
    exact Below.heap_setCell _ _ _ _ z2
  · have := hg.size
    rw [show (w1.setCell ⟨b, 0, none⟩ (.slice (some ⟨g, 0, none⟩) l.length co)).heap.size = w1.heap.size by simp [World.setCell]]
    exact Nat.lt_of_lt_of_le (h10 k hk) this
  · rw [World.frozen?_of_block (w := w) bb]; exact h3 0
theorem plcV_one : ∀ (ks : List AskP), ∀ u ∈ plcV ks, u.oneCell' = true
  | [], u, h => by simp [plcV] at h
  | k :: ks, u, h => by
    simp only [plcV, List.mem_cons] at h
    rcases h with h | h | h
    · subst h; rfl
    · subst h; rfl
    · exact plcV_one ks u h
theorem turn_store (w : World) (p : Nat) (x : AskP) : Turn (fun k => k = p) w (((((((((((w.setCell ⟨p, 0, none⟩ (.int .i64 x.slot)).setCell ⟨p, 1, none⟩ (.int .i64 x.query)).setCell ⟨p, 2, none⟩ (.int .i64 x.shard)).setCell ⟨p, 3, none⟩ (.int .i64 x.seq)).setCell ⟨p, 4, none⟩ (.int .i64 x.epoch)).setCell ⟨p, 5, none⟩ (.string x.text)).setCell ⟨p, 6, none⟩ (.int .i64 x.k)).setCell ⟨p, 7, none⟩ (.int .i64 x.batch)).setCell ⟨p, 8, none⟩ (.bool x.first)).setCell ⟨p, 9, none⟩ (.int .i64 x.ad)).setCell ⟨p, 10, none⟩ (.string x.aw)) :=
  (turn_set (turn_set (turn_set (turn_set (turn_set (turn_set (turn_set (turn_set (turn_set (turn_set (turn_set (Turn.refl _ _) rfl) rfl) rfl) rfl) rfl) rfl) rfl) rfl) rfl) rfl) rfl)
def PopP (w : World) (b : Nat) (x : AskP) (l : List AskP) (S : Nat → Prop) (e : Ending) (w' : World) : Prop := e = .returned (.tuple #[.agg #[.int .i64 x.slot, .int .i64 x.query, .int .i64 x.shard, .int .i64 x.seq, .int .i64 x.epoch, .string x.text, .int .i64 x.k, .int .i64 x.batch, .bool x.first, .int .i64 x.ad, .string x.aw], .bool true]) ∧ QAt w' b l S ∧ Turn S w w'
theorem pop_start (w : World) (x y : Int) (e1 e2 : TypeId) (f1 f2 : Nat × Nat) : Below w.heap.size w ((w.alloc (.cells #[.int .i64 0, .int .i64 0, .int .i64 0, .int .i64 0, .int .i64 0, .string ⟨#[]⟩, .int .i64 0, .int .i64 0, .bool false, .int .i64 0, .string ⟨#[]⟩] e1 f1)).alloc (.cells #[.int .i64 x, .int .i64 y] e2 f2)) ∧
    AskIn ((w.alloc (.cells #[.int .i64 0, .int .i64 0, .int .i64 0, .int .i64 0, .int .i64 0, .string ⟨#[]⟩, .int .i64 0, .int .i64 0, .bool false, .int .i64 0, .string ⟨#[]⟩] e1 f1)).alloc (.cells #[.int .i64 x, .int .i64 y] e2 f2)) w.heap.size ask0 ∧ (∀ i, ((w.alloc (.cells #[.int .i64 0, .int .i64 0, .int .i64 0, .int .i64 0, .int .i64 0, .string ⟨#[]⟩, .int .i64 0, .int .i64 0, .bool false, .int .i64 0, .string ⟨#[]⟩] e1 (0, 0))).alloc (.cells #[.int .i64 x, .int .i64 y] e2 f2)).frozen? ⟨w.heap.size, i, none⟩ = false) ∧ PlIn ((w.alloc (.cells #[.int .i64 0, .int .i64 0, .int .i64 0, .int .i64 0, .int .i64 0, .string ⟨#[]⟩, .int .i64 0, .int .i64 0, .bool false, .int .i64 0, .string ⟨#[]⟩] e1 f1)).alloc (.cells #[.int .i64 x, .int .i64 y] e2 f2)) (w.heap.size + 1) x y :=
  ⟨((Below.refl _ _).alloc (Nat.le_refl _) _).alloc (by simp) _, (askIn_new w ask0 _ e1 f1 rfl).below (below_one _ _), fun i => ((below_one _ _).frozen (p := ⟨w.heap.size, i, none⟩) (by simp)).trans (frozen_alloc rfl), plIn_new _ _ _ _ e2 f2 (by simp)⟩
set_option maxHeartbeats 3200000 in
set_option maxRecDepth 100000 in
theorem qPop_any (b : Nat) {x : AskP} {l : List AskP} {S : Nat → Prop} (w : World) (h : QAt w b (x :: l) S) (hg : Qu.Good (x :: l)) : Calls Tryz.prog 76 #[.pointer (some ⟨b, 0, none⟩)] w (PopP w b x l S) := by
  have hl24 := Qu.good_len hg
  have HG := Lib.hid hg
  have H := Lib.hid h
  have H1 := Lib.hid (h.below (below_one w (.cells #[.int .i64 0, .int .i64 0, .int .i64 0, .int .i64 0, .int .i64 0, .string ⟨#[]⟩, .int .i64 0, .int .i64 0, .bool false, .int .i64 0, .string ⟨#[]⟩] 41)))
  obtain ⟨L, hL⟩ : ∃ L, x :: l = L := ⟨_, rfl⟩
  obtain ⟨n, hn⟩ : ∃ n, L.length = n := ⟨_, rfl⟩
  have hn0 : 0 < n := by rw [← hn, ← hL]; simp
  have hmay := hg.may x (by simp)
  have hfa : Qu.find L x.slot x.shard = some x := by
    have := Qu.find_at hg (i := 0) (by simp)
    rw [← hL]; simpa using this
  have CL := Lib.hid (fun w' (h' : QAt w' b L S) => (show Calls Tryz.prog 125 #[.pointer (some ⟨b, 0, none⟩)] w' fun e w'' => e = .returned (.int .i64 n) ∧ w' = w'' from hn ▸ qLen_any b w' h'))
  have FA := Lib.hid (show (Qu.fQ L x.slot x.shard).getD zAsk = .agg #[.int .i64 x.slot, .int .i64 x.query, .int .i64 x.shard, .int .i64 x.seq, .int .i64 x.epoch, .string x.text, .int .i64 x.k, .int .i64 x.batch, .bool x.first, .int .i64 x.ad, .string x.aw] from by unfold Qu.fQ; rw [hfa]; rfl)
  have HK := Lib.hid (show wf2 x.slot x.shard from ⟨wf_small (by have := hmay.1; omega), wf_small (by have := hmay.2; omega)⟩)
  have HLL := Lib.hid hL; have HN := Lib.hid hn
  rw [hL] at H H1 hl24
  rw [hn] at hl24
  obtain ⟨ao, co, bm, M1⟩ := H1.out.mid
  have HM := Lib.hid M1
  rw [hn] at HM
  have hown := M1.2.2.2.1
  obtain ⟨g, rfl⟩ : ∃ g, ao = some ⟨g, 0, none⟩ := by
    obtain ⟨g, cap', hv⟩ := Joins.ownsRow_form hown (by omega)
    simp only [Value.slice.injEq] at hv
    exact ⟨g, hv.1⟩
  have e0 := hown.cellAt 0 (by omega)
  have e1 := hown.cellAt 1 (by omega)
  rw [← hL] at e0 e1
  simp only [plcV, List.getElem?_cons_zero, List.getElem?_cons_succ] at e0 e1
  have k0 := M1.1
  rw [hn] at k0
  have x1 : (0 : Int) < (n : Int) := by omega
  have hne : ((n : Int) == 0) = false := by simp; omega
  have START := Lib.hid (pop_start w x.slot x.shard 41 193 (0, 0) (0, 0))
  have M2 := Lib.hid (MidQ.below M1 (below_one _ (.cells #[.int .i64 x.slot, .int .i64 x.shard] 193)))
  have HWS := Lib.hid (H.out.lt)
  clear h hg hL hn hmay hfa M1 hown
  go_enter Tryz.func76, Tryz.ntmps76
  go_wp2_with fail
  refine (CL.out _ H1.out).mono ?_
  rintro e w' ⟨rfl, rfl⟩
  clear CL
  go_upto_region 4 with fail
  obtain ⟨hb2, hA2, hf2, hP2⟩ := START.out
  clear START e0 e1 k0 H1 HM
  generalize (w.alloc (.cells #[.int .i64 0, .int .i64 0, .int .i64 0, .int .i64 0, .int .i64 0, .string ⟨#[]⟩, .int .i64 0, .int .i64 0, .bool false, .int .i64 0, .string ⟨#[]⟩] 41)).alloc (.cells #[.int .i64 x.slot, .int .i64 x.shard] 193) = w2 at *
  obtain ⟨p, hp⟩ : ∃ p, w.heap.size = p := ⟨_, rfl⟩
  have HPS := Lib.hid hp
  rw [hp] at hA2 hP2 hf2
  rw [hp]
  have B2 := Lib.hid hb2; have A2 := Lib.hid hA2; have P2 := Lib.hid hP2; have F2 := Lib.hid hf2
  have HS := Lib.hid (show w2.cell? ⟨b, 1, none⟩ = some (.map (some bm)) ∧ w2.cell? ⟨p + 1, 0, none⟩ = some (.int .i64 x.slot) ∧ w2.cell? ⟨p + 1, 1, none⟩ = some (.int .i64 x.shard) ∧ MapQ w2 bm n (Qu.fQ L) from ⟨M2.out.2.1, hP2.1, hP2.2, by have := M2.out.2.2.2.2.1; rwa [HN.out] at this⟩)
  have LT := Lib.hid (show ∀ k, k = b ∨ k = p + 1 ∨ k = bm → k < w2.heap.size from by
    intro k hk
    rcases hk with rfl | rfl | rfl
    · exact lt_of_cell M2.out.1
    · exact lt_of_cell hP2.1
    · exact M2.out.2.2.2.2.1.lt)
  clear hb2 hA2 hP2 hf2 hp
  go_cut [5] from 16 to 21 (fun v wc => v = .pointer (some ⟨w2.heap.size, 0, none⟩) ∧ Hid (Below w2.heap.size w2 wc ∧ AskIn wc w2.heap.size x))
  case first =>
    go_region_held3 (fun w' => w'.cell? ⟨b, 1, none⟩ = some (.map (some bm)) ∧ w'.cell? ⟨p + 1, 0, none⟩ = some (.int .i64 x.slot) ∧ w'.cell? ⟨p + 1, 1, none⟩ = some (.int .i64 x.shard) ∧ MapQ w' bm n (Qu.fQ L) ∧ (Instr.lookup 189 (.map (some bm)) (.agg #[.int .i64 x.slot, .int .i64 x.shard]) false).run Tryz.prog w' = .ok (.agg #[.int .i64 x.slot, .int .i64 x.query, .int .i64 x.shard, .int .i64 x.seq, .int .i64 x.epoch, .string x.text, .int .i64 x.k, .int .i64 x.batch, .bool x.first, .int .i64 x.ad, .string x.aw]) w')
      (first | assumption | exact allS_carry HK.out FA.out HS.out (fun k hk => rfl) | exact allS_carry HK.out FA.out HS.out (fun k hk => Below.heap_alloc _ _ _ (LT.out k hk)))
      (fail)
    all_goals
      go_wp2_with fail
      go_meet
      exact ⟨rfl, Lib.hid ⟨((Below.refl _ _).alloc (Nat.le_refl _) _).drew, (askIn_new _ x _ _ _ rfl).below (Below.refl _ _).drew⟩⟩
  case rest =>
    obtain ⟨rfl, hB3⟩ := hcut
    rename World => w3
    have hb3 := hB3.out.1
    have X3 := Lib.hid hB3.out.2
    have M3 := Lib.hid (M2.out.below hb3)
    have A3 := Lib.hid (A2.out.below hb3)
    have P3 := Lib.hid (P2.out.below hb3)
    have F3 := Lib.hid (fun i => (hb3.frozen (p := ⟨p, i, none⟩) (lt_of_cell A2.out.1)).trans (F2.out i))
    have B3 := Lib.hid (B2.out.trans (hb3.mono B2.out.size))
    obtain ⟨p5, hp5⟩ : ∃ p5, w2.heap.size = p5 := ⟨_, rfl⟩
    have hpp : p ≤ p5 := by have := B2.out.size; have h2 := HPS.out; omega
    have HPP := Lib.hid hpp
    have P5NE := Lib.hid (show p5 ≠ p from by have := lt_of_cell A2.out.1; omega)
    rw [hp5] at X3
    rw [hp5]
    have k0 := M3.out.1
    rw [HN.out] at k0
    have kown := M3.out.2.2.2.1
    rw [HN.out] at kown
    have CD := Lib.hid (deletePlaces_any 0 g co n 0 1 (plcV L) w3 kown hn0 rfl (plcV_one _))
    clear hb3 hp5 hB3 kown
    go_wp2_with fail
    refine CD.out.mono ?_
    rintro e w4 ⟨rfl, ho, hg4⟩
    have hll : n - 1 = l.length := by have := HN.out; have h2 := HLL.out; rw [← h2] at this; simp at this; omega
    rw [hll] at ho
    have R4 := MidQ.dropped (x := x) (l := l) (w := w3) (w1 := w4) (m := l.length) (by rw [HLL.out]; exact M3.out) rfl (by
      have e : plcV L = .int .i64 x.slot :: .int .i64 x.shard :: plcV l := by rw [← HLL.out]; rfl
      rw [e] at ho; simpa using ho) hg4
    obtain ⟨R41, R42, R43, R44⟩ := R4
    rw [HLL.out, HN.out] at R43
    have M5 := Lib.hid R41; have T5 := Lib.hid R42
    clear ho CD R41 R42
    go_upto_region 6 with fail
    clear hll R43 R44
    generalize w4.setCell ⟨b, 0, none⟩ (.slice (some ⟨g, 0, none⟩) l.length co) = w5 at *
    have hpS : ∀ k, p ≤ k → ¬ S k := fun k hk h => by have := HWS.out k h; have h2 := HPS.out; omega
    have A5 := Lib.hid (A3.out.of (w' := w5) fun i => T5.out.cell (lt_of_cell A3.out.1) (hpS p (Nat.le_refl _)))
    have F5 := Lib.hid (fun i => (T5.out.frozen (o := i) (lt_of_cell A3.out.1) (hpS p (Nat.le_refl _))).trans (F3.out i))
    have X5 := Lib.hid (X3.out.of (w' := w5) fun i => T5.out.cell (lt_of_cell X3.out.1) (hpS p5 HPP.out))
    have P5 := Lib.hid (show PlIn w5 (p + 1) x.slot x.shard from ⟨(T5.out.cell (lt_of_cell P3.out.1) (hpS (p + 1) (by omega))).trans P3.out.1, (T5.out.cell (lt_of_cell P3.out.1) (hpS (p + 1) (by omega))).trans P3.out.2⟩)
    have MQ5 := Lib.hid (show MapQ w5.drew bm n (Qu.fQ L) from by
      have := (MidQ.below M5.out (Below.refl _ _).drew).2.2.2.2.1
      rwa [HN.out] at this)
    have hbm := M5.out.2.2.2.2.2.1
    have lb5 : b < w5.heap.size := lt_of_cell M5.out.1
    have hnc : ∀ k v, w5.cell? ⟨k, 0, none⟩ = some v → k ≠ bm := fun k v h e => MapQ.no_cell MQ5.out 0 v (e ▸ h)
    have hn1 : p + 1 ≠ bm := hnc _ _ P5.out.1
    have hn2 : p ≠ bm := hnc _ _ A5.out.1
    have hn3 : p5 ≠ bm := hnc _ _ X5.out.1
    have q0 : w5.cell? ⟨b, 1, none⟩ = some (.map (some bm)) := M5.out.2.1
    obtain ⟨q1, q2⟩ := P5.out
    have AFTER := Lib.hid (fun w6 (t : w5.drew.mapTurned w6 bm) => show w6.cell? ⟨b, 1, none⟩ = some (.map (some bm)) ∧ w6.cell? ⟨p + 1, 0, none⟩ = some (.int .i64 x.slot) ∧ w6.cell? ⟨p + 1, 1, none⟩ = some (.int .i64 x.shard) from by
      have T := TurnQ.of_mapTurned (F := fun k => k = bm) t rfl
      exact ⟨(T.cell (w := w5.drew) lb5 hbm).trans q0, (T.cell (w := w5.drew) (lt_of_cell q1) hn1).trans q1, (T.cell (w := w5.drew) (lt_of_cell q1) hn1).trans q2⟩)
    clear hnc hpS
    go_cut [5] from 30 to 34 (fun v wc => v = .pointer (some ⟨p5, 0, none⟩) ∧ Hid (∃ m, MapQ wc bm m (qset (Qu.fQ L) x.slot x.shard none) ∧ m = l.length ∧ w5.drew.mapTurned wc bm))
    case first =>
      go_region_held3 (fun w' => w'.cell? ⟨b, 1, none⟩ = some (.map (some bm)) ∧ w'.cell? ⟨p + 1, 0, none⟩ = some (.int .i64 x.slot) ∧ w'.cell? ⟨p + 1, 1, none⟩ = some (.int .i64 x.shard))
        (first | assumption | exact ⟨q0, q1, q2⟩ | exact AFTER.out _ t6)
        ((refine wp_del_mq (.tmp 33) (.tmp 34) (by rfl) (by rfl) MQ5.out x.slot x.shard (by rfl) HK.out ?_; intro w6 m6 t6))
      all_goals
        go_wp2_with fail
        go_meet
        refine ⟨rfl, Lib.hid ⟨_, m6, ?_, t6⟩⟩
        have e : (Qu.fQ L x.slot x.shard).isSome = true := by
          have := Qu.find_at HG.out (i := 0) (by simp)
          have h2 := HLL.out
          unfold Qu.fQ
          rw [← h2]
          simp at this
          rw [this]; rfl
        rw [if_pos e]
        have := HN.out; have h2 := HLL.out; rw [← h2] at this; simp at this; omega
    case rest =>
      obtain ⟨rfl, hM6⟩ := hcut
      rename World => w6
      obtain ⟨m, m6, rfl, t6⟩ := hM6.out
      have T := TurnQ.of_mapTurned (F := fun k => k = bm) t6 rfl
      have M6 := Lib.hid (MidQ.map (w := w5.drew) (MidQ.below M5.out (Below.refl _ _).drew) m6 t6)
      have A6 := A5.out.of (w' := w6) fun i => T.cell (w := w5.drew) (lt_of_cell A5.out.1) hn2
      have F6 : ∀ i, w6.frozen? ⟨p, i, none⟩ = false := fun i => (T.frozen (w := w5.drew) (lt_of_cell A5.out.1) hn2).trans (F5.out i)
      have X6 := X5.out.of (w' := w6) fun i => T.cell (w := w5.drew) (lt_of_cell X5.out.1) hn3
      have T6 := Lib.hid ((T5.out.trans (Turn.drewN S w5 1)).trans (T.mono (fun k hk => by subst hk; exact M5.out.2.2.2.2.2.2.2.1)))
      unfold AskIn at A6 X6
      obtain ⟨y0, y1, y2, y3, y4, y5, y6, y7, y8, y9, y10⟩ := A6
      obtain ⟨z0, z1, z2, z3, z4, z5, z6, z7, z8, z9, z10⟩ := X6
      have hpb : p ≠ b ∧ p5 ≠ p := ⟨fun e => by have := HWS.out b M5.out.2.2.2.2.2.2.1; have h2 := HPS.out; omega, P5NE.out⟩
      clear T hM6 m6 t6 AFTER q0 q1 q2
      have QQ := M6.out.qat (hn := rfl) (hf := fun a c => by
        have hh := Qu.find_tail HG.out a c
        rw [HLL.out] at hh
        unfold qset Qu.fQ
        rw [hh]
        by_cases e : a = x.slot ∧ c = x.shard
        · rw [if_pos e, if_pos e]; rfl
        · rw [if_neg e, if_neg e])
      have Q6 := Lib.hid QQ
      clear QQ
      go_wp2_with fail
      have TS := turn_store w6 p x
      refine bodyPost_ret (v := .tuple #[.agg #[.int .i64 x.slot, .int .i64 x.query, .int .i64 x.shard, .int .i64 x.seq, .int .i64 x.epoch, .string x.text, .int .i64 x.k, .int .i64 x.batch, .bool x.first, .int .i64 x.ad, .string x.aw], .bool true]) (by simp [results, go_sem, y0, y1, y2, y3, y4, y5, y6, y7, y8, y9, y10]) rfl ⟨rfl, Q6.out.turn TS (fun k hk e => by subst e; have := HWS.out _ hk; have h2 := HPS.out; omega), ?_⟩
      exact (((Turn.of_below B3.out).trans T6.out)).trans' TS (fun k hk => Or.inr (by rw [hk, HPS.out]; exact Nat.le_refl _))
end Go.Proofs.YtgnaiahnednllaaGreat
