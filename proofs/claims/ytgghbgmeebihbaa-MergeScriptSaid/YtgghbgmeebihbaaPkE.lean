/- texts joined -/
import Derived.Test.YtgghbgmeebihbaaPkB
import Derived.StillTailTactics
import Derived.Test.YtgghbgmeebihbaaPkA
import Derived.Laws.AppendOwnNone
/- the document's merge in memory (made by wip/tools/gen/mr1.py) -/
namespace Go.Proofs.Ytgghbgmeebihbaa
open Go.RowKit
set_option linter.unusedVariables false
set_option maxRecDepth 20000
def rsC (x : SM) : List Value := [.int .i64 x.least, .int .i64 x.seq, .bool x.ended, .bool x.rcv, .int .i64 x.last.1, .string x.last.2, .slice x.wa x.wn x.wc]
def rsV : List SM → List Value
  | [] => []
  | x :: l => .int .i64 x.least :: .int .i64 x.seq :: .bool x.ended :: .bool x.rcv :: .int .i64 x.last.1 :: .string x.last.2 :: .slice x.wa x.wn x.wc :: rsV l
theorem rsV_len : ∀ l : List SM, (rsV l).length = l.length * 7
  | [] => rfl
  | x :: l => by simp [rsV, rsV_len l]; omega
theorem rsV_app : ∀ k l : List SM, rsV (k ++ l) = rsV k ++ rsV l
  | [], l => rfl
  | x :: k, l => by simp [rsV, rsV_app k l]
theorem rsV_one : ∀ (l : List SM), ∀ u ∈ rsV l, u.oneCell' = true
  | [], u, h => by simp [rsV] at h
  | x :: l, u, h => by
    simp only [rsV, List.mem_cons] at h
    rcases h with h | h | h | h | h | h | h | h
    · subst h; rfl
    · subst h; rfl
    · subst h; rfl
    · subst h; rfl
    · subst h; rfl
    · subst h; rfl
    · subst h; rfl
    · exact rsV_one l u h
theorem rsV_at : ∀ (l : List SM) (i : Nat), i < l.length → (rsV l)[i * 7]? = some (.int .i64 (l.getD i sm0).least) ∧ (rsV l)[i * 7 + 1]? = some (.int .i64 (l.getD i sm0).seq) ∧ (rsV l)[i * 7 + 2]? = some (.bool (l.getD i sm0).ended) ∧ (rsV l)[i * 7 + 3]? = some (.bool (l.getD i sm0).rcv) ∧ (rsV l)[i * 7 + 4]? = some (.int .i64 (l.getD i sm0).last.1) ∧ (rsV l)[i * 7 + 5]? = some (.string (l.getD i sm0).last.2) ∧ (rsV l)[i * 7 + 6]? = some (.slice (l.getD i sm0).wa (l.getD i sm0).wn (l.getD i sm0).wc)
  | [], i, h => by simp at h
  | x :: l, 0, _ => by simp [rsV]
  | x :: l, i + 1, h => by
    have ih := rsV_at l i (by simpa using h)
    have e1 : (i + 1) * 7 = i * 7 + 1 + 1 + 1 + 1 + 1 + 1 + 1 := by omega
    rw [e1]
    simpa [rsV] using ih
/-- a shard at o of block p -/
def RsAt (w : World) (p o : Nat) (x : SM) : Prop := w.cell? ⟨p, o, none⟩ = some (.int .i64 x.least) ∧ w.cell? ⟨p, o + 1, none⟩ = some (.int .i64 x.seq) ∧ w.cell? ⟨p, o + 2, none⟩ = some (.bool x.ended) ∧ w.cell? ⟨p, o + 3, none⟩ = some (.bool x.rcv) ∧ w.cell? ⟨p, o + 4, none⟩ = some (.int .i64 x.last.1) ∧ w.cell? ⟨p, o + 5, none⟩ = some (.string x.last.2) ∧ w.cell? ⟨p, o + 6, none⟩ = some (.slice x.wa x.wn x.wc)
theorem RsAt.of {w w' : World} {p o : Nat} {x : SM} (h : RsAt w p o x) (e : ∀ i, w'.cell? ⟨p, i, none⟩ = w.cell? ⟨p, i, none⟩) : RsAt w' p o x := by
  unfold RsAt at *
  rw [e, e, e, e, e, e, e]; exact h
theorem RsAt.below {w w' : World} {p o : Nat} {x : SM} (h : RsAt w p o x) (hb : Below w.heap.size w w') : RsAt w' p o x := h.of fun i => hb.cell (p := ⟨p, i, none⟩) (lt_of_cell h.1)
theorem rsAt_new (w : World) (x : SM) (p : Nat) (e : TypeId) (fr : Nat × Nat) (hp : p = w.heap.size) : RsAt (w.alloc (.cells #[.int .i64 x.least, .int .i64 x.seq, .bool x.ended, .bool x.rcv, .int .i64 x.last.1, .string x.last.2, .slice x.wa x.wn x.wc] e fr)) p 0 x := by
  subst hp
  unfold RsAt
  refine ⟨?_, ?_, ?_, ?_, ?_, ?_, ?_⟩ <;> (rw [World.cell?_alloc_mark]; rfl)
def HoldsRS (w : World) (a : Option Addr) (n : Nat) (L : List SM) : Prop := L.length = n ∧ (0 < n → ∃ b o, a = some ⟨b, o, none⟩ ∧ ∀ i, i < n → RsAt w b (o + i * 7) (L.getD i sm0))
theorem HoldsRS.below {w w' : World} {a : Option Addr} {n : Nat} {L : List SM} (h : HoldsRS w a n L) (hb : Below w.heap.size w w') : HoldsRS w' a n L := by
  refine ⟨h.1, fun h0 => ?_⟩
  obtain ⟨b, o, ha, hc⟩ := h.2 h0
  exact ⟨b, o, ha, fun i hi => (hc i hi).below hb⟩
theorem holdsRS_own {w : World} {base : Nat} {e : TypeId} {a : Option Addr} {n c : Nat} {L : List SM} (h : w.ownsRow base e 7 (.slice a n c) n (rsV L)) : HoldsRS w a n L := by
  have hl : L.length = n := by have := h.1; rw [rsV_len] at this; omega
  refine ⟨hl, fun h0 => ?_⟩
  obtain ⟨g, cap', hv⟩ := Joins.ownsRow_form h (by omega)
  simp only [Value.slice.injEq] at hv
  obtain ⟨rfl, -, -⟩ := hv
  refine ⟨g, 0, rfl, fun i hi => ?_⟩
  obtain ⟨v0, v1, v2, v3, v4, v5, v6⟩ := rsV_at L i (by omega)
  unfold RsAt
  simp only [Nat.zero_add]
  exact ⟨(h.cellAt (i * 7) (by omega)).trans v0, (h.cellAt (i * 7 + 1) (by omega)).trans v1, (h.cellAt (i * 7 + 2) (by omega)).trans v2, (h.cellAt (i * 7 + 3) (by omega)).trans v3, (h.cellAt (i * 7 + 4) (by omega)).trans v4, (h.cellAt (i * 7 + 5) (by omega)).trans v5, (h.cellAt (i * 7 + 6) (by omega)).trans v6⟩
/-- block b is a merge: at most so many; T is told; L its shards; its blocks lie in S -/
def RMid (w : World) (b : Nat) (most : Int) (ta : Option Addr) (tc : Nat) (ra : Option Addr) (rc : Nat) (T : List KV) (L : List SM) (S : Nat → Prop) : Prop :=
  w.cell? ⟨b, 1, none⟩ = some (.int .i64 most) ∧ w.cell? ⟨b, 2, none⟩ = some (.slice ta T.length tc) ∧ w.cell? ⟨b, 0, none⟩ = some (.slice ra L.length rc) ∧ (∀ i, w.frozen? ⟨b, i, none⟩ = false) ∧
    w.ownsRow 0 61 2 (.slice ta T.length tc) T.length (keysV T) ∧ w.ownsRow 0 80 7 (.slice ra L.length rc) L.length (rsV L) ∧ (∀ x ∈ L, WtIn w S b ta ra x) ∧ S b ∧ (∀ g, ta = some ⟨g, 0, none⟩ → S g ∧ g ≠ b ∧ ra ≠ some ⟨g, 0, none⟩) ∧ (∀ g, ra = some ⟨g, 0, none⟩ → S g ∧ g ≠ b) ∧ ∀ k, S k → k < w.heap.size
def RMt (w : World) (b : Nat) (most : Int) (T : List KV) (L : List SM) (S : Nat → Prop) : Prop := ∃ ta tc ra rc, RMid w b most ta tc ra rc T L S
theorem RMid.blocks {w w' : World} {b : Nat} {most : Int} {ta : Option Addr} {tc : Nat} {ra : Option Addr} {rc : Nat} {T : List KV} {L : List SM} {S : Nat → Prop} (h : RMid w b most ta tc ra rc T L S) (hs : w.heap.size ≤ w'.heap.size) (hb : ∀ k, S k → w'.heap[k]? = w.heap[k]?) : RMid w' b most ta tc ra rc T L S := by
  obtain ⟨h1, h2, h3, h4, h5, h6, h7, h8, h9, h10, h11⟩ := h
  have eb := hb b h8
  exact ⟨(World.cell?_of_block (w := w) eb).trans h1, (World.cell?_of_block (w := w) eb).trans h2, (World.cell?_of_block (w := w) eb).trans h3, fun i => (World.frozen?_of_block (w := w) eb).trans (h4 i), mowns_block0 h5 (fun g hg => hb g (h9 g hg).1), mowns_block0 h6 (fun g hg => hb g (h10 g hg).1), fun x hx => ⟨holdsK_blocks (h7 x hx).1 (fun fb fo e => hb fb ((h7 x hx).2.2.2 fb fo e).1), (h7 x hx).2⟩, h8, h9, h10, fun k hk => Nat.lt_of_lt_of_le (h11 k hk) hs⟩
theorem RMt.blocks {w w' : World} {b : Nat} {most : Int} {T : List KV} {L : List SM} {S : Nat → Prop} (h : RMt w b most T L S) (hs : w.heap.size ≤ w'.heap.size) (hb : ∀ k, S k → w'.heap[k]? = w.heap[k]?) : RMt w' b most T L S := by
  obtain ⟨ta, tc, ra, rc, h⟩ := h
  exact ⟨ta, tc, ra, rc, h.blocks hs hb⟩
theorem RMt.lt {w : World} {b : Nat} {most : Int} {T : List KV} {L : List SM} {S : Nat → Prop} (h : RMt w b most T L S) : ∀ k, S k → k < w.heap.size := by obtain ⟨ta, tc, ra, rc, h1, h2, h3, h4, h5, h6, h7, h8, h9, h10, h11⟩ := h; exact h11
theorem RMt.has {w : World} {b : Nat} {most : Int} {T : List KV} {L : List SM} {S : Nat → Prop} (h : RMt w b most T L S) : S b := by obtain ⟨ta, tc, ra, rc, h1, h2, h3, h4, h5, h6, h7, h8, h9, h10, h11⟩ := h; exact h8
theorem RMt.turn {w w' : World} {b : Nat} {most : Int} {T : List KV} {L : List SM} {S F : Nat → Prop} (h : RMt w b most T L S) (t : Turn F w w') (hF : ∀ k, S k → ¬ F k) : RMt w' b most T L S :=
  h.blocks t.size fun k hk => t.block k (h.lt k hk) (hF k hk)
theorem RMt.below {w w' : World} {b : Nat} {most : Int} {T : List KV} {L : List SM} {S : Nat → Prop} (h : RMt w b most T L S) (t : Below w.heap.size w w') : RMt w' b most T L S :=
  h.blocks t.size fun k hk => t.block k (h.lt k hk)
/-- a shard's row is stored into; what waits lies where it lay, or anew -/
theorem RMid.put {w wf w' : World} {b : Nat} {most : Int} {ta : Option Addr} {tc g rc : Nat} {T : List KV} {L L' : List SM} {S : Nat → Prop} (h : RMid w b most ta tc (some ⟨g, 0, none⟩) rc T L S) (hb : Below w.heap.size w wf) (t : Turn (fun k => k = g) wf w')
    (own : w'.ownsRow 0 80 7 (.slice (some ⟨g, 0, none⟩) L.length rc) L.length (rsV L')) (hl : L'.length = L.length)
    (hx : ∀ x ∈ L', (HoldsK wf x.wa x.wn x.wait ∧ (x.wa = none → x.wn = 0 ∧ x.wc = 0) ∧ x.wn ≤ x.wc ∧ ∀ fb fo, x.wa = some ⟨fb, fo, none⟩ → (S fb ∧ fb ≠ b ∧ ta ≠ some ⟨fb, 0, none⟩ ∧ fb ≠ g) ∨ (w.heap.size ≤ fb ∧ fb < wf.heap.size))) :
    RMt w' b most T L' (fun k => S k ∨ (w.heap.size ≤ k ∧ k < wf.heap.size)) ∧ Turn S w w' := by
  obtain ⟨h1, h2, h3, h4, h5, h6, h7, h8, h9, h10, h11⟩ := h
  obtain ⟨z1, z2⟩ := h10 g rfl
  have hz := hb.size
  have hzt := t.size
  have hlb := h11 b h8
  have hgl := h11 g z1
  have far : ∀ k, k < wf.heap.size → k ≠ g → w'.heap[k]? = wf.heap[k]? := fun k hk hn => t.block k hk hn
  have ob := (far b (by omega) (fun e => z2 e.symm)).trans (hb.block b hlb)
  have cb : ∀ j, w'.cell? ⟨b, j, none⟩ = w.cell? ⟨b, j, none⟩ := fun j => World.cell?_of_block (w := w) ob
  refine ⟨⟨ta, tc, some ⟨g, 0, none⟩, rc, (cb 1).trans h1, (cb 2).trans h2, by rw [hl]; exact (cb 0).trans h3, fun j => ?_, ?_, by rw [hl]; exact own, fun x hx' => ?_, Or.inl h8, fun q hq => ⟨Or.inl (h9 q hq).1, (h9 q hq).2⟩, fun q hq => ⟨Or.inl (h10 q hq).1, (h10 q hq).2⟩, fun k hk => ?_⟩, ?_⟩
  · rw [World.frozen?_of_block (w := w) ob]; exact h4 j
  · refine mowns_block0 h5 (fun q hq => ?_)
    have hql := h11 q (h9 q hq).1
    exact (far q (by omega) (fun e => (h9 q hq).2.2 (by rw [e]))).trans (hb.block q hql)
  · obtain ⟨y1, y2, y3, y5⟩ := hx x hx'
    have fne : ∀ fb fo, x.wa = some ⟨fb, fo, none⟩ → fb < wf.heap.size ∧ fb ≠ g := fun fb fo e => by
      rcases y5 fb fo e with hh | hh
      · have := h11 fb hh.1; exact ⟨by omega, hh.2.2.2⟩
      · exact ⟨hh.2, by omega⟩
    refine ⟨holdsK_blocks y1 (fun fb fo e => far fb (fne fb fo e).1 (fne fb fo e).2), y2, y3, fun fb fo e => ?_⟩
    rcases y5 fb fo e with hh | hh
    · exact ⟨Or.inl hh.1, hh.2.1, hh.2.2.1, fun e2 => (fne fb fo e).2 (by injection e2 with e2; injection e2 with e2; exact e2.symm)⟩
    · refine ⟨Or.inr hh, by omega, fun e2 => ?_, fun e2 => (fne fb fo e).2 (by injection e2 with e2; injection e2 with e2; exact e2.symm)⟩
      have := h11 fb (h9 fb e2).1; omega
  · rcases hk with hk | hk
    · have := h11 k hk; omega
    · omega
  · exact (Turn.of_below hb).trans (t.mono (fun k hk => by rw [hk]; exact z1))
theorem rsV_wait : ∀ (L : List SM) (i : Nat) (wa : Option Addr) (wn wc : Nat) (ks : List KV), i < L.length → (rsV L).set (i * 7 + 6) (.slice wa wn wc) = rsV (L.set i ⟨(L.getD i sm0).least, (L.getD i sm0).ended, (L.getD i sm0).seq, (L.getD i sm0).rcv, (L.getD i sm0).last, wa, wn, wc, ks⟩)
  | [], i, _, _, _, _, h => by simp at h
  | x :: l, 0, wa, wn, wc, ks, _ => by simp [rsV]
  | x :: l, i + 1, wa, wn, wc, ks, h => by
    have ih := rsV_wait l i wa wn wc ks (by simpa using h)
    have e1 : (i + 1) * 7 + 6 = i * 7 + 6 + 1 + 1 + 1 + 1 + 1 + 1 + 1 := by omega
    rw [e1]
    simp only [rsV, List.set_cons_succ, List.getD_cons_succ]
    rw [ih]
theorem rsV_all : ∀ (L : List SM) (i : Nat) (y : SM), i < L.length → (((((((rsV L).set (i * 7) (.int .i64 y.least)).set (i * 7 + 1) (.int .i64 y.seq)).set (i * 7 + 2) (.bool y.ended)).set (i * 7 + 3) (.bool y.rcv)).set (i * 7 + 4) (.int .i64 y.last.1)).set (i * 7 + 5) (.string y.last.2)).set (i * 7 + 6) (.slice y.wa y.wn y.wc) = rsV (L.set i y)
  | [], i, _, h => by simp at h
  | x :: l, 0, y, _ => by simp [rsV]
  | x :: l, i + 1, y, h => by
    have ih := rsV_all l i y (by simpa using h)
    have e0 : (i + 1) * 7 = i * 7 + 1 + 1 + 1 + 1 + 1 + 1 + 1 := by omega
    have e1 : (i + 1) * 7 + 1 = i * 7 + 1 + 1 + 1 + 1 + 1 + 1 + 1 + 1 := by omega
    have e2 : (i + 1) * 7 + 2 = i * 7 + 2 + 1 + 1 + 1 + 1 + 1 + 1 + 1 := by omega
    have e3 : (i + 1) * 7 + 3 = i * 7 + 3 + 1 + 1 + 1 + 1 + 1 + 1 + 1 := by omega
    have e4 : (i + 1) * 7 + 4 = i * 7 + 4 + 1 + 1 + 1 + 1 + 1 + 1 + 1 := by omega
    have e5 : (i + 1) * 7 + 5 = i * 7 + 5 + 1 + 1 + 1 + 1 + 1 + 1 + 1 := by omega
    have e6 : (i + 1) * 7 + 6 = i * 7 + 6 + 1 + 1 + 1 + 1 + 1 + 1 + 1 := by omega
    rw [e1, e2, e3, e4, e5, e6, e0]
    simp only [rsV, List.set_cons_succ]
    rw [ih]
theorem RMid.told {w wf : World} {b : Nat} {most : Int} {ta : Option Addr} {tc g cap : Nat} {ra : Option Addr} {rc : Nat} {T : List KV} {L : List SM} {S : Nat → Prop} {k : KV} (h : RMid w b most ta tc ra rc T L S) (hb : Below w.heap.size w wf)
    (own : wf.ownsRow w.heap.size 61 2 (.slice (some ⟨g, 0, none⟩) (T.length + 1) cap) (T.length + 1) (keysV T ++ [.int .i64 k.1, .string k.2])) :
    RMt (wf.setCell ⟨b, 2, none⟩ (.slice (some ⟨g, 0, none⟩) (T.length + 1) cap)) b most (T ++ [k]) L (fun q => S q ∨ q = g) ∧ Turn S w (wf.setCell ⟨b, 2, none⟩ (.slice (some ⟨g, 0, none⟩) (T.length + 1) cap)) := by
  obtain ⟨h1, h2, h3, h4, h5, h6, h7, h8, h9, h10, h11⟩ := h
  have hz := hb.size
  have hlb := h11 b h8
  have hg := own.lt g rfl
  have ob := hb.block b hlb
  have cb : ∀ i, wf.cell? ⟨b, i, none⟩ = w.cell? ⟨b, i, none⟩ := fun i => World.cell?_of_block (w := w) ob
  have gb : g ≠ b := by omega
  have gS : ∀ q, S q → q ≠ g := fun q hq e => by have := h11 q hq; omega
  have sz : (wf.setCell ⟨b, 2, none⟩ (.slice (some ⟨g, 0, none⟩) (T.length + 1) cap)).heap.size = wf.heap.size := by simp [World.setCell]
  have hlen : (T ++ [k]).length = T.length + 1 := by simp
  have hkv : keysV (T ++ [k]) = keysV T ++ [.int .i64 k.1, .string k.2] := keysV_snoc T k
  refine ⟨⟨some ⟨g, 0, none⟩, cap, ra, rc, ?_, ?_, ?_, fun i => ?_, ?_, ?_, fun x hx => ?_, Or.inl h8, fun q hq => ?_, fun q hq => ⟨Or.inl (h10 q hq).1, (h10 q hq).2⟩, fun q hq => ?_⟩, ?_⟩
  · rw [cset_ne (by omega), cb]; exact h1
  · rw [hlen]; exact cset_at ((cb 2).trans h2)
  · rw [cset_ne (by omega), cb]; exact h3
  · rw [fset_any, World.frozen?_of_block (w := w) ob]; exact h4 i
  · rw [hlen, hkv]
    exact mowns_block0 (own.mono' (B := 0) (Nat.zero_le _)) (fun q hq => by injection hq with hq; injection hq with hq; subst hq; exact mheap_far gb)
  · refine mowns_block0 h6 (fun r hr => ?_)
    rw [mheap_far (h10 r hr).2]
    exact hb.block r (h11 r (h10 r hr).1)
  · obtain ⟨y1, y2, y3, y4⟩ := h7 x hx
    refine ⟨holdsK_blocks y1 (fun fb fo e => ?_), y2, y3, fun fb fo e => ⟨Or.inl (y4 fb fo e).1, (y4 fb fo e).2.1, fun e2 => ?_, (y4 fb fo e).2.2.2⟩⟩
    · rw [mheap_far (y4 fb fo e).2.1]
      exact hb.block fb (h11 fb (y4 fb fo e).1)
    · injection e2 with e2; injection e2 with e2
      exact gS fb (y4 fb fo e).1 e2.symm
  · injection hq with hq; injection hq with hq; subst hq
    exact ⟨Or.inr rfl, gb, fun e => gS g (h10 g e).1 rfl⟩
  · rw [sz]
    rcases hq with hq | hq
    · have := h11 q hq; omega
    · rw [hq]; exact hg.2
  · exact (Turn.of_below hb).trans (Turn.setCell h8)
end Go.Proofs.Ytgghbgmeebihbaa
/- the document's merge: New -/
namespace Go.Proofs.Ytgghbgmeebihbaa
open Go.RowKit
set_option linter.unusedVariables false
set_option maxRecDepth 20000
theorem rs_info : (Try.prog.info? 80).map (fun i => (i.zero, i.size, i.bytes)) = some (some (.agg #[.int .i64 0, .int .i64 0, .bool false, .bool false, .int .i64 0, .string ⟨#[]⟩, .slice none 0 0]), 7, 72) := by kernel_rfl
theorem rmnew_bad (a : Option Addr) (n cap : Nat) (m : Int) (w : World) (h : ¬ ((1 ≤ n ∧ n ≤ 6) ∧ 1 ≤ m ∧ m ≤ 10)) :
    Calls Try.prog 12 #[.slice a n cap, .int .i64 m] w fun e w' => e = .returned (.tuple #[.pointer none, .int .i64 2]) ∧ w = w' := by
  by_cases h1 : 1 ≤ n
  · have a1 : decide ((n : Int) < 1) = false := decide_eq_false (by omega)
    by_cases h2 : n ≤ 6
    · have a2 : decide ((n : Int) > 6) = false := decide_eq_false (by omega)
      by_cases h3 : 1 ≤ m
      · have a3 : decide (m < 1) = false := decide_eq_false (by omega)
        have a4 : decide (m > 10) = true := decide_eq_true (by omega)
        have a5 : decide (10 < m) = true := a4
        clear h
        go_enter Try.func12, Try.ntmps12
        go_wp2_with fail
        exact bodyPost_ret (v := .tuple #[.pointer none, .int .i64 2]) (by simp [results, go_sem]) rfl ⟨rfl, rfl⟩
      · have a3 : decide (m < 1) = true := decide_eq_true (by omega)
        clear h
        go_enter Try.func12, Try.ntmps12
        go_wp2_with fail
        exact bodyPost_ret (v := .tuple #[.pointer none, .int .i64 2]) (by simp [results, go_sem]) rfl ⟨rfl, rfl⟩
    · have a2 : decide ((n : Int) > 6) = true := decide_eq_true (by omega)
      have a3 : decide (6 < n) = true := decide_eq_true (by omega)
      clear h
      go_enter Try.func12, Try.ntmps12
      go_wp2_with fail
      exact bodyPost_ret (v := .tuple #[.pointer none, .int .i64 2]) (by simp [results, go_sem]) rfl ⟨rfl, rfl⟩
  · obtain rfl : n = 0 := by omega
    clear h
    go_enter Try.func12, Try.ntmps12
    go_wp2_with fail
    exact bodyPost_ret (v := .tuple #[.pointer none, .int .i64 2]) (by simp [results, go_sem]) rfl ⟨rfl, rfl⟩
/-- the object while it is made -/
def RNewAt (w0 w : World) (b : Nat) (m : Int) (ra : Option Addr) (rc : Nat) (L : List SM) : Prop :=
  w.cell? ⟨b, 1, none⟩ = some (.int .i64 m) ∧ w.cell? ⟨b, 2, none⟩ = some (.slice none 0 0) ∧ w.cell? ⟨b, 0, none⟩ = some (.slice ra L.length rc) ∧ (∀ i, w.frozen? ⟨b, i, none⟩ = false) ∧ w.ownsRow (b + 1) 80 7 (.slice ra L.length rc) L.length (rsV L) ∧ Below w0.heap.size w0 w
theorem RNewAt.mat {w0 w : World} {b : Nat} {m : Int} {ra : Option Addr} {rc : Nat} {L : List SM} (h : RNewAt w0 w b m ra rc L) (hb : b = w0.heap.size) (hL : ∀ x ∈ L, x.wa = none ∧ x.wn = 0 ∧ x.wc = 0 ∧ x.wait = []) : RMt w b m [] L (fun k => b ≤ k ∧ k < w.heap.size) := by
  obtain ⟨h1, h2, h3, h4, h5, h6⟩ := h
  have hlt := lt_of_cell h1
  refine ⟨none, 0, ra, rc, h1, h2, h3, h4, World.ownsRow_nil _ _ _ _, ?_, fun x hx => ?_, ⟨Nat.le_refl _, hlt⟩, fun g hg => (by cases hg), fun g hg => ?_, fun k hk => hk.2⟩
  · exact ⟨h5.1, h5.2.imp id (fun ⟨g, cap, cur, hv, hge, r⟩ => ⟨g, cap, cur, hv, Nat.zero_le _, r⟩)⟩
  · obtain ⟨e1, e2, e3, e4⟩ := hL x hx
    rw [WtIn, e1, e2, e3, e4]
    exact ⟨HoldsK.nil _ _, fun _ => ⟨rfl, rfl⟩, Nat.le_refl _, fun fb fo e => (by cases e)⟩
  · have := h5.lt g (by rw [hg]; rfl)
    exact ⟨⟨by omega, this.2⟩, by omega⟩
set_option maxHeartbeats 3200000 in
set_option maxRecDepth 100000 in
theorem rmnew_any (a : Option Addr) (n cap : Nat) (zs : List Int) (m : Int) (w : World) (hh : HoldsI .i64 w a n zs) (hn : 1 ≤ n ∧ n ≤ 6) (hm : 1 ≤ m ∧ m ≤ 10) :
    Calls Try.prog 12 #[.slice a n cap, .int .i64 m] w fun e w' => ∃ b S, e = .returned (.tuple #[.pointer (some ⟨b, 0, none⟩), .int .i64 0]) ∧ RMt w' b m [] (zs.map mkS) S ∧ (∀ k, S k → w.heap.size ≤ k) ∧ Below w.heap.size w w' := by
  obtain ⟨i0, hi0, hz0, hz1, hz2⟩ := info_parts rs_info
  have H := Lib.hid hh
  have hl := hh.1
  have hn6 := hn.2
  have N0 := Lib.hid (show RNewAt w (w.alloc (.cells #[.slice none 0 0, .int .i64 m, .slice none 0 0] 78)) w.heap.size m none 0 [] from ⟨by rw [cell_alloc rfl]; rfl, by rw [cell_alloc rfl]; rfl, by rw [cell_alloc rfl]; rfl, fun i => frozen_alloc rfl, World.ownsRow_nil _ _ _ _, below_one _ _⟩)
  have a1 : decide ((n : Int) < 1) = false := decide_eq_false (by omega)
  have a2 : decide ((n : Int) > 6) = false := decide_eq_false (by omega)
  have a2' : decide (6 < n) = false := decide_eq_false (by omega)
  have a3 : decide (m < 1) = false := decide_eq_false (by omega)
  have a4 : decide (m > 10) = false := decide_eq_false (by omega)
  have a4' : decide (10 < m) = false := a4
  clear hh hn hm
  go_enter Try.func12, Try.ntmps12
  go_upto_region 4 with fail
  clear a1 a2 a2' a3 a4 a4'
  generalize w.alloc (.cells #[.slice none 0 0, .int .i64 m, .slice none 0 0] 78) = w1 at *
  obtain ⟨b, hb⟩ : ∃ b, w.heap.size = b := ⟨_, rfl⟩
  have HB := Lib.hid hb
  rw [hb] at N0
  rw [hb]
  clear hb
  go_wp2_with fail
  go_loopw [7] (fun iv wr => ∃ (j : Nat) (L : List SM) (ra : Option Addr) (rc : Nat), j ≤ n ∧ L.length = j ∧ iv = .int .i64 j ∧ Hid (L = (zs.take j).map mkS) ∧ Hid (RNewAt w wr b m ra rc L)) (fun iv _ => n - (intOf iv).toNat)
  case atStart => exact ⟨0, [], none, 0, by omega, rfl, rfl, Lib.hid rfl, N0⟩
  case round =>
    obtain ⟨j, L, ra, rc, hj, hLl, rfl, hL, hN⟩ := hrel
    by_cases hlt : j < n
    · obtain ⟨k0', k1', k2', fz, own, bel⟩ := hN.out
      obtain ⟨pb, po, rfl, hc⟩ := (H.out.below bel).at (by omega)
      have x0 := hc j hlt
      obtain ⟨d, hd⟩ : ∃ d, zs.getD j 0 = d := ⟨_, rfl⟩
      rw [hd] at x0
      have LS := Lib.hid (show L ++ [mkS d] = (zs.take (j + 1)).map mkS from by
        rw [List.take_add_one, List.getElem?_eq_getElem (by omega), List.map_append, ← hL.out]
        have : zs[j]'(by omega) = d := by rw [← hd, List.getD_eq_getElem?_getD, List.getElem?_eq_getElem (by omega)]; rfl
        simp [this])
      rw [hLl] at k2'
      have OW := Lib.hid (show wr.drew.ownsRow (b + 1) 80 7 (.slice ra j rc) j (rsV L) from by rw [hLl] at own; exact owns_below own (Below.refl _ _).drew)
      have i1 : (0 : Int) ≤ (j : Int) := by omega
      have i2 : (j : Int) < (n : Int) := by omega
      have K0 := Lib.hid k0'; have K1 := Lib.hid k1'; have FZ := Lib.hid fz; have BL := Lib.hid bel
      have hbl := lt_of_cell k0'
      have AB := Lib.hid (show ∀ o w', Below (b + 1) (wr.drew.alloc o) w' → (∀ i, w'.cell? ⟨b, i, none⟩ = wr.cell? ⟨b, i, none⟩) ∧ (∀ i, w'.frozen? ⟨b, i, none⟩ = false) ∧ Below (b + 1) wr w' from fun o w' hb => by
        have hbx : Below (b + 1) wr w' := (((Below.refl (b + 1) wr).drew).alloc hbl o).trans hb
        exact ⟨fun i => hbx.cell (p := ⟨b, i, none⟩) (by show b < b + 1; omega), fun i => (hbx.frozen (p := ⟨b, i, none⟩) (by show b < b + 1; omega)).trans (fz i), hbx⟩)
      have n1 : wr.drew.cell? ⟨b, 0, none⟩ = some (.slice ra j rc) := k2'
      have n4 : (wr.alloc (.cells #[.int .i64 d, .int .i64 0, .bool (decide (d < 0)), .bool false, .int .i64 0, .string ⟨#[]⟩, .slice none 0 0] 80)).drew.cell? ⟨b, 0, none⟩ = some (.slice ra j rc) := (Below.cell (below_one wr _) (p := ⟨b, 0, none⟩) (lt_of_cell k2')).trans k2'
      have n5 : (wr.alloc (.cells #[.int .i64 d, .int .i64 0, .bool (decide (d < 0)), .bool false, .int .i64 0, .string ⟨#[]⟩, .slice none 0 0] 80)).cell? ⟨b, 0, none⟩ = some (.slice ra j rc) := n4
      have x1 : wr.drew.cell? ⟨pb, po + j, none⟩ = some (.int .i64 d) := x0
      have K2 := Lib.hid k2'
      clear hc hd fz own bel k0' k1'
      go_upto_region 7 with fail
      go_region_law
        (refine step_append_some (by rfl) _ _ _ (by rfl) (b + 1) 80 i0 _ 7 72 Try.underlying76 hi0 hz0 hz1 hz2 rfl (by omega) (.slice ra j rc) j (rsV L) (by rfl) (OW.out.alloc _) ⟨wr.drew.heap.size, 0, none⟩ 1 1 [.int .i64 d, .int .i64 0, .bool (decide (d < 0)), .bool false, .int .i64 0, .string ⟨#[]⟩, .slice none 0 0] (by rfl) (by rfl) (World.news_of_block (cs := #[.int .i64 d, .int .i64 0, .bool (decide (d < 0)), .bool false, .int .i64 0, .string ⟨#[]⟩, .slice none 0 0]) (t := 80) (fr := (0, 0)) (heap_alloc_new wr.drew _)) (by simp [Value.oneCell']) (by unfold maxLen; omega) (by omega) (by simp; omega) (j + 1) (rsV (L ++ [mkS d])) rfl (by rw [rsV_app]; rfl) ?_; intro a3 c3 w3 hown3 hb3 hnil3; obtain ⟨ca, fa, hbx⟩ := AB.out _ _ hb3; have ky := (ca 0).trans K2.out; have fy := fa 0; have CA := Lib.hid ca; have FA := Lib.hid fa; have BX := Lib.hid hbx; clear ca fa hbx)
      all_goals
        have N3 := Lib.hid (show RNewAt w (w3.setCell ⟨b, 0, none⟩ (.slice a3 (j + 1) c3)) b m a3 c3 (L ++ [mkS d]) from by
          have hll : (L ++ [mkS d]).length = j + 1 := by rw [List.length_append, hLl]; rfl
          refine ⟨?_, ?_, ?_, fun i => ?_, ?_, ?_⟩
          · rw [cset_ne (by omega), CA.out]; exact K0.out
          · rw [cset_ne (by omega), CA.out]; exact K1.out
          · rw [hll]; exact cset_at ky
          · rw [fset_any]; exact FA.out i
          · rw [hll]
            exact mowns_block0 hown3 (fun g e => mheap_far (by have := (hown3.lt g (by rw [e]; rfl)).1; omega))
          · exact ((BL.out.trans (BX.out.mono (by have := HB.out; omega))).setCell (p := ⟨b, 0, none⟩) (by show w.heap.size ≤ b; have := HB.out; omega) _))
        clear hown3 hb3 hnil3 BX ky fy CA FA
        go_wp2_with fail
        go_roundw
        case rel => exact ⟨j + 1, L ++ [mkS d], a3, c3, by omega, by rw [List.length_append, hLl]; rfl, by go_num, LS, N3⟩
        case measure => simp [intOf] <;> omega
    · obtain rfl : j = n := by omega
      have hL2 : L = zs.map mkS := by rw [hL.out, List.take_of_length_le (by omega)]
      have MM := Lib.hid (hN.out.mat HB.out.symm (fun x hx => by
        rw [hL2] at hx
        obtain ⟨d, _, rfl⟩ := List.mem_map.1 hx
        exact ⟨rfl, rfl, rfl, rfl⟩))
      rw [hL2] at MM
      have BE := Lib.hid hN.out.2.2.2.2.2
      clear hL2 hL hN
      go_wp2_with fail
      refine bodyPost_ret (v := .tuple #[.pointer (some ⟨b, 0, none⟩), .int .i64 0]) (by simp [results, go_sem]) rfl ⟨b, _, rfl, MM.out, fun k hk => by rw [HB.out]; exact hk.1, BE.out⟩
end Go.Proofs.Ytgghbgmeebihbaa
/- the document's merge: Done, Wants -/
namespace Go.Proofs.Ytgghbgmeebihbaa
open Go.RowKit
set_option linter.unusedVariables false
set_option maxRecDepth 20000
theorem RMid.at {w : World} {b : Nat} {most : Int} {ta : Option Addr} {tc : Nat} {ra : Option Addr} {rc : Nat} {T : List KV} {L : List SM} {S : Nat → Prop} (h : RMid w b most ta tc ra rc T L S) {i : Nat} (hi : i < L.length) : ∃ g, ra = some ⟨g, 0, none⟩ ∧ RsAt w g (i * 7) (L.getD i sm0) := by
  obtain ⟨h1, h2, h3, h4, h5, h6, h7, h8, h9, h10, h11⟩ := h
  obtain ⟨g, cap', hv⟩ := Joins.ownsRow_form h6 (by omega)
  simp only [Value.slice.injEq] at hv
  obtain ⟨bb, oo, hbe, hc⟩ := (holdsRS_own h6).2 (by omega)
  rw [hv.1] at hbe
  injection hbe with hbe; injection hbe with e1 e2; subst e1 e2
  have := hc i hi
  rw [Nat.zero_add] at this
  exact ⟨g, hv.1, this⟩
def actS (y : SM) : Bool := !y.ended || decide (0 < y.wn)
theorem any_take (p : SM → Bool) (L : List SM) (j : Nat) (hj : j < L.length) : (L.take (j + 1)).any p = ((L.take j).any p || p (L.getD j sm0)) := by
  rw [List.take_add_one, List.getElem?_eq_getElem hj, List.any_append, List.getD_eq_getElem?_getD, List.getElem?_eq_getElem hj]
  simp
theorem any_yes (p : SM → Bool) (L : List SM) (j : Nat) (hj : j < L.length) (h : p (L.getD j sm0) = true) : L.any p = true := List.any_eq_true.2 ⟨_, mem_sm hj, h⟩
set_option maxHeartbeats 3200000 in
set_option maxRecDepth 100000 in
theorem rmdone_any (z : Bool) (b : Nat) {most : Int} {T : List KV} {L : List SM} {S : Nat → Prop} (w : World) (h : RMt w b most T L S) (hl : L.length ≤ 1000) (hz : doneB most T L = z) :
    Calls Try.prog 48 #[.pointer (some ⟨b, 0, none⟩)] w fun e w' => e = .returned (.bool z) ∧ Below w.heap.size w w' := by
  have H := Lib.hid h
  obtain ⟨ta, tc, ra, rc, M⟩ := h
  have k1 := M.1; have k2 := M.2.1
  unfold doneB at hz
  by_cases hm : most ≤ (T.length : Int)
  · have d1 : decide ((T.length : Int) ≥ most) = true := decide_eq_true (by omega)
    have d2 : decide (most ≤ (T.length : Int)) = true := decide_eq_true hm
    rw [d2, Bool.true_or] at hz
    subst hz
    clear M hm
    go_enter Try.func48, Try.ntmps48
    go_upto_region 1 with fail
    go_quiet (fail)
    go_wp2_with fail
    go_ret
    exact ⟨rfl, below_drewN _ _⟩
  · have d1 : decide ((T.length : Int) ≥ most) = false := decide_eq_false (by omega)
    have d2 : decide (most ≤ (T.length : Int)) = false := decide_eq_false hm
    rw [d2, Bool.false_or] at hz
    have HZ := Lib.hid (show (!(L.any actS)) = z from hz)
    clear M hm hz
    go_enter Try.func48, Try.ntmps48
    go_upto_region 1 with fail
    go_quiet (fail)
    go_upto_region 3 with fail
    clear k1 k2 d1 d2
    go_wp2_with fail
    go_loopw [3] (fun iv wr => ∃ j : Nat, j ≤ L.length ∧ iv = .int .i64 j ∧ Hid ((L.take j).any actS = false) ∧ Hid (Below w.heap.size w wr)) (fun iv _ => L.length - (intOf iv).toNat)
    case atStart => exact ⟨0, by omega, rfl, Lib.hid rfl, Lib.hid (below_drewN _ _)⟩
    case round =>
      obtain ⟨j, hj, rfl, hA, hB⟩ := hrel
      obtain ⟨ta, tc, ra, rc, M⟩ := H.out.below hB.out
      have k0' := M.2.2.1
      by_cases hlt : j < L.length
      · obtain ⟨g, rfl, hx⟩ := M.at hlt
        obtain ⟨x, hxe⟩ : ∃ x, L.getD j sm0 = x := ⟨_, rfl⟩
        rw [hxe] at hx
        have hst := any_take actS L j hlt
        have hys := any_yes actS L j hlt
        rw [hA.out, Bool.false_or, hxe] at hst
        rw [hxe] at hys
        obtain ⟨-, -, c2, -, -, -, c6⟩ := hx
        have i1 : (0 : Int) ≤ (j : Int) := by omega
        have i2 : (j : Int) < (L.length : Int) := by omega
        obtain ⟨ze, hze⟩ : ∃ z, x.ended = z := ⟨_, rfl⟩
        rw [hze] at c2
        cases ze
        · have HR := Lib.hid (show z = false from by rw [← HZ.out, hys (by unfold actS; rw [hze]; rfl)]; rfl)
          clear M hxe hst hys hze
          go_wp2_with fail
          go_ret
          have hz1 := HR.out
          subst hz1
          exact ⟨rfl, hB.out⟩
        · by_cases h0 : 0 < x.wn
          · have d1 : decide ((x.wn : Int) > 0) = true := decide_eq_true (by omega)
            have d2 : decide (0 < x.wn) = true := decide_eq_true h0
            have HR := Lib.hid (show z = false from by rw [← HZ.out, hys (by unfold actS; rw [d2]; simp)]; rfl)
            clear M hxe hst hys hze
            go_wp2_with fail
            go_ret
            have hz1 := HR.out
            subst hz1
            exact ⟨rfl, hB.out⟩
          · have d1 : decide ((x.wn : Int) > 0) = false := decide_eq_false (by omega)
            have d2 : decide (0 < x.wn) = false := decide_eq_false h0
            have HN := Lib.hid (show (L.take (j + 1)).any actS = false from by rw [hst]; unfold actS; rw [hze, d2]; rfl)
            clear M hxe hst hys hze
            go_wp2_with fail
            go_roundw
            case rel => exact ⟨j + 1, by omega, by go_num, HN, hB⟩
            case measure => simp [intOf] <;> omega
      · obtain rfl : j = L.length := by omega
        have HR := Lib.hid (show z = true from by rw [← HZ.out, ← List.take_length (l := L), hA.out]; rfl)
        clear M
        go_wp2_with fail
        go_ret
        have hz1 := HR.out
        subst hz1
        exact ⟨rfl, hB.out⟩
set_option maxHeartbeats 3200000 in
set_option maxRecDepth 100000 in
theorem rmwants_any (b : Nat) {most : Int} {T : List KV} {L : List SM} {S : Nat → Prop} (w : World) (h : RMt w b most T L S) (hl : L.length ≤ 1000) :
    Calls Try.prog 43 #[.pointer (some ⟨b, 0, none⟩)] w (RetZ w (natsZ (wantsL most T L))) := by
  obtain ⟨i0, hi, hz0, hz1, hz2⟩ := info_parts num_info
  obtain ⟨zd, hzd⟩ : ∃ z, doneB most T L = z := ⟨_, rfl⟩
  have H := Lib.hid h
  have CD := Lib.hid (fun w' (h : RMt w' b most T L S) => rmdone_any zd b w' h hl hzd)
  have HW := Lib.hid (show wantsL most T L = if zd then [] else wantN L L.length from by unfold wantsL; rw [hzd])
  clear h hzd
  go_enter Try.func43, Try.ntmps43
  go_wp2_with fail
  go_loopw [3, 4] (fun ov iv wr => ∃ (j : Nat) (K : List Nat) (av : Option Addr) (cv : Nat), j ≤ L.length ∧ K.length ≤ j ∧ iv = .int .i64 j ∧ ov = .slice av K.length cv ∧ Hid (K = wantN L j) ∧ Hid (wr.ownsRow w.heap.size 3 1 (.slice av K.length cv) K.length (numsV (natsZ K))) ∧ Hid (zd = true → j = 0) ∧ Hid (Below w.heap.size w wr)) (fun _ iv _ => L.length - (intOf iv).toNat)
  case atStart => exact ⟨0, [], none, 0, by omega, by simp, rfl, rfl, Lib.hid rfl, Lib.hid (World.ownsRow_nil _ _ _ _), Lib.hid (fun _ => rfl), Lib.hid (Below.refl _ _)⟩
  case round =>
    obtain ⟨j, K, av, cv, hj, hKl, rfl, rfl, hK, hO, hZ, hB⟩ := hrel
    obtain ⟨ta, tc, ra, rc, M⟩ := H.out.below hB.out
    have k0' := M.2.2.1
    by_cases hlt : j < L.length
    · clear M
      go_wp2_with fail
      refine (CD.out _ (H.out.below hB.out)).mono ?_
      rintro e w2 ⟨rfl, hb⟩
      have B2 := Lib.hid (hB.out.trans (hb.mono hB.out.size))
      have O2 := Lib.hid (owns_below hO.out hb)
      clear k0' hb hO hB
      obtain ⟨ta, tc, ra, rc, M⟩ := H.out.below B2.out
      have k0' := M.2.2.1
      cases zd
      case true =>
        have HR := Lib.hid (show K = wantsL most T L from by
          rw [HW.out, hK.out, hZ.out rfl]; rfl)
        clear M
        go_wp2_with fail
        go_ret
        have hk := HR.out
        exact ⟨av, cv, by rw [← show K = wantsL most T L from hk, natsZ_len]; rfl, by rw [← show K = wantsL most T L from hk, natsZ_len]; exact O2.out, B2.out⟩
      obtain ⟨g, rfl, hx⟩ := M.at hlt
      obtain ⟨x, hxe⟩ : ∃ x, L.getD j sm0 = x := ⟨_, rfl⟩
      rw [hxe] at hx
      have hws := wantN_snoc L j
      rw [hxe, ← hK.out] at hws
      obtain ⟨-, -, c2, -, -, -, c6⟩ := hx
      have i1 : (0 : Int) ≤ (j : Int) := by omega
      have i2 : (j : Int) < (L.length : Int) := by omega
      obtain ⟨ze, hze⟩ : ∃ z, x.ended = z := ⟨_, rfl⟩
      rw [hze] at c2
      have NZ := Lib.hid (show (false : Bool) = true → j + 1 = 0 from fun h => by cases h)
      cases ze
      case true =>
        have HK := Lib.hid (show K = wantN L (j + 1) from by rw [hws]; unfold prW; rw [hze]; simp)
        clear M hxe hws hze
        go_wp2_with fail
        go_roundw
        case rel => exact ⟨j + 1, K, av, cv, by omega, by omega, by go_num, rfl, HK, O2, NZ, B2⟩
        case measure => simp [intOf] <;> omega
      by_cases h0 : 0 < x.wn
      · have d1 : ((x.wn : Int) == 0) = false := by simp; omega
        have d2 : decide ((x.wn : Int) = 0) = false := decide_eq_false (by omega)
        have d3 : decide (x.wn = 0) = false := decide_eq_false (by omega)
        have HK := Lib.hid (show K = wantN L (j + 1) from by rw [hws]; unfold prW; rw [hze, d3]; simp)
        clear M hxe hws hze
        go_wp2_with fail
        go_roundw
        case rel => exact ⟨j + 1, K, av, cv, by omega, by omega, by go_num, rfl, HK, O2, NZ, B2⟩
        case measure => simp [intOf] <;> omega
      · have d1 : ((x.wn : Int) == 0) = true := by simp; omega
        have d2 : decide ((x.wn : Int) = 0) = true := decide_eq_true (by omega)
        have d3 : decide (x.wn = 0) = true := decide_eq_true (by omega)
        have HK := Lib.hid (show wantN L (j + 1) = K ++ [j] from by rw [hws]; unfold prW; rw [hze, d3]; simp)
        clear M hxe hws hze
        go_wp2_with (at_builtin; refine wpList_append_any rfl (.tmp 40) (.tmp 42) 22 rfl w.heap.size 3 i0 _ 1 8 Try.underlying22 hi hz0 hz1 hz2 rfl (by decide) _ K.length _ rfl (O2.out.alloc _) _ 1 1 [.int .i64 (j : Int)] rfl (some_none _) rfl (row_new _ #[.int .i64 (j : Int)] _ _) (by simp [Value.oneCell']) (by unfold maxLen; omega) (by omega) (by have := B2.out.size; simp; omega) ?_; intro a5 c5 w5 hown5 hb5 hnil5)
        have O5 := Lib.hid (show w5.ownsRow w.heap.size 3 1 (.slice a5 (K ++ [j]).length c5) (K ++ [j]).length (numsV (natsZ (K ++ [j]))) from by rw [List.length_append]; simpa [numsV, natsZ] using hown5)
        have B5 := Lib.hid (B2.out.trans (((Below.refl w.heap.size w2).alloc B2.out.size _).trans hb5))
        clear hown5 hb5 hnil5
        go_roundw
        case rel => exact ⟨j + 1, K ++ [j], a5, c5, by omega, by simp; omega, by go_num, by simp, Lib.hid HK.out.symm, O5, NZ, B5⟩
        case measure => simp [intOf] <;> omega
    · obtain rfl : j = L.length := by omega
      have HR := Lib.hid (show K = wantsL most T L from by
        rw [HW.out]
        cases zd
        · exact hK.out
        · have h0 := hZ.out rfl
          rw [h0] at hK
          exact hK.out)
      clear M
      go_wp2_with fail
      go_ret
      have hk := HR.out
      exact ⟨av, cv, by rw [← hk, natsZ_len]; rfl, by rw [← hk, natsZ_len]; exact hO.out, hB.out⟩
end Go.Proofs.Ytgghbgmeebihbaa
/- the document's merge: sure -/
namespace Go.Proofs.Ytgghbgmeebihbaa
open Go.RowKit
set_option linter.unusedVariables false
set_option maxRecDepth 20000
theorem rsAt_new' (w : World) (x : SM) : RsAt (w.alloc (.cells #[.int .i64 x.least, .int .i64 x.seq, .bool x.ended, .bool x.rcv, .int .i64 x.last.1, .string x.last.2, .slice x.wa x.wn x.wc] 80)) w.heap.size 0 x := rsAt_new w x _ _ (0, 0) rfl
theorem rlessM_lit (a b : KV) (c : Bool) (w : World) (ha : a.2.size ≤ 1048576) (hb : b.2.size ≤ 1048576) (hc : lessK a b = c) :
    Calls Try.prog 44 #[.agg #[.int .i64 a.1, .string a.2], .agg #[.int .i64 b.1, .string b.2]] w fun e w' => e = .returned (.bool c) ∧ Below w.heap.size w w' := by subst hc; exact rlessI_any a b w ha hb
set_option maxHeartbeats 3200000 in
set_option maxRecDepth 100000 in
theorem rmsure_any (k : KV) (z : Bool) (b : Nat) {most : Int} {T : List KV} {L : List SM} {S : Nat → Prop} (w : World) (h : RMt w b most T L S) (hl : L.length ≤ 1000) (hk : k.2.size ≤ 1048576) (hs : ∀ x ∈ L, x.last.2.size ≤ 1048576) (hz : L.any (prM k) = z) :
    Calls Try.prog 49 #[.pointer (some ⟨b, 0, none⟩), .agg #[.int .i64 k.1, .string k.2]] w fun e w' => e = .returned (.bool (!z)) ∧ Below w.heap.size w w' := by
  have H := Lib.hid h
  have HZ := Lib.hid hz
  have HS := Lib.hid hs
  have KI := Lib.hid (kvAt_new w k w.heap.size 61 rfl)
  have B0 := Lib.hid (below_one w (.cells #[.int .i64 k.1, .string k.2] 61))
  clear h hz hs
  go_enter Try.func49, Try.ntmps49
  go_upto_region 2 with fail
  generalize hw1 : w.alloc (.cells #[.int .i64 k.1, .string k.2] 61) = w1 at *
  clear hw1
  go_wp2_with fail
  go_loopw [5] (fun iv wr => ∃ j : Nat, j ≤ L.length ∧ iv = .int .i64 j ∧ Hid ((L.take j).any (prM k) = false) ∧ Hid (KvAt wr w.heap.size k) ∧ Hid (Below w.heap.size w wr)) (fun iv _ => L.length - (intOf iv).toNat)
  case atStart => exact ⟨0, by omega, rfl, Lib.hid rfl, KI, B0⟩
  case round =>
    obtain ⟨j, hj, rfl, hA, hK, hB⟩ := hrel
    obtain ⟨ta, tc, ra, rc, M⟩ := H.out.below hB.out
    have k0' := M.2.2.1
    by_cases hlt : j < L.length
    · obtain ⟨g, rfl, hx⟩ := M.at hlt
      obtain ⟨x, hxe⟩ : ∃ x, L.getD j sm0 = x := ⟨_, rfl⟩
      rw [hxe] at hx
      have hst := any_take (prM k) L j hlt
      have hys := any_yes (prM k) L j hlt
      rw [hA.out, Bool.false_or, hxe] at hst
      rw [hxe] at hys
      have hsz := HS.out x (hxe ▸ mem_sm hlt)
      obtain ⟨c0, c1, c2, c3, c4, c5, c6⟩ := hx
      have i1 : (0 : Int) ≤ (j : Int) := by omega
      have i2 : (j : Int) < (L.length : Int) := by omega
      have BX := Lib.hid (below_one wr (.cells #[.int .i64 x.least, .int .i64 x.seq, .bool x.ended, .bool x.rcv, .int .i64 x.last.1, .string x.last.2, .slice x.wa x.wn x.wc] 80))
      have X3 := Lib.hid (rsAt_new' wr x)
      have B3 := Lib.hid (hB.out.trans (BX.out.mono hB.out.size))
      have K3 := Lib.hid (hK.out.below BX.out)
      have HST := Lib.hid hst
      have HYS := Lib.hid (fun hp => show z = true from by rw [← HZ.out]; exact hys hp)
      clear M hxe hst hys
      go_upto_region 5 with fail
      clear c0 c1 c2 c3 c4 c5 c6
      generalize wr.alloc (.cells #[.int .i64 x.least, .int .i64 x.seq, .bool x.ended, .bool x.rcv, .int .i64 x.last.1, .string x.last.2, .slice x.wa x.wn x.wc] 80) = w3 at *
      generalize wr.heap.size = p at *
      obtain ⟨c0, -, c2, c3, c4, c5, c6⟩ := X3.out
      simp only [Nat.zero_add] at c2 c3 c4 c5 c6
      obtain ⟨y0, y1⟩ := K3.out
      obtain ⟨ze, hze⟩ : ∃ z, x.ended = z := ⟨_, rfl⟩
      rw [hze] at c2
      cases ze
      case true =>
        have HN := Lib.hid (show (L.take (j + 1)).any (prM k) = false from by rw [HST.out]; unfold prM; rw [hze]; rfl)
        clear hze
        go_wp2_with fail
        go_roundw
        case rel => exact ⟨j + 1, by omega, by go_num, HN, K3, B3⟩
        case measure => simp [intOf] <;> omega
      by_cases h0 : 0 < x.wn
      · have d1 : decide ((x.wn : Int) > 0) = true := decide_eq_true (by omega)
        have d2 : decide (0 < x.wn) = true := decide_eq_true h0
        have HN := Lib.hid (show (L.take (j + 1)).any (prM k) = false from by rw [HST.out]; unfold prM; rw [decide_eq_false (show ¬ x.wn = 0 by omega)]; simp)
        clear hze
        go_wp2_with fail
        go_roundw
        case rel => exact ⟨j + 1, by omega, by go_num, HN, K3, B3⟩
        case measure => simp [intOf] <;> omega
      have d1 : decide ((x.wn : Int) > 0) = false := decide_eq_false (by omega)
      have d2 : decide (0 < x.wn) = false := decide_eq_false h0
      have hpm : prM k x = mayS k x := by unfold prM; rw [hze, decide_eq_true (show x.wn = 0 by omega)]; rfl
      have HPM := Lib.hid hpm
      obtain ⟨zr, hzr⟩ : ∃ z, x.rcv = z := ⟨_, rfl⟩
      rw [hzr] at c3
      cases zr
      · by_cases hd : k.1 ≥ x.least
        · have d3 : decide (k.1 ≥ x.least) = true := decide_eq_true hd
          have d4 : decide (x.least ≤ k.1) = true := d3
          have HR := Lib.hid (HYS.out (by rw [hpm]; unfold mayS; rw [hzr, if_neg (by simp), d3]))
          clear hze hzr hpm hd
          go_wp2_with fail
          go_ret
          have hz1 := HR.out
          subst hz1
          exact ⟨rfl, B3.out⟩
        · have d3 : decide (k.1 ≥ x.least) = false := decide_eq_false hd
          have d4 : decide (x.least ≤ k.1) = false := d3
          have HN := Lib.hid (show (L.take (j + 1)).any (prM k) = false from by rw [HST.out, hpm]; unfold mayS; rw [hzr, if_neg (by simp), d3])
          clear hze hzr hpm hd
          go_wp2_with fail
          go_roundw
          case rel => exact ⟨j + 1, by omega, by go_num, HN, K3, B3⟩
          case measure => simp [intOf] <;> omega
      · obtain ⟨zl, hzl⟩ : ∃ z, lessK x.last k = z := ⟨_, rfl⟩
        have CL := Lib.hid (rlessM_lit x.last k zl w3 hsz hk hzl)
        have hm : prM k x = zl := by rw [hpm]; unfold mayS; rw [hzr, if_pos rfl, hzl]
        have HM := Lib.hid hm
        have HRC := Lib.hid hzr
        clear hze hzr hpm hzl hm
        go_wp2_with fail
        refine CL.out.mono ?_
        rintro e w4 ⟨rfl, hb⟩
        have B4 := Lib.hid (B3.out.trans (hb.mono B3.out.size))
        have K4 := Lib.hid (K3.out.below hb)
        obtain ⟨-, -, -, c3', -, -, -⟩ := X3.out.below hb
        simp only [Nat.zero_add] at c3'
        rw [HRC.out] at c3'
        clear c3 hb CL c0 c2 c4 c5 c6 y0 y1
        cases zl
        · have HN := Lib.hid (show (L.take (j + 1)).any (prM k) = false from by rw [HST.out, HM.out])
          go_wp2_with fail
          go_roundw
          case rel => exact ⟨j + 1, by omega, by go_num, HN, K4, B4⟩
          case measure => simp [intOf] <;> omega
        · have HR := Lib.hid (HYS.out HM.out)
          go_wp2_with fail
          go_ret
          have hz1 := HR.out
          subst hz1
          exact ⟨rfl, B4.out⟩
    · obtain rfl : j = L.length := by omega
      have HR := Lib.hid (show z = false from by rw [← HZ.out, ← List.take_length (l := L), hA.out])
      clear M
      go_wp2_with fail
      go_ret
      have hz1 := HR.out
      subst hz1
      exact ⟨rfl, hB.out⟩
end Go.Proofs.Ytgghbgmeebihbaa
/- the document's merge: Put -/
namespace Go.Proofs.Ytgghbgmeebihbaa
open Go.RowKit
set_option linter.unusedVariables false
set_option maxRecDepth 20000
theorem RMid.below {w w' : World} {b : Nat} {most : Int} {ta : Option Addr} {tc : Nat} {ra : Option Addr} {rc : Nat} {T : List KV} {L : List SM} {S : Nat → Prop} (h : RMid w b most ta tc ra rc T L S) (t : Below w.heap.size w w') : RMid w' b most ta tc ra rc T L S :=
  h.blocks t.size fun k hk => t.block k (h.2.2.2.2.2.2.2.2.2.2 k hk)
theorem holdsK_belowp {w w' : World} {B : Nat} {a : Option Addr} {n : Nat} {ks : List KV} (h : HoldsK w a n ks) (hb : Below B w w') (hlt : 0 < n → ∀ b o, a = some ⟨b, o, none⟩ → b < B) : HoldsK w' a n ks := by
  refine ⟨h.1, fun h0 => ?_⟩
  obtain ⟨b, o, ha, hc⟩ := h.2 h0
  exact ⟨b, o, ha, fun i hi => ⟨(hb.cell (p := ⟨b, o + i * 2, none⟩) (hlt h0 b o ha)).trans (hc i hi).1, (hb.cell (p := ⟨b, o + i * 2 + 1, none⟩) (hlt h0 b o ha)).trans (hc i hi).2⟩⟩
theorem wanted_is (most : Int) (T : List KV) (L : List SM) (s : Int) : (wantsL most T L).any (fun v : Nat => ((v : Int) == s)) = (decide (0 ≤ s ∧ s < (L.length : Int)) && (!doneB most T L && prW (L.getD s.toNat sm0))) := by
  unfold wantsL
  by_cases hd : doneB most T L = true
  · rw [if_pos hd, hd]; simp
  · rw [if_neg hd]
    have hd2 : doneB most T L = false := by simpa using hd
    rw [hd2]
    rw [Bool.eq_iff_iff, List.any_eq_true]
    simp only [Bool.and_eq_true, decide_eq_true_eq, Bool.not_false, true_and]
    constructor
    · rintro ⟨v, hv, he⟩
      unfold wantN at hv
      rw [List.mem_filter, List.mem_range] at hv
      have e : (v : Int) = s := by simpa using he
      subst e
      exact ⟨by omega, by rw [Int.toNat_natCast]; exact hv.2⟩
    · rintro ⟨h1, h2⟩
      refine ⟨s.toNat, ?_, by simp; omega⟩
      unfold wantN
      rw [List.mem_filter, List.mem_range]
      exact ⟨by omega, h2⟩
theorem put_wanted (most : Int) (T : List KV) (L : List SM) (s q : Int) (ks : List KV) (en : Bool) : putB most T L s q ks en = ((wantsL most T L).any (fun v : Nat => ((v : Int) == s)) && (decide (q = (L.getD s.toNat sm0).seq) && (fitsB (L.getD s.toNat sm0) ks && !(decide (ks.length = 0) && !en)))) := by
  rw [wanted_is]
  unfold putB
  cases decide (0 ≤ s ∧ s < (L.length : Int)) <;> cases doneB most T L <;> cases prW (L.getD s.toNat sm0) <;> simp
def RPutP (w : World) (b : Nat) (most : Int) (T : List KV) (L : List SM) (S : Nat → Prop) (s : Int) (ks : List KV) (en z : Bool) (e : Ending) (w' : World) : Prop :=
  e = .returned (.bool z) ∧ if z then ∃ wa wc S', RMt w' b most T (L.set s.toNat (putM (L.getD s.toNat sm0) wa ks.length wc ks en)) S' ∧ (∀ k, S' k → S k ∨ w.heap.size ≤ k) ∧ Turn S w w' else Below w.heap.size w w'
theorem rputP_no {w w' : World} {b : Nat} {most : Int} {T : List KV} {L : List SM} {S : Nat → Prop} {s : Int} {ks : List KV} {en z : Bool} (hz : z = false) (hb : Below w.heap.size w w') : RPutP w b most T L S s ks en z (.returned (.bool false)) w' := by
  subst hz
  exact ⟨rfl, hb⟩
theorem p8_carry {w1 w w' : World} {p fb o o2 : Nat} {v0 v3 v4 v5 : Value} {k y : KV} (h : ((w.cell? ⟨p, 0, none⟩ = some v0 ∧ w.cell? ⟨p, 3, none⟩ = some v3 ∧ w.cell? ⟨p, 4, none⟩ = some v4 ∧ w.cell? ⟨p, 5, none⟩ = some v5) ∧ ((w.cell? ⟨fb, o, none⟩ = some (.int .i64 k.1) ∧ w.cell? ⟨fb, o + 1, none⟩ = some (.string k.2)) ∧ (w.cell? ⟨fb, o2, none⟩ = some (.int .i64 y.1) ∧ w.cell? ⟨fb, o2 + 1, none⟩ = some (.string y.2)))) ∧ Below w1.heap.size w1 w) (hb : Below w.heap.size w w') :
    ((w'.cell? ⟨p, 0, none⟩ = some v0 ∧ w'.cell? ⟨p, 3, none⟩ = some v3 ∧ w'.cell? ⟨p, 4, none⟩ = some v4 ∧ w'.cell? ⟨p, 5, none⟩ = some v5) ∧ ((w'.cell? ⟨fb, o, none⟩ = some (.int .i64 k.1) ∧ w'.cell? ⟨fb, o + 1, none⟩ = some (.string k.2)) ∧ (w'.cell? ⟨fb, o2, none⟩ = some (.int .i64 y.1) ∧ w'.cell? ⟨fb, o2 + 1, none⟩ = some (.string y.2)))) ∧ Below w1.heap.size w1 w' := by
  obtain ⟨⟨⟨a0, a3, a4, a5⟩, ⟨b0, b1⟩, c0, c1⟩, hB⟩ := h
  have lp := lt_of_cell a0
  have lf := lt_of_cell b0
  exact ⟨⟨⟨(hb.cell (p := ⟨p, 0, none⟩) lp).trans a0, (hb.cell (p := ⟨p, 3, none⟩) lp).trans a3, (hb.cell (p := ⟨p, 4, none⟩) lp).trans a4, (hb.cell (p := ⟨p, 5, none⟩) lp).trans a5⟩, ⟨(hb.cell (p := ⟨fb, o, none⟩) lf).trans b0, (hb.cell (p := ⟨fb, o + 1, none⟩) lf).trans b1⟩, (hb.cell (p := ⟨fb, o2, none⟩) lf).trans c0, (hb.cell (p := ⟨fb, o2 + 1, none⟩) lf).trans c1⟩, hB.trans (hb.mono hB.size)⟩
set_option maxHeartbeats 12800000 in
set_option maxRecDepth 100000 in
theorem rmput_any (s q : Int) (ia : Option Addr) (n ic : Nat) (ks : List KV) (en z : Bool) (b : Nat) {most : Int} {T : List KV} {L : List SM} {S : Nat → Prop} (w : World) (h : RMt w b most T L S) (hl : L.length ≤ 1000)
    (hi : HoldsK w ia n ks) (hin : ia = none → n = 0 ∧ ic = 0) (hn : n ≤ 9223372036854775807) (hsq : ∀ x ∈ L, 0 ≤ x.seq ∧ x.seq ≤ 1000000000) (hsl : ∀ x ∈ L, x.last.2.size ≤ 1048576) (hks : ∀ k ∈ ks, k.2.size ≤ 1048576) (hz : putB most T L s q ks en = z) :
    Calls Try.prog 16 #[.pointer (some ⟨b, 0, none⟩), .int .i64 s, .int .i64 q, .slice ia n ic, .bool en] w (RPutP w b most T L S s ks en z) := by
  rw [put_wanted] at hz
  obtain ⟨W, hW⟩ : ∃ W, wantsL most T L = W := ⟨_, rfl⟩
  have hwi := wanted_is most T L s
  rw [hW] at hz hwi
  have CW := Lib.hid (rmwants_any b w h hl)
  rw [hW] at CW
  obtain ⟨i0, hi0, hz0, hz1, hz2⟩ := info_parts item_info
  have H := Lib.hid h; have HIN := Lib.hid hin; have HI := Lib.hid hi; have HZ := Lib.hid hz; have HWI := Lib.hid hwi
  have HSQ := Lib.hid hsq; have HSL := Lib.hid hsl; have HKS := Lib.hid hks
  have KL := Lib.hid hi.1
  have WL : W.length ≤ 1000 := by
    rw [← hW]; unfold wantsL; split
    · simp
    · unfold wantN
      have h1 := List.length_filter_le (fun i => prW (L.getD i sm0)) (List.range L.length)
      rw [List.length_range] at h1; omega
  clear h hi hin hz hwi hsq hsl hks hW
  go_enter Try.func16, Try.ntmps16
  go_wp2_with fail
  refine CW.out.mono ?_
  rintro e w2 ⟨za, zc, rfl, hzo, hb2⟩
  rw [natsZ_len] at hzo ⊢
  have ZI := Lib.hid (holdsZ_own hzo)
  have B2 := Lib.hid hb2
  obtain ⟨m, hm⟩ : ∃ m, W.length = m := ⟨_, rfl⟩
  rw [hm] at ZI WL ⊢
  clear hzo hb2 CW
  go_wp2_with fail
  go_loopw [11, 13] (fun gv iv wr => ∃ j : Nat, j ≤ m ∧ gv = .bool ((W.take j).any (fun v : Nat => ((v : Int) == s))) ∧ iv = .int .i64 j ∧ w2 = wr) (fun _ iv _ => m - (intOf iv).toNat)
  case atStart => exact ⟨0, by omega, rfl, rfl, rfl⟩
  case round =>
    obtain ⟨j, hj, rfl, rfl, rfl⟩ := hrel
    by_cases hlt : j < m
    · obtain ⟨zb, zo, rfl, hzc⟩ := ZI.out.at (by omega)
      have x0 := hzc j hlt
      rw [natsZ_at] at x0
      have hst : (W.take (j + 1)).any (fun v : Nat => ((v : Int) == s)) = ((W.take j).any (fun v : Nat => ((v : Int) == s)) || (((W.getD j 0 : Nat) : Int) == s)) := by
        rw [List.take_add_one, List.getElem?_eq_getElem (by omega), List.any_append, List.getD_eq_getElem?_getD, List.getElem?_eq_getElem (by omega)]
        simp
      obtain ⟨zg, hzg⟩ : ∃ z, (W.take j).any (fun v : Nat => ((v : Int) == s)) = z := ⟨_, rfl⟩
      obtain ⟨v, hv⟩ : ∃ v, W.getD j 0 = v := ⟨_, rfl⟩
      obtain ⟨ze, hze⟩ : ∃ z, (((v : Nat) : Int) == s) = z := ⟨_, rfl⟩
      have hze2 : decide (((v : Nat) : Int) = s) = ze := by rw [← hze, Bool.eq_iff_iff]; simp
      rw [hzg, hv, hze] at hst
      rw [hv] at x0
      rw [hzg]
      have i1 : (0 : Int) ≤ (j : Int) := by omega
      have i2 : (j : Int) < (m : Int) := by omega
      have HST := Lib.hid hst
      clear hzc hst hzg hv
      cases zg
      · go_wp2_with fail
        go_roundw
        case rel => exact ⟨j + 1, by omega, by rw [HST.out]; simp, by go_num, trivial⟩
        case measure => simp [intOf] <;> omega
      · go_wp2_with fail
        go_roundw
        case rel => exact ⟨j + 1, by omega, by rw [HST.out]; simp, by go_num, trivial⟩
        case measure => simp [intOf] <;> omega
    · obtain rfl : j = m := by omega
      rw [List.take_of_length_le (by omega)]
      obtain ⟨zw, hzw⟩ : ∃ z, W.any (fun v : Nat => ((v : Int) == s)) = z := ⟨_, rfl⟩
      have hz2 := HZ.out
      rw [hzw] at hz2
      have hwi2 := HWI.out
      rw [hzw] at hwi2
      rw [hzw]
      clear HZ HWI hzw
      cases zw
      · have HF := Lib.hid (show z = false from by rw [← hz2]; rfl)
        clear hz2 hwi2
        go_wp2_with fail
        go_ret
        exact rputP_no HF.out B2.out
      obtain ⟨hsr, hpw⟩ : (0 ≤ s ∧ s < (L.length : Int)) ∧ prW (L.getD s.toNat sm0) = true := by
        have h1 := Bool.and_eq_true _ _ ▸ hwi2.symm
        have h2 := Bool.and_eq_true _ _ ▸ h1.2
        exact ⟨of_decide_eq_true h1.1, h2.2⟩
      obtain ⟨i, rfl⟩ : ∃ i : Nat, s = (i : Int) := ⟨s.toNat, by omega⟩
      have hil : i < L.length := by omega
      rw [Int.toNat_natCast, Bool.true_and] at hz2
      obtain ⟨x, hx⟩ : ∃ x, L.getD i sm0 = x := ⟨_, rfl⟩
      rw [hx] at hz2
      have HX := Lib.hid hx
      have hxm : x ∈ L := hx ▸ mem_sm hil
      have hsq := HSQ.out x hxm
      have hsl := HSL.out x hxm
      obtain ⟨ta, tc, ra, rc, MM⟩ := H.out.below B2.out
      have k0' := MM.2.2.1
      obtain ⟨g, rfl, hX⟩ := MM.at hil
      rw [hx] at hX
      have MD := Lib.hid MM
      have SX := Lib.hid hX
      have i1 : (0 : Int) ≤ (i : Int) := by omega
      have i2 : (i : Int) < (L.length : Int) := by omega
      obtain ⟨c0, c1, c2, c3, c4, c5, c6⟩ := hX
      have HZ2 := Lib.hid hz2
      clear hx hxm hz2 MM hsr hpw hwi2
      by_cases hq : x.seq = q
      case neg =>
        have d1 : (x.seq != q) = true := by simpa using hq
        have HF := Lib.hid (show z = false from by rw [← HZ2.out, decide_eq_false (fun e => hq e.symm)]; rfl)
        clear hq
        go_wp2_with fail
        go_ret
        exact rputP_no HF.out B2.out
      subst hq
      have d1 : (x.seq != x.seq) = false := by simp
      have HZ3 := Lib.hid (show (fitsB x ks && !(decide (ks.length = 0) && !en)) = z from by have := HZ2.out; simpa using this)
      by_cases h5 : n ≤ 5
      case neg =>
        have d2 : decide ((n : Int) > 5) = true := decide_eq_true (by omega)
        have d3 : decide (5 < n) = true := decide_eq_true (by omega)
        have HF := Lib.hid (show z = false from by rw [← HZ3.out]; unfold fitsB; rw [KL.out, decide_eq_false h5]; rfl)
        clear h5
        go_wp2_with fail
        go_ret
        exact rputP_no HF.out B2.out
      have d2 : decide ((n : Int) > 5) = false := decide_eq_false (by omega)
      have d3 : decide (5 < n) = false := decide_eq_false (by omega)
      have BX := Lib.hid (below_one w2 (.cells #[.int .i64 x.least, .int .i64 x.seq, .bool x.ended, .bool x.rcv, .int .i64 x.last.1, .string x.last.2, .slice x.wa x.wn x.wc] 80))
      have X3 := Lib.hid (rsAt_new' w2 x)
      have F3 := Lib.hid (show ∀ k, (w2.alloc (.cells #[.int .i64 x.least, .int .i64 x.seq, .bool x.ended, .bool x.rcv, .int .i64 x.last.1, .string x.last.2, .slice x.wa x.wn x.wc] 80)).frozen? ⟨w2.heap.size, k, none⟩ = false from fun k => frozen_alloc rfl)
      have FZ := Lib.hid (show fitsB x ks = fitN x ks n from by unfold fitsB; rw [KL.out, decide_eq_true h5]; rfl)
      by_cases hne : n = 0 ∧ en = false
      · obtain ⟨rfl, rfl⟩ := hne
        obtain rfl : ks = [] := List.eq_nil_of_length_eq_zero KL.out
        have HF := Lib.hid (show z = false from by rw [← HZ3.out]; simp)
        go_wp2_with fail
        go_ret
        exact rputP_no HF.out B2.out
      have HZ4 := Lib.hid (show fitN x ks n = z from by
        rw [← HZ3.out, KL.out, FZ.out]
        rcases Nat.eq_zero_or_pos n with h0 | h0
        · have : en = true := by cases en; exact absurd ⟨h0, rfl⟩ hne; rfl
          rw [this]; simp
        · rw [decide_eq_false (show ¬ n = 0 by omega)]; simp)
      have HNE := Lib.hid hne
      clear hne
      go_upto_region 7 with fail
      go_cut [60] from 33 to 61 (fun v wc => v = .bool false ∧ w2 = wc)
      case first =>
        rcases Nat.eq_zero_or_pos n with rfl | hnp
        · have he := HNE.out
          cases en
          · exact absurd ⟨rfl, rfl⟩ he
          clear he
          go_wp2_with fail
          go_meet
          exact ⟨rfl, rfl⟩
        · have d4 : ((n : Int) == 0) = false := by simp; omega
          have d5 : decide ((n : Int) = 0) = false := decide_eq_false (by omega)
          have d6 : decide (n = 0) = false := decide_eq_false (by omega)
          go_wp2_with fail
          go_meet
          exact ⟨rfl, rfl⟩
      case rest =>
        obtain ⟨rfl, rfl⟩ := hcut
        go_upto_region 10 with fail
        clear c0 c1 c2 c3 c4 c5 c6 k0' d1 d2 d3
        generalize hw3 : w2.alloc (.cells #[.int .i64 x.least, .int .i64 x.seq, .bool x.ended, .bool x.rcv, .int .i64 x.last.1, .string x.last.2, .slice x.wa x.wn x.wc] 80) = w3 at *
        clear hw3
        obtain ⟨p, hp⟩ : ∃ p, w2.heap.size = p := ⟨_, rfl⟩
        have HP := Lib.hid hp
        rw [hp] at X3 F3
        rw [hp]
        have B3 := Lib.hid (B2.out.trans (BX.out.mono B2.out.size))
        clear hp
        go_wp2_with fail
        go_loopw [15] (fun iv wr => ∃ j : Nat, j ≤ n ∧ iv = .int .i64 j ∧ Hid (fitN x ks j = true) ∧ Hid (Below w3.heap.size w3 wr)) (fun iv _ => n - (intOf iv).toNat)
        case atStart => exact ⟨0, by omega, rfl, Lib.hid rfl, Lib.hid (Below.refl _ _)⟩
        case round =>
          obtain ⟨j', hj', rfl, hF, hB⟩ := hrel
          by_cases hlt : j' < n
          · obtain ⟨fb, fo, rfl, hc⟩ := ((HI.out.below B3.out).below hB.out).at (by omega)
            obtain ⟨x0, x1⟩ := hc j' hlt
            have hstep : fitN x ks (j' + 1) = (fitN x ks j' && (!badS x (ks.getD j' k0) && !stepB ks j')) := rfl
            rw [hF.out, Bool.true_and] at hstep
            unfold stepB badS at hstep
            obtain ⟨k, hkk⟩ : ∃ k, ks.getD j' k0 = k := ⟨_, rfl⟩
            have hkz : k.2.size ≤ 1048576 := by
              rw [← hkk]
              exact HKS.out _ (by rw [List.getD_eq_getElem?_getD, List.getElem?_eq_getElem (by have := KL.out; omega)]; simp)
            rw [hkk] at x0 x1 hstep
            have i3 : (0 : Int) ≤ (j' : Int) := by omega
            have i4 : (j' : Int) < (n : Int) := by omega
            obtain ⟨c0, -, -, c3, c4, c5, -⟩ := X3.out.below hB.out
            simp only [Nat.zero_add] at c3 c4 c5
            have STOP := Lib.hid (fun (hs : fitN x ks (j' + 1) = false) => (show z = false from by rw [← HZ4.out]; exact fitN_stop hs n (by omega)))
            have BB := Lib.hid (fun w' (hb : Below wr.heap.size wr w') => (show Below w3.heap.size w3 w' from hB.out.trans (hb.mono hB.out.size)))
            have NO := Lib.hid (fun w' (hb : Below wr.heap.size wr w') (hs : fitN x ks (j' + 1) = false) => (show RPutP w b most T L S i ks en z (.returned (.bool false)) w' from rputP_no (STOP.out hs) (B3.out.trans ((BB.out w' hb).mono B3.out.size))))
            obtain ⟨zr, hzr⟩ : ∃ zr, x.rcv = zr := ⟨_, rfl⟩
            rw [hzr] at c3 hstep
            by_cases hd : k.1 < x.least
            · have d3 : decide (k.1 < x.least) = true := decide_eq_true hd
              have HR := Lib.hid (show fitN x ks (j' + 1) = false from by rw [hstep, d3]; simp)
              clear hd hstep hkk hzr hc
              go_wp2_with fail
              go_quiet (fail)
              go_wp2_with fail
              go_ret
              exact NO.out _ (below_drewN _ _) HR.out
            have d3 : decide (k.1 < x.least) = false := decide_eq_false hd
            rw [d3, Bool.false_or] at hstep
            clear hd
            rcases Nat.eq_zero_or_pos j' with rfl | hjp
            · have hnn : 0 < n := hlt
              have hni : (0 : Int) < (n : Int) := by omega
              simp only [Nat.zero_mul, Nat.add_zero] at x0 x1
              cases zr
              · have FN := Lib.hid (show fitN x ks (0 + 1) = true from by rw [hstep]; rfl)
                clear hstep hkk hc
                go_wp2_with fail
                go_quiet (fail)
                go_wp2_with fail
                go_roundw
                case rel => exact ⟨1, by omega, by go_num, FN, Lib.hid (BB.out _ (below_drewN _ _))⟩
                case measure => simp [intOf] <;> omega
              · obtain ⟨z8, hz8⟩ : ∃ z, lessK x.last k = z := ⟨_, rfl⟩
                have CL := Lib.hid (fun w' => rlessM_lit x.last k z8 w' hsl hkz hz8)
                have FN := Lib.hid (show fitN x ks (0 + 1) = z8 from by rw [hstep, hz8]; simp)
                clear hstep hkk hc hz8 hzr
                have T := Lib.hid (show ((wr.cell? ⟨p, 0, none⟩ = some (.int .i64 x.least) ∧ wr.cell? ⟨p, 3, none⟩ = some (.bool true) ∧ wr.cell? ⟨p, 4, none⟩ = some (.int .i64 x.last.1) ∧ wr.cell? ⟨p, 5, none⟩ = some (.string x.last.2)) ∧ ((wr.cell? ⟨fb, fo, none⟩ = some (.int .i64 k.1) ∧ wr.cell? ⟨fb, fo + 1, none⟩ = some (.string k.2)) ∧ (wr.cell? ⟨fb, fo, none⟩ = some (.int .i64 k.1) ∧ wr.cell? ⟨fb, fo + 1, none⟩ = some (.string k.2)))) ∧ Below wr.heap.size wr wr from ⟨⟨⟨c0, c3, c4, c5⟩, ⟨x0, x1⟩, x0, x1⟩, Below.refl _ _⟩)
                have hS0 := p8_carry T.out (Below.refl wr.heap.size wr).drew
                go_upto_region 13 with fail
                refine wp_region_held_drew (S := (fun w' => ((w'.cell? ⟨p, 0, none⟩ = some (.int .i64 x.least) ∧ w'.cell? ⟨p, 3, none⟩ = some (.bool true) ∧ w'.cell? ⟨p, 4, none⟩ = some (.int .i64 x.last.1) ∧ w'.cell? ⟨p, 5, none⟩ = some (.string x.last.2)) ∧ ((w'.cell? ⟨fb, fo, none⟩ = some (.int .i64 k.1) ∧ w'.cell? ⟨fb, fo + 1, none⟩ = some (.string k.2)) ∧ (w'.cell? ⟨fb, fo, none⟩ = some (.int .i64 k.1) ∧ w'.cell? ⟨fb, fo + 1, none⟩ = some (.string k.2)))) ∧ Below wr.heap.size wr w')) (by kernel_rfl) hS0 (fun hHeld0 => ?_)
                refine wpAnyH_take (i := 0) (oi := { dst := some 74, op := Op.move (Operand.tmp 3), type := 34, pos := "ref.go:72", after := #[], guard := none }) (v := ?v0) rfl (by kernel_rfl) (by kernel_rfl) (by kernel_rfl) (fun _ _ _ h => h) (Or.inl ⟨by rfl, ?hy0⟩) (by assumption) ?rest0
                case hy0 => (intro w hSw; (try dsimp only at hSw); go_simp; (try with_reducible rfl))
                try simp only [Act.put, List.setIfInBounds_toArray, List.set_cons_zero, List.set_cons_succ]
                refine wpAnyH_take (i := 1) (oi := { dst := some 75, op := Op.move (Operand.tmp 15), type := 3, pos := "ref.go:72", after := #[], guard := none }) (v := ?v1) rfl (by kernel_rfl) (by kernel_rfl) (by kernel_rfl) (fun _ _ _ h => h) (Or.inl ⟨by rfl, ?hy1⟩) (by assumption) ?rest1
                case hy1 => (intro w hSw; (try dsimp only at hSw); go_simp; (try with_reducible rfl))
                try simp only [Act.put, List.setIfInBounds_toArray, List.set_cons_zero, List.set_cons_succ]
                refine wpAnyH_take (i := 2) (oi := { dst := some 76, op := Op.indexAddr 34 (Operand.tmp 74) (Operand.tmp 75), type := 0, pos := "ref.go:72", after := #[{ on := 0, ground := Ground.data }, { on := 1, ground := Ground.data }], guard := none }) (v := ?v2) rfl (by kernel_rfl) (by kernel_rfl) (by kernel_rfl) (fun _ _ _ h => h) (Or.inl ⟨by rfl, ?hy2⟩) (by assumption) ?rest2
                case hy2 => (intro w hSw; (try dsimp only at hSw); go_simp; (try with_reducible rfl))
                try simp only [Act.put, List.setIfInBounds_toArray, List.set_cons_zero, List.set_cons_succ]
                refine wpAnyH_take (i := 3) (oi := { dst := some 77, op := Op.fieldAddr 61 (Operand.tmp 76) 0, type := 0, pos := "ref.go:72", after := #[{ on := 2, ground := Ground.data }], guard := none }) (v := ?v3) rfl (by kernel_rfl) (by kernel_rfl) (by kernel_rfl) (fun _ _ _ h => h) (Or.inl ⟨by rfl, ?hy3⟩) (by assumption) ?rest3
                case hy3 => (intro w hSw; (try dsimp only at hSw); go_simp; (try with_reducible rfl))
                try simp only [Act.put, List.setIfInBounds_toArray, List.set_cons_zero, List.set_cons_succ]
                refine wpAnyH_take (i := 4) (oi := { dst := some 78, op := Op.load 3 (Operand.tmp 77), type := 3, pos := "ref.go:72", after := #[{ on := 3, ground := Ground.data }], guard := none }) (v := ?v4) rfl (by kernel_rfl) (by kernel_rfl) (by kernel_rfl) (fun _ _ _ h => h) (Or.inl ⟨by rfl, ?hy4⟩) (by assumption) ?rest4
                case hy4 => (intro w hSw; (try dsimp only at hSw); go_simp; (try with_reducible rfl))
                try simp only [Act.put, List.setIfInBounds_toArray, List.set_cons_zero, List.set_cons_succ]
                refine wpAnyH_take (i := 5) (oi := { dst := some 79, op := Op.fieldAddr 80 (Operand.tmp 14) 0, type := 0, pos := "ref.go:72", after := #[], guard := none }) (v := ?v5) rfl (by kernel_rfl) (by kernel_rfl) (by kernel_rfl) (fun _ _ _ h => h) (Or.inl ⟨by rfl, ?hy5⟩) (by assumption) ?rest5
                case hy5 => (intro w hSw; (try dsimp only at hSw); go_simp; (try with_reducible rfl))
                try simp only [Act.put, List.setIfInBounds_toArray, List.set_cons_zero, List.set_cons_succ]
                refine wpAnyH_take (i := 6) (oi := { dst := some 80, op := Op.load 3 (Operand.tmp 79), type := 3, pos := "ref.go:72", after := #[{ on := 5, ground := Ground.data }], guard := none }) (v := ?v6) rfl (by kernel_rfl) (by kernel_rfl) (by kernel_rfl) (fun _ _ _ h => h) (Or.inl ⟨by rfl, ?hy6⟩) (by assumption) ?rest6
                case hy6 => (intro w hSw; (try dsimp only at hSw); go_simp; (try with_reducible rfl))
                try simp only [Act.put, List.setIfInBounds_toArray, List.set_cons_zero, List.set_cons_succ]
                refine wpAnyH_take (i := 7) (oi := { dst := some 81, op := Op.binOp BinOp.lss 3 (Operand.tmp 78) (Operand.tmp 80) 3, type := 4, pos := "ref.go:72", after := #[{ on := 4, ground := Ground.data }, { on := 6, ground := Ground.data }], guard := none }) (v := ?v7) rfl (by kernel_rfl) (by kernel_rfl) (by kernel_rfl) (fun _ _ _ h => h) (Or.inl ⟨by rfl, ?hy7⟩) (by assumption) ?rest7
                case hy7 => (intro w hSw; (try dsimp only at hSw); go_simp; (try with_reducible rfl))
                try simp only [Act.put, List.setIfInBounds_toArray, List.set_cons_zero, List.set_cons_succ]
                refine wpAnyH_take (i := 8) (oi := { dst := some 82, op := Op.move (Operand.tmp 81), type := 4, pos := "ref.go:72", after := #[{ on := 7, ground := Ground.data }], guard := none }) (v := ?v8) rfl (by kernel_rfl) (by kernel_rfl) (by kernel_rfl) (fun _ _ _ h => h) (Or.inl ⟨by rfl, ?hy8⟩) (by assumption) ?rest8
                case hy8 => (intro w hSw; (try dsimp only at hSw); go_simp; (try with_reducible rfl))
                try simp only [Act.put, List.setIfInBounds_toArray, List.set_cons_zero, List.set_cons_succ]
                refine wpAnyH_take (i := 9) (oi := { dst := some 83, op := Op.move (Operand.tmp 15), type := 3, pos := "ref.go:72", after := #[{ on := 8, ground := Ground.guard }], guard := some (8, false) }) (v := ?v9) rfl (by kernel_rfl) (by kernel_rfl) (by kernel_rfl) (fun _ _ _ h => h) (Or.inl ⟨by rfl, ?hy9⟩) (by assumption) ?rest9
                case hy9 => (intro w hSw; (try dsimp only at hSw); go_simp; (try with_reducible rfl))
                try simp only [Act.put, List.setIfInBounds_toArray, List.set_cons_zero, List.set_cons_succ]
                refine wpAnyH_take (i := 10) (oi := { dst := some 84, op := Op.binOp BinOp.gtr 3 (Operand.tmp 83) (Operand.const (Value.int IntKind.i64 0)) 3, type := 4, pos := "ref.go:72", after := #[{ on := 9, ground := Ground.data }, { on := 8, ground := Ground.guard }], guard := some (8, false) }) (v := ?v10) rfl (by kernel_rfl) (by kernel_rfl) (by kernel_rfl) (fun _ _ _ h => h) (Or.inl ⟨by rfl, ?hy10⟩) (by assumption) ?rest10
                case hy10 => (intro w hSw; (try dsimp only at hSw); go_simp; (try with_reducible rfl))
                try simp only [Act.put, List.setIfInBounds_toArray, List.set_cons_zero, List.set_cons_succ]
                refine wpAnyH_take (i := 11) (oi := { dst := some 85, op := Op.move (Operand.tmp 84), type := 4, pos := "ref.go:72", after := #[{ on := 10, ground := Ground.data }, { on := 8, ground := Ground.chain }, { on := 8, ground := Ground.guard }], guard := some (8, false) }) (v := ?v11) rfl (by kernel_rfl) (by kernel_rfl) (by kernel_rfl) (fun _ _ _ h => h) (Or.inl ⟨by rfl, ?hy11⟩) (by assumption) ?rest11
                case hy11 => (intro w hSw; (try dsimp only at hSw); go_simp; (try with_reducible rfl))
                try simp only [Act.put, List.setIfInBounds_toArray, List.set_cons_zero, List.set_cons_succ]
                refine wpAnyH_take (i := 12) (oi := { dst := some 86, op := Op.move (Operand.tmp 3), type := 34, pos := "ref.go:72", after := #[{ on := 11, ground := Ground.guard }], guard := some (11, true) }) rfl (by kernel_rfl) (by kernel_rfl) (by kernel_rfl) (fun _ _ _ h => h) (Or.inr ⟨by rfl, rfl⟩) (by assumption) ?_
                try simp only [Act.put, List.setIfInBounds_toArray, List.set_cons_zero, List.set_cons_succ]
                refine wpAnyH_take (i := 13) (oi := { dst := some 87, op := Op.move (Operand.tmp 15), type := 3, pos := "ref.go:72", after := #[{ on := 11, ground := Ground.guard }], guard := some (11, true) }) rfl (by kernel_rfl) (by kernel_rfl) (by kernel_rfl) (fun _ _ _ h => h) (Or.inr ⟨by rfl, rfl⟩) (by assumption) ?_
                try simp only [Act.put, List.setIfInBounds_toArray, List.set_cons_zero, List.set_cons_succ]
                refine wpAnyH_take (i := 14) (oi := { dst := some 88, op := Op.binOp BinOp.sub 3 (Operand.tmp 87) (Operand.const (Value.int IntKind.i64 1)) 3, type := 3, pos := "ref.go:72", after := #[{ on := 13, ground := Ground.data }, { on := 11, ground := Ground.guard }], guard := some (11, true) }) rfl (by kernel_rfl) (by kernel_rfl) (by kernel_rfl) (fun _ _ _ h => h) (Or.inr ⟨by rfl, rfl⟩) (by assumption) ?_
                try simp only [Act.put, List.setIfInBounds_toArray, List.set_cons_zero, List.set_cons_succ]
                refine wpAnyH_take (i := 15) (oi := { dst := some 89, op := Op.indexAddr 34 (Operand.tmp 86) (Operand.tmp 88), type := 0, pos := "ref.go:72", after := #[{ on := 12, ground := Ground.data }, { on := 14, ground := Ground.data }, { on := 11, ground := Ground.guard }], guard := some (11, true) }) rfl (by kernel_rfl) (by kernel_rfl) (by kernel_rfl) (fun _ _ _ h => h) (Or.inr ⟨by rfl, rfl⟩) (by assumption) ?_
                try simp only [Act.put, List.setIfInBounds_toArray, List.set_cons_zero, List.set_cons_succ]
                refine wpAnyH_take (i := 16) (oi := { dst := some 90, op := Op.load 61 (Operand.tmp 89), type := 61, pos := "ref.go:72", after := #[{ on := 15, ground := Ground.data }, { on := 11, ground := Ground.guard }], guard := some (11, true) }) rfl (by kernel_rfl) (by kernel_rfl) (by kernel_rfl) (fun _ _ _ h => h) (Or.inr ⟨by rfl, rfl⟩) (by assumption) ?_
                try simp only [Act.put, List.setIfInBounds_toArray, List.set_cons_zero, List.set_cons_succ]
                refine wpAnyH_take (i := 17) (oi := { dst := some 91, op := Op.move (Operand.tmp 3), type := 34, pos := "ref.go:72", after := #[{ on := 11, ground := Ground.guard }], guard := some (11, true) }) rfl (by kernel_rfl) (by kernel_rfl) (by kernel_rfl) (fun _ _ _ h => h) (Or.inr ⟨by rfl, rfl⟩) (by assumption) ?_
                try simp only [Act.put, List.setIfInBounds_toArray, List.set_cons_zero, List.set_cons_succ]
                refine wpAnyH_take (i := 18) (oi := { dst := some 92, op := Op.move (Operand.tmp 15), type := 3, pos := "ref.go:72", after := #[{ on := 11, ground := Ground.guard }], guard := some (11, true) }) rfl (by kernel_rfl) (by kernel_rfl) (by kernel_rfl) (fun _ _ _ h => h) (Or.inr ⟨by rfl, rfl⟩) (by assumption) ?_
                try simp only [Act.put, List.setIfInBounds_toArray, List.set_cons_zero, List.set_cons_succ]
                refine wpAnyH_take (i := 19) (oi := { dst := some 93, op := Op.indexAddr 34 (Operand.tmp 91) (Operand.tmp 92), type := 0, pos := "ref.go:72", after := #[{ on := 17, ground := Ground.data }, { on := 18, ground := Ground.data }, { on := 11, ground := Ground.guard }], guard := some (11, true) }) rfl (by kernel_rfl) (by kernel_rfl) (by kernel_rfl) (fun _ _ _ h => h) (Or.inr ⟨by rfl, rfl⟩) (by assumption) ?_
                try simp only [Act.put, List.setIfInBounds_toArray, List.set_cons_zero, List.set_cons_succ]
                refine wpAnyH_take (i := 20) (oi := { dst := some 94, op := Op.load 61 (Operand.tmp 93), type := 61, pos := "ref.go:72", after := #[{ on := 19, ground := Ground.data }, { on := 11, ground := Ground.guard }], guard := some (11, true) }) rfl (by kernel_rfl) (by kernel_rfl) (by kernel_rfl) (fun _ _ _ h => h) (Or.inr ⟨by rfl, rfl⟩) (by assumption) ?_
                try simp only [Act.put, List.setIfInBounds_toArray, List.set_cons_zero, List.set_cons_succ]
                refine wpAnyH_take (i := 21) (oi := { dst := some 95, op := Op.call { callee := Callee.value (Operand.func 44), args := #[Operand.tmp 90, Operand.tmp 94], argTypes := #[61, 61] }, type := 4, pos := "ref.go:72", after := #[{ on := 16, ground := Ground.data }, { on := 20, ground := Ground.data }, { on := 11, ground := Ground.chain }, { on := 11, ground := Ground.guard }], guard := some (11, true) }) rfl (by kernel_rfl) (by kernel_rfl) (by kernel_rfl) (fun _ _ _ h => h) (Or.inr ⟨by rfl, rfl⟩) (by assumption) ?_
                try simp only [Act.put, List.setIfInBounds_toArray, List.set_cons_zero, List.set_cons_succ]
                refine wpAnyH_take (i := 22) (oi := { dst := some 96, op := Op.unOp UnOp.not 4 (Operand.tmp 95), type := 4, pos := "ref.go:72", after := #[{ on := 21, ground := Ground.data }, { on := 11, ground := Ground.guard }], guard := some (11, true) }) rfl (by kernel_rfl) (by kernel_rfl) (by kernel_rfl) (fun _ _ _ h => h) (Or.inr ⟨by rfl, rfl⟩) (by assumption) ?_
                try simp only [Act.put, List.setIfInBounds_toArray, List.set_cons_zero, List.set_cons_succ]
                refine wpAnyH_take (i := 23) (oi := { dst := some 97, op := Op.pick (Operand.tmp 85) (Operand.tmp 96) (Operand.const (Value.bool false)), type := 4, pos := "ref.go:72", after := #[{ on := 11, ground := Ground.data }, { on := 22, ground := Ground.data }, { on := 8, ground := Ground.guard }], guard := some (8, false) }) (v := ?v23) rfl (by kernel_rfl) (by kernel_rfl) (by kernel_rfl) (fun _ _ _ h => h) (Or.inl ⟨by rfl, ?hy23⟩) (by assumption) ?rest23
                case hy23 => (intro w hSw; (try dsimp only at hSw); go_simp; (try with_reducible rfl))
                try simp only [Act.put, List.setIfInBounds_toArray, List.set_cons_zero, List.set_cons_succ]
                refine wpAnyH_take (i := 24) (oi := { dst := some 98, op := Op.pick (Operand.tmp 82) (Operand.const (Value.bool true)) (Operand.tmp 97), type := 4, pos := "ref.go:72", after := #[{ on := 8, ground := Ground.data }, { on := 23, ground := Ground.data }], guard := none }) (v := ?v24) rfl (by kernel_rfl) (by kernel_rfl) (by kernel_rfl) (fun _ _ _ h => h) (Or.inl ⟨by rfl, ?hy24⟩) (by assumption) ?rest24
                case hy24 => (intro w hSw; (try dsimp only at hSw); go_simp; (try with_reducible rfl))
                try simp only [Act.put, List.setIfInBounds_toArray, List.set_cons_zero, List.set_cons_succ]
                refine wpAnyH_take (i := 25) (oi := { dst := some 99, op := Op.move (Operand.tmp 98), type := 4, pos := "ref.go:72", after := #[{ on := 24, ground := Ground.data }, { on := 21, ground := Ground.chain }], guard := none }) (v := ?v25) rfl (by kernel_rfl) (by kernel_rfl) (by kernel_rfl) (fun _ _ _ h => h) (Or.inl ⟨by rfl, ?hy25⟩) (by assumption) ?rest25
                case hy25 => (intro w hSw; (try dsimp only at hSw); go_simp; (try with_reducible rfl))
                try simp only [Act.put, List.setIfInBounds_toArray, List.set_cons_zero, List.set_cons_succ]
                refine wpAnyH_take (i := 26) (oi := { dst := some 100, op := Op.fieldAddr 80 (Operand.tmp 14) 3, type := 0, pos := "ref.go:72", after := #[{ on := 25, ground := Ground.guard }], guard := some (25, false) }) (v := ?v26) rfl (by kernel_rfl) (by kernel_rfl) (by kernel_rfl) (fun _ _ _ h => h) (Or.inl ⟨by rfl, ?hy26⟩) (by assumption) ?rest26
                case hy26 => (intro w hSw; (try dsimp only at hSw); go_simp; (try with_reducible rfl))
                try simp only [Act.put, List.setIfInBounds_toArray, List.set_cons_zero, List.set_cons_succ]
                refine wpAnyH_take (i := 27) (oi := { dst := some 101, op := Op.load 4 (Operand.tmp 100), type := 4, pos := "ref.go:72", after := #[{ on := 26, ground := Ground.data }, { on := 25, ground := Ground.guard }], guard := some (25, false) }) (v := ?v27) rfl (by kernel_rfl) (by kernel_rfl) (by kernel_rfl) (fun _ _ _ h => h) (Or.inl ⟨by rfl, ?hy27⟩) (by assumption) ?rest27
                case hy27 => (intro w hSw; (try dsimp only at hSw); go_simp; (try with_reducible rfl))
                try simp only [Act.put, List.setIfInBounds_toArray, List.set_cons_zero, List.set_cons_succ]
                refine wpAnyH_take (i := 28) (oi := { dst := some 102, op := Op.move (Operand.tmp 101), type := 4, pos := "ref.go:72", after := #[{ on := 27, ground := Ground.data }, { on := 25, ground := Ground.chain }, { on := 25, ground := Ground.guard }], guard := some (25, false) }) (v := ?v28) rfl (by kernel_rfl) (by kernel_rfl) (by kernel_rfl) (fun _ _ _ h => h) (Or.inl ⟨by rfl, ?hy28⟩) (by assumption) ?rest28
                case hy28 => (intro w hSw; (try dsimp only at hSw); go_simp; (try with_reducible rfl))
                try simp only [Act.put, List.setIfInBounds_toArray, List.set_cons_zero, List.set_cons_succ]
                refine wpAnyH_take (i := 29) (oi := { dst := some 103, op := Op.fieldAddr 80 (Operand.tmp 14) 4, type := 0, pos := "ref.go:72", after := #[{ on := 28, ground := Ground.guard }], guard := some (28, true) }) (v := ?v29) rfl (by kernel_rfl) (by kernel_rfl) (by kernel_rfl) (fun _ _ _ h => h) (Or.inl ⟨by rfl, ?hy29⟩) (by assumption) ?rest29
                case hy29 => (intro w hSw; (try dsimp only at hSw); go_simp; (try with_reducible rfl))
                try simp only [Act.put, List.setIfInBounds_toArray, List.set_cons_zero, List.set_cons_succ]
                refine wpAnyH_take (i := 30) (oi := { dst := some 104, op := Op.load 61 (Operand.tmp 103), type := 61, pos := "ref.go:72", after := #[{ on := 29, ground := Ground.data }, { on := 28, ground := Ground.guard }], guard := some (28, true) }) (v := ?v30) rfl (by kernel_rfl) (by kernel_rfl) (by kernel_rfl) (fun _ _ _ h => h) (Or.inl ⟨by rfl, ?hy30⟩) (by assumption) ?rest30
                case hy30 => (intro w hSw; (try dsimp only at hSw); go_simp; (try with_reducible rfl))
                try simp only [Act.put, List.setIfInBounds_toArray, List.set_cons_zero, List.set_cons_succ]
                refine wpAnyH_take (i := 31) (oi := { dst := some 105, op := Op.move (Operand.tmp 3), type := 34, pos := "ref.go:72", after := #[{ on := 28, ground := Ground.guard }], guard := some (28, true) }) (v := ?v31) rfl (by kernel_rfl) (by kernel_rfl) (by kernel_rfl) (fun _ _ _ h => h) (Or.inl ⟨by rfl, ?hy31⟩) (by assumption) ?rest31
                case hy31 => (intro w hSw; (try dsimp only at hSw); go_simp; (try with_reducible rfl))
                try simp only [Act.put, List.setIfInBounds_toArray, List.set_cons_zero, List.set_cons_succ]
                refine wpAnyH_take (i := 32) (oi := { dst := some 106, op := Op.move (Operand.tmp 15), type := 3, pos := "ref.go:72", after := #[{ on := 28, ground := Ground.guard }], guard := some (28, true) }) (v := ?v32) rfl (by kernel_rfl) (by kernel_rfl) (by kernel_rfl) (fun _ _ _ h => h) (Or.inl ⟨by rfl, ?hy32⟩) (by assumption) ?rest32
                case hy32 => (intro w hSw; (try dsimp only at hSw); go_simp; (try with_reducible rfl))
                try simp only [Act.put, List.setIfInBounds_toArray, List.set_cons_zero, List.set_cons_succ]
                refine wpAnyH_take (i := 33) (oi := { dst := some 107, op := Op.indexAddr 34 (Operand.tmp 105) (Operand.tmp 106), type := 0, pos := "ref.go:72", after := #[{ on := 31, ground := Ground.data }, { on := 32, ground := Ground.data }, { on := 28, ground := Ground.guard }], guard := some (28, true) }) (v := ?v33) rfl (by kernel_rfl) (by kernel_rfl) (by kernel_rfl) (fun _ _ _ h => h) (Or.inl ⟨by rfl, ?hy33⟩) (by assumption) ?rest33
                case hy33 => (intro w hSw; (try dsimp only at hSw); go_simp; (try with_reducible rfl))
                try simp only [Act.put, List.setIfInBounds_toArray, List.set_cons_zero, List.set_cons_succ]
                refine wpAnyH_take (i := 34) (oi := { dst := some 108, op := Op.load 61 (Operand.tmp 107), type := 61, pos := "ref.go:72", after := #[{ on := 33, ground := Ground.data }, { on := 28, ground := Ground.guard }], guard := some (28, true) }) (v := ?v34) rfl (by kernel_rfl) (by kernel_rfl) (by kernel_rfl) (fun _ _ _ h => h) (Or.inl ⟨by rfl, ?hy34⟩) (by assumption) ?rest34
                case hy34 => (intro w hSw; (try dsimp only at hSw); go_simp; (try with_reducible rfl))
                try simp only [Act.put, List.setIfInBounds_toArray, List.set_cons_zero, List.set_cons_succ]
                refine wpAnyH_ready (rs := [35]) (by kernel_rfl) (by simp) ?_
                refine AllReadyH.cons (o := { dst := some 109, op := Op.call { callee := Callee.value (Operand.func 44), args := #[Operand.tmp 104, Operand.tmp 108], argTypes := #[61, 61] }, type := 4, pos := "ref.go:72", after := #[{ on := 30, ground := Ground.data }, { on := 34, ground := Ground.data }, { on := 28, ground := Ground.chain }, { on := 28, ground := Ground.guard }], guard := some (28, true) }) rfl (fun K hK => ?_) AllReadyH.nil
                go_simp
                go_at_call 44
                refine (CL.out _).mono ?_
                rintro e w' ⟨rfl, hb⟩
                go_wp2_with fail
                refine hK.out _ _ ?_ (fun hHeld1 => ?_)
                · exact p8_carry hHeld0 hb
                clear hK K hHeld0
                try simp only [Act.put, List.setIfInBounds_toArray, List.set_cons_zero, List.set_cons_succ]
                refine wpAnyH_take (i := 36) (oi := { dst := some 110, op := Op.unOp UnOp.not 4 (Operand.tmp 109), type := 4, pos := "ref.go:72", after := #[{ on := 35, ground := Ground.data }, { on := 28, ground := Ground.guard }], guard := some (28, true) }) (v := ?v36) rfl (by kernel_rfl) (by kernel_rfl) (by kernel_rfl) (fun _ _ _ h => h) (Or.inl ⟨by rfl, ?hy36⟩) (by assumption) ?rest36
                case hy36 => (intro w hSw; (try dsimp only at hSw); go_simp; (try with_reducible rfl))
                try simp only [Act.put, List.setIfInBounds_toArray, List.set_cons_zero, List.set_cons_succ]
                refine wpAnyH_take (i := 37) (oi := { dst := some 111, op := Op.pick (Operand.tmp 102) (Operand.tmp 110) (Operand.const (Value.bool false)), type := 4, pos := "ref.go:72", after := #[{ on := 28, ground := Ground.data }, { on := 36, ground := Ground.data }, { on := 25, ground := Ground.guard }], guard := some (25, false) }) (v := ?v37) rfl (by kernel_rfl) (by kernel_rfl) (by kernel_rfl) (fun _ _ _ h => h) (Or.inl ⟨by rfl, ?hy37⟩) (by assumption) ?rest37
                case hy37 => (intro w hSw; (try dsimp only at hSw); go_simp; (try with_reducible rfl))
                try simp only [Act.put, List.setIfInBounds_toArray, List.set_cons_zero, List.set_cons_succ]
                refine wpAnyH_take (i := 38) (oi := { dst := some 112, op := Op.pick (Operand.tmp 99) (Operand.const (Value.bool true)) (Operand.tmp 111), type := 4, pos := "ref.go:72", after := #[{ on := 25, ground := Ground.data }, { on := 37, ground := Ground.data }], guard := none }) (v := ?v38) rfl (by kernel_rfl) (by kernel_rfl) (by kernel_rfl) (fun _ _ _ h => h) (Or.inl ⟨by rfl, ?hy38⟩) (by assumption) ?rest38
                case hy38 => (intro w hSw; (try dsimp only at hSw); go_simp; (try with_reducible rfl))
                try simp only [Act.put, List.setIfInBounds_toArray, List.set_cons_zero, List.set_cons_succ]
                refine wpAnyH_done (by kernel_rfl) ?_ _
                have BE := Lib.hid hHeld1.2
                clear hHeld1
                cases z8
                · go_wp2_with fail
                  go_ret
                  exact NO.out _ BE.out FN.out
                · go_wp2_with fail
                  go_roundw
                  case rel => first | exact ⟨1, by omega, by go_num, FN, Lib.hid (BB.out _ BE.out)⟩ | ((repeat apply Exists.intro); refine ⟨⟨1, ?_, ?_, FN, Lib.hid (BB.out _ BE.out)⟩, rfl⟩; · omega; · go_num)
                  case measure => simp [intOf] <;> omega
            · obtain ⟨i7, rfl⟩ : ∃ i7 : Nat, j' = i7 + 1 := ⟨j' - 1, by omega⟩
              obtain ⟨y, hy⟩ : ∃ y, ks.getD i7 k0 = y := ⟨_, rfl⟩
              have hyz : y.2.size ≤ 1048576 := by
                rw [← hy]
                exact HKS.out _ (by rw [List.getD_eq_getElem?_getD, List.getElem?_eq_getElem (by have := KL.out; omega)]; simp)
              obtain ⟨z7, hz7⟩ : ∃ z, lessK y k = z := ⟨_, rfl⟩
              obtain ⟨z8, hz8⟩ : ∃ z, lessK x.last k = z := ⟨_, rfl⟩
              obtain ⟨u0, u1⟩ := hc i7 (by omega)
              rw [hy] at u0 u1
              rw [decide_eq_true (show 0 < i7 + 1 by omega), Nat.add_sub_cancel, hy, hz7, hz8] at hstep
              have CY := Lib.hid (fun w' => rlessM_lit y k z7 w' hyz hkz hz7)
              have CL := Lib.hid (fun w' => rlessM_lit x.last k z8 w' hsl hkz hz8)
              have g1 : decide (((i7 + 1 : Nat) : Int) > 0) = true := decide_eq_true (by omega)
              have g3 : IntKind.i64.wrap (((i7 + 1 : Nat) : Int) - 1) = (i7 : Int) := by rw [IntWalk.i64_in _ (by omega)]; omega
              have g3' : IntKind.i64.wrap ((i7 : Int) + 1 - 1) = (i7 : Int) := by rw [IntWalk.i64_in _ (by omega)]; omega
              have g6 : IntKind.i64.wrap (i7 : Int) = (i7 : Int) := IntWalk.i64_in _ (by omega)
              have g4 : (0 : Int) ≤ (i7 : Int) := by omega
              have g5 : (i7 : Int) < (n : Int) := by omega
              have g7 : (0 : Int) ≤ (i7 : Int) + 1 := by omega
              have g8 : (i7 : Int) + 1 < (n : Int) := by omega
              have g9 : ((i7 : Int) + 1).toNat = i7 + 1 := by omega
              have FN := Lib.hid hstep
              have T := Lib.hid (show ((wr.cell? ⟨p, 0, none⟩ = some (.int .i64 x.least) ∧ wr.cell? ⟨p, 3, none⟩ = some (.bool zr) ∧ wr.cell? ⟨p, 4, none⟩ = some (.int .i64 x.last.1) ∧ wr.cell? ⟨p, 5, none⟩ = some (.string x.last.2)) ∧ ((wr.cell? ⟨fb, fo + (i7 + 1) * 2, none⟩ = some (.int .i64 k.1) ∧ wr.cell? ⟨fb, fo + (i7 + 1) * 2 + 1, none⟩ = some (.string k.2)) ∧ (wr.cell? ⟨fb, fo + i7 * 2, none⟩ = some (.int .i64 y.1) ∧ wr.cell? ⟨fb, fo + i7 * 2 + 1, none⟩ = some (.string y.2)))) ∧ Below wr.heap.size wr wr from ⟨⟨⟨c0, c3, c4, c5⟩, ⟨x0, x1⟩, u0, u1⟩, Below.refl _ _⟩)
              clear hstep hkk hc hy hz7 hz8 hjp hzr
              cases z7
              case false =>
                  have hS0 := p8_carry T.out (Below.refl wr.heap.size wr).drew
                  go_upto_region 13 with fail
                  refine wp_region_held_drew (S := (fun w' => ((w'.cell? ⟨p, 0, none⟩ = some (.int .i64 x.least) ∧ w'.cell? ⟨p, 3, none⟩ = some (.bool zr) ∧ w'.cell? ⟨p, 4, none⟩ = some (.int .i64 x.last.1) ∧ w'.cell? ⟨p, 5, none⟩ = some (.string x.last.2)) ∧ ((w'.cell? ⟨fb, fo + (i7 + 1) * 2, none⟩ = some (.int .i64 k.1) ∧ w'.cell? ⟨fb, fo + (i7 + 1) * 2 + 1, none⟩ = some (.string k.2)) ∧ (w'.cell? ⟨fb, fo + i7 * 2, none⟩ = some (.int .i64 y.1) ∧ w'.cell? ⟨fb, fo + i7 * 2 + 1, none⟩ = some (.string y.2)))) ∧ Below wr.heap.size wr w')) (by kernel_rfl) hS0 (fun hHeld0 => ?_)
                  refine wpAnyH_take (i := 0) (oi := { dst := some 74, op := Op.move (Operand.tmp 3), type := 34, pos := "ref.go:72", after := #[], guard := none }) (v := ?va0) rfl (by kernel_rfl) (by kernel_rfl) (by kernel_rfl) (fun _ _ _ h => h) (Or.inl ⟨by rfl, ?hya0⟩) (by assumption) ?resta0
                  case hya0 => (intro w hSw; (try dsimp only at hSw); go_simp; (try with_reducible rfl))
                  try simp only [Act.put, List.setIfInBounds_toArray, List.set_cons_zero, List.set_cons_succ]
                  refine wpAnyH_take (i := 1) (oi := { dst := some 75, op := Op.move (Operand.tmp 15), type := 3, pos := "ref.go:72", after := #[], guard := none }) (v := ?va1) rfl (by kernel_rfl) (by kernel_rfl) (by kernel_rfl) (fun _ _ _ h => h) (Or.inl ⟨by rfl, ?hya1⟩) (by assumption) ?resta1
                  case hya1 => (intro w hSw; (try dsimp only at hSw); go_simp; (try with_reducible rfl))
                  try simp only [Act.put, List.setIfInBounds_toArray, List.set_cons_zero, List.set_cons_succ]
                  refine wpAnyH_take (i := 2) (oi := { dst := some 76, op := Op.indexAddr 34 (Operand.tmp 74) (Operand.tmp 75), type := 0, pos := "ref.go:72", after := #[{ on := 0, ground := Ground.data }, { on := 1, ground := Ground.data }], guard := none }) (v := ?va2) rfl (by kernel_rfl) (by kernel_rfl) (by kernel_rfl) (fun _ _ _ h => h) (Or.inl ⟨by rfl, ?hya2⟩) (by assumption) ?resta2
                  case hya2 => (intro w hSw; (try dsimp only at hSw); go_simp; (try with_reducible rfl))
                  try simp only [Act.put, List.setIfInBounds_toArray, List.set_cons_zero, List.set_cons_succ]
                  refine wpAnyH_take (i := 3) (oi := { dst := some 77, op := Op.fieldAddr 61 (Operand.tmp 76) 0, type := 0, pos := "ref.go:72", after := #[{ on := 2, ground := Ground.data }], guard := none }) (v := ?va3) rfl (by kernel_rfl) (by kernel_rfl) (by kernel_rfl) (fun _ _ _ h => h) (Or.inl ⟨by rfl, ?hya3⟩) (by assumption) ?resta3
                  case hya3 => (intro w hSw; (try dsimp only at hSw); go_simp; (try with_reducible rfl))
                  try simp only [Act.put, List.setIfInBounds_toArray, List.set_cons_zero, List.set_cons_succ]
                  refine wpAnyH_take (i := 4) (oi := { dst := some 78, op := Op.load 3 (Operand.tmp 77), type := 3, pos := "ref.go:72", after := #[{ on := 3, ground := Ground.data }], guard := none }) (v := ?va4) rfl (by kernel_rfl) (by kernel_rfl) (by kernel_rfl) (fun _ _ _ h => h) (Or.inl ⟨by rfl, ?hya4⟩) (by assumption) ?resta4
                  case hya4 => (intro w hSw; (try dsimp only at hSw); go_simp; (try with_reducible rfl))
                  try simp only [Act.put, List.setIfInBounds_toArray, List.set_cons_zero, List.set_cons_succ]
                  refine wpAnyH_take (i := 5) (oi := { dst := some 79, op := Op.fieldAddr 80 (Operand.tmp 14) 0, type := 0, pos := "ref.go:72", after := #[], guard := none }) (v := ?va5) rfl (by kernel_rfl) (by kernel_rfl) (by kernel_rfl) (fun _ _ _ h => h) (Or.inl ⟨by rfl, ?hya5⟩) (by assumption) ?resta5
                  case hya5 => (intro w hSw; (try dsimp only at hSw); go_simp; (try with_reducible rfl))
                  try simp only [Act.put, List.setIfInBounds_toArray, List.set_cons_zero, List.set_cons_succ]
                  refine wpAnyH_take (i := 6) (oi := { dst := some 80, op := Op.load 3 (Operand.tmp 79), type := 3, pos := "ref.go:72", after := #[{ on := 5, ground := Ground.data }], guard := none }) (v := ?va6) rfl (by kernel_rfl) (by kernel_rfl) (by kernel_rfl) (fun _ _ _ h => h) (Or.inl ⟨by rfl, ?hya6⟩) (by assumption) ?resta6
                  case hya6 => (intro w hSw; (try dsimp only at hSw); go_simp; (try with_reducible rfl))
                  try simp only [Act.put, List.setIfInBounds_toArray, List.set_cons_zero, List.set_cons_succ]
                  refine wpAnyH_take (i := 7) (oi := { dst := some 81, op := Op.binOp BinOp.lss 3 (Operand.tmp 78) (Operand.tmp 80) 3, type := 4, pos := "ref.go:72", after := #[{ on := 4, ground := Ground.data }, { on := 6, ground := Ground.data }], guard := none }) (v := ?va7) rfl (by kernel_rfl) (by kernel_rfl) (by kernel_rfl) (fun _ _ _ h => h) (Or.inl ⟨by rfl, ?hya7⟩) (by assumption) ?resta7
                  case hya7 => (intro w hSw; (try dsimp only at hSw); go_simp; (try with_reducible rfl))
                  try simp only [Act.put, List.setIfInBounds_toArray, List.set_cons_zero, List.set_cons_succ]
                  refine wpAnyH_take (i := 8) (oi := { dst := some 82, op := Op.move (Operand.tmp 81), type := 4, pos := "ref.go:72", after := #[{ on := 7, ground := Ground.data }], guard := none }) (v := ?va8) rfl (by kernel_rfl) (by kernel_rfl) (by kernel_rfl) (fun _ _ _ h => h) (Or.inl ⟨by rfl, ?hya8⟩) (by assumption) ?resta8
                  case hya8 => (intro w hSw; (try dsimp only at hSw); go_simp; (try with_reducible rfl))
                  try simp only [Act.put, List.setIfInBounds_toArray, List.set_cons_zero, List.set_cons_succ]
                  refine wpAnyH_take (i := 9) (oi := { dst := some 83, op := Op.move (Operand.tmp 15), type := 3, pos := "ref.go:72", after := #[{ on := 8, ground := Ground.guard }], guard := some (8, false) }) (v := ?va9) rfl (by kernel_rfl) (by kernel_rfl) (by kernel_rfl) (fun _ _ _ h => h) (Or.inl ⟨by rfl, ?hya9⟩) (by assumption) ?resta9
                  case hya9 => (intro w hSw; (try dsimp only at hSw); go_simp; (try with_reducible rfl))
                  try simp only [Act.put, List.setIfInBounds_toArray, List.set_cons_zero, List.set_cons_succ]
                  refine wpAnyH_take (i := 10) (oi := { dst := some 84, op := Op.binOp BinOp.gtr 3 (Operand.tmp 83) (Operand.const (Value.int IntKind.i64 0)) 3, type := 4, pos := "ref.go:72", after := #[{ on := 9, ground := Ground.data }, { on := 8, ground := Ground.guard }], guard := some (8, false) }) (v := ?va10) rfl (by kernel_rfl) (by kernel_rfl) (by kernel_rfl) (fun _ _ _ h => h) (Or.inl ⟨by rfl, ?hya10⟩) (by assumption) ?resta10
                  case hya10 => (intro w hSw; (try dsimp only at hSw); go_simp; (try with_reducible rfl))
                  try simp only [Act.put, List.setIfInBounds_toArray, List.set_cons_zero, List.set_cons_succ]
                  refine wpAnyH_take (i := 11) (oi := { dst := some 85, op := Op.move (Operand.tmp 84), type := 4, pos := "ref.go:72", after := #[{ on := 10, ground := Ground.data }, { on := 8, ground := Ground.chain }, { on := 8, ground := Ground.guard }], guard := some (8, false) }) (v := ?va11) rfl (by kernel_rfl) (by kernel_rfl) (by kernel_rfl) (fun _ _ _ h => h) (Or.inl ⟨by rfl, ?hya11⟩) (by assumption) ?resta11
                  case hya11 => (intro w hSw; (try dsimp only at hSw); go_simp; (try with_reducible rfl))
                  try simp only [Act.put, List.setIfInBounds_toArray, List.set_cons_zero, List.set_cons_succ]
                  refine wpAnyH_take (i := 12) (oi := { dst := some 86, op := Op.move (Operand.tmp 3), type := 34, pos := "ref.go:72", after := #[{ on := 11, ground := Ground.guard }], guard := some (11, true) }) (v := ?va12) rfl (by kernel_rfl) (by kernel_rfl) (by kernel_rfl) (fun _ _ _ h => h) (Or.inl ⟨by rfl, ?hya12⟩) (by assumption) ?resta12
                  case hya12 => (intro w hSw; (try dsimp only at hSw); go_simp; (try with_reducible rfl))
                  try simp only [Act.put, List.setIfInBounds_toArray, List.set_cons_zero, List.set_cons_succ]
                  refine wpAnyH_take (i := 13) (oi := { dst := some 87, op := Op.move (Operand.tmp 15), type := 3, pos := "ref.go:72", after := #[{ on := 11, ground := Ground.guard }], guard := some (11, true) }) (v := ?va13) rfl (by kernel_rfl) (by kernel_rfl) (by kernel_rfl) (fun _ _ _ h => h) (Or.inl ⟨by rfl, ?hya13⟩) (by assumption) ?resta13
                  case hya13 => (intro w hSw; (try dsimp only at hSw); go_simp; (try with_reducible rfl))
                  try simp only [Act.put, List.setIfInBounds_toArray, List.set_cons_zero, List.set_cons_succ]
                  refine wpAnyH_take (i := 14) (oi := { dst := some 88, op := Op.binOp BinOp.sub 3 (Operand.tmp 87) (Operand.const (Value.int IntKind.i64 1)) 3, type := 3, pos := "ref.go:72", after := #[{ on := 13, ground := Ground.data }, { on := 11, ground := Ground.guard }], guard := some (11, true) }) (v := ?va14) rfl (by kernel_rfl) (by kernel_rfl) (by kernel_rfl) (fun _ _ _ h => h) (Or.inl ⟨by rfl, ?hya14⟩) (by assumption) ?resta14
                  case hya14 => (intro w hSw; (try dsimp only at hSw); go_simp; (try with_reducible rfl))
                  try simp only [Act.put, List.setIfInBounds_toArray, List.set_cons_zero, List.set_cons_succ]
                  refine wpAnyH_take (i := 15) (oi := { dst := some 89, op := Op.indexAddr 34 (Operand.tmp 86) (Operand.tmp 88), type := 0, pos := "ref.go:72", after := #[{ on := 12, ground := Ground.data }, { on := 14, ground := Ground.data }, { on := 11, ground := Ground.guard }], guard := some (11, true) }) (v := ?va15) rfl (by kernel_rfl) (by kernel_rfl) (by kernel_rfl) (fun _ _ _ h => h) (Or.inl ⟨by rfl, ?hya15⟩) (by assumption) ?resta15
                  case hya15 => (intro w hSw; (try dsimp only at hSw); go_simp; (try with_reducible rfl))
                  try simp only [Act.put, List.setIfInBounds_toArray, List.set_cons_zero, List.set_cons_succ]
                  refine wpAnyH_take (i := 16) (oi := { dst := some 90, op := Op.load 61 (Operand.tmp 89), type := 61, pos := "ref.go:72", after := #[{ on := 15, ground := Ground.data }, { on := 11, ground := Ground.guard }], guard := some (11, true) }) (v := ?va16) rfl (by kernel_rfl) (by kernel_rfl) (by kernel_rfl) (fun _ _ _ h => h) (Or.inl ⟨by rfl, ?hya16⟩) (by assumption) ?resta16
                  case hya16 => (intro w hSw; (try dsimp only at hSw); go_simp; (try with_reducible rfl))
                  try simp only [Act.put, List.setIfInBounds_toArray, List.set_cons_zero, List.set_cons_succ]
                  refine wpAnyH_take (i := 17) (oi := { dst := some 91, op := Op.move (Operand.tmp 3), type := 34, pos := "ref.go:72", after := #[{ on := 11, ground := Ground.guard }], guard := some (11, true) }) (v := ?va17) rfl (by kernel_rfl) (by kernel_rfl) (by kernel_rfl) (fun _ _ _ h => h) (Or.inl ⟨by rfl, ?hya17⟩) (by assumption) ?resta17
                  case hya17 => (intro w hSw; (try dsimp only at hSw); go_simp; (try with_reducible rfl))
                  try simp only [Act.put, List.setIfInBounds_toArray, List.set_cons_zero, List.set_cons_succ]
                  refine wpAnyH_take (i := 18) (oi := { dst := some 92, op := Op.move (Operand.tmp 15), type := 3, pos := "ref.go:72", after := #[{ on := 11, ground := Ground.guard }], guard := some (11, true) }) (v := ?va18) rfl (by kernel_rfl) (by kernel_rfl) (by kernel_rfl) (fun _ _ _ h => h) (Or.inl ⟨by rfl, ?hya18⟩) (by assumption) ?resta18
                  case hya18 => (intro w hSw; (try dsimp only at hSw); go_simp; (try with_reducible rfl))
                  try simp only [Act.put, List.setIfInBounds_toArray, List.set_cons_zero, List.set_cons_succ]
                  refine wpAnyH_take (i := 19) (oi := { dst := some 93, op := Op.indexAddr 34 (Operand.tmp 91) (Operand.tmp 92), type := 0, pos := "ref.go:72", after := #[{ on := 17, ground := Ground.data }, { on := 18, ground := Ground.data }, { on := 11, ground := Ground.guard }], guard := some (11, true) }) (v := ?va19) rfl (by kernel_rfl) (by kernel_rfl) (by kernel_rfl) (fun _ _ _ h => h) (Or.inl ⟨by rfl, ?hya19⟩) (by assumption) ?resta19
                  case hya19 => (intro w hSw; (try dsimp only at hSw); go_simp; (try with_reducible rfl))
                  try simp only [Act.put, List.setIfInBounds_toArray, List.set_cons_zero, List.set_cons_succ]
                  refine wpAnyH_take (i := 20) (oi := { dst := some 94, op := Op.load 61 (Operand.tmp 93), type := 61, pos := "ref.go:72", after := #[{ on := 19, ground := Ground.data }, { on := 11, ground := Ground.guard }], guard := some (11, true) }) (v := ?va20) rfl (by kernel_rfl) (by kernel_rfl) (by kernel_rfl) (fun _ _ _ h => h) (Or.inl ⟨by rfl, ?hya20⟩) (by assumption) ?resta20
                  case hya20 => (intro w hSw; (try dsimp only at hSw); go_simp; (try with_reducible rfl))
                  try simp only [Act.put, List.setIfInBounds_toArray, List.set_cons_zero, List.set_cons_succ]
                  refine wpAnyH_ready (rs := [21]) (by kernel_rfl) (by simp) ?_
                  refine AllReadyH.cons (o := { dst := some 95, op := Op.call { callee := Callee.value (Operand.func 44), args := #[Operand.tmp 90, Operand.tmp 94], argTypes := #[61, 61] }, type := 4, pos := "ref.go:72", after := #[{ on := 16, ground := Ground.data }, { on := 20, ground := Ground.data }, { on := 11, ground := Ground.chain }, { on := 11, ground := Ground.guard }], guard := some (11, true) }) rfl (fun K hK => ?_) AllReadyH.nil
                  go_simp
                  go_at_call 44
                  refine (CY.out _).mono ?_
                  rintro e w' ⟨rfl, hb⟩
                  go_wp2_with fail
                  refine hK.out _ _ ?_ (fun hHeld1 => ?_)
                  · exact p8_carry hHeld0 hb
                  clear hK K hHeld0
                  try simp only [Act.put, List.setIfInBounds_toArray, List.set_cons_zero, List.set_cons_succ]
                  refine wpAnyH_take (i := 22) (oi := { dst := some 96, op := Op.unOp UnOp.not 4 (Operand.tmp 95), type := 4, pos := "ref.go:72", after := #[{ on := 21, ground := Ground.data }, { on := 11, ground := Ground.guard }], guard := some (11, true) }) (v := ?va22) rfl (by kernel_rfl) (by kernel_rfl) (by kernel_rfl) (fun _ _ _ h => h) (Or.inl ⟨by rfl, ?hya22⟩) (by assumption) ?resta22
                  case hya22 => (intro w hSw; (try dsimp only at hSw); go_simp; (try with_reducible rfl))
                  try simp only [Act.put, List.setIfInBounds_toArray, List.set_cons_zero, List.set_cons_succ]
                  refine wpAnyH_take (i := 23) (oi := { dst := some 97, op := Op.pick (Operand.tmp 85) (Operand.tmp 96) (Operand.const (Value.bool false)), type := 4, pos := "ref.go:72", after := #[{ on := 11, ground := Ground.data }, { on := 22, ground := Ground.data }, { on := 8, ground := Ground.guard }], guard := some (8, false) }) (v := ?va23) rfl (by kernel_rfl) (by kernel_rfl) (by kernel_rfl) (fun _ _ _ h => h) (Or.inl ⟨by rfl, ?hya23⟩) (by assumption) ?resta23
                  case hya23 => (intro w hSw; (try dsimp only at hSw); go_simp; (try with_reducible rfl))
                  try simp only [Act.put, List.setIfInBounds_toArray, List.set_cons_zero, List.set_cons_succ]
                  refine wpAnyH_take (i := 24) (oi := { dst := some 98, op := Op.pick (Operand.tmp 82) (Operand.const (Value.bool true)) (Operand.tmp 97), type := 4, pos := "ref.go:72", after := #[{ on := 8, ground := Ground.data }, { on := 23, ground := Ground.data }], guard := none }) (v := ?va24) rfl (by kernel_rfl) (by kernel_rfl) (by kernel_rfl) (fun _ _ _ h => h) (Or.inl ⟨by rfl, ?hya24⟩) (by assumption) ?resta24
                  case hya24 => (intro w hSw; (try dsimp only at hSw); go_simp; (try with_reducible rfl))
                  try simp only [Act.put, List.setIfInBounds_toArray, List.set_cons_zero, List.set_cons_succ]
                  refine wpAnyH_take (i := 25) (oi := { dst := some 99, op := Op.move (Operand.tmp 98), type := 4, pos := "ref.go:72", after := #[{ on := 24, ground := Ground.data }, { on := 21, ground := Ground.chain }], guard := none }) (v := ?va25) rfl (by kernel_rfl) (by kernel_rfl) (by kernel_rfl) (fun _ _ _ h => h) (Or.inl ⟨by rfl, ?hya25⟩) (by assumption) ?resta25
                  case hya25 => (intro w hSw; (try dsimp only at hSw); go_simp; (try with_reducible rfl))
                  try simp only [Act.put, List.setIfInBounds_toArray, List.set_cons_zero, List.set_cons_succ]
                  refine wpAnyH_take (i := 26) (oi := { dst := some 100, op := Op.fieldAddr 80 (Operand.tmp 14) 3, type := 0, pos := "ref.go:72", after := #[{ on := 25, ground := Ground.guard }], guard := some (25, false) }) rfl (by kernel_rfl) (by kernel_rfl) (by kernel_rfl) (fun _ _ _ h => h) (Or.inr ⟨by rfl, rfl⟩) (by assumption) ?_
                  try simp only [Act.put, List.setIfInBounds_toArray, List.set_cons_zero, List.set_cons_succ]
                  refine wpAnyH_take (i := 27) (oi := { dst := some 101, op := Op.load 4 (Operand.tmp 100), type := 4, pos := "ref.go:72", after := #[{ on := 26, ground := Ground.data }, { on := 25, ground := Ground.guard }], guard := some (25, false) }) rfl (by kernel_rfl) (by kernel_rfl) (by kernel_rfl) (fun _ _ _ h => h) (Or.inr ⟨by rfl, rfl⟩) (by assumption) ?_
                  try simp only [Act.put, List.setIfInBounds_toArray, List.set_cons_zero, List.set_cons_succ]
                  refine wpAnyH_take (i := 28) (oi := { dst := some 102, op := Op.move (Operand.tmp 101), type := 4, pos := "ref.go:72", after := #[{ on := 27, ground := Ground.data }, { on := 25, ground := Ground.chain }, { on := 25, ground := Ground.guard }], guard := some (25, false) }) rfl (by kernel_rfl) (by kernel_rfl) (by kernel_rfl) (fun _ _ _ h => h) (Or.inr ⟨by rfl, rfl⟩) (by assumption) ?_
                  try simp only [Act.put, List.setIfInBounds_toArray, List.set_cons_zero, List.set_cons_succ]
                  refine wpAnyH_take (i := 29) (oi := { dst := some 103, op := Op.fieldAddr 80 (Operand.tmp 14) 4, type := 0, pos := "ref.go:72", after := #[{ on := 28, ground := Ground.guard }], guard := some (28, true) }) rfl (by kernel_rfl) (by kernel_rfl) (by kernel_rfl) (fun _ _ _ h => h) (Or.inr ⟨by rfl, rfl⟩) (by assumption) ?_
                  try simp only [Act.put, List.setIfInBounds_toArray, List.set_cons_zero, List.set_cons_succ]
                  refine wpAnyH_take (i := 30) (oi := { dst := some 104, op := Op.load 61 (Operand.tmp 103), type := 61, pos := "ref.go:72", after := #[{ on := 29, ground := Ground.data }, { on := 28, ground := Ground.guard }], guard := some (28, true) }) rfl (by kernel_rfl) (by kernel_rfl) (by kernel_rfl) (fun _ _ _ h => h) (Or.inr ⟨by rfl, rfl⟩) (by assumption) ?_
                  try simp only [Act.put, List.setIfInBounds_toArray, List.set_cons_zero, List.set_cons_succ]
                  refine wpAnyH_take (i := 31) (oi := { dst := some 105, op := Op.move (Operand.tmp 3), type := 34, pos := "ref.go:72", after := #[{ on := 28, ground := Ground.guard }], guard := some (28, true) }) rfl (by kernel_rfl) (by kernel_rfl) (by kernel_rfl) (fun _ _ _ h => h) (Or.inr ⟨by rfl, rfl⟩) (by assumption) ?_
                  try simp only [Act.put, List.setIfInBounds_toArray, List.set_cons_zero, List.set_cons_succ]
                  refine wpAnyH_take (i := 32) (oi := { dst := some 106, op := Op.move (Operand.tmp 15), type := 3, pos := "ref.go:72", after := #[{ on := 28, ground := Ground.guard }], guard := some (28, true) }) rfl (by kernel_rfl) (by kernel_rfl) (by kernel_rfl) (fun _ _ _ h => h) (Or.inr ⟨by rfl, rfl⟩) (by assumption) ?_
                  try simp only [Act.put, List.setIfInBounds_toArray, List.set_cons_zero, List.set_cons_succ]
                  refine wpAnyH_take (i := 33) (oi := { dst := some 107, op := Op.indexAddr 34 (Operand.tmp 105) (Operand.tmp 106), type := 0, pos := "ref.go:72", after := #[{ on := 31, ground := Ground.data }, { on := 32, ground := Ground.data }, { on := 28, ground := Ground.guard }], guard := some (28, true) }) rfl (by kernel_rfl) (by kernel_rfl) (by kernel_rfl) (fun _ _ _ h => h) (Or.inr ⟨by rfl, rfl⟩) (by assumption) ?_
                  try simp only [Act.put, List.setIfInBounds_toArray, List.set_cons_zero, List.set_cons_succ]
                  refine wpAnyH_take (i := 34) (oi := { dst := some 108, op := Op.load 61 (Operand.tmp 107), type := 61, pos := "ref.go:72", after := #[{ on := 33, ground := Ground.data }, { on := 28, ground := Ground.guard }], guard := some (28, true) }) rfl (by kernel_rfl) (by kernel_rfl) (by kernel_rfl) (fun _ _ _ h => h) (Or.inr ⟨by rfl, rfl⟩) (by assumption) ?_
                  try simp only [Act.put, List.setIfInBounds_toArray, List.set_cons_zero, List.set_cons_succ]
                  refine wpAnyH_take (i := 35) (oi := { dst := some 109, op := Op.call { callee := Callee.value (Operand.func 44), args := #[Operand.tmp 104, Operand.tmp 108], argTypes := #[61, 61] }, type := 4, pos := "ref.go:72", after := #[{ on := 30, ground := Ground.data }, { on := 34, ground := Ground.data }, { on := 28, ground := Ground.chain }, { on := 28, ground := Ground.guard }], guard := some (28, true) }) rfl (by kernel_rfl) (by kernel_rfl) (by kernel_rfl) (fun _ _ _ h => h) (Or.inr ⟨by rfl, rfl⟩) (by assumption) ?_
                  try simp only [Act.put, List.setIfInBounds_toArray, List.set_cons_zero, List.set_cons_succ]
                  refine wpAnyH_take (i := 36) (oi := { dst := some 110, op := Op.unOp UnOp.not 4 (Operand.tmp 109), type := 4, pos := "ref.go:72", after := #[{ on := 35, ground := Ground.data }, { on := 28, ground := Ground.guard }], guard := some (28, true) }) rfl (by kernel_rfl) (by kernel_rfl) (by kernel_rfl) (fun _ _ _ h => h) (Or.inr ⟨by rfl, rfl⟩) (by assumption) ?_
                  try simp only [Act.put, List.setIfInBounds_toArray, List.set_cons_zero, List.set_cons_succ]
                  refine wpAnyH_take (i := 37) (oi := { dst := some 111, op := Op.pick (Operand.tmp 102) (Operand.tmp 110) (Operand.const (Value.bool false)), type := 4, pos := "ref.go:72", after := #[{ on := 28, ground := Ground.data }, { on := 36, ground := Ground.data }, { on := 25, ground := Ground.guard }], guard := some (25, false) }) rfl (by kernel_rfl) (by kernel_rfl) (by kernel_rfl) (fun _ _ _ h => h) (Or.inr ⟨by rfl, rfl⟩) (by assumption) ?_
                  try simp only [Act.put, List.setIfInBounds_toArray, List.set_cons_zero, List.set_cons_succ]
                  refine wpAnyH_take (i := 38) (oi := { dst := some 112, op := Op.pick (Operand.tmp 99) (Operand.const (Value.bool true)) (Operand.tmp 111), type := 4, pos := "ref.go:72", after := #[{ on := 25, ground := Ground.data }, { on := 37, ground := Ground.data }], guard := none }) (v := ?va38) rfl (by kernel_rfl) (by kernel_rfl) (by kernel_rfl) (fun _ _ _ h => h) (Or.inl ⟨by rfl, ?hya38⟩) (by assumption) ?resta38
                  case hya38 => (intro w hSw; (try dsimp only at hSw); go_simp; (try with_reducible rfl))
                  try simp only [Act.put, List.setIfInBounds_toArray, List.set_cons_zero, List.set_cons_succ]
                  refine wpAnyH_done (by kernel_rfl) ?_ _
                  have BE := Lib.hid hHeld1.2
                  clear hHeld1
                  go_wp2_with fail
                  go_ret
                  exact NO.out _ BE.out (by rw [FN.out]; simp)
              case true =>
                cases zr
                case false =>
                    have hS0 := p8_carry T.out (Below.refl wr.heap.size wr).drew
                    go_upto_region 13 with fail
                    refine wp_region_held_drew (S := (fun w' => ((w'.cell? ⟨p, 0, none⟩ = some (.int .i64 x.least) ∧ w'.cell? ⟨p, 3, none⟩ = some (.bool false) ∧ w'.cell? ⟨p, 4, none⟩ = some (.int .i64 x.last.1) ∧ w'.cell? ⟨p, 5, none⟩ = some (.string x.last.2)) ∧ ((w'.cell? ⟨fb, fo + (i7 + 1) * 2, none⟩ = some (.int .i64 k.1) ∧ w'.cell? ⟨fb, fo + (i7 + 1) * 2 + 1, none⟩ = some (.string k.2)) ∧ (w'.cell? ⟨fb, fo + i7 * 2, none⟩ = some (.int .i64 y.1) ∧ w'.cell? ⟨fb, fo + i7 * 2 + 1, none⟩ = some (.string y.2)))) ∧ Below wr.heap.size wr w')) (by kernel_rfl) hS0 (fun hHeld0 => ?_)
                    refine wpAnyH_take (i := 0) (oi := { dst := some 74, op := Op.move (Operand.tmp 3), type := 34, pos := "ref.go:72", after := #[], guard := none }) (v := ?vb0) rfl (by kernel_rfl) (by kernel_rfl) (by kernel_rfl) (fun _ _ _ h => h) (Or.inl ⟨by rfl, ?hyb0⟩) (by assumption) ?restb0
                    case hyb0 => (intro w hSw; (try dsimp only at hSw); go_simp; (try with_reducible rfl))
                    try simp only [Act.put, List.setIfInBounds_toArray, List.set_cons_zero, List.set_cons_succ]
                    refine wpAnyH_take (i := 1) (oi := { dst := some 75, op := Op.move (Operand.tmp 15), type := 3, pos := "ref.go:72", after := #[], guard := none }) (v := ?vb1) rfl (by kernel_rfl) (by kernel_rfl) (by kernel_rfl) (fun _ _ _ h => h) (Or.inl ⟨by rfl, ?hyb1⟩) (by assumption) ?restb1
                    case hyb1 => (intro w hSw; (try dsimp only at hSw); go_simp; (try with_reducible rfl))
                    try simp only [Act.put, List.setIfInBounds_toArray, List.set_cons_zero, List.set_cons_succ]
                    refine wpAnyH_take (i := 2) (oi := { dst := some 76, op := Op.indexAddr 34 (Operand.tmp 74) (Operand.tmp 75), type := 0, pos := "ref.go:72", after := #[{ on := 0, ground := Ground.data }, { on := 1, ground := Ground.data }], guard := none }) (v := ?vb2) rfl (by kernel_rfl) (by kernel_rfl) (by kernel_rfl) (fun _ _ _ h => h) (Or.inl ⟨by rfl, ?hyb2⟩) (by assumption) ?restb2
                    case hyb2 => (intro w hSw; (try dsimp only at hSw); go_simp; (try with_reducible rfl))
                    try simp only [Act.put, List.setIfInBounds_toArray, List.set_cons_zero, List.set_cons_succ]
                    refine wpAnyH_take (i := 3) (oi := { dst := some 77, op := Op.fieldAddr 61 (Operand.tmp 76) 0, type := 0, pos := "ref.go:72", after := #[{ on := 2, ground := Ground.data }], guard := none }) (v := ?vb3) rfl (by kernel_rfl) (by kernel_rfl) (by kernel_rfl) (fun _ _ _ h => h) (Or.inl ⟨by rfl, ?hyb3⟩) (by assumption) ?restb3
                    case hyb3 => (intro w hSw; (try dsimp only at hSw); go_simp; (try with_reducible rfl))
                    try simp only [Act.put, List.setIfInBounds_toArray, List.set_cons_zero, List.set_cons_succ]
                    refine wpAnyH_take (i := 4) (oi := { dst := some 78, op := Op.load 3 (Operand.tmp 77), type := 3, pos := "ref.go:72", after := #[{ on := 3, ground := Ground.data }], guard := none }) (v := ?vb4) rfl (by kernel_rfl) (by kernel_rfl) (by kernel_rfl) (fun _ _ _ h => h) (Or.inl ⟨by rfl, ?hyb4⟩) (by assumption) ?restb4
                    case hyb4 => (intro w hSw; (try dsimp only at hSw); go_simp; (try with_reducible rfl))
                    try simp only [Act.put, List.setIfInBounds_toArray, List.set_cons_zero, List.set_cons_succ]
                    refine wpAnyH_take (i := 5) (oi := { dst := some 79, op := Op.fieldAddr 80 (Operand.tmp 14) 0, type := 0, pos := "ref.go:72", after := #[], guard := none }) (v := ?vb5) rfl (by kernel_rfl) (by kernel_rfl) (by kernel_rfl) (fun _ _ _ h => h) (Or.inl ⟨by rfl, ?hyb5⟩) (by assumption) ?restb5
                    case hyb5 => (intro w hSw; (try dsimp only at hSw); go_simp; (try with_reducible rfl))
                    try simp only [Act.put, List.setIfInBounds_toArray, List.set_cons_zero, List.set_cons_succ]
                    refine wpAnyH_take (i := 6) (oi := { dst := some 80, op := Op.load 3 (Operand.tmp 79), type := 3, pos := "ref.go:72", after := #[{ on := 5, ground := Ground.data }], guard := none }) (v := ?vb6) rfl (by kernel_rfl) (by kernel_rfl) (by kernel_rfl) (fun _ _ _ h => h) (Or.inl ⟨by rfl, ?hyb6⟩) (by assumption) ?restb6
                    case hyb6 => (intro w hSw; (try dsimp only at hSw); go_simp; (try with_reducible rfl))
                    try simp only [Act.put, List.setIfInBounds_toArray, List.set_cons_zero, List.set_cons_succ]
                    refine wpAnyH_take (i := 7) (oi := { dst := some 81, op := Op.binOp BinOp.lss 3 (Operand.tmp 78) (Operand.tmp 80) 3, type := 4, pos := "ref.go:72", after := #[{ on := 4, ground := Ground.data }, { on := 6, ground := Ground.data }], guard := none }) (v := ?vb7) rfl (by kernel_rfl) (by kernel_rfl) (by kernel_rfl) (fun _ _ _ h => h) (Or.inl ⟨by rfl, ?hyb7⟩) (by assumption) ?restb7
                    case hyb7 => (intro w hSw; (try dsimp only at hSw); go_simp; (try with_reducible rfl))
                    try simp only [Act.put, List.setIfInBounds_toArray, List.set_cons_zero, List.set_cons_succ]
                    refine wpAnyH_take (i := 8) (oi := { dst := some 82, op := Op.move (Operand.tmp 81), type := 4, pos := "ref.go:72", after := #[{ on := 7, ground := Ground.data }], guard := none }) (v := ?vb8) rfl (by kernel_rfl) (by kernel_rfl) (by kernel_rfl) (fun _ _ _ h => h) (Or.inl ⟨by rfl, ?hyb8⟩) (by assumption) ?restb8
                    case hyb8 => (intro w hSw; (try dsimp only at hSw); go_simp; (try with_reducible rfl))
                    try simp only [Act.put, List.setIfInBounds_toArray, List.set_cons_zero, List.set_cons_succ]
                    refine wpAnyH_take (i := 9) (oi := { dst := some 83, op := Op.move (Operand.tmp 15), type := 3, pos := "ref.go:72", after := #[{ on := 8, ground := Ground.guard }], guard := some (8, false) }) (v := ?vb9) rfl (by kernel_rfl) (by kernel_rfl) (by kernel_rfl) (fun _ _ _ h => h) (Or.inl ⟨by rfl, ?hyb9⟩) (by assumption) ?restb9
                    case hyb9 => (intro w hSw; (try dsimp only at hSw); go_simp; (try with_reducible rfl))
                    try simp only [Act.put, List.setIfInBounds_toArray, List.set_cons_zero, List.set_cons_succ]
                    refine wpAnyH_take (i := 10) (oi := { dst := some 84, op := Op.binOp BinOp.gtr 3 (Operand.tmp 83) (Operand.const (Value.int IntKind.i64 0)) 3, type := 4, pos := "ref.go:72", after := #[{ on := 9, ground := Ground.data }, { on := 8, ground := Ground.guard }], guard := some (8, false) }) (v := ?vb10) rfl (by kernel_rfl) (by kernel_rfl) (by kernel_rfl) (fun _ _ _ h => h) (Or.inl ⟨by rfl, ?hyb10⟩) (by assumption) ?restb10
                    case hyb10 => (intro w hSw; (try dsimp only at hSw); go_simp; (try with_reducible rfl))
                    try simp only [Act.put, List.setIfInBounds_toArray, List.set_cons_zero, List.set_cons_succ]
                    refine wpAnyH_take (i := 11) (oi := { dst := some 85, op := Op.move (Operand.tmp 84), type := 4, pos := "ref.go:72", after := #[{ on := 10, ground := Ground.data }, { on := 8, ground := Ground.chain }, { on := 8, ground := Ground.guard }], guard := some (8, false) }) (v := ?vb11) rfl (by kernel_rfl) (by kernel_rfl) (by kernel_rfl) (fun _ _ _ h => h) (Or.inl ⟨by rfl, ?hyb11⟩) (by assumption) ?restb11
                    case hyb11 => (intro w hSw; (try dsimp only at hSw); go_simp; (try with_reducible rfl))
                    try simp only [Act.put, List.setIfInBounds_toArray, List.set_cons_zero, List.set_cons_succ]
                    refine wpAnyH_take (i := 12) (oi := { dst := some 86, op := Op.move (Operand.tmp 3), type := 34, pos := "ref.go:72", after := #[{ on := 11, ground := Ground.guard }], guard := some (11, true) }) (v := ?vb12) rfl (by kernel_rfl) (by kernel_rfl) (by kernel_rfl) (fun _ _ _ h => h) (Or.inl ⟨by rfl, ?hyb12⟩) (by assumption) ?restb12
                    case hyb12 => (intro w hSw; (try dsimp only at hSw); go_simp; (try with_reducible rfl))
                    try simp only [Act.put, List.setIfInBounds_toArray, List.set_cons_zero, List.set_cons_succ]
                    refine wpAnyH_take (i := 13) (oi := { dst := some 87, op := Op.move (Operand.tmp 15), type := 3, pos := "ref.go:72", after := #[{ on := 11, ground := Ground.guard }], guard := some (11, true) }) (v := ?vb13) rfl (by kernel_rfl) (by kernel_rfl) (by kernel_rfl) (fun _ _ _ h => h) (Or.inl ⟨by rfl, ?hyb13⟩) (by assumption) ?restb13
                    case hyb13 => (intro w hSw; (try dsimp only at hSw); go_simp; (try with_reducible rfl))
                    try simp only [Act.put, List.setIfInBounds_toArray, List.set_cons_zero, List.set_cons_succ]
                    refine wpAnyH_take (i := 14) (oi := { dst := some 88, op := Op.binOp BinOp.sub 3 (Operand.tmp 87) (Operand.const (Value.int IntKind.i64 1)) 3, type := 3, pos := "ref.go:72", after := #[{ on := 13, ground := Ground.data }, { on := 11, ground := Ground.guard }], guard := some (11, true) }) (v := ?vb14) rfl (by kernel_rfl) (by kernel_rfl) (by kernel_rfl) (fun _ _ _ h => h) (Or.inl ⟨by rfl, ?hyb14⟩) (by assumption) ?restb14
                    case hyb14 => (intro w hSw; (try dsimp only at hSw); go_simp; (try with_reducible rfl))
                    try simp only [Act.put, List.setIfInBounds_toArray, List.set_cons_zero, List.set_cons_succ]
                    refine wpAnyH_take (i := 15) (oi := { dst := some 89, op := Op.indexAddr 34 (Operand.tmp 86) (Operand.tmp 88), type := 0, pos := "ref.go:72", after := #[{ on := 12, ground := Ground.data }, { on := 14, ground := Ground.data }, { on := 11, ground := Ground.guard }], guard := some (11, true) }) (v := ?vb15) rfl (by kernel_rfl) (by kernel_rfl) (by kernel_rfl) (fun _ _ _ h => h) (Or.inl ⟨by rfl, ?hyb15⟩) (by assumption) ?restb15
                    case hyb15 => (intro w hSw; (try dsimp only at hSw); go_simp; (try with_reducible rfl))
                    try simp only [Act.put, List.setIfInBounds_toArray, List.set_cons_zero, List.set_cons_succ]
                    refine wpAnyH_take (i := 16) (oi := { dst := some 90, op := Op.load 61 (Operand.tmp 89), type := 61, pos := "ref.go:72", after := #[{ on := 15, ground := Ground.data }, { on := 11, ground := Ground.guard }], guard := some (11, true) }) (v := ?vb16) rfl (by kernel_rfl) (by kernel_rfl) (by kernel_rfl) (fun _ _ _ h => h) (Or.inl ⟨by rfl, ?hyb16⟩) (by assumption) ?restb16
                    case hyb16 => (intro w hSw; (try dsimp only at hSw); go_simp; (try with_reducible rfl))
                    try simp only [Act.put, List.setIfInBounds_toArray, List.set_cons_zero, List.set_cons_succ]
                    refine wpAnyH_take (i := 17) (oi := { dst := some 91, op := Op.move (Operand.tmp 3), type := 34, pos := "ref.go:72", after := #[{ on := 11, ground := Ground.guard }], guard := some (11, true) }) (v := ?vb17) rfl (by kernel_rfl) (by kernel_rfl) (by kernel_rfl) (fun _ _ _ h => h) (Or.inl ⟨by rfl, ?hyb17⟩) (by assumption) ?restb17
                    case hyb17 => (intro w hSw; (try dsimp only at hSw); go_simp; (try with_reducible rfl))
                    try simp only [Act.put, List.setIfInBounds_toArray, List.set_cons_zero, List.set_cons_succ]
                    refine wpAnyH_take (i := 18) (oi := { dst := some 92, op := Op.move (Operand.tmp 15), type := 3, pos := "ref.go:72", after := #[{ on := 11, ground := Ground.guard }], guard := some (11, true) }) (v := ?vb18) rfl (by kernel_rfl) (by kernel_rfl) (by kernel_rfl) (fun _ _ _ h => h) (Or.inl ⟨by rfl, ?hyb18⟩) (by assumption) ?restb18
                    case hyb18 => (intro w hSw; (try dsimp only at hSw); go_simp; (try with_reducible rfl))
                    try simp only [Act.put, List.setIfInBounds_toArray, List.set_cons_zero, List.set_cons_succ]
                    refine wpAnyH_take (i := 19) (oi := { dst := some 93, op := Op.indexAddr 34 (Operand.tmp 91) (Operand.tmp 92), type := 0, pos := "ref.go:72", after := #[{ on := 17, ground := Ground.data }, { on := 18, ground := Ground.data }, { on := 11, ground := Ground.guard }], guard := some (11, true) }) (v := ?vb19) rfl (by kernel_rfl) (by kernel_rfl) (by kernel_rfl) (fun _ _ _ h => h) (Or.inl ⟨by rfl, ?hyb19⟩) (by assumption) ?restb19
                    case hyb19 => (intro w hSw; (try dsimp only at hSw); go_simp; (try with_reducible rfl))
                    try simp only [Act.put, List.setIfInBounds_toArray, List.set_cons_zero, List.set_cons_succ]
                    refine wpAnyH_take (i := 20) (oi := { dst := some 94, op := Op.load 61 (Operand.tmp 93), type := 61, pos := "ref.go:72", after := #[{ on := 19, ground := Ground.data }, { on := 11, ground := Ground.guard }], guard := some (11, true) }) (v := ?vb20) rfl (by kernel_rfl) (by kernel_rfl) (by kernel_rfl) (fun _ _ _ h => h) (Or.inl ⟨by rfl, ?hyb20⟩) (by assumption) ?restb20
                    case hyb20 => (intro w hSw; (try dsimp only at hSw); go_simp; (try with_reducible rfl))
                    try simp only [Act.put, List.setIfInBounds_toArray, List.set_cons_zero, List.set_cons_succ]
                    refine wpAnyH_ready (rs := [21]) (by kernel_rfl) (by simp) ?_
                    refine AllReadyH.cons (o := { dst := some 95, op := Op.call { callee := Callee.value (Operand.func 44), args := #[Operand.tmp 90, Operand.tmp 94], argTypes := #[61, 61] }, type := 4, pos := "ref.go:72", after := #[{ on := 16, ground := Ground.data }, { on := 20, ground := Ground.data }, { on := 11, ground := Ground.chain }, { on := 11, ground := Ground.guard }], guard := some (11, true) }) rfl (fun K hK => ?_) AllReadyH.nil
                    go_simp
                    go_at_call 44
                    refine (CY.out _).mono ?_
                    rintro e w' ⟨rfl, hb⟩
                    go_wp2_with fail
                    refine hK.out _ _ ?_ (fun hHeld1 => ?_)
                    · exact p8_carry hHeld0 hb
                    clear hK K hHeld0
                    try simp only [Act.put, List.setIfInBounds_toArray, List.set_cons_zero, List.set_cons_succ]
                    refine wpAnyH_take (i := 22) (oi := { dst := some 96, op := Op.unOp UnOp.not 4 (Operand.tmp 95), type := 4, pos := "ref.go:72", after := #[{ on := 21, ground := Ground.data }, { on := 11, ground := Ground.guard }], guard := some (11, true) }) (v := ?vb22) rfl (by kernel_rfl) (by kernel_rfl) (by kernel_rfl) (fun _ _ _ h => h) (Or.inl ⟨by rfl, ?hyb22⟩) (by assumption) ?restb22
                    case hyb22 => (intro w hSw; (try dsimp only at hSw); go_simp; (try with_reducible rfl))
                    try simp only [Act.put, List.setIfInBounds_toArray, List.set_cons_zero, List.set_cons_succ]
                    refine wpAnyH_take (i := 23) (oi := { dst := some 97, op := Op.pick (Operand.tmp 85) (Operand.tmp 96) (Operand.const (Value.bool false)), type := 4, pos := "ref.go:72", after := #[{ on := 11, ground := Ground.data }, { on := 22, ground := Ground.data }, { on := 8, ground := Ground.guard }], guard := some (8, false) }) (v := ?vb23) rfl (by kernel_rfl) (by kernel_rfl) (by kernel_rfl) (fun _ _ _ h => h) (Or.inl ⟨by rfl, ?hyb23⟩) (by assumption) ?restb23
                    case hyb23 => (intro w hSw; (try dsimp only at hSw); go_simp; (try with_reducible rfl))
                    try simp only [Act.put, List.setIfInBounds_toArray, List.set_cons_zero, List.set_cons_succ]
                    refine wpAnyH_take (i := 24) (oi := { dst := some 98, op := Op.pick (Operand.tmp 82) (Operand.const (Value.bool true)) (Operand.tmp 97), type := 4, pos := "ref.go:72", after := #[{ on := 8, ground := Ground.data }, { on := 23, ground := Ground.data }], guard := none }) (v := ?vb24) rfl (by kernel_rfl) (by kernel_rfl) (by kernel_rfl) (fun _ _ _ h => h) (Or.inl ⟨by rfl, ?hyb24⟩) (by assumption) ?restb24
                    case hyb24 => (intro w hSw; (try dsimp only at hSw); go_simp; (try with_reducible rfl))
                    try simp only [Act.put, List.setIfInBounds_toArray, List.set_cons_zero, List.set_cons_succ]
                    refine wpAnyH_take (i := 25) (oi := { dst := some 99, op := Op.move (Operand.tmp 98), type := 4, pos := "ref.go:72", after := #[{ on := 24, ground := Ground.data }, { on := 21, ground := Ground.chain }], guard := none }) (v := ?vb25) rfl (by kernel_rfl) (by kernel_rfl) (by kernel_rfl) (fun _ _ _ h => h) (Or.inl ⟨by rfl, ?hyb25⟩) (by assumption) ?restb25
                    case hyb25 => (intro w hSw; (try dsimp only at hSw); go_simp; (try with_reducible rfl))
                    try simp only [Act.put, List.setIfInBounds_toArray, List.set_cons_zero, List.set_cons_succ]
                    refine wpAnyH_take (i := 26) (oi := { dst := some 100, op := Op.fieldAddr 80 (Operand.tmp 14) 3, type := 0, pos := "ref.go:72", after := #[{ on := 25, ground := Ground.guard }], guard := some (25, false) }) (v := ?vb26) rfl (by kernel_rfl) (by kernel_rfl) (by kernel_rfl) (fun _ _ _ h => h) (Or.inl ⟨by rfl, ?hyb26⟩) (by assumption) ?restb26
                    case hyb26 => (intro w hSw; (try dsimp only at hSw); go_simp; (try with_reducible rfl))
                    try simp only [Act.put, List.setIfInBounds_toArray, List.set_cons_zero, List.set_cons_succ]
                    refine wpAnyH_take (i := 27) (oi := { dst := some 101, op := Op.load 4 (Operand.tmp 100), type := 4, pos := "ref.go:72", after := #[{ on := 26, ground := Ground.data }, { on := 25, ground := Ground.guard }], guard := some (25, false) }) (v := ?vb27) rfl (by kernel_rfl) (by kernel_rfl) (by kernel_rfl) (fun _ _ _ h => h) (Or.inl ⟨by rfl, ?hyb27⟩) (by assumption) ?restb27
                    case hyb27 => (intro w hSw; (try dsimp only at hSw); go_simp; (try with_reducible rfl))
                    try simp only [Act.put, List.setIfInBounds_toArray, List.set_cons_zero, List.set_cons_succ]
                    refine wpAnyH_take (i := 28) (oi := { dst := some 102, op := Op.move (Operand.tmp 101), type := 4, pos := "ref.go:72", after := #[{ on := 27, ground := Ground.data }, { on := 25, ground := Ground.chain }, { on := 25, ground := Ground.guard }], guard := some (25, false) }) (v := ?vb28) rfl (by kernel_rfl) (by kernel_rfl) (by kernel_rfl) (fun _ _ _ h => h) (Or.inl ⟨by rfl, ?hyb28⟩) (by assumption) ?restb28
                    case hyb28 => (intro w hSw; (try dsimp only at hSw); go_simp; (try with_reducible rfl))
                    try simp only [Act.put, List.setIfInBounds_toArray, List.set_cons_zero, List.set_cons_succ]
                    refine wpAnyH_take (i := 29) (oi := { dst := some 103, op := Op.fieldAddr 80 (Operand.tmp 14) 4, type := 0, pos := "ref.go:72", after := #[{ on := 28, ground := Ground.guard }], guard := some (28, true) }) rfl (by kernel_rfl) (by kernel_rfl) (by kernel_rfl) (fun _ _ _ h => h) (Or.inr ⟨by rfl, rfl⟩) (by assumption) ?_
                    try simp only [Act.put, List.setIfInBounds_toArray, List.set_cons_zero, List.set_cons_succ]
                    refine wpAnyH_take (i := 30) (oi := { dst := some 104, op := Op.load 61 (Operand.tmp 103), type := 61, pos := "ref.go:72", after := #[{ on := 29, ground := Ground.data }, { on := 28, ground := Ground.guard }], guard := some (28, true) }) rfl (by kernel_rfl) (by kernel_rfl) (by kernel_rfl) (fun _ _ _ h => h) (Or.inr ⟨by rfl, rfl⟩) (by assumption) ?_
                    try simp only [Act.put, List.setIfInBounds_toArray, List.set_cons_zero, List.set_cons_succ]
                    refine wpAnyH_take (i := 31) (oi := { dst := some 105, op := Op.move (Operand.tmp 3), type := 34, pos := "ref.go:72", after := #[{ on := 28, ground := Ground.guard }], guard := some (28, true) }) rfl (by kernel_rfl) (by kernel_rfl) (by kernel_rfl) (fun _ _ _ h => h) (Or.inr ⟨by rfl, rfl⟩) (by assumption) ?_
                    try simp only [Act.put, List.setIfInBounds_toArray, List.set_cons_zero, List.set_cons_succ]
                    refine wpAnyH_take (i := 32) (oi := { dst := some 106, op := Op.move (Operand.tmp 15), type := 3, pos := "ref.go:72", after := #[{ on := 28, ground := Ground.guard }], guard := some (28, true) }) rfl (by kernel_rfl) (by kernel_rfl) (by kernel_rfl) (fun _ _ _ h => h) (Or.inr ⟨by rfl, rfl⟩) (by assumption) ?_
                    try simp only [Act.put, List.setIfInBounds_toArray, List.set_cons_zero, List.set_cons_succ]
                    refine wpAnyH_take (i := 33) (oi := { dst := some 107, op := Op.indexAddr 34 (Operand.tmp 105) (Operand.tmp 106), type := 0, pos := "ref.go:72", after := #[{ on := 31, ground := Ground.data }, { on := 32, ground := Ground.data }, { on := 28, ground := Ground.guard }], guard := some (28, true) }) rfl (by kernel_rfl) (by kernel_rfl) (by kernel_rfl) (fun _ _ _ h => h) (Or.inr ⟨by rfl, rfl⟩) (by assumption) ?_
                    try simp only [Act.put, List.setIfInBounds_toArray, List.set_cons_zero, List.set_cons_succ]
                    refine wpAnyH_take (i := 34) (oi := { dst := some 108, op := Op.load 61 (Operand.tmp 107), type := 61, pos := "ref.go:72", after := #[{ on := 33, ground := Ground.data }, { on := 28, ground := Ground.guard }], guard := some (28, true) }) rfl (by kernel_rfl) (by kernel_rfl) (by kernel_rfl) (fun _ _ _ h => h) (Or.inr ⟨by rfl, rfl⟩) (by assumption) ?_
                    try simp only [Act.put, List.setIfInBounds_toArray, List.set_cons_zero, List.set_cons_succ]
                    refine wpAnyH_take (i := 35) (oi := { dst := some 109, op := Op.call { callee := Callee.value (Operand.func 44), args := #[Operand.tmp 104, Operand.tmp 108], argTypes := #[61, 61] }, type := 4, pos := "ref.go:72", after := #[{ on := 30, ground := Ground.data }, { on := 34, ground := Ground.data }, { on := 28, ground := Ground.chain }, { on := 28, ground := Ground.guard }], guard := some (28, true) }) rfl (by kernel_rfl) (by kernel_rfl) (by kernel_rfl) (fun _ _ _ h => h) (Or.inr ⟨by rfl, rfl⟩) (by assumption) ?_
                    try simp only [Act.put, List.setIfInBounds_toArray, List.set_cons_zero, List.set_cons_succ]
                    refine wpAnyH_take (i := 36) (oi := { dst := some 110, op := Op.unOp UnOp.not 4 (Operand.tmp 109), type := 4, pos := "ref.go:72", after := #[{ on := 35, ground := Ground.data }, { on := 28, ground := Ground.guard }], guard := some (28, true) }) rfl (by kernel_rfl) (by kernel_rfl) (by kernel_rfl) (fun _ _ _ h => h) (Or.inr ⟨by rfl, rfl⟩) (by assumption) ?_
                    try simp only [Act.put, List.setIfInBounds_toArray, List.set_cons_zero, List.set_cons_succ]
                    refine wpAnyH_take (i := 37) (oi := { dst := some 111, op := Op.pick (Operand.tmp 102) (Operand.tmp 110) (Operand.const (Value.bool false)), type := 4, pos := "ref.go:72", after := #[{ on := 28, ground := Ground.data }, { on := 36, ground := Ground.data }, { on := 25, ground := Ground.guard }], guard := some (25, false) }) (v := ?vb37) rfl (by kernel_rfl) (by kernel_rfl) (by kernel_rfl) (fun _ _ _ h => h) (Or.inl ⟨by rfl, ?hyb37⟩) (by assumption) ?restb37
                    case hyb37 => (intro w hSw; (try dsimp only at hSw); go_simp; (try with_reducible rfl))
                    try simp only [Act.put, List.setIfInBounds_toArray, List.set_cons_zero, List.set_cons_succ]
                    refine wpAnyH_take (i := 38) (oi := { dst := some 112, op := Op.pick (Operand.tmp 99) (Operand.const (Value.bool true)) (Operand.tmp 111), type := 4, pos := "ref.go:72", after := #[{ on := 25, ground := Ground.data }, { on := 37, ground := Ground.data }], guard := none }) (v := ?vb38) rfl (by kernel_rfl) (by kernel_rfl) (by kernel_rfl) (fun _ _ _ h => h) (Or.inl ⟨by rfl, ?hyb38⟩) (by assumption) ?restb38
                    case hyb38 => (intro w hSw; (try dsimp only at hSw); go_simp; (try with_reducible rfl))
                    try simp only [Act.put, List.setIfInBounds_toArray, List.set_cons_zero, List.set_cons_succ]
                    refine wpAnyH_done (by kernel_rfl) ?_ _
                    have BE := Lib.hid hHeld1.2
                    clear hHeld1
                    have FN2 := Lib.hid (show fitN x ks (i7 + 2) = true from by rw [FN.out]; rfl)
                    go_wp2_with fail
                    go_roundw
                    case rel => first | exact ⟨i7 + 2, by omega, by go_num, FN2, Lib.hid (BB.out _ BE.out)⟩ | ((repeat apply Exists.intro); refine ⟨⟨i7 + 2, ?_, ?_, FN2, Lib.hid (BB.out _ BE.out)⟩, rfl⟩; · omega; · go_num)
                    case measure => simp [intOf] <;> omega
                case true =>
                  go_upto_region 13 with fail
                  go_region_held3 (fun w' => ((w'.cell? ⟨p, 0, none⟩ = some (.int .i64 x.least) ∧ w'.cell? ⟨p, 3, none⟩ = some (.bool true) ∧ w'.cell? ⟨p, 4, none⟩ = some (.int .i64 x.last.1) ∧ w'.cell? ⟨p, 5, none⟩ = some (.string x.last.2)) ∧ ((w'.cell? ⟨fb, fo + (i7 + 1) * 2, none⟩ = some (.int .i64 k.1) ∧ w'.cell? ⟨fb, fo + (i7 + 1) * 2 + 1, none⟩ = some (.string k.2)) ∧ (w'.cell? ⟨fb, fo + i7 * 2, none⟩ = some (.int .i64 y.1) ∧ w'.cell? ⟨fb, fo + i7 * 2 + 1, none⟩ = some (.string y.2)))) ∧ Below wr.heap.size wr w')
                    (first | assumption | exact p8_carry T.out (Below.refl _ _).drew | exact p8_carry (by assumption) (by assumption))
                    (first
                      | (go_at_call 44; (with_reducible refine (CY.out _).mono ?_); rintro e w' ⟨rfl, hb⟩)
                      | (go_at_call 44; (with_reducible refine (CL.out _).mono ?_); rintro e w' ⟨rfl, hb⟩))
                  all_goals
                    rename_i S5
                    have BE := Lib.hid S5.2
                    clear S5
                    cases z8
                    · go_wp2_with fail
                      go_ret
                      exact NO.out _ BE.out (by rw [FN.out]; simp)
                    · have FN2 := Lib.hid (show fitN x ks (i7 + 2) = true from by rw [FN.out]; rfl)
                      go_wp2_with fail
                      go_roundw
                      case rel => first | exact ⟨i7 + 2, by omega, by go_num, FN2, Lib.hid (BB.out _ BE.out)⟩ | ((repeat apply Exists.intro); refine ⟨⟨i7 + 2, ?_, ?_, FN2, Lib.hid (BB.out _ BE.out)⟩, rfl⟩; · omega; · go_num)
                      case measure => simp [intOf] <;> omega
          · obtain rfl : n = j' := by omega
            have hzt : z = true := by rw [← HZ4.out]; exact hF.out
            have HZT := Lib.hid hzt
            clear hzt HZ4 hF
            have Xr := Lib.hid (X3.out.below hB.out)
            have Fr := Lib.hid (show ∀ k, wr.frozen? ⟨p, k, none⟩ = false from fun k => (hB.out.frozen (p := ⟨p, k, none⟩) (lt_of_cell X3.out.1)).trans (F3.out k))
            have Ir := Lib.hid ((HI.out.below B3.out).below hB.out)
            have Br := Lib.hid (B3.out.trans (hB.out.mono B3.out.size))
            have MDr := Lib.hid ((MD.out.below (BX.out)).below hB.out)
            have PL := lt_of_cell Xr.out.1
            have LTI := Lib.hid (show 0 < n → ∀ b o, ia = some ⟨b, o, none⟩ → b < p from fun h0 fb fo e => by
              obtain ⟨b', o', e', hc⟩ := HI.out.2 h0
              rw [e] at e'; injection e' with e'; injection e' with e1 e2; subst e1 e2
              have := lt_of_cell (hc 0 h0).1
              have := HP.out; have := B2.out.size; omega)
            have BWr := Lib.hid (show Below w2.heap.size w2 wr from BX.out.trans (hB.out.mono BX.out.size))
            have CELLS := Lib.hid (HoldsK.cellsAny Ir.out (w' := wr) ⟨rfl, rfl, rfl, Nat.le_refl _, fun _ _ _ => rfl⟩)
            have KVL := Lib.hid (show (keysV ks).length = n * 2 from by rw [keysV_len, KL.out])
            have BP := Lib.hid (show w.heap.size ≤ p from by have := HP.out; have := B2.out.size; omega)
            obtain ⟨r2, hr2⟩ : ∃ r, (x.rcv || decide (0 < ks.length)) = r := ⟨_, rfl⟩
            obtain ⟨l2, hl2⟩ : ∃ l, (if 0 < ks.length then ks.getD (ks.length - 1) k0 else x.last) = l := ⟨_, rfl⟩
            have HR2 := Lib.hid hr2; have HL2 := Lib.hid hl2
            obtain ⟨c0, c1, c2, c3, c4, c5, c6⟩ := Xr.out
            simp only [Nat.zero_add] at c1 c2 c3 c4 c5 c6
            have f6 := Fr.out 6
            have C6 := Lib.hid c6
            clear hr2 hl2 hB X3 F3 HI B3 c0 c1 c2 c3 c4 c5
            go_upto_region 16 with (at_builtin; refine wpList_append_any rfl (.const (.slice none 0 0)) (.tmp 113) 34 rfl wr.heap.size 61 i0 _ 2 24 Try.underlying34 hi0 hz0 hz1 hz2 rfl (by decide) _ 0 [] rfl (World.ownsRow_nil _ _ _ _) ia n ic (keysV ks) rfl HIN.out KVL.out CELLS.out (keysV_one _) (by unfold maxLen; omega) (by omega) (Nat.le_refl _) ?_; intro a3 q3 w5 hown3 hb3 hnil3; have ky := (hb3.cell (p := ⟨p, 6, none⟩) PL).trans C6.out; have fy := (hb3.frozen (p := ⟨p, 6, none⟩) PL).trans (Fr.out 6))
            obtain ⟨vy, hvy⟩ : ∃ v, v = (.slice a3 n q3 : Value) := ⟨_, rfl⟩
            have X6 := Lib.hid (show RsAt (w5.setCell ⟨p, 6, none⟩ (.slice a3 n q3)) p 0 ⟨x.least, x.ended, x.seq, x.rcv, x.last, a3, n, q3, ks⟩ from by
              obtain ⟨y0, y1, y2, y3, y4, y5, y6⟩ := Xr.out.below hb3
              simp only [Nat.zero_add] at y1 y2 y3 y4 y5 y6
              unfold RsAt
              simp only [Nat.zero_add]
              exact ⟨(cset_ne (by omega)).trans y0, (cset_ne (by omega)).trans y1, (cset_ne (by omega)).trans y2, (cset_ne (by omega)).trans y3, (cset_ne (by omega)).trans y4, (cset_ne (by omega)).trans y5, cset_at y6⟩)
            have F6 := Lib.hid (show ∀ k, (w5.setCell ⟨p, 6, none⟩ (.slice a3 n q3)).frozen? ⟨p, k, none⟩ = false from fun k => fset_any.trans ((hb3.frozen (p := ⟨p, k, none⟩) PL).trans (Fr.out k)))
            have O6 := Lib.hid (show (w5.setCell ⟨p, 6, none⟩ (.slice a3 n q3)).ownsRow wr.heap.size 61 2 (.slice a3 n q3) n (keysV ks) from mowns_block0 (by simpa using hown3) (fun r e => mheap_far (by have := (hown3.lt r (by rw [e]; rfl)).1; omega)))
            have B6 := Lib.hid (show Below p wr (w5.setCell ⟨p, 6, none⟩ (.slice a3 n q3)) from (hb3.mono (Nat.le_of_lt PL)).setCell (p := ⟨p, 6, none⟩) (Nat.le_refl _) _)
            have N6 := Lib.hid (show a3 = none → n = 0 ∧ q3 = 0 from by simpa using hnil3)
            clear ky fy hown3 hb3 hnil3 hvy c6 f6
            generalize w5.setCell ⟨p, 6, none⟩ (.slice a3 n q3) = w6 at *
            have I6 := Lib.hid (holdsK_belowp Ir.out B6.out LTI.out)
            have B7 := Lib.hid (show Below w2.heap.size w2 w6 from BWr.out.trans (B6.out.mono (Nat.le_of_eq HP.out)))
            obtain ⟨y0, y1, y2, y3, y4, y5, y6⟩ := X6.out
            simp only [Nat.zero_add] at y0 y1 y2 y3 y4 y5 y6
            rcases Nat.eq_zero_or_pos n with h0 | h0
            · have d1 : decide ((n : Int) > 0) = false := decide_eq_false (by omega)
              have d2 : decide (0 < n) = false := decide_eq_false (by omega)
              have X7 := Lib.hid (show RsAt w6 p 0 ⟨x.least, x.ended, x.seq, r2, l2, a3, n, q3, ks⟩ from by
                have e1 : r2 = x.rcv := by rw [← HR2.out, KL.out, d2]; simp
                have e2 : l2 = x.last := by rw [← HL2.out, KL.out, if_neg (by omega)]
                rw [e1, e2]; exact X6.out)
              clear y0 y1 y2 y3 y4 y5 y6 h0
              go_upto_region 18 with fail
              have F7 := F6
              have O7 := O6
              clear d1 d2
              generalize w6 = w7 at *
              obtain ⟨c0, c1, c2, c3, c4, c5, c6⟩ := X7.out
              simp only [Nat.zero_add] at c0 c1 c2 c3 c4 c5 c6
              have f7 := F7.out
              go_upto_region 20 with fail
              have X8 := Lib.hid (show RsAt ((w7.setCell ⟨p, 1, none⟩ (.int .i64 (x.seq + 1))).setCell ⟨p, 2, none⟩ (.bool en)) p 0 ⟨x.least, en, x.seq + 1, r2, l2, a3, n, q3, ks⟩ from by
                unfold RsAt
                simp only [Nat.zero_add]
                exact ⟨((cset_ne (by omega)).trans (cset_ne (by omega))).trans c0, (cset_ne (by omega)).trans (cset_at c1), cset_at ((cset_ne (by omega)).trans c2), ((cset_ne (by omega)).trans (cset_ne (by omega))).trans c3, ((cset_ne (by omega)).trans (cset_ne (by omega))).trans c4, ((cset_ne (by omega)).trans (cset_ne (by omega))).trans c5, ((cset_ne (by omega)).trans (cset_ne (by omega))).trans c6⟩)
              have B8 := Lib.hid (show Below w2.heap.size w2 ((w7.setCell ⟨p, 1, none⟩ (.int .i64 (x.seq + 1))).setCell ⟨p, 2, none⟩ (.bool en)) from (B7.out.setCell (p := ⟨p, 1, none⟩) (Nat.le_of_eq HP.out) _).setCell (p := ⟨p, 2, none⟩) (Nat.le_of_eq HP.out) _)
              have O8 := Lib.hid (show World.ownsRow ((w7.setCell ⟨p, 1, none⟩ (.int .i64 (x.seq + 1))).setCell ⟨p, 2, none⟩ (.bool en)) wr.heap.size 61 2 (.slice a3 (n) q3) (n) (keysV ks) from mowns_block0 (mowns_block0 O7.out (fun r e => mheap_far (by have := (O7.out.lt r (by rw [e]; rfl)).1; omega))) (fun r e => mheap_far (by have := (O7.out.lt r (by rw [e]; rfl)).1; omega)))
              have MD8 := Lib.hid (MD.out.below B8.out)
              clear c0 c1 c2 c3 c4 c5 c6 f7 X7 O7 B7 F7
              generalize ((w7.setCell ⟨p, 1, none⟩ (.int .i64 (x.seq + 1))).setCell ⟨p, 2, none⟩ (.bool en)) = w8 at *
              obtain ⟨c0, c1, c2, c3, c4, c5, c6⟩ := X8.out
              simp only [Nat.zero_add] at c0 c1 c2 c3 c4 c5 c6
              have k0 := MD8.out.2.2.1
              obtain ⟨g2, hge, hg7⟩ := MD8.out.at hil
              injection hge with hge; injection hge with hge; subst hge
              obtain ⟨e0, e1, e2, e3, e4, e5, e6⟩ := hg7
              have fz : ∀ k, w8.frozen? ⟨g, k, none⟩ = false := fun k => MD8.out.2.2.2.2.2.1.frozenAt k
              go_still_tail 7, (by kernel_rfl)
              change wpList _ _ _ _ _ w8.drew
              go_wp2_with fail
              go_ret
              have own := (((((((MD8.out.2.2.2.2.2.1.stored (i * 7) (.int .i64 x.least)).1.stored (i * 7 + 1) (.int .i64 (x.seq + 1))).1.stored (i * 7 + 2) (.bool en)).1.stored (i * 7 + 3) (.bool r2)).1.stored (i * 7 + 4) (.int .i64 l2.1)).1.stored (i * 7 + 5) (.string l2.2)).1.stored (i * 7 + 6) (.slice a3 (n) q3)).1
              rw [rsV_all L i ⟨x.least, en, x.seq + 1, r2, l2, a3, n, q3, ks⟩ hil] at own
              have TS : Turn (fun k => k = g) w8 (((((((w8.setCell ⟨g, i * 7, none⟩ (.int .i64 x.least)).setCell ⟨g, i * 7 + 1, none⟩ (.int .i64 (x.seq + 1))).setCell ⟨g, i * 7 + 2, none⟩ (.bool en)).setCell ⟨g, i * 7 + 3, none⟩ (.bool r2)).setCell ⟨g, i * 7 + 4, none⟩ (.int .i64 l2.1)).setCell ⟨g, i * 7 + 5, none⟩ (.string l2.2)).setCell ⟨g, i * 7 + 6, none⟩ (.slice a3 (n) q3)) := mturn_set (mturn_set (mturn_set (mturn_set (mturn_set (mturn_set (mturn_set (Turn.refl _ _) rfl) rfl) rfl) rfl) rfl) rfl) rfl
              have PT := MD.out.put (L' := L.set i ⟨x.least, en, x.seq + 1, r2, l2, a3, n, q3, ks⟩) (wf := w8) (w' := (((((((w8.setCell ⟨g, i * 7, none⟩ (.int .i64 x.least)).setCell ⟨g, i * 7 + 1, none⟩ (.int .i64 (x.seq + 1))).setCell ⟨g, i * 7 + 2, none⟩ (.bool en)).setCell ⟨g, i * 7 + 3, none⟩ (.bool r2)).setCell ⟨g, i * 7 + 4, none⟩ (.int .i64 l2.1)).setCell ⟨g, i * 7 + 5, none⟩ (.string l2.2)).setCell ⟨g, i * 7 + 6, none⟩ (.slice a3 (n) q3))) B8.out TS own (by simp) (fun y hy => by
                have hd := B8.out
                rcases List.mem_or_eq_of_mem_set hy with hy | rfl
                · obtain ⟨y1, y2, y3, y5⟩ := MD.out.2.2.2.2.2.2.1 y hy
                  exact ⟨y1.below hd, y2, y3, fun fb fo e => Or.inl ⟨(y5 fb fo e).1, (y5 fb fo e).2.1, (y5 fb fo e).2.2.1, fun e2 => (y5 fb fo e).2.2.2 (by rw [e2])⟩⟩
                · have o8 := O8.out
                  refine ⟨HoldsK.own o8, N6.out, (owns_none o8).2, fun fb fo e => Or.inr ?_⟩
                  have := own_block o8 e
                  exact ⟨by have := HP.out; omega, this.2⟩)
              have hS : ∀ k, (S k ∨ (w2.heap.size ≤ k ∧ k < w8.heap.size)) → S k ∨ w.heap.size ≤ k := by
                intro k hk
                have hz := B2.out.size
                rcases hk with hk | hk
                · exact Or.inl hk
                · exact Or.inr (Nat.le_trans hz hk.1)
              have hz1 := HZT.out
              subst hz1
              refine ⟨rfl, ?_⟩
              rw [if_pos rfl, Int.toNat_natCast, HX.out]
              have hpm : putM x a3 ks.length q3 ks en = ⟨x.least, en, x.seq + 1, r2, l2, a3, n, q3, ks⟩ := by unfold putM; rw [HR2.out, HL2.out, KL.out]
              exact ⟨a3, q3, (fun k => S k ∨ (w2.heap.size ≤ k ∧ k < w8.heap.size)), by rw [hpm]; exact PT.1.below (Below.refl _ _).drew, hS, ((Turn.of_below B2.out).trans PT.2).drew⟩
            · have d1 : decide ((n : Int) > 0) = true := decide_eq_true (by omega)
              have d2 : decide (0 < n) = true := decide_eq_true h0
              obtain ⟨m, rfl⟩ : ∃ m, n = m + 1 := ⟨n - 1, by omega⟩
              obtain ⟨ib, io, rfl, hc⟩ := I6.out.at (by omega)
              obtain ⟨u0, u1⟩ := hc m (by omega)
              have hlk : ks.getD m k0 = l2 := by rw [← HL2.out, KL.out, if_pos (by omega)]; rfl
              rw [hlk] at u0 u1
              have hrr : r2 = true := by rw [← HR2.out, KL.out, d2]; simp
              have g3 : IntKind.i64.wrap (((m + 1 : Nat) : Int) - 1) = (m : Int) := by rw [IntWalk.i64_in _ (by omega)]; omega
              have g3' : IntKind.i64.wrap ((m : Int) + 1 - 1) = (m : Int) := by rw [IntWalk.i64_in _ (by omega)]; omega
              have g4 : (0 : Int) ≤ (m : Int) := by omega
              have g5 : (m : Int) < ((m + 1 : Nat) : Int) := by omega
              have g6 : (m : Int) < (m : Int) + 1 := by omega
              have f6 := F6.out
              have X7 := Lib.hid (show RsAt (((w6.setCell ⟨p, 4, none⟩ (.int .i64 l2.1)).setCell ⟨p, 5, none⟩ (.string l2.2)).setCell ⟨p, 3, none⟩ (.bool true)) p 0 ⟨x.least, x.ended, x.seq, true, l2, a3, m + 1, q3, ks⟩ from by
                unfold RsAt
                simp only [Nat.zero_add]
                exact ⟨(((cset_ne (by omega)).trans (cset_ne (by omega))).trans (cset_ne (by omega))).trans y0, (((cset_ne (by omega)).trans (cset_ne (by omega))).trans (cset_ne (by omega))).trans y1, (((cset_ne (by omega)).trans (cset_ne (by omega))).trans (cset_ne (by omega))).trans y2, cset_at (((cset_ne (by omega)).trans (cset_ne (by omega))).trans y3), ((cset_ne (by omega)).trans (cset_ne (by omega))).trans (cset_at y4), (cset_ne (by omega)).trans (cset_at ((cset_ne (by omega)).trans y5)), (((cset_ne (by omega)).trans (cset_ne (by omega))).trans (cset_ne (by omega))).trans y6⟩)
              rw [← hrr] at X7
              have HRR := Lib.hid hrr
              clear hlk hrr hc h0
              go_upto_region 18 with fail
              obtain rfl := HRR.out
              have F7 := Lib.hid (show ∀ k, (((w6.setCell ⟨p, 4, none⟩ (.int .i64 l2.1)).setCell ⟨p, 5, none⟩ (.string l2.2)).setCell ⟨p, 3, none⟩ (.bool true)).frozen? ⟨p, k, none⟩ = false from fun k => fset_any.trans (fset_any.trans (fset_any.trans (F6.out k))))
              have O7 := Lib.hid (show (((w6.setCell ⟨p, 4, none⟩ (.int .i64 l2.1)).setCell ⟨p, 5, none⟩ (.string l2.2)).setCell ⟨p, 3, none⟩ (.bool true)).ownsRow wr.heap.size 61 2 (.slice a3 (m + 1) q3) (m + 1) (keysV ks) from by
                have hne : ∀ r, a3 = some ⟨r, 0, none⟩ → r ≠ p := fun r e => by have := (O6.out.lt r (by rw [e]; rfl)).1; omega
                exact mowns_block0 (mowns_block0 (mowns_block0 O6.out (fun r e => mheap_far (hne r e))) (fun r e => mheap_far (hne r e))) (fun r e => mheap_far (hne r e)))
              have hpw := HP.out
              have B77 := Lib.hid (show Below w2.heap.size w2 (((w6.setCell ⟨p, 4, none⟩ (.int .i64 l2.1)).setCell ⟨p, 5, none⟩ (.string l2.2)).setCell ⟨p, 3, none⟩ (.bool true)) from ((B7.out.setCell (p := ⟨p, 4, none⟩) (Nat.le_of_eq hpw) _).setCell (p := ⟨p, 5, none⟩) (Nat.le_of_eq hpw) _).setCell (p := ⟨p, 3, none⟩) (Nat.le_of_eq hpw) _)
              clear B7 hpw
              have B7 := B77
              clear B77 y0 y1 y2 y3 y4 y5 y6 u0 u1 d1 d2 f6 F6 O6 X6 B6 I6
              generalize ((w6.setCell ⟨p, 4, none⟩ (.int .i64 l2.1)).setCell ⟨p, 5, none⟩ (.string l2.2)).setCell ⟨p, 3, none⟩ (.bool true) = w7 at *
              obtain ⟨c0, c1, c2, c3, c4, c5, c6⟩ := X7.out
              simp only [Nat.zero_add] at c0 c1 c2 c3 c4 c5 c6
              have f7 := F7.out
              go_upto_region 20 with fail
              have X8 := Lib.hid (show RsAt ((w7.setCell ⟨p, 1, none⟩ (.int .i64 (x.seq + 1))).setCell ⟨p, 2, none⟩ (.bool en)) p 0 ⟨x.least, en, x.seq + 1, true, l2, a3, m + 1, q3, ks⟩ from by
                unfold RsAt
                simp only [Nat.zero_add]
                exact ⟨((cset_ne (by omega)).trans (cset_ne (by omega))).trans c0, (cset_ne (by omega)).trans (cset_at c1), cset_at ((cset_ne (by omega)).trans c2), ((cset_ne (by omega)).trans (cset_ne (by omega))).trans c3, ((cset_ne (by omega)).trans (cset_ne (by omega))).trans c4, ((cset_ne (by omega)).trans (cset_ne (by omega))).trans c5, ((cset_ne (by omega)).trans (cset_ne (by omega))).trans c6⟩)
              have B8 := Lib.hid (show Below w2.heap.size w2 ((w7.setCell ⟨p, 1, none⟩ (.int .i64 (x.seq + 1))).setCell ⟨p, 2, none⟩ (.bool en)) from (B7.out.setCell (p := ⟨p, 1, none⟩) (Nat.le_of_eq HP.out) _).setCell (p := ⟨p, 2, none⟩) (Nat.le_of_eq HP.out) _)
              have O8 := Lib.hid (show World.ownsRow ((w7.setCell ⟨p, 1, none⟩ (.int .i64 (x.seq + 1))).setCell ⟨p, 2, none⟩ (.bool en)) wr.heap.size 61 2 (.slice a3 (m + 1) q3) (m + 1) (keysV ks) from mowns_block0 (mowns_block0 O7.out (fun r e => mheap_far (by have := (O7.out.lt r (by rw [e]; rfl)).1; omega))) (fun r e => mheap_far (by have := (O7.out.lt r (by rw [e]; rfl)).1; omega)))
              have MD8 := Lib.hid (MD.out.below B8.out)
              clear c0 c1 c2 c3 c4 c5 c6 f7 X7 O7 B7 F7
              generalize ((w7.setCell ⟨p, 1, none⟩ (.int .i64 (x.seq + 1))).setCell ⟨p, 2, none⟩ (.bool en)) = w8 at *
              obtain ⟨c0, c1, c2, c3, c4, c5, c6⟩ := X8.out
              simp only [Nat.zero_add] at c0 c1 c2 c3 c4 c5 c6
              have k0 := MD8.out.2.2.1
              obtain ⟨g2, hge, hg7⟩ := MD8.out.at hil
              injection hge with hge; injection hge with hge; subst hge
              obtain ⟨e0, e1, e2, e3, e4, e5, e6⟩ := hg7
              have fz : ∀ k, w8.frozen? ⟨g, k, none⟩ = false := fun k => MD8.out.2.2.2.2.2.1.frozenAt k
              go_still_tail 7, (by kernel_rfl)
              change wpList _ _ _ _ _ w8.drew
              go_wp2_with fail
              go_ret
              have own := (((((((MD8.out.2.2.2.2.2.1.stored (i * 7) (.int .i64 x.least)).1.stored (i * 7 + 1) (.int .i64 (x.seq + 1))).1.stored (i * 7 + 2) (.bool en)).1.stored (i * 7 + 3) (.bool true)).1.stored (i * 7 + 4) (.int .i64 l2.1)).1.stored (i * 7 + 5) (.string l2.2)).1.stored (i * 7 + 6) (.slice a3 (m + 1) q3)).1
              rw [rsV_all L i ⟨x.least, en, x.seq + 1, true, l2, a3, m + 1, q3, ks⟩ hil] at own
              have TS : Turn (fun k => k = g) w8 (((((((w8.setCell ⟨g, i * 7, none⟩ (.int .i64 x.least)).setCell ⟨g, i * 7 + 1, none⟩ (.int .i64 (x.seq + 1))).setCell ⟨g, i * 7 + 2, none⟩ (.bool en)).setCell ⟨g, i * 7 + 3, none⟩ (.bool true)).setCell ⟨g, i * 7 + 4, none⟩ (.int .i64 l2.1)).setCell ⟨g, i * 7 + 5, none⟩ (.string l2.2)).setCell ⟨g, i * 7 + 6, none⟩ (.slice a3 (m + 1) q3)) := mturn_set (mturn_set (mturn_set (mturn_set (mturn_set (mturn_set (mturn_set (Turn.refl _ _) rfl) rfl) rfl) rfl) rfl) rfl) rfl
              have PT := MD.out.put (L' := L.set i ⟨x.least, en, x.seq + 1, true, l2, a3, m + 1, q3, ks⟩) (wf := w8) (w' := (((((((w8.setCell ⟨g, i * 7, none⟩ (.int .i64 x.least)).setCell ⟨g, i * 7 + 1, none⟩ (.int .i64 (x.seq + 1))).setCell ⟨g, i * 7 + 2, none⟩ (.bool en)).setCell ⟨g, i * 7 + 3, none⟩ (.bool true)).setCell ⟨g, i * 7 + 4, none⟩ (.int .i64 l2.1)).setCell ⟨g, i * 7 + 5, none⟩ (.string l2.2)).setCell ⟨g, i * 7 + 6, none⟩ (.slice a3 (m + 1) q3))) B8.out TS own (by simp) (fun y hy => by
                have hd := B8.out
                rcases List.mem_or_eq_of_mem_set hy with hy | rfl
                · obtain ⟨y1, y2, y3, y5⟩ := MD.out.2.2.2.2.2.2.1 y hy
                  exact ⟨y1.below hd, y2, y3, fun fb fo e => Or.inl ⟨(y5 fb fo e).1, (y5 fb fo e).2.1, (y5 fb fo e).2.2.1, fun e2 => (y5 fb fo e).2.2.2 (by rw [e2])⟩⟩
                · have o8 := O8.out
                  refine ⟨HoldsK.own o8, N6.out, (owns_none o8).2, fun fb fo e => Or.inr ?_⟩
                  have := own_block o8 e
                  exact ⟨by have := HP.out; omega, this.2⟩)
              have hS : ∀ k, (S k ∨ (w2.heap.size ≤ k ∧ k < w8.heap.size)) → S k ∨ w.heap.size ≤ k := by
                intro k hk
                have hz := B2.out.size
                rcases hk with hk | hk
                · exact Or.inl hk
                · exact Or.inr (Nat.le_trans hz hk.1)
              have hz1 := HZT.out
              subst hz1
              refine ⟨rfl, ?_⟩
              rw [if_pos rfl, Int.toNat_natCast, HX.out]
              have hpm : putM x a3 ks.length q3 ks en = ⟨x.least, en, x.seq + 1, true, l2, a3, m + 1, q3, ks⟩ := by unfold putM; rw [HR2.out, HL2.out, KL.out]
              exact ⟨a3, q3, (fun k => S k ∨ (w2.heap.size ≤ k ∧ k < w8.heap.size)), by rw [hpm]; exact PT.1.below (Below.refl _ _).drew, hS, ((Turn.of_below B2.out).trans PT.2).drew⟩
end Go.Proofs.Ytgghbgmeebihbaa
/- append in a region that draws: the source may be nil -/
namespace Go.Proofs.Ytgghbgmeebihbaa
open Go.RowKit
set_option linter.unusedVariables false
set_option maxRecDepth 20000
theorem step_append_opt {P : Program} {w : World} {ops : Array Oper} {o : Oper} {a : Act} {K : Act → World → Prop} {Q : Exit → Act → World → Prop} {E : Prop} (hgd : o.guard = none) (s x : Operand) (t : TypeId)
    (ho : o.op = .call { callee := .builtin .append, args := #[s, x], argTypes := #[t, t] })
    (base : Nat) (e : TypeId) (i : TypeInfo) (z : Value) (size bytes : Nat) (ht : P.underlying t = some (.slice e)) (hi : P.info? e = some i) (hz : i.zero = some z)
    (hsize : i.size = size) (hby : i.bytes = bytes) (hzs : z.cells.size = size) (hsz : 0 < size)
    (v : Value) (n : Nat) (xs : List Value) (hs : a.eval s = v) (hown : w.ownsRow base e size v n xs)
    (ao : Option Addr) (m c : Nat) (news : List Value) (hx : a.eval x = .slice ao m c) (hnone : ao = none → m = 0 ∧ c = 0) (hl : news.length = m * size)
    (hnews : ∀ ad, ao = some ad → ∀ j u, news[j]? = some u → w.cell? (ad.add j) = some u) (h1 : ∀ u ∈ news, u.oneCell' = true)
    (h63 : n + m ≤ maxLen) (hbytes : (n + m) * bytes ≤ 140737488355328) (hbase : base ≤ w.heap.size) (r : Nat) (ys : List Value) (hr : n + m = r) (hy : xs ++ news = ys)
    (h : ∀ a' c' w', w'.ownsRow base e size (.slice a' r c') r ys → Below base w w' → (a' = none → r = 0 ∧ c' = 0) → K (a.put o.dst (.slice a' r c')) w') :
    if Region.wanted o (yielded ops a.tmps) = true then Oper.wp P o a w K Q else E := by
  cases ao with
  | some ad => exact step_append_some hgd s x t ho base e i z size bytes ht hi hz hsize hby hzs hsz v n xs hs hown ad m c news hx hl (hnews ad rfl) h1 h63 hbytes hbase r ys hr hy h
  | none =>
    obtain ⟨rfl, rfl⟩ := hnone rfl
    have hn : news = [] := List.eq_nil_of_length_eq_zero (by simpa using hl)
    subst hn hr hy
    rw [if_pos (by simp [Region.wanted, hgd])]
    have hrun := run_append_owned_none (P := P) (w := w) base t o.type e i size ht hi v n xs hown
    have fin : K (a.put o.dst v) w := by
      rcases Joins.ownsRow_forms hown with ⟨rfl, h0⟩ | ⟨g, cap, rfl⟩
      · have := h none 0 w (by rw [h0] at hown ⊢; simpa using hown) (Below.refl _ _) (fun _ => ⟨h0, rfl⟩)
        rw [h0] at this
        exact this
      · exact h _ _ w (by simpa using hown) (Below.refl _ _) (fun h => by cases h)
    unfold Oper.wp
    simp [execOp, ho, resolve, invoke, builtin, hs, hx, hrun, Result.andThen]
    exact fin
theorem rowCellsB {w : World} {base : Nat} {e : TypeId} {size : Nat} {a : Option Addr} {n c : Nat} {xs : List Value} (h : w.ownsRow base e size (.slice a n c) n xs) : (a = none → n = 0 ∧ c = 0) ∧ ∀ ad, a = some ad → ∀ j u, xs[j]? = some u → w.cell? (ad.add j) = some u := by
  rcases Joins.ownsRow_forms h with ⟨e1, h0⟩ | ⟨g, cap, e1⟩
  · injection e1 with e2 e3 e4
    subst e2
    exact ⟨fun _ => ⟨h0, e4⟩, fun ad h => (by cases h)⟩
  · injection e1 with e2 e3 e4
    subst e2
    refine ⟨fun h => (by cases h), fun ad had j u hu => ?_⟩
    injection had with had
    subst had
    have hj := (List.getElem?_eq_some_iff.1 hu).1
    rw [Go.WideShapes.add_plain, Nat.zero_add, h.cellAt j (by have := h.1; omega), hu]
theorem owns_toB {w : World} {base base' : Nat} {e : TypeId} {size : Nat} {v : Value} {n : Nat} {xs : List Value} (h : w.ownsRow base e size v n xs) (hb : base' ≤ base) : w.ownsRow base' e size v n xs :=
  ⟨h.1, h.2.imp id (fun ⟨g, cap, cur, hv, hge, r⟩ => ⟨g, cap, cur, hv, Nat.le_trans hb hge, r⟩)⟩
theorem addB_block (a : Addr) (n : Nat) : (a.add n).block = a.block := by unfold Addr.add; split <;> rfl
end Go.Proofs.Ytgghbgmeebihbaa
/- the document's merge: Tell -/
namespace Go.Proofs.Ytgghbgmeebihbaa
open Go.RowKit
set_option linter.unusedVariables false
set_option maxRecDepth 20000
/-- the first of the heads so far, or -1 -/
def bestZ (L : List SM) (j : Nat) : Int := if headsN L j = [] then -1 else ((firstL (headsN L j)).1 : Int)
theorem firstL_snoc {hs : List HD} (h : hs ≠ []) (x : HD) : firstL (hs ++ [x]) = bestF (firstL hs) x := by
  unfold firstL
  rw [List.foldl_append]
  have e : (hs ++ [x]).getD 0 hd0 = hs.getD 0 hd0 := by
    cases hs with
    | nil => exact absurd rfl h
    | cons y l => rfl
  rw [e]; rfl
theorem firstL_one (x : HD) : firstL [x] = x := by
  show bestF x x = x
  unfold bestF; split <;> rfl
theorem heads_skip {L : List SM} {j : Nat} (h : (L.getD j sm0).wn = 0) : headsN L (j + 1) = headsN L j := by
  show headsN L j ++ headOf L j = _
  unfold headOf
  rw [if_neg (by omega), List.append_nil]
theorem heads_more {L : List SM} {j : Nat} (h : 0 < (L.getD j sm0).wn) : headsN L (j + 1) = headsN L j ++ [(j, (L.getD j sm0).wait.getD 0 k0)] := by
  show headsN L j ++ headOf L j = _
  unfold headOf
  rw [if_pos h]
theorem bestZ_skip {L : List SM} {j : Nat} (h : (L.getD j sm0).wn = 0) : bestZ L (j + 1) = bestZ L j := by
  unfold bestZ; rw [heads_skip h]
theorem bestZ_new {L : List SM} {j : Nat} (h : 0 < (L.getD j sm0).wn) (hn : headsN L j = []) : bestZ L (j + 1) = (j : Int) := by
  unfold bestZ
  rw [heads_more h, hn, List.nil_append, if_neg (by simp), firstL_one]
theorem bestZ_more {L : List SM} {j bi : Nat} {bk : KV} (h : 0 < (L.getD j sm0).wn) (hn : headsN L j ≠ []) (hb : firstL (headsN L j) = (bi, bk)) : bestZ L (j + 1) = if lessK ((L.getD j sm0).wait.getD 0 k0) bk then (j : Int) else (bi : Int) := by
  unfold bestZ
  rw [heads_more h, if_neg (by simp), firstL_snoc hn, hb]
  unfold bestF
  simp only
  split <;> rfl
def FitL (L : List SM) : Prop := ∀ x ∈ L, x.last.2.size ≤ 1048576 ∧ (∀ k ∈ x.wait, k.2.size ≤ 1048576) ∧ x.wait.length ≤ 1000
theorem FitL.set {L : List SM} {x y : SM} (h : FitL L) (hx : x ∈ L) (hl : y.last = x.last) (hw : ∀ k ∈ y.wait, k ∈ x.wait) (hwl : y.wait.length ≤ x.wait.length) (i : Nat) : FitL (L.set i y) := fun z hz => by
  rcases List.mem_or_eq_of_mem_set hz with hz | rfl
  · exact h z hz
  · exact ⟨hl ▸ (h x hx).1, fun k hk => (h x hx).2.1 k (hw k hk), Nat.le_trans hwl (h x hx).2.2⟩
theorem getD_mem0 {ks : List KV} (h : 0 < ks.length) : ks.getD 0 k0 ∈ ks := by
  rw [List.getD_eq_getElem?_getD, List.getElem?_eq_getElem h]; simp
theorem r7_carry {w1 w w' : World} {b g oj ob fb fo yb yo : Nat} {v0 v1 v2 : Value} {k y : KV} (h : ((w.cell? ⟨b, 0, none⟩ = some v0 ∧ w.cell? ⟨g, oj, none⟩ = some v1 ∧ w.cell? ⟨g, ob, none⟩ = some v2) ∧ ((w.cell? ⟨fb, fo, none⟩ = some (.int .i64 k.1) ∧ w.cell? ⟨fb, fo + 1, none⟩ = some (.string k.2)) ∧ (w.cell? ⟨yb, yo, none⟩ = some (.int .i64 y.1) ∧ w.cell? ⟨yb, yo + 1, none⟩ = some (.string y.2)))) ∧ Below w1.heap.size w1 w) (hb : Below w.heap.size w w') :
    ((w'.cell? ⟨b, 0, none⟩ = some v0 ∧ w'.cell? ⟨g, oj, none⟩ = some v1 ∧ w'.cell? ⟨g, ob, none⟩ = some v2) ∧ ((w'.cell? ⟨fb, fo, none⟩ = some (.int .i64 k.1) ∧ w'.cell? ⟨fb, fo + 1, none⟩ = some (.string k.2)) ∧ (w'.cell? ⟨yb, yo, none⟩ = some (.int .i64 y.1) ∧ w'.cell? ⟨yb, yo + 1, none⟩ = some (.string y.2)))) ∧ Below w1.heap.size w1 w' := by
  obtain ⟨⟨⟨a0, a1, a2⟩, ⟨b0, b1⟩, c0, c1⟩, hB⟩ := h
  have lb := lt_of_cell a0
  have lg := lt_of_cell a1
  have lf := lt_of_cell b0
  have ly := lt_of_cell c0
  exact ⟨⟨⟨(hb.cell (p := ⟨b, 0, none⟩) lb).trans a0, (hb.cell (p := ⟨g, oj, none⟩) lg).trans a1, (hb.cell (p := ⟨g, ob, none⟩) lg).trans a2⟩, ⟨(hb.cell (p := ⟨fb, fo, none⟩) lf).trans b0, (hb.cell (p := ⟨fb, fo + 1, none⟩) lf).trans b1⟩, (hb.cell (p := ⟨yb, yo, none⟩) ly).trans c0, (hb.cell (p := ⟨yb, yo + 1, none⟩) ly).trans c1⟩, hB.trans (hb.mono hB.size)⟩
/-- behind a store of a new list -/
def R12 (w7 : World) (g o n0 : Nat) (ks : List KV) (wc : World) : Prop := ∃ a8 c8 w8, wc = w8.setCell ⟨g, o, none⟩ (.slice a8 n0 c8) ∧ Below w7.heap.size w7 w8 ∧ w8.ownsRow w7.heap.size 61 2 (.slice a8 n0 c8) n0 (keysV ks) ∧ (a8 = none → n0 = 0 ∧ c8 = 0)
/-- told in this call -/
structure RTIn (w0 w : World) (b : Nat) (most : Int) (S0 : Nat → Prop) (T : List KV) (L : List SM) (S : Nat → Prop) (oa : Option Addr) (oc : Nat) (out : List KV) : Prop where
  m : RMt w b most T L S
  o : w.ownsRow w0.heap.size 61 2 (.slice oa out.length oc) out.length (keysV out)
  a : ∀ g, oa = some ⟨g, 0, none⟩ → ¬ S g
  s : ∀ k, S k → S0 k ∨ w0.heap.size ≤ k
  t : Turn S0 w0 w
theorem RTIn.more {w0 w w' : World} {b : Nat} {most : Int} {S0 : Nat → Prop} {T : List KV} {L : List SM} {S : Nat → Prop} {oa : Option Addr} {oc : Nat} {out : List KV} (h : RTIn w0 w b most S0 T L S oa oc out) (hb : Below w.heap.size w w') : RTIn w0 w' b most S0 T L S oa oc out :=
  ⟨h.m.below hb, owns_below h.o hb, h.a, h.s, h.t.trans (Turn.of_below hb)⟩
theorem RTIn.step {w0 w w' : World} {b : Nat} {most : Int} {S0 : Nat → Prop} {T T' : List KV} {L L' : List SM} {S S' : Nat → Prop} {oa : Option Addr} {oc : Nat} {out : List KV} (h : RTIn w0 w b most S0 T L S oa oc out) (m : RMt w' b most T' L' S') (t : Turn S w w') (hs : ∀ k, S' k → S k ∨ w.heap.size ≤ k) : RTIn w0 w' b most S0 T' L' S' oa oc out := by
  have hz := h.t.size
  refine ⟨m, mowns_block0 h.o (fun g hg => t.block g ?_ (h.a g hg)), fun g hg hS => ?_, fun k hk => ?_, ?_⟩
  · have := h.o.lt g (by rw [hg]; rfl); exact this.2
  · rcases hs g hS with x | x
    · exact h.a g hg x
    · have := h.o.lt g (by rw [hg]; rfl); omega
  · rcases hs k hk with x | x
    · exact h.s k x
    · exact Or.inr (by omega)
  · exact h.t.trans' t (fun k hk => h.s k hk)
theorem RTIn.out {w0 w w6 : World} {b : Nat} {most : Int} {S0 : Nat → Prop} {T : List KV} {L : List SM} {S : Nat → Prop} {oa : Option Addr} {oc g cap : Nat} {out : List KV} {k : KV} {o : Obj} (h : RTIn w0 w b most S0 T L S oa oc out)
    (own : w6.ownsRow w0.heap.size 61 2 (.slice (some ⟨g, 0, none⟩) (out.length + 1) cap) (out.length + 1) (keysV out ++ [.int .i64 k.1, .string k.2]))
    (hg : (w.alloc o).grownBy w6 (Value.slice oa out.length oc).ownBlock) (hat : (Value.slice oa out.length oc).ownBlock = some g ∨ g = (w.alloc o).heap.size) : RTIn w0 w6 b most S0 T L S (some ⟨g, 0, none⟩) cap (out ++ [k]) := by
  have hza : (w.alloc o).heap.size = w.heap.size + 1 := by simp
  have hz6 := hg.size
  have hz := h.t.size
  have hm := h.m.lt
  have old : ∀ q, q < w.heap.size → (∀ r, oa = some ⟨r, 0, none⟩ → q ≠ r) → w6.heap[q]? = w.heap[q]? := fun q hq hn =>
    (hg.block q (by omega) (fun e => hn q (mownb h.o e) rfl)).trans (Below.heap_alloc _ _ _ (by omega))
  have hS : ∀ q, S q → ∀ r, oa = some ⟨r, 0, none⟩ → q ≠ r := fun q hq r e e2 => h.a r e (by rw [← e2]; exact hq)
  refine ⟨h.m.blocks (by omega) (fun q hq => old q (hm q hq) (hS q hq)), ?_, fun q hq => ?_, h.s, ?_⟩
  · rw [List.length_append, keysV_snoc]; exact own
  · injection hq with hq; injection hq with hq; subst hq
    rcases hat with e | e
    · exact h.a g (mownb h.o e.symm)
    · intro x; have := hm g x; omega
  · refine h.t.trans' (G := fun q => ∃ r, oa = some ⟨r, 0, none⟩ ∧ q = r) ?_ (fun q hq => ?_)
    · exact ⟨hg.os, hg.tape, hg.output, by omega, fun q hq hn => old q hq (fun r e e2 => hn ⟨r, e, e2⟩)⟩
    · obtain ⟨r, e, rfl⟩ := hq
      have := h.o.lt q (by rw [e]; rfl); exact Or.inr this.1
def RTellP (w : World) (b : Nat) (most : Int) (S : Nat → Prop) (R : List KV × List SM × List KV) (e : Ending) (w' : World) : Prop :=
  ∃ oa oc L S', e = .returned (.slice oa R.2.2.length oc) ∧ RTIn w w' b most S R.1 L S' oa oc R.2.2 ∧ L.map spl = R.2.1
set_option maxHeartbeats 12800000 in
set_option maxRecDepth 100000 in
theorem rmtell_any (N : Nat) (b : Nat) {most : Int} {T0 : List KV} {L0 : List SM} {S0 : Nat → Prop} (w : World) (h : RMt w b most T0 L0 S0) (hl : L0.length ≤ 1000) (hN : most ≤ (T0.length : Int) + N) (hN2 : N ≤ 1000) (hT : T0.length ≤ 1000) (hFt : FitL L0) :
    Calls Try.prog 21 #[.pointer (some ⟨b, 0, none⟩)] w (RTellP w b most S0 (tellF most N T0 (L0.map spl) [])) := by
  obtain ⟨i0, hi0, hz0, hz1, hz2⟩ := info_parts item_info
  obtain ⟨R, hR⟩ : ∃ R, tellF most N T0 (L0.map spl) [] = R := ⟨_, rfl⟩
  rw [hR]
  have HR := Lib.hid hR
  have I0 := Lib.hid (show RTIn w w b most S0 T0 L0 S0 none 0 [] from ⟨h, World.ownsRow_nil _ _ _ _, fun g hg => (by cases hg), fun k hk => Or.inl hk, Turn.refl _ _⟩)
  have HL := Lib.hid hl
  have HFT := Lib.hid hFt
  clear h hR hl hFt
  go_enter Try.func21, Try.ntmps21
  go_wp2_with fail
  go_loopw [3] (fun ov wr => ∃ (k n : Nat) (T : List KV) (L : List SM) (S : Nat → Prop) (oa : Option Addr) (oc : Nat) (out : List KV), ov = .slice oa n oc ∧ n + k = N ∧ out.length = n ∧ Hid (tellF most k T (L.map spl) out = R) ∧ Hid (most ≤ (T.length : Int) + k) ∧ Hid (L.length ≤ 1000) ∧ Hid (T.length ≤ 1000 + n) ∧ Hid (FitL L) ∧ Hid (RTIn w wr b most S0 T L S oa oc out)) (fun ov _ => N - sliceLen ov)
  case atStart => exact ⟨N, 0, T0, L0, S0, none, 0, [], rfl, by omega, rfl, HR, Lib.hid hN, HL, Lib.hid (by omega), HFT, I0⟩
  case round =>
    obtain ⟨k, n, T, L, S, oa, oc, out, rfl, hnk, hol, hF, hM, hLl, hTl, hFt, hI⟩ := hrel
    have hLL : L.length ≤ 1000 := hLl.out
    obtain ⟨zd, hzd⟩ : ∃ zd, doneB most T L = zd := ⟨_, rfl⟩
    have CD := Lib.hid (rmdone_any zd b wr hI.out.m hLl.out hzd)
    have HZD := Lib.hid hzd
    clear hzd
    go_wp2_with fail
    refine CD.out.mono ?_
    rintro e w2 ⟨rfl, hb2⟩
    have I2 := Lib.hid (hI.out.more hb2)
    clear hb2 CD hI
    have FIN := Lib.hid (fun (hr : R = (T, L.map spl, out)) w' (hi : RTIn w w' b most S0 T L S oa oc out) => (show RTellP w b most S0 R (.returned (.slice oa n oc)) w' from by
      rw [hr]
      exact ⟨oa, oc, L, S, by rw [hol], hi, rfl⟩))
    cases zd
    case true =>
      have HE := Lib.hid (show R = (T, L.map spl, out) from by
        rw [← hF.out]
        cases k with
        | zero => rfl
        | succ k => unfold tellF; rw [done_spl, HZD.out, if_pos rfl])
      go_wp2_with fail
      go_ret
      exact FIN.out HE.out _ I2.out
    obtain ⟨k, rfl⟩ : ∃ k', k = k' + 1 := by
      refine ⟨k - 1, ?_⟩
      have h1 := HZD.out
      unfold doneB at h1
      have h2 := hM.out
      by_cases hk0 : k = 0
      · subst hk0
        rw [decide_eq_true (by omega)] at h1
        simp at h1
      · omega
    obtain ⟨hs, hhs⟩ : ∃ hs, headsN L L.length = hs := ⟨_, rfl⟩
    have STEP := Lib.hid (show (if hs = [] then (T, L.map spl, out) else if L.any (prM (firstL hs).2) then (T, L.map spl, out) else tellF most k (T ++ [(firstL hs).2]) ((L.map spl).set (firstL hs).1 (popS ((L.map spl).getD (firstL hs).1 sm0))) (out ++ [(firstL hs).2])) = R from by
      rw [← hF.out]
      conv => rhs; unfold tellF
      rw [done_spl, HZD.out, List.length_map, heads_spl, hhs, may_spl]
      rfl)
    have HM := Lib.hid (fun (x : HD) (hx : x ∈ hs) => heads_mem (L := L) (n := L.length) (by rw [hhs]; exact hx))
    have HHS := Lib.hid hhs
    clear hhs
    go_wp2_with fail
    go_loopw [4, 5] (fun bv iv wq => ∃ j : Nat, j ≤ L.length ∧ bv = .int .i64 (bestZ L j) ∧ iv = .int .i64 j ∧ Hid (Below w2.heap.size w2 wq)) (fun _ iv _ => L.length - (intOf iv).toNat)
    case atStart => exact ⟨0, by omega, rfl, rfl, Lib.hid (Below.refl _ _)⟩
    case round =>
      obtain ⟨j, hj, rfl, rfl, hB⟩ := hrel
      rename World => w3
      have I3 := Lib.hid (I2.out.more hB.out)
      obtain ⟨ta, tc, ra, rc, M⟩ := I3.out.m
      have k0' := M.2.2.1
      by_cases hlt : j < L.length
      · obtain ⟨g, rfl, hx⟩ := M.at hlt
        obtain ⟨x, hxe⟩ : ∃ x, L.getD j sm0 = x := ⟨_, rfl⟩
        rw [hxe] at hx
        have hxm : x ∈ L := hxe ▸ mem_sm hlt
        have c6 := hx.2.2.2.2.2.2
        have i1 : (0 : Int) ≤ (j : Int) := by omega
        have i2 : (j : Int) < (L.length : Int) := by omega
        by_cases h0 : 0 < x.wn
        case neg =>
          have d1 : decide ((x.wn : Int) > 0) = false := decide_eq_false (by omega)
          have d2 : decide (0 < x.wn) = false := decide_eq_false h0
          have HN := Lib.hid (bestZ_skip (L := L) (j := j) (by rw [hxe]; omega))
          clear M hxe hx hxm h0
          go_wp2_with fail
          go_quiet (fail)
          go_wp2_with fail
          go_roundw
          case rel => exact ⟨j + 1, by omega, by rw [HN.out], by go_num, Lib.hid (hB.out.trans ((below_drewN w3 _).mono hB.out.size))⟩
          case measure => simp [intOf] <;> omega
        have d1 : decide ((x.wn : Int) > 0) = true := decide_eq_true (by omega)
        have d2 : decide (0 < x.wn) = true := decide_eq_true h0
        by_cases hn : headsN L j = []
        · have hz : bestZ L j = -1 := by unfold bestZ; rw [if_pos hn]
          have HN := Lib.hid (bestZ_new (L := L) (j := j) (by rw [hxe]; omega) hn)
          rw [hz]
          clear M hxe hx hxm h0 hn hz
          go_wp2_with fail
          go_quiet (fail)
          go_wp2_with fail
          go_roundw
          case rel => exact ⟨j + 1, by omega, by rw [HN.out], by go_num, Lib.hid (hB.out.trans ((below_drewN w3 _).mono hB.out.size))⟩
          case measure => simp [intOf] <;> omega
        · obtain ⟨⟨bi, bk⟩, hfb⟩ : ∃ f, firstL (headsN L j) = f := ⟨_, rfl⟩
          obtain ⟨q1, q2, q3⟩ := heads_mem (hfb ▸ first_mem hn)
          simp only at q1 q2 q3
          have hz : bestZ L j = (bi : Int) := by unfold bestZ; rw [if_neg hn, hfb]
          have hst := bestZ_more (L := L) (j := j) (by rw [hxe]; omega) hn hfb
          rw [hxe] at hst
          obtain ⟨y, hye⟩ : ∃ y, L.getD bi sm0 = y := ⟨_, rfl⟩
          rw [hye] at q2 q3
          have hym : y ∈ L := hye ▸ mem_sm (by omega)
          obtain ⟨g', hge, hy⟩ := M.at (i := bi) (by omega)
          injection hge with hge; injection hge with hge; subst hge
          rw [hye] at hy
          have e6 := hy.2.2.2.2.2.2
          have wx := (M.2.2.2.2.2.2.1 x hxm).1
          have wy := (M.2.2.2.2.2.2.1 y hym).1
          obtain ⟨xk, hxk⟩ : ∃ k, x.wait.getD 0 k0 = k := ⟨_, rfl⟩
          have hxz : xk.2.size ≤ 1048576 := (hFt.out x hxm).2.1 xk (hxk ▸ getD_mem0 (by rw [wx.1]; exact h0))
          have hyz : bk.2.size ≤ 1048576 := (hFt.out y hym).2.1 bk (q3 ▸ getD_mem0 (by rw [wy.1]; exact q2))
          obtain ⟨fb, fo, hxa, hxc⟩ := wx.2 h0
          obtain ⟨yb, yo, hya, hyc⟩ := wy.2 q2
          obtain ⟨x0, x1⟩ := hxc 0 h0
          obtain ⟨y0, y1⟩ := hyc 0 q2
          simp only [Nat.zero_mul, Nat.add_zero] at x0 x1 y0 y1
          rw [hxk] at x0 x1 hst
          rw [← q3] at y0 y1
          rw [hxa] at c6
          rw [hya] at e6
          obtain ⟨zl, hzl⟩ : ∃ z, lessK xk bk = z := ⟨_, rfl⟩
          rw [hzl] at hst
          have CL := Lib.hid (fun w' => rlessM_lit xk bk zl w' hxz hyz hzl)
          have HN := Lib.hid hst
          have b1 : (0 : Int) ≤ (bi : Int) := by omega
          have b2 : (bi : Int) < (L.length : Int) := by omega
          have d3 : decide ((bi : Int) < 0) = false := decide_eq_false (by omega)
          have n1 : (0 : Int) < (x.wn : Int) := by omega
          have n2 : (0 : Int) < (y.wn : Int) := by omega
          rw [hz]
          clear M hxe hx hxm hn hz hye hym hy hfb q1 q3 hxk hxz hyz hxa hya hxc hyc hzl hst wx wy
          go_upto_region 7 with fail
          generalize x.wn = xn at *
          generalize x.wc = xc at *
          generalize y.wn = yn at *
          generalize y.wc = yc at *
          clear d1 d2
          have d1 : decide ((xn : Int) > 0) = true := decide_eq_true (by omega)
          have d2 : decide (0 < xn) = true := decide_eq_true (by omega)
          have T7 := Lib.hid (show ((w3.cell? ⟨b, 0, none⟩ = some (.slice (some ⟨g, 0, none⟩) L.length rc) ∧ w3.cell? ⟨g, j * 7 + 6, none⟩ = some (.slice (some ⟨fb, fo, none⟩) xn xc) ∧ w3.cell? ⟨g, bi * 7 + 6, none⟩ = some (.slice (some ⟨yb, yo, none⟩) yn yc)) ∧ ((w3.cell? ⟨fb, fo, none⟩ = some (.int .i64 xk.1) ∧ w3.cell? ⟨fb, fo + 1, none⟩ = some (.string xk.2)) ∧ (w3.cell? ⟨yb, yo, none⟩ = some (.int .i64 bk.1) ∧ w3.cell? ⟨yb, yo + 1, none⟩ = some (.string bk.2)))) ∧ Below w3.heap.size w3 w3 from ⟨⟨⟨k0', c6, e6⟩, ⟨x0, x1⟩, y0, y1⟩, Below.refl _ _⟩)
          go_region_held3 (fun w' => ((w'.cell? ⟨b, 0, none⟩ = some (.slice (some ⟨g, 0, none⟩) L.length rc) ∧ w'.cell? ⟨g, j * 7 + 6, none⟩ = some (.slice (some ⟨fb, fo, none⟩) xn xc) ∧ w'.cell? ⟨g, bi * 7 + 6, none⟩ = some (.slice (some ⟨yb, yo, none⟩) yn yc)) ∧ ((w'.cell? ⟨fb, fo, none⟩ = some (.int .i64 xk.1) ∧ w'.cell? ⟨fb, fo + 1, none⟩ = some (.string xk.2)) ∧ (w'.cell? ⟨yb, yo, none⟩ = some (.int .i64 bk.1) ∧ w'.cell? ⟨yb, yo + 1, none⟩ = some (.string bk.2)))) ∧ Below w3.heap.size w3 w')
            (first | assumption | exact r7_carry T7.out (Below.refl _ _).drew | exact r7_carry (by assumption) (by assumption))
            (first
              | (go_at_call 44; (with_reducible refine (CL.out _).mono ?_); rintro e w' ⟨rfl, hb⟩))
          all_goals
            rename_i S5
            have BE := Lib.hid (hB.out.trans (S5.2.mono hB.out.size))
            clear S5
            cases zl
            · go_wp2_with fail
              go_roundw
              case rel => exact ⟨j + 1, by omega, by rw [HN.out]; rfl, by go_num, BE⟩
              case measure => simp [intOf] <;> omega
            · go_wp2_with fail
              go_roundw
              case rel => exact ⟨j + 1, by omega, by rw [HN.out]; rfl, by go_num, BE⟩
              case measure => simp [intOf] <;> omega
      · obtain rfl : j = L.length := by omega
        rcases Nat.eq_zero_or_pos hs.length with hlen0 | hlenp
        · have hs0 : hs = [] := List.eq_nil_of_length_eq_zero hlen0
          have HE := Lib.hid (show R = (T, L.map spl, out) from by rw [← STEP.out, if_pos hs0])
          have hz : bestZ L L.length = -1 := by unfold bestZ; rw [HHS.out, if_pos hs0]
          rw [hz]
          clear hs0 hz M
          go_wp2_with fail
          go_ret
          exact FIN.out HE.out _ I3.out
        · have hsn : hs ≠ [] := fun e => by rw [e] at hlenp; simp at hlenp
          have HHD := Lib.hid (HM.out _ (first_mem hsn))
          have STEP2 := STEP.out
          rw [if_neg hsn] at STEP2
          obtain ⟨⟨fi, fk⟩, hfst⟩ : ∃ f, firstL hs = f := ⟨_, rfl⟩
          have hz : bestZ L L.length = (fi : Int) := by unfold bestZ; rw [HHS.out, if_neg hsn, hfst]
          rw [hfst] at HHD STEP2
          have ST := Lib.hid STEP2
          rw [hz]
          obtain ⟨x, hxe⟩ : ∃ x, L.getD fi sm0 = x := ⟨_, rfl⟩
          have hfl := HHD.out.1
          have h0 := HHD.out.2.1
          have hk := HHD.out.2.2
          simp only at hfl h0 hk
          obtain ⟨g, rfl, hx⟩ := M.at hfl
          rw [hxe] at hx h0 hk
          have hxm : x ∈ L := hxe ▸ mem_sm hfl
          have c6 := hx.2.2.2.2.2.2
          have wx := (M.2.2.2.2.2.2.1 x hxm).1
          have hkz : fk.2.size ≤ 1048576 := (hFt.out x hxm).2.1 fk (hk ▸ getD_mem0 (by rw [wx.1]; exact h0))
          obtain ⟨fb, fo, hxa, hxc⟩ := wx.2 h0
          obtain ⟨x0, x1⟩ := hxc 0 h0
          simp only [Nat.zero_mul, Nat.add_zero] at x0 x1
          rw [← hk] at x0 x1
          rw [hxa] at c6
          obtain ⟨zm, hzm⟩ : ∃ zm, L.any (prM fk) = zm := ⟨_, rfl⟩
          have CM := Lib.hid (rmsure_any fk zm b w3 I3.out.m hLl.out hkz (fun x hx => (hFt.out x hx).1) hzm)
          have HZM := Lib.hid hzm
          have b1 : (0 : Int) ≤ (fi : Int) := by omega
          have b2 : (fi : Int) < (L.length : Int) := by omega
          have d3 : decide ((fi : Int) < 0) = false := decide_eq_false (by omega)
          have n1 : (0 : Int) < (x.wn : Int) := by omega
          have HX := Lib.hid hxe; have HK := Lib.hid hk; have HXM := Lib.hid hxm
          clear hzm STEP2 hfst hsn STEP hz M hx hxe hk hxm wx hkz hxc hxa
          go_wp2_with fail
          refine CM.out.mono ?_
          rintro e w6 ⟨rfl, hb6⟩
          have I6 := Lib.hid (I3.out.more hb6)
          clear x0 x1 k0' c6 CM hb6
          cases zm
          case true =>
            have HE := Lib.hid (show R = (T, L.map spl, out) from by rw [← ST.out, HZM.out, if_pos rfl])
            go_wp2_with fail
            go_ret
            exact FIN.out HE.out _ I6.out
          have ST2 := Lib.hid (show tellF most k (T ++ [fk]) ((L.map spl).set fi (popS ((L.map spl).getD fi sm0))) (out ++ [fk]) = R from by rw [← ST.out, HZM.out]; rfl)
          obtain ⟨ta, tc, ra, rc, M⟩ := I6.out.m
          obtain ⟨g, rfl⟩ : ∃ g, ra = some ⟨g, 0, none⟩ := by
            obtain ⟨g, cap', hv⟩ := Joins.ownsRow_form M.2.2.2.2.2.1 (by omega)
            simp only [Value.slice.injEq] at hv
            exact ⟨g, hv.1⟩
          have MD := Lib.hid M
          have hwt := M.2.2.2.2.2.2.1 x HXM.out
          obtain ⟨g2, hge, hx7⟩ := M.at hfl
          injection hge with hge; injection hge with hge; subst hge
          rw [HX.out] at hx7
          have c6 := hx7.2.2.2.2.2.2
          have k0' := M.2.2.1
          have XL := Lib.hid hx7
          have WT := Lib.hid hwt
          obtain ⟨k1, k2, k3, k4⟩ := hwt
          obtain ⟨fb2, fo2, ha, hc⟩ := k1.2 h0
          obtain ⟨x0, x1⟩ := hc 0 h0
          simp only [Nat.zero_mul, Nat.add_zero] at x0 x1
          rw [← HK.out] at x0 x1
          obtain ⟨least, ended, seq, rcv, last, wa, wn, wc, wait⟩ := x
          simp only at ha h0 k3 c6 x0 x1 n1
          subst ha
          obtain ⟨n0, rfl⟩ : ∃ n0, wn = n0 + 1 := ⟨wn - 1, by omega⟩
          obtain ⟨c0, rfl⟩ : ∃ c0, wc = c0 + 1 := ⟨wc - 1, by omega⟩
          have B7 := Lib.hid (below_one w6 (.cells #[.int .i64 fk.1, .string fk.2] 61))
          have E7 := Lib.hid (kvAt_new w6 fk w6.heap.size 61 rfl)
          have z1 : (0 : Int) < ((n0 + 1 : Nat) : Int) := by omega
          have z2 : (0 : Int) < (n0 : Int) + 1 := by omega
          clear M hx7 hc k1 k2 k3 k4 h0 n1
          go_upto_region 12 with fail
          have I7 := Lib.hid (I6.out.more B7.out)
          have MD7 := Lib.hid (MD.out.blocks B7.out.size (fun k hk => B7.out.block k (MD.out.2.2.2.2.2.2.2.2.2.2 k hk)))
          have WT7 := Lib.hid (show WtIn (w6.alloc (.cells #[.int .i64 fk.1, .string fk.2] 61)) S b ta (some ⟨g, 0, none⟩) ⟨least, ended, seq, rcv, last, some ⟨fb2, fo2, none⟩, n0 + 1, c0 + 1, wait⟩ from ⟨WT.out.1.below B7.out, WT.out.2⟩)
          have QN := Lib.hid (show ¬ S w6.heap.size from fun hs => by have := I6.out.m.lt _ hs; omega)
          have QL := Lib.hid (show w6.heap.size < (w6.alloc (.cells #[.int .i64 fk.1, .string fk.2] 61)).heap.size from by simp)
          clear x0 x1 c6 k0' XL WT MD I6 B7
          generalize w6.alloc (.cells #[.int .i64 fk.1, .string fk.2] 61) = w7 at *
          generalize w6.heap.size = q at *
          have own := MD7.out.2.2.2.2.2.1
          have k0' := MD7.out.2.2.1
          obtain ⟨g2, hge, hx7⟩ := MD7.out.at HHD.out.1
          injection hge with hge; injection hge with hge; subst hge
          rw [HX.out] at hx7
          have c6 := hx7.2.2.2.2.2.2
          simp only at c6
          have f6 : w7.frozen? ⟨g, fi * 7 + 6, none⟩ = false := own.frozenAt _
          have LG := Lib.hid (lt_of_cell c6)
          have LB := Lib.hid (lt_of_cell k0')
          have C6 := Lib.hid c6; have F6 := Lib.hid f6; have K0 := Lib.hid k0'
          have KVL := Lib.hid (show (keysV wait.tail).length = n0 * 2 from by rw [keysV_len, List.length_tail, show wait.length = n0 + 1 from WT7.out.1.1]; rfl)
          obtain ⟨A, hA, hsrc⟩ : ∃ A : Addr, (if c0 = 0 then some (⟨fb2, fo2, none⟩ : Addr) else some ⟨fb2, fo2 + 2, none⟩) = some A ∧ Hid (∀ j u, (keysV wait.tail)[j]? = some u → w7.cell? (A.add j) = some u) := by
            by_cases hc : c0 = 0
            · refine ⟨⟨fb2, fo2, none⟩, by simp [hc], Lib.hid (fun j u hu => ?_)⟩
              have h0 : (keysV wait.tail).length = 0 := by rw [KVL.out]; have := WT7.out.2.2.1; simp only at this; omega
              rw [List.length_eq_zero_iff.1 h0] at hu
              simp at hu
            · refine ⟨⟨fb2, fo2 + 2, none⟩, by simp [hc], Lib.hid (fun j u hu => ?_)⟩
              exact HoldsK.cells (holdsK_tail WT7.out.1 (by simp) (fun _ => rfl)) j u hu
          have k3 : w7.drew.cell? ⟨b, 0, none⟩ = some (.slice (some ⟨g, 0, none⟩) L.length rc) := k0'
          have c63 : w7.drew.cell? ⟨g, fi * 7 + 6, none⟩ = some (.slice (some ⟨fb2, fo2, none⟩) (n0 + 1) (c0 + 1)) := c6
          have hn0 : n0 ≤ c0 := by have := WT7.out.2.2.1; simp only at this; omega
          have hT0 : n0 ≤ 1000 := by have h1 := (hFt.out _ HXM.out).2.2; have h2 := WT7.out.1.1; simp only at h1 h2; omega
          have z3 : (1 : Int) ≤ (n0 : Int) + 1 := by omega
          have z4 : (1 : Int) ≤ ((n0 + 1 : Nat) : Int) := by omega
          clear own hx7
          go_cut [] (fun wc => Hid (R12 w7 g (fi * 7 + 6) n0 wait.tail wc))
          case first =>
           go_region_law
            (refine step_append_some (by rfl) (.const (.slice none 0 0)) (.tmp 98) 34 (by rfl) w7.heap.size 61 i0 _ 2 24 Try.underlying34 hi0 hz0 hz1 hz2 rfl (by decide) _ 0 [] (by rfl) (World.ownsRow_nil _ _ _ _) A n0 c0 (keysV wait.tail) (by first | (simp [Act.eval]; done) | simp [Act.eval, Act.put]) KVL.out hsrc.out (keysV_one _) (by unfold maxLen; omega) (by omega) (Nat.le_refl _) n0 (keysV wait.tail) (Nat.zero_add _) (List.nil_append _) ?_; intro a8 c8 w8 hown8 hb8 hnil8; have ka := (hb8.cell (p := ⟨b, 0, none⟩) LB.out).trans K0.out; have cy := (hb8.cell (p := ⟨g, fi * 7 + 6, none⟩) LG.out).trans C6.out; have fy := (hb8.frozen (p := ⟨g, fi * 7 + 6, none⟩) LG.out).trans F6.out)
           all_goals
            go_wp2_with fail
            go_meet
            exact Lib.hid ⟨a8, c8, w8, rfl, (Below.refl _ _).drew.trans hb8, hown8, hnil8⟩
          case rest =>
            rename World => wc
            obtain ⟨a8, c8, w8, rfl, hb8, hown8, hnil8⟩ := hcut.out
            have hset := rsV_wait L fi a8 n0 c8 wait.tail HHD.out.1
            rw [HX.out] at hset
            have own := ((owns_below MD7.out.2.2.2.2.2.1 hb8).stored (fi * 7 + 6) (.slice a8 n0 c8)).1
            rw [hset] at own
            have PT := MD7.out.put (wf := w8) hb8 (Turn.setCell (b := g) (o := fi * 7 + 6) (v := .slice a8 n0 c8) rfl) own (by simp) (fun y hy => by
              rcases List.mem_or_eq_of_mem_set hy with hy | rfl
              · obtain ⟨y1, y2, y3, y5⟩ := MD7.out.2.2.2.2.2.2.1 y hy
                exact ⟨y1.below hb8, y2, y3, fun fb fo e => Or.inl ⟨(y5 fb fo e).1, (y5 fb fo e).2.1, (y5 fb fo e).2.2.1, fun e2 => (y5 fb fo e).2.2.2 (by rw [e2])⟩⟩
              · exact ⟨HoldsK.own hown8, hnil8, (owns_none hown8).2, fun fb fo e => Or.inr (own_block hown8 e)⟩)
            have I8 := Lib.hid (I7.out.step PT.1 PT.2 (fun k hk => hk.imp id (fun hh => hh.1)))
            have QN8 := Lib.hid (show ¬ (fun k => S k ∨ (w7.heap.size ≤ k ∧ k < w8.heap.size)) q from fun hh => by
              rcases hh with hh | hh
              · exact QN.out hh
              · have := QL.out; omega)
            have E8 := Lib.hid (show KvAt (w8.setCell ⟨g, fi * 7 + 6, none⟩ (.slice a8 n0 c8)) q fk from ⟨(PT.2.cell (o := 0) QL.out QN.out).trans E7.out.1, (PT.2.cell (o := 1) QL.out QN.out).trans E7.out.2⟩)
            have SPL := Lib.hid (show (L.set fi ⟨least, ended, seq, rcv, last, a8, n0, c8, wait.tail⟩).map spl = (L.map spl).set fi (popS ((L.map spl).getD fi sm0)) from by
              rw [getD_spl, HX.out, List.map_set]; rfl)
            have LEN := Lib.hid (show (L.set fi ⟨least, ended, seq, rcv, last, a8, n0, c8, wait.tail⟩).length = L.length from by simp)
            have FT8 := Lib.hid (hFt.out.set (y := ⟨least, ended, seq, rcv, last, a8, n0, c8, wait.tail⟩) HXM.out rfl (fun k hk => List.mem_of_mem_tail hk) (by simp) fi)
            have Q8 := Lib.hid (lt_of_cell E8.out.1)
            subst hol
            clear hset own PT hcut hown8 hb8 hnil8 k3 c63 k0' c6 f6 C6 F6 K0 z1 z2 z3 z4 hsrc hA E7 I7
            generalize w8.setCell ⟨g, fi * 7 + 6, none⟩ (.slice a8 n0 c8) = w9 at *
            generalize (fun k => S k ∨ (w7.heap.size ≤ k ∧ k < w8.heap.size)) = S8 at *
            generalize L.set fi ⟨least, ended, seq, rcv, last, a8, n0, c8, wait.tail⟩ = L8 at *
            obtain ⟨ta, tc, ra, rc, M⟩ := I8.out.m
            have MD9 := Lib.hid M
            have LB9 := Lib.hid (M.2.2.2.2.2.2.2.2.2.2 b M.2.2.2.2.2.2.2.1)
            have NILT := Lib.hid (rowCellsB M.2.2.2.2.1).1
            have KTL := Lib.hid (keysV_len T)
            have NWT := Lib.hid (show ∀ w', Below w9.heap.size w9 w' → ∀ ad, ta = some ad → ∀ j u, (keysV T)[j]? = some u → w'.cell? (ad.add j) = some u from fun w' hb => (rowCellsB (owns_below M.2.2.2.2.1 hb)).2)
            have BD := Lib.hid (show Below w9.heap.size w9 w9.drew from (Below.refl _ _).drew)
            have BA := Lib.hid (show Below w9.heap.size w9 ((w9.alloc (.cells #[.int .i64 fk.1, .string fk.2] 61)).drew) from (below_one w9 _).drew)
            have SA := Lib.hid (show ((w9.alloc (.cells #[.int .i64 fk.1, .string fk.2] 61)).drew).heap.size = w9.heap.size + 1 from by simp)
            have ROW := Lib.hid (show ∀ w', Below w9.heap.size w9 w' → w'.cell? ⟨b, 2, none⟩ = some (.slice ta T.length tc) ∧ w'.frozen? ⟨b, 2, none⟩ = false ∧ w'.cell? ⟨q, 0, none⟩ = some (.int .i64 fk.1) ∧ w'.cell? ⟨q, 1, none⟩ = some (.string fk.2) from fun w' hb =>
              ⟨(hb.cell (p := ⟨b, 2, none⟩) LB9.out).trans MD9.out.2.1, (hb.frozen (p := ⟨b, 2, none⟩) LB9.out).trans (MD9.out.2.2.2.1 2), (hb.cell (p := ⟨q, 0, none⟩) Q8.out).trans E8.out.1, (hb.cell (p := ⟨q, 1, none⟩) Q8.out).trans E8.out.2⟩)
            have E9 := Lib.hid (show keysV T ++ [.int .i64 fk.1, .string fk.2] = keysV (T ++ [fk]) from (keysV_snoc T fk).symm)
            have hTL := hTl.out
            obtain ⟨u1, -, u3, u4⟩ := ROW.out _ BD.out
            obtain ⟨v1, -, v3, v4⟩ := ROW.out _ BA.out
            clear M
            generalize hTn : T.length = tn at *
            go_upto_region 13 with fail
            go_cut [] (fun wc => Hid (R12 w9 b 2 (tn + 1) (T ++ [fk]) wc))
            case first =>
             go_region_law
              (first
                | (refine step_append_opt (by rfl) (.const (.slice none 0 0)) (.tmp 106) 34 (by rfl) w9.heap.size 61 i0 _ 2 24 Try.underlying34 hi0 hz0 hz1 hz2 rfl (by decide) _ 0 [] (by rfl) (World.ownsRow_nil _ _ _ _) ta tn tc (keysV T) (by first | (simp [Act.eval]; done) | simp [Act.eval, Act.put]) NILT.out KTL.out (NWT.out _ BD.out) (keysV_one _) (by unfold maxLen; omega) (by omega) (Nat.le_refl _) tn (keysV T) (Nat.zero_add _) (List.nil_append _) ?_; intro a3 c3 w3 hown3 hb3 hnil3; have hb3x : Below w9.heap.size w9 w3 := BD.out.trans hb3; have ⟨ka, fa, e0, e1⟩ := ROW.out _ hb3x)
                | (refine step_append_opt (by rfl) (.const (.slice none 0 0)) (.tmp 106) 34 (by rfl) (w9.heap.size + 1) 61 i0 _ 2 24 Try.underlying34 hi0 hz0 hz1 hz2 rfl (by decide) _ 0 [] (by rfl) (World.ownsRow_nil _ _ _ _) ta tn tc (keysV T) (by first | (simp [Act.eval]; done) | simp [Act.eval, Act.put]) NILT.out KTL.out (NWT.out _ BA.out) (keysV_one _) (by unfold maxLen; omega) (by omega) (Nat.le_of_eq SA.out.symm) tn (keysV T) (Nat.zero_add _) (List.nil_append _) ?_; intro a3 c3 w3 hown3 hb3 hnil3; have hb3x : Below w9.heap.size w9 w3 := BA.out.trans (hb3.mono (by omega)); have ⟨ka, fa, e0, e1⟩ := ROW.out _ hb3x)
                | (refine step_append_some (by rfl) (.tmp 107) (.tmp 109) 34 (by rfl) w9.heap.size 61 i0 _ 2 24 Try.underlying34 hi0 hz0 hz1 hz2 rfl (by decide) _ tn (keysV T) (by first | (simp [Act.eval]; done) | simp [Act.eval, Act.put]) (hown3.alloc _) ⟨w3.heap.size, 0, none⟩ 1 1 [.int .i64 fk.1, .string fk.2] (by first | (simp [Act.eval]; done) | simp [Act.eval, Act.put]) (by rfl) (World.news_of_block (cs := #[.int .i64 fk.1, .string fk.2]) (t := 61) (fr := (0, 0)) (heap_alloc_new w3 _)) (by simp [Value.oneCell']) (by unfold maxLen; omega) (by omega) (by have := hb3x.size; simp; omega) (tn + 1) (keysV (T ++ [fk])) rfl E9.out ?_; intro a6 c6 w6' hown6 hb6 hnil6; have hb6x : Below w9.heap.size w9 w6' := (hb3x.trans ((below_one w3 _).mono hb3x.size)).trans hb6; have ⟨kz, fz, _⟩ := ROW.out _ hb6x; have own6 := owns_toB (base' := w9.heap.size) hown6 (by omega))
                | (refine step_append_some (by rfl) (.tmp 107) (.tmp 109) 34 (by rfl) (w9.heap.size + 1) 61 i0 _ 2 24 Try.underlying34 hi0 hz0 hz1 hz2 rfl (by decide) _ tn (keysV T) (by first | (simp [Act.eval]; done) | simp [Act.eval, Act.put]) hown3 ⟨w9.heap.size, 0, none⟩ 1 1 [.int .i64 fk.1, .string fk.2] (by first | (simp [Act.eval]; done) | simp [Act.eval, Act.put]) (by rfl) (World.news_of_block (cs := #[.int .i64 fk.1, .string fk.2]) (t := 61) (fr := (0, 0)) ((hb3.block w9.heap.size (by omega)).trans (heap_alloc_new w9 _))) (by simp [Value.oneCell']) (by unfold maxLen; omega) (by omega) (by have := hb3.size; have := SA.out; omega) (tn + 1) (keysV (T ++ [fk])) rfl E9.out ?_; intro a6 c6 w6' hown6 hb6 hnil6; have hb6x : Below w9.heap.size w9 w6' := hb3x.trans (hb6.mono (by omega)); have ⟨kz, fz, _⟩ := ROW.out _ hb6x; have own6 := owns_toB (base' := w9.heap.size) hown6 (by omega)))
             all_goals
              go_wp2_with fail
              go_meet
              exact Lib.hid ⟨a6, c6, w6', rfl, hb6x, own6, hnil6⟩
            case rest =>
              rename World => wc
              obtain ⟨a6, c6, w10, rfl, hb10, hown10, hnil10⟩ := hcut.out
              obtain ⟨g6, rfl⟩ : ∃ g6, a6 = some ⟨g6, 0, none⟩ := by
                obtain ⟨g', cap', hv⟩ := Joins.ownsRow_form hown10 (by omega)
                simp only [Value.slice.injEq] at hv
                exact ⟨g', hv.1⟩
              subst hTn
              have GT := RMid.told (k := fk) MD9.out hb10 (by rw [keysV_snoc] at hown10; exact hown10)
              have G6 := hown10.lt g6 rfl
              have I9 := Lib.hid (I8.out.step GT.1 GT.2 (fun k hk => hk.imp id (fun e => by rw [e]; exact G6.1)))
              have E10 := Lib.hid (show KvAt (w10.setCell ⟨b, 2, none⟩ (.slice (some ⟨g6, 0, none⟩) (T.length + 1) c6)) q fk from ⟨(GT.2.cell (o := 0) Q8.out QN8.out).trans E8.out.1, (GT.2.cell (o := 1) Q8.out QN8.out).trans E8.out.2⟩)
              clear hcut GT G6 hb10 hown10 hnil10 u1 u3 u4 v1 v3 v4 I8 E8 MD9 ROW NWT SA BA BD NILT KTL E9
              generalize w10.setCell ⟨b, 2, none⟩ (.slice (some ⟨g6, 0, none⟩) (T.length + 1) c6) = w11 at *
              obtain ⟨e0, e1⟩ := E10.out
              have OO := Lib.hid I9.out.o
              have OT := Lib.hid I9.out.t.size
              go_wp2_with (at_builtin; refine wpList_append_lies _ rfl (.tmp 113) (.tmp 115) 34 rfl w.heap.size 61 i0 _ 2 24 Try.underlying34 hi0 hz0 hz1 hz2 rfl (by omega) (.slice oa out.length oc) out.length (keysV out) (by rfl) (OO.out.alloc _) ⟨w11.heap.size, 0, none⟩ 1 1 [.int .i64 fk.1, .string fk.2] (by rfl) (by rfl) (World.news_of_block (cs := #[.int .i64 fk.1, .string fk.2]) (t := 61) (fr := (0, 0)) (heap_alloc_new w11 _)) (by simp [Value.oneCell']) (by omega) (by unfold maxLen; omega) (by omega) (by have := OT.out; simp; omega) (w11.heap.size + 1) (by simp) ?_; intro g4 c4 w12 hown11 hgrow11 hat11 hlt11)
              have I11 := Lib.hid (I9.out.out hown11 hgrow11 (hat11.imp id (fun e => by simp; exact e)))
              go_roundw
              case rel => exact ⟨k, out.length + 1, T ++ [fk], L8, _, some ⟨g4, 0, none⟩, c4, out ++ [fk], rfl, by omega, by simp, Lib.hid (by rw [SPL.out]; exact ST2.out), Lib.hid (by have := hM.out; simp; omega), Lib.hid (by rw [LEN.out]; exact hLl.out), Lib.hid (by simp; omega), FT8, I11⟩
              case measure => simp only [sliceLen]; omega
end Go.Proofs.Ytgghbgmeebihbaa
