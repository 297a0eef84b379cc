/- texts joined -/
import Derived.Test.YtbbholdadgjelaaGreatPkB
import Derived.Test.YtbbholdadgjelaaGreatPkD
import Derived.Test.YtbbholdadgjelaaGreatPkC
import Derived.Deep.RegionHeld3
import Derived.Test.YtbbholdadgjelaaGreatPkA
import Derived.Test.YtbbholdadgjelaaGreatChecked
import Derived.WalkLawsBesides
import Derived.WalkSpells
import Derived.Outline
import Derived.WalkKit
import Derived.ProofKit
import Derived.OpenShut
import Derived.Lib.SmallJoins
/- the document's graph in memory -/
namespace Go.Proofs.YtbbholdadgjelaaGreat
open Go.RowKit
set_option linter.unusedVariables false
set_option maxRecDepth 20000
/-- a node, and where its rests and edges lie -/
structure NR where
  rests : List Tx
  ra : Option Addr
  rc : Nat
  es : List EdP
  ea : Option Addr
  ec : Nat
def nr0 : NR := ⟨[], none, 0, [], none, 0⟩
def nrV : List NR → List Value
  | [] => []
  | x :: l => .slice x.ra x.rests.length x.rc :: .slice x.ea x.es.length x.ec :: nrV l
theorem nrV_len : ∀ l : List NR, (nrV l).length = l.length * 2
  | [] => rfl
  | x :: l => by simp [nrV, nrV_len l]; omega
theorem nrV_app : ∀ k l : List NR, nrV (k ++ l) = nrV k ++ nrV l
  | [], l => rfl
  | x :: k, l => by simp [nrV, nrV_app k l]
theorem nrV_at : ∀ (l : List NR) (i : Nat), i < l.length → (nrV l)[i * 2]? = some (.slice (l.getD i nr0).ra (l.getD i nr0).rests.length (l.getD i nr0).rc) ∧ (nrV l)[i * 2 + 1]? = some (.slice (l.getD i nr0).ea (l.getD i nr0).es.length (l.getD i nr0).ec)
  | [], i, h => by simp at h
  | x :: l, 0, _ => by simp [nrV]
  | x :: l, i + 1, h => by
    have ih := nrV_at l i (by simpa using h)
    have e1 : (i + 1) * 2 = i * 2 + 1 + 1 := by omega
    rw [e1]
    simpa [nrV] using ih
def withE (x : NR) (es : List EdP) (ea : Option Addr) (ec : Nat) : NR := ⟨x.rests, x.ra, x.rc, es, ea, ec⟩
theorem nrV_set : ∀ (L : List NR) (i : Nat) (es : List EdP) (ea : Option Addr) (ec : Nat), i < L.length → (nrV L).set (i * 2 + 1) (.slice ea es.length ec) = nrV (L.set i (withE (L.getD i nr0) es ea ec))
  | [], i, _, _, _, h => by simp at h
  | x :: l, 0, es, ea, ec, _ => by simp [nrV, withE]
  | x :: l, i + 1, es, ea, ec, h => by
    have ih := nrV_set l i es ea ec (by simpa using h)
    have e1 : (i + 1) * 2 + 1 = i * 2 + 1 + 1 + 1 := by omega
    rw [e1]
    simp only [nrV, List.set_cons_succ]
    rw [ih]
    simp
theorem mem_nr {L : List NR} {i : Nat} (h : i < L.length) : L.getD i nr0 ∈ L := by rw [List.getD_eq_getElem?_getD, List.getElem?_eq_getElem h]; simp
def EdF (w : World) (F : Nat → Prop) (x : NR) : Prop := HoldsEd w x.ea x.es.length x.es ∧ ((x.ea = none → x.es.length = 0 ∧ x.ec = 0) ∧ x.es.length ≤ x.ec) ∧ ∀ fb fo, x.ea = some ⟨fb, fo, none⟩ → F fb
def ReF (w : World) (F : Nat → Prop) (x : NR) : Prop := HoldsT w x.ra x.rests.length x.rests ∧ x.rests.length ≤ 1000000 ∧ (0 < x.rests.length → ∀ fb fo, x.ra = some ⟨fb, fo, none⟩ → F fb)
/-- block g is the document's graph of these nodes; F: what the nodes' slices lie in, S: what may turn -/
structure RMid (w : World) (g : Nat) (na : Option Addr) (nc : Nat) (NL : List NR) (S F : Nat → Prop) : Prop where
  c : w.cell? ⟨g, 0, none⟩ = some (.slice na NL.length nc)
  f : ∀ i, w.frozen? ⟨g, i, none⟩ = false
  o : w.ownsRow 0 125 2 (.slice na NL.length nc) NL.length (nrV NL)
  e : ∀ x ∈ NL, EdF w F x
  r : ∀ x ∈ NL, ReF w F x
  sg : S g
  sn : ∀ q, na = some ⟨q, 0, none⟩ → S q ∧ q ≠ g
  lt : ∀ k, S k → k < w.heap.size
  fl : ∀ k, F k → ¬ S k ∧ k < w.heap.size
theorem holdsEd_turn {w w' : World} {a : Option Addr} {n : Nat} {ks : List EdP} {T : Nat → Prop} (h : HoldsEd w a n ks) (t : Turn T w w') (hF : ∀ fb fo, a = some ⟨fb, fo, none⟩ → ¬ T fb ∧ fb < w.heap.size) : HoldsEd w' a n ks :=
  holdsEd_blocks h (fun fb fo e => t.block fb (hF fb fo e).2 (hF fb fo e).1)
theorem RMid.turn {w w' : World} {g : Nat} {na : Option Addr} {nc : Nat} {NL : List NR} {S F T : Nat → Prop} (h : RMid w g na nc NL S F) (t : Turn T w w') (hT : ∀ k, T k → ¬ S k ∧ ¬ F k) : RMid w' g na nc NL S F := by
  have lg := h.lt g h.sg
  have ng : ¬ T g := fun e => (hT g e).1 h.sg
  exact ⟨(t.cell lg ng).trans h.c, fun i => (t.frozen lg ng).trans (h.f i), gowns_block h.o (fun q hq => t.block q (h.lt q (h.sn q hq).1) (fun e => (hT q e).1 (h.sn q hq).1)),
    fun x hx => ⟨holdsEd_turn (h.e x hx).1 t (fun fb fo e => ⟨fun e2 => (hT fb e2).2 ((h.e x hx).2.2 fb fo e), (h.fl fb ((h.e x hx).2.2 fb fo e)).2⟩), (h.e x hx).2⟩,
    fun x hx => ⟨holdsT_turn (h.r x hx).1 t (fun h0 fb fo e e2 => (hT fb e2).2 ((h.r x hx).2.2 h0 fb fo e)), (h.r x hx).2⟩,
    h.sg, h.sn, fun k hk => Nat.lt_of_lt_of_le (h.lt k hk) t.size, fun k hk => ⟨(h.fl k hk).1, Nat.lt_of_lt_of_le (h.fl k hk).2 t.size⟩⟩
theorem RMid.at {w : World} {g : Nat} {na : Option Addr} {nc : Nat} {NL : List NR} {S F : Nat → Prop} (h : RMid w g na nc NL S F) {i : Nat} (hi : i < NL.length) : ∃ q, na = some ⟨q, 0, none⟩ ∧ w.cell? ⟨q, i * 2, none⟩ = some (.slice (NL.getD i nr0).ra (NL.getD i nr0).rests.length (NL.getD i nr0).rc) ∧ w.cell? ⟨q, i * 2 + 1, none⟩ = some (.slice (NL.getD i nr0).ea (NL.getD i nr0).es.length (NL.getD i nr0).ec) := by
  have o := h.o
  obtain ⟨q, cap', hv⟩ := Joins.ownsRow_form o (by omega)
  simp only [Value.slice.injEq] at hv
  obtain ⟨hv, -, -⟩ := hv
  subst hv
  obtain ⟨v0, v1⟩ := nrV_at NL i hi
  exact ⟨q, rfl, (o.cellAt (i * 2) (by omega)).trans v0, (o.cellAt (i * 2 + 1) (by omega)).trans v1⟩
/-- one node more -/
theorem RMid.grow {w w6 : World} {g q cap : Nat} {na : Option Addr} {nc : Nat} {NL : List NR} {S F : Nat → Prop} {o : Obj} {s : List Tx} {ra : Option Addr} {rc : Nat} (h : RMid w g na nc NL S F)
    (hs : HoldsT w ra s.length s) (hsl : s.length ≤ 1000000) (hsF : 0 < s.length → ∀ fb fo, ra = some ⟨fb, fo, none⟩ → F fb)
    (own : w6.ownsRow 0 125 2 (.slice (some ⟨q, 0, none⟩) (NL.length + 1) cap) (NL.length + 1) (nrV NL ++ [.slice ra s.length rc, .slice none 0 0]))
    (hg : (w.alloc o).grownBy w6 (Value.slice na NL.length nc).ownBlock) (hat : (Value.slice na NL.length nc).ownBlock = some q ∨ q = (w.alloc o).heap.size) (hlt : q < w6.heap.size) :
    RMid (w6.setCell ⟨g, 0, none⟩ (.slice (some ⟨q, 0, none⟩) (NL.length + 1) cap)) g (some ⟨q, 0, none⟩) cap (NL ++ [⟨s, ra, rc, [], none, 0⟩]) (fun k => S k ∨ k = q) F ∧ Turn S w (w6.setCell ⟨g, 0, none⟩ (.slice (some ⟨q, 0, none⟩) (NL.length + 1) cap)) ∧ (S q ∨ w.heap.size ≤ q) := by
  have hza : (w.alloc o).heap.size = w.heap.size + 1 := by simp
  have hz6 := hg.size
  have hlb := h.lt g h.sg
  have old : ∀ k, k < w.heap.size → (∀ r, na = some ⟨r, 0, none⟩ → k ≠ r) → w6.heap[k]? = w.heap[k]? := fun k hk hn =>
    (hg.block k (by omega) (fun e => hn k (gown_at h.o e) rfl)).trans (Below.heap_alloc _ _ _ (by omega))
  have ob := old g hlb (fun r e hq => (h.sn r e).2 hq.symm)
  have hwhere : na = some ⟨q, 0, none⟩ ∨ w.heap.size ≤ q := by
    rcases hat with e | e
    · exact Or.inl (gown_at h.o e.symm)
    · exact Or.inr (by omega)
  have gq : q ≠ g := by
    rcases hwhere with e | e
    · exact (h.sn q e).2
    · omega
  have sz : (w6.setCell ⟨g, 0, none⟩ (.slice (some ⟨q, 0, none⟩) (NL.length + 1) cap)).heap.size = w6.heap.size := by simp [World.setCell]
  have t : Turn (fun k => k = g ∨ na = some ⟨k, 0, none⟩) w (w6.setCell ⟨g, 0, none⟩ (.slice (some ⟨q, 0, none⟩) (NL.length + 1) cap)) := by
    refine Turn.trans ?_ (Turn.setCell (Or.inl rfl))
    exact ⟨hg.os, hg.tape, hg.output, by omega, fun k hk hn => old k hk (fun r e h2 => hn (Or.inr (by rw [h2]; exact e)))⟩
  have tS : ∀ k, (k = g ∨ na = some ⟨k, 0, none⟩) → S k := fun k hk => by
    rcases hk with rfl | e
    · exact h.sg
    · exact (h.sn k e).1
  have hlen : (NL ++ [(⟨s, ra, rc, [], none, 0⟩ : NR)]).length = NL.length + 1 := by simp
  have hkv : nrV (NL ++ [⟨s, ra, rc, [], none, 0⟩]) = nrV NL ++ [.slice ra s.length rc, .slice none 0 0] := by rw [nrV_app]; rfl
  refine ⟨⟨?_, fun i => ?_, ?_, fun x hx => ?_, fun x hx => ?_, Or.inl h.sg, fun r hr => ?_, fun k hk => ?_, fun k hk => ⟨fun e => ?_, ?_⟩⟩, t.mono tS, ?_⟩
  · rw [hlen]; exact cset_at ((World.cell?_of_block (w := w) ob).trans h.c)
  · rw [fset_any, World.frozen?_of_block (w := w) ob]; exact h.f i
  · rw [hlen, hkv]
    exact gowns_block own (fun r hr => by injection hr with hr; injection hr with hr; subst hr; exact gheap_far gq)
  · rcases List.mem_append.1 hx with hx | hx
    · obtain ⟨y1, y2, y3⟩ := h.e x hx
      exact ⟨holdsEd_turn y1 t (fun fb fo e => ⟨fun e2 => (h.fl fb (y3 fb fo e)).1 (tS fb e2), (h.fl fb (y3 fb fo e)).2⟩), y2, y3⟩
    · simp only [List.mem_singleton] at hx
      subst hx
      exact ⟨HoldsEd.nil _ _, ⟨fun _ => ⟨rfl, rfl⟩, Nat.le_refl _⟩, fun fb fo e => by cases e⟩
  · rcases List.mem_append.1 hx with hx | hx
    · obtain ⟨y1, y2⟩ := h.r x hx
      exact ⟨holdsT_turn y1 t (fun h0 fb fo e e2 => (h.fl fb (y2.2 h0 fb fo e)).1 (tS fb e2)), y2⟩
    · simp only [List.mem_singleton] at hx
      subst hx
      exact ⟨holdsT_turn hs t (fun h0 fb fo e e2 => (h.fl fb (hsF h0 fb fo e)).1 (tS fb e2)), hsl, hsF⟩
  · injection hr with hr; injection hr with hr; subst hr
    exact ⟨Or.inr rfl, gq⟩
  · rw [sz]
    rcases hk with hk | hk
    · have := h.lt k hk; omega
    · rw [hk]; exact hlt
  · rcases e with e | e
    · exact (h.fl k hk).1 e
    · rcases hwhere with e2 | e2
      · exact (h.fl k hk).1 (by rw [e]; exact (h.sn q e2).1)
      · have := (h.fl k hk).2; omega
  · rw [sz]; have := (h.fl k hk).2; omega
  · rcases hwhere with e | e
    · exact Or.inl (h.sn q e).1
    · exact Or.inr e
/-- a node's edges are laid in their place -/
theorem RMid.put {w : World} {g q nc : Nat} {NL : List NR} {S F : Nat → Prop} (h : RMid w g (some ⟨q, 0, none⟩) nc NL S F) (i : Nat) (hi : i < NL.length) (es : List EdP) (ea : Option Addr) (ec : Nat) (h1 : HoldsEd w ea es.length es) (h3 : (ea = none → es.length = 0 ∧ ec = 0) ∧ es.length ≤ ec) (h4 : ∀ fb fo, ea = some ⟨fb, fo, none⟩ → ¬ S fb ∧ fb < w.heap.size) :
    RMid (w.setCell ⟨q, i * 2 + 1, none⟩ (.slice ea es.length ec)) g (some ⟨q, 0, none⟩) nc (NL.set i (withE (NL.getD i nr0) es ea ec)) S (fun k => F k ∨ ∃ fo, ea = some ⟨k, fo, none⟩) ∧ Turn (fun k => k = q) w (w.setCell ⟨q, i * 2 + 1, none⟩ (.slice ea es.length ec)) := by
  obtain ⟨s1, s2⟩ := h.sn q rfl
  have t : Turn (fun k => k = q) w (w.setCell ⟨q, i * 2 + 1, none⟩ (.slice ea es.length ec)) := Turn.setCell rfl
  have sz : (w.setCell ⟨q, i * 2 + 1, none⟩ (.slice ea es.length ec)).heap.size = w.heap.size := by simp [World.setCell]
  have own := (h.o.stored (i * 2 + 1) (.slice ea es.length ec)).1
  rw [nrV_set NL i es ea ec hi] at own
  have lg := h.lt g h.sg
  have ng : ¬ g = q := fun e => s2 e.symm
  have hE : ∀ x ∈ NL, EdF (w.setCell ⟨q, i * 2 + 1, none⟩ (.slice ea es.length ec)) (fun k => F k ∨ ∃ fo, ea = some ⟨k, fo, none⟩) x := fun x hx => by
    obtain ⟨y1, y2, y3⟩ := h.e x hx
    exact ⟨holdsEd_turn y1 t (fun fb fo e => ⟨fun e2 => (h.fl fb (y3 fb fo e)).1 (by rw [e2]; exact s1), (h.fl fb (y3 fb fo e)).2⟩), y2, fun fb fo e => Or.inl (y3 fb fo e)⟩
  have hR : ∀ x ∈ NL, ReF (w.setCell ⟨q, i * 2 + 1, none⟩ (.slice ea es.length ec)) (fun k => F k ∨ ∃ fo, ea = some ⟨k, fo, none⟩) x := fun x hx => by
    obtain ⟨y1, y2⟩ := h.r x hx
    exact ⟨holdsT_turn y1 t (fun h0 fb fo e e2 => (h.fl fb (y2.2 h0 fb fo e)).1 (by rw [e2]; exact s1)), y2.1, fun h0 fb fo e => Or.inl (y2.2 h0 fb fo e)⟩
  refine ⟨⟨?_, fun k => (t.frozen lg ng).trans (h.f k), ?_, fun x hx => ?_, fun x hx => ?_, h.sg, h.sn, fun k hk => by rw [sz]; exact h.lt k hk, fun k hk => ?_⟩, t⟩
  · rw [List.length_set]; exact (t.cell lg ng).trans h.c
  · rw [List.length_set]; exact own
  · rcases List.mem_or_eq_of_mem_set hx with hx | rfl
    · exact hE x hx
    · exact ⟨holdsEd_turn h1 t (fun fb fo e => ⟨fun e2 => (h4 fb fo e).1 (by rw [e2]; exact s1), (h4 fb fo e).2⟩), h3, fun fb fo e => Or.inr ⟨fo, e⟩⟩
  · rcases List.mem_or_eq_of_mem_set hx with hx | rfl
    · exact hR x hx
    · exact hR (NL.getD i nr0) (mem_nr hi)
  · rw [sz]
    rcases hk with hk | ⟨fo, hk⟩
    · exact h.fl k hk
    · exact h4 k fo hk
theorem RMid.len {w : World} {g : Nat} {na : Option Addr} {nc : Nat} {NL : List NR} {S F : Nat → Prop} {st : List GN} (h : RMid w g na nc NL S F) (eq : NL.map (fun x => (x.rests, x.es)) = st.map (fun x => (x.rests, x.edges))) : NL.length = st.length ∧ ∀ k, k < st.length → (NL.getD k nr0).rests = (st.getD k gn0).rests ∧ (NL.getD k nr0).es = (st.getD k gn0).edges := by
  have hl : NL.length = st.length := by have := congrArg List.length eq; simpa using this
  refine ⟨hl, fun k hk => ?_⟩
  have h2 := congrArg (fun l => l[k]?) eq
  simp only [List.getElem?_map, List.getElem?_eq_getElem (show k < NL.length by omega), List.getElem?_eq_getElem hk, Option.map_some] at h2
  injection h2 with h2
  rw [List.getD_eq_getElem?_getD, List.getD_eq_getElem?_getD, List.getElem?_eq_getElem (show k < NL.length by omega), List.getElem?_eq_getElem hk]
  injection h2 with h3 h4
  exact ⟨h3, h4⟩
/-- more is known to stay -/
theorem RMid.wide {w : World} {g : Nat} {na : Option Addr} {nc : Nat} {NL : List NR} {S F G : Nat → Prop} (h : RMid w g na nc NL S F) (hF : ∀ k, F k → G k) (hG : ∀ k, G k → ¬ S k ∧ k < w.heap.size) : RMid w g na nc NL S G :=
  ⟨h.c, h.f, h.o, fun x hx => ⟨(h.e x hx).1, (h.e x hx).2.1, fun fb fo e => hF fb ((h.e x hx).2.2 fb fo e)⟩, fun x hx => ⟨(h.r x hx).1, (h.r x hx).2.1, fun h0 fb fo e => hF fb ((h.r x hx).2.2 h0 fb fo e)⟩, h.sg, h.sn, h.lt, hG⟩
def nrP (x : NR) : List Tx × List EdP := (x.rests, x.es)
def grP (x : GN) : List Tx × List EdP := (x.rests, x.edges)
def RQ (g : Nat) (st : List GN) (w : World) (S F : Nat → Prop) : Prop := ∃ na nc NL, RMid w g na nc NL S F ∧ NL.map nrP = st.map grP
theorem RQ.turn {g : Nat} {st : List GN} {w w' : World} {S F T : Nat → Prop} (h : RQ g st w S F) (t : Turn T w w') (hT : ∀ k, T k → ¬ S k ∧ ¬ F k) : RQ g st w' S F := by
  obtain ⟨na, nc, NL, m, e⟩ := h; exact ⟨na, nc, NL, m.turn t hT, e⟩
theorem RQ.below {g : Nat} {st : List GN} {w w' : World} {S F : Nat → Prop} (h : RQ g st w S F) (hb : Below w.heap.size w w') : RQ g st w' S F :=
  h.turn (T := fun _ => False) (Turn.of_below hb) (fun k hk => hk.elim)
theorem RQ.lt {g : Nat} {st : List GN} {w : World} {S F : Nat → Prop} (h : RQ g st w S F) : ∀ k, S k → k < w.heap.size := by obtain ⟨na, nc, NL, m, e⟩ := h; exact m.lt
theorem RQ.fl {g : Nat} {st : List GN} {w : World} {S F : Nat → Prop} (h : RQ g st w S F) : ∀ k, F k → ¬ S k ∧ k < w.heap.size := by obtain ⟨na, nc, NL, m, e⟩ := h; exact m.fl
theorem RQ.wide {g : Nat} {st : List GN} {w : World} {S F G : Nat → Prop} (h : RQ g st w S F) (hF : ∀ k, F k → G k) (hG : ∀ k, G k → ¬ S k ∧ k < w.heap.size) : RQ g st w S G := by
  obtain ⟨na, nc, NL, m, e⟩ := h; exact ⟨na, nc, NL, m.wide hF hG, e⟩
/-- what adding a list does -/
def PR (g : Nat) (st : List GN) (w : World) (S F : Nat → Prop) (w' : World) : Prop := ∃ S' F', RQ g st w' S' F' ∧ (∀ k, S' k → S k ∨ w.heap.size ≤ k) ∧ (∀ k, F' k → F k ∨ w.heap.size ≤ k) ∧ (∀ k, F k → F' k) ∧ Turn S w w'
/-- what the loop goes by -/
structure RK (g : Nat) (W : World) (S F : Nat → Prop) (st1 : List GN) (ea : Option Addr) (ec : Nat) (es : List EdP) (S1 F1 : Nat → Prop) (w : World) : Prop where
  q : RQ g st1 w S1 F1
  sub : ∀ k, S1 k → S k ∨ W.heap.size ≤ k
  fsub : ∀ k, F1 k → F k ∨ W.heap.size ≤ k
  fup : ∀ k, F k → F1 k
  t : Turn S W w
  o : w.ownsRow W.heap.size 116 2 (.slice ea es.length ec) es.length (edsV es)
  ne : ∀ k, ea = some ⟨k, 0, none⟩ → ¬ S1 k ∧ ¬ F1 k
theorem RK.more {g : Nat} {W : World} {S F : Nat → Prop} {st1 : List GN} {ea : Option Addr} {ec : Nat} {es : List EdP} {S1 F1 : Nat → Prop} {w w' : World} (h : RK g W S F st1 ea ec es S1 F1 w) (hb : Below w.heap.size w w') : RK g W S F st1 ea ec es S1 F1 w' :=
  ⟨h.q.below hb, h.sub, h.fsub, h.fup, h.t.trans (Turn.of_below hb), owns_below h.o hb, h.ne⟩
/-- a block of rests more -/
theorem RK.rows {g : Nat} {W : World} {S F : Nat → Prop} {st1 : List GN} {ea : Option Addr} {ec : Nat} {es : List EdP} {S1 F1 : Nat → Prop} {w : World} (h : RK g W S F st1 ea ec es S1 F1 w) (L : Nat → Prop) (hL : ∀ k, L k → ¬ S1 k ∧ k < w.heap.size ∧ W.heap.size ≤ k ∧ ea ≠ some ⟨k, 0, none⟩) : RK g W S F st1 ea ec es S1 (fun k => F1 k ∨ L k) w :=
  ⟨h.q.wide (fun k hk => Or.inl hk) (fun k hk => hk.elim (h.q.fl k) (fun x => ⟨(hL k x).1, (hL k x).2.1⟩)), h.sub, fun k hk => hk.elim (h.fsub k) (fun x => Or.inr (hL k x).2.2.1), fun k hk => Or.inl (h.fup k hk), h.t, h.o, fun k e => ⟨(h.ne k e).1, fun hk => hk.elim (h.ne k e).2 (fun x => (hL k x).2.2.2 e)⟩⟩
/-- behind a call that adds nodes -/
theorem RK.step {g : Nat} {W : World} {S F : Nat → Prop} {st1 st2 : List GN} {ea : Option Addr} {ec : Nat} {es : List EdP} {S1 F1 : Nat → Prop} {w w' : World} (h : RK g W S F st1 ea ec es S1 F1 w) (k : PR g st2 w S1 F1 w') : ∃ S2 F2, RK g W S F st2 ea ec es S2 F2 w' := by
  obtain ⟨S2, F2, q2, s2, f2, u2, t2⟩ := k
  have hz := h.t.size
  refine ⟨S2, F2, q2, fun k hk => ?_, fun k hk => ?_, fun k hk => u2 k (h.fup k hk), h.t.trans' t2 (fun i hi => h.sub i hi), gowns_block h.o (fun r hr => t2.block r (h.o.lt r (by rw [hr]; rfl)).2 (h.ne r hr).1), fun k hk => ⟨fun hk2 => ?_, fun hk2 => ?_⟩⟩
  · rcases s2 k hk with x | x
    · exact h.sub k x
    · exact Or.inr (by omega)
  · rcases f2 k hk with x | x
    · exact h.fsub k x
    · exact Or.inr (by omega)
  · rcases s2 k hk2 with x | x
    · exact (h.ne k hk).1 x
    · have := (h.o.lt k (by rw [hk]; rfl)).2; omega
  · rcases f2 k hk2 with x | x
    · exact (h.ne k hk).2 x
    · have := (h.o.lt k (by rw [hk]; rfl)).2; omega
/-- behind an edge more -/
theorem RK.edge {g : Nat} {W : World} {S F : Nat → Prop} {q cap : Nat} {st1 : List GN} {ea : Option Addr} {ec : Nat} {es : List EdP} {S1 F1 : Nat → Prop} {w w6 : World} {o : Obj} {x : EdP} (h : RK g W S F st1 ea ec es S1 F1 w)
    (own : w6.ownsRow W.heap.size 116 2 (.slice (some ⟨q, 0, none⟩) (es.length + 1) cap) (es.length + 1) (edsV es ++ cellsEd x))
    (hg : (w.alloc o).grownBy w6 (Value.slice ea es.length ec).ownBlock) (hat : (Value.slice ea es.length ec).ownBlock = some q ∨ q = (w.alloc o).heap.size) :
    RK g W S F st1 (some ⟨q, 0, none⟩) cap (es ++ [x]) S1 F1 w6 ∧ Turn (fun k => ea = some ⟨k, 0, none⟩) w w6 := by
  have hza : (w.alloc o).heap.size = w.heap.size + 1 := by simp
  have hz6 := hg.size
  have old : ∀ k, k < w.heap.size → ea ≠ some ⟨k, 0, none⟩ → w6.heap[k]? = w.heap[k]? := fun k hk hn =>
    (hg.block k (by omega) (fun e => hn (gown_at h.o e))).trans (Below.heap_alloc _ _ _ (by omega))
  have t1 : Turn (fun k => ea = some ⟨k, 0, none⟩) w w6 := ⟨hg.os, hg.tape, hg.output, by omega, fun k hk hn => old k hk hn⟩
  refine ⟨⟨h.q.turn t1 (fun k hk => h.ne k hk), h.sub, h.fsub, h.fup, h.t.trans' t1 (fun k hk => Or.inr (h.o.lt k (by rw [hk]; rfl)).1), ?_, fun k hk => ?_⟩, t1⟩
  · rw [List.length_append, List.length_singleton, edsV_snoc]; exact own
  · injection hk with hk; injection hk with hk; subst hk
    rcases hat with e | e
    · exact h.ne q (gown_at h.o e.symm)
    · exact ⟨fun hk => by have := h.q.lt q hk; omega, fun hk => by have := (h.q.fl q hk).2; omega⟩
/-- the place where the edges are to lie -/
theorem RK.target {g : Nat} {W : World} {S F : Nat → Prop} {st1 : List GN} {ea : Option Addr} {ec : Nat} {es : List EdP} {S1 F1 : Nat → Prop} {w : World} (h : RK g W S F st1 ea ec es S1 F1 w) (i : Nat) (hi : i < st1.length) (s : List Tx) (hr : (st1.getD i gn0).rests = s) (b : Bool) :
    ∃ nc q, w.cell? ⟨g, 0, none⟩ = some (.slice (some ⟨q, 0, none⟩) st1.length nc) ∧ (∃ v, w.cell? ⟨q, i * 2 + 1, none⟩ = some v) ∧ (∀ k, w.frozen? ⟨q, k, none⟩ = false) ∧
      PR g (st1.set i ⟨s, b, es⟩) W S F (w.setCell ⟨q, i * 2 + 1, none⟩ (.slice ea es.length ec)) := by
  obtain ⟨na, nc, NL, B, eq⟩ := h.q
  have hnl : NL.length = st1.length := by have := congrArg List.length eq; simpa using this
  obtain ⟨q, rfl, h0, h1⟩ := B.at (i := i) (by omega)
  have sq := B.sn q rfl
  have hea : ∀ fb fo, ea = some ⟨fb, fo, none⟩ → ¬ S1 fb ∧ fb < w.heap.size ∧ W.heap.size ≤ fb := fun fb fo e => by
    have hb := own_blockG h.o e
    rcases Joins.ownsRow_forms h.o with ⟨e1, _⟩ | ⟨g2, cap, e1⟩
    · injection e1 with e2; rw [e] at e2; cases e2
    · injection e1 with e2; rw [e] at e2; injection e2 with e2; injection e2 with e2 e3; subst e2; subst e3
      exact ⟨(h.ne _ e).1, hb.2, hb.1⟩
  obtain ⟨P1, P2⟩ := B.put i (by omega) es ea ec (HoldsEd.own h.o) (owns_none h.o) (fun fb fo e => ⟨(hea fb fo e).1, (hea fb fo e).2.1⟩)
  have hx : nrP (NL.getD i nr0) = grP (st1.getD i gn0) := by
    have h2 := congrArg (fun l => l[i]?) eq
    simp only [List.getElem?_map, List.getElem?_eq_getElem (show i < NL.length by omega), List.getElem?_eq_getElem hi, Option.map_some] at h2
    injection h2 with h2
    rw [List.getD_eq_getElem?_getD, List.getD_eq_getElem?_getD, List.getElem?_eq_getElem (show i < NL.length by omega), List.getElem?_eq_getElem hi]
    exact h2
  refine ⟨nc, q, by rw [← hnl]; exact B.c, ⟨_, h1⟩, fun k => B.o.frozenAt k, _, _, ⟨_, nc, _, P1, ?_⟩, h.sub, fun k hk => ?_, fun k hk => Or.inl (h.fup k hk), h.t.trans' P2 (fun k hk => by rw [hk]; exact h.sub q sq.1)⟩
  · rw [List.map_set, List.map_set, eq]
    congr 1
    unfold nrP grP at hx
    injection hx with hx1 hx2
    show ((NL.getD i nr0).rests, es) = (s, es)
    rw [hx1, hr]
  · rcases hk with hk | ⟨fo, hk⟩
    · exact h.fsub k hk
    · exact Or.inr (hea k fo hk).2.2
end Go.Proofs.YtbbholdadgjelaaGreat
/- graph: from a text on, in pieces: plain -/
namespace Go.Proofs.YtbbholdadgjelaaGreat
open Go.RowKit
set_option linter.unusedVariables false
set_option maxRecDepth 20000
def onS (ts : List Tx) (lo : Tx) : List Tx := ts.filter (fun t => !decide (cmpS t lo < 0))
theorem fromL_on (ts : List Tx) (lo : Tx) (most : Int) : fromL ts lo most = (onS ts lo).take most.toNat := rfl
theorem onS_len (ts : List Tx) (lo : Tx) : (onS ts lo).length ≤ ts.length := List.length_filter_le _ _
theorem onS_sorted {ts : List Tx} (h : SortedS ts) (lo : Tx) : SortedS (onS ts lo) := List.Pairwise.sublist List.filter_sublist h
theorem on_last {ts : List Tx} (h : SortedS ts) (lo : Tx) (i : Nat) (hi : i < (onS ts lo).length) : onS ts ((onS ts lo).getD i ByteArray.empty) = (onS ts lo).drop i := by
  obtain ⟨F, hF⟩ : ∃ F, onS ts lo = F := ⟨_, rfl⟩
  have hs := onS_sorted h lo
  rw [hF] at hi hs ⊢
  have hm : F.getD i ByteArray.empty ∈ F := getD_tx hi
  have hge : ¬ cmpS (F.getD i ByteArray.empty) lo < 0 := by
    rw [← hF] at hm ⊢
    have := (List.mem_filter.1 hm).2
    simpa using this
  obtain ⟨y, hy⟩ : ∃ y, F.getD i ByteArray.empty = y := ⟨_, rfl⟩
  rw [hy] at hge ⊢
  have e1 : onS ts y = F.filter (fun t => !decide (cmpS t y < 0)) := by
    rw [← hF]
    unfold onS
    rw [List.filter_filter]
    refine List.filter_congr fun t ht => ?_
    by_cases h1 : cmpS t y < 0
    · simp [h1]
    · have h2 : ¬ cmpS t lo < 0 := fun h2 => by
        have h3 : cmpS lo y < 0 ∨ lo = y := by
          rcases cmpS_bd y lo with e | e | e
          · omega
          · exact Or.inr (cmpS_zero.1 e).symm
          · left; rw [cmpS_swap]; omega
        rcases h3 with h3 | h3
        · exact h1 (cmpS_trans h2 h3)
        · exact h1 (h3 ▸ h2)
      simp [h1, h2]
  rw [e1]
  conv => lhs; rw [← List.take_append_drop i F]
  rw [List.filter_append]
  have d0 : F.drop i = y :: F.drop (i + 1) := by
    rw [List.drop_eq_getElem_cons hi, ← hy, List.getD_eq_getElem?_getD, List.getElem?_eq_getElem hi]; rfl
  have hp : SortedS (F.take i ++ F.drop i) := by rw [List.take_append_drop]; exact hs
  obtain ⟨-, hp2, hp3⟩ := List.pairwise_append.1 hp
  have e2 : (F.take i).filter (fun t => !decide (cmpS t y < 0)) = [] := by
    refine List.filter_eq_nil_iff.2 fun t ht => ?_
    have := hp3 t ht y (by rw [d0]; simp)
    simp [this]
  have e3 : (F.drop i).filter (fun t => !decide (cmpS t y < 0)) = F.drop i := by
    refine List.filter_eq_self.2 fun t ht => ?_
    rw [d0] at ht hp2
    rcases List.mem_cons.1 ht with rfl | ht
    · simp [cmpS_irrefl]
    · have := cmpS_asymm ((List.pairwise_cons.1 hp2).1 t ht)
      simpa using this
  rw [e2, e3, List.nil_append]
end Go.Proofs.YtbbholdadgjelaaGreat
/- the first rune's text, plain -/
namespace Go.Proofs.YtbbholdadgjelaaGreat
open Go.RowKit
set_option linter.unusedVariables false
set_option maxRecDepth 20000
theorem head_rst {t : Tx} (h : 0 ≤ lenS t) (h0 : 0 < t.size) : headS t ++ rstS t = t := text_rst h h0
theorem head_size {t : Tx} (h : 0 ≤ lenS t) (h0 : 0 < t.size) : (headS t).size = (Utf8.decode t 0).2 ∧ (headS t).size ≤ t.size ∧ 0 < (headS t).size := by
  have h1 := congrArg ByteArray.size (head_rst h h0)
  rw [ByteArray.size_append] at h1
  have h2 := rst_size h h0
  have h3 := (good_first h h0).2.1
  have h4 := decode_width t 0 h0
  omega
theorem head_cut {t : Tx} (h : 0 ≤ lenS t) (h0 : 0 < t.size) : t.extract (headS t).size t.size = rstS t := by rw [(head_size h h0).1]; rfl
theorem head_byte {t : Tx} (h : 0 ≤ lenS t) (h0 : 0 < t.size) (i : Nat) (hi : i < (headS t).size) : byteS t i = byteS (headS t) i := by
  conv => lhs; rw [← head_rst h h0]
  exact byteS_left _ _ _ hi
theorem head_lab {s t : Tx} (hs : 0 ≤ lenS s) (ht : 0 ≤ lenS t) (s0 : 0 < s.size) (t0 : 0 < t.size) : headS s = headS t ↔ labS s = labS t := by
  constructor
  · intro e
    have e1 := (ue_read_well s 0 s0 (good_first hs s0).1).1
    have e2 := (ue_read_well t 0 t0 (good_first ht t0).1).1
    have w1 := (head_size hs s0).1
    have w2 := (head_size ht t0).1
    have b : ∀ i, i < (Utf8.decode s 0).2 → byteS s i = byteS t i := fun i hi => by
      rw [head_byte hs s0 i (by omega), head_byte ht t0 i (by rw [← e]; omega), e]
    have ww : (Utf8.decode s 0).2 = (Utf8.decode t 0).2 := by rw [← w1, ← w2, e]
    unfold labS
    generalize (Utf8.decode s 0).1 = r1 at *
    generalize (Utf8.decode t 0).1 = r2 at *
    generalize (Utf8.decode s 0).2 = v1 at *
    generalize (Utf8.decode t 0).2 = v2 at *
    subst ww
    have b0 := b 0; have b1 := b 1; have b2 := b 2; have b3 := b 3
    simp only [Nat.zero_add] at e1 e2
    unfold Enc at e1 e2
    rcases e1 with ⟨rfl, p0, p⟩ | ⟨rfl, p0, p1, p⟩ | ⟨rfl, p0, p1, p2, p⟩ | ⟨rfl, p0, p1, p2, p3, p⟩
    · have := b0 (by omega)
      omega
    · have := b0 (by omega); have := b1 (by omega)
      omega
    · have := b0 (by omega); have := b1 (by omega); have := b2 (by omega)
      omega
    · have := b0 (by omega); have := b1 (by omega); have := b2 (by omega); have := b3 (by omega)
      omega
  · intro e
    unfold headS; rw [e]
theorem bod_same {l : List Tx} (h : ∀ t ∈ l, 0 < t.size) : bodS l = l := by
  unfold bodS finS
  cases l with
  | nil => rfl
  | cons a l =>
    have h1 := h a (by simp)
    have h2 : a ≠ (⟨#[]⟩ : ByteArray) := fun e => by rw [e] at h1; exact absurd h1 (by decide)
    simp [h2]
theorem bod_skip (l : List Tx) : bodS ((⟨#[]⟩ : ByteArray) :: l) = l := by
  unfold bodS finS; simp
/-- the run of one first rune -/
def runL (l : List Tx) : List Tx := l.takeWhile (fun t => decide (labS t = labS (l.getD 0 ByteArray.empty)))
theorem run_fol {l : List Tx} (h0 : l ≠ []) : (folS l).1 = labS (l.getD 0 ByteArray.empty) ∧ (folS l).2 = (runL l).map rstS ∧ (runL l).length = (folS l).2.length ∧ runL l = l.take (runL l).length := by
  cases l with
  | nil => exact absurd rfl h0
  | cons a l =>
    refine ⟨rfl, rfl, ?_, ?_⟩
    · show (runL (a :: l)).length = ((runL (a :: l)).map rstS).length
      rw [List.length_map]
    · exact (List.prefix_iff_eq_take.1 (List.takeWhile_prefix _))
theorem run_in {l : List Tx} {j : Nat} (hj : j < (runL l).length) : labS (l.getD j ByteArray.empty) = labS (l.getD 0 ByteArray.empty) ∧ j < l.length := by
  have hp : runL l <+: l := List.takeWhile_prefix _
  have hl := hp.length_le
  have h1 : (runL l)[j] ∈ runL l := List.getElem_mem hj
  have h2 := mem_tw (p := fun t => decide (labS t = labS (l.getD 0 ByteArray.empty))) h1
  have h3 : (runL l)[j] = l[j] := hp.getElem hj
  refine ⟨?_, by omega⟩
  rw [List.getD_eq_getElem?_getD, List.getElem?_eq_getElem (show j < l.length by omega)]
  rw [h3] at h2
  exact of_decide_eq_true h2
theorem run_end {l : List Tx} (hj : (runL l).length < l.length) : labS (l.getD (runL l).length ByteArray.empty) ≠ labS (l.getD 0 ByteArray.empty) := by
  have h1 := drop_tw (fun t => decide (labS t = labS (l.getD 0 ByteArray.empty))) l
  have h2 : l.drop (runL l).length = l.getD (runL l).length ByteArray.empty :: l.drop ((runL l).length + 1) := by
    rw [List.drop_eq_getElem_cons hj, List.getD_eq_getElem?_getD, List.getElem?_eq_getElem hj]; rfl
  unfold runL at h2
  rw [h1] at h2
  have h3 := dw_first _ _ _ _ h2
  exact of_decide_eq_false h3
end Go.Proofs.YtbbholdadgjelaaGreat
/- graph: a list that grows beside rows that stay -/
namespace Go.Proofs.YtbbholdadgjelaaGreat
open Go.RowKit
set_option linter.unusedVariables false
set_option maxRecDepth 20000
/-- a list of texts of the call's own; the blocks K are none of its -/
structure FS (B : Nat) (w0 : World) (K : Nat → Prop) (oa : Option Addr) (oc : Nat) (out : List Tx) (w : World) : Prop where
  o : w.ownsRow B 9 1 (.slice oa out.length oc) out.length (strsV out)
  no : ∀ q, oa = some ⟨q, 0, none⟩ → ¬ K q
  kl : ∀ k, K k → k < w.heap.size
  b : Below B w0 w
  bl : B ≤ w.heap.size
theorem FS.more {B : Nat} {w0 : World} {K : Nat → Prop} {oa : Option Addr} {oc : Nat} {out : List Tx} {w w' : World} (h : FS B w0 K oa oc out w) (hb : Below w.heap.size w w') : FS B w0 K oa oc out w' :=
  ⟨owns_below h.o hb, h.no, fun k hk => Nat.lt_of_lt_of_le (h.kl k hk) hb.size, h.b.trans (hb.mono h.bl), Nat.le_trans h.bl hb.size⟩
/-- rows made since stay too -/
theorem FS.keep {B : Nat} {w0 : World} {K L : Nat → Prop} {oa : Option Addr} {oc : Nat} {out : List Tx} {w : World} (h : FS B w0 K oa oc out w) (h1 : ∀ q, oa = some ⟨q, 0, none⟩ → ¬ L q) (h2 : ∀ k, L k → k < w.heap.size) : FS B w0 (fun k => K k ∨ L k) oa oc out w :=
  ⟨h.o, fun q e hk => hk.elim (h.no q e) (h1 q e), fun k hk => hk.elim (h.kl k) (h2 k), h.b, h.bl⟩
theorem FS.less {B : Nat} {w0 : World} {K L : Nat → Prop} {oa : Option Addr} {oc : Nat} {out : List Tx} {w : World} (h : FS B w0 K oa oc out w) (hl : ∀ k, L k → K k) : FS B w0 L oa oc out w :=
  ⟨h.o, fun q e hk => h.no q e (hl q hk), fun k hk => h.kl k (hl k hk), h.b, h.bl⟩
theorem FS.grow {B : Nat} {w0 : World} {K : Nat → Prop} {oa : Option Addr} {oc : Nat} {out : List Tx} {x : Tx} {w w6 : World} {q cap : Nat} {o : Obj} (h : FS B w0 K oa oc out w)
    (own : w6.ownsRow B 9 1 (.slice (some ⟨q, 0, none⟩) (out.length + 1) cap) (out.length + 1) (strsV out ++ [.string x]))
    (hg : (w.alloc o).grownBy w6 (Value.slice oa out.length oc).ownBlock) (hat : (Value.slice oa out.length oc).ownBlock = some q ∨ q = (w.alloc o).heap.size) :
    FS B w0 K (some ⟨q, 0, none⟩) cap (out ++ [x]) w6 ∧ Turn (fun k => oa = some ⟨k, 0, none⟩) w w6 := by
  have hza : (w.alloc o).heap.size = w.heap.size + 1 := by simp
  have hz6 := hg.size
  have old : ∀ k, k < w.heap.size → oa ≠ some ⟨k, 0, none⟩ → w6.heap[k]? = w.heap[k]? := fun k hk hn =>
    (hg.block k (by omega) (fun e => hn (gown_at h.o e))).trans (Below.heap_alloc _ _ _ (by omega))
  have t : Turn (fun k => oa = some ⟨k, 0, none⟩) w w6 := ⟨hg.os, hg.tape, hg.output, by omega, fun k hk hn => old k hk hn⟩
  have hlen : (out ++ [x]).length = out.length + 1 := by simp
  refine ⟨⟨by rw [hlen, strsV_snocG]; exact own, fun r hr hk => ?_, fun k hk => by have := h.kl k hk; omega, h.b.trans (t.below (fun k hk => (h.o.lt k (by rw [hk]; rfl)).1) h.bl), by have := h.bl; omega⟩, t⟩
  injection hr with hr; injection hr with hr; subst hr
  rcases hat with e | e
  · exact h.no q (gown_at h.o e.symm) hk
  · have := h.kl q hk; omega
theorem FS.start (w : World) : FS w.heap.size w (fun _ => False) none 0 [] w := ⟨World.ownsRow_nil _ _ _ _, fun q e => by (cases e), fun k hk => hk.elim, Below.refl _ _, Nat.le_refl _⟩
end Go.Proofs.YtbbholdadgjelaaGreat
/- the document's graph: a node more, its contract -/
namespace Go.Proofs.YtbbholdadgjelaaGreat
open Go.RowKit Go.Maps
set_option linter.unusedVariables false
set_option maxRecDepth 20000
theorem nodeR_info : (Tryz.prog.info? 125).map (fun i => (i.zero, i.size, i.bytes)) = some (some (.agg #[.slice none 0 0, .slice none 0 0]), 2, 48) := by kernel_rfl
theorem find_at {st : List GN} {s : List Tx} {i : Nat} (hi : i < st.length) (h : (st.getD i gn0).rests = s) (hn : ∀ k, k < i → (st.getD k gn0).rests ≠ s) : findG st s = some i := by
  unfold findG
  refine List.findIdx?_eq_some_iff_getElem.2 ⟨hi, ?_, fun j hj => ?_⟩
  · rw [List.getD_eq_getElem?_getD, List.getElem?_eq_getElem hi] at h
    exact decide_eq_true h
  · have h1 := hn j hj
    rw [List.getD_eq_getElem?_getD, List.getElem?_eq_getElem (show j < st.length by omega)] at h1
    simpa using h1
theorem find_not {st : List GN} {s : List Tx} (hn : ∀ k, k < st.length → (st.getD k gn0).rests ≠ s) : findG st s = none := by
  unfold findG
  rw [List.findIdx?_eq_none_iff]
  intro x hx
  obtain ⟨k, hk, rfl⟩ := List.getElem_of_mem hx
  have h1 := hn k hk
  rw [List.getD_eq_getElem?_getD, List.getElem?_eq_getElem hk] at h1
  simpa using h1
theorem take_txP2 (l : List Tx) (i : Nat) (h : i < l.length) : l.take (i + 1) = l.take i ++ [l.getD i ByteArray.empty] := by
  rw [List.take_add_one, List.getElem?_eq_getElem h, List.getD_eq_getElem?_getD, List.getElem?_eq_getElem h]; rfl
def AddP (g : Nat) (w : World) (S F : Nat → Prop) (r : Nat × List GN) (e : Ending) (w' : World) : Prop := e = .returned (.int .i64 r.1) ∧ PR g r.2 w S F w'
def AddAny (g f : Nat) : Prop := ∀ (st : List GN) (s : List Tx) (a : Option Addr) (cap : Nat) (S F : Nat → Prop) (w : World), RQ g st w S F → OkL f s → HoldsT w a s.length s → (0 < s.length → ∀ fb fo, a = some ⟨fb, fo, none⟩ → F fb) → s.length ≤ cap → st.length + wtS s + 1 ≤ 1000000 →
    Calls Tryz.prog 79 #[.pointer (some ⟨g, 0, none⟩), .slice a s.length cap] w (AddP g w S F (reachF (f + 1) st s))
set_option maxHeartbeats 6400000 in
set_option maxRecDepth 100000 in
theorem add_step (g f : Nat) (IH : ∀ f', f = f' + 1 → AddAny g f') : AddAny g f := by
  intro st s a cap S F w hQ hO hH hA hc hb
  obtain ⟨i0, hi, hz0, hz1, hz2⟩ := info_parts nodeR_info
  obtain ⟨j0, hj, hy0, hy1, hy2⟩ := info_parts edgeG_info
  obtain ⟨k0, hk, hx0, hx1, hx2⟩ := info_parts str_info
  have IHH := Lib.hid IH; have OK := Lib.hid hO; have HH := Lib.hid hH; have AF := Lib.hid hA; have QW := Lib.hid hQ
  obtain ⟨n, hn⟩ : ∃ n, s.length = n := ⟨_, rfl⟩
  have HN := Lib.hid hn
  rw [hn] at hH hc
  have hn100 : n ≤ 100 := by have := hO.n; omega
  obtain ⟨L, hL⟩ : ∃ L, st.length = L := ⟨_, rfl⟩
  have HL := Lib.hid hL
  have hL2 : L ≤ 1000000 := by omega
  have HWB := Lib.hid hb
  clear hQ hO hA IH hb hL
  clear hH
  rw [hn]
  clear hn
  go_enter Tryz.func79, Tryz.ntmps79
  go_wp2_with fail
  go_loopw [5] (fun iv wr => ∃ (j : Nat), j ≤ L ∧ iv = .int .i64 j ∧ Hid (∀ k, k < j → (st.getD k gn0).rests ≠ s) ∧ Hid (Below w.heap.size w wr)) (fun iv _ => L - (intOf iv).toNat)
  case atStart => exact ⟨0, by omega, rfl, Lib.hid (fun k hk => by omega), Lib.hid (Below.refl _ _)⟩
  case round =>
    obtain ⟨j, hj', rfl, hNo, hB⟩ := hrel
    have QR := Lib.hid (QW.out.below hB.out)
    obtain ⟨na, nc, NL, B, eq⟩ := QR.out
    have hnl : NL.length = L := by have := congrArg List.length eq; have h2 := HL.out; simp at this; omega
    have gc := B.c
    rw [hnl] at gc
    by_cases hlt : j < L
    · obtain ⟨q, rfl, v0, -⟩ := B.at (i := j) (by omega)
      have hxr := B.r _ (mem_nr (L := NL) (i := j) (by omega))
      have hxe : (NL.getD j nr0).rests = (st.getD j gn0).rests := by
        have h2 := congrArg (fun l => l[j]?) eq
        have h3 := HL.out
        simp only [List.getElem?_map, List.getElem?_eq_getElem (show j < NL.length by omega), List.getElem?_eq_getElem (show j < st.length by omega), Option.map_some] at h2
        injection h2 with h2
        rw [List.getD_eq_getElem?_getD, List.getD_eq_getElem?_getD, List.getElem?_eq_getElem (show j < NL.length by omega), List.getElem?_eq_getElem (show j < st.length by omega)]
        exact congrArg Prod.fst h2
      obtain ⟨x, hx⟩ : ∃ x, NL.getD j nr0 = x := ⟨_, rfl⟩
      rw [hx] at v0 hxr hxe
      obtain ⟨m, hm⟩ : ∃ m, x.rests.length = m := ⟨_, rfl⟩
      have h1 := hxr.1
      have h2 := hxr.2.1
      rw [hm] at h1 v0 h2
      obtain ⟨b, hb⟩ : ∃ b, decide (x.rests = s) = b := ⟨_, rfl⟩
      have CS := Lib.hid (same8_any x.ra a m x.rc n cap x.rests s wr h1 (by have := HH.out.below hB.out; rw [HN.out] at this; exact this) (by omega) (by omega))
      rw [hb] at CS
      have HB := Lib.hid hb
      have HXE := Lib.hid hxe
      have i1 : (0 : Int) ≤ (j : Int) := by omega
      have i2 : (j : Int) < (L : Int) := by omega
      clear hb hxe hx hm h1 hxr h2 B eq hnl
      cases b with
      | true =>
        go_wp2_with fail
        refine CS.out.mono ?_
        rintro e w1 ⟨rfl, mm, rfl⟩
        have FD := Lib.hid (show reachF (f + 1) st s = (j, st) from reach_found (find_at (by rw [HL.out]; exact hlt) (HXE.out ▸ of_decide_eq_true HB.out) hNo.out))
        go_wp2_with fail
        go_ret
        rw [FD.out]
        exact ⟨rfl, S, F, QR.out.below (below_drewN _ _), fun k hk => Or.inl hk, fun k hk => Or.inl hk, fun k hk => hk, Turn.of_below (hB.out.trans ((below_drewN wr mm).mono hB.out.size))⟩
      | false =>
        go_wp2_with fail
        refine CS.out.mono ?_
        rintro e w1 ⟨rfl, mm, rfl⟩
        have B2 := Lib.hid (hB.out.trans ((below_drewN wr mm).mono hB.out.size))
        go_wp2_with fail
        go_roundw
        case rel => exact ⟨j + 1, by omega, by go_num, Lib.hid (fun k hk => by
          rcases Nat.lt_or_ge k j with h | h
          · exact hNo.out k h
          · obtain rfl : k = j := by omega
            rw [← HXE.out]; exact of_decide_eq_false HB.out), B2⟩
        case measure => simp [intOf] <;> omega
    · obtain rfl : j = L := by omega
      have FD := Lib.hid (find_not (st := st) (s := s) (fun k hk => hNo.out k (by rw [HL.out] at hk; exact hk)))
      have ED := Lib.hid (show reachF (f + 1) st s = (st.length, (edgesF (reachF f) (bodS s).length (bodS s) [] (st ++ [⟨s, false, []⟩])).2.set st.length ⟨s, finS s, (edgesF (reachF f) (bodS s).length (bodS s) [] (st ++ [⟨s, false, []⟩])).1⟩) from by conv => lhs; unfold reachF; rw [FD.out])
      have HH1 := Lib.hid (HH.out.below hB.out)
      have BO := B.o
      rw [hnl] at BO
      have BW := Lib.hid B; have EQ := Lib.hid eq; have HNL := Lib.hid hnl; have OWN := Lib.hid BO
      have AB := Lib.hid (show ∀ o w', (wr.alloc o).grownBy w' (Value.slice na j nc).ownBlock → w'.cell? ⟨g, 0, none⟩ = some (.slice na j nc) ∧ w'.frozen? ⟨g, 0, none⟩ = false from fun o w' hg => by
        have lg := lt_of_cell gc
        have o2 := (hg.block g (by simp; omega) (fun e => (BW.out.sn g (gown_at OWN.out e)).2 rfl)).trans (Below.heap_alloc wr o g lg)
        exact ⟨(World.cell?_of_block (w := wr) o2).trans gc, (World.frozen?_of_block (w := wr) o2).trans (BW.out.f 0)⟩)
      clear B eq hnl BO hNo hlt
      go_wp2_with (at_builtin; refine wpList_append_lies _ rfl (.tmp 42) (.tmp 45) 121 rfl 0 125 i0 _ 2 48 Tryz.underlying121 hi hz0 hz1 hz2 rfl (by omega) (.slice na j nc) j (nrV NL) (by rfl) (OWN.out.alloc _) ⟨wr.heap.size, 0, none⟩ 1 1 [.slice a n cap, .slice none 0 0] (by rfl) (by rfl) (World.news_of_block (cs := #[.slice a n cap, .slice none 0 0]) (t := 125) (fr := (0, 0)) (heap_alloc_new wr _)) (by simp [Value.oneCell']) (by omega) (by unfold maxLen; omega) (by omega) (by omega) (wr.heap.size + 1) (by simp) ?_; intro g3 c3' w3 hown3 hgrow3 hat3 hlt3; obtain ⟨x0, x1⟩ := AB.out _ _ hgrow3)
      have HSZ := OK.out.n
      obtain ⟨S0, hR0⟩ : ∃ S0, RK g w S F (st ++ [⟨s, false, []⟩]) none 0 [] S0 F (w3.setCell ⟨g, 0, none⟩ (.slice (some ⟨g3, 0, none⟩) (j + 1) c3')) := by
        obtain ⟨G1, G2, G3⟩ := BW.out.grow (o := .cells #[.slice a n cap, .slice none 0 0] 125) (s := s) (ra := a) (rc := cap) HH1.out (by omega) AF.out (by rw [HNL.out, HN.out]; exact hown3) (by rw [HNL.out]; exact hgrow3) (by rw [HNL.out]; exact hat3.imp id (fun e => by simp; exact e)) hlt3
        rw [HNL.out] at G1 G2
        exact ⟨_, ⟨_, _, _, G1, by rw [List.map_append, List.map_append, EQ.out]; rfl⟩, fun k hk => by
          rcases hk with hk | hk
          · exact Or.inl hk
          · rcases G3 with e | e
            · exact Or.inl (by rw [hk]; exact e)
            · exact Or.inr (by rw [hk]; have := hB.out.size; omega), fun k hk => Or.inl hk, fun k hk => hk, (Turn.of_below hB.out).trans G2, World.ownsRow_nil _ _ _ _, fun k e => (by cases e)⟩
      have R0 := Lib.hid hR0
      clear hR0 hown3 hgrow3 hat3 hlt3 x0 x1 AB OWN BW EQ HNL gc QR HH1 FD
      generalize w3.setCell ⟨g, 0, none⟩ (.slice (some ⟨g3, 0, none⟩) (j + 1) c3') = w5 at *
      obtain ⟨R, hR⟩ : ∃ r, edgesF (reachF f) (bodS s).length (bodS s) [] (st ++ [⟨s, false, []⟩]) = r := ⟨_, rfl⟩
      rw [hR] at ED
      have HR := Lib.hid hR
      have HOK := Lib.hid (show OkL f (bodS s) ∧ ∀ t ∈ bodS s, 0 < t.size from ⟨OK.out.bod, bod_pos OK.out.ord⟩)
      have hbl : (bodS s).length ≤ 100 := HOK.out.1.n
      have HWT := Lib.hid (show (st ++ [(⟨s, false, []⟩ : GN)]).length + wtS (bodS s) ≤ 1000000 from by rw [List.length_append, List.length_singleton]; have := wt_bod s; have := HWB.out; omega)
      have HLT := Lib.hid (show j < (st ++ [(⟨s, false, []⟩ : GN)]).length from by rw [List.length_append, List.length_singleton, HL.out]; omega)
      have HRS := Lib.hid (show ((st ++ [(⟨s, false, []⟩ : GN)]).getD j gn0).rests = s from by rw [← HL.out]; simp [List.getD_eq_getElem?_getD])
      clear hR HSZ
      go_wp2_with fail
      go_loopw [7, 8] (fun ev iv wr => ∃ (i k : Nat) (l : List Tx) (es : List EdP) (st1 : List GN) (S1 F1 : Nat → Prop) (ea : Option Addr) (ec : Nat), i ≤ n ∧ ev = .slice ea es.length ec ∧ iv = .int .i64 i ∧ l.length ≤ k ∧ es.length + k ≤ 100 ∧ Hid (bodS (s.drop i) = l) ∧ Hid (edgesF (reachF f) k l es st1 = R) ∧ Hid (OkL f l ∧ ∀ t ∈ l, 0 < t.size) ∧ Hid (st1.length + wtS l ≤ 1000000) ∧ Hid (j < st1.length) ∧ Hid ((st1.getD j gn0).rests = s) ∧ Hid (RK g w S F st1 ea ec es S1 F1 wr)) (fun _ iv _ => n - (intOf iv).toNat)
      case atStart => exact ⟨0, (bodS s).length, bodS s, [], _, S0, F, none, 0, by omega, rfl, rfl, Nat.le_refl _, by simpa using hbl, Lib.hid (by rw [List.drop_zero]), HR, HOK, HWT, HLT, HRS, R0⟩
      case round =>
        clear R0 HOK HWT HLT HRS HR hbl
        obtain ⟨i, k, l, es, st1, S1, F1, ea, ec, hi', rfl, rfl, hlk, hek, hBD, hE, hOK, hWT, hLT, hRS, hRK⟩ := hrel
        rename World => wr
        have HA := Lib.hid (show HoldsT wr a n s from by
          have h1 := HH.out
          rw [HN.out] at h1
          exact holdsT_turn h1 hRK.out.t (fun h0 fb fo e => (QW.out.fl fb (AF.out (by rw [HN.out]; exact h0) fb fo e)).1))
        by_cases hin : i < n
        · obtain ⟨b, o, rfl, hcc⟩ := HA.out.at (by omega)
          have xc := hcc i hin
          obtain ⟨t, ht⟩ : ∃ t, s.getD i ByteArray.empty = t := ⟨_, rfl⟩
          rw [ht] at xc
          have i1 : (0 : Int) ≤ (i : Int) := by omega
          have i2 : (i : Int) < (n : Int) := by omega
          have SD := Lib.hid (show s.drop i = t :: s.drop (i + 1) from by
            rw [List.drop_eq_getElem_cons (by rw [HN.out]; exact hin), ← ht, List.getD_eq_getElem?_getD, List.getElem?_eq_getElem (by rw [HN.out]; exact hin)]; rfl)
          obtain ⟨zf, hzf⟩ : ∃ z, t.toList.isEmpty = z := ⟨_, rfl⟩
          have hzt2 : (t.toList == []) = zf := by rw [← hzf]; cases t.toList <;> rfl
          clear hcc ht
          cases zf with
          | true =>
            have ht0 : t = (⟨#[]⟩ : ByteArray) := (tx_nil t).2 (List.isEmpty_iff.1 hzf)
            have HBN := Lib.hid (show bodS (s.drop (i + 1)) = l from by
              have h1 := hBD.out
              rw [SD.out, ht0, bod_skip] at h1
              rw [h1]; exact bod_same hOK.out.2)
            clear ht0
            go_wp2_with fail
            go_roundw
            case rel => exact ⟨i + 1, k, l, es, st1, S1, F1, ea, ec, by omega, rfl, by go_num, hlk, hek, HBN, hE, hOK, hWT, hLT, hRS, hRK⟩
            case measure => simp [intOf] <;> omega
          | false =>
            have hls : l = t :: s.drop (i + 1) := by
              rw [← hBD.out, SD.out]
              unfold bodS finS
              have h2 : t ≠ (⟨#[]⟩ : ByteArray) := fun e => by rw [(tx_nil t).1 e] at hzf; cases hzf
              simp [h2]
            have LS := Lib.hid (show l = s.drop i from by rw [hls, SD.out])
            have hl0 : l ≠ [] := by rw [hls]; simp
            have hpos : 0 < l.length := List.length_pos_iff.2 hl0
            have htl : t ∈ l := by rw [hls]; simp
            have ht0 : l.getD 0 ByteArray.empty = t := by rw [hls]; rfl
            have tg := hOK.out.1.lo t htl
            have tp := hOK.out.2 t htl
            have tz := hOK.out.1.sz t htl
            obtain ⟨k, rfl⟩ : ∃ k', k = k' + 1 := ⟨k - 1, by omega⟩
            obtain ⟨f', rfl⟩ : ∃ f', f = f' + 1 := by
              refine ⟨f - 1, ?_⟩
              have h1 := rst_len tg tp
              have h2 := hOK.out.1.hi t htl
              omega
            have C := Lib.hid (IHH.out f' rfl)
            have HFL := Lib.hid (fol_len l hl0)
            have HWF := Lib.hid (wt_fol hl0 hOK.out.1.lo hOK.out.2)
            have OKF := Lib.hid (hOK.out.1.fol hOK.out.2)
            have RF := Lib.hid (run_fol hl0)
            have RIN := Lib.hid (fun (m : Nat) (hm : m < (runL l).length) => run_in hm)
            have REN := Lib.hid (fun (h : (runL l).length < l.length) => run_end h)
            rw [ht0] at RF RIN REN
            have hEE := hE.out
            unfold edgesF at hEE
            rw [if_neg hl0] at hEE
            obtain ⟨⟨lab, rs⟩, hfo⟩ : ∃ r, folS l = r := ⟨_, rfl⟩
            rw [hfo] at hEE HFL HWF OKF RF
            obtain ⟨⟨ix, st2⟩, hre⟩ : ∃ r, reachF (f' + 1) st1 rs = r := ⟨_, rfl⟩
            simp only at hEE
            rw [hre] at hEE
            have HE := Lib.hid hEE
            have HRE := Lib.hid hre
            have RLN := Lib.hid (reach_len f' st1 rs OKF.out)
            rw [hre] at RLN
            obtain ⟨D, hD⟩ : ∃ D, rs.length = D := ⟨_, rfl⟩
            simp only at RF HFL HWF
            rw [hD] at RF HFL HWF HE
            have HD := Lib.hid hD
            have HLAB := Lib.hid (show lab = labS t from RF.out.1)
            have hDl := HFL.out
            have hln : l.length = n - i := by rw [LS.out, List.length_drop, HN.out]
            have CR := Lib.hid (r1runesq_any t wr (by omega))
            have CP := Lib.hid (fun w' => rprefix_one t w' (by omega) tg tp)
            have TG := Lib.hid tg; have HT0 := Lib.hid ht0
            have KR := Lib.hid (show 1 ≤ (runesS t).length ∧ (runesS t).getD 0 0 = labS t from by rw [rst_runes tg tp]; simp)
            clear hEE hre hE hfo hD hls hl0 htl ht0 tg tp tz hzf xc
            have RSE := Lib.hid (show rs = (l.take D).map rstS from by rw [RF.out.2.1, RF.out.2.2.2, RF.out.2.2.1])
            have RIN2 := Lib.hid (show ∀ m, m < D → labS (l.getD m ByteArray.empty) = labS t from fun m hm => (RIN.out m (by rw [RF.out.2.2.1]; exact hm)).1)
            have REN2 := Lib.hid (show D < l.length → labS (l.getD D ByteArray.empty) ≠ labS t from fun h => by have h1 := REN.out (by rw [RF.out.2.2.1]; exact h); rwa [RF.out.2.2.1] at h1)
            clear RIN REN RF
            have LC := Lib.hid (show ∀ (m : Nat), i + m < n → ∀ w', Below wr.heap.size wr w' → w'.cell? ⟨b, o + (i + m), none⟩ = some (.string (l.getD m ByteArray.empty)) from fun m hm w' hb => by
              obtain ⟨b', o', e, hcc⟩ := (HA.out.below hb).at (by omega)
              injection e with e; injection e with e1 e2; subst e1; subst e2
              rw [hcc (i + m) hm, LS.out]
              simp [List.getD_eq_getElem?_getD])
            have x0 := LC.out 0 (by omega) wr (Below.refl _ _)
            rw [HT0.out, Nat.add_zero] at x0
            obtain ⟨hd, hhd⟩ : ∃ h, headS t = h := ⟨_, rfl⟩
            rw [hhd] at CP
            have HHD := Lib.hid hhd
            have hds : hd.size ≤ t.size := by rw [← hhd]; exact (head_size TG.out (hOK.out.2 t (by rw [LS.out, SD.out]; simp))).2.1
            clear hhd
            go_wp2_with fail
            refine CR.out.mono ?_
            rintro e w6 (⟨h1, la, lc, rfl, h2, h3⟩ | ⟨h1, rfl, h3⟩)
            rotate_left
            · exact absurd TG.out (by omega)
            obtain ⟨kr, hkr⟩ : ∃ x, (runesS t).length = x := ⟨_, rfl⟩
            have KR1 := KR.out.1
            have HI : HoldsI .i32 w6 la kr (intsN (runesS t)) := by rw [← hkr]; exact holdsI_own h2
            rw [hkr] at KR1
            obtain ⟨lb, lo, rfl, hlc⟩ := HI.at (by omega)
            have lcell := hlc 0 (by omega)
            rw [show (intsN (runesS t)).getD 0 0 = (lab : Int) from by
              rw [HLAB.out, ← KR.out.2]
              simp [intsN, List.getD_eq_getElem?_getD, List.getElem?_eq_getElem (show 0 < (runesS t).length by omega)]] at lcell
            have LBS := Lib.hid (show ¬ S1 lb from fun hk => by have := hRK.out.q.lt lb hk; have := (own_blockG h2 rfl).1; omega)
            have R6 := Lib.hid (hRK.out.more h3)
            have B6 := Lib.hid h3
            have LC6 := Lib.hid lcell
            rw [hkr]
            clear h1 h2 h3 HI hlc lcell hkr x0 CR
            have x1 := LC.out 0 (by omega) w6 B6.out
            rw [HT0.out, Nat.add_zero] at x1
            go_wp2_with fail
            refine (CP.out w6).mono ?_
            rintro e w7 ⟨rfl, hb⟩
            have R7 := Lib.hid (R6.out.more hb)
            have B7 := Lib.hid (B6.out.trans (hb.mono B6.out.size))
            have LC7 := Lib.hid ((hb.cell (p := ⟨lb, lo + 0, none⟩) (lt_of_cell LC6.out)).trans LC6.out)
            clear hb x1 R6 LC6 B6
            go_wp2_with fail
            go_loopw [8, 12] (fun iv bv wq => ∃ (m : Nat) (oa : Option Addr) (oc on : Nat) (out : List Tx), m ≤ D ∧ on = out.length ∧ iv = .int .i64 ((i + m : Nat) : Int) ∧ bv = .slice oa on oc ∧ Hid (out = (l.take m).map rstS) ∧ Hid (FS w7.heap.size w7 (fun _ => False) oa oc out wq)) (fun iv _ _ => n - (intOf iv).toNat)
            case atStart => exact ⟨0, none, 0, 0, [], by omega, rfl, by simp, rfl, Lib.hid (by simp), Lib.hid (FS.start w7)⟩
            case round =>
              obtain ⟨m, oa, oc, on, out, hm, hon, rfl, rfl, hO, hF⟩ := hrel
              rename World => wq
              obtain ⟨zc, hzc⟩ : ∃ z, decide (m < D) = z := ⟨_, rfl⟩
              have HZC := Lib.hid hzc
              have BQ := Lib.hid (B7.out.trans (hF.out.b.mono B7.out.size))
              have HON := Lib.hid hon
              clear hzc hon
              go_upto_region 16 with fail
              go_cut [85] (fun u wd => u = .bool zc ∧ Hid (Below wq.heap.size wq wd))
              case first =>
                by_cases hlt : i + m < n
                · have d1 : decide ((i : Int) + (m : Int) < (n : Int)) = true := decide_eq_true (by omega)
                  have d2 : decide (i + m < n) = true := decide_eq_true hlt
                  have hml : m < l.length := by omega
                  obtain ⟨t', ht'⟩ : ∃ x, l.getD m ByteArray.empty = x := ⟨_, rfl⟩
                  have htm : t' ∈ l := by rw [← ht']; exact getD_tx hml
                  have x2 := LC.out m hlt wq BQ.out
                  rw [ht'] at x2
                  have tg' := hOK.out.1.lo t' htm
                  have tp' := hOK.out.2 t' htm
                  have tz' := hOK.out.1.sz t' htm
                  have CP' := Lib.hid (rprefix_one t' wq (by omega) tg' tp')
                  obtain ⟨hd', hhd'⟩ : ∃ h, headS t' = h := ⟨_, rfl⟩
                  have hz : (hd'.toList == hd.toList) = zc := by
                    have tp := hOK.out.2 t (by rw [LS.out, SD.out]; simp)
                    have h1 := head_lab (s := t') (t := t) tg' TG.out tp' tp
                    rw [hhd', HHD.out] at h1
                    rw [← HZC.out]
                    by_cases hmD : m < D
                    · rw [decide_eq_true hmD, h1.2 (by rw [← ht']; exact RIN2.out m hmD)]; exact str_same _
                    · obtain rfl : m = D := by omega
                      rw [decide_eq_false hmD]
                      exact str_other (fun e => REN2.out hml (by rw [ht']; exact h1.1 e))
                  rw [hhd'] at CP'
                  clear hhd' ht' htm tg' tp' tz'
                  go_wp2_with fail
                  refine CP'.out.mono ?_
                  rintro e w8 ⟨rfl, hb⟩
                  go_wp2_with fail
                  go_meet
                  exact ⟨rfl, Lib.hid hb⟩
                · have d1 : decide ((i : Int) + (m : Int) < (n : Int)) = false := decide_eq_false (by omega)
                  have d2 : decide (i + m < n) = false := decide_eq_false hlt
                  obtain rfl : zc = false := by rw [← HZC.out]; exact decide_eq_false (by omega)
                  go_wp2_with fail
                  go_meet
                  exact ⟨rfl, Lib.hid (Below.refl _ _)⟩
              case rest =>
                obtain ⟨rfl, hBq⟩ := hcut
                rename World => w9
                have F9 := Lib.hid (hF.out.more hBq.out)
                have B9 := Lib.hid (BQ.out.trans (hBq.out.mono BQ.out.size))
                clear hF hBq BQ
                cases zc with
                | true =>
                  have hmD : m < D := of_decide_eq_true HZC.out
                  have hml : m < l.length := by omega
                  have hlt : i + m < n := by omega
                  obtain ⟨t', ht'⟩ : ∃ x, l.getD m ByteArray.empty = x := ⟨_, rfl⟩
                  have x3 := LC.out m hlt w9 B9.out
                  rw [ht'] at x3
                  have htm : t' ∈ l := by rw [← ht']; exact getD_tx hml
                  have tg' := hOK.out.1.lo t' htm
                  have tp' := hOK.out.2 t' htm
                  have tz' := hOK.out.1.sz t' htm
                  have tp := hOK.out.2 t (by rw [LS.out, SD.out]; simp)
                  have hh' : headS t' = hd := by rw [← HHD.out]; exact (head_lab tg' TG.out tp' tp).2 (by rw [← ht']; exact RIN2.out m hmD)
                  have hsz' := (head_size tg' tp').2.1
                  rw [hh'] at hsz'
                  have HCUT := Lib.hid (show t'.extract hd.size t'.size = rstS t' from by rw [← hh']; exact head_cut tg' tp')
                  have HNX := Lib.hid (show out ++ [rstS t'] = (l.take (m + 1)).map rstS from by rw [take_txP2 l m hml, ht', List.map_append, hO.out]; rfl)
                  have hs1 : (hd.size : Int) ≤ (t'.size : Int) := by omega
                  have i3 : (0 : Int) ≤ ((i + m : Nat) : Int) := by omega
                  have i4 : ((i + m : Nat) : Int) < (n : Int) := by omega
                  have i5 : (0 : Int) ≤ (i : Int) + (m : Int) := by omega
                  have i6 : (i : Int) + (m : Int) < (n : Int) := by omega
                  have hbl := F9.out.bl
                  have hol : out.length ≤ 100 := by rw [hO.out, List.length_map, List.length_take]; omega
                  have hon := HON.out
                  subst hon
                  clear ht' htm tg' tp' tp hh'
                  go_wp2_with (at_builtin; refine wpList_append_lies _ rfl (.tmp 86) (.tmp 94) 22 rfl w7.heap.size 9 k0 _ 1 16 Tryz.underlying22 hk hx0 hx1 hx2 rfl (by omega) (.slice oa out.length oc) out.length (strsV out) (by rfl) (F9.out.o.alloc _) ⟨w9.heap.size, 0, none⟩ 1 1 [.string (t'.extract hd.size t'.size)] (by rfl) (by rfl) (World.news_of_block (cs := #[.string (t'.extract hd.size t'.size)]) (t := 9) (fr := (0, 0)) (heap_alloc_new w9 _)) (by simp [Value.oneCell']) (by omega) (by unfold maxLen; omega) (by omega) (by simp; omega) (w9.heap.size + 1) (by simp) ?_; intro g4 c4 w8 hown4 hgrow4 hat4 hlt4; have GR := Lib.hid (F9.out.grow hown4 hgrow4 (hat4.imp id (fun e => by simp; exact e))); clear hown4 hgrow4 hat4 hlt4)
                  rw [HCUT.out] at GR
                  go_roundw
                  case rel => exact ⟨m + 1, some ⟨g4, 0, none⟩, c4, out.length + 1, out ++ [rstS t'], by omega, by simp, by go_num, rfl, HNX, Lib.hid GR.out.1⟩
                  case measure => simp [intOf] <;> omega
                | false =>
                  have hmD : m = D := by have := of_decide_eq_false HZC.out; omega
                  subst hmD
                  obtain rfl : out = rs := hO.out.trans RSE.out.symm
                  have hon := HON.out
                  subst hon
                  have R9 := Lib.hid (R7.out.more (w' := w9) (by
                    have h1 := F9.out.b
                    exact h1))
                  have ROWS := Lib.hid (show ∀ k, (∃ fo, oa = some ⟨k, fo, none⟩) → ¬ S1 k ∧ k < w9.heap.size ∧ w.heap.size ≤ k ∧ ea ≠ some ⟨k, 0, none⟩ from fun k hk => by
                    obtain ⟨fo, e⟩ := hk
                    have h1 := own_blockG F9.out.o e
                    have h2 := R7.out.t.size
                    exact ⟨fun h => by have := R7.out.q.lt k h; omega, h1.2, by omega, fun e2 => by have := (R7.out.o.lt k (by rw [e2]; rfl)).2; omega⟩)
                  have R9d := Lib.hid ((R9.out.rows _ ROWS.out).more (Below.refl w9.heap.size w9).drew)
                  have C6 := Lib.hid (C.out st1 out oa oc S1 _ w9.drew R9d.out.q OKF.out ((HoldsT.own F9.out.o).below (Below.refl _ _).drew) (fun h0 fb fo e => Or.inr ⟨fo, e⟩) (owns_none F9.out.o).2 (by have := hWT.out; have := HWF.out; omega))
                  rw [HRE.out] at C6
                  have y0 : w9.drew.cell? ⟨lb, lo, none⟩ = some (.int .i32 (lab : Int)) := by
                    have h1 := (F9.out.b.cell (p := ⟨lb, lo + 0, none⟩) (lt_of_cell LC7.out)).trans LC7.out
                    rw [Nat.add_zero] at h1; exact h1
                  have hes : es.length ≤ 100 := by omega
                  have kr1 : (0 : Int) < (kr : Int) := by omega
                  have kr2 : 0 < kr := by omega
                  go_upto_region 19 with fail
                  go_region_law
                    (first
                      | (refine step_append_lies _ (by rfl) _ _ _ (by rfl) w.heap.size 116 j0 _ 2 16 Tryz.underlying112 hj hy0 hy1 hy2 rfl (by omega) (.slice ea es.length ec) es.length (edsV es) (by first | rfl | (simp [Act.eval]; done) | simp [Act.eval, Act.put]) (hR10.o.alloc _) ⟨w10.heap.size, 0, none⟩ 1 1 [.int .i32 (lab : Int), .int .i64 (ix : Int)] (by first | rfl | (simp [Act.eval]; done) | simp [Act.eval, Act.put]) (by rfl) (World.news_of_block (cs := #[.int .i32 (lab : Int), .int .i64 (ix : Int)]) (t := 116) (fr := (0, 0)) (heap_alloc_new w10 _)) (by simp [Value.oneCell']) (by omega) (by unfold maxLen; omega) (by omega) (by have := hR10.t.size; simp; omega) (w10.heap.size + 1) (by simp) ?_; intro g4 c4 w8 hown8 hgrow8 hat8 hlt8)
                      | (go_simp; go_at_call 79; (with_reducible refine C6.out.mono ?_); rintro e w10 ⟨rfl, hPO⟩; obtain ⟨S2, F2, hR10⟩ := R9d.out.step hPO; have y1 := (show w10.cell? ⟨lb, lo, none⟩ = some (.int .i32 (lab : Int)) from by (obtain ⟨_, _, _, _, _, _, t2⟩ := hPO; exact (t2.cell (lt_of_cell y0) LBS.out).trans y0))))
                  all_goals
                    have RN := Lib.hid (hR10.edge (x := ⟨(lab : Int), (ix : Int)⟩) hown8 hgrow8 (hat8.imp id (fun e => by simp; exact e))).1
                    have DRP := Lib.hid (show bodS (s.drop (i + m)) = l.drop m from by
                      have h1 : s.drop (i + m) = l.drop m := by rw [LS.out, List.drop_drop]
                      rw [h1]; exact bod_same (fun u hu => hOK.out.2 u (List.mem_of_mem_drop hu)))
                    have RSN := Lib.hid (show (st2.getD j gn0).rests = s from by rw [← hRS.out]; have := reach_rests f' st1 out OKF.out j hLT.out; rw [HRE.out] at this; exact this)
                    clear hown8 hgrow8 hat8 hlt8 hR10 y1 y0
                    go_wp2_with fail
                    go_roundw
                    case rel => exact ⟨i + m, by omega, k, l.drop m, es ++ [⟨(lab : Int), (ix : Int)⟩], st2, S2, F2, some ⟨g4, 0, none⟩, c4, ⟨rfl, by simp, rfl⟩, by omega, by rw [List.length_drop]; omega, by simp; omega, DRP, HE, Lib.hid ⟨hOK.out.1.drop _, fun t ht => hOK.out.2 t (List.mem_of_mem_drop ht)⟩, Lib.hid (by have := hWT.out; have := HWF.out; have := RLN.out; omega), Lib.hid (by have := hLT.out; have := RLN.out; omega), Lib.hid (by have := RSN.out; rwa [List.getD_eq_getElem?_getD] at this), RN⟩
                    case measure => simp [intOf] <;> omega
        · obtain rfl : i = n := by omega
          have hl : l = [] := by rw [← hBD.out, List.drop_of_length_le (by rw [HN.out]; omega)]; rfl
          subst hl
          have HRR := Lib.hid (show R = (es, st1) from by
            rw [← hE.out]
            cases k with
            | zero => rfl
            | succ k => unfold edgesF; rw [if_pos rfl])
          obtain ⟨nc1, q, gc, ⟨v, hv⟩, hqf, hPO⟩ := hRK.out.target j hLT.out s hRS.out (finS s)
          have f1 := hqf (j * 2 + 1)
          have i1 : (0 : Int) ≤ (j : Int) := by omega
          have i2 : (j : Int) < (st1.length : Int) := by have := hLT.out; omega
          have FIN := Lib.hid hPO
          clear hPO hqf
          go_wp2_with fail
          go_ret
          rw [ED.out, HRR.out, HL.out]
          exact ⟨rfl, FIN.out⟩
theorem add_any (g : Nat) : ∀ f, AddAny g f := by
  intro f
  induction f with
  | zero => exact add_step g 0 (fun f' e => by omega)
  | succ f ih => exact add_step g (f + 1) (fun f' e => by obtain rfl : f = f' := by omega
                                                          exact ih)
end Go.Proofs.YtbbholdadgjelaaGreat
/- the document's graph: Build, Final, Edges, Next, From -/
namespace Go.Proofs.YtbbholdadgjelaaGreat
open Go.RowKit
set_option linter.unusedVariables false
set_option maxRecDepth 20000
theorem RQ.node {g : Nat} {st : List GN} {w : World} {S F : Nat → Prop} (h : RQ g st w S F) {k : Nat} (hk : k < st.length) : ∃ q nc ra rc ea ec, w.cell? ⟨g, 0, none⟩ = some (.slice (some ⟨q, 0, none⟩) st.length nc) ∧
    w.cell? ⟨q, k * 2, none⟩ = some (.slice ra (st.getD k gn0).rests.length rc) ∧ w.cell? ⟨q, k * 2 + 1, none⟩ = some (.slice ea (st.getD k gn0).edges.length ec) ∧ HoldsT w ra (st.getD k gn0).rests.length (st.getD k gn0).rests ∧ HoldsEd w ea (st.getD k gn0).edges.length (st.getD k gn0).edges ∧ (ea = none → (st.getD k gn0).edges.length = 0 ∧ ec = 0) := by
  obtain ⟨na, nc, NL, B, eq⟩ := h
  obtain ⟨hl, hx⟩ := B.len eq
  obtain ⟨q, rfl, c0, c1⟩ := B.at (i := k) (by omega)
  have hm := mem_nr (L := NL) (i := k) (by omega)
  have he := B.e _ hm
  have hr := B.r _ hm
  obtain ⟨x1, x2⟩ := hx k hk
  refine ⟨q, nc, (NL.getD k nr0).ra, (NL.getD k nr0).rc, (NL.getD k nr0).ea, (NL.getD k nr0).ec, by rw [← hl]; exact B.c, by rw [← x1]; exact c0, by rw [← x2]; exact c1, by rw [← x1]; exact hr.1, by rw [← x2]; exact he.1, by rw [← x2]; exact he.2.1.1⟩
theorem RQ.len {g : Nat} {st : List GN} {w : World} {S F : Nat → Prop} (h : RQ g st w S F) : ∃ na nc, w.cell? ⟨g, 0, none⟩ = some (.slice na st.length nc) := by
  obtain ⟨na, nc, NL, B, eq⟩ := h
  obtain ⟨hl, hx⟩ := B.len eq
  exact ⟨na, nc, by rw [← hl]; exact B.c⟩
structure CtxR (w0 w : World) (g : Nat) (st : List GN) (S F : Nat → Prop) : Prop where
  Q : RQ g st w S F
  s : ∀ k, S k → w0.heap.size ≤ k
  b : Below w0.heap.size w0 w
theorem CtxR.more {w0 w w' : World} {g : Nat} {st : List GN} {S F : Nat → Prop} (c : CtxR w0 w g st S F) (hb : Below w.heap.size w w') : CtxR w0 w' g st S F :=
  ⟨c.Q.below hb, c.s, c.b.trans (hb.mono c.b.size)⟩
theorem rbuild_bad (a : Option Addr) (n cap : Nat) (ts : List Tx) (v : Int) (w : World) (hh : HoldsT w a n ts) (hn : n ≤ 9223372036854775807) (hs : ∀ t ∈ ts, t.size ≤ 1048576) (hv : goodV ts = v) (h0 : v ≠ 0) :
    Calls Tryz.prog 63 #[.slice a n cap] w fun e w' => e = .returned (.tuple #[.pointer none, .int .i64 v]) ∧ Below w.heap.size w w' := by
  have CG := Lib.hid (rgood_any a n cap ts w hh hn hs)
  rw [hv] at CG
  have hne : (v != 0) = true := by simpa using h0
  clear hh hs hv h0
  go_enter Tryz.func63, Tryz.ntmps63
  go_wp2_with fail
  refine CG.out.mono ?_
  rintro e w1 ⟨rfl, hb⟩
  have B1 := Lib.hid hb
  clear hb
  go_wp2_with fail
  go_ret2
  exact ⟨rfl, B1.out⟩
set_option maxHeartbeats 800000 in
theorem rbuild_good {w0 : World} (a : Option Addr) (n cap : Nat) (ts : List Tx) (st : List GN) (w : World) (hw : Below w0.heap.size w0 w) (hh : HoldsT w a n ts) (hc : n ≤ cap) (hn : n ≤ 9223372036854775807) (hs : ∀ t ∈ ts, t.size ≤ 100) (hv : goodV ts = 0) (hst : grS ts = st) :
    Calls Tryz.prog 63 #[.slice a n cap] w fun e w' => ∃ g S F, e = .returned (.tuple #[.pointer (some ⟨g, 0, none⟩), .int .i64 0]) ∧ CtxR w0 w' g st S F ∧ Below w.heap.size w w' := by
  subst hst
  have CG := Lib.hid (rgood_any a n cap ts w hh hn (fun t ht => by have := hs t ht; omega))
  rw [hv] at CG
  have OK := Lib.hid (ok_good hv hs)
  have WT := Lib.hid (show ([] : List GN).length + wtS ts + 1 ≤ 1000000 from by have h1 := wt_good ts OK.out.hi; have h2 := OK.out.n; simp; omega)
  have HL := hh.len
  have HH := Lib.hid hh
  have BW := Lib.hid hw
  clear hh hs hv hw
  subst HL
  go_enter Tryz.func63, Tryz.ntmps63
  go_wp2_with fail
  refine CG.out.mono ?_
  rintro e w1 ⟨rfl, hb⟩
  have B1 := Lib.hid hb
  have H1 := Lib.hid (HH.out.below hb)
  clear hb CG
  have B2 := Lib.hid (below_one w1 (.cells #[.slice none 0 0] 123))
  have Q2 := Lib.hid (show RQ w1.heap.size [] (w1.alloc (.cells #[.slice none 0 0] 123)) (fun k => k = w1.heap.size) (fun k => 0 < ts.length ∧ ∃ fo, a = some ⟨k, fo, none⟩) from
    ⟨none, 0, [], ⟨by rw [cell_alloc rfl]; rfl, fun i => frozen_alloc rfl, World.ownsRow_nil _ _ _ _, fun x hx => by simp at hx, fun x hx => by simp at hx, rfl, fun q e => (by cases e), fun k hk => (by rw [hk]; simp), fun k hk => by
      obtain ⟨h0, fo, e⟩ := hk
      obtain ⟨b, o, e2, hcc⟩ := H1.out.at h0
      rw [e] at e2
      injection e2 with e2; injection e2 with e2 e3
      have h1 := lt_of_cell (hcc 0 h0)
      subst e2
      have h2 : k < w1.heap.size := h1
      exact ⟨fun e4 => by omega, by simp; omega⟩⟩, rfl⟩)
  have CA := Lib.hid (add_any w1.heap.size 12 [] ts a cap _ _ _ Q2.out OK.out (H1.out.below B2.out) (fun h0 fb fo e => ⟨h0, fo, e⟩) hc WT.out)
  clear H1 HH hc
  go_wp2_with fail
  refine CA.out.mono ?_
  rintro e w3 ⟨rfl, S, F, hq, hs, hf, hu, ht⟩
  have FIN := Lib.hid (show CtxR w0 w3 w1.heap.size (grS ts) S F ∧ Below w.heap.size w w3 from by
    have hz := B1.out.size
    have hz0 := BW.out.size
    have hB3 : Below w.heap.size w w3 := (B1.out.trans (B2.out.mono hz)).trans (ht.below (fun k hk => by rw [hk]; exact hz) (Nat.le_trans hz B2.out.size))
    refine ⟨⟨hq, fun k hk => ?_, BW.out.trans (hB3.mono hz0)⟩, hB3⟩
    rcases hs k hk with h | h
    · rw [h]; omega
    · have := B2.out.size; omega)
  clear hq hs hf hu ht CA Q2 WT
  go_wp2_with fail
  go_ret2
  exact ⟨_, S, F, rfl, FIN.out.1, FIN.out.2⟩
set_option maxHeartbeats 800000 in
theorem rFinal_any (g : Nat) (st : List GN) (S F : Nat → Prop) (n : Int) (w : World) (h : RQ g st w S F) (hf : ∀ x ∈ st, x.final = finS x.rests) : Calls Tryz.prog 81 #[.pointer (some ⟨g, 0, none⟩), .int .i64 n] w fun e w' => e = .returned (.bool (finG st n)) ∧ w = w' := by
  by_cases h0 : n < 0
  · have e : finG st n = false := by unfold finG hasG; rw [decide_eq_false (by omega)]; rfl
    have d1 : decide (n ≥ (0 : Int)) = false := decide_eq_false (by omega)
    have E := Lib.hid e
    clear e
    go_enter Tryz.func81, Tryz.ntmps81
    go_wp2_with fail
    go_ret
    rw [E.out]
    exact ⟨rfl, rfl⟩
  obtain ⟨k, rfl⟩ : ∃ k : Nat, n = (k : Int) := ⟨n.toNat, by omega⟩
  have d1 : decide ((k : Int) ≥ (0 : Int)) = true := decide_eq_true (by omega)
  by_cases hk : k < st.length
  · obtain ⟨q, nc, ra, rc, ea, ec, c0, c1, c2, c3, c4, -⟩ := h.node hk
    have hx : st.getD k gn0 ∈ st := by rw [List.getD_eq_getElem?_getD, List.getElem?_eq_getElem hk]; simp
    have e : finG st (k : Int) = finS (st.getD k gn0).rests := by
      unfold finG hasG; rw [decide_eq_true (by omega), Int.toNat_natCast, hf _ hx]; rfl
    obtain ⟨l, hl⟩ : ∃ l, (st.getD k gn0).rests = l := ⟨_, rfl⟩
    rw [hl] at c1 c3 e
    have d2 : decide ((k : Int) < (st.length : Int)) = true := decide_eq_true (by omega)
    have i1 : (0 : Int) ≤ (k : Int) := by omega
    have i2 : (k : Int) < (st.length : Int) := by omega
    have E := Lib.hid e
    clear e hl hx c2 c4 h hf h0
    rcases Nat.eq_zero_or_pos l.length with hz | hz
    · have hl0 : l = [] := List.eq_nil_of_length_eq_zero hz
      subst hl0
      simp only [List.length_nil] at c1
      go_enter Tryz.func81, Tryz.ntmps81
      go_wp2_with fail
      go_ret
      rw [E.out]
      exact ⟨rfl, rfl⟩
    · obtain ⟨b, o, rfl, hc⟩ := c3.at hz
      have x0 := hc 0 hz
      obtain ⟨t, ht⟩ : ∃ t, l.getD 0 ByteArray.empty = t := ⟨_, rfl⟩
      rw [ht, Nat.add_zero] at x0
      have d3 : decide ((l.length : Int) > (0 : Int)) = true := decide_eq_true (by omega)
      have i3 : (0 : Int) < (l.length : Int) := by omega
      obtain ⟨zf, hzf⟩ : ∃ z, t.toList.isEmpty = z := ⟨_, rfl⟩
      have hzt2 : (t.toList == []) = zf := by rw [← hzf]; cases t.toList <;> rfl
      have hfz : finS l = zf := by
        rw [← hzf]
        have hs2 : l.head? = some t := by
          cases hs3 : l with
          | nil => rw [hs3] at hz; simp at hz
          | cons t' l' => rw [hs3] at ht; simp at ht; simp [ht]
        unfold finS
        rw [hs2, Bool.eq_iff_iff]
        simp only [decide_eq_true_eq, List.isEmpty_iff]
        constructor
        · intro h; exact (tx_nil t).1 (by injection h)
        · intro h; rw [(tx_nil t).2 h]
      have EZ := Lib.hid (show finG st (k : Int) = zf from by rw [E.out, hfz])
      clear hfz ht hc c3 E
      generalize l.length = m at *
      go_enter Tryz.func81, Tryz.ntmps81
      go_wp2_with fail
      go_ret
      rw [EZ.out]
      exact ⟨by first | rfl | (rw [hzt2]; rfl) | (rw [hzf]; rfl) | rw [hzt2] | rw [hzf], rfl⟩
  · obtain ⟨na, nc, c0⟩ := h.len
    have e : finG st (k : Int) = false := by unfold finG hasG; rw [decide_eq_false (by omega)]; rfl
    have d2 : decide ((k : Int) < (st.length : Int)) = false := decide_eq_false (by omega)
    have E := Lib.hid e
    clear e
    go_enter Tryz.func81, Tryz.ntmps81
    go_wp2_with fail
    go_ret
    rw [E.out]
    exact ⟨rfl, rfl⟩
end Go.Proofs.YtbbholdadgjelaaGreat
/- the document's graph: Next, From -/
namespace Go.Proofs.YtbbholdadgjelaaGreat
open Go.RowKit
set_option linter.unusedVariables false
set_option maxRecDepth 20000
theorem from_stop (l m : List Tx) (lo : Tx) (most : Int) (h : most ≤ ((fromL l lo most).length : Int)) : fromL (l ++ m) lo most = fromL l lo most := by
  unfold fromL at *
  rw [List.filter_append]
  have h1 := List.length_take (i := most.toNat) (l := l.filter (fun t => !decide (cmpS t lo < 0)))
  rw [List.take_append_of_le_length (by omega)]
theorem from_snoc (l : List Tx) (x lo : Tx) (most : Int) (h : ((fromL l lo most).length : Int) < most) : fromL (l ++ [x]) lo most = if cmpS x lo < 0 then fromL l lo most else fromL l lo most ++ [x] := by
  unfold fromL at *
  have h1 := List.length_take (i := most.toNat) (l := l.filter (fun t => !decide (cmpS t lo < 0)))
  rw [List.filter_append]
  by_cases hc : cmpS x lo < 0
  · rw [if_pos hc]; simp [hc]
  · rw [if_neg hc, List.take_of_length_le (l := l.filter _) (by omega), List.take_of_length_le]
    · simp [hc]
    · simp [hc]; omega
end Go.Proofs.YtbbholdadgjelaaGreat
/- pack: the document's Seal, Encode, Of -/
namespace Go.Proofs.YtbbholdadgjelaaGreat
open Go.RowKit
set_option linter.unusedVariables false
set_option maxRecDepth 20000
theorem rSeal_any (a : Option Addr) (n cap : Nat) (bs : List Nat) (w : World) (h : HoldsB w a n bs) (hnil : a = none → n = 0 ∧ cap = 0) (hn : n ≤ 524288) :
    Calls Tryz.prog 82 #[.slice a n cap] w (RetB 5 w (sealB bs)) := by
  have CS := Lib.hid (rsumOf_any a n cap bs w h (by omega))
  obtain ⟨c, hc⟩ : ∃ c, Crc.sum bs = c := ⟨_, rfl⟩
  have hc32 : c < 4294967296 := by rw [← hc]; exact sum_lt9 bs
  have CP := Lib.hid (rput_any a n cap bs (c : Int) 4 w h hnil hn)
  rw [bits_nat9 c (by omega), show sizeV 4 = 4 from rfl] at CP
  unfold sealB
  rw [hc] at CS ⊢
  obtain ⟨o, ho⟩ : ∃ o, bs ++ Cod.bytesOf c 4 = o := ⟨_, rfl⟩
  rw [ho] at CP ⊢
  clear h hnil hc ho
  go_enter Tryz.func82, Tryz.ntmps82
  go_wp2_with fail
  with_reducible refine CS.out.mono ?_
  rintro e w' ⟨rfl, rfl⟩
  go_wp2_with fail
  with_reducible refine CP.out.mono ?_
  rintro e w' ⟨a2, c2, rfl, h1, h2, h3⟩
  have O := Lib.hid h1; have B := Lib.hid h2; have N := Lib.hid h3
  clear h1 h2 h3 CS CP
  go_wp2_with fail
  go_ret
  exact ⟨a2, c2, rfl, O.out, B.out, N.out⟩
/-- bytes that a slice holds, whoever made them -/
structure HB9 (w0 : World) (bs : List Nat) (a : Option Addr) (c : Nat) (w : World) : Prop where
  h : HoldsB w a bs.length bs
  n : a = none → bs.length = 0 ∧ c = 0
  b : Below w0.heap.size w0 w
theorem HB9.more {w0 w w' : World} {bs : List Nat} {a : Option Addr} {c : Nat} (h : HB9 w0 bs a c w) (hb : Below w.heap.size w w') : HB9 w0 bs a c w' := ⟨h.h.below hb, h.n, h.b.trans (hb.mono h.b.size)⟩
theorem rput9 (v : Int) (s : Nat) (si : Int) (hsi : si = (s : Int)) (hs : s ≤ 8) (o : List Nat) {w0 w : World} {bs : List Nat} {a : Option Addr} {c : Nat} (h : HB9 w0 bs a c w) (hl : bs.length ≤ 524288) (ho : bs ++ Cod.bytesOf (bitsV v) s = o) :
    Calls Tryz.prog 80 #[.slice a bs.length c, .int .i64 v, .int .i64 si] w fun e w' => ∃ a2 c2, e = .returned (.slice a2 o.length c2) ∧ HB9 w0 o a2 c2 w' ∧ Below w.heap.size w w' := by
  subst ho hsi
  refine (rput_any a bs.length c bs v (s : Int) w h.h h.n hl).mono ?_
  rintro e w' ⟨a2, c2, rfl, h1, h2, h3⟩
  have e1 : sizeV (s : Int) = s := by unfold sizeV; omega
  rw [e1] at h1 h3 ⊢
  exact ⟨a2, c2, rfl, ⟨holdsB_of_values (owns_holds h1) (fun x hx => by
    rcases List.mem_append.1 hx with hx | hx
    · exact h.h.2 x hx
    · exact Cod.bytesOf_lt _ _ x hx), h3, h.b.trans (h2.mono h.b.size)⟩, h2⟩
theorem bc2p_carry {w w' w'' : World} {p1 i1 p2 i2 : Nat} {v1 v2 : Value} (h : Below w.heap.size w w' ∧ w'.cell? ⟨p1, i1, none⟩ = some v1 ∧ w'.cell? ⟨p2, i2, none⟩ = some v2) (hb : Below w'.heap.size w' w'') : Below w.heap.size w w'' ∧ w''.cell? ⟨p1, i1, none⟩ = some v1 ∧ w''.cell? ⟨p2, i2, none⟩ = some v2 :=
  ⟨h.1.trans (hb.mono h.1.size), (hb.cell (p := ⟨p1, i1, none⟩) (lt_of_cell h.2.1)).trans h.2.1, (hb.cell (p := ⟨p2, i2, none⟩) (lt_of_cell h.2.2)).trans h.2.2⟩
theorem bc2p_start {w : World} {p1 i1 p2 i2 : Nat} {v1 v2 : Value} (h1 : w.cell? ⟨p1, i1, none⟩ = some v1) (h2 : w.cell? ⟨p2, i2, none⟩ = some v2) : Below w.heap.size w w.drew ∧ w.drew.cell? ⟨p1, i1, none⟩ = some v1 ∧ w.drew.cell? ⟨p2, i2, none⟩ = some v2 := ⟨(Below.refl _ _).drew, h1, h2⟩
theorem RQ.len9 {g : Nat} {st : List GN} {w : World} {S F : Nat → Prop} (h : RQ g st w S F) : ∃ na nc, w.cell? ⟨g, 0, none⟩ = some (.slice na st.length nc) := by
  obtain ⟨na, nc, NL, B, eq⟩ := h
  have h1 := B.c
  rw [(B.len eq).1] at h1
  exact ⟨na, nc, h1⟩
set_option maxHeartbeats 6400000 in
set_option maxRecDepth 100000 in
theorem rEncode_any (g : Nat) (st : List GN) (S F : Nat → Prop) (w : World) (h : RQ g st w S F) (hf : ∀ x ∈ st, x.final = finS x.rests) (hR : ∀ x ∈ st, ∀ e ∈ x.edges, 0 ≤ e.r ∧ e.r ≤ 2147483647) (hE : ∀ x ∈ st, x.edges.length ≤ 1000) (hS : (bodyB st).length ≤ 524000) (hL : st.length ≤ 60000) :
    Calls Tryz.prog 64 #[.pointer (some ⟨g, 0, none⟩)] w (RetB 5 w (imgB st)) := by
  have HG := Lib.hid h; have HF := Lib.hid hf; have HR := Lib.hid hR; have HE := Lib.hid hE; have HS := Lib.hid hS
  obtain ⟨na, nc, g0⟩ := h.len9
  obtain ⟨L, hLL⟩ : ∃ L, st.length = L := ⟨_, rfl⟩
  have HL := Lib.hid hLL
  rw [hLL] at hL g0
  have GC := Lib.hid (show ∀ w', Below w.heap.size w w' → w'.cell? ⟨g, 0, none⟩ = some (.slice na L nc) from fun w' hb => (hb.cell (p := ⟨g, 0, none⟩) (lt_of_cell g0)).trans g0)
  have LIT := Lib.hid (show HB9 w [73, 78, 75, 49] (some ⟨w.heap.size, 0, none⟩) 4 (w.alloc (.cells #[.int .u8 73, .int .u8 78, .int .u8 75, .int .u8 49] 5)) from ⟨holdsB_lit w [73, 78, 75, 49] 5 (0, 0) (by decide), fun e => (by cases e), below_one w _⟩)
  have CP0 := Lib.hid (rput9 (L : Int) 2 2 rfl (by omega) ([73, 78, 75, 49] ++ Cod.bytesOf L 2) LIT.out (by decide) (by rw [bits_nat9 L (by omega)]))
  obtain ⟨b0, hb0⟩ : ∃ b0, [73, 78, 75, 49] ++ Cod.bytesOf L 2 = b0 := ⟨_, rfl⟩
  have HB0 := Lib.hid hb0
  rw [hb0] at CP0
  have g1 := GC.out _ LIT.out.b
  clear h hf hE hR hS hLL hb0
  go_enter Tryz.func64, Tryz.ntmps64
  go_wp2_with fail
  refine CP0.out.mono ?_
  rintro e w1 ⟨a1, c1, rfl, hh, -⟩
  have O3 := Lib.hid hh
  clear hh CP0 LIT g1 g0
  go_wp2_with fail
  go_loopw [3, 4] (fun bv iv wr => ∃ (j : Nat) (bs : List Nat) (ba : Option Addr) (bc : Nat), j ≤ L ∧ bv = .slice ba bs.length bc ∧ iv = .int .i64 j ∧ Hid (bs ++ (st.drop j).flatMap ndB = bodyB st) ∧ Hid (HB9 w bs ba bc wr)) (fun _ iv _ => L - (intOf iv).toNat)
  case atStart => exact ⟨0, b0, a1, c1, by omega, rfl, rfl, Lib.hid (by rw [List.drop_zero, ← HB0.out, List.append_assoc]; unfold bodyB; rw [HL.out]), O3⟩
  case round =>
    clear O3
    obtain ⟨j, bs, ba, bc, hj, rfl, rfl, hB, hO⟩ := hrel
    have hbl : bs.length ≤ 524000 := by
      have h1 := congrArg List.length hB.out
      rw [List.length_append] at h1
      have := HS.out; omega
    have g0 := GC.out wr hO.out.b
    by_cases hlt : j < L
    · obtain ⟨x, hx⟩ : ∃ x, st.getD j gn0 = x := ⟨_, rfl⟩
      have hmem : x ∈ st := by
        have := HL.out
        rw [← hx, List.getD_eq_getElem?_getD, List.getElem?_eq_getElem (show j < st.length by omega)]
        exact List.getElem_mem _
      have DJ := Lib.hid (show st.drop j = x :: st.drop (j + 1) from by rw [← hx]; exact getD_edges (by rw [HL.out]; exact hlt))
      have ER := Lib.hid (HR.out x hmem)
      have e1 : hasG st (j : Int) = true := by unfold hasG; rw [HL.out]; exact decide_eq_true (by omega)
      have CF := Lib.hid (show Calls Tryz.prog 81 #[.pointer (some ⟨g, 0, none⟩), .int .i64 (j : Int)] wr fun e w'' => e = .returned (.bool x.final) ∧ wr = w'' from by
        have h1 := rFinal_any g st S F (j : Int) wr (HG.out.below hO.out.b) HF.out
        rw [show finG st (j : Int) = x.final by unfold finG; rw [e1, Bool.true_and, Int.toNat_natCast, hx]] at h1
        exact h1)
      obtain ⟨q, nc2, ra, rc, ea, ec, c0, -, c2, -, c4, -⟩ := HG.out.node (show j < st.length by rw [HL.out]; exact hlt)
      have hml := HE.out x hmem
      rw [hx] at c2 c4
      obtain ⟨m, hm⟩ : ∃ m, x.edges.length = m := ⟨_, rfl⟩
      have HM := Lib.hid hm
      rw [hm] at hml c2 c4
      rw [HL.out] at c0
      have NC := Lib.hid (show ∀ w', Below w.heap.size w w' → w'.cell? ⟨g, 0, none⟩ = some (.slice (some ⟨q, 0, none⟩) L nc2) ∧ w'.cell? ⟨q, j * 2 + 1, none⟩ = some (.slice ea m ec) ∧ HoldsEd w' ea m x.edges from fun w' hb => ⟨(hb.cell (p := ⟨g, 0, none⟩) (lt_of_cell c0)).trans c0, (hb.cell (p := ⟨q, j * 2 + 1, none⟩) (lt_of_cell c2)).trans c2, c4.below hb⟩)
      have n1 : (0 : Int) ≤ (j : Int) := by omega
      have n2 : (j : Int) < (L : Int) := by omega
      obtain ⟨fin, hfin⟩ : ∃ f, x.final = f := ⟨_, rfl⟩
      have HFIN := Lib.hid hfin
      rw [hfin] at CF
      obtain ⟨o1, ho1⟩ : ∃ o1, bs ++ [finN x] = o1 := ⟨_, rfl⟩
      have HO1 := Lib.hid ho1
      have o1l : o1.length = bs.length + 1 := by rw [← ho1, List.length_append]; rfl
      have o1b : o1.length ≤ 524001 := by omega
      obtain ⟨o2, ho2⟩ : ∃ o2, o1 ++ Cod.bytesOf m 2 = o2 := ⟨_, rfl⟩
      have HO2 := Lib.hid ho2
      have CP2 := Lib.hid (fun a2 c2 (w' : World) (h2 : HB9 w o1 a2 c2 w') => rput9 (m : Int) 2 2 rfl (by omega) o2 h2 (by omega) (by rw [bits_nat9 m (by omega)]; exact HO2.out))
      have g3 := (NC.out wr hO.out.b).1
      clear hx hmem e1 hm c0 c2 c4 g0 ho1 ho2 hfin o1l
      go_wp2_with fail
      with_reducible refine CF.out.mono ?_
      rintro e w4 ⟨rfl, rfl⟩
      have N0 := Lib.hid (NC.out wr hO.out.b)
      obtain ⟨fv, CP1, hfv⟩ : ∃ fv : Int, Hid (∀ w', Below wr.heap.size wr w' → Calls Tryz.prog 80 #[.slice ba bs.length bc, .int .i64 fv, .int .i64 1] w' fun e w'' => ∃ a2 c2, e = .returned (.slice a2 o1.length c2) ∧ HB9 w o1 a2 c2 w'' ∧ Below w'.heap.size w' w'') ∧ ((fin = true ∧ fv = 1) ∨ (fin = false ∧ fv = 0)) := by
        cases fin
        · exact ⟨0, Lib.hid (fun w' hb => rput9 0 1 1 rfl (by omega) o1 (hO.out.more hb) (by omega) (by rw [← HO1.out]; unfold finN; rw [HFIN.out]; rfl)), Or.inr ⟨rfl, rfl⟩⟩
        · exact ⟨1, Lib.hid (fun w' hb => rput9 1 1 1 rfl (by omega) o1 (hO.out.more hb) (by omega) (by rw [← HO1.out]; unfold finN; rw [HFIN.out]; rfl)), Or.inl ⟨rfl, rfl⟩⟩
      have BD := Lib.hid (show o2 ++ ((x.edges.drop 0).flatMap edB ++ (st.drop (j + 1)).flatMap ndB) = bodyB st from by
        rw [← hB.out, DJ.out, List.drop_zero, List.flatMap_cons, ← HO2.out, ← HO1.out]
        unfold ndB
        rw [HM.out]
        simp only [List.append_assoc])
      rcases hfv with ⟨rfl, rfl⟩ | ⟨rfl, rfl⟩
      all_goals
        clear g3
        go_upto_region 8 with fail
        go_region_held3 (fun w' => Below wr.heap.size wr w' ∧ w'.cell? ⟨g, 0, none⟩ = some (.slice (some ⟨q, 0, none⟩) L nc2) ∧ w'.cell? ⟨q, j * 2 + 1, none⟩ = some (.slice ea m ec))
          (first | assumption | exact bc2p_start N0.out.1 N0.out.2.1 | exact bc2p_carry (by assumption) (by assumption) | fail)
          (first
            | (go_at_call 80; (with_reducible refine (CP1.out _ (And.left (by assumption))).mono ?_); rintro e w' ⟨a2, c2, rfl, hB1, hb9⟩)
            | (go_at_call 80; (with_reducible refine (CP2.out _ _ _ (by assumption)).mono ?_); rintro e w' ⟨a3, c3, rfl, hB2, hb9⟩) | fail)
        all_goals
          have K8 := Lib.hid hB2
          clear CP1 N0
          go_wp2_with fail
          go_loopw [3, 6] (fun bv iv wq => ∃ (k : Nat) (cs : List Nat) (ba : Option Addr) (bc : Nat), k ≤ m ∧ bv = .slice ba cs.length bc ∧ iv = .int .i64 k ∧ Hid (cs ++ ((x.edges.drop k).flatMap edB ++ (st.drop (j + 1)).flatMap ndB) = bodyB st) ∧ Hid (HB9 w cs ba bc wq)) (fun _ iv _ => m - (intOf iv).toNat)
          case atStart => exact ⟨0, o2, _, _, by omega, rfl, rfl, BD, K8⟩
          case round =>
            clear K8 BD hB2 CP2
            obtain ⟨k, cs, ba, bc, hk, rfl, rfl, hB, hK⟩ := hrel
            rename World => wq
            have hcl : cs.length ≤ 524000 := by
              have h1 := congrArg List.length hB.out
              rw [List.length_append] at h1
              have := HS.out; omega
            obtain ⟨g5, g6, he⟩ := NC.out wq hK.out.b
            by_cases hkm : k < m
            · obtain ⟨eb, eo, rfl, hcc⟩ := he.at (by omega)
              obtain ⟨y0, y1⟩ := hcc k hkm
              obtain ⟨y, hy⟩ : ∃ y, x.edges.getD k ed0 = y := ⟨_, rfl⟩
              rw [hy] at y0 y1
              have DK := Lib.hid (show x.edges.drop k = y :: x.edges.drop (k + 1) from by rw [← hy]; exact drop_ed9 (show k < x.edges.length by rw [HM.out]; exact hkm))
              have hkx : k < x.edges.length := by rw [HM.out]; exact hkm
              obtain ⟨yr, yr2⟩ := ER.out y (by rw [← hy, List.getD_eq_getElem?_getD, List.getElem?_eq_getElem hkx]; exact List.getElem_mem _)
              clear hkx
              have wy : IntKind.i64.wrap y.r = y.r := by rw [IntKind.wrap_i64]; omega
              have n3 : (0 : Int) ≤ (k : Int) := by omega
              have n4 : (k : Int) < (m : Int) := by omega
              obtain ⟨o3, ho3⟩ : ∃ o3, cs ++ Cod.bytesOf (bitsV y.r) 4 = o3 := ⟨_, rfl⟩
              obtain ⟨o4, ho4⟩ : ∃ o4, o3 ++ Cod.bytesOf (bitsV y.dst) 2 = o4 := ⟨_, rfl⟩
              have o3l : o3.length ≤ 524004 := by rw [← ho3, List.length_append, Cod.bytesOf_length]; omega
              have BD := Lib.hid (show o4 ++ ((x.edges.drop (k + 1)).flatMap edB ++ (st.drop (j + 1)).flatMap ndB) = bodyB st from by
                rw [← hB.out, DK.out, List.flatMap_cons, ← ho4, ← ho3]
                unfold edB
                simp only [List.append_assoc])
              have K5 := Lib.hid (hK.out.more (below_one wq (.cells #[.int .i32 y.r, .int .i64 y.dst] 116)))
              have X5 := Lib.hid (show (wq.alloc (.cells #[.int .i32 y.r, .int .i64 y.dst] 116)).cell? ⟨wq.heap.size, 0, none⟩ = some (.int .i32 y.r) ∧ (wq.alloc (.cells #[.int .i32 y.r, .int .i64 y.dst] 116)).cell? ⟨wq.heap.size, 1, none⟩ = some (.int .i64 y.dst) from ⟨by rw [cell_alloc rfl]; rfl, by rw [cell_alloc rfl]; rfl⟩)
              have CP3 := Lib.hid (fun w' (hb : Below (wq.alloc (.cells #[.int .i32 y.r, .int .i64 y.dst] 116)).heap.size (wq.alloc (.cells #[.int .i32 y.r, .int .i64 y.dst] 116)) w') => rput9 y.r 4 4 rfl (by omega) o3 (K5.out.more hb) (by omega) ho3)
              have CP4 := Lib.hid (fun a2 c2 (w' : World) (h2 : HB9 w o3 a2 c2 w') => rput9 y.dst 2 2 rfl (by omega) o4 h2 (by omega) ho4)
              clear hcc hy he ho3 ho4
              go_upto_region 13 with fail
              generalize wq.alloc (.cells #[.int .i32 y.r, .int .i64 y.dst] 116) = w5 at *
              generalize wq.heap.size = p5 at *
              go_region_held3 (fun w' => Below w5.heap.size w5 w' ∧ w'.cell? ⟨p5, 0, none⟩ = some (.int .i32 y.r) ∧ w'.cell? ⟨p5, 1, none⟩ = some (.int .i64 y.dst))
                (first | assumption | exact bc2p_start X5.out.1 X5.out.2 | exact bc2p_carry (by assumption) (by assumption) | fail)
                (first
                  | (go_at_call 80; (with_reducible refine (CP3.out _ (And.left (by assumption))).mono ?_); rintro e w' ⟨a2, c2, rfl, hB1, hb9⟩)
                  | (go_at_call 80; (with_reducible refine (CP4.out _ _ _ (by assumption)).mono ?_); rintro e w' ⟨a3, c3, rfl, hB2, hb9⟩) | fail)
              all_goals
                have K9 := Lib.hid hB2
                clear CP3 CP4 X5 K5
                go_wp2_with fail
                go_roundw
                case rel => exact ⟨k + 1, o4, _, _, by omega, rfl, by go_num, BD, K9⟩
                case measure => simp [intOf] <;> omega
            · obtain rfl : k = m := by omega
              have BE := Lib.hid (show cs ++ (st.drop (j + 1)).flatMap ndB = bodyB st from by
                rw [← hB.out, show x.edges.drop k = [] from List.drop_of_length_le (by rw [HM.out]; exact Nat.le_refl _)]; rfl)
              clear hB he
              go_wp2_with fail
              go_roundw
              case rel => exact ⟨j + 1, cs, ba, bc, by omega, rfl, by go_num, BE, hK⟩
              case measure => simp [intOf] <;> omega
    · obtain rfl : j = L := by omega
      have BE := Lib.hid (show bs = bodyB st from by
        have h1 := hB.out
        rw [List.drop_of_length_le (by rw [HL.out]; omega)] at h1
        simpa using h1)
      have CS := Lib.hid (rSeal_any ba bs.length bc bs wr hO.out.h hO.out.n (by omega))
      have IM := Lib.hid (show sealB bs = imgB st from by rw [BE.out]; rfl)
      have WB := Lib.hid hO.out.b
      clear hO hB BE
      go_wp2_with fail
      with_reducible refine CS.out.mono ?_
      rintro e w5 ⟨a5, c5, rfl, h1, h2, h3⟩
      have F := Lib.hid (show RetB 5 w (imgB st) (.returned (.slice a5 (sealB bs).length c5)) w5 from by
        rw [IM.out] at h1 h3 ⊢
        exact ⟨a5, c5, rfl, base_less9 h1 WB.out.size, WB.out.trans (h2.mono WB.out.size), h3⟩)
      clear h1 h2 h3 CS
      go_wp2_with fail
      go_ret
      exact F.out
end Go.Proofs.YtbbholdadgjelaaGreat
/- pack: the document's Of -/
namespace Go.Proofs.YtbbholdadgjelaaGreat
open Go.RowKit
set_option linter.unusedVariables false
set_option maxRecDepth 20000
theorem rOf_good (a : Option Addr) (n cap : Nat) (ts : List Tx) (w : World) (hh : HoldsT w a n ts) (hc : n ≤ cap) (hn : n ≤ 9223372036854775807) (hs : ∀ t ∈ ts, t.size ≤ 100) (hv : goodV ts = 0) :
    Calls Tryz.prog 49 #[.slice a n cap] w (RetE w (imgB (grS ts))) := by
  have CB := Lib.hid (rbuild_good (w0 := w) a n cap ts (grS ts) w (Below.refl _ _) hh hc hn hs hv rfl)
  have CE := Lib.hid (fun g S F (w' : World) (h : RQ g (grS ts) w' S F) => (show Calls Tryz.prog 64 #[.pointer (some ⟨g, 0, none⟩)] w' (RetB 5 w' (imgB (grS ts))) from by
    have G := grS_ok hv hs
    have hl := grS_few hv hs
    exact rEncode_any g (grS ts) S F w' h (fun x hx => (G.nodes x hx).fin) G.runes (fun x hx => by have := G.few x hx; omega) (bodyB_len G.few (by omega)) (by omega)))
  obtain ⟨o, ho⟩ : ∃ o, imgB (grS ts) = o := ⟨_, rfl⟩
  rw [ho] at CE ⊢
  clear hh hs hv ho
  go_enter Tryz.func49, Tryz.ntmps49
  go_wp2_with fail
  with_reducible refine CB.out.mono ?_
  rintro e w1 ⟨g, S, F, rfl, hC, hb⟩
  have C1 := Lib.hid (CE.out g S F w1 hC.1)
  have B1 := Lib.hid hb
  clear hC hb CE CB
  go_wp2_with fail
  with_reducible refine C1.out.mono ?_
  rintro e w2 ⟨a2, c2, rfl, h1, h2, h3⟩
  have F := Lib.hid (show RetE w o (.returned (.tuple #[.slice a2 o.length c2, .int .i64 0])) w2 from
    ⟨a2, c2, rfl, base_less9 h1 B1.out.size, B1.out.trans (h2.mono B1.out.size), h3⟩)
  clear h1 h2 h3 C1
  go_wp2_with fail
  go_ret2
  exact F.out
theorem rOf_bad (a : Option Addr) (n cap : Nat) (ts : List Tx) (v : Int) (w : World) (hh : HoldsT w a n ts) (hn : n ≤ 9223372036854775807) (hs : ∀ t ∈ ts, t.size ≤ 1048576) (hv : goodV ts = v) (h0 : v ≠ 0) :
    Calls Tryz.prog 49 #[.slice a n cap] w fun e w' => e = .returned (.tuple #[.slice none 0 0, .int .i64 v]) ∧ Below w.heap.size w w' := by
  have CB := Lib.hid (rbuild_bad a n cap ts v w hh hn hs hv h0)
  have e1 : (v != 0) = true := by simpa using h0
  clear hh hs hv h0
  go_enter Tryz.func49, Tryz.ntmps49
  go_wp2_with fail
  with_reducible refine CB.out.mono ?_
  rintro e w1 ⟨rfl, hb⟩
  have B1 := Lib.hid hb
  clear hb CB
  go_wp2_with fail
  go_ret2
  exact ⟨rfl, B1.out⟩
end Go.Proofs.YtbbholdadgjelaaGreat
/- the document's place: Words, Image; Keeps of none -/
namespace Go.Proofs.YtbbholdadgjelaaGreat
open Go.RowKit
set_option linter.unusedVariables false
set_option maxRecDepth 20000
set_option maxHeartbeats 3200000 in
theorem rkeeps_out (c : Cfg) (x : Int) (w : World) (h : CfgOk w c) (hsm : c.small) (hm : c.may = false) :
    Calls Tryz.prog 27 #[.agg #[.slice c.wa c.wn c.wc, .slice c.ka c.kn c.kc, .int .i64 c.W, .int .i64 c.C, .int .i64 c.S, .int .i64 c.B, .int .i64 c.L, .int .i64 c.H, .int .i64 c.F, .int .i64 c.P, .int .i64 c.J, .int .i64 c.N], .int .i64 x] w (RetZ w []) := by
  have BX := Lib.hid (below_one w (.cells #[.slice c.wa c.wn c.wc, .slice c.ka c.kn c.kc, .int .i64 c.W, .int .i64 c.C, .int .i64 c.S, .int .i64 c.B, .int .i64 c.L, .int .i64 c.H, .int .i64 c.F, .int .i64 c.P, .int .i64 c.J, .int .i64 c.N] 25))
  have IN := Lib.hid (cfgIn_new w c w.heap.size 25 (0, 0) rfl)
  have SH := Lib.hid (rshards_any c 0 _ (h.below BX.out) hsm (by unfold Cfg.shards; rw [hm]; rfl))
  clear h hsm hm
  go_enter Tryz.func27, Tryz.ntmps27
  go_upto_region 2 with fail
  generalize w.alloc (.cells #[.slice c.wa c.wn c.wc, .slice c.ka c.kn c.kc, .int .i64 c.W, .int .i64 c.C, .int .i64 c.S, .int .i64 c.B, .int .i64 c.L, .int .i64 c.H, .int .i64 c.F, .int .i64 c.P, .int .i64 c.J, .int .i64 c.N] 25) = w1 at *
  obtain ⟨p, hp⟩ : ∃ p, w.heap.size = p := ⟨_, rfl⟩
  have HP := Lib.hid hp
  rw [hp] at IN
  try simp only [hp]
  clear hp
  go_wp2_with fail
  go_loopw [5, 6] (fun ov iv wr => ov = .slice none 0 0 ∧ iv = .int .i64 0 ∧ wr = w1) (fun _ _ _ => 0)
  case atStart => exact ⟨rfl, rfl, rfl⟩
  case round =>
    obtain ⟨rfl, rfl, rfl⟩ := hrel
    have hI := IN.out
    unfold CfgIn at hI
    obtain ⟨i0, i1, i2, i3, i4, i5, i6, i7, i8, i9, i10, i11⟩ := hI
    go_wp2_with fail
    refine SH.out.mono ?_
    rintro e w2 ⟨rfl, hb2⟩
    have B2 := Lib.hid (BX.out.trans (hb2.mono BX.out.size))
    clear hb2 SH i0 i1 i2 i3 i4 i5 i6 i7 i8 i9 i10 i11
    go_wp2_with fail
    go_ret
    exact ⟨none, 0, rfl, World.ownsRow_nil _ _ _ _, B2.out⟩
set_option maxHeartbeats 3200000 in
theorem rpwords_in (c : Cfg) (s k : Nat) (zs : List Tx) (w : World) (h : CfgOk w c) (hsm : c.small) (hm : c.may = true) (hs : s < c.kn + 1) (hz : sliceS c.ks c.ws s = zs) (hk : zs.length = k) :
    Calls Tryz.prog 50 #[.agg #[.slice c.wa c.wn c.wc, .slice c.ka c.kn c.kc, .int .i64 c.W, .int .i64 c.C, .int .i64 c.S, .int .i64 c.B, .int .i64 c.L, .int .i64 c.H, .int .i64 c.F, .int .i64 c.P, .int .i64 c.J, .int .i64 c.N], .int .i64 (s : Int)] w fun e w' => ∃ a' c', e = .returned (.slice a' k c') ∧ LstP w' a' k c' zs ∧ Below w.heap.size w w' := by
  have BX := Lib.hid (below_one w (.cells #[.slice c.wa c.wn c.wc, .slice c.ka c.kn c.kc, .int .i64 c.W, .int .i64 c.C, .int .i64 c.S, .int .i64 c.B, .int .i64 c.L, .int .i64 c.H, .int .i64 c.F, .int .i64 c.P, .int .i64 c.J, .int .i64 c.N] 25))
  have IN := Lib.hid (cfgIn_new w c w.heap.size 25 (0, 0) rfl)
  have hkn := may_kn hm h
  obtain ⟨n, hn⟩ : ∃ n, c.kn + 1 = n := ⟨_, rfl⟩
  have OK := Lib.hid h
  have SH := Lib.hid (rshards_any c n _ (h.below BX.out) hsm (by unfold Cfg.shards; rw [hm, if_pos rfl]; exact hn))
  have hwn : c.wn ≤ 60 := by
    have := (goodV_zero (may_parts hm).1).1
    have := h.1.len
    omega
  have CS := Lib.hid (fun w' (hb : Below w.heap.size w w') => rslice_any c.ka c.kn c.kc c.ks c.wa c.wn c.wc c.ws s w' (OK.out.below hb).2.2.2.2.2.1 (OK.out.below hb).1 (by omega) (by omega) (by omega) (goodK_zero (may_parts hm).2.1).2.2 hsm.2 hsm.1)
  rw [hz] at CS
  unfold RetO at CS
  have HK := Lib.hid hk
  have d1 : decide ((s : Int) < 0) = false := decide_eq_false (by omega)
  have d2 : decide ((s : Int) ≥ (n : Int)) = false := decide_eq_false (by omega)
  have d3 : decide ((n : Int) ≤ (s : Int)) = false := decide_eq_false (by omega)
  have d4 : decide (n ≤ s) = false := decide_eq_false (by omega)
  clear h hsm hm hz hk hs hn
  go_enter Tryz.func50, Tryz.ntmps50
  go_upto_region 1 with fail
  generalize w.alloc (.cells #[.slice c.wa c.wn c.wc, .slice c.ka c.kn c.kc, .int .i64 c.W, .int .i64 c.C, .int .i64 c.S, .int .i64 c.B, .int .i64 c.L, .int .i64 c.H, .int .i64 c.F, .int .i64 c.P, .int .i64 c.J, .int .i64 c.N] 25) = w1 at *
  obtain ⟨p, hp⟩ : ∃ p, w.heap.size = p := ⟨_, rfl⟩
  have HP := Lib.hid hp
  rw [hp] at IN
  try simp only [hp]
  clear hp
  have hI := IN.out
  unfold CfgIn at hI
  obtain ⟨i0, i1, i2, i3, i4, i5, i6, i7, i8, i9, i10, i11⟩ := hI
  go_wp2_with fail
  refine SH.out.mono ?_
  rintro e w2 ⟨rfl, hb2⟩
  have B2 := Lib.hid (BX.out.trans (hb2.mono BX.out.size))
  have I2 := Lib.hid (IN.out.below hb2)
  have CS2 := Lib.hid (CS.out w2 B2.out)
  clear hb2 SH CS i0 i1 i2 i3 i4 i5 i6 i7 i8 i9 i10 i11
  have hI := I2.out
  unfold CfgIn at hI
  obtain ⟨i0, i1, -⟩ := hI
  go_wp2_with fail
  with_reducible refine CS2.out.mono ?_
  rintro e w3 ⟨a', c', rfl, ho, hb3⟩
  have B3 := Lib.hid (B2.out.trans (hb3.mono B2.out.size))
  have L3 := Lib.hid (LstP.own ho)
  rw [HK.out] at L3
  clear ho hb3 CS2 i0 i1
  simp only [HK.out]
  go_wp2_with fail
  go_ret
  exact ⟨a', c', rfl, L3.out, B3.out⟩
theorem rOf_d (a : Option Addr) (n cap : Nat) (ts : List Tx) (I : List Nat) (m : Nat) (w : World) (hh : HoldsT w a n ts) (hc : n ≤ cap) (hn : n ≤ 9223372036854775807) (hv : goodV ts = 0) (hI : imgB (grS ts) = I) (hm : I.length = m) :
    Calls Tryz.prog 49 #[.slice a n cap] w fun e w' => ∃ a' c', e = .returned (.tuple #[.slice a' m c', .int .i64 0]) ∧ w'.ownsRow w.heap.size 5 1 (.slice a' m c') m (bytesV I) ∧ HoldsB w' a' m I ∧ m ≤ c' ∧ Below w.heap.size w w' := by
  subst hI hm
  refine (rOf_good a n cap ts w hh hc hn (fun t ht => by have := good_sizes hv t ht; omega) hv).mono ?_
  rintro e w' ⟨a2, c2, rfl, h1, h2, -⟩
  exact ⟨a2, c2, rfl, h1, holdsB_of_values (owns_holds h1) (imgB_lt _), (owns_none h1).2, h2⟩
set_option maxHeartbeats 3200000 in
theorem rpwords_out (c : Cfg) (x : Int) (w : World) (h : CfgOk w c) (hsm : c.small) (hs : ¬ (0 ≤ x ∧ x < (c.shards : Int))) :
    Calls Tryz.prog 50 #[.agg #[.slice c.wa c.wn c.wc, .slice c.ka c.kn c.kc, .int .i64 c.W, .int .i64 c.C, .int .i64 c.S, .int .i64 c.B, .int .i64 c.L, .int .i64 c.H, .int .i64 c.F, .int .i64 c.P, .int .i64 c.J, .int .i64 c.N], .int .i64 x] w fun e w' => e = .returned (.slice none 0 0) ∧ Below w.heap.size w w' := by
  have BX := Lib.hid (below_one w (.cells #[.slice c.wa c.wn c.wc, .slice c.ka c.kn c.kc, .int .i64 c.W, .int .i64 c.C, .int .i64 c.S, .int .i64 c.B, .int .i64 c.L, .int .i64 c.H, .int .i64 c.F, .int .i64 c.P, .int .i64 c.J, .int .i64 c.N] 25))
  have IN := Lib.hid (cfgIn_new w c w.heap.size 25 (0, 0) rfl)
  obtain ⟨n, hn⟩ : ∃ n, c.shards = n := ⟨_, rfl⟩
  have SH := Lib.hid (rshards_any c n _ (h.below BX.out) hsm hn)
  rw [hn] at hs
  by_cases hx : x < 0
  · have d1 : decide (x < 0) = true := decide_eq_true hx
    clear h hsm hs hn
    go_enter Tryz.func50, Tryz.ntmps50
    go_wp2_with fail
    go_ret; exact ⟨rfl, BX.out⟩
  · have d1 : decide (x < 0) = false := decide_eq_false hx
    have d2 : decide (x ≥ (n : Int)) = true := decide_eq_true (by omega)
    have d3 : decide ((n : Int) ≤ x) = true := decide_eq_true (by omega)
    clear h hsm hs hn
    go_enter Tryz.func50, Tryz.ntmps50
    go_upto_region 1 with fail
    generalize w.alloc (.cells #[.slice c.wa c.wn c.wc, .slice c.ka c.kn c.kc, .int .i64 c.W, .int .i64 c.C, .int .i64 c.S, .int .i64 c.B, .int .i64 c.L, .int .i64 c.H, .int .i64 c.F, .int .i64 c.P, .int .i64 c.J, .int .i64 c.N] 25) = w1 at *
    obtain ⟨p, hp⟩ : ∃ p, w.heap.size = p := ⟨_, rfl⟩
    have HP := Lib.hid hp
    rw [hp] at IN
    try simp only [hp]
    clear hp
    have hI := IN.out
    unfold CfgIn at hI
    obtain ⟨i0, i1, i2, i3, i4, i5, i6, i7, i8, i9, i10, i11⟩ := hI
    go_wp2_with fail
    refine SH.out.mono ?_
    rintro e w2 ⟨rfl, hb2⟩
    have B2 := Lib.hid (BX.out.trans (hb2.mono BX.out.size))
    clear hb2 SH i0 i1 i2 i3 i4 i5 i6 i7 i8 i9 i10 i11
    go_wp2_with fail
    go_ret; exact ⟨rfl, B2.out⟩
set_option maxHeartbeats 3200000 in
theorem rimage_out (c : Cfg) (x : Int) (w : World) (h : CfgOk w c) (hsm : c.small) (hs : ¬ (0 ≤ x ∧ x < (c.shards : Int))) :
    Calls Tryz.prog 28 #[.agg #[.slice c.wa c.wn c.wc, .slice c.ka c.kn c.kc, .int .i64 c.W, .int .i64 c.C, .int .i64 c.S, .int .i64 c.B, .int .i64 c.L, .int .i64 c.H, .int .i64 c.F, .int .i64 c.P, .int .i64 c.J, .int .i64 c.N], .int .i64 x] w fun e w' => e = .returned (.tuple #[.slice none 0 0, .int .i64 4]) ∧ Below w.heap.size w w' := by
  have BX := Lib.hid (below_one w (.cells #[.slice c.wa c.wn c.wc, .slice c.ka c.kn c.kc, .int .i64 c.W, .int .i64 c.C, .int .i64 c.S, .int .i64 c.B, .int .i64 c.L, .int .i64 c.H, .int .i64 c.F, .int .i64 c.P, .int .i64 c.J, .int .i64 c.N] 25))
  have IN := Lib.hid (cfgIn_new w c w.heap.size 25 (0, 0) rfl)
  obtain ⟨n, hn⟩ : ∃ n, c.shards = n := ⟨_, rfl⟩
  have SH := Lib.hid (rshards_any c n _ (h.below BX.out) hsm hn)
  rw [hn] at hs
  by_cases hx : x < 0
  · have d1 : decide (x < 0) = true := decide_eq_true hx
    clear h hsm hs hn
    go_enter Tryz.func28, Tryz.ntmps28
    go_wp2_with fail
    go_ret2; exact ⟨rfl, BX.out⟩
  · have d1 : decide (x < 0) = false := decide_eq_false hx
    have d2 : decide (x ≥ (n : Int)) = true := decide_eq_true (by omega)
    have d3 : decide ((n : Int) ≤ x) = true := decide_eq_true (by omega)
    clear h hsm hs hn
    go_enter Tryz.func28, Tryz.ntmps28
    go_upto_region 1 with fail
    generalize w.alloc (.cells #[.slice c.wa c.wn c.wc, .slice c.ka c.kn c.kc, .int .i64 c.W, .int .i64 c.C, .int .i64 c.S, .int .i64 c.B, .int .i64 c.L, .int .i64 c.H, .int .i64 c.F, .int .i64 c.P, .int .i64 c.J, .int .i64 c.N] 25) = w1 at *
    obtain ⟨p, hp⟩ : ∃ p, w.heap.size = p := ⟨_, rfl⟩
    have HP := Lib.hid hp
    rw [hp] at IN
    try simp only [hp]
    clear hp
    have hI := IN.out
    unfold CfgIn at hI
    obtain ⟨i0, i1, i2, i3, i4, i5, i6, i7, i8, i9, i10, i11⟩ := hI
    go_wp2_with fail
    refine SH.out.mono ?_
    rintro e w2 ⟨rfl, hb2⟩
    have B2 := Lib.hid (BX.out.trans (hb2.mono BX.out.size))
    clear hb2 SH i0 i1 i2 i3 i4 i5 i6 i7 i8 i9 i10 i11
    go_wp2_with fail
    go_ret2; exact ⟨rfl, B2.out⟩
set_option maxHeartbeats 3200000 in
theorem rimage_in (c : Cfg) (s : Nat) (I : List Nat) (m : Nat) (w : World) (h : CfgOk w c) (hsm : c.small) (hm : c.may = true) (hs : s < c.kn + 1) (hI : imgB (grS (sliceS c.ks c.ws s)) = I) (hl : I.length = m) :
    Calls Tryz.prog 28 #[.agg #[.slice c.wa c.wn c.wc, .slice c.ka c.kn c.kc, .int .i64 c.W, .int .i64 c.C, .int .i64 c.S, .int .i64 c.B, .int .i64 c.L, .int .i64 c.H, .int .i64 c.F, .int .i64 c.P, .int .i64 c.J, .int .i64 c.N], .int .i64 (s : Int)] w fun e w' => ∃ a' c', e = .returned (.tuple #[.slice a' m c', .int .i64 0]) ∧ w'.ownsRow w.heap.size 5 1 (.slice a' m c') m (bytesV I) ∧ HoldsB w' a' m I ∧ m ≤ c' ∧ Below w.heap.size w w' := by
  have BX := Lib.hid (below_one w (.cells #[.slice c.wa c.wn c.wc, .slice c.ka c.kn c.kc, .int .i64 c.W, .int .i64 c.C, .int .i64 c.S, .int .i64 c.B, .int .i64 c.L, .int .i64 c.H, .int .i64 c.F, .int .i64 c.P, .int .i64 c.J, .int .i64 c.N] 25))
  have IN := Lib.hid (cfgIn_new w c w.heap.size 25 (0, 0) rfl)
  have hkn := may_kn hm h
  obtain ⟨n, hn⟩ : ∃ n, c.kn + 1 = n := ⟨_, rfl⟩
  have OK := Lib.hid h
  have SH := Lib.hid (rshards_any c n _ (h.below BX.out) hsm (by unfold Cfg.shards; rw [hm, if_pos rfl]; exact hn))
  obtain ⟨zs, hz⟩ : ∃ zs, sliceS c.ks c.ws s = zs := ⟨_, rfl⟩
  obtain ⟨k, hk⟩ : ∃ k, zs.length = k := ⟨_, rfl⟩
  have hg : goodV zs = 0 := by rw [← hz]; exact good_filter (may_parts hm).1 _
  have k60 : k ≤ 60 := by rw [← hk]; exact (goodV_zero hg).1
  have CW := Lib.hid (fun w' (hb : Below w.heap.size w w') => rpwords_in c s k zs w' (OK.out.below hb) hsm hm hs hz hk)
  rw [hz] at hI
  have CO := Lib.hid (fun w' a' c' (h : LstP w' a' k c' zs) => rOf_d a' k c' zs I m w' h.1 h.2.2 (by omega) hg hI hl)
  have d1 : decide ((s : Int) < 0) = false := decide_eq_false (by omega)
  have d2 : decide ((s : Int) ≥ (n : Int)) = false := decide_eq_false (by omega)
  have d3 : decide ((n : Int) ≤ (s : Int)) = false := decide_eq_false (by omega)
  have d4 : decide (n ≤ s) = false := decide_eq_false (by omega)
  clear h hsm hm hz hk hs hn hg hI hl
  go_enter Tryz.func28, Tryz.ntmps28
  go_upto_region 1 with fail
  generalize w.alloc (.cells #[.slice c.wa c.wn c.wc, .slice c.ka c.kn c.kc, .int .i64 c.W, .int .i64 c.C, .int .i64 c.S, .int .i64 c.B, .int .i64 c.L, .int .i64 c.H, .int .i64 c.F, .int .i64 c.P, .int .i64 c.J, .int .i64 c.N] 25) = w1 at *
  obtain ⟨p, hp⟩ : ∃ p, w.heap.size = p := ⟨_, rfl⟩
  have HP := Lib.hid hp
  rw [hp] at IN
  try simp only [hp]
  clear hp
  have hI := IN.out
  unfold CfgIn at hI
  obtain ⟨i0, i1, i2, i3, i4, i5, i6, i7, i8, i9, i10, i11⟩ := hI
  go_wp2_with fail
  refine SH.out.mono ?_
  rintro e w2 ⟨rfl, hb2⟩
  have B2 := Lib.hid (BX.out.trans (hb2.mono BX.out.size))
  have I2 := Lib.hid (IN.out.below hb2)
  have CW2 := Lib.hid (CW.out w2 B2.out)
  clear hb2 SH CW i0 i1 i2 i3 i4 i5 i6 i7 i8 i9 i10 i11
  have hI := I2.out
  unfold CfgIn at hI
  obtain ⟨i0, i1, i2, i3, i4, i5, i6, i7, i8, i9, i10, i11⟩ := hI
  go_wp2_with fail
  with_reducible refine CW2.out.mono ?_
  rintro e w3 ⟨a', c', rfl, hl3, hb3⟩
  have B3 := Lib.hid (B2.out.trans (hb3.mono B2.out.size))
  have CO3 := Lib.hid (CO.out w3 a' c' hl3)
  clear hl3 hb3 CW2 CO i0 i1 i2 i3 i4 i5 i6 i7 i8 i9 i10 i11
  go_wp2_with fail
  with_reducible refine CO3.out.mono ?_
  rintro e w4 ⟨a4, c4, rfl, ho, hh, hc, hb4⟩
  have F := Lib.hid (show w4.ownsRow w.heap.size 5 1 (.slice a4 m c4) m (bytesV I) ∧ HoldsB w4 a4 m I ∧ m ≤ c4 ∧ Below w.heap.size w w4 from ⟨base_less9 ho B3.out.size, hh, hc, B3.out.trans (hb4.mono B3.out.size)⟩)
  clear ho hh hc hb4 CO3
  go_wp2_with fail
  go_ret2
  exact ⟨a4, c4, rfl, F.out⟩
end Go.Proofs.YtbbholdadgjelaaGreat
/- place of a configuration that may not be, or of a shard that is none; words of any -/
namespace Go.Proofs.YtbbholdadgjelaaGreat
open Go.RowKit
set_option linter.unusedVariables false
set_option maxRecDepth 20000
set_option maxHeartbeats 1600000 in
theorem pshards_any (c : Cfg) (n : Nat) (w : World) (h : CfgOk w c) (hn : c.shards = n) :
    Calls Tryz.prog 38 #[.agg #[.slice c.wa c.wn c.wc, .slice c.ka c.kn c.kc, .int .i64 c.W, .int .i64 c.C, .int .i64 c.S, .int .i64 c.B, .int .i64 c.L, .int .i64 c.H, .int .i64 c.F, .int .i64 c.P, .int .i64 c.J, .int .i64 c.N]] w fun e w' => e = .returned (.int .i64 (n : Int)) ∧ Below w.heap.size w w' := by
  unfold Cfg.shards at hn
  obtain ⟨z, hz⟩ : ∃ z, c.may = z := ⟨_, rfl⟩
  rw [hz] at hn
  cases z
  · obtain rfl : 0 = n := hn
    have BX := Lib.hid (below_one w (.cells #[.slice c.wa c.wn c.wc, .slice c.ka c.kn c.kc, .int .i64 c.W, .int .i64 c.C, .int .i64 c.S, .int .i64 c.B, .int .i64 c.L, .int .i64 c.H, .int .i64 c.F, .int .i64 c.P, .int .i64 c.J, .int .i64 c.N] 25))
    have IN := Lib.hid (cfgIn_new w c w.heap.size 25 (0, 0) rfl)
    have CM := Lib.hid (may_cfg c false _ (h.below BX.out) hz)
    clear h hz
    go_enter Tryz.func38, Tryz.ntmps38
    go_wp2_with fail
    refine CM.out.mono ?_
    rintro e w2 ⟨rfl, hb2⟩
    have B2 := Lib.hid (BX.out.trans (hb2.mono BX.out.size))
    clear hb2 CM
    go_wp2_with fail
    go_ret
    exact ⟨rfl, B2.out⟩
  · obtain rfl : c.kn + 1 = n := hn
    exact shards_any c w h hz
set_option maxHeartbeats 1600000 in
theorem has_out (c : Cfg) (x : Int) (w : World) (h : CfgOk w c) (hs : ¬ (0 ≤ x ∧ x < (c.shards : Int))) :
    Calls Tryz.prog 41 #[.agg #[.slice c.wa c.wn c.wc, .slice c.ka c.kn c.kc, .int .i64 c.W, .int .i64 c.C, .int .i64 c.S, .int .i64 c.B, .int .i64 c.L, .int .i64 c.H, .int .i64 c.F, .int .i64 c.P, .int .i64 c.J, .int .i64 c.N], .int .i64 x] w fun e w' => e = .returned (.bool false) ∧ Below w.heap.size w w' := by
  have BX := Lib.hid (below_one w (.cells #[.slice c.wa c.wn c.wc, .slice c.ka c.kn c.kc, .int .i64 c.W, .int .i64 c.C, .int .i64 c.S, .int .i64 c.B, .int .i64 c.L, .int .i64 c.H, .int .i64 c.F, .int .i64 c.P, .int .i64 c.J, .int .i64 c.N] 25))
  have IN := Lib.hid (cfgIn_new w c w.heap.size 25 (0, 0) rfl)
  obtain ⟨n, hn⟩ : ∃ n, c.shards = n := ⟨_, rfl⟩
  have CM := Lib.hid (pshards_any c n _ (h.below BX.out) hn)
  rw [hn] at hs
  by_cases h0 : 0 ≤ x
  · have d1 : decide (x ≥ 0) = true := decide_eq_true h0
    have d2 : decide (x < (n : Int)) = false := decide_eq_false (fun h => hs ⟨h0, h⟩)
    clear h hs hn
    go_enter Tryz.func41, Tryz.ntmps41
    go_wp2_with fail
    refine CM.out.mono ?_
    rintro e w2 ⟨rfl, hb2⟩
    have B2 := Lib.hid (BX.out.trans (hb2.mono BX.out.size))
    clear hb2 CM
    go_wp2_with fail
    go_ret
    exact ⟨rfl, B2.out⟩
  · have d1 : decide (x ≥ 0) = false := decide_eq_false h0
    clear h hs hn
    go_enter Tryz.func41, Tryz.ntmps41
    go_wp2_with fail
    go_ret
    exact ⟨rfl, BX.out⟩
theorem pcopies_out (c : Cfg) (s : Int) (w : World) (h : CfgOk w c) (hs : ¬ (0 ≤ s ∧ s < (c.shards : Int))) :
    Calls Tryz.prog 40 #[.agg #[.slice c.wa c.wn c.wc, .slice c.ka c.kn c.kc, .int .i64 c.W, .int .i64 c.C, .int .i64 c.S, .int .i64 c.B, .int .i64 c.L, .int .i64 c.H, .int .i64 c.F, .int .i64 c.P, .int .i64 c.J, .int .i64 c.N], .int .i64 s] w (RetZ w []) := by
  have BX := Lib.hid (below_one w (.cells #[.slice c.wa c.wn c.wc, .slice c.ka c.kn c.kc, .int .i64 c.W, .int .i64 c.C, .int .i64 c.S, .int .i64 c.B, .int .i64 c.L, .int .i64 c.H, .int .i64 c.F, .int .i64 c.P, .int .i64 c.J, .int .i64 c.N] 25))
  have IN := Lib.hid (cfgIn_new w c w.heap.size 25 (0, 0) rfl)
  have CM := Lib.hid (has_out c s _ (h.below BX.out) hs)
  clear h hs
  go_enter Tryz.func40, Tryz.ntmps40
  go_wp2_with fail
  refine CM.out.mono ?_
  rintro e w2 ⟨rfl, hb2⟩
  have B2 := Lib.hid (BX.out.trans (hb2.mono BX.out.size))
  clear hb2 CM
  go_wp2_with fail
  go_ret
  exact ⟨none, 0, rfl, World.ownsRow_nil _ _ _ _, B2.out⟩
theorem pimage_out (c : Cfg) (s : Int) (w : World) (h : CfgOk w c) (hs : ¬ (0 ≤ s ∧ s < (c.shards : Int))) :
    Calls Tryz.prog 25 #[.agg #[.slice c.wa c.wn c.wc, .slice c.ka c.kn c.kc, .int .i64 c.W, .int .i64 c.C, .int .i64 c.S, .int .i64 c.B, .int .i64 c.L, .int .i64 c.H, .int .i64 c.F, .int .i64 c.P, .int .i64 c.J, .int .i64 c.N], .int .i64 s] w fun e w' => e = .returned (.tuple #[.slice none 0 0, .int .i64 4]) ∧ Below w.heap.size w w' := by
  have BX := Lib.hid (below_one w (.cells #[.slice c.wa c.wn c.wc, .slice c.ka c.kn c.kc, .int .i64 c.W, .int .i64 c.C, .int .i64 c.S, .int .i64 c.B, .int .i64 c.L, .int .i64 c.H, .int .i64 c.F, .int .i64 c.P, .int .i64 c.J, .int .i64 c.N] 25))
  have IN := Lib.hid (cfgIn_new w c w.heap.size 25 (0, 0) rfl)
  have CH := Lib.hid (has_out c s _ (h.below BX.out) hs)
  clear h hs
  go_enter Tryz.func25, Tryz.ntmps25
  go_wp2_with fail
  with_reducible refine CH.out.mono ?_
  rintro e w2 ⟨rfl, hb2⟩
  have B2 := Lib.hid (BX.out.trans (hb2.mono BX.out.size))
  clear hb2 CH
  go_wp2_with fail
  go_ret2
  exact ⟨rfl, B2.out⟩
set_option maxHeartbeats 1600000 in
theorem pkeeps_out (c : Cfg) (x : Int) (w : World) (h : CfgOk w c) (hm : c.may = false) :
    Calls Tryz.prog 24 #[.agg #[.slice c.wa c.wn c.wc, .slice c.ka c.kn c.kc, .int .i64 c.W, .int .i64 c.C, .int .i64 c.S, .int .i64 c.B, .int .i64 c.L, .int .i64 c.H, .int .i64 c.F, .int .i64 c.P, .int .i64 c.J, .int .i64 c.N], .int .i64 x] w (RetZ w []) := by
  have BX := Lib.hid (below_one w (.cells #[.slice c.wa c.wn c.wc, .slice c.ka c.kn c.kc, .int .i64 c.W, .int .i64 c.C, .int .i64 c.S, .int .i64 c.B, .int .i64 c.L, .int .i64 c.H, .int .i64 c.F, .int .i64 c.P, .int .i64 c.J, .int .i64 c.N] 25))
  have IN := Lib.hid (cfgIn_new w c w.heap.size 25 (0, 0) rfl)
  have CM := Lib.hid (pshards_any c 0 _ (h.below BX.out) (by unfold Cfg.shards; rw [hm]; rfl))
  clear h hm
  go_enter Tryz.func24, Tryz.ntmps24
  go_wp2_with fail
  refine CM.out.mono ?_
  rintro e w2 ⟨rfl, hb2⟩
  have B2 := Lib.hid (BX.out.trans (hb2.mono BX.out.size))
  clear hb2 CM
  go_wp2_with fail
  go_loopw [5, 9] (fun ov iv wr => ov = .slice none 0 0 ∧ iv = .int .i64 0 ∧ wr = w2) (fun _ _ _ => 0)
  case atStart => exact ⟨rfl, rfl, rfl⟩
  case round =>
    obtain ⟨rfl, rfl, rfl⟩ := hrel
    go_wp2_with fail
    go_ret
    exact ⟨none, 0, rfl, World.ownsRow_nil _ _ _ _, B2.out⟩
def sliceZ (ks : List KV) (ws : List Tx) (x : Int) : List Tx := ws.filter fun t => decide (0 ≤ ofZ ks t ∧ ofZ ks t = x)
theorem sliceZ_yes (ks : List KV) (ws : List Tx) (s : Int) (x : Tx) (h0 : 0 ≤ s) (h : ofZ ks x = s) : sliceZ ks (ws ++ [x]) s = sliceZ ks ws s ++ [x] := by
  unfold sliceZ; rw [List.filter_append]; simp [h, h0]
theorem sliceZ_no (ks : List KV) (ws : List Tx) (s : Int) (x : Tx) (h : ¬ (0 ≤ ofZ ks x ∧ ofZ ks x = s)) : sliceZ ks (ws ++ [x]) s = sliceZ ks ws s := by
  unfold sliceZ; rw [List.filter_append]; simp [h]
theorem sliceZ_nat (ks : List KV) (ws : List Tx) (s : Nat) : sliceZ ks ws (s : Int) = sliceS ks ws s := by
  unfold sliceZ sliceS
  apply List.filter_congr
  intro t _
  rw [decide_eq_decide]
  constructor
  · exact fun h => h.2
  · exact fun h => ⟨by omega, h⟩
theorem sliceZ_out (ks : List KV) (ws : List Tx) (x : Int) (h : ¬ (0 ≤ x ∧ x < ((ks.length + 1 : Nat) : Int))) : sliceZ ks ws x = [] := by
  unfold sliceZ
  rw [List.filter_eq_nil_iff]
  intro t _ hd
  obtain ⟨h1, h2⟩ := of_decide_eq_true hd
  refine h ⟨by omega, ?_⟩
  have h3 := ofN_le ks (keyOf t)
  unfold ofZ at h2 h1
  split at h2 <;> omega
set_option maxHeartbeats 1600000 in
theorem sliceZ_any (a : Option Addr) (n cap : Nat) (ks : List KV) (a1 : Option Addr) (n1 cap1 : Nat) (ws : List Tx) (s : Int) (w : World) (hh : HoldsK w a n ks) (hh1 : HoldsT w a1 n1 ws) (hn : n ≤ 1000) (hn1 : n1 ≤ 1000) (hsz : ∀ t ∈ ws, t.size ≤ 9223372036854775807) :
    Calls Tryz.prog 58 #[.slice a n cap, .slice a1 n1 cap1, .int .i64 s] w (RetO w (sliceZ ks ws s)) := by
  obtain ⟨i0, hi, hz0, hz1, hz2⟩ := info_parts str_info
  have hl := hh1.len
  go_enter Tryz.func58, Tryz.ntmps58
  go_wp2_with fail
  go_loopw [7, 13] (fun ov iv wr => ∃ (j : Nat) (P : List Tx), j ≤ n1 ∧ P.length ≤ j ∧ iv = .int .i64 j ∧ Hid (P = sliceZ ks (ws.take j) s) ∧ Hid (wr.ownsRow w.heap.size 9 1 ov P.length (strsV P)) ∧ Hid (Below w.heap.size w wr)) (fun _ iv _ => n1 - (intOf iv).toNat)
  case atStart => exact ⟨0, [], by omega, by simp, rfl, Lib.hid rfl, Lib.hid (World.ownsRow_nil _ _ _ _), Lib.hid (Below.refl _ _)⟩
  case round =>
    obtain ⟨j, P, hj, hPl, rfl, hP, hO, hB⟩ := hrel
    by_cases hlt : j < n1
    · have hcell := hh1.at (by omega)
      obtain ⟨bb, o, rfl, hc'⟩ := hcell
      have e0 := hc' j hlt
      have HC := Lib.hid (fun (w3 : World) (hb : Below w.heap.size w w3) => show w3.cell? ⟨bb, o + j, none⟩ = some (.string (ws.getD j ByteArray.empty)) from (hb.cell (p := ⟨bb, o + j, none⟩) (lt_of_cell e0)).trans e0)
      have hmem := getD_memT' ws j (by omega)
      have htk := take_succ_getD ws ByteArray.empty j (by omega)
      obtain ⟨x, hx⟩ : ∃ x, ws.getD j ByteArray.empty = x := ⟨_, rfl⟩
      rw [hx] at htk hmem
      simp only [hx] at HC
      have HT := Lib.hid htk
      have HX := Lib.hid (hsz x hmem)
      clear hx htk hc' e0 hmem
      have e1 := HC.out _ hB.out
      have H1 := Lib.hid (hh.below hB.out)
      obtain ⟨v, hv⟩ : ∃ v, ofZ ks x = v := ⟨_, rfl⟩
      have HV := Lib.hid hv
      by_cases hin : 0 ≤ v ∧ v = s
      · obtain ⟨hv1, rfl⟩ := hin
        have hls := sliceZ_yes ks (ws.take j) v x hv1 hv
        rw [← HT.out, ← hP.out] at hls
        have HL := Lib.hid hls
        have g1 : decide (v ≥ 0) = true := by rw [decide_eq_true_iff]; omega
        have g2 : (v == v) = true := by simp
        clear hls hv
        go_wp2_with fail
        refine (pof_lit a n cap ks x v wr H1.out (by omega) HX.out HV.out).mono ?_
        rintro e w2 ⟨rfl, hb2⟩
        have O2 := Lib.hid (owns_below hO.out hb2)
        have B2 := Lib.hid (hB.out.trans (hb2.mono hB.out.size))
        clear hb2 e1 hO hB
        go_wp2_with (at_builtin; refine wpList_append_any rfl (.tmp 27) (.tmp 29) 22 rfl w.heap.size 9 i0 (.string ⟨#[]⟩) 1 16 Tryz.underlying22 hi hz0 hz1 hz2 rfl (by decide) _ P.length _ rfl (O2.out.alloc _) _ 1 1 _ rfl (some_none _) rfl (one_new _ _ _ _) (one_str _) (by unfold maxLen; omega) (by omega) (by have := B2.out.size; simp; omega) ?_; intro a3 c3 w3 hown3 hb3 hnil3)
        rw [← strsV_snoc] at hown3
        have O3 := Lib.hid hown3
        have B3 := Lib.hid ((B2.out.alloc B2.out.size _).trans hb3)
        clear hown3 hb3 hnil3
        go_roundw
        case rel => exact ⟨j + 1, P ++ [x], by omega, by simp; omega, by go_num, Lib.hid HL.out.symm, Lib.hid (by have := O3.out; simpa using this), B3⟩
        case measure => simp [intOf]; omega
      · have hls := sliceZ_no ks (ws.take j) s x (by rw [hv]; exact hin)
        rw [← HT.out, ← hP.out] at hls
        have HL := Lib.hid hls
        clear hls hv
        go_wp2_with fail
        refine (pof_lit a n cap ks x v wr H1.out (by omega) HX.out HV.out).mono ?_
        rintro e w2 ⟨rfl, hb2⟩
        have O2 := Lib.hid (owns_below hO.out hb2)
        have B2 := Lib.hid (hB.out.trans (hb2.mono hB.out.size))
        clear hb2 e1 hO hB
        by_cases hv0 : v ≥ 0
        · have g1 : decide (v ≥ 0) = true := decide_eq_true hv0
          have g2 : (v == s) = false := by rw [beq_eq_false_iff_ne]; exact fun e => hin ⟨hv0, e⟩
          go_wp2_with fail
          go_roundw
          case rel => exact ⟨j + 1, P, by omega, by omega, by go_num, Lib.hid HL.out.symm, O2, B2⟩
          case measure => simp [intOf]; omega
        · have g1 : decide (v ≥ 0) = false := decide_eq_false hv0
          go_wp2_with fail
          go_roundw
          case rel => exact ⟨j + 1, P, by omega, by omega, by go_num, Lib.hid HL.out.symm, O2, B2⟩
          case measure => simp [intOf]; omega
    · have hjn : ws.take j = ws := List.take_of_length_le (by omega)
      have hP2 := hP.out
      rw [hjn] at hP2
      have HP := Lib.hid hP2
      clear hP hP2 hjn
      obtain ⟨a4, c4, rfl⟩ : ∃ a4 c4, u7 = .slice a4 P.length c4 := by
        rcases hO.out.2 with ⟨h, h0⟩ | ⟨g', c', cur, h, _⟩
        · exact ⟨none, 0, by rw [h, h0]⟩
        · exact ⟨_, c', h⟩
      go_wp2_with fail
      go_ret
      exact ret_own HP.out rfl hO.out hB.out _ rfl
set_option maxHeartbeats 1600000 in
theorem pwordsZ_any (c : Cfg) (x : Int) (zs : List Tx) (k : Nat) (w : World) (h : CfgOk w c) (hk : c.kn ≤ 10) (hw : c.wn ≤ 80) (hz : sliceZ c.ks c.ws x = zs) (hl : zs.length = k) :
    Calls Tryz.prog 43 #[.agg #[.slice c.wa c.wn c.wc, .slice c.ka c.kn c.kc, .int .i64 c.W, .int .i64 c.C, .int .i64 c.S, .int .i64 c.B, .int .i64 c.L, .int .i64 c.H, .int .i64 c.F, .int .i64 c.P, .int .i64 c.J, .int .i64 c.N], .int .i64 x] w fun e w' => ∃ a' c', e = .returned (.slice a' k c') ∧ w'.ownsRow w.heap.size 9 1 (.slice a' k c') k (strsV zs) ∧ Below w.heap.size w w' := by
  have BX := Lib.hid (below_one w (.cells #[.slice c.wa c.wn c.wc, .slice c.ka c.kn c.kc, .int .i64 c.W, .int .i64 c.C, .int .i64 c.S, .int .i64 c.B, .int .i64 c.L, .int .i64 c.H, .int .i64 c.F, .int .i64 c.P, .int .i64 c.J, .int .i64 c.N] 25))
  have IN := Lib.hid (cfgIn_new w c w.heap.size 25 (0, 0) rfl)
  have ok := h.below BX.out
  have CS := Lib.hid (sliceZ_any c.ka c.kn c.kc c.ks c.wa c.wn c.wc c.ws x _ ok.2.2.2.2.2.1 ok.1 (by omega) (by omega) ok.2.2.2.2.1)
  rw [hz] at CS
  unfold RetO at CS
  rw [hl] at CS
  clear ok h hk hw hz hl
  go_enter Tryz.func43, Tryz.ntmps43
  go_wp2_with fail
  with_reducible refine CS.out.mono ?_
  rintro e w2 ⟨a', c', rfl, ho, hb⟩
  have B2 := Lib.hid (BX.out.trans (hb.mono BX.out.size))
  have L2 := Lib.hid (show w2.ownsRow w.heap.size 9 1 (.slice a' k c') k (strsV zs) from by
    exact ⟨ho.1, ho.2.imp id (fun ⟨g, cap, cur, hv, hge, r⟩ => ⟨g, cap, cur, hv, Nat.le_trans BX.out.size hge, r⟩)⟩)
  clear hb ho
  go_wp2_with fail
  go_ret
  exact ⟨a', c', rfl, L2.out, B2.out⟩
end Go.Proofs.YtbbholdadgjelaaGreat
/- place and the document's place: of each call one contract for both -/
namespace Go.Proofs.YtbbholdadgjelaaGreat
open Go.RowKit
set_option linter.unusedVariables false
set_option maxRecDepth 20000
def RZn (w : World) (L : List Int) (n : Nat) (e : Ending) (w' : World) : Prop := ∃ a c, e = .returned (.slice a n c) ∧ w'.ownsRow w.heap.size 3 1 (.slice a n c) n (numsV L) ∧ Below w.heap.size w w'
theorem rzn_of {w w' : World} {L : List Int} {n : Nat} {e : Ending} (hl : L.length = n) (h : RetZ w L e w') : RZn w L n e w' := by
  subst hl; exact h
/-- bytes and an error, the call's own -/
def RIn (w : World) (I : List Nat) (m : Nat) (z : Int) (e : Ending) (w' : World) : Prop := ∃ a c, e = .returned (.tuple #[.slice a m c, .int .i64 z]) ∧ w'.ownsRow w.heap.size 5 1 (.slice a m c) m (bytesV I) ∧ HoldsB w' a m I ∧ Below w.heap.size w w'
def RTn (w : World) (zs : List Tx) (k : Nat) (e : Ending) (w' : World) : Prop := ∃ a c, e = .returned (.slice a k c) ∧ w'.ownsRow w.heap.size 9 1 (.slice a k c) k (strsV zs) ∧ Below w.heap.size w w'
def RTh (w : World) (zs : List Tx) (k : Nat) (e : Ending) (w' : World) : Prop := ∃ a c, e = .returned (.slice a k c) ∧ HoldsT w' a k zs ∧ Below w.heap.size w w'
theorem shards_may {c : Cfg} {x : Int} (h : 0 ≤ x ∧ x < (c.shards : Int)) : c.may = true ∧ ∃ s : Nat, x = (s : Int) ∧ s < c.kn + 1 := by
  obtain ⟨h0, h1⟩ := h
  unfold Cfg.shards at h1
  cases hm : c.may
  · rw [hm] at h1; simp at h1; omega
  · rw [hm] at h1
    refine ⟨rfl, x.toNat, by omega, ?_⟩
    simp at h1
    omega
theorem wc_parts {c : Cfg} (hm : c.may = true) : ∃ W C : Nat, c.W = (W : Int) ∧ c.C = (C : Int) ∧ C ≤ 3 := by
  obtain ⟨-, -, hw, hc, -⟩ := may_parts hm
  exact ⟨c.W.toNat, c.C.toNat, by omega, by omega, by omega⟩
theorem cop_both (c : Cfg) (x : Int) (w : World) (h : CfgOk w c) (hsm : c.small) : ∃ (L : List Int) (n : Nat), n ≤ 1000 ∧ (∀ w', Below w.heap.size w w' → Calls Tryz.prog 40 #[.agg #[.slice c.wa c.wn c.wc, .slice c.ka c.kn c.kc, .int .i64 c.W, .int .i64 c.C, .int .i64 c.S, .int .i64 c.B, .int .i64 c.L, .int .i64 c.H, .int .i64 c.F, .int .i64 c.P, .int .i64 c.J, .int .i64 c.N], .int .i64 x] w' (RZn w' L n)) ∧ (∀ w', Below w.heap.size w w' → Calls Tryz.prog 48 #[.agg #[.slice c.wa c.wn c.wc, .slice c.ka c.kn c.kc, .int .i64 c.W, .int .i64 c.C, .int .i64 c.S, .int .i64 c.B, .int .i64 c.L, .int .i64 c.H, .int .i64 c.F, .int .i64 c.P, .int .i64 c.J, .int .i64 c.N], .int .i64 x] w' (RZn w' L n)) := by
  by_cases hs : 0 ≤ x ∧ x < (c.shards : Int)
  · obtain ⟨hm, s, rfl, hk⟩ := shards_may hs
    obtain ⟨W, C, hW, hC, hC3⟩ := wc_parts hm
    exact ⟨Pl.cop W C s, C, by omega, fun w' hb => (copies_in c s W C w' (h.below hb) hm hk hW hC).mono fun _ _ => rzn_of (Pl.cop_len W C s), fun w' hb => (rcopies_in c s W C w' (h.below hb) hsm hm hk hW hC).mono fun _ _ => rzn_of (Pl.cop_len W C s)⟩
  · exact ⟨[], 0, by omega, fun w' hb => (pcopies_out c x w' (h.below hb) hs).mono fun _ _ => rzn_of rfl, fun w' hb => (rcopies_out c x w' (h.below hb) hsm hs).mono fun _ _ => rzn_of rfl⟩
theorem keep_both (c : Cfg) (x : Int) (w : World) (h : CfgOk w c) (hsm : c.small) : ∃ (L : List Int) (n : Nat), n ≤ 1000 ∧ (∀ w', Below w.heap.size w w' → Calls Tryz.prog 24 #[.agg #[.slice c.wa c.wn c.wc, .slice c.ka c.kn c.kc, .int .i64 c.W, .int .i64 c.C, .int .i64 c.S, .int .i64 c.B, .int .i64 c.L, .int .i64 c.H, .int .i64 c.F, .int .i64 c.P, .int .i64 c.J, .int .i64 c.N], .int .i64 x] w' (RZn w' L n)) ∧ (∀ w', Below w.heap.size w w' → Calls Tryz.prog 27 #[.agg #[.slice c.wa c.wn c.wc, .slice c.ka c.kn c.kc, .int .i64 c.W, .int .i64 c.C, .int .i64 c.S, .int .i64 c.B, .int .i64 c.L, .int .i64 c.H, .int .i64 c.F, .int .i64 c.P, .int .i64 c.J, .int .i64 c.N], .int .i64 x] w' (RZn w' L n)) := by
  cases hm : c.may
  · exact ⟨[], 0, by omega, fun w' hb => (pkeeps_out c x w' (h.below hb) hm).mono fun _ _ => rzn_of rfl, fun w' hb => (rkeeps_out c x w' (h.below hb) hsm hm).mono fun _ _ => rzn_of rfl⟩
  · obtain ⟨W, C, hW, hC, hC3⟩ := wc_parts hm
    refine ⟨natsZ (Pl.keep W C (c.kn + 1) x), (natsZ (Pl.keep W C (c.kn + 1) x)).length, ?_, fun w' hb => (keeps_any c x W C w' (h.below hb) hm hW hC).mono fun _ _ => rzn_of rfl, fun w' hb => (rkeeps_in c x W C w' (h.below hb) hsm hm hW hC).mono fun _ _ => rzn_of rfl⟩
    rw [natsZ_len]
    have := Pl.keep_len W C (c.kn + 1) x
    have := may_kn hm h
    omega
theorem words_both (c : Cfg) (x : Int) (w : World) (h : CfgOk w c) (hsm : c.small) (hk : c.kn ≤ 10) (hw : c.wn ≤ 80) : ∃ (zs : List Tx) (k : Nat), k ≤ 1000 ∧ (∀ w', Below w.heap.size w w' → Calls Tryz.prog 43 #[.agg #[.slice c.wa c.wn c.wc, .slice c.ka c.kn c.kc, .int .i64 c.W, .int .i64 c.C, .int .i64 c.S, .int .i64 c.B, .int .i64 c.L, .int .i64 c.H, .int .i64 c.F, .int .i64 c.P, .int .i64 c.J, .int .i64 c.N], .int .i64 x] w' (RTn w' zs k)) ∧ (c.may = true → ∀ w', Below w.heap.size w w' → Calls Tryz.prog 50 #[.agg #[.slice c.wa c.wn c.wc, .slice c.ka c.kn c.kc, .int .i64 c.W, .int .i64 c.C, .int .i64 c.S, .int .i64 c.B, .int .i64 c.L, .int .i64 c.H, .int .i64 c.F, .int .i64 c.P, .int .i64 c.J, .int .i64 c.N], .int .i64 x] w' (RTh w' zs k)) := by
  have hkl := h.2.2.2.2.2.1.len
  refine ⟨sliceZ c.ks c.ws x, (sliceZ c.ks c.ws x).length, ?_, fun w' hb => pwordsZ_any c x _ _ w' (h.below hb) hk hw rfl rfl, fun hm w' hb => ?_⟩
  · have h1 : (sliceZ c.ks c.ws x).length ≤ c.ws.length := List.length_filter_le _ _
    have := h.1.len
    omega
  · by_cases hs : 0 ≤ x ∧ x < (c.shards : Int)
    · obtain ⟨-, s, rfl, hks⟩ := shards_may hs
      rw [sliceZ_nat]
      exact (rpwords_in c s _ _ w' (h.below hb) hsm hm hks rfl rfl).mono fun _ _ ⟨a, cc, e, hl, hb⟩ => ⟨a, cc, e, hl.1, hb⟩
    · have hz : sliceZ c.ks c.ws x = [] := sliceZ_out _ _ _ (by unfold Cfg.shards at hs; rw [hm, if_pos rfl] at hs; rw [hkl]; exact hs)
      rw [hz]
      exact (rpwords_out c x w' (h.below hb) hsm hs).mono fun _ _ ⟨e, hb⟩ => ⟨none, 0, e, HoldsT.nil _ _, hb⟩
theorem image_both (c : Cfg) (x : Int) (w : World) (h : CfgOk w c) (hsm : c.small) : ∃ (I : List Nat) (m : Nat) (z : Int), m ≤ 524004 ∧ (∀ w', Below w.heap.size w w' → Calls Tryz.prog 25 #[.agg #[.slice c.wa c.wn c.wc, .slice c.ka c.kn c.kc, .int .i64 c.W, .int .i64 c.C, .int .i64 c.S, .int .i64 c.B, .int .i64 c.L, .int .i64 c.H, .int .i64 c.F, .int .i64 c.P, .int .i64 c.J, .int .i64 c.N], .int .i64 x] w' (RIn w' I m z)) ∧ (∀ w', Below w.heap.size w w' → Calls Tryz.prog 28 #[.agg #[.slice c.wa c.wn c.wc, .slice c.ka c.kn c.kc, .int .i64 c.W, .int .i64 c.C, .int .i64 c.S, .int .i64 c.B, .int .i64 c.L, .int .i64 c.H, .int .i64 c.F, .int .i64 c.P, .int .i64 c.J, .int .i64 c.N], .int .i64 x] w' (RIn w' I m z)) := by
  by_cases hs : 0 ≤ x ∧ x < (c.shards : Int)
  · obtain ⟨hm, s, rfl, hk⟩ := shards_may hs
    have hl := imgB_len (good_filter (may_parts hm).1 (fun t => decide (ofZ c.ks t = (s : Int))))
    exact ⟨imgB (grS (sliceS c.ks c.ws s)), (imgB (grS (sliceS c.ks c.ws s))).length, 0, hl.2,
      fun w' hb => (image_in c s _ _ _ w' (h.below hb) hm hk rfl rfl rfl).mono fun _ _ ⟨a, cc, e, ho, hh, _, hb⟩ => ⟨a, cc, e, ho, hh, hb⟩,
      fun w' hb => (rimage_in c s _ _ w' (h.below hb) hsm hm hk rfl rfl).mono fun _ _ ⟨a, cc, e, ho, hh, _, hb⟩ => ⟨a, cc, e, ho, hh, hb⟩⟩
  · exact ⟨[], 0, 4, by omega, fun w' hb => (pimage_out c x w' (h.below hb) hs).mono fun _ _ ⟨e, hb⟩ => ⟨none, 0, e, World.ownsRow_nil _ _ _ _, holdsB_nil _ _, hb⟩, fun w' hb => (rimage_out c x w' (h.below hb) hsm hs).mono fun _ _ ⟨e, hb⟩ => ⟨none, 0, e, World.ownsRow_nil _ _ _ _, holdsB_nil _ _, hb⟩⟩
end Go.Proofs.YtbbholdadgjelaaGreat
/- disk: the document's disk: New -/
namespace Go.Proofs.YtbbholdadgjelaaGreat
open Go.RowKit
set_option linter.unusedVariables false
set_option maxRecDepth 20000
structure NewG (c : Cfg) (K : List Nat) (G : List DM) : Prop where
  len : G.length = K.length
  img : ∀ j, j < K.length → (G.getD j dm0).sh = (K.getD j 0 : Nat) ∧ (G.getD j dm0).rb = imgC c (K.getD j 0) ∧ (G.getD j dm0).bb = imgC c (K.getD j 0)
theorem newG_nil (c : Cfg) : NewG c [] [] := ⟨rfl, fun j hj => by simp at hj⟩
theorem newG_put {c : Cfg} {K : List Nat} {G : List DM} (h : NewG c K G) (s : Nat) (x : DM) (h0 : x.sh = (s : Int)) (h1 : x.rb = imgC c s) (h2 : x.bb = imgC c s) : NewG c (K ++ [s]) (G ++ [x]) := by
  refine ⟨by simp [h.len], fun j hj => ?_⟩
  simp only [List.length_append, List.length_cons, List.length_nil, Nat.zero_add] at hj
  by_cases e : j < K.length
  · have := h.img j e
    simpa [List.getD_eq_getElem?_getD, List.getElem?_append_left e, List.getElem?_append_left (show j < G.length by rw [h.len]; exact e)] using this
  · obtain rfl : j = K.length := by omega
    have e1 : (K ++ [s]).getD K.length 0 = s := by simp [List.getD_eq_getElem?_getD]
    have e2 : (G ++ [x]).getD K.length dm0 = x := by rw [← h.len]; simp [List.getD_eq_getElem?_getD]
    rw [e1, e2]
    exact ⟨h0, h1, h2⟩
def RNewD (w : World) (c : Cfg) (K : List Nat) (e : Ending) (w' : World) : Prop := ∃ b G S, e = .returned (.tuple #[.pointer (some ⟨b, 0, none⟩), .int .i64 0]) ∧ RDAt w' b G 0 S ∧ (∀ k, S k → w.heap.size ≤ k) ∧ NewG c K G ∧ Below w.heap.size w w'
theorem holdsI_turn {w w' : World} {a : Option Addr} {n : Nat} {L : List Int} {F : Nat → Prop} (h : HoldsI .i64 w a n L) (t : Turn F w w') (hF : ∀ q o, a = some ⟨q, o, none⟩ → ¬ F q) : HoldsI .i64 w' a n L := by
  refine ⟨h.1, fun h0 => ?_⟩
  obtain ⟨b, o, ha, hc⟩ := h.2 h0
  exact ⟨b, o, ha, fun i hi => (World.cell?_of_block (w := w) (t.block b (lt_of_cell (hc i hi)) (hF b o ha))).trans (hc i hi)⟩
theorem bwd_turn {w0 w w' : World} {p : Nat} {c : Cfg} {F : Nat → Prop} (h : BWD w0 p c w) (t : Turn F w w') (hF : ∀ k, F k → w0.heap.size ≤ k ∧ k ≠ p) : BWD w0 p c w' :=
  ⟨h.1.trans (t.below (fun k hk => (hF k hk).1) h.1.size), h.2.of fun i => t.cell (lt_of_cell h.2.1) (fun hk => (hF p hk).2 rfl)⟩
theorem rdk_carry {wr w0 w' w'' : World} {p q o : Nat} {c : Cfg} {v : Value} (h : (Below wr.heap.size wr w' ∧ Below w0.heap.size w0 w' ∧ CfgIn w' p c) ∧ w'.cell? ⟨q, o, none⟩ = some v) (hb : Below w'.heap.size w' w'') : (Below wr.heap.size wr w'' ∧ Below w0.heap.size w0 w'' ∧ CfgIn w'' p c) ∧ w''.cell? ⟨q, o, none⟩ = some v :=
  ⟨⟨h.1.1.trans (hb.mono h.1.1.size), h.1.2.1.trans (hb.mono h.1.2.1.size), h.1.2.2.below hb⟩, (hb.cell (p := ⟨q, o, none⟩) (lt_of_cell h.2)).trans h.2⟩
theorem dm_info : (Tryz.prog.info? 70).map (fun i => (i.zero, i.size, i.bytes)) = some (some (.agg #[.int .i64 0, .slice none 0 0, .slice none 0 0]), 3, 56) := by kernel_rfl
theorem rdnew_bad (c : Cfg) (x : Int) (z : Bool) (w : World) (h : CfgOk w c) (hs : c.small) (hz : c.may = z) (hb : z = false ∨ x < 1 ∨ c.W < x) :
    Calls Tryz.prog 7 #[.agg #[.slice c.wa c.wn c.wc, .slice c.ka c.kn c.kc, .int .i64 c.W, .int .i64 c.C, .int .i64 c.S, .int .i64 c.B, .int .i64 c.L, .int .i64 c.H, .int .i64 c.F, .int .i64 c.P, .int .i64 c.J, .int .i64 c.N], .int .i64 x] w fun e w' => e = .returned (.tuple #[.pointer none, .int .i64 2]) ∧ Below w.heap.size w w' := by
  have BX := Lib.hid (below_one w (.cells #[.slice c.wa c.wn c.wc, .slice c.ka c.kn c.kc, .int .i64 c.W, .int .i64 c.C, .int .i64 c.S, .int .i64 c.B, .int .i64 c.L, .int .i64 c.H, .int .i64 c.F, .int .i64 c.P, .int .i64 c.J, .int .i64 c.N] 25))
  have IN := Lib.hid (cfgIn_new w c w.heap.size 25 (0, 0) rfl)
  have CM := Lib.hid (rmay_cfg c z _ (h.below BX.out) hs hz)
  clear h hs hz
  have fin : ∀ (z1 z2 : Bool), decide (x < 1) = z1 → decide (x > c.W) = z2 → decide (c.W < x) = z2 → (z = false ∨ z1 = true ∨ z2 = true) →
      Calls Tryz.prog 7 #[.agg #[.slice c.wa c.wn c.wc, .slice c.ka c.kn c.kc, .int .i64 c.W, .int .i64 c.C, .int .i64 c.S, .int .i64 c.B, .int .i64 c.L, .int .i64 c.H, .int .i64 c.F, .int .i64 c.P, .int .i64 c.J, .int .i64 c.N], .int .i64 x] w fun e w' => e = .returned (.tuple #[.pointer none, .int .i64 2]) ∧ Below w.heap.size w w' := by
    intro z1 z2 e1 e2 e3 hc
    clear hb
    go_enter Tryz.func7, Tryz.ntmps7
    go_upto_region 1 with fail
    generalize w.alloc (.cells #[.slice c.wa c.wn c.wc, .slice c.ka c.kn c.kc, .int .i64 c.W, .int .i64 c.C, .int .i64 c.S, .int .i64 c.B, .int .i64 c.L, .int .i64 c.H, .int .i64 c.F, .int .i64 c.P, .int .i64 c.J, .int .i64 c.N] 25) = w1 at *
    obtain ⟨p, hp⟩ : ∃ p, w.heap.size = p := ⟨_, rfl⟩
    have HP := Lib.hid hp
    rw [hp] at IN
    try simp only [hp]
    have hI := IN.out
    unfold CfgIn at hI
    obtain ⟨i0, i1, i2, i3, i4, i5, i6, i7, i8, i9, i10, i11⟩ := hI
    clear hp
    go_wp2_with fail
    refine CM.out.mono ?_
    rintro e w2 ⟨rfl, hb2⟩
    have B2 := Lib.hid (BX.out.trans (hb2.mono BX.out.size))
    have I2 := Lib.hid (IN.out.below hb2)
    clear hb2 CM i0 i1 i2 i3 i4 i5 i6 i7 i8 i9 i10 i11
    have hI := I2.out
    unfold CfgIn at hI
    obtain ⟨i0, i1, i2, i3, i4, i5, i6, i7, i8, i9, i10, i11⟩ := hI
    cases z <;> cases z1 <;> cases z2
    all_goals first
      | (exfalso; simp at hc; done)
      | (clear hc
         go_wp2_with fail
         exact bodyPost_ret (v := .tuple #[.pointer none, .int .i64 2]) (by simp [results, go_sem]) rfl ⟨rfl, B2.out⟩)
  exact fin _ _ rfl rfl rfl (hb.imp id (fun h => h.imp (fun h => decide_eq_true h) (fun h => decide_eq_true h)))
set_option maxHeartbeats 6400000 in
set_option maxRecDepth 100000 in
theorem rdnew_good (c : Cfg) (x : Int) (W C : Nat) (K : List Nat) (w : World) (h : CfgOk w c) (hsm : c.small) (hm : c.may = true) (hW : c.W = (W : Int)) (hC : c.C = (C : Int)) (hx1 : 1 ≤ x) (hx2 : x ≤ c.W) (hK : Pl.keep W C (c.kn + 1) x = K) :
    Calls Tryz.prog 7 #[.agg #[.slice c.wa c.wn c.wc, .slice c.ka c.kn c.kc, .int .i64 c.W, .int .i64 c.C, .int .i64 c.S, .int .i64 c.B, .int .i64 c.L, .int .i64 c.H, .int .i64 c.F, .int .i64 c.P, .int .i64 c.J, .int .i64 c.N], .int .i64 x] w (RNewD w c K) := by
  obtain ⟨i0, hi0, hz0, hz1, hz2⟩ := info_parts dm_info
  have BX := Lib.hid (below_one w (.cells #[.slice c.wa c.wn c.wc, .slice c.ka c.kn c.kc, .int .i64 c.W, .int .i64 c.C, .int .i64 c.S, .int .i64 c.B, .int .i64 c.L, .int .i64 c.H, .int .i64 c.F, .int .i64 c.P, .int .i64 c.J, .int .i64 c.N] 25))
  have IN := Lib.hid (cfgIn_new w c w.heap.size 25 (0, 0) rfl)
  have OK := Lib.hid h
  have CM := Lib.hid (fun w' (hb : Below w.heap.size w w') => rmay_cfg c true w' (OK.out.below hb) hsm hm)
  have hkn := may_kn hm h
  have KN := Lib.hid hkn
  have KM := Lib.hid (show ∀ s ∈ K, s < c.kn + 1 from fun s hs => by rw [← hK] at hs; exact (Pl.keep_mem hs).1)
  have hk6 : K.length ≤ 6 := by
    rw [← hK]
    have := Pl.keep_len W C (c.kn + 1) x
    omega
  have CK := Lib.hid (fun w' (hb : Below w.heap.size w w') => (show Calls Tryz.prog 27 #[.agg #[.slice c.wa c.wn c.wc, .slice c.ka c.kn c.kc, .int .i64 c.W, .int .i64 c.C, .int .i64 c.S, .int .i64 c.B, .int .i64 c.L, .int .i64 c.H, .int .i64 c.F, .int .i64 c.P, .int .i64 c.J, .int .i64 c.N], .int .i64 x] w' (RetZ w' (natsZ K)) from hK ▸ rkeeps_in c x W C w' (OK.out.below hb) hsm hm hW hC))
  have CI := Lib.hid (fun w' (s m : Nat) (I : List Nat) (hs : s < c.kn + 1) (hI : imgC c s = I) (hl : I.length = m) (hb : Below w.heap.size w w') => rimage_in c s I m w' (OK.out.below hb) hsm hm hs hI hl)
  have GL := Lib.hid (show ∀ s : Nat, 10 ≤ (imgC c s).length ∧ (imgC c s).length ≤ 524004 from fun s => imgB_len (good_filter (may_parts hm).1 _))
  obtain ⟨k, hkl⟩ : ∃ k, K.length = k := ⟨_, rfl⟩
  rw [hkl] at hk6
  have HKL := Lib.hid hkl
  unfold RetZ at CK
  rw [natsZ_len, hkl] at CK
  have d1 : decide (x < 1) = false := decide_eq_false (by omega)
  have d2 : decide (c.W < x) = false := decide_eq_false (by omega)
  have d3 : decide (x > c.W) = false := decide_eq_false (by omega)
  clear h hsm hm hW hC hK hx1 hx2 hkn hkl
  go_enter Tryz.func7, Tryz.ntmps7
  go_upto_region 1 with fail
  generalize w.alloc (.cells #[.slice c.wa c.wn c.wc, .slice c.ka c.kn c.kc, .int .i64 c.W, .int .i64 c.C, .int .i64 c.S, .int .i64 c.B, .int .i64 c.L, .int .i64 c.H, .int .i64 c.F, .int .i64 c.P, .int .i64 c.J, .int .i64 c.N] 25) = w1 at *
  obtain ⟨p, hp⟩ : ∃ p, w.heap.size = p := ⟨_, rfl⟩
  have HP := Lib.hid hp
  rw [hp] at IN
  try simp only [hp]
  have hI := IN.out
  unfold CfgIn at hI
  obtain ⟨i0', i1, i2, i3, i4, i5, i6, i7, i8, i9, i10, i11⟩ := hI
  have CM1 := Lib.hid (CM.out w1 BX.out)
  clear CM hp
  go_wp2_with fail
  with_reducible refine CM1.out.mono ?_
  rintro e w2 ⟨rfl, hb2⟩
  have B2 := Lib.hid (bwd_carry (w0 := w) (p := p) (c := c) ⟨BX.out, IN.out⟩ hb2)
  clear hb2 CM1 i0' i1 i2 i3 i4 i5 i6 i7 i8 i9 i10 i11 IN BX
  have hI := B2.out.2
  unfold CfgIn at hI
  obtain ⟨i0', i1, i2, i3, i4, i5, i6, i7, i8, i9, i10, i11⟩ := hI
  go_upto_region 4 with fail
  have hbd := below_one w2 (.cells #[.slice none 0 0, .int .i64 0] 45)
  have D0 := Lib.hid (show RDAt (w2.alloc (.cells #[.slice none 0 0, .int .i64 0] 45)) w2.heap.size [] 0 (fun k => k = w2.heap.size) from
    ⟨none, 0, by rw [cell_alloc rfl]; rfl, by rw [cell_alloc rfl]; rfl, fun i => frozen_alloc rfl, World.ownsRow_nil _ _ _ _, fun x hx => by simp at hx, rfl, fun g hg => (by cases hg), fun k hk => by simp; omega⟩)
  have B3 := Lib.hid (bwd_carry B2.out hbd)
  have PL := Lib.hid (show p < w2.heap.size from lt_of_cell B2.out.2.1)
  clear hbd i0' i1 i2 i3 i4 i5 i6 i7 i8 i9 i10 i11
  obtain ⟨w3, hw3⟩ : ∃ w3, w2.alloc (.cells #[.slice none 0 0, .int .i64 0] 45) = w3 := ⟨_, rfl⟩
  rw [hw3] at D0 B3 ⊢
  clear hw3
  have SZ := Lib.hid B2.out.1.size
  clear B2
  generalize w2.heap.size = d at *
  have hI := B3.out.2
  unfold CfgIn at hI
  obtain ⟨i0', i1, i2, i3, i4, i5, i6, i7, i8, i9, i10, i11⟩ := hI
  have CK1 := Lib.hid (CK.out w3 B3.out.1)
  clear CK
  go_wp2_with fail
  with_reducible refine CK1.out.mono ?_
  rintro e w4 ⟨ka, kc, rfl, ho, hb4⟩
  have KH := Lib.hid (holdsZ_own ho)
  have B4 := Lib.hid (bwd_carry B3.out hb4)
  have D4 := Lib.hid (D0.out.below hb4)
  have KA := Lib.hid (show ∀ q o, ka = some ⟨q, o, none⟩ → q ≠ d from fun q o e => by
    rcases Joins.ownsRow_forms ho with ⟨e1, _⟩ | ⟨g, cap, e1⟩
    · injection e1 with e2; rw [e] at e2; cases e2
    · injection e1 with e2; rw [e] at e2; injection e2 with e2; injection e2 with e2 e3; subst e2; subst e3; rw [e] at ho
      have h1 : w3.heap.size ≤ q := (ho.lt _ rfl).1
      have h2 := D0.out.lt d rfl
      omega)
  clear ho hb4 CK1 D0 B3 i0' i1 i2 i3 i4 i5 i6 i7 i8 i9 i10 i11
  go_wp2_with fail
  go_loopw [8] (fun iv wr => ∃ (j : Nat) (G : List DM) (S : Nat → Prop), j ≤ k ∧ iv = .int .i64 j ∧ Hid (G.length = j) ∧ Hid (NewG c (K.take j) G) ∧ Hid (RDAt wr d G 0 S) ∧ Hid (∀ k, S k → d ≤ k) ∧ Hid (BWD w p c wr) ∧ Hid (HoldsI .i64 wr ka k (natsZ K) ∧ ∀ q o, ka = some ⟨q, o, none⟩ → ¬ S q)) (fun iv _ => k - (intOf iv).toNat)
  case atStart => exact ⟨0, [], fun k => k = d, by omega, rfl, Lib.hid rfl, Lib.hid (by rw [List.take_zero]; exact newG_nil c), D4, Lib.hid (fun k hk => by omega), B4, Lib.hid ⟨KH.out, fun q o e hq => KA.out q o e hq⟩⟩
  case round =>
    clear D4 B4 KH KA
    obtain ⟨j, G, S, hj, rfl, hGl, hG, hD, hSd, hB, hK⟩ := hrel
    by_cases hlt : j < k
    · obtain ⟨qb, qo, rfl, hcc⟩ := hK.out.1.at (by omega)
      have x0 := hcc j hlt
      rw [natsZ_at] at x0
      obtain ⟨s, hs⟩ : ∃ s, K.getD j 0 = s := ⟨_, rfl⟩
      rw [hs] at x0
      have hsK : s ∈ K := by
        rw [← hs, List.getD_eq_getElem?_getD, List.getElem?_eq_getElem (by rw [HKL.out]; exact hlt)]; exact List.getElem_mem _
      have hsn := KM.out s hsK
      have HS := Lib.hid (show K.take (j + 1) = K.take j ++ [s] from by rw [take_nat (by rw [HKL.out]; exact hlt), hs])
      obtain ⟨I, hII⟩ : ∃ I, imgC c s = I := ⟨_, rfl⟩
      obtain ⟨m, hm⟩ : ∃ m, I.length = m := ⟨_, rfl⟩
      obtain ⟨m10, m52⟩ := GL.out s
      rw [hII, hm] at m10 m52
      have CI1 := Lib.hid (fun w' (hb : Below w.heap.size w w') => CI.out w' s m I hsn hII hm hb)
      have HM := Lib.hid hm
      have HI := Lib.hid hII
      have n1 : (0 : Int) ≤ (j : Int) := by omega
      have n2 : (j : Int) < (k : Int) := by omega
      have LK := Lib.hid (lt_of_cell x0)
      clear hcc hs hsK hII hm
      go_upto_region 8 with fail
      go_cut [9, 10] from 35 to 43 (fun u v wc => ∃ a5 c5, u = .slice a5 m c5 ∧ v = .int .i64 0 ∧ Hid (HoldsB wc a5 m I ∧ (∀ fb fo, a5 = some ⟨fb, fo, none⟩ → wr.heap.size ≤ fb ∧ fb < wc.heap.size) ∧ Below wr.heap.size wr wc))
      case first =>
        have SB := Lib.hid (show ((Below wr.heap.size wr wr.drew ∧ Below w.heap.size w wr.drew ∧ wr.drew.cell? ⟨p, 0, none⟩ = some (.slice c.wa c.wn c.wc) ∧ wr.drew.cell? ⟨p, 1, none⟩ = some (.slice c.ka c.kn c.kc) ∧ wr.drew.cell? ⟨p, 2, none⟩ = some (.int .i64 c.W) ∧ wr.drew.cell? ⟨p, 3, none⟩ = some (.int .i64 c.C) ∧ wr.drew.cell? ⟨p, 4, none⟩ = some (.int .i64 c.S) ∧ wr.drew.cell? ⟨p, 5, none⟩ = some (.int .i64 c.B) ∧ wr.drew.cell? ⟨p, 6, none⟩ = some (.int .i64 c.L) ∧ wr.drew.cell? ⟨p, 7, none⟩ = some (.int .i64 c.H) ∧ wr.drew.cell? ⟨p, 8, none⟩ = some (.int .i64 c.F) ∧ wr.drew.cell? ⟨p, 9, none⟩ = some (.int .i64 c.P) ∧ wr.drew.cell? ⟨p, 10, none⟩ = some (.int .i64 c.J) ∧ wr.drew.cell? ⟨p, 11, none⟩ = some (.int .i64 c.N)) ∧ wr.drew.cell? ⟨qb, qo + j, none⟩ = some (.int .i64 (s : Int))) from ⟨⟨(Below.refl _ _).drew, hB.out.1.drew, hB.out.2⟩, x0⟩)
        go_region_held3 (fun w' => (Below wr.heap.size wr w' ∧ Below w.heap.size w w' ∧ w'.cell? ⟨p, 0, none⟩ = some (.slice c.wa c.wn c.wc) ∧ w'.cell? ⟨p, 1, none⟩ = some (.slice c.ka c.kn c.kc) ∧ w'.cell? ⟨p, 2, none⟩ = some (.int .i64 c.W) ∧ w'.cell? ⟨p, 3, none⟩ = some (.int .i64 c.C) ∧ w'.cell? ⟨p, 4, none⟩ = some (.int .i64 c.S) ∧ w'.cell? ⟨p, 5, none⟩ = some (.int .i64 c.B) ∧ w'.cell? ⟨p, 6, none⟩ = some (.int .i64 c.L) ∧ w'.cell? ⟨p, 7, none⟩ = some (.int .i64 c.H) ∧ w'.cell? ⟨p, 8, none⟩ = some (.int .i64 c.F) ∧ w'.cell? ⟨p, 9, none⟩ = some (.int .i64 c.P) ∧ w'.cell? ⟨p, 10, none⟩ = some (.int .i64 c.J) ∧ w'.cell? ⟨p, 11, none⟩ = some (.int .i64 c.N)) ∧ w'.cell? ⟨qb, qo + j, none⟩ = some (.int .i64 (s : Int)))
          (first | assumption | exact SB.out | exact rdk_carry (c := c) (by assumption) (by assumption))
          (first
            | (go_at_call 28; (with_reducible refine (CI1.out _ (And.left (And.right (And.left (by assumption))))).mono ?_); rintro e w5 ⟨a5, c5, rfl, o5, h5, hc5, hb5⟩)
            | fail)
        all_goals
          have Q5 := Lib.hid (show HoldsB w5 a5 m I ∧ (∀ fb fo, a5 = some ⟨fb, fo, none⟩ → wr.heap.size ≤ fb ∧ fb < w5.heap.size) ∧ Below wr.heap.size wr w5 from ⟨h5, fun fb fo e => by
            obtain ⟨q, cp, hv⟩ := Joins.ownsRow_form o5 (by omega)
            simp only [Value.slice.injEq, true_and] at hv
            obtain ⟨rfl, -⟩ := hv
            injection e with e; injection e with e; subst e
            have := o5.lt _ rfl
            simpa using this, (Below.refl _ _).drew.trans hb5⟩)
          clear o5 h5 hc5 hb5 SB
          go_wp2_with fail
          go_meet
          exact ⟨a5, c5, rfl, rfl, Q5⟩
      case rest =>
        obtain ⟨a5, c5, rfl, rfl, hQ⟩ := hcut
        have Q5 := Lib.hid hQ.out
        obtain ⟨a, ca, R⟩ := hD.out
        have c0 := R.1
        have SDm := Lib.hid (hD.out.lt d hD.out.has)
        have C0 := Lib.hid R.1
        rw [hGl.out] at c0
        have k0 : wc.cell? ⟨d, 0, none⟩ = some (.slice a j ca) := (Q5.out.2.2.cell (p := ⟨d, 0, none⟩) SDm.out).trans c0
        have k2 := fun o => c0_carry k0 (below_one wc o)
        have k1 : wc.drew.cell? ⟨d, 0, none⟩ = some (.slice a j ca) := k0
        have y0 : wc.drew.cell? ⟨qb, qo + j, none⟩ = some (.int .i64 (s : Int)) := (Q5.out.2.2.cell (p := ⟨qb, qo + j, none⟩) LK.out).trans x0
        have OW := Lib.hid (show wc.drew.ownsRow 0 70 3 (.slice a j ca) j (dmV G) from by
          have := owns_below R.2.2.2.1 (Q5.out.2.2.drew)
          rw [hGl.out] at this; exact this)
        have AB := Lib.hid (show ∀ o w6, (wc.drew.alloc o).grownBy w6 (Value.slice a j ca).ownBlock → w6.cell? ⟨d, 0, none⟩ = some (.slice a j ca) ∧ w6.frozen? ⟨d, 0, none⟩ = false from fun o w6 hg => by
          have lb := SDm.out
          have hz := Q5.out.2.2.size
          have ob := ((hg.block d (by simp; omega) (fun e => (R.2.2.2.2.2.2.1 d (ownb OW.out e)).2 rfl)).trans (Below.heap_alloc _ _ _ (by simp; omega))).trans (Q5.out.2.2.block d lb)
          exact ⟨(World.cell?_of_block (w := wr) ob).trans (by rw [← hGl.out]; exact C0.out), (World.frozen?_of_block (w := wr) ob).trans (R.2.2.1 0)⟩)
        clear R c0 hQ x0
        go_upto_region 9 with fail
        go_region_law
          (refine step_append_lies _ (by rfl) _ _ _ (by rfl) 0 70 i0 _ 3 56 Tryz.underlying43 hi0 hz0 hz1 hz2 rfl (by omega) (.slice a j ca) j (dmV G) (by rfl) (OW.out.alloc _) ⟨wc.heap.size, 0, none⟩ 1 1 [.int .i64 (s : Int), .slice a5 m c5, .slice a5 m c5] (by rfl) (by rfl) (World.news_of_block (cs := #[.int .i64 (s : Int), .slice a5 m c5, .slice a5 m c5]) (t := 70) (fr := (0, 0)) (heap_alloc_new wc.drew _)) (by simp [Value.oneCell']) (by omega) (by unfold maxLen; omega) (by omega) (by omega) (wc.heap.size + 1) (by simp) ?_; intro g3 c3 w6 hown6 hgrow6 hat6 hlt6; obtain ⟨x0, x1⟩ := AB.out _ _ hgrow6)
        all_goals
          have GR := Lib.hid (RDAt.grown (x := ⟨(s : Int), a5, m, c5, I, a5, m, c5, I⟩) (g := g3) (cap := c3) hD.out C0.out Q5.out.2.2.drew (Q5.out.1.below (Below.refl _ _).drew) ⟨rfl, rfl, rfl⟩ ⟨m10, m52⟩ (fun fb fo e => Q5.out.2.1 fb fo e) (by rw [hGl.out, dmV_app]; exact hown6) (by rw [hGl.out]; exact hgrow6) (by rw [hGl.out]; exact hat6.imp id (fun e => by simp; exact e)) hlt6)
          rw [hGl.out] at GR
          have LE := Lib.hid (show (G ++ [(⟨(s : Int), a5, m, c5, I, a5, m, c5, I⟩ : DM)]).length = j + 1 from by rw [List.length_append, hGl.out]; rfl)
          have NG := Lib.hid (show NewG c (K.take (j + 1)) (G ++ [(⟨(s : Int), a5, m, c5, I, a5, m, c5, I⟩ : DM)]) from by rw [HS.out]; exact newG_put hG.out s _ rfl HI.out.symm HI.out.symm)
          have S1 := Lib.hid (show ∀ q, (S q ∨ (wr.heap.size ≤ q ∧ q < w6.heap.size)) → d ≤ q from fun q hq => hq.elim (fun h => hSd.out q h) (fun h => by have := SDm.out; omega))
          have B1 := Lib.hid (bwd_turn hB.out GR.out.2 (fun q hq => by have h1 := hSd.out q hq; have h2 := SZ.out; have h3 := PL.out; exact ⟨by omega, by omega⟩))
          have H1 := Lib.hid (And.intro (holdsI_turn hK.out.1 GR.out.2 hK.out.2) (show ∀ q o, some (⟨qb, qo, none⟩ : Addr) = some ⟨q, o, none⟩ → ¬ (S q ∨ (wr.heap.size ≤ q ∧ q < w6.heap.size)) from fun q o e hq => by
            rcases hq with hq | hq
            · exact hK.out.2 q o e hq
            · injection e with e; injection e with e; have := LK.out; omega))
          have D1 := Lib.hid GR.out.1
          clear GR hown6 hgrow6 hat6 hlt6 OW AB C0 Q5 hD hB hK hG hGl hSd x1 k0 k1 k2 y0
          clear x0
          go_wp2_with fail
          go_roundw
          case rel => exact ⟨j + 1, _, _, by omega, by go_num, LE, NG, D1, S1, B1, H1⟩
          case measure => simp [intOf] <;> omega
    · have hkn : ¬ (j : Int) < (k : Int) := by omega
      obtain rfl : j = k := by omega
      have KT : K.take j = K := by rw [← HKL.out]; exact List.take_length
      have NG := Lib.hid (show NewG c K G from by have := hG.out; rw [KT] at this; exact this)
      have SS := Lib.hid (show ∀ q, S q → w.heap.size ≤ q from fun q hq => Nat.le_trans SZ.out (hSd.out q hq))
      clear KT hG hSd hK
      go_wp2_with fail
      exact bodyPost_ret (v := .tuple #[.pointer (some ⟨d, 0, none⟩), .int .i64 0]) (by simp [results, go_sem]) rfl ⟨d, G, S, rfl, hD.out, SS.out, NG.out, hB.out.1⟩
end Go.Proofs.YtbbholdadgjelaaGreat
/- disk: an act, opened -/
namespace Go.Proofs.YtbbholdadgjelaaGreat
open Go.ChangeShapes Go.WideShapes Go.ChangeAt Go.RowKit
set_option linter.unusedVariables false
set_option maxRecDepth 20000
structure DActV where
  q : Int
  s : Int
  a : Int
  x : Int
def DActOk (x : DActV) : Prop := wfI x.q ∧ wfI x.s ∧ wfI x.a ∧ wfI x.x
def dactCells (x : DActV) : List Value := [.int .i64 x.q, .int .i64 x.s, .int .i64 x.a, .int .i64 x.x]
theorem cells_dact : Tryz.prog.cellsOf 38 = 4 := by kernel_rfl
theorem cells_dint : Tryz.prog.cellsOf 3 = 1 := by kernel_rfl
theorem dact_of {H : Type} {enc : TypeId × Value → H} {w : World} {base : Nat} {spare : Nat → Bool} {held : Bool} {fuel : Nat} {cs : List Value} {x : DataW H × List MemPlace}
    (h : DataW.trod enc Tryz.prog w base spare held fuel 38 cs = some x) : ∃ x : DActV, DActOk x ∧ cs = dactCells x := by
  obtain ⟨hl, n, hf⟩ := struct_cells Tryz.underlying38 h
  rw [cells_dact] at hl
  obtain ⟨c0, c1, c2, c3, rfl⟩ : ∃ c0 c1 c2 c3, cs = [c0, c1, c2, c3] := by
    match cs, hl with
    | [a, b, c, d], _ => exact ⟨a, b, c, d, rfl⟩
  obtain ⟨y0, z0⟩ := hf 0 _ rfl
  obtain ⟨y1, z1⟩ := hf 1 _ rfl
  obtain ⟨y2, z2⟩ := hf 2 _ rfl
  obtain ⟨y3, z3⟩ := hf 3 _ rfl
  obtain ⟨k0, h0, _, b0⟩ := DataW.trod_int Tryz.underlying3 z0
  obtain ⟨k1, h1, _, b1⟩ := DataW.trod_int Tryz.underlying3 z1
  obtain ⟨k2, h2, _, b2⟩ := DataW.trod_int Tryz.underlying3 z2
  obtain ⟨k3, h3, _, b3⟩ := DataW.trod_int Tryz.underlying3 z3
  simp [cells_dint] at h0 h1 h2 h3
  subst h0 h1 h2 h3
  exact ⟨⟨k0, k1, k2, k3⟩, ⟨b0, b1, b2, b3⟩, rfl⟩
theorem open_dact {H : Type} {enc : TypeId × Value → H} {w : World} {base : Nat} {spare : Nat → Bool} {held : Bool} {r : Reach} {b0 : Nat} {v : Value} {d : DataW H} {p : List MemPlace}
    (hv : Value.okWide Tryz.prog w r b0 38 v) (h : DataW.Trod enc Tryz.prog w base spare held 38 v d p) :
    ∃ x : DActV, DActOk x ∧ v = .agg #[.int .i64 x.q, .int .i64 x.s, .int .i64 x.a, .int .i64 x.x] := by
  obtain ⟨cs, rfl, hsz⟩ := okWide_struct Tryz.underlying38 hv
  obtain ⟨fuel, hf⟩ := h
  obtain ⟨x, hx, h1⟩ := dact_of hf
  refine ⟨x, hx, ?_⟩
  congr 1
  apply Array.toList_inj.1
  simpa [Value.cells, dactCells] using h1
end Go.Proofs.YtbbholdadgjelaaGreat
/- disk: the program's disk and the document's, beside one another -/
namespace Go.Proofs.YtbbholdadgjelaaGreat
open Go.RowKit
set_option linter.unusedVariables false
set_option maxRecDepth 20000
theorem dnew_bad (c : Cfg) (x : Int) (z : Bool) (w : World) (h : CfgOk w c) (hz : c.may = z) (hb : z = false ∨ x < 1 ∨ c.W < x) :
    Calls Tryz.prog 6 #[.agg #[.slice c.wa c.wn c.wc, .slice c.ka c.kn c.kc, .int .i64 c.W, .int .i64 c.C, .int .i64 c.S, .int .i64 c.B, .int .i64 c.L, .int .i64 c.H, .int .i64 c.F, .int .i64 c.P, .int .i64 c.J, .int .i64 c.N], .int .i64 x] w fun e w' => e = .returned (.tuple #[.pointer none, .int .i64 2]) ∧ Below w.heap.size w w' := by
  have BX := Lib.hid (below_one w (.cells #[.slice c.wa c.wn c.wc, .slice c.ka c.kn c.kc, .int .i64 c.W, .int .i64 c.C, .int .i64 c.S, .int .i64 c.B, .int .i64 c.L, .int .i64 c.H, .int .i64 c.F, .int .i64 c.P, .int .i64 c.J, .int .i64 c.N] 25))
  have IN := Lib.hid (cfgIn_new w c w.heap.size 25 (0, 0) rfl)
  have CM := Lib.hid (may_cfg c z _ (h.below BX.out) hz)
  clear h hz
  have fin : ∀ (z1 z2 : Bool), decide (x < 1) = z1 → decide (x > c.W) = z2 → decide (c.W < x) = z2 → (z = false ∨ z1 = true ∨ z2 = true) →
      Calls Tryz.prog 6 #[.agg #[.slice c.wa c.wn c.wc, .slice c.ka c.kn c.kc, .int .i64 c.W, .int .i64 c.C, .int .i64 c.S, .int .i64 c.B, .int .i64 c.L, .int .i64 c.H, .int .i64 c.F, .int .i64 c.P, .int .i64 c.J, .int .i64 c.N], .int .i64 x] w fun e w' => e = .returned (.tuple #[.pointer none, .int .i64 2]) ∧ Below w.heap.size w w' := by
    intro z1 z2 e1 e2 e3 hc
    clear hb
    go_enter Tryz.func6, Tryz.ntmps6
    go_upto_region 1 with fail
    generalize w.alloc (.cells #[.slice c.wa c.wn c.wc, .slice c.ka c.kn c.kc, .int .i64 c.W, .int .i64 c.C, .int .i64 c.S, .int .i64 c.B, .int .i64 c.L, .int .i64 c.H, .int .i64 c.F, .int .i64 c.P, .int .i64 c.J, .int .i64 c.N] 25) = w1 at *
    obtain ⟨p, hp⟩ : ∃ p, w.heap.size = p := ⟨_, rfl⟩
    have HP := Lib.hid hp
    rw [hp] at IN
    try simp only [hp]
    have hI := IN.out
    unfold CfgIn at hI
    obtain ⟨i0, i1, i2, i3, i4, i5, i6, i7, i8, i9, i10, i11⟩ := hI
    clear hp
    go_wp2_with fail
    refine CM.out.mono ?_
    rintro e w2 ⟨rfl, hb2⟩
    have B2 := Lib.hid (BX.out.trans (hb2.mono BX.out.size))
    have I2 := Lib.hid (IN.out.below hb2)
    clear hb2 CM i0 i1 i2 i3 i4 i5 i6 i7 i8 i9 i10 i11
    have hI := I2.out
    unfold CfgIn at hI
    obtain ⟨i0, i1, i2, i3, i4, i5, i6, i7, i8, i9, i10, i11⟩ := hI
    cases z <;> cases z1 <;> cases z2
    all_goals first
      | (exfalso; simp at hc; done)
      | (clear hc
         go_wp2_with fail
         exact bodyPost_ret (v := .tuple #[.pointer none, .int .i64 2]) (by simp [results, go_sem]) rfl ⟨rfl, B2.out⟩)
  exact fin _ _ rfl rfl rfl (hb.imp id (fun h => h.imp (fun h => decide_eq_true h) (fun h => decide_eq_true h)))
/-- the blocks of the program's disk -/
def dBlk (d M : Nat) (f : Int → Option DI) (k : Nat) : Prop := k = d ∨ k = M ∨ ∃ x i o, f x = some i ∧ (i.oa = some ⟨k, o, none⟩ ∨ i.sa = some ⟨k, o, none⟩)
theorem holdsB_lt {w : World} {a : Option Addr} {n : Nat} {bs : List Nat} (h : HoldsB w a n bs) (h0 : 0 < n) {k o : Nat} (e : a = some ⟨k, o, none⟩) : k < w.heap.size := by
  obtain ⟨q, o2, e2, hc⟩ := h.at h0
  rw [e] at e2
  injection e2 with e2; injection e2 with e2 e3; subst e2; subst e3
  exact lt_of_cell (hc 0 h0)
theorem DAt.lt {B d M n life : Nat} {f : Int → Option DI} {w : World} (h : DAt B d M n f life w) : ∀ k, dBlk d M f k → k < w.heap.size := by
  rintro k (rfl | rfl | ⟨x, i, o, e, e2⟩)
  · exact lt_of_cell h.c0
  · exact h.m.lt
  · have I := h.im x i e
    have := I.lo
    have := I.eq
    rcases e2 with e2 | e2
    · exact holdsB_lt I.o (by omega) e2
    · exact holdsB_lt I.s (by omega) e2
theorem DAt.turn {B d M n life : Nat} {f : Int → Option DI} {w w' : World} {F : Nat → Prop} (h : DAt B d M n f life w) (t : Turn F w w') (hF : ∀ k, dBlk d M f k → ¬ F k) : DAt B d M n f life w' := by
  have ld := lt_of_cell h.c0
  have hd := hF d (Or.inl rfl)
  have hM := hF M (Or.inr (Or.inl rfl))
  exact ⟨(t.cell ld hd).trans h.c0, (t.cell ld hd).trans h.c1, fun i => (t.frozen ld hd).trans (h.fz i), h.dM, h.m.turn t hM, fun x i e => (h.im x i e).turn t (fun q o e2 => hF q (Or.inr (Or.inr ⟨x, i, o, e, Or.inl e2⟩))) (fun q o e2 => hF q (Or.inr (Or.inr ⟨x, i, o, e, Or.inr e2⟩))), h.ap, h.dB, h.MB, h.n1⟩
theorem dborn_turn (d : Nat) {B M n life : Nat} {f : Int → Option DI} (w : World) (h : DAt B d M n f life w) (hl : life < 1000000) : Calls Tryz.prog 13 #[.pointer (some ⟨d, 0, none⟩)] w fun e w' => e = .returned (.int .i64 ((life + 1 : Nat) : Int)) ∧ DAt B d M n f (life + 1) w' ∧ Turn (fun k => k = d) w w' := by
  have c1 := h.c1
  have f1 := h.fz 1
  have ld := lt_of_cell h.c0
  have H := Lib.hid h.born
  have BB := Lib.hid (show Turn (fun k => k = d) w (w.setCell ⟨d, 1, none⟩ (.int .i64 ((life + 1 : Nat) : Int))) from Turn.setCell rfl)
  have e1 : (life : Int) + 1 = ((life + 1 : Nat) : Int) := by omega
  obtain ⟨l1, hl1⟩ : ∃ l, life + 1 = l := ⟨_, rfl⟩
  rw [hl1] at H BB e1 ⊢
  clear h hl1
  go_enter Tryz.func13, Tryz.ntmps13
  go_wp2_with fail
  go_ret
  exact ⟨rfl, H.out, BB.out⟩
/-- the two tell the same -/
def PRel (f : Int → Option DI) (G : List DM) : Prop := ∀ x, (f x = none ∧ noD G x) ∨ ∃ i j, f x = some i ∧ fstD G x j ∧ (G.getD j dm0).rb = i.ob ∧ (G.getD j dm0).bb = i.sb
def stF (f : Int → Option DI) (x : Int) (T : List Nat → List Nat) (f' : Int → Option DI) : Prop := (f x = none ∧ f' = f) ∨ ∃ i sa sc, f x = some i ∧ f' = fput f x ⟨i.oa, i.ob, i.oc, sa, T i.ob, sc⟩
def stG (G : List DM) (x : Int) (T : List Nat → List Nat) (G' : List DM) : Prop := (noD G x ∧ G' = G) ∨ ∃ j a n c, fstD G x j ∧ G' = G.set j ((G.getD j dm0).st a n c (T (G.getD j dm0).rb))
theorem set_getD (G : List DM) (j : Nat) (y : DM) (i : Nat) : (G.set j y).getD i dm0 = if i = j ∧ j < G.length then y else G.getD i dm0 := by
  simp only [List.getD_eq_getElem?_getD, List.getElem?_set]
  by_cases e : j = i
  · subst e
    by_cases h : j < G.length
    · simp [h]
    · simp [h]
  · have e2 : i ≠ j := fun h => e h.symm
    simp [e, e2]
theorem set_sh (G : List DM) (j : Nat) (a : Option Addr) (n c : Nat) (bs : List Nat) (i : Nat) : ((G.set j ((G.getD j dm0).st a n c bs)).getD i dm0).sh = (G.getD i dm0).sh := by
  rw [set_getD]
  split
  · rename_i h; rw [h.1]; rfl
  · rfl
theorem PRel.step {f f' : Int → Option DI} {G G' : List DM} {x : Int} {T : List Nat → List Nat} (h : PRel f G) (hf : stF f x T f') (hG : stG G x T G') : PRel f' G' := by
  rcases hf with ⟨f0, rfl⟩ | ⟨i, sa, sc, f1, rfl⟩
  · rcases hG with ⟨g0, rfl⟩ | ⟨j, a, n, c, g1, rfl⟩
    · exact h
    · rcases h x with ⟨-, g0⟩ | ⟨i, j2, f1, -⟩
      · exact absurd g1.2.1 (g0 j g1.1)
      · rw [f0] at f1; cases f1
  · rcases hG with ⟨g0, rfl⟩ | ⟨j, a, n, c, g1, rfl⟩
    · rcases h x with ⟨f0, -⟩ | ⟨i, j2, -, g1, -⟩
      · rw [f0] at f1; cases f1
      · exact absurd g1.2.1 (g0 j2 g1.1)
    · have fst : ∀ y k, fstD G y k → fstD (G.set j ((G.getD j dm0).st a n c (T (G.getD j dm0).rb))) y k := fun y k hk => ⟨by rw [List.length_set]; exact hk.1, by rw [set_sh]; exact hk.2.1, fun i hi => by rw [set_sh]; exact hk.2.2 i hi⟩
      intro y
      by_cases e : y = x
      · subst e
        rcases h y with ⟨f0, -⟩ | ⟨i2, j2, f2, g2, r1, r2⟩
        · rw [f0] at f1; cases f1
        · rw [f1] at f2; injection f2 with f2; subst f2
          obtain rfl := fstD_one g1 g2
          refine Or.inr ⟨_, j, fput_at _ _ _, fst y j g1, ?_, ?_⟩
          · rw [set_getD, if_pos ⟨rfl, g1.1⟩]; exact r1
          · rw [set_getD, if_pos ⟨rfl, g1.1⟩]; show T (G.getD j dm0).rb = T i.ob; rw [r1]
      · rcases h y with ⟨f0, g0⟩ | ⟨i2, j2, f2, g2, r1, r2⟩
        · refine Or.inl ⟨by rw [fput_ne _ _ _ _ e]; exact f0, fun i hi => ?_⟩
          rw [set_sh]; rw [List.length_set] at hi; exact g0 i hi
        · have hj : ¬ (j2 = j ∧ j < G.length) := fun hh => e (by rw [← g2.2.1, hh.1]; exact g1.2.1)
          refine Or.inr ⟨i2, j2, by rw [fput_ne _ _ _ _ e]; exact f2, fst y j2 g2, ?_, ?_⟩
          · rw [set_getD, if_neg hj]; exact r1
          · rw [set_getD, if_neg hj]; exact r2
theorem first_of {K : List Nat} {s : Nat} (h : s ∈ K) : ∃ j, j < K.length ∧ K.getD j 0 = s ∧ ∀ i, i < j → K.getD i 0 ≠ s := by
  induction K with
  | nil => simp at h
  | cons a l ih =>
    by_cases e : a = s
    · exact ⟨0, by simp, by simpa using e, fun i hi => by omega⟩
    · rcases List.mem_cons.1 h with h | h
      · exact absurd h.symm e
      · obtain ⟨j, h1, h2, h3⟩ := ih h
        refine ⟨j + 1, by simpa using h1, by simpa using h2, fun i hi => ?_⟩
        cases i with
        | zero => simpa using e
        | succ i => simpa using h3 i (by omega)
theorem getD_mem {K : List Nat} {j : Nat} (h : j < K.length) : K.getD j 0 ∈ K := by
  rw [List.getD_eq_getElem?_getD, List.getElem?_eq_getElem h]; exact List.getElem_mem _
theorem PRel.new {c : Cfg} {K : List Nat} {f : Int → Option DI} {G : List DM} (hf : NewF c K f) (hG : NewG c K G) : PRel f G := by
  intro x
  cases e : f x with
  | none =>
    refine Or.inl ⟨rfl, fun j hj hx => ?_⟩
    rw [hG.len] at hj
    have h1 := (hG.img j hj).1
    have h2 := hf.all (K.getD j 0) (getD_mem hj)
    rw [← h1, hx, e] at h2
    cases h2
  | some i =>
    obtain ⟨s, rfl, hs, h1, h2⟩ := hf.sub x i e
    obtain ⟨j, j1, j2, j3⟩ := first_of hs
    refine Or.inr ⟨i, j, rfl, ⟨by rw [hG.len]; exact j1, by rw [(hG.img j j1).1, j2], fun k hk hx => ?_⟩, ?_, ?_⟩
    · rw [(hG.img k (by omega)).1] at hx
      exact j3 k hk (by exact_mod_cast hx)
    · rw [(hG.img j j1).2.1, j2, h1]
    · rw [(hG.img j j1).2.2, j2, h2]
/-- both disks beside an act in a box of its own -/
structure JX (w0 : World) (B d M n : Nat) (f : Int → Option DI) (l1 b : Nat) (G : List DM) (l2 q : Nat) (x : DActV) (w : World) : Prop where
  D : DAt B d M n f l1 w
  R : ∃ S, RDAt w b G l2 S ∧ (∀ k, S k → B ≤ k) ∧ (∀ k, dBlk d M f k → ¬ S k) ∧ ¬ S q
  Q : ¬ dBlk d M f q
  W : Below w0.heap.size w0 w
  Z : w0.heap.size ≤ B
  L : G.length ≤ 1000
  X : w.cell? ⟨q, 0, none⟩ = some (.int .i64 x.q) ∧ w.cell? ⟨q, 1, none⟩ = some (.int .i64 x.s) ∧ w.cell? ⟨q, 2, none⟩ = some (.int .i64 x.a) ∧ w.cell? ⟨q, 3, none⟩ = some (.int .i64 x.x)
structure JD (w0 : World) (B d M n : Nat) (f : Int → Option DI) (l1 b : Nat) (G : List DM) (l2 : Nat) (w : World) : Prop where
  D : DAt B d M n f l1 w
  R : ∃ S, RDAt w b G l2 S ∧ (∀ k, S k → B ≤ k) ∧ (∀ k, dBlk d M f k → ¬ S k)
  W : Below w0.heap.size w0 w
  Z : w0.heap.size ≤ B
  L : G.length ≤ 1000
theorem JX.jd {w0 w : World} {B d M n l1 b l2 q : Nat} {f : Int → Option DI} {G : List DM} {x : DActV} (h : JX w0 B d M n f l1 b G l2 q x w) : JD w0 B d M n f l1 b G l2 w := by
  obtain ⟨S, r1, r2, r3, -⟩ := h.R
  exact ⟨h.D, ⟨S, r1, r2, r3⟩, h.W, h.Z, h.L⟩
theorem JD.below {w0 w w' : World} {B d M n l1 b l2 : Nat} {f : Int → Option DI} {G : List DM} (h : JD w0 B d M n f l1 b G l2 w) (hb : Below w.heap.size w w') : JD w0 B d M n f l1 b G l2 w' := by
  obtain ⟨S, r1, r2, r3⟩ := h.R
  exact ⟨h.D.below hb, ⟨S, r1.below hb, r2, r3⟩, h.W.trans (hb.mono h.W.size), h.Z, h.L⟩
theorem JD.box {w0 w w' : World} {B d M n l1 b l2 q : Nat} {f : Int → Option DI} {G : List DM} {x : DActV} (h : JD w0 B d M n f l1 b G l2 w) (hb : Below w.heap.size w w') (hq : w.heap.size ≤ q)
    (hx : w'.cell? ⟨q, 0, none⟩ = some (.int .i64 x.q) ∧ w'.cell? ⟨q, 1, none⟩ = some (.int .i64 x.s) ∧ w'.cell? ⟨q, 2, none⟩ = some (.int .i64 x.a) ∧ w'.cell? ⟨q, 3, none⟩ = some (.int .i64 x.x)) : JX w0 B d M n f l1 b G l2 q x w' := by
  obtain ⟨S, r1, r2, r3⟩ := h.R
  exact ⟨h.D.below hb, ⟨S, r1.below hb, r2, r3, fun e => by have := r1.lt q e; omega⟩, fun e => by have := h.D.lt q e; omega, h.W.trans (hb.mono h.W.size), h.Z, h.L, hx⟩
theorem JX.below {w0 w w' : World} {B d M n l1 b l2 q : Nat} {f : Int → Option DI} {G : List DM} {x : DActV} (h : JX w0 B d M n f l1 b G l2 q x w) (hb : Below w.heap.size w w') : JX w0 B d M n f l1 b G l2 q x w' := by
  obtain ⟨S, r1, r2, r3, r4⟩ := h.R
  have lq := lt_of_cell h.X.1
  have c := fun i => hb.cell (p := ⟨q, i, none⟩) lq
  exact ⟨h.D.below hb, ⟨S, r1.below hb, r2, r3, r4⟩, h.Q, h.W.trans (hb.mono h.W.size), h.Z, h.L, (c 0).trans h.X.1, (c 1).trans h.X.2.1, (c 2).trans h.X.2.2.1, (c 3).trans h.X.2.2.2⟩
/-- the program's disk is another one -/
theorem JX.prog {w0 w w' : World} {B d M n l1 l1' b l2 q : Nat} {f f' : Int → Option DI} {G : List DM} {x : DActV} {F : Nat → Prop} (h : JX w0 B d M n f l1 b G l2 q x w) (hD : DAt B d M n f' l1' w') (t : Turn F w w') (hF : ∀ k, F k → dBlk d M f k) (hF2 : ∀ k, F k → B ≤ k) (hf : ∀ k, dBlk d M f' k → dBlk d M f k ∨ w.heap.size ≤ k) : JX w0 B d M n f' l1' b G l2 q x w' := by
  obtain ⟨S, r1, r2, r3, r4⟩ := h.R
  have lq := lt_of_cell h.X.1
  have c := fun i => t.cell (o := i) lq (fun e => h.Q (hF q e))
  refine ⟨hD, ⟨S, r1.turn t (fun k hk e => r3 k (hF k e) hk), r2, fun k hk e => ?_, r4⟩, fun e => ?_, ?_, h.Z, h.L, (c 0).trans h.X.1, (c 1).trans h.X.2.1, (c 2).trans h.X.2.2.1, (c 3).trans h.X.2.2.2⟩
  · rcases hf k hk with hk | hk
    · exact r3 k hk e
    · have := r1.lt k e; omega
  · rcases hf q e with e | e
    · exact h.Q e
    · omega
  · exact h.W.trans (t.below (fun k hk => Nat.le_trans h.Z (hF2 k hk)) h.W.size)
/-- the document's disk is another one -/
theorem JX.doc {w0 w w' : World} {B d M n l1 b l2 l2' q : Nat} {f : Int → Option DI} {G G' : List DM} {x : DActV} {S S' : Nat → Prop} (h : JX w0 B d M n f l1 b G l2 q x w) (hS : RDAt w b G l2 S) (h2 : ∀ k, S k → B ≤ k) (h3 : ∀ k, dBlk d M f k → ¬ S k) (h4 : ¬ S q)
    (hR : RDAt w' b G' l2' S') (hS' : ∀ k, S' k → S k ∨ w.heap.size ≤ k) (t : Turn S w w') (hL : G'.length ≤ 1000) : JX w0 B d M n f l1 b G' l2' q x w' := by
  have lq := lt_of_cell h.X.1
  have c := fun i => t.cell (o := i) lq h4
  refine ⟨h.D.turn t h3, ⟨S', hR, fun k hk => ?_, fun k hk e => ?_, fun e => ?_⟩, h.Q, h.W.trans (t.below (fun k hk => Nat.le_trans h.Z (h2 k hk)) h.W.size), h.Z, hL, (c 0).trans h.X.1, (c 1).trans h.X.2.1, (c 2).trans h.X.2.2.1, (c 3).trans h.X.2.2.2⟩
  · rcases hS' k hk with hk | hk
    · exact h2 k hk
    · have := lt_of_cell h.D.c0; have := h.D.dB; omega
  · rcases hS' k e with e | e
    · exact h3 k hk e
    · have := h.D.lt k hk; omega
  · rcases hS' q e with e | e
    · exact h4 e
    · omega
theorem dBlk_put {d M : Nat} {f : Int → Option DI} {x : Int} {i : DI} {sa : Option Addr} {T : List Nat} {sc : Nat} (hf : f x = some i) {k : Nat} (h : dBlk d M (fput f x ⟨i.oa, i.ob, i.oc, sa, T, sc⟩) k) : dBlk d M f k ∨ ∃ o, sa = some ⟨k, o, none⟩ := by
  rcases h with h | h | ⟨y, j, o, e, e2⟩
  · exact Or.inl (Or.inl h)
  · exact Or.inl (Or.inr (Or.inl h))
  · unfold fput at e
    split at e
    · injection e with e; subst e
      rcases e2 with e2 | e2
      · exact Or.inl (Or.inr (Or.inr ⟨x, i, o, hf, Or.inl e2⟩))
      · exact Or.inr ⟨o, e2⟩
    · exact Or.inl (Or.inr (Or.inr ⟨y, j, o, e, e2⟩))
def zfD (f : Int → Option DI) (x : Int) : Int := if (f x).isSome then 0 else 4
def readF (f : Int → Option DI) (x : Int) : List Nat := match f x with | none => [] | some i => i.sb
def rotF (f : Int → Option DI) (x : Int) : Bool := match f x with | none => false | some i => decide (i.sb ≠ i.ob)
theorem jrotP (x at_ xx z : Int) {w0 : World} {B d M n l1 b l2 q : Nat} {f : Int → Option DI} {G : List DM} {y : DActV} (w : World) (h : JX w0 B d M n f l1 b G l2 q y w) (hx : wfI x) (hz : zfD f x = z) :
    Calls Tryz.prog 9 #[.pointer (some ⟨d, 0, none⟩), .int .i64 x, .int .i64 at_, .int .i64 xx] w fun e w' => e = .returned (.int .i64 z) ∧ ∃ f', stF f x (fun ob => Dm.turned ob at_ xx) f' ∧ JX w0 B d M n f' l1 b G l2 q y w' := by
  cases hf : f x with
  | none =>
    obtain rfl : z = 4 := by rw [← hz]; unfold zfD; rw [hf]; rfl
    refine (drot_no d x at_ xx w h.D hx hf).mono ?_
    rintro e w' ⟨he, hb⟩
    exact ⟨he, f, Or.inl ⟨hf, rfl⟩, h.below hb⟩
  | some i =>
    obtain rfl : z = 0 := by rw [← hz]; unfold zfD; rw [hf]; rfl
    refine (drot_new d x at_ xx i w h.D hx hf).mono ?_
    rintro e w' ⟨he, ⟨sa, sc, hD, fr⟩, -, t⟩
    refine ⟨he, _, Or.inr ⟨i, sa, sc, hf, rfl⟩, h.prog hD t (fun k e => Or.inr (Or.inl e)) (fun k e => by rw [e]; exact h.D.MB) (fun k hk => ?_)⟩
    rcases dBlk_put hf hk with hk | ⟨o, e⟩
    · exact Or.inl hk
    · exact Or.inr (fr k o e)
theorem jmendP (x z : Int) {w0 : World} {B d M n l1 b l2 q : Nat} {f : Int → Option DI} {G : List DM} {y : DActV} (w : World) (h : JX w0 B d M n f l1 b G l2 q y w) (hx : wfI x) (hz : zfD f x = z) :
    Calls Tryz.prog 11 #[.pointer (some ⟨d, 0, none⟩), .int .i64 x] w fun e w' => e = .returned (.int .i64 z) ∧ ∃ f', stF f x (fun ob => ob) f' ∧ JX w0 B d M n f' l1 b G l2 q y w' := by
  cases hf : f x with
  | none =>
    obtain rfl : z = 4 := by rw [← hz]; unfold zfD; rw [hf]; rfl
    refine (dmend_no d x w h.D hx hf).mono ?_
    rintro e w' ⟨he, hb⟩
    exact ⟨he, f, Or.inl ⟨hf, rfl⟩, h.below hb⟩
  | some i =>
    obtain rfl : z = 0 := by rw [← hz]; unfold zfD; rw [hf]; rfl
    refine (dmend_yes d x i w h.D hx hf).mono ?_
    rintro e w' ⟨he, hD, -, t⟩
    refine ⟨he, _, Or.inr ⟨i, i.oa, i.oc, hf, rfl⟩, h.prog hD t (fun k e => Or.inr (Or.inl e)) (fun k e => by rw [e]; exact h.D.MB) (fun k hk => ?_)⟩
    rcases dBlk_put hf hk with hk | ⟨o, e⟩
    · exact Or.inl hk
    · exact Or.inl (Or.inr (Or.inr ⟨x, i, o, hf, Or.inl e⟩))
theorem jbornP {w0 : World} {B d M n l1 b l2 q : Nat} {f : Int → Option DI} {G : List DM} {y : DActV} (w : World) (h : JX w0 B d M n f l1 b G l2 q y w) (hl : l1 < 1000000) :
    Calls Tryz.prog 13 #[.pointer (some ⟨d, 0, none⟩)] w fun e w' => e = .returned (.int .i64 ((l1 + 1 : Nat) : Int)) ∧ JX w0 B d M n f (l1 + 1) b G l2 q y w' := by
  refine (dborn_turn d w h.D hl).mono ?_
  rintro e w' ⟨he, hD, t⟩
  exact ⟨he, h.prog hD t (fun k e => Or.inl e) (fun k e => by rw [e]; exact h.D.dB) (fun k hk => Or.inl hk)⟩
theorem jbornR {w0 : World} {B d M n l1 b l2 q : Nat} {f : Int → Option DI} {G : List DM} {y : DActV} (w : World) (h : JX w0 B d M n f l1 b G l2 q y w) :
    JX w0 B d M n f l1 b G (l2 + 1) q y (w.setCell ⟨b, 1, none⟩ (.int .i64 ((l2 + 1 : Nat) : Int))) := by
  obtain ⟨S, r1, r2, r3, r4⟩ := h.R
  exact h.doc r1 r2 r3 r4 r1.born.1 (fun k hk => Or.inl hk) r1.born.2 h.L
theorem JX.lives {w0 : World} {B d M n l1 b l2 q : Nat} {f : Int → Option DI} {G : List DM} {y : DActV} {w : World} (h : JX w0 B d M n f l1 b G l2 q y w) : w.cell? ⟨b, 1, none⟩ = some (.int .i64 (l2 : Int)) ∧ w.frozen? ⟨b, 1, none⟩ = false := by
  obtain ⟨S, ⟨a, c, -, h1, h2, -⟩, -⟩ := h.R
  exact ⟨h1, h2 1⟩
theorem jrotR (x at_ xx z : Int) {w0 : World} {B d M n l1 b l2 q : Nat} {f f0 : Int → Option DI} {G : List DM} {y : DActV} (w : World) (h : JX w0 B d M n f l1 b G l2 q y w) (PR : PRel f0 G) (hz : zfD f0 x = z) :
    Calls Tryz.prog 10 #[.pointer (some ⟨b, 0, none⟩), .int .i64 x, .int .i64 at_, .int .i64 xx] w fun e w' => e = .returned (.int .i64 z) ∧ ∃ G', stG G x (fun ob => Dm.turned ob at_ xx) G' ∧ JX w0 B d M n f l1 b G' l2 q y w' := by
  obtain ⟨S, r1, r2, r3, r4⟩ := h.R
  rcases PR x with ⟨f1, g1⟩ | ⟨i, j, f1, g1, -⟩
  · obtain rfl : z = 4 := by rw [← hz]; unfold zfD; rw [f1]; rfl
    refine (rdrot_no b x at_ xx w r1 h.L g1).mono ?_
    rintro e w' ⟨he, rfl⟩
    exact ⟨he, G, Or.inl ⟨g1, rfl⟩, h⟩
  · obtain rfl : z = 0 := by rw [← hz]; unfold zfD; rw [f1]; rfl
    refine (rdrot_yes b x at_ xx j w r1 h.L g1).mono ?_
    rintro e w' ⟨he, ⟨a, m, c, S', hR, hS'⟩, t⟩
    exact ⟨he, _, Or.inr ⟨j, a, m, c, g1, rfl⟩, h.doc r1 r2 r3 r4 hR hS' t (by rw [List.length_set]; exact h.L)⟩
theorem jmendR (x z : Int) {w0 : World} {B d M n l1 b l2 q : Nat} {f f0 : Int → Option DI} {G : List DM} {y : DActV} (w : World) (h : JX w0 B d M n f l1 b G l2 q y w) (PR : PRel f0 G) (hz : zfD f0 x = z) :
    Calls Tryz.prog 12 #[.pointer (some ⟨b, 0, none⟩), .int .i64 x] w fun e w' => e = .returned (.int .i64 z) ∧ ∃ G', stG G x (fun ob => ob) G' ∧ JX w0 B d M n f l1 b G' l2 q y w' := by
  obtain ⟨S, r1, r2, r3, r4⟩ := h.R
  rcases PR x with ⟨f1, g1⟩ | ⟨i, j, f1, g1, -⟩
  · obtain rfl : z = 4 := by rw [← hz]; unfold zfD; rw [f1]; rfl
    refine (rdmend_no b x w r1 h.L g1).mono ?_
    rintro e w' ⟨he, rfl⟩
    exact ⟨he, G, Or.inl ⟨g1, rfl⟩, h⟩
  · obtain rfl : z = 0 := by rw [← hz]; unfold zfD; rw [f1]; rfl
    refine (rdmend_yes b x j w r1 h.L g1).mono ?_
    rintro e w' ⟨he, ⟨a, m, c, S', hR, hS'⟩, t⟩
    exact ⟨he, _, Or.inr ⟨j, a, m, c, g1, rfl⟩, h.doc r1 r2 r3 r4 hR hS' t (by rw [List.length_set]; exact h.L)⟩
theorem readF_good {B d M n l1 : Nat} {f : Int → Option DI} {w : World} (h : DAt B d M n f l1 w) (x : Int) : (readF f x).length ≤ 524004 ∧ ∀ v ∈ readF f x, v < 256 := by
  unfold readF
  cases hf : f x with
  | none => simp
  | some i =>
    have I := h.im x i hf
    have := I.hi; have := I.eq
    exact ⟨by show i.sb.length ≤ 524004; omega, I.s.2⟩
def ReadJ (w : World) (bs : List Nat) (m : Nat) (z : Int) (e : Ending) (w' : World) : Prop := ∃ a c, e = .returned (.tuple #[.slice a m c, .int .i64 z]) ∧ w'.ownsRow w.heap.size 5 1 (.slice a m c) m (bytesV bs) ∧ HoldsB w' a m bs ∧ Below w.heap.size w w'
theorem jreadP (x z : Int) (bs : List Nat) (m : Nat) {B d M n l1 : Nat} {f : Int → Option DI} (w : World) (h : DAt B d M n f l1 w) (hx : wfI x) (hz : zfD f x = z) (hb : readF f x = bs) (hm : bs.length = m) :
    Calls Tryz.prog 14 #[.pointer (some ⟨d, 0, none⟩), .int .i64 x] w (ReadJ w bs m z) := by
  have gd := readF_good h x
  rw [hb] at gd
  cases hf : f x with
  | none =>
    obtain rfl : z = 4 := by rw [← hz]; unfold zfD; rw [hf]; rfl
    obtain rfl : bs = [] := by rw [← hb]; unfold readF; rw [hf]
    subst hm
    refine (dread_no d x w h hx hf).mono ?_
    rintro e w' ⟨he, hb⟩
    exact ⟨none, 0, he, World.ownsRow_nil _ _ _ _, holdsB_nil _ _, hb⟩
  | some i =>
    obtain rfl : z = 0 := by rw [← hz]; unfold zfD; rw [hf]; rfl
    obtain rfl : i.sb = bs := by rw [← hb]; unfold readF; rw [hf]
    subst hm
    refine (dread_yes d x i w h hx hf).mono ?_
    rintro e w' ⟨a, c, he, ho, -, hb⟩
    exact ⟨a, c, he, ho, holdsB_of_values (owns_holds ho) gd.2, hb⟩
theorem jreadR (x z : Int) (bs : List Nat) (m : Nat) {b l2 : Nat} {f : Int → Option DI} {G : List DM} {S : Nat → Prop} (w : World) (h : RDAt w b G l2 S) (hl : G.length ≤ 1000) (PR : PRel f G) (hz : zfD f x = z) (hb : readF f x = bs) (hm : bs.length = m) :
    Calls Tryz.prog 15 #[.pointer (some ⟨b, 0, none⟩), .int .i64 x] w fun e w' => ∃ a c, e = .returned (.tuple #[.slice a m c, .int .i64 z]) ∧ HoldsB w' a m bs ∧ Below w.heap.size w w' := by
  rcases PR x with ⟨f1, g1⟩ | ⟨i, j, f1, g1, r1, r2⟩
  · obtain rfl : z = 4 := by rw [← hz]; unfold zfD; rw [f1]; rfl
    obtain rfl : bs = [] := by rw [← hb]; unfold readF; rw [f1]
    subst hm
    refine (rdread_no b x w h hl g1).mono ?_
    rintro e w' ⟨he, rfl⟩
    exact ⟨none, 0, he, holdsB_nil _ _, Below.refl _ _⟩
  · obtain rfl : z = 0 := by rw [← hz]; unfold zfD; rw [f1]; rfl
    obtain rfl : i.sb = bs := by rw [← hb]; unfold readF; rw [f1]
    refine (rdread_yes b x j w h hl g1).mono ?_
    rintro e w' ⟨a, c, he, hh, hb⟩
    have hlen := hh.len
    rw [r2, hm] at hlen
    rw [r2, ← hlen] at hh
    rw [← hlen] at he
    exact ⟨a, c, he, hh, hb⟩
theorem jrotP' (x : Int) (z : Bool) {B d M n l1 : Nat} {f : Int → Option DI} (w : World) (h : DAt B d M n f l1 w) (hx : wfI x) (hz : rotF f x = z) :
    Calls Tryz.prog 17 #[.pointer (some ⟨d, 0, none⟩), .int .i64 x] w fun e w' => e = .returned (.bool z) ∧ Below w.heap.size w w' := by
  unfold rotF at hz
  cases hf : f x with
  | none => rw [hf] at hz; subst hz; exact drotten_no d x w h hx hf
  | some i => rw [hf] at hz; exact drotten_yes d x i z w h hx hf hz
theorem jrotR' (x : Int) (z : Bool) {b l2 : Nat} {f : Int → Option DI} {G : List DM} {S : Nat → Prop} (w : World) (h : RDAt w b G l2 S) (hl : G.length ≤ 1000) (PR : PRel f G) (hz : rotF f x = z) :
    Calls Tryz.prog 18 #[.pointer (some ⟨b, 0, none⟩), .int .i64 x] w fun e w' => e = .returned (.bool z) ∧ Below w.heap.size w w' := by
  unfold rotF at hz
  rcases PR x with ⟨f1, g1⟩ | ⟨i, j, f1, g1, r1, r2⟩
  · rw [f1] at hz; subst hz; exact rdrotten_no b x w h hl g1
  · rw [f1] at hz; exact rdrotten_yes b x j z w h hl g1 (by rw [r1, r2]; exact hz)
end Go.Proofs.YtbbholdadgjelaaGreat
/- law: what a configuration that is not great is -/
namespace Go.Proofs.YtbbholdadgjelaaGreat
open Go.RowKit
set_option linter.unusedVariables false
set_option maxRecDepth 20000
theorem greatB_no {ts : List Tx} (h : greatB ts = false) : ts.length ≤ 80 ∧ ∀ t ∈ ts, t.size ≤ 100 := by
  have h1 := of_decide_eq_false h
  exact ⟨by false_or_by_contra; exact h1 (Or.inl (by omega)), fun t ht => by false_or_by_contra; exact h1 (Or.inr ⟨t, ht, by omega⟩)⟩
def GreatCS (c : Cfg) (w : World) (e : Ending) (w' : World) : Prop := ∃ z, e = .returned (.bool z) ∧ Below w.heap.size w w' ∧ (z = false → (c.ws.length ≤ 80 ∧ ∀ t ∈ c.ws, t.size ≤ 100) ∧ c.kn ≤ 10 ∧ ∀ k ∈ c.ks, k.2.size ≤ 100)
set_option maxHeartbeats 1600000 in
theorem greatC_strong (c : Cfg) (w : World) (h : CfgOk w c) :
    Calls Tryz.prog 4 #[.agg #[.slice c.wa c.wn c.wc, .slice c.ka c.kn c.kc, .int .i64 c.W, .int .i64 c.C, .int .i64 c.S, .int .i64 c.B, .int .i64 c.L, .int .i64 c.H, .int .i64 c.F, .int .i64 c.P, .int .i64 c.J, .int .i64 c.N]] w (GreatCS c w) := by
  have BX := Lib.hid (below_one w (.cells #[.slice c.wa c.wn c.wc, .slice c.ka c.kn c.kc, .int .i64 c.W, .int .i64 c.C, .int .i64 c.S, .int .i64 c.B, .int .i64 c.L, .int .i64 c.H, .int .i64 c.F, .int .i64 c.P, .int .i64 c.J, .int .i64 c.N] 25))
  have IN := Lib.hid (cfgIn_new w c w.heap.size 25 (0, 0) rfl)
  have OK := Lib.hid (h.below BX.out)
  have HK0 := Lib.hid h.2.2.2.2.2.1.len
  clear h
  go_enter Tryz.func4, Tryz.ntmps4
  go_upto_region 2 with fail
  have BE := Lib.hid BX.out
  generalize w.alloc (.cells #[.slice c.wa c.wn c.wc, .slice c.ka c.kn c.kc, .int .i64 c.W, .int .i64 c.C, .int .i64 c.S, .int .i64 c.B, .int .i64 c.L, .int .i64 c.H, .int .i64 c.F, .int .i64 c.P, .int .i64 c.J, .int .i64 c.N] 25) = w1 at *
  obtain ⟨p, hp⟩ : ∃ p, w.heap.size = p := ⟨_, rfl⟩
  rw [hp] at IN
  rw [hp]
  obtain ⟨i0, i1, -⟩ := IN.out
  clear hp
  have hl := OK.out.2.2.2.2.2.1.len
  by_cases h10 : c.kn ≤ 10
  · have d1 : decide (c.kn ≤ 10) = true := decide_eq_true h10
    have d2 : decide ((c.kn : Int) > 10) = false := decide_eq_false (by omega)
    have d3 : decide (10 < c.kn) = false := decide_eq_false (by omega)
    go_loop [3] (fun iv => ∃ i : Nat, i ≤ c.kn ∧ iv = .int .i64 i ∧ Hid (∀ k ∈ c.ks.take i, k.2.size ≤ 100)) (fun iv => c.kn - (intOf iv).toNat)
    case atStart => exact ⟨0, by omega, rfl, Lib.hid (by simp)⟩
    case round =>
      obtain ⟨i, hi, rfl, hS⟩ := hrel
      by_cases hlt : i < c.kn
      · obtain ⟨kb, ko, hka, hc⟩ := OK.out.2.2.2.2.2.1.2 (by omega)
        have e2 := (hc i hlt).2
        obtain ⟨x, hx⟩ : ∃ x, (c.ks.getD i k0).2 = x := ⟨_, rfl⟩
        rw [hx] at e2
        rw [hka] at i1
        have HX := Lib.hid hx
        clear hc hx
        by_cases hbig : 100 < x.size
        · have c2 : decide (100 < x.size) = true := decide_eq_true hbig
          have c3 : decide ((x.size : Int) > 100) = true := decide_eq_true (by omega)
          go_wp2_with fail
          go_ret
          exact ⟨true, rfl, BE.out, fun h => by cases h⟩
        · have c2 : decide (100 < x.size) = false := decide_eq_false hbig
          have c3 : decide ((x.size : Int) > 100) = false := decide_eq_false (by omega)
          go_wp2_with fail
          go_round
          case rel => exact ⟨i + 1, by omega, by go_num, Lib.hid (by
            rw [take_succ_getD c.ks k0 i (by have := HK0.out; omega)]
            intro k hk
            rcases List.mem_append.1 hk with hk | hk
            · exact hS.out k hk
            · rw [List.mem_singleton] at hk; rw [hk, HX.out]; omega)⟩
          case measure => simp [intOf]; omega
      · obtain rfl : i = c.kn := by omega
        go_wp2_with fail
        refine (great_any c.wa c.wn c.wc c.ws _ OK.out.1 OK.out.2.2.2.1 OK.out.2.2.2.2.1).mono ?_
        obtain ⟨z, hz⟩ : ∃ z, greatB c.ws = z := ⟨_, rfl⟩
        rw [hz]
        have HZ := Lib.hid hz
        clear hz
        rintro e w2 ⟨rfl, hb2⟩
        have j1 := (hb2.cell (p := ⟨p, 1, none⟩) (lt_of_cell i1)).trans i1
        have B2 := Lib.hid (BE.out.trans (hb2.mono BE.out.size))
        clear hb2
        cases z
        · go_wp2_with fail
          go_ret
          exact ⟨false, rfl, B2.out, fun _ => ⟨greatB_no HZ.out, h10, by have h5 := hS.out; rw [List.take_of_length_le (by have := HK0.out; omega)] at h5; exact h5⟩⟩
        · go_wp2_with fail
          go_ret
          exact ⟨true, rfl, B2.out, fun h => by cases h⟩
  · have d1 : decide (c.kn ≤ 10) = false := decide_eq_false h10
    have d2 : decide ((c.kn : Int) > 10) = true := decide_eq_true (by omega)
    have d3 : decide (10 < c.kn) = true := decide_eq_true (by omega)
    have d4 : decide (0 < c.kn) = true := decide_eq_true (by omega)
    go_loop [3] (fun iv => iv = .int .i64 ((0 : Nat) : Int)) (fun _ => 0)
    case atStart => exact rfl
    case round =>
      obtain rfl := hrel
      go_wp2_with fail
      refine (great_any c.wa c.wn c.wc c.ws _ OK.out.1 OK.out.2.2.2.1 OK.out.2.2.2.2.1).mono ?_
      generalize greatB c.ws = z
      rintro e w2 ⟨rfl, hb2⟩
      have j1 := (hb2.cell (p := ⟨p, 1, none⟩) (lt_of_cell i1)).trans i1
      have B2 := Lib.hid (BE.out.trans (hb2.mono BE.out.size))
      clear hb2
      cases z
      · go_wp2_with fail
        go_ret
        exact ⟨true, rfl, B2.out, fun h => by cases h⟩
      · go_wp2_with fail
        go_ret
        exact ⟨true, rfl, B2.out, fun h => by cases h⟩
end Go.Proofs.YtbbholdadgjelaaGreat
/- what was answered is written over, and beyond (OverBytes): nothing but its own block is written -/
namespace Go.Proofs.YtbbholdadgjelaaGreat
open Go.RowKit
set_option linter.unusedVariables false
set_option maxRecDepth 20000
theorem ovgBytes_info : (Tryz.prog.info? 5).map (fun i => (i.zero, i.size, i.bytes)) = some (some (.int .u8 0), 1, 1) := by kernel_rfl
set_option maxHeartbeats 400000 in
/-- Written over is a slice of the call's own (its blocks lie from B on): below B nothing turns, and nothing but the slice's block. -/
theorem ovgBytes_any (B : Nat) (a : Option Addr) (n cap : Nat) (xs : List Value) (w : World) (h : w.ownsRow B 5 1 (.slice a n cap) n xs) (hB : B ≤ w.heap.size) (hn : n ≤ 1048576) :
    Calls Tryz.prog 20 #[.slice a n cap] w fun e w' => e = .returned (.tuple #[]) ∧ Below B w w' ∧ w.grownBy w' (Value.slice a n cap).ownBlock := by
  obtain ⟨i0, hi, hz0, hz1, hz2⟩ := info_parts ovgBytes_info
  have H := Lib.hid h
  clear h
  go_enter Tryz.func20, Tryz.ntmps20
  go_wp2_with fail
  go_loopw [2] (fun i wr => ∃ (k : Nat) (ys : List Value), k ≤ n ∧ i = .int .i64 k ∧ Hid (wr.ownsRow B 5 1 (.slice a n cap) n ys) ∧ Hid (Below B w wr) ∧ Hid (w.grownBy wr (Value.slice a n cap).ownBlock)) (fun i _ => n - (intOf i).toNat)
  case atStart => exact ⟨0, xs, by omega, rfl, H, Below.refl _ _, Lib.hid ⟨rfl, rfl, rfl, Nat.le_refl _, fun _ _ _ => rfl⟩⟩
  case round =>
    obtain ⟨k, ys, hk, rfl, hO, hBw, hGr⟩ := hrel
    by_cases hlt : k < n
    · obtain ⟨g, rfl⟩ : ∃ g, a = some ⟨g, 0, none⟩ := by
        obtain ⟨g, cap', hv⟩ := Joins.ownsRow_form hO.out (by omega)
        simp only [Value.slice.injEq] at hv
        exact ⟨g, hv.1⟩
      have hc := hO.out.cellAt k (by omega)
      have hyl : k < ys.length := by have := hO.out.1; omega
      rw [List.getElem?_eq_getElem hyl] at hc
      obtain ⟨y, hy⟩ : ∃ y, ys[k] = y := ⟨_, rfl⟩
      rw [hy] at hc
      clear hy hyl
      have hf := hO.out.frozenAt k
      have HG2 := Lib.hid (fun v => (⟨hGr.out.os, hGr.out.tape, hGr.out.output, by have := hGr.out.size; simpa using this, fun b hb hne => (Below.heap_setCell wr ⟨g, k, none⟩ v b (fun e => hne (by show some b = some g; rw [e]))).trans (hGr.out.block b hb hne)⟩ : w.grownBy (wr.setCell ⟨g, k, none⟩ v) (Value.slice (some ⟨g, 0, none⟩) n cap).ownBlock))
      go_wp2
      go_roundw
      case rel => exact ⟨k + 1, _, by omega, by go_num, Lib.hid (hO.out.stored k _).1, Lib.hid (hBw.out.setCell (p := ⟨g, k, none⟩) (hO.out.lt g rfl).1 _), Lib.hid (HG2.out _)⟩
      case measure => simp [intOf]; omega
    · have hs := hBw.out.size
      go_wp2_with (at_builtin; refine wpList_append_own _ rfl (.tmp 12) (.tmp 13) 47 rfl B 5 i0 (.int .u8 0) 1 1 Tryz.underlying47 hi hz0 hz1 hz2 rfl (by decide) _ n _ rfl (hO.out.alloc _) _ 1 1 _ rfl rfl (one_new _ _ _ _ _ rfl) (one_int _ _) (by unfold maxLen; omega) (by omega) (by simp; omega) ?_; intro v3 w3 hown3 hg3 hnil3)
      go_end0
      have hsz := hGr.out.size
      refine ⟨rfl, hBw.out.trans (((Below.refl _ _).alloc (by omega) _).grown hg3 (by simp; omega) fun k hk => (hO.out.lt k hk).1), ⟨hg3.os.trans hGr.out.os, hg3.tape.trans hGr.out.tape, hg3.output.trans hGr.out.output, ?_, fun b hb hne => ?_⟩⟩
      · have := hg3.size; simp at this; omega
      · rw [hg3.block b (by simp; omega) hne, Below.heap_alloc _ _ _ (by omega)]
        exact hGr.out.block b hb hne
end Go.Proofs.YtbbholdadgjelaaGreat
/- a slice in a cell of an argument, opened -/
namespace Go.Proofs.YtbbholdadgjelaaGreat
open Go.ChangeShapes Go.WideShapes Go.ChangeAt Go.RowKit Go.Deep
set_option linter.unusedVariables false
set_option maxRecDepth 20000
theorem open_rows_cell {H : Type} {enc : TypeId × Value → H} {P : Program} {W : World} {t e : TypeId} {k : Nat} {c : Value} {fuel : Nat} {y : DataW H × List MemPlace}
    (ht : P.underlying t = some (.slice e)) (hc : P.cellsOf e = k) (hk : 0 < k) (good : List Value → Prop)
    (hgood : ∀ m cs y, DataW.trod enc P W 0 (fun _ => true) true m e cs = some y → good cs)
    (hf : DataW.trod enc P W 0 (fun _ => true) true fuel t [c] = some y) :
    ∃ (a : Option Addr) (n cap : Nat) (R : Nat → List Value), c = .slice a n cap ∧ (a = none → n = 0 ∧ cap = 0) ∧ n ≤ cap ∧ cap ≤ maxLen ∧ (∀ i, i < n → good (R i)) ∧
      (0 < n → ∃ b o, a = some ⟨b, o, none⟩ ∧ ∀ i, i < n → ∀ j, j < k → W.cell? ⟨b, o + i * k + j, none⟩ = (R i)[j]?) := by
  rcases open_slice ht hf with ⟨hcs, _⟩ | ⟨x, len, cap, m, n, D, Pl, hcs, _, hl, hm, hmm, _, hx⟩
  · obtain rfl : c = .slice none 0 0 := by simpa using hcs
    exact ⟨none, 0, 0, fun _ => [], rfl, fun _ => ⟨rfl, rfl⟩, Nat.le_refl _, by unfold maxLen; omega, by simp, by simp⟩
  · obtain rfl : c = .slice (some x) len cap := by simpa using hcs
    simp at hmm
    subst hmm
    rw [hc] at hx
    have hR : ∀ i, ∃ cs' : List Value, i < m → W.cells? 0 (x.add (i * k)) k = some cs' ∧ good cs' := fun i => by
      by_cases hi : i < m
      · obtain ⟨cs', h1, h2⟩ := hx i hi
        exact ⟨cs', fun _ => ⟨h1, hgood _ _ _ h2⟩⟩
      · exact ⟨[], fun h => absurd h hi⟩
    refine ⟨some x, len, m, fun i => (hR i).choose, rfl, (fun h => by cases h), hl, hm, fun i hi => ((hR i).choose_spec (by omega)).2, fun h0 => ?_⟩
    have h1 := fun i (hi : i < m) => (World.cells?_some ((hR i).choose_spec hi).1)
    obtain ⟨b, off, spot⟩ := x
    have hspot : spot = none := by
      have h2 := (h1 0 (by omega)).2.2 0 hk
      have h3 := (h1 0 (by omega)).2.1
      have h4 : ((hR 0).choose)[0]? = some (((hR 0).choose)[0]'(by omega)) := List.getElem?_eq_getElem _
      rw [h4] at h2
      simpa [Addr.add] using World.cell?_spot h2
    subst hspot
    refine ⟨b, off, rfl, fun i hi j hj => ?_⟩
    have h2 := (h1 i (by omega)).2.2 j hj
    rw [← h2, Go.WideShapes.add_plain, Go.WideShapes.add_plain]
end Go.Proofs.YtbbholdadgjelaaGreat
/- a slice in a field of a struct that is an argument, opened -/
namespace Go.Proofs.YtbbholdadgjelaaGreat
open Go.ChangeShapes Go.WideShapes Go.ChangeAt Go.RowKit Go.Deep
set_option linter.unusedVariables false
set_option maxRecDepth 20000
theorem open_pairs_cell {H : Type} {enc : TypeId × Value → H} {W : World} {c : Value} {fuel : Nat} {y : DataW H × List MemPlace} {t e : TypeId} {fs : Array Field} {f0 f1 : Field}
    (ht : Tryz.prog.underlying t = some (.slice e)) (he : Tryz.prog.underlying e = some (.struct fs)) (hc : Tryz.prog.cellsOf e = 2) (hf0 : fs[0]? = some f0) (hf1 : fs[1]? = some f1) (g0 : f0.type = 3 ∧ f0.offset = 0) (g1 : f1.type = 9 ∧ f1.offset = 1)
    (hf : DataW.trod enc Tryz.prog W 0 (fun _ => true) true fuel t [c] = some y) :
    ∃ a n cap ks, c = .slice a n cap ∧ HoldsK W a n ks ∧ (a = none → n = 0 ∧ cap = 0) ∧ n ≤ cap ∧ n ≤ 9223372036854775807 ∧ ∀ k ∈ ks, KeyOk k := by
  obtain ⟨a, n, cap, R, rfl, hnil, h1, h2, hg, hc⟩ := open_rows_cell ht hc (by omega) (fun cs => ∃ k : KV, KeyOk k ∧ cs = [.int .i64 k.1, .string k.2]) (fun _ _ _ h => pair_of he hc hf0 hf1 g0 g1 h) hf
  have hx : ∀ i, ∃ k : KV, i < n → KeyOk k ∧ R i = [.int .i64 k.1, .string k.2] := fun i => by
    by_cases hi : i < n
    · obtain ⟨x, h3⟩ := hg i hi
      exact ⟨x, fun _ => h3⟩
    · exact ⟨k0, fun h => absurd h hi⟩
  have hget : ∀ i, i < n → ((List.range n).map fun i => (hx i).choose).getD i k0 = (hx i).choose := fun i hi => by simp [List.getD_eq_getElem?_getD, hi]
  refine ⟨a, n, cap, (List.range n).map fun i => (hx i).choose, rfl, ⟨by simp, fun h0 => ?_⟩, hnil, h1, by unfold maxLen at h2; omega, fun k hk => ?_⟩
  · obtain ⟨b, o, ha, hcell⟩ := hc h0
    refine ⟨b, o, ha, fun i hi => ?_⟩
    have e := ((hx i).choose_spec hi).2
    have c0 := hcell i hi 0 (by omega)
    have c1 := hcell i hi 1 (by omega)
    rw [e] at c0 c1
    rw [hget i hi]
    exact ⟨by simpa using c0, by simpa using c1⟩
  · obtain ⟨i, hi, rfl⟩ := List.mem_map.1 hk
    exact ((hx i).choose_spec (by simpa using hi)).1
end Go.Proofs.YtbbholdadgjelaaGreat
/- a configuration as argument, opened -/
namespace Go.Proofs.YtbbholdadgjelaaGreat
open Go.ChangeShapes Go.WideShapes Go.ChangeAt Go.RowKit
set_option linter.unusedVariables false
set_option maxRecDepth 20000
/-- A struct by value, opened: its cells, and of each field its own reading. -/
theorem open_aggs2 {H : Type} {enc : TypeId × Value → H} {P : Program} {w : World} {base : Nat} {spare : Nat → Bool} {held : Bool} {r : Reach} {b0 : Nat} {t : TypeId} {fs : Array Field} {v : Value} {d : DataW H} {p : List MemPlace}
    (hs : P.underlying t = some (.struct fs)) (hv : Value.okWide P w r b0 t v) (h : DataW.Trod enc P w base spare held t v d p) :
    ∃ cs : Array Value, v = .agg cs ∧ cs.size = P.cellsOf t ∧ ∃ n, ∀ (i : Nat) (f : Field), fs[i]? = some f → ∃ y, DataW.trod enc P w base spare held n f.type ((cs.toList.drop f.offset).take (P.cellsOf f.type)) = some y := by
  obtain ⟨cs, rfl, hsz⟩ := okWide_struct hs hv
  obtain ⟨fuel, hf⟩ := h
  obtain ⟨xs, n, _, _, hl, hlen, hx⟩ := DataW.trod_struct hs hf
  refine ⟨cs, rfl, hsz, n, fun i f hi => ?_⟩
  have h1 := hx i f hi
  have hlt : i < xs.length := by
    rw [hlen]
    rcases Nat.lt_or_ge i fs.size with h' | h'
    · exact h'
    · rw [Array.getElem?_eq_none h'] at hi; cases hi
  rw [List.getElem?_eq_getElem hlt] at h1
  exact ⟨_, by simpa [Value.cells] using h1⟩
theorem array12c {α : Type} {cs : Array α} (h : cs.size = 12) : ∃ c0 c1 c2 c3 c4 c5 c6 c7 c8 c9 c10 c11, cs = #[c0, c1, c2, c3, c4, c5, c6, c7, c8, c9, c10, c11] := by
  obtain ⟨l⟩ := cs
  match l, h with
  | [c0, c1, c2, c3, c4, c5, c6, c7, c8, c9, c10, c11], _ => exact ⟨c0, c1, c2, c3, c4, c5, c6, c7, c8, c9, c10, c11, rfl⟩
theorem open_texts_cell {H : Type} {enc : TypeId × Value → H} {W : World} {v : Value} {fuel : Nat} {y : DataW H × List MemPlace}
    (hf : DataW.trod enc Tryz.prog W 0 (fun _ => true) true fuel 22 [v] = some y) :
    ∃ a n cap ts, v = .slice a n cap ∧ HoldsT W a n ts ∧ (a = none → n = 0 ∧ cap = 0) ∧ n ≤ cap ∧ n ≤ 9223372036854775807 ∧ ∀ t ∈ ts, t.size ≤ 9223372036854775807 := by
  rcases open_strings Tryz.underlying22 Tryz.underlying9 Tryz.cellsStr hf with ⟨hcs, _⟩ | ⟨x, l, c, ss, hcs, _, hl, hm, hz, _, hcell, hsz⟩
  · obtain rfl : v = .slice none 0 0 := by simpa using hcs
    exact ⟨none, 0, 0, [], rfl, HoldsT.nil _ _, fun _ => ⟨rfl, rfl⟩, Nat.le_refl _, by omega, by simp⟩
  · obtain rfl : v = .slice (some x) l c := by simpa using hcs
    have hzc : ss.length = c := by simpa using hz
    refine ⟨some x, l, c, ss.take l, rfl, ?_, (fun h => by cases h), hl, by unfold maxLen at hm; omega, fun t ht => by have := hsz t (List.mem_of_mem_take ht); unfold maxLen at this; omega⟩
    refine ⟨by simp [strsV]; omega, fun h0 => ?_⟩
    obtain ⟨b, off, spot⟩ := x
    have hspot : spot = none := by simpa [Addr.add] using World.cell?_spot (hcell 0 (by omega))
    subst hspot
    refine ⟨b, off, rfl, fun i hi => ?_⟩
    rw [← Go.WideShapes.add_plain, hcell i (by omega), getD_map_str _ i (by simp; omega)]
    congr 2
    simp only [List.getD_eq_getElem?_getD, List.getElem?_take]
    rw [if_pos hi]
theorem cells_cfg : Tryz.prog.cellsOf 25 = 12 := by kernel_rfl
theorem cells_ci : Tryz.prog.cellsOf 3 = 1 := by kernel_rfl
theorem cells_ct : Tryz.prog.cellsOf 22 = 1 := by kernel_rfl
theorem cells_ck : Tryz.prog.cellsOf 23 = 1 := by kernel_rfl
theorem cfg_int {H : Type} {enc : TypeId × Value → H} {W : World} {c : Value} {fuel : Nat} {y : DataW H × List MemPlace} (hy : DataW.trod enc Tryz.prog W 0 (fun _ => true) true fuel 3 [c] = some y) : ∃ k : Int, c = .int .i64 k := by
  obtain ⟨k, hk, _⟩ := DataW.trod_int Tryz.underlying3 hy
  exact ⟨k, by simpa using hk⟩
set_option maxRecDepth 100000 in
theorem open_cfg {H : Type} {enc : TypeId × Value → H} {W : World} {base : Nat} {v : Value} {d : DataW H} {p : List MemPlace}
    (hv : Value.okWide Tryz.prog W .any base 25 v) (h : DataW.Trod enc Tryz.prog W 0 (fun _ => true) true 25 v d p) :
    ∃ c : Cfg, v = .agg #[.slice c.wa c.wn c.wc, .slice c.ka c.kn c.kc, .int .i64 c.W, .int .i64 c.C, .int .i64 c.S, .int .i64 c.B, .int .i64 c.L, .int .i64 c.H, .int .i64 c.F, .int .i64 c.P, .int .i64 c.J, .int .i64 c.N] ∧ CfgOk W c := by
  obtain ⟨cs, rfl, hsz, n, hf⟩ := open_aggs2 Tryz.underlying25 hv h
  obtain ⟨c0, c1, c2, c3, c4, c5, c6, c7, c8, c9, c10, c11, rfl⟩ := array12c (hsz.trans cells_cfg)
  obtain ⟨y0, z0⟩ := hf 0 _ rfl
  obtain ⟨wa, wn, wc, ws, rfl, q1, q2, q3, q4, q5⟩ := open_texts_cell (v := c0) (by simpa [cells_ct] using z0)
  obtain ⟨y1, z1⟩ := hf 1 _ rfl
  obtain ⟨ka, kn, kc, ks, rfl, r1, r2, r3, r4, r5⟩ := open_pairs_cell (c := c1) Tryz.underlying23 Tryz.underlying57 (by kernel_rfl) rfl rfl ⟨rfl, rfl⟩ ⟨rfl, rfl⟩ (by simpa [cells_ck] using z1)
  obtain ⟨y2, z2⟩ := hf 2 _ rfl
  obtain ⟨i2, rfl⟩ := cfg_int (c := c2) (by simpa [cells_ci] using z2)
  obtain ⟨y3, z3⟩ := hf 3 _ rfl
  obtain ⟨i3, rfl⟩ := cfg_int (c := c3) (by simpa [cells_ci] using z3)
  obtain ⟨y4, z4⟩ := hf 4 _ rfl
  obtain ⟨i4, rfl⟩ := cfg_int (c := c4) (by simpa [cells_ci] using z4)
  obtain ⟨y5, z5⟩ := hf 5 _ rfl
  obtain ⟨i5, rfl⟩ := cfg_int (c := c5) (by simpa [cells_ci] using z5)
  obtain ⟨y6, z6⟩ := hf 6 _ rfl
  obtain ⟨i6, rfl⟩ := cfg_int (c := c6) (by simpa [cells_ci] using z6)
  obtain ⟨y7, z7⟩ := hf 7 _ rfl
  obtain ⟨i7, rfl⟩ := cfg_int (c := c7) (by simpa [cells_ci] using z7)
  obtain ⟨y8, z8⟩ := hf 8 _ rfl
  obtain ⟨i8, rfl⟩ := cfg_int (c := c8) (by simpa [cells_ci] using z8)
  obtain ⟨y9, z9⟩ := hf 9 _ rfl
  obtain ⟨i9, rfl⟩ := cfg_int (c := c9) (by simpa [cells_ci] using z9)
  obtain ⟨y10, z10⟩ := hf 10 _ rfl
  obtain ⟨i10, rfl⟩ := cfg_int (c := c10) (by simpa [cells_ci] using z10)
  obtain ⟨y11, z11⟩ := hf 11 _ rfl
  obtain ⟨i11, rfl⟩ := cfg_int (c := c11) (by simpa [cells_ci] using z11)
  exact ⟨⟨wa, wn, wc, ka, kn, kc, i2, i3, i4, i5, i6, i7, i8, i9, i10, i11, ws, ks⟩, rfl, q1, q2, q3, q4, q5, r1, r4, r5⟩
end Go.Proofs.YtbbholdadgjelaaGreat
