/- texts joined -/
import Derived.Test.YtbbholdadgjelaaGreatPkC
import Derived.Deep.AppendLies
import Derived.Test.YtbbholdadgjelaaGreatPkB
import Derived.Test.YtbbholdadgjelaaGreatPkA
import Derived.Test.YtbbholdadgjelaaGreatChecked
import Derived.WalkLawsBesides
import Derived.WalkSpells
import Derived.Outline
import Derived.Lib.Hide
import Derived.Carry
import Derived.Deep.QuietTactic
import Derived.BigQuiet
import Derived.Deep.DeepCutAuto
import Derived.Deep.RegionLaw
import Derived.Deep.RegionHeld3
import Derived.Laws.ResultCell
import Derived.Lib.SliceRun
/- graph: From's closure -/
namespace Go.Proofs.YtbbholdadgjelaaGreat
open Go.RowKit
set_option linter.unusedVariables false
set_option maxRecDepth 20000
/-- a word is handed over: what is held then, and whether more may come -/
def takeO (lo : Tx) (out : List Tx) (x : Tx) : List Tx := if cmpS x lo < 0 then out else out ++ [x]
def takeL (lo : Tx) (most : Int) : List Tx → List Tx → List Tx × Bool
  | out, [] => (out, true)
  | out, x :: l => if ((takeO lo out x).length : Int) < most then takeL lo most (takeO lo out x) l else (takeO lo out x, false)
theorem takeO_len (lo : Tx) (out : List Tx) (x : Tx) : (takeO lo out x).length ≤ out.length + 1 := by
  unfold takeO; split <;> simp
theorem takeL_len (lo : Tx) (most : Int) : ∀ (l out : List Tx), (takeL lo most out l).1.length ≤ out.length + l.length
  | [], out => by simp [takeL]
  | x :: l, out => by
    have h1 := takeO_len lo out x
    have h2 := takeL_len lo most l (takeO lo out x)
    unfold takeL
    split
    · simp only [List.length_cons]; omega
    · simp only [List.length_cons]; omega
theorem takeL_app (lo : Tx) (most : Int) : ∀ (a b out : List Tx), takeL lo most out (a ++ b) = if (takeL lo most out a).2 then takeL lo most (takeL lo most out a).1 b else ((takeL lo most out a).1, false)
  | [], b, out => by simp [takeL]
  | x :: a, b, out => by
    have ih := takeL_app lo most a b (takeO lo out x)
    simp only [List.cons_append, takeL]
    split
    · exact ih
    · simp
/-- what the closure holds: the text, the list, how many -/
structure QT (B : Nat) (lo : Tx) (most : Int) (p1 p2 p3 : Nat) (out : List Tx) (oa : Option Addr) (oc : Nat) (w : World) (S : Nat → Prop) : Prop where
  c1 : w.cell? ⟨p1, 0, none⟩ = some (.string lo)
  c2 : w.cell? ⟨p2, 0, none⟩ = some (.slice oa out.length oc)
  c3 : w.cell? ⟨p3, 0, none⟩ = some (.int .i64 most)
  f : ∀ i, w.frozen? ⟨p2, i, none⟩ = false
  o : w.ownsRow B 9 1 (.slice oa out.length oc) out.length (strsV out)
  s1 : S p1
  s2 : S p2
  s3 : S p3
  n1 : p1 ≠ p2
  n2 : p3 ≠ p2
  no : ∀ q, oa = some ⟨q, 0, none⟩ → S q ∧ q ≠ p1 ∧ q ≠ p2 ∧ q ≠ p3
  lt : ∀ k, S k → k < w.heap.size
  b : B ≤ w.heap.size
def QTs (B : Nat) (lo : Tx) (most : Int) (p1 p2 p3 : Nat) (out : List Tx) (w : World) (S : Nat → Prop) : Prop := ∃ oa oc, QT B lo most p1 p2 p3 out oa oc w S
theorem QT.blocks {B : Nat} {lo : Tx} {most : Int} {p1 p2 p3 : Nat} {out : List Tx} {oa : Option Addr} {oc : Nat} {w w' : World} {S : Nat → Prop} (h : QT B lo most p1 p2 p3 out oa oc w S) (hs : w.heap.size ≤ w'.heap.size) (hb : ∀ k, S k → w'.heap[k]? = w.heap[k]?) : QT B lo most p1 p2 p3 out oa oc w' S :=
  ⟨(World.cell?_of_block (w := w) (hb p1 h.s1)).trans h.c1, (World.cell?_of_block (w := w) (hb p2 h.s2)).trans h.c2, (World.cell?_of_block (w := w) (hb p3 h.s3)).trans h.c3, fun i => (World.frozen?_of_block (w := w) (hb p2 h.s2)).trans (h.f i), gowns_block h.o (fun q hq => hb q (h.no q hq).1), h.s1, h.s2, h.s3, h.n1, h.n2, h.no, fun k hk => Nat.lt_of_lt_of_le (h.lt k hk) hs, Nat.le_trans h.b hs⟩
theorem qts_ok (B : Nat) (lo : Tx) (most : Int) (p1 p2 p3 : Nat) (out : List Tx) : ObjOk (QTs B lo most p1 p2 p3 out) :=
  ⟨fun h t hF => by obtain ⟨oa, oc, x⟩ := h; exact ⟨oa, oc, x.blocks t.size (fun k hk => t.block k (x.lt k hk) (hF k hk))⟩, fun h => by obtain ⟨oa, oc, x⟩ := h; exact x.lt⟩
theorem strsV_snocG (l : List Tx) (x : Tx) : strsV (l ++ [x]) = strsV l ++ [.string x] := by simp [strsV]
/-- behind a word more -/
theorem QT.grow {B : Nat} {lo x : Tx} {most : Int} {p1 p2 p3 : Nat} {out : List Tx} {oa : Option Addr} {oc : Nat} {w w6 : World} {S : Nat → Prop} {q cap : Nat} {o : Obj} (h : QT B lo most p1 p2 p3 out oa oc w S)
    (own : w6.ownsRow B 9 1 (.slice (some ⟨q, 0, none⟩) (out.length + 1) cap) (out.length + 1) (strsV out ++ [.string x]))
    (hg : (w.alloc o).grownBy w6 (Value.slice oa out.length oc).ownBlock) (hat : (Value.slice oa out.length oc).ownBlock = some q ∨ q = (w.alloc o).heap.size) (hlt : q < w6.heap.size) :
    PO (QTs B lo most p1 p2 p3 (out ++ [x])) w S (w6.setCell ⟨p2, 0, none⟩ (.slice (some ⟨q, 0, none⟩) (out.length + 1) cap)) := by
  have hza : (w.alloc o).heap.size = w.heap.size + 1 := by simp
  have hz6 := hg.size
  have old : ∀ k, k < w.heap.size → (∀ r, oa = some ⟨r, 0, none⟩ → k ≠ r) → w6.heap[k]? = w.heap[k]? := fun k hk hn =>
    (hg.block k (by omega) (fun e => hn k (gown_at h.o e) rfl)).trans (Below.heap_alloc _ _ _ (by omega))
  have ob1 := old p1 (h.lt _ h.s1) (fun r e hq => (h.no r e).2.1 hq.symm)
  have ob2 := old p2 (h.lt _ h.s2) (fun r e hq => (h.no r e).2.2.1 hq.symm)
  have ob3 := old p3 (h.lt _ h.s3) (fun r e hq => (h.no r e).2.2.2 hq.symm)
  have gq : q ≠ p1 ∧ q ≠ p2 ∧ q ≠ p3 := by
    rcases hat with e | e
    · exact (h.no q (gown_at h.o e.symm)).2
    · have := h.lt _ h.s1; have := h.lt _ h.s2; have := h.lt _ h.s3; omega
  have sz : (w6.setCell ⟨p2, 0, none⟩ (.slice (some ⟨q, 0, none⟩) (out.length + 1) cap)).heap.size = w6.heap.size := by simp [World.setCell]
  have hlen : (out ++ [x]).length = out.length + 1 := by simp
  have n1 := h.n1; have n2 := h.n2
  refine ⟨fun k => S k ∨ k = q, ⟨some ⟨q, 0, none⟩, cap, ⟨?_, ?_, ?_, fun i => ?_, ?_, Or.inl h.s1, Or.inl h.s2, Or.inl h.s3, h.n1, h.n2, fun r hr => ?_, fun k hk => ?_, ?_⟩⟩, fun k hk => ?_, ?_⟩
  · rw [cset_far (Ne.symm n1)]; exact (World.cell?_of_block (w := w) ob1).trans h.c1
  · rw [hlen]; exact cset_at ((World.cell?_of_block (w := w) ob2).trans h.c2)
  · rw [cset_far (Ne.symm n2)]; exact (World.cell?_of_block (w := w) ob3).trans h.c3
  · rw [fset_any]; exact (World.frozen?_of_block (w := w) ob2).trans (h.f i)
  · rw [hlen, strsV_snocG]
    exact gowns_block own (fun r hr => by injection hr with hr; injection hr with hr; subst hr; exact gheap_far gq.2.1)
  · injection hr with hr; injection hr with hr; subst hr
    exact ⟨Or.inr rfl, gq⟩
  · rw [sz]
    rcases hk with hk | hk
    · have := h.lt k hk; omega
    · rw [hk]; exact hlt
  · rw [sz]; have := h.b; omega
  · rcases hk with hk | hk
    · exact Or.inl hk
    · rcases hat with e | e
      · exact Or.inl (by rw [hk]; exact (h.no q (gown_at h.o e.symm)).1)
      · exact Or.inr (by omega)
  · refine Turn.trans ?_ (Turn.setCell h.s2)
    exact ⟨hg.os, hg.tape, hg.output, by omega, fun k hk hn => old k hk (fun r e h2 => hn (by rw [h2]; exact (h.no r e).1))⟩
theorem QT.mid {B : Nat} {lo : Tx} {most : Int} {p1 p2 p3 : Nat} {out : List Tx} {oa : Option Addr} {oc : Nat} {w w6 : World} {S : Nat → Prop} {o : Obj} (h : QT B lo most p1 p2 p3 out oa oc w S) (hg : (w.alloc o).grownBy w6 (Value.slice oa out.length oc).ownBlock) :
    w6.cell? ⟨p2, 0, none⟩ = some (.slice oa out.length oc) ∧ w6.frozen? ⟨p2, 0, none⟩ = false ∧ ∀ v, (w6.setCell ⟨p2, 0, none⟩ v).cell? ⟨p3, 0, none⟩ = some (.int .i64 most) := by
  have hza : (w.alloc o).heap.size = w.heap.size + 1 := by simp
  have old : ∀ k, k < w.heap.size → (∀ r, oa = some ⟨r, 0, none⟩ → k ≠ r) → w6.heap[k]? = w.heap[k]? := fun k hk hn =>
    (hg.block k (by omega) (fun e => hn k (gown_at h.o e) rfl)).trans (Below.heap_alloc _ _ _ (by omega))
  have ob2 := old p2 (h.lt _ h.s2) (fun r e hq => (h.no r e).2.2.1 hq.symm)
  have ob3 := old p3 (h.lt _ h.s3) (fun r e hq => (h.no r e).2.2.2 hq.symm)
  exact ⟨(World.cell?_of_block (w := w) ob2).trans h.c2, (World.frozen?_of_block (w := w) ob2).trans (h.f 0), fun v => (cset_far (Ne.symm h.n2)).trans ((World.cell?_of_block (w := w) ob3).trans h.c3)⟩
end Go.Proofs.YtbbholdadgjelaaGreat
/- graph: each -/
namespace Go.Proofs.YtbbholdadgjelaaGreat
open Go.RowKit
set_option linter.unusedVariables false
set_option maxRecDepth 20000
theorem GAt.edges {g : Nat} {st : List GN} {w : World} {Sg S : Nat → Prop} (h : GAt g st w Sg) (hA : ∀ k, Sg k → ¬ S k) {n : Nat} (hn : n < st.length) : ∃ q nc ea ec, w.cell? ⟨g, 0, none⟩ = some (.slice (some ⟨q, 0, none⟩) st.length nc) ∧ w.cell? ⟨q, n * 2, none⟩ = some (.bool (st.getD n gn0).final) ∧ (∀ w', Turn S w w' → w'.cell? ⟨g, 0, none⟩ = some (.slice (some ⟨q, 0, none⟩) st.length nc) ∧ w'.cell? ⟨q, n * 2 + 1, none⟩ = some (.slice ea (st.getD n gn0).edges.length ec) ∧ HoldsEd w' ea (st.getD n gn0).edges.length (st.getD n gn0).edges) := by
  obtain ⟨na, nc, NL, G, e⟩ := h
  obtain ⟨e1, e2⟩ := map_eqG _ _ e
  have c := G.c
  obtain ⟨q, rfl, c0, c1⟩ := G.at (i := n) (by omega)
  obtain ⟨e3, e4⟩ := e2 n hn
  rw [e1] at c
  rw [e3] at c0
  have ei := G.e _ (mem_nm (show n < NL.length by omega))
  unfold EdIn at ei
  rw [e4] at c1 ei
  exact ⟨q, nc, _, _, c, c0, fun w' t => ⟨(t.cell (lt_of_cell c) (hA _ G.sg)).trans c, (t.cell (lt_of_cell c1) (hA _ (G.sn q rfl).1)).trans c1, holdsEd_blocks ei.1 (fun fb fo e => t.block fb (G.lt fb (ei.2.2.2 fb fo e).1) (hA _ (ei.2.2.2 fb fo e).1))⟩⟩
theorem fol_map {l : List Tx} (h : Run l) (h0 : l ≠ []) (s : Tx) : (folS l).2.map (fun x => (s ++ Utf8.encode ((folS l).1 : Int)) ++ x) = (l.take (folS l).2.length).map (fun x => s ++ x) := by
  obtain ⟨k, hk, h1, h2⟩ := fol_split h0
  rw [← hk, h2, List.map_map]
  refine List.map_congr_left fun u hu => ?_
  have hm : u ∈ l := List.mem_of_mem_take hu
  have hl : labS u = (folS l).1 := by
    rw [h1] at hu
    have h3 := mem_tw (p := fun t => decide (labS t = labS (l.getD 0 ByteArray.empty))) hu
    rw [show labS u = labS (l.getD 0 ByteArray.empty) from of_decide_eq_true h3]
    cases l with
    | nil => exact absurd rfl h0
    | cons a l => rfl
  show (s ++ Utf8.encode ((folS l).1 : Int)) ++ rstS u = s ++ u
  rw [← hl, ByteArray.append_assoc, enc_rst (h.lo u hm) (h.pos u hm)]
theorem drop_ed (l : List EdP) (j : Nat) (h : j < l.length) : l.drop j = l.getD j ed0 :: l.drop (j + 1) := by
  rw [List.drop_eq_getElem_cons h, List.getD_eq_getElem?_getD, List.getElem?_eq_getElem h]; rfl
def Apart (S T : Nat → Prop) : Prop := ∀ k, S k → ¬ T k
end Go.Proofs.YtbbholdadgjelaaGreat
/- graph: From, Words -/
namespace Go.Proofs.YtbbholdadgjelaaGreat
open Go.RowKit
set_option linter.unusedVariables false
set_option maxRecDepth 20000
def fromL (ts : List Tx) (lo : Tx) (most : Int) : List Tx := (ts.filter (fun t => !decide (cmpS t lo < 0))).take most.toNat
theorem takeL_from (lo : Tx) (most : Int) : ∀ (ts out : List Tx), (out.length : Int) < most → (takeL lo most out ts).1 = out ++ (ts.filter (fun t => !decide (cmpS t lo < 0))).take (most - out.length).toNat
  | [], out, _ => by simp [takeL]
  | x :: l, out, h => by
    rw [takeL]
    by_cases hc : cmpS x lo < 0
    · have e : takeO lo out x = out := if_pos hc
      rw [e, if_pos h, takeL_from lo most l out h, List.filter_cons_of_neg (by simpa using hc)]
    · have e : takeO lo out x = out ++ [x] := if_neg hc
      have hl : (out ++ [x]).length = out.length + 1 := by simp
      rw [e, List.filter_cons_of_pos (by simpa using hc), show (most - (out.length : Int)).toNat = (most - ((out.length : Int) + 1)).toNat + 1 by omega, List.take_succ_cons]
      by_cases hm : ((out ++ [x]).length : Int) < most
      · rw [if_pos hm, takeL_from lo most l (out ++ [x]) hm, hl, List.append_assoc]
        simp
      · rw [if_neg hm]
        rw [hl] at hm
        rw [show (most - ((out.length : Int) + 1)).toNat = 0 by omega]
        simp
theorem from_takeL (ts : List Tx) (lo : Tx) (most : Int) (h : 1 ≤ most) : (takeL lo most [] (ts.map (fun x => (⟨#[]⟩ : ByteArray) ++ x))).1 = fromL ts lo most := by
  have e : ts.map (fun x => (⟨#[]⟩ : ByteArray) ++ x) = ts := by
    conv => rhs; rw [← List.map_id ts]
    exact List.map_congr_left fun a _ => ByteArray.empty_append
  rw [e, takeL_from lo most ts [] (by simp; omega)]
  simp [fromL]
def RetTx (w : World) (ts : List Tx) (e : Ending) (w' : World) : Prop := ∃ a c, e = .returned (.slice a ts.length c) ∧ w'.ownsRow w.heap.size 9 1 (.slice a ts.length c) ts.length (strsV ts) ∧ Below w.heap.size w w'
theorem qt_start (w : World) (lo : Tx) (most : Int) (t1 t2 t3 : TypeId) : QTs w.heap.size lo most w.heap.size (w.heap.size + 1 + 1) (w.heap.size + 1) [] (((w.alloc (Obj.cells #[Value.string lo] t1)).alloc (Obj.cells #[Value.int IntKind.i64 most] t2)).alloc (Obj.cells #[Value.slice none 0 0] t3)) (fun k => w.heap.size ≤ k ∧ k < w.heap.size + 3) := by
  have hb := Below.heap_alloc ((w.alloc (Obj.cells #[Value.string lo] t1)).alloc (Obj.cells #[Value.int IntKind.i64 most] t2)) (Obj.cells #[Value.slice none 0 0] t3)
  have hc := Below.heap_alloc (w.alloc (Obj.cells #[Value.string lo] t1)) (Obj.cells #[Value.int IntKind.i64 most] t2)
  have b0 := (hb w.heap.size (by simp; omega)).trans (hc w.heap.size (by simp))
  have b1 := hb (w.heap.size + 1) (by simp)
  refine ⟨none, 0, ⟨?_, ?_, ?_, fun i => ?_, World.ownsRow_nil _ _ _ _, ⟨by omega, by omega⟩, ⟨by omega, by omega⟩, ⟨by omega, by omega⟩, by omega, by omega, fun q hq => by (cases hq), fun k hk => ?_, ?_⟩⟩
  · rw [World.cell?_of_block (w := w.alloc (Obj.cells #[Value.string lo] t1)) b0, World.cell?_alloc_at _ _ _ _ rfl]; rfl
  · rw [World.cell?_alloc_at _ _ _ _ (by simp)]; rfl
  · rw [World.cell?_of_block (w := (w.alloc (Obj.cells #[Value.string lo] t1)).alloc (Obj.cells #[Value.int IntKind.i64 most] t2)) b1, World.cell?_alloc_at _ _ _ _ (by simp)]; rfl
  · rw [World.frozen?_alloc_at _ _ _ _ (by simp)]
  · simp; omega
  · simp; omega
theorem words_all {ts : List Tx} (h : ts.length ≤ 60) : fromL ts ⟨#[]⟩ 60 = ts := by
  unfold fromL
  have e : ts.filter (fun t => !decide (cmpS t (⟨#[]⟩ : ByteArray) < 0)) = ts := List.filter_eq_self.2 (fun t _ => by simpa using cmp_empty t)
  rw [e]
  exact List.take_of_length_le (by simpa using h)
end Go.Proofs.YtbbholdadgjelaaGreat
/- pack: contracts in the laws' forms; awake -/
namespace Go.Proofs.YtbbholdadgjelaaGreat
open Go.RowKit
set_option linter.unusedVariables false
set_option maxRecDepth 20000
theorem imgB_lt (st : List GN) : ∀ b ∈ imgB st, b < 256 := sealB_lt _ (bodyB_lt _)
/-- Of, its bytes named -/
theorem pOf_c (a : Option Addr) (n cap : Nat) (ts : List Tx) (I : List Nat) (m : Nat) {w0 : World} (w : World) (hw : Below w0.heap.size w0 w) (hh : HoldsT w a n ts) (hc : n ≤ cap) (hn : n ≤ 9223372036854775807) (hv : goodV ts = 0) (hI : imgB (grS ts) = I) (hm : I.length = m) :
    Calls Tryz.prog 42 #[.slice a n cap] w fun e w' => ∃ a' c', e = .returned (.tuple #[.slice a' m c', .int .i64 0]) ∧ w'.ownsRow w0.heap.size 5 1 (.slice a' m c') m (bytesV I) ∧ HoldsB w' a' m I ∧ m ≤ c' ∧ Below w0.heap.size w0 w' ∧ Below w.heap.size w w' := by
  subst hI hm
  refine (pOf_good a n cap ts w hh hc hn (fun t ht => by have := good_sizes hv t ht; omega) hv).mono ?_
  rintro e w' ⟨a2, c2, rfl, h1, h2, -⟩
  exact ⟨a2, c2, rfl, base_less9 h1 hw.size, holdsB_of_values (owns_holds h1) (imgB_lt _), (owns_none h1).2, hw.trans (h2.mono hw.size), h2⟩
/-- Encode of the words' graph, its bytes named -/
theorem encode_c (ts : List Tx) (st : List GN) (I : List Nat) (m : Nat) (hst : grS ts = st) {w0 : World} {g : Nat} {S : Nat → Prop} (w : World) (c : CtxG w0 w g st S) (hv : goodV ts = 0) (hI : imgB st = I) (hm : I.length = m) :
    Calls Tryz.prog 57 #[.pointer (some ⟨g, 0, none⟩)] w fun e w' => ∃ a' c', e = .returned (.tuple #[.slice a' m c', .int .i64 0]) ∧ HoldsB w' a' m I ∧ m ≤ c' ∧ Below w.heap.size w w' ∧ w'.ownsRow w.heap.size 5 1 (.slice a' m c') m (bytesV I) := by
  subst hI hm hst
  refine (encode_of g ts S w c.G hv (fun t ht => by have := good_sizes hv t ht; omega)).mono ?_
  rintro e w' ⟨a2, c2, rfl, h1, h2, -⟩
  exact ⟨a2, c2, rfl, holdsB_of_values (owns_holds h1) (imgB_lt _), (owns_none h1).2, h2, h1⟩
theorem imgB_len {ts : List Tx} (h : goodV ts = 0) : 10 ≤ (imgB (grS ts)).length ∧ (imgB (grS ts)).length ≤ 524004 := by
  obtain ⟨h1, h2⟩ := grS_edges h
  have h3 := bodyB_len h2 (by omega)
  unfold imgB
  rw [sealB_len]
  refine ⟨?_, by omega⟩
  unfold bodyB
  rw [List.length_append, List.length_append, Cod.bytesOf_length]
  simp only [List.length_cons, List.length_nil]
  omega
theorem grS_none : grS [] = [⟨[], false, []⟩] := by
  unfold grS reachF
  rfl
theorem img_none : ∃ I, imgB (grS []) = I ∧ I.length = 13 ∧ I.getD 0 0 = 73 ∧ I.getD 5 0 = 1 ∧ decS I = some [] := by
  refine ⟨imgB (grS []), rfl, ?_, ?_, ?_, decS_img (by decide)⟩
  · rw [grS_none]; unfold imgB; rw [sealB_len]; rfl
  · rw [grS_none]; unfold imgB sealB; rfl
  · rw [grS_none]; unfold imgB sealB; rfl
theorem bytesV_at {I : List Nat} {i : Nat} (h : i < I.length) : (bytesV I).getD i undef = .int .u8 ((I.getD i 0 : Nat) : Int) := by
  unfold bytesV
  simp [List.getD_eq_getElem?_getD, List.getElem?_eq_getElem h]
theorem cell_at9 {w : World} {B : Nat} {q c m : Nat} {I : List Nat} (h : w.ownsRow B 5 1 (.slice (some ⟨q, 0, none⟩) m c) m (bytesV I)) (i : Nat) (hi : i < m) (hl : I.length = m) (v : Nat) (hv : I.getD i 0 = v) : w.cell? ⟨q, i, none⟩ = some (.int .u8 (v : Int)) := by
  have h1 := owns_holds h
  obtain ⟨b, o, e, hc⟩ := h1.2 (by omega)
  injection e with e
  injection e with e1 e2
  subst e1 e2
  have := hc i hi
  rw [Nat.zero_add, bytesV_at (by omega), hv] at this
  exact this
end Go.Proofs.YtbbholdadgjelaaGreat
/- place: Image -/
namespace Go.Proofs.YtbbholdadgjelaaGreat
open Go.RowKit
set_option linter.unusedVariables false
set_option maxRecDepth 20000
theorem good_filter {ws : List Tx} (h : goodV ws = 0) (p : Tx → Bool) : goodV (ws.filter p) = 0 := by
  obtain ⟨h1, h2, h3⟩ := goodV_zero h
  refine goodV_good ?_ (fun t ht => h2 t (List.mem_filter.1 ht).1) (List.Pairwise.sublist List.filter_sublist h3)
  have := List.length_filter_le p ws
  omega
set_option maxHeartbeats 1600000 in
theorem image_in (c : Cfg) (s : Nat) (zs : List Tx) (I : List Nat) (m : Nat) (w : World) (h : CfgOk w c) (hm : c.may = true) (hs : s < c.kn + 1) (hz : sliceS c.ks c.ws s = zs) (hI : imgB (grS zs) = I) (hl : I.length = m) :
    Calls Tryz.prog 25 #[.agg #[.slice c.wa c.wn c.wc, .slice c.ka c.kn c.kc, .int .i64 c.W, .int .i64 c.C, .int .i64 c.S, .int .i64 c.B, .int .i64 c.L, .int .i64 c.H, .int .i64 c.F, .int .i64 c.P, .int .i64 c.J, .int .i64 c.N], .int .i64 (s : Int)] w fun e w' => ∃ a' c', e = .returned (.tuple #[.slice a' m c', .int .i64 0]) ∧ w'.ownsRow w.heap.size 5 1 (.slice a' m c') m (bytesV I) ∧ HoldsB w' a' m I ∧ m ≤ c' ∧ Below w.heap.size w w' := by
  have BX := Lib.hid (below_one w (.cells #[.slice c.wa c.wn c.wc, .slice c.ka c.kn c.kc, .int .i64 c.W, .int .i64 c.C, .int .i64 c.S, .int .i64 c.B, .int .i64 c.L, .int .i64 c.H, .int .i64 c.F, .int .i64 c.P, .int .i64 c.J, .int .i64 c.N] 25))
  have IN := Lib.hid (cfgIn_new w c w.heap.size 25 (0, 0) rfl)
  have OK := Lib.hid h
  have hg : goodV zs = 0 := by rw [← hz]; exact good_filter (may_parts hm).1 _
  have l60 := (goodV_zero hg).1
  obtain ⟨k, hk⟩ : ∃ k, zs.length = k := ⟨_, rfl⟩
  have CH := Lib.hid (fun (w1 : World) (hb : Below w.heap.size w w1) => has_any c (s : Int) true w1 (OK.out.below hb) hm (decide_eq_true ⟨by omega, by omega⟩))
  have CW := Lib.hid (fun (w1 : World) (hb : Below w.heap.size w w1) => pwords_any c s k zs w1 (OK.out.below hb) hm hs hz hk)
  have CO := Lib.hid (fun (a' : Option Addr) (c' : Nat) (w1 : World) (hb : Below w.heap.size w w1) (hh : HoldsT w1 a' k zs) (hc : k ≤ c') => pOf_c a' k c' zs I m (w0 := w) w1 hb hh hc (by omega) hg hI hl)
  clear h hm hs hz hI hl hg hk l60
  go_enter Tryz.func25, Tryz.ntmps25
  go_upto_region 1 with fail
  generalize w.alloc (.cells #[.slice c.wa c.wn c.wc, .slice c.ka c.kn c.kc, .int .i64 c.W, .int .i64 c.C, .int .i64 c.S, .int .i64 c.B, .int .i64 c.L, .int .i64 c.H, .int .i64 c.F, .int .i64 c.P, .int .i64 c.J, .int .i64 c.N] 25) = w1 at *
  obtain ⟨p, hp⟩ : ∃ p, w.heap.size = p := ⟨_, rfl⟩
  have HP := Lib.hid hp
  rw [hp] at IN
  rw [hp]
  have hI := IN.out
  unfold CfgIn at hI
  obtain ⟨i0, i1, i2, i3, i4, i5, i6, i7, i8, i9, i10, i11⟩ := hI
  have CH1 := Lib.hid (CH.out w1 BX.out)
  clear CH hp
  go_wp2_with fail
  with_reducible refine CH1.out.mono ?_
  rintro e w2 ⟨rfl, hb2⟩
  have B2 := Lib.hid (BX.out.trans (hb2.mono BX.out.size))
  have I2 := Lib.hid (IN.out.below hb2)
  clear hb2 CH1 i0 i1 i2 i3 i4 i5 i6 i7 i8 i9 i10 i11 IN
  have hI := I2.out
  unfold CfgIn at hI
  obtain ⟨i0, i1, i2, i3, i4, i5, i6, i7, i8, i9, i10, i11⟩ := hI
  have CW1 := Lib.hid (CW.out w2 B2.out)
  clear CW
  go_wp2_with fail
  with_reducible refine CW1.out.mono ?_
  rintro e w3 ⟨a3, c3, rfl, L3, hb3⟩
  have B3 := Lib.hid (B2.out.trans (hb3.mono B2.out.size))
  have CO1 := Lib.hid (CO.out a3 c3 w3 B3.out L3.1 L3.2.2)
  clear hb3 L3 CW1 CO i0 i1 i2 i3 i4 i5 i6 i7 i8 i9 i10 i11
  go_wp2_with fail
  with_reducible refine CO1.out.mono ?_
  rintro e w4 ⟨a4, c4, rfl, o4, h4, hc4, b4, -⟩
  have F := Lib.hid (And.intro o4 (And.intro h4 (And.intro hc4 b4)))
  clear o4 h4 hc4 b4 CO1
  go_wp2_with fail
  go_ret2
  exact ⟨a4, c4, rfl, F.out.1, F.out.2.1, F.out.2.2.1, F.out.2.2.2⟩
theorem image_out (c : Cfg) (s : Int) (w : World) (h : CfgOk w c) (hm : c.may = true) (hs : ¬ (0 ≤ s ∧ s < ((c.kn + 1 : Nat) : Int))) :
    Calls Tryz.prog 25 #[.agg #[.slice c.wa c.wn c.wc, .slice c.ka c.kn c.kc, .int .i64 c.W, .int .i64 c.C, .int .i64 c.S, .int .i64 c.B, .int .i64 c.L, .int .i64 c.H, .int .i64 c.F, .int .i64 c.P, .int .i64 c.J, .int .i64 c.N], .int .i64 s] w fun e w' => e = .returned (.tuple #[.slice none 0 0, .int .i64 4]) ∧ Below w.heap.size w w' := by
  have BX := Lib.hid (below_one w (.cells #[.slice c.wa c.wn c.wc, .slice c.ka c.kn c.kc, .int .i64 c.W, .int .i64 c.C, .int .i64 c.S, .int .i64 c.B, .int .i64 c.L, .int .i64 c.H, .int .i64 c.F, .int .i64 c.P, .int .i64 c.J, .int .i64 c.N] 25))
  have CH := Lib.hid (has_any c s false _ (h.below BX.out) hm (decide_eq_false hs))
  clear h hm hs
  go_enter Tryz.func25, Tryz.ntmps25
  go_wp2_with fail
  with_reducible refine CH.out.mono ?_
  rintro e w2 ⟨rfl, hb2⟩
  have B2 := Lib.hid (BX.out.trans (hb2.mono BX.out.size))
  clear hb2 CH
  go_wp2_with fail
  go_ret2
  exact ⟨rfl, B2.out⟩
end Go.Proofs.YtbbholdadgjelaaGreat
/- place: how shards are spread (plain) -/
namespace Go.Proofs.YtbbholdadgjelaaGreat
open Go.RowKit
set_option linter.unusedVariables false
set_option maxRecDepth 20000
namespace Pl
theorem cop_bd {W C s : Nat} (hW : 1 ≤ W) {x : Int} (h : x ∈ cop W C s) : 1 ≤ x ∧ x ≤ (W : Int) := by
  unfold cop at h
  obtain ⟨j, _, rfl⟩ := List.mem_map.1 h
  have := Nat.mod_lt (s + j) (show 0 < W by omega)
  omega
def inN (W C s i : Nat) : Bool := (List.range C).any fun j => (1 + (s + j) % W) == i
theorem mem_cop (W C s i : Nat) : decide ((i : Int) ∈ cop W C s) = inN W C s i := by
  unfold cop inN
  rw [Bool.eq_iff_iff]
  simp only [decide_eq_true_eq, List.mem_map, List.any_eq_true, beq_iff_eq]
  constructor
  · rintro ⟨j, h1, h2⟩; exact ⟨j, h1, by omega⟩
  · rintro ⟨j, h1, h2⟩; exact ⟨j, h1, by omega⟩
def cnt (W C S i : Nat) : Nat := ((List.range S).filter fun s => inN W C s i).length
theorem keep_cnt (W C S i : Nat) : (keep W C S (i : Int)).length = cnt W C S i := by
  unfold keep cnt
  congr 1
  apply List.filter_congr
  intro s _
  exact mem_cop W C s i
theorem keep_none {W C S : Nat} (hW : 1 ≤ W) {x : Int} (h : ¬ (1 ≤ x ∧ x ≤ (W : Int))) : keep W C S x = [] := by
  unfold keep
  rw [List.filter_eq_nil_iff]
  intro s _ hs
  exact h (cop_bd hW (of_decide_eq_true hs))
def loF (W C S : Nat) : Nat → Nat
  | 0 => 100
  | k + 1 => min (loF W C S k) (cnt W C S (k + 1))
def hiF (W C S : Nat) : Nat → Nat
  | 0 => 0
  | k + 1 => max (hiF W C S k) (cnt W C S (k + 1))
theorem lo_le (W C S : Nat) : ∀ k, loF W C S k ≤ 100
  | 0 => Nat.le_refl _
  | k + 1 => Nat.le_trans (Nat.min_le_left _ _) (lo_le W C S k)
theorem cnt_le (W C S i : Nat) : cnt W C S i ≤ S := by
  unfold cnt
  exact Nat.le_trans (List.length_filter_le _ _) (by simp)
theorem hi_le (W C S : Nat) : ∀ k, hiF W C S k ≤ S
  | 0 => by unfold hiF; omega
  | k + 1 => by unfold hiF; have := hi_le W C S k; have := cnt_le W C S (k + 1); omega
theorem spread_tab : ((List.range 6).all fun W => (List.range 4).all fun C => (List.range 7).all fun S => !(decide (1 ≤ W) && decide (1 ≤ C) && decide (C ≤ W) && decide (1 ≤ S)) || (decide (hiF W C S W ≤ loF W C S W + C) && decide (1 ≤ hiF W C S W))) = true := by decide +kernel
theorem spread_all {W C S : Nat} (h1 : 1 ≤ W) (h2 : W ≤ 5) (h3 : 1 ≤ C) (h4 : C ≤ 3) (h5 : C ≤ W) (h6 : 1 ≤ S) (h7 : S ≤ 6) : hiF W C S W ≤ loF W C S W + C ∧ 1 ≤ hiF W C S W := by
  have t := spread_tab
  rw [List.all_eq_true] at t
  have t1 := t W (by simp; omega)
  rw [List.all_eq_true] at t1
  have t2 := t1 C (by simp; omega)
  rw [List.all_eq_true] at t2
  have t3 := t2 S (by simp; omega)
  simpa [h1, h3, h5, h6] using t3
end Pl
end Go.Proofs.YtbbholdadgjelaaGreat
/- place: who keeps what (plain) -/
namespace Go.Proofs.YtbbholdadgjelaaGreat
open Go.RowKit
set_option linter.unusedVariables false
set_option maxRecDepth 20000
namespace Pl
theorem cop_at {W C s j : Nat} (h : j < C) : (cop W C s).getD j 0 = ((1 + (s + j) % W : Nat) : Int) := by
  unfold cop
  rw [List.getD_eq_getElem?_getD, List.getElem?_map, List.getElem?_eq_getElem (by simpa using h)]
  simp
theorem ne_tab : ((List.range 6).all fun W => (List.range 7).all fun s => (List.range 4).all fun i => (List.range i).all fun j => !(decide (i < W)) || !((s + i) % W == (s + j) % W)) = true := by decide +kernel
theorem cop_ne {W C s i j : Nat} (h1 : W ≤ 5) (h2 : s ≤ 6) (h3 : i < C) (h4 : C ≤ W) (h5 : C ≤ 4) (h6 : j < i) : (cop W C s).getD i 0 ≠ (cop W C s).getD j 0 := by
  have t := ne_tab
  rw [List.all_eq_true] at t
  have t1 := t W (by simp; omega)
  rw [List.all_eq_true] at t1
  have t2 := t1 s (by simp; omega)
  rw [List.all_eq_true] at t2
  have t3 := t2 i (by simp; omega)
  rw [List.all_eq_true] at t3
  have t4 := t3 j (by simpa using h6)
  rw [cop_at h3, cop_at (by omega)]
  simp only [show i < W by omega, decide_true, Bool.not_true, Bool.false_or, Bool.not_eq_true', beq_eq_false_iff_ne] at t4
  omega
def sumF (W C S : Nat) : Nat → Nat
  | 0 => 0
  | k + 1 => sumF W C S k + cnt W C S (k + 1)
theorem sum_tab : ((List.range 6).all fun W => (List.range 4).all fun C => (List.range 7).all fun S => !(decide (1 ≤ W) && decide (C ≤ W)) || (sumF W C S W == C * S)) = true := by decide +kernel
theorem sum_all {W C S : Nat} (h1 : 1 ≤ W) (h2 : W ≤ 5) (h4 : C ≤ 3) (h5 : C ≤ W) (h7 : S ≤ 6) : sumF W C S W = C * S := by
  have t := sum_tab
  rw [List.all_eq_true] at t
  have t1 := t W (by simp; omega)
  rw [List.all_eq_true] at t1
  have t2 := t1 C (by simp; omega)
  rw [List.all_eq_true] at t2
  have t3 := t2 S (by simp; omega)
  simpa [h1, h5] using t3
theorem sum_le (W C S : Nat) : ∀ k, sumF W C S k ≤ S * k
  | 0 => Nat.le_refl _
  | k + 1 => by
    have h := sum_le W C S k
    have h2 := cnt_le W C S (k + 1)
    rw [Nat.mul_succ]
    show sumF W C S k + cnt W C S (k + 1) ≤ S * k + S
    omega
theorem keep_mem {W C S : Nat} {x : Int} {s : Nat} (h : s ∈ keep W C S x) : s < S ∧ x ∈ cop W C s := by
  unfold keep at h
  obtain ⟨h1, h2⟩ := List.mem_filter.1 h
  exact ⟨by simpa using h1, of_decide_eq_true h2⟩
theorem keep_rise (W C S : Nat) (x : Int) : (keep W C S x).Pairwise (· < ·) := by
  unfold keep
  exact List.Pairwise.filter _ List.pairwise_lt_range
theorem keep_lt {W C S : Nat} {x : Int} {i : Nat} (h : i + 1 < (keep W C S x).length) : (keep W C S x).getD i 0 < (keep W C S x).getD (i + 1) 0 := by
  have hp := keep_rise W C S x
  rw [List.pairwise_iff_getElem] at hp
  have := hp i (i + 1) (by omega) h (by omega)
  rw [List.getD_eq_getElem?_getD, List.getElem?_eq_getElem (by omega), List.getD_eq_getElem?_getD, List.getElem?_eq_getElem h]
  exact this
theorem keep_at {W C S : Nat} {x : Int} {i : Nat} (h : i < (keep W C S x).length) : (keep W C S x).getD i 0 < S ∧ x ∈ cop W C ((keep W C S x).getD i 0) := by
  refine keep_mem ?_
  rw [List.getD_eq_getElem?_getD, List.getElem?_eq_getElem h]
  exact List.getElem_mem _
end Pl
/-- is x among the first j? -/
def inF (L : List Int) (x : Int) (j : Nat) : Bool := decide (x ∈ L.take j)
theorem inF_zero (L : List Int) (x : Int) : inF L x 0 = false := by simp [inF]
theorem inF_succ (L : List Int) (x : Int) (j : Nat) (h : j < L.length) : inF L x (j + 1) = (inF L x j || (L.getD j 0 == x)) := by
  unfold inF
  rw [List.take_add_one, List.getElem?_eq_getElem h, List.getD_eq_getElem?_getD, List.getElem?_eq_getElem h]
  rw [Bool.eq_iff_iff]
  simp only [Option.toList_some, List.mem_append, List.mem_singleton, decide_eq_true_eq, Option.getD_some, Bool.or_eq_true, beq_iff_eq]
  constructor
  · rintro (a | a)
    · exact Or.inl a
    · exact Or.inr a.symm
  · rintro (a | a)
    · exact Or.inl a
    · exact Or.inr a.symm
theorem inF_all {L : List Int} {x : Int} (h : x ∈ L) : inF L x L.length = true := by
  unfold inF
  rw [List.take_length]
  exact decide_eq_true h
end Go.Proofs.YtbbholdadgjelaaGreat
/- disk: Rotten; New -/
namespace Go.Proofs.YtbbholdadgjelaaGreat
open Go.RowKit
set_option linter.unusedVariables false
set_option maxRecDepth 20000
theorem take_getD {x : List Nat} {k : Nat} (h : k < x.length) : x.take (k + 1) = x.take k ++ [x.getD k 0] := by
  rw [List.take_add_one, List.getElem?_eq_getElem h, List.getD_eq_getElem?_getD, List.getElem?_eq_getElem h]; rfl
theorem differ_any (a1 a2 : Option Addr) (n1 c1 n2 c2 : Nat) (x y : List Nat) (w : World) (z : Bool) (h1 : HoldsB w a1 n1 x) (h2 : HoldsB w a2 n2 y) (hn1 : n1 ≤ 1000000) (hz : decide (x ≠ y) = z) :
    Calls Tryz.prog 34 #[.slice a1 n1 c1, .slice a2 n2 c2] w fun e w' => e = .returned (.bool z) ∧ w = w' := by
  have HZ := Lib.hid hz
  have HX := Lib.hid h1.len
  have HY := Lib.hid h2.len
  have A1 := Lib.hid h1; have A2 := Lib.hid h2
  clear h1 h2 hz
  by_cases hn : n1 = n2
  · subst hn
    have d1 : ((n1 : Int) != (n1 : Int)) = false := by simp
    go_enter Tryz.func34, Tryz.ntmps34
    go_wp2_with fail
    go_loop [14] (fun iv => ∃ k : Nat, k ≤ n1 ∧ iv = .int .i64 k ∧ Hid (x.take k = y.take k)) (fun iv => n1 - (intOf iv).toNat)
    case atStart => exact ⟨0, by omega, rfl, Lib.hid (by simp)⟩
    case round =>
      obtain ⟨k, hk, rfl, hT⟩ := hrel
      by_cases hlt : k < n1
      · obtain ⟨q1, o1, rfl, hc1⟩ := A1.out.at (by omega)
        obtain ⟨q2, o2, rfl, hc2⟩ := A2.out.at (by omega)
        have x1 := hc1 k hlt
        have x2 := hc2 k hlt
        obtain ⟨u, hu⟩ : ∃ u, x.getD k 0 = u := ⟨_, rfl⟩
        obtain ⟨v, hv⟩ : ∃ v, y.getD k 0 = v := ⟨_, rfl⟩
        rw [hu] at x1
        rw [hv] at x2
        have HU := Lib.hid hu; have HV := Lib.hid hv
        clear hc1 hc2 hu hv
        by_cases he : u = v
        · have e1 : ((u : Int) != (v : Int)) = false := by simp [he]
          have NX := Lib.hid (show x.take (k + 1) = y.take (k + 1) from by
            rw [take_getD (by rw [HX.out]; exact hlt), take_getD (by rw [HY.out]; exact hlt), hT.out, HU.out, HV.out, he])
          clear he
          go_wp2_with fail
          go_round
          case rel => exact ⟨k + 1, by omega, by go_num, NX⟩
          case measure => simp [intOf]; omega
        · have e1 : ((u : Int) != (v : Int)) = true := by rw [bne_iff_ne]; omega
          have FIN := Lib.hid (show z = true from HZ.out.symm.trans <| decide_eq_true (fun h => he (by rw [← HU.out, ← HV.out, h])))
          clear he
          go_wp2_with fail
          go_ret
          exact ⟨(by rw [FIN.out]; first | done | rfl), rfl⟩
      · obtain rfl : k = n1 := by omega
        have FIN := Lib.hid (show z = false from HZ.out.symm.trans <| decide_eq_false (fun h => h (by
          have := hT.out
          rw [List.take_of_length_le (by rw [HX.out]; exact Nat.le_refl _), List.take_of_length_le (by rw [HY.out]; exact Nat.le_refl _)] at this
          exact this)))
        go_wp2_with fail
        go_ret
        exact ⟨(by rw [FIN.out]; first | done | rfl), rfl⟩
  · have d1 : ((n1 : Int) != (n2 : Int)) = true := by rw [bne_iff_ne]; omega
    have FIN := Lib.hid (show z = true from HZ.out.symm.trans <| decide_eq_true (fun h => hn (by rw [← HX.out, ← HY.out, h])))
    clear hn
    go_enter Tryz.func34, Tryz.ntmps34
    go_wp2_with fail
    go_ret
    exact ⟨(by rw [FIN.out]; first | done | rfl), rfl⟩
theorem drotten_yes (d : Nat) (x : Int) (i : DI) (z : Bool) {B M n life : Nat} {f : Int → Option DI} (w : World) (h : DAt B d M n f life w) (hx : wfI x) (hf : f x = some i) (hz : decide (i.sb ≠ i.ob) = z) :
    Calls Tryz.prog 17 #[.pointer (some ⟨d, 0, none⟩), .int .i64 x] w fun e w' => e = .returned (.bool z) ∧ Below w.heap.size w w' := by
  have CF := Lib.hid (dfind_yes d x i w h hx hf)
  have K := Lib.hid (h.im x i hf)
  have CD := Lib.hid (fun w' (hb : Below w.heap.size w w') => differ_any i.sa i.oa i.sb.length i.sc i.ob.length i.oc i.sb i.ob w' z (K.out.s.below hb) (K.out.o.below hb) (by have := K.out.hi; have := K.out.eq; omega) hz)
  obtain ⟨oa, ob, oc, sa, sb, sc⟩ := i
  simp only at CF CD
  clear h hf hz
  go_enter Tryz.func17, Tryz.ntmps17
  go_wp2_with fail
  with_reducible refine CF.out.mono ?_
  rintro e w1 ⟨rfl, hb⟩
  have B1 := Lib.hid (hb.trans ((below_one w1 (.cells #[.slice oa ob.length oc, .slice sa sb.length sc] 67)).mono hb.size))
  have C1 := Lib.hid (CD.out _ B1.out)
  clear hb CF CD
  go_wp2_with fail
  with_reducible refine C1.out.mono ?_
  rintro e w2 ⟨rfl, rfl⟩
  go_wp2_with fail
  go_ret
  exact ⟨rfl, B1.out⟩
theorem drotten_no (d : Nat) (x : Int) {B M n life : Nat} {f : Int → Option DI} (w : World) (h : DAt B d M n f life w) (hx : wfI x) (hf : f x = none) :
    Calls Tryz.prog 17 #[.pointer (some ⟨d, 0, none⟩), .int .i64 x] w fun e w' => e = .returned (.bool false) ∧ Below w.heap.size w w' := by
  have CF := Lib.hid (dfind_no d x w h hx hf)
  clear h hf
  go_enter Tryz.func17, Tryz.ntmps17
  go_wp2_with fail
  with_reducible refine CF.out.mono ?_
  rintro e w1 ⟨rfl, hb⟩
  have B1 := Lib.hid (hb.trans ((below_one w1 (.cells #[.slice none 0 0, .slice none 0 0] 67)).mono hb.size))
  clear hb CF
  go_wp2_with fail
  go_ret
  exact ⟨rfl, B1.out⟩
theorem drotten_nil (x : Int) (w : World) :
    Calls Tryz.prog 17 #[.pointer none, .int .i64 x] w fun e w' => e = .returned (.bool false) ∧ Below w.heap.size w w' := by
  go_enter Tryz.func17, Tryz.ntmps17
  go_wp2_with fail
  refine (dfind_nil x w).mono ?_
  rintro e w1 ⟨rfl, hb⟩
  have B1 := Lib.hid (hb.trans ((below_one w1 (.cells #[.slice none 0 0, .slice none 0 0] 67)).mono hb.size))
  clear hb
  go_wp2_with fail
  go_ret
  exact ⟨rfl, B1.out⟩
/-- the image of a shard's words -/
def imgC (c : Cfg) (s : Nat) : List Nat := imgB (grS (sliceS c.ks c.ws s))
/-- what a new disk has: an image of each of these shards, right -/
structure NewF (c : Cfg) (K : List Nat) (f : Int → Option DI) : Prop where
  sub : ∀ z i, f z = some i → ∃ s : Nat, z = (s : Int) ∧ s ∈ K ∧ i.ob = imgC c s ∧ i.sb = imgC c s
  all : ∀ s ∈ K, (f (s : Int)).isSome = true
theorem newF_nil (c : Cfg) : NewF c [] (fun _ => none) := ⟨fun z i h => (by cases h), fun s h => (by cases h)⟩
theorem newF_put {c : Cfg} {K : List Nat} {f : Int → Option DI} (h : NewF c K f) (s : Nat) (i : DI) (h1 : i.ob = imgC c s) (h2 : i.sb = imgC c s) : NewF c (K ++ [s]) (fput f (s : Int) i) := by
  refine ⟨fun z j e => ?_, fun t ht => ?_⟩
  · unfold fput at e
    split at e
    · rename_i hz
      injection e with e; subst e
      exact ⟨s, hz, by simp, h1, h2⟩
    · obtain ⟨t, a1, a2, a3⟩ := h.sub z j e
      exact ⟨t, a1, List.mem_append.2 (Or.inl a2), a3⟩
  · unfold fput
    split
    · rfl
    · rename_i hn
      rcases List.mem_append.1 ht with ht | ht
      · exact h.all t ht
      · rw [List.mem_singleton] at ht
        exact absurd (by rw [ht]) hn
end Go.Proofs.YtbbholdadgjelaaGreat
/- disk: New -/
namespace Go.Proofs.YtbbholdadgjelaaGreat
open Go.RowKit
set_option linter.unusedVariables false
set_option maxRecDepth 20000
theorem wfI_of {x : Int} (h0 : -9223372036854775808 ≤ x) (h1 : x ≤ 9223372036854775807) : wfI x := by
  unfold wfI; simp [Lit.wf, IntKind.min, IntKind.max, IntKind.signed, IntKind.bits]; omega
def BWD (w0 : World) (p : Nat) (c : Cfg) (w : World) : Prop := Below w0.heap.size w0 w ∧ CfgIn w p c
theorem bwd_carry {w0 w w' : World} {p : Nat} {c : Cfg} (h : BWD w0 p c w) (hb : Below w.heap.size w w') : BWD w0 p c w' := ⟨h.1.trans (hb.mono h.1.size), h.2.below hb⟩
theorem take_nat {K : List Nat} {j : Nat} (h : j < K.length) : K.take (j + 1) = K.take j ++ [K.getD j 0] := by
  rw [List.take_add_one, List.getElem?_eq_getElem h, List.getD_eq_getElem?_getD, List.getElem?_eq_getElem h]; rfl
def NewD (w : World) (c : Cfg) (K : List Nat) (e : Ending) (w' : World) : Prop := ∃ d M n f, e = .returned (.tuple #[.pointer (some ⟨d, 0, none⟩), .int .i64 0]) ∧ DAt w.heap.size d M n f 0 w' ∧ NewF c K f ∧ Below w.heap.size w w'
set_option maxHeartbeats 6400000 in
set_option maxRecDepth 100000 in
theorem dnew_good (c : Cfg) (x : Int) (W C : Nat) (K : List Nat) (w : World) (h : CfgOk w c) (hm : c.may = true) (hW : c.W = (W : Int)) (hC : c.C = (C : Int)) (hx1 : 1 ≤ x) (hx2 : x ≤ c.W) (hK : Pl.keep W C (c.kn + 1) x = K) :
    Calls Tryz.prog 6 #[.agg #[.slice c.wa c.wn c.wc, .slice c.ka c.kn c.kc, .int .i64 c.W, .int .i64 c.C, .int .i64 c.S, .int .i64 c.B, .int .i64 c.L, .int .i64 c.H, .int .i64 c.F, .int .i64 c.P, .int .i64 c.J, .int .i64 c.N], .int .i64 x] w (NewD w c K) := by
  have hmm := @run_makeMap Tryz.prog
  have BX := Lib.hid (below_one w (.cells #[.slice c.wa c.wn c.wc, .slice c.ka c.kn c.kc, .int .i64 c.W, .int .i64 c.C, .int .i64 c.S, .int .i64 c.B, .int .i64 c.L, .int .i64 c.H, .int .i64 c.F, .int .i64 c.P, .int .i64 c.J, .int .i64 c.N] 25))
  have IN := Lib.hid (cfgIn_new w c w.heap.size 25 (0, 0) rfl)
  have OK := Lib.hid h
  have CM := Lib.hid (fun w' (hb : Below w.heap.size w w') => may_cfg c true w' (OK.out.below hb) hm)
  have hkn := may_kn hm h
  have KN := Lib.hid hkn
  have KM := Lib.hid (show ∀ s ∈ K, s < c.kn + 1 from fun s hs => by rw [← hK] at hs; exact (Pl.keep_mem hs).1)
  have hk6 : K.length ≤ 6 := by
    rw [← hK]
    have := Pl.keep_len W C (c.kn + 1) x
    omega
  have CK := Lib.hid (fun w' (hb : Below w.heap.size w w') => (show Calls Tryz.prog 24 #[.agg #[.slice c.wa c.wn c.wc, .slice c.ka c.kn c.kc, .int .i64 c.W, .int .i64 c.C, .int .i64 c.S, .int .i64 c.B, .int .i64 c.L, .int .i64 c.H, .int .i64 c.F, .int .i64 c.P, .int .i64 c.J, .int .i64 c.N], .int .i64 x] w' (RetZ w' (natsZ K)) from hK ▸ keeps_any c x W C w' (OK.out.below hb) hm hW hC))
  have CI := Lib.hid (fun w' (s m : Nat) (I : List Nat) (hs : s < c.kn + 1) (hI : imgC c s = I) (hl : I.length = m) (hb : Below w.heap.size w w') => image_in c s (sliceS c.ks c.ws s) I m w' (OK.out.below hb) hm hs rfl hI hl)
  have GL := Lib.hid (show ∀ s : Nat, 10 ≤ (imgC c s).length ∧ (imgC c s).length ≤ 524004 from fun s => imgB_len (good_filter (may_parts hm).1 _))
  obtain ⟨k, hkl⟩ : ∃ k, K.length = k := ⟨_, rfl⟩
  rw [hkl] at hk6
  have HKL := Lib.hid hkl
  unfold RetZ at CK
  rw [natsZ_len, hkl] at CK
  have d1 : decide (x < 1) = false := decide_eq_false (by omega)
  have d2 : decide (c.W < x) = false := decide_eq_false (by omega)
  clear h hm hW hC hK hx1 hx2 hkn hkl
  go_enter Tryz.func6, Tryz.ntmps6
  go_upto_region 1 with fail
  generalize w.alloc (.cells #[.slice c.wa c.wn c.wc, .slice c.ka c.kn c.kc, .int .i64 c.W, .int .i64 c.C, .int .i64 c.S, .int .i64 c.B, .int .i64 c.L, .int .i64 c.H, .int .i64 c.F, .int .i64 c.P, .int .i64 c.J, .int .i64 c.N] 25) = w1 at *
  obtain ⟨p, hp⟩ : ∃ p, w.heap.size = p := ⟨_, rfl⟩
  have HP := Lib.hid hp
  rw [hp] at IN
  try simp only [hp]
  have hI := IN.out
  unfold CfgIn at hI
  obtain ⟨i0, i1, i2, i3, i4, i5, i6, i7, i8, i9, i10, i11⟩ := hI
  have CM1 := Lib.hid (CM.out w1 BX.out)
  clear CM hp
  go_wp2_with fail
  with_reducible refine CM1.out.mono ?_
  rintro e w2 ⟨rfl, hb2⟩
  have B2 := Lib.hid (bwd_carry (w0 := w) (p := p) (c := c) ⟨BX.out, IN.out⟩ hb2)
  clear hb2 CM1 i0 i1 i2 i3 i4 i5 i6 i7 i8 i9 i10 i11 IN BX
  have hI := B2.out.2
  unfold CfgIn at hI
  obtain ⟨i0, i1, i2, i3, i4, i5, i6, i7, i8, i9, i10, i11⟩ := hI
  go_upto_region 4 with fail
  have hbm := below_one w2 (.map #[] 0)
  have hbd := below_one (w2.alloc (.map #[] 0)) (.cells #[.map (some w2.heap.size), .int .i64 0] 62)
  have hz : (w2.alloc (.map #[] 0)).heap.size = w2.heap.size + 1 := by simp
  have D0 := Lib.hid (show DAt w.heap.size (w2.heap.size + 1) w2.heap.size 0 (fun _ => none) 0 ((w2.alloc (.map #[] 0)).alloc (.cells #[.map (some w2.heap.size), .int .i64 0] 62)) from
    ⟨by rw [← hz, cell_alloc rfl]; rfl, by rw [← hz, cell_alloc rfl]; rfl, fun i => by rw [← hz]; exact frozen_alloc rfl, by omega, (mapV_made w2).below hbd, fun x i e => (by cases e), fun x i e => (by cases e), by have := B2.out.1.size; omega, B2.out.1.size, by omega⟩)
  have B3 := Lib.hid (bwd_carry (bwd_carry B2.out hbm) hbd)
  clear hbm hbd hz B2 i0 i1 i2 i3 i4 i5 i6 i7 i8 i9 i10 i11
  obtain ⟨w3, hw3⟩ : ∃ w3, (w2.alloc (.map #[] 0)).alloc (.cells #[.map (some w2.heap.size), .int .i64 0] 62) = w3 := ⟨_, rfl⟩
  rw [hw3] at D0 B3 ⊢
  clear hw3
  generalize w2.heap.size + 1 = d at *
  generalize w2.heap.size = M at *
  have hI := B3.out.2
  unfold CfgIn at hI
  obtain ⟨i0, i1, i2, i3, i4, i5, i6, i7, i8, i9, i10, i11⟩ := hI
  have CK1 := Lib.hid (CK.out w3 B3.out.1)
  clear CK
  go_wp2_with fail
  with_reducible refine CK1.out.mono ?_
  rintro e w4 ⟨ka, kc, rfl, ho, hb4⟩
  have KH := Lib.hid (holdsZ_own ho)
  have B4 := Lib.hid (bwd_carry B3.out hb4)
  have D4 := Lib.hid (D0.out.below hb4)
  clear ho hb4 CK1 D0 B3 i0 i1 i2 i3 i4 i5 i6 i7 i8 i9 i10 i11
  go_wp2_with fail
  go_loopw [31] (fun iv wr => ∃ (j n : Nat) (f : Int → Option DI), j ≤ k ∧ iv = .int .i64 j ∧ n ≤ j ∧ Hid (NewF c (K.take j) f) ∧ Hid (DAt w.heap.size d M n f 0 wr) ∧ Hid (BWD w p c wr) ∧ Hid (HoldsI .i64 wr ka k (natsZ K))) (fun iv _ => k - (intOf iv).toNat)
  case atStart => exact ⟨0, 0, fun _ => none, by omega, rfl, by omega, Lib.hid (by rw [List.take_zero]; exact newF_nil c), D4, B4, KH⟩
  case round =>
    clear D4 B4 KH
    obtain ⟨j, n, f, hj, rfl, hn, hF, hD, hB, hK⟩ := hrel
    by_cases hlt : j < k
    · obtain ⟨qb, qo, rfl, hcc⟩ := hK.out.at (by omega)
      have x0 := hcc j hlt
      rw [natsZ_at] at x0
      obtain ⟨s, hs⟩ : ∃ s, K.getD j 0 = s := ⟨_, rfl⟩
      rw [hs] at x0
      have hsK : s ∈ K := by
        rw [← hs, List.getD_eq_getElem?_getD, List.getElem?_eq_getElem (by rw [HKL.out]; exact hlt)]; exact List.getElem_mem _
      have hsn := KM.out s hsK
      have HS := Lib.hid (show K.take (j + 1) = K.take j ++ [s] from by rw [take_nat (by rw [HKL.out]; exact hlt), hs])
      obtain ⟨I, hII⟩ : ∃ I, imgC c s = I := ⟨_, rfl⟩
      obtain ⟨m, hm⟩ : ∃ m, I.length = m := ⟨_, rfl⟩
      obtain ⟨m10, m52⟩ := GL.out s
      rw [hII, hm] at m10 m52
      have CI1 := Lib.hid (CI.out wr s m I hsn hII hm hB.out.1)
      have HM := Lib.hid hm
      have HI := Lib.hid hII
      have wf := wfI_of (x := (s : Int)) (by omega) (by have := KN.out; omega)
      have hI := hB.out.2
      unfold CfgIn at hI
      obtain ⟨i0, i1, i2, i3, i4, i5, i6, i7, i8, i9, i10, i11⟩ := hI
      have n1 : (0 : Int) ≤ (j : Int) := by omega
      have n2 : (j : Int) < (k : Int) := by omega
      clear hcc hs hsK hII hm
      go_wp2_with fail
      with_reducible refine CI1.out.mono ?_
      rintro e w5 ⟨a5, c5, rfl, o5, h5, hc5, hb5⟩
      have D5 := Lib.hid (hD.out.below hb5)
      have B5 := Lib.hid (bwd_carry hB.out hb5)
      have K5 := Lib.hid (hK.out.below hb5)
      have I5 := Lib.hid (show ImgK w5 ⟨a5, I, c5, a5, I, c5⟩ from ⟨HM.out.symm ▸ h5, HM.out.symm ▸ h5, HM.out.symm ▸ hc5, HM.out.symm ▸ hc5, HM.out.symm ▸ m10, HM.out.symm ▸ m52, rfl⟩)
      have A5 := Lib.hid (show apartD d M a5 from apartD_new hD.out (Nat.le_refl _) o5 (by omega))
      have c0 := D5.out.c0
      clear o5 h5 hc5 hb5 CI1 i0 i1 i2 i3 i4 i5 i6 i7 i8 i9 i10 i11 x0 hD hB hK
      have HV := Lib.hid (show diV ⟨a5, I, c5, a5, I, c5⟩ = .agg #[.slice a5 m c5, .slice a5 m c5] from by unfold diV; simp only [HM.out])
      go_wp2_with (at_mapUpdate; refine wpList_put_mv mapTd rfl (.tmp 46) (.tmp 47) (.tmp 50) rfl rfl D5.out.m (by unfold maxLen; omega) (s : Int) (diV ⟨a5, I, c5, a5, I, c5⟩) rfl HV.out.symm wf ?_; intro w6 m6 t6)
      have hn6 : (if (fV f (s : Int)).isSome then n else n + 1) ≤ n + 1 := by split <;> omega
      have D6 := Lib.hid (D5.out.put I5.out ⟨A5.out, A5.out⟩ m6 t6 (by omega))
      have T6 := TurnV.of_mapTurned (F := fun k => k = M) t6 rfl
      have B6 := Lib.hid (show BWD w p c w6 from ⟨(B5.out.1).grown t6.grown B5.out.1.size (fun k e => by cases e; exact D5.out.MB), CfgIn.of B5.out.2 (fun i => T6.cell (lt_of_cell B5.out.2.1) (fun e => MapV.no_cell D5.out.m 0 _ (e ▸ B5.out.2.1)))⟩)
      have K6 := Lib.hid (show HoldsI .i64 w6 (some ⟨qb, qo, none⟩) k (natsZ K) from by
        refine ⟨K5.out.1, fun h0 => ?_⟩
        obtain ⟨q, o, e, hc⟩ := K5.out.2 h0
        exact ⟨q, o, e, fun i hi => (T6.cell (lt_of_cell (hc i hi)) (fun e2 => MapV.no_cell D5.out.m _ _ (e2 ▸ hc i hi))).trans (hc i hi)⟩)
      have F6 := Lib.hid (newF_put hF.out s ⟨a5, I, c5, a5, I, c5⟩ HI.out.symm HI.out.symm)
      clear m6 t6 T6 D5 B5 K5 I5 A5 c0
      go_wp2_with fail
      go_roundw
      case rel => exact ⟨j + 1, _, _, by omega, by go_num, by omega, Lib.hid (by rw [HS.out]; exact F6.out), D6, B6, K6⟩
      case measure => simp [intOf] <;> omega
    · obtain rfl : j = k := by omega
      have FF := Lib.hid (show NewF c K f from by have := hF.out; rw [← HKL.out, List.take_length] at this; exact this)
      go_wp2_with fail
      go_ret2
      exact ⟨d, M, n, f, rfl, hD.out, FF.out, hB.out.1⟩
end Go.Proofs.YtbbholdadgjelaaGreat
/- disk: the small configuration; awake -/
namespace Go.Proofs.YtbbholdadgjelaaGreat
open Go.RowKit
set_option linter.unusedVariables false
set_option maxRecDepth 20000
abbrev dA : Tx := { data := #[97] }
abbrev dABC : Tx := { data := #[97, 98, 99] }
abbrev dB : Tx := { data := #[98] }
abbrev dE : Tx := { data := #[] }
def cfgS (B : Nat) : Cfg := ⟨some ⟨B + 1, 0, none⟩, 3, 3, some ⟨B + 1 + 1, 0, none⟩, 1, 1, 2, 1, 1, 1, 1, 1, 1, 1, 0, 8, [dA, dABC, dB], [(2, dE)]⟩
theorem good_dw : goodV [dA, dABC, dB] = 0 := by kernel_rfl
theorem good_dk : goodK [(2, dE)] = 0 := goodK_of (by decide) (by
  intro k hk
  simp only [List.mem_singleton] at hk
  subst hk
  simp [mayK, show lenS dE = 0 by decide]) (by simp [SortedK])
theorem may_cfgS (B : Nat) : (cfgS B).may = true := by
  simp [Cfg.may, cfgS, good_dw, good_dk]
  all_goals decide
theorem sliceS_small : sliceS [(2, dE)] [dA, dABC, dB] 0 = [dA, dB] := by kernel_rfl
theorem imgS_len (B : Nat) : (imgC (cfgS B) 0).length = 28 := by
  have e : imgC (cfgS B) 0 = sealB (bodyB (grS [dA, dB])) := by
    unfold imgC imgB
    rw [show (cfgS B).ks = [(2, dE)] from rfl, show (cfgS B).ws = [dA, dABC, dB] from rfl, sliceS_small]
  rw [e, sealB_len, show (bodyB (grS [dA, dB])).length = 24 by kernel_rfl]
theorem keepS : Pl.keep 2 1 2 1 = [0] := by decide
theorem holdsT_lit3 (w : World) (a b c : Tx) (e : TypeId) (fr : Nat × Nat) : HoldsT (w.alloc (.cells #[.string a, .string b, .string c] e fr)) (some ⟨w.heap.size, 0, none⟩) 3 [a, b, c] := by
  refine ⟨by simp [strsV], fun _ => ⟨w.heap.size, 0, rfl, fun i hi => ?_⟩⟩
  rw [Nat.zero_add, World.cell?_alloc_mark]
  have hc : i = 0 ∨ i = 1 ∨ i = 2 := by omega
  rcases hc with rfl | rfl | rfl <;> rfl
theorem holdsK_lit1 (w : World) (x : Int) (t : Tx) (e : TypeId) (fr : Nat × Nat) : HoldsK (w.alloc (.cells #[.int .i64 x, .string t] e fr)) (some ⟨w.heap.size, 0, none⟩) 1 [(x, t)] := by
  refine ⟨rfl, fun _ => ⟨w.heap.size, 0, rfl, fun i hi => ?_⟩⟩
  obtain rfl : i = 0 := by omega
  constructor <;> (rw [World.cell?_alloc_mark]; rfl)
def CfgP (w : World) (e : Ending) (w' : World) : Prop := ∃ B, e = .returned (.agg #[.slice (cfgS B).wa (cfgS B).wn (cfgS B).wc, .slice (cfgS B).ka (cfgS B).kn (cfgS B).kc, .int .i64 (cfgS B).W, .int .i64 (cfgS B).C, .int .i64 (cfgS B).S, .int .i64 (cfgS B).B, .int .i64 (cfgS B).L, .int .i64 (cfgS B).H, .int .i64 (cfgS B).F, .int .i64 (cfgS B).P, .int .i64 (cfgS B).J, .int .i64 (cfgS B).N]) ∧ CfgOk w' (cfgS B) ∧ Below w.heap.size w w'
theorem small_any (w : World) : Calls Tryz.prog 22 #[] w (CfgP w) := by
  go_enter Tryz.func22, Tryz.ntmps22
  go_wp2_with fail
  refine bodyPost_ret (v := .agg #[.slice (some ⟨w.heap.size + 1, 0, none⟩) 3 3, .slice (some ⟨w.heap.size + 1 + 1, 0, none⟩) 1 1, .int .i64 2, .int .i64 1, .int .i64 1, .int .i64 1, .int .i64 1, .int .i64 1, .int .i64 1, .int .i64 1, .int .i64 0, .int .i64 8]) (by simp [results, go_sem]) rfl ⟨w.heap.size, rfl, ?_, ?_⟩
  · generalize hw1 : w.alloc (.cells #[.slice (some ⟨w.heap.size + 1, 0, none⟩) 3 3, .slice (some ⟨w.heap.size + 1 + 1, 0, none⟩) 1 1, .int .i64 2, .int .i64 1, .int .i64 1, .int .i64 1, .int .i64 1, .int .i64 1, .int .i64 1, .int .i64 1, .int .i64 0, .int .i64 8] 25) = w1
    have s1 : w1.heap.size = w.heap.size + 1 := by rw [← hw1]; simp
    have hT := holdsT_lit3 w1 dA dABC dB 9 (0, 0)
    have s2 : (w1.alloc (.cells #[.string dA, .string dABC, .string dB] 9)).heap.size = w.heap.size + 1 + 1 := by simp [s1]
    have hK := holdsK_lit1 (w1.alloc (.cells #[.string dA, .string dABC, .string dB] 9)) 2 dE 57 (0, 0)
    rw [s1] at hT
    rw [s2] at hK
    exact ⟨hT.below (below_one _ _), fun e => (by cases e), Nat.le_refl _, (show (3 : Nat) ≤ 9223372036854775807 by decide), (show ∀ t ∈ [dA, dABC, dB], ByteArray.size t ≤ 9223372036854775807 by decide), hK, (show (1 : Nat) ≤ 9223372036854775807 by decide), by
      intro k hk
      simp only [cfgS, List.mem_singleton] at hk
      subst hk
      unfold KeyOk i64okK; decide⟩
  · repeat' (first | exact Below.refl _ _ | refine Below.alloc ?_ (by simp <;> omega) _)
/-- one life behind the other -/
def dLit (I : List Nat) : Prop := I.length = 28
set_option maxHeartbeats 3200000 in
theorem awakeD_any (w : World) : Calls Tryz.prog 5 #[] w fun e w' => e = .returned (.bool true) ∧ Below w.heap.size w w' := by
  have CN := Lib.hid (fun (w1 : World) (B : Nat) (h : CfgOk w1 (cfgS B)) => dnew_good (cfgS B) 1 2 1 [0] w1 h (may_cfgS B) rfl rfl (by decide) (show (1 : Int) ≤ 2 by decide) keepS)
  have w0 : wfI 0 := wfI_of (by decide) (by decide)
  go_enter Tryz.func5, Tryz.ntmps5
  go_wp2_with fail
  refine (small_any w).mono ?_
  rintro e w1 ⟨B, rfl, ok, hb⟩
  have B1 := Lib.hid hb
  have C1 := Lib.hid (CN.out w1 B ok)
  have IL := Lib.hid (imgS_len B)
  clear ok hb CN
  generalize cfgS B = c at *
  go_wp2_with fail
  with_reducible refine C1.out.mono ?_
  rintro e w2 ⟨d, M, n, f, rfl, hD, hF, hb⟩
  have B2 := Lib.hid (B1.out.trans (hb.mono B1.out.size))
  have S1 := Lib.hid B1.out.size
  obtain ⟨i, hi⟩ : ∃ i, f 0 = some i := Option.isSome_iff_exists.1 (hF.all 0 (by simp))
  obtain ⟨s, hs, hsK, ho, hss⟩ := hF.sub 0 i hi
  obtain rfl : s = 0 := by omega
  have HI := Lib.hid hi
  have HL := Lib.hid (show i.sb.length = 28 from by rw [hss, IL.out])
  have HE := Lib.hid (show decide (i.sb ≠ i.ob) = false from decide_eq_false (fun h => h (by rw [hss, ho])))
  have D2 := Lib.hid hD
  have CR := Lib.hid (dread_yes d 0 i w2 hD w0 hi)
  clear hD hF hb hi hs hsK ho hss C1
  unfold ReadD at CR
  rw [HL.out] at CR
  go_wp2_with fail
  with_reducible refine CR.out.mono ?_
  rintro e w3 ⟨a3, c3, rfl, -, -, hb⟩
  have D3 := Lib.hid (D2.out.below hb)
  have B3 := Lib.hid (B2.out.trans (hb.mono B2.out.size))
  have CB := Lib.hid (dborn_any d w3 D3.out (by omega))
  clear hb CR D2 B2
  go_wp2_with fail
  with_reducible refine CB.out.mono ?_
  rintro e w4 ⟨rfl, hD, hb⟩
  have D4 := Lib.hid hD
  have B4 := Lib.hid (B3.out.trans (hb.mono S1.out))
  have CB2 := Lib.hid (dborn_any d w4 D4.out (by omega))
  clear hD hb CB D3 B3
  go_wp2_with fail
  with_reducible refine CB2.out.mono ?_
  rintro e w5 ⟨rfl, hD, hb⟩
  have D5 := Lib.hid hD
  have B5 := Lib.hid (B4.out.trans (hb.mono S1.out))
  have CL := Lib.hid (dlife_any d w5 D5.out)
  have CO := Lib.hid (drotten_yes d 0 i false w5 D5.out w0 HI.out HE.out)
  clear hD hb CB2 D4 B4
  go_wp2_with fail
  with_reducible refine CL.out.mono ?_
  rintro e w6 ⟨rfl, rfl⟩
  go_wp2_with fail
  with_reducible refine CO.out.mono ?_
  rintro e w6 ⟨rfl, hb⟩
  have B6 := Lib.hid (B5.out.trans (hb.mono B5.out.size))
  clear hb CO CL
  go_wp2_with fail
  go_ret
  exact ⟨rfl, B6.out⟩
end Go.Proofs.YtbbholdadgjelaaGreat
/- the document's Turned (split from Nr2) -/
namespace Go.Proofs.YtbbholdadgjelaaGreat
open Go.RowKit
set_option linter.unusedVariables false
set_option maxRecDepth 20000
theorem u8d_info : (Tryz.prog.info? 5).map (fun i => (i.zero, i.size, i.bytes)) = some (some (.int .u8 0), 1, 1) := by kernel_rfl
set_option maxHeartbeats 1600000 in
theorem rturned_any (a : Option Addr) (n c : Nat) (bs : List Nat) (at_ x : Int) (w : World) (h : HoldsB w a n bs) (hnone : a = none → n = 0 ∧ c = 0) (h0 : 0 < n) (hn : n ≤ 1000000) :
    Calls Tryz.prog 32 #[.slice a n c, .int .i64 at_, .int .i64 x] w (RetB 5 w (Dm.turned bs at_ x)) := by
  obtain ⟨i0, hi, hz0, hz1, hz2⟩ := info_parts u8d_info
  have HVC := Lib.hid (h.values.cells (w' := w) ⟨rfl, rfl, rfl, Nat.le_refl _, fun _ _ _ => rfl⟩)
  have hbl : (bytesV bs).length = n * 1 := by rw [bytesV_length, h.len]; omega
  have hl := h.len
  have hk := Dm.k_eq n at_ h0
  have hkl := Dm.k_lt n at_ h0
  have hm := Dm.m_eq x
  have hmb := Dm.m_bd x
  have hbs := h.2
  obtain ⟨k, hkk⟩ : ∃ k, Dm.k n at_ = k := ⟨_, rfl⟩
  obtain ⟨m, hmm⟩ : ∃ m, Dm.m x = m := ⟨_, rfl⟩
  obtain ⟨y, hy⟩ : ∃ y, bs.getD k 0 = y := ⟨_, rfl⟩
  have hyb : y < 256 := by
    rw [← hy, List.getD_eq_getElem?_getD, List.getElem?_eq_getElem (by omega)]
    exact hbs _ (List.getElem_mem _)
  rw [hkk] at hk hkl
  rw [hmm] at hm hmb
  have hT : Dm.turned bs at_ x = bs.set k (y ^^^ m) := by unfold Dm.turned; rw [hl, hkk, hy, hmm]
  have HBS := Lib.hid hbs
  have TT := Lib.hid hT; have HY := Lib.hid hy; have HL := Lib.hid hl
  have z0 : ((n : Int) == 0) = false := by simp; omega
  have b1 := Dm.u64_bd at_
  have b2 := Dm.u64_bd x
  have w1 : IntKind.u64.wrap (n : Int) = (n : Int) := by simp only [IntKind.wrap, IntKind.signed, IntKind.bits]; simp; omega
  have w2 : IntKind.u64.wrap (1 + IntKind.u64.wrap x % 255) = (m : Int) := by rw [hm]; simp only [IntKind.wrap, IntKind.signed, IntKind.bits]; simp; omega
  have w3 : IntKind.u8.wrap (m : Int) = (m : Int) := by simp only [IntKind.wrap, IntKind.signed, IntKind.bits]; simp; omega
  have hx : bits BinOp.xor IntKind.u8 (y : Int) (m : Int) = ((y ^^^ m : Nat) : Int) := u8_xor_nat y m hyb (by omega)
  have w4 : IntKind.i64.wrap (k : Int) = (k : Int) := IntWalk.i64_in _ (by omega)
  have k1 : (0 : Int) ≤ (k : Int) := by omega
  have k2 : (k : Int) < (n : Int) := by omega
  have HNO := Lib.hid hnone
  clear h hnone hl hT hy hkk hmm hbs
  go_enter Tryz.func32, Tryz.ntmps32
  go_upto_region 2 with (at_builtin; refine wpList_append_any rfl (.const (.slice none 0 0)) (.tmp 9) 47 rfl w.heap.size 5 i0 _ 1 1 Tryz.underlying47 hi hz0 hz1 hz2 rfl (by decide) _ 0 [] rfl (World.ownsRow_nil _ _ _ _) a n c (bytesV bs) rfl HNO.out hbl HVC.out (bytesV_one _) (by unfold maxLen; omega) (by omega) (by simp) ?_; intro a3 c3 w3' ho hb hnil)
  rw [Nat.zero_add, List.nil_append] at ho
  obtain ⟨g, rfl⟩ : ∃ g, a3 = some ⟨g, 0, none⟩ := by
    obtain ⟨g, cap', hv⟩ := Joins.ownsRow_form ho (by omega)
    simp only [Value.slice.injEq] at hv
    exact ⟨g, hv.1⟩
  have O3 := Lib.hid ho; have B3 := Lib.hid hb
  obtain ⟨gb, go, hge, hc⟩ := (holdsB_of_values (owns_holds ho) HBS.out).at (by omega)
  injection hge with hge; injection hge with e1 e2; subst e1 e2
  have ck := hc k hkl
  rw [Nat.zero_add, HY.out] at ck
  clear hc
  have fk := ho.frozenAt k
  have B5 := Lib.hid (B3.out.setCell (p := ⟨g, k, none⟩) (O3.out.lt g rfl).1 (.int .u8 ((y ^^^ m : Nat) : Int)))
  have O5 := Lib.hid ((O3.out.stored k (.int .u8 ((y ^^^ m : Nat) : Int))).1)
  have hlen : (Dm.turned bs at_ x).length = n := by rw [Dm.turned_len, HL.out]
  have RR := Lib.hid (show RetB 5 w (Dm.turned bs at_ x) (.returned (.slice (some ⟨g, 0, none⟩) n c3)) (w3'.setCell ⟨g, k, none⟩ (.int .u8 ((y ^^^ m : Nat) : Int))) from
    ⟨some ⟨g, 0, none⟩, c3, by rw [hlen], by rw [hlen, TT.out, ← bytesV_set]; exact O5.out, B5.out, fun h => by cases h⟩)
  clear hlen
  go_wp2_with fail
  go_ret
  exact RR.out
end Go.Proofs.YtbbholdadgjelaaGreat
/- disk: the document's disk in memory -/
namespace Go.Proofs.YtbbholdadgjelaaGreat
open Go.RowKit
set_option linter.unusedVariables false
set_option maxRecDepth 20000
/-- an image of the document's disk: the right one and what is there, and where they lie -/
structure DM where
  sh : Int
  ra : Option Addr
  rn : Nat
  rc : Nat
  rb : List Nat
  ba : Option Addr
  bn : Nat
  bc : Nat
  bb : List Nat
def dm0 : DM := ⟨0, none, 0, 0, [], none, 0, 0, []⟩
def dmV : List DM → List Value
  | [] => []
  | x :: l => .int .i64 x.sh :: .slice x.ra x.rn x.rc :: .slice x.ba x.bn x.bc :: dmV l
theorem dmV_len : ∀ l : List DM, (dmV l).length = l.length * 3
  | [] => rfl
  | x :: l => by simp [dmV, dmV_len l]; omega
theorem dmV_app : ∀ k l : List DM, dmV (k ++ l) = dmV k ++ dmV l
  | [], l => rfl
  | x :: k, l => by simp [dmV, dmV_app k l]
theorem dmV_one : ∀ (l : List DM), ∀ u ∈ dmV l, u.oneCell' = true
  | [], u, h => by simp [dmV] at h
  | x :: l, u, h => by
    simp only [dmV, List.mem_cons] at h
    rcases h with h | h | h | h
    · subst h; rfl
    · subst h; rfl
    · subst h; rfl
    · exact dmV_one l u h
theorem dmV_at : ∀ (l : List DM) (i : Nat), i < l.length → (dmV l)[i * 3]? = some (.int .i64 (l.getD i dm0).sh) ∧ (dmV l)[i * 3 + 1]? = some (.slice (l.getD i dm0).ra (l.getD i dm0).rn (l.getD i dm0).rc) ∧ (dmV l)[i * 3 + 2]? = some (.slice (l.getD i dm0).ba (l.getD i dm0).bn (l.getD i dm0).bc)
  | [], i, h => by simp at h
  | x :: l, 0, _ => by simp [dmV]
  | x :: l, i + 1, h => by
    have ih := dmV_at l i (by simpa using h)
    have e1 : (i + 1) * 3 = i * 3 + 1 + 1 + 1 := by omega
    rw [e1]
    simpa [dmV] using ih
/-- another stored image -/
def DM.st (x : DM) (a : Option Addr) (n c : Nat) (bs : List Nat) : DM := ⟨x.sh, x.ra, x.rn, x.rc, x.rb, a, n, c, bs⟩
theorem dmV_set : ∀ (l : List DM) (i : Nat) (a : Option Addr) (n c : Nat) (bs : List Nat), i < l.length → ow (dmV l) (i * 3 + 2) [.slice a n c] = dmV (l.set i ((l.getD i dm0).st a n c bs))
  | [], i, _, _, _, _, h => by simp at h
  | x :: l, 0, a, n, c, bs, _ => by simp [dmV, ow, DM.st]
  | x :: l, i + 1, a, n, c, bs, h => by
    have ih := dmV_set l i a n c bs (by simpa using h)
    have e1 : (i + 1) * 3 + 2 = (i * 3 + 2) + 1 + 1 + 1 := by omega
    rw [e1]
    simp only [List.set_cons_succ, List.getD_cons_succ, dmV, ← ih]
    simp [ow]
def ApD (S : Nat → Prop) (b : Nat) (a p : Option Addr) : Prop := ∀ fb fo, p = some ⟨fb, fo, none⟩ → S fb ∧ fb ≠ b ∧ ∀ g, a = some ⟨g, 0, none⟩ → fb ≠ g
structure FrD (w : World) (S : Nat → Prop) (b : Nat) (a : Option Addr) (x : DM) : Prop where
  r : HoldsB w x.ra x.rn x.rb
  s : HoldsB w x.ba x.bn x.bb
  lo : 10 ≤ x.rn
  hi : x.rn ≤ 524004
  eq : x.bn = x.rn
  ar : ApD S b a x.ra
  az : ApD S b a x.ba
theorem FrD.blocks {w w' : World} {S : Nat → Prop} {b : Nat} {a : Option Addr} {x : DM} (h : FrD w S b a x) (hb : ∀ k, S k → k ≠ b → (∀ g, a = some ⟨g, 0, none⟩ → k ≠ g) → w'.heap[k]? = w.heap[k]?) : FrD w' S b a x :=
  ⟨holdsB_blocks h.r (fun fb fo e => hb fb (h.ar fb fo e).1 (h.ar fb fo e).2.1 (h.ar fb fo e).2.2), holdsB_blocks h.s (fun fb fo e => hb fb (h.az fb fo e).1 (h.az fb fo e).2.1 (h.az fb fo e).2.2), h.lo, h.hi, h.eq, h.ar, h.az⟩
/-- block b is the document's disk: its images, its lives; its blocks lie in S -/
def RDAt (w : World) (b : Nat) (G : List DM) (life : Nat) (S : Nat → Prop) : Prop :=
  ∃ a c, w.cell? ⟨b, 0, none⟩ = some (.slice a G.length c) ∧ w.cell? ⟨b, 1, none⟩ = some (.int .i64 (life : Int)) ∧ (∀ i, w.frozen? ⟨b, i, none⟩ = false) ∧
    w.ownsRow 0 70 3 (.slice a G.length c) G.length (dmV G) ∧ (∀ x ∈ G, FrD w S b a x) ∧ S b ∧ (∀ g, a = some ⟨g, 0, none⟩ → S g ∧ g ≠ b) ∧ ∀ k, S k → k < w.heap.size
theorem RDAt.blocks {w w' : World} {b life : Nat} {G : List DM} {S : Nat → Prop} (h : RDAt w b G life S) (hs : w.heap.size ≤ w'.heap.size) (hb : ∀ k, S k → w'.heap[k]? = w.heap[k]?) : RDAt w' b G life S := by
  obtain ⟨a, c, h1, h2, h4, h5, h6, h7, h8, h9⟩ := h
  have eb := hb b h7
  exact ⟨a, c, (World.cell?_of_block (w := w) eb).trans h1, (World.cell?_of_block (w := w) eb).trans h2, fun i => (World.frozen?_of_block (w := w) eb).trans (h4 i), owns_block0 h5 (fun g hg => hb g (h8 g hg).1), fun x hx => (h6 x hx).blocks (fun k hk _ _ => hb k hk), h7, h8, fun k hk => Nat.lt_of_lt_of_le (h9 k hk) hs⟩
theorem RDAt.lt {w : World} {b life : Nat} {G : List DM} {S : Nat → Prop} (h : RDAt w b G life S) : ∀ k, S k → k < w.heap.size := by obtain ⟨a, c, h1, h2, h4, h5, h6, h7, h8, h9⟩ := h; exact h9
theorem RDAt.has {w : World} {b life : Nat} {G : List DM} {S : Nat → Prop} (h : RDAt w b G life S) : S b := by obtain ⟨a, c, h1, h2, h4, h5, h6, h7, h8, h9⟩ := h; exact h7
theorem RDAt.turn {w w' : World} {b life : Nat} {G : List DM} {S F : Nat → Prop} (h : RDAt w b G life S) (t : Turn F w w') (hF : ∀ k, S k → ¬ F k) : RDAt w' b G life S :=
  h.blocks t.size fun k hk => t.block k (h.lt k hk) (hF k hk)
theorem RDAt.below {w w' : World} {b life : Nat} {G : List DM} {S : Nat → Prop} (h : RDAt w b G life S) (t : Below w.heap.size w w') : RDAt w' b G life S :=
  h.blocks t.size fun k hk => t.block k (h.lt k hk)
theorem RDAt.born {w : World} {b life : Nat} {G : List DM} {S : Nat → Prop} (h : RDAt w b G life S) : RDAt (w.setCell ⟨b, 1, none⟩ (.int .i64 ((life + 1 : Nat) : Int))) b G (life + 1) S ∧ Turn S w (w.setCell ⟨b, 1, none⟩ (.int .i64 ((life + 1 : Nat) : Int))) := by
  obtain ⟨a, c, h1, h2, h4, h5, h6, h7, h8, h9⟩ := h
  refine ⟨⟨a, c, ?_, cset_at h2, fun i => ?_, owns_block0 h5 (fun g hg => heap_set_far (h8 g hg).2), fun x hx => (h6 x hx).blocks (fun k _ hk _ => heap_set_far hk), h7, h8, fun k hk => ?_⟩, Turn.setCell h7⟩
  · rw [cset_ne (by omega)]; exact h1
  · rw [fset_any]; exact h4 i
  · rw [show (w.setCell ⟨b, 1, none⟩ (.int .i64 ((life + 1 : Nat) : Int))).heap.size = w.heap.size by simp [World.setCell]]; exact h9 k hk
/-- image j is stored anew: bytes of the disk's own, or made since -/
theorem RDAt.store {w w3 : World} {b life : Nat} {G : List DM} {S : Nat → Prop} {j : Nat} {a g0 : Option Addr} {n c c0 : Nat} {bs : List Nat} (h : RDAt w b G life S) (hj : j < G.length) (hb : Below w.heap.size w w3) (h0 : w.cell? ⟨b, 0, none⟩ = some (.slice g0 G.length c0))
    (hx : HoldsB w3 a n bs) (hn : n = (G.getD j dm0).rn) (ha : ∀ fb fo, a = some ⟨fb, fo, none⟩ → (S fb ∧ fb ≠ b ∧ ∀ g, g0 = some ⟨g, 0, none⟩ → fb ≠ g) ∨ (w.heap.size ≤ fb ∧ fb < w3.heap.size)) :
    ∃ g, g0 = some ⟨g, 0, none⟩ ∧ (∃ S', RDAt (w3.setCell ⟨g, j * 3 + 2, none⟩ (.slice a n c)) b (G.set j ((G.getD j dm0).st a n c bs)) life S' ∧ (∀ k, S' k → S k ∨ w.heap.size ≤ k)) ∧ Turn S w (w3.setCell ⟨g, j * 3 + 2, none⟩ (.slice a n c)) := by
  obtain ⟨a1, c1, h1, h2, h4, h5, h6, h7, h8, h9⟩ := h
  rw [h1] at h0
  simp only [Option.some.injEq, Value.slice.injEq, true_and] at h0
  obtain ⟨rfl, rfl⟩ := h0
  obtain ⟨g, cp, hv⟩ := Joins.ownsRow_form h5 (by omega)
  simp only [Value.slice.injEq, true_and] at hv
  obtain ⟨rfl, rfl⟩ := hv
  have hg := h8 g rfl
  have hlb := h9 b h7
  have hz := hb.size
  have hgl := h9 g hg.1
  have ob : ∀ k, k < w.heap.size → w3.heap[k]? = w.heap[k]? := fun k hk => hb.block k hk
  have o3 := owns_block0 (w' := w3) h5 (fun q e => by injection e with e; injection e with e; subst e; exact ob g hgl)
  have st := (owns_setCells [.slice a n c] (j * 3 + 2) w3 _ o3 (by simp only [List.length_cons, List.length_nil]; omega)).1
  rw [dmV_set G j a n c bs hj] at st
  have sz : (w3.setCell ⟨g, j * 3 + 2, none⟩ (.slice a n c)).heap.size = w3.heap.size := by simp [World.setCell]
  have far : ∀ k, k ≠ g → k < w.heap.size → (w3.setCell ⟨g, j * 3 + 2, none⟩ (.slice a n c)).heap[k]? = w.heap[k]? := fun k hk hl => (heap_set_far hk).trans (ob k hl)
  have eb := far b (fun e => hg.2 e.symm) hlb
  have hx0 := h6 (G.getD j dm0) (by rw [List.getD_eq_getElem?_getD, List.getElem?_eq_getElem hj]; exact List.getElem_mem hj)
  have wid : ∀ {p : Option Addr}, ApD S b (some ⟨g, 0, none⟩) p → ApD (fun k => S k ∨ (w.heap.size ≤ k ∧ k < w3.heap.size)) b (some ⟨g, 0, none⟩) p := fun h fb fo e => ⟨Or.inl (h fb fo e).1, (h fb fo e).2⟩
  have old : ∀ {p : Option Addr} {m : Nat} {z : List Nat}, ApD S b (some ⟨g, 0, none⟩) p → HoldsB w p m z → HoldsB (w3.setCell ⟨g, j * 3 + 2, none⟩ (.slice a n c)) p m z := fun hp hh =>
    holdsB_blocks hh (fun fb fo e => far fb ((hp fb fo e).2.2 g rfl) (h9 fb (hp fb fo e).1))
  refine ⟨g, rfl, ⟨fun k => S k ∨ (w.heap.size ≤ k ∧ k < w3.heap.size), ⟨some ⟨g, 0, none⟩, c1, ?_, ?_, fun i => ?_, ?_, fun x hx' => ?_, Or.inl h7, fun q e => ?_, fun k hk => ?_⟩, fun k hk => hk.imp id (fun x => x.1)⟩, ?_⟩
  · rw [List.length_set, World.cell?_of_block (w := w) eb]; exact h1
  · rw [World.cell?_of_block (w := w) eb]; exact h2
  · rw [World.frozen?_of_block (w := w) eb]; exact h4 i
  · rw [List.length_set]; exact st
  · rcases List.mem_or_eq_of_mem_set hx' with hm | rfl
    · have y := h6 x hm
      exact ⟨old y.ar y.r, old y.az y.s, y.lo, y.hi, y.eq, wid y.ar, wid y.az⟩
    · refine ⟨old hx0.ar hx0.r, holdsB_blocks hx (fun fb fo e => heap_set_far ?_), hx0.lo, hx0.hi, hn, wid hx0.ar, fun fb fo e => ?_⟩
      · rcases ha fb fo e with hh | hh
        · exact hh.2.2 g rfl
        · omega
      · rcases ha fb fo e with hh | hh
        · exact ⟨Or.inl hh.1, hh.2⟩
        · exact ⟨Or.inr hh, by omega, fun q e2 => by injection e2 with e2; injection e2 with e2; omega⟩
  · injection e with e; injection e with e; subst e
    exact ⟨Or.inl hg.1, hg.2⟩
  · rw [sz]
    rcases hk with hk | hk
    · have := h9 k hk; omega
    · exact hk.2
  · exact (Turn.of_below hb).trans (Turn.setCell hg.1)
/-- one image more -/
theorem RDAt.grown {w wf w6 : World} {b life : Nat} {a : Option Addr} {c g cap : Nat} {G : List DM} {S : Nat → Prop} {o : Obj} {x : DM} (h : RDAt w b G life S) (h0 : w.cell? ⟨b, 0, none⟩ = some (.slice a G.length c)) (hb : Below w.heap.size w wf)
    (hx : HoldsB wf x.ra x.rn x.rb) (hs : x.ba = x.ra ∧ x.bn = x.rn ∧ x.bb = x.rb) (hlo : 10 ≤ x.rn ∧ x.rn ≤ 524004) (hfb : ∀ fb fo, x.ra = some ⟨fb, fo, none⟩ → w.heap.size ≤ fb ∧ fb < wf.heap.size)
    (own : w6.ownsRow 0 70 3 (.slice (some ⟨g, 0, none⟩) (G.length + 1) cap) (G.length + 1) (dmV (G ++ [x])))
    (hg : (wf.alloc o).grownBy w6 (Value.slice a G.length c).ownBlock) (hat : (Value.slice a G.length c).ownBlock = some g ∨ g = (wf.alloc o).heap.size) (hlt : g < w6.heap.size) :
    RDAt (w6.setCell ⟨b, 0, none⟩ (.slice (some ⟨g, 0, none⟩) (G.length + 1) cap)) b (G ++ [x]) life (fun k => S k ∨ (w.heap.size ≤ k ∧ k < w6.heap.size)) ∧ Turn S w (w6.setCell ⟨b, 0, none⟩ (.slice (some ⟨g, 0, none⟩) (G.length + 1) cap)) := by
  obtain ⟨a1, c1, h1, h2, h4, h5, h6, h7, h8, h9⟩ := h
  rw [h1] at h0
  simp only [Option.some.injEq, Value.slice.injEq, true_and] at h0
  obtain ⟨rfl, rfl⟩ := h0
  have hz := hb.size
  have hza : (wf.alloc o).heap.size = wf.heap.size + 1 := by simp
  have hz6 := hg.size
  have hlb := h9 b h7
  have old : ∀ k, k < w.heap.size → (∀ q, a1 = some ⟨q, 0, none⟩ → k ≠ q) → w6.heap[k]? = w.heap[k]? := fun k hk hn =>
    ((hg.block k (by omega) (fun e => hn k (ownb h5 e) rfl)).trans (Below.heap_alloc _ _ _ (by omega))).trans (hb.block k hk)
  have ob := old b hlb (fun q e hq => (h8 q e).2 hq.symm)
  have cb : ∀ i, w6.cell? ⟨b, i, none⟩ = w.cell? ⟨b, i, none⟩ := fun i => World.cell?_of_block (w := w) ob
  have gb : g ≠ b := by
    rcases hat with e | e
    · exact (h8 g (ownb h5 e.symm)).2
    · omega
  have sz : (w6.setCell ⟨b, 0, none⟩ (.slice (some ⟨g, 0, none⟩) (G.length + 1) cap)).heap.size = w6.heap.size := by simp [World.setCell]
  have hlen : (G ++ [x]).length = G.length + 1 := by simp
  have ap : ∀ p, ApD S b a1 p → ApD (fun k => S k ∨ (w.heap.size ≤ k ∧ k < w6.heap.size)) b (some ⟨g, 0, none⟩) p := fun p hp fb fo e => ⟨Or.inl (hp fb fo e).1, (hp fb fo e).2.1, fun q hq => by
    injection hq with hq; injection hq with hq; subst hq
    rcases hat with e2 | e2
    · exact (hp fb fo e).2.2 g (ownb h5 e2.symm)
    · have := h9 fb (hp fb fo e).1; omega⟩
  have hol : ∀ (p : Option Addr) (m : Nat) (z : List Nat), ApD S b a1 p → HoldsB w p m z → HoldsB (w6.setCell ⟨b, 0, none⟩ (.slice (some ⟨g, 0, none⟩) (G.length + 1) cap)) p m z := fun p m z hp hh =>
    holdsB_blocks hh (fun fb fo e => (heap_set_far (hp fb fo e).2.1).trans (old fb (h9 fb (hp fb fo e).1) (fun q hq => (hp fb fo e).2.2 q hq)))
  have fr : ∀ y ∈ G ++ [x], FrD (w6.setCell ⟨b, 0, none⟩ (.slice (some ⟨g, 0, none⟩) (G.length + 1) cap)) (fun k => S k ∨ (w.heap.size ≤ k ∧ k < w6.heap.size)) b (some ⟨g, 0, none⟩) y := by
    intro y hy
    rcases List.mem_append.1 hy with hy | hy
    · have y1 := h6 y hy
      exact ⟨hol _ _ _ y1.ar y1.r, hol _ _ _ y1.az y1.s, y1.lo, y1.hi, y1.eq, ap _ y1.ar, ap _ y1.az⟩
    · simp at hy; subst hy
      obtain ⟨s1, s2, s3⟩ := hs
      have hh : HoldsB (w6.setCell ⟨b, 0, none⟩ (.slice (some ⟨g, 0, none⟩) (G.length + 1) cap)) y.ra y.rn y.rb := holdsB_blocks hx (fun fb fo e => by
        have hf := hfb fb fo e
        rw [heap_set_far (by omega)]
        exact (hg.block fb (by omega) (fun e2 => by have := h9 fb (h8 fb (ownb h5 e2)).1; omega)).trans (Below.heap_alloc _ _ _ (by omega)))
      have aa : ApD (fun k => S k ∨ (w.heap.size ≤ k ∧ k < w6.heap.size)) b (some ⟨g, 0, none⟩) y.ra := fun fb fo e => by
        have hf := hfb fb fo e
        refine ⟨Or.inr ⟨hf.1, by omega⟩, by omega, fun q hq => ?_⟩
        injection hq with hq; injection hq with hq; subst hq
        rcases hat with e2 | e2
        · have := h9 g (h8 g (ownb h5 e2.symm)).1; omega
        · omega
      exact ⟨hh, by rw [s1, s2, s3]; exact hh, hlo.1, hlo.2, s2, aa, by rw [s1]; exact aa⟩
  refine ⟨⟨some ⟨g, 0, none⟩, cap, ?_, ?_, fun i => ?_, ?_, fr, Or.inl h7, fun q hq => ?_, fun k hk => ?_⟩, ?_⟩
  · rw [hlen]; exact cset_at ((cb 0).trans h1)
  · rw [cset_ne (by omega), cb]; exact h2
  · rw [fset_any, World.frozen?_of_block (w := w) ob]; exact h4 i
  · rw [hlen]
    exact owns_block0 own (fun q hq => by injection hq with hq; injection hq with hq; subst hq; exact heap_set_far gb)
  · injection hq with hq; injection hq with hq; subst hq
    refine ⟨?_, gb⟩
    rcases hat with e2 | e2
    · exact Or.inl (h8 g (ownb h5 e2.symm)).1
    · exact Or.inr ⟨by omega, hlt⟩
  · rw [sz]
    rcases hk with hk | hk
    · have := h9 k hk; omega
    · exact hk.2
  · refine Turn.trans ?_ (Turn.setCell h7)
    exact ⟨hg.os.trans hb.os, hg.tape.trans hb.tape, hg.output.trans hb.output, by omega, fun k hk hn => old k hk (fun q e hq => hn (by rw [hq]; exact (h8 q e).1))⟩
end Go.Proofs.YtbbholdadgjelaaGreat
/- disk: the document's disk: at, Read, Rotten, Mend, Rot -/
namespace Go.Proofs.YtbbholdadgjelaaGreat
open Go.RowKit
set_option linter.unusedVariables false
set_option maxRecDepth 20000
def fstD (G : List DM) (x : Int) (j : Nat) : Prop := j < G.length ∧ (G.getD j dm0).sh = x ∧ ∀ i, i < j → (G.getD i dm0).sh ≠ x
def noD (G : List DM) (x : Int) : Prop := ∀ i, i < G.length → (G.getD i dm0).sh ≠ x
theorem fstD_one {G : List DM} {x : Int} {i j : Nat} (h : fstD G x i) (k : fstD G x j) : i = j := by
  rcases Nat.lt_trichotomy i j with hl | hl | hl
  · exact absurd h.2.1 (k.2.2 i hl)
  · exact hl
  · exact absurd k.2.1 (h.2.2 j hl)
def AtD (G : List DM) (x : Int) (w : World) (e : Ending) (w' : World) : Prop := ∃ z : Int, e = .returned (.int .i64 z) ∧ w = w' ∧ ((z = -1 ∧ noD G x) ∨ ∃ j : Nat, z = (j : Int) ∧ fstD G x j)
theorem rdat_any (b : Nat) (x : Int) {G : List DM} {life : Nat} {S : Nat → Prop} (w : World) (h : RDAt w b G life S) (hl : G.length ≤ 1000) :
    Calls Tryz.prog 31 #[.pointer (some ⟨b, 0, none⟩), .int .i64 x] w (AtD G x w) := by
  obtain ⟨a, c, c0, -, -, own, -⟩ := h
  obtain ⟨n, hn⟩ : ∃ n, G.length = n := ⟨_, rfl⟩
  have HN := Lib.hid hn
  rw [hn] at c0 own hl
  have OW := Lib.hid own
  clear own hn
  go_enter Tryz.func31, Tryz.ntmps31
  go_wp2_with fail
  go_loop [5] (fun i => ∃ k : Nat, k ≤ n ∧ i = .int .i64 (k : Int) ∧ Hid (∀ j, j < k → (G.getD j dm0).sh ≠ x)) (fun i => n - (intOf i).toNat)
  case atStart => exact ⟨0, Nat.zero_le _, rfl, Lib.hid (fun j hj => by omega)⟩
  case round =>
    obtain ⟨k, hk, rfl, hS⟩ := hrel
    have SS := Lib.hid hS.out
    clear hS
    by_cases hlt : k < n
    · obtain ⟨g, rfl⟩ : ∃ g, a = some ⟨g, 0, none⟩ := by
        obtain ⟨g, cap', hv⟩ := Joins.ownsRow_form OW.out (by omega)
        simp only [Value.slice.injEq] at hv
        exact ⟨g, hv.1⟩
      have x0 := (OW.out.cellAt (k * 3) (by omega)).trans (dmV_at G k (by rw [HN.out]; exact hlt)).1
      obtain ⟨s, hs⟩ : ∃ s, (G.getD k dm0).sh = s := ⟨_, rfl⟩
      rw [hs] at x0
      have HSS := Lib.hid hs
      have i2 : (k : Int) < (n : Int) := by omega
      clear hs
      by_cases he : s = x
      · have e1 : (s == x) = true := by simp [he]
        have HE := Lib.hid he
        clear he
        go_wp2_with fail
        go_ret
        exact ⟨(k : Int), rfl, rfl, Or.inr ⟨k, rfl, by rw [HN.out]; exact hlt, HSS.out.trans HE.out, SS.out⟩⟩
      · have e1 : (s == x) = false := by simp [he]
        have HE := Lib.hid he
        clear he
        go_wp2_with fail
        go_round
        case rel => exact ⟨k + 1, by omega, by go_num, Lib.hid (fun j hj => by
          rcases Nat.lt_succ_iff_lt_or_eq.1 hj with h | h
          · exact SS.out j h
          · subst h; rw [HSS.out]; exact HE.out)⟩
        case measure => simp [intOf] <;> omega
    · have hkn : ¬ (k : Int) < (n : Int) := by omega
      have NN := Lib.hid (show noD G x from fun i hi => SS.out i (by rw [HN.out] at hi; omega))
      go_wp2_with fail
      go_ret
      exact ⟨-1, rfl, rfl, Or.inl ⟨rfl, NN.out⟩⟩
theorem rdat_yes (b : Nat) (x : Int) (j : Nat) {G : List DM} {life : Nat} {S : Nat → Prop} (w : World) (h : RDAt w b G life S) (hl : G.length ≤ 1000) (hj : fstD G x j) :
    Calls Tryz.prog 31 #[.pointer (some ⟨b, 0, none⟩), .int .i64 x] w fun e w' => e = .returned (.int .i64 (j : Int)) ∧ w = w' := by
  refine (rdat_any b x w h hl).mono ?_
  rintro e w' ⟨z, rfl, rfl, ⟨-, hno⟩ | ⟨i, rfl, hi⟩⟩
  · exact absurd hj.2.1 (hno j hj.1)
  · rw [fstD_one hi hj]; exact ⟨rfl, rfl⟩
theorem rdat_no (b : Nat) (x : Int) {G : List DM} {life : Nat} {S : Nat → Prop} (w : World) (h : RDAt w b G life S) (hl : G.length ≤ 1000) (hno : noD G x) :
    Calls Tryz.prog 31 #[.pointer (some ⟨b, 0, none⟩), .int .i64 x] w fun e w' => e = .returned (.int .i64 (-1)) ∧ w = w' := by
  refine (rdat_any b x w h hl).mono ?_
  rintro e w' ⟨z, rfl, rfl, ⟨rfl, -⟩ | ⟨i, rfl, hi⟩⟩
  · exact ⟨rfl, rfl⟩
  · exact absurd hi.2.1 (hno i hi.1)
/-- image j: where it lies in memory -/
structure InD (w : World) (b g c n j : Nat) (x : DM) : Prop where
  c0 : w.cell? ⟨b, 0, none⟩ = some (.slice (some ⟨g, 0, none⟩) n c)
  x0 : w.cell? ⟨g, j * 3, none⟩ = some (.int .i64 x.sh)
  x1 : w.cell? ⟨g, j * 3 + 1, none⟩ = some (.slice x.ra x.rn x.rc)
  x2 : w.cell? ⟨g, j * 3 + 2, none⟩ = some (.slice x.ba x.bn x.bc)
  f2 : w.frozen? ⟨g, j * 3 + 2, none⟩ = false
  r : HoldsB w x.ra x.rn x.rb
  s : HoldsB w x.ba x.bn x.bb
  lo : 10 ≤ x.rn
  hi : x.rn ≤ 524004
  eq : x.bn = x.rn
  gb : g ≠ b
theorem RDAt.img {w : World} {b life : Nat} {G : List DM} {S : Nat → Prop} (h : RDAt w b G life S) {j : Nat} (hj : j < G.length) : ∃ g c, InD w b g c G.length j (G.getD j dm0) ∧ ApD S b (some ⟨g, 0, none⟩) (G.getD j dm0).ra := by
  obtain ⟨a, c, c0, -, -, own, fr, -, h8, -⟩ := h
  obtain ⟨g, cp, hv⟩ := Joins.ownsRow_form own (by omega)
  simp only [Value.slice.injEq, true_and] at hv
  obtain ⟨rfl, rfl⟩ := hv
  have y := fr (G.getD j dm0) (by rw [List.getD_eq_getElem?_getD, List.getElem?_eq_getElem hj]; exact List.getElem_mem hj)
  obtain ⟨v0, v1, v2⟩ := dmV_at G j hj
  exact ⟨g, c, ⟨c0, (own.cellAt (j * 3) (by omega)).trans v0, (own.cellAt (j * 3 + 1) (by omega)).trans v1, (own.cellAt (j * 3 + 2) (by omega)).trans v2, own.frozenAt _, y.r, y.s, y.lo, y.hi, y.eq, (h8 g rfl).2⟩, y.ar⟩
def RReadD (w : World) (bs : List Nat) (n : Nat) (e : Ending) (w' : World) : Prop := ∃ a c, e = .returned (.tuple #[.slice a n c, .int .i64 0]) ∧ HoldsB w' a n bs ∧ Below w.heap.size w w'
set_option maxHeartbeats 1600000 in
theorem rdread_yes (b : Nat) (x : Int) (j : Nat) {G : List DM} {life : Nat} {S : Nat → Prop} (w : World) (h : RDAt w b G life S) (hl : G.length ≤ 1000) (hj : fstD G x j) :
    Calls Tryz.prog 15 #[.pointer (some ⟨b, 0, none⟩), .int .i64 x] w (RReadD w (G.getD j dm0).bb (G.getD j dm0).bn) := by
  obtain ⟨i0, hi, hz0, hz1, hz2⟩ := info_parts u8d_info
  have CA := Lib.hid (rdat_yes b x j w h hl hj)
  obtain ⟨g, c, I, -⟩ := h.img hj.1
  obtain ⟨y, hy⟩ : ∃ y, G.getD j dm0 = y := ⟨_, rfl⟩
  obtain ⟨n, hn⟩ : ∃ n, G.length = n := ⟨_, rfl⟩
  have hjn := hj.1
  rw [hy, hn] at I
  rw [hn] at hjn hl
  rw [hy]
  obtain ⟨c0, -, -, x2, -, -, hs, hlo, hhi, heq, -⟩ := I
  have HVC := Lib.hid (hs.values.cells (w' := w) ⟨rfl, rfl, rfl, Nat.le_refl _, fun _ _ _ => rfl⟩)
  have hbl : (bytesV y.bb).length = y.bn * 1 := by rw [bytesV_length, hs.len]; omega
  have HBS := Lib.hid hs.2
  have HNO := Lib.hid (show y.ba = none → y.bn = 0 ∧ y.bc = 0 from fun e => by
    obtain ⟨q, o, e2, -⟩ := hs.at (by omega)
    rw [e] at e2; cases e2)
  have i1 : (0 : Int) ≤ (j : Int) := by omega
  have i2 : (j : Int) < (n : Int) := by omega
  have d1 : decide ((j : Int) < 0) = false := decide_eq_false (by omega)
  have b1 : 10 ≤ y.bn := by omega
  have b2 : y.bn ≤ 524004 := by omega
  clear h hj hy hn hs hlo hhi heq
  go_enter Tryz.func15, Tryz.ntmps15
  go_wp2_with fail
  refine CA.out.mono ?_
  rintro e w' ⟨rfl, rfl⟩
  go_wp2_with (at_builtin; refine wpList_append_any rfl (.const (.slice none 0 0)) (.tmp 19) 47 rfl w.heap.size 5 i0 _ 1 1 Tryz.underlying47 hi hz0 hz1 hz2 rfl (by decide) _ 0 [] rfl (World.ownsRow_nil _ _ _ _) y.ba y.bn y.bc (bytesV y.bb) rfl HNO.out hbl HVC.out (bytesV_one _) (by unfold maxLen; omega) (by omega) (by simp) ?_; intro a3 c3 w3' ho hb hnil)
  rw [Nat.zero_add, List.nil_append] at ho
  have HH := Lib.hid (holdsB_of_values (owns_holds ho) HBS.out)
  have HB := Lib.hid hb
  clear ho hb hnil
  go_wp2_with fail
  exact bodyPost_ret (v := .tuple #[.slice a3 y.bn c3, .int .i64 0]) (by simp [results, go_sem]) rfl ⟨a3, c3, rfl, HH.out, HB.out⟩
theorem rdread_no (b : Nat) (x : Int) {G : List DM} {life : Nat} {S : Nat → Prop} (w : World) (h : RDAt w b G life S) (hl : G.length ≤ 1000) (hno : noD G x) :
    Calls Tryz.prog 15 #[.pointer (some ⟨b, 0, none⟩), .int .i64 x] w fun e w' => e = .returned (.tuple #[.slice none 0 0, .int .i64 4]) ∧ w = w' := by
  have CA := Lib.hid (rdat_no b x w h hl hno)
  clear h hno hl
  go_enter Tryz.func15, Tryz.ntmps15
  go_wp2_with fail
  refine CA.out.mono ?_
  rintro e w' ⟨rfl, rfl⟩
  go_wp2_with fail
  exact bodyPost_ret (v := .tuple #[.slice none 0 0, .int .i64 4]) (by simp [results, go_sem]) rfl ⟨rfl, rfl⟩
set_option maxHeartbeats 1600000 in
theorem rdrotten_yes (b : Nat) (x : Int) (j : Nat) (z : Bool) {G : List DM} {life : Nat} {S : Nat → Prop} (w : World) (h : RDAt w b G life S) (hl : G.length ≤ 1000) (hj : fstD G x j) (hz : decide ((G.getD j dm0).bb ≠ (G.getD j dm0).rb) = z) :
    Calls Tryz.prog 18 #[.pointer (some ⟨b, 0, none⟩), .int .i64 x] w fun e w' => e = .returned (.bool z) ∧ Below w.heap.size w w' := by
  have CA := Lib.hid (rdat_yes b x j w h hl hj)
  obtain ⟨g, c, I, -⟩ := h.img hj.1
  obtain ⟨y, hy⟩ : ∃ y, G.getD j dm0 = y := ⟨_, rfl⟩
  obtain ⟨n, hn⟩ : ∃ n, G.length = n := ⟨_, rfl⟩
  have hjn := hj.1
  rw [hy, hn] at I
  rw [hn] at hjn hl
  rw [hy] at hz
  obtain ⟨c0, -, x1, x2, -, hr, hs, hlo, hhi, heq, -⟩ := I
  have r1 := fun (w : World) (h : HoldsB w y.ra y.rn y.rb) => run_conv_bytes (P := Tryz.prog) w 47 5 9 Tryz.underlying47 Tryz.underlying5 Tryz.underlying9 y.ra y.rn y.rc y.rb h
  have r2 := fun (w : World) (h : HoldsB w y.ba y.bn y.bb) => run_conv_bytes (P := Tryz.prog) w 47 5 9 Tryz.underlying47 Tryz.underlying5 Tryz.underlying9 y.ba y.bn y.bc y.bb h
  have q1 := fun n => r1 (w.drewN n) (hr.below (below_drewN _ _))
  have q2 := fun n => r2 (w.drewN n) (hs.below (below_drewN _ _))
  have q3 := r1 w hr
  have q4 := r2 w hs
  have i1 : (0 : Int) ≤ (j : Int) := by omega
  have i2 : (j : Int) < (n : Int) := by omega
  have d1 : decide ((j : Int) ≥ 0) = true := decide_eq_true (by omega)
  have d2 : decide (0 ≤ (j : Int)) = true := decide_eq_true (by omega)
  have ez : (!((strN y.bb).toList == (strN y.rb).toList)) = z := by
    rw [← hz]
    have := strN_inj hs.2 hr.2
    by_cases e : y.bb = y.rb
    · rw [e]; simp
    · have e2 : ¬ (strN y.bb).toList = (strN y.rb).toList := fun e3 => e (this.1 (toList_inj e3))
      simp [e, e2]
  clear h hj hy hn hr hs r1 r2 hz hlo hhi heq
  go_enter Tryz.func18, Tryz.ntmps18
  go_wp2_with fail
  refine CA.out.mono ?_
  rintro e w' ⟨rfl, rfl⟩
  clear CA
  go_wp2_with fail
  go_quiet (fail)
  go_wp2_with fail
  go_ret
  exact ⟨rfl, below_drewN _ _⟩
theorem rdrotten_no (b : Nat) (x : Int) {G : List DM} {life : Nat} {S : Nat → Prop} (w : World) (h : RDAt w b G life S) (hl : G.length ≤ 1000) (hno : noD G x) :
    Calls Tryz.prog 18 #[.pointer (some ⟨b, 0, none⟩), .int .i64 x] w fun e w' => e = .returned (.bool false) ∧ Below w.heap.size w w' := by
  have CA := Lib.hid (rdat_no b x w h hl hno)
  clear h hno hl
  have d1 : decide ((-1 : Int) ≥ 0) = false := by decide
  go_enter Tryz.func18, Tryz.ntmps18
  go_wp2_with fail
  refine CA.out.mono ?_
  rintro e w' ⟨rfl, rfl⟩
  go_wp2_with fail
  go_quiet (fail)
  go_wp2_with fail
  go_ret
  exact ⟨rfl, below_drewN _ _⟩
end Go.Proofs.YtbbholdadgjelaaGreat
/- disk: the document's disk: Mend, Rot -/
namespace Go.Proofs.YtbbholdadgjelaaGreat
open Go.RowKit
set_option linter.unusedVariables false
set_option maxRecDepth 20000
def RStD (w : World) (b : Nat) (G : List DM) (life : Nat) (S : Nat → Prop) (j : Nat) (bs : List Nat) (e : Ending) (w' : World) : Prop :=
  e = .returned (.int .i64 0) ∧ (∃ a n c S', RDAt w' b (G.set j ((G.getD j dm0).st a n c bs)) life S' ∧ (∀ k, S' k → S k ∨ w.heap.size ≤ k)) ∧ Turn S w w'
theorem c01_store {w' : World} {b g j : Nat} {u v x : Value} (hgb : g ≠ b) (h : w'.cell? ⟨b, 0, none⟩ = some u ∧ w'.cell? ⟨g, j * 3 + 1, none⟩ = some v) : (w'.setCell ⟨g, j * 3 + 2, none⟩ x).cell? ⟨b, 0, none⟩ = some u ∧ (w'.setCell ⟨g, j * 3 + 2, none⟩ x).cell? ⟨g, j * 3 + 1, none⟩ = some v :=
  ⟨(World.cell?_of_block (w := w') (heap_set_far (fun e => hgb e.symm))).trans h.1, (cset_ne (by omega)).trans h.2⟩
theorem rdmend_no (b : Nat) (x : Int) {G : List DM} {life : Nat} {S : Nat → Prop} (w : World) (h : RDAt w b G life S) (hl : G.length ≤ 1000) (hno : noD G x) :
    Calls Tryz.prog 12 #[.pointer (some ⟨b, 0, none⟩), .int .i64 x] w fun e w' => e = .returned (.int .i64 4) ∧ w = w' := by
  have CA := Lib.hid (rdat_no b x w h hl hno)
  clear h hno hl
  go_enter Tryz.func12, Tryz.ntmps12
  go_wp2_with fail
  refine CA.out.mono ?_
  rintro e w' ⟨rfl, rfl⟩
  go_wp2_with fail
  go_ret
  exact ⟨rfl, rfl⟩
theorem rdrot_no (b : Nat) (x at_ xx : Int) {G : List DM} {life : Nat} {S : Nat → Prop} (w : World) (h : RDAt w b G life S) (hl : G.length ≤ 1000) (hno : noD G x) :
    Calls Tryz.prog 10 #[.pointer (some ⟨b, 0, none⟩), .int .i64 x, .int .i64 at_, .int .i64 xx] w fun e w' => e = .returned (.int .i64 4) ∧ w = w' := by
  have CA := Lib.hid (rdat_no b x w h hl hno)
  clear h hno hl
  go_enter Tryz.func10, Tryz.ntmps10
  go_wp2_with fail
  refine CA.out.mono ?_
  rintro e w' ⟨rfl, rfl⟩
  go_wp2_with fail
  go_ret
  exact ⟨rfl, rfl⟩
set_option maxHeartbeats 1600000 in
theorem rdmend_yes (b : Nat) (x : Int) (j : Nat) {G : List DM} {life : Nat} {S : Nat → Prop} (w : World) (h : RDAt w b G life S) (hl : G.length ≤ 1000) (hj : fstD G x j) :
    Calls Tryz.prog 12 #[.pointer (some ⟨b, 0, none⟩), .int .i64 x] w (RStD w b G life S j (G.getD j dm0).rb) := by
  have CA := Lib.hid (rdat_yes b x j w h hl hj)
  obtain ⟨g, c, I, ap⟩ := h.img hj.1
  obtain ⟨g2, hg2, ⟨S', R, hS'⟩, T⟩ := h.store (j := j) (c := (G.getD j dm0).rc) hj.1 (Below.refl _ _).drew I.c0 (I.r.below (Below.refl _ _).drew) rfl (fun fb fo e => Or.inl (ap fb fo e))
  injection hg2 with hg2; injection hg2 with hg2; subst hg2
  have RR := Lib.hid (show RStD w b G life S j (G.getD j dm0).rb (.returned (.int .i64 0)) _ from ⟨rfl, ⟨_, _, _, S', R, hS'⟩, T⟩)
  obtain ⟨y, hy⟩ : ∃ y, G.getD j dm0 = y := ⟨_, rfl⟩
  obtain ⟨n, hn⟩ : ∃ n, G.length = n := ⟨_, rfl⟩
  have hjn := hj.1
  rw [hy, hn] at I
  rw [hn] at hjn hl
  simp only [hy] at RR ⊢
  obtain ⟨c0, -, x1, x2, f2, -, -, -, -, -, gb⟩ := I
  have GB := Lib.hid gb
  have CX := Lib.hid (And.intro c0 x1)
  have i1 : (0 : Int) ≤ (j : Int) := by omega
  have i2 : (j : Int) < (n : Int) := by omega
  have d1 : decide ((j : Int) < 0) = false := decide_eq_false (by omega)
  clear h hj hy hn R hS' T ap gb
  go_enter Tryz.func12, Tryz.ntmps12
  go_wp2_with fail
  refine CA.out.mono ?_
  rintro e w' ⟨rfl, rfl⟩
  clear CA
  go_upto_region 4 with fail
  go_region_held3 (fun w' => w'.cell? ⟨b, 0, none⟩ = some (.slice (some ⟨g, 0, none⟩) n c) ∧ w'.cell? ⟨g, j * 3 + 1, none⟩ = some (.slice y.ra y.rn y.rc)) (first | assumption | exact c01_store (w' := w) GB.out CX.out | exact CX.out) (fail)
  go_wp2_with fail
  go_ret
  exact RR.out
theorem turned_lt {bs : List Nat} (h : ∀ b ∈ bs, b < 256) (h0 : 0 < bs.length) (at_ x : Int) : ∀ b ∈ Dm.turned bs at_ x, b < 256 := fun b hb => by
  unfold Dm.turned at hb
  rcases List.mem_or_eq_of_mem_set hb with hb | rfl
  · exact h b hb
  · refine Nat.xor_lt_two_pow (n := 8) ?_ (by have := Dm.m_bd x; omega)
    have hkk := Dm.k_lt bs.length at_ h0
    rw [List.getD_eq_getElem?_getD, List.getElem?_eq_getElem hkk]
    exact h _ (List.getElem_mem _)
theorem c01_carry {w' w'' : World} {b g i : Nat} {u v : Value} (h : w'.cell? ⟨b, 0, none⟩ = some u ∧ w'.cell? ⟨g, i, none⟩ = some v) (hb : Below w'.heap.size w' w'') : w''.cell? ⟨b, 0, none⟩ = some u ∧ w''.cell? ⟨g, i, none⟩ = some v :=
  ⟨(hb.cell (p := ⟨b, 0, none⟩) (lt_of_cell h.1)).trans h.1, (hb.cell (p := ⟨g, i, none⟩) (lt_of_cell h.2)).trans h.2⟩
set_option maxHeartbeats 1600000 in
theorem rdrot_yes (b : Nat) (x at_ xx : Int) (j : Nat) {G : List DM} {life : Nat} {S : Nat → Prop} (w : World) (h : RDAt w b G life S) (hl : G.length ≤ 1000) (hj : fstD G x j) :
    Calls Tryz.prog 10 #[.pointer (some ⟨b, 0, none⟩), .int .i64 x, .int .i64 at_, .int .i64 xx] w (RStD w b G life S j (Dm.turned (G.getD j dm0).rb at_ xx)) := by
  have CA := Lib.hid (rdat_yes b x j w h hl hj)
  have H := Lib.hid h
  have HJ := Lib.hid hj
  obtain ⟨g, c, I, ap⟩ := h.img hj.1
  have C0 := Lib.hid I.c0
  obtain ⟨y, hy⟩ : ∃ y, G.getD j dm0 = y := ⟨_, rfl⟩
  have HY := Lib.hid hy
  obtain ⟨n, hn⟩ : ∃ n, G.length = n := ⟨_, rfl⟩
  have hjn := hj.1
  have HN := Lib.hid hn
  rw [hy, hn] at I
  rw [hn] at hjn hl
  rw [hy]
  obtain ⟨c0, -, x1, x2, f2, hr, -, hlo, hhi, -, gb⟩ := I
  have GB := Lib.hid gb
  have hrl := hr.len
  have CT := Lib.hid (rturned_any y.ra y.rn y.rc y.rb at_ xx w.drew (hr.below (Below.refl _ _).drew) (fun e => by
    obtain ⟨q, o, e2, -⟩ := hr.at (by omega)
    rw [e] at e2; cases e2) (by omega) (by omega))
  have RB2 := Lib.hid hr.2
  obtain ⟨T, hT⟩ : ∃ T, Dm.turned y.rb at_ xx = T := ⟨_, rfl⟩
  have TL : T.length = y.rn := by rw [← hT, Dm.turned_len, hrl]
  have TB := Lib.hid (show ∀ z ∈ T, z < 256 from by rw [← hT]; exact turned_lt RB2.out (by omega) at_ xx)
  unfold RetB at CT
  rw [hT, TL] at CT
  rw [hT]
  have TLH := Lib.hid TL
  have i1 : (0 : Int) ≤ (j : Int) := by omega
  have i2 : (j : Int) < (n : Int) := by omega
  have d1 : decide ((j : Int) < 0) = false := decide_eq_false (by omega)
  have lg := Lib.hid (lt_of_cell x1)
  clear h hj hy hn ap hr hT TL hrl gb
  go_enter Tryz.func10, Tryz.ntmps10
  go_wp2_with fail
  refine CA.out.mono ?_
  rintro e w' ⟨rfl, rfl⟩
  clear CA
  go_upto_region 4 with fail
  have hS0 : w.drew.cell? ⟨b, 0, none⟩ = some (.slice (some ⟨g, 0, none⟩) n c) ∧ w.drew.cell? ⟨g, j * 3 + 1, none⟩ = some (.slice y.ra y.rn y.rc) := ⟨c0, x1⟩
  go_region_held3 (fun w' => w'.cell? ⟨b, 0, none⟩ = some (.slice (some ⟨g, 0, none⟩) n c) ∧ w'.cell? ⟨g, j * 3 + 1, none⟩ = some (.slice y.ra y.rn y.rc))
    (first | assumption | exact c01_carry (by assumption) (by assumption) | exact c01_store GB.out (by assumption))
    (first
      | (go_at_call 32; (with_reducible refine CT.out.mono ?_); rintro e w3 ⟨a3, c3, rfl, ho, hb, -⟩; have f3 : w3.frozen? ⟨g, j * 3 + 2, none⟩ = false := (hb.frozen (p := ⟨g, j * 3 + 2, none⟩) lg.out).trans f2; have y2 := (hb.cell (p := ⟨g, j * 3 + 2, none⟩) lg.out).trans x2)
      | fail)
  have RR := Lib.hid (show RStD w b G life S j T (.returned (.int .i64 0)) (w3.setCell ⟨g, j * 3 + 2, none⟩ (.slice a3 y.rn c3)) from by
    obtain ⟨g2, hg2, ⟨S', R, hS'⟩, T2⟩ := H.out.store (w3 := w3) (j := j) (a := a3) (c := c3) (bs := T) HJ.out.1 ((Below.refl _ _).drew.trans hb) C0.out (holdsB_of_values (owns_holds ho) TB.out) (by rw [HY.out]) (fun fb fo e => Or.inr (by
      obtain ⟨q, cp, hv⟩ := Joins.ownsRow_form ho (by omega)
      simp only [Value.slice.injEq, true_and] at hv
      obtain ⟨rfl, -⟩ := hv
      injection e with e; injection e with e; subst e
      exact ho.lt _ rfl))
    injection hg2 with hg2; injection hg2 with hg2; subst hg2
    rw [HY.out] at R
    exact ⟨rfl, ⟨_, _, _, S', by rw [HY.out]; exact R, hS'⟩, T2⟩)
  clear ho hb
  go_wp2_with fail
  go_ret
  exact RR.out
end Go.Proofs.YtbbholdadgjelaaGreat
/- contract of the document's 'one'; it is the runes that a range yields -/
namespace Go.Proofs.YtbbholdadgjelaaGreat
open Go.RowKit
set_option linter.unusedVariables false
set_option maxRecDepth 20000
def oneV (s : ByteArray) (i : Nat) : Int × Int :=
  if byteS s i < 128 then ((byteS s i : Int), 1)
  else if (194 ≤ byteS s i ∧ byteS s i ≤ 223) ∧ moreP s (i + 1) then (((byteS s i : Int) - 192) * 64 + moreV s (i + 1), 2)
  else if (224 ≤ byteS s i ∧ byteS s i ≤ 239) ∧ moreP s (i + 1) ∧ moreP s (i + 2) then (((byteS s i : Int) - 224) * 4096 + moreV s (i + 1) * 64 + moreV s (i + 2), 3)
  else if (240 ≤ byteS s i ∧ byteS s i ≤ 244) ∧ moreP s (i + 1) ∧ moreP s (i + 2) ∧ moreP s (i + 3) then (((byteS s i : Int) - 240) * 262144 + moreV s (i + 1) * 4096 + moreV s (i + 2) * 64 + moreV s (i + 3), 4)
  else (0, 0)
theorem moreV_bd (s : ByteArray) (i : Nat) : 0 ≤ moreV s i ∧ moreV s i ≤ 63 := by
  unfold moreV
  split
  · rename_i h; unfold moreP at h; omega
  · omega
theorem more_lit (s : ByteArray) (i : Nat) (k : Int) (w : World) (hs : s.size ≤ 1048576) (hi : i ≤ 1048580) (p : Bool) (v : Int) (hk : (i : Int) = k) (hp : decide (moreP s i) = p) (hv : moreV s i = v) :
    Calls Tryz.prog 103 #[.string s, .int .i64 k] w fun e w' => e = .returned (.tuple #[.int .i32 v, .bool p]) ∧ w = w' := by
  subst hp hv hk; exact more_any s i w hs hi
def badP (r n : Int) : Prop := n = 0 ∨ ¬ goodP r ∨ (n = 3 ∧ r < 2048) ∨ (n = 4 ∧ r < 65536)
instance (r n : Int) : Decidable (badP r n) := by unfold badP; infer_instance
set_option maxHeartbeats 1600000 in
theorem one_decode (s : ByteArray) (i : Nat) (hi : i < s.size) :
    (badP (oneV s i).1 (oneV s i).2 → (Utf8.decode s i).1 = 65533) ∧
    (¬ badP (oneV s i).1 (oneV s i).2 → (oneV s i).1 = ((Utf8.decode s i).1 : Int) ∧ (oneV s i).2 = ((Utf8.decode s i).2 : Int) ∧ (Utf8.decode s i).1 ≠ 65533) := by
  rw [Lib.decode_at]
  have e1 : moreP s (i + 1) ↔ (1 < s.size - i ∧ 128 ≤ byteS s (i + 1) ∧ byteS s (i + 1) ≤ 191) := by unfold moreP; omega
  have e2 : moreP s (i + 2) ↔ (2 < s.size - i ∧ 128 ≤ byteS s (i + 2) ∧ byteS s (i + 2) ≤ 191) := by unfold moreP; omega
  have e3 : moreP s (i + 3) ↔ (3 < s.size - i ∧ 128 ≤ byteS s (i + 3) ∧ byteS s (i + 3) ≤ 191) := by unfold moreP; omega
  have l0 := byteS_lt s i
  have l1 := byteS_lt s (i + 1)
  have l2 := byteS_lt s (i + 2)
  have l3 := byteS_lt s (i + 3)
  unfold oneV moreV
  simp only [e1, e2, e3]
  show (_ → (Lib.decodeN (s.size - i) (byteS s i) (byteS s (i + 1)) (byteS s (i + 2)) (byteS s (i + 3))).1 = 65533) ∧ (_ → _ = ((Lib.decodeN (s.size - i) (byteS s i) (byteS s (i + 1)) (byteS s (i + 2)) (byteS s (i + 3))).1 : Int) ∧ _ = ((Lib.decodeN (s.size - i) (byteS s i) (byteS s (i + 1)) (byteS s (i + 2)) (byteS s (i + 3))).2 : Int) ∧ (Lib.decodeN (s.size - i) (byteS s i) (byteS s (i + 1)) (byteS s (i + 2)) (byteS s (i + 3))).1 ≠ 65533)
  have hn : 0 < s.size - i := by omega
  clear e1 e2 e3
  generalize s.size - i = n at *
  generalize byteS s i = b0 at *
  generalize byteS s (i + 1) = b1 at *
  generalize byteS s (i + 2) = b2 at *
  generalize byteS s (i + 3) = b3 at *
  unfold Lib.decodeN badP goodP
  by_cases h0 : b0 < 128
  · simp only [h0, if_true]
    refine ⟨fun h => ?_, fun h => ⟨?_, ?_, ?_⟩⟩ <;> first | trivial | omega
  simp only [h0, if_false]
  by_cases hA : (194 ≤ b0 ∧ b0 ≤ 223) ∧ 1 < n ∧ 128 ≤ b1 ∧ b1 ≤ 191
  · obtain ⟨⟨a1, a2⟩, a3, a4, a5⟩ := hA
    have c1 : b0 / 32 = 6 ∧ 1 < n ∧ b1 / 64 = 2 := by omega
    have c2 : b0 % 32 * 64 + b1 % 64 ≥ 128 := by omega
    rw [if_pos ⟨⟨a1, a2⟩, a3, a4, a5⟩, if_pos c1, if_pos c2, if_pos ⟨a3, a4, a5⟩]
    dsimp only
    refine ⟨fun h => ?_, fun h => ⟨?_, ?_, ?_⟩⟩ <;> omega
  rw [if_neg hA]
  by_cases hB : (224 ≤ b0 ∧ b0 ≤ 239) ∧ (1 < n ∧ 128 ≤ b1 ∧ b1 ≤ 191) ∧ 2 < n ∧ 128 ≤ b2 ∧ b2 ≤ 191
  · obtain ⟨⟨a1, a2⟩, ⟨a3, a4, a5⟩, a6, a7, a8⟩ := hB
    have c0 : ¬ (b0 / 32 = 6 ∧ 1 < n ∧ b1 / 64 = 2) := by omega
    have c1 : b0 / 16 = 14 ∧ (1 < n ∧ b1 / 64 = 2) ∧ 2 < n ∧ b2 / 64 = 2 := by omega
    rw [if_pos ⟨⟨a1, a2⟩, ⟨a3, a4, a5⟩, a6, a7, a8⟩, if_neg c0, if_pos c1, if_pos ⟨a3, a4, a5⟩, if_pos ⟨a6, a7, a8⟩]
    clear c0 c1 hA
    split
    all_goals
      dsimp only
      refine ⟨fun h => ?_, fun h => ⟨?_, ?_, ?_⟩⟩ <;> omega
  rw [if_neg hB]
  by_cases hC : (240 ≤ b0 ∧ b0 ≤ 244) ∧ (1 < n ∧ 128 ≤ b1 ∧ b1 ≤ 191) ∧ (2 < n ∧ 128 ≤ b2 ∧ b2 ≤ 191) ∧ 3 < n ∧ 128 ≤ b3 ∧ b3 ≤ 191
  · obtain ⟨⟨a1, a2⟩, ⟨a3, a4, a5⟩, ⟨a6, a7, a8⟩, a9, a10, a11⟩ := hC
    have c0 : ¬ (b0 / 32 = 6 ∧ 1 < n ∧ b1 / 64 = 2) := by omega
    have c1 : ¬ (b0 / 16 = 14 ∧ (1 < n ∧ b1 / 64 = 2) ∧ 2 < n ∧ b2 / 64 = 2) := by omega
    have c2 : b0 / 8 = 30 ∧ (1 < n ∧ b1 / 64 = 2) ∧ (2 < n ∧ b2 / 64 = 2) ∧ 3 < n ∧ b3 / 64 = 2 := by omega
    rw [if_pos ⟨⟨a1, a2⟩, ⟨a3, a4, a5⟩, ⟨a6, a7, a8⟩, a9, a10, a11⟩, if_neg c0, if_neg c1, if_pos c2, if_pos ⟨a3, a4, a5⟩, if_pos ⟨a6, a7, a8⟩, if_pos ⟨a9, a10, a11⟩]
    clear c0 c1 c2 hA hB
    split
    all_goals
      dsimp only
      refine ⟨fun h => ?_, fun h => ⟨?_, ?_, ?_⟩⟩ <;> omega
  rw [if_neg hC]
  refine ⟨fun _ => ?_, fun h => absurd (Or.inl rfl) h⟩
  by_cases d1 : b0 / 32 = 6 ∧ 1 < n ∧ b1 / 64 = 2
  · rw [if_pos d1, if_neg (by omega)]
  rw [if_neg d1]
  by_cases d2 : b0 / 16 = 14 ∧ (1 < n ∧ b1 / 64 = 2) ∧ 2 < n ∧ b2 / 64 = 2
  · omega
  rw [if_neg d2]
  by_cases d3 : b0 / 8 = 30 ∧ (1 < n ∧ b1 / 64 = 2) ∧ (2 < n ∧ b2 / 64 = 2) ∧ 3 < n ∧ b3 / 64 = 2
  · rw [if_pos d3, if_neg (by omega)]
  rw [if_neg d3]
end Go.Proofs.YtbbholdadgjelaaGreat
/- contracts of the document's 'one' and Runes -/
namespace Go.Proofs.YtbbholdadgjelaaGreat
open Go.RowKit
set_option linter.unusedVariables false
set_option maxRecDepth 20000
set_option maxRecDepth 100000 in
set_option maxHeartbeats 6400000 in
theorem one_any (s : ByteArray) (i : Nat) (w : World) (hs : s.size ≤ 1048576) (hi : i < s.size) :
    Calls Tryz.prog 95 #[.string s, .int .i64 i] w fun e w' => e = .returned (.tuple #[.int .i32 (oneV s i).1, .int .i64 (oneV s i).2]) ∧ w = w' := by
  have hx := byteS_at s i hi
  have hb := byteS_lt s i
  obtain ⟨p1, hp1⟩ : ∃ p, decide (moreP s (i + 1)) = p := ⟨_, rfl⟩
  obtain ⟨p2, hp2⟩ : ∃ p, decide (moreP s (i + 2)) = p := ⟨_, rfl⟩
  obtain ⟨p3, hp3⟩ : ∃ p, decide (moreP s (i + 3)) = p := ⟨_, rfl⟩
  have i1 : moreP s (i + 1) ↔ p1 = true := by rw [← hp1]; simp
  have i2 : moreP s (i + 2) ↔ p2 = true := by rw [← hp2]; simp
  have i3 : moreP s (i + 3) ↔ p3 = true := by rw [← hp3]; simp
  obtain ⟨A, hA⟩ : ∃ A, moreV s (i + 1) = A := ⟨_, rfl⟩
  obtain ⟨B, hB⟩ : ∃ A, moreV s (i + 2) = A := ⟨_, rfl⟩
  obtain ⟨C, hC⟩ : ∃ A, moreV s (i + 3) = A := ⟨_, rfl⟩
  have m1 := Lib.hid (more_lit s (i + 1) ((i : Int) + 1) w hs (by omega) p1 A (by omega) hp1 hA)
  have m2 := Lib.hid (more_lit s (i + 2) ((i : Int) + 2) w hs (by omega) p2 B (by omega) hp2 hB)
  have m3 := Lib.hid (more_lit s (i + 3) ((i : Int) + 3) w hs (by omega) p3 C (by omega) hp3 hC)
  have bA := moreV_bd s (i + 1); have bB := moreV_bd s (i + 2); have bC := moreV_bd s (i + 3)
  rw [hA] at bA; rw [hB] at bB; rw [hC] at bC
  unfold oneV
  simp only [i1, i2, i3]
  rw [hA, hB, hC]
  obtain ⟨x, hx2⟩ : ∃ x, byteS s i = x := ⟨_, rfl⟩
  rw [hx2] at hx hb
  rw [hx2]
  have j1 : IntKind.i64.wrap ((i : Int) + 1) = (i : Int) + 1 := IntWalk.i64_in _ (by omega)
  have j2 : IntKind.i64.wrap ((i : Int) + 2) = (i : Int) + 2 := IntWalk.i64_in _ (by omega)
  have j3 : IntKind.i64.wrap ((i : Int) + 3) = (i : Int) + 3 := IntWalk.i64_in _ (by omega)
  clear hx2 hA hB hC hp1 hp2 hp3 i1 i2 i3
  have hcase : x < 128 ∨ (128 ≤ x ∧ x < 194) ∨ (128 ≤ x ∧ 194 ≤ x ∧ x ≤ 223) ∨ (128 ≤ x ∧ 194 ≤ x ∧ 223 < x ∧ 224 ≤ x ∧ x ≤ 239) ∨ (128 ≤ x ∧ 194 ≤ x ∧ 223 < x ∧ 224 ≤ x ∧ 239 < x ∧ 240 ≤ x ∧ x ≤ 244) ∨ (128 ≤ x ∧ 194 ≤ x ∧ 223 < x ∧ 224 ≤ x ∧ 239 < x ∧ 240 ≤ x ∧ 244 < x) := by omega
  rcases hcase with c1 | ⟨c0, c1⟩ | ⟨c0, c1, c2⟩ | ⟨c0, c1, c2, c3, c4⟩ | ⟨c0, c1, c2, c3, c4, c5, c6⟩ | ⟨c0, c1, c2, c3, c4, c5, c6⟩
  · rw [if_pos c1]
    go_enter Tryz.func95, Tryz.ntmps95
    go_wp2_with fail
    refine m1.out.mono ?_
    rintro e w' ⟨rfl, rfl⟩
    go_wp2_with fail
    refine m2.out.mono ?_
    rintro e w' ⟨rfl, rfl⟩
    go_wp2_with fail
    refine m3.out.mono ?_
    rintro e w' ⟨rfl, rfl⟩
    go_wp2_with fail
    go_ret2
    exact ⟨rfl, rfl⟩
  · rw [if_neg (by omega), if_neg (by omega), if_neg (by omega), if_neg (by omega)]
    go_enter Tryz.func95, Tryz.ntmps95
    go_wp2_with fail
    refine m1.out.mono ?_
    rintro e w' ⟨rfl, rfl⟩
    go_wp2_with fail
    refine m2.out.mono ?_
    rintro e w' ⟨rfl, rfl⟩
    go_wp2_with fail
    refine m3.out.mono ?_
    rintro e w' ⟨rfl, rfl⟩
    go_wp2_with fail
    go_ret2
    exact ⟨rfl, rfl⟩
  · rw [if_neg (by omega)]
    cases p1
    · rw [if_neg (by simp), if_neg (by omega), if_neg (by omega)]
      go_enter Tryz.func95, Tryz.ntmps95
      go_wp2_with fail
      refine m1.out.mono ?_
      rintro e w' ⟨rfl, rfl⟩
      go_wp2_with fail
      refine m2.out.mono ?_
      rintro e w' ⟨rfl, rfl⟩
      go_wp2_with fail
      refine m3.out.mono ?_
      rintro e w' ⟨rfl, rfl⟩
      go_wp2_with fail
      go_ret2
      exact ⟨rfl, rfl⟩
    · rw [if_pos ⟨⟨c1, c2⟩, rfl⟩]
      go_enter Tryz.func95, Tryz.ntmps95
      go_wp2_with fail
      refine m1.out.mono ?_
      rintro e w' ⟨rfl, rfl⟩
      go_wp2_with fail
      refine m2.out.mono ?_
      rintro e w' ⟨rfl, rfl⟩
      go_wp2_with fail
      refine m3.out.mono ?_
      rintro e w' ⟨rfl, rfl⟩
      go_wp2_with fail
      go_ret2
      exact ⟨rfl, rfl⟩
  · rw [if_neg (by omega), if_neg (by omega)]
    by_cases hp : p1 = true ∧ p2 = true
    · obtain ⟨rfl, rfl⟩ := hp
      rw [if_pos ⟨⟨c3, c4⟩, rfl, rfl⟩]
      go_enter Tryz.func95, Tryz.ntmps95
      go_wp2_with fail
      refine m1.out.mono ?_
      rintro e w' ⟨rfl, rfl⟩
      go_wp2_with fail
      refine m2.out.mono ?_
      rintro e w' ⟨rfl, rfl⟩
      go_wp2_with fail
      refine m3.out.mono ?_
      rintro e w' ⟨rfl, rfl⟩
      go_wp2_with fail
      go_ret2
      exact ⟨rfl, rfl⟩
    · rw [if_neg (fun h => hp h.2), if_neg (by omega)]
      cases p1 <;> cases p2 <;> simp at hp
      all_goals
        clear hp
        go_enter Tryz.func95, Tryz.ntmps95
        go_wp2_with fail
        refine m1.out.mono ?_
        rintro e w' ⟨rfl, rfl⟩
        go_wp2_with fail
        refine m2.out.mono ?_
        rintro e w' ⟨rfl, rfl⟩
        go_wp2_with fail
        refine m3.out.mono ?_
        rintro e w' ⟨rfl, rfl⟩
        go_wp2_with fail
        go_ret2
        exact ⟨rfl, rfl⟩
  · rw [if_neg (by omega), if_neg (by omega), if_neg (by omega)]
    by_cases hp : p1 = true ∧ p2 = true ∧ p3 = true
    · obtain ⟨rfl, rfl, rfl⟩ := hp
      rw [if_pos ⟨⟨c5, c6⟩, rfl, rfl, rfl⟩]
      go_enter Tryz.func95, Tryz.ntmps95
      go_wp2_with fail
      refine m1.out.mono ?_
      rintro e w' ⟨rfl, rfl⟩
      go_wp2_with fail
      refine m2.out.mono ?_
      rintro e w' ⟨rfl, rfl⟩
      go_wp2_with fail
      refine m3.out.mono ?_
      rintro e w' ⟨rfl, rfl⟩
      go_wp2_with fail
      go_ret2
      exact ⟨rfl, rfl⟩
    · rw [if_neg (fun h => hp h.2)]
      cases p1 <;> cases p2 <;> cases p3 <;> simp at hp
      all_goals
        clear hp
        go_enter Tryz.func95, Tryz.ntmps95
        go_wp2_with fail
        refine m1.out.mono ?_
        rintro e w' ⟨rfl, rfl⟩
        go_wp2_with fail
        refine m2.out.mono ?_
        rintro e w' ⟨rfl, rfl⟩
        go_wp2_with fail
        refine m3.out.mono ?_
        rintro e w' ⟨rfl, rfl⟩
        go_wp2_with fail
        go_ret2
        exact ⟨rfl, rfl⟩
  · rw [if_neg (by omega), if_neg (by omega), if_neg (by omega), if_neg (by omega)]
    go_enter Tryz.func95, Tryz.ntmps95
    go_wp2_with fail
    refine m1.out.mono ?_
    rintro e w' ⟨rfl, rfl⟩
    go_wp2_with fail
    refine m2.out.mono ?_
    rintro e w' ⟨rfl, rfl⟩
    go_wp2_with fail
    refine m3.out.mono ?_
    rintro e w' ⟨rfl, rfl⟩
    go_wp2_with fail
    go_ret2
    exact ⟨rfl, rfl⟩
end Go.Proofs.YtbbholdadgjelaaGreat
/- contract of the document's Runes of a text -/
namespace Go.Proofs.YtbbholdadgjelaaGreat
open Go.RowKit
set_option linter.unusedVariables false
set_option maxRecDepth 20000
def RunesP (s : ByteArray) (w : World) (e : Ending) (w' : World) : Prop :=
  (0 ≤ lenS s ∧ ∃ a c, e = .returned (.tuple #[.slice a (runesS s).length c, .bool true]) ∧ HoldsI .i32 w' a (runesS s).length (intsN (runesS s)) ∧ (a = none → (runesS s).length = 0 ∧ c = 0) ∧ Below w.heap.size w w') ∨
  (lenS s < 0 ∧ e = .returned (.tuple #[.slice none 0 0, .bool false]) ∧ Below w.heap.size w w')
/-- the same, told by its memory -/
def RunesQ (s : ByteArray) (w : World) (e : Ending) (w' : World) : Prop :=
  (0 ≤ lenS s ∧ ∃ a c, e = .returned (.tuple #[.slice a (runesS s).length c, .bool true]) ∧ w'.ownsRow w.heap.size 21 1 (.slice a (runesS s).length c) (runesS s).length (runesV (intsN (runesS s))) ∧ Below w.heap.size w w') ∨
  (lenS s < 0 ∧ e = .returned (.tuple #[.slice none 0 0, .bool false]) ∧ Below w.heap.size w w')
theorem intsN_len (P : List Nat) : (intsN P).length = P.length := by simp [intsN]
theorem one_size (s : ByteArray) (i : Nat) : 0 ≤ (oneV s i).2 ∧ (oneV s i).2 ≤ 4 := by unfold oneV; split <;> (try split) <;> (try split) <;> (try split) <;> simp
theorem runesS_bad {s : ByteArray} {P : List Nat} {pos f : Nat} (hP : runesS s = P ++ runesN s f pos) (hlt : pos < s.size) (hf : s.size ≤ pos + f) (h : (Utf8.decode s pos).1 = 65533) : lenS s < 0 := by
  obtain ⟨g, rfl, hst, _⟩ := runesN_step s f pos hlt hf
  rw [hst, h] at hP
  rw [lenS_bad hP]; omega
set_option maxRecDepth 100000 in
set_option maxHeartbeats 6400000 in
theorem r1runesq_any (s : ByteArray) (w : World) (hs : s.size ≤ 1048576) :
    Calls Tryz.prog 78 #[.string s] w (RunesQ s w) := by
  obtain ⟨i0, hi, hz0, hz1, hz2⟩ := info_parts i32_info
  go_enter Tryz.func78, Tryz.ntmps78
  go_wp2_with fail
  go_loopw [4, 5] (fun lv iv wr => ∃ (pos f : Nat) (P : List Nat), s.size ≤ pos + f ∧ iv = .int .i64 pos ∧ pos ≤ s.size + 4 ∧ Hid (runesS s = P ++ runesN s f pos) ∧ Hid (∀ r ∈ P, r ≠ 65533) ∧ Hid (wr.ownsRow w.heap.size 21 1 lv P.length (runesV (intsN P))) ∧ Hid (Below w.heap.size w wr)) (fun _ iv _ => s.size - (intOf iv).toNat)
  case atStart => exact ⟨0, s.size, [], by omega, rfl, by omega, Lib.hid rfl, Lib.hid (by simp), Lib.hid (World.ownsRow_nil _ _ _ _), Lib.hid (Below.refl _ _)⟩
  case round =>
    obtain ⟨pos, f, P, hf, rfl, hpos, hP, hG, hO, hB⟩ := hrel
    by_cases hlt : pos < s.size
    · obtain ⟨d1, d2⟩ := one_decode s pos hlt
      have hbn := one_size s pos
      have hone := Lib.hid (one_any s pos wr hs hlt)
      obtain ⟨R, hR⟩ : ∃ R, (oneV s pos).1 = R := ⟨_, rfl⟩
      obtain ⟨N, hN⟩ : ∃ R, (oneV s pos).2 = R := ⟨_, rfl⟩
      rw [hR, hN] at d1 d2 hone
      rw [hN] at hbn
      clear hR hN
      have BAD := Lib.hid (fun h => runesS_bad hP.out hlt hf (d1 h))
      have GOOD := Lib.hid d2
      clear d1 d2
      have hgd := Lib.hid (good_any R wr)
      by_cases n0 : N = 0
      · have hneg := Lib.hid (BAD.out (Or.inl n0))
        have y1 : (N == 0) = true := by simp [n0]
        clear n0 hgd GOOD BAD
        go_wp2_with fail
        refine hone.out.mono ?_
        rintro e w' ⟨rfl, rfl⟩
        go_wp2_with fail
        go_ret2
        exact Or.inr ⟨hneg.out, rfl, hB.out⟩
      have y1 : (N == 0) = false := by simpa using n0
      by_cases gd : goodP R
      case neg =>
        have hneg := Lib.hid (BAD.out (Or.inr (Or.inl gd)))
        rw [decide_eq_false gd] at hgd
        clear gd GOOD BAD
        go_wp2_with fail
        refine hone.out.mono ?_
        rintro e w' ⟨rfl, rfl⟩
        go_wp2_with fail
        refine hgd.out.mono ?_
        rintro e w' ⟨rfl, rfl⟩
        go_wp2_with fail
        go_ret2
        exact Or.inr ⟨hneg.out, rfl, hB.out⟩
      rw [decide_eq_true gd] at hgd
      by_cases c3 : N = 3 ∧ R < 2048
      · have hneg := Lib.hid (BAD.out (Or.inr (Or.inr (Or.inl c3))))
        obtain ⟨c3, c4⟩ := c3
        subst c3
        clear gd GOOD BAD
        go_wp2_with fail
        refine hone.out.mono ?_
        rintro e w' ⟨rfl, rfl⟩
        go_wp2_with fail
        refine hgd.out.mono ?_
        rintro e w' ⟨rfl, rfl⟩
        go_wp2_with fail
        go_ret2
        exact Or.inr ⟨hneg.out, rfl, hB.out⟩
      by_cases c5 : N = 4 ∧ R < 65536
      · have hneg := Lib.hid (BAD.out (Or.inr (Or.inr (Or.inr c5))))
        obtain ⟨c5, c6⟩ := c5
        subst c5
        clear gd GOOD BAD
        go_wp2_with fail
        refine hone.out.mono ?_
        rintro e w' ⟨rfl, rfl⟩
        go_wp2_with fail
        refine hgd.out.mono ?_
        rintro e w' ⟨rfl, rfl⟩
        go_wp2_with fail
        go_ret2
        exact Or.inr ⟨hneg.out, rfl, hB.out⟩
      have hok := GOOD.out (fun h => by rcases h with h | h | h | h; exact n0 h; exact h gd; exact c3 h; exact c5 h)
      obtain ⟨g, rfl, hst, hg⟩ := runesN_step s f pos hlt hf
      have hwd := decode_width s pos hlt
      obtain ⟨r, hr⟩ : ∃ r, (Utf8.decode s pos).1 = r := ⟨_, rfl⟩
      obtain ⟨wd, hwd2⟩ : ∃ wd, (Utf8.decode s pos).2 = wd := ⟨_, rfl⟩
      rw [hr, hwd2] at hok hst; rw [hwd2] at hg hwd
      obtain ⟨hRr, rfl, hne⟩ := hok
      have HRr := Lib.hid hRr
      have hlen : P.length < s.size := by
        have h1 := congrArg List.length hP.out
        rw [hst, List.length_append, List.length_cons] at h1
        have := runesS_le s
        omega
      have HST := Lib.hid hst; have NE := Lib.hid hne
      have hN : wd = 1 ∨ wd = 2 ∨ wd = 3 ∨ wd = 4 := by omega
      have c3' : wd = 3 → (2048 : Int) ≤ R := by omega
      have c5' : wd = 4 → (65536 : Int) ≤ R := by omega
      clear hst hr hwd2 hne hRr GOOD BAD gd n0 c3 c5 y1
      rcases hN with hN | hN | hN | hN
      · clear c3' c5'
        subst hN
        go_wp2_with fail
        refine hone.out.mono ?_
        rintro e w' ⟨rfl, rfl⟩
        go_wp2_with fail
        refine hgd.out.mono ?_
        rintro e w' ⟨rfl, rfl⟩
        go_wp2_with (at_builtin; refine wpList_append_any rfl (.tmp 41) (.tmp 43) 118 rfl w.heap.size 21 i0 (.int .i32 0) 1 4 Tryz.underlying118 hi hz0 hz1 hz2 rfl (by decide) _ P.length _ rfl (hO.out.alloc _) _ 1 1 _ rfl (some_none _) rfl (one_new _ _ _ _) (one_int _ _) (by unfold maxLen; omega) (by omega) (by have := hB.out.size; simp; omega) ?_; intro a3 c3 w3 hown3 hb3 hnil3)
        rw [HRr.out, ← runesV_snoc] at hown3
        have O3 := Lib.hid hown3
        have B3 := Lib.hid ((hB.out.alloc hB.out.size _).trans hb3)
        clear hown3 hb3 hnil3 hO hB
        go_roundw
        case rel => exact ⟨pos + _, g, P ++ [r], hg, by go_num, by omega, Lib.hid (by rw [hP.out, HST.out]; simp), Lib.hid (by intro x hx; rcases List.mem_append.1 hx with hx | hx; exact hG.out x hx; simp at hx; rw [hx]; exact NE.out), by rw [List.length_append]; exact O3, B3⟩
        case measure => simp [intOf]; omega
      · clear c3' c5'
        subst hN
        go_wp2_with fail
        refine hone.out.mono ?_
        rintro e w' ⟨rfl, rfl⟩
        go_wp2_with fail
        refine hgd.out.mono ?_
        rintro e w' ⟨rfl, rfl⟩
        go_wp2_with (at_builtin; refine wpList_append_any rfl (.tmp 41) (.tmp 43) 118 rfl w.heap.size 21 i0 (.int .i32 0) 1 4 Tryz.underlying118 hi hz0 hz1 hz2 rfl (by decide) _ P.length _ rfl (hO.out.alloc _) _ 1 1 _ rfl (some_none _) rfl (one_new _ _ _ _) (one_int _ _) (by unfold maxLen; omega) (by omega) (by have := hB.out.size; simp; omega) ?_; intro a3 c3 w3 hown3 hb3 hnil3)
        rw [HRr.out, ← runesV_snoc] at hown3
        have O3 := Lib.hid hown3
        have B3 := Lib.hid ((hB.out.alloc hB.out.size _).trans hb3)
        clear hown3 hb3 hnil3 hO hB
        go_roundw
        case rel => exact ⟨pos + _, g, P ++ [r], hg, by go_num, by omega, Lib.hid (by rw [hP.out, HST.out]; simp), Lib.hid (by intro x hx; rcases List.mem_append.1 hx with hx | hx; exact hG.out x hx; simp at hx; rw [hx]; exact NE.out), by rw [List.length_append]; exact O3, B3⟩
        case measure => simp [intOf]; omega
      · have c6 := c3' hN
        clear c3' c5'
        subst hN
        go_wp2_with fail
        refine hone.out.mono ?_
        rintro e w' ⟨rfl, rfl⟩
        go_wp2_with fail
        refine hgd.out.mono ?_
        rintro e w' ⟨rfl, rfl⟩
        go_wp2_with (at_builtin; refine wpList_append_any rfl (.tmp 41) (.tmp 43) 118 rfl w.heap.size 21 i0 (.int .i32 0) 1 4 Tryz.underlying118 hi hz0 hz1 hz2 rfl (by decide) _ P.length _ rfl (hO.out.alloc _) _ 1 1 _ rfl (some_none _) rfl (one_new _ _ _ _) (one_int _ _) (by unfold maxLen; omega) (by omega) (by have := hB.out.size; simp; omega) ?_; intro a3 c3 w3 hown3 hb3 hnil3)
        rw [HRr.out, ← runesV_snoc] at hown3
        have O3 := Lib.hid hown3
        have B3 := Lib.hid ((hB.out.alloc hB.out.size _).trans hb3)
        clear hown3 hb3 hnil3 hO hB
        go_roundw
        case rel => exact ⟨pos + _, g, P ++ [r], hg, by go_num, by omega, Lib.hid (by rw [hP.out, HST.out]; simp), Lib.hid (by intro x hx; rcases List.mem_append.1 hx with hx | hx; exact hG.out x hx; simp at hx; rw [hx]; exact NE.out), by rw [List.length_append]; exact O3, B3⟩
        case measure => simp [intOf]; omega
      · have c6 := c5' hN
        clear c3' c5'
        subst hN
        go_wp2_with fail
        refine hone.out.mono ?_
        rintro e w' ⟨rfl, rfl⟩
        go_wp2_with fail
        refine hgd.out.mono ?_
        rintro e w' ⟨rfl, rfl⟩
        go_wp2_with (at_builtin; refine wpList_append_any rfl (.tmp 41) (.tmp 43) 118 rfl w.heap.size 21 i0 (.int .i32 0) 1 4 Tryz.underlying118 hi hz0 hz1 hz2 rfl (by decide) _ P.length _ rfl (hO.out.alloc _) _ 1 1 _ rfl (some_none _) rfl (one_new _ _ _ _) (one_int _ _) (by unfold maxLen; omega) (by omega) (by have := hB.out.size; simp; omega) ?_; intro a3 c3 w3 hown3 hb3 hnil3)
        rw [HRr.out, ← runesV_snoc] at hown3
        have O3 := Lib.hid hown3
        have B3 := Lib.hid ((hB.out.alloc hB.out.size _).trans hb3)
        clear hown3 hb3 hnil3 hO hB
        go_roundw
        case rel => exact ⟨pos + _, g, P ++ [r], hg, by go_num, by omega, Lib.hid (by rw [hP.out, HST.out]; simp), Lib.hid (by intro x hx; rcases List.mem_append.1 hx with hx | hx; exact hG.out x hx; simp at hx; rw [hx]; exact NE.out), by rw [List.length_append]; exact O3, B3⟩
        case measure => simp [intOf]; omega
    · have he : runesS s = P := by rw [hP.out, runesN_end s f pos hlt, List.append_nil]
      have HE := Lib.hid he
      clear he
      obtain ⟨a4, c4, rfl⟩ : ∃ a4 c4, u4 = .slice a4 P.length c4 := by
        rcases hO.out.2 with ⟨h, h0⟩ | ⟨g', c', cur, h, _⟩
        · exact ⟨none, 0, by rw [h, h0]⟩
        · exact ⟨_, c', h⟩
      have hgood := lenS_good (s := s) (by rw [HE.out]; exact hG.out)
      have HG2 := Lib.hid hgood
      clear hgood
      go_wp2_with fail
      go_ret2
      exact Or.inl ⟨by rw [HG2.out]; omega, a4, c4, by rw [HE.out]; rfl, by rw [HE.out]; exact hO.out, hB.out⟩
theorem holdsI_own {w : World} {B : Nat} {a : Option Addr} {c : Nat} {P : List Nat} (h : w.ownsRow B 21 1 (.slice a P.length c) P.length (runesV (intsN P))) : HoldsI .i32 w a P.length (intsN P) := by
  have hv := owns_holds h
  refine ⟨intsN_len P, fun h0 => ?_⟩
  obtain ⟨b, o, ha, hc⟩ := hv.2 h0
  exact ⟨b, o, ha, fun i hi => by rw [hc i hi, runesV, getD_map_int .i32 _ i (by rw [intsN_len]; exact hi)]⟩
theorem r1runes_any (s : ByteArray) (w : World) (hs : s.size ≤ 1048576) :
    Calls Tryz.prog 78 #[.string s] w (RunesP s w) := by
  refine (r1runesq_any s w hs).mono ?_
  rintro e w' (⟨h1, a, c, rfl, h2, h3⟩ | h)
  · exact Or.inl ⟨h1, a, c, rfl, holdsI_own h2, (owns_none h2).1, h3⟩
  · exact Or.inr h
end Go.Proofs.YtbbholdadgjelaaGreat
/- contract of the document's Len -/
namespace Go.Proofs.YtbbholdadgjelaaGreat
open Go.RowKit
set_option linter.unusedVariables false
set_option maxRecDepth 20000
set_option maxHeartbeats 800000 in
theorem rlen_any (s : ByteArray) (w : World) (hs : s.size ≤ 1048576) :
    Calls Tryz.prog 61 #[.string s] w fun e w' => e = .returned (.int .i64 (lenS s)) ∧ Below w.heap.size w w' := by
  have hr := Lib.hid (r1runes_any s w hs)
  by_cases hg : 0 ≤ lenS s
  · have hL := (lenS_pos hg).2
    have HL := Lib.hid hL; have HG := Lib.hid hg
    clear hg hL
    obtain ⟨n, hn⟩ : ∃ n, (runesS s).length = n := ⟨_, rfl⟩
    have hle := runesS_le s
    unfold RunesP at hr
    rw [hn] at hr hle
    rw [hn] at HL
    clear hn
    go_enter Tryz.func61, Tryz.ntmps61
    go_wp2_with fail
    refine hr.out.mono ?_
    rintro e w1 (⟨h1, a, c, rfl, h2, h3, h4⟩ | ⟨h1, _⟩)
    rotate_left
    · exact absurd HG.out (by omega)
    have H4 := Lib.hid h4
    clear h1 h2 h3 h4
    go_wp2_with fail
    go_ret
    exact ⟨ret_int HL.out.symm, H4.out⟩
  · have hb : lenS s = -1 := by have := (lenS_bd s).1; omega
    have HB := Lib.hid hb; have HG := Lib.hid hg
    clear hg hb
    go_enter Tryz.func61, Tryz.ntmps61
    go_wp2_with fail
    refine hr.out.mono ?_
    rintro e w1 (⟨h1, _⟩ | ⟨h1, rfl, h2⟩)
    · exact absurd h1 (by have := HG.out; omega)
    clear h1
    go_wp2_with fail
    go_ret
    exact ⟨ret_int HB.out.symm, h2⟩
end Go.Proofs.YtbbholdadgjelaaGreat
/- contract of the document's Word -/
namespace Go.Proofs.YtbbholdadgjelaaGreat
open Go.RowKit
set_option linter.unusedVariables false
set_option maxRecDepth 20000
theorem rword_any (s : ByteArray) (w : World) (hs : s.size ≤ 1048576) :
    Calls Tryz.prog 59 #[.string s] w fun e w' => e = .returned (.bool (decide (1 ≤ lenS s ∧ lenS s ≤ 12))) ∧ Below w.heap.size w w' := by
  have h1 := Lib.hid (fun w => rlen_any s w hs)
  obtain ⟨n, hn⟩ : ∃ n, lenS s = n := ⟨_, rfl⟩
  rw [hn]
  simp only [hn] at h1
  clear hn
  by_cases h : 1 ≤ n
  · rw [show decide (1 ≤ n ∧ n ≤ 12) = decide (n ≤ 12) by simp [h]]
    go_enter Tryz.func59, Tryz.ntmps59
    go_wp2_with fail
    refine (h1.out _).mono ?_
    rintro e w1 ⟨rfl, hb⟩
    go_wp2_with fail
    refine (h1.out _).mono ?_
    rintro e w2 ⟨rfl, hb2⟩
    go_wp2_with fail
    go_ret
    exact ⟨rfl, hb.trans (hb2.mono hb.size)⟩
  · rw [show decide (1 ≤ n ∧ n ≤ 12) = false by simp [h]]
    go_enter Tryz.func59, Tryz.ntmps59
    go_wp2_with fail
    refine (h1.out _).mono ?_
    rintro e w1 ⟨rfl, hb⟩
    go_wp2_with fail
    go_ret
    exact ⟨rfl, hb⟩
end Go.Proofs.YtbbholdadgjelaaGreat
/- contract of the document's Good (lists) -/
namespace Go.Proofs.YtbbholdadgjelaaGreat
open Go.RowKit
set_option linter.unusedVariables false
set_option maxRecDepth 20000
theorem rword_bool {w : World} (s : Tx) (b : Bool) (hs : s.size ≤ 1048576) (hb : decide (wordP s) = b) :
    Calls Tryz.prog 59 #[.string s] w fun e w' => e = .returned (.bool b) ∧ Below w.heap.size w w' := by subst hb; exact rword_any s w hs
set_option maxHeartbeats 1600000 in
theorem rgood_any (a : Option Addr) (n cap : Nat) (ts : List Tx) (w : World) (hh : HoldsT w a n ts) (hn : n ≤ 9223372036854775807) (hsz : ∀ t ∈ ts, t.size ≤ 1048576) :
    Calls Tryz.prog 44 #[.slice a n cap] w fun e w' => e = .returned (.int .i64 (goodV ts)) ∧ Below w.heap.size w w' := by
  have hl := hh.len
  by_cases h60 : n ≤ 60
  case neg =>
    rw [goodV_long (by omega)]
    go_enter Tryz.func44, Tryz.ntmps44
    go_wp2_with fail
    go_ret
    exact ⟨rfl, Below.refl _ _⟩
  go_enter Tryz.func44, Tryz.ntmps44
  go_wp2_with fail
  go_loopw [3] (fun iv wr => ∃ j : Nat, j ≤ n ∧ iv = .int .i64 j ∧ Hid (∀ t ∈ ts.take j, wordP t) ∧ Hid (Below w.heap.size w wr)) (fun iv _ => n - (intOf iv).toNat)
  case atStart => exact ⟨0, by omega, rfl, Lib.hid (by simp), Lib.hid (Below.refl _ _)⟩
  case round =>
    obtain ⟨j, hj, rfl, hS, hB⟩ := hrel
    by_cases hlt : j < n
    · obtain ⟨b, o, rfl, hc⟩ := (hh.below hB.out).at (by omega)
      have e1 := hc j hlt
      have hmem := getD_memT ts j (by omega)
      have htk := take_succ_getD ts ByteArray.empty j (by omega)
      obtain ⟨x, hx⟩ : ∃ x, ts.getD j ByteArray.empty = x := ⟨_, rfl⟩
      rw [hx] at e1 hmem htk
      have HX := Lib.hid (hsz x hmem)
      have HM := Lib.hid hmem; have HT := Lib.hid htk
      clear hx hmem htk hc
      by_cases hw : wordP x
      · have hb := decide_eq_true hw
        have HW := Lib.hid hw; have HD := Lib.hid hb
        clear hw hb
        go_wp2_with fail
        refine (rword_bool x true HX.out HD.out).mono ?_
        rintro e w2 ⟨rfl, hb2⟩
        go_wp2_with fail
        go_roundw
        case rel => exact ⟨j + 1, by omega, by go_num, Lib.hid (by rw [HT.out]; intro z hz; rcases List.mem_append.1 hz with hz | hz; exact hS.out z hz; simp at hz; rw [hz]; exact HW.out), Lib.hid (hB.out.trans (hb2.mono hB.out.size))⟩
        case measure => simp [intOf]; omega
      · have hb := decide_eq_false hw
        have hg := goodV_word (by omega) x HM.out hw
        have HD := Lib.hid hb; have HG := Lib.hid hg
        clear hw hb hg
        go_wp2_with fail
        refine (rword_bool x false HX.out HD.out).mono ?_
        rintro e w2 ⟨rfl, hb2⟩
        go_wp2_with fail
        go_ret
        exact ⟨ret_int HG.out.symm, hB.out.trans (hb2.mono hB.out.size)⟩
    · have hjn : ts.take j = ts := List.take_of_length_le (by omega)
      have hwd := hS.out
      rw [hjn] at hwd
      have HW := Lib.hid hwd
      have hB1 := hB
      clear hjn hwd hS hB
      go_wp2_with fail
      go_loopw [4] (fun iv wr2 => ∃ i : Nat, 1 ≤ i ∧ i ≤ n + 1 ∧ iv = .int .i64 i ∧ Hid (∀ k, k + 1 < i → k + 1 < n → cmpS (ts.getD k ByteArray.empty) (ts.getD (k + 1) ByteArray.empty) < 0) ∧ Hid (Below w.heap.size w wr2)) (fun iv _ => n + 1 - (intOf iv).toNat)
      case atStart => exact ⟨1, by omega, by omega, rfl, Lib.hid (fun k h1 => by omega), hB1⟩
      case round =>
        obtain ⟨i, hi1, hi2, rfl, hS, hB⟩ := hrel
        by_cases hlt2 : i < n
        · obtain ⟨b, o, rfl, hc⟩ := (hh.below hB.out).at (by omega)
          have e1 := hc i hlt2
          have e2 := hc (i - 1) (by omega)
          have hci := hS.out
          obtain ⟨q, rfl⟩ : ∃ q, i = q + 1 := ⟨i - 1, by omega⟩
          simp only [Nat.add_sub_cancel] at e2
          obtain ⟨x, hx⟩ : ∃ x, ts.getD q ByteArray.empty = x := ⟨_, rfl⟩
          obtain ⟨y, hy⟩ : ∃ y, ts.getD (q + 1) ByteArray.empty = y := ⟨_, rfl⟩
          rw [hx] at e2; rw [hy] at e1
          have HX := Lib.hid hx; have HY := Lib.hid hy
          clear hx hy hc hci
          have hsx := hsz x (by rw [← HX.out]; exact getD_memT ts q (by omega))
          have hsy := hsz y (by rw [← HY.out]; exact getD_memT ts (q + 1) (by omega))
          have hcmp := Lib.hid (fun w => rcompare_quiet x y w hsx hsy)
          have hbd := cmpS_bd x y
          obtain ⟨v, hv⟩ : ∃ v, cmpS x y = v := ⟨_, rfl⟩
          rw [hv] at hbd
          simp only [hv] at hcmp
          have HV := Lib.hid hv
          clear hv
          have hr : IntKind.i64.wrap (((q + 1 : Nat) : Int) - 1) = (q : Int) := by rw [IntWalk.i64_in _ (by omega)]; omega
          have hr2 : ((q + 1 : Nat) : Int) - 1 = (q : Int) := by omega
          have g1 : (q : Int) < (n : Int) := by omega
          have g2 : ((q + 1 : Nat) : Int) < (n : Int) := by omega
          by_cases hvn : v < 0
          · go_upto_region 11 with fail
            go_quiet ((go_at_call 60; exact Calls.quiet_of (hcmp.out _)))
            go_wp2_with fail
            go_roundw
            case rel =>
              refine ⟨q + 1 + 1, by omega, by omega, by go_num, Lib.hid (fun k h1 h2 => ?_), Lib.hid (hB.out.trans ((below_drewN _ _).mono hB.out.size))⟩
              by_cases hk : k = q
              · subst hk; rw [HX.out, HY.out, HV.out]; exact hvn
              · exact hS.out k (by omega) h2
            case measure => simp [intOf]; omega
          · have hg := goodV_sort (by omega) HW.out (fun hs => hvn (by have := (adj_iff ts).1 hs q (by omega); rw [HX.out, HY.out, HV.out] at this; exact this))
            have HG := Lib.hid hg
            clear hg
            go_upto_region 11 with fail
            go_quiet ((go_at_call 60; exact Calls.quiet_of (hcmp.out _)))
            go_wp2_with fail
            go_ret
            exact ⟨ret_int HG.out.symm, hB.out.trans ((below_drewN _ _).mono hB.out.size)⟩
        · have hg := goodV_good (by omega) HW.out ((adj_iff ts).2 fun k hk => hS.out k (by omega) (by omega))
          have HG := Lib.hid hg
          clear hg
          go_wp2_with fail
          go_ret
          exact ⟨ret_int HG.out.symm, hB.out⟩
end Go.Proofs.YtbbholdadgjelaaGreat
/- the document's Less and Good (keys) -/
namespace Go.Proofs.YtbbholdadgjelaaGreat
open Go.RowKit
set_option linter.unusedVariables false
set_option maxRecDepth 20000
theorem rcompare_lit (x y : Tx) (v : Int) (w : World) (hx : x.size ≤ 1048576) (hy : y.size ≤ 1048576) (hv : cmpS x y = v) :
    Calls Tryz.prog 60 #[.string x, .string y] w fun e w' => e = .returned (.int .i64 v) ∧ Below w.heap.size w w' := by subst hv; exact rcompare_any x y w hx hy
theorem rless_any (a b : KV) (w : World) (ha : a.2.size ≤ 1048576) (hb : b.2.size ≤ 1048576) :
    Calls Tryz.prog 62 #[keyV a, keyV b] w fun e w' => e = .returned (.bool (lessK a b)) ∧ Below w.heap.size w w' := by
  obtain ⟨c, hc⟩ : ∃ c, lessK a b = c := ⟨_, rfl⟩
  rw [hc]
  have hc2 : c = true ↔ (a.1 < b.1 ∨ (a.1 = b.1 ∧ cmpS a.2 b.2 < 0)) := by rw [← ordK_lt, ← hc]; exact decide_eq_true_iff
  clear hc
  obtain ⟨a1, a2⟩ := a
  obtain ⟨b1, b2⟩ := b
  simp only at hc2 ha hb
  unfold keyV
  simp only
  have BB := Lib.hid ((Below.refl w.heap.size w).alloc (Nat.le_refl _) (.cells #[.int .i64 a1, .string a2] 57) |>.alloc (by simp) (.cells #[.int .i64 b1, .string b2] 57))
  rcases Int.lt_trichotomy a1 b1 with h | h | h
  · obtain rfl : c = true := hc2.2 (Or.inl h)
    have g1 : decide (a1 < b1) = true := decide_eq_true h
    clear hc2
    go_enter Tryz.func62, Tryz.ntmps62
    go_wp2_with fail
    go_ret
    exact ⟨rfl, BB.out⟩
  · subst h
    have g1 : decide (a1 < a1) = false := by simp
    have g2 : (a1 == a1) = true := by simp
    obtain ⟨v, hv⟩ : ∃ v, cmpS a2 b2 = v := ⟨_, rfl⟩
    rw [hv] at hc2
    have HV := Lib.hid hv
    have hcv : c = decide (v < 0) := by
      cases c
      · symm; rw [decide_eq_false_iff_not]; intro h; exact absurd (hc2.2 (Or.inr ⟨rfl, h⟩)) (by simp)
      · symm; rw [decide_eq_true_iff]; rcases hc2.1 rfl with h | h; omega; exact h.2
    subst hcv
    clear hc2 hv
    go_enter Tryz.func62, Tryz.ntmps62
    go_wp2_with fail
    refine (rcompare_lit a2 b2 v _ ha hb HV.out).mono ?_
    rintro e w' ⟨rfl, hb2⟩
    go_wp2_with fail
    go_ret
    exact ⟨rfl, BB.out.trans (hb2.mono BB.out.size)⟩
  · obtain rfl : c = false := by
      cases c
      · rfl
      · rcases hc2.1 rfl with h2 | h2 <;> omega
    have g1 : decide (a1 < b1) = false := by rw [decide_eq_false_iff_not]; omega
    have g2 : (a1 == b1) = false := by rw [beq_eq_false_iff_ne]; omega
    clear hc2
    go_enter Tryz.func62, Tryz.ntmps62
    go_wp2_with fail
    go_ret
    exact ⟨rfl, BB.out⟩
theorem rless_lit (a b : KV) (c : Bool) (hc : lessK a b = c) (w : World) (ha : a.2.size ≤ 1048576) (hb : b.2.size ≤ 1048576) :
    Calls Tryz.prog 62 #[keyV a, keyV b] w fun e w' => e = .returned (.bool c) ∧ Below w.heap.size w w' := by subst hc; exact rless_any a b w ha hb
theorem rlen_lit (s : Tx) (v : Int) (w : World) (hs : s.size ≤ 1048576) (hv : lenS s = v) :
    Calls Tryz.prog 61 #[.string s] w fun e w' => e = .returned (.int .i64 v) ∧ Below w.heap.size w w' := by subst hv; exact rlen_any s w hs
set_option maxHeartbeats 3200000 in
theorem rgoodK_any (a : Option Addr) (n cap : Nat) (ks : List KV) (w : World) (hh : HoldsK w a n ks) (hn : n ≤ 9223372036854775807) (hk : ∀ k ∈ ks, k.2.size ≤ 1048576) :
    Calls Tryz.prog 45 #[.slice a n cap] w fun e w' => e = .returned (.int .i64 (goodK ks)) ∧ Below w.heap.size w w' := by
  have hl := hh.len
  by_cases h5 : n ≤ 5
  case neg =>
    rw [goodK_long (by omega)]
    go_enter Tryz.func45, Tryz.ntmps45
    go_wp2_with fail
    go_ret
    exact ⟨rfl, Below.refl _ _⟩
  go_enter Tryz.func45, Tryz.ntmps45
  go_wp2_with fail
  go_loopw [3] (fun iv wr => ∃ j : Nat, j ≤ n ∧ iv = .int .i64 j ∧ Hid (∀ t ∈ ks.take j, mayK t) ∧ Hid (Below w.heap.size w wr)) (fun iv _ => n - (intOf iv).toNat)
  case atStart => exact ⟨0, by omega, rfl, Lib.hid (by simp), Lib.hid (Below.refl _ _)⟩
  case round =>
    obtain ⟨j, hj, rfl, hS, hB⟩ := hrel
    by_cases hlt : j < n
    · have hh1 := Lib.hid (hh.below hB.out)
      obtain ⟨b, o, rfl, hc⟩ := hh1.out.at (by omega)
      obtain ⟨e1, e2⟩ := hc j hlt
      have hmem := getD_memK ks j (by omega)
      have htk := take_succ_getD ks k0 j (by omega)
      obtain ⟨x, hx⟩ : ∃ x, ks.getD j k0 = x := ⟨_, rfl⟩
      rw [hx] at e1 e2 hmem htk
      have HX := Lib.hid (hk x hmem); have HM := Lib.hid hmem; have HT := Lib.hid htk
      have C1 := Lib.hid (fun (w3 : World) (hb : Below wr.heap.size wr w3) => show w3.cell? ⟨b, o + j * 2, none⟩ = some (.int .i64 x.1) from (hb.cell (p := ⟨b, o + j * 2, none⟩) (lt_of_cell e1)).trans e1)
      clear hx hmem htk hc
      obtain ⟨l, hll⟩ : ∃ l, lenS x.2 = l := ⟨_, rfl⟩
      have HL := Lib.hid hll
      have hmay : mayK x ↔ (1 ≤ x.1 ∧ x.1 ≤ 12 ∧ 0 ≤ l ∧ l ≤ 12) := by rw [← hll]; exact Iff.rfl
      obtain ⟨x1, hx1⟩ : ∃ z, x.1 = z := ⟨_, rfl⟩
      obtain ⟨x2, hx2⟩ : ∃ z, x.2 = z := ⟨_, rfl⟩
      rw [hx1] at e1 hmay; rw [hx2] at e2 HL HX
      simp only [hx1] at C1
      clear hll hx1 hx2
      have hcase : (x1 < 1 ∧ ¬ mayK x) ∨ (1 ≤ x1 ∧ 12 < x1 ∧ ¬ mayK x) ∨ (1 ≤ x1 ∧ x1 ≤ 12 ∧ l < 0 ∧ ¬ mayK x) ∨ (1 ≤ x1 ∧ x1 ≤ 12 ∧ 0 ≤ l ∧ 12 < l ∧ ¬ mayK x) ∨ (1 ≤ x1 ∧ x1 ≤ 12 ∧ 0 ≤ l ∧ l ≤ 12 ∧ mayK x) := by
        rw [hmay]; omega
      clear hmay
      have bs := hB.out.size
      rcases hcase with ⟨h, hw⟩ | ⟨h, h2, hw⟩ | ⟨h, h2, h3, hw⟩ | ⟨h, h2, h3, h4, hw⟩ | ⟨h, h2, h3, h4, hw⟩
      rotate_left 4
      · have HW := Lib.hid hw
        have x1' : decide (x1 < 1) = false := by rw [decide_eq_false_iff_not]; omega
        have x2' : decide (x1 > 12) = false := by rw [decide_eq_false_iff_not]; omega
        have x3' : decide (l < 0) = false := by rw [decide_eq_false_iff_not]; omega
        have x4' : decide (l > 12) = false := by rw [decide_eq_false_iff_not]; omega
        clear hw
        go_wp2_with fail
        refine (rlen_lit x2 l wr HX.out HL.out).mono ?_
        rintro e w2 ⟨rfl, hb2⟩
        have e3 := C1.out w2 hb2
        go_wp2_with fail
        go_roundw
        case rel => exact ⟨j + 1, by omega, by go_num, Lib.hid (by rw [HT.out]; intro z hz; rcases List.mem_append.1 hz with hz | hz; exact hS.out z hz; simp at hz; rw [hz]; exact HW.out), Lib.hid (hB.out.trans (hb2.mono bs))⟩
        case measure => simp [intOf]; omega
      all_goals
        have HG := Lib.hid (goodK_bad (by omega) x HM.out hw)
        clear hw
        first
          | have x1' : decide (x1 < 1) = true := by rw [decide_eq_true_iff]; omega
          | have x1' : decide (x1 < 1) = false := by rw [decide_eq_false_iff_not]; omega
        first
          | have x2' : decide (x1 > 12) = true := by rw [decide_eq_true_iff]; omega
          | have x2' : decide (x1 > 12) = false := by rw [decide_eq_false_iff_not]; omega
        first
          | have x3' : decide (l < 0) = true := by rw [decide_eq_true_iff]; omega
          | have x3' : decide (l < 0) = false := by rw [decide_eq_false_iff_not]; omega
          | skip
        first
          | have x4' : decide (l > 12) = true := by rw [decide_eq_true_iff]; omega
          | have x4' : decide (l > 12) = false := by rw [decide_eq_false_iff_not]; omega
          | skip
        go_wp2_with fail
        refine (rlen_lit x2 l wr HX.out HL.out).mono ?_
        rintro e w2 ⟨rfl, hb2⟩
        have e3 := C1.out w2 hb2
        go_wp2_with fail
        go_ret
        exact ⟨ret_int HG.out.symm, hB.out.trans (hb2.mono bs)⟩
    · have hjn : ks.take j = ks := List.take_of_length_le (by omega)
      have hwd := hS.out
      rw [hjn] at hwd
      have HW := Lib.hid hwd
      have hB1 := hB
      clear hjn hwd hS hB
      go_wp2_with fail
      go_loopw [5] (fun iv wr2 => ∃ i : Nat, 1 ≤ i ∧ i ≤ n + 1 ∧ iv = .int .i64 i ∧ Hid (∀ k, k + 1 < i → k + 1 < n → ordK (ks.getD k k0) (ks.getD (k + 1) k0) < 0) ∧ Hid (Below w.heap.size w wr2)) (fun iv _ => n + 1 - (intOf iv).toNat)
      case atStart => exact ⟨1, by omega, by omega, rfl, Lib.hid (fun k h1 => by omega), hB1⟩
      case round =>
        obtain ⟨i, hi1, hi2, rfl, hS, hB⟩ := hrel
        by_cases hlt2 : i < n
        · obtain ⟨b, o, rfl, hc⟩ := (hh.below hB.out).at (by omega)
          obtain ⟨q, hq⟩ : ∃ q, q = i - 1 := ⟨_, rfl⟩
          have hqi : q + 1 = i := by omega
          obtain ⟨e3, e4⟩ := hc i hlt2
          obtain ⟨e1, e2⟩ := hc q (by omega)
          have s1 := hk _ (getD_memK ks q (by omega))
          have s2 := hk _ (getD_memK ks i (by omega))
          obtain ⟨x, hx⟩ : ∃ x, ks.getD q k0 = x := ⟨_, rfl⟩
          obtain ⟨y, hy⟩ : ∃ y, ks.getD i k0 = y := ⟨_, rfl⟩
          rw [hx] at e1 e2 s1; rw [hy] at e3 e4 s2
          have HX := Lib.hid hx; have HY := Lib.hid hy; have HQ := Lib.hid hqi
          have T := Lib.hid (show Two4 wr b (o + q * 2) (o + i * 2) x y wr from ⟨Below.refl _ _, e1, e2, e3, e4⟩)
          have hr : IntKind.i64.wrap ((i : Int) - 1) = (q : Int) := by rw [IntWalk.i64_in _ (by omega)]; omega
          have g1 : (0 : Int) ≤ (q : Int) := by omega
          have g2 : (q : Int) < (n : Int) := by omega
          have g3 : (0 : Int) ≤ (i : Int) := by omega
          have g4 : (i : Int) < (n : Int) := by omega
          have bs := hB.out.size
          clear hx hy hc hq hqi e1 e2 e3 e4
          by_cases hvn : ordK x y < 0
          · have C := Lib.hid (fun w => rless_lit x y true (decide_eq_true hvn) w s1 s2)
            unfold keyV at C
            have HV := Lib.hid hvn
            clear hvn
            go_upto_region 12 with fail
            go_region_held3 (fun w' => Below wr.heap.size wr w' ∧ w'.cell? ⟨b, o + q * 2, none⟩ = some (.int .i64 x.1) ∧ w'.cell? ⟨b, o + q * 2 + 1, none⟩ = some (.string x.2) ∧ w'.cell? ⟨b, o + i * 2, none⟩ = some (.int .i64 y.1) ∧ w'.cell? ⟨b, o + i * 2 + 1, none⟩ = some (.string y.2))
              (first | assumption | exact two4_carry T.out (below_drewN wr _) | exact two4_carry T.out (Below.refl _ _).drew | exact two4_carry (by assumption) (by assumption))
              (first | (go_at_call 62; refine (C.out _).mono ?_; rintro e w' ⟨rfl, hb⟩))
            rename_i T5
            obtain ⟨hb5, -⟩ := T5
            go_wp2_with fail
            go_roundw
            case rel =>
              refine ⟨i + 1, by omega, by omega, by go_num, Lib.hid (fun k h1 h2 => ?_), Lib.hid (hB.out.trans (hb5.mono bs))⟩
              by_cases hk2 : k = q
              · subst hk2; rw [HX.out, HQ.out, HY.out]; exact HV.out
              · exact hS.out k (by have := HQ.out; omega) h2
            case measure => simp [intOf]; omega
          · have C := Lib.hid (fun w => rless_lit x y false (decide_eq_false hvn) w s1 s2)
            unfold keyV at C
            have hg := goodK_sort (by omega) HW.out (fun hs => hvn (by have := (adjK_iff ks).1 hs q (by have := HQ.out; omega); rw [HX.out, HQ.out, HY.out] at this; exact this))
            have HG := Lib.hid hg
            clear hg hvn
            go_upto_region 12 with fail
            go_region_held3 (fun w' => Below wr.heap.size wr w' ∧ w'.cell? ⟨b, o + q * 2, none⟩ = some (.int .i64 x.1) ∧ w'.cell? ⟨b, o + q * 2 + 1, none⟩ = some (.string x.2) ∧ w'.cell? ⟨b, o + i * 2, none⟩ = some (.int .i64 y.1) ∧ w'.cell? ⟨b, o + i * 2 + 1, none⟩ = some (.string y.2))
              (first | assumption | exact two4_carry T.out (below_drewN wr _) | exact two4_carry T.out (Below.refl _ _).drew | exact two4_carry (by assumption) (by assumption))
              (first | (go_at_call 62; refine (C.out _).mono ?_; rintro e w' ⟨rfl, hb⟩))
            rename_i T5
            obtain ⟨hb5, -⟩ := T5
            go_wp2_with fail
            go_ret
            exact ⟨ret_int HG.out.symm, hB.out.trans (hb5.mono bs)⟩
        · have hg := goodK_of (l := ks) (by omega) HW.out ((adjK_iff ks).2 fun k hk => hS.out k (by omega) (by omega))
          have HG := Lib.hid hg
          clear hg
          go_wp2_with fail
          go_ret
          exact ⟨ret_int HG.out.symm, hB.out⟩
end Go.Proofs.YtbbholdadgjelaaGreat
/- the document's place: May, Shards -/
namespace Go.Proofs.YtbbholdadgjelaaGreat
open Go.RowKit
set_option linter.unusedVariables false
set_option maxRecDepth 20000
/-- no text too long -/
def Cfg.small (c : Cfg) : Prop := (∀ t ∈ c.ws, t.size ≤ 1048576) ∧ ∀ k ∈ c.ks, k.2.size ≤ 1048576
theorem rin_lit (n lo hi : Int) (c : Bool) (w : World) (h : decide (lo ≤ n ∧ n ≤ hi) = c) :
    Calls Tryz.prog 46 #[.int .i64 n, .int .i64 lo, .int .i64 hi] w fun e w' => e = .returned (.bool c) ∧ w = w' := by
  subst h
  go_enter Tryz.func46, Tryz.ntmps46
  go_wp2
  all_goals (go_ret; exact ⟨ret_bool (by simp; try omega), rfl⟩)
set_option maxHeartbeats 6400000 in
set_option maxRecDepth 100000 in
theorem rmay_cfg (c : Cfg) (z : Bool) (w : World) (h : CfgOk w c) (hs : c.small) (hz : c.may = z) :
    Calls Tryz.prog 26 #[.agg #[.slice c.wa c.wn c.wc, .slice c.ka c.kn c.kc, .int .i64 c.W, .int .i64 c.C, .int .i64 c.S, .int .i64 c.B, .int .i64 c.L, .int .i64 c.H, .int .i64 c.F, .int .i64 c.P, .int .i64 c.J, .int .i64 c.N]] w fun e w' => e = .returned (.bool z) ∧ Below w.heap.size w w' := by
  obtain ⟨v1, hv1⟩ : ∃ v, goodV c.ws = v := ⟨_, rfl⟩
  obtain ⟨v2, hv2⟩ : ∃ v, goodK c.ks = v := ⟨_, rfl⟩
  unfold Cfg.may at hz
  rw [hv1, hv2] at hz
  obtain ⟨z0, h0⟩ : ∃ z, decide (v1 = 0) = z := ⟨_, rfl⟩
  obtain ⟨z1, h1⟩ : ∃ z, decide (v2 = 0) = z := ⟨_, rfl⟩
  obtain ⟨z2, h2⟩ : ∃ z, decide (1 ≤ c.W ∧ c.W ≤ 5) = z := ⟨_, rfl⟩
  obtain ⟨z3, h3⟩ : ∃ z, decide (1 ≤ c.C ∧ c.C ≤ min 3 c.W) = z := ⟨_, rfl⟩
  obtain ⟨z4, h4⟩ : ∃ z, decide (1 ≤ c.S ∧ c.S ≤ 4) = z := ⟨_, rfl⟩
  obtain ⟨z5, h5⟩ : ∃ z, decide (1 ≤ c.B ∧ c.B ≤ 5) = z := ⟨_, rfl⟩
  obtain ⟨z6, h6⟩ : ∃ z, decide (1 ≤ c.L ∧ c.L ≤ 1000) = z := ⟨_, rfl⟩
  obtain ⟨z7, h7⟩ : ∃ z, decide (1 ≤ c.H ∧ c.H ≤ 1000) = z := ⟨_, rfl⟩
  obtain ⟨z8, h8⟩ : ∃ z, decide (1 ≤ c.F ∧ c.F ≤ 10) = z := ⟨_, rfl⟩
  obtain ⟨z9, h9⟩ : ∃ z, decide (c.F ≤ c.P ∧ c.P ≤ 50) = z := ⟨_, rfl⟩
  obtain ⟨z10, h10⟩ : ∃ z, decide (0 ≤ c.J ∧ c.J ≤ 10) = z := ⟨_, rfl⟩
  obtain ⟨z11, h11⟩ : ∃ z, decide (8 ≤ c.N ∧ c.N ≤ 64) = z := ⟨_, rfl⟩
  rw [h0, h1, h2, h3, h4, h5, h6, h7, h8, h9, h10, h11] at hz
  have HZ := Lib.hid hz
  have V1 := Lib.hid hv1; have V2 := Lib.hid hv2
  have HS := Lib.hid hs
  have H2 := Lib.hid h2
  have H3 := Lib.hid h3
  have H4 := Lib.hid h4
  have H5 := Lib.hid h5
  have H6 := Lib.hid h6
  have H7 := Lib.hid h7
  have H8 := Lib.hid h8
  have H9 := Lib.hid h9
  have H10 := Lib.hid h10
  have H11 := Lib.hid h11
  have e0 : (v1 != 0) = !z0 := by rw [← h0]; simp [bne, BEq.beq]
  have e1 : (v2 != 0) = !z1 := by rw [← h1]; simp [bne, BEq.beq]
  have OK := Lib.hid (h.below (below_one w (.cells #[.slice c.wa c.wn c.wc, .slice c.ka c.kn c.kc, .int .i64 c.W, .int .i64 c.C, .int .i64 c.S, .int .i64 c.B, .int .i64 c.L, .int .i64 c.H, .int .i64 c.F, .int .i64 c.P, .int .i64 c.J, .int .i64 c.N] 25)))
  have BX := Lib.hid (below_one w (.cells #[.slice c.wa c.wn c.wc, .slice c.ka c.kn c.kc, .int .i64 c.W, .int .i64 c.C, .int .i64 c.S, .int .i64 c.B, .int .i64 c.L, .int .i64 c.H, .int .i64 c.F, .int .i64 c.P, .int .i64 c.J, .int .i64 c.N] 25))
  have IN := Lib.hid (cfgIn_new w c w.heap.size 25 (0, 0) rfl)
  clear hz hv1 hv2 h0 h1 h2 h3 h4 h5 h6 h7 h8 h9 h10 h11 h hs
  go_enter Tryz.func26, Tryz.ntmps26
  go_wp2_with fail
  refine (rgood_any c.wa c.wn c.wc c.ws _ OK.out.1 OK.out.2.2.2.1 HS.out.1).mono ?_
  rw [V1.out]
  rintro e w2 ⟨rfl, hb2⟩
  have I2 := Lib.hid (IN.out.below hb2)
  have OK2 := Lib.hid (OK.out.below hb2)
  have B2 := Lib.hid (BX.out.trans (hb2.mono BX.out.size))
  clear hb2
  have hI := I2.out
  unfold CfgIn at hI
  obtain ⟨i0, i1, i2, i3, i4, i5, i6, i7, i8, i9, i10, i11⟩ := hI
  cases z0
  · simp only [Bool.not_false] at e0
    go_wp2_with fail
    go_ret
    exact ⟨by rw [← HZ.out]; rfl, B2.out⟩
  simp only [Bool.not_true] at e0
  go_wp2_with fail
  refine (rgoodK_any c.ka c.kn c.kc c.ks _ OK2.out.2.2.2.2.2.1 OK2.out.2.2.2.2.2.2.1 HS.out.2).mono ?_
  rw [V2.out]
  rintro e w3 ⟨rfl, hb3⟩
  have I3 := Lib.hid (I2.out.below hb3)
  have BZ := Lib.hid (B2.out.trans (hb3.mono B2.out.size))
  clear hb3 i0 i1 i2 i3 i4 i5 i6 i7 i8 i9 i10 i11
  have hI := I3.out
  unfold CfgIn at hI
  obtain ⟨i0, i1, i2, i3, i4, i5, i6, i7, i8, i9, i10, i11⟩ := hI
  cases z1
  · simp only [Bool.not_false] at e1
    go_wp2_with fail
    go_ret
    exact ⟨by rw [← HZ.out]; rfl, BZ.out⟩
  simp only [Bool.not_true] at e1
  go_wp2_with fail
  refine (rin_lit c.W 1 5 z2 _ H2.out).mono ?_
  rintro e w' ⟨rfl, rfl⟩
  cases z2
  · go_wp2_with fail
    go_ret
    exact ⟨by rw [← HZ.out]; rfl, BZ.out⟩
  go_wp2_with fail
  refine (rin_lit c.C 1 (min 3 c.W) z3 _ H3.out).mono ?_
  rintro e w' ⟨rfl, rfl⟩
  cases z3
  · go_wp2_with fail
    go_ret
    exact ⟨by rw [← HZ.out]; rfl, BZ.out⟩
  go_wp2_with fail
  refine (rin_lit c.S 1 4 z4 _ H4.out).mono ?_
  rintro e w' ⟨rfl, rfl⟩
  cases z4
  · go_wp2_with fail
    go_ret
    exact ⟨by rw [← HZ.out]; rfl, BZ.out⟩
  go_wp2_with fail
  refine (rin_lit c.B 1 5 z5 _ H5.out).mono ?_
  rintro e w' ⟨rfl, rfl⟩
  cases z5
  · go_wp2_with fail
    go_ret
    exact ⟨by rw [← HZ.out]; rfl, BZ.out⟩
  go_wp2_with fail
  refine (rin_lit c.L 1 1000 z6 _ H6.out).mono ?_
  rintro e w' ⟨rfl, rfl⟩
  cases z6
  · go_wp2_with fail
    go_ret
    exact ⟨by rw [← HZ.out]; rfl, BZ.out⟩
  go_wp2_with fail
  refine (rin_lit c.H 1 1000 z7 _ H7.out).mono ?_
  rintro e w' ⟨rfl, rfl⟩
  cases z7
  · go_wp2_with fail
    go_ret
    exact ⟨by rw [← HZ.out]; rfl, BZ.out⟩
  go_wp2_with fail
  refine (rin_lit c.F 1 10 z8 _ H8.out).mono ?_
  rintro e w' ⟨rfl, rfl⟩
  cases z8
  · go_wp2_with fail
    go_ret
    exact ⟨by rw [← HZ.out]; rfl, BZ.out⟩
  go_wp2_with fail
  refine (rin_lit c.P c.F 50 z9 _ H9.out).mono ?_
  rintro e w' ⟨rfl, rfl⟩
  cases z9
  · go_wp2_with fail
    go_ret
    exact ⟨by rw [← HZ.out]; rfl, BZ.out⟩
  go_wp2_with fail
  refine (rin_lit c.J 0 10 z10 _ H10.out).mono ?_
  rintro e w' ⟨rfl, rfl⟩
  cases z10
  · go_wp2_with fail
    go_ret
    exact ⟨by rw [← HZ.out]; rfl, BZ.out⟩
  go_wp2_with fail
  refine (rin_lit c.N 8 64 z11 _ H11.out).mono ?_
  rintro e w' ⟨rfl, rfl⟩
  cases z11
  · go_wp2_with fail
    go_ret
    exact ⟨by rw [← HZ.out]; rfl, BZ.out⟩
  go_wp2_with fail
  go_ret
  exact ⟨by rw [← HZ.out]; rfl, BZ.out⟩
/-- how many shards -/
def Cfg.shards (c : Cfg) : Nat := if c.may then c.kn + 1 else 0
set_option maxHeartbeats 1600000 in
theorem rshards_any (c : Cfg) (n : Nat) (w : World) (h : CfgOk w c) (hs : c.small) (hn : c.shards = n) :
    Calls Tryz.prog 47 #[.agg #[.slice c.wa c.wn c.wc, .slice c.ka c.kn c.kc, .int .i64 c.W, .int .i64 c.C, .int .i64 c.S, .int .i64 c.B, .int .i64 c.L, .int .i64 c.H, .int .i64 c.F, .int .i64 c.P, .int .i64 c.J, .int .i64 c.N]] w fun e w' => e = .returned (.int .i64 (n : Int)) ∧ Below w.heap.size w w' := by
  have BX := Lib.hid (below_one w (.cells #[.slice c.wa c.wn c.wc, .slice c.ka c.kn c.kc, .int .i64 c.W, .int .i64 c.C, .int .i64 c.S, .int .i64 c.B, .int .i64 c.L, .int .i64 c.H, .int .i64 c.F, .int .i64 c.P, .int .i64 c.J, .int .i64 c.N] 25))
  have IN := Lib.hid (cfgIn_new w c w.heap.size 25 (0, 0) rfl)
  obtain ⟨z, hz⟩ : ∃ z, c.may = z := ⟨_, rfl⟩
  have CM := Lib.hid (rmay_cfg c z _ (h.below BX.out) hs hz)
  unfold Cfg.shards at hn
  rw [hz] at hn
  cases z
  · obtain rfl : 0 = n := hn
    clear h hs hz
    go_enter Tryz.func47, Tryz.ntmps47
    go_wp2_with fail
    refine CM.out.mono ?_
    rintro e w2 ⟨rfl, hb2⟩
    have B2 := Lib.hid (BX.out.trans (hb2.mono BX.out.size))
    clear hb2 CM
    go_wp2_with fail
    go_ret
    exact ⟨rfl, B2.out⟩
  · obtain rfl : c.kn + 1 = n := hn
    have hk := may_kn hz h
    have hw1 : IntKind.i64.wrap ((c.kn : Int) + 1) = ((c.kn + 1 : Nat) : Int) := by rw [IntWalk.i64_in _ (by omega)]; omega
    clear h hs hz hk
    go_enter Tryz.func47, Tryz.ntmps47
    go_wp2_with fail
    refine CM.out.mono ?_
    rintro e w2 ⟨rfl, hb2⟩
    have B2 := Lib.hid (BX.out.trans (hb2.mono BX.out.size))
    have hI := IN.out.below hb2
    unfold CfgIn at hI
    obtain ⟨i0, i1, -⟩ := hI
    clear hb2 CM
    go_wp2_with fail
    go_ret
    exact ⟨rfl, B2.out⟩
end Go.Proofs.YtbbholdadgjelaaGreat
/- the document's place: Copies, Keeps -/
namespace Go.Proofs.YtbbholdadgjelaaGreat
open Go.RowKit
set_option linter.unusedVariables false
set_option maxRecDepth 20000
set_option maxHeartbeats 6400000 in
theorem rcopies_in (c : Cfg) (s : Nat) (W C : Nat) (w : World) (h : CfgOk w c) (hsm : c.small) (hm : c.may = true) (hs : s < c.kn + 1) (hW : c.W = (W : Int)) (hC : c.C = (C : Int)) :
    Calls Tryz.prog 48 #[.agg #[.slice c.wa c.wn c.wc, .slice c.ka c.kn c.kc, .int .i64 c.W, .int .i64 c.C, .int .i64 c.S, .int .i64 c.B, .int .i64 c.L, .int .i64 c.H, .int .i64 c.F, .int .i64 c.P, .int .i64 c.J, .int .i64 c.N], .int .i64 (s : Int)] w (RetZ w (Pl.cop W C s)) := by
  obtain ⟨i0, hi, hz0, hz1, hz2⟩ := info_parts num_info
  have BX := Lib.hid (below_one w (.cells #[.slice c.wa c.wn c.wc, .slice c.ka c.kn c.kc, .int .i64 c.W, .int .i64 c.C, .int .i64 c.S, .int .i64 c.B, .int .i64 c.L, .int .i64 c.H, .int .i64 c.F, .int .i64 c.P, .int .i64 c.J, .int .i64 c.N] 25))
  have IN := Lib.hid (cfgIn_new w c w.heap.size 25 (0, 0) rfl)
  have OK := Lib.hid h
  have hk := may_kn hm h
  obtain ⟨n, hn⟩ : ∃ n, c.kn + 1 = n := ⟨_, rfl⟩
  have SH := Lib.hid (fun w' (hb : Below w.heap.size w w') => rshards_any c n w' (OK.out.below hb) hsm (by unfold Cfg.shards; rw [hm, if_pos rfl]; exact hn))
  rw [hn] at hs
  obtain ⟨-, -, hw, hc, -⟩ := may_parts hm
  rw [hW] at hw
  rw [hC, hW] at hc
  have H5 := Lib.hid (show W ≤ 5 ∧ C ≤ 3 from ⟨by omega, by omega⟩)
  have hW0 : ((W : Int) == 0) = false := by simp; omega
  have hW1 : 1 ≤ W := by omega
  have hC3 : C ≤ 3 := by omega
  have hs6 : s ≤ 5 := by omega
  have HW := Lib.hid hW; have HC := Lib.hid hC
  have d2 : decide ((s : Int) ≥ 0) = true := decide_eq_true (by omega)
  have d3 : decide ((s : Int) < (n : Int)) = true := decide_eq_true (by omega)
  clear h hm hw hc hW hC hsm hn hk
  go_enter Tryz.func48, Tryz.ntmps48
  go_wp2_with fail
  go_loopw [5, 6] (fun ov iv wr => ∃ (j : Nat) (av : Option Addr) (cv : Nat), j ≤ C ∧ iv = .int .i64 j ∧ ov = .slice av j cv ∧ Hid (wr.ownsRow (w.heap.size + 1) 3 1 (.slice av j cv) j (numsV (Pl.cop W j s))) ∧ Hid (Below w.heap.size w wr ∧ CfgIn wr w.heap.size c)) (fun _ iv _ => C - (intOf iv).toNat)
  case atStart => exact ⟨0, none, 0, by omega, rfl, rfl, Lib.hid (World.ownsRow_nil _ _ _ _), Lib.hid ⟨BX.out, IN.out⟩⟩
  case round =>
    obtain ⟨j, av, cv, hj, rfl, rfl, hO, hB⟩ := hrel
    have hI := hB.out.2
    unfold CfgIn at hI
    obtain ⟨i0', i1, i2, i3, i4, i5, i6, i7, i8, i9, i10, i11⟩ := hI
    have j3 := i3
    rw [HC.out] at j3
    by_cases hlt : j < C
    · have d1 : decide ((j : Int) < (C : Int)) = true := decide_eq_true (by omega)
      have d4 : decide ((j : Int) < c.C) = true := by rw [HC.out]; exact d1
      obtain ⟨z, hz⟩ : ∃ z, (s + j) % W = z := ⟨_, rfl⟩
      have hzl : z < W := by rw [← hz]; exact Nat.mod_lt _ (by omega)
      have HZ := Lib.hid (show Pl.cop W (j + 1) s = Pl.cop W j s ++ [1 + (z : Int)] from by rw [Pl.cop_snoc, hz]; simp)
      have r1 : IntKind.i64.wrap ((s : Int) + (j : Int)) = (s : Int) + (j : Int) := by rw [IntWalk.i64_in _ (by omega)]
      have r2 : ((s : Int) + (j : Int)) % (W : Int) = (z : Int) := by rw [← hz]; simp
      have r3 : IntKind.i64.wrap (1 + (z : Int)) = 1 + (z : Int) := by rw [IntWalk.i64_in _ (by have := H5.out; omega)]
      have CS := Lib.hid (SH.out wr hB.out.1)
      clear hz j3
      go_wp2_with fail
      refine CS.out.mono ?_
      rintro e w3 ⟨rfl, hb3⟩
      have O2 := Lib.hid (owns_below hO.out hb3)
      have B2 := Lib.hid (show Below w.heap.size w w3 ∧ CfgIn w3 w.heap.size c from ⟨hB.out.1.trans (hb3.mono hB.out.1.size), hB.out.2.below hb3⟩)
      have IH := Lib.hid B2.out.2
      clear hb3 CS hO hB i0' i1 i2 i3 i4 i5 i6 i7 i8 i9 i10 i11
      have hI := B2.out.2
      unfold CfgIn at hI
      obtain ⟨-, -, k2, -⟩ := hI
      rw [HW.out] at k2
      go_wp2_with (at_builtin; refine wpList_append_any rfl (.tmp 23) (.tmp 31) 63 rfl (w.heap.size + 1) 3 i0 _ 1 8 Tryz.underlying63 hi hz0 hz1 hz2 rfl (by decide) _ j _ rfl (O2.out.alloc _) _ 1 1 [.int .i64 (1 + (z : Int))] rfl (some_none _) rfl (one_new _ _ _ _) (by simp [Value.oneCell']) (by unfold maxLen; omega) (by omega) (by have := lt_of_cell IH.out.1; simp; omega) ?_; intro a3 c3 w4 hown3 hb3 hnil3)
      have O3 := Lib.hid (show w4.ownsRow (w.heap.size + 1) 3 1 (.slice a3 (j + 1) c3) (j + 1) (numsV (Pl.cop W (j + 1) s)) from by rw [HZ.out]; unfold numsV at hown3 ⊢; rw [List.map_append]; exact hown3)
      have B3 := Lib.hid (show Below w.heap.size w w4 ∧ CfgIn w4 w.heap.size c from by
        have b1 : Below (w.heap.size + 1) w3 w4 := ((Below.refl (w.heap.size + 1) w3).alloc (by have := lt_of_cell IH.out.1; omega) _).trans hb3
        exact ⟨B2.out.1.trans (b1.mono (by omega)), IH.out.of fun i => b1.cell (p := ⟨w.heap.size, i, none⟩) (by show w.heap.size < w.heap.size + 1; omega)⟩)
      clear hown3 hb3 hnil3 k2 IH
      go_roundw
      case rel => exact ⟨j + 1, a3, c3, by omega, by go_num, rfl, O3, B3⟩
      case measure => simp [intOf] <;> omega
    · obtain rfl : j = C := by omega
      have d1 : decide ((j : Int) < (j : Int)) = false := decide_eq_false (by omega)
      have d4 : decide ((j : Int) < c.C) = false := by rw [HC.out]; exact d1
      clear j3
      go_wp2_with fail
      go_ret
      refine ⟨av, cv, by rw [Pl.cop_len]; rfl, ?_, hB.out.1⟩
      rw [Pl.cop_len]
      have := hO.out
      exact ⟨this.1, this.2.imp id (fun ⟨g, cap, cur, hv, hge, r⟩ => ⟨g, cap, cur, hv, by omega, r⟩)⟩
set_option maxHeartbeats 3200000 in
theorem rcopies_out (c : Cfg) (x : Int) (w : World) (h : CfgOk w c) (hsm : c.small) (hs : ¬ (0 ≤ x ∧ x < (c.shards : Int))) :
    Calls Tryz.prog 48 #[.agg #[.slice c.wa c.wn c.wc, .slice c.ka c.kn c.kc, .int .i64 c.W, .int .i64 c.C, .int .i64 c.S, .int .i64 c.B, .int .i64 c.L, .int .i64 c.H, .int .i64 c.F, .int .i64 c.P, .int .i64 c.J, .int .i64 c.N], .int .i64 x] w (RetZ w []) := by
  have BX := Lib.hid (below_one w (.cells #[.slice c.wa c.wn c.wc, .slice c.ka c.kn c.kc, .int .i64 c.W, .int .i64 c.C, .int .i64 c.S, .int .i64 c.B, .int .i64 c.L, .int .i64 c.H, .int .i64 c.F, .int .i64 c.P, .int .i64 c.J, .int .i64 c.N] 25))
  have IN := Lib.hid (cfgIn_new w c w.heap.size 25 (0, 0) rfl)
  obtain ⟨n, hn⟩ : ∃ n, c.shards = n := ⟨_, rfl⟩
  have SH := Lib.hid (rshards_any c n _ (h.below BX.out) hsm hn)
  rw [hn] at hs
  obtain ⟨y1, hy1⟩ : ∃ y, decide ((0 : Int) < c.C) = y := ⟨_, rfl⟩
  obtain ⟨y2, hy2⟩ : ∃ y, decide (x ≥ 0) = y := ⟨_, rfl⟩
  have hy3 : y2 = true → decide (x < (n : Int)) = false := fun e => decide_eq_false (fun h2 => hs ⟨of_decide_eq_true (hy2.trans e), h2⟩)
  clear h hsm hs hn
  go_enter Tryz.func48, Tryz.ntmps48
  go_upto_region 2 with fail
  generalize w.alloc (.cells #[.slice c.wa c.wn c.wc, .slice c.ka c.kn c.kc, .int .i64 c.W, .int .i64 c.C, .int .i64 c.S, .int .i64 c.B, .int .i64 c.L, .int .i64 c.H, .int .i64 c.F, .int .i64 c.P, .int .i64 c.J, .int .i64 c.N] 25) = w1 at *
  obtain ⟨p, hp⟩ : ∃ p, w.heap.size = p := ⟨_, rfl⟩
  have HP := Lib.hid hp
  rw [hp] at IN
  try simp only [hp]
  clear hp
  go_wp2_with fail
  go_loopw [5, 6] (fun ov iv wr => ov = .slice none 0 0 ∧ iv = .int .i64 0 ∧ wr = w1) (fun _ _ _ => 0)
  case atStart => exact ⟨rfl, rfl, rfl⟩
  case round =>
    obtain ⟨rfl, rfl, rfl⟩ := hrel
    have hI := IN.out
    unfold CfgIn at hI
    obtain ⟨i0', i1, i2, i3, i4, i5, i6, i7, i8, i9, i10, i11⟩ := hI
    cases y1
    · go_wp2_with fail
      go_ret
      exact ⟨none, 0, rfl, World.ownsRow_nil _ _ _ _, BX.out⟩
    · cases y2
      · go_wp2_with fail
        go_ret
        exact ⟨none, 0, rfl, World.ownsRow_nil _ _ _ _, BX.out⟩
      · have d3 := hy3 rfl
        go_wp2_with fail
        refine SH.out.mono ?_
        rintro e w2 ⟨rfl, hb2⟩
        have B2 := Lib.hid (BX.out.trans (hb2.mono BX.out.size))
        clear hb2 SH i0' i1 i2 i3 i4 i5 i6 i7 i8 i9 i10 i11
        go_wp2_with fail
        go_ret
        exact ⟨none, 0, rfl, World.ownsRow_nil _ _ _ _, B2.out⟩
theorem inF_not (M : List Int) (x : Int) (j : Nat) (hj : j < M.length) (hn : ∀ i, i < j → M.getD j 0 ≠ M.getD i 0) (e : M.getD j 0 = x) : inF M x j = false := by
  unfold inF
  refine decide_eq_false (fun h => ?_)
  obtain ⟨i, hi, he⟩ := List.getElem_of_mem h
  rw [List.length_take] at hi
  refine hn i (by omega) ?_
  rw [e, ← he, List.getElem_take, List.getD_eq_getElem?_getD, List.getElem?_eq_getElem (by omega)]; rfl
theorem own_atR {w : World} {B : Nat} {e : TypeId} {size n c k : Nat} {a : Option Addr} {xs : List Value} (h : w.ownsRow B e size (.slice a n c) n xs) (hk : (Value.slice a n c).ownBlock = some k) : a = some ⟨k, 0, none⟩ := by
  rcases Joins.ownsRow_forms h with ⟨e1, _⟩ | ⟨g, cap, e1⟩
  · injection e1 with e2; subst e2; cases hk
  · injection e1 with e2; subst e2; injection hk with hk; subst hk; rfl
/-- a row that grows beside a row that stays -/
structure KO (w0 : World) (p B : Nat) (c : Cfg) (K : List Nat) (av : Option Addr) (cv : Nat) (la : Option Addr) (C : Nat) (L : List Int) (w : World) : Prop where
  o : w.ownsRow B 3 1 (.slice av K.length cv) K.length (numsV (natsZ K))
  l : HoldsI .i64 w la C L
  d : ∀ g q o, av = some ⟨g, 0, none⟩ → la = some ⟨q, o, none⟩ → 0 < C → g ≠ q
  b : Below w0.heap.size w0 w
  i : CfgIn w p c
  s : w0.heap.size ≤ B
  p : p < B
theorem KO.more {w0 w w' : World} {p B cv C : Nat} {c : Cfg} {K : List Nat} {av la : Option Addr} {L : List Int} (h : KO w0 p B c K av cv la C L w) (hb : Below w.heap.size w w') : KO w0 p B c K av cv la C L w' :=
  ⟨owns_below h.o hb, h.l.below hb, h.d, h.b.trans (hb.mono h.b.size), h.i.below hb, h.s, h.p⟩
theorem KO.grow {w0 w w8 : World} {p B cv C g c' N : Nat} {c : Cfg} {K : List Nat} {av la : Option Addr} {L : List Int} (h : KO w0 p B c K av cv la C L w) (K' : List Nat) (hl : K'.length = N) (hown : w8.ownsRow B 3 1 (.slice (some ⟨g, 0, none⟩) N c') N (numsV (natsZ K'))) (hg : w.grownBy w8 (Value.slice av K.length cv).ownBlock) (hat : (Value.slice av K.length cv).ownBlock = some g ∨ g = w.heap.size) : KO w0 p B c K' (some ⟨g, 0, none⟩) c' la C L w8 := by
  subst hl
  refine ⟨hown, ⟨h.l.1, fun h0 => ?_⟩, fun g2 q o e1 e2 h0 => ?_, h.b.grown hg h.b.size (fun k e => Nat.le_trans h.s (h.o.lt k e).1), h.i.of fun i => hg.cell_far ⟨p, i, none⟩ (lt_of_cell h.i.1) (fun e => by have h1 := (h.o.lt p e.symm).1; have h2 := h.p; omega), h.s, h.p⟩
  · obtain ⟨q, o, ha, hc⟩ := h.l.2 h0
    exact ⟨q, o, ha, fun i hi => (hg.cell_far _ (lt_of_cell (hc i hi)) (fun e => h.d q q o (own_atR h.o e.symm) ha h0 rfl)).trans (hc i hi)⟩
  · injection e1 with e1; injection e1 with e1; subst e1
    rcases hat with e3 | e3
    · exact h.d _ q o (own_atR h.o e3) e2 h0
    · obtain ⟨q2, o2, ha, hc⟩ := h.l.2 h0
      rw [e2] at ha; injection ha with ha; injection ha with ha; subst ha
      have h5 : q < w.heap.size := lt_of_cell (hc 0 h0)
      omega
def kSoFar (K : List Nat) (s : Nat) (b : Bool) : List Nat := K ++ (if b then [s] else [])
theorem kSoFar_len (K : List Nat) (s : Nat) (b : Bool) : (kSoFar K s b).length ≤ K.length + 1 := by unfold kSoFar; cases b <;> simp
set_option maxHeartbeats 6400000 in
theorem rkeeps_in (c : Cfg) (x : Int) (W C : Nat) (w : World) (h : CfgOk w c) (hsm : c.small) (hm : c.may = true) (hW : c.W = (W : Int)) (hC : c.C = (C : Int)) :
    Calls Tryz.prog 27 #[.agg #[.slice c.wa c.wn c.wc, .slice c.ka c.kn c.kc, .int .i64 c.W, .int .i64 c.C, .int .i64 c.S, .int .i64 c.B, .int .i64 c.L, .int .i64 c.H, .int .i64 c.F, .int .i64 c.P, .int .i64 c.J, .int .i64 c.N], .int .i64 x] w (RetZ w (natsZ (Pl.keep W C (c.kn + 1) x))) := by
  obtain ⟨i0, hi, hz0, hz1, hz2⟩ := info_parts num_info
  have BX := Lib.hid (below_one w (.cells #[.slice c.wa c.wn c.wc, .slice c.ka c.kn c.kc, .int .i64 c.W, .int .i64 c.C, .int .i64 c.S, .int .i64 c.B, .int .i64 c.L, .int .i64 c.H, .int .i64 c.F, .int .i64 c.P, .int .i64 c.J, .int .i64 c.N] 25))
  have IN := Lib.hid (cfgIn_new w c w.heap.size 25 (0, 0) rfl)
  have OK := Lib.hid h
  have hk := may_kn hm h
  have HW := Lib.hid hW; have HC := Lib.hid hC; have HM := Lib.hid hm
  obtain ⟨-, -, hw, hc, -⟩ := may_parts hm
  rw [hW] at hw
  rw [hC, hW] at hc
  have H5 := Lib.hid (show W ≤ 5 ∧ C ≤ 3 ∧ C ≤ W from ⟨by omega, by omega, by omega⟩)
  obtain ⟨n, hn⟩ : ∃ n, c.kn + 1 = n := ⟨_, rfl⟩
  have HN := Lib.hid hn
  have SH := Lib.hid (fun w' (hb : Below w.heap.size w w') => rshards_any c n w' (OK.out.below hb) hsm (by unfold Cfg.shards; rw [hm, if_pos rfl]; exact hn))
  have HS := Lib.hid hsm
  rw [hn]
  have hn6 : n ≤ 6 := by omega
  have hC3 : C ≤ 3 := H5.out.2.1
  clear h hm hw hc hW hC hn hk hsm
  go_enter Tryz.func27, Tryz.ntmps27
  go_wp2_with fail
  go_loopw [5, 6] (fun ov iv wr => ∃ (j : Nat) (K : List Nat) (av : Option Addr) (cv : Nat), j ≤ n ∧ K.length ≤ j ∧ iv = .int .i64 j ∧ ov = .slice av K.length cv ∧ Hid (K = Pl.keep W C j x) ∧ Hid (wr.ownsRow (w.heap.size + 1) 3 1 (.slice av K.length cv) K.length (numsV (natsZ K))) ∧ Hid (Below w.heap.size w wr ∧ CfgIn wr w.heap.size c)) (fun _ iv _ => n - (intOf iv).toNat)
  case atStart => exact ⟨0, [], none, 0, by omega, by simp, rfl, rfl, Lib.hid rfl, Lib.hid (World.ownsRow_nil _ _ _ _), Lib.hid ⟨BX.out, IN.out⟩⟩
  case round =>
    obtain ⟨j, K, av, cv, hj, hKl, rfl, rfl, hK, hO, hB⟩ := hrel
    have CS := Lib.hid (SH.out wr hB.out.1)
    have hI := hB.out.2
    unfold CfgIn at hI
    obtain ⟨i0', i1, i2, i3, i4, i5, i6, i7, i8, i9, i10, i11⟩ := hI
    go_wp2_with fail
    refine CS.out.mono ?_
    rintro e w3 ⟨rfl, hb3⟩
    have O3 := Lib.hid (owns_below hO.out hb3)
    have B3 := Lib.hid (show Below w.heap.size w w3 ∧ CfgIn w3 w.heap.size c from ⟨hB.out.1.trans (hb3.mono hB.out.1.size), hB.out.2.below hb3⟩)
    clear hb3 CS i0' i1 i2 i3 i4 i5 i6 i7 i8 i9 i10 i11 hO hB
    have hI := B3.out.2
    unfold CfgIn at hI
    obtain ⟨i0', i1, i2, i3, i4, i5, i6, i7, i8, i9, i10, i11⟩ := hI
    by_cases hlt : j < n
    · have d1 : decide ((j : Int) < (n : Int)) = true := decide_eq_true (by omega)
      have CC := Lib.hid (rcopies_in c j W C w3 (OK.out.below B3.out.1) HS.out HM.out (by have := HN.out; omega) HW.out HC.out)
      obtain ⟨L, hL⟩ : ∃ L, Pl.cop W C j = L := ⟨_, rfl⟩
      have LL := Lib.hid (show L.length = C from by rw [← hL, Pl.cop_len])
      have LN := Lib.hid (show ∀ i j2, i < C → j2 < i → L.getD i 0 ≠ L.getD j2 0 from fun i j2 h1 h2 => by rw [← hL]; exact Pl.cop_ne H5.out.1 (by omega) h1 H5.out.2.2 (by omega) h2)
      have hks := Pl.keep_snoc W C j x
      rw [hL] at CC hks
      have KS := Lib.hid hks
      unfold RetZ at CC
      rw [LL.out] at CC
      clear hL hks
      go_wp2_with fail
      refine CC.out.mono ?_
      rintro e w4 ⟨la, lc, rfl, hown, hb4⟩
      have K4 := Lib.hid (show KO w w.heap.size (w.heap.size + 1) c K av cv la C L w4 from
        ⟨owns_below O3.out hb4, holdsZ_own hown, fun g q o e1 e2 h0 => by
          have h1 : g < w3.heap.size := by
            have h5 := O3.out
            rw [e1] at h5
            exact (h5.lt g rfl).2
          obtain ⟨q2, cp, hv⟩ := Joins.ownsRow_form hown h0
          simp only [Value.slice.injEq] at hv
          obtain ⟨hv, -, -⟩ := hv
          rw [hv] at e2; injection e2 with e2; injection e2 with e2 e3; subst e2
          subst hv
          have h2 : w3.heap.size ≤ q2 := (hown.lt q2 rfl).1
          omega, B3.out.1.trans (hb4.mono B3.out.1.size), B3.out.2.below hb4, by omega, by omega⟩)
      have Z0 := Lib.hid (inF_zero L x)
      clear hown hb4 CC i0' i1 i2 i3 i4 i5 i6 i7 i8 i9 i10 i11 O3 B3
      go_wp2_with fail
      go_loopw [5, 8] (fun ov iv wr => ∃ (j2 : Nat) (b : Bool) (av : Option Addr) (cv : Nat), j2 ≤ C ∧ iv = .int .i64 j2 ∧ ov = .slice av (kSoFar K j b).length cv ∧ Hid (inF L x j2 = b) ∧ Hid (KO w w.heap.size (w.heap.size + 1) c (kSoFar K j b) av cv la C L wr)) (fun _ iv _ => C - (intOf iv).toNat)
      case atStart =>
        have hk0 : kSoFar K j false = K := by simp [kSoFar]
        exact ⟨0, false, av, cv, by omega, rfl, by rw [hk0], Z0, Lib.hid (by rw [hk0]; exact K4.out)⟩
      case round =>
        clear K4 Z0
        obtain ⟨j2, b, av, cv, hj2, rfl, rfl, hb, hO⟩ := hrel
        by_cases hl2 : j2 < C
        · have e1 : decide ((j2 : Int) < (C : Int)) = true := decide_eq_true (by omega)
          obtain ⟨q, o, rfl, hcc⟩ := hO.out.l.at (by omega)
          have x1 := hcc j2 hl2
          obtain ⟨y, hy⟩ : ∃ y, L.getD j2 0 = y := ⟨_, rfl⟩
          rw [hy] at x1
          have hsc := inF_succ L x j2 (by rw [LL.out]; exact hl2)
          have hnt := inF_not L x j2 (by rw [LL.out]; exact hl2) (fun i h => LN.out j2 i hl2 h)
          rw [hb.out, hy] at hsc
          rw [hb.out, hy] at hnt
          have m1 : (0 : Int) ≤ (j2 : Int) := by omega
          have m2 : (j2 : Int) < (C : Int) := by omega
          by_cases hyx : y = x
          · obtain rfl : b = false := hnt hyx
            have f1 : (y == x) = true := by simpa using hyx
            have hk1 : kSoFar K j false = K := by simp [kSoFar]
            have hk2 : kSoFar K j true = K ++ [j] := by simp [kSoFar]
            have F := Lib.hid (show inF L x (j2 + 1) = true from by rw [hsc, f1]; rfl)
            have KA := Lib.hid hO.out
            rw [hk1] at KA
            rw [hk1]
            have KB := Lib.hid (KA.out.more (below_one wr (.cells #[.int .i64 (j : Int)] 3)))
            clear hcc hy hsc hnt hO hk1 hyx
            go_wp2_with (at_builtin; refine wpList_append_lies _ rfl (.tmp 30) (.tmp 32) 63 rfl (w.heap.size + 1) 3 i0 _ 1 8 Tryz.underlying63 hi hz0 hz1 hz2 rfl (by omega) (.slice av K.length cv) K.length (numsV (natsZ K)) (by rfl) KB.out.o ⟨wr.heap.size, 0, none⟩ 1 1 [.int .i64 (j : Int)] (by rfl) (by rfl) (World.news_of_block (cs := #[.int .i64 (j : Int)]) (t := 3) (fr := (0, 0)) (heap_alloc_new wr _)) (by simp [Value.oneCell']) (by omega) (by unfold maxLen; omega) (by omega) (by have h5 := KA.out.b.size; simp; omega) (wr.heap.size + 1) (by simp) ?_; intro g3 c3 w5 hown3 hgrow3 hat3 hlt3)
            have K5 := Lib.hid (KB.out.grow (K ++ [j]) (N := K.length + 1) (by simp) (by unfold numsV natsZ at hown3 ⊢; rw [List.map_append, List.map_append]; exact hown3) hgrow3 (hat3.imp id (fun h => by rw [h]; simp)))
            clear hown3 hgrow3 hat3 hlt3 KA KB
            go_roundw
            case rel => exact ⟨j2 + 1, true, some ⟨g3, 0, none⟩, c3, by omega, by go_num, by rw [hk2]; simp, F, Lib.hid (by rw [hk2]; exact K5.out)⟩
            case measure => simp [intOf] <;> omega
          · have f1 : (y == x) = false := by simpa using hyx
            have F := Lib.hid (show inF L x (j2 + 1) = b from by rw [hsc, f1]; simp)
            clear hcc hy hsc hnt hyx
            go_wp2_with fail
            go_roundw
            case rel => exact ⟨j2 + 1, b, av, cv, by omega, by go_num, rfl, F, hO⟩
            case measure => simp [intOf] <;> omega
        · obtain rfl : j2 = C := by omega
          have e1 : decide ((j2 : Int) < (j2 : Int)) = false := decide_eq_false (by omega)
          have K2 := Lib.hid (show kSoFar K j b = Pl.keep W j2 (j + 1) x from by
            rw [KS.out, ← hK.out]
            have hb2 := hb.out
            unfold inF at hb2
            rw [← LL.out, List.take_length] at hb2
            unfold kSoFar
            rw [← hb2]
            by_cases hx : x ∈ L <;> simp [hx])
          have hkl := kSoFar_len K j b
          go_wp2_with fail
          go_roundw
          case rel => exact ⟨j + 1, kSoFar K j b, av, cv, by omega, by omega, by go_num, rfl, K2, Lib.hid hO.out.o, Lib.hid ⟨hO.out.b, hO.out.i⟩⟩
          case measure => simp [intOf] <;> omega
    · obtain rfl : j = n := by omega
      have d1 : decide ((j : Int) < (j : Int)) = false := decide_eq_false (by omega)
      go_wp2_with fail
      go_ret
      refine ⟨av, cv, by rw [← hK.out, natsZ_len]; rfl, ?_, B3.out.1⟩
      rw [← hK.out, natsZ_len]
      have := O3.out
      exact ⟨this.1, this.2.imp id (fun ⟨g, cap, cur, hv, hge, r⟩ => ⟨g, cap, cur, hv, by omega, r⟩)⟩
end Go.Proofs.YtbbholdadgjelaaGreat
/- the document's parts: Of, Slice -/
namespace Go.Proofs.YtbbholdadgjelaaGreat
open Go.RowKit
set_option linter.unusedVariables false
set_option maxRecDepth 20000
theorem ofN_lo {ks : List KV} {k : KV} {i : Nat} (h : i < ofN ks k) : lessK k (ks.getD i k0) = false := by
  have hl : i < ks.length := Nat.lt_of_lt_of_le h (ofN_le ks k)
  have h2 := List.not_of_lt_findIdx h
  rw [List.getD_eq_getElem?_getD, List.getElem?_eq_getElem hl]
  unfold lessK
  simpa using h2
theorem ofN_hi {ks : List KV} (hs : SortedK ks) {k : KV} {i : Nat} (h : ofN ks k ≤ i) (hi : i < ks.length) : lessK k (ks.getD i k0) = true := by
  have hf : ofN ks k < ks.length := by omega
  have h1 : lessK k (ks[ofN ks k]'hf) = true := List.findIdx_getElem (p := fun c => decide (ordK k c < 0)) (w := hf)
  rw [List.getD_eq_getElem?_getD, List.getElem?_eq_getElem hi]
  rcases Nat.eq_or_lt_of_le h with e | e
  · simp only [← e]; exact h1
  · exact decide_eq_true (ordK_trans (of_decide_eq_true h1) ((List.pairwise_iff_getElem.1 hs) _ _ hf hi e))
def Two2 (w0 : World) (b p : Nat) (x : KV) (w : World) : Prop := Below w0.heap.size w0 w ∧ w.cell? ⟨b, p, none⟩ = some (.int .i64 x.1) ∧ w.cell? ⟨b, p + 1, none⟩ = some (.string x.2)
theorem two2_carry {w0 w w' : World} {b p : Nat} {x : KV} (h : Two2 w0 b p x w) (hb : Below w.heap.size w w') : Two2 w0 b p x w' :=
  ⟨h.1.trans (hb.mono h.1.size), (hb.cell (p := ⟨b, p, none⟩) (lt_of_cell h.2.1)).trans h.2.1, (hb.cell (p := ⟨b, p + 1, none⟩) (lt_of_cell h.2.2)).trans h.2.2⟩
set_option maxHeartbeats 3200000 in
theorem rof_any (a : Option Addr) (n cap : Nat) (ks : List KV) (t : Tx) (w : World) (hh : HoldsK w a n ks) (hn : n ≤ 1000) (hs : SortedK ks) (hk : ∀ k ∈ ks, k.2.size ≤ 1048576) (ht : t.size ≤ 1048576) (hw : wordP t) :
    Calls Tryz.prog 83 #[.slice a n cap, .string t] w fun e w' => e = .returned (.int .i64 (ofZ ks t)) ∧ Below w.heap.size w w' := by
  have hl := hh.len
  rw [show ofZ ks t = ofN ks (keyOf t) from if_pos hw]
  have hfl := ofN_le ks (keyOf t)
  have LO := Lib.hid (fun i (h : i < ofN ks (keyOf t)) => ofN_lo h)
  have HI := Lib.hid (fun i (h : ofN ks (keyOf t) ≤ i) (h2 : i < ks.length) => ofN_hi hs h h2)
  obtain ⟨f, hf⟩ : ∃ f, ofN ks (keyOf t) = f := ⟨_, rfl⟩
  rw [hf] at hfl LO HI ⊢
  rw [hl] at hfl HI
  unfold keyOf at LO HI
  obtain ⟨v, hv⟩ : ∃ v, lenS t = v := ⟨_, rfl⟩
  rw [hv] at LO HI
  have HD := Lib.hid (decide_eq_true hw)
  have CL := Lib.hid (fun w' => rlen_lit t v w' ht hv)
  have HH := Lib.hid hh
  have HK := Lib.hid (show ∀ i, i < n → (ks.getD i k0).2.size ≤ 1048576 from fun i h => hk _ (getD_memK ks i (by omega)))
  clear hf hv hl hw hs hk hh
  go_enter Tryz.func83, Tryz.ntmps83
  go_wp2_with fail
  refine (rword_bool t true ht HD.out).mono ?_
  rintro e w1 ⟨rfl, hb1⟩
  have B1 := Lib.hid hb1
  clear hb1
  go_wp2_with fail
  go_loopw [5, 6] (fun nv iv wr => ∃ (i m : Nat), i ≤ n ∧ iv = .int .i64 i ∧ nv = .int .i64 m ∧ m = min i f ∧ Hid (Below w.heap.size w wr)) (fun _ iv _ => n - (intOf iv).toNat)
  case atStart => exact ⟨0, 0, by omega, rfl, rfl, by omega, B1⟩
  case round =>
    clear B1
    obtain ⟨i, m, hi, rfl, rfl, hm, hB⟩ := hrel
    by_cases hlt : i < n
    · obtain ⟨b, o, rfl, hc⟩ := (HH.out.below hB.out).at (by omega)
      obtain ⟨e1, e2⟩ := hc i hlt
      have s1 := HK.out i hlt
      obtain ⟨z, hz⟩ : ∃ z, lessK (v, t) (ks.getD i k0) = z := ⟨_, rfl⟩
      have hzf : z = decide (f ≤ i) := by
        rw [← hz]
        by_cases h : f ≤ i
        · rw [HI.out i h hlt, decide_eq_true h]
        · rw [LO.out i (by omega), decide_eq_false h]
      have CC := Lib.hid (fun w' => rless_lit (v, t) (ks.getD i k0) z hz w' ht s1)
      obtain ⟨y, hy⟩ : ∃ y, ks.getD i k0 = y := ⟨_, rfl⟩
      rw [hy] at e1 e2 CC
      have T := Lib.hid (show Two2 wr b (o + i * 2) y wr from ⟨Below.refl _ _, e1, e2⟩)
      unfold keyV at CC
      simp only at CC
      have HZ := Lib.hid hzf
      have g1 : (0 : Int) ≤ (i : Int) := by omega
      have g2 : (i : Int) < (n : Int) := by omega
      have bs := hB.out.size
      clear hc hz hy s1 hzf
      go_upto_region 7 with fail
      clear e1 e2
      go_region_held3 (fun w' => Below wr.heap.size wr w' ∧ w'.cell? ⟨b, o + i * 2, none⟩ = some (.int .i64 y.1) ∧ w'.cell? ⟨b, o + i * 2 + 1, none⟩ = some (.string y.2))
        (first | assumption | exact two2_carry T.out (below_drewN wr _) | exact two2_carry T.out (Below.refl _ _).drew | exact two2_carry (by assumption) (by assumption))
        (first
          | (go_at_call 61; (with_reducible refine (CL.out _).mono ?_); rintro e w' ⟨rfl, hbl⟩)
          | (go_at_call 62; (with_reducible refine (CC.out _).mono ?_); rintro e w' ⟨rfl, hb⟩)
          | fail)
      rename_i T5
      obtain ⟨hb5, -⟩ := T5
      have B5 := Lib.hid (hB.out.trans (hb5.mono bs))
      have hz := HZ.out
      clear hb5 T CL CC LO HI HK HZ hB
      cases z
      · have hfi : ¬ f ≤ i := fun h => by rw [decide_eq_true h] at hz; cases hz
        clear hz
        go_wp2_with fail
        go_roundw
        case rel => exact ⟨i + 1, m + 1, by omega, by go_num, by go_num, by omega, B5⟩
        case measure => simp [intOf]; omega
      · have hfi : f ≤ i := of_decide_eq_true hz.symm
        clear hz
        go_wp2_with fail
        go_roundw
        case rel => exact ⟨i + 1, m, by omega, by go_num, by first | rfl | rw [hm], by omega, B5⟩
        case measure => simp [intOf]; omega
    · obtain rfl : i = n := by omega
      obtain rfl : m = f := by omega
      go_wp2_with fail
      go_ret
      exact ⟨rfl, hB.out⟩
theorem rof_lit (a : Option Addr) (n cap : Nat) (ks : List KV) (t : Tx) (v : Int) (w : World) (hh : HoldsK w a n ks) (hn : n ≤ 1000) (hs : SortedK ks) (hk : ∀ k ∈ ks, k.2.size ≤ 1048576) (ht : t.size ≤ 1048576) (hw : wordP t) (hv : ofZ ks t = v) :
    Calls Tryz.prog 83 #[.slice a n cap, .string t] w fun e w' => e = .returned (.int .i64 v) ∧ Below w.heap.size w w' := by subst hv; exact rof_any a n cap ks t w hh hn hs hk ht hw
set_option maxHeartbeats 3200000 in
theorem rslice_any (a : Option Addr) (n cap : Nat) (ks : List KV) (a1 : Option Addr) (n1 cap1 : Nat) (ws : List Tx) (s : Nat) (w : World) (hh : HoldsK w a n ks) (hh1 : HoldsT w a1 n1 ws) (hn : n ≤ 1000) (hn1 : n1 ≤ 1000) (hs : s ≤ 1000) (hso : SortedK ks) (hk : ∀ k ∈ ks, k.2.size ≤ 1048576) (hsz : ∀ t ∈ ws, t.size ≤ 1048576) :
    Calls Tryz.prog 65 #[.slice a n cap, .slice a1 n1 cap1, .int .i64 s] w (RetO w (sliceS ks ws s)) := by
  obtain ⟨i0, hi, hz0, hz1, hz2⟩ := info_parts str_info
  have hl := hh1.len
  go_enter Tryz.func65, Tryz.ntmps65
  go_wp2_with fail
  go_loopw [7, 8] (fun ov iv wr => ∃ (j : Nat) (P : List Tx), j ≤ n1 ∧ P.length ≤ j ∧ iv = .int .i64 j ∧ Hid (P = sliceS ks (ws.take j) s) ∧ Hid (wr.ownsRow w.heap.size 9 1 ov P.length (strsV P)) ∧ Hid (Below w.heap.size w wr)) (fun _ iv _ => n1 - (intOf iv).toNat)
  case atStart => exact ⟨0, [], by omega, by simp, rfl, Lib.hid rfl, Lib.hid (World.ownsRow_nil _ _ _ _), Lib.hid (Below.refl _ _)⟩
  case round =>
    obtain ⟨j, P, hj, hPl, rfl, hP, hO, hB⟩ := hrel
    by_cases hlt : j < n1
    · have hcell := hh1.at (by omega)
      obtain ⟨bb, o, rfl, hc'⟩ := hcell
      have e0 := hc' j hlt
      have HC := Lib.hid (fun (w3 : World) (hb : Below w.heap.size w w3) => show w3.cell? ⟨bb, o + j, none⟩ = some (.string (ws.getD j ByteArray.empty)) from (hb.cell (p := ⟨bb, o + j, none⟩) (lt_of_cell e0)).trans e0)
      have hmem := getD_memT' ws j (by omega)
      have htk := take_succ_getD ws ByteArray.empty j (by omega)
      obtain ⟨x, hx⟩ : ∃ x, ws.getD j ByteArray.empty = x := ⟨_, rfl⟩
      rw [hx] at htk hmem
      simp only [hx] at HC
      have HT := Lib.hid htk
      have HX := Lib.hid (hsz x hmem)
      clear hx htk hc' e0 hmem
      have e1 := HC.out _ hB.out
      obtain ⟨y, hy⟩ : ∃ y, decide (wordP x) = y := ⟨_, rfl⟩
      have HY := Lib.hid hy
      obtain ⟨v, hv⟩ : ∃ v, ofZ ks x = v := ⟨_, rfl⟩
      have HV := Lib.hid hv
      clear hy
      go_wp2_with fail
      refine (rword_bool x y HX.out HY.out).mono ?_
      rintro e w2 ⟨rfl, hb2⟩
      have O2 := Lib.hid (owns_below hO.out hb2)
      have B2 := Lib.hid (hB.out.trans (hb2.mono hB.out.size))
      have e2 := HC.out _ B2.out
      clear hb2 e1 hO hB
      cases y
      · have hls := sliceS_no ks (ws.take j) s x (by rw [show ofZ ks x = -1 from if_neg (of_decide_eq_false HY.out)]; omega)
        rw [← HT.out, ← hP.out] at hls
        have HL := Lib.hid hls
        clear hls hv
        go_wp2_with fail
        go_roundw
        case rel => exact ⟨j + 1, P, by omega, by omega, by go_num, Lib.hid HL.out.symm, O2, B2⟩
        case measure => simp [intOf]; omega
      · have CF := Lib.hid (rof_lit a n cap ks x v w2 (hh.below B2.out) hn hso hk HX.out (of_decide_eq_true HY.out) HV.out)
        by_cases hin : v = (s : Int)
        · subst hin
          have hls := sliceS_yes ks (ws.take j) s x hv
          rw [← HT.out, ← hP.out] at hls
          have HL := Lib.hid hls
          have g2 : ((s : Int) == (s : Int)) = true := by simp
          clear hls hv
          go_wp2_with fail
          refine CF.out.mono ?_
          rintro e w3 ⟨rfl, hb3⟩
          have O3 := Lib.hid (owns_below O2.out hb3)
          have B3 := Lib.hid (B2.out.trans (hb3.mono B2.out.size))
          have e3 := HC.out _ B3.out
          clear hb3 e2 O2 B2 CF
          go_wp2_with (at_builtin; refine wpList_append_any rfl (.tmp 30) (.tmp 35) 22 rfl w.heap.size 9 i0 (.string ⟨#[]⟩) 1 16 Tryz.underlying22 hi hz0 hz1 hz2 rfl (by decide) _ P.length _ rfl (O3.out.alloc _) _ 1 1 _ rfl (some_none _) rfl (one_new _ _ _ _) (one_str _) (by unfold maxLen; omega) (by omega) (by have := B3.out.size; simp; omega) ?_; intro a3 c3 w4 hown3 hb3 hnil3)
          rw [← strsV_snoc] at hown3
          have O4 := Lib.hid hown3
          have B4 := Lib.hid ((B3.out.alloc B3.out.size _).trans hb3)
          clear hown3 hb3 hnil3
          go_roundw
          case rel => exact ⟨j + 1, P ++ [x], by omega, by simp; omega, by go_num, Lib.hid HL.out.symm, Lib.hid (by have := O4.out; simpa using this), B4⟩
          case measure => simp [intOf]; omega
        · have hls := sliceS_no ks (ws.take j) s x (by rw [hv]; exact hin)
          rw [← HT.out, ← hP.out] at hls
          have HL := Lib.hid hls
          have g2 : (v == (s : Int)) = false := by simpa using hin
          clear hls hv
          go_wp2_with fail
          refine CF.out.mono ?_
          rintro e w3 ⟨rfl, hb3⟩
          have O3 := Lib.hid (owns_below O2.out hb3)
          have B3 := Lib.hid (B2.out.trans (hb3.mono B2.out.size))
          clear hb3 e2 O2 B2 CF
          go_wp2_with fail
          go_roundw
          case rel => exact ⟨j + 1, P, by omega, by omega, by go_num, Lib.hid HL.out.symm, O3, B3⟩
          case measure => simp [intOf]; omega
    · have hjn : ws.take j = ws := List.take_of_length_le (by omega)
      have hP2 := hP.out
      rw [hjn] at hP2
      have HP := Lib.hid hP2
      clear hP hP2 hjn
      obtain ⟨a4, c4, rfl⟩ : ∃ a4 c4, u7 = .slice a4 P.length c4 := by
        rcases hO.out.2 with ⟨h, h0⟩ | ⟨g', c', cur, h, _⟩
        · exact ⟨none, 0, by rw [h, h0]⟩
        · exact ⟨_, c', h⟩
      have g0 : decide ((j : Int) < (n1 : Int)) = false := decide_eq_false (by omega)
      go_wp2_with fail
      go_ret
      exact ret_own HP.out rfl hO.out hB.out _ rfl
end Go.Proofs.YtbbholdadgjelaaGreat
/- contract of the reference's sum -/
namespace Go.Proofs.YtbbholdadgjelaaGreat
open Go.RowKit
set_option linter.unusedVariables false
set_option maxRecDepth 20000

theorem bit_of (x j : Nat) : ((x : Int) / 2 ^ j).tmod 2 = ((x / 2 ^ j % 2 : Nat) : Int) := by
  rw [Int.tmod_eq_emod_of_nonneg (Int.ediv_nonneg (by omega) (Int.pow_nonneg (by decide)))]
  norm_cast
theorem rst_yes (y x j : Nat) (h : y % 2 ≠ x / 2 ^ j % 2) : (((y : Int) % 2 != ((x : Int) / 2 ^ j).tmod 2)) = true := by
  rw [bit_of, bne_iff_ne]; omega
theorem rst_no (y x j : Nat) (h : y % 2 = x / 2 ^ j % 2) : (((y : Int) % 2 != ((x : Int) / 2 ^ j).tmod 2)) = false := by
  rw [bit_of, bne_eq_false_iff_eq]; omega
theorem flip_sub (r : Nat) (h : r < 4294967296) : (4294967295 : Int) - (r : Int) = ((4294967295 - r : Nat) : Int) := by omega

set_option maxHeartbeats 800000 in
theorem rsumOf_any (a : Option Addr) (n cap : Nat) (bs : List Nat) (w : World) (h : HoldsB w a n bs) (hn : n ≤ 4611686018427387904) :
    Calls Tryz.prog 99 #[.slice a n cap] w fun e w' => e = .returned (.int .u32 (Crc.sum bs)) ∧ w = w' := by
  have hl := h.len
  have hb := h.2
  rcases Nat.eq_zero_or_pos n with h0 | h0
  · subst h0
    obtain rfl := List.eq_nil_of_length_eq_zero hl
    clear h hl hb hn
    go_enter Tryz.func99, Tryz.ntmps99
    go_wp2
    go_loop [3, 4] (fun x i => i = .int .i64 0 ∧ x = .int .u32 4294967295) (fun _ _ => 0)
    case atStart => exact ⟨rfl, rfl⟩
    case round =>
      obtain ⟨rfl, rfl⟩ := hrel
      go_wp2
      go_ret
      exact ⟨rfl, rfl⟩
  · obtain ⟨b, o, rfl, hcell⟩ := h.at h0
    have HC := Lib.hid hcell; have HL := Lib.hid hl; have HB := Lib.hid hb
    clear hcell hl hb h
    go_enter Tryz.func99, Tryz.ntmps99
    go_wp2
    go_loop [3, 4] (fun x i => ∃ k : Nat, k ≤ n ∧ i = .int .i64 k ∧ x = .int .u32 (Crc.reg 4294967295 (bs.take k) : Nat)) (fun _ i => n - (intOf i).toNat)
    case atStart => exact ⟨0, by omega, rfl, rfl⟩
    case round =>
      obtain ⟨k, hk, rfl, rfl⟩ := hrel
      have hr := Crc.reg_lt (bs.take k) (fun x hx => HB.out x (List.mem_of_mem_take hx)) 4294967295 (by omega)
      by_cases hlt : k < n
      · have e1 := HC.out k hlt
        have hx := getD_lt HB.out k
        have hts := take_succ_getD bs 0 k (by rw [HL.out]; exact hlt)
        have hs : Crc.reg 4294967295 (bs.take (k + 1)) = Crc.rstN (Crc.reg 4294967295 (bs.take k)) (bs.getD k 0) 8 := by rw [hts, Crc.reg_append, Crc.rstN_8 _ _ hx]; rfl
        have HS := Lib.hid hs
        clear hs hts
        obtain ⟨x, hx1⟩ : ∃ x, bs.getD k 0 = x := ⟨_, rfl⟩
        obtain ⟨r, hr1⟩ : ∃ r, Crc.reg 4294967295 (bs.take k) = r := ⟨_, rfl⟩
        rw [hx1] at e1 hx HS
        rw [hr1] at hr HS ⊢
        clear hx1 hr1
        go_wp2
        go_loop [3, 5, 6] (fun c i _ => ∃ j : Nat, j ≤ 8 ∧ i = .int .i64 j ∧ c = .int .u32 (Crc.rstN r x j : Nat)) (fun _ i _ => 8 - (intOf i).toNat)
        case atStart => exact ⟨0, by omega, rfl, rfl⟩
        case round =>
          obtain ⟨j, hj, rfl, rfl⟩ := hrel
          have hy := Crc.rstN_lt hr hx j
          have hs : Crc.rstN r x (j + 1) = Crc.rst (Crc.rstN r x j) (x / 2 ^ j % 2) := rfl
          have HS2 := Lib.hid hs
          clear hs
          obtain ⟨y, hyy⟩ : ∃ y, Crc.rstN r x j = y := ⟨_, rfl⟩
          rw [hyy] at hy HS2 ⊢
          have HYY := Lib.hid hyy
          clear hyy
          by_cases hl8 : j < 8
          · by_cases hb : y % 2 = x / 2 ^ j % 2
            · have ht := rst_no y x j hb
              have HB2 := Lib.hid hb
              clear hb
              go_wp2
              go_round
              case rel => exact ⟨j + 1, by omega, by go_num, by rw [HS2.out, Crc.rst, if_neg (fun h => h HB2.out)]; go_num⟩
              case measure => simp [intOf]; omega
            · have ht := rst_yes y x j hb
              have HB2 := Lib.hid hb
              clear hb
              go_wp2
              go_round
              case rel => exact ⟨j + 1, by omega, by go_num, by rw [HS2.out, Crc.rst, if_pos HB2.out, xor_poly y hy]⟩
              case measure => simp [intOf]; omega
          · obtain rfl : j = 8 := by omega
            go_wp2
            go_round
            case rel => exact ⟨k + 1, by omega, by go_num, by rw [HS.out, HYY.out]⟩
            case measure => simp [intOf]; omega
      · have hkn : k = n := by omega
        have HK := Lib.hid hkn
        clear hkn
        go_wp2
        go_ret
        exact ⟨ret_int (by rw [flip_sub _ hr, List.take_of_length_le (by rw [HL.out, HK.out]; exact Nat.le_refl _)]; rfl), rfl⟩
end Go.Proofs.YtbbholdadgjelaaGreat
/- the document's Text, Prefix of one rune; its same -/
namespace Go.Proofs.YtbbholdadgjelaaGreat
open Go.RowKit
set_option linter.unusedVariables false
set_option maxRecDepth 20000
theorem encS_nums (r : Int) (l : List Int) (h : Lib.encodeRuneZ r = l) : strOfNums l = encS r := by
  subst h; rfl
theorem conv_lit (w : World) (xs : List Int) (n : Nat) (hn : xs.length = n) (h0 : 0 < n) : (convert 47 9 (.slice (some ⟨w.heap.size, 0, none⟩) n n)).run Tryz.prog (w.alloc (.cells (xs.map (Value.int .u8)).toArray 5)) = .ok (.string (strOfNums xs)) (w.alloc (.cells (xs.map (Value.int .u8)).toArray 5)) := by
  refine run_convert_bytes_arg (P := Tryz.prog) _ 47 5 Tryz.underlying47 Tryz.underlying5 w.heap.size 0 n n xs hn (fun i hi => ?_) 9 Tryz.underlying9
  show (w.alloc (.cells (xs.map (Value.int .u8)).toArray 5)).cell? _ = _
  rw [Nat.zero_add, World.cell?_alloc_mark]
  simp [List.getD_eq_getElem?_getD, hn, hi]
set_option maxHeartbeats 1600000 in
theorem bytes_any (r : Int) (w : World) (h : goodP r) :
    Calls Tryz.prog 106 #[.int .i32 r] w fun e w' => e = .returned (.string (encS r)) ∧ Below w.heap.size w w' := by
  have hc : r < 128 ∨ (128 ≤ r ∧ r < 2048) ∨ (2048 ≤ r ∧ r < 65536) ∨ 65536 ≤ r := by omega
  obtain ⟨g0, g1, g2, g3⟩ := h
  rcases hc with h | ⟨h, h2⟩ | ⟨h, h2⟩ | h
  · have hconv := conv_lit w [r] 1 rfl (by omega)
    have E := Lib.hid (encS_nums r _ (Lib.encodeRuneZ_one g0 (by omega)))
    dsimp only [List.map] at hconv
    go_enter Tryz.func106, Tryz.ntmps106
    go_wp2_with fail
    go_ret
    exact ⟨(show Ending.returned (Value.string _) = .returned (Value.string _) by rw [E.out]), below_one _ _⟩
  · have hconv := conv_lit w [192 + r / 64, 128 + r % 64] 2 rfl (by omega)
    have E := Lib.hid (encS_nums r _ (Lib.encodeRuneZ_two (by omega) (by omega)))
    dsimp only [List.map] at hconv
    go_enter Tryz.func106, Tryz.ntmps106
    go_wp2_with fail
    go_ret
    exact ⟨(show Ending.returned (Value.string _) = .returned (Value.string _) by rw [E.out]), below_one _ _⟩
  · have hconv := conv_lit w [224 + r / 4096, 128 + r / 64 % 64, 128 + r % 64] 3 rfl (by omega)
    have E := Lib.hid (encS_nums r _ (Lib.encodeRuneZ_three (by omega)))
    dsimp only [List.map] at hconv
    go_enter Tryz.func106, Tryz.ntmps106
    go_wp2_with fail
    go_ret
    exact ⟨(show Ending.returned (Value.string _) = .returned (Value.string _) by rw [E.out]), below_one _ _⟩
  · have hconv := conv_lit w [240 + r / 262144, 128 + r / 4096 % 64, 128 + r / 64 % 64, 128 + r % 64] 4 rfl (by omega)
    have E := Lib.hid (encS_nums r _ (Lib.encodeRuneZ_four (by omega) (by omega)))
    dsimp only [List.map] at hconv
    go_enter Tryz.func106, Tryz.ntmps106
    go_wp2_with fail
    go_ret
    exact ⟨(show Ending.returned (Value.string _) = .returned (Value.string _) by rw [E.out]), below_one _ _⟩
set_option maxHeartbeats 1600000 in
theorem rtext_any (a : Option Addr) (n cap : Nat) (zs : List Int) (w : World) (hh : HoldsI .i32 w a n zs) (hn : n ≤ 1048576) :
    Calls Tryz.prog 104 #[.slice a n cap] w fun e w' => e = .returned (.tuple #[.string (textZ zs), .bool (decide (allG zs))]) ∧ Below w.heap.size w w' := by
  have hl := hh.len
  go_enter Tryz.func104, Tryz.ntmps104
  go_wp2_with fail
  go_loopw [4, 5] (fun sv cv wr => ∃ j : Nat, j ≤ n ∧ cv = .int .i64 j ∧ sv = .string (encB (zs.take j)) ∧ Hid (allG (zs.take j)) ∧ Hid (Below w.heap.size w wr)) (fun _ cv _ => n - (intOf cv).toNat)
  case atStart =>
    refine ⟨0, by omega, rfl, rfl, Lib.hid (by simp [allG]), Lib.hid (Below.refl _ _)⟩
  case round =>
    obtain ⟨j, hj, rfl, rfl, hG, hB⟩ := hrel
    have hs := hB.out.size
    by_cases hlt : j < n
    · obtain ⟨b, o, rfl, hc⟩ := (hh.below hB.out).at (by omega)
      have H2 := Lib.hid (fun w2 (hb : Below wr.heap.size wr w2) => ((hh.below hB.out).below hb))
      have e1 := hc j hlt
      have hmem := getD_mem' zs j (by omega)
      have htk := take_succ_getD zs 0 j (by omega)
      obtain ⟨x, hx⟩ : ∃ x, zs.getD j 0 = x := ⟨_, rfl⟩
      rw [hx] at e1 hmem htk
      have HM := Lib.hid hmem; have HT := Lib.hid htk
      clear hx hmem htk hc
      have hgd := fun w => good_any x w
      by_cases hg : goodP x
      · rw [decide_eq_true hg] at hgd
        have HG := Lib.hid hg; have HD := Lib.hid hgd
        clear hg hgd
        have hsz : (encB (zs.take j)).size ≤ 4194304 := by
          have h1 := encB_size (zs.take j)
          have h2 : (zs.take j).length ≤ j := List.length_take_le _ _
          omega
        obtain ⟨S, hS⟩ : ∃ S, encB (zs.take j) = S := ⟨_, rfl⟩
        rw [hS] at hsz ⊢
        have HS := Lib.hid hS
        clear hS
        go_wp2_with fail
        refine (HD.out _).mono ?_
        rintro e w' ⟨rfl, rfl⟩
        go_wp2_with fail
        refine (bytes_any x _ HG.out).mono ?_
        rintro e w2 ⟨rfl, hb2⟩
        have hes : S ++ encS x = encB (zs.take (j + 1)) := by rw [← HS.out, encB_snoc, HT.out]
        have hsz2 : (encS x).size ≤ 4 := by
          have h1 := encode_le x
          simpa [encS, ByteArray.size] using h1
        go_wp2_with fail
        go_roundw
        case rel => exact ⟨j + 1, by omega, by go_num, rfl, Lib.hid (by rw [HT.out]; intro z hz; rcases List.mem_append.1 hz with hz | hz; exact hG.out z hz; simp at hz; rw [hz]; exact HG.out), Lib.hid (hB.out.trans (hb2.mono hs))⟩
        case measure => simp [intOf]; omega
      · rw [decide_eq_false hg] at hgd
        have hb2 := textZ_bad x HM.out hg
        have HD := Lib.hid hgd; have HB := Lib.hid hb2
        clear hg hgd hb2
        go_wp2_with fail
        refine (HD.out _).mono ?_
        rintro e w' ⟨rfl, rfl⟩
        go_wp2_with fail
        go_ret2
        exact ⟨by rw [HB.out.1, HB.out.2]; rfl, hB.out⟩
    · have hjn : zs.take j = zs := List.take_of_length_le (by omega)
      have hg := textZ_good (show allG zs by have := hG.out; rw [hjn] at this; exact this)
      have HJ := Lib.hid hjn; have HG := Lib.hid hg
      clear hjn hg
      go_wp2_with fail
      go_ret2
      exact ⟨by rw [HG.out.1, HG.out.2, HJ.out]; rfl, hB.out⟩
set_option maxHeartbeats 400000 in
theorem same8_any (a1 a2 : Option Addr) (n1 c1 n2 c2 : Nat) (z1 z2 : List Tx) (w : World) (h1 : HoldsT w a1 n1 z1) (h2 : HoldsT w a2 n2 z2) (hl1 : n1 ≤ 4611686018427387904) (hl2 : n2 ≤ 4611686018427387904) :
    Calls Tryz.prog 97 #[.slice a1 n1 c1, .slice a2 n2 c2] w fun e w' => e = .returned (.bool (decide (z1 = z2))) ∧ ∃ m, w' = w.drewN m := by
  have g1 := h1.len
  have g2 := h2.len
  have g1' := fun h0 => h1.at h0
  have g2' := fun h0 => h2.at h0
  clear h1 h2
  by_cases hn : n1 = n2
  · subst hn
    rcases Nat.eq_zero_or_pos n1 with h0 | h0
    · subst h0
      clear g1' g2'
      obtain rfl := List.eq_nil_of_length_eq_zero g1
      obtain rfl := List.eq_nil_of_length_eq_zero g2
      go_enter Tryz.func97, Tryz.ntmps97
      go_wp2
      go_loop [5] (fun i => i = .int .i64 0) (fun _ => 0)
      case atStart => rfl
      case round =>
        obtain rfl := hrel
        go_wp2
        go_ret
        exact ⟨rfl, 0, rfl⟩
    · obtain ⟨b1, o1, rfl, k1⟩ := g1' h0
      obtain ⟨b2, o2, rfl, k2⟩ := g2' h0
      clear g1' g2'
      have G1 := Lib.hid g1; have G2 := Lib.hid g2; have K1 := Lib.hid k1; have K2 := Lib.hid k2
      clear g1 g2 k1 k2
      go_enter Tryz.func97, Tryz.ntmps97
      go_wp2
      go_loopw [5] (fun i wr => ∃ k m : Nat, k ≤ n1 ∧ i = .int .i64 k ∧ z1.take k = z2.take k ∧ wr = w.drewN m) (fun i _ => n1 - (intOf i).toNat)
      case atStart => exact ⟨0, 0, by omega, rfl, rfl, rfl⟩
      case round =>
        obtain ⟨k, m, hk, rfl, he, rfl⟩ := hrel
        have HE := Lib.hid he
        clear he
        by_cases hlt : k < n1
        · have e1 := K1.out k hlt
          have e2 := K2.out k hlt
          obtain ⟨x, hx⟩ : ∃ x, z1.getD k ByteArray.empty = x := ⟨_, rfl⟩
          obtain ⟨y, hy⟩ : ∃ y, z2.getD k ByteArray.empty = y := ⟨_, rfl⟩
          rw [hx] at e1; rw [hy] at e2
          have HX := Lib.hid hx; have HY := Lib.hid hy
          clear hx hy
          by_cases hxy : x = y
          · subst hxy
            have hb := str_same x
            go_wp2
            go_quiet (fail)
            go_wp2
            go_roundw
            case rel => exact ⟨k + 1, _, by omega, by go_num, by rw [take_succ_getD z1 ByteArray.empty k (by rw [G1.out]; exact hlt), take_succ_getD z2 ByteArray.empty k (by rw [G2.out]; exact hlt), HE.out, HX.out, HY.out], rfl⟩
            case measure => simp [intOf]; omega
          · have hb := str_other hxy
            have HXY := Lib.hid hxy
            clear hxy
            go_wp2
            go_quiet (fail)
            go_wp2
            go_ret
            exact ⟨ret_bool (by symm; rw [decide_eq_false_iff_not]; exact take_ne_of_getD ByteArray.empty k (by rw [HX.out, HY.out]; exact HXY.out)), _, World.drewN_drewN _ _ _⟩
        · have hkn : k = n1 := by omega
          have HK := Lib.hid hkn
          clear hkn
          go_wp2
          go_ret
          exact ⟨ret_bool (by symm; rw [decide_eq_true_iff]; exact take_eq_all (n := k) HE.out (by rw [G1.out, HK.out]) (by rw [G2.out, HK.out])), _, rfl⟩
  · have hb : ((n1 : Int) != (n2 : Int)) = true := by simp; omega
    clear g1' g2'
    have HN := Lib.hid hn; have G1 := Lib.hid g1; have G2 := Lib.hid g2
    clear hn g1 g2
    go_enter Tryz.func97, Tryz.ntmps97
    go_wp2
    go_ret
    exact ⟨ret_bool (by symm; rw [decide_eq_false_iff_not]; intro e; exact HN.out (by rw [← G1.out, ← G2.out, e])), 0, rfl⟩
/-- a text's first rune -/
def headS (s : Tx) : Tx := textZ [(labS s : Int)]
set_option maxHeartbeats 1600000 in
theorem rprefix_one (s : ByteArray) (w : World) (hs : s.size ≤ 1048576) (hg : 0 ≤ lenS s) (h0 : 0 < s.size) :
    Calls Tryz.prog 98 #[.string s, .int .i64 1] w fun e w' => e = .returned (.string (headS s)) ∧ Below w.heap.size w w' := by
  have hr := r1runesq_any s w hs
  have hle := runesS_le s
  have hrs := rst_runes hg h0
  obtain ⟨P, hP⟩ : ∃ P, runesS s = P := ⟨_, rfl⟩
  unfold RunesQ at hr
  rw [hP] at hr hrs hle
  obtain ⟨k, hk⟩ : ∃ k, P.length = k := ⟨_, rfl⟩
  rw [hk] at hr hle
  have hk1 : 1 ≤ k := by rw [← hk, hrs]; simp
  have hp0 : P.getD 0 0 = labS s := by rw [hrs]; rfl
  have HR := Lib.hid hr; have HP0 := Lib.hid hp0; have HK := Lib.hid hk
  have hsz : k ≤ 1048576 := by omega
  have HG := Lib.hid hg
  clear hr hp0 hk hrs hP hg
  go_enter Tryz.func98, Tryz.ntmps98
  go_wp2_with fail
  refine HR.out.mono ?_
  rintro e w1 (⟨h1, a, c, rfl, h2, h3⟩ | ⟨h1, rfl, h3⟩)
  · have H3 := Lib.hid h3
    have hcc := (owns_none h2).2
    have HI : HoldsI .i32 w1 a k (intsN P) := by rw [← HK.out]; exact holdsI_own (by rw [HK.out]; exact h2)
    obtain ⟨b, o, rfl, hc⟩ := HI.at (by omega)
    have ex : (intsN P).getD 0 0 = (labS s : Int) := by
      rw [← HP0.out]
      have := HK.out
      simp [intsN, List.getD_eq_getElem?_getD, List.getElem?_eq_getElem (show 0 < P.length by omega)]
    have HT := Lib.hid (fun w2 => fun (hb : Below w1.heap.size w1 w2) (cc : Nat) => (rtext_any (some ⟨b, o, none⟩) 1 cc [(labS s : Int)] w2 (HoldsI.below (w := w1) (by
      refine ⟨rfl, fun _ => ⟨b, o, rfl, fun i hi => ?_⟩⟩
      obtain rfl : i = 0 := by omega
      have := hc 0 (by omega)
      rw [ex] at this
      exact this) hb) (by omega)))
    have HIH := Lib.hid HI
    clear h1 h2 h3 hc HI
    by_cases hk2 : 1 < k
    · have d1 : decide ((1 : Int) < (k : Int)) = true := decide_eq_true (by omega)
      have j1 : (1 : Int) ≤ (k : Int) := by omega
      go_wp2_with fail
      refine (HT.out _ (Below.refl _ _) _).mono ?_
      rintro e w2 ⟨rfl, hb⟩
      have B2 := Lib.hid (H3.out.trans (hb.mono H3.out.size))
      clear hb
      go_wp2_with fail
      go_ret
      exact ⟨rfl, B2.out⟩
    · obtain rfl : k = 1 := by omega
      go_wp2_with fail
      refine (HT.out _ (Below.refl _ _) _).mono ?_
      rintro e w2 ⟨rfl, hb⟩
      have B2 := Lib.hid (H3.out.trans (hb.mono H3.out.size))
      clear hb
      go_wp2_with fail
      go_ret
      exact ⟨rfl, B2.out⟩
  · exact absurd HG.out (by omega)
end Go.Proofs.YtbbholdadgjelaaGreat
