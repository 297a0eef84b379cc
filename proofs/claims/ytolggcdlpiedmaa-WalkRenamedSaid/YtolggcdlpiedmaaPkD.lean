/- texts joined -/
import Derived.Test.YtolggcdlpiedmaaPkC
import Derived.Deep.LoopGhost
import Derived.Deep.CutRange
import Derived.Deep.CutBlock
import Derived.Deep.RegionWith
import Derived.Deep.DeepCutAuto
import Derived.Deep.RegionHeld3
import Derived.Sort.Grow
import Derived.Test.YtolggcdlpiedmaaPkA
import Derived.Lib.SliceRun
import Derived.Deep.RegionLaw
import Derived.Outline
import Derived.Shelf.SlSortCmp.NoneTotal
import Derived.Ground.SlsfProg
import Derived.Sort.OwnSorted
import Derived.Laws.OwnMore
import Derived.WalkLawsBesides
import Derived.WalkSpells
import Derived.Deep.QuietTactic
import Derived.BigQuiet
import Derived.Lib.Hide
import Derived.Test.YtolggcdlpiedmaaPkB
import Derived.Shelf.Lay
import Derived.Shelf.LaySoft
import Derived.Shelf.Strings.Builder1
import Derived.Shelf.Strings.BuilderK
import Derived.Shelf.Strings.BuilderRune
import Derived.Shelf.Utf8.AppendRune
import Derived.Test.YtolggcdlpiedmaaChecked
import Derived.Lib.RuneBytes
/- walk: the steps that one step leads to: plain -/
namespace Go.Proofs.Ytolggcdlpiedmaa
open Go.RowKit
set_option linter.unusedVariables false
set_option maxRecDepth 20000
abbrev P4 := Nat × Tx × List Tx × List PV
def plW (e : SM) : P4 := (e.node, e.pre, e.l, e.S)
def outP (s : Tx) (k : Int) (K : List P4) : List KV := K.foldr (fun e r => r ++ subW e.2.1 s k e.2.2.1) []
theorem outP_app (s : Tx) (k : Int) : ∀ (K M : List P4), outP s k (K ++ M) = outP s k M ++ outP s k K
  | [], M => by simp [outP]
  | e :: K, M => by
    show outP s k (K ++ M) ++ _ = outP s k M ++ (outP s k K ++ _)
    rw [outP_app s k K M, List.append_assoc]
theorem outW_pl (s : Tx) (k : Int) : ∀ K : List SM, outW s k K = outP s k (K.map plW)
  | [] => rfl
  | e :: K => by
    show outW s k K ++ _ = outP s k (K.map plW) ++ _
    rw [outW_pl s k K]; rfl
def muP (K : List P4) : Nat := (K.map (fun e => wtS e.2.2.1 + 1)).sum
theorem muP_app (K M : List P4) : muP (K ++ M) = muP K + muP M := by simp [muP]
theorem muW_pl : ∀ K : List SM, muW K = muP (K.map plW)
  | [] => rfl
  | e :: K => by
    have := muW_pl K
    simp only [muW, muP, List.map_cons, List.sum_cons] at this ⊢
    rw [this]; rfl
structure P4Ok (R : List (List Tx)) (ts : List Tx) (s : Tx) (k : Int) (e : P4) : Prop where
  at_ : R[e.1]? = some e.2.2.1
  ok : OkL 12 e.2.2.1
  lo : 0 ≤ lenS e.2.1
  st : e.2.2.2 = stW s k e.2.1
  sub : ∀ t ∈ e.2.2.1, e.2.1 ++ t ∈ ts
  sz : e.2.1.size ≤ 100
  len : lenS e.2.1 ≤ 12
/-- what edge i leads to -/
def kidW (s : Tx) (k : Int) (p : Tx) (l0 : List Tx) (es : List EdP) (i : Nat) : Option P4 :=
  if stW s k (p ++ Utf8.encode ((folS (dropE i l0)).1 : Int)) = [] then none
  else some ((es.getD i ed0).dst.toNat, p ++ Utf8.encode ((folS (dropE i l0)).1 : Int), (folS (dropE i l0)).2, stW s k (p ++ Utf8.encode ((folS (dropE i l0)).1 : Int)))
/-- what is known along edge i -/
theorem edge_at {R : List (List Tx)} {ts : List Tx} {s : Tx} {k : Int} {p : Tx} {l0 : List Tx} {es : List EdP} (hts : ∀ t ∈ ts, 0 ≤ lenS t ∧ lenS t ≤ 12 ∧ t.size ≤ 100) (hE : EdOk R l0 es) (hR : Run l0) (hO : OkL 12 l0) (hp : 0 ≤ lenS p) (hs : ∀ t ∈ l0, p ++ t ∈ ts) {i : Nat} (hi : i < es.length) :
    dropE i l0 ≠ [] ∧ (es.getD i ed0).r = ((folS (dropE i l0)).1 : Int) ∧ (∃ d : Nat, (es.getD i ed0).dst = (d : Int) ∧ R[d]? = some (folS (dropE i l0)).2) ∧ OkL 12 (folS (dropE i l0)).2 ∧
      (∀ t ∈ (folS (dropE i l0)).2, (p ++ Utf8.encode ((folS (dropE i l0)).1 : Int)) ++ t ∈ ts) ∧ (p ++ Utf8.encode ((folS (dropE i l0)).1 : Int)).size ≤ 100 ∧ lenS (p ++ Utf8.encode ((folS (dropE i l0)).1 : Int)) ≤ 12 := by
  have h1 := hE.at i (by omega)
  rw [drop_ed es i hi] at h1
  obtain ⟨h2, h3, ⟨d, h4, h5⟩, -⟩ := h1
  have hRi := dropE_run hR i
  have hOi := dropE_ok hO i
  have hfl := fol_len _ h2
  have hok : OkL 12 (folS (dropE i l0)).2 := (hOi.mono (show 12 ≤ 12 + 1 by omega)).fol hRi.pos
  have hsub : ∀ t ∈ (folS (dropE i l0)).2, (p ++ Utf8.encode ((folS (dropE i l0)).1 : Int)) ++ t ∈ ts := fun t ht => by
    have h6 := List.mem_map_of_mem (f := fun x => (p ++ Utf8.encode ((folS (dropE i l0)).1 : Int)) ++ x) ht
    rw [fol_map hRi h2 p] at h6
    obtain ⟨u, hu, e⟩ := List.mem_map.1 h6
    have e' : p ++ u = (p ++ Utf8.encode ((folS (dropE i l0)).1 : Int)) ++ t := e
    rw [← e']
    exact hs u (dropE_mem i (List.mem_of_mem_take hu))
  obtain ⟨t, ht⟩ : ∃ t, t ∈ (folS (dropE i l0)).2 := by
    cases h : (folS (dropE i l0)).2 with
    | nil => rw [h] at hfl; simp at hfl
    | cons t l => exact ⟨t, by simp⟩
  have h7 := hts _ (hsub t ht)
  have h8 := edge_text hp hRi h2
  have h9 := hok.lo t ht
  have h10 : lenS ((p ++ Utf8.encode ((folS (dropE i l0)).1 : Int)) ++ t) = lenS (p ++ Utf8.encode ((folS (dropE i l0)).1 : Int)) + lenS t := lenS_join _ _ (by rw [h8.1]; omega) h9
  refine ⟨h2, h3, ⟨d, h4, h5⟩, hok, hsub, ?_, ?_⟩
  · have := h7.2.2
    rw [ByteArray.size_append] at this; omega
  · omega
theorem kids_from {R : List (List Tx)} {ts : List Tx} {s : Tx} {k : Int} {p : Tx} {l0 : List Tx} {es : List EdP} (hts : ∀ t ∈ ts, 0 ≤ lenS t ∧ lenS t ≤ 12 ∧ t.size ≤ 100) (hE : EdOk R l0 es) (hR : Run l0) (hO : OkL 12 l0) (hs0 : 0 ≤ lenS s) (hk : 0 ≤ k) (hp : 0 ≤ lenS p) (hs : ∀ t ∈ l0, p ++ t ∈ ts) :
    ∀ d j, j + d = es.length → outP s k (((List.range es.length).drop j).reverse.filterMap (kidW s k p l0 es)) = subW p s k (dropE j l0) ∧ muP (((List.range es.length).drop j).reverse.filterMap (kidW s k p l0 es)) ≤ wtS (dropE j l0) ∧
      ∀ c ∈ ((List.range es.length).drop j).reverse.filterMap (kidW s k p l0 es), P4Ok R ts s k c
  | 0, j, h => by
    obtain rfl : j = es.length := by omega
    rw [List.drop_of_length_le (by simp), hE.end]
    exact ⟨rfl, Nat.zero_le _, fun c hc => by cases hc⟩
  | d + 1, j, h => by
    obtain ⟨h1, h2, h3⟩ := kids_from hts hE hR hO hs0 hk hp hs d (j + 1) (by omega)
    have hj : j < es.length := by omega
    obtain ⟨e1, e2, ⟨n, e3, e4⟩, e5, e6, e7, e8⟩ := edge_at (k := k) (s := s) hts hE hR hO hp hs hj
    have hRi := dropE_run hR j
    have e9 := edge_text hp hRi e1
    have e10 := subW_edge (s := s) (p := p) (k := k) hRi e1
    have e11 := wt_fol e1 hRi.lo hRi.pos
    rw [show ((List.range es.length).drop j).reverse = ((List.range es.length).drop (j + 1)).reverse ++ [j] by rw [List.drop_eq_getElem_cons (by simpa using hj)]; simp, List.filterMap_append, outP_app, muP_app]
    have hd : dropE (j + 1) l0 = (dropE j l0).drop (folS (dropE j l0)).2.length := rfl
    rw [hd] at h1 h2
    by_cases hdead : stW s k (p ++ Utf8.encode ((folS (dropE j l0)).1 : Int)) = []
    · have hkid : [j].filterMap (kidW s k p l0 es) = [] := by simp [kidW, hdead]
      have h4 := subW_dead (l := (folS (dropE j l0)).2) hs0 (by rw [e9.1]; omega) hk hdead e5.lo
      rw [hkid]
      refine ⟨?_, ?_, fun c hc => h3 c (by simpa using hc)⟩
      · rw [e10, h4, h1]; rfl
      · show muP _ + 0 ≤ _; omega
    · have hkid : [j].filterMap (kidW s k p l0 es) = [(n, p ++ Utf8.encode ((folS (dropE j l0)).1 : Int), (folS (dropE j l0)).2, stW s k (p ++ Utf8.encode ((folS (dropE j l0)).1 : Int)))] := by
        simp only [List.filterMap_cons, List.filterMap_nil, kidW, if_neg hdead, e3]; rfl
      rw [hkid]
      refine ⟨?_, ?_, fun c hc => ?_⟩
      · rw [e10, h1]; rfl
      · have : muP [(n, p ++ Utf8.encode ((folS (dropE j l0)).1 : Int), (folS (dropE j l0)).2, stW s k (p ++ Utf8.encode ((folS (dropE j l0)).1 : Int)))] = wtS (folS (dropE j l0)).2 + 1 := by simp [muP]
        rw [this]; omega
      · rcases List.mem_append.1 hc with hc | hc
        · exact h3 c hc
        · simp only [List.mem_singleton] at hc
          subst hc
          exact ⟨e4, e5, by show 0 ≤ lenS _; rw [e9.1]; omega, rfl, e6, e7, e8⟩
end Go.Proofs.Ytolggcdlpiedmaa
/- walk: matches, of a graph -/
namespace Go.Proofs.Ytolggcdlpiedmaa
open Go.RowKit
set_option linter.unusedVariables false
set_option maxRecDepth 20000
attribute [local go_sem] Oper.semAt_some
/-- the step that is gone on from, in its box -/
def AtBox (tb : Nat) (e : SM) (w : World) : Prop := w.heap[tb]? = some (.cells #[.int .i64 (e.node : Int), .string e.pre, .slice e.a e.S.length e.c] 98 (0, 0))
theorem AtBox.kept {tb : Nat} {e : SM} {w w' : World} {row : Option Nat} (h : AtBox tb e w) (hg : w.grownBy w' row) (hr : row ≠ some tb) : AtBox tb e w' :=
  (hg.block tb (Array.getElem?_eq_some_iff.1 h).1 (fun e => hr e.symm)).trans h
theorem AtBox.more {tb : Nat} {e : SM} {w w' : World} (h : AtBox tb e w) (hb : Below w.heap.size w w') : AtBox tb e w' := h.kept (grown_below hb) (by simp)
theorem AtBox.cells {tb : Nat} {e : SM} {w : World} (h : AtBox tb e w) : w.cell? ⟨tb, 0, none⟩ = some (.int .i64 (e.node : Int)) ∧ w.cell? ⟨tb, 1, none⟩ = some (.string e.pre) ∧ w.cell? ⟨tb, 2, none⟩ = some (.slice e.a e.S.length e.c) := by
  simp [World.cell?, show w.heap[tb]? = _ from h]
theorem AtBox.row {tb : Nat} {e : SM} {w w' : World} {base : Nat} {t : TypeId} {size : Nat} {v : Value} {n : Nat} {xs : List Value} (h : AtBox tb e w) (o : w.ownsRow base t size v n xs) (hg : w.grownBy w' v.ownBlock) (ht : t ≠ 98) : AtBox tb e w' :=
  h.kept hg (fun e' => by
    obtain ⟨_, cur, hc⟩ := row_block o e'
    rw [show w.heap[tb]? = _ from h] at hc; cases hc; exact ht rfl)
theorem MarkAt.row {B : Nat} {Ds : List Nat} {w w' : World} {base : Nat} {t : TypeId} {size : Nat} {v : Value} {n : Nat} {xs : List Value} (h : MarkAt B Ds w) (o : w.ownsRow base t size v n xs) (hg : w.grownBy w' v.ownBlock) : MarkAt B Ds w' :=
  h.kept hg (fun r e hm => by
    obtain ⟨_, cur, hc⟩ := row_block o e
    rw [(h.2 r hm).2] at hc; cases hc)
theorem MarkAt.more {B : Nat} {Ds : List Nat} {w w' : World} (h : MarkAt B Ds w) (hb : Below w.heap.size w w') : MarkAt B Ds w' := h.kept (grown_below hb) (fun r e => by cases e)
theorem step_info : (Try.prog.info? 98).map (fun i => (i.zero, i.size, i.bytes)) = some (some (.agg #[.int .i64 0, .string ⟨#[]⟩, .slice none 0 0]), 3, 48) := by kernel_rfl
theorem itemW_info : (Try.prog.info? 24).map (fun i => (i.zero, i.size, i.bytes)) = some (some (.agg #[.int .i64 0, .string ⟨#[]⟩]), 2, 24) := by kernel_rfl
/-- an edge in its box -/
def EBox (b : Nat) (ed : EdP) (w : World) : Prop := w.heap[b]? = some (.cells #[.int .i32 ed.r, .int .i64 ed.dst] 92 (0, 0))
theorem EBox.cells {b : Nat} {ed : EdP} {w : World} (h : EBox b ed w) : w.cell? ⟨b, 0, none⟩ = some (.int .i32 ed.r) ∧ w.cell? ⟨b, 1, none⟩ = some (.int .i64 ed.dst) := by
  simp [World.cell?, show w.heap[b]? = _ from h]
theorem EBox.kept {b : Nat} {ed : EdP} {w w' : World} {row : Option Nat} (h : EBox b ed w) (hg : w.grownBy w' row) (hr : ∀ r, row = some r → ∃ o : Obj, w.heap[r]? = some o ∧ o.isCells = false) : EBox b ed w' :=
  (hg.block b (Array.getElem?_eq_some_iff.1 h).1 (fun e => by
    obtain ⟨o, ho, hn⟩ := hr b e.symm
    rw [show w.heap[b]? = _ from h] at ho; cases ho; cases hn)).trans h
theorem EBox.more {b : Nat} {ed : EdP} {w w' : World} (h : EBox b ed w) (hb : Below w.heap.size w w') : EBox b ed w' := h.kept (grown_below hb) (fun r e => by cases e)
/-- what a round of the edges' loop keeps -/
structure RI (B : Nat) (w0 : World) (p5 p7 bx : Nat) (k : Int) (q : List Int) (qa : Option Addr) (qn qc : Nat) (oa : Option Addr) (oc : Nat) (out : List KV) (K1 : List SM) (e : SM) (tb : Nat) (Ds : List Nat) (bb : Nat) (ea : Option Addr) (w13 : World) (fam : Nat → Option P4) (pre : List Nat) (sa : Option Addr) (sc : Nat) (Kk : List SM) (W : World) : Prop where
  q : WQ B w0 p5 p7 bx k q qa qn qc oa oc out sa sc (K1 ++ Kk) [e] W
  t : AtBox tb e W
  ne : sa ≠ some ⟨tb, 0, none⟩
  m : MarkAt B Ds W
  kp : KpE bb ea w13 W
  kids : Kk.map plW = pre.filterMap fam
theorem RI.book {B : Nat} {w0 : World} {p5 p7 bx : Nat} {k : Int} {q : List Int} {qa : Option Addr} {qn qc : Nat} {oa : Option Addr} {oc : Nat} {out : List KV} {K1 : List SM} {e : SM} {tb : Nat} {Ds : List Nat} {bb : Nat} {ea : Option Addr} {w13 : World} {fam : Nat → Option P4} {pre : List Nat} {sa : Option Addr} {sc : Nat} {Kk : List SM} {W W' : World} {row : Option Nat}
    (h : RI B w0 p5 p7 bx k q qa qn qc oa oc out K1 e tb Ds bb ea w13 fam pre sa sc Kk W) (hz : B ≤ w13.heap.size) (hD : ∀ D ∈ Ds, D < w13.heap.size) (hbb : bb < w13.heap.size) (hea : ∀ b o, ea = some ⟨b, o, none⟩ → b < w13.heap.size) (hg : W.grownBy W' row) (hr : ∀ r, row = some r → w13.heap.size ≤ r ∧ ∃ o : Obj, W.heap[r]? = some o ∧ o.isCells = false) (hs : w13.heap.size ≤ W.heap.size) :
    RI B w0 p5 p7 bx k q qa qn qc oa oc out K1 e tb Ds bb ea w13 fam pre sa sc Kk W' :=
  ⟨h.q.book hg (fun r e => ⟨Nat.le_trans hz (hr r e).1, (hr r e).2⟩), h.t.kept hg (fun e' => by
      obtain ⟨_, o, ho, hn⟩ := hr tb e'
      rw [show W.heap[tb]? = _ from h.t] at ho; cases ho; cases hn), h.ne, h.m.kept hg (fun r e hm => by have := hD r hm; have := (hr r e).1; omega),
    h.kp.trans (fun i hi => hg.block i (by
      rcases hi with rfl | ⟨o, hi⟩
      · omega
      · have := hea i o hi; omega) (fun e' => by
      have h1 := (hr i e'.symm).1
      rcases hi with rfl | ⟨o, hi⟩
      · omega
      · have := hea i o hi; omega)), h.kids⟩
theorem RI.more {B : Nat} {w0 : World} {p5 p7 bx : Nat} {k : Int} {q : List Int} {qa : Option Addr} {qn qc : Nat} {oa : Option Addr} {oc : Nat} {out : List KV} {K1 : List SM} {e : SM} {tb : Nat} {Ds : List Nat} {bb : Nat} {ea : Option Addr} {w13 : World} {fam : Nat → Option P4} {pre : List Nat} {sa : Option Addr} {sc : Nat} {Kk : List SM} {W W' : World}
    (h : RI B w0 p5 p7 bx k q qa qn qc oa oc out K1 e tb Ds bb ea w13 fam pre sa sc Kk W) (hz : B ≤ w13.heap.size) (hD : ∀ D ∈ Ds, D < w13.heap.size) (hbb : bb < w13.heap.size) (hea : ∀ b o, ea = some ⟨b, o, none⟩ → b < w13.heap.size) (hs : w13.heap.size ≤ W.heap.size) (hb : Below W.heap.size W W') :
    RI B w0 p5 p7 bx k q qa qn qc oa oc out K1 e tb Ds bb ea w13 fam pre sa sc Kk W' := h.book hz hD hbb hea (grown_below hb) (fun r e => by cases e) hs
theorem wk_holdsI {w : World} {base : Nat} {a : Option Addr} {n c : Nat} {rs : List Int} (h : w.ownsRow base 21 1 (.slice a n c) n (runesV rs)) (hn : rs.length = n) : HoldsI .i32 w a n rs := by
  subst hn
  have hv := owns_holds h
  refine ⟨rfl, fun h0 => ?_⟩
  obtain ⟨b, o, e, hc⟩ := hv.2 h0
  exact ⟨b, o, e, fun i hi => by rw [hc i hi, runesV, getD_map_int .i32 rs i hi]⟩
theorem keeps_below {w w' : World} (hb : Below w.heap.size w w') : KeepsOthers w w' := ⟨hb.size, fun k o hk _ => (hb.block k (Array.getElem?_eq_some_iff.1 hk).1).trans hk⟩
theorem RI.push {B : Nat} {w0 : World} {p5 p7 bx : Nat} {k : Int} {q : List Int} {qa : Option Addr} {qn qc : Nat} {oa : Option Addr} {oc : Nat} {out : List KV} {K1 : List SM} {e : SM} {tb : Nat} {Ds : List Nat} {bb : Nat} {ea : Option Addr} {w13 : World} {fam : Nat → Option P4} {pre : List Nat} {sa : Option Addr} {sc : Nat} {Kk : List SM} {W w6 : World} {kn g cap : Nat} {o : Obj}
    (x : Nat) (c : SM) (h : RI B w0 p5 p7 bx k q qa qn qc oa oc out K1 e tb Ds bb ea w13 fam pre sa sc Kk W) (hkn : (K1 ++ Kk).length = kn) (hx : fam x = some (plW c))
    (hke : ∀ i, (i = bb ∨ ∃ o, ea = some ⟨i, o, none⟩) → ∃ cur t fr, w13.heap[i]? = some (.cells cur t fr) ∧ t ≠ 98 ∧ t ≠ 99)
    (hc : W.ownsRow B 119 2 (.slice c.a c.S.length c.c) c.S.length (posV c.S))
    (hown : w6.ownsRow B 98 3 (.slice (some ⟨g, 0, none⟩) (kn + 1) cap) (kn + 1) (smV (K1 ++ Kk) ++ [.int .i64 (c.node : Int), .string c.pre, .slice c.a c.S.length c.c]))
    (hg : (W.alloc o).grownBy w6 (Value.slice sa kn sc).ownBlock) (hat : (Value.slice sa kn sc).ownBlock = some g ∨ g = (W.alloc o).heap.size) :
    Boxed w6 bx 99 (.slice sa kn sc) ∧ KeepsOthers W (w6.setCell ⟨bx, 0, none⟩ (.slice (some ⟨g, 0, none⟩) (kn + 1) cap)) ∧ KpE bb ea W (w6.setCell ⟨bx, 0, none⟩ (.slice (some ⟨g, 0, none⟩) (kn + 1) cap)) ∧ W.heap.size ≤ (w6.setCell ⟨bx, 0, none⟩ (.slice (some ⟨g, 0, none⟩) (kn + 1) cap)).heap.size ∧
      RI B w0 p5 p7 bx k q qa qn qc oa oc out K1 e tb Ds bb ea w13 fam (pre ++ [x]) (some ⟨g, 0, none⟩) cap (Kk ++ [c]) (w6.setCell ⟨bx, 0, none⟩ (.slice (some ⟨g, 0, none⟩) (kn + 1) cap)) := by
  subst hkn
  obtain ⟨h1, h2⟩ := h.q.push c hc hown hg
  have hA := below_one W o
  have hsz : (W.alloc o).heap.size = W.heap.size + 1 := by simp
  have hrow := h.q.s.alloc o
  have hr : ∀ r, (Value.slice sa (K1 ++ Kk).length sc).ownBlock = some r → ∃ cur, (W.alloc o).heap[r]? = some (.cells cur 98 (0, 0)) := fun r e => (row_block hrow e).2
  have htl : tb < W.heap.size := (Array.getElem?_eq_some_iff.1 h.t).1
  have hg2 := grownBy_setCell' w6 bx (.slice (some ⟨g, 0, none⟩) ((K1 ++ Kk).length + 1) cap)
  have hk1 : KeepsOthers (W.alloc o) w6 := KeepsOthers.of_grownBy hg (fun j ob ej hj => by
    obtain ⟨cur, hcur⟩ := hr j ej
    rw [hcur] at hj; cases hj; rfl)
  have hne2 : ∀ r, (Value.slice sa (K1 ++ Kk).length sc).ownBlock = some r → sa = some ⟨r, 0, none⟩ := fun r e => gown_at hrow e.symm
  refine ⟨h1, ((KeepsOthers.alloc W o).trans hk1).trans (KeepsOthers.setCell _ _ _), ?_, Nat.le_trans (by have := hg.size; omega) hg2.size, ⟨?_, ?_, ?_, ?_, ?_, ?_⟩⟩
  · intro i hi
    obtain ⟨cur, t, fr, h3, h4, h5⟩ := hke i hi
    have h6 : W.heap[i]? = some (.cells cur t fr) := (h.kp i hi).trans h3
    have h7 : (W.alloc o).heap[i]? = some (.cells cur t fr) := (hA.block i (Array.getElem?_eq_some_iff.1 h6).1).trans h6
    have h8 : w6.heap[i]? = some (.cells cur t fr) := (hg.block i (Array.getElem?_eq_some_iff.1 h7).1 (fun e => by
      obtain ⟨cur2, hcur⟩ := hr i e.symm
      rw [hcur] at h7; cases h7; exact h4 rfl)).trans h7
    exact ((hg2.block i (Array.getElem?_eq_some_iff.1 h8).1 (fun e => by
      cases e
      rw [show w6.heap[bx]? = _ from h1] at h8; cases h8; exact h5 rfl)).trans h8).trans h6.symm
  · rw [← List.append_assoc]; exact h2
  · have h3 : AtBox tb e w6 := (h.t.more hA).kept hg (fun e' => h.ne (hne2 tb e'))
    refine h3.kept hg2 (fun e' => ?_)
    cases e'
    have h4 : w6.heap[bx]? = some _ := h3
    rw [show w6.heap[bx]? = _ from h1] at h4; cases h4
  · intro e'
    injection e' with e'; injection e' with e'
    subst e'
    rcases hat with hh | hh
    · exact h.ne (hne2 g hh)
    · omega
  · exact ((h.m.more hA).row hrow hg).kept hg2 (fun r e' hm => by
      cases e'
      have := (((h.m.more hA).row hrow hg).2 _ hm).2
      rw [show w6.heap[bx]? = _ from h1] at this; cases this)
  · intro i hi
    obtain ⟨cur, t, fr, h3, h4, h5⟩ := hke i hi
    have h6 : W.heap[i]? = some (.cells cur t fr) := (h.kp i hi).trans h3
    have h7 : (W.alloc o).heap[i]? = some (.cells cur t fr) := (hA.block i (Array.getElem?_eq_some_iff.1 h6).1).trans h6
    have h8 : w6.heap[i]? = some (.cells cur t fr) := (hg.block i (Array.getElem?_eq_some_iff.1 h7).1 (fun e => by
      obtain ⟨cur2, hcur⟩ := hr i e.symm
      rw [hcur] at h7; cases h7; exact h4 rfl)).trans h7
    exact ((hg2.block i (Array.getElem?_eq_some_iff.1 h8).1 (fun e => by
      cases e
      rw [show w6.heap[bx]? = _ from h1] at h8; cases h8; exact h5 rfl)).trans h8).trans h3.symm
  · rw [List.map_append, h.kids, List.filterMap_append]
    simp [hx]
def wFr (p5 p7 bx tb eb : Nat) (U : Nat → Value) : Array Value := #[U 0, U 1, U 2, U 3, U 4, .pointer (some ⟨p5, 0, none⟩), U 6, .pointer (some ⟨p7, 0, none⟩), U 8, U 9, .pointer (some ⟨bx, 0, none⟩), .pointer (some ⟨tb, 0, none⟩), U 12, U 13, U 14, .pointer (some ⟨eb, 0, none⟩), U 16, U 17, U 18, U 19, U 20, U 21, U 22, U 23, U 24, U 25, U 26, U 27, U 28, U 29, U 30, U 31, U 32, U 33, U 34, U 35, U 36, U 37, U 38, U 39, U 40, U 41, U 42, U 43, U 44, U 45, U 46, U 47, U 48, U 49, U 50, U 51, U 52, U 53, U 54, U 55, U 56, U 57, U 58, U 59, U 60, U 61, U 62, U 63, U 64, U 65, U 66, U 67, U 68, U 69, U 70, U 71, U 72, U 73, U 74, U 75, U 76, U 77, U 78, U 79, U 80, U 81, U 82, U 83, U 84, U 85, U 86, U 87, U 88, U 89, U 90, U 91, U 92, U 93, U 94, U 95, U 96, U 97, U 98, U 99, U 100, U 101, U 102, U 103, U 104, U 105, U 106, U 107, U 108]
theorem row_turn {w w' : World} {F : Nat → Prop} {base : Nat} {e : TypeId} {size : Nat} {v : Value} {n : Nat} {xs : List Value} (h : w.ownsRow base e size v n xs) (t : Turn F w w') (hF : ∀ k, F k → ∃ o : Obj, w.heap[k]? = some o ∧ o.isCells = false) : w'.ownsRow base e size v n xs := by
  obtain ⟨h1, h2⟩ := h
  refine ⟨h1, ?_⟩
  rcases h2 with h | ⟨g, cap, cur, hv, hb, hgb, h5⟩
  · exact .inl h
  · exact .inr ⟨g, cap, cur, hv, hb, (t.block g (Array.getElem?_eq_some_iff.1 hgb).1 (fun hf => by
      obtain ⟨o, ho, hc⟩ := hF g hf
      rw [hgb] at ho; cases ho; cases hc)).trans hgb, h5⟩
theorem bod_sub {l : List Tx} {t : Tx} (h : t ∈ bodS l) : t ∈ l := by
  unfold bodS at h
  split at h
  · exact List.mem_of_mem_tail h
  · exact h
def mFr (g : Nat) (s : Tx) (k : Int) (p5 p7 bx : Nat) (oa : Option Addr) (on oc : Nat) (U : Nat → Value) : Array Value := #[.pointer (some ⟨g, 0, none⟩), .string s, .int .i64 k, U 3, U 4, .pointer (some ⟨p5, 0, none⟩), U 6, .pointer (some ⟨p7, 0, none⟩), U 8, .slice oa on oc, .pointer (some ⟨bx, 0, none⟩), U 11, U 12, U 13, U 14, U 15, U 16, U 17, U 18, U 19, U 20, U 21, U 22, U 23, U 24, U 25, U 26, U 27, U 28, U 29, U 30, U 31, U 32, U 33, U 34, U 35, U 36, U 37, U 38, U 39, U 40, U 41, U 42, U 43, U 44, U 45, U 46, U 47, U 48, U 49, U 50, U 51, U 52, U 53, U 54, U 55, U 56, U 57, U 58, U 59, U 60, U 61, U 62, U 63, U 64, U 65, U 66, U 67, U 68, U 69, U 70, U 71, U 72, U 73, U 74, U 75, U 76, U 77, U 78, U 79, U 80, U 81, U 82, U 83, U 84, U 85, U 86, U 87, U 88, U 89, U 90, U 91, U 92, U 93, U 94, U 95, U 96, U 97, U 98, U 99, U 100, U 101, U 102, U 103, U 104, U 105, U 106, U 107, U 108]
set_option maxRecDepth 100000 in
set_option maxHeartbeats 4000000 in
theorem matches_good (g : Nat) (ts : List Tx) (st : List GN) (G : GOk st ts) (Sg : Nat → Prop) (s : Tx) (k : Int) (w : World) (hG : GAt g st w Sg) (hts : ∀ t ∈ ts, 0 ≤ lenS t ∧ lenS t ≤ 12 ∧ t.size ≤ 100) (hn : ts.length ≤ 100) (hs : s.size ≤ 1048576) (ha : 0 ≤ lenS s ∧ lenS s ≤ 16) (hk : 0 ≤ k ∧ k ≤ 4) :
    Calls Try.prog 36 #[.pointer (some ⟨g, 0, none⟩), .string s, .int .i64 k] w (RetI w (nearL ts s k)) := by
  have CA := Lib.hid (fun w => asked_lit s true w (by omega) (decide_eq_true ha))
  have CR := Lib.hid (fun w => runes_good s w hs ha.1)
  have hk1 : ¬ k < 0 := by omega
  have hk2 : ¬ 4 < k := by omega
  have GH := Lib.hid hG
  have TH := Lib.hid hts
  have hsz : (runesS s).length ≤ 16 := by
    have := (lenS_pos ha.1).2; omega
  obtain ⟨qn, hqn⟩ : ∃ n, (runesS s).length = n := ⟨_, rfl⟩
  rw [hqn] at hsz CR
  have CS := Lib.hid (fun a c w => start_yes a qn c k w hk)
  refine (callsIn_wide (n := 9)).1 (callsIn_of_wp_marks (F := Fence.wide) Try.func36 rfl trivial (wpIn_wide.2 ?_) rfl)
  simp only [Try.ntmps36, List.size_toArray, List.length_cons, List.length_nil, Nat.reduceAdd, Nat.reduceSub, Array.replicate_succ, Array.replicate_zero, List.push_toArray, List.append_toArray, List.nil_append, List.cons_append]
  clear hG hts
  have X0 := Lib.hid (Boxed.new w 3 (.int .i64 k))
  have B0 := Lib.hid (below_one w (.cells #[.int .i64 k] 3))
  go_wp2_with fail
  refine (CA.out _).mono ?_
  rintro e w1 ⟨rfl, hb1⟩
  have X1 := Lib.hid (boxed_kept X0.out (grown_below hb1) (fun r e => by cases e))
  have B1 := Lib.hid (B0.out.trans (hb1.mono B0.out.size))
  have c1 := X1.out.cell
  clear hb1 X0 B0
  go_wp2_with fail
  refine (CR.out _).mono ?_
  rintro e w2 ⟨qa, qc, rfl, hq2, hb2, hq3⟩
  have hql : (intsN (runesS s)).length = qn := by rw [intsN_length, hqn]
  rw [hql] at hq2
  have X2 := Lib.hid (boxed_kept X1.out (grown_below hb2) (fun r e => by cases e))
  have B2 := Lib.hid (B1.out.trans (hb2.mono B1.out.size))
  have c2 := X2.out.cell
  have hW2 : w.heap.size ≤ w2.heap.size := B2.out.size
  have Q2 := Lib.hid (hq2.mono' B1.out.size)
  clear hb2 X1 c1 hq2 B1
  have X3 := Lib.hid (X2.out.alloc (.cells #[.slice qa qn qc] 83))
  have Y3 := Lib.hid (Boxed.new w2 83 (.slice qa qn qc))
  have B3 := Lib.hid (B2.out.alloc B2.out.size (.cells #[.slice qa qn qc] 83))
  have Q3 := Lib.hid (Q2.out.alloc (.cells #[.slice qa qn qc] 83))
  have c3 := X3.out.cell
  clear c2 X2 Q2 B2
  go_wp2_with fail
  refine (CS.out _ _ _).mono ?_
  rintro e w3 ⟨sa0, sc0, rfl, ho3, hb3⟩
  go_wp2_with fail
  have B4 := Lib.hid (show Below w.heap.size w w3 from B3.out.trans (hb3.mono B3.out.size))
  obtain ⟨w4, hw4⟩ : ∃ w4, ((w3.alloc (Obj.cells #[Value.int IntKind.i64 0, Value.string { data := #[] }, Value.slice sa0 1 sc0] 98)).alloc (Obj.cells #[Value.slice (some { block := w3.heap.size, off := 0 }) 1 1] 99)) = w4 := ⟨_, rfl⟩
  have Q4 := Lib.hid (show WQ w.heap.size w w.heap.size w2.heap.size (w3.heap.size + 1) k (intsN (runesS s)) qa qn qc none 0 [] (some ⟨w3.heap.size, 0, none⟩) 1 [⟨0, ⟨#[]⟩, ts, [(0, 0)], sa0, sc0⟩] [] w4 from by
    have h35 := boxed_kept X3.out (grown_below hb3) (fun r e => by cases e)
    have h37 := boxed_kept Y3.out (grown_below hb3) (fun r e => by cases e)
    have h3q := row_kept Q3.out (grown_below hb3) (fun r e => by cases e)
    subst hw4
    refine ⟨⟨(B4.out.alloc B4.out.size _).alloc (by have := B4.out.size; simp; omega) _, by have := B4.out.size; simp; omega, (h35.alloc _).alloc _, (h37.alloc _).alloc _, (h3q.alloc _).alloc _, fun e he => ?_⟩, World.ownsRow_nil _ _ _ _, ?_, ?_, by have := B4.out.size; omega⟩
    · simp only [List.append_nil, List.mem_singleton] at he
      subst he
      exact ((ho3.mono' (by have := B3.out.size; simpa using this)).alloc _).alloc _
    · exact ((World.ownsRow_lit w3 #[.int .i64 0, .string ⟨#[]⟩, .slice sa0 1 sc0] 1 (Nat.le_refl _) (by unfold maxLen; omega) rfl).mono' B4.out.size).alloc _
    · have := Boxed.new (w3.alloc (Obj.cells #[Value.int IntKind.i64 0, Value.string { data := #[] }, Value.slice sa0 1 sc0] 98)) 99 (.slice (some ⟨w3.heap.size, 0, none⟩) 1 1)
      simpa using this)
  rw [hw4]
  have hW3 : w.heap.size ≤ w3.heap.size := B4.out.size
  clear hw4 X3 Y3 B3 Q3 c3 hb3 ho3 CA CR CS hk1 hk2 B4 hq3
  refine wp_loop_ghost_k (fun n a wr => ∃ (oa : Option Addr) (oc on : Nat) (out : List KV) (sa : Option Addr) (sc sn : Nat) (K : List SM) (Ds : List Nat) (ds : List Deferred),
    Hid (out.length = on) ∧ Hid (K.length = sn) ∧ Hid (ds = Ds.map markD) ∧ Hid (MarkAt w.heap.size Ds wr) ∧ Hid (WQ w.heap.size w w.heap.size w2.heap.size (w3.heap.size + 1) k (intsN (runesS s)) qa qn qc oa oc out sa sc K [] wr) ∧ Hid (out ++ outW s k K = nearL ts s k) ∧ Hid (∀ e ∈ K, SMOk (restsG st) ts s k e) ∧ Hid (n = muW K ∧ n ≤ 2000) ∧
    a.defers = ds ∧ a.tmps = mFr g s k w.heap.size w2.heap.size (w3.heap.size + 1) oa on oc (fun i => a.tmps.getD i undef)) (wtS ts + 1) ?start ?round
  case start =>
    refine ⟨none, 0, 0, [], some ⟨w3.heap.size, 0, none⟩, 1, 1, [⟨0, ⟨#[]⟩, ts, [(0, 0)], sa0, sc0⟩], [], [], Lib.hid rfl, Lib.hid rfl, Lib.hid rfl, Lib.hid ⟨List.nodup_nil, fun D hD => by cases hD⟩, Q4, Lib.hid ?_, Lib.hid (fun c hc => ?_), Lib.hid ⟨by rw [muW_one], ?_⟩, rfl, rfl⟩
    · rw [outW_one]
      simp only [List.nil_append, subW]
      have he : ∀ t : Tx, (⟨#[]⟩ : ByteArray) ++ t = t := fun t => by apply ByteArray.ext; simp
      simp [he]
    · simp only [List.mem_singleton] at hc
      subst hc
      refine ⟨G.root, ?_, ?_, ?_, fun t ht => ?_, ?_, ?_⟩
      · have h1 := G.node G.root
        have h2 := h1.2.2.ok
        rw [h1.2.1] at h2; exact h2
      · show 0 ≤ lenS (⟨#[]⟩ : Tx); decide
      · show [(0, 0)] = stW s k ⟨#[]⟩
        have h1 := Au.st_zero (intsN (runesS s)) (intsN (runesS (⟨#[]⟩ : Tx))) hk.1
        exact h1.symm
      · have he : (⟨#[]⟩ : ByteArray) ++ t = t := by apply ByteArray.ext; simp
        show (⟨#[]⟩ : ByteArray) ++ t ∈ ts
        rw [he]; exact ht
      · show (⟨#[]⟩ : ByteArray).size ≤ 100; decide
      · show lenS (⟨#[]⟩ : Tx) ≤ 12; decide
    · have := wt_good ts (fun t ht => (TH.out t ht).2.1); omega
  case round =>
    rintro n ⟨tmps, dfs⟩ wr ⟨oa, oc, on, out, sa, sc, sn, K, Ds, ds, hon, hsn, hds, hmk, hQ, hpl, hok, hmu, hdd, htt⟩ J KK hJ hKK
    dsimp only at hdd htt
    subst hdd
    generalize (fun i => tmps.getD i undef) = U at htt
    subst htt
    simp only [mFr]
    have HJ := Lib.hid hJ
    clear hJ
    have c10 := hQ.out.box.cell
    rw [hsn.out] at c10
    by_cases h0 : sn = 0
    · subst h0
      go_wp2_with fail
      have hK0 : K = [] := List.length_eq_zero_iff.1 hsn.out
      have hfin := hpl.out
      rw [hK0, outW_nil, List.append_nil] at hfin
      show LeavesInM Fence.wide 9 Try.prog Try.f36 _ _ dfs .returning wr
      rw [hds.out]
      refine leaves_marks Ds wr hmk.out (fun w' t hb => ⟨.slice oa on oc, by simp [results, Try.f36, go_sem], ?_⟩)
      have ho := row_turn hQ.out.o t (fun k hk => (hb k hk).2)
      rw [hon.out, hfin] at ho
      have hbw := hQ.out.r.b.trans (t.below (fun k hk => (hb k hk).1) hQ.out.r.bl)
      have hlen : (nearL ts s k).length = on := by rw [← hfin]; exact hon.out
      refine ⟨oa, oc, by rw [hlen], ?_, hbw⟩
      rw [hlen]; exact ho
    · obtain ⟨K1, e, rfl⟩ : ∃ K1 e, K = K1 ++ [e] := by
        have hne : K ≠ [] := fun h => h0 (by rw [← hsn.out, h]; rfl)
        exact ⟨K.dropLast, K.getLast hne, (List.dropLast_concat_getLast hne).symm⟩
      obtain ⟨sp, hsa, hsplt, x1, x2, x3⟩ := hQ.out.top
      subst hsa
      obtain ⟨m, hm⟩ : ∃ m, K1.length = m := ⟨_, rfl⟩
      rw [hm] at x1 x2 x3
      have hsm : sn = m + 1 := by have := hsn.out; rw [List.length_append, hm] at this; simpa using this.symm
      have hcap : sn ≤ sc := by
        rcases hQ.out.s.2 with ⟨h3, h4⟩ | ⟨g', cap, cur, h3, h4, h5, h6, h7, h8, h9⟩
        · cases h3
        · injection h3 with h3 h3b h3c
          rw [h3c, ← hsn.out]; exact h6
      have hsn2 : sn ≤ 2000 := by have := muW_len (K1 ++ [e]); have := hmu.out; have := hsn.out; omega
      have i1 : (0 : Int) < (sn : Int) := by omega
      have i2 : IntKind.i64.wrap ((sn : Int) - 1) = (m : Int) := by rw [IntWalk.i64_in _ (by omega)]; omega
      have i3 : (m : Int) < (sn : Int) := by omega
      have i4 : (0 : Int) ≤ (m : Int) := by omega
      have i5 : m ≤ sc := by omega
      have HM := Lib.hid hm
      have HSM := Lib.hid hsm
      have hbx7 := hQ.out.box.alloc (.cells #[.int .i64 (e.node : Int), .string e.pre, .slice e.a e.S.length e.c] 98)
      rw [hsn.out] at hbx7
      have c7 := hbx7.cell
      have f7 := hbx7.frozen
      clear hm hsm hcap h0
      go_upto_region 9 with fail
      obtain ⟨w8, hw8⟩ : ∃ w8, (wr.alloc (.cells #[.int .i64 (e.node : Int), .string e.pre, .slice e.a e.S.length e.c] 98)).setCell ⟨w3.heap.size + 1, 0, none⟩ (.slice (some ⟨sp, 0, none⟩) m sc) = w8 := ⟨_, rfl⟩
      have Q8 := Lib.hid (show WQ w.heap.size w w.heap.size w2.heap.size (w3.heap.size + 1) k (intsN (runesS s)) qa qn qc oa oc out (some ⟨sp, 0, none⟩) sc K1 [e] w8 from by
        have h := (hQ.out.more (below_one wr (.cells #[.int .i64 (e.node : Int), .string e.pre, .slice e.a e.S.length e.c] 98))).pop
        rw [HM.out, hw8] at h; exact h)
      have A8 := Lib.hid (show AtBox wr.heap.size e w8 from by
        rw [← hw8]
        exact AtBox.kept (show AtBox wr.heap.size e (wr.alloc _) from World.alloc_heap_new wr _) (grownBy_setCell' _ _ _) (by have := hQ.out.box.lt; simp; omega))
      have M8 := Lib.hid (show MarkAt w.heap.size Ds w8 from by
        rw [← hw8]
        exact (hmk.out.kept (World.grownBy_alloc wr _ none) (fun r e => by cases e)).kept (grownBy_setCell' _ _ _) (fun r e hm => by
          cases e
          have h1 := (hmk.out.2 _ hm).2
          have h2 := hQ.out.box
          rw [show wr.heap[w3.heap.size + 1]? = _ from h2] at h1; cases h1))
      have hz8 : wr.heap.size < w8.heap.size := by rw [← hw8]; simp
      rw [hw8]
      have HS1 := hok.out e (by simp)
      have hwr : w.heap.size ≤ wr.heap.size := hQ.out.r.bl
      have HE := Lib.hid HS1
      obtain ⟨D, hD⟩ : ∃ D, min (distS e.pre s) (k + 1) = D := ⟨_, rfl⟩
      have hDm : Au.dmin e.S qn k = D := by rw [HS1.st, ← hqn, stW_dist ha.1 HS1.lo hk.1, hD]
      have hPO : PosOk qn k e.S := by
        have h := Au.st_ok (q := intsN (runesS s)) (p := intsN (runesS e.pre)) (j := (runesS e.pre).length) hk.1
        rw [hql] at h
        rw [HS1.st]; exact h
      have hSL : e.S.length ≤ 9 := by
        have h := Au.st_len (q := intsN (runesS s)) (p := intsN (runesS e.pre)) (j := (runesS e.pre).length) (k := k) hk.1
        rw [HS1.st]; unfold stW; omega
      have CD := Lib.hid (dist_any qa qn qc e.a e.S.length e.c e.S k D w8 (HoldsP.own (Q8.out.r.h e (by simp))) hPO hk (by omega) (by omega) hDm)
      obtain ⟨dv, hdv⟩ : ∃ v, Au.telB D k = v := ⟨_, rfl⟩
      obtain ⟨ov, hov⟩ : ∃ v, Au.telO D k = v := ⟨_, rfl⟩
      rw [hdv, hov] at CD
      have b5 := Q8.out.r.c5.cell
      have b7 := Q8.out.r.c7.cell
      obtain ⟨t0, t1, t2⟩ := A8.out.cells
      clear hw8 x1 x2 x3 c7 f7 c10 hbx7 i1 i2 i3 i4 i5 HS1 hDm hPO hQ hmk
      go_upto_region 10 with fail
      refine CD.out.mono ?_
      rintro e9 w9 ⟨rfl, hb9⟩
      have Q9 := Lib.hid (Q8.out.more hb9)
      have A9 := Lib.hid (A8.out.more hb9)
      have M9 := Lib.hid (M8.out.kept (grown_below hb9) (fun r e => by cases e))
      have hz9 : wr.heap.size < w9.heap.size := Nat.lt_of_lt_of_le hz8 hb9.size
      clear hb9 Q8 A8 M8 hz8 b5 b7 t0 t1 t2 CD
      obtain ⟨t0, t1, t2⟩ := A9.out.cells
      have HN := G.node HE.out.at_
      obtain ⟨hk9, hr9, hN9⟩ := HN
      obtain ⟨a1, a2, a3⟩ := has_at hk9
      have hfin := hN9.fin
      rw [hr9] at hfin
      rw [hfin] at a3
      obtain ⟨fv, hfv⟩ : ∃ v, finS e.l = v := ⟨_, rfl⟩
      rw [hfv] at a3
      have CFi := Lib.hid (show ∀ w', Below w.heap.size w w' → Calls Try.prog 57 #[.pointer (some ⟨g, 0, none⟩), .int .i64 (e.node : Int)] w' fun e w'' => e = .returned (.bool fv) ∧ w' = w'' from fun w' hb => by
        have h := gFinal_any g st Sg (e.node : Int) w' ((gAt_ok g st).below GH.out hb)
        rw [a3] at h; exact h)
      have SF := Lib.hid (subW_final (s := s) (p := e.pre) (k := k) e.l)
      obtain ⟨tl, htl⟩ : ∃ tl, (if finS e.l = true ∧ 0 ≤ distS e.pre s ∧ distS e.pre s ≤ k then [(distS e.pre s, e.pre)] else []) = tl := ⟨_, rfl⟩
      rw [htl] at SF
      obtain ⟨out2, hout2⟩ : ∃ o, out ++ tl = o := ⟨_, rfl⟩
      obtain ⟨on2, hon2⟩ : ∃ n, out2.length = n := ⟨_, rfl⟩
      have HO2 := Lib.hid hout2; have HON2 := Lib.hid hon2; have HTL := Lib.hid htl; have HDV := Lib.hid hdv; have HOV := Lib.hid hov; have HFV := Lib.hid hfv; have HDD := Lib.hid hD
      have hd0 : 0 ≤ distS e.pre s := by
        unfold distS
        rw [if_pos ⟨HE.out.lo, ha.1⟩]; exact (Ed.L_bd _ _ _ _).1
      have hol : out.length ≤ 100 := by
        have h1 := congrArg List.length hpl.out
        rw [List.length_append] at h1
        have h2 := nearL_len ts s k
        omega
      clear hout2 hon2 htl hdv hov hfv hD hN9 hfin a1 a2 a3 hr9 hk9
      go_upto_region 10 with fail
      obtain ⟨tv, htv⟩ : ∃ b, (ov && fv) = b := ⟨_, rfl⟩
      have HTV := Lib.hid htv
      clear htv
      go_cut [70] from 64 to 69 (fun v wc => v = .bool tv ∧ w9 = wc)
      case first =>
        cases ov with
        | true =>
          go_wp2_with fail
          refine (CFi.out _ Q9.out.r.b).mono ?_
          rintro e10 w10 ⟨rfl, rfl⟩
          go_wp2_with fail
          go_meet
          exact ⟨by rw [← HTV.out]; rfl, rfl⟩
        | false =>
          go_wp2_with fail
          go_meet
          exact ⟨by rw [← HTV.out]; rfl, rfl⟩
      case rest =>
      obtain ⟨rfl, rfl⟩ := hcut
      go_upto_if 70 with fail
      go_cut [9] from 71 to 77 (fun v wc => ∃ (oa2 : Option Addr) (oc2 : Nat), v = .slice oa2 on2 oc2 ∧ Hid (WQ w.heap.size w w.heap.size w2.heap.size (w3.heap.size + 1) k (intsN (runesS s)) qa qn qc oa2 oc2 out2 (some ⟨sp, 0, none⟩) sc K1 [e] wc ∧ AtBox wr.heap.size e wc ∧ MarkAt w.heap.size Ds wc ∧ wr.heap.size < wc.heap.size))
      case first =>
        cases tv with
        | true =>
          obtain ⟨hov1, hfv1⟩ : ov = true ∧ fv = true := by have h := HTV.out; revert h; cases ov <;> cases fv <;> simp
          have hdk : distS e.pre s ≤ k := by
            have h1 : Au.telO D k = true := HOV.out.trans hov1
            have h2 : D ≤ k := of_decide_eq_true h1
            have := HDD.out; omega
          have HDV2 := Lib.hid (show dv = distS e.pre s from by rw [← HDV.out, ← HDD.out, Au.telB_yes (by omega)]; omega)
          have HT2 := Lib.hid (show out2 = out ++ [(dv, e.pre)] from by
            rw [← HO2.out, ← HTL.out, if_pos ⟨HFV.out.trans hfv1, hd0, hdk⟩, HDV2.out])
          obtain ⟨i0, hi, hz0, hz1, hz2⟩ := info_parts itemW_info
          have hon9 := hon.out
          subst hon9
          have q9o := Lib.hid (Q9.out.o.alloc (.cells #[.int .i64 dv, .string e.pre] 24))
          have hbl := Q9.out.r.bl
          clear hov1 hfv1 hdk
          go_wp2_with (at_builtin; refine wpList_append_lies _ rfl (.tmp 71) (.tmp 76) 31 rfl w.heap.size 24 i0 _ 2 24 Try.underlying31 hi hz0 hz1 hz2 rfl (by omega) (.slice oa out.length oc) out.length (keysV out) (by rfl) q9o.out ⟨w9.heap.size, 0, none⟩ 1 1 [.int .i64 dv, .string e.pre] (by rfl) (by rfl) (World.news_of_block (cs := #[.int .i64 dv, .string e.pre]) (t := 24) (fr := (0, 0)) (heap_alloc_new w9 _)) (by simp [Value.oneCell']) (by omega) (by unfold maxLen; omega) (by omega) (by simp; omega) (w9.heap.size + 1) (by simp) ?_; intro g3 c3' w11 hown3 hgrow3 hat3 hlt3; have HW := Lib.hid (show WQ w.heap.size w w.heap.size w2.heap.size (w3.heap.size + 1) k (intsN (runesS s)) qa qn qc (some ⟨g3, 0, none⟩) c3' out2 (some ⟨sp, 0, none⟩) sc K1 [e] w11 ∧ AtBox wr.heap.size e w11 ∧ MarkAt w.heap.size Ds w11 ∧ wr.heap.size < w11.heap.size from ⟨by rw [HT2.out]; exact Q9.out.tell (dv, e.pre) hown3 hgrow3, (A9.out.more (below_one w9 _)).row q9o.out hgrow3 (by decide), (M9.out.more (below_one w9 _)).row q9o.out hgrow3, by have := hgrow3.size; simp at this; omega⟩); clear hown3 hgrow3 hat3 hlt3)
          have HL := Lib.hid (show out.length + 1 = on2 from by rw [← HON2.out, HT2.out]; simp)
          go_meet
          exact ⟨_, _, by rw [HL.out], HW⟩
        | false =>
          have HT2 := Lib.hid (show out2 = out from by
            rw [← HO2.out, ← HTL.out, if_neg (fun h => by
              have h1 : ov = true := by rw [← HOV.out, ← HDD.out]; exact Au.telO_yes (by omega)
              have h2 : fv = true := HFV.out.symm.trans h.1
              have h3 := HTV.out
              rw [h1, h2] at h3; cases h3)]; simp)
          have HL := Lib.hid (show on = on2 from by rw [← HON2.out, HT2.out]; exact hon.out.symm)
          have HW := Lib.hid (show WQ w.heap.size w w.heap.size w2.heap.size (w3.heap.size + 1) k (intsN (runesS s)) qa qn qc oa oc out2 (some ⟨sp, 0, none⟩) sc K1 [e] w9 ∧ AtBox wr.heap.size e w9 ∧ MarkAt w.heap.size Ds w9 ∧ wr.heap.size < w9.heap.size from
            ⟨by rw [HT2.out]; exact Q9.out, A9.out, M9.out, hz9⟩)
          go_wp2_with fail
          go_meet
          exact ⟨_, _, by rw [HL.out], HW⟩
      case rest =>
        obtain ⟨oa2, oc2, rfl, HW⟩ := hcut
        obtain ⟨QC0, AC0, MC0, hzc⟩ := HW.out
        have QC := Lib.hid QC0; have AC := Lib.hid AC0; have MC := Lib.hid MC0
        clear HW Q9 A9 M9 CFi t0 t1 t2 hz9 QC0 AC0 MC0
        obtain ⟨t0, t1, t2⟩ := AC.out.cells
        obtain ⟨hk9, hr9, hN9⟩ := G.node HE.out.at_
        obtain ⟨a1, a2, a3⟩ := has_at hk9
        have hed := hN9.ed
        rw [hr9] at hed
        obtain ⟨es, hes⟩ : ∃ b, (st.getD e.node gn0).edges = b := ⟨_, rfl⟩
        rw [hes] at hed a2
        have hfew := G.few _ (show st.getD e.node gn0 ∈ st by rw [List.getD_eq_getElem?_getD, List.getElem?_eq_getElem hk9]; simp)
        rw [hes] at hfew
        have CE := Lib.hid (gEdges_any g st Sg (e.node : Int) wc ((gAt_ok g st).below GH.out QC.out.r.b) (fun x hx => by have := G.few x hx; omega))
        rw [a2] at CE
        obtain ⟨em, hem⟩ : ∃ m, es.length = m := ⟨_, rfl⟩
        rw [hem] at hfew
        have HED := Lib.hid hed; have HEM := Lib.hid hem
        clear a1 a2 a3 hes hed hem hr9 hk9 hN9
        go_wp2_with fail
        refine CE.out.mono ?_
        rintro e12 w12 ⟨ea, ec, rfl, ho12, hb12⟩
        rw [HEM.out] at ho12 ⊢
        have Q12 := Lib.hid (QC.out.more hb12)
        have A12 := Lib.hid (AC.out.more hb12)
        have M12 := Lib.hid (MC.out.more hb12)
        have hz12 : wr.heap.size < w12.heap.size := Nat.lt_of_lt_of_le hzc hb12.size
        have E12 := Lib.hid ho12
        clear ho12 hb12 QC AC MC hzc CE t0 t1 t2
        go_wp2_with fail
        refine (back_any ea em ec w12).mono ?_
        rintro e13 w13 ⟨rfl, rfl⟩
        go_wp2_with fail
        have hBB := Boxed.new w12 86 (.slice ea em ec)
        obtain ⟨w13, hw13⟩ : ∃ w, w12.alloc (.cells #[.slice ea em ec] 86) = w := ⟨_, rfl⟩
        have hb13 : Below w12.heap.size w12 w13 := by rw [← hw13]; exact below_one w12 _
        have hz13 : w13.heap.size = w12.heap.size + 1 := by rw [← hw13]; simp
        have Q13 := Lib.hid (Q12.out.more hb13)
        have A13 := Lib.hid (A12.out.more hb13)
        have M13 := Lib.hid (M12.out.more hb13)
        have E13 := Lib.hid ((HoldsEd.own E12.out).below hb13)
        rw [hw13] at hBB ⊢
        have hbz : w.heap.size ≤ w13.heap.size := Q13.out.r.bl
        have hD13 : ∀ D ∈ Ds, D < w13.heap.size := fun D hD => M13.out.lt hD
        have hea : ∀ b o, ea = some ⟨b, o, none⟩ → b < w13.heap.size := fun b o h => by
          have := (own_blockG E12.out h).2; omega
        have hbb13 : w12.heap.size < w13.heap.size := by omega
        have HKE := Lib.hid (show ∀ i, (i = w12.heap.size ∨ ∃ o, ea = some ⟨i, o, none⟩) → ∃ cur t fr, w13.heap[i]? = some (.cells cur t fr) ∧ t ≠ 98 ∧ t ≠ 99 from fun i hi => by
          rcases hi with rfl | ⟨o2, hi⟩
          · exact ⟨_, _, _, hBB, by decide, by decide⟩
          · have h1 := E12.out.2
            rw [hi] at h1
            rcases h1 with ⟨h1, _⟩ | ⟨gg, cap, cur, h1, h2, h3, _⟩
            · cases h1
            · injection h1 with h1; injection h1 with h1; injection h1 with h1
              subst h1
              exact ⟨_, _, _, (hb13.block _ (Array.getElem?_eq_some_iff.1 h3).1).trans h3, by decide, by decide⟩)
        clear Q12 A12 M12 hw13 hb13
        refine (wpIn_wide (n := 9)).1 ?_
        refine wpIn_rangeFunc_ownH (F := Fence.wide) (n := 9) (α := IdxE em) rfl (by omega) (gf := 79) (lb := #[.pointer (some ⟨w12.heap.size, 0, none⟩)]) rfl trivial (enters_of Try.func79 (by kernel_rfl) rfl)
          (back_stops 8 w12.heap.size em ec (by omega) ea es (by omega) w13 hBB.cell E13.out) (fun h k => h.trans k) ?kb (Below.refl _ _) (fun _ => rfl)
          (fun pre W => w13.heap.size ≤ W.heap.size ∧ ∃ (sa' : Option Addr) (sc' : Nat) (Kk : List SM), RI w.heap.size w w.heap.size w2.heap.size (w3.heap.size + 1) k (intsN (runesS s)) qa qn qc oa2 oc2 out2 K1 e wr.heap.size Ds w12.heap.size ea w13 (kidW s k e.pre (bodS e.l) es) (pre.map (·.1)) sa' sc' Kk W)
          (fun _ _ _ => False) ?hI (fun _ _ _ _ _ h _ _ => h) ?h0 (fun x a' W => ∃ Bx, EBox Bx (es.getD x.1 ed0) W ∧ a'.defers = [] ∧ a'.tmps = wFr w.heap.size w2.heap.size (w3.heap.size + 1) wr.heap.size Bx (fun i => a'.tmps.getD i undef)) ?hAx ?assign ?body ?done ?stop
        case kb =>
          intro W l o o' hl ho hn _ i hi
          refine World.putObj_heap_other ?_
          rcases hi with rfl | ⟨o2, hi⟩
          · omega
          · have := hea i o2 hi; omega
        case hI =>
          rintro pre X Y row ⟨hs, sa', sc', Kk, h⟩ hg hr
          exact ⟨Nat.le_trans hs hg.size, sa', sc', Kk, h.book hbz hD13 hbb13 hea hg hr hs⟩
        case h0 =>
          refine ⟨Nat.le_refl _, _, _, [], ⟨by rw [List.append_nil]; exact Q13.out, A13.out, by intro h; injection h with h; injection h with h; omega, M13.out, KpE.refl _ _ _, rfl⟩⟩
        case hAx =>
          rintro x a' _ X Y row ⟨Bx, h, h1, h2⟩ hg hr
          exact ⟨Bx, h.kept hg (fun r e => (hr r e).2), h1, h2⟩
        case assign =>
          rintro l pre x W KQ ⟨hs, sa', sc', Kk, hRR⟩ hK
          dsimp only [encE]
          gi_wp2
          refine hK _ _ ((KeepsOthers.alloc _ _).from _) (fun i hi => (below_one W _).block i (by
            rcases hi with rfl | ⟨o2, hi⟩
            · omega
            · have := hea i o2 hi; omega)) ⟨by simp; omega, sa', sc', Kk, hRR.more hbz hD13 hbb13 hea hs (below_one W _)⟩ ⟨W.heap.size, World.alloc_heap_new W _, ?_, ?_⟩
          · rfl
          · rfl
        case body =>
          rintro l pre x ⟨tmps, dfs2⟩ W hl ⟨r, hr⟩ ⟨hs, sa', sc', Kk, hR⟩ ⟨Bx, hE, hd2, ht2⟩ hlen
          dsimp only at hd2 ht2
          subst hd2
          generalize (fun i => tmps.getD i undef) = V at ht2
          subst ht2
          simp only [wFr]
          have b5 := hR.q.r.c5.cell
          have b7 := hR.q.r.c7.cell
          obtain ⟨t0, t1, t2⟩ := hR.t.cells
          obtain ⟨y0, y1⟩ := hE.cells
          have hxl : x.1 < es.length := by rw [HEM.out]; exact x.2
          obtain ⟨e1, e2, ⟨dn, e3, e4⟩, e5, e6, e7, e8⟩ := edge_at (k := k) (s := s) TH.out HED.out HE.out.ok.run HE.out.ok.bod HE.out.lo (fun t ht => HE.out.sub t (bod_sub ht)) hxl
          have e9 := edge_text HE.out.lo (dropE_run HE.out.ok.run x.1) e1
          have HX := Lib.hid (show kidW s k e.pre (bodS e.l) es x.1 = if stW s k (e.pre ++ Utf8.encode ((folS (dropE x.1 (bodS e.l))).1 : Int)) = [] then none else some (dn, e.pre ++ Utf8.encode ((folS (dropE x.1 (bodS e.l))).1 : Int), (folS (dropE x.1 (bodS e.l))).2, stW s k (e.pre ++ Utf8.encode ((folS (dropE x.1 (bodS e.l))).1 : Int))) from by unfold kidW; rw [e3]; rfl)
          rw [e2] at y0
          rw [e3] at y1
          obtain ⟨lb, hlb⟩ : ∃ v, (folS (dropE x.1 (bodS e.l))).1 = v := ⟨_, rfl⟩
          rw [hlb] at HX y0 e7 e9
          obtain ⟨p2, hp2⟩ : ∃ v, e.pre ++ Utf8.encode (lb : Int) = v := ⟨_, rfl⟩
          rw [hp2] at HX e7 e9
          obtain ⟨S2, hS2⟩ : ∃ v, stW s k p2 = v := ⟨_, rfl⟩
          rw [hS2] at HX
          obtain ⟨L2, hL2⟩ : ∃ v, S2.length = v := ⟨_, rfl⟩
          have CST := Lib.hid (step_lit (intsN (runesS s)) (intsN (runesS p2)) (runesS e.pre).length k qa e.a qn qc e.S.length e.c L2 (lb : Int) e.S S2 W (wk_holdsI hR.q.r.qr hql) (HoldsP.own (hR.q.r.h e (by simp))) hk (by omega)
            (by rw [e9.2]; exact getD_intsR _ _ _) (by rw [e9.2, stW_pre, HE.out.st]) (by rw [← hS2]; unfold stW; rw [e9.2]; simp) hL2)
          have hL9 : L2 ≤ 9 := by
            have h := Au.st_len (q := intsN (runesS s)) (p := intsN (runesS p2)) (j := (runesS p2).length) (k := k) hk.1
            rw [← hL2, ← hS2]; unfold stW; omega
          have HP2 := Lib.hid hp2; have HL2 := Lib.hid hL2; have ER := Lib.hid (e2.trans (by rw [hlb] : ((folS (dropE x.1 (bodS e.l))).1 : Int) = (lb : Int))); have ED := Lib.hid e3
          have hpz : e.pre.size + (Utf8.encode (lb : Int)).size ≤ 100 := by rw [← ByteArray.size_append, hp2]; exact e7
          have HRI := Lib.hid hR
          clear e1 e2 e3 e4 e5 e6 e7 e8 e9 hlb hp2 hS2 hL2 hR
          gi_wp2_with fail
          refine ⟨trivial, (CallsIn.inRound l (callsIn_wide.2 CST.out)).mono ?_⟩
          rintro e14 W2 ⟨a2, c2, rfl, o2, hb2⟩
          have RI2 := Lib.hid (HRI.out.more hbz hD13 hbb13 hea hs hb2)
          have O2 := Lib.hid (o2.mono' (show w.heap.size ≤ W.heap.size by omega))
          have HKE2 := Lib.hid (show KeepsFrom w13.heap.size W W2 ∧ KpE w12.heap.size ea W W2 ∧ W.heap.size ≤ W2.heap.size from ⟨(keeps_below hb2).from _, fun i hi => hb2.block i (by
            rcases hi with rfl | ⟨o3, hi⟩
            · omega
            · have := hea i o3 hi; omega), hb2.size⟩)
          have hE2 := hE.more hb2
          obtain ⟨y0, y1⟩ := hE2.cells
          rw [ER.out] at y0
          rw [ED.out] at y1
          obtain ⟨t0, t1, t2⟩ := RI2.out.t.cells
          have b10 := RI2.out.q.box.cell
          clear hb2 o2 CST HRI hE2
          gi_wp2_with fail
          have CDD := Lib.hid (fun f hf => dead_any a2 L2 c2 f W2 (by omega) hf)
          by_cases h20 : L2 = 0
          · have CD2 := Lib.hid (CDD.out true (decide_eq_true h20))
            have hS0 : S2 = [] := List.length_eq_zero_iff.1 (by rw [HL2.out]; exact h20)
            have HF := Lib.hid (show w13.heap.size ≤ W2.heap.size ∧ ∃ (sa' : Option Addr) (sc' : Nat) (Kk : List SM), RI w.heap.size w w.heap.size w2.heap.size (w3.heap.size + 1) k (intsN (runesS s)) qa qn qc oa2 oc2 out2 K1 e wr.heap.size Ds w12.heap.size ea w13 (kidW s k e.pre (bodS e.l) es) ((pre ++ [x]).map (·.1)) sa' sc' Kk W2 from
              ⟨Nat.le_trans hs HKE2.out.2.2, sa', sc', Kk, ⟨RI2.out.q, RI2.out.t, RI2.out.ne, RI2.out.m, RI2.out.kp, by
                rw [List.map_append, List.filterMap_append, RI2.out.kids]
                simp [HX.out, hS0]⟩⟩)
            clear h20 hS0 CDD
            refine ⟨trivial, (CallsIn.inRound l (callsIn_wide.2 CD2.out)).mono ?_⟩
            rintro e15 W3 ⟨rfl, rfl⟩
            gi_wp2_with fail
            exact ⟨HKE2.out.1, HKE2.out.2.1, HF.out⟩
          · have CD2 := Lib.hid (CDD.out false (decide_eq_false h20))
            have HX3 := Lib.hid (show kidW s k e.pre (bodS e.l) es x.1 = some (plW ⟨dn, p2, (folS (dropE x.1 (bodS e.l))).2, S2, a2, c2⟩) from by
              rw [HX.out, if_neg (fun h => h20 (by rw [← HL2.out, h]; rfl))]; rfl)
            have hkl : Kk.length ≤ em := by
              have h1 := congrArg List.length RI2.out.kids
              rw [List.length_map] at h1
              have h2 := List.length_filterMap_le (kidW s k e.pre (bodS e.l) es) (pre.map (·.1))
              rw [List.length_map] at h2; omega
            obtain ⟨kn, hkn⟩ : ∃ n, (K1 ++ Kk).length = n := ⟨_, rfl⟩
            have hkn3 : kn ≤ 3000 := by rw [← hkn, List.length_append]; have := HM.out; have := HSM.out; omega
            have hrow := RI2.out.q.s
            rw [hkn] at b10 hrow
            have HROW := Lib.hid hrow
            have f10 := RI2.out.q.box.frozen
            have HKN := Lib.hid hkn
            obtain ⟨i0, hi, hz0, hz1, hz2⟩ := info_parts step_info
            have hz22 : w.heap.size ≤ W2.heap.size := RI2.out.q.r.bl
            have hBx2 := lt_of_cell y1
            have htb2 := lt_of_cell t1
            have hbx2 := lt_of_cell b10
            have EL := Lib.hid (show S2.length = L2 from HL2.out)
            clear h20 CDD hkl hkn hrow
            refine ⟨trivial, (CallsIn.inRound l (callsIn_wide.2 CD2.out)).mono ?_⟩
            rintro e15 W3 ⟨rfl, rfl⟩
            gi_wp2_with (gi_at_builtin; refine wpListIn_append_lies _ rfl (.tmp 95) (.tmp 106) 99 rfl w.heap.size 98 i0 _ 3 48 Try.underlying99 hi hz0 hz1 hz2 rfl (by omega) (.slice sa' kn sc') kn (smV (K1 ++ Kk)) (by rfl) (HROW.out.alloc _) ⟨W2.heap.size, 0, none⟩ 1 1 [.int .i64 (dn : Int), .string (e.pre ++ Utf8.encode (lb : Int)), .slice a2 L2 c2] (by rfl) (by rfl) (World.news_of_block (cs := #[.int .i64 (dn : Int), .string (e.pre ++ Utf8.encode (lb : Int)), .slice a2 L2 c2]) (t := 98) (fr := (0, 0)) (heap_alloc_new W2 _)) (by simp [Value.oneCell']) (by omega) (by unfold maxLen; omega) (by omega) (by simp; omega) (W2.heap.size + 1) (by simp) ?_; intro g3 c3' w6 hown3 hgrow3 hat3 hlt3; have PU := Lib.hid (RI2.out.push x.1 ⟨dn, p2, (folS (dropE x.1 (bodS e.l))).2, S2, a2, c2⟩ HKN.out HX3.out HKE.out (by have h := O2.out; rw [← EL.out] at h; exact h) (by rw [HP2.out, ← EL.out] at hown3; exact hown3) hgrow3 (hat3.imp id (fun e => by simp; exact e))); have bx6 := PU.out.1.cell; have fx6 := PU.out.1.frozen; clear hown3 hgrow3 hat3 hlt3)
            exact ⟨HKE2.out.1.trans (PU.out.2.1.from _), HKE2.out.2.1.trans PU.out.2.2.1, Nat.le_trans hs (Nat.le_trans HKE2.out.2.2 PU.out.2.2.2.1), _, _, _, by rw [List.map_append]; exact PU.out.2.2.2.2⟩
        case done =>
          rintro D xs W hD hxs ⟨hs, sa', sc', Kk, hR⟩ hDd
          go_wp2_with fail
          have KF := kids_from (R := restsG st) (s := s) (k := k) TH.out HED.out HE.out.ok.run HE.out.ok.bod ha.1 hk.1 HE.out.lo (fun t ht => HE.out.sub t (bod_sub ht)) es.length 0 (by omega)
          have hkd := hR.kids
          rw [hxs] at hkd
          rw [List.drop_zero, HEM.out, ← hkd] at KF
          obtain ⟨f1, f2, f3⟩ := KF
          have f2' : muW Kk ≤ wtS (bodS e.l) := by rw [muW_pl]; exact f2
          have f1' : outW s k Kk = subW e.pre s k (bodS e.l) := by rw [outW_pl]; exact f1
          have hwb := wt_bod e.l
          have hmu1 := hmu.out
          rw [muW_app, muW_one] at hmu1
          have hpl1 := hpl.out
          rw [outW_app, outW_one, SF.out] at hpl1
          refine Handed.intro (muW (K1 ++ Kk)) (by rw [muW_app]; omega) (HJ.out _ _ _ ⟨oa2, oc2, on2, out2, sa', sc', (K1 ++ Kk).length, K1 ++ Kk, D :: Ds, _, HON2, Lib.hid rfl, Lib.hid (by rw [List.map_cons, ← hds.out]; rfl), Lib.hid ⟨List.nodup_cons.2 ⟨fun hm => by have := hD13 D hm; omega, hR.m.1⟩, fun D' hD' => ?_⟩, Lib.hid ⟨hR.q.r.some_ (fun x hx => by simp only [List.append_nil] at hx; exact List.mem_append_left _ hx), hR.q.o, hR.q.s, hR.q.box, hR.q.bxB⟩, Lib.hid ?_, Lib.hid (fun c hc => ?_), Lib.hid ⟨rfl, by rw [muW_app]; omega⟩, rfl, rfl⟩)
          · rcases List.mem_cons.1 hD' with rfl | hD'
            · exact ⟨Nat.le_trans hbz hD, hDd⟩
            · exact hR.m.2 D' hD'
          · rw [← hpl1, ← HO2.out, outW_app, f1']
            simp [List.append_assoc]
          · rcases List.mem_append.1 hc with hc | hc
            · exact hok.out c (List.mem_append_left _ hc)
            · have h9 := f3 (plW c) (List.mem_map_of_mem hc)
              exact ⟨h9.at_, h9.ok, h9.lo, h9.st, h9.sub, h9.sz, h9.len⟩
        case stop =>
          intro D c pre W _ _ h _
          exact h.elim
end Go.Proofs.Ytolggcdlpiedmaa
/- contracts: cmp.Compare of numbers, cmp.Or; which of two keys is ahead -/
namespace Go.Proofs.Ytolggcdlpiedmaa
open Go.RowKit
set_option linter.unusedVariables false
set_option maxRecDepth 20000
theorem isNaNI_any (x : Int) (w : World) : Calls Try.prog 98 #[.int .i64 x] w fun e w' => e = .returned (.bool false) ∧ w = w' := by
  go_enter Try.func98, Try.ntmps98
  go_wp2
  go_ret
  exact ⟨ret_bool (by simp), rfl⟩
def cmpZ (x y : Int) : Int := if x < y then -1 else if y < x then 1 else 0
theorem compareZ_any (x y : Int) (w : World) : Calls Try.prog 71 #[.int .i64 x, .int .i64 y] w fun e w' => e = .returned (.int .i64 (cmpZ x y)) ∧ w = w' := by
  rcases Int.lt_trichotomy x y with h | h | h
  · have hv : cmpZ x y = -1 := by unfold cmpZ; rw [if_pos h]
    have x1 : decide (x < y) = true := decide_eq_true h
    rw [hv]
    go_enter Try.func71, Try.ntmps71
    go_wp2_with fail
    refine (isNaNI_any x _).mono ?_
    rintro e w' ⟨rfl, rfl⟩
    go_wp2_with fail
    refine (isNaNI_any y _).mono ?_
    rintro e w' ⟨rfl, rfl⟩
    go_wp2_with fail
    go_ret
    exact ⟨rfl, rfl⟩
  · subst h
    have hv : cmpZ x x = 0 := by unfold cmpZ; rw [if_neg (by omega), if_neg (by omega)]
    rw [hv]
    go_enter Try.func71, Try.ntmps71
    go_wp2_with fail
    refine (isNaNI_any x _).mono ?_
    rintro e w' ⟨rfl, rfl⟩
    go_wp2_with fail
    refine (isNaNI_any x _).mono ?_
    rintro e w' ⟨rfl, rfl⟩
    go_wp2_with fail
    go_ret
    exact ⟨rfl, rfl⟩
  · have hv : cmpZ x y = 1 := by unfold cmpZ; rw [if_neg (by omega), if_pos h]
    have x1 : decide (x < y) = false := decide_eq_false (by omega)
    have x2 : decide (x > y) = true := decide_eq_true h
    rw [hv]
    go_enter Try.func71, Try.ntmps71
    go_wp2_with fail
    refine (isNaNI_any x _).mono ?_
    rintro e w' ⟨rfl, rfl⟩
    go_wp2_with fail
    refine (isNaNI_any y _).mono ?_
    rintro e w' ⟨rfl, rfl⟩
    go_wp2_with fail
    go_ret
    exact ⟨rfl, rfl⟩
def orZ (x y : Int) : Int := if x = 0 then y else x
theorem or_any (b o : Nat) (x y : Int) (w : World) (h0 : w.cell? ⟨b, o, none⟩ = some (.int .i64 x)) (h1 : w.cell? ⟨b, o + 1, none⟩ = some (.int .i64 y)) :
    Calls Try.prog 70 #[.slice (some ⟨b, o, none⟩) 2 2] w fun e w' => e = .returned (.int .i64 (orZ x y)) ∧ w = w' := by
  by_cases hx : x = 0
  · subst hx
    have hv : orZ 0 y = y := rfl
    have x1 : ((0 : Int) != 0) = false := rfl
    rw [hv]
    by_cases hy : y = 0
    · subst hy
      go_enter Try.func70, Try.ntmps70
      go_wp2_with fail
      go_loop [8] (fun iv => ∃ i : Nat, i ≤ 2 ∧ iv = .int .i64 i) (fun iv => 2 - (intOf iv).toNat)
      case atStart => exact ⟨0, by omega, rfl⟩
      case round =>
        obtain ⟨i, hi, rfl⟩ := hrel
        have hc : i = 0 ∨ i = 1 ∨ i = 2 := by omega
        rcases hc with rfl | rfl | rfl
        · go_wp2_with fail
          go_round
          case rel => exact ⟨1, by omega, by go_num⟩
          case measure => simp [intOf]
        · go_wp2_with fail
          go_round
          case rel => exact ⟨2, by omega, by go_num⟩
          case measure => simp [intOf]
        · go_wp2_with fail
          go_ret
          exact ⟨rfl, rfl⟩
    · have x2 : (y != 0) = true := by simp [hy]
      go_enter Try.func70, Try.ntmps70
      go_wp2_with fail
      go_loop [8] (fun iv => ∃ i : Nat, i ≤ 1 ∧ iv = .int .i64 i) (fun iv => 2 - (intOf iv).toNat)
      case atStart => exact ⟨0, by omega, rfl⟩
      case round =>
        obtain ⟨i, hi, rfl⟩ := hrel
        have hc : i = 0 ∨ i = 1 := by omega
        rcases hc with rfl | rfl
        · go_wp2_with fail
          go_round
          case rel => exact ⟨1, by omega, by go_num⟩
          case measure => simp [intOf]
        · go_wp2_with fail
          go_ret
          exact ⟨rfl, rfl⟩
  · have x2 : (x != 0) = true := by simp [hx]
    have hv : orZ x y = x := if_neg hx
    rw [hv]
    go_enter Try.func70, Try.ntmps70
    go_wp2_with fail
    go_loop [8] (fun iv => iv = .int .i64 0) (fun iv => 0)
    case atStart => rfl
    case round =>
      obtain rfl := hrel
      go_wp2_with fail
      go_ret
      exact ⟨rfl, rfl⟩
theorem ordK_or (a b : KV) : ordK a b = orZ (cmpZ a.1 b.1) (cmpS a.2 b.2) := by
  unfold ordK orZ cmpZ
  rcases Int.lt_trichotomy a.1 b.1 with h | h | h
  · simp [h]
  · have h1 : ¬ a.1 < b.1 := by omega
    have h2 : ¬ b.1 < a.1 := by omega
    simp [h1, h2]
  · have h1 : ¬ a.1 < b.1 := by omega
    simp [h, h1]
end Go.Proofs.Ytolggcdlpiedmaa
/- which of two items is ahead: rank.order, rank.Less -/
namespace Go.Proofs.Ytolggcdlpiedmaa
open Go.RowKit Go.Sort
set_option linter.unusedVariables false
set_option maxRecDepth 20000
/-- nothing has turned; blocks have been laid, and answers drawn -/
def Grows (w w' : World) : Prop := ∃ q os, w' = grow (w.drewN q) os
theorem Grows.refl (w : World) : Grows w w := ⟨0, #[], by simp [World.drewN]⟩
theorem Grows.drew {w w' : World} (h : Grows w w') : Grows w w'.drew := by
  obtain ⟨q, os, rfl⟩ := h
  exact ⟨q + 1, os, rfl⟩
theorem Grows.drewN {w w' : World} (h : Grows w w') (n : Nat) : Grows w (w'.drewN n) := by
  obtain ⟨q, os, rfl⟩ := h
  refine ⟨q + n, os, ?_⟩
  simp [World.drewN, grow, Nat.add_assoc]
theorem Grows.alloc {w w' : World} (h : Grows w w') (o : Obj) : Grows w (w'.alloc o) := by
  obtain ⟨q, os, rfl⟩ := h
  exact ⟨q, os ++ #[o], by rw [alloc_eq_grow, grow_grow]⟩
theorem Grows.below {w w' : World} (h : Grows w w') : Below w.heap.size w w' := by
  obtain ⟨q, os, rfl⟩ := h
  exact ⟨rfl, rfl, rfl, by simp [grow, World.drewN], fun k hk => heap_grow_old (w.drewN q) os hk⟩
theorem Grows.trans {w w1 w2 : World} (h : Grows w w1) (k : Grows w1 w2) : Grows w w2 := by
  obtain ⟨q, os, rfl⟩ := k
  exact (h.drewN q).elim fun p ⟨os', e⟩ => ⟨p, os' ++ os, by rw [e, grow_grow]⟩
def Box4g (w0 : World) (p q : Nat) (v0 v1 v2 v3 : Value) (w : World) : Prop := Grows w0 w ∧ w.cell? ⟨p, 0, none⟩ = some v0 ∧ w.cell? ⟨p, 1, none⟩ = some v1 ∧ w.cell? ⟨q, 0, none⟩ = some v2 ∧ w.cell? ⟨q, 1, none⟩ = some v3
theorem box4g_carry {w0 w w' : World} {p q : Nat} {v0 v1 v2 v3 : Value} (h : Box4g w0 p q v0 v1 v2 v3 w) (hb : Grows w w') : Box4g w0 p q v0 v1 v2 v3 w' :=
  have hb' := hb.below
  ⟨h.1.trans hb, by rw [hb'.cell (p := ⟨p, 0, none⟩) (lt_of_cell h.2.1)]; exact h.2.1, by rw [hb'.cell (p := ⟨p, 1, none⟩) (lt_of_cell h.2.1)]; exact h.2.2.1, by rw [hb'.cell (p := ⟨q, 0, none⟩) (lt_of_cell h.2.2.2.1)]; exact h.2.2.2.1, by rw [hb'.cell (p := ⟨q, 1, none⟩) (lt_of_cell h.2.2.2.1)]; exact h.2.2.2.2⟩
set_option maxHeartbeats 3200000 in
theorem iorder_grows (a b : KV) (w : World) :
    Calls Try.prog 45 #[keyV a, keyV b] w fun e w' => e = .returned (.int .i64 (ordK a b)) ∧ Grows w w' := by
  obtain ⟨a1, a2⟩ := a
  obtain ⟨b1, b2⟩ := b
  have hv := ordK_or (a1, a2) (b1, b2)
  obtain ⟨v, hv2⟩ : ∃ v, ordK (a1, a2) (b1, b2) = v := ⟨_, rfl⟩
  rw [hv2] at hv ⊢
  simp only at hv
  unfold keyV
  simp only
  have C1 := Lib.hid (fun w => compareZ_any a1 b1 w)
  have C2 := Lib.hid (fun w => compare_any a2 b2 w)
  obtain ⟨x, hx⟩ : ∃ x, cmpZ a1 b1 = x := ⟨_, rfl⟩
  obtain ⟨y, hy⟩ : ∃ y, cmpS a2 b2 = y := ⟨_, rfl⟩
  rw [hx] at C1 hv; rw [hy] at C2 hv
  have HV := Lib.hid hv
  clear hv hv2 hx hy
  go_enter Try.func45, Try.ntmps45
  go_upto_region 1 with fail
  have e0 : ((w.alloc (.cells #[.int .i64 a1, .string a2] 24)).alloc (.cells #[.int .i64 b1, .string b2] 24)).cell? ⟨w.heap.size, 0, none⟩ = some (.int .i64 a1) := by simp
  have e1 : ((w.alloc (.cells #[.int .i64 a1, .string a2] 24)).alloc (.cells #[.int .i64 b1, .string b2] 24)).cell? ⟨w.heap.size, 1, none⟩ = some (.string a2) := by simp
  have e2 : ((w.alloc (.cells #[.int .i64 a1, .string a2] 24)).alloc (.cells #[.int .i64 b1, .string b2] 24)).cell? ⟨w.heap.size + 1, 0, none⟩ = some (.int .i64 b1) := by simp
  have e3 : ((w.alloc (.cells #[.int .i64 a1, .string a2] 24)).alloc (.cells #[.int .i64 b1, .string b2] 24)).cell? ⟨w.heap.size + 1, 1, none⟩ = some (.string b2) := by simp
  have BB := Lib.hid (((Grows.refl w).alloc (.cells #[.int .i64 a1, .string a2] 24)).alloc (.cells #[.int .i64 b1, .string b2] 24))
  generalize (w.alloc (.cells #[.int .i64 a1, .string a2] 24)).alloc (.cells #[.int .i64 b1, .string b2] 24) = w1 at *
  obtain ⟨q, hq⟩ : ∃ q, w.heap.size + 1 = q := ⟨_, rfl⟩
  rw [hq] at e2 e3 ⊢
  have T := Lib.hid (show Box4g w1 w.heap.size q (.int .i64 a1) (.string a2) (.int .i64 b1) (.string b2) w1 from ⟨Grows.refl _, e0, e1, e2, e3⟩)
  clear e0 e1 e2 e3 hq
  go_region_held3 (fun w' => Grows w1 w' ∧ w'.cell? ⟨w.heap.size, 0, none⟩ = some (.int .i64 a1) ∧ w'.cell? ⟨w.heap.size, 1, none⟩ = some (.string a2) ∧ w'.cell? ⟨q, 0, none⟩ = some (.int .i64 b1) ∧ w'.cell? ⟨q, 1, none⟩ = some (.string b2))
    (first | assumption | exact box4g_carry T.out ((Grows.refl _).drewN _) | exact box4g_carry T.out (Grows.refl _).drew | exact box4g_carry (by assumption) ((Grows.refl _).alloc _) | exact box4g_carry (by assumption) (by assumption))
    (first
      | (go_at_call 71; refine (C1.out _).mono ?_; rintro e w' ⟨rfl, rfl⟩)
      | (go_at_call 47; refine (C2.out _).mono ?_; rintro e w' ⟨rfl, rfl⟩)
      | (go_at_call 70; refine (or_any _ _ x y _ (by simp) (by simp)).mono ?_; rintro e w' ⟨rfl, rfl⟩))
  rename_i T5
  obtain ⟨hb5, -⟩ := T5
  go_wp2_with fail
  go_ret
  exact ⟨ret_int HV.out.symm, BB.out.trans hb5⟩
theorem iorder_any (a b : KV) (w : World) :
    Calls Try.prog 45 #[keyV a, keyV b] w fun e w' => e = .returned (.int .i64 (ordK a b)) ∧ Below w.heap.size w w' :=
  (iorder_grows a b w).mono fun _ _ h => ⟨h.1, h.2.below⟩
theorem iless_any (a b : KV) (w : World) :
    Calls Try.prog 39 #[keyV a, keyV b] w fun e w' => e = .returned (.bool (lessK a b)) ∧ Below w.heap.size w w' := by
  obtain ⟨v, hv⟩ : ∃ v, ordK a b = v := ⟨_, rfl⟩
  have hl : lessK a b = decide (v < 0) := by unfold lessK; rw [hv]
  have O := Lib.hid (fun w => iorder_any a b w)
  rw [hv] at O
  rw [hl]
  clear hl hv
  obtain ⟨a1, a2⟩ := a
  obtain ⟨b1, b2⟩ := b
  unfold keyV at *
  simp only at *
  go_enter Try.func39, Try.ntmps39
  go_wp2_with fail
  refine (O.out _).mono ?_
  rintro e w' ⟨rfl, hb⟩
  go_wp2_with fail
  go_ret
  exact ⟨rfl, (((Below.refl _ _).alloc (Nat.le_refl _) _).alloc (by simp) _).trans (hb.mono (by simp; omega))⟩
theorem iless_lit (a b : KV) (c : Bool) (w : World) (h : lessK a b = c) :
    Calls Try.prog 39 #[keyV a, keyV b] w fun e w' => e = .returned (.bool c) ∧ Below w.heap.size w w' := by subst h; exact iless_any a b w
end Go.Proofs.Ytolggcdlpiedmaa
/- clear of a slice of many cells; cells written over in an owned row -/
namespace Go.Proofs.Ytolggcdlpiedmaa
open Go.RowKit
set_option linter.unusedVariables false
set_option maxRecDepth 20000
theorem run_clear_many {P : Program} (w : World) (t e ty : TypeId) (z : Value) (ht : P.underlying t = some (.slice e)) (hv : ∀ w, (zeroValue e).run P w = .ok z w) (b o n c : Nat) (hn : 0 < n) (zs : List Value) (hz : (Builtin.zeroCells z.cells n).toList = zs) (h1 : ∀ u ∈ zs, u.oneCell' = true)
    (hc : ∀ j, j < zs.length → (w.cell? ⟨b, o + j, none⟩).isSome = true) (hf : ∀ j, j < zs.length → w.frozen? ⟨b, o + j, none⟩ = false) :
    (Builtin.clear_ #[t] ty #[.slice (some ⟨b, o, none⟩) n c]).run P w = .ok (.tuple #[]) (w.setCells b o zs) := by
  have hst := run_storeCells_cells (P := P) b o zs 0 w (by simpa using hc) (by simpa using hf) h1
  simp only [Nat.add_zero] at hst
  obtain ⟨m, rfl⟩ : ∃ m, n = m + 1 := ⟨n - 1, by omega⟩
  simp [Builtin.clear_, run_underlying ht, hv, hz, hst]
/-- xs with vs from o on -/
def ow (xs : List Value) (o : Nat) (vs : List Value) : List Value := xs.take o ++ vs ++ xs.drop (o + vs.length)
theorem ow_nil (xs : List Value) (o : Nat) : ow xs o [] = xs := by simp [ow]
theorem ow_cons (xs : List Value) (o : Nat) (v : Value) (vs : List Value) (h : o < xs.length) : ow (xs.set o v) (o + 1) vs = ow xs o (v :: vs) := by
  unfold ow
  have e1 : (xs.set o v).take (o + 1) = xs.take o ++ [v] := by
    have h2 : (xs.set o v)[o]? = some v := by simp [h]
    rw [List.take_add_one, h2, List.take_set, List.set_eq_of_length_le (by simp; omega)]; rfl
  have e2 : (xs.set o v).drop (o + 1 + vs.length) = xs.drop (o + (v :: vs).length) := by
    rw [List.drop_set]
    rw [if_pos (by omega)]
    simp; congr 1; omega
  rw [e1, e2]
  simp
theorem ow_len (xs : List Value) (o : Nat) (vs : List Value) (h : o + vs.length ≤ xs.length) : (ow xs o vs).length = xs.length := by
  unfold ow; simp; omega
theorem ow_take (xs : List Value) (o : Nat) (vs : List Value) (h : o ≤ xs.length) : (ow xs o vs).take o = xs.take o := by
  unfold ow
  rw [List.append_assoc, List.take_append_of_le_length (by rw [List.length_take]; omega), List.take_take, Nat.min_self]
theorem owns_setCells {base g cap n size : Nat} {e : TypeId} : ∀ (vs : List Value) (o : Nat) (w : World) (xs : List Value), w.ownsRow base e size (.slice (some ⟨g, 0, none⟩) n cap) n xs → o + vs.length ≤ n * size →
    (w.setCells g o vs).ownsRow base e size (.slice (some ⟨g, 0, none⟩) n cap) n (ow xs o vs) ∧ w.grownBy (w.setCells g o vs) (some g)
  | [], o, w, xs, h, _ => by rw [ow_nil]; exact ⟨h, rfl, rfl, rfl, Nat.le_refl _, fun _ _ _ => rfl⟩
  | v :: vs, o, w, xs, h, hl => by
    have hxs := h.1
    simp only [List.length_cons] at hl
    have hs := h.stored o v
    obtain ⟨r1, r2⟩ := owns_setCells vs (o + 1) _ _ hs.1 (by omega)
    rw [ow_cons _ _ _ _ (by omega)] at r1
    refine ⟨r1, ?_⟩
    have g1 : w.grownBy (w.setCell ⟨g, o, none⟩ v) (some g) := ⟨rfl, rfl, rfl, by simp [World.setCell], fun k _ hne => Below.heap_setCell _ _ _ _ (fun e => hne (by rw [e]))⟩
    exact ⟨r2.os.trans g1.os, r2.tape.trans g1.tape, r2.output.trans g1.output, Nat.le_trans g1.size r2.size, fun k hk hne => (r2.block k (Nat.lt_of_lt_of_le hk g1.size) hne).trans (g1.block k hk hne)⟩
/-- fewer of a row -/
theorem owns_fewer {w : World} {base g cap n m size : Nat} {e : TypeId} {xs : List Value} (h : w.ownsRow base e size (.slice (some ⟨g, 0, none⟩) n cap) n xs) (hm : m ≤ n) : w.ownsRow base e size (.slice (some ⟨g, 0, none⟩) m cap) m (xs.take (m * size)) := by
  have hle : m * size ≤ n * size := Nat.mul_le_mul_right _ hm
  refine ⟨by rw [List.length_take, h.1]; omega, ?_⟩
  rcases h.2 with ⟨e1, _⟩ | ⟨g', cap', cur, hv, hb, hh, hc, hc2, hs, hx⟩
  · cases e1
  · simp only [Value.slice.injEq, Option.some.injEq, Addr.mk.injEq, and_true, true_and] at hv
    obtain ⟨rfl, rfl⟩ := hv
    exact Or.inr ⟨g, cap, cur, rfl, hb, hh, by omega, hc2, hs, by rw [← hx, List.take_take]; congr 1; omega⟩
/-- what a deletion of one at i leaves -/
theorem ow_del (xs zs : List Value) (n i m : Nat) (hl : xs.length = n * m) (hi : i < n) (hz : zs.length = m) : (ow (ow xs (i * m) (xs.drop ((i + 1) * m))) ((n - 1) * m) zs).take ((n - 1) * m) = xs.take (i * m) ++ xs.drop ((i + 1) * m) := by
  have h1 : i * m ≤ (n - 1) * m := Nat.mul_le_mul_right _ (by omega)
  have h2 : (i + 1) * m = i * m + m := Nat.succ_mul i m
  have h3 : n * m = (n - 1) * m + m := by
    obtain ⟨k, rfl⟩ : ∃ k, n = k + 1 := ⟨n - 1, by omega⟩
    rw [Nat.succ_mul]; simp
  have hxl : (xs.drop ((i + 1) * m)).length = (n - 1) * m - i * m := by rw [List.length_drop, hl]; omega
  have hol : (ow xs (i * m) (xs.drop ((i + 1) * m))).length = n * m := by rw [ow_len _ _ _ (by rw [hxl, hl]; omega), hl]
  have e1 : (ow (ow xs (i * m) (xs.drop ((i + 1) * m))) ((n - 1) * m) zs).take ((n - 1) * m) = (ow xs (i * m) (xs.drop ((i + 1) * m))).take ((n - 1) * m) := by
    exact ow_take _ _ _ (by rw [hol]; omega)
  rw [e1]
  unfold ow
  have hlen : (xs.take (i * m) ++ xs.drop ((i + 1) * m)).length = (n - 1) * m := by rw [List.length_append, List.length_take, hxl, hl]; omega
  rw [List.take_append_of_le_length (by rw [hlen]; exact Nat.le_refl _), List.take_of_length_le (by rw [hlen]; exact Nat.le_refl _)]
end Go.Proofs.Ytolggcdlpiedmaa
/- walk: slices.IndexFunc and slices.DeleteFunc of items that are not behind -/
namespace Go.Proofs.Ytolggcdlpiedmaa
open Go.RowKit
set_option linter.unusedVariables false
set_option maxRecDepth 20000
theorem wkI_info : (Try.prog.info? 24).map (fun i => (i.zero, i.size, i.bytes)) = some (some (.agg #[.int .i64 0, .string ⟨#[]⟩]), 2, 24) := by kernel_rfl
theorem wkI_zero (w : World) : (zeroValue 24).run Try.prog w = .ok (.agg #[.int .i64 0, .string ⟨#[]⟩]) w := by kernel_rfl
theorem keysV_setW : ∀ (L : List KV) (i : Nat) (x : KV), i < L.length → ((keysV L).set (i * 2) (.int .i64 x.1)).set (i * 2 + 1) (.string x.2) = keysV (L.set i x)
  | [], i, x, h => by simp at h
  | y :: L, 0, x, h => by simp [keysV]
  | y :: L, i + 1, x, h => by
    have ih := keysV_setW L i x (by simpa using h)
    have e1 : (i + 1) * 2 = i * 2 + 1 + 1 := by omega
    rw [e1]
    simp only [keysV, List.set_cons_succ] at ih ⊢
    simpa [keysV] using ih
theorem keysV_takeW (L : List KV) (k : Nat) : (keysV L).take (k * 2) = keysV (L.take k) := by
  conv => lhs; rw [← List.take_append_drop k L, keysV_app]
  by_cases h : k ≤ L.length
  · rw [List.take_append_of_le_length (by rw [keysV_len, List.length_take]; omega), List.take_of_length_le (by rw [keysV_len, List.length_take]; omega)]
  · rw [List.drop_of_length_le (by omega), List.take_of_length_le (by rw [List.length_append, keysV_len, keysV_len, List.length_take]; simp; omega)]
    simp [keysV]
/-- an item's box -/
def KBox (b : Nat) (x : KV) (w : World) : Prop := w.cell? ⟨b, 0, none⟩ = some (.int .i64 x.1) ∧ w.cell? ⟨b, 1, none⟩ = some (.string x.2)
theorem KBox.more {b B : Nat} {x : KV} {w w' : World} (h : KBox b x w) (hb : Below B w w') (hB : b < B) : KBox b x w' :=
  ⟨by rw [hb.cell (p := ⟨b, 0, none⟩) hB]; exact h.1, by rw [hb.cell (p := ⟨b, 1, none⟩) hB]; exact h.2⟩
/-- the law's own predicate: not behind what came last -/
theorem pred_any (av x : KV) (pb : Nat) (w : World) (h : KBox pb av w) :
    Calls Try.prog 38 #[.agg #[.int .i64 x.1, .string x.2], .pointer (some ⟨pb, 0, none⟩)] w fun e w' => e = .returned (.bool (!lessK av x)) ∧ Below w.heap.size w w' := by
  obtain ⟨c, hc⟩ : ∃ c, lessK av x = c := ⟨_, rfl⟩
  have CL := Lib.hid (fun w => iless_lit av x c w hc)
  rw [hc]
  have B1 := Lib.hid (below_one w (.cells #[.int .i64 x.1, .string x.2] 24))
  have hlt := lt_of_cell h.1
  obtain ⟨c0, c1⟩ := h.more B1.out hlt
  have hne : ¬ (pb = w.heap.size) := by omega
  clear hc h
  go_enter Try.func38, Try.ntmps38
  go_wp2_with fail
  refine (CL.out _).mono ?_
  rintro e w2 ⟨rfl, hb2⟩
  have B2 := Lib.hid (B1.out.trans (hb2.mono B1.out.size))
  clear hb2
  go_wp2_with fail
  go_ret
  exact ⟨rfl, B2.out⟩
/-- the closure -/
def predF (pb : Nat) : Value := .func (.func 38) #[] #[.pointer (some ⟨pb, 0, none⟩)]
set_option maxHeartbeats 1600000 in
theorem indexI_any (a : Option Addr) (n cap : Nat) (l : List KV) (av : KV) (pb : Nat) (w : World) (hh : HoldsK w a n l) (hn : n ≤ 100000) (hb : KBox pb av w) :
    Calls Try.prog 62 #[.slice a n cap, .func (.func 38) #[] #[.pointer (some ⟨pb, 0, none⟩)]] w fun e w' => (∃ r : Int, e = .returned (.int .i64 r) ∧ ((r = -1 ∧ ∀ x ∈ l, lessK av x = true) ∨ (∃ i : Nat, r = i ∧ i < n ∧ (∀ x ∈ l.take i, lessK av x = true) ∧ lessK av (l.getD i k0) = false))) ∧ Below w.heap.size w w' := by
  have HL := Lib.hid hh; have LL := Lib.hid hh.len; have HB := Lib.hid hb
  have CP := Lib.hid (fun x w' (h : Below w.heap.size w w') => pred_any av x pb w' (hb.more h (lt_of_cell hb.1)))
  clear hh hb
  go_enter Try.func62, Try.ntmps62
  go_wp2_with fail
  go_loopw [8] (fun i wr => ∃ (j : Nat), j ≤ n ∧ i = .int .i64 j ∧ Hid (∀ x ∈ l.take j, lessK av x = true) ∧ Hid (Below w.heap.size w wr)) (fun i _ => n - (intOf i).toNat)
  case atStart => exact ⟨0, by omega, rfl, Lib.hid (by simp), Lib.hid (Below.refl _ _)⟩
  case round =>
    obtain ⟨j, hj, rfl, hA, hB⟩ := hrel
    by_cases hlt : j < n
    · obtain ⟨b, o, rfl, hc⟩ := (HL.out.below hB.out).at (by omega)
      obtain ⟨x0, x1⟩ := hc j hlt
      have htk := take_succ_getD l k0 j (by have := LL.out; omega)
      obtain ⟨x, hx⟩ : ∃ x, l.getD j k0 = x := ⟨_, rfl⟩
      rw [hx] at x0 x1 htk
      have n1 : (0 : Int) ≤ (j : Int) := by omega
      have n2 : (j : Int) < (n : Int) := by omega
      obtain ⟨c, hcx⟩ : ∃ c, lessK av x = c := ⟨_, rfl⟩
      have CPx := Lib.hid (CP.out x wr hB.out)
      rw [hcx] at CPx
      have HX := Lib.hid hx; have HT := Lib.hid htk; have HC := Lib.hid hcx
      clear hc hx htk hcx
      go_wp2_with fail
      refine CPx.out.mono ?_
      rintro e w2 ⟨rfl, hb2⟩
      have B2 := Lib.hid (hB.out.trans (hb2.mono hB.out.size))
      clear hb2
      cases c with
      | true =>
        have A2 := Lib.hid (show ∀ y ∈ l.take (j + 1), lessK av y = true from by
          rw [HT.out]
          intro y hy
          rcases List.mem_append.1 hy with hy | hy
          · exact hA.out y hy
          · simp only [List.mem_singleton] at hy; subst hy; exact HC.out)
        go_wp2_with fail
        go_roundw
        case rel => exact ⟨j + 1, by omega, by go_num, A2, B2⟩
        case measure => simp [intOf] <;> omega
      | false =>
        go_wp2_with fail
        go_ret
        exact ⟨⟨(j : Int), rfl, .inr ⟨j, rfl, hlt, hA.out, by rw [HX.out]; exact HC.out⟩⟩, B2.out⟩
    · obtain rfl : j = n := by omega
      go_wp2_with fail
      go_ret
      refine ⟨⟨-1, rfl, .inl ⟨rfl, ?_⟩⟩, hB.out⟩
      have h := hA.out
      rwa [List.take_of_length_le (by have := LL.out; omega)] at h
end Go.Proofs.Ytolggcdlpiedmaa
/- walk: slices.DeleteFunc of items that are not behind -/
namespace Go.Proofs.Ytolggcdlpiedmaa
open Go.RowKit
set_option linter.unusedVariables false
set_option maxRecDepth 20000
theorem set_shift {l R K : List KV} {x : KV} {i j n : Nat} (hR : R.length = n) (h1 : R.take i = K) (h2 : R.drop j = l.drop j) (hij : i < j) (hj : j < n) : (R.set i x).take (i + 1) = K ++ [x] ∧ (R.set i x).drop (j + 1) = l.drop (j + 1) := by
  have hi : (R.set i x)[i]? = some x := by rw [List.getElem?_set_self (by omega)]
  refine ⟨?_, ?_⟩
  · rw [List.take_add_one, hi, List.take_set, List.set_eq_of_length_le (by simp; omega), h1]; rfl
  · rw [List.drop_set, if_pos (by omega)]
    have h3 := congrArg (List.drop 1) h2
    rwa [List.drop_drop, List.drop_drop, Nat.add_comm j 1, Nat.add_comm 1 j] at h3
theorem filter_first {l : List KV} {p : KV → Bool} {i : Nat} (h : ∀ x ∈ l.take i, p x = true) (hi : i < l.length) (hp : p (l.getD i k0) = false) : (l.take (i + 1)).filter p = l.take i := by
  rw [take_succ_getD l k0 i hi, List.filter_append, List.filter_eq_self.2 h]
  simp only [List.filter_cons, List.filter_nil, hp]
  simp
theorem zero_len (x y : Value) (n : Nat) : (Builtin.zeroCells (Value.agg #[x, y]).cells n).toList.length = n * 2 := by
  simp [Builtin.zeroCells, Value.cells]
theorem zero_one (n : Nat) : ∀ u ∈ (Builtin.zeroCells (Value.agg #[.int .i64 0, .string ⟨#[]⟩]).cells n).toList, u.oneCell' = true := by
  intro u hu
  simp only [Builtin.zeroCells, Value.cells, Array.toList_map, List.mem_map] at hu
  obtain ⟨i, _, rfl⟩ := hu
  have h2 : i % 2 = 0 ∨ i % 2 = 1 := by omega
  rcases h2 with h2 | h2 <;> simp [h2, Value.oneCell']
set_option maxHeartbeats 3200000 in
set_option maxRecDepth 100000 in
theorem delFuncI_any (B : Nat) (a : Option Addr) (n cap : Nat) (l : List KV) (av : KV) (pb : Nat) (w : World) (own : w.ownsRow B 24 2 (.slice a n cap) n (keysV l)) (hB : B ≤ w.heap.size) (hn : n ≤ 100000) (hb : KBox pb av w) (hpb : pb < B) :
    Calls Try.prog 37 #[.slice a n cap, .func (.func 38) #[] #[.pointer (some ⟨pb, 0, none⟩)]] w fun e w' => ∃ m, e = .returned (.slice a m cap) ∧ (l.filter (lessK av)).length = m ∧ w'.ownsRow B 24 2 (.slice a m cap) m (keysV (l.filter (lessK av))) ∧ Below B w w' := by
  have hll : l.length = n := by have := own.1; rw [keysV_len] at this; omega
  have CI := Lib.hid (indexI_any a n cap l av pb w (HoldsK.own own) hn hb)
  have O0 := Lib.hid own; have HB := Lib.hid hb; have LL := Lib.hid hll
  clear own hb hll
  go_enter Try.func37, Try.ntmps37
  go_wp2_with fail
  refine CI.out.mono ?_
  rintro e w1 ⟨⟨r, rfl, hr⟩, hb1⟩
  have O1 := Lib.hid (owns_below O0.out hb1)
  have B1 := Lib.hid (hb1.mono hB)
  have hz1 : w.heap.size ≤ w1.heap.size := hb1.size
  clear hb1 CI
  rcases hr with ⟨rfl, hall⟩ | ⟨i, rfl, hin, hpre, hno⟩
  · have HF := Lib.hid (List.filter_eq_self.2 hall)
    clear hall
    go_wp2_with fail
    go_ret
    refine ⟨n, rfl, by rw [HF.out]; exact LL.out, by rw [HF.out]; exact O1.out, B1.out⟩
  · obtain ⟨g, rfl⟩ : ∃ g, a = some ⟨g, 0, none⟩ := by
      obtain ⟨g, cap', hv⟩ := Joins.ownsRow_form O1.out (by omega)
      simp only [Value.slice.injEq] at hv
      exact ⟨g, hv.1⟩
    have hnc : n ≤ cap := by
      rcases O1.out.2 with ⟨e1, _⟩ | ⟨g', cap', cur, hv, hb, hh, hc, hc2, hs, hx⟩
      · cases e1
      · simp only [Value.slice.injEq] at hv
        omega
    have HP := Lib.hid (show (l.take (i + 1)).filter (lessK av) = l.take i from filter_first hpre (by have := LL.out; omega) hno)
    have hne : ¬ ((i : Int) = -1) := by omega
    have hq1 : ((i : Int) == -1) = false := by simp
    have hi0 : (0 : Int) ≤ (i : Int) := by omega
    clear hpre hno
    go_wp2_with fail
    go_loopw [5, 6] (fun iv jv wr => ∃ (i' j : Nat) (R : List KV), j ≤ n ∧ i' < j ∧ iv = .int .i64 i' ∧ jv = .int .i64 j ∧ Hid (wr.ownsRow B 24 2 (.slice (some ⟨g, 0, none⟩) n cap) n (keysV R)) ∧ Hid (R.length = n) ∧ Hid (R.take i' = (l.take j).filter (lessK av)) ∧ Hid (R.drop j = l.drop j) ∧ Hid (Below B w wr)) (fun _ jv _ => n - (intOf jv).toNat)
    case atStart => exact ⟨i, i + 1, l, by omega, by omega, rfl, by go_num, O1, LL, Lib.hid HP.out.symm, Lib.hid rfl, B1⟩
    case round =>
      obtain ⟨i', j, R, hj, hij, rfl, rfl, hO, hRL, hT, hD, hBw⟩ := hrel
      by_cases hlt : j < n
      · have hRj : R.getD j k0 = l.getD j k0 := by
          have h1 := congrArg (fun L : List KV => L.getD 0 k0) hD.out
          simpa [List.getD_eq_getElem?_getD] using h1
        have hc := hO.out.cellAt (j * 2) (by omega)
        have hc1 := hO.out.cellAt (j * 2 + 1) (by omega)
        obtain ⟨v1, v2⟩ := keysV_at R j (by have := hRL.out; omega)
        rw [v1] at hc
        rw [v2] at hc1
        rw [hRj] at hc hc1
        have htk := take_succ_getD l k0 j (by have := LL.out; omega)
        obtain ⟨x, hx⟩ : ∃ x, l.getD j k0 = x := ⟨_, rfl⟩
        rw [hx] at hc hc1 htk
        obtain ⟨c, hcx⟩ : ∃ c, lessK av x = c := ⟨_, rfl⟩
        have hbz : B ≤ wr.heap.size := by have := hBw.out.size; omega
        have BX := Lib.hid (below_one wr (.cells #[.int .i64 x.1, .string x.2] 24))
        have CPx := Lib.hid (pred_any av x pb (wr.alloc (.cells #[.int .i64 x.1, .string x.2] 24)) ((HB.out.more hBw.out hpb).more BX.out (by omega)))
        rw [hcx] at CPx
        have XB := Lib.hid (show KBox wr.heap.size x (wr.alloc (.cells #[.int .i64 x.1, .string x.2] 24)) from ⟨by rw [World.cell?_alloc_mark]; rfl, by rw [World.cell?_alloc_mark]; rfl⟩)
        have HT2 := Lib.hid (show (l.take (j + 1)).filter (lessK av) = R.take i' ++ (if c = true then [x] else []) from by
          rw [htk, List.filter_append, hT.out]
          simp only [List.filter_cons, List.filter_nil, hcx])
        have n1 : (0 : Int) ≤ (j : Int) := by omega
        have n2 : (j : Int) < (n : Int) := by omega
        have n3 : (0 : Int) ≤ (i' : Int) := by omega
        have n4 : (i' : Int) < (n : Int) := by omega
        clear v1 v2 hRj htk hx hcx
        go_wp2_with fail
        refine CPx.out.mono ?_
        rintro e w2 ⟨rfl, hb2⟩
        have B2 := Lib.hid (((hBw.out.trans (BX.out.mono hbz))).trans (hb2.mono (by have := BX.out.size; omega)))
        have O2 := Lib.hid (owns_below (owns_below hO.out BX.out) hb2)
        obtain ⟨x0, x1⟩ := XB.out.more hb2 (by simp)
        clear hb2 CPx BX XB hc hc1
        cases c with
        | true =>
          obtain ⟨u, hu⟩ : ∃ u, (keysV R)[i' * 2]? = some u := ⟨_, List.getElem?_eq_getElem (by rw [keysV_len]; have := hRL.out; omega)⟩
          obtain ⟨u1, hu1⟩ : ∃ u, (keysV R)[i' * 2 + 1]? = some u := ⟨_, List.getElem?_eq_getElem (by rw [keysV_len]; have := hRL.out; omega)⟩
          have hc := O2.out.cellAt (i' * 2) (by omega)
          have hc1 := O2.out.cellAt (i' * 2 + 1) (by omega)
          rw [hu] at hc
          rw [hu1] at hc1
          have hf := O2.out.frozenAt (i' * 2)
          have hf1 := O2.out.frozenAt (i' * 2 + 1)
          have hst := ((O2.out.stored (i' * 2) (.int .i64 x.1)).1.stored (i' * 2 + 1) (.string x.2)).1
          rw [keysV_setW R i' x (by have := hRL.out; omega)] at hst
          have O3 := Lib.hid hst
          have B3 := Lib.hid ((B2.out.setCell (p := ⟨g, i' * 2, none⟩) (O2.out.lt g rfl).1 (.int .i64 x.1)).setCell (p := ⟨g, i' * 2 + 1, none⟩) (O2.out.lt g rfl).1 (.string x.2))
          have SH := Lib.hid (set_shift (x := x) hRL.out rfl hD.out hij hlt)
          have n5 : IntKind.i64.wrap ((i' : Int) + 1) = (i' : Int) + 1 := IntWalk.i64_in _ (by omega)
          clear hst hu hu1 O2 B2
          go_wp2_with fail
          go_roundw
          case rel => exact ⟨i' + 1, j + 1, R.set i' x, by omega, by omega, by go_num, by go_num, O3, Lib.hid (by rw [List.length_set]; exact hRL.out), Lib.hid (by rw [SH.out.1, HT2.out]; rfl), Lib.hid SH.out.2, B3⟩
          case measure => simp [intOf] <;> omega
        | false =>
          have HD2 := Lib.hid (show R.drop (j + 1) = l.drop (j + 1) from by
            have h3 := congrArg (List.drop 1) hD.out
            rwa [List.drop_drop, List.drop_drop] at h3)
          go_wp2_with fail
          go_roundw
          case rel => exact ⟨i', j + 1, R, by omega, by omega, rfl, by go_num, O2, hRL, Lib.hid (by rw [HT2.out]; simp), HD2, B2⟩
          case measure => simp [intOf] <;> omega
      · obtain rfl : j = n := by omega
        have hT2 := hT.out
        rw [List.take_of_length_le (show l.length ≤ j by have := LL.out; omega)] at hT2
        have hil : (l.filter (lessK av)).length = i' := by rw [← hT2, List.length_take]; have := hRL.out; omega
        obtain ⟨zs, hzs⟩ : ∃ zs, (Builtin.zeroCells (Value.agg #[.int .i64 0, .string ⟨#[]⟩]).cells (j - i')).toList = zs := ⟨_, rfl⟩
        have hzl : zs.length = (j - i') * 2 := by rw [← hzs]; exact zero_len _ _ _
        have hz1c : ∀ u ∈ zs, u.oneCell' = true := by rw [← hzs]; exact zero_one _
        have hcl : ∀ ty, (Builtin.clear_ #[31] ty #[.slice (some ⟨g, i' * 2, none⟩) (j - i') (cap - i')]).run Try.prog wr = .ok (.tuple #[]) (wr.setCells g (i' * 2) zs) := fun ty =>
          run_clear_many wr _ _ ty _ Try.underlying31 wkI_zero g _ (j - i') _ (by omega) zs hzs hz1c (fun t ht => by
            rw [hO.out.cellAt _ (by omega), List.getElem?_eq_getElem (by rw [hO.out.1]; omega)]; rfl) (fun t _ => hO.out.frozenAt _)
        have R2 := owns_setCells (g := g) zs (i' * 2) wr _ hO.out (by omega)
        have R3 := owns_fewer R2.1 (show i' ≤ j by omega)
        rw [ow_take _ _ _ (by rw [keysV_len]; have := hRL.out; omega), keysV_takeW, hT2] at R3
        have FIN := Lib.hid R3
        have BF := Lib.hid (hBw.out.grown R2.2 (by have := hBw.out.size; omega) (fun k e => by cases e; exact (hO.out.lt g rfl).1))
        have HIL := Lib.hid hil
        have hic : i' ≤ cap := by omega
        have hca : ¬ (cap = i') := by omega
        have hij2 : i' ≤ j := by omega
        clear R2 R3 hzs hzl hz1c hil hT2
        go_wp2_with fail
        go_ret
        exact ⟨i', rfl, HIL.out, FIN.out, BF.out⟩
end Go.Proofs.Ytolggcdlpiedmaa
/- slices.Clone and slices.SortFunc at items -/
namespace Go.Proofs.Ytolggcdlpiedmaa
open Go.Shelf Go.RowKit
def Try.sortI_ren : Go.Shelf.Ren := ⟨fun | 6 => 44 | 15 => 69 | 14 => 68 | 28 => 96 | 29 => 97 | 20 => 88 | 21 => 89 | 22 => 90 | 23 => 91 | 24 => 92 | 25 => 93 | 26 => 94 | 27 => 95 | 46 => 113 | 47 => 114 | 48 => 115 | 49 => 116 | 50 => 117 | 57 => 123 | n => n, fun | 22 => 31 | 24 => 24 | 25 => 79 | 3 => 3 | 39 => 75 | 0 => 0 | 53 => 136 | 55 => 138 | 4 => 4 | 46 => 130 | 45 => 129 | 50 => 76 | 5 => 5 | 9 => 9 | 66 => 151 | 70 => 155 | 76 => 162 | 77 => 163 | n => n, fun | n => n⟩
theorem Try.sortI : Go.Proofs.SlLaysF0.n6 Try.prog Try.sortI_ren := {
  mixed := by kernel_rfl
  f6 := ⟨Try.f44.name, by decide, Try.func44.trans (congrArg some (by kernel_rfl))⟩
  f14 := ⟨Try.f68.name, by decide, Try.func68.trans (congrArg some (by kernel_rfl))⟩
  f15 := Try.func69.trans (congrArg some (by kernel_rfl))
  f20 := ⟨Try.f88.name, by decide, Try.func88.trans (congrArg some (by kernel_rfl))⟩
  f21 := ⟨Try.f89.name, by decide, Try.func89.trans (congrArg some (by kernel_rfl))⟩
  f22 := ⟨Try.f90.name, by decide, Try.func90.trans (congrArg some (by kernel_rfl))⟩
  f23 := ⟨Try.f91.name, by decide, Try.func91.trans (congrArg some (by kernel_rfl))⟩
  f24 := ⟨Try.f92.name, by decide, Try.func92.trans (congrArg some (by kernel_rfl))⟩
  f25 := ⟨Try.f93.name, by decide, Try.func93.trans (congrArg some (by kernel_rfl))⟩
  f26 := ⟨Try.f94.name, by decide, Try.func94.trans (congrArg some (by kernel_rfl))⟩
  f27 := ⟨Try.f95.name, by decide, Try.func95.trans (congrArg some (by kernel_rfl))⟩
  f28 := Try.func96.trans (congrArg some (by kernel_rfl))
  f29 := Try.func97.trans (congrArg some (by kernel_rfl))
  f46 := ⟨Try.f113.name, by decide, Try.func113.trans (congrArg some (by kernel_rfl))⟩
  f47 := Try.func114.trans (congrArg some (by kernel_rfl))
  f48 := Try.func115.trans (congrArg some (by kernel_rfl))
  f49 := ⟨Try.f116.name, by decide, Try.func116.trans (congrArg some (by kernel_rfl))⟩
  f50 := ⟨Try.f117.name, by decide, Try.func117.trans (congrArg some (by kernel_rfl))⟩
  f57 := ⟨Try.f123.name, by decide, Try.func123.trans (congrArg some (by kernel_rfl))⟩
  t0 := Try.underlying0
  a0 := Try.isAgg0
  z0 := Try.sizeOf0
  v0 := Try.zeroValue0
  t3 := Try.underlying3
  a3 := Try.isAgg3
  z3 := Try.sizeOf3
  v3 := Try.zeroValue3
  t4 := Try.underlying4
  a4 := Try.isAgg4
  z4 := Try.sizeOf4
  v4 := Try.zeroValue4
  t5 := Try.underlying5
  a5 := Try.isAgg5
  z5 := Try.sizeOf5
  v5 := Try.zeroValue5
  t9 := Try.underlying9
  a9 := Try.isAgg9
  z9 := Try.sizeOf9
  v9 := Try.zeroValue9
  t22 := Try.underlying31
  a22 := Try.isAgg31
  z22 := Try.sizeOf31
  v22 := Try.zeroValue31
  t25 := Try.underlying79
  a25 := Try.isAgg79
  z25 := Try.sizeOf79
  v25 := Try.zeroValue79
  t39 := Try.underlying75
  a39 := Try.isAgg75
  z39 := Try.sizeOf75
  v39 := Try.zeroValue75
  t45 := Try.underlying129
  a45 := Try.isAgg129
  z45 := Try.sizeOf129
  v45 := Try.zeroValue129
  t46 := Try.underlying130
  a46 := Try.isAgg130
  z46 := Try.sizeOf130
  v46 := Try.zeroValue130
  t50 := Try.underlying76
  a50 := Try.isAgg76
  z50 := Try.sizeOf76
  v50 := Try.zeroValue76
  t53 := Try.underlying136
  a53 := Try.isAgg136
  z53 := Try.sizeOf136
  v53 := Try.zeroValue136
  t55 := Try.underlying138
  a55 := Try.isAgg138
  z55 := Try.sizeOf138
  v55 := Try.zeroValue138
  t66 := Try.underlying151
  a66 := Try.isAgg151
  z66 := Try.sizeOf151
  v66 := Try.zeroValue151
  t70 := Try.underlying155
  a70 := Try.isAgg155
  z70 := Try.sizeOf155
  v70 := Try.zeroValue155
  t76 := Try.underlying162
  a76 := Try.isAgg162
  z76 := Try.sizeOf162
  v76 := Try.zeroValue162
  t77 := Try.underlying163
  a77 := Try.isAgg163
  z77 := Try.sizeOf163
  v77 := Try.zeroValue163 }
end Go.Proofs.Ytolggcdlpiedmaa
namespace Go.Proofs.Ytolggcdlpiedmaa
open Go.RowKit Go.Shelf Go.Sort Go.Lib
set_option linter.unusedVariables false
set_option maxRecDepth 20000
def encI (x : KV) : List Value := [.int .i64 x.1, .string x.2]
instance : Inhabited KV := ⟨k0⟩
theorem keysV_get (ks : List KV) (t : Nat) (h : t < ks.length * 2) : (keysV ks).toArray[t]! = (encI (ks.toArray[t / 2]!))[t % 2]! := by
  have hi : t / 2 < ks.length := by omega
  obtain ⟨e0, e1⟩ := keysV_at ks (t / 2) hi
  have hk : ks.toArray[t / 2]! = ks.getD (t / 2) k0 := by
    rw [getElem!_pos ks.toArray (t / 2) (by simpa using hi)]; simp [List.getD_eq_getElem?_getD, hi]
  have hl : t < (keysV ks).length := by rw [keysV_len]; exact h
  rw [hk, getElem!_pos (keysV ks).toArray t (by simpa using hl)]
  have hg : (keysV ks)[t]? = some ((keysV ks)[t]'hl) := List.getElem?_eq_getElem hl
  rcases Nat.mod_two_eq_zero_or_one t with m | m
  · rw [show t / 2 * 2 = t by omega] at e0
    rw [e0] at hg
    rw [m]; simpa [encI] using (Option.some.inj hg).symm
  · rw [show t / 2 * 2 + 1 = t by omega] at e1
    rw [e1] at hg
    rw [m]; simpa [encI] using (Option.some.inj hg).symm
theorem flat_keys (ks : List KV) : flatK encI 2 ks.toArray = (keysV ks).toArray := by
  refine ext_get! (by simp [keysV_len]) fun t ht => ?_
  have ht' : t < ks.length * 2 := by simpa using ht
  rw [get_flatK encI 2 ks.toArray t (by simpa using ht'), keysV_get ks t ht']
theorem swoI : SWO (ltOf ordK) := {
  irrefl x := by unfold ltOf; rw [decide_eq_false_iff_not]; exact ordK_irrefl _
  trans x y z h1 h2 := by unfold ltOf at *; rw [decide_eq_true_iff] at *; exact ordK_trans h1 h2
  ntrans x y z h1 h2 := by
    unfold ltOf at *
    rw [decide_eq_false_iff_not] at *
    exact ordK_le_trans h2 h1 }
theorem totI (x y : KV) (h1 : ltOf ordK x y = false) (h2 : ltOf ordK y x = false) : x = y := by
  unfold ltOf at *
  rw [decide_eq_false_iff_not] at *
  exact leK_asymm h2 h1
theorem cmpI_lays (blk off size : Nat) (w : World) : CmpLays Try.prog 45 #[] encI 2 ordK blk off size w := by
  intro m os dk hs x y
  refine (iorder_grows x y _).mono ?_
  rintro e w' ⟨rfl, q, os', rfl⟩
  exact ⟨rfl, q, os', rfl⟩
theorem isAggI (w : World) : (isAgg 24).run Try.prog w = .ok true w := by kernel_rfl
theorem sizeI (w : World) : (Go.sizeOf 24).run Try.prog w = .ok 2 w := by kernel_rfl
theorem heap_sortedK {w : World} {g n : Nat} {os : Array Obj} {cur : Array Value} {e : TypeId} {fr : Nat × Nat} (d : Array Value) (hb : w.heap[g]? = some (.cells cur e fr)) :
    (grow (putRow id (Sort.ahead w n) g 0 d) os).heap[g]? = some (.cells (putCells id 0 d cur) e fr) := by
  have hg : g < w.heap.size := (Array.getElem?_eq_some_iff.1 hb).1
  rw [heap_grow_old _ _ (by simpa using hg)]
  simp [putRow, mapBlock, Sort.ahead, Array.getElem?_modify, hb, onCells]
theorem grownBy_sortedK {w : World} {g n : Nat} {os : Array Obj} (d : Array Value) : w.grownBy (grow (putRow id (Sort.ahead w n) g 0 d) os) (some g) := by
  refine ⟨rfl, rfl, rfl, by simp, fun k hk hne => ?_⟩
  rw [heap_grow_old _ _ (by simpa using hk)]
  have : g ≠ k := fun e => hne (by rw [e])
  simp [putRow, mapBlock, Sort.ahead, Array.getElem?_modify, this]
theorem take_putCellsK (cur : Array Value) (ts : List Value) (h : ts.length ≤ cur.size) : (putCells id 0 ts.toArray cur).toList.take ts.length = ts := by
  apply List.ext_getElem?
  intro j
  by_cases hj : j < ts.length
  · rw [List.getElem?_take_of_lt hj, Array.getElem?_toList]
    simp [putCells, hj, show j < cur.size by omega]
  · rw [List.getElem?_take_eq_none (by omega), List.getElem?_eq_none (by omega)]
set_option maxHeartbeats 1000000 in
theorem sortI_some (g n cap B : Nat) (ks : List KV) (w : World) (hown : w.ownsRow B 24 2 (.slice (some ⟨g, 0, none⟩) n cap) n (keysV ks)) (hn : n ≤ 1048576) :
    Calls Try.prog 44 #[.slice (some ⟨g, 0, none⟩) n cap, .func (.func 45) #[] #[]] w fun e w' => e = .returned (.tuple #[]) ∧ w'.ownsRow B 24 2 (.slice (some ⟨g, 0, none⟩) n cap) n (keysV (sortK ks)) ∧ (∀ b w0, b ≤ B → Below b w0 w → Below b w0 w') := by
  have eg : ∀ args w, (callFunc 45 args).run Try.prog w = .ok (.enter 45 args) w := enters_of Try.func45 (by kernel_rfl) rfl
  rcases hown.2 with ⟨h0, _⟩ | ⟨g', cap', cur, hv, hbase, hb, h1, h2, h3, h4⟩
  · cases h0
  cases hv
  have hl : ks.length = n := by have := hown.1; rw [keysV_len] at this; omega
  subst hl
  have hgl := (Array.getElem?_eq_some_iff.1 hb).1
  have hH : Go.Sort.HoldsK encI 2 w g 0 ks.toArray := by
    unfold Go.Sort.HoldsK
    rw [flat_keys]
    intro j hj
    have hj' : j < ks.length * 2 := by simpa [keysV_len] using hj
    refine ⟨?_, by simp [World.frozen?, hb]⟩
    have h5 : (cur.toList.take (ks.length * 2))[j]? = (keysV ks)[j]? := by rw [h4]
    rw [List.getElem?_take_of_lt hj'] at h5
    simp only [World.cell?, hb, Nat.zero_add]
    simp only [Option.isSome_none, Bool.false_eq_true, if_false]
    rw [← Array.getElem?_toList, h5]
    have hlt : j < (keysV ks).length := by rw [keysV_len]; exact hj'
    rw [List.getElem?_eq_getElem hlt, getElem!_pos (keysV ks).toArray j (by simpa using hlt)]
    simp
  have hS := AnyQ.slices_SortFunc_total Try.sortI 2 isAggI sizeI encI (fun _ => rfl) (fun x v hv => by simp [encI] at hv; rcases hv with rfl | rfl <;> rfl) ordK swoI 45 #[] g 0 cap ks.toArray w eg (cmpI_lays g 0 _ w) hH hgl (by simp at hn ⊢; omega) totI
  change Calls Try.prog 44 _ _ _ at hS
  simp only [List.size_toArray] at hS
  refine hS.mono ?_
  rintro e w' ⟨rfl, q, os, rfl⟩
  have hm : (ks.mergeSort fun x y => !(ltOf ordK) y x) = sortK ks := mergeK ks
  rw [hm]
  have hsl := sortK_length ks
  have hfl : (flatK encI 2 (sortK ks).toArray) = (keysV (sortK ks)).toArray := flat_keys _
  unfold sortWorldK putRowK
  rw [hfl]
  refine ⟨rfl, ⟨by rw [keysV_len, hsl], Or.inr ⟨g, cap, _, rfl, hbase, heap_sortedK _ hb, h1, h2, by simp [putCells, h3], ?_⟩⟩, ?_⟩
  · have := take_putCellsK cur (keysV (sortK ks)) (by rw [keysV_len, hsl, h3]; exact Nat.mul_le_mul_right 2 h1)
    rwa [keysV_len, hsl] at this
  · intro b w0 hbB hbel
    exact hbel.grown (grownBy_sortedK _) (by omega) fun j hj => by cases hj; omega
theorem sortI_none (c : Nat) (w : World) : Calls Try.prog 44 #[.slice none 0 c, .func (.func 45) #[] #[]] w fun e w' => e = .returned (.tuple #[]) ∧ w = w' := by
  have hS := AnyF.slices_SortFunc_none (P := Try.prog) (ρ := Try.sortI_ren) { Try.sortI with } none c (.func (.func 45) #[] #[]) w
  change Calls Try.prog 44 _ _ _ at hS
  refine hS.mono ?_
  rintro e w' ⟨rfl, rfl⟩
  exact ⟨rfl, rfl⟩
end Go.Proofs.Ytolggcdlpiedmaa
/- slices.Clone of items -/
namespace Go.Proofs.Ytolggcdlpiedmaa
open Go.RowKit
set_option linter.unusedVariables false
set_option maxRecDepth 20000
theorem cloneI_any (a : Option Addr) (n cap : Nat) (l : List KV) (w : World) (hh : HoldsK w a n l) (hnil : a = none → n = 0 ∧ cap = 0) (hn : n ≤ 50000) :
    Calls Try.prog 53 #[.slice a n cap] w (RetI w l) := by
  obtain ⟨i0, hi, hz0, hz1, hz2⟩ := info_parts item_info
  have hll := hh.len
  cases a with
  | none =>
    obtain ⟨rfl, rfl⟩ := hnil rfl
    obtain rfl : l = [] := List.eq_nil_of_length_eq_zero hll
    have he := fun w => Lib.run_eql_slice_nil (P := Try.prog) w 31 24 none 0 0 0 0 Try.underlying31
    go_enter Try.func53, Try.ntmps53
    go_wp2_with fail
    go_ret
    exact retI_own rfl rfl (World.ownsRow_nil _ _ _ _) (Below.refl _ _) _ rfl
  | some ad =>
    have hnews : ∀ ad', (some ad : Option Addr) = some ad' → ∀ j u, (keysV l)[j]? = some u → (w.alloc (.cells #[] 24)).cell? (ad'.add j) = some u :=
      HoldsK.cellsAny hh (World.grownBy_alloc w _ none)
    have HN := Lib.hid hnews
    have hown : (w.alloc (.cells #[] 24)).ownsRow w.heap.size 24 2 (.slice (some ⟨w.heap.size, 0, none⟩) 0 0) 0 [] := World.ownsRow_lit w #[] 0 (Nat.le_refl _) (by unfold maxLen; omega) rfl
    have HO := Lib.hid hown
    clear hnews hown hh
    have he := fun w => Lib.run_eql_slice_nil (P := Try.prog) w 31 24 (some ad) n cap 0 0 Try.underlying31
    go_enter Try.func53, Try.ntmps53
    go_wp2_with (at_builtin; refine wpList_append_any rfl (.tmp 5) (.tmp 6) 31 rfl w.heap.size 24 i0 _ 2 24 Try.underlying31 hi hz0 hz1 hz2 rfl (by decide) _ 0 [] rfl HO.out _ n cap (keysV l) rfl (some_none _) (by rw [keysV_len, hll]) HN.out (keysV_one _) (by unfold maxLen; omega) (by omega) (by simp) ?_; intro a3 c3 w3 hown3 hb3 hnil3)
    rw [Nat.zero_add, List.nil_append] at hown3
    go_ret
    exact retI_own rfl hll hown3 ((below_one w (.cells #[] 24)).trans (hb3)) _ (by simp)
end Go.Proofs.Ytolggcdlpiedmaa
/- contract of band.advance -/
namespace Go.Proofs.Ytolggcdlpiedmaa
open Go.RowKit
set_option linter.unusedVariables false
set_option maxRecDepth 20000
set_option maxHeartbeats 6400000 in
theorem badvance_any (ra rb : List Int) (g k i cap m cb : Nat) (f : Nat → Int) (b : Option Addr) (w : World) (hrow : RowIs w g (2 * k + 1) f) (hcell : ∀ x, x < 2 * k + 1 → Cell ra rb k i x (f x))
    (hb : HoldsI .i32 w b m rb) (hne : ∀ b' o, 0 < m → b = some ⟨b', o, none⟩ → b' ≠ g) (hk : k ≤ 1048576) (hm : m ≤ 1048576) (hi : i ≤ 1048576) :
    Calls Try.prog 112 #[.slice (some ⟨g, 0, none⟩) (2 * k + 1) cap, .slice b m cb, .int .i64 ((i : Int) + 1 - k), .int .i32 (ra.getD i 0), .int .i64 ((k : Int) + 1)] w fun e w' => e = .returned (.tuple #[]) ∧
      (∃ f', RowIs w' g (2 * k + 1) f' ∧ ∀ x, x < 2 * k + 1 → Cell ra rb k (i + 1) x (f' x)) ∧ But g w w' := by
  have hlb := hb.len
  obtain ⟨r, hr⟩ : ∃ r, ra.getD i 0 = r := ⟨_, rfl⟩
  obtain ⟨st, hst⟩ : ∃ st, (i : Int) + 1 - k = st := ⟨_, rfl⟩
  obtain ⟨far, hfar⟩ : ∃ far, (k : Int) + 1 = far := ⟨_, rfl⟩
  obtain ⟨n, hn⟩ : ∃ n, 2 * k + 1 = n := ⟨_, rfl⟩
  rw [hn] at hrow hcell
  rw [hr, hst, hfar, hn]
  have R0 := Lib.hid hrow; have C0 := Lib.hid hcell; have HB := Lib.hid hb; have NE := Lib.hid hne; have LB := Lib.hid hlb
  have HR := Lib.hid hr; have HF := Lib.hid hfar; have HNN := Lib.hid hn; have HST := Lib.hid hst
  have hfb : 0 ≤ far ∧ far ≤ 1048577 := by omega
  have hsb : -1048576 ≤ st ∧ st ≤ 1048577 := by omega
  have hnb : n ≤ 2097153 := by omega
  clear hrow hcell hb hne hlb hr hst hfar hn
  go_enter Try.func112, Try.ntmps112
  go_wp2_with fail
  go_loopw [15] (fun xv wr => ∃ (x : Nat) (f' : Nat → Int), x ≤ n ∧ xv = .int .i64 x ∧ Hid (RowIs wr g n f') ∧ Hid (∀ y, y < x → Cell ra rb k (i + 1) y (f' y)) ∧ Hid (∀ y, x ≤ y → f' y = f y) ∧ Hid (But g w wr)) (fun xv _ => n - (intOf xv).toNat)
  case atStart => exact ⟨0, f, by omega, rfl, R0, Lib.hid (fun y h => by omega), Lib.hid (fun y _ => rfl), Lib.hid (But.refl _ _)⟩
  case round =>
    obtain ⟨x, f', hx, rfl, hR, hC, hO, hB⟩ := hrel
    by_cases hlt : x < n
    · have hfx := hR.out.fr x
      have hcx := hR.out.c x hlt
      have hox := hO.out x (Nat.le_refl _)
      have hCx := C0.out x hlt
      rw [hox] at hcx
      obtain ⟨o, ho⟩ : ∃ o, f x = o := ⟨_, rfl⟩
      rw [ho] at hcx hCx
      have hob : 0 ≤ o ∧ o ≤ 1048577 := by have h1 := hCx.lo; have h2 := hCx.hi; omega
      have HCX := Lib.hid hCx
      obtain ⟨j, hj⟩ : ∃ j, st + (x : Int) = j := ⟨_, rfl⟩
      have hjw : IntKind.i64.wrap (st + (x : Int)) = j := by rw [IntWalk.i64_in _ (by omega)]; exact hj
      have hjv : j = (i : Int) + 1 + x - k := by have := HST.out; omega
      have HJV := Lib.hid hjv
      have done : ∀ v, Cell ra rb k (i + 1) x v → RowIs (wr.setCell ⟨g, x, none⟩ (.int .i64 v)) g n (updI f' x v) ∧ (∀ y, y < x + 1 → Cell ra rb k (i + 1) y (updI f' x v y)) ∧ (∀ y, x + 1 ≤ y → updI f' x v y = f y) ∧ But g w (wr.setCell ⟨g, x, none⟩ (.int .i64 v)) := by
        intro v hv
        refine ⟨hR.out.set x v hlt, fun y hy => ?_, fun y hy => by rw [updI_ne _ _ _ _ (by omega)]; exact hO.out y (by omega), hB.out.trans (But.setCell _ _ _ _)⟩
        by_cases e : y = x
        · subst e; rw [updI_at]; exact hv
        · rw [updI_ne _ _ _ _ e]; exact hC.out y (by omega)
      have D := Lib.hid done
      clear hox ho hj hjv hCx done
      by_cases hj0 : j < 0 ∨ (m : Int) < j
      · have hv : Cell ra rb k (i + 1) x far := by
          rw [← HF.out]
          rcases hj0 with h | h
          · exact cell_out_low _ _ _ _ _ (by have := HJV.out; omega)
          · exact cell_out_high _ _ _ _ _ (by rw [LB.out]; have := HJV.out; omega)
        obtain ⟨z1, z2, z3, z4⟩ := D.out far hv
        have Z1 := Lib.hid z1; have Z2 := Lib.hid z2; have Z3 := Lib.hid z3; have Z4 := Lib.hid z4
        clear z1 z2 z3 z4 hv
        rcases hj0 with h | h
        · go_wp2_with fail
          go_roundw
          case rel => exact ⟨x + 1, _, by omega, by go_num, Z1, Z2, Z3, Z4⟩
          case measure => simp [intOf]; omega
        · have h0 : 0 ≤ j := by omega
          go_wp2_with fail
          go_roundw
          case rel => exact ⟨x + 1, _, by omega, by go_num, Z1, Z2, Z3, Z4⟩
          case measure => simp [intOf]; omega
      · have h0 : 0 ≤ j := by omega
        have h1 : j ≤ (m : Int) := by omega
        clear hj0
        have hD1 : ∃ D1, 0 ≤ D1 ∧ D1 ≤ 1048578 ∧ Comes ra rb k i x D1 ∧ ((j = 0 ∧ D1 = far) ∨ (∃ J : Nat, j = (J : Int) + 1 ∧ ((rb.getD J 0 = r ∧ D1 = o) ∨ (rb.getD J 0 ≠ r ∧ D1 = o + 1)))) := by
          by_cases hjz : j = 0
          · exact ⟨far, by omega, by omega, by rw [← HF.out]; exact comes_zero ra rb k i x (by have := HJV.out; omega), Or.inl ⟨hjz, rfl⟩⟩
          · have e := comes_in ra rb k i x (j - 1).toNat o (by have := HJV.out; omega) (by rw [LB.out]; omega) HCX.out
            by_cases hc : rb.getD (j - 1).toNat 0 = r
            · rw [HR.out, hc, cost_eq, Int.add_zero] at e
              exact ⟨o, by omega, by omega, e, Or.inr ⟨(j - 1).toNat, by omega, Or.inl ⟨hc, rfl⟩⟩⟩
            · rw [HR.out, cost_ne (fun h => hc h.symm)] at e
              exact ⟨o + 1, by omega, by omega, e, Or.inr ⟨(j - 1).toNat, by omega, Or.inr ⟨hc, rfl⟩⟩⟩
        obtain ⟨D1, hd0, hd1, hcomes, hD⟩ := hD1
        have CM := Lib.hid hcomes
        have HD := Lib.hid hD
        clear hcomes hD
        go_upto_if 35 with fail
        go_cut [12] from 16 to 78 (fun d wc => d = .int .i64 D1 ∧ wr = wc)
        case first =>
          rcases HD.out with ⟨hj, hd⟩ | ⟨J, hj, hc⟩
          · subst hj
            go_wp2_with fail
            go_meet
            exact ⟨by rw [hd], rfl⟩
          · obtain ⟨bb, bo, rfl, hbc⟩ := (HB.out.but hB.out NE.out).2 (by omega)
            have e1 := hbc J (by omega)
            obtain ⟨c, hcv⟩ : ∃ c, rb.getD J 0 = c := ⟨_, rfl⟩
            rw [hcv] at e1 hc
            have hjw2 : IntKind.i64.wrap (j - 1) = (J : Int) := by rw [IntWalk.i64_in _ (by omega)]; omega
            have x1 : (0 : Int) < j := by omega
            have x2 : (0 : Int) ≤ (J : Int) := by omega
            have x3 : (J : Int) < (m : Int) := by omega
            have HJ := Lib.hid hj
            clear hbc hcv hj
            rcases hc with ⟨hc, hd⟩ | ⟨hc, hd⟩
            · have x4 : (c != r) = false := by simpa using hc
              clear hc
              subst hd
              go_wp2_with fail
              go_meet
              exact ⟨rfl, rfl⟩
            · have x4 : (c != r) = true := by simpa using hc
              clear hc
              go_wp2_with fail
              go_meet
              exact ⟨by rw [hd], rfl⟩
        case rest =>
          obtain ⟨rfl, rfl⟩ := hcut
          clear HD
          have hD2 : ∃ D2 l, 0 ≤ D2 ∧ D2 ≤ 1048578 ∧ 0 ≤ l ∧ l ≤ 1048577 ∧ ((x = 0 ∧ D2 = D1) ∨ (∃ p, p + 1 = x ∧ Cell ra rb k (i + 1) p l ∧ D2 = min D1 (l + 1))) ∧ (∀ p, p + 1 = x → f' p = l) := by
            rcases Nat.eq_zero_or_pos x with hx0 | hx0
            · exact ⟨D1, 0, by omega, by omega, by omega, by omega, Or.inl ⟨hx0, rfl⟩, fun p hp => by omega⟩
            · have e := hC.out (x - 1) (by omega)
              have b1 := e.lo; have b2 := e.hi
              exact ⟨min D1 (f' (x - 1) + 1), f' (x - 1), by omega, by omega, b1, by omega, Or.inr ⟨x - 1, by omega, e, rfl⟩, fun p hp => by rw [show p = x - 1 by omega]⟩
          obtain ⟨D2, l, he0, he1, hl0, hl1, hD2, hpl⟩ := hD2
          have HD2 := Lib.hid hD2
          have HPL := Lib.hid hpl
          clear hD2 hpl
          go_upto_if 50 with fail
          go_cut [12] from 16 to 78 (fun d wc => d = .int .i64 D2 ∧ wr = wc)
          case first =>
            rcases HD2.out with ⟨hx0, hd⟩ | ⟨p, hp, _, hd⟩
            · subst hx0 hd
              go_wp2_with fail
              go_meet
              exact ⟨rfl, rfl⟩
            · have e1 := hR.out.c p (by omega)
              rw [HPL.out p hp] at e1
              have hw2 : IntKind.i64.wrap ((x : Int) - 1) = (p : Int) := by rw [IntWalk.i64_in _ (by omega)]; omega
              have x1 : (0 : Int) < (x : Int) := by omega
              have x2 : (0 : Int) ≤ (p : Int) := by omega
              have x3 : (p : Int) < (n : Int) := by omega
              have x5 : p < n := by omega
              have hw3 : IntKind.i64.wrap (l + 1) = l + 1 := IntWalk.i64_in _ (by omega)
              have HDD := Lib.hid hd
              clear hd
              go_wp2_with fail
              all_goals go_meet
              all_goals exact ⟨by congr 1; have := HDD.out; omega, rfl⟩
          case rest =>
            obtain ⟨rfl, rfl⟩ := hcut
            have hD3 : ∃ D3 u, 0 ≤ D3 ∧ D3 ≤ 1048578 ∧ 0 ≤ u ∧ u ≤ 1048577 ∧ ((x = 2 * k ∧ D3 = D2) ∨ (x < 2 * k ∧ Cell ra rb k i (x + 1) u ∧ D3 = min D2 (u + 1))) ∧ (x + 1 < n → f' (x + 1) = u) := by
              by_cases hxn : x + 1 < n
              · have e := C0.out (x + 1) hxn
                have b1 := e.lo; have b2 := e.hi
                exact ⟨min D2 (f (x + 1) + 1), f (x + 1), by omega, by omega, b1, by omega, Or.inr ⟨by have := HNN.out; omega, e, rfl⟩, fun _ => hO.out (x + 1) (by omega)⟩
              · exact ⟨D2, 0, by omega, by omega, by omega, by omega, Or.inl ⟨by have := HNN.out; omega, rfl⟩, fun h => absurd h hxn⟩
            obtain ⟨D3, u, hf0, hf1, hu0, hu1, hD3, hpu⟩ := hD3
            have HD3 := Lib.hid hD3
            have HPU := Lib.hid hpu
            clear hD3 hpu
            go_upto_if 63 with fail
            go_cut [12] from 16 to 78 (fun d wc => d = .int .i64 D3 ∧ wr = wc)
            case first =>
              by_cases hxn : x + 1 < n
              · have hd : D3 = min D2 (u + 1) := by
                  rcases HD3.out with ⟨h, _⟩ | ⟨_, _, h⟩
                  · have := HNN.out; omega
                  · exact h
                have e1 := hR.out.c (x + 1) hxn
                rw [HPU.out hxn] at e1
                have x3 : (x : Int) + 1 < (n : Int) := by omega
                have hw2 : IntKind.i64.wrap ((x : Int) + 1) = (x : Int) + 1 := IntWalk.i64_in _ (by omega)
                have hw3 : IntKind.i64.wrap (u + 1) = u + 1 := IntWalk.i64_in _ (by omega)
                have HDD := Lib.hid hd
                clear hd
                go_wp2_with fail
                all_goals go_meet
                all_goals exact ⟨by congr 1; have := HDD.out; omega, rfl⟩
              · have hd : D3 = D2 := by
                  rcases HD3.out with ⟨_, h⟩ | ⟨h, _⟩
                  · exact h
                  · have := HNN.out; omega
                subst hd
                have x3 : ¬ (x : Int) + 1 < (n : Int) := by omega
                have hw2 : IntKind.i64.wrap ((x : Int) + 1) = (x : Int) + 1 := IntWalk.i64_in _ (by omega)
                go_wp2_with fail
                go_meet
                exact ⟨rfl, rfl⟩
            case rest =>
              obtain ⟨rfl, rfl⟩ := hcut
              obtain ⟨z1, z2, z3, z4⟩ := D.out (min D3 far) (CM.out l u D2 D3 (min D3 far) HD2.out HD3.out (by rw [HF.out]))
              obtain ⟨V, hV⟩ : ∃ V, min D3 far = V := ⟨_, rfl⟩
              rw [hV] at z1 z2 z3 z4
              have Z1 := Lib.hid z1; have Z2 := Lib.hid z2; have Z3 := Lib.hid z3; have Z4 := Lib.hid z4
              clear z1 z2 z3 z4 HD2 HD3 HPL HPU D CM
              have hmin : (D3 < far ∧ V = D3) ∨ (D3 = far ∧ V = D3) ∨ (far < D3 ∧ V = far) := by omega
              rcases hmin with ⟨h3, h4⟩ | ⟨h3, h4⟩ | ⟨h3, h4⟩
              · subst h4
                go_wp2_with fail
                go_roundw
                case rel => exact ⟨x + 1, _, by omega, by go_num, Z1, Z2, Z3, Z4⟩
                case measure => simp [intOf]; omega
              · subst h4 h3
                go_wp2_with fail
                go_roundw
                case rel => exact ⟨x + 1, _, by omega, by go_num, Z1, Z2, Z3, Z4⟩
                case measure => simp [intOf]; omega
              · subst h4
                go_wp2_with fail
                go_roundw
                case rel => exact ⟨x + 1, _, by omega, by go_num, Z1, Z2, Z3, Z4⟩
                case measure => simp [intOf]; omega
    · obtain rfl : x = n := by omega
      go_wp2_with fail
      go_end0
      exact ⟨rfl, ⟨f', hR.out, fun y hy => hC.out y (by have := HNN.out; omega)⟩, hB.out⟩
end Go.Proofs.Ytolggcdlpiedmaa
/- contract of band.banded -/
namespace Go.Proofs.Ytolggcdlpiedmaa
open Go.RowKit
set_option linter.unusedVariables false
set_option maxRecDepth 20000
theorem RowIs.of_own {w : World} {B g n cap : Nat} {e : TypeId} {zs : List Int} (h : w.ownsRow B e 1 (.slice (some ⟨g, 0, none⟩) n cap) n (intsV zs)) (hz : zs.length = n) : RowIs w g n (fun j => zs.getD j 0) :=
  ⟨fun j hj => by have := h.cellAt j (by omega); rw [intsV_at _ j (by omega)] at this; exact this, fun j => h.frozenAt j⟩
set_option maxHeartbeats 6400000 in
theorem banded_any (ra rb : List Int) (a b : Option Addr) (la lb ca cb k : Nat) (w : World) (ha : HoldsI .i32 w a la ra) (hb : HoldsI .i32 w b lb rb) (hla : la ≤ 1048576) (hlb : lb ≤ 1048576) (hk : k ≤ 1048576)
    (h1 : (la : Int) - lb ≤ k) (h2 : (lb : Int) - la ≤ k) :
    Calls Try.prog 87 #[.slice a la ca, .slice b lb cb, .int .i64 k] w fun e w' => e = .returned (.int .i64 (min (Ed.L ra rb la lb) ((k : Int) + 1))) ∧ Below w.heap.size w w' := by
  obtain ⟨i0, hi, hz0, hz1, hz2⟩ := info_parts int_info
  have HA := Lib.hid ha; have HB := Lib.hid hb
  have LA := Lib.hid ha.len; have LB := Lib.hid hb.len
  obtain ⟨n, hn⟩ : ∃ n, 2 * k + 1 = n := ⟨_, rfl⟩
  obtain ⟨far, hfar⟩ : ∃ far, (k : Int) + 1 = far := ⟨_, rfl⟩
  have hw1 : IntKind.i64.wrap ((k : Int) + 1) = far := by rw [IntWalk.i64_in _ (by omega)]; exact hfar
  have hw2 : IntKind.i64.wrap (2 * (k : Int)) = 2 * (k : Int) := IntWalk.i64_in _ (by omega)
  have hw3 : IntKind.i64.wrap (2 * (k : Int) + 1) = (n : Int) := by rw [IntWalk.i64_in _ (by omega)]; omega
  have HN := Lib.hid hn; have HF := Lib.hid hfar
  have hnb : n ≤ 2097153 := by omega
  have hfb : 0 ≤ far ∧ far ≤ 1048577 := by omega
  clear ha hb hn hfar
  go_enter Try.func87, Try.ntmps87
  go_wp2_with (at_make; refine wpList_make_full _ rfl _ _ 45 rfl w.heap.size 3 i0 (.int .i64 0) 1 Try.underlying45 hi hz0 hz1 _ _ _ _ n rfl rfl (by omega) (by omega) (by rw [hz2]; omega) (by unfold maxLen; omega) (Nat.le_refl _) ?_; intro w0 hown0 hgrow0)
  have hB0 := below_grown hgrow0 (by intro k hk; cases hk)
  have ho : w0.ownsRow w.heap.size 3 1 (.slice (some ⟨w.heap.size, 0, none⟩) n n) n (intsV (upTo n 0)) := by
    rw [upTo_zero, ← toList_madeCells_one]; rw [Nat.mul_one] at hown0; exact hown0
  have R0 := Lib.hid (RowIs.of_own ho (upTo_length _ _)); have B0 := Lib.hid hB0
  clear hown0 hgrow0 ho hB0
  obtain ⟨g, hg⟩ : ∃ g, w.heap.size = g := ⟨_, rfl⟩
  have HG := Lib.hid hg
  rw [hg] at R0
  simp only [hg]
  clear hg
  go_loopw [20] (fun xv wr => ∃ (x : Nat) (f' : Nat → Int), x ≤ n ∧ xv = .int .i64 x ∧ Hid (RowIs wr g n f') ∧ Hid (∀ y, y < x → Cell ra rb k 0 y (f' y)) ∧ Hid (Below w.heap.size w wr)) (fun xv _ => n - (intOf xv).toNat)
  case atStart => exact ⟨0, _, by omega, rfl, R0, Lib.hid (fun y h => by omega), B0⟩
  case round =>
    obtain ⟨x, f', hx, rfl, hR, hC, hB⟩ := hrel
    by_cases hlt : x < n
    · have hc := hR.out.c x hlt
      have hf := hR.out.fr x
      have hR1 := Lib.hid (hR.out.set x far hlt)
      have hcs := cell_start ra rb k x (by have := HN.out; omega)
      have x1 : (0 : Int) ≤ (x : Int) := by omega
      have x2 : (x : Int) < (n : Int) := by omega
      have hf1 := hR1.out.fr x
      have hc1 := hR1.out.c x hlt
      have hgl : w.heap.size ≤ g := Nat.le_of_eq HG.out
      by_cases hxk : k ≤ x
      · rw [if_pos hxk] at hcs
        obtain ⟨V, hV⟩ : ∃ V, (x : Int) - k = V := ⟨_, rfl⟩
        rw [hV] at hcs
        have hVw : IntKind.i64.wrap ((x : Int) - k) = V := by rw [IntWalk.i64_in _ (by omega)]; exact hV
        have hR2 := Lib.hid (hR1.out.set x V hlt)
        have HCS := Lib.hid hcs
        clear hV hcs
        go_wp2_with fail
        go_roundw
        case rel =>
          refine ⟨x + 1, _, by omega, by go_num, hR2, Lib.hid (fun y hy => ?_), Lib.hid ((hB.out.setCell hgl _).setCell hgl _)⟩
          by_cases e : y = x
          · subst e; rw [updI_at]; exact HCS.out
          · rw [updI_ne _ _ _ _ e, updI_ne _ _ _ _ e]; exact hC.out y (by omega)
        case measure => simp [intOf]; omega
      · rw [if_neg hxk] at hcs
        have HCS := Lib.hid hcs
        clear hcs
        go_wp2_with fail
        go_roundw
        case rel =>
          refine ⟨x + 1, _, by omega, by go_num, hR1, Lib.hid (fun y hy => ?_), Lib.hid (hB.out.setCell hgl _)⟩
          by_cases e : y = x
          · subst e; rw [updI_at, ← HF.out]; exact HCS.out
          · rw [updI_ne _ _ _ _ e]; exact hC.out y (by omega)
        case measure => simp [intOf]; omega
    · obtain rfl : x = n := by omega
      have C1 := Lib.hid (show ∀ y, y < x → Cell ra rb k 0 y (f' y) from hC.out)
      clear hC
      go_wp2_with fail
      go_loopw [39] (fun iv wr2 => ∃ (i : Nat) (f2 : Nat → Int), i ≤ la ∧ iv = .int .i64 i ∧ Hid (RowIs wr2 g x f2) ∧ Hid (∀ y, y < x → Cell ra rb k i y (f2 y)) ∧ Hid (Below w.heap.size w wr2)) (fun iv _ => la - (intOf iv).toNat)
      case atStart => exact ⟨0, f', by omega, rfl, hR, C1, hB⟩
      case round =>
        obtain ⟨i, f2, hi2, rfl, hR2, hC2, hB2⟩ := hrel
        by_cases hil : i < la
        · obtain ⟨ab, ao, rfl, hac⟩ := (HA.out.below (w' := wr) hB2.out).2 (by omega)
          have e1 := hac i hil
          have hiw : IntKind.i64.wrap ((i : Int) + 1) = (i : Int) + 1 := IntWalk.i64_in _ (by omega)
          have hiw2 : IntKind.i64.wrap ((i : Int) + 1 - k) = (i : Int) + 1 - k := IntWalk.i64_in _ (by omega)
          have hne : ∀ b' o, 0 < lb → b = some ⟨b', o, none⟩ → b' ≠ g := fun b' o h0 e => by
            obtain ⟨b2, o2, e2, hc2⟩ := HB.out.2 h0
            rw [e2] at e; injection e with e; injection e with e3
            have := lt_of_cell (hc2 0 h0); have := HG.out; omega
          have NE := Lib.hid hne
          clear hac hne
          go_wp2_with fail
          have hn' := HN.out
          have hadv := badvance_any ra rb g k i x lb cb f2 b wr (hn' ▸ hR2.out) (fun y hy => hC2.out y (by omega)) (HB.out.below hB2.out) NE.out hk hlb (by omega)
          rw [hn', HF.out] at hadv
          refine hadv.mono ?_
          rintro e w2 ⟨rfl, ⟨f3, hr3, hc3⟩, hb3⟩
          have R3 := Lib.hid hr3; have C3 := Lib.hid hc3
          have B3 := Lib.hid (hB2.out.trans (hb3.below (Nat.le_of_eq HG.out) hB2.out.size))
          clear hr3 hc3 hb3 hadv hn'
          go_wp2_with fail
          go_roundw
          case rel => exact ⟨i + 1, f3, by omega, by go_num, R3, C3, B3⟩
          case measure => simp [intOf]; omega
        · obtain rfl : i = la := by omega
          obtain ⟨p, hp⟩ : ∃ p : Nat, (p : Int) = (lb : Int) - i + k := ⟨((lb : Int) - i + k).toNat, by omega⟩
          have hpx : p < x := by have := HN.out; omega
          have e1 := hR2.out.c p hpx
          have e2 := (hC2.out p hpx).eq lb (by omega) (by rw [LB.out]; exact Nat.le_refl _)
          rw [e2, HF.out] at e1
          have q1 : IntKind.i64.wrap ((lb : Int) - i) = (lb : Int) - i := IntWalk.i64_in _ (by omega)
          have q2 : IntKind.i64.wrap ((lb : Int) - i + k) = (p : Int) := by rw [IntWalk.i64_in _ (by omega)]; exact hp.symm
          have q3 : (0 : Int) ≤ (p : Int) := by omega
          have q4 : (p : Int) < (x : Int) := by omega
          obtain ⟨V, hV⟩ : ∃ V, min (Ed.L ra rb i lb) far = V := ⟨_, rfl⟩
          rw [hV] at e1
          have HV := Lib.hid hV
          clear e2 hp hV
          go_wp2_with fail
          go_ret
          exact ⟨ret_int (by rw [HF.out]; exact HV.out.symm), hB2.out⟩
end Go.Proofs.Ytolggcdlpiedmaa
/- contracts of band.Within, band.Near, and of awake -/
namespace Go.Proofs.Ytolggcdlpiedmaa
open Go.RowKit
set_option linter.unusedVariables false
set_option maxRecDepth 20000
def withinD (D k : Int) : Int := if D ≤ k then D else 0
/-- Within, where the distance is told by a letter -/
def WithinP (a b : Option Addr) (la lb ca cb : Nat) (D : Int) (w : World) : Prop :=
  ∀ k : Int, Calls Try.prog 67 #[.slice a la ca, .slice b lb cb, .int .i64 k] w fun e w' => e = .returned (.tuple #[.int .i64 (withinD D k), .bool (decide (D ≤ k))]) ∧ Below w.heap.size w w'
theorem within_no (ra rb : List Int) (a b : Option Addr) (la lb ca cb : Nat) (k : Int) (w : World) (hla : la ≤ 1048576) (hlb : lb ≤ 1048576) (h : k < 0 ∨ k < (la : Int) - lb ∨ k < (lb : Int) - la) :
    Calls Try.prog 67 #[.slice a la ca, .slice b lb cb, .int .i64 k] w fun e w' => e = .returned (.tuple #[.int .i64 0, .bool false]) ∧ w = w' := by
  have h1 : k < 0 ∨ (0 ≤ k ∧ k < (la : Int) - lb) ∨ (0 ≤ k ∧ (la : Int) - lb ≤ k ∧ k < (lb : Int) - la) := by omega
  have q1 : IntKind.i64.wrap ((la : Int) - lb) = (la : Int) - lb := IntWalk.i64_in _ (by omega)
  have q2 : IntKind.i64.wrap ((lb : Int) - la) = (lb : Int) - la := IntWalk.i64_in _ (by omega)
  clear h
  rcases h1 with h1 | ⟨h0, h1⟩ | ⟨h0, h1, h2⟩
  all_goals
    go_enter Try.func67, Try.ntmps67
    go_wp2_with fail
    go_ret2
    exact ⟨rfl, rfl⟩
set_option maxHeartbeats 1600000 in
theorem within_any (ra rb : List Int) (a b : Option Addr) (la lb ca cb : Nat) (w : World) (ha : HoldsI .i32 w a la ra) (hb : HoldsI .i32 w b lb rb) (hla : la ≤ 1048576) (hlb : lb ≤ 1048576) :
    WithinP a b la lb ca cb (Ed.L ra rb la lb) w := by
  intro k
  have b1 := Ed.L_low ra rb la lb
  have b2 := Ed.L_bd ra rb la lb
  have b3 := Ed.L_up ra rb la lb
  by_cases hno : k < 0 ∨ k < (la : Int) - lb ∨ k < (lb : Int) - la
  · have h1 : ¬ Ed.L ra rb la lb ≤ k := by omega
    unfold withinD
    rw [if_neg h1, decide_eq_false h1]
    exact (within_no ra rb a b la lb ca cb k w hla hlb hno).mono fun e w' h => ⟨h.1, h.2 ▸ Below.refl _ _⟩
  · obtain ⟨n, rfl⟩ : ∃ n : Nat, k = (n : Int) := ⟨k.toNat, by omega⟩
    have h1 : (la : Int) - lb ≤ n := by omega
    have h2 : (lb : Int) - la ≤ n := by omega
    have h0 : (0 : Int) ≤ (n : Int) := by omega
    have q1 : IntKind.i64.wrap ((la : Int) - lb) = (la : Int) - lb := IntWalk.i64_in _ (by omega)
    have q2 : IntKind.i64.wrap ((lb : Int) - la) = (lb : Int) - la := IntWalk.i64_in _ (by omega)
    have hruns := Lib.hid (eruns_lit ra rb la lb a b ca cb w ha.len hb.len ha hb hla hlb)
    have hband := Lib.hid (fun hn => banded_any ra rb a b la lb ca cb n w ha hb hla hlb hn h1 h2)
    obtain ⟨D, hD⟩ : ∃ D, Ed.L ra rb la lb = D := ⟨_, rfl⟩
    simp only [hD] at b1 b2 b3 hruns hband ⊢
    unfold withinD
    have hmx : ((la : Int) < lb ∧ ((max la lb : Nat) : Int) = lb) ∨ ((lb : Int) ≤ la ∧ ((max la lb : Nat) : Int) = la) := by omega
    clear ha hb hD hno b1
    rcases hmx with ⟨hm, hm2⟩ | ⟨hm, hm2⟩
    all_goals
      rw [hm2] at b3
      clear hm2
    · by_cases hbig : (lb : Int) ≤ n
      · have hle : D ≤ (n : Int) := by omega
        rw [if_pos hle, decide_eq_true hle]
        have x1 : ¬ (n : Int) < D := by omega
        go_enter Try.func67, Try.ntmps67
        go_wp2_with fail
        refine hruns.out.mono ?_
        rintro e w' ⟨rfl, hb⟩
        go_wp2_with fail
        go_ret2
        exact ⟨rfl, hb⟩
      · have hb2 := Lib.hid (hband.out (by omega))
        have x3 : (n : Int) < lb := by omega
        clear hband hbig
        by_cases hle : D ≤ (n : Int)
        · rw [if_pos hle, decide_eq_true hle]
          have hv : min D ((n : Int) + 1) = D := by omega
          rw [hv] at hb2
          clear hv
          go_enter Try.func67, Try.ntmps67
          go_wp2_with fail
          refine hb2.out.mono ?_
          rintro e w' ⟨rfl, hb⟩
          go_wp2_with fail
          go_ret2
          exact ⟨rfl, hb⟩
        · rw [if_neg hle, decide_eq_false hle]
          have hv : min D ((n : Int) + 1) = (n : Int) + 1 := by omega
          rw [hv] at hb2
          clear hv
          go_enter Try.func67, Try.ntmps67
          go_wp2_with fail
          refine hb2.out.mono ?_
          rintro e w' ⟨rfl, hb⟩
          go_wp2_with fail
          go_ret2
          exact ⟨rfl, hb⟩
    · by_cases hbig : (la : Int) ≤ n
      · have hle : D ≤ (n : Int) := by omega
        rw [if_pos hle, decide_eq_true hle]
        have x1 : ¬ (n : Int) < D := by omega
        go_enter Try.func67, Try.ntmps67
        go_wp2_with fail
        refine hruns.out.mono ?_
        rintro e w' ⟨rfl, hb⟩
        go_wp2_with fail
        go_ret2
        exact ⟨rfl, hb⟩
      · have hb2 := Lib.hid (hband.out (by omega))
        have x3 : (n : Int) < la := by omega
        clear hband hbig
        by_cases hle : D ≤ (n : Int)
        · rw [if_pos hle, decide_eq_true hle]
          have hv : min D ((n : Int) + 1) = D := by omega
          rw [hv] at hb2
          clear hv
          go_enter Try.func67, Try.ntmps67
          go_wp2_with fail
          refine hb2.out.mono ?_
          rintro e w' ⟨rfl, hb⟩
          go_wp2_with fail
          go_ret2
          exact ⟨rfl, hb⟩
        · rw [if_neg hle, decide_eq_false hle]
          have hv : min D ((n : Int) + 1) = (n : Int) + 1 := by omega
          rw [hv] at hb2
          clear hv
          go_enter Try.func67, Try.ntmps67
          go_wp2_with fail
          refine hb2.out.mono ?_
          rintro e w' ⟨rfl, hb⟩
          go_wp2_with fail
          go_ret2
          exact ⟨rfl, hb⟩
def nearOk (a b : ByteArray) (k : Int) : Bool := decide (0 ≤ distS a b ∧ distS a b ≤ k)
def nearD (a b : ByteArray) (k : Int) : Int := if 0 ≤ distS a b ∧ distS a b ≤ k then distS a b else 0
set_option maxHeartbeats 1600000 in
theorem near_any (a b : ByteArray) (k : Int) (w : World) (hsa : a.size ≤ 1048576) (hsb : b.size ≤ 1048576) :
    Calls Try.prog 43 #[.string a, .string b, .int .i64 k] w fun e w' => e = .returned (.tuple #[.int .i64 (nearD a b k), .bool (nearOk a b k)]) ∧ Below w.heap.size w w' := by
  unfold nearOk nearD
  by_cases hga : 0 ≤ lenS a
  · have hA := Lib.hid (runes_good a w hsa hga)
    by_cases hgb : 0 ≤ lenS b
    · have hBr := Lib.hid (fun w => runes_good b w hsb hgb)
      have hd : distS a b = Ed.L (intsN (runesS a)) (intsN (runesS b)) (runesS a).length (runesS b).length := by unfold distS; rw [if_pos ⟨hga, hgb⟩]
      have hbd := Ed.L_bd (intsN (runesS a)) (intsN (runesS b)) (runesS a).length (runesS b).length
      have hle := runesS_le a
      have hleb := runesS_le b
      have hl1 := intsN_length (runesS a)
      have hl2 := intsN_length (runesS b)
      have h0 : (0 ≤ distS a b ∧ distS a b ≤ k) ↔ distS a b ≤ k := ⟨fun h => h.2, fun h => ⟨by omega, h⟩⟩
      have e1 : (if 0 ≤ distS a b ∧ distS a b ≤ k then distS a b else 0) = withinD (distS a b) k := by
        unfold withinD
        by_cases hk : distS a b ≤ k
        · rw [if_pos hk, if_pos (h0.2 hk)]
        · rw [if_neg hk, if_neg (fun h => hk h.2)]
      have e2 : decide (0 ≤ distS a b ∧ distS a b ≤ k) = decide (distS a b ≤ k) := decide_eq_decide.2 h0
      rw [e1, e2]
      rw [hd]
      clear e1 e2
      have HLE := Lib.hid hle; have HLEB := Lib.hid hleb; have HL1 := Lib.hid hl1; have HL2 := Lib.hid hl2
      clear hd hbd h0 hle hleb hl1 hl2 hga hgb
      go_enter Try.func43, Try.ntmps43
      go_wp2_with fail
      refine hA.out.mono ?_
      rintro e w1 ⟨a1, c1, rfl, hr1⟩
      have R1 := Lib.hid hr1
      clear hr1
      go_wp2_with fail
      refine (hBr.out _).mono ?_
      rintro e w2 ⟨a2, c2, rfl, hr2⟩
      have R2 := Lib.hid hr2
      clear hr2
      go_wp2_with fail
      have B2 : Below w.heap.size w w2 := R1.out.2.1.trans (R2.out.2.1.mono R1.out.2.1.size)
      have h1 := R1.out.holds.below R2.out.2.1
      have h2 := R2.out.holds
      rw [HL1.out] at h1; rw [HL2.out] at h2
      have hw := within_any (intsN (runesS a)) (intsN (runesS b)) a1 a2 (runesS a).length (runesS b).length c1 c2 w2 h1 h2 (by have := HLE.out; omega) (by have := HLEB.out; omega) k
      refine hw.mono ?_
      rintro e w3 ⟨rfl, hb3⟩
      have B3 := Lib.hid (B2.trans (hb3.mono B2.size))
      clear hb3 hw h1 h2 B2
      go_wp2_with fail
      go_ret2
      exact ⟨rfl, B3.out⟩
    · have hBr := Lib.hid (fun w => runes_bad b w hsb (by omega))
      have hd : distS a b = -1 := by unfold distS; rw [if_neg (fun h => hgb h.2)]
      rw [hd]
      have hn : ¬ ((0 : Int) ≤ -1 ∧ (-1 : Int) ≤ k) := by omega
      rw [if_neg hn, decide_eq_false hn]
      clear hn hd hga hgb
      go_enter Try.func43, Try.ntmps43
      go_wp2_with fail
      refine hA.out.mono ?_
      rintro e w1 ⟨a1, c1, rfl, hr1⟩
      have R1 := Lib.hid hr1
      clear hr1
      go_wp2_with fail
      refine (hBr.out _).mono ?_
      rintro e w2 ⟨rfl, hb2⟩
      have B2 := Lib.hid (R1.out.2.1.trans (hb2.mono R1.out.2.1.size))
      clear hb2
      go_wp2_with fail
      go_ret2
      exact ⟨rfl, B2.out⟩
  · have hA := Lib.hid (runes_bad a w hsa (by omega))
    have hd : distS a b = -1 := by unfold distS; rw [if_neg (fun h => hga h.1)]
    rw [hd]
    have hn : ¬ ((0 : Int) ≤ -1 ∧ (-1 : Int) ≤ k) := by omega
    rw [if_neg hn, decide_eq_false hn]
    clear hn hd hga
    by_cases hgb : 0 ≤ lenS b
    · have hBr := Lib.hid (fun w => runes_good b w hsb hgb)
      clear hgb
      go_enter Try.func43, Try.ntmps43
      go_wp2_with fail
      refine hA.out.mono ?_
      rintro e w1 ⟨rfl, hb1⟩
      have R1 := Lib.hid hb1
      clear hb1
      go_wp2_with fail
      refine (hBr.out _).mono ?_
      rintro e w2 ⟨a2, c2, rfl, hr2⟩
      have B2 := Lib.hid (R1.out.trans (hr2.2.1.mono R1.out.size))
      clear hr2
      go_wp2_with fail
      go_ret2
      exact ⟨rfl, B2.out⟩
    · have hBr := Lib.hid (fun w => runes_bad b w hsb (by omega))
      clear hgb
      go_enter Try.func43, Try.ntmps43
      go_wp2_with fail
      refine hA.out.mono ?_
      rintro e w1 ⟨rfl, hb1⟩
      have R1 := Lib.hid hb1
      clear hb1
      go_wp2_with fail
      refine (hBr.out _).mono ?_
      rintro e w2 ⟨rfl, hb2⟩
      have B2 := Lib.hid (R1.out.trans (hb2.mono R1.out.size))
      clear hb2
      go_wp2_with fail
      go_ret2
      exact ⟨rfl, B2.out⟩
end Go.Proofs.Ytolggcdlpiedmaa
/- contracts of rank.Sort, rank.All, rank.Top -/
namespace Go.Proofs.Ytolggcdlpiedmaa
open Go.RowKit
set_option linter.unusedVariables false
set_option maxRecDepth 20000
/-- sorted in place is a slice of the call's own -/
theorem sortI_own (a : Option Addr) (n cap B : Nat) (ks : List KV) (w : World) (hown : w.ownsRow B 24 2 (.slice a n cap) n (keysV ks)) (hn : n ≤ 1048576) :
    Calls Try.prog 44 #[.slice a n cap, .func (.func 45) #[] #[]] w fun e w' => e = .returned (.tuple #[]) ∧ w'.ownsRow B 24 2 (.slice a n cap) n (keysV (sortK ks)) ∧ (∀ b w0, b ≤ B → Below b w0 w → Below b w0 w') := by
  have hl : ks.length = n := by have := hown.1; rw [keysV_len] at this; omega
  rcases hown.2 with ⟨h, h0⟩ | ⟨g', c', cur, h, _⟩
  · cases h
    obtain rfl : ks = [] := List.eq_nil_of_length_eq_zero hl
    refine (sortI_none 0 w).mono ?_
    rintro e w' ⟨rfl, rfl⟩
    exact ⟨rfl, hown, fun _ _ _ h => h⟩
  · cases h
    exact sortI_some g' n cap B ks w hown hn
theorem rankSort_any (a : Option Addr) (n cap : Nat) (l : List KV) (w : World) (hh : HoldsK w a n l) (hnil : a = none → n = 0 ∧ cap = 0) (hn : n ≤ 50000) :
    Calls Try.prog 35 #[.slice a n cap] w (RetI w (sortK l)) := by
  have hll := hh.len
  have CL := Lib.hid (cloneI_any a n cap l w hh hnil hn)
  clear hh hnil
  go_enter Try.func35, Try.ntmps35
  go_wp2_with fail
  refine CL.out.mono ?_
  rintro e w1 ⟨a1, c1, rfl, hown, hb⟩
  rw [hll] at hown
  rw [hll]
  have SO := Lib.hid (sortI_own a1 n c1 w.heap.size l w1 hown (by omega))
  have B1 := Lib.hid hb
  clear hown hb
  go_wp2_with fail
  refine SO.out.mono ?_
  rintro e w2 ⟨rfl, hown, hb⟩
  have B2 := Lib.hid (hb _ _ (Nat.le_refl _) B1.out)
  have O2 := Lib.hid hown
  clear hown hb
  go_wp2_with fail
  go_ret
  exact retI_own rfl (by rw [sortK_length]; exact hll) O2.out B2.out _ rfl
set_option maxHeartbeats 1600000 in
theorem rankAll_any (a : Option Addr) (n cap : Nat) (ws : List Tx) (s : Tx) (k : Int) (w : World) (hh : HoldsT w a n ws) (hn : n ≤ 50000) (hl : ∀ t ∈ ws, t.size ≤ 1048576) (hs : s.size ≤ 1048576) :
    Calls Try.prog 25 #[.slice a n cap, .string s, .int .i64 k] w (RetI w (allK ws s k)) := by
  obtain ⟨i0, hi, hz0, hz1, hz2⟩ := info_parts item_info
  have hll := hh.len
  have HH := Lib.hid hh; have HL := Lib.hid hl
  clear hh hl
  go_enter Try.func25, Try.ntmps25
  go_wp2_with fail
  go_loopw [7, 14] (fun ov iv wr => ∃ (j : Nat) (P : List KV) (av : Option Addr) (cv : Nat), j ≤ n ∧ iv = .int .i64 j ∧ ov = .slice av P.length cv ∧ Hid (P = nearL (ws.take j) s k) ∧ Hid (wr.ownsRow w.heap.size 24 2 (.slice av P.length cv) P.length (keysV P)) ∧ Hid (Below w.heap.size w wr)) (fun _ iv _ => n - (intOf iv).toNat)
  case atStart => exact ⟨0, [], none, 0, by omega, rfl, rfl, Lib.hid rfl, Lib.hid (World.ownsRow_nil _ _ _ _), Lib.hid (Below.refl _ _)⟩
  case round =>
    obtain ⟨j, P, av, cv, hj, rfl, rfl, hP, hO, hB⟩ := hrel
    have hpl : P.length ≤ j := by have := nearL_len (ws.take j) s k; rw [← hP.out] at this; simp at this; omega
    by_cases hlt : j < n
    · obtain ⟨bb, o, rfl, hc⟩ := HH.out.at (by omega)
      have g0 := hc j hlt
      have e0 := (hB.out.cell (p := ⟨bb, o + j, none⟩) (lt_of_cell g0)).trans g0
      have hmem := HL.out _ (getD_memT' ws j (by omega))
      have hyes := nearL_yes (ws.take j) (ws.getD j ByteArray.empty) s k
      have hnot := nearL_no (ws.take j) (ws.getD j ByteArray.empty) s k
      rw [← take_succ_getD ws ByteArray.empty j (by omega)] at hyes hnot
      obtain ⟨y, hy⟩ : ∃ y, ws.getD j ByteArray.empty = y := ⟨_, rfl⟩
      rw [hy] at hmem hyes hnot e0
      have ND := Lib.hid (near_any y s k wr hmem hs)
      clear hc hy g0
      by_cases hk : 0 ≤ distS y s ∧ distS y s ≤ k
      · have hsn := hyes hk
        rw [← hP.out] at hsn
        have n1 : nearOk y s k = true := decide_eq_true hk
        have n2 : nearD y s k = distS y s := if_pos hk
        rw [n1, n2] at ND
        obtain ⟨d, hd⟩ : ∃ d, distS y s = d := ⟨_, rfl⟩
        rw [hd] at ND hsn
        have HS := Lib.hid hsn
        clear hyes hnot hsn n1 n2 hd hk
        go_wp2_with fail
        refine ND.out.mono ?_
        rintro e w2 ⟨rfl, hb⟩
        have B2 := Lib.hid (hB.out.trans (hb.mono hB.out.size))
        have O2 := Lib.hid (owns_below hO.out hb)
        have hsz := B2.out.size
        clear hb hB hO e0
        go_wp2_with (at_builtin; refine wpList_append_any rfl (.tmp 26) (.tmp 30) 31 rfl w.heap.size 24 i0 _ 2 24 Try.underlying31 hi hz0 hz1 hz2 rfl (by decide) _ P.length _ rfl (O2.out.alloc _) _ 1 1 [.int .i64 d, .string y] rfl (some_none _) rfl (two_new _ _ _ _ _) (two_one _ _) (by unfold maxLen; omega) (by omega) (by simp; omega) ?_; intro a3 c3 w3 hown3 hb3 hnil3)
        rw [show keysV P ++ [.int .i64 d, .string y] = keysV (P ++ [(d, y)]) from (keysV_snoc P (d, y)).symm] at hown3
        have O3 := Lib.hid hown3
        have B3 := Lib.hid ((B2.out.alloc B2.out.size _).trans hb3)
        clear hown3 hb3 hnil3
        go_roundw
        case rel => exact ⟨j + 1, P ++ [(d, y)], a3, c3, by omega, by go_num, by simp, Lib.hid HS.out.symm, Lib.hid (by have := O3.out; simpa using this), B3⟩
        case measure => simp [intOf]; omega
      · have hsn := hnot hk
        rw [← hP.out] at hsn
        have n1 : nearOk y s k = false := decide_eq_false hk
        rw [n1] at ND
        obtain ⟨d, hd⟩ : ∃ d, nearD y s k = d := ⟨_, rfl⟩
        rw [hd] at ND
        have HS := Lib.hid hsn
        clear hyes hnot hsn n1 hd hk
        go_wp2_with fail
        refine ND.out.mono ?_
        rintro e w2 ⟨rfl, hb⟩
        have B2 := Lib.hid (hB.out.trans (hb.mono hB.out.size))
        have O2 := Lib.hid (owns_below hO.out hb)
        clear hb hB hO e0
        go_wp2_with fail
        go_roundw
        case rel => exact ⟨j + 1, P, av, cv, by omega, by go_num, rfl, Lib.hid HS.out.symm, O2, B2⟩
        case measure => simp [intOf]; omega
    · have hjn : ws.take j = ws := List.take_of_length_le (by omega)
      have hP2 := hP.out
      rw [hjn] at hP2
      have SO := Lib.hid (sortI_own av P.length cv w.heap.size P wr hO.out (by omega))
      have HP := Lib.hid hP2
      clear hP hP2 hjn
      go_wp2_with fail
      refine SO.out.mono ?_
      rintro e w2 ⟨rfl, hown, hb⟩
      have B2 := Lib.hid (hb _ _ (Nat.le_refl _) hB.out)
      have O2 := Lib.hid hown
      clear hown hb
      go_wp2_with fail
      go_ret
      exact retI_own (by rw [HP.out]; rfl) (by rw [sortK_length]) O2.out B2.out _ rfl
end Go.Proofs.Ytolggcdlpiedmaa
/- lists of Items: held against each other; lent; kept -/
namespace Go.Proofs.Ytolggcdlpiedmaa
open Go.RowKit
set_option linter.unusedVariables false
set_option maxRecDepth 20000
theorem prI_info : (Try.prog.info? 24).map (fun i => (i.zero, i.size, i.bytes)) = some (some (.agg #[.int .i64 0, .string ⟨#[]⟩]), 2, 24) := by kernel_rfl
set_option maxHeartbeats 400000 in
theorem sameItems_quiet (a1 a2 : Option Addr) (n c1 c2 : Nat) (z : List KV) (w : World) (h1 : HoldsK w a1 n z) (h2 : HoldsK w a2 n z) (hl : n ≤ 4611686018427387904) :
    Calls Try.prog 17 #[.slice a1 n c1, .slice a2 n c2] w fun e w' => e = .returned (.bool true) ∧ ∃ m, w' = w.drewN m := by
  have H1 := Lib.hid h1; have H2 := Lib.hid h2
  have hb : ((n : Int) != (n : Int)) = false := by simp
  clear h1 h2
  go_enter Try.func17, Try.ntmps17
  go_wp2
  go_loopw [5] (fun i wr => ∃ k m : Nat, k ≤ n ∧ i = .int .i64 k ∧ wr = w.drewN m) (fun i _ => n - (intOf i).toNat)
  case atStart => exact ⟨0, 0, by omega, rfl, rfl⟩
  case round =>
    obtain ⟨k, m, hk, rfl, rfl⟩ := hrel
    by_cases hlt : k < n
    · obtain ⟨b1, o1, rfl, k1⟩ := H1.out.at (by omega)
      obtain ⟨b2, o2, rfl, k2⟩ := H2.out.at (by omega)
      obtain ⟨e1, e2⟩ := k1 k hlt
      obtain ⟨e3, e4⟩ := k2 k hlt
      obtain ⟨x, hx⟩ : ∃ x, z.getD k k0 = x := ⟨_, rfl⟩
      rw [hx] at e1 e2 e3 e4
      obtain ⟨x1, x2⟩ := x
      simp only at e1 e2 e3 e4
      have f1 : (x1 == x1) = true := by simp
      have f2 := str_same x2
      clear hx k1 k2
      go_wp2
      go_quiet (fail)
      go_wp2
      go_roundw
      case rel => exact ⟨k + 1, _, by omega, by go_num, rfl⟩
      case measure => simp [intOf]; omega
    · go_wp2
      go_ret
      exact ⟨rfl, _, rfl⟩
theorem sameItems_yes (a1 a2 : Option Addr) (n c1 c2 : Nat) (z : List KV) (w : World) (h1 : HoldsK w a1 n z) (h2 : HoldsK w a2 n z) (hl : n ≤ 4611686018427387904) :
    Calls Try.prog 17 #[.slice a1 n c1, .slice a2 n c2] w fun e w' => e = .returned (.bool true) ∧ Below w.heap.size w w' :=
  (sameItems_quiet a1 a2 n c1 c2 z w h1 h2 hl).mono fun _ _ ⟨h, m, hm⟩ => ⟨h, by rw [hm]; exact below_drewN _ _⟩
end Go.Proofs.Ytolggcdlpiedmaa
/- are there more items than are gone through? (split from Rk6) -/
namespace Go.Proofs.Ytolggcdlpiedmaa
open Go.RowKit
set_option linter.unusedVariables false
set_option maxRecDepth 20000
def smallK (ks : List KV) : Prop := ∀ k ∈ ks, k.2.size ≤ 100
def greatKB (ks : List KV) : Bool := decide (80 < ks.length ∨ ∃ k ∈ ks, 100 < k.2.size)
theorem greatK_no_iff {ks : List KV} : greatKB ks = false ↔ ks.length ≤ 80 ∧ smallK ks := by
  unfold greatKB smallK
  rw [decide_eq_false_iff_not]
  constructor
  · intro h
    refine ⟨by omega, fun k hk => ?_⟩
    rcases Nat.lt_or_ge 100 k.2.size with h2 | h2
    · exact absurd (Or.inr ⟨k, hk, h2⟩) h
    · exact h2
  · rintro ⟨h1, h2⟩ (h | ⟨k, hk, h3⟩)
    · omega
    · have := h2 k hk; omega
end Go.Proofs.Ytolggcdlpiedmaa
/- rank: what every program answers that is one; how long items are; items written over -/
namespace Go.Proofs.Ytolggcdlpiedmaa
open Go.RowKit
set_option linter.unusedVariables false
set_option maxRecDepth 20000
theorem d_ab_ab : distS { data := #[97, 98] } { data := #[97, 98] } = 0 := by
  have l1 : lenS { data := #[97, 98] } = 2 := by decide +kernel
  have r1 : intsN (runesS { data := #[97, 98] }) = [97, 98] := by decide +kernel
  have n1 : (runesS { data := #[97, 98] }).length = 2 := by decide +kernel
  unfold distS
  rw [l1, r1, n1, if_pos (by decide)]
  have h0 : Ed.row [97, 98] [97, 98] 0 = [0, 1, 2] := by rw [← upTo_row]; decide
  have h1 : Ed.row [97, 98] [97, 98] 1 = [1, 0, 1] := by rw [← Ed.mix_all _ _ 0, h0]; decide
  have h2 : Ed.row [97, 98] [97, 98] 2 = [2, 1, 0] := by rw [← Ed.mix_all _ _ 1, h1]; decide
  rw [← Ed.row_getD _ _ 2 2 (by decide), h2]
  rfl
theorem d_abc_ab : distS { data := #[97, 98, 99] } { data := #[97, 98] } = 1 := by
  have l1 : lenS { data := #[97, 98] } = 2 := by decide +kernel
  have r1 : intsN (runesS { data := #[97, 98] }) = [97, 98] := by decide +kernel
  have n1 : (runesS { data := #[97, 98] }).length = 2 := by decide +kernel
  have l2 : lenS { data := #[97, 98, 99] } = 3 := by decide +kernel
  have r2 : intsN (runesS { data := #[97, 98, 99] }) = [97, 98, 99] := by decide +kernel
  have n2 : (runesS { data := #[97, 98, 99] }).length = 3 := by decide +kernel
  unfold distS
  rw [l1, r1, n1, l2, r2, n2, if_pos (by decide)]
  have h0 : Ed.row [97, 98, 99] [97, 98] 0 = [0, 1, 2, 3] := by rw [← upTo_row]; decide
  have h1 : Ed.row [97, 98, 99] [97, 98] 1 = [1, 0, 1, 2] := by rw [← Ed.mix_all _ _ 0, h0]; decide
  have h2 : Ed.row [97, 98, 99] [97, 98] 2 = [2, 1, 0, 1] := by rw [← Ed.mix_all _ _ 1, h1]; decide
  rw [← Ed.row_getD _ _ 2 3 (by decide), h2]
  rfl
theorem d_b_ab : distS { data := #[98] } { data := #[97, 98] } = 1 := by
  have l1 : lenS { data := #[97, 98] } = 2 := by decide +kernel
  have r1 : intsN (runesS { data := #[97, 98] }) = [97, 98] := by decide +kernel
  have n1 : (runesS { data := #[97, 98] }).length = 2 := by decide +kernel
  have l2 : lenS { data := #[98] } = 1 := by decide +kernel
  have r2 : intsN (runesS { data := #[98] }) = [98] := by decide +kernel
  have n2 : (runesS { data := #[98] }).length = 1 := by decide +kernel
  unfold distS
  rw [l1, r1, n1, l2, r2, n2, if_pos (by decide)]
  have h0 : Ed.row [98] [97, 98] 0 = [0, 1] := by rw [← upTo_row]; decide
  have h1 : Ed.row [98] [97, 98] 1 = [1, 1] := by rw [← Ed.mix_all _ _ 0, h0]; decide
  have h2 : Ed.row [98] [97, 98] 2 = [2, 1] := by rw [← Ed.mix_all _ _ 1, h1]; decide
  rw [← Ed.row_getD _ _ 2 1 (by decide), h2]
  rfl
theorem top_awake : topK [⟨#[97, 98]⟩, ⟨#[97, 98, 99]⟩, ⟨#[98]⟩] ⟨#[97, 98]⟩ 1 2 = [(0, ⟨#[97, 98]⟩), (1, ⟨#[97, 98, 99]⟩)] := by
  have l1 : lenS { data := #[97, 98] } = 2 := by decide +kernel
  have hm : mayP ⟨#[97, 98]⟩ 1 2 := by unfold mayP; rw [l1]; omega
  have hn : nearL [⟨#[97, 98]⟩, ⟨#[97, 98, 99]⟩, ⟨#[98]⟩] ⟨#[97, 98]⟩ 1 = [(0, ⟨#[97, 98]⟩), (1, ⟨#[97, 98, 99]⟩), (1, ⟨#[98]⟩)] := by
    simp [nearL, d_ab_ab, d_abc_ab, d_b_ab]
  have c1 : cmpS ⟨#[97, 98, 99]⟩ ⟨#[98]⟩ = -1 := by decide +kernel
  have c2 : cmpS ⟨#[98]⟩ ⟨#[97, 98, 99]⟩ = 1 := by decide +kernel
  have hs : sortK [((0 : Int), (⟨#[97, 98]⟩ : Tx)), (1, ⟨#[97, 98, 99]⟩), (1, ⟨#[98]⟩)] = [(0, ⟨#[97, 98]⟩), (1, ⟨#[97, 98, 99]⟩), (1, ⟨#[98]⟩)] := by
    refine sortK_same ?_
    unfold SortedK leK
    simp [ordK, c2]
  unfold topK allK
  rw [if_pos hm, hn, hs]
  rfl
theorem holdsT_lit3 (w : World) (a b c : Tx) (e : TypeId) (fr : Nat × Nat) : HoldsT (w.alloc (.cells #[.string a, .string b, .string c] e fr)) (some ⟨w.heap.size, 0, none⟩) 3 [a, b, c] := by
  refine ⟨rfl, fun _ => ⟨w.heap.size, 0, rfl, fun i hi => ?_⟩⟩
  have : i = 0 ∨ i = 1 ∨ i = 2 := by omega
  rcases this with rfl | rfl | rfl
  · rw [Nat.add_zero, World.cell?_alloc_mark]; rfl
  · rw [Nat.zero_add, World.cell?_alloc_mark]; rfl
  · rw [Nat.zero_add, World.cell?_alloc_mark]; rfl
theorem holdsK_lit2 (w : World) (a b : KV) (e : TypeId) (fr : Nat × Nat) : HoldsK (w.alloc (.cells #[.int .i64 a.1, .string a.2, .int .i64 b.1, .string b.2] e fr)) (some ⟨w.heap.size, 0, none⟩) 2 [a, b] := by
  refine ⟨rfl, fun _ => ⟨w.heap.size, 0, rfl, fun i hi => ?_⟩⟩
  have : i = 0 ∨ i = 1 := by omega
  rcases this with rfl | rfl
  · rw [World.cell?_alloc_mark, World.cell?_alloc_mark]; exact ⟨rfl, rfl⟩
  · rw [World.cell?_alloc_mark, World.cell?_alloc_mark]; exact ⟨rfl, rfl⟩
theorem grown_set {w wr : World} {g : Nat} (h : w.grownBy wr (some g)) (o : Nat) (v : Value) : w.grownBy (wr.setCell ⟨g, o, none⟩ v) (some g) :=
  ⟨h.os, h.tape, h.output, by have := h.size; simpa using this, fun b hb hne => (Below.heap_setCell wr ⟨g, o, none⟩ v b (fun e => hne (by show some b = some g; rw [e]))).trans (h.block b hb hne)⟩
set_option maxHeartbeats 1600000 in
/-- Written over is a slice of the call's own (its blocks lie from B on): below B nothing turns, and nothing but the slice's block. -/
theorem overItems_any (B : Nat) (a : Option Addr) (n cap : Nat) (xs : List Value) (w : World) (h : w.ownsRow B 24 2 (.slice a n cap) n xs) (hB : B ≤ w.heap.size) (hn : n ≤ 1048576) :
    Calls Try.prog 18 #[.slice a n cap] w fun e w' => e = .returned (.tuple #[]) ∧ Below B w w' ∧ w.grownBy w' (Value.slice a n cap).ownBlock := by
  obtain ⟨i0, hi, hz0, hz1, hz2⟩ := info_parts item_info
  have H := Lib.hid h
  clear h
  go_enter Try.func18, Try.ntmps18
  go_wp2_with fail
  go_loopw [2] (fun i wr => ∃ (k : Nat) (ys : List Value), k ≤ n ∧ i = .int .i64 k ∧ Hid (wr.ownsRow B 24 2 (.slice a n cap) n ys) ∧ Hid (Below B w wr) ∧ Hid (w.grownBy wr (Value.slice a n cap).ownBlock)) (fun i _ => n - (intOf i).toNat)
  case atStart => exact ⟨0, xs, by omega, rfl, H, Below.refl _ _, Lib.hid ⟨rfl, rfl, rfl, Nat.le_refl _, fun _ _ _ => rfl⟩⟩
  case round =>
    obtain ⟨k, ys, hk, rfl, hO, hBw, hGr⟩ := hrel
    by_cases hlt : k < n
    · obtain ⟨g, rfl⟩ : ∃ g, a = some ⟨g, 0, none⟩ := by
        obtain ⟨g, cap', hv⟩ := Joins.ownsRow_form hO.out (by omega)
        simp only [Value.slice.injEq] at hv
        exact ⟨g, hv.1⟩
      have hyl : ys.length = n * 2 := hO.out.1
      have hc := hO.out.cellAt (k * 2) (by omega)
      have hc1 := hO.out.cellAt (k * 2 + 1) (by omega)
      rw [List.getElem?_eq_getElem (by omega)] at hc hc1
      obtain ⟨y, hy⟩ : ∃ y, ys[k * 2] = y := ⟨_, rfl⟩
      obtain ⟨z, hz⟩ : ∃ z, ys[k * 2 + 1] = z := ⟨_, rfl⟩
      rw [hy] at hc; rw [hz] at hc1
      clear hy hyl hz
      have hf := hO.out.frozenAt (k * 2)
      have hf1 := hO.out.frozenAt (k * 2 + 1)
      have O2 := Lib.hid (((hO.out.stored (k * 2) (.int .i64 (-9))).1.stored (k * 2 + 1) (.string ⟨#[]⟩)).1)
      have B2 := Lib.hid ((hBw.out.setCell (p := ⟨g, k * 2, none⟩) (hO.out.lt g rfl).1 (.int .i64 (-9))).setCell (p := ⟨g, k * 2 + 1, none⟩) (hO.out.lt g rfl).1 (.string ⟨#[]⟩))
      have G2 := Lib.hid (grown_set (grown_set hGr.out (k * 2) (.int .i64 (-9))) (k * 2 + 1) (.string ⟨#[]⟩))
      clear hO hBw hGr
      go_wp2_with fail
      go_roundw
      case rel => exact ⟨k + 1, _, by omega, by go_num, O2, B2, G2⟩
      case measure => simp [intOf]; omega
    · have hs := hBw.out.size
      go_wp2_with (at_builtin; refine wpList_append_own _ rfl (.tmp 13) (.tmp 15) 31 rfl B 24 i0 _ 2 24 Try.underlying31 hi hz0 hz1 hz2 rfl (by decide) _ n _ rfl (hO.out.alloc _) _ 1 1 [.int .i64 (-9), .string ⟨#[]⟩] rfl rfl (two_new _ _ _ _ _ _ rfl) (two_one _ _) (by unfold maxLen; omega) (by omega) (by simp; omega) ?_; intro v3 w3 hown3 hg3 hn3)
      go_end0
      have hsz := hGr.out.size
      refine ⟨rfl, hBw.out.trans (((Below.refl _ _).alloc (by omega) _).grown hg3 (by simp; omega) fun k hk => (hO.out.lt k hk).1), ⟨hg3.os.trans hGr.out.os, hg3.tape.trans hGr.out.tape, hg3.output.trans hGr.out.output, ?_, fun b hb hne => ?_⟩⟩
      · have := hg3.size; simp at this; omega
      · rw [hg3.block b (by simp; omega) hne, Below.heap_alloc _ _ _ (by omega)]
        exact hGr.out.block b hb hne
end Go.Proofs.Ytolggcdlpiedmaa
/- two boxes of two cells, carried -/
namespace Go.Proofs.Ytolggcdlpiedmaa
open Go.RowKit
set_option linter.unusedVariables false
set_option maxRecDepth 20000
def Box4q (w0 : World) (p q : Nat) (v0 v1 v2 v3 : Value) (w : World) : Prop := Below w0.heap.size w0 w ∧ w.cell? ⟨p, 0, none⟩ = some v0 ∧ w.cell? ⟨p, 1, none⟩ = some v1 ∧ w.cell? ⟨q, 0, none⟩ = some v2 ∧ w.cell? ⟨q, 1, none⟩ = some v3
theorem box4q_carry {w0 w w' : World} {p q : Nat} {v0 v1 v2 v3 : Value} (h : Box4q w0 p q v0 v1 v2 v3 w) (hb : Below w.heap.size w w') : Box4q w0 p q v0 v1 v2 v3 w' :=
  ⟨h.1.trans (hb.mono h.1.size), by rw [hb.cell (p := ⟨p, 0, none⟩) (lt_of_cell h.2.1)]; exact h.2.1, by rw [hb.cell (p := ⟨p, 1, none⟩) (lt_of_cell h.2.1)]; exact h.2.2.1, by rw [hb.cell (p := ⟨q, 0, none⟩) (lt_of_cell h.2.2.2.1)]; exact h.2.2.2.1, by rw [hb.cell (p := ⟨q, 1, none⟩) (lt_of_cell h.2.2.2.1)]; exact h.2.2.2.2⟩
end Go.Proofs.Ytolggcdlpiedmaa
/- rank in one word; a query as an argument -/
namespace Go.Proofs.Ytolggcdlpiedmaa
open Go.RowKit
set_option linter.unusedVariables false
set_option maxRecDepth 20000
def RetJ (w : World) (n : Nat) (ys : List KV) (e : Ending) (w' : World) : Prop := ∃ a c, e = .returned (.slice a n c) ∧ w'.ownsRow w.heap.size 24 2 (.slice a n c) n (keysV ys) ∧ Below w.heap.size w w'
theorem RetI.j {w w' : World} {ys : List KV} {e : Ending} {n : Nat} (h : RetI w ys e w') (hn : ys.length = n) : RetJ w n ys e w' := by subst hn; exact h
theorem rankSort_lit (a : Option Addr) (n cap : Nat) (l ys : List KV) (w : World) (hh : HoldsK w a n l) (hnil : a = none → n = 0 ∧ cap = 0) (hn : n ≤ 50000) (hy : sortK l = ys) :
    Calls Try.prog 35 #[.slice a n cap] w (RetJ w n ys) := by
  subst hy; exact (rankSort_any a n cap l w hh hnil hn).mono fun _ _ h => h.j (by rw [sortK_length]; exact hh.len)
theorem all_lit (a : Option Addr) (n cap L : Nat) (ws : List Tx) (s : Tx) (k : Int) (ys : List KV) (w : World) (hh : HoldsT w a n ws) (hn : n ≤ 50000) (hl : ∀ t ∈ ws, t.size ≤ 1048576) (hs : s.size ≤ 1048576) (hy : allK ws s k = ys) (hL : ys.length = L) :
    Calls Try.prog 25 #[.slice a n cap, .string s, .int .i64 k] w (RetJ w L ys) := by subst hy; exact (rankAll_any a n cap ws s k w hh hn hl hs).mono fun _ _ h => h.j hL
def Box3q (w0 : World) (p : Nat) (v0 v1 v2 : Value) (w : World) : Prop := Below w0.heap.size w0 w ∧ w.cell? ⟨p, 0, none⟩ = some v0 ∧ w.cell? ⟨p, 1, none⟩ = some v1 ∧ w.cell? ⟨p, 2, none⟩ = some v2
theorem box3q_carry {w0 w w' : World} {p : Nat} {v0 v1 v2 : Value} (h : Box3q w0 p v0 v1 v2 w) (hb : Below w.heap.size w w') : Box3q w0 p v0 v1 v2 w' :=
  ⟨h.1.trans (hb.mono h.1.size), by rw [hb.cell (p := ⟨p, 0, none⟩) (lt_of_cell h.2.1)]; exact h.2.1, by rw [hb.cell (p := ⟨p, 1, none⟩) (lt_of_cell h.2.1)]; exact h.2.2.1, by rw [hb.cell (p := ⟨p, 2, none⟩) (lt_of_cell h.2.1)]; exact h.2.2.2⟩
theorem row_apart {w w' : World} {B B' : Nat} {e e' : TypeId} {s s' : Nat} {v u : Value} {n m : Nat} {xs ys : List Value} (h1 : w.ownsRow B e s v n xs) (h2 : w'.ownsRow B' e' s' u m ys) (hB : w.heap.size ≤ B') : u.ownBlock = none ∨ u.ownBlock ≠ v.ownBlock := by
  cases hu : u.ownBlock with
  | none => exact Or.inl rfl
  | some g =>
    refine Or.inr fun e => ?_
    have a := (h2.lt g hu).1
    have b := (h1.lt g e.symm).2
    omega
theorem tops_len (ws : List Tx) (s : Tx) (k m : Int) : (topK ws s k m).length ≤ ws.length := by
  unfold topK
  split
  · have := allK_len ws s k
    rw [List.length_take]; omega
  · simp
open Go.ChangeShapes Go.WideShapes Go.ChangeAt in
theorem query_arg {H : Type} {enc : TypeId × Value → H} {w : World} {base : Nat} {spare : Nat → Bool} {held : Bool} {r : Reach} {b0 : Nat} {v : Value} {d : DataW H} {p : List MemPlace}
    (hv : Value.okWide Try.prog w r b0 44 v) (h : DataW.Trod enc Try.prog w base spare held 44 v d p) :
    ∃ t k n, t.size ≤ 9223372036854775807 ∧ (Lit.int .i64 k).wf = true ∧ (Lit.int .i64 n).wf = true ∧ v = .agg #[.string t, .int .i64 k, .int .i64 n] := by
  obtain ⟨cs, rfl, hsz⟩ := okWide_struct Try.underlying44 hv
  obtain ⟨fuel, hf⟩ := h
  obtain ⟨hl, n, hf2⟩ := struct_cells Try.underlying44 hf
  rw [show Try.prog.cellsOf 44 = 3 by kernel_rfl] at hl
  obtain ⟨c0, c1, c2, hcs⟩ := list3 hl
  rw [hcs] at hf2
  obtain ⟨y0, z0⟩ := hf2 0 _ rfl
  obtain ⟨y1, z1⟩ := hf2 1 _ rfl
  obtain ⟨y2, z2⟩ := hf2 2 _ rfl
  obtain ⟨s, hs, _, b0⟩ := DataW.trod_string Try.underlying9 z0
  obtain ⟨k1, h1, _, b1⟩ := DataW.trod_int Try.underlying3 z1
  obtain ⟨k2, h2, _, b2⟩ := DataW.trod_int Try.underlying3 z2
  simp [cellsK_int, cellsK_str] at hs h1 h2
  subst hs h1 h2
  refine ⟨s, k1, k2, by unfold maxLen at b0; exact b0, b1, b2, ?_⟩
  congr 1
  apply Array.toList_inj.1
  simpa [Value.cells] using hcs
end Go.Proofs.Ytolggcdlpiedmaa
/- walk: Next -/
namespace Go.Proofs.Ytolggcdlpiedmaa
open Go.RowKit
set_option linter.unusedVariables false
set_option maxRecDepth 20000
/-- the near words of a list, in its order -/
def matchK (ts : List Tx) (s : Tx) (k : Int) : List KV := if (0 ≤ lenS s ∧ lenS s ≤ 16) ∧ 0 ≤ k ∧ k ≤ 4 then nearL ts s k else []
/-- a graph of the words ts lies at g -/
def GrOk (g : Nat) (ts : List Tx) (w : World) : Prop := ∃ st Sg, GOk st ts ∧ GAt g st w Sg ∧ (∀ t ∈ ts, 0 ≤ lenS t ∧ lenS t ≤ 12 ∧ t.size ≤ 100) ∧ ts.length ≤ 100
theorem GrOk.below {g : Nat} {ts : List Tx} {w w' : World} (h : GrOk g ts w) (hb : Below w.heap.size w w') : GrOk g ts w' := by
  obtain ⟨st, Sg, h1, h2, h3, h4⟩ := h
  exact ⟨st, Sg, h1, (gAt_ok g st).below h2 hb, h3, h4⟩
theorem matches_all (g : Nat) (ts : List Tx) (s : Tx) (k : Int) (w : World) (h : GrOk g ts w) (hs : s.size ≤ 1048576) :
    Calls Try.prog 36 #[.pointer (some ⟨g, 0, none⟩), .string s, .int .i64 k] w (RetI w (matchK ts s k)) := by
  obtain ⟨st, Sg, h1, h2, h3, h4⟩ := h
  unfold matchK
  by_cases hc : (0 ≤ lenS s ∧ lenS s ≤ 16) ∧ 0 ≤ k ∧ k ≤ 4
  · rw [if_pos hc]
    exact matches_good g ts st h1 Sg s k w h2 h3 h4 hs hc.1 hc.2
  · rw [if_neg hc]
    refine (matches_no (some g) s k w (by omega) ?_).mono ?_
    · by_cases h5 : 0 ≤ lenS s ∧ lenS s ≤ 16
      · exact .inr (.inr (by have : ¬ (0 ≤ k ∧ k ≤ 4) := fun h => hc ⟨h5, h⟩; omega))
      · exact .inr (.inl h5)
    · rintro e w' ⟨rfl, hb⟩
      exact ⟨none, 0, rfl, World.ownsRow_nil _ _ _ _, hb⟩
theorem matches_nil (s : Tx) (k : Int) (w : World) (hs : s.size ≤ 1048576) : Calls Try.prog 36 #[.pointer none, .string s, .int .i64 k] w (RetI w []) :=
  (matches_no none s k w (by omega) (.inl rfl)).mono (by rintro e w' ⟨rfl, hb⟩; exact ⟨none, 0, rfl, World.ownsRow_nil _ _ _ _, hb⟩)
theorem matchK_len (ts : List Tx) (s : Tx) (k : Int) : (matchK ts s k).length ≤ ts.length := by
  unfold matchK; split
  · exact nearL_len ts s k
  · simp
/-- what is told of the items: behind av (or from the first one on), at most so many -/
def restK (first : Bool) (av : KV) (M : List KV) : List KV := if first then sortK M else (sortK M).filter (lessK av)
def cntK (batch : Int) (n : Nat) : Nat := (min (max batch 0) (n : Int)).toNat
/-- a slice whose room ends with it -/
def CutI (w : World) (B : Nat) (a : Option Addr) (n : Nat) (ys : List KV) : Prop := ys.length = n ∧ ∃ m c zs, w.ownsRow B 24 2 (.slice a m c) m (keysV zs) ∧ n ≤ m ∧ zs.take n = ys
theorem CutI.holds {w : World} {B : Nat} {a : Option Addr} {n : Nat} {ys : List KV} (h : CutI w B a n ys) : HoldsK w a n ys := by
  obtain ⟨h1, m, c, zs, h2, h3, h4⟩ := h
  have := (HoldsK.own h2).take n h3
  rwa [h4] at this
theorem CutI.below {w w' : World} {B : Nat} {a : Option Addr} {n : Nat} {ys : List KV} (h : CutI w B a n ys) (hb : Below w.heap.size w w') : CutI w' B a n ys := by
  obtain ⟨h1, m, c, zs, h2, h3, h4⟩ := h
  exact ⟨h1, m, c, zs, owns_below h2 hb, h3, h4⟩
def RetN (w : World) (n : Nat) (ys : List KV) (b : Bool) (e : Ending) (w' : World) : Prop := ∃ a, e = .returned (.tuple #[.slice a n n, .bool b]) ∧ CutI w' w.heap.size a n ys ∧ (a = none → n = 0) ∧ Below w.heap.size w w'
set_option maxHeartbeats 1600000 in
theorem next_any (gp : Value) (s : Tx) (k : Int) (first : Bool) (av : KV) (batch : Int) (M F ys : List KV) (n : Nat) (b : Bool) (w : World) (CM : ∀ w', Below w.heap.size w w' → Calls Try.prog 36 #[gp, .string s, .int .i64 k] w' (RetI w' M)) (hM : M.length ≤ 100)
    (hF : restK first av M = F) (hn : cntK batch F.length = n) (hy : F.take n = ys) (hb : decide (n = F.length) = b) :
    Calls Try.prog 15 #[gp, .string s, .int .i64 k, .bool first, .agg #[.int .i64 av.1, .string av.2], .int .i64 batch] w (RetN w n ys b) := by
  have CMH := Lib.hid CM
  have HF := Lib.hid hF; have HN := Lib.hid hn; have HY := Lib.hid hy; have HBB := Lib.hid hb
  have hn0 : n ≤ F.length := by rw [← hn]; unfold cntK; omega
  have hmn : min (max batch 0) (F.length : Int) = (n : Int) := by rw [← hn]; unfold cntK; omega
  have B1 := Lib.hid (below_one w (.cells #[.int .i64 av.1, .string av.2] 24))
  have KB := Lib.hid (show KBox w.heap.size av (w.alloc (.cells #[.int .i64 av.1, .string av.2] 24)) from ⟨by rw [World.cell?_alloc_mark]; rfl, by rw [World.cell?_alloc_mark]; rfl⟩)
  obtain ⟨w1, hw1⟩ : ∃ w1, w.alloc (.cells #[.int .i64 av.1, .string av.2] 24) = w1 := ⟨_, rfl⟩
  have hz1 : w.heap.size < w1.heap.size := by rw [← hw1]; simp
  have HW := Lib.hid hw1
  rw [hw1] at B1 KB
  have CM1 := Lib.hid (CM w1 B1.out)
  clear CM hF hn hy hb hw1
  go_enter Try.func15, Try.ntmps15
  go_upto_region 1 with fail
  rw [HW.out]
  go_wp2_with fail
  refine CM1.out.mono ?_
  rintro e w2 ⟨a2, c2, rfl, o2, hb2⟩
  have KB2 := Lib.hid (KB.out.more hb2 hz1)
  have hz2 : w1.heap.size ≤ w2.heap.size := hb2.size
  have B2 := Lib.hid (B1.out.trans (hb2.mono B1.out.size))
  have CS := Lib.hid (rankSort_any a2 M.length c2 M w2 (HoldsK.own o2) (fun h => by
    rcases o2.2 with ⟨h1, h2⟩ | ⟨g, cap, cur, h1, _⟩
    · injection h1 with h1 h2 h3; exact ⟨h2, h3⟩
    · rw [h] at h1; cases h1) (by omega))
  clear o2 hb2 CM1 CMH
  go_wp2_with fail
  refine CS.out.mono ?_
  rintro e w3 ⟨a3, c3, rfl, o3, hb3⟩
  have hsl : (sortK M).length = M.length := sortK_length M
  rw [hsl] at o3 ⊢
  have O3 := Lib.hid o3
  have KB3 := Lib.hid (KB2.out.more hb3 (by omega))
  have B3 := Lib.hid (B2.out.trans (hb3.mono B2.out.size))
  have hz3 : w2.heap.size ≤ w3.heap.size := hb3.size
  clear o3 hb3 KB2 B2 CS KB B1
  obtain ⟨mm, hmm⟩ : ∃ x, M.length = x := ⟨_, rfl⟩
  rw [hmm] at O3 hM hsl ⊢
  cases first with
  | true =>
    have hF2 : sortK M = F := HF.out
    have hfm : mm = F.length := by rw [← hF2]; exact hsl.symm
    subst hfm
    obtain ⟨w4, hw4⟩ : ∃ w4, w3 = w4 := ⟨_, rfl⟩
    subst hw4
    have O4 := Lib.hid (show w3.ownsRow w2.heap.size 24 2 (.slice a3 F.length c3) F.length (keysV F) from by rw [← hF2]; rw [← hF2] at O3; exact O3.out)
    have B4 := B3
    clear O3 B3 hsl hmm
    obtain ⟨fn, hfn⟩ : ∃ x, F.length = x := ⟨_, rfl⟩
    rw [hfn] at hmn hn0 ⊢
    have HFN := Lib.hid hfn
    have O5 := O4.out
    rw [hfn] at O5
    have O6 := Lib.hid O5
    clear O5
    have hcap : fn ≤ c3 := by
      rcases O6.out.2 with ⟨e1, e2⟩ | ⟨g', cap', cur, hv, hb, hh, hc, hc2, hs, hx⟩
      · omega
      · simp only [Value.slice.injEq] at hv; omega
    have hnc : n ≤ c3 := by omega
    have HRES := Lib.hid (show CutI w3 w.heap.size a3 n ys ∧ (a3 = none → n = 0) from by
      refine ⟨⟨by rw [← HY.out, List.length_take]; have := HFN.out; omega, fn, c3, F, O6.out.mono' (by omega), hn0, HY.out⟩, fun h => ?_⟩
      rcases O6.out.2 with ⟨e1, e2⟩ | ⟨g', cap', cur, hv, _⟩
      · omega
      · simp only [Value.slice.injEq] at hv; rw [h] at hv; cases hv.1)
    have hbq : ((n : Int) == (fn : Int)) = b := by
      rw [← HBB.out, HFN.out]
      by_cases h : n = fn
      · simp [h]
      · have h2 : ¬ ((n : Int) = (fn : Int)) := by omega
        simp [h, h2]
    go_wp2_with fail
    go_ret2
    exact ⟨a3, rfl, HRES.out.1, HRES.out.2, B4.out⟩
  | false =>
    have hF2 : (sortK M).filter (lessK av) = F := HF.out
    have CD := Lib.hid (delFuncI_any w2.heap.size a3 mm c3 (sortK M) av w.heap.size w3 O3.out hz3 (by omega) KB3.out (by omega))
    rw [hF2] at CD
    clear O3 hsl
    go_wp2_with fail
    refine CD.out.mono ?_
    rintro e w4 ⟨fm, rfl, hfm, o4, hb4⟩
    subst hfm
    have O4 := Lib.hid o4
    have B4 := Lib.hid (B3.out.trans (hb4.mono (by omega)))
    have hz4 : w3.heap.size ≤ w4.heap.size := hb4.size
    clear o4 hb4 CD B3
    obtain ⟨fn, hfn⟩ : ∃ x, F.length = x := ⟨_, rfl⟩
    rw [hfn] at hmn hn0 ⊢
    have HFN := Lib.hid hfn
    have O5 := O4.out
    rw [hfn] at O5
    have O6 := Lib.hid O5
    clear O5
    have hcap : fn ≤ c3 := by
      rcases O6.out.2 with ⟨e1, e2⟩ | ⟨g', cap', cur, hv, hb, hh, hc, hc2, hs, hx⟩
      · omega
      · simp only [Value.slice.injEq] at hv; omega
    have hnc : n ≤ c3 := by omega
    have HRES := Lib.hid (show CutI w4 w.heap.size a3 n ys ∧ (a3 = none → n = 0) from by
      refine ⟨⟨by rw [← HY.out, List.length_take]; have := HFN.out; omega, fn, c3, F, O6.out.mono' (by omega), hn0, HY.out⟩, fun h => ?_⟩
      rcases O6.out.2 with ⟨e1, e2⟩ | ⟨g', cap', cur, hv, _⟩
      · omega
      · simp only [Value.slice.injEq] at hv; rw [h] at hv; cases hv.1)
    have hbq : ((n : Int) == (fn : Int)) = b := by
      rw [← HBB.out, HFN.out]
      by_cases h : n = fn
      · simp [h]
      · have h2 : ¬ ((n : Int) = (fn : Int)) := by omega
        simp [h, h2]
    go_wp2_with fail
    go_ret2
    exact ⟨a3, rfl, HRES.out.1, HRES.out.2, B4.out⟩
end Go.Proofs.Ytolggcdlpiedmaa
/- the library's Builder at this seat: WriteRune, String -/
namespace Go.Proofs.Ytolggcdlpiedmaa
open Go.Shelf Go.RowKit
end Go.Proofs.Ytolggcdlpiedmaa
/- text.Text: the program's (split from Tm1, Tm2) -/
namespace Go.Proofs.Ytolggcdlpiedmaa
open Go.RowKit
set_option linter.unusedVariables false
set_option maxRecDepth 20000
def encS (r : Int) : ByteArray := ⟨(Lib.encodeRune r).toArray⟩
def encL (zs : List Int) : List UInt8 := zs.flatMap Lib.encodeRune
def encB (zs : List Int) : ByteArray := ⟨(encL zs).toArray⟩
def allG (zs : List Int) : Prop := ∀ z ∈ zs, goodP z
instance (zs : List Int) : Decidable (allG zs) := by unfold allG; infer_instance
def textZ (zs : List Int) : ByteArray := if allG zs then encB zs else ⟨#[]⟩
theorem encL_snoc (x : List Int) (r : Int) : encL (x ++ [r]) = encL x ++ Lib.encodeRune r := by simp [encL]
theorem encode_le (r : Int) : (Lib.encodeRune r).length ≤ 4 := by rw [← Lib.runeCells_length]; exact (Lib.runeCells_le r).2
theorem encL_le : ∀ zs : List Int, (encL zs).length ≤ 4 * zs.length
  | [] => by simp [encL]
  | z :: zs => by
    have h1 := encL_le zs
    have h2 := encode_le z
    have h3 : encL (z :: zs) = Lib.encodeRune z ++ encL zs := rfl
    rw [h3, List.length_append, List.length_cons]; omega
theorem encB_snoc (x : List Int) (r : Int) : encB x ++ encS r = encB (x ++ [r]) := by
  apply ByteArray.ext
  simp [encB, encS, encL_snoc]
theorem encB_size (zs : List Int) : (encB zs).size ≤ 4 * zs.length := by
  have := encL_le zs
  simpa [encB, ByteArray.size] using this
theorem byteCells_snoc (x : List Int) (r : Int) : Lib.byteCells (encL x) ++ Lib.runeCells r = Lib.byteCells (encL (x ++ [r])) := by
  rw [encL_snoc, Lib.byteCells_append, Lib.byteCells_encodeRune]
theorem textZ_bad {zs : List Int} (z : Int) (h : z ∈ zs) (hz : ¬ goodP z) : textZ zs = ⟨#[]⟩ ∧ decide (allG zs) = false := by
  have hn : ¬ allG zs := fun k => hz (k z h)
  exact ⟨if_neg hn, decide_eq_false hn⟩
theorem textZ_good {zs : List Int} (h : allG zs) : textZ zs = encB zs ∧ decide (allG zs) = true := ⟨if_pos h, decide_eq_true h⟩
theorem getD_mem' (zs : List Int) (j : Nat) (h : j < zs.length) : zs.getD j 0 ∈ zs := by
  rw [List.getD_eq_getElem?_getD, List.getElem?_eq_getElem h]; simp
end Go.Proofs.Ytolggcdlpiedmaa
/- graph: the text of one rune -/
namespace Go.Proofs.Ytolggcdlpiedmaa
open Go.RowKit
set_option linter.unusedVariables false
set_option maxRecDepth 20000
theorem ue_encode_list (r w b0 b1 b2 b3 : Nat) (h : Enc r w b0 b1 b2 b3) (hs : r < 55296 ∨ 57343 < r) : Lib.encodeRune (r : Int) = ([b0, b1, b2, b3].take w).map UInt8.ofNat := by
  unfold Lib.encodeRune
  rcases h with ⟨rfl, rfl, h⟩ | ⟨rfl, h0, h1, h2, h3⟩ | ⟨rfl, h0, h1, h2, h3, h4⟩ | ⟨rfl, h0, h1, h2, h3, h4, h5⟩
  · rw [Lib.encodeRuneZ_one (by omega) (by omega)]; rfl
  · rw [Lib.encodeRuneZ_two (by omega) (by omega)]
    have e0 : (192 + (r : Int) / 64).toNat = b0 := by omega
    have e1 : (128 + (r : Int) % 64).toNat = b1 := by omega
    simp only [List.map, e0, e1, List.take]
  · rw [Lib.encodeRuneZ_three (by omega)]
    have e0 : (224 + (r : Int) / 4096).toNat = b0 := by omega
    have e1 : (128 + (r : Int) / 64 % 64).toNat = b1 := by omega
    have e2 : (128 + (r : Int) % 64).toNat = b2 := by omega
    simp only [List.map, e0, e1, e2, List.take]
  · rw [Lib.encodeRuneZ_four (by omega) (by omega)]
    have e0 : (240 + (r : Int) / 262144).toNat = b0 := by omega
    have e1 : (128 + (r : Int) / 4096 % 64).toNat = b1 := by omega
    have e2 : (128 + (r : Int) / 64 % 64).toNat = b2 := by omega
    have e3 : (128 + (r : Int) % 64).toNat = b3 := by omega
    simp only [List.map, e0, e1, e2, e3, List.take]
/-- a first rune's text, and what is behind it -/
theorem text_rst {t : Tx} (h : 0 ≤ lenS t) (h0 : 0 < t.size) : textZ [(labS t : Int)] ++ rstS t = t := by
  obtain ⟨h1, h2, -⟩ := good_first h h0
  obtain ⟨e1, e2⟩ := ue_read_well t 0 h0 h1
  have hw := ue_enc_width e1
  have hl : labS t = (Utf8.decode t 0).1 := rfl
  have hg : allG [(labS t : Int)] := by
    intro z hz
    simp only [List.mem_singleton] at hz
    subst hz
    rw [hl]
    unfold goodP
    omega
  rw [(textZ_good hg).1]
  have he : encB [(labS t : Int)] = Utf8.encode (labS t : Int) := by
    rw [hl]
    apply tx_ext
    rw [encode_enc _ _ _ _ _ _ e1 e2, ← ue_encode_list _ _ _ _ _ _ e1 e2]
    simp [encB, encL]
  rw [he]
  exact enc_rst h h0
end Go.Proofs.Ytolggcdlpiedmaa
/- graph: From, Words -/
namespace Go.Proofs.Ytolggcdlpiedmaa
open Go.RowKit
set_option linter.unusedVariables false
set_option maxRecDepth 20000
def fromL (ts : List Tx) (lo : Tx) (most : Int) : List Tx := (ts.filter (fun t => !decide (cmpS t lo < 0))).take most.toNat
theorem takeL_from (lo : Tx) (most : Int) : ∀ (ts out : List Tx), (out.length : Int) < most → (takeL lo most out ts).1 = out ++ (ts.filter (fun t => !decide (cmpS t lo < 0))).take (most - out.length).toNat
  | [], out, _ => by simp [takeL]
  | x :: l, out, h => by
    rw [takeL]
    by_cases hc : cmpS x lo < 0
    · have e : takeO lo out x = out := if_pos hc
      rw [e, if_pos h, takeL_from lo most l out h, List.filter_cons_of_neg (by simpa using hc)]
    · have e : takeO lo out x = out ++ [x] := if_neg hc
      have hl : (out ++ [x]).length = out.length + 1 := by simp
      rw [e, List.filter_cons_of_pos (by simpa using hc), show (most - (out.length : Int)).toNat = (most - ((out.length : Int) + 1)).toNat + 1 by omega, List.take_succ_cons]
      by_cases hm : ((out ++ [x]).length : Int) < most
      · rw [if_pos hm, takeL_from lo most l (out ++ [x]) hm, hl, List.append_assoc]
        simp
      · rw [if_neg hm]
        rw [hl] at hm
        rw [show (most - ((out.length : Int) + 1)).toNat = 0 by omega]
        simp
theorem from_takeL (ts : List Tx) (lo : Tx) (most : Int) (h : 1 ≤ most) : (takeL lo most [] (ts.map (fun x => (⟨#[]⟩ : ByteArray) ++ x))).1 = fromL ts lo most := by
  have e : ts.map (fun x => (⟨#[]⟩ : ByteArray) ++ x) = ts := by
    conv => rhs; rw [← List.map_id ts]
    exact List.map_congr_left fun a _ => ByteArray.empty_append
  rw [e, takeL_from lo most ts [] (by simp; omega)]
  simp [fromL]
def RetTx (w : World) (ts : List Tx) (e : Ending) (w' : World) : Prop := ∃ a c, e = .returned (.slice a ts.length c) ∧ w'.ownsRow w.heap.size 9 1 (.slice a ts.length c) ts.length (strsV ts) ∧ Below w.heap.size w w'
theorem qt_start (w : World) (lo : Tx) (most : Int) (t1 t2 t3 : TypeId) : QTs w.heap.size lo most w.heap.size (w.heap.size + 1 + 1) (w.heap.size + 1) [] (((w.alloc (Obj.cells #[Value.string lo] t1)).alloc (Obj.cells #[Value.int IntKind.i64 most] t2)).alloc (Obj.cells #[Value.slice none 0 0] t3)) (fun k => w.heap.size ≤ k ∧ k < w.heap.size + 3) := by
  have hb := Below.heap_alloc ((w.alloc (Obj.cells #[Value.string lo] t1)).alloc (Obj.cells #[Value.int IntKind.i64 most] t2)) (Obj.cells #[Value.slice none 0 0] t3)
  have hc := Below.heap_alloc (w.alloc (Obj.cells #[Value.string lo] t1)) (Obj.cells #[Value.int IntKind.i64 most] t2)
  have b0 := (hb w.heap.size (by simp; omega)).trans (hc w.heap.size (by simp))
  have b1 := hb (w.heap.size + 1) (by simp)
  refine ⟨none, 0, ⟨?_, ?_, ?_, fun i => ?_, World.ownsRow_nil _ _ _ _, ⟨by omega, by omega⟩, ⟨by omega, by omega⟩, ⟨by omega, by omega⟩, by omega, by omega, fun q hq => by (cases hq), fun k hk => ?_, ?_⟩⟩
  · rw [World.cell?_of_block (w := w.alloc (Obj.cells #[Value.string lo] t1)) b0, World.cell?_alloc_at _ _ _ _ rfl]; rfl
  · rw [World.cell?_alloc_at _ _ _ _ (by simp)]; rfl
  · rw [World.cell?_of_block (w := (w.alloc (Obj.cells #[Value.string lo] t1)).alloc (Obj.cells #[Value.int IntKind.i64 most] t2)) b1, World.cell?_alloc_at _ _ _ _ (by simp)]; rfl
  · rw [World.frozen?_alloc_at _ _ _ _ (by simp)]
  · simp; omega
  · simp; omega
theorem words_all {ts : List Tx} (h : ts.length ≤ 60) : fromL ts ⟨#[]⟩ 60 = ts := by
  unfold fromL
  have e : ts.filter (fun t => !decide (cmpS t (⟨#[]⟩ : ByteArray) < 0)) = ts := List.filter_eq_self.2 (fun t _ => by simpa using cmp_empty t)
  rw [e]
  exact List.take_of_length_le (by simpa using h)
end Go.Proofs.Ytolggcdlpiedmaa
/- graph: a list that grows beside rows that stay -/
namespace Go.Proofs.Ytolggcdlpiedmaa
open Go.RowKit
set_option linter.unusedVariables false
set_option maxRecDepth 20000
/-- a list of texts of the call's own; the blocks K are none of its -/
structure FS (B : Nat) (w0 : World) (K : Nat → Prop) (oa : Option Addr) (oc : Nat) (out : List Tx) (w : World) : Prop where
  o : w.ownsRow B 9 1 (.slice oa out.length oc) out.length (strsV out)
  no : ∀ q, oa = some ⟨q, 0, none⟩ → ¬ K q
  kl : ∀ k, K k → k < w.heap.size
  b : Below B w0 w
  bl : B ≤ w.heap.size
theorem FS.more {B : Nat} {w0 : World} {K : Nat → Prop} {oa : Option Addr} {oc : Nat} {out : List Tx} {w w' : World} (h : FS B w0 K oa oc out w) (hb : Below w.heap.size w w') : FS B w0 K oa oc out w' :=
  ⟨owns_below h.o hb, h.no, fun k hk => Nat.lt_of_lt_of_le (h.kl k hk) hb.size, h.b.trans (hb.mono h.bl), Nat.le_trans h.bl hb.size⟩
/-- rows made since stay too -/
theorem FS.keep {B : Nat} {w0 : World} {K L : Nat → Prop} {oa : Option Addr} {oc : Nat} {out : List Tx} {w : World} (h : FS B w0 K oa oc out w) (h1 : ∀ q, oa = some ⟨q, 0, none⟩ → ¬ L q) (h2 : ∀ k, L k → k < w.heap.size) : FS B w0 (fun k => K k ∨ L k) oa oc out w :=
  ⟨h.o, fun q e hk => hk.elim (h.no q e) (h1 q e), fun k hk => hk.elim (h.kl k) (h2 k), h.b, h.bl⟩
theorem FS.less {B : Nat} {w0 : World} {K L : Nat → Prop} {oa : Option Addr} {oc : Nat} {out : List Tx} {w : World} (h : FS B w0 K oa oc out w) (hl : ∀ k, L k → K k) : FS B w0 L oa oc out w :=
  ⟨h.o, fun q e hk => h.no q e (hl q hk), fun k hk => h.kl k (hl k hk), h.b, h.bl⟩
theorem FS.grow {B : Nat} {w0 : World} {K : Nat → Prop} {oa : Option Addr} {oc : Nat} {out : List Tx} {x : Tx} {w w6 : World} {q cap : Nat} {o : Obj} (h : FS B w0 K oa oc out w)
    (own : w6.ownsRow B 9 1 (.slice (some ⟨q, 0, none⟩) (out.length + 1) cap) (out.length + 1) (strsV out ++ [.string x]))
    (hg : (w.alloc o).grownBy w6 (Value.slice oa out.length oc).ownBlock) (hat : (Value.slice oa out.length oc).ownBlock = some q ∨ q = (w.alloc o).heap.size) :
    FS B w0 K (some ⟨q, 0, none⟩) cap (out ++ [x]) w6 ∧ Turn (fun k => oa = some ⟨k, 0, none⟩) w w6 := by
  have hza : (w.alloc o).heap.size = w.heap.size + 1 := by simp
  have hz6 := hg.size
  have old : ∀ k, k < w.heap.size → oa ≠ some ⟨k, 0, none⟩ → w6.heap[k]? = w.heap[k]? := fun k hk hn =>
    (hg.block k (by omega) (fun e => hn (gown_at h.o e))).trans (Below.heap_alloc _ _ _ (by omega))
  have t : Turn (fun k => oa = some ⟨k, 0, none⟩) w w6 := ⟨hg.os, hg.tape, hg.output, by omega, fun k hk hn => old k hk hn⟩
  have hlen : (out ++ [x]).length = out.length + 1 := by simp
  refine ⟨⟨by rw [hlen, strsV_snocG]; exact own, fun r hr hk => ?_, fun k hk => by have := h.kl k hk; omega, h.b.trans (t.below (fun k hk => (h.o.lt k (by rw [hk]; rfl)).1) h.bl), by have := h.bl; omega⟩, t⟩
  injection hr with hr; injection hr with hr; subst hr
  rcases hat with e | e
  · exact h.no q (gown_at h.o e.symm) hk
  · have := h.kl q hk; omega
theorem FS.start (w : World) : FS w.heap.size w (fun _ => False) none 0 [] w := ⟨World.ownsRow_nil _ _ _ _, fun q e => by (cases e), fun k hk => hk.elim, Below.refl _ _, Nat.le_refl _⟩
end Go.Proofs.Ytolggcdlpiedmaa
/- walk: Dists; the document's Next and Dists -/
namespace Go.Proofs.Ytolggcdlpiedmaa
open Go.RowKit
set_option linter.unusedVariables false
set_option maxRecDepth 20000
def distsL (M : List KV) (d : Int) : List Tx := (M.filter (fun x => decide (x.1 = d))).map (·.2)
theorem distsL_snoc (M : List KV) (x : KV) (d : Int) : distsL (M ++ [x]) d = distsL M d ++ (if x.1 = d then [x.2] else []) := by
  unfold distsL
  rw [List.filter_append, List.map_append]
  congr 1
  by_cases h : x.1 = d <;> simp [h]
theorem distsL_len (M : List KV) (d : Int) : (distsL M d).length ≤ M.length := by
  unfold distsL; rw [List.length_map]; exact List.length_filter_le _ _
theorem strW_info : (Try.prog.info? 9).map (fun i => (i.zero, i.size, i.bytes)) = some (some (.string ⟨#[]⟩), 1, 16) := by kernel_rfl
theorem holdsK_blocks {w w' : World} {a : Option Addr} {n : Nat} {l : List KV} (h : HoldsK w a n l) (hb : ∀ b o, 0 < n → a = some ⟨b, o, none⟩ → w'.heap[b]? = w.heap[b]?) : HoldsK w' a n l :=
  ⟨h.1, fun h0 => by
    obtain ⟨b, o, e, hc⟩ := h.2 h0
    exact ⟨b, o, e, fun i hi => ⟨(World.cell?_of_block (hb b o h0 e)).trans (hc i hi).1, (World.cell?_of_block (hb b o h0 e)).trans (hc i hi).2⟩⟩⟩
set_option maxHeartbeats 1600000 in
theorem dists_any (gp : Value) (s : Tx) (d : Int) (M : List KV) (ys : List Tx) (w : World) (CM : Calls Try.prog 36 #[gp, .string s, .int .i64 d] w (RetI w M)) (hM : M.length ≤ 100) (hy : distsL M d = ys) :
    Calls Try.prog 19 #[gp, .string s, .int .i64 d] w (RetTx w ys) := by
  obtain ⟨i0, hi, hz0, hz1, hz2⟩ := info_parts strW_info
  have CMH := Lib.hid CM; have HY := Lib.hid hy
  clear CM hy
  go_enter Try.func19, Try.ntmps19
  go_wp2_with fail
  refine CMH.out.mono ?_
  rintro e w1 ⟨a1, c1, rfl, o1, hb1⟩
  obtain ⟨m, hm⟩ : ∃ m, M.length = m := ⟨_, rfl⟩
  rw [hm] at o1 hM ⊢
  have H1 := Lib.hid (HoldsK.own o1)
  have F1 := Lib.hid (((FS.start w).more hb1).keep (L := fun q => ∃ fo, a1 = some ⟨q, fo, none⟩) (fun q e => by cases e) (fun q e => (own_blockG o1 e.choose_spec).2))
  have HM := Lib.hid hm
  clear o1 hb1 CMH hm
  go_wp2_with fail
  go_loopw [7, 15] (fun ov iv wr => ∃ (j : Nat) (oa : Option Addr) (oc on : Nat) (out : List Tx), j ≤ m ∧ iv = .int .i64 j ∧ ov = .slice oa on oc ∧ Hid (out.length = on) ∧ Hid (out = distsL (M.take j) d) ∧ Hid (FS w.heap.size w (fun q => False ∨ ∃ fo, a1 = some ⟨q, fo, none⟩) oa oc out wr) ∧ Hid (HoldsK wr a1 m M)) (fun _ iv _ => m - (intOf iv).toNat)
  case atStart => exact ⟨0, none, 0, 0, [], by omega, rfl, rfl, Lib.hid rfl, Lib.hid rfl, F1, H1⟩
  case round =>
    obtain ⟨j, oa, oc, on, out, hj, rfl, rfl, hon, hO, hF, hH⟩ := hrel
    by_cases hlt : j < m
    · obtain ⟨b, o, rfl, hc⟩ := hH.out.at (by omega)
      obtain ⟨x0, x1⟩ := hc j hlt
      have htk := take_succ_getD M k0 j (by have := HM.out; omega)
      obtain ⟨x, hx⟩ : ∃ x, M.getD j k0 = x := ⟨_, rfl⟩
      rw [hx] at x0 x1 htk
      have n1 : (0 : Int) ≤ (j : Int) := by omega
      have n2 : (j : Int) < (m : Int) := by omega
      have hol : out.length ≤ 100 := by have h1 := distsL_len (M.take j) d; rw [← hO.out, List.length_take] at h1; omega
      have HB := below_one wr (.cells #[.int .i64 x.1, .string x.2] 24)
      have FA := Lib.hid (hF.out.more HB)
      have HA := Lib.hid (hH.out.below HB)
      have hblt := lt_of_cell x0
      by_cases hd : x.1 = d
      · rw [hd] at x0 FA HA HB
        have HO2 := Lib.hid (show out ++ [x.2] = distsL (M.take (j + 1)) d from by rw [htk, distsL_snoc, if_pos hd, hO.out])
        have hon9 := hon.out
        subst hon9
        clear hx htk hc HB hd
        obtain ⟨w2, hw2⟩ : ∃ w2, wr.alloc (.cells #[.int .i64 d, .string x.2] 24) = w2 := ⟨_, rfl⟩
        have bl := FA.out.bl
        rw [hw2] at FA HA bl
        have y1 : w2.cell? ⟨wr.heap.size, 1, none⟩ = some (.string x.2) := by rw [← hw2, World.cell?_alloc_mark]; rfl
        have y0 : w2.cell? ⟨wr.heap.size, 0, none⟩ = some (.int .i64 d) := by rw [← hw2, World.cell?_alloc_mark]; rfl
        go_upto_region 5 with fail
        have FO := Lib.hid (FA.out.o.alloc (.cells #[.string x.2] 9))
        clear hw2
        go_wp2_with (at_builtin; refine wpList_append_lies _ rfl (.tmp 23) (.tmp 26) 22 rfl w.heap.size 9 i0 _ 1 16 Try.underlying22 hi hz0 hz1 hz2 rfl (by omega) (.slice oa out.length oc) out.length (strsV out) (by rfl) FO.out ⟨w2.heap.size, 0, none⟩ 1 1 [.string x.2] (by rfl) (by rfl) (World.news_of_block (cs := #[.string x.2]) (t := 9) (fr := (0, 0)) (heap_alloc_new w2 _)) (by simp [Value.oneCell']) (by omega) (by unfold maxLen; omega) (by omega) (by simp; omega) (w2.heap.size + 1) (by simp) ?_; intro g3 c3' w3 hown3 hgrow3 hat3 hlt3; have GR := Lib.hid (FA.out.grow hown3 hgrow3 (hat3.imp id (fun e => by simp; exact e))); clear hown3 hgrow3 hat3 hlt3)
        go_roundw
        case rel => exact ⟨j + 1, some ⟨g3, 0, none⟩, c3', out.length + 1, out ++ [x.2], by omega, by go_num, rfl, Lib.hid (by simp), HO2, Lib.hid GR.out.1, Lib.hid (holdsK_blocks HA.out (fun fb fo _ e => GR.out.2.block fb (FA.out.kl fb (.inr ⟨fo, e⟩)) (fun e2 => FA.out.no fb e2 (.inr ⟨fo, e⟩))))⟩
        case measure => simp [intOf] <;> omega
      · have hd1 : (x.1 == d) = false := by simpa using hd
        have HO2 := Lib.hid (show out = distsL (M.take (j + 1)) d from by rw [htk, distsL_snoc, if_neg hd, List.append_nil, hO.out])
        clear hx htk hc hd HB
        go_wp2_with fail
        go_roundw
        case rel => exact ⟨j + 1, oa, oc, on, out, by omega, by go_num, rfl, hon, HO2, FA, HA⟩
        case measure => simp [intOf] <;> omega
    · obtain rfl : j = m := by omega
      have hO2 := hO.out
      rw [List.take_of_length_le (by have := HM.out; omega), HY.out] at hO2
      subst hO2
      have hon9 := hon.out
      subst hon9
      go_wp2_with fail
      go_ret
      exact ⟨oa, oc, rfl, hF.out.o, hF.out.b⟩
/-- the document's Next: some items and whether they are all -/
def RetM (w : World) (n : Nat) (ys : List KV) (b : Bool) (e : Ending) (w' : World) : Prop := ∃ a c, e = .returned (.tuple #[.slice a n c, .bool b]) ∧ w'.ownsRow w.heap.size 24 2 (.slice a n c) n (keysV ys) ∧ Below w.heap.size w w'
theorem restK_snoc (first : Bool) (av : KV) (L : List KV) (x : KV) : (if first then L ++ [x] else (L ++ [x]).filter (lessK av)) = (if first then L else L.filter (lessK av)) ++ (if first || lessK av x then [x] else []) := by
  cases first with
  | true => simp
  | false =>
    rw [if_neg (by simp), if_neg (by simp), List.filter_append]
    cases h : lessK av x <;> simp [h]
def keepK (first : Bool) (av : KV) (L : List KV) : List KV := if first then L else L.filter (lessK av)
theorem keepK_snoc (first : Bool) (av : KV) (L : List KV) (x : KV) : keepK first av (L ++ [x]) = keepK first av L ++ (if first || lessK av x then [x] else []) := restK_snoc first av L x
theorem keepK_len (first : Bool) (av : KV) (L : List KV) : (keepK first av L).length ≤ L.length := by
  unfold keepK; split
  · exact Nat.le_refl _
  · exact List.length_filter_le _ _
def Box4w (w0 : World) (p b o : Nat) (v0 v1 v2 v3 : Value) (w : World) : Prop := Box4r w0 p b o v0 v1 v2 v3 w
set_option maxHeartbeats 3200000 in
theorem rnext_any (a : Option Addr) (n cap : Nat) (ts : List Tx) (s : Tx) (k : Int) (first : Bool) (av : KV) (batch : Int) (F ys : List KV) (m : Nat) (b : Bool) (w : World) (hh : HoldsT w a n ts) (hn : n ≤ 100) (hl : ∀ t ∈ ts, t.size ≤ 1048576) (hs : s.size ≤ 1048576) (hav : av.2.size ≤ 1048576)
    (hF : restK first av (matchK ts s k) = F) (hm : cntK batch F.length = m) (hy : F.take m = ys) (hb : decide (m = F.length) = b) :
    Calls Try.prog 16 #[.slice a n cap, .string s, .int .i64 k, .bool first, .agg #[.int .i64 av.1, .string av.2], .int .i64 batch] w (RetM w m ys b) := by
  obtain ⟨i0, hi, hz0, hz1, hz2⟩ := info_parts item_info
  have CA := Lib.hid (fun w => rasked_any s w hs)
  have HF := Lib.hid hF; have HM := Lib.hid hm; have HY := Lib.hid hy; have HBB := Lib.hid hb
  have B1 := Lib.hid (below_one w (.cells #[.int .i64 av.1, .string av.2] 24))
  have KB := Lib.hid (show KBox w.heap.size av (w.alloc (.cells #[.int .i64 av.1, .string av.2] 24)) from ⟨by rw [World.cell?_alloc_mark]; rfl, by rw [World.cell?_alloc_mark]; rfl⟩)
  by_cases hc : (0 ≤ lenS s ∧ lenS s ≤ 16) ∧ 0 ≤ k ∧ k ≤ 4
  · obtain ⟨ha, hk0, hk4⟩ := hc
    have HAL := Lib.hid (show sortK (matchK ts s k) = allK ts s k from by unfold matchK allK; rw [if_pos ⟨ha, hk0, hk4⟩])
    obtain ⟨L, hL⟩ : ∃ L, allK ts s k = L := ⟨_, rfl⟩
    have hLl : L.length ≤ 100 := by rw [← hL]; have := allK_len ts s k; have := hh.len; omega
    have hLs : ∀ x ∈ L, x.2.size ≤ 1048576 := fun x hx => hl _ (allK_mem.1 (hL ▸ hx)).1
    have CAll := Lib.hid (fun w' (h : Below w.heap.size w w') => rall_any a n cap ts s k w' (hh.below h) (by omega) hl hs)
    rw [hL] at CAll HAL
    have HKF := Lib.hid (show keepK first av L = F from by rw [← HF.out]; unfold restK keepK; rw [HAL.out])
    have hca : decide (0 ≤ lenS s ∧ lenS s ≤ 16) = true := decide_eq_true ha
    rw [hca] at CA
    have hk1 : ¬ k < 0 := by omega
    have hk2 : ¬ 4 < k := by omega
    have HLL := Lib.hid hLl; have HLS := Lib.hid hLs
    have hmF : m ≤ F.length := by rw [← hm]; unfold cntK; omega
    have hmn : min (max batch 0) (F.length : Int) = (m : Int) := by rw [← hm]; unfold cntK; omega
    clear hF hm hy hb hL hLl hLs hca ha hk0 hk4 hh
    obtain ⟨w1, hw1⟩ : ∃ w1, w.alloc (.cells #[.int .i64 av.1, .string av.2] 24) = w1 := ⟨_, rfl⟩
    have zz1 : w.heap.size < w1.heap.size := by rw [← hw1]; simp
    have HW := Lib.hid hw1
    rw [hw1] at B1 KB
    clear hw1
    go_enter Try.func16, Try.ntmps16
    go_upto_region 1 with fail
    rw [HW.out]
    go_wp2_with fail
    refine (CA.out _).mono ?_
    rintro e w2 ⟨rfl, hb2⟩
    have B2 := Lib.hid (B1.out.trans (hb2.mono B1.out.size))
    have KB2 := Lib.hid (KB.out.more hb2 zz1)
    have zz2 : w1.heap.size ≤ w2.heap.size := hb2.size
    clear hb2 KB
    go_wp2_with fail
    refine (CAll.out _ B2.out).mono ?_
    rintro e w3 ⟨a3, c3, rfl, o3, hb3⟩
    have KB3 := Lib.hid (KB2.out.more hb3 (by omega))
    have B3 := Lib.hid (B2.out.trans (hb3.mono B2.out.size))
    have zz3 : w2.heap.size ≤ w3.heap.size := hb3.size
    have H3 := Lib.hid (HoldsK.own o3)
    obtain ⟨ln, hln⟩ : ∃ x, L.length = x := ⟨_, rfl⟩
    rw [hln] at H3 ⊢
    have HLN := Lib.hid hln
    have hln100 : ln ≤ 100 := by rw [← hln]; exact HLL.out
    clear o3 hb3 KB2 B2 CAll CA hln
    go_wp2_with fail
    go_loopw [15, 16] (fun ov iv wr => ∃ (j : Nat) (P : List KV) (oa : Option Addr) (oc : Nat), j ≤ ln ∧ iv = .int .i64 j ∧ ov = .slice oa P.length oc ∧ Hid (P = keepK first av (L.take j)) ∧ Hid (wr.ownsRow w3.heap.size 24 2 (.slice oa P.length oc) P.length (keysV P)) ∧ Hid (Below w3.heap.size w3 wr)) (fun _ iv _ => ln - (intOf iv).toNat)
    case atStart => exact ⟨0, [], none, 0, by omega, rfl, rfl, Lib.hid (by unfold keepK; cases first <;> simp), Lib.hid (World.ownsRow_nil _ _ _ _), Lib.hid (Below.refl _ _)⟩
    case round =>
      obtain ⟨j, P, oa, oc, hj, rfl, rfl, hP, hO, hB⟩ := hrel
      by_cases hlt : j < ln
      · obtain ⟨bb, o, rfl, hc⟩ := H3.out.at (by omega)
        obtain ⟨g0, g1⟩ := hc j hlt
        have hbb := lt_of_cell g0
        have htk := take_succ_getD L k0 j (by have := HLN.out; omega)
        have hpl : P.length ≤ 100 := by have h1 := keepK_len first av (L.take j); rw [← hP.out, List.length_take] at h1; have := HLL.out; omega
        have hmem := HLS.out _ (getD_memK L j (by have := HLN.out; omega))
        obtain ⟨x, hx⟩ : ∃ x, L.getD j k0 = x := ⟨_, rfl⟩
        rw [hx] at g0 g1 htk hmem
        have c0 := (hB.out.cell (p := ⟨bb, o + j * 2, none⟩) hbb).trans g0
        have c1 := (hB.out.cell (p := ⟨bb, o + j * 2 + 1, none⟩) hbb).trans g1
        obtain ⟨t0, t1⟩ := KB3.out.more hB.out (show w.heap.size < w3.heap.size by omega)
        have T := Lib.hid (show Box4r wr w.heap.size bb (o + j * 2) (.int .i64 av.1) (.string av.2) (.int .i64 x.1) (.string x.2) wr from ⟨Below.refl _ _, t0, t1, c0, c1⟩)
        have n1 : (0 : Int) ≤ (j : Int) := by omega
        have n2 : (j : Int) < (ln : Int) := by omega
        have HTK := Lib.hid htk
        clear hx htk hc g0 g1 t0 t1 c0 c1
        have hOD := Lib.hid (fun w2 (h : Below wr.heap.size wr w2) => owns_below hO.out h)
        have hBD := Lib.hid (fun w2 (h : Below wr.heap.size wr w2) => hB.out.trans (h.mono hB.out.size))
        cases first with
        | true =>
          obtain ⟨-, -, -, c0, c1⟩ := T.out
          go_upto_region 8 with fail
          go_quiet (fail)
          have OD := Lib.hid (hOD.out _ (below_drewN wr nq))
          have BD := Lib.hid (hBD.out _ (below_drewN wr nq))
          have d0 : (wr.drewN nq).cell? ⟨bb, o + j * 2, none⟩ = some (.int .i64 x.1) := c0
          have d1 : (wr.drewN nq).cell? ⟨bb, o + j * 2 + 1, none⟩ = some (.string x.2) := c1
          generalize wr.drewN nq = wd at *
          clear c0 c1 T hO hB hOD hBD
          have hsz := BD.out.size
          go_wp2_with (at_builtin; refine wpList_append_any rfl (.tmp 48) (.tmp 53) 31 rfl w3.heap.size 24 i0 _ 2 24 Try.underlying31 hi hz0 hz1 hz2 rfl (by decide) _ P.length _ rfl (OD.out.alloc _) _ 1 1 [.int .i64 x.1, .string x.2] rfl (some_none _) rfl (two_new _ _ _ _ _) (two_one _ _) (by unfold maxLen; omega) (by omega) (by simp; omega) ?_; intro a4 c4 w4 hown4 hb4 hnil4)
          rw [show keysV P ++ [.int .i64 x.1, .string x.2] = keysV (P ++ [x]) from (keysV_snoc P x).symm] at hown4
          have O4 := Lib.hid hown4
          have B4 := Lib.hid ((BD.out.alloc BD.out.size _).trans hb4)
          clear hown4 hb4 hnil4
          go_roundw
          case rel => exact ⟨j + 1, P ++ [x], a4, c4, by omega, by go_num, by simp, Lib.hid (by rw [HTK.out, keepK_snoc, ← hP.out]; rfl), Lib.hid (by have := O4.out; simpa using this), B4⟩
          case measure => simp [intOf] <;> omega
        | false =>
          obtain ⟨c, hcx⟩ : ∃ c, lessK av x = c := ⟨_, rfl⟩
          have RL := Lib.hid (fun w => rlessI_lit av x c w hav hmem hcx)
          unfold keyV at RL
          have HCX := Lib.hid hcx
          clear hcx
          go_upto_region 8 with fail
          cases c with
          | true =>
            go_region_held3 (fun w' => Below wr.heap.size wr w' ∧ w'.cell? ⟨w.heap.size, 0, none⟩ = some (.int .i64 av.1) ∧ w'.cell? ⟨w.heap.size, 1, none⟩ = some (.string av.2) ∧ w'.cell? ⟨bb, o + j * 2, none⟩ = some (.int .i64 x.1) ∧ w'.cell? ⟨bb, o + j * 2 + 1, none⟩ = some (.string x.2))
              (first | assumption | exact box4r_carry T.out (Below.refl _ _).drew | exact box4r_carry (by assumption) (by assumption))
              ((go_at_call 42; (with_reducible refine (RL.out _).mono ?_); rintro e w' ⟨rfl, hb⟩))
            rename_i TT
            obtain ⟨hbl, d2, d3, d0, d1⟩ := TT
            have OD := Lib.hid (hOD.out _ hbl)
            have BD := Lib.hid (hBD.out _ hbl)
            clear hb hbl T hO hB hOD hBD
            have hsz := BD.out.size
            go_wp2_with (at_builtin; refine wpList_append_any rfl (.tmp 48) (.tmp 53) 31 rfl w3.heap.size 24 i0 _ 2 24 Try.underlying31 hi hz0 hz1 hz2 rfl (by decide) _ P.length _ rfl (OD.out.alloc _) _ 1 1 [.int .i64 x.1, .string x.2] rfl (some_none _) rfl (two_new _ _ _ _ _) (two_one _ _) (by unfold maxLen; omega) (by omega) (by simp; omega) ?_; intro a4 c4 w4 hown4 hb4 hnil4)
            rw [show keysV P ++ [.int .i64 x.1, .string x.2] = keysV (P ++ [x]) from (keysV_snoc P x).symm] at hown4
            have O4 := Lib.hid hown4
            have B4 := Lib.hid ((BD.out.alloc BD.out.size _).trans hb4)
            clear hown4 hb4 hnil4
            go_roundw
            case rel => exact ⟨j + 1, P ++ [x], a4, c4, by omega, by go_num, by simp, Lib.hid (by rw [HTK.out, keepK_snoc, ← hP.out]; simp [HCX.out]), Lib.hid (by have := O4.out; simpa using this), B4⟩
            case measure => simp [intOf] <;> omega
          | false =>
            go_region_held3 (fun w' => Below wr.heap.size wr w' ∧ w'.cell? ⟨w.heap.size, 0, none⟩ = some (.int .i64 av.1) ∧ w'.cell? ⟨w.heap.size, 1, none⟩ = some (.string av.2) ∧ w'.cell? ⟨bb, o + j * 2, none⟩ = some (.int .i64 x.1) ∧ w'.cell? ⟨bb, o + j * 2 + 1, none⟩ = some (.string x.2))
              (first | assumption | exact box4r_carry T.out (Below.refl _ _).drew | exact box4r_carry (by assumption) (by assumption))
              ((go_at_call 42; (with_reducible refine (RL.out _).mono ?_); rintro e w' ⟨rfl, hb⟩))
            rename_i TT
            obtain ⟨hbl, d2, d3, d0, d1⟩ := TT
            have OD := Lib.hid (hOD.out _ hbl)
            have BD := Lib.hid (hBD.out _ hbl)
            clear hb hbl T hO hB hOD hBD
            go_wp2_with fail
            go_roundw
            case rel => exact ⟨j + 1, P, oa, oc, by omega, by go_num, rfl, Lib.hid (by rw [HTK.out, keepK_snoc, ← hP.out]; simp [HCX.out]), OD, BD⟩
            case measure => simp [intOf] <;> omega
      · obtain rfl : j = ln := by omega
        have hP2 := hP.out
        rw [List.take_of_length_le (by have := HLN.out; omega), HKF.out] at hP2
        subst hP2
        have BF := Lib.hid (B3.out.trans (hB.out.mono B3.out.size))
        have hcap : P.length ≤ oc := by
          rcases hO.out.2 with ⟨e1, e2⟩ | ⟨g', cap', cur, hv, hb, hh, hc, hc2, hs, hx⟩
          · omega
          · simp only [Value.slice.injEq] at hv; omega
        have hmc : m ≤ oc := by omega
        have hbq : ((m : Int) == (P.length : Int)) = b := by
          rw [← HBB.out]
          by_cases h : m = P.length
          · simp [h]
          · have h2 : ¬ ((m : Int) = (P.length : Int)) := by omega
            simp [h, h2]
        go_wp2_with fail
        go_ret2
        exact ⟨oa, oc, rfl, by have h := owns_take hO.out m hmF; rw [HY.out] at h; exact h.mono' (by have := B3.out.size; omega), BF.out⟩
  · have hF0 : F = [] := by
      rw [← hF]; unfold restK matchK
      rw [if_neg hc]
      have : sortK ([] : List KV) = [] := rfl
      cases first <;> simp [this]
    subst hF0
    have hm0 : m = 0 := by rw [← hm]; unfold cntK; simp; omega
    subst hm0
    obtain rfl : ys = [] := by rw [← hy]; rfl
    obtain rfl : b = true := by rw [← hb]; rfl
    clear hF hm hy hb HF HM HY HBB hh
    by_cases ha : 0 ≤ lenS s ∧ lenS s ≤ 16
    · rw [decide_eq_true ha] at CA
      have hk : k < 0 ∨ 4 < k := by have : ¬ (0 ≤ k ∧ k ≤ 4) := fun h => hc ⟨ha, h⟩; omega
      clear hc ha
      by_cases hk0 : k < 0
      · go_enter Try.func16, Try.ntmps16
        go_wp2_with fail
        refine (CA.out _).mono ?_
        rintro e w2 ⟨rfl, hb2⟩
        have B2 := Lib.hid (B1.out.trans (hb2.mono B1.out.size))
        clear hb2
        go_wp2_with fail
        go_ret2
        exact ⟨none, 0, rfl, World.ownsRow_nil _ _ _ _, B2.out⟩
      · have hk4 : 4 < k := by omega
        clear hk
        go_enter Try.func16, Try.ntmps16
        go_wp2_with fail
        refine (CA.out _).mono ?_
        rintro e w2 ⟨rfl, hb2⟩
        have B2 := Lib.hid (B1.out.trans (hb2.mono B1.out.size))
        clear hb2
        go_wp2_with fail
        go_ret2
        exact ⟨none, 0, rfl, World.ownsRow_nil _ _ _ _, B2.out⟩
    · rw [decide_eq_false ha] at CA
      clear hc ha
      go_enter Try.func16, Try.ntmps16
      go_wp2_with fail
      refine (CA.out _).mono ?_
      rintro e w2 ⟨rfl, hb2⟩
      have B2 := Lib.hid (B1.out.trans (hb2.mono B1.out.size))
      clear hb2
      go_wp2_with fail
      go_ret2
      exact ⟨none, 0, rfl, World.ownsRow_nil _ _ _ _, B2.out⟩
end Go.Proofs.Ytolggcdlpiedmaa
