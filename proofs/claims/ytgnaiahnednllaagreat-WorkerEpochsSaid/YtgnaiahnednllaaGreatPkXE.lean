/- texts joined -/
import Derived.WalkKit
import Derived.ProofKit
import Derived.OpenShut
import Derived.Lib.SmallJoins
import Derived.Lib.Hide
import Derived.Test.YtgnaiahnednllaaGreatChecked
import Derived.Maps.OwnSet
import Derived.WalkArith
import Derived.Carry
import Derived.OwnWalk
import Derived.Laws.AppendOwnNone
import Derived.Lib.SliceRun
import Derived.Deep.RegionLaw
import Derived.Outline
import Derived.WalkLawsBesides
import Derived.WalkSpells
import Derived.Deep.QuietTactic
import Derived.BigQuiet
import Derived.Deep.DeepCutAuto
import Derived.Deep.RegionHeld3
import Derived.Deep.AppendLies
import Derived.Laws.ResultCell
import Derived.Laws.BitsAllLaws
import Derived.Laws.DeepBits32
import Derived.Sort.Walk0
import Derived.Laws.RangeAny
import Derived.Lib.DecodeN
import Derived.Lib.OthersKept
import Derived.Deep.Slices
import Derived.SliceStrings
import Derived.Deep.RegionWith
import Derived.Laws.AppendOwn
import Derived.StringKeys
import Derived.Laws.OwnMore
import Derived.DeepKeys4
import Derived.Lib.AppendStr
import Derived.Lib.Strings
import Derived.Lib.ConvBytes
import Derived.Laws.BytesArg
import Derived.Lib.SlBytesRow
import Derived.Shelf.Strings.Builder1
import Derived.Shelf.Strings.BuilderK
import Derived.Shelf.Strings.BuilderRune
import Derived.Shelf.Utf8.AppendRune
import Derived.Lib.RuneBytes
import Derived.BigRegion
import Derived.Deep.CutRange
import Derived.Deep.CutBlock
import Derived.RangeFuncNested
import Derived.RangeFuncBound
import Derived.RangeFuncCalls
import Derived.RangeFuncLeaves
import Derived.RangeFuncBox
import Derived.Shelf.Abstract
import Derived.Shelf.RegionOpen
import Derived.OwnWalkIn
import Derived.TacticsInMore
import Derived.LoopNIn
import Derived.LoopIn
import Derived.Deep.LoopGhost
import Derived.Sort.Grow
import Derived.Shelf.SlSortCmp.NoneTotal
import Derived.Ground.SlsfProg
import Derived.Sort.OwnSorted
import Derived.Laws.Rows
import Derived.Test.YtgnaiahnednllaaGreatPkXD
namespace Go.Proofs.YtgnaiahnednllaaGreat
open Go.RowKit
set_option linter.unusedVariables false
set_option maxRecDepth 20000
attribute [local go_sem] Oper.semAt_some
/-- the step that is gone on from, in its box -/
def AtBox (tb : Nat) (e : SM) (w : World) : Prop := w.heap[tb]? = some (.cells #[.int .i64 (e.node : Int), .string e.pre, .slice e.a e.S.length e.c] 293 (0, 0))
theorem AtBox.kept {tb : Nat} {e : SM} {w w' : World} {row : Option Nat} (h : AtBox tb e w) (hg : w.grownBy w' row) (hr : row ≠ some tb) : AtBox tb e w' :=
  (hg.block tb (Array.getElem?_eq_some_iff.1 h).1 (fun e => hr e.symm)).trans h
theorem AtBox.more {tb : Nat} {e : SM} {w w' : World} (h : AtBox tb e w) (hb : Below w.heap.size w w') : AtBox tb e w' := h.kept (grown_below hb) (by simp)
theorem AtBox.cells {tb : Nat} {e : SM} {w : World} (h : AtBox tb e w) : w.cell? ⟨tb, 0, none⟩ = some (.int .i64 (e.node : Int)) ∧ w.cell? ⟨tb, 1, none⟩ = some (.string e.pre) ∧ w.cell? ⟨tb, 2, none⟩ = some (.slice e.a e.S.length e.c) := by
  simp [World.cell?, show w.heap[tb]? = _ from h]
theorem AtBox.row {tb : Nat} {e : SM} {w w' : World} {base : Nat} {t : TypeId} {size : Nat} {v : Value} {n : Nat} {xs : List Value} (h : AtBox tb e w) (o : w.ownsRow base t size v n xs) (hg : w.grownBy w' v.ownBlock) (ht : t ≠ 293) : AtBox tb e w' :=
  h.kept hg (fun e' => by
    obtain ⟨_, cur, hc⟩ := row_block o e'
    rw [show w.heap[tb]? = _ from h] at hc; cases hc; exact ht rfl)
theorem MarkAt.row {B : Nat} {Ds : List Nat} {w w' : World} {base : Nat} {t : TypeId} {size : Nat} {v : Value} {n : Nat} {xs : List Value} (h : MarkAt B Ds w) (o : w.ownsRow base t size v n xs) (hg : w.grownBy w' v.ownBlock) : MarkAt B Ds w' :=
  h.kept hg (fun r e hm => by
    obtain ⟨_, cur, hc⟩ := row_block o e
    rw [(h.2 r hm).2] at hc; cases hc)
theorem MarkAt.more {B : Nat} {Ds : List Nat} {w w' : World} (h : MarkAt B Ds w) (hb : Below w.heap.size w w') : MarkAt B Ds w' := h.kept (grown_below hb) (fun r e => by cases e)
theorem step_info : (Tryz.prog.info? 293).map (fun i => (i.zero, i.size, i.bytes)) = some (some (.agg #[.int .i64 0, .string ⟨#[]⟩, .slice none 0 0]), 3, 48) := by kernel_rfl
theorem itemW_info : (Tryz.prog.info? 39).map (fun i => (i.zero, i.size, i.bytes)) = some (some (.agg #[.int .i64 0, .string ⟨#[]⟩]), 2, 24) := by kernel_rfl
/-- an edge in its box -/
def EBox (b : Nat) (ed : EdP) (w : World) : Prop := w.heap[b]? = some (.cells #[.int .i32 ed.r, .int .i64 ed.dst] 281 (0, 0))
theorem EBox.cells {b : Nat} {ed : EdP} {w : World} (h : EBox b ed w) : w.cell? ⟨b, 0, none⟩ = some (.int .i32 ed.r) ∧ w.cell? ⟨b, 1, none⟩ = some (.int .i64 ed.dst) := by
  simp [World.cell?, show w.heap[b]? = _ from h]
theorem EBox.kept {b : Nat} {ed : EdP} {w w' : World} {row : Option Nat} (h : EBox b ed w) (hg : w.grownBy w' row) (hr : ∀ r, row = some r → ∃ o : Obj, w.heap[r]? = some o ∧ o.isCells = false) : EBox b ed w' :=
  (hg.block b (Array.getElem?_eq_some_iff.1 h).1 (fun e => by
    obtain ⟨o, ho, hn⟩ := hr b e.symm
    rw [show w.heap[b]? = _ from h] at ho; cases ho; cases hn)).trans h
theorem EBox.more {b : Nat} {ed : EdP} {w w' : World} (h : EBox b ed w) (hb : Below w.heap.size w w') : EBox b ed w' := h.kept (grown_below hb) (fun r e => by cases e)
/-- what a round of the edges' loop keeps -/
structure RI (B : Nat) (w0 : World) (p5 p7 bx : Nat) (k : Int) (q : List Int) (qa : Option Addr) (qn qc : Nat) (oa : Option Addr) (oc : Nat) (out : List KV) (K1 : List SM) (e : SM) (tb : Nat) (Ds : List Nat) (bb : Nat) (ea : Option Addr) (w13 : World) (fam : Nat → Option P4) (pre : List Nat) (sa : Option Addr) (sc : Nat) (Kk : List SM) (W : World) : Prop where
  q : WQ B w0 p5 p7 bx k q qa qn qc oa oc out sa sc (K1 ++ Kk) [e] W
  t : AtBox tb e W
  ne : sa ≠ some ⟨tb, 0, none⟩
  m : MarkAt B Ds W
  kp : KpE bb ea w13 W
  kids : Kk.map plW = pre.filterMap fam
theorem RI.book {B : Nat} {w0 : World} {p5 p7 bx : Nat} {k : Int} {q : List Int} {qa : Option Addr} {qn qc : Nat} {oa : Option Addr} {oc : Nat} {out : List KV} {K1 : List SM} {e : SM} {tb : Nat} {Ds : List Nat} {bb : Nat} {ea : Option Addr} {w13 : World} {fam : Nat → Option P4} {pre : List Nat} {sa : Option Addr} {sc : Nat} {Kk : List SM} {W W' : World} {row : Option Nat}
    (h : RI B w0 p5 p7 bx k q qa qn qc oa oc out K1 e tb Ds bb ea w13 fam pre sa sc Kk W) (hz : B ≤ w13.heap.size) (hD : ∀ D ∈ Ds, D < w13.heap.size) (hbb : bb < w13.heap.size) (hea : ∀ b o, ea = some ⟨b, o, none⟩ → b < w13.heap.size) (hg : W.grownBy W' row) (hr : ∀ r, row = some r → w13.heap.size ≤ r ∧ ∃ o : Obj, W.heap[r]? = some o ∧ o.isCells = false) (hs : w13.heap.size ≤ W.heap.size) :
    RI B w0 p5 p7 bx k q qa qn qc oa oc out K1 e tb Ds bb ea w13 fam pre sa sc Kk W' :=
  ⟨h.q.book hg (fun r e => ⟨Nat.le_trans hz (hr r e).1, (hr r e).2⟩), h.t.kept hg (fun e' => by
      obtain ⟨_, o, ho, hn⟩ := hr tb e'
      rw [show W.heap[tb]? = _ from h.t] at ho; cases ho; cases hn), h.ne, h.m.kept hg (fun r e hm => by have := hD r hm; have := (hr r e).1; omega),
    h.kp.trans (fun i hi => hg.block i (by
      rcases hi with rfl | ⟨o, hi⟩
      · omega
      · have := hea i o hi; omega) (fun e' => by
      have h1 := (hr i e'.symm).1
      rcases hi with rfl | ⟨o, hi⟩
      · omega
      · have := hea i o hi; omega)), h.kids⟩
theorem RI.more {B : Nat} {w0 : World} {p5 p7 bx : Nat} {k : Int} {q : List Int} {qa : Option Addr} {qn qc : Nat} {oa : Option Addr} {oc : Nat} {out : List KV} {K1 : List SM} {e : SM} {tb : Nat} {Ds : List Nat} {bb : Nat} {ea : Option Addr} {w13 : World} {fam : Nat → Option P4} {pre : List Nat} {sa : Option Addr} {sc : Nat} {Kk : List SM} {W W' : World}
    (h : RI B w0 p5 p7 bx k q qa qn qc oa oc out K1 e tb Ds bb ea w13 fam pre sa sc Kk W) (hz : B ≤ w13.heap.size) (hD : ∀ D ∈ Ds, D < w13.heap.size) (hbb : bb < w13.heap.size) (hea : ∀ b o, ea = some ⟨b, o, none⟩ → b < w13.heap.size) (hs : w13.heap.size ≤ W.heap.size) (hb : Below W.heap.size W W') :
    RI B w0 p5 p7 bx k q qa qn qc oa oc out K1 e tb Ds bb ea w13 fam pre sa sc Kk W' := h.book hz hD hbb hea (grown_below hb) (fun r e => by cases e) hs
theorem wk_holdsI {w : World} {base : Nat} {a : Option Addr} {n c : Nat} {rs : List Int} (h : w.ownsRow base 21 1 (.slice a n c) n (runesV rs)) (hn : rs.length = n) : HoldsI .i32 w a n rs := by
  subst hn
  have hv := owns_holds h
  refine ⟨rfl, fun h0 => ?_⟩
  obtain ⟨b, o, e, hc⟩ := hv.2 h0
  exact ⟨b, o, e, fun i hi => by rw [hc i hi, runesV, getD_map_int .i32 rs i hi]⟩
theorem keeps_below {w w' : World} (hb : Below w.heap.size w w') : KeepsOthers w w' := ⟨hb.size, fun k o hk _ => (hb.block k (Array.getElem?_eq_some_iff.1 hk).1).trans hk⟩
theorem RI.push {B : Nat} {w0 : World} {p5 p7 bx : Nat} {k : Int} {q : List Int} {qa : Option Addr} {qn qc : Nat} {oa : Option Addr} {oc : Nat} {out : List KV} {K1 : List SM} {e : SM} {tb : Nat} {Ds : List Nat} {bb : Nat} {ea : Option Addr} {w13 : World} {fam : Nat → Option P4} {pre : List Nat} {sa : Option Addr} {sc : Nat} {Kk : List SM} {W w6 : World} {kn g cap : Nat} {o : Obj}
    (x : Nat) (c : SM) (h : RI B w0 p5 p7 bx k q qa qn qc oa oc out K1 e tb Ds bb ea w13 fam pre sa sc Kk W) (hkn : (K1 ++ Kk).length = kn) (hx : fam x = some (plW c))
    (hke : ∀ i, (i = bb ∨ ∃ o, ea = some ⟨i, o, none⟩) → ∃ cur t fr, w13.heap[i]? = some (.cells cur t fr) ∧ t ≠ 293 ∧ t ≠ 294)
    (hc : W.ownsRow B 330 2 (.slice c.a c.S.length c.c) c.S.length (posV c.S))
    (hown : w6.ownsRow B 293 3 (.slice (some ⟨g, 0, none⟩) (kn + 1) cap) (kn + 1) (smV (K1 ++ Kk) ++ [.int .i64 (c.node : Int), .string c.pre, .slice c.a c.S.length c.c]))
    (hg : (W.alloc o).grownBy w6 (Value.slice sa kn sc).ownBlock) (hat : (Value.slice sa kn sc).ownBlock = some g ∨ g = (W.alloc o).heap.size) :
    Boxed w6 bx 294 (.slice sa kn sc) ∧ KeepsOthers W (w6.setCell ⟨bx, 0, none⟩ (.slice (some ⟨g, 0, none⟩) (kn + 1) cap)) ∧ KpE bb ea W (w6.setCell ⟨bx, 0, none⟩ (.slice (some ⟨g, 0, none⟩) (kn + 1) cap)) ∧ W.heap.size ≤ (w6.setCell ⟨bx, 0, none⟩ (.slice (some ⟨g, 0, none⟩) (kn + 1) cap)).heap.size ∧
      RI B w0 p5 p7 bx k q qa qn qc oa oc out K1 e tb Ds bb ea w13 fam (pre ++ [x]) (some ⟨g, 0, none⟩) cap (Kk ++ [c]) (w6.setCell ⟨bx, 0, none⟩ (.slice (some ⟨g, 0, none⟩) (kn + 1) cap)) := by
  subst hkn
  obtain ⟨h1, h2⟩ := h.q.push c hc hown hg
  have hA := below_one W o
  have hsz : (W.alloc o).heap.size = W.heap.size + 1 := by simp
  have hrow := h.q.s.alloc o
  have hr : ∀ r, (Value.slice sa (K1 ++ Kk).length sc).ownBlock = some r → ∃ cur, (W.alloc o).heap[r]? = some (.cells cur 293 (0, 0)) := fun r e => (row_block hrow e).2
  have htl : tb < W.heap.size := (Array.getElem?_eq_some_iff.1 h.t).1
  have hg2 := grownBy_setCell' w6 bx (.slice (some ⟨g, 0, none⟩) ((K1 ++ Kk).length + 1) cap)
  have hk1 : KeepsOthers (W.alloc o) w6 := KeepsOthers.of_grownBy hg (fun j ob ej hj => by
    obtain ⟨cur, hcur⟩ := hr j ej
    rw [hcur] at hj; cases hj; rfl)
  have hne2 : ∀ r, (Value.slice sa (K1 ++ Kk).length sc).ownBlock = some r → sa = some ⟨r, 0, none⟩ := fun r e => gown_at hrow e.symm
  refine ⟨h1, ((KeepsOthers.alloc W o).trans hk1).trans (KeepsOthers.setCell _ _ _), ?_, Nat.le_trans (by have := hg.size; omega) hg2.size, ⟨?_, ?_, ?_, ?_, ?_, ?_⟩⟩
  · intro i hi
    obtain ⟨cur, t, fr, h3, h4, h5⟩ := hke i hi
    have h6 : W.heap[i]? = some (.cells cur t fr) := (h.kp i hi).trans h3
    have h7 : (W.alloc o).heap[i]? = some (.cells cur t fr) := (hA.block i (Array.getElem?_eq_some_iff.1 h6).1).trans h6
    have h8 : w6.heap[i]? = some (.cells cur t fr) := (hg.block i (Array.getElem?_eq_some_iff.1 h7).1 (fun e => by
      obtain ⟨cur2, hcur⟩ := hr i e.symm
      rw [hcur] at h7; cases h7; exact h4 rfl)).trans h7
    exact ((hg2.block i (Array.getElem?_eq_some_iff.1 h8).1 (fun e => by
      cases e
      rw [show w6.heap[bx]? = _ from h1] at h8; cases h8; exact h5 rfl)).trans h8).trans h6.symm
  · rw [← List.append_assoc]; exact h2
  · have h3 : AtBox tb e w6 := (h.t.more hA).kept hg (fun e' => h.ne (hne2 tb e'))
    refine h3.kept hg2 (fun e' => ?_)
    cases e'
    have h4 : w6.heap[bx]? = some _ := h3
    rw [show w6.heap[bx]? = _ from h1] at h4; cases h4
  · intro e'
    injection e' with e'; injection e' with e'
    subst e'
    rcases hat with hh | hh
    · exact h.ne (hne2 g hh)
    · omega
  · exact ((h.m.more hA).row hrow hg).kept hg2 (fun r e' hm => by
      cases e'
      have := (((h.m.more hA).row hrow hg).2 _ hm).2
      rw [show w6.heap[bx]? = _ from h1] at this; cases this)
  · intro i hi
    obtain ⟨cur, t, fr, h3, h4, h5⟩ := hke i hi
    have h6 : W.heap[i]? = some (.cells cur t fr) := (h.kp i hi).trans h3
    have h7 : (W.alloc o).heap[i]? = some (.cells cur t fr) := (hA.block i (Array.getElem?_eq_some_iff.1 h6).1).trans h6
    have h8 : w6.heap[i]? = some (.cells cur t fr) := (hg.block i (Array.getElem?_eq_some_iff.1 h7).1 (fun e => by
      obtain ⟨cur2, hcur⟩ := hr i e.symm
      rw [hcur] at h7; cases h7; exact h4 rfl)).trans h7
    exact ((hg2.block i (Array.getElem?_eq_some_iff.1 h8).1 (fun e => by
      cases e
      rw [show w6.heap[bx]? = _ from h1] at h8; cases h8; exact h5 rfl)).trans h8).trans h3.symm
  · rw [List.map_append, h.kids, List.filterMap_append]
    simp [hx]
def wFr (p5 p7 bx tb eb : Nat) (U : Nat → Value) : Array Value := #[U 0, U 1, U 2, U 3, U 4, .pointer (some ⟨p5, 0, none⟩), U 6, .pointer (some ⟨p7, 0, none⟩), U 8, U 9, .pointer (some ⟨bx, 0, none⟩), .pointer (some ⟨tb, 0, none⟩), U 12, U 13, U 14, .pointer (some ⟨eb, 0, none⟩), U 16, U 17, U 18, U 19, U 20, U 21, U 22, U 23, U 24, U 25, U 26, U 27, U 28, U 29, U 30, U 31, U 32, U 33, U 34, U 35, U 36, U 37, U 38, U 39, U 40, U 41, U 42, U 43, U 44, U 45, U 46, U 47, U 48, U 49, U 50, U 51, U 52, U 53, U 54, U 55, U 56, U 57, U 58, U 59, U 60, U 61, U 62, U 63, U 64, U 65, U 66, U 67, U 68, U 69, U 70, U 71, U 72, U 73, U 74, U 75, U 76, U 77, U 78, U 79, U 80, U 81, U 82, U 83, U 84, U 85, U 86, U 87, U 88, U 89, U 90, U 91, U 92, U 93, U 94, U 95, U 96, U 97, U 98, U 99, U 100, U 101, U 102, U 103, U 104, U 105, U 106, U 107, U 108]
theorem row_turn {w w' : World} {F : Nat → Prop} {base : Nat} {e : TypeId} {size : Nat} {v : Value} {n : Nat} {xs : List Value} (h : w.ownsRow base e size v n xs) (t : Turn F w w') (hF : ∀ k, F k → ∃ o : Obj, w.heap[k]? = some o ∧ o.isCells = false) : w'.ownsRow base e size v n xs := by
  obtain ⟨h1, h2⟩ := h
  refine ⟨h1, ?_⟩
  rcases h2 with h | ⟨g, cap, cur, hv, hb, hgb, h5⟩
  · exact .inl h
  · exact .inr ⟨g, cap, cur, hv, hb, (t.block g (Array.getElem?_eq_some_iff.1 hgb).1 (fun hf => by
      obtain ⟨o, ho, hc⟩ := hF g hf
      rw [hgb] at ho; cases ho; cases hc)).trans hgb, h5⟩
theorem bod_sub {l : List Tx} {t : Tx} (h : t ∈ bodS l) : t ∈ l := by
  unfold bodS at h
  split at h
  · exact List.mem_of_mem_tail h
  · exact h
def mFr (g : Nat) (s : Tx) (k : Int) (p5 p7 bx : Nat) (oa : Option Addr) (on oc : Nat) (U : Nat → Value) : Array Value := #[.pointer (some ⟨g, 0, none⟩), .string s, .int .i64 k, U 3, U 4, .pointer (some ⟨p5, 0, none⟩), U 6, .pointer (some ⟨p7, 0, none⟩), U 8, .slice oa on oc, .pointer (some ⟨bx, 0, none⟩), U 11, U 12, U 13, U 14, U 15, U 16, U 17, U 18, U 19, U 20, U 21, U 22, U 23, U 24, U 25, U 26, U 27, U 28, U 29, U 30, U 31, U 32, U 33, U 34, U 35, U 36, U 37, U 38, U 39, U 40, U 41, U 42, U 43, U 44, U 45, U 46, U 47, U 48, U 49, U 50, U 51, U 52, U 53, U 54, U 55, U 56, U 57, U 58, U 59, U 60, U 61, U 62, U 63, U 64, U 65, U 66, U 67, U 68, U 69, U 70, U 71, U 72, U 73, U 74, U 75, U 76, U 77, U 78, U 79, U 80, U 81, U 82, U 83, U 84, U 85, U 86, U 87, U 88, U 89, U 90, U 91, U 92, U 93, U 94, U 95, U 96, U 97, U 98, U 99, U 100, U 101, U 102, U 103, U 104, U 105, U 106, U 107, U 108]
set_option maxRecDepth 100000 in
set_option maxHeartbeats 4000000 in
theorem matches_good (g : Nat) (ts : List Tx) (st : List GN) (G : GOk st ts) (Sg : Nat → Prop) (s : Tx) (k : Int) (w : World) (hG : GAt g st w Sg) (hts : ∀ t ∈ ts, 0 ≤ lenS t ∧ lenS t ≤ 12 ∧ t.size ≤ 100) (hn : ts.length ≤ 100) (hs : s.size ≤ 1048576) (ha : 0 ≤ lenS s ∧ lenS s ≤ 16) (hk : 0 ≤ k ∧ k ≤ 4) :
    Calls Tryz.prog 170 #[.pointer (some ⟨g, 0, none⟩), .string s, .int .i64 k] w (RetI w (nearL ts s k)) := by
  have CA := Lib.hid (fun w => asked_lit s true w (by omega) (decide_eq_true ha))
  have CR := Lib.hid (fun w => runes_good s w hs ha.1)
  have hk1 : ¬ k < 0 := by omega
  have hk2 : ¬ 4 < k := by omega
  have GH := Lib.hid hG
  have TH := Lib.hid hts
  have hsz : (runesS s).length ≤ 16 := by
    have := (lenS_pos ha.1).2; omega
  obtain ⟨qn, hqn⟩ : ∃ n, (runesS s).length = n := ⟨_, rfl⟩
  rw [hqn] at hsz CR
  have CS := Lib.hid (fun a c w => start_yes a qn c k w hk)
  refine (callsIn_wide (n := 9)).1 (callsIn_of_wp_marks (F := Fence.wide) Tryz.func170 rfl trivial (wpIn_wide.2 ?_) rfl)
  simp only [Tryz.ntmps170, List.size_toArray, List.length_cons, List.length_nil, Nat.reduceAdd, Nat.reduceSub, Array.replicate_succ, Array.replicate_zero, List.push_toArray, List.append_toArray, List.nil_append, List.cons_append]
  clear hG hts
  have X0 := Lib.hid (Boxed.new w 3 (.int .i64 k))
  have B0 := Lib.hid (below_one w (.cells #[.int .i64 k] 3))
  go_wp2_with fail
  refine (CA.out _).mono ?_
  rintro e w1 ⟨rfl, hb1⟩
  have X1 := Lib.hid (boxed_kept X0.out (grown_below hb1) (fun r e => by cases e))
  have B1 := Lib.hid (B0.out.trans (hb1.mono B0.out.size))
  have c1 := X1.out.cell
  clear hb1 X0 B0
  go_wp2_with fail
  refine (CR.out _).mono ?_
  rintro e w2 ⟨qa, qc, rfl, hq2, hb2, hq3⟩
  have hql : (intsN (runesS s)).length = qn := by rw [intsN_length, hqn]
  rw [hql] at hq2
  have X2 := Lib.hid (boxed_kept X1.out (grown_below hb2) (fun r e => by cases e))
  have B2 := Lib.hid (B1.out.trans (hb2.mono B1.out.size))
  have c2 := X2.out.cell
  have hW2 : w.heap.size ≤ w2.heap.size := B2.out.size
  have Q2 := Lib.hid (hq2.mono' B1.out.size)
  clear hb2 X1 c1 hq2 B1
  have X3 := Lib.hid (X2.out.alloc (.cells #[.slice qa qn qc] 205))
  have Y3 := Lib.hid (Boxed.new w2 205 (.slice qa qn qc))
  have B3 := Lib.hid (B2.out.alloc B2.out.size (.cells #[.slice qa qn qc] 205))
  have Q3 := Lib.hid (Q2.out.alloc (.cells #[.slice qa qn qc] 205))
  have c3 := X3.out.cell
  clear c2 X2 Q2 B2
  go_wp2_with fail
  refine (CS.out _ _ _).mono ?_
  rintro e w3 ⟨sa0, sc0, rfl, ho3, hb3⟩
  go_wp2_with fail
  have B4 := Lib.hid (show Below w.heap.size w w3 from B3.out.trans (hb3.mono B3.out.size))
  obtain ⟨w4, hw4⟩ : ∃ w4, ((w3.alloc (Obj.cells #[Value.int IntKind.i64 0, Value.string { data := #[] }, Value.slice sa0 1 sc0] 293)).alloc (Obj.cells #[Value.slice (some { block := w3.heap.size, off := 0 }) 1 1] 294)) = w4 := ⟨_, rfl⟩
  have Q4 := Lib.hid (show WQ w.heap.size w w.heap.size w2.heap.size (w3.heap.size + 1) k (intsN (runesS s)) qa qn qc none 0 [] (some ⟨w3.heap.size, 0, none⟩) 1 [⟨0, ⟨#[]⟩, ts, [(0, 0)], sa0, sc0⟩] [] w4 from by
    have h35 := boxed_kept X3.out (grown_below hb3) (fun r e => by cases e)
    have h37 := boxed_kept Y3.out (grown_below hb3) (fun r e => by cases e)
    have h3q := row_kept Q3.out (grown_below hb3) (fun r e => by cases e)
    subst hw4
    refine ⟨⟨(B4.out.alloc B4.out.size _).alloc (by have := B4.out.size; simp; omega) _, by have := B4.out.size; simp; omega, (h35.alloc _).alloc _, (h37.alloc _).alloc _, (h3q.alloc _).alloc _, fun e he => ?_⟩, World.ownsRow_nil _ _ _ _, ?_, ?_, by have := B4.out.size; omega⟩
    · simp only [List.append_nil, List.mem_singleton] at he
      subst he
      exact ((ho3.mono' (by have := B3.out.size; simpa using this)).alloc _).alloc _
    · exact ((World.ownsRow_lit w3 #[.int .i64 0, .string ⟨#[]⟩, .slice sa0 1 sc0] 1 (Nat.le_refl _) (by unfold maxLen; omega) rfl).mono' B4.out.size).alloc _
    · have := Boxed.new (w3.alloc (Obj.cells #[Value.int IntKind.i64 0, Value.string { data := #[] }, Value.slice sa0 1 sc0] 293)) 294 (.slice (some ⟨w3.heap.size, 0, none⟩) 1 1)
      simpa using this)
  rw [hw4]
  have hW3 : w.heap.size ≤ w3.heap.size := B4.out.size
  clear hw4 X3 Y3 B3 Q3 c3 hb3 ho3 CA CR CS hk1 hk2 B4 hq3
  refine wp_loop_ghost_k (fun n a wr => ∃ (oa : Option Addr) (oc on : Nat) (out : List KV) (sa : Option Addr) (sc sn : Nat) (K : List SM) (Ds : List Nat) (ds : List Deferred),
    Hid (out.length = on) ∧ Hid (K.length = sn) ∧ Hid (ds = Ds.map markD) ∧ Hid (MarkAt w.heap.size Ds wr) ∧ Hid (WQ w.heap.size w w.heap.size w2.heap.size (w3.heap.size + 1) k (intsN (runesS s)) qa qn qc oa oc out sa sc K [] wr) ∧ Hid (out ++ outW s k K = nearL ts s k) ∧ Hid (∀ e ∈ K, SMOk (restsG st) ts s k e) ∧ Hid (n = muW K ∧ n ≤ 2000) ∧
    a.defers = ds ∧ a.tmps = mFr g s k w.heap.size w2.heap.size (w3.heap.size + 1) oa on oc (fun i => a.tmps.getD i undef)) (wtS ts + 1) ?start ?round
  case start =>
    refine ⟨none, 0, 0, [], some ⟨w3.heap.size, 0, none⟩, 1, 1, [⟨0, ⟨#[]⟩, ts, [(0, 0)], sa0, sc0⟩], [], [], Lib.hid rfl, Lib.hid rfl, Lib.hid rfl, Lib.hid ⟨List.nodup_nil, fun D hD => by cases hD⟩, Q4, Lib.hid ?_, Lib.hid (fun c hc => ?_), Lib.hid ⟨by rw [muW_one], ?_⟩, rfl, rfl⟩
    · rw [outW_one]
      simp only [List.nil_append, subW]
      have he : ∀ t : Tx, (⟨#[]⟩ : ByteArray) ++ t = t := fun t => by apply ByteArray.ext; simp
      simp [he]
    · simp only [List.mem_singleton] at hc
      subst hc
      refine ⟨G.root, ?_, ?_, ?_, fun t ht => ?_, ?_, ?_⟩
      · have h1 := G.node G.root
        have h2 := h1.2.2.ok
        rw [h1.2.1] at h2; exact h2
      · show 0 ≤ lenS (⟨#[]⟩ : Tx); decide
      · show [(0, 0)] = stW s k ⟨#[]⟩
        have h1 := Au.st_zero (intsN (runesS s)) (intsN (runesS (⟨#[]⟩ : Tx))) hk.1
        exact h1.symm
      · have he : (⟨#[]⟩ : ByteArray) ++ t = t := by apply ByteArray.ext; simp
        show (⟨#[]⟩ : ByteArray) ++ t ∈ ts
        rw [he]; exact ht
      · show (⟨#[]⟩ : ByteArray).size ≤ 100; decide
      · show lenS (⟨#[]⟩ : Tx) ≤ 12; decide
    · have := wt_good ts (fun t ht => (TH.out t ht).2.1); omega
  case round =>
    rintro n ⟨tmps, dfs⟩ wr ⟨oa, oc, on, out, sa, sc, sn, K, Ds, ds, hon, hsn, hds, hmk, hQ, hpl, hok, hmu, hdd, htt⟩ J KK hJ hKK
    dsimp only at hdd htt
    subst hdd
    generalize (fun i => tmps.getD i undef) = U at htt
    subst htt
    simp only [mFr]
    have HJ := Lib.hid hJ
    clear hJ
    have c10 := hQ.out.box.cell
    rw [hsn.out] at c10
    by_cases h0 : sn = 0
    · subst h0
      go_wp2_with fail
      have hK0 : K = [] := List.length_eq_zero_iff.1 hsn.out
      have hfin := hpl.out
      rw [hK0, outW_nil, List.append_nil] at hfin
      show LeavesInM Fence.wide 9 Tryz.prog Tryz.f170 _ _ dfs .returning wr
      rw [hds.out]
      refine leaves_marks Ds wr hmk.out (fun w' t hb => ⟨.slice oa on oc, by simp [results, Tryz.f170, go_sem], ?_⟩)
      have ho := row_turn hQ.out.o t (fun k hk => (hb k hk).2)
      rw [hon.out, hfin] at ho
      have hbw := hQ.out.r.b.trans (t.below (fun k hk => (hb k hk).1) hQ.out.r.bl)
      have hlen : (nearL ts s k).length = on := by rw [← hfin]; exact hon.out
      refine ⟨oa, oc, by rw [hlen], ?_, hbw⟩
      rw [hlen]; exact ho
    · obtain ⟨K1, e, rfl⟩ : ∃ K1 e, K = K1 ++ [e] := by
        have hne : K ≠ [] := fun h => h0 (by rw [← hsn.out, h]; rfl)
        exact ⟨K.dropLast, K.getLast hne, (List.dropLast_concat_getLast hne).symm⟩
      obtain ⟨sp, hsa, hsplt, x1, x2, x3⟩ := hQ.out.top
      subst hsa
      obtain ⟨m, hm⟩ : ∃ m, K1.length = m := ⟨_, rfl⟩
      rw [hm] at x1 x2 x3
      have hsm : sn = m + 1 := by have := hsn.out; rw [List.length_append, hm] at this; simpa using this.symm
      have hcap : sn ≤ sc := by
        rcases hQ.out.s.2 with ⟨h3, h4⟩ | ⟨g', cap, cur, h3, h4, h5, h6, h7, h8, h9⟩
        · cases h3
        · injection h3 with h3 h3b h3c
          rw [h3c, ← hsn.out]; exact h6
      have hsn2 : sn ≤ 2000 := by have := muW_len (K1 ++ [e]); have := hmu.out; have := hsn.out; omega
      have i1 : (0 : Int) < (sn : Int) := by omega
      have i2 : IntKind.i64.wrap ((sn : Int) - 1) = (m : Int) := by rw [IntWalk.i64_in _ (by omega)]; omega
      have i3 : (m : Int) < (sn : Int) := by omega
      have i4 : (0 : Int) ≤ (m : Int) := by omega
      have i5 : m ≤ sc := by omega
      have HM := Lib.hid hm
      have HSM := Lib.hid hsm
      have hbx7 := hQ.out.box.alloc (.cells #[.int .i64 (e.node : Int), .string e.pre, .slice e.a e.S.length e.c] 293)
      rw [hsn.out] at hbx7
      have c7 := hbx7.cell
      have f7 := hbx7.frozen
      clear hm hsm hcap h0
      go_upto_region 9 with fail
      obtain ⟨w8, hw8⟩ : ∃ w8, (wr.alloc (.cells #[.int .i64 (e.node : Int), .string e.pre, .slice e.a e.S.length e.c] 293)).setCell ⟨w3.heap.size + 1, 0, none⟩ (.slice (some ⟨sp, 0, none⟩) m sc) = w8 := ⟨_, rfl⟩
      have Q8 := Lib.hid (show WQ w.heap.size w w.heap.size w2.heap.size (w3.heap.size + 1) k (intsN (runesS s)) qa qn qc oa oc out (some ⟨sp, 0, none⟩) sc K1 [e] w8 from by
        have h := (hQ.out.more (below_one wr (.cells #[.int .i64 (e.node : Int), .string e.pre, .slice e.a e.S.length e.c] 293))).pop
        rw [HM.out, hw8] at h; exact h)
      have A8 := Lib.hid (show AtBox wr.heap.size e w8 from by
        rw [← hw8]
        exact AtBox.kept (show AtBox wr.heap.size e (wr.alloc _) from World.alloc_heap_new wr _) (grownBy_setCell' _ _ _) (by have := hQ.out.box.lt; simp; omega))
      have M8 := Lib.hid (show MarkAt w.heap.size Ds w8 from by
        rw [← hw8]
        exact (hmk.out.kept (World.grownBy_alloc wr _ none) (fun r e => by cases e)).kept (grownBy_setCell' _ _ _) (fun r e hm => by
          cases e
          have h1 := (hmk.out.2 _ hm).2
          have h2 := hQ.out.box
          rw [show wr.heap[w3.heap.size + 1]? = _ from h2] at h1; cases h1))
      have hz8 : wr.heap.size < w8.heap.size := by rw [← hw8]; simp
      rw [hw8]
      have HS1 := hok.out e (by simp)
      have hwr : w.heap.size ≤ wr.heap.size := hQ.out.r.bl
      have HE := Lib.hid HS1
      obtain ⟨D, hD⟩ : ∃ D, min (distS e.pre s) (k + 1) = D := ⟨_, rfl⟩
      have hDm : Au.dmin e.S qn k = D := by rw [HS1.st, ← hqn, stW_dist ha.1 HS1.lo hk.1, hD]
      have hPO : PosOk qn k e.S := by
        have h := Au.st_ok (q := intsN (runesS s)) (p := intsN (runesS e.pre)) (j := (runesS e.pre).length) hk.1
        rw [hql] at h
        rw [HS1.st]; exact h
      have hSL : e.S.length ≤ 9 := by
        have h := Au.st_len (q := intsN (runesS s)) (p := intsN (runesS e.pre)) (j := (runesS e.pre).length) (k := k) hk.1
        rw [HS1.st]; unfold stW; omega
      have CD := Lib.hid (dist_any qa qn qc e.a e.S.length e.c e.S k D w8 (HoldsP.own (Q8.out.r.h e (by simp))) hPO hk (by omega) (by omega) hDm)
      obtain ⟨dv, hdv⟩ : ∃ v, Au.telB D k = v := ⟨_, rfl⟩
      obtain ⟨ov, hov⟩ : ∃ v, Au.telO D k = v := ⟨_, rfl⟩
      rw [hdv, hov] at CD
      have b5 := Q8.out.r.c5.cell
      have b7 := Q8.out.r.c7.cell
      obtain ⟨t0, t1, t2⟩ := A8.out.cells
      clear hw8 x1 x2 x3 c7 f7 c10 hbx7 i1 i2 i3 i4 i5 HS1 hDm hPO hQ hmk
      go_upto_region 10 with fail
      refine CD.out.mono ?_
      rintro e9 w9 ⟨rfl, hb9⟩
      have Q9 := Lib.hid (Q8.out.more hb9)
      have A9 := Lib.hid (A8.out.more hb9)
      have M9 := Lib.hid (M8.out.kept (grown_below hb9) (fun r e => by cases e))
      have hz9 : wr.heap.size < w9.heap.size := Nat.lt_of_lt_of_le hz8 hb9.size
      clear hb9 Q8 A8 M8 hz8 b5 b7 t0 t1 t2 CD
      obtain ⟨t0, t1, t2⟩ := A9.out.cells
      have HN := G.node HE.out.at_
      obtain ⟨hk9, hr9, hN9⟩ := HN
      obtain ⟨a1, a2, a3⟩ := has_at hk9
      have hfin := hN9.fin
      rw [hr9] at hfin
      rw [hfin] at a3
      obtain ⟨fv, hfv⟩ : ∃ v, finS e.l = v := ⟨_, rfl⟩
      rw [hfv] at a3
      have CFi := Lib.hid (show ∀ w', Below w.heap.size w w' → Calls Tryz.prog 204 #[.pointer (some ⟨g, 0, none⟩), .int .i64 (e.node : Int)] w' fun e w'' => e = .returned (.bool fv) ∧ w' = w'' from fun w' hb => by
        have h := gFinal_any g st Sg (e.node : Int) w' ((gAt_ok g st).below GH.out hb)
        rw [a3] at h; exact h)
      have SF := Lib.hid (subW_final (s := s) (p := e.pre) (k := k) e.l)
      obtain ⟨tl, htl⟩ : ∃ tl, (if finS e.l = true ∧ 0 ≤ distS e.pre s ∧ distS e.pre s ≤ k then [(distS e.pre s, e.pre)] else []) = tl := ⟨_, rfl⟩
      rw [htl] at SF
      obtain ⟨out2, hout2⟩ : ∃ o, out ++ tl = o := ⟨_, rfl⟩
      obtain ⟨on2, hon2⟩ : ∃ n, out2.length = n := ⟨_, rfl⟩
      have HO2 := Lib.hid hout2; have HON2 := Lib.hid hon2; have HTL := Lib.hid htl; have HDV := Lib.hid hdv; have HOV := Lib.hid hov; have HFV := Lib.hid hfv; have HDD := Lib.hid hD
      have hd0 : 0 ≤ distS e.pre s := by
        unfold distS
        rw [if_pos ⟨HE.out.lo, ha.1⟩]; exact (Ed.L_bd _ _ _ _).1
      have hol : out.length ≤ 100 := by
        have h1 := congrArg List.length hpl.out
        rw [List.length_append] at h1
        have h2 := nearL_len ts s k
        omega
      clear hout2 hon2 htl hdv hov hfv hD hN9 hfin a1 a2 a3 hr9 hk9
      go_upto_region 10 with fail
      obtain ⟨tv, htv⟩ : ∃ b, (ov && fv) = b := ⟨_, rfl⟩
      have HTV := Lib.hid htv
      clear htv
      go_cut [70] from 64 to 69 (fun v wc => v = .bool tv ∧ w9 = wc)
      case first =>
        cases ov with
        | true =>
          go_wp2_with fail
          refine (CFi.out _ Q9.out.r.b).mono ?_
          rintro e10 w10 ⟨rfl, rfl⟩
          go_wp2_with fail
          go_meet
          exact ⟨by rw [← HTV.out]; rfl, rfl⟩
        | false =>
          go_wp2_with fail
          go_meet
          exact ⟨by rw [← HTV.out]; rfl, rfl⟩
      case rest =>
      obtain ⟨rfl, rfl⟩ := hcut
      go_upto_if 70 with fail
      go_cut [9] from 71 to 77 (fun v wc => ∃ (oa2 : Option Addr) (oc2 : Nat), v = .slice oa2 on2 oc2 ∧ Hid (WQ w.heap.size w w.heap.size w2.heap.size (w3.heap.size + 1) k (intsN (runesS s)) qa qn qc oa2 oc2 out2 (some ⟨sp, 0, none⟩) sc K1 [e] wc ∧ AtBox wr.heap.size e wc ∧ MarkAt w.heap.size Ds wc ∧ wr.heap.size < wc.heap.size))
      case first =>
        cases tv with
        | true =>
          obtain ⟨hov1, hfv1⟩ : ov = true ∧ fv = true := by have h := HTV.out; revert h; cases ov <;> cases fv <;> simp
          have hdk : distS e.pre s ≤ k := by
            have h1 : Au.telO D k = true := HOV.out.trans hov1
            have h2 : D ≤ k := of_decide_eq_true h1
            have := HDD.out; omega
          have HDV2 := Lib.hid (show dv = distS e.pre s from by rw [← HDV.out, ← HDD.out, Au.telB_yes (by omega)]; omega)
          have HT2 := Lib.hid (show out2 = out ++ [(dv, e.pre)] from by
            rw [← HO2.out, ← HTL.out, if_pos ⟨HFV.out.trans hfv1, hd0, hdk⟩, HDV2.out])
          obtain ⟨i0, hi, hz0, hz1, hz2⟩ := info_parts itemW_info
          have hon9 := hon.out
          subst hon9
          have q9o := Lib.hid (Q9.out.o.alloc (.cells #[.int .i64 dv, .string e.pre] 39))
          have hbl := Q9.out.r.bl
          clear hov1 hfv1 hdk
          go_wp2_with (at_builtin; refine wpList_append_lies _ rfl (.tmp 71) (.tmp 76) 73 rfl w.heap.size 39 i0 _ 2 24 Tryz.underlying73 hi hz0 hz1 hz2 rfl (by omega) (.slice oa out.length oc) out.length (keysV out) (by rfl) q9o.out ⟨w9.heap.size, 0, none⟩ 1 1 [.int .i64 dv, .string e.pre] (by rfl) (by rfl) (World.news_of_block (cs := #[.int .i64 dv, .string e.pre]) (t := 39) (fr := (0, 0)) (heap_alloc_new w9 _)) (by simp [Value.oneCell']) (by omega) (by unfold maxLen; omega) (by omega) (by simp; omega) (w9.heap.size + 1) (by simp) ?_; intro g3 c3' w11 hown3 hgrow3 hat3 hlt3; have HW := Lib.hid (show WQ w.heap.size w w.heap.size w2.heap.size (w3.heap.size + 1) k (intsN (runesS s)) qa qn qc (some ⟨g3, 0, none⟩) c3' out2 (some ⟨sp, 0, none⟩) sc K1 [e] w11 ∧ AtBox wr.heap.size e w11 ∧ MarkAt w.heap.size Ds w11 ∧ wr.heap.size < w11.heap.size from ⟨by rw [HT2.out]; exact Q9.out.tell (dv, e.pre) hown3 hgrow3, (A9.out.more (below_one w9 _)).row q9o.out hgrow3 (by decide), (M9.out.more (below_one w9 _)).row q9o.out hgrow3, by have := hgrow3.size; simp at this; omega⟩); clear hown3 hgrow3 hat3 hlt3)
          have HL := Lib.hid (show out.length + 1 = on2 from by rw [← HON2.out, HT2.out]; simp)
          go_meet
          exact ⟨_, _, by rw [HL.out], HW⟩
        | false =>
          have HT2 := Lib.hid (show out2 = out from by
            rw [← HO2.out, ← HTL.out, if_neg (fun h => by
              have h1 : ov = true := by rw [← HOV.out, ← HDD.out]; exact Au.telO_yes (by omega)
              have h2 : fv = true := HFV.out.symm.trans h.1
              have h3 := HTV.out
              rw [h1, h2] at h3; cases h3)]; simp)
          have HL := Lib.hid (show on = on2 from by rw [← HON2.out, HT2.out]; exact hon.out.symm)
          have HW := Lib.hid (show WQ w.heap.size w w.heap.size w2.heap.size (w3.heap.size + 1) k (intsN (runesS s)) qa qn qc oa oc out2 (some ⟨sp, 0, none⟩) sc K1 [e] w9 ∧ AtBox wr.heap.size e w9 ∧ MarkAt w.heap.size Ds w9 ∧ wr.heap.size < w9.heap.size from
            ⟨by rw [HT2.out]; exact Q9.out, A9.out, M9.out, hz9⟩)
          go_wp2_with fail
          go_meet
          exact ⟨_, _, by rw [HL.out], HW⟩
      case rest =>
        obtain ⟨oa2, oc2, rfl, HW⟩ := hcut
        obtain ⟨QC0, AC0, MC0, hzc⟩ := HW.out
        have QC := Lib.hid QC0; have AC := Lib.hid AC0; have MC := Lib.hid MC0
        clear HW Q9 A9 M9 CFi t0 t1 t2 hz9 QC0 AC0 MC0
        obtain ⟨t0, t1, t2⟩ := AC.out.cells
        obtain ⟨hk9, hr9, hN9⟩ := G.node HE.out.at_
        obtain ⟨a1, a2, a3⟩ := has_at hk9
        have hed := hN9.ed
        rw [hr9] at hed
        obtain ⟨es, hes⟩ : ∃ b, (st.getD e.node gn0).edges = b := ⟨_, rfl⟩
        rw [hes] at hed a2
        have hfew := G.few _ (show st.getD e.node gn0 ∈ st by rw [List.getD_eq_getElem?_getD, List.getElem?_eq_getElem hk9]; simp)
        rw [hes] at hfew
        have CE := Lib.hid (gEdges_any g st Sg (e.node : Int) wc ((gAt_ok g st).below GH.out QC.out.r.b) (fun x hx => by have := G.few x hx; omega))
        rw [a2] at CE
        obtain ⟨em, hem⟩ : ∃ m, es.length = m := ⟨_, rfl⟩
        rw [hem] at hfew
        have HED := Lib.hid hed; have HEM := Lib.hid hem
        clear a1 a2 a3 hes hed hem hr9 hk9 hN9
        go_wp2_with fail
        refine CE.out.mono ?_
        rintro e12 w12 ⟨ea, ec, rfl, ho12, hb12⟩
        rw [HEM.out] at ho12 ⊢
        have Q12 := Lib.hid (QC.out.more hb12)
        have A12 := Lib.hid (AC.out.more hb12)
        have M12 := Lib.hid (MC.out.more hb12)
        have hz12 : wr.heap.size < w12.heap.size := Nat.lt_of_lt_of_le hzc hb12.size
        have E12 := Lib.hid ho12
        clear ho12 hb12 QC AC MC hzc CE t0 t1 t2
        go_wp2_with fail
        refine (back_any ea em ec w12).mono ?_
        rintro e13 w13 ⟨rfl, rfl⟩
        go_wp2_with fail
        have hBB := Boxed.new w12 277 (.slice ea em ec)
        obtain ⟨w13, hw13⟩ : ∃ w, w12.alloc (.cells #[.slice ea em ec] 277) = w := ⟨_, rfl⟩
        have hb13 : Below w12.heap.size w12 w13 := by rw [← hw13]; exact below_one w12 _
        have hz13 : w13.heap.size = w12.heap.size + 1 := by rw [← hw13]; simp
        have Q13 := Lib.hid (Q12.out.more hb13)
        have A13 := Lib.hid (A12.out.more hb13)
        have M13 := Lib.hid (M12.out.more hb13)
        have E13 := Lib.hid ((HoldsEd.own E12.out).below hb13)
        rw [hw13] at hBB ⊢
        have hbz : w.heap.size ≤ w13.heap.size := Q13.out.r.bl
        have hD13 : ∀ D ∈ Ds, D < w13.heap.size := fun D hD => M13.out.lt hD
        have hea : ∀ b o, ea = some ⟨b, o, none⟩ → b < w13.heap.size := fun b o h => by
          have := (own_blockG E12.out h).2; omega
        have hbb13 : w12.heap.size < w13.heap.size := by omega
        have HKE := Lib.hid (show ∀ i, (i = w12.heap.size ∨ ∃ o, ea = some ⟨i, o, none⟩) → ∃ cur t fr, w13.heap[i]? = some (.cells cur t fr) ∧ t ≠ 293 ∧ t ≠ 294 from fun i hi => by
          rcases hi with rfl | ⟨o2, hi⟩
          · exact ⟨_, _, _, hBB, by decide, by decide⟩
          · have h1 := E12.out.2
            rw [hi] at h1
            rcases h1 with ⟨h1, _⟩ | ⟨gg, cap, cur, h1, h2, h3, _⟩
            · cases h1
            · injection h1 with h1; injection h1 with h1; injection h1 with h1
              subst h1
              exact ⟨_, _, _, (hb13.block _ (Array.getElem?_eq_some_iff.1 h3).1).trans h3, by decide, by decide⟩)
        clear Q12 A12 M12 hw13 hb13
        refine (wpIn_wide (n := 9)).1 ?_
        refine wpIn_rangeFunc_ownH (F := Fence.wide) (n := 9) (α := IdxE em) rfl (by omega) (gf := 243) (lb := #[.pointer (some ⟨w12.heap.size, 0, none⟩)]) rfl trivial (enters_of Tryz.func243 (by kernel_rfl) rfl)
          (back_stops 8 w12.heap.size em ec (by omega) ea es (by omega) w13 hBB.cell E13.out) (fun h k => h.trans k) ?kb (Below.refl _ _) (fun _ => rfl)
          (fun pre W => w13.heap.size ≤ W.heap.size ∧ ∃ (sa' : Option Addr) (sc' : Nat) (Kk : List SM), RI w.heap.size w w.heap.size w2.heap.size (w3.heap.size + 1) k (intsN (runesS s)) qa qn qc oa2 oc2 out2 K1 e wr.heap.size Ds w12.heap.size ea w13 (kidW s k e.pre (bodS e.l) es) (pre.map (·.1)) sa' sc' Kk W)
          (fun _ _ _ => False) ?hI (fun _ _ _ _ _ h _ _ => h) ?h0 (fun x a' W => ∃ Bx, EBox Bx (es.getD x.1 ed0) W ∧ a'.defers = [] ∧ a'.tmps = wFr w.heap.size w2.heap.size (w3.heap.size + 1) wr.heap.size Bx (fun i => a'.tmps.getD i undef)) ?hAx ?assign ?body ?done ?stop
        case kb =>
          intro W l o o' hl ho hn _ i hi
          refine World.putObj_heap_other ?_
          rcases hi with rfl | ⟨o2, hi⟩
          · omega
          · have := hea i o2 hi; omega
        case hI =>
          rintro pre X Y row ⟨hs, sa', sc', Kk, h⟩ hg hr
          exact ⟨Nat.le_trans hs hg.size, sa', sc', Kk, h.book hbz hD13 hbb13 hea hg hr hs⟩
        case h0 =>
          refine ⟨Nat.le_refl _, _, _, [], ⟨by rw [List.append_nil]; exact Q13.out, A13.out, by intro h; injection h with h; injection h with h; omega, M13.out, KpE.refl _ _ _, rfl⟩⟩
        case hAx =>
          rintro x a' _ X Y row ⟨Bx, h, h1, h2⟩ hg hr
          exact ⟨Bx, h.kept hg (fun r e => (hr r e).2), h1, h2⟩
        case assign =>
          rintro l pre x W KQ ⟨hs, sa', sc', Kk, hRR⟩ hK
          dsimp only [encE]
          gi_wp2
          refine hK _ _ ((KeepsOthers.alloc _ _).from _) (fun i hi => (below_one W _).block i (by
            rcases hi with rfl | ⟨o2, hi⟩
            · omega
            · have := hea i o2 hi; omega)) ⟨by simp; omega, sa', sc', Kk, hRR.more hbz hD13 hbb13 hea hs (below_one W _)⟩ ⟨W.heap.size, World.alloc_heap_new W _, ?_, ?_⟩
          · rfl
          · rfl
        case body =>
          rintro l pre x ⟨tmps, dfs2⟩ W hl ⟨r, hr⟩ ⟨hs, sa', sc', Kk, hR⟩ ⟨Bx, hE, hd2, ht2⟩ hlen
          dsimp only at hd2 ht2
          subst hd2
          generalize (fun i => tmps.getD i undef) = V at ht2
          subst ht2
          simp only [wFr]
          have b5 := hR.q.r.c5.cell
          have b7 := hR.q.r.c7.cell
          obtain ⟨t0, t1, t2⟩ := hR.t.cells
          obtain ⟨y0, y1⟩ := hE.cells
          have hxl : x.1 < es.length := by rw [HEM.out]; exact x.2
          obtain ⟨e1, e2, ⟨dn, e3, e4⟩, e5, e6, e7, e8⟩ := edge_at (k := k) (s := s) TH.out HED.out HE.out.ok.run HE.out.ok.bod HE.out.lo (fun t ht => HE.out.sub t (bod_sub ht)) hxl
          have e9 := edge_text HE.out.lo (dropE_run HE.out.ok.run x.1) e1
          have HX := Lib.hid (show kidW s k e.pre (bodS e.l) es x.1 = if stW s k (e.pre ++ Utf8.encode ((folS (dropE x.1 (bodS e.l))).1 : Int)) = [] then none else some (dn, e.pre ++ Utf8.encode ((folS (dropE x.1 (bodS e.l))).1 : Int), (folS (dropE x.1 (bodS e.l))).2, stW s k (e.pre ++ Utf8.encode ((folS (dropE x.1 (bodS e.l))).1 : Int))) from by unfold kidW; rw [e3]; rfl)
          rw [e2] at y0
          rw [e3] at y1
          obtain ⟨lb, hlb⟩ : ∃ v, (folS (dropE x.1 (bodS e.l))).1 = v := ⟨_, rfl⟩
          rw [hlb] at HX y0 e7 e9
          obtain ⟨p2, hp2⟩ : ∃ v, e.pre ++ Utf8.encode (lb : Int) = v := ⟨_, rfl⟩
          rw [hp2] at HX e7 e9
          obtain ⟨S2, hS2⟩ : ∃ v, stW s k p2 = v := ⟨_, rfl⟩
          rw [hS2] at HX
          obtain ⟨L2, hL2⟩ : ∃ v, S2.length = v := ⟨_, rfl⟩
          have CST := Lib.hid (step_lit (intsN (runesS s)) (intsN (runesS p2)) (runesS e.pre).length k qa e.a qn qc e.S.length e.c L2 (lb : Int) e.S S2 W (wk_holdsI hR.q.r.qr hql) (HoldsP.own (hR.q.r.h e (by simp))) hk (by omega)
            (by rw [e9.2]; exact getD_intsR _ _ _) (by rw [e9.2, stW_pre, HE.out.st]) (by rw [← hS2]; unfold stW; rw [e9.2]; simp) hL2)
          have hL9 : L2 ≤ 9 := by
            have h := Au.st_len (q := intsN (runesS s)) (p := intsN (runesS p2)) (j := (runesS p2).length) (k := k) hk.1
            rw [← hL2, ← hS2]; unfold stW; omega
          have HP2 := Lib.hid hp2; have HL2 := Lib.hid hL2; have ER := Lib.hid (e2.trans (by rw [hlb] : ((folS (dropE x.1 (bodS e.l))).1 : Int) = (lb : Int))); have ED := Lib.hid e3
          have hpz : e.pre.size + (Utf8.encode (lb : Int)).size ≤ 100 := by rw [← ByteArray.size_append, hp2]; exact e7
          have HRI := Lib.hid hR
          clear e1 e2 e3 e4 e5 e6 e7 e8 e9 hlb hp2 hS2 hL2 hR
          gi_wp2_with fail
          refine ⟨trivial, (CallsIn.inRound l (callsIn_wide.2 CST.out)).mono ?_⟩
          rintro e14 W2 ⟨a2, c2, rfl, o2, hb2⟩
          have RI2 := Lib.hid (HRI.out.more hbz hD13 hbb13 hea hs hb2)
          have O2 := Lib.hid (o2.mono' (show w.heap.size ≤ W.heap.size by omega))
          have HKE2 := Lib.hid (show KeepsFrom w13.heap.size W W2 ∧ KpE w12.heap.size ea W W2 ∧ W.heap.size ≤ W2.heap.size from ⟨(keeps_below hb2).from _, fun i hi => hb2.block i (by
            rcases hi with rfl | ⟨o3, hi⟩
            · omega
            · have := hea i o3 hi; omega), hb2.size⟩)
          have hE2 := hE.more hb2
          obtain ⟨y0, y1⟩ := hE2.cells
          rw [ER.out] at y0
          rw [ED.out] at y1
          obtain ⟨t0, t1, t2⟩ := RI2.out.t.cells
          have b10 := RI2.out.q.box.cell
          clear hb2 o2 CST HRI hE2
          gi_wp2_with fail
          have CDD := Lib.hid (fun f hf => dead_any a2 L2 c2 f W2 (by omega) hf)
          by_cases h20 : L2 = 0
          · have CD2 := Lib.hid (CDD.out true (decide_eq_true h20))
            have hS0 : S2 = [] := List.length_eq_zero_iff.1 (by rw [HL2.out]; exact h20)
            have HF := Lib.hid (show w13.heap.size ≤ W2.heap.size ∧ ∃ (sa' : Option Addr) (sc' : Nat) (Kk : List SM), RI w.heap.size w w.heap.size w2.heap.size (w3.heap.size + 1) k (intsN (runesS s)) qa qn qc oa2 oc2 out2 K1 e wr.heap.size Ds w12.heap.size ea w13 (kidW s k e.pre (bodS e.l) es) ((pre ++ [x]).map (·.1)) sa' sc' Kk W2 from
              ⟨Nat.le_trans hs HKE2.out.2.2, sa', sc', Kk, ⟨RI2.out.q, RI2.out.t, RI2.out.ne, RI2.out.m, RI2.out.kp, by
                rw [List.map_append, List.filterMap_append, RI2.out.kids]
                simp [HX.out, hS0]⟩⟩)
            clear h20 hS0 CDD
            refine ⟨trivial, (CallsIn.inRound l (callsIn_wide.2 CD2.out)).mono ?_⟩
            rintro e15 W3 ⟨rfl, rfl⟩
            gi_wp2_with fail
            exact ⟨HKE2.out.1, HKE2.out.2.1, HF.out⟩
          · have CD2 := Lib.hid (CDD.out false (decide_eq_false h20))
            have HX3 := Lib.hid (show kidW s k e.pre (bodS e.l) es x.1 = some (plW ⟨dn, p2, (folS (dropE x.1 (bodS e.l))).2, S2, a2, c2⟩) from by
              rw [HX.out, if_neg (fun h => h20 (by rw [← HL2.out, h]; rfl))]; rfl)
            have hkl : Kk.length ≤ em := by
              have h1 := congrArg List.length RI2.out.kids
              rw [List.length_map] at h1
              have h2 := List.length_filterMap_le (kidW s k e.pre (bodS e.l) es) (pre.map (·.1))
              rw [List.length_map] at h2; omega
            obtain ⟨kn, hkn⟩ : ∃ n, (K1 ++ Kk).length = n := ⟨_, rfl⟩
            have hkn3 : kn ≤ 3000 := by rw [← hkn, List.length_append]; have := HM.out; have := HSM.out; omega
            have hrow := RI2.out.q.s
            rw [hkn] at b10 hrow
            have HROW := Lib.hid hrow
            have f10 := RI2.out.q.box.frozen
            have HKN := Lib.hid hkn
            obtain ⟨i0, hi, hz0, hz1, hz2⟩ := info_parts step_info
            have hz22 : w.heap.size ≤ W2.heap.size := RI2.out.q.r.bl
            have hBx2 := lt_of_cell y1
            have htb2 := lt_of_cell t1
            have hbx2 := lt_of_cell b10
            have EL := Lib.hid (show S2.length = L2 from HL2.out)
            clear h20 CDD hkl hkn hrow
            refine ⟨trivial, (CallsIn.inRound l (callsIn_wide.2 CD2.out)).mono ?_⟩
            rintro e15 W3 ⟨rfl, rfl⟩
            gi_wp2_with (gi_at_builtin; refine wpListIn_append_lies _ rfl (.tmp 95) (.tmp 106) 294 rfl w.heap.size 293 i0 _ 3 48 Tryz.underlying294 hi hz0 hz1 hz2 rfl (by omega) (.slice sa' kn sc') kn (smV (K1 ++ Kk)) (by rfl) (HROW.out.alloc _) ⟨W2.heap.size, 0, none⟩ 1 1 [.int .i64 (dn : Int), .string (e.pre ++ Utf8.encode (lb : Int)), .slice a2 L2 c2] (by rfl) (by rfl) (World.news_of_block (cs := #[.int .i64 (dn : Int), .string (e.pre ++ Utf8.encode (lb : Int)), .slice a2 L2 c2]) (t := 293) (fr := (0, 0)) (heap_alloc_new W2 _)) (by simp [Value.oneCell']) (by omega) (by unfold maxLen; omega) (by omega) (by simp; omega) (W2.heap.size + 1) (by simp) ?_; intro g3 c3' w6 hown3 hgrow3 hat3 hlt3; have PU := Lib.hid (RI2.out.push x.1 ⟨dn, p2, (folS (dropE x.1 (bodS e.l))).2, S2, a2, c2⟩ HKN.out HX3.out HKE.out (by have h := O2.out; rw [← EL.out] at h; exact h) (by rw [HP2.out, ← EL.out] at hown3; exact hown3) hgrow3 (hat3.imp id (fun e => by simp; exact e))); have bx6 := PU.out.1.cell; have fx6 := PU.out.1.frozen; clear hown3 hgrow3 hat3 hlt3)
            exact ⟨HKE2.out.1.trans (PU.out.2.1.from _), HKE2.out.2.1.trans PU.out.2.2.1, Nat.le_trans hs (Nat.le_trans HKE2.out.2.2 PU.out.2.2.2.1), _, _, _, by rw [List.map_append]; exact PU.out.2.2.2.2⟩
        case done =>
          rintro D xs W hD hxs ⟨hs, sa', sc', Kk, hR⟩ hDd
          go_wp2_with fail
          have KF := kids_from (R := restsG st) (s := s) (k := k) TH.out HED.out HE.out.ok.run HE.out.ok.bod ha.1 hk.1 HE.out.lo (fun t ht => HE.out.sub t (bod_sub ht)) es.length 0 (by omega)
          have hkd := hR.kids
          rw [hxs] at hkd
          rw [List.drop_zero, HEM.out, ← hkd] at KF
          obtain ⟨f1, f2, f3⟩ := KF
          have f2' : muW Kk ≤ wtS (bodS e.l) := by rw [muW_pl]; exact f2
          have f1' : outW s k Kk = subW e.pre s k (bodS e.l) := by rw [outW_pl]; exact f1
          have hwb := wt_bod e.l
          have hmu1 := hmu.out
          rw [muW_app, muW_one] at hmu1
          have hpl1 := hpl.out
          rw [outW_app, outW_one, SF.out] at hpl1
          refine Handed.intro (muW (K1 ++ Kk)) (by rw [muW_app]; omega) (HJ.out _ _ _ ⟨oa2, oc2, on2, out2, sa', sc', (K1 ++ Kk).length, K1 ++ Kk, D :: Ds, _, HON2, Lib.hid rfl, Lib.hid (by rw [List.map_cons, ← hds.out]; rfl), Lib.hid ⟨List.nodup_cons.2 ⟨fun hm => by have := hD13 D hm; omega, hR.m.1⟩, fun D' hD' => ?_⟩, Lib.hid ⟨hR.q.r.some_ (fun x hx => by simp only [List.append_nil] at hx; exact List.mem_append_left _ hx), hR.q.o, hR.q.s, hR.q.box, hR.q.bxB⟩, Lib.hid ?_, Lib.hid (fun c hc => ?_), Lib.hid ⟨rfl, by rw [muW_app]; omega⟩, rfl, rfl⟩)
          · rcases List.mem_cons.1 hD' with rfl | hD'
            · exact ⟨Nat.le_trans hbz hD, hDd⟩
            · exact hR.m.2 D' hD'
          · rw [← hpl1, ← HO2.out, outW_app, f1']
            simp [List.append_assoc]
          · rcases List.mem_append.1 hc with hc | hc
            · exact hok.out c (List.mem_append_left _ hc)
            · have h9 := f3 (plW c) (List.mem_map_of_mem hc)
              exact ⟨h9.at_, h9.ok, h9.lo, h9.st, h9.sub, h9.sz, h9.len⟩
        case stop =>
          intro D c pre W _ _ h _
          exact h.elim
end Go.Proofs.YtgnaiahnednllaaGreat
namespace Go.Proofs.YtgnaiahnednllaaGreat
open Go.RowKit
set_option linter.unusedVariables false
set_option maxRecDepth 20000
theorem isNaNI_any (x : Int) (w : World) : Calls Tryz.prog 186 #[.int .i64 x] w fun e w' => e = .returned (.bool false) ∧ w = w' := by
  go_enter Tryz.func186, Tryz.ntmps186
  go_wp2
  go_ret
  exact ⟨ret_bool (by simp), rfl⟩
def cmpZ (x y : Int) : Int := if x < y then -1 else if y < x then 1 else 0
theorem compareZ_any (x y : Int) (w : World) : Calls Tryz.prog 134 #[.int .i64 x, .int .i64 y] w fun e w' => e = .returned (.int .i64 (cmpZ x y)) ∧ w = w' := by
  rcases Int.lt_trichotomy x y with h | h | h
  · have hv : cmpZ x y = -1 := by unfold cmpZ; rw [if_pos h]
    have x1 : decide (x < y) = true := decide_eq_true h
    rw [hv]
    go_enter Tryz.func134, Tryz.ntmps134
    go_wp2_with fail
    refine (isNaNI_any x _).mono ?_
    rintro e w' ⟨rfl, rfl⟩
    go_wp2_with fail
    refine (isNaNI_any y _).mono ?_
    rintro e w' ⟨rfl, rfl⟩
    go_wp2_with fail
    go_ret
    exact ⟨rfl, rfl⟩
  · subst h
    have hv : cmpZ x x = 0 := by unfold cmpZ; rw [if_neg (by omega), if_neg (by omega)]
    rw [hv]
    go_enter Tryz.func134, Tryz.ntmps134
    go_wp2_with fail
    refine (isNaNI_any x _).mono ?_
    rintro e w' ⟨rfl, rfl⟩
    go_wp2_with fail
    refine (isNaNI_any x _).mono ?_
    rintro e w' ⟨rfl, rfl⟩
    go_wp2_with fail
    go_ret
    exact ⟨rfl, rfl⟩
  · have hv : cmpZ x y = 1 := by unfold cmpZ; rw [if_neg (by omega), if_pos h]
    have x1 : decide (x < y) = false := decide_eq_false (by omega)
    have x2 : decide (x > y) = true := decide_eq_true h
    rw [hv]
    go_enter Tryz.func134, Tryz.ntmps134
    go_wp2_with fail
    refine (isNaNI_any x _).mono ?_
    rintro e w' ⟨rfl, rfl⟩
    go_wp2_with fail
    refine (isNaNI_any y _).mono ?_
    rintro e w' ⟨rfl, rfl⟩
    go_wp2_with fail
    go_ret
    exact ⟨rfl, rfl⟩
def orZ (x y : Int) : Int := if x = 0 then y else x
theorem or_any (b o : Nat) (x y : Int) (w : World) (h0 : w.cell? ⟨b, o, none⟩ = some (.int .i64 x)) (h1 : w.cell? ⟨b, o + 1, none⟩ = some (.int .i64 y)) :
    Calls Tryz.prog 133 #[.slice (some ⟨b, o, none⟩) 2 2] w fun e w' => e = .returned (.int .i64 (orZ x y)) ∧ w = w' := by
  by_cases hx : x = 0
  · subst hx
    have hv : orZ 0 y = y := rfl
    have x1 : ((0 : Int) != 0) = false := rfl
    rw [hv]
    by_cases hy : y = 0
    · subst hy
      go_enter Tryz.func133, Tryz.ntmps133
      go_wp2_with fail
      go_loop [8] (fun iv => ∃ i : Nat, i ≤ 2 ∧ iv = .int .i64 i) (fun iv => 2 - (intOf iv).toNat)
      case atStart => exact ⟨0, by omega, rfl⟩
      case round =>
        obtain ⟨i, hi, rfl⟩ := hrel
        have hc : i = 0 ∨ i = 1 ∨ i = 2 := by omega
        rcases hc with rfl | rfl | rfl
        · go_wp2_with fail
          go_round
          case rel => exact ⟨1, by omega, by go_num⟩
          case measure => simp [intOf]
        · go_wp2_with fail
          go_round
          case rel => exact ⟨2, by omega, by go_num⟩
          case measure => simp [intOf]
        · go_wp2_with fail
          go_ret
          exact ⟨rfl, rfl⟩
    · have x2 : (y != 0) = true := by simp [hy]
      go_enter Tryz.func133, Tryz.ntmps133
      go_wp2_with fail
      go_loop [8] (fun iv => ∃ i : Nat, i ≤ 1 ∧ iv = .int .i64 i) (fun iv => 2 - (intOf iv).toNat)
      case atStart => exact ⟨0, by omega, rfl⟩
      case round =>
        obtain ⟨i, hi, rfl⟩ := hrel
        have hc : i = 0 ∨ i = 1 := by omega
        rcases hc with rfl | rfl
        · go_wp2_with fail
          go_round
          case rel => exact ⟨1, by omega, by go_num⟩
          case measure => simp [intOf]
        · go_wp2_with fail
          go_ret
          exact ⟨rfl, rfl⟩
  · have x2 : (x != 0) = true := by simp [hx]
    have hv : orZ x y = x := if_neg hx
    rw [hv]
    go_enter Tryz.func133, Tryz.ntmps133
    go_wp2_with fail
    go_loop [8] (fun iv => iv = .int .i64 0) (fun iv => 0)
    case atStart => rfl
    case round =>
      obtain rfl := hrel
      go_wp2_with fail
      go_ret
      exact ⟨rfl, rfl⟩
theorem ordK_or (a b : KV) : ordK a b = orZ (cmpZ a.1 b.1) (cmpS a.2 b.2) := by
  unfold ordK orZ cmpZ
  rcases Int.lt_trichotomy a.1 b.1 with h | h | h
  · simp [h]
  · have h1 : ¬ a.1 < b.1 := by omega
    have h2 : ¬ b.1 < a.1 := by omega
    simp [h1, h2]
  · have h1 : ¬ a.1 < b.1 := by omega
    simp [h, h1]
end Go.Proofs.YtgnaiahnednllaaGreat
namespace Go.Proofs.YtgnaiahnednllaaGreat
open Go.RowKit Go.Sort
set_option linter.unusedVariables false
set_option maxRecDepth 20000
/-- nothing has turned; blocks have been laid, and answers drawn -/
def Grows (w w' : World) : Prop := ∃ q os, w' = grow (w.drewN q) os
theorem Grows.refl (w : World) : Grows w w := ⟨0, #[], by simp [World.drewN]⟩
theorem Grows.drewN {w w' : World} (h : Grows w w') (n : Nat) : Grows w (w'.drewN n) := by
  obtain ⟨q, os, rfl⟩ := h
  refine ⟨q + n, os, ?_⟩
  simp [World.drewN, grow, Nat.add_assoc]
theorem Grows.alloc {w w' : World} (h : Grows w w') (o : Obj) : Grows w (w'.alloc o) := by
  obtain ⟨q, os, rfl⟩ := h
  exact ⟨q, os ++ #[o], by rw [alloc_eq_grow, grow_grow]⟩
theorem Grows.below {w w' : World} (h : Grows w w') : Below w.heap.size w w' := by
  obtain ⟨q, os, rfl⟩ := h
  exact ⟨rfl, rfl, rfl, by simp [grow, World.drewN], fun k hk => heap_grow_old (w.drewN q) os hk⟩
theorem Grows.trans {w w1 w2 : World} (h : Grows w w1) (k : Grows w1 w2) : Grows w w2 := by
  obtain ⟨q, os, rfl⟩ := k
  exact (h.drewN q).elim fun p ⟨os', e⟩ => ⟨p, os' ++ os, by rw [e, grow_grow]⟩
def Box4g (w0 : World) (p q : Nat) (v0 v1 v2 v3 : Value) (w : World) : Prop := Grows w0 w ∧ w.cell? ⟨p, 0, none⟩ = some v0 ∧ w.cell? ⟨p, 1, none⟩ = some v1 ∧ w.cell? ⟨q, 0, none⟩ = some v2 ∧ w.cell? ⟨q, 1, none⟩ = some v3
theorem box4g_carry {w0 w w' : World} {p q : Nat} {v0 v1 v2 v3 : Value} (h : Box4g w0 p q v0 v1 v2 v3 w) (hb : Grows w w') : Box4g w0 p q v0 v1 v2 v3 w' :=
  have hb' := hb.below
  ⟨h.1.trans hb, by rw [hb'.cell (p := ⟨p, 0, none⟩) (lt_of_cell h.2.1)]; exact h.2.1, by rw [hb'.cell (p := ⟨p, 1, none⟩) (lt_of_cell h.2.1)]; exact h.2.2.1, by rw [hb'.cell (p := ⟨q, 0, none⟩) (lt_of_cell h.2.2.2.1)]; exact h.2.2.2.1, by rw [hb'.cell (p := ⟨q, 1, none⟩) (lt_of_cell h.2.2.2.1)]; exact h.2.2.2.2⟩
set_option maxHeartbeats 3200000 in
theorem iorder_grows (a b : KV) (w : World) :
    Calls Tryz.prog 82 #[keyV a, keyV b] w fun e w' => e = .returned (.int .i64 (ordK a b)) ∧ Grows w w' := by
  obtain ⟨a1, a2⟩ := a
  obtain ⟨b1, b2⟩ := b
  have hv := ordK_or (a1, a2) (b1, b2)
  obtain ⟨v, hv2⟩ : ∃ v, ordK (a1, a2) (b1, b2) = v := ⟨_, rfl⟩
  rw [hv2] at hv ⊢
  simp only at hv
  unfold keyV
  simp only
  have C1 := Lib.hid (fun w => compareZ_any a1 b1 w)
  have C2 := Lib.hid (fun w => compare_any a2 b2 w)
  obtain ⟨x, hx⟩ : ∃ x, cmpZ a1 b1 = x := ⟨_, rfl⟩
  obtain ⟨y, hy⟩ : ∃ y, cmpS a2 b2 = y := ⟨_, rfl⟩
  rw [hx] at C1 hv; rw [hy] at C2 hv
  have HV := Lib.hid hv
  clear hv hv2 hx hy
  go_enter Tryz.func82, Tryz.ntmps82
  go_upto_region 1 with fail
  have e0 : ((w.alloc (.cells #[.int .i64 a1, .string a2] 39)).alloc (.cells #[.int .i64 b1, .string b2] 39)).cell? ⟨w.heap.size, 0, none⟩ = some (.int .i64 a1) := by simp
  have e1 : ((w.alloc (.cells #[.int .i64 a1, .string a2] 39)).alloc (.cells #[.int .i64 b1, .string b2] 39)).cell? ⟨w.heap.size, 1, none⟩ = some (.string a2) := by simp
  have e2 : ((w.alloc (.cells #[.int .i64 a1, .string a2] 39)).alloc (.cells #[.int .i64 b1, .string b2] 39)).cell? ⟨w.heap.size + 1, 0, none⟩ = some (.int .i64 b1) := by simp
  have e3 : ((w.alloc (.cells #[.int .i64 a1, .string a2] 39)).alloc (.cells #[.int .i64 b1, .string b2] 39)).cell? ⟨w.heap.size + 1, 1, none⟩ = some (.string b2) := by simp
  have BB := Lib.hid (((Grows.refl w).alloc (.cells #[.int .i64 a1, .string a2] 39)).alloc (.cells #[.int .i64 b1, .string b2] 39))
  generalize (w.alloc (.cells #[.int .i64 a1, .string a2] 39)).alloc (.cells #[.int .i64 b1, .string b2] 39) = w1 at *
  obtain ⟨q, hq⟩ : ∃ q, w.heap.size + 1 = q := ⟨_, rfl⟩
  rw [hq] at e2 e3 ⊢
  have T := Lib.hid (show Box4g w1 w.heap.size q (.int .i64 a1) (.string a2) (.int .i64 b1) (.string b2) w1 from ⟨Grows.refl _, e0, e1, e2, e3⟩)
  clear e0 e1 e2 e3 hq
  go_region_held3 (fun w' => Grows w1 w' ∧ w'.cell? ⟨w.heap.size, 0, none⟩ = some (.int .i64 a1) ∧ w'.cell? ⟨w.heap.size, 1, none⟩ = some (.string a2) ∧ w'.cell? ⟨q, 0, none⟩ = some (.int .i64 b1) ∧ w'.cell? ⟨q, 1, none⟩ = some (.string b2))
    (first | assumption | exact box4g_carry T.out ((Grows.refl _).drewN _) | exact box4g_carry T.out (Grows.refl _).drew | exact box4g_carry (by assumption) ((Grows.refl _).alloc _) | exact box4g_carry (by assumption) (by assumption))
    (first
      | (go_at_call 134; refine (C1.out _).mono ?_; rintro e w' ⟨rfl, rfl⟩)
      | (go_at_call 107; refine (C2.out _).mono ?_; rintro e w' ⟨rfl, rfl⟩)
      | (go_at_call 133; refine (or_any _ _ x y _ (by simp) (by simp)).mono ?_; rintro e w' ⟨rfl, rfl⟩))
  rename_i T5
  obtain ⟨hb5, -⟩ := T5
  go_wp2_with fail
  go_ret
  exact ⟨ret_int HV.out.symm, BB.out.trans hb5⟩
theorem iorder_any (a b : KV) (w : World) :
    Calls Tryz.prog 82 #[keyV a, keyV b] w fun e w' => e = .returned (.int .i64 (ordK a b)) ∧ Below w.heap.size w w' :=
  (iorder_grows a b w).mono fun _ _ h => ⟨h.1, h.2.below⟩
theorem iless_any (a b : KV) (w : World) :
    Calls Tryz.prog 38 #[keyV a, keyV b] w fun e w' => e = .returned (.bool (lessK a b)) ∧ Below w.heap.size w w' := by
  obtain ⟨v, hv⟩ : ∃ v, ordK a b = v := ⟨_, rfl⟩
  have hl : lessK a b = decide (v < 0) := by unfold lessK; rw [hv]
  have O := Lib.hid (fun w => iorder_any a b w)
  rw [hv] at O
  rw [hl]
  clear hl hv
  obtain ⟨a1, a2⟩ := a
  obtain ⟨b1, b2⟩ := b
  unfold keyV at *
  simp only at *
  go_enter Tryz.func38, Tryz.ntmps38
  go_wp2_with fail
  refine (O.out _).mono ?_
  rintro e w' ⟨rfl, hb⟩
  go_wp2_with fail
  go_ret
  exact ⟨rfl, (((Below.refl _ _).alloc (Nat.le_refl _) _).alloc (by simp) _).trans (hb.mono (by simp; omega))⟩
theorem iless_lit (a b : KV) (c : Bool) (w : World) (h : lessK a b = c) :
    Calls Tryz.prog 38 #[keyV a, keyV b] w fun e w' => e = .returned (.bool c) ∧ Below w.heap.size w w' := by subst h; exact iless_any a b w
end Go.Proofs.YtgnaiahnednllaaGreat
namespace Go.Proofs.YtgnaiahnednllaaGreat
open Go.RowKit
set_option linter.unusedVariables false
set_option maxRecDepth 20000
theorem wkI_zero (w : World) : (zeroValue 39).run Tryz.prog w = .ok (.agg #[.int .i64 0, .string ⟨#[]⟩]) w := by kernel_rfl
theorem keysV_setW : ∀ (L : List KV) (i : Nat) (x : KV), i < L.length → ((keysV L).set (i * 2) (.int .i64 x.1)).set (i * 2 + 1) (.string x.2) = keysV (L.set i x)
  | [], i, x, h => by simp at h
  | y :: L, 0, x, h => by simp [keysV]
  | y :: L, i + 1, x, h => by
    have ih := keysV_setW L i x (by simpa using h)
    have e1 : (i + 1) * 2 = i * 2 + 1 + 1 := by omega
    rw [e1]
    simp only [keysV, List.set_cons_succ] at ih ⊢
    simpa [keysV] using ih
theorem keysV_takeW (L : List KV) (k : Nat) : (keysV L).take (k * 2) = keysV (L.take k) := by
  conv => lhs; rw [← List.take_append_drop k L, keysV_app]
  by_cases h : k ≤ L.length
  · rw [List.take_append_of_le_length (by rw [keysV_len, List.length_take]; omega), List.take_of_length_le (by rw [keysV_len, List.length_take]; omega)]
  · rw [List.drop_of_length_le (by omega), List.take_of_length_le (by rw [List.length_append, keysV_len, keysV_len, List.length_take]; simp; omega)]
    simp [keysV]
/-- an item's box -/
def KBox (b : Nat) (x : KV) (w : World) : Prop := w.cell? ⟨b, 0, none⟩ = some (.int .i64 x.1) ∧ w.cell? ⟨b, 1, none⟩ = some (.string x.2)
theorem KBox.more {b B : Nat} {x : KV} {w w' : World} (h : KBox b x w) (hb : Below B w w') (hB : b < B) : KBox b x w' :=
  ⟨by rw [hb.cell (p := ⟨b, 0, none⟩) hB]; exact h.1, by rw [hb.cell (p := ⟨b, 1, none⟩) hB]; exact h.2⟩
/-- the law's own predicate: not behind what came last -/
theorem pred_any (av x : KV) (pb : Nat) (w : World) (h : KBox pb av w) :
    Calls Tryz.prog 172 #[.agg #[.int .i64 x.1, .string x.2], .pointer (some ⟨pb, 0, none⟩)] w fun e w' => e = .returned (.bool (!lessK av x)) ∧ Below w.heap.size w w' := by
  obtain ⟨c, hc⟩ : ∃ c, lessK av x = c := ⟨_, rfl⟩
  have CL := Lib.hid (fun w => iless_lit av x c w hc)
  rw [hc]
  have B1 := Lib.hid (below_one w (.cells #[.int .i64 x.1, .string x.2] 39))
  have hlt := lt_of_cell h.1
  obtain ⟨c0, c1⟩ := h.more B1.out hlt
  have hne : ¬ (pb = w.heap.size) := by omega
  clear hc h
  go_enter Tryz.func172, Tryz.ntmps172
  go_wp2_with fail
  refine (CL.out _).mono ?_
  rintro e w2 ⟨rfl, hb2⟩
  have B2 := Lib.hid (B1.out.trans (hb2.mono B1.out.size))
  clear hb2
  go_wp2_with fail
  go_ret
  exact ⟨rfl, B2.out⟩
set_option maxHeartbeats 1600000 in
theorem indexI_any (a : Option Addr) (n cap : Nat) (l : List KV) (av : KV) (pb : Nat) (w : World) (hh : HoldsK w a n l) (hn : n ≤ 100000) (hb : KBox pb av w) :
    Calls Tryz.prog 221 #[.slice a n cap, .func (.func 172) #[] #[.pointer (some ⟨pb, 0, none⟩)]] w fun e w' => (∃ r : Int, e = .returned (.int .i64 r) ∧ ((r = -1 ∧ ∀ x ∈ l, lessK av x = true) ∨ (∃ i : Nat, r = i ∧ i < n ∧ (∀ x ∈ l.take i, lessK av x = true) ∧ lessK av (l.getD i k0) = false))) ∧ Below w.heap.size w w' := by
  have HL := Lib.hid hh; have LL := Lib.hid hh.len; have HB := Lib.hid hb
  have CP := Lib.hid (fun x w' (h : Below w.heap.size w w') => pred_any av x pb w' (hb.more h (lt_of_cell hb.1)))
  clear hh hb
  go_enter Tryz.func221, Tryz.ntmps221
  go_wp2_with fail
  go_loopw [8] (fun i wr => ∃ (j : Nat), j ≤ n ∧ i = .int .i64 j ∧ Hid (∀ x ∈ l.take j, lessK av x = true) ∧ Hid (Below w.heap.size w wr)) (fun i _ => n - (intOf i).toNat)
  case atStart => exact ⟨0, by omega, rfl, Lib.hid (by simp), Lib.hid (Below.refl _ _)⟩
  case round =>
    obtain ⟨j, hj, rfl, hA, hB⟩ := hrel
    by_cases hlt : j < n
    · obtain ⟨b, o, rfl, hc⟩ := (HL.out.below hB.out).at (by omega)
      obtain ⟨x0, x1⟩ := hc j hlt
      have htk := take_succ_getD l k0 j (by have := LL.out; omega)
      obtain ⟨x, hx⟩ : ∃ x, l.getD j k0 = x := ⟨_, rfl⟩
      rw [hx] at x0 x1 htk
      have n1 : (0 : Int) ≤ (j : Int) := by omega
      have n2 : (j : Int) < (n : Int) := by omega
      obtain ⟨c, hcx⟩ : ∃ c, lessK av x = c := ⟨_, rfl⟩
      have CPx := Lib.hid (CP.out x wr hB.out)
      rw [hcx] at CPx
      have HX := Lib.hid hx; have HT := Lib.hid htk; have HC := Lib.hid hcx
      clear hc hx htk hcx
      go_wp2_with fail
      refine CPx.out.mono ?_
      rintro e w2 ⟨rfl, hb2⟩
      have B2 := Lib.hid (hB.out.trans (hb2.mono hB.out.size))
      clear hb2
      cases c with
      | true =>
        have A2 := Lib.hid (show ∀ y ∈ l.take (j + 1), lessK av y = true from by
          rw [HT.out]
          intro y hy
          rcases List.mem_append.1 hy with hy | hy
          · exact hA.out y hy
          · simp only [List.mem_singleton] at hy; subst hy; exact HC.out)
        go_wp2_with fail
        go_roundw
        case rel => exact ⟨j + 1, by omega, by go_num, A2, B2⟩
        case measure => simp [intOf] <;> omega
      | false =>
        go_wp2_with fail
        go_ret
        exact ⟨⟨(j : Int), rfl, .inr ⟨j, rfl, hlt, hA.out, by rw [HX.out]; exact HC.out⟩⟩, B2.out⟩
    · obtain rfl : j = n := by omega
      go_wp2_with fail
      go_ret
      refine ⟨⟨-1, rfl, .inl ⟨rfl, ?_⟩⟩, hB.out⟩
      have h := hA.out
      rwa [List.take_of_length_le (by have := LL.out; omega)] at h
end Go.Proofs.YtgnaiahnednllaaGreat
namespace Go.Proofs.YtgnaiahnednllaaGreat
open Go.RowKit
set_option linter.unusedVariables false
set_option maxRecDepth 20000
theorem set_shift {l R K : List KV} {x : KV} {i j n : Nat} (hR : R.length = n) (h1 : R.take i = K) (h2 : R.drop j = l.drop j) (hij : i < j) (hj : j < n) : (R.set i x).take (i + 1) = K ++ [x] ∧ (R.set i x).drop (j + 1) = l.drop (j + 1) := by
  have hi : (R.set i x)[i]? = some x := by rw [List.getElem?_set_self (by omega)]
  refine ⟨?_, ?_⟩
  · rw [List.take_add_one, hi, List.take_set, List.set_eq_of_length_le (by simp; omega), h1]; rfl
  · rw [List.drop_set, if_pos (by omega)]
    have h3 := congrArg (List.drop 1) h2
    rwa [List.drop_drop, List.drop_drop, Nat.add_comm j 1, Nat.add_comm 1 j] at h3
theorem filter_first {l : List KV} {p : KV → Bool} {i : Nat} (h : ∀ x ∈ l.take i, p x = true) (hi : i < l.length) (hp : p (l.getD i k0) = false) : (l.take (i + 1)).filter p = l.take i := by
  rw [take_succ_getD l k0 i hi, List.filter_append, List.filter_eq_self.2 h]
  simp only [List.filter_cons, List.filter_nil, hp]
  simp
theorem zero_len (x y : Value) (n : Nat) : (Builtin.zeroCells (Value.agg #[x, y]).cells n).toList.length = n * 2 := by
  simp [Builtin.zeroCells, Value.cells]
theorem zero_one (n : Nat) : ∀ u ∈ (Builtin.zeroCells (Value.agg #[.int .i64 0, .string ⟨#[]⟩]).cells n).toList, u.oneCell' = true := by
  intro u hu
  simp only [Builtin.zeroCells, Value.cells, Array.toList_map, List.mem_map] at hu
  obtain ⟨i, _, rfl⟩ := hu
  have h2 : i % 2 = 0 ∨ i % 2 = 1 := by omega
  rcases h2 with h2 | h2 <;> simp [h2, Value.oneCell']
set_option maxHeartbeats 3200000 in
set_option maxRecDepth 100000 in
theorem delFuncI_any (B : Nat) (a : Option Addr) (n cap : Nat) (l : List KV) (av : KV) (pb : Nat) (w : World) (own : w.ownsRow B 39 2 (.slice a n cap) n (keysV l)) (hB : B ≤ w.heap.size) (hn : n ≤ 100000) (hb : KBox pb av w) (hpb : pb < B) :
    Calls Tryz.prog 171 #[.slice a n cap, .func (.func 172) #[] #[.pointer (some ⟨pb, 0, none⟩)]] w fun e w' => ∃ m, e = .returned (.slice a m cap) ∧ (l.filter (lessK av)).length = m ∧ w'.ownsRow B 39 2 (.slice a m cap) m (keysV (l.filter (lessK av))) ∧ Below B w w' := by
  have hll : l.length = n := by have := own.1; rw [keysV_len] at this; omega
  have CI := Lib.hid (indexI_any a n cap l av pb w (HoldsK.own own) hn hb)
  have O0 := Lib.hid own; have HB := Lib.hid hb; have LL := Lib.hid hll
  clear own hb hll
  go_enter Tryz.func171, Tryz.ntmps171
  go_wp2_with fail
  refine CI.out.mono ?_
  rintro e w1 ⟨⟨r, rfl, hr⟩, hb1⟩
  have O1 := Lib.hid (owns_below O0.out hb1)
  have B1 := Lib.hid (hb1.mono hB)
  have hz1 : w.heap.size ≤ w1.heap.size := hb1.size
  clear hb1 CI
  rcases hr with ⟨rfl, hall⟩ | ⟨i, rfl, hin, hpre, hno⟩
  · have HF := Lib.hid (List.filter_eq_self.2 hall)
    clear hall
    go_wp2_with fail
    go_ret
    refine ⟨n, rfl, by rw [HF.out]; exact LL.out, by rw [HF.out]; exact O1.out, B1.out⟩
  · obtain ⟨g, rfl⟩ : ∃ g, a = some ⟨g, 0, none⟩ := by
      obtain ⟨g, cap', hv⟩ := Joins.ownsRow_form O1.out (by omega)
      simp only [Value.slice.injEq] at hv
      exact ⟨g, hv.1⟩
    have hnc : n ≤ cap := by
      rcases O1.out.2 with ⟨e1, _⟩ | ⟨g', cap', cur, hv, hb, hh, hc, hc2, hs, hx⟩
      · cases e1
      · simp only [Value.slice.injEq] at hv
        omega
    have HP := Lib.hid (show (l.take (i + 1)).filter (lessK av) = l.take i from filter_first hpre (by have := LL.out; omega) hno)
    have hne : ¬ ((i : Int) = -1) := by omega
    have hq1 : ((i : Int) == -1) = false := by simp
    have hi0 : (0 : Int) ≤ (i : Int) := by omega
    clear hpre hno
    go_wp2_with fail
    go_loopw [5, 6] (fun iv jv wr => ∃ (i' j : Nat) (R : List KV), j ≤ n ∧ i' < j ∧ iv = .int .i64 i' ∧ jv = .int .i64 j ∧ Hid (wr.ownsRow B 39 2 (.slice (some ⟨g, 0, none⟩) n cap) n (keysV R)) ∧ Hid (R.length = n) ∧ Hid (R.take i' = (l.take j).filter (lessK av)) ∧ Hid (R.drop j = l.drop j) ∧ Hid (Below B w wr)) (fun _ jv _ => n - (intOf jv).toNat)
    case atStart => exact ⟨i, i + 1, l, by omega, by omega, rfl, by go_num, O1, LL, Lib.hid HP.out.symm, Lib.hid rfl, B1⟩
    case round =>
      obtain ⟨i', j, R, hj, hij, rfl, rfl, hO, hRL, hT, hD, hBw⟩ := hrel
      by_cases hlt : j < n
      · have hRj : R.getD j k0 = l.getD j k0 := by
          have h1 := congrArg (fun L : List KV => L.getD 0 k0) hD.out
          simpa [List.getD_eq_getElem?_getD] using h1
        have hc := hO.out.cellAt (j * 2) (by omega)
        have hc1 := hO.out.cellAt (j * 2 + 1) (by omega)
        obtain ⟨v1, v2⟩ := keysV_at R j (by have := hRL.out; omega)
        rw [v1] at hc
        rw [v2] at hc1
        rw [hRj] at hc hc1
        have htk := take_succ_getD l k0 j (by have := LL.out; omega)
        obtain ⟨x, hx⟩ : ∃ x, l.getD j k0 = x := ⟨_, rfl⟩
        rw [hx] at hc hc1 htk
        obtain ⟨c, hcx⟩ : ∃ c, lessK av x = c := ⟨_, rfl⟩
        have hbz : B ≤ wr.heap.size := by have := hBw.out.size; omega
        have BX := Lib.hid (below_one wr (.cells #[.int .i64 x.1, .string x.2] 39))
        have CPx := Lib.hid (pred_any av x pb (wr.alloc (.cells #[.int .i64 x.1, .string x.2] 39)) ((HB.out.more hBw.out hpb).more BX.out (by omega)))
        rw [hcx] at CPx
        have XB := Lib.hid (show KBox wr.heap.size x (wr.alloc (.cells #[.int .i64 x.1, .string x.2] 39)) from ⟨by rw [World.cell?_alloc_mark]; rfl, by rw [World.cell?_alloc_mark]; rfl⟩)
        have HT2 := Lib.hid (show (l.take (j + 1)).filter (lessK av) = R.take i' ++ (if c = true then [x] else []) from by
          rw [htk, List.filter_append, hT.out]
          simp only [List.filter_cons, List.filter_nil, hcx])
        have n1 : (0 : Int) ≤ (j : Int) := by omega
        have n2 : (j : Int) < (n : Int) := by omega
        have n3 : (0 : Int) ≤ (i' : Int) := by omega
        have n4 : (i' : Int) < (n : Int) := by omega
        clear v1 v2 hRj htk hx hcx
        go_wp2_with fail
        refine CPx.out.mono ?_
        rintro e w2 ⟨rfl, hb2⟩
        have B2 := Lib.hid (((hBw.out.trans (BX.out.mono hbz))).trans (hb2.mono (by have := BX.out.size; omega)))
        have O2 := Lib.hid (owns_below (owns_below hO.out BX.out) hb2)
        obtain ⟨x0, x1⟩ := XB.out.more hb2 (by simp)
        clear hb2 CPx BX XB hc hc1
        cases c with
        | true =>
          obtain ⟨u, hu⟩ : ∃ u, (keysV R)[i' * 2]? = some u := ⟨_, List.getElem?_eq_getElem (by rw [keysV_len]; have := hRL.out; omega)⟩
          obtain ⟨u1, hu1⟩ : ∃ u, (keysV R)[i' * 2 + 1]? = some u := ⟨_, List.getElem?_eq_getElem (by rw [keysV_len]; have := hRL.out; omega)⟩
          have hc := O2.out.cellAt (i' * 2) (by omega)
          have hc1 := O2.out.cellAt (i' * 2 + 1) (by omega)
          rw [hu] at hc
          rw [hu1] at hc1
          have hf := O2.out.frozenAt (i' * 2)
          have hf1 := O2.out.frozenAt (i' * 2 + 1)
          have hst := ((O2.out.stored (i' * 2) (.int .i64 x.1)).1.stored (i' * 2 + 1) (.string x.2)).1
          rw [keysV_setW R i' x (by have := hRL.out; omega)] at hst
          have O3 := Lib.hid hst
          have B3 := Lib.hid ((B2.out.setCell (p := ⟨g, i' * 2, none⟩) (O2.out.lt g rfl).1 (.int .i64 x.1)).setCell (p := ⟨g, i' * 2 + 1, none⟩) (O2.out.lt g rfl).1 (.string x.2))
          have SH := Lib.hid (set_shift (x := x) hRL.out rfl hD.out hij hlt)
          have n5 : IntKind.i64.wrap ((i' : Int) + 1) = (i' : Int) + 1 := IntWalk.i64_in _ (by omega)
          clear hst hu hu1 O2 B2
          go_wp2_with fail
          go_roundw
          case rel => exact ⟨i' + 1, j + 1, R.set i' x, by omega, by omega, by go_num, by go_num, O3, Lib.hid (by rw [List.length_set]; exact hRL.out), Lib.hid (by rw [SH.out.1, HT2.out]; rfl), Lib.hid SH.out.2, B3⟩
          case measure => simp [intOf] <;> omega
        | false =>
          have HD2 := Lib.hid (show R.drop (j + 1) = l.drop (j + 1) from by
            have h3 := congrArg (List.drop 1) hD.out
            rwa [List.drop_drop, List.drop_drop] at h3)
          go_wp2_with fail
          go_roundw
          case rel => exact ⟨i', j + 1, R, by omega, by omega, rfl, by go_num, O2, hRL, Lib.hid (by rw [HT2.out]; simp), HD2, B2⟩
          case measure => simp [intOf] <;> omega
      · obtain rfl : j = n := by omega
        have hT2 := hT.out
        rw [List.take_of_length_le (show l.length ≤ j by have := LL.out; omega)] at hT2
        have hil : (l.filter (lessK av)).length = i' := by rw [← hT2, List.length_take]; have := hRL.out; omega
        obtain ⟨zs, hzs⟩ : ∃ zs, (Builtin.zeroCells (Value.agg #[.int .i64 0, .string ⟨#[]⟩]).cells (j - i')).toList = zs := ⟨_, rfl⟩
        have hzl : zs.length = (j - i') * 2 := by rw [← hzs]; exact zero_len _ _ _
        have hz1c : ∀ u ∈ zs, u.oneCell' = true := by rw [← hzs]; exact zero_one _
        have hcl : ∀ ty, (Builtin.clear_ #[73] ty #[.slice (some ⟨g, i' * 2, none⟩) (j - i') (cap - i')]).run Tryz.prog wr = .ok (.tuple #[]) (wr.setCells g (i' * 2) zs) := fun ty =>
          run_clear_many wr _ _ ty _ Tryz.underlying73 wkI_zero g _ (j - i') _ (by omega) zs hzs hz1c (fun t ht => by
            rw [hO.out.cellAt _ (by omega), List.getElem?_eq_getElem (by rw [hO.out.1]; omega)]; rfl) (fun t _ => hO.out.frozenAt _)
        have R2 := owns_setCells (g := g) zs (i' * 2) wr _ hO.out (by omega)
        have R3 := owns_fewer R2.1 (show i' ≤ j by omega)
        rw [ow_take _ _ _ (by rw [keysV_len]; have := hRL.out; omega), keysV_takeW, hT2] at R3
        have FIN := Lib.hid R3
        have BF := Lib.hid (hBw.out.grown R2.2 (by have := hBw.out.size; omega) (fun k e => by cases e; exact (hO.out.lt g rfl).1))
        have HIL := Lib.hid hil
        have hic : i' ≤ cap := by omega
        have hca : ¬ (cap = i') := by omega
        have hij2 : i' ≤ j := by omega
        clear R2 R3 hzs hzl hz1c hil hT2
        go_wp2_with fail
        go_ret
        exact ⟨i', rfl, HIL.out, FIN.out, BF.out⟩
end Go.Proofs.YtgnaiahnednllaaGreat
namespace Go.Proofs.YtgnaiahnednllaaGreat
open Go.Shelf Go.RowKit
def Tryz.sortI_ren : Go.Shelf.Ren := ⟨fun | 6 => 81 | 15 => 132 | 14 => 131 | 28 => 184 | 29 => 185 | 20 => 176 | 21 => 177 | 22 => 178 | 23 => 179 | 24 => 180 | 25 => 181 | 26 => 182 | 27 => 183 | 46 => 224 | 47 => 225 | 48 => 226 | 49 => 227 | 50 => 228 | 57 => 248 | n => n, fun | 22 => 73 | 24 => 39 | 25 => 150 | 3 => 3 | 39 => 151 | 0 => 0 | 53 => 257 | 55 => 213 | 4 => 4 | 46 => 251 | 45 => 250 | 50 => 147 | 5 => 5 | 9 => 9 | 66 => 304 | 70 => 308 | 76 => 337 | 77 => 338 | n => n, fun | n => n⟩
theorem Tryz.sortI : Go.Proofs.SlLaysF0.n6 Tryz.prog Tryz.sortI_ren := {
  mixed := by kernel_rfl
  f6 := ⟨Tryz.f81.name, by decide, Tryz.func81.trans (congrArg some (by kernel_rfl))⟩
  f14 := ⟨Tryz.f131.name, by decide, Tryz.func131.trans (congrArg some (by kernel_rfl))⟩
  f15 := Tryz.func132.trans (congrArg some (by kernel_rfl))
  f20 := ⟨Tryz.f176.name, by decide, Tryz.func176.trans (congrArg some (by kernel_rfl))⟩
  f21 := ⟨Tryz.f177.name, by decide, Tryz.func177.trans (congrArg some (by kernel_rfl))⟩
  f22 := ⟨Tryz.f178.name, by decide, Tryz.func178.trans (congrArg some (by kernel_rfl))⟩
  f23 := ⟨Tryz.f179.name, by decide, Tryz.func179.trans (congrArg some (by kernel_rfl))⟩
  f24 := ⟨Tryz.f180.name, by decide, Tryz.func180.trans (congrArg some (by kernel_rfl))⟩
  f25 := ⟨Tryz.f181.name, by decide, Tryz.func181.trans (congrArg some (by kernel_rfl))⟩
  f26 := ⟨Tryz.f182.name, by decide, Tryz.func182.trans (congrArg some (by kernel_rfl))⟩
  f27 := ⟨Tryz.f183.name, by decide, Tryz.func183.trans (congrArg some (by kernel_rfl))⟩
  f28 := Tryz.func184.trans (congrArg some (by kernel_rfl))
  f29 := Tryz.func185.trans (congrArg some (by kernel_rfl))
  f46 := ⟨Tryz.f224.name, by decide, Tryz.func224.trans (congrArg some (by kernel_rfl))⟩
  f47 := Tryz.func225.trans (congrArg some (by kernel_rfl))
  f48 := Tryz.func226.trans (congrArg some (by kernel_rfl))
  f49 := ⟨Tryz.f227.name, by decide, Tryz.func227.trans (congrArg some (by kernel_rfl))⟩
  f50 := ⟨Tryz.f228.name, by decide, Tryz.func228.trans (congrArg some (by kernel_rfl))⟩
  f57 := ⟨Tryz.f248.name, by decide, Tryz.func248.trans (congrArg some (by kernel_rfl))⟩
  t0 := Tryz.underlying0
  a0 := Tryz.isAgg0
  z0 := Tryz.sizeOf0
  v0 := Tryz.zeroValue0
  t3 := Tryz.underlying3
  a3 := Tryz.isAgg3
  z3 := Tryz.sizeOf3
  v3 := Tryz.zeroValue3
  t4 := Tryz.underlying4
  a4 := Tryz.isAgg4
  z4 := Tryz.sizeOf4
  v4 := Tryz.zeroValue4
  t5 := Tryz.underlying5
  a5 := Tryz.isAgg5
  z5 := Tryz.sizeOf5
  v5 := Tryz.zeroValue5
  t9 := Tryz.underlying9
  a9 := Tryz.isAgg9
  z9 := Tryz.sizeOf9
  v9 := Tryz.zeroValue9
  t22 := Tryz.underlying73
  a22 := Tryz.isAgg73
  z22 := Tryz.sizeOf73
  v22 := Tryz.zeroValue73
  t25 := Tryz.underlying150
  a25 := Tryz.isAgg150
  z25 := Tryz.sizeOf150
  v25 := Tryz.zeroValue150
  t39 := Tryz.underlying151
  a39 := Tryz.isAgg151
  z39 := Tryz.sizeOf151
  v39 := Tryz.zeroValue151
  t45 := Tryz.underlying250
  a45 := Tryz.isAgg250
  z45 := Tryz.sizeOf250
  v45 := Tryz.zeroValue250
  t46 := Tryz.underlying251
  a46 := Tryz.isAgg251
  z46 := Tryz.sizeOf251
  v46 := Tryz.zeroValue251
  t50 := Tryz.underlying147
  a50 := Tryz.isAgg147
  z50 := Tryz.sizeOf147
  v50 := Tryz.zeroValue147
  t53 := Tryz.underlying257
  a53 := Tryz.isAgg257
  z53 := Tryz.sizeOf257
  v53 := Tryz.zeroValue257
  t55 := Tryz.underlying213
  a55 := Tryz.isAgg213
  z55 := Tryz.sizeOf213
  v55 := Tryz.zeroValue213
  t66 := Tryz.underlying304
  a66 := Tryz.isAgg304
  z66 := Tryz.sizeOf304
  v66 := Tryz.zeroValue304
  t70 := Tryz.underlying308
  a70 := Tryz.isAgg308
  z70 := Tryz.sizeOf308
  v70 := Tryz.zeroValue308
  t76 := Tryz.underlying337
  a76 := Tryz.isAgg337
  z76 := Tryz.sizeOf337
  v76 := Tryz.zeroValue337
  t77 := Tryz.underlying338
  a77 := Tryz.isAgg338
  z77 := Tryz.sizeOf338
  v77 := Tryz.zeroValue338 }
end Go.Proofs.YtgnaiahnednllaaGreat
namespace Go.Proofs.YtgnaiahnednllaaGreat
open Go.RowKit Go.Shelf Go.Sort Go.Lib
set_option linter.unusedVariables false
set_option maxRecDepth 20000
def encI (x : KV) : List Value := [.int .i64 x.1, .string x.2]
instance : Inhabited KV := ⟨k0⟩
theorem keysV_get (ks : List KV) (t : Nat) (h : t < ks.length * 2) : (keysV ks).toArray[t]! = (encI (ks.toArray[t / 2]!))[t % 2]! := by
  have hi : t / 2 < ks.length := by omega
  obtain ⟨e0, e1⟩ := keysV_at ks (t / 2) hi
  have hk : ks.toArray[t / 2]! = ks.getD (t / 2) k0 := by
    rw [getElem!_pos ks.toArray (t / 2) (by simpa using hi)]; simp [List.getD_eq_getElem?_getD, hi]
  have hl : t < (keysV ks).length := by rw [keysV_len]; exact h
  rw [hk, getElem!_pos (keysV ks).toArray t (by simpa using hl)]
  have hg : (keysV ks)[t]? = some ((keysV ks)[t]'hl) := List.getElem?_eq_getElem hl
  rcases Nat.mod_two_eq_zero_or_one t with m | m
  · rw [show t / 2 * 2 = t by omega] at e0
    rw [e0] at hg
    rw [m]; simpa [encI] using (Option.some.inj hg).symm
  · rw [show t / 2 * 2 + 1 = t by omega] at e1
    rw [e1] at hg
    rw [m]; simpa [encI] using (Option.some.inj hg).symm
theorem flat_keys (ks : List KV) : flatK encI 2 ks.toArray = (keysV ks).toArray := by
  refine ext_get! (by simp [keysV_len]) fun t ht => ?_
  have ht' : t < ks.length * 2 := by simpa using ht
  rw [get_flatK encI 2 ks.toArray t (by simpa using ht'), keysV_get ks t ht']
theorem swoI : SWO (ltOf ordK) := {
  irrefl x := by unfold ltOf; rw [decide_eq_false_iff_not]; exact ordK_irrefl _
  trans x y z h1 h2 := by unfold ltOf at *; rw [decide_eq_true_iff] at *; exact ordK_trans h1 h2
  ntrans x y z h1 h2 := by
    unfold ltOf at *
    rw [decide_eq_false_iff_not] at *
    exact ordK_le_trans h2 h1 }
theorem totI (x y : KV) (h1 : ltOf ordK x y = false) (h2 : ltOf ordK y x = false) : x = y := by
  unfold ltOf at *
  rw [decide_eq_false_iff_not] at *
  exact leK_asymm h2 h1
theorem cmpI_lays (blk off size : Nat) (w : World) : CmpLays Tryz.prog 82 #[] encI 2 ordK blk off size w := by
  intro m os dk hs x y
  refine (iorder_grows x y _).mono ?_
  rintro e w' ⟨rfl, q, os', rfl⟩
  exact ⟨rfl, q, os', rfl⟩
theorem isAggI (w : World) : (isAgg 39).run Tryz.prog w = .ok true w := by kernel_rfl
theorem sizeI (w : World) : (Go.sizeOf 39).run Tryz.prog w = .ok 2 w := by kernel_rfl
theorem heap_sortedK {w : World} {g n : Nat} {os : Array Obj} {cur : Array Value} {e : TypeId} {fr : Nat × Nat} (d : Array Value) (hb : w.heap[g]? = some (.cells cur e fr)) :
    (grow (putRow id (Sort.ahead w n) g 0 d) os).heap[g]? = some (.cells (putCells id 0 d cur) e fr) := by
  have hg : g < w.heap.size := (Array.getElem?_eq_some_iff.1 hb).1
  rw [heap_grow_old _ _ (by simpa using hg)]
  simp [putRow, mapBlock, Sort.ahead, Array.getElem?_modify, hb, onCells]
theorem grownBy_sortedK {w : World} {g n : Nat} {os : Array Obj} (d : Array Value) : w.grownBy (grow (putRow id (Sort.ahead w n) g 0 d) os) (some g) := by
  refine ⟨rfl, rfl, rfl, by simp, fun k hk hne => ?_⟩
  rw [heap_grow_old _ _ (by simpa using hk)]
  have : g ≠ k := fun e => hne (by rw [e])
  simp [putRow, mapBlock, Sort.ahead, Array.getElem?_modify, this]
theorem take_putCellsK (cur : Array Value) (ts : List Value) (h : ts.length ≤ cur.size) : (putCells id 0 ts.toArray cur).toList.take ts.length = ts := by
  apply List.ext_getElem?
  intro j
  by_cases hj : j < ts.length
  · rw [List.getElem?_take_of_lt hj, Array.getElem?_toList]
    simp [putCells, hj, show j < cur.size by omega]
  · rw [List.getElem?_take_eq_none (by omega), List.getElem?_eq_none (by omega)]
set_option maxHeartbeats 1000000 in
theorem sortI_some (g n cap B : Nat) (ks : List KV) (w : World) (hown : w.ownsRow B 39 2 (.slice (some ⟨g, 0, none⟩) n cap) n (keysV ks)) (hn : n ≤ 1048576) :
    Calls Tryz.prog 81 #[.slice (some ⟨g, 0, none⟩) n cap, .func (.func 82) #[] #[]] w fun e w' => e = .returned (.tuple #[]) ∧ w'.ownsRow B 39 2 (.slice (some ⟨g, 0, none⟩) n cap) n (keysV (sortK ks)) ∧ (∀ b w0, b ≤ B → Below b w0 w → Below b w0 w') := by
  have eg : ∀ args w, (callFunc 82 args).run Tryz.prog w = .ok (.enter 82 args) w := enters_of Tryz.func82 (by kernel_rfl) rfl
  rcases hown.2 with ⟨h0, _⟩ | ⟨g', cap', cur, hv, hbase, hb, h1, h2, h3, h4⟩
  · cases h0
  cases hv
  have hl : ks.length = n := by have := hown.1; rw [keysV_len] at this; omega
  subst hl
  have hgl := (Array.getElem?_eq_some_iff.1 hb).1
  have hH : Go.Sort.HoldsK encI 2 w g 0 ks.toArray := by
    unfold Go.Sort.HoldsK
    rw [flat_keys]
    intro j hj
    have hj' : j < ks.length * 2 := by simpa [keysV_len] using hj
    refine ⟨?_, by simp [World.frozen?, hb]⟩
    have h5 : (cur.toList.take (ks.length * 2))[j]? = (keysV ks)[j]? := by rw [h4]
    rw [List.getElem?_take_of_lt hj'] at h5
    simp only [World.cell?, hb, Nat.zero_add]
    simp only [Option.isSome_none, Bool.false_eq_true, if_false]
    rw [← Array.getElem?_toList, h5]
    have hlt : j < (keysV ks).length := by rw [keysV_len]; exact hj'
    rw [List.getElem?_eq_getElem hlt, getElem!_pos (keysV ks).toArray j (by simpa using hlt)]
    simp
  have hS := AnyQ.slices_SortFunc_total Tryz.sortI 2 isAggI sizeI encI (fun _ => rfl) (fun x v hv => by simp [encI] at hv; rcases hv with rfl | rfl <;> rfl) ordK swoI 82 #[] g 0 cap ks.toArray w eg (cmpI_lays g 0 _ w) hH hgl (by simp at hn ⊢; omega) totI
  change Calls Tryz.prog 81 _ _ _ at hS
  simp only [List.size_toArray] at hS
  refine hS.mono ?_
  rintro e w' ⟨rfl, q, os, rfl⟩
  have hm : (ks.mergeSort fun x y => !(ltOf ordK) y x) = sortK ks := mergeK ks
  rw [hm]
  have hsl := sortK_length ks
  have hfl : (flatK encI 2 (sortK ks).toArray) = (keysV (sortK ks)).toArray := flat_keys _
  unfold sortWorldK putRowK
  rw [hfl]
  refine ⟨rfl, ⟨by rw [keysV_len, hsl], Or.inr ⟨g, cap, _, rfl, hbase, heap_sortedK _ hb, h1, h2, by simp [putCells, h3], ?_⟩⟩, ?_⟩
  · have := take_putCellsK cur (keysV (sortK ks)) (by rw [keysV_len, hsl, h3]; exact Nat.mul_le_mul_right 2 h1)
    rwa [keysV_len, hsl] at this
  · intro b w0 hbB hbel
    exact hbel.grown (grownBy_sortedK _) (by omega) fun j hj => by cases hj; omega
theorem sortI_none (c : Nat) (w : World) : Calls Tryz.prog 81 #[.slice none 0 c, .func (.func 82) #[] #[]] w fun e w' => e = .returned (.tuple #[]) ∧ w = w' := by
  have hS := AnyF.slices_SortFunc_none (P := Tryz.prog) (ρ := Tryz.sortI_ren) { Tryz.sortI with } none c (.func (.func 82) #[] #[]) w
  change Calls Tryz.prog 81 _ _ _ at hS
  refine hS.mono ?_
  rintro e w' ⟨rfl, rfl⟩
  exact ⟨rfl, rfl⟩
end Go.Proofs.YtgnaiahnednllaaGreat
namespace Go.Proofs.YtgnaiahnednllaaGreat
open Go.RowKit
set_option linter.unusedVariables false
set_option maxRecDepth 20000
theorem cloneI_any (a : Option Addr) (n cap : Nat) (l : List KV) (w : World) (hh : HoldsK w a n l) (hnil : a = none → n = 0 ∧ cap = 0) (hn : n ≤ 50000) :
    Calls Tryz.prog 215 #[.slice a n cap] w (RetI w l) := by
  obtain ⟨i0, hi, hz0, hz1, hz2⟩ := info_parts item_info
  have hll := hh.len
  cases a with
  | none =>
    obtain ⟨rfl, rfl⟩ := hnil rfl
    obtain rfl : l = [] := List.eq_nil_of_length_eq_zero hll
    have he := fun w => Lib.run_eql_slice_nil (P := Tryz.prog) w 73 39 none 0 0 0 0 Tryz.underlying73
    go_enter Tryz.func215, Tryz.ntmps215
    go_wp2_with fail
    go_ret
    exact retI_own rfl rfl (World.ownsRow_nil _ _ _ _) (Below.refl _ _) _ rfl
  | some ad =>
    have hnews : ∀ ad', (some ad : Option Addr) = some ad' → ∀ j u, (keysV l)[j]? = some u → (w.alloc (.cells #[] 39)).cell? (ad'.add j) = some u :=
      HoldsK.cellsAny hh (World.grownBy_alloc w _ none)
    have HN := Lib.hid hnews
    have hown : (w.alloc (.cells #[] 39)).ownsRow w.heap.size 39 2 (.slice (some ⟨w.heap.size, 0, none⟩) 0 0) 0 [] := World.ownsRow_lit w #[] 0 (Nat.le_refl _) (by unfold maxLen; omega) rfl
    have HO := Lib.hid hown
    clear hnews hown hh
    have he := fun w => Lib.run_eql_slice_nil (P := Tryz.prog) w 73 39 (some ad) n cap 0 0 Tryz.underlying73
    go_enter Tryz.func215, Tryz.ntmps215
    go_wp2_with (at_builtin; refine wpList_append_any rfl (.tmp 5) (.tmp 6) 73 rfl w.heap.size 39 i0 _ 2 24 Tryz.underlying73 hi hz0 hz1 hz2 rfl (by decide) _ 0 [] rfl HO.out _ n cap (keysV l) rfl (some_none _) (by rw [keysV_len, hll]) HN.out (keysV_one _) (by unfold maxLen; omega) (by omega) (by simp) ?_; intro a3 c3 w3 hown3 hb3 hnil3)
    rw [Nat.zero_add, List.nil_append] at hown3
    go_ret
    exact retI_own rfl hll hown3 ((below_one w (.cells #[] 39)).trans (hb3)) _ (by simp)
end Go.Proofs.YtgnaiahnednllaaGreat
namespace Go.Proofs.YtgnaiahnednllaaGreat
open Go.RowKit
set_option linter.unusedVariables false
set_option maxRecDepth 20000
/-- sorted in place is a slice of the call's own -/
theorem sortI_own (a : Option Addr) (n cap B : Nat) (ks : List KV) (w : World) (hown : w.ownsRow B 39 2 (.slice a n cap) n (keysV ks)) (hn : n ≤ 1048576) :
    Calls Tryz.prog 81 #[.slice a n cap, .func (.func 82) #[] #[]] w fun e w' => e = .returned (.tuple #[]) ∧ w'.ownsRow B 39 2 (.slice a n cap) n (keysV (sortK ks)) ∧ (∀ b w0, b ≤ B → Below b w0 w → Below b w0 w') := by
  have hl : ks.length = n := by have := hown.1; rw [keysV_len] at this; omega
  rcases hown.2 with ⟨h, h0⟩ | ⟨g', c', cur, h, _⟩
  · cases h
    obtain rfl : ks = [] := List.eq_nil_of_length_eq_zero hl
    refine (sortI_none 0 w).mono ?_
    rintro e w' ⟨rfl, rfl⟩
    exact ⟨rfl, hown, fun _ _ _ h => h⟩
  · cases h
    exact sortI_some g' n cap B ks w hown hn
theorem rankSort_any (a : Option Addr) (n cap : Nat) (l : List KV) (w : World) (hh : HoldsK w a n l) (hnil : a = none → n = 0 ∧ cap = 0) (hn : n ≤ 50000) :
    Calls Tryz.prog 169 #[.slice a n cap] w (RetI w (sortK l)) := by
  have hll := hh.len
  have CL := Lib.hid (cloneI_any a n cap l w hh hnil hn)
  clear hh hnil
  go_enter Tryz.func169, Tryz.ntmps169
  go_wp2_with fail
  refine CL.out.mono ?_
  rintro e w1 ⟨a1, c1, rfl, hown, hb⟩
  rw [hll] at hown
  rw [hll]
  have SO := Lib.hid (sortI_own a1 n c1 w.heap.size l w1 hown (by omega))
  have B1 := Lib.hid hb
  clear hown hb
  go_wp2_with fail
  refine SO.out.mono ?_
  rintro e w2 ⟨rfl, hown, hb⟩
  have B2 := Lib.hid (hb _ _ (Nat.le_refl _) B1.out)
  have O2 := Lib.hid hown
  clear hown hb
  go_wp2_with fail
  go_ret
  exact retI_own rfl (by rw [sortK_length]; exact hll) O2.out B2.out _ rfl
end Go.Proofs.YtgnaiahnednllaaGreat
namespace Go.Proofs.YtgnaiahnednllaaGreat
open Go.RowKit
set_option linter.unusedVariables false
set_option maxRecDepth 20000
set_option maxHeartbeats 400000 in
theorem sameItems_quiet (a1 a2 : Option Addr) (n c1 c2 : Nat) (z : List KV) (w : World) (h1 : HoldsK w a1 n z) (h2 : HoldsK w a2 n z) (hl : n ≤ 4611686018427387904) :
    Calls Tryz.prog 173 #[.slice a1 n c1, .slice a2 n c2] w fun e w' => e = .returned (.bool true) ∧ ∃ m, w' = w.drewN m := by
  have H1 := Lib.hid h1; have H2 := Lib.hid h2
  have hb : ((n : Int) != (n : Int)) = false := by simp
  clear h1 h2
  go_enter Tryz.func173, Tryz.ntmps173
  go_wp2
  go_loopw [5] (fun i wr => ∃ k m : Nat, k ≤ n ∧ i = .int .i64 k ∧ wr = w.drewN m) (fun i _ => n - (intOf i).toNat)
  case atStart => exact ⟨0, 0, by omega, rfl, rfl⟩
  case round =>
    obtain ⟨k, m, hk, rfl, rfl⟩ := hrel
    by_cases hlt : k < n
    · obtain ⟨b1, o1, rfl, k1⟩ := H1.out.at (by omega)
      obtain ⟨b2, o2, rfl, k2⟩ := H2.out.at (by omega)
      obtain ⟨e1, e2⟩ := k1 k hlt
      obtain ⟨e3, e4⟩ := k2 k hlt
      obtain ⟨x, hx⟩ : ∃ x, z.getD k k0 = x := ⟨_, rfl⟩
      rw [hx] at e1 e2 e3 e4
      obtain ⟨x1, x2⟩ := x
      simp only at e1 e2 e3 e4
      have f1 : (x1 == x1) = true := by simp
      have f2 := str_same x2
      clear hx k1 k2
      go_wp2
      go_quiet (fail)
      go_wp2
      go_roundw
      case rel => exact ⟨k + 1, _, by omega, by go_num, rfl⟩
      case measure => simp [intOf]; omega
    · go_wp2
      go_ret
      exact ⟨rfl, _, rfl⟩
theorem sameItems_yes (a1 a2 : Option Addr) (n c1 c2 : Nat) (z : List KV) (w : World) (h1 : HoldsK w a1 n z) (h2 : HoldsK w a2 n z) (hl : n ≤ 4611686018427387904) :
    Calls Tryz.prog 173 #[.slice a1 n c1, .slice a2 n c2] w fun e w' => e = .returned (.bool true) ∧ Below w.heap.size w w' :=
  (sameItems_quiet a1 a2 n c1 c2 z w h1 h2 hl).mono fun _ _ ⟨h, m, hm⟩ => ⟨h, by rw [hm]; exact below_drewN _ _⟩
end Go.Proofs.YtgnaiahnednllaaGreat
namespace Go.Proofs.YtgnaiahnednllaaGreat
open Go.RowKit
set_option linter.unusedVariables false
set_option maxRecDepth 20000
theorem holdsT_lit3 (w : World) (a b c : Tx) (e : TypeId) (fr : Nat × Nat) : HoldsT (w.alloc (.cells #[.string a, .string b, .string c] e fr)) (some ⟨w.heap.size, 0, none⟩) 3 [a, b, c] := by
  refine ⟨rfl, fun _ => ⟨w.heap.size, 0, rfl, fun i hi => ?_⟩⟩
  have : i = 0 ∨ i = 1 ∨ i = 2 := by omega
  rcases this with rfl | rfl | rfl
  · rw [Nat.add_zero, World.cell?_alloc_mark]; rfl
  · rw [Nat.zero_add, World.cell?_alloc_mark]; rfl
  · rw [Nat.zero_add, World.cell?_alloc_mark]; rfl
theorem holdsK_lit2 (w : World) (a b : KV) (e : TypeId) (fr : Nat × Nat) : HoldsK (w.alloc (.cells #[.int .i64 a.1, .string a.2, .int .i64 b.1, .string b.2] e fr)) (some ⟨w.heap.size, 0, none⟩) 2 [a, b] := by
  refine ⟨rfl, fun _ => ⟨w.heap.size, 0, rfl, fun i hi => ?_⟩⟩
  have : i = 0 ∨ i = 1 := by omega
  rcases this with rfl | rfl
  · rw [World.cell?_alloc_mark, World.cell?_alloc_mark]; exact ⟨rfl, rfl⟩
  · rw [World.cell?_alloc_mark, World.cell?_alloc_mark]; exact ⟨rfl, rfl⟩
end Go.Proofs.YtgnaiahnednllaaGreat
namespace Go.Proofs.YtgnaiahnednllaaGreat
open Go.RowKit
set_option linter.unusedVariables false
set_option maxRecDepth 20000
/-- the near words of a list, in its order -/
def matchK (ts : List Tx) (s : Tx) (k : Int) : List KV := if (0 ≤ lenS s ∧ lenS s ≤ 16) ∧ 0 ≤ k ∧ k ≤ 4 then nearL ts s k else []
/-- a graph of the words ts lies at g -/
def GrOk (g : Nat) (ts : List Tx) (w : World) : Prop := ∃ st Sg, GOk st ts ∧ GAt g st w Sg ∧ (∀ t ∈ ts, 0 ≤ lenS t ∧ lenS t ≤ 12 ∧ t.size ≤ 100) ∧ ts.length ≤ 100
theorem GrOk.below {g : Nat} {ts : List Tx} {w w' : World} (h : GrOk g ts w) (hb : Below w.heap.size w w') : GrOk g ts w' := by
  obtain ⟨st, Sg, h1, h2, h3, h4⟩ := h
  exact ⟨st, Sg, h1, (gAt_ok g st).below h2 hb, h3, h4⟩
theorem matches_all (g : Nat) (ts : List Tx) (s : Tx) (k : Int) (w : World) (h : GrOk g ts w) (hs : s.size ≤ 1048576) :
    Calls Tryz.prog 170 #[.pointer (some ⟨g, 0, none⟩), .string s, .int .i64 k] w (RetI w (matchK ts s k)) := by
  obtain ⟨st, Sg, h1, h2, h3, h4⟩ := h
  unfold matchK
  by_cases hc : (0 ≤ lenS s ∧ lenS s ≤ 16) ∧ 0 ≤ k ∧ k ≤ 4
  · rw [if_pos hc]
    exact matches_good g ts st h1 Sg s k w h2 h3 h4 hs hc.1 hc.2
  · rw [if_neg hc]
    refine (matches_no (some g) s k w (by omega) ?_).mono ?_
    · by_cases h5 : 0 ≤ lenS s ∧ lenS s ≤ 16
      · exact .inr (.inr (by have : ¬ (0 ≤ k ∧ k ≤ 4) := fun h => hc ⟨h5, h⟩; omega))
      · exact .inr (.inl h5)
    · rintro e w' ⟨rfl, hb⟩
      exact ⟨none, 0, rfl, World.ownsRow_nil _ _ _ _, hb⟩
theorem matchK_len (ts : List Tx) (s : Tx) (k : Int) : (matchK ts s k).length ≤ ts.length := by
  unfold matchK; split
  · exact nearL_len ts s k
  · simp
/-- what is told of the items: behind av (or from the first one on), at most so many -/
def restK (first : Bool) (av : KV) (M : List KV) : List KV := if first then sortK M else (sortK M).filter (lessK av)
def cntK (batch : Int) (n : Nat) : Nat := (min (max batch 0) (n : Int)).toNat
/-- a slice whose room ends with it -/
def CutI (w : World) (B : Nat) (a : Option Addr) (n : Nat) (ys : List KV) : Prop := ys.length = n ∧ ∃ m c zs, w.ownsRow B 39 2 (.slice a m c) m (keysV zs) ∧ n ≤ m ∧ zs.take n = ys
theorem CutI.holds {w : World} {B : Nat} {a : Option Addr} {n : Nat} {ys : List KV} (h : CutI w B a n ys) : HoldsK w a n ys := by
  obtain ⟨h1, m, c, zs, h2, h3, h4⟩ := h
  have := (HoldsK.own h2).take n h3
  rwa [h4] at this
theorem CutI.below {w w' : World} {B : Nat} {a : Option Addr} {n : Nat} {ys : List KV} (h : CutI w B a n ys) (hb : Below w.heap.size w w') : CutI w' B a n ys := by
  obtain ⟨h1, m, c, zs, h2, h3, h4⟩ := h
  exact ⟨h1, m, c, zs, owns_below h2 hb, h3, h4⟩
def RetN (w : World) (n : Nat) (ys : List KV) (b : Bool) (e : Ending) (w' : World) : Prop := ∃ a, e = .returned (.tuple #[.slice a n n, .bool b]) ∧ CutI w' w.heap.size a n ys ∧ (a = none → n = 0) ∧ Below w.heap.size w w'
set_option maxHeartbeats 1600000 in
theorem next_any (gp : Value) (s : Tx) (k : Int) (first : Bool) (av : KV) (batch : Int) (M F ys : List KV) (n : Nat) (b : Bool) (w : World) (CM : ∀ w', Below w.heap.size w w' → Calls Tryz.prog 170 #[gp, .string s, .int .i64 k] w' (RetI w' M)) (hM : M.length ≤ 100)
    (hF : restK first av M = F) (hn : cntK batch F.length = n) (hy : F.take n = ys) (hb : decide (n = F.length) = b) :
    Calls Tryz.prog 127 #[gp, .string s, .int .i64 k, .bool first, .agg #[.int .i64 av.1, .string av.2], .int .i64 batch] w (RetN w n ys b) := by
  have CMH := Lib.hid CM
  have HF := Lib.hid hF; have HN := Lib.hid hn; have HY := Lib.hid hy; have HBB := Lib.hid hb
  have hn0 : n ≤ F.length := by rw [← hn]; unfold cntK; omega
  have hmn : min (max batch 0) (F.length : Int) = (n : Int) := by rw [← hn]; unfold cntK; omega
  have B1 := Lib.hid (below_one w (.cells #[.int .i64 av.1, .string av.2] 39))
  have KB := Lib.hid (show KBox w.heap.size av (w.alloc (.cells #[.int .i64 av.1, .string av.2] 39)) from ⟨by rw [World.cell?_alloc_mark]; rfl, by rw [World.cell?_alloc_mark]; rfl⟩)
  obtain ⟨w1, hw1⟩ : ∃ w1, w.alloc (.cells #[.int .i64 av.1, .string av.2] 39) = w1 := ⟨_, rfl⟩
  have hz1 : w.heap.size < w1.heap.size := by rw [← hw1]; simp
  have HW := Lib.hid hw1
  rw [hw1] at B1 KB
  have CM1 := Lib.hid (CM w1 B1.out)
  clear CM hF hn hy hb hw1
  go_enter Tryz.func127, Tryz.ntmps127
  go_upto_region 1 with fail
  rw [HW.out]
  go_wp2_with fail
  refine CM1.out.mono ?_
  rintro e w2 ⟨a2, c2, rfl, o2, hb2⟩
  have KB2 := Lib.hid (KB.out.more hb2 hz1)
  have hz2 : w1.heap.size ≤ w2.heap.size := hb2.size
  have B2 := Lib.hid (B1.out.trans (hb2.mono B1.out.size))
  have CS := Lib.hid (rankSort_any a2 M.length c2 M w2 (HoldsK.own o2) (fun h => by
    rcases o2.2 with ⟨h1, h2⟩ | ⟨g, cap, cur, h1, _⟩
    · injection h1 with h1 h2 h3; exact ⟨h2, h3⟩
    · rw [h] at h1; cases h1) (by omega))
  clear o2 hb2 CM1 CMH
  go_wp2_with fail
  refine CS.out.mono ?_
  rintro e w3 ⟨a3, c3, rfl, o3, hb3⟩
  have hsl : (sortK M).length = M.length := sortK_length M
  rw [hsl] at o3 ⊢
  have O3 := Lib.hid o3
  have KB3 := Lib.hid (KB2.out.more hb3 (by omega))
  have B3 := Lib.hid (B2.out.trans (hb3.mono B2.out.size))
  have hz3 : w2.heap.size ≤ w3.heap.size := hb3.size
  clear o3 hb3 KB2 B2 CS KB B1
  obtain ⟨mm, hmm⟩ : ∃ x, M.length = x := ⟨_, rfl⟩
  rw [hmm] at O3 hM hsl ⊢
  cases first with
  | true =>
    have hF2 : sortK M = F := HF.out
    have hfm : mm = F.length := by rw [← hF2]; exact hsl.symm
    subst hfm
    obtain ⟨w4, hw4⟩ : ∃ w4, w3 = w4 := ⟨_, rfl⟩
    subst hw4
    have O4 := Lib.hid (show w3.ownsRow w2.heap.size 39 2 (.slice a3 F.length c3) F.length (keysV F) from by rw [← hF2]; rw [← hF2] at O3; exact O3.out)
    have B4 := B3
    clear O3 B3 hsl hmm
    obtain ⟨fn, hfn⟩ : ∃ x, F.length = x := ⟨_, rfl⟩
    rw [hfn] at hmn hn0 ⊢
    have HFN := Lib.hid hfn
    have O5 := O4.out
    rw [hfn] at O5
    have O6 := Lib.hid O5
    clear O5
    have hcap : fn ≤ c3 := by
      rcases O6.out.2 with ⟨e1, e2⟩ | ⟨g', cap', cur, hv, hb, hh, hc, hc2, hs, hx⟩
      · omega
      · simp only [Value.slice.injEq] at hv; omega
    have hnc : n ≤ c3 := by omega
    have HRES := Lib.hid (show CutI w3 w.heap.size a3 n ys ∧ (a3 = none → n = 0) from by
      refine ⟨⟨by rw [← HY.out, List.length_take]; have := HFN.out; omega, fn, c3, F, O6.out.mono' (by omega), hn0, HY.out⟩, fun h => ?_⟩
      rcases O6.out.2 with ⟨e1, e2⟩ | ⟨g', cap', cur, hv, _⟩
      · omega
      · simp only [Value.slice.injEq] at hv; rw [h] at hv; cases hv.1)
    have hbq : ((n : Int) == (fn : Int)) = b := by
      rw [← HBB.out, HFN.out]
      by_cases h : n = fn
      · simp [h]
      · have h2 : ¬ ((n : Int) = (fn : Int)) := by omega
        simp [h, h2]
    go_wp2_with fail
    go_ret2
    exact ⟨a3, rfl, HRES.out.1, HRES.out.2, B4.out⟩
  | false =>
    have hF2 : (sortK M).filter (lessK av) = F := HF.out
    have CD := Lib.hid (delFuncI_any w2.heap.size a3 mm c3 (sortK M) av w.heap.size w3 O3.out hz3 (by omega) KB3.out (by omega))
    rw [hF2] at CD
    clear O3 hsl
    go_wp2_with fail
    refine CD.out.mono ?_
    rintro e w4 ⟨fm, rfl, hfm, o4, hb4⟩
    subst hfm
    have O4 := Lib.hid o4
    have B4 := Lib.hid (B3.out.trans (hb4.mono (by omega)))
    have hz4 : w3.heap.size ≤ w4.heap.size := hb4.size
    clear o4 hb4 CD B3
    obtain ⟨fn, hfn⟩ : ∃ x, F.length = x := ⟨_, rfl⟩
    rw [hfn] at hmn hn0 ⊢
    have HFN := Lib.hid hfn
    have O5 := O4.out
    rw [hfn] at O5
    have O6 := Lib.hid O5
    clear O5
    have hcap : fn ≤ c3 := by
      rcases O6.out.2 with ⟨e1, e2⟩ | ⟨g', cap', cur, hv, hb, hh, hc, hc2, hs, hx⟩
      · omega
      · simp only [Value.slice.injEq] at hv; omega
    have hnc : n ≤ c3 := by omega
    have HRES := Lib.hid (show CutI w4 w.heap.size a3 n ys ∧ (a3 = none → n = 0) from by
      refine ⟨⟨by rw [← HY.out, List.length_take]; have := HFN.out; omega, fn, c3, F, O6.out.mono' (by omega), hn0, HY.out⟩, fun h => ?_⟩
      rcases O6.out.2 with ⟨e1, e2⟩ | ⟨g', cap', cur, hv, _⟩
      · omega
      · simp only [Value.slice.injEq] at hv; rw [h] at hv; cases hv.1)
    have hbq : ((n : Int) == (fn : Int)) = b := by
      rw [← HBB.out, HFN.out]
      by_cases h : n = fn
      · simp [h]
      · have h2 : ¬ ((n : Int) = (fn : Int)) := by omega
        simp [h, h2]
    go_wp2_with fail
    go_ret2
    exact ⟨a3, rfl, HRES.out.1, HRES.out.2, B4.out⟩
end Go.Proofs.YtgnaiahnednllaaGreat
namespace Go.Proofs.YtgnaiahnednllaaGreat
open Go.RowKit
set_option linter.unusedVariables false
set_option maxRecDepth 20000
/-- what a worker has of a shard -/
structure LD where
  g : Option Nat
  ts : List Tx
  e : Int
def ldV (x : LD) : Value := .agg #[.pointer (x.g.map fun b => ⟨b, 0, none⟩), .int .i64 x.e]
def ldZ : Value := .agg #[.pointer none, .int .i64 0]
theorem zeroLd (w : World) : (zeroValue 132).run Tryz.prog w = .ok ldZ w := by kernel_rfl
theorem mapTl : MapT 93 132 ldZ := ⟨Tryz.underlying93, zeroLd⟩
def lV (h : Int → Option LD) : Int → Option Value := fun x => (h x).map ldV
/-- a worker, plain -/
structure Wk where
  id : Int
  f : Int → Option DI
  life : Nat
  up : Bool
  wl : Int
  ep : Int
  q : List AskP
  sh : Int → Option LD
/-- a disk, its blocks in S -/
def DO (d : Nat) (f : Int → Option DI) (life : Nat) (w : World) (S : Nat → Prop) : Prop :=
  ∃ M n, DAt 0 d M n f life w ∧ S d ∧ S M ∧ (∀ x i, f x = some i → (∀ k o, i.oa = some ⟨k, o, none⟩ → S k) ∧ (∀ k o, i.sa = some ⟨k, o, none⟩ → S k)) ∧ ∀ k, S k → k < w.heap.size
theorem DAt.base {B B' d M n : Nat} {f : Int → Option DI} {life : Nat} {w : World} (h : DAt B d M n f life w) (hb : B' ≤ B) : DAt B' d M n f life w := ⟨h.c0, h.c1, h.fz, h.dM, h.m, h.im, h.ap, Nat.le_trans hb h.dB, Nat.le_trans hb h.MB, h.n1⟩
theorem do_ok (d : Nat) (f : Int → Option DI) (life : Nat) : ObjOk (DO d f life) where
  turn := fun {w w' S F} h t hF => by
    obtain ⟨M, n, h, s1, s2, s3, s4⟩ := h
    exact ⟨M, n, ⟨(t.cell (s4 _ s1) (hF _ s1)).trans h.c0, (t.cell (s4 _ s1) (hF _ s1)).trans h.c1, fun i => (t.frozen (s4 _ s1) (hF _ s1)).trans (h.fz i), h.dM, h.m.turn t (hF _ s2), fun x i e => (h.im x i e).turn t (fun q o e2 => hF _ ((s3 x i e).1 q o e2)) (fun q o e2 => hF _ ((s3 x i e).2 q o e2)), h.ap, h.dB, h.MB, h.n1⟩, s1, s2, s3, fun k hk => Nat.lt_of_lt_of_le (s4 k hk) t.size⟩
  lt := fun h => by obtain ⟨M, n, h, s1, s2, s3, s4⟩ := h; exact s4
/-- the loaded shards, their blocks in S -/
def LOn (mm nm : Nat) (sh : Int → Option LD) (w : World) (S : Nat → Prop) : Prop :=
  MapV w mm nm (lV sh) ∧ S mm ∧ (∀ x l g, sh x = some l → l.g = some g → goodV l.ts = 0 ∧ ∃ Sg, GAt g (grS l.ts) w Sg ∧ ∀ k, Sg k → S k ∧ k ≠ mm) ∧ ∀ k, S k → k < w.heap.size
def LO (mm : Nat) (sh : Int → Option LD) (w : World) (S : Nat → Prop) : Prop := ∃ nm, nm ≤ 100 ∧ LOn mm nm sh w S
theorem lon_ok (mm nm : Nat) (sh : Int → Option LD) : ObjOk (LOn mm nm sh) where
  turn := fun {w w' S F} h t hF => by
    obtain ⟨m, s1, s2, s3⟩ := h
    refine ⟨m.turn t (hF _ s1), s1, fun x l g e1 e2 => ?_, fun k hk => Nat.lt_of_lt_of_le (s3 k hk) t.size⟩
    obtain ⟨hg, Sg, G, hS⟩ := s2 x l g e1 e2
    exact ⟨hg, Sg, (gAt_ok g _).turn G t (fun k hk => hF k (hS k hk).1), hS⟩
  lt := fun h => by obtain ⟨m, s1, s2, s3⟩ := h; exact s3
theorem lo_ok (mm : Nat) (sh : Int → Option LD) : ObjOk (LO mm sh) where
  turn := fun {w w' S F} h t hF => by
    obtain ⟨nm, hn, h⟩ := h
    exact ⟨nm, hn, (lon_ok _ _ _).turn h t hF⟩
  lt := fun h => by obtain ⟨nm, hn, h⟩ := h; exact (lon_ok _ _ _).lt h
/-- the cells of a worker's block -/
def wkCells (d : Nat) (id : Int) (up : Bool) (wl ep : Int) (qp mp : Option Nat) : Array Value := #[.int .i64 id, .pointer (some ⟨d, 0, none⟩), .bool up, .int .i64 wl, .int .i64 ep, .pointer (qp.map fun b => ⟨b, 0, none⟩), .map mp]
def WBox (w : World) (b d : Nat) (id : Int) (up : Bool) (wl ep : Int) (qp mp : Option Nat) : Prop := w.heap[b]? = some (.cells (wkCells d id up wl ep qp mp) 95 (0, 0))
theorem cellV {w : World} {p i : Nat} {v : Value} {cs : Array Value} {t : TypeId} {fr : Nat × Nat} (h : w.heap[p]? = some (.cells cs t fr)) (h0 : cs[i]? = some v) : w.cell? ⟨p, i, none⟩ = some v := by
  simp [World.cell?, h, h0]
theorem WBox.c0 {w : World} {b d : Nat} {id : Int} {up : Bool} {wl ep : Int} {qp mp : Option Nat} (h : WBox w b d id up wl ep qp mp) : w.cell? ⟨b, 0, none⟩ = some (.int .i64 id) := cellV h rfl
theorem WBox.c1 {w : World} {b d : Nat} {id : Int} {up : Bool} {wl ep : Int} {qp mp : Option Nat} (h : WBox w b d id up wl ep qp mp) : w.cell? ⟨b, 1, none⟩ = some (.pointer (some ⟨d, 0, none⟩)) := cellV h rfl
theorem WBox.c2 {w : World} {b d : Nat} {id : Int} {up : Bool} {wl ep : Int} {qp mp : Option Nat} (h : WBox w b d id up wl ep qp mp) : w.cell? ⟨b, 2, none⟩ = some (.bool up) := cellV h rfl
theorem WBox.c3 {w : World} {b d : Nat} {id : Int} {up : Bool} {wl ep : Int} {qp mp : Option Nat} (h : WBox w b d id up wl ep qp mp) : w.cell? ⟨b, 3, none⟩ = some (.int .i64 wl) := cellV h rfl
theorem WBox.c4 {w : World} {b d : Nat} {id : Int} {up : Bool} {wl ep : Int} {qp mp : Option Nat} (h : WBox w b d id up wl ep qp mp) : w.cell? ⟨b, 4, none⟩ = some (.int .i64 ep) := cellV h rfl
theorem WBox.c5 {w : World} {b d q : Nat} {id : Int} {up : Bool} {wl ep : Int} {mp : Option Nat} (h : WBox w b d id up wl ep (some q) mp) : w.cell? ⟨b, 5, none⟩ = some (.pointer (some ⟨q, 0, none⟩)) := cellV h rfl
theorem WBox.c6 {w : World} {b d : Nat} {id : Int} {up : Bool} {wl ep : Int} {qp mp : Option Nat} (h : WBox w b d id up wl ep qp mp) : w.cell? ⟨b, 6, none⟩ = some (.map mp) := cellV h rfl
theorem WBox.fz {w : World} {b d : Nat} {id : Int} {up : Bool} {wl ep : Int} {qp mp : Option Nat} (h : WBox w b d id up wl ep qp mp) (i : Nat) : w.frozen? ⟨b, i, none⟩ = false := by
  unfold WBox at h
  simp [World.frozen?, h]
theorem WBox.lt {w : World} {b d : Nat} {id : Int} {up : Bool} {wl ep : Int} {qp mp : Option Nat} (h : WBox w b d id up wl ep qp mp) : b < w.heap.size := (Array.getElem?_eq_some_iff.1 h).1
theorem WBox.turn {w w' : World} {b d : Nat} {id : Int} {up : Bool} {wl ep : Int} {qp mp : Option Nat} {F : Nat → Prop} (h : WBox w b d id up wl ep qp mp) (t : Turn F w w') (hF : ¬ F b) : WBox w' b d id up wl ep qp mp := (t.block b h.lt hF).trans h
theorem WBox.below {w w' : World} {b d : Nat} {id : Int} {up : Bool} {wl ep : Int} {qp mp : Option Nat} (h : WBox w b d id up wl ep qp mp) (hb : Below w.heap.size w w') : WBox w' b d id up wl ep qp mp := (hb.block b h.lt).trans h
theorem WBox.set {w : World} {b d d' : Nat} {id id' : Int} {up up' : Bool} {wl ep wl' ep' : Int} {qp mp qp' mp' : Option Nat} (h : WBox w b d id up wl ep qp mp) (i : Nat) (v : Value) (e : (wkCells d id up wl ep qp mp).setIfInBounds i v = wkCells d' id' up' wl' ep' qp' mp') : WBox (w.setCell ⟨b, i, none⟩ v) b d' id' up' wl' ep' qp' mp' := by
  unfold WBox at h ⊢
  rw [Go.heap_setCell_same w b i _ _ v h, e]
/-- a worker's parts -/
structure WkP (b d : Nat) (qp mp : Option Nat) (s : Wk) (w : World) (SD SQ SL : Nat → Prop) : Prop where
  box : WBox w b d s.id s.up s.wl s.ep qp mp
  D : DO d s.f s.life w SD
  Q : s.up = true → ∃ q, qp = some q ∧ QAt w q s.q SQ
  L : s.up = true → ∃ mm, mp = some mm ∧ LO mm s.sh w SL
  dn : s.up = false → qp = none ∧ mp = none ∧ s.wl = 0 ∧ s.ep = 0
  bD : ¬ SD b
  bQ : ¬ SQ b
  bL : ¬ SL b
  dq : ∀ k, SD k → ¬ SQ k
  dl : ∀ k, SD k → ¬ SL k
  ql : ∀ k, SQ k → ¬ SL k
/-- a worker in block b, its disk in block d, all its blocks in S -/
def WkO (b d : Nat) (s : Wk) (w : World) (S : Nat → Prop) : Prop :=
  ∃ qp mp SD SQ SL, WkP b d qp mp s w SD SQ SL ∧ S b ∧ (∀ k, SD k → S k) ∧ (∀ k, SQ k → S k) ∧ (∀ k, SL k → S k) ∧ ∀ k, S k → k < w.heap.size
theorem WkP.turn {b d : Nat} {qp mp : Option Nat} {s : Wk} {w w' : World} {SD SQ SL F : Nat → Prop} (h : WkP b d qp mp s w SD SQ SL) (t : Turn F w w') (hb : ¬ F b) (hD : ∀ k, SD k → ¬ F k) (hQ : ∀ k, SQ k → ¬ F k) (hL : ∀ k, SL k → ¬ F k) : WkP b d qp mp s w' SD SQ SL :=
  ⟨h.box.turn t hb, (do_ok _ _ _).turn h.D t hD, fun u => by obtain ⟨q, e, hq⟩ := h.Q u; exact ⟨q, e, hq.turn t hQ⟩, fun u => by obtain ⟨m, e, hm⟩ := h.L u; exact ⟨m, e, (lo_ok _ _).turn hm t hL⟩, h.dn, h.bD, h.bQ, h.bL, h.dq, h.dl, h.ql⟩
theorem wk_ok (b d : Nat) (s : Wk) : ObjOk (WkO b d s) where
  turn := fun {w w' S F} h t hF => by
    obtain ⟨qp, mp, SD, SQ, SL, h, s1, s2, s3, s4, s5⟩ := h
    exact ⟨qp, mp, SD, SQ, SL, h.turn t (hF _ s1) (fun k hk => hF k (s2 k hk)) (fun k hk => hF k (s3 k hk)) (fun k hk => hF k (s4 k hk)), s1, s2, s3, s4, fun k hk => Nat.lt_of_lt_of_le (s5 k hk) t.size⟩
  lt := fun h => by obtain ⟨qp, mp, SD, SQ, SL, h, s1, s2, s3, s4, s5⟩ := h; exact s5
/-- what the bytes of an image are to a worker -/
def LdOf (bs : List Nat) (l : LD) : Prop := match decS bs with
  | some ts => (∃ g, l.g = some g) ∧ l.ts = ts ∧ l.e = 0
  | none => l.g = none ∧ l.ts = [] ∧ l.e = (if openB bs then 8 else 9)
/-- what is loaded of a disk, up to a shard -/
def LoadR (f : Int → Option DI) (sh : Int → Option LD) (n : Int) : Prop := ∀ x, if 0 ≤ x ∧ x < n then (match f x with | some i => ∃ l, sh x = some l ∧ LdOf i.sb l | none => sh x = none) else sh x = none
def lput (sh : Int → Option LD) (x : Int) (l : LD) : Int → Option LD := fun a => if a = x then some l else sh a
theorem lV_put (sh : Int → Option LD) (x : Int) (l : LD) : vset (lV sh) x (some (ldV l)) = lV (lput sh x l) := by
  funext a
  unfold vset lV lput
  by_cases h : a = x <;> simp [h]
theorem loadR_nil (f : Int → Option DI) : LoadR f (fun _ => none) 0 := fun x => by
  rw [if_neg (by omega)]
theorem loadR_put {f : Int → Option DI} {sh : Int → Option LD} {j : Int} {i : DI} {l : LD} (h : LoadR f sh j) (hj : 0 ≤ j) (hi : f j = some i) (hl : LdOf i.sb l) : LoadR f (lput sh j l) (j + 1) := fun x => by
  have hx := h x
  unfold lput
  by_cases e : x = j
  · subst e
    rw [if_pos (by omega), hi]
    exact ⟨l, if_pos rfl, hl⟩
  · rw [if_neg e]
    by_cases c : 0 ≤ x ∧ x < j
    · rw [if_pos c] at hx
      rw [if_pos (by omega)]
      exact hx
    · rw [if_neg c] at hx
      rw [if_neg (by omega)]
      exact hx
theorem loadR_skip {f : Int → Option DI} {sh : Int → Option LD} {j : Int} (h : LoadR f sh j) (hi : f j = none) : LoadR f sh (j + 1) := fun x => by
  have hx := h x
  by_cases e : x = j
  · subst e
    rw [if_neg (by omega)] at hx
    by_cases c : 0 ≤ x ∧ x < x + 1
    · rw [if_pos c, hi]; exact hx
    · rw [if_neg c]; exact hx
  · by_cases c : 0 ≤ x ∧ x < j
    · rw [if_pos c] at hx
      rw [if_pos (by omega)]
      exact hx
    · rw [if_neg c] at hx
      rw [if_neg (by omega)]
      exact hx
theorem lon_put {mm nm n' : Nat} {sh : Int → Option LD} {x : Int} {l : LD} {w w' : World} {S S' : Nat → Prop} (h : LOn mm nm sh w S) (m : MapV w' mm n' (vset (lV sh) x (some (ldV l)))) (t : Turn (fun k => k = mm) w w') (hS : ∀ k, S k → S' k) (hl : ∀ k, S' k → k < w'.heap.size) (hg : ∀ g, l.g = some g → goodV l.ts = 0 ∧ ∃ Sg, GAt g (grS l.ts) w' Sg ∧ ∀ k, Sg k → S' k ∧ k ≠ mm) : LOn mm n' (lput sh x l) w' S' := by
  obtain ⟨_, s1, s2, s3⟩ := h
  refine ⟨lV_put sh x l ▸ m, hS _ s1, fun y z g e1 e2 => ?_, hl⟩
  unfold lput at e1
  split at e1
  · injection e1 with e1; subst e1
    exact hg g e2
  · obtain ⟨hv, Sg, G, hG⟩ := s2 y z g e1 e2
    exact ⟨hv, Sg, (gAt_ok g _).turn G t (fun k hk => (hG k hk).2), fun k hk => ⟨hS k (hG k hk).1, (hG k hk).2⟩⟩
theorem lon_made (w : World) : LOn w.heap.size 0 (fun _ => none) (w.alloc (.map #[] 0)) (fun k => k = w.heap.size) :=
  ⟨by
    have e : lV (fun _ => none) = fun _ => none := by funext x; rfl
    rw [e]; exact mapV_made w, rfl, fun x l g e1 => (by cases e1), fun k hk => by rw [hk]; simp⟩
end Go.Proofs.YtgnaiahnednllaaGreat
namespace Go.Proofs.YtgnaiahnednllaaGreat
open Go.RowKit
set_option linter.unusedVariables false
set_option maxRecDepth 20000
def Box4 (w0 : World) (p q : Nat) (v0 v1 v2 v3 : Value) (w : World) : Prop := Below w0.heap.size w0 w ∧ w.cell? ⟨p, 0, none⟩ = some v0 ∧ w.cell? ⟨p, 1, none⟩ = some v1 ∧ w.cell? ⟨q, 0, none⟩ = some v2 ∧ w.cell? ⟨q, 1, none⟩ = some v3
theorem box4_carry {w0 w w' : World} {p q : Nat} {v0 v1 v2 v3 : Value} (h : Box4 w0 p q v0 v1 v2 v3 w) (hb : Below w.heap.size w w') : Box4 w0 p q v0 v1 v2 v3 w' :=
  ⟨h.1.trans (hb.mono h.1.size), by rw [hb.cell (p := ⟨p, 0, none⟩) (lt_of_cell h.2.1)]; exact h.2.1, by rw [hb.cell (p := ⟨p, 1, none⟩) (lt_of_cell h.2.1)]; exact h.2.2.1, by rw [hb.cell (p := ⟨q, 0, none⟩) (lt_of_cell h.2.2.2.1)]; exact h.2.2.2.1, by rw [hb.cell (p := ⟨q, 1, none⟩) (lt_of_cell h.2.2.2.1)]; exact h.2.2.2.2⟩
set_option maxHeartbeats 3200000 in
theorem order_any (a b : KV) (w : World) :
    Calls Tryz.prog 161 #[keyV a, keyV b] w fun e w' => e = .returned (.int .i64 (ordK a b)) ∧ Below w.heap.size w w' := by
  obtain ⟨a1, a2⟩ := a
  obtain ⟨b1, b2⟩ := b
  have hv := ordK_or (a1, a2) (b1, b2)
  obtain ⟨v, hv2⟩ : ∃ v, ordK (a1, a2) (b1, b2) = v := ⟨_, rfl⟩
  rw [hv2] at hv ⊢
  simp only at hv
  unfold keyV
  simp only
  have C1 := Lib.hid (fun w => compareZ_any a1 b1 w)
  have C2 := Lib.hid (fun w => compare_any a2 b2 w)
  obtain ⟨x, hx⟩ : ∃ x, cmpZ a1 b1 = x := ⟨_, rfl⟩
  obtain ⟨y, hy⟩ : ∃ y, cmpS a2 b2 = y := ⟨_, rfl⟩
  rw [hx] at C1 hv; rw [hy] at C2 hv
  have HV := Lib.hid hv
  clear hv hv2 hx hy
  go_enter Tryz.func161, Tryz.ntmps161
  go_upto_region 1 with fail
  have e0 : ((w.alloc (.cells #[.int .i64 a1, .string a2] 153)).alloc (.cells #[.int .i64 b1, .string b2] 153)).cell? ⟨w.heap.size, 0, none⟩ = some (.int .i64 a1) := by simp
  have e1 : ((w.alloc (.cells #[.int .i64 a1, .string a2] 153)).alloc (.cells #[.int .i64 b1, .string b2] 153)).cell? ⟨w.heap.size, 1, none⟩ = some (.string a2) := by simp
  have e2 : ((w.alloc (.cells #[.int .i64 a1, .string a2] 153)).alloc (.cells #[.int .i64 b1, .string b2] 153)).cell? ⟨w.heap.size + 1, 0, none⟩ = some (.int .i64 b1) := by simp
  have e3 : ((w.alloc (.cells #[.int .i64 a1, .string a2] 153)).alloc (.cells #[.int .i64 b1, .string b2] 153)).cell? ⟨w.heap.size + 1, 1, none⟩ = some (.string b2) := by simp
  have BB := Lib.hid ((Below.refl w.heap.size w).alloc (Nat.le_refl _) (.cells #[.int .i64 a1, .string a2] 153) |>.alloc (by simp) (.cells #[.int .i64 b1, .string b2] 153))
  generalize (w.alloc (.cells #[.int .i64 a1, .string a2] 153)).alloc (.cells #[.int .i64 b1, .string b2] 153) = w1 at *
  obtain ⟨p, hp⟩ : ∃ p, w.heap.size = p := ⟨_, rfl⟩
  obtain ⟨q, hq⟩ : ∃ q, w.heap.size + 1 = q := ⟨_, rfl⟩
  rw [hq] at e2 e3 ⊢
  have T := Lib.hid (show Box4 w1 w.heap.size q (.int .i64 a1) (.string a2) (.int .i64 b1) (.string b2) w1 from ⟨Below.refl _ _, e0, e1, e2, e3⟩)
  clear e0 e1 e2 e3 hq hp
  go_region_held3 (fun w' => Below w1.heap.size w1 w' ∧ w'.cell? ⟨w.heap.size, 0, none⟩ = some (.int .i64 a1) ∧ w'.cell? ⟨w.heap.size, 1, none⟩ = some (.string a2) ∧ w'.cell? ⟨q, 0, none⟩ = some (.int .i64 b1) ∧ w'.cell? ⟨q, 1, none⟩ = some (.string b2))
    (first | assumption | exact box4_carry T.out (below_drewN w1 _) | exact box4_carry T.out (Below.refl _ _).drew | exact box4_carry (by assumption) (below_one _ _) | exact box4_carry (by assumption) (by assumption))
    (first
      | (go_at_call 134; refine (C1.out _).mono ?_; rintro e w' ⟨rfl, rfl⟩)
      | (go_at_call 107; refine (C2.out _).mono ?_; rintro e w' ⟨rfl, rfl⟩)
      | (go_at_call 133; refine (or_any _ _ x y _ (by simp) (by simp)).mono ?_; rintro e w' ⟨rfl, rfl⟩))
  rename_i T5
  obtain ⟨hb5, -⟩ := T5
  go_wp2_with fail
  go_ret
  exact ⟨ret_int HV.out.symm, BB.out.trans (hb5.mono BB.out.size)⟩
end Go.Proofs.YtgnaiahnednllaaGreat
namespace Go.Proofs.YtgnaiahnednllaaGreat
open Go.RowKit
set_option linter.unusedVariables false
set_option maxRecDepth 20000
theorem pless_any (a b : KV) (w : World) :
    Calls Tryz.prog 109 #[keyV a, keyV b] w fun e w' => e = .returned (.bool (lessK a b)) ∧ Below w.heap.size w w' := by
  unfold lessK
  have C := Lib.hid (fun w => order_any a b w)
  obtain ⟨v, hv⟩ : ∃ v, ordK a b = v := ⟨_, rfl⟩
  rw [hv] at C ⊢
  clear hv
  obtain ⟨a1, a2⟩ := a
  obtain ⟨b1, b2⟩ := b
  unfold keyV at C ⊢
  simp only at C ⊢
  go_enter Tryz.func109, Tryz.ntmps109
  go_wp2_with fail
  refine (C.out _).mono ?_
  rintro e w' ⟨rfl, hb⟩
  go_wp2_with fail
  go_ret
  exact ⟨rfl, ((Below.refl w.heap.size w).alloc (Nat.le_refl _) _ |>.alloc (by simp) _).trans (hb.mono (by simp; omega))⟩
theorem pless_lit (a b : KV) (c : Bool) (hc : lessK a b = c) (w : World) :
    Calls Tryz.prog 109 #[keyV a, keyV b] w fun e w' => e = .returned (.bool c) ∧ Below w.heap.size w w' := by subst hc; exact pless_any a b w
def mayK (k : KV) : Prop := 1 ≤ k.1 ∧ k.1 ≤ 12 ∧ 0 ≤ lenS k.2 ∧ lenS k.2 ≤ 12
instance (k : KV) : Decidable (mayK k) := by unfold mayK; infer_instance
theorem may_any (k : KV) (hk : KeyOk k) (w : World) :
    Calls Tryz.prog 108 #[keyV k] w fun e w' => e = .returned (.bool (decide (mayK k))) ∧ Below w.heap.size w w' := by
  obtain ⟨c, hcv⟩ : ∃ c, decide (mayK k) = c := ⟨_, rfl⟩
  rw [hcv]
  have hm : c = true ↔ mayK k := by rw [← hcv]; exact decide_eq_true_iff
  clear hcv
  obtain ⟨k1, k2⟩ := k
  have hb1 := hk.1
  unfold i64okK at hb1
  have C := Lib.hid (fun w => len_any k2 w hk.2)
  unfold mayK at hm
  unfold keyV
  simp only at hb1 hm ⊢
  have hs := hk.2
  simp only at hs
  obtain ⟨n, hn⟩ : ∃ n, lenS k2 = n := ⟨_, rfl⟩
  have hnb : -1 ≤ n ∧ n ≤ 9223372036854775807 := by rw [← hn]; have := lenS_bd k2; omega
  simp only [hn] at C hm
  clear hn hk
  have hcase : (k1 < 1 ∧ c = false) ∨ (1 ≤ k1 ∧ 12 < k1 ∧ c = false) ∨ (1 ≤ k1 ∧ k1 ≤ 12 ∧ n < 0 ∧ c = false) ∨ (1 ≤ k1 ∧ k1 ≤ 12 ∧ 0 ≤ n ∧ 12 < n ∧ c = false) ∨ (1 ≤ k1 ∧ k1 ≤ 12 ∧ 0 ≤ n ∧ n ≤ 12 ∧ c = true) := by
    cases c <;> simp at hm ⊢ <;> omega
  clear hm
  rcases hcase with ⟨h, rfl⟩ | ⟨h, h2, rfl⟩ | ⟨h, h2, h3, rfl⟩ | ⟨h, h2, h3, h4, rfl⟩ | ⟨h, h2, h3, h4, rfl⟩
  all_goals
    first
      | have x1 : decide (k1 ≥ 1) = false := by rw [decide_eq_false_iff_not]; omega
      | have x1 : decide (k1 ≥ 1) = true := by rw [decide_eq_true_iff]; omega
    first
      | have x2 : decide (k1 ≤ 12) = false := by rw [decide_eq_false_iff_not]; omega
      | have x2 : decide (k1 ≤ 12) = true := by rw [decide_eq_true_iff]; omega
      | skip
    first
      | have x3 : decide (n ≥ 0) = false := by rw [decide_eq_false_iff_not]; omega
      | have x3 : decide (n ≥ 0) = true := by rw [decide_eq_true_iff]; omega
      | skip
    first
      | have x4 : decide (n ≤ 12) = false := by rw [decide_eq_false_iff_not]; omega
      | have x4 : decide (n ≤ 12) = true := by rw [decide_eq_true_iff]; omega
      | skip
    have hcell : ∀ w', Below (w.alloc (.cells #[.int .i64 k1, .string k2] 153)).heap.size (w.alloc (.cells #[.int .i64 k1, .string k2] 153)) w' → w'.cell? ⟨w.heap.size, 0, none⟩ = some (.int .i64 k1) := fun w' hb => by
      rw [hb.cell (p := ⟨w.heap.size, 0, none⟩) (by simp)]; simp
    have HC := Lib.hid hcell
    clear hcell
    go_enter Tryz.func108, Tryz.ntmps108
    go_wp2_with fail
    refine (C.out _).mono ?_
    rintro e w' ⟨rfl, hb⟩
    have e1 := HC.out w' hb
    go_wp2_with fail
    go_ret
    exact ⟨rfl, (below_one w _).trans (hb.mono (by simp))⟩
theorem word_bool' {w : World} (s : Tx) (b : Bool) (hs : s.size ≤ 9223372036854775807) (hb : decide (wordP s) = b) :
    Calls Tryz.prog 106 #[.string s] w fun e w' => e = .returned (.bool b) ∧ Below w.heap.size w w' := by subst hb; exact word_any s w hs
def keyOf (t : Tx) : KV := (lenS t, t)
def ofN (ks : List KV) (k : KV) : Nat := ks.findIdx fun c => decide (ordK k c < 0)
theorem ofN_le (ks : List KV) (k : KV) : ofN ks k ≤ ks.length := List.findIdx_le_length
def ofZ (ks : List KV) (t : Tx) : Int := if wordP t then ofN ks (keyOf t) else -1
theorem closure_any (B : Nat) (k c : KV) (w : World) (h0 : w.cell? ⟨B, 0, none⟩ = some (.int .i64 k.1)) (h1 : w.cell? ⟨B, 1, none⟩ = some (.string k.2)) :
    Calls Tryz.prog 166 #[keyV c, .pointer (some ⟨B, 0, none⟩)] w fun e w' => e = .returned (.bool (decide (ordK k c < 0))) ∧ Below w.heap.size w w' := by
  have C := Lib.hid (fun w => order_any k c w)
  obtain ⟨v, hv⟩ : ∃ v, ordK k c = v := ⟨_, rfl⟩
  rw [hv] at C ⊢
  clear hv
  obtain ⟨k1, k2⟩ := k
  obtain ⟨c1, c2⟩ := c
  unfold keyV at C ⊢
  simp only at C h0 h1 ⊢
  have e0 : (w.alloc (.cells #[.int .i64 c1, .string c2] 153)).cell? ⟨B, 0, none⟩ = some (.int .i64 k1) := by
    rw [(below_one w (.cells #[.int .i64 c1, .string c2] 153)).cell (p := ⟨B, 0, none⟩) (lt_of_cell h0)]; exact h0
  have e1 : (w.alloc (.cells #[.int .i64 c1, .string c2] 153)).cell? ⟨B, 1, none⟩ = some (.string k2) := by
    rw [(below_one w (.cells #[.int .i64 c1, .string c2] 153)).cell (p := ⟨B, 1, none⟩) (lt_of_cell h1)]; exact h1
  go_enter Tryz.func166, Tryz.ntmps166
  go_wp2_with fail
  refine (C.out _).mono ?_
  rintro e w' ⟨rfl, hb⟩
  go_wp2_with fail
  go_ret
  exact ⟨rfl, (below_one w _).trans (hb.mono (by simp))⟩
theorem findIdx_take {α : Type} (p : α → Bool) (xs : List α) (z : α) (j : Nat) (hj : j < xs.length) (h : ∀ x ∈ xs.take j, p x = false) (hp : p (xs.getD j z) = true) : xs.findIdx p = j := by
  rw [List.findIdx_eq hj]
  have e : xs.getD j z = xs[j] := by simp [List.getD_eq_getElem?_getD, hj]
  refine ⟨by rw [← e]; exact hp, fun i hi => ?_⟩
  have h1 := h xs[i] (by rw [List.mem_take_iff_getElem]; exact ⟨i, by omega, rfl⟩)
  simpa using h1
theorem findIdx_none {α : Type} (p : α → Bool) (xs : List α) (h : ∀ x ∈ xs, p x = false) : xs.findIdx p = xs.length := by
  rw [List.findIdx_eq_length]; exact h
def idxZ (ks : List KV) (k : KV) : Int := if ofN ks k < ks.length then ofN ks k else -1
set_option maxHeartbeats 1600000 in
theorem index_any (a : Option Addr) (n cap B : Nat) (ks : List KV) (k : KV) (w : World) (hh : HoldsK w a n ks) (hn : n ≤ 9223372036854775807) (h0 : w.cell? ⟨B, 0, none⟩ = some (.int .i64 k.1)) (h1 : w.cell? ⟨B, 1, none⟩ = some (.string k.2)) :
    Calls Tryz.prog 165 #[.slice a n cap, .func (.func 166) #[] #[.pointer (some ⟨B, 0, none⟩)]] w fun e w' => e = .returned (.int .i64 (idxZ ks k)) ∧ Below w.heap.size w w' := by
  have hl := hh.len
  have BK := Lib.hid (fun (w3 : World) (hb : Below w.heap.size w w3) => show w3.cell? ⟨B, 0, none⟩ = some (.int .i64 k.1) ∧ w3.cell? ⟨B, 1, none⟩ = some (.string k.2) from ⟨(hb.cell (p := ⟨B, 0, none⟩) (lt_of_cell h0)).trans h0, (hb.cell (p := ⟨B, 1, none⟩) (lt_of_cell h1)).trans h1⟩)
  clear h0 h1
  go_enter Tryz.func165, Tryz.ntmps165
  go_wp2_with fail
  go_loopw [8] (fun iv wr => ∃ j : Nat, j ≤ n ∧ iv = .int .i64 j ∧ Hid (∀ c ∈ ks.take j, decide (ordK k c < 0) = false) ∧ Hid (Below w.heap.size w wr)) (fun iv _ => n - (intOf iv).toNat)
  case atStart => exact ⟨0, by omega, rfl, Lib.hid (by simp), Lib.hid (Below.refl _ _)⟩
  case round =>
    obtain ⟨j, hj, rfl, hS, hB⟩ := hrel
    by_cases hlt : j < n
    · obtain ⟨b, o, rfl, hc⟩ := (hh.below hB.out).at (by omega)
      obtain ⟨e1, e2⟩ := hc j hlt
      have htk := take_succ_getD ks k0 j (by omega)
      obtain ⟨x, hx⟩ : ∃ x, ks.getD j k0 = x := ⟨_, rfl⟩
      rw [hx] at e1 e2 htk
      have HX := Lib.hid hx; have HT := Lib.hid htk
      clear hx htk hc
      have CL := Lib.hid (closure_any B k x wr (BK.out _ hB.out).1 (BK.out _ hB.out).2)
      unfold keyV at CL
      by_cases hp : ordK k x < 0
      · rw [decide_eq_true hp] at CL
        have hf := findIdx_take (fun c => decide (ordK k c < 0)) ks k0 j (by omega) hS.out (by rw [HX.out]; exact decide_eq_true hp)
        have hv : Hid (idxZ ks k = (j : Int)) := Lib.hid (by unfold idxZ ofN; rw [hf, if_pos (by omega)])
        clear hf hp
        go_wp2_with fail
        refine CL.out.mono ?_
        rintro e w2 ⟨rfl, hb2⟩
        go_wp2_with fail
        go_ret
        exact ⟨ret_int hv.out.symm, hB.out.trans (hb2.mono hB.out.size)⟩
      · rw [decide_eq_false hp] at CL
        have HP := Lib.hid (decide_eq_false hp)
        clear hp
        go_wp2_with fail
        refine CL.out.mono ?_
        rintro e w2 ⟨rfl, hb2⟩
        go_wp2_with fail
        go_roundw
        case rel => exact ⟨j + 1, by omega, by go_num, Lib.hid (by rw [HT.out]; intro z hz; rcases List.mem_append.1 hz with hz | hz; exact hS.out z hz; simp at hz; rw [hz]; exact HP.out), Lib.hid (hB.out.trans (hb2.mono hB.out.size))⟩
        case measure => simp [intOf]; omega
    · have hjn : ks.take j = ks := List.take_of_length_le (by omega)
      have hS2 := hS.out
      rw [hjn] at hS2
      have hf := findIdx_none (fun c => decide (ordK k c < 0)) ks hS2
      have hv : Hid (idxZ ks k = -1) := Lib.hid (by unfold idxZ ofN; rw [hf, if_neg (by omega)])
      clear hjn hS2 hf
      go_wp2_with fail
      go_ret
      exact ⟨ret_int hv.out.symm, hB.out⟩
theorem pof_any (a : Option Addr) (n cap : Nat) (ks : List KV) (t : Tx) (w : World) (hh : HoldsK w a n ks) (hn : n ≤ 9223372036854775807) (ht : t.size ≤ 9223372036854775807) :
    Calls Tryz.prog 113 #[.slice a n cap, .string t] w fun e w' => e = .returned (.int .i64 (ofZ ks t)) ∧ Below w.heap.size w w' := by
  have hl := hh.len
  have HL := Lib.hid (fun w => len_any t w ht)
  by_cases hw : wordP t
  · have hof : Hid (ofZ ks t = ofN ks (keyOf t)) := Lib.hid (if_pos hw)
    have HW := Lib.hid (fun w => @word_bool' w t true ht (decide_eq_true hw))
    have hle := ofN_le ks (keyOf t)
    have hI := Lib.hid (fun B w1 (h : HoldsK w1 a n ks) h0 h1 => index_any a n cap B ks (keyOf t) w1 h hn h0 h1)
    unfold keyOf at hI hle
    simp only at hI
    have hix : Hid (idxZ ks (lenS t, t) = if ofN ks (lenS t, t) < n then (ofN ks (lenS t, t) : Int) else -1) := Lib.hid (by unfold idxZ; rw [hl])
    have hof2 : Hid (ofZ ks t = ofN ks (lenS t, t)) := hof
    obtain ⟨L, hL⟩ : ∃ L, lenS t = L := ⟨_, rfl⟩
    rw [hL] at HL hI hle hix hof2
    obtain ⟨m, hm⟩ : ∃ m, ofN ks (L, t) = m := ⟨_, rfl⟩
    rw [hm] at hle hix hof2
    obtain ⟨v, hv⟩ : ∃ v, idxZ ks (L, t) = v := ⟨_, rfl⟩
    rw [hv] at hI hix
    clear hL hm hv hof hw
    by_cases hlt : m < n
    · have hvm : v = (m : Int) := by rw [hix.out, if_pos hlt]
      subst hvm
      go_enter Tryz.func113, Tryz.ntmps113
      go_wp2_with fail
      refine (HW.out _).mono ?_
      rintro e w1 ⟨rfl, hb1⟩
      go_wp2_with fail
      refine (HL.out _).mono ?_
      rintro e w2 ⟨rfl, hb2⟩
      have hbb := hb1.trans (hb2.mono hb1.size)
      have B2 := Lib.hid (hbb.trans ((below_one w2 (.cells #[.int .i64 L, .string t] 153)).mono hbb.size))
      go_wp2_with fail
      refine (hI.out w2.heap.size _ (hh.below B2.out) (by simp) (by simp)).mono ?_
      rintro e w3 ⟨rfl, hb3⟩
      go_wp2_with fail
      go_ret
      exact ⟨ret_int hof2.out.symm, B2.out.trans (hb3.mono B2.out.size)⟩
    · have hvm : v = -1 := by rw [hix.out, if_neg hlt]
      have hmn : m = n := by omega
      subst hvm hmn
      go_enter Tryz.func113, Tryz.ntmps113
      go_wp2_with fail
      refine (HW.out _).mono ?_
      rintro e w1 ⟨rfl, hb1⟩
      go_wp2_with fail
      refine (HL.out _).mono ?_
      rintro e w2 ⟨rfl, hb2⟩
      have hbb := hb1.trans (hb2.mono hb1.size)
      have B2 := Lib.hid (hbb.trans ((below_one w2 (.cells #[.int .i64 L, .string t] 153)).mono hbb.size))
      go_wp2_with fail
      refine (hI.out w2.heap.size _ (hh.below B2.out) (by simp) (by simp)).mono ?_
      rintro e w3 ⟨rfl, hb3⟩
      go_wp2_with fail
      go_ret
      exact ⟨ret_int hof2.out.symm, B2.out.trans (hb3.mono B2.out.size)⟩
  · have hof : Hid (ofZ ks t = -1) := Lib.hid (if_neg hw)
    have HW := Lib.hid (fun w => @word_bool' w t false ht (decide_eq_false hw))
    clear hw
    go_enter Tryz.func113, Tryz.ntmps113
    go_wp2_with fail
    refine (HW.out _).mono ?_
    rintro e w1 ⟨rfl, hb1⟩
    go_wp2_with fail
    go_ret
    exact ⟨ret_int hof.out.symm, hb1⟩
theorem pof_lit (a : Option Addr) (n cap : Nat) (ks : List KV) (t : Tx) (v : Int) (w : World) (hh : HoldsK w a n ks) (hn : n ≤ 9223372036854775807) (ht : t.size ≤ 9223372036854775807) (hv : ofZ ks t = v) :
    Calls Tryz.prog 113 #[.slice a n cap, .string t] w fun e w' => e = .returned (.int .i64 v) ∧ Below w.heap.size w w' := by subst hv; exact pof_any a n cap ks t w hh hn ht
end Go.Proofs.YtgnaiahnednllaaGreat
namespace Go.Proofs.YtgnaiahnednllaaGreat
open Go.RowKit
set_option linter.unusedVariables false
set_option maxRecDepth 20000
def SortedK (l : List KV) : Prop := l.Pairwise fun a b => ordK a b < 0
instance (l : List KV) : Decidable (SortedK l) := by unfold SortedK; infer_instance
def adjK : List KV → Prop
  | x :: y :: l => ordK x y < 0 ∧ adjK (y :: l)
  | _ => True
theorem adjK_sorted : ∀ {l : List KV}, adjK l ↔ SortedK l
  | [] => by simp [adjK, SortedK]
  | [x] => by simp [adjK, SortedK]
  | x :: y :: l => by
    have ih := adjK_sorted (l := y :: l)
    constructor
    · rintro ⟨h1, h2⟩
      have h3 := ih.1 h2
      refine List.pairwise_cons.2 ⟨fun z hz => ?_, h3⟩
      rcases List.mem_cons.1 hz with e | e
      · rw [e]; exact h1
      · exact ordK_trans h1 ((List.pairwise_cons.1 h3).1 z e)
    · intro h
      obtain ⟨h1, h2⟩ := List.pairwise_cons.1 h
      exact ⟨h1 y (List.mem_cons_self ..), ih.2 h2⟩
theorem adjK_iff (l : List KV) : SortedK l ↔ ∀ i, i + 1 < l.length → ordK (l.getD i k0) (l.getD (i + 1) k0) < 0 := by
  rw [← adjK_sorted]
  induction l with
  | nil => simp [adjK]
  | cons x l ih =>
    cases l with
    | nil => simp [adjK]
    | cons y l =>
      constructor
      · rintro ⟨h1, h2⟩ i hi
        cases i with
        | zero => simpa using h1
        | succ i =>
          have := (ih.1 h2) i (by simpa using hi)
          simpa using this
      · intro h
        refine ⟨by simpa using h 0 (by simp), ih.2 fun i hi => ?_⟩
        have := h (i + 1) (by simpa using hi)
        simpa using this
def goodK (l : List KV) : Int := if 5 < l.length then 3 else if ∃ k ∈ l, ¬ mayK k then 2 else if SortedK l then 0 else 7
theorem goodK_zero {l : List KV} (h : goodK l = 0) : l.length ≤ 5 ∧ (∀ k ∈ l, mayK k) ∧ SortedK l := by
  unfold goodK at h
  split at h
  · omega
  · split at h
    · omega
    · split at h
      · rename_i h1 h2 h3
        exact ⟨by omega, fun t ht => Classical.byContradiction fun k => h2 ⟨t, ht, k⟩, h3⟩
      · omega
theorem goodK_of {l : List KV} (h : l.length ≤ 5) (h1 : ∀ k ∈ l, mayK k) (h2 : SortedK l) : goodK l = 0 := by
  unfold goodK; rw [if_neg (by omega), if_neg (fun ⟨t, ht, k⟩ => k (h1 t ht)), if_pos h2]
theorem goodK_long {l : List KV} (h : 5 < l.length) : goodK l = 3 := by unfold goodK; rw [if_pos h]
theorem goodK_bad {l : List KV} (h : l.length ≤ 5) (t : KV) (ht : t ∈ l) (hw : ¬ mayK t) : goodK l = 2 := by
  unfold goodK; rw [if_neg (by omega), if_pos ⟨t, ht, hw⟩]
theorem goodK_sort {l : List KV} (h : l.length ≤ 5) (hw : ∀ t ∈ l, mayK t) (hs : ¬ SortedK l) : goodK l = 7 := by
  unfold goodK; rw [if_neg (by omega), if_neg (fun ⟨t, ht, k⟩ => k (hw t ht)), if_neg hs]
theorem may_lit (k : KV) (c : Bool) (hk : KeyOk k) (hc : decide (mayK k) = c) (w : World) :
    Calls Tryz.prog 108 #[keyV k] w fun e w' => e = .returned (.bool c) ∧ Below w.heap.size w w' := by subst hc; exact may_any k hk w
/-- two keys of a row -/
def Two4 (w0 : World) (b p q : Nat) (x y : KV) (w : World) : Prop := Below w0.heap.size w0 w ∧ w.cell? ⟨b, p, none⟩ = some (.int .i64 x.1) ∧ w.cell? ⟨b, p + 1, none⟩ = some (.string x.2) ∧ w.cell? ⟨b, q, none⟩ = some (.int .i64 y.1) ∧ w.cell? ⟨b, q + 1, none⟩ = some (.string y.2)
theorem two4_carry {w0 w w' : World} {b p q : Nat} {x y : KV} (h : Two4 w0 b p q x y w) (hb : Below w.heap.size w w') : Two4 w0 b p q x y w' := by
  have hlt := lt_of_cell h.2.1
  refine ⟨h.1.trans (hb.mono h.1.size), ?_, ?_, ?_, ?_⟩
  · rw [hb.cell (p := ⟨b, p, none⟩) hlt]; exact h.2.1
  · rw [hb.cell (p := ⟨b, p + 1, none⟩) hlt]; exact h.2.2.1
  · rw [hb.cell (p := ⟨b, q, none⟩) hlt]; exact h.2.2.2.1
  · rw [hb.cell (p := ⟨b, q + 1, none⟩) hlt]; exact h.2.2.2.2
set_option maxHeartbeats 3200000 in
theorem pgood_any (a : Option Addr) (n cap : Nat) (ks : List KV) (w : World) (hh : HoldsK w a n ks) (hn : n ≤ 9223372036854775807) (hk : ∀ k ∈ ks, KeyOk k) :
    Calls Tryz.prog 63 #[.slice a n cap] w fun e w' => e = .returned (.int .i64 (goodK ks)) ∧ Below w.heap.size w w' := by
  have hl := hh.len
  by_cases h5 : n ≤ 5
  case neg =>
    rw [goodK_long (by omega)]
    go_enter Tryz.func63, Tryz.ntmps63
    go_wp2_with fail
    go_ret
    exact ⟨rfl, Below.refl _ _⟩
  go_enter Tryz.func63, Tryz.ntmps63
  go_wp2_with fail
  go_loopw [11] (fun iv wr => ∃ j : Nat, j ≤ n ∧ iv = .int .i64 j ∧ Hid (∀ t ∈ ks.take j, mayK t) ∧ Hid (Below w.heap.size w wr)) (fun iv _ => n - (intOf iv).toNat)
  case atStart => exact ⟨0, by omega, rfl, Lib.hid (by simp), Lib.hid (Below.refl _ _)⟩
  case round =>
    obtain ⟨j, hj, rfl, hS, hB⟩ := hrel
    by_cases hlt : j < n
    · obtain ⟨b, o, rfl, hc⟩ := (hh.below hB.out).at (by omega)
      obtain ⟨e1, e2⟩ := hc j hlt
      have hmem := getD_memK ks j (by omega)
      have htk := take_succ_getD ks k0 j (by omega)
      obtain ⟨x, hx⟩ : ∃ x, ks.getD j k0 = x := ⟨_, rfl⟩
      rw [hx] at e1 e2 hmem htk
      have HX := Lib.hid (hk x hmem); have HM := Lib.hid hmem; have HT := Lib.hid htk
      clear hx hmem htk hc
      by_cases hw : mayK x
      · have HW := Lib.hid hw
        have C := Lib.hid (fun w => may_lit x true HX.out (decide_eq_true hw) w)
        unfold keyV at C
        clear hw
        go_wp2_with fail
        refine (C.out _).mono ?_
        rintro e w2 ⟨rfl, hb2⟩
        have B2 := Lib.hid (hB.out.trans (((below_one wr _).trans (hb2.mono (by simp))).mono hB.out.size))
        clear hb2
        go_wp2_with fail
        go_roundw
        case rel => exact ⟨j + 1, by omega, by go_num, Lib.hid (by rw [HT.out]; intro z hz; rcases List.mem_append.1 hz with hz | hz; exact hS.out z hz; simp at hz; rw [hz]; exact HW.out), B2⟩
        case measure => simp [intOf]; omega
      · have C := Lib.hid (fun w => may_lit x false HX.out (decide_eq_false hw) w)
        unfold keyV at C
        have HG := Lib.hid (goodK_bad (by omega) x HM.out hw)
        clear hw
        go_wp2_with fail
        refine (C.out _).mono ?_
        rintro e w2 ⟨rfl, hb2⟩
        have B2 := Lib.hid (hB.out.trans (((below_one wr _).trans (hb2.mono (by simp))).mono hB.out.size))
        clear hb2
        go_wp2_with fail
        go_ret
        exact ⟨ret_int HG.out.symm, B2.out⟩
    · have hjn : ks.take j = ks := List.take_of_length_le (by omega)
      have hwd := hS.out
      rw [hjn] at hwd
      have HW := Lib.hid hwd
      have hB1 := hB
      clear hjn hwd hS hB
      go_wp2_with fail
      go_loopw [5] (fun iv wr2 => ∃ i : Nat, 1 ≤ i ∧ i ≤ n + 1 ∧ iv = .int .i64 i ∧ Hid (∀ k, k + 1 < i → k + 1 < n → ordK (ks.getD k k0) (ks.getD (k + 1) k0) < 0) ∧ Hid (Below w.heap.size w wr2)) (fun iv _ => n + 1 - (intOf iv).toNat)
      case atStart => exact ⟨1, by omega, by omega, rfl, Lib.hid (fun k h1 => by omega), hB1⟩
      case round =>
        obtain ⟨i, hi1, hi2, rfl, hS, hB⟩ := hrel
        by_cases hlt2 : i < n
        · obtain ⟨b, o, rfl, hc⟩ := (hh.below hB.out).at (by omega)
          obtain ⟨q, hq⟩ : ∃ q, q = i - 1 := ⟨_, rfl⟩
          have hqi : q + 1 = i := by omega
          obtain ⟨e3, e4⟩ := hc i hlt2
          obtain ⟨e1, e2⟩ := hc q (by omega)
          obtain ⟨x, hx⟩ : ∃ x, ks.getD q k0 = x := ⟨_, rfl⟩
          obtain ⟨y, hy⟩ : ∃ y, ks.getD i k0 = y := ⟨_, rfl⟩
          rw [hx] at e1 e2; rw [hy] at e3 e4
          have HX := Lib.hid hx; have HY := Lib.hid hy; have HQ := Lib.hid hqi
          have T := Lib.hid (show Two4 wr b (o + q * 2) (o + i * 2) x y wr from ⟨Below.refl _ _, e1, e2, e3, e4⟩)
          have hr : IntKind.i64.wrap ((i : Int) - 1) = (q : Int) := by rw [IntWalk.i64_in _ (by omega)]; omega
          have g1 : (0 : Int) ≤ (q : Int) := by omega
          have g2 : (q : Int) < (n : Int) := by omega
          have g3 : (0 : Int) ≤ (i : Int) := by omega
          have g4 : (i : Int) < (n : Int) := by omega
          have bs := hB.out.size
          clear hx hy hc hq hqi e1 e2 e3 e4
          by_cases hvn : ordK x y < 0
          · have C := Lib.hid (fun w => pless_lit x y true (decide_eq_true hvn) w)
            unfold keyV at C
            have HV := Lib.hid hvn
            clear hvn
            go_upto_region 12 with fail
            go_region_held3 (fun w' => Below wr.heap.size wr w' ∧ w'.cell? ⟨b, o + q * 2, none⟩ = some (.int .i64 x.1) ∧ w'.cell? ⟨b, o + q * 2 + 1, none⟩ = some (.string x.2) ∧ w'.cell? ⟨b, o + i * 2, none⟩ = some (.int .i64 y.1) ∧ w'.cell? ⟨b, o + i * 2 + 1, none⟩ = some (.string y.2))
              (first | assumption | exact two4_carry T.out (below_drewN wr _) | exact two4_carry T.out (Below.refl _ _).drew | exact two4_carry (by assumption) (by assumption))
              (first | (go_at_call 109; refine (C.out _).mono ?_; rintro e w' ⟨rfl, hb⟩))
            rename_i T5
            obtain ⟨hb5, -⟩ := T5
            go_wp2_with fail
            go_roundw
            case rel =>
              refine ⟨i + 1, by omega, by omega, by go_num, Lib.hid (fun k h1 h2 => ?_), Lib.hid (hB.out.trans (hb5.mono bs))⟩
              by_cases hk2 : k = q
              · subst hk2; rw [HX.out, HQ.out, HY.out]; exact HV.out
              · exact hS.out k (by have := HQ.out; omega) h2
            case measure => simp [intOf]; omega
          · have C := Lib.hid (fun w => pless_lit x y false (decide_eq_false hvn) w)
            unfold keyV at C
            have hg := goodK_sort (by omega) HW.out (fun hs => hvn (by have := (adjK_iff ks).1 hs q (by have := HQ.out; omega); rw [HX.out, HQ.out, HY.out] at this; exact this))
            have HG := Lib.hid hg
            clear hg hvn
            go_upto_region 12 with fail
            go_region_held3 (fun w' => Below wr.heap.size wr w' ∧ w'.cell? ⟨b, o + q * 2, none⟩ = some (.int .i64 x.1) ∧ w'.cell? ⟨b, o + q * 2 + 1, none⟩ = some (.string x.2) ∧ w'.cell? ⟨b, o + i * 2, none⟩ = some (.int .i64 y.1) ∧ w'.cell? ⟨b, o + i * 2 + 1, none⟩ = some (.string y.2))
              (first | assumption | exact two4_carry T.out (below_drewN wr _) | exact two4_carry T.out (Below.refl _ _).drew | exact two4_carry (by assumption) (by assumption))
              (first | (go_at_call 109; refine (C.out _).mono ?_; rintro e w' ⟨rfl, hb⟩))
            rename_i T5
            obtain ⟨hb5, -⟩ := T5
            go_wp2_with fail
            go_ret
            exact ⟨ret_int HG.out.symm, hB.out.trans (hb5.mono bs)⟩
        · have hg := goodK_of (l := ks) (by omega) HW.out ((adjK_iff ks).2 fun k hk => hS.out k (by omega) (by omega))
          have HG := Lib.hid hg
          clear hg
          go_wp2_with fail
          go_ret
          exact ⟨ret_int HG.out.symm, hB.out⟩
end Go.Proofs.YtgnaiahnednllaaGreat
namespace Go.Proofs.YtgnaiahnednllaaGreat
open Go.RowKit
set_option linter.unusedVariables false
set_option maxRecDepth 20000
/-- a configuration, and where its words and cuts lie -/
structure Cfg where
  wa : Option Addr
  wn : Nat
  wc : Nat
  ka : Option Addr
  kn : Nat
  kc : Nat
  W : Int
  C : Int
  S : Int
  B : Int
  L : Int
  H : Int
  F : Int
  P : Int
  J : Int
  N : Int
  ws : List Tx
  ks : List KV
def CfgOk (w : World) (c : Cfg) : Prop := HoldsT w c.wa c.wn c.ws ∧ (c.wa = none → c.wn = 0 ∧ c.wc = 0) ∧ c.wn ≤ c.wc ∧ c.wn ≤ 9223372036854775807 ∧ (∀ t ∈ c.ws, t.size ≤ 9223372036854775807) ∧ HoldsK w c.ka c.kn c.ks ∧ c.kn ≤ 9223372036854775807 ∧ ∀ k ∈ c.ks, KeyOk k
theorem CfgOk.below {w w' : World} {c : Cfg} (h : CfgOk w c) (hb : Below w.heap.size w w') : CfgOk w' c := ⟨h.1.below hb, h.2.1, h.2.2.1, h.2.2.2.1, h.2.2.2.2.1, h.2.2.2.2.2.1.below hb, h.2.2.2.2.2.2⟩
def CfgIn (w : World) (p : Nat) (c : Cfg) : Prop := w.cell? ⟨p, 0, none⟩ = some (.slice c.wa c.wn c.wc) ∧ w.cell? ⟨p, 1, none⟩ = some (.slice c.ka c.kn c.kc) ∧ w.cell? ⟨p, 2, none⟩ = some (.int .i64 c.W) ∧ w.cell? ⟨p, 3, none⟩ = some (.int .i64 c.C) ∧ w.cell? ⟨p, 4, none⟩ = some (.int .i64 c.S) ∧ w.cell? ⟨p, 5, none⟩ = some (.int .i64 c.B) ∧ w.cell? ⟨p, 6, none⟩ = some (.int .i64 c.L) ∧ w.cell? ⟨p, 7, none⟩ = some (.int .i64 c.H) ∧ w.cell? ⟨p, 8, none⟩ = some (.int .i64 c.F) ∧ w.cell? ⟨p, 9, none⟩ = some (.int .i64 c.P) ∧ w.cell? ⟨p, 10, none⟩ = some (.int .i64 c.J) ∧ w.cell? ⟨p, 11, none⟩ = some (.int .i64 c.N)
theorem CfgIn.of {w w' : World} {p : Nat} {c : Cfg} (h : CfgIn w p c) (e : ∀ i, w'.cell? ⟨p, i, none⟩ = w.cell? ⟨p, i, none⟩) : CfgIn w' p c := by
  unfold CfgIn at *
  rw [e, e, e, e, e, e, e, e, e, e, e, e]; exact h
theorem CfgIn.below {w w' : World} {p : Nat} {c : Cfg} (h : CfgIn w p c) (hb : Below w.heap.size w w') : CfgIn w' p c := h.of fun i => hb.cell (p := ⟨p, i, none⟩) (lt_of_cell h.1)
theorem cfgIn_new (w : World) (c : Cfg) (p : Nat) (e : TypeId) (fr : Nat × Nat) (hp : p = w.heap.size) : CfgIn (w.alloc (.cells #[.slice c.wa c.wn c.wc, .slice c.ka c.kn c.kc, .int .i64 c.W, .int .i64 c.C, .int .i64 c.S, .int .i64 c.B, .int .i64 c.L, .int .i64 c.H, .int .i64 c.F, .int .i64 c.P, .int .i64 c.J, .int .i64 c.N] e fr)) p c := by
  subst hp
  unfold CfgIn
  refine ⟨?_, ?_, ?_, ?_, ?_, ?_, ?_, ?_, ?_, ?_, ?_, ?_⟩ <;> (rw [World.cell?_alloc_mark]; rfl)
theorem pin_lit (n lo hi : Int) (c : Bool) (w : World) (h : decide (lo ≤ n ∧ n ≤ hi) = c) :
    Calls Tryz.prog 64 #[.int .i64 n, .int .i64 lo, .int .i64 hi] w fun e w' => e = .returned (.bool c) ∧ w = w' := by
  subst h
  go_enter Tryz.func64, Tryz.ntmps64
  go_wp2
  all_goals (go_ret; exact ⟨ret_bool (by simp; try omega), rfl⟩)
/-- may it be? -/
def Cfg.may (c : Cfg) : Bool := decide (goodV c.ws = 0) && (decide (goodK c.ks = 0) && (decide (1 ≤ c.W ∧ c.W ≤ 5) && (decide (1 ≤ c.C ∧ c.C ≤ min 3 c.W) && (decide (1 ≤ c.S ∧ c.S ≤ 4) && (decide (1 ≤ c.B ∧ c.B ≤ 5) && (decide (1 ≤ c.L ∧ c.L ≤ 1000) && (decide (1 ≤ c.H ∧ c.H ≤ 1000) && (decide (1 ≤ c.F ∧ c.F ≤ 10) && (decide (c.F ≤ c.P ∧ c.P ≤ 50) && (decide (0 ≤ c.J ∧ c.J ≤ 10) && (decide (8 ≤ c.N ∧ c.N ≤ 64))))))))))))
set_option maxHeartbeats 6400000 in
set_option maxRecDepth 100000 in
theorem may_cfg (c : Cfg) (z : Bool) (w : World) (h : CfgOk w c) (hz : c.may = z) :
    Calls Tryz.prog 18 #[.agg #[.slice c.wa c.wn c.wc, .slice c.ka c.kn c.kc, .int .i64 c.W, .int .i64 c.C, .int .i64 c.S, .int .i64 c.B, .int .i64 c.L, .int .i64 c.H, .int .i64 c.F, .int .i64 c.P, .int .i64 c.J, .int .i64 c.N]] w fun e w' => e = .returned (.bool z) ∧ Below w.heap.size w w' := by
  obtain ⟨v1, hv1⟩ : ∃ v, goodV c.ws = v := ⟨_, rfl⟩
  obtain ⟨v2, hv2⟩ : ∃ v, goodK c.ks = v := ⟨_, rfl⟩
  unfold Cfg.may at hz
  rw [hv1, hv2] at hz
  obtain ⟨z0, h0⟩ : ∃ z, decide (v1 = 0) = z := ⟨_, rfl⟩
  obtain ⟨z1, h1⟩ : ∃ z, decide (v2 = 0) = z := ⟨_, rfl⟩
  obtain ⟨z2, h2⟩ : ∃ z, decide (1 ≤ c.W ∧ c.W ≤ 5) = z := ⟨_, rfl⟩
  obtain ⟨z3, h3⟩ : ∃ z, decide (1 ≤ c.C ∧ c.C ≤ min 3 c.W) = z := ⟨_, rfl⟩
  obtain ⟨z4, h4⟩ : ∃ z, decide (1 ≤ c.S ∧ c.S ≤ 4) = z := ⟨_, rfl⟩
  obtain ⟨z5, h5⟩ : ∃ z, decide (1 ≤ c.B ∧ c.B ≤ 5) = z := ⟨_, rfl⟩
  obtain ⟨z6, h6⟩ : ∃ z, decide (1 ≤ c.L ∧ c.L ≤ 1000) = z := ⟨_, rfl⟩
  obtain ⟨z7, h7⟩ : ∃ z, decide (1 ≤ c.H ∧ c.H ≤ 1000) = z := ⟨_, rfl⟩
  obtain ⟨z8, h8⟩ : ∃ z, decide (1 ≤ c.F ∧ c.F ≤ 10) = z := ⟨_, rfl⟩
  obtain ⟨z9, h9⟩ : ∃ z, decide (c.F ≤ c.P ∧ c.P ≤ 50) = z := ⟨_, rfl⟩
  obtain ⟨z10, h10⟩ : ∃ z, decide (0 ≤ c.J ∧ c.J ≤ 10) = z := ⟨_, rfl⟩
  obtain ⟨z11, h11⟩ : ∃ z, decide (8 ≤ c.N ∧ c.N ≤ 64) = z := ⟨_, rfl⟩
  rw [h0, h1, h2, h3, h4, h5, h6, h7, h8, h9, h10, h11] at hz
  have HZ := Lib.hid hz
  have V1 := Lib.hid hv1; have V2 := Lib.hid hv2
  have H2 := Lib.hid h2
  have H3 := Lib.hid h3
  have H4 := Lib.hid h4
  have H5 := Lib.hid h5
  have H6 := Lib.hid h6
  have H7 := Lib.hid h7
  have H8 := Lib.hid h8
  have H9 := Lib.hid h9
  have H10 := Lib.hid h10
  have H11 := Lib.hid h11
  have e0 : (v1 == 0) = z0 := by rw [← h0]; rfl
  have e1 : (v2 == 0) = z1 := by rw [← h1]; rfl
  have OK := Lib.hid (h.below (below_one w (.cells #[.slice c.wa c.wn c.wc, .slice c.ka c.kn c.kc, .int .i64 c.W, .int .i64 c.C, .int .i64 c.S, .int .i64 c.B, .int .i64 c.L, .int .i64 c.H, .int .i64 c.F, .int .i64 c.P, .int .i64 c.J, .int .i64 c.N] 25)))
  have BX := Lib.hid (below_one w (.cells #[.slice c.wa c.wn c.wc, .slice c.ka c.kn c.kc, .int .i64 c.W, .int .i64 c.C, .int .i64 c.S, .int .i64 c.B, .int .i64 c.L, .int .i64 c.H, .int .i64 c.F, .int .i64 c.P, .int .i64 c.J, .int .i64 c.N] 25))
  have IN := Lib.hid (cfgIn_new w c w.heap.size 25 (0, 0) rfl)
  clear hz hv1 hv2 h0 h1 h2 h3 h4 h5 h6 h7 h8 h9 h10 h11 h
  go_enter Tryz.func18, Tryz.ntmps18
  go_wp2_with fail
  refine (good_any' c.wa c.wn c.wc c.ws _ OK.out.1 OK.out.2.2.2.1 OK.out.2.2.2.2.1).mono ?_
  rw [V1.out]
  rintro e w2 ⟨rfl, hb2⟩
  have I2 := Lib.hid (IN.out.below hb2)
  have OK2 := Lib.hid (OK.out.below hb2)
  have B2 := Lib.hid (BX.out.trans (hb2.mono BX.out.size))
  clear hb2
  have hI := I2.out
  unfold CfgIn at hI
  obtain ⟨i0, i1, i2, i3, i4, i5, i6, i7, i8, i9, i10, i11⟩ := hI
  cases z0
  · go_wp2_with fail
    go_ret
    exact ⟨by rw [← HZ.out]; rfl, B2.out⟩
  go_wp2_with fail
  refine (pgood_any c.ka c.kn c.kc c.ks _ OK2.out.2.2.2.2.2.1 OK2.out.2.2.2.2.2.2.1 OK2.out.2.2.2.2.2.2.2).mono ?_
  rw [V2.out]
  rintro e w3 ⟨rfl, hb3⟩
  have I3 := Lib.hid (I2.out.below hb3)
  have BZ := Lib.hid (B2.out.trans (hb3.mono B2.out.size))
  clear hb3 i0 i1 i2 i3 i4 i5 i6 i7 i8 i9 i10 i11
  have hI := I3.out
  unfold CfgIn at hI
  obtain ⟨i0, i1, i2, i3, i4, i5, i6, i7, i8, i9, i10, i11⟩ := hI
  cases z1
  · go_wp2_with fail
    go_ret
    exact ⟨by rw [← HZ.out]; rfl, BZ.out⟩
  go_wp2_with fail
  refine (pin_lit c.W 1 5 z2 _ H2.out).mono ?_
  rintro e w' ⟨rfl, rfl⟩
  cases z2
  · go_wp2_with fail
    go_ret
    exact ⟨by rw [← HZ.out]; rfl, BZ.out⟩
  go_wp2_with fail
  refine (pin_lit c.C 1 (min 3 c.W) z3 _ H3.out).mono ?_
  rintro e w' ⟨rfl, rfl⟩
  cases z3
  · go_wp2_with fail
    go_ret
    exact ⟨by rw [← HZ.out]; rfl, BZ.out⟩
  go_wp2_with fail
  refine (pin_lit c.S 1 4 z4 _ H4.out).mono ?_
  rintro e w' ⟨rfl, rfl⟩
  cases z4
  · go_wp2_with fail
    go_ret
    exact ⟨by rw [← HZ.out]; rfl, BZ.out⟩
  go_wp2_with fail
  refine (pin_lit c.B 1 5 z5 _ H5.out).mono ?_
  rintro e w' ⟨rfl, rfl⟩
  cases z5
  · go_wp2_with fail
    go_ret
    exact ⟨by rw [← HZ.out]; rfl, BZ.out⟩
  go_wp2_with fail
  refine (pin_lit c.L 1 1000 z6 _ H6.out).mono ?_
  rintro e w' ⟨rfl, rfl⟩
  cases z6
  · go_wp2_with fail
    go_ret
    exact ⟨by rw [← HZ.out]; rfl, BZ.out⟩
  go_wp2_with fail
  refine (pin_lit c.H 1 1000 z7 _ H7.out).mono ?_
  rintro e w' ⟨rfl, rfl⟩
  cases z7
  · go_wp2_with fail
    go_ret
    exact ⟨by rw [← HZ.out]; rfl, BZ.out⟩
  go_wp2_with fail
  refine (pin_lit c.F 1 10 z8 _ H8.out).mono ?_
  rintro e w' ⟨rfl, rfl⟩
  cases z8
  · go_wp2_with fail
    go_ret
    exact ⟨by rw [← HZ.out]; rfl, BZ.out⟩
  go_wp2_with fail
  refine (pin_lit c.P c.F 50 z9 _ H9.out).mono ?_
  rintro e w' ⟨rfl, rfl⟩
  cases z9
  · go_wp2_with fail
    go_ret
    exact ⟨by rw [← HZ.out]; rfl, BZ.out⟩
  go_wp2_with fail
  refine (pin_lit c.J 0 10 z10 _ H10.out).mono ?_
  rintro e w' ⟨rfl, rfl⟩
  cases z10
  · go_wp2_with fail
    go_ret
    exact ⟨by rw [← HZ.out]; rfl, BZ.out⟩
  go_wp2_with fail
  refine (pin_lit c.N 8 64 z11 _ H11.out).mono ?_
  rintro e w' ⟨rfl, rfl⟩
  cases z11
  · go_wp2_with fail
    go_ret
    exact ⟨by rw [← HZ.out]; rfl, BZ.out⟩
  go_wp2_with fail
  go_ret
  exact ⟨by rw [← HZ.out]; rfl, BZ.out⟩
end Go.Proofs.YtgnaiahnednllaaGreat
namespace Go.Proofs.YtgnaiahnednllaaGreat
open Go.RowKit
set_option linter.unusedVariables false
set_option maxRecDepth 20000
def sliceS (ks : List KV) (ws : List Tx) (s : Nat) : List Tx := ws.filter fun t => decide (ofZ ks t = (s : Int))
theorem sliceS_yes (ks : List KV) (ws : List Tx) (s : Nat) (x : Tx) (h : ofZ ks x = (s : Int)) : sliceS ks (ws ++ [x]) s = sliceS ks ws s ++ [x] := by
  unfold sliceS; rw [List.filter_append]; simp [h]
theorem sliceS_no (ks : List KV) (ws : List Tx) (s : Nat) (x : Tx) (h : ¬ ofZ ks x = (s : Int)) : sliceS ks (ws ++ [x]) s = sliceS ks ws s := by
  unfold sliceS; rw [List.filter_append]; simp [h]
set_option maxHeartbeats 1600000 in
theorem slice_any (a : Option Addr) (n cap : Nat) (ks : List KV) (a1 : Option Addr) (n1 cap1 : Nat) (ws : List Tx) (s : Nat) (w : World) (hh : HoldsK w a n ks) (hh1 : HoldsT w a1 n1 ws) (hn : n ≤ 1000) (hn1 : n1 ≤ 1000) (hs : s ≤ 1000) (hsz : ∀ t ∈ ws, t.size ≤ 9223372036854775807) :
    Calls Tryz.prog 69 #[.slice a n cap, .slice a1 n1 cap1, .int .i64 s] w (RetO w (sliceS ks ws s)) := by
  obtain ⟨i0, hi, hz0, hz1, hz2⟩ := info_parts str_info
  have hl := hh1.len
  go_enter Tryz.func69, Tryz.ntmps69
  go_wp2_with fail
  go_loopw [7, 13] (fun ov iv wr => ∃ (j : Nat) (P : List Tx), j ≤ n1 ∧ P.length ≤ j ∧ iv = .int .i64 j ∧ Hid (P = sliceS ks (ws.take j) s) ∧ Hid (wr.ownsRow w.heap.size 9 1 ov P.length (strsV P)) ∧ Hid (Below w.heap.size w wr)) (fun _ iv _ => n1 - (intOf iv).toNat)
  case atStart => exact ⟨0, [], by omega, by simp, rfl, Lib.hid rfl, Lib.hid (World.ownsRow_nil _ _ _ _), Lib.hid (Below.refl _ _)⟩
  case round =>
    obtain ⟨j, P, hj, hPl, rfl, hP, hO, hB⟩ := hrel
    by_cases hlt : j < n1
    · have hcell := hh1.at (by omega)
      obtain ⟨bb, o, rfl, hc'⟩ := hcell
      have e0 := hc' j hlt
      have HC := Lib.hid (fun (w3 : World) (hb : Below w.heap.size w w3) => show w3.cell? ⟨bb, o + j, none⟩ = some (.string (ws.getD j ByteArray.empty)) from (hb.cell (p := ⟨bb, o + j, none⟩) (lt_of_cell e0)).trans e0)
      have hmem := getD_memT' ws j (by omega)
      have htk := take_succ_getD ws ByteArray.empty j (by omega)
      obtain ⟨x, hx⟩ : ∃ x, ws.getD j ByteArray.empty = x := ⟨_, rfl⟩
      rw [hx] at htk hmem
      simp only [hx] at HC
      have HT := Lib.hid htk
      have HX := Lib.hid (hsz x hmem)
      clear hx htk hc' e0 hmem
      have e1 := HC.out _ hB.out
      have H1 := Lib.hid (hh.below hB.out)
      obtain ⟨v, hv⟩ : ∃ v, ofZ ks x = v := ⟨_, rfl⟩
      have HV := Lib.hid hv
      by_cases hin : v = (s : Int)
      · subst hin
        have hls := sliceS_yes ks (ws.take j) s x hv
        rw [← HT.out, ← hP.out] at hls
        have HL := Lib.hid hls
        have g1 : decide ((s : Int) ≥ 0) = true := by rw [decide_eq_true_iff]; omega
        have g2 : ((s : Int) == (s : Int)) = true := by simp
        clear hls hv
        go_wp2_with fail
        refine (pof_lit a n cap ks x s wr H1.out (by omega) HX.out HV.out).mono ?_
        rintro e w2 ⟨rfl, hb2⟩
        have O2 := Lib.hid (owns_below hO.out hb2)
        have B2 := Lib.hid (hB.out.trans (hb2.mono hB.out.size))
        clear hb2 e1 hO hB
        go_wp2_with (at_builtin; refine wpList_append_any rfl (.tmp 27) (.tmp 29) 22 rfl w.heap.size 9 i0 (.string ⟨#[]⟩) 1 16 Tryz.underlying22 hi hz0 hz1 hz2 rfl (by decide) _ P.length _ rfl (O2.out.alloc _) _ 1 1 _ rfl (some_none _) rfl (one_new _ _ _ _) (one_str _) (by unfold maxLen; omega) (by omega) (by have := B2.out.size; simp; omega) ?_; intro a3 c3 w3 hown3 hb3 hnil3)
        rw [← strsV_snoc] at hown3
        have O3 := Lib.hid hown3
        have B3 := Lib.hid ((B2.out.alloc B2.out.size _).trans hb3)
        clear hown3 hb3 hnil3
        go_roundw
        case rel => exact ⟨j + 1, P ++ [x], by omega, by simp; omega, by go_num, Lib.hid HL.out.symm, Lib.hid (by have := O3.out; simpa using this), B3⟩
        case measure => simp [intOf]; omega
      · have hls := sliceS_no ks (ws.take j) s x (by rw [hv]; exact hin)
        rw [← HT.out, ← hP.out] at hls
        have HL := Lib.hid hls
        have g2 : (v == (s : Int)) = false := by simpa using hin
        clear hls hv
        go_wp2_with fail
        refine (pof_lit a n cap ks x v wr H1.out (by omega) HX.out HV.out).mono ?_
        rintro e w2 ⟨rfl, hb2⟩
        have O2 := Lib.hid (owns_below hO.out hb2)
        have B2 := Lib.hid (hB.out.trans (hb2.mono hB.out.size))
        clear hb2 e1 hO hB
        by_cases hv0 : v ≥ 0
        · have g1 : decide (v ≥ 0) = true := decide_eq_true hv0
          go_wp2_with fail
          go_roundw
          case rel => exact ⟨j + 1, P, by omega, by omega, by go_num, Lib.hid HL.out.symm, O2, B2⟩
          case measure => simp [intOf]; omega
        · have g1 : decide (v ≥ 0) = false := decide_eq_false hv0
          go_wp2_with fail
          go_roundw
          case rel => exact ⟨j + 1, P, by omega, by omega, by go_num, Lib.hid HL.out.symm, O2, B2⟩
          case measure => simp [intOf]; omega
    · have hjn : ws.take j = ws := List.take_of_length_le (by omega)
      have hP2 := hP.out
      rw [hjn] at hP2
      have HP := Lib.hid hP2
      clear hP hP2 hjn
      obtain ⟨a4, c4, rfl⟩ : ∃ a4 c4, u7 = .slice a4 P.length c4 := by
        rcases hO.out.2 with ⟨h, h0⟩ | ⟨g', c', cur, h, _⟩
        · exact ⟨none, 0, by rw [h, h0]⟩
        · exact ⟨_, c', h⟩
      go_wp2_with fail
      go_ret
      exact ret_own HP.out rfl hO.out hB.out _ rfl
end Go.Proofs.YtgnaiahnednllaaGreat
namespace Go.Proofs.YtgnaiahnednllaaGreat
open Go.RowKit
set_option linter.unusedVariables false
set_option maxRecDepth 20000
def LstP (w : World) (a : Option Addr) (n c : Nat) (ts : List Tx) : Prop := HoldsT w a n ts ∧ (a = none → n = 0 ∧ c = 0) ∧ n ≤ c
theorem LstP.own {w : World} {B : Nat} {a : Option Addr} {n c : Nat} {ts : List Tx} (h : w.ownsRow B 9 1 (.slice a n c) n (strsV ts)) : LstP w a n c ts := ⟨HoldsT.own h, owns_none h⟩
theorem sliceP_lst (a : Option Addr) (n cap : Nat) (ks : List KV) (a1 : Option Addr) (n1 cap1 : Nat) (ws zs : List Tx) (s k : Nat) (w : World) (hh : HoldsK w a n ks) (hh1 : HoldsT w a1 n1 ws) (hn : n ≤ 1000) (hn1 : n1 ≤ 1000) (hs : s ≤ 1000) (hsz : ∀ t ∈ ws, t.size ≤ 9223372036854775807) (hz : sliceS ks ws s = zs) (hk : zs.length = k) :
    Calls Tryz.prog 69 #[.slice a n cap, .slice a1 n1 cap1, .int .i64 s] w fun e w' => ∃ a' c', e = .returned (.slice a' k c') ∧ LstP w' a' k c' zs ∧ Below w.heap.size w w' := by
  subst hz hk
  exact (slice_any a n cap ks a1 n1 cap1 ws s w hh hh1 hn hn1 hs hsz).mono fun _ _ ⟨a', c', h1, h2, h3⟩ => ⟨a', c', h1, LstP.own h2, h3⟩
end Go.Proofs.YtgnaiahnednllaaGreat
namespace Go.Proofs.YtgnaiahnednllaaGreat
open Go.RowKit
set_option linter.unusedVariables false
set_option maxRecDepth 20000
theorem may_parts {c : Cfg} (h : c.may = true) : goodV c.ws = 0 ∧ goodK c.ks = 0 ∧ (1 ≤ c.W ∧ c.W ≤ 5) ∧ (1 ≤ c.C ∧ c.C ≤ 3 ∧ c.C ≤ c.W) ∧ (1 ≤ c.S ∧ c.S ≤ 4) ∧ (1 ≤ c.B ∧ c.B ≤ 5) ∧ (1 ≤ c.L ∧ c.L ≤ 1000) ∧ (1 ≤ c.H ∧ c.H ≤ 1000) ∧ (1 ≤ c.F ∧ c.F ≤ 10) ∧ (c.F ≤ c.P ∧ c.P ≤ 50) ∧ (0 ≤ c.J ∧ c.J ≤ 10) ∧ (8 ≤ c.N ∧ c.N ≤ 64) := by
  unfold Cfg.may at h
  simp only [Bool.and_eq_true, decide_eq_true_eq] at h
  obtain ⟨h0, h1, h2, h3, h4, h5, h6, h7, h8, h9, h10, h11⟩ := h
  exact ⟨h0, h1, h2, ⟨h3.1, by omega, by omega⟩, h4, h5, h6, h7, h8, h9, h10, h11⟩
theorem may_kn {w : World} {c : Cfg} (h : c.may = true) (ok : CfgOk w c) : c.kn ≤ 5 := by
  have := (goodK_zero (may_parts h).2.1).1
  have := ok.2.2.2.2.2.1.len
  omega
set_option maxHeartbeats 1600000 in
theorem shards_any (c : Cfg) (w : World) (h : CfgOk w c) (hm : c.may = true) :
    Calls Tryz.prog 65 #[.agg #[.slice c.wa c.wn c.wc, .slice c.ka c.kn c.kc, .int .i64 c.W, .int .i64 c.C, .int .i64 c.S, .int .i64 c.B, .int .i64 c.L, .int .i64 c.H, .int .i64 c.F, .int .i64 c.P, .int .i64 c.J, .int .i64 c.N]] w fun e w' => e = .returned (.int .i64 ((c.kn + 1 : Nat) : Int)) ∧ Below w.heap.size w w' := by
  have BX := Lib.hid (below_one w (.cells #[.slice c.wa c.wn c.wc, .slice c.ka c.kn c.kc, .int .i64 c.W, .int .i64 c.C, .int .i64 c.S, .int .i64 c.B, .int .i64 c.L, .int .i64 c.H, .int .i64 c.F, .int .i64 c.P, .int .i64 c.J, .int .i64 c.N] 25))
  have IN := Lib.hid (cfgIn_new w c w.heap.size 25 (0, 0) rfl)
  have CM := Lib.hid (may_cfg c true _ (h.below BX.out) hm)
  have hk := may_kn hm h
  have hw1 : IntKind.i64.wrap ((c.kn : Int) + 1) = ((c.kn + 1 : Nat) : Int) := by rw [IntWalk.i64_in _ (by omega)]; omega
  clear h hm
  go_enter Tryz.func65, Tryz.ntmps65
  go_wp2_with fail
  refine CM.out.mono ?_
  rintro e w2 ⟨rfl, hb2⟩
  have B2 := Lib.hid (BX.out.trans (hb2.mono BX.out.size))
  have hI := IN.out.below hb2
  unfold CfgIn at hI
  obtain ⟨i0, i1, -⟩ := hI
  clear hb2 CM
  go_wp2_with fail
  go_ret
  exact ⟨rfl, B2.out⟩
set_option maxHeartbeats 1600000 in
theorem has_any (c : Cfg) (s : Int) (z : Bool) (w : World) (h : CfgOk w c) (hm : c.may = true) (hz : decide (0 ≤ s ∧ s < ((c.kn + 1 : Nat) : Int)) = z) :
    Calls Tryz.prog 111 #[.agg #[.slice c.wa c.wn c.wc, .slice c.ka c.kn c.kc, .int .i64 c.W, .int .i64 c.C, .int .i64 c.S, .int .i64 c.B, .int .i64 c.L, .int .i64 c.H, .int .i64 c.F, .int .i64 c.P, .int .i64 c.J, .int .i64 c.N], .int .i64 s] w fun e w' => e = .returned (.bool z) ∧ Below w.heap.size w w' := by
  have BX := Lib.hid (below_one w (.cells #[.slice c.wa c.wn c.wc, .slice c.ka c.kn c.kc, .int .i64 c.W, .int .i64 c.C, .int .i64 c.S, .int .i64 c.B, .int .i64 c.L, .int .i64 c.H, .int .i64 c.F, .int .i64 c.P, .int .i64 c.J, .int .i64 c.N] 25))
  have IN := Lib.hid (cfgIn_new w c w.heap.size 25 (0, 0) rfl)
  have CM := Lib.hid (shards_any c _ (h.below BX.out) hm)
  have BXX := BX.out
  by_cases h0 : 0 ≤ s
  · have d1 : decide (s ≥ 0) = true := decide_eq_true h0
    have d2 : decide (s < ((c.kn + 1 : Nat) : Int)) = z := by rw [← hz]; simp [h0]
    have d3 : decide (s < (c.kn : Int) + 1) = z := by rw [← d2]; congr 1
    clear h hm hz
    go_enter Tryz.func111, Tryz.ntmps111
    go_wp2_with fail
    refine CM.out.mono ?_
    rintro e w2 ⟨rfl, hb2⟩
    have B2 := Lib.hid (BX.out.trans (hb2.mono BX.out.size))
    clear hb2 CM
    go_wp2_with fail
    go_ret
    exact ⟨rfl, B2.out⟩
  · have d1 : decide (s ≥ 0) = false := decide_eq_false h0
    obtain rfl : z = false := by rw [← hz]; exact decide_eq_false (fun h => h0 h.1)
    clear h hm hz
    go_enter Tryz.func111, Tryz.ntmps111
    go_wp2_with fail
    go_ret
    exact ⟨rfl, BX.out⟩
end Go.Proofs.YtgnaiahnednllaaGreat
namespace Go.Proofs.YtgnaiahnednllaaGreat
open Go.RowKit
set_option linter.unusedVariables false
set_option maxRecDepth 20000
def numsV (zs : List Int) : List Value := zs.map (Value.int .i64)
theorem holdsI_values {k : IntKind} {w : World} {a : Option Addr} {n : Nat} {zs : List Int} (h : HoldsV w a n (zs.map (Value.int k))) : HoldsI k w a n zs := by
  have hl : zs.length = n := by simpa using h.1
  refine ⟨hl, fun h0 => ?_⟩
  obtain ⟨b, o, ha, hc⟩ := h.2 h0
  exact ⟨b, o, ha, fun i hi => by rw [hc i hi]; simp [List.getD_eq_getElem?_getD, show i < zs.length by omega]⟩
theorem num_info : (Tryz.prog.info? 3).map (fun i => (i.zero, i.size, i.bytes)) = some (some (.int .i64 0), 1, 8) := by kernel_rfl
/-- a call's answer: a new list of numbers -/
def RetZ (w : World) (zs : List Int) (e : Ending) (w' : World) : Prop := ∃ a c, e = .returned (.slice a zs.length c) ∧ w'.ownsRow w.heap.size 3 1 (.slice a zs.length c) zs.length (numsV zs) ∧ Below w.heap.size w w'
theorem holdsZ_own {w : World} {base : Nat} {e : TypeId} {a : Option Addr} {n c : Nat} {zs : List Int} (h : w.ownsRow base e 1 (.slice a n c) n (numsV zs)) : HoldsI .i64 w a n zs := holdsI_values (owns_holds h)
def natsZ (l : List Nat) : List Int := l.map fun s : Nat => (s : Int)
theorem natsZ_len (l : List Nat) : (natsZ l).length = l.length := by simp [natsZ]
theorem natsZ_at (l : List Nat) (i : Nat) : (natsZ l).getD i 0 = ((l.getD i 0 : Nat) : Int) := by
  unfold natsZ
  by_cases h : i < l.length
  · rw [List.getD_eq_getElem?_getD, List.getElem?_map, List.getElem?_eq_getElem h, List.getD_eq_getElem?_getD, List.getElem?_eq_getElem h]; rfl
  · rw [List.getD_eq_getElem?_getD, List.getElem?_eq_none (by simp; omega), List.getD_eq_getElem?_getD, List.getElem?_eq_none (by omega)]; rfl
end Go.Proofs.YtgnaiahnednllaaGreat
namespace Go.Proofs.YtgnaiahnednllaaGreat
open Go.RowKit
set_option linter.unusedVariables false
set_option maxRecDepth 20000
namespace Pl
def cop (W C s : Nat) : List Int := (List.range C).map fun j => ((1 + (s + j) % W : Nat) : Int)
def keep (W C S : Nat) (x : Int) : List Nat := (List.range S).filter fun s => decide (x ∈ cop W C s)
theorem cop_len (W C s : Nat) : (cop W C s).length = C := by simp [cop]
theorem cop_snoc (W C s : Nat) : cop W (C + 1) s = cop W C s ++ [((1 + (s + C) % W : Nat) : Int)] := by simp [cop, List.range_succ]
theorem keep_snoc (W C S : Nat) (x : Int) : keep W C (S + 1) x = keep W C S x ++ (if x ∈ cop W C S then [S] else []) := by
  unfold keep
  rw [List.range_succ, List.filter_append]
  by_cases h : x ∈ cop W C S <;> simp [h]
theorem keep_len (W C S : Nat) (x : Int) : (keep W C S x).length ≤ S := by
  unfold keep
  exact Nat.le_trans (List.length_filter_le _ _) (by simp)
end Pl
set_option maxHeartbeats 3200000 in
theorem copies_in (c : Cfg) (s : Nat) (W C : Nat) (w : World) (h : CfgOk w c) (hm : c.may = true) (hs : s < c.kn + 1) (hW : c.W = (W : Int)) (hC : c.C = (C : Int)) :
    Calls Tryz.prog 67 #[.agg #[.slice c.wa c.wn c.wc, .slice c.ka c.kn c.kc, .int .i64 c.W, .int .i64 c.C, .int .i64 c.S, .int .i64 c.B, .int .i64 c.L, .int .i64 c.H, .int .i64 c.F, .int .i64 c.P, .int .i64 c.J, .int .i64 c.N], .int .i64 (s : Int)] w (RetZ w (Pl.cop W C s)) := by
  obtain ⟨i0, hi, hz0, hz1, hz2⟩ := info_parts num_info
  have BX := Lib.hid (below_one w (.cells #[.slice c.wa c.wn c.wc, .slice c.ka c.kn c.kc, .int .i64 c.W, .int .i64 c.C, .int .i64 c.S, .int .i64 c.B, .int .i64 c.L, .int .i64 c.H, .int .i64 c.F, .int .i64 c.P, .int .i64 c.J, .int .i64 c.N] 25))
  have IN := Lib.hid (cfgIn_new w c w.heap.size 25 (0, 0) rfl)
  have CM := Lib.hid (has_any c s true _ (h.below BX.out) hm (decide_eq_true ⟨by omega, by omega⟩))
  have hk := may_kn hm h
  obtain ⟨-, -, hw, hc, -⟩ := may_parts hm
  rw [hW] at hw
  rw [hC, hW] at hc
  have H5 := Lib.hid (show W ≤ 5 ∧ C ≤ 3 from ⟨by omega, by omega⟩)
  have hW0 : ((W : Int) == 0) = false := by simp; omega
  have hW1 : 1 ≤ W := by omega
  have hC3 : C ≤ 3 := by omega
  have hs6 : s ≤ 5 := by omega
  have HW := Lib.hid hW; have HC := Lib.hid hC
  clear h hm hw hc hW hC
  go_enter Tryz.func67, Tryz.ntmps67
  go_wp2_with fail
  refine CM.out.mono ?_
  rintro e w2 ⟨rfl, hb2⟩
  have B2 := Lib.hid (BX.out.trans (hb2.mono BX.out.size))
  have I2 := Lib.hid (IN.out.below hb2)
  clear hb2 CM
  have hI := I2.out
  unfold CfgIn at hI
  obtain ⟨-, -, -, i3, -⟩ := hI
  rw [HC.out] at i3
  go_wp2_with fail
  go_loopw [5, 13] (fun ov iv wr => ∃ (j : Nat) (av : Option Addr) (cv : Nat), j ≤ C ∧ iv = .int .i64 j ∧ ov = .slice av j cv ∧ Hid (wr.ownsRow (w.heap.size + 1) 3 1 (.slice av j cv) j (numsV (Pl.cop W j s))) ∧ Hid (Below w2.heap.size w2 wr ∨ True) ∧ Hid (Below w.heap.size w wr ∧ CfgIn wr w.heap.size c)) (fun _ iv _ => C - (intOf iv).toNat)
  case atStart => exact ⟨0, none, 0, by omega, rfl, rfl, Lib.hid (World.ownsRow_nil _ _ _ _), Lib.hid (Or.inr trivial), Lib.hid ⟨B2.out, I2.out⟩⟩
  case round =>
    obtain ⟨j, av, cv, hj, rfl, rfl, hO, -, hB⟩ := hrel
    by_cases hlt : j < C
    · have hI := hB.out.2
      unfold CfgIn at hI
      obtain ⟨-, -, k2, -⟩ := hI
      rw [HW.out] at k2
      have d1 : decide ((j : Int) < (C : Int)) = true := decide_eq_true (by omega)
      obtain ⟨z, hz⟩ : ∃ z, (s + j) % W = z := ⟨_, rfl⟩
      have hzl : z < W := by rw [← hz]; exact Nat.mod_lt _ (by omega)
      have HZ := Lib.hid (show Pl.cop W (j + 1) s = Pl.cop W j s ++ [1 + (z : Int)] from by rw [Pl.cop_snoc, hz]; simp)
      have r1 : IntKind.i64.wrap ((s : Int) + (j : Int)) = (s : Int) + (j : Int) := by rw [IntWalk.i64_in _ (by omega)]
      have r2 : ((s : Int) + (j : Int)) % (W : Int) = (z : Int) := by rw [← hz]; simp
      have r3 : IntKind.i64.wrap (1 + (z : Int)) = 1 + (z : Int) := by rw [IntWalk.i64_in _ (by have := H5.out; omega)]
      have IH := Lib.hid hB.out.2
      clear hz
      go_wp2_with (at_builtin; refine wpList_append_any rfl (.tmp 16) (.tmp 24) 49 rfl (w.heap.size + 1) 3 i0 _ 1 8 Tryz.underlying49 hi hz0 hz1 hz2 rfl (by decide) _ j _ rfl (hO.out.alloc _) _ 1 1 [.int .i64 (1 + (z : Int))] rfl (some_none _) rfl (one_new _ _ _ _) (by simp [Value.oneCell']) (by unfold maxLen; omega) (by omega) (by have := lt_of_cell IH.out.1; simp; omega) ?_; intro a3 c3 w3 hown3 hb3 hnil3)
      have O3 := Lib.hid (show w3.ownsRow (w.heap.size + 1) 3 1 (.slice a3 (j + 1) c3) (j + 1) (numsV (Pl.cop W (j + 1) s)) from by rw [HZ.out]; unfold numsV at hown3 ⊢; rw [List.map_append]; exact hown3)
      have B3 := Lib.hid (show Below w.heap.size w w3 ∧ CfgIn w3 w.heap.size c from by
        have b1 : Below (w.heap.size + 1) wr w3 := ((Below.refl (w.heap.size + 1) wr).alloc (by have := lt_of_cell IH.out.1; omega) _).trans hb3
        exact ⟨hB.out.1.trans (b1.mono (by omega)), IH.out.of fun i => b1.cell (p := ⟨w.heap.size, i, none⟩) (by show w.heap.size < w.heap.size + 1; omega)⟩)
      clear hown3 hb3 hnil3 k2 IH
      go_roundw
      case rel => exact ⟨j + 1, a3, c3, by omega, by go_num, rfl, O3, Lib.hid (Or.inr trivial), B3⟩
      case measure => simp [intOf] <;> omega
    · obtain rfl : j = C := by omega
      have d1 : decide ((j : Int) < (j : Int)) = false := decide_eq_false (by omega)
      go_wp2_with fail
      go_ret
      refine ⟨av, cv, by rw [Pl.cop_len]; rfl, ?_, hB.out.1⟩
      rw [Pl.cop_len]
      have := hO.out
      exact ⟨this.1, this.2.imp id (fun ⟨g, cap, cur, hv, hge, r⟩ => ⟨g, cap, cur, hv, by omega, r⟩)⟩
theorem pindex_any (a : Option Addr) (n cap : Nat) (zs : List Int) (x : Int) (w : World) (h : HoldsI .i64 w a n zs) (hn : n ≤ 1000000) :
    Calls Tryz.prog 110 #[.slice a n cap, .int .i64 x] w fun e w' => e = .returned (.int .i64 (if x ∈ zs then (zs.idxOf x : Int) else -1)) ∧ w = w' := by
  have H := Lib.hid h
  have hl := h.1
  obtain ⟨R, hR⟩ : ∃ R : Int, (if x ∈ zs then (zs.idxOf x : Int) else -1) = R := ⟨_, rfl⟩
  rw [hR]
  have RY := Lib.hid (show ∀ j, j < n → zs.getD j 0 = x → (∀ k, k < j → zs.getD k 0 ≠ x) → R = (j : Int) from fun j hj he hno => by
    have hjl : j < zs.length := by omega
    have e0 : zs[j] = x := by rw [← he, List.getD_eq_getElem?_getD, List.getElem?_eq_getElem hjl]; rfl
    have hmem : x ∈ zs := by rw [← e0]; exact List.getElem_mem _
    rw [← hR, if_pos hmem]
    have hlt := List.idxOf_lt_length_of_mem hmem
    have hat := List.getElem_idxOf hlt
    rcases Nat.lt_trichotomy (zs.idxOf x) j with hh | hh | hh
    · exact absurd (by rw [List.getD_eq_getElem?_getD, List.getElem?_eq_getElem hlt]; exact hat) (hno _ hh)
    · rw [hh]
    · have h2 := List.not_of_lt_findIdx (p := (· == x)) (xs := zs) (i := j) hh
      rw [e0] at h2
      simp at h2)
  have RN := Lib.hid (show (∀ k, k < n → zs.getD k 0 ≠ x) → R = -1 from fun hno => by
    rw [← hR, if_neg]
    intro hmem
    obtain ⟨k, hk, he⟩ := List.getElem_of_mem hmem
    exact hno k (by omega) (by rw [List.getD_eq_getElem?_getD, List.getElem?_eq_getElem hk]; exact he))
  clear h hR
  go_enter Tryz.func110, Tryz.ntmps110
  go_wp2_with fail
  go_loop [8] (fun iv => ∃ j : Nat, j ≤ n ∧ iv = .int .i64 j ∧ Hid (∀ k, k < j → zs.getD k 0 ≠ x)) (fun iv => n - (intOf iv).toNat)
  case atStart => exact ⟨0, by omega, rfl, Lib.hid (fun k hk => by omega)⟩
  case round =>
    obtain ⟨j, hj, rfl, hno⟩ := hrel
    by_cases hlt : j < n
    · obtain ⟨b, o, rfl, hc⟩ := H.out.at (by omega)
      have e0 := hc j hlt
      have hry := RY.out j hlt
      obtain ⟨y, hy⟩ : ∃ y, zs.getD j 0 = y := ⟨_, rfl⟩
      have HY := Lib.hid hy
      rw [hy] at e0 hry
      clear hc hy
      by_cases he : y = x
      · have d1 : (x == y) = true := by simp [he]
        have hres := hry he hno.out
        clear hry he
        go_wp2_with fail
        go_ret
        exact ⟨rfl, rfl⟩
      · have d1 : (x == y) = false := by simp; exact fun h => he h.symm
        have NX := Lib.hid (show ∀ k, k < j + 1 → zs.getD k 0 ≠ x from fun k hk => by
          rcases Nat.lt_succ_iff_lt_or_eq.1 hk with e | e
          · exact hno.out k e
          · subst e; rw [HY.out]; exact he)
        clear hry he
        go_wp2_with fail
        go_round
        case rel => exact ⟨j + 1, by omega, by go_num, NX⟩
        case measure => simp [intOf]; omega
    · obtain rfl : j = n := by omega
      have hres := RN.out hno.out
      go_wp2_with fail
      go_ret
      exact ⟨rfl, rfl⟩
theorem contains_any (a : Option Addr) (n cap : Nat) (zs : List Int) (x : Int) (z : Bool) (w : World) (h : HoldsI .i64 w a n zs) (hn : n ≤ 1000000) (hz : decide (x ∈ zs) = z) :
    Calls Tryz.prog 66 #[.slice a n cap, .int .i64 x] w fun e w' => e = .returned (.bool z) ∧ w = w' := by
  have CI := pindex_any a n cap zs x w h hn
  obtain ⟨R, hR⟩ : ∃ R : Int, (if x ∈ zs then (zs.idxOf x : Int) else -1) = R := ⟨_, rfl⟩
  rw [hR] at CI
  have d1 : decide (R ≥ 0) = z := by
    rw [← hz, ← hR]
    by_cases hm : x ∈ zs
    · rw [if_pos hm, decide_eq_true hm]; exact decide_eq_true (by omega)
    · rw [if_neg hm, decide_eq_false hm]; rfl
  have C := Lib.hid CI
  clear CI hR hz h
  go_enter Tryz.func66, Tryz.ntmps66
  go_wp2_with fail
  refine C.out.mono ?_
  rintro e w' ⟨rfl, rfl⟩
  go_wp2_with fail
  go_ret
  exact ⟨rfl, rfl⟩
end Go.Proofs.YtgnaiahnednllaaGreat
namespace Go.Proofs.YtgnaiahnednllaaGreat
open Go.RowKit
set_option linter.unusedVariables false
set_option maxRecDepth 20000
set_option maxHeartbeats 6400000 in
theorem keeps_any (c : Cfg) (x : Int) (W C : Nat) (w : World) (h : CfgOk w c) (hm : c.may = true) (hW : c.W = (W : Int)) (hC : c.C = (C : Int)) :
    Calls Tryz.prog 20 #[.agg #[.slice c.wa c.wn c.wc, .slice c.ka c.kn c.kc, .int .i64 c.W, .int .i64 c.C, .int .i64 c.S, .int .i64 c.B, .int .i64 c.L, .int .i64 c.H, .int .i64 c.F, .int .i64 c.P, .int .i64 c.J, .int .i64 c.N], .int .i64 x] w (RetZ w (natsZ (Pl.keep W C (c.kn + 1) x))) := by
  obtain ⟨i0, hi, hz0, hz1, hz2⟩ := info_parts num_info
  have BX := Lib.hid (below_one w (.cells #[.slice c.wa c.wn c.wc, .slice c.ka c.kn c.kc, .int .i64 c.W, .int .i64 c.C, .int .i64 c.S, .int .i64 c.B, .int .i64 c.L, .int .i64 c.H, .int .i64 c.F, .int .i64 c.P, .int .i64 c.J, .int .i64 c.N] 25))
  have IN := Lib.hid (cfgIn_new w c w.heap.size 25 (0, 0) rfl)
  have OK := Lib.hid h
  have CM := Lib.hid (shards_any c _ (h.below BX.out) hm)
  have hk := may_kn hm h
  have HW := Lib.hid hW; have HC := Lib.hid hC; have HM := Lib.hid hm
  have HC3 := Lib.hid (show C ≤ 3 from by have := (may_parts hm).2.2.2.1; omega)
  obtain ⟨n, hn⟩ : ∃ n, c.kn + 1 = n := ⟨_, rfl⟩
  have HN := Lib.hid hn
  rw [hn] at CM
  rw [hn]
  have hn6 : n ≤ 6 := by omega
  clear h hm hW hC hn hk
  go_enter Tryz.func20, Tryz.ntmps20
  go_wp2_with fail
  refine CM.out.mono ?_
  rintro e w2 ⟨rfl, hb2⟩
  have B2 := Lib.hid (BX.out.trans (hb2.mono BX.out.size))
  have I2 := Lib.hid (IN.out.below hb2)
  clear hb2 CM
  go_wp2_with fail
  go_loopw [5, 9] (fun ov iv wr => ∃ (j : Nat) (K : List Nat) (av : Option Addr) (cv : Nat), j ≤ n ∧ K.length ≤ j ∧ iv = .int .i64 j ∧ ov = .slice av K.length cv ∧ Hid (K = Pl.keep W C j x) ∧ Hid (wr.ownsRow (w.heap.size + 1) 3 1 (.slice av K.length cv) K.length (numsV (natsZ K))) ∧ Hid (Below w.heap.size w wr ∧ CfgIn wr w.heap.size c)) (fun _ iv _ => n - (intOf iv).toNat)
  case atStart => exact ⟨0, [], none, 0, by omega, by simp, rfl, rfl, Lib.hid rfl, Lib.hid (World.ownsRow_nil _ _ _ _), Lib.hid ⟨B2.out, I2.out⟩⟩
  case round =>
    obtain ⟨j, K, av, cv, hj, hKl, rfl, rfl, hK, hO, hB⟩ := hrel
    by_cases hlt : j < n
    · have hI := hB.out.2
      unfold CfgIn at hI
      obtain ⟨i0', i1, i2, i3, i4, i5, i6, i7, i8, i9, i10, i11⟩ := hI
      have d1 : decide ((j : Int) < (n : Int)) = true := decide_eq_true (by omega)
      have CC := Lib.hid (copies_in c j W C wr (OK.out.below hB.out.1) HM.out (by have := HN.out; omega) HW.out HC.out)
      obtain ⟨L, hL⟩ : ∃ L, Pl.cop W C j = L := ⟨_, rfl⟩
      have LL := Lib.hid (show L.length ≤ 3 from by rw [← hL, Pl.cop_len]; exact HC3.out)
      obtain ⟨z, hz⟩ : ∃ z, decide (x ∈ L) = z := ⟨_, rfl⟩
      have HZ := Lib.hid hz
      have hks := Pl.keep_snoc W C j x
      rw [hL] at CC hks
      have KS := Lib.hid hks
      clear hL hz hks
      go_wp2_with fail
      refine CC.out.mono ?_
      rintro e w3 ⟨la, lc, rfl, hown, hb3⟩
      have CT := Lib.hid (contains_any la L.length lc L x z w3 (holdsZ_own hown) (by have := LL.out; omega) HZ.out)
      have O3 := Lib.hid (owns_below hO.out hb3)
      have B3 := Lib.hid (show Below w.heap.size w w3 ∧ CfgIn w3 w.heap.size c from ⟨hB.out.1.trans (hb3.mono hB.out.1.size), hB.out.2.below hb3⟩)
      clear hown hb3 CC i0' i1 i2 i3 i4 i5 i6 i7 i8 i9 i10 i11
      go_wp2_with fail
      refine CT.out.mono ?_
      rintro e w' ⟨rfl, rfl⟩
      clear CT
      cases z
      · have K2 := Lib.hid (show K = Pl.keep W C (j + 1) x from by rw [KS.out, if_neg (of_decide_eq_false HZ.out), List.append_nil]; exact hK.out)
        go_wp2_with fail
        go_roundw
        case rel => exact ⟨j + 1, K, av, cv, by omega, by omega, by go_num, rfl, K2, O3, B3⟩
        case measure => simp [intOf] <;> omega
      · have K2 := Lib.hid (show K ++ [j] = Pl.keep W C (j + 1) x from by rw [KS.out, if_pos (of_decide_eq_true HZ.out), ← hK.out])
        go_wp2_with (at_builtin; refine wpList_append_any rfl (.tmp 17) (.tmp 19) 49 rfl (w.heap.size + 1) 3 i0 _ 1 8 Tryz.underlying49 hi hz0 hz1 hz2 rfl (by decide) _ K.length _ rfl (O3.out.alloc _) _ 1 1 [.int .i64 (j : Int)] rfl (some_none _) rfl (one_new _ _ _ _) (by simp [Value.oneCell']) (by unfold maxLen; omega) (by omega) (by have := lt_of_cell B3.out.2.1; simp; omega) ?_; intro a5 c5 w5 hown5 hb5 hnil5)
        have O5 := Lib.hid (show w5.ownsRow (w.heap.size + 1) 3 1 (.slice a5 (K ++ [j]).length c5) (K ++ [j]).length (numsV (natsZ (K ++ [j]))) from by rw [List.length_append]; unfold numsV natsZ at hown5 ⊢; rw [List.map_append, List.map_append]; exact hown5)
        have B5 := Lib.hid (show Below w.heap.size w w5 ∧ CfgIn w5 w.heap.size c from by
          have b1 : Below (w.heap.size + 1) w3 w5 := ((Below.refl (w.heap.size + 1) w3).alloc (by have := lt_of_cell B3.out.2.1; omega) _).trans hb5
          exact ⟨B3.out.1.trans (b1.mono (by omega)), B3.out.2.of fun i => b1.cell (p := ⟨w.heap.size, i, none⟩) (by show w.heap.size < w.heap.size + 1; omega)⟩)
        clear hown5 hb5 hnil5
        go_roundw
        case rel => exact ⟨j + 1, K ++ [j], a5, c5, by omega, by simp; omega, by go_num, by simp, K2, O5, B5⟩
        case measure => simp [intOf] <;> omega
    · obtain rfl : j = n := by omega
      have d1 : decide ((j : Int) < (j : Int)) = false := decide_eq_false (by omega)
      go_wp2_with fail
      go_ret
      refine ⟨av, cv, by rw [← hK.out, natsZ_len]; rfl, ?_, hB.out.1⟩
      rw [← hK.out, natsZ_len]
      have := hO.out
      exact ⟨this.1, this.2.imp id (fun ⟨g, cap, cur, hv, hge, r⟩ => ⟨g, cap, cur, hv, by omega, r⟩)⟩
theorem pwords_any (c : Cfg) (s k : Nat) (zs : List Tx) (w : World) (h : CfgOk w c) (hm : c.may = true) (hs : s < c.kn + 1) (hz : sliceS c.ks c.ws s = zs) (hk : zs.length = k) :
    Calls Tryz.prog 23 #[.agg #[.slice c.wa c.wn c.wc, .slice c.ka c.kn c.kc, .int .i64 c.W, .int .i64 c.C, .int .i64 c.S, .int .i64 c.B, .int .i64 c.L, .int .i64 c.H, .int .i64 c.F, .int .i64 c.P, .int .i64 c.J, .int .i64 c.N], .int .i64 (s : Int)] w fun e w' => ∃ a' c', e = .returned (.slice a' k c') ∧ LstP w' a' k c' zs ∧ Below w.heap.size w w' := by
  have BX := Lib.hid (below_one w (.cells #[.slice c.wa c.wn c.wc, .slice c.ka c.kn c.kc, .int .i64 c.W, .int .i64 c.C, .int .i64 c.S, .int .i64 c.B, .int .i64 c.L, .int .i64 c.H, .int .i64 c.F, .int .i64 c.P, .int .i64 c.J, .int .i64 c.N] 25))
  have IN := Lib.hid (cfgIn_new w c w.heap.size 25 (0, 0) rfl)
  have ok := h.below BX.out
  have hkn := may_kn hm h
  have hwn : c.wn ≤ 60 := by
    have := (goodV_zero (may_parts hm).1).1
    have := h.1.len
    omega
  have CS := Lib.hid (sliceP_lst c.ka c.kn c.kc c.ks c.wa c.wn c.wc c.ws zs s k _ ok.2.2.2.2.2.1 ok.1 (by omega) (by omega) (by omega) ok.2.2.2.2.1 hz hk)
  clear ok h hm hs hz hk
  go_enter Tryz.func23, Tryz.ntmps23
  go_wp2_with fail
  refine CS.out.mono ?_
  rintro e w2 ⟨a', c', rfl, hl, hb⟩
  have B2 := Lib.hid (BX.out.trans (hb.mono BX.out.size))
  have L2 := Lib.hid hl
  clear hb hl
  go_wp2_with fail
  go_ret
  exact ⟨a', c', rfl, L2.out, B2.out⟩
end Go.Proofs.YtgnaiahnednllaaGreat
namespace Go.Proofs.YtgnaiahnednllaaGreat
open Go.RowKit
set_option linter.unusedVariables false
set_option maxRecDepth 20000
theorem good_filter {ws : List Tx} (h : goodV ws = 0) (p : Tx → Bool) : goodV (ws.filter p) = 0 := by
  obtain ⟨h1, h2, h3⟩ := goodV_zero h
  refine goodV_good ?_ (fun t ht => h2 t (List.mem_filter.1 ht).1) (List.Pairwise.sublist List.filter_sublist h3)
  have := List.length_filter_le p ws
  omega
set_option maxHeartbeats 1600000 in
theorem image_in (c : Cfg) (s : Nat) (zs : List Tx) (I : List Nat) (m : Nat) (w : World) (h : CfgOk w c) (hm : c.may = true) (hs : s < c.kn + 1) (hz : sliceS c.ks c.ws s = zs) (hI : imgB (grS zs) = I) (hl : I.length = m) :
    Calls Tryz.prog 87 #[.agg #[.slice c.wa c.wn c.wc, .slice c.ka c.kn c.kc, .int .i64 c.W, .int .i64 c.C, .int .i64 c.S, .int .i64 c.B, .int .i64 c.L, .int .i64 c.H, .int .i64 c.F, .int .i64 c.P, .int .i64 c.J, .int .i64 c.N], .int .i64 (s : Int)] w fun e w' => ∃ a' c', e = .returned (.tuple #[.slice a' m c', .int .i64 0]) ∧ w'.ownsRow w.heap.size 5 1 (.slice a' m c') m (bytesV I) ∧ HoldsB w' a' m I ∧ m ≤ c' ∧ Below w.heap.size w w' := by
  have BX := Lib.hid (below_one w (.cells #[.slice c.wa c.wn c.wc, .slice c.ka c.kn c.kc, .int .i64 c.W, .int .i64 c.C, .int .i64 c.S, .int .i64 c.B, .int .i64 c.L, .int .i64 c.H, .int .i64 c.F, .int .i64 c.P, .int .i64 c.J, .int .i64 c.N] 25))
  have IN := Lib.hid (cfgIn_new w c w.heap.size 25 (0, 0) rfl)
  have OK := Lib.hid h
  have hg : goodV zs = 0 := by rw [← hz]; exact good_filter (may_parts hm).1 _
  have l60 := (goodV_zero hg).1
  obtain ⟨k, hk⟩ : ∃ k, zs.length = k := ⟨_, rfl⟩
  have CH := Lib.hid (fun (w1 : World) (hb : Below w.heap.size w w1) => has_any c (s : Int) true w1 (OK.out.below hb) hm (decide_eq_true ⟨by omega, by omega⟩))
  have CW := Lib.hid (fun (w1 : World) (hb : Below w.heap.size w w1) => pwords_any c s k zs w1 (OK.out.below hb) hm hs hz hk)
  have CO := Lib.hid (fun (a' : Option Addr) (c' : Nat) (w1 : World) (hb : Below w.heap.size w w1) (hh : HoldsT w1 a' k zs) (hc : k ≤ c') => pOf_c a' k c' zs I m (w0 := w) w1 hb hh hc (by omega) hg hI hl)
  clear h hm hs hz hI hl hg hk l60
  go_enter Tryz.func87, Tryz.ntmps87
  go_upto_region 1 with fail
  generalize w.alloc (.cells #[.slice c.wa c.wn c.wc, .slice c.ka c.kn c.kc, .int .i64 c.W, .int .i64 c.C, .int .i64 c.S, .int .i64 c.B, .int .i64 c.L, .int .i64 c.H, .int .i64 c.F, .int .i64 c.P, .int .i64 c.J, .int .i64 c.N] 25) = w1 at *
  obtain ⟨p, hp⟩ : ∃ p, w.heap.size = p := ⟨_, rfl⟩
  have HP := Lib.hid hp
  rw [hp] at IN
  rw [hp]
  have hI := IN.out
  unfold CfgIn at hI
  obtain ⟨i0, i1, i2, i3, i4, i5, i6, i7, i8, i9, i10, i11⟩ := hI
  have CH1 := Lib.hid (CH.out w1 BX.out)
  clear CH hp
  go_wp2_with fail
  with_reducible refine CH1.out.mono ?_
  rintro e w2 ⟨rfl, hb2⟩
  have B2 := Lib.hid (BX.out.trans (hb2.mono BX.out.size))
  have I2 := Lib.hid (IN.out.below hb2)
  clear hb2 CH1 i0 i1 i2 i3 i4 i5 i6 i7 i8 i9 i10 i11 IN
  have hI := I2.out
  unfold CfgIn at hI
  obtain ⟨i0, i1, i2, i3, i4, i5, i6, i7, i8, i9, i10, i11⟩ := hI
  have CW1 := Lib.hid (CW.out w2 B2.out)
  clear CW
  go_wp2_with fail
  with_reducible refine CW1.out.mono ?_
  rintro e w3 ⟨a3, c3, rfl, L3, hb3⟩
  have B3 := Lib.hid (B2.out.trans (hb3.mono B2.out.size))
  have CO1 := Lib.hid (CO.out a3 c3 w3 B3.out L3.1 L3.2.2)
  clear hb3 L3 CW1 CO i0 i1 i2 i3 i4 i5 i6 i7 i8 i9 i10 i11
  go_wp2_with fail
  with_reducible refine CO1.out.mono ?_
  rintro e w4 ⟨a4, c4, rfl, o4, h4, hc4, b4, -⟩
  have F := Lib.hid (And.intro o4 (And.intro h4 (And.intro hc4 b4)))
  clear o4 h4 hc4 b4 CO1
  go_wp2_with fail
  go_ret2
  exact ⟨a4, c4, rfl, F.out.1, F.out.2.1, F.out.2.2.1, F.out.2.2.2⟩
end Go.Proofs.YtgnaiahnednllaaGreat
namespace Go.Proofs.YtgnaiahnednllaaGreat
open Go.RowKit
set_option linter.unusedVariables false
set_option maxRecDepth 20000
namespace Pl
theorem keep_mem {W C S : Nat} {x : Int} {s : Nat} (h : s ∈ keep W C S x) : s < S ∧ x ∈ cop W C s := by
  unfold keep at h
  obtain ⟨h1, h2⟩ := List.mem_filter.1 h
  exact ⟨by simpa using h1, of_decide_eq_true h2⟩
end Pl
end Go.Proofs.YtgnaiahnednllaaGreat
namespace Go.Proofs.YtgnaiahnednllaaGreat
open Go.RowKit
set_option linter.unusedVariables false
set_option maxRecDepth 20000
/-- the image of a shard's words -/
def imgC (c : Cfg) (s : Nat) : List Nat := imgB (grS (sliceS c.ks c.ws s))
/-- what a new disk has: an image of each of these shards, right -/
structure NewF (c : Cfg) (K : List Nat) (f : Int → Option DI) : Prop where
  sub : ∀ z i, f z = some i → ∃ s : Nat, z = (s : Int) ∧ s ∈ K ∧ i.ob = imgC c s ∧ i.sb = imgC c s
  all : ∀ s ∈ K, (f (s : Int)).isSome = true
theorem newF_nil (c : Cfg) : NewF c [] (fun _ => none) := ⟨fun z i h => (by cases h), fun s h => (by cases h)⟩
theorem newF_put {c : Cfg} {K : List Nat} {f : Int → Option DI} (h : NewF c K f) (s : Nat) (i : DI) (h1 : i.ob = imgC c s) (h2 : i.sb = imgC c s) : NewF c (K ++ [s]) (fput f (s : Int) i) := by
  refine ⟨fun z j e => ?_, fun t ht => ?_⟩
  · unfold fput at e
    split at e
    · rename_i hz
      injection e with e; subst e
      exact ⟨s, hz, by simp, h1, h2⟩
    · obtain ⟨t, a1, a2, a3⟩ := h.sub z j e
      exact ⟨t, a1, List.mem_append.2 (Or.inl a2), a3⟩
  · unfold fput
    split
    · rfl
    · rename_i hn
      rcases List.mem_append.1 ht with ht | ht
      · exact h.all t ht
      · rw [List.mem_singleton] at ht
        exact absurd (by rw [ht]) hn
end Go.Proofs.YtgnaiahnednllaaGreat
namespace Go.Proofs.YtgnaiahnednllaaGreat
open Go.RowKit
set_option linter.unusedVariables false
set_option maxRecDepth 20000
theorem wfI_of {x : Int} (h0 : -9223372036854775808 ≤ x) (h1 : x ≤ 9223372036854775807) : wfI x := by
  unfold wfI; simp [Lit.wf, IntKind.min, IntKind.max, IntKind.signed, IntKind.bits]; omega
def BWD (w0 : World) (p : Nat) (c : Cfg) (w : World) : Prop := Below w0.heap.size w0 w ∧ CfgIn w p c
theorem bwd_carry {w0 w w' : World} {p : Nat} {c : Cfg} (h : BWD w0 p c w) (hb : Below w.heap.size w w') : BWD w0 p c w' := ⟨h.1.trans (hb.mono h.1.size), h.2.below hb⟩
theorem take_nat {K : List Nat} {j : Nat} (h : j < K.length) : K.take (j + 1) = K.take j ++ [K.getD j 0] := by
  rw [List.take_add_one, List.getElem?_eq_getElem h, List.getD_eq_getElem?_getD, List.getElem?_eq_getElem h]; rfl
end Go.Proofs.YtgnaiahnednllaaGreat
