/- texts joined -/
import Derived.WalkKit
import Derived.ProofKit
import Derived.OpenShut
import Derived.Lib.SmallJoins
import Derived.Lib.Hide
import Derived.Deep.Slices
import Derived.OwnWalk
import Derived.Laws.AppendOwnNone
import Derived.Test.YtblipdmagfiigaaGreatChecked
import Derived.WalkLawsBesides
import Derived.Outline
import Derived.Sort.Walk0
import Derived.Laws.RangeAny
import Derived.Lib.DecodeN
import Derived.Deep.QuietTactic
import Derived.BigQuiet
import Derived.SliceStrings
import Derived.Deep.RegionWith
import Derived.Deep.DeepCutAuto
import Derived.Deep.RegionHeld3
import Derived.Lib.OthersKept
import Derived.Maps.OwnSet
import Derived.WalkArith
import Derived.BigRegion
import Derived.Deep.AppendLies
import Derived.Deep.RegionLaw
import Derived.Laws.OwnMore
import Derived.Lib.SliceRun
import Derived.Sort.Grow
import Derived.Laws.AppendOwn
import Derived.Carry
import Derived.Maps.AppendAt
import Derived.Test.YtblipdmagfiigaaGreatPkZB
namespace Go.Proofs.YtblipdmagfiigaaGreat
open Go.RowKit
set_option linter.unusedVariables false
set_option maxRecDepth 20000
abbrev coA : Tx := { data := #[97] }
abbrev coABC : Tx := { data := #[97, 98, 99] }
abbrev coB' : Tx := { data := #[98] }
def cfg24 (B : Nat) : Cfg := ⟨some ⟨B + 1, 0, none⟩, 3, 3, none, 0, 0, 1, 1, 1, 2, 5, 9, 2, 4, 0, 8, [coA, coABC, coB'], []⟩
theorem good24_w : goodV [coA, coABC, coB'] = 0 := by kernel_rfl
theorem good24_k : goodK [] = 0 := goodK_of (by decide) (by simp) (by simp [SortedK])
theorem may_cfg24 (B : Nat) : (cfg24 B).may = true := by
  simp [Cfg.may, cfg24, good24_w, good24_k]
  all_goals decide
theorem holdsT_lit24 (w : World) (a b c : Tx) (e : TypeId) (fr : Nat × Nat) : HoldsT (w.alloc (.cells #[.string a, .string b, .string c] e fr)) (some ⟨w.heap.size, 0, none⟩) 3 [a, b, c] := by
  refine ⟨by simp [strsV], fun _ => ⟨w.heap.size, 0, rfl, fun i hi => ?_⟩⟩
  rw [Nat.zero_add, World.cell?_alloc_mark]
  have hc : i = 0 ∨ i = 1 ∨ i = 2 := by omega
  rcases hc with rfl | rfl | rfl <;> rfl
def CfgP24 (w : World) (e : Ending) (w' : World) : Prop := ∃ B, e = .returned (.agg #[.slice (some ⟨B + 1, 0, none⟩) 3 3, .slice none 0 0, .int .i64 1, .int .i64 1, .int .i64 1, .int .i64 2, .int .i64 5, .int .i64 9, .int .i64 2, .int .i64 4, .int .i64 0, .int .i64 8]) ∧ CfgOk w' (cfg24 B) ∧ Below w.heap.size w w'
theorem small24_any (w : World) : Calls Tryz.prog 29 #[] w (CfgP24 w) := by
  go_enter Tryz.func29, Tryz.ntmps29
  go_wp2_with fail
  refine bodyPost_ret (v := .agg #[.slice (some ⟨w.heap.size + 1, 0, none⟩) 3 3, .slice none 0 0, .int .i64 1, .int .i64 1, .int .i64 1, .int .i64 2, .int .i64 5, .int .i64 9, .int .i64 2, .int .i64 4, .int .i64 0, .int .i64 8]) (by simp [results, go_sem]) rfl ⟨w.heap.size, rfl, ?_, ?_⟩
  · generalize hw1 : w.alloc (.cells #[.slice (some ⟨w.heap.size + 1, 0, none⟩) 3 3, .slice none 0 0, .int .i64 1, .int .i64 1, .int .i64 1, .int .i64 2, .int .i64 5, .int .i64 9, .int .i64 2, .int .i64 4, .int .i64 0, .int .i64 8] 53) = w1
    have s1 : w1.heap.size = w.heap.size + 1 := by rw [← hw1]; simp
    have hT := holdsT_lit24 w1 coA coABC coB' 9 (0, 0)
    rw [s1] at hT
    exact ⟨hT, fun e => (by cases e), Nat.le_refl _, (show (3 : Nat) ≤ 9223372036854775807 by decide), (show ∀ t ∈ [coA, coABC, coB'], ByteArray.size t ≤ 9223372036854775807 by decide), ⟨rfl, fun h => (Nat.lt_irrefl 0 h).elim⟩, (show (0 : Nat) ≤ 9223372036854775807 by decide), fun k hk => by cases hk⟩
  · repeat' (first | exact Below.refl _ _ | refine Below.alloc ?_ (by simp <;> omega) _)
/-- the coordinator's cells -/
def coC (ca : Option Addr) (cn cc : Nat) (bl bs bt : Option Nat) (bq : Nat) : Array Value := #[.slice none 0 0, .slice none 0 0, .int .i64 1, .int .i64 1, .int .i64 1, .int .i64 2, .int .i64 5, .int .i64 9, .int .i64 2, .int .i64 4, .int .i64 0, .int .i64 8, .slice ca cn cc, .int .i64 0, .pointer (bl.map fun b => ⟨b, 0, none⟩), .pointer (bs.map fun b => ⟨b, 0, none⟩), .pointer (bt.map fun b => ⟨b, 0, none⟩), .map (some bq)]
def CoBox (w : World) (x : Nat) (ca : Option Addr) (cn cc : Nat) (bl bs bt : Option Nat) (bq : Nat) : Prop := w.heap[x]? = some (.cells (coC ca cn cc bl bs bt bq) 87 (0, 0))
/-- the coordinator: what has colour k belongs to part k: 0 its own blocks, 1 leases, 2 slots, 3 timers, 4 the queries' map -/
structure CoS (B0 : Nat) (w : World) (col : Nat → Nat) (x ca cc cw c2 bl bs bo ba bt bq n : Nat) (ls : Lt) (ss : Sl) (M : List TM) (f : Int → Option Value) : Prop where
  box : CoBox w x (some ⟨ca, 0, none⟩) 1 cc (some bl) (some bs) (some bt) bq
  row : w.cell? ⟨ca, 0, none⟩ = some (.slice (some ⟨cw, 0, none⟩) 1 c2)
  wk : w.cell? ⟨cw, 0, none⟩ = some (.int .i64 1)
  L : Tab w bl ls
  S : SlAt w bs bo ba ss
  T : ∃ St, TQ bt 24 M w St ∧ ∀ k, St k → col k = 3
  Q : MapV w bq n f
  cx : col x = 0 ∧ col ca = 0 ∧ col cw = 0
  cl : col bl = 1
  cs : col bs = 2 ∧ col bo = 2 ∧ col ba = 2
  cq : col bq = 4
  lo : ∀ k, col k ≤ 7 → B0 ≤ k
  nw : ∀ k, w.heap.size ≤ k → col k = 9
  hB : B0 ≤ w.heap.size
theorem CoS.hs {B0 : Nat} {w : World} {col : Nat → Nat} {x ca cc cw c2 bl bs bo ba bt bq n : Nat} {ls : Lt} {ss : Sl} {M : List TM} {f : Int → Option Value} (h : CoS B0 w col x ca cc cw c2 bl bs bo ba bt bq n ls ss M f) : ∀ k, slF bs bo ba k → col k = 2 := by
  intro k hk
  rcases hk with e | e | e
  · rw [e]; exact h.cs.1
  · rw [e]; exact h.cs.2.1
  · rw [e]; exact h.cs.2.2
theorem CoS.carL {B0 : Nat} {w w' : World} {col : Nat → Nat} {x ca cc cw c2 bl bs bo ba bt bq n : Nat} {ls : Lt} {ss : Sl} {M : List TM} {f : Int → Option Value} {F : Nat → Prop} (h : CoS B0 w col x ca cc cw c2 bl bs bo ba bt bq n ls ss M f) (t : Turn F w w') (hF : ∀ k, F k → col k ≠ 1) : Tab w' bl ls := h.L.block (t.block bl h.L.lt fun e => hF _ e h.cl)
theorem CoS.carS {B0 : Nat} {w w' : World} {col : Nat → Nat} {x ca cc cw c2 bl bs bo ba bt bq n : Nat} {ls : Lt} {ss : Sl} {M : List TM} {f : Int → Option Value} {F : Nat → Prop} (h : CoS B0 w col x ca cc cw c2 bl bs bo ba bt bq n ls ss M f) (t : Turn F w w') (hF : ∀ k, F k → col k ≠ 2) : SlAt w' bs bo ba ss := h.S.turn t fun k hk e => hF k e (h.hs k hk)
theorem CoS.carT {B0 : Nat} {w w' : World} {col : Nat → Nat} {x ca cc cw c2 bl bs bo ba bt bq n : Nat} {ls : Lt} {ss : Sl} {M : List TM} {f : Int → Option Value} {F : Nat → Prop} (h : CoS B0 w col x ca cc cw c2 bl bs bo ba bt bq n ls ss M f) (t : Turn F w w') (hF : ∀ k, F k → col k ≠ 3) : ∃ St, TQ bt 24 M w' St ∧ ∀ k, St k → col k = 3 := by
  obtain ⟨St, q, hc⟩ := h.T
  exact ⟨St, (tq_ok _ _ _).turn q t fun k hk e => hF k e (hc k hk), hc⟩
theorem CoS.carQ {B0 : Nat} {w w' : World} {col : Nat → Nat} {x ca cc cw c2 bl bs bo ba bt bq n : Nat} {ls : Lt} {ss : Sl} {M : List TM} {f : Int → Option Value} {F : Nat → Prop} (h : CoS B0 w col x ca cc cw c2 bl bs bo ba bt bq n ls ss M f) (t : Turn F w w') (hF : ∀ k, F k → col k ≠ 4) : MapV w' bq n f := h.Q.turn t fun e => hF _ e h.cq
theorem CoS.over {B0 : Nat} {w w' : World} {col : Nat → Nat} {x ca cc cw c2 bl bs bo ba bt bq n : Nat} {ls : Lt} {ss : Sl} {M : List TM} {f : Int → Option Value} {F : Nat → Prop} {ls' : Lt} {ss' : Sl} {M' : List TM} {f' : Int → Option Value} {n' : Nat} (h : CoS B0 w col x ca cc cw c2 bl bs bo ba bt bq n ls ss M f) (t : Turn F w w') (hF : ∀ k, F k → col k ≠ 0) (L' : Tab w' bl ls') (S' : SlAt w' bs bo ba ss') (T' : ∃ St, TQ bt 24 M' w' St ∧ ∀ k, St k → col k = 3) (Q' : MapV w' bq n' f') : CoS B0 w' col x ca cc cw c2 bl bs bo ba bt bq n' ls' ss' M' f' where
  box := (t.block x (Array.getElem?_eq_some_iff.1 h.box).1 fun e => hF _ e h.cx.1).trans h.box
  row := (t.cell (lt_of_cell h.row) fun e => hF _ e h.cx.2.1).trans h.row
  wk := (t.cell (lt_of_cell h.wk) fun e => hF _ e h.cx.2.2).trans h.wk
  L := L'
  S := S'
  T := T'
  Q := Q'
  cx := h.cx
  cl := h.cl
  cs := h.cs
  cq := h.cq
  lo := h.lo
  nw := fun k hk => h.nw k (Nat.le_trans t.size hk)
  hB := Nat.le_trans h.hB t.size
theorem CoS.own {B0 : Nat} {w w' : World} {col : Nat → Nat} {x ca cc cw c2 bl bs bo ba bt bq n : Nat} {ls : Lt} {ss : Sl} {M : List TM} {f : Int → Option Value} {F : Nat → Prop} (h : CoS B0 w col x ca cc cw c2 bl bs bo ba bt bq n ls ss M f) (t : Turn F w w') (hF : ∀ k, F k → 5 ≤ col k) : CoS B0 w' col x ca cc cw c2 bl bs bo ba bt bq n ls ss M f :=
  h.over t (fun k e => by have := hF k e; omega) (h.carL t fun k e => by have := hF k e; omega) (h.carS t fun k e => by have := hF k e; omega) (h.carT t fun k e => by have := hF k e; omega) (h.carQ t fun k e => by have := hF k e; omega)
theorem CoS.below {B0 : Nat} {w w' : World} {col : Nat → Nat} {x ca cc cw c2 bl bs bo ba bt bq n : Nat} {ls : Lt} {ss : Sl} {M : List TM} {f : Int → Option Value} (h : CoS B0 w col x ca cc cw c2 bl bs bo ba bt bq n ls ss M f) (hb : Below w.heap.size w w') : CoS B0 w' col x ca cc cw c2 bl bs bo ba bt bq n ls ss M f := h.own (F := fun _ => False) (Turn.of_below hb) fun k e => e.elim
theorem ButL.turn {b : Nat} {w w' : World} (h : ButL b w w') : Turn (fun k => k = b) w w' := ⟨h.os, h.tape, h.output, h.size, fun k hk e => h.block k hk e⟩
theorem CoS.lease {B0 : Nat} {w w' : World} {col : Nat → Nat} {x ca cc cw c2 bl bs bo ba bt bq n : Nat} {ls : Lt} {ss : Sl} {M : List TM} {f : Int → Option Value} {ls' : Lt} (h : CoS B0 w col x ca cc cw c2 bl bs bo ba bt bq n ls ss M f) (L' : ThenL bl w ls' w') : CoS B0 w' col x ca cc cw c2 bl bs bo ba bt bq n ls' ss M f := by
  have t := L'.2.turn
  have hF : ∀ k, k = bl → col k = 1 := fun k e => by rw [e]; exact h.cl
  exact h.over t (fun k e => by rw [hF k e]; decide) L'.1 (h.carS t fun k e => by rw [hF k e]; decide) (h.carT t fun k e => by rw [hF k e]; decide) (h.carQ t fun k e => by rw [hF k e]; decide)
theorem CoS.slots {B0 : Nat} {w w' : World} {col : Nat → Nat} {x ca cc cw c2 bl bs bo ba bt bq n : Nat} {ls : Lt} {ss : Sl} {M : List TM} {f : Int → Option Value} {ss' : Sl} (h : CoS B0 w col x ca cc cw c2 bl bs bo ba bt bq n ls ss M f) (S' : SlAt w' bs bo ba ss') (t : Turn (slF bs bo ba) w w') : CoS B0 w' col x ca cc cw c2 bl bs bo ba bt bq n ls ss' M f := by
  have hF : ∀ k, slF bs bo ba k → col k = 2 := h.hs
  exact h.over t (fun k e => by rw [hF k e]; decide) (h.carL t fun k e => by rw [hF k e]; decide) S' (h.carT t fun k e => by rw [hF k e]; decide) (h.carQ t fun k e => by rw [hF k e]; decide)
theorem CoS.queries {B0 : Nat} {w w' : World} {col : Nat → Nat} {x ca cc cw c2 bl bs bo ba bt bq n : Nat} {ls : Lt} {ss : Sl} {M : List TM} {f : Int → Option Value} {f' : Int → Option Value} {n' : Nat} (h : CoS B0 w col x ca cc cw c2 bl bs bo ba bt bq n ls ss M f) (Q' : MapV w' bq n' f') (t : Turn (fun k => k = bq) w w') : CoS B0 w' col x ca cc cw c2 bl bs bo ba bt bq n' ls ss M f' := by
  have hF : ∀ k, k = bq → col k = 4 := fun k e => by rw [e]; exact h.cq
  exact h.over t (fun k e => by rw [hF k e]; decide) (h.carL t fun k e => by rw [hF k e]; decide) (h.carS t fun k e => by rw [hF k e]; decide) (h.carT t fun k e => by rw [hF k e]; decide) Q'
/-- new blocks get a colour -/
def newCol (w w' : World) (c : Nat) (col : Nat → Nat) : Nat → Nat := fun k => if w.heap.size ≤ k ∧ k < w'.heap.size then c else col k
theorem newCol_old {w w' : World} {c : Nat} {col : Nat → Nat} {k : Nat} (h : k < w.heap.size) : newCol w w' c col k = col k := if_neg (by omega)
theorem newCol_new {w w' : World} {c : Nat} {col : Nat → Nat} {k : Nat} (h : w.heap.size ≤ k) (h2 : k < w'.heap.size) : newCol w w' c col k = c := if_pos ⟨h, h2⟩
theorem newCol_far {w w' : World} {c : Nat} {col : Nat → Nat} {k : Nat} (h : w'.heap.size ≤ k) : newCol w w' c col k = col k := if_neg (by omega)
/-- the same state, its new blocks coloured -/
theorem CoS.paint {B0 : Nat} {w w' : World} {col : Nat → Nat} {x ca cc cw c2 bl bs bo ba bt bq n : Nat} {ls : Lt} {ss : Sl} {M : List TM} {f : Int → Option Value} {v : World} (c : Nat) (h : CoS B0 w' col x ca cc cw c2 bl bs bo ba bt bq n ls ss M f) (hv : v.heap.size ≤ w'.heap.size) (hB : B0 ≤ v.heap.size) (hl : x < v.heap.size ∧ ca < v.heap.size ∧ cw < v.heap.size ∧ bl < v.heap.size ∧ bs < v.heap.size ∧ bo < v.heap.size ∧ ba < v.heap.size ∧ bq < v.heap.size) (hT : ∃ St, TQ bt 24 M w' St ∧ ∀ k, St k → newCol v w' c col k = 3) : CoS B0 w' (newCol v w' c col) x ca cc cw c2 bl bs bo ba bt bq n ls ss M f where
  box := h.box
  row := h.row
  wk := h.wk
  L := h.L
  S := h.S
  T := hT
  Q := h.Q
  cx := ⟨(newCol_old hl.1).trans h.cx.1, (newCol_old hl.2.1).trans h.cx.2.1, (newCol_old hl.2.2.1).trans h.cx.2.2⟩
  cl := (newCol_old hl.2.2.2.1).trans h.cl
  cs := ⟨(newCol_old hl.2.2.2.2.1).trans h.cs.1, (newCol_old hl.2.2.2.2.2.1).trans h.cs.2.1, (newCol_old hl.2.2.2.2.2.2.1).trans h.cs.2.2⟩
  cq := (newCol_old hl.2.2.2.2.2.2.2).trans h.cq
  lo := fun k hk => by
    by_cases e : v.heap.size ≤ k ∧ k < w'.heap.size
    · exact Nat.le_trans hB e.1
    · unfold newCol at hk; rw [if_neg e] at hk; exact h.lo k hk
  nw := fun k hk => (newCol_far hk).trans (h.nw k hk)
  hB := h.hB
theorem CoS.lts {B0 : Nat} {w : World} {col : Nat → Nat} {x ca cc cw c2 bl bs bo ba bt bq n : Nat} {ls : Lt} {ss : Sl} {M : List TM} {f : Int → Option Value} (h : CoS B0 w col x ca cc cw c2 bl bs bo ba bt bq n ls ss M f) : x < w.heap.size ∧ ca < w.heap.size ∧ cw < w.heap.size ∧ bl < w.heap.size ∧ bs < w.heap.size ∧ bo < w.heap.size ∧ ba < w.heap.size ∧ bq < w.heap.size :=
  ⟨(Array.getElem?_eq_some_iff.1 h.box).1, lt_of_cell h.row, lt_of_cell h.wk, h.L.lt, h.S.lt.1, h.S.lt.2.1, h.S.lt.2.2, h.Q.lt⟩
theorem CoS.timers {B0 : Nat} {w w' : World} {col : Nat → Nat} {x ca cc cw c2 bl bs bo ba bt bq n : Nat} {ls : Lt} {ss : Sl} {M : List TM} {f : Int → Option Value} {M' : List TM} {St : Nat → Prop} (h : CoS B0 w col x ca cc cw c2 bl bs bo ba bt bq n ls ss M f) (hc : ∀ k, St k → col k = 3) (p : PO (TQ bt 24 M') w St w') : CoS B0 w' (newCol w w' 3 col) x ca cc cw c2 bl bs bo ba bt bq n ls ss M' f := by
  obtain ⟨S', q, hs, t⟩ := p
  have hl := h.lts
  have hq : ∀ k, S' k → newCol w w' 3 col k = 3 := fun k hk => by
    by_cases e : w.heap.size ≤ k
    · exact newCol_new e ((tq_ok _ _ _).lt q k hk)
    · rcases hs k hk with h1 | h1
      · rw [newCol_old (by omega)]; exact hc k h1
      · omega
  exact {
    box := (t.block x hl.1 fun e => by have := hc _ e; have := h.cx.1; omega).trans h.box
    row := (t.cell hl.2.1 fun e => by have := hc _ e; have := h.cx.2.1; omega).trans h.row
    wk := (t.cell hl.2.2.1 fun e => by have := hc _ e; have := h.cx.2.2; omega).trans h.wk
    L := h.carL t fun k e => by rw [hc k e]; decide
    S := h.carS t fun k e => by rw [hc k e]; decide
    T := ⟨S', q, hq⟩
    Q := h.carQ t fun k e => by rw [hc k e]; decide
    cx := ⟨(newCol_old hl.1).trans h.cx.1, (newCol_old hl.2.1).trans h.cx.2.1, (newCol_old hl.2.2.1).trans h.cx.2.2⟩
    cl := (newCol_old hl.2.2.2.1).trans h.cl
    cs := ⟨(newCol_old hl.2.2.2.2.1).trans h.cs.1, (newCol_old hl.2.2.2.2.2.1).trans h.cs.2.1, (newCol_old hl.2.2.2.2.2.2.1).trans h.cs.2.2⟩
    cq := (newCol_old hl.2.2.2.2.2.2.2).trans h.cq
    lo := fun k hk => by
      by_cases e : w.heap.size ≤ k ∧ k < w'.heap.size
      · exact Nat.le_trans h.hB e.1
      · unfold newCol at hk; rw [if_neg e] at hk; exact h.lo k hk
    nw := fun k hk => (newCol_far hk).trans (h.nw k (Nat.le_trans t.size hk))
    hB := Nat.le_trans h.hB t.size }
end Go.Proofs.YtblipdmagfiigaaGreat
namespace Go.Proofs.YtblipdmagfiigaaGreat
open Go.RowKit
set_option linter.unusedVariables false
set_option maxRecDepth 20000
theorem clone24 (w : World) : Calls Tryz.prog 51 #[.slice none 0 0] w fun e w' => e = .returned (.slice none 0 0) ∧ w = w' := by
  have he := fun w => Lib.run_eql_slice_nil (P := Tryz.prog) w 51 105 none 0 0 0 0 Tryz.underlying51
  go_enter Tryz.func51, Tryz.ntmps51
  go_wp2_with fail
  go_ret
  exact ⟨rfl, rfl⟩
theorem list_info24 : (Tryz.prog.info? 54).map (fun i => (i.zero, i.size, i.bytes)) = some (some (.slice none 0 0), 1, 24) := by kernel_rfl
/-- the coordinator while it is made -/
def CoB0 (w : World) (q x bq : Nat) (B : Nat) (ca : Option Addr) (cn cc : Nat) (bl bs bt : Option Nat) : Prop := w.heap[q]? = some (.cells #[.slice (some ⟨B + 1, 0, none⟩) 3 3, .slice none 0 0, .int .i64 1, .int .i64 1, .int .i64 1, .int .i64 2, .int .i64 5, .int .i64 9, .int .i64 2, .int .i64 4, .int .i64 0, .int .i64 8] 53 (0, 0)) ∧ CoBox w x ca cn cc bl bs bt bq
theorem CoB0.below {w w' : World} {q x bq B : Nat} {ca : Option Addr} {cn cc : Nat} {bl bs bt : Option Nat} (h : CoB0 w q x bq B ca cn cc bl bs bt) (hb : Below w.heap.size w w') : CoB0 w' q x bq B ca cn cc bl bs bt :=
  ⟨(hb.block _ (Array.getElem?_eq_some_iff.1 h.1).1).trans h.1, (hb.block _ (Array.getElem?_eq_some_iff.1 h.2).1).trans h.2⟩
theorem CoB0.set {w : World} {q x bq B : Nat} {ca ca' : Option Addr} {cn cc cn' cc' : Nat} {bl bs bt bl' bs' bt' : Option Nat} (h : CoB0 w q x bq B ca cn cc bl bs bt) (hn : q ≠ x) (i : Nat) (v : Value) (e : (coC ca cn cc bl bs bt bq).setIfInBounds i v = coC ca' cn' cc' bl' bs' bt' bq) : CoB0 (w.setCell ⟨x, i, none⟩ v) q x bq B ca' cn' cc' bl' bs' bt' :=
  ⟨(Below.heap_setCell _ _ _ _ hn).trans h.1, by unfold CoBox; rw [Go.heap_setCell_same w x i _ _ v h.2, e]⟩
theorem co_cell {w : World} {p i : Nat} {v : Value} {cs : Array Value} {t : TypeId} {fr : Nat × Nat} (h : w.heap[p]? = some (.cells cs t fr)) (h0 : cs[i]? = some v) : w.cell? ⟨p, i, none⟩ = some v := by
  simp [World.cell?, h, h0]
theorem co_fz {w : World} {p : Nat} {cs : Array Value} {t : TypeId} (h : w.heap[p]? = some (.cells cs t (0, 0))) (i : Nat) : w.frozen? ⟨p, i, none⟩ = false := by
  simp [World.frozen?, h]
theorem own_cell24 {w : World} {B c : Nat} {e : TypeId} {a : Option Addr} {v : Value} (h : w.ownsRow B e 1 (.slice a 1 c) 1 [v]) : ∃ g, a = some ⟨g, 0, none⟩ ∧ B ≤ g ∧ w.cell? ⟨g, 0, none⟩ = some v := by
  rcases h.2 with ⟨h0, h1⟩ | ⟨g, cap, cur, hv, hg, hh, _, _, hs, hx⟩
  · cases h1
  · injection hv with hv _ _
    refine ⟨g, hv, hg, ?_⟩
    rw [Lib.cell_of_heap hh, ← Array.getElem?_toList]
    have h3 : (cur.toList.take (1 * 1))[0]? = ([v] : List Value)[0]? := by rw [hx]
    rw [List.getElem?_take_of_lt (by omega)] at h3
    rw [h3]; rfl
theorem set_ne24 {w : World} {x i b o : Nat} {v : Value} (h : x ≠ b) : (w.setCell ⟨x, i, none⟩ v).cell? ⟨b, o, none⟩ = w.cell? ⟨b, o, none⟩ := World.cell?_setCell_other _ _ _ _ (by intro e; injection e with e; exact h e)
/-- the copies are there -/
def Mid24 (w wr : World) (q x bq B ca cc cw c2 : Nat) : Prop := CoB0 wr q x bq B (some ⟨ca, 0, none⟩) 1 cc none none none ∧ wr.cell? ⟨ca, 0, none⟩ = some (.slice (some ⟨cw, 0, none⟩) 1 c2) ∧ wr.cell? ⟨cw, 0, none⟩ = some (.int .i64 1) ∧ MapV wr bq 0 (fun _ => none) ∧ Below w.heap.size w wr ∧ x < ca ∧ x < cw
/-- the coordinator while its parts are made -/
structure Late24 (w wr : World) (q x bq B p ca cc cw c2 : Nat) (bl bs bt : Option Nat) : Prop where
  k : CoB0 wr q x bq B (some ⟨ca, 0, none⟩) 1 cc bl bs bt
  a : wr.heap[p]? = some (.cells #[.int .i64 0, .int .i64 0, .int .i64 0] 112 (0, 0))
  r1 : wr.cell? ⟨ca, 0, none⟩ = some (.slice (some ⟨cw, 0, none⟩) 1 c2)
  r2 : wr.cell? ⟨cw, 0, none⟩ = some (.int .i64 1)
  m : MapV wr bq 0 (fun _ => none)
  b : Below w.heap.size w wr
  o : q < bq ∧ bq < x ∧ x < ca ∧ x < cw ∧ ca < p ∧ cw < p ∧ w.heap.size ≤ bq ∧ p < wr.heap.size
theorem Late24.below {w wr w' : World} {q x bq B p ca cc cw c2 : Nat} {bl bs bt : Option Nat} (h : Late24 w wr q x bq B p ca cc cw c2 bl bs bt) (hb : Below wr.heap.size wr w') : Late24 w w' q x bq B p ca cc cw c2 bl bs bt :=
  ⟨h.k.below hb, (hb.block _ (Array.getElem?_eq_some_iff.1 h.a).1).trans h.a, (hb.cell (p := ⟨ca, 0, none⟩) (lt_of_cell h.r1)).trans h.r1, (hb.cell (p := ⟨cw, 0, none⟩) (lt_of_cell h.r2)).trans h.r2, h.m.below hb, h.b.trans (hb.mono h.b.size), by have := h.o; have := hb.size; omega⟩
theorem Late24.setx {w wr : World} {q x bq B p ca cc cw c2 : Nat} {bl bs bt bl' bs' bt' : Option Nat} (h : Late24 w wr q x bq B p ca cc cw c2 bl bs bt) (i : Nat) (v : Value) (e : (coC (some ⟨ca, 0, none⟩) 1 cc bl bs bt bq).setIfInBounds i v = coC (some ⟨ca, 0, none⟩) 1 cc bl' bs' bt' bq) (j : Nat) (ej : (#[.int .i64 0, .int .i64 0, .int .i64 0] : Array Value).setIfInBounds j (.int .i64 0) = #[.int .i64 0, .int .i64 0, .int .i64 0]) : Late24 w ((wr.setCell ⟨x, i, none⟩ v).setCell ⟨p, j, none⟩ (.int .i64 0)) q x bq B p ca cc cw c2 bl' bs' bt' := by
  obtain ⟨o1, o2, o3, o4, o5, o6, o7, o8⟩ := h.o
  have k1 := h.k.set (by omega) i v e
  refine ⟨⟨(Below.heap_setCell _ _ _ _ (by dsimp only; omega)).trans k1.1, (Below.heap_setCell _ _ _ _ (by dsimp only; omega)).trans k1.2⟩, ?_, ((set_ne24 (by omega)).trans (set_ne24 (by omega))).trans h.r1, ((set_ne24 (by omega)).trans (set_ne24 (by omega))).trans h.r2, (h.m.setCell (by omega)).setCell (by omega), ?_, ?_⟩
  · rw [Go.heap_setCell_same _ p j _ _ (.int .i64 0) ((Below.heap_setCell _ _ _ _ (by dsimp only; omega)).trans h.a), ej]
  · exact h.b.trans (((Turn.setCell (F := fun k => k = x ∨ k = p) (Or.inl rfl)).trans (Turn.setCell (F := fun k => k = x ∨ k = p) (Or.inr rfl))).below (fun k e => by rcases e with rfl | rfl <;> omega) h.b.size)
  · simp; omega
theorem late_turn (wr : World) (x p i j : Nat) (v u : Value) : Turn (fun k => k = x ∨ k = p) wr ((wr.setCell ⟨x, i, none⟩ v).setCell ⟨p, j, none⟩ u) := (Turn.setCell (F := fun k => k = x ∨ k = p) (Or.inl rfl)).trans (Turn.setCell (F := fun k => k = x ∨ k = p) (Or.inr rfl))
theorem eq24 (w : World) : (Op.equalIn 10000 112 (.agg #[.int .i64 0, .int .i64 0, .int .i64 0]) (.agg #[.int .i64 0, .int .i64 0, .int .i64 0])).run Tryz.prog w = .ok true w := by kernel_rfl
open Classical in
noncomputable def col24 (x ca cw bl bs bo ba bq : Nat) (St : Nat → Prop) (k : Nat) : Nat := if k = x ∨ k = ca ∨ k = cw then 0 else if k = bl then 1 else if k = bs ∨ k = bo ∨ k = ba then 2 else if St k then 3 else if k = bq then 4 else 9
def NewP24 (w : World) (e : Ending) (w' : World) : Prop := ∃ col x ca cc cw c2 bl bs bo ba bt bq, e = .returned (.tuple #[.pointer (some ⟨x, 0, none⟩), .int .i64 0]) ∧ CoS w.heap.size w' col x ca cc cw c2 bl bs bo ba bt bq 0 (newS 1 5) (newSl 1) [] (fun _ => none) ∧ Below w.heap.size w w'
set_option maxRecDepth 100000 in
set_option maxHeartbeats 3200000 in
theorem cnew_any (B : Nat) (w : World) (h : CfgOk w (cfg24 B)) : Calls Tryz.prog 22 #[.agg #[.slice (some ⟨B + 1, 0, none⟩) 3 3, .slice none 0 0, .int .i64 1, .int .i64 1, .int .i64 1, .int .i64 2, .int .i64 5, .int .i64 9, .int .i64 2, .int .i64 4, .int .i64 0, .int .i64 8]] w (NewP24 w) := by
  have CM := Lib.hid (fun (w' : World) (hb : Below w.heap.size w w') => (show Calls Tryz.prog 20 #[.agg #[.slice (some ⟨B + 1, 0, none⟩) 3 3, .slice none 0 0, .int .i64 1, .int .i64 1, .int .i64 1, .int .i64 2, .int .i64 5, .int .i64 9, .int .i64 2, .int .i64 4, .int .i64 0, .int .i64 8]] w' fun e w'' => e = .returned (.bool true) ∧ Below w'.heap.size w' w'' from may_cfg (cfg24 B) true w' (h.below hb) (may_cfg24 B)))
  have CS := Lib.hid (fun (w' : World) (hb : Below w.heap.size w w') => (show Calls Tryz.prog 24 #[.agg #[.slice (some ⟨B + 1, 0, none⟩) 3 3, .slice none 0 0, .int .i64 1, .int .i64 1, .int .i64 1, .int .i64 2, .int .i64 5, .int .i64 9, .int .i64 2, .int .i64 4, .int .i64 0, .int .i64 8]] w' fun e w'' => e = .returned (.int .i64 1) ∧ Below w'.heap.size w' w'' from shards_any (cfg24 B) w' (h.below hb) (may_cfg24 B)))
  have CC := Lib.hid (fun (w' : World) (hb : Below w.heap.size w w') => (show Calls Tryz.prog 27 #[.agg #[.slice (some ⟨B + 1, 0, none⟩) 3 3, .slice none 0 0, .int .i64 1, .int .i64 1, .int .i64 1, .int .i64 2, .int .i64 5, .int .i64 9, .int .i64 2, .int .i64 4, .int .i64 0, .int .i64 8], .int .i64 ((0 : Nat) : Int)] w' (RetZ w' [1]) from copies_in (cfg24 B) 0 1 1 w' (h.below hb) (may_cfg24 B) (show 0 < 0 + 1 by decide) rfl rfl))
  have BX := Lib.hid (below_one w (.cells #[.slice (some ⟨B + 1, 0, none⟩) 3 3, .slice none 0 0, .int .i64 1, .int .i64 1, .int .i64 1, .int .i64 2, .int .i64 5, .int .i64 9, .int .i64 2, .int .i64 4, .int .i64 0, .int .i64 8] 53))
  obtain ⟨q, hq⟩ : ∃ q, w.heap.size = q := ⟨_, rfl⟩
  have KX := Lib.hid (show (w.alloc (.cells #[.slice (some ⟨B + 1, 0, none⟩) 3 3, .slice none 0 0, .int .i64 1, .int .i64 1, .int .i64 1, .int .i64 2, .int .i64 5, .int .i64 9, .int .i64 2, .int .i64 4, .int .i64 0, .int .i64 8] 53)).heap[q]? = some (.cells #[.slice (some ⟨B + 1, 0, none⟩) 3 3, .slice none 0 0, .int .i64 1, .int .i64 1, .int .i64 1, .int .i64 2, .int .i64 5, .int .i64 9, .int .i64 2, .int .i64 4, .int .i64 0, .int .i64 8] 53 (0, 0)) from by rw [← hq]; exact heap_alloc_new w _)
  have HQ := Lib.hid hq
  have hmm := @run_makeMap Tryz.prog
  clear h
  go_enter Tryz.func22, Tryz.ntmps22
  go_wp2_with fail
  refine (CM.out _ BX.out).mono ?_
  rintro e w2 ⟨rfl, hb2⟩
  have B2 := Lib.hid (BX.out.trans (hb2.mono BX.out.size))
  have K2 := Lib.hid (show w2.heap[q]? = some (.cells #[.slice (some ⟨B + 1, 0, none⟩) 3 3, .slice none 0 0, .int .i64 1, .int .i64 1, .int .i64 1, .int .i64 2, .int .i64 5, .int .i64 9, .int .i64 2, .int .i64 4, .int .i64 0, .int .i64 8] 53 (0, 0)) from (hb2.block _ (Array.getElem?_eq_some_iff.1 KX.out).1).trans KX.out)
  clear hb2
  have f0 : w2.cell? ⟨q, 0, none⟩ = some (.slice (some ⟨B + 1, 0, none⟩) 3 3) := co_cell K2.out rfl
  have f1 : w2.cell? ⟨q, 1, none⟩ = some (.slice none 0 0) := co_cell K2.out rfl
  have f2 : w2.cell? ⟨q, 2, none⟩ = some (.int .i64 1) := co_cell K2.out rfl
  have f3 : w2.cell? ⟨q, 3, none⟩ = some (.int .i64 1) := co_cell K2.out rfl
  have f4 : w2.cell? ⟨q, 4, none⟩ = some (.int .i64 1) := co_cell K2.out rfl
  have f5 : w2.cell? ⟨q, 5, none⟩ = some (.int .i64 2) := co_cell K2.out rfl
  have f6 : w2.cell? ⟨q, 6, none⟩ = some (.int .i64 5) := co_cell K2.out rfl
  have f7 : w2.cell? ⟨q, 7, none⟩ = some (.int .i64 9) := co_cell K2.out rfl
  have f8 : w2.cell? ⟨q, 8, none⟩ = some (.int .i64 2) := co_cell K2.out rfl
  have f9 : w2.cell? ⟨q, 9, none⟩ = some (.int .i64 4) := co_cell K2.out rfl
  have f10 : w2.cell? ⟨q, 10, none⟩ = some (.int .i64 0) := co_cell K2.out rfl
  have f11 : w2.cell? ⟨q, 11, none⟩ = some (.int .i64 8) := co_cell K2.out rfl
  go_upto_region 5 with fail
  obtain ⟨bq, hbq⟩ : ∃ b, w2.heap.size = b := ⟨_, rfl⟩
  obtain ⟨x, hx⟩ : ∃ x, bq + 1 = x := ⟨_, rfl⟩
  have hq2 : q < bq := by have := (Array.getElem?_eq_some_iff.1 K2.out).1; omega
  have hb5 : Below w2.heap.size w2 ((w2.alloc (.map #[] 0)).alloc (.cells (coC none 0 0 none none none bq) 87)) := (below_one w2 _).trans ((below_one _ _).mono (by simp))
  have K5 := Lib.hid (show CoB0 ((w2.alloc (.map #[] 0)).alloc (.cells (coC none 0 0 none none none bq) 87)) q x bq B none 0 0 none none none from ⟨(hb5.block _ (by omega)).trans K2.out, by
    have h := heap_alloc_new (w2.alloc (.map #[] 0)) (.cells (coC none 0 0 none none none bq) 87)
    rw [show (w2.alloc (.map #[] 0)).heap.size = x from by simp [hbq, hx]] at h
    exact h⟩)
  have Q5 := Lib.hid (show MapV ((w2.alloc (.map #[] 0)).alloc (.cells (coC none 0 0 none none none bq) 87)) bq 0 (fun _ => none) from by
    have h := mapV_made w2
    rw [hbq] at h
    exact h.below (below_one _ _))
  have B5 := Lib.hid (B2.out.trans (hb5.mono B2.out.size))
  have HS5 := Lib.hid (show bq + 2 ≤ ((w2.alloc (.map #[] 0)).alloc (.cells (coC none 0 0 none none none bq) 87)).heap.size from by simp [hbq])
  have HW2 := Lib.hid (show w.heap.size ≤ bq from by rw [← hbq]; exact B2.out.size)
  rw [hbq]
  show Code.wp _ _ _ _ ((w2.alloc (.map #[] 0)).alloc (.cells (coC none 0 0 none none none bq) 87))
  rw [hx]
  generalize (w2.alloc (.map #[] 0)).alloc (.cells (coC none 0 0 none none none bq) 87) = w5 at *
  have HX := Lib.hid (show x = bq + 1 from hx.symm)
  have hqx : q ≠ x := by omega
  clear hb5 hbq hx K2 B2 BX KX CM f0 f1 f2 f3 f4 f5 f6 f7 f8 f9 f10 f11
  have f1 : w5.cell? ⟨q, 1, none⟩ = some (.slice none 0 0) := co_cell K5.out.1 rfl
  have g1 : w5.cell? ⟨x, 1, none⟩ = some (.slice none 0 0) := co_cell K5.out.2 rfl
  have z1 := co_fz K5.out.2 1
  go_wp2_with fail
  refine (clone24 _).mono ?_
  rintro e w6 ⟨rfl, rfl⟩
  go_upto_region 6 with fail
  have hb6 : Below w.heap.size w5 (w5.setCell ⟨x, 1, none⟩ (.slice none 0 0)) := (Turn.setCell (F := fun k => k = x) rfl).below (fun k e => by have := HX.out; have := HW2.out; omega) B5.out.size
  have K6 := Lib.hid (K5.out.set (ca' := none) (cn' := 0) (cc' := 0) (bl' := none) (bs' := none) (bt' := none) hqx 1 (.slice none 0 0) rfl)
  have Q6 := Lib.hid (Q5.out.setCell (p := x) (o := 1) (v := .slice none 0 0) (by have := HX.out; omega))
  have B6 := Lib.hid (B5.out.trans hb6)
  clear hb6 f1 g1 z1 K5 Q5 B5 HS5
  generalize w5.setCell ⟨x, 1, none⟩ (.slice none 0 0) = w6 at *
  have f0 : w6.cell? ⟨q, 0, none⟩ = some (.slice (some ⟨B + 1, 0, none⟩) 3 3) := co_cell K6.out.1 rfl
  have f1 : w6.cell? ⟨q, 1, none⟩ = some (.slice none 0 0) := co_cell K6.out.1 rfl
  have f2 : w6.cell? ⟨q, 2, none⟩ = some (.int .i64 1) := co_cell K6.out.1 rfl
  have f3 : w6.cell? ⟨q, 3, none⟩ = some (.int .i64 1) := co_cell K6.out.1 rfl
  have f4 : w6.cell? ⟨q, 4, none⟩ = some (.int .i64 1) := co_cell K6.out.1 rfl
  have f5 : w6.cell? ⟨q, 5, none⟩ = some (.int .i64 2) := co_cell K6.out.1 rfl
  have f6 : w6.cell? ⟨q, 6, none⟩ = some (.int .i64 5) := co_cell K6.out.1 rfl
  have f7 : w6.cell? ⟨q, 7, none⟩ = some (.int .i64 9) := co_cell K6.out.1 rfl
  have f8 : w6.cell? ⟨q, 8, none⟩ = some (.int .i64 2) := co_cell K6.out.1 rfl
  have f9 : w6.cell? ⟨q, 9, none⟩ = some (.int .i64 4) := co_cell K6.out.1 rfl
  have f10 : w6.cell? ⟨q, 10, none⟩ = some (.int .i64 0) := co_cell K6.out.1 rfl
  have f11 : w6.cell? ⟨q, 11, none⟩ = some (.int .i64 8) := co_cell K6.out.1 rfl
  go_wp2_with fail
  refine (CS.out _ B6.out).mono ?_
  rintro e w7 ⟨rfl, hb7⟩
  have K7 := Lib.hid (K6.out.below hb7)
  have Q7 := Lib.hid (Q6.out.below hb7)
  have B7 := Lib.hid (B6.out.trans (hb7.mono B6.out.size))
  clear hb7 K6 Q6 B6 CS f0 f1 f2 f3 f4 f5 f6 f7 f8 f9 f10 f11
  go_wp2_with fail
  go_loopw [27] (fun iv wr => (iv = .int .i64 0 ∧ wr = w7) ∨ (iv = .int .i64 1 ∧ ∃ ca cc cw c2, Hid (Mid24 w wr q x bq B ca cc cw c2))) (fun iv _ => 1 - (intOf iv).toNat)
  case atStart => exact Or.inl ⟨rfl, rfl⟩
  case round =>
    rcases hrel with ⟨rfl, rfl⟩ | ⟨rfl, ca, cc, cw, c2, hM⟩
    · obtain ⟨i0, hi, hz0, hz1, hz2⟩ := info_parts list_info24
      have f0 : wr.cell? ⟨q, 0, none⟩ = some (.slice (some ⟨B + 1, 0, none⟩) 3 3) := co_cell K7.out.1 rfl
      have f1 : wr.cell? ⟨q, 1, none⟩ = some (.slice none 0 0) := co_cell K7.out.1 rfl
      have f2 : wr.cell? ⟨q, 2, none⟩ = some (.int .i64 1) := co_cell K7.out.1 rfl
      have f3 : wr.cell? ⟨q, 3, none⟩ = some (.int .i64 1) := co_cell K7.out.1 rfl
      have f4 : wr.cell? ⟨q, 4, none⟩ = some (.int .i64 1) := co_cell K7.out.1 rfl
      have f5 : wr.cell? ⟨q, 5, none⟩ = some (.int .i64 2) := co_cell K7.out.1 rfl
      have f6 : wr.cell? ⟨q, 6, none⟩ = some (.int .i64 5) := co_cell K7.out.1 rfl
      have f7 : wr.cell? ⟨q, 7, none⟩ = some (.int .i64 9) := co_cell K7.out.1 rfl
      have f8 : wr.cell? ⟨q, 8, none⟩ = some (.int .i64 2) := co_cell K7.out.1 rfl
      have f9 : wr.cell? ⟨q, 9, none⟩ = some (.int .i64 4) := co_cell K7.out.1 rfl
      have f10 : wr.cell? ⟨q, 10, none⟩ = some (.int .i64 0) := co_cell K7.out.1 rfl
      have f11 : wr.cell? ⟨q, 11, none⟩ = some (.int .i64 8) := co_cell K7.out.1 rfl
      have g12 : wr.cell? ⟨x, 12, none⟩ = some (.slice none 0 0) := co_cell K7.out.2 rfl
      have z12 := co_fz K7.out.2 12
      have CC7 := Lib.hid (show Calls Tryz.prog 27 #[.agg #[.slice (some ⟨B + 1, 0, none⟩) 3 3, .slice none 0 0, .int .i64 1, .int .i64 1, .int .i64 1, .int .i64 2, .int .i64 5, .int .i64 9, .int .i64 2, .int .i64 4, .int .i64 0, .int .i64 8], .int .i64 0] wr.drew (RetZ wr.drew [1]) from CC.out wr.drew (B7.out.trans ((Below.refl _ _).drew.mono B7.out.size)))
      have XL := Lib.hid (show x < wr.heap.size from (Array.getElem?_eq_some_iff.1 K7.out.2).1)
      have G12 := Lib.hid (show ∀ w8, Below wr.drew.heap.size wr.drew w8 → w8.cell? ⟨x, 12, none⟩ = some (.slice none 0 0) ∧ w8.frozen? ⟨x, 12, none⟩ = false from fun w8 hb => by
        have h := (K7.out.below ((Below.refl _ _).drew.trans hb))
        exact ⟨co_cell h.2 rfl, co_fz h.2 12⟩)
      go_upto_region 9 with fail
      go_region_law
        (first
          | (go_simp; go_at_call 27; (with_reducible refine CC7.out.mono ?_); rintro e w8 ⟨ra, rc, rfl, ho8, hb8⟩; obtain ⟨g8, gz8⟩ := G12.out _ hb8; obtain ⟨g8a, gz8a⟩ := G12.out _ (hb8.trans ((below_one w8 (.cells #[.slice ra 1 rc] 54)).mono hb8.size)))
          | (refine step_append_some (by rfl) _ _ _ (by rfl) _ 54 i0 _ 1 24 Tryz.underlying81 hi hz0 hz1 hz2 rfl (by omega) (.slice none 0 0) 0 [] (by rfl) (World.ownsRow_nil _ _ _ _) _ 1 1 [.slice ra 1 rc] (by rfl) (by rfl) (World.news_of_block (heap_alloc_new _ _)) (by simp [Value.oneCell']) (by unfold maxLen; omega) (by omega) (Nat.le_refl _) 1 _ rfl rfl ?_; intro a9 c9 w9 hown9 hb9 hnil9; have hb99 := (hb8.trans ((below_one w8 (.cells #[.slice ra 1 rc] 54)).mono hb8.size)).trans (hb9.mono (Nat.le_trans hb8.size (by simp))); obtain ⟨g9, gz9⟩ := G12.out _ hb99))
      all_goals
        have hbW : Below wr.heap.size wr w9 := (Below.refl _ _).drew.trans hb99
        have hdr : wr.drew.heap.size = wr.heap.size := rfl
        have hz8 : (w8.alloc (.cells #[.slice ra 1 rc] 54)).heap.size = w8.heap.size + 1 := by simp
        have hs8 := hb8.size
        rw [hz8] at hown9
        have K9 := K7.out.below hbW
        have Q9 := Q7.out.below hbW
        have hcw : w9.heap[x]? = some (.cells (coC none 0 0 none none none bq) 87 (0, 0)) := K9.2
        obtain ⟨cw, rfl, hcw1, hcw2⟩ := own_cell24 ho8
        obtain ⟨ca, rfl, hca1, hca2⟩ := own_cell24 hown9
        have hcw3 : w9.cell? ⟨cw, 0, none⟩ = some (.int .i64 1) := (((below_one w8 (.cells #[.slice (some ⟨cw, 0, none⟩) 1 rc] 54)).trans (hb9.mono (by simp))).cell (p := ⟨cw, 0, none⟩) (lt_of_cell hcw2)).trans hcw2
        have hxl := XL.out
        have M9 := Lib.hid (show Mid24 w (w9.setCell ⟨x, 12, none⟩ (.slice (some ⟨ca, 0, none⟩) 1 c9)) q x bq B ca c9 cw rc from
          ⟨K9.set hqx 12 _ rfl, (set_ne24 (by omega)).trans hca2, (set_ne24 (by omega)).trans hcw3, Q9.setCell (by have := HX.out; omega), (B7.out.trans (hbW.mono B7.out.size)).trans ((Turn.setCell (F := fun k => k = x) rfl).below (fun k e => by have := HX.out; have := HW2.out; omega) (Nat.le_trans B7.out.size hbW.size)), by omega, by omega⟩)
        clear hbW K9 Q9 hcw hcw1 hcw2 hca1 hca2 hcw3 hxl
        go_wp2_with fail
        go_roundw
        case rel => exact Or.inr ⟨rfl, ca, c9, cw, rc, M9⟩
        case measure => simp [intOf]
    · go_upto_region 12 with fail
      obtain ⟨k1, r1, r2, m1, b1, o1, o2⟩ := hM.out
      obtain ⟨p, hp⟩ : ∃ p, wr.heap.size = p := ⟨_, rfl⟩
      have hbA := below_one wr (.cells #[.int .i64 0, .int .i64 0, .int .i64 0] 112)
      have LA := Lib.hid (show Late24 w (wr.alloc (.cells #[.int .i64 0, .int .i64 0, .int .i64 0] 112)) q x bq B p ca cc cw c2 none none none from
        ⟨k1.below hbA, by rw [← hp]; exact heap_alloc_new wr _, (hbA.cell (p := ⟨ca, 0, none⟩) (lt_of_cell r1)).trans r1, (hbA.cell (p := ⟨cw, 0, none⟩) (lt_of_cell r2)).trans r2, m1.below hbA, b1.trans (hbA.mono b1.size), by have := lt_of_cell r1; have := lt_of_cell r2; have := HX.out; have := HW2.out; simp; omega⟩)
      rw [hp]
      generalize wr.alloc (.cells #[.int .i64 0, .int .i64 0, .int .i64 0] 112) = wa at *
      clear k1 r1 r2 m1 b1 o1 o2 hM hbA hp K7 Q7 B7 CC
      have f2 : wa.cell? ⟨q, 2, none⟩ = some (.int .i64 1) := co_cell LA.out.k.1 rfl
      have f6 : wa.cell? ⟨q, 6, none⟩ = some (.int .i64 5) := co_cell LA.out.k.1 rfl
      go_wp2_with fail
      refine (new_good 1 5 wa (by decide)).mono ?_
      rintro e wb ⟨rfl, hwb⟩
      have hbb : Below wa.heap.size wa wb := by rw [hwb]; exact below_one wa _
      have TB := Lib.hid (show Tab wb wa.heap.size (newS 1 5) from by rw [hwb]; exact new_is_tab wa 1 5 _)
      obtain ⟨bl, hbl⟩ : ∃ b, wa.heap.size = b := ⟨_, rfl⟩
      rw [hbl] at TB
      have LB := Lib.hid (LA.out.below hbb)
      have OL := Lib.hid (show p < bl from by have := LA.out.o; omega)
      clear hbb hwb LA f2 f6
      have g14 : wb.cell? ⟨x, 14, none⟩ = some (.pointer none) := co_cell LB.out.k.2 rfl
      have z14 := co_fz LB.out.k.2 14
      have a0 : wb.cell? ⟨p, 0, none⟩ = some (.int .i64 0) := co_cell LB.out.a rfl
      have y0 := co_fz LB.out.a 0
      rw [hbl]
      go_upto_region 13 with fail
      have LC := Lib.hid (LB.out.setx (bl' := some bl) (bs' := none) (bt' := none) 14 (.pointer (some ⟨bl, 0, none⟩)) rfl 0 rfl)
      have tC := late_turn wb x p 14 0 (.pointer (some ⟨bl, 0, none⟩)) (.int .i64 0)
      have TC := Lib.hid (TB.out.block (tC.block bl TB.out.lt (fun e => by have := LB.out.o; have := OL.out; omega)))
      clear tC TB LB g14 z14 a0 y0 hbl
      generalize (wb.setCell ⟨x, 14, none⟩ (.pointer (some ⟨bl, 0, none⟩))).setCell ⟨p, 0, none⟩ (.int .i64 0) = wc at *
      have f4 : wc.cell? ⟨q, 4, none⟩ = some (.int .i64 1) := co_cell LC.out.k.1 rfl
      have CSl := Lib.hid (show Calls Tryz.prog 53 #[.int .i64 1] wc fun e w' => ∃ b bo ba, e = .returned (.tuple #[.pointer (some ⟨b, 0, none⟩), .int .i64 0]) ∧ SlAt w' b bo ba (newSl 1) ∧ (∀ k, slF b bo ba k → wc.heap.size ≤ k) ∧ Below wc.heap.size wc w' from slNew_good 1 wc ⟨by omega, by omega⟩)
      go_wp2_with fail
      refine CSl.out.mono ?_
      rintro e wd ⟨bs, bo, ba, rfl, hS, hSge, hbd⟩
      have LD := Lib.hid (LC.out.below hbd)
      have TD := Lib.hid (TC.out.below hbd)
      have SD := Lib.hid hS
      have OS := Lib.hid (show ∀ k, slF bs bo ba k → bl < k from fun k hk => by have := hSge k hk; have := TC.out.lt; omega)
      clear hS hSge hbd LC TC f4 CSl
      have g15 : wd.cell? ⟨x, 15, none⟩ = some (.pointer none) := co_cell LD.out.k.2 rfl
      have z15 := co_fz LD.out.k.2 15
      have a1 : wd.cell? ⟨p, 1, none⟩ = some (.int .i64 0) := co_cell LD.out.a rfl
      have y1 := co_fz LD.out.a 1
      go_upto_region 14 with fail
      have LE := Lib.hid (LD.out.setx (bl' := some bl) (bs' := some bs) (bt' := none) 15 (.pointer (some ⟨bs, 0, none⟩)) rfl 1 rfl)
      have tE := late_turn wd x p 15 1 (.pointer (some ⟨bs, 0, none⟩)) (.int .i64 0)
      have TE := Lib.hid (TD.out.block (tE.block bl TD.out.lt (fun e => by have := LD.out.o; have := OL.out; omega)))
      have SE := Lib.hid (SD.out.turn tE (fun k hk e => by have := OS.out k hk; have := LD.out.o; have := OL.out; omega))
      clear tE TD LD SD g15 z15 a1 y1
      generalize (wd.setCell ⟨x, 15, none⟩ (.pointer (some ⟨bs, 0, none⟩))).setCell ⟨p, 1, none⟩ (.int .i64 0) = we at *
      go_wp2_with fail
      refine (tNew_any 24 we (by decide)).mono ?_
      rintro e wf ⟨bt, St, rfl, hT, hTge, hbf⟩
      have LF := Lib.hid (LE.out.below hbf)
      have TF := Lib.hid (TE.out.below hbf)
      have SF := Lib.hid (SE.out.turn (F := fun _ => False) (Turn.of_below hbf) (fun k hk e => e))
      have OT := Lib.hid (show ∀ k, St k → bl < k ∧ bs < k ∧ bo < k ∧ ba < k ∧ p < k from fun k hk => by
        have := hTge k hk; have := TE.out.lt; have := SE.out.lt; have := LE.out.o; omega)
      have UF := Lib.hid hT
      clear hT hTge hbf LE TE SE
      have g16 : wf.cell? ⟨x, 16, none⟩ = some (.pointer none) := co_cell LF.out.k.2 rfl
      have z16 := co_fz LF.out.k.2 16
      have a2 : wf.cell? ⟨p, 2, none⟩ = some (.int .i64 0) := co_cell LF.out.a rfl
      have y2 := co_fz LF.out.a 2
      go_upto_region 15 with fail
      have LG := Lib.hid (LF.out.setx (bl' := some bl) (bs' := some bs) (bt' := some bt) 16 (.pointer (some ⟨bt, 0, none⟩)) rfl 2 rfl)
      have tG := late_turn wf x p 16 2 (.pointer (some ⟨bt, 0, none⟩)) (.int .i64 0)
      have TG := Lib.hid (TF.out.block (tG.block bl TF.out.lt (fun e => by have := LF.out.o; have := OL.out; omega)))
      have SG := Lib.hid (SF.out.turn tG (fun k hk e => by have := OS.out k hk; have := LF.out.o; have := OL.out; omega))
      have UG := Lib.hid ((tq_ok _ _ _).turn UF.out tG (fun k hk e => by have := OT.out k hk; have := LF.out.o; omega))
      clear tG TF LF SF UF g16 z16 a2 y2
      generalize (wf.setCell ⟨x, 16, none⟩ (.pointer (some ⟨bt, 0, none⟩))).setCell ⟨p, 2, none⟩ (.int .i64 0) = wg at *
      have a0 : wg.cell? ⟨p, 0, none⟩ = some (.int .i64 0) := co_cell LG.out.a rfl
      have a1 : wg.cell? ⟨p, 1, none⟩ = some (.int .i64 0) := co_cell LG.out.a rfl
      have a2 : wg.cell? ⟨p, 2, none⟩ = some (.int .i64 0) := co_cell LG.out.a rfl
      have CF := Lib.hid (show NewP24 w (.returned (.tuple #[.pointer (some ⟨x, 0, none⟩), .int .i64 0])) wg from by
        obtain ⟨o1, o2, o3, o4, o5, o6, o7, o8⟩ := LG.out.o
        have ol := OL.out
        have os1 := OS.out bs (Or.inl rfl); have os2 := OS.out bo (Or.inr (Or.inl rfl)); have os3 := OS.out ba (Or.inr (Or.inr rfl))
        have lt1 := TG.out.lt; have lt2 := SG.out.lt; have lt3 := (tq_ok _ _ _).lt UG.out
        refine ⟨col24 x ca cw bl bs bo ba bq St, x, ca, _, cw, _, bl, bs, bo, ba, bt, bq, rfl, ⟨LG.out.k.2, LG.out.r1, LG.out.r2, TG.out, SG.out, ⟨St, UG.out, fun k hk => ?_⟩, LG.out.m, ?_, ?_, ?_, ?_, fun k hk => ?_, fun k hk => ?_, LG.out.b.size⟩, LG.out.b⟩
        · have ot := OT.out k hk
          unfold col24
          rw [if_neg (by omega), if_neg (by omega), if_neg (by omega), if_pos hk]
        · unfold col24
          exact ⟨if_pos (Or.inl rfl), if_pos (Or.inr (Or.inl rfl)), if_pos (Or.inr (Or.inr rfl))⟩
        · unfold col24
          rw [if_neg (by omega), if_pos rfl]
        · unfold col24
          refine ⟨?_, ?_, ?_⟩
          · rw [if_neg (by omega), if_neg (by omega), if_pos (Or.inl rfl)]
          · rw [if_neg (by omega), if_neg (by omega), if_pos (Or.inr (Or.inl rfl))]
          · rw [if_neg (by omega), if_neg (by omega), if_pos (Or.inr (Or.inr rfl))]
        · unfold col24
          rw [if_neg (by omega), if_neg (by omega), if_neg (by omega), if_neg (fun h => by have := OT.out _ h; omega), if_pos rfl]
        · unfold col24 at hk
          split at hk
          · omega
          · split at hk
            · omega
            · split at hk
              · omega
              · split at hk
                · rename_i h; have := OT.out k h; omega
                · split at hk <;> omega
        · unfold col24
          rw [if_neg (by omega), if_neg (by omega), if_neg (by omega), if_neg (fun h => by have := lt3 k h; omega), if_neg (by omega)])
      clear LG TG SG UG OT OS OL
      have heq := fun w => eq24 w
      go_wp2_with fail
      go_ret2
      exact CF.out
end Go.Proofs.YtblipdmagfiigaaGreat
namespace Go.Proofs.YtblipdmagfiigaaGreat
open Go.RowKit
set_option linter.unusedVariables false
set_option maxRecDepth 20000
theorem key_info24 : (Tryz.prog.info? 105).map (fun i => (i.zero, i.size, i.bytes)) = some (some (.agg #[.int .i64 0, .string ⟨#[]⟩]), 2, 24) := by kernel_rfl
def RetKey (w : World) (ys : List KV) (e : Ending) (w' : World) : Prop := ∃ a c, e = .returned (.slice a ys.length c) ∧ w'.ownsRow w.heap.size 105 2 (.slice a ys.length c) ys.length (keysV ys) ∧ Below w.heap.size w w'
theorem retKey_own {w w' : World} {a : Option Addr} {c n : Nat} {ys zs : List KV} (h : ys = zs) (hn : ys.length = n) (hh : w'.ownsRow w.heap.size 105 2 (.slice a n c) n (keysV ys)) (hb : Below w.heap.size w w') (v : Value) (hv : v = .slice a n c) : RetKey w zs (.returned v) w' := by
  subst h hv hn
  exact ⟨a, c, rfl, hh, hb⟩
theorem cloneKey_any (a : Option Addr) (n cap : Nat) (l : List KV) (w : World) (hh : HoldsK w a n l) (hnil : a = none → n = 0 ∧ cap = 0) (hn : n ≤ 50000) :
    Calls Tryz.prog 51 #[.slice a n cap] w (RetKey w l) := by
  obtain ⟨i0, hi, hz0, hz1, hz2⟩ := info_parts key_info24
  have hll := hh.len
  cases a with
  | none =>
    obtain ⟨rfl, rfl⟩ := hnil rfl
    obtain rfl : l = [] := List.eq_nil_of_length_eq_zero hll
    have he := fun w => Lib.run_eql_slice_nil (P := Tryz.prog) w 51 105 none 0 0 0 0 Tryz.underlying51
    go_enter Tryz.func51, Tryz.ntmps51
    go_wp2_with fail
    go_ret
    exact retKey_own rfl rfl (World.ownsRow_nil _ _ _ _) (Below.refl _ _) _ rfl
  | some ad =>
    have hnews : ∀ ad', (some ad : Option Addr) = some ad' → ∀ j u, (keysV l)[j]? = some u → (w.alloc (.cells #[] 105)).cell? (ad'.add j) = some u :=
      HoldsK.cellsAny hh (World.grownBy_alloc w _ none)
    have HN := Lib.hid hnews
    have hown : (w.alloc (.cells #[] 105)).ownsRow w.heap.size 105 2 (.slice (some ⟨w.heap.size, 0, none⟩) 0 0) 0 [] := World.ownsRow_lit w #[] 0 (Nat.le_refl _) (by unfold maxLen; omega) rfl
    have HO := Lib.hid hown
    clear hnews hown hh
    have he := fun w => Lib.run_eql_slice_nil (P := Tryz.prog) w 51 105 (some ad) n cap 0 0 Tryz.underlying51
    go_enter Tryz.func51, Tryz.ntmps51
    go_wp2_with (at_builtin; refine wpList_append_any rfl (.tmp 5) (.tmp 6) 51 rfl w.heap.size 105 i0 _ 2 24 Tryz.underlying51 hi hz0 hz1 hz2 rfl (by decide) _ 0 [] rfl HO.out _ n cap (keysV l) rfl (some_none _) (by rw [keysV_len, hll]) HN.out (keysV_one _) (by unfold maxLen; omega) (by omega) (by simp) ?_; intro a3 c3 w3 hown3 hb3 hnil3)
    rw [Nat.zero_add, List.nil_append] at hown3
    go_ret
    exact retKey_own rfl hll hown3 ((below_one w (.cells #[] 105)).trans (hb3)) _ (by simp)
end Go.Proofs.YtblipdmagfiigaaGreat
namespace Go.Proofs.YtblipdmagfiigaaGreat
open Go.RowKit
set_option linter.unusedVariables false
set_option maxRecDepth 20000
/-- where it lies -/
structure CoI where
  x : Nat
  ca : Nat
  cc : Nat
  cw : Nat → Nat
  c2 : Nat → Nat
  ka : Option Addr
  kc : Nat
  bl : Nat
  bs : Nat
  bo : Nat
  ba : Nat
  bt : Nat
  bq : Nat
/-- the coordinator's cells -/
def coGC (c : Cfg) (ka : Option Addr) (kn kc : Nat) (ca : Option Addr) (cn cc : Nat) (now : Int) (bl bs bt : Option Nat) (bq : Nat) : Array Value := #[.slice none 0 0, .slice ka kn kc, .int .i64 c.W, .int .i64 c.C, .int .i64 c.S, .int .i64 c.B, .int .i64 c.L, .int .i64 c.H, .int .i64 c.F, .int .i64 c.P, .int .i64 c.J, .int .i64 c.N, .slice ca cn cc, .int .i64 now, .pointer (bl.map fun b => ⟨b, 0, none⟩), .pointer (bs.map fun b => ⟨b, 0, none⟩), .pointer (bt.map fun b => ⟨b, 0, none⟩), .map (some bq)]
/-- the copies of each shard: a row of C workers each -/
def CopAt (w : World) (ca : Nat) (cw c2 : Nat → Nat) (W C n : Nat) : Prop := ∀ s, s < n → w.cell? ⟨ca, s, none⟩ = some (.slice (some ⟨cw s, 0, none⟩) C (c2 s)) ∧ ∀ j, j < C → w.cell? ⟨cw s, j, none⟩ = some (.int .i64 ((Pl.cop W C s).getD j 0))
theorem CopAt.of {w w' : World} {ca : Nat} {cw c2 : Nat → Nat} {W C n : Nat} (h : CopAt w ca cw c2 W C n) (e1 : ∀ s, s < n → w'.cell? ⟨ca, s, none⟩ = w.cell? ⟨ca, s, none⟩) (e2 : ∀ s, s < n → ∀ j, j < C → w'.cell? ⟨cw s, j, none⟩ = w.cell? ⟨cw s, j, none⟩) : CopAt w' ca cw c2 W C n := fun s hs => ⟨(e1 s hs).trans (h s hs).1, fun j hj => (e2 s hs j hj).trans ((h s hs).2 j hj)⟩
theorem CopAt.below {w w' : World} {ca : Nat} {cw c2 : Nat → Nat} {W C n : Nat} (h : CopAt w ca cw c2 W C n) (hb : Below w.heap.size w w') : CopAt w' ca cw c2 W C n := h.of (fun s hs => hb.cell (p := ⟨ca, s, none⟩) (lt_of_cell (h s hs).1)) (fun s hs j hj => hb.cell (p := ⟨cw s, j, none⟩) (lt_of_cell ((h s hs).2 j hj)))
theorem CopAt.turn {w w' : World} {F : Nat → Prop} {ca : Nat} {cw c2 : Nat → Nat} {W C n : Nat} (h : CopAt w ca cw c2 W C n) (t : Turn F w w') (h1 : ¬ F ca) (h2 : ∀ s, s < n → ¬ F (cw s)) : CopAt w' ca cw c2 W C n := h.of (fun s hs => t.cell (lt_of_cell (h s hs).1) h1) (fun s hs j hj => t.cell (lt_of_cell ((h s hs).2 j hj)) (h2 s hs))
/-- what has colour k belongs to part k: 0 its own blocks, 1 leases, 2 slots, 3 timers, 4 the queries' map -/
structure CoG (B0 : Nat) (w : World) (col : Nat → Nat) (i : CoI) (c : Cfg) (W C : Nat) (now : Int) (n : Nat) (ls : Lt) (ss : Sl) (M : List TM) (f : Int → Option Value) : Prop where
  box : w.heap[i.x]? = some (.cells (coGC c i.ka c.kn i.kc (some ⟨i.ca, 0, none⟩) (c.kn + 1) i.cc now (some i.bl) (some i.bs) (some i.bt) i.bq) 87 (0, 0))
  cop : CopAt w i.ca i.cw i.c2 W C (c.kn + 1)
  K : HoldsK w i.ka c.kn c.ks
  may : c.may = true
  hW : c.W = (W : Int)
  hC : c.C = (C : Int)
  hk : c.kn ≤ 5
  nw0 : 0 ≤ now ∧ now ≤ 1000000
  L : Tab w i.bl ls
  S : SlAt w i.bs i.bo i.ba ss
  T : ∃ St, TQ i.bt 24 M w St ∧ ∀ k, St k → col k = 3
  Q : MapV w i.bq n f
  cx : col i.x = 0 ∧ col i.ca = 0 ∧ (∀ s, s < c.kn + 1 → col (i.cw s) = 0) ∧ (0 < c.kn → ∀ b o, i.ka = some ⟨b, o, none⟩ → col b = 0)
  cl : col i.bl = 1
  cs : col i.bs = 2 ∧ col i.bo = 2 ∧ col i.ba = 2
  cq : col i.bq = 4
  xa : i.x ≠ i.ca ∧ (∀ s, s < c.kn + 1 → i.x ≠ i.cw s) ∧ (0 < c.kn → ∀ b o, i.ka = some ⟨b, o, none⟩ → i.x ≠ b)
  lo : ∀ k, col k ≠ 9 → B0 ≤ k
  nw : ∀ k, w.heap.size ≤ k → col k = 9
  hB : B0 ≤ w.heap.size
theorem holdsK_turnF {w w' : World} {a : Option Addr} {n : Nat} {ks : List KV} {F : Nat → Prop} (h : HoldsK w a n ks) (t : Turn F w w') (hs : 0 < n → ∀ b o, a = some ⟨b, o, none⟩ → ¬ F b) : HoldsK w' a n ks := by
  refine ⟨h.1, fun h0 => ?_⟩
  obtain ⟨b, o, ha, hc⟩ := h.2 h0
  have hf := hs h0 b o ha
  exact ⟨b, o, ha, fun i hi => ⟨(t.cell (lt_of_cell (hc i hi).1) hf).trans (hc i hi).1, (t.cell (lt_of_cell (hc i hi).2) hf).trans (hc i hi).2⟩⟩
section
variable {B0 : Nat} {w w' : World} {col : Nat → Nat} {i : CoI} {c : Cfg} {W C : Nat} {now : Int} {n n' : Nat} {ls ls' : Lt} {ss ss' : Sl} {M M' : List TM} {f f' : Int → Option Value} {F : Nat → Prop}
theorem CoG.hs (h : CoG B0 w col i c W C now n ls ss M f) : ∀ k, slF i.bs i.bo i.ba k → col k = 2 := by
  intro k hk
  rcases hk with e | e | e
  · rw [e]; exact h.cs.1
  · rw [e]; exact h.cs.2.1
  · rw [e]; exact h.cs.2.2
theorem CoG.carL (h : CoG B0 w col i c W C now n ls ss M f) (t : Turn F w w') (hF : ∀ k, F k → col k ≠ 1) : Tab w' i.bl ls := h.L.block (t.block i.bl h.L.lt fun e => hF _ e h.cl)
theorem CoG.carS (h : CoG B0 w col i c W C now n ls ss M f) (t : Turn F w w') (hF : ∀ k, F k → col k ≠ 2) : SlAt w' i.bs i.bo i.ba ss := h.S.turn t fun k hk e => hF k e (h.hs k hk)
theorem CoG.carT (h : CoG B0 w col i c W C now n ls ss M f) (t : Turn F w w') (hF : ∀ k, F k → col k ≠ 3) : ∃ St, TQ i.bt 24 M w' St ∧ ∀ k, St k → col k = 3 := by
  obtain ⟨St, q, hc⟩ := h.T
  exact ⟨St, (tq_ok _ _ _).turn q t fun k hk e => hF k e (hc k hk), hc⟩
theorem CoG.carQ (h : CoG B0 w col i c W C now n ls ss M f) (t : Turn F w w') (hF : ∀ k, F k → col k ≠ 4) : MapV w' i.bq n f := h.Q.turn t fun e => hF _ e h.cq
theorem CoG.over (h : CoG B0 w col i c W C now n ls ss M f) (t : Turn F w w') (hF : ∀ k, F k → col k ≠ 0) (L' : Tab w' i.bl ls') (S' : SlAt w' i.bs i.bo i.ba ss') (T' : ∃ St, TQ i.bt 24 M' w' St ∧ ∀ k, St k → col k = 3) (Q' : MapV w' i.bq n' f') : CoG B0 w' col i c W C now n' ls' ss' M' f' :=
  { h with
    box := (t.block i.x (Array.getElem?_eq_some_iff.1 h.box).1 fun e => hF _ e h.cx.1).trans h.box
    cop := h.cop.turn t (fun e => hF _ e h.cx.2.1) (fun s hs e => hF _ e (h.cx.2.2.1 s hs))
    K := holdsK_turnF h.K t (fun h0 b o ha e => hF _ e (h.cx.2.2.2 h0 b o ha))
    L := L'
    S := S'
    T := T'
    Q := Q'
    nw := fun k hk => h.nw k (Nat.le_trans t.size hk)
    hB := Nat.le_trans h.hB t.size }
theorem CoG.own (h : CoG B0 w col i c W C now n ls ss M f) (t : Turn F w w') (hF : ∀ k, F k → 5 ≤ col k) : CoG B0 w' col i c W C now n ls ss M f :=
  h.over t (fun k e => by have := hF k e; omega) (h.carL t fun k e => by have := hF k e; omega) (h.carS t fun k e => by have := hF k e; omega) (h.carT t fun k e => by have := hF k e; omega) (h.carQ t fun k e => by have := hF k e; omega)
theorem CoG.below (h : CoG B0 w col i c W C now n ls ss M f) (hb : Below w.heap.size w w') : CoG B0 w' col i c W C now n ls ss M f := h.own (F := fun _ => False) (Turn.of_below hb) fun k e => e.elim
theorem CoG.lease (h : CoG B0 w col i c W C now n ls ss M f) (L' : ThenL i.bl w ls' w') : CoG B0 w' col i c W C now n ls' ss M f := by
  have t := L'.2.turn
  have hF : ∀ k, k = i.bl → col k = 1 := fun k e => by rw [e]; exact h.cl
  exact h.over t (fun k e => by rw [hF k e]; decide) L'.1 (h.carS t fun k e => by rw [hF k e]; decide) (h.carT t fun k e => by rw [hF k e]; decide) (h.carQ t fun k e => by rw [hF k e]; decide)
theorem CoG.slots (h : CoG B0 w col i c W C now n ls ss M f) (S' : SlAt w' i.bs i.bo i.ba ss') (t : Turn (slF i.bs i.bo i.ba) w w') : CoG B0 w' col i c W C now n ls ss' M f := by
  have hF : ∀ k, slF i.bs i.bo i.ba k → col k = 2 := h.hs
  exact h.over t (fun k e => by rw [hF k e]; decide) (h.carL t fun k e => by rw [hF k e]; decide) S' (h.carT t fun k e => by rw [hF k e]; decide) (h.carQ t fun k e => by rw [hF k e]; decide)
theorem CoG.queries (h : CoG B0 w col i c W C now n ls ss M f) (Q' : MapV w' i.bq n' f') (t : Turn (fun k => k = i.bq) w w') : CoG B0 w' col i c W C now n' ls ss M f' := by
  have hF : ∀ k, k = i.bq → col k = 4 := fun k e => by rw [e]; exact h.cq
  exact h.over t (fun k e => by rw [hF k e]; decide) (h.carL t fun k e => by rw [hF k e]; decide) (h.carS t fun k e => by rw [hF k e]; decide) (h.carT t fun k e => by rw [hF k e]; decide) Q'
/-- the time moves on -/
theorem CoG.tick (h : CoG B0 w col i c W C now n ls ss M f) (m : Int) (hm : 0 ≤ m ∧ m ≤ 1000000) : CoG B0 (w.setCell ⟨i.x, 13, none⟩ (.int .i64 m)) col i c W C m n ls ss M f := by
  have t : Turn (fun k => k = i.x) w (w.setCell ⟨i.x, 13, none⟩ (.int .i64 m)) := Turn.setCell rfl
  have hF : ∀ k, k = i.x → col k = 0 := fun k e => by rw [e]; exact h.cx.1
  exact { h with
    box := by rw [Go.heap_setCell_same w i.x 13 _ _ (.int .i64 m) h.box]; rfl
    cop := h.cop.turn t (fun e => h.xa.1 e.symm) (fun s hs e => h.xa.2.1 s hs e.symm)
    K := holdsK_turnF h.K t (fun h0 b o ha e => h.xa.2.2 h0 b o ha e.symm)
    nw0 := hm
    L := h.carL t fun k e => by rw [hF k e]; decide
    S := h.carS t fun k e => by rw [hF k e]; decide
    T := h.carT t fun k e => by rw [hF k e]; decide
    Q := h.carQ t fun k e => by rw [hF k e]; decide
    nw := fun k hk => h.nw k (Nat.le_trans t.size hk)
    hB := Nat.le_trans h.hB t.size }
end
end Go.Proofs.YtblipdmagfiigaaGreat
namespace Go.Proofs.YtblipdmagfiigaaGreat
open Go.RowKit
set_option linter.unusedVariables false
set_option maxRecDepth 20000
/-- the library's append onto what the call owns, at a step of a region that draws (Ru2's, for this layer) -/
theorem step_append_own24 {P : Program} {w : World} {ops : Array Oper} {o : Oper} {a : Act} {K : Act → World → Prop} {Q : Exit → Act → World → Prop} {E : Prop} (hgd : o.guard = none) (s x : Operand) (t : TypeId)
    (ho : o.op = .call { callee := .builtin .append, args := #[s, x], argTypes := #[t, t] })
    (base : Nat) (e : TypeId) (i : TypeInfo) (z : Value) (size bytes : Nat) (ht : P.underlying t = some (.slice e)) (hi : P.info? e = some i) (hz : i.zero = some z)
    (hsize : i.size = size) (hby : i.bytes = bytes) (hzs : z.cells.size = size) (hsz : 0 < size)
    (v : Value) (n : Nat) (xs : List Value) (hs : a.eval s = v) (hown : w.ownsRow base e size v n xs)
    (ad : Addr) (m c : Nat) (news : List Value) (hx : a.eval x = .slice (some ad) m c) (hl : news.length = m * size) (hnews : ∀ j u, news[j]? = some u → w.cell? (ad.add j) = some u) (h1 : ∀ u ∈ news, u.oneCell' = true)
    (h63 : n + m ≤ maxLen) (hbytes : (n + m) * bytes ≤ 140737488355328) (hbase : base ≤ w.heap.size)
    (h : ∀ a' c' w', w'.ownsRow base e size (.slice a' (n + m) c') (n + m) (xs ++ news) → w.grownBy w' v.ownBlock → K (a.put o.dst (.slice a' (n + m) c')) w') :
    if Region.wanted o (yielded ops a.tmps) = true then Oper.wp P o a w K Q else E := by
  have hw : Region.wanted o (yielded ops a.tmps) = true := by simp [Region.wanted, hgd]
  rw [if_pos hw]
  refine wp_append_own w s x t ho base e i z size bytes ht hi hz hsize hby hzs hsz v n xs hs hown ad m c news hx hl hnews h1 h63 hbytes hbase fun v' w' h2 h3 _ => ?_
  obtain ⟨a', c', rfl⟩ : ∃ a' c', v' = .slice a' (n + m) c' := by
    rcases h2.2 with ⟨e1, e2⟩ | ⟨g, cap, cur, hv, _⟩
    · exact ⟨none, 0, by rw [e1, e2]⟩
    · exact ⟨_, cap, hv⟩
  exact h a' c' w' h2 h3
theorem own_apart24 {w : World} {B B' : Nat} {e e' : TypeId} {s s' n n' : Nat} {v v' : Value} {xs xs' : List Value} (h : w.ownsRow B e s v n xs) (h' : w.ownsRow B' e' s' v' n' xs') (he : e ≠ e') : v.ownBlock = none ∨ v.ownBlock ≠ v'.ownBlock := by
  rcases h.2 with ⟨rfl, -⟩ | ⟨g, cap, cur, rfl, -, hg, -⟩
  · exact Or.inl rfl
  · rcases h'.2 with ⟨rfl, -⟩ | ⟨g', cap', cur', rfl, -, hg', -⟩
    · exact Or.inr (by simp [Value.ownBlock])
    · refine Or.inr fun hc => he ?_
      simp only [Value.ownBlock, Option.some.injEq] at hc
      subst hc
      rw [hg] at hg'
      injection hg' with h1
      injection h1
theorem own_setx24 {w : World} {x i : Nat} {u : Value} {e : TypeId} {s n : Nat} {a : Option Addr} {m c : Nat} {xs : List Value} (h : w.ownsRow (x + 1) e s (.slice a m c) n xs) : (w.setCell ⟨x, i, none⟩ u).ownsRow (x + 1) e s (.slice a m c) n xs := by
  have t : Turn (fun k => k = x) w (w.setCell ⟨x, i, none⟩ u) := Turn.setCell rfl
  refine h.kept (row := some x) ⟨t.os, t.tape, t.output, t.size, fun k hk hn => t.block k hk fun e => hn (by rw [e])⟩ ?_
  cases hv : (Value.slice a m c).ownBlock with
  | none => exact Or.inl rfl
  | some g => exact Or.inr fun hc => by have := (h.lt g hv).1; injection hc with hc; omega
/-- the rows of the first k shards -/
def rowsG (cw c2 : Nat → Nat) (C k : Nat) : List Value := (List.range k).map fun s => .slice (some ⟨cw s, 0, none⟩) C (c2 s)
theorem rowsG_congr {cw c2 cw' c2' : Nat → Nat} {C k : Nat} (h : ∀ s, s < k → cw s = cw' s ∧ c2 s = c2' s) : rowsG cw c2 C k = rowsG cw' c2' C k := by
  unfold rowsG
  refine List.map_congr_left fun s hs => ?_
  rw [(h s (List.mem_range.1 hs)).1, (h s (List.mem_range.1 hs)).2]
theorem rowsG_succ (cw c2 : Nat → Nat) (C k : Nat) : rowsG cw c2 C (k + 1) = rowsG cw c2 C k ++ [.slice (some ⟨cw k, 0, none⟩) C (c2 k)] := by
  unfold rowsG
  rw [List.range_succ, List.map_append]; rfl
def cfgCells (c : Cfg) : Array Value := #[.slice c.wa c.wn c.wc, .slice c.ka c.kn c.kc, .int .i64 c.W, .int .i64 c.C, .int .i64 c.S, .int .i64 c.B, .int .i64 c.L, .int .i64 c.H, .int .i64 c.F, .int .i64 c.P, .int .i64 c.J, .int .i64 c.N]
/-- the first k shards' copies are there -/
structure MidG (w wr : World) (q x bq : Nat) (c : Cfg) (ka : Option Addr) (kc W C k : Nat) (a : Option Addr) (cc : Nat) (cw c2 : Nat → Nat) : Prop where
  q0 : wr.heap[q]? = some (.cells (cfgCells c) 53 (0, 0))
  x0 : wr.heap[x]? = some (.cells (coGC c ka c.kn kc a k cc 0 none none none bq) 87 (0, 0))
  own : wr.ownsRow (x + 1) 54 1 (.slice a k cc) k (rowsG cw c2 C k)
  cp : ∀ s, s < k → wr.ownsRow (x + 1) 3 1 (.slice (some ⟨cw s, 0, none⟩) C (c2 s)) C (numsV (Pl.cop W C s))
  K : wr.ownsRow (x + 1) 105 2 (.slice ka c.kn kc) c.kn (keysV c.ks)
  m : MapV wr bq 0 (fun _ => none)
  b : Below w.heap.size w wr
  o : q < bq ∧ bq < x ∧ w.heap.size ≤ q
theorem MidG.sz {w wr : World} {q x bq : Nat} {c : Cfg} {ka : Option Addr} {kc W C k : Nat} {a : Option Addr} {cc : Nat} {cw c2 : Nat → Nat} (h : MidG w wr q x bq c ka kc W C k a cc cw c2) : x < wr.heap.size := (Array.getElem?_eq_some_iff.1 h.x0).1
theorem MidG.step {w wr w8 w9 : World} {q x bq : Nat} {c : Cfg} {ka : Option Addr} {kc W C k : Nat} {a : Option Addr} {cc : Nat} {cw c2 : Nat → Nat} {ra a9 : Option Addr} {rc c9 : Nat}
    (h : MidG w wr q x bq c ka kc W C k a cc cw c2) (hC : 0 < C) (hb : Below wr.heap.size wr w8) (ho : w8.ownsRow wr.heap.size 3 1 (.slice ra C rc) C (numsV (Pl.cop W C k)))
    (hg : (w8.alloc (.cells #[.slice ra C rc] 54)).grownBy w9 (Value.slice a k cc).ownBlock)
    (hown : w9.ownsRow (x + 1) 54 1 (.slice a9 (k + 1) c9) (k + 1) (rowsG cw c2 C k ++ [.slice ra C rc])) :
    ∃ cw' c2', MidG w (w9.setCell ⟨x, 12, none⟩ (.slice a9 (k + 1) c9)) q x bq c ka kc W C (k + 1) a9 c9 cw' c2' := by
  have hx := h.sz
  have hA : Below wr.heap.size wr (w8.alloc (.cells #[.slice ra C rc] 54)) := hb.trans ((below_one w8 _).mono hb.size)
  have sA := hA.size
  have hrow : ∀ g, (Value.slice a k cc).ownBlock = some g → x + 1 ≤ g := fun g hgv => (h.own.lt g hgv).1
  have hkeep : ∀ y, y ≤ x → w9.heap[y]? = wr.heap[y]? := fun y hy => (hg.block y (by omega) (fun e => by have := hrow y e.symm; omega)).trans (hA.block y (by omega))
  have hty : (3 : TypeId) ≠ 54 := by decide
  have htk : (105 : TypeId) ≠ 54 := by decide
  obtain ⟨cwk, rfl⟩ : ∃ g, ra = some ⟨g, 0, none⟩ := by
    rcases ho.2 with ⟨h0, h1⟩ | ⟨g, cap, cur, hv, _⟩
    · omega
    · injection hv with hv _ _; exact ⟨g, hv⟩
  have oA := owns_below h.own hA
  have hnew : w9.ownsRow (x + 1) 3 1 (.slice (some ⟨cwk, 0, none⟩) C rc) C (numsV (Pl.cop W C k)) := by
    have h1 : (w8.alloc (.cells #[.slice (some ⟨cwk, 0, none⟩) C rc] 54)).ownsRow (x + 1) 3 1 (.slice (some ⟨cwk, 0, none⟩) C rc) C (numsV (Pl.cop W C k)) := by
      refine ⟨ho.1, ?_⟩
      rcases ho.2 with ⟨h0, h1⟩ | ⟨g, cap, cur, hv, h2, h3, h4⟩
      · omega
      · refine Or.inr ⟨g, cap, cur, hv, by omega, ?_, h4⟩
        rw [heap_alloc_old _ _ (Array.getElem?_eq_some_iff.1 h3).1]; exact h3
    exact h1.kept hg (own_apart24 h1 oA hty)
  refine ⟨fun s => if s = k then cwk else cw s, fun s => if s = k then rc else c2 s, ?_, ?_, ?_, ?_, ?_, ?_, ?_, h.o⟩
  · exact (Below.heap_setCell _ _ _ _ (by have := h.o; dsimp only; omega)).trans ((hkeep q (by have := h.o; omega)).trans h.q0)
  · rw [Go.heap_setCell_same w9 x 12 _ _ (.slice a9 (k + 1) c9) ((hkeep x (Nat.le_refl _)).trans h.x0)]; rfl
  · rw [rowsG_succ, rowsG_congr (cw' := cw) (c2' := c2) (fun s hs => by simp [show s ≠ k by omega])]
    simp only [if_true]
    exact own_setx24 hown
  · intro s hs
    by_cases e : s = k
    · subst e
      simp only [if_true]
      exact own_setx24 hnew
    · simp only [if_neg e]
      have h1 := owns_below (h.cp s (by omega)) hA
      exact own_setx24 (h1.kept hg (own_apart24 h1 oA hty))
  · have h1 := owns_below h.K hA
    exact own_setx24 (h1.kept hg (own_apart24 h1 oA htk))
  · exact ((h.m.below hA).block (hg.block bq (by have := h.o; omega) (fun e => by have := hrow bq e.symm; have := h.o; omega))).setCell (by have := h.o; omega)
  · have hb9 : Below w.heap.size w w9 := (h.b.trans (hA.mono h.b.size)).grown hg (Nat.le_trans h.b.size hA.size) (fun y hy => by have := hrow y hy; have := h.o; omega)
    exact hb9.trans ((Turn.setCell (F := fun y => y = x) rfl).below (fun y e => by have := h.o; omega) hb9.size)
end Go.Proofs.YtblipdmagfiigaaGreat
namespace Go.Proofs.YtblipdmagfiigaaGreat
open Go.RowKit
set_option linter.unusedVariables false
set_option maxRecDepth 20000
structure LateG (w wr : World) (q x bq p : Nat) (c : Cfg) (ka : Option Addr) (kc W C ca cc : Nat) (cw c2 : Nat → Nat) (bl bs bt : Option Nat) : Prop where
  q0 : wr.heap[q]? = some (.cells (cfgCells c) 53 (0, 0))
  x0 : wr.heap[x]? = some (.cells (coGC c ka c.kn kc (some ⟨ca, 0, none⟩) (c.kn + 1) cc 0 bl bs bt bq) 87 (0, 0))
  a : wr.heap[p]? = some (.cells #[.int .i64 0, .int .i64 0, .int .i64 0] 112 (0, 0))
  cop : CopAt wr ca cw c2 W C (c.kn + 1)
  K : HoldsK wr ka c.kn c.ks
  m : MapV wr bq 0 (fun _ => none)
  b : Below w.heap.size w wr
  o : q < bq ∧ bq < x ∧ x < ca ∧ ca < p ∧ w.heap.size ≤ q ∧ p < wr.heap.size
  oc : ∀ s, s < c.kn + 1 → x < cw s ∧ cw s < p
  ok : 0 < c.kn → ∀ b o, ka = some ⟨b, o, none⟩ → x < b ∧ b < p
theorem numsV_getD24 (l : List Int) (j : Nat) (h : j < l.length) : (numsV l)[j]? = some (.int .i64 (l.getD j 0)) := by
  simp [numsV, List.getD_eq_getElem?_getD, h]
theorem cop_len24 (W C s : Nat) : (Pl.cop W C s).length = C := by simp [Pl.cop]
theorem rowsG_at (cw c2 : Nat → Nat) (C k s : Nat) (h : s < k) : (rowsG cw c2 C k)[s]? = some (.slice (some ⟨cw s, 0, none⟩) C (c2 s)) := by
  simp [rowsG, h]
theorem own_cells24 {w : World} {B : Nat} {e : TypeId} {s n c m g : Nat} {xs : List Value} (h : w.ownsRow B e s (.slice (some ⟨g, 0, none⟩) m c) n xs) (j : Nat) {u : Value} (hu : xs[j]? = some u) : w.cell? ⟨g, j, none⟩ = some u := by
  have h1 := h.cells (g := g) rfl j u hu
  have e : ((⟨g, 0, none⟩ : Addr).add j) = ⟨g, j, none⟩ := by simp [Addr.add]; exact fun h => h.symm
  rw [e] at h1; exact h1
theorem LateG.make {w wr : World} {q x bq p : Nat} {c : Cfg} {ka : Option Addr} {kc W C : Nat} {a : Option Addr} {cc : Nat} {cw c2 : Nat → Nat} (h : MidG w wr q x bq c ka kc W C (c.kn + 1) a cc cw c2) (hp : wr.heap.size = p) :
    ∃ ca, a = some ⟨ca, 0, none⟩ ∧ LateG w (wr.alloc (.cells #[.int .i64 0, .int .i64 0, .int .i64 0] 112)) q x bq p c ka kc W C ca cc cw c2 none none none := by
  obtain ⟨ca, rfl⟩ : ∃ g, a = some ⟨g, 0, none⟩ := by
    rcases h.own.2 with ⟨h0, h1⟩ | ⟨g, cap, cur, hv, _⟩
    · omega
    · injection hv with hv _ _; exact ⟨g, hv⟩
  have hca := h.own.lt ca rfl
  have hcw : ∀ s, s < c.kn + 1 → x + 1 ≤ cw s ∧ cw s < wr.heap.size := fun s hs => (h.cp s hs).lt (cw s) rfl
  have hsz : (wr.alloc (.cells #[.int .i64 0, .int .i64 0, .int .i64 0] 112)).heap.size = wr.heap.size + 1 := by simp
  have hb := below_one wr (.cells #[.int .i64 0, .int .i64 0, .int .i64 0] 112)
  have ho := h.o
  have hC : CopAt wr ca cw c2 W C (c.kn + 1) := fun s hs => ⟨own_cells24 h.own s (rowsG_at _ _ _ _ s hs), fun j hj => own_cells24 (h.cp s hs) j (numsV_getD24 _ _ (by rw [cop_len24]; exact hj))⟩
  refine ⟨ca, rfl, ⟨(hb.block q (by have := h.sz; omega)).trans h.q0, (hb.block x h.sz).trans h.x0, by rw [← hp]; exact heap_alloc_new wr _, hC.below hb, (HoldsK.own h.K).below hb, h.m.below hb, h.b.trans (hb.mono h.b.size), ?_, ?_, ?_⟩⟩
  · omega
  · intro s hs; have := hcw s hs; omega
  · intro h0 b o hk
    have h1 : (Value.slice ka c.kn kc).ownBlock = some b := by rw [hk]; rfl
    have := h.K.lt b h1
    omega
section
variable {w wr w' : World} {q x bq p : Nat} {c : Cfg} {ka : Option Addr} {kc W C ca cc : Nat} {cw c2 : Nat → Nat} {bl bs bt bl' bs' bt' : Option Nat}
theorem LateG.below (h : LateG w wr q x bq p c ka kc W C ca cc cw c2 bl bs bt) (hb : Below wr.heap.size wr w') : LateG w w' q x bq p c ka kc W C ca cc cw c2 bl bs bt :=
  ⟨(hb.block _ (Array.getElem?_eq_some_iff.1 h.q0).1).trans h.q0, (hb.block _ (Array.getElem?_eq_some_iff.1 h.x0).1).trans h.x0, (hb.block _ (Array.getElem?_eq_some_iff.1 h.a).1).trans h.a, h.cop.below hb, h.K.below hb, h.m.below hb, h.b.trans (hb.mono h.b.size), by have := h.o; have := hb.size; omega, h.oc, h.ok⟩
theorem LateG.setx (h : LateG w wr q x bq p c ka kc W C ca cc cw c2 bl bs bt) (i : Nat) (v : Value) (e : (coGC c ka c.kn kc (some ⟨ca, 0, none⟩) (c.kn + 1) cc 0 bl bs bt bq).setIfInBounds i v = coGC c ka c.kn kc (some ⟨ca, 0, none⟩) (c.kn + 1) cc 0 bl' bs' bt' bq) (j : Nat) (ej : (#[.int .i64 0, .int .i64 0, .int .i64 0] : Array Value).setIfInBounds j (.int .i64 0) = #[.int .i64 0, .int .i64 0, .int .i64 0]) : LateG w ((wr.setCell ⟨x, i, none⟩ v).setCell ⟨p, j, none⟩ (.int .i64 0)) q x bq p c ka kc W C ca cc cw c2 bl' bs' bt' := by
  obtain ⟨o1, o2, o3, o4, o5, o6⟩ := h.o
  have t := late_turn wr x p i j v (.int .i64 0)
  refine ⟨(t.block q (Array.getElem?_eq_some_iff.1 h.q0).1 (by omega)).trans h.q0, ?_, ?_, h.cop.turn t (by omega) (fun s hs e => by have := h.oc s hs; omega), holdsK_turnF h.K t (fun h0 b o hk e => by have := h.ok h0 b o hk; omega), h.m.turn t (by omega), h.b.trans (t.below (fun k e => by rcases e with rfl | rfl <;> omega) h.b.size), ?_, h.oc, h.ok⟩
  · refine (Below.heap_setCell _ _ _ _ (by dsimp only; omega)).trans ?_
    rw [Go.heap_setCell_same wr x i _ _ v h.x0, e]
  · rw [Go.heap_setCell_same _ p j _ _ (.int .i64 0) ((Below.heap_setCell _ _ _ _ (by dsimp only; omega)).trans h.a), ej]
  · have := t.size; omega
end
open Classical in
noncomputable def colG (B0 p bq bl bs bo ba : Nat) (St : Nat → Prop) (k : Nat) : Nat := if k = bq then 4 else if B0 ≤ k ∧ k < p then 0 else if k = bl then 1 else if k = bs ∨ k = bo ∨ k = ba then 2 else if St k then 3 else 9
def NewPG (w : World) (c : Cfg) (W C S : Nat) (e : Ending) (w' : World) : Prop := ∃ col i, e = .returned (.tuple #[.pointer (some ⟨i.x, 0, none⟩), .int .i64 0]) ∧ CoG w.heap.size w' col i c W C 0 0 (newS c.W c.L) (newSl S) [] (fun _ => none) ∧ Below w.heap.size w w'
theorem newPG_of {w wr : World} {q x bq p : Nat} {c : Cfg} {ka : Option Addr} {kc W C ca cc S bl bs bo ba bt : Nat} {cw c2 : Nat → Nat} {St : Nat → Prop} (h : LateG w wr q x bq p c ka kc W C ca cc cw c2 (some bl) (some bs) (some bt)) (hm : c.may = true) (hW : c.W = (W : Int)) (hC : c.C = (C : Int)) (hk : c.kn ≤ 5)
    (TL : Tab wr bl (newS c.W c.L)) (SL : SlAt wr bs bo ba (newSl S)) (TT : TQ bt 24 [] wr St) (ol : p < bl) (os : ∀ k, slF bs bo ba k → bl < k) (ot : ∀ k, St k → bl < k ∧ bs < k ∧ bo < k ∧ ba < k) :
    NewPG w c W C S (.returned (.tuple #[.pointer (some ⟨x, 0, none⟩), .int .i64 0])) wr := by
  obtain ⟨o1, o2, o3, o4, o5, o6⟩ := h.o
  have os1 := os bs (Or.inl rfl); have os2 := os bo (Or.inr (Or.inl rfl)); have os3 := os ba (Or.inr (Or.inr rfl))
  have lt1 := TL.lt; have lt2 := SL.lt; have lt3 := (tq_ok _ _ _).lt TT
  refine ⟨colG w.heap.size p bq bl bs bo ba St, ⟨x, ca, cc, cw, c2, ka, kc, bl, bs, bo, ba, bt, bq⟩, rfl, ⟨h.x0, h.cop, h.K, hm, hW, hC, hk, by omega, TL, SL, ⟨St, TT, fun k hk => ?_⟩, h.m, ⟨?_, ?_, fun s hs => ?_, fun h0 b o hb => ?_⟩, ?_, ⟨?_, ?_, ?_⟩, ?_, ⟨?_, fun s hs => ?_, fun h0 b o hb => ?_⟩, fun k hk => ?_, fun k hk => ?_, h.b.size⟩, h.b⟩
  · have := ot k hk
    unfold colG
    rw [if_neg (by omega), if_neg (by omega), if_neg (by omega), if_neg (by omega), if_pos hk]
  · unfold colG; rw [if_neg (by dsimp only; omega), if_pos (by dsimp only; omega)]
  · unfold colG; rw [if_neg (by dsimp only; omega), if_pos (by dsimp only; omega)]
  · have := h.oc s hs
    unfold colG; rw [if_neg (by dsimp only; omega), if_pos (by dsimp only; omega)]
  · have := h.ok h0 b o hb
    unfold colG; rw [if_neg (by omega), if_pos (by omega)]
  · unfold colG; rw [if_neg (by dsimp only; omega), if_neg (by dsimp only; omega), if_pos rfl]
  · unfold colG; rw [if_neg (by dsimp only; omega), if_neg (by dsimp only; omega), if_neg (by dsimp only; omega), if_pos (Or.inl rfl)]
  · unfold colG; rw [if_neg (by dsimp only; omega), if_neg (by dsimp only; omega), if_neg (by dsimp only; omega), if_pos (Or.inr (Or.inl rfl))]
  · unfold colG; rw [if_neg (by dsimp only; omega), if_neg (by dsimp only; omega), if_neg (by dsimp only; omega), if_pos (Or.inr (Or.inr rfl))]
  · unfold colG; rw [if_pos rfl]
  · dsimp only; omega
  · have := h.oc s hs; dsimp only; omega
  · have := h.ok h0 b o hb; dsimp only; omega
  · unfold colG at hk
    split at hk
    · omega
    · split at hk
      · omega
      · split at hk
        · omega
        · split at hk
          · omega
          · split at hk
            · rename_i hs; have := ot k hs; omega
            · omega
  · unfold colG
    rw [if_neg (by omega), if_neg (by omega), if_neg (by omega), if_neg (by omega), if_neg (fun hs => by have := lt3 k hs; omega)]
end Go.Proofs.YtblipdmagfiigaaGreat
namespace Go.Proofs.YtblipdmagfiigaaGreat
open Go.RowKit
set_option linter.unusedVariables false
set_option maxRecDepth 20000
set_option maxRecDepth 100000 in
set_option maxHeartbeats 6400000 in
theorem gnew_any (c : Cfg) (W C S : Nat) (w : World) (h : CfgOk w c) (hm : c.may = true) (hkn : c.ka = none → c.kn = 0 ∧ c.kc = 0) (hW : c.W = (W : Int)) (hC : c.C = (C : Int)) (hS : c.S = (S : Int)) : Calls Tryz.prog 22 #[.agg #[.slice c.wa c.wn c.wc, .slice c.ka c.kn c.kc, .int .i64 c.W, .int .i64 c.C, .int .i64 c.S, .int .i64 c.B, .int .i64 c.L, .int .i64 c.H, .int .i64 c.F, .int .i64 c.P, .int .i64 c.J, .int .i64 c.N]] w (NewPG w c W C S) := by
  have CM := Lib.hid (fun (w' : World) (hb : Below w.heap.size w w') => may_cfg c true w' (h.below hb) hm)
  have CS := Lib.hid (fun (w' : World) (hb : Below w.heap.size w w') => shards_any c w' (h.below hb) hm)
  have CC := Lib.hid (fun (w' : World) (hb : Below w.heap.size w w') (s : Nat) (hs : s < c.kn + 1) => copies_in c s W C w' (h.below hb) hm hs hW hC)
  have hk5 := may_kn hm h
  obtain ⟨-, -, hw, hc, hs, -, hl, -⟩ := may_parts hm
  have MP := Lib.hid (show 0 < C ∧ C ≤ 3 ∧ ((1 ≤ c.W ∧ c.W ≤ 5) ∧ 1 ≤ c.L ∧ c.L ≤ 1000) ∧ 1 ≤ S ∧ S ≤ 4 from ⟨by omega, by omega, ⟨hw, hl⟩, by omega, by omega⟩)
  have CK := Lib.hid (fun (w' : World) (hb : Below w.heap.size w w') => cloneKey_any c.ka c.kn c.kc c.ks w' (h.below hb).2.2.2.2.2.1 hkn (by omega))
  have hkl := h.2.2.2.2.2.1.len
  have BX := Lib.hid (below_one w (.cells #[.slice c.wa c.wn c.wc, .slice c.ka c.kn c.kc, .int .i64 c.W, .int .i64 c.C, .int .i64 c.S, .int .i64 c.B, .int .i64 c.L, .int .i64 c.H, .int .i64 c.F, .int .i64 c.P, .int .i64 c.J, .int .i64 c.N] 53))
  obtain ⟨q, hq⟩ : ∃ q, w.heap.size = q := ⟨_, rfl⟩
  have KX := Lib.hid (show (w.alloc (.cells #[.slice c.wa c.wn c.wc, .slice c.ka c.kn c.kc, .int .i64 c.W, .int .i64 c.C, .int .i64 c.S, .int .i64 c.B, .int .i64 c.L, .int .i64 c.H, .int .i64 c.F, .int .i64 c.P, .int .i64 c.J, .int .i64 c.N] 53)).heap[q]? = some (.cells (cfgCells c) 53 (0, 0)) from by rw [← hq]; exact heap_alloc_new w _)
  have HQ := Lib.hid hq
  have HKL := Lib.hid hkl
  have MY := Lib.hid hm
  have hmm := @run_makeMap Tryz.prog
  have HWC := Lib.hid (show c.W = (W : Int) ∧ c.C = (C : Int) ∧ c.S = (S : Int) ∧ c.kn ≤ 5 from ⟨hW, hC, hS, hk5⟩)
  clear h hm hkn hW hC hS hw hc hs hl hkl
  go_enter Tryz.func22, Tryz.ntmps22
  go_wp2_with fail
  refine (CM.out _ BX.out).mono ?_
  rintro e w2 ⟨rfl, hb2⟩
  have B2 := Lib.hid (BX.out.trans (hb2.mono BX.out.size))
  have K2 := Lib.hid (show w2.heap[q]? = some (.cells (cfgCells c) 53 (0, 0)) from (hb2.block _ (Array.getElem?_eq_some_iff.1 KX.out).1).trans KX.out)
  clear hb2
  have f0 : w2.cell? ⟨q, 0, none⟩ = some (.slice c.wa c.wn c.wc) := co_cell K2.out rfl
  have f1 : w2.cell? ⟨q, 1, none⟩ = some (.slice c.ka c.kn c.kc) := co_cell K2.out rfl
  have f2 : w2.cell? ⟨q, 2, none⟩ = some (.int .i64 c.W) := co_cell K2.out rfl
  have f3 : w2.cell? ⟨q, 3, none⟩ = some (.int .i64 c.C) := co_cell K2.out rfl
  have f4 : w2.cell? ⟨q, 4, none⟩ = some (.int .i64 c.S) := co_cell K2.out rfl
  have f5 : w2.cell? ⟨q, 5, none⟩ = some (.int .i64 c.B) := co_cell K2.out rfl
  have f6 : w2.cell? ⟨q, 6, none⟩ = some (.int .i64 c.L) := co_cell K2.out rfl
  have f7 : w2.cell? ⟨q, 7, none⟩ = some (.int .i64 c.H) := co_cell K2.out rfl
  have f8 : w2.cell? ⟨q, 8, none⟩ = some (.int .i64 c.F) := co_cell K2.out rfl
  have f9 : w2.cell? ⟨q, 9, none⟩ = some (.int .i64 c.P) := co_cell K2.out rfl
  have f10 : w2.cell? ⟨q, 10, none⟩ = some (.int .i64 c.J) := co_cell K2.out rfl
  have f11 : w2.cell? ⟨q, 11, none⟩ = some (.int .i64 c.N) := co_cell K2.out rfl
  go_upto_region 5 with fail
  obtain ⟨bq, hbq⟩ : ∃ b, w2.heap.size = b := ⟨_, rfl⟩
  obtain ⟨x, hx⟩ : ∃ x, bq + 1 = x := ⟨_, rfl⟩
  have hq2 : q < bq := by have := (Array.getElem?_eq_some_iff.1 K2.out).1; omega
  have hb5 : Below w2.heap.size w2 ((w2.alloc (.map #[] 0)).alloc (.cells (coGC c c.ka c.kn c.kc none 0 0 0 none none none bq) 87)) := (below_one w2 _).trans ((below_one _ _).mono (by simp))
  have K5 := Lib.hid (show ((w2.alloc (.map #[] 0)).alloc (.cells (coGC c c.ka c.kn c.kc none 0 0 0 none none none bq) 87)).heap[q]? = some (.cells (cfgCells c) 53 (0, 0)) from (hb5.block _ (by omega)).trans K2.out)
  have X5 := Lib.hid (show ((w2.alloc (.map #[] 0)).alloc (.cells (coGC c c.ka c.kn c.kc none 0 0 0 none none none bq) 87)).heap[x]? = some (.cells (coGC c c.ka c.kn c.kc none 0 0 0 none none none bq) 87 (0, 0)) from by
    have h := heap_alloc_new (w2.alloc (.map #[] 0)) (.cells (coGC c c.ka c.kn c.kc none 0 0 0 none none none bq) 87)
    rw [show (w2.alloc (.map #[] 0)).heap.size = x from by simp [hbq, hx]] at h
    exact h)
  have Q5 := Lib.hid (show MapV ((w2.alloc (.map #[] 0)).alloc (.cells (coGC c c.ka c.kn c.kc none 0 0 0 none none none bq) 87)) bq 0 (fun _ => none) from by
    have h := mapV_made w2
    rw [hbq] at h
    exact h.below (below_one _ _))
  have B5 := Lib.hid (B2.out.trans (hb5.mono B2.out.size))
  have HW2 := Lib.hid (show w.heap.size ≤ bq from by rw [← hbq]; exact B2.out.size)
  rw [hbq]
  show Code.wp _ _ _ _ ((w2.alloc (.map #[] 0)).alloc (.cells (coGC c c.ka c.kn c.kc none 0 0 0 none none none bq) 87))
  rw [hx]
  generalize (w2.alloc (.map #[] 0)).alloc (.cells (coGC c c.ka c.kn c.kc none 0 0 0 none none none bq) 87) = w5 at *
  have HX := Lib.hid (show x = bq + 1 from hx.symm)
  have HQ2 := Lib.hid hq2
  clear hb5 hbq hx K2 B2 BX KX CM f0 f1 f2 f3 f4 f5 f6 f7 f8 f9 f10 f11
  have f1 : w5.cell? ⟨q, 1, none⟩ = some (.slice c.ka c.kn c.kc) := co_cell K5.out rfl
  go_wp2_with fail
  refine (CK.out _ B5.out).mono ?_
  rintro e w6 ⟨ka, kc, rfl, hK6, hb6⟩
  rw [HKL.out] at hK6
  rw [HKL.out]
  have sx5 := (Array.getElem?_eq_some_iff.1 X5.out).1
  have KO := Lib.hid (show w6.ownsRow (x + 1) 105 2 (.slice ka c.kn kc) c.kn (keysV c.ks) from ⟨hK6.1, by
    rcases hK6.2 with h | ⟨g, cap, cur, h1, h2, h3⟩
    · exact Or.inl h
    · exact Or.inr ⟨g, cap, cur, h1, by omega, h3⟩⟩)
  have K6 := Lib.hid ((hb6.block _ (Array.getElem?_eq_some_iff.1 K5.out).1).trans K5.out)
  have X6 := Lib.hid ((hb6.block _ sx5).trans X5.out)
  have Q6 := Lib.hid (Q5.out.below hb6)
  have B6 := Lib.hid (B5.out.trans (hb6.mono B5.out.size))
  clear hb6 hK6 K5 X5 Q5 B5 f1 CK sx5
  have g1 : w6.cell? ⟨x, 1, none⟩ = some (.slice c.ka c.kn c.kc) := co_cell X6.out rfl
  have z1 := co_fz X6.out 1
  go_upto_region 6 with fail
  have M7 := Lib.hid (show MidG w (w6.setCell ⟨x, 1, none⟩ (.slice ka c.kn kc)) q x bq c ka kc W C 0 none 0 (fun _ => 0) (fun _ => 0) from by
    have o1 := HX.out; have o2 := HQ2.out; have o3 := HW2.out; have o4 := HQ.out
    have t : Turn (fun y => y = x) w6 (w6.setCell ⟨x, 1, none⟩ (.slice ka c.kn kc)) := Turn.setCell rfl
    exact ⟨(Below.heap_setCell _ _ _ _ (by dsimp only; omega)).trans K6.out, by rw [Go.heap_setCell_same w6 x 1 _ _ (.slice ka c.kn kc) X6.out]; rfl, World.ownsRow_nil _ _ _ _, fun s hs => by omega, own_setx24 KO.out, Q6.out.setCell (by omega), B6.out.trans (t.below (fun y e => by omega) B6.out.size), by omega⟩)
  clear g1 z1 KO K6 X6 Q6 B6 HQ HQ2 HW2 HX
  generalize w6.setCell ⟨x, 1, none⟩ (.slice ka c.kn kc) = w7 at *
  have f0 : w7.cell? ⟨q, 0, none⟩ = some (.slice c.wa c.wn c.wc) := co_cell M7.out.q0 rfl
  have f1 : w7.cell? ⟨q, 1, none⟩ = some (.slice c.ka c.kn c.kc) := co_cell M7.out.q0 rfl
  have f2 : w7.cell? ⟨q, 2, none⟩ = some (.int .i64 c.W) := co_cell M7.out.q0 rfl
  have f3 : w7.cell? ⟨q, 3, none⟩ = some (.int .i64 c.C) := co_cell M7.out.q0 rfl
  have f4 : w7.cell? ⟨q, 4, none⟩ = some (.int .i64 c.S) := co_cell M7.out.q0 rfl
  have f5 : w7.cell? ⟨q, 5, none⟩ = some (.int .i64 c.B) := co_cell M7.out.q0 rfl
  have f6 : w7.cell? ⟨q, 6, none⟩ = some (.int .i64 c.L) := co_cell M7.out.q0 rfl
  have f7 : w7.cell? ⟨q, 7, none⟩ = some (.int .i64 c.H) := co_cell M7.out.q0 rfl
  have f8 : w7.cell? ⟨q, 8, none⟩ = some (.int .i64 c.F) := co_cell M7.out.q0 rfl
  have f9 : w7.cell? ⟨q, 9, none⟩ = some (.int .i64 c.P) := co_cell M7.out.q0 rfl
  have f10 : w7.cell? ⟨q, 10, none⟩ = some (.int .i64 c.J) := co_cell M7.out.q0 rfl
  have f11 : w7.cell? ⟨q, 11, none⟩ = some (.int .i64 c.N) := co_cell M7.out.q0 rfl
  go_wp2_with fail
  refine (CS.out _ M7.out.b).mono ?_
  rintro e w8 ⟨rfl, hb8⟩
  have M8 := Lib.hid (show MidG w w8 q x bq c ka kc W C 0 none 0 (fun _ => 0) (fun _ => 0) from ⟨(hb8.block _ (Array.getElem?_eq_some_iff.1 M7.out.q0).1).trans M7.out.q0, (hb8.block _ M7.out.sz).trans M7.out.x0, World.ownsRow_nil _ _ _ _, fun s hs => by omega, owns_below M7.out.K hb8, M7.out.m.below hb8, M7.out.b.trans (hb8.mono M7.out.b.size), M7.out.o⟩)
  clear hb8 M7 CS f0 f1 f2 f3 f4 f5 f6 f7 f8 f9 f10 f11
  go_wp2_with fail
  go_loopw [27] (fun iv wr => ∃ k : Nat, k ≤ c.kn + 1 ∧ iv = .int .i64 k ∧ ∃ a cc cw c2, Hid (MidG w wr q x bq c ka kc W C k a cc cw c2)) (fun iv _ => c.kn + 1 - (intOf iv).toNat)
  case atStart => exact ⟨0, by omega, rfl, none, 0, _, _, M8⟩
  case round =>
    obtain ⟨k, hk, rfl, a, cc, cw, c2, hM⟩ := hrel
    by_cases hlt : k < c.kn + 1
    · obtain ⟨i0, hi, hz0, hz1, hz2⟩ := info_parts list_info24
      have f0 : wr.cell? ⟨q, 0, none⟩ = some (.slice c.wa c.wn c.wc) := co_cell hM.out.q0 rfl
      have f1 : wr.cell? ⟨q, 1, none⟩ = some (.slice c.ka c.kn c.kc) := co_cell hM.out.q0 rfl
      have f2 : wr.cell? ⟨q, 2, none⟩ = some (.int .i64 c.W) := co_cell hM.out.q0 rfl
      have f3 : wr.cell? ⟨q, 3, none⟩ = some (.int .i64 c.C) := co_cell hM.out.q0 rfl
      have f4 : wr.cell? ⟨q, 4, none⟩ = some (.int .i64 c.S) := co_cell hM.out.q0 rfl
      have f5 : wr.cell? ⟨q, 5, none⟩ = some (.int .i64 c.B) := co_cell hM.out.q0 rfl
      have f6 : wr.cell? ⟨q, 6, none⟩ = some (.int .i64 c.L) := co_cell hM.out.q0 rfl
      have f7 : wr.cell? ⟨q, 7, none⟩ = some (.int .i64 c.H) := co_cell hM.out.q0 rfl
      have f8 : wr.cell? ⟨q, 8, none⟩ = some (.int .i64 c.F) := co_cell hM.out.q0 rfl
      have f9 : wr.cell? ⟨q, 9, none⟩ = some (.int .i64 c.P) := co_cell hM.out.q0 rfl
      have f10 : wr.cell? ⟨q, 10, none⟩ = some (.int .i64 c.J) := co_cell hM.out.q0 rfl
      have f11 : wr.cell? ⟨q, 11, none⟩ = some (.int .i64 c.N) := co_cell hM.out.q0 rfl
      have g12 : wr.cell? ⟨x, 12, none⟩ = some (.slice a k cc) := co_cell hM.out.x0 rfl
      have z12 := co_fz hM.out.x0 12
      have CK := Lib.hid (show Calls Tryz.prog 27 #[.agg #[.slice c.wa c.wn c.wc, .slice c.ka c.kn c.kc, .int .i64 c.W, .int .i64 c.C, .int .i64 c.S, .int .i64 c.B, .int .i64 c.L, .int .i64 c.H, .int .i64 c.F, .int .i64 c.P, .int .i64 c.J, .int .i64 c.N], .int .i64 (k : Int)] wr.drew (fun e w' => ∃ ra rc, e = .returned (.slice ra C rc) ∧ w'.ownsRow wr.heap.size 3 1 (.slice ra C rc) C (numsV (Pl.cop W C k)) ∧ Below wr.heap.size wr.drew w') from (CC.out wr.drew (hM.out.b.trans ((Below.refl _ _).drew.mono hM.out.b.size)) k hlt).mono (fun e w' ⟨ra, rc, h1, h2, h3⟩ => by
        rw [cop_len24] at h1 h2
        exact ⟨ra, rc, h1, h2, h3⟩))
      have G8 := Lib.hid (show ∀ w8, Below wr.heap.size wr.drew w8 → w8.cell? ⟨x, 12, none⟩ = some (.slice a k cc) ∧ w8.frozen? ⟨x, 12, none⟩ = false from fun w8 hb => by
        have e1 := (((Below.refl _ _).drew.trans hb : Below wr.heap.size wr w8).block x hM.out.sz).trans hM.out.x0
        exact ⟨co_cell e1 rfl, co_fz e1 12⟩)
      have G9 := Lib.hid (show ∀ w8 w9, Below wr.heap.size wr.drew w8 → w8.grownBy w9 (Value.slice a k cc).ownBlock → w9.cell? ⟨x, 12, none⟩ = some (.slice a k cc) ∧ w9.frozen? ⟨x, 12, none⟩ = false from fun w8 w9 hb hg => by
        have hb' : Below wr.heap.size wr w8 := (Below.refl _ _).drew.trans hb
        have e1 := (hg.block x (by have := hM.out.sz; have := hb'.size; omega) (fun e => by have := (hM.out.own.lt x e.symm).1; omega)).trans ((hb'.block x hM.out.sz).trans hM.out.x0)
        exact ⟨co_cell e1 rfl, co_fz e1 12⟩)
      have HA := Lib.hid (show ∀ w8 (o : Obj), Below wr.heap.size wr.drew w8 → Below wr.heap.size wr.drew (w8.alloc o) from fun w8 o hb => hb.trans ((below_one w8 o).mono hb.size))
      have HO := Lib.hid (show ∀ w8, Below wr.heap.size wr.drew w8 → w8.ownsRow (x + 1) 54 1 (.slice a k cc) k (rowsG cw c2 C k) from fun w8 hb => owns_below hM.out.own ((Below.refl _ _).drew.trans hb))
      have HZ := Lib.hid (show ∀ w8, Below wr.heap.size wr.drew w8 → x + 1 ≤ w8.heap.size from fun w8 hb => by have := hM.out.sz; have h1 : wr.heap.size ≤ w8.heap.size := hb.size; omega)
      go_upto_region 9 with fail
      go_region_law
        (first
          | (go_simp; go_at_call 27; (with_reducible refine CK.out.mono ?_); rintro e w8 ⟨ra, rc, rfl, ho8, hb8⟩; obtain ⟨g8, gz8⟩ := G8.out _ hb8; obtain ⟨g8a, gz8a⟩ := G8.out _ (HA.out w8 (.cells #[.slice ra C rc] 54) hb8))
          | (refine step_append_own24 (by rfl) _ _ _ (by rfl) (x + 1) 54 i0 _ 1 24 Tryz.underlying81 hi hz0 hz1 hz2 rfl (by omega) (.slice a k cc) k (rowsG cw c2 C k) (by rfl) (HO.out _ (HA.out w8 _ hb8)) _ 1 1 [.slice ra C rc] (by rfl) (by rfl) (World.news_of_block (heap_alloc_new _ _)) (by simp [Value.oneCell']) (by have := HWC.out; unfold maxLen; omega) (by have := HWC.out; omega) (HZ.out _ (HA.out w8 _ hb8)) ?_; intro a9 c9 w9 hown9 hg9; obtain ⟨g9, gz9⟩ := G9.out _ _ (HA.out w8 (.cells #[.slice ra C rc] 54) hb8) hg9))
      all_goals
        obtain ⟨cw', c2', hM'⟩ := hM.out.step MP.out.1 ((Below.refl _ _).drew.trans hb8) ho8 hg9 hown9
        have MM := Lib.hid hM'
        clear hM' hown9 hg9 ho8
        go_wp2_with fail
        go_roundw
        case rel => exact ⟨k + 1, by omega, by simp, a9, c9, cw', c2', MM⟩
        case measure => simp [intOf]; omega
    · obtain rfl : k = c.kn + 1 := by omega
      go_upto_region 12 with fail
      obtain ⟨p, hp⟩ : ∃ p, wr.heap.size = p := ⟨_, rfl⟩
      obtain ⟨ca, rfl, hLA⟩ := LateG.make hM.out hp
      have LA := Lib.hid hLA
      rw [hp]
      generalize wr.alloc (.cells #[.int .i64 0, .int .i64 0, .int .i64 0] 112) = wa at *
      clear hLA hM hp CC M8
      have f2 : wa.cell? ⟨q, 2, none⟩ = some (.int .i64 c.W) := co_cell LA.out.q0 rfl
      have f6 : wa.cell? ⟨q, 6, none⟩ = some (.int .i64 c.L) := co_cell LA.out.q0 rfl
      go_wp2_with fail
      refine (new_good c.W c.L wa MP.out.2.2.1).mono ?_
      rintro e wb ⟨rfl, hwb⟩
      have hbb : Below wa.heap.size wa wb := by rw [hwb]; exact below_one wa _
      have TB := Lib.hid (show Tab wb wa.heap.size (newS c.W c.L) from by rw [hwb]; exact new_is_tab wa c.W c.L _)
      obtain ⟨bl, hbl⟩ : ∃ b, wa.heap.size = b := ⟨_, rfl⟩
      rw [hbl] at TB
      have LB := Lib.hid (LA.out.below hbb)
      have OL := Lib.hid (show p < bl from by have := LA.out.o; omega)
      clear hbb hwb LA f2 f6
      have g14 : wb.cell? ⟨x, 14, none⟩ = some (.pointer none) := co_cell LB.out.x0 rfl
      have z14 := co_fz LB.out.x0 14
      have a0 : wb.cell? ⟨p, 0, none⟩ = some (.int .i64 0) := co_cell LB.out.a rfl
      have y0 := co_fz LB.out.a 0
      rw [hbl]
      go_upto_region 13 with fail
      have LC := Lib.hid (LB.out.setx (bl' := some bl) (bs' := none) (bt' := none) 14 (.pointer (some ⟨bl, 0, none⟩)) rfl 0 rfl)
      have tC := late_turn wb x p 14 0 (.pointer (some ⟨bl, 0, none⟩)) (.int .i64 0)
      have TC := Lib.hid (TB.out.block (tC.block bl TB.out.lt (fun e => by have := LB.out.o; have := OL.out; omega)))
      clear tC TB LB g14 z14 a0 y0 hbl
      generalize (wb.setCell ⟨x, 14, none⟩ (.pointer (some ⟨bl, 0, none⟩))).setCell ⟨p, 0, none⟩ (.int .i64 0) = wc at *
      have f4 : wc.cell? ⟨q, 4, none⟩ = some (.int .i64 c.S) := co_cell LC.out.q0 rfl
      have CSl := Lib.hid (show Calls Tryz.prog 53 #[.int .i64 c.S] wc fun e w' => ∃ b bo ba, e = .returned (.tuple #[.pointer (some ⟨b, 0, none⟩), .int .i64 0]) ∧ SlAt w' b bo ba (newSl S) ∧ (∀ k, slF b bo ba k → wc.heap.size ≤ k) ∧ Below wc.heap.size wc w' from by rw [HWC.out.2.2.1]; exact slNew_good S wc MP.out.2.2.2)
      go_wp2_with fail
      refine CSl.out.mono ?_
      rintro e wd ⟨bs, bo, ba, rfl, hS, hSge, hbd⟩
      have LD := Lib.hid (LC.out.below hbd)
      have TD := Lib.hid (TC.out.below hbd)
      have SD := Lib.hid hS
      have OS := Lib.hid (show ∀ k, slF bs bo ba k → bl < k from fun k hk => by have := hSge k hk; have := TC.out.lt; omega)
      clear hS hSge hbd LC TC f4 CSl
      have g15 : wd.cell? ⟨x, 15, none⟩ = some (.pointer none) := co_cell LD.out.x0 rfl
      have z15 := co_fz LD.out.x0 15
      have a1 : wd.cell? ⟨p, 1, none⟩ = some (.int .i64 0) := co_cell LD.out.a rfl
      have y1 := co_fz LD.out.a 1
      go_upto_region 14 with fail
      have LE := Lib.hid (LD.out.setx (bl' := some bl) (bs' := some bs) (bt' := none) 15 (.pointer (some ⟨bs, 0, none⟩)) rfl 1 rfl)
      have tE := late_turn wd x p 15 1 (.pointer (some ⟨bs, 0, none⟩)) (.int .i64 0)
      have TE := Lib.hid (TD.out.block (tE.block bl TD.out.lt (fun e => by have := LD.out.o; have := OL.out; omega)))
      have SE := Lib.hid (SD.out.turn tE (fun k hk e => by have := OS.out k hk; have := LD.out.o; have := OL.out; omega))
      clear tE TD LD SD g15 z15 a1 y1
      generalize (wd.setCell ⟨x, 15, none⟩ (.pointer (some ⟨bs, 0, none⟩))).setCell ⟨p, 1, none⟩ (.int .i64 0) = we at *
      go_wp2_with fail
      refine (tNew_any 24 we (by decide)).mono ?_
      rintro e wf ⟨bt, St, rfl, hT, hTge, hbf⟩
      have LF := Lib.hid (LE.out.below hbf)
      have TF := Lib.hid (TE.out.below hbf)
      have SF := Lib.hid (SE.out.turn (F := fun _ => False) (Turn.of_below hbf) (fun k hk e => e))
      have OT := Lib.hid (show ∀ k, St k → bl < k ∧ bs < k ∧ bo < k ∧ ba < k ∧ p < k from fun k hk => by
        have := hTge k hk; have := TE.out.lt; have := SE.out.lt; have := LE.out.o; omega)
      have UF := Lib.hid hT
      clear hT hTge hbf LE TE SE
      have g16 : wf.cell? ⟨x, 16, none⟩ = some (.pointer none) := co_cell LF.out.x0 rfl
      have z16 := co_fz LF.out.x0 16
      have a2 : wf.cell? ⟨p, 2, none⟩ = some (.int .i64 0) := co_cell LF.out.a rfl
      have y2 := co_fz LF.out.a 2
      go_upto_region 15 with fail
      have LG := Lib.hid (LF.out.setx (bl' := some bl) (bs' := some bs) (bt' := some bt) 16 (.pointer (some ⟨bt, 0, none⟩)) rfl 2 rfl)
      have tG := late_turn wf x p 16 2 (.pointer (some ⟨bt, 0, none⟩)) (.int .i64 0)
      have TG := Lib.hid (TF.out.block (tG.block bl TF.out.lt (fun e => by have := LF.out.o; have := OL.out; omega)))
      have SG := Lib.hid (SF.out.turn tG (fun k hk e => by have := OS.out k hk; have := LF.out.o; have := OL.out; omega))
      have UG := Lib.hid ((tq_ok _ _ _).turn UF.out tG (fun k hk e => by have := OT.out k hk; have := LF.out.o; omega))
      clear tG TF LF SF UF g16 z16 a2 y2
      generalize (wf.setCell ⟨x, 16, none⟩ (.pointer (some ⟨bt, 0, none⟩))).setCell ⟨p, 2, none⟩ (.int .i64 0) = wg at *
      have a0 : wg.cell? ⟨p, 0, none⟩ = some (.int .i64 0) := co_cell LG.out.a rfl
      have a1 : wg.cell? ⟨p, 1, none⟩ = some (.int .i64 0) := co_cell LG.out.a rfl
      have a2 : wg.cell? ⟨p, 2, none⟩ = some (.int .i64 0) := co_cell LG.out.a rfl
      have CF := Lib.hid (newPG_of LG.out MY.out HWC.out.1 HWC.out.2.1 HWC.out.2.2.2 TG.out SG.out UG.out OL.out OS.out (fun k hk => by have := OT.out k hk; omega))
      clear LG TG SG UG OT OS OL
      have heq := fun w => eq24 w
      go_wp2_with fail
      go_ret2
      exact CF.out
end Go.Proofs.YtblipdmagfiigaaGreat
namespace Go.Proofs.YtblipdmagfiigaaGreat
open Go.RowKit
set_option linter.unusedVariables false
set_option maxRecDepth 20000
def lastS24 (P : List SM) (s : Int) : KV × Bool := if 0 ≤ s ∧ s < (P.length : Int) then ((P.getD s.toNat sm0).last, (P.getD s.toNat sm0).rcv) else (k0, false)
theorem s4_store24 {w : World} {b g o p : Nat} {v2 v3 v4 v5 u v : Value} (hb : p ≠ b) (hg : p ≠ g) (h : w.cell? ⟨b, 2, none⟩ = some v2 ∧ w.cell? ⟨g, o + 3, none⟩ = some v3 ∧ w.cell? ⟨g, o + 4, none⟩ = some v4 ∧ w.cell? ⟨g, o + 5, none⟩ = some v5) :
    ((w.setCell ⟨p, 0, none⟩ u).setCell ⟨p, 1, none⟩ v).cell? ⟨b, 2, none⟩ = some v2 ∧ ((w.setCell ⟨p, 0, none⟩ u).setCell ⟨p, 1, none⟩ v).cell? ⟨g, o + 3, none⟩ = some v3 ∧ ((w.setCell ⟨p, 0, none⟩ u).setCell ⟨p, 1, none⟩ v).cell? ⟨g, o + 4, none⟩ = some v4 ∧ ((w.setCell ⟨p, 0, none⟩ u).setCell ⟨p, 1, none⟩ v).cell? ⟨g, o + 5, none⟩ = some v5 :=
  ⟨((cset_far hb).trans (cset_far hb)).trans h.1, ((cset_far hg).trans (cset_far hg)).trans h.2.1, ((cset_far hg).trans (cset_far hg)).trans h.2.2.1, ((cset_far hg).trans (cset_far hg)).trans h.2.2.2⟩
set_option maxHeartbeats 1600000 in
theorem mafter_any24 (s : Int) (y : KV) (z : Bool) (b : Nat) {most : Int} {T : List KV} {L : List SM} {S : Nat → Prop} (w : World) (h : MAt w b most T L S) (hl : L.length ≤ 1000) (hv : lastS24 L s = (y, z)) :
    Calls Tryz.prog 98 #[.pointer (some ⟨b, 0, none⟩), .int .i64 s] w fun e w' => e = .returned (.tuple #[.agg #[.int .i64 y.1, .string y.2], .bool z]) ∧ Below w.heap.size w w' := by
  have B1 := Lib.hid (below_one w (.cells #[.int .i64 0, .string ⟨#[]⟩] 71))
  have K1 := Lib.hid (show (w.alloc (.cells #[.int .i64 0, .string ⟨#[]⟩] 71)).cell? ⟨w.heap.size, 0, none⟩ = some (.int .i64 0) ∧ (w.alloc (.cells #[.int .i64 0, .string ⟨#[]⟩] 71)).cell? ⟨w.heap.size, 1, none⟩ = some (.string ⟨#[]⟩) from kvAt_new w k0 w.heap.size 71 rfl)
  have F1 := Lib.hid (show ∀ i, (w.alloc (.cells #[.int .i64 0, .string ⟨#[]⟩] 71)).frozen? ⟨w.heap.size, i, none⟩ = false from fun i => frozen_alloc rfl)
  have H1 := Lib.hid (h.below B1.out)
  obtain ⟨zh, hzh⟩ : ∃ zh, decide (0 ≤ s ∧ s < (L.length : Int)) = zh := ⟨_, rfl⟩
  have CH := Lib.hid (mhas_any s zh b _ H1.out hl hzh)
  unfold lastS24 at hv
  cases zh
  · have hn : ¬ (0 ≤ s ∧ s < (L.length : Int)) := of_decide_eq_false hzh
    rw [if_neg hn] at hv
    injection hv with hv1 hv2
    subst hv1 hv2
    clear h hzh hn
    go_enter Tryz.func98, Tryz.ntmps98
    go_wp2_with fail
    refine CH.out.mono ?_
    rintro e w' ⟨rfl, rfl⟩
    obtain ⟨k1, k2⟩ := K1.out
    have f0 := F1.out 0
    have f1 := F1.out 1
    go_wp2_with fail
    exact bodyPost_ret (v := .tuple #[.agg #[.int .i64 0, .string ⟨#[]⟩], .bool false]) (by simp [results, go_sem]) rfl ⟨rfl, B1.out⟩
  · have hn : 0 ≤ s ∧ s < (L.length : Int) := of_decide_eq_true hzh
    rw [if_pos hn] at hv
    injection hv with hv1 hv2
    subst hv1 hv2
    obtain ⟨i, rfl⟩ : ∃ i : Nat, s = (i : Int) := ⟨s.toNat, by omega⟩
    rw [Int.toNat_natCast]
    obtain ⟨ta, tc, ra, rc, M⟩ := H1.out
    have hil : i < L.length := by omega
    obtain ⟨g, hg⟩ : ∃ g, ra = some ⟨g, 0, none⟩ := by
      obtain ⟨g, cap', hv⟩ := Joins.ownsRow_form M.2.2.2.2.2.1 (by omega)
      simp only [Value.slice.injEq] at hv
      exact ⟨g, hv.1⟩
    subst hg
    obtain ⟨v0, v1, v2, v3, v4, v5, v6⟩ := smV_at L i hil
    obtain ⟨x, hx⟩ : ∃ x, L.getD i sm0 = x := ⟨_, rfl⟩
    rw [hx] at v3 v4 v5 ⊢
    have own := M.2.2.2.2.2.1
    have c3 := (own.cellAt (i * 7 + 3) (by omega)).trans v3
    have c4 := (own.cellAt (i * 7 + 4) (by omega)).trans v4
    have c5 := (own.cellAt (i * 7 + 5) (by omega)).trans v5
    have k2 := M.2.2.1
    have HB := Lib.hid (show b < w.heap.size from h.lt b h.has)
    have HG := Lib.hid (show g < w.heap.size from by
      obtain ⟨ta', tc', ra', rc', M'⟩ := h
      have e := M'.2.2.1
      have e2 := (B1.out.cell (p := ⟨b, 2, none⟩) (lt_of_cell e)).trans e
      rw [k2] at e2
      injection e2 with e2; injection e2 with e2
      exact M'.2.2.2.2.2.2.2.2.2.2 g (M'.2.2.2.2.2.2.2.2.2.1 g e2.symm).1)
    have i1 : (0 : Int) ≤ (i : Int) := by omega
    have i2 : (i : Int) < (L.length : Int) := by omega
    clear h hzh hn M own v0 v1 v2 v3 v4 v5 v6 hx
    go_enter Tryz.func98, Tryz.ntmps98
    go_wp2_with fail
    refine CH.out.mono ?_
    rintro e w' ⟨rfl, rfl⟩
    obtain ⟨z1, z2⟩ := K1.out
    have f0 := F1.out 0
    have f1 := F1.out 1
    have hbp : w.heap.size ≠ b := by have := HB.out; omega
    have hgp : w.heap.size ≠ g := by have := HG.out; omega
    go_upto_region 3 with fail
    generalize w.alloc (.cells #[.int .i64 0, .string ⟨#[]⟩] 71) = w1 at *
    obtain ⟨p, hpw⟩ : ∃ p, w.heap.size = p := ⟨_, rfl⟩
    have HPW := Lib.hid hpw
    rw [hpw] at z1 z2 f0 f1 hbp hgp
    rw [hpw]
    clear hpw
    go_region_held3 (fun w' => w'.cell? ⟨b, 2, none⟩ = some (.slice (some ⟨g, 0, none⟩) L.length rc) ∧ w'.cell? ⟨g, i * 7 + 3, none⟩ = some (.bool x.rcv) ∧ w'.cell? ⟨g, i * 7 + 4, none⟩ = some (.int .i64 x.last.1) ∧ w'.cell? ⟨g, i * 7 + 5, none⟩ = some (.string x.last.2))
      (first | assumption | exact ⟨k2, c3, c4, c5⟩ | exact s4_store24 hbp hgp ⟨k2, c3, c4, c5⟩)
      (fail)
    all_goals
      have Z1 := Lib.hid (show ((w1.setCell ⟨p, 0, none⟩ (.int .i64 x.last.1)).setCell ⟨p, 1, none⟩ (.string x.last.2)).cell? ⟨p, 0, none⟩ = some (.int .i64 x.last.1) from (cset_ne (by omega)).trans (cset_at z1))
      have Z2 := Lib.hid (show ((w1.setCell ⟨p, 0, none⟩ (.int .i64 x.last.1)).setCell ⟨p, 1, none⟩ (.string x.last.2)).cell? ⟨p, 1, none⟩ = some (.string x.last.2) from cset_at ((cset_ne (by omega)).trans z2))
      have BE := Lib.hid (show Below w.heap.size w ((w1.setCell ⟨p, 0, none⟩ (.int .i64 x.last.1)).setCell ⟨p, 1, none⟩ (.string x.last.2)) from (B1.out.setCell (p := ⟨p, 0, none⟩) (Nat.le_of_eq HPW.out) _).setCell (p := ⟨p, 1, none⟩) (Nat.le_of_eq HPW.out) _)
      clear c3 c4 c5 k2 f0 f1 z1 z2
      generalize (w1.setCell ⟨p, 0, none⟩ (.int .i64 x.last.1)).setCell ⟨p, 1, none⟩ (.string x.last.2) = w3 at *
      have y1 := Z1.out
      have y2 := Z2.out
      go_wp2_with fail
      exact bodyPost_ret (v := .tuple #[.agg #[.int .i64 x.last.1, .string x.last.2], .bool x.rcv]) (by simp [results, go_sem, y1, y2]) rfl ⟨rfl, BE.out.drew⟩
end Go.Proofs.YtblipdmagfiigaaGreat
namespace Go.Proofs.YtblipdmagfiigaaGreat
open Go.RowKit
set_option linter.unusedVariables false
set_option maxRecDepth 20000
/-- 'append(v, x...)' at one operation, x whatever slice (nil too): the value is a slice of the call's own -/
theorem wp_append_opt {P : Program} {w : World} {o : Oper} {a : Act} {K : Act → World → Prop} {Q : Exit → Act → World → Prop} (s x : Operand) (t : TypeId)
    (ho : o.op = .call { callee := .builtin .append, args := #[s, x], argTypes := #[t, t] })
    (base : Nat) (e : TypeId) (i : TypeInfo) (z : Value) (size bytes : Nat) (ht : P.underlying t = some (.slice e)) (hi : P.info? e = some i) (hz : i.zero = some z)
    (hsize : i.size = size) (hby : i.bytes = bytes) (hzs : z.cells.size = size) (hsz : 0 < size)
    (v : Value) (n : Nat) (xs : List Value) (hs : a.eval s = v) (hown : w.ownsRow base e size v n xs)
    (ao : Option Addr) (m c : Nat) (news : List Value) (hx : a.eval x = .slice ao m c) (hnone : ao = none → m = 0 ∧ c = 0) (hl : news.length = m * size)
    (hnews : ∀ ad, ao = some ad → ∀ j u, news[j]? = some u → w.cell? (ad.add j) = some u) (h1 : ∀ u ∈ news, u.oneCell' = true)
    (h63 : n + m ≤ maxLen) (hbytes : (n + m) * bytes ≤ 140737488355328) (hbase : base ≤ w.heap.size)
    (h : ∀ a' c' w', w'.ownsRow base e size (.slice a' (n + m) c') (n + m) (xs ++ news) → Below base w w' → K (a.put o.dst (.slice a' (n + m) c')) w') : o.wp P a w K Q := by
  have fin : ∀ v' w', w'.ownsRow base e size v' (n + m) (xs ++ news) → Below base w w' → K (a.put o.dst v') w' := by
    intro v' w' ho' hb'
    rcases Joins.ownsRow_forms ho' with ⟨rfl, h0⟩ | ⟨g, cap, rfl⟩
    · have := h none 0 w' (by rw [h0] at ho' ⊢; exact ho') hb'
      rw [h0] at this
      exact this
    · exact h _ _ w' ho' hb'
  cases ao with
  | some ad =>
    refine wp_append_own w s x t ho base e i z size bytes ht hi hz hsize hby hzs hsz v n xs hs hown ad m c news hx hl (hnews ad rfl) h1 h63 hbytes hbase fun v' w' h2 h3 _ => ?_
    exact fin v' w' h2 ((Below.refl base w).grown h3 hbase fun k hk => (hown.lt k hk).1)
  | none =>
    obtain ⟨rfl, rfl⟩ := hnone rfl
    have hn : news = [] := List.eq_nil_of_length_eq_zero (by simpa using hl)
    subst hn
    have hr := run_append_owned_none w base t o.type e i size ht hi v n xs hown
    unfold Oper.wp execOp
    simp only [ho, resolve, invoke, builtin, Sem.run_bind, Sem.run_pure, Result.andThen_ok, List.map_toArray, List.map_cons, List.map_nil, hs, hx, hr]
    exact fin v w (by simpa using hown) (Below.refl _ _)
end Go.Proofs.YtblipdmagfiigaaGreat
namespace Go.Proofs.YtblipdmagfiigaaGreat
open Go.RowKit
set_option linter.unusedVariables false
set_option maxRecDepth 20000
theorem zeroQ (w : World) : (zeroValue 93).run Tryz.prog w = .ok (.pointer none) w := by kernel_rfl
theorem mapTq : MapT 85 93 (.pointer none) := ⟨Tryz.underlying85, zeroQ⟩
theorem step_append_opt {P : Program} {w : World} {ops : Array Oper} {o : Oper} {a : Act} {K : Act → World → Prop} {Q : Exit → Act → World → Prop} {E : Prop} (hgd : o.guard = none) (s x : Operand) (t : TypeId)
    (ho : o.op = .call { callee := .builtin .append, args := #[s, x], argTypes := #[t, t] })
    (base : Nat) (e : TypeId) (i : TypeInfo) (z : Value) (size bytes : Nat) (ht : P.underlying t = some (.slice e)) (hi : P.info? e = some i) (hz : i.zero = some z)
    (hsize : i.size = size) (hby : i.bytes = bytes) (hzs : z.cells.size = size) (hsz : 0 < size)
    (v : Value) (n : Nat) (xs : List Value) (hs : a.eval s = v) (hown : w.ownsRow base e size v n xs)
    (ao : Option Addr) (m c : Nat) (news : List Value) (hx : a.eval x = .slice ao m c) (hnone : ao = none → m = 0 ∧ c = 0) (hl : news.length = m * size)
    (hnews : ∀ ad, ao = some ad → ∀ j u, news[j]? = some u → w.cell? (ad.add j) = some u) (h1 : ∀ u ∈ news, u.oneCell' = true)
    (h63 : n + m ≤ maxLen) (hbytes : (n + m) * bytes ≤ 140737488355328) (hbase : base ≤ w.heap.size)
    (h : ∀ a' c' w', w'.ownsRow base e size (.slice a' (n + m) c') (n + m) (xs ++ news) → Below base w w' → K (a.put o.dst (.slice a' (n + m) c')) w') :
    if Region.wanted o (yielded ops a.tmps) = true then Oper.wp P o a w K Q else E := by
  have hw : Region.wanted o (yielded ops a.tmps) = true := by simp [Region.wanted, hgd]
  rw [if_pos hw]
  exact wp_append_opt s x t ho base e i z size bytes ht hi hz hsize hby hzs hsz v n xs hs hown ao m c news hx hnone hl hnews h1 h63 hbytes hbase h
end Go.Proofs.YtblipdmagfiigaaGreat
namespace Go.Proofs.YtblipdmagfiigaaGreat
open Go.RowKit
set_option linter.unusedVariables false
set_option maxRecDepth 20000
theorem letter_infoG : (Tryz.prog.info? 68).map (fun i => (i.zero, i.size, i.bytes)) = some (some (.agg #[.int .i64 0, .nilIface]), 2, 24) := by kernel_rfl
structure Sh4 where
  tu : Nat
  tr : Int
  sk : Int
  he : Bool
def sh0 : Sh4 := ⟨0, 0, 0, false⟩
def shV : List Sh4 → List Value
  | [] => []
  | x :: l => .int .i64 (x.tu : Int) :: .int .i64 x.tr :: .int .i64 x.sk :: .bool x.he :: shV l
theorem shV_at : ∀ (l : List Sh4) (i : Nat), i < l.length → (shV l)[i * 4]? = some (.int .i64 ((l.getD i sh0).tu : Int)) ∧ (shV l)[i * 4 + 1]? = some (.int .i64 (l.getD i sh0).tr) ∧ (shV l)[i * 4 + 2]? = some (.int .i64 (l.getD i sh0).sk) ∧ (shV l)[i * 4 + 3]? = some (.bool (l.getD i sh0).he)
  | [], i, h => absurd h (by simp)
  | x :: l, 0, h => ⟨rfl, rfl, rfl, rfl⟩
  | x :: l, i + 1, h => by
    have := shV_at l i (by simpa using h)
    rw [show (i + 1) * 4 = i * 4 + 4 by omega]
    exact this
theorem shV_set : ∀ (l : List Sh4) (i : Nat) (y : Sh4), i < l.length → ((((shV l).set (i * 4) (.int .i64 (y.tu : Int))).set (i * 4 + 1) (.int .i64 y.tr)).set (i * 4 + 2) (.int .i64 y.sk)).set (i * 4 + 3) (.bool y.he) = shV (l.set i y)
  | [], i, y, h => absurd h (by simp)
  | x :: l, 0, y, h => rfl
  | x :: l, i + 1, y, h => by
    have := shV_set l i y (by simpa using h)
    rw [show (i + 1) * 4 = i * 4 + 4 by omega]
    simp only [shV, List.set_cons_succ, List.set]
    rw [this]
/-- a query: what was asked, what was told, done, cancelled, under way; its merge and its shards -/
structure Qy where
  t : Tx
  K : Int
  N : Int
  its : List KV
  dn : Bool
  ca : Bool
  ac : Bool
  P : List SM
  sh : List Sh4
def q0 : Qy := ⟨⟨#[]⟩, 0, 0, [], false, false, false, [], []⟩
/-- a coordinator -/
structure Cs where
  now : Int
  ls : Lt
  ss : Sl
  M : List TM
  qs : List Qy
/-- where a query lies -/
structure QI where
  qb : Nat
  ia : Option Addr
  ic : Nat
  mp : Option Addr
  bm : Nat
  sa : Option Addr
  sn : Nat
  sc : Nat
  sb : Nat
def quG (id : Int) (q : Qy) (i : QI) : Array Value := #[.int .i64 id, .string q.t, .int .i64 q.K, .int .i64 q.N, .slice i.ia q.its.length i.ic, .bool q.dn, .bool q.ca, .pointer i.mp, .slice i.sa i.sn i.sc]
/-- a merge by its plain shards -/
def MAtP (w : World) (b : Nat) (most : Int) (T : List KV) (P : List SM) (S : Nat → Prop) : Prop := ∃ L, MAt w b most T L S ∧ L.map spl = P
theorem MAtP.turn {w w' : World} {b : Nat} {most : Int} {T : List KV} {P : List SM} {S F : Nat → Prop} (h : MAtP w b most T P S) (t : Turn F w w') (hF : ∀ k, S k → ¬ F k) : MAtP w' b most T P S := by
  obtain ⟨L, m, e⟩ := h; exact ⟨L, m.turn t hF, e⟩
theorem MAtP.below {w w' : World} {b : Nat} {most : Int} {T : List KV} {P : List SM} {S : Nat → Prop} (h : MAtP w b most T P S) (hb : Below w.heap.size w w') : MAtP w' b most T P S := by
  obtain ⟨L, m, e⟩ := h; exact ⟨L, m.below hb, e⟩
theorem MAtP.lt {w : World} {b : Nat} {most : Int} {T : List KV} {P : List SM} {S : Nat → Prop} (h : MAtP w b most T P S) : ∀ k, S k → k < w.heap.size := by
  obtain ⟨L, m, e⟩ := h; exact m.lt
/-- a query in memory: colours k0 its block, k0 + 1 what was told, k0 + 2 its shards, k0 + 3 its merge -/
structure QAtG (w : World) (col : Nat → Nat) (B0 k0 : Nat) (id : Int) (q : Qy) (i : QI) : Prop where
  b : w.heap[i.qb]? = some (.cells (quG id q i) 96 (0, 0))
  o : w.ownsRow B0 71 2 (.slice i.ia q.its.length i.ic) q.its.length (keysV q.its)
  oc : ∀ g, i.ia = some ⟨g, 0, none⟩ → col g = k0 + 1
  cb : col i.qb = k0
  m : q.ac = true → i.mp = some ⟨i.bm, 0, none⟩ ∧ ∃ Sm, MAtP w i.bm q.N q.its q.P Sm ∧ ∀ k, Sm k → col k = k0 + 3
  s : q.ac = true → i.sa = some ⟨i.sb, 0, none⟩ ∧ i.sn = q.sh.length ∧ w.heap[i.sb]? = some (.cells (shV q.sh).toArray 143 (0, 0)) ∧ col i.sb = k0 + 2
section
variable {w w' : World} {col col' : Nat → Nat} {B0 k0 : Nat} {id : Int} {q : Qy} {i : QI} {F : Nat → Prop}
theorem QAtG.lt (h : QAtG w col B0 k0 id q i) : i.qb < w.heap.size := (Array.getElem?_eq_some_iff.1 h.b).1
theorem QAtG.turn (h : QAtG w col B0 k0 id q i) (t : Turn F w w') (hF : ∀ k, F k → col k < k0 ∨ k0 + 3 < col k) : QAtG w' col B0 k0 id q i := by
  refine ⟨(t.block _ h.lt fun e => by have := hF _ e; have := h.cb; omega).trans h.b, mowns_block0 h.o (fun g hg => t.block g (h.o.lt g (by rw [hg]; rfl)).2 fun e => by have := hF _ e; have := h.oc g hg; omega), h.oc, h.cb, fun ha => ?_, fun ha => ?_⟩
  · obtain ⟨h1, Sm, h2, h3⟩ := h.m ha
    exact ⟨h1, Sm, h2.turn t (fun k hk e => by have := hF _ e; have := h3 k hk; omega), h3⟩
  · obtain ⟨h1, h2, h3, h4⟩ := h.s ha
    exact ⟨h1, h2, (t.block _ (Array.getElem?_eq_some_iff.1 h3).1 fun e => by have := hF _ e; omega).trans h3, h4⟩
theorem QAtG.below (h : QAtG w col B0 k0 id q i) (hb : Below w.heap.size w w') : QAtG w' col B0 k0 id q i := h.turn (F := fun _ => False) (Turn.of_below hb) fun k e => e.elim
theorem QAtG.recol (h : QAtG w col B0 k0 id q i) (e : ∀ k, k < w.heap.size → col' k = col k) : QAtG w col' B0 k0 id q i := by
  refine ⟨h.b, h.o, fun g hg => by rw [e g (h.o.lt g (by rw [hg]; rfl)).2]; exact h.oc g hg, by rw [e _ h.lt]; exact h.cb, fun ha => ?_, fun ha => ?_⟩
  · obtain ⟨h1, Sm, h2, h3⟩ := h.m ha
    exact ⟨h1, Sm, h2, fun k hk => by rw [e k (h2.lt k hk)]; exact h3 k hk⟩
  · obtain ⟨h1, h2, h3, h4⟩ := h.s ha
    exact ⟨h1, h2, h3, by rw [e _ (Array.getElem?_eq_some_iff.1 h3).1]; exact h4⟩
end
/-- what else there is stays, and keeps its colour -/
def ExtG (w : World) (col : Nat → Nat) (w' : World) (col' : Nat → Nat) : Prop := Turn (fun k => col k ≠ 9) w w' ∧ ∀ k, k < w.heap.size → col' k = col k
theorem ExtG.refl (w : World) (col : Nat → Nat) : ExtG w col w col := ⟨Turn.refl _ _, fun _ _ => rfl⟩
theorem ExtG.turn {w w' w'' : World} {col col' : Nat → Nat} {F : Nat → Prop} (h : ExtG w col w' col') (t : Turn F w' w'') (hF : ∀ k, F k → col' k ≠ 9) : ExtG w col w'' col' :=
  ⟨h.1.trans' t fun k hk => by
    rcases Nat.lt_or_ge k w.heap.size with e | e
    · exact Or.inl (by rw [← h.2 k e]; exact hF k hk)
    · exact Or.inr e, h.2⟩
theorem ExtG.below {w w' w'' : World} {col col' : Nat → Nat} (h : ExtG w col w' col') (hb : Below w'.heap.size w' w'') : ExtG w col w'' col' := h.turn (F := fun _ => False) (Turn.of_below hb) fun k e => e.elim
theorem ExtG.recol {w w' : World} {col col' col'' : Nat → Nat} (h : ExtG w col w' col') (e : ∀ k, k < w.heap.size → col'' k = col' k) : ExtG w col w' col'' := ⟨h.1, fun k hk => (e k hk).trans (h.2 k hk)⟩
theorem ExtG.trans {w w' w'' : World} {col col' col'' : Nat → Nat} (h : ExtG w col w' col') (k : ExtG w' col' w'' col'') : ExtG w col w'' col'' :=
  ⟨(h.turn k.1 fun _ e => e).1, fun i hi => (k.2 i (Nat.lt_of_lt_of_le hi h.1.size)).trans (h.2 i hi)⟩
def qmG (iq : Nat → QI) (n : Nat) : Int → Option Value := fun k => if 1 ≤ k ∧ k ≤ (n : Int) then some (.pointer (some ⟨(iq (k - 1).toNat).qb, 0, none⟩)) else none
theorem qmG_at (iq : Nat → QI) (n j : Nat) (h : j < n) : qmG iq n ((j + 1 : Nat) : Int) = some (.pointer (some ⟨(iq j).qb, 0, none⟩)) := by
  unfold qmG
  rw [if_pos (by omega), show (((j + 1 : Nat) : Int) - 1).toNat = j by omega]
theorem qmG_congr {iq iq' : Nat → QI} {n : Nat} (h : ∀ j, j < n → (iq' j).qb = (iq j).qb) : qmG iq' n = qmG iq n := by
  funext k
  unfold qmG
  split
  · rw [h _ (by omega)]
  · rfl
theorem qmG_put {iq : Nat → QI} {n : Nat} (x : QI) : vset (qmG iq n) ((n + 1 : Nat) : Int) (some (.pointer (some ⟨x.qb, 0, none⟩))) = qmG (fun j => if j = n then x else iq j) (n + 1) := by
  funext k
  unfold vset qmG
  by_cases e : k = ((n + 1 : Nat) : Int)
  · rw [if_pos e, if_pos (by omega)]; dsimp only; rw [if_pos (by omega)]
  · rw [if_neg e]
    by_cases e2 : 1 ≤ k ∧ k ≤ (n : Int)
    · rw [if_pos e2, if_pos (by omega)]; dsimp only; rw [if_neg (by omega)]
    · rw [if_neg e2, if_neg (by omega)]
/-- a coordinator with its queries in memory -/
structure CoX (B0 : Nat) (w : World) (col : Nat → Nat) (i : CoI) (c : Cfg) (W C : Nat) (s : Cs) (iq : Nat → QI) : Prop where
  g : CoG B0 w col i c W C s.now s.qs.length s.ls s.ss s.M (qmG iq s.qs.length)
  q : ∀ j, j < s.qs.length → QAtG w col B0 (10 + 4 * j) ((j + 1 : Nat) : Int) (s.qs.getD j q0) (iq j)
section
variable {B0 : Nat} {w w' : World} {col col' : Nat → Nat} {i : CoI} {c : Cfg} {W C : Nat} {s : Cs} {iq : Nat → QI} {F : Nat → Prop}
/-- another colouring -/
theorem CoG.cols {now : Int} {n : Nat} {ls : Lt} {ss : Sl} {M : List TM} {f : Int → Option Value} (h : CoG B0 w col i c W C now n ls ss M f) (e : ∀ k, k < w.heap.size → col k ≠ 9 → col' k = col k) :
    (col' i.x = 0 ∧ col' i.ca = 0 ∧ (∀ s, s < c.kn + 1 → col' (i.cw s) = 0) ∧ (0 < c.kn → ∀ b o, i.ka = some ⟨b, o, none⟩ → col' b = 0)) ∧ col' i.bl = 1 ∧ (col' i.bs = 2 ∧ col' i.bo = 2 ∧ col' i.ba = 2) ∧ col' i.bq = 4 := by
  have E : ∀ k, k < w.heap.size → ∀ v, col k = v → v ≠ 9 → col' k = v := fun k hk v hv hn => (e k hk (by rw [hv]; exact hn)).trans hv
  obtain ⟨x0, x1, x2, x3⟩ := h.cx
  have ls := h.S.lt
  refine ⟨⟨E _ (Array.getElem?_eq_some_iff.1 h.box).1 _ x0 (by decide), E _ (lt_of_cell (h.cop 0 (by omega)).1) _ x1 (by decide), fun s hs => ?_, fun h0 b o hb => ?_⟩, E _ h.L.lt _ h.cl (by decide), ⟨E _ ls.1 _ h.cs.1 (by decide), E _ ls.2.1 _ h.cs.2.1 (by decide), E _ ls.2.2 _ h.cs.2.2 (by decide)⟩, E _ h.Q.lt _ h.cq (by decide)⟩
  · rcases Nat.eq_zero_or_pos C with z | z
    · have := h.hC; have := (may_parts h.may).2.2.2.1; omega
    · exact E _ (lt_of_cell ((h.cop s hs).2 0 z)) _ (x2 s hs) (by decide)
  · obtain ⟨b', o', hk, hkc⟩ := h.K.2 h0
    rw [hb] at hk; injection hk with hk; injection hk with k1 k2
    subst k1
    exact E _ (lt_of_cell (hkc 0 h0).1) _ (x3 h0 b o hb) (by decide)
theorem CoG.recol {now : Int} {n : Nat} {ls : Lt} {ss : Sl} {M : List TM} {f : Int → Option Value} (h : CoG B0 w col i c W C now n ls ss M f) (e : ∀ k, k < w.heap.size → col k ≠ 9 → col' k = col k) (e2 : ∀ k, w.heap.size ≤ k → col' k = 9) (e3 : ∀ k, col' k ≠ 9 → B0 ≤ k) : CoG B0 w col' i c W C now n ls ss M f := by
  obtain ⟨St, q, hc⟩ := h.T
  obtain ⟨g1, g2, g3, g4⟩ := h.cols e
  exact { h with
    T := ⟨St, q, fun k hk => (e k ((tq_ok _ _ _).lt q k hk) (by rw [hc k hk]; decide)).trans (hc k hk)⟩
    cx := g1
    cl := g2
    cs := g3
    cq := g4
    lo := e3
    nw := e2 }
theorem newCol_9 {v w : World} {k0 k : Nat} (hn : ∀ k, v.heap.size ≤ k → col k = 9) (h9 : col k ≠ 9) : newCol v w k0 col k = col k := newCol_old (by
  rcases Nat.lt_or_ge k v.heap.size with e | e
  · exact e
  · exact absurd (hn k e) h9)
/-- new blocks get colour k -/
theorem CoG.paintNew {v : World} {now now' : Int} {n n' : Nat} {ls ls' : Lt} {ss ss' : Sl} {M M' : List TM} {f f' : Int → Option Value} (k0 : Nat) (h0 : CoG B0 v col i c W C now n ls ss M f) (h : CoG B0 w col i c W C now' n' ls' ss' M' f') (hs : v.heap.size ≤ w.heap.size) : CoG B0 w (newCol v w k0 col) i c W C now' n' ls' ss' M' f' :=
  h.recol (fun k hk h9 => newCol_9 h0.nw h9) (fun k hk => (newCol_far hk).trans (h.nw k hk)) (fun k hk => by
    by_cases e : v.heap.size ≤ k ∧ k < w.heap.size
    · exact Nat.le_trans h0.hB e.1
    · unfold newCol at hk; rw [if_neg e] at hk; exact h.lo k hk)
theorem CoX.below (h : CoX B0 w col i c W C s iq) (hb : Below w.heap.size w w') : CoX B0 w' col i c W C s iq := ⟨h.g.below hb, fun j hj => (h.q j hj).below hb⟩
theorem CoX.own (h : CoX B0 w col i c W C s iq) (t : Turn F w w') (hF : ∀ k, F k → col k = 9) : CoX B0 w' col i c W C s iq := ⟨h.g.own t (fun k e => by rw [hF k e]; decide), fun j hj => (h.q j hj).turn t (fun k e => by have := hF k e; omega)⟩
theorem CoX.lease {ls' : Lt} (h : CoX B0 w col i c W C s iq) (L' : ThenL i.bl w ls' w') : CoX B0 w' col i c W C { s with ls := ls' } iq := ⟨h.g.lease L', fun j hj => (h.q j hj).turn L'.2.turn (fun k e => by rw [e, h.g.cl]; omega)⟩
theorem CoX.tick (h : CoX B0 w col i c W C s iq) (m : Int) (hm : 0 ≤ m ∧ m ≤ 1000000) : CoX B0 (w.setCell ⟨i.x, 13, none⟩ (.int .i64 m)) col i c W C { s with now := m } iq := ⟨h.g.tick m hm, fun j hj => (h.q j hj).turn (F := fun k => k = i.x) (Turn.setCell rfl) (fun k e => by rw [e, h.g.cx.1]; omega)⟩
theorem CoX.slots {ss' : Sl} (h : CoX B0 w col i c W C s iq) (S' : SlAt w' i.bs i.bo i.ba ss') (t : Turn (slF i.bs i.bo i.ba) w w') : CoX B0 w' col i c W C { s with ss := ss' } iq := ⟨h.g.slots S' t, fun j hj => (h.q j hj).turn t (fun k e => by rw [h.g.hs k e]; omega)⟩
theorem CoG.timers {now : Int} {n : Nat} {ls : Lt} {ss : Sl} {M M' : List TM} {f : Int → Option Value} {St : Nat → Prop} (h : CoG B0 w col i c W C now n ls ss M f) (hc : ∀ k, St k → col k = 3) (p : PO (TQ i.bt 24 M') w St w') : CoG B0 w' (newCol w w' 3 col) i c W C now n ls ss M' f := by
  obtain ⟨S', q, hs, t⟩ := p
  have hF : ∀ k, St k → ∀ v, v ≠ 3 → col k ≠ v := fun k hk v hv => by rw [hc k hk]; exact fun e => hv e.symm
  obtain ⟨g1, g2, g3, g4⟩ := h.cols (col' := newCol w w' 3 col) (fun k hk h9 => newCol_old hk)
  exact { h with
    box := (t.block i.x (Array.getElem?_eq_some_iff.1 h.box).1 fun e => hF _ e 0 (by decide) h.cx.1).trans h.box
    cop := h.cop.turn t (fun e => hF _ e 0 (by decide) h.cx.2.1) (fun s hs e => hF _ e 0 (by decide) (h.cx.2.2.1 s hs))
    K := holdsK_turnF h.K t (fun h0 b o ha e => hF _ e 0 (by decide) (h.cx.2.2.2 h0 b o ha))
    L := h.carL t fun k e => hF k e 1 (by decide)
    S := h.carS t fun k e => hF k e 2 (by decide)
    T := ⟨S', q, fun k hk => by
      by_cases e : w.heap.size ≤ k
      · exact newCol_new e ((tq_ok _ _ _).lt q k hk)
      · rcases hs k hk with h1 | h1
        · rw [newCol_old (by omega)]; exact hc k h1
        · omega⟩
    Q := h.carQ t fun k e => hF k e 4 (by decide)
    cx := g1
    cl := g2
    cs := g3
    cq := g4
    lo := fun k hk => by
      by_cases e : w.heap.size ≤ k ∧ k < w'.heap.size
      · exact Nat.le_trans h.hB e.1
      · unfold newCol at hk; rw [if_neg e] at hk; exact h.lo k hk
    nw := fun k hk => (newCol_far hk).trans (h.nw k (Nat.le_trans t.size hk))
    hB := Nat.le_trans h.hB t.size }
theorem CoX.timers {M' : List TM} {St : Nat → Prop} (h : CoX B0 w col i c W C s iq) (hc : ∀ k, St k → col k = 3) (p : PO (TQ i.bt 24 M') w St w') : CoX B0 w' (newCol w w' 3 col) i c W C { s with M := M' } iq ∧ ExtG w col w' (newCol w w' 3 col) :=
  ⟨⟨h.g.timers hc p, fun j hj => ((h.q j hj).recol (fun k hk => newCol_old hk)).turn p.turn (fun k e => by have := hc k e; unfold newCol; split <;> omega)⟩, ⟨p.turn.mono (fun k e => by rw [hc k e]; decide), fun k hk => newCol_old hk⟩⟩
end
end Go.Proofs.YtblipdmagfiigaaGreat
namespace Go.Proofs.YtblipdmagfiigaaGreat
open Go.RowKit
set_option linter.unusedVariables false
set_option maxRecDepth 20000
/-- letters -/
abbrev LT := Int × TypeId × Value
def ltV : List LT → List Value
  | [] => []
  | x :: l => .int .i64 x.1 :: .iface x.2.1 x.2.2 :: ltV l
theorem ltV_len : ∀ l : List LT, (ltV l).length = l.length * 2
  | [] => rfl
  | x :: l => by simp only [ltV, List.length_cons, ltV_len l]; omega
theorem ltV_app : ∀ k l : List LT, ltV (k ++ l) = ltV k ++ ltV l
  | [], l => rfl
  | x :: k, l => by simp only [List.cons_append, ltV, ltV_app k l]
theorem ltV_one : ∀ (l : List LT), ∀ u ∈ ltV l, u.oneCell' = true
  | [], u, h => by cases h
  | x :: l, u, h => by
    simp only [ltV, List.mem_cons] at h
    rcases h with rfl | rfl | h
    · rfl
    · rfl
    · exact ltV_one l u h
def updI (iq : Nat → QI) (j : Nat) (x : QI) : Nat → QI := fun k => if k = j then x else iq k
theorem timerOf_any (a b : Nat) (w : World) (h : a ≤ 100 ∧ b ≤ 100) : Calls Tryz.prog 62 #[.int .i64 (a : Int), .int .i64 (b : Int)] w fun e w' => e = .returned (.int .i64 ((6 * a + b : Nat) : Int)) ∧ w = w' := by
  have e1 : IntKind.i64.wrap (6 * (a : Int)) = ((6 * a : Nat) : Int) := by rw [IntKind.wrap_i64]; omega
  have e2 : IntKind.i64.wrap (((6 * a : Nat) : Int) + (b : Int)) = ((6 * a + b : Nat) : Int) := by rw [IntKind.wrap_i64]; omega
  generalize ((6 * a : Nat) : Int) = y at *
  generalize ((6 * a + b : Nat) : Int) = z at *
  clear h
  go_enter Tryz.func62, Tryz.ntmps62
  go_wp2_with fail
  go_ret
  exact ⟨by first | rfl | simp only [e1, e2], rfl⟩
/-- the first k timers of a slot are taken away -/
def cutAll (si : Nat) : Nat → List TM → List TM
  | 0, M => M
  | k + 1, M => cutM (cutAll si k M) ((6 * si + k : Nat) : Int)
def stops (si : Nat) (id : Int) (k : Nat) : List LT := (List.range k).map fun v => (((v + 1 : Nat) : Int), 135, .agg #[.int .i64 (si : Int), .int .i64 id])
theorem stops_succ (si : Nat) (id : Int) (k : Nat) : stops si id (k + 1) = stops si id k ++ [(((k + 1 : Nat) : Int), 135, .agg #[.int .i64 (si : Int), .int .i64 id])] := by
  unfold stops; rw [List.range_succ, List.map_append]; rfl
theorem stops_len (si : Nat) (id : Int) (k : Nat) : (stops si id k).length = k := by simp [stops]
def offQ (q : Qy) : Qy := { q with ac := false, P := [], sh := [] }
def finC (c : Cfg) (si j : Nat) (s : Cs) : Cs := { s with M := cutAll si (c.kn + 1) s.M, ss := freeS s.ss (some si), qs := s.qs.set j (offQ (s.qs.getD j q0)) }
section
variable {B0 : Nat} {w w' : World} {col col' : Nat → Nat} {i : CoI} {c : Cfg} {W C : Nat} {s : Cs} {iq : Nat → QI} {F : Nat → Prop}
theorem CoX.query (h : CoX B0 w col i c W C s iq) (j : Nat) (hj : j < s.qs.length) (t : Turn F w w') (hF : ∀ k, F k → 10 + 4 * j ≤ col k ∧ col k ≤ 13 + 4 * j) (q' : Qy) (x' : QI) (hx : x'.qb = (iq j).qb) (hq : QAtG w' col B0 (10 + 4 * j) ((j + 1 : Nat) : Int) q' x') : CoX B0 w' col i c W C { s with qs := s.qs.set j q' } (updI iq j x') := by
  have hl : (s.qs.set j q').length = s.qs.length := List.length_set
  have hm : qmG (updI iq j x') s.qs.length = qmG iq s.qs.length := qmG_congr fun k hk => by
    unfold updI; split
    · rename_i e; rw [e]; exact hx
    · rfl
  refine ⟨?_, fun k hk => ?_⟩
  · have g := h.g.own t (fun k e => by have := hF k e; omega)
    dsimp only
    rw [hl, hm]
    exact g
  · dsimp only at hk ⊢
    rw [hl] at hk
    by_cases e : k = j
    · subst e
      rw [show (s.qs.set k q').getD k q0 = q' by simp [List.getD_eq_getElem?_getD, hj], show updI iq k x' k = x' from if_pos rfl]
      exact hq
    · rw [show (s.qs.set j q').getD k q0 = s.qs.getD k q0 by rw [List.getD_eq_getElem?_getD, List.getElem?_set_ne (fun x => e x.symm), List.getD_eq_getElem?_getD], show updI iq j x' k = iq k from if_neg e]
      exact (h.q k hk).turn t (fun b hb => by have := hF b hb; omega)
/-- what a call gives: letters of its own, and the coordinator behind it -/
def RetC (B0 : Nat) (w : World) (col : Nat → Nat) (i : CoI) (c : Cfg) (W C : Nat) (s' : Cs) (lts : List LT) (e : Ending) (w' : World) : Prop :=
  ∃ col' iq' a cc, e = .returned (.slice a lts.length cc) ∧ CoX B0 w' col' i c W C s' iq' ∧ ExtG w col w' col' ∧ w'.ownsRow w.heap.size 68 2 (.slice a lts.length cc) lts.length (ltV lts) ∧ ∀ g, a = some ⟨g, 0, none⟩ → col' g = 9
theorem base_less24 {w : World} {B B' : Nat} {e : TypeId} {size n : Nat} {v : Value} {xs : List Value} (h : w.ownsRow B e size v n xs) (hB : B' ≤ B) : w.ownsRow B' e size v n xs := by
  refine ⟨h.1, ?_⟩
  rcases h.2 with h1 | ⟨g, cap, cur, hv, hge, r⟩
  · exact Or.inl h1
  · exact Or.inr ⟨g, cap, cur, hv, Nat.le_trans hB hge, r⟩
theorem lett_new (w : World) (a : Int) (t : TypeId) (v : Value) (e : TypeId) (fr : Nat × Nat) : ∀ ad, (some ⟨w.heap.size, 0, none⟩ : Option Addr) = some ad → ∀ j u, (ltV [(a, t, v)])[j]? = some u → (w.alloc (.cells #[.int .i64 a, .iface t v] e fr)).cell? (ad.add j) = some u := by
  intro ad e1 j u hu
  injection e1 with e1
  subst e1
  exact World.news_of_block (cs := #[.int .i64 a, .iface t v]) (heap_alloc_new w _) j u hu
set_option maxRecDepth 100000 in
set_option maxHeartbeats 3200000 in
theorem gFinish_any (si j : Nat) (w : World) (h : CoX B0 w col i c W C s iq) (hj : j < s.qs.length) (hs : SlGood s.ss) (hsi : SlotOf s.ss ((j + 1 : Nat) : Int) (some si)) (hn : s.qs.length ≤ 1000000) (hW : W ≤ 5) : Calls Tryz.prog 36 #[.pointer (some ⟨i.x, 0, none⟩), .int .i64 ((j + 1 : Nat) : Int)] w (RetC B0 w col i c W C (finC c si j s) (stops si ((j + 1 : Nat) : Int) W)) := by
  obtain ⟨i0, hi, hz0, hz1, hz2⟩ := info_parts letter_infoG
  obtain ⟨id, hid⟩ : ∃ z : Int, ((j + 1 : Nat) : Int) = z := ⟨_, rfl⟩
  have HID := Lib.hid hid
  have wf : wfI id := by unfold wfI; exact wf64 (by omega)
  rw [hid] at hsi
  rw [hid]
  have hs4 : si < 4 := by have := hsi.1; have := hs.n4; omega
  have HS4 := Lib.hid (show si < 4 ∧ c.kn ≤ 5 ∧ W ≤ 5 from ⟨hs4, h.g.hk, hW⟩)
  have COf := Lib.hid (show Calls Tryz.prog 35 #[.pointer (some ⟨i.bs, 0, none⟩), .int .i64 id] w fun e w' => e = .returned (.tuple #[.int .i64 (si : Int), .bool true]) ∧ w = w' from of_any i.bs i.bo i.ba id (some si) w h.g.S wf hsi)
  have CX := Lib.hid h
  have SG := Lib.hid hs
  have SI := Lib.hid hsi
  have HJ := Lib.hid hj
  have x15 : w.cell? ⟨i.x, 15, none⟩ = some (.pointer (some ⟨i.bs, 0, none⟩)) := co_cell h.g.box rfl
  have x12 : w.cell? ⟨i.x, 12, none⟩ = some (.slice (some ⟨i.ca, 0, none⟩) (c.kn + 1) i.cc) := co_cell h.g.box rfl
  clear h hs hsi hn hW hj hs4 hid
  go_enter Tryz.func36, Tryz.ntmps36
  go_wp2_with fail
  refine COf.out.mono ?_
  rintro e w2 ⟨rfl, rfl⟩
  go_wp2_with fail
  go_loopw [7, 24] (fun sv iv wr => ∃ k : Nat, k ≤ c.kn + 1 ∧ iv = .int .i64 k ∧ ∃ col', Hid (CoX B0 wr col' i c W C { s with M := cutAll si k s.M } iq ∧ ExtG w col wr col')) (fun _ iv _ => c.kn + 1 - (intOf iv).toNat)
  case atStart => exact ⟨0, by omega, rfl, col, Lib.hid ⟨CX.out, ExtG.refl _ _⟩⟩
  case round =>
    obtain ⟨k, hk, rfl, col1, hC⟩ := hrel
    by_cases hlt : k < c.kn + 1
    · obtain ⟨St, hT, hTc⟩ := hC.out.1.g.T
      have TT := Lib.hid ((tq_ok _ _ _).below hT (Below.refl _ _).drew)
      have TC := Lib.hid hTc
      have CC := Lib.hid (tCancel_any i.bt 24 _ ((6 * si + k : Nat) : Int) St wr.drew TT.out)
      have CD := Lib.hid (hC.out.1.below (Below.refl _ _).drew)
      have CTi := Lib.hid (timerOf_any si k wr.drew (by have := HS4.out; omega))
      have S0 := Lib.hid (show wr.drew.cell? ⟨i.x, 16, none⟩ = some (.pointer (some ⟨i.bt, 0, none⟩)) from co_cell CD.out.g.box rfl)
      clear hT hTc
      have ek : IntKind.i64.wrap ((k : Int) + 1) = ((k + 1 : Nat) : Int) := by have := HS4.out; rw [IntKind.wrap_i64]; omega
      go_upto_region 5 with fail
      go_region_held3 (fun w' => w'.cell? ⟨i.x, 16, none⟩ = some (.pointer (some ⟨i.bt, 0, none⟩)))
        (first | assumption | exact S0.out)
        (first
          | (go_at_call 62; refine CTi.out.mono ?_; rintro e w2 ⟨rfl, rfl⟩)
          | (go_at_call 61; refine CC.out.mono ?_; rintro e w3 ⟨rfl, hP⟩; have S3 : w3.cell? ⟨i.x, 16, none⟩ = some (.pointer (some ⟨i.bt, 0, none⟩)) := co_cell (CD.out.timers TC.out hP).1.g.box rfl))
      have MM := Lib.hid (show CoX B0 w3 (newCol wr.drew w3 3 col1) i c W C { s with M := cutAll si (k + 1) s.M } iq ∧ ExtG w col w3 (newCol wr.drew w3 3 col1) from ⟨(CD.out.timers TC.out hP).1, (hC.out.2.below (Below.refl _ _).drew).trans (CD.out.timers TC.out hP).2⟩)
      clear hP S3
      go_wp2_with fail
      go_roundw
      case rel => exact ⟨k + 1, by omega, by first | rfl | simp [ek], _, MM⟩
      case measure => simp [intOf]; omega
    · obtain rfl : k = c.kn + 1 := by omega
      have CF := Lib.hid (free_any i.bs i.bo i.ba id (some si) wr hC.out.1.g.S SG.out wf SI.out)
      have x15 : wr.cell? ⟨i.x, 15, none⟩ = some (.pointer (some ⟨i.bs, 0, none⟩)) := co_cell hC.out.1.g.box rfl
      go_wp2_with fail
      refine CF.out.mono ?_
      rintro e w4 ⟨rfl, hS4, hT4⟩
      have C4 := Lib.hid (hC.out.1.slots hS4 hT4)
      have E4 := Lib.hid (hC.out.2.turn hT4 (fun b e => by rw [hC.out.1.g.hs b e]; decide))
      clear hS4 hT4 CF x15 hC COf x12
      have Q4 := Lib.hid (C4.out.q j HJ.out)
      obtain ⟨x, hx⟩ : ∃ x, iq j = x := ⟨_, rfl⟩
      obtain ⟨q, hq⟩ : ∃ q, s.qs.getD j q0 = q := ⟨_, rfl⟩
      have HX := Lib.hid hx; have HQ := Lib.hid hq
      have Q4b : QAtG w4 col1 B0 (10 + 4 * j) id q x := by rw [← HQ.out, ← HX.out, ← HID.out]; exact Q4.out
      have Q5 := Lib.hid Q4b
      have x17 : w4.cell? ⟨i.x, 17, none⟩ = some (.map (some i.bq)) := co_cell C4.out.g.box rfl
      have MQ := Lib.hid (show MapV w4 i.bq s.qs.length (qmG iq s.qs.length) from C4.out.g.Q)
      have FQ := Lib.hid (show qmG iq s.qs.length id = some (.pointer (some ⟨x.qb, 0, none⟩)) from by rw [← HID.out, ← HX.out]; exact qmG_at iq _ j HJ.out)
      have y7 : w4.cell? ⟨x.qb, 7, none⟩ = some (.pointer x.mp) := co_cell Q5.out.b rfl
      have z7 := co_fz Q5.out.b 7
      clear hx hq Q4b
      go_upto_region 9 with (first | (at_lookup; refine wpList_get_mv mapTq rfl (.tmp 45) (.tmp 46) rfl rfl MQ.out id rfl wf (.pointer (some ⟨x.qb, 0, none⟩)) (by rw [FQ.out]; rfl) ?_) | fail)
      have K5 := Lib.hid (show (w4.setCell ⟨x.qb, 7, none⟩ (.pointer none)).heap[x.qb]? = some (.cells (quG id (offQ q) { x with mp := none }) 96 (0, 0)) from by rw [Go.heap_setCell_same w4 x.qb 7 _ _ (.pointer none) Q5.out.b]; rfl)
      have T5 := Lib.hid (show Turn (fun k => k = x.qb) w4 (w4.setCell ⟨x.qb, 7, none⟩ (.pointer none)) from Turn.setCell rfl)
      have CQB := Lib.hid Q5.out.cb
      have X5 := Lib.hid (show (w4.setCell ⟨x.qb, 7, none⟩ (.pointer none)).cell? ⟨i.x, 17, none⟩ = some (.map (some i.bq)) from (cset_far (fun e => by have h1 := CQB.out; have h2 := C4.out.g.cx.1; first | (rw [e] at h1; omega) | (rw [e] at h2; omega))).trans x17)
      clear x17 y7 z7
      generalize w4.setCell ⟨x.qb, 7, none⟩ (.pointer none) = w5 at *
      have x17 := X5.out
      have M5 := Lib.hid (MQ.out.turn T5.out (fun e => by have := CQB.out; have := C4.out.g.cq; rw [e] at this; omega))
      have y8 : w5.cell? ⟨x.qb, 8, none⟩ = some (.slice x.sa x.sn x.sc) := co_cell K5.out rfl
      have z8 := co_fz K5.out 8
      go_upto_region 10 with (first | (at_lookup; refine wpList_get_mv mapTq rfl (.tmp 53) (.tmp 54) rfl rfl M5.out id rfl wf (.pointer (some ⟨x.qb, 0, none⟩)) (by rw [FQ.out]; rfl) ?_) | fail)
      have K6 : (w5.setCell ⟨x.qb, 8, none⟩ (.slice none 0 0)).heap[x.qb]? = some (.cells (quG id (offQ q) { x with mp := none, sa := none, sn := 0, sc := 0 }) 96 (0, 0)) := by rw [Go.heap_setCell_same w5 x.qb 8 _ _ (.slice none 0 0) K5.out]; rfl
      have t6 : Turn (fun k => k = x.qb) w4 (w5.setCell ⟨x.qb, 8, none⟩ (.slice none 0 0)) := T5.out.trans (Turn.setCell rfl)
      have Q6 : QAtG (w5.setCell ⟨x.qb, 8, none⟩ (.slice none 0 0)) col1 B0 (10 + 4 * j) id (offQ q) { x with mp := none, sa := none, sn := 0, sc := 0 } :=
        ⟨K6, mowns_block0 Q5.out.o (fun g hg => t6.block g (Q5.out.o.lt g (by rw [hg]; rfl)).2 fun e => by have := CQB.out; have := Q5.out.oc g hg; rw [e] at this; omega), Q5.out.oc, CQB.out, fun e => by (cases e), fun e => by (cases e)⟩
      have C6 := Lib.hid (show CoX B0 (w5.setCell ⟨x.qb, 8, none⟩ (.slice none 0 0)) col1 i c W C (finC c si j s) (updI iq j { x with mp := none, sa := none, sn := 0, sc := 0 }) from by
        have h := C4.out.query j HJ.out t6 (fun k e => by have := CQB.out; rw [e]; omega) (offQ q) { x with mp := none, sa := none, sn := 0, sc := 0 } (by rw [HX.out]) (by rw [HID.out]; exact Q6)
        unfold finC
        rw [HQ.out]
        exact h)
      have E6 := Lib.hid (E4.out.turn t6 (fun k e => by have := CQB.out; rw [e]; omega))
      clear K6 t6 Q6 x17 y8 z8 M5 X5 T5 K5 MQ FQ C4 E4
      generalize w5.setCell ⟨x.qb, 8, none⟩ (.slice none 0 0) = w6 at *
      have x2 : w6.cell? ⟨i.x, 2, none⟩ = some (.int .i64 (W : Int)) := by rw [← C6.out.g.hW]; exact co_cell C6.out.g.box rfl
      have HZ := Lib.hid (show w.heap.size ≤ w6.heap.size from E6.out.1.size)
      go_wp2_with fail
      go_loopw [8, 9, 63] (fun ov vv iv wr => ∃ k : Nat, k ≤ W ∧ iv = .int .i64 k ∧ ∃ a cc, ov = .slice a k cc ∧ Hid (Below w6.heap.size w6 wr ∧ wr.ownsRow w6.heap.size 68 2 (.slice a k cc) k (ltV (stops si id k)))) (fun _ _ iv _ => W - (intOf iv).toNat)
      case atStart => exact ⟨0, by omega, rfl, none, 0, rfl, Lib.hid ⟨Below.refl _ _, World.ownsRow_nil _ _ _ _⟩⟩
      case round =>
        obtain ⟨k, hk, rfl, a, cc, rfl, hR⟩ := hrel
        by_cases hlt : k < W
        · have HO := Lib.hid hR.out.2
          have HB := Lib.hid hR.out.1
          have e1 : IntKind.i64.wrap ((k : Int) + 1) = ((k + 1 : Nat) : Int) := by have := HS4.out; rw [IntKind.wrap_i64]; omega
          have HK := Lib.hid (show k < 5 from by have := HS4.out; omega)
          go_wp2_with (at_builtin; refine wpList_append_any rfl (.tmp 66) (.tmp 74) 32 rfl w6.heap.size 68 i0 _ 2 24 Tryz.underlying32 hi hz0 hz1 hz2 rfl (by decide) _ k (ltV (stops si id k)) rfl (owns_below HO.out (below_one _ _)) _ 1 1 (ltV [(((k + 1 : Nat) : Int), 135, .agg #[.int .i64 (si : Int), .int .i64 id])]) rfl (some_none _) rfl (lett_new _ _ _ _ _ _) (ltV_one _) (by have := HK.out; unfold maxLen; omega) (by have := HK.out; omega) (by have := HB.out.size; simp; omega) ?_; intro a5 c5 w7 hown7 hb7 hnil7)
          have RR := Lib.hid (show Below w6.heap.size w6 w7 ∧ w7.ownsRow w6.heap.size 68 2 (.slice a5 (k + 1) c5) (k + 1) (ltV (stops si id (k + 1))) from ⟨(HB.out.alloc (by have := HB.out.size; omega) _).trans hb7, by rw [stops_succ, ltV_app]; exact hown7⟩)
          clear hown7 hb7 hnil7
          go_wp2_with fail
          go_roundw
          case rel => exact ⟨k + 1, by omega, by simp, a5, c5, rfl, RR⟩
          case measure => simp [intOf]; omega
        · obtain rfl : k = W := by omega
          have FIN := Lib.hid (show RetC B0 w col i c k C (finC c si j s) (stops si id k) (.returned (.slice a k cc)) wr from by
            refine ⟨col1, _, a, cc, by rw [stops_len], C6.out.below hR.out.1, E6.out.below hR.out.1, by rw [stops_len]; exact base_less24 hR.out.2 HZ.out, fun g hg => ?_⟩
            have := hR.out.2.lt g (by rw [hg]; rfl)
            exact C6.out.g.nw g this.1)
          go_wp2_with fail
          go_ret
          exact FIN.out
end
end Go.Proofs.YtblipdmagfiigaaGreat
namespace Go.Proofs.YtblipdmagfiigaaGreat
open Go.RowKit
set_option linter.unusedVariables false
set_option maxRecDepth 20000
/-- append onto a row of the call's own, from whatever slice: where the row lies -/
theorem wp_append_at {P : Program} {w : World} {o : Oper} {a : Act} {K : Act → World → Prop} {Q : Exit → Act → World → Prop} (s x : Operand) (t : TypeId)
    (ho : o.op = .call { callee := .builtin .append, args := #[s, x], argTypes := #[t, t] })
    (base : Nat) (e : TypeId) (i : TypeInfo) (z : Value) (size bytes : Nat) (ht : P.underlying t = some (.slice e)) (hi : P.info? e = some i) (hz : i.zero = some z)
    (hsize : i.size = size) (hby : i.bytes = bytes) (hzs : z.cells.size = size) (hsz : 0 < size)
    (a0 : Option Addr) (n c0 : Nat) (xs : List Value) (hs : a.eval s = .slice a0 n c0) (hown : w.ownsRow base e size (.slice a0 n c0) n xs)
    (ao : Option Addr) (m c : Nat) (news : List Value) (hx : a.eval x = .slice ao m c) (hnone : ao = none → m = 0 ∧ c = 0) (hl : news.length = m * size)
    (hnews : ∀ ad, ao = some ad → ∀ j u, news[j]? = some u → w.cell? (ad.add j) = some u) (h1 : ∀ u ∈ news, u.oneCell' = true)
    (h63 : n + m ≤ maxLen) (hbytes : (n + m) * bytes ≤ 140737488355328) (hbase : base ≤ w.heap.size)
    (h : ∀ a' c' w', w'.ownsRow base e size (.slice a' (n + m) c') (n + m) (xs ++ news) → w.grownBy w' (Value.slice a0 n c0).ownBlock → (∀ g, a' = some ⟨g, 0, none⟩ → a0 = some ⟨g, 0, none⟩ ∨ g = w.heap.size) → K (a.put o.dst (.slice a' (n + m) c')) w') : o.wp P a w K Q := by
  cases ao with
  | some ad =>
    obtain ⟨v', w', hr, h2, h3, _, h5⟩ := run_append_own_at (P := P) w base t o.type e i z size bytes ht hi hz hsize hby hzs hsz _ n xs hown ad m c news hl (hnews ad rfl) h1 h63 hbytes hbase
    unfold Oper.wp execOp
    simp only [ho, resolve, invoke, builtin, Sem.run_bind, Sem.run_pure, Result.andThen_ok, List.map_toArray, List.map_cons, List.map_nil, hs, hx, hr]
    rcases Joins.ownsRow_forms h2 with ⟨rfl, h0⟩ | ⟨g, cap, rfl⟩
    · have := h none 0 w' (by rw [h0] at h2 ⊢; exact h2) h3 (fun g e => by cases e)
      rw [h0] at this
      exact this
    · refine h _ _ w' h2 h3 fun g' e' => ?_
      injection e' with e'; injection e' with e'
      subst e'
      rcases h5 with h5 | h5
      · left
        rcases Joins.ownsRow_forms hown with ⟨e2, _⟩ | ⟨g2, cap2, e2⟩
        · rw [e2] at h5; cases h5
        · injection e2 with e2; rw [e2] at h5 ⊢; simp only [Value.ownBlock, Option.some.injEq] at h5; rw [h5]
      · right
        simpa [Value.ownBlock] using h5
  | none =>
    obtain ⟨rfl, rfl⟩ := hnone rfl
    have hn : news = [] := List.eq_nil_of_length_eq_zero (by simpa using hl)
    subst hn
    have hr := run_append_owned_none w base t o.type e i size ht hi _ n xs hown
    unfold Oper.wp execOp
    simp only [ho, resolve, invoke, builtin, Sem.run_bind, Sem.run_pure, Result.andThen_ok, List.map_toArray, List.map_cons, List.map_nil, hs, hx, hr]
    exact h a0 c0 w (by simpa using hown) ⟨rfl, rfl, rfl, Nat.le_refl _, fun _ _ _ => rfl⟩ (fun g e => Or.inl e)
theorem step_append_at {P : Program} {w : World} {ops : Array Oper} {o : Oper} {a : Act} {K : Act → World → Prop} {Q : Exit → Act → World → Prop} {E : Prop} (hgd : o.guard = none) (s x : Operand) (t : TypeId)
    (ho : o.op = .call { callee := .builtin .append, args := #[s, x], argTypes := #[t, t] })
    (base : Nat) (e : TypeId) (i : TypeInfo) (z : Value) (size bytes : Nat) (ht : P.underlying t = some (.slice e)) (hi : P.info? e = some i) (hz : i.zero = some z)
    (hsize : i.size = size) (hby : i.bytes = bytes) (hzs : z.cells.size = size) (hsz : 0 < size)
    (a0 : Option Addr) (n c0 : Nat) (xs : List Value) (hs : a.eval s = .slice a0 n c0) (hown : w.ownsRow base e size (.slice a0 n c0) n xs)
    (ao : Option Addr) (m c : Nat) (news : List Value) (hx : a.eval x = .slice ao m c) (hnone : ao = none → m = 0 ∧ c = 0) (hl : news.length = m * size)
    (hnews : ∀ ad, ao = some ad → ∀ j u, news[j]? = some u → w.cell? (ad.add j) = some u) (h1 : ∀ u ∈ news, u.oneCell' = true)
    (h63 : n + m ≤ maxLen) (hbytes : (n + m) * bytes ≤ 140737488355328) (hbase : base ≤ w.heap.size)
    (h : ∀ a' c' w', w'.ownsRow base e size (.slice a' (n + m) c') (n + m) (xs ++ news) → w.grownBy w' (Value.slice a0 n c0).ownBlock → (∀ g, a' = some ⟨g, 0, none⟩ → a0 = some ⟨g, 0, none⟩ ∨ g = w.heap.size) → K (a.put o.dst (.slice a' (n + m) c')) w') :
    if Region.wanted o (yielded ops a.tmps) = true then Oper.wp P o a w K Q else E := by
  have hw : Region.wanted o (yielded ops a.tmps) = true := by simp [Region.wanted, hgd]
  rw [if_pos hw]
  exact wp_append_at s x t ho base e i z size bytes ht hi hz hsize hby hzs hsz a0 n c0 xs hs hown ao m c news hx hnone hl hnews h1 h63 hbytes hbase h
theorem own_newsG {w : World} {B : Nat} {e : TypeId} {size n c : Nat} {a : Option Addr} {xs : List Value} (h : w.ownsRow B e size (.slice a n c) n xs) : ∀ ad, a = some ad → ∀ j u, xs[j]? = some u → w.cell? (ad.add j) = some u := by
  intro ad ha j u hu
  rcases Joins.ownsRow_forms h with ⟨e2, h0⟩ | ⟨g2, cap2, e2⟩
  · injection e2 with e2; rw [e2] at ha; cases ha
  · injection e2 with e2
    rw [e2] at ha h; injection ha with ha
    subst ha
    exact h.cells (g := g2) rfl j u hu
theorem own_noneG {w : World} {B : Nat} {e : TypeId} {size n c : Nat} {a : Option Addr} {xs : List Value} (h : w.ownsRow B e size (.slice a n c) n xs) : a = none → n = 0 ∧ c = 0 := (owns_none h).1
theorem keysV_oneG : ∀ l : List KV, ∀ u ∈ keysV l, u.oneCell' = true := keysV_one
/-- what a merge tells: so many more of both -/
theorem tellF_more (most : Int) : ∀ (f : Nat) (T : List KV) (P : List SM) (out : List KV), ∃ x P', x.length ≤ f ∧ P'.length = P.length ∧ tellF most f T P out = (T ++ x, P', out ++ x)
  | 0, T, P, out => ⟨[], P, Nat.le_refl _, rfl, by simp [tellF]⟩
  | f + 1, T, P, out => by
    unfold tellF
    split
    · exact ⟨[], P, by simp, rfl, by simp⟩
    · split
      · exact ⟨[], P, by simp, rfl, by simp⟩
      · split
        · exact ⟨[], P, by simp, rfl, by simp⟩
        · obtain ⟨x, P', h1, h2, h3⟩ := tellF_more most f (T ++ [(firstL (headsN P P.length)).2]) (P.set (firstL (headsN P P.length)).1 (popS (P.getD (firstL (headsN P P.length)).1 sm0))) (out ++ [(firstL (headsN P P.length)).2])
          exact ⟨(firstL (headsN P P.length)).2 :: x, P', by simpa using h1, by rw [h2]; simp, by rw [h3]; simp⟩
def TellG (w : World) (b : Nat) (most : Int) (S : Nat → Prop) (T' : List KV) (P' : List SM) (out : List KV) (e : Ending) (w' : World) : Prop :=
  ∃ oa oc S', e = .returned (.slice oa out.length oc) ∧ MAtP w' b most T' P' S' ∧ w'.ownsRow w.heap.size 71 2 (.slice oa out.length oc) out.length (keysV out) ∧ (∀ k, S' k → S k ∨ w.heap.size ≤ k) ∧ Turn S w w'
theorem mtell_g (T' : List KV) (P' : List SM) (out : List KV) {b : Nat} {most : Int} {T : List KV} {P : List SM} {S : Nat → Prop} (w : World) (h : MAtP w b most T P S) (hl : P.length ≤ 1000) (hm : most ≤ 10) (hT : T.length ≤ 1000)
    (hR : tellF most 10 T P [] = (T', P', out)) :
    Calls Tryz.prog 59 #[.pointer (some ⟨b, 0, none⟩)] w (TellG w b most S T' P' out) := by
  obtain ⟨L, m, e⟩ := h
  subst e
  rw [List.length_map] at hl
  have := mtell_any 10 b w m hl (by omega) (by omega) hT
  rw [hR] at this
  exact this.mono fun e w' ⟨oa, oc, L', S', e1, t, e2⟩ => ⟨oa, oc, S', e1, ⟨L', t.m, e2⟩, t.o, t.s, t.t⟩
theorem mdone_g (z : Bool) {b : Nat} {most : Int} {T : List KV} {P : List SM} {S : Nat → Prop} (w : World) (h : MAtP w b most T P S) (hl : P.length ≤ 1000) (hz : doneB most T P = z) :
    Calls Tryz.prog 60 #[.pointer (some ⟨b, 0, none⟩)] w fun e w' => e = .returned (.bool z) ∧ Below w.heap.size w w' := by
  obtain ⟨L, m, e⟩ := h
  subst e
  rw [List.length_map] at hl
  rw [done_spl] at hz
  exact mdone_any z b w m hl hz
section
variable {B0 : Nat} {w w' : World} {col col' : Nat → Nat} {i : CoI} {c : Cfg} {W C : Nat} {s : Cs} {iq : Nat → QI} {F : Nat → Prop}
/-- query j becomes another, with new blocks -/
theorem CoX.query2 (h : CoX B0 w col i c W C s iq) (j : Nat) (hj : j < s.qs.length) (t : Turn F w w') (hF : ∀ k, F k → k < w.heap.size → 10 + 4 * j ≤ col k ∧ col k ≤ 13 + 4 * j) (he : ∀ k, k < w.heap.size → col' k = col k) (hn : ∀ k, w'.heap.size ≤ k → col' k = 9) (hlo : ∀ k, col' k ≠ 9 → B0 ≤ k)
    (q' : Qy) (x' : QI) (hx : x'.qb = (iq j).qb) (hq : QAtG w' col' B0 (10 + 4 * j) ((j + 1 : Nat) : Int) q' x') : CoX B0 w' col' i c W C { s with qs := s.qs.set j q' } (updI iq j x') := by
  have hl : (s.qs.set j q').length = s.qs.length := List.length_set
  have hm : qmG (updI iq j x') s.qs.length = qmG iq s.qs.length := qmG_congr fun k hk => by
    unfold updI; split
    · rename_i e; rw [e]; exact hx
    · rfl
  have t' : Turn (fun k => F k ∧ k < w.heap.size) w w' := ⟨t.os, t.tape, t.output, t.size, fun k hk hn => t.block k hk fun e => hn ⟨e, hk⟩⟩
  refine ⟨?_, fun k hk => ?_⟩
  · have g := (h.g.own t' (fun k e => by have := hF k e.1 e.2; omega)).recol (col' := col') (fun k hk h9 => by
      rcases Nat.lt_or_ge k w.heap.size with e | e
      · exact he k e
      · exact absurd (h.g.nw k e) h9) hn hlo
    dsimp only
    rw [hl, hm]
    exact g
  · dsimp only at hk ⊢
    rw [hl] at hk
    by_cases e : k = j
    · subst e
      rw [show (s.qs.set k q').getD k q0 = q' by simp [List.getD_eq_getElem?_getD, hj], show updI iq k x' k = x' from if_pos rfl]
      exact hq
    · rw [show (s.qs.set j q').getD k q0 = s.qs.getD k q0 by rw [List.getD_eq_getElem?_getD, List.getElem?_set_ne (fun x => e x.symm), List.getD_eq_getElem?_getD], show updI iq j x' k = iq k from if_neg e]
      exact ((h.q k hk).recol he).turn t' (fun b hb => by have := hF b hb.1 hb.2; rw [he b hb.2]; omega)
end
open Classical in
noncomputable def colP (w w' : World) (col : Nat → Nat) (S' : Nat → Prop) (r : Option Addr) (k0 k : Nat) : Nat := if w.heap.size ≤ k ∧ k < w'.heap.size then (if S' k then k0 + 3 else if r = some ⟨k, 0, none⟩ then k0 + 1 else 9) else col k
theorem colP_old {w w' : World} {col : Nat → Nat} {S' : Nat → Prop} {r : Option Addr} {k0 k : Nat} (h : k < w.heap.size) : colP w w' col S' r k0 k = col k := if_neg (by omega)
theorem colP_far {w w' : World} {col : Nat → Nat} {S' : Nat → Prop} {r : Option Addr} {k0 k : Nat} (h : w'.heap.size ≤ k) : colP w w' col S' r k0 k = col k := if_neg (by omega)
theorem colP_m {w w' : World} {col : Nat → Nat} {S' : Nat → Prop} {r : Option Addr} {k0 k : Nat} (h : w.heap.size ≤ k) (h2 : k < w'.heap.size) (hs : S' k) : colP w w' col S' r k0 k = k0 + 3 := by unfold colP; rw [if_pos ⟨h, h2⟩, if_pos hs]
theorem colP_r {w w' : World} {col : Nat → Nat} {S' : Nat → Prop} {r : Option Addr} {k0 k : Nat} (h : w.heap.size ≤ k) (h2 : k < w'.heap.size) (hs : ¬ S' k) (hr : r = some ⟨k, 0, none⟩) : colP w w' col S' r k0 k = k0 + 1 := by unfold colP; rw [if_pos ⟨h, h2⟩, if_neg hs, if_pos hr]
end Go.Proofs.YtblipdmagfiigaaGreat
namespace Go.Proofs.YtblipdmagfiigaaGreat
open Go.RowKit
set_option linter.unusedVariables false
set_option maxRecDepth 20000
def advQ (q : Qy) : Qy := { q with its := (tellF q.N 10 q.its q.P []).1, P := (tellF q.N 10 q.its q.P []).2.1 }
def advD (q : Qy) : Bool := doneB q.N (advQ q).its (advQ q).P
def advS (c : Cfg) (si j : Nat) (s : Cs) : Cs := if advD (s.qs.getD j q0) then finC c si j { s with qs := s.qs.set j { advQ (s.qs.getD j q0) with dn := true } } else { s with qs := s.qs.set j (advQ (s.qs.getD j q0)) }
def advL (W si j : Nat) (s : Cs) : List LT := if advD (s.qs.getD j q0) then stops si ((j + 1 : Nat) : Int) W else []
section
variable {B0 : Nat} {w w' : World} {col col' : Nat → Nat} {i : CoI} {c : Cfg} {W C : Nat} {s : Cs} {iq : Nat → QI} {F : Nat → Prop}
theorem keysV_appG (k l : List KV) : keysV (k ++ l) = keysV k ++ keysV l := keysV_app k l
theorem CoX.told {w2 w3 : World} {j n m : Nat} {id : Int} {q : Qy} {x : QI} {Sm S2 : Nat → Prop} {xs : List KV} {P' : List SM} {a3 : Option Addr} {c3 : Nat} (h : CoX B0 w col i c W C s iq) (hj : j < s.qs.length) (hid : ((j + 1 : Nat) : Int) = id) (hq : s.qs.getD j q0 = q) (hx : iq j = x) (hac : q.ac = true)
    (hmp : x.mp = some ⟨x.bm, 0, none⟩) (hmc : ∀ k, Sm k → col k = 10 + 4 * j + 3) (hl1 : q.its.length = n) (hl2 : xs.length = m) (hSl : ∀ k, Sm k → k < w.heap.size)
    (hm2 : MAtP w2 x.bm q.N (q.its ++ xs) P' S2) (hs2 : ∀ k, S2 k → Sm k ∨ w.heap.size ≤ k) (ht2 : Turn Sm w.drew w2) (ho3 : w3.ownsRow B0 71 2 (.slice a3 (n + m) c3) (n + m) (keysV q.its ++ keysV xs)) (hg3 : w2.grownBy w3 (Value.slice x.ia n x.ic).ownBlock) (hat3 : ∀ g, a3 = some ⟨g, 0, none⟩ → x.ia = some ⟨g, 0, none⟩ ∨ g = w2.heap.size)
    (hb3 : w3.heap[x.qb]? = some (.cells (quG id q x) 96 (0, 0))) :
    ∃ col', CoX B0 (w3.setCell ⟨x.qb, 4, none⟩ (.slice a3 (n + m) c3)) col' i c W C { s with qs := s.qs.set j { q with its := q.its ++ xs, P := P' } } (updI iq j { x with ia := a3, ic := c3 }) ∧ ExtG w col (w3.setCell ⟨x.qb, 4, none⟩ (.slice a3 (n + m) c3)) col' := by
  have Q1 : QAtG w col B0 (10 + 4 * j) id q x := by rw [← hq, ← hx, ← hid]; exact h.q j hj
  have hz2 : w.heap.size ≤ w2.heap.size := ht2.size
  have hz3 : w2.heap.size ≤ w3.heap.size := hg3.size
  have hz4 : (w3.setCell ⟨x.qb, 4, none⟩ (.slice a3 (n + m) c3)).heap.size = w3.heap.size := by simp [World.setCell]
  have own : ∀ k, some k = (Value.slice x.ia n x.ic).ownBlock → x.ia = some ⟨k, 0, none⟩ ∧ k < w.heap.size ∧ col k = 10 + 4 * j + 1 := fun k hk => by
    have h1 : x.ia = some ⟨k, 0, none⟩ := by
      have ho := Q1.o
      rw [hl1] at ho
      exact mownb ho hk
    exact ⟨h1, (Q1.o.lt k (by rw [h1]; rfl)).2, Q1.oc k h1⟩
  have t34 : Turn (fun k => Sm k ∨ some k = (Value.slice x.ia n x.ic).ownBlock ∨ k = x.qb) w3 (w3.setCell ⟨x.qb, 4, none⟩ (.slice a3 (n + m) c3)) := Turn.setCell (Or.inr (Or.inr rfl))
  have t1 : Turn (fun k => Sm k ∨ some k = (Value.slice x.ia n x.ic).ownBlock ∨ k = x.qb) w (w3.setCell ⟨x.qb, 4, none⟩ (.slice a3 (n + m) c3)) :=
    (((Turn.of_below (Below.refl w.heap.size w).drew).trans (ht2.mono fun k hk => Or.inl hk)).trans ((turn_grown hg3).mono fun k hk => Or.inr (Or.inl hk))).trans t34
  have hFc : ∀ k, (Sm k ∨ some k = (Value.slice x.ia n x.ic).ownBlock ∨ k = x.qb) → 10 + 4 * j ≤ col k ∧ col k ≤ 13 + 4 * j := fun k hk => by
    rcases hk with e | e | e
    · have := hmc k e; omega
    · have := (own k e).2.2; omega
    · rw [e, Q1.cb]; omega
  have hS2 : ∀ k, S2 k → k < w2.heap.size := hm2.lt
  have hfar : ∀ k, S2 k → some k ≠ (Value.slice x.ia n x.ic).ownBlock ∧ k ≠ x.qb := fun k hk => by
    rcases hs2 k hk with e | e
    · have h1 := hmc k e
      exact ⟨fun e2 => by have := (own k e2).2.2; omega, fun e2 => by have := Q1.cb; rw [e2] at h1; omega⟩
    · exact ⟨fun e2 => by have := (own k e2).2.1; omega, fun e2 => by have := Q1.lt; omega⟩
  have hrow : ∀ g, a3 = some ⟨g, 0, none⟩ → g ≠ x.qb ∧ colP w w3 col S2 a3 (10 + 4 * j) g = 10 + 4 * j + 1 := fun g hg => by
    rcases hat3 g hg with e | e
    · have h1 := Q1.oc g e
      refine ⟨fun e2 => by have := Q1.cb; rw [e2] at h1; omega, ?_⟩
      rw [colP_old (Q1.o.lt g (by rw [e]; rfl)).2]; exact h1
    · refine ⟨fun e2 => by have := Q1.lt; omega, colP_r (by omega) (ho3.lt g (by rw [hg]; rfl)).2 (fun hk => by have := hS2 g hk; omega) hg⟩
  refine ⟨colP w w3 col S2 a3 (10 + 4 * j), h.query2 j hj t1 (fun k hk _ => hFc k hk) (fun k hk => colP_old hk) (fun k hk => (colP_far (by omega)).trans (h.g.nw k (by omega))) (fun k hk => ?_) _ _ (by rw [hx]) ?_, t1.mono (fun k hk => by have := hFc k hk; omega), fun k hk => colP_old hk⟩
  · by_cases e : w.heap.size ≤ k
    · exact Nat.le_trans h.g.hB e
    · rw [colP_old (by omega)] at hk; exact h.g.lo k hk
  · rw [hid]
    have hlen : (q.its ++ xs).length = n + m := by rw [List.length_append, hl1, hl2]
    refine ⟨?_, ?_, fun g hg => (hrow g hg).2, (colP_old Q1.lt).trans Q1.cb, fun ha => ⟨hmp, S2, ?_, fun k hk => ?_⟩, fun ha => ?_⟩
    · rw [Go.heap_setCell_same w3 x.qb 4 _ _ _ hb3]
      unfold quG
      dsimp only
      rw [hlen]; rfl
    · dsimp only
      rw [hlen, keysV_appG]
      exact mowns_block0 ho3 (fun g hg => mheap_far (hrow g hg).1)
    · exact (hm2.turn (turn_grown hg3) (fun k hk => (hfar k hk).1)).turn (F := fun k => k = x.qb) (Turn.setCell rfl) (fun k hk => (hfar k hk).2)
    · by_cases e : w.heap.size ≤ k
      · exact colP_m e (by have := hS2 k hk; omega) hk
      · rw [colP_old (by omega)]
        rcases hs2 k hk with e2 | e2
        · exact hmc k e2
        · omega
    · obtain ⟨h1, h2, h3, h4⟩ := Q1.s ha
      have hlt := (Array.getElem?_eq_some_iff.1 h3).1
      exact ⟨h1, h2, (t1.block _ hlt fun e => by
        rcases e with e | e | e
        · have := hmc _ e; omega
        · have := (own _ e).2.2; omega
        · have := Q1.cb; rw [e] at h4; omega).trans h3, (colP_old hlt).trans h4⟩
theorem set_setG (l : List Qy) (j : Nat) (a b : Qy) : (l.set j a).set j b = l.set j b := List.set_set ..
set_option maxRecDepth 100000 in
set_option maxHeartbeats 3200000 in
theorem gAdvance_any (si j : Nat) (w : World) (h : CoX B0 w col i c W C s iq) (hj : j < s.qs.length) (hs : SlGood s.ss) (hsi : SlotOf s.ss ((j + 1 : Nat) : Int) (some si)) (hn : s.qs.length ≤ 1000000) (hW : W ≤ 5)
    (hac : (s.qs.getD j q0).ac = true) (hP : (s.qs.getD j q0).P.length ≤ 1000) (hN : (s.qs.getD j q0).N ≤ 10) (hT : (s.qs.getD j q0).its.length ≤ 1000) :
    Calls Tryz.prog 34 #[.pointer (some ⟨i.x, 0, none⟩), .int .i64 ((j + 1 : Nat) : Int)] w (RetC B0 w col i c W C (advS c si j s) (advL W si j s)) := by
  obtain ⟨i0, hi, hz0, hz1, hz2⟩ := info_parts item_info
  obtain ⟨id, hid⟩ : ∃ z : Int, ((j + 1 : Nat) : Int) = z := ⟨_, rfl⟩
  obtain ⟨q, hq⟩ : ∃ q, s.qs.getD j q0 = q := ⟨_, rfl⟩
  obtain ⟨x, hx⟩ : ∃ x, iq j = x := ⟨_, rfl⟩
  have HID := Lib.hid hid
  have HX := Lib.hid hx; have HQ := Lib.hid hq
  have wf : wfI id := by unfold wfI; exact wf64 (by omega)
  rw [hq] at hac hP hN hT
  rw [hid]
  have CX := Lib.hid h
  have Q1 := Lib.hid (show QAtG w col B0 (10 + 4 * j) id q x from by rw [← hq, ← hx, ← hid]; exact h.q j hj)
  obtain ⟨xs, P', hxl, hPl, hR⟩ := tellF_more q.N 10 q.its q.P []
  rw [List.nil_append] at hR
  obtain ⟨hmp, Sm, hm, hmc⟩ := Q1.out.m hac
  have CT := Lib.hid (mtell_g (q.its ++ xs) P' xs w.drew (hm.below (Below.refl _ _).drew) hP hN hT hR)
  have HM := Lib.hid hmc
  have HMP := Lib.hid hmp
  have HSL := Lib.hid hm.lt
  have HA := Lib.hid (show advQ q = { q with its := q.its ++ xs, P := P' } from by unfold advQ; rw [hR])
  have HL := Lib.hid (show xs.length ≤ 10 ∧ q.its.length ≤ 1000 ∧ P'.length ≤ 1000 from ⟨hxl, hT, by omega⟩)
  have PR := Lib.hid (show j < s.qs.length ∧ SlGood s.ss ∧ SlotOf s.ss ((j + 1 : Nat) : Int) (some si) ∧ s.qs.length ≤ 1000000 ∧ W ≤ 5 ∧ q.ac = true from ⟨hj, hs, hsi, hn, hW, hac⟩)
  have x17 : w.cell? ⟨i.x, 17, none⟩ = some (.map (some i.bq)) := co_cell h.g.box rfl
  have MQ := Lib.hid (show MapV w i.bq s.qs.length (qmG iq s.qs.length) from h.g.Q)
  have FQ := Lib.hid (show qmG iq s.qs.length id = some (.pointer (some ⟨x.qb, 0, none⟩)) from by rw [← hid, ← hx]; exact qmG_at iq _ j hj)
  have y4 : w.cell? ⟨x.qb, 4, none⟩ = some (.slice x.ia q.its.length x.ic) := co_cell Q1.out.b rfl
  have y7 : w.cell? ⟨x.qb, 7, none⟩ = some (.pointer (some ⟨x.bm, 0, none⟩)) := by rw [← hmp]; exact co_cell Q1.out.b rfl
  obtain ⟨n, hnn⟩ : ∃ n, q.its.length = n := ⟨_, rfl⟩
  obtain ⟨m, hmm⟩ : ∃ m, xs.length = m := ⟨_, rfl⟩
  have G2 := Lib.hid (show ∀ w2, Turn Sm w.drew w2 → w2.heap[x.qb]? = some (.cells (quG id q x) 96 (0, 0)) ∧ w2.ownsRow B0 71 2 (.slice x.ia n x.ic) n (keysV q.its) from fun w2 t => ⟨(t.block x.qb Q1.out.lt fun e => by have := HM.out _ e; have := Q1.out.cb; omega).trans Q1.out.b, by
    rw [← hnn]
    exact mowns_block0 Q1.out.o (fun g hg => t.block g (Q1.out.o.lt g (by rw [hg]; rfl)).2 fun e => by have := HM.out _ e; have := Q1.out.oc g hg; omega)⟩)
  have G3 := Lib.hid (show ∀ w2 w3, Turn Sm w.drew w2 → w2.grownBy w3 (Value.slice x.ia n x.ic).ownBlock → w3.heap[x.qb]? = some (.cells (quG id q x) 96 (0, 0)) from fun w2 w3 t hg => (hg.block x.qb (Nat.lt_of_lt_of_le Q1.out.lt t.size) (fun e => by
    have h1 : x.ia = some ⟨x.qb, 0, none⟩ := mownb (G2.out w2 t).2 e
    have := Q1.out.oc _ h1; have := Q1.out.cb; omega)).trans (G2.out w2 t).1)
  have HS2 := Lib.hid (show ∀ w2, Turn Sm w.drew w2 → B0 ≤ w2.heap.size from fun w2 t => Nat.le_trans h.g.hB t.size)
  have HNM := Lib.hid (show q.its.length = n ∧ xs.length = m ∧ n ≤ 1000 ∧ m ≤ 10 from ⟨hnn, hmm, by omega, by omega⟩)
  rw [hnn] at y4
  unfold TellG at CT
  rw [hmm] at CT
  clear h hj hs hsi hn hW hac hP hN hT hxl hPl hR hm hmc hid hq hx hnn hmm hmp
  go_enter Tryz.func34, Tryz.ntmps34
  go_upto_region 2 with (first | (at_lookup; refine wpList_get_mv mapTq rfl (.tmp 9) (.tmp 10) rfl rfl MQ.out id rfl wf (.pointer (some ⟨x.qb, 0, none⟩)) (by rw [FQ.out]; rfl) ?_) | fail)
  go_region_law
    (first
      | (go_simp; go_at_call 59; (with_reducible refine CT.out.mono ?_); rintro e w2 ⟨oa, oc, S2, rfl, hm2, ho2, hs2, ht2⟩; have g4 : w2.cell? ⟨x.qb, 4, none⟩ = some (.slice x.ia n x.ic) := by { rw [← HNM.out.1]; exact co_cell (G2.out w2 ht2).1 rfl }; have z4 := co_fz (G2.out w2 ht2).1 4)
      | (refine step_append_at (by rfl) _ _ _ (by rfl) B0 71 i0 _ 2 24 Tryz.underlying24 hi hz0 hz1 hz2 rfl (by omega) x.ia n x.ic (keysV q.its) (by rfl) (G2.out w2 ht2).2 oa m oc (keysV xs) (by rfl) (own_noneG ho2) (by rw [keysV_len, HNM.out.2.1]) (own_newsG ho2) (keysV_oneG xs) (by have := HNM.out; unfold maxLen; omega) (by have := HNM.out; omega) (HS2.out w2 ht2) ?_; intro a3 c3 w3 ho3 hg3 hat3; have g43 : w3.cell? ⟨x.qb, 4, none⟩ = some (.slice x.ia n x.ic) := by { rw [← HNM.out.1]; exact co_cell (G3.out w2 w3 ht2 hg3) rfl }; have z43 := co_fz (G3.out w2 w3 ht2 hg3) 4))
  all_goals
    obtain ⟨col2, hC4, hE4⟩ := CX.out.told PR.out.1 HID.out HQ.out HX.out PR.out.2.2.2.2.2 HMP.out HM.out HNM.out.1 HNM.out.2.1 HSL.out hm2 hs2 ht2 ho3 hg3 hat3 (G3.out w2 w3 ht2 hg3)
    have C4 := Lib.hid hC4
    have E4 := Lib.hid hE4
    clear hC4 hE4 hm2 ho2 hs2 ht2 ho3 hg3 hat3 g4 z4 g43 z43 y4 y7
    go_upto_region 3 with fail
    generalize w3.setCell ⟨x.qb, 4, none⟩ (.slice a3 (n + m) c3) = w4 at *
    obtain ⟨x', hx'⟩ : ∃ x', ({ x with ia := a3, ic := c3 } : QI) = x' := ⟨_, rfl⟩
    have HXB := Lib.hid (show x'.qb = x.qb ∧ x'.bm = x.bm from by rw [← hx']; exact ⟨rfl, rfl⟩)
    have Q4 := Lib.hid (show QAtG w4 col2 B0 (10 + 4 * j) id (advQ q) x' from by
      have h := C4.out.q j (by dsimp only; rw [List.length_set]; exact PR.out.1)
      dsimp only at h
      rw [HID.out, show (s.qs.set j { q with its := q.its ++ xs, P := P' }).getD j q0 = { q with its := q.its ++ xs, P := P' } by simp [List.getD_eq_getElem?_getD, PR.out.1], show updI iq j { x with ia := a3, ic := c3 } j = { x with ia := a3, ic := c3 } from if_pos rfl, hx', ← HA.out] at h
      exact h)
    have CC4 := Lib.hid (show CoX B0 w4 col2 i c W C { s with qs := s.qs.set j (advQ q) } (updI iq j x') from by rw [HA.out, ← hx']; exact C4.out)
    clear hx' C4
    have hac : (advQ q).ac = true := PR.out.2.2.2.2.2
    obtain ⟨hmp, Sm4, hm4, hmc4⟩ := Q4.out.m hac
    have y7 : w4.cell? ⟨x.qb, 7, none⟩ = some (.pointer (some ⟨x'.bm, 0, none⟩)) := by rw [← hmp, ← HXB.out.1]; exact co_cell Q4.out.b rfl
    obtain ⟨z, hz⟩ : ∃ z, advD q = z := ⟨_, rfl⟩
    have CD := Lib.hid (mdone_g z w4 hm4 (by rw [HA.out]; exact HL.out.2.2) hz)
    have HZ := Lib.hid hz
    clear hac hmp hm4 hmc4 hz
    cases z with
    | false =>
      go_wp2_with fail
      refine CD.out.mono ?_
      rintro e w5 ⟨rfl, hb5⟩
      have FIN := Lib.hid (show RetC B0 w col i c W C (advS c si j s) (advL W si j s) (.returned (.slice none 0 0)) w5 from by
        have h1 : advS c si j s = { s with qs := s.qs.set j (advQ q) } := by unfold advS; rw [HQ.out, HZ.out]; rfl
        have h2 : advL W si j s = [] := by unfold advL; rw [HQ.out, HZ.out]; rfl
        rw [h1, h2]
        exact ⟨col2, _, none, 0, rfl, CC4.out.below hb5, E4.out.below hb5, World.ownsRow_nil _ _ _ _, fun g hg => by cases hg⟩)
      clear hb5
      go_wp2_with fail
      go_ret
      exact FIN.out
    | true =>
      go_wp2_with fail
      refine CD.out.mono ?_
      rintro e w5 ⟨rfl, hb5⟩
      have Q5 := Lib.hid (Q4.out.below hb5)
      have C5 := Lib.hid (CC4.out.below hb5)
      have E5 := Lib.hid (E4.out.below hb5)
      clear hb5 y7
      have y5 : w5.cell? ⟨x.qb, 5, none⟩ = some (.bool (advQ q).dn) := by rw [← HXB.out.1]; exact co_cell Q5.out.b rfl
      have z5 : w5.frozen? ⟨x.qb, 5, none⟩ = false := by rw [← HXB.out.1]; exact co_fz Q5.out.b 5
      go_upto_region 6 with fail
      have hlj : j < (s.qs.set j (advQ q)).length := by rw [List.length_set]; exact PR.out.1
      have t6 : Turn (fun k => k = x.qb) w5 (w5.setCell ⟨x.qb, 5, none⟩ (.bool true)) := Turn.setCell rfl
      have Q6 : QAtG (w5.setCell ⟨x.qb, 5, none⟩ (.bool true)) col2 B0 (10 + 4 * j) id { advQ q with dn := true } x' := by
        have hcb := Q5.out.cb
        have e1 := HXB.out.1
        refine ⟨by rw [← e1, Go.heap_setCell_same w5 x'.qb 5 _ _ (.bool true) Q5.out.b]; rfl, mowns_block0 Q5.out.o (fun g hg => mheap_far fun e => by have := Q5.out.oc g hg; rw [e, ← e1] at this; omega), Q5.out.oc, Q5.out.cb, fun ha => ?_, fun ha => ?_⟩
        · obtain ⟨h1, S5, h2, h3⟩ := Q5.out.m ha
          exact ⟨h1, S5, h2.turn t6 (fun k hk e => by have h4 := h3 k hk; rw [e, ← e1] at h4; omega), h3⟩
        · obtain ⟨h1, h2, h3, h4⟩ := Q5.out.s ha
          exact ⟨h1, h2, (t6.block _ (Array.getElem?_eq_some_iff.1 h3).1 fun e => by rw [e, ← e1] at h4; omega).trans h3, h4⟩
      have C6 := Lib.hid (show ∃ iq', CoX B0 (w5.setCell ⟨x.qb, 5, none⟩ (.bool true)) col2 i c W C { s with qs := s.qs.set j { advQ q with dn := true } } iq' from by
        have h := C5.out.query j hlj t6 (fun k e => by have := Q5.out.cb; rw [HXB.out.1] at this; rw [e]; omega) { advQ q with dn := true } x' (by rw [show updI iq j x' j = x' from if_pos rfl]) (by rw [HID.out]; exact Q6)
        dsimp only at h
        rw [set_setG] at h
        exact ⟨_, h⟩)
      have E6 := Lib.hid (E5.out.turn t6 (fun k e => by have := Q5.out.cb; rw [HXB.out.1] at this; rw [e]; omega))
      clear t6 Q6 y5 z5 hlj
      generalize w5.setCell ⟨x.qb, 5, none⟩ (.bool true) = w6 at *
      obtain ⟨iq6, hC6⟩ := C6.out
      have CFin := Lib.hid (show Calls Tryz.prog 36 #[.pointer (some ⟨i.x, 0, none⟩), .int .i64 id] w6 (RetC B0 w6 col2 i c W C (advS c si j s) (advL W si j s)) from by
        have h1 : advS c si j s = finC c si j { s with qs := s.qs.set j { advQ q with dn := true } } := by unfold advS; rw [HQ.out, HZ.out]; rfl
        have h2 : advL W si j s = stops si ((j + 1 : Nat) : Int) W := by unfold advL; rw [HQ.out, HZ.out]; rfl
        rw [h1, h2, ← HID.out]
        exact gFinish_any si j w6 hC6 (by dsimp only; rw [List.length_set]; exact PR.out.1) PR.out.2.1 PR.out.2.2.1 (by dsimp only; rw [List.length_set]; exact PR.out.2.2.2.1) PR.out.2.2.2.2.1)
      clear hC6
      go_wp2_with fail
      refine CFin.out.mono ?_
      rintro e w7 ⟨col7, iq7, a7, c7, rfl, hC7, hE7, hO7, hG7⟩
      have FIN := Lib.hid (show RetC B0 w col i c W C (advS c si j s) (advL W si j s) (.returned (.slice a7 (advL W si j s).length c7)) w7 from ⟨col7, iq7, a7, c7, rfl, hC7, E6.out.trans hE7, base_less24 hO7 E6.out.1.size, hG7⟩)
      clear hC7 hE7 hO7 hG7
      go_wp2_with fail
      go_ret
      exact FIN.out
end
end Go.Proofs.YtblipdmagfiigaaGreat
namespace Go.Proofs.YtblipdmagfiigaaGreat
open Go.RowKit
set_option linter.unusedVariables false
set_option maxRecDepth 20000
def leastV (ks : List KV) (t : Tx) (K : Int) (s : Nat) : Int := if leastK ks s (lenS t) > K then -1 else leastK ks s (lenS t)
def leastsL (ks : List KV) (t : Tx) (K : Int) (n : Nat) : List Int := (List.range n).map (leastV ks t K)
theorem leastsL_succ (ks : List KV) (t : Tx) (K : Int) (n : Nat) : leastsL ks t K (n + 1) = leastsL ks t K n ++ [leastV ks t K n] := by
  unfold leastsL; rw [List.range_succ, List.map_append]; rfl
theorem leastsL_len (ks : List KV) (t : Tx) (K : Int) (n : Nat) : (leastsL ks t K n).length = n := by simp [leastsL]
section
variable {B0 : Nat} {w w' : World} {col col' : Nat → Nat} {i : CoI} {c : Cfg} {W C : Nat} {s : Cs} {iq : Nat → QI} {F : Nat → Prop}
def LeastsG (w : World) (l : List Int) (e : Ending) (w' : World) : Prop := ∃ a cc, e = .returned (.slice a l.length cc) ∧ HoldsI .i64 w' a l.length l ∧ Below w.heap.size w w'
theorem lst_carryG {w1 a b : World} {x q : Nat} {u0 u1 u2 : Value} (h : Below w1.heap.size w1 a ∧ a.cell? ⟨x, 1, none⟩ = some u0 ∧ a.cell? ⟨q, 0, none⟩ = some u1 ∧ a.cell? ⟨q, 1, none⟩ = some u2) (hb : Below a.heap.size a b) : Below w1.heap.size w1 b ∧ b.cell? ⟨x, 1, none⟩ = some u0 ∧ b.cell? ⟨q, 0, none⟩ = some u1 ∧ b.cell? ⟨q, 1, none⟩ = some u2 :=
  ⟨h.1.trans (hb.mono h.1.size), (hb.cell (p := ⟨x, 1, none⟩) (lt_of_cell h.2.1)).trans h.2.1, (hb.cell (p := ⟨q, 0, none⟩) (lt_of_cell h.2.2.1)).trans h.2.2.1, (hb.cell (p := ⟨q, 1, none⟩) (lt_of_cell h.2.2.2)).trans h.2.2.2⟩
set_option maxRecDepth 100000 in
set_option maxHeartbeats 1600000 in
theorem gLeasts_any (t : Tx) (K N : Int) (w : World) (h : CoX B0 w col i c W C s iq) (ht : lenS t ≤ 1000 ∧ t.size ≤ 9223372036854775807) : Calls Tryz.prog 33 #[.pointer (some ⟨i.x, 0, none⟩), .agg #[.string t, .int .i64 K, .int .i64 N]] w (LeastsG w (leastsL c.ks t K (c.kn + 1))) := by
  obtain ⟨i0, hi, hz0, hz1, hz2⟩ := info_parts num_info
  have hb1 := below_one w (.cells #[.string t, .int .i64 K, .int .i64 N] 23)
  obtain ⟨q, hq⟩ : ∃ q, w.heap.size = q := ⟨_, rfl⟩
  have KQ := Lib.hid (show (w.alloc (.cells #[.string t, .int .i64 K, .int .i64 N] 23)).heap[q]? = some (.cells #[.string t, .int .i64 K, .int .i64 N] 23 (0, 0)) from by rw [← hq]; exact heap_alloc_new w _)
  have C1 := Lib.hid (h.below hb1)
  have B1 := Lib.hid hb1
  obtain ⟨m, hm⟩ : ∃ m, lenS t = m := ⟨_, rfl⟩
  have hm2 := lenS_bd t
  rw [hm] at hm2 ht
  have CL := Lib.hid (fun w' => (show Calls Tryz.prog 26 #[.string t] w' fun e w'' => e = .returned (.int .i64 m) ∧ Below w'.heap.size w' w'' from hm ▸ len_any t w' ht.2))
  have MK := Lib.hid (goodK_zero (may_parts h.g.may).2.1)
  have CK := Lib.hid (fun (w' : World) (hb : Below (w.alloc (.cells #[.string t, .int .i64 K, .int .i64 N] 23)).heap.size (w.alloc (.cells #[.string t, .int .i64 K, .int .i64 N] 23)) w') (k : Nat) (hk : k ≤ c.kn) => least_any i.ka c.kn i.kc c.ks k m w' ((C1.out.below hb).g.K) (by have := h.g.hk; omega) MK.out.2.1 hk (by omega))
  have HK5 := Lib.hid h.g.hk
  have HM := Lib.hid hm
  have HKL := Lib.hid (h.g.K.len)
  have MKB := Lib.hid (fun k (hk : k ≤ c.kn) => (show -1 ≤ leastK c.ks k m ∧ leastK c.ks k m ≤ 2000 from by
    have b1 := lo_bd MK.out.2.1 (s := k) (by have := h.g.K.len; omega)
    have b2 := hi_bd MK.out.2.1 (s := k) (by have := h.g.K.len; omega)
    unfold leastK; split <;> omega))
  clear h hb1 hm hm2 ht
  go_enter Tryz.func33, Tryz.ntmps33
  go_upto_region 2 with fail
  generalize w.alloc (.cells #[.string t, .int .i64 K, .int .i64 N] 23) = w1 at *
  have x12 : w1.cell? ⟨i.x, 12, none⟩ = some (.slice (some ⟨i.ca, 0, none⟩) (c.kn + 1) i.cc) := co_cell C1.out.g.box rfl
  go_wp2_with fail
  go_loopw [5, 6, 7, 13] (fun ov _ _ iv wr => ∃ k : Nat, k ≤ c.kn + 1 ∧ iv = .int .i64 k ∧ ∃ a cc, ov = .slice a k cc ∧ Hid (Below w1.heap.size w1 wr ∧ wr.ownsRow w1.heap.size 3 1 (.slice a k cc) k (numsV (leastsL c.ks t K k)))) (fun _ _ _ iv _ => c.kn + 1 - (intOf iv).toNat)
  case atStart => exact ⟨0, by omega, rfl, none, 0, rfl, Lib.hid ⟨Below.refl _ _, World.ownsRow_nil _ _ _ _⟩⟩
  case round =>
    obtain ⟨k, hk, rfl, a, cc, rfl, hR⟩ := hrel
    by_cases hlt : k < c.kn + 1
    · have CR := C1.out.below hR.out.1
      have KR := (hR.out.1.block q (Array.getElem?_eq_some_iff.1 KQ.out).1).trans KQ.out
      have HO := Lib.hid hR.out.2
      have HB := Lib.hid hR.out.1
      have S0 := Lib.hid (show Below wr.heap.size wr wr.drew ∧ wr.drew.cell? ⟨i.x, 1, none⟩ = some (.slice i.ka c.kn i.kc) ∧ wr.drew.cell? ⟨q, 0, none⟩ = some (.string t) ∧ wr.drew.cell? ⟨q, 1, none⟩ = some (.int .i64 K) from ⟨(Below.refl _ _).drew, co_cell CR.g.box rfl, co_cell KR rfl, co_cell KR rfl⟩)
      have ek : IntKind.i64.wrap ((k : Int) + 1) = ((k + 1 : Nat) : Int) := by have := HK5.out; rw [IntKind.wrap_i64]; omega
      obtain ⟨d, hd⟩ : ∃ d, leastK c.ks k m = d := ⟨_, rfl⟩
      have CKk := Lib.hid (fun (w' : World) (hb : Below wr.heap.size wr w') => (show Calls Tryz.prog 25 #[.slice i.ka c.kn i.kc, .int .i64 (k : Int), .int .i64 m] w' fun e w'' => e = .returned (.int .i64 d) ∧ w' = w'' from hd ▸ CK.out w' (hR.out.1.trans (hb.mono hR.out.1.size)) k (by omega)))
      have HV := Lib.hid (show leastV c.ks t K k = if d > K then -1 else d from by unfold leastV; rw [HM.out, hd])
      clear CR KR x12 hd
      go_upto_region 5 with fail
      go_region_held3 (fun w' => Below wr.heap.size wr w' ∧ w'.cell? ⟨i.x, 1, none⟩ = some (.slice i.ka c.kn i.kc) ∧ w'.cell? ⟨q, 0, none⟩ = some (.string t) ∧ w'.cell? ⟨q, 1, none⟩ = some (.int .i64 K))
        (first | assumption | exact S0.out | exact lst_carryG (by assumption) (by assumption))
        (first
          | (go_at_call 26; refine (CL.out _).mono ?_; rintro e w' ⟨rfl, hb⟩)
          | (go_at_call 25; refine (CKk.out _ (And.left (by assumption))).mono ?_; rintro e w' ⟨rfl, rfl⟩))
      rename_i T5
      obtain ⟨hb5, -, -, q1⟩ := T5
      have B5 := Lib.hid (HB.out.trans (hb5.mono HB.out.size))
      have O5 := Lib.hid (owns_below HO.out hb5)
      clear hb5
      have HVV := HV.out
      by_cases hdK : d > K
      · have hgt : decide (d > K) = true := decide_eq_true hdK
        have HV2 : (if d > K then (-1 : Int) else d) = -1 := if_pos hdK
        rw [HV2] at HVV
        have HVW := Lib.hid HVV
        clear HVV HV2 hdK
        go_wp2_with (at_builtin; refine wpList_append_any rfl (.tmp 30) (.tmp 32) 54 rfl w1.heap.size 3 i0 (.int .i64 0) 1 8 Tryz.underlying54 hi hz0 hz1 hz2 rfl (by decide) _ k (numsV (leastsL c.ks t K k)) rfl (owns_below O5.out (below_one _ _)) _ 1 1 [.int .i64 (-1)] rfl (some_none _) rfl (one_new _ _ _ _) (one_int _ _) (by have := HK5.out; unfold maxLen; omega) (by have := HK5.out; omega) (by have := B5.out.size; simp; omega) ?_; intro a3 c3 w3 hown3 hb3 hnil3)
        have RR := Lib.hid (show Below w1.heap.size w1 w3 ∧ w3.ownsRow w1.heap.size 3 1 (.slice a3 (k + 1) c3) (k + 1) (numsV (leastsL c.ks t K (k + 1))) from ⟨(B5.out.alloc B5.out.size _).trans hb3, by rw [leastsL_succ, HVW.out]; unfold numsV at hown3 ⊢; rw [List.map_append]; exact hown3⟩)
        clear hown3 hb3 hnil3
        go_wp2_with fail
        go_roundw
        case rel => exact ⟨k + 1, by omega, by first | rfl | simp [ek], a3, c3, rfl, RR⟩
        case measure => simp [intOf]; omega
      · have hgt : decide (d > K) = false := decide_eq_false hdK
        have HV2 : (if d > K then (-1 : Int) else d) = d := if_neg hdK
        rw [HV2] at HVV
        have HVW := Lib.hid HVV
        clear HVV HV2 hdK
        go_wp2_with (at_builtin; refine wpList_append_any rfl (.tmp 30) (.tmp 32) 54 rfl w1.heap.size 3 i0 (.int .i64 0) 1 8 Tryz.underlying54 hi hz0 hz1 hz2 rfl (by decide) _ k (numsV (leastsL c.ks t K k)) rfl (owns_below O5.out (below_one _ _)) _ 1 1 [.int .i64 d] rfl (some_none _) rfl (one_new _ _ _ _) (one_int _ _) (by have := HK5.out; unfold maxLen; omega) (by have := HK5.out; omega) (by have := B5.out.size; simp; omega) ?_; intro a3 c3 w3 hown3 hb3 hnil3)
        have RR := Lib.hid (show Below w1.heap.size w1 w3 ∧ w3.ownsRow w1.heap.size 3 1 (.slice a3 (k + 1) c3) (k + 1) (numsV (leastsL c.ks t K (k + 1))) from ⟨(B5.out.alloc B5.out.size _).trans hb3, by rw [leastsL_succ, HVW.out]; unfold numsV at hown3 ⊢; rw [List.map_append]; exact hown3⟩)
        clear hown3 hb3 hnil3
        go_wp2_with fail
        go_roundw
        case rel => exact ⟨k + 1, by omega, by first | rfl | simp [ek], a3, c3, rfl, RR⟩
        case measure => simp [intOf]; omega
    · obtain rfl : k = c.kn + 1 := by omega
      have FIN := Lib.hid (show LeastsG w (leastsL c.ks t K (c.kn + 1)) (.returned (.slice a (c.kn + 1) cc)) wr from ⟨a, cc, by rw [leastsL_len], by rw [leastsL_len]; exact holdsZ_own hR.out.2, B1.out.trans (hR.out.1.mono B1.out.size)⟩)
      go_wp2_with fail
      go_ret
      exact FIN.out
end
end Go.Proofs.YtblipdmagfiigaaGreat
namespace Go.Proofs.YtblipdmagfiigaaGreat
open Go.RowKit
set_option linter.unusedVariables false
set_option maxRecDepth 20000
theorem shard_infoG : (Tryz.prog.info? 143).map (fun i => (i.zero, i.size, i.bytes)) = some (some (.agg #[.int .i64 0, .int .i64 0, .int .i64 0, .bool false]), 4, 32) := by kernel_rfl
theorem madeG : ∀ n, n ≤ 6 → (madeCells (Value.agg #[.int .i64 0, .int .i64 0, .int .i64 0, .bool false]).cells (n * 4)).toList = shV (List.replicate n sh0)
  | 0, _ => by kernel_rfl
  | 1, _ => by kernel_rfl
  | 2, _ => by kernel_rfl
  | 3, _ => by kernel_rfl
  | 4, _ => by kernel_rfl
  | 5, _ => by kernel_rfl
  | 6, _ => by kernel_rfl
  | n + 7, h => by omega
theorem own_blockG {w : World} {B g n : Nat} {e : TypeId} {xs : List Value} (h : w.ownsRow B e 4 (.slice (some ⟨g, 0, none⟩) n n) n xs) : w.heap[g]? = some (.cells xs.toArray e (0, 0)) := by
  rcases h.2 with ⟨h0, -⟩ | ⟨g', cap, cur, hv, -, hh, -, -, hs, hx⟩
  · injection h0 with h0; cases h0
  · injection hv with h1 h2 h3
    injection h1 with h1
    injection h1 with h1
    subst h1; subst h3
    have : cur.toList = xs := by rw [← hx, List.take_of_length_le (by simp; omega)]
    rw [hh, ← this, Array.toArray_toList]
def newQ (c : Cfg) (t : Tx) (K N : Int) : Qy := ⟨t, K, N, [], false, false, true, (leastsL c.ks t K (c.kn + 1)).map mkS, List.replicate (c.kn + 1) sh0⟩
def subC (c : Cfg) (t : Tx) (K N : Int) (si : Nat) (s : Cs) : Cs := { s with ss := gaveS s.ss si, qs := s.qs ++ [newQ c t K N] }
theorem qmG_none (iq : Nat → QI) (n : Nat) : qmG iq n ((n + 1 : Nat) : Int) = none := by
  unfold qmG; rw [if_neg (by omega)]
section
variable {B0 : Nat} {w w' : World} {col col' : Nat → Nat} {i : CoI} {c : Cfg} {W C : Nat} {s : Cs} {iq : Nat → QI} {F : Nat → Prop}
theorem CoX.painted (h : CoX B0 w col i c W C s iq) (hb : Below w.heap.size w w') (k0 : Nat) : CoX B0 w' (newCol w w' k0 col) i c W C s iq :=
  ⟨CoG.paintNew k0 h.g (h.g.below hb) hb.size, fun j hj => ((h.q j hj).recol (fun k hk => newCol_old hk)).below hb⟩
theorem ExtG.painted {w0 : World} {col0 : Nat → Nat} (E : ExtG w0 col0 w col) (hb : Below w.heap.size w w') (k0 : Nat) : ExtG w0 col0 w' (newCol w w' k0 col) :=
  (E.below hb).recol (fun k hk => newCol_old (Nat.lt_of_lt_of_le hk E.1.size))
theorem CoX.asked {q : Qy} {x : QI} (h : CoX B0 w col i c W C s iq) (t : Turn (fun k => k = i.bq) w w') (m : MapV w' i.bq (s.qs.length + 1) (qmG (fun j => if j = s.qs.length then x else iq j) (s.qs.length + 1))) (hq : QAtG w' col B0 (10 + 4 * s.qs.length) ((s.qs.length + 1 : Nat) : Int) q x) : CoX B0 w' col i c W C { s with qs := s.qs ++ [q] } (fun j => if j = s.qs.length then x else iq j) := by
  have hl : (s.qs ++ [q]).length = s.qs.length + 1 := by simp
  refine ⟨?_, fun k hk => ?_⟩
  · dsimp only
    rw [hl]
    exact h.g.queries m t
  · dsimp only at hk ⊢
    rw [hl] at hk
    by_cases e : k = s.qs.length
    · subst e
      rw [show (s.qs ++ [q]).getD s.qs.length q0 = q by simp [List.getD_eq_getElem?_getD], if_pos rfl]
      exact hq
    · rw [show (s.qs ++ [q]).getD k q0 = s.qs.getD k q0 by rw [List.getD_eq_getElem?_getD, List.getElem?_append_left (by omega), List.getD_eq_getElem?_getD], if_neg e]
      exact (h.q k (by omega)).turn t (fun b hb => by rw [hb, h.g.cq]; omega)
theorem sub_carryG {w1 a b : World} {q : Nat} {u0 u1 u2 : Value} (h : Below w1.heap.size w1 a ∧ a.cell? ⟨q, 0, none⟩ = some u0 ∧ a.cell? ⟨q, 1, none⟩ = some u1 ∧ a.cell? ⟨q, 2, none⟩ = some u2) (hb : Below a.heap.size a b) : Below w1.heap.size w1 b ∧ b.cell? ⟨q, 0, none⟩ = some u0 ∧ b.cell? ⟨q, 1, none⟩ = some u1 ∧ b.cell? ⟨q, 2, none⟩ = some u2 :=
  ⟨h.1.trans (hb.mono h.1.size), (hb.cell (p := ⟨q, 0, none⟩) (lt_of_cell h.2.1)).trans h.2.1, (hb.cell (p := ⟨q, 1, none⟩) (lt_of_cell h.2.2.1)).trans h.2.2.1, (hb.cell (p := ⟨q, 2, none⟩) (lt_of_cell h.2.2.2)).trans h.2.2.2⟩
def RetC3 (B0 : Nat) (w : World) (col : Nat → Nat) (i : CoI) (c : Cfg) (W C : Nat) (v id : Int) (s' : Cs) (lts : List LT) (e : Ending) (w' : World) : Prop :=
  ∃ col' iq' a cc, e = .returned (.tuple #[.int .i64 v, .int .i64 id, .slice a lts.length cc]) ∧ CoX B0 w' col' i c W C s' iq' ∧ ExtG w col w' col' ∧ w'.ownsRow w.heap.size 68 2 (.slice a lts.length cc) lts.length (ltV lts) ∧ ∀ g, a = some ⟨g, 0, none⟩ → col' g = 9
set_option maxRecDepth 100000 in
set_option maxHeartbeats 3200000 in
theorem gSubmit_yes (t : Tx) (K N : Int) (si : Nat) (w : World) (h : CoX B0 w col i c W C s iq) (hs : SlGood s.ss) (hla : s.ss.last = (s.qs.length : Int)) (hf : FirstFree s.ss si) (hsi : si < s.ss.n) (hm : mayP t K N) (ht : t.size ≤ 9223372036854775807) (hn : s.qs.length < 1000000) (hW : W ≤ 5) :
    Calls Tryz.prog 8 #[.pointer (some ⟨i.x, 0, none⟩), .agg #[.string t, .int .i64 K, .int .i64 N]] w (RetC3 B0 w col i c W C 3 ((s.qs.length + 1 : Nat) : Int) (advS c si s.qs.length (subC c t K N si s)) (advL W si s.qs.length (subC c t K N si s))) := by
  have hb1 := below_one w (.cells #[.string t, .int .i64 K, .int .i64 N] 23)
  obtain ⟨q, hq⟩ : ∃ q, w.heap.size = q := ⟨_, rfl⟩
  obtain ⟨n, hnn⟩ : ∃ n, s.qs.length = n := ⟨_, rfl⟩
  obtain ⟨id, hid⟩ : ∃ z : Int, ((n + 1 : Nat) : Int) = z := ⟨_, rfl⟩
  have KQ := Lib.hid (show (w.alloc (.cells #[.string t, .int .i64 K, .int .i64 N] 23)).heap[q]? = some (.cells #[.string t, .int .i64 K, .int .i64 N] 23 (0, 0)) from by rw [← hq]; exact heap_alloc_new w _)
  have C1 := Lib.hid (h.below hb1)
  have E1 := Lib.hid ((ExtG.refl w col).below hb1)
  have HCQ := Lib.hid (show col q = 9 from h.g.nw q (by omega))
  have HN := Lib.hid hnn
  have HID := Lib.hid hid
  have PR := Lib.hid (show SlGood s.ss ∧ s.ss.last = (n : Int) ∧ FirstFree s.ss si ∧ si < s.ss.n ∧ n < 1000000 ∧ W ≤ 5 from ⟨hs, by rw [← hnn]; exact hla, hf, hsi, by omega, hW⟩)
  have hm0 := hm
  unfold mayP at hm0
  have HM := Lib.hid hm0
  have HT := Lib.hid ht
  have CSub := Lib.hid (show Calls Tryz.prog 31 #[.pointer (some ⟨i.bs, 0, none⟩), .agg #[.string t, .int .i64 K, .int .i64 N]] (w.alloc (.cells #[.string t, .int .i64 K, .int .i64 N] 23)).drew fun e w' => e = .returned (.tuple #[.int .i64 3, .int .i64 id, .int .i64 (si : Int)]) ∧ SlAt w' i.bs i.bo i.ba (gaveS s.ss si) ∧ Turn (slF i.bs i.bo i.ba) (w.alloc (.cells #[.string t, .int .i64 K, .int .i64 N] 23)).drew w' from by
    have h1 := submit_may i.bs i.bo i.ba si t K N _ (C1.out.below (Below.refl _ _).drew).g.S hs hf (by omega) ht (decide_eq_true hm)
    have e1 : subV true s.ss si = 3 := by unfold subV; rw [if_pos rfl, if_pos hsi]
    have e2 : subN true s.ss si = id := by unfold subN; rw [if_pos ⟨rfl, hsi⟩, hla, hnn, ← hid]; rfl
    have e3 : subI true s.ss si = (si : Int) := by unfold subI; rw [if_pos ⟨rfl, hsi⟩]
    have e4 : subS true s.ss si = gaveS s.ss si := by unfold subS; rw [if_pos ⟨rfl, hsi⟩]
    rw [e1, e2, e3, e4] at h1
    exact h1)
  have HFIN := Lib.hid (show ∀ w', RetC3 B0 w col i c W C 3 id (advS c si n (subC c t K N si s)) (advL W si n (subC c t K N si s)) w' = RetC3 B0 w col i c W C 3 ((n + 1 : Nat) : Int) (advS c si n (subC c t K N si s)) (advL W si n (subC c t K N si s)) w' from fun w' => by rw [hid])
  rw [hnn, hid]
  clear h hb1 hs hla hf hsi hm ht hn hW hm0 hnn hid HFIN
  go_enter Tryz.func8, Tryz.ntmps8
  go_upto_region 1 with fail
  generalize w.alloc (.cells #[.string t, .int .i64 K, .int .i64 N] 23) = w1 at *
  go_upto_region 3 with fail
  have CD := Lib.hid (C1.out.below ((Below.refl _ _).drew))
  have HS := Lib.hid (show ∀ w', Turn (slF i.bs i.bo i.ba) w1.drew w' → w'.heap[q]? = some (.cells #[.string t, .int .i64 K, .int .i64 N] 23 (0, 0)) ∧ w'.cell? ⟨i.x, 15, none⟩ = some (.pointer (some ⟨i.bs, 0, none⟩)) ∧ w'.cell? ⟨q, 0, none⟩ = some (.string t) ∧ w'.cell? ⟨q, 1, none⟩ = some (.int .i64 K) ∧ w'.cell? ⟨q, 2, none⟩ = some (.int .i64 N) from fun w' tt => by
    have k := (tt.block q (Array.getElem?_eq_some_iff.1 KQ.out).1 fun e => by have := C1.out.g.hs q e; have := HCQ.out; omega).trans (show w1.drew.heap[q]? = some (.cells #[.string t, .int .i64 K, .int .i64 N] 23 (0, 0)) from KQ.out)
    exact ⟨k, (tt.cell (Array.getElem?_eq_some_iff.1 C1.out.g.box).1 fun e => by have := C1.out.g.hs i.x e; have := C1.out.g.cx.1; omega).trans (co_cell C1.out.g.box rfl), co_cell k rfl, co_cell k rfl, co_cell k rfl⟩)
  have S0 := Lib.hid (HS.out w1.drew (Turn.refl _ _))
  go_region_held3 (fun w' => w'.heap[q]? = some (.cells #[.string t, .int .i64 K, .int .i64 N] 23 (0, 0)) ∧ w'.cell? ⟨i.x, 15, none⟩ = some (.pointer (some ⟨i.bs, 0, none⟩)) ∧ w'.cell? ⟨q, 0, none⟩ = some (.string t) ∧ w'.cell? ⟨q, 1, none⟩ = some (.int .i64 K) ∧ w'.cell? ⟨q, 2, none⟩ = some (.int .i64 N))
    (first | assumption | exact S0.out | exact HS.out _ (by assumption))
    (first
      | (go_at_call 31; refine CSub.out.mono ?_; rintro e w2 ⟨rfl, hS, hT⟩))
  have C2 := Lib.hid (show CoX B0 w2 col i c W C { s with ss := gaveS s.ss si } iq from CD.out.slots hS hT)
  have E2 := Lib.hid ((E1.out.below ((Below.refl _ _).drew)).turn hT (fun k e => by rw [C1.out.g.hs k e]; decide))
  have K2 := Lib.hid (HS.out w2 hT).1
  have LM := Lib.hid (fun (w' : World) (hb : Below w2.heap.size w2 w') => gLeasts_any t K N w' (C2.out.below hb) ⟨by have := HM.out; omega, HT.out⟩)
  have S2 := Lib.hid (show Below w2.heap.size w2 w2.drew ∧ w2.drew.cell? ⟨q, 0, none⟩ = some (.string t) ∧ w2.drew.cell? ⟨q, 1, none⟩ = some (.int .i64 K) ∧ w2.drew.cell? ⟨q, 2, none⟩ = some (.int .i64 N) from ⟨(Below.refl _ _).drew, co_cell K2.out rfl, co_cell K2.out rfl, co_cell K2.out rfl⟩)
  have HKN := Lib.hid (show 1 ≤ c.kn + 1 ∧ c.kn + 1 ≤ 6 from by have := C2.out.g.hk; omega)
  have HLL := Lib.hid (leastsL_len c.ks t K (c.kn + 1))
  clear hS hT HS S0 CSub CD
  go_upto_region 6 with fail
  go_region_held3 (fun w' => Below w2.heap.size w2 w' ∧ w'.cell? ⟨q, 0, none⟩ = some (.string t) ∧ w'.cell? ⟨q, 1, none⟩ = some (.int .i64 K) ∧ w'.cell? ⟨q, 2, none⟩ = some (.int .i64 N))
    (first | assumption | exact S2.out | exact sub_carryG (by assumption) (by assumption))
    (first
      | (go_at_call 33; refine (LM.out _ (And.left (by assumption))).mono ?_; rintro e w3 ⟨a4, c4, rfl, hA, hb3⟩)
      | (go_at_call 32; refine (mnew_any a4 _ c4 _ N _ hA (by rw [HLL.out]; exact HKN.out) (by have := HM.out; omega)).mono ?_; rintro e w4 ⟨bm, Sm, rfl, hMM, hMge, hb4⟩))
  rename_i T4
  have hb24 : Below w2.heap.size w2 w4 := T4.1
  obtain ⟨-, p0, p1, p2⟩ := T4
  have hb23 : Below w2.heap.size w2 w3 := ((Below.refl w2.heap.size w2).drew).trans hb3
  have C3 := C2.out.below hb23
  have C4 := Lib.hid (C3.painted hb4 (10 + 4 * n + 3))
  have E4 := Lib.hid ((E2.out.below hb23).painted hb4 (10 + 4 * n + 3))
  have M4 : ∀ k, Sm k → newCol w3 w4 (10 + 4 * n + 3) col k = 10 + 4 * n + 3 := fun k hk => newCol_new (hMge k hk) (hMM.lt k hk)
  obtain ⟨cl4, hcl4⟩ : ∃ cc, newCol w3 w4 (10 + 4 * n + 3) col = cc := ⟨_, rfl⟩
  rw [hcl4] at C4 E4 M4
  obtain ⟨n1, hn1⟩ : ∃ n1, c.kn + 1 = n1 := ⟨_, rfl⟩
  have HN1 := Lib.hid hn1
  have hn6 : 1 ≤ n1 ∧ n1 ≤ 6 := by rw [← hn1]; exact HKN.out
  obtain ⟨i1, hi1, hy0, hy1, hy2⟩ := info_parts shard_infoG
  obtain ⟨w5, hrun, hown5, hgrow5⟩ := run_make_full (P := Tryz.prog) w4.drew w4.heap.size 94 143 i1 (.agg #[.int .i64 0, .int .i64 0, .int .i64 0, .bool false]) 4 Tryz.underlying94 hi1 hy0 hy1 .i64 .i64 n1 (by rw [hy2]; omega) (by unfold maxLen; omega) (Nat.le_refl _)
  obtain ⟨sb, hsbe⟩ : ∃ b, w4.heap.size = b := ⟨_, rfl⟩
  have hrun2 : (Instr.makeSlice 94 (.int .i64 (n1 : Int)) (.int .i64 (n1 : Int))).run Tryz.prog w4.drew = .ok (.slice (some ⟨w4.heap.size, 0, none⟩) n1 n1) w5 := hrun
  rw [madeG n1 hn6.2] at hown5
  have hsb := own_blockG hown5
  have hb45 : Below w4.heap.size w4 w5 := (Below.refl w4.heap.size w4).drew.trans ((below_grown hgrow5 (by intro k hk; cases hk)))
  rw [show w4.drew.heap.size = sb from hsbe] at hsb
  rw [hsbe] at hrun2
  have C5 := Lib.hid (C4.out.painted hb45 (10 + 4 * n + 2))
  have E5 := Lib.hid (E4.out.painted hb45 (10 + 4 * n + 2))
  have hsl : sb < w5.heap.size := (Array.getElem?_eq_some_iff.1 hsb).1
  have hs6 : newCol w4 w5 (10 + 4 * n + 2) cl4 sb = 10 + 4 * n + 2 := newCol_new (by omega) hsl
  have M5 : ∀ k, Sm k → newCol w4 w5 (10 + 4 * n + 2) cl4 k = 10 + 4 * n + 3 := fun k hk => (newCol_old (hMM.lt k hk)).trans (M4 k hk)
  obtain ⟨cl5, hcl5⟩ : ∃ cc, newCol w4 w5 (10 + 4 * n + 2) cl4 = cc := ⟨_, rfl⟩
  rw [hcl5] at C5 E5 hs6 M5
  have hM5 := hMM.below hb45
  obtain ⟨O, hO⟩ : ∃ O, (Obj.cells #[.int .i64 id, .string t, .int .i64 K, .int .i64 N, .slice none 0 0, .bool false, .bool false, .pointer (some ⟨bm, 0, none⟩), .slice (some ⟨sb, 0, none⟩) n1 n1] 96 (0, 0)) = O := ⟨_, rfl⟩
  have hb56 := below_one w5 O
  have C6 := Lib.hid (C5.out.painted hb56 (10 + 4 * n))
  have E6 := Lib.hid (E5.out.painted hb56 (10 + 4 * n))
  obtain ⟨qb, hqb⟩ : ∃ b, w5.heap.size = b := ⟨_, rfl⟩
  have K6 : (w5.alloc O).heap[qb]? = some O := by rw [← hqb]; exact heap_alloc_new w5 _
  obtain ⟨x, hx⟩ : ∃ x : QI, (⟨qb, none, 0, some ⟨bm, 0, none⟩, bm, some ⟨sb, 0, none⟩, n1, n1, sb⟩ : QI) = x := ⟨_, rfl⟩
  obtain ⟨cl6, hcl6⟩ : ∃ cc, newCol w5 (w5.alloc O) (10 + 4 * n) cl5 = cc := ⟨_, rfl⟩
  have hc6o : ∀ k, k < w5.heap.size → cl6 k = cl5 k := fun k hk => by rw [← hcl6]; exact newCol_old hk
  have hc6n : cl6 qb = 10 + 4 * n := by rw [← hcl6]; exact newCol_new (by omega) (Array.getElem?_eq_some_iff.1 K6).1
  rw [hcl6] at C6 E6
  have Q6 := Lib.hid (show QAtG (w5.alloc O) cl6 B0 (10 + 4 * n) id (newQ c t K N) x from by
    rw [← hx]
    refine ⟨by rw [K6, ← hO]; rfl, World.ownsRow_nil _ _ _ _, fun g hg => (by cases hg), hc6n, fun _ => ⟨rfl, Sm, ⟨_, hM5.below hb56, ?_⟩, fun k hk => (hc6o k (hM5.lt k hk)).trans (M5 k hk)⟩, fun _ => ⟨rfl, ?_, ?_, (hc6o sb hsl).trans hs6⟩⟩
    · show List.map spl (List.map mkS (leastsL c.ks t K (c.kn + 1))) = List.map mkS (leastsL c.ks t K (c.kn + 1))
      rw [List.map_map]; rfl
    · show n1 = (List.replicate (c.kn + 1) sh0).length
      rw [List.length_replicate, hn1]
    · show (w5.alloc O).heap[sb]? = some (.cells (shV (List.replicate (c.kn + 1) sh0)).toArray 143 (0, 0))
      rw [hn1]; exact (hb56.block sb hsl).trans hsb)
  have x1 : w4.cell? ⟨i.x, 12, none⟩ = some (.slice (some ⟨i.ca, 0, none⟩) n1 i.cc) := by rw [← hn1]; exact co_cell C4.out.g.box rfl
  have x17 : w4.cell? ⟨i.x, 17, none⟩ = some (.map (some i.bq)) := co_cell C4.out.g.box rfl
  have x17' : w5.cell? ⟨i.x, 17, none⟩ = some (.map (some i.bq)) := co_cell C5.out.g.box rfl
  have x17'' : (w5.alloc O).cell? ⟨i.x, 17, none⟩ = some (.map (some i.bq)) := co_cell C6.out.g.box rfl
  have pp0 : w5.cell? ⟨q, 0, none⟩ = some (.string t) := (hb45.cell (p := ⟨q, 0, none⟩) (lt_of_cell p0)).trans p0
  have pp1 : w5.cell? ⟨q, 1, none⟩ = some (.int .i64 K) := (hb45.cell (p := ⟨q, 1, none⟩) (lt_of_cell p1)).trans p1
  have pp2 : w5.cell? ⟨q, 2, none⟩ = some (.int .i64 N) := (hb45.cell (p := ⟨q, 2, none⟩) (lt_of_cell p2)).trans p2
  have wf : wfI id := by unfold wfI; have := PR.out; have := HID.out; exact wf64 (by omega)
  have MQ : MapV (w5.alloc O) i.bq n (qmG iq n) := by have h := C6.out.g.Q; dsimp only at h; rw [HN.out] at h; exact h
  obtain ⟨w7, hput, m7, t7⟩ := MapV.put_run mapTq MQ (by have := PR.out; unfold maxLen; omega) id (.pointer (some ⟨qb, 0, none⟩)) wf
  have hput2 : (Instr.mapUpdate 85 (.map (some i.bq)) (.int .i64 id) (.pointer (some ⟨qb, 0, none⟩))).run Tryz.prog (w5.alloc O) = .ok () w7 := hput
  have t7' : Turn (fun k => k = i.bq) (w5.alloc O) w7 := TurnV.of_mapTurned t7 rfl
  have m7' : MapV w7 i.bq (n + 1) (qmG (fun j => if j = n then x else iq j) (n + 1)) := by
    have h1 := m7
    rw [← HID.out, qmG_none, show qb = x.qb from by rw [← hx], qmG_put] at h1
    exact h1
  have C7 := Lib.hid (show ∃ iq', CoX B0 w7 cl6 i c W C (subC c t K N si s) iq' from by
    have hh := C6.out.asked (q := newQ c t K N) (x := x) (by exact t7') (by dsimp only; rw [HN.out]; exact m7') (by dsimp only; rw [HN.out, HID.out]; exact Q6.out.turn t7' (fun k e => by rw [e, C6.out.g.cq]; omega))
    exact ⟨_, hh⟩)
  have E7 := Lib.hid (E6.out.turn t7' (fun k e => by rw [e, C6.out.g.cq]; decide))
  clear C3 M4 hrun hown5 hgrow5 hsb hsl hs6 M5 hM5 hb56 K6 hb23 hb24 hb45 hMM hMge hA hb3 hb4 hcl4 hcl5 hcl6 hc6o hc6n m7 t7 t7' m7' MQ Q6 C5 E5 C6 E6 C4 E4 hput
  clear LM S2 C2 E2 C1 E1 KQ K2 HCQ hx hn1 hn6
  subst hO
  go_upto_region 7 with fail
  go_cut [] (fun wc => w7 = wc)
  case first =>
    go_region_law (fail)
    all_goals
      go_wp2_with fail
      go_meet
      rfl
  case rest =>
    subst hcut
    obtain ⟨iq7, hC7⟩ := C7.out
    have CA := Lib.hid (show Calls Tryz.prog 34 #[.pointer (some ⟨i.x, 0, none⟩), .int .i64 id] w7 (RetC B0 w7 cl6 i c W C (advS c si n (subC c t K N si s)) (advL W si n (subC c t K N si s))) from by
      have hg : (subC c t K N si s).qs.getD n q0 = newQ c t K N := by unfold subC; dsimp only; rw [← HN.out]; simp [List.getD_eq_getElem?_getD]
      rw [← HID.out]
      refine gAdvance_any si n w7 hC7 (by unfold subC; dsimp only; rw [List.length_append, HN.out]; simp) (gaveS_good PR.out.1 PR.out.2.2.2.1) ⟨PR.out.2.2.2.1, ?_, by omega⟩ (by have := PR.out; unfold subC; dsimp only; rw [List.length_append, HN.out]; simp; omega) PR.out.2.2.2.2.2 (by rw [hg]; rfl) (by rw [hg]; unfold newQ; dsimp only; rw [List.length_map, HLL.out]; have := HKN.out; omega) (by rw [hg]; exact HM.out.2.1.2) (by rw [hg]; exact Nat.zero_le _)
      show (gaveS s.ss si).L si = ((n + 1 : Nat) : Int)
      unfold gaveS; dsimp only; rw [upd_at, PR.out.2.1]; omega)
    clear hC7 x1 x17 x17' x17'' p0 p1 p2 pp0 pp1 pp2 hrun2 hput2 wf
    obtain ⟨L, hL⟩ : ∃ L, advL W si n (subC c t K N si s) = L := ⟨_, rfl⟩
    have HL2 := Lib.hid hL
    rw [hL] at CA
    clear hL
    go_wp2_with fail
    refine CA.out.mono ?_
    rintro e w8 ⟨col', iq', a, cc, rfl, h1, h2, h3, h4⟩
    have FIN := Lib.hid (show RetC3 B0 w col i c W C 3 id (advS c si n (subC c t K N si s)) (advL W si n (subC c t K N si s)) (.returned (.tuple #[.int .i64 3, .int .i64 id, .slice a L.length cc])) w8 from by rw [HL2.out]; exact ⟨col', iq', a, cc, rfl, h1, E7.out.trans h2, base_less24 h3 E7.out.1.size, h4⟩)
    clear h1 h2 h3 h4
    go_wp2_with fail
    exact bodyPost_ret (v := .tuple #[.int .i64 3, .int .i64 id, .slice a L.length cc]) (by simp [results, go_sem]) rfl FIN.out
end
end Go.Proofs.YtblipdmagfiigaaGreat
