/- texts joined -/
import Derived.WalkKit
import Derived.ProofKit
import Derived.OpenShut
import Derived.Lib.SmallJoins
import Derived.Lib.Hide
import Derived.Deep.Slices
import Derived.OwnWalk
import Derived.Laws.AppendOwnNone
import Derived.Test.YtblipdmagfiigaaGreatChecked
import Derived.WalkLawsBesides
import Derived.Outline
import Derived.Sort.Walk0
import Derived.Laws.RangeAny
import Derived.Lib.DecodeN
import Derived.Deep.QuietTactic
import Derived.BigQuiet
import Derived.SliceStrings
import Derived.Deep.RegionWith
import Derived.Deep.DeepCutAuto
import Derived.Deep.RegionHeld3
import Derived.Lib.OthersKept
import Derived.Maps.OwnSet
import Derived.WalkArith
import Derived.BigRegion
import Derived.Deep.AppendLies
import Derived.Deep.RegionLaw
import Derived.Laws.OwnMore
import Derived.Lib.SliceRun
import Derived.Sort.Grow
import Derived.Laws.AppendOwn
import Derived.Carry
import Derived.WalkSpells
import Derived.StillTailTactics
import Derived.Laws.BitsAllLaws
import Derived.Lib.AppendStr
import Derived.Lib.Strings
import Derived.Lib.ConvBytes
import Derived.Laws.DeepBits32
import Derived.Laws.BytesArg
import Derived.Lib.SlBytesRow
import Derived.Test.YtblipdmagfiigaaGreatPkXB
namespace Go.Proofs.YtblipdmagfiigaaGreat
open Go.RowKit
set_option linter.unusedVariables false
set_option maxRecDepth 20000
theorem clone24 (w : World) : Calls Tryz.prog 51 #[.slice none 0 0] w fun e w' => e = .returned (.slice none 0 0) ∧ w = w' := by
  have he := fun w => Lib.run_eql_slice_nil (P := Tryz.prog) w 51 105 none 0 0 0 0 Tryz.underlying51
  go_enter Tryz.func51, Tryz.ntmps51
  go_wp2_with fail
  go_ret
  exact ⟨rfl, rfl⟩
theorem list_info24 : (Tryz.prog.info? 54).map (fun i => (i.zero, i.size, i.bytes)) = some (some (.slice none 0 0), 1, 24) := by kernel_rfl
/-- the coordinator while it is made -/
def CoB0 (w : World) (q x bq : Nat) (B : Nat) (ca : Option Addr) (cn cc : Nat) (bl bs bt : Option Nat) : Prop := w.heap[q]? = some (.cells #[.slice (some ⟨B + 1, 0, none⟩) 3 3, .slice none 0 0, .int .i64 1, .int .i64 1, .int .i64 1, .int .i64 2, .int .i64 5, .int .i64 9, .int .i64 2, .int .i64 4, .int .i64 0, .int .i64 8] 53 (0, 0)) ∧ CoBox w x ca cn cc bl bs bt bq
theorem CoB0.below {w w' : World} {q x bq B : Nat} {ca : Option Addr} {cn cc : Nat} {bl bs bt : Option Nat} (h : CoB0 w q x bq B ca cn cc bl bs bt) (hb : Below w.heap.size w w') : CoB0 w' q x bq B ca cn cc bl bs bt :=
  ⟨(hb.block _ (Array.getElem?_eq_some_iff.1 h.1).1).trans h.1, (hb.block _ (Array.getElem?_eq_some_iff.1 h.2).1).trans h.2⟩
theorem CoB0.set {w : World} {q x bq B : Nat} {ca ca' : Option Addr} {cn cc cn' cc' : Nat} {bl bs bt bl' bs' bt' : Option Nat} (h : CoB0 w q x bq B ca cn cc bl bs bt) (hn : q ≠ x) (i : Nat) (v : Value) (e : (coC ca cn cc bl bs bt bq).setIfInBounds i v = coC ca' cn' cc' bl' bs' bt' bq) : CoB0 (w.setCell ⟨x, i, none⟩ v) q x bq B ca' cn' cc' bl' bs' bt' :=
  ⟨(Below.heap_setCell _ _ _ _ hn).trans h.1, by unfold CoBox; rw [Go.heap_setCell_same w x i _ _ v h.2, e]⟩
theorem co_cell {w : World} {p i : Nat} {v : Value} {cs : Array Value} {t : TypeId} {fr : Nat × Nat} (h : w.heap[p]? = some (.cells cs t fr)) (h0 : cs[i]? = some v) : w.cell? ⟨p, i, none⟩ = some v := by
  simp [World.cell?, h, h0]
theorem co_fz {w : World} {p : Nat} {cs : Array Value} {t : TypeId} (h : w.heap[p]? = some (.cells cs t (0, 0))) (i : Nat) : w.frozen? ⟨p, i, none⟩ = false := by
  simp [World.frozen?, h]
theorem own_cell24 {w : World} {B c : Nat} {e : TypeId} {a : Option Addr} {v : Value} (h : w.ownsRow B e 1 (.slice a 1 c) 1 [v]) : ∃ g, a = some ⟨g, 0, none⟩ ∧ B ≤ g ∧ w.cell? ⟨g, 0, none⟩ = some v := by
  rcases h.2 with ⟨h0, h1⟩ | ⟨g, cap, cur, hv, hg, hh, _, _, hs, hx⟩
  · cases h1
  · injection hv with hv _ _
    refine ⟨g, hv, hg, ?_⟩
    rw [Lib.cell_of_heap hh, ← Array.getElem?_toList]
    have h3 : (cur.toList.take (1 * 1))[0]? = ([v] : List Value)[0]? := by rw [hx]
    rw [List.getElem?_take_of_lt (by omega)] at h3
    rw [h3]; rfl
theorem set_ne24 {w : World} {x i b o : Nat} {v : Value} (h : x ≠ b) : (w.setCell ⟨x, i, none⟩ v).cell? ⟨b, o, none⟩ = w.cell? ⟨b, o, none⟩ := World.cell?_setCell_other _ _ _ _ (by intro e; injection e with e; exact h e)
/-- the copies are there -/
def Mid24 (w wr : World) (q x bq B ca cc cw c2 : Nat) : Prop := CoB0 wr q x bq B (some ⟨ca, 0, none⟩) 1 cc none none none ∧ wr.cell? ⟨ca, 0, none⟩ = some (.slice (some ⟨cw, 0, none⟩) 1 c2) ∧ wr.cell? ⟨cw, 0, none⟩ = some (.int .i64 1) ∧ MapV wr bq 0 (fun _ => none) ∧ Below w.heap.size w wr ∧ x < ca ∧ x < cw
/-- the coordinator while its parts are made -/
structure Late24 (w wr : World) (q x bq B p ca cc cw c2 : Nat) (bl bs bt : Option Nat) : Prop where
  k : CoB0 wr q x bq B (some ⟨ca, 0, none⟩) 1 cc bl bs bt
  a : wr.heap[p]? = some (.cells #[.int .i64 0, .int .i64 0, .int .i64 0] 112 (0, 0))
  r1 : wr.cell? ⟨ca, 0, none⟩ = some (.slice (some ⟨cw, 0, none⟩) 1 c2)
  r2 : wr.cell? ⟨cw, 0, none⟩ = some (.int .i64 1)
  m : MapV wr bq 0 (fun _ => none)
  b : Below w.heap.size w wr
  o : q < bq ∧ bq < x ∧ x < ca ∧ x < cw ∧ ca < p ∧ cw < p ∧ w.heap.size ≤ bq ∧ p < wr.heap.size
theorem Late24.below {w wr w' : World} {q x bq B p ca cc cw c2 : Nat} {bl bs bt : Option Nat} (h : Late24 w wr q x bq B p ca cc cw c2 bl bs bt) (hb : Below wr.heap.size wr w') : Late24 w w' q x bq B p ca cc cw c2 bl bs bt :=
  ⟨h.k.below hb, (hb.block _ (Array.getElem?_eq_some_iff.1 h.a).1).trans h.a, (hb.cell (p := ⟨ca, 0, none⟩) (lt_of_cell h.r1)).trans h.r1, (hb.cell (p := ⟨cw, 0, none⟩) (lt_of_cell h.r2)).trans h.r2, h.m.below hb, h.b.trans (hb.mono h.b.size), by have := h.o; have := hb.size; omega⟩
theorem Late24.setx {w wr : World} {q x bq B p ca cc cw c2 : Nat} {bl bs bt bl' bs' bt' : Option Nat} (h : Late24 w wr q x bq B p ca cc cw c2 bl bs bt) (i : Nat) (v : Value) (e : (coC (some ⟨ca, 0, none⟩) 1 cc bl bs bt bq).setIfInBounds i v = coC (some ⟨ca, 0, none⟩) 1 cc bl' bs' bt' bq) (j : Nat) (ej : (#[.int .i64 0, .int .i64 0, .int .i64 0] : Array Value).setIfInBounds j (.int .i64 0) = #[.int .i64 0, .int .i64 0, .int .i64 0]) : Late24 w ((wr.setCell ⟨x, i, none⟩ v).setCell ⟨p, j, none⟩ (.int .i64 0)) q x bq B p ca cc cw c2 bl' bs' bt' := by
  obtain ⟨o1, o2, o3, o4, o5, o6, o7, o8⟩ := h.o
  have k1 := h.k.set (by omega) i v e
  refine ⟨⟨(Below.heap_setCell _ _ _ _ (by dsimp only; omega)).trans k1.1, (Below.heap_setCell _ _ _ _ (by dsimp only; omega)).trans k1.2⟩, ?_, ((set_ne24 (by omega)).trans (set_ne24 (by omega))).trans h.r1, ((set_ne24 (by omega)).trans (set_ne24 (by omega))).trans h.r2, (h.m.setCell (by omega)).setCell (by omega), ?_, ?_⟩
  · rw [Go.heap_setCell_same _ p j _ _ (.int .i64 0) ((Below.heap_setCell _ _ _ _ (by dsimp only; omega)).trans h.a), ej]
  · exact h.b.trans (((Turn.setCell (F := fun k => k = x ∨ k = p) (Or.inl rfl)).trans (Turn.setCell (F := fun k => k = x ∨ k = p) (Or.inr rfl))).below (fun k e => by rcases e with rfl | rfl <;> omega) h.b.size)
  · simp; omega
theorem late_turn (wr : World) (x p i j : Nat) (v u : Value) : Turn (fun k => k = x ∨ k = p) wr ((wr.setCell ⟨x, i, none⟩ v).setCell ⟨p, j, none⟩ u) := (Turn.setCell (F := fun k => k = x ∨ k = p) (Or.inl rfl)).trans (Turn.setCell (F := fun k => k = x ∨ k = p) (Or.inr rfl))
theorem eq24 (w : World) : (Op.equalIn 10000 112 (.agg #[.int .i64 0, .int .i64 0, .int .i64 0]) (.agg #[.int .i64 0, .int .i64 0, .int .i64 0])).run Tryz.prog w = .ok true w := by kernel_rfl
open Classical in
noncomputable def col24 (x ca cw bl bs bo ba bq : Nat) (St : Nat → Prop) (k : Nat) : Nat := if k = x ∨ k = ca ∨ k = cw then 0 else if k = bl then 1 else if k = bs ∨ k = bo ∨ k = ba then 2 else if St k then 3 else if k = bq then 4 else 9
def NewP24 (w : World) (e : Ending) (w' : World) : Prop := ∃ col x ca cc cw c2 bl bs bo ba bt bq, e = .returned (.tuple #[.pointer (some ⟨x, 0, none⟩), .int .i64 0]) ∧ CoS w.heap.size w' col x ca cc cw c2 bl bs bo ba bt bq 0 (newS 1 5) (newSl 1) [] (fun _ => none) ∧ Below w.heap.size w w'
set_option maxRecDepth 100000 in
set_option maxHeartbeats 3200000 in
theorem cnew_any (B : Nat) (w : World) (h : CfgOk w (cfg24 B)) : Calls Tryz.prog 22 #[.agg #[.slice (some ⟨B + 1, 0, none⟩) 3 3, .slice none 0 0, .int .i64 1, .int .i64 1, .int .i64 1, .int .i64 2, .int .i64 5, .int .i64 9, .int .i64 2, .int .i64 4, .int .i64 0, .int .i64 8]] w (NewP24 w) := by
  have CM := Lib.hid (fun (w' : World) (hb : Below w.heap.size w w') => (show Calls Tryz.prog 20 #[.agg #[.slice (some ⟨B + 1, 0, none⟩) 3 3, .slice none 0 0, .int .i64 1, .int .i64 1, .int .i64 1, .int .i64 2, .int .i64 5, .int .i64 9, .int .i64 2, .int .i64 4, .int .i64 0, .int .i64 8]] w' fun e w'' => e = .returned (.bool true) ∧ Below w'.heap.size w' w'' from may_cfg (cfg24 B) true w' (h.below hb) (may_cfg24 B)))
  have CS := Lib.hid (fun (w' : World) (hb : Below w.heap.size w w') => (show Calls Tryz.prog 24 #[.agg #[.slice (some ⟨B + 1, 0, none⟩) 3 3, .slice none 0 0, .int .i64 1, .int .i64 1, .int .i64 1, .int .i64 2, .int .i64 5, .int .i64 9, .int .i64 2, .int .i64 4, .int .i64 0, .int .i64 8]] w' fun e w'' => e = .returned (.int .i64 1) ∧ Below w'.heap.size w' w'' from shards_any (cfg24 B) w' (h.below hb) (may_cfg24 B)))
  have CC := Lib.hid (fun (w' : World) (hb : Below w.heap.size w w') => (show Calls Tryz.prog 27 #[.agg #[.slice (some ⟨B + 1, 0, none⟩) 3 3, .slice none 0 0, .int .i64 1, .int .i64 1, .int .i64 1, .int .i64 2, .int .i64 5, .int .i64 9, .int .i64 2, .int .i64 4, .int .i64 0, .int .i64 8], .int .i64 ((0 : Nat) : Int)] w' (RetZ w' [1]) from copies_in (cfg24 B) 0 1 1 w' (h.below hb) (may_cfg24 B) (show 0 < 0 + 1 by decide) rfl rfl))
  have BX := Lib.hid (below_one w (.cells #[.slice (some ⟨B + 1, 0, none⟩) 3 3, .slice none 0 0, .int .i64 1, .int .i64 1, .int .i64 1, .int .i64 2, .int .i64 5, .int .i64 9, .int .i64 2, .int .i64 4, .int .i64 0, .int .i64 8] 53))
  obtain ⟨q, hq⟩ : ∃ q, w.heap.size = q := ⟨_, rfl⟩
  have KX := Lib.hid (show (w.alloc (.cells #[.slice (some ⟨B + 1, 0, none⟩) 3 3, .slice none 0 0, .int .i64 1, .int .i64 1, .int .i64 1, .int .i64 2, .int .i64 5, .int .i64 9, .int .i64 2, .int .i64 4, .int .i64 0, .int .i64 8] 53)).heap[q]? = some (.cells #[.slice (some ⟨B + 1, 0, none⟩) 3 3, .slice none 0 0, .int .i64 1, .int .i64 1, .int .i64 1, .int .i64 2, .int .i64 5, .int .i64 9, .int .i64 2, .int .i64 4, .int .i64 0, .int .i64 8] 53 (0, 0)) from by rw [← hq]; exact heap_alloc_new w _)
  have HQ := Lib.hid hq
  have hmm := @run_makeMap Tryz.prog
  clear h
  go_enter Tryz.func22, Tryz.ntmps22
  go_wp2_with fail
  refine (CM.out _ BX.out).mono ?_
  rintro e w2 ⟨rfl, hb2⟩
  have B2 := Lib.hid (BX.out.trans (hb2.mono BX.out.size))
  have K2 := Lib.hid (show w2.heap[q]? = some (.cells #[.slice (some ⟨B + 1, 0, none⟩) 3 3, .slice none 0 0, .int .i64 1, .int .i64 1, .int .i64 1, .int .i64 2, .int .i64 5, .int .i64 9, .int .i64 2, .int .i64 4, .int .i64 0, .int .i64 8] 53 (0, 0)) from (hb2.block _ (Array.getElem?_eq_some_iff.1 KX.out).1).trans KX.out)
  clear hb2
  have f0 : w2.cell? ⟨q, 0, none⟩ = some (.slice (some ⟨B + 1, 0, none⟩) 3 3) := co_cell K2.out rfl
  have f1 : w2.cell? ⟨q, 1, none⟩ = some (.slice none 0 0) := co_cell K2.out rfl
  have f2 : w2.cell? ⟨q, 2, none⟩ = some (.int .i64 1) := co_cell K2.out rfl
  have f3 : w2.cell? ⟨q, 3, none⟩ = some (.int .i64 1) := co_cell K2.out rfl
  have f4 : w2.cell? ⟨q, 4, none⟩ = some (.int .i64 1) := co_cell K2.out rfl
  have f5 : w2.cell? ⟨q, 5, none⟩ = some (.int .i64 2) := co_cell K2.out rfl
  have f6 : w2.cell? ⟨q, 6, none⟩ = some (.int .i64 5) := co_cell K2.out rfl
  have f7 : w2.cell? ⟨q, 7, none⟩ = some (.int .i64 9) := co_cell K2.out rfl
  have f8 : w2.cell? ⟨q, 8, none⟩ = some (.int .i64 2) := co_cell K2.out rfl
  have f9 : w2.cell? ⟨q, 9, none⟩ = some (.int .i64 4) := co_cell K2.out rfl
  have f10 : w2.cell? ⟨q, 10, none⟩ = some (.int .i64 0) := co_cell K2.out rfl
  have f11 : w2.cell? ⟨q, 11, none⟩ = some (.int .i64 8) := co_cell K2.out rfl
  go_upto_region 5 with fail
  obtain ⟨bq, hbq⟩ : ∃ b, w2.heap.size = b := ⟨_, rfl⟩
  obtain ⟨x, hx⟩ : ∃ x, bq + 1 = x := ⟨_, rfl⟩
  have hq2 : q < bq := by have := (Array.getElem?_eq_some_iff.1 K2.out).1; omega
  have hb5 : Below w2.heap.size w2 ((w2.alloc (.map #[] 0)).alloc (.cells (coC none 0 0 none none none bq) 87)) := (below_one w2 _).trans ((below_one _ _).mono (by simp))
  have K5 := Lib.hid (show CoB0 ((w2.alloc (.map #[] 0)).alloc (.cells (coC none 0 0 none none none bq) 87)) q x bq B none 0 0 none none none from ⟨(hb5.block _ (by omega)).trans K2.out, by
    have h := heap_alloc_new (w2.alloc (.map #[] 0)) (.cells (coC none 0 0 none none none bq) 87)
    rw [show (w2.alloc (.map #[] 0)).heap.size = x from by simp [hbq, hx]] at h
    exact h⟩)
  have Q5 := Lib.hid (show MapV ((w2.alloc (.map #[] 0)).alloc (.cells (coC none 0 0 none none none bq) 87)) bq 0 (fun _ => none) from by
    have h := mapV_made w2
    rw [hbq] at h
    exact h.below (below_one _ _))
  have B5 := Lib.hid (B2.out.trans (hb5.mono B2.out.size))
  have HS5 := Lib.hid (show bq + 2 ≤ ((w2.alloc (.map #[] 0)).alloc (.cells (coC none 0 0 none none none bq) 87)).heap.size from by simp [hbq])
  have HW2 := Lib.hid (show w.heap.size ≤ bq from by rw [← hbq]; exact B2.out.size)
  rw [hbq]
  show Code.wp _ _ _ _ ((w2.alloc (.map #[] 0)).alloc (.cells (coC none 0 0 none none none bq) 87))
  rw [hx]
  generalize (w2.alloc (.map #[] 0)).alloc (.cells (coC none 0 0 none none none bq) 87) = w5 at *
  have HX := Lib.hid (show x = bq + 1 from hx.symm)
  have hqx : q ≠ x := by omega
  clear hb5 hbq hx K2 B2 BX KX CM f0 f1 f2 f3 f4 f5 f6 f7 f8 f9 f10 f11
  have f1 : w5.cell? ⟨q, 1, none⟩ = some (.slice none 0 0) := co_cell K5.out.1 rfl
  have g1 : w5.cell? ⟨x, 1, none⟩ = some (.slice none 0 0) := co_cell K5.out.2 rfl
  have z1 := co_fz K5.out.2 1
  go_wp2_with fail
  refine (clone24 _).mono ?_
  rintro e w6 ⟨rfl, rfl⟩
  go_upto_region 6 with fail
  have hb6 : Below w.heap.size w5 (w5.setCell ⟨x, 1, none⟩ (.slice none 0 0)) := (Turn.setCell (F := fun k => k = x) rfl).below (fun k e => by have := HX.out; have := HW2.out; omega) B5.out.size
  have K6 := Lib.hid (K5.out.set (ca' := none) (cn' := 0) (cc' := 0) (bl' := none) (bs' := none) (bt' := none) hqx 1 (.slice none 0 0) rfl)
  have Q6 := Lib.hid (Q5.out.setCell (p := x) (o := 1) (v := .slice none 0 0) (by have := HX.out; omega))
  have B6 := Lib.hid (B5.out.trans hb6)
  clear hb6 f1 g1 z1 K5 Q5 B5 HS5
  generalize w5.setCell ⟨x, 1, none⟩ (.slice none 0 0) = w6 at *
  have f0 : w6.cell? ⟨q, 0, none⟩ = some (.slice (some ⟨B + 1, 0, none⟩) 3 3) := co_cell K6.out.1 rfl
  have f1 : w6.cell? ⟨q, 1, none⟩ = some (.slice none 0 0) := co_cell K6.out.1 rfl
  have f2 : w6.cell? ⟨q, 2, none⟩ = some (.int .i64 1) := co_cell K6.out.1 rfl
  have f3 : w6.cell? ⟨q, 3, none⟩ = some (.int .i64 1) := co_cell K6.out.1 rfl
  have f4 : w6.cell? ⟨q, 4, none⟩ = some (.int .i64 1) := co_cell K6.out.1 rfl
  have f5 : w6.cell? ⟨q, 5, none⟩ = some (.int .i64 2) := co_cell K6.out.1 rfl
  have f6 : w6.cell? ⟨q, 6, none⟩ = some (.int .i64 5) := co_cell K6.out.1 rfl
  have f7 : w6.cell? ⟨q, 7, none⟩ = some (.int .i64 9) := co_cell K6.out.1 rfl
  have f8 : w6.cell? ⟨q, 8, none⟩ = some (.int .i64 2) := co_cell K6.out.1 rfl
  have f9 : w6.cell? ⟨q, 9, none⟩ = some (.int .i64 4) := co_cell K6.out.1 rfl
  have f10 : w6.cell? ⟨q, 10, none⟩ = some (.int .i64 0) := co_cell K6.out.1 rfl
  have f11 : w6.cell? ⟨q, 11, none⟩ = some (.int .i64 8) := co_cell K6.out.1 rfl
  go_wp2_with fail
  refine (CS.out _ B6.out).mono ?_
  rintro e w7 ⟨rfl, hb7⟩
  have K7 := Lib.hid (K6.out.below hb7)
  have Q7 := Lib.hid (Q6.out.below hb7)
  have B7 := Lib.hid (B6.out.trans (hb7.mono B6.out.size))
  clear hb7 K6 Q6 B6 CS f0 f1 f2 f3 f4 f5 f6 f7 f8 f9 f10 f11
  go_wp2_with fail
  go_loopw [27] (fun iv wr => (iv = .int .i64 0 ∧ wr = w7) ∨ (iv = .int .i64 1 ∧ ∃ ca cc cw c2, Hid (Mid24 w wr q x bq B ca cc cw c2))) (fun iv _ => 1 - (intOf iv).toNat)
  case atStart => exact Or.inl ⟨rfl, rfl⟩
  case round =>
    rcases hrel with ⟨rfl, rfl⟩ | ⟨rfl, ca, cc, cw, c2, hM⟩
    · obtain ⟨i0, hi, hz0, hz1, hz2⟩ := info_parts list_info24
      have f0 : wr.cell? ⟨q, 0, none⟩ = some (.slice (some ⟨B + 1, 0, none⟩) 3 3) := co_cell K7.out.1 rfl
      have f1 : wr.cell? ⟨q, 1, none⟩ = some (.slice none 0 0) := co_cell K7.out.1 rfl
      have f2 : wr.cell? ⟨q, 2, none⟩ = some (.int .i64 1) := co_cell K7.out.1 rfl
      have f3 : wr.cell? ⟨q, 3, none⟩ = some (.int .i64 1) := co_cell K7.out.1 rfl
      have f4 : wr.cell? ⟨q, 4, none⟩ = some (.int .i64 1) := co_cell K7.out.1 rfl
      have f5 : wr.cell? ⟨q, 5, none⟩ = some (.int .i64 2) := co_cell K7.out.1 rfl
      have f6 : wr.cell? ⟨q, 6, none⟩ = some (.int .i64 5) := co_cell K7.out.1 rfl
      have f7 : wr.cell? ⟨q, 7, none⟩ = some (.int .i64 9) := co_cell K7.out.1 rfl
      have f8 : wr.cell? ⟨q, 8, none⟩ = some (.int .i64 2) := co_cell K7.out.1 rfl
      have f9 : wr.cell? ⟨q, 9, none⟩ = some (.int .i64 4) := co_cell K7.out.1 rfl
      have f10 : wr.cell? ⟨q, 10, none⟩ = some (.int .i64 0) := co_cell K7.out.1 rfl
      have f11 : wr.cell? ⟨q, 11, none⟩ = some (.int .i64 8) := co_cell K7.out.1 rfl
      have g12 : wr.cell? ⟨x, 12, none⟩ = some (.slice none 0 0) := co_cell K7.out.2 rfl
      have z12 := co_fz K7.out.2 12
      have CC7 := Lib.hid (show Calls Tryz.prog 27 #[.agg #[.slice (some ⟨B + 1, 0, none⟩) 3 3, .slice none 0 0, .int .i64 1, .int .i64 1, .int .i64 1, .int .i64 2, .int .i64 5, .int .i64 9, .int .i64 2, .int .i64 4, .int .i64 0, .int .i64 8], .int .i64 0] wr.drew (RetZ wr.drew [1]) from CC.out wr.drew (B7.out.trans ((Below.refl _ _).drew.mono B7.out.size)))
      have XL := Lib.hid (show x < wr.heap.size from (Array.getElem?_eq_some_iff.1 K7.out.2).1)
      have G12 := Lib.hid (show ∀ w8, Below wr.drew.heap.size wr.drew w8 → w8.cell? ⟨x, 12, none⟩ = some (.slice none 0 0) ∧ w8.frozen? ⟨x, 12, none⟩ = false from fun w8 hb => by
        have h := (K7.out.below ((Below.refl _ _).drew.trans hb))
        exact ⟨co_cell h.2 rfl, co_fz h.2 12⟩)
      go_upto_region 9 with fail
      go_region_law
        (first
          | (go_simp; go_at_call 27; (with_reducible refine CC7.out.mono ?_); rintro e w8 ⟨ra, rc, rfl, ho8, hb8⟩; obtain ⟨g8, gz8⟩ := G12.out _ hb8; obtain ⟨g8a, gz8a⟩ := G12.out _ (hb8.trans ((below_one w8 (.cells #[.slice ra 1 rc] 54)).mono hb8.size)))
          | (refine step_append_some (by rfl) _ _ _ (by rfl) _ 54 i0 _ 1 24 Tryz.underlying81 hi hz0 hz1 hz2 rfl (by omega) (.slice none 0 0) 0 [] (by rfl) (World.ownsRow_nil _ _ _ _) _ 1 1 [.slice ra 1 rc] (by rfl) (by rfl) (World.news_of_block (heap_alloc_new _ _)) (by simp [Value.oneCell']) (by unfold maxLen; omega) (by omega) (Nat.le_refl _) 1 _ rfl rfl ?_; intro a9 c9 w9 hown9 hb9 hnil9; have hb99 := (hb8.trans ((below_one w8 (.cells #[.slice ra 1 rc] 54)).mono hb8.size)).trans (hb9.mono (Nat.le_trans hb8.size (by simp))); obtain ⟨g9, gz9⟩ := G12.out _ hb99))
      all_goals
        have hbW : Below wr.heap.size wr w9 := (Below.refl _ _).drew.trans hb99
        have hdr : wr.drew.heap.size = wr.heap.size := rfl
        have hz8 : (w8.alloc (.cells #[.slice ra 1 rc] 54)).heap.size = w8.heap.size + 1 := by simp
        have hs8 := hb8.size
        rw [hz8] at hown9
        have K9 := K7.out.below hbW
        have Q9 := Q7.out.below hbW
        have hcw : w9.heap[x]? = some (.cells (coC none 0 0 none none none bq) 87 (0, 0)) := K9.2
        obtain ⟨cw, rfl, hcw1, hcw2⟩ := own_cell24 ho8
        obtain ⟨ca, rfl, hca1, hca2⟩ := own_cell24 hown9
        have hcw3 : w9.cell? ⟨cw, 0, none⟩ = some (.int .i64 1) := (((below_one w8 (.cells #[.slice (some ⟨cw, 0, none⟩) 1 rc] 54)).trans (hb9.mono (by simp))).cell (p := ⟨cw, 0, none⟩) (lt_of_cell hcw2)).trans hcw2
        have hxl := XL.out
        have M9 := Lib.hid (show Mid24 w (w9.setCell ⟨x, 12, none⟩ (.slice (some ⟨ca, 0, none⟩) 1 c9)) q x bq B ca c9 cw rc from
          ⟨K9.set hqx 12 _ rfl, (set_ne24 (by omega)).trans hca2, (set_ne24 (by omega)).trans hcw3, Q9.setCell (by have := HX.out; omega), (B7.out.trans (hbW.mono B7.out.size)).trans ((Turn.setCell (F := fun k => k = x) rfl).below (fun k e => by have := HX.out; have := HW2.out; omega) (Nat.le_trans B7.out.size hbW.size)), by omega, by omega⟩)
        clear hbW K9 Q9 hcw hcw1 hcw2 hca1 hca2 hcw3 hxl
        go_wp2_with fail
        go_roundw
        case rel => exact Or.inr ⟨rfl, ca, c9, cw, rc, M9⟩
        case measure => simp [intOf]
    · go_upto_region 12 with fail
      obtain ⟨k1, r1, r2, m1, b1, o1, o2⟩ := hM.out
      obtain ⟨p, hp⟩ : ∃ p, wr.heap.size = p := ⟨_, rfl⟩
      have hbA := below_one wr (.cells #[.int .i64 0, .int .i64 0, .int .i64 0] 112)
      have LA := Lib.hid (show Late24 w (wr.alloc (.cells #[.int .i64 0, .int .i64 0, .int .i64 0] 112)) q x bq B p ca cc cw c2 none none none from
        ⟨k1.below hbA, by rw [← hp]; exact heap_alloc_new wr _, (hbA.cell (p := ⟨ca, 0, none⟩) (lt_of_cell r1)).trans r1, (hbA.cell (p := ⟨cw, 0, none⟩) (lt_of_cell r2)).trans r2, m1.below hbA, b1.trans (hbA.mono b1.size), by have := lt_of_cell r1; have := lt_of_cell r2; have := HX.out; have := HW2.out; simp; omega⟩)
      rw [hp]
      generalize wr.alloc (.cells #[.int .i64 0, .int .i64 0, .int .i64 0] 112) = wa at *
      clear k1 r1 r2 m1 b1 o1 o2 hM hbA hp K7 Q7 B7 CC
      have f2 : wa.cell? ⟨q, 2, none⟩ = some (.int .i64 1) := co_cell LA.out.k.1 rfl
      have f6 : wa.cell? ⟨q, 6, none⟩ = some (.int .i64 5) := co_cell LA.out.k.1 rfl
      go_wp2_with fail
      refine (new_good 1 5 wa (by decide)).mono ?_
      rintro e wb ⟨rfl, hwb⟩
      have hbb : Below wa.heap.size wa wb := by rw [hwb]; exact below_one wa _
      have TB := Lib.hid (show Tab wb wa.heap.size (newS 1 5) from by rw [hwb]; exact new_is_tab wa 1 5 _)
      obtain ⟨bl, hbl⟩ : ∃ b, wa.heap.size = b := ⟨_, rfl⟩
      rw [hbl] at TB
      have LB := Lib.hid (LA.out.below hbb)
      have OL := Lib.hid (show p < bl from by have := LA.out.o; omega)
      clear hbb hwb LA f2 f6
      have g14 : wb.cell? ⟨x, 14, none⟩ = some (.pointer none) := co_cell LB.out.k.2 rfl
      have z14 := co_fz LB.out.k.2 14
      have a0 : wb.cell? ⟨p, 0, none⟩ = some (.int .i64 0) := co_cell LB.out.a rfl
      have y0 := co_fz LB.out.a 0
      rw [hbl]
      go_upto_region 13 with fail
      have LC := Lib.hid (LB.out.setx (bl' := some bl) (bs' := none) (bt' := none) 14 (.pointer (some ⟨bl, 0, none⟩)) rfl 0 rfl)
      have tC := late_turn wb x p 14 0 (.pointer (some ⟨bl, 0, none⟩)) (.int .i64 0)
      have TC := Lib.hid (TB.out.block (tC.block bl TB.out.lt (fun e => by have := LB.out.o; have := OL.out; omega)))
      clear tC TB LB g14 z14 a0 y0 hbl
      generalize (wb.setCell ⟨x, 14, none⟩ (.pointer (some ⟨bl, 0, none⟩))).setCell ⟨p, 0, none⟩ (.int .i64 0) = wc at *
      have f4 : wc.cell? ⟨q, 4, none⟩ = some (.int .i64 1) := co_cell LC.out.k.1 rfl
      have CSl := Lib.hid (show Calls Tryz.prog 53 #[.int .i64 1] wc fun e w' => ∃ b bo ba, e = .returned (.tuple #[.pointer (some ⟨b, 0, none⟩), .int .i64 0]) ∧ SlAt w' b bo ba (newSl 1) ∧ (∀ k, slF b bo ba k → wc.heap.size ≤ k) ∧ Below wc.heap.size wc w' from slNew_good 1 wc ⟨by omega, by omega⟩)
      go_wp2_with fail
      refine CSl.out.mono ?_
      rintro e wd ⟨bs, bo, ba, rfl, hS, hSge, hbd⟩
      have LD := Lib.hid (LC.out.below hbd)
      have TD := Lib.hid (TC.out.below hbd)
      have SD := Lib.hid hS
      have OS := Lib.hid (show ∀ k, slF bs bo ba k → bl < k from fun k hk => by have := hSge k hk; have := TC.out.lt; omega)
      clear hS hSge hbd LC TC f4 CSl
      have g15 : wd.cell? ⟨x, 15, none⟩ = some (.pointer none) := co_cell LD.out.k.2 rfl
      have z15 := co_fz LD.out.k.2 15
      have a1 : wd.cell? ⟨p, 1, none⟩ = some (.int .i64 0) := co_cell LD.out.a rfl
      have y1 := co_fz LD.out.a 1
      go_upto_region 14 with fail
      have LE := Lib.hid (LD.out.setx (bl' := some bl) (bs' := some bs) (bt' := none) 15 (.pointer (some ⟨bs, 0, none⟩)) rfl 1 rfl)
      have tE := late_turn wd x p 15 1 (.pointer (some ⟨bs, 0, none⟩)) (.int .i64 0)
      have TE := Lib.hid (TD.out.block (tE.block bl TD.out.lt (fun e => by have := LD.out.o; have := OL.out; omega)))
      have SE := Lib.hid (SD.out.turn tE (fun k hk e => by have := OS.out k hk; have := LD.out.o; have := OL.out; omega))
      clear tE TD LD SD g15 z15 a1 y1
      generalize (wd.setCell ⟨x, 15, none⟩ (.pointer (some ⟨bs, 0, none⟩))).setCell ⟨p, 1, none⟩ (.int .i64 0) = we at *
      go_wp2_with fail
      refine (tNew_any 24 we (by decide)).mono ?_
      rintro e wf ⟨bt, St, rfl, hT, hTge, hbf⟩
      have LF := Lib.hid (LE.out.below hbf)
      have TF := Lib.hid (TE.out.below hbf)
      have SF := Lib.hid (SE.out.turn (F := fun _ => False) (Turn.of_below hbf) (fun k hk e => e))
      have OT := Lib.hid (show ∀ k, St k → bl < k ∧ bs < k ∧ bo < k ∧ ba < k ∧ p < k from fun k hk => by
        have := hTge k hk; have := TE.out.lt; have := SE.out.lt; have := LE.out.o; omega)
      have UF := Lib.hid hT
      clear hT hTge hbf LE TE SE
      have g16 : wf.cell? ⟨x, 16, none⟩ = some (.pointer none) := co_cell LF.out.k.2 rfl
      have z16 := co_fz LF.out.k.2 16
      have a2 : wf.cell? ⟨p, 2, none⟩ = some (.int .i64 0) := co_cell LF.out.a rfl
      have y2 := co_fz LF.out.a 2
      go_upto_region 15 with fail
      have LG := Lib.hid (LF.out.setx (bl' := some bl) (bs' := some bs) (bt' := some bt) 16 (.pointer (some ⟨bt, 0, none⟩)) rfl 2 rfl)
      have tG := late_turn wf x p 16 2 (.pointer (some ⟨bt, 0, none⟩)) (.int .i64 0)
      have TG := Lib.hid (TF.out.block (tG.block bl TF.out.lt (fun e => by have := LF.out.o; have := OL.out; omega)))
      have SG := Lib.hid (SF.out.turn tG (fun k hk e => by have := OS.out k hk; have := LF.out.o; have := OL.out; omega))
      have UG := Lib.hid ((tq_ok _ _ _).turn UF.out tG (fun k hk e => by have := OT.out k hk; have := LF.out.o; omega))
      clear tG TF LF SF UF g16 z16 a2 y2
      generalize (wf.setCell ⟨x, 16, none⟩ (.pointer (some ⟨bt, 0, none⟩))).setCell ⟨p, 2, none⟩ (.int .i64 0) = wg at *
      have a0 : wg.cell? ⟨p, 0, none⟩ = some (.int .i64 0) := co_cell LG.out.a rfl
      have a1 : wg.cell? ⟨p, 1, none⟩ = some (.int .i64 0) := co_cell LG.out.a rfl
      have a2 : wg.cell? ⟨p, 2, none⟩ = some (.int .i64 0) := co_cell LG.out.a rfl
      have CF := Lib.hid (show NewP24 w (.returned (.tuple #[.pointer (some ⟨x, 0, none⟩), .int .i64 0])) wg from by
        obtain ⟨o1, o2, o3, o4, o5, o6, o7, o8⟩ := LG.out.o
        have ol := OL.out
        have os1 := OS.out bs (Or.inl rfl); have os2 := OS.out bo (Or.inr (Or.inl rfl)); have os3 := OS.out ba (Or.inr (Or.inr rfl))
        have lt1 := TG.out.lt; have lt2 := SG.out.lt; have lt3 := (tq_ok _ _ _).lt UG.out
        refine ⟨col24 x ca cw bl bs bo ba bq St, x, ca, _, cw, _, bl, bs, bo, ba, bt, bq, rfl, ⟨LG.out.k.2, LG.out.r1, LG.out.r2, TG.out, SG.out, ⟨St, UG.out, fun k hk => ?_⟩, LG.out.m, ?_, ?_, ?_, ?_, fun k hk => ?_, fun k hk => ?_, LG.out.b.size⟩, LG.out.b⟩
        · have ot := OT.out k hk
          unfold col24
          rw [if_neg (by omega), if_neg (by omega), if_neg (by omega), if_pos hk]
        · unfold col24
          exact ⟨if_pos (Or.inl rfl), if_pos (Or.inr (Or.inl rfl)), if_pos (Or.inr (Or.inr rfl))⟩
        · unfold col24
          rw [if_neg (by omega), if_pos rfl]
        · unfold col24
          refine ⟨?_, ?_, ?_⟩
          · rw [if_neg (by omega), if_neg (by omega), if_pos (Or.inl rfl)]
          · rw [if_neg (by omega), if_neg (by omega), if_pos (Or.inr (Or.inl rfl))]
          · rw [if_neg (by omega), if_neg (by omega), if_pos (Or.inr (Or.inr rfl))]
        · unfold col24
          rw [if_neg (by omega), if_neg (by omega), if_neg (by omega), if_neg (fun h => by have := OT.out _ h; omega), if_pos rfl]
        · unfold col24 at hk
          split at hk
          · omega
          · split at hk
            · omega
            · split at hk
              · omega
              · split at hk
                · rename_i h; have := OT.out k h; omega
                · split at hk <;> omega
        · unfold col24
          rw [if_neg (by omega), if_neg (by omega), if_neg (by omega), if_neg (fun h => by have := lt3 k h; omega), if_neg (by omega)])
      clear LG TG SG UG OT OS OL
      have heq := fun w => eq24 w
      go_wp2_with fail
      go_ret2
      exact CF.out
end Go.Proofs.YtblipdmagfiigaaGreat
namespace Go.Proofs.YtblipdmagfiigaaGreat
open Go.RowKit
set_option linter.unusedVariables false
set_option maxRecDepth 20000
structure AskP where
  slot : Int
  query : Int
  shard : Int
  seq : Int
  epoch : Int
  text : ByteArray
  k : Int
  batch : Int
  first : Bool
  ad : Int
  aw : ByteArray
end Go.Proofs.YtblipdmagfiigaaGreat
namespace Go.Proofs.YtblipdmagfiigaaGreat
open Go.RowKit
set_option linter.unusedVariables false
set_option maxRecDepth 20000
set_option maxHeartbeats 400000 in
theorem sameItems_quiet (a1 a2 : Option Addr) (n c1 c2 : Nat) (z : List KV) (w : World) (h1 : HoldsK w a1 n z) (h2 : HoldsK w a2 n z) (hl : n ≤ 4611686018427387904) :
    Calls Tryz.prog 38 #[.slice a1 n c1, .slice a2 n c2] w fun e w' => e = .returned (.bool true) ∧ ∃ m, w' = w.drewN m := by
  have H1 := Lib.hid h1; have H2 := Lib.hid h2
  have hb : ((n : Int) != (n : Int)) = false := by simp
  clear h1 h2
  go_enter Tryz.func38, Tryz.ntmps38
  go_wp2
  go_loopw [5] (fun i wr => ∃ k m : Nat, k ≤ n ∧ i = .int .i64 k ∧ wr = w.drewN m) (fun i _ => n - (intOf i).toNat)
  case atStart => exact ⟨0, 0, by omega, rfl, rfl⟩
  case round =>
    obtain ⟨k, m, hk, rfl, rfl⟩ := hrel
    by_cases hlt : k < n
    · obtain ⟨b1, o1, rfl, k1⟩ := H1.out.at (by omega)
      obtain ⟨b2, o2, rfl, k2⟩ := H2.out.at (by omega)
      obtain ⟨e1, e2⟩ := k1 k hlt
      obtain ⟨e3, e4⟩ := k2 k hlt
      obtain ⟨x, hx⟩ : ∃ x, z.getD k k0 = x := ⟨_, rfl⟩
      rw [hx] at e1 e2 e3 e4
      obtain ⟨x1, x2⟩ := x
      simp only at e1 e2 e3 e4
      have f1 : (x1 == x1) = true := by simp
      have f2 := str_same x2
      clear hx k1 k2
      go_wp2
      go_quiet (fail)
      go_wp2
      go_roundw
      case rel => exact ⟨k + 1, _, by omega, by go_num, rfl⟩
      case measure => simp [intOf]; omega
    · go_wp2
      go_ret
      exact ⟨rfl, _, rfl⟩
theorem sameItems_yes (a1 a2 : Option Addr) (n c1 c2 : Nat) (z : List KV) (w : World) (h1 : HoldsK w a1 n z) (h2 : HoldsK w a2 n z) (hl : n ≤ 4611686018427387904) :
    Calls Tryz.prog 38 #[.slice a1 n c1, .slice a2 n c2] w fun e w' => e = .returned (.bool true) ∧ Below w.heap.size w w' :=
  (sameItems_quiet a1 a2 n c1 c2 z w h1 h2 hl).mono fun _ _ ⟨h, m, hm⟩ => ⟨h, by rw [hm]; exact below_drewN _ _⟩
end Go.Proofs.YtblipdmagfiigaaGreat
namespace Go.Proofs.YtblipdmagfiigaaGreat
open Go.RowKit
set_option linter.unusedVariables false
set_option maxRecDepth 20000
theorem taHelloHello (a b : Int) (w : World) : (Instr.typeAssert (.iface 62 (.agg #[.int .i64 a, .int .i64 b])) 20 62 true).run Tryz.prog w = .ok (.tuple #[.agg #[.int .i64 a, .int .i64 b], .bool true]) w := by kernel_rfl
theorem taGrantHello (a b c : Int) (w : World) : (Instr.typeAssert (.iface 79 (.agg #[.int .i64 a, .int .i64 b, .int .i64 c])) 20 62 true).run Tryz.prog w = .ok (.tuple #[.agg #[.int .i64 0, .int .i64 0], .bool false]) w := by kernel_rfl
theorem taGrantGrant (a b c : Int) (w : World) : (Instr.typeAssert (.iface 79 (.agg #[.int .i64 a, .int .i64 b, .int .i64 c])) 20 79 true).run Tryz.prog w = .ok (.tuple #[.agg #[.int .i64 a, .int .i64 b, .int .i64 c], .bool true]) w := by kernel_rfl
theorem taAskHello (x : AskP) (w : World) : (Instr.typeAssert (.iface 73 (.agg #[.int .i64 x.slot, .int .i64 x.query, .int .i64 x.shard, .int .i64 x.seq, .int .i64 x.epoch, .string x.text, .int .i64 x.k, .int .i64 x.batch, .bool x.first, .int .i64 x.ad, .string x.aw])) 20 62 true).run Tryz.prog w = .ok (.tuple #[.agg #[.int .i64 0, .int .i64 0], .bool false]) w := by kernel_rfl
theorem taAskGrant (x : AskP) (w : World) : (Instr.typeAssert (.iface 73 (.agg #[.int .i64 x.slot, .int .i64 x.query, .int .i64 x.shard, .int .i64 x.seq, .int .i64 x.epoch, .string x.text, .int .i64 x.k, .int .i64 x.batch, .bool x.first, .int .i64 x.ad, .string x.aw])) 20 79 true).run Tryz.prog w = .ok (.tuple #[.agg #[.int .i64 0, .int .i64 0, .int .i64 0], .bool false]) w := by kernel_rfl
theorem taAskAsk (x : AskP) (w : World) : (Instr.typeAssert (.iface 73 (.agg #[.int .i64 x.slot, .int .i64 x.query, .int .i64 x.shard, .int .i64 x.seq, .int .i64 x.epoch, .string x.text, .int .i64 x.k, .int .i64 x.batch, .bool x.first, .int .i64 x.ad, .string x.aw])) 20 73 true).run Tryz.prog w = .ok (.tuple #[.agg #[.int .i64 x.slot, .int .i64 x.query, .int .i64 x.shard, .int .i64 x.seq, .int .i64 x.epoch, .string x.text, .int .i64 x.k, .int .i64 x.batch, .bool x.first, .int .i64 x.ad, .string x.aw], .bool true]) w := by kernel_rfl
end Go.Proofs.YtblipdmagfiigaaGreat
namespace Go.Proofs.YtblipdmagfiigaaGreat
open Go.RowKit
set_option linter.unusedVariables false
set_option maxRecDepth 20000
def ls0 : Lt := newS 1 5
def ls1 : Lt := helloS ls0 1 1 0
theorem ls0_good : GoodL ls0 := new_is_good (by decide)
theorem ls1_e : helloE ls0 1 1 0 = 1 := by decide +kernel
theorem ls1_n : helloN ls0 1 1 0 = 0 := by decide +kernel
/-- letters: one -/
def One24 (w : World) (tw : Int) (t : TypeId) (v : Value) (p : Nat) : Prop := w.cell? ⟨p, 0, none⟩ = some (.int .i64 tw) ∧ w.cell? ⟨p, 1, none⟩ = some (.iface t v)
theorem One24.below {w w' : World} {tw : Int} {t : TypeId} {v : Value} {p : Nat} (h : One24 w tw t v p) (hb : Below w.heap.size w w') : One24 w' tw t v p :=
  ⟨(hb.cell (p := ⟨p, 0, none⟩) (lt_of_cell h.1)).trans h.1, (hb.cell (p := ⟨p, 1, none⟩) (lt_of_cell h.1)).trans h.2⟩
theorem One24.turn {w w' : World} {tw : Int} {t : TypeId} {v : Value} {p : Nat} {F : Nat → Prop} (h : One24 w tw t v p) (k : Turn F w w') (hF : ¬ F p) : One24 w' tw t v p :=
  ⟨(k.cell (lt_of_cell h.1) hF).trans h.1, (k.cell (lt_of_cell h.1) hF).trans h.2⟩
variable {B0 : Nat} {col : Nat → Nat} {x ca cc cw c2 bl bs bo ba bt bq n : Nat} {ss : Sl} {M : List TM} {f : Int → Option Value}
def Greet24 (B0 : Nat) (col : Nat → Nat) (x ca cc cw c2 bl bs bo ba bt bq n : Nat) (ss : Sl) (M : List TM) (f : Int → Option Value) (w : World) (e : Ending) (w' : World) : Prop :=
  ∃ p, e = .returned (.slice (some ⟨p, 0, none⟩) 1 1) ∧ One24 w' 1 79 (.agg #[.int .i64 1, .int .i64 1, .int .i64 1]) p ∧ col p = 9 ∧ CoS B0 w' col x ca cc cw c2 bl bs bo ba bt bq n ls1 ss M f ∧ Below B0 w w'
set_option maxRecDepth 100000 in
set_option maxHeartbeats 1600000 in
theorem greeted24 (w : World) (h : CoS B0 w col x ca cc cw c2 bl bs bo ba bt bq n ls0 ss M f) : Calls Tryz.prog 64 #[.pointer (some ⟨x, 0, none⟩), .agg #[.int .i64 1, .int .i64 1]] w (Greet24 B0 col x ca cc cw c2 bl bs bo ba bt bq n ss M f w) := by
  have hb1 := below_one w (.cells #[.int .i64 1, .int .i64 1] 62)
  obtain ⟨q, hq⟩ : ∃ q, w.heap.size = q := ⟨_, rfl⟩
  have KQ := Lib.hid (show (w.alloc (.cells #[.int .i64 1, .int .i64 1] 62)).heap[q]? = some (.cells #[.int .i64 1, .int .i64 1] 62 (0, 0)) from by rw [← hq]; exact heap_alloc_new w _)
  have C1 := Lib.hid (h.below hb1)
  have B1 := Lib.hid (hb1.mono h.hB)
  have CQ := Lib.hid (show col q = 9 from h.nw q (by omega))
  have e1 := ls1_e
  have e2 := ls1_n
  clear h hb1
  go_enter Tryz.func64, Tryz.ntmps64
  go_upto_region 1 with fail
  generalize w.alloc (.cells #[.int .i64 1, .int .i64 1] 62) = w1 at *
  have q0 : w1.cell? ⟨q, 0, none⟩ = some (.int .i64 1) := co_cell KQ.out rfl
  have q1 : w1.cell? ⟨q, 1, none⟩ = some (.int .i64 1) := co_cell KQ.out rfl
  have x13 : w1.cell? ⟨x, 13, none⟩ = some (.int .i64 0) := co_cell C1.out.box rfl
  have x14 : w1.cell? ⟨x, 14, none⟩ = some (.pointer (some ⟨bl, 0, none⟩)) := co_cell C1.out.box rfl
  have CD := Lib.hid (C1.out.below ((Below.refl _ _).drew))
  have CH := Lib.hid (hello_any bl 1 1 0 w1.drew CD.out.L ls0_good)
  rw [e1, e2] at CH
  go_region_law
    (first
      | (go_simp; go_at_call 88; (with_reducible refine CH.out.mono ?_); rintro e w2 ⟨rfl, hT⟩))
  all_goals
    have C2 := Lib.hid (show CoS B0 w2 col x ca cc cw c2 bl bs bo ba bt bq n ls1 ss M f from CD.out.lease hT)
    have K2 := Lib.hid ((hT.2.block q (by have := (Array.getElem?_eq_some_iff.1 KQ.out).1; exact this) (by intro e; have := C1.out.cl; have := CQ.out; rw [e] at this; omega)).trans (show w1.drew.heap[q]? = some (.cells #[.int .i64 1, .int .i64 1] 62 (0, 0)) from KQ.out))
    have B2 := Lib.hid (show Below B0 w w2 from B1.out.trans (((Below.refl B0 w1).drew).trans (hT.2.below (C1.out.lo bl (by rw [C1.out.cl]; decide)) CD.out.hB)))
    clear hT q0 q1 x13 x14
    have q0 : w2.cell? ⟨q, 0, none⟩ = some (.int .i64 1) := co_cell K2.out rfl
    have q1 : w2.cell? ⟨q, 1, none⟩ = some (.int .i64 1) := co_cell K2.out rfl
    have hb3 := below_one w2 (.cells #[.int .i64 1, .iface 79 (.agg #[.int .i64 1, .int .i64 1, .int .i64 1])] 68)
    have FIN := Lib.hid (show Greet24 B0 col x ca cc cw c2 bl bs bo ba bt bq n ss M f w (.returned (.slice (some ⟨w2.heap.size, 0, none⟩) 1 1)) (w2.alloc (.cells #[.int .i64 1, .iface 79 (.agg #[.int .i64 1, .int .i64 1, .int .i64 1])] 68)) from
      ⟨w2.heap.size, rfl, ⟨by rw [cell_alloc rfl]; rfl, by rw [cell_alloc rfl]; rfl⟩, C2.out.nw _ (Nat.le_refl _), C2.out.below hb3, B2.out.trans (hb3.mono C2.out.hB)⟩)
    clear hb3
    go_wp2_with fail
    go_ret
    exact FIN.out
end Go.Proofs.YtblipdmagfiigaaGreat
namespace Go.Proofs.YtblipdmagfiigaaGreat
open Go.RowKit
set_option linter.unusedVariables false
set_option maxRecDepth 20000
variable {B0 : Nat} {col : Nat → Nat} {x ca cc cw c2 bl bs bo ba bt bq n : Nat} {ss : Sl} {M : List TM} {f : Int → Option Value}
set_option maxRecDepth 100000 in
set_option maxHeartbeats 1600000 in
theorem process24 (w : World) (h : CoS B0 w col x ca cc cw c2 bl bs bo ba bt bq n ls0 ss M f) : Calls Tryz.prog 39 #[.pointer (some ⟨x, 0, none⟩), .iface 62 (.agg #[.int .i64 1, .int .i64 1])] w (Greet24 B0 col x ca cc cw c2 bl bs bo ba bt bq n ss M f w) := by
  have tHello := taHelloHello 1 1
  have hb1 := below_one w (.cells #[.int .i64 1, .int .i64 1] 62)
  have CG := Lib.hid (greeted24 _ (h.below hb1))
  have B1 := Lib.hid (hb1.mono h.hB)
  clear h hb1
  go_enter Tryz.func39, Tryz.ntmps39
  go_wp2_with fail
  refine CG.out.mono ?_
  rintro e w2 ⟨p, rfl, h1, h2, h3, h4⟩
  have FIN := Lib.hid (show Greet24 B0 col x ca cc cw c2 bl bs bo ba bt bq n ss M f w (.returned (.slice (some ⟨p, 0, none⟩) 1 1)) w2 from ⟨p, rfl, h1, h2, h3, B1.out.trans h4⟩)
  clear h1 h2 h3 h4
  go_wp2_with fail
  go_ret
  exact FIN.out
theorem take24 (w : World) (h : CoS B0 w col x ca cc cw c2 bl bs bo ba bt bq n ls0 ss M f) : Calls Tryz.prog 14 #[.pointer (some ⟨x, 0, none⟩), .iface 62 (.agg #[.int .i64 1, .int .i64 1])] w (Greet24 B0 col x ca cc cw c2 bl bs bo ba bt bq n ss M f w) := by
  have CG := Lib.hid (process24 _ h)
  clear h
  go_enter Tryz.func14, Tryz.ntmps14
  go_wp2_with fail
  refine CG.out.mono ?_
  rintro e w2 ⟨p, rfl, h1, h2, h3, h4⟩
  have FIN := Lib.hid (show Greet24 B0 col x ca cc cw c2 bl bs bo ba bt bq n ss M f w (.returned (.slice (some ⟨p, 0, none⟩) 1 1)) w2 from ⟨p, rfl, h1, h2, h3, h4⟩)
  clear h1 h2 h3 h4
  go_wp2_with fail
  go_ret
  exact FIN.out
end Go.Proofs.YtblipdmagfiigaaGreat
namespace Go.Proofs.YtblipdmagfiigaaGreat
open Go.RowKit
set_option linter.unusedVariables false
set_option maxRecDepth 20000
variable {B0 : Nat} {col : Nat → Nat} {x ca cc cw c2 bl bs bo ba bt bq n : Nat} {ls : Lt} {ss : Sl} {M : List TM} {f : Int → Option Value}
theorem lst_carry {w1 a b : World} {x q : Nat} (h : Below w1.heap.size w1 a ∧ a.cell? ⟨x, 1, none⟩ = some (.slice none 0 0) ∧ a.cell? ⟨q, 0, none⟩ = some (.string coA) ∧ a.cell? ⟨q, 1, none⟩ = some (.int .i64 1)) (hb : Below a.heap.size a b) : Below w1.heap.size w1 b ∧ b.cell? ⟨x, 1, none⟩ = some (.slice none 0 0) ∧ b.cell? ⟨q, 0, none⟩ = some (.string coA) ∧ b.cell? ⟨q, 1, none⟩ = some (.int .i64 1) :=
  ⟨h.1.trans (hb.mono h.1.size), (hb.cell (p := ⟨x, 1, none⟩) (lt_of_cell h.2.1)).trans h.2.1, (hb.cell (p := ⟨q, 0, none⟩) (lt_of_cell h.2.2.1)).trans h.2.2.1, (hb.cell (p := ⟨q, 1, none⟩) (lt_of_cell h.2.2.2)).trans h.2.2.2⟩
def Leasts24 (w : World) (e : Ending) (w' : World) : Prop := ∃ a c, e = .returned (.slice a 1 c) ∧ HoldsI .i64 w' a 1 [0] ∧ Below w.heap.size w w'
set_option maxRecDepth 100000 in
set_option maxHeartbeats 1600000 in
theorem leasts24 (w : World) (h : CoS B0 w col x ca cc cw c2 bl bs bo ba bt bq n ls ss M f) : Calls Tryz.prog 33 #[.pointer (some ⟨x, 0, none⟩), .agg #[.string coA, .int .i64 1, .int .i64 2]] w (Leasts24 w) := by
  obtain ⟨i0, hi, hz0, hz1, hz2⟩ := info_parts num_info
  have hb1 := below_one w (.cells #[.string coA, .int .i64 1, .int .i64 2] 23)
  obtain ⟨q, hq⟩ : ∃ q, w.heap.size = q := ⟨_, rfl⟩
  have KQ := Lib.hid (show (w.alloc (.cells #[.string coA, .int .i64 1, .int .i64 2] 23)).heap[q]? = some (.cells #[.string coA, .int .i64 1, .int .i64 2] 23 (0, 0)) from by rw [← hq]; exact heap_alloc_new w _)
  have C1 := Lib.hid (h.below hb1)
  have B1 := Lib.hid hb1
  have CL := Lib.hid (fun w' => (show Calls Tryz.prog 26 #[.string coA] w' fun e w'' => e = .returned (.int .i64 1) ∧ Below w'.heap.size w' w'' from (show lenS coA = 1 by decide +kernel) ▸ len_any coA w' (by decide)))
  have CK := Lib.hid (fun w' => (show Calls Tryz.prog 25 #[.slice none 0 0, .int .i64 0, .int .i64 1] w' fun e w'' => e = .returned (.int .i64 0) ∧ w' = w'' from least_lit none 0 0 [] 0 1 0 w' ⟨rfl, fun h => (Nat.lt_irrefl 0 h).elim⟩ (by omega) (fun k hk => by cases hk) (by omega) (by decide) (by decide +kernel)))
  clear h hb1
  go_enter Tryz.func33, Tryz.ntmps33
  go_upto_region 2 with fail
  generalize w.alloc (.cells #[.string coA, .int .i64 1, .int .i64 2] 23) = w1 at *
  have x12 : w1.cell? ⟨x, 12, none⟩ = some (.slice (some ⟨ca, 0, none⟩) 1 cc) := co_cell C1.out.box rfl
  go_wp2_with fail
  go_loopw [5, 13] (fun ov iv wr => (iv = .int .i64 0 ∧ ov = .slice none 0 0 ∧ wr = w1) ∨ (iv = .int .i64 1 ∧ ∃ a c, ov = .slice a 1 c ∧ Hid (HoldsI .i64 wr a 1 [0]) ∧ Hid (Below w.heap.size w wr))) (fun _ iv _ => 1 - (intOf iv).toNat)
  case atStart => exact Or.inl ⟨rfl, rfl, rfl⟩
  case round =>
    rcases hrel with ⟨rfl, rfl, hw⟩ | ⟨rfl, a, c, rfl, hA, hB⟩
    · rw [← hw] at C1 B1 KQ
      have S0 := Lib.hid (show Below wr.heap.size wr wr.drew ∧ wr.drew.cell? ⟨x, 1, none⟩ = some (.slice none 0 0) ∧ wr.drew.cell? ⟨q, 0, none⟩ = some (.string coA) ∧ wr.drew.cell? ⟨q, 1, none⟩ = some (.int .i64 1) from ⟨(Below.refl _ _).drew, co_cell C1.out.box rfl, co_cell KQ.out rfl, co_cell KQ.out rfl⟩)
      clear x12 hw
      go_upto_region 5 with fail
      go_region_held3 (fun w' => Below wr.heap.size wr w' ∧ w'.cell? ⟨x, 1, none⟩ = some (.slice none 0 0) ∧ w'.cell? ⟨q, 0, none⟩ = some (.string coA) ∧ w'.cell? ⟨q, 1, none⟩ = some (.int .i64 1))
        (first | assumption | exact S0.out | exact lst_carry (by assumption) (by assumption))
        (first
          | (go_at_call 26; refine (CL.out _).mono ?_; rintro e w' ⟨rfl, hb⟩)
          | (go_at_call 25; refine (CK.out _).mono ?_; rintro e w' ⟨rfl, rfl⟩))
      rename_i T5
      obtain ⟨hb5, -, -, q1⟩ := T5
      have B5 := Lib.hid (B1.out.trans (hb5.mono B1.out.size))
      clear hb5
      go_wp2_with (at_builtin; refine wpList_append_any rfl (.tmp 30) (.tmp 32) 54 rfl w.heap.size 3 i0 (.int .i64 0) 1 8 Tryz.underlying54 hi hz0 hz1 hz2 rfl (by decide) _ 0 [] rfl (World.ownsRow_nil _ _ _ _) _ 1 1 [.int .i64 0] rfl (some_none _) rfl (one_new _ _ _ _) (one_int _ _) (by unfold maxLen; omega) (by omega) (by have := B5.out.size; simp; omega) ?_; intro a3 c3 w3 hown3 hb3 hnil3)
      have A3 := Lib.hid (show HoldsI .i64 w3 a3 1 [0] from holdsZ_own (zs := [0]) hown3)
      have B3 := Lib.hid ((B5.out.alloc B5.out.size _).trans hb3)
      clear hown3 hb3 hnil3
      go_wp2_with fail
      go_roundw
      case rel => exact Or.inr ⟨rfl, a3, c3, rfl, A3, B3⟩
      case measure => simp [intOf]
    · go_wp2_with fail
      go_ret
      exact ⟨a, c, rfl, hA.out, hB.out⟩
end Go.Proofs.YtblipdmagfiigaaGreat
namespace Go.Proofs.YtblipdmagfiigaaGreat
open Go.RowKit
set_option linter.unusedVariables false
set_option maxRecDepth 20000
/-- 'append(v, x...)' at one operation, x whatever slice (nil too): the value is a slice of the call's own -/
theorem wp_append_opt {P : Program} {w : World} {o : Oper} {a : Act} {K : Act → World → Prop} {Q : Exit → Act → World → Prop} (s x : Operand) (t : TypeId)
    (ho : o.op = .call { callee := .builtin .append, args := #[s, x], argTypes := #[t, t] })
    (base : Nat) (e : TypeId) (i : TypeInfo) (z : Value) (size bytes : Nat) (ht : P.underlying t = some (.slice e)) (hi : P.info? e = some i) (hz : i.zero = some z)
    (hsize : i.size = size) (hby : i.bytes = bytes) (hzs : z.cells.size = size) (hsz : 0 < size)
    (v : Value) (n : Nat) (xs : List Value) (hs : a.eval s = v) (hown : w.ownsRow base e size v n xs)
    (ao : Option Addr) (m c : Nat) (news : List Value) (hx : a.eval x = .slice ao m c) (hnone : ao = none → m = 0 ∧ c = 0) (hl : news.length = m * size)
    (hnews : ∀ ad, ao = some ad → ∀ j u, news[j]? = some u → w.cell? (ad.add j) = some u) (h1 : ∀ u ∈ news, u.oneCell' = true)
    (h63 : n + m ≤ maxLen) (hbytes : (n + m) * bytes ≤ 140737488355328) (hbase : base ≤ w.heap.size)
    (h : ∀ a' c' w', w'.ownsRow base e size (.slice a' (n + m) c') (n + m) (xs ++ news) → Below base w w' → K (a.put o.dst (.slice a' (n + m) c')) w') : o.wp P a w K Q := by
  have fin : ∀ v' w', w'.ownsRow base e size v' (n + m) (xs ++ news) → Below base w w' → K (a.put o.dst v') w' := by
    intro v' w' ho' hb'
    rcases Joins.ownsRow_forms ho' with ⟨rfl, h0⟩ | ⟨g, cap, rfl⟩
    · have := h none 0 w' (by rw [h0] at ho' ⊢; exact ho') hb'
      rw [h0] at this
      exact this
    · exact h _ _ w' ho' hb'
  cases ao with
  | some ad =>
    refine wp_append_own w s x t ho base e i z size bytes ht hi hz hsize hby hzs hsz v n xs hs hown ad m c news hx hl (hnews ad rfl) h1 h63 hbytes hbase fun v' w' h2 h3 _ => ?_
    exact fin v' w' h2 ((Below.refl base w).grown h3 hbase fun k hk => (hown.lt k hk).1)
  | none =>
    obtain ⟨rfl, rfl⟩ := hnone rfl
    have hn : news = [] := List.eq_nil_of_length_eq_zero (by simpa using hl)
    subst hn
    have hr := run_append_owned_none w base t o.type e i size ht hi v n xs hown
    unfold Oper.wp execOp
    simp only [ho, resolve, invoke, builtin, Sem.run_bind, Sem.run_pure, Result.andThen_ok, List.map_toArray, List.map_cons, List.map_nil, hs, hx, hr]
    exact fin v w (by simpa using hown) (Below.refl _ _)
end Go.Proofs.YtblipdmagfiigaaGreat
namespace Go.Proofs.YtblipdmagfiigaaGreat
open Go.RowKit
set_option linter.unusedVariables false
set_option maxRecDepth 20000
def lastS24 (P : List SM) (s : Int) : KV × Bool := if 0 ≤ s ∧ s < (P.length : Int) then ((P.getD s.toNat sm0).last, (P.getD s.toNat sm0).rcv) else (k0, false)
theorem s4_store24 {w : World} {b g o p : Nat} {v2 v3 v4 v5 u v : Value} (hb : p ≠ b) (hg : p ≠ g) (h : w.cell? ⟨b, 2, none⟩ = some v2 ∧ w.cell? ⟨g, o + 3, none⟩ = some v3 ∧ w.cell? ⟨g, o + 4, none⟩ = some v4 ∧ w.cell? ⟨g, o + 5, none⟩ = some v5) :
    ((w.setCell ⟨p, 0, none⟩ u).setCell ⟨p, 1, none⟩ v).cell? ⟨b, 2, none⟩ = some v2 ∧ ((w.setCell ⟨p, 0, none⟩ u).setCell ⟨p, 1, none⟩ v).cell? ⟨g, o + 3, none⟩ = some v3 ∧ ((w.setCell ⟨p, 0, none⟩ u).setCell ⟨p, 1, none⟩ v).cell? ⟨g, o + 4, none⟩ = some v4 ∧ ((w.setCell ⟨p, 0, none⟩ u).setCell ⟨p, 1, none⟩ v).cell? ⟨g, o + 5, none⟩ = some v5 :=
  ⟨((cset_far hb).trans (cset_far hb)).trans h.1, ((cset_far hg).trans (cset_far hg)).trans h.2.1, ((cset_far hg).trans (cset_far hg)).trans h.2.2.1, ((cset_far hg).trans (cset_far hg)).trans h.2.2.2⟩
set_option maxHeartbeats 1600000 in
theorem mafter_any24 (s : Int) (y : KV) (z : Bool) (b : Nat) {most : Int} {T : List KV} {L : List SM} {S : Nat → Prop} (w : World) (h : MAt w b most T L S) (hl : L.length ≤ 1000) (hv : lastS24 L s = (y, z)) :
    Calls Tryz.prog 98 #[.pointer (some ⟨b, 0, none⟩), .int .i64 s] w fun e w' => e = .returned (.tuple #[.agg #[.int .i64 y.1, .string y.2], .bool z]) ∧ Below w.heap.size w w' := by
  have B1 := Lib.hid (below_one w (.cells #[.int .i64 0, .string ⟨#[]⟩] 71))
  have K1 := Lib.hid (show (w.alloc (.cells #[.int .i64 0, .string ⟨#[]⟩] 71)).cell? ⟨w.heap.size, 0, none⟩ = some (.int .i64 0) ∧ (w.alloc (.cells #[.int .i64 0, .string ⟨#[]⟩] 71)).cell? ⟨w.heap.size, 1, none⟩ = some (.string ⟨#[]⟩) from kvAt_new w k0 w.heap.size 71 rfl)
  have F1 := Lib.hid (show ∀ i, (w.alloc (.cells #[.int .i64 0, .string ⟨#[]⟩] 71)).frozen? ⟨w.heap.size, i, none⟩ = false from fun i => frozen_alloc rfl)
  have H1 := Lib.hid (h.below B1.out)
  obtain ⟨zh, hzh⟩ : ∃ zh, decide (0 ≤ s ∧ s < (L.length : Int)) = zh := ⟨_, rfl⟩
  have CH := Lib.hid (mhas_any s zh b _ H1.out hl hzh)
  unfold lastS24 at hv
  cases zh
  · have hn : ¬ (0 ≤ s ∧ s < (L.length : Int)) := of_decide_eq_false hzh
    rw [if_neg hn] at hv
    injection hv with hv1 hv2
    subst hv1 hv2
    clear h hzh hn
    go_enter Tryz.func98, Tryz.ntmps98
    go_wp2_with fail
    refine CH.out.mono ?_
    rintro e w' ⟨rfl, rfl⟩
    obtain ⟨k1, k2⟩ := K1.out
    have f0 := F1.out 0
    have f1 := F1.out 1
    go_wp2_with fail
    exact bodyPost_ret (v := .tuple #[.agg #[.int .i64 0, .string ⟨#[]⟩], .bool false]) (by simp [results, go_sem]) rfl ⟨rfl, B1.out⟩
  · have hn : 0 ≤ s ∧ s < (L.length : Int) := of_decide_eq_true hzh
    rw [if_pos hn] at hv
    injection hv with hv1 hv2
    subst hv1 hv2
    obtain ⟨i, rfl⟩ : ∃ i : Nat, s = (i : Int) := ⟨s.toNat, by omega⟩
    rw [Int.toNat_natCast]
    obtain ⟨ta, tc, ra, rc, M⟩ := H1.out
    have hil : i < L.length := by omega
    obtain ⟨g, hg⟩ : ∃ g, ra = some ⟨g, 0, none⟩ := by
      obtain ⟨g, cap', hv⟩ := Joins.ownsRow_form M.2.2.2.2.2.1 (by omega)
      simp only [Value.slice.injEq] at hv
      exact ⟨g, hv.1⟩
    subst hg
    obtain ⟨v0, v1, v2, v3, v4, v5, v6⟩ := smV_at L i hil
    obtain ⟨x, hx⟩ : ∃ x, L.getD i sm0 = x := ⟨_, rfl⟩
    rw [hx] at v3 v4 v5 ⊢
    have own := M.2.2.2.2.2.1
    have c3 := (own.cellAt (i * 7 + 3) (by omega)).trans v3
    have c4 := (own.cellAt (i * 7 + 4) (by omega)).trans v4
    have c5 := (own.cellAt (i * 7 + 5) (by omega)).trans v5
    have k2 := M.2.2.1
    have HB := Lib.hid (show b < w.heap.size from h.lt b h.has)
    have HG := Lib.hid (show g < w.heap.size from by
      obtain ⟨ta', tc', ra', rc', M'⟩ := h
      have e := M'.2.2.1
      have e2 := (B1.out.cell (p := ⟨b, 2, none⟩) (lt_of_cell e)).trans e
      rw [k2] at e2
      injection e2 with e2; injection e2 with e2
      exact M'.2.2.2.2.2.2.2.2.2.2 g (M'.2.2.2.2.2.2.2.2.2.1 g e2.symm).1)
    have i1 : (0 : Int) ≤ (i : Int) := by omega
    have i2 : (i : Int) < (L.length : Int) := by omega
    clear h hzh hn M own v0 v1 v2 v3 v4 v5 v6 hx
    go_enter Tryz.func98, Tryz.ntmps98
    go_wp2_with fail
    refine CH.out.mono ?_
    rintro e w' ⟨rfl, rfl⟩
    obtain ⟨z1, z2⟩ := K1.out
    have f0 := F1.out 0
    have f1 := F1.out 1
    have hbp : w.heap.size ≠ b := by have := HB.out; omega
    have hgp : w.heap.size ≠ g := by have := HG.out; omega
    go_upto_region 3 with fail
    generalize w.alloc (.cells #[.int .i64 0, .string ⟨#[]⟩] 71) = w1 at *
    obtain ⟨p, hpw⟩ : ∃ p, w.heap.size = p := ⟨_, rfl⟩
    have HPW := Lib.hid hpw
    rw [hpw] at z1 z2 f0 f1 hbp hgp
    rw [hpw]
    clear hpw
    go_region_held3 (fun w' => w'.cell? ⟨b, 2, none⟩ = some (.slice (some ⟨g, 0, none⟩) L.length rc) ∧ w'.cell? ⟨g, i * 7 + 3, none⟩ = some (.bool x.rcv) ∧ w'.cell? ⟨g, i * 7 + 4, none⟩ = some (.int .i64 x.last.1) ∧ w'.cell? ⟨g, i * 7 + 5, none⟩ = some (.string x.last.2))
      (first | assumption | exact ⟨k2, c3, c4, c5⟩ | exact s4_store24 hbp hgp ⟨k2, c3, c4, c5⟩)
      (fail)
    all_goals
      have Z1 := Lib.hid (show ((w1.setCell ⟨p, 0, none⟩ (.int .i64 x.last.1)).setCell ⟨p, 1, none⟩ (.string x.last.2)).cell? ⟨p, 0, none⟩ = some (.int .i64 x.last.1) from (cset_ne (by omega)).trans (cset_at z1))
      have Z2 := Lib.hid (show ((w1.setCell ⟨p, 0, none⟩ (.int .i64 x.last.1)).setCell ⟨p, 1, none⟩ (.string x.last.2)).cell? ⟨p, 1, none⟩ = some (.string x.last.2) from cset_at ((cset_ne (by omega)).trans z2))
      have BE := Lib.hid (show Below w.heap.size w ((w1.setCell ⟨p, 0, none⟩ (.int .i64 x.last.1)).setCell ⟨p, 1, none⟩ (.string x.last.2)) from (B1.out.setCell (p := ⟨p, 0, none⟩) (Nat.le_of_eq HPW.out) _).setCell (p := ⟨p, 1, none⟩) (Nat.le_of_eq HPW.out) _)
      clear c3 c4 c5 k2 f0 f1 z1 z2
      generalize (w1.setCell ⟨p, 0, none⟩ (.int .i64 x.last.1)).setCell ⟨p, 1, none⟩ (.string x.last.2) = w3 at *
      have y1 := Z1.out
      have y2 := Z2.out
      go_wp2_with fail
      exact bodyPost_ret (v := .tuple #[.agg #[.int .i64 x.last.1, .string x.last.2], .bool x.rcv]) (by simp [results, go_sem, y1, y2]) rfl ⟨rfl, BE.out.drew⟩
end Go.Proofs.YtblipdmagfiigaaGreat
namespace Go.Proofs.YtblipdmagfiigaaGreat
open Go.RowKit
set_option linter.unusedVariables false
set_option maxRecDepth 20000
/-- the merge's one shard -/
def y24 (wa : Option Addr) (wc : Nat) : SM := ⟨0, false, 0, false, k0, wa, 0, wc, []⟩
theorem tell24_f (wa : Option Addr) (wc : Nat) : tellF 2 2 [] ([y24 wa wc].map spl) [] = ([], [y24 none 0], []) := by rfl
theorem done24 (wa : Option Addr) (wc : Nat) : doneB 2 [] [y24 wa wc] = false := by rfl
theorem spl24 {L : List SM} (h : L.map spl = [y24 none 0]) : ∃ wa wc, L = [y24 wa wc] := by
  match L, h with
  | [⟨a, b, c, d, e, wa, wn, wc, wt⟩], h =>
    simp only [List.map_cons, List.map_nil, List.cons.injEq, and_true, spl, y24, SM.mk.injEq] at h
    obtain ⟨rfl, rfl, rfl, rfl, rfl, -, rfl, -, rfl⟩ := h
    exact ⟨wa, wc, rfl⟩
def Tell24 (w : World) (bm : Nat) (Sm : Nat → Prop) (e : Ending) (w' : World) : Prop := ∃ oa oc wa wc S', e = .returned (.slice oa 0 oc) ∧ MAt w' bm 2 [] [y24 wa wc] S' ∧ w'.ownsRow w.heap.size 71 2 (.slice oa 0 oc) 0 [] ∧ (∀ k, S' k → Sm k ∨ w.heap.size ≤ k) ∧ Turn Sm w w'
theorem tell24 (w : World) (bm : Nat) (wa : Option Addr) (wc : Nat) (Sm : Nat → Prop) (h : MAt w bm 2 [] [y24 wa wc] Sm) : Calls Tryz.prog 59 #[.pointer (some ⟨bm, 0, none⟩)] w (Tell24 w bm Sm) := by
  have hT := mtell_any 2 bm w h (show 1 ≤ 1000 by decide) (by decide) (by decide) (by decide)
  rw [tell24_f] at hT
  refine hT.mono ?_
  rintro e w' ⟨oa, oc, L, S', rfl, hin, hL⟩
  obtain ⟨wa', wc', rfl⟩ := spl24 hL
  exact ⟨oa, oc, wa', wc', S', rfl, hin.m, hin.o, hin.s, hin.t⟩
/-- the query's cells -/
def quC (ia : Option Addr) (ic bm sb : Nat) : Array Value := #[.int .i64 1, .string coA, .int .i64 1, .int .i64 2, .slice ia 0 ic, .bool false, .bool false, .pointer (some ⟨bm, 0, none⟩), .slice (some ⟨sb, 0, none⟩) 1 1]
def qmap (qb : Nat) : Int → Option Value := fun k => if k = 1 then some (.pointer (some ⟨qb, 0, none⟩)) else none
/-- what else there is stays, and keeps its colour -/
def Ext (w : World) (col : Nat → Nat) (w' : World) (col' : Nat → Nat) : Prop := Turn (fun k => col k ≤ 7) w w' ∧ ∀ k, k < w.heap.size → col' k = col k
theorem Ext.refl (w : World) (col : Nat → Nat) : Ext w col w col := ⟨Turn.refl _ _, fun _ _ => rfl⟩
theorem Ext.turn {w w' w'' : World} {col col' : Nat → Nat} {F : Nat → Prop} (h : Ext w col w' col') (t : Turn F w' w'') (hF : ∀ k, F k → col' k ≤ 7) : Ext w col w'' col' :=
  ⟨h.1.trans' t fun k hk => by
    rcases Nat.lt_or_ge k w.heap.size with e | e
    · exact Or.inl (by rw [← h.2 k e]; exact hF k hk)
    · exact Or.inr e, h.2⟩
theorem Ext.below {w w' w'' : World} {col col' : Nat → Nat} (h : Ext w col w' col') (hb : Below w'.heap.size w' w'') : Ext w col w'' col' := h.turn (F := fun _ => False) (Turn.of_below hb) fun k e => e.elim
theorem Ext.paint {w w' v v' : World} {col col' : Nat → Nat} (c : Nat) (h : Ext w col w' col') (hv : w.heap.size ≤ v.heap.size) : Ext w col w' (newCol v v' c col') := ⟨h.1, fun k hk => by rw [newCol_old (Nat.lt_of_lt_of_le hk hv)]; exact h.2 k hk⟩
theorem Ext.trans {w w' w'' : World} {col col' col'' : Nat → Nat} (h : Ext w col w' col') (k : Ext w' col' w'' col'') : Ext w col w'' col'' :=
  ⟨(h.turn k.1 fun _ e => e).1, fun i hi => (k.2 i (Nat.lt_of_lt_of_le hi h.1.size)).trans (h.2 i hi)⟩
/-- a query under way -/
structure CoQ (w : World) (col : Nat → Nat) (qb sb bm : Nat) (ia : Option Addr) (ic : Nat) (tu tr sk : Int) (he : Bool) : Prop where
  q : w.heap[qb]? = some (.cells (quC ia ic bm sb) 96 (0, 0))
  s : w.heap[sb]? = some (.cells #[.int .i64 tu, .int .i64 tr, .int .i64 sk, .bool he] 143 (0, 0))
  m : ∃ wa wc Sm, MAt w bm 2 [] [y24 wa wc] Sm ∧ ∀ k, Sm k → col k = 7
  c : col qb = 5 ∧ col sb = 6
theorem CoQ.lts {w : World} {col : Nat → Nat} {qb sb bm : Nat} {ia : Option Addr} {ic : Nat} {tu tr sk : Int} {he : Bool} (h : CoQ w col qb sb bm ia ic tu tr sk he) : qb < w.heap.size ∧ sb < w.heap.size := ⟨(Array.getElem?_eq_some_iff.1 h.q).1, (Array.getElem?_eq_some_iff.1 h.s).1⟩
theorem CoQ.turn {w w' : World} {col : Nat → Nat} {qb sb bm : Nat} {ia : Option Addr} {ic : Nat} {tu tr sk : Int} {he : Bool} {F : Nat → Prop} (h : CoQ w col qb sb bm ia ic tu tr sk he) (t : Turn F w w') (hF : ∀ k, F k → col k < 5 ∨ 7 < col k) : CoQ w' col qb sb bm ia ic tu tr sk he := by
  refine ⟨(t.block qb h.lts.1 fun e => by have := hF _ e; have := h.c.1; omega).trans h.q, (t.block sb h.lts.2 fun e => by have := hF _ e; have := h.c.2; omega).trans h.s, ?_, h.c⟩
  obtain ⟨wa, wc, Sm, hm, hc⟩ := h.m
  exact ⟨wa, wc, Sm, hm.turn t (fun k hk e => by have := hF _ e; have := hc k hk; omega), hc⟩
theorem CoQ.below {w w' : World} {col : Nat → Nat} {qb sb bm : Nat} {ia : Option Addr} {ic : Nat} {tu tr sk : Int} {he : Bool} (h : CoQ w col qb sb bm ia ic tu tr sk he) (hb : Below w.heap.size w w') : CoQ w' col qb sb bm ia ic tu tr sk he :=
  h.turn (F := fun _ => False) (Turn.of_below hb) fun k e => e.elim
theorem CoQ.paint {w v : World} {w' : World} {c : Nat} {col : Nat → Nat} {qb sb bm : Nat} {ia : Option Addr} {ic : Nat} {tu tr sk : Int} {he : Bool} (h : CoQ w col qb sb bm ia ic tu tr sk he) (hq : qb < v.heap.size ∧ sb < v.heap.size) (hm : ∀ k, col k = 7 → k < v.heap.size) : CoQ w (newCol v w' c col) qb sb bm ia ic tu tr sk he := by
  obtain ⟨wa, wc, Sm, h1, hc⟩ := h.m
  exact ⟨h.q, h.s, ⟨wa, wc, Sm, h1, fun k hk => by rw [newCol_old (hm k (hc k hk))]; exact hc k hk⟩, ⟨(newCol_old hq.1).trans h.c.1, (newCol_old hq.2).trans h.c.2⟩⟩
theorem zeroQ (w : World) : (zeroValue 93).run Tryz.prog w = .ok (.pointer none) w := by kernel_rfl
theorem mapTq : MapT 85 93 (.pointer none) := ⟨Tryz.underlying85, zeroQ⟩
theorem step_append_opt {P : Program} {w : World} {ops : Array Oper} {o : Oper} {a : Act} {K : Act → World → Prop} {Q : Exit → Act → World → Prop} {E : Prop} (hgd : o.guard = none) (s x : Operand) (t : TypeId)
    (ho : o.op = .call { callee := .builtin .append, args := #[s, x], argTypes := #[t, t] })
    (base : Nat) (e : TypeId) (i : TypeInfo) (z : Value) (size bytes : Nat) (ht : P.underlying t = some (.slice e)) (hi : P.info? e = some i) (hz : i.zero = some z)
    (hsize : i.size = size) (hby : i.bytes = bytes) (hzs : z.cells.size = size) (hsz : 0 < size)
    (v : Value) (n : Nat) (xs : List Value) (hs : a.eval s = v) (hown : w.ownsRow base e size v n xs)
    (ao : Option Addr) (m c : Nat) (news : List Value) (hx : a.eval x = .slice ao m c) (hnone : ao = none → m = 0 ∧ c = 0) (hl : news.length = m * size)
    (hnews : ∀ ad, ao = some ad → ∀ j u, news[j]? = some u → w.cell? (ad.add j) = some u) (h1 : ∀ u ∈ news, u.oneCell' = true)
    (h63 : n + m ≤ maxLen) (hbytes : (n + m) * bytes ≤ 140737488355328) (hbase : base ≤ w.heap.size)
    (h : ∀ a' c' w', w'.ownsRow base e size (.slice a' (n + m) c') (n + m) (xs ++ news) → Below base w w' → K (a.put o.dst (.slice a' (n + m) c')) w') :
    if Region.wanted o (yielded ops a.tmps) = true then Oper.wp P o a w K Q else E := by
  have hw : Region.wanted o (yielded ops a.tmps) = true := by simp [Region.wanted, hgd]
  rw [if_pos hw]
  exact wp_append_opt s x t ho base e i z size bytes ht hi hz hsize hby hzs hsz v n xs hs hown ao m c news hx hnone hl hnews h1 h63 hbytes hbase h
variable {B0 : Nat} {col : Nat → Nat} {x ca cc cw c2 bl bs bo ba bt bq n : Nat} {ls : Lt} {ss : Sl} {M : List TM}
theorem CoS.paintNew {w w' : World} {f f' : Int → Option Value} {ls' : Lt} {ss' : Sl} {M' : List TM} {n' : Nat} (c : Nat) (h0 : CoS B0 w col x ca cc cw c2 bl bs bo ba bt bq n ls ss M f) (h : CoS B0 w' col x ca cc cw c2 bl bs bo ba bt bq n' ls' ss' M' f') (hs : w.heap.size ≤ w'.heap.size) : CoS B0 w' (newCol w w' c col) x ca cc cw c2 bl bs bo ba bt bq n' ls' ss' M' f' := by
  refine h.paint (w := w') c hs h0.hB h0.lts ?_
  obtain ⟨St, q, hc⟩ := h.T
  refine ⟨St, q, fun k hk => ?_⟩
  rw [newCol_old]
  · exact hc k hk
  · rcases Nat.lt_or_ge k w.heap.size with e | e
    · exact e
    · have := h0.nw k e; have := hc k hk; omega
theorem nil24 {w : World} {B : Nat} {e : TypeId} {a : Option Addr} {c : Nat} (h : w.ownsRow B e 2 (.slice a 0 c) 0 []) : a = none → 0 = 0 ∧ c = 0 := by
  rintro rfl
  rcases h.2 with ⟨h0, -⟩ | ⟨g, cap, cur, hv, -⟩
  · injection h0 with _ _ h0; exact ⟨rfl, h0⟩
  · injection hv with hv; cases hv
def Adv24 (B0 : Nat) (col : Nat → Nat) (x ca cc cw c2 bl bs bo ba bt bq n : Nat) (ls : Lt) (ss : Sl) (M : List TM) (qb sb bm : Nat) (tu tr sk : Int) (he : Bool) (w : World) (e : Ending) (w' : World) : Prop :=
  ∃ col' ia ic, e = .returned (.slice none 0 0) ∧ CoS B0 w' col' x ca cc cw c2 bl bs bo ba bt bq n ls ss M (qmap qb) ∧ CoQ w' col' qb sb bm ia ic tu tr sk he ∧ Ext w col w' col'
set_option maxRecDepth 100000 in
set_option maxHeartbeats 1600000 in
theorem advance24 (qb sb bm : Nat) (tu tr sk : Int) (he : Bool) (w : World) (h : CoS B0 w col x ca cc cw c2 bl bs bo ba bt bq n ls ss M (qmap qb)) (hq : CoQ w col qb sb bm none 0 tu tr sk he) : Calls Tryz.prog 34 #[.pointer (some ⟨x, 0, none⟩), .int .i64 1] w (Adv24 B0 col x ca cc cw c2 bl bs bo ba bt bq n ls ss M qb sb bm tu tr sk he w) := by
  obtain ⟨i0, hi, hz0, hz1, hz2⟩ := info_parts item_info
  have C := Lib.hid h
  have HQ := Lib.hid hq
  have x17 : w.cell? ⟨x, 17, none⟩ = some (.map (some bq)) := co_cell h.box rfl
  have wf : wfI 1 := by unfold wfI; rfl
  obtain ⟨wa, wc, Sm, hm, hc⟩ := hq.m
  have CT := Lib.hid (tell24 w.drew bm wa wc Sm (hm.below ((Below.refl _ _).drew)))
  have HC := Lib.hid hc
  clear h hq hm hc
  go_enter Tryz.func34, Tryz.ntmps34
  go_wp2_with (first | (at_lookup; refine wpList_get_mv mapTq rfl (.tmp 9) (.tmp 10) rfl rfl C.out.Q 1 rfl wf (.pointer (some ⟨qb, 0, none⟩)) rfl ?_) | fail)
  have y4 : w.cell? ⟨qb, 4, none⟩ = some (.slice none 0 0) := co_cell HQ.out.q rfl
  have y7 : w.cell? ⟨qb, 7, none⟩ = some (.pointer (some ⟨bm, 0, none⟩)) := co_cell HQ.out.q rfl
  have G := Lib.hid (show ∀ w2, Turn Sm w.drew w2 → w2.heap[qb]? = some (.cells (quC none 0 bm sb) 96 (0, 0)) from fun w2 t => (t.block qb HQ.out.lts.1 fun e => by have := HC.out _ e; have := HQ.out.c.1; omega).trans HQ.out.q)
  go_region_law
    (first
      | (go_simp; go_at_call 59; (with_reducible refine CT.out.mono ?_); rintro e w2 ⟨oa, oc, wa2, wc2, S2, rfl, hm2, ho2, hs2, ht2⟩; have g4 : w2.cell? ⟨qb, 4, none⟩ = some (.slice none 0 0) := co_cell (G.out w2 ht2) rfl; have z4 := co_fz (G.out w2 ht2) 4)
      | (refine step_append_opt (by rfl) _ _ _ (by rfl) _ 71 i0 _ 2 24 Tryz.underlying24 hi hz0 hz1 hz2 rfl (by omega) (.slice none 0 0) 0 [] (by rfl) (World.ownsRow_nil _ _ _ _) oa 0 oc [] (by rfl) (nil24 ho2) rfl (fun ad _ j u hu => by cases hu) (fun u hu => by cases hu) (by unfold maxLen; omega) (by omega) (Nat.le_refl _) ?_; intro a3 c3 w3 ho3 hb3; have g43 : w3.cell? ⟨qb, 4, none⟩ = some (.slice none 0 0) := (hb3.cell (p := ⟨qb, 4, none⟩) (lt_of_cell g4)).trans g4; have z43 : w3.frozen? ⟨qb, 4, none⟩ = false := (World.frozen?_of_block (w := w2) (hb3.block qb (lt_of_cell g4))).trans z4))
  all_goals
    have hsz : w.heap.size ≤ w2.heap.size := ht2.size
    have C2 : CoS B0 w2 col x ca cc cw c2 bl bs bo ba bt bq n ls ss M (qmap qb) := (C.out.below ((Below.refl _ _).drew)).own ht2 (fun k e => by rw [HC.out k e]; decide)
    have C2' := C.out.paintNew 7 C2 hsz
    have Q2 : CoQ w2 (newCol w w2 7 col) qb sb bm none 0 tu tr sk he := ⟨G.out w2 ht2, (ht2.block sb HQ.out.lts.2 fun e => by have := HC.out _ e; have := HQ.out.c.2; omega).trans HQ.out.s, ⟨wa2, wc2, S2, hm2, fun k hk => by
      by_cases e : w.heap.size ≤ k
      · exact newCol_new e (hm2.lt k hk)
      · rcases hs2 k hk with h1 | h1
        · rw [newCol_old (by omega)]; exact HC.out k h1
        · exact absurd h1 e⟩, ⟨(newCol_old HQ.out.lts.1).trans HQ.out.c.1, (newCol_old HQ.out.lts.2).trans HQ.out.c.2⟩⟩
    have hbE : Ext w col w2 (newCol w w2 7 col) := Ext.paint 7 (((Ext.refl w col).below ((Below.refl _ _).drew)).turn ht2 (fun k hk => by rw [HC.out k hk]; decide)) (Nat.le_refl _)
    have C3 := C2'.below hb3
    have Q3 := Q2.below hb3
    have hbF := hbE.below hb3
    have tS : Turn (fun k => k = qb) w3 (w3.setCell ⟨qb, 4, none⟩ (.slice a3 0 c3)) := Turn.setCell rfl
    have C4 := Lib.hid (C3.own tS (fun k e => by have := Q3.c.1; rw [e]; omega))
    have Q4 := Lib.hid (show CoQ (w3.setCell ⟨qb, 4, none⟩ (.slice a3 0 c3)) (newCol w w2 7 col) qb sb bm a3 c3 tu tr sk he from ⟨by rw [Go.heap_setCell_same w3 qb 4 _ _ _ Q3.q]; rfl, (tS.block sb Q3.lts.2 fun e => by have := Q3.c.1; have := Q3.c.2; rw [e] at this; omega).trans Q3.s, by
      obtain ⟨wa3, wc3, Sm3, hm3, hc3⟩ := Q3.m
      exact ⟨wa3, wc3, Sm3, hm3.turn tS (fun k hk e => by have h1 := hc3 k hk; rw [e] at h1; have := Q3.c.1; omega), hc3⟩, Q3.c⟩)
    have B4 := Lib.hid (hbF.turn tS (fun k e => by have := Q3.c.1; rw [e]; omega))
    have MD := Lib.hid Q4.out.m
    clear hsz C2 C2' Q2 hbE C3 Q3 hbF tS hm2 ho2 hs2 ht2 ho3 hb3 g4 z4 g43 z43 y4 y7
    go_upto_region 3 with fail
    generalize w3.setCell ⟨qb, 4, none⟩ (.slice a3 0 c3) = w4 at *
    have y7 : w4.cell? ⟨qb, 7, none⟩ = some (.pointer (some ⟨bm, 0, none⟩)) := co_cell Q4.out.q rfl
    obtain ⟨wa4, wc4, Sm4, hm4, hc4⟩ := MD.out
    have CD := Lib.hid (mdone_any false bm w4 hm4 (show 1 ≤ 1000 by decide) (done24 wa4 wc4))
    clear hm4 hc4
    go_wp2_with fail
    refine CD.out.mono ?_
    rintro e w5 ⟨rfl, hb5⟩
    have FIN := Lib.hid (show Adv24 B0 col x ca cc cw c2 bl bs bo ba bt bq n ls ss M qb sb bm tu tr sk he w (.returned (.slice none 0 0)) w5 from ⟨_, a3, c3, rfl, C4.out.below hb5, Q4.out.below hb5, B4.out.below hb5⟩)
    clear hb5
    go_wp2_with fail
    go_ret
    exact FIN.out
end Go.Proofs.YtblipdmagfiigaaGreat
namespace Go.Proofs.YtblipdmagfiigaaGreat
open Go.RowKit
set_option linter.unusedVariables false
set_option maxRecDepth 20000
variable {B0 : Nat} {col : Nat → Nat} {x ca cc cw c2 bl bs bo ba bt bq n : Nat} {ls : Lt} {ss : Sl} {M : List TM}
def ss0 : Sl := newSl 1
def ss1 : Sl := subS true ss0 0
theorem mayP24 : decide (mayP coA 1 2) = true := decide_eq_true (by unfold mayP; decide +kernel)
theorem ff24 : FirstFree ss0 0 := ⟨by decide, fun i h => by omega, fun _ => rfl⟩
theorem sub24 (w : World) (h : SlAt w bs bo ba ss0) : Calls Tryz.prog 31 #[.pointer (some ⟨bs, 0, none⟩), .agg #[.string coA, .int .i64 1, .int .i64 2]] w fun e w' => e = .returned (.tuple #[.int .i64 3, .int .i64 1, .int .i64 0]) ∧ SlAt w' bs bo ba ss1 ∧ Turn (slF bs bo ba) w w' :=
  submit_may bs bo ba 0 coA 1 2 w h (newSl_good (by omega) (by omega)) ff24 (by decide) (by decide) mayP24
theorem shard_info : (Tryz.prog.info? 143).map (fun i => (i.zero, i.size, i.bytes)) = some (some (.agg #[.int .i64 0, .int .i64 0, .int .i64 0, .bool false]), 4, 32) := by kernel_rfl
theorem made24 : (madeCells (Value.agg #[.int .i64 0, .int .i64 0, .int .i64 0, .bool false]).cells (1 * 4)).toList = [.int .i64 0, .int .i64 0, .int .i64 0, .bool false] := by kernel_rfl
theorem own_block24 {w : World} {B g : Nat} {e : TypeId} {a b c d : Value} (h : w.ownsRow B e 4 (.slice (some ⟨g, 0, none⟩) 1 1) 1 [a, b, c, d]) : w.heap[g]? = some (.cells #[a, b, c, d] e (0, 0)) := by
  rcases h.2 with ⟨h0, -⟩ | ⟨g', cap, cur, hv, -, hh, -, -, hs, hx⟩
  · injection h0 with h0; cases h0
  · injection hv with h1 h2 h3
    injection h1 with h1
    injection h1 with h1
    subst h1; subst h3
    rw [List.take_of_length_le (by simp; omega)] at hx
    rw [hh, show cur = #[a, b, c, d] from by cases cur; simpa using hx]
theorem sub_carry {w1 a b : World} {q : Nat} (h : Below w1.heap.size w1 a ∧ a.cell? ⟨q, 0, none⟩ = some (.string coA) ∧ a.cell? ⟨q, 1, none⟩ = some (.int .i64 1) ∧ a.cell? ⟨q, 2, none⟩ = some (.int .i64 2)) (hb : Below a.heap.size a b) : Below w1.heap.size w1 b ∧ b.cell? ⟨q, 0, none⟩ = some (.string coA) ∧ b.cell? ⟨q, 1, none⟩ = some (.int .i64 1) ∧ b.cell? ⟨q, 2, none⟩ = some (.int .i64 2) :=
  ⟨h.1.trans (hb.mono h.1.size), (hb.cell (p := ⟨q, 0, none⟩) (lt_of_cell h.2.1)).trans h.2.1, (hb.cell (p := ⟨q, 1, none⟩) (lt_of_cell h.2.2.1)).trans h.2.2.1, (hb.cell (p := ⟨q, 2, none⟩) (lt_of_cell h.2.2.2)).trans h.2.2.2⟩
def Sub24 (B0 : Nat) (col : Nat → Nat) (x ca cc cw c2 bl bs bo ba bt bq : Nat) (ls : Lt) (M : List TM) (w : World) (e : Ending) (w' : World) : Prop :=
  ∃ col' qb sb bm ia ic, e = .returned (.tuple #[.int .i64 3, .int .i64 1, .slice none 0 0]) ∧ CoS B0 w' col' x ca cc cw c2 bl bs bo ba bt bq 1 ls ss1 M (qmap qb) ∧ CoQ w' col' qb sb bm ia ic 0 0 0 false ∧ Ext w col w' col'
set_option maxRecDepth 100000 in
set_option maxHeartbeats 3200000 in
theorem submit24 (w : World) (h : CoS B0 w col x ca cc cw c2 bl bs bo ba bt bq 0 ls ss0 M (fun _ => none)) : Calls Tryz.prog 8 #[.pointer (some ⟨x, 0, none⟩), .agg #[.string coA, .int .i64 1, .int .i64 2]] w (Sub24 B0 col x ca cc cw c2 bl bs bo ba bt bq ls M w) := by
  have hb1 := below_one w (.cells #[.string coA, .int .i64 1, .int .i64 2] 23)
  obtain ⟨q, hq⟩ : ∃ q, w.heap.size = q := ⟨_, rfl⟩
  have KQ := Lib.hid (show (w.alloc (.cells #[.string coA, .int .i64 1, .int .i64 2] 23)).heap[q]? = some (.cells #[.string coA, .int .i64 1, .int .i64 2] 23 (0, 0)) from by rw [← hq]; exact heap_alloc_new w _)
  have C1 := Lib.hid (h.below hb1)
  have E1 := Lib.hid ((Ext.refl w col).below hb1)
  have HCQ := Lib.hid (show col q = 9 from h.nw q (by omega))
  clear h hb1
  go_enter Tryz.func8, Tryz.ntmps8
  go_upto_region 1 with fail
  generalize w.alloc (.cells #[.string coA, .int .i64 1, .int .i64 2] 23) = w1 at *
  go_upto_region 3 with fail
  have CD := Lib.hid (C1.out.below ((Below.refl _ _).drew))
  have CSub := Lib.hid (sub24 w1.drew CD.out.S)
  have hql : q < w1.heap.size := (Array.getElem?_eq_some_iff.1 KQ.out).1
  have HS := Lib.hid (show ∀ w', Turn (slF bs bo ba) w1.drew w' → w'.heap[q]? = some (.cells #[.string coA, .int .i64 1, .int .i64 2] 23 (0, 0)) ∧ w'.cell? ⟨x, 15, none⟩ = some (.pointer (some ⟨bs, 0, none⟩)) ∧ w'.cell? ⟨q, 0, none⟩ = some (.string coA) ∧ w'.cell? ⟨q, 1, none⟩ = some (.int .i64 1) ∧ w'.cell? ⟨q, 2, none⟩ = some (.int .i64 2) from fun w' t => by
    have k := (t.block q hql fun e => by have := C1.out.hs q e; have := HCQ.out; omega).trans (show w1.drew.heap[q]? = some (.cells #[.string coA, .int .i64 1, .int .i64 2] 23 (0, 0)) from KQ.out)
    exact ⟨k, (t.cell C1.out.lts.1 fun e => by have := C1.out.hs x e; have := C1.out.cx.1; omega).trans (co_cell C1.out.box rfl), co_cell k rfl, co_cell k rfl, co_cell k rfl⟩)
  have S0 := Lib.hid (HS.out w1.drew (Turn.refl _ _))
  go_region_held3 (fun w' => w'.heap[q]? = some (.cells #[.string coA, .int .i64 1, .int .i64 2] 23 (0, 0)) ∧ w'.cell? ⟨x, 15, none⟩ = some (.pointer (some ⟨bs, 0, none⟩)) ∧ w'.cell? ⟨q, 0, none⟩ = some (.string coA) ∧ w'.cell? ⟨q, 1, none⟩ = some (.int .i64 1) ∧ w'.cell? ⟨q, 2, none⟩ = some (.int .i64 2))
    (first | assumption | exact S0.out | exact HS.out _ (by assumption))
    (first
      | (go_at_call 31; refine CSub.out.mono ?_; rintro e w2 ⟨rfl, hS, hT⟩))
  have C2 := Lib.hid (CD.out.slots hS hT)
  have E2 := Lib.hid ((E1.out.below ((Below.refl _ _).drew)).turn hT (fun k e => by rw [C1.out.hs k e]; decide))
  have K2 := Lib.hid (HS.out w2 hT).1
  have LM := Lib.hid (fun (w' : World) (hb : Below w2.heap.size w2 w') => leasts24 w' (C2.out.below hb))
  have S2 := Lib.hid (show Below w2.heap.size w2 w2.drew ∧ w2.drew.cell? ⟨q, 0, none⟩ = some (.string coA) ∧ w2.drew.cell? ⟨q, 1, none⟩ = some (.int .i64 1) ∧ w2.drew.cell? ⟨q, 2, none⟩ = some (.int .i64 2) from ⟨(Below.refl _ _).drew, co_cell K2.out rfl, co_cell K2.out rfl, co_cell K2.out rfl⟩)
  clear hS hT HS S0 CSub CD
  go_upto_region 6 with fail
  go_region_held3 (fun w' => Below w2.heap.size w2 w' ∧ w'.cell? ⟨q, 0, none⟩ = some (.string coA) ∧ w'.cell? ⟨q, 1, none⟩ = some (.int .i64 1) ∧ w'.cell? ⟨q, 2, none⟩ = some (.int .i64 2))
    (first | assumption | exact S2.out | exact sub_carry (by assumption) (by assumption))
    (first
      | (go_at_call 33; refine (LM.out _ (And.left (by assumption))).mono ?_; rintro e w3 ⟨a4, c4, rfl, hA, hb3⟩)
      | (go_at_call 32; refine (mnew_any a4 1 c4 [0] 2 _ hA (by omega) (by omega)).mono ?_; rintro e w4 ⟨bm, Sm, rfl, hM, hMge, hb4⟩))
  rename_i T4
  have hb24 : Below w2.heap.size w2 w4 := T4.1
  obtain ⟨-, q0, q1, q2⟩ := T4
  have hb23 : Below w2.heap.size w2 w3 := ((Below.refl w2.heap.size w2).drew).trans hb3
  have C3 := C2.out.below hb23
  have C4 := C2.out.below hb24
  have C4' := C3.paintNew 7 C4 hb4.size
  have E4' := Ext.paint (v := w3) (v' := w4) 7 (E2.out.below hb24) (Nat.le_trans E2.out.1.size hb23.size)
  have M4 : ∀ k, Sm k → newCol w3 w4 7 col k = 7 := fun k hk => newCol_new (hMge k hk) (hM.lt k hk)
  obtain ⟨cl4, hcl4⟩ : ∃ c, newCol w3 w4 7 col = c := ⟨_, rfl⟩
  rw [hcl4] at C4' E4' M4
  obtain ⟨i1, hi1, hy0, hy1, hy2⟩ := info_parts shard_info
  obtain ⟨w5, hrun, hown5, hgrow5⟩ := run_make_full (P := Tryz.prog) w4.drew w4.heap.size 94 143 i1 (.agg #[.int .i64 0, .int .i64 0, .int .i64 0, .bool false]) 4 Tryz.underlying94 hi1 hy0 hy1 .i64 .i64 1 (by rw [hy2]; omega) (by unfold maxLen; omega) (Nat.le_refl _)
  have hrun2 : (Instr.makeSlice 94 (.int .i64 1) (.int .i64 1)).run Tryz.prog w4.drew = .ok (.slice (some ⟨w4.heap.size, 0, none⟩) 1 1) w5 := hrun
  rw [made24] at hown5
  have hsb := own_block24 hown5
  have hb45 : Below w4.heap.size w4 w5 := (Below.refl w4.heap.size w4).drew.trans ((below_grown hgrow5 (by intro k hk; cases hk)))
  obtain ⟨sb, hsbe⟩ : ∃ b, w4.heap.size = b := ⟨_, rfl⟩
  rw [show w4.drew.heap.size = sb from hsbe] at hsb
  rw [hsbe] at hrun2
  have C5 := C4'.below hb45
  have C5' := C4'.paintNew 6 C5 hb45.size
  have hsl : sb < w5.heap.size := (Array.getElem?_eq_some_iff.1 hsb).1
  have hs6 : newCol w4 w5 6 cl4 sb = 6 := newCol_new (by omega) hsl
  have M5 : ∀ k, Sm k → newCol w4 w5 6 cl4 k = 7 := fun k hk => (newCol_old (hM.lt k hk)).trans (M4 k hk)
  have E5 := Ext.paint (v := w4) (v' := w5) 6 (E4'.below hb45) E4'.1.size
  obtain ⟨cl5, hcl5⟩ : ∃ c, newCol w4 w5 6 cl4 = c := ⟨_, rfl⟩
  rw [hcl5] at C5' hs6 M5 E5
  have hM5 := hM.below hb45
  have hb56 := below_one w5 (.cells (quC none 0 bm sb) 96)
  have C6 := C5'.below hb56
  have C6' := C5'.paintNew 5 C6 hb56.size
  obtain ⟨qb, hqb⟩ : ∃ b, w5.heap.size = b := ⟨_, rfl⟩
  have K6 : (w5.alloc (.cells (quC none 0 bm sb) 96)).heap[qb]? = some (.cells (quC none 0 bm sb) 96 (0, 0)) := by rw [← hqb]; exact heap_alloc_new w5 _
  have Q6 := Lib.hid (show CoQ (w5.alloc (.cells (quC none 0 bm sb) 96)) (newCol w5 (w5.alloc (.cells (quC none 0 bm sb) 96)) 5 cl5) qb sb bm none 0 0 0 0 false from
    ⟨K6, (hb56.block sb hsl).trans hsb, ⟨none, 0, Sm, hM5.below hb56, fun k hk => (newCol_old (hM5.lt k hk)).trans (M5 k hk)⟩, ⟨newCol_new (by omega) (Array.getElem?_eq_some_iff.1 K6).1, (newCol_old hsl).trans hs6⟩⟩)
  have E6 := Lib.hid (Ext.paint (v := w5) (v' := w5.alloc (.cells (quC none 0 bm sb) 96)) 5 (E5.below hb56) E5.1.size)
  have CC6 := Lib.hid C6'
  have x12 : w4.cell? ⟨x, 12, none⟩ = some (.slice (some ⟨ca, 0, none⟩) 1 cc) := co_cell C4.box rfl
  have x17 : w4.cell? ⟨x, 17, none⟩ = some (.map (some bq)) := co_cell C4.box rfl
  have x17' : w5.cell? ⟨x, 17, none⟩ = some (.map (some bq)) := co_cell C5.box rfl
  have x17'' : (w5.alloc (.cells #[.int .i64 1, .string coA, .int .i64 1, .int .i64 2, .slice none 0 0, .bool false, .bool false, .pointer (some ⟨bm, 0, none⟩), .slice (some ⟨sb, 0, none⟩) 1 1] 96)).cell? ⟨x, 17, none⟩ = some (.map (some bq)) := co_cell C6.box rfl
  have p0 : w5.cell? ⟨q, 0, none⟩ = some (.string coA) := (hb45.cell (p := ⟨q, 0, none⟩) (lt_of_cell q0)).trans q0
  have p1 : w5.cell? ⟨q, 1, none⟩ = some (.int .i64 1) := (hb45.cell (p := ⟨q, 1, none⟩) (lt_of_cell q1)).trans q1
  have p2 : w5.cell? ⟨q, 2, none⟩ = some (.int .i64 2) := (hb45.cell (p := ⟨q, 2, none⟩) (lt_of_cell q2)).trans q2
  have wf : wfI 1 := by unfold wfI; rfl
  have MQ := Lib.hid C6.Q
  clear C3 C4 C4' E4' M4 hrun hown5 hgrow5 hsb C5 C5' hsl hs6 M5 E5 hM5 hb56 C6 C6' K6 hb23 hb24 hb45 hM hMge hA hb3 hb4 hcl4 hcl5 hql
  clear LM S2 C2 E2 C1 E1 KQ K2 HCQ
  go_upto_region 7 with fail
  obtain ⟨w7, hput, m7, t7⟩ := MapV.put_run mapTq MQ.out (by unfold maxLen; omega) 1 (.pointer (some ⟨qb, 0, none⟩)) wf
  have hput2 : (Instr.mapUpdate 85 (.map (some bq)) (.int .i64 1) (.pointer (some ⟨qb, 0, none⟩))).run Tryz.prog (w5.alloc (.cells #[.int .i64 1, .string coA, .int .i64 1, .int .i64 2, .slice none 0 0, .bool false, .bool false, .pointer (some ⟨bm, 0, none⟩), .slice (some ⟨sb, 0, none⟩) 1 1] 96)) = .ok () w7 := hput
  clear hput
  go_region_law (fail)
  all_goals
    have t7' : Turn (fun k => k = bq) (w5.alloc (.cells (quC none 0 bm sb) 96)) w7 := TurnV.of_mapTurned t7 rfl
    have m7' : MapV w7 bq 1 (qmap qb) := by
      have h : vset (fun _ => none) 1 (some (.pointer (some ⟨qb, 0, none⟩))) = qmap qb := by funext k; rfl
      rw [← h]; exact m7
    have C7 := Lib.hid (CC6.out.queries m7' t7')
    have Q7 := Q6.out.turn t7' (fun k e => by have := CC6.out.cq; rw [e]; omega)
    have E7 := Lib.hid (E6.out.turn t7' (fun k e => by have := CC6.out.cq; rw [e]; omega))
    have CA := Lib.hid (advance24 qb sb bm 0 0 0 false w7 C7.out Q7)
    clear m7 t7 t7' m7' Q7 MQ x12 x17 x17' x17'' p0 p1 p2 q0 q1 q2 hrun2 hput2 wf
    go_wp2_with fail
    refine CA.out.mono ?_
    rintro e w8 ⟨col', ia, ic, rfl, h1, h2, h3⟩
    have FIN := Lib.hid (show Sub24 B0 col x ca cc cw c2 bl bs bo ba bt bq ls M w (.returned (.tuple #[.int .i64 3, .int .i64 1, .slice none 0 0])) w8 from ⟨col', qb, sb, bm, ia, ic, rfl, h1, h2, E7.out.trans h3⟩)
    clear h1 h2 h3
    go_wp2_with fail
    exact bodyPost_ret (v := .tuple #[.int .i64 3, .int .i64 1, .slice none 0 0]) (by simp [results, go_sem]) rfl FIN.out
end Go.Proofs.YtblipdmagfiigaaGreat
namespace Go.Proofs.YtblipdmagfiigaaGreat
open Go.RowKit
set_option linter.unusedVariables false
set_option maxRecDepth 20000
variable {B0 : Nat} {col : Nat → Nat} {x ca cc cw c2 bl bs bo ba bt bq n : Nat} {ss : Sl} {M : List TM} {f : Int → Option Value}
theorem ls1_good : GoodL ls1 := hello_good ls0_good 1 1 0
theorem ls1_live : decide (liveOk ls1 1 0) = true := by decide +kernel
theorem ls1_ep : epochS ls1 1 = 1 := by decide +kernel
theorem liv_carry {w1 a b : World} {B x bl : Nat} (h : Below w1.heap.size w1 a ∧ a.cell? ⟨B, 0, none⟩ = some (.pointer (some ⟨x, 0, none⟩)) ∧ a.cell? ⟨x, 13, none⟩ = some (.int .i64 0) ∧ a.cell? ⟨x, 14, none⟩ = some (.pointer (some ⟨bl, 0, none⟩))) (hb : Below a.heap.size a b) : Below w1.heap.size w1 b ∧ b.cell? ⟨B, 0, none⟩ = some (.pointer (some ⟨x, 0, none⟩)) ∧ b.cell? ⟨x, 13, none⟩ = some (.int .i64 0) ∧ b.cell? ⟨x, 14, none⟩ = some (.pointer (some ⟨bl, 0, none⟩)) :=
  ⟨h.1.trans (hb.mono h.1.size), (hb.cell (p := ⟨B, 0, none⟩) (lt_of_cell h.2.1)).trans h.2.1, (hb.cell (p := ⟨x, 13, none⟩) (lt_of_cell h.2.2.1)).trans h.2.2.1, (hb.cell (p := ⟨x, 14, none⟩) (lt_of_cell h.2.2.2)).trans h.2.2.2⟩
theorem liveC24 (B : Nat) (w : World) (h : CoS B0 w col x ca cc cw c2 bl bs bo ba bt bq n ls1 ss M f) (hB : w.cell? ⟨B, 0, none⟩ = some (.pointer (some ⟨x, 0, none⟩))) : Calls Tryz.prog 96 #[.int .i64 1, .pointer (some ⟨B, 0, none⟩)] w fun e w' => e = .returned (.bool true) ∧ Below w.heap.size w w' := by
  have CL := Lib.hid (fun w' (hb : Below w.heap.size w w') => live_any bl 1 0 w' (h.below hb).L ls1_good)
  rw [ls1_live] at CL
  have S0 := Lib.hid (show Below w.heap.size w w.drew ∧ w.drew.cell? ⟨B, 0, none⟩ = some (.pointer (some ⟨x, 0, none⟩)) ∧ w.drew.cell? ⟨x, 13, none⟩ = some (.int .i64 0) ∧ w.drew.cell? ⟨x, 14, none⟩ = some (.pointer (some ⟨bl, 0, none⟩)) from ⟨(Below.refl _ _).drew, hB, co_cell h.box rfl, co_cell h.box rfl⟩)
  clear h hB
  go_enter Tryz.func96, Tryz.ntmps96
  go_upto_region 1 with fail
  go_region_held3 (fun w' => Below w.heap.size w w' ∧ w'.cell? ⟨B, 0, none⟩ = some (.pointer (some ⟨x, 0, none⟩)) ∧ w'.cell? ⟨x, 13, none⟩ = some (.int .i64 0) ∧ w'.cell? ⟨x, 14, none⟩ = some (.pointer (some ⟨bl, 0, none⟩)))
    (first | assumption | exact S0.out | exact liv_carry (by assumption) (by assumption))
    (first
      | (go_at_call 97; refine (CL.out _ (And.left (by assumption))).mono ?_; rintro e w2 ⟨rfl, hb2⟩))
  rename_i T5
  have hb := T5.1
  clear T5
  go_wp2_with fail
  go_ret
  exact ⟨rfl, hb⟩
theorem idx24 (B : Nat) (w : World) (h : CoS B0 w col x ca cc cw c2 bl bs bo ba bt bq n ls1 ss M f) (hB : w.cell? ⟨B, 0, none⟩ = some (.pointer (some ⟨x, 0, none⟩))) : Calls Tryz.prog 95 #[.slice (some ⟨cw, 0, none⟩) 1 c2, .func (.func 96) #[] #[.pointer (some ⟨B, 0, none⟩)]] w fun e w' => e = .returned (.int .i64 0) ∧ Below w.heap.size w w' := by
  have CL := Lib.hid (liveC24 B w h hB)
  have k := h.wk
  clear h hB
  go_enter Tryz.func95, Tryz.ntmps95
  go_wp2_with fail
  go_loopw [8] (fun iv wr => iv = .int .i64 0 ∧ wr = w) (fun _ _ => 0)
  case atStart => exact ⟨rfl, rfl⟩
  case round =>
    obtain ⟨rfl, rfl⟩ := hrel
    go_wp2_with fail
    refine CL.out.mono ?_
    rintro e w2 ⟨rfl, hb2⟩
    go_wp2_with fail
    go_ret
    exact ⟨rfl, hb2⟩
theorem firstLive24 (w : World) (h : CoS B0 w col x ca cc cw c2 bl bs bo ba bt bq n ls1 ss M f) : Calls Tryz.prog 69 #[.pointer (some ⟨x, 0, none⟩), .int .i64 0] w fun e w' => e = .returned (.int .i64 0) ∧ Below w.heap.size w w' := by
  have hb1 := below_one w (.cells #[.pointer (some ⟨x, 0, none⟩)] 31)
  have C1 := h.below hb1
  obtain ⟨B, hB⟩ : ∃ B, w.heap.size = B := ⟨_, rfl⟩
  have kB : (w.alloc (.cells #[.pointer (some ⟨x, 0, none⟩)] 31)).cell? ⟨B, 0, none⟩ = some (.pointer (some ⟨x, 0, none⟩)) := by rw [← hB, cell_alloc rfl]; rfl
  have CI := Lib.hid (idx24 B _ C1 kB)
  have x12 : (w.alloc (.cells #[.pointer (some ⟨x, 0, none⟩)] 31)).cell? ⟨x, 12, none⟩ = some (.slice (some ⟨ca, 0, none⟩) 1 cc) := co_cell C1.box rfl
  have r0 := C1.row
  have BB := Lib.hid hb1
  clear h hb1 C1
  go_enter Tryz.func69, Tryz.ntmps69
  go_wp2_with fail
  refine CI.out.mono ?_
  rintro e w2 ⟨rfl, hb2⟩
  go_wp2_with fail
  go_ret
  exact ⟨rfl, BB.out.trans (hb2.mono BB.out.size)⟩
end Go.Proofs.YtblipdmagfiigaaGreat
namespace Go.Proofs.YtblipdmagfiigaaGreat
open Go.RowKit
set_option linter.unusedVariables false
set_option maxRecDepth 20000
variable {B0 : Nat} {col : Nat → Nat} {x ca cc cw c2 bl bs bo ba bt bq n : Nat} {ss : Sl} {M : List TM}
def askV : Value := .agg #[.int .i64 0, .int .i64 1, .int .i64 0, .int .i64 0, .int .i64 1, .string coA, .int .i64 1, .int .i64 2, .bool true, .int .i64 0, .string { data := #[] }]
def Ask24 (w : World) (e : Ending) (w' : World) : Prop := ∃ p, e = .returned (.slice (some ⟨p, 0, none⟩) 1 1) ∧ One24 w' 1 73 askV p ∧ w.heap.size ≤ p ∧ Below w.heap.size w w'
theorem ask_carry24 {w1 a b : World} {qb x bm p : Nat} (h : Below w1.heap.size w1 a ∧ a.cell? ⟨qb, 7, none⟩ = some (.pointer (some ⟨bm, 0, none⟩)) ∧ a.cell? ⟨qb, 1, none⟩ = some (.string coA) ∧ a.cell? ⟨qb, 2, none⟩ = some (.int .i64 1) ∧ a.cell? ⟨x, 5, none⟩ = some (.int .i64 2) ∧ a.cell? ⟨p, 0, none⟩ = some (.int .i64 0) ∧ a.cell? ⟨p, 1, none⟩ = some (.string { data := #[] })) (hb : Below a.heap.size a b) : Below w1.heap.size w1 b ∧ b.cell? ⟨qb, 7, none⟩ = some (.pointer (some ⟨bm, 0, none⟩)) ∧ b.cell? ⟨qb, 1, none⟩ = some (.string coA) ∧ b.cell? ⟨qb, 2, none⟩ = some (.int .i64 1) ∧ b.cell? ⟨x, 5, none⟩ = some (.int .i64 2) ∧ b.cell? ⟨p, 0, none⟩ = some (.int .i64 0) ∧ b.cell? ⟨p, 1, none⟩ = some (.string { data := #[] }) := by
  obtain ⟨h0, h1, h2, h3, h4, h5, h6⟩ := h
  exact ⟨h0.trans (hb.mono h0.size), (hb.cell (p := ⟨qb, 7, none⟩) (lt_of_cell h1)).trans h1, (hb.cell (p := ⟨qb, 1, none⟩) (lt_of_cell h2)).trans h2, (hb.cell (p := ⟨qb, 2, none⟩) (lt_of_cell h3)).trans h3, (hb.cell (p := ⟨x, 5, none⟩) (lt_of_cell h4)).trans h4, (hb.cell (p := ⟨p, 0, none⟩) (lt_of_cell h5)).trans h5, (hb.cell (p := ⟨p, 1, none⟩) (lt_of_cell h6)).trans h6⟩
set_option maxRecDepth 100000 in
set_option maxHeartbeats 1600000 in
theorem ask24 (qb sb bm : Nat) (ia : Option Addr) (ic : Nat) (tu tr sk : Int) (he : Bool) (w : World) (h : CoS B0 w col x ca cc cw c2 bl bs bo ba bt bq n ls1 ss M (qmap qb)) (hq : CoQ w col qb sb bm ia ic tu tr sk he) : Calls Tryz.prog 71 #[.pointer (some ⟨x, 0, none⟩), .int .i64 0, .int .i64 1, .int .i64 0, .int .i64 0] w (Ask24 w) := by
  have C := Lib.hid h
  have Q := Lib.hid hq
  obtain ⟨wa, wc, Sm, hm, -⟩ := hq.m
  have CE := Lib.hid (fun w' (hb : Below w.heap.size w w') => (show Calls Tryz.prog 45 #[.pointer (some ⟨bl, 0, none⟩), .int .i64 1] w' fun e w'' => e = .returned (.int .i64 1) ∧ w' = w'' from ls1_ep ▸ epoch_any bl 1 w' (h.below hb).L ls1_good))
  have CA := Lib.hid (fun w' (hb : Below w.heap.size w w') => (show Calls Tryz.prog 98 #[.pointer (some ⟨bm, 0, none⟩), .int .i64 0] w' fun e w'' => e = .returned (.tuple #[.agg #[.int .i64 0, .string { data := #[] }], .bool false]) ∧ Below w'.heap.size w' w'' from mafter_any24 0 k0 false bm w' (hm.below hb) (show 1 ≤ 1000 by decide) rfl))
  have CS := Lib.hid (fun w' (hb : Below w.heap.size w w') => (show Calls Tryz.prog 99 #[.pointer (some ⟨bm, 0, none⟩), .int .i64 0] w' fun e w'' => e = .returned (.int .i64 0) ∧ w' = w'' from mseq_any 0 0 bm w' (hm.below hb) (show 1 ≤ 1000 by decide) rfl))
  have x12 : w.cell? ⟨x, 12, none⟩ = some (.slice (some ⟨ca, 0, none⟩) 1 cc) := co_cell h.box rfl
  have r0 := h.row
  have k0' := h.wk
  have wf : wfI 1 := by unfold wfI; rfl
  clear h hq hm
  go_enter Tryz.func71, Tryz.ntmps71
  go_upto_region 1 with fail
  go_quiet (fail)
  go_upto_region 2 with fail
  generalize hw1 : w.drewN _ = w1 at *
  have B1 := Lib.hid (show Below w.heap.size w w1 from hw1 ▸ below_drewN w _)
  clear hw1 x12 r0 k0'
  have x14 : w1.cell? ⟨x, 14, none⟩ = some (.pointer (some ⟨bl, 0, none⟩)) := co_cell (C.out.below B1.out).box rfl
  have x17 : w1.cell? ⟨x, 17, none⟩ = some (.map (some bq)) := co_cell (C.out.below B1.out).box rfl
  have q7 : w1.cell? ⟨qb, 7, none⟩ = some (.pointer (some ⟨bm, 0, none⟩)) := co_cell (Q.out.below B1.out).q rfl
  go_wp2_with fail
  refine (CE.out _ B1.out).mono ?_
  rintro e w2 ⟨rfl, rfl⟩
  have MQ := Lib.hid (C.out.below B1.out).Q
  go_wp2_with (first | (at_lookup; refine wpList_get_mv mapTq rfl (.tmp 46) (.tmp 47) rfl rfl MQ.out 1 rfl wf (.pointer (some ⟨qb, 0, none⟩)) rfl ?_) | fail)
  refine (CA.out _ B1.out).mono ?_
  rintro e w3 ⟨rfl, hb3⟩
  have hbp := below_one w3 (.cells #[.int .i64 0, .string { data := #[] }] 71)
  have B4 := Lib.hid ((B1.out.trans (hb3.mono B1.out.size)).trans (hbp.mono (B1.out.trans (hb3.mono B1.out.size)).size))
  obtain ⟨p, hp⟩ : ∃ p, w3.heap.size = p := ⟨_, rfl⟩
  have KP := Lib.hid (show (w3.alloc (.cells #[.int .i64 0, .string { data := #[] }] 71)).heap[p]? = some (.cells #[.int .i64 0, .string { data := #[] }] 71 (0, 0)) from by rw [← hp]; exact heap_alloc_new w3 _)
  go_upto_region 7 with fail
  generalize w3.alloc (.cells #[.int .i64 0, .string { data := #[] }] 71) = w4 at *
  clear hbp hb3 x14 x17 q7 MQ
  have C4 := C.out.below B4.out
  have Q4 := Q.out.below B4.out
  have S0 := Lib.hid (show Below w.heap.size w w4.drew ∧ w4.drew.cell? ⟨qb, 7, none⟩ = some (.pointer (some ⟨bm, 0, none⟩)) ∧ w4.drew.cell? ⟨qb, 1, none⟩ = some (.string coA) ∧ w4.drew.cell? ⟨qb, 2, none⟩ = some (.int .i64 1) ∧ w4.drew.cell? ⟨x, 5, none⟩ = some (.int .i64 2) ∧ w4.drew.cell? ⟨p, 0, none⟩ = some (.int .i64 0) ∧ w4.drew.cell? ⟨p, 1, none⟩ = some (.string { data := #[] }) from ⟨B4.out.drew, co_cell Q4.q rfl, co_cell Q4.q rfl, co_cell Q4.q rfl, co_cell C4.box rfl, co_cell KP.out rfl, co_cell KP.out rfl⟩)
  clear C4 Q4
  go_region_held3 (fun w' => Below w.heap.size w w' ∧ w'.cell? ⟨qb, 7, none⟩ = some (.pointer (some ⟨bm, 0, none⟩)) ∧ w'.cell? ⟨qb, 1, none⟩ = some (.string coA) ∧ w'.cell? ⟨qb, 2, none⟩ = some (.int .i64 1) ∧ w'.cell? ⟨x, 5, none⟩ = some (.int .i64 2) ∧ w'.cell? ⟨p, 0, none⟩ = some (.int .i64 0) ∧ w'.cell? ⟨p, 1, none⟩ = some (.string { data := #[] }))
    (first | assumption | exact S0.out | exact ask_carry24 (by assumption) (by assumption) | exact ask_carry24 (by assumption) (below_one _ _))
    (first
      | (go_at_call 99; refine (CS.out _ (And.left (by assumption))).mono ?_; rintro e w5 ⟨rfl, rfl⟩))
  have hb5 := below_one w4 (.cells #[.int .i64 1, .iface 73 askV] 68)
  have FIN := Lib.hid (show Ask24 w (.returned (.slice (some ⟨w4.heap.size, 0, none⟩) 1 1)) (w4.alloc (.cells #[.int .i64 1, .iface 73 askV] 68)).drew from
    ⟨w4.heap.size, rfl, ⟨(cell_alloc (w := w4) rfl).trans rfl, (cell_alloc (w := w4) rfl).trans rfl⟩, B4.out.size, (B4.out.trans (hb5.mono B4.out.size)).drew⟩)
  clear hb5
  go_wp2_with fail
  go_ret
  exact FIN.out
end Go.Proofs.YtblipdmagfiigaaGreat
namespace Go.Proofs.YtblipdmagfiigaaGreat
open Go.RowKit
theorem retW_int {k : IntKind} {a b : Int} (h : a = b) : Ending.returned (.int k a) = .returned (.int k b) := by rw [h]
/-- from 0 to most -/
def clip (n m : Int) : Int := min (max n 0) m
theorem clip_bd (n m : Int) (h : 0 ≤ m) : 0 ≤ clip n m ∧ clip n m ≤ m := by unfold clip; omega
theorem clamp_any (n m : Int) (w : World) :
    Calls Tryz.prog 79 #[.int .i64 n, .int .i64 m] w fun e w' => e = .returned (.int .i64 (clip n m)) ∧ w = w' := by
  go_enter Tryz.func79, Tryz.ntmps79
  go_wp2
  all_goals (go_ret; exact ⟨retW_int (by unfold clip; omega), rfl⟩)
theorem ticks_any (n : Int) (w : World) :
    Calls Tryz.prog 57 #[.int .i64 n] w fun e w' => e = .returned (.int .i64 (clip n 1000)) ∧ w = w' := by
  go_enter Tryz.func57, Tryz.ntmps57
  go_wp2_with (go_at_call 79; refine (clamp_any _ _ _).mono ?_; rintro e w' ⟨rfl, rfl⟩)
  go_ret
  exact ⟨rfl, rfl⟩
/-- the first so many of a wait's doublings -/
def dbl (f : Int) : Nat → Int
  | 0 => f
  | k + 1 => dbl f k * 2
theorem dbl_bd (f : Int) (h0 : 0 ≤ f) (h1 : f ≤ 1000) (k : Nat) (hk : k ≤ 6) : 0 ≤ dbl f k ∧ dbl f k ≤ 64000 := by
  match k, hk with
  | 0, _ => simp [dbl]; omega
  | 1, _ => simp [dbl]; omega
  | 2, _ => simp [dbl]; omega
  | 3, _ => simp [dbl]; omega
  | 4, _ => simp [dbl]; omega
  | 5, _ => simp [dbl]; omega
  | 6, _ => simp [dbl]; omega
theorem u64W_bd (d : Int) : 0 ≤ IntKind.u64.wrap d ∧ IntKind.u64.wrap d < 18446744073709551616 := by
  simp only [IntKind.wrap, IntKind.signed, IntKind.bits]; simp; omega
theorem tmod_of (a m : Int) (h : 0 ≤ a) : a.tmod m = a % m := Int.tmod_eq_emod_of_nonneg h
theorem wait_sum (x a m : Int) (hx : 0 ≤ x) (hx2 : x ≤ 1000) (ha : 0 ≤ a) (hm : 1 ≤ m) (hm2 : m ≤ 1001) : wrap64 (x + wrap64 (a.tmod m)) = x + a % m := by
  rw [tmod_of a m ha]
  have h1 := Int.emod_nonneg a (show m ≠ 0 by omega)
  have h2 := Int.emod_lt_of_pos a (show 0 < m by omega)
  rw [IntWalk.wrap64_in (a % m) ⟨by omega, by omega⟩, IntWalk.wrap64_in _ ⟨by omega, by omega⟩]
/-- how long a try waits -/
def waitV (f c j t d : Int) : Int := min (dbl (clip f 1000) (clip t 6).toNat) (clip c 1000) + (IntKind.u64.wrap d) % (clip j 1000 + 1)
set_option maxHeartbeats 400000 in
theorem wait_any (c0 c1 c2 c3 c4 c5 c6 c7 c11 : Value) (f c j t d : Int) (w : World) :
    Calls Tryz.prog 73 #[.agg #[c0, c1, c2, c3, c4, c5, c6, c7, .int .i64 f, .int .i64 c, .int .i64 j, c11], .int .i64 t, .int .i64 d] w fun e w' => e = .returned (.int .i64 (waitV f c j t d)) ∧ Below w.heap.size w w' := by
  have hb := clip_bd t 6 (by decide)
  have hf := clip_bd f 1000 (by decide)
  have hj := clip_bd j 1000 (by decide)
  have hc := clip_bd c 1000 (by decide)
  go_enter Tryz.func73, Tryz.ntmps73
  go_wp2_with (first | (go_at_call 79; refine (clamp_any _ _ _).mono ?_; rintro e w' ⟨rfl, rfl⟩) | (go_at_call 57; refine (ticks_any _ _).mono ?_; rintro e w' ⟨rfl, rfl⟩))
  go_loop [7, 14] (fun v i => ∃ k : Nat, (k : Int) ≤ clip t 6 ∧ i = .int .i64 k ∧ v = .int .i64 (dbl (clip f 1000) k)) (fun _ i => 10 - (intOf i).toNat)
  case atStart => exact ⟨0, by omega, rfl, rfl⟩
  case round =>
    obtain ⟨k, hk, rfl, rfl⟩ := hrel
    have hd := dbl_bd (clip f 1000) hf.1 hf.2 k (by omega)
    by_cases hlt : (k : Int) < clip t 6
    · go_wp2
      go_round
      case rel => exact ⟨k + 1, by omega, by go_num, rfl⟩
      case measure => simp [intOf]; omega
    · have hkt : k = (clip t 6).toNat := by omega
      have HK := Lib.hid hkt
      clear hkt
      go_wp2_with (first | (go_at_call 79; refine (clamp_any _ _ _).mono ?_; rintro e w' ⟨rfl, rfl⟩) | (go_at_call 57; refine (ticks_any _ _).mono ?_; rintro e w' ⟨rfl, rfl⟩))
      all_goals
        go_ret
        refine ⟨retW_int ?_, (Below.refl _ _).alloc (Nat.le_refl _) _⟩
        unfold waitV
        rw [wait_sum _ _ _ (by omega) (by omega) (u64W_bd d).1 (by omega) (by omega), ← HK.out]
        all_goals (congr 1; omega)
end Go.Proofs.YtblipdmagfiigaaGreat
namespace Go.Proofs.YtblipdmagfiigaaGreat
open Go.RowKit
set_option linter.unusedVariables false
set_option maxRecDepth 20000
variable {B0 : Nat} {col : Nat → Nat} {x ca cc cw c2 bl bs bo ba bt bq n : Nat} {ss : Sl}
theorem timerOf24 (w : World) : Calls Tryz.prog 62 #[.int .i64 0, .int .i64 0] w fun e w' => e = .returned (.int .i64 0) ∧ w = w' := by
  go_enter Tryz.func62, Tryz.ntmps62
  go_wp2_with fail
  go_ret
  exact ⟨rfl, rfl⟩
def M1 : List TM := [⟨0, 2⟩]
theorem set24_m : setM 24 [] 0 2 = M1 := by decide +kernel
theorem set24_v : setV 24 [] 0 2 = 0 := by decide +kernel
theorem wait24 : waitV 2 4 0 0 0 = 2 := by decide +kernel
def See24 (B0 : Nat) (col : Nat → Nat) (x ca cc cw c2 bl bs bo ba bt bq n : Nat) (ss : Sl) (qb : Nat) (w : World) (e : Ending) (w' : World) : Prop :=
  ∃ p col', e = .returned (.slice (some ⟨p, 0, none⟩) 1 1) ∧ One24 w' 1 73 askV p ∧ col' p = 9 ∧ CoS B0 w' col' x ca cc cw c2 bl bs bo ba bt bq n ls1 ss M1 (qmap qb) ∧ Ext w col w' col'
theorem at_carry {w1 a b : World} {x bt : Nat} (h : Below w1.heap.size w1 a ∧ a.cell? ⟨x, 16, none⟩ = some (.pointer (some ⟨bt, 0, none⟩))) (hb : Below a.heap.size a b) : Below w1.heap.size w1 b ∧ b.cell? ⟨x, 16, none⟩ = some (.pointer (some ⟨bt, 0, none⟩)) :=
  ⟨h.1.trans (hb.mono h.1.size), (hb.cell (p := ⟨x, 16, none⟩) (lt_of_cell h.2)).trans h.2⟩
set_option maxRecDepth 100000 in
set_option maxHeartbeats 3200000 in
theorem see24 (qb sb bm : Nat) (ia : Option Addr) (ic : Nat) (w : World) (h : CoS B0 w col x ca cc cw c2 bl bs bo ba bt bq n ls1 ss [] (qmap qb)) (hq : CoQ w col qb sb bm ia ic 0 0 0 false) : Calls Tryz.prog 42 #[.pointer (some ⟨x, 0, none⟩), .int .i64 0, .int .i64 1, .int .i64 0, .int .i64 0] w (See24 B0 col x ca cc cw c2 bl bs bo ba bt bq n ss qb w) := by
  have C := Lib.hid h
  have Q := Lib.hid hq
  obtain ⟨St, ht, hc⟩ := h.T
  have HC := Lib.hid hc
  have TW := Lib.hid ht
  have CT := Lib.hid (fun w' (hb : Below w.heap.size w w') => (show Calls Tryz.prog 68 #[.pointer (some ⟨bt, 0, none⟩), .int .i64 0] w' fun e w'' => e = .returned (.tuple #[.int .i64 0, .bool false]) ∧ Below w'.heap.size w' w'' from (tAt_any bt 24 [] 0 St w' ((tq_ok _ _ _).below ht hb)).mono (by
    rintro e w'' ⟨v, c, rfl, hat, hb2⟩
    rcases hat with ⟨y, hy, -⟩ | ⟨-, rfl, rfl⟩
    · cases hy
    · exact ⟨rfl, hb2⟩)))
  have x17 : w.cell? ⟨x, 17, none⟩ = some (.map (some bq)) := co_cell h.box rfl
  have q8 : w.cell? ⟨qb, 8, none⟩ = some (.slice (some ⟨sb, 0, none⟩) 1 1) := co_cell hq.q rfl
  have wf : wfI 1 := by unfold wfI; rfl
  have S0 := Lib.hid (show Below w.heap.size w w.drew ∧ w.drew.cell? ⟨x, 16, none⟩ = some (.pointer (some ⟨bt, 0, none⟩)) from ⟨(Below.refl _ _).drew, co_cell h.box rfl⟩)
  clear h hq ht hc
  go_enter Tryz.func42, Tryz.ntmps42
  go_upto_region 2 with (first | (at_lookup; refine wpList_get_mv mapTq rfl (.tmp 17) (.tmp 18) rfl rfl C.out.Q 1 rfl wf (.pointer (some ⟨qb, 0, none⟩)) rfl ?_) | fail)
  go_region_held3 (fun w' => Below w.heap.size w w' ∧ w'.cell? ⟨x, 16, none⟩ = some (.pointer (some ⟨bt, 0, none⟩)))
    (first | assumption | exact S0.out | exact at_carry (by assumption) (by assumption))
    (first
      | (go_at_call 62; refine (timerOf24 _).mono ?_; rintro e w2 ⟨rfl, rfl⟩)
      | (go_at_call 68; refine (CT.out _ (And.left (by assumption))).mono ?_; rintro e w3 ⟨rfl, hb3⟩))
  rename_i T5
  have B3 := Lib.hid (show Below w.heap.size w w3 from T5.1)
  clear T5 hb3 x17 q8 S0 CT
  go_upto_region 5 with fail
  have C3 := Lib.hid (C.out.below B3.out)
  have Q3 := Lib.hid (Q.out.below B3.out)
  have CF := Lib.hid (firstLive24 w3.drew (C3.out.below ((Below.refl _ _).drew)))
  have x13 : w3.cell? ⟨x, 13, none⟩ = some (.int .i64 0) := co_cell C3.out.box rfl
  have G := Lib.hid (fun (w4 : World) (hb : Below w3.drew.heap.size w3.drew w4) => (Q3.out.below ((Below.refl w3.heap.size w3).drew.trans hb)).s)
  have GX := Lib.hid (fun (w4 : World) (hb : Below w3.drew.heap.size w3.drew w4) => (C3.out.below ((Below.refl w3.heap.size w3).drew.trans hb)).box)
  go_region_law
    (first
      | (go_simp; go_at_call 69; (with_reducible refine CF.out.mono ?_); rintro e w4 ⟨rfl, hb4⟩; have s0 : w4.cell? ⟨sb, 0, none⟩ = some (.int .i64 0) := co_cell (G.out w4 hb4) rfl; have s1 : w4.cell? ⟨sb, 1, none⟩ = some (.int .i64 0) := co_cell (G.out w4 hb4) rfl; have s2 : w4.cell? ⟨sb, 2, none⟩ = some (.int .i64 0) := co_cell (G.out w4 hb4) rfl; have s3 : w4.cell? ⟨sb, 3, none⟩ = some (.bool false) := co_cell (G.out w4 hb4) rfl; have z0 := fun i => co_fz (G.out w4 hb4) i; have x13' : w4.cell? ⟨x, 13, none⟩ = some (.int .i64 0) := co_cell (GX.out w4 hb4) rfl))
  all_goals
    have hb34 : Below w3.heap.size w3 w4 := (Below.refl w3.heap.size w3).drew.trans hb4
    have C4 := C3.out.below hb34
    have Q4 := Q3.out.below hb34
    have tS : Turn (fun k => k = sb) w4 ((((w4.setCell ⟨sb, 0, none⟩ (.int .i64 0)).setCell ⟨sb, 1, none⟩ (.int .i64 0)).setCell ⟨sb, 2, none⟩ (.int .i64 0)).setCell ⟨sb, 3, none⟩ (.bool false)) := (((Turn.setCell (F := fun k => k = sb) rfl).trans (Turn.setCell (F := fun k => k = sb) rfl)).trans (Turn.setCell (F := fun k => k = sb) rfl)).trans (Turn.setCell (F := fun k => k = sb) rfl)
    have h5 := Go.heap_setCell_same _ sb 3 _ _ (.bool false) (Go.heap_setCell_same _ sb 2 _ _ (.int .i64 0) (Go.heap_setCell_same _ sb 1 _ _ (.int .i64 0) (Go.heap_setCell_same w4 sb 0 _ _ (.int .i64 0) Q4.s)))
    have C5 := Lib.hid (C4.own tS (fun k e => by have := Q4.c.2; rw [e]; omega))
    have Q5 := Lib.hid (show CoQ ((((w4.setCell ⟨sb, 0, none⟩ (.int .i64 0)).setCell ⟨sb, 1, none⟩ (.int .i64 0)).setCell ⟨sb, 2, none⟩ (.int .i64 0)).setCell ⟨sb, 3, none⟩ (.bool false)) col qb sb bm ia ic 0 0 0 false from ⟨(tS.block qb Q4.lts.1 fun e => by have h1 := Q4.c.1; have h2 := Q4.c.2; rw [e] at h1; omega).trans Q4.q, h5.trans (by rfl), by
      obtain ⟨wa3, wc3, Sm3, hm3, hc3⟩ := Q4.m
      exact ⟨wa3, wc3, Sm3, hm3.turn tS (fun k hk e => by have h1 := hc3 k hk; rw [e] at h1; have := Q4.c.2; omega), hc3⟩, Q4.c⟩)
    have E5 := Lib.hid ((((Ext.refl w col).below B3.out).below hb34).turn tS (fun k e => by have := Q4.c.2; rw [e]; omega))
    have T5 := Lib.hid ((tq_ok _ _ _).turn ((tq_ok _ _ _).below ((tq_ok _ _ _).below TW.out B3.out) hb34) tS (fun k hk e => by have h1 := HC.out k hk; rw [e] at h1; have := Q4.c.2; omega))
    clear hb34 C4 Q4 tS h5 s0 s1 s2 s3 z0 x13 x13' hb4
    go_upto_region 12 with fail
    generalize (((w4.setCell ⟨sb, 0, none⟩ (.int .i64 0)).setCell ⟨sb, 1, none⟩ (.int .i64 0)).setCell ⟨sb, 2, none⟩ (.int .i64 0)).setCell ⟨sb, 3, none⟩ (.bool false) = w5 at *
    have HS := Lib.hid (fun (w' : World) (hx : CoBox w' x (some ⟨ca, 0, none⟩) 1 cc (some bl) (some bs) (some bt) bq) (hs : w'.heap[sb]? = some (.cells #[.int .i64 0, .int .i64 0, .int .i64 0, .bool false] 143 (0, 0))) => (show w'.cell? ⟨x, 16, none⟩ = some (.pointer (some ⟨bt, 0, none⟩)) ∧ w'.cell? ⟨x, 13, none⟩ = some (.int .i64 0) ∧ w'.cell? ⟨x, 0, none⟩ = some (.slice none 0 0) ∧ w'.cell? ⟨x, 1, none⟩ = some (.slice none 0 0) ∧ w'.cell? ⟨x, 2, none⟩ = some (.int .i64 1) ∧ w'.cell? ⟨x, 3, none⟩ = some (.int .i64 1) ∧ w'.cell? ⟨x, 4, none⟩ = some (.int .i64 1) ∧ w'.cell? ⟨x, 5, none⟩ = some (.int .i64 2) ∧ w'.cell? ⟨x, 6, none⟩ = some (.int .i64 5) ∧ w'.cell? ⟨x, 7, none⟩ = some (.int .i64 9) ∧ w'.cell? ⟨x, 8, none⟩ = some (.int .i64 2) ∧ w'.cell? ⟨x, 9, none⟩ = some (.int .i64 4) ∧ w'.cell? ⟨x, 10, none⟩ = some (.int .i64 0) ∧ w'.cell? ⟨x, 11, none⟩ = some (.int .i64 8) ∧ w'.cell? ⟨sb, 1, none⟩ = some (.int .i64 0) from ⟨co_cell hx rfl, co_cell hx rfl, co_cell hx rfl, co_cell hx rfl, co_cell hx rfl, co_cell hx rfl, co_cell hx rfl, co_cell hx rfl, co_cell hx rfl, co_cell hx rfl, co_cell hx rfl, co_cell hx rfl, co_cell hx rfl, co_cell hx rfl, co_cell hs rfl⟩))
    have S0 := Lib.hid (HS.out w5.drew C5.out.box Q5.out.s)
    have CW := Lib.hid (fun w' => (show Calls Tryz.prog 73 #[.agg #[.slice none 0 0, .slice none 0 0, .int .i64 1, .int .i64 1, .int .i64 1, .int .i64 2, .int .i64 5, .int .i64 9, .int .i64 2, .int .i64 4, .int .i64 0, .int .i64 8], .int .i64 0, .int .i64 0] w' fun e w'' => e = .returned (.int .i64 2) ∧ Below w'.heap.size w' w'' from wait24 ▸ wait_any _ _ _ _ _ _ _ _ _ 2 4 0 0 0 w'))
    have CSet := Lib.hid (fun w' (h : TQ bt 24 [] w' St) => (show Calls Tryz.prog 72 #[.pointer (some ⟨bt, 0, none⟩), .int .i64 0, .int .i64 2] w' fun e w'' => e = .returned (.int .i64 0) ∧ PO (TQ bt 24 M1) w' St w'' from by
      have hh := tSet_any bt 24 [] 0 2 St w' h (by decide)
      rw [set24_m, set24_v] at hh
      exact hh))
    go_region_held3 (fun w' => w'.cell? ⟨x, 16, none⟩ = some (.pointer (some ⟨bt, 0, none⟩)) ∧ w'.cell? ⟨x, 13, none⟩ = some (.int .i64 0) ∧ w'.cell? ⟨x, 0, none⟩ = some (.slice none 0 0) ∧ w'.cell? ⟨x, 1, none⟩ = some (.slice none 0 0) ∧ w'.cell? ⟨x, 2, none⟩ = some (.int .i64 1) ∧ w'.cell? ⟨x, 3, none⟩ = some (.int .i64 1) ∧ w'.cell? ⟨x, 4, none⟩ = some (.int .i64 1) ∧ w'.cell? ⟨x, 5, none⟩ = some (.int .i64 2) ∧ w'.cell? ⟨x, 6, none⟩ = some (.int .i64 5) ∧ w'.cell? ⟨x, 7, none⟩ = some (.int .i64 9) ∧ w'.cell? ⟨x, 8, none⟩ = some (.int .i64 2) ∧ w'.cell? ⟨x, 9, none⟩ = some (.int .i64 4) ∧ w'.cell? ⟨x, 10, none⟩ = some (.int .i64 0) ∧ w'.cell? ⟨x, 11, none⟩ = some (.int .i64 8) ∧ w'.cell? ⟨sb, 1, none⟩ = some (.int .i64 0))
      (first | assumption | exact S0.out)
      (first
        | (go_at_call 62; refine (timerOf24 _).mono ?_; rintro e w2 ⟨rfl, rfl⟩)
        | (go_at_call 73; refine (CW.out _).mono ?_; rintro e w6 ⟨rfl, hb6⟩; have hb56 : Below w5.heap.size w5 w6 := (Below.refl w5.heap.size w5).drew.trans hb6; have S6 := HS.out w6 (C5.out.below hb56).box (Q5.out.below hb56).s)
        | (go_at_call 72; refine (CSet.out _ ((tq_ok _ _ _).below T5.out hb56)).mono ?_; rintro e w7 ⟨rfl, hP⟩; have S7 := HS.out w7 (((C5.out.below hb56).timers HC.out hP).box) ((Q5.out.below hb56).turn hP.turn (fun k hk => by have := HC.out k hk; omega)).s))
    have C6 := C5.out.below hb56
    have C7 := Lib.hid (C6.timers HC.out hP)
    have Q6 := Q5.out.below hb56
    have Q7 := Lib.hid ((Q6.turn hP.turn (fun k hk => by have := HC.out k hk; omega)).paint (v := w6) (w' := w7) (c := 3) Q6.lts (fun k hk => by
      rcases Nat.lt_or_ge k w6.heap.size with h | h
      · exact h
      · have := C6.nw k h; omega))
    have E7 := Lib.hid (Ext.paint (v := w6) (v' := w7) 3 ((E5.out.below hb56).turn hP.turn (fun k hk => by rw [HC.out k hk]; decide)) (Nat.le_trans E5.out.1.size hb56.size))
    have s0 : w7.cell? ⟨sb, 0, none⟩ = some (.int .i64 0) := co_cell Q7.out.s rfl
    have CA := Lib.hid (ask24 qb sb bm ia ic 0 0 0 false w7 C7.out Q7.out)
    clear C6 Q6 hb56 hP S6 S7 hb6 S0 CSet CW HS
    go_wp2_with fail
    refine CA.out.mono ?_
    rintro e w8 ⟨p, rfl, hone, hp, hb8⟩
    have FIN := Lib.hid (show See24 B0 col x ca cc cw c2 bl bs bo ba bt bq n ss qb w (.returned (.slice (some ⟨p, 0, none⟩) 1 1)) w8 from ⟨p, _, rfl, hone, C7.out.nw p hp, C7.out.below hb8, E7.out.below hb8⟩)
    clear hone hp hb8
    go_wp2_with fail
    go_ret
    exact FIN.out
end Go.Proofs.YtblipdmagfiigaaGreat
namespace Go.Proofs.YtblipdmagfiigaaGreat
open Go.RowKit
set_option linter.unusedVariables false
set_option maxRecDepth 20000
variable {B0 : Nat} {col : Nat → Nat} {x ca cc cw c2 bl bs bo ba bt bq n : Nat}
theorem letter_info24 : (Tryz.prog.info? 68).map (fun i => (i.zero, i.size, i.bytes)) = some (some (.agg #[.int .i64 0, .nilIface]), 2, 24) := by kernel_rfl
theorem own_letter24 {w : World} {B c : Nat} {e : TypeId} {a : Option Addr} {u v : Value} (h : w.ownsRow B e 2 (.slice a 1 c) 1 [u, v]) : ∃ g, a = some ⟨g, 0, none⟩ ∧ B ≤ g ∧ w.cell? ⟨g, 0, none⟩ = some u ∧ w.cell? ⟨g, 1, none⟩ = some v := by
  rcases h.2 with ⟨h0, h1⟩ | ⟨g, cap, cur, hv, hg, hh, _, _, hs, hx⟩
  · cases h1
  · injection hv with hv _ _
    have h3 : ∀ i, i < 2 → cur[i]? = ([u, v] : List Value)[i]? := fun i hi => by
      have h4 : (cur.toList.take (1 * 2))[i]? = ([u, v] : List Value)[i]? := by rw [hx]
      rw [List.getElem?_take_of_lt (by omega)] at h4
      rw [← h4, Array.getElem?_toList]
    exact ⟨g, hv, hg, by rw [Lib.cell_of_heap hh]; exact h3 0 (by omega), by rw [Lib.cell_of_heap hh]; exact h3 1 (by omega)⟩
theorem two_at24 {w : World} {p : Nat} {t : TypeId} {v : Value} (h : One24 w 1 t v p) : ∀ ad, (some ⟨p, 0, none⟩ : Option Addr) = some ad → ∀ j u, ([.int .i64 1, .iface t v] : List Value)[j]? = some u → w.cell? (ad.add j) = some u := by
  intro ad e j u hu
  injection e with e
  subst e
  match j, hu with
  | 0, hu => injection hu with hu; subst hu; exact h.1
  | 1, hu => injection hu with hu; subst hu; exact h.2
  | j + 2, hu => simp at hu
theorem two_one24 (t : TypeId) (v : Value) : ∀ u ∈ ([.int .i64 1, .iface t v] : List Value), u.oneCell' = true := by
  intro u hu
  simp only [List.mem_cons, List.not_mem_nil, or_false] at hu
  rcases hu with rfl | rfl <;> rfl
def Wake24 (B0 : Nat) (col : Nat → Nat) (x ca cc cw c2 bl bs bo ba bt bq n : Nat) (qb : Nat) (w : World) (e : Ending) (w' : World) : Prop :=
  ∃ g c col', e = .returned (.slice (some ⟨g, 0, none⟩) 1 c) ∧ One24 w' 1 73 askV g ∧ CoS B0 w' col' x ca cc cw c2 bl bs bo ba bt bq n ls1 ss1 M1 (qmap qb) ∧ Ext w col w' col'
set_option maxRecDepth 100000 in
set_option maxHeartbeats 3200000 in
theorem wake24 (qb sb bm : Nat) (ia : Option Addr) (ic : Nat) (w : World) (h : CoS B0 w col x ca cc cw c2 bl bs bo ba bt bq n ls1 ss1 [] (qmap qb)) (hq : CoQ w col qb sb bm ia ic 0 0 0 false) : Calls Tryz.prog 15 #[.pointer (some ⟨x, 0, none⟩), .int .i64 0] w (Wake24 B0 col x ca cc cw c2 bl bs bo ba bt bq n qb w) := by
  obtain ⟨i0, hi, hz0, hz1, hz2⟩ := info_parts letter_info24
  have C := Lib.hid h
  have Q := Lib.hid hq
  obtain ⟨wa, wc, Sm, hm, -⟩ := hq.m
  have CAt := Lib.hid (show Calls Tryz.prog 40 #[.pointer (some ⟨bs, 0, none⟩), .int .i64 0] w fun e w' => e = .returned (.tuple #[.int .i64 1, .bool true]) ∧ w = w' from at_any bs bo ba 0 w h.S rfl)
  have CWa := Lib.hid (show Calls Tryz.prog 41 #[.pointer (some ⟨bm, 0, none⟩)] w (RetZ w [0]) from mwants_any bm w hm (show 1 ≤ 1000 by decide))
  have x4 : w.cell? ⟨x, 4, none⟩ = some (.int .i64 1) := co_cell h.box rfl
  have x15 : w.cell? ⟨x, 15, none⟩ = some (.pointer (some ⟨bs, 0, none⟩)) := co_cell h.box rfl
  have x17 : w.cell? ⟨x, 17, none⟩ = some (.map (some bq)) := co_cell h.box rfl
  have q7 : w.cell? ⟨qb, 7, none⟩ = some (.pointer (some ⟨bm, 0, none⟩)) := co_cell hq.q rfl
  have wf : wfI 1 := by unfold wfI; rfl
  clear h hq hm
  go_enter Tryz.func15, Tryz.ntmps15
  go_wp2_with fail
  go_loopw [5, 18] (fun ov iv wr => (iv = .int .i64 0 ∧ ov = .slice none 0 0 ∧ wr = w) ∨ (iv = .int .i64 1 ∧ ∃ g c, ov = .slice (some ⟨g, 0, none⟩) 1 c ∧ Hid (Wake24 B0 col x ca cc cw c2 bl bs bo ba bt bq n qb w (.returned (.slice (some ⟨g, 0, none⟩) 1 c)) wr))) (fun _ iv _ => 1 - (intOf iv).toNat)
  case atStart => exact Or.inl ⟨rfl, rfl, rfl⟩
  case round =>
    rcases hrel with ⟨rfl, rfl, hw⟩ | ⟨rfl, g, c, rfl, hA⟩
    · subst hw
      go_wp2_with fail
      refine CAt.out.mono ?_
      rintro e w2 ⟨rfl, rfl⟩
      go_wp2_with (first | (at_lookup; refine wpList_get_mv mapTq rfl (.tmp 35) (.tmp 36) rfl rfl C.out.Q 1 rfl wf (.pointer (some ⟨qb, 0, none⟩)) rfl ?_) | fail)
      refine CWa.out.mono ?_
      rintro e w3 ⟨a3, c3, rfl, ho3, hb3⟩
      obtain ⟨g3, rfl, -, k3⟩ := own_cell24 ho3
      have B3 := Lib.hid hb3
      clear ho3 hb3 CAt CWa x4 x15 x17 q7
      go_wp2_with fail
      go_loopw [5, 43] (fun ov iv wx => (iv = .int .i64 0 ∧ ov = .slice none 0 0 ∧ wx = w3) ∨ (iv = .int .i64 1 ∧ ∃ g c, ov = .slice (some ⟨g, 0, none⟩) 1 c ∧ Hid (Wake24 B0 col x ca cc cw c2 bl bs bo ba bt bq n qb wr (.returned (.slice (some ⟨g, 0, none⟩) 1 c)) wx))) (fun _ iv _ => 1 - (intOf iv).toNat)
      case atStart => exact Or.inl ⟨rfl, rfl, rfl⟩
      case round =>
        rcases hrel with ⟨rfl, rfl, hw⟩ | ⟨rfl, g, c, rfl, hA⟩
        · subst hw
          rename World => wx
          have CSee := Lib.hid (see24 qb sb bm ia ic wx (C.out.below B3.out) (Q.out.below B3.out))
          go_wp2_with fail
          refine CSee.out.mono ?_
          rintro e w4 ⟨p, col', rfl, hone, hp, hC4, hE4⟩
          have C4 := Lib.hid hC4
          have E4 := Lib.hid (((Ext.refl wr col).below B3.out).trans hE4)
          have O4 := Lib.hid hone
          clear hone hp hC4 hE4 CSee
          go_wp2_with (at_builtin; refine wpList_append_any rfl (.tmp 47) (.tmp 53) 32 rfl w4.heap.size 68 i0 _ 2 24 Tryz.underlying32 hi hz0 hz1 hz2 rfl (by decide) _ 0 [] rfl (World.ownsRow_nil _ _ _ _) _ 1 1 [.int .i64 1, .iface 73 askV] rfl (some_none _) rfl (two_at24 O4.out) (two_one24 _ _) (by unfold maxLen; omega) (by omega) (Nat.le_refl _) ?_; intro a5 c5 w5 hown5 hb5 hnil5)
          obtain ⟨g5, rfl, hg5, k50, k51⟩ := own_letter24 hown5
          have FIN := Lib.hid (show Wake24 B0 col x ca cc cw c2 bl bs bo ba bt bq n qb wr (.returned (.slice (some ⟨g5, 0, none⟩) 1 c5)) w5 from ⟨g5, c5, col', rfl, ⟨k50, k51⟩, C4.out.below hb5, E4.out.below hb5⟩)
          clear hown5 hb5 hnil5 hg5 k50 k51
          go_wp2_with fail
          go_roundw
          case rel => exact Or.inr ⟨rfl, g5, c5, rfl, FIN⟩
          case measure => simp [intOf]
        · go_wp2_with fail
          go_roundw
          case rel => exact Or.inr ⟨rfl, g, c, rfl, hA⟩
          case measure => simp [intOf]
    · go_wp2_with fail
      go_ret
      exact hA.out
end Go.Proofs.YtblipdmagfiigaaGreat
namespace Go.Proofs.YtblipdmagfiigaaGreat
open Go.ChangeShapes Go.WideShapes Go.ChangeAt Go.RowKit
set_option linter.unusedVariables false
set_option maxRecDepth 20000
/-- The slice at a of n bytes holds the bytes bs. -/
def HoldsB (w : World) (a : Option Addr) (n : Nat) (bs : List Nat) : Prop := HoldsI .u8 w a n (bs.map fun b : Nat => (b : Int)) ∧ ∀ b ∈ bs, b < 256
end Go.Proofs.YtblipdmagfiigaaGreat
namespace Go.Proofs.YtblipdmagfiigaaGreat
namespace Cod
/-- the size lowest bytes of v, the most significant one first -/
def bytesOf (v : Nat) : Nat → List Nat
  | 0 => []
  | s + 1 => v / 256 ^ s % 256 :: bytesOf v s
end Cod
end Go.Proofs.YtblipdmagfiigaaGreat
namespace Go.Proofs.YtblipdmagfiigaaGreat
open Go.RowKit
set_option linter.unusedVariables false
set_option maxRecDepth 20000
/-- a number's 64 bits -/
def bitsV (n : Int) : Nat := (IntKind.u64.wrap n).toNat
end Go.Proofs.YtblipdmagfiigaaGreat
namespace Go.Proofs.YtblipdmagfiigaaGreat
open Go.RowKit
set_option linter.unusedVariables false
set_option maxRecDepth 20000
/-- bytes that a slice holds, whoever made them, since w0 -/
structure BB (w0 : World) (bs : List Nat) (a : Option Addr) (c : Nat) (w : World) : Prop where
  h : HoldsB w a bs.length bs
  n : a = none → bs.length = 0 ∧ c = 0
  b : Below w0.heap.size w0 w
def n4 (v : Int) : List Nat := Cod.bytesOf (bitsV v) 4
def n1 (v : Int) : List Nat := Cod.bytesOf (bitsV v) 1
end Go.Proofs.YtblipdmagfiigaaGreat
namespace Go.Proofs.YtblipdmagfiigaaGreat
open Go.RowKit
set_option linter.unusedVariables false
set_option maxRecDepth 20000
theorem ssM (x : ByteArray) : (x.toList == x.toList) = true := by simp
theorem askM_alike (x : AskP) (w : World) : (Op.equalIn 10000 73 (.agg #[.int .i64 x.slot, .int .i64 x.query, .int .i64 x.shard, .int .i64 x.seq, .int .i64 x.epoch, .string x.text, .int .i64 x.k, .int .i64 x.batch, .bool x.first, .int .i64 x.ad, .string x.aw]) (.agg #[.int .i64 x.slot, .int .i64 x.query, .int .i64 x.shard, .int .i64 x.seq, .int .i64 x.epoch, .string x.text, .int .i64 x.k, .int .i64 x.batch, .bool x.first, .int .i64 x.ad, .string x.aw])).run Tryz.prog w = .ok true w := by
  have f5 := ssM x.text
  have f10 := ssM x.aw
  go_simp
theorem grantM_alike (a b c : Int) (w : World) : (Op.equalIn 10000 79 (.agg #[.int .i64 a, .int .i64 b, .int .i64 c]) (.agg #[.int .i64 a, .int .i64 b, .int .i64 c])).run Tryz.prog w = .ok true w := by
  go_simp
set_option maxHeartbeats 1600000 in
theorem sameGrantM (a b c : Int) (w : World) : Calls Tryz.prog 58 #[.iface 79 (.agg #[.int .i64 a, .int .i64 b, .int .i64 c]), .iface 79 (.agg #[.int .i64 a, .int .i64 b, .int .i64 c])] w fun e w' => e = .returned (.bool true) ∧ Below w.heap.size w w' := by
  have tHello := taGrantHello a b c
  have tGrant := taGrantGrant a b c
  have BX := Lib.hid (show Below w.heap.size w ((w.alloc (.cells #[.int .i64 a, .int .i64 b, .int .i64 c] 79)).alloc (.cells #[.int .i64 a, .int .i64 b, .int .i64 c] 79)) from by
    repeat' (first | exact Below.refl _ _ | refine Below.alloc ?_ (by simp <;> omega) _))
  have heq := fun w => grantM_alike a b c w
  go_enter Tryz.func58, Tryz.ntmps58
  go_wp2_with fail
  go_ret
  exact ⟨rfl, BX.out⟩
set_option maxHeartbeats 1600000 in
theorem sameAskM (x : AskP) (w : World) : Calls Tryz.prog 58 #[.iface 73 (.agg #[.int .i64 x.slot, .int .i64 x.query, .int .i64 x.shard, .int .i64 x.seq, .int .i64 x.epoch, .string x.text, .int .i64 x.k, .int .i64 x.batch, .bool x.first, .int .i64 x.ad, .string x.aw]), .iface 73 (.agg #[.int .i64 x.slot, .int .i64 x.query, .int .i64 x.shard, .int .i64 x.seq, .int .i64 x.epoch, .string x.text, .int .i64 x.k, .int .i64 x.batch, .bool x.first, .int .i64 x.ad, .string x.aw])] w fun e w' => e = .returned (.bool true) ∧ Below w.heap.size w w' := by
  have tHello := taAskHello x
  have tGrant := taAskGrant x
  have tAsk := taAskAsk x
  have BX := Lib.hid (show Below w.heap.size w ((w.alloc (.cells #[.int .i64 x.slot, .int .i64 x.query, .int .i64 x.shard, .int .i64 x.seq, .int .i64 x.epoch, .string x.text, .int .i64 x.k, .int .i64 x.batch, .bool x.first, .int .i64 x.ad, .string x.aw] 73)).alloc (.cells #[.int .i64 x.slot, .int .i64 x.query, .int .i64 x.shard, .int .i64 x.seq, .int .i64 x.epoch, .string x.text, .int .i64 x.k, .int .i64 x.batch, .bool x.first, .int .i64 x.ad, .string x.aw] 73)) from by
    repeat' (first | exact Below.refl _ _ | refine Below.alloc ?_ (by simp <;> omega) _))
  have heq := fun w => askM_alike x w
  go_enter Tryz.func58, Tryz.ntmps58
  go_wp2_with fail
  go_ret
  exact ⟨rfl, BX.out⟩
end Go.Proofs.YtblipdmagfiigaaGreat
namespace Go.Proofs.YtblipdmagfiigaaGreat
open Go.RowKit
set_option linter.unusedVariables false
set_option maxRecDepth 20000
set_option maxHeartbeats 800000 in
theorem sameLetters124 (p1 p2 ca cb : Nat) (t : Int) (v1 v2 : Value) (w : World) (h1 : w.cell? ⟨p1, 0, none⟩ = some (.int .i64 t)) (h2 : w.cell? ⟨p1, 1, none⟩ = some v1) (h3 : w.cell? ⟨p2, 0, none⟩ = some (.int .i64 t)) (h4 : w.cell? ⟨p2, 1, none⟩ = some v2)
    (CS0 : ∀ w', Below w.heap.size w w' → Calls Tryz.prog 58 #[v1, v2] w' fun e w'' => e = .returned (.bool true) ∧ Below w'.heap.size w' w'') :
    Calls Tryz.prog 30 #[.slice (some ⟨p1, 0, none⟩) 1 ca, .slice (some ⟨p2, 0, none⟩) 1 cb] w fun e w' => e = .returned (.bool true) ∧ Below w.heap.size w w' := by
  have CS := Lib.hid CS0
  have SB := Lib.hid (show ∀ w', Below w.heap.size w w' → ((Below w.heap.size w w' ∧ w'.cell? ⟨p1, 0, none⟩ = some (.int .i64 t) ∧ w'.cell? ⟨p1, 1, none⟩ = some v1) ∧ w'.cell? ⟨p2, 0, none⟩ = some (.int .i64 t) ∧ w'.cell? ⟨p2, 1, none⟩ = some v2) from fun w' hb => ⟨⟨hb, (hb.cell (p := ⟨p1, 0, none⟩) (lt_of_cell h1)).trans h1, (hb.cell (p := ⟨p1, 1, none⟩) (lt_of_cell h2)).trans h2⟩, (hb.cell (p := ⟨p2, 0, none⟩) (lt_of_cell h3)).trans h3, (hb.cell (p := ⟨p2, 1, none⟩) (lt_of_cell h4)).trans h4⟩)
  clear h1 h2 h3 h4 CS0
  go_enter Tryz.func30, Tryz.ntmps30
  go_wp2_with fail
  go_loopw [5] (fun iv wr => ∃ j : Nat, iv = .int .i64 j ∧ ((j = 0 ∧ Hid (w = wr)) ∨ (j = 1 ∧ Hid (Below w.heap.size w wr)))) (fun iv _ => 1 - (intOf iv).toNat)
  case atStart => exact ⟨0, rfl, Or.inl ⟨rfl, Lib.hid rfl⟩⟩
  case round =>
    obtain ⟨j, rfl, ⟨rfl, hw⟩ | ⟨rfl, hB⟩⟩ := hrel
    · obtain rfl := hw.out
      go_upto_region 6 with fail
      have hS0 := SB.out w.drew ((Below.refl _ _).drew)
      refine wp_region_held_drew (S := (fun w' => ((Below w.heap.size w w' ∧ w'.cell? ⟨p1, 0, none⟩ = some (.int .i64 t) ∧ w'.cell? ⟨p1, 1, none⟩ = some v1) ∧ w'.cell? ⟨p2, 0, none⟩ = some (.int .i64 t) ∧ w'.cell? ⟨p2, 1, none⟩ = some v2))) (by kernel_rfl) hS0 (fun hHeld0 => ?_)
      clear hS0
      generalize w.drew = X0 at hHeld0 ⊢
      refine wpAnyH_take (i := 0) (oi := { dst := some 17, op := Op.move (Operand.tmp 0), type := 32, pos := "same.go:430", after := #[], guard := none }) (v := ?vz1) rfl (by kernel_rfl) (by kernel_rfl) (by kernel_rfl) (fun _ _ _ h => h) (Or.inl ⟨by rfl, ?hyz1⟩) (by assumption) ?restz1
      case hyz1 => (intro w hSw; (try dsimp only at hSw); go_simp; (try with_reducible rfl))
      try simp only [Act.put, List.setIfInBounds_toArray, List.set_cons_zero, List.set_cons_succ]
      refine wpAnyH_take (i := 1) (oi := { dst := some 18, op := Op.move (Operand.tmp 5), type := 3, pos := "same.go:430", after := #[], guard := none }) (v := ?vz2) rfl (by kernel_rfl) (by kernel_rfl) (by kernel_rfl) (fun _ _ _ h => h) (Or.inl ⟨by rfl, ?hyz2⟩) (by assumption) ?restz2
      case hyz2 => (intro w hSw; (try dsimp only at hSw); go_simp; (try with_reducible rfl))
      try simp only [Act.put, List.setIfInBounds_toArray, List.set_cons_zero, List.set_cons_succ]
      refine wpAnyH_take (i := 2) (oi := { dst := some 19, op := Op.indexAddr 32 (Operand.tmp 17) (Operand.tmp 18), type := 0, pos := "same.go:430", after := #[{ on := 0, ground := Ground.data }, { on := 1, ground := Ground.data }], guard := none }) (v := ?vz3) rfl (by kernel_rfl) (by kernel_rfl) (by kernel_rfl) (fun _ _ _ h => h) (Or.inl ⟨by rfl, ?hyz3⟩) (by assumption) ?restz3
      case hyz3 => (intro w hSw; (try dsimp only at hSw); go_simp; (try with_reducible rfl))
      try simp only [Act.put, List.setIfInBounds_toArray, List.set_cons_zero, List.set_cons_succ]
      refine wpAnyH_take (i := 3) (oi := { dst := some 20, op := Op.fieldAddr 68 (Operand.tmp 19) 0, type := 0, pos := "same.go:430", after := #[{ on := 2, ground := Ground.data }], guard := none }) (v := ?vz4) rfl (by kernel_rfl) (by kernel_rfl) (by kernel_rfl) (fun _ _ _ h => h) (Or.inl ⟨by rfl, ?hyz4⟩) (by assumption) ?restz4
      case hyz4 => (intro w hSw; (try dsimp only at hSw); go_simp; (try with_reducible rfl))
      try simp only [Act.put, List.setIfInBounds_toArray, List.set_cons_zero, List.set_cons_succ]
      refine wpAnyH_take (i := 4) (oi := { dst := some 21, op := Op.load 3 (Operand.tmp 20), type := 3, pos := "same.go:430", after := #[{ on := 3, ground := Ground.data }], guard := none }) (v := ?vz5) rfl (by kernel_rfl) (by kernel_rfl) (by kernel_rfl) (fun _ _ _ h => h) (Or.inl ⟨by rfl, ?hyz5⟩) (by assumption) ?restz5
      case hyz5 => (intro w hSw; (try dsimp only at hSw); go_simp; (try with_reducible rfl))
      try simp only [Act.put, List.setIfInBounds_toArray, List.set_cons_zero, List.set_cons_succ]
      refine wpAnyH_take (i := 5) (oi := { dst := some 22, op := Op.move (Operand.tmp 1), type := 32, pos := "same.go:430", after := #[], guard := none }) (v := ?vz6) rfl (by kernel_rfl) (by kernel_rfl) (by kernel_rfl) (fun _ _ _ h => h) (Or.inl ⟨by rfl, ?hyz6⟩) (by assumption) ?restz6
      case hyz6 => (intro w hSw; (try dsimp only at hSw); go_simp; (try with_reducible rfl))
      try simp only [Act.put, List.setIfInBounds_toArray, List.set_cons_zero, List.set_cons_succ]
      refine wpAnyH_take (i := 6) (oi := { dst := some 23, op := Op.move (Operand.tmp 5), type := 3, pos := "same.go:430", after := #[], guard := none }) (v := ?vz7) rfl (by kernel_rfl) (by kernel_rfl) (by kernel_rfl) (fun _ _ _ h => h) (Or.inl ⟨by rfl, ?hyz7⟩) (by assumption) ?restz7
      case hyz7 => (intro w hSw; (try dsimp only at hSw); go_simp; (try with_reducible rfl))
      try simp only [Act.put, List.setIfInBounds_toArray, List.set_cons_zero, List.set_cons_succ]
      refine wpAnyH_take (i := 7) (oi := { dst := some 24, op := Op.indexAddr 32 (Operand.tmp 22) (Operand.tmp 23), type := 0, pos := "same.go:430", after := #[{ on := 5, ground := Ground.data }, { on := 6, ground := Ground.data }], guard := none }) (v := ?vz8) rfl (by kernel_rfl) (by kernel_rfl) (by kernel_rfl) (fun _ _ _ h => h) (Or.inl ⟨by rfl, ?hyz8⟩) (by assumption) ?restz8
      case hyz8 => (intro w hSw; (try dsimp only at hSw); go_simp; (try with_reducible rfl))
      try simp only [Act.put, List.setIfInBounds_toArray, List.set_cons_zero, List.set_cons_succ]
      refine wpAnyH_take (i := 8) (oi := { dst := some 25, op := Op.fieldAddr 68 (Operand.tmp 24) 0, type := 0, pos := "same.go:430", after := #[{ on := 7, ground := Ground.data }], guard := none }) (v := ?vz9) rfl (by kernel_rfl) (by kernel_rfl) (by kernel_rfl) (fun _ _ _ h => h) (Or.inl ⟨by rfl, ?hyz9⟩) (by assumption) ?restz9
      case hyz9 => (intro w hSw; (try dsimp only at hSw); go_simp; (try with_reducible rfl))
      try simp only [Act.put, List.setIfInBounds_toArray, List.set_cons_zero, List.set_cons_succ]
      refine wpAnyH_take (i := 9) (oi := { dst := some 26, op := Op.load 3 (Operand.tmp 25), type := 3, pos := "same.go:430", after := #[{ on := 8, ground := Ground.data }], guard := none }) (v := ?vz10) rfl (by kernel_rfl) (by kernel_rfl) (by kernel_rfl) (fun _ _ _ h => h) (Or.inl ⟨by rfl, ?hyz10⟩) (by assumption) ?restz10
      case hyz10 => (intro w hSw; (try dsimp only at hSw); go_simp; (try with_reducible rfl))
      try simp only [Act.put, List.setIfInBounds_toArray, List.set_cons_zero, List.set_cons_succ]
      refine wpAnyH_take (i := 10) (oi := { dst := some 27, op := Op.binOp BinOp.neq 3 (Operand.tmp 21) (Operand.tmp 26) 3, type := 4, pos := "same.go:430", after := #[{ on := 4, ground := Ground.data }, { on := 9, ground := Ground.data }], guard := none }) (v := ?vz11) rfl (by kernel_rfl) (by kernel_rfl) (by kernel_rfl) (fun _ _ _ h => h) (Or.inl ⟨by rfl, ?hyz11⟩) (by assumption) ?restz11
      case hyz11 => (intro w hSw; (try dsimp only at hSw); go_simp; (try with_reducible rfl))
      try simp only [Act.put, List.setIfInBounds_toArray, List.set_cons_zero, List.set_cons_succ]
      refine wpAnyH_take (i := 11) (oi := { dst := some 28, op := Op.move (Operand.tmp 27), type := 4, pos := "same.go:430", after := #[{ on := 10, ground := Ground.data }], guard := none }) (v := ?vz12) rfl (by kernel_rfl) (by kernel_rfl) (by kernel_rfl) (fun _ _ _ h => h) (Or.inl ⟨by rfl, ?hyz12⟩) (by assumption) ?restz12
      case hyz12 => (intro w hSw; (try dsimp only at hSw); go_simp; (try with_reducible rfl))
      try simp only [Act.put, List.setIfInBounds_toArray, List.set_cons_zero, List.set_cons_succ]
      refine wpAnyH_take (i := 12) (oi := { dst := some 29, op := Op.move (Operand.tmp 0), type := 32, pos := "same.go:430", after := #[{ on := 11, ground := Ground.guard }], guard := some (11, false) }) (v := ?vz13) rfl (by kernel_rfl) (by kernel_rfl) (by kernel_rfl) (fun _ _ _ h => h) (Or.inl ⟨by rfl, ?hyz13⟩) (by assumption) ?restz13
      case hyz13 => (intro w hSw; (try dsimp only at hSw); go_simp; (try with_reducible rfl))
      try simp only [Act.put, List.setIfInBounds_toArray, List.set_cons_zero, List.set_cons_succ]
      refine wpAnyH_take (i := 13) (oi := { dst := some 30, op := Op.move (Operand.tmp 5), type := 3, pos := "same.go:430", after := #[{ on := 11, ground := Ground.guard }], guard := some (11, false) }) (v := ?vz14) rfl (by kernel_rfl) (by kernel_rfl) (by kernel_rfl) (fun _ _ _ h => h) (Or.inl ⟨by rfl, ?hyz14⟩) (by assumption) ?restz14
      case hyz14 => (intro w hSw; (try dsimp only at hSw); go_simp; (try with_reducible rfl))
      try simp only [Act.put, List.setIfInBounds_toArray, List.set_cons_zero, List.set_cons_succ]
      refine wpAnyH_take (i := 14) (oi := { dst := some 31, op := Op.indexAddr 32 (Operand.tmp 29) (Operand.tmp 30), type := 0, pos := "same.go:430", after := #[{ on := 12, ground := Ground.data }, { on := 13, ground := Ground.data }, { on := 11, ground := Ground.guard }], guard := some (11, false) }) (v := ?vz15) rfl (by kernel_rfl) (by kernel_rfl) (by kernel_rfl) (fun _ _ _ h => h) (Or.inl ⟨by rfl, ?hyz15⟩) (by assumption) ?restz15
      case hyz15 => (intro w hSw; (try dsimp only at hSw); go_simp; (try with_reducible rfl))
      try simp only [Act.put, List.setIfInBounds_toArray, List.set_cons_zero, List.set_cons_succ]
      refine wpAnyH_take (i := 15) (oi := { dst := some 32, op := Op.fieldAddr 68 (Operand.tmp 31) 1, type := 0, pos := "same.go:430", after := #[{ on := 14, ground := Ground.data }, { on := 11, ground := Ground.guard }], guard := some (11, false) }) (v := ?vz16) rfl (by kernel_rfl) (by kernel_rfl) (by kernel_rfl) (fun _ _ _ h => h) (Or.inl ⟨by rfl, ?hyz16⟩) (by assumption) ?restz16
      case hyz16 => (intro w hSw; (try dsimp only at hSw); go_simp; (try with_reducible rfl))
      try simp only [Act.put, List.setIfInBounds_toArray, List.set_cons_zero, List.set_cons_succ]
      refine wpAnyH_take (i := 16) (oi := { dst := some 33, op := Op.load 20 (Operand.tmp 32), type := 20, pos := "same.go:430", after := #[{ on := 15, ground := Ground.data }, { on := 11, ground := Ground.guard }], guard := some (11, false) }) (v := ?vz17) rfl (by kernel_rfl) (by kernel_rfl) (by kernel_rfl) (fun _ _ _ h => h) (Or.inl ⟨by rfl, ?hyz17⟩) (by assumption) ?restz17
      case hyz17 => (intro w hSw; (try dsimp only at hSw); go_simp; (try with_reducible rfl))
      try simp only [Act.put, List.setIfInBounds_toArray, List.set_cons_zero, List.set_cons_succ]
      refine wpAnyH_take (i := 17) (oi := { dst := some 34, op := Op.move (Operand.tmp 1), type := 32, pos := "same.go:430", after := #[{ on := 11, ground := Ground.guard }], guard := some (11, false) }) (v := ?vz18) rfl (by kernel_rfl) (by kernel_rfl) (by kernel_rfl) (fun _ _ _ h => h) (Or.inl ⟨by rfl, ?hyz18⟩) (by assumption) ?restz18
      case hyz18 => (intro w hSw; (try dsimp only at hSw); go_simp; (try with_reducible rfl))
      try simp only [Act.put, List.setIfInBounds_toArray, List.set_cons_zero, List.set_cons_succ]
      refine wpAnyH_take (i := 18) (oi := { dst := some 35, op := Op.move (Operand.tmp 5), type := 3, pos := "same.go:430", after := #[{ on := 11, ground := Ground.guard }], guard := some (11, false) }) (v := ?vz19) rfl (by kernel_rfl) (by kernel_rfl) (by kernel_rfl) (fun _ _ _ h => h) (Or.inl ⟨by rfl, ?hyz19⟩) (by assumption) ?restz19
      case hyz19 => (intro w hSw; (try dsimp only at hSw); go_simp; (try with_reducible rfl))
      try simp only [Act.put, List.setIfInBounds_toArray, List.set_cons_zero, List.set_cons_succ]
      refine wpAnyH_take (i := 19) (oi := { dst := some 36, op := Op.indexAddr 32 (Operand.tmp 34) (Operand.tmp 35), type := 0, pos := "same.go:430", after := #[{ on := 17, ground := Ground.data }, { on := 18, ground := Ground.data }, { on := 11, ground := Ground.guard }], guard := some (11, false) }) (v := ?vz20) rfl (by kernel_rfl) (by kernel_rfl) (by kernel_rfl) (fun _ _ _ h => h) (Or.inl ⟨by rfl, ?hyz20⟩) (by assumption) ?restz20
      case hyz20 => (intro w hSw; (try dsimp only at hSw); go_simp; (try with_reducible rfl))
      try simp only [Act.put, List.setIfInBounds_toArray, List.set_cons_zero, List.set_cons_succ]
      refine wpAnyH_take (i := 20) (oi := { dst := some 37, op := Op.fieldAddr 68 (Operand.tmp 36) 1, type := 0, pos := "same.go:430", after := #[{ on := 19, ground := Ground.data }, { on := 11, ground := Ground.guard }], guard := some (11, false) }) (v := ?vz21) rfl (by kernel_rfl) (by kernel_rfl) (by kernel_rfl) (fun _ _ _ h => h) (Or.inl ⟨by rfl, ?hyz21⟩) (by assumption) ?restz21
      case hyz21 => (intro w hSw; (try dsimp only at hSw); go_simp; (try with_reducible rfl))
      try simp only [Act.put, List.setIfInBounds_toArray, List.set_cons_zero, List.set_cons_succ]
      refine wpAnyH_take (i := 21) (oi := { dst := some 38, op := Op.load 20 (Operand.tmp 37), type := 20, pos := "same.go:430", after := #[{ on := 20, ground := Ground.data }, { on := 11, ground := Ground.guard }], guard := some (11, false) }) (v := ?vz22) rfl (by kernel_rfl) (by kernel_rfl) (by kernel_rfl) (fun _ _ _ h => h) (Or.inl ⟨by rfl, ?hyz22⟩) (by assumption) ?restz22
      case hyz22 => (intro w hSw; (try dsimp only at hSw); go_simp; (try with_reducible rfl))
      try simp only [Act.put, List.setIfInBounds_toArray, List.set_cons_zero, List.set_cons_succ]
      refine wpAnyH_ready (rs := [22]) (by kernel_rfl) (by simp) ?_
      refine AllReadyH.cons (o := { dst := some 39, op := Op.call { callee := Callee.value (Operand.func 58), args := #[Operand.tmp 33, Operand.tmp 38], argTypes := #[20, 20] }, type := 4, pos := "same.go:430", after := #[{ on := 16, ground := Ground.data }, { on := 21, ground := Ground.data }, { on := 11, ground := Ground.chain }, { on := 11, ground := Ground.guard }], guard := some (11, false) }) rfl (fun K hK => ?_) AllReadyH.nil
      rw [if_pos (by rfl)]
      go_simp
      go_at_call 58
      with_reducible refine (CS.out _ hHeld0.1.1).mono ?_
      rintro e X1 ⟨rfl, hb⟩
      go_wp2_with fail
      have B1 := Lib.hid (hHeld0.1.1.trans (hb.mono hHeld0.1.1.size))
      refine hK.out _ _ (SB.out _ B1.out) (fun hHeld1 => ?_)
      clear hb hK K hHeld0
      try simp only [Act.put, List.setIfInBounds_toArray, List.set_cons_zero, List.set_cons_succ]
      refine wpAnyH_take (i := 23) (oi := { dst := some 40, op := Op.unOp UnOp.not 4 (Operand.tmp 39), type := 4, pos := "same.go:430", after := #[{ on := 22, ground := Ground.data }, { on := 11, ground := Ground.guard }], guard := some (11, false) }) (v := ?vz23) rfl (by kernel_rfl) (by kernel_rfl) (by kernel_rfl) (fun _ _ _ h => h) (Or.inl ⟨by rfl, ?hyz23⟩) (by assumption) ?restz23
      case hyz23 => (intro w hSw; (try dsimp only at hSw); go_simp; (try with_reducible rfl))
      try simp only [Act.put, List.setIfInBounds_toArray, List.set_cons_zero, List.set_cons_succ]
      refine wpAnyH_take (i := 24) (oi := { dst := some 41, op := Op.pick (Operand.tmp 28) (Operand.const (Value.bool true)) (Operand.tmp 40), type := 4, pos := "same.go:430", after := #[{ on := 11, ground := Ground.data }, { on := 23, ground := Ground.data }], guard := none }) (v := ?vz24) rfl (by kernel_rfl) (by kernel_rfl) (by kernel_rfl) (fun _ _ _ h => h) (Or.inl ⟨by rfl, ?hyz24⟩) (by assumption) ?restz24
      case hyz24 => (intro w hSw; (try dsimp only at hSw); go_simp; (try with_reducible rfl))
      try simp only [Act.put, List.setIfInBounds_toArray, List.set_cons_zero, List.set_cons_succ]
      refine wpAnyH_done (by kernel_rfl) ?_ _
      go_wp2_with fail
      go_roundw
      case rel => exact ⟨1, rfl, Or.inr ⟨rfl, B1⟩⟩
      case measure => simp [intOf]
    · go_wp2_with fail
      go_ret
      exact ⟨rfl, hB.out⟩
end Go.Proofs.YtblipdmagfiigaaGreat
namespace Go.Proofs.YtblipdmagfiigaaGreat
open Go.RowKit
set_option linter.unusedVariables false
set_option maxRecDepth 20000
theorem timers24 {B0 : Nat} {col : Nat → Nat} {x ca cc cw c2 bl bs bo ba bt bq n : Nat} {ls : Lt} {ss : Sl} {f : Int → Option Value} (w : World) (h : CoS B0 w col x ca cc cw c2 bl bs bo ba bt bq n ls ss M1 f) : Calls Tryz.prog 17 #[.pointer (some ⟨x, 0, none⟩)] w fun e w' => e = .returned (.int .i64 1) ∧ w = w' := by
  obtain ⟨St, hT, -⟩ := h.T
  have CL := Lib.hid (show Calls Tryz.prog 44 #[.pointer (some ⟨bt, 0, none⟩)] w fun e w' => e = .returned (.int .i64 1) ∧ w = w' from tLenT_any bt 24 M1 St w hT)
  have x16 : w.cell? ⟨x, 16, none⟩ = some (.pointer (some ⟨bt, 0, none⟩)) := co_cell h.box rfl
  clear h hT
  go_enter Tryz.func17, Tryz.ntmps17
  go_wp2_with fail
  refine CL.out.mono ?_
  rintro e w2 ⟨rfl, rfl⟩
  go_wp2_with fail
  go_ret
  exact ⟨rfl, rfl⟩
set_option maxRecDepth 100000 in
set_option maxHeartbeats 3200000 in
theorem awake24_any (w : World) : Calls Tryz.prog 7 #[] w fun e w' => e = .returned (.bool true) ∧ Below w.heap.size w w' := by
  go_enter Tryz.func7, Tryz.ntmps7
  go_wp2_with fail
  refine (small24_any w).mono ?_
  rintro e w1 ⟨B, rfl, ok, hb1⟩
  have CN := Lib.hid (cnew_any B w1 ok)
  have B1 := Lib.hid hb1
  clear ok hb1
  go_wp2_with fail
  refine CN.out.mono ?_
  rintro e w2 ⟨col, x, ca, cc, cw, c2, bl, bs, bo, ba, bt, bq, rfl, hC, hb2⟩
  have C2 := Lib.hid (show CoS w1.heap.size w2 col x ca cc cw c2 bl bs bo ba bt bq 0 ls0 ss0 [] (fun _ => none) from hC)
  have B2 := Lib.hid hb2
  clear hC hb2 CN
  go_wp2_with fail
  refine (take24 w2 C2.out).mono ?_
  rintro e w3 ⟨p, rfl, hone, hp, hC3, hb3⟩
  have C3 := Lib.hid hC3
  have B3 := Lib.hid (B2.out.trans hb3)
  have O3 := Lib.hid hone
  have HP := Lib.hid hp
  clear hone hp hC3 hb3 C2 B2
  go_wp2_with fail
  refine (submit24 w3 C3.out).mono ?_
  rintro e w4 ⟨col', qb, sb, bm, ia, ic, rfl, hC4, hQ4, hE4⟩
  have C4 := Lib.hid hC4
  have Q4 := Lib.hid hQ4
  have E4 := Lib.hid hE4
  clear hC4 hQ4 hE4
  go_wp2_with fail
  refine (wake24 qb sb bm ia ic w4 C4.out Q4.out).mono ?_
  rintro e w5 ⟨g, c, col'', rfl, hone5, hC5, hE5⟩
  have hE := E4.out.trans hE5
  have B5 := Lib.hid (show Below w.heap.size w w5 from (B1.out.trans (B3.out.mono B1.out.size)).trans ((hE.1.below (fun k hk => C3.out.lo k hk) C3.out.hB).mono B1.out.size))
  have O5 := Lib.hid (O3.out.turn hE.1 (by have := HP.out; omega))
  have P5 := Lib.hid hone5
  have C5 := Lib.hid hC5
  clear hone5 hC5 hE5 hE C4 Q4 E4 C3 B3 O3 HP
  go_upto_region 8 with fail
  obtain ⟨q, hq⟩ : ∃ q, w5.heap.size = q := ⟨_, rfl⟩
  have hb6 := below_one w5 (.cells #[.int .i64 0, .int .i64 1, .int .i64 0, .int .i64 0, .int .i64 1, .string coA, .int .i64 1, .int .i64 2, .bool true, .int .i64 0, .string { data := #[] }] 73)
  have K6 := Lib.hid (show (w5.alloc (.cells #[.int .i64 0, .int .i64 1, .int .i64 0, .int .i64 0, .int .i64 1, .string coA, .int .i64 1, .int .i64 2, .bool true, .int .i64 0, .string { data := #[] }] 73)).heap[q]? = some (.cells #[.int .i64 0, .int .i64 1, .int .i64 0, .int .i64 0, .int .i64 1, .string coA, .int .i64 1, .int .i64 2, .bool true, .int .i64 0, .string { data := #[] }] 73 (0, 0)) from by rw [← hq]; exact heap_alloc_new w5 _)
  have B6 := Lib.hid (B5.out.trans (hb6.mono B5.out.size))
  have O6 := Lib.hid (O5.out.below hb6)
  have P6 := Lib.hid (P5.out.below hb6)
  have C6 := Lib.hid (C5.out.below hb6)
  rw [hq]
  generalize w5.alloc (.cells #[.int .i64 0, .int .i64 1, .int .i64 0, .int .i64 0, .int .i64 1, .string coA, .int .i64 1, .int .i64 2, .bool true, .int .i64 0, .string { data := #[] }] 73) = w6 at *
  clear hb6 hq O5 P5 C5
  have hb7 := below_one w6 (.cells #[.int .i64 1, .iface 79 (.agg #[.int .i64 1, .int .i64 1, .int .i64 1])] 68)
  have B7 := Lib.hid (B6.out.trans (hb7.mono B6.out.size))
  have L7 : One24 (w6.alloc (.cells #[.int .i64 1, .iface 79 (.agg #[.int .i64 1, .int .i64 1, .int .i64 1])] 68)) 1 79 (.agg #[.int .i64 1, .int .i64 1, .int .i64 1]) w6.heap.size := ⟨(cell_alloc (w := w6) rfl).trans rfl, (cell_alloc (w := w6) rfl).trans rfl⟩
  have O7 := O6.out.below hb7
  have S7 := Lib.hid (sameLetters124 p w6.heap.size 1 1 1 _ _ _ O7.1 O7.2 L7.1 L7.2 (fun w' hb => sameGrantM 1 1 1 w'))
  have K7 := Lib.hid ((hb7.block q (Array.getElem?_eq_some_iff.1 K6.out).1).trans K6.out)
  have P7 := Lib.hid (P6.out.below hb7)
  have C7 := Lib.hid (C6.out.below hb7)
  clear hb7 L7 O7 O6 P6 C6 K6
  go_wp2_with fail
  refine S7.out.mono ?_
  rintro e w8 ⟨rfl, hb8⟩
  have B8 := Lib.hid (B7.out.trans (hb8.mono B7.out.size))
  have K8 := Lib.hid ((hb8.block q (Array.getElem?_eq_some_iff.1 K7.out).1).trans K7.out)
  have P8 := Lib.hid (P7.out.below hb8)
  have C8 := Lib.hid (C7.out.below hb8)
  clear hb8 S7 K7 P7 C7
  have a0 : w8.cell? ⟨q, 0, none⟩ = some (.int .i64 0) := co_cell K8.out rfl
  have a1 : w8.cell? ⟨q, 1, none⟩ = some (.int .i64 1) := co_cell K8.out rfl
  have a2 : w8.cell? ⟨q, 2, none⟩ = some (.int .i64 0) := co_cell K8.out rfl
  have a3 : w8.cell? ⟨q, 3, none⟩ = some (.int .i64 0) := co_cell K8.out rfl
  have a4 : w8.cell? ⟨q, 4, none⟩ = some (.int .i64 1) := co_cell K8.out rfl
  have a5 : w8.cell? ⟨q, 5, none⟩ = some (.string coA) := co_cell K8.out rfl
  have a6 : w8.cell? ⟨q, 6, none⟩ = some (.int .i64 1) := co_cell K8.out rfl
  have a7 : w8.cell? ⟨q, 7, none⟩ = some (.int .i64 2) := co_cell K8.out rfl
  have a8 : w8.cell? ⟨q, 8, none⟩ = some (.bool true) := co_cell K8.out rfl
  have a9 : w8.cell? ⟨q, 9, none⟩ = some (.int .i64 0) := co_cell K8.out rfl
  have a10 : w8.cell? ⟨q, 10, none⟩ = some (.string { data := #[] }) := co_cell K8.out rfl
  have hb9 := below_one w8 (.cells #[.int .i64 1, .iface 73 (.agg #[.int .i64 0, .int .i64 1, .int .i64 0, .int .i64 0, .int .i64 1, .string coA, .int .i64 1, .int .i64 2, .bool true, .int .i64 0, .string { data := #[] }])] 68)
  have B9 := Lib.hid (B8.out.trans (hb9.mono B8.out.size))
  have L9 : One24 (w8.alloc (.cells #[.int .i64 1, .iface 73 (.agg #[.int .i64 0, .int .i64 1, .int .i64 0, .int .i64 0, .int .i64 1, .string coA, .int .i64 1, .int .i64 2, .bool true, .int .i64 0, .string { data := #[] }])] 68)) 1 73 askV w8.heap.size := ⟨(cell_alloc (w := w8) rfl).trans rfl, (cell_alloc (w := w8) rfl).trans rfl⟩
  have P9 := P8.out.below hb9
  have S9 := Lib.hid (sameLetters124 g w8.heap.size c 1 1 _ _ _ P9.1 P9.2 L9.1 L9.2 (fun w' hb => sameAskM ⟨0, 1, 0, 0, 1, coA, 1, 2, true, 0, { data := #[] }⟩ w'))
  have C9 := Lib.hid (C8.out.below hb9)
  clear hb9 L9 P9 P8 C8 K8
  go_wp2_with fail
  refine S9.out.mono ?_
  rintro e w10 ⟨rfl, hb10⟩
  have BF := Lib.hid (B9.out.trans (hb10.mono B9.out.size))
  have CT := Lib.hid (timers24 w10 (C9.out.below hb10))
  clear hb10 S9 C9 a0 a1 a2 a3 a4 a5 a6 a7 a8 a9 a10
  go_wp2_with fail
  refine CT.out.mono ?_
  rintro e w11 ⟨rfl, rfl⟩
  go_wp2_with fail
  go_ret
  exact ⟨rfl, BF.out⟩
end Go.Proofs.YtblipdmagfiigaaGreat
namespace Go.Proofs.YtblipdmagfiigaaGreat
open Go.RowKit
set_option linter.unusedVariables false
set_option maxRecDepth 20000
theorem cSubmit_nil (t : Tx) (k n : Int) (w : World) : Calls Tryz.prog 8 #[.pointer none, .agg #[.string t, .int .i64 k, .int .i64 n]] w fun e w' => e = .returned (.tuple #[.int .i64 0, .int .i64 0, .slice none 0 0]) ∧ Below w.heap.size w w' := by
  go_enter Tryz.func8, Tryz.ntmps8
  go_wp2_with fail
  exact bodyPost_ret (v := .tuple #[.int .i64 0, .int .i64 0, .slice none 0 0]) (by simp [results, go_sem]) rfl ⟨rfl, (by repeat' (first | exact Below.refl _ _ | refine Below.alloc ?_ (by simp <;> omega) _))⟩
theorem cCancel_nil (i : Int) (w : World) : Calls Tryz.prog 9 #[.pointer none, .int .i64 i] w fun e w' => e = .returned (.tuple #[.slice none 0 0, .int .i64 1]) ∧ w = w' := by
  go_enter Tryz.func9, Tryz.ntmps9
  go_wp2_with fail
  exact bodyPost_ret (v := .tuple #[.slice none 0 0, .int .i64 1]) (by simp [results, go_sem]) rfl ⟨rfl, rfl⟩
theorem cTold_nil (i : Int) (w : World) : Calls Tryz.prog 10 #[.pointer none, .int .i64 i] w fun e w' => e = .returned (.tuple #[.agg #[.int .i64 0, .string { data := #[] }, .int .i64 0, .int .i64 0, .slice none 0 0, .bool false, .bool false], .bool false]) ∧ Below w.heap.size w w' := by
  go_enter Tryz.func10, Tryz.ntmps10
  go_wp2_with fail
  exact bodyPost_ret (v := .tuple #[.agg #[.int .i64 0, .string { data := #[] }, .int .i64 0, .int .i64 0, .slice none 0 0, .bool false, .bool false], .bool false]) (by simp [results, go_sem]) rfl ⟨rfl, (by repeat' (first | exact Below.refl _ _ | refine Below.alloc ?_ (by simp <;> omega) _))⟩
theorem cTick_nil (w : World) : Calls Tryz.prog 11 #[.pointer none] w fun e w' => e = .returned (.tuple #[]) ∧ w = w' := by
  go_enter Tryz.func11, Tryz.ntmps11
  go_wp2_with fail
  exact ⟨rfl, _, results_none rfl _ _ _, rfl, rfl⟩
theorem cNow_nil (w : World) : Calls Tryz.prog 13 #[.pointer none] w fun e w' => e = .returned (.int .i64 0) ∧ w = w' := by
  go_enter Tryz.func13, Tryz.ntmps13
  go_wp2_with fail
  go_ret
  exact ⟨rfl, rfl⟩
theorem cTake_nil (t : TypeId) (v : Value) (w : World) : Calls Tryz.prog 14 #[.pointer none, .iface t v] w fun e w' => e = .returned (.slice none 0 0) ∧ w = w' := by
  go_enter Tryz.func14, Tryz.ntmps14
  go_wp2_with fail
  go_ret
  exact ⟨rfl, rfl⟩
theorem cWake_nil (i : Int) (w : World) : Calls Tryz.prog 15 #[.pointer none, .int .i64 i] w fun e w' => e = .returned (.slice none 0 0) ∧ w = w' := by
  go_enter Tryz.func15, Tryz.ntmps15
  go_wp2_with fail
  go_ret
  exact ⟨rfl, rfl⟩
theorem cAll_nil (w : World) : Calls Tryz.prog 16 #[.pointer none] w fun e w' => e = .returned (.slice none 0 0) ∧ w = w' := by
  go_enter Tryz.func16, Tryz.ntmps16
  go_wp2_with fail
  go_ret
  exact ⟨rfl, rfl⟩
theorem cTimers_nil (w : World) : Calls Tryz.prog 17 #[.pointer none] w fun e w' => e = .returned (.int .i64 0) ∧ w = w' := by
  go_enter Tryz.func17, Tryz.ntmps17
  go_wp2_with fail
  go_ret
  exact ⟨rfl, rfl⟩
theorem cEpoch_nil (i : Int) (w : World) : Calls Tryz.prog 18 #[.pointer none, .int .i64 i] w fun e w' => e = .returned (.int .i64 0) ∧ w = w' := by
  go_enter Tryz.func18, Tryz.ntmps18
  go_wp2_with fail
  go_ret
  exact ⟨rfl, rfl⟩
theorem eqQ0 (w : World) : (Op.equalIn 10000 23 (.agg #[.string { data := #[] }, .int .i64 0, .int .i64 0]) (.agg #[.string { data := #[] }, .int .i64 0, .int .i64 0])).run Tryz.prog w = .ok true w := by kernel_rfl
theorem holdsK_nil24 (w : World) : HoldsK w none 0 [] := ⟨rfl, fun h => (Nat.lt_irrefl 0 h).elim⟩
theorem sameTold0 (w : World) : Calls Tryz.prog 12 #[.agg #[.int .i64 0, .string { data := #[] }, .int .i64 0, .int .i64 0, .slice none 0 0, .bool false, .bool false], .agg #[.int .i64 0, .string { data := #[] }, .int .i64 0, .int .i64 0, .slice none 0 0, .bool false, .bool false]] w fun e w' => e = .returned (.bool true) ∧ Below w.heap.size w w' := by
  have EQ := eqQ0
  go_enter Tryz.func12, Tryz.ntmps12
  go_wp2_with (first | (go_at_call 38; (with_reducible refine (sameItems_yes none none 0 0 0 [] _ (holdsK_nil24 _) (holdsK_nil24 _) (by omega)).mono ?_); rintro e w3 ⟨rfl, hb⟩) | fail)
  go_ret
  exact ⟨rfl, (Below.trans (by repeat' (first | exact Below.refl _ _ | refine Below.alloc ?_ (by simp <;> omega) _)) (hb.mono (by simp <;> omega)))⟩
end Go.Proofs.YtblipdmagfiigaaGreat
namespace Go.Proofs.YtblipdmagfiigaaGreat
open Go.ChangeShapes Go.WideShapes Go.ChangeAt Go.RowKit Go.Deep
set_option linter.unusedVariables false
set_option maxRecDepth 20000
theorem open_rows_cell {H : Type} {enc : TypeId × Value → H} {P : Program} {W : World} {t e : TypeId} {k : Nat} {c : Value} {fuel : Nat} {y : DataW H × List MemPlace}
    (ht : P.underlying t = some (.slice e)) (hc : P.cellsOf e = k) (hk : 0 < k) (good : List Value → Prop)
    (hgood : ∀ m cs y, DataW.trod enc P W 0 (fun _ => true) true m e cs = some y → good cs)
    (hf : DataW.trod enc P W 0 (fun _ => true) true fuel t [c] = some y) :
    ∃ (a : Option Addr) (n cap : Nat) (R : Nat → List Value), c = .slice a n cap ∧ (a = none → n = 0 ∧ cap = 0) ∧ n ≤ cap ∧ cap ≤ maxLen ∧ (∀ i, i < n → good (R i)) ∧
      (0 < n → ∃ b o, a = some ⟨b, o, none⟩ ∧ ∀ i, i < n → ∀ j, j < k → W.cell? ⟨b, o + i * k + j, none⟩ = (R i)[j]?) := by
  rcases open_slice ht hf with ⟨hcs, _⟩ | ⟨x, len, cap, m, n, D, Pl, hcs, _, hl, hm, hmm, _, hx⟩
  · obtain rfl : c = .slice none 0 0 := by simpa using hcs
    exact ⟨none, 0, 0, fun _ => [], rfl, fun _ => ⟨rfl, rfl⟩, Nat.le_refl _, by unfold maxLen; omega, by simp, by simp⟩
  · obtain rfl : c = .slice (some x) len cap := by simpa using hcs
    simp at hmm
    subst hmm
    rw [hc] at hx
    have hR : ∀ i, ∃ cs' : List Value, i < m → W.cells? 0 (x.add (i * k)) k = some cs' ∧ good cs' := fun i => by
      by_cases hi : i < m
      · obtain ⟨cs', h1, h2⟩ := hx i hi
        exact ⟨cs', fun _ => ⟨h1, hgood _ _ _ h2⟩⟩
      · exact ⟨[], fun h => absurd h hi⟩
    refine ⟨some x, len, m, fun i => (hR i).choose, rfl, (fun h => by cases h), hl, hm, fun i hi => ((hR i).choose_spec (by omega)).2, fun h0 => ?_⟩
    have h1 := fun i (hi : i < m) => (World.cells?_some ((hR i).choose_spec hi).1)
    obtain ⟨b, off, spot⟩ := x
    have hspot : spot = none := by
      have h2 := (h1 0 (by omega)).2.2 0 hk
      have h3 := (h1 0 (by omega)).2.1
      have h4 : ((hR 0).choose)[0]? = some (((hR 0).choose)[0]'(by omega)) := List.getElem?_eq_getElem _
      rw [h4] at h2
      simpa [Addr.add] using World.cell?_spot h2
    subst hspot
    refine ⟨b, off, rfl, fun i hi j hj => ?_⟩
    have h2 := (h1 i (by omega)).2.2 j hj
    rw [← h2, Go.WideShapes.add_plain, Go.WideShapes.add_plain]
end Go.Proofs.YtblipdmagfiigaaGreat
namespace Go.Proofs.YtblipdmagfiigaaGreat
open Go.ChangeShapes Go.WideShapes Go.ChangeAt Go.RowKit Go.Deep
set_option linter.unusedVariables false
set_option maxRecDepth 20000
theorem open_pairs_cell {H : Type} {enc : TypeId × Value → H} {W : World} {c : Value} {fuel : Nat} {y : DataW H × List MemPlace} {t e : TypeId} {fs : Array Field} {f0 f1 : Field}
    (ht : Tryz.prog.underlying t = some (.slice e)) (he : Tryz.prog.underlying e = some (.struct fs)) (hc : Tryz.prog.cellsOf e = 2) (hf0 : fs[0]? = some f0) (hf1 : fs[1]? = some f1) (g0 : f0.type = 3 ∧ f0.offset = 0) (g1 : f1.type = 9 ∧ f1.offset = 1)
    (hf : DataW.trod enc Tryz.prog W 0 (fun _ => true) true fuel t [c] = some y) :
    ∃ a n cap ks, c = .slice a n cap ∧ HoldsK W a n ks ∧ (a = none → n = 0 ∧ cap = 0) ∧ n ≤ cap ∧ n ≤ 9223372036854775807 ∧ ∀ k ∈ ks, KeyOk k := by
  obtain ⟨a, n, cap, R, rfl, hnil, h1, h2, hg, hc⟩ := open_rows_cell ht hc (by omega) (fun cs => ∃ k : KV, KeyOk k ∧ cs = [.int .i64 k.1, .string k.2]) (fun _ _ _ h => pair_of he hc hf0 hf1 g0 g1 h) hf
  have hx : ∀ i, ∃ k : KV, i < n → KeyOk k ∧ R i = [.int .i64 k.1, .string k.2] := fun i => by
    by_cases hi : i < n
    · obtain ⟨x, h3⟩ := hg i hi
      exact ⟨x, fun _ => h3⟩
    · exact ⟨k0, fun h => absurd h hi⟩
  have hget : ∀ i, i < n → ((List.range n).map fun i => (hx i).choose).getD i k0 = (hx i).choose := fun i hi => by simp [List.getD_eq_getElem?_getD, hi]
  refine ⟨a, n, cap, (List.range n).map fun i => (hx i).choose, rfl, ⟨by simp, fun h0 => ?_⟩, hnil, h1, by unfold maxLen at h2; omega, fun k hk => ?_⟩
  · obtain ⟨b, o, ha, hcell⟩ := hc h0
    refine ⟨b, o, ha, fun i hi => ?_⟩
    have e := ((hx i).choose_spec hi).2
    have c0 := hcell i hi 0 (by omega)
    have c1 := hcell i hi 1 (by omega)
    rw [e] at c0 c1
    rw [hget i hi]
    exact ⟨by simpa using c0, by simpa using c1⟩
  · obtain ⟨i, hi, rfl⟩ := List.mem_map.1 hk
    exact ((hx i).choose_spec (by simpa using hi)).1
end Go.Proofs.YtblipdmagfiigaaGreat
namespace Go.Proofs.YtblipdmagfiigaaGreat
open Go.ChangeShapes Go.WideShapes Go.ChangeAt Go.RowKit
set_option linter.unusedVariables false
set_option maxRecDepth 20000
structure CAct where
  do_ : Int
  i : Int
  j : Int
  x : Int
  qt : Tx
  qk : Int
  qn : Int
  slot : Int
  query : Int
  shard : Int
  seq : Int
  worker : Int
  epoch : Int
  ia : Option Addr
  n : Nat
  ic : Nat
  items : List KV
  fin : Bool
abbrev cellsCA (a : CAct) : List Value := [.int .i64 a.do_, .int .i64 a.i, .int .i64 a.j, .int .i64 a.x, .string a.qt, .int .i64 a.qk, .int .i64 a.qn, .int .i64 a.slot, .int .i64 a.query, .int .i64 a.shard, .int .i64 a.seq, .int .i64 a.worker, .int .i64 a.epoch, .slice a.ia a.n a.ic, .bool a.fin]
abbrev agCA (a : CAct) : Value := .agg #[.int .i64 a.do_, .int .i64 a.i, .int .i64 a.j, .int .i64 a.x, .string a.qt, .int .i64 a.qk, .int .i64 a.qn, .int .i64 a.slot, .int .i64 a.query, .int .i64 a.shard, .int .i64 a.seq, .int .i64 a.worker, .int .i64 a.epoch, .slice a.ia a.n a.ic, .bool a.fin]
def CActOk (W : World) (a : CAct) : Prop := a.qt.size ≤ 9223372036854775807 ∧ HoldsK W a.ia a.n a.items ∧ (a.ia = none → a.n = 0 ∧ a.ic = 0) ∧ a.n ≤ a.ic ∧ a.n ≤ 9223372036854775807 ∧ ∀ k ∈ a.items, KeyOk k
theorem cellsA24_int : Tryz.prog.cellsOf 3 = 1 := by kernel_rfl
theorem cellsA24_bool : Tryz.prog.cellsOf 4 = 1 := by kernel_rfl
theorem cellsA24_str : Tryz.prog.cellsOf 9 = 1 := by kernel_rfl
theorem cellsA24_items : Tryz.prog.cellsOf 24 = 1 := by kernel_rfl
theorem cellsA24_qry : Tryz.prog.cellsOf 23 = 3 := by kernel_rfl
theorem cellsA24_rep : Tryz.prog.cellsOf 26 = 8 := by kernel_rfl
theorem cellsA24_act : Tryz.prog.cellsOf 28 = 15 := by kernel_rfl
theorem qryA_of {H : Type} {enc : TypeId × Value → H} {w : World} {base : Nat} {spare : Nat → Bool} {held : Bool} {fuel : Nat} {cs : List Value} {x : DataW H × List MemPlace}
    (h : DataW.trod enc Tryz.prog w base spare held fuel 23 cs = some x) : ∃ t k n, t.size ≤ 9223372036854775807 ∧ cs = [.string t, .int .i64 k, .int .i64 n] := by
  obtain ⟨hl, n, hf⟩ := struct_cells Tryz.underlying23 h
  rw [cellsA24_qry] at hl
  obtain ⟨c0, c1, c2, rfl⟩ : ∃ c0 c1 c2, cs = [c0, c1, c2] := by
    match cs, hl with
    | [a, b, c], _ => exact ⟨a, b, c, rfl⟩
  obtain ⟨y0, z0⟩ := hf 0 _ rfl
  obtain ⟨y1, z1⟩ := hf 1 _ rfl
  obtain ⟨y2, z2⟩ := hf 2 _ rfl
  obtain ⟨s, hs, _, b0⟩ := DataW.trod_string Tryz.underlying9 z0
  obtain ⟨k1, h1, _, _⟩ := DataW.trod_int Tryz.underlying3 z1
  obtain ⟨k2, h2, _, _⟩ := DataW.trod_int Tryz.underlying3 z2
  simp [cellsA24_int, cellsA24_str] at hs h1 h2
  subst hs h1 h2
  exact ⟨s, k1, k2, by unfold maxLen at b0; exact b0, rfl⟩
theorem repA_of {H : Type} {enc : TypeId × Value → H} {W : World} {fuel : Nat} {cs : List Value} {x : DataW H × List MemPlace}
    (h : DataW.trod enc Tryz.prog W 0 (fun _ => true) true fuel 26 cs = some x) : ∃ k0 k1 k2 k3 k4 k5 a na ca xs k7, (HoldsK W a na xs ∧ (a = none → na = 0 ∧ ca = 0) ∧ na ≤ ca ∧ na ≤ 9223372036854775807 ∧ ∀ k ∈ xs, KeyOk k) ∧
      cs = [.int .i64 k0, .int .i64 k1, .int .i64 k2, .int .i64 k3, .int .i64 k4, .int .i64 k5, .slice a na ca, .bool k7] := by
  obtain ⟨hl, n, hf2⟩ := struct_cells Tryz.underlying26 h
  rw [cellsA24_rep] at hl
  obtain ⟨c0, c1, c2, c3, c4, c5, c6, c7, rfl⟩ : ∃ c0 c1 c2 c3 c4 c5 c6 c7, cs = [c0, c1, c2, c3, c4, c5, c6, c7] := by
    match cs, hl with
    | [c0, c1, c2, c3, c4, c5, c6, c7], _ => exact ⟨c0, c1, c2, c3, c4, c5, c6, c7, rfl⟩
  obtain ⟨y0, z0⟩ := hf2 0 _ rfl
  obtain ⟨y1, z1⟩ := hf2 1 _ rfl
  obtain ⟨y2, z2⟩ := hf2 2 _ rfl
  obtain ⟨y3, z3⟩ := hf2 3 _ rfl
  obtain ⟨y4, z4⟩ := hf2 4 _ rfl
  obtain ⟨y5, z5⟩ := hf2 5 _ rfl
  obtain ⟨y6, z6⟩ := hf2 6 _ rfl
  obtain ⟨y7, z7⟩ := hf2 7 _ rfl
  simp [cellsA24_int, cellsA24_items, cellsA24_bool] at z0 z1 z2 z3 z4 z5 z6 z7
  obtain ⟨k0, h0, _, _⟩ := DataW.trod_int Tryz.underlying3 z0
  obtain ⟨k1, h1, _, _⟩ := DataW.trod_int Tryz.underlying3 z1
  obtain ⟨k2, h2, _, _⟩ := DataW.trod_int Tryz.underlying3 z2
  obtain ⟨k3, h3, _, _⟩ := DataW.trod_int Tryz.underlying3 z3
  obtain ⟨k4, h4, _, _⟩ := DataW.trod_int Tryz.underlying3 z4
  obtain ⟨k5, h5, _, _⟩ := DataW.trod_int Tryz.underlying3 z5
  obtain ⟨a, na, ca, xs, hx, g1, g2, g3, g4, g5⟩ := open_pairs_cell Tryz.underlying24 Tryz.underlying71 (by kernel_rfl) rfl rfl ⟨rfl, rfl⟩ ⟨rfl, rfl⟩ z6
  obtain ⟨k7, h7, _⟩ := DataW.trod_bool Tryz.underlying4 z7
  simp at h0 h1 h2 h3 h4 h5 h7
  subst h0 h1 h2 h3 h4 h5 h7 hx
  exact ⟨k0, k1, k2, k3, k4, k5, a, na, ca, xs, k7, ⟨g1, g2, g3, g4, g5⟩, rfl⟩
theorem cact_of {H : Type} {enc : TypeId × Value → H} {W : World} {fuel : Nat} {cs : List Value} {x : DataW H × List MemPlace}
    (h : DataW.trod enc Tryz.prog W 0 (fun _ => true) true fuel 28 cs = some x) : ∃ a : CAct, CActOk W a ∧ cs = cellsCA a := by
  obtain ⟨hl, n, hf⟩ := struct_cells Tryz.underlying28 h
  rw [cellsA24_act] at hl
  obtain ⟨c0, c1, c2, c3, c4, c5, c6, c7, c8, c9, c10, c11, c12, c13, c14, rfl⟩ : ∃ c0 c1 c2 c3 c4 c5 c6 c7 c8 c9 c10 c11 c12 c13 c14, cs = [c0, c1, c2, c3, c4, c5, c6, c7, c8, c9, c10, c11, c12, c13, c14] := by
    match cs, hl with
    | [c0, c1, c2, c3, c4, c5, c6, c7, c8, c9, c10, c11, c12, c13, c14], _ => exact ⟨c0, c1, c2, c3, c4, c5, c6, c7, c8, c9, c10, c11, c12, c13, c14, rfl⟩
  obtain ⟨y0, z0⟩ := hf 0 _ rfl
  obtain ⟨y1, z1⟩ := hf 1 _ rfl
  obtain ⟨y2, z2⟩ := hf 2 _ rfl
  obtain ⟨y3, z3⟩ := hf 3 _ rfl
  obtain ⟨y4, z4⟩ := hf 4 _ rfl
  obtain ⟨y5, z5⟩ := hf 5 _ rfl
  obtain ⟨k0, h0, _, _⟩ := DataW.trod_int Tryz.underlying3 z0
  obtain ⟨k1, h1, _, _⟩ := DataW.trod_int Tryz.underlying3 z1
  obtain ⟨k2, h2, _, _⟩ := DataW.trod_int Tryz.underlying3 z2
  obtain ⟨k3, h3, _, _⟩ := DataW.trod_int Tryz.underlying3 z3
  obtain ⟨t, k4, k5, b4, h4⟩ := qryA_of z4
  obtain ⟨r0, r1, r2, r3, r4, r5, a, na, ca, xs, r7, g, h5⟩ := repA_of z5
  simp [cellsA24_int, cellsA24_qry, cellsA24_rep] at h0 h1 h2 h3 h4 h5
  obtain ⟨e4, e5, e6⟩ := h4
  obtain ⟨e7, e8, e9, e10, e11, e12, e13, e14⟩ := h5
  subst h0 h1 h2 h3 e4 e5 e6 e7 e8 e9 e10 e11 e12 e13 e14
  exact ⟨⟨k0, k1, k2, k3, t, k4, k5, r0, r1, r2, r3, r4, r5, a, na, ca, xs, r7⟩, ⟨b4, g⟩, rfl⟩
theorem open_cact {H : Type} {enc : TypeId × Value → H} {W : World} {base : Nat} {v : Value} {d : DataW H} {p : List MemPlace}
    (o : Value.okWide Tryz.prog W .any base 28 v) (h : DataW.Trod enc Tryz.prog W 0 (fun _ => true) true 28 v d p) : ∃ a : CAct, CActOk W a ∧ v = agCA a := by
  obtain ⟨cs, rfl, hsz⟩ := okWide_struct Tryz.underlying28 o
  obtain ⟨fuel, hf⟩ := h
  obtain ⟨a, ha, hcs⟩ := cact_of hf
  refine ⟨a, ha, ?_⟩
  congr 1
  apply Array.toList_inj.1
  simpa [Value.cells, cellsCA] using hcs
end Go.Proofs.YtblipdmagfiigaaGreat
namespace Go.Proofs.YtblipdmagfiigaaGreat
open Go.RowKit
set_option linter.unusedVariables false
set_option maxRecDepth 20000
def greatKB (ks : List KV) : Bool := decide (80 < ks.length ∨ ∃ k ∈ ks, 100 < k.2.size)
theorem greatK_any (a : Option Addr) (n cap : Nat) (ks : List KV) (w : World) (hh : HoldsK w a n ks) (hn : n ≤ 9223372036854775807) (hx : ∀ k ∈ ks, k.2.size ≤ 9223372036854775807) :
    Calls Tryz.prog 6 #[.slice a n cap] w fun e w' => e = .returned (.bool (greatKB ks)) ∧ w = w' := by
  have hl := hh.len
  obtain ⟨g, hg'⟩ : ∃ g, greatKB ks = g := ⟨_, rfl⟩
  have hg : g = true ↔ (80 < ks.length ∨ ∃ k ∈ ks, 100 < k.2.size) := by rw [← hg']; exact decide_eq_true_iff
  rw [hg']
  clear hg'
  have HG := Lib.hid hg; have HX := Lib.hid hx; have HH := Lib.hid hh
  clear hg hx hh
  by_cases h1 : 80 < n
  · have hgt : g = true := HG.out.2 (Or.inl (by omega))
    subst hgt
    have h2 : ¬ n ≤ 80 := by omega
    go_enter Tryz.func6, Tryz.ntmps6
    go_wp2_with fail
    go_loop [3] (fun c => c = .int .i64 0) (fun _ => 0)
    case atStart => exact rfl
    case round =>
      subst hrel
      go_wp2_with fail
      go_ret
      exact ⟨ret_bool (by simp <;> omega), rfl⟩
  have h2 : n ≤ 80 := by omega
  go_enter Tryz.func6, Tryz.ntmps6
  go_wp2_with fail
  go_loop [3] (fun c => ∃ i : Nat, i ≤ n ∧ c = .int .i64 i ∧ Hid (∀ j, j < i → (ks.getD j k0).2.size ≤ 100)) (fun c => n - (intOf c).toNat)
  case atStart => exact ⟨0, by omega, rfl, Lib.hid (by omega)⟩
  case round =>
    obtain ⟨i, hi, rfl, HA⟩ := hrel
    by_cases hin : i < n
    · obtain ⟨b, o, rfl, hc⟩ := HH.out.at (by omega)
      have hc2 := (hc i hin).2
      have hz := HX.out _ (getD_memK ks i (by omega))
      have hmem := getD_memK ks i (by omega)
      have HE := Lib.hid (fun h => HG.out.2 (Or.inr ⟨_, hmem, h⟩))
      have HAn := Lib.hid (fun (h : (ks.getD i k0).2.size ≤ 100) j (hj : j < i + 1) => show (ks.getD j k0).2.size ≤ 100 from (by
          by_cases e : j = i
          · subst e; exact h
          · exact HA.out j (by omega)))
      obtain ⟨x, hx⟩ : ∃ x, ks.getD i k0 = x := ⟨_, rfl⟩
      rw [hx] at hc2 hz HE HAn
      clear hc hx hmem
      obtain ⟨x1, x2⟩ := x
      simp only at hc2 hz HE HAn
      by_cases hs : 100 < x2.size
      · have hgt : g = true := HE.out hs
        subst hgt
        go_wp2_with fail
        go_ret
        exact ⟨rfl, rfl⟩
      · have HA2 := Lib.hid (HAn.out (by omega))
        go_wp2_with fail
        go_round
        case rel => exact ⟨i + 1, by omega, by go_num, HA2⟩
        case measure => simp [intOf]; omega
    · have hgf : g = false := by
        cases hg : g with
        | false => rfl
        | true =>
          rcases HG.out.1 hg with x | ⟨k, hk, x⟩
          · omega
          · obtain ⟨j, hj, rfl⟩ := List.getElem_of_mem hk
            have := HA.out j (by omega)
            simp [List.getD_eq_getElem?_getD, hj] at this
            omega
      subst hgf
      go_wp2_with fail
      go_ret
      exact ⟨ret_bool (by simp <;> omega), rfl⟩
end Go.Proofs.YtblipdmagfiigaaGreat
namespace Go.Proofs.YtblipdmagfiigaaGreat
open Go.ChangeShapes Go.WideShapes Go.ChangeAt Go.RowKit
set_option linter.unusedVariables false
set_option maxRecDepth 20000
set_option maxRecDepth 100000 in
set_option maxHeartbeats 3200000 in
theorem coordNone_any (x : CAct) (w : World) (hx : CActOk w x) : Calls Tryz.prog 3 #[.agg #[.int .i64 x.do_, .int .i64 x.i, .int .i64 x.j, .int .i64 x.x, .string x.qt, .int .i64 x.qk, .int .i64 x.qn, .int .i64 x.slot, .int .i64 x.query, .int .i64 x.shard, .int .i64 x.seq, .int .i64 x.worker, .int .i64 x.epoch, .slice x.ia x.n x.ic, .bool x.fin]] w fun e w' => e = .returned (.bool true) ∧ Below w.heap.size w w' := by
  obtain ⟨hq, hK, hz0, hz1, hz2, hko⟩ := hx
  have B1 := Lib.hid (below_one w (.cells #[.int .i64 x.do_, .int .i64 x.i, .int .i64 x.j, .int .i64 x.x, .string x.qt, .int .i64 x.qk, .int .i64 x.qn, .int .i64 x.slot, .int .i64 x.query, .int .i64 x.shard, .int .i64 x.seq, .int .i64 x.worker, .int .i64 x.epoch, .slice x.ia x.n x.ic, .bool x.fin] 28))
  obtain ⟨w1, hw1⟩ : ∃ w1, w.alloc (.cells #[.int .i64 x.do_, .int .i64 x.i, .int .i64 x.j, .int .i64 x.x, .string x.qt, .int .i64 x.qk, .int .i64 x.qn, .int .i64 x.slot, .int .i64 x.query, .int .i64 x.shard, .int .i64 x.seq, .int .i64 x.worker, .int .i64 x.epoch, .slice x.ia x.n x.ic, .bool x.fin] 28) = w1 := ⟨_, rfl⟩
  obtain ⟨p, hp⟩ : ∃ p, w.heap.size = p := ⟨_, rfl⟩
  have i0 : w1.cell? ⟨p, 0, none⟩ = some (.int .i64 x.do_) := by rw [← hw1, ← hp]; exact (cell_alloc (w := w) rfl).trans rfl
  have i1 : w1.cell? ⟨p, 1, none⟩ = some (.int .i64 x.i) := by rw [← hw1, ← hp]; exact (cell_alloc (w := w) rfl).trans rfl
  have i2 : w1.cell? ⟨p, 2, none⟩ = some (.int .i64 x.j) := by rw [← hw1, ← hp]; exact (cell_alloc (w := w) rfl).trans rfl
  have i3 : w1.cell? ⟨p, 3, none⟩ = some (.int .i64 x.x) := by rw [← hw1, ← hp]; exact (cell_alloc (w := w) rfl).trans rfl
  have i4 : w1.cell? ⟨p, 4, none⟩ = some (.string x.qt) := by rw [← hw1, ← hp]; exact (cell_alloc (w := w) rfl).trans rfl
  have i5 : w1.cell? ⟨p, 5, none⟩ = some (.int .i64 x.qk) := by rw [← hw1, ← hp]; exact (cell_alloc (w := w) rfl).trans rfl
  have i6 : w1.cell? ⟨p, 6, none⟩ = some (.int .i64 x.qn) := by rw [← hw1, ← hp]; exact (cell_alloc (w := w) rfl).trans rfl
  have i7 : w1.cell? ⟨p, 7, none⟩ = some (.int .i64 x.slot) := by rw [← hw1, ← hp]; exact (cell_alloc (w := w) rfl).trans rfl
  have i8 : w1.cell? ⟨p, 8, none⟩ = some (.int .i64 x.query) := by rw [← hw1, ← hp]; exact (cell_alloc (w := w) rfl).trans rfl
  have i9 : w1.cell? ⟨p, 9, none⟩ = some (.int .i64 x.shard) := by rw [← hw1, ← hp]; exact (cell_alloc (w := w) rfl).trans rfl
  have i10 : w1.cell? ⟨p, 10, none⟩ = some (.int .i64 x.seq) := by rw [← hw1, ← hp]; exact (cell_alloc (w := w) rfl).trans rfl
  have i11 : w1.cell? ⟨p, 11, none⟩ = some (.int .i64 x.worker) := by rw [← hw1, ← hp]; exact (cell_alloc (w := w) rfl).trans rfl
  have i12 : w1.cell? ⟨p, 12, none⟩ = some (.int .i64 x.epoch) := by rw [← hw1, ← hp]; exact (cell_alloc (w := w) rfl).trans rfl
  have i13 : w1.cell? ⟨p, 13, none⟩ = some (.slice x.ia x.n x.ic) := by rw [← hw1, ← hp]; exact (cell_alloc (w := w) rfl).trans rfl
  have i14 : w1.cell? ⟨p, 14, none⟩ = some (.bool x.fin) := by rw [← hw1, ← hp]; exact (cell_alloc (w := w) rfl).trans rfl
  rw [hw1] at B1
  have GK := Lib.hid (greatK_any x.ia x.n x.ic x.items w1 (hK.below B1.out) hz2 (fun k hk => (hko k hk).2))
  have HP := Lib.hid hp
  have HW := Lib.hid hw1
  have hqs : (x.qt.size : Int) ≤ 9223372036854775807 := by omega
  clear hp hw1 hq hK hz0 hz1 hz2 hko
  by_cases h : (100 : Int) < (x.qt.size : Int)
  · go_enter Tryz.func3, Tryz.ntmps3
    go_upto_region 1 with fail
    try rw [HW.out]
    try rw [HP.out]
    go_wp2_with (first | (go_at_call 6; (with_reducible refine (GK.out).mono ?_); rintro e w9 ⟨rfl, rfl⟩) | (go_at_call 7; (with_reducible refine (awake24_any _).mono ?_); rintro e wH ⟨rfl, hbH⟩; have BH := Lib.hid hbH; clear hbH) | (go_at_call 8; (with_reducible refine (cSubmit_nil _ _ _ _).mono ?_); rintro e w2 ⟨rfl, hb2⟩; have B2 := Lib.hid hb2; have i1 := (hb2.cell (p := ⟨p, 1, none⟩) (lt_of_cell i1)).trans i1; have i3 := (hb2.cell (p := ⟨p, 3, none⟩) (lt_of_cell i3)).trans i3; have i7 := (hb2.cell (p := ⟨p, 7, none⟩) (lt_of_cell i7)).trans i7; have i8 := (hb2.cell (p := ⟨p, 8, none⟩) (lt_of_cell i8)).trans i8; have i9 := (hb2.cell (p := ⟨p, 9, none⟩) (lt_of_cell i9)).trans i9; have i10 := (hb2.cell (p := ⟨p, 10, none⟩) (lt_of_cell i10)).trans i10; have i11 := (hb2.cell (p := ⟨p, 11, none⟩) (lt_of_cell i11)).trans i11; have i12 := (hb2.cell (p := ⟨p, 12, none⟩) (lt_of_cell i12)).trans i12; have i13 := (hb2.cell (p := ⟨p, 13, none⟩) (lt_of_cell i13)).trans i13; have i14 := (hb2.cell (p := ⟨p, 14, none⟩) (lt_of_cell i14)).trans i14; clear hb2) | (go_at_call 9; (with_reducible refine (cCancel_nil _ _).mono ?_); rintro e w9 ⟨rfl, rfl⟩) | (go_at_call 10; (with_reducible refine (cTold_nil _ _).mono ?_); rintro e w3 ⟨rfl, hb3⟩; have B3 := Lib.hid hb3; have i1 := (hb3.cell (p := ⟨p, 1, none⟩) (lt_of_cell i1)).trans i1; have i3 := (hb3.cell (p := ⟨p, 3, none⟩) (lt_of_cell i3)).trans i3; have i7 := (hb3.cell (p := ⟨p, 7, none⟩) (lt_of_cell i7)).trans i7; have i8 := (hb3.cell (p := ⟨p, 8, none⟩) (lt_of_cell i8)).trans i8; have i9 := (hb3.cell (p := ⟨p, 9, none⟩) (lt_of_cell i9)).trans i9; have i10 := (hb3.cell (p := ⟨p, 10, none⟩) (lt_of_cell i10)).trans i10; have i11 := (hb3.cell (p := ⟨p, 11, none⟩) (lt_of_cell i11)).trans i11; have i12 := (hb3.cell (p := ⟨p, 12, none⟩) (lt_of_cell i12)).trans i12; have i13 := (hb3.cell (p := ⟨p, 13, none⟩) (lt_of_cell i13)).trans i13; have i14 := (hb3.cell (p := ⟨p, 14, none⟩) (lt_of_cell i14)).trans i14; clear hb3) | (go_at_call 11; (with_reducible refine (cTick_nil _).mono ?_); rintro e w9 ⟨rfl, rfl⟩) | (go_at_call 12; (with_reducible refine (sameTold0 _).mono ?_); rintro e w4 ⟨rfl, hb4⟩; have B4 := Lib.hid hb4; have i1 := (hb4.cell (p := ⟨p, 1, none⟩) (lt_of_cell i1)).trans i1; have i3 := (hb4.cell (p := ⟨p, 3, none⟩) (lt_of_cell i3)).trans i3; have i7 := (hb4.cell (p := ⟨p, 7, none⟩) (lt_of_cell i7)).trans i7; have i8 := (hb4.cell (p := ⟨p, 8, none⟩) (lt_of_cell i8)).trans i8; have i9 := (hb4.cell (p := ⟨p, 9, none⟩) (lt_of_cell i9)).trans i9; have i10 := (hb4.cell (p := ⟨p, 10, none⟩) (lt_of_cell i10)).trans i10; have i11 := (hb4.cell (p := ⟨p, 11, none⟩) (lt_of_cell i11)).trans i11; have i12 := (hb4.cell (p := ⟨p, 12, none⟩) (lt_of_cell i12)).trans i12; have i13 := (hb4.cell (p := ⟨p, 13, none⟩) (lt_of_cell i13)).trans i13; have i14 := (hb4.cell (p := ⟨p, 14, none⟩) (lt_of_cell i14)).trans i14; clear hb4) | (go_at_call 13; (with_reducible refine (cNow_nil _).mono ?_); rintro e w9 ⟨rfl, rfl⟩) | (go_at_call 14; (with_reducible refine (cTake_nil _ _ _).mono ?_); rintro e w9 ⟨rfl, rfl⟩) | (go_at_call 15; (with_reducible refine (cWake_nil _ _).mono ?_); rintro e w9 ⟨rfl, rfl⟩) | (go_at_call 16; (with_reducible refine (cAll_nil _).mono ?_); rintro e w9 ⟨rfl, rfl⟩) | (go_at_call 17; (with_reducible refine (cTimers_nil _).mono ?_); rintro e w9 ⟨rfl, rfl⟩) | (go_at_call 18; (with_reducible refine (cEpoch_nil _ _).mono ?_); rintro e w9 ⟨rfl, rfl⟩) | fail)
    go_ret
    exact ⟨rfl, B1.out.trans (BH.out.mono B1.out.size)⟩
  obtain ⟨g, hg⟩ : ∃ g, greatKB x.items = g := ⟨_, rfl⟩
  rw [hg] at GK
  clear hg
  cases g with
  | true =>
    go_enter Tryz.func3, Tryz.ntmps3
    go_upto_region 1 with fail
    try rw [HW.out]
    try rw [HP.out]
    go_wp2_with (first | (go_at_call 6; (with_reducible refine (GK.out).mono ?_); rintro e w9 ⟨rfl, rfl⟩) | (go_at_call 7; (with_reducible refine (awake24_any _).mono ?_); rintro e wH ⟨rfl, hbH⟩; have BH := Lib.hid hbH; clear hbH) | (go_at_call 8; (with_reducible refine (cSubmit_nil _ _ _ _).mono ?_); rintro e w2 ⟨rfl, hb2⟩; have B2 := Lib.hid hb2; have i1 := (hb2.cell (p := ⟨p, 1, none⟩) (lt_of_cell i1)).trans i1; have i3 := (hb2.cell (p := ⟨p, 3, none⟩) (lt_of_cell i3)).trans i3; have i7 := (hb2.cell (p := ⟨p, 7, none⟩) (lt_of_cell i7)).trans i7; have i8 := (hb2.cell (p := ⟨p, 8, none⟩) (lt_of_cell i8)).trans i8; have i9 := (hb2.cell (p := ⟨p, 9, none⟩) (lt_of_cell i9)).trans i9; have i10 := (hb2.cell (p := ⟨p, 10, none⟩) (lt_of_cell i10)).trans i10; have i11 := (hb2.cell (p := ⟨p, 11, none⟩) (lt_of_cell i11)).trans i11; have i12 := (hb2.cell (p := ⟨p, 12, none⟩) (lt_of_cell i12)).trans i12; have i13 := (hb2.cell (p := ⟨p, 13, none⟩) (lt_of_cell i13)).trans i13; have i14 := (hb2.cell (p := ⟨p, 14, none⟩) (lt_of_cell i14)).trans i14; clear hb2) | (go_at_call 9; (with_reducible refine (cCancel_nil _ _).mono ?_); rintro e w9 ⟨rfl, rfl⟩) | (go_at_call 10; (with_reducible refine (cTold_nil _ _).mono ?_); rintro e w3 ⟨rfl, hb3⟩; have B3 := Lib.hid hb3; have i1 := (hb3.cell (p := ⟨p, 1, none⟩) (lt_of_cell i1)).trans i1; have i3 := (hb3.cell (p := ⟨p, 3, none⟩) (lt_of_cell i3)).trans i3; have i7 := (hb3.cell (p := ⟨p, 7, none⟩) (lt_of_cell i7)).trans i7; have i8 := (hb3.cell (p := ⟨p, 8, none⟩) (lt_of_cell i8)).trans i8; have i9 := (hb3.cell (p := ⟨p, 9, none⟩) (lt_of_cell i9)).trans i9; have i10 := (hb3.cell (p := ⟨p, 10, none⟩) (lt_of_cell i10)).trans i10; have i11 := (hb3.cell (p := ⟨p, 11, none⟩) (lt_of_cell i11)).trans i11; have i12 := (hb3.cell (p := ⟨p, 12, none⟩) (lt_of_cell i12)).trans i12; have i13 := (hb3.cell (p := ⟨p, 13, none⟩) (lt_of_cell i13)).trans i13; have i14 := (hb3.cell (p := ⟨p, 14, none⟩) (lt_of_cell i14)).trans i14; clear hb3) | (go_at_call 11; (with_reducible refine (cTick_nil _).mono ?_); rintro e w9 ⟨rfl, rfl⟩) | (go_at_call 12; (with_reducible refine (sameTold0 _).mono ?_); rintro e w4 ⟨rfl, hb4⟩; have B4 := Lib.hid hb4; have i1 := (hb4.cell (p := ⟨p, 1, none⟩) (lt_of_cell i1)).trans i1; have i3 := (hb4.cell (p := ⟨p, 3, none⟩) (lt_of_cell i3)).trans i3; have i7 := (hb4.cell (p := ⟨p, 7, none⟩) (lt_of_cell i7)).trans i7; have i8 := (hb4.cell (p := ⟨p, 8, none⟩) (lt_of_cell i8)).trans i8; have i9 := (hb4.cell (p := ⟨p, 9, none⟩) (lt_of_cell i9)).trans i9; have i10 := (hb4.cell (p := ⟨p, 10, none⟩) (lt_of_cell i10)).trans i10; have i11 := (hb4.cell (p := ⟨p, 11, none⟩) (lt_of_cell i11)).trans i11; have i12 := (hb4.cell (p := ⟨p, 12, none⟩) (lt_of_cell i12)).trans i12; have i13 := (hb4.cell (p := ⟨p, 13, none⟩) (lt_of_cell i13)).trans i13; have i14 := (hb4.cell (p := ⟨p, 14, none⟩) (lt_of_cell i14)).trans i14; clear hb4) | (go_at_call 13; (with_reducible refine (cNow_nil _).mono ?_); rintro e w9 ⟨rfl, rfl⟩) | (go_at_call 14; (with_reducible refine (cTake_nil _ _ _).mono ?_); rintro e w9 ⟨rfl, rfl⟩) | (go_at_call 15; (with_reducible refine (cWake_nil _ _).mono ?_); rintro e w9 ⟨rfl, rfl⟩) | (go_at_call 16; (with_reducible refine (cAll_nil _).mono ?_); rintro e w9 ⟨rfl, rfl⟩) | (go_at_call 17; (with_reducible refine (cTimers_nil _).mono ?_); rintro e w9 ⟨rfl, rfl⟩) | (go_at_call 18; (with_reducible refine (cEpoch_nil _ _).mono ?_); rintro e w9 ⟨rfl, rfl⟩) | fail)
    go_ret
    exact ⟨rfl, B1.out.trans (BH.out.mono B1.out.size)⟩
  | false =>
    go_enter Tryz.func3, Tryz.ntmps3
    go_upto_region 1 with fail
    try rw [HW.out]
    try rw [HP.out]
    go_upto_region 7 with (first | (go_at_call 6; (with_reducible refine (GK.out).mono ?_); rintro e w9 ⟨rfl, rfl⟩) | (go_at_call 7; (with_reducible refine (awake24_any _).mono ?_); rintro e wH ⟨rfl, hbH⟩; have BH := Lib.hid hbH; clear hbH) | (go_at_call 8; (with_reducible refine (cSubmit_nil _ _ _ _).mono ?_); rintro e w2 ⟨rfl, hb2⟩; have B2 := Lib.hid hb2; have i1 := (hb2.cell (p := ⟨p, 1, none⟩) (lt_of_cell i1)).trans i1; have i3 := (hb2.cell (p := ⟨p, 3, none⟩) (lt_of_cell i3)).trans i3; have i7 := (hb2.cell (p := ⟨p, 7, none⟩) (lt_of_cell i7)).trans i7; have i8 := (hb2.cell (p := ⟨p, 8, none⟩) (lt_of_cell i8)).trans i8; have i9 := (hb2.cell (p := ⟨p, 9, none⟩) (lt_of_cell i9)).trans i9; have i10 := (hb2.cell (p := ⟨p, 10, none⟩) (lt_of_cell i10)).trans i10; have i11 := (hb2.cell (p := ⟨p, 11, none⟩) (lt_of_cell i11)).trans i11; have i12 := (hb2.cell (p := ⟨p, 12, none⟩) (lt_of_cell i12)).trans i12; have i13 := (hb2.cell (p := ⟨p, 13, none⟩) (lt_of_cell i13)).trans i13; have i14 := (hb2.cell (p := ⟨p, 14, none⟩) (lt_of_cell i14)).trans i14; clear hb2) | (go_at_call 9; (with_reducible refine (cCancel_nil _ _).mono ?_); rintro e w9 ⟨rfl, rfl⟩) | (go_at_call 10; (with_reducible refine (cTold_nil _ _).mono ?_); rintro e w3 ⟨rfl, hb3⟩; have B3 := Lib.hid hb3; have i1 := (hb3.cell (p := ⟨p, 1, none⟩) (lt_of_cell i1)).trans i1; have i3 := (hb3.cell (p := ⟨p, 3, none⟩) (lt_of_cell i3)).trans i3; have i7 := (hb3.cell (p := ⟨p, 7, none⟩) (lt_of_cell i7)).trans i7; have i8 := (hb3.cell (p := ⟨p, 8, none⟩) (lt_of_cell i8)).trans i8; have i9 := (hb3.cell (p := ⟨p, 9, none⟩) (lt_of_cell i9)).trans i9; have i10 := (hb3.cell (p := ⟨p, 10, none⟩) (lt_of_cell i10)).trans i10; have i11 := (hb3.cell (p := ⟨p, 11, none⟩) (lt_of_cell i11)).trans i11; have i12 := (hb3.cell (p := ⟨p, 12, none⟩) (lt_of_cell i12)).trans i12; have i13 := (hb3.cell (p := ⟨p, 13, none⟩) (lt_of_cell i13)).trans i13; have i14 := (hb3.cell (p := ⟨p, 14, none⟩) (lt_of_cell i14)).trans i14; clear hb3) | (go_at_call 11; (with_reducible refine (cTick_nil _).mono ?_); rintro e w9 ⟨rfl, rfl⟩) | (go_at_call 12; (with_reducible refine (sameTold0 _).mono ?_); rintro e w4 ⟨rfl, hb4⟩; have B4 := Lib.hid hb4; have i1 := (hb4.cell (p := ⟨p, 1, none⟩) (lt_of_cell i1)).trans i1; have i3 := (hb4.cell (p := ⟨p, 3, none⟩) (lt_of_cell i3)).trans i3; have i7 := (hb4.cell (p := ⟨p, 7, none⟩) (lt_of_cell i7)).trans i7; have i8 := (hb4.cell (p := ⟨p, 8, none⟩) (lt_of_cell i8)).trans i8; have i9 := (hb4.cell (p := ⟨p, 9, none⟩) (lt_of_cell i9)).trans i9; have i10 := (hb4.cell (p := ⟨p, 10, none⟩) (lt_of_cell i10)).trans i10; have i11 := (hb4.cell (p := ⟨p, 11, none⟩) (lt_of_cell i11)).trans i11; have i12 := (hb4.cell (p := ⟨p, 12, none⟩) (lt_of_cell i12)).trans i12; have i13 := (hb4.cell (p := ⟨p, 13, none⟩) (lt_of_cell i13)).trans i13; have i14 := (hb4.cell (p := ⟨p, 14, none⟩) (lt_of_cell i14)).trans i14; clear hb4) | (go_at_call 13; (with_reducible refine (cNow_nil _).mono ?_); rintro e w9 ⟨rfl, rfl⟩) | (go_at_call 14; (with_reducible refine (cTake_nil _ _ _).mono ?_); rintro e w9 ⟨rfl, rfl⟩) | (go_at_call 15; (with_reducible refine (cWake_nil _ _).mono ?_); rintro e w9 ⟨rfl, rfl⟩) | (go_at_call 16; (with_reducible refine (cAll_nil _).mono ?_); rintro e w9 ⟨rfl, rfl⟩) | (go_at_call 17; (with_reducible refine (cTimers_nil _).mono ?_); rintro e w9 ⟨rfl, rfl⟩) | (go_at_call 18; (with_reducible refine (cEpoch_nil _ _).mono ?_); rintro e w9 ⟨rfl, rfl⟩) | fail)
    obtain ⟨q, hq⟩ : ∃ q, w3.heap.size = q := ⟨_, rfl⟩
    have hb5 := below_one w3 (.cells #[.int .i64 0, .string { data := #[] }, .int .i64 0, .int .i64 0, .slice none 0 0, .bool false, .bool false] 39)
    have B5 := Lib.hid hb5
    have i1 := (hb5.cell (p := ⟨p, 1, none⟩) (lt_of_cell i1)).trans i1
    have i3 := (hb5.cell (p := ⟨p, 3, none⟩) (lt_of_cell i3)).trans i3
    have i7 := (hb5.cell (p := ⟨p, 7, none⟩) (lt_of_cell i7)).trans i7
    have i8 := (hb5.cell (p := ⟨p, 8, none⟩) (lt_of_cell i8)).trans i8
    have i9 := (hb5.cell (p := ⟨p, 9, none⟩) (lt_of_cell i9)).trans i9
    have i10 := (hb5.cell (p := ⟨p, 10, none⟩) (lt_of_cell i10)).trans i10
    have i11 := (hb5.cell (p := ⟨p, 11, none⟩) (lt_of_cell i11)).trans i11
    have i12 := (hb5.cell (p := ⟨p, 12, none⟩) (lt_of_cell i12)).trans i12
    have i13 := (hb5.cell (p := ⟨p, 13, none⟩) (lt_of_cell i13)).trans i13
    have i14 := (hb5.cell (p := ⟨p, 14, none⟩) (lt_of_cell i14)).trans i14
    clear hb5
    have t0 : (w3.alloc (.cells #[.int .i64 0, .string { data := #[] }, .int .i64 0, .int .i64 0, .slice none 0 0, .bool false, .bool false] 39)).cell? ⟨q, 0, none⟩ = some (.int .i64 0) := by rw [← hq]; exact (cell_alloc (w := w3) rfl).trans rfl
    have t1 : (w3.alloc (.cells #[.int .i64 0, .string { data := #[] }, .int .i64 0, .int .i64 0, .slice none 0 0, .bool false, .bool false] 39)).cell? ⟨q, 1, none⟩ = some (.string { data := #[] }) := by rw [← hq]; exact (cell_alloc (w := w3) rfl).trans rfl
    have t2 : (w3.alloc (.cells #[.int .i64 0, .string { data := #[] }, .int .i64 0, .int .i64 0, .slice none 0 0, .bool false, .bool false] 39)).cell? ⟨q, 2, none⟩ = some (.int .i64 0) := by rw [← hq]; exact (cell_alloc (w := w3) rfl).trans rfl
    have t3 : (w3.alloc (.cells #[.int .i64 0, .string { data := #[] }, .int .i64 0, .int .i64 0, .slice none 0 0, .bool false, .bool false] 39)).cell? ⟨q, 3, none⟩ = some (.int .i64 0) := by rw [← hq]; exact (cell_alloc (w := w3) rfl).trans rfl
    have t4 : (w3.alloc (.cells #[.int .i64 0, .string { data := #[] }, .int .i64 0, .int .i64 0, .slice none 0 0, .bool false, .bool false] 39)).cell? ⟨q, 4, none⟩ = some (.slice none 0 0) := by rw [← hq]; exact (cell_alloc (w := w3) rfl).trans rfl
    have t5 : (w3.alloc (.cells #[.int .i64 0, .string { data := #[] }, .int .i64 0, .int .i64 0, .slice none 0 0, .bool false, .bool false] 39)).cell? ⟨q, 5, none⟩ = some (.bool false) := by rw [← hq]; exact (cell_alloc (w := w3) rfl).trans rfl
    have t6 : (w3.alloc (.cells #[.int .i64 0, .string { data := #[] }, .int .i64 0, .int .i64 0, .slice none 0 0, .bool false, .bool false] 39)).cell? ⟨q, 6, none⟩ = some (.bool false) := by rw [← hq]; exact (cell_alloc (w := w3) rfl).trans rfl
    rw [hq]
    generalize w3.alloc (.cells #[.int .i64 0, .string { data := #[] }, .int .i64 0, .int .i64 0, .slice none 0 0, .bool false, .bool false] 39) = w5 at *
    clear hq
    go_upto_region 8 with (first | (go_at_call 6; (with_reducible refine (GK.out).mono ?_); rintro e w9 ⟨rfl, rfl⟩) | (go_at_call 7; (with_reducible refine (awake24_any _).mono ?_); rintro e wH ⟨rfl, hbH⟩; have BH := Lib.hid hbH; clear hbH) | (go_at_call 8; (with_reducible refine (cSubmit_nil _ _ _ _).mono ?_); rintro e w2 ⟨rfl, hb2⟩; have B2 := Lib.hid hb2; have i1 := (hb2.cell (p := ⟨p, 1, none⟩) (lt_of_cell i1)).trans i1; have i3 := (hb2.cell (p := ⟨p, 3, none⟩) (lt_of_cell i3)).trans i3; have i7 := (hb2.cell (p := ⟨p, 7, none⟩) (lt_of_cell i7)).trans i7; have i8 := (hb2.cell (p := ⟨p, 8, none⟩) (lt_of_cell i8)).trans i8; have i9 := (hb2.cell (p := ⟨p, 9, none⟩) (lt_of_cell i9)).trans i9; have i10 := (hb2.cell (p := ⟨p, 10, none⟩) (lt_of_cell i10)).trans i10; have i11 := (hb2.cell (p := ⟨p, 11, none⟩) (lt_of_cell i11)).trans i11; have i12 := (hb2.cell (p := ⟨p, 12, none⟩) (lt_of_cell i12)).trans i12; have i13 := (hb2.cell (p := ⟨p, 13, none⟩) (lt_of_cell i13)).trans i13; have i14 := (hb2.cell (p := ⟨p, 14, none⟩) (lt_of_cell i14)).trans i14; clear hb2) | (go_at_call 9; (with_reducible refine (cCancel_nil _ _).mono ?_); rintro e w9 ⟨rfl, rfl⟩) | (go_at_call 10; (with_reducible refine (cTold_nil _ _).mono ?_); rintro e w3 ⟨rfl, hb3⟩; have B3 := Lib.hid hb3; have i1 := (hb3.cell (p := ⟨p, 1, none⟩) (lt_of_cell i1)).trans i1; have i3 := (hb3.cell (p := ⟨p, 3, none⟩) (lt_of_cell i3)).trans i3; have i7 := (hb3.cell (p := ⟨p, 7, none⟩) (lt_of_cell i7)).trans i7; have i8 := (hb3.cell (p := ⟨p, 8, none⟩) (lt_of_cell i8)).trans i8; have i9 := (hb3.cell (p := ⟨p, 9, none⟩) (lt_of_cell i9)).trans i9; have i10 := (hb3.cell (p := ⟨p, 10, none⟩) (lt_of_cell i10)).trans i10; have i11 := (hb3.cell (p := ⟨p, 11, none⟩) (lt_of_cell i11)).trans i11; have i12 := (hb3.cell (p := ⟨p, 12, none⟩) (lt_of_cell i12)).trans i12; have i13 := (hb3.cell (p := ⟨p, 13, none⟩) (lt_of_cell i13)).trans i13; have i14 := (hb3.cell (p := ⟨p, 14, none⟩) (lt_of_cell i14)).trans i14; clear hb3) | (go_at_call 11; (with_reducible refine (cTick_nil _).mono ?_); rintro e w9 ⟨rfl, rfl⟩) | (go_at_call 12; (with_reducible refine (sameTold0 _).mono ?_); rintro e w4 ⟨rfl, hb4⟩; have B4 := Lib.hid hb4; have i1 := (hb4.cell (p := ⟨p, 1, none⟩) (lt_of_cell i1)).trans i1; have i3 := (hb4.cell (p := ⟨p, 3, none⟩) (lt_of_cell i3)).trans i3; have i7 := (hb4.cell (p := ⟨p, 7, none⟩) (lt_of_cell i7)).trans i7; have i8 := (hb4.cell (p := ⟨p, 8, none⟩) (lt_of_cell i8)).trans i8; have i9 := (hb4.cell (p := ⟨p, 9, none⟩) (lt_of_cell i9)).trans i9; have i10 := (hb4.cell (p := ⟨p, 10, none⟩) (lt_of_cell i10)).trans i10; have i11 := (hb4.cell (p := ⟨p, 11, none⟩) (lt_of_cell i11)).trans i11; have i12 := (hb4.cell (p := ⟨p, 12, none⟩) (lt_of_cell i12)).trans i12; have i13 := (hb4.cell (p := ⟨p, 13, none⟩) (lt_of_cell i13)).trans i13; have i14 := (hb4.cell (p := ⟨p, 14, none⟩) (lt_of_cell i14)).trans i14; clear hb4) | (go_at_call 13; (with_reducible refine (cNow_nil _).mono ?_); rintro e w9 ⟨rfl, rfl⟩) | (go_at_call 14; (with_reducible refine (cTake_nil _ _ _).mono ?_); rintro e w9 ⟨rfl, rfl⟩) | (go_at_call 15; (with_reducible refine (cWake_nil _ _).mono ?_); rintro e w9 ⟨rfl, rfl⟩) | (go_at_call 16; (with_reducible refine (cAll_nil _).mono ?_); rintro e w9 ⟨rfl, rfl⟩) | (go_at_call 17; (with_reducible refine (cTimers_nil _).mono ?_); rintro e w9 ⟨rfl, rfl⟩) | (go_at_call 18; (with_reducible refine (cEpoch_nil _ _).mono ?_); rintro e w9 ⟨rfl, rfl⟩) | fail)
    go_wp2_with (first | (go_at_call 6; (with_reducible refine (GK.out).mono ?_); rintro e w9 ⟨rfl, rfl⟩) | (go_at_call 7; (with_reducible refine (awake24_any _).mono ?_); rintro e wH ⟨rfl, hbH⟩; have BH := Lib.hid hbH; clear hbH) | (go_at_call 8; (with_reducible refine (cSubmit_nil _ _ _ _).mono ?_); rintro e w2 ⟨rfl, hb2⟩; have B2 := Lib.hid hb2; have i1 := (hb2.cell (p := ⟨p, 1, none⟩) (lt_of_cell i1)).trans i1; have i3 := (hb2.cell (p := ⟨p, 3, none⟩) (lt_of_cell i3)).trans i3; have i7 := (hb2.cell (p := ⟨p, 7, none⟩) (lt_of_cell i7)).trans i7; have i8 := (hb2.cell (p := ⟨p, 8, none⟩) (lt_of_cell i8)).trans i8; have i9 := (hb2.cell (p := ⟨p, 9, none⟩) (lt_of_cell i9)).trans i9; have i10 := (hb2.cell (p := ⟨p, 10, none⟩) (lt_of_cell i10)).trans i10; have i11 := (hb2.cell (p := ⟨p, 11, none⟩) (lt_of_cell i11)).trans i11; have i12 := (hb2.cell (p := ⟨p, 12, none⟩) (lt_of_cell i12)).trans i12; have i13 := (hb2.cell (p := ⟨p, 13, none⟩) (lt_of_cell i13)).trans i13; have i14 := (hb2.cell (p := ⟨p, 14, none⟩) (lt_of_cell i14)).trans i14; clear hb2) | (go_at_call 9; (with_reducible refine (cCancel_nil _ _).mono ?_); rintro e w9 ⟨rfl, rfl⟩) | (go_at_call 10; (with_reducible refine (cTold_nil _ _).mono ?_); rintro e w3 ⟨rfl, hb3⟩; have B3 := Lib.hid hb3; have i1 := (hb3.cell (p := ⟨p, 1, none⟩) (lt_of_cell i1)).trans i1; have i3 := (hb3.cell (p := ⟨p, 3, none⟩) (lt_of_cell i3)).trans i3; have i7 := (hb3.cell (p := ⟨p, 7, none⟩) (lt_of_cell i7)).trans i7; have i8 := (hb3.cell (p := ⟨p, 8, none⟩) (lt_of_cell i8)).trans i8; have i9 := (hb3.cell (p := ⟨p, 9, none⟩) (lt_of_cell i9)).trans i9; have i10 := (hb3.cell (p := ⟨p, 10, none⟩) (lt_of_cell i10)).trans i10; have i11 := (hb3.cell (p := ⟨p, 11, none⟩) (lt_of_cell i11)).trans i11; have i12 := (hb3.cell (p := ⟨p, 12, none⟩) (lt_of_cell i12)).trans i12; have i13 := (hb3.cell (p := ⟨p, 13, none⟩) (lt_of_cell i13)).trans i13; have i14 := (hb3.cell (p := ⟨p, 14, none⟩) (lt_of_cell i14)).trans i14; clear hb3) | (go_at_call 11; (with_reducible refine (cTick_nil _).mono ?_); rintro e w9 ⟨rfl, rfl⟩) | (go_at_call 12; (with_reducible refine (sameTold0 _).mono ?_); rintro e w4 ⟨rfl, hb4⟩; have B4 := Lib.hid hb4; have i1 := (hb4.cell (p := ⟨p, 1, none⟩) (lt_of_cell i1)).trans i1; have i3 := (hb4.cell (p := ⟨p, 3, none⟩) (lt_of_cell i3)).trans i3; have i7 := (hb4.cell (p := ⟨p, 7, none⟩) (lt_of_cell i7)).trans i7; have i8 := (hb4.cell (p := ⟨p, 8, none⟩) (lt_of_cell i8)).trans i8; have i9 := (hb4.cell (p := ⟨p, 9, none⟩) (lt_of_cell i9)).trans i9; have i10 := (hb4.cell (p := ⟨p, 10, none⟩) (lt_of_cell i10)).trans i10; have i11 := (hb4.cell (p := ⟨p, 11, none⟩) (lt_of_cell i11)).trans i11; have i12 := (hb4.cell (p := ⟨p, 12, none⟩) (lt_of_cell i12)).trans i12; have i13 := (hb4.cell (p := ⟨p, 13, none⟩) (lt_of_cell i13)).trans i13; have i14 := (hb4.cell (p := ⟨p, 14, none⟩) (lt_of_cell i14)).trans i14; clear hb4) | (go_at_call 13; (with_reducible refine (cNow_nil _).mono ?_); rintro e w9 ⟨rfl, rfl⟩) | (go_at_call 14; (with_reducible refine (cTake_nil _ _ _).mono ?_); rintro e w9 ⟨rfl, rfl⟩) | (go_at_call 15; (with_reducible refine (cWake_nil _ _).mono ?_); rintro e w9 ⟨rfl, rfl⟩) | (go_at_call 16; (with_reducible refine (cAll_nil _).mono ?_); rintro e w9 ⟨rfl, rfl⟩) | (go_at_call 17; (with_reducible refine (cTimers_nil _).mono ?_); rintro e w9 ⟨rfl, rfl⟩) | (go_at_call 18; (with_reducible refine (cEpoch_nil _ _).mono ?_); rintro e w9 ⟨rfl, rfl⟩) | fail)
    go_ret
    exact ⟨rfl, ((((B1.out.trans (B2.out.mono B1.out.size)).trans (B3.out.mono (Nat.le_trans B1.out.size B2.out.size))).trans (B5.out.mono (Nat.le_trans B1.out.size (Nat.le_trans B2.out.size B3.out.size)))).trans (B4.out.mono (Nat.le_trans B1.out.size (Nat.le_trans B2.out.size (Nat.le_trans B3.out.size B5.out.size))))).trans (BH.out.mono (Nat.le_trans B1.out.size (Nat.le_trans B2.out.size (Nat.le_trans B3.out.size (Nat.le_trans B5.out.size B4.out.size)))))⟩
theorem coordNone_walk {H : Type} {enc : TypeId × Value → H} (W : World) (base : Nat) (v0 : Value) (d0 : DataW H) (p0 : List MemPlace)
    (h0 : DataW.Trod enc Tryz.prog W 0 (fun _ => true) true 28 v0 d0 p0) (o0 : Value.okWide Tryz.prog W .any base 28 v0) :
    Calls Tryz.prog 3 #[v0] W fun e w' => e = .returned (.bool true) ∧ RowKit.Below W.heap.size W w' := by
  obtain ⟨x, hx, rfl⟩ := open_cact o0 h0
  exact coordNone_any x W hx
end Go.Proofs.YtblipdmagfiigaaGreat
