/- texts joined -/
import Derived.WalkKit
import Derived.ProofKit
import Derived.OpenShut
import Derived.Lib.SmallJoins
import Derived.Lib.Hide
import Derived.Test.YtgnaiahnednllaaGreatChecked
import Derived.Maps.OwnSet
import Derived.WalkArith
import Derived.Carry
import Derived.OwnWalk
import Derived.Laws.AppendOwnNone
import Derived.Lib.SliceRun
import Derived.Deep.RegionLaw
import Derived.Outline
import Derived.WalkLawsBesides
import Derived.WalkSpells
import Derived.Deep.QuietTactic
import Derived.BigQuiet
import Derived.Deep.DeepCutAuto
import Derived.Deep.RegionHeld3
import Derived.Deep.AppendLies
import Derived.Laws.ResultCell
import Derived.Laws.BitsAllLaws
import Derived.Laws.DeepBits32
import Derived.Sort.Walk0
import Derived.Laws.RangeAny
import Derived.Lib.DecodeN
import Derived.Lib.OthersKept
import Derived.Deep.Slices
import Derived.SliceStrings
import Derived.Deep.RegionWith
import Derived.Laws.AppendOwn
import Derived.StringKeys
namespace Go.Proofs.YtgnaiahnednllaaGreat
open Go.ChangeShapes Go.WideShapes Go.ChangeAt Go.RowKit
set_option linter.unusedVariables false
set_option maxRecDepth 20000
theorem ret_int {k : IntKind} {a b : Int} (h : a = b) : Ending.returned (.int k a) = .returned (.int k b) := by rw [h]
theorem ret_bool {a b : Bool} (h : a = b) : Ending.returned (.bool a) = .returned (.bool b) := by rw [h]
theorem below_one (w : World) (o : Obj) : Below w.heap.size w (w.alloc o) := (Below.refl _ _).alloc (Nat.le_refl _) o
theorem below_drewN (w : World) (n : Nat) : Below w.heap.size w (w.drewN n) := Joins.below_draws _ _ _
/-- The slice at a of n elements of the kind k holds the numbers zs. (Of a slice of no elements nothing is said of its address.) -/
def HoldsI (k : IntKind) (w : World) (a : Option Addr) (n : Nat) (zs : List Int) : Prop :=
  zs.length = n ∧ (0 < n → ∃ b o, a = some ⟨b, o, none⟩ ∧ ∀ i, i < n → w.cell? ⟨b, o + i, none⟩ = some (.int k (zs.getD i 0)))
theorem HoldsI.len {k : IntKind} {w : World} {a : Option Addr} {n : Nat} {zs : List Int} (h : HoldsI k w a n zs) : zs.length = n := h.1
theorem HoldsI.at {k : IntKind} {w : World} {a : Option Addr} {n : Nat} {zs : List Int} (h : HoldsI k w a n zs) (h0 : 0 < n) : ∃ b o, a = some ⟨b, o, none⟩ ∧ ∀ i, i < n → w.cell? ⟨b, o + i, none⟩ = some (.int k (zs.getD i 0)) := h.2 h0
theorem lt_of_cell {w : World} {b o : Nat} {v : Value} (h : w.cell? ⟨b, o, none⟩ = some v) : b < w.heap.size := by
  rcases Nat.lt_or_ge b w.heap.size with h' | h'
  · exact h'
  · simp [World.cell?, Array.getElem?_eq_none h'] at h
theorem HoldsI.below {k : IntKind} {w w' : World} {a : Option Addr} {n : Nat} {zs : List Int} (h : HoldsI k w a n zs) (hb : Below w.heap.size w w') : HoldsI k w' a n zs := by
  refine ⟨h.1, fun h0 => ?_⟩
  obtain ⟨b, o, ha, hc⟩ := h.2 h0
  refine ⟨b, o, ha, fun i hi => ?_⟩
  rw [hb.cell (p := ⟨b, o + i, none⟩) (lt_of_cell (hc i hi))]
  exact hc i hi
/-- a part of it -/
theorem HoldsI.sub {k : IntKind} {w : World} {b o n : Nat} {zs : List Int} (h : HoldsI k w (some ⟨b, o, none⟩) n zs) (i j : Nat) (hij : i ≤ j) (hj : j ≤ n) : HoldsI k w (some ⟨b, o + i, none⟩) (j - i) ((zs.take j).drop i) := by
  refine ⟨by simp [h.1]; omega, fun h0 => ⟨b, o + i, rfl, fun t ht => ?_⟩⟩
  obtain ⟨b', o', ha, hc⟩ := h.2 (by omega)
  simp only [Option.some.injEq, Addr.mk.injEq, and_true] at ha
  obtain ⟨rfl, rfl⟩ := ha
  rw [Nat.add_assoc, hc (i + t) (by omega)]
  have h1 : ((zs.take j).drop i).getD t 0 = zs.getD (i + t) 0 := by
    simp only [List.getD_eq_getElem?_getD, List.getElem?_drop, List.getElem?_take]
    rw [if_pos (by omega)]
  rw [h1]
theorem HoldsI.part {k : IntKind} {w : World} {b o n : Nat} {zs : List Int} (h : HoldsI k w (some ⟨b, o, none⟩) n zs) (i j : Nat) (hij : i ≤ j) (hj : j ≤ n) (m : Nat) (hm : m = j - i) : HoldsI k w (some ⟨b, o + i, none⟩) m ((zs.take j).drop i) := by
  subst hm; exact h.sub i j hij hj
theorem take_succ_getD {α : Type} (l : List α) (d : α) (k : Nat) (h : k < l.length) : l.take (k + 1) = l.take k ++ [l.getD k d] := by
  rw [List.take_succ_eq_append_getElem h]; simp [List.getD_eq_getElem?_getD, h]
end Go.Proofs.YtgnaiahnednllaaGreat
namespace Go.Proofs.YtgnaiahnednllaaGreat
open Go.RowKit
set_option linter.unusedVariables false
set_option maxRecDepth 20000
/-- apart from the blocks of F, and new ones, the world w' is as w was -/
structure Turn (F : Nat → Prop) (w w' : World) : Prop where
  os : w'.os = w.os
  tape : w'.tape = w.tape
  output : w'.output = w.output
  size : w.heap.size ≤ w'.heap.size
  block : ∀ k, k < w.heap.size → ¬ F k → w'.heap[k]? = w.heap[k]?
theorem Turn.refl (F : Nat → Prop) (w : World) : Turn F w w := ⟨rfl, rfl, rfl, Nat.le_refl _, fun _ _ _ => rfl⟩
theorem Turn.trans {F : Nat → Prop} {w w1 w2 : World} (h : Turn F w w1) (k : Turn F w1 w2) : Turn F w w2 :=
  ⟨k.os.trans h.os, k.tape.trans h.tape, k.output.trans h.output, Nat.le_trans h.size k.size, fun i hi hF => (k.block i (Nat.lt_of_lt_of_le hi h.size) hF).trans (h.block i hi hF)⟩
theorem Turn.mono {F G : Nat → Prop} {w w' : World} (h : Turn F w w') (hF : ∀ k, F k → G k) : Turn G w w' := ⟨h.os, h.tape, h.output, h.size, fun k hk hn => h.block k hk (fun x => hn (hF k x))⟩
/-- what was new in the first step may turn in the second -/
theorem Turn.trans' {F G : Nat → Prop} {w w1 w2 : World} (h : Turn F w w1) (k : Turn G w1 w2) (hG : ∀ i, G i → F i ∨ w.heap.size ≤ i) : Turn F w w2 :=
  ⟨k.os.trans h.os, k.tape.trans h.tape, k.output.trans h.output, Nat.le_trans h.size k.size, fun i hi hF => (k.block i (Nat.lt_of_lt_of_le hi h.size) (fun g => by rcases hG i g with x | x; exact hF x; omega)).trans (h.block i hi hF)⟩
theorem Turn.setCell {F : Nat → Prop} {w : World} {b o : Nat} {v : Value} (hb : F b) : Turn F w (w.setCell ⟨b, o, none⟩ v) :=
  ⟨rfl, rfl, rfl, by simp [World.setCell], fun k _ hk => Below.heap_setCell _ _ _ _ (fun e => hk (by rw [e]; exact hb))⟩
theorem Turn.alloc (F : Nat → Prop) (w : World) (o : Obj) : Turn F w (w.alloc o) := ⟨rfl, rfl, rfl, by simp, fun k hk _ => Below.heap_alloc _ _ _ hk⟩
theorem Turn.drewN (F : Nat → Prop) (w : World) (n : Nat) : Turn F w (w.drewN n) := by
  have h := below_drewN w n
  exact ⟨h.os, h.tape, h.output, h.size, fun k hk _ => h.block k hk⟩
theorem Turn.drew {F : Nat → Prop} {a w : World} (h : Turn F a w) : Turn F a w.drew := ⟨h.os, h.tape, h.output, h.size, h.block⟩
theorem Turn.of_below {F : Nat → Prop} {w w' : World} (h : Below w.heap.size w w') : Turn F w w' := ⟨h.os, h.tape, h.output, h.size, fun k hk _ => h.block k hk⟩
theorem Turn.below {F : Nat → Prop} {B : Nat} {w w' : World} (h : Turn F w w') (hF : ∀ k, F k → B ≤ k) (hB : B ≤ w.heap.size) : Below B w w' :=
  ⟨h.os, h.tape, h.output, h.size, fun k hk => h.block k (by omega) (fun x => by have := hF k x; omega)⟩
theorem Turn.cell {F : Nat → Prop} {w w' : World} (h : Turn F w w') {b o : Nat} (hb : b < w.heap.size) (hF : ¬ F b) : w'.cell? ⟨b, o, none⟩ = w.cell? ⟨b, o, none⟩ := World.cell?_of_block (w := w) (h.block b hb hF)
theorem Turn.frozen {F : Nat → Prop} {w w' : World} (h : Turn F w w') {b o : Nat} (hb : b < w.heap.size) (hF : ¬ F b) : w'.frozen? ⟨b, o, none⟩ = w.frozen? ⟨b, o, none⟩ := World.frozen?_of_block (w := w) (h.block b hb hF)
theorem cset_at {w : World} {b o : Nat} {u v : Value} (h : w.cell? ⟨b, o, none⟩ = some u) : (w.setCell ⟨b, o, none⟩ v).cell? ⟨b, o, none⟩ = some v := World.cell?_setCell_same _ _ _ h
theorem cset_ne {w : World} {b o p : Nat} {v : Value} (h : o ≠ p) : (w.setCell ⟨b, o, none⟩ v).cell? ⟨b, p, none⟩ = w.cell? ⟨b, p, none⟩ := World.cell?_setCell_other _ _ _ _ (by intro e; injection e; contradiction)
theorem cset_far {w : World} {b c o p : Nat} {v : Value} (h : b ≠ c) : (w.setCell ⟨b, o, none⟩ v).cell? ⟨c, p, none⟩ = w.cell? ⟨c, p, none⟩ := World.cell?_setCell_other _ _ _ _ (by intro e; injection e; contradiction)
theorem fset_any {w : World} {a : Addr} {v : Value} {p : Addr} : (w.setCell a v).frozen? p = w.frozen? p := by simp
theorem cell_alloc {w : World} {cs : Array Value} {T : TypeId} {B o : Nat} (hB : B = w.heap.size) : (w.alloc (.cells cs T)).cell? ⟨B, o, none⟩ = cs[o]? := by subst hB; simp
theorem cell_alloc_old {w : World} {o : Obj} {b p : Nat} (h : b < w.heap.size) : (w.alloc o).cell? ⟨b, p, none⟩ = w.cell? ⟨b, p, none⟩ := (below_one w o).cell (p := ⟨b, p, none⟩) h
theorem frozen_alloc {w : World} {cs : Array Value} {T : TypeId} {B o : Nat} (hB : B = w.heap.size) : (w.alloc (.cells cs T)).frozen? ⟨B, o, none⟩ = false := by subst hB; simp
end Go.Proofs.YtgnaiahnednllaaGreat
namespace Go.Proofs.YtgnaiahnednllaaGreat
open Go.RowKit Go.Maps
set_option linter.unusedVariables false
set_option maxRecDepth 20000
theorem lawMv : Keyed Tryz.prog 3 := int_keyed Tryz.underlying3
/-- an element reads as itself -/
def heldE (v : Value) : Option (DataW Value × List MemPlace) := some (.held v, [])
theorem tight_mapV {P : Program} {k : TypeId} {R : Value → Option (DataW Value × List MemPlace)} {w : World} {b n : Nat} {D : DataW Value} (h : w.ownsMap P k R b n D) : w.ownsMap P k R b (Maps.size D) D := by
  obtain ⟨es, clock, hb, F, hs, rfl⟩ := h
  exact ⟨es, clock, hb, F, by simp [Maps.size, length_sorted], rfl⟩
def wfI (x : Int) : Prop := (Lit.int .i64 x).wf = true
/-- block b is a map of n entries: what f says -/
def MapV (w : World) (b n : Nat) (f : Int → Option Value) : Prop :=
  ∃ D : DataW Value, w.ownsMap Tryz.prog 3 heldE b n D ∧ Maps.size D = n ∧
    ∀ x, wfI x → Maps.has D (.int .i64 x) = (f x).isSome ∧ ∀ v, f x = some v → ∀ z, D.atKey (.int .i64 x) z = .held v
/-- f with v at x -/
def vset (f : Int → Option Value) (x : Int) (v : Option Value) : Int → Option Value := fun a => if a = x then v else f a
theorem vset_at (f : Int → Option Value) (x : Int) (v : Option Value) : vset f x v x = v := by simp [vset]
theorem vset_ne (f : Int → Option Value) (x a : Int) (v : Option Value) (h : ¬ a = x) : vset f x v a = f a := by simp only [vset, if_neg h]
theorem MapV.lt {w : World} {b n : Nat} {f : Int → Option Value} (h : MapV w b n f) : b < w.heap.size := by obtain ⟨D, h, _⟩ := h; exact h.lt
theorem MapV.block {w w' : World} {b n : Nat} {f : Int → Option Value} (h : MapV w b n f) (hb : w'.heap[b]? = w.heap[b]?) : MapV w' b n f := by
  obtain ⟨D, ⟨es, clock, h1, h2⟩, h3⟩ := h
  exact ⟨D, ⟨es, clock, hb.trans h1, h2⟩, h3⟩
theorem MapV.turn {w w' : World} {b n : Nat} {f : Int → Option Value} {F : Nat → Prop} (h : MapV w b n f) (t : Turn F w w') (hF : ¬ F b) : MapV w' b n f := h.block (t.block b h.lt hF)
theorem MapV.below {w w' : World} {b n : Nat} {f : Int → Option Value} (h : MapV w b n f) (t : Below w.heap.size w w') : MapV w' b n f := h.block (t.block b h.lt)
theorem MapV.setCell {w : World} {b n p o : Nat} {v : Value} {f : Int → Option Value} (h : MapV w b n f) (hp : b ≠ p) : MapV (w.setCell ⟨p, o, none⟩ v) b n f := h.block (Below.heap_setCell _ _ _ _ hp)
theorem MapV.no_cell {w : World} {b n : Nat} {f : Int → Option Value} (h : MapV w b n f) (o : Nat) (v : Value) : w.cell? ⟨b, o, none⟩ ≠ some v := by
  obtain ⟨D, ⟨es, clock, h1, h2⟩, h3⟩ := h
  simp [World.cell?, h1]
theorem mapV_made (w : World) : MapV (w.alloc (.map #[] 0)) w.heap.size 0 (fun _ => none) :=
  ⟨.map [], World.ownsMap_made w _ _ _, rfl, fun x _ => ⟨rfl, fun v h => by cases h⟩⟩
theorem TurnV.of_mapTurned {F : Nat → Prop} {w w' : World} {b : Nat} (h : w.mapTurned w' b) (hb : F b) : Turn F w w' := by
  have g := h.grown
  exact ⟨g.os, g.tape, g.output, g.size, fun k hk hn => g.block k hk (fun e => hn (by cases e; exact hb))⟩
/-- a map's type, its elements' type, and their zero -/
structure MapT (mt et : TypeId) (zv : Value) : Prop where
  u : Tryz.prog.underlying mt = some (.map 3 et)
  z : ∀ w, (zeroValue et).run Tryz.prog w = .ok zv w
theorem MapV.put_run {mt et : TypeId} {zv : Value} (T : MapT mt et zv) {w : World} {b n : Nat} {f : Int → Option Value} (H : MapV w b n f) (hn : n < maxLen) (x : Int) (val : Value) (hk : wfI x) :
    ∃ w', (Instr.mapUpdate mt (.map (some b)) (.int .i64 x) val).run Tryz.prog w = .ok () w' ∧ MapV w' b (if (f x).isSome then n else n + 1) (vset f x (some val)) ∧ w.mapTurned w' b := by
  obtain ⟨D, hown, hs, hf⟩ := H
  have hkey := keyOf_int_mk Tryz.underlying3 hk
  obtain ⟨w', hrun, r1, r2⟩ := hown.store lawMv T.u hn hkey (show heldE val = some (.held val, []) from rfl)
  have hD := hown.isMap
  have hsz := Maps.size_put (k := .int .i64 x) (hown.tidy lawMv) (.held val)
  rw [(hf x hk).1, hs] at hsz
  refine ⟨w', hrun, ⟨_, hsz ▸ tight_mapV r1, hsz, fun a ha => ?_⟩, r2⟩
  by_cases e : a = x
  · subst e
    rw [vset_at]
    exact ⟨Maps.has_put_same (k := .int .i64 a) hD trivial _, fun v h z => by injection h with h; subst h; exact Maps.atKey_put_same (k := .int .i64 a) hD trivial _ _⟩
  · have hne : (Lit.int .i64 a) ≠ .int .i64 x := fun h => e (by injection h)
    rw [vset_ne _ _ _ _ e]
    exact ⟨by rw [Maps.has_put_other hne]; exact (hf a ha).1, fun v h z => by rw [Maps.atKey_put_other hne]; exact (hf a ha).2 v h z⟩
theorem MapV.got {w : World} {f : Int → Option Value} {D : DataW Value} {x : Int} {v zv : Value} {ps : List MemPlace} (hf : Maps.has D (.int .i64 x) = (f x).isSome ∧ ∀ v, f x = some v → ∀ z, D.atKey (.int .i64 x) z = .held v) (hv : heldE v = some (D.atKey (.int .i64 x) (.held zv), ps)) : v = (f x).getD zv := by
  have hc : DataW.held v = D.atKey (.int .i64 x) (.held zv) := by
    unfold heldE at hv
    injection hv with h; injection h
  cases hfk : f x with
  | none =>
    have h1 := hf.1
    rw [hfk] at h1
    rw [Maps.atKey_of_not_has (by simpa using h1)] at hc
    injection hc with h
  | some u =>
    rw [hf.2 u hfk] at hc
    injection hc with h
theorem MapV.look_run {mt et : TypeId} {zv : Value} (T : MapT mt et zv) {w : World} {b n : Nat} {f : Int → Option Value} (H : MapV w b n f) (x : Int) (hk : wfI x) :
    (Instr.lookup mt (.map (some b)) (.int .i64 x) true).run Tryz.prog w = .ok (.tuple #[(f x).getD zv, .bool (f x).isSome]) w := by
  obtain ⟨D, hown, hs, hf⟩ := H
  obtain ⟨v, ps, hrun, hv⟩ := hown.look_ok lawMv T.u (T.z w) (show heldE zv = some (.held zv, []) from rfl) (keyOf_int_mk Tryz.underlying3 hk)
  rw [hrun, (hf x hk).1, MapV.got (w := w) (hf x hk) hv]
theorem MapV.get_run {mt et : TypeId} {zv : Value} (T : MapT mt et zv) {w : World} {b n : Nat} {f : Int → Option Value} (H : MapV w b n f) (x : Int) (hk : wfI x) :
    (Instr.lookup mt (.map (some b)) (.int .i64 x) false).run Tryz.prog w = .ok ((f x).getD zv) w := by
  obtain ⟨D, hown, hs, hf⟩ := H
  obtain ⟨v, ps, hrun, hv⟩ := hown.lookup lawMv T.u (T.z w) (show heldE zv = some (.held zv, []) from rfl) (keyOf_int_mk Tryz.underlying3 hk)
  rw [hrun, MapV.got (w := w) (hf x hk) hv]
section
variable {o : Oper} {a : Act} {w : World} {K : Act → World → Prop} {Q : Exit → Act → World → Prop} {ops : Array Oper} {rest : List Oper} {mt et : TypeId} {zv : Value}
theorem wp_look_mv (T : MapT mt et zv) (m x : Operand) (hop : o.op = Op.lookup mt m x true) {b n : Nat} {f : Int → Option Value} (hm : a.eval m = .map (some b)) (H : MapV w b n f) (x1 : Int) (hx : a.eval x = .int .i64 x1) (hk : wfI x1) (v : Value) (s : Bool) (hv : (f x1).getD zv = v) (hs : (f x1).isSome = s)
    (hK : K (a.put o.dst (.tuple #[v, .bool s])) w) : o.wp Tryz.prog a w K Q := by
  have hrun := H.look_run T x1 hk
  rw [hv, hs] at hrun
  unfold Oper.wp
  simp [execOp, hop, hm, hx, hrun, Result.andThen]
  exact hK
theorem wp_put_mv (T : MapT mt et zv) (m x v : Operand) (hop : o.op = Op.mapUpdate mt m x v) {b n : Nat} {f : Int → Option Value} (hm : a.eval m = .map (some b)) (H : MapV w b n f) (hn : n < maxLen) (x1 : Int) (val : Value) (hx : a.eval x = .int .i64 x1) (hv : a.eval v = val) (hk : wfI x1)
    (hK : ∀ w', MapV w' b (if (f x1).isSome then n else n + 1) (vset f x1 (some val)) → w.mapTurned w' b → K (a.put o.dst undef) w') : o.wp Tryz.prog a w K Q := by
  obtain ⟨w', hrun, r1, r2⟩ := H.put_run T hn x1 val hk
  unfold Oper.wp
  simp [execOp, hop, hm, hx, hv, hrun, Result.andThen]
  exact hK w' r1 r2
theorem wpList_look_mv (T : MapT mt et zv) (hg : o.guard = none) (m x : Operand) (hop : o.op = Op.lookup mt m x true) {b n : Nat} {f : Int → Option Value} (hm : a.eval m = .map (some b)) (H : MapV w b n f) (x1 : Int) (hx : a.eval x = .int .i64 x1) (hk : wfI x1) (v : Value) (s : Bool) (hv : (f x1).getD zv = v) (hs : (f x1).isSome = s)
    (hK : wpList Tryz.prog ops Q rest (a.put o.dst (.tuple #[v, .bool s])) w) : wpList Tryz.prog ops Q (o :: rest) a w :=
  wpList_plain hg fun _ hK' => wp_look_mv T m x hop hm H x1 hx hk v s hv hs (hK' _ _ hK)
theorem wpList_put_mv (T : MapT mt et zv) (hg : o.guard = none) (m x v : Operand) (hop : o.op = Op.mapUpdate mt m x v) {b n : Nat} {f : Int → Option Value} (hm : a.eval m = .map (some b)) (H : MapV w b n f) (hn : n < maxLen) (x1 : Int) (val : Value) (hx : a.eval x = .int .i64 x1) (hv : a.eval v = val) (hk : wfI x1)
    (hK : ∀ w', MapV w' b (if (f x1).isSome then n else n + 1) (vset f x1 (some val)) → w.mapTurned w' b → wpList Tryz.prog ops Q rest (a.put o.dst undef) w') : wpList Tryz.prog ops Q (o :: rest) a w :=
  wpList_plain hg fun _ hK' => wp_put_mv T m x v hop hm H hn x1 val hx hv hk fun w' h1 h2 => hK' _ _ (hK w' h1 h2)
end
end Go.Proofs.YtgnaiahnednllaaGreat
namespace Go.Proofs.YtgnaiahnednllaaGreat
open Go.ChangeShapes Go.WideShapes Go.ChangeAt Go.RowKit
set_option linter.unusedVariables false
set_option maxRecDepth 20000
/-- The slice at a of n elements, of one cell each, holds the values xs. -/
def HoldsV (w : World) (a : Option Addr) (n : Nat) (xs : List Value) : Prop :=
  xs.length = n ∧ (0 < n → ∃ b o, a = some ⟨b, o, none⟩ ∧ ∀ i, i < n → w.cell? ⟨b, o + i, none⟩ = some (xs.getD i undef))
theorem HoldsV.below {w w' : World} {a : Option Addr} {n : Nat} {xs : List Value} (h : HoldsV w a n xs) (hb : Below w.heap.size w w') : HoldsV w' a n xs := by
  refine ⟨h.1, fun h0 => ?_⟩
  obtain ⟨b, o, ha, hc⟩ := h.2 h0
  refine ⟨b, o, ha, fun i hi => ?_⟩
  rw [hb.cell (p := ⟨b, o + i, none⟩) (lt_of_cell (hc i hi))]
  exact hc i hi
theorem getD_map_int (k : IntKind) (zs : List Int) (i : Nat) (hi : i < zs.length) : (zs.map (Value.int k)).getD i undef = .int k (zs.getD i 0) := by
  simp [List.getD_eq_getElem?_getD, hi]
theorem HoldsI.values {k : IntKind} {w : World} {a : Option Addr} {n : Nat} {zs : List Int} (h : HoldsI k w a n zs) : HoldsV w a n (zs.map (Value.int k)) := by
  refine ⟨by simpa using h.1, fun h0 => ?_⟩
  obtain ⟨b, o, ha, hc⟩ := h.2 h0
  exact ⟨b, o, ha, fun i hi => by rw [hc i hi, getD_map_int k zs i (by rw [h.1]; exact hi)]⟩
theorem HoldsV.cells {w w' : World} {a : Option Addr} {n : Nat} {xs : List Value} (h : HoldsV w a n xs) (hg : w.grownBy w' none) : ∀ ad, a = some ad → ∀ j u, xs[j]? = some u → w'.cell? (ad.add j) = some u := by
  intro ad ha j u hj
  have hlt : j < xs.length := (List.getElem?_eq_some_iff.1 hj).1
  obtain ⟨b, o, hb, hc⟩ := h.2 (by have := h.1; omega)
  rw [ha] at hb
  obtain rfl := Option.some.inj hb
  have h2 := hc j (by have := h.1; omega)
  rw [List.getD_eq_getElem?_getD, hj] at h2
  rw [add_plain]
  exact hg.cell h2 (by simp)
theorem below_grown {w w' : World} {row : Option Nat} (hg : w.grownBy w' row) (hr : ∀ k, row = some k → w.heap.size ≤ k) : Below w.heap.size w w' := (Below.refl _ _).grown hg (Nat.le_refl _) hr
/-- what is owned stays so where what was there stays -/
theorem owns_below {w w' : World} {base : Nat} {e : TypeId} {size : Nat} {v : Value} {n : Nat} {xs : List Value} (h : w.ownsRow base e size v n xs) (hb : Below w.heap.size w w') : w'.ownsRow base e size v n xs := by
  refine ⟨h.1, ?_⟩
  rcases h.2 with h0 | ⟨g, cap, cur, hv, hg, hh, r⟩
  · exact Or.inl h0
  · exact Or.inr ⟨g, cap, cur, hv, hg, by rw [hb.block g (Array.getElem?_eq_some_iff.1 hh).1]; exact hh, r⟩
theorem owns_none {w : World} {base : Nat} {e : TypeId} {size : Nat} {a : Option Addr} {n c : Nat} {xs : List Value} (h : w.ownsRow base e size (.slice a n c) n xs) : (a = none → n = 0 ∧ c = 0) ∧ n ≤ c := by
  rcases h.2 with ⟨hv, hn⟩ | ⟨g, cap, cur, hv, _, _, hc, _⟩
  · simp only [Value.slice.injEq] at hv
    obtain ⟨_, rfl, rfl⟩ := hv
    exact ⟨fun _ => ⟨rfl, rfl⟩, Nat.le_refl _⟩
  · simp only [Value.slice.injEq] at hv
    obtain ⟨rfl, _, rfl⟩ := hv
    exact ⟨(fun h => by cases h), hc⟩
/-- What is owned reads so. -/
theorem owns_holds {w : World} {base : Nat} {e : TypeId} {a : Option Addr} {n c : Nat} {xs : List Value} (h : w.ownsRow base e 1 (.slice a n c) n xs) : HoldsV w a n xs := by
  have hl : xs.length = n := by simpa using h.1
  refine ⟨hl, fun h0 => ?_⟩
  rcases h.2 with ⟨_, h1⟩ | ⟨g, cap, cur, hv, _, hh, hc, _, hs, hx⟩
  · omega
  · simp only [Value.slice.injEq] at hv
    obtain ⟨rfl, _, rfl⟩ := hv
    refine ⟨g, 0, rfl, fun i hi => ?_⟩
    rw [Nat.zero_add, Joins.cell_of_block hh]
    rw [Nat.mul_one] at hx
    rw [List.getD_eq_getElem?_getD, ← hx, List.getElem?_take, if_pos hi]
    have hlt : i < cur.size := by omega
    simp [hlt]
/-- one new cell, to be appended -/
theorem one_new (w : World) (v : Value) (e : TypeId) (fr : Nat × Nat) : ∀ ad, (some ⟨w.heap.size, 0, none⟩ : Option Addr) = some ad → ∀ j u, [v][j]? = some u → (w.alloc (.cells #[v] e fr)).cell? (ad.add j) = some u := by
  intro ad ha j u hj
  obtain rfl := Option.some.inj ha
  match j, hj with
  | 0, hj =>
    simp at hj; subst hj
    rw [add_plain, World.cell?_alloc_mark]; rfl
theorem one_int (k : IntKind) (x : Int) : ∀ u ∈ [Value.int k x], u.oneCell' = true := by simp [Value.oneCell']
theorem one_str (x : ByteArray) : ∀ u ∈ [Value.string x], u.oneCell' = true := by simp [Value.oneCell']
theorem some_none {p : Prop} (a : Addr) : (some a = none) → p := fun h => by cases h
/-- 'append(v, x...)', v nil or the call's own, x whatever slice (nil too): the value is a slice of the call's own. -/
theorem wpList_append_any {P : Program} {w : World} {ops : Array Oper} {rest : List Oper} {o : Oper} {a : Act} {Q : Exit → Act → World → Prop} (hgd : o.guard = none) (s x : Operand) (t : TypeId)
    (ho : o.op = .call { callee := .builtin .append, args := #[s, x], argTypes := #[t, t] })
    (base : Nat) (e : TypeId) (i : TypeInfo) (z : Value) (size bytes : Nat) (ht : P.underlying t = some (.slice e)) (hi : P.info? e = some i) (hz : i.zero = some z)
    (hsize : i.size = size) (hby : i.bytes = bytes) (hzs : z.cells.size = size) (hsz : 0 < size)
    (v : Value) (n : Nat) (xs : List Value) (hs : a.eval s = v) (hown : w.ownsRow base e size v n xs)
    (ao : Option Addr) (m c : Nat) (news : List Value) (hx : a.eval x = .slice ao m c) (hnone : ao = none → m = 0 ∧ c = 0) (hl : news.length = m * size)
    (hnews : ∀ ad, ao = some ad → ∀ j u, news[j]? = some u → w.cell? (ad.add j) = some u) (h1 : ∀ u ∈ news, u.oneCell' = true)
    (h63 : n + m ≤ maxLen) (hbytes : (n + m) * bytes ≤ 140737488355328) (hbase : base ≤ w.heap.size)
    (h : ∀ a' c' w', w'.ownsRow base e size (.slice a' (n + m) c') (n + m) (xs ++ news) → Below base w w' → (a' = none → n + m = 0 ∧ c' = 0) → wpList P ops Q rest (a.put o.dst (.slice a' (n + m) c')) w') : wpList P ops Q (o :: rest) a w := by
  have fin : ∀ v' w', w'.ownsRow base e size v' (n + m) (xs ++ news) → Below base w w' → wpList P ops Q rest (a.put o.dst v') w' := by
    intro v' w' ho' hb'
    rcases Joins.ownsRow_forms ho' with ⟨rfl, h0⟩ | ⟨g, cap, rfl⟩
    · have := h none 0 w' (by rw [h0] at ho' ⊢; exact ho') hb' (fun _ => ⟨h0, rfl⟩)
      rw [h0] at this
      exact this
    · exact h _ _ w' ho' hb' (fun h => by cases h)
  cases ao with
  | some ad =>
    refine wpList_append_own w hgd s x t ho base e i z size bytes ht hi hz hsize hby hzs hsz v n xs hs hown ad m c news hx hl (hnews ad rfl) h1 h63 hbytes hbase fun v' w' h2 h3 _ => ?_
    exact fin v' w' h2 ((Below.refl base w).grown h3 hbase fun k hk => (hown.lt k hk).1)
  | none =>
    obtain ⟨rfl, rfl⟩ := hnone rfl
    have hn : news = [] := List.eq_nil_of_length_eq_zero (by simpa using hl)
    subst hn
    exact wpList_append_own_none hgd s x t ho base e i size ht hi v n xs hs hown hx (fin v w (by simpa using hown) (Below.refl _ _))
end Go.Proofs.YtgnaiahnednllaaGreat
namespace Go.Proofs.YtgnaiahnednllaaGreat
open Go.ChangeShapes Go.WideShapes Go.ChangeAt Go.RowKit
set_option linter.unusedVariables false
set_option maxRecDepth 20000
/-- The slice at a of n bytes holds the bytes bs. -/
def HoldsB (w : World) (a : Option Addr) (n : Nat) (bs : List Nat) : Prop := HoldsI .u8 w a n (bs.map fun b : Nat => (b : Int)) ∧ ∀ b ∈ bs, b < 256
theorem HoldsB.len {w : World} {a : Option Addr} {n : Nat} {bs : List Nat} (h : HoldsB w a n bs) : bs.length = n := by simpa using h.1.1
theorem getD_map_cast (bs : List Nat) (i : Nat) : (bs.map fun b : Nat => (b : Int)).getD i 0 = ((bs.getD i 0 : Nat) : Int) := by
  simp only [List.getD_eq_getElem?_getD, List.getElem?_map]
  cases bs[i]? <;> rfl
theorem HoldsB.at {w : World} {a : Option Addr} {n : Nat} {bs : List Nat} (h : HoldsB w a n bs) (h0 : 0 < n) : ∃ b o, a = some ⟨b, o, none⟩ ∧ ∀ i, i < n → w.cell? ⟨b, o + i, none⟩ = some (.int .u8 ((bs.getD i 0 : Nat) : Int)) := by
  obtain ⟨b, o, ha, hc⟩ := h.1.2 h0
  exact ⟨b, o, ha, fun i hi => by rw [hc i hi, getD_map_cast]⟩
theorem HoldsB.below {w w' : World} {a : Option Addr} {n : Nat} {bs : List Nat} (h : HoldsB w a n bs) (hb : Below w.heap.size w w') : HoldsB w' a n bs := ⟨h.1.below hb, h.2⟩
theorem HoldsB.part {w : World} {b o n : Nat} {bs : List Nat} (h : HoldsB w (some ⟨b, o, none⟩) n bs) (i j : Nat) (hij : i ≤ j) (hj : j ≤ n) (m : Nat) (hm : m = j - i) : HoldsB w (some ⟨b, o + i, none⟩) m ((bs.take j).drop i) := by
  refine ⟨?_, fun x hx => h.2 x (List.mem_of_mem_take (List.mem_of_mem_drop hx))⟩
  rw [List.map_drop, List.map_take]
  exact h.1.part i j hij hj m hm
theorem HoldsB.front {w : World} {b o n : Nat} {bs : List Nat} (h : HoldsB w (some ⟨b, o, none⟩) n bs) (j : Nat) (hj : j ≤ n) : HoldsB w (some ⟨b, o, none⟩) j (bs.take j) := by
  have := h.part 0 j (by omega) hj j (by omega)
  simpa using this
theorem getD_lt {bs : List Nat} (h : ∀ b ∈ bs, b < 256) (i : Nat) : bs.getD i 0 < 256 := by
  rw [List.getD_eq_getElem?_getD]
  cases e : bs[i]? with
  | none => simp
  | some x => exact h x (List.mem_of_getElem? e)
/-- the bytes as values -/
def bytesV (bs : List Nat) : List Value := (bs.map fun b : Nat => (b : Int)).map (Value.int .u8)
theorem bytesV_length (bs : List Nat) : (bytesV bs).length = bs.length := by simp [bytesV]
theorem HoldsB.values {w : World} {a : Option Addr} {n : Nat} {bs : List Nat} (h : HoldsB w a n bs) : HoldsV w a n (bytesV bs) := h.1.values
theorem bytesV_one (bs : List Nat) : ∀ u ∈ bytesV bs, u.oneCell' = true := ints_oneCell _ _
theorem bytesV_append (a b : List Nat) : bytesV a ++ bytesV b = bytesV (a ++ b) := by simp [bytesV]
theorem holdsB_of_values {w : World} {a : Option Addr} {n : Nat} {bs : List Nat} (h : HoldsV w a n (bytesV bs)) (hb : ∀ b ∈ bs, b < 256) : HoldsB w a n bs := by
  have hl : bs.length = n := by have := h.1; simpa [bytesV] using this
  refine ⟨⟨by simpa using hl, fun h0 => ?_⟩, hb⟩
  obtain ⟨b, o, ha, hc⟩ := h.2 h0
  exact ⟨b, o, ha, fun i hi => by rw [hc i hi, bytesV, getD_map_int .u8 _ i (by simp [hl]; exact hi)]⟩
theorem holdsB_nil (w : World) (a : Option Addr) : HoldsB w a 0 [] := ⟨⟨rfl, fun h => absurd h (by decide)⟩, by simp⟩
/-- A slice of bytes that the call made: what it returns, and what became of the world. EB: the number of the type of its elements. -/
def RetB (EB : TypeId) (w : World) (bs : List Nat) (e : Ending) (w' : World) : Prop :=
  ∃ a c, e = .returned (.slice a bs.length c) ∧ w'.ownsRow w.heap.size EB 1 (.slice a bs.length c) bs.length (bytesV bs) ∧ Below w.heap.size w w' ∧ (a = none → bs.length = 0 ∧ c = 0)
end Go.Proofs.YtgnaiahnednllaaGreat
namespace Go.Proofs.YtgnaiahnednllaaGreat
open Go.RowKit
set_option linter.unusedVariables false
set_option maxRecDepth 20000
theorem run_clear_many {P : Program} (w : World) (t e ty : TypeId) (z : Value) (ht : P.underlying t = some (.slice e)) (hv : ∀ w, (zeroValue e).run P w = .ok z w) (b o n c : Nat) (hn : 0 < n) (zs : List Value) (hz : (Builtin.zeroCells z.cells n).toList = zs) (h1 : ∀ u ∈ zs, u.oneCell' = true)
    (hc : ∀ j, j < zs.length → (w.cell? ⟨b, o + j, none⟩).isSome = true) (hf : ∀ j, j < zs.length → w.frozen? ⟨b, o + j, none⟩ = false) :
    (Builtin.clear_ #[t] ty #[.slice (some ⟨b, o, none⟩) n c]).run P w = .ok (.tuple #[]) (w.setCells b o zs) := by
  have hst := run_storeCells_cells (P := P) b o zs 0 w (by simpa using hc) (by simpa using hf) h1
  simp only [Nat.add_zero] at hst
  obtain ⟨m, rfl⟩ : ∃ m, n = m + 1 := ⟨n - 1, by omega⟩
  simp [Builtin.clear_, run_underlying ht, hv, hz, hst]
/-- xs with vs from o on -/
def ow (xs : List Value) (o : Nat) (vs : List Value) : List Value := xs.take o ++ vs ++ xs.drop (o + vs.length)
theorem ow_nil (xs : List Value) (o : Nat) : ow xs o [] = xs := by simp [ow]
theorem ow_cons (xs : List Value) (o : Nat) (v : Value) (vs : List Value) (h : o < xs.length) : ow (xs.set o v) (o + 1) vs = ow xs o (v :: vs) := by
  unfold ow
  have e1 : (xs.set o v).take (o + 1) = xs.take o ++ [v] := by
    have h2 : (xs.set o v)[o]? = some v := by simp [h]
    rw [List.take_add_one, h2, List.take_set, List.set_eq_of_length_le (by simp; omega)]; rfl
  have e2 : (xs.set o v).drop (o + 1 + vs.length) = xs.drop (o + (v :: vs).length) := by
    rw [List.drop_set]
    rw [if_pos (by omega)]
    simp; congr 1; omega
  rw [e1, e2]
  simp
theorem ow_len (xs : List Value) (o : Nat) (vs : List Value) (h : o + vs.length ≤ xs.length) : (ow xs o vs).length = xs.length := by
  unfold ow; simp; omega
theorem ow_take (xs : List Value) (o : Nat) (vs : List Value) (h : o ≤ xs.length) : (ow xs o vs).take o = xs.take o := by
  unfold ow
  rw [List.append_assoc, List.take_append_of_le_length (by rw [List.length_take]; omega), List.take_take, Nat.min_self]
theorem owns_setCells {base g cap n size : Nat} {e : TypeId} : ∀ (vs : List Value) (o : Nat) (w : World) (xs : List Value), w.ownsRow base e size (.slice (some ⟨g, 0, none⟩) n cap) n xs → o + vs.length ≤ n * size →
    (w.setCells g o vs).ownsRow base e size (.slice (some ⟨g, 0, none⟩) n cap) n (ow xs o vs) ∧ w.grownBy (w.setCells g o vs) (some g)
  | [], o, w, xs, h, _ => by rw [ow_nil]; exact ⟨h, rfl, rfl, rfl, Nat.le_refl _, fun _ _ _ => rfl⟩
  | v :: vs, o, w, xs, h, hl => by
    have hxs := h.1
    simp only [List.length_cons] at hl
    have hs := h.stored o v
    obtain ⟨r1, r2⟩ := owns_setCells vs (o + 1) _ _ hs.1 (by omega)
    rw [ow_cons _ _ _ _ (by omega)] at r1
    refine ⟨r1, ?_⟩
    have g1 : w.grownBy (w.setCell ⟨g, o, none⟩ v) (some g) := ⟨rfl, rfl, rfl, by simp [World.setCell], fun k _ hne => Below.heap_setCell _ _ _ _ (fun e => hne (by rw [e]))⟩
    exact ⟨r2.os.trans g1.os, r2.tape.trans g1.tape, r2.output.trans g1.output, Nat.le_trans g1.size r2.size, fun k hk hne => (r2.block k (Nat.lt_of_lt_of_le hk g1.size) hne).trans (g1.block k hk hne)⟩
/-- fewer of a row -/
theorem owns_fewer {w : World} {base g cap n m size : Nat} {e : TypeId} {xs : List Value} (h : w.ownsRow base e size (.slice (some ⟨g, 0, none⟩) n cap) n xs) (hm : m ≤ n) : w.ownsRow base e size (.slice (some ⟨g, 0, none⟩) m cap) m (xs.take (m * size)) := by
  have hle : m * size ≤ n * size := Nat.mul_le_mul_right _ hm
  refine ⟨by rw [List.length_take, h.1]; omega, ?_⟩
  rcases h.2 with ⟨e1, _⟩ | ⟨g', cap', cur, hv, hb, hh, hc, hc2, hs, hx⟩
  · cases e1
  · simp only [Value.slice.injEq, Option.some.injEq, Addr.mk.injEq, and_true, true_and] at hv
    obtain ⟨rfl, rfl⟩ := hv
    exact Or.inr ⟨g, cap, cur, rfl, hb, hh, by omega, hc2, hs, by rw [← hx, List.take_take]; congr 1; omega⟩
/-- what a deletion of one at i leaves -/
theorem ow_del (xs zs : List Value) (n i m : Nat) (hl : xs.length = n * m) (hi : i < n) (hz : zs.length = m) : (ow (ow xs (i * m) (xs.drop ((i + 1) * m))) ((n - 1) * m) zs).take ((n - 1) * m) = xs.take (i * m) ++ xs.drop ((i + 1) * m) := by
  have h1 : i * m ≤ (n - 1) * m := Nat.mul_le_mul_right _ (by omega)
  have h2 : (i + 1) * m = i * m + m := Nat.succ_mul i m
  have h3 : n * m = (n - 1) * m + m := by
    obtain ⟨k, rfl⟩ : ∃ k, n = k + 1 := ⟨n - 1, by omega⟩
    rw [Nat.succ_mul]; simp
  have hxl : (xs.drop ((i + 1) * m)).length = (n - 1) * m - i * m := by rw [List.length_drop, hl]; omega
  have hol : (ow xs (i * m) (xs.drop ((i + 1) * m))).length = n * m := by rw [ow_len _ _ _ (by rw [hxl, hl]; omega), hl]
  have e1 : (ow (ow xs (i * m) (xs.drop ((i + 1) * m))) ((n - 1) * m) zs).take ((n - 1) * m) = (ow xs (i * m) (xs.drop ((i + 1) * m))).take ((n - 1) * m) := by
    exact ow_take _ _ _ (by rw [hol]; omega)
  rw [e1]
  unfold ow
  have hlen : (xs.take (i * m) ++ xs.drop ((i + 1) * m)).length = (n - 1) * m := by rw [List.length_append, List.length_take, hxl, hl]; omega
  rw [List.take_append_of_le_length (by rw [hlen]; exact Nat.le_refl _), List.take_of_length_le (by rw [hlen]; exact Nat.le_refl _)]
end Go.Proofs.YtgnaiahnednllaaGreat
namespace Go.Proofs.YtgnaiahnednllaaGreat
open Go.RowKit
set_option linter.unusedVariables false
set_option maxRecDepth 20000
theorem owns_block0 {w w' : World} {base : Nat} {e : TypeId} {size : Nat} {a : Option Addr} {n c : Nat} {xs : List Value} (h : w.ownsRow base e size (.slice a n c) n xs) (hb : ∀ g, a = some ⟨g, 0, none⟩ → w'.heap[g]? = w.heap[g]?) : w'.ownsRow base e size (.slice a n c) n xs := by
  refine ⟨h.1, ?_⟩
  rcases h.2 with h1 | ⟨g, cap, cur, hv, hge, hh, r⟩
  · exact Or.inl h1
  · have hv' := hv
    simp only [Value.slice.injEq] at hv'
    exact Or.inr ⟨g, cap, cur, hv, hge, (hb g hv'.1).trans hh, r⟩
theorem u8n_info : (Tryz.prog.info? 5).map (fun i => (i.zero, i.size, i.bytes)) = some (some (.int .u8 0), 1, 1) := by kernel_rfl
theorem clone_any (a : Option Addr) (n c : Nat) (bs : List Nat) (w : World) (h : HoldsB w a n bs) (hnone : a = none → n = 0 ∧ c = 0) (hn : n ≤ 1000000) :
    Calls Tryz.prog 137 #[.slice a n c] w (RetB 5 w bs) := by
  obtain ⟨i0, hi, hz0, hz1, hz2⟩ := info_parts u8n_info
  have hl := h.len
  cases a with
  | none =>
    obtain ⟨rfl, rfl⟩ := hnone rfl
    obtain rfl : bs = [] := List.length_eq_zero_iff.1 hl
    have he := fun w => Lib.run_eql_slice_nil (P := Tryz.prog) w 136 5 none 0 0 0 0 Tryz.underlying136
    simp only [Option.isNone_none] at he
    clear h hl hnone
    go_enter Tryz.func137, Tryz.ntmps137
    go_wp2_with fail
    go_ret
    exact ⟨none, 0, rfl, World.ownsRow_nil _ _ _ _, Below.refl _ _, fun _ => ⟨rfl, rfl⟩⟩
  | some ad =>
    subst hl
    have HC := Lib.hid (h.values.cells (World.grownBy_alloc w (.cells #[] 5) none))
    have hbl : (bytesV bs).length = bs.length * 1 := by rw [bytesV_length]; omega
    have he := fun w => Lib.run_eql_slice_nil (P := Tryz.prog) w 136 5 (some ad) bs.length c 0 0 Tryz.underlying136
    simp only [Option.isNone_some] at he
    clear h
    go_enter Tryz.func137, Tryz.ntmps137
    go_wp2_with (at_builtin; refine wpList_append_any rfl (.tmp 5) (.tmp 6) 136 rfl w.heap.size 5 i0 _ 1 1 Tryz.underlying136 hi hz0 hz1 hz2 rfl (by decide) _ 0 [] rfl (World.ownsRow_lit w #[] 0 (Nat.le_refl _) (by decide) rfl) _ bs.length _ (bytesV bs) rfl (some_none _) hbl HC.out (bytesV_one _) (by unfold maxLen; omega) (by omega) (by simp) ?_; intro a3 c3 w3 hown3 hb3 hnil3)
    rw [List.nil_append, Nat.zero_add] at hown3
    rw [Nat.zero_add] at hnil3
    go_ret
    exact ⟨a3, c3, rfl, hown3, ((Below.refl _ _).alloc (Nat.le_refl _) _).trans hb3, hnil3⟩
end Go.Proofs.YtgnaiahnednllaaGreat
namespace Go.Proofs.YtgnaiahnednllaaGreat
open Go.RowKit
set_option linter.unusedVariables false
set_option maxRecDepth 20000
theorem turn_set {F : Nat → Prop} {w w1 : World} {b o : Nat} {v : Value} (h : Turn F w w1) (hb : F b) : Turn F w (w1.setCell ⟨b, o, none⟩ v) := h.trans (Turn.setCell hb)
end Go.Proofs.YtgnaiahnednllaaGreat
namespace Go.Proofs.YtgnaiahnednllaaGreat
namespace Cod
/-- the size lowest bytes of v, the most significant one first -/
def bytesOf (v : Nat) : Nat → List Nat
  | 0 => []
  | s + 1 => v / 256 ^ s % 256 :: bytesOf v s
theorem bytesOf_length (v s : Nat) : (bytesOf v s).length = s := by induction s with | zero => rfl | succ s ih => simp [bytesOf, ih]
theorem bytesOf_lt (v s : Nat) : ∀ b ∈ bytesOf v s, b < 256 := by
  induction s with
  | zero => simp [bytesOf]
  | succ s ih => intro b hb; simp only [bytesOf, List.mem_cons] at hb; rcases hb with rfl | hb; exact Nat.mod_lt _ (by decide); exact ih b hb
theorem bytesOf_take (v s k : Nat) (h : k < s) : (bytesOf v s).take (k + 1) = (bytesOf v s).take k ++ [v / 256 ^ (s - 1 - k) % 256] := by
  induction s generalizing k with
  | zero => omega
  | succ s ih =>
    cases k with
    | zero => simp [bytesOf]
    | succ k =>
      simp only [bytesOf, List.take_succ_cons, List.cons_append]
      rw [ih k (by omega), show s + 1 - 1 - (k + 1) = s - 1 - k by omega]
/-- the number of bytes -/
def numOf (bs : List Nat) : Nat := bs.foldl (fun v b => v * 256 + b) 0
theorem numOf_snoc (bs : List Nat) (b : Nat) : numOf (bs ++ [b]) = numOf bs * 256 + b := by simp [numOf]
theorem numOf_lt (bs : List Nat) (h : ∀ b ∈ bs, b < 256) : numOf bs < 256 ^ bs.length := by
  have key : ∀ (bs : List Nat) (a : Nat), (∀ b ∈ bs, b < 256) → bs.foldl (fun v b => v * 256 + b) a + 1 ≤ (a + 1) * 256 ^ bs.length := by
    intro bs
    induction bs with
    | nil => intro a _; simp
    | cons b bs ih =>
      intro a hb
      have h1 := ih (a * 256 + b) fun x hx => hb x (by simp [hx])
      have h2 := hb b (by simp)
      rw [List.foldl_cons, List.length_cons, Nat.pow_succ]
      refine Nat.le_trans h1 ?_
      rw [Nat.mul_comm (256 ^ bs.length) 256, ← Nat.mul_assoc]
      exact Nat.mul_le_mul_right _ (by omega)
  have := key bs 0 h
  simp only [Nat.zero_add, Nat.one_mul] at this
  exact this
theorem numOf_bytesOf (v s : Nat) : numOf (bytesOf v s) = v % 256 ^ s := by
  have key : ∀ (s a : Nat), (bytesOf v s).foldl (fun v b => v * 256 + b) a = a * 256 ^ s + v % 256 ^ s := by
    intro s
    induction s with
    | zero => intro a; simp [bytesOf, Nat.mod_one]
    | succ s ih =>
      intro a
      simp only [bytesOf, List.foldl_cons]
      rw [ih]
      have h1 : v % 256 ^ (s + 1) = v % 256 ^ s + 256 ^ s * (v / 256 ^ s % 256) := Nat.mod_pow_succ
      rw [h1, Nat.pow_succ]
      generalize v / 256 ^ s % 256 = q
      generalize v % 256 ^ s = r
      generalize 256 ^ s = p
      rw [Nat.add_mul, Nat.mul_assoc, Nat.mul_comm 256 p, Nat.mul_comm q p]
      omega
  have := key s 0
  simpa [numOf] using this
end Cod
end Go.Proofs.YtgnaiahnednllaaGreat
namespace Go.Proofs.YtgnaiahnednllaaGreat
open Go.RowKit
set_option linter.unusedVariables false
set_option maxRecDepth 20000
theorem u8_info : (Tryz.prog.info? 5).map (fun i => (i.zero, i.size, i.bytes)) = some (some (.int .u8 0), 1, 1) := by kernel_rfl
set_option maxHeartbeats 400000 in
theorem fresh_any (a : Option Addr) (n cap : Nat) (bs : List Nat) (m : Int) (w : World) (h : HoldsB w a n bs) (hnil : a = none → n = 0 ∧ cap = 0) (hn : n ≤ 1048576) (hm : 0 ≤ m) (hm2 : m ≤ 1048576) :
    Calls Tryz.prog 234 #[.slice a n cap, .int .i64 m] w (RetB 5 w bs) := by
  obtain ⟨i0, hi, hz0, hz1, hz2⟩ := info_parts u8_info
  obtain ⟨k, rfl⟩ := Int.eq_ofNat_of_zero_le hm
  have HN := Lib.hid hnil; have HV := Lib.hid h.values; have HL := Lib.hid h.len
  clear h hnil
  go_enter Tryz.func234, Tryz.ntmps234
  go_wp2_with (first | (at_make; refine wpList_make_own _ rfl _ _ 136 rfl w.heap.size 5 i0 (.int .u8 0) 1 Tryz.underlying136 hi hz0 hz1 _ _ _ (n + k) rfl rfl (by omega) (by rw [hz2]; omega) (by unfold maxLen; omega) (Nat.le_refl _) ?_; intro w0 hown0 hgrow0) | (at_builtin; refine wpList_append_any rfl (.tmp 9) (.tmp 10) 136 rfl w.heap.size 5 i0 (.int .u8 0) 1 1 Tryz.underlying136 hi hz0 hz1 hz2 rfl (by decide) _ 0 [] rfl hown0 a n cap (bytesV bs) rfl HN.out (by simpa using HV.out.1) (HV.out.cells hgrow0) (bytesV_one bs) (by unfold maxLen; omega) (by omega) (below_grown hgrow0 (by intro k hk; cases hk)).size ?_; intro a1 c1 w1 hown1 hb1 hnil1; simp only [Nat.zero_add, List.nil_append] at hown1))
  go_ret
  refine ⟨a1, c1, by rw [HL.out]; rfl, by rw [HL.out]; exact hown1, (below_grown hgrow0 (by intro k hk; cases hk)).trans hb1, by rw [HL.out]; simpa using hnil1⟩
/-- from 0 to 8 -/
def sizeV (s : Int) : Nat := (min (max s 0) 8).toNat
theorem u64_bd (d : Int) : 0 ≤ IntKind.u64.wrap d ∧ IntKind.u64.wrap d < 18446744073709551616 := by
  simp only [IntKind.wrap, IntKind.signed, IntKind.bits]; simp; omega
/-- a number's 64 bits -/
def bitsV (n : Int) : Nat := (IntKind.u64.wrap n).toNat
theorem bitsV_eq (n : Int) : IntKind.u64.wrap n = (bitsV n : Int) := by have := u64_bd n; unfold bitsV; omega
theorem byte_at (v k : Nat) : ((v : Int) / 2 ^ (8 * k) % 256) = ((v / 256 ^ k % 256 : Nat) : Int) := by
  rw [show (256 : Nat) ^ k = 2 ^ (8 * k) by rw [Nat.pow_mul], Int.natCast_emod, Int.natCast_ediv, Int.natCast_pow]; rfl
set_option maxHeartbeats 800000 in
theorem put_any (a : Option Addr) (n cap : Nat) (bs : List Nat) (v size : Int) (w : World) (h : HoldsB w a n bs) (hnil : a = none → n = 0 ∧ cap = 0) (hn : n ≤ 524288) :
    Calls Tryz.prog 200 #[.slice a n cap, .int .i64 v, .int .i64 size] w (RetB 5 w (bs ++ Cod.bytesOf (bitsV v) (sizeV size))) := by
  obtain ⟨i0, hi, hz0, hz1, hz2⟩ := info_parts u8_info
  have HN := Lib.hid hnil; have H := Lib.hid h; have HL := Lib.hid h.len
  have hb := bitsV_eq v
  clear h hnil
  obtain ⟨s, hs⟩ : ∃ s : Nat, sizeV size = s := ⟨_, rfl⟩
  have hs8 : s ≤ 8 := by unfold sizeV at hs; omega
  go_enter Tryz.func200, Tryz.ntmps200
  go_upto_region 1 with fail
  go_cut [2] (fun x wx => x = .int .i64 (s : Int) ∧ w = wx)
  case first =>
    go_wp2_with fail
    all_goals go_meet
    all_goals exact ⟨by congr 1; unfold sizeV at hs; omega, rfl⟩
  case rest =>
    obtain ⟨rfl, rfl⟩ := hcut
    go_wp2_with fail
    refine (fresh_any a n cap bs _ _ H.out HN.out (by omega) (by omega) (by omega)).mono ?_
    rintro e w1 ⟨a1, c1, rfl, hown1, hb1, hnil1⟩
    rw [HL.out] at hown1 ⊢
    have O1 := Lib.hid hown1; have B1 := Lib.hid hb1
    clear hown1 hb1 hnil1
    go_wp2_with fail
    go_loopw [7, 16] (fun x i wr => ∃ (k : Nat) (a2 : Option Addr) (c2 : Nat), k ≤ s ∧ i = .int .i64 k ∧ x = .slice a2 (n + k) c2 ∧ Hid (wr.ownsRow w.heap.size 5 1 (.slice a2 (n + k) c2) (n + k) (bytesV (bs ++ (Cod.bytesOf (bitsV v) s).take k))) ∧ Hid (Below w.heap.size w wr)) (fun _ i _ => s - (intOf i).toNat)
    case atStart => exact ⟨0, a1, c1, by omega, rfl, rfl, by rw [List.take_zero, List.append_nil]; exact O1, B1⟩
    case round =>
      obtain ⟨k, a2, c2, hk, rfl, rfl, hO, hB⟩ := hrel
      by_cases hlt : k < s
      · have ht := Cod.bytesOf_take (bitsV v) s k hlt
        have hby := byte_at (bitsV v) (s - 1 - k)
        have HT := Lib.hid ht; have HBY := Lib.hid hby
        clear ht hby
        have q1 : (8 * ((s : Int) - 1 - (k : Int))).toNat = 8 * (s - 1 - k) := by omega
        go_wp2_with (at_builtin; refine wpList_append_any rfl (.tmp 19) (.tmp 29) 136 rfl w.heap.size 5 i0 (.int .u8 0) 1 1 Tryz.underlying136 hi hz0 hz1 hz2 rfl (by decide) _ (n + k) _ rfl (hO.out.alloc _) _ 1 1 _ rfl (some_none _) rfl (one_new _ _ _ _) (one_int _ _) (by unfold maxLen; omega) (by omega) (by have := hB.out.size; simp; omega) ?_; intro a3 c3 w3 hown3 hb3 hnil3)
        have hv : bytesV (bs ++ List.take (k + 1) (Cod.bytesOf (bitsV v) s)) = bytesV (bs ++ List.take k (Cod.bytesOf (bitsV v) s)) ++ [Value.int .u8 ((bitsV v : Int) / 2 ^ (8 * (s - 1 - k)) % 256)] := by
          rw [HT.out, HBY.out, ← List.append_assoc, ← bytesV_append]; rfl
        go_roundw
        case rel => exact ⟨k + 1, a3, c3, by omega, by go_num, rfl, by rw [hv]; exact hown3, hB.out.trans ((below_one _ _).mono hB.out.size |>.trans hb3)⟩
        case measure => simp [intOf]; omega
      · have hks : k = s := by omega
        have hfin : bs ++ (Cod.bytesOf (bitsV v) s).take k = bs ++ Cod.bytesOf (bitsV v) s := by rw [List.take_of_length_le (by rw [Cod.bytesOf_length, hks]; exact Nat.le_refl _)]
        have hlen : (bs ++ Cod.bytesOf (bitsV v) s).length = n + k := by rw [List.length_append, HL.out, Cod.bytesOf_length, hks]
        have hO2 := hO.out
        rw [hfin] at hO2
        have HO2 := Lib.hid hO2; have HLL := Lib.hid hlen
        clear hks hfin hlen hO2
        go_wp2
        go_ret
        rw [hs]
        exact ⟨a2, c2, by rw [HLL.out]; rfl, by rw [HLL.out]; exact HO2.out, hB.out, by rw [HLL.out]; exact (owns_none HO2.out).1⟩
end Go.Proofs.YtgnaiahnednllaaGreat
namespace Go.Proofs.YtgnaiahnednllaaGreat
namespace Crc
def poly : Nat := 3988292384
/-- one bit is shifted out -/
def st (r : Nat) : Nat := if r % 2 = 1 then r / 2 ^^^ poly else r / 2
def stN : Nat → Nat → Nat
  | 0, r => r
  | k + 1, r => st (stN k r)
def byteStep (r b : Nat) : Nat := stN 8 (r ^^^ b)
def reg (r : Nat) (bs : List Nat) : Nat := bs.foldl byteStep r
def add (c : Nat) (bs : List Nat) : Nat := 4294967295 - reg (4294967295 - c) bs
def sum (bs : List Nat) : Nat := add 0 bs
theorem poly_lt : poly < 4294967296 := by decide
theorem xor_lt32 {a b : Nat} (ha : a < 4294967296) (hb : b < 4294967296) : a ^^^ b < 4294967296 := Nat.xor_lt_two_pow (n := 32) ha hb
theorem st_lt {r : Nat} (h : r < 4294967296) : st r < 4294967296 := by
  unfold st; split
  · exact xor_lt32 (by omega) poly_lt
  · omega
theorem stN_lt {r : Nat} (h : r < 4294967296) (k : Nat) : stN k r < 4294967296 := by
  induction k with
  | zero => exact h
  | succ k ih => exact st_lt ih
theorem byteStep_lt {r b : Nat} (h : r < 4294967296) (hb : b < 256) : byteStep r b < 4294967296 := stN_lt (xor_lt32 h (by omega)) 8
theorem reg_lt (bs : List Nat) (hb : ∀ b ∈ bs, b < 256) : ∀ r, r < 4294967296 → reg r bs < 4294967296 := by
  induction bs with
  | nil => intro r h; exact h
  | cons b bs ih => intro r h; exact ih (fun x hx => hb x (by simp [hx])) _ (byteStep_lt h (hb b (by simp)))
theorem reg_append (r : Nat) (a b : List Nat) : reg r (a ++ b) = reg (reg r a) b := by simp [reg, List.foldl_append]
theorem add_lt (c : Nat) (bs : List Nat) : add c bs < 4294967296 := by unfold add; omega
end Crc
end Go.Proofs.YtgnaiahnednllaaGreat
namespace Go.Proofs.YtgnaiahnednllaaGreat
open Go.RowKit
set_option linter.unusedVariables false
set_option maxRecDepth 20000
theorem and_one (n : Nat) (h : n < 4294967296) : bits BinOp.and IntKind.u32 (n : Int) 1 = ((n % 2 : Nat) : Int) := by
  have := u32_and_nat n 1 h (by decide)
  rw [nat_mask1] at this
  exact this
theorem xor_poly (n : Nat) (h : n < 4294967296) : bits BinOp.xor IntKind.u32 ((n : Int) / 2) 3988292384 = ((n / 2 ^^^ Crc.poly : Nat) : Int) := by
  have := u32_xor_nat (n / 2) 3988292384 (by omega) (by decide)
  rw [show (n : Int) / 2 = ((n / 2 : Nat) : Int) by omega]
  exact this
set_option maxHeartbeats 400000 in
theorem sumShift_any (r : Nat) (h1 : r < 4294967296) (w : World) :
    Calls Tryz.prog 251 #[.int .u32 r] w fun e w' => e = .returned (.int .u32 (Crc.stN 8 r)) ∧ w = w' := by
  go_enter Tryz.func251, Tryz.ntmps251
  go_wp2
  go_loop [0, 3, 4] (fun x _ i => ∃ k : Nat, k ≤ 8 ∧ i = .int .i64 k ∧ x = .int .u32 (Crc.stN k r)) (fun _ _ i => 8 - (intOf i).toNat)
  case atStart => exact ⟨0, by omega, rfl, rfl⟩
  case round =>
    obtain ⟨k, hk, rfl, rfl⟩ := hrel
    by_cases hlt : k < 8
    · have hy := Crc.stN_lt h1 k
      have hs : Crc.stN (k + 1) r = Crc.st (Crc.stN k r) := rfl
      have HS := Lib.hid hs
      clear hs
      obtain ⟨y, hyy⟩ : ∃ y, Crc.stN k r = y := ⟨_, rfl⟩
      rw [hyy] at hy HS ⊢
      clear hyy
      rcases Nat.mod_two_eq_zero_or_one y with h | h
      · have ht : (bits BinOp.and IntKind.u32 (y : Int) 1 == 1) = false := by rw [and_one y hy, h]; rfl
        go_wp2
        go_round
        case rel => exact ⟨k + 1, by omega, by go_num, by rw [HS.out, Crc.st, if_neg (by omega)]; go_num⟩
        case measure => simp [intOf]; omega
      · have ht : (bits BinOp.and IntKind.u32 (y : Int) 1 == 1) = true := by rw [and_one y hy, h]; rfl
        go_wp2
        go_round
        case rel => exact ⟨k + 1, by omega, by go_num, by rw [HS.out, Crc.st, if_pos h, xor_poly y hy]⟩
        case measure => simp [intOf]; omega
    · obtain rfl : k = 8 := by omega
      go_wp2
      go_ret
      exact ⟨rfl, rfl⟩
theorem nat_flip (c : Nat) (h : c < 4294967296) : 4294967295 ^^^ c = 4294967295 - c := by
  apply Nat.eq_of_testBit_eq
  intro i
  rw [Nat.testBit_xor, show 4294967295 - c = 2 ^ 32 - (c + 1) by omega, Nat.testBit_two_pow_sub_succ (by omega), show 4294967295 = 2 ^ 32 - 1 by decide, Nat.testBit_two_pow_sub_one]
  by_cases hi : i < 32
  · simp [hi]
  · have : c.testBit i = false := Nat.testBit_lt_two_pow (Nat.lt_of_lt_of_le h (Nat.pow_le_pow_right (n := 2) (by decide) (show 32 ≤ i by omega)))
    simp [hi, this]
theorem flip_u32 (c : Nat) (h : c < 4294967296) : bits BinOp.xor IntKind.u32 IntKind.u32.max (c : Int) = ((4294967295 - c : Nat) : Int) := by
  have := u32_xor_nat 4294967295 c (by decide) h
  rw [nat_flip c h] at this
  exact this
theorem xor_byte (r b : Nat) (h : r < 4294967296) (hb : b < 256) : bits BinOp.xor IntKind.u32 (r : Int) (b : Int) = ((r ^^^ b : Nat) : Int) := u32_xor_nat r b h (by omega)
set_option maxHeartbeats 400000 in
theorem sumAdd_any (c : Nat) (hc : c < 4294967296) (a : Option Addr) (n cap : Nat) (bs : List Nat) (w : World) (h : HoldsB w a n bs) (hn : n ≤ 4611686018427387904) :
    Calls Tryz.prog 230 #[.int .u32 c, .slice a n cap] w fun e w' => e = .returned (.int .u32 (Crc.add c bs)) ∧ w = w' := by
  have hl := h.len
  have hb := h.2
  have hfl := flip_u32 c hc
  rcases Nat.eq_zero_or_pos n with h0 | h0
  · subst h0
    obtain rfl := List.eq_nil_of_length_eq_zero hl
    clear h hl hb hn
    go_enter Tryz.func230, Tryz.ntmps230
    go_wp2
    go_loop [5, 12] (fun x i => i = .int .i64 0 ∧ x = .int .u32 ((4294967295 - c : Nat) : Int)) (fun _ _ => 0)
    case atStart => exact ⟨rfl, rfl⟩
    case round =>
      obtain ⟨rfl, rfl⟩ := hrel
      have hf2 := flip_u32 (4294967295 - c) (by omega)
      go_wp2
      go_ret
      exact ⟨ret_int (by first | exact hf2 | rfl), rfl⟩
  · obtain ⟨b, o, rfl, hcell⟩ := h.at h0
    have HC := Lib.hid hcell; have HL := Lib.hid hl; have HB := Lib.hid hb
    clear hcell hl hb h
    go_enter Tryz.func230, Tryz.ntmps230
    go_wp2
    go_loop [5, 12] (fun x i => ∃ k : Nat, k ≤ n ∧ i = .int .i64 k ∧ x = .int .u32 (Crc.reg (4294967295 - c) (bs.take k) : Nat)) (fun _ i => n - (intOf i).toNat)
    case atStart => exact ⟨0, by omega, rfl, rfl⟩
    case round =>
      obtain ⟨k, hk, rfl, rfl⟩ := hrel
      clear hfl
      have hr := Crc.reg_lt (bs.take k) (fun x hx => HB.out x (List.mem_of_mem_take hx)) (4294967295 - c) (by omega)
      by_cases hlt : k < n
      · have e1 := HC.out k hlt
        have hx := getD_lt HB.out k
        have hts := take_succ_getD bs 0 k (by rw [HL.out]; exact hlt)
        have hs : Crc.reg (4294967295 - c) (bs.take (k + 1)) = Crc.stN 8 (Crc.reg (4294967295 - c) (bs.take k) ^^^ bs.getD k 0) := by rw [hts, Crc.reg_append]; rfl
        have HS := Lib.hid hs
        clear hs hts
        obtain ⟨x, hx1⟩ : ∃ x, bs.getD k 0 = x := ⟨_, rfl⟩
        obtain ⟨r, hr1⟩ : ∃ r, Crc.reg (4294967295 - c) (bs.take k) = r := ⟨_, rfl⟩
        rw [hx1] at e1 hx HS
        rw [hr1] at hr HS ⊢
        clear hx1 hr1
        have hxb := xor_byte r x hr hx
        have hlt2 := Crc.xor_lt32 hr (show x < 4294967296 by omega)
        go_wp2_with (go_at_call 251; refine (sumShift_any _ hlt2 _).mono ?_; rintro e w' ⟨rfl, rfl⟩)
        go_round
        case rel => exact ⟨k + 1, by omega, by go_num, by rw [HS.out]⟩
        case measure => simp [intOf]; omega
      · have hkn : k = n := by omega
        have HK := Lib.hid hkn
        have hf2 := flip_u32 _ hr
        have HF := Lib.hid hf2
        clear hkn hf2
        go_wp2
        go_ret
        exact ⟨ret_int (by rw [HF.out, List.take_of_length_le (by rw [HL.out, HK.out]; exact Nat.le_refl _)]; rfl), rfl⟩
theorem sumOf_any (a : Option Addr) (n cap : Nat) (bs : List Nat) (w : World) (h : HoldsB w a n bs) (hn : n ≤ 4611686018427387904) :
    Calls Tryz.prog 190 #[.slice a n cap] w fun e w' => e = .returned (.int .u32 (Crc.sum bs)) ∧ w = w' := by
  go_enter Tryz.func190, Tryz.ntmps190
  go_wp2_with fail
  refine (sumAdd_any 0 (by decide) a n cap bs _ h hn).mono ?_
  rintro e w' ⟨rfl, rfl⟩
  go_wp2_with fail
  go_ret
  exact ⟨rfl, rfl⟩
end Go.Proofs.YtgnaiahnednllaaGreat
namespace Go.Proofs.YtgnaiahnednllaaGreat
open Go.RowKit
set_option linter.unusedVariables false
set_option maxRecDepth 20000
/-- bytes with their sum behind -/
def sealB (bs : List Nat) : List Nat := bs ++ Cod.bytesOf (Crc.sum bs) 4
theorem bits_nat9 (n : Nat) (h : n < 18446744073709551616) : bitsV (n : Int) = n := by
  have := u64_bd (n : Int)
  unfold bitsV
  rw [show IntKind.u64.wrap (n : Int) = (n : Int) by simp only [IntKind.wrap, IntKind.signed, IntKind.bits]; simp; omega]
  omega
theorem sum_lt9 (bs : List Nat) : Crc.sum bs < 4294967296 := Crc.add_lt 0 bs
theorem sealB_len (bs : List Nat) : (sealB bs).length = bs.length + 4 := by rw [sealB, List.length_append, Cod.bytesOf_length]
theorem sealB_lt (bs : List Nat) (h : ∀ b ∈ bs, b < 256) : ∀ b ∈ sealB bs, b < 256 := fun b hb => by
  rcases List.mem_append.1 hb with hb | hb
  · exact h b hb
  · exact Cod.bytesOf_lt _ _ b hb
theorem wSeal_any (a : Option Addr) (n cap : Nat) (bs : List Nat) (w : World) (h : HoldsB w a n bs) (hnil : a = none → n = 0 ∧ cap = 0) (hn : n ≤ 524288) :
    Calls Tryz.prog 205 #[.slice a n cap] w (RetB 5 w (sealB bs)) := by
  have CS := Lib.hid (sumOf_any a n cap bs w h (by omega))
  obtain ⟨c, hc⟩ : ∃ c, Crc.sum bs = c := ⟨_, rfl⟩
  have hc32 : c < 4294967296 := by rw [← hc]; exact sum_lt9 bs
  have CP := Lib.hid (put_any a n cap bs (c : Int) 4 w h hnil hn)
  rw [bits_nat9 c (by omega), show sizeV 4 = 4 from rfl] at CP
  unfold sealB
  rw [hc] at CS ⊢
  obtain ⟨o, ho⟩ : ∃ o, bs ++ Cod.bytesOf c 4 = o := ⟨_, rfl⟩
  rw [ho] at CP ⊢
  clear h hnil hc ho
  go_enter Tryz.func205, Tryz.ntmps205
  go_wp2_with fail
  with_reducible refine CS.out.mono ?_
  rintro e w' ⟨rfl, rfl⟩
  go_wp2_with fail
  with_reducible refine CP.out.mono ?_
  rintro e w' ⟨a2, c2, rfl, h1, h2, h3⟩
  have O := Lib.hid h1; have B := Lib.hid h2; have N := Lib.hid h3
  clear h1 h2 h3 CS CP
  go_wp2_with fail
  go_ret
  exact ⟨a2, c2, rfl, O.out, B.out, N.out⟩
theorem final_byte (b : Bool) (w : World) : Calls Tryz.prog 203 #[.bool b] w fun e w' => e = .returned (.int .u8 ((if b then 1 else 0 : Nat) : Int)) ∧ w = w' := by
  cases b
  all_goals
    go_enter Tryz.func203, Tryz.ntmps203
    go_wp2_with fail
    go_ret
    exact ⟨rfl, rfl⟩
/-- bytes of the call's own that grow -/
def OB (w0 : World) (bs : List Nat) (a : Option Addr) (c : Nat) (w : World) : Prop := w.ownsRow w0.heap.size 5 1 (.slice a bs.length c) bs.length (bytesV bs) ∧ Below w0.heap.size w0 w
theorem OB.more {w0 w w' : World} {bs : List Nat} {a : Option Addr} {c : Nat} (h : OB w0 bs a c w) (hb : Below w.heap.size w w') : OB w0 bs a c w' := ⟨owns_below h.1 hb, h.2.trans (hb.mono h.2.size)⟩
theorem magic_any (w : World) : Calls Tryz.prog 192 #[] w (RetB 5 w [73, 78, 75, 49]) := by
  have FIN := Lib.hid (show (w.alloc (.cells #[.int .u8 73, .int .u8 78, .int .u8 75, .int .u8 49] 5)).ownsRow w.heap.size 5 1 (.slice (some ⟨w.heap.size, 0, none⟩) 4 4) 4 (bytesV [73, 78, 75, 49]) from
    ⟨rfl, .inr ⟨w.heap.size, 4, _, rfl, Nat.le_refl _, by rw [heap_alloc_new], by omega, by unfold maxLen; omega, by rfl, by rfl⟩⟩)
  have B := Lib.hid (below_one w (.cells #[.int .u8 73, .int .u8 78, .int .u8 75, .int .u8 49] 5))
  go_enter Tryz.func192, Tryz.ntmps192
  go_wp2_with fail
  go_ret
  exact ⟨_, _, rfl, FIN.out, B.out, fun e => by cases e⟩
end Go.Proofs.YtgnaiahnednllaaGreat
namespace Go.Proofs.YtgnaiahnednllaaGreat
open Go.RowKit
set_option linter.unusedVariables false
set_option maxRecDepth 20000
/-- the number in s bytes from k on -/
def numN (bs : List Nat) (k s : Nat) : Nat := Cod.numOf ((bs.drop k).take s)
theorem numN_snoc (bs : List Nat) (k s : Nat) (h : k + s < bs.length) : numN bs k (s + 1) = numN bs k s * 256 + bs.getD (k + s) 0 := by
  unfold numN
  rw [take_succ_getD _ 0 s (by simp; omega), Cod.numOf_snoc]
  congr 1
  simp [List.getD_eq_getElem?_getD]
theorem numN_lt (bs : List Nat) (k s : Nat) (hb : ∀ b ∈ bs, b < 256) (hk : k + s ≤ bs.length) : numN bs k s < 256 ^ s := by
  have := Cod.numOf_lt ((bs.drop k).take s) fun x hx => hb x (List.mem_of_mem_drop (List.mem_of_mem_take hx))
  rw [List.length_take, List.length_drop, Nat.min_eq_left (by omega)] at this
  exact this
theorem pow256 (s : Nat) (h : s ≤ 7) : 256 ^ s ≤ 72057594037927936 := Nat.pow_le_pow_right (n := 256) (by decide) h
theorem or_byte (v x : Nat) (hv : v < 72057594037927936) (hx : x < 256) : bits BinOp.or IntKind.u64 ((v : Int) * 256) (x : Int) = ((v * 256 + x : Nat) : Int) := by
  have := u64_or_nat (v * 256) x (by omega) (by omega)
  rw [nat_join 8 (v * 256) x (by omega) (by omega)] at this
  rw [show (v : Int) * 256 = ((v * 256 : Nat) : Int) by omega]
  exact this
set_option maxHeartbeats 800000 in
theorem num_yes (a : Option Addr) (n cap : Nat) (bs : List Nat) (k s : Nat) (w : World) (h : HoldsB w a n bs) (hn : n ≤ 9223372036854775807) (h1 : 1 ≤ s) (h8 : s ≤ 8) (hk : k + s ≤ n) :
    Calls Tryz.prog 189 #[.slice a n cap, .int .i64 k, .int .i64 s] w fun e w' => e = .returned (.tuple #[.int .i64 (wrap64 (numN bs k s : Nat)), .bool true]) ∧ w = w' := by
  obtain ⟨b, o, rfl, hcell⟩ := h.at (by omega)
  have HC := Lib.hid hcell; have HL := Lib.hid h.len; have HB := Lib.hid h.2
  clear hcell h
  go_enter Tryz.func189, Tryz.ntmps189
  go_wp2
  go_loop [8, 29] (fun x i => ∃ j : Nat, j ≤ s ∧ i = .int .i64 j ∧ x = .int .u64 (numN bs k j : Nat)) (fun _ i => s - (intOf i).toNat)
  case atStart => exact ⟨0, by omega, rfl, rfl⟩
  case round =>
    obtain ⟨j, hj, rfl, rfl⟩ := hrel
    by_cases hlt : j < s
    · have hx := getD_lt HB.out (k + j)
      have e1 := HC.out (k + j) (by omega)
      have hs := numN_snoc bs k j (by rw [HL.out]; omega)
      have hv := numN_lt bs k j HB.out (by rw [HL.out]; omega)
      have hp := pow256 j (by omega)
      have HS := Lib.hid hs
      obtain ⟨x, hxx⟩ : ∃ x, bs.getD (k + j) 0 = x := ⟨_, rfl⟩
      obtain ⟨v, hvv⟩ : ∃ v, numN bs k j = v := ⟨_, rfl⟩
      rw [hxx] at hx e1 HS
      rw [hvv] at hv HS ⊢
      have hv2 : v < 72057594037927936 := by omega
      clear hxx hvv hs hv hp
      go_wp2
      go_round
      case rel => exact ⟨j + 1, by omega, by go_num, by rw [HS.out, or_byte v x hv2 hx]⟩
      case measure => simp [intOf]; omega
    · obtain rfl : j = s := by omega
      go_wp2
      go_ret2
      exact ⟨rfl, rfl⟩
theorem num_no (a : Option Addr) (n cap : Nat) (k s : Int) (w : World) (hn : n ≤ 9223372036854775807) (hk : k ≤ 9223372036854775807) (hno : ¬ (1 ≤ s ∧ s ≤ 8 ∧ 0 ≤ k ∧ k + s ≤ n)) :
    Calls Tryz.prog 189 #[.slice a n cap, .int .i64 k, .int .i64 s] w fun e w' => e = .returned (.tuple #[.int .i64 0, .bool false]) ∧ w = w' := by
  by_cases g1 : s < 1
  · go_enter Tryz.func189, Tryz.ntmps189
    go_wp2
    go_ret2
    exact ⟨rfl, rfl⟩
  by_cases g2 : 8 < s
  · go_enter Tryz.func189, Tryz.ntmps189
    go_wp2
    go_ret2
    exact ⟨rfl, rfl⟩
  have d1 : decide (s < 1) = false := by rw [decide_eq_false_iff_not]; omega
  have d2 : decide (8 < s) = false := by rw [decide_eq_false_iff_not]; omega
  by_cases g3 : k < 0
  · go_enter Tryz.func189, Tryz.ntmps189
    go_wp2
    go_ret2
    exact ⟨rfl, rfl⟩
  have d3 : decide (k < 0) = false := by rw [decide_eq_false_iff_not]; omega
  have g4 : (n : Int) - s < k := by omega
  go_enter Tryz.func189, Tryz.ntmps189
  go_wp2
  go_ret2
  exact ⟨rfl, rfl⟩
end Go.Proofs.YtgnaiahnednllaaGreat
namespace Go.Proofs.YtgnaiahnednllaaGreat
open Go.RowKit
set_option linter.unusedVariables false
set_option maxRecDepth 20000
/-- the last four bytes are the sum of the others -/
def openB (bs : List Nat) : Bool := decide (4 ≤ bs.length) && decide (numN bs (bs.length - 4) 4 = Crc.sum (bs.take (bs.length - 4)))
theorem num4_lt (bs : List Nat) (k : Nat) (hb : ∀ b ∈ bs, b < 256) (hk : k + 4 ≤ bs.length) : numN bs k 4 < 4294967296 := numN_lt bs k 4 hb hk
theorem wrap_small (x : Nat) (h : x < 9223372036854775808) : wrap64 (x : Int) = (x : Int) := by unfold wrap64; omega
theorem wSealed_any (a : Option Addr) (n cap : Nat) (bs : List Nat) (w : World) (h : HoldsB w a n bs) (hn : n ≤ 1048576) (hc : n ≤ cap) :
    Calls Tryz.prog 139 #[.slice a n cap] w fun e w' => e = .returned (if openB bs then .tuple #[.slice a (n - 4) cap, .bool true] else .tuple #[.slice none 0 0, .bool false]) ∧ w = w' := by
  have hl := h.len
  by_cases h4 : 4 ≤ n
  · obtain ⟨k, hk⟩ : ∃ k, n - 4 = k := ⟨_, rfl⟩
    have e1 : (n : Int) - 4 = (k : Int) := by omega
    have CN := Lib.hid (num_yes a n cap bs k 4 w h (by omega) (by omega) (by omega) (by omega))
    have CS := Lib.hid (show Calls Tryz.prog 190 #[.slice a k cap] w fun e w' => e = .returned (.int .u32 (Crc.sum (bs.take k))) ∧ w = w' from by
      obtain ⟨q, o, rfl, -⟩ := h.at (by omega)
      exact sumOf_any (some ⟨q, o, none⟩) k cap (bs.take k) w (h.front k (by omega)) (by omega))
    obtain ⟨x, hx⟩ : ∃ x, numN bs k 4 = x := ⟨_, rfl⟩
    have hx4 : x < 4294967296 := by rw [← hx]; exact num4_lt bs k h.2 (by omega)
    obtain ⟨c, hcc⟩ : ∃ c, Crc.sum (bs.take k) = c := ⟨_, rfl⟩
    have hc4 : c < 4294967296 := by rw [← hcc]; exact sum_lt9 _
    rw [hx, wrap_small x (by omega), show ((4 : Nat) : Int) = 4 from rfl] at CN
    rw [hcc] at CS
    have OP := Lib.hid (show openB bs = decide (x = c) from by
      unfold openB
      rw [hl, hk, hx, hcc, decide_eq_true h4, Bool.true_and])
    have n1 : (0 : Int) ≤ (k : Int) := by omega
    have n2 : (k : Int) ≤ (cap : Int) := by omega
    have n3 : k ≤ cap := by omega
    rw [hk]
    clear hk hx hcc h hl
    by_cases he : x = c
    · subst he
      have OT := Lib.hid (show openB bs = true from by rw [OP.out]; simp)
      simp only [OT.out, if_true]
      go_enter Tryz.func139, Tryz.ntmps139
      go_wp2_with fail
      with_reducible refine CN.out.mono ?_
      rintro e w' ⟨rfl, rfl⟩
      go_wp2_with fail
      with_reducible refine CS.out.mono ?_
      rintro e w' ⟨rfl, rfl⟩
      go_wp2_with fail
      go_ret2
      exact ⟨rfl, rfl⟩
    · have OT := Lib.hid (show openB bs = false from by rw [OP.out]; simpa using he)
      simp only [OT.out, Bool.false_eq_true, if_false]
      have e2 : ((x : Int) != (c : Int)) = true := by rw [bne_iff_ne]; omega
      have e3 : ((x : Int) == (c : Int)) = false := by rw [beq_eq_false_iff_ne]; omega
      clear he
      go_enter Tryz.func139, Tryz.ntmps139
      go_wp2_with fail
      with_reducible refine CN.out.mono ?_
      rintro e w' ⟨rfl, rfl⟩
      go_wp2_with fail
      with_reducible refine CS.out.mono ?_
      rintro e w' ⟨rfl, rfl⟩
      go_wp2_with fail
      go_ret2
      exact ⟨rfl, rfl⟩
  · have CN := Lib.hid (num_no a n cap ((n : Int) - 4) 4 w (by omega) (by omega) (by omega))
    have OT := Lib.hid (show openB bs = false from by unfold openB; rw [hl, decide_eq_false h4, Bool.false_and])
    simp only [OT.out, Bool.false_eq_true, if_false]
    obtain ⟨k, hk⟩ : ∃ k : Int, (n : Int) - 4 = k := ⟨_, rfl⟩
    rw [hk] at CN
    clear h hl h4
    go_enter Tryz.func139, Tryz.ntmps139
    go_wp2_with fail
    with_reducible refine CN.out.mono ?_
    rintro e w' ⟨rfl, rfl⟩
    go_wp2_with fail
    go_ret2
    exact ⟨rfl, rfl⟩
theorem holdsB_turn {w w' : World} {a : Option Addr} {n : Nat} {bs : List Nat} {S : Nat → Prop} (h : HoldsB w a n bs) (t : Turn S w w') (hS : ∀ q o, a = some ⟨q, o, none⟩ → ¬ S q) : HoldsB w' a n bs := by
  refine ⟨⟨h.1.1, fun h0 => ?_⟩, h.2⟩
  obtain ⟨q, o, ha, hc⟩ := h.1.2 h0
  exact ⟨q, o, ha, fun i hi => (t.cell (lt_of_cell (hc i hi)) (hS q o ha)).trans (hc i hi)⟩
/-- a reader of these bytes, and how far it is -/
structure RdM (r : Nat) (a : Option Addr) (n cap : Nat) (bs : List Nat) (at_ : Nat) (bad : Bool) (w : World) : Prop where
  c0 : w.cell? ⟨r, 0, none⟩ = some (.slice a n cap)
  c1 : w.cell? ⟨r, 1, none⟩ = some (.int .i64 at_)
  c2 : w.cell? ⟨r, 2, none⟩ = some (.bool bad)
  f : ∀ i, w.frozen? ⟨r, i, none⟩ = false
  h : HoldsB w a n bs
  ne : ∀ q o, a = some ⟨q, o, none⟩ → q ≠ r
theorem RdM.turn {r : Nat} {a : Option Addr} {n cap : Nat} {bs : List Nat} {at_ : Nat} {bad : Bool} {w w' : World} {S : Nat → Prop} (m : RdM r a n cap bs at_ bad w) (t : Turn S w w') (hr : ¬ S r) (hS : ∀ q o, a = some ⟨q, o, none⟩ → ¬ S q) : RdM r a n cap bs at_ bad w' := by
  have lr := lt_of_cell m.c0
  exact ⟨(t.cell lr hr).trans m.c0, (t.cell lr hr).trans m.c1, (t.cell lr hr).trans m.c2, fun i => (t.frozen lr hr).trans (m.f i), holdsB_turn m.h t hS, m.ne⟩
def okR (n at_ s : Nat) (bad : Bool) : Bool := !bad && decide (at_ + s ≤ n)
def numR (bs : List Nat) (n at_ s : Nat) (bad : Bool) : Nat := if okR n at_ s bad then numN bs at_ s else 0
def atR (n at_ s : Nat) (bad : Bool) : Nat := if okR n at_ s bad then at_ + s else at_
theorem numR_lt (bs : List Nat) (n at_ s : Nat) (bad : Bool) (hb : ∀ b ∈ bs, b < 256) (hl : bs.length = n) : numR bs n at_ s bad < 256 ^ s := by
  unfold numR
  split
  · rename_i h
    unfold okR at h
    simp only [Bool.and_eq_true, decide_eq_true_eq] at h
    exact numN_lt bs at_ s hb (by omega)
  · exact Nat.pow_pos (by decide)
set_option maxHeartbeats 1600000 in
theorem rdNum_any (r : Nat) (a : Option Addr) (n cap : Nat) (bs : List Nat) (at_ : Nat) (bad : Bool) (s : Nat) (w : World) (m : RdM r a n cap bs at_ bad w) (hn : n ≤ 1048576) (hat : at_ ≤ n) (h1 : 1 ≤ s) (h4 : s ≤ 4) :
    Calls Tryz.prog 194 #[.pointer (some ⟨r, 0, none⟩), .int .i64 (s : Int)] w fun e w' => e = .returned (.int .i64 (numR bs n at_ s bad : Nat)) ∧ RdM r a n cap bs (atR n at_ s bad) (!okR n at_ s bad) w' ∧ Turn (fun k => k = r) w w' := by
  obtain ⟨c0, c1, c2, f, h, ne⟩ := m
  have M := Lib.hid (show RdM r a n cap bs at_ bad w from ⟨c0, c1, c2, f, h, ne⟩)
  have f1 := f 1
  have f2 := f 2
  have g0 := (World.cell?_of_block (w := w) (w' := w.drew) (a := ⟨r, 0, none⟩) rfl).trans c0
  have g1 := (World.cell?_of_block (w := w) (w' := w.drew) (a := ⟨r, 1, none⟩) rfl).trans c1
  have lr := lt_of_cell c0
  have STB := Lib.hid (show ∀ k, RdM r a n cap bs at_ true ((w.drewN k).setCell ⟨r, 2, none⟩ (.bool true)) ∧ Turn (fun q => q = r) w ((w.drewN k).setCell ⟨r, 2, none⟩ (.bool true)) from fun k => by
    have b := below_drewN w k
    have t : Turn (fun q => q = r) w ((w.drewN k).setCell ⟨r, 2, none⟩ (.bool true)) := (Turn.of_below b).trans (Turn.setCell rfl)
    exact ⟨⟨(cset_ne (by omega)).trans ((b.cell (p := ⟨r, 0, none⟩) lr).trans c0), (cset_ne (by omega)).trans ((b.cell (p := ⟨r, 1, none⟩) lr).trans c1), cset_at ((b.cell (p := ⟨r, 2, none⟩) lr).trans c2), fun i => fset_any.trans ((b.frozen (p := ⟨r, i, none⟩) lr).trans (f i)), holdsB_turn h t ne, ne⟩, t⟩)
  have STA := Lib.hid (show ∀ k (y : Nat), RdM r a n cap bs y bad ((w.drewN k).setCell ⟨r, 1, none⟩ (.int .i64 (y : Int))) ∧ Turn (fun q => q = r) w ((w.drewN k).setCell ⟨r, 1, none⟩ (.int .i64 (y : Int))) from fun k y => by
    have b := below_drewN w k
    have t : Turn (fun q => q = r) w ((w.drewN k).setCell ⟨r, 1, none⟩ (.int .i64 (y : Int))) := (Turn.of_below b).trans (Turn.setCell rfl)
    exact ⟨⟨(cset_ne (by omega)).trans ((b.cell (p := ⟨r, 0, none⟩) lr).trans c0), cset_at ((b.cell (p := ⟨r, 1, none⟩) lr).trans c1), (cset_ne (by omega)).trans ((b.cell (p := ⟨r, 2, none⟩) lr).trans c2), fun i => fset_any.trans ((b.frozen (p := ⟨r, i, none⟩) lr).trans (f i)), holdsB_turn h t ne, ne⟩, t⟩)
  by_cases hle : at_ + s ≤ n
  · have CN := Lib.hid (fun w' (hb : Below w.heap.size w w') => (show Calls Tryz.prog 189 #[.slice a n cap, .int .i64 (at_ : Int), .int .i64 (s : Int)] w' fun e w'' => e = .returned (.tuple #[.int .i64 (numN bs at_ s : Nat), .bool true]) ∧ w' = w'' from by
      have h2 := num_yes a n cap bs at_ s w' (h.below hb) (by omega) h1 (by omega) hle
      rw [wrap_small _ (by
        have h3 := numN_lt bs at_ s h.2 (by rw [h.len]; omega)
        have h5 : 256 ^ s ≤ 256 ^ 4 := Nat.pow_le_pow_right (by decide) h4
        have : (256 : Nat) ^ 4 = 4294967296 := by decide
        omega)] at h2
      exact h2))
    cases bad with
    | false =>
      have e1 : okR n at_ s false = true := by unfold okR; simpa using hle
      have EN : numR bs n at_ s false = numN bs at_ s := by unfold numR; rw [e1]; rfl
      have EA : atR n at_ s false = at_ + s := by unfold atR; rw [e1]; rfl
      rw [EN, EA, e1]
      have e2 : (at_ : Int) + (s : Int) = ((at_ + s : Nat) : Int) := by omega
      obtain ⟨y, hy⟩ : ∃ y, at_ + s = y := ⟨_, rfl⟩
      rw [hy] at e2 ⊢
      clear hle h f hy e1 EN EA
      go_enter Tryz.func194, Tryz.ntmps194
      go_wp2_with fail
      go_quiet ((go_at_call 189; exact Calls.quiet_of_same ((CN.out _ (by first | exact (Below.refl _ _).drew | exact below_drewN _ _)).mono (fun _ _ h => ⟨h.1, h.2.symm⟩))))
      go_wp2_with fail
      go_ret
      exact ⟨rfl, STA.out nq y⟩
    | true =>
      have e1 : okR n at_ s true = false := rfl
      have EN : numR bs n at_ s true = 0 := rfl
      have EA : atR n at_ s true = at_ := rfl
      rw [EN, EA, e1]
      clear hle h f e1 EN EA
      go_enter Tryz.func194, Tryz.ntmps194
      go_wp2_with fail
      go_quiet ((go_at_call 189; exact Calls.quiet_of_same ((CN.out _ (by first | exact (Below.refl _ _).drew | exact below_drewN _ _)).mono (fun _ _ h => ⟨h.1, h.2.symm⟩))))
      go_wp2_with fail
      go_ret
      exact ⟨rfl, STB.out nq⟩
  · have CN := Lib.hid (fun w' => (show Calls Tryz.prog 189 #[.slice a n cap, .int .i64 (at_ : Int), .int .i64 (s : Int)] w' fun e w'' => e = .returned (.tuple #[.int .i64 0, .bool false]) ∧ w' = w'' from
      num_no a n cap at_ s w' (by omega) (by omega) (by omega)))
    have e1 : okR n at_ s bad = false := by unfold okR; rw [decide_eq_false hle, Bool.and_false]
    have EN : numR bs n at_ s bad = 0 := by unfold numR; rw [e1]; rfl
    have EA : atR n at_ s bad = at_ := by unfold atR; rw [e1]; rfl
    rw [EN, EA, e1]
    clear hle h f e1 EN EA
    cases bad
    all_goals
      go_enter Tryz.func194, Tryz.ntmps194
      go_wp2_with fail
      go_quiet ((go_at_call 189; exact Calls.quiet_of_same ((CN.out _).mono (fun _ _ h => ⟨h.1, h.2.symm⟩))))
      go_wp2_with fail
      go_ret
      exact ⟨rfl, STB.out nq⟩
theorem rdBad_any (r : Nat) (a : Option Addr) (n cap : Nat) (bs : List Nat) (at_ : Nat) (bad : Bool) (w : World) (m : RdM r a n cap bs at_ bad w) :
    Calls Tryz.prog 196 #[.pointer (some ⟨r, 0, none⟩)] w fun e w' => e = .returned (.bool bad) ∧ w = w' := by
  have c2 := m.c2
  clear m
  go_enter Tryz.func196, Tryz.ntmps196
  go_wp2_with fail
  go_ret
  exact ⟨rfl, rfl⟩
theorem rdDone_any (r : Nat) (a : Option Addr) (n cap : Nat) (bs : List Nat) (at_ : Nat) (bad : Bool) (w : World) (m : RdM r a n cap bs at_ bad w) :
    Calls Tryz.prog 197 #[.pointer (some ⟨r, 0, none⟩)] w fun e w' => e = .returned (.bool (!bad && decide (at_ = n))) ∧ Below w.heap.size w w' := by
  have c0 := m.c0
  have c1 := m.c1
  have c2 := m.c2
  have g0 := (World.cell?_of_block (w := w) (w' := w.drew) (a := ⟨r, 0, none⟩) rfl).trans c0
  have g1 := (World.cell?_of_block (w := w) (w' := w.drew) (a := ⟨r, 1, none⟩) rfl).trans c1
  have g2 := (World.cell?_of_block (w := w) (w' := w.drew) (a := ⟨r, 2, none⟩) rfl).trans c2
  clear m
  cases bad with
  | true =>
    go_enter Tryz.func197, Tryz.ntmps197
    go_wp2_with fail
    go_quiet (fail)
    go_wp2_with fail
    go_ret
    exact ⟨rfl, below_drewN _ _⟩
  | false =>
    by_cases he : at_ = n
    · subst he
      simp only [decide_true, Bool.not_false, Bool.and_true]
      have e1 : ((at_ : Int) == (at_ : Int)) = true := by simp
      go_enter Tryz.func197, Tryz.ntmps197
      go_wp2_with fail
      go_quiet (fail)
      go_wp2_with fail
      go_ret
      exact ⟨rfl, below_drewN _ _⟩
    · rw [decide_eq_false he, Bool.and_false]
      have e1 : ((at_ : Int) == (n : Int)) = false := by rw [beq_eq_false_iff_ne]; omega
      clear he
      go_enter Tryz.func197, Tryz.ntmps197
      go_wp2_with fail
      go_quiet (fail)
      go_wp2_with fail
      go_ret
      exact ⟨rfl, below_drewN _ _⟩
theorem rdRead_any (a : Option Addr) (n cap : Nat) (bs : List Nat) (w : World) (h : HoldsB w a n bs) (ha : ∀ q o, a = some ⟨q, o, none⟩ → q < w.heap.size) :
    Calls Tryz.prog 193 #[.slice a n cap] w fun e w' => e = .returned (.pointer (some ⟨w.heap.size, 0, none⟩)) ∧ RdM w.heap.size a n cap bs 0 false w' ∧ Below w.heap.size w w' ∧ w'.heap.size = w.heap.size + 1 := by
  have FIN := Lib.hid (show RdM w.heap.size a n cap bs 0 false (w.alloc (.cells #[.slice a n cap, .int .i64 0, .bool false] 312)) from
    ⟨by rw [cell_alloc rfl]; rfl, by rw [cell_alloc rfl]; rfl, by rw [cell_alloc rfl]; rfl, fun i => frozen_alloc rfl, h.below (below_one _ _), fun q o e => by have := ha q o e; omega⟩)
  have B := Lib.hid (below_one w (.cells #[.slice a n cap, .int .i64 0, .bool false] 312))
  clear h ha
  go_enter Tryz.func193, Tryz.ntmps193
  go_wp2_with fail
  go_ret
  exact ⟨rfl, FIN.out, B.out, by simp⟩
end Go.Proofs.YtgnaiahnednllaaGreat
namespace Go.Proofs.YtgnaiahnednllaaGreat
open Go.RowKit
set_option linter.unusedVariables false
set_option maxRecDepth 20000
/-- which list of bytes is ahead -/
def cmpL (x y : List UInt8) : Int := if Op.bytesLess x y = true then -1 else if (x == y) = true then 0 else 1
theorem less_irrefl : ∀ x : List UInt8, Op.bytesLess x x = false
  | [] => rfl
  | a :: x => by simp [Op.bytesLess, less_irrefl x]
theorem cmpL_same (x : List UInt8) : cmpL x x = 0 := by simp [cmpL, less_irrefl]
theorem cmpL_cons (p q : UInt8) (x y : List UInt8) : cmpL (p :: x) (q :: y) = if p.toNat < q.toNat then -1 else if q.toNat < p.toNat then 1 else cmpL x y := by
  rcases Nat.lt_trichotomy p.toNat q.toNat with h | h | h
  · have h' : p < q := h
    simp [cmpL, Op.bytesLess, h, h']
  · have e : p = q := UInt8.toNat_inj.1 h
    subst e
    simp [cmpL, Op.bytesLess]
  · have h1 : ¬ p < q := fun h' => absurd (show p.toNat < q.toNat from h') (by omega)
    have h2 : (p == q) = false := by simp; intro e; subst e; omega
    have h3 : ¬ p.toNat < q.toNat := by omega
    have h4 : p ≠ q := by intro e; subst e; omega
    simp [cmpL, Op.bytesLess, h, h1, h3, h4]
theorem cmpL_swap : ∀ x y : List UInt8, cmpL y x = - cmpL x y
  | [], [] => rfl
  | [], b :: y => by simp [cmpL, Op.bytesLess]
  | a :: x, [] => by simp [cmpL, Op.bytesLess]
  | a :: x, b :: y => by
    rw [cmpL_cons, cmpL_cons, cmpL_swap x y]
    split <;> split <;> (try omega) <;> simp_all <;> omega
def cmpS (a b : ByteArray) : Int := cmpL a.toList b.toList
theorem cmpL_bd (x y : List UInt8) : cmpL x y = -1 ∨ cmpL x y = 0 ∨ cmpL x y = 1 := by unfold cmpL; split; simp; split <;> simp
theorem isNaN_any (s : ByteArray) (w : World) : Calls Tryz.prog 213 #[.string s] w fun e w' => e = .returned (.bool false) ∧ w = w' := by
  go_enter Tryz.func213, Tryz.ntmps213
  go_wp2
  go_ret
  exact ⟨ret_bool (by simp), rfl⟩
theorem gcompare_any (a b : ByteArray) (w : World) : Calls Tryz.prog 160 #[.string a, .string b] w fun e w' => e = .returned (.int .i64 (cmpS a b)) ∧ w = w' := by
  unfold cmpS cmpL
  obtain ⟨p, hp⟩ : ∃ p, Op.bytesLess a.toList b.toList = p := ⟨_, rfl⟩
  obtain ⟨q, hq⟩ : ∃ q, (a.toList == b.toList) = q := ⟨_, rfl⟩
  rw [hp, hq]
  cases p <;> cases q
  all_goals
    go_enter Tryz.func160, Tryz.ntmps160
    go_wp2_with fail
    refine (isNaN_any a _).mono ?_
    rintro e w' ⟨rfl, rfl⟩
    go_wp2_with fail
    refine (isNaN_any b _).mono ?_
    rintro e w' ⟨rfl, rfl⟩
    go_wp2_with fail
    go_ret
    exact ⟨rfl, rfl⟩
theorem compare_any (a b : ByteArray) (w : World) : Calls Tryz.prog 107 #[.string a, .string b] w fun e w' => e = .returned (.int .i64 (cmpS a b)) ∧ w = w' := by
  go_enter Tryz.func107, Tryz.ntmps107
  go_wp2_with fail
  refine (gcompare_any a b _).mono ?_
  rintro e w' ⟨rfl, rfl⟩
  go_wp2_with fail
  go_ret
  exact ⟨rfl, rfl⟩
theorem bytes_lt (x y : List UInt8) : Op.bytesLess x y = decide (x < y) := Go.Proofs.bytesLess_eq x y
theorem cmpS_swap (a b : ByteArray) : cmpS b a = - cmpS a b := cmpL_swap _ _
theorem cmpS_same (a : ByteArray) : cmpS a a = 0 := cmpL_same _
theorem cmpS_bd (a b : ByteArray) : cmpS a b = -1 ∨ cmpS a b = 0 ∨ cmpS a b = 1 := cmpL_bd _ _
theorem toList_inj {a b : ByteArray} (h : a.toList = b.toList) : a = b := by
  rw [ByteArray.toList_eq, ByteArray.toList_eq] at h
  exact ByteArray.ext (Array.toList_inj.1 h)
theorem cmpS_zero {a b : ByteArray} : cmpS a b = 0 ↔ a = b := by
  constructor
  · intro h
    unfold cmpS cmpL at h
    split at h
    · omega
    · split at h
      · rename_i h2; exact toList_inj (by simpa using h2)
      · omega
  · rintro rfl; exact cmpS_same a
theorem cmpS_lt {a b : ByteArray} : cmpS a b < 0 ↔ a.toList < b.toList := by
  unfold cmpS cmpL
  rw [bytes_lt]
  constructor
  · intro h
    split at h
    · rename_i h2; simpa using h2
    · split at h <;> omega
  · intro h
    rw [if_pos (by simpa using h)]; omega
theorem cmpS_trans {a b c : ByteArray} (h : cmpS a b < 0) (k : cmpS b c < 0) : cmpS a c < 0 := by
  rw [cmpS_lt] at *
  exact List.lt_trans h k
end Go.Proofs.YtgnaiahnednllaaGreat
namespace Go.Proofs.YtgnaiahnednllaaGreat
/-- the runes from a place on, at most so many -/
def runesN (s : ByteArray) : Nat → Nat → List Nat
  | 0, _ => []
  | f + 1, pos => if pos < s.size then (Utf8.decode s pos).1 :: runesN s f (pos + (Utf8.decode s pos).2) else []
/-- the runes of a text, U+FFFD where there is none -/
def runesS (s : ByteArray) : List Nat := runesN s s.size 0
theorem runesN_end (s : ByteArray) (f pos : Nat) (h : ¬ pos < s.size) : runesN s f pos = [] := by
  cases f with
  | zero => rfl
  | succ f => rw [runesN, if_neg h]
theorem decode_width (s : ByteArray) (pos : Nat) (h : pos < s.size) : 1 ≤ (Utf8.decode s pos).2 := by
  by_cases ha : (s[pos]'h).toNat < 128
  · rw [decode_ascii s pos h ha]; exact Nat.le_refl _
  · exact (decode_high s pos h (by omega)).2
theorem runesN_step (s : ByteArray) (f pos : Nat) (h : pos < s.size) (hf : s.size ≤ pos + f) : ∃ g, f = g + 1 ∧ runesN s f pos = (Utf8.decode s pos).1 :: runesN s g (pos + (Utf8.decode s pos).2) ∧ s.size ≤ pos + (Utf8.decode s pos).2 + g := by
  cases f with
  | zero => omega
  | succ g => exact ⟨g, rfl, by rw [runesN, if_pos h], by have := decode_width s pos h; omega⟩
theorem runesN_le (s : ByteArray) (f : Nat) : ∀ pos, (runesN s f pos).length ≤ f := by
  induction f with
  | zero => intro pos; exact Nat.le_refl _
  | succ f ih =>
    intro pos
    rw [runesN]
    split
    · rw [List.length_cons]; have := ih (pos + (Utf8.decode s pos).2); omega
    · exact Nat.zero_le _
theorem runesS_le (s : ByteArray) : (runesS s).length ≤ s.size := runesN_le s s.size 0
/-- -1 if one of them is none -/
def lenS (s : ByteArray) : Int := if 65533 ∈ runesS s then -1 else ((runesS s).length : Int)
theorem lenS_bad {s : ByteArray} {P Q : List Nat} (h : runesS s = P ++ 65533 :: Q) : lenS s = -1 := by
  unfold lenS; rw [if_pos (by rw [h]; simp)]
theorem lenS_good {s : ByteArray} (h : ∀ r ∈ runesS s, r ≠ 65533) : lenS s = ((runesS s).length : Int) := by
  unfold lenS; rw [if_neg (fun h' => h _ h' rfl)]
theorem lenS_bd (s : ByteArray) : -1 ≤ lenS s ∧ lenS s ≤ s.size := by
  unfold lenS
  have := runesS_le s
  split <;> omega
theorem lenS_pos {s : ByteArray} (h : 0 ≤ lenS s) : (∀ r ∈ runesS s, r ≠ 65533) ∧ lenS s = ((runesS s).length : Int) := by
  by_cases hm : 65533 ∈ runesS s
  · unfold lenS at h; rw [if_pos hm] at h; omega
  · have hg : ∀ r ∈ runesS s, r ≠ 65533 := fun r hr e => hm (e ▸ hr)
    exact ⟨hg, lenS_good hg⟩
end Go.Proofs.YtgnaiahnednllaaGreat
namespace Go.Proofs.YtgnaiahnednllaaGreat
set_option linter.unusedVariables false
set_option maxRecDepth 20000
abbrev Tx := ByteArray
instance (t : Tx) (ts : List Tx) : Decidable (t ∈ ts) := decidable_of_iff (ts.any (fun x => decide (x = t)) = true) (by simp)
def wordP (t : Tx) : Prop := 1 ≤ lenS t ∧ lenS t ≤ 12
instance (t : Tx) : Decidable (wordP t) := by unfold wordP; infer_instance
def SortedS (xs : List Tx) : Prop := xs.Pairwise fun a b => cmpS a b < 0
/-- which lists are good -/
def adjP : List Tx → Prop
  | x :: y :: l => cmpS x y < 0 ∧ adjP (y :: l)
  | _ => True
theorem adj_sorted : ∀ {l : List Tx}, adjP l ↔ SortedS l
  | [] => by simp [adjP, SortedS]
  | [x] => by simp [adjP, SortedS]
  | x :: y :: l => by
    have ih := adj_sorted (l := y :: l)
    constructor
    · rintro ⟨h1, h2⟩
      have h3 := ih.1 h2
      refine List.pairwise_cons.2 ⟨fun z hz => ?_, h3⟩
      rcases List.mem_cons.1 hz with e | e
      · rw [e]; exact h1
      · exact cmpS_trans h1 ((List.pairwise_cons.1 h3).1 z e)
    · intro h
      obtain ⟨h1, h2⟩ := List.pairwise_cons.1 h
      exact ⟨h1 y (List.mem_cons_self ..), ih.2 h2⟩
theorem adj_iff (l : List Tx) : SortedS l ↔ ∀ i, i + 1 < l.length → cmpS (l.getD i ByteArray.empty) (l.getD (i + 1) ByteArray.empty) < 0 := by
  rw [← adj_sorted]
  induction l with
  | nil => simp [adjP]
  | cons x l ih =>
    cases l with
    | nil => simp [adjP]
    | cons y l =>
      constructor
      · rintro ⟨h1, h2⟩ i hi
        cases i with
        | zero => simpa using h1
        | succ i =>
          have := (ih.1 h2) i (by simpa using hi)
          simpa using this
      · intro h
        refine ⟨by simpa using h 0 (by simp), ih.2 fun i hi => ?_⟩
        have := h (i + 1) (by simpa using hi)
        simpa using this
instance (l : List Tx) : Decidable (SortedS l) := by unfold SortedS; infer_instance
def goodV (l : List Tx) : Int := if 60 < l.length then 3 else if ∃ t ∈ l, ¬ wordP t then 6 else if SortedS l then 0 else 7
theorem goodV_zero {l : List Tx} (h : goodV l = 0) : l.length ≤ 60 ∧ (∀ t ∈ l, wordP t) ∧ SortedS l := by
  unfold goodV at h
  split at h
  · omega
  · split at h
    · omega
    · split at h
      · rename_i h1 h2 h3
        exact ⟨by omega, fun t ht => Classical.byContradiction fun k => h2 ⟨t, ht, k⟩, h3⟩
      · omega
end Go.Proofs.YtgnaiahnednllaaGreat
namespace Go.Proofs.YtgnaiahnednllaaGreat
open Go.RowKit
set_option linter.unusedVariables false
set_option maxRecDepth 20000
set_option maxHeartbeats 400000 in
theorem len_any (s : ByteArray) (w : World) (hs : s.size ≤ 9223372036854775807) :
    Calls Tryz.prog 159 #[.string s] w fun e w' => e = .returned (.int .i64 (lenS s)) ∧ Below w.heap.size w w' := by
  go_enter Tryz.func159, Tryz.ntmps159
  go_wp2_with fail
  go_loopw [3] (fun n wr => ∃ (pos f : Nat) (P : List Nat), s.size ≤ pos + f ∧ n = .int .i64 P.length ∧ Hid (runesS s = P ++ runesN s f pos) ∧ Hid (∀ r ∈ P, r ≠ 65533) ∧ wr = w.iter s pos) (fun _ wr => s.size - wr.iterPos w.heap.size)
  case atStart => exact ⟨0, s.size, [], by omega, rfl, Lib.hid rfl, Lib.hid (by simp), rfl⟩
  case round =>
    obtain ⟨pos, f, P, hf, rfl, hP, hG, rfl⟩ := hrel
    by_cases hlt : pos < s.size
    · have hnx := fun ty => run_next_any (P := Tryz.prog) w s pos ty hlt
      obtain ⟨g, rfl, hst, hg⟩ := runesN_step s f pos hlt hf
      have hwd := decode_width s pos hlt
      have hlen : P.length < s.size := by
        have h1 := congrArg List.length hP.out
        rw [hst, List.length_append, List.length_cons] at h1
        have := runesS_le s
        omega
      have HST := Lib.hid hst
      obtain ⟨r, hr⟩ : ∃ r, (Utf8.decode s pos).1 = r := ⟨_, rfl⟩
      obtain ⟨wd, hwd2⟩ : ∃ wd, (Utf8.decode s pos).2 = wd := ⟨_, rfl⟩
      rw [hr, hwd2] at hnx HST; rw [hwd2] at hg hwd
      clear hst hr hwd2
      by_cases hbad : r = 65533
      · subst hbad
        go_wp2
        go_ret
        exact ⟨ret_int (lenS_bad (P := P) (Q := runesN s g (pos + wd)) (by rw [hP.out, HST.out])).symm, below_one _ _⟩
      · have hb : ((r : Int) == 65533) = false := by rw [beq_eq_false_iff_ne]; omega
        have HB := Lib.hid hbad
        clear hbad
        go_wp2
        go_roundw
        case rel => exact ⟨pos + wd, g, P ++ [r], hg, by rw [List.length_append]; go_num, Lib.hid (by rw [hP.out, HST.out]; simp), Lib.hid (by intro x hx; rcases List.mem_append.1 hx with hx | hx; exact hG.out x hx; simp at hx; rw [hx]; exact HB.out), rfl⟩
        case measure => simp; omega
    · have hnx := fun ty => run_next_end (P := Tryz.prog) w s pos ty hlt
      have he : runesS s = P := by rw [hP.out, runesN_end s f pos hlt, List.append_nil]
      have HE := Lib.hid he
      clear he
      go_wp2
      go_ret
      exact ⟨ret_int (by rw [lenS_good (by rw [HE.out]; exact hG.out), HE.out]), below_one _ _⟩
end Go.Proofs.YtgnaiahnednllaaGreat
namespace Go.Proofs.YtgnaiahnednllaaGreat
open Go.RowKit
set_option linter.unusedVariables false
set_option maxRecDepth 20000
theorem i32_info : (Tryz.prog.info? 21).map (fun i => (i.zero, i.size, i.bytes)) = some (some (.int .i32 0), 1, 4) := by kernel_rfl
/-- runes as numbers, as values -/
def intsN (rs : List Nat) : List Int := rs.map fun r : Nat => (r : Int)
def runesV (rs : List Int) : List Value := rs.map (Value.int .i32)
/-- A slice of runes that the call made. -/
def RetR (ER : TypeId) (w : World) (rs : List Int) (a : Option Addr) (c : Nat) (w' : World) : Prop :=
  w'.ownsRow w.heap.size ER 1 (.slice a rs.length c) rs.length (runesV rs) ∧ Below w.heap.size w w' ∧ (a = none → rs.length = 0 ∧ c = 0)
theorem runesV_snoc (P : List Nat) (r : Nat) : runesV (intsN (P ++ [r])) = runesV (intsN P) ++ [Value.int .i32 (r : Int)] := by simp [runesV, intsN]
theorem one_cells (w : World) (v : Value) (e : TypeId) (fr : Nat × Nat) : ∀ j u, [v][j]? = some u → (w.alloc (.cells #[v] e fr)).cell? ((⟨w.heap.size, 0, none⟩ : Addr).add j) = some u := one_new w v e fr _ rfl
theorem owns_iterAt {w : World} {base : Nat} {e : TypeId} {size : Nat} {v : Value} {n : Nat} {xs : List Value} (h : w.ownsRow base e size v n xs) {k : Nat} {s : ByteArray} {pos : Nat} (hk : w.heap[k]? = some (.stringIter s pos)) (pos' : Nat) :
    (w.iterAt k s pos').ownsRow base e size v n xs := by
  refine ⟨h.1, ?_⟩
  rcases h.2 with h0 | ⟨g, cap, cur, hv, hg, hh, r⟩
  · exact Or.inl h0
  · exact Or.inr ⟨g, cap, cur, hv, hg, by rw [Lib.iterAt_other w k g s pos' (fun e1 => by rw [e1, hk] at hh; cases hh)]; exact hh, r⟩
end Go.Proofs.YtgnaiahnednllaaGreat
namespace Go.Proofs.YtgnaiahnednllaaGreat
open Go.RowKit
set_option linter.unusedVariables false
set_option maxRecDepth 20000
def byteS (s : ByteArray) (i : Nat) : Nat := (s.get! i).toNat
theorem byteS_lt (s : ByteArray) (i : Nat) : byteS s i < 256 := UInt8.toNat_lt _
theorem byteS_at (s : ByteArray) (i : Nat) (h : i < s.size) : (s[i]'h).toNat = byteS s i := by
  unfold byteS
  obtain ⟨d⟩ := s
  have h' : i < d.size := h
  simp [ByteArray.get!, h', getElem!_pos]
  rfl
def moreP (s : ByteArray) (i : Nat) : Prop := i < s.size ∧ 128 ≤ byteS s i ∧ byteS s i ≤ 191
instance (s : ByteArray) (i : Nat) : Decidable (moreP s i) := by unfold moreP; infer_instance
def goodP (r : Int) : Prop := 0 ≤ r ∧ r ≤ 1114111 ∧ (r < 55296 ∨ 57343 < r) ∧ r ≠ 65533
instance (r : Int) : Decidable (goodP r) := by unfold goodP; infer_instance
end Go.Proofs.YtgnaiahnednllaaGreat

namespace Go.Proofs.YtgnaiahnednllaaGreat
open Go.RowKit
set_option linter.unusedVariables false
set_option maxRecDepth 20000
theorem byteS_out (s : ByteArray) (i : Nat) (h : s.size ≤ i) : byteS s i = 0 := by
  unfold byteS
  obtain ⟨d⟩ := s
  have h' : ¬ i < d.size := Nat.not_lt.2 h
  simp [ByteArray.get!, h', getElem!_neg]
  rfl
theorem byteS_left (a b : ByteArray) (i : Nat) (h : i < a.size) : byteS (a ++ b) i = byteS a i := by
  have h2 : i < (a ++ b).size := by rw [ByteArray.size_append]; omega
  rw [← byteS_at (a ++ b) i h2, ← byteS_at a i h, ByteArray.getElem_append_left h]
theorem byteS_right (a b : ByteArray) (i : Nat) : byteS (a ++ b) (a.size + i) = byteS b i := by
  by_cases h : i < b.size
  · have h2 : a.size + i < (a ++ b).size := by rw [ByteArray.size_append]; omega
    rw [← byteS_at (a ++ b) _ h2, ← byteS_at b i h, ByteArray.getElem_append_right (by omega)]
    simp
  · rw [byteS_out _ _ (by rw [ByteArray.size_append]; omega), byteS_out _ _ (by omega)]
theorem decode_bytes (s : ByteArray) (i : Nat) : Utf8.decode s i = Lib.decodeN (s.size - i) (byteS s i) (byteS s (i + 1)) (byteS s (i + 2)) (byteS s (i + 3)) := Lib.decode_at s i
theorem decode_right (a b : ByteArray) (j : Nat) : Utf8.decode (a ++ b) (a.size + j) = Utf8.decode b j := by
  rw [decode_bytes, decode_bytes, byteS_right, Nat.add_assoc, byteS_right, Nat.add_assoc, byteS_right, Nat.add_assoc, byteS_right, ByteArray.size_append]
  congr 1; omega
theorem decodeN_more (n n' b0 b1 b2 b3 c1 c2 c3 : Nat) (hn : n ≤ n') (h1 : 1 < n → c1 = b1) (h2 : 2 < n → c2 = b2) (h3 : 3 < n → c3 = b3) (hpos : 0 < n) (hg : (Lib.decodeN n b0 b1 b2 b3).1 ≠ 65533) :
    Lib.decodeN n' b0 c1 c2 c3 = Lib.decodeN n b0 b1 b2 b3 ∧ (Lib.decodeN n b0 b1 b2 b3).2 ≤ n := by
  unfold Lib.decodeN at *
  by_cases k0 : b0 < 128
  · simp only [k0, if_true] at *; exact ⟨trivial, by omega⟩
  simp only [k0, if_false] at *
  by_cases k1 : b0 / 32 = 6 ∧ 1 < n ∧ b1 / 64 = 2
  · have e1 := h1 k1.2.1
    subst e1
    rw [if_pos k1] at hg ⊢
    rw [if_pos ⟨k1.1, by omega, k1.2.2⟩]
    refine ⟨rfl, ?_⟩
    split <;> simp only <;> omega
  rw [if_neg k1] at hg ⊢
  by_cases k2 : b0 / 16 = 14 ∧ (1 < n ∧ b1 / 64 = 2) ∧ 2 < n ∧ b2 / 64 = 2
  · have e1 := h1 k2.2.1.1
    have e2 := h2 k2.2.2.1
    subst e1 e2
    rw [if_pos k2] at hg ⊢
    rw [if_neg (by omega), if_pos ⟨k2.1, ⟨by omega, k2.2.1.2⟩, by omega, k2.2.2.2⟩]
    refine ⟨rfl, ?_⟩
    split <;> simp only <;> omega
  rw [if_neg k2] at hg ⊢
  by_cases k3 : b0 / 8 = 30 ∧ (1 < n ∧ b1 / 64 = 2) ∧ (2 < n ∧ b2 / 64 = 2) ∧ 3 < n ∧ b3 / 64 = 2
  · have e1 := h1 k3.2.1.1
    have e2 := h2 k3.2.2.1.1
    have e3 := h3 k3.2.2.2.1
    subst e1 e2 e3
    rw [if_pos k3] at hg ⊢
    rw [if_neg (by omega), if_neg (by omega), if_pos ⟨k3.1, ⟨by omega, k3.2.1.2⟩, ⟨by omega, k3.2.2.1.2⟩, by omega, k3.2.2.2.2⟩]
    refine ⟨rfl, ?_⟩
    split <;> simp only <;> omega
  rw [if_neg k3] at hg
  exact absurd rfl hg
theorem decode_left (a b : ByteArray) (i : Nat) (h : i < a.size) (hg : (Utf8.decode a i).1 ≠ 65533) : Utf8.decode (a ++ b) i = Utf8.decode a i ∧ i + (Utf8.decode a i).2 ≤ a.size := by
  rw [decode_bytes a i] at hg ⊢
  rw [decode_bytes (a ++ b) i, byteS_left a b i h]
  have := decodeN_more (a.size - i) ((a ++ b).size - i) (byteS a i) (byteS a (i + 1)) (byteS a (i + 2)) (byteS a (i + 3)) (byteS (a ++ b) (i + 1)) (byteS (a ++ b) (i + 2)) (byteS (a ++ b) (i + 3))
    (by rw [ByteArray.size_append]; omega) (fun _ => byteS_left a b _ (by omega)) (fun _ => byteS_left a b _ (by omega)) (fun _ => byteS_left a b _ (by omega)) (by omega) hg
  exact ⟨this.1, by omega⟩
theorem runesN_fuel (s : ByteArray) : ∀ f g pos, s.size ≤ pos + f → s.size ≤ pos + g → runesN s f pos = runesN s g pos := by
  intro f
  induction f with
  | zero => intro g pos h1 h2; rw [runesN_end s 0 pos (by omega), runesN_end s g pos (by omega)]
  | succ f ih =>
    intro g pos h1 h2
    by_cases hlt : pos < s.size
    · obtain ⟨g', rfl, hst, _⟩ := runesN_step s g pos hlt h2
      have hw := decode_width s pos hlt
      rw [hst, runesN, if_pos hlt, ih g' _ (by omega) (by omega)]
    · rw [runesN_end s _ pos hlt, runesN_end s g pos hlt]
theorem runesN_right (a b : ByteArray) : ∀ f j, runesN (a ++ b) f (a.size + j) = runesN b f j := by
  intro f
  induction f with
  | zero => intro j; rfl
  | succ f ih =>
    intro j
    rw [runesN, runesN, decode_right, ByteArray.size_append, Nat.add_assoc, ih]
    by_cases h : j < b.size
    · rw [if_pos h, if_pos (by omega)]
    · rw [if_neg h, if_neg (by omega)]
theorem runesN_join (a b : ByteArray) : ∀ f pos, a.size ≤ pos + f → pos ≤ a.size → (∀ r ∈ runesN a f pos, r ≠ 65533) → ∀ F, (a ++ b).size ≤ pos + F → runesN (a ++ b) F pos = runesN a f pos ++ runesS b := by
  intro f
  induction f with
  | zero =>
    intro pos h1 h2 _ F hF
    obtain rfl : pos = a.size := by omega
    rw [runesN_end a 0 _ (by omega), List.nil_append]
    have := runesN_right a b F 0
    rw [Nat.add_zero] at this
    rw [this]
    exact runesN_fuel b F b.size 0 (by rw [ByteArray.size_append] at hF; omega) (by omega)
  | succ f ih =>
    intro pos h1 h2 hg F hF
    by_cases hlt : pos < a.size
    · rw [runesN, if_pos hlt] at hg ⊢
      have hgr := hg _ (List.mem_cons_self ..)
      obtain ⟨e1, e2⟩ := decode_left a b pos hlt hgr
      have hw := decode_width a pos hlt
      have hlt2 : pos < (a ++ b).size := by rw [ByteArray.size_append]; omega
      obtain ⟨F', rfl, hst, hF'⟩ := runesN_step (a ++ b) F pos hlt2 hF
      rw [hst, e1]
      rw [e1] at hF'
      rw [ih _ (by omega) e2 (fun r hr => hg r (List.mem_cons_of_mem _ hr)) F' hF']
      rfl
    · obtain rfl : pos = a.size := by omega
      rw [runesN_end a _ _ (by omega), List.nil_append]
      have := runesN_right a b F 0
      rw [Nat.add_zero] at this
      rw [this]
      exact runesN_fuel b F b.size 0 (by rw [ByteArray.size_append] at hF; omega) (by omega)
theorem runesS_join (a b : ByteArray) (hg : 0 ≤ lenS a) : runesS (a ++ b) = runesS a ++ runesS b :=
  runesN_join a b a.size 0 (by omega) (by omega) (lenS_pos hg).1 _ (by omega)
theorem lenS_join (a b : ByteArray) (ha : 0 ≤ lenS a) (hb : 0 ≤ lenS b) : lenS (a ++ b) = lenS a + lenS b := by
  have h1 := lenS_pos ha
  have h2 := lenS_pos hb
  have h3 := runesS_join a b ha
  rw [lenS_good (s := a ++ b) (by intro r hr; rw [h3] at hr; rcases List.mem_append.1 hr with h | h; exact h1.1 r h; exact h2.1 r h), h3, List.length_append, h1.2, h2.2]
  omega
theorem empty_of (a : ByteArray) (h : a.size = 0) : a = { data := #[] } := by
  apply ByteArray.ext
  exact Array.eq_empty_of_size_eq_zero h
theorem decodeN_bytes (n b0 b1 b2 b3 : Nat) (h0 : b0 < 256) (hg : (Lib.decodeN n b0 b1 b2 b3).1 ≠ 65533) :
    b0 < 248 ∧ (Lib.decodeN n b0 b1 b2 b3).2 ≤ 4 ∧ (1 < (Lib.decodeN n b0 b1 b2 b3).2 → b1 < 248) ∧ (2 < (Lib.decodeN n b0 b1 b2 b3).2 → b2 < 248) ∧ (3 < (Lib.decodeN n b0 b1 b2 b3).2 → b3 < 248) := by
  unfold Lib.decodeN at *
  by_cases k0 : b0 < 128
  · rw [if_pos k0]; simp only; omega
  rw [if_neg k0] at hg ⊢
  by_cases k1 : b0 / 32 = 6 ∧ 1 < n ∧ b1 / 64 = 2
  · rw [if_pos k1]
    split <;> simp only <;> omega
  rw [if_neg k1] at hg ⊢
  by_cases k2 : b0 / 16 = 14 ∧ (1 < n ∧ b1 / 64 = 2) ∧ 2 < n ∧ b2 / 64 = 2
  · rw [if_pos k2]
    split <;> simp only <;> omega
  rw [if_neg k2] at hg ⊢
  by_cases k3 : b0 / 8 = 30 ∧ (1 < n ∧ b1 / 64 = 2) ∧ (2 < n ∧ b2 / 64 = 2) ∧ 3 < n ∧ b3 / 64 = 2
  · rw [if_pos k3]
    split <;> simp only <;> omega
  rw [if_neg k3] at hg
  exact absurd rfl hg
theorem good_bytes (t : ByteArray) : ∀ f pos, t.size ≤ pos + f → (∀ r ∈ runesN t f pos, r ≠ 65533) → ∀ i, pos ≤ i → i < t.size → byteS t i < 248 := by
  intro f
  induction f with
  | zero => intro pos h1 _ i h2 h3; omega
  | succ f ih =>
    intro pos h1 hg i h2 h3
    have hlt : pos < t.size := by omega
    rw [runesN, if_pos hlt] at hg
    have hgr := hg _ (List.mem_cons_self ..)
    have hw := decode_width t pos hlt
    by_cases h4 : pos + (Utf8.decode t pos).2 ≤ i
    · exact ih _ (by omega) (fun r hr => hg r (List.mem_cons_of_mem _ hr)) i h4 h3
    · rw [decode_bytes] at hgr h4
      obtain ⟨g0, g5, g1, g2, g3⟩ := decodeN_bytes _ _ _ _ _ (byteS_lt t pos) hgr
      have hi : i = pos ∨ i = pos + 1 ∨ i = pos + 2 ∨ i = pos + 3 := by omega
      rcases hi with rfl | rfl | rfl | rfl
      · exact g0
      · exact g1 (by omega)
      · exact g2 (by omega)
      · exact g3 (by omega)
theorem lenS_spoilt (t : ByteArray) (i : Nat) (hi : i < t.size) (hb : 248 ≤ byteS t i) : lenS t = -1 := by
  have h1 := lenS_bd t
  by_cases hg : 0 ≤ lenS t
  · have := good_bytes t t.size 0 (by omega) (lenS_pos hg).1 i (by omega) hi
    omega
  · omega
theorem extract_join (s : ByteArray) (k : Nat) (hk : k ≤ s.size) : s.extract 0 k ++ s.extract k s.size = s := by
  apply ByteArray.ext
  simp only [ByteArray.data_extract, ByteArray.data_append]
  rw [Array.extract_append_extract]
  rw [show min 0 k = 0 by omega, show max k s.size = s.size by omega]
  exact Array.extract_eq_self_of_le (Nat.le_refl _)
theorem extract_size (s : ByteArray) (k : Nat) (hk : k ≤ s.size) : (s.extract 0 k).size = k ∧ (s.extract k s.size).size = s.size - k := by
  constructor <;> simp [ByteArray.size_extract] <;> omega
end Go.Proofs.YtgnaiahnednllaaGreat
namespace Go.Proofs.YtgnaiahnednllaaGreat
open Go.ChangeShapes Go.WideShapes Go.ChangeAt Go.RowKit Go.Deep
set_option linter.unusedVariables false
set_option maxRecDepth 20000
theorem open_rows_arg {H : Type} {enc : TypeId × Value → H} {P : Program} {W : World} {base : Nat} {t e : TypeId} {k : Nat} {v : Value} {d : DataW H} {p : List MemPlace}
    (ht : P.underlying t = some (.slice e)) (hc : P.cellsOf e = k) (hk : 0 < k) (good : List Value → Prop)
    (hgood : ∀ m cs y, DataW.trod enc P W 0 (fun _ => true) true m e cs = some y → good cs)
    (o : Value.okWide P W .any base t v) (h : DataW.Trod enc P W 0 (fun _ => true) true t v d p) :
    ∃ (a : Option Addr) (n cap : Nat) (R : Nat → List Value), v = .slice a n cap ∧ (a = none → n = 0 ∧ cap = 0) ∧ n ≤ cap ∧ cap ≤ maxLen ∧ (∀ i, i < n → good (R i)) ∧
      (0 < n → ∃ b o, a = some ⟨b, o, none⟩ ∧ ∀ i, i < n → ∀ j, j < k → W.cell? ⟨b, o + i * k + j, none⟩ = (R i)[j]?) := by
  obtain ⟨a, len, cap, rfl⟩ := okWide_slice ht o
  obtain ⟨fuel, hf⟩ := h
  rcases open_slice ht hf with ⟨hcs, _⟩ | ⟨x, l, c, m, n, D, Pl, hcs, _, hl, hm, hmm, _, hx⟩
  · simp [Value.cells] at hcs
    obtain ⟨rfl, rfl, rfl⟩ := hcs
    exact ⟨none, 0, 0, fun _ => [], rfl, fun _ => ⟨rfl, rfl⟩, Nat.le_refl _, by unfold maxLen; omega, by simp, by simp⟩
  · simp [Value.cells] at hcs
    obtain ⟨rfl, rfl, rfl⟩ := hcs
    simp at hmm
    subst hmm
    rw [hc] at hx
    have hR : ∀ i, ∃ cs' : List Value, i < m → W.cells? 0 (x.add (i * k)) k = some cs' ∧ good cs' := fun i => by
      by_cases hi : i < m
      · obtain ⟨cs', h1, h2⟩ := hx i hi
        exact ⟨cs', fun _ => ⟨h1, hgood _ _ _ h2⟩⟩
      · exact ⟨[], fun h => absurd h hi⟩
    refine ⟨some x, len, m, fun i => (hR i).choose, rfl, (fun h => by cases h), hl, hm, fun i hi => ((hR i).choose_spec (by omega)).2, fun h0 => ?_⟩
    have h1 := fun i (hi : i < m) => (World.cells?_some ((hR i).choose_spec hi).1)
    obtain ⟨b, off, spot⟩ := x
    have hspot : spot = none := by
      have h2 := (h1 0 (by omega)).2.2 0 hk
      have h3 := (h1 0 (by omega)).2.1
      have h4 : ((hR 0).choose)[0]? = some (((hR 0).choose)[0]'(by omega)) := List.getElem?_eq_getElem _
      rw [h4] at h2
      simpa [Addr.add] using World.cell?_spot h2
    subst hspot
    refine ⟨b, off, rfl, fun i hi j hj => ?_⟩
    have h2 := (h1 i (by omega)).2.2 j hj
    rw [← h2, Go.WideShapes.add_plain, Go.WideShapes.add_plain]
/-- the cells of a struct whose fields lie one behind the other, a cell each -/
theorem struct_cells {H : Type} {enc : TypeId × Value → H} {P : Program} {w : World} {base : Nat} {spare : Nat → Bool} {held : Bool} {fuel : Nat} {t : TypeId} {fs : Array Field} {cs : List Value} {x : DataW H × List MemPlace}
    (hs : P.underlying t = some (.struct fs)) (h : DataW.trod enc P w base spare held fuel t cs = some x) :
    cs.length = P.cellsOf t ∧ ∃ n, ∀ (i : Nat) (f : Field), fs[i]? = some f → ∃ y, DataW.trod enc P w base spare held n f.type ((cs.drop f.offset).take (P.cellsOf f.type)) = some y := by
  obtain ⟨xs, n, _, _, hl, hlen, hx⟩ := DataW.trod_struct hs h
  refine ⟨hl, n, fun i f hi => ?_⟩
  have h1 := hx i f hi
  have hlt : i < xs.length := by
    rw [hlen]
    rcases Nat.lt_or_ge i fs.size with h' | h'
    · exact h'
    · rw [Array.getElem?_eq_none h'] at hi; cases hi
  rw [List.getElem?_eq_getElem hlt] at h1
  exact ⟨_, h1⟩
end Go.Proofs.YtgnaiahnednllaaGreat
namespace Go.Proofs.YtgnaiahnednllaaGreat
open Go.RowKit
set_option linter.unusedVariables false
set_option maxRecDepth 20000
structure EdP where
  r : Int
  dst : Int
def ed0 : EdP := ⟨0, 0⟩
def cellsEd (x : EdP) : List Value := [(.int .i32 x.r), (.int .i64 x.dst)]
def HoldsEd (w : World) (a : Option Addr) (n : Nat) (ks : List EdP) : Prop := ks.length = n ∧ (0 < n → ∃ b o, a = some ⟨b, o, none⟩ ∧ ∀ i, i < n → w.cell? ⟨b, o + i * 2, none⟩ = some (.int .i32 (ks.getD i ed0).r) ∧ w.cell? ⟨b, o + i * 2 + 1, none⟩ = some (.int .i64 (ks.getD i ed0).dst))
theorem HoldsEd.len {w : World} {a : Option Addr} {n : Nat} {ks : List EdP} (h : HoldsEd w a n ks) : ks.length = n := h.1
theorem HoldsEd.at {w : World} {a : Option Addr} {n : Nat} {ks : List EdP} (h : HoldsEd w a n ks) (h0 : 0 < n) : ∃ b o, a = some ⟨b, o, none⟩ ∧ ∀ i, i < n → w.cell? ⟨b, o + i * 2, none⟩ = some (.int .i32 (ks.getD i ed0).r) ∧ w.cell? ⟨b, o + i * 2 + 1, none⟩ = some (.int .i64 (ks.getD i ed0).dst) := h.2 h0
theorem HoldsEd.nil (w : World) (a : Option Addr) : HoldsEd w a 0 [] := ⟨rfl, fun h => absurd h (by omega)⟩
theorem HoldsEd.below {w w' : World} {a : Option Addr} {n : Nat} {ks : List EdP} (h : HoldsEd w a n ks) (hb : Below w.heap.size w w') : HoldsEd w' a n ks := by
  refine ⟨h.1, fun h0 => ?_⟩
  obtain ⟨b, o, ha, hc⟩ := h.2 h0
  have hlt := lt_of_cell (hc 0 h0).1
  refine ⟨b, o, ha, fun i hi => ?_⟩
  rw [hb.cell (p := ⟨b, o + i * 2, none⟩) hlt, hb.cell (p := ⟨b, o + i * 2 + 1, none⟩) hlt]
  exact hc i hi
def edsV : List EdP → List Value
  | [] => []
  | k :: ks => (.int .i32 k.r) :: (.int .i64 k.dst) :: edsV ks
theorem edsV_len : ∀ ks : List EdP, (edsV ks).length = ks.length * 2
  | [] => rfl
  | k :: ks => by simp [edsV, edsV_len ks]; omega
theorem edsV_app : ∀ ks ls : List EdP, edsV (ks ++ ls) = edsV ks ++ edsV ls
  | [], ls => rfl
  | k :: ks, ls => by simp [edsV, edsV_app ks ls]
theorem edsV_one : ∀ (ks : List EdP), ∀ u ∈ edsV ks, u.oneCell' = true
  | [], u, h => by simp [edsV] at h
  | k :: ks, u, h => by
    simp only [edsV, List.mem_cons] at h
    rcases h with h | h | h
    · subst h; rfl
    · subst h; rfl
    · exact edsV_one ks u h
theorem edsV_at : ∀ (ks : List EdP) (i : Nat), i < ks.length → (edsV ks)[i * 2]? = some (.int .i32 (ks.getD i ed0).r) ∧ (edsV ks)[i * 2 + 1]? = some (.int .i64 (ks.getD i ed0).dst)
  | [], i, h => by simp at h
  | k :: ks, 0, _ => by simp [edsV]
  | k :: ks, i + 1, h => by
    have ih := edsV_at ks i (by simpa using h)
    have e1 : (i + 1) * 2 = i * 2 + 1 + 1 := by omega
    rw [e1]
    simpa [edsV] using ih
theorem edsV_snoc (ks : List EdP) (k : EdP) : edsV (ks ++ [k]) = edsV ks ++ cellsEd k := by rw [edsV_app]; rfl
theorem HoldsEd.cells {w : World} {b o n : Nat} {ks : List EdP} (h : HoldsEd w (some ⟨b, o, none⟩) n ks) : ∀ j u, (edsV ks)[j]? = some u → w.cell? ((⟨b, o, none⟩ : Addr).add j) = some u := by
  intro j u hj
  have hl := h.len
  have hjl : j < (edsV ks).length := by
    rcases Nat.lt_or_ge j (edsV ks).length with h' | h'
    · exact h'
    · rw [List.getElem?_eq_none h'] at hj; cases hj
  rw [edsV_len] at hjl
  obtain ⟨b', o', ha, hc⟩ := h.at (by omega)
  cases ha
  obtain ⟨c0, c1⟩ := hc (j / 2) (by omega)
  obtain ⟨v0, v1⟩ := edsV_at ks (j / 2) (by omega)
  rw [Go.WideShapes.add_plain]
  have hcase : j = j / 2 * 2 ∨ j = j / 2 * 2 + 1 := by omega
  rcases hcase with e | e
  · have e2 : o + j / 2 * 2 = o + j := by omega
    rw [← e] at v0
    rw [e2] at c0
    rw [c0, ← hj, v0]
  · have e2 : o + j / 2 * 2 + 1 = o + j := by omega
    rw [← e] at v1
    rw [e2] at c1
    rw [c1, ← hj, v1]
theorem HoldsEd.own {w : World} {B : Nat} {e : TypeId} {a : Option Addr} {n c : Nat} {ks : List EdP} (h : w.ownsRow B e 2 (.slice a n c) n (edsV ks)) : HoldsEd w a n ks := by
  have hl : ks.length = n := by have := h.1; rw [edsV_len] at this; omega
  refine ⟨hl, fun h0 => ?_⟩
  rcases h.2 with ⟨_, h1⟩ | ⟨g, cap, cur, hv, _, hh, hc, _, hs, hx⟩
  · omega
  · simp only [Value.slice.injEq] at hv
    obtain ⟨rfl, _, rfl⟩ := hv
    refine ⟨g, 0, rfl, fun i hi => ?_⟩
    obtain ⟨v0, v1⟩ := edsV_at ks i (by omega)
    rw [← hx] at v0 v1
    rw [List.getElem?_take_of_lt (by omega)] at v0 v1
    rw [Array.getElem?_toList] at v0 v1
    rw [Nat.zero_add, Joins.cell_of_block hh, Joins.cell_of_block hh]
    exact ⟨v0, v1⟩
theorem HoldsEd.cellsAny {w : World} {a : Option Addr} {n : Nat} {ks : List EdP} (h : HoldsEd w a n ks) {w' : World} (hg : w.grownBy w' none) : ∀ ad, a = some ad → ∀ j u, (edsV ks)[j]? = some u → w'.cell? (ad.add j) = some u := by
  intro ad ha j u hj
  have hjl : j < (edsV ks).length := (List.getElem?_eq_some_iff.1 hj).1
  rw [edsV_len] at hjl
  obtain ⟨b, o, hb, _⟩ := h.at (by have := h.len; omega)
  rw [ha] at hb
  obtain rfl := Option.some.inj hb
  subst ha
  exact hg.cell (h.cells j u hj) (by simp)
end Go.Proofs.YtgnaiahnednllaaGreat
namespace Go.Proofs.YtgnaiahnednllaaGreat
open Go.RowKit
set_option linter.unusedVariables false
set_option maxRecDepth 20000
def labS (s : Tx) : Nat := (Utf8.decode s 0).1
def rstS (s : Tx) : Tx := s.extract (Utf8.decode s 0).2 s.size
/-- the first rune of the first, and what is behind it in all that begin so -/
def folS : List Tx → Nat × List Tx
  | [] => (0, [])
  | s :: l => (labS s, ((s :: l).takeWhile (fun t => decide (labS t = labS s))).map rstS)
structure GN where
  rests : List Tx
  final : Bool
  edges : List EdP
def gn0 : GN := ⟨[], false, []⟩
def finS (l : List Tx) : Bool := decide (l.head? = some (⟨#[]⟩ : ByteArray))
def bodS (l : List Tx) : List Tx := if finS l then l.tail else l
def edgesF (rf : List GN → List Tx → Nat × List GN) : Nat → List Tx → List EdP → List GN → List EdP × List GN
  | 0, _, es, st => (es, st)
  | f + 1, l, es, st => if l = [] then (es, st) else edgesF rf f (l.drop (folS l).2.length) (es ++ [⟨((folS l).1 : Int), ((rf st (folS l).2).1 : Int)⟩]) (rf st (folS l).2).2
def findG (st : List GN) (s : List Tx) : Option Nat := st.findIdx? (fun g => decide (g.rests = s))
def reachF : Nat → List GN → List Tx → Nat × List GN
  | 0, st, _ => (0, st)
  | f + 1, st, s =>
    match findG st s with
    | some i => (i, st)
    | none => (st.length, (edgesF (reachF f) (bodS s).length (bodS s) [] (st ++ [⟨s, false, []⟩])).2.set st.length ⟨s, finS s, (edgesF (reachF f) (bodS s).length (bodS s) [] (st ++ [⟨s, false, []⟩])).1⟩)
/-- texts in order, each well made, of at most f runes; not too many, nor too long -/
structure OkL (f : Nat) (l : List Tx) : Prop where
  ord : SortedS l
  lo : ∀ t ∈ l, 0 ≤ lenS t
  hi : ∀ t ∈ l, lenS t ≤ f
  n : l.length ≤ 100
  sz : ∀ t ∈ l, t.size ≤ 100
theorem fol_len (l : List Tx) (h : l ≠ []) : 0 < (folS l).2.length ∧ (folS l).2.length ≤ l.length := by
  cases l with
  | nil => exact absurd rfl h
  | cons s l =>
    unfold folS
    simp only [List.length_map]
    rw [List.takeWhile_cons, if_pos (by simp)]
    have := (List.takeWhile_sublist (l := l) (fun t => decide (labS t = labS s))).length_le
    simp; omega
theorem empty_size {t : Tx} (h : t.size = 0) : t = ⟨#[]⟩ := by
  have := empty_of t h; exact this
theorem cmp_empty (t : Tx) : ¬ cmpS t ⟨#[]⟩ < 0 := by
  rw [cmpS_lt]
  intro h
  have : (⟨#[]⟩ : ByteArray).toList = [] := by kernel_rfl
  rw [this] at h
  exact List.not_lt_nil _ h
theorem bod_pos {l : List Tx} (h : SortedS l) : ∀ t ∈ bodS l, 0 < t.size := by
  intro t ht
  cases l with
  | nil => simp [bodS, finS] at ht
  | cons s l =>
    unfold bodS at ht
    have hp := List.pairwise_cons.1 h
    by_cases hf : finS (s :: l) = true
    · rw [if_pos hf] at ht
      have hc := hp.1 t ht
      rcases Nat.eq_zero_or_pos t.size with h0 | h0
      · rw [empty_size h0] at hc
        exact absurd hc (cmp_empty s)
      · exact h0
    · rw [if_neg hf] at ht
      have hs : 0 < s.size := by
        rcases Nat.eq_zero_or_pos s.size with h0 | h0
        · exact absurd (by unfold finS; rw [empty_size h0]; simp) hf
        · exact h0
      rcases List.mem_cons.1 ht with rfl | ht
      · exact hs
      · have hc := hp.1 t ht
        rcases Nat.eq_zero_or_pos t.size with h0 | h0
        · rw [empty_size h0] at hc
          exact absurd hc (cmp_empty s)
        · exact h0
theorem OkL.bod {f : Nat} {l : List Tx} (h : OkL f l) : OkL f (bodS l) := by
  unfold bodS
  split
  · exact ⟨List.Pairwise.tail h.ord, fun t ht => h.lo t (List.mem_of_mem_tail ht), fun t ht => h.hi t (List.mem_of_mem_tail ht), by rw [List.length_tail]; have := h.n; omega, fun t ht => h.sz t (List.mem_of_mem_tail ht)⟩
  · exact h
theorem OkL.drop {f : Nat} {l : List Tx} (h : OkL f l) (k : Nat) : OkL f (l.drop k) :=
  ⟨List.Pairwise.sublist (List.drop_sublist _ _) h.ord, fun t ht => h.lo t (List.mem_of_mem_drop ht), fun t ht => h.hi t (List.mem_of_mem_drop ht), by rw [List.length_drop]; have := h.n; omega, fun t ht => h.sz t (List.mem_of_mem_drop ht)⟩
theorem good_first {t : Tx} (h : 0 ≤ lenS t) (h0 : 0 < t.size) : (Utf8.decode t 0).1 ≠ 65533 ∧ (Utf8.decode t 0).2 ≤ t.size ∧ runesS t = labS t :: runesN t (t.size - 1) (Utf8.decode t 0).2 := by
  obtain ⟨g, hg, hs, _⟩ := runesN_step t t.size 0 h0 (by omega)
  have hr : runesS t = labS t :: runesN t g (Utf8.decode t 0).2 := by
    show runesN t t.size 0 = _
    rw [hs, Nat.zero_add]; rfl
  have hn : (Utf8.decode t 0).1 ≠ 65533 := (lenS_pos h).1 _ (by rw [hr]; exact List.mem_cons_self ..)
  have hw := (decode_left t t 0 h0 hn).2
  refine ⟨hn, by omega, ?_⟩
  rw [hr, show t.size - 1 = g by omega]
theorem rst_split {t : Tx} (h : 0 ≤ lenS t) (h0 : 0 < t.size) : t.extract 0 (Utf8.decode t 0).2 ++ rstS t = t := extract_join t _ (good_first h h0).2.1
theorem rst_size {t : Tx} (h : 0 ≤ lenS t) (h0 : 0 < t.size) : (rstS t).size = t.size - (Utf8.decode t 0).2 ∧ (rstS t).size < t.size := by
  have h1 := (good_first h h0).2.1
  have h2 := (extract_size t _ h1).2
  have h3 := decode_width t 0 h0
  unfold rstS
  omega
theorem rst_runes {t : Tx} (h : 0 ≤ lenS t) (h0 : 0 < t.size) : runesS t = labS t :: runesS (rstS t) := by
  obtain ⟨h1, h2, h3⟩ := good_first h h0
  have hz := (extract_size t (Utf8.decode t 0).2 h2).1
  have hr := rst_split h h0
  have hs := (rst_size h h0).1
  have hw := decode_width t 0 h0
  rw [h3]
  refine congrArg (List.cons (labS t)) ?_
  have e : runesN t (t.size - 1) (Utf8.decode t 0).2 = runesN (t.extract 0 (Utf8.decode t 0).2 ++ rstS t) (t.size - 1) ((t.extract 0 (Utf8.decode t 0).2).size + 0) := by rw [hr, hz, Nat.add_zero]
  rw [e, runesN_right]
  show runesN (rstS t) (t.size - 1) 0 = runesN (rstS t) (rstS t).size 0
  exact runesN_fuel (rstS t) (t.size - 1) (rstS t).size 0 (by omega) (by omega)
theorem rst_len {t : Tx} (h : 0 ≤ lenS t) (h0 : 0 < t.size) : 0 ≤ lenS (rstS t) ∧ lenS t = lenS (rstS t) + 1 := by
  have hr := rst_runes h h0
  obtain ⟨h1, h2⟩ := lenS_pos h
  have hg : ∀ r ∈ runesS (rstS t), r ≠ 65533 := fun r hm => h1 r (by rw [hr]; exact List.mem_cons_of_mem _ hm)
  have := lenS_good hg
  rw [h2, hr, List.length_cons, this]
  omega
end Go.Proofs.YtgnaiahnednllaaGreat
namespace Go.Proofs.YtgnaiahnednllaaGreat
open Go.RowKit
set_option linter.unusedVariables false
set_option maxRecDepth 20000
theorem drop_at (s : ByteArray) (j : Nat) (h : j < s.size) : ∃ c : UInt8, s.toList.drop j = c :: s.toList.drop (j + 1) ∧ c.toNat = byteS s j := by
  have hl : j < s.toList.length := by rw [ByteArray.toList_eq, Array.length_toList]; exact h
  refine ⟨s.toList[j], (List.drop_eq_getElem_cons hl), ?_⟩
  rw [← byteS_at s j h]
  simp only [ByteArray.toList_eq, Array.getElem_toList]
  rfl
theorem drop_end (s : ByteArray) (j : Nat) (h : s.size ≤ j) : s.toList.drop j = [] := by
  apply List.drop_eq_nil_of_le
  rw [ByteArray.toList_eq, Array.length_toList]; exact h
end Go.Proofs.YtgnaiahnednllaaGreat
namespace Go.Proofs.YtgnaiahnednllaaGreat
open Go.RowKit
set_option linter.unusedVariables false
set_option maxRecDepth 20000
/-- what a rune's bytes are -/
def Enc (r w b0 b1 b2 b3 : Nat) : Prop :=
  (w = 1 ∧ b0 = r ∧ r < 128) ∨ (w = 2 ∧ b0 = 192 + r / 64 ∧ b1 = 128 + r % 64 ∧ 128 ≤ r ∧ r < 2048) ∨
  (w = 3 ∧ b0 = 224 + r / 4096 ∧ b1 = 128 + r / 64 % 64 ∧ b2 = 128 + r % 64 ∧ 2048 ≤ r ∧ r < 65536) ∨
  (w = 4 ∧ b0 = 240 + r / 262144 ∧ b1 = 128 + r / 4096 % 64 ∧ b2 = 128 + r / 64 % 64 ∧ b3 = 128 + r % 64 ∧ 65536 ≤ r ∧ r ≤ 1114111)
theorem enc_two {b2 b3 : Nat} (x y : Nat) (hx : x < 32) (hy : y < 64) (h : 128 ≤ x * 64 + y) : Enc (x * 64 + y) 2 (192 + x) (128 + y) b2 b3 :=
  Or.inr (Or.inl ⟨rfl, by omega, by omega, h, by omega⟩)
theorem enc_three {b3 : Nat} (x y z : Nat) (hx : x < 16) (hy : y < 64) (hz : z < 64) (h : 2048 ≤ x * 4096 + y * 64 + z) : Enc (x * 4096 + y * 64 + z) 3 (224 + x) (128 + y) (128 + z) b3 :=
  Or.inr (Or.inr (Or.inl ⟨rfl, by omega, by omega, by omega, h, by omega⟩))
theorem enc_four (x y z t : Nat) (hx : x < 8) (hy : y < 64) (hz : z < 64) (ht : t < 64) (h : 65536 ≤ x * 262144 + y * 4096 + z * 64 + t) (h2 : x * 262144 + y * 4096 + z * 64 + t ≤ 1114111) : Enc (x * 262144 + y * 4096 + z * 64 + t) 4 (240 + x) (128 + y) (128 + z) (128 + t) :=
  Or.inr (Or.inr (Or.inr ⟨rfl, by omega, by omega, by omega, by omega, h, h2⟩))
theorem decodeN_enc (n b0 b1 b2 b3 : Nat) (h0 : b0 < 256) (hg : (Lib.decodeN n b0 b1 b2 b3).1 ≠ 65533) :
    Enc (Lib.decodeN n b0 b1 b2 b3).1 (Lib.decodeN n b0 b1 b2 b3).2 b0 b1 b2 b3 := by
  unfold Lib.decodeN at *
  by_cases k0 : b0 < 128
  · rw [if_pos k0]; exact Or.inl ⟨rfl, rfl, k0⟩
  rw [if_neg k0] at hg ⊢
  by_cases k1 : b0 / 32 = 6 ∧ 1 < n ∧ b1 / 64 = 2
  · rw [if_pos k1] at hg ⊢
    by_cases h : b0 % 32 * 64 + b1 % 64 ≥ 128
    · rw [if_pos h]
      have e := enc_two (b2 := b2) (b3 := b3) (b0 % 32) (b1 % 64) (by omega) (by omega) h
      rw [show 192 + b0 % 32 = b0 by omega, show 128 + b1 % 64 = b1 by omega] at e
      exact e
    · rw [if_neg h] at hg; exact absurd rfl hg
  rw [if_neg k1] at hg ⊢
  by_cases k2 : b0 / 16 = 14 ∧ (1 < n ∧ b1 / 64 = 2) ∧ 2 < n ∧ b2 / 64 = 2
  · rw [if_pos k2] at hg ⊢
    by_cases h : b0 % 16 * 4096 + b1 % 64 * 64 + b2 % 64 ≥ 2048 ∧ (b0 % 16 * 4096 + b1 % 64 * 64 + b2 % 64 < 55296 ∨ (57344 ≤ b0 % 16 * 4096 + b1 % 64 * 64 + b2 % 64 ∧ b0 % 16 * 4096 + b1 % 64 * 64 + b2 % 64 ≤ 1114111))
    · rw [if_pos h]
      have e := enc_three (b3 := b3) (b0 % 16) (b1 % 64) (b2 % 64) (by omega) (by omega) (by omega) h.1
      rw [show 224 + b0 % 16 = b0 by omega, show 128 + b1 % 64 = b1 by omega, show 128 + b2 % 64 = b2 by omega] at e
      exact e
    · rw [if_neg h] at hg; exact absurd rfl hg
  rw [if_neg k2] at hg ⊢
  by_cases k3 : b0 / 8 = 30 ∧ (1 < n ∧ b1 / 64 = 2) ∧ (2 < n ∧ b2 / 64 = 2) ∧ 3 < n ∧ b3 / 64 = 2
  · rw [if_pos k3] at hg ⊢
    by_cases h : b0 % 8 * 262144 + b1 % 64 * 4096 + b2 % 64 * 64 + b3 % 64 ≥ 65536 ∧ (b0 % 8 * 262144 + b1 % 64 * 4096 + b2 % 64 * 64 + b3 % 64 < 55296 ∨ (57344 ≤ b0 % 8 * 262144 + b1 % 64 * 4096 + b2 % 64 * 64 + b3 % 64 ∧ b0 % 8 * 262144 + b1 % 64 * 4096 + b2 % 64 * 64 + b3 % 64 ≤ 1114111))
    · rw [if_pos h]
      have e := enc_four (b0 % 8) (b1 % 64) (b2 % 64) (b3 % 64) (by omega) (by omega) (by omega) (by omega) h.1 (by omega)
      rw [show 240 + b0 % 8 = b0 by omega, show 128 + b1 % 64 = b1 by omega, show 128 + b2 % 64 = b2 by omega, show 128 + b3 % 64 = b3 by omega] at e
      exact e
    · rw [if_neg h] at hg; exact absurd rfl hg
  rw [if_neg k3] at hg
  exact absurd rfl hg
theorem enc_eq {r w v b0 b1 b2 b3 c0 c1 c2 c3 : Nat} (h : Enc r w b0 b1 b2 b3) (k : Enc r v c0 c1 c2 c3) : w = v ∧ b0 = c0 ∧ (1 < w → b1 = c1) ∧ (2 < w → b2 = c2) ∧ (3 < w → b3 = c3) := by
  unfold Enc at *; omega
def Ahead (w v b0 b1 b2 b3 c0 c1 c2 c3 : Nat) : Prop :=
  b0 < c0 ∨ (b0 = c0 ∧ 1 < w ∧ 1 < v ∧ (b1 < c1 ∨ (b1 = c1 ∧ 2 < w ∧ 2 < v ∧ (b2 < c2 ∨ (b2 = c2 ∧ 3 < w ∧ 3 < v ∧ b3 < c3)))))
theorem enc_lt {r s w v b0 b1 b2 b3 c0 c1 c2 c3 : Nat} (h : Enc r w b0 b1 b2 b3) (k : Enc s v c0 c1 c2 c3) (hl : r < s) : Ahead w v b0 b1 b2 b3 c0 c1 c2 c3 := by
  unfold Enc at h k
  unfold Ahead
  rcases h with h | h | h | h <;> rcases k with k | k | k | k <;> omega
/-- which list of runes is ahead -/
def lexN : List Nat → List Nat → Int
  | [], [] => 0
  | [], _ :: _ => -1
  | _ :: _, [] => 1
  | r :: x, s :: y => if r < s then -1 else if s < r then 1 else lexN x y
theorem cmp_step (a b : ByteArray) (p q : Nat) (hp : p < a.size) (hq : q < b.size) :
    cmpL (a.toList.drop p) (b.toList.drop q) = if byteS a p < byteS b q then -1 else if byteS b q < byteS a p then 1 else cmpL (a.toList.drop (p + 1)) (b.toList.drop (q + 1)) := by
  obtain ⟨c, hc1, hc2⟩ := drop_at a p hp
  obtain ⟨d, hd1, hd2⟩ := drop_at b q hq
  rw [hc1, hd1, cmpL_cons, hc2, hd2]
theorem cmp_ahead (a b : ByteArray) (p q w v : Nat) (hw : p + w ≤ a.size) (hv : q + v ≤ b.size) (h1 : 1 ≤ w) (h2 : 1 ≤ v) (h : Ahead w v (byteS a p) (byteS a (p + 1)) (byteS a (p + 2)) (byteS a (p + 3)) (byteS b q) (byteS b (q + 1)) (byteS b (q + 2)) (byteS b (q + 3))) :
    cmpL (a.toList.drop p) (b.toList.drop q) = -1 := by
  rw [cmp_step a b p q (by omega) (by omega)]
  rcases h with h | ⟨e0, w1, v1, h⟩
  · rw [if_pos h]
  rw [if_neg (by omega), if_neg (by omega), cmp_step a b (p + 1) (q + 1) (by omega) (by omega)]
  rcases h with h | ⟨e1, w2, v2, h⟩
  · rw [if_pos h]
  rw [if_neg (by omega), if_neg (by omega), cmp_step a b (p + 1 + 1) (q + 1 + 1) (by omega) (by omega)]
  simp only [Nat.add_assoc, Nat.reduceAdd]
  rcases h with h | ⟨e2, w3, v3, h⟩
  · rw [if_pos h]
  rw [if_neg (by omega), if_neg (by omega), cmp_step a b (p + 3) (q + 3) (by omega) (by omega), if_pos h]
theorem cmp_skip (a b : ByteArray) : ∀ w p q, p + w ≤ a.size → q + w ≤ b.size → (∀ t, t < w → byteS a (p + t) = byteS b (q + t)) → cmpL (a.toList.drop p) (b.toList.drop q) = cmpL (a.toList.drop (p + w)) (b.toList.drop (q + w)) := by
  intro w
  induction w with
  | zero => intro p q _ _ _; rfl
  | succ w ih =>
    intro p q h1 h2 h
    have h0 := h 0 (by omega)
    simp only [Nat.add_zero] at h0
    rw [cmp_step a b p q (by omega) (by omega), if_neg (by omega), if_neg (by omega), ih (p + 1) (q + 1) (by omega) (by omega) (fun t ht => by have := h (t + 1) (by omega); rw [show p + 1 + t = p + (t + 1) by omega, show q + 1 + t = q + (t + 1) by omega]; exact this)]
    rw [show p + 1 + w = p + (w + 1) by omega, show q + 1 + w = q + (w + 1) by omega]
theorem decode_fits (a : ByteArray) (i : Nat) (h : i < a.size) (hg : (Utf8.decode a i).1 ≠ 65533) : i + (Utf8.decode a i).2 ≤ a.size := (decode_left a a i h hg).2
theorem cmp_runes (a b : ByteArray) : ∀ f p g q, a.size ≤ p + f → b.size ≤ q + g → (∀ r ∈ runesN a f p, r ≠ 65533) → (∀ r ∈ runesN b g q, r ≠ 65533) → cmpL (a.toList.drop p) (b.toList.drop q) = lexN (runesN a f p) (runesN b g q) := by
  intro f
  induction f with
  | zero =>
    intro p g q h1 h2 _ _
    rw [drop_end a p (by omega)]
    by_cases hq : q < b.size
    · obtain ⟨g', rfl, hst, _⟩ := runesN_step b g q hq h2
      obtain ⟨d, hd1, _⟩ := drop_at b q hq
      rw [hst, hd1]; simp [runesN, lexN, cmpL, Op.bytesLess]
    · rw [runesN_end b g q hq, drop_end b q (by omega)]; rfl
  | succ f ih =>
    intro p g q h1 h2 ha hb
    by_cases hp : p < a.size
    · rw [runesN, if_pos hp] at ha ⊢
      have hga := ha _ (List.mem_cons_self ..)
      have hwa := decode_width a p hp
      have hfa := decode_fits a p hp hga
      by_cases hq : q < b.size
      · obtain ⟨g', rfl, hst, hg'⟩ := runesN_step b g q hq h2
        rw [hst] at hb ⊢
        have hgb := hb _ (List.mem_cons_self ..)
        have hwb := decode_width b q hq
        have hfb := decode_fits b q hq hgb
        have ea : Enc (Utf8.decode a p).1 (Utf8.decode a p).2 (byteS a p) (byteS a (p + 1)) (byteS a (p + 2)) (byteS a (p + 3)) := by
          rw [decode_bytes] at hga ⊢; exact decodeN_enc _ _ _ _ _ (byteS_lt _ _) hga
        have eb : Enc (Utf8.decode b q).1 (Utf8.decode b q).2 (byteS b q) (byteS b (q + 1)) (byteS b (q + 2)) (byteS b (q + 3)) := by
          rw [decode_bytes] at hgb ⊢; exact decodeN_enc _ _ _ _ _ (byteS_lt _ _) hgb
        rw [lexN]
        rcases Nat.lt_trichotomy (Utf8.decode a p).1 (Utf8.decode b q).1 with h | h | h
        · rw [if_pos h]
          exact cmp_ahead a b p q _ _ hfa hfb hwa hwb (enc_lt ea eb h)
        · rw [if_neg (by omega), if_neg (by omega)]
          rw [← h] at eb
          obtain ⟨hw, e0, e1, e2, e3⟩ := enc_eq ea eb
          have hb4 : (Utf8.decode a p).2 ≤ 4 := by unfold Enc at ea; omega
          rw [cmp_skip a b (Utf8.decode a p).2 p q hfa (by omega) (fun t ht => by
            have ht2 : t = 0 ∨ t = 1 ∨ t = 2 ∨ t = 3 := by omega
            rcases ht2 with rfl | rfl | rfl | rfl
            · exact e0
            · exact e1 ht
            · exact e2 ht
            · exact e3 ht)]
          have := ih (p + (Utf8.decode a p).2) g' (q + (Utf8.decode b q).2) (by omega) hg' (fun r hr => ha r (List.mem_cons_of_mem _ hr)) (fun r hr => hb r (List.mem_cons_of_mem _ hr))
          rw [← this, hw]
        · rw [if_neg (by omega), if_pos h, cmpL_swap]
          rw [cmp_ahead b a q p _ _ hfb hfa hwb hwa (enc_lt eb ea h)]
          rfl
      · rw [runesN_end b g q hq, drop_end b q (by omega)]
        obtain ⟨d, hd1, _⟩ := drop_at a p hp
        rw [hd1]; simp [lexN, cmpL, Op.bytesLess]
    · rw [runesN_end a _ p hp, drop_end a p (by omega)]
      by_cases hq : q < b.size
      · obtain ⟨g', rfl, hst, _⟩ := runesN_step b g q hq h2
        obtain ⟨d, hd1, _⟩ := drop_at b q hq
        rw [hst, hd1]; simp [lexN, cmpL, Op.bytesLess]
      · rw [runesN_end b g q hq, drop_end b q (by omega)]; rfl
theorem cmpS_runes (a b : ByteArray) (ha : 0 ≤ lenS a) (hb : 0 ≤ lenS b) : cmpS a b = lexN (runesS a) (runesS b) :=
  cmp_runes a b a.size 0 b.size 0 (by omega) (by omega) (lenS_pos ha).1 (lenS_pos hb).1
theorem lexN_drop : ∀ (j : Nat) (x y : List Nat), j ≤ x.length → j ≤ y.length → (∀ t, t < j → x.getD t 0 = y.getD t 0) → lexN x y = lexN (x.drop j) (y.drop j)
  | 0, _, _, _, _, _ => rfl
  | j + 1, r :: x, s :: y, h1, h2, h => by
    have h0 := h 0 (by omega)
    simp at h0
    subst h0
    rw [lexN, if_neg (Nat.lt_irrefl _), if_neg (Nat.lt_irrefl _)]
    exact lexN_drop j x y (by simpa using h1) (by simpa using h2) (fun t ht => by have := h (t + 1) (by omega); simpa using this)
end Go.Proofs.YtgnaiahnednllaaGreat
namespace Go.Proofs.YtgnaiahnednllaaGreat
open Go.RowKit
set_option linter.unusedVariables false
set_option maxRecDepth 20000
theorem lexN_same (x : Nat) (l m : List Nat) : lexN (x :: l) (x :: m) = lexN l m := by
  have := lexN_drop 1 (x :: l) (x :: m) (by simp) (by simp) (fun t ht => by
    obtain rfl : t = 0 := by omega
    rfl)
  simpa using this
theorem rst_ord {s t : Tx} (hs : 0 ≤ lenS s) (ht : 0 ≤ lenS t) (s0 : 0 < s.size) (t0 : 0 < t.size) (hl : labS s = labS t) : cmpS (rstS s) (rstS t) = cmpS s t := by
  rw [cmpS_runes s t hs ht, cmpS_runes _ _ (rst_len hs s0).1 (rst_len ht t0).1, rst_runes hs s0, rst_runes ht t0, hl, lexN_same]
theorem mem_tw {α : Type} {p : α → Bool} {x : α} : ∀ {l : List α}, x ∈ l.takeWhile p → p x = true
  | [], h => by simp at h
  | y :: l, h => by
    rw [List.takeWhile_cons] at h
    split at h
    · rename_i hy
      rcases List.mem_cons.1 h with rfl | h
      · exact hy
      · exact mem_tw h
    · simp at h
theorem OkL.fol {f : Nat} {l : List Tx} (h : OkL (f + 1) l) (h0 : ∀ t ∈ l, 0 < t.size) : OkL f (folS l).2 := by
  cases l with
  | nil => exact ⟨List.Pairwise.nil, fun t ht => by simp [folS] at ht, fun t ht => by simp [folS] at ht, by simp [folS], fun t ht => by simp [folS] at ht⟩
  | cons s l =>
    have sub := List.takeWhile_sublist (l := s :: l) (fun t => decide (labS t = labS s))
    have mem : ∀ t ∈ (s :: l).takeWhile (fun t => decide (labS t = labS s)), t ∈ s :: l ∧ labS t = labS s := fun t ht =>
      ⟨sub.subset ht, by have h1 := mem_tw (p := fun t => decide (labS t = labS s)) ht; exact of_decide_eq_true h1⟩
    have e : (folS (s :: l)).2 = ((s :: l).takeWhile (fun t => decide (labS t = labS s))).map rstS := rfl
    rw [e]
    refine ⟨?_, fun t ht => ?_, fun t ht => ?_, ?_, fun t ht => ?_⟩
    · unfold SortedS
      rw [List.pairwise_map]
      refine List.Pairwise.imp_of_mem ?_ (List.Pairwise.sublist sub h.ord)
      intro a b ha hb hab
      have ma := mem a ha
      have mb := mem b hb
      rw [rst_ord (h.lo a ma.1) (h.lo b mb.1) (h0 a ma.1) (h0 b mb.1) (ma.2.trans mb.2.symm)]
      exact hab
    · obtain ⟨u, hu, rfl⟩ := List.mem_map.1 ht
      have mu := mem u hu
      exact (rst_len (h.lo u mu.1) (h0 u mu.1)).1
    · obtain ⟨u, hu, rfl⟩ := List.mem_map.1 ht
      have mu := mem u hu
      have h1 := (rst_len (h.lo u mu.1) (h0 u mu.1)).2
      have h2 := h.hi u mu.1
      omega
    · rw [List.length_map]
      have := sub.length_le
      have := h.n
      omega
    · obtain ⟨u, hu, rfl⟩ := List.mem_map.1 ht
      have mu := mem u hu
      have h1 := (rst_size (h.lo u mu.1) (h0 u mu.1)).2
      have h2 := h.sz u mu.1
      omega
def nameL : List Tx → List UInt8
  | [] => []
  | s :: l => s.data.toList ++ 255 :: nameL l
theorem no255 {t : Tx} (h : 0 ≤ lenS t) : ∀ u ∈ t.data.toList, u ≠ 255 := by
  intro u hu e
  subst e
  obtain ⟨i, hi, he⟩ := List.mem_iff_getElem.1 hu
  have hi' : i < t.size := by simpa using hi
  have hb : byteS t i = 255 := by
    rw [← byteS_at t i hi']
    have : t[i]'hi' = t.data.toList[i] := by simp [ByteArray.getElem_eq_getElem_data]
    rw [this, he]; rfl
  have := lenS_spoilt t i hi' (by omega)
  omega
theorem split255 : ∀ (a b : List UInt8) (x y : List UInt8), (∀ u ∈ a, u ≠ 255) → (∀ u ∈ b, u ≠ 255) → a ++ 255 :: x = b ++ 255 :: y → a = b ∧ x = y
  | [], [], x, y, _, _, h => ⟨rfl, by simpa using h⟩
  | [], q :: b, x, y, _, hb, h => by
    simp only [List.nil_append, List.cons_append, List.cons.injEq] at h
    exact absurd h.1.symm (hb q (by simp))
  | p :: a, [], x, y, ha, _, h => by
    simp only [List.nil_append, List.cons_append, List.cons.injEq] at h
    exact absurd h.1 (ha p (by simp))
  | p :: a, q :: b, x, y, ha, hb, h => by
    simp only [List.cons_append, List.cons.injEq] at h
    obtain ⟨h1, h2⟩ := split255 a b x y (fun u hu => ha u (by simp [hu])) (fun u hu => hb u (by simp [hu])) h.2
    exact ⟨by rw [h.1, h1], h2⟩
theorem tx_ext {s t : Tx} (h : s.data.toList = t.data.toList) : s = t := by
  obtain ⟨⟨a⟩⟩ := s
  obtain ⟨⟨b⟩⟩ := t
  simp at h
  rw [h]
theorem nameL_inj : ∀ (a b : List Tx), (∀ t ∈ a, 0 ≤ lenS t) → (∀ t ∈ b, 0 ≤ lenS t) → nameL a = nameL b → a = b
  | [], [], _, _, _ => rfl
  | [], s :: b, _, _, h => by simp [nameL] at h
  | s :: a, [], _, _, h => by simp [nameL] at h
  | s :: a, t :: b, ha, hb, h => by
    obtain ⟨h1, h2⟩ := split255 _ _ _ _ (no255 (ha s (by simp))) (no255 (hb t (by simp))) h
    rw [tx_ext h1, nameL_inj a b (fun u hu => ha u (by simp [hu])) (fun u hu => hb u (by simp [hu])) h2]
theorem nameL_snoc (l : List Tx) (s : Tx) : nameL (l ++ [s]) = nameL l ++ (s.data.toList ++ [255]) := by
  induction l with
  | nil => simp [nameL]
  | cons t l ih => simp [nameL, ih]
theorem nameL_len (l : List Tx) (h : ∀ t ∈ l, t.size ≤ 100) : (nameL l).length ≤ l.length * 101 := by
  induction l with
  | nil => simp [nameL]
  | cons t l ih =>
    have h1 := ih (fun u hu => h u (by simp [hu]))
    have h2 := h t (by simp)
    have h3 : t.data.toList.length = t.size := by simp
    simp only [nameL, List.length_append, List.length_cons, h3]
    omega
end Go.Proofs.YtgnaiahnednllaaGreat
namespace Go.Proofs.YtgnaiahnednllaaGreat
open Go.RowKit
set_option linter.unusedVariables false
set_option maxRecDepth 20000
/-- all runes together -/
def wtS : List Tx → Nat
  | [] => 0
  | t :: l => (lenS t).toNat + wtS l
theorem wt_app : ∀ a b : List Tx, wtS (a ++ b) = wtS a + wtS b
  | [], b => by simp [wtS]
  | t :: a, b => by simp [wtS, wt_app a b]; omega
theorem wt_rst : ∀ (l : List Tx), (∀ t ∈ l, 0 ≤ lenS t) → (∀ t ∈ l, 0 < t.size) → wtS (l.map rstS) + l.length = wtS l
  | [], _, _ => rfl
  | t :: l, h, h0 => by
    have ih := wt_rst l (fun u hu => h u (by simp [hu])) (fun u hu => h0 u (by simp [hu]))
    have h1 := rst_len (h t (by simp)) (h0 t (by simp))
    simp only [wtS, List.map_cons, List.length_cons]
    omega
theorem wt_bod (l : List Tx) : wtS (bodS l) ≤ wtS l := by
  unfold bodS
  split
  · cases l with
    | nil => simp
    | cons t l => simp [wtS]
  · exact Nat.le_refl _
theorem bod_len (l : List Tx) : (bodS l).length ≤ l.length := by
  unfold bodS
  split
  · rw [List.length_tail]; omega
  · exact Nat.le_refl _
theorem fol_split {l : List Tx} (h0 : l ≠ []) : ∃ k, k = (folS l).2.length ∧ l.take k = l.takeWhile (fun t => decide (labS t = labS (l.getD 0 ByteArray.empty))) ∧ (folS l).2 = (l.take k).map rstS := by
  cases l with
  | nil => exact absurd rfl h0
  | cons s l =>
    refine ⟨_, rfl, ?_, ?_⟩
    · show (s :: l).take (((s :: l).takeWhile (fun t => decide (labS t = labS s))).map rstS).length = _
      rw [List.length_map]
      exact (List.prefix_iff_eq_take.1 (List.takeWhile_prefix _)).symm
    · show ((s :: l).takeWhile (fun t => decide (labS t = labS s))).map rstS = _
      congr 1
      show _ = (s :: l).take (((s :: l).takeWhile (fun t => decide (labS t = labS s))).map rstS).length
      rw [List.length_map]
      exact List.prefix_iff_eq_take.1 (List.takeWhile_prefix _)
theorem wt_fol {l : List Tx} (h0 : l ≠ []) (h : ∀ t ∈ l, 0 ≤ lenS t) (hp : ∀ t ∈ l, 0 < t.size) : wtS (folS l).2 + 1 + wtS (l.drop (folS l).2.length) ≤ wtS l := by
  obtain ⟨k, hk, -, e⟩ := fol_split h0
  have h1 := wt_rst (l.take k) (fun t ht => h t (List.mem_of_mem_take ht)) (fun t ht => hp t (List.mem_of_mem_take ht))
  have h2 : wtS l = wtS (l.take k) + wtS (l.drop k) := by rw [← wt_app, List.take_append_drop]
  have h3 := (fol_len l h0).1
  have h4 : (l.take k).length = k := by rw [List.length_take]; have := (fol_len l h0).2; omega
  rw [← hk, e, h2]
  rw [← hk] at h3
  omega
theorem reach_len (f : Nat) : ∀ (st : List GN) (s : List Tx), OkL f s → st.length ≤ (reachF (f + 1) st s).2.length ∧ (reachF (f + 1) st s).2.length ≤ st.length + wtS s + 1 ∧ ((reachF (f + 1) st s).1 < (reachF (f + 1) st s).2.length) := by
  induction f with
  | zero =>
    intro st s h
    unfold reachF
    cases hf : findG st s with
    | some i =>
      have : i < st.length := by
        unfold findG at hf
        exact (List.findIdx?_eq_some_iff_getElem.1 hf).1
      simp only; omega
    | none =>
      have hb : bodS s = [] := by
        cases hbs : bodS s with
        | nil => rfl
        | cons t l =>
          have hm : t ∈ bodS s := by rw [hbs]; simp
          have h1 := bod_pos h.ord t hm
          have h2 := rst_len (h.bod.lo t hm) h1
          have h3 := h.bod.hi t hm
          omega
      rw [hb]
      simp only [List.length_nil, edgesF, List.length_set, List.length_append, List.length_singleton]
      omega
  | succ f ih =>
    intro st s h
    unfold reachF
    cases hf : findG st s with
    | some i =>
      have : i < st.length := by
        unfold findG at hf
        exact (List.findIdx?_eq_some_iff_getElem.1 hf).1
      simp only; omega
    | none =>
      have key : ∀ (n : Nat) (l : List Tx) (es : List EdP) (st1 : List GN), OkL (f + 1) l → (∀ t ∈ l, 0 < t.size) → st1.length ≤ (edgesF (reachF (f + 1)) n l es st1).2.length ∧ (edgesF (reachF (f + 1)) n l es st1).2.length ≤ st1.length + wtS l := by
        intro n
        induction n with
        | zero => intro l es st1 _ _; simp [edgesF]
        | succ n ihn =>
          intro l es st1 hl hp
          unfold edgesF
          split
          · simp
          · rename_i h0
            have h1 := ih st1 (folS l).2 (hl.fol hp)
            have h2 := ihn (l.drop (folS l).2.length) (es ++ [⟨((folS l).1 : Int), ((reachF (f + 1) st1 (folS l).2).1 : Int)⟩]) (reachF (f + 1) st1 (folS l).2).2 (hl.drop _) (fun t ht => hp t (List.mem_of_mem_drop ht))
            have h3 := wt_fol h0 hl.lo hp
            omega
      have h1 := key (bodS s).length (bodS s) [] (st ++ [⟨s, false, []⟩]) h.bod (bod_pos h.ord)
      have h2 := wt_bod s
      simp only [List.length_append, List.length_singleton] at h1
      simp only [List.length_set]
      omega
theorem getD_app {l m : List GN} {i : Nat} (h : i < l.length) : (l ++ m).getD i gn0 = l.getD i gn0 := by
  rw [List.getD_eq_getElem?_getD, List.getD_eq_getElem?_getD, List.getElem?_append_left h]
theorem getD_set_ne {l : List GN} {i j : Nat} {y : GN} (h : j ≠ i) : (l.set j y).getD i gn0 = l.getD i gn0 := by
  rw [List.getD_eq_getElem?_getD, List.getD_eq_getElem?_getD, List.getElem?_set_ne h]
theorem reach_rests (f : Nat) : ∀ (st : List GN) (s : List Tx), OkL f s → ∀ i, i < st.length → ((reachF (f + 1) st s).2.getD i gn0).rests = (st.getD i gn0).rests := by
  induction f with
  | zero =>
    intro st s h i hi
    unfold reachF
    cases hf : findG st s with
    | some i => rfl
    | none =>
      have hb : bodS s = [] := by
        cases hbs : bodS s with
        | nil => rfl
        | cons t l =>
          have hm : t ∈ bodS s := by rw [hbs]; simp
          have h1 := bod_pos h.ord t hm
          have h2 := rst_len (h.bod.lo t hm) h1
          have h3 := h.bod.hi t hm
          omega
      rw [hb]
      simp only [List.length_nil, edgesF]
      rw [getD_set_ne (by omega), getD_app hi]
  | succ f ih =>
    intro st s h i hi
    unfold reachF
    cases hf : findG st s with
    | some i => rfl
    | none =>
      have key : ∀ (n : Nat) (l : List Tx) (es : List EdP) (st1 : List GN), OkL (f + 1) l → (∀ t ∈ l, 0 < t.size) → i < st1.length → ((edgesF (reachF (f + 1)) n l es st1).2.getD i gn0).rests = (st1.getD i gn0).rests := by
        intro n
        induction n with
        | zero => intro l es st1 _ _ _; simp [edgesF]
        | succ n ihn =>
          intro l es st1 hl hp hi1
          unfold edgesF
          split
          · rfl
          · have h1 := ih st1 (folS l).2 (hl.fol hp) i hi1
            have h2 := (reach_len f st1 (folS l).2 (hl.fol hp)).1
            rw [ihn _ _ _ (hl.drop _) (fun t ht => hp t (List.mem_of_mem_drop ht)) (by omega), h1]
      simp only
      rw [getD_set_ne (by omega), key _ _ _ _ h.bod (bod_pos h.ord) (by simp; omega), getD_app hi]
theorem find_set {st : List GN} {i : Nat} {y : GN} (h : i < st.length) (hr : (st.getD i gn0).rests = y.rests) (l : List Tx) : findG (st.set i y) l = findG st l := by
  have e : ∀ (st : List GN) (i : Nat), i < st.length → (st.getD i gn0).rests = y.rests → (st.set i y).map (fun g => g.rests) = st.map (fun g => g.rests) := by
    intro st
    induction st with
    | nil => intro i hi; simp at hi
    | cons x st ih =>
      intro i hi hr
      cases i with
      | zero => simp at hr; simp [hr]
      | succ i => simp at hr; simp at hi; simp [ih i hi (by simpa using hr)]
  have f : ∀ st : List GN, findG st l = (st.map (fun g => g.rests)).findIdx? (fun r => decide (r = l)) := by
    intro st
    unfold findG
    rw [List.findIdx?_map]
    rfl
  rw [f, f, e st i h hr]
end Go.Proofs.YtgnaiahnednllaaGreat
namespace Go.Proofs.YtgnaiahnednllaaGreat
open Go.RowKit
set_option linter.unusedVariables false
set_option maxRecDepth 20000
def strsV (ts : List Tx) : List Value := ts.map Value.string
def HoldsT (w : World) (a : Option Addr) (n : Nat) (ts : List Tx) : Prop := HoldsV w a n (strsV ts)
theorem HoldsT.len {w : World} {a : Option Addr} {n : Nat} {ts : List Tx} (h : HoldsT w a n ts) : ts.length = n := by simpa [strsV] using h.1
theorem getD_map_str (ts : List Tx) (i : Nat) (hi : i < ts.length) : (strsV ts).getD i undef = .string (ts.getD i ByteArray.empty) := by
  simp [strsV, List.getD_eq_getElem?_getD, hi]
theorem HoldsT.at {w : World} {a : Option Addr} {n : Nat} {ts : List Tx} (h : HoldsT w a n ts) (h0 : 0 < n) : ∃ b o, a = some ⟨b, o, none⟩ ∧ ∀ i, i < n → w.cell? ⟨b, o + i, none⟩ = some (.string (ts.getD i ByteArray.empty)) := by
  obtain ⟨b, o, ha, hc⟩ := h.2 h0
  exact ⟨b, o, ha, fun i hi => by rw [hc i hi, getD_map_str ts i (by rw [h.len]; exact hi)]⟩
theorem HoldsT.of {w : World} {b o n : Nat} {ts : List Tx} (hl : ts.length = n) (hc : ∀ i, i < n → w.cell? ⟨b, o + i, none⟩ = some (.string (ts.getD i ByteArray.empty))) : HoldsT w (some ⟨b, o, none⟩) n ts :=
  ⟨by simpa [strsV] using hl, fun _ => ⟨b, o, rfl, fun i hi => by rw [hc i hi, getD_map_str ts i (by omega)]⟩⟩
theorem HoldsT.nil (w : World) (a : Option Addr) : HoldsT w a 0 [] := ⟨rfl, fun h => absurd h (by omega)⟩
theorem HoldsT.below {w w' : World} {a : Option Addr} {n : Nat} {ts : List Tx} (h : HoldsT w a n ts) (hb : Below w.heap.size w w') : HoldsT w' a n ts := HoldsV.below h hb
theorem HoldsT.own {w : World} {B : Nat} {e : TypeId} {a : Option Addr} {n c : Nat} {ts : List Tx} (h : w.ownsRow B e 1 (.slice a n c) n (strsV ts)) : HoldsT w a n ts := owns_holds h
theorem strsV_snoc (ts : List Tx) (t : Tx) : strsV (ts ++ [t]) = strsV ts ++ [Value.string t] := by simp [strsV]
theorem str_same (x : Tx) : (x.toList == x.toList) = true := by simp
end Go.Proofs.YtgnaiahnednllaaGreat
namespace Go.Proofs.YtgnaiahnednllaaGreat
open Go.RowKit
set_option linter.unusedVariables false
set_option maxRecDepth 20000
theorem getD_memT (zs : List Tx) (j : Nat) (h : j < zs.length) : zs.getD j ByteArray.empty ∈ zs := by
  rw [List.getD_eq_getElem?_getD, List.getElem?_eq_getElem h]; simp
end Go.Proofs.YtgnaiahnednllaaGreat
namespace Go.Proofs.YtgnaiahnednllaaGreat
open Go.RowKit
set_option linter.unusedVariables false
set_option maxRecDepth 20000
theorem word_any (s : ByteArray) (w : World) (hs : s.size ≤ 9223372036854775807) :
    Calls Tryz.prog 106 #[.string s] w fun e w' => e = .returned (.bool (decide (1 ≤ lenS s ∧ lenS s ≤ 12))) ∧ Below w.heap.size w w' := by
  have h1 := Lib.hid (len_any s w hs)
  obtain ⟨n, hn⟩ : ∃ n, lenS s = n := ⟨_, rfl⟩
  rw [hn] at h1 ⊢
  clear hn
  have hc : n < 1 ∨ (1 ≤ n ∧ n ≤ 12) ∨ (1 ≤ n ∧ 12 < n) := by omega
  rcases hc with h | ⟨h, h2⟩ | ⟨h, h2⟩
  · rw [decide_eq_false (by omega)]
    go_enter Tryz.func106, Tryz.ntmps106
    go_wp2_with fail
    refine h1.out.mono ?_
    rintro e w' ⟨rfl, hb⟩
    go_wp2_with fail
    go_ret
    exact ⟨rfl, hb⟩
  · rw [decide_eq_true (by omega)]
    have x1 : decide (n ≤ 12) = true := by simpa using h2
    go_enter Tryz.func106, Tryz.ntmps106
    go_wp2_with fail
    refine h1.out.mono ?_
    rintro e w' ⟨rfl, hb⟩
    go_wp2_with fail
    go_ret
    exact ⟨ret_bool (by simp [*]), hb⟩
  · rw [decide_eq_false (by omega)]
    have x1 : decide (n ≤ 12) = false := by simpa using h2
    go_enter Tryz.func106, Tryz.ntmps106
    go_wp2_with fail
    refine h1.out.mono ?_
    rintro e w' ⟨rfl, hb⟩
    go_wp2_with fail
    go_ret
    exact ⟨ret_bool (by simp [*]), hb⟩
end Go.Proofs.YtgnaiahnednllaaGreat
namespace Go.Proofs.YtgnaiahnednllaaGreat
open Go.RowKit
set_option linter.unusedVariables false
set_option maxRecDepth 20000
theorem goodV_long {ts : List Tx} (h : 60 < ts.length) : goodV ts = 3 := by unfold goodV; rw [if_pos h]
theorem goodV_word {ts : List Tx} (h : ts.length ≤ 60) (t : Tx) (ht : t ∈ ts) (hw : ¬ wordP t) : goodV ts = 6 := by
  unfold goodV; rw [if_neg (by omega), if_pos ⟨t, ht, hw⟩]
theorem goodV_sort {ts : List Tx} (h : ts.length ≤ 60) (hw : ∀ t ∈ ts, wordP t) (hs : ¬ SortedS ts) : goodV ts = 7 := by
  unfold goodV; rw [if_neg (by omega), if_neg (fun ⟨t, ht, k⟩ => k (hw t ht)), if_neg hs]
theorem goodV_good {ts : List Tx} (h : ts.length ≤ 60) (hw : ∀ t ∈ ts, wordP t) (hs : SortedS ts) : goodV ts = 0 := by
  unfold goodV; rw [if_neg (by omega), if_neg (fun ⟨t, ht, k⟩ => k (hw t ht)), if_pos hs]
theorem word_bool {w : World} (s : Tx) (b : Bool) (hs : s.size ≤ 9223372036854775807) (hb : decide (wordP s) = b) :
    Calls Tryz.prog 106 #[.string s] w fun e w' => e = .returned (.bool b) ∧ Below w.heap.size w w' := by subst hb; exact word_any s w hs
set_option maxHeartbeats 1600000 in
theorem good_any' (a : Option Addr) (n cap : Nat) (ts : List Tx) (w : World) (hh : HoldsT w a n ts) (hn : n ≤ 9223372036854775807) (hsz : ∀ t ∈ ts, t.size ≤ 9223372036854775807) :
    Calls Tryz.prog 62 #[.slice a n cap] w fun e w' => e = .returned (.int .i64 (goodV ts)) ∧ Below w.heap.size w w' := by
  have hl := hh.len
  by_cases h60 : n ≤ 60
  case neg =>
    rw [goodV_long (by omega)]
    go_enter Tryz.func62, Tryz.ntmps62
    go_wp2_with fail
    go_ret
    exact ⟨rfl, Below.refl _ _⟩
  go_enter Tryz.func62, Tryz.ntmps62
  go_wp2_with fail
  go_loopw [11] (fun iv wr => ∃ j : Nat, j ≤ n ∧ iv = .int .i64 j ∧ Hid (∀ t ∈ ts.take j, wordP t) ∧ Hid (Below w.heap.size w wr)) (fun iv _ => n - (intOf iv).toNat)
  case atStart => exact ⟨0, by omega, rfl, Lib.hid (by simp), Lib.hid (Below.refl _ _)⟩
  case round =>
    obtain ⟨j, hj, rfl, hS, hB⟩ := hrel
    by_cases hlt : j < n
    · obtain ⟨b, o, rfl, hc⟩ := (hh.below hB.out).at (by omega)
      have e1 := hc j hlt
      have hmem := getD_memT ts j (by omega)
      have htk := take_succ_getD ts ByteArray.empty j (by omega)
      obtain ⟨x, hx⟩ : ∃ x, ts.getD j ByteArray.empty = x := ⟨_, rfl⟩
      rw [hx] at e1 hmem htk
      have HX := Lib.hid (hsz x hmem)
      have HM := Lib.hid hmem; have HT := Lib.hid htk
      clear hx hmem htk hc
      by_cases hw : wordP x
      · have hb := decide_eq_true hw
        have HW := Lib.hid hw; have HD := Lib.hid hb
        clear hw hb
        go_wp2_with fail
        refine (word_bool x true HX.out HD.out).mono ?_
        rintro e w2 ⟨rfl, hb2⟩
        go_wp2_with fail
        go_roundw
        case rel => exact ⟨j + 1, by omega, by go_num, Lib.hid (by rw [HT.out]; intro z hz; rcases List.mem_append.1 hz with hz | hz; exact hS.out z hz; simp at hz; rw [hz]; exact HW.out), Lib.hid (hB.out.trans (hb2.mono hB.out.size))⟩
        case measure => simp [intOf]; omega
      · have hb := decide_eq_false hw
        have hg := goodV_word (by omega) x HM.out hw
        have HD := Lib.hid hb; have HG := Lib.hid hg
        clear hw hb hg
        go_wp2_with fail
        refine (word_bool x false HX.out HD.out).mono ?_
        rintro e w2 ⟨rfl, hb2⟩
        go_wp2_with fail
        go_ret
        exact ⟨ret_int HG.out.symm, hB.out.trans (hb2.mono hB.out.size)⟩
    · have hjn : ts.take j = ts := List.take_of_length_le (by omega)
      have hwd := hS.out
      rw [hjn] at hwd
      have HW := Lib.hid hwd
      have hB1 := hB
      clear hjn hwd hS hB
      go_wp2_with fail
      go_loopw [5] (fun iv wr2 => ∃ i : Nat, 1 ≤ i ∧ i ≤ n + 1 ∧ iv = .int .i64 i ∧ Hid (∀ k, k + 1 < i → k + 1 < n → cmpS (ts.getD k ByteArray.empty) (ts.getD (k + 1) ByteArray.empty) < 0) ∧ Hid (Below w.heap.size w wr2)) (fun iv _ => n + 1 - (intOf iv).toNat)
      case atStart => exact ⟨1, by omega, by omega, rfl, Lib.hid (fun k h1 => by omega), hB1⟩
      case round =>
        obtain ⟨i, hi1, hi2, rfl, hS, hB⟩ := hrel
        by_cases hlt2 : i < n
        · obtain ⟨b, o, rfl, hc⟩ := (hh.below hB.out).at (by omega)
          have e1 := hc i hlt2
          have e2 := hc (i - 1) (by omega)
          have hci := hS.out
          obtain ⟨q, rfl⟩ : ∃ q, i = q + 1 := ⟨i - 1, by omega⟩
          simp only [Nat.add_sub_cancel] at e2
          obtain ⟨x, hx⟩ : ∃ x, ts.getD q ByteArray.empty = x := ⟨_, rfl⟩
          obtain ⟨y, hy⟩ : ∃ y, ts.getD (q + 1) ByteArray.empty = y := ⟨_, rfl⟩
          rw [hx] at e2; rw [hy] at e1
          have HX := Lib.hid hx; have HY := Lib.hid hy
          clear hx hy hc hci
          have hcmp := Lib.hid (fun w => compare_any x y w)
          have hbd := cmpS_bd x y
          obtain ⟨v, hv⟩ : ∃ v, cmpS x y = v := ⟨_, rfl⟩
          rw [hv] at hbd
          simp only [hv] at hcmp
          have HV := Lib.hid hv
          clear hv
          have hr : IntKind.i64.wrap (((q + 1 : Nat) : Int) - 1) = (q : Int) := by rw [IntWalk.i64_in _ (by omega)]; omega
          have hr2 : ((q + 1 : Nat) : Int) - 1 = (q : Int) := by omega
          have g1 : (q : Int) < (n : Int) := by omega
          have g2 : ((q + 1 : Nat) : Int) < (n : Int) := by omega
          by_cases hvn : v < 0
          · go_upto_region 12 with fail
            go_quiet ((go_at_call 107; exact Calls.quiet_of_same ((hcmp.out _).mono (fun _ _ h => ⟨h.1, h.2.symm⟩))))
            go_wp2_with fail
            go_roundw
            case rel =>
              refine ⟨q + 1 + 1, by omega, by omega, by go_num, Lib.hid (fun k h1 h2 => ?_), Lib.hid (hB.out.trans ((below_drewN _ _).mono hB.out.size))⟩
              by_cases hk : k = q
              · subst hk; rw [HX.out, HY.out, HV.out]; exact hvn
              · exact hS.out k (by omega) h2
            case measure => simp [intOf]; omega
          · have hg := goodV_sort (by omega) HW.out (fun hs => hvn (by have := (adj_iff ts).1 hs q (by omega); rw [HX.out, HY.out, HV.out] at this; exact this))
            have HG := Lib.hid hg
            clear hg
            go_upto_region 12 with fail
            go_quiet ((go_at_call 107; exact Calls.quiet_of_same ((hcmp.out _).mono (fun _ _ h => ⟨h.1, h.2.symm⟩))))
            go_wp2_with fail
            go_ret
            exact ⟨ret_int HG.out.symm, hB.out.trans ((below_drewN _ _).mono hB.out.size)⟩
        · have hg := goodV_good (by omega) HW.out ((adj_iff ts).2 fun k hk => hS.out k (by omega) (by omega))
          have HG := Lib.hid hg
          clear hg
          go_wp2_with fail
          go_ret
          exact ⟨ret_int HG.out.symm, hB.out⟩
end Go.Proofs.YtgnaiahnednllaaGreat
namespace Go.Proofs.YtgnaiahnednllaaGreat
open Go.RowKit
set_option linter.unusedVariables false
set_option maxRecDepth 20000
theorem rst_over {s : Tx} (h : s.size ≤ (Utf8.decode s 0).2) : rstS s = ⟨#[]⟩ := empty_size (by
  unfold rstS
  rw [ByteArray.size_extract]; omega)
set_option maxHeartbeats 1600000 in
theorem cut_any (s : Tx) (w : World) (h0 : 0 < s.size) (hs : s.size ≤ 1048576) :
    Calls Tryz.prog 255 #[.string s] w fun e w' => e = .returned (.tuple #[.int .i32 (labS s), .string (rstS s)]) ∧ Below w.heap.size w w' := by
  obtain ⟨wd, hwd⟩ : ∃ wd, (Utf8.decode s 0).2 = wd := ⟨_, rfl⟩
  have h1 : 1 ≤ wd := hwd ▸ decode_width s 0 h0
  have HW := Lib.hid hwd
  clear hwd
  go_enter Tryz.func255, Tryz.ntmps255
  go_wp2_with fail
  go_loopw [4] (fun n wr => ∃ (pos : Nat) (r : Int), n = .int .i32 r ∧ wr = w.iter s pos ∧ Hid ((pos = 0 ∧ r = -1) ∨ (pos = wd ∧ r = (labS s : Int)))) (fun _ wr => s.size - wr.iterPos w.heap.size)
  case atStart => exact ⟨0, -1, rfl, rfl, Lib.hid (Or.inl ⟨rfl, rfl⟩)⟩
  case round =>
    obtain ⟨pos, r, rfl, rfl, hP⟩ := hrel
    rcases hP.out with ⟨h2, h3⟩ | ⟨h2, h3⟩
    · subst h2 h3
      have hnx := fun ty => run_next_any (P := Tryz.prog) w s 0 ty h0
      rw [HW.out] at hnx
      have hl : (Utf8.decode s 0).1 = labS s := rfl
      rw [hl] at hnx
      generalize hlab : labS s = lab at *
      have HLAB := Lib.hid hlab
      clear hl hlab
      go_wp2_with fail
      go_roundw
      case rel => exact ⟨wd, (lab : Int), rfl, rfl, Lib.hid (Or.inr ⟨rfl, rfl⟩)⟩
      case measure => simp; omega
    · subst h3
      obtain rfl : wd = pos := h2.symm
      by_cases hlt : wd < s.size
      · have hnx := fun ty => run_next_any (P := Tryz.prog) w s wd ty hlt
        have hgt : decide ((wd : Int) > 0) = true := decide_eq_true (by omega)
        have hgt2 : decide (0 < wd) = true := decide_eq_true (by omega)
        have e1 : rstS s = s.extract wd s.size := by unfold rstS; rw [HW.out]
        have E1 := Lib.hid e1
        clear e1
        go_wp2_with fail
        go_quiet (fail)
        go_wp2_with fail
        go_ret2
        exact ⟨by rw [E1.out]; rfl, (below_one _ _).trans ((below_drewN _ _).mono (below_one w _).size)⟩
      · have hnx := fun ty => run_next_end (P := Tryz.prog) w s wd ty hlt
        have e1 : rstS s = ⟨#[]⟩ := rst_over (by rw [HW.out]; omega)
        have E1 := Lib.hid e1
        clear e1
        go_wp2_with fail
        go_ret2
        exact ⟨by rw [E1.out]; rfl, below_one _ _⟩
theorem getD_tx {l : List Tx} {j : Nat} (h : j < l.length) : l.getD j ByteArray.empty ∈ l := by
  rw [List.getD_eq_getElem?_getD, List.getElem?_eq_getElem h]; simp
theorem take_tx (l : List Tx) (j : Nat) (h : j < l.length) : l.take (j + 1) = l.take j ++ [l.getD j ByteArray.empty] := by
  rw [List.take_add_one, List.getElem?_eq_getElem h, List.getD_eq_getElem?_getD, List.getElem?_eq_getElem h]; rfl
theorem app_list (a b : ByteArray) : (a ++ b).data.toList = a.data.toList ++ b.data.toList := by simp
set_option maxHeartbeats 1600000 in
theorem nameOf_any (a : Option Addr) (n cap : Nat) (l : List Tx) (w : World) (hh : HoldsT w a n l) (hn : n ≤ 100) (hsz : ∀ t ∈ l, t.size ≤ 100) :
    Calls Tryz.prog 232 #[.slice a n cap] w fun e w' => (∃ s : Tx, e = .returned (.string s) ∧ s.data.toList = nameL l) ∧ w = w' := by
  have hl := hh.len
  have H := Lib.hid hh; have HSZ := Lib.hid hsz
  clear hh hsz
  go_enter Tryz.func232, Tryz.ntmps232
  go_wp2_with fail
  go_loop [3, 5, 8] (fun sv tv iv => ∃ (j : Nat) (s : Tx), j ≤ n ∧ sv = .string s ∧ iv = .int .i64 j ∧ Hid (s.data.toList = nameL (l.take j)) ∧ s.size ≤ j * 101) (fun _ _ iv => n - (intOf iv).toNat)
  case atStart => exact ⟨0, ⟨#[]⟩, by omega, rfl, rfl, Lib.hid rfl, by simp [ByteArray.size]⟩
  case round =>
    obtain ⟨j, s, hj, rfl, rfl, hS, hz⟩ := hrel
    by_cases hlt : j < n
    · obtain ⟨b, o, rfl, hc⟩ := H.out.at (by omega)
      have x0 := hc j hlt
      obtain ⟨t, ht⟩ : ∃ t, l.getD j ByteArray.empty = t := ⟨_, rfl⟩
      rw [ht] at x0
      have htz := HSZ.out t (ht ▸ getD_tx (by omega))
      have i1 : (0 : Int) ≤ (j : Int) := by omega
      have i2 : (j : Int) < (n : Int) := by omega
      have HN := Lib.hid (show (s ++ (t ++ ⟨#[255]⟩)).data.toList = nameL (l.take (j + 1)) from by
        rw [take_tx l j (by omega), nameL_snoc, app_list, app_list, hS.out, ht])
      have z1 : (t ++ (⟨#[255]⟩ : ByteArray)).size = t.size + 1 := by rw [ByteArray.size_append]; rfl
      have z2 : (s ++ (t ++ (⟨#[255]⟩ : ByteArray))).size = s.size + (t.size + 1) := by rw [ByteArray.size_append, z1]
      have HZ := Lib.hid (show (s ++ (t ++ (⟨#[255]⟩ : ByteArray))).size ≤ (j + 1) * 101 from by rw [z2]; omega)
      clear hc ht z1 z2
      go_wp2_with fail
      go_round
      case rel => exact ⟨j + 1, _, by omega, rfl, by go_num, HN, HZ.out⟩
      case measure => simp [intOf] <;> omega
    · obtain rfl : j = n := by omega
      have HE := Lib.hid (show s.data.toList = nameL l from by rw [hS.out, List.take_of_length_le (by omega)])
      go_wp2_with fail
      go_ret
      exact ⟨⟨s, rfl, HE.out⟩, rfl⟩
theorem tw_stop {α : Type} (p : α → Bool) (d : α) : ∀ (l : List α) (j : Nat), j ≤ l.length → (∀ t ∈ l.take j, p t = true) → (j < l.length → p (l.getD j d) = false) → l.takeWhile p = l.take j
  | [], j, hj, _, _ => by simp
  | x :: l, 0, _, _, h => by
    have := h (by simp)
    rw [List.takeWhile_cons, if_neg (by simpa using this)]; simp
  | x :: l, j + 1, hj, ha, h => by
    rw [List.takeWhile_cons, if_pos (ha x (by simp)), List.take_succ_cons]
    rw [tw_stop p d l j (by simpa using hj) (fun t ht => ha t (by simp [ht])) (fun hlt => by simpa using h (by simpa using hlt))]
theorem strG_info : (Tryz.prog.info? 9).map (fun i => (i.zero, i.size, i.bytes)) = some (some (.string ⟨#[]⟩), 1, 16) := by kernel_rfl
def FolP (w : World) (l : List Tx) (e : Ending) (w' : World) : Prop := ∃ a c, e = .returned (.tuple #[.int .i32 (folS l).1, .slice a (folS l).2.length c]) ∧ w'.ownsRow w.heap.size 9 1 (.slice a (folS l).2.length c) (folS l).2.length (strsV (folS l).2) ∧ Below w.heap.size w w'
set_option maxHeartbeats 1600000 in
theorem follow_any (a : Option Addr) (n cap : Nat) (l : List Tx) (w : World) (hh : HoldsT w a n l) (h0 : 0 < n) (hn : n ≤ 100) (hp : ∀ t ∈ l, 0 < t.size) (hsz : ∀ t ∈ l, t.size ≤ 100) :
    Calls Tryz.prog 233 #[.slice a n cap] w (FolP w l) := by
  obtain ⟨i0, hi, hz0, hz1, hz2⟩ := info_parts strG_info
  have hl := hh.len
  obtain ⟨lab, hlab⟩ : ∃ k, labS (l.getD 0 ByteArray.empty) = k := ⟨_, rfl⟩
  have HLAB := Lib.hid hlab
  have TW := Lib.hid (fun (j : Nat) (hj : j ≤ n) (ha : ∀ t ∈ l.take j, labS t = lab) (hs : j < n → labS (l.getD j ByteArray.empty) ≠ lab) => show folS l = (lab, (l.take j).map rstS) from by
    cases l with
    | nil => simp at hl; omega
    | cons s l =>
      have e : labS s = lab := hlab
      show (labS s, ((s :: l).takeWhile (fun t => decide (labS t = labS s))).map rstS) = _
      rw [tw_stop (fun t => decide (labS t = labS s)) ByteArray.empty (s :: l) j (by omega) (fun t ht => decide_eq_true (by rw [ha t ht, e])) (fun hlt => decide_eq_false (by rw [e]; exact hs (by omega))), e])
  have H := Lib.hid hh; have HSZ := Lib.hid hsz; have HP := Lib.hid hp
  obtain ⟨b, o, rfl, hc⟩ := hh.at h0
  have x0 := hc 0 h0
  obtain ⟨s0, hs0⟩ : ∃ t, l.getD 0 ByteArray.empty = t := ⟨_, rfl⟩
  have hm0 : s0 ∈ l := hs0 ▸ getD_tx (by omega)
  rw [hs0] at x0 hlab
  rw [Nat.add_zero] at x0
  have C0 := Lib.hid (cut_any s0 w (hp s0 hm0) (by have := hsz s0 hm0; omega))
  rw [hlab] at C0
  have n0 : (0 : Int) < (n : Int) := by omega
  clear hh hsz hp hc hlab hs0 hm0
  go_enter Tryz.func233, Tryz.ntmps233
  go_wp2_with fail
  refine C0.out.mono ?_
  rintro e w1 ⟨rfl, hb1⟩
  have B1 := Lib.hid hb1
  clear hb1 C0 x0
  go_wp2_with fail
  go_loopw [6, 20] (fun kv iv wr => ∃ (j : Nat) (av : Option Addr) (cv : Nat), j ≤ n ∧ kv = .slice av j cv ∧ iv = .int .i64 j ∧ Hid (∀ t ∈ l.take j, labS t = lab) ∧ Hid (wr.ownsRow w.heap.size 9 1 (.slice av j cv) j (strsV ((l.take j).map rstS))) ∧ Hid (Below w.heap.size w wr)) (fun _ iv _ => n - (intOf iv).toNat)
  case atStart => exact ⟨0, none, 0, by omega, rfl, rfl, Lib.hid (by simp), Lib.hid (by simpa [strsV] using World.ownsRow_nil w1 w.heap.size 9 1), B1⟩
  case round =>
    obtain ⟨j, av, cv, hj, rfl, rfl, hA, hO, hB⟩ := hrel
    have FIN := Lib.hid (fun (hs : j < n → labS (l.getD j ByteArray.empty) ≠ lab) w' (hb : Below w.heap.size w w') (ho : w'.ownsRow w.heap.size 9 1 (.slice av j cv) j (strsV ((l.take j).map rstS))) => show FolP w l (.returned (.tuple #[.int .i32 lab, .slice av j cv])) w' from by
      have e := TW.out j hj hA.out hs
      have el : ((l.take j).map rstS).length = j := by rw [List.length_map, List.length_take]; omega
      refine ⟨av, cv, ?_, ?_, hb⟩
      · rw [e]; simp only [el]
      · rw [e]; simp only [el]; exact ho)
    by_cases hlt : j < n
    · obtain ⟨b', o', hbe, hc⟩ := (H.out.below hB.out).at (by omega)
      injection hbe with hbe; injection hbe with e1 e2; subst e1 e2
      have x0 := hc j hlt
      obtain ⟨t, ht⟩ : ∃ t, l.getD j ByteArray.empty = t := ⟨_, rfl⟩
      rw [ht] at x0
      have htm : t ∈ l := ht ▸ getD_tx (by omega)
      have htz := HSZ.out t htm
      have CT := Lib.hid (fun w' => cut_any t w' (HP.out t htm) (by omega))
      have i1 : (0 : Int) ≤ (j : Int) := by omega
      have i2 : (j : Int) < (n : Int) := by omega
      have HT := Lib.hid ht
      have TK := Lib.hid (take_tx l j (by omega))
      clear hc htm ht
      go_wp2_with fail
      refine (CT.out _).mono ?_
      rintro e w2 ⟨rfl, hb2⟩
      have B2 := Lib.hid (hB.out.trans (hb2.mono hB.out.size))
      have O2 := Lib.hid (owns_below hO.out hb2)
      clear hb2 CT x0
      by_cases hq : labS t = lab
      · have q1 : ((labS t : Int) != (lab : Int)) = false := by rw [hq]; simp
        have HQ := Lib.hid hq
        clear hq
        go_wp2_with (at_builtin; refine wpList_append_any rfl (.tmp 32) (.tmp 34) 22 rfl w.heap.size 9 i0 _ 1 16 Tryz.underlying22 hi hz0 hz1 hz2 rfl (by decide) _ j _ rfl (O2.out.alloc _) _ 1 1 [.string (rstS t)] rfl (some_none _) rfl (one_new _ _ _ _) (one_str _) (by unfold maxLen; omega) (by omega) (by have := B2.out.size; simp; omega) ?_; intro a5 c5 w5 hown5 hb5 hnil5)
        have A5 := Lib.hid (show ∀ u ∈ l.take (j + 1), labS u = lab from fun u hu => by
          rw [TK.out, HT.out] at hu
          rcases List.mem_append.1 hu with hu | hu
          · exact hA.out u hu
          · simp only [List.mem_singleton] at hu; rw [hu]; exact HQ.out)
        have O5 := Lib.hid (show w5.ownsRow w.heap.size 9 1 (.slice a5 (j + 1) c5) (j + 1) (strsV ((l.take (j + 1)).map rstS)) from by
          rw [TK.out, HT.out, List.map_append]
          show w5.ownsRow _ _ _ _ _ (strsV ((l.take j).map rstS ++ [rstS t]))
          rw [strsV_snoc]; exact hown5)
        have B5 := Lib.hid (B2.out.trans (((Below.refl w.heap.size w2).alloc B2.out.size _).trans hb5))
        clear hown5 hb5 hnil5
        go_roundw
        case rel => exact ⟨j + 1, a5, c5, by omega, rfl, by go_num, A5, O5, B5⟩
        case measure => simp [intOf] <;> omega
      · have q1 : ((labS t : Int) != (lab : Int)) = true := by rw [bne_iff_ne]; omega
        have HQ := Lib.hid hq
        clear hq
        go_wp2_with fail
        go_ret2
        exact FIN.out (fun _ => by rw [HT.out]; exact HQ.out) _ B2.out O2.out
    · go_wp2_with fail
      go_ret2
      exact FIN.out (fun h => absurd h hlt) _ hB.out hO.out
end Go.Proofs.YtgnaiahnednllaaGreat
namespace Go.Proofs.YtgnaiahnednllaaGreat
open Go.RowKit Go.Maps Go.WideMaps
set_option linter.unusedVariables false
set_option maxRecDepth 20000
theorem lawMs : Keyed Tryz.prog 9 := string_keyed Tryz.underlying9
theorem zeroMs (w : World) : (zeroValue 3).run Tryz.prog w = .ok (.int .i64 0) w := by kernel_rfl
/-- f with v at k -/
def sset (f : List UInt8 → Option Int) (k : List UInt8) (v : Option Int) : List UInt8 → Option Int := fun j => if j = k then v else f j
theorem sset_at (f : List UInt8 → Option Int) (k : List UInt8) (v : Option Int) : sset f k v k = v := by simp [sset]
theorem sset_ne (f : List UInt8 → Option Int) (k j : List UInt8) (v : Option Int) (h : j ≠ k) : sset f k v j = f j := by simp [sset, h]
theorem tight_maps {P : Program} {k : TypeId} {R : Value → Option (DataW Unit × List MemPlace)} {w : World} {b n : Nat} {D : DataW Unit} (h : w.ownsMap P k R b n D) : w.ownsMap P k R b (Maps.size D) D := by
  obtain ⟨es, clock, hb, F, hs, rfl⟩ := h
  exact ⟨es, clock, hb, F, by simp [Maps.size, length_sorted], rfl⟩
/-- block b is a map of n entries: what f says -/
def MapS (w : World) (b n : Nat) (f : List UInt8 → Option Int) : Prop :=
  ∃ D : DataW Unit, w.ownsMap Tryz.prog 9 (plainElem Tryz.prog 3) b n D ∧ Maps.size D = n ∧
    ∀ z, Maps.has D (.string z) = (f z).isSome ∧ ∀ v, f z = some v → D.atKey (.string z) (.lit (.int .i64 0)) = .lit (.int .i64 v)
theorem MapS.lt {w : World} {b n : Nat} {f : List UInt8 → Option Int} (h : MapS w b n f) : b < w.heap.size := by obtain ⟨D, h, _⟩ := h; exact h.lt
theorem MapS.block {w w' : World} {b n : Nat} {f : List UInt8 → Option Int} (h : MapS w b n f) (hb : w'.heap[b]? = w.heap[b]?) : MapS w' b n f := by
  obtain ⟨D, ⟨es, clock, h1, h2⟩, h3⟩ := h
  exact ⟨D, ⟨es, clock, hb.trans h1, h2⟩, h3⟩
theorem MapS.turn {w w' : World} {b n : Nat} {f : List UInt8 → Option Int} {F : Nat → Prop} (h : MapS w b n f) (t : Turn F w w') (hF : ¬ F b) : MapS w' b n f := h.block (t.block b h.lt hF)
theorem mapS_made (w : World) : MapS (w.alloc (.map #[] 0)) w.heap.size 0 (fun _ => none) :=
  ⟨.map [], World.ownsMap_made w _ _ _, rfl, fun z => ⟨rfl, fun v h => by cases h⟩⟩
theorem Turn.of_mapTurnedS {F : Nat → Prop} {w w' : World} {b : Nat} (h : w.mapTurned w' b) (hb : F b) : Turn F w w' := by
  have g := h.grown
  exact ⟨g.os, g.tape, g.output, g.size, fun k hk hn => g.block k hk (fun e => hn (by cases e; exact hb))⟩
theorem MapS.put_run {w : World} {b n : Nat} {f : List UInt8 → Option Int} (H : MapS w b n f) (hn : n < maxLen) (key : ByteArray) (val : Int) (hk : key.size ≤ maxLen) (hwv : (Lit.int .i64 val).wf = true) :
    ∃ w', (Instr.mapUpdate 274 (.map (some b)) (.string key) (.int .i64 val)).run Tryz.prog w = .ok () w' ∧ MapS w' b (if (f key.data.toList).isSome then n else n + 1) (sset f key.data.toList (some val)) ∧ w.mapTurned w' b := by
  obtain ⟨D, hown, hs, hf⟩ := H
  have hkey := keyOf_string_mk Tryz.underlying9 hk
  obtain ⟨w', hrun, r1, r2⟩ := hown.store lawMs Tryz.underlying274 hn hkey (plainElem_int (H := Unit) Tryz.underlying3 hwv)
  have hD := hown.isMap
  have hsz := Maps.size_put (k := .string key.data.toList) (hown.tidy lawMs) (.lit (.int .i64 val))
  rw [(hf key.data.toList).1, hs] at hsz
  refine ⟨w', hrun, ⟨_, hsz ▸ tight_maps r1, hsz, fun z => ?_⟩, r2⟩
  by_cases e : z = key.data.toList
  · subst e
    rw [sset_at]
    exact ⟨Maps.has_put_same (k := .string key.data.toList) hD trivial _, fun v h => by injection h with h; subst h; exact Maps.atKey_put_same (k := .string key.data.toList) hD trivial _ _⟩
  · have hne : (Lit.string z) ≠ .string key.data.toList := fun h => e (by injection h)
    rw [sset_ne _ _ _ _ e]
    exact ⟨by rw [Maps.has_put_other hne]; exact (hf z).1, fun v h => by rw [Maps.atKey_put_other hne]; exact (hf z).2 v h⟩
section
variable {o : Oper} {a : Act} {w : World} {K : Act → World → Prop} {Q : Exit → Act → World → Prop} {ops : Array Oper} {rest : List Oper}
theorem wp_look_ms (m x : Operand) (hop : o.op = Op.lookup 274 m x true) {b n : Nat} {f : List UInt8 → Option Int} (hm : a.eval m = .map (some b)) (H : MapS w b n f) (key : ByteArray) (hx : a.eval x = .string key) (hk : key.size ≤ maxLen)
    (hK : K (a.put o.dst (.tuple #[.int .i64 ((f key.data.toList).getD 0), .bool (f key.data.toList).isSome])) w) : o.wp Tryz.prog a w K Q := by
  obtain ⟨D, hown, hs, hf⟩ := H
  obtain ⟨v, ps, hrun, hv⟩ := hown.look_ok lawMs Tryz.underlying274 (zeroMs w) (plainElem_int (H := Unit) Tryz.underlying3 (by decide)) (keyOf_string_mk Tryz.underlying9 hk)
  obtain ⟨c, rfl, hc, hwc⟩ := plainElem_int_inv Tryz.underlying3 hv
  have hc := congrArg Prod.fst hc
  simp only at hc
  have e : c = (f key.data.toList).getD 0 := by
    cases hfk : f key.data.toList with
    | none =>
      have h1 := (hf key.data.toList).1
      rw [hfk] at h1
      rw [Maps.atKey_of_not_has (by simpa using h1)] at hc
      injection hc with h; injection h with _ h; simp [← h]
    | some u =>
      rw [(hf key.data.toList).2 u hfk] at hc
      injection hc with h; injection h with _ h; simp [← h]
  rw [(hf key.data.toList).1, e] at hrun
  unfold Oper.wp
  simp [execOp, hop, hm, hx, hrun, Result.andThen]
  exact hK
theorem wpList_look_ms (hg : o.guard = none) (m x : Operand) (hop : o.op = Op.lookup 274 m x true) {b n : Nat} {f : List UInt8 → Option Int} (hm : a.eval m = .map (some b)) (H : MapS w b n f) (key : ByteArray) (hx : a.eval x = .string key) (hk : key.size ≤ maxLen)
    (hK : wpList Tryz.prog ops Q rest (a.put o.dst (.tuple #[.int .i64 ((f key.data.toList).getD 0), .bool (f key.data.toList).isSome])) w) : wpList Tryz.prog ops Q (o :: rest) a w :=
  wpList_plain hg fun _ hK' => wp_look_ms m x hop hm H key hx hk (hK' _ _ hK)
end
end Go.Proofs.YtgnaiahnednllaaGreat
namespace Go.Proofs.YtgnaiahnednllaaGreat
open Go.RowKit
set_option linter.unusedVariables false
set_option maxRecDepth 20000
/-- an object in its blocks -/
structure ObjOk (Q : World → (Nat → Prop) → Prop) : Prop where
  turn : ∀ {w w' : World} {S F : Nat → Prop}, Q w S → Turn F w w' → (∀ k, S k → ¬ F k) → Q w' S
  lt : ∀ {w : World} {S : Nat → Prop}, Q w S → ∀ k, S k → k < w.heap.size
def PO (Q : World → (Nat → Prop) → Prop) (w : World) (S : Nat → Prop) (w' : World) : Prop := ∃ S', Q w' S' ∧ (∀ k, S' k → S k ∨ w.heap.size ≤ k) ∧ Turn S w w'
theorem ObjOk.below {Q : World → (Nat → Prop) → Prop} (o : ObjOk Q) {w w' : World} {S : Nat → Prop} (h : Q w S) (hb : Below w.heap.size w w') : Q w' S :=
  o.turn h (F := fun k => w.heap.size ≤ k) (Turn.of_below hb) (fun k hk hn => by have := o.lt h k hk; omega)
theorem PO.more {Q : World → (Nat → Prop) → Prop} (o : ObjOk Q) {w w' w'' : World} {S : Nat → Prop} (h : PO Q w S w') (hb : Below w'.heap.size w' w'') : PO Q w S w'' := by
  obtain ⟨T, q, s, t⟩ := h
  exact ⟨T, o.below q hb, s, t.trans (Turn.of_below hb)⟩
end Go.Proofs.YtgnaiahnednllaaGreat
namespace Go.Proofs.YtgnaiahnednllaaGreat
open Go.RowKit
set_option linter.unusedVariables false
set_option maxRecDepth 20000
/-- a node, and where its edges lie -/
structure NM where
  fin : Bool
  ea : Option Addr
  ec : Nat
  es : List EdP
def nm0 : NM := ⟨false, none, 0, []⟩
def nmV : List NM → List Value
  | [] => []
  | x :: l => .bool x.fin :: .slice x.ea x.es.length x.ec :: nmV l
theorem nmV_app : ∀ k l : List NM, nmV (k ++ l) = nmV k ++ nmV l
  | [], l => rfl
  | x :: k, l => by simp [nmV, nmV_app k l]
theorem nmV_at : ∀ (l : List NM) (i : Nat), i < l.length → (nmV l)[i * 2]? = some (.bool (l.getD i nm0).fin) ∧ (nmV l)[i * 2 + 1]? = some (.slice (l.getD i nm0).ea (l.getD i nm0).es.length (l.getD i nm0).ec)
  | [], i, h => by simp at h
  | x :: l, 0, _ => by simp [nmV]
  | x :: l, i + 1, h => by
    have ih := nmV_at l i (by simpa using h)
    have e1 : (i + 1) * 2 = i * 2 + 1 + 1 := by omega
    rw [e1]
    simpa [nmV] using ih
theorem nmV_set : ∀ (L : List NM) (i : Nat) (y : NM), i < L.length → ((nmV L).set (i * 2) (.bool y.fin)).set (i * 2 + 1) (.slice y.ea y.es.length y.ec) = nmV (L.set i y)
  | [], i, _, h => by simp at h
  | x :: l, 0, y, _ => by simp [nmV]
  | x :: l, i + 1, y, h => by
    have ih := nmV_set l i y (by simpa using h)
    have e0 : (i + 1) * 2 = i * 2 + 1 + 1 := by omega
    have e1 : (i + 1) * 2 + 1 = i * 2 + 1 + 1 + 1 := by omega
    rw [e1, e0]
    simp only [nmV, List.set_cons_succ]
    rw [ih]
theorem mem_nm {L : List NM} {i : Nat} (h : i < L.length) : L.getD i nm0 ∈ L := by rw [List.getD_eq_getElem?_getD, List.getElem?_eq_getElem h]; simp
theorem gowns_block {w w' : World} {base : Nat} {e : TypeId} {size : Nat} {a : Option Addr} {n c : Nat} {xs : List Value} (h : w.ownsRow base e size (.slice a n c) n xs) (hb : ∀ g, a = some ⟨g, 0, none⟩ → w'.heap[g]? = w.heap[g]?) : w'.ownsRow base e size (.slice a n c) n xs := by
  refine ⟨h.1, ?_⟩
  rcases h.2 with h1 | ⟨g, cap, cur, hv, hge, hh, r⟩
  · exact Or.inl h1
  · have hv' := hv
    simp only [Value.slice.injEq] at hv'
    exact Or.inr ⟨g, cap, cur, hv, hge, (hb g hv'.1).trans hh, r⟩
theorem gown_at {a : Option Addr} {n c k : Nat} {w : World} {xs : List Value} {e : TypeId} {base size : Nat} (h : w.ownsRow base e size (.slice a n c) n xs) (hk : some k = (Value.slice a n c).ownBlock) : a = some ⟨k, 0, none⟩ := by
  rcases Joins.ownsRow_forms h with ⟨e1, _⟩ | ⟨g, cap, e1⟩
  · injection e1 with e2; subst e2; cases hk
  · injection e1 with e2; subst e2; injection hk with hk; rw [hk]
theorem gheap_far {w : World} {b o k : Nat} {v : Value} (h : k ≠ b) : (w.setCell ⟨b, o, none⟩ v).heap[k]? = w.heap[k]? := Below.heap_setCell _ _ _ _ h
theorem holdsEd_blocks {w w' : World} {a : Option Addr} {n : Nat} {ks : List EdP} (h : HoldsEd w a n ks) (hb : ∀ b o, a = some ⟨b, o, none⟩ → w'.heap[b]? = w.heap[b]?) : HoldsEd w' a n ks := by
  refine ⟨h.1, fun h0 => ?_⟩
  obtain ⟨b, o, ha, hc⟩ := h.2 h0
  refine ⟨b, o, ha, fun i hi => ?_⟩
  exact ⟨(World.cell?_of_block (w := w) (hb b o ha)).trans (hc i hi).1, (World.cell?_of_block (w := w) (hb b o ha)).trans (hc i hi).2⟩
/-- a node's edges lie in a block of the object's -/
def EdIn (w : World) (S : Nat → Prop) (g : Nat) (na : Option Addr) (x : NM) : Prop := HoldsEd w x.ea x.es.length x.es ∧ (x.ea = none → x.es.length = 0 ∧ x.ec = 0) ∧ x.es.length ≤ x.ec ∧ ∀ fb fo, x.ea = some ⟨fb, fo, none⟩ → S fb ∧ fb ≠ g ∧ na ≠ some ⟨fb, 0, none⟩
/-- block g is a graph of these nodes -/
structure GMid (w : World) (g : Nat) (na : Option Addr) (nc : Nat) (NL : List NM) (S : Nat → Prop) : Prop where
  c : w.cell? ⟨g, 0, none⟩ = some (.slice na NL.length nc)
  f : ∀ i, w.frozen? ⟨g, i, none⟩ = false
  o : w.ownsRow 0 288 2 (.slice na NL.length nc) NL.length (nmV NL)
  e : ∀ x ∈ NL, EdIn w S g na x
  sg : S g
  sn : ∀ q, na = some ⟨q, 0, none⟩ → S q ∧ q ≠ g
  lt : ∀ k, S k → k < w.heap.size
theorem GMid.blocks {w w' : World} {g : Nat} {na : Option Addr} {nc : Nat} {NL : List NM} {S : Nat → Prop} (h : GMid w g na nc NL S) (hs : w.heap.size ≤ w'.heap.size) (hb : ∀ k, S k → w'.heap[k]? = w.heap[k]?) : GMid w' g na nc NL S := by
  have eb := hb g h.sg
  exact ⟨(World.cell?_of_block (w := w) eb).trans h.c, fun i => (World.frozen?_of_block (w := w) eb).trans (h.f i), gowns_block h.o (fun q hq => hb q (h.sn q hq).1), fun x hx => ⟨holdsEd_blocks (h.e x hx).1 (fun fb fo e => hb fb ((h.e x hx).2.2.2 fb fo e).1), (h.e x hx).2⟩, h.sg, h.sn, fun k hk => Nat.lt_of_lt_of_le (h.lt k hk) hs⟩
/-- the blocks but some that lie in S and are none of the nodes' -/
theorem GMid.but {w w' : World} {g : Nat} {na : Option Addr} {nc : Nat} {NL : List NM} {S : Nat → Prop} {m : Nat} (h : GMid w g na nc NL S) (t : Turn (fun k => k = m) w w') (h1 : g ≠ m) (h2 : ∀ q, na = some ⟨q, 0, none⟩ → q ≠ m) (h3 : ∀ x ∈ NL, ∀ fb fo, x.ea = some ⟨fb, fo, none⟩ → fb ≠ m) : GMid w' g na nc NL S := by
  have eb := t.block g (h.lt g h.sg) h1
  exact ⟨(World.cell?_of_block (w := w) eb).trans h.c, fun i => (World.frozen?_of_block (w := w) eb).trans (h.f i), gowns_block h.o (fun q hq => t.block q (h.lt q (h.sn q hq).1) (h2 q hq)), fun x hx => ⟨holdsEd_blocks (h.e x hx).1 (fun fb fo e => t.block fb (h.lt fb ((h.e x hx).2.2.2 fb fo e).1) (h3 x hx fb fo e)), (h.e x hx).2⟩, h.sg, h.sn, fun k hk => Nat.lt_of_lt_of_le (h.lt k hk) t.size⟩
theorem GMid.at {w : World} {g : Nat} {na : Option Addr} {nc : Nat} {NL : List NM} {S : Nat → Prop} (h : GMid w g na nc NL S) {i : Nat} (hi : i < NL.length) : ∃ q, na = some ⟨q, 0, none⟩ ∧ w.cell? ⟨q, i * 2, none⟩ = some (.bool (NL.getD i nm0).fin) ∧ w.cell? ⟨q, i * 2 + 1, none⟩ = some (.slice (NL.getD i nm0).ea (NL.getD i nm0).es.length (NL.getD i nm0).ec) := by
  have o := h.o
  obtain ⟨q, cap', hv⟩ := Joins.ownsRow_form o (by omega)
  simp only [Value.slice.injEq] at hv
  obtain ⟨hv, -, -⟩ := hv
  subst hv
  obtain ⟨v0, v1⟩ := nmV_at NL i hi
  exact ⟨q, rfl, (o.cellAt (i * 2) (by omega)).trans v0, (o.cellAt (i * 2 + 1) (by omega)).trans v1⟩
/-- one node more -/
theorem GMid.grow {w w6 : World} {g q cap : Nat} {na : Option Addr} {nc : Nat} {NL : List NM} {S : Nat → Prop} {o : Obj} (h : GMid w g na nc NL S)
    (own : w6.ownsRow 0 288 2 (.slice (some ⟨q, 0, none⟩) (NL.length + 1) cap) (NL.length + 1) (nmV NL ++ [.bool false, .slice none 0 0]))
    (hg : (w.alloc o).grownBy w6 (Value.slice na NL.length nc).ownBlock) (hat : (Value.slice na NL.length nc).ownBlock = some q ∨ q = (w.alloc o).heap.size) (hlt : q < w6.heap.size) :
    GMid (w6.setCell ⟨g, 0, none⟩ (.slice (some ⟨q, 0, none⟩) (NL.length + 1) cap)) g (some ⟨q, 0, none⟩) cap (NL ++ [nm0]) (fun k => S k ∨ k = q) ∧ Turn (fun k => k = g ∨ na = some ⟨k, 0, none⟩) w (w6.setCell ⟨g, 0, none⟩ (.slice (some ⟨q, 0, none⟩) (NL.length + 1) cap)) ∧ (na = some ⟨q, 0, none⟩ ∨ w.heap.size ≤ q) := by
  have hza : (w.alloc o).heap.size = w.heap.size + 1 := by simp
  have hz6 := hg.size
  have hlb := h.lt g h.sg
  have old : ∀ k, k < w.heap.size → (∀ r, na = some ⟨r, 0, none⟩ → k ≠ r) → w6.heap[k]? = w.heap[k]? := fun k hk hn =>
    (hg.block k (by omega) (fun e => hn k (gown_at h.o e) rfl)).trans (Below.heap_alloc _ _ _ (by omega))
  have ob := old g hlb (fun r e hq => (h.sn r e).2 hq.symm)
  have gq : q ≠ g := by
    rcases hat with e | e
    · exact (h.sn q (gown_at h.o e.symm)).2
    · omega
  have sz : (w6.setCell ⟨g, 0, none⟩ (.slice (some ⟨q, 0, none⟩) (NL.length + 1) cap)).heap.size = w6.heap.size := by simp [World.setCell]
  have hlen : (NL ++ [nm0]).length = NL.length + 1 := by simp
  have hkv : nmV (NL ++ [nm0]) = nmV NL ++ [.bool false, .slice none 0 0] := by rw [nmV_app]; rfl
  have hwhere : na = some ⟨q, 0, none⟩ ∨ w.heap.size ≤ q := by
    rcases hat with e | e
    · exact Or.inl (gown_at h.o e.symm)
    · exact Or.inr (by omega)
  refine ⟨⟨?_, fun i => ?_, ?_, fun x hx => ?_, Or.inl h.sg, fun r hr => ?_, fun k hk => ?_⟩, ?_, hwhere⟩
  · rw [hlen]; exact cset_at ((World.cell?_of_block (w := w) ob).trans h.c)
  · rw [fset_any, World.frozen?_of_block (w := w) ob]; exact h.f i
  · rw [hlen, hkv]
    exact gowns_block own (fun r hr => by injection hr with hr; injection hr with hr; subst hr; exact gheap_far gq)
  · rcases List.mem_append.1 hx with hx | hx
    · obtain ⟨y1, y2, y3, y4⟩ := h.e x hx
      refine ⟨holdsEd_blocks y1 (fun fb fo e => ?_), y2, y3, fun fb fo e => ⟨Or.inl (y4 fb fo e).1, (y4 fb fo e).2.1, fun e2 => ?_⟩⟩
      · rw [gheap_far (y4 fb fo e).2.1]
        exact old fb (h.lt fb (y4 fb fo e).1) (fun r hr e2 => (y4 fb fo e).2.2 (by rw [hr, e2]))
      · injection e2 with e2; injection e2 with e2
        rcases hat with e3 | e3
        · exact (y4 fb fo e).2.2 (by rw [← e2]; exact gown_at h.o e3.symm)
        · have := h.lt fb (y4 fb fo e).1; omega
    · simp only [List.mem_singleton] at hx
      subst hx
      exact ⟨HoldsEd.nil _ _, fun _ => ⟨rfl, rfl⟩, Nat.le_refl _, fun fb fo e => by cases e⟩
  · injection hr with hr; injection hr with hr; subst hr
    exact ⟨Or.inr rfl, gq⟩
  · rw [sz]
    rcases hk with hk | hk
    · have := h.lt k hk; omega
    · rw [hk]; exact hlt
  · refine Turn.trans ?_ (Turn.setCell (Or.inl rfl))
    exact ⟨hg.os, hg.tape, hg.output, by omega, fun k hk hn => old k hk (fun r e h2 => hn (Or.inr (by rw [h2]; exact e)))⟩
/-- a node is laid in its place -/
theorem GMid.put {w : World} {g q nc : Nat} {NL : List NM} {S : Nat → Prop} (h : GMid w g (some ⟨q, 0, none⟩) nc NL S) (i : Nat) (hi : i < NL.length) (y : NM) (h1 : HoldsEd w y.ea y.es.length y.es) (h2 : y.ea = none → y.es.length = 0 ∧ y.ec = 0) (h3 : y.es.length ≤ y.ec) (h4 : ∀ fb fo, y.ea = some ⟨fb, fo, none⟩ → ¬ S fb ∧ fb < w.heap.size) :
    GMid ((w.setCell ⟨q, i * 2, none⟩ (.bool y.fin)).setCell ⟨q, i * 2 + 1, none⟩ (.slice y.ea y.es.length y.ec)) g (some ⟨q, 0, none⟩) nc (NL.set i y) (fun k => S k ∨ ∃ fo, y.ea = some ⟨k, fo, none⟩) ∧ Turn (fun k => k = q) w ((w.setCell ⟨q, i * 2, none⟩ (.bool y.fin)).setCell ⟨q, i * 2 + 1, none⟩ (.slice y.ea y.es.length y.ec)) := by
  obtain ⟨s1, s2⟩ := h.sn q rfl
  have far : ∀ k, k ≠ q → ((w.setCell ⟨q, i * 2, none⟩ (.bool y.fin)).setCell ⟨q, i * 2 + 1, none⟩ (.slice y.ea y.es.length y.ec)).heap[k]? = w.heap[k]? := fun k hk => (gheap_far hk).trans (gheap_far hk)
  have sz : ((w.setCell ⟨q, i * 2, none⟩ (.bool y.fin)).setCell ⟨q, i * 2 + 1, none⟩ (.slice y.ea y.es.length y.ec)).heap.size = w.heap.size := by simp [World.setCell]
  have own := ((h.o.stored (i * 2) (.bool y.fin)).1.stored (i * 2 + 1) (.slice y.ea y.es.length y.ec)).1
  rw [nmV_set NL i y hi] at own
  have og := far g (fun e => s2 e.symm)
  have ne2 : ∀ fb fo, y.ea = some ⟨fb, fo, none⟩ → fb ≠ q := fun fb fo e e2 => (h4 fb fo e).1 (by rw [e2]; exact s1)
  refine ⟨⟨?_, fun k => ?_, ?_, fun x hx => ?_, Or.inl h.sg, fun r hr => ⟨Or.inl (h.sn r hr).1, (h.sn r hr).2⟩, fun k hk => ?_⟩, ?_⟩
  · rw [List.length_set]; exact (World.cell?_of_block (w := w) og).trans h.c
  · rw [World.frozen?_of_block (w := w) og]; exact h.f k
  · rw [List.length_set]; exact own
  · rcases List.mem_or_eq_of_mem_set hx with hx | rfl
    · obtain ⟨y1, y2, y3, y4⟩ := h.e x hx
      exact ⟨holdsEd_blocks y1 (fun fb fo e => far fb (fun e2 => (y4 fb fo e).2.2 (by rw [e2]))), y2, y3, fun fb fo e => ⟨Or.inl (y4 fb fo e).1, (y4 fb fo e).2⟩⟩
    · refine ⟨holdsEd_blocks h1 (fun fb fo e => far fb (ne2 fb fo e)), h2, h3, fun fb fo e => ⟨Or.inr ⟨fo, e⟩, fun e2 => (h4 fb fo e).1 (by rw [e2]; exact h.sg), fun e2 => ?_⟩⟩
      injection e2 with e2; injection e2 with e2
      exact ne2 fb fo e e2.symm
  · rw [sz]
    rcases hk with hk | ⟨fo, hk⟩
    · exact h.lt k hk
    · exact (h4 k fo hk).2
  · exact (Turn.setCell (F := fun k => k = q) rfl).trans (Turn.setCell rfl)
def nmP (x : NM) : Bool × List EdP := (x.fin, x.es)
def gnP (x : GN) : Bool × List EdP := (x.final, x.edges)
def GAt (g : Nat) (st : List GN) (w : World) (S : Nat → Prop) : Prop := ∃ na nc NL, GMid w g na nc NL S ∧ NL.map nmP = st.map gnP
theorem gAt_ok (g : Nat) (st : List GN) : ObjOk (GAt g st) :=
  ⟨fun h t hF => by obtain ⟨na, nc, NL, m, e⟩ := h; exact ⟨na, nc, NL, m.blocks t.size (fun k hk => t.block k (m.lt k hk) (hF k hk)), e⟩, fun h => by obtain ⟨na, nc, NL, m, e⟩ := h; exact m.lt⟩
def ointG : Option Nat → Option Int
  | some i => some (i : Int)
  | none => none
/-- the builder in bb, its graph in g, its map in m -/
structure BMid (bb g m : Nat) (na : Option Addr) (nc : Nat) (NL : List NM) (st : List GN) (w : World) (S : Nat → Prop) : Prop where
  G : GMid w g na nc NL S
  eq : NL.map nmP = st.map gnP
  c0 : w.cell? ⟨bb, 0, none⟩ = some (.pointer (some ⟨g, 0, none⟩))
  c1 : w.cell? ⟨bb, 1, none⟩ = some (.map (some m))
  M : ∃ f, MapS w m st.length f ∧ ∀ l, (∀ t ∈ l, 0 ≤ lenS t) → f (nameL l) = ointG (findG st l)
  sb : S bb
  sm : S m
  n1 : g ≠ m
  n2 : bb ≠ m
  n3 : bb ≠ g
  n4 : ∀ q, na = some ⟨q, 0, none⟩ → q ≠ m ∧ q ≠ bb
  n5 : ∀ x ∈ NL, ∀ fb fo, x.ea = some ⟨fb, fo, none⟩ → fb ≠ m ∧ fb ≠ bb
def QB (bb g m : Nat) (st : List GN) (w : World) (S : Nat → Prop) : Prop := ∃ na nc NL, BMid bb g m na nc NL st w S
theorem BMid.blocks {bb g m : Nat} {na : Option Addr} {nc : Nat} {NL : List NM} {st : List GN} {w w' : World} {S : Nat → Prop} (h : BMid bb g m na nc NL st w S) (hs : w.heap.size ≤ w'.heap.size) (hb : ∀ k, S k → w'.heap[k]? = w.heap[k]?) : BMid bb g m na nc NL st w' S := by
  obtain ⟨f, h1, h2⟩ := h.M
  have eb := hb bb h.sb
  exact ⟨h.G.blocks hs hb, h.eq, (World.cell?_of_block (w := w) eb).trans h.c0, (World.cell?_of_block (w := w) eb).trans h.c1, ⟨f, h1.block (hb m h.sm), h2⟩, h.sb, h.sm, h.n1, h.n2, h.n3, h.n4, h.n5⟩
theorem qb_ok (bb g m : Nat) (st : List GN) : ObjOk (QB bb g m st) :=
  ⟨fun h t hF => by obtain ⟨na, nc, NL, x⟩ := h; exact ⟨na, nc, NL, x.blocks t.size (fun k hk => t.block k (x.G.lt k hk) (hF k hk))⟩, fun h => by obtain ⟨na, nc, NL, x⟩ := h; exact x.G.lt⟩
theorem find_snoc {st : List GN} {s l : List Tx} {g : GN} (hg : g.rests = s) : findG (st ++ [g]) l = match findG st l with | some i => some i | none => if s = l then some st.length else none := by
  subst hg
  unfold findG
  rw [List.findIdx?_append]
  cases h : List.findIdx? (fun g => decide (g.rests = l)) st with
  | some i => simp
  | none =>
    by_cases e : g.rests = l
    · simp [e]
    · simp [e]
/-- behind a name more, and a node more -/
theorem BMid.fresh {bb g m : Nat} {na : Option Addr} {nc : Nat} {NL : List NM} {st : List GN} {w w2 w3 : World} {S : Nat → Prop} {q cap : Nat} {s : List Tx} {o : Obj} {fm : List UInt8 → Option Int} (h : BMid bb g m na nc NL st w S) (ms : MapS w2 m (st.length + 1) (sset fm (nameL s) (some (st.length : Int)))) (t2 : Turn (fun k => k = m) w w2) (hF : ∀ l, (∀ t ∈ l, 0 ≤ lenS t) → fm (nameL l) = ointG (findG st l)) (hs : ∀ t ∈ s, 0 ≤ lenS t) (hf : findG st s = none)
    (own : w3.ownsRow 0 288 2 (.slice (some ⟨q, 0, none⟩) (NL.length + 1) cap) (NL.length + 1) (nmV NL ++ [.bool false, .slice none 0 0]))
    (hg : (w2.alloc o).grownBy w3 (Value.slice na NL.length nc).ownBlock) (hat : (Value.slice na NL.length nc).ownBlock = some q ∨ q = (w2.alloc o).heap.size) (hlt : q < w3.heap.size) :
    ∃ S', BMid bb g m (some ⟨q, 0, none⟩) cap (NL ++ [nm0]) (st ++ [⟨s, false, []⟩]) (w3.setCell ⟨g, 0, none⟩ (.slice (some ⟨q, 0, none⟩) (NL.length + 1) cap)) S' ∧ (∀ k, S' k → S k ∨ w.heap.size ≤ k) ∧ Turn S w (w3.setCell ⟨g, 0, none⟩ (.slice (some ⟨q, 0, none⟩) (NL.length + 1) cap)) := by
  have G2 := h.G.but t2 h.n1 (fun r hr => (h.n4 r hr).1) (fun x hx fb fo e => (h.n5 x hx fb fo e).1)
  obtain ⟨G3, t3, hw⟩ := G2.grow own hg hat hlt
  have hz := t2.size
  have lb := h.G.lt bb h.sb
  have lm := h.G.lt m h.sm
  have bn : bb ≠ m := h.n2
  have qm : q ≠ m ∧ q ≠ bb := by
    rcases hw with e | e
    · exact h.n4 q e
    · exact ⟨by omega, by omega⟩
  have nbF : ¬ (bb = g ∨ na = some ⟨bb, 0, none⟩) := fun e => by
    rcases e with e | e
    · exact h.n3 e
    · exact (h.n4 bb e).2 rfl
  have nmF : ¬ (m = g ∨ na = some ⟨m, 0, none⟩) := fun e => by
    rcases e with e | e
    · exact h.n1 e.symm
    · exact (h.n4 m e).1 rfl
  refine ⟨_, ⟨G3, ?_, ?_, ?_, ⟨sset fm (nameL s) (some (st.length : Int)), ?_, fun l hl => ?_⟩, Or.inl h.sb, Or.inl h.sm, h.n1, h.n2, h.n3, fun r hr => ?_, fun x hx fb fo e => ?_⟩, fun k hk => ?_, ?_⟩
  · rw [List.map_append, List.map_append, h.eq]; rfl
  · rw [t3.cell (by omega) nbF, t2.cell lb bn]; exact h.c0
  · rw [t3.cell (by omega) nbF, t2.cell lb bn]; exact h.c1
  · rw [List.length_append, List.length_singleton]
    exact ms.turn t3 nmF
  · rw [find_snoc rfl]
    by_cases e : l = s
    · subst e
      rw [sset_at, hf]; simp [ointG]
    · rw [sset_ne _ _ _ _ (fun e2 => e (nameL_inj l s hl hs e2)), hF l hl]
      cases findG st l with
      | some i => rfl
      | none => simp [ointG, Ne.symm e]
  · injection hr with hr; injection hr with hr; subst hr
    exact qm
  · rcases List.mem_append.1 hx with hx | hx
    · exact h.n5 x hx fb fo e
    · simp only [List.mem_singleton] at hx
      subst hx; cases e
  · rcases hk with hk | hk
    · exact Or.inl hk
    · rcases hw with e | e
      · exact Or.inl (by rw [hk]; exact (h.G.sn q e).1)
      · exact Or.inr (by omega)
  · refine (t2.mono (fun k hk => by rw [hk]; exact h.sm)).trans (t3.mono (fun k hk => ?_))
    rcases hk with e | e
    · rw [e]; exact h.G.sg
    · exact (h.G.sn k e).1
end Go.Proofs.YtgnaiahnednllaaGreat
