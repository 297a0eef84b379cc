/- a map from ints to whatever in memory, as a function; of any such map's type -/
import Derived.Test.YthfoilnofljflaaChecked
import Derived.Test.YthfoilnofljflaaTn
import Derived.Maps.OwnSet
import Derived.WalkArith
import Derived.Carry
namespace Go.Proofs.Ythfoilnofljflaa
open Go.RowKit Go.Maps
set_option linter.unusedVariables false
set_option maxRecDepth 20000
theorem lawMv : Keyed Try.prog 3 := int_keyed Try.underlying3
/-- an element reads as itself -/
def heldE (v : Value) : Option (DataW Value × List MemPlace) := some (.held v, [])
theorem tight_mapV {P : Program} {k : TypeId} {R : Value → Option (DataW Value × List MemPlace)} {w : World} {b n : Nat} {D : DataW Value} (h : w.ownsMap P k R b n D) : w.ownsMap P k R b (Maps.size D) D := by
  obtain ⟨es, clock, hb, F, hs, rfl⟩ := h
  exact ⟨es, clock, hb, F, by simp [Maps.size, length_sorted], rfl⟩
def wfI (x : Int) : Prop := (Lit.int .i64 x).wf = true
/-- block b is a map of n entries: what f says -/
def MapV (w : World) (b n : Nat) (f : Int → Option Value) : Prop :=
  ∃ D : DataW Value, w.ownsMap Try.prog 3 heldE b n D ∧ Maps.size D = n ∧
    ∀ x, wfI x → Maps.has D (.int .i64 x) = (f x).isSome ∧ ∀ v, f x = some v → ∀ z, D.atKey (.int .i64 x) z = .held v
/-- f with v at x -/
def vset (f : Int → Option Value) (x : Int) (v : Option Value) : Int → Option Value := fun a => if a = x then v else f a
theorem vset_at (f : Int → Option Value) (x : Int) (v : Option Value) : vset f x v x = v := by simp [vset]
theorem vset_ne (f : Int → Option Value) (x a : Int) (v : Option Value) (h : ¬ a = x) : vset f x v a = f a := by simp only [vset, if_neg h]
theorem MapV.lt {w : World} {b n : Nat} {f : Int → Option Value} (h : MapV w b n f) : b < w.heap.size := by obtain ⟨D, h, _⟩ := h; exact h.lt
theorem MapV.block {w w' : World} {b n : Nat} {f : Int → Option Value} (h : MapV w b n f) (hb : w'.heap[b]? = w.heap[b]?) : MapV w' b n f := by
  obtain ⟨D, ⟨es, clock, h1, h2⟩, h3⟩ := h
  exact ⟨D, ⟨es, clock, hb.trans h1, h2⟩, h3⟩
theorem MapV.turn {w w' : World} {b n : Nat} {f : Int → Option Value} {F : Nat → Prop} (h : MapV w b n f) (t : Turn F w w') (hF : ¬ F b) : MapV w' b n f := h.block (t.block b h.lt hF)
theorem MapV.below {w w' : World} {b n : Nat} {f : Int → Option Value} (h : MapV w b n f) (t : Below w.heap.size w w') : MapV w' b n f := h.block (t.block b h.lt)
theorem MapV.setCell {w : World} {b n p o : Nat} {v : Value} {f : Int → Option Value} (h : MapV w b n f) (hp : b ≠ p) : MapV (w.setCell ⟨p, o, none⟩ v) b n f := h.block (Below.heap_setCell _ _ _ _ hp)
theorem MapV.no_cell {w : World} {b n : Nat} {f : Int → Option Value} (h : MapV w b n f) (o : Nat) (v : Value) : w.cell? ⟨b, o, none⟩ ≠ some v := by
  obtain ⟨D, ⟨es, clock, h1, h2⟩, h3⟩ := h
  simp [World.cell?, h1]
theorem mapV_made (w : World) : MapV (w.alloc (.map #[] 0)) w.heap.size 0 (fun _ => none) :=
  ⟨.map [], World.ownsMap_made w _ _ _, rfl, fun x _ => ⟨rfl, fun v h => by cases h⟩⟩
theorem TurnV.of_mapTurned {F : Nat → Prop} {w w' : World} {b : Nat} (h : w.mapTurned w' b) (hb : F b) : Turn F w w' := by
  have g := h.grown
  exact ⟨g.os, g.tape, g.output, g.size, fun k hk hn => g.block k hk (fun e => hn (by cases e; exact hb))⟩
/-- a map's type, its elements' type, and their zero -/
structure MapT (mt et : TypeId) (zv : Value) : Prop where
  u : Try.prog.underlying mt = some (.map 3 et)
  z : ∀ w, (zeroValue et).run Try.prog w = .ok zv w
theorem MapV.put_run {mt et : TypeId} {zv : Value} (T : MapT mt et zv) {w : World} {b n : Nat} {f : Int → Option Value} (H : MapV w b n f) (hn : n < maxLen) (x : Int) (val : Value) (hk : wfI x) :
    ∃ w', (Instr.mapUpdate mt (.map (some b)) (.int .i64 x) val).run Try.prog w = .ok () w' ∧ MapV w' b (if (f x).isSome then n else n + 1) (vset f x (some val)) ∧ w.mapTurned w' b := by
  obtain ⟨D, hown, hs, hf⟩ := H
  have hkey := keyOf_int_mk Try.underlying3 hk
  obtain ⟨w', hrun, r1, r2⟩ := hown.store lawMv T.u hn hkey (show heldE val = some (.held val, []) from rfl)
  have hD := hown.isMap
  have hsz := Maps.size_put (k := .int .i64 x) (hown.tidy lawMv) (.held val)
  rw [(hf x hk).1, hs] at hsz
  refine ⟨w', hrun, ⟨_, hsz ▸ tight_mapV r1, hsz, fun a ha => ?_⟩, r2⟩
  by_cases e : a = x
  · subst e
    rw [vset_at]
    exact ⟨Maps.has_put_same (k := .int .i64 a) hD trivial _, fun v h z => by injection h with h; subst h; exact Maps.atKey_put_same (k := .int .i64 a) hD trivial _ _⟩
  · have hne : (Lit.int .i64 a) ≠ .int .i64 x := fun h => e (by injection h)
    rw [vset_ne _ _ _ _ e]
    exact ⟨by rw [Maps.has_put_other hne]; exact (hf a ha).1, fun v h z => by rw [Maps.atKey_put_other hne]; exact (hf a ha).2 v h z⟩
theorem MapV.del_run {mt et : TypeId} {zv : Value} (T : MapT mt et zv) {w : World} {b n : Nat} {f : Int → Option Value} (H : MapV w b n f) (x : Int) (hk : wfI x) (ty : TypeId) :
    ∃ w', (Builtin.delete_ #[mt, 3] ty #[.map (some b), .int .i64 x]).run Try.prog w = .ok (.tuple #[]) w' ∧ MapV w' b (if (f x).isSome then n - 1 else n) (vset f x none) ∧ w.mapTurned w' b := by
  obtain ⟨D, hown, hs, hf⟩ := H
  have hkey := keyOf_int_mk Try.underlying3 hk
  obtain ⟨w', hrun, r1, r2⟩ := hown.drop lawMv T.u hkey ty
  have hsz := Maps.size_del (k := .int .i64 x) (hown.tidy lawMv)
  rw [(hf x hk).1, hs] at hsz
  have hsz2 : Maps.size (D.del (.int .i64 x)) = if (f x).isSome then n - 1 else n := by split <;> simp_all <;> omega
  refine ⟨w', hrun, ⟨_, hsz2 ▸ tight_mapV r1, hsz2, fun a ha => ?_⟩, r2⟩
  by_cases e : a = x
  · subst e
    rw [vset_at]
    exact ⟨Maps.has_del_same, fun v h => by cases h⟩
  · have hne : (Lit.int .i64 a) ≠ .int .i64 x := fun h => e (by injection h)
    rw [vset_ne _ _ _ _ e]
    exact ⟨by rw [Maps.has_del_other hne]; exact (hf a ha).1, fun v h z => by rw [Maps.atKey_del_other hne]; exact (hf a ha).2 v h z⟩
theorem MapV.got {w : World} {f : Int → Option Value} {D : DataW Value} {x : Int} {v zv : Value} {ps : List MemPlace} (hf : Maps.has D (.int .i64 x) = (f x).isSome ∧ ∀ v, f x = some v → ∀ z, D.atKey (.int .i64 x) z = .held v) (hv : heldE v = some (D.atKey (.int .i64 x) (.held zv), ps)) : v = (f x).getD zv := by
  have hc : DataW.held v = D.atKey (.int .i64 x) (.held zv) := by
    unfold heldE at hv
    injection hv with h; injection h
  cases hfk : f x with
  | none =>
    have h1 := hf.1
    rw [hfk] at h1
    rw [Maps.atKey_of_not_has (by simpa using h1)] at hc
    injection hc with h
  | some u =>
    rw [hf.2 u hfk] at hc
    injection hc with h
theorem MapV.look_run {mt et : TypeId} {zv : Value} (T : MapT mt et zv) {w : World} {b n : Nat} {f : Int → Option Value} (H : MapV w b n f) (x : Int) (hk : wfI x) :
    (Instr.lookup mt (.map (some b)) (.int .i64 x) true).run Try.prog w = .ok (.tuple #[(f x).getD zv, .bool (f x).isSome]) w := by
  obtain ⟨D, hown, hs, hf⟩ := H
  obtain ⟨v, ps, hrun, hv⟩ := hown.look_ok lawMv T.u (T.z w) (show heldE zv = some (.held zv, []) from rfl) (keyOf_int_mk Try.underlying3 hk)
  rw [hrun, (hf x hk).1, MapV.got (w := w) (hf x hk) hv]
theorem MapV.get_run {mt et : TypeId} {zv : Value} (T : MapT mt et zv) {w : World} {b n : Nat} {f : Int → Option Value} (H : MapV w b n f) (x : Int) (hk : wfI x) :
    (Instr.lookup mt (.map (some b)) (.int .i64 x) false).run Try.prog w = .ok ((f x).getD zv) w := by
  obtain ⟨D, hown, hs, hf⟩ := H
  obtain ⟨v, ps, hrun, hv⟩ := hown.lookup lawMv T.u (T.z w) (show heldE zv = some (.held zv, []) from rfl) (keyOf_int_mk Try.underlying3 hk)
  rw [hrun, MapV.got (w := w) (hf x hk) hv]
section
variable {o : Oper} {a : Act} {w : World} {K : Act → World → Prop} {Q : Exit → Act → World → Prop} {ops : Array Oper} {rest : List Oper} {mt et : TypeId} {zv : Value}
theorem wp_look_mv (T : MapT mt et zv) (m x : Operand) (hop : o.op = Op.lookup mt m x true) {b n : Nat} {f : Int → Option Value} (hm : a.eval m = .map (some b)) (H : MapV w b n f) (x1 : Int) (hx : a.eval x = .int .i64 x1) (hk : wfI x1) (v : Value) (s : Bool) (hv : (f x1).getD zv = v) (hs : (f x1).isSome = s)
    (hK : K (a.put o.dst (.tuple #[v, .bool s])) w) : o.wp Try.prog a w K Q := by
  have hrun := H.look_run T x1 hk
  rw [hv, hs] at hrun
  unfold Oper.wp
  simp [execOp, hop, hm, hx, hrun, Result.andThen]
  exact hK
theorem wp_get_mv (T : MapT mt et zv) (m x : Operand) (hop : o.op = Op.lookup mt m x false) {b n : Nat} {f : Int → Option Value} (hm : a.eval m = .map (some b)) (H : MapV w b n f) (x1 : Int) (hx : a.eval x = .int .i64 x1) (hk : wfI x1) (v : Value) (hv : (f x1).getD zv = v)
    (hK : K (a.put o.dst v) w) : o.wp Try.prog a w K Q := by
  have hrun := H.get_run T x1 hk
  rw [hv] at hrun
  unfold Oper.wp
  simp [execOp, hop, hm, hx, hrun, Result.andThen]
  exact hK
theorem wp_put_mv (T : MapT mt et zv) (m x v : Operand) (hop : o.op = Op.mapUpdate mt m x v) {b n : Nat} {f : Int → Option Value} (hm : a.eval m = .map (some b)) (H : MapV w b n f) (hn : n < maxLen) (x1 : Int) (val : Value) (hx : a.eval x = .int .i64 x1) (hv : a.eval v = val) (hk : wfI x1)
    (hK : ∀ w', MapV w' b (if (f x1).isSome then n else n + 1) (vset f x1 (some val)) → w.mapTurned w' b → K (a.put o.dst undef) w') : o.wp Try.prog a w K Q := by
  obtain ⟨w', hrun, r1, r2⟩ := H.put_run T hn x1 val hk
  unfold Oper.wp
  simp [execOp, hop, hm, hx, hv, hrun, Result.andThen]
  exact hK w' r1 r2
theorem wp_del_mv (T : MapT mt et zv) (m x : Operand) (hop : o.op = Op.call { callee := Callee.builtin Builtin.delete, args := #[m, x], argTypes := #[mt, 3] }) {b n : Nat} {f : Int → Option Value} (hm : a.eval m = .map (some b)) (H : MapV w b n f) (x1 : Int) (hx : a.eval x = .int .i64 x1) (hk : wfI x1)
    (hK : ∀ w', MapV w' b (if (f x1).isSome then n - 1 else n) (vset f x1 none) → w.mapTurned w' b → K (a.put o.dst (.tuple #[])) w') : o.wp Try.prog a w K Q := by
  obtain ⟨w', hrun, r1, r2⟩ := H.del_run T x1 hk o.type
  unfold Oper.wp
  simp [execOp, hop, resolve, invoke, builtin, hm, hx, hrun, Result.andThen]
  exact hK w' r1 r2
theorem wpList_look_mv (T : MapT mt et zv) (hg : o.guard = none) (m x : Operand) (hop : o.op = Op.lookup mt m x true) {b n : Nat} {f : Int → Option Value} (hm : a.eval m = .map (some b)) (H : MapV w b n f) (x1 : Int) (hx : a.eval x = .int .i64 x1) (hk : wfI x1) (v : Value) (s : Bool) (hv : (f x1).getD zv = v) (hs : (f x1).isSome = s)
    (hK : wpList Try.prog ops Q rest (a.put o.dst (.tuple #[v, .bool s])) w) : wpList Try.prog ops Q (o :: rest) a w :=
  wpList_plain hg fun _ hK' => wp_look_mv T m x hop hm H x1 hx hk v s hv hs (hK' _ _ hK)
theorem wpList_get_mv (T : MapT mt et zv) (hg : o.guard = none) (m x : Operand) (hop : o.op = Op.lookup mt m x false) {b n : Nat} {f : Int → Option Value} (hm : a.eval m = .map (some b)) (H : MapV w b n f) (x1 : Int) (hx : a.eval x = .int .i64 x1) (hk : wfI x1) (v : Value) (hv : (f x1).getD zv = v)
    (hK : wpList Try.prog ops Q rest (a.put o.dst v) w) : wpList Try.prog ops Q (o :: rest) a w :=
  wpList_plain hg fun _ hK' => wp_get_mv T m x hop hm H x1 hx hk v hv (hK' _ _ hK)
theorem wpList_put_mv (T : MapT mt et zv) (hg : o.guard = none) (m x v : Operand) (hop : o.op = Op.mapUpdate mt m x v) {b n : Nat} {f : Int → Option Value} (hm : a.eval m = .map (some b)) (H : MapV w b n f) (hn : n < maxLen) (x1 : Int) (val : Value) (hx : a.eval x = .int .i64 x1) (hv : a.eval v = val) (hk : wfI x1)
    (hK : ∀ w', MapV w' b (if (f x1).isSome then n else n + 1) (vset f x1 (some val)) → w.mapTurned w' b → wpList Try.prog ops Q rest (a.put o.dst undef) w') : wpList Try.prog ops Q (o :: rest) a w :=
  wpList_plain hg fun _ hK' => wp_put_mv T m x v hop hm H hn x1 val hx hv hk fun w' h1 h2 => hK' _ _ (hK w' h1 h2)
end
end Go.Proofs.Ythfoilnofljflaa
