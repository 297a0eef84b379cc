/- a map from ints to ints in memory, as a function -/
import Derived.Test.YtfmeppfhckahnaaChecked
import Derived.Test.YtfmeppfhckahnaaTn
import Derived.Maps.OwnSet
import Derived.WalkArith
namespace Go.Proofs.Ytfmeppfhckahnaa
open Go.RowKit Go.Maps
set_option linter.unusedVariables false
theorem lawMi : Keyed Try.prog 3 := int_keyed Try.underlying3
theorem zeroMi (w : World) : (zeroValue 3).run Try.prog w = .ok (.int .i64 0) w := by kernel_rfl
/-- f with v at k -/
def fset (f : Int → Option Int) (k : Int) (v : Option Int) : Int → Option Int := fun j => if j = k then v else f j
theorem fset_at (f : Int → Option Int) (k : Int) (v : Option Int) : fset f k v k = v := by simp [fset]
theorem fset_ne (f : Int → Option Int) (k j : Int) (v : Option Int) (h : j ≠ k) : fset f k v j = f j := by simp [fset, h]
theorem tight_map {P : Program} {k : TypeId} {R : Value → Option (DataW Unit × List MemPlace)} {w : World} {b n : Nat} {D : DataW Unit} (h : w.ownsMap P k R b n D) : w.ownsMap P k R b (Maps.size D) D := by
  obtain ⟨es, clock, hb, F, hs, rfl⟩ := h
  exact ⟨es, clock, hb, F, by simp [Maps.size, length_sorted], rfl⟩
/-- block b is a map of n entries: what f says -/
def MapI (w : World) (b n : Nat) (f : Int → Option Int) : Prop :=
  ∃ D : DataW Unit, w.ownsMap Try.prog 3 (plainElem Try.prog 3) b n D ∧ Maps.size D = n ∧
    ∀ z, Maps.has D (.int .i64 z) = (f z).isSome ∧ ∀ v, f z = some v → D.atKey (.int .i64 z) (.lit (.int .i64 0)) = .lit (.int .i64 v)
theorem MapI.lt {w : World} {b n : Nat} {f : Int → Option Int} (h : MapI w b n f) : b < w.heap.size := by obtain ⟨D, h, _⟩ := h; exact h.lt
theorem MapI.block {w w' : World} {b n : Nat} {f : Int → Option Int} (h : MapI w b n f) (hb : w'.heap[b]? = w.heap[b]?) : MapI w' b n f := by
  obtain ⟨D, ⟨es, clock, h1, h2⟩, h3⟩ := h
  exact ⟨D, ⟨es, clock, hb.trans h1, h2⟩, h3⟩
theorem MapI.turn {w w' : World} {b n : Nat} {f : Int → Option Int} {F : Nat → Prop} (h : MapI w b n f) (t : Turn F w w') (hF : ¬ F b) : MapI w' b n f := h.block (t.block b h.lt hF)
theorem MapI.below {w w' : World} {b n : Nat} {f : Int → Option Int} (h : MapI w b n f) (t : Below w.heap.size w w') : MapI w' b n f := h.block (t.block b h.lt)
theorem MapI.setCell {w : World} {b n p o : Nat} {v : Value} {f : Int → Option Int} (h : MapI w b n f) (hp : b ≠ p) : MapI (w.setCell ⟨p, o, none⟩ v) b n f := h.block (Below.heap_setCell _ _ _ _ hp)
theorem MapI.ext {w : World} {b n : Nat} {f g : Int → Option Int} (h : MapI w b n f) (e : ∀ z, f z = g z) : MapI w b n g := (funext e : f = g) ▸ h
theorem MapI.no_cell {w : World} {b n : Nat} {f : Int → Option Int} (h : MapI w b n f) (o : Nat) (v : Value) : w.cell? ⟨b, o, none⟩ ≠ some v := by
  obtain ⟨D, ⟨es, clock, h1, h2⟩, h3⟩ := h
  simp [World.cell?, h1]
theorem mapI_made (w : World) : MapI (w.alloc (.map #[] 0)) w.heap.size 0 (fun _ => none) :=
  ⟨.map [], World.ownsMap_made w _ _ _, rfl, fun z => ⟨rfl, fun v h => by cases h⟩⟩
theorem Turn.of_mapTurned {F : Nat → Prop} {w w' : World} {b : Nat} (h : w.mapTurned w' b) (hb : F b) : Turn F w w' := by
  have g := h.grown
  exact ⟨g.os, g.tape, g.output, g.size, fun k hk hn => g.block k hk (fun e => hn (by cases e; exact hb))⟩
theorem MapI.put_run {w : World} {b n : Nat} {f : Int → Option Int} (H : MapI w b n f) (hn : n < maxLen) (key val : Int) (hk : (Lit.int .i64 key).wf = true) (hwv : (Lit.int .i64 val).wf = true) :
    ∃ w', (Instr.mapUpdate 53 (.map (some b)) (.int .i64 key) (.int .i64 val)).run Try.prog w = .ok () w' ∧ MapI w' b (if (f key).isSome then n else n + 1) (fset f key (some val)) ∧ w.mapTurned w' b := by
  obtain ⟨D, hown, hs, hf⟩ := H
  have hkey := keyOf_int_mk Try.underlying3 hk
  obtain ⟨w', hrun, r1, r2⟩ := hown.store lawMi Try.underlying53 hn hkey (plainElem_int (H := Unit) Try.underlying3 hwv)
  have hD := hown.isMap
  have hsz := Maps.size_put (k := .int .i64 key) (hown.tidy lawMi) (.lit (.int .i64 val))
  rw [(hf key).1, hs] at hsz
  refine ⟨w', hrun, ⟨_, hsz ▸ tight_map r1, hsz, fun z => ?_⟩, r2⟩
  by_cases e : z = key
  · subst e
    rw [fset_at]
    exact ⟨Maps.has_put_same (k := .int .i64 z) hD trivial _, fun v h => by injection h with h; subst h; exact Maps.atKey_put_same (k := .int .i64 z) hD trivial _ _⟩
  · have hne : (Lit.int .i64 z) ≠ .int .i64 key := fun h => e (by injection h)
    rw [fset_ne _ _ _ _ e]
    exact ⟨by rw [Maps.has_put_other hne]; exact (hf z).1, fun v h => by rw [Maps.atKey_put_other hne]; exact (hf z).2 v h⟩
section
variable {o : Oper} {a : Act} {w : World} {K : Act → World → Prop} {Q : Exit → Act → World → Prop} {ops : Array Oper} {rest : List Oper}
theorem wp_look_mi (m x : Operand) (hop : o.op = Op.lookup 53 m x true) {b n : Nat} {f : Int → Option Int} (hm : a.eval m = .map (some b)) (H : MapI w b n f) (key : Int) (hx : a.eval x = .int .i64 key) (hk : (Lit.int .i64 key).wf = true)
    (hK : K (a.put o.dst (.tuple #[.int .i64 ((f key).getD 0), .bool (f key).isSome])) w) : o.wp Try.prog a w K Q := by
  obtain ⟨D, hown, hs, hf⟩ := H
  obtain ⟨v, ps, hrun, hv⟩ := hown.look_ok lawMi Try.underlying53 (zeroMi w) (plainElem_int (H := Unit) Try.underlying3 (by decide)) (keyOf_int_mk Try.underlying3 hk)
  obtain ⟨c, rfl, hc, hwc⟩ := plainElem_int_inv Try.underlying3 hv
  have hc := congrArg Prod.fst hc
  simp only at hc
  have e : c = (f key).getD 0 := by
    cases hfk : f key with
    | none =>
      have h1 := (hf key).1
      rw [hfk] at h1
      rw [Maps.atKey_of_not_has (by simpa using h1)] at hc
      injection hc with h; injection h with _ h; simp [← h]
    | some u =>
      rw [(hf key).2 u hfk] at hc
      injection hc with h; injection h with _ h; simp [← h]
  rw [(hf key).1, e] at hrun
  unfold Oper.wp
  simp [execOp, hop, hm, hx, hrun, Result.andThen]
  exact hK
theorem wp_put_mi (m x v : Operand) (hop : o.op = Op.mapUpdate 53 m x v) {b n : Nat} {f : Int → Option Int} (hm : a.eval m = .map (some b)) (H : MapI w b n f) (hn : n < maxLen) (key val : Int) (hx : a.eval x = .int .i64 key) (hv : a.eval v = .int .i64 val) (hk : (Lit.int .i64 key).wf = true) (hwv : (Lit.int .i64 val).wf = true)
    (hK : ∀ w', MapI w' b (if (f key).isSome then n else n + 1) (fset f key (some val)) → w.mapTurned w' b → K (a.put o.dst undef) w') : o.wp Try.prog a w K Q := by
  obtain ⟨w', hrun, r1, r2⟩ := H.put_run hn key val hk hwv
  unfold Oper.wp
  simp [execOp, hop, hm, hx, hv, hrun, Result.andThen]
  exact hK w' r1 r2
theorem wp_del_mi (m x : Operand) (hop : o.op = Op.call { callee := Callee.builtin Builtin.delete, args := #[m, x], argTypes := #[53, 3] }) {b n : Nat} {f : Int → Option Int} (hm : a.eval m = .map (some b)) (H : MapI w b n f) (key : Int) (hx : a.eval x = .int .i64 key) (hk : (Lit.int .i64 key).wf = true)
    (hK : ∀ w', MapI w' b (if (f key).isSome then n - 1 else n) (fset f key none) → w.mapTurned w' b → K (a.put o.dst (.tuple #[])) w') : o.wp Try.prog a w K Q := by
  obtain ⟨D, hown, hs, hf⟩ := H
  have hkey := keyOf_int_mk Try.underlying3 hk
  obtain ⟨w', hrun, r1, r2⟩ := hown.drop lawMi Try.underlying53 hkey o.type
  unfold Oper.wp
  simp [execOp, hop, resolve, invoke, builtin, hm, hx, hrun, Result.andThen]
  have hsz := Maps.size_del (k := .int .i64 key) (hown.tidy lawMi)
  rw [(hf key).1, hs] at hsz
  have hsz2 : Maps.size (D.del (.int .i64 key)) = if (f key).isSome then n - 1 else n := by split <;> simp_all <;> omega
  refine hK w' ⟨_, hsz2 ▸ tight_map r1, hsz2, fun z => ?_⟩ r2
  by_cases e : z = key
  · subst e
    rw [fset_at]
    exact ⟨Maps.has_del_same, fun v h => by cases h⟩
  · have hne : (Lit.int .i64 z) ≠ .int .i64 key := fun h => e (by injection h)
    rw [fset_ne _ _ _ _ e]
    exact ⟨by rw [Maps.has_del_other hne]; exact (hf z).1, fun v h => by rw [Maps.atKey_del_other hne]; exact (hf z).2 v h⟩
theorem wp_len_mi (m : Operand) (hop : o.op = Op.call { callee := Callee.builtin Builtin.len, args := #[m], argTypes := #[53] }) {b n : Nat} {f : Int → Option Int} (hm : a.eval m = .map (some b)) (H : MapI w b n f)
    (hK : K (a.put o.dst (.int .i64 n)) w) : o.wp Try.prog a w K Q := by
  obtain ⟨D, hown, hs, hf⟩ := H
  have hrun := hown.len Try.underlying53 o.type
  rw [hs] at hrun
  unfold Oper.wp
  simp [execOp, hop, resolve, invoke, builtin, hm, hrun, Result.andThen]
  exact hK
theorem wpList_look_mi (hg : o.guard = none) (m x : Operand) (hop : o.op = Op.lookup 53 m x true) {b n : Nat} {f : Int → Option Int} (hm : a.eval m = .map (some b)) (H : MapI w b n f) (key : Int) (hx : a.eval x = .int .i64 key) (hk : (Lit.int .i64 key).wf = true)
    (hK : wpList Try.prog ops Q rest (a.put o.dst (.tuple #[.int .i64 ((f key).getD 0), .bool (f key).isSome])) w) : wpList Try.prog ops Q (o :: rest) a w :=
  wpList_plain hg fun _ hK' => wp_look_mi m x hop hm H key hx hk (hK' _ _ hK)
theorem wpList_put_mi (hg : o.guard = none) (m x v : Operand) (hop : o.op = Op.mapUpdate 53 m x v) {b n : Nat} {f : Int → Option Int} (hm : a.eval m = .map (some b)) (H : MapI w b n f) (hn : n < maxLen) (key val : Int) (hx : a.eval x = .int .i64 key) (hv : a.eval v = .int .i64 val) (hk : (Lit.int .i64 key).wf = true) (hwv : (Lit.int .i64 val).wf = true)
    (hK : ∀ w', MapI w' b (if (f key).isSome then n else n + 1) (fset f key (some val)) → w.mapTurned w' b → wpList Try.prog ops Q rest (a.put o.dst undef) w') : wpList Try.prog ops Q (o :: rest) a w :=
  wpList_plain hg fun _ hK' => wp_put_mi m x v hop hm H hn key val hx hv hk hwv fun w' h1 h2 => hK' _ _ (hK w' h1 h2)
theorem wpList_del_mi (hg : o.guard = none) (m x : Operand) (hop : o.op = Op.call { callee := Callee.builtin Builtin.delete, args := #[m, x], argTypes := #[53, 3] }) {b n : Nat} {f : Int → Option Int} (hm : a.eval m = .map (some b)) (H : MapI w b n f) (key : Int) (hx : a.eval x = .int .i64 key) (hk : (Lit.int .i64 key).wf = true)
    (hK : ∀ w', MapI w' b (if (f key).isSome then n - 1 else n) (fset f key none) → w.mapTurned w' b → wpList Try.prog ops Q rest (a.put o.dst (.tuple #[])) w') : wpList Try.prog ops Q (o :: rest) a w :=
  wpList_plain hg fun _ hK' => wp_del_mi m x hop hm H key hx hk fun w' h1 h2 => hK' _ _ (hK w' h1 h2)
theorem wpList_len_mi (hg : o.guard = none) (m : Operand) (hop : o.op = Op.call { callee := Callee.builtin Builtin.len, args := #[m], argTypes := #[53] }) {b n : Nat} {f : Int → Option Int} (hm : a.eval m = .map (some b)) (H : MapI w b n f)
    (hK : wpList Try.prog ops Q rest (a.put o.dst (.int .i64 n)) w) : wpList Try.prog ops Q (o :: rest) a w :=
  wpList_plain hg fun _ hK' => wp_len_mi m hop hm H (hK' _ _ hK)
end
end Go.Proofs.Ytfmeppfhckahnaa
