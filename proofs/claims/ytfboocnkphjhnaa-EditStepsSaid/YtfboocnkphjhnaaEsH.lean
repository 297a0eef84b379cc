/- the law of one step, and of a like beginning and end -/
import Derived.Test.YtfboocnkphjhnaaEdS
import Derived.Test.YtfboocnkphjhnaaEdW
import Derived.Test.YtfboocnkphjhnaaEd5
import Derived.Test.YtfboocnkphjhnaaLowV
import Derived.Test.YtfboocnkphjhnaaOpR
import Derived.Test.YtfboocnkphjhnaaTxV
import Derived.Deep.RegionHeld3
import Derived.Deep.DeepCutAuto
import Derived.Deep.CutRange
import Derived.Deep.CutBlock
namespace Go.Proofs.Ytfboocnkphjhnaa
open Go.RowKit
set_option linter.unusedVariables false
theorem runesV_app (xs ys : List Int) : runesV (xs ++ ys) = runesV xs ++ runesV ys := by simp [runesV]
theorem runesV_one (xs : List Int) : ∀ u ∈ runesV xs, u.oneCell' = true := by
  intro u hu; obtain ⟨t, _, rfl⟩ := List.mem_map.1 hu; rfl
theorem runesV_len (xs : List Int) : (runesV xs).length = xs.length := by simp [runesV]
theorem own_ints {w : World} {B : Nat} {e : TypeId} {a : Option Addr} {n c : Nat} {zs : List Int} (h : w.ownsRow B e 1 (.slice a n c) n (runesV zs)) : HoldsI .i32 w a n zs := by
  have hv := owns_holds h
  have hl : zs.length = n := by have := hv.1; rw [runesV_len] at this; exact this
  refine ⟨hl, fun h0 => ?_⟩
  obtain ⟨b, o, ha, hc⟩ := hv.2 h0
  exact ⟨b, o, ha, fun i hi => by rw [hc i hi, runesV, getD_map_int .i32 zs i (by omega)]⟩
theorem ints_cells {w w' : World} {a : Option Addr} {n : Nat} {zs : List Int} (h : HoldsI .i32 w a n zs) (hb : Below w.heap.size w w') : ∀ ad, a = some ad → ∀ j u, (runesV zs)[j]? = some u → w'.cell? (ad.add j) = some u :=
  (HoldsI.below h hb).values.cells ⟨rfl, rfl, rfl, Nat.le_refl _, fun _ _ _ => rfl⟩
theorem ints_cells_some {w w' : World} {b o : Nat} {n : Nat} {zs : List Int} (h : HoldsI .i32 w (some ⟨b, o, none⟩) n zs) (hb : Below w.heap.size w w') : ∀ j u, (runesV zs)[j]? = some u → w'.cell? ((⟨b, o, none⟩ : Addr).add j) = some u := ints_cells h hb _ rfl
theorem HoldsI.dropR {w : World} {b o n : Nat} {zs : List Int} (h : HoldsI .i32 w (some ⟨b, o, none⟩) n zs) (p : Nat) (hp : p ≤ n) : HoldsI .i32 w (some ⟨b, o + p, none⟩) (n - p) (zs.drop p) := by
  refine ⟨by have := h.1; simp; omega, fun h0 => ?_⟩
  obtain ⟨b', o', ha, hc⟩ := h.2 (by omega)
  cases ha
  refine ⟨b, o + p, rfl, fun i hi => ?_⟩
  rw [Nat.add_assoc, hc (p + i) (by omega)]
  simp [List.getD_eq_getElem?_getD]
theorem one_kept {w0 w' : World} {v : Value} {e : TypeId} {fr : Nat × Nat} (hb : Below (w0.alloc (.cells #[v] e fr)).heap.size (w0.alloc (.cells #[v] e fr)) w') : ∀ ad, (some ⟨w0.heap.size, 0, none⟩ : Option Addr) = some ad → ∀ j u, [v][j]? = some u → w'.cell? (ad.add j) = some u := by
  intro ad h j u hu
  have := one_new w0 v e fr ad h j u hu
  rw [← this]
  cases h
  exact hb.cell (by simp [Addr.add]; split <;> simp)
theorem iteE_none {p : Prop} {c : Prop} [Decidable c] (a b : Addr) : ((if c then some a else some b) = none) → p := by split <;> exact fun h => by cases h
/-- 'append(v, x...)' at one operation, x whatever slice (nil too): the value is a slice of the call's own -/
theorem wp_append_opt {P : Program} {w : World} {o : Oper} {a : Act} {K : Act → World → Prop} {Q : Exit → Act → World → Prop} (s x : Operand) (t : TypeId)
    (ho : o.op = .call { callee := .builtin .append, args := #[s, x], argTypes := #[t, t] })
    (base : Nat) (e : TypeId) (i : TypeInfo) (z : Value) (size bytes : Nat) (ht : P.underlying t = some (.slice e)) (hi : P.info? e = some i) (hz : i.zero = some z)
    (hsize : i.size = size) (hby : i.bytes = bytes) (hzs : z.cells.size = size) (hsz : 0 < size)
    (v : Value) (n : Nat) (xs : List Value) (hs : a.eval s = v) (hown : w.ownsRow base e size v n xs)
    (ao : Option Addr) (m c : Nat) (news : List Value) (hx : a.eval x = .slice ao m c) (hnone : ao = none → m = 0 ∧ c = 0) (hl : news.length = m * size)
    (hnews : ∀ ad, ao = some ad → ∀ j u, news[j]? = some u → w.cell? (ad.add j) = some u) (h1 : ∀ u ∈ news, u.oneCell' = true)
    (h63 : n + m ≤ maxLen) (hbytes : (n + m) * bytes ≤ 140737488355328) (hbase : base ≤ w.heap.size)
    (h : ∀ a' c' w', w'.ownsRow base e size (.slice a' (n + m) c') (n + m) (xs ++ news) → Below base w w' → K (a.put o.dst (.slice a' (n + m) c')) w') : o.wp P a w K Q := by
  have fin : ∀ v' w', w'.ownsRow base e size v' (n + m) (xs ++ news) → Below base w w' → K (a.put o.dst v') w' := by
    intro v' w' ho' hb'
    rcases Joins.ownsRow_forms ho' with ⟨rfl, h0⟩ | ⟨g, cap, rfl⟩
    · have := h none 0 w' (by rw [h0] at ho' ⊢; exact ho') hb'
      rw [h0] at this
      exact this
    · exact h _ _ w' ho' hb'
  cases ao with
  | some ad =>
    refine wp_append_own w s x t ho base e i z size bytes ht hi hz hsize hby hzs hsz v n xs hs hown ad m c news hx hl (hnews ad rfl) h1 h63 hbytes hbase fun v' w' h2 h3 _ => ?_
    exact fin v' w' h2 ((Below.refl base w).grown h3 hbase fun k hk => (hown.lt k hk).1)
  | none =>
    obtain ⟨rfl, rfl⟩ := hnone rfl
    have hn : news = [] := List.eq_nil_of_length_eq_zero (by simpa using hl)
    subst hn
    have hr := run_append_owned_none w base t o.type e i size ht hi v n xs hown
    unfold Oper.wp execOp
    simp only [ho, resolve, invoke, builtin, Sem.run_bind, Sem.run_pure, Result.andThen_ok, List.map_toArray, List.map_cons, List.map_nil, hs, hx, hr]
    exact fin v w (by simpa using hown) (Below.refl _ _)
/-- the first append of a row: onto nil -/
theorem wp_append_first {P : Program} {w : World} {o : Oper} {a : Act} {K : Act → World → Prop} {Q : Exit → Act → World → Prop} (s x : Operand) (t : TypeId)
    (ho : o.op = .call { callee := .builtin .append, args := #[s, x], argTypes := #[t, t] })
    (e : TypeId) (i : TypeInfo) (z : Value) (size bytes : Nat) (ht : P.underlying t = some (.slice e)) (hi : P.info? e = some i) (hz : i.zero = some z)
    (hsize : i.size = size) (hby : i.bytes = bytes) (hzs : z.cells.size = size) (hsz : 0 < size)
    (hs : a.eval s = .slice none 0 0)
    (ao : Option Addr) (m c : Nat) (news : List Value) (hx : a.eval x = .slice ao m c) (hnone : ao = none → m = 0 ∧ c = 0) (hl : news.length = m * size)
    (hnews : ∀ ad, ao = some ad → ∀ j u, news[j]? = some u → w.cell? (ad.add j) = some u) (h1 : ∀ u ∈ news, u.oneCell' = true)
    (h63 : m ≤ maxLen) (hbytes : m * bytes ≤ 140737488355328)
    (h : ∀ a' c' w', w'.ownsRow w.heap.size e size (.slice a' m c') m news → Below w.heap.size w w' → K (a.put o.dst (.slice a' m c')) w') : o.wp P a w K Q := by
  refine wp_append_opt s x t ho w.heap.size e i z size bytes ht hi hz hsize hby hzs hsz (.slice none 0 0) 0 [] hs (World.ownsRow_nil _ _ _ _) ao m c news hx hnone hl hnews h1 (by omega) (by rw [Nat.zero_add]; exact hbytes) (Nat.le_refl _) ?_
  intro a' c' w' h2 h3
  rw [Nat.zero_add] at h2 ⊢
  exact h a' c' w' h2 h3
theorem step_of (ra rb u : List Int) (k p : Nat) (h1 : k ≤ p) (h2 : p ≤ k + 1) (hu : u.length ≤ 1) : Ed.D (ra.take k ++ u ++ ra.drop p) rb ≤ Ed.D ra rb + 1 ∧ Ed.D ra rb ≤ Ed.D (ra.take k ++ u ++ ra.drop p) rb + 1 := by
  have e : ra.take k ++ (ra.take p).drop k ++ ra.drop p = ra := by
    have h3 : (ra.take p).take k = ra.take k := by rw [List.take_take, Nat.min_eq_left h1]
    rw [← h3, List.take_append_drop, List.take_append_drop]
  have := Ed.D_step (ra.take k) u ((ra.take p).drop k) (ra.drop p) rb hu (by simp; omega)
  rw [e] at this
  exact this
end Go.Proofs.Ytfboocnkphjhnaa
