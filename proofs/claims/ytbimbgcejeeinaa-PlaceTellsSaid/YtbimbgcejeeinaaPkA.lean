/- texts joined -/
import Derived.WalkKit
import Derived.ProofKit
import Derived.OpenShut
import Derived.Lib.SmallJoins
import Derived.Lib.Hide
import Derived.Deep.Slices
import Derived.OwnWalk
import Derived.Laws.AppendOwnNone
import Derived.Test.YtbimbgcejeeinaaChecked
import Derived.WalkLawsBesides
import Derived.Outline
import Derived.Sort.Walk0
import Derived.Laws.RangeAny
import Derived.Lib.DecodeN
import Derived.Deep.QuietTactic
import Derived.BigQuiet
import Derived.SliceStrings
import Derived.Deep.RegionWith
import Derived.Deep.DeepCutAuto
import Derived.Deep.RegionHeld3
import Derived.Lib.OthersKept
/- What a slice of integers in memory holds, told so that a walk can use it; plain lemmas. -/
namespace Go.Proofs.Ytbimbgcejeeinaa
open Go.ChangeShapes Go.WideShapes Go.ChangeAt Go.RowKit
set_option linter.unusedVariables false
set_option maxRecDepth 20000

theorem ret_int {k : IntKind} {a b : Int} (h : a = b) : Ending.returned (.int k a) = .returned (.int k b) := by rw [h]
theorem ret_bool {a b : Bool} (h : a = b) : Ending.returned (.bool a) = .returned (.bool b) := by rw [h]
theorem below_one (w : World) (o : Obj) : Below w.heap.size w (w.alloc o) := (Below.refl _ _).alloc (Nat.le_refl _) o
theorem bcell {W w1 : World} (hb : Below W.heap.size W w1) : (∀ b o, b < W.heap.size → w1.cell? ⟨b, o, none⟩ = W.cell? ⟨b, o, none⟩) ∧ (∀ b o, b < W.heap.size → w1.frozen? ⟨b, o, none⟩ = W.frozen? ⟨b, o, none⟩) :=
  ⟨fun b o h => hb.cell (p := ⟨b, o, none⟩) h, fun b o h => hb.frozen (p := ⟨b, o, none⟩) h⟩
theorem below_drewN (w : World) (n : Nat) : Below w.heap.size w (w.drewN n) := Joins.below_draws _ _ _

/-- The slice at a of n elements of the kind k holds the numbers zs. (Of a slice of no elements nothing is said of its address.) -/
def HoldsI (k : IntKind) (w : World) (a : Option Addr) (n : Nat) (zs : List Int) : Prop :=
  zs.length = n ∧ (0 < n → ∃ b o, a = some ⟨b, o, none⟩ ∧ ∀ i, i < n → w.cell? ⟨b, o + i, none⟩ = some (.int k (zs.getD i 0)))
theorem HoldsI.len {k : IntKind} {w : World} {a : Option Addr} {n : Nat} {zs : List Int} (h : HoldsI k w a n zs) : zs.length = n := h.1
theorem HoldsI.at {k : IntKind} {w : World} {a : Option Addr} {n : Nat} {zs : List Int} (h : HoldsI k w a n zs) (h0 : 0 < n) : ∃ b o, a = some ⟨b, o, none⟩ ∧ ∀ i, i < n → w.cell? ⟨b, o + i, none⟩ = some (.int k (zs.getD i 0)) := h.2 h0
theorem lt_of_cell {w : World} {b o : Nat} {v : Value} (h : w.cell? ⟨b, o, none⟩ = some v) : b < w.heap.size := by
  rcases Nat.lt_or_ge b w.heap.size with h' | h'
  · exact h'
  · simp [World.cell?, Array.getElem?_eq_none h'] at h
theorem HoldsI.nil (k : IntKind) (w : World) (a : Option Addr) : HoldsI k w a 0 [] := ⟨rfl, fun h => absurd h (by omega)⟩
theorem HoldsI.below {k : IntKind} {w w' : World} {a : Option Addr} {n : Nat} {zs : List Int} (h : HoldsI k w a n zs) (hb : Below w.heap.size w w') : HoldsI k w' a n zs := by
  refine ⟨h.1, fun h0 => ?_⟩
  obtain ⟨b, o, ha, hc⟩ := h.2 h0
  refine ⟨b, o, ha, fun i hi => ?_⟩
  rw [hb.cell (p := ⟨b, o + i, none⟩) (lt_of_cell (hc i hi))]
  exact hc i hi
theorem HoldsI.drewN {k : IntKind} {w : World} {a : Option Addr} {n : Nat} {zs : List Int} (h : HoldsI k w a n zs) (m : Nat) : HoldsI k (w.drewN m) a n zs := h.below (below_drewN w m)
theorem HoldsI.alloc {k : IntKind} {w : World} {a : Option Addr} {n : Nat} {zs : List Int} (h : HoldsI k w a n zs) (o : Obj) : HoldsI k (w.alloc o) a n zs := h.below (below_one w o)
/-- a part of it -/
theorem HoldsI.sub {k : IntKind} {w : World} {b o n : Nat} {zs : List Int} (h : HoldsI k w (some ⟨b, o, none⟩) n zs) (i j : Nat) (hij : i ≤ j) (hj : j ≤ n) : HoldsI k w (some ⟨b, o + i, none⟩) (j - i) ((zs.take j).drop i) := by
  refine ⟨by simp [h.1]; omega, fun h0 => ⟨b, o + i, rfl, fun t ht => ?_⟩⟩
  obtain ⟨b', o', ha, hc⟩ := h.2 (by omega)
  simp only [Option.some.injEq, Addr.mk.injEq, and_true] at ha
  obtain ⟨rfl, rfl⟩ := ha
  rw [Nat.add_assoc, hc (i + t) (by omega)]
  have h1 : ((zs.take j).drop i).getD t 0 = zs.getD (i + t) 0 := by
    simp only [List.getD_eq_getElem?_getD, List.getElem?_drop, List.getElem?_take]
    rw [if_pos (by omega)]
  rw [h1]

theorem HoldsI.part {k : IntKind} {w : World} {b o n : Nat} {zs : List Int} (h : HoldsI k w (some ⟨b, o, none⟩) n zs) (i j : Nat) (hij : i ≤ j) (hj : j ≤ n) (m : Nat) (hm : m = j - i) : HoldsI k w (some ⟨b, o + i, none⟩) m ((zs.take j).drop i) := by
  subst hm; exact h.sub i j hij hj
theorem take_succ_getD {α : Type} (l : List α) (d : α) (k : Nat) (h : k < l.length) : l.take (k + 1) = l.take k ++ [l.getD k d] := by
  rw [List.take_succ_eq_append_getElem h]; simp [List.getD_eq_getElem?_getD, h]
theorem take_ne_of_getD {α : Type} {l m : List α} (d : α) (k : Nat) (h : l.getD k d ≠ m.getD k d) : l ≠ m := fun e => h (by rw [e])
theorem take_eq_all {α : Type} {l m : List α} {n : Nat} (h : l.take n = m.take n) (h1 : l.length = n) (h2 : m.length = n) : l = m := by
  rw [← List.take_of_length_le (Nat.le_of_eq h1), ← List.take_of_length_le (Nat.le_of_eq h2)]; exact h
end Go.Proofs.Ytbimbgcejeeinaa
/- An argument that is a slice of structs, opened. Of whatever program. -/
namespace Go.Proofs.Ytbimbgcejeeinaa
open Go.ChangeShapes Go.WideShapes Go.ChangeAt Go.RowKit Go.Deep
set_option linter.unusedVariables false
set_option maxRecDepth 20000
theorem list2 {α : Type} {l : List α} (h : l.length = 2) : ∃ a b, l = [a, b] := by
  match l, h with
  | [a, b], _ => exact ⟨a, b, rfl⟩
theorem list3 {α : Type} {l : List α} (h : l.length = 3) : ∃ a b c, l = [a, b, c] := by
  match l, h with
  | [a, b, c], _ => exact ⟨a, b, c, rfl⟩
theorem list4 {α : Type} {l : List α} (h : l.length = 4) : ∃ a b c d, l = [a, b, c, d] := by
  match l, h with
  | [a, b, c, d], _ => exact ⟨a, b, c, d, rfl⟩
theorem list5 {α : Type} {l : List α} (h : l.length = 5) : ∃ a b c d e, l = [a, b, c, d, e] := by
  match l, h with
  | [a, b, c, d, e], _ => exact ⟨a, b, c, d, e, rfl⟩
theorem list6 {α : Type} {l : List α} (h : l.length = 6) : ∃ a b c d e f, l = [a, b, c, d, e, f] := by
  match l, h with
  | [a, b, c, d, e, f], _ => exact ⟨a, b, c, d, e, f, rfl⟩
theorem list7 {α : Type} {l : List α} (h : l.length = 7) : ∃ a b c d e f g, l = [a, b, c, d, e, f, g] := by
  match l, h with
  | [a, b, c, d, e, f, g], _ => exact ⟨a, b, c, d, e, f, g, rfl⟩
theorem list8 {α : Type} {l : List α} (h : l.length = 8) : ∃ a b c d e f g h, l = [a, b, c, d, e, f, g, h] := by
  match l, h with
  | [a, b, c, d, e, f, g, h], _ => exact ⟨a, b, c, d, e, f, g, h, rfl⟩
theorem open_rows_arg {H : Type} {enc : TypeId × Value → H} {P : Program} {W : World} {base : Nat} {t e : TypeId} {k : Nat} {v : Value} {d : DataW H} {p : List MemPlace}
    (ht : P.underlying t = some (.slice e)) (hc : P.cellsOf e = k) (hk : 0 < k) (good : List Value → Prop)
    (hgood : ∀ m cs y, DataW.trod enc P W 0 (fun _ => true) true m e cs = some y → good cs)
    (o : Value.okWide P W .any base t v) (h : DataW.Trod enc P W 0 (fun _ => true) true t v d p) :
    ∃ (a : Option Addr) (n cap : Nat) (R : Nat → List Value), v = .slice a n cap ∧ (a = none → n = 0 ∧ cap = 0) ∧ n ≤ cap ∧ cap ≤ maxLen ∧ (∀ i, i < n → good (R i)) ∧
      (0 < n → ∃ b o, a = some ⟨b, o, none⟩ ∧ ∀ i, i < n → ∀ j, j < k → W.cell? ⟨b, o + i * k + j, none⟩ = (R i)[j]?) := by
  obtain ⟨a, len, cap, rfl⟩ := okWide_slice ht o
  obtain ⟨fuel, hf⟩ := h
  rcases open_slice ht hf with ⟨hcs, _⟩ | ⟨x, l, c, m, n, D, Pl, hcs, _, hl, hm, hmm, _, hx⟩
  · simp [Value.cells] at hcs
    obtain ⟨rfl, rfl, rfl⟩ := hcs
    exact ⟨none, 0, 0, fun _ => [], rfl, fun _ => ⟨rfl, rfl⟩, Nat.le_refl _, by unfold maxLen; omega, by simp, by simp⟩
  · simp [Value.cells] at hcs
    obtain ⟨rfl, rfl, rfl⟩ := hcs
    simp at hmm
    subst hmm
    rw [hc] at hx
    have hR : ∀ i, ∃ cs' : List Value, i < m → W.cells? 0 (x.add (i * k)) k = some cs' ∧ good cs' := fun i => by
      by_cases hi : i < m
      · obtain ⟨cs', h1, h2⟩ := hx i hi
        exact ⟨cs', fun _ => ⟨h1, hgood _ _ _ h2⟩⟩
      · exact ⟨[], fun h => absurd h hi⟩
    refine ⟨some x, len, m, fun i => (hR i).choose, rfl, (fun h => by cases h), hl, hm, fun i hi => ((hR i).choose_spec (by omega)).2, fun h0 => ?_⟩
    have h1 := fun i (hi : i < m) => (World.cells?_some ((hR i).choose_spec hi).1)
    obtain ⟨b, off, spot⟩ := x
    have hspot : spot = none := by
      have h2 := (h1 0 (by omega)).2.2 0 hk
      have h3 := (h1 0 (by omega)).2.1
      have h4 : ((hR 0).choose)[0]? = some (((hR 0).choose)[0]'(by omega)) := List.getElem?_eq_getElem _
      rw [h4] at h2
      simpa [Addr.add] using World.cell?_spot h2
    subst hspot
    refine ⟨b, off, rfl, fun i hi j hj => ?_⟩
    have h2 := (h1 i (by omega)).2.2 j hj
    rw [← h2, Go.WideShapes.add_plain, Go.WideShapes.add_plain]
/-- the cells of a struct whose fields lie one behind the other, a cell each -/
theorem struct_cells {H : Type} {enc : TypeId × Value → H} {P : Program} {w : World} {base : Nat} {spare : Nat → Bool} {held : Bool} {fuel : Nat} {t : TypeId} {fs : Array Field} {cs : List Value} {x : DataW H × List MemPlace}
    (hs : P.underlying t = some (.struct fs)) (h : DataW.trod enc P w base spare held fuel t cs = some x) :
    cs.length = P.cellsOf t ∧ ∃ n, ∀ (i : Nat) (f : Field), fs[i]? = some f → ∃ y, DataW.trod enc P w base spare held n f.type ((cs.drop f.offset).take (P.cellsOf f.type)) = some y := by
  obtain ⟨xs, n, _, _, hl, hlen, hx⟩ := DataW.trod_struct hs h
  refine ⟨hl, n, fun i f hi => ?_⟩
  have h1 := hx i f hi
  have hlt : i < xs.length := by
    rw [hlen]
    rcases Nat.lt_or_ge i fs.size with h' | h'
    · exact h'
    · rw [Array.getElem?_eq_none h'] at hi; cases hi
  rw [List.getElem?_eq_getElem hlt] at h1
  exact ⟨_, h1⟩
end Go.Proofs.Ytbimbgcejeeinaa
/- What a slice in memory holds, by its cells' values (elements of one cell each). -/
namespace Go.Proofs.Ytbimbgcejeeinaa
open Go.ChangeShapes Go.WideShapes Go.ChangeAt Go.RowKit
set_option linter.unusedVariables false
set_option maxRecDepth 20000

/-- The slice at a of n elements, of one cell each, holds the values xs. -/
def HoldsV (w : World) (a : Option Addr) (n : Nat) (xs : List Value) : Prop :=
  xs.length = n ∧ (0 < n → ∃ b o, a = some ⟨b, o, none⟩ ∧ ∀ i, i < n → w.cell? ⟨b, o + i, none⟩ = some (xs.getD i undef))
theorem HoldsV.below {w w' : World} {a : Option Addr} {n : Nat} {xs : List Value} (h : HoldsV w a n xs) (hb : Below w.heap.size w w') : HoldsV w' a n xs := by
  refine ⟨h.1, fun h0 => ?_⟩
  obtain ⟨b, o, ha, hc⟩ := h.2 h0
  refine ⟨b, o, ha, fun i hi => ?_⟩
  rw [hb.cell (p := ⟨b, o + i, none⟩) (lt_of_cell (hc i hi))]
  exact hc i hi
theorem getD_map_int (k : IntKind) (zs : List Int) (i : Nat) (hi : i < zs.length) : (zs.map (Value.int k)).getD i undef = .int k (zs.getD i 0) := by
  simp [List.getD_eq_getElem?_getD, hi]
theorem HoldsI.values {k : IntKind} {w : World} {a : Option Addr} {n : Nat} {zs : List Int} (h : HoldsI k w a n zs) : HoldsV w a n (zs.map (Value.int k)) := by
  refine ⟨by simpa using h.1, fun h0 => ?_⟩
  obtain ⟨b, o, ha, hc⟩ := h.2 h0
  exact ⟨b, o, ha, fun i hi => by rw [hc i hi, getD_map_int k zs i (by rw [h.1]; exact hi)]⟩
theorem HoldsV.cells {w w' : World} {a : Option Addr} {n : Nat} {xs : List Value} (h : HoldsV w a n xs) (hg : w.grownBy w' none) : ∀ ad, a = some ad → ∀ j u, xs[j]? = some u → w'.cell? (ad.add j) = some u := by
  intro ad ha j u hj
  have hlt : j < xs.length := (List.getElem?_eq_some_iff.1 hj).1
  obtain ⟨b, o, hb, hc⟩ := h.2 (by have := h.1; omega)
  rw [ha] at hb
  obtain rfl := Option.some.inj hb
  have h2 := hc j (by have := h.1; omega)
  rw [List.getD_eq_getElem?_getD, hj] at h2
  rw [add_plain]
  exact hg.cell h2 (by simp)
theorem below_grown {w w' : World} {row : Option Nat} (hg : w.grownBy w' row) (hr : ∀ k, row = some k → w.heap.size ≤ k) : Below w.heap.size w w' := (Below.refl _ _).grown hg (Nat.le_refl _) hr
/-- Block B is a row of n + 3 cells that may be written: the first n hold xs, of the three behind them the first k hold the mark. -/
def Roomy (w : World) (B : Nat) (e : TypeId) (mark : Value) (n : Nat) (xs : List Value) (k : Nat) : Prop :=
  ∃ cs : Array Value, w.heap[B]? = some (.cells cs e (0, 0)) ∧ cs.size = n + 3 ∧ (∀ i, i < n → cs[i]? = some (xs.getD i undef)) ∧ ∀ i, i < k → cs[n + i]? = some mark
/-- What 'append' left in a row of n + 3 cells. -/
theorem roomy_of_own {w : World} {base B : Nat} {e : TypeId} {mark : Value} {n : Nat} {xs : List Value} (hl : xs.length = n) (h : w.ownsRow base e 1 (.slice (some ⟨B, 0, none⟩) n (n + 3)) n xs) : Roomy w B e mark n xs 0 := by
  rcases h.2 with ⟨h0, _⟩ | ⟨g, cap, cur, hv, _, hh, _, _, hs, hx⟩
  · cases h0
  · simp only [Value.slice.injEq, Option.some.injEq, Addr.mk.injEq, and_true, true_and] at hv
    obtain ⟨rfl, rfl⟩ := hv
    refine ⟨cur, hh, by omega, fun i hi => ?_, fun i hi => by omega⟩
    rw [Nat.mul_one] at hx
    rw [List.getD_eq_getElem?_getD, ← hx, List.getElem?_take, if_pos hi]
    have hlt : i < cur.size := by omega
    simp [hlt]
theorem Roomy.cell {w : World} {B : Nat} {e : TypeId} {mark : Value} {n : Nat} {xs : List Value} {k : Nat} (h : Roomy w B e mark n xs k) (i : Nat) (hi : i < n) : w.cell? ⟨B, i, none⟩ = some (xs.getD i undef) := by
  obtain ⟨cs, h1, _, h3, _⟩ := h
  rw [Joins.cell_of_block h1]; exact h3 i hi
theorem Roomy.room {w : World} {B : Nat} {e : TypeId} {mark : Value} {n : Nat} {xs : List Value} {k : Nat} (h : Roomy w B e mark n xs k) (i : Nat) (hi : i < k) : w.cell? ⟨B, n + i, none⟩ = some mark := by
  obtain ⟨cs, h1, _, _, h4⟩ := h
  rw [Joins.cell_of_block h1]; exact h4 i hi
theorem Roomy.there {w : World} {B : Nat} {e : TypeId} {mark : Value} {n : Nat} {xs : List Value} {k : Nat} (h : Roomy w B e mark n xs k) (i : Nat) (hi : i < n + 3) : ∃ v, w.cell? ⟨B, i, none⟩ = some v := by
  obtain ⟨cs, h1, h2, _, _⟩ := h
  exact ⟨cs[i]'(by omega), by rw [Joins.cell_of_block h1, Array.getElem?_eq_getElem (by omega)]⟩
theorem Roomy.free {w : World} {B : Nat} {e : TypeId} {mark : Value} {n : Nat} {xs : List Value} {k : Nat} (h : Roomy w B e mark n xs k) (i : Nat) : w.frozen? ⟨B, i, none⟩ = false := by
  obtain ⟨cs, h1, _, _, _⟩ := h
  exact Joins.unfrozen_of_block h1 i
theorem Roomy.put {w : World} {B : Nat} {e : TypeId} {mark : Value} {n : Nat} {xs : List Value} {k : Nat} (h : Roomy w B e mark n xs k) (hk : k < 3) : Roomy (w.setCell ⟨B, n + k, none⟩ mark) B e mark n xs (k + 1) := by
  obtain ⟨cs, h1, h2, h3, h4⟩ := h
  refine ⟨_, Joins.block_setCell h1 mark, by simpa using h2, fun i hi => ?_, fun i hi => ?_⟩
  · rw [Array.getElem?_setIfInBounds, if_neg (by omega)]; exact h3 i hi
  · rw [Array.getElem?_setIfInBounds]
    by_cases e : n + k = n + i
    · rw [if_pos e, if_pos (by omega)]
    · rw [if_neg e]; exact h4 i (by omega)
theorem Roomy.lt {w : World} {B : Nat} {e : TypeId} {mark : Value} {n : Nat} {xs : List Value} {k : Nat} (h : Roomy w B e mark n xs k) : B < w.heap.size := by
  obtain ⟨cs, h1, _⟩ := h
  exact (Array.getElem?_eq_some_iff.1 h1).1
theorem Roomy.below {w w' : World} {B : Nat} {e : TypeId} {mark : Value} {n : Nat} {xs : List Value} {k : Nat} (h : Roomy w B e mark n xs k) (hb : Below w.heap.size w w') : Roomy w' B e mark n xs k := by
  obtain ⟨cs, h1, h2⟩ := h
  exact ⟨cs, by rw [hb.block B (Array.getElem?_eq_some_iff.1 h1).1]; exact h1, h2⟩
theorem Roomy.holds {w : World} {B : Nat} {e : TypeId} {mark : Value} {n : Nat} {xs : List Value} {k : Nat} (hl : xs.length = n) (h : Roomy w B e mark n xs k) : HoldsV w (some ⟨B, 0, none⟩) n xs :=
  ⟨hl, fun _ => ⟨B, 0, rfl, fun i hi => by rw [Nat.zero_add]; exact h.cell i hi⟩⟩
/-- what is owned stays so where what was there stays -/
theorem owns_below {w w' : World} {base : Nat} {e : TypeId} {size : Nat} {v : Value} {n : Nat} {xs : List Value} (h : w.ownsRow base e size v n xs) (hb : Below w.heap.size w w') : w'.ownsRow base e size v n xs := by
  refine ⟨h.1, ?_⟩
  rcases h.2 with h0 | ⟨g, cap, cur, hv, hg, hh, r⟩
  · exact Or.inl h0
  · exact Or.inr ⟨g, cap, cur, hv, hg, by rw [hb.block g (Array.getElem?_eq_some_iff.1 hh).1]; exact hh, r⟩
theorem owns_none {w : World} {base : Nat} {e : TypeId} {size : Nat} {a : Option Addr} {n c : Nat} {xs : List Value} (h : w.ownsRow base e size (.slice a n c) n xs) : (a = none → n = 0 ∧ c = 0) ∧ n ≤ c := by
  rcases h.2 with ⟨hv, hn⟩ | ⟨g, cap, cur, hv, _, _, hc, _⟩
  · simp only [Value.slice.injEq] at hv
    obtain ⟨_, rfl, rfl⟩ := hv
    exact ⟨fun _ => ⟨rfl, rfl⟩, Nat.le_refl _⟩
  · simp only [Value.slice.injEq] at hv
    obtain ⟨rfl, _, rfl⟩ := hv
    exact ⟨(fun h => by cases h), hc⟩
/-- What is owned reads so. -/
theorem owns_holds {w : World} {base : Nat} {e : TypeId} {a : Option Addr} {n c : Nat} {xs : List Value} (h : w.ownsRow base e 1 (.slice a n c) n xs) : HoldsV w a n xs := by
  have hl : xs.length = n := by simpa using h.1
  refine ⟨hl, fun h0 => ?_⟩
  rcases h.2 with ⟨_, h1⟩ | ⟨g, cap, cur, hv, _, hh, hc, _, hs, hx⟩
  · omega
  · simp only [Value.slice.injEq] at hv
    obtain ⟨rfl, _, rfl⟩ := hv
    refine ⟨g, 0, rfl, fun i hi => ?_⟩
    rw [Nat.zero_add, Joins.cell_of_block hh]
    rw [Nat.mul_one] at hx
    rw [List.getD_eq_getElem?_getD, ← hx, List.getElem?_take, if_pos hi]
    have hlt : i < cur.size := by omega
    simp [hlt]
/-- one new cell, to be appended -/
theorem one_new (w : World) (v : Value) (e : TypeId) (fr : Nat × Nat) : ∀ ad, (some ⟨w.heap.size, 0, none⟩ : Option Addr) = some ad → ∀ j u, [v][j]? = some u → (w.alloc (.cells #[v] e fr)).cell? (ad.add j) = some u := by
  intro ad ha j u hj
  obtain rfl := Option.some.inj ha
  match j, hj with
  | 0, hj =>
    simp at hj; subst hj
    rw [add_plain, World.cell?_alloc_mark]; rfl
theorem one_int (k : IntKind) (x : Int) : ∀ u ∈ [Value.int k x], u.oneCell' = true := by simp [Value.oneCell']
theorem one_str (x : ByteArray) : ∀ u ∈ [Value.string x], u.oneCell' = true := by simp [Value.oneCell']
theorem some_none {p : Prop} (a : Addr) : (some a = none) → p := fun h => by cases h
/-- 'append(v, x...)', v nil or the call's own, x whatever slice (nil too): the value is a slice of the call's own. -/
theorem wpList_append_any {P : Program} {w : World} {ops : Array Oper} {rest : List Oper} {o : Oper} {a : Act} {Q : Exit → Act → World → Prop} (hgd : o.guard = none) (s x : Operand) (t : TypeId)
    (ho : o.op = .call { callee := .builtin .append, args := #[s, x], argTypes := #[t, t] })
    (base : Nat) (e : TypeId) (i : TypeInfo) (z : Value) (size bytes : Nat) (ht : P.underlying t = some (.slice e)) (hi : P.info? e = some i) (hz : i.zero = some z)
    (hsize : i.size = size) (hby : i.bytes = bytes) (hzs : z.cells.size = size) (hsz : 0 < size)
    (v : Value) (n : Nat) (xs : List Value) (hs : a.eval s = v) (hown : w.ownsRow base e size v n xs)
    (ao : Option Addr) (m c : Nat) (news : List Value) (hx : a.eval x = .slice ao m c) (hnone : ao = none → m = 0 ∧ c = 0) (hl : news.length = m * size)
    (hnews : ∀ ad, ao = some ad → ∀ j u, news[j]? = some u → w.cell? (ad.add j) = some u) (h1 : ∀ u ∈ news, u.oneCell' = true)
    (h63 : n + m ≤ maxLen) (hbytes : (n + m) * bytes ≤ 140737488355328) (hbase : base ≤ w.heap.size)
    (h : ∀ a' c' w', w'.ownsRow base e size (.slice a' (n + m) c') (n + m) (xs ++ news) → Below base w w' → (a' = none → n + m = 0 ∧ c' = 0) → wpList P ops Q rest (a.put o.dst (.slice a' (n + m) c')) w') : wpList P ops Q (o :: rest) a w := by
  have fin : ∀ v' w', w'.ownsRow base e size v' (n + m) (xs ++ news) → Below base w w' → wpList P ops Q rest (a.put o.dst v') w' := by
    intro v' w' ho' hb'
    rcases Joins.ownsRow_forms ho' with ⟨rfl, h0⟩ | ⟨g, cap, rfl⟩
    · have := h none 0 w' (by rw [h0] at ho' ⊢; exact ho') hb' (fun _ => ⟨h0, rfl⟩)
      rw [h0] at this
      exact this
    · exact h _ _ w' ho' hb' (fun h => by cases h)
  cases ao with
  | some ad =>
    refine wpList_append_own w hgd s x t ho base e i z size bytes ht hi hz hsize hby hzs hsz v n xs hs hown ad m c news hx hl (hnews ad rfl) h1 h63 hbytes hbase fun v' w' h2 h3 _ => ?_
    exact fin v' w' h2 ((Below.refl base w).grown h3 hbase fun k hk => (hown.lt k hk).1)
  | none =>
    obtain ⟨rfl, rfl⟩ := hnone rfl
    have hn : news = [] := List.eq_nil_of_length_eq_zero (by simpa using hl)
    subst hn
    exact wpList_append_own_none hgd s x t ho base e i size ht hi v n xs hs hown hx (fin v w (by simpa using hown) (Below.refl _ _))
end Go.Proofs.Ytbimbgcejeeinaa
/- An argument that is a slice of integers, opened; its bytes. Of whatever program. -/
namespace Go.Proofs.Ytbimbgcejeeinaa
open Go.ChangeShapes Go.WideShapes Go.ChangeAt Go.RowKit
open Go.ChangeMaps (open_string shut_string)
set_option linter.unusedVariables false
set_option maxRecDepth 20000

theorem open_ints_arg {H : Type} {enc : TypeId × Value → H} {P : Program} {W : World} {base : Nat} {t e : TypeId} {k : IntKind} {v : Value} {d : DataW H} {p : List MemPlace}
    (ht : P.underlying t = some (.slice e)) (he : P.underlying e = some (.int k)) (hc : P.cellsOf e = 1)
    (o : Value.okWide P W .any base t v) (h : DataW.Trod enc P W 0 (fun _ => true) true t v d p) :
    ∃ a n cap zs, v = .slice a n cap ∧ HoldsI k W a n zs ∧ (a = none → n = 0 ∧ cap = 0) ∧ n ≤ cap ∧ cap ≤ maxLen ∧ ∀ z ∈ zs, (Lit.int k z).wf = true := by
  obtain ⟨a, len, cap, rfl⟩ := okWide_slice ht o
  obtain ⟨fuel, hf⟩ := h
  rcases open_ints ht he hc hf with ⟨hcs, _⟩ | ⟨x, l, c, zs, hcs, _, hl, hm, hz, _, hcell, hwz⟩
  · simp [Value.cells] at hcs
    obtain ⟨rfl, rfl, rfl⟩ := hcs
    exact ⟨none, 0, 0, [], rfl, HoldsI.nil _ _ _, fun _ => ⟨rfl, rfl⟩, Nat.le_refl _, by unfold maxLen; omega, by simp⟩
  · simp [Value.cells] at hcs
    obtain ⟨rfl, rfl, rfl⟩ := hcs
    have hzc : zs.length = cap := by simpa using hz
    refine ⟨some x, len, cap, zs.take len, rfl, ⟨by simp; omega, fun h0 => ?_⟩, (fun h => by cases h), hl, hm, fun z hz => hwz z (List.mem_of_mem_take hz)⟩
    obtain ⟨b, off, rfl, hcc⟩ := ints_at hcell (by omega)
    refine ⟨b, off, rfl, fun i hi => ?_⟩
    rw [hcc i (by omega)]
    congr 2
    simp only [List.getD_eq_getElem?_getD, List.getElem?_take]
    rw [if_pos hi]
theorem u8_of_wf {z : Int} (h : (Lit.int .u8 z).wf = true) : 0 ≤ z ∧ z < 256 := by
  simp [Lit.wf, IntKind.min, IntKind.max, IntKind.signed, IntKind.bits] at h; omega
theorem i64_of_wf {z : Int} (h : (Lit.int .i64 z).wf = true) : -9223372036854775808 ≤ z ∧ z ≤ 9223372036854775807 := by
  simp [Lit.wf, IntKind.min, IntKind.max, IntKind.signed, IntKind.bits] at h; omega
theorem i32_of_wf {z : Int} (h : (Lit.int .i32 z).wf = true) : -2147483648 ≤ z ∧ z ≤ 2147483647 := by
  simp [Lit.wf, IntKind.min, IntKind.max, IntKind.signed, IntKind.bits] at h; omega
end Go.Proofs.Ytbimbgcejeeinaa
/- contract of text.Compare -/
namespace Go.Proofs.Ytbimbgcejeeinaa
open Go.RowKit
set_option linter.unusedVariables false
set_option maxRecDepth 20000
/-- which list of bytes is ahead -/
def cmpL (x y : List UInt8) : Int := if Op.bytesLess x y = true then -1 else if (x == y) = true then 0 else 1
theorem less_irrefl : ∀ x : List UInt8, Op.bytesLess x x = false
  | [] => rfl
  | a :: x => by simp [Op.bytesLess, less_irrefl x]
theorem cmpL_same (x : List UInt8) : cmpL x x = 0 := by simp [cmpL, less_irrefl]
theorem cmpL_cons (p q : UInt8) (x y : List UInt8) : cmpL (p :: x) (q :: y) = if p.toNat < q.toNat then -1 else if q.toNat < p.toNat then 1 else cmpL x y := by
  rcases Nat.lt_trichotomy p.toNat q.toNat with h | h | h
  · have h' : p < q := h
    simp [cmpL, Op.bytesLess, h, h']
  · have e : p = q := UInt8.toNat_inj.1 h
    subst e
    simp [cmpL, Op.bytesLess]
  · have h1 : ¬ p < q := fun h' => absurd (show p.toNat < q.toNat from h') (by omega)
    have h2 : (p == q) = false := by simp; intro e; subst e; omega
    have h3 : ¬ p.toNat < q.toNat := by omega
    have h4 : p ≠ q := by intro e; subst e; omega
    simp [cmpL, Op.bytesLess, h, h1, h3, h4]
theorem cmpL_swap : ∀ x y : List UInt8, cmpL y x = - cmpL x y
  | [], [] => rfl
  | [], b :: y => by simp [cmpL, Op.bytesLess]
  | a :: x, [] => by simp [cmpL, Op.bytesLess]
  | a :: x, b :: y => by
    rw [cmpL_cons, cmpL_cons, cmpL_swap x y]
    split <;> split <;> (try omega) <;> simp_all <;> omega
def cmpS (a b : ByteArray) : Int := cmpL a.toList b.toList
theorem cmpL_bd (x y : List UInt8) : cmpL x y = -1 ∨ cmpL x y = 0 ∨ cmpL x y = 1 := by unfold cmpL; split; simp; split <;> simp
theorem isNaN_any (s : ByteArray) (w : World) : Calls Try.prog 95 #[.string s] w fun e w' => e = .returned (.bool false) ∧ w = w' := by
  go_enter Try.func95, Try.ntmps95
  go_wp2
  go_ret
  exact ⟨ret_bool (by simp), rfl⟩
theorem gcompare_any (a b : ByteArray) (w : World) : Calls Try.prog 65 #[.string a, .string b] w fun e w' => e = .returned (.int .i64 (cmpS a b)) ∧ w = w' := by
  unfold cmpS cmpL
  obtain ⟨p, hp⟩ : ∃ p, Op.bytesLess a.toList b.toList = p := ⟨_, rfl⟩
  obtain ⟨q, hq⟩ : ∃ q, (a.toList == b.toList) = q := ⟨_, rfl⟩
  rw [hp, hq]
  cases p <;> cases q
  all_goals
    go_enter Try.func65, Try.ntmps65
    go_wp2_with fail
    refine (isNaN_any a _).mono ?_
    rintro e w' ⟨rfl, rfl⟩
    go_wp2_with fail
    refine (isNaN_any b _).mono ?_
    rintro e w' ⟨rfl, rfl⟩
    go_wp2_with fail
    go_ret
    exact ⟨rfl, rfl⟩
theorem compare_any (a b : ByteArray) (w : World) : Calls Try.prog 45 #[.string a, .string b] w fun e w' => e = .returned (.int .i64 (cmpS a b)) ∧ w = w' := by
  go_enter Try.func45, Try.ntmps45
  go_wp2_with fail
  refine (gcompare_any a b _).mono ?_
  rintro e w' ⟨rfl, rfl⟩
  go_wp2_with fail
  go_ret
  exact ⟨rfl, rfl⟩
theorem bytes_lt (x y : List UInt8) : Op.bytesLess x y = decide (x < y) := Go.Proofs.bytesLess_eq x y
theorem cmpS_swap (a b : ByteArray) : cmpS b a = - cmpS a b := cmpL_swap _ _
theorem cmpS_same (a : ByteArray) : cmpS a a = 0 := cmpL_same _
theorem cmpS_bd (a b : ByteArray) : cmpS a b = -1 ∨ cmpS a b = 0 ∨ cmpS a b = 1 := cmpL_bd _ _
theorem toList_inj {a b : ByteArray} (h : a.toList = b.toList) : a = b := by
  rw [ByteArray.toList_eq, ByteArray.toList_eq] at h
  exact ByteArray.ext (Array.toList_inj.1 h)
theorem cmpS_zero {a b : ByteArray} : cmpS a b = 0 ↔ a = b := by
  constructor
  · intro h
    unfold cmpS cmpL at h
    split at h
    · omega
    · split at h
      · rename_i h2; exact toList_inj (by simpa using h2)
      · omega
  · rintro rfl; exact cmpS_same a
theorem cmpS_lt {a b : ByteArray} : cmpS a b < 0 ↔ a.toList < b.toList := by
  unfold cmpS cmpL
  rw [bytes_lt]
  constructor
  · intro h
    split at h
    · rename_i h2; simpa using h2
    · split at h <;> omega
  · intro h
    rw [if_pos (by simpa using h)]; omega
theorem cmpS_trans {a b c : ByteArray} (h : cmpS a b < 0) (k : cmpS b c < 0) : cmpS a c < 0 := by
  rw [cmpS_lt] at *
  exact List.lt_trans h k
end Go.Proofs.Ytbimbgcejeeinaa
/- The runes that a range over a string yields: plain lemmas. -/
namespace Go.Proofs.Ytbimbgcejeeinaa
/-- the runes from a place on, at most so many -/
def runesN (s : ByteArray) : Nat → Nat → List Nat
  | 0, _ => []
  | f + 1, pos => if pos < s.size then (Utf8.decode s pos).1 :: runesN s f (pos + (Utf8.decode s pos).2) else []
/-- the runes of a text, U+FFFD where there is none -/
def runesS (s : ByteArray) : List Nat := runesN s s.size 0
theorem runesN_end (s : ByteArray) (f pos : Nat) (h : ¬ pos < s.size) : runesN s f pos = [] := by
  cases f with
  | zero => rfl
  | succ f => rw [runesN, if_neg h]
theorem decode_width (s : ByteArray) (pos : Nat) (h : pos < s.size) : 1 ≤ (Utf8.decode s pos).2 := by
  by_cases ha : (s[pos]'h).toNat < 128
  · rw [decode_ascii s pos h ha]; exact Nat.le_refl _
  · exact (decode_high s pos h (by omega)).2
theorem runesN_step (s : ByteArray) (f pos : Nat) (h : pos < s.size) (hf : s.size ≤ pos + f) : ∃ g, f = g + 1 ∧ runesN s f pos = (Utf8.decode s pos).1 :: runesN s g (pos + (Utf8.decode s pos).2) ∧ s.size ≤ pos + (Utf8.decode s pos).2 + g := by
  cases f with
  | zero => omega
  | succ g => exact ⟨g, rfl, by rw [runesN, if_pos h], by have := decode_width s pos h; omega⟩
theorem runesN_le (s : ByteArray) (f : Nat) : ∀ pos, (runesN s f pos).length ≤ f := by
  induction f with
  | zero => intro pos; exact Nat.le_refl _
  | succ f ih =>
    intro pos
    rw [runesN]
    split
    · rw [List.length_cons]; have := ih (pos + (Utf8.decode s pos).2); omega
    · exact Nat.zero_le _
theorem runesS_le (s : ByteArray) : (runesS s).length ≤ s.size := runesN_le s s.size 0
theorem runesN_lt (s : ByteArray) (f : Nat) : ∀ pos, ∀ r ∈ runesN s f pos, r ≤ 2147483647 := by
  induction f with
  | zero => intro pos r h; simp [runesN] at h
  | succ f ih =>
    intro pos r h
    rw [runesN] at h
    split at h
    · rcases List.mem_cons.1 h with rfl | h
      · exact decode_le s pos
      · exact ih _ r h
    · simp at h
/-- -1 if one of them is none -/
def lenS (s : ByteArray) : Int := if 65533 ∈ runesS s then -1 else ((runesS s).length : Int)
theorem lenS_bad {s : ByteArray} {P Q : List Nat} (h : runesS s = P ++ 65533 :: Q) : lenS s = -1 := by
  unfold lenS; rw [if_pos (by rw [h]; simp)]
theorem lenS_good {s : ByteArray} (h : ∀ r ∈ runesS s, r ≠ 65533) : lenS s = ((runesS s).length : Int) := by
  unfold lenS; rw [if_neg (fun h' => h _ h' rfl)]
theorem lenS_bd (s : ByteArray) : -1 ≤ lenS s ∧ lenS s ≤ s.size := by
  unfold lenS
  have := runesS_le s
  split <;> omega
theorem lenS_pos {s : ByteArray} (h : 0 ≤ lenS s) : (∀ r ∈ runesS s, r ≠ 65533) ∧ lenS s = ((runesS s).length : Int) := by
  by_cases hm : 65533 ∈ runesS s
  · unfold lenS at h; rw [if_pos hm] at h; omega
  · have hg : ∀ r ∈ runesS s, r ≠ 65533 := fun r hr e => hm (e ▸ hr)
    exact ⟨hg, lenS_good hg⟩
end Go.Proofs.Ytbimbgcejeeinaa
/- words in order: plain lemmas -/
namespace Go.Proofs.Ytbimbgcejeeinaa
set_option linter.unusedVariables false
set_option maxRecDepth 20000
abbrev Tx := ByteArray
instance (t : Tx) (ts : List Tx) : Decidable (t ∈ ts) := decidable_of_iff (ts.any (fun x => decide (x = t)) = true) (by simp)
def wordP (t : Tx) : Prop := 1 ≤ lenS t ∧ lenS t ≤ 12
instance (t : Tx) : Decidable (wordP t) := by unfold wordP; infer_instance
def SortedS (xs : List Tx) : Prop := xs.Pairwise fun a b => cmpS a b < 0
theorem cmpS_irrefl (a : Tx) : ¬ cmpS a a < 0 := by rw [cmpS_same]; omega
theorem cmpS_asymm {a b : Tx} (h : cmpS a b < 0) : ¬ cmpS b a < 0 := by rw [cmpS_swap]; omega
theorem cmpS_pos {a b : Tx} : 0 < cmpS a b ↔ cmpS b a < 0 := by rw [cmpS_swap a b]; omega
/-- two lists in order that have the same words are one -/
theorem sorted_unique : ∀ {xs ys : List Tx}, SortedS xs → SortedS ys → (∀ z, z ∈ xs ↔ z ∈ ys) → xs = ys
  | [], [], _, _, _ => rfl
  | [], y :: ys, _, _, h => by have := (h y).2 (List.mem_cons_self ..); simp at this
  | x :: xs, [], _, _, h => by have := (h x).1 (List.mem_cons_self ..); simp at this
  | x :: xs, y :: ys, hx, hy, h => by
    obtain ⟨hx1, hx2⟩ := List.pairwise_cons.1 hx
    obtain ⟨hy1, hy2⟩ := List.pairwise_cons.1 hy
    have hxy : x = y := by
      rcases List.mem_cons.1 ((h x).1 (List.mem_cons_self ..)) with e | e
      · exact e
      rcases List.mem_cons.1 ((h y).2 (List.mem_cons_self ..)) with e2 | e2
      · exact e2.symm
      · exact absurd (hy1 x e) (cmpS_asymm (hx1 y e2))
    subst hxy
    have : xs = ys := by
      refine sorted_unique hx2 hy2 fun z => ⟨fun hz => ?_, fun hz => ?_⟩
      · rcases List.mem_cons.1 ((h z).1 (List.mem_cons_of_mem _ hz)) with e | e
        · subst e; exact absurd (hx1 z hz) (cmpS_irrefl z)
        · exact e
      · rcases List.mem_cons.1 ((h z).2 (List.mem_cons_of_mem _ hz)) with e | e
        · subst e; exact absurd (hy1 z hz) (cmpS_irrefl z)
        · exact e
    rw [this]
/-- the document's way to put a word in -/
def putF (w : Tx) : Bool → List Tx → List Tx
  | b, [] => if b then [] else [w]
  | b, x :: xs => (if b = false ∧ 0 < cmpS x w then [w] else []) ++ x :: putF w (b || decide (0 ≤ cmpS x w)) xs
def putS (xs : List Tx) (w : Tx) : List Tx := putF w false xs
theorem putF_true (w : Tx) : ∀ xs, putF w true xs = xs
  | [] => rfl
  | x :: xs => by simp [putF, putF_true w xs]
theorem putS_cons (x w : Tx) (xs : List Tx) : putS (x :: xs) w = if cmpS x w < 0 then x :: putS xs w else if cmpS x w = 0 then x :: xs else w :: x :: xs := by
  unfold putS
  by_cases h : cmpS x w < 0
  · simp only [putF, h, if_true]
    rw [if_neg (by omega), decide_eq_false (by omega)]; rfl
  · rw [if_neg h]
    by_cases h2 : cmpS x w = 0
    · simp only [putF]
      rw [if_neg (by omega), if_pos h2, decide_eq_true (by omega), Bool.or_true, putF_true]; rfl
    · simp only [putF]
      rw [if_pos ⟨trivial, by omega⟩, if_neg h2, decide_eq_true (by omega), Bool.or_true, putF_true]; rfl
theorem mem_putS {z w : Tx} : ∀ {xs : List Tx}, z ∈ putS xs w ↔ z = w ∨ z ∈ xs
  | [] => by simp [putS, putF]
  | x :: xs => by
    rw [putS_cons]
    split
    · rw [List.mem_cons, mem_putS, List.mem_cons]
      constructor
      · rintro (h | h | h) <;> simp [h]
      · rintro (h | h | h) <;> simp [h]
    · split
      · rename_i h2
        have e := cmpS_zero.1 h2
        subst e
        simp
      · simp
theorem sorted_putS {w : Tx} : ∀ {xs : List Tx}, SortedS xs → SortedS (putS xs w)
  | [], _ => by simp [putS, putF, SortedS]
  | x :: xs, h => by
    obtain ⟨h1, h2⟩ := List.pairwise_cons.1 h
    rw [putS_cons]
    split
    · rename_i h3
      refine List.pairwise_cons.2 ⟨fun z hz => ?_, sorted_putS h2⟩
      rcases mem_putS.1 hz with e | e
      · rw [e]; exact h3
      · exact h1 z e
    · split
      · exact h
      · rename_i h3 h4
        have h5 : cmpS w x < 0 := by rw [cmpS_swap x w]; omega
        refine List.pairwise_cons.2 ⟨fun z hz => ?_, h⟩
        rcases List.mem_cons.1 hz with e | e
        · rw [e]; exact h5
        · exact cmpS_trans h5 (h1 z e)
def canonS (xs : List Tx) : List Tx := xs.foldl putS []
theorem foldl_put (xs : List Tx) : ∀ acc : List Tx, SortedS acc → SortedS (xs.foldl putS acc) ∧ ∀ z, z ∈ xs.foldl putS acc ↔ z ∈ acc ∨ z ∈ xs := by
  induction xs with
  | nil => intro acc h; exact ⟨h, by simp⟩
  | cons x xs ih =>
    intro acc h
    obtain ⟨h1, h2⟩ := ih (putS acc x) (sorted_putS h)
    refine ⟨h1, fun z => ?_⟩
    rw [List.foldl_cons, h2, mem_putS, List.mem_cons]
    constructor
    · rintro ((h | h) | h) <;> simp [h]
    · rintro (h | h | h) <;> simp [h]
theorem canon_sorted (xs : List Tx) : SortedS (canonS xs) := (foldl_put xs [] List.Pairwise.nil).1
theorem mem_canon {xs : List Tx} {z : Tx} : z ∈ canonS xs ↔ z ∈ xs := by
  have := (foldl_put xs [] List.Pairwise.nil).2 z
  simpa [canonS] using this
theorem canon_of {xs ys : List Tx} (h : SortedS ys) (hm : ∀ z, z ∈ ys ↔ z ∈ xs) : ys = canonS xs :=
  sorted_unique h (canon_sorted xs) fun z => by rw [hm, mem_canon]
theorem canon_same {xs : List Tx} (h : SortedS xs) : canonS xs = xs := (canon_of h fun _ => Iff.rfl).symm
theorem canon_ext {xs ys : List Tx} (h : ∀ z, z ∈ xs ↔ z ∈ ys) : canonS xs = canonS ys :=
  canon_of (canon_sorted xs) fun z => by rw [mem_canon, h]
theorem fold_canon (xs ys : List Tx) (h : SortedS xs) : ys.foldl putS xs = canonS (xs ++ ys) := by
  obtain ⟨h1, h2⟩ := foldl_put ys xs h
  exact canon_of h1 fun z => by rw [h2, List.mem_append]
theorem sorted_filter {xs : List Tx} (p : Tx → Bool) (h : SortedS xs) : SortedS (xs.filter p) := List.Pairwise.filter p h
/-- two lists in order together -/
def mergeL : List Tx → List Tx → List Tx
  | [], ys => ys
  | xs, [] => xs
  | x :: xs, y :: ys => if cmpS x y < 0 then x :: mergeL xs (y :: ys) else if cmpS x y = 0 then x :: mergeL xs ys else y :: mergeL (x :: xs) ys
  termination_by xs ys => xs.length + ys.length
theorem mergeL_nil_left (ys : List Tx) : mergeL [] ys = ys := by rw [mergeL]
theorem mergeL_nil_right (xs : List Tx) : mergeL xs [] = xs := by cases xs <;> simp [mergeL]
theorem mergeL_cons (x y : Tx) (xs ys : List Tx) : mergeL (x :: xs) (y :: ys) = if cmpS x y < 0 then x :: mergeL xs (y :: ys) else if cmpS x y = 0 then x :: mergeL xs ys else y :: mergeL (x :: xs) ys := by
  rw [mergeL]
theorem mergeL_mem (n : Nat) : ∀ xs ys : List Tx, xs.length + ys.length ≤ n → ∀ z, z ∈ mergeL xs ys ↔ z ∈ xs ∨ z ∈ ys := by
  induction n with
  | zero =>
    intro xs ys h z
    have h1 : xs = [] := List.eq_nil_of_length_eq_zero (by omega)
    have h2 : ys = [] := List.eq_nil_of_length_eq_zero (by omega)
    subst h1 h2; simp [mergeL_nil_left]
  | succ n ih =>
    intro xs ys h z
    cases xs with
    | nil => simp [mergeL_nil_left]
    | cons x xs =>
      cases ys with
      | nil => simp [mergeL_nil_right]
      | cons y ys =>
        simp only [List.length_cons] at h
        rw [mergeL_cons]
        split
        · rw [List.mem_cons, ih xs (y :: ys) (by simp; omega)]
          simp only [List.mem_cons]
          constructor
          · rintro (h | h | h) <;> simp [h]
          · rintro ((h | h) | h) <;> simp [h]
        · split
          · rename_i h2
            have e := cmpS_zero.1 h2
            subst e
            rw [List.mem_cons, ih xs ys (by omega)]
            simp only [List.mem_cons]
            constructor
            · rintro (h | h | h) <;> simp [h]
            · rintro ((h | h) | (h | h)) <;> simp [h]
          · rw [List.mem_cons, ih (x :: xs) ys (by simp; omega)]
            simp only [List.mem_cons]
            constructor
            · rintro (h | (h | h) | h) <;> simp [h]
            · rintro ((h | h) | (h | h)) <;> simp [h]
theorem mem_mergeL {xs ys : List Tx} {z : Tx} : z ∈ mergeL xs ys ↔ z ∈ xs ∨ z ∈ ys := mergeL_mem _ xs ys (Nat.le_refl _) z
theorem mergeL_sorted (n : Nat) : ∀ xs ys : List Tx, xs.length + ys.length ≤ n → SortedS xs → SortedS ys → SortedS (mergeL xs ys) := by
  induction n with
  | zero =>
    intro xs ys h _ _
    have h1 : xs = [] := List.eq_nil_of_length_eq_zero (by omega)
    have h2 : ys = [] := List.eq_nil_of_length_eq_zero (by omega)
    subst h1 h2; rw [mergeL_nil_left]; exact List.Pairwise.nil
  | succ n ih =>
    intro xs ys h hx hy
    cases xs with
    | nil => rw [mergeL_nil_left]; exact hy
    | cons x xs =>
      cases ys with
      | nil => rw [mergeL_nil_right]; exact hx
      | cons y ys =>
        simp only [List.length_cons] at h
        obtain ⟨hx1, hx2⟩ := List.pairwise_cons.1 hx
        obtain ⟨hy1, hy2⟩ := List.pairwise_cons.1 hy
        rw [mergeL_cons]
        split
        · rename_i h3
          refine List.pairwise_cons.2 ⟨fun z hz => ?_, ih xs (y :: ys) (by simp; omega) hx2 hy⟩
          rcases mem_mergeL.1 hz with e | e
          · exact hx1 z e
          · rcases List.mem_cons.1 e with e | e
            · rw [e]; exact h3
            · exact cmpS_trans h3 (hy1 z e)
        · split
          · rename_i h2
            have e := cmpS_zero.1 h2
            subst e
            refine List.pairwise_cons.2 ⟨fun z hz => ?_, ih xs ys (by omega) hx2 hy2⟩
            rcases mem_mergeL.1 hz with e | e
            · exact hx1 z e
            · exact hy1 z e
          · rename_i h3 h4
            have h5 : cmpS y x < 0 := by rw [cmpS_swap x y]; omega
            refine List.pairwise_cons.2 ⟨fun z hz => ?_, ih (x :: xs) ys (by simp; omega) hx hy2⟩
            rcases mem_mergeL.1 hz with e | e
            · rcases List.mem_cons.1 e with e | e
              · rw [e]; exact h5
              · exact cmpS_trans h5 (hx1 z e)
            · exact hy1 z e
theorem mergeL_canon {xs ys : List Tx} (hx : SortedS xs) (hy : SortedS ys) : mergeL xs ys = canonS (xs ++ ys) :=
  canon_of (mergeL_sorted _ xs ys (Nat.le_refl _) hx hy) fun z => by rw [mem_mergeL, List.mem_append]
theorem mergeL_len (n : Nat) : ∀ xs ys : List Tx, xs.length + ys.length ≤ n → (mergeL xs ys).length ≤ xs.length + ys.length := by
  induction n with
  | zero =>
    intro xs ys h
    have h1 : xs = [] := List.eq_nil_of_length_eq_zero (by omega)
    have h2 : ys = [] := List.eq_nil_of_length_eq_zero (by omega)
    subst h1 h2; rw [mergeL_nil_left]; simp
  | succ n ih =>
    intro xs ys h
    cases xs with
    | nil => rw [mergeL_nil_left]; omega
    | cons x xs =>
      cases ys with
      | nil => rw [mergeL_nil_right]; omega
      | cons y ys =>
        simp only [List.length_cons] at h
        rw [mergeL_cons]
        split
        · have := ih xs (y :: ys) (by simp; omega); simp at this ⊢; omega
        · split
          · have := ih xs ys (by omega); simp at this ⊢; omega
          · have := ih (x :: xs) ys (by simp; omega); simp at this ⊢; omega
/-- where a word stands -/
def atN (xs : List Tx) (w : Tx) : Nat := xs.countP fun x => decide (cmpS x w < 0)
theorem atN_le (xs : List Tx) (w : Tx) : atN xs w ≤ xs.length := List.countP_le_length
/-- which lists are good -/
def adjP : List Tx → Prop
  | x :: y :: l => cmpS x y < 0 ∧ adjP (y :: l)
  | _ => True
theorem adj_sorted : ∀ {l : List Tx}, adjP l ↔ SortedS l
  | [] => by simp [adjP, SortedS]
  | [x] => by simp [adjP, SortedS]
  | x :: y :: l => by
    have ih := adj_sorted (l := y :: l)
    constructor
    · rintro ⟨h1, h2⟩
      have h3 := ih.1 h2
      refine List.pairwise_cons.2 ⟨fun z hz => ?_, h3⟩
      rcases List.mem_cons.1 hz with e | e
      · rw [e]; exact h1
      · exact cmpS_trans h1 ((List.pairwise_cons.1 h3).1 z e)
    · intro h
      obtain ⟨h1, h2⟩ := List.pairwise_cons.1 h
      exact ⟨h1 y (List.mem_cons_self ..), ih.2 h2⟩
theorem adj_iff (l : List Tx) : SortedS l ↔ ∀ i, i + 1 < l.length → cmpS (l.getD i ByteArray.empty) (l.getD (i + 1) ByteArray.empty) < 0 := by
  rw [← adj_sorted]
  induction l with
  | nil => simp [adjP]
  | cons x l ih =>
    cases l with
    | nil => simp [adjP]
    | cons y l =>
      constructor
      · rintro ⟨h1, h2⟩ i hi
        cases i with
        | zero => simpa using h1
        | succ i =>
          have := (ih.1 h2) i (by simpa using hi)
          simpa using this
      · intro h
        refine ⟨by simpa using h 0 (by simp), ih.2 fun i hi => ?_⟩
        have := h (i + 1) (by simpa using hi)
        simpa using this
instance (l : List Tx) : Decidable (SortedS l) := by unfold SortedS; infer_instance
def goodV (l : List Tx) : Int := if 60 < l.length then 3 else if ∃ t ∈ l, ¬ wordP t then 6 else if SortedS l then 0 else 7
theorem goodV_zero {l : List Tx} (h : goodV l = 0) : l.length ≤ 60 ∧ (∀ t ∈ l, wordP t) ∧ SortedS l := by
  unfold goodV at h
  split at h
  · omega
  · split at h
    · omega
    · split at h
      · rename_i h1 h2 h3
        exact ⟨by omega, fun t ht => Classical.byContradiction fun k => h2 ⟨t, ht, k⟩, h3⟩
      · omega
end Go.Proofs.Ytbimbgcejeeinaa
/- lists of texts in memory; two held against each other -/
namespace Go.Proofs.Ytbimbgcejeeinaa
open Go.RowKit
set_option linter.unusedVariables false
set_option maxRecDepth 20000
def strsV (ts : List Tx) : List Value := ts.map Value.string
def HoldsT (w : World) (a : Option Addr) (n : Nat) (ts : List Tx) : Prop := HoldsV w a n (strsV ts)
theorem HoldsT.len {w : World} {a : Option Addr} {n : Nat} {ts : List Tx} (h : HoldsT w a n ts) : ts.length = n := by simpa [strsV] using h.1
theorem getD_map_str (ts : List Tx) (i : Nat) (hi : i < ts.length) : (strsV ts).getD i undef = .string (ts.getD i ByteArray.empty) := by
  simp [strsV, List.getD_eq_getElem?_getD, hi]
theorem HoldsT.at {w : World} {a : Option Addr} {n : Nat} {ts : List Tx} (h : HoldsT w a n ts) (h0 : 0 < n) : ∃ b o, a = some ⟨b, o, none⟩ ∧ ∀ i, i < n → w.cell? ⟨b, o + i, none⟩ = some (.string (ts.getD i ByteArray.empty)) := by
  obtain ⟨b, o, ha, hc⟩ := h.2 h0
  exact ⟨b, o, ha, fun i hi => by rw [hc i hi, getD_map_str ts i (by rw [h.len]; exact hi)]⟩
theorem HoldsT.of {w : World} {b o n : Nat} {ts : List Tx} (hl : ts.length = n) (hc : ∀ i, i < n → w.cell? ⟨b, o + i, none⟩ = some (.string (ts.getD i ByteArray.empty))) : HoldsT w (some ⟨b, o, none⟩) n ts :=
  ⟨by simpa [strsV] using hl, fun _ => ⟨b, o, rfl, fun i hi => by rw [hc i hi, getD_map_str ts i (by omega)]⟩⟩
theorem HoldsT.nil (w : World) (a : Option Addr) : HoldsT w a 0 [] := ⟨rfl, fun h => absurd h (by omega)⟩
theorem HoldsT.below {w w' : World} {a : Option Addr} {n : Nat} {ts : List Tx} (h : HoldsT w a n ts) (hb : Below w.heap.size w w') : HoldsT w' a n ts := HoldsV.below h hb
theorem HoldsT.drop {w : World} {b o n : Nat} {ts : List Tx} (h : HoldsT w (some ⟨b, o, none⟩) n ts) (j : Nat) (hj : j ≤ n) : HoldsT w (some ⟨b, o + j, none⟩) (n - j) (ts.drop j) := by
  refine HoldsT.of (by rw [List.length_drop, h.len]) fun i hi => ?_
  obtain ⟨b', o', ha, hc⟩ := h.at (by omega)
  cases ha
  rw [Nat.add_assoc, hc (j + i) (by omega)]
  simp [List.getD_eq_getElem?_getD]
theorem HoldsT.own {w : World} {B : Nat} {e : TypeId} {a : Option Addr} {n c : Nat} {ts : List Tx} (h : w.ownsRow B e 1 (.slice a n c) n (strsV ts)) : HoldsT w a n ts := owns_holds h
theorem HoldsT.spared {w w' : World} {a : Option Addr} {n : Nat} {ts : List Tx} {row : Option Nat} (h : HoldsT w a n ts) (hg : w.grownBy w' row) (hne : ∀ ad, a = some ad → some ad.block ≠ row) : HoldsT w' a n ts := by
  refine ⟨h.1, fun h0 => ?_⟩
  obtain ⟨b, o, ha, hc⟩ := h.2 h0
  refine ⟨b, o, ha, fun i hi => ?_⟩
  have h1 := hc i hi
  have hlt := lt_of_cell h1
  rw [← h1]
  exact World.cell?_of_block (w := w) (a := ⟨b, o + i, none⟩) (hg.block b hlt (hne _ ha))
theorem strsV_one (ts : List Tx) : ∀ u ∈ strsV ts, u.oneCell' = true := by
  intro u hu; obtain ⟨t, _, rfl⟩ := List.mem_map.1 hu; rfl
theorem strsV_snoc (ts : List Tx) (t : Tx) : strsV (ts ++ [t]) = strsV ts ++ [Value.string t] := by simp [strsV]
theorem str_same (x : Tx) : (x.toList == x.toList) = true := by simp
theorem str_other {x y : Tx} (h : x ≠ y) : (x.toList == y.toList) = false := by
  rw [beq_eq_false_iff_ne]; exact fun e => h (toList_inj e)
set_option maxHeartbeats 400000 in
theorem sameTexts_any (a1 a2 : Option Addr) (n1 c1 n2 c2 : Nat) (z1 z2 : List Tx) (w : World) (h1 : HoldsT w a1 n1 z1) (h2 : HoldsT w a2 n2 z2) (hl1 : n1 ≤ 4611686018427387904) (hl2 : n2 ≤ 4611686018427387904) :
    Calls Try.prog 21 #[.slice a1 n1 c1, .slice a2 n2 c2] w fun e w' => e = .returned (.bool (decide (z1 = z2))) ∧ ∃ m, w' = w.drewN m := by
  have g1 := h1.len
  have g2 := h2.len
  have g1' := fun h0 => h1.at h0
  have g2' := fun h0 => h2.at h0
  clear h1 h2
  by_cases hn : n1 = n2
  · subst hn
    rcases Nat.eq_zero_or_pos n1 with h0 | h0
    · subst h0
      clear g1' g2'
      obtain rfl := List.eq_nil_of_length_eq_zero g1
      obtain rfl := List.eq_nil_of_length_eq_zero g2
      go_enter Try.func21, Try.ntmps21
      go_wp2
      go_loop [5] (fun i => i = .int .i64 0) (fun _ => 0)
      case atStart => rfl
      case round =>
        obtain rfl := hrel
        go_wp2
        go_ret
        exact ⟨rfl, 0, rfl⟩
    · obtain ⟨b1, o1, rfl, k1⟩ := g1' h0
      obtain ⟨b2, o2, rfl, k2⟩ := g2' h0
      clear g1' g2'
      have G1 := Lib.hid g1; have G2 := Lib.hid g2; have K1 := Lib.hid k1; have K2 := Lib.hid k2
      clear g1 g2 k1 k2
      go_enter Try.func21, Try.ntmps21
      go_wp2
      go_loopw [5] (fun i wr => ∃ k m : Nat, k ≤ n1 ∧ i = .int .i64 k ∧ z1.take k = z2.take k ∧ wr = w.drewN m) (fun i _ => n1 - (intOf i).toNat)
      case atStart => exact ⟨0, 0, by omega, rfl, rfl, rfl⟩
      case round =>
        obtain ⟨k, m, hk, rfl, he, rfl⟩ := hrel
        have HE := Lib.hid he
        clear he
        by_cases hlt : k < n1
        · have e1 := K1.out k hlt
          have e2 := K2.out k hlt
          obtain ⟨x, hx⟩ : ∃ x, z1.getD k ByteArray.empty = x := ⟨_, rfl⟩
          obtain ⟨y, hy⟩ : ∃ y, z2.getD k ByteArray.empty = y := ⟨_, rfl⟩
          rw [hx] at e1; rw [hy] at e2
          have HX := Lib.hid hx; have HY := Lib.hid hy
          clear hx hy
          by_cases hxy : x = y
          · subst hxy
            have hb := str_same x
            go_wp2
            go_quiet (fail)
            go_wp2
            go_roundw
            case rel => exact ⟨k + 1, _, by omega, by go_num, by rw [take_succ_getD z1 ByteArray.empty k (by rw [G1.out]; exact hlt), take_succ_getD z2 ByteArray.empty k (by rw [G2.out]; exact hlt), HE.out, HX.out, HY.out], rfl⟩
            case measure => simp [intOf]; omega
          · have hb := str_other hxy
            have HXY := Lib.hid hxy
            clear hxy
            go_wp2
            go_quiet (fail)
            go_wp2
            go_ret
            exact ⟨ret_bool (by symm; rw [decide_eq_false_iff_not]; exact take_ne_of_getD ByteArray.empty k (by rw [HX.out, HY.out]; exact HXY.out)), _, World.drewN_drewN _ _ _⟩
        · have hkn : k = n1 := by omega
          have HK := Lib.hid hkn
          clear hkn
          go_wp2
          go_ret
          exact ⟨ret_bool (by symm; rw [decide_eq_true_iff]; exact take_eq_all (n := k) HE.out (by rw [G1.out, HK.out]) (by rw [G2.out, HK.out])), _, rfl⟩
  · have hb : ((n1 : Int) != (n2 : Int)) = true := by simp; omega
    clear g1' g2'
    have HN := Lib.hid hn; have G1 := Lib.hid g1; have G2 := Lib.hid g2
    clear hn g1 g2
    go_enter Try.func21, Try.ntmps21
    go_wp2
    go_ret
    exact ⟨ret_bool (by symm; rw [decide_eq_false_iff_not]; intro e; exact HN.out (by rw [← G1.out, ← G2.out, e])), 0, rfl⟩
theorem sameTexts_yes (a1 a2 : Option Addr) (n c1 c2 : Nat) (z : List Tx) (w : World) (h1 : HoldsT w a1 n z) (h2 : HoldsT w a2 n z) (hl : n ≤ 4611686018427387904) :
    Calls Try.prog 21 #[.slice a1 n c1, .slice a2 n c2] w fun e w' => e = .returned (.bool true) ∧ Below w.heap.size w w' := by
  have := sameTexts_any a1 a2 n c1 n c2 z z w h1 h2 hl hl
  rw [decide_eq_true rfl] at this
  refine this.mono ?_
  rintro e w' ⟨rfl, m, rfl⟩
  exact ⟨rfl, below_drewN _ _⟩
end Go.Proofs.Ytbimbgcejeeinaa
/- lists of keys (a number and a text each) -/
namespace Go.Proofs.Ytbimbgcejeeinaa
open Go.ChangeShapes Go.WideShapes Go.ChangeAt Go.RowKit
set_option linter.unusedVariables false
set_option maxRecDepth 20000
abbrev KV := Int × Tx
def k0 : KV := (0, ByteArray.empty)
def HoldsK (w : World) (a : Option Addr) (n : Nat) (ks : List KV) : Prop := ks.length = n ∧ (0 < n → ∃ b o, a = some ⟨b, o, none⟩ ∧ ∀ i, i < n → w.cell? ⟨b, o + i * 2, none⟩ = some (.int .i64 (ks.getD i k0).1) ∧ w.cell? ⟨b, o + i * 2 + 1, none⟩ = some (.string (ks.getD i k0).2))
theorem HoldsK.len {w : World} {a : Option Addr} {n : Nat} {ks : List KV} (h : HoldsK w a n ks) : ks.length = n := h.1
theorem HoldsK.at {w : World} {a : Option Addr} {n : Nat} {ks : List KV} (h : HoldsK w a n ks) (h0 : 0 < n) : ∃ b o, a = some ⟨b, o, none⟩ ∧ ∀ i, i < n → w.cell? ⟨b, o + i * 2, none⟩ = some (.int .i64 (ks.getD i k0).1) ∧ w.cell? ⟨b, o + i * 2 + 1, none⟩ = some (.string (ks.getD i k0).2) := h.2 h0
theorem HoldsK.nil (w : World) (a : Option Addr) : HoldsK w a 0 [] := ⟨rfl, fun h => absurd h (by omega)⟩
theorem HoldsK.below {w w' : World} {a : Option Addr} {n : Nat} {ks : List KV} (h : HoldsK w a n ks) (hb : Below w.heap.size w w') : HoldsK w' a n ks := by
  refine ⟨h.1, fun h0 => ?_⟩
  obtain ⟨b, o, ha, hc⟩ := h.2 h0
  have hlt := lt_of_cell (hc 0 h0).1
  refine ⟨b, o, ha, fun i hi => ?_⟩
  rw [hb.cell (p := ⟨b, o + i * 2, none⟩) hlt, hb.cell (p := ⟨b, o + i * 2 + 1, none⟩) hlt]
  exact hc i hi
theorem getD_memK (zs : List KV) (j : Nat) (h : j < zs.length) : zs.getD j k0 ∈ zs := by
  rw [List.getD_eq_getElem?_getD, List.getElem?_eq_getElem h]; simp
def keyV (k : KV) : Value := .agg #[.int .i64 k.1, .string k.2]
def i64okK (z : Int) : Prop := -9223372036854775808 ≤ z ∧ z ≤ 9223372036854775807
def KeyOk (k : KV) : Prop := i64okK k.1 ∧ k.2.size ≤ 9223372036854775807
theorem cellsK_int : Try.prog.cellsOf 3 = 1 := by kernel_rfl
theorem cellsK_str : Try.prog.cellsOf 9 = 1 := by kernel_rfl
theorem pair_of {H : Type} {enc : TypeId × Value → H} {w : World} {base : Nat} {spare : Nat → Bool} {held : Bool} {fuel : Nat} {t : TypeId} {fs : Array Field} {f0 f1 : Field} {cs : List Value} {x : DataW H × List MemPlace}
    (ht : Try.prog.underlying t = some (.struct fs)) (hc : Try.prog.cellsOf t = 2) (hf0 : fs[0]? = some f0) (hf1 : fs[1]? = some f1) (g0 : f0.type = 3 ∧ f0.offset = 0) (g1 : f1.type = 9 ∧ f1.offset = 1)
    (h : DataW.trod enc Try.prog w base spare held fuel t cs = some x) : ∃ k : KV, KeyOk k ∧ cs = [.int .i64 k.1, .string k.2] := by
  obtain ⟨hl, n, hf⟩ := struct_cells ht h
  rw [hc] at hl
  obtain ⟨c0, c1, rfl⟩ : ∃ c0 c1, cs = [c0, c1] := list2 hl
  obtain ⟨y0, z0⟩ := hf 0 _ hf0
  obtain ⟨y1, z1⟩ := hf 1 _ hf1
  rw [g0.1, g0.2] at z0
  rw [g1.1, g1.2] at z1
  obtain ⟨q1, h1, _, b1⟩ := DataW.trod_int Try.underlying3 z0
  obtain ⟨s1, h2, _, b2⟩ := DataW.trod_string Try.underlying9 z1
  simp [cellsK_int, cellsK_str] at h1 h2
  subst h1 h2
  exact ⟨(q1, s1), ⟨i64_of_wf b1, by unfold maxLen at b2; exact b2⟩, rfl⟩
theorem open_pairs_arg {H : Type} {enc : TypeId × Value → H} {W : World} {base : Nat} {v : Value} {d : DataW H} {p : List MemPlace} {t e : TypeId} {fs : Array Field} {f0 f1 : Field}
    (ht : Try.prog.underlying t = some (.slice e)) (he : Try.prog.underlying e = some (.struct fs)) (hc : Try.prog.cellsOf e = 2) (hf0 : fs[0]? = some f0) (hf1 : fs[1]? = some f1) (g0 : f0.type = 3 ∧ f0.offset = 0) (g1 : f1.type = 9 ∧ f1.offset = 1)
    (o : Value.okWide Try.prog W .any base t v) (h : DataW.Trod enc Try.prog W 0 (fun _ => true) true t v d p) :
    ∃ a n cap ks, v = .slice a n cap ∧ HoldsK W a n ks ∧ (a = none → n = 0 ∧ cap = 0) ∧ n ≤ cap ∧ n ≤ 9223372036854775807 ∧ ∀ k ∈ ks, KeyOk k := by
  obtain ⟨a, n, cap, R, rfl, hnil, h1, h2, hg, hc⟩ := open_rows_arg ht hc (by omega) (fun cs => ∃ k : KV, KeyOk k ∧ cs = [.int .i64 k.1, .string k.2]) (fun _ _ _ h => pair_of he hc hf0 hf1 g0 g1 h) o h
  have hx : ∀ i, ∃ k : KV, i < n → KeyOk k ∧ R i = [.int .i64 k.1, .string k.2] := fun i => by
    by_cases hi : i < n
    · obtain ⟨x, h3⟩ := hg i hi
      exact ⟨x, fun _ => h3⟩
    · exact ⟨k0, fun h => absurd h hi⟩
  have hget : ∀ i, i < n → ((List.range n).map fun i => (hx i).choose).getD i k0 = (hx i).choose := fun i hi => by simp [List.getD_eq_getElem?_getD, hi]
  refine ⟨a, n, cap, (List.range n).map fun i => (hx i).choose, rfl, ⟨by simp, fun h0 => ?_⟩, hnil, h1, by unfold maxLen at h2; omega, fun k hk => ?_⟩
  · obtain ⟨b, o, ha, hcell⟩ := hc h0
    refine ⟨b, o, ha, fun i hi => ?_⟩
    have e := ((hx i).choose_spec hi).2
    have c0 := hcell i hi 0 (by omega)
    have c1 := hcell i hi 1 (by omega)
    rw [e] at c0 c1
    rw [hget i hi]
    exact ⟨by simpa using c0, by simpa using c1⟩
  · obtain ⟨i, hi, rfl⟩ := List.mem_map.1 hk
    exact ((hx i).choose_spec (by simpa using hi)).1
theorem open_pair {H : Type} {enc : TypeId × Value → H} {w : World} {base : Nat} {spare : Nat → Bool} {held : Bool} {r : Reach} {b0 : Nat} {v : Value} {d : DataW H} {p : List MemPlace} {e : TypeId} {fs : Array Field} {f0 f1 : Field}
    (he : Try.prog.underlying e = some (.struct fs)) (hc : Try.prog.cellsOf e = 2) (hf0 : fs[0]? = some f0) (hf1 : fs[1]? = some f1) (g0 : f0.type = 3 ∧ f0.offset = 0) (g1 : f1.type = 9 ∧ f1.offset = 1)
    (hv : Value.okWide Try.prog w r b0 e v) (h : DataW.Trod enc Try.prog w base spare held e v d p) : ∃ k : KV, KeyOk k ∧ v = keyV k := by
  obtain ⟨cs, rfl, hsz⟩ := okWide_struct he hv
  obtain ⟨fuel, hf⟩ := h
  obtain ⟨x, hx, h1⟩ := pair_of he hc hf0 hf1 g0 g1 hf
  refine ⟨x, hx, ?_⟩
  unfold keyV
  congr 1
  apply Array.toList_inj.1
  simpa [Value.cells] using h1
/-! the order of keys -/
def ordK (a b : KV) : Int := if a.1 < b.1 then -1 else if b.1 < a.1 then 1 else cmpS a.2 b.2
def lessK (a b : KV) : Bool := decide (ordK a b < 0)
theorem ordK_bd (a b : KV) : ordK a b = -1 ∨ ordK a b = 0 ∨ ordK a b = 1 := by
  unfold ordK; split
  · simp
  · split
    · simp
    · exact cmpS_bd _ _
theorem ordK_swap (a b : KV) : ordK b a = - ordK a b := by
  unfold ordK
  rcases Int.lt_trichotomy a.1 b.1 with h | h | h
  · rw [if_pos h, if_neg (by omega), if_pos h]; rfl
  · rw [if_neg (by omega), if_neg (by omega), if_neg (by omega), if_neg (by omega), cmpS_swap]
  · rw [if_pos h, if_neg (by omega), if_pos h]
theorem ordK_lt {a b : KV} : ordK a b < 0 ↔ a.1 < b.1 ∨ (a.1 = b.1 ∧ cmpS a.2 b.2 < 0) := by
  unfold ordK
  rcases Int.lt_trichotomy a.1 b.1 with h | h | h
  · rw [if_pos h]; simp [h]
  · rw [if_neg (by omega), if_neg (by omega)]
    constructor
    · intro k; exact Or.inr ⟨h, k⟩
    · rintro (k | k)
      · omega
      · exact k.2
  · rw [if_neg (by omega), if_pos h]
    constructor
    · intro k; omega
    · rintro (k | k) <;> omega
theorem ordK_zero {a b : KV} : ordK a b = 0 ↔ a = b := by
  unfold ordK
  rcases Int.lt_trichotomy a.1 b.1 with h | h | h
  · rw [if_pos h]; constructor
    · intro k; omega
    · intro k; rw [k] at h; omega
  · rw [if_neg (by omega), if_neg (by omega), cmpS_zero]
    exact ⟨fun k => Prod.ext h k, fun k => by rw [k]⟩
  · rw [if_neg (by omega), if_pos h]; constructor
    · intro k; omega
    · intro k; rw [k] at h; omega
theorem ordK_trans {a b c : KV} (h : ordK a b < 0) (k : ordK b c < 0) : ordK a c < 0 := by
  rw [ordK_lt] at *
  rcases h with h | ⟨h, h'⟩ <;> rcases k with k | ⟨k, k'⟩
  · exact Or.inl (by omega)
  · exact Or.inl (by omega)
  · exact Or.inl (by omega)
  · exact Or.inr ⟨by omega, cmpS_trans h' k'⟩
theorem ordK_irrefl (a : KV) : ¬ ordK a a < 0 := by rw [ordK_zero.2 rfl]; omega
/-- not above, one behind the other -/
theorem ordK_le_trans {a b c : KV} (h : ¬ ordK b a < 0) (k : ¬ ordK c b < 0) : ¬ ordK c a < 0 := by
  intro h3
  rcases ordK_bd a b with e | e | e
  · exact k (ordK_trans h3 (by omega))
  · rw [ordK_zero.1 e] at h3; exact k h3
  · rw [ordK_swap] at h; omega
end Go.Proofs.Ytbimbgcejeeinaa
/- contracts: cmp.Compare of numbers, cmp.Or; which of two keys is ahead -/
namespace Go.Proofs.Ytbimbgcejeeinaa
open Go.RowKit
set_option linter.unusedVariables false
set_option maxRecDepth 20000
theorem isNaNI_any (x : Int) (w : World) : Calls Try.prog 114 #[.int .i64 x] w fun e w' => e = .returned (.bool false) ∧ w = w' := by
  go_enter Try.func114, Try.ntmps114
  go_wp2
  go_ret
  exact ⟨ret_bool (by simp), rfl⟩
def cmpZ (x y : Int) : Int := if x < y then -1 else if y < x then 1 else 0
theorem compareZ_any (x y : Int) (w : World) : Calls Try.prog 103 #[.int .i64 x, .int .i64 y] w fun e w' => e = .returned (.int .i64 (cmpZ x y)) ∧ w = w' := by
  rcases Int.lt_trichotomy x y with h | h | h
  · have hv : cmpZ x y = -1 := by unfold cmpZ; rw [if_pos h]
    have x1 : decide (x < y) = true := decide_eq_true h
    rw [hv]
    go_enter Try.func103, Try.ntmps103
    go_wp2_with fail
    refine (isNaNI_any x _).mono ?_
    rintro e w' ⟨rfl, rfl⟩
    go_wp2_with fail
    refine (isNaNI_any y _).mono ?_
    rintro e w' ⟨rfl, rfl⟩
    go_wp2_with fail
    go_ret
    exact ⟨rfl, rfl⟩
  · subst h
    have hv : cmpZ x x = 0 := by unfold cmpZ; rw [if_neg (by omega), if_neg (by omega)]
    rw [hv]
    go_enter Try.func103, Try.ntmps103
    go_wp2_with fail
    refine (isNaNI_any x _).mono ?_
    rintro e w' ⟨rfl, rfl⟩
    go_wp2_with fail
    refine (isNaNI_any x _).mono ?_
    rintro e w' ⟨rfl, rfl⟩
    go_wp2_with fail
    go_ret
    exact ⟨rfl, rfl⟩
  · have hv : cmpZ x y = 1 := by unfold cmpZ; rw [if_neg (by omega), if_pos h]
    have x1 : decide (x < y) = false := decide_eq_false (by omega)
    have x2 : decide (x > y) = true := decide_eq_true h
    rw [hv]
    go_enter Try.func103, Try.ntmps103
    go_wp2_with fail
    refine (isNaNI_any x _).mono ?_
    rintro e w' ⟨rfl, rfl⟩
    go_wp2_with fail
    refine (isNaNI_any y _).mono ?_
    rintro e w' ⟨rfl, rfl⟩
    go_wp2_with fail
    go_ret
    exact ⟨rfl, rfl⟩
def orZ (x y : Int) : Int := if x = 0 then y else x
theorem or_any (b o : Nat) (x y : Int) (w : World) (h0 : w.cell? ⟨b, o, none⟩ = some (.int .i64 x)) (h1 : w.cell? ⟨b, o + 1, none⟩ = some (.int .i64 y)) :
    Calls Try.prog 102 #[.slice (some ⟨b, o, none⟩) 2 2] w fun e w' => e = .returned (.int .i64 (orZ x y)) ∧ w = w' := by
  by_cases hx : x = 0
  · subst hx
    have hv : orZ 0 y = y := rfl
    have x1 : ((0 : Int) != 0) = false := rfl
    rw [hv]
    by_cases hy : y = 0
    · subst hy
      go_enter Try.func102, Try.ntmps102
      go_wp2_with fail
      go_loop [8] (fun iv => ∃ i : Nat, i ≤ 2 ∧ iv = .int .i64 i) (fun iv => 2 - (intOf iv).toNat)
      case atStart => exact ⟨0, by omega, rfl⟩
      case round =>
        obtain ⟨i, hi, rfl⟩ := hrel
        have hc : i = 0 ∨ i = 1 ∨ i = 2 := by omega
        rcases hc with rfl | rfl | rfl
        · go_wp2_with fail
          go_round
          case rel => exact ⟨1, by omega, by go_num⟩
          case measure => simp [intOf]
        · go_wp2_with fail
          go_round
          case rel => exact ⟨2, by omega, by go_num⟩
          case measure => simp [intOf]
        · go_wp2_with fail
          go_ret
          exact ⟨rfl, rfl⟩
    · have x2 : (y != 0) = true := by simp [hy]
      go_enter Try.func102, Try.ntmps102
      go_wp2_with fail
      go_loop [8] (fun iv => ∃ i : Nat, i ≤ 1 ∧ iv = .int .i64 i) (fun iv => 2 - (intOf iv).toNat)
      case atStart => exact ⟨0, by omega, rfl⟩
      case round =>
        obtain ⟨i, hi, rfl⟩ := hrel
        have hc : i = 0 ∨ i = 1 := by omega
        rcases hc with rfl | rfl
        · go_wp2_with fail
          go_round
          case rel => exact ⟨1, by omega, by go_num⟩
          case measure => simp [intOf]
        · go_wp2_with fail
          go_ret
          exact ⟨rfl, rfl⟩
  · have x2 : (x != 0) = true := by simp [hx]
    have hv : orZ x y = x := if_neg hx
    rw [hv]
    go_enter Try.func102, Try.ntmps102
    go_wp2_with fail
    go_loop [8] (fun iv => iv = .int .i64 0) (fun iv => 0)
    case atStart => rfl
    case round =>
      obtain rfl := hrel
      go_wp2_with fail
      go_ret
      exact ⟨rfl, rfl⟩
theorem ordK_or (a b : KV) : ordK a b = orZ (cmpZ a.1 b.1) (cmpS a.2 b.2) := by
  unfold ordK orZ cmpZ
  rcases Int.lt_trichotomy a.1 b.1 with h | h | h
  · simp [h]
  · have h1 : ¬ a.1 < b.1 := by omega
    have h2 : ¬ b.1 < a.1 := by omega
    simp [h1, h2]
  · have h1 : ¬ a.1 < b.1 := by omega
    simp [h, h1]
end Go.Proofs.Ytbimbgcejeeinaa
/- which of two keys is ahead -/
namespace Go.Proofs.Ytbimbgcejeeinaa
open Go.RowKit
set_option linter.unusedVariables false
set_option maxRecDepth 20000
def Box4 (w0 : World) (p q : Nat) (v0 v1 v2 v3 : Value) (w : World) : Prop := Below w0.heap.size w0 w ∧ w.cell? ⟨p, 0, none⟩ = some v0 ∧ w.cell? ⟨p, 1, none⟩ = some v1 ∧ w.cell? ⟨q, 0, none⟩ = some v2 ∧ w.cell? ⟨q, 1, none⟩ = some v3
theorem box4_carry {w0 w w' : World} {p q : Nat} {v0 v1 v2 v3 : Value} (h : Box4 w0 p q v0 v1 v2 v3 w) (hb : Below w.heap.size w w') : Box4 w0 p q v0 v1 v2 v3 w' :=
  ⟨h.1.trans (hb.mono h.1.size), by rw [hb.cell (p := ⟨p, 0, none⟩) (lt_of_cell h.2.1)]; exact h.2.1, by rw [hb.cell (p := ⟨p, 1, none⟩) (lt_of_cell h.2.1)]; exact h.2.2.1, by rw [hb.cell (p := ⟨q, 0, none⟩) (lt_of_cell h.2.2.2.1)]; exact h.2.2.2.1, by rw [hb.cell (p := ⟨q, 1, none⟩) (lt_of_cell h.2.2.2.1)]; exact h.2.2.2.2⟩
set_option maxHeartbeats 3200000 in
theorem order_any (a b : KV) (w : World) :
    Calls Try.prog 89 #[keyV a, keyV b] w fun e w' => e = .returned (.int .i64 (ordK a b)) ∧ Below w.heap.size w w' := by
  obtain ⟨a1, a2⟩ := a
  obtain ⟨b1, b2⟩ := b
  have hv := ordK_or (a1, a2) (b1, b2)
  obtain ⟨v, hv2⟩ : ∃ v, ordK (a1, a2) (b1, b2) = v := ⟨_, rfl⟩
  rw [hv2] at hv ⊢
  simp only at hv
  unfold keyV
  simp only
  have C1 := Lib.hid (fun w => compareZ_any a1 b1 w)
  have C2 := Lib.hid (fun w => compare_any a2 b2 w)
  obtain ⟨x, hx⟩ : ∃ x, cmpZ a1 b1 = x := ⟨_, rfl⟩
  obtain ⟨y, hy⟩ : ∃ y, cmpS a2 b2 = y := ⟨_, rfl⟩
  rw [hx] at C1 hv; rw [hy] at C2 hv
  have HV := Lib.hid hv
  clear hv hv2 hx hy
  go_enter Try.func89, Try.ntmps89
  go_upto_region 1 with fail
  have e0 : ((w.alloc (.cells #[.int .i64 a1, .string a2] 54)).alloc (.cells #[.int .i64 b1, .string b2] 54)).cell? ⟨w.heap.size, 0, none⟩ = some (.int .i64 a1) := by simp
  have e1 : ((w.alloc (.cells #[.int .i64 a1, .string a2] 54)).alloc (.cells #[.int .i64 b1, .string b2] 54)).cell? ⟨w.heap.size, 1, none⟩ = some (.string a2) := by simp
  have e2 : ((w.alloc (.cells #[.int .i64 a1, .string a2] 54)).alloc (.cells #[.int .i64 b1, .string b2] 54)).cell? ⟨w.heap.size + 1, 0, none⟩ = some (.int .i64 b1) := by simp
  have e3 : ((w.alloc (.cells #[.int .i64 a1, .string a2] 54)).alloc (.cells #[.int .i64 b1, .string b2] 54)).cell? ⟨w.heap.size + 1, 1, none⟩ = some (.string b2) := by simp
  have BB := Lib.hid ((Below.refl w.heap.size w).alloc (Nat.le_refl _) (.cells #[.int .i64 a1, .string a2] 54) |>.alloc (by simp) (.cells #[.int .i64 b1, .string b2] 54))
  generalize (w.alloc (.cells #[.int .i64 a1, .string a2] 54)).alloc (.cells #[.int .i64 b1, .string b2] 54) = w1 at *
  obtain ⟨p, hp⟩ : ∃ p, w.heap.size = p := ⟨_, rfl⟩
  obtain ⟨q, hq⟩ : ∃ q, w.heap.size + 1 = q := ⟨_, rfl⟩
  rw [hq] at e2 e3 ⊢
  have T := Lib.hid (show Box4 w1 w.heap.size q (.int .i64 a1) (.string a2) (.int .i64 b1) (.string b2) w1 from ⟨Below.refl _ _, e0, e1, e2, e3⟩)
  clear e0 e1 e2 e3 hq hp
  go_region_held3 (fun w' => Below w1.heap.size w1 w' ∧ w'.cell? ⟨w.heap.size, 0, none⟩ = some (.int .i64 a1) ∧ w'.cell? ⟨w.heap.size, 1, none⟩ = some (.string a2) ∧ w'.cell? ⟨q, 0, none⟩ = some (.int .i64 b1) ∧ w'.cell? ⟨q, 1, none⟩ = some (.string b2))
    (first | assumption | exact box4_carry T.out (below_drewN w1 _) | exact box4_carry T.out (Below.refl _ _).drew | exact box4_carry (by assumption) (below_one _ _) | exact box4_carry (by assumption) (by assumption))
    (first
      | (go_at_call 103; refine (C1.out _).mono ?_; rintro e w' ⟨rfl, rfl⟩)
      | (go_at_call 45; refine (C2.out _).mono ?_; rintro e w' ⟨rfl, rfl⟩)
      | (go_at_call 102; refine (or_any _ _ x y _ (by simp) (by simp)).mono ?_; rintro e w' ⟨rfl, rfl⟩))
  rename_i T5
  obtain ⟨hb5, -⟩ := T5
  go_wp2_with fail
  go_ret
  exact ⟨ret_int HV.out.symm, BB.out.trans (hb5.mono BB.out.size)⟩
end Go.Proofs.Ytbimbgcejeeinaa
/- contract of text.Len -/
namespace Go.Proofs.Ytbimbgcejeeinaa
open Go.RowKit
set_option linter.unusedVariables false
set_option maxRecDepth 20000
set_option maxHeartbeats 400000 in
theorem len_any (s : ByteArray) (w : World) (hs : s.size ≤ 9223372036854775807) :
    Calls Try.prog 86 #[.string s] w fun e w' => e = .returned (.int .i64 (lenS s)) ∧ Below w.heap.size w w' := by
  go_enter Try.func86, Try.ntmps86
  go_wp2_with fail
  go_loopw [3] (fun n wr => ∃ (pos f : Nat) (P : List Nat), s.size ≤ pos + f ∧ n = .int .i64 P.length ∧ Hid (runesS s = P ++ runesN s f pos) ∧ Hid (∀ r ∈ P, r ≠ 65533) ∧ wr = w.iter s pos) (fun _ wr => s.size - wr.iterPos w.heap.size)
  case atStart => exact ⟨0, s.size, [], by omega, rfl, Lib.hid rfl, Lib.hid (by simp), rfl⟩
  case round =>
    obtain ⟨pos, f, P, hf, rfl, hP, hG, rfl⟩ := hrel
    by_cases hlt : pos < s.size
    · have hnx := fun ty => run_next_any (P := Try.prog) w s pos ty hlt
      obtain ⟨g, rfl, hst, hg⟩ := runesN_step s f pos hlt hf
      have hwd := decode_width s pos hlt
      have hlen : P.length < s.size := by
        have h1 := congrArg List.length hP.out
        rw [hst, List.length_append, List.length_cons] at h1
        have := runesS_le s
        omega
      have HST := Lib.hid hst
      obtain ⟨r, hr⟩ : ∃ r, (Utf8.decode s pos).1 = r := ⟨_, rfl⟩
      obtain ⟨wd, hwd2⟩ : ∃ wd, (Utf8.decode s pos).2 = wd := ⟨_, rfl⟩
      rw [hr, hwd2] at hnx HST; rw [hwd2] at hg hwd
      clear hst hr hwd2
      by_cases hbad : r = 65533
      · subst hbad
        go_wp2
        go_ret
        exact ⟨ret_int (lenS_bad (P := P) (Q := runesN s g (pos + wd)) (by rw [hP.out, HST.out])).symm, below_one _ _⟩
      · have hb : ((r : Int) == 65533) = false := by rw [beq_eq_false_iff_ne]; omega
        have HB := Lib.hid hbad
        clear hbad
        go_wp2
        go_roundw
        case rel => exact ⟨pos + wd, g, P ++ [r], hg, by rw [List.length_append]; go_num, Lib.hid (by rw [hP.out, HST.out]; simp), Lib.hid (by intro x hx; rcases List.mem_append.1 hx with hx | hx; exact hG.out x hx; simp at hx; rw [hx]; exact HB.out), rfl⟩
        case measure => simp; omega
    · have hnx := fun ty => run_next_end (P := Try.prog) w s pos ty hlt
      have he : runesS s = P := by rw [hP.out, runesN_end s f pos hlt, List.append_nil]
      have HE := Lib.hid he
      clear he
      go_wp2
      go_ret
      exact ⟨ret_int (by rw [lenS_good (by rw [HE.out]; exact hG.out), HE.out]), below_one _ _⟩
end Go.Proofs.Ytbimbgcejeeinaa
/- contract of text.Word -/
namespace Go.Proofs.Ytbimbgcejeeinaa
open Go.RowKit
set_option linter.unusedVariables false
set_option maxRecDepth 20000
theorem word_any (s : ByteArray) (w : World) (hs : s.size ≤ 9223372036854775807) :
    Calls Try.prog 57 #[.string s] w fun e w' => e = .returned (.bool (decide (1 ≤ lenS s ∧ lenS s ≤ 12))) ∧ Below w.heap.size w w' := by
  have h1 := Lib.hid (len_any s w hs)
  obtain ⟨n, hn⟩ : ∃ n, lenS s = n := ⟨_, rfl⟩
  rw [hn] at h1 ⊢
  clear hn
  have hc : n < 1 ∨ (1 ≤ n ∧ n ≤ 12) ∨ (1 ≤ n ∧ 12 < n) := by omega
  rcases hc with h | ⟨h, h2⟩ | ⟨h, h2⟩
  · rw [decide_eq_false (by omega)]
    go_enter Try.func57, Try.ntmps57
    go_wp2_with fail
    refine h1.out.mono ?_
    rintro e w' ⟨rfl, hb⟩
    go_wp2_with fail
    go_ret
    exact ⟨rfl, hb⟩
  · rw [decide_eq_true (by omega)]
    have x1 : decide (n ≤ 12) = true := by simpa using h2
    go_enter Try.func57, Try.ntmps57
    go_wp2_with fail
    refine h1.out.mono ?_
    rintro e w' ⟨rfl, hb⟩
    go_wp2_with fail
    go_ret
    exact ⟨ret_bool (by simp [*]), hb⟩
  · rw [decide_eq_false (by omega)]
    have x1 : decide (n ≤ 12) = false := by simpa using h2
    go_enter Try.func57, Try.ntmps57
    go_wp2_with fail
    refine h1.out.mono ?_
    rintro e w' ⟨rfl, hb⟩
    go_wp2_with fail
    go_ret
    exact ⟨ret_bool (by simp [*]), hb⟩
end Go.Proofs.Ytbimbgcejeeinaa
/- contracts of part.Less, may, Of, Lens, Least -/
namespace Go.Proofs.Ytbimbgcejeeinaa
open Go.RowKit
set_option linter.unusedVariables false
set_option maxRecDepth 20000
theorem order_lit (a b : KV) (v : Int) (hv : ordK a b = v) (w : World) :
    Calls Try.prog 89 #[keyV a, keyV b] w fun e w' => e = .returned (.int .i64 v) ∧ Below w.heap.size w w' := by subst hv; exact order_any a b w
theorem box2 (w : World) (x y : Value) (t : TypeId) : ((w.alloc (.cells #[x] t)).alloc (.cells #[y] t)).heap.size = w.heap.size + 2 := by simp
theorem pless_any (a b : KV) (w : World) :
    Calls Try.prog 59 #[keyV a, keyV b] w fun e w' => e = .returned (.bool (lessK a b)) ∧ Below w.heap.size w w' := by
  unfold lessK
  have C := Lib.hid (fun w => order_any a b w)
  obtain ⟨v, hv⟩ : ∃ v, ordK a b = v := ⟨_, rfl⟩
  rw [hv] at C ⊢
  clear hv
  obtain ⟨a1, a2⟩ := a
  obtain ⟨b1, b2⟩ := b
  unfold keyV at C ⊢
  simp only at C ⊢
  go_enter Try.func59, Try.ntmps59
  go_wp2_with fail
  refine (C.out _).mono ?_
  rintro e w' ⟨rfl, hb⟩
  go_wp2_with fail
  go_ret
  exact ⟨rfl, ((Below.refl w.heap.size w).alloc (Nat.le_refl _) _ |>.alloc (by simp) _).trans (hb.mono (by simp; omega))⟩
theorem pless_lit (a b : KV) (c : Bool) (hc : lessK a b = c) (w : World) :
    Calls Try.prog 59 #[keyV a, keyV b] w fun e w' => e = .returned (.bool c) ∧ Below w.heap.size w w' := by subst hc; exact pless_any a b w
def mayK (k : KV) : Prop := 1 ≤ k.1 ∧ k.1 ≤ 12 ∧ 0 ≤ lenS k.2 ∧ lenS k.2 ≤ 12
instance (k : KV) : Decidable (mayK k) := by unfold mayK; infer_instance
theorem may_any (k : KV) (hk : KeyOk k) (w : World) :
    Calls Try.prog 58 #[keyV k] w fun e w' => e = .returned (.bool (decide (mayK k))) ∧ Below w.heap.size w w' := by
  obtain ⟨c, hcv⟩ : ∃ c, decide (mayK k) = c := ⟨_, rfl⟩
  rw [hcv]
  have hm : c = true ↔ mayK k := by rw [← hcv]; exact decide_eq_true_iff
  clear hcv
  obtain ⟨k1, k2⟩ := k
  have hb1 := hk.1
  unfold i64okK at hb1
  have C := Lib.hid (fun w => len_any k2 w hk.2)
  unfold mayK at hm
  unfold keyV
  simp only at hb1 hm ⊢
  have hs := hk.2
  simp only at hs
  obtain ⟨n, hn⟩ : ∃ n, lenS k2 = n := ⟨_, rfl⟩
  have hnb : -1 ≤ n ∧ n ≤ 9223372036854775807 := by rw [← hn]; have := lenS_bd k2; omega
  simp only [hn] at C hm
  clear hn hk
  have hcase : (k1 < 1 ∧ c = false) ∨ (1 ≤ k1 ∧ 12 < k1 ∧ c = false) ∨ (1 ≤ k1 ∧ k1 ≤ 12 ∧ n < 0 ∧ c = false) ∨ (1 ≤ k1 ∧ k1 ≤ 12 ∧ 0 ≤ n ∧ 12 < n ∧ c = false) ∨ (1 ≤ k1 ∧ k1 ≤ 12 ∧ 0 ≤ n ∧ n ≤ 12 ∧ c = true) := by
    cases c <;> simp at hm ⊢ <;> omega
  clear hm
  rcases hcase with ⟨h, rfl⟩ | ⟨h, h2, rfl⟩ | ⟨h, h2, h3, rfl⟩ | ⟨h, h2, h3, h4, rfl⟩ | ⟨h, h2, h3, h4, rfl⟩
  all_goals
    first
      | have x1 : decide (k1 ≥ 1) = false := by rw [decide_eq_false_iff_not]; omega
      | have x1 : decide (k1 ≥ 1) = true := by rw [decide_eq_true_iff]; omega
    first
      | have x2 : decide (k1 ≤ 12) = false := by rw [decide_eq_false_iff_not]; omega
      | have x2 : decide (k1 ≤ 12) = true := by rw [decide_eq_true_iff]; omega
      | skip
    first
      | have x3 : decide (n ≥ 0) = false := by rw [decide_eq_false_iff_not]; omega
      | have x3 : decide (n ≥ 0) = true := by rw [decide_eq_true_iff]; omega
      | skip
    first
      | have x4 : decide (n ≤ 12) = false := by rw [decide_eq_false_iff_not]; omega
      | have x4 : decide (n ≤ 12) = true := by rw [decide_eq_true_iff]; omega
      | skip
    have hcell : ∀ w', Below (w.alloc (.cells #[.int .i64 k1, .string k2] 54)).heap.size (w.alloc (.cells #[.int .i64 k1, .string k2] 54)) w' → w'.cell? ⟨w.heap.size, 0, none⟩ = some (.int .i64 k1) := fun w' hb => by
      rw [hb.cell (p := ⟨w.heap.size, 0, none⟩) (by simp)]; simp
    have HC := Lib.hid hcell
    clear hcell
    go_enter Try.func58, Try.ntmps58
    go_wp2_with fail
    refine (C.out _).mono ?_
    rintro e w' ⟨rfl, hb⟩
    have e1 := HC.out w' hb
    go_wp2_with fail
    go_ret
    exact ⟨rfl, (below_one w _).trans (hb.mono (by simp))⟩
theorem word_bool' {w : World} (s : Tx) (b : Bool) (hs : s.size ≤ 9223372036854775807) (hb : decide (wordP s) = b) :
    Calls Try.prog 57 #[.string s] w fun e w' => e = .returned (.bool b) ∧ Below w.heap.size w w' := by subst hb; exact word_any s w hs
/-! which shard a word belongs to -/
def keyOf (t : Tx) : KV := (lenS t, t)
def ofN (ks : List KV) (k : KV) : Nat := ks.findIdx fun c => decide (ordK k c < 0)
theorem ofN_le (ks : List KV) (k : KV) : ofN ks k ≤ ks.length := List.findIdx_le_length
def ofZ (ks : List KV) (t : Tx) : Int := if wordP t then ofN ks (keyOf t) else -1
theorem closure_any (B : Nat) (k c : KV) (w : World) (h0 : w.cell? ⟨B, 0, none⟩ = some (.int .i64 k.1)) (h1 : w.cell? ⟨B, 1, none⟩ = some (.string k.2)) :
    Calls Try.prog 88 #[keyV c, .pointer (some ⟨B, 0, none⟩)] w fun e w' => e = .returned (.bool (decide (ordK k c < 0))) ∧ Below w.heap.size w w' := by
  have C := Lib.hid (fun w => order_any k c w)
  obtain ⟨v, hv⟩ : ∃ v, ordK k c = v := ⟨_, rfl⟩
  rw [hv] at C ⊢
  clear hv
  obtain ⟨k1, k2⟩ := k
  obtain ⟨c1, c2⟩ := c
  unfold keyV at C ⊢
  simp only at C h0 h1 ⊢
  have e0 : (w.alloc (.cells #[.int .i64 c1, .string c2] 54)).cell? ⟨B, 0, none⟩ = some (.int .i64 k1) := by
    rw [(below_one w (.cells #[.int .i64 c1, .string c2] 54)).cell (p := ⟨B, 0, none⟩) (lt_of_cell h0)]; exact h0
  have e1 : (w.alloc (.cells #[.int .i64 c1, .string c2] 54)).cell? ⟨B, 1, none⟩ = some (.string k2) := by
    rw [(below_one w (.cells #[.int .i64 c1, .string c2] 54)).cell (p := ⟨B, 1, none⟩) (lt_of_cell h1)]; exact h1
  go_enter Try.func88, Try.ntmps88
  go_wp2_with fail
  refine (C.out _).mono ?_
  rintro e w' ⟨rfl, hb⟩
  go_wp2_with fail
  go_ret
  exact ⟨rfl, (below_one w _).trans (hb.mono (by simp))⟩
theorem findIdx_take {α : Type} (p : α → Bool) (xs : List α) (z : α) (j : Nat) (hj : j < xs.length) (h : ∀ x ∈ xs.take j, p x = false) (hp : p (xs.getD j z) = true) : xs.findIdx p = j := by
  rw [List.findIdx_eq hj]
  have e : xs.getD j z = xs[j] := by simp [List.getD_eq_getElem?_getD, hj]
  refine ⟨by rw [← e]; exact hp, fun i hi => ?_⟩
  have h1 := h xs[i] (by rw [List.mem_take_iff_getElem]; exact ⟨i, by omega, rfl⟩)
  simpa using h1
theorem findIdx_none {α : Type} (p : α → Bool) (xs : List α) (h : ∀ x ∈ xs, p x = false) : xs.findIdx p = xs.length := by
  rw [List.findIdx_eq_length]; exact h
def idxZ (ks : List KV) (k : KV) : Int := if ofN ks k < ks.length then ofN ks k else -1
set_option maxHeartbeats 1600000 in
theorem index_any (a : Option Addr) (n cap B : Nat) (ks : List KV) (k : KV) (w : World) (hh : HoldsK w a n ks) (hn : n ≤ 9223372036854775807) (h0 : w.cell? ⟨B, 0, none⟩ = some (.int .i64 k.1)) (h1 : w.cell? ⟨B, 1, none⟩ = some (.string k.2)) :
    Calls Try.prog 87 #[.slice a n cap, .func (.func 88) #[] #[.pointer (some ⟨B, 0, none⟩)]] w fun e w' => e = .returned (.int .i64 (idxZ ks k)) ∧ Below w.heap.size w w' := by
  have hl := hh.len
  have BK := Lib.hid (fun (w3 : World) (hb : Below w.heap.size w w3) => show w3.cell? ⟨B, 0, none⟩ = some (.int .i64 k.1) ∧ w3.cell? ⟨B, 1, none⟩ = some (.string k.2) from ⟨(hb.cell (p := ⟨B, 0, none⟩) (lt_of_cell h0)).trans h0, (hb.cell (p := ⟨B, 1, none⟩) (lt_of_cell h1)).trans h1⟩)
  clear h0 h1
  go_enter Try.func87, Try.ntmps87
  go_wp2_with fail
  go_loopw [8] (fun iv wr => ∃ j : Nat, j ≤ n ∧ iv = .int .i64 j ∧ Hid (∀ c ∈ ks.take j, decide (ordK k c < 0) = false) ∧ Hid (Below w.heap.size w wr)) (fun iv _ => n - (intOf iv).toNat)
  case atStart => exact ⟨0, by omega, rfl, Lib.hid (by simp), Lib.hid (Below.refl _ _)⟩
  case round =>
    obtain ⟨j, hj, rfl, hS, hB⟩ := hrel
    by_cases hlt : j < n
    · obtain ⟨b, o, rfl, hc⟩ := (hh.below hB.out).at (by omega)
      obtain ⟨e1, e2⟩ := hc j hlt
      have htk := take_succ_getD ks k0 j (by omega)
      obtain ⟨x, hx⟩ : ∃ x, ks.getD j k0 = x := ⟨_, rfl⟩
      rw [hx] at e1 e2 htk
      have HX := Lib.hid hx; have HT := Lib.hid htk
      clear hx htk hc
      have CL := Lib.hid (closure_any B k x wr (BK.out _ hB.out).1 (BK.out _ hB.out).2)
      unfold keyV at CL
      by_cases hp : ordK k x < 0
      · rw [decide_eq_true hp] at CL
        have hf := findIdx_take (fun c => decide (ordK k c < 0)) ks k0 j (by omega) hS.out (by rw [HX.out]; exact decide_eq_true hp)
        have hv : Hid (idxZ ks k = (j : Int)) := Lib.hid (by unfold idxZ ofN; rw [hf, if_pos (by omega)])
        clear hf hp
        go_wp2_with fail
        refine CL.out.mono ?_
        rintro e w2 ⟨rfl, hb2⟩
        go_wp2_with fail
        go_ret
        exact ⟨ret_int hv.out.symm, hB.out.trans (hb2.mono hB.out.size)⟩
      · rw [decide_eq_false hp] at CL
        have HP := Lib.hid (decide_eq_false hp)
        clear hp
        go_wp2_with fail
        refine CL.out.mono ?_
        rintro e w2 ⟨rfl, hb2⟩
        go_wp2_with fail
        go_roundw
        case rel => exact ⟨j + 1, by omega, by go_num, Lib.hid (by rw [HT.out]; intro z hz; rcases List.mem_append.1 hz with hz | hz; exact hS.out z hz; simp at hz; rw [hz]; exact HP.out), Lib.hid (hB.out.trans (hb2.mono hB.out.size))⟩
        case measure => simp [intOf]; omega
    · have hjn : ks.take j = ks := List.take_of_length_le (by omega)
      have hS2 := hS.out
      rw [hjn] at hS2
      have hf := findIdx_none (fun c => decide (ordK k c < 0)) ks hS2
      have hv : Hid (idxZ ks k = -1) := Lib.hid (by unfold idxZ ofN; rw [hf, if_neg (by omega)])
      clear hjn hS2 hf
      go_wp2_with fail
      go_ret
      exact ⟨ret_int hv.out.symm, hB.out⟩
theorem pof_any (a : Option Addr) (n cap : Nat) (ks : List KV) (t : Tx) (w : World) (hh : HoldsK w a n ks) (hn : n ≤ 9223372036854775807) (ht : t.size ≤ 9223372036854775807) :
    Calls Try.prog 54 #[.slice a n cap, .string t] w fun e w' => e = .returned (.int .i64 (ofZ ks t)) ∧ Below w.heap.size w w' := by
  have hl := hh.len
  have HL := Lib.hid (fun w => len_any t w ht)
  by_cases hw : wordP t
  · have hof : Hid (ofZ ks t = ofN ks (keyOf t)) := Lib.hid (if_pos hw)
    have HW := Lib.hid (fun w => @word_bool' w t true ht (decide_eq_true hw))
    have hle := ofN_le ks (keyOf t)
    have hI := Lib.hid (fun B w1 (h : HoldsK w1 a n ks) h0 h1 => index_any a n cap B ks (keyOf t) w1 h hn h0 h1)
    unfold keyOf at hI hle
    simp only at hI
    have hix : Hid (idxZ ks (lenS t, t) = if ofN ks (lenS t, t) < n then (ofN ks (lenS t, t) : Int) else -1) := Lib.hid (by unfold idxZ; rw [hl])
    have hof2 : Hid (ofZ ks t = ofN ks (lenS t, t)) := hof
    obtain ⟨L, hL⟩ : ∃ L, lenS t = L := ⟨_, rfl⟩
    rw [hL] at HL hI hle hix hof2
    obtain ⟨m, hm⟩ : ∃ m, ofN ks (L, t) = m := ⟨_, rfl⟩
    rw [hm] at hle hix hof2
    obtain ⟨v, hv⟩ : ∃ v, idxZ ks (L, t) = v := ⟨_, rfl⟩
    rw [hv] at hI hix
    clear hL hm hv hof hw
    by_cases hlt : m < n
    · have hvm : v = (m : Int) := by rw [hix.out, if_pos hlt]
      subst hvm
      go_enter Try.func54, Try.ntmps54
      go_wp2_with fail
      refine (HW.out _).mono ?_
      rintro e w1 ⟨rfl, hb1⟩
      go_wp2_with fail
      refine (HL.out _).mono ?_
      rintro e w2 ⟨rfl, hb2⟩
      have hbb := hb1.trans (hb2.mono hb1.size)
      have B2 := Lib.hid (hbb.trans ((below_one w2 (.cells #[.int .i64 L, .string t] 54)).mono hbb.size))
      go_wp2_with fail
      refine (hI.out w2.heap.size _ (hh.below B2.out) (by simp) (by simp)).mono ?_
      rintro e w3 ⟨rfl, hb3⟩
      go_wp2_with fail
      go_ret
      exact ⟨ret_int hof2.out.symm, B2.out.trans (hb3.mono B2.out.size)⟩
    · have hvm : v = -1 := by rw [hix.out, if_neg hlt]
      have hmn : m = n := by omega
      subst hvm hmn
      go_enter Try.func54, Try.ntmps54
      go_wp2_with fail
      refine (HW.out _).mono ?_
      rintro e w1 ⟨rfl, hb1⟩
      go_wp2_with fail
      refine (HL.out _).mono ?_
      rintro e w2 ⟨rfl, hb2⟩
      have hbb := hb1.trans (hb2.mono hb1.size)
      have B2 := Lib.hid (hbb.trans ((below_one w2 (.cells #[.int .i64 L, .string t] 54)).mono hbb.size))
      go_wp2_with fail
      refine (hI.out w2.heap.size _ (hh.below B2.out) (by simp) (by simp)).mono ?_
      rintro e w3 ⟨rfl, hb3⟩
      go_wp2_with fail
      go_ret
      exact ⟨ret_int hof2.out.symm, B2.out.trans (hb3.mono B2.out.size)⟩
  · have hof : Hid (ofZ ks t = -1) := Lib.hid (if_neg hw)
    have HW := Lib.hid (fun w => @word_bool' w t false ht (decide_eq_false hw))
    clear hw
    go_enter Try.func54, Try.ntmps54
    go_wp2_with fail
    refine (HW.out _).mono ?_
    rintro e w1 ⟨rfl, hb1⟩
    go_wp2_with fail
    go_ret
    exact ⟨ret_int hof.out.symm, hb1⟩
theorem pof_lit (a : Option Addr) (n cap : Nat) (ks : List KV) (t : Tx) (v : Int) (w : World) (hh : HoldsK w a n ks) (hn : n ≤ 9223372036854775807) (ht : t.size ≤ 9223372036854775807) (hv : ofZ ks t = v) :
    Calls Try.prog 54 #[.slice a n cap, .string t] w fun e w' => e = .returned (.int .i64 v) ∧ Below w.heap.size w w' := by subst hv; exact pof_any a n cap ks t w hh hn ht
end Go.Proofs.Ytbimbgcejeeinaa
/- contracts of part.Lens, Least, Slice -/
namespace Go.Proofs.Ytbimbgcejeeinaa
open Go.RowKit
set_option linter.unusedVariables false
set_option maxRecDepth 20000
theorem not_empty {x : Tx} (h : x ≠ ByteArray.empty) : x.toList.isEmpty = false := by
  rw [List.isEmpty_eq_false_iff]
  intro h2
  exact h (toList_inj (h2.trans (by rw [ByteArray.toList_eq]; rfl)))
def loK (ks : List KV) (s : Nat) : Int := if 0 < s then (ks.getD (s - 1) k0).1 else 1
def hiK (ks : List KV) (s : Nat) : Int := if s < ks.length then (if (ks.getD s k0).2 = ByteArray.empty then (ks.getD s k0).1 - 1 else (ks.getD s k0).1) else 12
theorem lo_bd {ks : List KV} (hm : ∀ k ∈ ks, mayK k) {s : Nat} (hs : s ≤ ks.length) : 1 ≤ loK ks s ∧ loK ks s ≤ 12 := by
  unfold loK
  split
  · have := hm _ (getD_memK ks (s - 1) (by omega)); unfold mayK at this; exact ⟨this.1, this.2.1⟩
  · omega
theorem hi_bd {ks : List KV} (hm : ∀ k ∈ ks, mayK k) {s : Nat} (hs : s ≤ ks.length) : 0 ≤ hiK ks s ∧ hiK ks s ≤ 12 := by
  unfold hiK
  split
  · have := hm _ (getD_memK ks s (by omega)); unfold mayK at this
    split <;> omega
  · omega
def leastK (ks : List KV) (s : Nat) (n : Int) : Int := if hiK ks s < loK ks s then -1 else max (max (loK ks s - n) (n - hiK ks s)) 0
end Go.Proofs.Ytbimbgcejeeinaa
/- contract of part.Good -/
namespace Go.Proofs.Ytbimbgcejeeinaa
open Go.RowKit
set_option linter.unusedVariables false
set_option maxRecDepth 20000
def SortedK (l : List KV) : Prop := l.Pairwise fun a b => ordK a b < 0
instance (l : List KV) : Decidable (SortedK l) := by unfold SortedK; infer_instance
def adjK : List KV → Prop
  | x :: y :: l => ordK x y < 0 ∧ adjK (y :: l)
  | _ => True
theorem adjK_sorted : ∀ {l : List KV}, adjK l ↔ SortedK l
  | [] => by simp [adjK, SortedK]
  | [x] => by simp [adjK, SortedK]
  | x :: y :: l => by
    have ih := adjK_sorted (l := y :: l)
    constructor
    · rintro ⟨h1, h2⟩
      have h3 := ih.1 h2
      refine List.pairwise_cons.2 ⟨fun z hz => ?_, h3⟩
      rcases List.mem_cons.1 hz with e | e
      · rw [e]; exact h1
      · exact ordK_trans h1 ((List.pairwise_cons.1 h3).1 z e)
    · intro h
      obtain ⟨h1, h2⟩ := List.pairwise_cons.1 h
      exact ⟨h1 y (List.mem_cons_self ..), ih.2 h2⟩
theorem adjK_iff (l : List KV) : SortedK l ↔ ∀ i, i + 1 < l.length → ordK (l.getD i k0) (l.getD (i + 1) k0) < 0 := by
  rw [← adjK_sorted]
  induction l with
  | nil => simp [adjK]
  | cons x l ih =>
    cases l with
    | nil => simp [adjK]
    | cons y l =>
      constructor
      · rintro ⟨h1, h2⟩ i hi
        cases i with
        | zero => simpa using h1
        | succ i =>
          have := (ih.1 h2) i (by simpa using hi)
          simpa using this
      · intro h
        refine ⟨by simpa using h 0 (by simp), ih.2 fun i hi => ?_⟩
        have := h (i + 1) (by simpa using hi)
        simpa using this
def goodK (l : List KV) : Int := if 5 < l.length then 3 else if ∃ k ∈ l, ¬ mayK k then 2 else if SortedK l then 0 else 7
theorem goodK_zero {l : List KV} (h : goodK l = 0) : l.length ≤ 5 ∧ (∀ k ∈ l, mayK k) ∧ SortedK l := by
  unfold goodK at h
  split at h
  · omega
  · split at h
    · omega
    · split at h
      · rename_i h1 h2 h3
        exact ⟨by omega, fun t ht => Classical.byContradiction fun k => h2 ⟨t, ht, k⟩, h3⟩
      · omega
theorem goodK_of {l : List KV} (h : l.length ≤ 5) (h1 : ∀ k ∈ l, mayK k) (h2 : SortedK l) : goodK l = 0 := by
  unfold goodK; rw [if_neg (by omega), if_neg (fun ⟨t, ht, k⟩ => k (h1 t ht)), if_pos h2]
theorem goodK_long {l : List KV} (h : 5 < l.length) : goodK l = 3 := by unfold goodK; rw [if_pos h]
theorem goodK_bad {l : List KV} (h : l.length ≤ 5) (t : KV) (ht : t ∈ l) (hw : ¬ mayK t) : goodK l = 2 := by
  unfold goodK; rw [if_neg (by omega), if_pos ⟨t, ht, hw⟩]
theorem goodK_sort {l : List KV} (h : l.length ≤ 5) (hw : ∀ t ∈ l, mayK t) (hs : ¬ SortedK l) : goodK l = 7 := by
  unfold goodK; rw [if_neg (by omega), if_neg (fun ⟨t, ht, k⟩ => k (hw t ht)), if_neg hs]
theorem may_lit (k : KV) (c : Bool) (hk : KeyOk k) (hc : decide (mayK k) = c) (w : World) :
    Calls Try.prog 58 #[keyV k] w fun e w' => e = .returned (.bool c) ∧ Below w.heap.size w w' := by subst hc; exact may_any k hk w
/-- two keys of a row -/
def Two4 (w0 : World) (b p q : Nat) (x y : KV) (w : World) : Prop := Below w0.heap.size w0 w ∧ w.cell? ⟨b, p, none⟩ = some (.int .i64 x.1) ∧ w.cell? ⟨b, p + 1, none⟩ = some (.string x.2) ∧ w.cell? ⟨b, q, none⟩ = some (.int .i64 y.1) ∧ w.cell? ⟨b, q + 1, none⟩ = some (.string y.2)
theorem two4_carry {w0 w w' : World} {b p q : Nat} {x y : KV} (h : Two4 w0 b p q x y w) (hb : Below w.heap.size w w') : Two4 w0 b p q x y w' := by
  have hlt := lt_of_cell h.2.1
  refine ⟨h.1.trans (hb.mono h.1.size), ?_, ?_, ?_, ?_⟩
  · rw [hb.cell (p := ⟨b, p, none⟩) hlt]; exact h.2.1
  · rw [hb.cell (p := ⟨b, p + 1, none⟩) hlt]; exact h.2.2.1
  · rw [hb.cell (p := ⟨b, q, none⟩) hlt]; exact h.2.2.2.1
  · rw [hb.cell (p := ⟨b, q + 1, none⟩) hlt]; exact h.2.2.2.2
set_option maxHeartbeats 3200000 in
theorem pgood_any (a : Option Addr) (n cap : Nat) (ks : List KV) (w : World) (hh : HoldsK w a n ks) (hn : n ≤ 9223372036854775807) (hk : ∀ k ∈ ks, KeyOk k) :
    Calls Try.prog 39 #[.slice a n cap] w fun e w' => e = .returned (.int .i64 (goodK ks)) ∧ Below w.heap.size w w' := by
  have hl := hh.len
  by_cases h5 : n ≤ 5
  case neg =>
    rw [goodK_long (by omega)]
    go_enter Try.func39, Try.ntmps39
    go_wp2_with fail
    go_ret
    exact ⟨rfl, Below.refl _ _⟩
  go_enter Try.func39, Try.ntmps39
  go_wp2_with fail
  go_loopw [11] (fun iv wr => ∃ j : Nat, j ≤ n ∧ iv = .int .i64 j ∧ Hid (∀ t ∈ ks.take j, mayK t) ∧ Hid (Below w.heap.size w wr)) (fun iv _ => n - (intOf iv).toNat)
  case atStart => exact ⟨0, by omega, rfl, Lib.hid (by simp), Lib.hid (Below.refl _ _)⟩
  case round =>
    obtain ⟨j, hj, rfl, hS, hB⟩ := hrel
    by_cases hlt : j < n
    · obtain ⟨b, o, rfl, hc⟩ := (hh.below hB.out).at (by omega)
      obtain ⟨e1, e2⟩ := hc j hlt
      have hmem := getD_memK ks j (by omega)
      have htk := take_succ_getD ks k0 j (by omega)
      obtain ⟨x, hx⟩ : ∃ x, ks.getD j k0 = x := ⟨_, rfl⟩
      rw [hx] at e1 e2 hmem htk
      have HX := Lib.hid (hk x hmem); have HM := Lib.hid hmem; have HT := Lib.hid htk
      clear hx hmem htk hc
      by_cases hw : mayK x
      · have HW := Lib.hid hw
        have C := Lib.hid (fun w => may_lit x true HX.out (decide_eq_true hw) w)
        unfold keyV at C
        clear hw
        go_wp2_with fail
        refine (C.out _).mono ?_
        rintro e w2 ⟨rfl, hb2⟩
        have B2 := Lib.hid (hB.out.trans (((below_one wr _).trans (hb2.mono (by simp))).mono hB.out.size))
        clear hb2
        go_wp2_with fail
        go_roundw
        case rel => exact ⟨j + 1, by omega, by go_num, Lib.hid (by rw [HT.out]; intro z hz; rcases List.mem_append.1 hz with hz | hz; exact hS.out z hz; simp at hz; rw [hz]; exact HW.out), B2⟩
        case measure => simp [intOf]; omega
      · have C := Lib.hid (fun w => may_lit x false HX.out (decide_eq_false hw) w)
        unfold keyV at C
        have HG := Lib.hid (goodK_bad (by omega) x HM.out hw)
        clear hw
        go_wp2_with fail
        refine (C.out _).mono ?_
        rintro e w2 ⟨rfl, hb2⟩
        have B2 := Lib.hid (hB.out.trans (((below_one wr _).trans (hb2.mono (by simp))).mono hB.out.size))
        clear hb2
        go_wp2_with fail
        go_ret
        exact ⟨ret_int HG.out.symm, B2.out⟩
    · have hjn : ks.take j = ks := List.take_of_length_le (by omega)
      have hwd := hS.out
      rw [hjn] at hwd
      have HW := Lib.hid hwd
      have hB1 := hB
      clear hjn hwd hS hB
      go_wp2_with fail
      go_loopw [5] (fun iv wr2 => ∃ i : Nat, 1 ≤ i ∧ i ≤ n + 1 ∧ iv = .int .i64 i ∧ Hid (∀ k, k + 1 < i → k + 1 < n → ordK (ks.getD k k0) (ks.getD (k + 1) k0) < 0) ∧ Hid (Below w.heap.size w wr2)) (fun iv _ => n + 1 - (intOf iv).toNat)
      case atStart => exact ⟨1, by omega, by omega, rfl, Lib.hid (fun k h1 => by omega), hB1⟩
      case round =>
        obtain ⟨i, hi1, hi2, rfl, hS, hB⟩ := hrel
        by_cases hlt2 : i < n
        · obtain ⟨b, o, rfl, hc⟩ := (hh.below hB.out).at (by omega)
          obtain ⟨q, hq⟩ : ∃ q, q = i - 1 := ⟨_, rfl⟩
          have hqi : q + 1 = i := by omega
          obtain ⟨e3, e4⟩ := hc i hlt2
          obtain ⟨e1, e2⟩ := hc q (by omega)
          obtain ⟨x, hx⟩ : ∃ x, ks.getD q k0 = x := ⟨_, rfl⟩
          obtain ⟨y, hy⟩ : ∃ y, ks.getD i k0 = y := ⟨_, rfl⟩
          rw [hx] at e1 e2; rw [hy] at e3 e4
          have HX := Lib.hid hx; have HY := Lib.hid hy; have HQ := Lib.hid hqi
          have T := Lib.hid (show Two4 wr b (o + q * 2) (o + i * 2) x y wr from ⟨Below.refl _ _, e1, e2, e3, e4⟩)
          have hr : IntKind.i64.wrap ((i : Int) - 1) = (q : Int) := by rw [IntWalk.i64_in _ (by omega)]; omega
          have g1 : (0 : Int) ≤ (q : Int) := by omega
          have g2 : (q : Int) < (n : Int) := by omega
          have g3 : (0 : Int) ≤ (i : Int) := by omega
          have g4 : (i : Int) < (n : Int) := by omega
          have bs := hB.out.size
          clear hx hy hc hq hqi e1 e2 e3 e4
          by_cases hvn : ordK x y < 0
          · have C := Lib.hid (fun w => pless_lit x y true (decide_eq_true hvn) w)
            unfold keyV at C
            have HV := Lib.hid hvn
            clear hvn
            go_upto_region 12 with fail
            go_region_held3 (fun w' => Below wr.heap.size wr w' ∧ w'.cell? ⟨b, o + q * 2, none⟩ = some (.int .i64 x.1) ∧ w'.cell? ⟨b, o + q * 2 + 1, none⟩ = some (.string x.2) ∧ w'.cell? ⟨b, o + i * 2, none⟩ = some (.int .i64 y.1) ∧ w'.cell? ⟨b, o + i * 2 + 1, none⟩ = some (.string y.2))
              (first | assumption | exact two4_carry T.out (below_drewN wr _) | exact two4_carry T.out (Below.refl _ _).drew | exact two4_carry (by assumption) (by assumption))
              (first | (go_at_call 59; refine (C.out _).mono ?_; rintro e w' ⟨rfl, hb⟩))
            rename_i T5
            obtain ⟨hb5, -⟩ := T5
            go_wp2_with fail
            go_roundw
            case rel =>
              refine ⟨i + 1, by omega, by omega, by go_num, Lib.hid (fun k h1 h2 => ?_), Lib.hid (hB.out.trans (hb5.mono bs))⟩
              by_cases hk2 : k = q
              · subst hk2; rw [HX.out, HQ.out, HY.out]; exact HV.out
              · exact hS.out k (by have := HQ.out; omega) h2
            case measure => simp [intOf]; omega
          · have C := Lib.hid (fun w => pless_lit x y false (decide_eq_false hvn) w)
            unfold keyV at C
            have hg := goodK_sort (by omega) HW.out (fun hs => hvn (by have := (adjK_iff ks).1 hs q (by have := HQ.out; omega); rw [HX.out, HQ.out, HY.out] at this; exact this))
            have HG := Lib.hid hg
            clear hg hvn
            go_upto_region 12 with fail
            go_region_held3 (fun w' => Below wr.heap.size wr w' ∧ w'.cell? ⟨b, o + q * 2, none⟩ = some (.int .i64 x.1) ∧ w'.cell? ⟨b, o + q * 2 + 1, none⟩ = some (.string x.2) ∧ w'.cell? ⟨b, o + i * 2, none⟩ = some (.int .i64 y.1) ∧ w'.cell? ⟨b, o + i * 2 + 1, none⟩ = some (.string y.2))
              (first | assumption | exact two4_carry T.out (below_drewN wr _) | exact two4_carry T.out (Below.refl _ _).drew | exact two4_carry (by assumption) (by assumption))
              (first | (go_at_call 59; refine (C.out _).mono ?_; rintro e w' ⟨rfl, hb⟩))
            rename_i T5
            obtain ⟨hb5, -⟩ := T5
            go_wp2_with fail
            go_ret
            exact ⟨ret_int HG.out.symm, hB.out.trans (hb5.mono bs)⟩
        · have hg := goodK_of (l := ks) (by omega) HW.out ((adjK_iff ks).2 fun k hk => hS.out k (by omega) (by omega))
          have HG := Lib.hid hg
          clear hg
          go_wp2_with fail
          go_ret
          exact ⟨ret_int HG.out.symm, hB.out⟩
theorem pgood_lit (a : Option Addr) (n cap : Nat) (ks : List KV) (v : Int) (w : World) (hh : HoldsK w a n ks) (hn : n ≤ 9223372036854775807) (hk : ∀ k ∈ ks, KeyOk k) (hv : goodK ks = v) :
    Calls Try.prog 39 #[.slice a n cap] w fun e w' => e = .returned (.int .i64 v) ∧ Below w.heap.size w w' := by subst hv; exact pgood_any a n cap ks w hh hn hk
end Go.Proofs.Ytbimbgcejeeinaa
/- contract of GreatTexts -/
namespace Go.Proofs.Ytbimbgcejeeinaa
open Go.RowKit
set_option linter.unusedVariables false
set_option maxRecDepth 20000
theorem getD_memT (zs : List Tx) (j : Nat) (h : j < zs.length) : zs.getD j ByteArray.empty ∈ zs := by
  rw [List.getD_eq_getElem?_getD, List.getElem?_eq_getElem h]; simp
def smallP (ts : List Tx) : Prop := ∀ t ∈ ts, t.size ≤ 100
def greatB (ts : List Tx) : Bool := decide (80 < ts.length ∨ ∃ t ∈ ts, 100 < t.size)
theorem great_yes {ts : List Tx} (h : 80 < ts.length ∨ ∃ t ∈ ts, 100 < t.size) : greatB ts = true := decide_eq_true h
theorem great_no {ts : List Tx} (h1 : ts.length ≤ 80) (h2 : smallP ts) : greatB ts = false := by
  refine decide_eq_false ?_
  rintro (h | ⟨t, ht, h⟩)
  · omega
  · have := h2 t ht; omega
theorem great_no_iff {ts : List Tx} : greatB ts = false ↔ ts.length ≤ 80 ∧ smallP ts := by
  constructor
  · intro h
    have h' := of_decide_eq_false h
    refine ⟨Nat.le_of_not_lt fun k => h' (Or.inl k), fun t ht => Nat.le_of_not_lt fun k => h' (Or.inr ⟨t, ht, k⟩)⟩
  · rintro ⟨h1, h2⟩; exact great_no h1 h2
set_option maxHeartbeats 800000 in
theorem great_any (a : Option Addr) (n cap : Nat) (ts : List Tx) (w : World) (hh : HoldsT w a n ts) (hn : n ≤ 9223372036854775807) (hsz : ∀ t ∈ ts, t.size ≤ 9223372036854775807) :
    Calls Try.prog 32 #[.slice a n cap] w fun e w' => e = .returned (.bool (greatB ts)) ∧ Below w.heap.size w w' := by
  have hl := hh.len
  by_cases h80 : n ≤ 80
  case neg =>
    rw [great_yes (Or.inl (by omega))]
    go_enter Try.func32, Try.ntmps32
    go_wp2_with fail
    go_loopw [3] (fun iv wr => iv = .int .i64 0 ∧ wr = w) (fun _ _ => 0)
    case atStart => exact ⟨rfl, rfl⟩
    case round =>
      obtain ⟨rfl, rfl⟩ := hrel
      go_wp2_with fail
      go_ret
      exact ⟨rfl, Below.refl _ _⟩
  go_enter Try.func32, Try.ntmps32
  go_wp2_with fail
  go_loopw [3] (fun iv wr => ∃ j : Nat, j ≤ n ∧ iv = .int .i64 j ∧ Hid (smallP (ts.take j)) ∧ Hid (Below w.heap.size w wr)) (fun iv _ => n - (intOf iv).toNat)
  case atStart => exact ⟨0, by omega, rfl, Lib.hid (by simp [smallP]), Lib.hid (Below.refl _ _)⟩
  case round =>
    obtain ⟨j, hj, rfl, hS, hB⟩ := hrel
    by_cases hlt : j < n
    · obtain ⟨b, o, rfl, hc⟩ := (hh.below hB.out).at (by omega)
      have e1 := hc j hlt
      have hmem := getD_memT ts j (by omega)
      have htk := take_succ_getD ts ByteArray.empty j (by omega)
      obtain ⟨x, hx⟩ : ∃ x, ts.getD j ByteArray.empty = x := ⟨_, rfl⟩
      rw [hx] at e1 hmem htk
      have hxs := hsz x hmem
      have HM := Lib.hid hmem; have HT := Lib.hid htk
      clear hx hmem htk hc
      by_cases hg : 100 < x.size
      · have hgr := great_yes (ts := ts) (Or.inr ⟨x, HM.out, hg⟩)
        have HG := Lib.hid hgr
        clear hgr
        go_wp2_with fail
        go_ret
        exact ⟨ret_bool HG.out.symm, hB.out⟩
      · go_wp2_with fail
        go_roundw
        case rel => exact ⟨j + 1, by omega, by go_num, Lib.hid (by rw [HT.out]; intro z hz; rcases List.mem_append.1 hz with hz | hz; exact hS.out z hz; simp at hz; rw [hz]; omega), hB⟩
        case measure => simp [intOf]; omega
    · have hjn : ts.take j = ts := List.take_of_length_le (by omega)
      have hgr := great_no (ts := ts) (by omega) (by have := hS.out; rw [hjn] at this; exact this)
      have HG := Lib.hid hgr
      clear hjn hgr
      go_wp2_with fail
      go_ret
      exact ⟨ret_bool (by rw [HG.out, decide_eq_false_iff_not]; omega), hB.out⟩
end Go.Proofs.Ytbimbgcejeeinaa
/- contract of great (keys) -/
namespace Go.Proofs.Ytbimbgcejeeinaa
open Go.RowKit
set_option linter.unusedVariables false
set_option maxRecDepth 20000
def greatK (ks : List KV) : Bool := decide (10 < ks.length ∨ ∃ k ∈ ks, 100 < k.2.size)
theorem greatK_yes {ks : List KV} (h : 10 < ks.length ∨ ∃ k ∈ ks, 100 < k.2.size) : greatK ks = true := decide_eq_true h
theorem greatK_no {ks : List KV} (h1 : ks.length ≤ 10) (h2 : ∀ k ∈ ks, k.2.size ≤ 100) : greatK ks = false := by
  refine decide_eq_false ?_
  rintro (h | ⟨t, ht, h⟩)
  · omega
  · have := h2 t ht; omega
theorem greatK_no_iff {ks : List KV} : greatK ks = false ↔ ks.length ≤ 10 ∧ ∀ k ∈ ks, k.2.size ≤ 100 := by
  constructor
  · intro h
    have h' := of_decide_eq_false h
    refine ⟨Nat.le_of_not_lt fun k => h' (Or.inl k), fun t ht => Nat.le_of_not_lt fun k => h' (Or.inr ⟨t, ht, k⟩)⟩
  · rintro ⟨h1, h2⟩; exact greatK_no h1 h2
abbrev confV (a : Option Addr) (n cap : Nat) : Array Value := #[.slice none 0 0, .slice a n cap, .int .i64 0, .int .i64 0, .int .i64 0, .int .i64 0, .int .i64 0, .int .i64 0, .int .i64 0, .int .i64 0, .int .i64 0, .int .i64 0]
set_option maxHeartbeats 1600000 in
theorem gconf_any (a : Option Addr) (n cap : Nat) (ks : List KV) (w : World) (hh : HoldsK w a n ks) (hn : n ≤ 9223372036854775807) (hk : ∀ k ∈ ks, KeyOk k) :
    Calls Try.prog 7 #[.agg #[.slice none 0 0, .slice a n cap, .int .i64 0, .int .i64 0, .int .i64 0, .int .i64 0, .int .i64 0, .int .i64 0, .int .i64 0, .int .i64 0, .int .i64 0, .int .i64 0]] w fun e w' => e = .returned (.bool (greatK ks)) ∧ Below w.heap.size w w' := by
  have hl := hh.len
  obtain ⟨gv, hgv⟩ : ∃ g, greatK ks = g := ⟨_, rfl⟩
  rw [hgv]
  have HG := Lib.hid hgv
  clear hgv
  have GT := Lib.hid (fun w => great_any none 0 0 [] w (HoldsT.nil _ _) (by omega) (by simp))
  rw [great_no (ts := []) (by simp) (by simp [smallP])] at GT
  have BB := Lib.hid (below_one w (.cells #[.slice none 0 0, .slice a n cap, .int .i64 0, .int .i64 0, .int .i64 0, .int .i64 0, .int .i64 0, .int .i64 0, .int .i64 0, .int .i64 0, .int .i64 0, .int .i64 0] 25))
  have e0 : (w.alloc (.cells #[.slice none 0 0, .slice a n cap, .int .i64 0, .int .i64 0, .int .i64 0, .int .i64 0, .int .i64 0, .int .i64 0, .int .i64 0, .int .i64 0, .int .i64 0, .int .i64 0] 25)).cell? ⟨w.heap.size, 0, none⟩ = some (.slice none 0 0) := by simp
  have e1 : (w.alloc (.cells #[.slice none 0 0, .slice a n cap, .int .i64 0, .int .i64 0, .int .i64 0, .int .i64 0, .int .i64 0, .int .i64 0, .int .i64 0, .int .i64 0, .int .i64 0, .int .i64 0] 25)).cell? ⟨w.heap.size, 1, none⟩ = some (.slice a n cap) := by simp
  go_enter Try.func7, Try.ntmps7
  go_wp2_with fail
  generalize w.alloc (.cells #[.slice none 0 0, .slice a n cap, .int .i64 0, .int .i64 0, .int .i64 0, .int .i64 0, .int .i64 0, .int .i64 0, .int .i64 0, .int .i64 0, .int .i64 0, .int .i64 0] 25) = w1 at *
  have H1 := Lib.hid (hh.below BB.out)
  obtain ⟨blk, hblk⟩ : ∃ blk, w.heap.size = blk := ⟨_, rfl⟩
  have HBK := Lib.hid hblk
  rw [hblk] at e0 e1 ⊢
  have C1 := Lib.hid (fun (w3 : World) (hb : Below w1.heap.size w1 w3) => show w3.cell? ⟨blk, 1, none⟩ = some (.slice a n cap) from (hb.cell (p := ⟨blk, 1, none⟩) (lt_of_cell e1)).trans e1)
  clear hblk hh
  by_cases h10 : n ≤ 10
  case neg =>
    have hg : gv = true := by rw [← HG.out]; exact greatK_yes (Or.inl (by omega))
    subst hg
    have g1 : decide ((n : Int) ≤ 10) = false := by rw [decide_eq_false_iff_not]; omega
    go_loop [3] (fun iv => iv = .int .i64 0) (fun _ => 0)
    case atStart => rfl
    case round =>
      obtain rfl := hrel
      go_wp2_with fail
      refine (GT.out _).mono ?_
      rintro e w2 ⟨rfl, hb2⟩
      have e2 := C1.out w2 hb2
      go_wp2_with fail
      go_ret
      exact ⟨ret_bool (by rw [decide_eq_true_iff]; omega), BB.out.trans (by rw [HBK.out]; exact hb2.mono (by have := BB.out.size; have := HBK.out; omega))⟩
  go_loop [3] (fun iv => ∃ j : Nat, j ≤ n ∧ iv = .int .i64 j ∧ Hid (∀ k ∈ ks.take j, k.2.size ≤ 100)) (fun iv => n - (intOf iv).toNat)
  case atStart => exact ⟨0, by omega, rfl, Lib.hid (by simp)⟩
  case round =>
    obtain ⟨j, hj, rfl, hS⟩ := hrel
    have g1 : decide ((n : Int) ≤ 10) = true := by rw [decide_eq_true_iff]; omega
    by_cases hlt : j < n
    · obtain ⟨b, o, rfl, hc⟩ := H1.out.at (by omega)
      obtain ⟨e3, e4⟩ := hc j hlt
      have hmem := getD_memK ks j (by omega)
      have htk := take_succ_getD ks k0 j (by omega)
      obtain ⟨x, hx⟩ : ∃ x, ks.getD j k0 = x := ⟨_, rfl⟩
      rw [hx] at e3 e4 hmem htk
      have hxs := (hk x hmem).2
      have HM := Lib.hid hmem; have HT := Lib.hid htk
      clear hx hmem htk hc
      by_cases hg : 100 < x.2.size
      · have hgt : gv = true := by rw [← HG.out]; exact greatK_yes (Or.inr ⟨x, HM.out, hg⟩)
        subst hgt
        go_wp2_with fail
        go_ret
        exact ⟨rfl, BB.out⟩
      · go_wp2_with fail
        go_round
        case rel => exact ⟨j + 1, by omega, by go_num, Lib.hid (by rw [HT.out]; intro z hz; rcases List.mem_append.1 hz with hz | hz; exact hS.out z hz; simp at hz; rw [hz]; omega)⟩
        case measure => simp [intOf]; omega
    · have hjn : ks.take j = ks := List.take_of_length_le (by omega)
      have hS2 := hS.out
      rw [hjn] at hS2
      have hg : gv = false := by rw [← HG.out]; exact greatK_no (by omega) hS2
      subst hg
      go_wp2_with fail
      refine (GT.out _).mono ?_
      rintro e w2 ⟨rfl, hb2⟩
      have e2 := C1.out w2 hb2
      go_wp2_with fail
      go_ret
      exact ⟨ret_bool (by rw [decide_eq_false_iff_not]; omega), BB.out.trans (by rw [HBK.out]; exact hb2.mono (by have := BB.out.size; have := HBK.out; omega))⟩
end Go.Proofs.Ytbimbgcejeeinaa
/- contract of list.Good -/
namespace Go.Proofs.Ytbimbgcejeeinaa
open Go.RowKit
set_option linter.unusedVariables false
set_option maxRecDepth 20000
theorem goodV_long {ts : List Tx} (h : 60 < ts.length) : goodV ts = 3 := by unfold goodV; rw [if_pos h]
theorem goodV_word {ts : List Tx} (h : ts.length ≤ 60) (t : Tx) (ht : t ∈ ts) (hw : ¬ wordP t) : goodV ts = 6 := by
  unfold goodV; rw [if_neg (by omega), if_pos ⟨t, ht, hw⟩]
theorem goodV_sort {ts : List Tx} (h : ts.length ≤ 60) (hw : ∀ t ∈ ts, wordP t) (hs : ¬ SortedS ts) : goodV ts = 7 := by
  unfold goodV; rw [if_neg (by omega), if_neg (fun ⟨t, ht, k⟩ => k (hw t ht)), if_neg hs]
theorem goodV_good {ts : List Tx} (h : ts.length ≤ 60) (hw : ∀ t ∈ ts, wordP t) (hs : SortedS ts) : goodV ts = 0 := by
  unfold goodV; rw [if_neg (by omega), if_neg (fun ⟨t, ht, k⟩ => k (hw t ht)), if_pos hs]
theorem word_bool {w : World} (s : Tx) (b : Bool) (hs : s.size ≤ 9223372036854775807) (hb : decide (wordP s) = b) :
    Calls Try.prog 57 #[.string s] w fun e w' => e = .returned (.bool b) ∧ Below w.heap.size w w' := by subst hb; exact word_any s w hs
set_option maxHeartbeats 1600000 in
theorem good_any' (a : Option Addr) (n cap : Nat) (ts : List Tx) (w : World) (hh : HoldsT w a n ts) (hn : n ≤ 9223372036854775807) (hsz : ∀ t ∈ ts, t.size ≤ 9223372036854775807) :
    Calls Try.prog 38 #[.slice a n cap] w fun e w' => e = .returned (.int .i64 (goodV ts)) ∧ Below w.heap.size w w' := by
  have hl := hh.len
  by_cases h60 : n ≤ 60
  case neg =>
    rw [goodV_long (by omega)]
    go_enter Try.func38, Try.ntmps38
    go_wp2_with fail
    go_ret
    exact ⟨rfl, Below.refl _ _⟩
  go_enter Try.func38, Try.ntmps38
  go_wp2_with fail
  go_loopw [11] (fun iv wr => ∃ j : Nat, j ≤ n ∧ iv = .int .i64 j ∧ Hid (∀ t ∈ ts.take j, wordP t) ∧ Hid (Below w.heap.size w wr)) (fun iv _ => n - (intOf iv).toNat)
  case atStart => exact ⟨0, by omega, rfl, Lib.hid (by simp), Lib.hid (Below.refl _ _)⟩
  case round =>
    obtain ⟨j, hj, rfl, hS, hB⟩ := hrel
    by_cases hlt : j < n
    · obtain ⟨b, o, rfl, hc⟩ := (hh.below hB.out).at (by omega)
      have e1 := hc j hlt
      have hmem := getD_memT ts j (by omega)
      have htk := take_succ_getD ts ByteArray.empty j (by omega)
      obtain ⟨x, hx⟩ : ∃ x, ts.getD j ByteArray.empty = x := ⟨_, rfl⟩
      rw [hx] at e1 hmem htk
      have HX := Lib.hid (hsz x hmem)
      have HM := Lib.hid hmem; have HT := Lib.hid htk
      clear hx hmem htk hc
      by_cases hw : wordP x
      · have hb := decide_eq_true hw
        have HW := Lib.hid hw; have HD := Lib.hid hb
        clear hw hb
        go_wp2_with fail
        refine (word_bool x true HX.out HD.out).mono ?_
        rintro e w2 ⟨rfl, hb2⟩
        go_wp2_with fail
        go_roundw
        case rel => exact ⟨j + 1, by omega, by go_num, Lib.hid (by rw [HT.out]; intro z hz; rcases List.mem_append.1 hz with hz | hz; exact hS.out z hz; simp at hz; rw [hz]; exact HW.out), Lib.hid (hB.out.trans (hb2.mono hB.out.size))⟩
        case measure => simp [intOf]; omega
      · have hb := decide_eq_false hw
        have hg := goodV_word (by omega) x HM.out hw
        have HD := Lib.hid hb; have HG := Lib.hid hg
        clear hw hb hg
        go_wp2_with fail
        refine (word_bool x false HX.out HD.out).mono ?_
        rintro e w2 ⟨rfl, hb2⟩
        go_wp2_with fail
        go_ret
        exact ⟨ret_int HG.out.symm, hB.out.trans (hb2.mono hB.out.size)⟩
    · have hjn : ts.take j = ts := List.take_of_length_le (by omega)
      have hwd := hS.out
      rw [hjn] at hwd
      have HW := Lib.hid hwd
      have hB1 := hB
      clear hjn hwd hS hB
      go_wp2_with fail
      go_loopw [5] (fun iv wr2 => ∃ i : Nat, 1 ≤ i ∧ i ≤ n + 1 ∧ iv = .int .i64 i ∧ Hid (∀ k, k + 1 < i → k + 1 < n → cmpS (ts.getD k ByteArray.empty) (ts.getD (k + 1) ByteArray.empty) < 0) ∧ Hid (Below w.heap.size w wr2)) (fun iv _ => n + 1 - (intOf iv).toNat)
      case atStart => exact ⟨1, by omega, by omega, rfl, Lib.hid (fun k h1 => by omega), hB1⟩
      case round =>
        obtain ⟨i, hi1, hi2, rfl, hS, hB⟩ := hrel
        by_cases hlt2 : i < n
        · obtain ⟨b, o, rfl, hc⟩ := (hh.below hB.out).at (by omega)
          have e1 := hc i hlt2
          have e2 := hc (i - 1) (by omega)
          have hci := hS.out
          obtain ⟨q, rfl⟩ : ∃ q, i = q + 1 := ⟨i - 1, by omega⟩
          simp only [Nat.add_sub_cancel] at e2
          obtain ⟨x, hx⟩ : ∃ x, ts.getD q ByteArray.empty = x := ⟨_, rfl⟩
          obtain ⟨y, hy⟩ : ∃ y, ts.getD (q + 1) ByteArray.empty = y := ⟨_, rfl⟩
          rw [hx] at e2; rw [hy] at e1
          have HX := Lib.hid hx; have HY := Lib.hid hy
          clear hx hy hc hci
          have hcmp := Lib.hid (fun w => compare_any x y w)
          have hbd := cmpS_bd x y
          obtain ⟨v, hv⟩ : ∃ v, cmpS x y = v := ⟨_, rfl⟩
          rw [hv] at hbd
          simp only [hv] at hcmp
          have HV := Lib.hid hv
          clear hv
          have hr : IntKind.i64.wrap (((q + 1 : Nat) : Int) - 1) = (q : Int) := by rw [IntWalk.i64_in _ (by omega)]; omega
          have hr2 : ((q + 1 : Nat) : Int) - 1 = (q : Int) := by omega
          have g1 : (q : Int) < (n : Int) := by omega
          have g2 : ((q + 1 : Nat) : Int) < (n : Int) := by omega
          by_cases hvn : v < 0
          · go_upto_region 12 with fail
            go_quiet ((go_at_call 45; exact Calls.quiet_of_same ((hcmp.out _).mono (fun _ _ h => ⟨h.1, h.2.symm⟩))))
            go_wp2_with fail
            go_roundw
            case rel =>
              refine ⟨q + 1 + 1, by omega, by omega, by go_num, Lib.hid (fun k h1 h2 => ?_), Lib.hid (hB.out.trans ((below_drewN _ _).mono hB.out.size))⟩
              by_cases hk : k = q
              · subst hk; rw [HX.out, HY.out, HV.out]; exact hvn
              · exact hS.out k (by omega) h2
            case measure => simp [intOf]; omega
          · have hg := goodV_sort (by omega) HW.out (fun hs => hvn (by have := (adj_iff ts).1 hs q (by omega); rw [HX.out, HY.out, HV.out] at this; exact this))
            have HG := Lib.hid hg
            clear hg
            go_upto_region 12 with fail
            go_quiet ((go_at_call 45; exact Calls.quiet_of_same ((hcmp.out _).mono (fun _ _ h => ⟨h.1, h.2.symm⟩))))
            go_wp2_with fail
            go_ret
            exact ⟨ret_int HG.out.symm, hB.out.trans ((below_drewN _ _).mono hB.out.size)⟩
        · have hg := goodV_good (by omega) HW.out ((adj_iff ts).2 fun k hk => hS.out k (by omega) (by omega))
          have HG := Lib.hid hg
          clear hg
          go_wp2_with fail
          go_ret
          exact ⟨ret_int HG.out.symm, hB.out⟩
end Go.Proofs.Ytbimbgcejeeinaa
/- what a call may turn: the blocks of a set, and new ones -/
namespace Go.Proofs.Ytbimbgcejeeinaa
open Go.RowKit
set_option linter.unusedVariables false
set_option maxRecDepth 20000
/-- apart from the blocks of F, and new ones, the world w' is as w was -/
structure Turn (F : Nat → Prop) (w w' : World) : Prop where
  os : w'.os = w.os
  tape : w'.tape = w.tape
  output : w'.output = w.output
  size : w.heap.size ≤ w'.heap.size
  block : ∀ k, k < w.heap.size → ¬ F k → w'.heap[k]? = w.heap[k]?
theorem Turn.refl (F : Nat → Prop) (w : World) : Turn F w w := ⟨rfl, rfl, rfl, Nat.le_refl _, fun _ _ _ => rfl⟩
theorem Turn.trans {F : Nat → Prop} {w w1 w2 : World} (h : Turn F w w1) (k : Turn F w1 w2) : Turn F w w2 :=
  ⟨k.os.trans h.os, k.tape.trans h.tape, k.output.trans h.output, Nat.le_trans h.size k.size, fun i hi hF => (k.block i (Nat.lt_of_lt_of_le hi h.size) hF).trans (h.block i hi hF)⟩
theorem Turn.mono {F G : Nat → Prop} {w w' : World} (h : Turn F w w') (hF : ∀ k, F k → G k) : Turn G w w' := ⟨h.os, h.tape, h.output, h.size, fun k hk hn => h.block k hk (fun x => hn (hF k x))⟩
/-- what was new in the first step may turn in the second -/
theorem Turn.trans' {F G : Nat → Prop} {w w1 w2 : World} (h : Turn F w w1) (k : Turn G w1 w2) (hG : ∀ i, G i → F i ∨ w.heap.size ≤ i) : Turn F w w2 :=
  ⟨k.os.trans h.os, k.tape.trans h.tape, k.output.trans h.output, Nat.le_trans h.size k.size, fun i hi hF => (k.block i (Nat.lt_of_lt_of_le hi h.size) (fun g => by rcases hG i g with x | x; exact hF x; omega)).trans (h.block i hi hF)⟩
theorem Turn.setCell {F : Nat → Prop} {w : World} {b o : Nat} {v : Value} (hb : F b) : Turn F w (w.setCell ⟨b, o, none⟩ v) :=
  ⟨rfl, rfl, rfl, by simp [World.setCell], fun k _ hk => Below.heap_setCell _ _ _ _ (fun e => hk (by rw [e]; exact hb))⟩
theorem Turn.alloc (F : Nat → Prop) (w : World) (o : Obj) : Turn F w (w.alloc o) := ⟨rfl, rfl, rfl, by simp, fun k hk _ => Below.heap_alloc _ _ _ hk⟩
theorem Turn.drewN (F : Nat → Prop) (w : World) (n : Nat) : Turn F w (w.drewN n) := by
  have h := below_drewN w n
  exact ⟨h.os, h.tape, h.output, h.size, fun k hk _ => h.block k hk⟩
theorem Turn.drew {F : Nat → Prop} {a w : World} (h : Turn F a w) : Turn F a w.drew := ⟨h.os, h.tape, h.output, h.size, h.block⟩
theorem Turn.of_below {F : Nat → Prop} {w w' : World} (h : Below w.heap.size w w') : Turn F w w' := ⟨h.os, h.tape, h.output, h.size, fun k hk _ => h.block k hk⟩
theorem Turn.below {F : Nat → Prop} {B : Nat} {w w' : World} (h : Turn F w w') (hF : ∀ k, F k → B ≤ k) (hB : B ≤ w.heap.size) : Below B w w' :=
  ⟨h.os, h.tape, h.output, h.size, fun k hk => h.block k (by omega) (fun x => by have := hF k x; omega)⟩
theorem Turn.cell {F : Nat → Prop} {w w' : World} (h : Turn F w w') {b o : Nat} (hb : b < w.heap.size) (hF : ¬ F b) : w'.cell? ⟨b, o, none⟩ = w.cell? ⟨b, o, none⟩ := World.cell?_of_block (w := w) (h.block b hb hF)
theorem Turn.frozen {F : Nat → Prop} {w w' : World} (h : Turn F w w') {b o : Nat} (hb : b < w.heap.size) (hF : ¬ F b) : w'.frozen? ⟨b, o, none⟩ = w.frozen? ⟨b, o, none⟩ := World.frozen?_of_block (w := w) (h.block b hb hF)
theorem cset_at {w : World} {b o : Nat} {u v : Value} (h : w.cell? ⟨b, o, none⟩ = some u) : (w.setCell ⟨b, o, none⟩ v).cell? ⟨b, o, none⟩ = some v := World.cell?_setCell_same _ _ _ h
theorem cset_ne {w : World} {b o p : Nat} {v : Value} (h : o ≠ p) : (w.setCell ⟨b, o, none⟩ v).cell? ⟨b, p, none⟩ = w.cell? ⟨b, p, none⟩ := World.cell?_setCell_other _ _ _ _ (by intro e; injection e; contradiction)
theorem cset_far {w : World} {b c o p : Nat} {v : Value} (h : b ≠ c) : (w.setCell ⟨b, o, none⟩ v).cell? ⟨c, p, none⟩ = w.cell? ⟨c, p, none⟩ := World.cell?_setCell_other _ _ _ _ (by intro e; injection e; contradiction)
theorem fset_any {w : World} {a : Addr} {v : Value} {p : Addr} : (w.setCell a v).frozen? p = w.frozen? p := by simp
theorem cell_alloc {w : World} {cs : Array Value} {T : TypeId} {B o : Nat} (hB : B = w.heap.size) : (w.alloc (.cells cs T)).cell? ⟨B, o, none⟩ = cs[o]? := by subst hB; simp
theorem cell_alloc_old {w : World} {o : Obj} {b p : Nat} (h : b < w.heap.size) : (w.alloc o).cell? ⟨b, p, none⟩ = w.cell? ⟨b, p, none⟩ := (below_one w o).cell (p := ⟨b, p, none⟩) h
theorem frozen_alloc {w : World} {cs : Array Value} {T : TypeId} {B o : Nat} (hB : B = w.heap.size) : (w.alloc (.cells cs T)).frozen? ⟨B, o, none⟩ = false := by subst hB; simp
end Go.Proofs.Ytbimbgcejeeinaa
/- place: a configuration by value; May -/
namespace Go.Proofs.Ytbimbgcejeeinaa
open Go.RowKit
set_option linter.unusedVariables false
set_option maxRecDepth 20000
/-- a configuration, and where its words and cuts lie -/
structure Cfg where
  wa : Option Addr
  wn : Nat
  wc : Nat
  ka : Option Addr
  kn : Nat
  kc : Nat
  W : Int
  C : Int
  S : Int
  B : Int
  L : Int
  H : Int
  F : Int
  P : Int
  J : Int
  N : Int
  ws : List Tx
  ks : List KV
def CfgOk (w : World) (c : Cfg) : Prop := HoldsT w c.wa c.wn c.ws ∧ (c.wa = none → c.wn = 0 ∧ c.wc = 0) ∧ c.wn ≤ c.wc ∧ c.wn ≤ 9223372036854775807 ∧ (∀ t ∈ c.ws, t.size ≤ 9223372036854775807) ∧ HoldsK w c.ka c.kn c.ks ∧ c.kn ≤ 9223372036854775807 ∧ ∀ k ∈ c.ks, KeyOk k
theorem CfgOk.below {w w' : World} {c : Cfg} (h : CfgOk w c) (hb : Below w.heap.size w w') : CfgOk w' c := ⟨h.1.below hb, h.2.1, h.2.2.1, h.2.2.2.1, h.2.2.2.2.1, h.2.2.2.2.2.1.below hb, h.2.2.2.2.2.2⟩
def CfgIn (w : World) (p : Nat) (c : Cfg) : Prop := w.cell? ⟨p, 0, none⟩ = some (.slice c.wa c.wn c.wc) ∧ w.cell? ⟨p, 1, none⟩ = some (.slice c.ka c.kn c.kc) ∧ w.cell? ⟨p, 2, none⟩ = some (.int .i64 c.W) ∧ w.cell? ⟨p, 3, none⟩ = some (.int .i64 c.C) ∧ w.cell? ⟨p, 4, none⟩ = some (.int .i64 c.S) ∧ w.cell? ⟨p, 5, none⟩ = some (.int .i64 c.B) ∧ w.cell? ⟨p, 6, none⟩ = some (.int .i64 c.L) ∧ w.cell? ⟨p, 7, none⟩ = some (.int .i64 c.H) ∧ w.cell? ⟨p, 8, none⟩ = some (.int .i64 c.F) ∧ w.cell? ⟨p, 9, none⟩ = some (.int .i64 c.P) ∧ w.cell? ⟨p, 10, none⟩ = some (.int .i64 c.J) ∧ w.cell? ⟨p, 11, none⟩ = some (.int .i64 c.N)
theorem CfgIn.of {w w' : World} {p : Nat} {c : Cfg} (h : CfgIn w p c) (e : ∀ i, w'.cell? ⟨p, i, none⟩ = w.cell? ⟨p, i, none⟩) : CfgIn w' p c := by
  unfold CfgIn at *
  rw [e, e, e, e, e, e, e, e, e, e, e, e]; exact h
theorem CfgIn.below {w w' : World} {p : Nat} {c : Cfg} (h : CfgIn w p c) (hb : Below w.heap.size w w') : CfgIn w' p c := h.of fun i => hb.cell (p := ⟨p, i, none⟩) (lt_of_cell h.1)
theorem cfgIn_new (w : World) (c : Cfg) (p : Nat) (e : TypeId) (fr : Nat × Nat) (hp : p = w.heap.size) : CfgIn (w.alloc (.cells #[.slice c.wa c.wn c.wc, .slice c.ka c.kn c.kc, .int .i64 c.W, .int .i64 c.C, .int .i64 c.S, .int .i64 c.B, .int .i64 c.L, .int .i64 c.H, .int .i64 c.F, .int .i64 c.P, .int .i64 c.J, .int .i64 c.N] e fr)) p c := by
  subst hp
  unfold CfgIn
  refine ⟨?_, ?_, ?_, ?_, ?_, ?_, ?_, ?_, ?_, ?_, ?_, ?_⟩ <;> (rw [World.cell?_alloc_mark]; rfl)
theorem pin_lit (n lo hi : Int) (c : Bool) (w : World) (h : decide (lo ≤ n ∧ n ≤ hi) = c) :
    Calls Try.prog 40 #[.int .i64 n, .int .i64 lo, .int .i64 hi] w fun e w' => e = .returned (.bool c) ∧ w = w' := by
  subst h
  go_enter Try.func40, Try.ntmps40
  go_wp2
  all_goals (go_ret; exact ⟨ret_bool (by simp; try omega), rfl⟩)
/-- may it be? -/
def Cfg.may (c : Cfg) : Bool := decide (goodV c.ws = 0) && (decide (goodK c.ks = 0) && (decide (1 ≤ c.W ∧ c.W ≤ 5) && (decide (1 ≤ c.C ∧ c.C ≤ min 3 c.W) && (decide (1 ≤ c.S ∧ c.S ≤ 4) && (decide (1 ≤ c.B ∧ c.B ≤ 5) && (decide (1 ≤ c.L ∧ c.L ≤ 1000) && (decide (1 ≤ c.H ∧ c.H ≤ 1000) && (decide (1 ≤ c.F ∧ c.F ≤ 10) && (decide (c.F ≤ c.P ∧ c.P ≤ 50) && (decide (0 ≤ c.J ∧ c.J ≤ 10) && (decide (8 ≤ c.N ∧ c.N ≤ 64))))))))))))
set_option maxHeartbeats 6400000 in
set_option maxRecDepth 100000 in
theorem may_cfg (c : Cfg) (z : Bool) (w : World) (h : CfgOk w c) (hz : c.may = z) :
    Calls Try.prog 14 #[.agg #[.slice c.wa c.wn c.wc, .slice c.ka c.kn c.kc, .int .i64 c.W, .int .i64 c.C, .int .i64 c.S, .int .i64 c.B, .int .i64 c.L, .int .i64 c.H, .int .i64 c.F, .int .i64 c.P, .int .i64 c.J, .int .i64 c.N]] w fun e w' => e = .returned (.bool z) ∧ Below w.heap.size w w' := by
  obtain ⟨v1, hv1⟩ : ∃ v, goodV c.ws = v := ⟨_, rfl⟩
  obtain ⟨v2, hv2⟩ : ∃ v, goodK c.ks = v := ⟨_, rfl⟩
  unfold Cfg.may at hz
  rw [hv1, hv2] at hz
  obtain ⟨z0, h0⟩ : ∃ z, decide (v1 = 0) = z := ⟨_, rfl⟩
  obtain ⟨z1, h1⟩ : ∃ z, decide (v2 = 0) = z := ⟨_, rfl⟩
  obtain ⟨z2, h2⟩ : ∃ z, decide (1 ≤ c.W ∧ c.W ≤ 5) = z := ⟨_, rfl⟩
  obtain ⟨z3, h3⟩ : ∃ z, decide (1 ≤ c.C ∧ c.C ≤ min 3 c.W) = z := ⟨_, rfl⟩
  obtain ⟨z4, h4⟩ : ∃ z, decide (1 ≤ c.S ∧ c.S ≤ 4) = z := ⟨_, rfl⟩
  obtain ⟨z5, h5⟩ : ∃ z, decide (1 ≤ c.B ∧ c.B ≤ 5) = z := ⟨_, rfl⟩
  obtain ⟨z6, h6⟩ : ∃ z, decide (1 ≤ c.L ∧ c.L ≤ 1000) = z := ⟨_, rfl⟩
  obtain ⟨z7, h7⟩ : ∃ z, decide (1 ≤ c.H ∧ c.H ≤ 1000) = z := ⟨_, rfl⟩
  obtain ⟨z8, h8⟩ : ∃ z, decide (1 ≤ c.F ∧ c.F ≤ 10) = z := ⟨_, rfl⟩
  obtain ⟨z9, h9⟩ : ∃ z, decide (c.F ≤ c.P ∧ c.P ≤ 50) = z := ⟨_, rfl⟩
  obtain ⟨z10, h10⟩ : ∃ z, decide (0 ≤ c.J ∧ c.J ≤ 10) = z := ⟨_, rfl⟩
  obtain ⟨z11, h11⟩ : ∃ z, decide (8 ≤ c.N ∧ c.N ≤ 64) = z := ⟨_, rfl⟩
  rw [h0, h1, h2, h3, h4, h5, h6, h7, h8, h9, h10, h11] at hz
  have HZ := Lib.hid hz
  have V1 := Lib.hid hv1; have V2 := Lib.hid hv2
  have H2 := Lib.hid h2
  have H3 := Lib.hid h3
  have H4 := Lib.hid h4
  have H5 := Lib.hid h5
  have H6 := Lib.hid h6
  have H7 := Lib.hid h7
  have H8 := Lib.hid h8
  have H9 := Lib.hid h9
  have H10 := Lib.hid h10
  have H11 := Lib.hid h11
  have e0 : (v1 == 0) = z0 := by rw [← h0]; rfl
  have e1 : (v2 == 0) = z1 := by rw [← h1]; rfl
  have OK := Lib.hid (h.below (below_one w (.cells #[.slice c.wa c.wn c.wc, .slice c.ka c.kn c.kc, .int .i64 c.W, .int .i64 c.C, .int .i64 c.S, .int .i64 c.B, .int .i64 c.L, .int .i64 c.H, .int .i64 c.F, .int .i64 c.P, .int .i64 c.J, .int .i64 c.N] 25)))
  have BX := Lib.hid (below_one w (.cells #[.slice c.wa c.wn c.wc, .slice c.ka c.kn c.kc, .int .i64 c.W, .int .i64 c.C, .int .i64 c.S, .int .i64 c.B, .int .i64 c.L, .int .i64 c.H, .int .i64 c.F, .int .i64 c.P, .int .i64 c.J, .int .i64 c.N] 25))
  have IN := Lib.hid (cfgIn_new w c w.heap.size 25 (0, 0) rfl)
  clear hz hv1 hv2 h0 h1 h2 h3 h4 h5 h6 h7 h8 h9 h10 h11 h
  go_enter Try.func14, Try.ntmps14
  go_wp2_with fail
  refine (good_any' c.wa c.wn c.wc c.ws _ OK.out.1 OK.out.2.2.2.1 OK.out.2.2.2.2.1).mono ?_
  rw [V1.out]
  rintro e w2 ⟨rfl, hb2⟩
  have I2 := Lib.hid (IN.out.below hb2)
  have OK2 := Lib.hid (OK.out.below hb2)
  have B2 := Lib.hid (BX.out.trans (hb2.mono BX.out.size))
  clear hb2
  have hI := I2.out
  unfold CfgIn at hI
  obtain ⟨i0, i1, i2, i3, i4, i5, i6, i7, i8, i9, i10, i11⟩ := hI
  cases z0
  · go_wp2_with fail
    go_ret
    exact ⟨by rw [← HZ.out]; rfl, B2.out⟩
  go_wp2_with fail
  refine (pgood_any c.ka c.kn c.kc c.ks _ OK2.out.2.2.2.2.2.1 OK2.out.2.2.2.2.2.2.1 OK2.out.2.2.2.2.2.2.2).mono ?_
  rw [V2.out]
  rintro e w3 ⟨rfl, hb3⟩
  have I3 := Lib.hid (I2.out.below hb3)
  have BZ := Lib.hid (B2.out.trans (hb3.mono B2.out.size))
  clear hb3 i0 i1 i2 i3 i4 i5 i6 i7 i8 i9 i10 i11
  have hI := I3.out
  unfold CfgIn at hI
  obtain ⟨i0, i1, i2, i3, i4, i5, i6, i7, i8, i9, i10, i11⟩ := hI
  cases z1
  · go_wp2_with fail
    go_ret
    exact ⟨by rw [← HZ.out]; rfl, BZ.out⟩
  go_wp2_with fail
  refine (pin_lit c.W 1 5 z2 _ H2.out).mono ?_
  rintro e w' ⟨rfl, rfl⟩
  cases z2
  · go_wp2_with fail
    go_ret
    exact ⟨by rw [← HZ.out]; rfl, BZ.out⟩
  go_wp2_with fail
  refine (pin_lit c.C 1 (min 3 c.W) z3 _ H3.out).mono ?_
  rintro e w' ⟨rfl, rfl⟩
  cases z3
  · go_wp2_with fail
    go_ret
    exact ⟨by rw [← HZ.out]; rfl, BZ.out⟩
  go_wp2_with fail
  refine (pin_lit c.S 1 4 z4 _ H4.out).mono ?_
  rintro e w' ⟨rfl, rfl⟩
  cases z4
  · go_wp2_with fail
    go_ret
    exact ⟨by rw [← HZ.out]; rfl, BZ.out⟩
  go_wp2_with fail
  refine (pin_lit c.B 1 5 z5 _ H5.out).mono ?_
  rintro e w' ⟨rfl, rfl⟩
  cases z5
  · go_wp2_with fail
    go_ret
    exact ⟨by rw [← HZ.out]; rfl, BZ.out⟩
  go_wp2_with fail
  refine (pin_lit c.L 1 1000 z6 _ H6.out).mono ?_
  rintro e w' ⟨rfl, rfl⟩
  cases z6
  · go_wp2_with fail
    go_ret
    exact ⟨by rw [← HZ.out]; rfl, BZ.out⟩
  go_wp2_with fail
  refine (pin_lit c.H 1 1000 z7 _ H7.out).mono ?_
  rintro e w' ⟨rfl, rfl⟩
  cases z7
  · go_wp2_with fail
    go_ret
    exact ⟨by rw [← HZ.out]; rfl, BZ.out⟩
  go_wp2_with fail
  refine (pin_lit c.F 1 10 z8 _ H8.out).mono ?_
  rintro e w' ⟨rfl, rfl⟩
  cases z8
  · go_wp2_with fail
    go_ret
    exact ⟨by rw [← HZ.out]; rfl, BZ.out⟩
  go_wp2_with fail
  refine (pin_lit c.P c.F 50 z9 _ H9.out).mono ?_
  rintro e w' ⟨rfl, rfl⟩
  cases z9
  · go_wp2_with fail
    go_ret
    exact ⟨by rw [← HZ.out]; rfl, BZ.out⟩
  go_wp2_with fail
  refine (pin_lit c.J 0 10 z10 _ H10.out).mono ?_
  rintro e w' ⟨rfl, rfl⟩
  cases z10
  · go_wp2_with fail
    go_ret
    exact ⟨by rw [← HZ.out]; rfl, BZ.out⟩
  go_wp2_with fail
  refine (pin_lit c.N 8 64 z11 _ H11.out).mono ?_
  rintro e w' ⟨rfl, rfl⟩
  cases z11
  · go_wp2_with fail
    go_ret
    exact ⟨by rw [← HZ.out]; rfl, BZ.out⟩
  go_wp2_with fail
  go_ret
  exact ⟨by rw [← HZ.out]; rfl, BZ.out⟩
end Go.Proofs.Ytbimbgcejeeinaa
/- awake of the laws of cuts -/
namespace Go.Proofs.Ytbimbgcejeeinaa
open Go.RowKit
set_option linter.unusedVariables false
set_option maxRecDepth 20000
abbrev tM : Tx := { data := #[109] }
abbrev tE0 : Tx := { data := #[] }
abbrev tZ : Tx := { data := #[122] }
abbrev tAA : Tx := { data := #[97, 97] }
abbrev tMMM : Tx := { data := #[109, 109, 109] }
def pairL : List KV := [(2, tE0), (3, tM)]
theorem cmpS_dataK (a b : Tx) : cmpS a b = cmpL a.data.toList b.data.toList := by unfold cmpS; rw [ByteArray.toList_eq, ByteArray.toList_eq]
theorem lzZ : lenS tZ = 1 := by decide
theorem lzAA : lenS tAA = 2 := by decide
theorem lzMMM : lenS tMMM = 3 := by decide
theorem lzM : lenS tM = 1 := by decide
theorem lzE : lenS tE0 = 0 := by decide
theorem caa : cmpS tAA tE0 = 1 := by rw [cmpS_dataK]; decide
theorem cmm : cmpS tMMM tM = 1 := by rw [cmpS_dataK]; decide
theorem of_z : ofZ pairL tZ = 0 := by
  have hw : wordP tZ := by decide
  simp [ofZ, hw, ofN, pairL, keyOf, List.findIdx_cons, ordK, lzZ]
theorem of_aa : ofZ pairL tAA = 1 := by
  have hw : wordP tAA := by decide
  simp [ofZ, hw, ofN, pairL, keyOf, List.findIdx_cons, ordK, lzAA, caa]
theorem of_mmm : ofZ pairL tMMM = 2 := by
  have hw : wordP tMMM := by decide
  simp [ofZ, hw, ofN, pairL, keyOf, List.findIdx_cons, ordK, lzMMM, cmm]
theorem may_pair : ∀ k ∈ pairL, mayK k := by
  intro k hk
  simp [pairL] at hk
  rcases hk with rfl | rfl <;> simp [mayK, lzE, lzM]
theorem lo_pair : loK pairL 1 = 2 := by simp [loK, pairL]
theorem hi_pair : hiK pairL 1 = 3 := by
  have h : tM ≠ ByteArray.empty := by intro h; have := congrArg ByteArray.size h; exact absurd this (by decide)
  unfold hiK
  rw [if_pos (show 1 < pairL.length by decide), if_neg (show ¬ (pairL.getD 1 k0).2 = ByteArray.empty from h)]
  rfl
theorem least_pair : leastK pairL 1 6 = 3 := by unfold leastK; rw [lo_pair, hi_pair]; decide
end Go.Proofs.Ytbimbgcejeeinaa
/- the laws of cuts: a greater key -/
namespace Go.Proofs.Ytbimbgcejeeinaa
open Go.RowKit
set_option linter.unusedVariables false
set_option maxRecDepth 20000
theorem findIdx_mono {α : Type} (p q : α → Bool) (h : ∀ x, q x = true → p x = true) : ∀ xs : List α, xs.findIdx p ≤ xs.findIdx q
  | [] => by simp
  | x :: xs => by
    rw [List.findIdx_cons, List.findIdx_cons]
    cases hq : q x with
    | true => simp [h x hq]
    | false =>
      cases hp : p x with
      | true => simp
      | false => simpa using findIdx_mono p q h xs
theorem ofN_mono (ks : List KV) {x y : KV} (h : ordK x y < 0) : ofN ks x ≤ ofN ks y :=
  findIdx_mono _ _ (fun c hc => by rw [decide_eq_true_iff] at *; exact ordK_trans h hc) ks
theorem ofZ_word {ks : List KV} {t : Tx} (h : wordP t) : ofZ ks t = ofN ks (keyOf t) := if_pos h
theorem lenl_any (t : Tx) (l : Int) (w : World) (ht : t.size ≤ 9223372036854775807) (hl : lenS t = l) :
    Calls Try.prog 86 #[.string t] w fun e w' => e = .returned (.int .i64 l) ∧ Below w.heap.size w w' := by subst hl; exact len_any t w ht
end Go.Proofs.Ytbimbgcejeeinaa
/- a list of texts that was answered -/
namespace Go.Proofs.Ytbimbgcejeeinaa
open Go.RowKit
set_option linter.unusedVariables false
set_option maxRecDepth 20000
theorem str_info : (Try.prog.info? 9).map (fun i => (i.zero, i.size, i.bytes)) = some (some (.string ⟨#[]⟩), 1, 16) := by kernel_rfl
theorem getD_memT' (zs : List Tx) (j : Nat) (h : j < zs.length) : zs.getD j ByteArray.empty ∈ zs := by
  rw [List.getD_eq_getElem?_getD, List.getElem?_eq_getElem h]; simp
/-- a list of texts that was answered, the call's own -/
def RetO (w : World) (ys : List Tx) (e : Ending) (w' : World) : Prop := ∃ a c, e = .returned (.slice a ys.length c) ∧ w'.ownsRow w.heap.size 9 1 (.slice a ys.length c) ys.length (strsV ys) ∧ Below w.heap.size w w'
theorem ret_own {w w' : World} {a : Option Addr} {c n : Nat} {ys zs : List Tx} (h : ys = zs) (hn : ys.length = n) (hh : w'.ownsRow w.heap.size 9 1 (.slice a n c) n (strsV ys)) (hb : Below w.heap.size w w') (v : Value) (hv : v = .slice a n c) : RetO w zs (.returned v) w' := by
  subst h hv hn; exact ⟨a, c, rfl, hh, hb⟩
end Go.Proofs.Ytbimbgcejeeinaa
/- contract of part.Slice -/
namespace Go.Proofs.Ytbimbgcejeeinaa
open Go.RowKit
set_option linter.unusedVariables false
set_option maxRecDepth 20000
def sliceS (ks : List KV) (ws : List Tx) (s : Nat) : List Tx := ws.filter fun t => decide (ofZ ks t = (s : Int))
theorem sliceS_yes (ks : List KV) (ws : List Tx) (s : Nat) (x : Tx) (h : ofZ ks x = (s : Int)) : sliceS ks (ws ++ [x]) s = sliceS ks ws s ++ [x] := by
  unfold sliceS; rw [List.filter_append]; simp [h]
theorem sliceS_no (ks : List KV) (ws : List Tx) (s : Nat) (x : Tx) (h : ¬ ofZ ks x = (s : Int)) : sliceS ks (ws ++ [x]) s = sliceS ks ws s := by
  unfold sliceS; rw [List.filter_append]; simp [h]
set_option maxHeartbeats 1600000 in
theorem slice_any (a : Option Addr) (n cap : Nat) (ks : List KV) (a1 : Option Addr) (n1 cap1 : Nat) (ws : List Tx) (s : Nat) (w : World) (hh : HoldsK w a n ks) (hh1 : HoldsT w a1 n1 ws) (hn : n ≤ 1000) (hn1 : n1 ≤ 1000) (hs : s ≤ 1000) (hsz : ∀ t ∈ ws, t.size ≤ 9223372036854775807) :
    Calls Try.prog 35 #[.slice a n cap, .slice a1 n1 cap1, .int .i64 s] w (RetO w (sliceS ks ws s)) := by
  obtain ⟨i0, hi, hz0, hz1, hz2⟩ := info_parts str_info
  have hl := hh1.len
  go_enter Try.func35, Try.ntmps35
  go_wp2_with fail
  go_loopw [7, 13] (fun ov iv wr => ∃ (j : Nat) (P : List Tx), j ≤ n1 ∧ P.length ≤ j ∧ iv = .int .i64 j ∧ Hid (P = sliceS ks (ws.take j) s) ∧ Hid (wr.ownsRow w.heap.size 9 1 ov P.length (strsV P)) ∧ Hid (Below w.heap.size w wr)) (fun _ iv _ => n1 - (intOf iv).toNat)
  case atStart => exact ⟨0, [], by omega, by simp, rfl, Lib.hid rfl, Lib.hid (World.ownsRow_nil _ _ _ _), Lib.hid (Below.refl _ _)⟩
  case round =>
    obtain ⟨j, P, hj, hPl, rfl, hP, hO, hB⟩ := hrel
    by_cases hlt : j < n1
    · have hcell := hh1.at (by omega)
      obtain ⟨bb, o, rfl, hc'⟩ := hcell
      have e0 := hc' j hlt
      have HC := Lib.hid (fun (w3 : World) (hb : Below w.heap.size w w3) => show w3.cell? ⟨bb, o + j, none⟩ = some (.string (ws.getD j ByteArray.empty)) from (hb.cell (p := ⟨bb, o + j, none⟩) (lt_of_cell e0)).trans e0)
      have hmem := getD_memT' ws j (by omega)
      have htk := take_succ_getD ws ByteArray.empty j (by omega)
      obtain ⟨x, hx⟩ : ∃ x, ws.getD j ByteArray.empty = x := ⟨_, rfl⟩
      rw [hx] at htk hmem
      simp only [hx] at HC
      have HT := Lib.hid htk
      have HX := Lib.hid (hsz x hmem)
      clear hx htk hc' e0 hmem
      have e1 := HC.out _ hB.out
      have H1 := Lib.hid (hh.below hB.out)
      obtain ⟨v, hv⟩ : ∃ v, ofZ ks x = v := ⟨_, rfl⟩
      have HV := Lib.hid hv
      by_cases hin : v = (s : Int)
      · subst hin
        have hls := sliceS_yes ks (ws.take j) s x hv
        rw [← HT.out, ← hP.out] at hls
        have HL := Lib.hid hls
        have g1 : decide ((s : Int) ≥ 0) = true := by rw [decide_eq_true_iff]; omega
        have g2 : ((s : Int) == (s : Int)) = true := by simp
        clear hls hv
        go_wp2_with fail
        refine (pof_lit a n cap ks x s wr H1.out (by omega) HX.out HV.out).mono ?_
        rintro e w2 ⟨rfl, hb2⟩
        have O2 := Lib.hid (owns_below hO.out hb2)
        have B2 := Lib.hid (hB.out.trans (hb2.mono hB.out.size))
        clear hb2 e1 hO hB
        go_wp2_with (at_builtin; refine wpList_append_any rfl (.tmp 27) (.tmp 29) 22 rfl w.heap.size 9 i0 (.string ⟨#[]⟩) 1 16 Try.underlying22 hi hz0 hz1 hz2 rfl (by decide) _ P.length _ rfl (O2.out.alloc _) _ 1 1 _ rfl (some_none _) rfl (one_new _ _ _ _) (one_str _) (by unfold maxLen; omega) (by omega) (by have := B2.out.size; simp; omega) ?_; intro a3 c3 w3 hown3 hb3 hnil3)
        rw [← strsV_snoc] at hown3
        have O3 := Lib.hid hown3
        have B3 := Lib.hid ((B2.out.alloc B2.out.size _).trans hb3)
        clear hown3 hb3 hnil3
        go_roundw
        case rel => exact ⟨j + 1, P ++ [x], by omega, by simp; omega, by go_num, Lib.hid HL.out.symm, Lib.hid (by have := O3.out; simpa using this), B3⟩
        case measure => simp [intOf]; omega
      · have hls := sliceS_no ks (ws.take j) s x (by rw [hv]; exact hin)
        rw [← HT.out, ← hP.out] at hls
        have HL := Lib.hid hls
        have g2 : (v == (s : Int)) = false := by simpa using hin
        clear hls hv
        go_wp2_with fail
        refine (pof_lit a n cap ks x v wr H1.out (by omega) HX.out HV.out).mono ?_
        rintro e w2 ⟨rfl, hb2⟩
        have O2 := Lib.hid (owns_below hO.out hb2)
        have B2 := Lib.hid (hB.out.trans (hb2.mono hB.out.size))
        clear hb2 e1 hO hB
        by_cases hv0 : v ≥ 0
        · have g1 : decide (v ≥ 0) = true := decide_eq_true hv0
          go_wp2_with fail
          go_roundw
          case rel => exact ⟨j + 1, P, by omega, by omega, by go_num, Lib.hid HL.out.symm, O2, B2⟩
          case measure => simp [intOf]; omega
        · have g1 : decide (v ≥ 0) = false := decide_eq_false hv0
          go_wp2_with fail
          go_roundw
          case rel => exact ⟨j + 1, P, by omega, by omega, by go_num, Lib.hid HL.out.symm, O2, B2⟩
          case measure => simp [intOf]; omega
    · have hjn : ws.take j = ws := List.take_of_length_le (by omega)
      have hP2 := hP.out
      rw [hjn] at hP2
      have HP := Lib.hid hP2
      clear hP hP2 hjn
      obtain ⟨a4, c4, rfl⟩ : ∃ a4 c4, u7 = .slice a4 P.length c4 := by
        rcases hO.out.2 with ⟨h, h0⟩ | ⟨g', c', cur, h, _⟩
        · exact ⟨none, 0, by rw [h, h0]⟩
        · exact ⟨_, c', h⟩
      go_wp2_with fail
      go_ret
      exact ret_own HP.out rfl hO.out hB.out _ rfl
end Go.Proofs.Ytbimbgcejeeinaa
/- contract of text.Asked -/
namespace Go.Proofs.Ytbimbgcejeeinaa
open Go.RowKit
set_option linter.unusedVariables false
set_option maxRecDepth 20000
end Go.Proofs.Ytbimbgcejeeinaa
/- Edit distances by a table: plain lemmas. -/
namespace Go.Proofs.Ytbimbgcejeeinaa
set_option linter.unusedVariables false
set_option maxRecDepth 20000
namespace Ed
def cost (x y : Int) : Int := if x = y then 0 else 1
theorem cost_bd (x y : Int) : 0 ≤ cost x y ∧ cost x y ≤ 1 := by unfold cost; split <;> omega
/-- the distance of the first i of a and the first j of b -/
def L (a b : List Int) : Nat → Nat → Int
  | 0, j => j
  | i + 1, 0 => (i : Int) + 1
  | i + 1, j + 1 => min (min (L a b i j + cost (a.getD i 0) (b.getD j 0)) (L a b (i + 1) j + 1)) (L a b i (j + 1) + 1)
/-- a row of the table turned into the next one, for the rune r -/
def adv (R : List Int) (a : List Int) (r : Int) : Nat → Int
  | 0 => R.getD 0 0 + 1
  | i + 1 => min (min (R.getD i 0 + cost (a.getD i 0) r) (R.getD (i + 1) 0 + 1)) (adv R a r i + 1)
/-- the row of the first j of b -/
def row (a b : List Int) (j : Nat) : List Int := (List.range (a.length + 1)).map fun i => L a b i j
theorem row_length (a b : List Int) (j : Nat) : (row a b j).length = a.length + 1 := by simp [row]
theorem row_getD (a b : List Int) (j i : Nat) (h : i ≤ a.length) : (row a b j).getD i 0 = L a b i j := by
  simp [row, List.getD_eq_getElem?_getD, show i < a.length + 1 by omega]
theorem adv_row (a b : List Int) (j i : Nat) (h : i ≤ a.length) : adv (row a b j) a (b.getD j 0) i = L a b i (j + 1) := by
  induction i with
  | zero => rw [adv, row_getD a b j 0 (by omega)]; simp only [L]; omega
  | succ i ih => rw [adv, row_getD a b j i (by omega), row_getD a b j (i + 1) h, ih (by omega)]; simp only [L]
/-- the first k + 1 of a row turned, the rest as it was -/
def mix (R : List Int) (a : List Int) (r : Int) (k : Nat) : List Int := (List.range R.length).map fun i => if i ≤ k then adv R a r i else R.getD i 0
theorem mix_length (R a : List Int) (r : Int) (k : Nat) : (mix R a r k).length = R.length := by simp [mix]
theorem mix_old (R a : List Int) (r : Int) (k i : Nat) (h : i < R.length) (hk : k < i) : (mix R a r k).getD i 0 = R.getD i 0 := by
  simp [mix, List.getD_eq_getElem?_getD, h, show ¬ i ≤ k by omega]
theorem mix_new (R a : List Int) (r : Int) (k i : Nat) (h : i < R.length) (hk : i ≤ k) : (mix R a r k).getD i 0 = adv R a r i := by
  simp [mix, List.getD_eq_getElem?_getD, h, hk]
theorem mix_set (R a : List Int) (r : Int) (k : Nat) (h : k + 1 < R.length) : (mix R a r k).set (k + 1) (adv R a r (k + 1)) = mix R a r (k + 1) := by
  apply List.ext_getElem
  · simp [mix]
  · intro i h1 h2
    rw [List.getElem_set]
    simp only [mix, List.getElem_map, List.getElem_range]
    by_cases e : k + 1 = i
    · subst e; simp
    · rw [if_neg e]
      by_cases h3 : i ≤ k
      · simp [h3, show i ≤ k + 1 by omega]
      · simp [h3, show ¬ i ≤ k + 1 by omega]
theorem mix_zero (R a : List Int) (r : Int) (h : 0 < R.length) : R.set 0 (R.getD 0 0 + 1) = mix R a r 0 := by
  apply List.ext_getElem
  · simp [mix]
  · intro i h1 h2
    rw [List.getElem_set]
    simp only [mix, List.getElem_map, List.getElem_range]
    by_cases e : 0 = i
    · subst e; simp [adv]
    · rw [if_neg e, if_neg (by omega)]
      have h3 : i < R.length := by simpa using h1
      simp [List.getD_eq_getElem?_getD, h3]
theorem mix_all (a b : List Int) (j : Nat) : mix (row a b j) a (b.getD j 0) a.length = row a b (j + 1) := by
  unfold mix
  rw [row_length]
  refine List.map_congr_left fun i hi => ?_
  have := List.mem_range.1 hi
  rw [if_pos (by omega), adv_row a b j i (by omega)]
theorem adv_bd (R a : List Int) (r M : Int) (hM : 0 ≤ M) (h : ∀ i, 0 ≤ R.getD i 0 ∧ R.getD i 0 ≤ M) (i : Nat) : 0 ≤ adv R a r i ∧ adv R a r i ≤ M + 1 := by
  induction i with
  | zero => have := h 0; simp only [adv]; omega
  | succ i ih => have h1 := h i; have h2 := h (i + 1); have h3 := cost_bd (a.getD i 0) r; simp only [adv]; omega
theorem L_bd (a b : List Int) : ∀ i j, 0 ≤ L a b i j ∧ L a b i j ≤ (i : Int) + j := by
  intro i
  induction i with
  | zero => intro j; simp only [L]; omega
  | succ i ih =>
    intro j
    induction j with
    | zero => simp only [L]; omega
    | succ j ihj => have h1 := ih j; have h2 := ih (j + 1); have h3 := cost_bd (a.getD i 0) (b.getD j 0); simp only [L]; omega
theorem row_bd (a b : List Int) (j : Nat) : ∀ i, 0 ≤ (row a b j).getD i 0 ∧ (row a b j).getD i 0 ≤ (a.length : Int) + j := by
  intro i
  by_cases h : i ≤ a.length
  · rw [row_getD a b j i h]; have := L_bd a b i j; omega
  · have : (row a b j).getD i 0 = 0 := by
      rw [List.getD_eq_getElem?_getD, List.getElem?_eq_none (by rw [row_length]; omega)]; rfl
    omega
end Ed
end Go.Proofs.Ytbimbgcejeeinaa
/- contracts of rows: the first row of a table, and a row turned into the next one -/
namespace Go.Proofs.Ytbimbgcejeeinaa
open Go.RowKit
set_option linter.unusedVariables false
set_option maxRecDepth 20000
def intsV (zs : List Int) : List Value := zs.map (Value.int .i64)
theorem int_info : (Try.prog.info? 3).map (fun i => (i.zero, i.size, i.bytes)) = some (some (.int .i64 0), 1, 8) := by kernel_rfl
theorem intsV_set (zs : List Int) (j : Nat) (x : Int) : (intsV zs).set j (.int .i64 x) = intsV (zs.set j x) := by simp [intsV, List.map_set]
theorem intsV_at (zs : List Int) (j : Nat) (h : j < zs.length) : (intsV zs)[j]? = some (.int .i64 (zs.getD j 0)) := by simp [intsV, List.getD_eq_getElem?_getD, h]
theorem intsV_one (zs : List Int) : ∀ u ∈ intsV zs, u.oneCell' = true := ints_oneCell _ _
/-- the numbers from 0 on, the first k; 0 behind them -/
def upTo (n k : Nat) : List Int := (List.range n).map fun i => if i < k then (i : Int) else 0
theorem upTo_set (n k : Nat) (h : k < n) : (upTo n k).set k (k : Int) = upTo n (k + 1) := by
  apply List.ext_getElem
  · simp [upTo]
  · intro i h1 h2
    rw [List.getElem_set]
    simp only [upTo, List.getElem_map, List.getElem_range]
    by_cases e : k = i
    · subst e; simp
    · rw [if_neg e]
      by_cases h3 : i < k
      · simp [h3, show i < k + 1 by omega]
      · simp [h3, show ¬ i < k + 1 by omega]
theorem upTo_zero (n : Nat) : intsV (upTo n 0) = List.replicate n (.int .i64 0) := by
  apply List.ext_getElem
  · simp [intsV, upTo]
  · intro i h1 h2; simp [intsV, upTo]
theorem upTo_row (a b : List Int) : upTo (a.length + 1) (a.length + 1) = Ed.row a b 0 := by
  unfold upTo Ed.row
  refine List.map_congr_left fun i hi => ?_
  have := List.mem_range.1 hi
  rw [if_pos (by omega)]
  cases i with
  | zero => simp only [Ed.L]
  | succ i => simp only [Ed.L]; omega
theorem upTo_length (n k : Nat) : (upTo n k).length = n := by simp [upTo]
end Go.Proofs.Ytbimbgcejeeinaa
/- contract of rows.Advance: a row of a table turned into the next one, in place -/
namespace Go.Proofs.Ytbimbgcejeeinaa
open Go.RowKit
set_option linter.unusedVariables false
set_option maxRecDepth 20000
theorem cost_eq (x : Int) : Ed.cost x x = 0 := by simp [Ed.cost]
theorem cost_ne {x y : Int} (h : x ≠ y) : Ed.cost x y = 1 := by simp [Ed.cost, h]
theorem store_grown (w : World) (g i : Nat) (v : Value) : w.grownBy (w.setCell ⟨g, i, none⟩ v) (some g) :=
  ⟨rfl, rfl, rfl, by simp [World.setCell], fun k _ hk => Below.heap_setCell _ _ _ _ (fun e => hk (by rw [e]))⟩
theorem grown_trans {a b c : World} {r : Option Nat} (h : a.grownBy b r) (k : b.grownBy c r) : a.grownBy c r :=
  ⟨k.os.trans h.os, k.tape.trans h.tape, k.output.trans h.output, Nat.le_trans h.size k.size, fun i hi hr => (k.block i (Nat.lt_of_lt_of_le hi h.size) hr).trans (h.block i hi hr)⟩
theorem own_val {w : World} {p : Addr} {base : Nat} {e : TypeId} {size : Nat} {v : Value} {n : Nat} {xs : List Value} {V x : Int} (h : (w.setCell p (.int .i64 V)).ownsRow base e size v n xs) (hx : x = V) : (w.setCell p (.int .i64 x)).ownsRow base e size v n xs := by
  rw [hx]; exact h
end Go.Proofs.Ytbimbgcejeeinaa
/- runes as values -/
namespace Go.Proofs.Ytbimbgcejeeinaa
open Go.RowKit
set_option linter.unusedVariables false
set_option maxRecDepth 20000
theorem i32_info : (Try.prog.info? 21).map (fun i => (i.zero, i.size, i.bytes)) = some (some (.int .i32 0), 1, 4) := by kernel_rfl
/-- runes as numbers, as values -/
def intsN (rs : List Nat) : List Int := rs.map fun r : Nat => (r : Int)
def runesV (rs : List Int) : List Value := rs.map (Value.int .i32)
/-- A slice of runes that the call made. -/
def RetR (ER : TypeId) (w : World) (rs : List Int) (a : Option Addr) (c : Nat) (w' : World) : Prop :=
  w'.ownsRow w.heap.size ER 1 (.slice a rs.length c) rs.length (runesV rs) ∧ Below w.heap.size w w' ∧ (a = none → rs.length = 0 ∧ c = 0)
theorem RetR.holds {ER : TypeId} {w w' : World} {rs : List Int} {a : Option Addr} {c : Nat} (h : RetR ER w rs a c w') : HoldsI .i32 w' a rs.length rs := by
  have hv := owns_holds h.1
  refine ⟨rfl, fun h0 => ?_⟩
  obtain ⟨b, o, ha, hc⟩ := hv.2 h0
  exact ⟨b, o, ha, fun i hi => by rw [hc i hi, runesV, getD_map_int .i32 rs i hi]⟩
theorem holdsR_values {w : World} {a : Option Addr} {n : Nat} {rs : List Int} (h : HoldsI .i32 w a n rs) : HoldsV w a n (runesV rs) := h.values
theorem runesV_snoc (P : List Nat) (r : Nat) : runesV (intsN (P ++ [r])) = runesV (intsN P) ++ [Value.int .i32 (r : Int)] := by simp [runesV, intsN]
theorem one_cells (w : World) (v : Value) (e : TypeId) (fr : Nat × Nat) : ∀ j u, [v][j]? = some u → (w.alloc (.cells #[v] e fr)).cell? ((⟨w.heap.size, 0, none⟩ : Addr).add j) = some u := one_new w v e fr _ rfl
theorem owns_iterAt {w : World} {base : Nat} {e : TypeId} {size : Nat} {v : Value} {n : Nat} {xs : List Value} (h : w.ownsRow base e size v n xs) {k : Nat} {s : ByteArray} {pos : Nat} (hk : w.heap[k]? = some (.stringIter s pos)) (pos' : Nat) :
    (w.iterAt k s pos').ownsRow base e size v n xs := by
  refine ⟨h.1, ?_⟩
  rcases h.2 with h0 | ⟨g, cap, cur, hv, hg, hh, r⟩
  · exact Or.inl h0
  · exact Or.inr ⟨g, cap, cur, hv, hg, by rw [Lib.iterAt_other w k g s pos' (fun e1 => by rw [e1, hk] at hh; cases hh)]; exact hh, r⟩
end Go.Proofs.Ytbimbgcejeeinaa
/- contract of text.Runes -/
namespace Go.Proofs.Ytbimbgcejeeinaa
open Go.RowKit
set_option linter.unusedVariables false
set_option maxRecDepth 20000
end Go.Proofs.Ytbimbgcejeeinaa
/- rows in memory: preliminaries -/
namespace Go.Proofs.Ytbimbgcejeeinaa
open Go.RowKit
set_option linter.unusedVariables false
set_option maxRecDepth 20000
theorem holdsI_lt {k : IntKind} {w : World} {a : Option Addr} {n : Nat} {zs : List Int} (h : HoldsI k w a n zs) : ∀ b o, 0 < n → a = some ⟨b, o, none⟩ → b < w.heap.size := by
  intro b o h0 ha
  obtain ⟨b2, o2, hb, hc⟩ := h.2 h0
  rw [ha] at hb
  injection hb with hb
  injection hb with hb1 hb2
  subst hb1
  have := hc 0 h0
  exact lt_of_cell this
/-- A row of distances that the call made. -/
def RetRow (w : World) (ra rb : List Int) (j : Nat) (g : Nat) (c : Nat) (w' : World) : Prop :=
  w'.ownsRow w.heap.size 3 1 (.slice (some ⟨g, 0, none⟩) (ra.length + 1) c) (ra.length + 1) (intsV (Ed.row ra rb j)) ∧ Below w.heap.size w w'
end Go.Proofs.Ytbimbgcejeeinaa
/- contract of edit.Distance -/
namespace Go.Proofs.Ytbimbgcejeeinaa
open Go.RowKit
set_option linter.unusedVariables false
set_option maxRecDepth 20000
/-- the distance of two strings, or -1 -/
def distS (a b : ByteArray) : Int := if 0 ≤ lenS a ∧ 0 ≤ lenS b then Ed.L (intsN (runesS a)) (intsN (runesS b)) (runesS a).length (runesS b).length else -1
theorem intsN_length (P : List Nat) : (intsN P).length = P.length := by simp [intsN]
theorem intsN_at {s : ByteArray} {P Q : List Nat} {r : Nat} (h : runesS s = P ++ r :: Q) : (intsN (runesS s)).getD P.length 0 = (r : Int) := by
  rw [h]; simp [intsN, List.getD_eq_getElem?_getD]
end Go.Proofs.Ytbimbgcejeeinaa
/- Edit distances: lists that have no rune together, lists that have one; how much one step changes. -/
namespace Go.Proofs.Ytbimbgcejeeinaa
set_option linter.unusedVariables false
set_option maxRecDepth 20000
namespace Ed
theorem L_zero (a b : List Int) (i : Nat) : L a b i 0 = (i : Int) := by
  cases i with
  | zero => simp only [L]
  | succ i => simp only [L]; omega
theorem L_zeroL (a b : List Int) (j : Nat) : L a b 0 j = (j : Int) := by simp only [L]
theorem L_left (a b : List Int) (i j : Nat) : L a b (i + 1) j ≤ L a b i j + 1 := by
  cases j with
  | zero => rw [L_zero, L_zero]; omega
  | succ j => simp only [L]; omega
theorem L_right (a b : List Int) (i j : Nat) : L a b i (j + 1) ≤ L a b i j + 1 := by
  cases i with
  | zero => rw [L_zeroL, L_zeroL]; omega
  | succ i => simp only [L]; omega
theorem L_lefts (a b : List Int) (i j p : Nat) : L a b (i + p) j ≤ L a b i j + p := by
  induction p with
  | zero => simp
  | succ p ih => have := L_left a b (i + p) j; rw [← Nat.add_assoc]; omega
theorem L_rights (a b : List Int) (i j p : Nat) : L a b i (j + p) ≤ L a b i j + p := by
  induction p with
  | zero => simp
  | succ p ih => have := L_right a b i (j + p); rw [← Nat.add_assoc]; omega
theorem L_apart (a b : List Int) (h : ∀ i j, i < a.length → j < b.length → a.getD i 0 ≠ b.getD j 0) : ∀ i j, i ≤ a.length → j ≤ b.length → L a b i j = ((max i j : Nat) : Int) := by
  intro i
  induction i with
  | zero => intro j _ _; rw [L_zeroL]; simp
  | succ i ih =>
    intro j hi
    induction j with
    | zero => intro _; rw [L_zero]; simp
    | succ j ihj =>
      intro hj
      have h1 := ih j (by omega) (by omega)
      have h2 := ih (j + 1) (by omega) hj
      have h3 := ihj (by omega)
      have hc : cost (a.getD i 0) (b.getD j 0) = 1 := by unfold cost; rw [if_neg (h i j (by omega) (by omega))]
      simp only [L]
      rw [h1, h2, h3, hc]
      omega
theorem L_meet (a b : List Int) (i j : Nat) (hi : i < a.length) (hj : j < b.length) (h : a.getD i 0 = b.getD j 0) : L a b a.length b.length < (a.length : Int) + b.length := by
  have h1 : L a b (i + 1) (j + 1) ≤ L a b i j := by
    have hc : cost (a.getD i 0) (b.getD j 0) = 0 := by unfold cost; rw [if_pos h]
    simp only [L]; rw [hc]; omega
  have h2 := L_bd a b i j
  have h3 := L_lefts a b (i + 1) (j + 1) (a.length - (i + 1))
  have h4 := L_rights a b a.length (j + 1) (b.length - (j + 1))
  rw [show i + 1 + (a.length - (i + 1)) = a.length by omega] at h3
  rw [show j + 1 + (b.length - (j + 1)) = b.length by omega] at h4
  omega
end Ed
end Go.Proofs.Ytbimbgcejeeinaa
/- Edit distances are a metric. -/
namespace Go.Proofs.Ytbimbgcejeeinaa
set_option linter.unusedVariables false
set_option maxRecDepth 20000
namespace Ed
theorem cost_sym (x y : Int) : cost x y = cost y x := by
  unfold cost
  by_cases h : x = y
  · rw [if_pos h, if_pos h.symm]
  · rw [if_neg h, if_neg (fun e => h e.symm)]
theorem cost_tri (x y z : Int) : cost x z ≤ cost x y + cost y z := by
  unfold cost
  by_cases h : x = y
  · by_cases h2 : y = z
    · rw [if_pos h, if_pos h2, if_pos (h.trans h2)]; omega
    · rw [if_pos h, if_neg h2]; split <;> omega
  · rw [if_neg h]; split <;> split <;> omega
theorem L_sym (a b : List Int) : ∀ i j, L a b i j = L b a j i := by
  intro i
  induction i with
  | zero => intro j; rw [L_zeroL, L_zero]
  | succ i ih =>
    intro j
    induction j with
    | zero => rw [L_zero, L_zeroL]
    | succ j ihj =>
      have h1 := ih j; have h2 := ih (j + 1); have h3 := cost_sym (a.getD i 0) (b.getD j 0)
      simp only [L]
      rw [h1, h2, ihj, h3]
      omega
theorem L_low (a b : List Int) : ∀ (i j : Nat), (i : Int) - j ≤ L a b i j ∧ (j : Int) - i ≤ L a b i j := by
  intro i
  induction i with
  | zero => intro j; rw [L_zeroL]; omega
  | succ i ih =>
    intro j
    induction j with
    | zero => rw [L_zero]; omega
    | succ j ihj => have h1 := ih j; have h2 := ih (j + 1); have h3 := cost_bd (a.getD i 0) (b.getD j 0); simp only [L]; omega
theorem L_diag (a b : List Int) (i j : Nat) : L a b (i + 1) (j + 1) ≤ L a b i j + cost (a.getD i 0) (b.getD j 0) := by
  simp only [L]; omega
theorem L_up (a b : List Int) : ∀ i j, L a b i j ≤ ((max i j : Nat) : Int) := by
  intro i
  induction i with
  | zero => intro j; rw [L_zeroL]; omega
  | succ i ih =>
    intro j
    cases j with
    | zero => rw [L_zero]; omega
    | succ j => have h1 := ih j; have h2 := L_diag a b i j; have h3 := cost_bd (a.getD i 0) (b.getD j 0); omega
theorem L_same (a : List Int) : ∀ i, L a a i i = 0 := by
  intro i
  induction i with
  | zero => rw [L_zeroL]; rfl
  | succ i ih =>
    have h1 := L_diag a a i i
    have h2 := (L_bd a a (i + 1) (i + 1)).1
    have h3 : cost (a.getD i 0) (a.getD i 0) = 0 := by unfold cost; rw [if_pos rfl]
    omega
theorem L_none (a b : List Int) : ∀ i, L a b i i = 0 → ∀ t, t < i → a.getD t 0 = b.getD t 0 := by
  intro i
  induction i with
  | zero => intro _ t h; omega
  | succ i ih =>
    intro h t ht
    have h1 := L_bd a b i i; have h2 := L_bd a b (i + 1) i; have h3 := L_bd a b i (i + 1); have h4 := cost_bd (a.getD i 0) (b.getD i 0)
    simp only [L] at h
    have h5 : L a b i i = 0 := by omega
    have h6 : cost (a.getD i 0) (b.getD i 0) = 0 := by omega
    rcases Nat.lt_or_ge t i with h7 | h7
    · exact ih h5 t h7
    · obtain rfl : t = i := by omega
      unfold cost at h6
      split at h6
      · assumption
      · omega
theorem L_zero_iff (a b : List Int) : L a b a.length b.length = 0 ↔ a = b := by
  constructor
  · intro h
    have h1 := L_low a b a.length b.length
    have hl : a.length = b.length := by omega
    rw [← hl] at h
    have h2 := L_none a b a.length h
    apply List.ext_getElem hl
    intro i h3 h4
    have h5 := h2 i h3
    simpa [List.getD_eq_getElem?_getD, h3, h4] using h5
  · rintro rfl; exact L_same a _
theorem L_tri (a b c : List Int) : ∀ n i j k, i + j + k ≤ n → L a c i k ≤ L a b i j + L b c j k := by
  intro n
  induction n with
  | zero =>
    intro i j k h
    obtain rfl : i = 0 := by omega
    obtain rfl : j = 0 := by omega
    obtain rfl : k = 0 := by omega
    simp only [L]; omega
  | succ n ih =>
    intro i j k h
    cases i with
    | zero => rw [L_zeroL, L_zeroL]; have := L_low b c j k; omega
    | succ i =>
      cases k with
      | zero => rw [L_zero, L_zero]; have := L_low a b (i + 1) j; omega
      | succ k =>
        cases j with
        | zero => rw [L_zero, L_zeroL]; have := L_bd a c (i + 1) (k + 1); omega
        | succ j =>
          have i1 := ih i (j + 1) (k + 1) (by omega)
          have i2 := ih (i + 1) (j + 1) k (by omega)
          have i3 := ih (i + 1) j (k + 1) (by omega)
          have i4 := ih (i + 1) j k (by omega)
          have i5 := ih i j (k + 1) (by omega)
          have i6 := ih i j k (by omega)
          have u1 := L_left a c i (k + 1)
          have u2 := L_right a c (i + 1) k
          have u3 := L_diag a c i k
          have c1 := cost_bd (a.getD i 0) (b.getD j 0); have c2 := cost_bd (b.getD j 0) (c.getD k 0)
          have t := cost_tri (a.getD i 0) (b.getD j 0) (c.getD k 0)
          have x1 : L a b (i + 1) (j + 1) = min (min (L a b i j + cost (a.getD i 0) (b.getD j 0)) (L a b (i + 1) j + 1)) (L a b i (j + 1) + 1) := by simp only [L]
          have x2 : L b c (j + 1) (k + 1) = min (min (L b c j k + cost (b.getD j 0) (c.getD k 0)) (L b c (j + 1) k + 1)) (L b c j (k + 1) + 1) := by simp only [L]
          omega
end Ed
end Go.Proofs.Ytbimbgcejeeinaa
/- a list of texts as argument, opened -/
namespace Go.Proofs.Ytbimbgcejeeinaa
open Go.ChangeShapes Go.WideShapes Go.ChangeAt Go.RowKit
set_option linter.unusedVariables false
set_option maxRecDepth 20000
theorem Try.cellsStr : Try.prog.cellsOf 9 = 1 := by kernel_rfl
theorem open_texts_arg {H : Type} {enc : TypeId × Value → H} {W : World} {base : Nat} {v : Value} {d : DataW H} {p : List MemPlace}
    (o : Value.okWide Try.prog W .any base 22 v) (h : DataW.Trod enc Try.prog W 0 (fun _ => true) true 22 v d p) :
    ∃ a n cap ts, v = .slice a n cap ∧ HoldsT W a n ts ∧ (a = none → n = 0 ∧ cap = 0) ∧ n ≤ cap ∧ n ≤ 9223372036854775807 ∧ ∀ t ∈ ts, t.size ≤ 9223372036854775807 := by
  obtain ⟨a, len, cap, rfl⟩ := okWide_slice Try.underlying22 o
  obtain ⟨fuel, hf⟩ := h
  rcases open_strings Try.underlying22 Try.underlying9 Try.cellsStr hf with ⟨hcs, _⟩ | ⟨x, l, c, ss, hcs, _, hl, hm, hz, _, hcell, hsz⟩
  · simp [Value.cells] at hcs
    obtain ⟨rfl, rfl, rfl⟩ := hcs
    exact ⟨none, 0, 0, [], rfl, HoldsT.nil _ _, fun _ => ⟨rfl, rfl⟩, Nat.le_refl _, by omega, by simp⟩
  · simp [Value.cells] at hcs
    obtain ⟨rfl, rfl, rfl⟩ := hcs
    have hzc : ss.length = cap := by simpa using hz
    refine ⟨some x, len, cap, ss.take len, rfl, ?_, (fun h => by cases h), hl, by unfold maxLen at hm; omega, fun t ht => by have := hsz t (List.mem_of_mem_take ht); unfold maxLen at this; omega⟩
    refine ⟨by simp [strsV]; omega, fun h0 => ?_⟩
    obtain ⟨b, off, spot⟩ := x
    have hspot : spot = none := by simpa [Addr.add] using World.cell?_spot (hcell 0 (by omega))
    subst hspot
    refine ⟨b, off, rfl, fun i hi => ?_⟩
    rw [← Go.WideShapes.add_plain, hcell i (by omega), getD_map_str _ i (by simp; omega)]
    congr 2
    simp only [List.getD_eq_getElem?_getD, List.getElem?_take]
    rw [if_pos hi]
end Go.Proofs.Ytbimbgcejeeinaa
/- the laws of cuts: no word of a shard is nearer -/
namespace Go.Proofs.Ytbimbgcejeeinaa
open Go.RowKit
set_option linter.unusedVariables false
set_option maxRecDepth 20000
theorem ofN_below {ks : List KV} {k : KV} {i : Nat} (h : i < ofN ks k) (hi : i < ks.length) : ¬ ordK k (ks.getD i k0) < 0 := by
  have := List.not_of_lt_findIdx h
  have e : ks.getD i k0 = ks[i] := by simp [List.getD_eq_getElem?_getD, hi]
  rw [e]; simpa using this
theorem ofN_at {ks : List KV} {k : KV} (h : ofN ks k < ks.length) : ordK k (ks.getD (ofN ks k) k0) < 0 := by
  have h3 : decide (ordK k ks[ofN ks k] < 0) = true := List.findIdx_getElem (w := h)
  have e : ks.getD (ofN ks k) k0 = ks[ofN ks k] := by simp [List.getD_eq_getElem?_getD, h]
  rw [e]; exact of_decide_eq_true h3
theorem cmpS_empty (t : Tx) : ¬ cmpS t ByteArray.empty < 0 := by
  rw [cmpS_lt]
  have h : (ByteArray.empty).toList = [] := by rw [ByteArray.toList_eq]; rfl
  rw [h]
  exact List.not_lt_nil _
/-- the lengths that words of a shard have -/
theorem lens_of {ks : List KV} {t : Tx} (hw : wordP t) : loK ks (ofN ks (keyOf t)) ≤ lenS t ∧ lenS t ≤ hiK ks (ofN ks (keyOf t)) := by
  obtain ⟨s, hs⟩ : ∃ s, ofN ks (keyOf t) = s := ⟨_, rfl⟩
  have hle := ofN_le ks (keyOf t)
  have h1 := fun i => @ofN_below ks (keyOf t) i
  have h2 := @ofN_at ks (keyOf t)
  rw [hs] at hle h1 h2
  rw [hs]
  constructor
  · unfold loK
    split
    · have h3 := h1 (s - 1) (by omega) (by omega)
      rw [ordK_lt] at h3
      unfold keyOf at h3
      simp only at h3
      omega
    · exact hw.1
  · unfold hiK
    split
    · rename_i h4
      have h3 := h2 h4
      rw [ordK_lt] at h3
      unfold keyOf at h3
      simp only at h3
      split
      · rename_i h5
        rw [h5] at h3
        rcases h3 with h3 | h3
        · omega
        · exact absurd h3.2 (cmpS_empty t)
      · omega
    · exact hw.2
theorem dist_low {a b : Tx} (ha : 0 ≤ lenS a) (hb : 0 ≤ lenS b) : lenS a - lenS b ≤ distS a b ∧ lenS b - lenS a ≤ distS a b := by
  unfold distS
  rw [if_pos ⟨ha, hb⟩]
  have h := Ed.L_low (intsN (runesS a)) (intsN (runesS b)) (runesS a).length (runesS b).length
  have h1 := (lenS_pos ha).2
  have h2 := (lenS_pos hb).2
  omega
theorem least_low {ks : List KV} {t u : Tx} (hw : wordP t) (hu : 0 ≤ lenS u) : 0 ≤ leastK ks (ofN ks (keyOf t)) (lenS u) ∧ leastK ks (ofN ks (keyOf t)) (lenS u) ≤ distS t u := by
  obtain ⟨h1, h2⟩ := lens_of (ks := ks) hw
  have hwl := hw.1
  obtain ⟨h3, h4⟩ := dist_low (a := t) (b := u) (by omega) hu
  unfold leastK
  rw [if_neg (by omega)]
  have h0 : 0 ≤ distS t u := by
    unfold distS; rw [if_pos ⟨by omega, hu⟩]
    exact (Ed.L_bd _ _ _ _).1
  omega
end Go.Proofs.Ytbimbgcejeeinaa
/- small facts on lists of texts -/
namespace Go.Proofs.Ytbimbgcejeeinaa
open Go.RowKit
set_option linter.unusedVariables false
set_option maxRecDepth 20000
theorem drop_cons (ts : List Tx) (j : Nat) (h : j < ts.length) : ts.drop j = ts.getD j ByteArray.empty :: ts.drop (j + 1) := by
  rw [List.drop_eq_getElem_cons h]
  simp [List.getD_eq_getElem?_getD, h]
theorem compare_lit (x y : Tx) (v : Int) (hv : cmpS x y = v) (w : World) : Calls Try.prog 45 #[.string x, .string y] w fun e w' => e = .returned (.int .i64 v) ∧ w = w' := by subst hv; exact compare_any x y w
end Go.Proofs.Ytbimbgcejeeinaa
/- contract of list.Merge -/
namespace Go.Proofs.Ytbimbgcejeeinaa
open Go.RowKit
set_option linter.unusedVariables false
set_option maxRecDepth 20000
/-- 'make([]T, 0, c)': a slice of the call's own with room -/
theorem wpList_make_room {P : Program} (w : World) {ops : Array Oper} {rest : List Oper} {o : Oper} {a : Act} {Q : Exit → Act → World → Prop}
    (hg : o.guard = none) (l c : Operand) (t : TypeId) (hop : o.op = Op.makeSlice t l c)
    (e : TypeId) (i : TypeInfo) (z : Value) (bytes : Nat) (ht : P.underlying t = some (.slice e)) (hi : P.info? e = some i) (hz : i.zero = some z) (hsize : i.size = 1) (hby : i.bytes = bytes) (hz1 : z.cells = #[z])
    (base n : Nat) (hl : a.eval l = .int .i64 0) (cv : Int) (hc : a.eval c = .int .i64 cv) (hcv : cv = (n : Int)) (hbytes : bytes * n ≤ 281474976710656) (h63 : n ≤ maxLen) (hbase : base ≤ w.heap.size)
    (hK : ∀ w', w'.ownsRow base e 1 (.slice (some ⟨w.heap.size, 0, none⟩) 0 n) 0 [] → Below base w w' → wpList P ops Q rest (a.put o.dst (.slice (some ⟨w.heap.size, 0, none⟩) 0 n)) w') :
    wpList P ops Q (o :: rest) a w := by
  subst hcv
  refine wpList_plain hg fun K hK' => ?_
  have hb' : (i.bytes : Int) * (n : Int) ≤ 281474976710656 := by
    rw [hby]
    have h : ((bytes * n : Nat) : Int) ≤ 281474976710656 := by omega
    rwa [Int.natCast_mul] at h
  have hrun := run_make (P := P) w t e i z ht hi hz .i64 .i64 0 n (Int.le_refl _) (by omega) hb' (by unfold maxLen at h63; omega)
  simp only [Int.toNat_natCast, Int.toNat_zero, hsize, Nat.mul_one, hz1] at hrun
  unfold Oper.wp
  simp [execOp, hop, hl, hc, hrun, Result.andThen]
  refine hK' _ _ (hK _ ?_ ((Below.refl _ _).alloc hbase _))
  exact ⟨rfl, .inr ⟨w.heap.size, n, _, rfl, hbase, heap_alloc_new w _, Nat.zero_le _, h63, by simp [madeCells], by simp⟩⟩
theorem mergeL_lt {x y : Tx} {xs ys : List Tx} (h : cmpS x y < 0) : mergeL (x :: xs) (y :: ys) = x :: mergeL xs (y :: ys) := by rw [mergeL_cons, if_pos h]
theorem mergeL_eq {x y : Tx} {xs ys : List Tx} (h : cmpS x y = 0) : mergeL (x :: xs) (y :: ys) = x :: mergeL xs ys := by rw [mergeL_cons, if_neg (by omega), if_pos h]
theorem mergeL_gt {x y : Tx} {xs ys : List Tx} (h : 0 < cmpS x y) : mergeL (x :: xs) (y :: ys) = y :: mergeL (x :: xs) ys := by rw [mergeL_cons, if_neg (by omega), if_neg (by omega)]
theorem merge_step {M P : List Tx} {x y : Tx} {xs ys : List Tx} {i j : Nat} (hM : M = P ++ mergeL (xs.drop i) (ys.drop j)) (hx : xs.drop i = x :: xs.drop (i + 1)) (hy : ys.drop j = y :: ys.drop (j + 1)) :
    (cmpS x y < 0 → M = (P ++ [x]) ++ mergeL (xs.drop (i + 1)) (ys.drop j)) ∧ (cmpS x y = 0 → M = (P ++ [x]) ++ mergeL (xs.drop (i + 1)) (ys.drop (j + 1))) ∧ (0 < cmpS x y → M = (P ++ [y]) ++ mergeL (xs.drop i) (ys.drop (j + 1))) := by
  refine ⟨fun h => ?_, fun h => ?_, fun h => ?_⟩
  · rw [hM, hx, hy, mergeL_lt h, List.append_assoc]; rfl
  · rw [hM, hx, hy, mergeL_eq h, List.append_assoc]; rfl
  · rw [hM, hx, hy, mergeL_gt h, List.append_assoc]; rfl
theorem HoldsT.tail {w : World} {b o m : Nat} {ts : List Tx} (h : HoldsT w (some ⟨b, o, none⟩) (m + 1) ts) : HoldsT w (some ⟨b, o + 1, none⟩) m (ts.drop 1) := by
  have := h.drop 1 (by omega)
  simpa using this
theorem HoldsT.tail' {w : World} {b o q c : Nat} {ts : List Tx} (h : HoldsT w (some ⟨b, o, none⟩) (q + 1) ts) (hc : q + 1 ≤ c) : HoldsT w (if c = 1 then some ⟨b, o, none⟩ else some ⟨b, o + 1, none⟩) q (ts.drop 1) := by
  split
  · obtain rfl : q = 0 := by omega
    have := h.tail
    exact ⟨this.1, fun h => absurd h (by omega)⟩
  · exact h.tail
theorem ite_none {p : Prop} {c : Prop} [Decidable c] (a b : Addr) : ((if c then some a else some b) = none) → p := by split <;> exact fun h => by cases h
def lenV : Value → Nat | .slice _ n _ => n | _ => 0
set_option maxHeartbeats 3200000 in
theorem merge_any (a : Option Addr) (n cap : Nat) (xs : List Tx) (a1 : Option Addr) (n1 cap1 : Nat) (ys : List Tx) (w : World) (hh : HoldsT w a n xs) (hnil : a = none → n = 0 ∧ cap = 0) (hcap : n ≤ cap) (hh1 : HoldsT w a1 n1 ys) (hnil1 : a1 = none → n1 = 0 ∧ cap1 = 0) (hcap1 : n1 ≤ cap1) (hn : n ≤ 1000) (hn1 : n1 ≤ 1000) :
    Calls Try.prog 28 #[.slice a n cap, .slice a1 n1 cap1] w (RetO w (mergeL xs ys)) := by
  obtain ⟨i0, hi, hz0, hz1, hz2⟩ := info_parts str_info
  have hl := hh.len
  have hl1 := hh1.len
  have HH := Lib.hid hh; have HN := Lib.hid hnil; have HH1 := Lib.hid hh1; have HN1 := Lib.hid hnil1
  clear hh hnil hh1 hnil1
  go_enter Try.func28, Try.ntmps28
  go_wp2_with (refine wpList_make_room _ rfl _ _ 22 rfl 9 i0 (.string ⟨#[]⟩) 16 Try.underlying22 hi hz0 hz1 hz2 rfl w.heap.size (n + n1) rfl _ rfl (by omega) (by omega) (by unfold maxLen; omega) (Nat.le_refl _) ?_; intro w1 hown1 hb1)
  have O1 := Lib.hid hown1; have B1 := Lib.hid hb1
  clear hown1 hb1
  go_loopw [0, 1, 5] (fun av bv ov wr => ∃ (i j m m1 c c1 : Nat) (p p1 : Option Addr) (P : List Tx), m + i = n ∧ m1 + j = n1 ∧ m ≤ c ∧ m1 ≤ c1 ∧ av = .slice p m c ∧ bv = .slice p1 m1 c1 ∧ P.length ≤ i + j ∧ Hid (HoldsT w p m (xs.drop i)) ∧ Hid (HoldsT w p1 m1 (ys.drop j)) ∧ Hid (p = none → m = 0 ∧ c = 0) ∧ Hid (p1 = none → m1 = 0 ∧ c1 = 0) ∧ Hid (mergeL xs ys = P ++ mergeL (xs.drop i) (ys.drop j)) ∧ Hid (wr.ownsRow w.heap.size 9 1 ov P.length (strsV P)) ∧ Hid (Below w.heap.size w wr)) (fun av bv _ _ => lenV av + lenV bv)
  case atStart => exact ⟨0, 0, n, n1, cap, cap1, a, a1, [], by omega, by omega, hcap, hcap1, rfl, rfl, by simp, HH, HH1, HN, HN1, Lib.hid rfl, O1, B1⟩
  case round =>
    obtain ⟨i, j, m, m1, c, c1, p, p1, P, hm, hm1, hc, hc1, rfl, rfl, hPl, K, K1, N0, N1, hP, hO, hB⟩ := hrel
    have hcv := HoldsT.below K.out hB.out
    by_cases hm0 : m = 0 ∨ m1 = 0
    · have hend : Hid (mergeL xs ys = P ++ xs.drop i ++ ys.drop j) := Lib.hid (by
        rw [hP.out]
        rcases hm0 with h | h
        · rw [List.drop_of_length_le (l := xs) (i := i) (by omega), mergeL_nil_left]; simp
        · rw [List.drop_of_length_le (l := ys) (i := j) (by omega), mergeL_nil_right]; simp)
      have hR : Hid ((P ++ xs.drop i ++ ys.drop j).length = P.length + m + m1) := Lib.hid (by simp; omega)
      have X := Lib.hid ((HoldsT.below K.out hB.out).cells ⟨rfl, rfl, rfl, Nat.le_refl _, fun _ _ _ => rfl⟩)
      have LX := Lib.hid (show (strsV (xs.drop i)).length = m * 1 by rw [Nat.mul_one]; exact K.out.1)
      have LY := Lib.hid (show (strsV (ys.drop j)).length = m1 * 1 by rw [Nat.mul_one]; exact K1.out.1)
      obtain ⟨X1, hX1⟩ : ∃ X1, xs.drop i = X1 := ⟨_, rfl⟩
      obtain ⟨Y1, hY1⟩ : ∃ Y1, ys.drop j = Y1 := ⟨_, rfl⟩
      have Kx := Lib.hid K.out; have Ky := Lib.hid K1.out
      rw [hX1] at LX X hR hend Kx
      rw [hY1] at LY hR hend Ky
      clear hX1 hY1 hP K K1 hcv
      have hcase : m = 0 ∨ (0 < m ∧ m1 = 0) := by omega
      rcases hcase with rfl | ⟨h1, rfl⟩
      all_goals
        go_wp2_with (first
          | (at_builtin; refine wpList_append_any rfl (.tmp 48) (.tmp 49) 22 rfl w.heap.size 9 i0 (.string ⟨#[]⟩) 1 16 Try.underlying22 hi hz0 hz1 hz2 rfl (by decide) _ P.length _ rfl hO.out _ _ _ (strsV X1) rfl N0.out LX.out X.out (strsV_one _) (by unfold maxLen; omega) (by omega) hB.out.size ?_; intro a3 c3 w3 hown3 hb3 hnil3; have B3 := hB.out.trans hb3)
          | (at_builtin; refine wpList_append_any rfl (.tmp 51) (.tmp 52) 22 rfl w.heap.size 9 i0 (.string ⟨#[]⟩) 1 16 Try.underlying22 hi hz0 hz1 hz2 rfl (by decide) _ _ _ rfl hown3 _ _ _ (strsV Y1) rfl N1.out LY.out ((HoldsT.below Ky.out B3).cells ⟨rfl, rfl, rfl, Nat.le_refl _, fun _ _ _ => rfl⟩) (strsV_one _) (by unfold maxLen; omega) (by omega) B3.size ?_; intro a5 c5 w5 hown5 hb5 hnil5))
        have O5 := Lib.hid hown5
        have B5 := Lib.hid (B3.trans hb5)
        clear hown5 hb5 hnil5 hown3 hb3 hnil3 B3
        go_ret
        exact ret_own hend.out.symm hR.out (by have := O5.out; simpa [strsV] using this) B5.out _ rfl
    · obtain ⟨q, rfl⟩ : ∃ q, m = q + 1 := ⟨m - 1, by omega⟩
      obtain ⟨q1, rfl⟩ : ∃ q1, m1 = q1 + 1 := ⟨m1 - 1, by omega⟩
      obtain ⟨b, o, rfl, hx⟩ := K.out.at (by omega)
      obtain ⟨b1, o1, rfl, hx1⟩ := K1.out.at (by omega)
      have e0 := hx 0 (by omega)
      have e1 := hx1 0 (by omega)
      rw [Nat.add_zero] at e0 e1
      have hdx := drop_cons xs i (by omega)
      have hdy := drop_cons ys j (by omega)
      have hgx : (xs.drop i).getD 0 ByteArray.empty = xs.getD i ByteArray.empty := by simp [List.getD_eq_getElem?_getD]
      have hgy : (ys.drop j).getD 0 ByteArray.empty = ys.getD j ByteArray.empty := by simp [List.getD_eq_getElem?_getD]
      rw [hgx] at e0
      rw [hgy] at e1
      obtain ⟨x, hxx⟩ : ∃ x, xs.getD i ByteArray.empty = x := ⟨_, rfl⟩
      obtain ⟨y, hyy⟩ : ∃ y, ys.getD j ByteArray.empty = y := ⟨_, rfl⟩
      rw [hxx] at hdx e0
      rw [hyy] at hdy e1
      have C0 := Lib.hid (fun (w3 : World) (hb : Below w.heap.size w w3) => show w3.cell? ⟨b, o, none⟩ = some (.string x) from (hb.cell (p := ⟨b, o, none⟩) (lt_of_cell e0)).trans e0)
      have C1 := Lib.hid (fun (w3 : World) (hb : Below w.heap.size w w3) => show w3.cell? ⟨b1, o1, none⟩ = some (.string y) from (hb.cell (p := ⟨b1, o1, none⟩) (lt_of_cell e1)).trans e1)
      obtain ⟨s1, s2, s3⟩ := merge_step hP.out hdx hdy
      have T0 := Lib.hid (by simpa using K.out.tail' hc : HoldsT w (if c = 1 then some ⟨b, o, none⟩ else some ⟨b, o + 1, none⟩) q (xs.drop (i + 1)))
      have T1 := Lib.hid (by simpa using K1.out.tail' hc1 : HoldsT w (if c1 = 1 then some ⟨b1, o1, none⟩ else some ⟨b1, o1 + 1, none⟩) q1 (ys.drop (j + 1)))
      have S1 := Lib.hid s1; have S2 := Lib.hid s2; have S3 := Lib.hid s3
      clear hx hx1 hdx hdy hgx hgy hxx hyy s1 s2 s3 e0 e1 hcv
      have e0 := C0.out _ hB.out
      have e1 := C1.out _ hB.out
      obtain ⟨v, hv⟩ : ∃ v, cmpS x y = v := ⟨_, rfl⟩
      have hcmp := Lib.hid (fun w => compare_lit x y v hv w)
      rw [hv] at S1 S2 S3
      clear hv
      have g1 : (0 : Int) < (q + 1 : Nat) := by omega
      have g2 : (0 : Int) < (q1 + 1 : Nat) := by omega
      rcases Int.lt_trichotomy v 0 with h | h | h
      · have hM := Lib.hid (S1.out h)
        go_upto_region 3 with fail
        go_quiet ((go_at_call 45; exact Calls.quiet_of_same ((hcmp.out _).mono (fun _ _ h => ⟨h.1, h.2.symm⟩))))
        go_wp2_with (at_builtin; refine wpList_append_any rfl (.tmp 30) (.tmp 34) 22 rfl w.heap.size 9 i0 (.string ⟨#[]⟩) 1 16 Try.underlying22 hi hz0 hz1 hz2 rfl (by decide) _ P.length _ rfl ((owns_below hO.out (below_drewN _ _)).alloc _) _ 1 1 _ rfl (some_none _) rfl (one_new _ _ _ _) (one_str _) (by unfold maxLen; omega) (by omega) (by have := hB.out.size; simp; omega) ?_; intro a3 c3 w3 hown3 hb3 hnil3)
        rw [← strsV_snoc] at hown3
        have O3 := Lib.hid hown3
        have B3 := Lib.hid (((hB.out.trans ((below_drewN _ _).mono hB.out.size)).alloc (by have := hB.out.size; simpa using this) _).trans hb3)
        clear hown3 hb3 hnil3
        go_roundw
        case rel =>
          exact ⟨i + 1, j, q, q1 + 1, c - 1, c1, _, _, P ++ [x], by omega, by omega, by omega, by omega, rfl, rfl, by simp; omega, T0, K1, Lib.hid (ite_none _ _), N1, hM, Lib.hid (by have := O3.out; simpa using this), B3⟩
        case measure => simp [lenV]; try omega
      · have hM := Lib.hid (S2.out h)
        subst h
        go_upto_region 3 with fail
        go_quiet ((go_at_call 45; exact Calls.quiet_of_same ((hcmp.out _).mono (fun _ _ h => ⟨h.1, h.2.symm⟩))))
        go_wp2_with (at_builtin; refine wpList_append_any rfl (.tmp 30) (.tmp 34) 22 rfl w.heap.size 9 i0 (.string ⟨#[]⟩) 1 16 Try.underlying22 hi hz0 hz1 hz2 rfl (by decide) _ P.length _ rfl ((owns_below hO.out (below_drewN _ _)).alloc _) _ 1 1 _ rfl (some_none _) rfl (one_new _ _ _ _) (one_str _) (by unfold maxLen; omega) (by omega) (by have := hB.out.size; simp; omega) ?_; intro a3 c3 w3 hown3 hb3 hnil3)
        rw [← strsV_snoc] at hown3
        have O3 := Lib.hid hown3
        have B3 := Lib.hid (((hB.out.trans ((below_drewN _ _).mono hB.out.size)).alloc (by have := hB.out.size; simpa using this) _).trans hb3)
        clear hown3 hb3 hnil3
        go_roundw
        case rel => exact ⟨i + 1, j + 1, q, q1, c - 1, c1 - 1, _, _, P ++ [x], by omega, by omega, by omega, by omega, rfl, rfl, by simp; omega, T0, T1, Lib.hid (ite_none _ _), Lib.hid (ite_none _ _), hM, Lib.hid (by have := O3.out; simpa using this), B3⟩
        case measure => simp [lenV]; try omega
      · have hM := Lib.hid (S3.out h)
        go_upto_region 3 with fail
        go_quiet ((go_at_call 45; exact Calls.quiet_of_same ((hcmp.out _).mono (fun _ _ h => ⟨h.1, h.2.symm⟩))))
        go_wp2_with (at_builtin; refine wpList_append_any rfl (.tmp 38) (.tmp 42) 22 rfl w.heap.size 9 i0 (.string ⟨#[]⟩) 1 16 Try.underlying22 hi hz0 hz1 hz2 rfl (by decide) _ P.length _ rfl ((owns_below hO.out (below_drewN _ _)).alloc _) _ 1 1 _ rfl (some_none _) rfl (one_new _ _ _ _) (one_str _) (by unfold maxLen; omega) (by omega) (by have := hB.out.size; simp; omega) ?_; intro a3 c3 w3 hown3 hb3 hnil3)
        rw [← strsV_snoc] at hown3
        have O3 := Lib.hid hown3
        have B3 := Lib.hid (((hB.out.trans ((below_drewN _ _).mono hB.out.size)).alloc (by have := hB.out.size; simpa using this) _).trans hb3)
        clear hown3 hb3 hnil3
        go_roundw
        case rel => exact ⟨i, j + 1, q + 1, q1, c, c1 - 1, _, _, P ++ [y], by omega, by omega, by omega, by omega, rfl, rfl, by simp; omega, K, T1, N0, Lib.hid (ite_none _ _), hM, Lib.hid (by have := O3.out; simpa using this), B3⟩
        case measure => simp [lenV]; try omega
end Go.Proofs.Ytbimbgcejeeinaa
/- the law that each word is one shard's -/
namespace Go.Proofs.Ytbimbgcejeeinaa
open Go.RowKit
set_option linter.unusedVariables false
set_option maxRecDepth 20000
def belowS (ks : List KV) (ws : List Tx) (s : Nat) : List Tx := ws.filter fun t => decide (ofZ ks t < (s : Int))
theorem pwhole_merge {ks : List KV} {ws : List Tx} (hs : SortedS ws) (s : Nat) : mergeL (belowS ks ws s) (sliceS ks ws s) = belowS ks ws (s + 1) := by
  refine sorted_unique (mergeL_sorted _ _ _ (Nat.le_refl _) (sorted_filter _ hs) (sorted_filter _ hs)) (sorted_filter _ hs) fun z => ?_
  rw [mem_mergeL]
  unfold belowS sliceS
  simp only [List.mem_filter, decide_eq_true_eq]
  constructor
  · rintro (⟨h, k⟩ | ⟨h, k⟩)
    · exact ⟨h, by omega⟩
    · exact ⟨h, by omega⟩
  · rintro ⟨h, k⟩
    by_cases h2 : ofZ ks z < (s : Int)
    · exact Or.inl ⟨h, h2⟩
    · exact Or.inr ⟨h, by omega⟩
theorem pwhole_len (ks : List KV) (s : Nat) : ∀ ws : List Tx, (belowS ks ws (s + 1)).length = (belowS ks ws s).length + (sliceS ks ws s).length
  | [] => rfl
  | t :: ws => by
    have ih := pwhole_len ks s ws
    unfold belowS sliceS at ih ⊢
    simp only [List.filter_cons]
    rcases Int.lt_trichotomy (ofZ ks t) (s : Int) with h | h | h
    · rw [if_pos (by simp; omega), if_pos (by simp; omega), if_neg (by simp; omega), List.length_cons, List.length_cons]; omega
    · rw [if_pos (by simp; omega), if_neg (by simp; omega), if_pos (by simp; omega), List.length_cons, List.length_cons]; omega
    · rw [if_neg (by simp; omega), if_neg (by simp; omega), if_neg (by simp; omega)]; omega
theorem pwhole_zero {ks : List KV} {ws : List Tx} (hw : ∀ t ∈ ws, wordP t) : belowS ks ws 0 = [] := by
  unfold belowS
  rw [List.filter_eq_nil_iff]
  intro t ht
  rw [ofZ_word (hw t ht)]
  simp
theorem pwhole_all {ks : List KV} {ws : List Tx} (hw : ∀ t ∈ ws, wordP t) : belowS ks ws (ks.length + 1) = ws := by
  unfold belowS
  rw [List.filter_eq_self]
  intro t ht
  rw [ofZ_word (hw t ht), decide_eq_true_iff]
  have := ofN_le ks (keyOf t)
  omega
theorem pwhole_none {ks : List KV} {ws : List Tx} (hw : ∀ t ∈ ws, wordP t) : sliceS ks ws (ks.length + 1) = [] := by
  unfold sliceS
  rw [List.filter_eq_nil_iff]
  intro t ht
  rw [ofZ_word (hw t ht)]
  have := ofN_le ks (keyOf t)
  simp; omega
theorem in_shard {ks : List KV} {ws : List Tx} {s : Nat} {t : Tx} (hw : ∀ t ∈ ws, wordP t) (h : t ∈ sliceS ks ws s) : t ∈ ws ∧ ofZ ks t = (s : Int) ∧ loK ks s ≤ lenS t ∧ lenS t ≤ hiK ks s := by
  obtain ⟨h1, h2⟩ := List.mem_filter.1 h
  rw [decide_eq_true_eq] at h2
  have h3 := h2
  rw [ofZ_word (hw t h1)] at h3
  have h4 : ofN ks (keyOf t) = s := by omega
  have h5 := lens_of (ks := ks) (hw t h1)
  rw [h4] at h5
  exact ⟨h1, h2, h5⟩
def LstP (w : World) (a : Option Addr) (n c : Nat) (ts : List Tx) : Prop := HoldsT w a n ts ∧ (a = none → n = 0 ∧ c = 0) ∧ n ≤ c
theorem LstP.below {w w' : World} {a : Option Addr} {n c : Nat} {ts : List Tx} (h : LstP w a n c ts) (hb : Below w.heap.size w w') : LstP w' a n c ts := ⟨h.1.below hb, h.2⟩
theorem LstP.own {w : World} {B : Nat} {a : Option Addr} {n c : Nat} {ts : List Tx} (h : w.ownsRow B 9 1 (.slice a n c) n (strsV ts)) : LstP w a n c ts := ⟨HoldsT.own h, owns_none h⟩
theorem greatT_lit (a : Option Addr) (n cap : Nat) (ts : List Tx) (b : Bool) (w : World) (hh : HoldsT w a n ts) (hn : n ≤ 9223372036854775807) (hsz : ∀ t ∈ ts, t.size ≤ 9223372036854775807) (hb : greatB ts = b) :
    Calls Try.prog 32 #[.slice a n cap] w fun e w' => e = .returned (.bool b) ∧ Below w.heap.size w w' := by subst hb; exact great_any a n cap ts w hh hn hsz
theorem goodT_lit (a : Option Addr) (n cap : Nat) (ts : List Tx) (v : Int) (w : World) (hh : HoldsT w a n ts) (hn : n ≤ 9223372036854775807) (hsz : ∀ t ∈ ts, t.size ≤ 9223372036854775807) (hv : goodV ts = v) :
    Calls Try.prog 38 #[.slice a n cap] w fun e w' => e = .returned (.int .i64 v) ∧ Below w.heap.size w w' := by subst hv; exact good_any' a n cap ts w hh hn hsz
theorem sliceP_lst (a : Option Addr) (n cap : Nat) (ks : List KV) (a1 : Option Addr) (n1 cap1 : Nat) (ws zs : List Tx) (s k : Nat) (w : World) (hh : HoldsK w a n ks) (hh1 : HoldsT w a1 n1 ws) (hn : n ≤ 1000) (hn1 : n1 ≤ 1000) (hs : s ≤ 1000) (hsz : ∀ t ∈ ws, t.size ≤ 9223372036854775807) (hz : sliceS ks ws s = zs) (hk : zs.length = k) :
    Calls Try.prog 35 #[.slice a n cap, .slice a1 n1 cap1, .int .i64 s] w fun e w' => ∃ a' c', e = .returned (.slice a' k c') ∧ LstP w' a' k c' zs ∧ Below w.heap.size w w' := by
  subst hz hk
  exact (slice_any a n cap ks a1 n1 cap1 ws s w hh hh1 hn hn1 hs hsz).mono fun _ _ ⟨a', c', h1, h2, h3⟩ => ⟨a', c', h1, LstP.own h2, h3⟩
theorem mergeP_lst (a : Option Addr) (n c : Nat) (xs : List Tx) (a1 : Option Addr) (n1 c1 : Nat) (ys zs : List Tx) (k : Nat) (w : World) (h : LstP w a n c xs) (h1 : LstP w a1 n1 c1 ys) (hn : n ≤ 1000) (hn1 : n1 ≤ 1000) (hz : mergeL xs ys = zs) (hk : zs.length = k) :
    Calls Try.prog 28 #[.slice a n c, .slice a1 n1 c1] w fun e w' => ∃ a' c', e = .returned (.slice a' k c') ∧ LstP w' a' k c' zs ∧ Below w.heap.size w w' := by
  subst hz hk
  exact (merge_any a n c xs a1 n1 c1 ys w h.1 h.2.1 h.2.2 h1.1 h1.2.1 h1.2.2 hn hn1).mono fun _ _ ⟨a', c', h1, h2, h3⟩ => ⟨a', c', h1, LstP.own h2, h3⟩
end Go.Proofs.Ytbimbgcejeeinaa
/- place: Shards, hasShard, GreatConfig, Words -/
namespace Go.Proofs.Ytbimbgcejeeinaa
open Go.RowKit
set_option linter.unusedVariables false
set_option maxRecDepth 20000
theorem may_parts {c : Cfg} (h : c.may = true) : goodV c.ws = 0 ∧ goodK c.ks = 0 ∧ (1 ≤ c.W ∧ c.W ≤ 5) ∧ (1 ≤ c.C ∧ c.C ≤ 3 ∧ c.C ≤ c.W) ∧ (1 ≤ c.S ∧ c.S ≤ 4) ∧ (1 ≤ c.B ∧ c.B ≤ 5) ∧ (1 ≤ c.L ∧ c.L ≤ 1000) ∧ (1 ≤ c.H ∧ c.H ≤ 1000) ∧ (1 ≤ c.F ∧ c.F ≤ 10) ∧ (c.F ≤ c.P ∧ c.P ≤ 50) ∧ (0 ≤ c.J ∧ c.J ≤ 10) ∧ (8 ≤ c.N ∧ c.N ≤ 64) := by
  unfold Cfg.may at h
  simp only [Bool.and_eq_true, decide_eq_true_eq] at h
  obtain ⟨h0, h1, h2, h3, h4, h5, h6, h7, h8, h9, h10, h11⟩ := h
  exact ⟨h0, h1, h2, ⟨h3.1, by omega, by omega⟩, h4, h5, h6, h7, h8, h9, h10, h11⟩
theorem may_kn {w : World} {c : Cfg} (h : c.may = true) (ok : CfgOk w c) : c.kn ≤ 5 := by
  have := (goodK_zero (may_parts h).2.1).1
  have := ok.2.2.2.2.2.1.len
  omega
set_option maxHeartbeats 1600000 in
theorem shards_any (c : Cfg) (w : World) (h : CfgOk w c) (hm : c.may = true) :
    Calls Try.prog 16 #[.agg #[.slice c.wa c.wn c.wc, .slice c.ka c.kn c.kc, .int .i64 c.W, .int .i64 c.C, .int .i64 c.S, .int .i64 c.B, .int .i64 c.L, .int .i64 c.H, .int .i64 c.F, .int .i64 c.P, .int .i64 c.J, .int .i64 c.N]] w fun e w' => e = .returned (.int .i64 ((c.kn + 1 : Nat) : Int)) ∧ Below w.heap.size w w' := by
  have BX := Lib.hid (below_one w (.cells #[.slice c.wa c.wn c.wc, .slice c.ka c.kn c.kc, .int .i64 c.W, .int .i64 c.C, .int .i64 c.S, .int .i64 c.B, .int .i64 c.L, .int .i64 c.H, .int .i64 c.F, .int .i64 c.P, .int .i64 c.J, .int .i64 c.N] 25))
  have IN := Lib.hid (cfgIn_new w c w.heap.size 25 (0, 0) rfl)
  have CM := Lib.hid (may_cfg c true _ (h.below BX.out) hm)
  have hk := may_kn hm h
  have hw1 : IntKind.i64.wrap ((c.kn : Int) + 1) = ((c.kn + 1 : Nat) : Int) := by rw [IntWalk.i64_in _ (by omega)]; omega
  clear h hm
  go_enter Try.func16, Try.ntmps16
  go_wp2_with fail
  refine CM.out.mono ?_
  rintro e w2 ⟨rfl, hb2⟩
  have B2 := Lib.hid (BX.out.trans (hb2.mono BX.out.size))
  have hI := IN.out.below hb2
  unfold CfgIn at hI
  obtain ⟨i0, i1, -⟩ := hI
  clear hb2 CM
  go_wp2_with fail
  go_ret
  exact ⟨rfl, B2.out⟩
set_option maxHeartbeats 1600000 in
theorem has_any (c : Cfg) (s : Int) (z : Bool) (w : World) (h : CfgOk w c) (hm : c.may = true) (hz : decide (0 ≤ s ∧ s < ((c.kn + 1 : Nat) : Int)) = z) :
    Calls Try.prog 33 #[.agg #[.slice c.wa c.wn c.wc, .slice c.ka c.kn c.kc, .int .i64 c.W, .int .i64 c.C, .int .i64 c.S, .int .i64 c.B, .int .i64 c.L, .int .i64 c.H, .int .i64 c.F, .int .i64 c.P, .int .i64 c.J, .int .i64 c.N], .int .i64 s] w fun e w' => e = .returned (.bool z) ∧ Below w.heap.size w w' := by
  have BX := Lib.hid (below_one w (.cells #[.slice c.wa c.wn c.wc, .slice c.ka c.kn c.kc, .int .i64 c.W, .int .i64 c.C, .int .i64 c.S, .int .i64 c.B, .int .i64 c.L, .int .i64 c.H, .int .i64 c.F, .int .i64 c.P, .int .i64 c.J, .int .i64 c.N] 25))
  have IN := Lib.hid (cfgIn_new w c w.heap.size 25 (0, 0) rfl)
  have CM := Lib.hid (shards_any c _ (h.below BX.out) hm)
  have BXX := BX.out
  by_cases h0 : 0 ≤ s
  · have d1 : decide (s ≥ 0) = true := decide_eq_true h0
    have d2 : decide (s < ((c.kn + 1 : Nat) : Int)) = z := by rw [← hz]; simp [h0]
    have d3 : decide (s < (c.kn : Int) + 1) = z := by rw [← d2]; congr 1
    clear h hm hz
    go_enter Try.func33, Try.ntmps33
    go_wp2_with fail
    refine CM.out.mono ?_
    rintro e w2 ⟨rfl, hb2⟩
    have B2 := Lib.hid (BX.out.trans (hb2.mono BX.out.size))
    clear hb2 CM
    go_wp2_with fail
    go_ret
    exact ⟨rfl, B2.out⟩
  · have d1 : decide (s ≥ 0) = false := decide_eq_false h0
    obtain rfl : z = false := by rw [← hz]; exact decide_eq_false (fun h => h0 h.1)
    clear h hm hz
    go_enter Try.func33, Try.ntmps33
    go_wp2_with fail
    go_ret
    exact ⟨rfl, BX.out⟩
def GreatC (w : World) (e : Ending) (w' : World) : Prop := ∃ z, e = .returned (.bool z) ∧ Below w.heap.size w w'
set_option maxHeartbeats 1600000 in
theorem greatC_any (c : Cfg) (w : World) (h : CfgOk w c) :
    Calls Try.prog 7 #[.agg #[.slice c.wa c.wn c.wc, .slice c.ka c.kn c.kc, .int .i64 c.W, .int .i64 c.C, .int .i64 c.S, .int .i64 c.B, .int .i64 c.L, .int .i64 c.H, .int .i64 c.F, .int .i64 c.P, .int .i64 c.J, .int .i64 c.N]] w (GreatC w) := by
  have BX := Lib.hid (below_one w (.cells #[.slice c.wa c.wn c.wc, .slice c.ka c.kn c.kc, .int .i64 c.W, .int .i64 c.C, .int .i64 c.S, .int .i64 c.B, .int .i64 c.L, .int .i64 c.H, .int .i64 c.F, .int .i64 c.P, .int .i64 c.J, .int .i64 c.N] 25))
  have IN := Lib.hid (cfgIn_new w c w.heap.size 25 (0, 0) rfl)
  have OK := Lib.hid (h.below BX.out)
  clear h
  go_enter Try.func7, Try.ntmps7
  go_upto_region 2 with fail
  have BE := Lib.hid BX.out
  generalize w.alloc (.cells #[.slice c.wa c.wn c.wc, .slice c.ka c.kn c.kc, .int .i64 c.W, .int .i64 c.C, .int .i64 c.S, .int .i64 c.B, .int .i64 c.L, .int .i64 c.H, .int .i64 c.F, .int .i64 c.P, .int .i64 c.J, .int .i64 c.N] 25) = w1 at *
  obtain ⟨p, hp⟩ : ∃ p, w.heap.size = p := ⟨_, rfl⟩
  rw [hp] at IN
  rw [hp]
  obtain ⟨i0, i1, -⟩ := IN.out
  clear hp
  have hl := OK.out.2.2.2.2.2.1.len
  by_cases h10 : c.kn ≤ 10
  · have d1 : decide (c.kn ≤ 10) = true := decide_eq_true h10
    have d2 : decide ((c.kn : Int) > 10) = false := decide_eq_false (by omega)
    have d3 : decide (10 < c.kn) = false := decide_eq_false (by omega)
    go_loop [3] (fun iv => ∃ i : Nat, i ≤ c.kn ∧ iv = .int .i64 i) (fun iv => c.kn - (intOf iv).toNat)
    case atStart => exact ⟨0, by omega, rfl⟩
    case round =>
      obtain ⟨i, hi, rfl⟩ := hrel
      by_cases hlt : i < c.kn
      · obtain ⟨kb, ko, hka, hc⟩ := OK.out.2.2.2.2.2.1.2 (by omega)
        have e2 := (hc i hlt).2
        obtain ⟨x, hx⟩ : ∃ x, (c.ks.getD i k0).2 = x := ⟨_, rfl⟩
        rw [hx] at e2
        rw [hka] at i1
        clear hc hx
        by_cases hbig : 100 < x.size
        · have c2 : decide (100 < x.size) = true := decide_eq_true hbig
          have c3 : decide ((x.size : Int) > 100) = true := decide_eq_true (by omega)
          go_wp2_with fail
          go_ret
          exact ⟨true, rfl, BE.out⟩
        · have c2 : decide (100 < x.size) = false := decide_eq_false hbig
          have c3 : decide ((x.size : Int) > 100) = false := decide_eq_false (by omega)
          go_wp2_with fail
          go_round
          case rel => exact ⟨i + 1, by omega, by go_num⟩
          case measure => simp [intOf]; omega
      · obtain rfl : i = c.kn := by omega
        go_wp2_with fail
        refine (great_any c.wa c.wn c.wc c.ws _ OK.out.1 OK.out.2.2.2.1 OK.out.2.2.2.2.1).mono ?_
        generalize greatB c.ws = z
        rintro e w2 ⟨rfl, hb2⟩
        have j1 := (hb2.cell (p := ⟨p, 1, none⟩) (lt_of_cell i1)).trans i1
        have B2 := Lib.hid (BE.out.trans (hb2.mono BE.out.size))
        clear hb2
        cases z
        · go_wp2_with fail
          go_ret
          exact ⟨_, rfl, B2.out⟩
        · go_wp2_with fail
          go_ret
          exact ⟨_, rfl, B2.out⟩
  · have d1 : decide (c.kn ≤ 10) = false := decide_eq_false h10
    have d2 : decide ((c.kn : Int) > 10) = true := decide_eq_true (by omega)
    have d3 : decide (10 < c.kn) = true := decide_eq_true (by omega)
    have d4 : decide (0 < c.kn) = true := decide_eq_true (by omega)
    go_loop [3] (fun iv => iv = .int .i64 ((0 : Nat) : Int)) (fun _ => 0)
    case atStart => exact rfl
    case round =>
      obtain rfl := hrel
      go_wp2_with fail
      refine (great_any c.wa c.wn c.wc c.ws _ OK.out.1 OK.out.2.2.2.1 OK.out.2.2.2.2.1).mono ?_
      generalize greatB c.ws = z
      rintro e w2 ⟨rfl, hb2⟩
      have j1 := (hb2.cell (p := ⟨p, 1, none⟩) (lt_of_cell i1)).trans i1
      have B2 := Lib.hid (BE.out.trans (hb2.mono BE.out.size))
      clear hb2
      cases z
      · go_wp2_with fail
        go_ret
        exact ⟨_, rfl, B2.out⟩
      · go_wp2_with fail
        go_ret
        exact ⟨_, rfl, B2.out⟩
end Go.Proofs.Ytbimbgcejeeinaa
/- two slices of one kind of numbers held against each other -/
namespace Go.Proofs.Ytbimbgcejeeinaa
open Go.RowKit
set_option linter.unusedVariables false
set_option maxRecDepth 20000

set_option maxHeartbeats 400000 in
theorem sameInts_any (a1 a2 : Option Addr) (n1 c1 n2 c2 : Nat) (z1 z2 : List Int) (w : World) (h1 : HoldsI .i64 w a1 n1 z1) (h2 : HoldsI .i64 w a2 n2 z2) (hl1 : n1 ≤ 4611686018427387904) (hl2 : n2 ≤ 4611686018427387904) :
    Calls Try.prog 18 #[.slice a1 n1 c1, .slice a2 n2 c2] w fun e w' => e = .returned (.bool (decide (z1 = z2))) ∧ ∃ m, w' = w.drewN m := by
  obtain ⟨g1, g1'⟩ := h1
  obtain ⟨g2, g2'⟩ := h2
  by_cases hn : n1 = n2
  · subst hn
    rcases Nat.eq_zero_or_pos n1 with h0 | h0
    · subst h0
      clear g1' g2'
      obtain rfl := List.eq_nil_of_length_eq_zero g1
      obtain rfl := List.eq_nil_of_length_eq_zero g2
      go_enter Try.func18, Try.ntmps18
      go_wp2
      go_loop [5] (fun i => i = .int .i64 0) (fun _ => 0)
      case atStart => rfl
      case round =>
        obtain rfl := hrel
        go_wp2
        go_ret
        exact ⟨rfl, 0, rfl⟩
    · obtain ⟨b1, o1, rfl, k1⟩ := g1' h0
      obtain ⟨b2, o2, rfl, k2⟩ := g2' h0
      clear g1' g2'
      have G1 := Lib.hid g1; have G2 := Lib.hid g2; have K1 := Lib.hid k1; have K2 := Lib.hid k2
      clear g1 g2 k1 k2
      go_enter Try.func18, Try.ntmps18
      go_wp2
      go_loopw [5] (fun i wr => ∃ k m : Nat, k ≤ n1 ∧ i = .int .i64 k ∧ z1.take k = z2.take k ∧ wr = w.drewN m) (fun i _ => n1 - (intOf i).toNat)
      case atStart => exact ⟨0, 0, by omega, rfl, rfl, rfl⟩
      case round =>
        obtain ⟨k, m, hk, rfl, he, rfl⟩ := hrel
        have HE := Lib.hid he
        clear he
        by_cases hlt : k < n1
        · have e1 := K1.out k hlt
          have e2 := K2.out k hlt
          obtain ⟨x, hx⟩ : ∃ x, z1.getD k 0 = x := ⟨_, rfl⟩
          obtain ⟨y, hy⟩ : ∃ y, z2.getD k 0 = y := ⟨_, rfl⟩
          rw [hx] at e1; rw [hy] at e2
          have HX := Lib.hid hx; have HY := Lib.hid hy
          clear hx hy
          by_cases hxy : x = y
          · subst hxy
            go_wp2
            go_quiet (fail)
            go_wp2
            go_roundw
            case rel => exact ⟨k + 1, _, by omega, by go_num, by rw [take_succ_getD z1 0 k (by rw [G1.out]; exact hlt), take_succ_getD z2 0 k (by rw [G2.out]; exact hlt), HE.out, HX.out, HY.out], rfl⟩
            case measure => simp [intOf]; omega
          · have hb : (x != y) = true := by simpa using hxy
            go_wp2
            go_quiet (fail)
            go_wp2
            go_ret
            exact ⟨ret_bool (by symm; rw [decide_eq_false_iff_not]; exact take_ne_of_getD 0 k (by rw [HX.out, HY.out]; exact hxy)), _, World.drewN_drewN _ _ _⟩
        · have hkn : k = n1 := by omega
          have HK := Lib.hid hkn
          clear hkn
          go_wp2
          go_ret
          exact ⟨ret_bool (by symm; rw [decide_eq_true_iff]; exact take_eq_all (n := k) HE.out (by rw [G1.out, HK.out]) (by rw [G2.out, HK.out])), _, rfl⟩
  · have hb : ((n1 : Int) != (n2 : Int)) = true := by simp; omega
    clear g1' g2'
    have HN := Lib.hid hn; have G1 := Lib.hid g1; have G2 := Lib.hid g2
    clear hn g1 g2
    go_enter Try.func18, Try.ntmps18
    go_wp2
    go_ret
    exact ⟨ret_bool (by symm; rw [decide_eq_false_iff_not]; intro e; exact HN.out (by rw [← G1.out, ← G2.out, e])), 0, rfl⟩
end Go.Proofs.Ytbimbgcejeeinaa
