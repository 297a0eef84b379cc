/- texts joined -/
import Derived.WalkKit
import Derived.ProofKit
import Derived.OpenShut
import Derived.Lib.SmallJoins
import Derived.Lib.Hide
import Derived.Deep.Slices
import Derived.OwnWalk
import Derived.Laws.AppendOwnNone
import Derived.Test.YthcfpohgjgbhpaaChecked
import Derived.WalkLawsBesides
import Derived.WalkSpells
import Derived.Outline
import Derived.Deep.QuietTactic
import Derived.BigQuiet
import Derived.Deep.DeepCutAuto
import Derived.Maps.OwnSet
import Derived.WalkArith
import Derived.DeepKeys4
import Derived.Carry
import Derived.Deep.RegionHeld3
import Derived.Deep.RegionLaw
import Derived.Deep.AppendLies
import Derived.Lib.SliceRun
import Derived.Laws.RangeAny
import Derived.Lib.DecodeN
import Derived.Lib.OthersKept
/- What a slice of integers in memory holds, told so that a walk can use it; plain lemmas. -/
namespace Go.Proofs.Ythcfpohgjgbhpaa
open Go.ChangeShapes Go.WideShapes Go.ChangeAt Go.RowKit
set_option linter.unusedVariables false
set_option maxRecDepth 20000

theorem ret_int {k : IntKind} {a b : Int} (h : a = b) : Ending.returned (.int k a) = .returned (.int k b) := by rw [h]
theorem ret_bool {a b : Bool} (h : a = b) : Ending.returned (.bool a) = .returned (.bool b) := by rw [h]
theorem below_one (w : World) (o : Obj) : Below w.heap.size w (w.alloc o) := (Below.refl _ _).alloc (Nat.le_refl _) o
theorem bcell {W w1 : World} (hb : Below W.heap.size W w1) : (∀ b o, b < W.heap.size → w1.cell? ⟨b, o, none⟩ = W.cell? ⟨b, o, none⟩) ∧ (∀ b o, b < W.heap.size → w1.frozen? ⟨b, o, none⟩ = W.frozen? ⟨b, o, none⟩) :=
  ⟨fun b o h => hb.cell (p := ⟨b, o, none⟩) h, fun b o h => hb.frozen (p := ⟨b, o, none⟩) h⟩
theorem below_drewN (w : World) (n : Nat) : Below w.heap.size w (w.drewN n) := Joins.below_draws _ _ _

/-- The slice at a of n elements of the kind k holds the numbers zs. (Of a slice of no elements nothing is said of its address.) -/
def HoldsI (k : IntKind) (w : World) (a : Option Addr) (n : Nat) (zs : List Int) : Prop :=
  zs.length = n ∧ (0 < n → ∃ b o, a = some ⟨b, o, none⟩ ∧ ∀ i, i < n → w.cell? ⟨b, o + i, none⟩ = some (.int k (zs.getD i 0)))
theorem HoldsI.len {k : IntKind} {w : World} {a : Option Addr} {n : Nat} {zs : List Int} (h : HoldsI k w a n zs) : zs.length = n := h.1
theorem HoldsI.at {k : IntKind} {w : World} {a : Option Addr} {n : Nat} {zs : List Int} (h : HoldsI k w a n zs) (h0 : 0 < n) : ∃ b o, a = some ⟨b, o, none⟩ ∧ ∀ i, i < n → w.cell? ⟨b, o + i, none⟩ = some (.int k (zs.getD i 0)) := h.2 h0
theorem lt_of_cell {w : World} {b o : Nat} {v : Value} (h : w.cell? ⟨b, o, none⟩ = some v) : b < w.heap.size := by
  rcases Nat.lt_or_ge b w.heap.size with h' | h'
  · exact h'
  · simp [World.cell?, Array.getElem?_eq_none h'] at h
theorem HoldsI.nil (k : IntKind) (w : World) (a : Option Addr) : HoldsI k w a 0 [] := ⟨rfl, fun h => absurd h (by omega)⟩
theorem HoldsI.below {k : IntKind} {w w' : World} {a : Option Addr} {n : Nat} {zs : List Int} (h : HoldsI k w a n zs) (hb : Below w.heap.size w w') : HoldsI k w' a n zs := by
  refine ⟨h.1, fun h0 => ?_⟩
  obtain ⟨b, o, ha, hc⟩ := h.2 h0
  refine ⟨b, o, ha, fun i hi => ?_⟩
  rw [hb.cell (p := ⟨b, o + i, none⟩) (lt_of_cell (hc i hi))]
  exact hc i hi
theorem HoldsI.drewN {k : IntKind} {w : World} {a : Option Addr} {n : Nat} {zs : List Int} (h : HoldsI k w a n zs) (m : Nat) : HoldsI k (w.drewN m) a n zs := h.below (below_drewN w m)
theorem HoldsI.alloc {k : IntKind} {w : World} {a : Option Addr} {n : Nat} {zs : List Int} (h : HoldsI k w a n zs) (o : Obj) : HoldsI k (w.alloc o) a n zs := h.below (below_one w o)
/-- a part of it -/
theorem HoldsI.sub {k : IntKind} {w : World} {b o n : Nat} {zs : List Int} (h : HoldsI k w (some ⟨b, o, none⟩) n zs) (i j : Nat) (hij : i ≤ j) (hj : j ≤ n) : HoldsI k w (some ⟨b, o + i, none⟩) (j - i) ((zs.take j).drop i) := by
  refine ⟨by simp [h.1]; omega, fun h0 => ⟨b, o + i, rfl, fun t ht => ?_⟩⟩
  obtain ⟨b', o', ha, hc⟩ := h.2 (by omega)
  simp only [Option.some.injEq, Addr.mk.injEq, and_true] at ha
  obtain ⟨rfl, rfl⟩ := ha
  rw [Nat.add_assoc, hc (i + t) (by omega)]
  have h1 : ((zs.take j).drop i).getD t 0 = zs.getD (i + t) 0 := by
    simp only [List.getD_eq_getElem?_getD, List.getElem?_drop, List.getElem?_take]
    rw [if_pos (by omega)]
  rw [h1]

theorem HoldsI.part {k : IntKind} {w : World} {b o n : Nat} {zs : List Int} (h : HoldsI k w (some ⟨b, o, none⟩) n zs) (i j : Nat) (hij : i ≤ j) (hj : j ≤ n) (m : Nat) (hm : m = j - i) : HoldsI k w (some ⟨b, o + i, none⟩) m ((zs.take j).drop i) := by
  subst hm; exact h.sub i j hij hj
theorem take_succ_getD {α : Type} (l : List α) (d : α) (k : Nat) (h : k < l.length) : l.take (k + 1) = l.take k ++ [l.getD k d] := by
  rw [List.take_succ_eq_append_getElem h]; simp [List.getD_eq_getElem?_getD, h]
theorem take_ne_of_getD {α : Type} {l m : List α} (d : α) (k : Nat) (h : l.getD k d ≠ m.getD k d) : l ≠ m := fun e => h (by rw [e])
theorem take_eq_all {α : Type} {l m : List α} {n : Nat} (h : l.take n = m.take n) (h1 : l.length = n) (h2 : m.length = n) : l = m := by
  rw [← List.take_of_length_le (Nat.le_of_eq h1), ← List.take_of_length_le (Nat.le_of_eq h2)]; exact h
end Go.Proofs.Ythcfpohgjgbhpaa
/- An argument that is a slice of structs, opened. Of whatever program. -/
namespace Go.Proofs.Ythcfpohgjgbhpaa
open Go.ChangeShapes Go.WideShapes Go.ChangeAt Go.RowKit Go.Deep
set_option linter.unusedVariables false
set_option maxRecDepth 20000
theorem list2 {α : Type} {l : List α} (h : l.length = 2) : ∃ a b, l = [a, b] := by
  match l, h with
  | [a, b], _ => exact ⟨a, b, rfl⟩
theorem list3 {α : Type} {l : List α} (h : l.length = 3) : ∃ a b c, l = [a, b, c] := by
  match l, h with
  | [a, b, c], _ => exact ⟨a, b, c, rfl⟩
theorem list4 {α : Type} {l : List α} (h : l.length = 4) : ∃ a b c d, l = [a, b, c, d] := by
  match l, h with
  | [a, b, c, d], _ => exact ⟨a, b, c, d, rfl⟩
theorem list5 {α : Type} {l : List α} (h : l.length = 5) : ∃ a b c d e, l = [a, b, c, d, e] := by
  match l, h with
  | [a, b, c, d, e], _ => exact ⟨a, b, c, d, e, rfl⟩
theorem list6 {α : Type} {l : List α} (h : l.length = 6) : ∃ a b c d e f, l = [a, b, c, d, e, f] := by
  match l, h with
  | [a, b, c, d, e, f], _ => exact ⟨a, b, c, d, e, f, rfl⟩
theorem list7 {α : Type} {l : List α} (h : l.length = 7) : ∃ a b c d e f g, l = [a, b, c, d, e, f, g] := by
  match l, h with
  | [a, b, c, d, e, f, g], _ => exact ⟨a, b, c, d, e, f, g, rfl⟩
theorem list8 {α : Type} {l : List α} (h : l.length = 8) : ∃ a b c d e f g h, l = [a, b, c, d, e, f, g, h] := by
  match l, h with
  | [a, b, c, d, e, f, g, h], _ => exact ⟨a, b, c, d, e, f, g, h, rfl⟩
theorem open_rows_arg {H : Type} {enc : TypeId × Value → H} {P : Program} {W : World} {base : Nat} {t e : TypeId} {k : Nat} {v : Value} {d : DataW H} {p : List MemPlace}
    (ht : P.underlying t = some (.slice e)) (hc : P.cellsOf e = k) (hk : 0 < k) (good : List Value → Prop)
    (hgood : ∀ m cs y, DataW.trod enc P W 0 (fun _ => true) true m e cs = some y → good cs)
    (o : Value.okWide P W .any base t v) (h : DataW.Trod enc P W 0 (fun _ => true) true t v d p) :
    ∃ (a : Option Addr) (n cap : Nat) (R : Nat → List Value), v = .slice a n cap ∧ (a = none → n = 0 ∧ cap = 0) ∧ n ≤ cap ∧ cap ≤ maxLen ∧ (∀ i, i < n → good (R i)) ∧
      (0 < n → ∃ b o, a = some ⟨b, o, none⟩ ∧ ∀ i, i < n → ∀ j, j < k → W.cell? ⟨b, o + i * k + j, none⟩ = (R i)[j]?) := by
  obtain ⟨a, len, cap, rfl⟩ := okWide_slice ht o
  obtain ⟨fuel, hf⟩ := h
  rcases open_slice ht hf with ⟨hcs, _⟩ | ⟨x, l, c, m, n, D, Pl, hcs, _, hl, hm, hmm, _, hx⟩
  · simp [Value.cells] at hcs
    obtain ⟨rfl, rfl, rfl⟩ := hcs
    exact ⟨none, 0, 0, fun _ => [], rfl, fun _ => ⟨rfl, rfl⟩, Nat.le_refl _, by unfold maxLen; omega, by simp, by simp⟩
  · simp [Value.cells] at hcs
    obtain ⟨rfl, rfl, rfl⟩ := hcs
    simp at hmm
    subst hmm
    rw [hc] at hx
    have hR : ∀ i, ∃ cs' : List Value, i < m → W.cells? 0 (x.add (i * k)) k = some cs' ∧ good cs' := fun i => by
      by_cases hi : i < m
      · obtain ⟨cs', h1, h2⟩ := hx i hi
        exact ⟨cs', fun _ => ⟨h1, hgood _ _ _ h2⟩⟩
      · exact ⟨[], fun h => absurd h hi⟩
    refine ⟨some x, len, m, fun i => (hR i).choose, rfl, (fun h => by cases h), hl, hm, fun i hi => ((hR i).choose_spec (by omega)).2, fun h0 => ?_⟩
    have h1 := fun i (hi : i < m) => (World.cells?_some ((hR i).choose_spec hi).1)
    obtain ⟨b, off, spot⟩ := x
    have hspot : spot = none := by
      have h2 := (h1 0 (by omega)).2.2 0 hk
      have h3 := (h1 0 (by omega)).2.1
      have h4 : ((hR 0).choose)[0]? = some (((hR 0).choose)[0]'(by omega)) := List.getElem?_eq_getElem _
      rw [h4] at h2
      simpa [Addr.add] using World.cell?_spot h2
    subst hspot
    refine ⟨b, off, rfl, fun i hi j hj => ?_⟩
    have h2 := (h1 i (by omega)).2.2 j hj
    rw [← h2, Go.WideShapes.add_plain, Go.WideShapes.add_plain]
/-- the cells of a struct whose fields lie one behind the other, a cell each -/
theorem struct_cells {H : Type} {enc : TypeId × Value → H} {P : Program} {w : World} {base : Nat} {spare : Nat → Bool} {held : Bool} {fuel : Nat} {t : TypeId} {fs : Array Field} {cs : List Value} {x : DataW H × List MemPlace}
    (hs : P.underlying t = some (.struct fs)) (h : DataW.trod enc P w base spare held fuel t cs = some x) :
    cs.length = P.cellsOf t ∧ ∃ n, ∀ (i : Nat) (f : Field), fs[i]? = some f → ∃ y, DataW.trod enc P w base spare held n f.type ((cs.drop f.offset).take (P.cellsOf f.type)) = some y := by
  obtain ⟨xs, n, _, _, hl, hlen, hx⟩ := DataW.trod_struct hs h
  refine ⟨hl, n, fun i f hi => ?_⟩
  have h1 := hx i f hi
  have hlt : i < xs.length := by
    rw [hlen]
    rcases Nat.lt_or_ge i fs.size with h' | h'
    · exact h'
    · rw [Array.getElem?_eq_none h'] at hi; cases hi
  rw [List.getElem?_eq_getElem hlt] at h1
  exact ⟨_, h1⟩
end Go.Proofs.Ythcfpohgjgbhpaa
/- What a slice in memory holds, by its cells' values (elements of one cell each). -/
namespace Go.Proofs.Ythcfpohgjgbhpaa
open Go.ChangeShapes Go.WideShapes Go.ChangeAt Go.RowKit
set_option linter.unusedVariables false
set_option maxRecDepth 20000

/-- The slice at a of n elements, of one cell each, holds the values xs. -/
def HoldsV (w : World) (a : Option Addr) (n : Nat) (xs : List Value) : Prop :=
  xs.length = n ∧ (0 < n → ∃ b o, a = some ⟨b, o, none⟩ ∧ ∀ i, i < n → w.cell? ⟨b, o + i, none⟩ = some (xs.getD i undef))
theorem HoldsV.below {w w' : World} {a : Option Addr} {n : Nat} {xs : List Value} (h : HoldsV w a n xs) (hb : Below w.heap.size w w') : HoldsV w' a n xs := by
  refine ⟨h.1, fun h0 => ?_⟩
  obtain ⟨b, o, ha, hc⟩ := h.2 h0
  refine ⟨b, o, ha, fun i hi => ?_⟩
  rw [hb.cell (p := ⟨b, o + i, none⟩) (lt_of_cell (hc i hi))]
  exact hc i hi
theorem getD_map_int (k : IntKind) (zs : List Int) (i : Nat) (hi : i < zs.length) : (zs.map (Value.int k)).getD i undef = .int k (zs.getD i 0) := by
  simp [List.getD_eq_getElem?_getD, hi]
theorem HoldsI.values {k : IntKind} {w : World} {a : Option Addr} {n : Nat} {zs : List Int} (h : HoldsI k w a n zs) : HoldsV w a n (zs.map (Value.int k)) := by
  refine ⟨by simpa using h.1, fun h0 => ?_⟩
  obtain ⟨b, o, ha, hc⟩ := h.2 h0
  exact ⟨b, o, ha, fun i hi => by rw [hc i hi, getD_map_int k zs i (by rw [h.1]; exact hi)]⟩
theorem HoldsV.cells {w w' : World} {a : Option Addr} {n : Nat} {xs : List Value} (h : HoldsV w a n xs) (hg : w.grownBy w' none) : ∀ ad, a = some ad → ∀ j u, xs[j]? = some u → w'.cell? (ad.add j) = some u := by
  intro ad ha j u hj
  have hlt : j < xs.length := (List.getElem?_eq_some_iff.1 hj).1
  obtain ⟨b, o, hb, hc⟩ := h.2 (by have := h.1; omega)
  rw [ha] at hb
  obtain rfl := Option.some.inj hb
  have h2 := hc j (by have := h.1; omega)
  rw [List.getD_eq_getElem?_getD, hj] at h2
  rw [add_plain]
  exact hg.cell h2 (by simp)
theorem below_grown {w w' : World} {row : Option Nat} (hg : w.grownBy w' row) (hr : ∀ k, row = some k → w.heap.size ≤ k) : Below w.heap.size w w' := (Below.refl _ _).grown hg (Nat.le_refl _) hr
/-- Block B is a row of n + 3 cells that may be written: the first n hold xs, of the three behind them the first k hold the mark. -/
def Roomy (w : World) (B : Nat) (e : TypeId) (mark : Value) (n : Nat) (xs : List Value) (k : Nat) : Prop :=
  ∃ cs : Array Value, w.heap[B]? = some (.cells cs e (0, 0)) ∧ cs.size = n + 3 ∧ (∀ i, i < n → cs[i]? = some (xs.getD i undef)) ∧ ∀ i, i < k → cs[n + i]? = some mark
/-- What 'append' left in a row of n + 3 cells. -/
theorem roomy_of_own {w : World} {base B : Nat} {e : TypeId} {mark : Value} {n : Nat} {xs : List Value} (hl : xs.length = n) (h : w.ownsRow base e 1 (.slice (some ⟨B, 0, none⟩) n (n + 3)) n xs) : Roomy w B e mark n xs 0 := by
  rcases h.2 with ⟨h0, _⟩ | ⟨g, cap, cur, hv, _, hh, _, _, hs, hx⟩
  · cases h0
  · simp only [Value.slice.injEq, Option.some.injEq, Addr.mk.injEq, and_true, true_and] at hv
    obtain ⟨rfl, rfl⟩ := hv
    refine ⟨cur, hh, by omega, fun i hi => ?_, fun i hi => by omega⟩
    rw [Nat.mul_one] at hx
    rw [List.getD_eq_getElem?_getD, ← hx, List.getElem?_take, if_pos hi]
    have hlt : i < cur.size := by omega
    simp [hlt]
theorem Roomy.cell {w : World} {B : Nat} {e : TypeId} {mark : Value} {n : Nat} {xs : List Value} {k : Nat} (h : Roomy w B e mark n xs k) (i : Nat) (hi : i < n) : w.cell? ⟨B, i, none⟩ = some (xs.getD i undef) := by
  obtain ⟨cs, h1, _, h3, _⟩ := h
  rw [Joins.cell_of_block h1]; exact h3 i hi
theorem Roomy.room {w : World} {B : Nat} {e : TypeId} {mark : Value} {n : Nat} {xs : List Value} {k : Nat} (h : Roomy w B e mark n xs k) (i : Nat) (hi : i < k) : w.cell? ⟨B, n + i, none⟩ = some mark := by
  obtain ⟨cs, h1, _, _, h4⟩ := h
  rw [Joins.cell_of_block h1]; exact h4 i hi
theorem Roomy.there {w : World} {B : Nat} {e : TypeId} {mark : Value} {n : Nat} {xs : List Value} {k : Nat} (h : Roomy w B e mark n xs k) (i : Nat) (hi : i < n + 3) : ∃ v, w.cell? ⟨B, i, none⟩ = some v := by
  obtain ⟨cs, h1, h2, _, _⟩ := h
  exact ⟨cs[i]'(by omega), by rw [Joins.cell_of_block h1, Array.getElem?_eq_getElem (by omega)]⟩
theorem Roomy.free {w : World} {B : Nat} {e : TypeId} {mark : Value} {n : Nat} {xs : List Value} {k : Nat} (h : Roomy w B e mark n xs k) (i : Nat) : w.frozen? ⟨B, i, none⟩ = false := by
  obtain ⟨cs, h1, _, _, _⟩ := h
  exact Joins.unfrozen_of_block h1 i
theorem Roomy.put {w : World} {B : Nat} {e : TypeId} {mark : Value} {n : Nat} {xs : List Value} {k : Nat} (h : Roomy w B e mark n xs k) (hk : k < 3) : Roomy (w.setCell ⟨B, n + k, none⟩ mark) B e mark n xs (k + 1) := by
  obtain ⟨cs, h1, h2, h3, h4⟩ := h
  refine ⟨_, Joins.block_setCell h1 mark, by simpa using h2, fun i hi => ?_, fun i hi => ?_⟩
  · rw [Array.getElem?_setIfInBounds, if_neg (by omega)]; exact h3 i hi
  · rw [Array.getElem?_setIfInBounds]
    by_cases e : n + k = n + i
    · rw [if_pos e, if_pos (by omega)]
    · rw [if_neg e]; exact h4 i (by omega)
theorem Roomy.lt {w : World} {B : Nat} {e : TypeId} {mark : Value} {n : Nat} {xs : List Value} {k : Nat} (h : Roomy w B e mark n xs k) : B < w.heap.size := by
  obtain ⟨cs, h1, _⟩ := h
  exact (Array.getElem?_eq_some_iff.1 h1).1
theorem Roomy.below {w w' : World} {B : Nat} {e : TypeId} {mark : Value} {n : Nat} {xs : List Value} {k : Nat} (h : Roomy w B e mark n xs k) (hb : Below w.heap.size w w') : Roomy w' B e mark n xs k := by
  obtain ⟨cs, h1, h2⟩ := h
  exact ⟨cs, by rw [hb.block B (Array.getElem?_eq_some_iff.1 h1).1]; exact h1, h2⟩
theorem Roomy.holds {w : World} {B : Nat} {e : TypeId} {mark : Value} {n : Nat} {xs : List Value} {k : Nat} (hl : xs.length = n) (h : Roomy w B e mark n xs k) : HoldsV w (some ⟨B, 0, none⟩) n xs :=
  ⟨hl, fun _ => ⟨B, 0, rfl, fun i hi => by rw [Nat.zero_add]; exact h.cell i hi⟩⟩
/-- what is owned stays so where what was there stays -/
theorem owns_below {w w' : World} {base : Nat} {e : TypeId} {size : Nat} {v : Value} {n : Nat} {xs : List Value} (h : w.ownsRow base e size v n xs) (hb : Below w.heap.size w w') : w'.ownsRow base e size v n xs := by
  refine ⟨h.1, ?_⟩
  rcases h.2 with h0 | ⟨g, cap, cur, hv, hg, hh, r⟩
  · exact Or.inl h0
  · exact Or.inr ⟨g, cap, cur, hv, hg, by rw [hb.block g (Array.getElem?_eq_some_iff.1 hh).1]; exact hh, r⟩
theorem owns_none {w : World} {base : Nat} {e : TypeId} {size : Nat} {a : Option Addr} {n c : Nat} {xs : List Value} (h : w.ownsRow base e size (.slice a n c) n xs) : (a = none → n = 0 ∧ c = 0) ∧ n ≤ c := by
  rcases h.2 with ⟨hv, hn⟩ | ⟨g, cap, cur, hv, _, _, hc, _⟩
  · simp only [Value.slice.injEq] at hv
    obtain ⟨_, rfl, rfl⟩ := hv
    exact ⟨fun _ => ⟨rfl, rfl⟩, Nat.le_refl _⟩
  · simp only [Value.slice.injEq] at hv
    obtain ⟨rfl, _, rfl⟩ := hv
    exact ⟨(fun h => by cases h), hc⟩
/-- What is owned reads so. -/
theorem owns_holds {w : World} {base : Nat} {e : TypeId} {a : Option Addr} {n c : Nat} {xs : List Value} (h : w.ownsRow base e 1 (.slice a n c) n xs) : HoldsV w a n xs := by
  have hl : xs.length = n := by simpa using h.1
  refine ⟨hl, fun h0 => ?_⟩
  rcases h.2 with ⟨_, h1⟩ | ⟨g, cap, cur, hv, _, hh, hc, _, hs, hx⟩
  · omega
  · simp only [Value.slice.injEq] at hv
    obtain ⟨rfl, _, rfl⟩ := hv
    refine ⟨g, 0, rfl, fun i hi => ?_⟩
    rw [Nat.zero_add, Joins.cell_of_block hh]
    rw [Nat.mul_one] at hx
    rw [List.getD_eq_getElem?_getD, ← hx, List.getElem?_take, if_pos hi]
    have hlt : i < cur.size := by omega
    simp [hlt]
/-- one new cell, to be appended -/
theorem one_new (w : World) (v : Value) (e : TypeId) (fr : Nat × Nat) : ∀ ad, (some ⟨w.heap.size, 0, none⟩ : Option Addr) = some ad → ∀ j u, [v][j]? = some u → (w.alloc (.cells #[v] e fr)).cell? (ad.add j) = some u := by
  intro ad ha j u hj
  obtain rfl := Option.some.inj ha
  match j, hj with
  | 0, hj =>
    simp at hj; subst hj
    rw [add_plain, World.cell?_alloc_mark]; rfl
theorem one_int (k : IntKind) (x : Int) : ∀ u ∈ [Value.int k x], u.oneCell' = true := by simp [Value.oneCell']
theorem one_str (x : ByteArray) : ∀ u ∈ [Value.string x], u.oneCell' = true := by simp [Value.oneCell']
theorem some_none {p : Prop} (a : Addr) : (some a = none) → p := fun h => by cases h
/-- 'append(v, x...)', v nil or the call's own, x whatever slice (nil too): the value is a slice of the call's own. -/
theorem wpList_append_any {P : Program} {w : World} {ops : Array Oper} {rest : List Oper} {o : Oper} {a : Act} {Q : Exit → Act → World → Prop} (hgd : o.guard = none) (s x : Operand) (t : TypeId)
    (ho : o.op = .call { callee := .builtin .append, args := #[s, x], argTypes := #[t, t] })
    (base : Nat) (e : TypeId) (i : TypeInfo) (z : Value) (size bytes : Nat) (ht : P.underlying t = some (.slice e)) (hi : P.info? e = some i) (hz : i.zero = some z)
    (hsize : i.size = size) (hby : i.bytes = bytes) (hzs : z.cells.size = size) (hsz : 0 < size)
    (v : Value) (n : Nat) (xs : List Value) (hs : a.eval s = v) (hown : w.ownsRow base e size v n xs)
    (ao : Option Addr) (m c : Nat) (news : List Value) (hx : a.eval x = .slice ao m c) (hnone : ao = none → m = 0 ∧ c = 0) (hl : news.length = m * size)
    (hnews : ∀ ad, ao = some ad → ∀ j u, news[j]? = some u → w.cell? (ad.add j) = some u) (h1 : ∀ u ∈ news, u.oneCell' = true)
    (h63 : n + m ≤ maxLen) (hbytes : (n + m) * bytes ≤ 140737488355328) (hbase : base ≤ w.heap.size)
    (h : ∀ a' c' w', w'.ownsRow base e size (.slice a' (n + m) c') (n + m) (xs ++ news) → Below base w w' → (a' = none → n + m = 0 ∧ c' = 0) → wpList P ops Q rest (a.put o.dst (.slice a' (n + m) c')) w') : wpList P ops Q (o :: rest) a w := by
  have fin : ∀ v' w', w'.ownsRow base e size v' (n + m) (xs ++ news) → Below base w w' → wpList P ops Q rest (a.put o.dst v') w' := by
    intro v' w' ho' hb'
    rcases Joins.ownsRow_forms ho' with ⟨rfl, h0⟩ | ⟨g, cap, rfl⟩
    · have := h none 0 w' (by rw [h0] at ho' ⊢; exact ho') hb' (fun _ => ⟨h0, rfl⟩)
      rw [h0] at this
      exact this
    · exact h _ _ w' ho' hb' (fun h => by cases h)
  cases ao with
  | some ad =>
    refine wpList_append_own w hgd s x t ho base e i z size bytes ht hi hz hsize hby hzs hsz v n xs hs hown ad m c news hx hl (hnews ad rfl) h1 h63 hbytes hbase fun v' w' h2 h3 _ => ?_
    exact fin v' w' h2 ((Below.refl base w).grown h3 hbase fun k hk => (hown.lt k hk).1)
  | none =>
    obtain ⟨rfl, rfl⟩ := hnone rfl
    have hn : news = [] := List.eq_nil_of_length_eq_zero (by simpa using hl)
    subst hn
    exact wpList_append_own_none hgd s x t ho base e i size ht hi v n xs hs hown hx (fin v w (by simpa using hown) (Below.refl _ _))
end Go.Proofs.Ythcfpohgjgbhpaa
/- lists of api.Ask: 11 cells each -/
namespace Go.Proofs.Ythcfpohgjgbhpaa
open Go.RowKit
set_option linter.unusedVariables false
set_option maxRecDepth 20000
structure AskP where
  slot : Int
  query : Int
  shard : Int
  seq : Int
  epoch : Int
  text : ByteArray
  k : Int
  batch : Int
  first : Bool
  ad : Int
  aw : ByteArray
def ask0 : AskP := ⟨0, 0, 0, 0, 0, ⟨#[]⟩, 0, 0, false, 0, ⟨#[]⟩⟩
def cellsAsk (x : AskP) : List Value := [(.int .i64 x.slot), (.int .i64 x.query), (.int .i64 x.shard), (.int .i64 x.seq), (.int .i64 x.epoch), (.string x.text), (.int .i64 x.k), (.int .i64 x.batch), (.bool x.first), (.int .i64 x.ad), (.string x.aw)]
def HoldsAsk (w : World) (a : Option Addr) (n : Nat) (ks : List AskP) : Prop := ks.length = n ∧ (0 < n → ∃ b o, a = some ⟨b, o, none⟩ ∧ ∀ i, i < n → w.cell? ⟨b, o + i * 11, none⟩ = some (.int .i64 (ks.getD i ask0).slot) ∧ w.cell? ⟨b, o + i * 11 + 1, none⟩ = some (.int .i64 (ks.getD i ask0).query) ∧ w.cell? ⟨b, o + i * 11 + 2, none⟩ = some (.int .i64 (ks.getD i ask0).shard) ∧ w.cell? ⟨b, o + i * 11 + 3, none⟩ = some (.int .i64 (ks.getD i ask0).seq) ∧ w.cell? ⟨b, o + i * 11 + 4, none⟩ = some (.int .i64 (ks.getD i ask0).epoch) ∧ w.cell? ⟨b, o + i * 11 + 5, none⟩ = some (.string (ks.getD i ask0).text) ∧ w.cell? ⟨b, o + i * 11 + 6, none⟩ = some (.int .i64 (ks.getD i ask0).k) ∧ w.cell? ⟨b, o + i * 11 + 7, none⟩ = some (.int .i64 (ks.getD i ask0).batch) ∧ w.cell? ⟨b, o + i * 11 + 8, none⟩ = some (.bool (ks.getD i ask0).first) ∧ w.cell? ⟨b, o + i * 11 + 9, none⟩ = some (.int .i64 (ks.getD i ask0).ad) ∧ w.cell? ⟨b, o + i * 11 + 10, none⟩ = some (.string (ks.getD i ask0).aw))
theorem HoldsAsk.len {w : World} {a : Option Addr} {n : Nat} {ks : List AskP} (h : HoldsAsk w a n ks) : ks.length = n := h.1
theorem HoldsAsk.at {w : World} {a : Option Addr} {n : Nat} {ks : List AskP} (h : HoldsAsk w a n ks) (h0 : 0 < n) : ∃ b o, a = some ⟨b, o, none⟩ ∧ ∀ i, i < n → w.cell? ⟨b, o + i * 11, none⟩ = some (.int .i64 (ks.getD i ask0).slot) ∧ w.cell? ⟨b, o + i * 11 + 1, none⟩ = some (.int .i64 (ks.getD i ask0).query) ∧ w.cell? ⟨b, o + i * 11 + 2, none⟩ = some (.int .i64 (ks.getD i ask0).shard) ∧ w.cell? ⟨b, o + i * 11 + 3, none⟩ = some (.int .i64 (ks.getD i ask0).seq) ∧ w.cell? ⟨b, o + i * 11 + 4, none⟩ = some (.int .i64 (ks.getD i ask0).epoch) ∧ w.cell? ⟨b, o + i * 11 + 5, none⟩ = some (.string (ks.getD i ask0).text) ∧ w.cell? ⟨b, o + i * 11 + 6, none⟩ = some (.int .i64 (ks.getD i ask0).k) ∧ w.cell? ⟨b, o + i * 11 + 7, none⟩ = some (.int .i64 (ks.getD i ask0).batch) ∧ w.cell? ⟨b, o + i * 11 + 8, none⟩ = some (.bool (ks.getD i ask0).first) ∧ w.cell? ⟨b, o + i * 11 + 9, none⟩ = some (.int .i64 (ks.getD i ask0).ad) ∧ w.cell? ⟨b, o + i * 11 + 10, none⟩ = some (.string (ks.getD i ask0).aw) := h.2 h0
theorem HoldsAsk.nil (w : World) (a : Option Addr) : HoldsAsk w a 0 [] := ⟨rfl, fun h => absurd h (by omega)⟩
theorem HoldsAsk.below {w w' : World} {a : Option Addr} {n : Nat} {ks : List AskP} (h : HoldsAsk w a n ks) (hb : Below w.heap.size w w') : HoldsAsk w' a n ks := by
  refine ⟨h.1, fun h0 => ?_⟩
  obtain ⟨b, o, ha, hc⟩ := h.2 h0
  have hlt := lt_of_cell (hc 0 h0).1
  refine ⟨b, o, ha, fun i hi => ?_⟩
  rw [hb.cell (p := ⟨b, o + i * 11, none⟩) hlt, hb.cell (p := ⟨b, o + i * 11 + 1, none⟩) hlt, hb.cell (p := ⟨b, o + i * 11 + 2, none⟩) hlt, hb.cell (p := ⟨b, o + i * 11 + 3, none⟩) hlt, hb.cell (p := ⟨b, o + i * 11 + 4, none⟩) hlt, hb.cell (p := ⟨b, o + i * 11 + 5, none⟩) hlt, hb.cell (p := ⟨b, o + i * 11 + 6, none⟩) hlt, hb.cell (p := ⟨b, o + i * 11 + 7, none⟩) hlt, hb.cell (p := ⟨b, o + i * 11 + 8, none⟩) hlt, hb.cell (p := ⟨b, o + i * 11 + 9, none⟩) hlt, hb.cell (p := ⟨b, o + i * 11 + 10, none⟩) hlt]
  exact hc i hi
theorem getD_memAsk (zs : List AskP) (j : Nat) (h : j < zs.length) : zs.getD j ask0 ∈ zs := by
  rw [List.getD_eq_getElem?_getD, List.getElem?_eq_getElem h]; simp
def asksV : List AskP → List Value
  | [] => []
  | k :: ks => (.int .i64 k.slot) :: (.int .i64 k.query) :: (.int .i64 k.shard) :: (.int .i64 k.seq) :: (.int .i64 k.epoch) :: (.string k.text) :: (.int .i64 k.k) :: (.int .i64 k.batch) :: (.bool k.first) :: (.int .i64 k.ad) :: (.string k.aw) :: asksV ks
theorem asksV_len : ∀ ks : List AskP, (asksV ks).length = ks.length * 11
  | [] => rfl
  | k :: ks => by simp [asksV, asksV_len ks]; omega
theorem asksV_app : ∀ ks ls : List AskP, asksV (ks ++ ls) = asksV ks ++ asksV ls
  | [], ls => rfl
  | k :: ks, ls => by simp [asksV, asksV_app ks ls]
theorem asksV_one : ∀ (ks : List AskP), ∀ u ∈ asksV ks, u.oneCell' = true
  | [], u, h => by simp [asksV] at h
  | k :: ks, u, h => by
    simp only [asksV, List.mem_cons] at h
    rcases h with h | h | h | h | h | h | h | h | h | h | h | h
    · subst h; rfl
    · subst h; rfl
    · subst h; rfl
    · subst h; rfl
    · subst h; rfl
    · subst h; rfl
    · subst h; rfl
    · subst h; rfl
    · subst h; rfl
    · subst h; rfl
    · subst h; rfl
    · exact asksV_one ks u h
theorem asksV_at : ∀ (ks : List AskP) (i : Nat), i < ks.length → (asksV ks)[i * 11]? = some (.int .i64 (ks.getD i ask0).slot) ∧ (asksV ks)[i * 11 + 1]? = some (.int .i64 (ks.getD i ask0).query) ∧ (asksV ks)[i * 11 + 2]? = some (.int .i64 (ks.getD i ask0).shard) ∧ (asksV ks)[i * 11 + 3]? = some (.int .i64 (ks.getD i ask0).seq) ∧ (asksV ks)[i * 11 + 4]? = some (.int .i64 (ks.getD i ask0).epoch) ∧ (asksV ks)[i * 11 + 5]? = some (.string (ks.getD i ask0).text) ∧ (asksV ks)[i * 11 + 6]? = some (.int .i64 (ks.getD i ask0).k) ∧ (asksV ks)[i * 11 + 7]? = some (.int .i64 (ks.getD i ask0).batch) ∧ (asksV ks)[i * 11 + 8]? = some (.bool (ks.getD i ask0).first) ∧ (asksV ks)[i * 11 + 9]? = some (.int .i64 (ks.getD i ask0).ad) ∧ (asksV ks)[i * 11 + 10]? = some (.string (ks.getD i ask0).aw)
  | [], i, h => by simp at h
  | k :: ks, 0, _ => by simp [asksV]
  | k :: ks, i + 1, h => by
    have ih := asksV_at ks i (by simpa using h)
    have e1 : (i + 1) * 11 = i * 11 + 1 + 1 + 1 + 1 + 1 + 1 + 1 + 1 + 1 + 1 + 1 := by omega
    rw [e1]
    simpa [asksV] using ih
theorem asksV_snoc (ks : List AskP) (k : AskP) : asksV (ks ++ [k]) = asksV ks ++ cellsAsk k := by rw [asksV_app]; rfl
theorem HoldsAsk.cells {w : World} {b o n : Nat} {ks : List AskP} (h : HoldsAsk w (some ⟨b, o, none⟩) n ks) : ∀ j u, (asksV ks)[j]? = some u → w.cell? ((⟨b, o, none⟩ : Addr).add j) = some u := by
  intro j u hj
  have hl := h.len
  have hjl : j < (asksV ks).length := by
    rcases Nat.lt_or_ge j (asksV ks).length with h' | h'
    · exact h'
    · rw [List.getElem?_eq_none h'] at hj; cases hj
  rw [asksV_len] at hjl
  obtain ⟨b', o', ha, hc⟩ := h.at (by omega)
  cases ha
  obtain ⟨c0, c1, c2, c3, c4, c5, c6, c7, c8, c9, c10⟩ := hc (j / 11) (by omega)
  obtain ⟨v0, v1, v2, v3, v4, v5, v6, v7, v8, v9, v10⟩ := asksV_at ks (j / 11) (by omega)
  rw [Go.WideShapes.add_plain]
  have hcase : j = j / 11 * 11 ∨ j = j / 11 * 11 + 1 ∨ j = j / 11 * 11 + 2 ∨ j = j / 11 * 11 + 3 ∨ j = j / 11 * 11 + 4 ∨ j = j / 11 * 11 + 5 ∨ j = j / 11 * 11 + 6 ∨ j = j / 11 * 11 + 7 ∨ j = j / 11 * 11 + 8 ∨ j = j / 11 * 11 + 9 ∨ j = j / 11 * 11 + 10 := by omega
  rcases hcase with e | e | e | e | e | e | e | e | e | e | e
  · have e2 : o + j / 11 * 11 = o + j := by omega
    rw [← e] at v0
    rw [e2] at c0
    rw [c0, ← hj, v0]
  · have e2 : o + j / 11 * 11 + 1 = o + j := by omega
    rw [← e] at v1
    rw [e2] at c1
    rw [c1, ← hj, v1]
  · have e2 : o + j / 11 * 11 + 2 = o + j := by omega
    rw [← e] at v2
    rw [e2] at c2
    rw [c2, ← hj, v2]
  · have e2 : o + j / 11 * 11 + 3 = o + j := by omega
    rw [← e] at v3
    rw [e2] at c3
    rw [c3, ← hj, v3]
  · have e2 : o + j / 11 * 11 + 4 = o + j := by omega
    rw [← e] at v4
    rw [e2] at c4
    rw [c4, ← hj, v4]
  · have e2 : o + j / 11 * 11 + 5 = o + j := by omega
    rw [← e] at v5
    rw [e2] at c5
    rw [c5, ← hj, v5]
  · have e2 : o + j / 11 * 11 + 6 = o + j := by omega
    rw [← e] at v6
    rw [e2] at c6
    rw [c6, ← hj, v6]
  · have e2 : o + j / 11 * 11 + 7 = o + j := by omega
    rw [← e] at v7
    rw [e2] at c7
    rw [c7, ← hj, v7]
  · have e2 : o + j / 11 * 11 + 8 = o + j := by omega
    rw [← e] at v8
    rw [e2] at c8
    rw [c8, ← hj, v8]
  · have e2 : o + j / 11 * 11 + 9 = o + j := by omega
    rw [← e] at v9
    rw [e2] at c9
    rw [c9, ← hj, v9]
  · have e2 : o + j / 11 * 11 + 10 = o + j := by omega
    rw [← e] at v10
    rw [e2] at c10
    rw [c10, ← hj, v10]
theorem HoldsAsk.own {w : World} {B : Nat} {e : TypeId} {a : Option Addr} {n c : Nat} {ks : List AskP} (h : w.ownsRow B e 11 (.slice a n c) n (asksV ks)) : HoldsAsk w a n ks := by
  have hl : ks.length = n := by have := h.1; rw [asksV_len] at this; omega
  refine ⟨hl, fun h0 => ?_⟩
  rcases h.2 with ⟨_, h1⟩ | ⟨g, cap, cur, hv, _, hh, hc, _, hs, hx⟩
  · omega
  · simp only [Value.slice.injEq] at hv
    obtain ⟨rfl, _, rfl⟩ := hv
    refine ⟨g, 0, rfl, fun i hi => ?_⟩
    obtain ⟨v0, v1, v2, v3, v4, v5, v6, v7, v8, v9, v10⟩ := asksV_at ks i (by omega)
    rw [← hx] at v0 v1 v2 v3 v4 v5 v6 v7 v8 v9 v10
    rw [List.getElem?_take_of_lt (by omega)] at v0 v1 v2 v3 v4 v5 v6 v7 v8 v9 v10
    rw [Array.getElem?_toList] at v0 v1 v2 v3 v4 v5 v6 v7 v8 v9 v10
    rw [Nat.zero_add, Joins.cell_of_block hh, Joins.cell_of_block hh, Joins.cell_of_block hh, Joins.cell_of_block hh, Joins.cell_of_block hh, Joins.cell_of_block hh, Joins.cell_of_block hh, Joins.cell_of_block hh, Joins.cell_of_block hh, Joins.cell_of_block hh, Joins.cell_of_block hh]
    exact ⟨v0, v1, v2, v3, v4, v5, v6, v7, v8, v9, v10⟩
theorem HoldsAsk.cellsAny {w : World} {a : Option Addr} {n : Nat} {ks : List AskP} (h : HoldsAsk w a n ks) {w' : World} (hg : w.grownBy w' none) : ∀ ad, a = some ad → ∀ j u, (asksV ks)[j]? = some u → w'.cell? (ad.add j) = some u := by
  intro ad ha j u hj
  have hjl : j < (asksV ks).length := (List.getElem?_eq_some_iff.1 hj).1
  rw [asksV_len] at hjl
  obtain ⟨b, o, hb, _⟩ := h.at (by have := h.len; omega)
  rw [ha] at hb
  obtain rfl := Option.some.inj hb
  subst ha
  exact hg.cell (h.cells j u hj) (by simp)
theorem HoldsAsk.cellsAt {w : World} {a : Option Addr} {n : Nat} {ks : List AskP} (h : HoldsAsk w a n ks) : ∀ ad, a = some ad → ∀ j u, (asksV ks)[j]? = some u → w.cell? (ad.add j) = some u := HoldsAsk.cellsAny h ⟨rfl, rfl, rfl, Nat.le_refl _, fun _ _ _ => rfl⟩
end Go.Proofs.Ythcfpohgjgbhpaa
/- queue: the plain state -/
namespace Go.Proofs.Ythcfpohgjgbhpaa
open Go.RowKit
set_option linter.unusedVariables false
set_option maxRecDepth 20000
namespace Qu
def same (x : AskP) (s d : Int) : Prop := x.slot = s ∧ x.shard = d
instance (x : AskP) (s d : Int) : Decidable (same x s d) := by unfold same; infer_instance
/-- where it waits -/
def find (L : List AskP) (s d : Int) : Option AskP := L.find? fun x => decide (same x s d)
def val (a : AskP) : Value := .agg #[.int .i64 a.slot, .int .i64 a.query, .int .i64 a.shard, .int .i64 a.seq, .int .i64 a.epoch, .string a.text, .int .i64 a.k, .int .i64 a.batch, .bool a.first, .int .i64 a.ad, .string a.aw]
def fQ (L : List AskP) (s d : Int) : Option Value := (find L s d).map val
def may (a : AskP) : Prop := (0 ≤ a.slot ∧ a.slot ≤ 3) ∧ (0 ≤ a.shard ∧ a.shard ≤ 5)
structure Good (L : List AskP) : Prop where
  may : ∀ x ∈ L, Qu.may x
  apart : L.Pairwise fun x y => ¬ (x.slot = y.slot ∧ x.shard = y.shard)
theorem good_nil : Good [] := ⟨fun _ h => by simp at h, List.Pairwise.nil⟩
theorem find_none {L : List AskP} {s d : Int} : find L s d = none ↔ ∀ x ∈ L, ¬ same x s d := by
  unfold find; rw [List.find?_eq_none]; simp
theorem find_some {L : List AskP} {s d : Int} {a : AskP} (h : find L s d = some a) : a ∈ L ∧ same a s d := by
  unfold find at h
  exact ⟨List.mem_of_find?_eq_some h, by have := List.find?_some h; simpa using this⟩
theorem find_at {L : List AskP} (hg : Good L) {i : Nat} (hi : i < L.length) : find L (L.getD i ask0).slot (L.getD i ask0).shard = some (L.getD i ask0) := by
  have hm : L.getD i ask0 ∈ L := getD_memAsk L i hi
  cases h : find L (L.getD i ask0).slot (L.getD i ask0).shard with
  | none => exact absurd ⟨rfl, rfl⟩ (find_none.1 h _ hm)
  | some b =>
    obtain ⟨hb, h1, h2⟩ := find_some h
    obtain ⟨j, hj, rfl⟩ := List.getElem_of_mem hb
    have hp := hg.apart
    rw [List.pairwise_iff_getElem] at hp
    have e : L.getD i ask0 = L[i] := by rw [List.getD_eq_getElem?_getD, List.getElem?_eq_getElem hi]; rfl
    rw [e] at h1 h2 ⊢
    rcases Nat.lt_trichotomy i j with x | x | x
    · exact absurd ⟨h1.symm, h2.symm⟩ (hp i j hi hj x)
    · subst x; rfl
    · exact absurd ⟨h1, h2⟩ (hp j i hj hi x)
/-- a comes behind b, which is not wanted any more -/
def newer (a b : AskP) : Prop := a.query > b.query ∨ (a.query = b.query ∧ a.seq > b.seq)
instance (a b : AskP) : Decidable (newer a b) := by unfold newer; infer_instance
instance (a : AskP) : Decidable (may a) := by unfold may; infer_instance
/-- a in the place of what waits there -/
def put (L : List AskP) (a : AskP) : List AskP := L.map fun x => if same x a.slot a.shard then a else x
def pushed (L : List AskP) (a : AskP) : Bool := decide (may a) && match find L a.slot a.shard with | some x => !decide (newer x a) | none => true
def push (L : List AskP) (a : AskP) : List AskP := if pushed L a = true then (match find L a.slot a.shard with | some _ => put L a | none => L ++ [a]) else L
theorem put_len (L : List AskP) (a : AskP) : (put L a).length = L.length := by simp [put]
theorem find_app_none {L : List AskP} {a : AskP} (h : find L a.slot a.shard = none) (s d : Int) : find (L ++ [a]) s d = if a.slot = s ∧ a.shard = d then some a else find L s d := by
  unfold find at h ⊢
  rw [List.find?_append]
  by_cases e : a.slot = s ∧ a.shard = d
  · obtain ⟨rfl, rfl⟩ := e
    rw [h, if_pos ⟨rfl, rfl⟩]
    simp [same]
  · rw [if_neg e]
    have : List.find? (fun x => decide (same x s d)) [a] = none := by
      rw [List.find?_eq_none]; intro x hx; simp at hx; subst hx; simp only [decide_eq_true_eq]; exact e
    rw [this, Option.or_none]
theorem find_put {L : List AskP} {a x : AskP} (h : find L a.slot a.shard = some x) (s d : Int) : find (put L a) s d = if a.slot = s ∧ a.shard = d then some a else find L s d := by
  unfold find put at *
  rw [List.find?_map]
  by_cases e : a.slot = s ∧ a.shard = d
  · obtain ⟨rfl, rfl⟩ := e
    rw [if_pos ⟨rfl, rfl⟩]
    have e2 : ((fun x => decide (same x a.slot a.shard)) ∘ fun x => if same x a.slot a.shard then a else x) = fun x => decide (same x a.slot a.shard) := by
      funext y
      simp only [Function.comp]
      apply decide_eq_decide.2
      by_cases hy : same y a.slot a.shard
      · rw [if_pos hy]; exact ⟨fun _ => hy, fun _ => ⟨rfl, rfl⟩⟩
      · rw [if_neg hy]
    rw [e2, h]
    have hx := List.find?_some h
    simp only [decide_eq_true_eq] at hx
    simp [hx]
  · rw [if_neg e]
    have e2 : ((fun x => decide (same x s d)) ∘ fun x => if same x a.slot a.shard then a else x) = fun x => decide (same x s d) := by
      funext y
      simp only [Function.comp]
      apply decide_eq_decide.2
      by_cases hy : same y a.slot a.shard
      · rw [if_pos hy]
        have h1 : ¬ same a s d := fun h => e ⟨h.1, h.2⟩
        have h2 : ¬ same y s d := fun h => e ⟨hy.1.symm.trans h.1, hy.2.symm.trans h.2⟩
        exact ⟨fun h => absurd h h1, fun h => absurd h h2⟩
      · rw [if_neg hy]
    rw [e2]
    cases hf : List.find? (fun x => decide (same x s d)) L with
    | none => rfl
    | some y =>
      have hy := List.find?_some hf
      simp only [decide_eq_true_eq] at hy
      have : ¬ same y a.slot a.shard := fun h => e ⟨h.1.symm.trans hy.1, h.2.symm.trans hy.2⟩
      simp [this]
theorem put_good {L : List AskP} (hg : Good L) {a : AskP} (ha : may a) : Good (put L a) := by
  refine ⟨fun x hx => ?_, ?_⟩
  · unfold put at hx
    obtain ⟨y, hy, rfl⟩ := List.mem_map.1 hx
    split
    · exact ha
    · exact hg.may y hy
  · unfold put
    rw [List.pairwise_map]
    refine hg.apart.imp_of_mem fun {x y} hx hy h => ?_
    by_cases h1 : same x a.slot a.shard
    · by_cases h2 : same y a.slot a.shard
      · exact absurd ⟨h1.1.trans h2.1.symm, h1.2.trans h2.2.symm⟩ h
      · rw [if_pos h1, if_neg h2]; exact fun e => h2 ⟨e.1.symm, e.2.symm⟩
    · by_cases h2 : same y a.slot a.shard
      · rw [if_neg h1, if_pos h2]; exact fun e => h1 ⟨e.1, e.2⟩
      · rw [if_neg h1, if_neg h2]; exact h
theorem app_good {L : List AskP} (hg : Good L) {a : AskP} (ha : may a) (h : find L a.slot a.shard = none) : Good (L ++ [a]) := by
  refine ⟨fun x hx => ?_, ?_⟩
  · rcases List.mem_append.1 hx with hx | hx
    · exact hg.may x hx
    · simp at hx; subst hx; exact ha
  · rw [List.pairwise_append]
    refine ⟨hg.apart, by simp, fun x hx y hy => ?_⟩
    simp at hy; subst hy
    exact fun e => find_none.1 h x hx ⟨e.1, e.2⟩
theorem push_good {L : List AskP} (hg : Good L) (a : AskP) : Good (push L a) := by
  unfold push
  split
  · rename_i h
    have ha : may a := by unfold pushed at h; simp at h; exact h.1
    split
    · exact put_good hg ha
    · rename_i h2; exact app_good hg ha h2
  · exact hg
theorem put_pl {L : List AskP} {a : AskP} : (put L a).map (fun x => (x.slot, x.shard)) = L.map fun x => (x.slot, x.shard) := by
  unfold put
  rw [List.map_map]
  apply List.map_congr_left
  intro x hx
  simp only [Function.comp]
  split
  · rename_i h; rw [h.1, h.2]
  · rfl
/-- what a Stop leaves -/
def keeps (s q : Int) (x : AskP) : Bool := !(decide (x.slot = s) && decide (x.query ≤ q))
def stop (L : List AskP) (s q : Int) : List AskP := L.filter (keeps s q)
theorem filter_good {L : List AskP} (hg : Good L) (p : AskP → Bool) : Good (L.filter p) := ⟨fun x hx => hg.may x (List.mem_filter.1 hx).1, hg.apart.filter p⟩
theorem tail_good {L : List AskP} (hg : Good L) : Good L.tail := by
  cases L with
  | nil => exact hg
  | cons x l => exact ⟨fun y hy => hg.may y (by simp at hy ⊢; exact Or.inr hy), (List.pairwise_cons.1 hg.apart).2⟩
theorem find_tail {x : AskP} {l : List AskP} (hg : Good (x :: l)) (s d : Int) : find l s d = if s = x.slot ∧ d = x.shard then none else find (x :: l) s d := by
  by_cases e : s = x.slot ∧ d = x.shard
  · rw [if_pos e, find_none]
    obtain ⟨rfl, rfl⟩ := e
    intro y hy h
    exact (List.pairwise_cons.1 hg.apart).1 y hy ⟨h.1.symm, h.2.symm⟩
  · rw [if_neg e]
    unfold find
    rw [List.find?_cons_of_neg]
    simp only [decide_eq_true_eq]
    exact fun h => e ⟨h.1.symm, h.2.symm⟩
/-- there is room for twenty-four -/
theorem good_len {L : List AskP} (hg : Good L) : L.length ≤ 24 := by
  have h1 : (L.map fun x => (x.slot * 6 + x.shard).toNat).Nodup := by
    rw [List.Nodup, List.pairwise_map]
    refine hg.apart.imp_of_mem fun {x y} hx hy h => ?_
    have a := hg.may x hx; have b := hg.may y hy
    unfold may at a b
    intro e
    apply h
    omega
  have h2 : ∀ y ∈ (L.map fun x => (x.slot * 6 + x.shard).toNat), y ∈ List.range 24 := by
    intro y hy
    obtain ⟨x, hx, rfl⟩ := List.mem_map.1 hy
    have a := hg.may x hx
    unfold may at a
    rw [List.mem_range]; omega
  have := List.Nodup.length_le_of_subset h1 h2
  simpa using this
end Qu
end Go.Proofs.Ythcfpohgjgbhpaa
/- what a call may turn: the blocks of a set, and new ones -/
namespace Go.Proofs.Ythcfpohgjgbhpaa
open Go.RowKit
set_option linter.unusedVariables false
set_option maxRecDepth 20000
/-- apart from the blocks of F, and new ones, the world w' is as w was -/
structure Turn (F : Nat → Prop) (w w' : World) : Prop where
  os : w'.os = w.os
  tape : w'.tape = w.tape
  output : w'.output = w.output
  size : w.heap.size ≤ w'.heap.size
  block : ∀ k, k < w.heap.size → ¬ F k → w'.heap[k]? = w.heap[k]?
theorem Turn.refl (F : Nat → Prop) (w : World) : Turn F w w := ⟨rfl, rfl, rfl, Nat.le_refl _, fun _ _ _ => rfl⟩
theorem Turn.trans {F : Nat → Prop} {w w1 w2 : World} (h : Turn F w w1) (k : Turn F w1 w2) : Turn F w w2 :=
  ⟨k.os.trans h.os, k.tape.trans h.tape, k.output.trans h.output, Nat.le_trans h.size k.size, fun i hi hF => (k.block i (Nat.lt_of_lt_of_le hi h.size) hF).trans (h.block i hi hF)⟩
theorem Turn.mono {F G : Nat → Prop} {w w' : World} (h : Turn F w w') (hF : ∀ k, F k → G k) : Turn G w w' := ⟨h.os, h.tape, h.output, h.size, fun k hk hn => h.block k hk (fun x => hn (hF k x))⟩
/-- what was new in the first step may turn in the second -/
theorem Turn.trans' {F G : Nat → Prop} {w w1 w2 : World} (h : Turn F w w1) (k : Turn G w1 w2) (hG : ∀ i, G i → F i ∨ w.heap.size ≤ i) : Turn F w w2 :=
  ⟨k.os.trans h.os, k.tape.trans h.tape, k.output.trans h.output, Nat.le_trans h.size k.size, fun i hi hF => (k.block i (Nat.lt_of_lt_of_le hi h.size) (fun g => by rcases hG i g with x | x; exact hF x; omega)).trans (h.block i hi hF)⟩
theorem Turn.setCell {F : Nat → Prop} {w : World} {b o : Nat} {v : Value} (hb : F b) : Turn F w (w.setCell ⟨b, o, none⟩ v) :=
  ⟨rfl, rfl, rfl, by simp [World.setCell], fun k _ hk => Below.heap_setCell _ _ _ _ (fun e => hk (by rw [e]; exact hb))⟩
theorem Turn.alloc (F : Nat → Prop) (w : World) (o : Obj) : Turn F w (w.alloc o) := ⟨rfl, rfl, rfl, by simp, fun k hk _ => Below.heap_alloc _ _ _ hk⟩
theorem Turn.drewN (F : Nat → Prop) (w : World) (n : Nat) : Turn F w (w.drewN n) := by
  have h := below_drewN w n
  exact ⟨h.os, h.tape, h.output, h.size, fun k hk _ => h.block k hk⟩
theorem Turn.drew {F : Nat → Prop} {a w : World} (h : Turn F a w) : Turn F a w.drew := ⟨h.os, h.tape, h.output, h.size, h.block⟩
theorem Turn.of_below {F : Nat → Prop} {w w' : World} (h : Below w.heap.size w w') : Turn F w w' := ⟨h.os, h.tape, h.output, h.size, fun k hk _ => h.block k hk⟩
theorem Turn.below {F : Nat → Prop} {B : Nat} {w w' : World} (h : Turn F w w') (hF : ∀ k, F k → B ≤ k) (hB : B ≤ w.heap.size) : Below B w w' :=
  ⟨h.os, h.tape, h.output, h.size, fun k hk => h.block k (by omega) (fun x => by have := hF k x; omega)⟩
theorem Turn.cell {F : Nat → Prop} {w w' : World} (h : Turn F w w') {b o : Nat} (hb : b < w.heap.size) (hF : ¬ F b) : w'.cell? ⟨b, o, none⟩ = w.cell? ⟨b, o, none⟩ := World.cell?_of_block (w := w) (h.block b hb hF)
theorem Turn.frozen {F : Nat → Prop} {w w' : World} (h : Turn F w w') {b o : Nat} (hb : b < w.heap.size) (hF : ¬ F b) : w'.frozen? ⟨b, o, none⟩ = w.frozen? ⟨b, o, none⟩ := World.frozen?_of_block (w := w) (h.block b hb hF)
theorem cset_at {w : World} {b o : Nat} {u v : Value} (h : w.cell? ⟨b, o, none⟩ = some u) : (w.setCell ⟨b, o, none⟩ v).cell? ⟨b, o, none⟩ = some v := World.cell?_setCell_same _ _ _ h
theorem cset_ne {w : World} {b o p : Nat} {v : Value} (h : o ≠ p) : (w.setCell ⟨b, o, none⟩ v).cell? ⟨b, p, none⟩ = w.cell? ⟨b, p, none⟩ := World.cell?_setCell_other _ _ _ _ (by intro e; injection e; contradiction)
theorem cset_far {w : World} {b c o p : Nat} {v : Value} (h : b ≠ c) : (w.setCell ⟨b, o, none⟩ v).cell? ⟨c, p, none⟩ = w.cell? ⟨c, p, none⟩ := World.cell?_setCell_other _ _ _ _ (by intro e; injection e; contradiction)
theorem fset_any {w : World} {a : Addr} {v : Value} {p : Addr} : (w.setCell a v).frozen? p = w.frozen? p := by simp
theorem cell_alloc {w : World} {cs : Array Value} {T : TypeId} {B o : Nat} (hB : B = w.heap.size) : (w.alloc (.cells cs T)).cell? ⟨B, o, none⟩ = cs[o]? := by subst hB; simp
theorem cell_alloc_old {w : World} {o : Obj} {b p : Nat} (h : b < w.heap.size) : (w.alloc o).cell? ⟨b, p, none⟩ = w.cell? ⟨b, p, none⟩ := (below_one w o).cell (p := ⟨b, p, none⟩) h
theorem frozen_alloc {w : World} {cs : Array Value} {T : TypeId} {B o : Nat} (hB : B = w.heap.size) : (w.alloc (.cells cs T)).frozen? ⟨B, o, none⟩ = false := by subst hB; simp
end Go.Proofs.Ythcfpohgjgbhpaa
/- a map from places (two numbers each) to whatever, in memory, as a function -/
namespace Go.Proofs.Ythcfpohgjgbhpaa
open Go.RowKit Go.Maps
set_option linter.unusedVariables false
set_option maxRecDepth 20000
theorem laidOutTry : laidOutB Try.prog = true := by kernel_rfl
theorem rowPl : (56 : TypeId) < Try.prog.types.size := of_decide_eq_true (by kernel_rfl)
theorem widePl : (match Try.prog.underlying 56 with | some (.array _ _) | some (.struct _) => true | _ => false) = true := by rw [Try.underlying56]
theorem lawPl : Keyed Try.prog 56 := Keyed.of_law (deep_law_laid laidOutTry (m := 2) (by omega) rowPl (by kernel_rfl) widePl)
/-- what a place reads as -/
def plitQ (x y : Int) : Lit := .string (keyBytes [.int .i64 x, .int .i64 y])
def plV (x y : Int) : Value := .agg #[.int .i64 x, .int .i64 y]
theorem cellsPl : Try.prog.cellsOf 56 = 2 := by kernel_rfl
theorem cellsIn : Try.prog.cellsOf 3 = 1 := by kernel_rfl
theorem typePl : Try.prog.keyType 56 = true := by kernel_rfl
theorem sizePl : ∃ d, Try.prog.types.size + 1 = d + 2 := ⟨Try.prog.types.size - 1, by have h : 1 ≤ Try.prog.types.size := Nat.succ_le_of_lt (Nat.lt_of_le_of_lt (Nat.zero_le _) rowPl); omega⟩
theorem keyPl {x y : Int} (hx : (Lit.int .i64 x).wf = true) (hy : (Lit.int .i64 y).wf = true) : keyOf Try.prog 56 (.agg #[.int .i64 x, .int .i64 y]) = some (plitQ x y) := by
  obtain ⟨d, hd⟩ := sizePl
  unfold keyOf
  rw [Try.underlying56]
  simp only [typePl, Bool.true_and]
  rw [hd]
  simp [Value.formed, Try.underlying56, cellsPl, Value.cells, Program.keyLits, cellsIn, Try.underlying3, hx, hy, plitQ]
theorem plit_inj {x y x' y' : Int} (hx : (Lit.int .i64 x).wf = true) (hy : (Lit.int .i64 y).wf = true) (hx' : (Lit.int .i64 x').wf = true) (hy' : (Lit.int .i64 y').wf = true) (h : plitQ x y = plitQ x' y') : x = x' ∧ y = y' := by
  have h1 := keyPl hx hy
  have h2 := keyPl hx' hy'
  rw [← h] at h2
  have := lawPl.inj h1 h2
  simp at this
  exact this
/-- an element reads as itself -/
def anyE (v : Value) : Option (DataW Value × List MemPlace) := some (.held v, [])
theorem tight_mapQ {P : Program} {k : TypeId} {R : Value → Option (DataW Value × List MemPlace)} {w : World} {b n : Nat} {D : DataW Value} (h : w.ownsMap P k R b n D) : w.ownsMap P k R b (Maps.size D) D := by
  obtain ⟨es, clock, hb, F, hs, rfl⟩ := h
  exact ⟨es, clock, hb, F, by simp [Maps.size, length_sorted], rfl⟩
def wf2 (x y : Int) : Prop := (Lit.int .i64 x).wf = true ∧ (Lit.int .i64 y).wf = true
/-- block b is a map of n entries: what f says -/
def MapQ (w : World) (b n : Nat) (f : Int → Int → Option Value) : Prop :=
  ∃ D : DataW Value, w.ownsMap Try.prog 56 anyE b n D ∧ Maps.size D = n ∧
    ∀ x y, wf2 x y → Maps.has D (plitQ x y) = (f x y).isSome ∧ ∀ v, f x y = some v → ∀ z, D.atKey (plitQ x y) z = .held v
/-- f with v at x y -/
def qset (f : Int → Int → Option Value) (x y : Int) (v : Option Value) : Int → Int → Option Value := fun a b => if a = x ∧ b = y then v else f a b
theorem qset_at (f : Int → Int → Option Value) (x y : Int) (v : Option Value) : qset f x y v x y = v := by simp [qset]
theorem qset_ne (f : Int → Int → Option Value) (x y a b : Int) (v : Option Value) (h : ¬ (a = x ∧ b = y)) : qset f x y v a b = f a b := by simp only [qset, if_neg h]
theorem MapQ.lt {w : World} {b n : Nat} {f : Int → Int → Option Value} (h : MapQ w b n f) : b < w.heap.size := by obtain ⟨D, h, _⟩ := h; exact h.lt
theorem MapQ.block {w w' : World} {b n : Nat} {f : Int → Int → Option Value} (h : MapQ w b n f) (hb : w'.heap[b]? = w.heap[b]?) : MapQ w' b n f := by
  obtain ⟨D, ⟨es, clock, h1, h2⟩, h3⟩ := h
  exact ⟨D, ⟨es, clock, hb.trans h1, h2⟩, h3⟩
theorem MapQ.turn {w w' : World} {b n : Nat} {f : Int → Int → Option Value} {F : Nat → Prop} (h : MapQ w b n f) (t : Turn F w w') (hF : ¬ F b) : MapQ w' b n f := h.block (t.block b h.lt hF)
theorem MapQ.below {w w' : World} {b n : Nat} {f : Int → Int → Option Value} (h : MapQ w b n f) (t : Below w.heap.size w w') : MapQ w' b n f := h.block (t.block b h.lt)
theorem MapQ.setCell {w : World} {b n p o : Nat} {v : Value} {f : Int → Int → Option Value} (h : MapQ w b n f) (hp : b ≠ p) : MapQ (w.setCell ⟨p, o, none⟩ v) b n f := h.block (Below.heap_setCell _ _ _ _ hp)
theorem MapQ.no_cell {w : World} {b n : Nat} {f : Int → Int → Option Value} (h : MapQ w b n f) (o : Nat) (v : Value) : w.cell? ⟨b, o, none⟩ ≠ some v := by
  obtain ⟨D, ⟨es, clock, h1, h2⟩, h3⟩ := h
  simp [World.cell?, h1]
theorem mapQ_made (w : World) : MapQ (w.alloc (.map #[] 0)) w.heap.size 0 (fun _ _ => none) :=
  ⟨.map [], World.ownsMap_made w _ _ _, rfl, fun x y _ => ⟨rfl, fun v h => by cases h⟩⟩
theorem TurnQ.of_mapTurned {F : Nat → Prop} {w w' : World} {b : Nat} (h : w.mapTurned w' b) (hb : F b) : Turn F w w' := by
  have g := h.grown
  exact ⟨g.os, g.tape, g.output, g.size, fun k hk hn => g.block k hk (fun e => hn (by cases e; exact hb))⟩
theorem MapQ.put_run {w : World} {b n : Nat} {f : Int → Int → Option Value} (H : MapQ w b n f) (hn : n < maxLen) (x y : Int) (val : Value) (hk : wf2 x y) :
    ∃ w', (Instr.mapUpdate 50 (.map (some b)) (.agg #[.int .i64 x, .int .i64 y]) val).run Try.prog w = .ok () w' ∧ MapQ w' b (if (f x y).isSome then n else n + 1) (qset f x y (some val)) ∧ w.mapTurned w' b := by
  obtain ⟨D, hown, hs, hf⟩ := H
  have hkey := keyPl hk.1 hk.2
  obtain ⟨w', hrun, r1, r2⟩ := hown.store lawPl Try.underlying50 hn hkey (show anyE val = some (.held val, []) from rfl)
  have hD := hown.isMap
  have hsz := Maps.size_put (k := plitQ x y) (hown.tidy lawPl) (.held val)
  rw [(hf x y hk).1, hs] at hsz
  refine ⟨w', hrun, ⟨_, hsz ▸ tight_mapQ r1, hsz, fun a c hac => ?_⟩, r2⟩
  by_cases e : a = x ∧ c = y
  · obtain ⟨rfl, rfl⟩ := e
    rw [qset_at]
    exact ⟨Maps.has_put_same (k := plitQ a c) hD trivial _, fun v h z => by injection h with h; subst h; exact Maps.atKey_put_same (k := plitQ a c) hD trivial _ _⟩
  · have hne : plitQ a c ≠ plitQ x y := fun h => e (plit_inj hac.1 hac.2 hk.1 hk.2 h)
    rw [qset_ne _ _ _ _ _ _ e]
    exact ⟨by rw [Maps.has_put_other hne]; exact (hf a c hac).1, fun v h z => by rw [Maps.atKey_put_other hne]; exact (hf a c hac).2 v h z⟩
theorem MapQ.del_run {w : World} {b n : Nat} {f : Int → Int → Option Value} (H : MapQ w b n f) (x y : Int) (hk : wf2 x y) (ty : TypeId) :
    ∃ w', (Builtin.delete_ #[50, 56] ty #[.map (some b), .agg #[.int .i64 x, .int .i64 y]]).run Try.prog w = .ok (.tuple #[]) w' ∧ MapQ w' b (if (f x y).isSome then n - 1 else n) (qset f x y none) ∧ w.mapTurned w' b := by
  obtain ⟨D, hown, hs, hf⟩ := H
  have hkey := keyPl hk.1 hk.2
  obtain ⟨w', hrun, r1, r2⟩ := hown.drop lawPl Try.underlying50 hkey ty
  have hsz := Maps.size_del (k := plitQ x y) (hown.tidy lawPl)
  rw [(hf x y hk).1, hs] at hsz
  have hsz2 : Maps.size (D.del (plitQ x y)) = if (f x y).isSome then n - 1 else n := by split <;> simp_all <;> omega
  refine ⟨w', hrun, ⟨_, hsz2 ▸ tight_mapQ r1, hsz2, fun a c hac => ?_⟩, r2⟩
  by_cases e : a = x ∧ c = y
  · obtain ⟨rfl, rfl⟩ := e
    rw [qset_at]
    exact ⟨Maps.has_del_same, fun v h => by cases h⟩
  · have hne : plitQ a c ≠ plitQ x y := fun h => e (plit_inj hac.1 hac.2 hk.1 hk.2 h)
    rw [qset_ne _ _ _ _ _ _ e]
    exact ⟨by rw [Maps.has_del_other hne]; exact (hf a c hac).1, fun v h z => by rw [Maps.atKey_del_other hne]; exact (hf a c hac).2 v h z⟩
def zAsk : Value := .agg #[.int .i64 0, .int .i64 0, .int .i64 0, .int .i64 0, .int .i64 0, .string ⟨#[]⟩, .int .i64 0, .int .i64 0, .bool false, .int .i64 0, .string ⟨#[]⟩]
theorem zeroMq (w : World) : (zeroValue 34).run Try.prog w = .ok zAsk w := by kernel_rfl
theorem MapQ.look_run {w : World} {b n : Nat} {f : Int → Int → Option Value} (H : MapQ w b n f) (x y : Int) (hk : wf2 x y) :
    (Instr.lookup 50 (.map (some b)) (.agg #[.int .i64 x, .int .i64 y]) true).run Try.prog w = .ok (.tuple #[(f x y).getD zAsk, .bool (f x y).isSome]) w := by
  obtain ⟨D, hown, hs, hf⟩ := H
  obtain ⟨v, ps, hrun, hv⟩ := hown.look_ok lawPl Try.underlying50 (zeroMq w) (show anyE zAsk = some (.held zAsk, []) from rfl) (keyPl hk.1 hk.2)
  have hc : DataW.held v = D.atKey (plitQ x y) (.held zAsk) := by
    unfold anyE at hv
    injection hv with h; injection h
  have e : v = (f x y).getD zAsk := by
    cases hfk : f x y with
    | none =>
      have h1 := (hf x y hk).1
      rw [hfk] at h1
      rw [Maps.atKey_of_not_has (by simpa using h1)] at hc
      injection hc with h
    | some u =>
      rw [(hf x y hk).2 u hfk] at hc
      injection hc with h
  rw [hrun, (hf x y hk).1, e]
theorem MapQ.get_run {w : World} {b n : Nat} {f : Int → Int → Option Value} (H : MapQ w b n f) (x y : Int) (hk : wf2 x y) :
    (Instr.lookup 50 (.map (some b)) (.agg #[.int .i64 x, .int .i64 y]) false).run Try.prog w = .ok ((f x y).getD zAsk) w := by
  obtain ⟨D, hown, hs, hf⟩ := H
  obtain ⟨v, ps, hrun, hv⟩ := hown.lookup lawPl Try.underlying50 (zeroMq w) (show anyE zAsk = some (.held zAsk, []) from rfl) (keyPl hk.1 hk.2)
  have hc : DataW.held v = D.atKey (plitQ x y) (.held zAsk) := by
    unfold anyE at hv
    injection hv with h; injection h
  have e : v = (f x y).getD zAsk := by
    cases hfk : f x y with
    | none =>
      have h1 := (hf x y hk).1
      rw [hfk] at h1
      rw [Maps.atKey_of_not_has (by simpa using h1)] at hc
      injection hc with h
    | some u =>
      rw [(hf x y hk).2 u hfk] at hc
      injection hc with h
  rw [hrun, e]
section
variable {o : Oper} {a : Act} {w : World} {K : Act → World → Prop} {Q : Exit → Act → World → Prop} {ops : Array Oper} {rest : List Oper}
theorem wp_look_mq (m x : Operand) (hop : o.op = Op.lookup 50 m x true) {b n : Nat} {f : Int → Int → Option Value} (hm : a.eval m = .map (some b)) (H : MapQ w b n f) (x1 x2 : Int) (hx : a.eval x = .agg #[.int .i64 x1, .int .i64 x2]) (hk : wf2 x1 x2) (v : Value) (s : Bool) (hv : (f x1 x2).getD zAsk = v) (hs : (f x1 x2).isSome = s)
    (hK : K (a.put o.dst (.tuple #[v, .bool s])) w) : o.wp Try.prog a w K Q := by
  have hrun := H.look_run x1 x2 hk
  rw [hv, hs] at hrun
  unfold Oper.wp
  simp [execOp, hop, hm, hx, hrun, Result.andThen]
  exact hK
theorem wp_get_mq (m x : Operand) (hop : o.op = Op.lookup 50 m x false) {b n : Nat} {f : Int → Int → Option Value} (hm : a.eval m = .map (some b)) (H : MapQ w b n f) (x1 x2 : Int) (hx : a.eval x = .agg #[.int .i64 x1, .int .i64 x2]) (hk : wf2 x1 x2) (v : Value) (hv : (f x1 x2).getD zAsk = v)
    (hK : K (a.put o.dst v) w) : o.wp Try.prog a w K Q := by
  have hrun := H.get_run x1 x2 hk
  rw [hv] at hrun
  unfold Oper.wp
  simp [execOp, hop, hm, hx, hrun, Result.andThen]
  exact hK
theorem wp_put_mq (m x v : Operand) (hop : o.op = Op.mapUpdate 50 m x v) {b n : Nat} {f : Int → Int → Option Value} (hm : a.eval m = .map (some b)) (H : MapQ w b n f) (hn : n < maxLen) (x1 x2 : Int) (val : Value) (hx : a.eval x = .agg #[.int .i64 x1, .int .i64 x2]) (hv : a.eval v = val) (hk : wf2 x1 x2)
    (hK : ∀ w', MapQ w' b (if (f x1 x2).isSome then n else n + 1) (qset f x1 x2 (some val)) → w.mapTurned w' b → K (a.put o.dst undef) w') : o.wp Try.prog a w K Q := by
  obtain ⟨w', hrun, r1, r2⟩ := H.put_run hn x1 x2 val hk
  unfold Oper.wp
  simp [execOp, hop, hm, hx, hv, hrun, Result.andThen]
  exact hK w' r1 r2
theorem wp_del_mq (m x : Operand) (hop : o.op = Op.call { callee := Callee.builtin Builtin.delete, args := #[m, x], argTypes := #[50, 56] }) {b n : Nat} {f : Int → Int → Option Value} (hm : a.eval m = .map (some b)) (H : MapQ w b n f) (x1 x2 : Int) (hx : a.eval x = .agg #[.int .i64 x1, .int .i64 x2]) (hk : wf2 x1 x2)
    (hK : ∀ w', MapQ w' b (if (f x1 x2).isSome then n - 1 else n) (qset f x1 x2 none) → w.mapTurned w' b → K (a.put o.dst (.tuple #[])) w') : o.wp Try.prog a w K Q := by
  obtain ⟨w', hrun, r1, r2⟩ := H.del_run x1 x2 hk o.type
  unfold Oper.wp
  simp [execOp, hop, resolve, invoke, builtin, hm, hx, hrun, Result.andThen]
  exact hK w' r1 r2
end
end Go.Proofs.Ythcfpohgjgbhpaa
/- queue: in memory; New, Len, newer -/
namespace Go.Proofs.Ythcfpohgjgbhpaa
open Go.RowKit
set_option linter.unusedVariables false
set_option maxRecDepth 20000
def plcV : List AskP → List Value
  | [] => []
  | x :: l => .int .i64 x.slot :: .int .i64 x.shard :: plcV l
theorem plcV_len : ∀ l : List AskP, (plcV l).length = l.length * 2
  | [] => rfl
  | x :: l => by simp [plcV, plcV_len l]; omega
theorem plcV_app : ∀ k l : List AskP, plcV (k ++ l) = plcV k ++ plcV l
  | [], l => rfl
  | x :: k, l => by simp [plcV, plcV_app k l]
theorem plcV_at : ∀ (l : List AskP) (i : Nat), i < l.length → (plcV l)[i * 2]? = some (.int .i64 (l.getD i ask0).slot) ∧ (plcV l)[i * 2 + 1]? = some (.int .i64 (l.getD i ask0).shard)
  | [], i, h => by simp at h
  | x :: l, 0, _ => by simp [plcV]
  | x :: l, i + 1, h => by
    have ih := plcV_at l i (by simpa using h)
    have e1 : (i + 1) * 2 = i * 2 + 1 + 1 := by omega
    rw [e1]
    simpa [plcV] using ih
theorem plcV_put (L : List AskP) (a : AskP) : plcV (Qu.put L a) = plcV L := by
  unfold Qu.put
  induction L with
  | nil => rfl
  | cons x l ih =>
    simp only [List.map_cons, plcV, ih]
    split
    · rename_i h; rw [h.1, h.2]
    · rfl
/-- block b is a queue that holds L; its blocks lie in S -/
def QAt (w : World) (b : Nat) (L : List AskP) (S : Nat → Prop) : Prop :=
  ∃ a c bm, w.cell? ⟨b, 0, none⟩ = some (.slice a L.length c) ∧ w.cell? ⟨b, 1, none⟩ = some (.map (some bm)) ∧ (∀ i, w.frozen? ⟨b, i, none⟩ = false) ∧
    w.ownsRow 0 56 2 (.slice a L.length c) L.length (plcV L) ∧ MapQ w bm L.length (Qu.fQ L) ∧ b ≠ bm ∧ S b ∧ S bm ∧ (∀ g, a = some ⟨g, 0, none⟩ → S g ∧ g ≠ b ∧ g ≠ bm) ∧ ∀ k, S k → k < w.heap.size
theorem owns_block0 {w w' : World} {base : Nat} {e : TypeId} {size : Nat} {a : Option Addr} {n c : Nat} {xs : List Value} (h : w.ownsRow base e size (.slice a n c) n xs) (hb : ∀ g, a = some ⟨g, 0, none⟩ → w'.heap[g]? = w.heap[g]?) : w'.ownsRow base e size (.slice a n c) n xs := by
  refine ⟨h.1, ?_⟩
  rcases h.2 with h1 | ⟨g, cap, cur, hv, hge, hh, r⟩
  · exact Or.inl h1
  · have hv' := hv
    simp only [Value.slice.injEq] at hv'
    exact Or.inr ⟨g, cap, cur, hv, hge, (hb g hv'.1).trans hh, r⟩
theorem QAt.blocks {w w' : World} {b : Nat} {L : List AskP} {S : Nat → Prop} (h : QAt w b L S) (hs : w.heap.size ≤ w'.heap.size) (hb : ∀ k, S k → w'.heap[k]? = w.heap[k]?) : QAt w' b L S := by
  obtain ⟨a, c, bm, h1, h2, h3, h4, h5, h6, h7, h8, h9, h10⟩ := h
  have eb := hb b h7
  exact ⟨a, c, bm, (World.cell?_of_block (w := w) eb).trans h1, (World.cell?_of_block (w := w) eb).trans h2, fun i => (World.frozen?_of_block (w := w) eb).trans (h3 i), owns_block0 h4 (fun g hg => hb g (h9 g hg).1), h5.block (hb bm h8), h6, h7, h8, h9, fun k hk => Nat.lt_of_lt_of_le (h10 k hk) hs⟩
theorem QAt.lt {w : World} {b : Nat} {L : List AskP} {S : Nat → Prop} (h : QAt w b L S) : ∀ k, S k → k < w.heap.size := by obtain ⟨a, c, bm, h1, h2, h3, h4, h5, h6, h7, h8, h9, h10⟩ := h; exact h10
theorem QAt.has {w : World} {b : Nat} {L : List AskP} {S : Nat → Prop} (h : QAt w b L S) : S b := by obtain ⟨a, c, bm, h1, h2, h3, h4, h5, h6, h7, h8, h9, h10⟩ := h; exact h7
theorem QAt.turn {w w' : World} {b : Nat} {L : List AskP} {S F : Nat → Prop} (h : QAt w b L S) (t : Turn F w w') (hF : ∀ k, S k → ¬ F k) : QAt w' b L S :=
  h.blocks t.size fun k hk => t.block k (h.lt k hk) (hF k hk)
theorem QAt.below {w w' : World} {b : Nat} {L : List AskP} {S : Nat → Prop} (h : QAt w b L S) (t : Below w.heap.size w w') : QAt w' b L S :=
  h.blocks t.size fun k hk => t.block k (h.lt k hk)
theorem QAt.wider {w : World} {b : Nat} {L : List AskP} {S T : Nat → Prop} (h : QAt w b L S) (hS : ∀ k, S k → T k) (hT : ∀ k, T k → k < w.heap.size) : QAt w b L T := by
  obtain ⟨a, c, bm, h1, h2, h3, h4, h5, h6, h7, h8, h9, h10⟩ := h
  exact ⟨a, c, bm, h1, h2, h3, h4, h5, h6, hS _ h7, hS _ h8, fun g hg => ⟨hS _ (h9 g hg).1, (h9 g hg).2⟩, hT⟩
/-- S and what is new -/
def andNew (S : Nat → Prop) (w w' : World) : Nat → Prop := fun k => S k ∨ (w.heap.size ≤ k ∧ k < w'.heap.size)
theorem qNew_any (w : World) :
    Calls Try.prog 10 #[] w fun e w' => ∃ b S, e = .returned (.pointer (some ⟨b, 0, none⟩)) ∧ QAt w' b [] S ∧ (∀ k, S k → w.heap.size ≤ k) ∧ Below w.heap.size w w' := by
  have hmm := @run_makeMap Try.prog
  go_enter Try.func10, Try.ntmps10
  go_wp2_with fail
  go_ret
  have m1 : MapQ (w.alloc (.map #[] 0)) w.heap.size 0 (fun _ _ => none) := mapQ_made w
  have m2 := m1.below (below_one _ (.cells #[.slice none 0 0, .map (some w.heap.size)] 53))
  refine ⟨w.heap.size + 1, fun k => k = w.heap.size ∨ k = w.heap.size + 1, rfl, ⟨none, 0, w.heap.size, by rw [cell_alloc (by simp)]; rfl, by rw [cell_alloc (by simp)]; rfl, fun i => frozen_alloc (by simp), World.ownsRow_nil _ _ _ _, m2, by omega, Or.inr rfl, Or.inl rfl, fun g hg => (by cases hg), fun k hk => by simp; omega⟩, fun k hk => by omega, ((Below.refl _ _).alloc (Nat.le_refl _) _).alloc (by simp) _⟩
theorem qLen_none (w : World) : Calls Try.prog 18 #[.pointer none] w fun e w' => e = .returned (.int .i64 0) ∧ w = w' := by
  go_enter Try.func18, Try.ntmps18
  go_wp2_with fail
  go_ret
  exact ⟨rfl, rfl⟩
theorem qLen_any {L : List AskP} {S : Nat → Prop} (b : Nat) (w : World) (h : QAt w b L S) :
    Calls Try.prog 18 #[.pointer (some ⟨b, 0, none⟩)] w fun e w' => e = .returned (.int .i64 L.length) ∧ w = w' := by
  obtain ⟨a, c, bm, h1, h2⟩ := h
  clear h2
  go_enter Try.func18, Try.ntmps18
  go_wp2_with fail
  go_ret
  exact ⟨rfl, rfl⟩
theorem newer_any (a b : AskP) (w : World) :
    Calls Try.prog 23 #[.agg #[.int .i64 a.slot, .int .i64 a.query, .int .i64 a.shard, .int .i64 a.seq, .int .i64 a.epoch, .string a.text, .int .i64 a.k, .int .i64 a.batch, .bool a.first, .int .i64 a.ad, .string a.aw], .agg #[.int .i64 b.slot, .int .i64 b.query, .int .i64 b.shard, .int .i64 b.seq, .int .i64 b.epoch, .string b.text, .int .i64 b.k, .int .i64 b.batch, .bool b.first, .int .i64 b.ad, .string b.aw]] w
      fun e w' => e = .returned (.bool (decide (Qu.newer a b))) ∧ Below w.heap.size w w' := by
  have hB : ∀ o1 o2, Below w.heap.size w ((w.alloc o1).alloc o2) := fun o1 o2 => ((Below.refl _ _).alloc (Nat.le_refl _) _).alloc (by simp) _
  obtain ⟨z, hz⟩ : ∃ z, decide (Qu.newer a b) = z := ⟨_, rfl⟩
  rw [hz]
  have HB := Lib.hid hB
  by_cases h1 : a.query > b.query
  · have d1 : decide (a.query > b.query) = true := decide_eq_true h1
    have d2 : decide (b.query < a.query) = true := decide_eq_true h1
    obtain rfl : z = true := by rw [← hz]; exact decide_eq_true (Or.inl h1)
    clear hz hB
    go_enter Try.func23, Try.ntmps23
    go_wp2_with fail
    go_ret
    exact ⟨rfl, HB.out _ _⟩
  · have d1 : decide (b.query < a.query) = false := decide_eq_false h1
    by_cases h2 : a.query = b.query
    · have d3 : (a.query == b.query) = true := by simpa using h2
      by_cases h3 : a.seq > b.seq
      · have d4 : decide (b.seq < a.seq) = true := decide_eq_true h3
        obtain rfl : z = true := by rw [← hz]; exact decide_eq_true (Or.inr ⟨h2, h3⟩)
        clear hz hB h2
        go_enter Try.func23, Try.ntmps23
        go_wp2_with fail
        go_ret
        exact ⟨rfl, HB.out _ _⟩
      · have d4 : decide (b.seq < a.seq) = false := decide_eq_false h3
        obtain rfl : z = false := by rw [← hz]; exact decide_eq_false (fun h => h.elim h1 (fun x => h3 x.2))
        clear hz hB h2
        go_enter Try.func23, Try.ntmps23
        go_wp2_with fail
        go_ret
        exact ⟨rfl, HB.out _ _⟩
    · have d3 : (a.query == b.query) = false := by simpa using h2
      obtain rfl : z = false := by rw [← hz]; exact decide_eq_false (fun h => h.elim h1 (fun x => h2 x.1))
      clear hz hB
      go_enter Try.func23, Try.ntmps23
      go_wp2_with fail
      go_ret
      exact ⟨rfl, HB.out _ _⟩
end Go.Proofs.Ythcfpohgjgbhpaa
/- queue: Push -/
namespace Go.Proofs.Ythcfpohgjgbhpaa
open Go.RowKit
set_option linter.unusedVariables false
set_option maxRecDepth 20000
theorem qin_lit (n lo hi : Int) (c : Bool) (w : World) (h : decide (lo ≤ n ∧ n ≤ hi) = c) :
    Calls Try.prog 22 #[.int .i64 n, .int .i64 lo, .int .i64 hi] w fun e w' => e = .returned (.bool c) ∧ w = w' := by
  subst h
  go_enter Try.func22, Try.ntmps22
  go_wp2
  all_goals (go_ret; exact ⟨ret_bool (by simp; try omega), rfl⟩)
def askA (a : AskP) : Value := .agg #[.int .i64 a.slot, .int .i64 a.query, .int .i64 a.shard, .int .i64 a.seq, .int .i64 a.epoch, .string a.text, .int .i64 a.k, .int .i64 a.batch, .bool a.first, .int .i64 a.ad, .string a.aw]
def PushP (w : World) (b : Nat) (L : List AskP) (S : Nat → Prop) (a : AskP) (e : Ending) (w' : World) : Prop :=
  e = .returned (.bool (Qu.pushed L a)) ∧ ∃ S', QAt w' b (Qu.push L a) S' ∧ (∀ k, S' k → S k ∨ w.heap.size ≤ k) ∧ Turn S w w'
theorem push_no {w w' : World} {b : Nat} {L : List AskP} {S : Nat → Prop} {a : AskP} (h : QAt w b L S) (hp : Qu.pushed L a = false) (hb : Below w.heap.size w w') : PushP w b L S a (.returned (.bool false)) w' := by
  refine ⟨by rw [hp], S, ?_, fun k hk => Or.inl hk, Turn.of_below hb⟩
  unfold Qu.push
  rw [hp, if_neg (by decide)]
  exact h.below hb
theorem qpush_none (a : AskP) (w : World) : Calls Try.prog 11 #[.pointer none, .agg #[.int .i64 a.slot, .int .i64 a.query, .int .i64 a.shard, .int .i64 a.seq, .int .i64 a.epoch, .string a.text, .int .i64 a.k, .int .i64 a.batch, .bool a.first, .int .i64 a.ad, .string a.aw]] w fun e w' => e = .returned (.bool false) ∧ Below w.heap.size w w' := by
  go_enter Try.func11, Try.ntmps11
  go_wp2_with fail
  go_ret
  exact ⟨rfl, below_one _ _⟩
theorem qpush_out (a : AskP) (b : Nat) {L : List AskP} {S : Nat → Prop} (w : World) (h : QAt w b L S) (hm : ¬ Qu.may a) :
    Calls Try.prog 11 #[.pointer (some ⟨b, 0, none⟩), .agg #[.int .i64 a.slot, .int .i64 a.query, .int .i64 a.shard, .int .i64 a.seq, .int .i64 a.epoch, .string a.text, .int .i64 a.k, .int .i64 a.batch, .bool a.first, .int .i64 a.ad, .string a.aw]] w (PushP w b L S a) := by
  have HP := Lib.hid (fun w' hb => push_no (w' := w') h (show Qu.pushed L a = false by unfold Qu.pushed; rw [decide_eq_false hm]; rfl) hb)
  have hlt := h.lt b h.has
  have HM := Lib.hid hm
  clear h hm
  by_cases h1 : 0 ≤ a.slot ∧ a.slot ≤ 3
  · have h2 : decide (0 ≤ a.shard ∧ a.shard ≤ 5) = false := decide_eq_false (fun h2 => HM.out ⟨h1, h2⟩)
    have H1 := Lib.hid (decide_eq_true h1); have H2 := Lib.hid h2
    clear h1 h2
    go_enter Try.func11, Try.ntmps11
    go_wp2_with fail
    refine (qin_lit _ _ _ _ _ H1.out).mono ?_
    rintro e w' ⟨rfl, rfl⟩
    go_wp2_with fail
    refine (qin_lit _ _ _ _ _ H2.out).mono ?_
    rintro e w' ⟨rfl, rfl⟩
    go_wp2_with fail
    go_ret
    exact HP.out _ (below_one _ _)
  · have H1 := Lib.hid (decide_eq_false h1)
    clear h1
    go_enter Try.func11, Try.ntmps11
    go_wp2_with fail
    refine (qin_lit _ _ _ _ _ H1.out).mono ?_
    rintro e w' ⟨rfl, rfl⟩
    go_wp2_with fail
    go_ret
    exact HP.out _ (below_one _ _)
/-- the cells of an Ask in block p -/
def AskIn (w : World) (p : Nat) (a : AskP) : Prop := w.cell? ⟨p, 0, none⟩ = some (.int .i64 a.slot) ∧ w.cell? ⟨p, 1, none⟩ = some (.int .i64 a.query) ∧ w.cell? ⟨p, 2, none⟩ = some (.int .i64 a.shard) ∧ w.cell? ⟨p, 3, none⟩ = some (.int .i64 a.seq) ∧ w.cell? ⟨p, 4, none⟩ = some (.int .i64 a.epoch) ∧ w.cell? ⟨p, 5, none⟩ = some (.string a.text) ∧ w.cell? ⟨p, 6, none⟩ = some (.int .i64 a.k) ∧ w.cell? ⟨p, 7, none⟩ = some (.int .i64 a.batch) ∧ w.cell? ⟨p, 8, none⟩ = some (.bool a.first) ∧ w.cell? ⟨p, 9, none⟩ = some (.int .i64 a.ad) ∧ w.cell? ⟨p, 10, none⟩ = some (.string a.aw)
theorem AskIn.of {w w' : World} {p : Nat} {a : AskP} (h : AskIn w p a) (e : ∀ i, w'.cell? ⟨p, i, none⟩ = w.cell? ⟨p, i, none⟩) : AskIn w' p a := by
  unfold AskIn at *
  rw [e, e, e, e, e, e, e, e, e, e, e]; exact h
theorem AskIn.below {w w' : World} {p : Nat} {a : AskP} (h : AskIn w p a) (hb : Below w.heap.size w w') : AskIn w' p a := h.of fun i => hb.cell (p := ⟨p, i, none⟩) (lt_of_cell h.1)
theorem askIn_new (w : World) (a : AskP) (p : Nat) (e : TypeId) (fr : Nat × Nat) (hp : p = w.heap.size) : AskIn (w.alloc (.cells #[.int .i64 a.slot, .int .i64 a.query, .int .i64 a.shard, .int .i64 a.seq, .int .i64 a.epoch, .string a.text, .int .i64 a.k, .int .i64 a.batch, .bool a.first, .int .i64 a.ad, .string a.aw] e fr)) p a := by
  subst hp
  unfold AskIn
  refine ⟨?_, ?_, ?_, ?_, ?_, ?_, ?_, ?_, ?_, ?_, ?_⟩ <;> (rw [World.cell?_alloc_mark]; rfl)
def PlIn (w : World) (p : Nat) (x y : Int) : Prop := w.cell? ⟨p, 0, none⟩ = some (.int .i64 x) ∧ w.cell? ⟨p, 1, none⟩ = some (.int .i64 y)
theorem PlIn.below {w w' : World} {p : Nat} {x y : Int} (h : PlIn w p x y) (hb : Below w.heap.size w w') : PlIn w' p x y :=
  ⟨(hb.cell (p := ⟨p, 0, none⟩) (lt_of_cell h.1)).trans h.1, (hb.cell (p := ⟨p, 1, none⟩) (lt_of_cell h.1)).trans h.2⟩
theorem plIn_new (w : World) (x y : Int) (p : Nat) (e : TypeId) (fr : Nat × Nat) (hp : p = w.heap.size) : PlIn (w.alloc (.cells #[.int .i64 x, .int .i64 y] e fr)) p x y := by
  subst hp
  constructor <;> (rw [World.cell?_alloc_mark]; rfl)
theorem push_start (w : World) (a : AskP) (e1 e2 : TypeId) (f1 f2 : Nat × Nat) : Below w.heap.size w ((w.alloc (.cells #[.int .i64 a.slot, .int .i64 a.query, .int .i64 a.shard, .int .i64 a.seq, .int .i64 a.epoch, .string a.text, .int .i64 a.k, .int .i64 a.batch, .bool a.first, .int .i64 a.ad, .string a.aw] e1 f1)).alloc (.cells #[.int .i64 a.slot, .int .i64 a.shard] e2 f2)) ∧
    AskIn ((w.alloc (.cells #[.int .i64 a.slot, .int .i64 a.query, .int .i64 a.shard, .int .i64 a.seq, .int .i64 a.epoch, .string a.text, .int .i64 a.k, .int .i64 a.batch, .bool a.first, .int .i64 a.ad, .string a.aw] e1 f1)).alloc (.cells #[.int .i64 a.slot, .int .i64 a.shard] e2 f2)) w.heap.size a ∧ PlIn ((w.alloc (.cells #[.int .i64 a.slot, .int .i64 a.query, .int .i64 a.shard, .int .i64 a.seq, .int .i64 a.epoch, .string a.text, .int .i64 a.k, .int .i64 a.batch, .bool a.first, .int .i64 a.ad, .string a.aw] e1 f1)).alloc (.cells #[.int .i64 a.slot, .int .i64 a.shard] e2 f2)) (w.heap.size + 1) a.slot a.shard :=
  ⟨((Below.refl _ _).alloc (Nat.le_refl _) _).alloc (by simp) _, (askIn_new w a _ e1 f1 rfl).below (below_one _ _), plIn_new _ _ _ _ e2 f2 (by simp)⟩
theorem wf_small {x : Int} (h : 0 ≤ x ∧ x ≤ 5) : (Lit.int .i64 x).wf = true := Go.WalkArith.wf_i64 ⟨by omega, by omega⟩
/-- a queue whose order is that of L', and whose map says f -/
def MidQ (w : World) (b bm n : Nat) (f : Int → Int → Option Value) (ao : Option Addr) (co : Nat) (L' : List AskP) (T : Nat → Prop) : Prop :=
  w.cell? ⟨b, 0, none⟩ = some (.slice ao L'.length co) ∧ w.cell? ⟨b, 1, none⟩ = some (.map (some bm)) ∧ (∀ i, w.frozen? ⟨b, i, none⟩ = false) ∧
    w.ownsRow 0 56 2 (.slice ao L'.length co) L'.length (plcV L') ∧ MapQ w bm n f ∧ b ≠ bm ∧ T b ∧ T bm ∧ (∀ g, ao = some ⟨g, 0, none⟩ → T g ∧ g ≠ b ∧ g ≠ bm) ∧ ∀ k, T k → k < w.heap.size
theorem QAt.mid {w : World} {b : Nat} {L : List AskP} {S : Nat → Prop} (h : QAt w b L S) : ∃ ao co bm, MidQ w b bm L.length (Qu.fQ L) ao co L S := h
theorem MidQ.qat {w : World} {b bm n : Nat} {f : Int → Int → Option Value} {ao : Option Addr} {co : Nat} {L' : List AskP} {T : Nat → Prop} (h : MidQ w b bm n f ao co L' T) (hn : n = L'.length) (hf : ∀ x y, f x y = Qu.fQ L' x y) : QAt w b L' T := by
  subst hn
  have e : f = Qu.fQ L' := by funext x y; exact hf x y
  subst e
  exact ⟨ao, co, bm, h⟩
/-- the map alone has turned -/
theorem MidQ.map {w w' : World} {b bm n m : Nat} {f g : Int → Int → Option Value} {ao : Option Addr} {co : Nat} {L' : List AskP} {T : Nat → Prop} (h : MidQ w b bm n f ao co L' T) (hm : MapQ w' bm m g) (ht : w.mapTurned w' bm) : MidQ w' b bm m g ao co L' T := by
  obtain ⟨h1, h2, h3, h4, h5, h6, h7, h8, h9, h10⟩ := h
  have tt := TurnQ.of_mapTurned (F := fun k => k = bm) ht rfl
  have hb := h10 b h7
  refine ⟨(tt.cell hb h6).trans h1, (tt.cell hb h6).trans h2, fun i => (tt.frozen hb h6).trans (h3 i), owns_block0 h4 (fun g hg => tt.block g (h10 g (h9 g hg).1) (h9 g hg).2.2), hm, h6, h7, h8, h9, fun k hk => Nat.lt_of_lt_of_le (h10 k hk) tt.size⟩
theorem MidQ.below {w w' : World} {b bm n : Nat} {f : Int → Int → Option Value} {ao : Option Addr} {co : Nat} {L' : List AskP} {T : Nat → Prop} (h : MidQ w b bm n f ao co L' T) (hb : Below w.heap.size w w') : MidQ w' b bm n f ao co L' T := by
  obtain ⟨h1, h2, h3, h4, h5, h6, h7, h8, h9, h10⟩ := h
  have hl := h10 b h7
  exact ⟨(hb.cell (p := ⟨b, 0, none⟩) hl).trans h1, (hb.cell (p := ⟨b, 1, none⟩) hl).trans h2, fun i => (hb.frozen (p := ⟨b, i, none⟩) hl).trans (h3 i), owns_block0 h4 (fun g hg => hb.block g (h10 g (h9 g hg).1)), h5.below hb, h6, h7, h8, h9, fun k hk => Nat.lt_of_lt_of_le (h10 k hk) hb.size⟩
/-- the order has been appended to, and stored -/
theorem MidQ.grown {w w1 : World} {b bm n : Nat} {f : Int → Int → Option Value} {ao : Option Addr} {co : Nat} {L : List AskP} {a : AskP} {S : Nat → Prop} {g cap H : Nat} (h : MidQ w b bm n f ao co L S)
    (own : w1.ownsRow 0 56 2 (.slice (some ⟨g, 0, none⟩) (L.length + 1) cap) (L.length + 1) (plcV L ++ [.int .i64 a.slot, .int .i64 a.shard])) (hg : w.grownBy w1 (Value.slice ao L.length co).ownBlock)
    (hat : (Value.slice ao L.length co).ownBlock = some g ∨ g = H) (hH : w.heap.size ≤ H) (hlt : g < w1.heap.size) :
    MidQ (w1.setCell ⟨b, 0, none⟩ (.slice (some ⟨g, 0, none⟩) (L.length + 1) cap)) b bm n f (some ⟨g, 0, none⟩) cap (L ++ [a]) (fun k => S k ∨ k = g) ∧ Turn S w (w1.setCell ⟨b, 0, none⟩ (.slice (some ⟨g, 0, none⟩) (L.length + 1) cap)) ∧ (S g ∨ w.heap.size ≤ g) := by
  obtain ⟨h1, h2, h3, h4, h5, h6, h7, h8, h9, h10⟩ := h
  have hb := h10 b h7
  have hbm := h10 bm h8
  have ho : ∀ k, (Value.slice ao L.length co).ownBlock = some k → S k ∧ k ≠ b ∧ k ≠ bm := by
    intro k hk
    rcases h4.2 with ⟨e, _⟩ | ⟨g', c', cur, e, _⟩
    · rw [e] at hk; cases hk
    · rw [e] at hk
      simp only [Value.ownBlock, Option.some.injEq] at hk
      subst hk
      simp only [Value.slice.injEq] at e
      exact h9 _ e.1
  have hgne : g ≠ b ∧ g ≠ bm ∧ (S g ∨ w.heap.size ≤ g) := by
    rcases hat with x | x
    · obtain ⟨y1, y2, y3⟩ := ho g x; exact ⟨y2, y3, Or.inl y1⟩
    · subst x; exact ⟨by omega, by omega, Or.inr hH⟩
  have bb : w1.heap[b]? = w.heap[b]? := hg.block b hb (fun e => (ho b e.symm).2.1 rfl)
  have bbm : w1.heap[bm]? = w.heap[bm]? := hg.block bm hbm (fun e => (ho bm e.symm).2.2 rfl)
  have cb : ∀ i, w1.cell? ⟨b, i, none⟩ = w.cell? ⟨b, i, none⟩ := fun i => World.cell?_of_block (w := w) bb
  have tt : Turn S w w1 := ⟨hg.os, hg.tape, hg.output, hg.size, fun k hk hn => hg.block k hk (fun e => hn (ho k e.symm).1)⟩
  refine ⟨⟨?_, ?_, fun i => ?_, ?_, ?_, h6, Or.inl h7, Or.inl h8, fun g' hg' => ?_, fun k hk => ?_⟩, tt.trans (Turn.setCell h7), hgne.2.2⟩
  · rw [List.length_append]; exact cset_at ((cb 0).trans h1)
  · rw [cset_ne (by omega), cb]; exact h2
  · rw [fset_any, World.frozen?_of_block (w := w) bb]; exact h3 i
  · rw [List.length_append, plcV_app]
    refine owns_block0 own (fun g' hg' => ?_)
    injection hg' with e; injection e with e; subst e
    exact Below.heap_setCell _ _ _ _ hgne.1
  · exact (h5.block bbm).setCell (Ne.symm h6)
  · injection hg' with e; injection e with e; subst e
    exact ⟨Or.inr rfl, hgne.1, hgne.2.1⟩
  · have := hg.size
    rw [show (w1.setCell ⟨b, 0, none⟩ (.slice (some ⟨g, 0, none⟩) (L.length + 1) cap)).heap.size = w1.heap.size by simp [World.setCell]]
    rcases hk with hk | rfl
    · exact Nat.lt_of_lt_of_le (h10 k hk) this
    · exact hlt
theorem MidQ.far {w w4 : World} {b bm n : Nat} {f : Int → Int → Option Value} {ao : Option Addr} {co : Nat} {L : List AskP} {S : Nat → Prop} {o : Obj} (h : MidQ w b bm n f ao co L S) (hg : ((w.alloc o).drew).grownBy w4 (Value.slice ao L.length co).ownBlock) :
    w4.cell? ⟨b, 0, none⟩ = some (.slice ao L.length co) ∧ w4.frozen? ⟨b, 0, none⟩ = false := by
  obtain ⟨h1, h2, h3, h4, h5, h6, h7, h8, h9, h10⟩ := h
  have hb := h10 b h7
  have e1 : ((w.alloc o).drew).heap[b]? = w.heap[b]? := Below.heap_alloc _ _ _ hb
  have e2 : w4.heap[b]? = ((w.alloc o).drew).heap[b]? := hg.block b (by show b < (w.alloc o).heap.size; simp; omega) (fun e => by
    rcases h4.2 with ⟨e', _⟩ | ⟨g', c', cur, e', _⟩
    · rw [e'] at e; cases e
    · rw [e'] at e
      simp only [Value.ownBlock, Option.some.injEq] at e
      subst e
      simp only [Value.slice.injEq] at e'
      exact (h9 _ e'.1).2.1 rfl)
  exact ⟨(World.cell?_of_block (w := w) (e2.trans e1)).trans h1, (World.frozen?_of_block (w := w) (e2.trans e1)).trans (h3 0)⟩
theorem push_done_new {w w5 : World} {b bm : Nat} {L : List AskP} {a : AskP} {S T : Nat → Prop} {ao : Option Addr} {co : Nat} (hm : Qu.may a) (hf : Qu.find L a.slot a.shard = none)
    (h : MidQ w5 b bm (if (Qu.fQ L a.slot a.shard).isSome then L.length else L.length + 1) (qset (Qu.fQ L) a.slot a.shard (some (Qu.val a))) ao co (L ++ [a]) T) (hT : ∀ k, T k → S k ∨ w.heap.size ≤ k) (t : Turn S w w5) : PushP w b L S a (.returned (.bool true)) w5 := by
  have hp : Qu.pushed L a = true := by unfold Qu.pushed; rw [decide_eq_true hm, hf]; rfl
  have hq : Qu.push L a = L ++ [a] := by unfold Qu.push; rw [hp, if_pos rfl, hf]
  refine ⟨by rw [hp], T, ?_, hT, t⟩
  rw [hq]
  refine h.qat ?_ (fun x y => ?_)
  · unfold Qu.fQ; rw [hf]; simp
  · unfold qset Qu.fQ
    rw [Qu.find_app_none hf]
    by_cases e : x = a.slot ∧ y = a.shard
    · rw [if_pos e, if_pos ⟨e.1.symm, e.2.symm⟩]; rfl
    · rw [if_neg e, if_neg (fun h => e ⟨h.1.symm, h.2.symm⟩)]
theorem push_done_put {w w5 : World} {b bm : Nat} {L : List AskP} {a x : AskP} {S T : Nat → Prop} {ao : Option Addr} {co : Nat} (hm : Qu.may a) (hf : Qu.find L a.slot a.shard = some x) (hn : ¬ Qu.newer x a)
    (h : MidQ w5 b bm (if (Qu.fQ L a.slot a.shard).isSome then L.length else L.length + 1) (qset (Qu.fQ L) a.slot a.shard (some (Qu.val a))) ao co L T) (hT : ∀ k, T k → S k ∨ w.heap.size ≤ k) (t : Turn S w w5) : PushP w b L S a (.returned (.bool true)) w5 := by
  have hp : Qu.pushed L a = true := by unfold Qu.pushed; rw [decide_eq_true hm, hf]; simp [hn]
  have hq : Qu.push L a = Qu.put L a := by unfold Qu.push; rw [hp, if_pos rfl, hf]
  refine ⟨by rw [hp], T, ?_, hT, t⟩
  rw [hq]
  obtain ⟨h1, h2, h3, h4, h5, h6⟩ := h
  have hl := Qu.put_len L a
  refine MidQ.qat (n := if (Qu.fQ L a.slot a.shard).isSome then L.length else L.length + 1) (f := qset (Qu.fQ L) a.slot a.shard (some (Qu.val a))) (ao := ao) (co := co) (bm := bm) ⟨by rw [hl]; exact h1, h2, h3, by rw [hl, plcV_put]; exact h4, h5, h6⟩ ?_ (fun x y => ?_)
  · unfold Qu.fQ; rw [hf, hl]; simp
  · unfold qset Qu.fQ
    rw [Qu.find_put hf]
    by_cases e : x = a.slot ∧ y = a.shard
    · rw [if_pos e, if_pos ⟨e.1.symm, e.2.symm⟩]; rfl
    · rw [if_neg e, if_neg (fun h => e ⟨h.1.symm, h.2.symm⟩)]
theorem pl_info : (Try.prog.info? 56).map (fun i => (i.zero, i.size, i.bytes)) = some (some (.agg #[.int .i64 0, .int .i64 0]), 2, 16) := by kernel_rfl
theorem three_carry {w1 w w' : World} {b o p o1 o2 : Nat} {v0 v1 v2 : Value} (h : Below w1.heap.size w1 w ∧ w.cell? ⟨b, o, none⟩ = some v0 ∧ w.cell? ⟨p, o1, none⟩ = some v1 ∧ w.cell? ⟨p, o2, none⟩ = some v2) (hb : Below w.heap.size w w') :
    Below w1.heap.size w1 w' ∧ w'.cell? ⟨b, o, none⟩ = some v0 ∧ w'.cell? ⟨p, o1, none⟩ = some v1 ∧ w'.cell? ⟨p, o2, none⟩ = some v2 :=
  ⟨h.1.trans (hb.mono h.1.size), (hb.cell (p := ⟨b, o, none⟩) (lt_of_cell h.2.1)).trans h.2.1, (hb.cell (p := ⟨p, o1, none⟩) (lt_of_cell h.2.2.1)).trans h.2.2.1, (hb.cell (p := ⟨p, o2, none⟩) (lt_of_cell h.2.2.2)).trans h.2.2.2⟩
set_option maxHeartbeats 3200000 in
set_option maxRecDepth 100000 in
theorem qpush_new (a : AskP) (b : Nat) {L : List AskP} {S : Nat → Prop} (w : World) (h : QAt w b L S) (hg : Qu.Good L) (hm : Qu.may a) (hf : Qu.find L a.slot a.shard = none) :
    Calls Try.prog 11 #[.pointer (some ⟨b, 0, none⟩), .agg #[.int .i64 a.slot, .int .i64 a.query, .int .i64 a.shard, .int .i64 a.seq, .int .i64 a.epoch, .string a.text, .int .i64 a.k, .int .i64 a.batch, .bool a.first, .int .i64 a.ad, .string a.aw]] w (PushP w b L S a) := by
  have H1 := Lib.hid (decide_eq_true hm.1); have H2 := Lib.hid (decide_eq_true hm.2)
  have HM := Lib.hid hm; have HG := Lib.hid hg; have HF := Lib.hid hf
  have hk : wf2 a.slot a.shard := ⟨wf_small (by have := hm.1; omega), wf_small (by have := hm.2; omega)⟩
  have HK := Lib.hid hk
  have H := Lib.hid h
  clear h hg hm hf hk
  go_enter Try.func11, Try.ntmps11
  go_wp2_with fail
  refine (qin_lit _ _ _ _ _ H1.out).mono ?_
  rintro e w' ⟨rfl, rfl⟩
  go_wp2_with fail
  refine (qin_lit _ _ _ _ _ H2.out).mono ?_
  rintro e w' ⟨rfl, rfl⟩
  go_upto_region 4 with fail
  have F0 := push_start w a 34 56 (0, 0) (0, 0)
  generalize (w.alloc (.cells #[.int .i64 a.slot, .int .i64 a.query, .int .i64 a.shard, .int .i64 a.seq, .int .i64 a.epoch, .string a.text, .int .i64 a.k, .int .i64 a.batch, .bool a.first, .int .i64 a.ad, .string a.aw] 34)).alloc (.cells #[.int .i64 a.slot, .int .i64 a.shard] 56) = w2 at *
  obtain ⟨hb2, hA2, hP2⟩ := F0
  obtain ⟨p, hp⟩ : ∃ p, w.heap.size = p := ⟨_, rfl⟩
  have HPS := Lib.hid hp
  rw [hp] at hA2 hP2
  rw [hp]
  have B2 := Lib.hid hb2; have A2 := Lib.hid hA2; have P2 := Lib.hid hP2
  have Q2 := Lib.hid (H.out.below hb2)
  clear hb2 hp
  obtain ⟨ao, co, bm, c0, c1, fr, own, mq, n1, s1, s2, s3, s4⟩ := Q2.out
  have OW := Lib.hid own; have MQ := Lib.hid mq; have FR := Lib.hid fr; have C0 := Lib.hid c0; have C1 := Lib.hid c1
  obtain ⟨p0, p1⟩ := hP2
  have FQ := Lib.hid (show Qu.fQ L a.slot a.shard = none by unfold Qu.fQ; rw [HF.out]; rfl)
  have SS := Lib.hid (And.intro s1 (And.intro s2 (And.intro s3 s4)))
  clear own mq fr s1 s2 s3 s4 hA2
  have hr4 := MapQ.look_run (w := w2.drew) (MQ.out.below (Below.refl _ _).drew) a.slot a.shard HK.out
  rw [FQ.out] at hr4
  have hr5 := MapQ.look_run (w := (w2.alloc (.cells #[.int .i64 0, .int .i64 0, .int .i64 0, .int .i64 0, .int .i64 0, .string ⟨#[]⟩, .int .i64 0, .int .i64 0, .bool false, .int .i64 0, .string ⟨#[]⟩] 34)).drew) (MQ.out.below ((Below.refl _ _).alloc (Nat.le_refl _) _).drew) a.slot a.shard HK.out
  rw [FQ.out] at hr5
  simp only [Option.getD_none, Option.isSome_none, zAsk] at hr4 hr5
  have hS0 : Below w2.heap.size w2 w2 ∧ w2.cell? ⟨b, 1, none⟩ = some (.map (some bm)) ∧ w2.cell? ⟨p + 1, 0, none⟩ = some (.int .i64 a.slot) ∧ w2.cell? ⟨p + 1, 1, none⟩ = some (.int .i64 a.shard) := ⟨Below.refl _ _, c1, p0, p1⟩
  go_cut [6, 7] from 27 to 35 (fun x y wc => x = .pointer (some ⟨w2.heap.size, 0, none⟩) ∧ y = .bool false ∧ Hid (Below w2.heap.size w2 wc))
  case first =>
    go_region_held3 (fun w' => Below w2.heap.size w2 w' ∧ w'.cell? ⟨b, 1, none⟩ = some (.map (some bm)) ∧ w'.cell? ⟨p + 1, 0, none⟩ = some (.int .i64 a.slot) ∧ w'.cell? ⟨p + 1, 1, none⟩ = some (.int .i64 a.shard))
      (first | assumption | (refine three_carry hS0 ?_; repeat' (first | exact Below.refl _ _ | refine Below.drew ?_ | refine Below.alloc ?_ (by simp <;> omega) _ | refine Below.setCell ?_ (by simp <;> omega) _)))
      (fail)
    all_goals
      go_wp2_with fail
      go_meet
      exact ⟨rfl, rfl, Lib.hid (((Below.refl _ _).alloc (Nat.le_refl _) _).drew)⟩
  case rest =>
    obtain ⟨rfl, rfl, hB3⟩ := hcut
    rename World => w3
    clear hr4 hr5 hS0 c0 c1 p0 p1
    obtain ⟨i0, hi, hz0, hz1, hz2⟩ := info_parts pl_info
    have hl24 := Qu.good_len HG.out
    have M3 := Lib.hid (MidQ.below (w := w2) ⟨C0.out, C1.out, FR.out, OW.out, MQ.out, n1, SS.out⟩ hB3.out)
    have A3 := Lib.hid (A2.out.below hB3.out)
    have P3 := Lib.hid (P2.out.below hB3.out)
    have B3 := Lib.hid (B2.out.trans (hB3.out.mono B2.out.size))
    obtain ⟨k0, k1, -, kown, -, -, kb, -⟩ := M3.out
    have KB := Lib.hid kb; have KO := Lib.hid kown
    obtain ⟨q0, q1⟩ := P3.out
    have lb : b < w3.heap.size := lt_of_cell k0
    have lp : p + 1 < w3.heap.size := lt_of_cell q0
    have fr0 : w3.frozen? ⟨b, 0, none⟩ = false := M3.out.2.2.1 0
    clear kb kown hB3
    have AB := Lib.hid (fun w4 hg => M3.out.far (w4 := w4) (o := (.cells #[.int .i64 a.slot, .int .i64 a.shard] 56)) hg)
    go_upto_region 8 with fail
    go_cut [7] from 44 to 53 (fun x wc => x = .bool false ∧ Hid (∃ ao' co' T, MidQ wc b bm L.length (Qu.fQ L) ao' co' (L ++ [a]) T ∧ Turn S w3 wc ∧ (∀ k, T k → S k ∨ w3.heap.size ≤ k)))
    case first =>
      go_region_law ((refine step_append_lies _ (by rfl) _ _ _ (by rfl) 0 56 i0 _ 2 16 Try.underlying51 hi hz0 hz1 hz2 rfl (by omega) (.slice ao L.length co) L.length (plcV L) (by rfl) ((KO.out.alloc _).drew) ⟨w3.heap.size, 0, none⟩ 1 1 [.int .i64 a.slot, .int .i64 a.shard] (by rfl) (by rfl) (World.news_of_block (cs := #[.int .i64 a.slot, .int .i64 a.shard]) (t := 56) (fr := (0, 0)) (heap_alloc_new w3 _)) (by simp [Value.oneCell']) (by omega) (by unfold maxLen; omega) (by omega) (by omega) (w3.heap.size + 1) (by simp) ?_; intro g cap w4 hown4 hgrow4 hat4 hlt4; obtain ⟨x0, x1⟩ := AB.out _ hgrow4))
      all_goals
        go_wp2_with fail
        go_meet
        have R := MidQ.grown (a := a) (M3.out.below ((Below.refl _ _).alloc (Nat.le_refl _) (.cells #[.int .i64 a.slot, .int .i64 a.shard] 56)).drew) hown4 hgrow4 hat4 (by simp) hlt4
        refine ⟨rfl, Lib.hid ⟨_, _, _, R.1, (Turn.of_below ((Below.refl _ _).alloc (Nat.le_refl _) _).drew).trans R.2.1, ?_⟩⟩
        intro k hk
        rcases hk with hk | rfl
        · exact Or.inl hk
        · rcases R.2.2 with x | x
          · exact Or.inl x
          · exact Or.inr (by simp at x; omega)
    case rest =>
      obtain ⟨rfl, hM⟩ := hcut
      rename World => w4
      obtain ⟨ao4, co4, T4, M4, t4, hT4⟩ := hM.out
      have HM4 := Lib.hid M4; have HT4 := Lib.hid hT4; have TT4 := Lib.hid t4
      have HSS := Lib.hid (show S bm from SS.out.2.1)
      clear M4 t4 hT4 hM q0 q1 k0 k1 fr0
      obtain ⟨m0, m1, mfr, mown, mmq, mbm, mTb, -⟩ := HM4.out
      have hpS : ∀ j, ¬ S (p + j) := fun j h => by have := H.out.lt _ h; have := HPS.out; omega
      have A4 := A3.out.of (w' := w4) fun i => TT4.out.cell (lt_of_cell A3.out.1) (hpS 0)
      have P4 : PlIn w4 (p + 1) a.slot a.shard := ⟨(TT4.out.cell (lt_of_cell P3.out.1) (hpS 1)).trans P3.out.1, (TT4.out.cell (lt_of_cell P3.out.1) (hpS 1)).trans P3.out.2⟩
      obtain ⟨w5, hr5, m5, t5⟩ := MapQ.put_run (w := w4.drew) (mmq.block rfl) (by unfold maxLen; omega) a.slot a.shard (.agg #[.int .i64 a.slot, .int .i64 a.query, .int .i64 a.shard, .int .i64 a.seq, .int .i64 a.epoch, .string a.text, .int .i64 a.k, .int .i64 a.batch, .bool a.first, .int .i64 a.ad, .string a.aw]) HK.out
      have T5 := TurnQ.of_mapTurned (F := fun k => k = bm) t5 rfl
      have lb4 : b < w4.drew.heap.size := lt_of_cell m0
      have hpb : p ≠ bm ∧ p + 1 ≠ bm := ⟨fun e => MapQ.no_cell mmq 0 _ (e ▸ A4.1), fun e => MapQ.no_cell mmq 0 _ (e ▸ P4.1)⟩
      have A5 := AskIn.of (w := w4) (w' := w5) A4 fun i => T5.cell (w := w4.drew) (lt_of_cell A4.1) hpb.1
      have P5 : PlIn w5 (p + 1) a.slot a.shard := ⟨(T5.cell (w := w4.drew) (lt_of_cell P4.1) hpb.2).trans P4.1, (T5.cell (w := w4.drew) (lt_of_cell P4.1) hpb.2).trans P4.2⟩
      have m51 : w5.cell? ⟨b, 1, none⟩ = some (.map (some bm)) := (T5.cell (w := w4.drew) lb4 mbm).trans m1
      have M5 := Lib.hid (MidQ.map (w := w4.drew) (MidQ.below HM4.out (Below.refl _ _).drew) m5 t5)
      have T5' := Lib.hid (TT4.out.trans' (G := fun k => k = bm) ((Turn.drewN _ w4 1).trans T5) (fun i hi => by subst hi; exact Or.inl HSS.out))
      unfold AskIn at A4 A5
      unfold PlIn at P4 P5
      obtain ⟨y0, y1, y2, y3, y4, y5, y6, y7, y8, y9, y10⟩ := A4
      obtain ⟨z0, z1, z2, z3, z4, z5, z6, z7, z8, z9, z10⟩ := A5
      obtain ⟨q0, q1⟩ := P4
      obtain ⟨r0, r1⟩ := P5
      clear mfr mown mmq m5 t5 T5 hpS
      go_upto_region 9 with fail
      go_region_held3 (fun w' => w'.cell? ⟨b, 1, none⟩ = some (.map (some bm)) ∧ w'.cell? ⟨p + 1, 0, none⟩ = some (.int .i64 a.slot) ∧ w'.cell? ⟨p + 1, 1, none⟩ = some (.int .i64 a.shard) ∧ w'.cell? ⟨p, 0, none⟩ = some (.int .i64 a.slot) ∧ w'.cell? ⟨p, 1, none⟩ = some (.int .i64 a.query) ∧ w'.cell? ⟨p, 2, none⟩ = some (.int .i64 a.shard) ∧ w'.cell? ⟨p, 3, none⟩ = some (.int .i64 a.seq) ∧ w'.cell? ⟨p, 4, none⟩ = some (.int .i64 a.epoch) ∧ w'.cell? ⟨p, 5, none⟩ = some (.string a.text) ∧ w'.cell? ⟨p, 6, none⟩ = some (.int .i64 a.k) ∧ w'.cell? ⟨p, 7, none⟩ = some (.int .i64 a.batch) ∧ w'.cell? ⟨p, 8, none⟩ = some (.bool a.first) ∧ w'.cell? ⟨p, 9, none⟩ = some (.int .i64 a.ad) ∧ w'.cell? ⟨p, 10, none⟩ = some (.string a.aw)) (go_keep) (fail)
      go_wp2_with fail
      have R := push_done_new (w := w) HM.out HF.out M5.out (fun k hk => (HT4.out k hk).imp id (fun h => Nat.le_trans B3.out.size h)) ((Turn.of_below B3.out).trans T5'.out)
      go_ret
      exact R
end Go.Proofs.Ythcfpohgjgbhpaa
/- queue: Push where something waits -/
namespace Go.Proofs.Ythcfpohgjgbhpaa
open Go.RowKit
set_option linter.unusedVariables false
set_option maxRecDepth 20000
theorem newer_lit (a b : AskP) (z : Bool) (w : World) (hz : decide (Qu.newer a b) = z) :
    Calls Try.prog 23 #[.agg #[.int .i64 a.slot, .int .i64 a.query, .int .i64 a.shard, .int .i64 a.seq, .int .i64 a.epoch, .string a.text, .int .i64 a.k, .int .i64 a.batch, .bool a.first, .int .i64 a.ad, .string a.aw], .agg #[.int .i64 b.slot, .int .i64 b.query, .int .i64 b.shard, .int .i64 b.seq, .int .i64 b.epoch, .string b.text, .int .i64 b.k, .int .i64 b.batch, .bool b.first, .int .i64 b.ad, .string b.aw]] w
      fun e w' => e = .returned (.bool z) ∧ Below w.heap.size w w' := by
  subst hz; exact newer_any a b w
set_option maxHeartbeats 3200000 in
set_option maxRecDepth 100000 in
theorem qpush_put (a x : AskP) (b : Nat) {L : List AskP} {S : Nat → Prop} (w : World) (h : QAt w b L S) (hg : Qu.Good L) (hm : Qu.may a) (hf : Qu.find L a.slot a.shard = some x) :
    Calls Try.prog 11 #[.pointer (some ⟨b, 0, none⟩), .agg #[.int .i64 a.slot, .int .i64 a.query, .int .i64 a.shard, .int .i64 a.seq, .int .i64 a.epoch, .string a.text, .int .i64 a.k, .int .i64 a.batch, .bool a.first, .int .i64 a.ad, .string a.aw]] w (PushP w b L S a) := by
  have H1 := Lib.hid (decide_eq_true hm.1); have H2 := Lib.hid (decide_eq_true hm.2)
  have HM := Lib.hid hm; have HG := Lib.hid hg; have HF := Lib.hid hf
  have hk : wf2 a.slot a.shard := ⟨wf_small (by have := hm.1; omega), wf_small (by have := hm.2; omega)⟩
  have HK := Lib.hid hk
  have H := Lib.hid h
  clear h hg hm hf hk
  go_enter Try.func11, Try.ntmps11
  go_wp2_with fail
  refine (qin_lit _ _ _ _ _ H1.out).mono ?_
  rintro e w' ⟨rfl, rfl⟩
  go_wp2_with fail
  refine (qin_lit _ _ _ _ _ H2.out).mono ?_
  rintro e w' ⟨rfl, rfl⟩
  go_upto_region 4 with fail
  have F0 := push_start w a 34 56 (0, 0) (0, 0)
  generalize (w.alloc (.cells #[.int .i64 a.slot, .int .i64 a.query, .int .i64 a.shard, .int .i64 a.seq, .int .i64 a.epoch, .string a.text, .int .i64 a.k, .int .i64 a.batch, .bool a.first, .int .i64 a.ad, .string a.aw] 34)).alloc (.cells #[.int .i64 a.slot, .int .i64 a.shard] 56) = w2 at *
  obtain ⟨hb2, hA2, hP2⟩ := F0
  obtain ⟨p, hp⟩ : ∃ p, w.heap.size = p := ⟨_, rfl⟩
  have HPS := Lib.hid hp
  rw [hp] at hA2 hP2
  rw [hp]
  have B2 := Lib.hid hb2; have A2 := Lib.hid hA2; have P2 := Lib.hid hP2
  have Q2 := Lib.hid (H.out.below hb2)
  clear hb2 hp
  obtain ⟨ao, co, bm, c0, c1, fr, own, mq, n1, s1, s2, s3, s4⟩ := Q2.out
  have OW := Lib.hid own; have MQ := Lib.hid mq; have FR := Lib.hid fr; have C0 := Lib.hid c0; have C1 := Lib.hid c1
  obtain ⟨p0, p1⟩ := hP2
  have FQ := Lib.hid (show Qu.fQ L a.slot a.shard = some (Qu.val x) by unfold Qu.fQ; rw [HF.out]; rfl)
  have SS := Lib.hid (And.intro s1 (And.intro s2 (And.intro s3 s4)))
  clear own mq fr s1 s2 s3 s4 hA2
  have hr4 := MapQ.look_run (w := w2.drew) (MQ.out.below (Below.refl _ _).drew) a.slot a.shard HK.out
  rw [FQ.out] at hr4
  have hr5 := MapQ.look_run (w := (w2.alloc (.cells #[.int .i64 0, .int .i64 0, .int .i64 0, .int .i64 0, .int .i64 0, .string ⟨#[]⟩, .int .i64 0, .int .i64 0, .bool false, .int .i64 0, .string ⟨#[]⟩] 34)).drew) (MQ.out.below ((Below.refl _ _).alloc (Nat.le_refl _) _).drew) a.slot a.shard HK.out
  rw [FQ.out] at hr5
  simp only [Option.getD_some, Option.isSome_some, Qu.val] at hr4 hr5
  have hS0 : Below w2.heap.size w2 w2 ∧ w2.cell? ⟨b, 1, none⟩ = some (.map (some bm)) ∧ w2.cell? ⟨p + 1, 0, none⟩ = some (.int .i64 a.slot) ∧ w2.cell? ⟨p + 1, 1, none⟩ = some (.int .i64 a.shard) := ⟨Below.refl _ _, c1, p0, p1⟩
  go_cut [6, 7] from 27 to 35 (fun v6 v7 wc => v6 = .pointer (some ⟨w2.heap.size, 0, none⟩) ∧ v7 = .bool true ∧ Hid (Below w2.heap.size w2 wc ∧ AskIn wc w2.heap.size x))
  case first =>
    go_region_held3 (fun w' => Below w2.heap.size w2 w' ∧ w'.cell? ⟨b, 1, none⟩ = some (.map (some bm)) ∧ w'.cell? ⟨p + 1, 0, none⟩ = some (.int .i64 a.slot) ∧ w'.cell? ⟨p + 1, 1, none⟩ = some (.int .i64 a.shard))
      (first | assumption | (refine three_carry hS0 ?_; repeat' (first | exact Below.refl _ _ | refine Below.drew ?_ | refine Below.alloc ?_ (by simp <;> omega) _ | refine Below.setCell ?_ (by simp <;> omega) _)))
      (fail)
    all_goals
      go_wp2_with fail
      go_meet
      exact ⟨rfl, rfl, Lib.hid ⟨((Below.refl _ _).alloc (Nat.le_refl _) _).drew, (askIn_new _ x _ _ _ rfl).below (Below.refl _ _).drew⟩⟩
  case rest =>
    obtain ⟨rfl, rfl, hB3⟩ := hcut
    rename World => w3
    clear hr4 hr5 hS0 c0 c1 p0 p1
    have hl24 := Qu.good_len HG.out
    have M3 := Lib.hid (MidQ.below (w := w2) ⟨C0.out, C1.out, FR.out, OW.out, MQ.out, n1, SS.out⟩ hB3.out.1)
    have A3 := Lib.hid (A2.out.below hB3.out.1)
    have P3 := Lib.hid (P2.out.below hB3.out.1)
    have B3 := Lib.hid (B2.out.trans (hB3.out.1.mono B2.out.size))
    have hX := hB3.out.2
    have hA := A3.out
    obtain ⟨p6, hp6⟩ : ∃ p6, w2.heap.size = p6 := ⟨_, rfl⟩
    rw [hp6] at hX
    rw [hp6]
    unfold AskIn at hX hA
    obtain ⟨y0, y1, y2, y3, y4, y5, y6, y7, y8, y9, y10⟩ := hA
    obtain ⟨z0, z1, z2, z3, z4, z5, z6, z7, z8, z9, z10⟩ := hX
    clear hp6 hB3
    by_cases hn : Qu.newer x a
    · have CN := Lib.hid (fun w => newer_lit x a true w (decide_eq_true hn))
      have HP := Lib.hid (fun w' hb => push_no (w' := w') H.out (show Qu.pushed L a = false by unfold Qu.pushed; rw [HF.out]; simp [hn]) hb)
      clear hn
      go_wp2_with fail
      refine (CN.out _).mono ?_
      rintro e w4 ⟨rfl, hb⟩
      go_wp2_with fail
      go_ret
      exact HP.out _ (B3.out.trans (hb.mono B3.out.size))
    · have CN := Lib.hid (fun w => newer_lit x a false w (decide_eq_false hn))
      have HN := Lib.hid hn
      clear hn
      go_wp2_with fail
      refine (CN.out _).mono ?_
      rintro e w4 ⟨rfl, hb⟩
      have HM4 := Lib.hid (M3.out.below hb)
      have TT4 := Lib.hid (Turn.of_below (F := S) hb)
      have HSS := Lib.hid (show S bm from SS.out.2.1)
      clear hb y0 y1 y2 y3 y4 y5 y6 y7 y8 y9 y10 z0 z1 z2 z3 z4 z5 z6 z7 z8 z9 z10
      obtain ⟨m0, m1, mfr, mown, mmq, mbm, mTb, -⟩ := HM4.out
      have hpS : ∀ j, ¬ S (p + j) := fun j h => by have := H.out.lt _ h; have := HPS.out; omega
      have A4 := A3.out.of (w' := w4) fun i => TT4.out.cell (lt_of_cell A3.out.1) (hpS 0)
      have P4 : PlIn w4 (p + 1) a.slot a.shard := ⟨(TT4.out.cell (lt_of_cell P3.out.1) (hpS 1)).trans P3.out.1, (TT4.out.cell (lt_of_cell P3.out.1) (hpS 1)).trans P3.out.2⟩
      obtain ⟨w5, hr5, m5, t5⟩ := MapQ.put_run (w := w4.drew) (mmq.block rfl) (by unfold maxLen; omega) a.slot a.shard (.agg #[.int .i64 a.slot, .int .i64 a.query, .int .i64 a.shard, .int .i64 a.seq, .int .i64 a.epoch, .string a.text, .int .i64 a.k, .int .i64 a.batch, .bool a.first, .int .i64 a.ad, .string a.aw]) HK.out
      have T5 := TurnQ.of_mapTurned (F := fun k => k = bm) t5 rfl
      have lb4 : b < w4.drew.heap.size := lt_of_cell m0
      have hpb : p ≠ bm ∧ p + 1 ≠ bm := ⟨fun e => MapQ.no_cell mmq 0 _ (e ▸ A4.1), fun e => MapQ.no_cell mmq 0 _ (e ▸ P4.1)⟩
      have A5 := AskIn.of (w := w4) (w' := w5) A4 fun i => T5.cell (w := w4.drew) (lt_of_cell A4.1) hpb.1
      have P5 : PlIn w5 (p + 1) a.slot a.shard := ⟨(T5.cell (w := w4.drew) (lt_of_cell P4.1) hpb.2).trans P4.1, (T5.cell (w := w4.drew) (lt_of_cell P4.1) hpb.2).trans P4.2⟩
      have m51 : w5.cell? ⟨b, 1, none⟩ = some (.map (some bm)) := (T5.cell (w := w4.drew) lb4 mbm).trans m1
      have M5 := Lib.hid (MidQ.map (w := w4.drew) (MidQ.below HM4.out (Below.refl _ _).drew) m5 t5)
      have T5' := Lib.hid (TT4.out.trans' (G := fun k => k = bm) ((Turn.drewN _ w4 1).trans T5) (fun i hi => by subst hi; exact Or.inl HSS.out))
      unfold AskIn at A4 A5
      unfold PlIn at P4 P5
      obtain ⟨y0, y1, y2, y3, y4, y5, y6, y7, y8, y9, y10⟩ := A4
      obtain ⟨z0, z1, z2, z3, z4, z5, z6, z7, z8, z9, z10⟩ := A5
      obtain ⟨q0, q1⟩ := P4
      obtain ⟨r0, r1⟩ := P5
      clear mfr mown mmq m5 t5 T5 hpS
      go_upto_region 9 with fail
      go_region_held3 (fun w' => w'.cell? ⟨b, 1, none⟩ = some (.map (some bm)) ∧ w'.cell? ⟨p + 1, 0, none⟩ = some (.int .i64 a.slot) ∧ w'.cell? ⟨p + 1, 1, none⟩ = some (.int .i64 a.shard) ∧ w'.cell? ⟨p, 0, none⟩ = some (.int .i64 a.slot) ∧ w'.cell? ⟨p, 1, none⟩ = some (.int .i64 a.query) ∧ w'.cell? ⟨p, 2, none⟩ = some (.int .i64 a.shard) ∧ w'.cell? ⟨p, 3, none⟩ = some (.int .i64 a.seq) ∧ w'.cell? ⟨p, 4, none⟩ = some (.int .i64 a.epoch) ∧ w'.cell? ⟨p, 5, none⟩ = some (.string a.text) ∧ w'.cell? ⟨p, 6, none⟩ = some (.int .i64 a.k) ∧ w'.cell? ⟨p, 7, none⟩ = some (.int .i64 a.batch) ∧ w'.cell? ⟨p, 8, none⟩ = some (.bool a.first) ∧ w'.cell? ⟨p, 9, none⟩ = some (.int .i64 a.ad) ∧ w'.cell? ⟨p, 10, none⟩ = some (.string a.aw)) (go_keep) (fail)
      go_wp2_with fail
      have R := push_done_put (w := w) HM.out HF.out HN.out M5.out (fun k hk => Or.inl hk) ((Turn.of_below B3.out).trans T5'.out)
      go_ret
      exact R
/-- the last one found -/
theorem qpush_any (a : AskP) (b : Nat) {L : List AskP} {S : Nat → Prop} (w : World) (h : QAt w b L S) (hg : Qu.Good L) :
    Calls Try.prog 11 #[.pointer (some ⟨b, 0, none⟩), .agg #[.int .i64 a.slot, .int .i64 a.query, .int .i64 a.shard, .int .i64 a.seq, .int .i64 a.epoch, .string a.text, .int .i64 a.k, .int .i64 a.batch, .bool a.first, .int .i64 a.ad, .string a.aw]] w (PushP w b L S a) := by
  by_cases hm : Qu.may a
  · cases hf : Qu.find L a.slot a.shard with
    | none => exact qpush_new a b w h hg hm hf
    | some x => exact qpush_put a x b w h hg hm hf
  · exact qpush_out a b w h hm
end Go.Proofs.Ythcfpohgjgbhpaa
/- queue: All -/
namespace Go.Proofs.Ythcfpohgjgbhpaa
open Go.RowKit
set_option linter.unusedVariables false
set_option maxRecDepth 20000
theorem ask_info : (Try.prog.info? 34).map (fun i => (i.zero, i.size, i.bytes)) = some (some zAsk, 11, 104) := by kernel_rfl
def RetA (w : World) (L : List AskP) (e : Ending) (w' : World) : Prop := ∃ a c, e = .returned (.slice a L.length c) ∧ w'.ownsRow w.heap.size 34 11 (.slice a L.length c) L.length (asksV L) ∧ Below w.heap.size w w'
theorem qAll_none (w : World) : Calls Try.prog 17 #[.pointer none] w fun e w' => e = .returned (.slice none 0 0) ∧ w = w' := by
  go_enter Try.func17, Try.ntmps17
  go_wp2_with fail
  go_ret
  exact ⟨rfl, rfl⟩
theorem allS_carry {w w' : World} {b bm p n : Nat} {x y : Int} {v : Value} {f : Int → Int → Option Value} (hk : wf2 x y) (hv : (f x y).getD zAsk = v)
    (h : w.cell? ⟨b, 1, none⟩ = some (.map (some bm)) ∧ w.cell? ⟨p, 0, none⟩ = some (.int .i64 x) ∧ w.cell? ⟨p, 1, none⟩ = some (.int .i64 y) ∧ MapQ w bm n f) (e : ∀ k, k = b ∨ k = p ∨ k = bm → w'.heap[k]? = w.heap[k]?) :
    w'.cell? ⟨b, 1, none⟩ = some (.map (some bm)) ∧ w'.cell? ⟨p, 0, none⟩ = some (.int .i64 x) ∧ w'.cell? ⟨p, 1, none⟩ = some (.int .i64 y) ∧ MapQ w' bm n f ∧ (Instr.lookup 50 (.map (some bm)) (.agg #[.int .i64 x, .int .i64 y]) false).run Try.prog w' = .ok v w' := by
  obtain ⟨h1, h2, h3, h4⟩ := h
  have hm := h4.block (e bm (Or.inr (Or.inr rfl)))
  refine ⟨(World.cell?_of_block (w := w) (e b (Or.inl rfl))).trans h1, (World.cell?_of_block (w := w) (e p (Or.inr (Or.inl rfl)))).trans h2, (World.cell?_of_block (w := w) (e p (Or.inr (Or.inl rfl)))).trans h3, hm, ?_⟩
  rw [← hv]; exact hm.get_run x y hk
set_option maxHeartbeats 3200000 in
set_option maxRecDepth 100000 in
theorem qAll_any (b : Nat) {L : List AskP} {S : Nat → Prop} (w : World) (h : QAt w b L S) (hg : Qu.Good L) :
    Calls Try.prog 17 #[.pointer (some ⟨b, 0, none⟩)] w (RetA w L) := by
  obtain ⟨i0, hi, hz0, hz1, hz2⟩ := info_parts ask_info
  have hl24 := Qu.good_len hg
  have HG := Lib.hid hg
  have H := Lib.hid h
  obtain ⟨ao, co, bm, M⟩ := h.mid
  have HM := Lib.hid M
  obtain ⟨c0, c1, -⟩ := M
  have lb := lt_of_cell c0
  have lm := HM.out.2.2.2.2.1.lt
  clear h hg
  go_enter Try.func17, Try.ntmps17
  go_wp2_with fail
  go_loopw [3, 13] (fun ov iv wr => ∃ (j : Nat) (av : Option Addr) (cv : Nat), j ≤ L.length ∧ iv = .int .i64 j ∧ ov = .slice av j cv ∧ Hid (wr.ownsRow w.heap.size 34 11 (.slice av j cv) j (asksV (L.take j))) ∧ Hid (Below w.heap.size w wr)) (fun _ iv _ => L.length - (intOf iv).toNat)
  case atStart => exact ⟨0, none, 0, by omega, rfl, rfl, Lib.hid (World.ownsRow_nil _ _ _ _), Lib.hid (Below.refl _ _)⟩
  case round =>
    obtain ⟨j, av, cv, hj, rfl, rfl, hO, hB⟩ := hrel
    by_cases hlt : j < L.length
    · have Mr := Lib.hid (HM.out.below hB.out)
      have hown := Mr.out.2.2.2.1
      obtain ⟨g, rfl⟩ : ∃ g, ao = some ⟨g, 0, none⟩ := by
        obtain ⟨g, cap', hv⟩ := Joins.ownsRow_form hown (by omega)
        simp only [Value.slice.injEq] at hv
        exact ⟨g, hv.1⟩
      have e0 := hown.cellAt (j * 2) (by omega)
      have e1 := hown.cellAt (j * 2 + 1) (by omega)
      obtain ⟨v0, v1⟩ := plcV_at L j hlt
      rw [v0] at e0
      rw [v1] at e1
      have hfa := Qu.find_at HG.out hlt
      have hmay := HG.out.may _ (getD_memAsk L j hlt)
      have htk := asksV_snoc (L.take j) (L.getD j ask0)
      have htk2 : L.take (j + 1) = L.take j ++ [L.getD j ask0] := by rw [List.take_add_one, List.getD_eq_getElem?_getD, List.getElem?_eq_getElem hlt]; rfl
      rw [← htk2] at htk
      obtain ⟨x, hx⟩ : ∃ x, L.getD j ask0 = x := ⟨_, rfl⟩
      rw [hx] at e0 e1 hfa hmay htk
      have TK := Lib.hid htk
      have FA := Lib.hid (show (Qu.fQ L x.slot x.shard).getD zAsk = .agg #[.int .i64 x.slot, .int .i64 x.query, .int .i64 x.shard, .int .i64 x.seq, .int .i64 x.epoch, .string x.text, .int .i64 x.k, .int .i64 x.batch, .bool x.first, .int .i64 x.ad, .string x.aw] from by unfold Qu.fQ; rw [hfa]; rfl)
      have HK := Lib.hid (show wf2 x.slot x.shard from ⟨wf_small (by have := hmay.1; omega), wf_small (by have := hmay.2; omega)⟩)
      have x1 : (0 : Int) ≤ (j : Int) := by omega
      have x2 : (j : Int) < (L.length : Int) := by omega
      clear hown v0 v1 hfa hmay htk htk2 hx
      have OB := Lib.hid (fun k hk => hO.out.lt k hk)
      have ONN := Lib.hid (fun o => owns_below hO.out (below_one wr o))
      have F5 := Lib.hid (plIn_new wr x.slot x.shard wr.heap.size 56 (0, 0) rfl)
      have B5 := Lib.hid (below_one wr (.cells #[.int .i64 x.slot, .int .i64 x.shard] 56))
      have hsz : (wr.alloc (.cells #[.int .i64 x.slot, .int .i64 x.shard] 56)).heap.size = wr.heap.size + 1 := by simp
      have hws := hB.out.size
      go_upto_region 7 with fail
      have O5 := Lib.hid (ONN.out (.cells #[.int .i64 x.slot, .int .i64 x.shard] 56))
      have M5 := Lib.hid (Mr.out.below B5.out)
      have BW := Lib.hid (hB.out.trans (B5.out.mono hB.out.size))
      generalize wr.alloc (.cells #[.int .i64 x.slot, .int .i64 x.shard] 56) = w5 at *
      obtain ⟨p, hp⟩ : ∃ p, wr.heap.size = p := ⟨_, rfl⟩
      rw [hp] at F5 OB hsz hws
      rw [hp]
      have hS0 : w5.cell? ⟨b, 1, none⟩ = some (.map (some bm)) ∧ w5.cell? ⟨p, 0, none⟩ = some (.int .i64 x.slot) ∧ w5.cell? ⟨p, 1, none⟩ = some (.int .i64 x.shard) ∧ MapQ w5 bm L.length (Qu.fQ L) := ⟨M5.out.2.1, F5.out.1, F5.out.2, M5.out.2.2.2.2.1⟩
      have HS := Lib.hid hS0
      have lt5 : ∀ k, k = b ∨ k = p ∨ k = bm → k < w5.heap.size := by intro k hk; omega
      have ne5 : ∀ k, k = b ∨ k = p ∨ k = bm → some k ≠ (Value.slice av j cv).ownBlock := by
        intro k hk e
        have := OB.out k e.symm
        omega
      have LT := Lib.hid lt5; have NE := Lib.hid ne5
      have HSZ := Lib.hid hsz
      clear hS0 lt5 ne5 hp e0 e1 hsz
      go_region_held3 (fun w' => w'.cell? ⟨b, 1, none⟩ = some (.map (some bm)) ∧ w'.cell? ⟨p, 0, none⟩ = some (.int .i64 x.slot) ∧ w'.cell? ⟨p, 1, none⟩ = some (.int .i64 x.shard) ∧ MapQ w' bm L.length (Qu.fQ L) ∧ (Instr.lookup 50 (.map (some bm)) (.agg #[.int .i64 x.slot, .int .i64 x.shard]) false).run Try.prog w' = .ok (.agg #[.int .i64 x.slot, .int .i64 x.query, .int .i64 x.shard, .int .i64 x.seq, .int .i64 x.epoch, .string x.text, .int .i64 x.k, .int .i64 x.batch, .bool x.first, .int .i64 x.ad, .string x.aw]) w')
        (first | assumption | exact allS_carry HK.out FA.out HS.out (fun k hk => rfl) | exact allS_carry HK.out FA.out HS.out (fun k hk => Below.heap_alloc _ _ _ (LT.out k hk)) | exact allS_carry HK.out FA.out HS.out (fun k hk => (hgrow.block k (by have := LT.out k hk; show k < (w5.alloc _).heap.size; simp; omega) (NE.out k hk)).trans (Below.heap_alloc _ _ _ (LT.out k hk))))
        ((refine step_append_lies _ (by rfl) _ _ _ (by rfl) w.heap.size 34 i0 _ 11 104 Try.underlying28 hi hz0 hz1 hz2 rfl (by omega) (.slice av j cv) j (asksV (L.take j)) (by rfl) ((O5.out.alloc _).drew) ⟨w5.heap.size, 0, none⟩ 1 1 [.int .i64 x.slot, .int .i64 x.query, .int .i64 x.shard, .int .i64 x.seq, .int .i64 x.epoch, .string x.text, .int .i64 x.k, .int .i64 x.batch, .bool x.first, .int .i64 x.ad, .string x.aw] (by rfl) (by rfl) (World.news_of_block (cs := #[.int .i64 x.slot, .int .i64 x.query, .int .i64 x.shard, .int .i64 x.seq, .int .i64 x.epoch, .string x.text, .int .i64 x.k, .int .i64 x.batch, .bool x.first, .int .i64 x.ad, .string x.aw]) (t := 34) (fr := (0, 0)) (heap_alloc_new w5 _)) (by simp [Value.oneCell']) (by omega) (by unfold maxLen; omega) (by omega) (by have := BW.out.size; simp; omega) (w5.heap.size + 1) (by simp) ?_; intro g3 c3 w6 hown hgrow hat hlt3))
      all_goals
        have O6 := Lib.hid (show w6.ownsRow w.heap.size 34 11 (.slice (some ⟨g3, 0, none⟩) (j + 1) c3) (j + 1) (asksV (L.take (j + 1))) from by rw [TK.out]; exact hown)
        have B6 := Lib.hid ((BW.out.alloc (BW.out.size) (.cells #[.int .i64 x.slot, .int .i64 x.query, .int .i64 x.shard, .int .i64 x.seq, .int .i64 x.epoch, .string x.text, .int .i64 x.k, .int .i64 x.batch, .bool x.first, .int .i64 x.ad, .string x.aw] 34)).drew.grown hgrow (by have := BW.out.size; show w.heap.size ≤ (w5.alloc _).heap.size; simp; omega) (fun k hk => (OB.out k hk).1))
        clear hown hgrow
        go_wp2_with fail
        go_roundw
        case rel => exact ⟨j + 1, _, c3, by omega, by go_num, rfl, O6, B6⟩
        case measure => simp [intOf] <;> omega
    · obtain rfl : j = L.length := by omega
      have OE := Lib.hid (show wr.ownsRow w.heap.size 34 11 (.slice av L.length cv) L.length (asksV L) from by have := hO.out; rwa [List.take_length] at this)
      clear hO hlt
      go_wp2_with fail
      go_ret
      exact ⟨av, cv, rfl, OE.out, hB.out⟩
end Go.Proofs.Ythcfpohgjgbhpaa
/- clear of a slice of many cells; cells written over in an owned row -/
namespace Go.Proofs.Ythcfpohgjgbhpaa
open Go.RowKit
set_option linter.unusedVariables false
set_option maxRecDepth 20000
theorem run_clear_many {P : Program} (w : World) (t e ty : TypeId) (z : Value) (ht : P.underlying t = some (.slice e)) (hv : ∀ w, (zeroValue e).run P w = .ok z w) (b o n c : Nat) (hn : 0 < n) (zs : List Value) (hz : (Builtin.zeroCells z.cells n).toList = zs) (h1 : ∀ u ∈ zs, u.oneCell' = true)
    (hc : ∀ j, j < zs.length → (w.cell? ⟨b, o + j, none⟩).isSome = true) (hf : ∀ j, j < zs.length → w.frozen? ⟨b, o + j, none⟩ = false) :
    (Builtin.clear_ #[t] ty #[.slice (some ⟨b, o, none⟩) n c]).run P w = .ok (.tuple #[]) (w.setCells b o zs) := by
  have hst := run_storeCells_cells (P := P) b o zs 0 w (by simpa using hc) (by simpa using hf) h1
  simp only [Nat.add_zero] at hst
  obtain ⟨m, rfl⟩ : ∃ m, n = m + 1 := ⟨n - 1, by omega⟩
  simp [Builtin.clear_, run_underlying ht, hv, hz, hst]
/-- xs with vs from o on -/
def ow (xs : List Value) (o : Nat) (vs : List Value) : List Value := xs.take o ++ vs ++ xs.drop (o + vs.length)
theorem ow_nil (xs : List Value) (o : Nat) : ow xs o [] = xs := by simp [ow]
theorem ow_cons (xs : List Value) (o : Nat) (v : Value) (vs : List Value) (h : o < xs.length) : ow (xs.set o v) (o + 1) vs = ow xs o (v :: vs) := by
  unfold ow
  have e1 : (xs.set o v).take (o + 1) = xs.take o ++ [v] := by
    have h2 : (xs.set o v)[o]? = some v := by simp [h]
    rw [List.take_add_one, h2, List.take_set, List.set_eq_of_length_le (by simp; omega)]; rfl
  have e2 : (xs.set o v).drop (o + 1 + vs.length) = xs.drop (o + (v :: vs).length) := by
    rw [List.drop_set]
    rw [if_pos (by omega)]
    simp; congr 1; omega
  rw [e1, e2]
  simp
theorem ow_len (xs : List Value) (o : Nat) (vs : List Value) (h : o + vs.length ≤ xs.length) : (ow xs o vs).length = xs.length := by
  unfold ow; simp; omega
theorem ow_take (xs : List Value) (o : Nat) (vs : List Value) (h : o ≤ xs.length) : (ow xs o vs).take o = xs.take o := by
  unfold ow
  rw [List.append_assoc, List.take_append_of_le_length (by rw [List.length_take]; omega), List.take_take, Nat.min_self]
theorem owns_setCells {base g cap n size : Nat} {e : TypeId} : ∀ (vs : List Value) (o : Nat) (w : World) (xs : List Value), w.ownsRow base e size (.slice (some ⟨g, 0, none⟩) n cap) n xs → o + vs.length ≤ n * size →
    (w.setCells g o vs).ownsRow base e size (.slice (some ⟨g, 0, none⟩) n cap) n (ow xs o vs) ∧ w.grownBy (w.setCells g o vs) (some g)
  | [], o, w, xs, h, _ => by rw [ow_nil]; exact ⟨h, rfl, rfl, rfl, Nat.le_refl _, fun _ _ _ => rfl⟩
  | v :: vs, o, w, xs, h, hl => by
    have hxs := h.1
    simp only [List.length_cons] at hl
    have hs := h.stored o v
    obtain ⟨r1, r2⟩ := owns_setCells vs (o + 1) _ _ hs.1 (by omega)
    rw [ow_cons _ _ _ _ (by omega)] at r1
    refine ⟨r1, ?_⟩
    have g1 : w.grownBy (w.setCell ⟨g, o, none⟩ v) (some g) := ⟨rfl, rfl, rfl, by simp [World.setCell], fun k _ hne => Below.heap_setCell _ _ _ _ (fun e => hne (by rw [e]))⟩
    exact ⟨r2.os.trans g1.os, r2.tape.trans g1.tape, r2.output.trans g1.output, Nat.le_trans g1.size r2.size, fun k hk hne => (r2.block k (Nat.lt_of_lt_of_le hk g1.size) hne).trans (g1.block k hk hne)⟩
/-- fewer of a row -/
theorem owns_fewer {w : World} {base g cap n m size : Nat} {e : TypeId} {xs : List Value} (h : w.ownsRow base e size (.slice (some ⟨g, 0, none⟩) n cap) n xs) (hm : m ≤ n) : w.ownsRow base e size (.slice (some ⟨g, 0, none⟩) m cap) m (xs.take (m * size)) := by
  have hle : m * size ≤ n * size := Nat.mul_le_mul_right _ hm
  refine ⟨by rw [List.length_take, h.1]; omega, ?_⟩
  rcases h.2 with ⟨e1, _⟩ | ⟨g', cap', cur, hv, hb, hh, hc, hc2, hs, hx⟩
  · cases e1
  · simp only [Value.slice.injEq, Option.some.injEq, Addr.mk.injEq, and_true, true_and] at hv
    obtain ⟨rfl, rfl⟩ := hv
    exact Or.inr ⟨g, cap, cur, rfl, hb, hh, by omega, hc2, hs, by rw [← hx, List.take_take]; congr 1; omega⟩
/-- what a deletion of one at i leaves -/
theorem ow_del (xs zs : List Value) (n i m : Nat) (hl : xs.length = n * m) (hi : i < n) (hz : zs.length = m) : (ow (ow xs (i * m) (xs.drop ((i + 1) * m))) ((n - 1) * m) zs).take ((n - 1) * m) = xs.take (i * m) ++ xs.drop ((i + 1) * m) := by
  have h1 : i * m ≤ (n - 1) * m := Nat.mul_le_mul_right _ (by omega)
  have h2 : (i + 1) * m = i * m + m := Nat.succ_mul i m
  have h3 : n * m = (n - 1) * m + m := by
    obtain ⟨k, rfl⟩ : ∃ k, n = k + 1 := ⟨n - 1, by omega⟩
    rw [Nat.succ_mul]; simp
  have hxl : (xs.drop ((i + 1) * m)).length = (n - 1) * m - i * m := by rw [List.length_drop, hl]; omega
  have hol : (ow xs (i * m) (xs.drop ((i + 1) * m))).length = n * m := by rw [ow_len _ _ _ (by rw [hxl, hl]; omega), hl]
  have e1 : (ow (ow xs (i * m) (xs.drop ((i + 1) * m))) ((n - 1) * m) zs).take ((n - 1) * m) = (ow xs (i * m) (xs.drop ((i + 1) * m))).take ((n - 1) * m) := by
    exact ow_take _ _ _ (by rw [hol]; omega)
  rw [e1]
  unfold ow
  have hlen : (xs.take (i * m) ++ xs.drop ((i + 1) * m)).length = (n - 1) * m := by rw [List.length_append, List.length_take, hxl, hl]; omega
  rw [List.take_append_of_le_length (by rw [hlen]; exact Nat.le_refl _), List.take_of_length_le (by rw [hlen]; exact Nat.le_refl _)]
end Go.Proofs.Ythcfpohgjgbhpaa
/- slices.Delete of one at []queue.place -/
namespace Go.Proofs.Ythcfpohgjgbhpaa
open Go.RowKit
set_option linter.unusedVariables false
set_option maxRecDepth 20000
theorem dlPlaces_info : (Try.prog.info? 56).map (fun i => (i.zero, i.size, i.bytes)) = some (some (.agg #[.int .i64 0, .int .i64 0]), 2, 16) := by kernel_rfl
theorem dlPlaces_zero (w : World) : (zeroValue 56).run Try.prog w = .ok (.agg #[.int .i64 0, .int .i64 0]) w := by kernel_rfl
theorem dlPlaces_cells : (Builtin.zeroCells (Value.agg #[.int .i64 0, .int .i64 0]).cells 1).toList = [.int .i64 0, .int .i64 0] := by kernel_rfl
set_option maxHeartbeats 3200000 in
set_option maxRecDepth 100000 in
theorem deletePlaces_any (base g cap n i j : Nat) (xs : List Value) (w : World) (h : w.ownsRow base 56 2 (.slice (some ⟨g, 0, none⟩) n cap) n xs) (hi : i < n) (hj : j = i + 1) (hone : ∀ u ∈ xs, u.oneCell' = true) :
    Calls Try.prog 24 #[.slice (some ⟨g, 0, none⟩) n cap, .int .i64 i, .int .i64 j] w fun e w' => e = .returned (.slice (some ⟨g, 0, none⟩) (n - 1) cap) ∧ w'.ownsRow base 56 2 (.slice (some ⟨g, 0, none⟩) (n - 1) cap) (n - 1) (xs.take (i * 2) ++ xs.drop ((i + 1) * 2)) ∧ w.grownBy w' (some g) := by
  obtain ⟨i0, hi0, hz0, hz1, hz2⟩ := info_parts dlPlaces_info
  obtain ⟨hnc, hcm⟩ : n ≤ cap ∧ cap ≤ maxLen := by
    rcases h.2 with ⟨e1, _⟩ | ⟨g', cap', cur, hv, hb, hh, hc, hc2, hs, hx⟩
    · cases e1
    · simp only [Value.slice.injEq, Option.some.injEq, Addr.mk.injEq, and_true, true_and] at hv
      obtain ⟨rfl, rfl⟩ := hv
      exact ⟨hc, hc2⟩
  unfold maxLen at hcm
  have hl := h.1
  obtain ⟨news, hnews⟩ : ∃ news, news = xs.drop (j * 2) := ⟨_, rfl⟩
  have hlen : news.length = (n - j) * 2 := by rw [hnews, List.length_drop, hl]; omega
  obtain ⟨A, hA, hsrc⟩ : ∃ A : Addr, (if cap = j then some (⟨g, 0, none⟩ : Addr) else some ⟨g, j * 2, none⟩) = some A ∧ Hid (∀ t u, news[t]? = some u → w.drew.cell? (A.add t) = some u) := by
    by_cases hc : cap = j
    · refine ⟨⟨g, 0, none⟩, by simp [hc], fun t u hu => ?_⟩
      have h0 : news.length = 0 := by rw [hlen]; omega
      rw [List.length_eq_zero_iff.1 h0] at hu
      simp at hu
    · refine ⟨⟨g, j * 2, none⟩, by simp [hc], fun t u hu => ?_⟩
      have ht := (List.getElem?_eq_some_iff.1 hu).1
      rw [hlen] at ht
      rw [Go.WideShapes.add_plain]
      rw [hnews, List.getElem?_drop] at hu
      exact (h.cellAt (j * 2 + t) (by omega)).trans hu
  have s1 : Hid (news.length = (n - j) * 2) := hlen
  have s2 : Hid (∀ u ∈ news, u.oneCell' = true) := fun u hu => hone u (List.mem_of_mem_drop (hnews ▸ hu))
  have s3 : Hid (∀ t, t < news.length → (w.drew.cell? ⟨g, 0 + i * 2 + t, none⟩).isSome = true ∧ w.drew.frozen? ⟨g, 0 + i * 2 + t, none⟩ = false) := by
    intro t ht
    rw [hlen] at ht
    rw [Nat.zero_add]
    refine ⟨?_, h.frozenAt _⟩
    show (w.cell? _).isSome = true
    rw [h.cellAt (i * 2 + t) (by omega), List.getElem?_eq_getElem (by rw [hl]; omega)]; rfl
  have R1 := owns_setCells (g := g) news (i * 2) w.drew xs h (by rw [hlen]; omega)
  obtain ⟨W1, hW1⟩ : ∃ W1, W1 = w.drew.setCells g (0 + i * 2) news := ⟨_, rfl⟩
  rw [Nat.zero_add] at hW1
  rw [← hW1] at R1
  obtain ⟨O1, G1⟩ := R1
  have hj1 : i + (n - j) = n - 1 := by omega
  have hcl : ∀ ty, (Builtin.clear_ #[51] ty #[.slice (some ⟨g, (i + (n - j)) * 2, none⟩) (n - (i + (n - j))) (cap - (i + (n - j)))]).run Try.prog W1 = .ok (.tuple #[]) (W1.setCells g ((i + (n - j)) * 2) [.int .i64 0, .int .i64 0]) := by
    intro ty
    have h1 : n - (i + (n - j)) = 1 := by omega
    rw [h1]
    exact run_clear_many W1 _ _ ty _ Try.underlying51 dlPlaces_zero g _ 1 _ (by omega) [.int .i64 0, .int .i64 0] dlPlaces_cells (by simp [Value.oneCell']) (fun t ht => by
      rw [O1.cellAt _ (by simp at ht; omega), List.getElem?_eq_getElem (by rw [O1.1]; simp at ht; omega)]; rfl) (fun t _ => O1.frozenAt _)
  have R2 := owns_setCells (g := g) [.int .i64 0, .int .i64 0] ((n - 1) * 2) W1 _ O1 (by simp; omega)
  have R3 := owns_fewer R2.1 (show n - 1 ≤ n by omega)
  rw [hnews, hj, ow_del xs [.int .i64 0, .int .i64 0] n i 2 hl hi rfl] at R3
  have FIN := Lib.hid R3
  have GR := Lib.hid (show w.grownBy (W1.setCells g ((n - 1) * 2) [.int .i64 0, .int .i64 0]) (some g) from ⟨R2.2.os.trans G1.os, R2.2.tape.trans G1.tape, R2.2.output.trans G1.output, Nat.le_trans G1.size R2.2.size, fun k hk hne => (R2.2.block k (Nat.lt_of_lt_of_le hk G1.size) hne).trans (G1.block k hk hne)⟩)
  have hW : Hid (W1 = w.drew.setCells g (0 + i * 2) news) := by rw [Nat.zero_add]; exact hW1
  have HJ1 := Lib.hid hj1; have HJ := Lib.hid hj
  have hic : i ≤ cap := by omega
  have hjc : j ≤ cap := by omega
  have hlt : i < j := by omega
  have hjn : j ≤ n := by omega
  clear hW1 R2 R3 O1 G1 hnews hlen h hl hj1 hj hone
  go_enter Try.func24, Try.ntmps24
  go_wp2_with fail
  go_region_law (refine step_append_room rfl (.tmp 22) (.tmp 25) 51 rfl 56 i0 2 Try.underlying51 hi0 hz1 g 0 i cap (by simp [Act.eval, Act.put]) A (n - j) (cap - j) news (by simp [Act.eval, Act.put]) s1.out hsrc.out s2.out (by omega) s3.out ?_; rw [← hW.out])
  go_wp2
  go_ret
  rw [HJ1.out]
  exact ⟨rfl, FIN.out, GR.out⟩
end Go.Proofs.Ythcfpohgjgbhpaa
/- queue: Pop -/
namespace Go.Proofs.Ythcfpohgjgbhpaa
open Go.RowKit
set_option linter.unusedVariables false
set_option maxRecDepth 20000
theorem qPop_none (w : World) : Calls Try.prog 13 #[.pointer none] w fun e w' => e = .returned (.tuple #[.agg #[.int .i64 0, .int .i64 0, .int .i64 0, .int .i64 0, .int .i64 0, .string ⟨#[]⟩, .int .i64 0, .int .i64 0, .bool false, .int .i64 0, .string ⟨#[]⟩], .bool false]) ∧ Below w.heap.size w w' := by
  go_enter Try.func13, Try.ntmps13
  go_wp2_with fail
  refine (qLen_none _).mono ?_
  rintro e w' ⟨rfl, rfl⟩
  go_wp2_with fail
  exact bodyPost_ret (v := .tuple #[.agg #[.int .i64 0, .int .i64 0, .int .i64 0, .int .i64 0, .int .i64 0, .string ⟨#[]⟩, .int .i64 0, .int .i64 0, .bool false, .int .i64 0, .string ⟨#[]⟩], .bool false]) (by simp [results, go_sem]) rfl ⟨rfl, below_one _ _⟩
theorem qPop_empty (b : Nat) {S : Nat → Prop} (w : World) (h : QAt w b [] S) : Calls Try.prog 13 #[.pointer (some ⟨b, 0, none⟩)] w fun e w' => e = .returned (.tuple #[.agg #[.int .i64 0, .int .i64 0, .int .i64 0, .int .i64 0, .int .i64 0, .string ⟨#[]⟩, .int .i64 0, .int .i64 0, .bool false, .int .i64 0, .string ⟨#[]⟩], .bool false]) ∧ Below w.heap.size w w' := by
  have H := Lib.hid (h.below (below_one w (.cells #[.int .i64 0, .int .i64 0, .int .i64 0, .int .i64 0, .int .i64 0, .string ⟨#[]⟩, .int .i64 0, .int .i64 0, .bool false, .int .i64 0, .string ⟨#[]⟩] 34)))
  clear h
  go_enter Try.func13, Try.ntmps13
  go_wp2_with fail
  refine (qLen_any b _ H.out).mono ?_
  rintro e w' ⟨rfl, rfl⟩
  go_wp2_with fail
  exact bodyPost_ret (v := .tuple #[.agg #[.int .i64 0, .int .i64 0, .int .i64 0, .int .i64 0, .int .i64 0, .string ⟨#[]⟩, .int .i64 0, .int .i64 0, .bool false, .int .i64 0, .string ⟨#[]⟩], .bool false]) (by simp [results, go_sem]) rfl ⟨rfl, below_one _ _⟩
theorem MidQ.dropped {w w1 : World} {b bm n g co m : Nat} {f : Int → Int → Option Value} {x : AskP} {l : List AskP} {S : Nat → Prop} (h : MidQ w b bm n f (some ⟨g, 0, none⟩) co (x :: l) S) (hm : m = l.length)
    (own : w1.ownsRow 0 56 2 (.slice (some ⟨g, 0, none⟩) m co) m (plcV l)) (hg : w.grownBy w1 (some g)) :
    MidQ (w1.setCell ⟨b, 0, none⟩ (.slice (some ⟨g, 0, none⟩) m co)) b bm n f (some ⟨g, 0, none⟩) co l S ∧ Turn S w (w1.setCell ⟨b, 0, none⟩ (.slice (some ⟨g, 0, none⟩) m co)) ∧ w1.cell? ⟨b, 0, none⟩ = some (.slice (some ⟨g, 0, none⟩) (x :: l).length co) ∧ w1.frozen? ⟨b, 0, none⟩ = false := by
  obtain ⟨h1, h2, h3, h4, h5, h6, h7, h8, h9, h10⟩ := h
  subst hm
  obtain ⟨z1, z2, z3⟩ := h9 g rfl
  have hb := h10 b h7
  have bb : w1.heap[b]? = w.heap[b]? := hg.block b hb (fun e => z2 (by injection e with e; exact e.symm))
  have bbm : w1.heap[bm]? = w.heap[bm]? := hg.block bm (h10 bm h8) (fun e => z3 (by injection e with e; exact e.symm))
  have cb : ∀ i, w1.cell? ⟨b, i, none⟩ = w.cell? ⟨b, i, none⟩ := fun i => World.cell?_of_block (w := w) bb
  have tt : Turn S w w1 := ⟨hg.os, hg.tape, hg.output, hg.size, fun k hk hn => hg.block k hk (fun e => hn (by injection e with e; subst e; exact z1))⟩
  refine ⟨⟨cset_at ((cb 0).trans h1), ?_, fun i => ?_, ?_, (h5.block bbm).setCell (Ne.symm h6), h6, h7, h8, h9, fun k hk => ?_⟩, tt.trans (Turn.setCell h7), (cb 0).trans h1, ?_⟩
  · rw [cset_ne (by omega), cb]; exact h2
  · rw [fset_any, World.frozen?_of_block (w := w) bb]; exact h3 i
  · refine owns_block0 own (fun g' hg' => ?_)
    injection hg' with e; injection e with e; subst e
    exact Below.heap_setCell _ _ _ _ z2
  · have := hg.size
    rw [show (w1.setCell ⟨b, 0, none⟩ (.slice (some ⟨g, 0, none⟩) l.length co)).heap.size = w1.heap.size by simp [World.setCell]]
    exact Nat.lt_of_lt_of_le (h10 k hk) this
  · rw [World.frozen?_of_block (w := w) bb]; exact h3 0
theorem plcV_one : ∀ (ks : List AskP), ∀ u ∈ plcV ks, u.oneCell' = true
  | [], u, h => by simp [plcV] at h
  | k :: ks, u, h => by
    simp only [plcV, List.mem_cons] at h
    rcases h with h | h | h
    · subst h; rfl
    · subst h; rfl
    · exact plcV_one ks u h
theorem turn_set {F : Nat → Prop} {w w1 : World} {b o : Nat} {v : Value} (h : Turn F w w1) (hb : F b) : Turn F w (w1.setCell ⟨b, o, none⟩ v) := h.trans (Turn.setCell hb)
theorem turn_store (w : World) (p : Nat) (x : AskP) : Turn (fun k => k = p) w (((((((((((w.setCell ⟨p, 0, none⟩ (.int .i64 x.slot)).setCell ⟨p, 1, none⟩ (.int .i64 x.query)).setCell ⟨p, 2, none⟩ (.int .i64 x.shard)).setCell ⟨p, 3, none⟩ (.int .i64 x.seq)).setCell ⟨p, 4, none⟩ (.int .i64 x.epoch)).setCell ⟨p, 5, none⟩ (.string x.text)).setCell ⟨p, 6, none⟩ (.int .i64 x.k)).setCell ⟨p, 7, none⟩ (.int .i64 x.batch)).setCell ⟨p, 8, none⟩ (.bool x.first)).setCell ⟨p, 9, none⟩ (.int .i64 x.ad)).setCell ⟨p, 10, none⟩ (.string x.aw)) :=
  (turn_set (turn_set (turn_set (turn_set (turn_set (turn_set (turn_set (turn_set (turn_set (turn_set (turn_set (Turn.refl _ _) rfl) rfl) rfl) rfl) rfl) rfl) rfl) rfl) rfl) rfl) rfl)
def PopP (w : World) (b : Nat) (x : AskP) (l : List AskP) (S : Nat → Prop) (e : Ending) (w' : World) : Prop := e = .returned (.tuple #[.agg #[.int .i64 x.slot, .int .i64 x.query, .int .i64 x.shard, .int .i64 x.seq, .int .i64 x.epoch, .string x.text, .int .i64 x.k, .int .i64 x.batch, .bool x.first, .int .i64 x.ad, .string x.aw], .bool true]) ∧ QAt w' b l S ∧ Turn S w w'
theorem pop_start (w : World) (x y : Int) (e1 e2 : TypeId) (f1 f2 : Nat × Nat) : Below w.heap.size w ((w.alloc (.cells #[.int .i64 0, .int .i64 0, .int .i64 0, .int .i64 0, .int .i64 0, .string ⟨#[]⟩, .int .i64 0, .int .i64 0, .bool false, .int .i64 0, .string ⟨#[]⟩] e1 f1)).alloc (.cells #[.int .i64 x, .int .i64 y] e2 f2)) ∧
    AskIn ((w.alloc (.cells #[.int .i64 0, .int .i64 0, .int .i64 0, .int .i64 0, .int .i64 0, .string ⟨#[]⟩, .int .i64 0, .int .i64 0, .bool false, .int .i64 0, .string ⟨#[]⟩] e1 f1)).alloc (.cells #[.int .i64 x, .int .i64 y] e2 f2)) w.heap.size ask0 ∧ (∀ i, ((w.alloc (.cells #[.int .i64 0, .int .i64 0, .int .i64 0, .int .i64 0, .int .i64 0, .string ⟨#[]⟩, .int .i64 0, .int .i64 0, .bool false, .int .i64 0, .string ⟨#[]⟩] e1 (0, 0))).alloc (.cells #[.int .i64 x, .int .i64 y] e2 f2)).frozen? ⟨w.heap.size, i, none⟩ = false) ∧ PlIn ((w.alloc (.cells #[.int .i64 0, .int .i64 0, .int .i64 0, .int .i64 0, .int .i64 0, .string ⟨#[]⟩, .int .i64 0, .int .i64 0, .bool false, .int .i64 0, .string ⟨#[]⟩] e1 f1)).alloc (.cells #[.int .i64 x, .int .i64 y] e2 f2)) (w.heap.size + 1) x y :=
  ⟨((Below.refl _ _).alloc (Nat.le_refl _) _).alloc (by simp) _, (askIn_new w ask0 _ e1 f1 rfl).below (below_one _ _), fun i => ((below_one _ _).frozen (p := ⟨w.heap.size, i, none⟩) (by simp)).trans (frozen_alloc rfl), plIn_new _ _ _ _ e2 f2 (by simp)⟩
set_option maxHeartbeats 3200000 in
set_option maxRecDepth 100000 in
theorem qPop_any (b : Nat) {x : AskP} {l : List AskP} {S : Nat → Prop} (w : World) (h : QAt w b (x :: l) S) (hg : Qu.Good (x :: l)) : Calls Try.prog 13 #[.pointer (some ⟨b, 0, none⟩)] w (PopP w b x l S) := by
  have hl24 := Qu.good_len hg
  have HG := Lib.hid hg
  have H := Lib.hid h
  have H1 := Lib.hid (h.below (below_one w (.cells #[.int .i64 0, .int .i64 0, .int .i64 0, .int .i64 0, .int .i64 0, .string ⟨#[]⟩, .int .i64 0, .int .i64 0, .bool false, .int .i64 0, .string ⟨#[]⟩] 34)))
  obtain ⟨L, hL⟩ : ∃ L, x :: l = L := ⟨_, rfl⟩
  obtain ⟨n, hn⟩ : ∃ n, L.length = n := ⟨_, rfl⟩
  have hn0 : 0 < n := by rw [← hn, ← hL]; simp
  have hmay := hg.may x (by simp)
  have hfa : Qu.find L x.slot x.shard = some x := by
    have := Qu.find_at hg (i := 0) (by simp)
    rw [← hL]; simpa using this
  have CL := Lib.hid (fun w' (h' : QAt w' b L S) => (show Calls Try.prog 18 #[.pointer (some ⟨b, 0, none⟩)] w' fun e w'' => e = .returned (.int .i64 n) ∧ w' = w'' from hn ▸ qLen_any b w' h'))
  have FA := Lib.hid (show (Qu.fQ L x.slot x.shard).getD zAsk = .agg #[.int .i64 x.slot, .int .i64 x.query, .int .i64 x.shard, .int .i64 x.seq, .int .i64 x.epoch, .string x.text, .int .i64 x.k, .int .i64 x.batch, .bool x.first, .int .i64 x.ad, .string x.aw] from by unfold Qu.fQ; rw [hfa]; rfl)
  have HK := Lib.hid (show wf2 x.slot x.shard from ⟨wf_small (by have := hmay.1; omega), wf_small (by have := hmay.2; omega)⟩)
  have HLL := Lib.hid hL; have HN := Lib.hid hn
  rw [hL] at H H1 hl24
  rw [hn] at hl24
  obtain ⟨ao, co, bm, M1⟩ := H1.out.mid
  have HM := Lib.hid M1
  rw [hn] at HM
  have hown := M1.2.2.2.1
  obtain ⟨g, rfl⟩ : ∃ g, ao = some ⟨g, 0, none⟩ := by
    obtain ⟨g, cap', hv⟩ := Joins.ownsRow_form hown (by omega)
    simp only [Value.slice.injEq] at hv
    exact ⟨g, hv.1⟩
  have e0 := hown.cellAt 0 (by omega)
  have e1 := hown.cellAt 1 (by omega)
  rw [← hL] at e0 e1
  simp only [plcV, List.getElem?_cons_zero, List.getElem?_cons_succ] at e0 e1
  have k0 := M1.1
  rw [hn] at k0
  have x1 : (0 : Int) < (n : Int) := by omega
  have hne : ((n : Int) == 0) = false := by simp; omega
  have START := Lib.hid (pop_start w x.slot x.shard 34 56 (0, 0) (0, 0))
  have M2 := Lib.hid (MidQ.below M1 (below_one _ (.cells #[.int .i64 x.slot, .int .i64 x.shard] 56)))
  have HWS := Lib.hid (H.out.lt)
  clear h hg hL hn hmay hfa M1 hown
  go_enter Try.func13, Try.ntmps13
  go_wp2_with fail
  refine (CL.out _ H1.out).mono ?_
  rintro e w' ⟨rfl, rfl⟩
  clear CL
  go_upto_region 4 with fail
  obtain ⟨hb2, hA2, hf2, hP2⟩ := START.out
  clear START e0 e1 k0 H1 HM
  generalize (w.alloc (.cells #[.int .i64 0, .int .i64 0, .int .i64 0, .int .i64 0, .int .i64 0, .string ⟨#[]⟩, .int .i64 0, .int .i64 0, .bool false, .int .i64 0, .string ⟨#[]⟩] 34)).alloc (.cells #[.int .i64 x.slot, .int .i64 x.shard] 56) = w2 at *
  obtain ⟨p, hp⟩ : ∃ p, w.heap.size = p := ⟨_, rfl⟩
  have HPS := Lib.hid hp
  rw [hp] at hA2 hP2 hf2
  rw [hp]
  have B2 := Lib.hid hb2; have A2 := Lib.hid hA2; have P2 := Lib.hid hP2; have F2 := Lib.hid hf2
  have HS := Lib.hid (show w2.cell? ⟨b, 1, none⟩ = some (.map (some bm)) ∧ w2.cell? ⟨p + 1, 0, none⟩ = some (.int .i64 x.slot) ∧ w2.cell? ⟨p + 1, 1, none⟩ = some (.int .i64 x.shard) ∧ MapQ w2 bm n (Qu.fQ L) from ⟨M2.out.2.1, hP2.1, hP2.2, by have := M2.out.2.2.2.2.1; rwa [HN.out] at this⟩)
  have LT := Lib.hid (show ∀ k, k = b ∨ k = p + 1 ∨ k = bm → k < w2.heap.size from by
    intro k hk
    rcases hk with rfl | rfl | rfl
    · exact lt_of_cell M2.out.1
    · exact lt_of_cell hP2.1
    · exact M2.out.2.2.2.2.1.lt)
  clear hb2 hA2 hP2 hf2 hp
  go_cut [5] from 16 to 21 (fun v wc => v = .pointer (some ⟨w2.heap.size, 0, none⟩) ∧ Hid (Below w2.heap.size w2 wc ∧ AskIn wc w2.heap.size x))
  case first =>
    go_region_held3 (fun w' => w'.cell? ⟨b, 1, none⟩ = some (.map (some bm)) ∧ w'.cell? ⟨p + 1, 0, none⟩ = some (.int .i64 x.slot) ∧ w'.cell? ⟨p + 1, 1, none⟩ = some (.int .i64 x.shard) ∧ MapQ w' bm n (Qu.fQ L) ∧ (Instr.lookup 50 (.map (some bm)) (.agg #[.int .i64 x.slot, .int .i64 x.shard]) false).run Try.prog w' = .ok (.agg #[.int .i64 x.slot, .int .i64 x.query, .int .i64 x.shard, .int .i64 x.seq, .int .i64 x.epoch, .string x.text, .int .i64 x.k, .int .i64 x.batch, .bool x.first, .int .i64 x.ad, .string x.aw]) w')
      (first | assumption | exact allS_carry HK.out FA.out HS.out (fun k hk => rfl) | exact allS_carry HK.out FA.out HS.out (fun k hk => Below.heap_alloc _ _ _ (LT.out k hk)))
      (fail)
    all_goals
      go_wp2_with fail
      go_meet
      exact ⟨rfl, Lib.hid ⟨((Below.refl _ _).alloc (Nat.le_refl _) _).drew, (askIn_new _ x _ _ _ rfl).below (Below.refl _ _).drew⟩⟩
  case rest =>
    obtain ⟨rfl, hB3⟩ := hcut
    rename World => w3
    have hb3 := hB3.out.1
    have X3 := Lib.hid hB3.out.2
    have M3 := Lib.hid (M2.out.below hb3)
    have A3 := Lib.hid (A2.out.below hb3)
    have P3 := Lib.hid (P2.out.below hb3)
    have F3 := Lib.hid (fun i => (hb3.frozen (p := ⟨p, i, none⟩) (lt_of_cell A2.out.1)).trans (F2.out i))
    have B3 := Lib.hid (B2.out.trans (hb3.mono B2.out.size))
    obtain ⟨p5, hp5⟩ : ∃ p5, w2.heap.size = p5 := ⟨_, rfl⟩
    have hpp : p ≤ p5 := by have := B2.out.size; have h2 := HPS.out; omega
    have HPP := Lib.hid hpp
    have P5NE := Lib.hid (show p5 ≠ p from by have := lt_of_cell A2.out.1; omega)
    rw [hp5] at X3
    rw [hp5]
    have k0 := M3.out.1
    rw [HN.out] at k0
    have kown := M3.out.2.2.2.1
    rw [HN.out] at kown
    have CD := Lib.hid (deletePlaces_any 0 g co n 0 1 (plcV L) w3 kown hn0 rfl (plcV_one _))
    clear hb3 hp5 hB3 kown
    go_wp2_with fail
    refine CD.out.mono ?_
    rintro e w4 ⟨rfl, ho, hg4⟩
    have hll : n - 1 = l.length := by have := HN.out; have h2 := HLL.out; rw [← h2] at this; simp at this; omega
    rw [hll] at ho
    have R4 := MidQ.dropped (x := x) (l := l) (w := w3) (w1 := w4) (m := l.length) (by rw [HLL.out]; exact M3.out) rfl (by
      have e : plcV L = .int .i64 x.slot :: .int .i64 x.shard :: plcV l := by rw [← HLL.out]; rfl
      rw [e] at ho; simpa using ho) hg4
    obtain ⟨R41, R42, R43, R44⟩ := R4
    rw [HLL.out, HN.out] at R43
    have M5 := Lib.hid R41; have T5 := Lib.hid R42
    clear ho CD R41 R42
    go_upto_region 6 with fail
    clear hll R43 R44
    generalize w4.setCell ⟨b, 0, none⟩ (.slice (some ⟨g, 0, none⟩) l.length co) = w5 at *
    have hpS : ∀ k, p ≤ k → ¬ S k := fun k hk h => by have := HWS.out k h; have h2 := HPS.out; omega
    have A5 := Lib.hid (A3.out.of (w' := w5) fun i => T5.out.cell (lt_of_cell A3.out.1) (hpS p (Nat.le_refl _)))
    have F5 := Lib.hid (fun i => (T5.out.frozen (o := i) (lt_of_cell A3.out.1) (hpS p (Nat.le_refl _))).trans (F3.out i))
    have X5 := Lib.hid (X3.out.of (w' := w5) fun i => T5.out.cell (lt_of_cell X3.out.1) (hpS p5 HPP.out))
    have P5 := Lib.hid (show PlIn w5 (p + 1) x.slot x.shard from ⟨(T5.out.cell (lt_of_cell P3.out.1) (hpS (p + 1) (by omega))).trans P3.out.1, (T5.out.cell (lt_of_cell P3.out.1) (hpS (p + 1) (by omega))).trans P3.out.2⟩)
    have MQ5 := Lib.hid (show MapQ w5.drew bm n (Qu.fQ L) from by
      have := (MidQ.below M5.out (Below.refl _ _).drew).2.2.2.2.1
      rwa [HN.out] at this)
    have hbm := M5.out.2.2.2.2.2.1
    have lb5 : b < w5.heap.size := lt_of_cell M5.out.1
    have hnc : ∀ k v, w5.cell? ⟨k, 0, none⟩ = some v → k ≠ bm := fun k v h e => MapQ.no_cell MQ5.out 0 v (e ▸ h)
    have hn1 : p + 1 ≠ bm := hnc _ _ P5.out.1
    have hn2 : p ≠ bm := hnc _ _ A5.out.1
    have hn3 : p5 ≠ bm := hnc _ _ X5.out.1
    have q0 : w5.cell? ⟨b, 1, none⟩ = some (.map (some bm)) := M5.out.2.1
    obtain ⟨q1, q2⟩ := P5.out
    have AFTER := Lib.hid (fun w6 (t : w5.drew.mapTurned w6 bm) => show w6.cell? ⟨b, 1, none⟩ = some (.map (some bm)) ∧ w6.cell? ⟨p + 1, 0, none⟩ = some (.int .i64 x.slot) ∧ w6.cell? ⟨p + 1, 1, none⟩ = some (.int .i64 x.shard) from by
      have T := TurnQ.of_mapTurned (F := fun k => k = bm) t rfl
      exact ⟨(T.cell (w := w5.drew) lb5 hbm).trans q0, (T.cell (w := w5.drew) (lt_of_cell q1) hn1).trans q1, (T.cell (w := w5.drew) (lt_of_cell q1) hn1).trans q2⟩)
    clear hnc hpS
    go_cut [5] from 30 to 34 (fun v wc => v = .pointer (some ⟨p5, 0, none⟩) ∧ Hid (∃ m, MapQ wc bm m (qset (Qu.fQ L) x.slot x.shard none) ∧ m = l.length ∧ w5.drew.mapTurned wc bm))
    case first =>
      go_region_held3 (fun w' => w'.cell? ⟨b, 1, none⟩ = some (.map (some bm)) ∧ w'.cell? ⟨p + 1, 0, none⟩ = some (.int .i64 x.slot) ∧ w'.cell? ⟨p + 1, 1, none⟩ = some (.int .i64 x.shard))
        (first | assumption | exact ⟨q0, q1, q2⟩ | exact AFTER.out _ t6)
        ((refine wp_del_mq (.tmp 33) (.tmp 34) (by rfl) (by rfl) MQ5.out x.slot x.shard (by rfl) HK.out ?_; intro w6 m6 t6))
      all_goals
        go_wp2_with fail
        go_meet
        refine ⟨rfl, Lib.hid ⟨_, m6, ?_, t6⟩⟩
        have e : (Qu.fQ L x.slot x.shard).isSome = true := by
          have := Qu.find_at HG.out (i := 0) (by simp)
          have h2 := HLL.out
          unfold Qu.fQ
          rw [← h2]
          simp at this
          rw [this]; rfl
        rw [if_pos e]
        have := HN.out; have h2 := HLL.out; rw [← h2] at this; simp at this; omega
    case rest =>
      obtain ⟨rfl, hM6⟩ := hcut
      rename World => w6
      obtain ⟨m, m6, rfl, t6⟩ := hM6.out
      have T := TurnQ.of_mapTurned (F := fun k => k = bm) t6 rfl
      have M6 := Lib.hid (MidQ.map (w := w5.drew) (MidQ.below M5.out (Below.refl _ _).drew) m6 t6)
      have A6 := A5.out.of (w' := w6) fun i => T.cell (w := w5.drew) (lt_of_cell A5.out.1) hn2
      have F6 : ∀ i, w6.frozen? ⟨p, i, none⟩ = false := fun i => (T.frozen (w := w5.drew) (lt_of_cell A5.out.1) hn2).trans (F5.out i)
      have X6 := X5.out.of (w' := w6) fun i => T.cell (w := w5.drew) (lt_of_cell X5.out.1) hn3
      have T6 := Lib.hid ((T5.out.trans (Turn.drewN S w5 1)).trans (T.mono (fun k hk => by subst hk; exact M5.out.2.2.2.2.2.2.2.1)))
      unfold AskIn at A6 X6
      obtain ⟨y0, y1, y2, y3, y4, y5, y6, y7, y8, y9, y10⟩ := A6
      obtain ⟨z0, z1, z2, z3, z4, z5, z6, z7, z8, z9, z10⟩ := X6
      have hpb : p ≠ b ∧ p5 ≠ p := ⟨fun e => by have := HWS.out b M5.out.2.2.2.2.2.2.1; have h2 := HPS.out; omega, P5NE.out⟩
      clear T hM6 m6 t6 AFTER q0 q1 q2
      have QQ := M6.out.qat (hn := rfl) (hf := fun a c => by
        have hh := Qu.find_tail HG.out a c
        rw [HLL.out] at hh
        unfold qset Qu.fQ
        rw [hh]
        by_cases e : a = x.slot ∧ c = x.shard
        · rw [if_pos e, if_pos e]; rfl
        · rw [if_neg e, if_neg e])
      have Q6 := Lib.hid QQ
      clear QQ
      go_wp2_with fail
      have TS := turn_store w6 p x
      refine bodyPost_ret (v := .tuple #[.agg #[.int .i64 x.slot, .int .i64 x.query, .int .i64 x.shard, .int .i64 x.seq, .int .i64 x.epoch, .string x.text, .int .i64 x.k, .int .i64 x.batch, .bool x.first, .int .i64 x.ad, .string x.aw], .bool true]) (by simp [results, go_sem, y0, y1, y2, y3, y4, y5, y6, y7, y8, y9, y10]) rfl ⟨rfl, Q6.out.turn TS (fun k hk e => by subst e; have := HWS.out _ hk; have h2 := HPS.out; omega), ?_⟩
      exact (((Turn.of_below B3.out).trans T6.out)).trans' TS (fun k hk => Or.inr (by rw [hk, HPS.out]; exact Nat.le_refl _))
end Go.Proofs.Ythcfpohgjgbhpaa
/- queue: Stop -/
namespace Go.Proofs.Ythcfpohgjgbhpaa
open Go.RowKit
set_option linter.unusedVariables false
set_option maxRecDepth 20000
namespace Qu
theorem find_mid {A B : List AskP} {x : AskP} (hg : Good (A ++ x :: B)) (s d : Int) : find (A ++ B) s d = if s = x.slot ∧ d = x.shard then none else find (A ++ x :: B) s d := by
  have hp := hg.apart
  rw [List.pairwise_append] at hp
  obtain ⟨h1, h2, h3⟩ := hp
  obtain ⟨h4, h5⟩ := List.pairwise_cons.1 h2
  by_cases e : s = x.slot ∧ d = x.shard
  · rw [if_pos e, find_none]
    obtain ⟨rfl, rfl⟩ := e
    intro y hy h
    rcases List.mem_append.1 hy with hy | hy
    · exact h3 y hy x (by simp) ⟨h.1, h.2⟩
    · exact h4 y hy ⟨h.1.symm, h.2.symm⟩
  · rw [if_neg e]
    unfold find
    rw [List.find?_append, List.find?_append]
    congr 1
    rw [List.find?_cons_of_neg]
    simp only [decide_eq_true_eq]
    exact fun h => e ⟨h.1.symm, h.2.symm⟩
def kept (L : List AskP) (s q : Int) (j : Nat) : List AskP := (L.take j).filter (keeps s q)
def mid (L : List AskP) (s q : Int) (j : Nat) : List AskP := kept L s q j ++ L.drop j
theorem take_get {L : List AskP} {j : Nat} (h : j < L.length) : L.take (j + 1) = L.take j ++ [L.getD j ask0] := by
  rw [List.take_add_one, List.getD_eq_getElem?_getD, List.getElem?_eq_getElem h]; rfl
theorem drop_get {L : List AskP} {j : Nat} (h : j < L.length) : L.drop j = L.getD j ask0 :: L.drop (j + 1) := by
  rw [List.drop_eq_getElem_cons h, List.getD_eq_getElem?_getD, List.getElem?_eq_getElem h]; rfl
theorem kept_yes {L : List AskP} {s q : Int} {j : Nat} (h : j < L.length) (hk : keeps s q (L.getD j ask0) = true) : kept L s q (j + 1) = kept L s q j ++ [L.getD j ask0] := by
  unfold kept; rw [take_get h, List.filter_append]
  congr 1
  rw [List.filter_cons, if_pos hk]; rfl
theorem kept_no {L : List AskP} {s q : Int} {j : Nat} (h : j < L.length) (hk : keeps s q (L.getD j ask0) = false) : kept L s q (j + 1) = kept L s q j := by
  unfold kept; rw [take_get h, List.filter_append]
  have : List.filter (keeps s q) [L.getD j ask0] = [] := by rw [List.filter_cons, hk]; rfl
  rw [this, List.append_nil]
theorem mid_yes {L : List AskP} {s q : Int} {j : Nat} (h : j < L.length) (hk : keeps s q (L.getD j ask0) = true) : mid L s q (j + 1) = mid L s q j := by
  unfold mid; rw [kept_yes h hk, drop_get h, List.append_assoc]; rfl
theorem mid_no {L : List AskP} {s q : Int} {j : Nat} (h : j < L.length) (hk : keeps s q (L.getD j ask0) = false) : mid L s q (j + 1) = kept L s q j ++ L.drop (j + 1) := by
  unfold mid; rw [kept_no h hk]
theorem mid_at {L : List AskP} {s q : Int} {j : Nat} (h : j < L.length) : mid L s q j = kept L s q j ++ L.getD j ask0 :: L.drop (j + 1) := by unfold mid; rw [drop_get h]
theorem mid_good {L : List AskP} (hg : Good L) (s q : Int) (j : Nat) : Good (mid L s q j) := by
  unfold mid kept
  have hsub : ((L.take j).filter (keeps s q) ++ L.drop j).Sublist L := by
    have h1 : ((L.take j).filter (keeps s q) ++ L.drop j).Sublist (L.take j ++ L.drop j) := (List.filter_sublist).append (List.Sublist.refl _)
    rwa [List.take_append_drop] at h1
  exact ⟨fun x hx => hg.may x (hsub.subset hx), hg.apart.sublist hsub⟩
theorem mid_find {L : List AskP} (hg : Good L) {s q : Int} {j : Nat} (h : j < L.length) : find (mid L s q j) (L.getD j ask0).slot (L.getD j ask0).shard = some (L.getD j ask0) := by
  have h1 := find_at (mid_good hg s q j) (i := (kept L s q j).length) (by rw [mid_at h]; simp)
  have h2 : (mid L s q j).getD (kept L s q j).length ask0 = L.getD j ask0 := by rw [mid_at h]; simp [List.getD_eq_getElem?_getD]
  rwa [h2] at h1
theorem mid_len {L : List AskP} {s q : Int} {j : Nat} : (mid L s q j).length ≤ L.length := by
  unfold mid kept
  have := List.length_filter_le (keeps s q) (L.take j)
  rw [List.length_append, List.length_drop]
  have h2 := List.length_take_le j L
  rw [List.length_take] at this
  omega
theorem mid_end (L : List AskP) (s q : Int) : mid L s q L.length = stop L s q ∧ kept L s q L.length = stop L s q := by
  unfold mid kept stop
  rw [List.take_length, List.drop_length, List.append_nil]; exact ⟨rfl, rfl⟩
theorem stop_len (L : List AskP) (s q : Int) : (stop L s q).length ≤ L.length := List.length_filter_le _ _
end Qu
theorem qStop_none (s q : Int) (w : World) : Calls Try.prog 15 #[.pointer none, .int .i64 s, .int .i64 q] w fun e w' => e = .returned (.int .i64 0) ∧ w = w' := by
  go_enter Try.func15, Try.ntmps15
  go_wp2_with fail
  refine (qLen_none _).mono ?_
  rintro e w' ⟨rfl, rfl⟩
  go_wp2_with fail
  go_ret
  exact ⟨rfl, rfl⟩
theorem ask_query (x : AskP) (w : World) : (Instr.field 34 (.agg #[.int .i64 x.slot, .int .i64 x.query, .int .i64 x.shard, .int .i64 x.seq, .int .i64 x.epoch, .string x.text, .int .i64 x.k, .int .i64 x.batch, .bool x.first, .int .i64 x.ad, .string x.aw]) 1).run Try.prog w = .ok (.int .i64 x.query) w := by rfl
theorem owns_zero {w : World} {base : Nat} {e : TypeId} {size : Nat} {v : Value} {n : Nat} {xs : List Value} (h : w.ownsRow base e size v n xs) : w.ownsRow 0 e size v n xs := by
  refine ⟨h.1, ?_⟩
  rcases h.2 with h1 | ⟨g, cap, cur, hv, hg, r⟩
  · exact Or.inl h1
  · exact Or.inr ⟨g, cap, cur, hv, Nat.zero_le _, r⟩
theorem two_newQ (w : World) (u v : Value) (e : TypeId) (fr : Nat × Nat) : ∀ ad, (some ⟨w.heap.size, 0, none⟩ : Option Addr) = some ad → ∀ j x, [u, v][j]? = some x → (w.alloc (.cells #[u, v] e fr)).cell? (ad.add j) = some x := by
  intro ad h j x hx
  cases h
  rw [Go.WideShapes.add_plain, Nat.zero_add, World.cell?_alloc_mark]
  simpa using hx
theorem two_oneQ (y z : Int) : ∀ u ∈ [Value.int .i64 y, Value.int .i64 z], u.oneCell' = true := by simp [Value.oneCell']
def StopP (w : World) (b : Nat) (L : List AskP) (S : Nat → Prop) (s q : Int) (e : Ending) (w' : World) : Prop :=
  e = .returned (.int .i64 ((L.length : Int) - ((Qu.stop L s q).length : Int))) ∧ ∃ S', QAt w' b (Qu.stop L s q) S' ∧ (∀ k, S' k → S k ∨ w.heap.size ≤ k) ∧ Turn S w w'
set_option maxHeartbeats 3200000 in
set_option maxRecDepth 100000 in
theorem qStop_any (b : Nat) {L : List AskP} {S : Nat → Prop} (s q : Int) (w : World) (h : QAt w b L S) (hg : Qu.Good L) : Calls Try.prog 15 #[.pointer (some ⟨b, 0, none⟩), .int .i64 s, .int .i64 q] w (StopP w b L S s q) := by
  have hl24 := Qu.good_len hg
  have HG := Lib.hid hg
  have H := Lib.hid h
  obtain ⟨i0, hi, hz0, hz1, hz2⟩ := info_parts pl_info
  obtain ⟨n, hn⟩ : ∃ n, L.length = n := ⟨_, rfl⟩
  have CL := Lib.hid (fun w' (h' : QAt w' b L S) => (show Calls Try.prog 18 #[.pointer (some ⟨b, 0, none⟩)] w' fun e w'' => e = .returned (.int .i64 n) ∧ w' = w'' from hn ▸ qLen_any b w' h'))
  by_cases h0 : n = 0
  · have hL : L = [] := List.length_eq_zero_iff.1 (by rw [hn]; exact h0)
    have HP := Lib.hid (show StopP w b L S s q (.returned (.int .i64 0)) w from ⟨by rw [hL]; rfl, S, by rw [hL] at h ⊢; exact h, fun k hk => Or.inl hk, Turn.refl _ _⟩)
    subst h0
    clear h hg hL hn
    go_enter Try.func15, Try.ntmps15
    go_wp2_with fail
    refine (CL.out _ H.out).mono ?_
    rintro e w' ⟨rfl, rfl⟩
    go_wp2_with fail
    go_ret
    exact HP.out
  · obtain ⟨ao, co, bm, M⟩ := h.mid
    have HM := Lib.hid M
    rw [hn] at HM
    have hown := M.2.2.2.1
    rw [hn] at hown
    obtain ⟨g, rfl⟩ : ∃ g, ao = some ⟨g, 0, none⟩ := by
      obtain ⟨g, cap', hv⟩ := Joins.ownsRow_form hown (by omega)
      simp only [Value.slice.injEq] at hv
      exact ⟨g, hv.1⟩
    have HO := Lib.hid hown
    have k0 := M.1
    rw [hn] at k0 hl24
    have hgb := M.2.2.2.2.2.2.2.2.1 g rfl
    have hbm := M.2.2.2.2.2.1
    have hSl := Lib.hid M.2.2.2.2.2.2.2.2.2
    have SBM := Lib.hid M.2.2.2.2.2.2.2.1
    have c1 := M.2.1
    have fr := M.2.2.1
    have FR := Lib.hid fr
    have MQ := Lib.hid (show MapQ w bm (Qu.mid L s q 0).length (Qu.fQ (Qu.mid L s q 0)) from by
      have e : Qu.mid L s q 0 = L := by simp [Qu.mid, Qu.kept]
      rw [e]; exact M.2.2.2.2.1)
    have hz : ((n : Int) == 0) = false := by simp; omega
    have lb := lt_of_cell k0
    have lbm : bm < w.heap.size := M.2.2.2.2.1.lt
    have lg : g < w.heap.size := (hown.lt g rfl).2
    have HN := Lib.hid hn
    have HGB := Lib.hid hgb
    have C1 := Lib.hid c1; have K0 := Lib.hid k0
    clear h hg hn M hown fr hgb c1
    go_enter Try.func15, Try.ntmps15
    go_wp2_with fail
    refine (CL.out _ H.out).mono ?_
    rintro e w' ⟨rfl, rfl⟩
    clear CL
    go_wp2_with fail
    go_loopw [8, 20] (fun ov iv wr => ∃ (j : Nat) (K : List AskP) (av : Option Addr) (cv : Nat), j ≤ n ∧ K.length ≤ j ∧ iv = .int .i64 j ∧ ov = .slice av K.length cv ∧ Hid (K = Qu.kept L s q j) ∧ Hid (wr.ownsRow w.heap.size 56 2 (.slice av K.length cv) K.length (plcV K)) ∧ Hid (MapQ wr bm (Qu.mid L s q j).length (Qu.fQ (Qu.mid L s q j))) ∧ Hid (Turn (fun k => k = bm) w wr)) (fun _ iv _ => n - (intOf iv).toNat)
    case atStart => exact ⟨0, [], none, 0, by omega, by simp, rfl, rfl, Lib.hid rfl, Lib.hid (World.ownsRow_nil _ _ _ _), MQ, Lib.hid (Turn.refl _ _)⟩
    case round =>
      obtain ⟨j, K, av, cv, hj, hKl, rfl, rfl, hK, hO, hMp, hT⟩ := hrel
      by_cases hlt : j < n
      · have hltL : j < L.length := by rw [HN.out]; exact hlt
        have cg : ∀ i, wr.cell? ⟨g, i, none⟩ = w.cell? ⟨g, i, none⟩ := fun i => hT.out.cell lg HGB.out.2.2
        have e0 := (cg (j * 2)).trans (HO.out.cellAt (j * 2) (by omega))
        have e1 := (cg (j * 2 + 1)).trans (HO.out.cellAt (j * 2 + 1) (by omega))
        obtain ⟨v0, v1⟩ := plcV_at L j hltL
        rw [v0] at e0
        rw [v1] at e1
        have hfa := Qu.mid_find HG.out (s := s) (q := q) hltL
        have hmay := HG.out.may _ (getD_memAsk L j hltL)
        have hky := fun h => Qu.kept_yes (L := L) (s := s) (q := q) hltL h
        have hkn := fun h => Qu.kept_no (L := L) (s := s) (q := q) hltL h
        have hmy := fun h => Qu.mid_yes (L := L) (s := s) (q := q) hltL h
        have hmn := fun h => Qu.mid_no (L := L) (s := s) (q := q) hltL h
        have hma := Qu.mid_at (L := L) (s := s) (q := q) hltL
        obtain ⟨x, hx⟩ : ∃ x, L.getD j ask0 = x := ⟨_, rfl⟩
        rw [hx] at e0 e1 hfa hmay hma
        simp only [hx] at hky hkn hmy hmn
        obtain ⟨LJ, hLJ⟩ : ∃ LJ, Qu.mid L s q j = LJ := ⟨_, rfl⟩
        have hgj := Qu.mid_good HG.out s q j
        rw [hLJ] at hfa hma hmy hMp hgj
        have hlj : LJ.length ≤ n := by rw [← hLJ, ← HN.out]; exact Qu.mid_len
        have FA := Lib.hid (show (Qu.fQ LJ x.slot x.shard).getD zAsk = .agg #[.int .i64 x.slot, .int .i64 x.query, .int .i64 x.shard, .int .i64 x.seq, .int .i64 x.epoch, .string x.text, .int .i64 x.k, .int .i64 x.batch, .bool x.first, .int .i64 x.ad, .string x.aw] from by unfold Qu.fQ; rw [hfa]; rfl)
        have HSOME := Lib.hid (show (Qu.fQ LJ x.slot x.shard).isSome = true from by unfold Qu.fQ; rw [hfa]; rfl)
        have HK := Lib.hid (show wf2 x.slot x.shard from ⟨wf_small (by have := hmay.1; omega), wf_small (by have := hmay.2; omega)⟩)
        have KY := Lib.hid hky; have KN := Lib.hid hkn; have MY := Lib.hid hmy; have MN := Lib.hid hmn; have MA := Lib.hid hma; have GJ := Lib.hid hgj
        have x1 : (0 : Int) ≤ (j : Int) := by omega
        have x2 : (j : Int) < (n : Int) := by omega
        have OB := Lib.hid (fun k hk => hO.out.lt k hk)
        have ONN := Lib.hid (fun o => owns_below hO.out (below_one wr o))
        have F5 := Lib.hid (plIn_new wr x.slot x.shard wr.heap.size 56 (0, 0) rfl)
        have B5 := Lib.hid (below_one wr (.cells #[.int .i64 x.slot, .int .i64 x.shard] 56))
        have hws := hT.out.size
        clear v0 v1 hfa hmay hky hkn hmy hmn hma hx hLJ hgj cg
        go_upto_region 8 with fail
        have O5 := Lib.hid (ONN.out (.cells #[.int .i64 x.slot, .int .i64 x.shard] 56))
        have M5 := Lib.hid (hMp.out.below B5.out)
        have TW := Lib.hid (hT.out.trans (Turn.of_below B5.out))
        generalize wr.alloc (.cells #[.int .i64 x.slot, .int .i64 x.shard] 56) = w5 at *
        obtain ⟨p, hp⟩ : ∃ p, wr.heap.size = p := ⟨_, rfl⟩
        rw [hp] at F5 OB hws
        rw [hp]
        have cb := (TW.out.cell (o := 1) lb hbm).trans C1.out
        have HS := Lib.hid (show w5.cell? ⟨b, 1, none⟩ = some (.map (some bm)) ∧ w5.cell? ⟨p, 0, none⟩ = some (.int .i64 x.slot) ∧ w5.cell? ⟨p, 1, none⟩ = some (.int .i64 x.shard) ∧ MapQ w5 bm LJ.length (Qu.fQ LJ) from ⟨cb, F5.out.1, F5.out.2, M5.out⟩)
        clear hp e0 e1 ONN B5 hO hMp hT cb
        obtain ⟨f0, f1⟩ := F5.out
        obtain ⟨kp, hkp⟩ : ∃ kp, Qu.keeps s q x = kp := ⟨_, rfl⟩
        have HKP := Lib.hid hkp
        have LT := Lib.hid (show ∀ k, k = b ∨ k = p ∨ k = bm → k < w5.heap.size from by
          intro k hk
          rcases hk with rfl | rfl | rfl
          · exact lt_of_cell HS.out.1
          · exact lt_of_cell HS.out.2.1
          · exact HS.out.2.2.2.lt)
        go_cut [38] from 24 to 37 (fun v wc => v = .bool (!kp) ∧ Hid (Below w5.heap.size w5 wc))
        case first =>
          by_cases hs : x.slot = s
          · have d1 : (x.slot == s) = true := by simpa using hs
            have hkq : (!kp) = decide (x.query ≤ q) := by rw [← hkp]; unfold Qu.keeps; simp [hs]
            have HKQ := Lib.hid hkq
            have hfld := fun w => ask_query x w
            clear hs hkp hkq f0 f1
            go_region_held3 (fun w' => w'.cell? ⟨b, 1, none⟩ = some (.map (some bm)) ∧ w'.cell? ⟨p, 0, none⟩ = some (.int .i64 x.slot) ∧ w'.cell? ⟨p, 1, none⟩ = some (.int .i64 x.shard) ∧ MapQ w' bm LJ.length (Qu.fQ LJ) ∧ (Instr.lookup 50 (.map (some bm)) (.agg #[.int .i64 x.slot, .int .i64 x.shard]) false).run Try.prog w' = .ok (.agg #[.int .i64 x.slot, .int .i64 x.query, .int .i64 x.shard, .int .i64 x.seq, .int .i64 x.epoch, .string x.text, .int .i64 x.k, .int .i64 x.batch, .bool x.first, .int .i64 x.ad, .string x.aw]) w')
              (first | assumption | exact allS_carry HK.out FA.out HS.out (fun k hk => rfl))
              (fail)
            go_wp2_with fail
            go_meet
            exact ⟨by rw [HKQ.out], Lib.hid (Below.refl _ _).drew⟩
          · have d1 : (x.slot == s) = false := by simpa using hs
            have hkq : kp = true := by rw [← hkp]; unfold Qu.keeps; simp [hs]
            subst hkq
            clear hs hkp
            go_quiet (fail)
            go_wp2_with fail
            go_meet
            exact ⟨rfl, Lib.hid (below_drewN _ _)⟩
        case rest =>
          obtain ⟨rfl, hB6⟩ := hcut
          rename World => w6
          have P6 := PlIn.below (w := w5) (w' := w6) ⟨f0, f1⟩ hB6.out
          have O6 := Lib.hid (owns_below O5.out hB6.out)
          have M6 := Lib.hid (M5.out.below hB6.out)
          have T6 := Lib.hid (TW.out.trans (Turn.of_below hB6.out))
          have cb6 := (T6.out.cell (o := 1) lb hbm).trans C1.out
          obtain ⟨q0, q1⟩ := P6
          clear f0 f1 hkp
          cases kp
          · -- it is dropped
            have hpbm : p ≠ bm := fun e => MapQ.no_cell M6.out 0 _ (e ▸ q0)
            have MQ6 := Lib.hid (M6.out.below (Below.refl _ _).drew)
            have lb6 := lt_of_cell cb6
            have lp6 := lt_of_cell q0
            have AFTER := Lib.hid (fun w7 (t : w6.drew.mapTurned w7 bm) => show w7.cell? ⟨b, 1, none⟩ = some (.map (some bm)) ∧ w7.cell? ⟨p, 0, none⟩ = some (.int .i64 x.slot) ∧ w7.cell? ⟨p, 1, none⟩ = some (.int .i64 x.shard) from by
              have T := TurnQ.of_mapTurned (F := fun k => k = bm) t rfl
              exact ⟨(T.cell (w := w6.drew) lb6 hbm).trans cb6, (T.cell (w := w6.drew) lp6 hpbm).trans q0, (T.cell (w := w6.drew) lp6 hpbm).trans q1⟩)
            go_upto_region 9 with fail
            go_region_held3 (fun w' => w'.cell? ⟨b, 1, none⟩ = some (.map (some bm)) ∧ w'.cell? ⟨p, 0, none⟩ = some (.int .i64 x.slot) ∧ w'.cell? ⟨p, 1, none⟩ = some (.int .i64 x.shard))
              (first | assumption | exact ⟨cb6, q0, q1⟩ | exact AFTER.out _ t7)
              ((refine wp_del_mq (.tmp 42) (.tmp 43) (by rfl) (by rfl) MQ6.out x.slot x.shard (by rfl) HK.out ?_; intro w7 m7 t7))
            all_goals
              have TT := TurnQ.of_mapTurned (F := fun k => k = bm) t7 rfl
              have hm : MapQ w7 bm (Qu.mid L s q (j + 1)).length (Qu.fQ (Qu.mid L s q (j + 1))) := by
                rw [HSOME.out, if_pos rfl] at m7
                have e1 := MN.out HKP.out
                have e2 := MA.out
                have e3 : (Qu.mid L s q (j + 1)).length = LJ.length - 1 := by rw [e1, e2]; simp
                have e4 : qset (Qu.fQ LJ) x.slot x.shard none = Qu.fQ (Qu.mid L s q (j + 1)) := by
                  funext a c
                  have hh := Qu.find_mid (e2 ▸ GJ.out) a c
                  rw [← e2] at hh
                  unfold qset Qu.fQ
                  rw [e1, hh]
                  by_cases e : a = x.slot ∧ c = x.shard
                  · rw [if_pos e, if_pos e]; rfl
                  · rw [if_neg e, if_neg e]
                rw [e3, ← e4]; exact m7
              have hk2 : K = Qu.kept L s q (j + 1) := by rw [KN.out HKP.out]; exact hK.out
              have O7 := Lib.hid (show w7.ownsRow w.heap.size 56 2 (.slice av K.length cv) K.length (plcV K) from owns_block0 O6.out (fun g' hg' => TT.block (w := w6.drew) g' (by have := (O6.out.lt g' (by rw [hg']; rfl)).2; exact this) (fun e => by have := (O6.out.lt g' (by rw [hg']; rfl)).1; omega)))
              have M7 := Lib.hid hm; have K7 := Lib.hid hk2
              have T7 := Lib.hid ((T6.out.trans (Turn.drewN _ w6 1)).trans TT)
              clear hm hk2 m7 t7 TT AFTER
              go_wp2_with fail
              go_roundw
              case rel => exact ⟨j + 1, K, av, cv, by omega, by omega, by go_num, rfl, K7, O7, M7, T7⟩
              case measure => simp [intOf] <;> omega
          · -- it is kept
            have hws6 := T6.out.size
            go_wp2_with (at_builtin; refine wpList_append_any rfl (.tmp 44) (.tmp 46) 51 rfl w.heap.size 56 i0 _ 2 16 Try.underlying51 hi hz0 hz1 hz2 rfl (by decide) _ K.length _ rfl (O6.out.alloc _) _ 1 1 [.int .i64 x.slot, .int .i64 x.shard] rfl (some_none _) rfl (two_newQ _ _ _ _ _) (two_oneQ _ _) (by unfold maxLen; omega) (by omega) (by simp <;> omega) ?_; intro a3 c3 w7 hown3 hb3 hnil3)
            have hown4 : w7.ownsRow w.heap.size 56 2 (.slice a3 (K.length + 1) c3) (K.length + 1) (plcV (K ++ [x])) := by rw [plcV_app]; exact hown3
            have O7 := Lib.hid (show w7.ownsRow w.heap.size 56 2 (.slice a3 (K ++ [x]).length c3) (K ++ [x]).length (plcV (K ++ [x])) from by rw [List.length_append]; exact hown4)
            have K7 := Lib.hid (show K ++ [x] = Qu.kept L s q (j + 1) from by rw [KY.out HKP.out, ← hK.out])
            have bb7 : Below w.heap.size w6 w7 := ((Below.refl _ _).alloc hws6 _).trans hb3
            have M7 := Lib.hid (show MapQ w7 bm (Qu.mid L s q (j + 1)).length (Qu.fQ (Qu.mid L s q (j + 1))) from by rw [MY.out HKP.out]; exact M6.out.block (bb7.block bm lbm))
            have T7 := Lib.hid (show Turn (fun k => k = bm) w w7 from ⟨bb7.os.trans T6.out.os, bb7.tape.trans T6.out.tape, bb7.output.trans T6.out.output, Nat.le_trans T6.out.size bb7.size, fun k hk hn => (bb7.block k hk).trans (T6.out.block k hk hn)⟩)
            clear hown3 hown4 hb3 hnil3 bb7
            go_roundw
            case rel => exact ⟨j + 1, K ++ [x], a3, c3, by omega, by simpa using hKl, by go_num, by simp, K7, O7, M7, T7⟩
            case measure => simp [intOf] <;> omega
      · obtain rfl : j = n := by omega
        have hend := Qu.mid_end L s q
        rw [HN.out] at hend
        have hKe : K = Qu.stop L s q := hK.out.trans hend.2
        have hMe := hMp.out
        rw [hend.1] at hMe
        obtain ⟨R, hR⟩ : ∃ R, Qu.stop L s q = R := ⟨_, rfl⟩
        rw [hR] at hKe hMe
        subst hKe
        obtain ⟨r, hr⟩ : ∃ r, K.length = r := ⟨_, rfl⟩
        have O7 := Lib.hid hO.out
        rw [hr] at O7 hKl
        have cb0 := (hT.out.cell (o := 0) lb hbm).trans K0.out
        have fb0 : wr.frozen? ⟨b, 0, none⟩ = false := (hT.out.frozen (o := 0) lb hbm).trans (FR.out 0)
        have cb1 := Lib.hid ((hT.out.cell (o := 1) lb hbm).trans C1.out)
        have FRr := Lib.hid (fun i => (hT.out.frozen (o := i) lb hbm).trans (FR.out i))
        have HR := Lib.hid hR; have HRL := Lib.hid hr; have ME := Lib.hid hMe; have TT := Lib.hid hT.out
        have z1 : IntKind.i64.wrap ((j : Int) - (r : Int)) = (j : Int) - (r : Int) := IntWalk.i64_in _ (by omega)
        rw [hr]
        clear hO hMp hT hK hend hMe hR hr hlt
        go_upto_region 13 with fail
        have Q9 := Lib.hid (show QAt (wr.setCell ⟨b, 0, none⟩ (.slice av r cv)) b K (andNew S w (wr.setCell ⟨b, 0, none⟩ (.slice av r cv))) from by
          have hsz : (wr.setCell ⟨b, 0, none⟩ (.slice av r cv)).heap.size = wr.heap.size := by simp [World.setCell]
          refine ⟨av, cv, bm, by rw [HRL.out]; exact cset_at cb0, by rw [cset_ne (by omega)]; exact cb1.out, fun i => by rw [fset_any]; exact FRr.out i, ?_, ME.out.setCell (Ne.symm hbm), hbm, Or.inl H.out.has, Or.inl SBM.out, fun g' hg' => ?_, fun k hk => ?_⟩
          · rw [HRL.out]
            exact owns_block0 (owns_zero O7.out) (fun g' hg' => Below.heap_setCell _ _ _ _ (fun e => by have := (O7.out.lt g' (by rw [hg']; rfl)).1; have e2 : g' = b := e; omega))
          · have h1 := O7.out.lt g' (by rw [hg']; rfl)
            exact ⟨Or.inr ⟨h1.1, by rw [hsz]; exact h1.2⟩, by omega, by omega⟩
          · rw [hsz]
            rcases hk with hk | hk
            · exact Nat.lt_of_lt_of_le (hSl.out k hk) TT.out.size
            · rw [hsz] at hk; exact hk.2)
        have TF := Lib.hid (show Turn S w (wr.setCell ⟨b, 0, none⟩ (.slice av r cv)) from (TT.out.mono (fun k hk => by subst hk; exact SBM.out)).trans (Turn.setCell H.out.has))
        go_wp2_with fail
        refine (qLen_any b _ Q9.out).mono ?_
        rintro e w' ⟨rfl, rfl⟩
        rw [HRL.out]
        go_wp2_with fail
        go_ret
        refine ⟨?_, andNew S w (wr.setCell ⟨b, 0, none⟩ (.slice av r cv)), by rw [HR.out]; exact Q9.out, fun k hk => Or.imp id (fun h => h.1) hk, TF.out⟩
        show Ending.returned (.int .i64 ((j : Int) - (r : Int))) = _
        rw [HR.out, HRL.out, HN.out]
end Go.Proofs.Ythcfpohgjgbhpaa
/- queue: alone; what every program answers that is one -/
namespace Go.Proofs.Ythcfpohgjgbhpaa
open Go.RowKit
set_option linter.unusedVariables false
set_option maxRecDepth 20000
/-- behind w0 there is a queue of its own that holds L; what was there is as it was -/
def Fine (w0 w' : World) (b : Nat) (L : List AskP) : Prop := ∃ S, QAt w' b L S ∧ (∀ k, S k → w0.heap.size ≤ k) ∧ Below w0.heap.size w0 w'
theorem Fine.bel {w0 w : World} {b : Nat} {L : List AskP} (h : Fine w0 w b L) : Below w0.heap.size w0 w := by obtain ⟨S, _, _, h⟩ := h; exact h
theorem Fine.more {w0 w w' : World} {b : Nat} {L : List AskP} (h : Fine w0 w b L) (hb : Below w.heap.size w w') : Fine w0 w' b L := by
  obtain ⟨S, h1, h2, h3⟩ := h
  exact ⟨S, h1.below hb, h2, h3.trans (hb.mono h3.size)⟩
theorem Fine.then {w0 w w' : World} {b : Nat} {L L' : List AskP} {S S' : Nat → Prop} (h1 : QAt w b L S) (h2 : ∀ k, S k → w0.heap.size ≤ k) (h3 : Below w0.heap.size w0 w) (q : QAt w' b L' S') (hs : ∀ k, S' k → S k ∨ w.heap.size ≤ k) (t : Turn S w w') : Fine w0 w' b L' :=
  ⟨S', q, fun k hk => (hs k hk).elim (h2 k) (fun x => Nat.le_trans h3.size x), h3.trans (t.below h2 h3.size)⟩
theorem new_fine (w : World) : Calls Try.prog 10 #[] w fun e w' => ∃ b, e = .returned (.pointer (some ⟨b, 0, none⟩)) ∧ Fine w w' b [] :=
  (qNew_any w).mono fun e w' ⟨b, S, he, h1, h2, h3⟩ => ⟨b, he, S, h1, h2, h3⟩
theorem push_fine (a : AskP) (z : Bool) (L' : List AskP) {w0 : World} {b : Nat} {L : List AskP} (w : World) (h : Fine w0 w b L) (hg : Qu.Good L) (hz : Qu.pushed L a = z) (hL : Qu.push L a = L') :
    Calls Try.prog 11 #[.pointer (some ⟨b, 0, none⟩), .agg #[.int .i64 a.slot, .int .i64 a.query, .int .i64 a.shard, .int .i64 a.seq, .int .i64 a.epoch, .string a.text, .int .i64 a.k, .int .i64 a.batch, .bool a.first, .int .i64 a.ad, .string a.aw]] w fun e w' => e = .returned (.bool z) ∧ Fine w0 w' b L' := by
  obtain ⟨S, h1, h2, h3⟩ := h
  subst hz hL
  exact (qpush_any a b w h1 hg).mono fun e w' ⟨he, S', q, hs, t⟩ => ⟨he, Fine.then h1 h2 h3 q hs t⟩
theorem len_fine {w0 : World} {b : Nat} {L : List AskP} (n : Nat) (w : World) (h : Fine w0 w b L) (hn : L.length = n) : Calls Try.prog 18 #[.pointer (some ⟨b, 0, none⟩)] w fun e w' => e = .returned (.int .i64 n) ∧ w = w' := by
  obtain ⟨S, h1, h2, h3⟩ := h
  subst hn
  exact qLen_any b w h1
theorem all_fine {w0 : World} {b : Nat} {L : List AskP} (w : World) (h : Fine w0 w b L) (hg : Qu.Good L) : Calls Try.prog 17 #[.pointer (some ⟨b, 0, none⟩)] w (RetA w L) := by
  obtain ⟨S, h1, h2, h3⟩ := h
  exact qAll_any b w h1 hg
theorem stop_fine (s q : Int) (r : Int) (L' : List AskP) {w0 : World} {b : Nat} {L : List AskP} (w : World) (h : Fine w0 w b L) (hg : Qu.Good L) (hL : Qu.stop L s q = L') (hr : (L.length : Int) - (L'.length : Int) = r) :
    Calls Try.prog 15 #[.pointer (some ⟨b, 0, none⟩), .int .i64 s, .int .i64 q] w fun e w' => e = .returned (.int .i64 r) ∧ Fine w0 w' b L' := by
  obtain ⟨S, h1, h2, h3⟩ := h
  subst hL hr
  exact (qStop_any b s q w h1 hg).mono fun e w' ⟨he, S', q', hs, t⟩ => ⟨he, Fine.then h1 h2 h3 q' hs t⟩
theorem pop_fine {w0 : World} {b : Nat} {a : AskP} {l : List AskP} (w : World) (h : Fine w0 w b (a :: l)) (hg : Qu.Good (a :: l)) :
    Calls Try.prog 13 #[.pointer (some ⟨b, 0, none⟩)] w fun e w' => e = .returned (.tuple #[.agg #[.int .i64 a.slot, .int .i64 a.query, .int .i64 a.shard, .int .i64 a.seq, .int .i64 a.epoch, .string a.text, .int .i64 a.k, .int .i64 a.batch, .bool a.first, .int .i64 a.ad, .string a.aw], .bool true]) ∧ Fine w0 w' b l := by
  obtain ⟨S, h1, h2, h3⟩ := h
  exact (qPop_any b w h1 hg).mono fun e w' ⟨he, q, t⟩ => ⟨he, Fine.then h1 h2 h3 q (fun k hk => Or.inl hk) t⟩
theorem popE_fine {w0 : World} {b : Nat} (w : World) (h : Fine w0 w b []) :
    Calls Try.prog 13 #[.pointer (some ⟨b, 0, none⟩)] w fun e w' => e = .returned (.tuple #[.agg #[.int .i64 0, .int .i64 0, .int .i64 0, .int .i64 0, .int .i64 0, .string ⟨#[]⟩, .int .i64 0, .int .i64 0, .bool false, .int .i64 0, .string ⟨#[]⟩], .bool false]) ∧ Fine w0 w' b [] := by
  have h' := h
  obtain ⟨S, h1, h2, h3⟩ := h
  exact (qPop_empty b w h1).mono fun e w' ⟨he, hb⟩ => ⟨he, h'.more hb⟩
/-- an Ask of numbers alone -/
def A4 (s q d t : Int) : AskP := ⟨s, q, d, t, 0, ⟨#[]⟩, 0, 0, false, 0, ⟨#[]⟩⟩
set_option maxHeartbeats 1600000 in
theorem awake_any (w : World) : Calls Try.prog 9 #[] w fun e w' => e = .returned (.bool true) ∧ Below w.heap.size w w' := by
  have g1 : Qu.Good [A4 0 3 0 1] := Qu.push_good Qu.good_nil (A4 0 3 0 1)
  have g2 : Qu.Good [A4 0 4 0 0] := Qu.push_good Qu.good_nil (A4 0 4 0 0)
  have g3 : Qu.Good [A4 0 4 0 0, A4 1 0 0 0] := Qu.push_good g2 (A4 1 0 0 0)
  have G1 := Lib.hid g1; have G2 := Lib.hid g2; have G3 := Lib.hid g3
  clear g1 g2 g3
  go_enter Try.func9, Try.ntmps9
  go_wp2_with fail
  refine (new_fine _).mono ?_
  rintro e w1 ⟨b, rfl, h1⟩
  have F1 := Lib.hid h1
  clear h1
  go_wp2_with fail
  refine (push_fine (A4 0 3 0 1) true [A4 0 3 0 1] _ F1.out Qu.good_nil rfl rfl).mono ?_
  rintro e w2 ⟨rfl, h2⟩
  have F2 := Lib.hid h2
  clear h2 F1
  go_wp2_with fail
  refine (push_fine (A4 0 3 0 0) false [A4 0 3 0 1] _ F2.out G1.out rfl rfl).mono ?_
  rintro e w3 ⟨rfl, h3⟩
  have F3 := Lib.hid h3
  clear h3 F2
  go_wp2_with fail
  refine (push_fine (A4 0 4 0 0) true [A4 0 4 0 0] _ F3.out G1.out rfl rfl).mono ?_
  rintro e w4 ⟨rfl, h4⟩
  have F4 := Lib.hid h4
  clear h4 F3
  go_wp2_with fail
  refine (len_fine 1 _ F4.out rfl).mono ?_
  rintro e w' ⟨rfl, rfl⟩
  go_wp2_with fail
  refine (push_fine (A4 1 0 0 0) true [A4 0 4 0 0, A4 1 0 0 0] _ F4.out G2.out rfl rfl).mono ?_
  rintro e w5 ⟨rfl, h5⟩
  have F5 := Lib.hid h5
  clear h5 F4
  go_wp2_with fail
  refine (stop_fine 0 4 1 [A4 1 0 0 0] _ F5.out G3.out rfl rfl).mono ?_
  rintro e w6 ⟨rfl, h6⟩
  have F6 := Lib.hid h6
  clear h6 F5
  go_wp2_with fail
  refine (len_fine 1 _ F6.out rfl).mono ?_
  rintro e w' ⟨rfl, rfl⟩
  go_wp2_with fail
  go_ret
  exact ⟨rfl, F6.out.bel⟩
end Go.Proofs.Ythcfpohgjgbhpaa
/- An argument that is a slice of integers, opened; its bytes. Of whatever program. -/
namespace Go.Proofs.Ythcfpohgjgbhpaa
open Go.ChangeShapes Go.WideShapes Go.ChangeAt Go.RowKit
open Go.ChangeMaps (open_string shut_string)
set_option linter.unusedVariables false
set_option maxRecDepth 20000

theorem open_ints_arg {H : Type} {enc : TypeId × Value → H} {P : Program} {W : World} {base : Nat} {t e : TypeId} {k : IntKind} {v : Value} {d : DataW H} {p : List MemPlace}
    (ht : P.underlying t = some (.slice e)) (he : P.underlying e = some (.int k)) (hc : P.cellsOf e = 1)
    (o : Value.okWide P W .any base t v) (h : DataW.Trod enc P W 0 (fun _ => true) true t v d p) :
    ∃ a n cap zs, v = .slice a n cap ∧ HoldsI k W a n zs ∧ (a = none → n = 0 ∧ cap = 0) ∧ n ≤ cap ∧ cap ≤ maxLen ∧ ∀ z ∈ zs, (Lit.int k z).wf = true := by
  obtain ⟨a, len, cap, rfl⟩ := okWide_slice ht o
  obtain ⟨fuel, hf⟩ := h
  rcases open_ints ht he hc hf with ⟨hcs, _⟩ | ⟨x, l, c, zs, hcs, _, hl, hm, hz, _, hcell, hwz⟩
  · simp [Value.cells] at hcs
    obtain ⟨rfl, rfl, rfl⟩ := hcs
    exact ⟨none, 0, 0, [], rfl, HoldsI.nil _ _ _, fun _ => ⟨rfl, rfl⟩, Nat.le_refl _, by unfold maxLen; omega, by simp⟩
  · simp [Value.cells] at hcs
    obtain ⟨rfl, rfl, rfl⟩ := hcs
    have hzc : zs.length = cap := by simpa using hz
    refine ⟨some x, len, cap, zs.take len, rfl, ⟨by simp; omega, fun h0 => ?_⟩, (fun h => by cases h), hl, hm, fun z hz => hwz z (List.mem_of_mem_take hz)⟩
    obtain ⟨b, off, rfl, hcc⟩ := ints_at hcell (by omega)
    refine ⟨b, off, rfl, fun i hi => ?_⟩
    rw [hcc i (by omega)]
    congr 2
    simp only [List.getD_eq_getElem?_getD, List.getElem?_take]
    rw [if_pos hi]
theorem u8_of_wf {z : Int} (h : (Lit.int .u8 z).wf = true) : 0 ≤ z ∧ z < 256 := by
  simp [Lit.wf, IntKind.min, IntKind.max, IntKind.signed, IntKind.bits] at h; omega
theorem i64_of_wf {z : Int} (h : (Lit.int .i64 z).wf = true) : -9223372036854775808 ≤ z ∧ z ≤ 9223372036854775807 := by
  simp [Lit.wf, IntKind.min, IntKind.max, IntKind.signed, IntKind.bits] at h; omega
theorem i32_of_wf {z : Int} (h : (Lit.int .i32 z).wf = true) : -2147483648 ≤ z ∧ z ≤ 2147483647 := by
  simp [Lit.wf, IntKind.min, IntKind.max, IntKind.signed, IntKind.bits] at h; omega
end Go.Proofs.Ythcfpohgjgbhpaa
/- queue: the acts of an argument -/
namespace Go.Proofs.Ythcfpohgjgbhpaa
open Go.ChangeShapes Go.WideShapes Go.ChangeAt Go.RowKit
set_option linter.unusedVariables false
set_option maxRecDepth 20000
structure QAct where
  do_ : Int
  slot : Int
  query : Int
  a : AskP
def AskOk (a : AskP) : Prop := a.text.size ≤ 9223372036854775807 ∧ a.aw.size ≤ 9223372036854775807
def QActOk (x : QAct) : Prop := AskOk x.a
def qactCells (x : QAct) : List Value := [.int .i64 x.do_, .int .i64 x.slot, .int .i64 x.query, .int .i64 x.a.slot, .int .i64 x.a.query, .int .i64 x.a.shard, .int .i64 x.a.seq, .int .i64 x.a.epoch, .string x.a.text, .int .i64 x.a.k, .int .i64 x.a.batch, .bool x.a.first, .int .i64 x.a.ad, .string x.a.aw]
theorem cells_qact : Try.prog.cellsOf 36 = 14 := by kernel_rfl
theorem cells_qask : Try.prog.cellsOf 34 = 11 := by kernel_rfl
theorem cells_qitem : Try.prog.cellsOf 32 = 2 := by kernel_rfl
theorem cells_qstr : Try.prog.cellsOf 9 = 1 := by kernel_rfl
theorem cells_qbool : Try.prog.cellsOf 4 = 1 := by kernel_rfl
theorem item_of {H : Type} {enc : TypeId × Value → H} {w : World} {base : Nat} {spare : Nat → Bool} {held : Bool} {fuel : Nat} {cs : List Value} {x : DataW H × List MemPlace}
    (h : DataW.trod enc Try.prog w base spare held fuel 32 cs = some x) : ∃ d t, t.size ≤ 9223372036854775807 ∧ cs = [.int .i64 d, .string t] := by
  obtain ⟨hl, n, hf⟩ := struct_cells Try.underlying32 h
  rw [cells_qitem] at hl
  obtain ⟨c0, c1, rfl⟩ : ∃ c0 c1, cs = [c0, c1] := by
    match cs, hl with
    | [a, b], _ => exact ⟨a, b, rfl⟩
  obtain ⟨y0, z0⟩ := hf 0 _ rfl
  obtain ⟨y1, z1⟩ := hf 1 _ rfl
  obtain ⟨k1, h1, _, b1⟩ := DataW.trod_int Try.underlying3 z0
  obtain ⟨s, hs, _, b0⟩ := DataW.trod_string Try.underlying9 z1
  simp [cellsIn, cells_qstr] at hs h1
  subst hs h1
  exact ⟨k1, s, by unfold maxLen at b0; exact b0, rfl⟩
theorem ask_of {H : Type} {enc : TypeId × Value → H} {w : World} {base : Nat} {spare : Nat → Bool} {held : Bool} {fuel : Nat} {cs : List Value} {x : DataW H × List MemPlace}
    (h : DataW.trod enc Try.prog w base spare held fuel 34 cs = some x) : ∃ a : AskP, AskOk a ∧ cs = cellsAsk a := by
  obtain ⟨hl, n, hf⟩ := struct_cells Try.underlying34 h
  rw [cells_qask] at hl
  obtain ⟨c0, c1, c2, c3, c4, c5, c6, c7, c8, c9, c10, rfl⟩ : ∃ c0 c1 c2 c3 c4 c5 c6 c7 c8 c9 c10, cs = [c0, c1, c2, c3, c4, c5, c6, c7, c8, c9, c10] := by
    match cs, hl with
    | [c0, c1, c2, c3, c4, c5, c6, c7, c8, c9, c10], _ => exact ⟨c0, c1, c2, c3, c4, c5, c6, c7, c8, c9, c10, rfl⟩
  obtain ⟨y0, z0⟩ := hf 0 _ rfl
  obtain ⟨y1, z1⟩ := hf 1 _ rfl
  obtain ⟨y2, z2⟩ := hf 2 _ rfl
  obtain ⟨y3, z3⟩ := hf 3 _ rfl
  obtain ⟨y4, z4⟩ := hf 4 _ rfl
  obtain ⟨y5, z5⟩ := hf 5 _ rfl
  obtain ⟨y6, z6⟩ := hf 6 _ rfl
  obtain ⟨y7, z7⟩ := hf 7 _ rfl
  obtain ⟨y8, z8⟩ := hf 8 _ rfl
  obtain ⟨y9, z9⟩ := hf 9 _ rfl
  obtain ⟨k0, h0, _, _⟩ := DataW.trod_int Try.underlying3 z0
  obtain ⟨k1, h1, _, _⟩ := DataW.trod_int Try.underlying3 z1
  obtain ⟨k2, h2, _, _⟩ := DataW.trod_int Try.underlying3 z2
  obtain ⟨k3, h3, _, _⟩ := DataW.trod_int Try.underlying3 z3
  obtain ⟨k4, h4, _, _⟩ := DataW.trod_int Try.underlying3 z4
  obtain ⟨k5, h5, _, b5⟩ := DataW.trod_string Try.underlying9 z5
  obtain ⟨k6, h6, _, _⟩ := DataW.trod_int Try.underlying3 z6
  obtain ⟨k7, h7, _, _⟩ := DataW.trod_int Try.underlying3 z7
  obtain ⟨k8, h8, _⟩ := DataW.trod_bool Try.underlying4 z8
  obtain ⟨k9, k10, b10, h9⟩ := item_of z9
  simp [cellsIn, cells_qstr, cells_qbool, cells_qitem] at h0 h1 h2 h3 h4 h5 h6 h7 h8 h9
  obtain ⟨e9, e10⟩ := h9
  subst h0 h1 h2 h3 h4 h5 h6 h7 h8 e9 e10
  exact ⟨⟨k0, k1, k2, k3, k4, k5, k6, k7, k8, k9, k10⟩, ⟨by unfold maxLen at b5; exact b5, b10⟩, rfl⟩
theorem qact_of {H : Type} {enc : TypeId × Value → H} {w : World} {base : Nat} {spare : Nat → Bool} {held : Bool} {fuel : Nat} {cs : List Value} {x : DataW H × List MemPlace}
    (h : DataW.trod enc Try.prog w base spare held fuel 36 cs = some x) : ∃ x : QAct, QActOk x ∧ cs = qactCells x := by
  obtain ⟨hl, n, hf⟩ := struct_cells Try.underlying36 h
  rw [cells_qact] at hl
  obtain ⟨d0, d1, d2, cs', rfl, hl'⟩ : ∃ d0 d1 d2 cs', cs = d0 :: d1 :: d2 :: cs' ∧ cs'.length = 11 := by
    match cs, hl with
    | d0 :: d1 :: d2 :: cs', hl => exact ⟨d0, d1, d2, cs', rfl, by simpa using hl⟩
  obtain ⟨y0, z0⟩ := hf 0 _ rfl
  obtain ⟨y1, z1⟩ := hf 1 _ rfl
  obtain ⟨y2, z2⟩ := hf 2 _ rfl
  obtain ⟨y3, z3⟩ := hf 3 _ rfl
  obtain ⟨k0, h0, _, _⟩ := DataW.trod_int Try.underlying3 z0
  obtain ⟨k1, h1, _, _⟩ := DataW.trod_int Try.underlying3 z1
  obtain ⟨k2, h2, _, _⟩ := DataW.trod_int Try.underlying3 z2
  obtain ⟨a, ha, h3⟩ := ask_of z3
  simp [cellsIn, cells_qask] at h0 h1 h2 h3
  rw [List.take_of_length_le (by omega)] at h3
  subst h0 h1 h2 h3
  exact ⟨⟨k0, k1, k2, a⟩, ha, rfl⟩
/-- an act from o on in block b -/
def ActIn (w : World) (b o : Nat) (x : QAct) : Prop := w.cell? ⟨b, o, none⟩ = some (.int .i64 x.do_) ∧ w.cell? ⟨b, o + 1, none⟩ = some (.int .i64 x.slot) ∧ w.cell? ⟨b, o + 2, none⟩ = some (.int .i64 x.query) ∧ w.cell? ⟨b, o + 3, none⟩ = some (.int .i64 x.a.slot) ∧ w.cell? ⟨b, o + 4, none⟩ = some (.int .i64 x.a.query) ∧ w.cell? ⟨b, o + 5, none⟩ = some (.int .i64 x.a.shard) ∧ w.cell? ⟨b, o + 6, none⟩ = some (.int .i64 x.a.seq) ∧ w.cell? ⟨b, o + 7, none⟩ = some (.int .i64 x.a.epoch) ∧ w.cell? ⟨b, o + 8, none⟩ = some (.string x.a.text) ∧ w.cell? ⟨b, o + 9, none⟩ = some (.int .i64 x.a.k) ∧ w.cell? ⟨b, o + 10, none⟩ = some (.int .i64 x.a.batch) ∧ w.cell? ⟨b, o + 11, none⟩ = some (.bool x.a.first) ∧ w.cell? ⟨b, o + 12, none⟩ = some (.int .i64 x.a.ad) ∧ w.cell? ⟨b, o + 13, none⟩ = some (.string x.a.aw)
theorem ActIn.below {w w' : World} {b o : Nat} {x : QAct} (h : ActIn w b o x) (hb : Below w.heap.size w w') : ActIn w' b o x := by
  have hlt := lt_of_cell h.1
  unfold ActIn at *
  rw [hb.cell (p := ⟨b, o, none⟩) hlt, hb.cell (p := ⟨b, o + 1, none⟩) hlt, hb.cell (p := ⟨b, o + 2, none⟩) hlt, hb.cell (p := ⟨b, o + 3, none⟩) hlt, hb.cell (p := ⟨b, o + 4, none⟩) hlt, hb.cell (p := ⟨b, o + 5, none⟩) hlt, hb.cell (p := ⟨b, o + 6, none⟩) hlt, hb.cell (p := ⟨b, o + 7, none⟩) hlt, hb.cell (p := ⟨b, o + 8, none⟩) hlt, hb.cell (p := ⟨b, o + 9, none⟩) hlt, hb.cell (p := ⟨b, o + 10, none⟩) hlt, hb.cell (p := ⟨b, o + 11, none⟩) hlt, hb.cell (p := ⟨b, o + 12, none⟩) hlt, hb.cell (p := ⟨b, o + 13, none⟩) hlt]
  exact h
def HoldsQA (w : World) (a : Option Addr) (n : Nat) (xs : Nat → QAct) : Prop := 0 < n → ∃ b o, a = some ⟨b, o, none⟩ ∧ ∀ i, i < n → ActIn w b (o + i * 14) (xs i)
theorem HoldsQA.below {w w' : World} {a : Option Addr} {n : Nat} {xs : Nat → QAct} (h : HoldsQA w a n xs) (hb : Below w.heap.size w w') : HoldsQA w' a n xs := fun h0 => by
  obtain ⟨b, o, ha, hc⟩ := h h0
  exact ⟨b, o, ha, fun i hi => (hc i hi).below hb⟩
theorem open_qacts_arg {H : Type} {enc : TypeId × Value → H} {W : World} {base : Nat} {v : Value} {d : DataW H} {p : List MemPlace}
    (o : Value.okWide Try.prog W .any base 22 v) (h : DataW.Trod enc Try.prog W 0 (fun _ => true) true 22 v d p) :
    ∃ a n cap xs, v = .slice a n cap ∧ HoldsQA W a n xs ∧ n ≤ maxLen ∧ ∀ i, i < n → QActOk (xs i) := by
  obtain ⟨a, n, cap, R, rfl, _, h1, h2, hg, hc⟩ := open_rows_arg Try.underlying22 cells_qact (by omega) (fun cs => ∃ x : QAct, QActOk x ∧ cs = qactCells x) (fun _ _ _ h => qact_of h) o h
  have hx : ∀ i, ∃ x : QAct, i < n → QActOk x ∧ R i = qactCells x := fun i => by
    by_cases hi : i < n
    · obtain ⟨x, h3⟩ := hg i hi
      exact ⟨x, fun _ => h3⟩
    · exact ⟨⟨0, 0, 0, ask0⟩, fun h => absurd h hi⟩
  refine ⟨a, n, cap, fun i => (hx i).choose, rfl, fun h0 => ?_, Nat.le_trans h1 h2, fun i hi => ((hx i).choose_spec hi).1⟩
  obtain ⟨b, o, ha, hcell⟩ := hc h0
  refine ⟨b, o, ha, fun i hi => ?_⟩
  have e := ((hx i).choose_spec hi).2
  have c : ∀ j, j < 14 → W.cell? ⟨b, o + i * 14 + j, none⟩ = (qactCells (hx i).choose)[j]? := fun j hj => (hcell i hi j hj).trans (congrArg (fun l : List Value => l[j]?) e)
  unfold ActIn
  exact ⟨c 0 (by omega), c 1 (by omega), c 2 (by omega), c 3 (by omega), c 4 (by omega), c 5 (by omega), c 6 (by omega), c 7 (by omega), c 8 (by omega), c 9 (by omega), c 10 (by omega), c 11 (by omega), c 12 (by omega), c 13 (by omega)⟩
theorem open_qact {H : Type} {enc : TypeId × Value → H} {w : World} {base : Nat} {spare : Nat → Bool} {held : Bool} {r : Reach} {b0 : Nat} {v : Value} {d : DataW H} {p : List MemPlace}
    (hv : Value.okWide Try.prog w r b0 36 v) (h : DataW.Trod enc Try.prog w base spare held 36 v d p) : ∃ x : QAct, QActOk x ∧ v = .agg #[.int .i64 x.do_, .int .i64 x.slot, .int .i64 x.query, .int .i64 x.a.slot, .int .i64 x.a.query, .int .i64 x.a.shard, .int .i64 x.a.seq, .int .i64 x.a.epoch, .string x.a.text, .int .i64 x.a.k, .int .i64 x.a.batch, .bool x.a.first, .int .i64 x.a.ad, .string x.a.aw] := by
  obtain ⟨cs, rfl, hsz⟩ := okWide_struct Try.underlying36 hv
  obtain ⟨fuel, hf⟩ := h
  obtain ⟨x, hx, h1⟩ := qact_of hf
  refine ⟨x, hx, ?_⟩
  congr 1
  apply Array.toList_inj.1
  simpa [Value.cells, qactCells] using h1
theorem actIn_new (w : World) (x : QAct) (e : TypeId) (fr : Nat × Nat) : ActIn (w.alloc (.cells #[.int .i64 x.do_, .int .i64 x.slot, .int .i64 x.query, .int .i64 x.a.slot, .int .i64 x.a.query, .int .i64 x.a.shard, .int .i64 x.a.seq, .int .i64 x.a.epoch, .string x.a.text, .int .i64 x.a.k, .int .i64 x.a.batch, .bool x.a.first, .int .i64 x.a.ad, .string x.a.aw] e fr)) w.heap.size 0 x := by
  unfold ActIn
  refine ⟨?_, ?_, ?_, ?_, ?_, ?_, ?_, ?_, ?_, ?_, ?_, ?_, ?_, ?_⟩ <;> (rw [World.cell?_alloc_mark]; rfl)
theorem ss_q (x : ByteArray) : (x.toList == x.toList) = true := by simp
set_option maxHeartbeats 1600000 in
theorem queueNone_any (x : QAct) (w : World) : Calls Try.prog 5 #[.agg #[.int .i64 x.do_, .int .i64 x.slot, .int .i64 x.query, .int .i64 x.a.slot, .int .i64 x.a.query, .int .i64 x.a.shard, .int .i64 x.a.seq, .int .i64 x.a.epoch, .string x.a.text, .int .i64 x.a.k, .int .i64 x.a.batch, .bool x.a.first, .int .i64 x.a.ad, .string x.a.aw]] w fun e w' => e = .returned (.bool true) ∧ Below w.heap.size w w' := by
  have s1 := ss_q ({ data := #[] } : ByteArray)
  go_enter Try.func5, Try.ntmps5
  go_wp2_with fail
  have hA0 := actIn_new w x 36 (0, 0)
  refine (qPop_none _).mono ?_
  rintro e w1 ⟨rfl, hb1⟩
  have hA := hA0.below hb1
  have A1 := Lib.hid hA
  have B1 := Lib.hid ((below_one w (.cells #[.int .i64 x.do_, .int .i64 x.slot, .int .i64 x.query, .int .i64 x.a.slot, .int .i64 x.a.query, .int .i64 x.a.shard, .int .i64 x.a.seq, .int .i64 x.a.epoch, .string x.a.text, .int .i64 x.a.k, .int .i64 x.a.batch, .bool x.a.first, .int .i64 x.a.ad, .string x.a.aw] 36)).trans (hb1.mono (by simp)))
  unfold ActIn at hA
  simp only [Nat.zero_add] at hA
  obtain ⟨a0, a1, a2, a3, a4, a5, a6, a7, a8, a9, a10, a11, a12, a13⟩ := hA
  have lw := lt_of_cell a0
  clear hb1 hA0
  go_wp2_with fail
  refine (qpush_none x.a _).mono ?_
  rintro e w2 ⟨rfl, hb2⟩
  have hb2' := (below_one w1 _).trans (hb2.mono (by simp))
  have hA := A1.out.below hb2'
  have B2 := Lib.hid (B1.out.trans (hb2'.mono B1.out.size))
  unfold ActIn at hA
  simp only [Nat.zero_add] at hA
  clear a0 a1 a2 a3 a4 a5 a6 a7 a8 a9 a10 a11 a12 a13
  obtain ⟨-, a1, a2, -⟩ := hA
  clear hb2 hb2'
  go_wp2_with fail
  refine (qStop_none _ _ _).mono ?_
  rintro e w' ⟨rfl, rfl⟩
  go_wp2_with fail
  refine (qLen_none _).mono ?_
  rintro e w' ⟨rfl, rfl⟩
  go_wp2_with fail
  refine (qAll_none _).mono ?_
  rintro e w' ⟨rfl, rfl⟩
  go_wp2_with fail
  refine (awake_any _).mono ?_
  rintro e w3 ⟨rfl, hb3⟩
  have B3 := Lib.hid (B2.out.trans (hb3.mono B2.out.size))
  clear hb3
  go_wp2_with fail
  go_ret
  exact ⟨rfl, B3.out⟩
theorem queueNone_walk {H : Type} {enc : TypeId × Value → H} (W : World) (base : Nat) (v0 : Value) (d0 : DataW H) (p0 : List MemPlace)
    (h0 : DataW.Trod enc Try.prog W 0 (fun _ => true) true 36 v0 d0 p0) (o0 : Value.okWide Try.prog W .any base 36 v0) :
    Calls Try.prog 5 #[v0] W fun e w' => e = .returned (.bool true) ∧ RowKit.Below W.heap.size W w' := by
  obtain ⟨x, hx, rfl⟩ := open_qact o0 h0
  exact queueNone_any x W
end Go.Proofs.Ythcfpohgjgbhpaa
/- The runes that a range over a string yields: plain lemmas. -/
namespace Go.Proofs.Ythcfpohgjgbhpaa
/-- the runes from a place on, at most so many -/
def runesN (s : ByteArray) : Nat → Nat → List Nat
  | 0, _ => []
  | f + 1, pos => if pos < s.size then (Utf8.decode s pos).1 :: runesN s f (pos + (Utf8.decode s pos).2) else []
/-- the runes of a text, U+FFFD where there is none -/
def runesS (s : ByteArray) : List Nat := runesN s s.size 0
theorem runesN_end (s : ByteArray) (f pos : Nat) (h : ¬ pos < s.size) : runesN s f pos = [] := by
  cases f with
  | zero => rfl
  | succ f => rw [runesN, if_neg h]
theorem decode_width (s : ByteArray) (pos : Nat) (h : pos < s.size) : 1 ≤ (Utf8.decode s pos).2 := by
  by_cases ha : (s[pos]'h).toNat < 128
  · rw [decode_ascii s pos h ha]; exact Nat.le_refl _
  · exact (decode_high s pos h (by omega)).2
theorem runesN_step (s : ByteArray) (f pos : Nat) (h : pos < s.size) (hf : s.size ≤ pos + f) : ∃ g, f = g + 1 ∧ runesN s f pos = (Utf8.decode s pos).1 :: runesN s g (pos + (Utf8.decode s pos).2) ∧ s.size ≤ pos + (Utf8.decode s pos).2 + g := by
  cases f with
  | zero => omega
  | succ g => exact ⟨g, rfl, by rw [runesN, if_pos h], by have := decode_width s pos h; omega⟩
theorem runesN_le (s : ByteArray) (f : Nat) : ∀ pos, (runesN s f pos).length ≤ f := by
  induction f with
  | zero => intro pos; exact Nat.le_refl _
  | succ f ih =>
    intro pos
    rw [runesN]
    split
    · rw [List.length_cons]; have := ih (pos + (Utf8.decode s pos).2); omega
    · exact Nat.zero_le _
theorem runesS_le (s : ByteArray) : (runesS s).length ≤ s.size := runesN_le s s.size 0
theorem runesN_lt (s : ByteArray) (f : Nat) : ∀ pos, ∀ r ∈ runesN s f pos, r ≤ 2147483647 := by
  induction f with
  | zero => intro pos r h; simp [runesN] at h
  | succ f ih =>
    intro pos r h
    rw [runesN] at h
    split at h
    · rcases List.mem_cons.1 h with rfl | h
      · exact decode_le s pos
      · exact ih _ r h
    · simp at h
/-- -1 if one of them is none -/
def lenS (s : ByteArray) : Int := if 65533 ∈ runesS s then -1 else ((runesS s).length : Int)
theorem lenS_bad {s : ByteArray} {P Q : List Nat} (h : runesS s = P ++ 65533 :: Q) : lenS s = -1 := by
  unfold lenS; rw [if_pos (by rw [h]; simp)]
theorem lenS_good {s : ByteArray} (h : ∀ r ∈ runesS s, r ≠ 65533) : lenS s = ((runesS s).length : Int) := by
  unfold lenS; rw [if_neg (fun h' => h _ h' rfl)]
theorem lenS_bd (s : ByteArray) : -1 ≤ lenS s ∧ lenS s ≤ s.size := by
  unfold lenS
  have := runesS_le s
  split <;> omega
theorem lenS_pos {s : ByteArray} (h : 0 ≤ lenS s) : (∀ r ∈ runesS s, r ≠ 65533) ∧ lenS s = ((runesS s).length : Int) := by
  by_cases hm : 65533 ∈ runesS s
  · unfold lenS at h; rw [if_pos hm] at h; omega
  · have hg : ∀ r ∈ runesS s, r ≠ 65533 := fun r hr e => hm (e ▸ hr)
    exact ⟨hg, lenS_good hg⟩
end Go.Proofs.Ythcfpohgjgbhpaa
/- contract of text.Len -/
namespace Go.Proofs.Ythcfpohgjgbhpaa
open Go.RowKit
set_option linter.unusedVariables false
set_option maxRecDepth 20000
end Go.Proofs.Ythcfpohgjgbhpaa
/- runes as values -/
namespace Go.Proofs.Ythcfpohgjgbhpaa
open Go.RowKit
set_option linter.unusedVariables false
set_option maxRecDepth 20000
theorem i32_info : (Try.prog.info? 21).map (fun i => (i.zero, i.size, i.bytes)) = some (some (.int .i32 0), 1, 4) := by kernel_rfl
/-- runes as numbers, as values -/
def intsN (rs : List Nat) : List Int := rs.map fun r : Nat => (r : Int)
def runesV (rs : List Int) : List Value := rs.map (Value.int .i32)
/-- A slice of runes that the call made. -/
def RetR (ER : TypeId) (w : World) (rs : List Int) (a : Option Addr) (c : Nat) (w' : World) : Prop :=
  w'.ownsRow w.heap.size ER 1 (.slice a rs.length c) rs.length (runesV rs) ∧ Below w.heap.size w w' ∧ (a = none → rs.length = 0 ∧ c = 0)
theorem RetR.holds {ER : TypeId} {w w' : World} {rs : List Int} {a : Option Addr} {c : Nat} (h : RetR ER w rs a c w') : HoldsI .i32 w' a rs.length rs := by
  have hv := owns_holds h.1
  refine ⟨rfl, fun h0 => ?_⟩
  obtain ⟨b, o, ha, hc⟩ := hv.2 h0
  exact ⟨b, o, ha, fun i hi => by rw [hc i hi, runesV, getD_map_int .i32 rs i hi]⟩
theorem holdsR_values {w : World} {a : Option Addr} {n : Nat} {rs : List Int} (h : HoldsI .i32 w a n rs) : HoldsV w a n (runesV rs) := h.values
theorem runesV_snoc (P : List Nat) (r : Nat) : runesV (intsN (P ++ [r])) = runesV (intsN P) ++ [Value.int .i32 (r : Int)] := by simp [runesV, intsN]
theorem one_cells (w : World) (v : Value) (e : TypeId) (fr : Nat × Nat) : ∀ j u, [v][j]? = some u → (w.alloc (.cells #[v] e fr)).cell? ((⟨w.heap.size, 0, none⟩ : Addr).add j) = some u := one_new w v e fr _ rfl
theorem owns_iterAt {w : World} {base : Nat} {e : TypeId} {size : Nat} {v : Value} {n : Nat} {xs : List Value} (h : w.ownsRow base e size v n xs) {k : Nat} {s : ByteArray} {pos : Nat} (hk : w.heap[k]? = some (.stringIter s pos)) (pos' : Nat) :
    (w.iterAt k s pos').ownsRow base e size v n xs := by
  refine ⟨h.1, ?_⟩
  rcases h.2 with h0 | ⟨g, cap, cur, hv, hg, hh, r⟩
  · exact Or.inl h0
  · exact Or.inr ⟨g, cap, cur, hv, hg, by rw [Lib.iterAt_other w k g s pos' (fun e1 => by rw [e1, hk] at hh; cases hh)]; exact hh, r⟩
end Go.Proofs.Ythcfpohgjgbhpaa
/- two lists of api.Ask: held against each other -/
namespace Go.Proofs.Ythcfpohgjgbhpaa
open Go.RowKit
set_option linter.unusedVariables false
set_option maxRecDepth 20000
theorem ssAsks (x : ByteArray) : (x.toList == x.toList) = true := by simp
set_option maxHeartbeats 1600000 in
theorem sameAsks_quiet (a1 a2 : Option Addr) (n c1 c2 : Nat) (z : List AskP) (w : World) (h1 : HoldsAsk w a1 n z) (h2 : HoldsAsk w a2 n z) (hl : n ≤ 4611686018427387904) :
    Calls Try.prog 19 #[.slice a1 n c1, .slice a2 n c2] w fun e w' => e = .returned (.bool true) ∧ ∃ m, w' = w.drewN m := by
  have H1 := Lib.hid h1; have H2 := Lib.hid h2
  have hb : ((n : Int) != (n : Int)) = false := by simp
  clear h1 h2
  go_enter Try.func19, Try.ntmps19
  go_wp2
  go_loopw [5] (fun i wr => ∃ k m : Nat, k ≤ n ∧ i = .int .i64 k ∧ wr = w.drewN m) (fun i _ => n - (intOf i).toNat)
  case atStart => exact ⟨0, 0, by omega, rfl, rfl⟩
  case round =>
    obtain ⟨k, m, hk, rfl, rfl⟩ := hrel
    by_cases hlt : k < n
    · obtain ⟨b1, o1, rfl, k1⟩ := H1.out.at (by omega)
      obtain ⟨b2, o2, rfl, k2⟩ := H2.out.at (by omega)
      obtain ⟨e0, e1, e2, e3, e4, e5, e6, e7, e8, e9, e10⟩ := k1 k hlt
      obtain ⟨g0, g1, g2, g3, g4, g5, g6, g7, g8, g9, g10⟩ := k2 k hlt
      obtain ⟨x, hx⟩ : ∃ x, z.getD k ask0 = x := ⟨_, rfl⟩
      rw [hx] at e0 e1 e2 e3 e4 e5 e6 e7 e8 e9 e10 g0 g1 g2 g3 g4 g5 g6 g7 g8 g9 g10
      obtain ⟨x1, x2, x3, x4, x5, x6, x7, x8, x9, x10, x11⟩ := x
      simp only at e0 e1 e2 e3 e4 e5 e6 e7 e8 e9 e10 g0 g1 g2 g3 g4 g5 g6 g7 g8 g9 g10
      have f0 : (x1 == x1) = true := by simp
      have f1 : (x2 == x2) = true := by simp
      have f2 : (x3 == x3) = true := by simp
      have f3 : (x4 == x4) = true := by simp
      have f4 : (x5 == x5) = true := by simp
      have f5 := ssAsks x6
      have f6 : (x7 == x7) = true := by simp
      have f7 : (x8 == x8) = true := by simp
      have f8 : (x9 == x9) = true := by simp
      have f9 : (x10 == x10) = true := by simp
      have f10 := ssAsks x11
      clear hx k1 k2
      go_wp2
      go_quiet (fail)
      go_wp2
      go_roundw
      case rel => exact ⟨k + 1, _, by omega, by go_num, rfl⟩
      case measure => simp [intOf]; omega
    · go_wp2
      go_ret
      exact ⟨rfl, _, rfl⟩
theorem sameAsks_yes (a1 a2 : Option Addr) (n c1 c2 : Nat) (z : List AskP) (w : World) (h1 : HoldsAsk w a1 n z) (h2 : HoldsAsk w a2 n z) (hl : n ≤ 4611686018427387904) :
    Calls Try.prog 19 #[.slice a1 n c1, .slice a2 n c2] w fun e w' => e = .returned (.bool true) ∧ Below w.heap.size w w' :=
  (sameAsks_quiet a1 a2 n c1 c2 z w h1 h2 hl).mono fun _ _ ⟨h, m, hm⟩ => ⟨h, by rw [hm]; exact below_drewN _ _⟩
end Go.Proofs.Ythcfpohgjgbhpaa
/- Slices of bytes as lists of natural numbers. -/
namespace Go.Proofs.Ythcfpohgjgbhpaa
open Go.ChangeShapes Go.WideShapes Go.ChangeAt Go.RowKit
set_option linter.unusedVariables false
set_option maxRecDepth 20000
/-- The slice at a of n bytes holds the bytes bs. -/
def HoldsB (w : World) (a : Option Addr) (n : Nat) (bs : List Nat) : Prop := HoldsI .u8 w a n (bs.map fun b : Nat => (b : Int)) ∧ ∀ b ∈ bs, b < 256
theorem HoldsB.len {w : World} {a : Option Addr} {n : Nat} {bs : List Nat} (h : HoldsB w a n bs) : bs.length = n := by simpa using h.1.1
theorem getD_map_cast (bs : List Nat) (i : Nat) : (bs.map fun b : Nat => (b : Int)).getD i 0 = ((bs.getD i 0 : Nat) : Int) := by
  simp only [List.getD_eq_getElem?_getD, List.getElem?_map]
  cases bs[i]? <;> rfl
theorem HoldsB.at {w : World} {a : Option Addr} {n : Nat} {bs : List Nat} (h : HoldsB w a n bs) (h0 : 0 < n) : ∃ b o, a = some ⟨b, o, none⟩ ∧ ∀ i, i < n → w.cell? ⟨b, o + i, none⟩ = some (.int .u8 ((bs.getD i 0 : Nat) : Int)) := by
  obtain ⟨b, o, ha, hc⟩ := h.1.2 h0
  exact ⟨b, o, ha, fun i hi => by rw [hc i hi, getD_map_cast]⟩
theorem HoldsB.below {w w' : World} {a : Option Addr} {n : Nat} {bs : List Nat} (h : HoldsB w a n bs) (hb : Below w.heap.size w w') : HoldsB w' a n bs := ⟨h.1.below hb, h.2⟩
theorem HoldsB.part {w : World} {b o n : Nat} {bs : List Nat} (h : HoldsB w (some ⟨b, o, none⟩) n bs) (i j : Nat) (hij : i ≤ j) (hj : j ≤ n) (m : Nat) (hm : m = j - i) : HoldsB w (some ⟨b, o + i, none⟩) m ((bs.take j).drop i) := by
  refine ⟨?_, fun x hx => h.2 x (List.mem_of_mem_take (List.mem_of_mem_drop hx))⟩
  rw [List.map_drop, List.map_take]
  exact h.1.part i j hij hj m hm
theorem HoldsB.front {w : World} {b o n : Nat} {bs : List Nat} (h : HoldsB w (some ⟨b, o, none⟩) n bs) (j : Nat) (hj : j ≤ n) : HoldsB w (some ⟨b, o, none⟩) j (bs.take j) := by
  have := h.part 0 j (by omega) hj j (by omega)
  simpa using this
theorem getD_lt {bs : List Nat} (h : ∀ b ∈ bs, b < 256) (i : Nat) : bs.getD i 0 < 256 := by
  rw [List.getD_eq_getElem?_getD]
  cases e : bs[i]? with
  | none => simp
  | some x => exact h x (List.mem_of_getElem? e)

/-- the bytes as values -/
def bytesV (bs : List Nat) : List Value := (bs.map fun b : Nat => (b : Int)).map (Value.int .u8)
theorem bytesV_length (bs : List Nat) : (bytesV bs).length = bs.length := by simp [bytesV]
theorem HoldsB.values {w : World} {a : Option Addr} {n : Nat} {bs : List Nat} (h : HoldsB w a n bs) : HoldsV w a n (bytesV bs) := h.1.values
theorem bytesV_one (bs : List Nat) : ∀ u ∈ bytesV bs, u.oneCell' = true := ints_oneCell _ _
theorem roomy_bytes {w : World} {B : Nat} {e : TypeId} {mark : Value} {n k : Nat} {bs : List Nat} (hl : bs.length = n) (hb : ∀ b ∈ bs, b < 256) (h : Roomy w B e mark n (bytesV bs) k) : HoldsB w (some ⟨B, 0, none⟩) n bs :=
  ⟨⟨by simpa using hl, fun _ => ⟨B, 0, rfl, fun i hi => by rw [Nat.zero_add, h.cell i hi, bytesV, getD_map_int .u8 _ i (by simp [hl]; exact hi)]⟩⟩, hb⟩
theorem bytesV_append (a b : List Nat) : bytesV a ++ bytesV b = bytesV (a ++ b) := by simp [bytesV]
theorem holdsB_of_values {w : World} {a : Option Addr} {n : Nat} {bs : List Nat} (h : HoldsV w a n (bytesV bs)) (hb : ∀ b ∈ bs, b < 256) : HoldsB w a n bs := by
  have hl : bs.length = n := by have := h.1; simpa [bytesV] using this
  refine ⟨⟨by simpa using hl, fun h0 => ?_⟩, hb⟩
  obtain ⟨b, o, ha, hc⟩ := h.2 h0
  exact ⟨b, o, ha, fun i hi => by rw [hc i hi, bytesV, getD_map_int .u8 _ i (by simp [hl]; exact hi)]⟩
theorem holdsB_lit (w : World) (bs : List Nat) (e : TypeId) (fr : Nat × Nat) (h : ∀ b ∈ bs, b < 256) : HoldsB (w.alloc (.cells (bs.map fun b : Nat => Value.int .u8 (b : Int)).toArray e fr)) (some ⟨w.heap.size, 0, none⟩) bs.length bs := by
  refine ⟨⟨by simp, fun _ => ⟨_, _, rfl, fun i hi => ?_⟩⟩, h⟩
  rw [World.cell?_alloc_mark, getD_map_cast, Nat.zero_add]
  simp [List.getD_eq_getElem?_getD, hi]
theorem holdsB_nil (w : World) (a : Option Addr) : HoldsB w a 0 [] := ⟨⟨rfl, fun h => absurd h (by decide)⟩, by simp⟩
/-- A slice of bytes that the call made: what it returns, and what became of the world. EB: the number of the type of its elements. -/
def RetB (EB : TypeId) (w : World) (bs : List Nat) (e : Ending) (w' : World) : Prop :=
  ∃ a c, e = .returned (.slice a bs.length c) ∧ w'.ownsRow w.heap.size EB 1 (.slice a bs.length c) bs.length (bytesV bs) ∧ Below w.heap.size w w' ∧ (a = none → bs.length = 0 ∧ c = 0)
end Go.Proofs.Ythcfpohgjgbhpaa
