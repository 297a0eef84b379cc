/- texts joined -/
import Derived.WalkKit
import Derived.ProofKit
import Derived.OpenShut
import Derived.Lib.SmallJoins
import Derived.Lib.Hide
import Derived.Deep.Slices
import Derived.OwnWalk
import Derived.Laws.AppendOwnNone
import Derived.Test.YthboiklcjpnhbaaChecked
import Derived.WalkLawsBesides
import Derived.WalkSpells
import Derived.Outline
import Derived.Deep.QuietTactic
import Derived.BigQuiet
import Derived.Deep.DeepCutAuto
import Derived.Sort.Walk0
import Derived.Laws.RangeAny
import Derived.Lib.DecodeN
import Derived.SliceStrings
import Derived.Deep.RegionWith
import Derived.Deep.RegionHeld3
import Derived.Sort.Grow
import Derived.Lib.OthersKept
/- What a slice of integers in memory holds, told so that a walk can use it; plain lemmas. -/
namespace Go.Proofs.Ythboiklcjpnhbaa
open Go.ChangeShapes Go.WideShapes Go.ChangeAt Go.RowKit
set_option linter.unusedVariables false
set_option maxRecDepth 20000

theorem ret_int {k : IntKind} {a b : Int} (h : a = b) : Ending.returned (.int k a) = .returned (.int k b) := by rw [h]
theorem ret_bool {a b : Bool} (h : a = b) : Ending.returned (.bool a) = .returned (.bool b) := by rw [h]
theorem below_one (w : World) (o : Obj) : Below w.heap.size w (w.alloc o) := (Below.refl _ _).alloc (Nat.le_refl _) o
theorem bcell {W w1 : World} (hb : Below W.heap.size W w1) : (∀ b o, b < W.heap.size → w1.cell? ⟨b, o, none⟩ = W.cell? ⟨b, o, none⟩) ∧ (∀ b o, b < W.heap.size → w1.frozen? ⟨b, o, none⟩ = W.frozen? ⟨b, o, none⟩) :=
  ⟨fun b o h => hb.cell (p := ⟨b, o, none⟩) h, fun b o h => hb.frozen (p := ⟨b, o, none⟩) h⟩
theorem below_drewN (w : World) (n : Nat) : Below w.heap.size w (w.drewN n) := Joins.below_draws _ _ _

/-- The slice at a of n elements of the kind k holds the numbers zs. (Of a slice of no elements nothing is said of its address.) -/
def HoldsI (k : IntKind) (w : World) (a : Option Addr) (n : Nat) (zs : List Int) : Prop :=
  zs.length = n ∧ (0 < n → ∃ b o, a = some ⟨b, o, none⟩ ∧ ∀ i, i < n → w.cell? ⟨b, o + i, none⟩ = some (.int k (zs.getD i 0)))
theorem HoldsI.len {k : IntKind} {w : World} {a : Option Addr} {n : Nat} {zs : List Int} (h : HoldsI k w a n zs) : zs.length = n := h.1
theorem HoldsI.at {k : IntKind} {w : World} {a : Option Addr} {n : Nat} {zs : List Int} (h : HoldsI k w a n zs) (h0 : 0 < n) : ∃ b o, a = some ⟨b, o, none⟩ ∧ ∀ i, i < n → w.cell? ⟨b, o + i, none⟩ = some (.int k (zs.getD i 0)) := h.2 h0
theorem lt_of_cell {w : World} {b o : Nat} {v : Value} (h : w.cell? ⟨b, o, none⟩ = some v) : b < w.heap.size := by
  rcases Nat.lt_or_ge b w.heap.size with h' | h'
  · exact h'
  · simp [World.cell?, Array.getElem?_eq_none h'] at h
theorem HoldsI.nil (k : IntKind) (w : World) (a : Option Addr) : HoldsI k w a 0 [] := ⟨rfl, fun h => absurd h (by omega)⟩
theorem HoldsI.below {k : IntKind} {w w' : World} {a : Option Addr} {n : Nat} {zs : List Int} (h : HoldsI k w a n zs) (hb : Below w.heap.size w w') : HoldsI k w' a n zs := by
  refine ⟨h.1, fun h0 => ?_⟩
  obtain ⟨b, o, ha, hc⟩ := h.2 h0
  refine ⟨b, o, ha, fun i hi => ?_⟩
  rw [hb.cell (p := ⟨b, o + i, none⟩) (lt_of_cell (hc i hi))]
  exact hc i hi
theorem HoldsI.drewN {k : IntKind} {w : World} {a : Option Addr} {n : Nat} {zs : List Int} (h : HoldsI k w a n zs) (m : Nat) : HoldsI k (w.drewN m) a n zs := h.below (below_drewN w m)
theorem HoldsI.alloc {k : IntKind} {w : World} {a : Option Addr} {n : Nat} {zs : List Int} (h : HoldsI k w a n zs) (o : Obj) : HoldsI k (w.alloc o) a n zs := h.below (below_one w o)
/-- a part of it -/
theorem HoldsI.sub {k : IntKind} {w : World} {b o n : Nat} {zs : List Int} (h : HoldsI k w (some ⟨b, o, none⟩) n zs) (i j : Nat) (hij : i ≤ j) (hj : j ≤ n) : HoldsI k w (some ⟨b, o + i, none⟩) (j - i) ((zs.take j).drop i) := by
  refine ⟨by simp [h.1]; omega, fun h0 => ⟨b, o + i, rfl, fun t ht => ?_⟩⟩
  obtain ⟨b', o', ha, hc⟩ := h.2 (by omega)
  simp only [Option.some.injEq, Addr.mk.injEq, and_true] at ha
  obtain ⟨rfl, rfl⟩ := ha
  rw [Nat.add_assoc, hc (i + t) (by omega)]
  have h1 : ((zs.take j).drop i).getD t 0 = zs.getD (i + t) 0 := by
    simp only [List.getD_eq_getElem?_getD, List.getElem?_drop, List.getElem?_take]
    rw [if_pos (by omega)]
  rw [h1]

theorem HoldsI.part {k : IntKind} {w : World} {b o n : Nat} {zs : List Int} (h : HoldsI k w (some ⟨b, o, none⟩) n zs) (i j : Nat) (hij : i ≤ j) (hj : j ≤ n) (m : Nat) (hm : m = j - i) : HoldsI k w (some ⟨b, o + i, none⟩) m ((zs.take j).drop i) := by
  subst hm; exact h.sub i j hij hj
theorem take_succ_getD {α : Type} (l : List α) (d : α) (k : Nat) (h : k < l.length) : l.take (k + 1) = l.take k ++ [l.getD k d] := by
  rw [List.take_succ_eq_append_getElem h]; simp [List.getD_eq_getElem?_getD, h]
theorem take_ne_of_getD {α : Type} {l m : List α} (d : α) (k : Nat) (h : l.getD k d ≠ m.getD k d) : l ≠ m := fun e => h (by rw [e])
theorem take_eq_all {α : Type} {l m : List α} {n : Nat} (h : l.take n = m.take n) (h1 : l.length = n) (h2 : m.length = n) : l = m := by
  rw [← List.take_of_length_le (Nat.le_of_eq h1), ← List.take_of_length_le (Nat.le_of_eq h2)]; exact h
end Go.Proofs.Ythboiklcjpnhbaa
/- An argument that is a slice of structs, opened. Of whatever program. -/
namespace Go.Proofs.Ythboiklcjpnhbaa
open Go.ChangeShapes Go.WideShapes Go.ChangeAt Go.RowKit Go.Deep
set_option linter.unusedVariables false
set_option maxRecDepth 20000
theorem list2 {α : Type} {l : List α} (h : l.length = 2) : ∃ a b, l = [a, b] := by
  match l, h with
  | [a, b], _ => exact ⟨a, b, rfl⟩
theorem list3 {α : Type} {l : List α} (h : l.length = 3) : ∃ a b c, l = [a, b, c] := by
  match l, h with
  | [a, b, c], _ => exact ⟨a, b, c, rfl⟩
theorem list4 {α : Type} {l : List α} (h : l.length = 4) : ∃ a b c d, l = [a, b, c, d] := by
  match l, h with
  | [a, b, c, d], _ => exact ⟨a, b, c, d, rfl⟩
theorem list5 {α : Type} {l : List α} (h : l.length = 5) : ∃ a b c d e, l = [a, b, c, d, e] := by
  match l, h with
  | [a, b, c, d, e], _ => exact ⟨a, b, c, d, e, rfl⟩
theorem list6 {α : Type} {l : List α} (h : l.length = 6) : ∃ a b c d e f, l = [a, b, c, d, e, f] := by
  match l, h with
  | [a, b, c, d, e, f], _ => exact ⟨a, b, c, d, e, f, rfl⟩
theorem list7 {α : Type} {l : List α} (h : l.length = 7) : ∃ a b c d e f g, l = [a, b, c, d, e, f, g] := by
  match l, h with
  | [a, b, c, d, e, f, g], _ => exact ⟨a, b, c, d, e, f, g, rfl⟩
theorem list8 {α : Type} {l : List α} (h : l.length = 8) : ∃ a b c d e f g h, l = [a, b, c, d, e, f, g, h] := by
  match l, h with
  | [a, b, c, d, e, f, g, h], _ => exact ⟨a, b, c, d, e, f, g, h, rfl⟩
theorem open_rows_arg {H : Type} {enc : TypeId × Value → H} {P : Program} {W : World} {base : Nat} {t e : TypeId} {k : Nat} {v : Value} {d : DataW H} {p : List MemPlace}
    (ht : P.underlying t = some (.slice e)) (hc : P.cellsOf e = k) (hk : 0 < k) (good : List Value → Prop)
    (hgood : ∀ m cs y, DataW.trod enc P W 0 (fun _ => true) true m e cs = some y → good cs)
    (o : Value.okWide P W .any base t v) (h : DataW.Trod enc P W 0 (fun _ => true) true t v d p) :
    ∃ (a : Option Addr) (n cap : Nat) (R : Nat → List Value), v = .slice a n cap ∧ (a = none → n = 0 ∧ cap = 0) ∧ n ≤ cap ∧ cap ≤ maxLen ∧ (∀ i, i < n → good (R i)) ∧
      (0 < n → ∃ b o, a = some ⟨b, o, none⟩ ∧ ∀ i, i < n → ∀ j, j < k → W.cell? ⟨b, o + i * k + j, none⟩ = (R i)[j]?) := by
  obtain ⟨a, len, cap, rfl⟩ := okWide_slice ht o
  obtain ⟨fuel, hf⟩ := h
  rcases open_slice ht hf with ⟨hcs, _⟩ | ⟨x, l, c, m, n, D, Pl, hcs, _, hl, hm, hmm, _, hx⟩
  · simp [Value.cells] at hcs
    obtain ⟨rfl, rfl, rfl⟩ := hcs
    exact ⟨none, 0, 0, fun _ => [], rfl, fun _ => ⟨rfl, rfl⟩, Nat.le_refl _, by unfold maxLen; omega, by simp, by simp⟩
  · simp [Value.cells] at hcs
    obtain ⟨rfl, rfl, rfl⟩ := hcs
    simp at hmm
    subst hmm
    rw [hc] at hx
    have hR : ∀ i, ∃ cs' : List Value, i < m → W.cells? 0 (x.add (i * k)) k = some cs' ∧ good cs' := fun i => by
      by_cases hi : i < m
      · obtain ⟨cs', h1, h2⟩ := hx i hi
        exact ⟨cs', fun _ => ⟨h1, hgood _ _ _ h2⟩⟩
      · exact ⟨[], fun h => absurd h hi⟩
    refine ⟨some x, len, m, fun i => (hR i).choose, rfl, (fun h => by cases h), hl, hm, fun i hi => ((hR i).choose_spec (by omega)).2, fun h0 => ?_⟩
    have h1 := fun i (hi : i < m) => (World.cells?_some ((hR i).choose_spec hi).1)
    obtain ⟨b, off, spot⟩ := x
    have hspot : spot = none := by
      have h2 := (h1 0 (by omega)).2.2 0 hk
      have h3 := (h1 0 (by omega)).2.1
      have h4 : ((hR 0).choose)[0]? = some (((hR 0).choose)[0]'(by omega)) := List.getElem?_eq_getElem _
      rw [h4] at h2
      simpa [Addr.add] using World.cell?_spot h2
    subst hspot
    refine ⟨b, off, rfl, fun i hi j hj => ?_⟩
    have h2 := (h1 i (by omega)).2.2 j hj
    rw [← h2, Go.WideShapes.add_plain, Go.WideShapes.add_plain]
/-- the cells of a struct whose fields lie one behind the other, a cell each -/
theorem struct_cells {H : Type} {enc : TypeId × Value → H} {P : Program} {w : World} {base : Nat} {spare : Nat → Bool} {held : Bool} {fuel : Nat} {t : TypeId} {fs : Array Field} {cs : List Value} {x : DataW H × List MemPlace}
    (hs : P.underlying t = some (.struct fs)) (h : DataW.trod enc P w base spare held fuel t cs = some x) :
    cs.length = P.cellsOf t ∧ ∃ n, ∀ (i : Nat) (f : Field), fs[i]? = some f → ∃ y, DataW.trod enc P w base spare held n f.type ((cs.drop f.offset).take (P.cellsOf f.type)) = some y := by
  obtain ⟨xs, n, _, _, hl, hlen, hx⟩ := DataW.trod_struct hs h
  refine ⟨hl, n, fun i f hi => ?_⟩
  have h1 := hx i f hi
  have hlt : i < xs.length := by
    rw [hlen]
    rcases Nat.lt_or_ge i fs.size with h' | h'
    · exact h'
    · rw [Array.getElem?_eq_none h'] at hi; cases hi
  rw [List.getElem?_eq_getElem hlt] at h1
  exact ⟨_, h1⟩
end Go.Proofs.Ythboiklcjpnhbaa
/- What a slice in memory holds, by its cells' values (elements of one cell each). -/
namespace Go.Proofs.Ythboiklcjpnhbaa
open Go.ChangeShapes Go.WideShapes Go.ChangeAt Go.RowKit
set_option linter.unusedVariables false
set_option maxRecDepth 20000

/-- The slice at a of n elements, of one cell each, holds the values xs. -/
def HoldsV (w : World) (a : Option Addr) (n : Nat) (xs : List Value) : Prop :=
  xs.length = n ∧ (0 < n → ∃ b o, a = some ⟨b, o, none⟩ ∧ ∀ i, i < n → w.cell? ⟨b, o + i, none⟩ = some (xs.getD i undef))
theorem HoldsV.below {w w' : World} {a : Option Addr} {n : Nat} {xs : List Value} (h : HoldsV w a n xs) (hb : Below w.heap.size w w') : HoldsV w' a n xs := by
  refine ⟨h.1, fun h0 => ?_⟩
  obtain ⟨b, o, ha, hc⟩ := h.2 h0
  refine ⟨b, o, ha, fun i hi => ?_⟩
  rw [hb.cell (p := ⟨b, o + i, none⟩) (lt_of_cell (hc i hi))]
  exact hc i hi
theorem getD_map_int (k : IntKind) (zs : List Int) (i : Nat) (hi : i < zs.length) : (zs.map (Value.int k)).getD i undef = .int k (zs.getD i 0) := by
  simp [List.getD_eq_getElem?_getD, hi]
theorem HoldsI.values {k : IntKind} {w : World} {a : Option Addr} {n : Nat} {zs : List Int} (h : HoldsI k w a n zs) : HoldsV w a n (zs.map (Value.int k)) := by
  refine ⟨by simpa using h.1, fun h0 => ?_⟩
  obtain ⟨b, o, ha, hc⟩ := h.2 h0
  exact ⟨b, o, ha, fun i hi => by rw [hc i hi, getD_map_int k zs i (by rw [h.1]; exact hi)]⟩
theorem HoldsV.cells {w w' : World} {a : Option Addr} {n : Nat} {xs : List Value} (h : HoldsV w a n xs) (hg : w.grownBy w' none) : ∀ ad, a = some ad → ∀ j u, xs[j]? = some u → w'.cell? (ad.add j) = some u := by
  intro ad ha j u hj
  have hlt : j < xs.length := (List.getElem?_eq_some_iff.1 hj).1
  obtain ⟨b, o, hb, hc⟩ := h.2 (by have := h.1; omega)
  rw [ha] at hb
  obtain rfl := Option.some.inj hb
  have h2 := hc j (by have := h.1; omega)
  rw [List.getD_eq_getElem?_getD, hj] at h2
  rw [add_plain]
  exact hg.cell h2 (by simp)
theorem below_grown {w w' : World} {row : Option Nat} (hg : w.grownBy w' row) (hr : ∀ k, row = some k → w.heap.size ≤ k) : Below w.heap.size w w' := (Below.refl _ _).grown hg (Nat.le_refl _) hr
/-- Block B is a row of n + 3 cells that may be written: the first n hold xs, of the three behind them the first k hold the mark. -/
def Roomy (w : World) (B : Nat) (e : TypeId) (mark : Value) (n : Nat) (xs : List Value) (k : Nat) : Prop :=
  ∃ cs : Array Value, w.heap[B]? = some (.cells cs e (0, 0)) ∧ cs.size = n + 3 ∧ (∀ i, i < n → cs[i]? = some (xs.getD i undef)) ∧ ∀ i, i < k → cs[n + i]? = some mark
/-- What 'append' left in a row of n + 3 cells. -/
theorem roomy_of_own {w : World} {base B : Nat} {e : TypeId} {mark : Value} {n : Nat} {xs : List Value} (hl : xs.length = n) (h : w.ownsRow base e 1 (.slice (some ⟨B, 0, none⟩) n (n + 3)) n xs) : Roomy w B e mark n xs 0 := by
  rcases h.2 with ⟨h0, _⟩ | ⟨g, cap, cur, hv, _, hh, _, _, hs, hx⟩
  · cases h0
  · simp only [Value.slice.injEq, Option.some.injEq, Addr.mk.injEq, and_true, true_and] at hv
    obtain ⟨rfl, rfl⟩ := hv
    refine ⟨cur, hh, by omega, fun i hi => ?_, fun i hi => by omega⟩
    rw [Nat.mul_one] at hx
    rw [List.getD_eq_getElem?_getD, ← hx, List.getElem?_take, if_pos hi]
    have hlt : i < cur.size := by omega
    simp [hlt]
theorem Roomy.cell {w : World} {B : Nat} {e : TypeId} {mark : Value} {n : Nat} {xs : List Value} {k : Nat} (h : Roomy w B e mark n xs k) (i : Nat) (hi : i < n) : w.cell? ⟨B, i, none⟩ = some (xs.getD i undef) := by
  obtain ⟨cs, h1, _, h3, _⟩ := h
  rw [Joins.cell_of_block h1]; exact h3 i hi
theorem Roomy.room {w : World} {B : Nat} {e : TypeId} {mark : Value} {n : Nat} {xs : List Value} {k : Nat} (h : Roomy w B e mark n xs k) (i : Nat) (hi : i < k) : w.cell? ⟨B, n + i, none⟩ = some mark := by
  obtain ⟨cs, h1, _, _, h4⟩ := h
  rw [Joins.cell_of_block h1]; exact h4 i hi
theorem Roomy.there {w : World} {B : Nat} {e : TypeId} {mark : Value} {n : Nat} {xs : List Value} {k : Nat} (h : Roomy w B e mark n xs k) (i : Nat) (hi : i < n + 3) : ∃ v, w.cell? ⟨B, i, none⟩ = some v := by
  obtain ⟨cs, h1, h2, _, _⟩ := h
  exact ⟨cs[i]'(by omega), by rw [Joins.cell_of_block h1, Array.getElem?_eq_getElem (by omega)]⟩
theorem Roomy.free {w : World} {B : Nat} {e : TypeId} {mark : Value} {n : Nat} {xs : List Value} {k : Nat} (h : Roomy w B e mark n xs k) (i : Nat) : w.frozen? ⟨B, i, none⟩ = false := by
  obtain ⟨cs, h1, _, _, _⟩ := h
  exact Joins.unfrozen_of_block h1 i
theorem Roomy.put {w : World} {B : Nat} {e : TypeId} {mark : Value} {n : Nat} {xs : List Value} {k : Nat} (h : Roomy w B e mark n xs k) (hk : k < 3) : Roomy (w.setCell ⟨B, n + k, none⟩ mark) B e mark n xs (k + 1) := by
  obtain ⟨cs, h1, h2, h3, h4⟩ := h
  refine ⟨_, Joins.block_setCell h1 mark, by simpa using h2, fun i hi => ?_, fun i hi => ?_⟩
  · rw [Array.getElem?_setIfInBounds, if_neg (by omega)]; exact h3 i hi
  · rw [Array.getElem?_setIfInBounds]
    by_cases e : n + k = n + i
    · rw [if_pos e, if_pos (by omega)]
    · rw [if_neg e]; exact h4 i (by omega)
theorem Roomy.lt {w : World} {B : Nat} {e : TypeId} {mark : Value} {n : Nat} {xs : List Value} {k : Nat} (h : Roomy w B e mark n xs k) : B < w.heap.size := by
  obtain ⟨cs, h1, _⟩ := h
  exact (Array.getElem?_eq_some_iff.1 h1).1
theorem Roomy.below {w w' : World} {B : Nat} {e : TypeId} {mark : Value} {n : Nat} {xs : List Value} {k : Nat} (h : Roomy w B e mark n xs k) (hb : Below w.heap.size w w') : Roomy w' B e mark n xs k := by
  obtain ⟨cs, h1, h2⟩ := h
  exact ⟨cs, by rw [hb.block B (Array.getElem?_eq_some_iff.1 h1).1]; exact h1, h2⟩
theorem Roomy.holds {w : World} {B : Nat} {e : TypeId} {mark : Value} {n : Nat} {xs : List Value} {k : Nat} (hl : xs.length = n) (h : Roomy w B e mark n xs k) : HoldsV w (some ⟨B, 0, none⟩) n xs :=
  ⟨hl, fun _ => ⟨B, 0, rfl, fun i hi => by rw [Nat.zero_add]; exact h.cell i hi⟩⟩
/-- what is owned stays so where what was there stays -/
theorem owns_below {w w' : World} {base : Nat} {e : TypeId} {size : Nat} {v : Value} {n : Nat} {xs : List Value} (h : w.ownsRow base e size v n xs) (hb : Below w.heap.size w w') : w'.ownsRow base e size v n xs := by
  refine ⟨h.1, ?_⟩
  rcases h.2 with h0 | ⟨g, cap, cur, hv, hg, hh, r⟩
  · exact Or.inl h0
  · exact Or.inr ⟨g, cap, cur, hv, hg, by rw [hb.block g (Array.getElem?_eq_some_iff.1 hh).1]; exact hh, r⟩
theorem owns_none {w : World} {base : Nat} {e : TypeId} {size : Nat} {a : Option Addr} {n c : Nat} {xs : List Value} (h : w.ownsRow base e size (.slice a n c) n xs) : (a = none → n = 0 ∧ c = 0) ∧ n ≤ c := by
  rcases h.2 with ⟨hv, hn⟩ | ⟨g, cap, cur, hv, _, _, hc, _⟩
  · simp only [Value.slice.injEq] at hv
    obtain ⟨_, rfl, rfl⟩ := hv
    exact ⟨fun _ => ⟨rfl, rfl⟩, Nat.le_refl _⟩
  · simp only [Value.slice.injEq] at hv
    obtain ⟨rfl, _, rfl⟩ := hv
    exact ⟨(fun h => by cases h), hc⟩
/-- What is owned reads so. -/
theorem owns_holds {w : World} {base : Nat} {e : TypeId} {a : Option Addr} {n c : Nat} {xs : List Value} (h : w.ownsRow base e 1 (.slice a n c) n xs) : HoldsV w a n xs := by
  have hl : xs.length = n := by simpa using h.1
  refine ⟨hl, fun h0 => ?_⟩
  rcases h.2 with ⟨_, h1⟩ | ⟨g, cap, cur, hv, _, hh, hc, _, hs, hx⟩
  · omega
  · simp only [Value.slice.injEq] at hv
    obtain ⟨rfl, _, rfl⟩ := hv
    refine ⟨g, 0, rfl, fun i hi => ?_⟩
    rw [Nat.zero_add, Joins.cell_of_block hh]
    rw [Nat.mul_one] at hx
    rw [List.getD_eq_getElem?_getD, ← hx, List.getElem?_take, if_pos hi]
    have hlt : i < cur.size := by omega
    simp [hlt]
/-- one new cell, to be appended -/
theorem one_new (w : World) (v : Value) (e : TypeId) (fr : Nat × Nat) : ∀ ad, (some ⟨w.heap.size, 0, none⟩ : Option Addr) = some ad → ∀ j u, [v][j]? = some u → (w.alloc (.cells #[v] e fr)).cell? (ad.add j) = some u := by
  intro ad ha j u hj
  obtain rfl := Option.some.inj ha
  match j, hj with
  | 0, hj =>
    simp at hj; subst hj
    rw [add_plain, World.cell?_alloc_mark]; rfl
theorem one_int (k : IntKind) (x : Int) : ∀ u ∈ [Value.int k x], u.oneCell' = true := by simp [Value.oneCell']
theorem one_str (x : ByteArray) : ∀ u ∈ [Value.string x], u.oneCell' = true := by simp [Value.oneCell']
theorem some_none {p : Prop} (a : Addr) : (some a = none) → p := fun h => by cases h
/-- 'append(v, x...)', v nil or the call's own, x whatever slice (nil too): the value is a slice of the call's own. -/
theorem wpList_append_any {P : Program} {w : World} {ops : Array Oper} {rest : List Oper} {o : Oper} {a : Act} {Q : Exit → Act → World → Prop} (hgd : o.guard = none) (s x : Operand) (t : TypeId)
    (ho : o.op = .call { callee := .builtin .append, args := #[s, x], argTypes := #[t, t] })
    (base : Nat) (e : TypeId) (i : TypeInfo) (z : Value) (size bytes : Nat) (ht : P.underlying t = some (.slice e)) (hi : P.info? e = some i) (hz : i.zero = some z)
    (hsize : i.size = size) (hby : i.bytes = bytes) (hzs : z.cells.size = size) (hsz : 0 < size)
    (v : Value) (n : Nat) (xs : List Value) (hs : a.eval s = v) (hown : w.ownsRow base e size v n xs)
    (ao : Option Addr) (m c : Nat) (news : List Value) (hx : a.eval x = .slice ao m c) (hnone : ao = none → m = 0 ∧ c = 0) (hl : news.length = m * size)
    (hnews : ∀ ad, ao = some ad → ∀ j u, news[j]? = some u → w.cell? (ad.add j) = some u) (h1 : ∀ u ∈ news, u.oneCell' = true)
    (h63 : n + m ≤ maxLen) (hbytes : (n + m) * bytes ≤ 140737488355328) (hbase : base ≤ w.heap.size)
    (h : ∀ a' c' w', w'.ownsRow base e size (.slice a' (n + m) c') (n + m) (xs ++ news) → Below base w w' → (a' = none → n + m = 0 ∧ c' = 0) → wpList P ops Q rest (a.put o.dst (.slice a' (n + m) c')) w') : wpList P ops Q (o :: rest) a w := by
  have fin : ∀ v' w', w'.ownsRow base e size v' (n + m) (xs ++ news) → Below base w w' → wpList P ops Q rest (a.put o.dst v') w' := by
    intro v' w' ho' hb'
    rcases Joins.ownsRow_forms ho' with ⟨rfl, h0⟩ | ⟨g, cap, rfl⟩
    · have := h none 0 w' (by rw [h0] at ho' ⊢; exact ho') hb' (fun _ => ⟨h0, rfl⟩)
      rw [h0] at this
      exact this
    · exact h _ _ w' ho' hb' (fun h => by cases h)
  cases ao with
  | some ad =>
    refine wpList_append_own w hgd s x t ho base e i z size bytes ht hi hz hsize hby hzs hsz v n xs hs hown ad m c news hx hl (hnews ad rfl) h1 h63 hbytes hbase fun v' w' h2 h3 _ => ?_
    exact fin v' w' h2 ((Below.refl base w).grown h3 hbase fun k hk => (hown.lt k hk).1)
  | none =>
    obtain ⟨rfl, rfl⟩ := hnone rfl
    have hn : news = [] := List.eq_nil_of_length_eq_zero (by simpa using hl)
    subst hn
    exact wpList_append_own_none hgd s x t ho base e i size ht hi v n xs hs hown hx (fin v w (by simpa using hown) (Below.refl _ _))
end Go.Proofs.Ythboiklcjpnhbaa
/- lists of api.Ask: 11 cells each -/
namespace Go.Proofs.Ythboiklcjpnhbaa
open Go.RowKit
set_option linter.unusedVariables false
set_option maxRecDepth 20000
structure AskP where
  slot : Int
  query : Int
  shard : Int
  seq : Int
  epoch : Int
  text : ByteArray
  k : Int
  batch : Int
  first : Bool
  ad : Int
  aw : ByteArray
def ask0 : AskP := ⟨0, 0, 0, 0, 0, ⟨#[]⟩, 0, 0, false, 0, ⟨#[]⟩⟩
def cellsAsk (x : AskP) : List Value := [(.int .i64 x.slot), (.int .i64 x.query), (.int .i64 x.shard), (.int .i64 x.seq), (.int .i64 x.epoch), (.string x.text), (.int .i64 x.k), (.int .i64 x.batch), (.bool x.first), (.int .i64 x.ad), (.string x.aw)]
def HoldsAsk (w : World) (a : Option Addr) (n : Nat) (ks : List AskP) : Prop := ks.length = n ∧ (0 < n → ∃ b o, a = some ⟨b, o, none⟩ ∧ ∀ i, i < n → w.cell? ⟨b, o + i * 11, none⟩ = some (.int .i64 (ks.getD i ask0).slot) ∧ w.cell? ⟨b, o + i * 11 + 1, none⟩ = some (.int .i64 (ks.getD i ask0).query) ∧ w.cell? ⟨b, o + i * 11 + 2, none⟩ = some (.int .i64 (ks.getD i ask0).shard) ∧ w.cell? ⟨b, o + i * 11 + 3, none⟩ = some (.int .i64 (ks.getD i ask0).seq) ∧ w.cell? ⟨b, o + i * 11 + 4, none⟩ = some (.int .i64 (ks.getD i ask0).epoch) ∧ w.cell? ⟨b, o + i * 11 + 5, none⟩ = some (.string (ks.getD i ask0).text) ∧ w.cell? ⟨b, o + i * 11 + 6, none⟩ = some (.int .i64 (ks.getD i ask0).k) ∧ w.cell? ⟨b, o + i * 11 + 7, none⟩ = some (.int .i64 (ks.getD i ask0).batch) ∧ w.cell? ⟨b, o + i * 11 + 8, none⟩ = some (.bool (ks.getD i ask0).first) ∧ w.cell? ⟨b, o + i * 11 + 9, none⟩ = some (.int .i64 (ks.getD i ask0).ad) ∧ w.cell? ⟨b, o + i * 11 + 10, none⟩ = some (.string (ks.getD i ask0).aw))
theorem HoldsAsk.len {w : World} {a : Option Addr} {n : Nat} {ks : List AskP} (h : HoldsAsk w a n ks) : ks.length = n := h.1
theorem HoldsAsk.at {w : World} {a : Option Addr} {n : Nat} {ks : List AskP} (h : HoldsAsk w a n ks) (h0 : 0 < n) : ∃ b o, a = some ⟨b, o, none⟩ ∧ ∀ i, i < n → w.cell? ⟨b, o + i * 11, none⟩ = some (.int .i64 (ks.getD i ask0).slot) ∧ w.cell? ⟨b, o + i * 11 + 1, none⟩ = some (.int .i64 (ks.getD i ask0).query) ∧ w.cell? ⟨b, o + i * 11 + 2, none⟩ = some (.int .i64 (ks.getD i ask0).shard) ∧ w.cell? ⟨b, o + i * 11 + 3, none⟩ = some (.int .i64 (ks.getD i ask0).seq) ∧ w.cell? ⟨b, o + i * 11 + 4, none⟩ = some (.int .i64 (ks.getD i ask0).epoch) ∧ w.cell? ⟨b, o + i * 11 + 5, none⟩ = some (.string (ks.getD i ask0).text) ∧ w.cell? ⟨b, o + i * 11 + 6, none⟩ = some (.int .i64 (ks.getD i ask0).k) ∧ w.cell? ⟨b, o + i * 11 + 7, none⟩ = some (.int .i64 (ks.getD i ask0).batch) ∧ w.cell? ⟨b, o + i * 11 + 8, none⟩ = some (.bool (ks.getD i ask0).first) ∧ w.cell? ⟨b, o + i * 11 + 9, none⟩ = some (.int .i64 (ks.getD i ask0).ad) ∧ w.cell? ⟨b, o + i * 11 + 10, none⟩ = some (.string (ks.getD i ask0).aw) := h.2 h0
theorem HoldsAsk.nil (w : World) (a : Option Addr) : HoldsAsk w a 0 [] := ⟨rfl, fun h => absurd h (by omega)⟩
theorem HoldsAsk.below {w w' : World} {a : Option Addr} {n : Nat} {ks : List AskP} (h : HoldsAsk w a n ks) (hb : Below w.heap.size w w') : HoldsAsk w' a n ks := by
  refine ⟨h.1, fun h0 => ?_⟩
  obtain ⟨b, o, ha, hc⟩ := h.2 h0
  have hlt := lt_of_cell (hc 0 h0).1
  refine ⟨b, o, ha, fun i hi => ?_⟩
  rw [hb.cell (p := ⟨b, o + i * 11, none⟩) hlt, hb.cell (p := ⟨b, o + i * 11 + 1, none⟩) hlt, hb.cell (p := ⟨b, o + i * 11 + 2, none⟩) hlt, hb.cell (p := ⟨b, o + i * 11 + 3, none⟩) hlt, hb.cell (p := ⟨b, o + i * 11 + 4, none⟩) hlt, hb.cell (p := ⟨b, o + i * 11 + 5, none⟩) hlt, hb.cell (p := ⟨b, o + i * 11 + 6, none⟩) hlt, hb.cell (p := ⟨b, o + i * 11 + 7, none⟩) hlt, hb.cell (p := ⟨b, o + i * 11 + 8, none⟩) hlt, hb.cell (p := ⟨b, o + i * 11 + 9, none⟩) hlt, hb.cell (p := ⟨b, o + i * 11 + 10, none⟩) hlt]
  exact hc i hi
theorem getD_memAsk (zs : List AskP) (j : Nat) (h : j < zs.length) : zs.getD j ask0 ∈ zs := by
  rw [List.getD_eq_getElem?_getD, List.getElem?_eq_getElem h]; simp
def asksV : List AskP → List Value
  | [] => []
  | k :: ks => (.int .i64 k.slot) :: (.int .i64 k.query) :: (.int .i64 k.shard) :: (.int .i64 k.seq) :: (.int .i64 k.epoch) :: (.string k.text) :: (.int .i64 k.k) :: (.int .i64 k.batch) :: (.bool k.first) :: (.int .i64 k.ad) :: (.string k.aw) :: asksV ks
theorem asksV_len : ∀ ks : List AskP, (asksV ks).length = ks.length * 11
  | [] => rfl
  | k :: ks => by simp [asksV, asksV_len ks]; omega
theorem asksV_app : ∀ ks ls : List AskP, asksV (ks ++ ls) = asksV ks ++ asksV ls
  | [], ls => rfl
  | k :: ks, ls => by simp [asksV, asksV_app ks ls]
theorem asksV_one : ∀ (ks : List AskP), ∀ u ∈ asksV ks, u.oneCell' = true
  | [], u, h => by simp [asksV] at h
  | k :: ks, u, h => by
    simp only [asksV, List.mem_cons] at h
    rcases h with h | h | h | h | h | h | h | h | h | h | h | h
    · subst h; rfl
    · subst h; rfl
    · subst h; rfl
    · subst h; rfl
    · subst h; rfl
    · subst h; rfl
    · subst h; rfl
    · subst h; rfl
    · subst h; rfl
    · subst h; rfl
    · subst h; rfl
    · exact asksV_one ks u h
theorem asksV_at : ∀ (ks : List AskP) (i : Nat), i < ks.length → (asksV ks)[i * 11]? = some (.int .i64 (ks.getD i ask0).slot) ∧ (asksV ks)[i * 11 + 1]? = some (.int .i64 (ks.getD i ask0).query) ∧ (asksV ks)[i * 11 + 2]? = some (.int .i64 (ks.getD i ask0).shard) ∧ (asksV ks)[i * 11 + 3]? = some (.int .i64 (ks.getD i ask0).seq) ∧ (asksV ks)[i * 11 + 4]? = some (.int .i64 (ks.getD i ask0).epoch) ∧ (asksV ks)[i * 11 + 5]? = some (.string (ks.getD i ask0).text) ∧ (asksV ks)[i * 11 + 6]? = some (.int .i64 (ks.getD i ask0).k) ∧ (asksV ks)[i * 11 + 7]? = some (.int .i64 (ks.getD i ask0).batch) ∧ (asksV ks)[i * 11 + 8]? = some (.bool (ks.getD i ask0).first) ∧ (asksV ks)[i * 11 + 9]? = some (.int .i64 (ks.getD i ask0).ad) ∧ (asksV ks)[i * 11 + 10]? = some (.string (ks.getD i ask0).aw)
  | [], i, h => by simp at h
  | k :: ks, 0, _ => by simp [asksV]
  | k :: ks, i + 1, h => by
    have ih := asksV_at ks i (by simpa using h)
    have e1 : (i + 1) * 11 = i * 11 + 1 + 1 + 1 + 1 + 1 + 1 + 1 + 1 + 1 + 1 + 1 := by omega
    rw [e1]
    simpa [asksV] using ih
theorem asksV_snoc (ks : List AskP) (k : AskP) : asksV (ks ++ [k]) = asksV ks ++ cellsAsk k := by rw [asksV_app]; rfl
theorem HoldsAsk.cells {w : World} {b o n : Nat} {ks : List AskP} (h : HoldsAsk w (some ⟨b, o, none⟩) n ks) : ∀ j u, (asksV ks)[j]? = some u → w.cell? ((⟨b, o, none⟩ : Addr).add j) = some u := by
  intro j u hj
  have hl := h.len
  have hjl : j < (asksV ks).length := by
    rcases Nat.lt_or_ge j (asksV ks).length with h' | h'
    · exact h'
    · rw [List.getElem?_eq_none h'] at hj; cases hj
  rw [asksV_len] at hjl
  obtain ⟨b', o', ha, hc⟩ := h.at (by omega)
  cases ha
  obtain ⟨c0, c1, c2, c3, c4, c5, c6, c7, c8, c9, c10⟩ := hc (j / 11) (by omega)
  obtain ⟨v0, v1, v2, v3, v4, v5, v6, v7, v8, v9, v10⟩ := asksV_at ks (j / 11) (by omega)
  rw [Go.WideShapes.add_plain]
  have hcase : j = j / 11 * 11 ∨ j = j / 11 * 11 + 1 ∨ j = j / 11 * 11 + 2 ∨ j = j / 11 * 11 + 3 ∨ j = j / 11 * 11 + 4 ∨ j = j / 11 * 11 + 5 ∨ j = j / 11 * 11 + 6 ∨ j = j / 11 * 11 + 7 ∨ j = j / 11 * 11 + 8 ∨ j = j / 11 * 11 + 9 ∨ j = j / 11 * 11 + 10 := by omega
  rcases hcase with e | e | e | e | e | e | e | e | e | e | e
  · have e2 : o + j / 11 * 11 = o + j := by omega
    rw [← e] at v0
    rw [e2] at c0
    rw [c0, ← hj, v0]
  · have e2 : o + j / 11 * 11 + 1 = o + j := by omega
    rw [← e] at v1
    rw [e2] at c1
    rw [c1, ← hj, v1]
  · have e2 : o + j / 11 * 11 + 2 = o + j := by omega
    rw [← e] at v2
    rw [e2] at c2
    rw [c2, ← hj, v2]
  · have e2 : o + j / 11 * 11 + 3 = o + j := by omega
    rw [← e] at v3
    rw [e2] at c3
    rw [c3, ← hj, v3]
  · have e2 : o + j / 11 * 11 + 4 = o + j := by omega
    rw [← e] at v4
    rw [e2] at c4
    rw [c4, ← hj, v4]
  · have e2 : o + j / 11 * 11 + 5 = o + j := by omega
    rw [← e] at v5
    rw [e2] at c5
    rw [c5, ← hj, v5]
  · have e2 : o + j / 11 * 11 + 6 = o + j := by omega
    rw [← e] at v6
    rw [e2] at c6
    rw [c6, ← hj, v6]
  · have e2 : o + j / 11 * 11 + 7 = o + j := by omega
    rw [← e] at v7
    rw [e2] at c7
    rw [c7, ← hj, v7]
  · have e2 : o + j / 11 * 11 + 8 = o + j := by omega
    rw [← e] at v8
    rw [e2] at c8
    rw [c8, ← hj, v8]
  · have e2 : o + j / 11 * 11 + 9 = o + j := by omega
    rw [← e] at v9
    rw [e2] at c9
    rw [c9, ← hj, v9]
  · have e2 : o + j / 11 * 11 + 10 = o + j := by omega
    rw [← e] at v10
    rw [e2] at c10
    rw [c10, ← hj, v10]
theorem HoldsAsk.own {w : World} {B : Nat} {e : TypeId} {a : Option Addr} {n c : Nat} {ks : List AskP} (h : w.ownsRow B e 11 (.slice a n c) n (asksV ks)) : HoldsAsk w a n ks := by
  have hl : ks.length = n := by have := h.1; rw [asksV_len] at this; omega
  refine ⟨hl, fun h0 => ?_⟩
  rcases h.2 with ⟨_, h1⟩ | ⟨g, cap, cur, hv, _, hh, hc, _, hs, hx⟩
  · omega
  · simp only [Value.slice.injEq] at hv
    obtain ⟨rfl, _, rfl⟩ := hv
    refine ⟨g, 0, rfl, fun i hi => ?_⟩
    obtain ⟨v0, v1, v2, v3, v4, v5, v6, v7, v8, v9, v10⟩ := asksV_at ks i (by omega)
    rw [← hx] at v0 v1 v2 v3 v4 v5 v6 v7 v8 v9 v10
    rw [List.getElem?_take_of_lt (by omega)] at v0 v1 v2 v3 v4 v5 v6 v7 v8 v9 v10
    rw [Array.getElem?_toList] at v0 v1 v2 v3 v4 v5 v6 v7 v8 v9 v10
    rw [Nat.zero_add, Joins.cell_of_block hh, Joins.cell_of_block hh, Joins.cell_of_block hh, Joins.cell_of_block hh, Joins.cell_of_block hh, Joins.cell_of_block hh, Joins.cell_of_block hh, Joins.cell_of_block hh, Joins.cell_of_block hh, Joins.cell_of_block hh, Joins.cell_of_block hh]
    exact ⟨v0, v1, v2, v3, v4, v5, v6, v7, v8, v9, v10⟩
theorem HoldsAsk.cellsAny {w : World} {a : Option Addr} {n : Nat} {ks : List AskP} (h : HoldsAsk w a n ks) {w' : World} (hg : w.grownBy w' none) : ∀ ad, a = some ad → ∀ j u, (asksV ks)[j]? = some u → w'.cell? (ad.add j) = some u := by
  intro ad ha j u hj
  have hjl : j < (asksV ks).length := (List.getElem?_eq_some_iff.1 hj).1
  rw [asksV_len] at hjl
  obtain ⟨b, o, hb, _⟩ := h.at (by have := h.len; omega)
  rw [ha] at hb
  obtain rfl := Option.some.inj hb
  subst ha
  exact hg.cell (h.cells j u hj) (by simp)
theorem HoldsAsk.cellsAt {w : World} {a : Option Addr} {n : Nat} {ks : List AskP} (h : HoldsAsk w a n ks) : ∀ ad, a = some ad → ∀ j u, (asksV ks)[j]? = some u → w.cell? (ad.add j) = some u := HoldsAsk.cellsAny h ⟨rfl, rfl, rfl, Nat.le_refl _, fun _ _ _ => rfl⟩
end Go.Proofs.Ythboiklcjpnhbaa
/- an Ask in an argument (split from Q9) -/
namespace Go.Proofs.Ythboiklcjpnhbaa
open Go.ChangeShapes Go.WideShapes Go.ChangeAt Go.RowKit
set_option linter.unusedVariables false
set_option maxRecDepth 20000
def AskOk (a : AskP) : Prop := a.text.size ≤ 9223372036854775807 ∧ a.aw.size ≤ 9223372036854775807
theorem cellsAint : Try.prog.cellsOf 3 = 1 := by kernel_rfl
theorem cells_qask : Try.prog.cellsOf 29 = 11 := by kernel_rfl
theorem cells_qitem : Try.prog.cellsOf 27 = 2 := by kernel_rfl
theorem cells_qstr : Try.prog.cellsOf 9 = 1 := by kernel_rfl
theorem cells_qbool : Try.prog.cellsOf 4 = 1 := by kernel_rfl
theorem item_of {H : Type} {enc : TypeId × Value → H} {w : World} {base : Nat} {spare : Nat → Bool} {held : Bool} {fuel : Nat} {cs : List Value} {x : DataW H × List MemPlace}
    (h : DataW.trod enc Try.prog w base spare held fuel 27 cs = some x) : ∃ d t, t.size ≤ 9223372036854775807 ∧ cs = [.int .i64 d, .string t] := by
  obtain ⟨hl, n, hf⟩ := struct_cells Try.underlying27 h
  rw [cells_qitem] at hl
  obtain ⟨c0, c1, rfl⟩ : ∃ c0 c1, cs = [c0, c1] := by
    match cs, hl with
    | [a, b], _ => exact ⟨a, b, rfl⟩
  obtain ⟨y0, z0⟩ := hf 0 _ rfl
  obtain ⟨y1, z1⟩ := hf 1 _ rfl
  obtain ⟨k1, h1, _, b1⟩ := DataW.trod_int Try.underlying3 z0
  obtain ⟨s, hs, _, b0⟩ := DataW.trod_string Try.underlying9 z1
  simp [cellsAint, cells_qstr] at hs h1
  subst hs h1
  exact ⟨k1, s, by unfold maxLen at b0; exact b0, rfl⟩
theorem ask_of {H : Type} {enc : TypeId × Value → H} {w : World} {base : Nat} {spare : Nat → Bool} {held : Bool} {fuel : Nat} {cs : List Value} {x : DataW H × List MemPlace}
    (h : DataW.trod enc Try.prog w base spare held fuel 29 cs = some x) : ∃ a : AskP, AskOk a ∧ cs = cellsAsk a := by
  obtain ⟨hl, n, hf⟩ := struct_cells Try.underlying29 h
  rw [cells_qask] at hl
  obtain ⟨c0, c1, c2, c3, c4, c5, c6, c7, c8, c9, c10, rfl⟩ : ∃ c0 c1 c2 c3 c4 c5 c6 c7 c8 c9 c10, cs = [c0, c1, c2, c3, c4, c5, c6, c7, c8, c9, c10] := by
    match cs, hl with
    | [c0, c1, c2, c3, c4, c5, c6, c7, c8, c9, c10], _ => exact ⟨c0, c1, c2, c3, c4, c5, c6, c7, c8, c9, c10, rfl⟩
  obtain ⟨y0, z0⟩ := hf 0 _ rfl
  obtain ⟨y1, z1⟩ := hf 1 _ rfl
  obtain ⟨y2, z2⟩ := hf 2 _ rfl
  obtain ⟨y3, z3⟩ := hf 3 _ rfl
  obtain ⟨y4, z4⟩ := hf 4 _ rfl
  obtain ⟨y5, z5⟩ := hf 5 _ rfl
  obtain ⟨y6, z6⟩ := hf 6 _ rfl
  obtain ⟨y7, z7⟩ := hf 7 _ rfl
  obtain ⟨y8, z8⟩ := hf 8 _ rfl
  obtain ⟨y9, z9⟩ := hf 9 _ rfl
  obtain ⟨k0, h0, _, _⟩ := DataW.trod_int Try.underlying3 z0
  obtain ⟨k1, h1, _, _⟩ := DataW.trod_int Try.underlying3 z1
  obtain ⟨k2, h2, _, _⟩ := DataW.trod_int Try.underlying3 z2
  obtain ⟨k3, h3, _, _⟩ := DataW.trod_int Try.underlying3 z3
  obtain ⟨k4, h4, _, _⟩ := DataW.trod_int Try.underlying3 z4
  obtain ⟨k5, h5, _, b5⟩ := DataW.trod_string Try.underlying9 z5
  obtain ⟨k6, h6, _, _⟩ := DataW.trod_int Try.underlying3 z6
  obtain ⟨k7, h7, _, _⟩ := DataW.trod_int Try.underlying3 z7
  obtain ⟨k8, h8, _⟩ := DataW.trod_bool Try.underlying4 z8
  obtain ⟨k9, k10, b10, h9⟩ := item_of z9
  simp [cellsAint, cells_qstr, cells_qbool, cells_qitem] at h0 h1 h2 h3 h4 h5 h6 h7 h8 h9
  obtain ⟨e9, e10⟩ := h9
  subst h0 h1 h2 h3 h4 h5 h6 h7 h8 e9 e10
  exact ⟨⟨k0, k1, k2, k3, k4, k5, k6, k7, k8, k9, k10⟩, ⟨by unfold maxLen at b5; exact b5, b10⟩, rfl⟩
theorem agg_of {cs : Array Value} {l : List Value} (h : (Value.agg cs).cells.toList = l) : Value.agg cs = .agg l.toArray := by
  congr 1
  apply Array.toList_inj.1
  simpa [Value.cells] using h
theorem ask_arg {H : Type} {enc : TypeId × Value → H} {w : World} {base : Nat} {spare : Nat → Bool} {held : Bool} {r : Reach} {b0 : Nat} {v : Value} {d : DataW H} {p : List MemPlace}
    (hv : Value.okWide Try.prog w r b0 29 v) (h : DataW.Trod enc Try.prog w base spare held 29 v d p) : ∃ x : AskP, AskOk x ∧ v = .agg #[.int .i64 x.slot, .int .i64 x.query, .int .i64 x.shard, .int .i64 x.seq, .int .i64 x.epoch, .string x.text, .int .i64 x.k, .int .i64 x.batch, .bool x.first, .int .i64 x.ad, .string x.aw] := by
  obtain ⟨cs, rfl, hsz⟩ := okWide_struct Try.underlying29 hv
  obtain ⟨fuel, hf⟩ := h
  obtain ⟨x, h1, h2⟩ := ask_of hf
  exact ⟨x, h1, agg_of h2⟩
end Go.Proofs.Ythboiklcjpnhbaa
/- An argument that is a slice of integers, opened; its bytes. Of whatever program. -/
namespace Go.Proofs.Ythboiklcjpnhbaa
open Go.ChangeShapes Go.WideShapes Go.ChangeAt Go.RowKit
open Go.ChangeMaps (open_string shut_string)
set_option linter.unusedVariables false
set_option maxRecDepth 20000

theorem open_ints_arg {H : Type} {enc : TypeId × Value → H} {P : Program} {W : World} {base : Nat} {t e : TypeId} {k : IntKind} {v : Value} {d : DataW H} {p : List MemPlace}
    (ht : P.underlying t = some (.slice e)) (he : P.underlying e = some (.int k)) (hc : P.cellsOf e = 1)
    (o : Value.okWide P W .any base t v) (h : DataW.Trod enc P W 0 (fun _ => true) true t v d p) :
    ∃ a n cap zs, v = .slice a n cap ∧ HoldsI k W a n zs ∧ (a = none → n = 0 ∧ cap = 0) ∧ n ≤ cap ∧ cap ≤ maxLen ∧ ∀ z ∈ zs, (Lit.int k z).wf = true := by
  obtain ⟨a, len, cap, rfl⟩ := okWide_slice ht o
  obtain ⟨fuel, hf⟩ := h
  rcases open_ints ht he hc hf with ⟨hcs, _⟩ | ⟨x, l, c, zs, hcs, _, hl, hm, hz, _, hcell, hwz⟩
  · simp [Value.cells] at hcs
    obtain ⟨rfl, rfl, rfl⟩ := hcs
    exact ⟨none, 0, 0, [], rfl, HoldsI.nil _ _ _, fun _ => ⟨rfl, rfl⟩, Nat.le_refl _, by unfold maxLen; omega, by simp⟩
  · simp [Value.cells] at hcs
    obtain ⟨rfl, rfl, rfl⟩ := hcs
    have hzc : zs.length = cap := by simpa using hz
    refine ⟨some x, len, cap, zs.take len, rfl, ⟨by simp; omega, fun h0 => ?_⟩, (fun h => by cases h), hl, hm, fun z hz => hwz z (List.mem_of_mem_take hz)⟩
    obtain ⟨b, off, rfl, hcc⟩ := ints_at hcell (by omega)
    refine ⟨b, off, rfl, fun i hi => ?_⟩
    rw [hcc i (by omega)]
    congr 2
    simp only [List.getD_eq_getElem?_getD, List.getElem?_take]
    rw [if_pos hi]
theorem u8_of_wf {z : Int} (h : (Lit.int .u8 z).wf = true) : 0 ≤ z ∧ z < 256 := by
  simp [Lit.wf, IntKind.min, IntKind.max, IntKind.signed, IntKind.bits] at h; omega
theorem i64_of_wf {z : Int} (h : (Lit.int .i64 z).wf = true) : -9223372036854775808 ≤ z ∧ z ≤ 9223372036854775807 := by
  simp [Lit.wf, IntKind.min, IntKind.max, IntKind.signed, IntKind.bits] at h; omega
theorem i32_of_wf {z : Int} (h : (Lit.int .i32 z).wf = true) : -2147483648 ≤ z ∧ z ≤ 2147483647 := by
  simp [Lit.wf, IntKind.min, IntKind.max, IntKind.signed, IntKind.bits] at h; omega
end Go.Proofs.Ythboiklcjpnhbaa
/- contract of text.Compare -/
namespace Go.Proofs.Ythboiklcjpnhbaa
open Go.RowKit
set_option linter.unusedVariables false
set_option maxRecDepth 20000
/-- which list of bytes is ahead -/
def cmpL (x y : List UInt8) : Int := if Op.bytesLess x y = true then -1 else if (x == y) = true then 0 else 1
theorem less_irrefl : ∀ x : List UInt8, Op.bytesLess x x = false
  | [] => rfl
  | a :: x => by simp [Op.bytesLess, less_irrefl x]
theorem cmpL_same (x : List UInt8) : cmpL x x = 0 := by simp [cmpL, less_irrefl]
theorem cmpL_cons (p q : UInt8) (x y : List UInt8) : cmpL (p :: x) (q :: y) = if p.toNat < q.toNat then -1 else if q.toNat < p.toNat then 1 else cmpL x y := by
  rcases Nat.lt_trichotomy p.toNat q.toNat with h | h | h
  · have h' : p < q := h
    simp [cmpL, Op.bytesLess, h, h']
  · have e : p = q := UInt8.toNat_inj.1 h
    subst e
    simp [cmpL, Op.bytesLess]
  · have h1 : ¬ p < q := fun h' => absurd (show p.toNat < q.toNat from h') (by omega)
    have h2 : (p == q) = false := by simp; intro e; subst e; omega
    have h3 : ¬ p.toNat < q.toNat := by omega
    have h4 : p ≠ q := by intro e; subst e; omega
    simp [cmpL, Op.bytesLess, h, h1, h3, h4]
theorem cmpL_swap : ∀ x y : List UInt8, cmpL y x = - cmpL x y
  | [], [] => rfl
  | [], b :: y => by simp [cmpL, Op.bytesLess]
  | a :: x, [] => by simp [cmpL, Op.bytesLess]
  | a :: x, b :: y => by
    rw [cmpL_cons, cmpL_cons, cmpL_swap x y]
    split <;> split <;> (try omega) <;> simp_all <;> omega
def cmpS (a b : ByteArray) : Int := cmpL a.toList b.toList
theorem cmpL_bd (x y : List UInt8) : cmpL x y = -1 ∨ cmpL x y = 0 ∨ cmpL x y = 1 := by unfold cmpL; split; simp; split <;> simp
theorem isNaN_any (s : ByteArray) (w : World) : Calls Try.prog 113 #[.string s] w fun e w' => e = .returned (.bool false) ∧ w = w' := by
  go_enter Try.func113, Try.ntmps113
  go_wp2
  go_ret
  exact ⟨ret_bool (by simp), rfl⟩
theorem gcompare_any (a b : ByteArray) (w : World) : Calls Try.prog 111 #[.string a, .string b] w fun e w' => e = .returned (.int .i64 (cmpS a b)) ∧ w = w' := by
  unfold cmpS cmpL
  obtain ⟨p, hp⟩ : ∃ p, Op.bytesLess a.toList b.toList = p := ⟨_, rfl⟩
  obtain ⟨q, hq⟩ : ∃ q, (a.toList == b.toList) = q := ⟨_, rfl⟩
  rw [hp, hq]
  cases p <;> cases q
  all_goals
    go_enter Try.func111, Try.ntmps111
    go_wp2_with fail
    refine (isNaN_any a _).mono ?_
    rintro e w' ⟨rfl, rfl⟩
    go_wp2_with fail
    refine (isNaN_any b _).mono ?_
    rintro e w' ⟨rfl, rfl⟩
    go_wp2_with fail
    go_ret
    exact ⟨rfl, rfl⟩
theorem compare_any (a b : ByteArray) (w : World) : Calls Try.prog 107 #[.string a, .string b] w fun e w' => e = .returned (.int .i64 (cmpS a b)) ∧ w = w' := by
  go_enter Try.func107, Try.ntmps107
  go_wp2_with fail
  refine (gcompare_any a b _).mono ?_
  rintro e w' ⟨rfl, rfl⟩
  go_wp2_with fail
  go_ret
  exact ⟨rfl, rfl⟩
theorem bytes_lt (x y : List UInt8) : Op.bytesLess x y = decide (x < y) := Go.Proofs.bytesLess_eq x y
theorem cmpS_swap (a b : ByteArray) : cmpS b a = - cmpS a b := cmpL_swap _ _
theorem cmpS_same (a : ByteArray) : cmpS a a = 0 := cmpL_same _
theorem cmpS_bd (a b : ByteArray) : cmpS a b = -1 ∨ cmpS a b = 0 ∨ cmpS a b = 1 := cmpL_bd _ _
theorem toList_inj {a b : ByteArray} (h : a.toList = b.toList) : a = b := by
  rw [ByteArray.toList_eq, ByteArray.toList_eq] at h
  exact ByteArray.ext (Array.toList_inj.1 h)
theorem cmpS_zero {a b : ByteArray} : cmpS a b = 0 ↔ a = b := by
  constructor
  · intro h
    unfold cmpS cmpL at h
    split at h
    · omega
    · split at h
      · rename_i h2; exact toList_inj (by simpa using h2)
      · omega
  · rintro rfl; exact cmpS_same a
theorem cmpS_lt {a b : ByteArray} : cmpS a b < 0 ↔ a.toList < b.toList := by
  unfold cmpS cmpL
  rw [bytes_lt]
  constructor
  · intro h
    split at h
    · rename_i h2; simpa using h2
    · split at h <;> omega
  · intro h
    rw [if_pos (by simpa using h)]; omega
theorem cmpS_trans {a b c : ByteArray} (h : cmpS a b < 0) (k : cmpS b c < 0) : cmpS a c < 0 := by
  rw [cmpS_lt] at *
  exact List.lt_trans h k
end Go.Proofs.Ythboiklcjpnhbaa
/- The runes that a range over a string yields: plain lemmas. -/
namespace Go.Proofs.Ythboiklcjpnhbaa
/-- the runes from a place on, at most so many -/
def runesN (s : ByteArray) : Nat → Nat → List Nat
  | 0, _ => []
  | f + 1, pos => if pos < s.size then (Utf8.decode s pos).1 :: runesN s f (pos + (Utf8.decode s pos).2) else []
/-- the runes of a text, U+FFFD where there is none -/
def runesS (s : ByteArray) : List Nat := runesN s s.size 0
theorem runesN_end (s : ByteArray) (f pos : Nat) (h : ¬ pos < s.size) : runesN s f pos = [] := by
  cases f with
  | zero => rfl
  | succ f => rw [runesN, if_neg h]
theorem decode_width (s : ByteArray) (pos : Nat) (h : pos < s.size) : 1 ≤ (Utf8.decode s pos).2 := by
  by_cases ha : (s[pos]'h).toNat < 128
  · rw [decode_ascii s pos h ha]; exact Nat.le_refl _
  · exact (decode_high s pos h (by omega)).2
theorem runesN_step (s : ByteArray) (f pos : Nat) (h : pos < s.size) (hf : s.size ≤ pos + f) : ∃ g, f = g + 1 ∧ runesN s f pos = (Utf8.decode s pos).1 :: runesN s g (pos + (Utf8.decode s pos).2) ∧ s.size ≤ pos + (Utf8.decode s pos).2 + g := by
  cases f with
  | zero => omega
  | succ g => exact ⟨g, rfl, by rw [runesN, if_pos h], by have := decode_width s pos h; omega⟩
theorem runesN_le (s : ByteArray) (f : Nat) : ∀ pos, (runesN s f pos).length ≤ f := by
  induction f with
  | zero => intro pos; exact Nat.le_refl _
  | succ f ih =>
    intro pos
    rw [runesN]
    split
    · rw [List.length_cons]; have := ih (pos + (Utf8.decode s pos).2); omega
    · exact Nat.zero_le _
theorem runesS_le (s : ByteArray) : (runesS s).length ≤ s.size := runesN_le s s.size 0
theorem runesN_lt (s : ByteArray) (f : Nat) : ∀ pos, ∀ r ∈ runesN s f pos, r ≤ 2147483647 := by
  induction f with
  | zero => intro pos r h; simp [runesN] at h
  | succ f ih =>
    intro pos r h
    rw [runesN] at h
    split at h
    · rcases List.mem_cons.1 h with rfl | h
      · exact decode_le s pos
      · exact ih _ r h
    · simp at h
/-- -1 if one of them is none -/
def lenS (s : ByteArray) : Int := if 65533 ∈ runesS s then -1 else ((runesS s).length : Int)
theorem lenS_bad {s : ByteArray} {P Q : List Nat} (h : runesS s = P ++ 65533 :: Q) : lenS s = -1 := by
  unfold lenS; rw [if_pos (by rw [h]; simp)]
theorem lenS_good {s : ByteArray} (h : ∀ r ∈ runesS s, r ≠ 65533) : lenS s = ((runesS s).length : Int) := by
  unfold lenS; rw [if_neg (fun h' => h _ h' rfl)]
theorem lenS_bd (s : ByteArray) : -1 ≤ lenS s ∧ lenS s ≤ s.size := by
  unfold lenS
  have := runesS_le s
  split <;> omega
theorem lenS_pos {s : ByteArray} (h : 0 ≤ lenS s) : (∀ r ∈ runesS s, r ≠ 65533) ∧ lenS s = ((runesS s).length : Int) := by
  by_cases hm : 65533 ∈ runesS s
  · unfold lenS at h; rw [if_pos hm] at h; omega
  · have hg : ∀ r ∈ runesS s, r ≠ 65533 := fun r hr e => hm (e ▸ hr)
    exact ⟨hg, lenS_good hg⟩
end Go.Proofs.Ythboiklcjpnhbaa
/- words in order: plain lemmas -/
namespace Go.Proofs.Ythboiklcjpnhbaa
set_option linter.unusedVariables false
set_option maxRecDepth 20000
abbrev Tx := ByteArray
instance (t : Tx) (ts : List Tx) : Decidable (t ∈ ts) := decidable_of_iff (ts.any (fun x => decide (x = t)) = true) (by simp)
def wordP (t : Tx) : Prop := 1 ≤ lenS t ∧ lenS t ≤ 12
instance (t : Tx) : Decidable (wordP t) := by unfold wordP; infer_instance
def SortedS (xs : List Tx) : Prop := xs.Pairwise fun a b => cmpS a b < 0
theorem cmpS_irrefl (a : Tx) : ¬ cmpS a a < 0 := by rw [cmpS_same]; omega
theorem cmpS_asymm {a b : Tx} (h : cmpS a b < 0) : ¬ cmpS b a < 0 := by rw [cmpS_swap]; omega
theorem cmpS_pos {a b : Tx} : 0 < cmpS a b ↔ cmpS b a < 0 := by rw [cmpS_swap a b]; omega
/-- two lists in order that have the same words are one -/
theorem sorted_unique : ∀ {xs ys : List Tx}, SortedS xs → SortedS ys → (∀ z, z ∈ xs ↔ z ∈ ys) → xs = ys
  | [], [], _, _, _ => rfl
  | [], y :: ys, _, _, h => by have := (h y).2 (List.mem_cons_self ..); simp at this
  | x :: xs, [], _, _, h => by have := (h x).1 (List.mem_cons_self ..); simp at this
  | x :: xs, y :: ys, hx, hy, h => by
    obtain ⟨hx1, hx2⟩ := List.pairwise_cons.1 hx
    obtain ⟨hy1, hy2⟩ := List.pairwise_cons.1 hy
    have hxy : x = y := by
      rcases List.mem_cons.1 ((h x).1 (List.mem_cons_self ..)) with e | e
      · exact e
      rcases List.mem_cons.1 ((h y).2 (List.mem_cons_self ..)) with e2 | e2
      · exact e2.symm
      · exact absurd (hy1 x e) (cmpS_asymm (hx1 y e2))
    subst hxy
    have : xs = ys := by
      refine sorted_unique hx2 hy2 fun z => ⟨fun hz => ?_, fun hz => ?_⟩
      · rcases List.mem_cons.1 ((h z).1 (List.mem_cons_of_mem _ hz)) with e | e
        · subst e; exact absurd (hx1 z hz) (cmpS_irrefl z)
        · exact e
      · rcases List.mem_cons.1 ((h z).2 (List.mem_cons_of_mem _ hz)) with e | e
        · subst e; exact absurd (hy1 z hz) (cmpS_irrefl z)
        · exact e
    rw [this]
/-- the document's way to put a word in -/
def putF (w : Tx) : Bool → List Tx → List Tx
  | b, [] => if b then [] else [w]
  | b, x :: xs => (if b = false ∧ 0 < cmpS x w then [w] else []) ++ x :: putF w (b || decide (0 ≤ cmpS x w)) xs
def putS (xs : List Tx) (w : Tx) : List Tx := putF w false xs
theorem putF_true (w : Tx) : ∀ xs, putF w true xs = xs
  | [] => rfl
  | x :: xs => by simp [putF, putF_true w xs]
theorem putS_cons (x w : Tx) (xs : List Tx) : putS (x :: xs) w = if cmpS x w < 0 then x :: putS xs w else if cmpS x w = 0 then x :: xs else w :: x :: xs := by
  unfold putS
  by_cases h : cmpS x w < 0
  · simp only [putF, h, if_true]
    rw [if_neg (by omega), decide_eq_false (by omega)]; rfl
  · rw [if_neg h]
    by_cases h2 : cmpS x w = 0
    · simp only [putF]
      rw [if_neg (by omega), if_pos h2, decide_eq_true (by omega), Bool.or_true, putF_true]; rfl
    · simp only [putF]
      rw [if_pos ⟨trivial, by omega⟩, if_neg h2, decide_eq_true (by omega), Bool.or_true, putF_true]; rfl
theorem mem_putS {z w : Tx} : ∀ {xs : List Tx}, z ∈ putS xs w ↔ z = w ∨ z ∈ xs
  | [] => by simp [putS, putF]
  | x :: xs => by
    rw [putS_cons]
    split
    · rw [List.mem_cons, mem_putS, List.mem_cons]
      constructor
      · rintro (h | h | h) <;> simp [h]
      · rintro (h | h | h) <;> simp [h]
    · split
      · rename_i h2
        have e := cmpS_zero.1 h2
        subst e
        simp
      · simp
theorem sorted_putS {w : Tx} : ∀ {xs : List Tx}, SortedS xs → SortedS (putS xs w)
  | [], _ => by simp [putS, putF, SortedS]
  | x :: xs, h => by
    obtain ⟨h1, h2⟩ := List.pairwise_cons.1 h
    rw [putS_cons]
    split
    · rename_i h3
      refine List.pairwise_cons.2 ⟨fun z hz => ?_, sorted_putS h2⟩
      rcases mem_putS.1 hz with e | e
      · rw [e]; exact h3
      · exact h1 z e
    · split
      · exact h
      · rename_i h3 h4
        have h5 : cmpS w x < 0 := by rw [cmpS_swap x w]; omega
        refine List.pairwise_cons.2 ⟨fun z hz => ?_, h⟩
        rcases List.mem_cons.1 hz with e | e
        · rw [e]; exact h5
        · exact cmpS_trans h5 (h1 z e)
def canonS (xs : List Tx) : List Tx := xs.foldl putS []
theorem foldl_put (xs : List Tx) : ∀ acc : List Tx, SortedS acc → SortedS (xs.foldl putS acc) ∧ ∀ z, z ∈ xs.foldl putS acc ↔ z ∈ acc ∨ z ∈ xs := by
  induction xs with
  | nil => intro acc h; exact ⟨h, by simp⟩
  | cons x xs ih =>
    intro acc h
    obtain ⟨h1, h2⟩ := ih (putS acc x) (sorted_putS h)
    refine ⟨h1, fun z => ?_⟩
    rw [List.foldl_cons, h2, mem_putS, List.mem_cons]
    constructor
    · rintro ((h | h) | h) <;> simp [h]
    · rintro (h | h | h) <;> simp [h]
theorem canon_sorted (xs : List Tx) : SortedS (canonS xs) := (foldl_put xs [] List.Pairwise.nil).1
theorem mem_canon {xs : List Tx} {z : Tx} : z ∈ canonS xs ↔ z ∈ xs := by
  have := (foldl_put xs [] List.Pairwise.nil).2 z
  simpa [canonS] using this
theorem canon_of {xs ys : List Tx} (h : SortedS ys) (hm : ∀ z, z ∈ ys ↔ z ∈ xs) : ys = canonS xs :=
  sorted_unique h (canon_sorted xs) fun z => by rw [hm, mem_canon]
theorem canon_same {xs : List Tx} (h : SortedS xs) : canonS xs = xs := (canon_of h fun _ => Iff.rfl).symm
theorem canon_ext {xs ys : List Tx} (h : ∀ z, z ∈ xs ↔ z ∈ ys) : canonS xs = canonS ys :=
  canon_of (canon_sorted xs) fun z => by rw [mem_canon, h]
theorem fold_canon (xs ys : List Tx) (h : SortedS xs) : ys.foldl putS xs = canonS (xs ++ ys) := by
  obtain ⟨h1, h2⟩ := foldl_put ys xs h
  exact canon_of h1 fun z => by rw [h2, List.mem_append]
theorem sorted_filter {xs : List Tx} (p : Tx → Bool) (h : SortedS xs) : SortedS (xs.filter p) := List.Pairwise.filter p h
/-- two lists in order together -/
def mergeL : List Tx → List Tx → List Tx
  | [], ys => ys
  | xs, [] => xs
  | x :: xs, y :: ys => if cmpS x y < 0 then x :: mergeL xs (y :: ys) else if cmpS x y = 0 then x :: mergeL xs ys else y :: mergeL (x :: xs) ys
  termination_by xs ys => xs.length + ys.length
theorem mergeL_nil_left (ys : List Tx) : mergeL [] ys = ys := by rw [mergeL]
theorem mergeL_nil_right (xs : List Tx) : mergeL xs [] = xs := by cases xs <;> simp [mergeL]
theorem mergeL_cons (x y : Tx) (xs ys : List Tx) : mergeL (x :: xs) (y :: ys) = if cmpS x y < 0 then x :: mergeL xs (y :: ys) else if cmpS x y = 0 then x :: mergeL xs ys else y :: mergeL (x :: xs) ys := by
  rw [mergeL]
theorem mergeL_mem (n : Nat) : ∀ xs ys : List Tx, xs.length + ys.length ≤ n → ∀ z, z ∈ mergeL xs ys ↔ z ∈ xs ∨ z ∈ ys := by
  induction n with
  | zero =>
    intro xs ys h z
    have h1 : xs = [] := List.eq_nil_of_length_eq_zero (by omega)
    have h2 : ys = [] := List.eq_nil_of_length_eq_zero (by omega)
    subst h1 h2; simp [mergeL_nil_left]
  | succ n ih =>
    intro xs ys h z
    cases xs with
    | nil => simp [mergeL_nil_left]
    | cons x xs =>
      cases ys with
      | nil => simp [mergeL_nil_right]
      | cons y ys =>
        simp only [List.length_cons] at h
        rw [mergeL_cons]
        split
        · rw [List.mem_cons, ih xs (y :: ys) (by simp; omega)]
          simp only [List.mem_cons]
          constructor
          · rintro (h | h | h) <;> simp [h]
          · rintro ((h | h) | h) <;> simp [h]
        · split
          · rename_i h2
            have e := cmpS_zero.1 h2
            subst e
            rw [List.mem_cons, ih xs ys (by omega)]
            simp only [List.mem_cons]
            constructor
            · rintro (h | h | h) <;> simp [h]
            · rintro ((h | h) | (h | h)) <;> simp [h]
          · rw [List.mem_cons, ih (x :: xs) ys (by simp; omega)]
            simp only [List.mem_cons]
            constructor
            · rintro (h | (h | h) | h) <;> simp [h]
            · rintro ((h | h) | (h | h)) <;> simp [h]
theorem mem_mergeL {xs ys : List Tx} {z : Tx} : z ∈ mergeL xs ys ↔ z ∈ xs ∨ z ∈ ys := mergeL_mem _ xs ys (Nat.le_refl _) z
theorem mergeL_sorted (n : Nat) : ∀ xs ys : List Tx, xs.length + ys.length ≤ n → SortedS xs → SortedS ys → SortedS (mergeL xs ys) := by
  induction n with
  | zero =>
    intro xs ys h _ _
    have h1 : xs = [] := List.eq_nil_of_length_eq_zero (by omega)
    have h2 : ys = [] := List.eq_nil_of_length_eq_zero (by omega)
    subst h1 h2; rw [mergeL_nil_left]; exact List.Pairwise.nil
  | succ n ih =>
    intro xs ys h hx hy
    cases xs with
    | nil => rw [mergeL_nil_left]; exact hy
    | cons x xs =>
      cases ys with
      | nil => rw [mergeL_nil_right]; exact hx
      | cons y ys =>
        simp only [List.length_cons] at h
        obtain ⟨hx1, hx2⟩ := List.pairwise_cons.1 hx
        obtain ⟨hy1, hy2⟩ := List.pairwise_cons.1 hy
        rw [mergeL_cons]
        split
        · rename_i h3
          refine List.pairwise_cons.2 ⟨fun z hz => ?_, ih xs (y :: ys) (by simp; omega) hx2 hy⟩
          rcases mem_mergeL.1 hz with e | e
          · exact hx1 z e
          · rcases List.mem_cons.1 e with e | e
            · rw [e]; exact h3
            · exact cmpS_trans h3 (hy1 z e)
        · split
          · rename_i h2
            have e := cmpS_zero.1 h2
            subst e
            refine List.pairwise_cons.2 ⟨fun z hz => ?_, ih xs ys (by omega) hx2 hy2⟩
            rcases mem_mergeL.1 hz with e | e
            · exact hx1 z e
            · exact hy1 z e
          · rename_i h3 h4
            have h5 : cmpS y x < 0 := by rw [cmpS_swap x y]; omega
            refine List.pairwise_cons.2 ⟨fun z hz => ?_, ih (x :: xs) ys (by simp; omega) hx hy2⟩
            rcases mem_mergeL.1 hz with e | e
            · rcases List.mem_cons.1 e with e | e
              · rw [e]; exact h5
              · exact cmpS_trans h5 (hx1 z e)
            · exact hy1 z e
theorem mergeL_canon {xs ys : List Tx} (hx : SortedS xs) (hy : SortedS ys) : mergeL xs ys = canonS (xs ++ ys) :=
  canon_of (mergeL_sorted _ xs ys (Nat.le_refl _) hx hy) fun z => by rw [mem_mergeL, List.mem_append]
theorem mergeL_len (n : Nat) : ∀ xs ys : List Tx, xs.length + ys.length ≤ n → (mergeL xs ys).length ≤ xs.length + ys.length := by
  induction n with
  | zero =>
    intro xs ys h
    have h1 : xs = [] := List.eq_nil_of_length_eq_zero (by omega)
    have h2 : ys = [] := List.eq_nil_of_length_eq_zero (by omega)
    subst h1 h2; rw [mergeL_nil_left]; simp
  | succ n ih =>
    intro xs ys h
    cases xs with
    | nil => rw [mergeL_nil_left]; omega
    | cons x xs =>
      cases ys with
      | nil => rw [mergeL_nil_right]; omega
      | cons y ys =>
        simp only [List.length_cons] at h
        rw [mergeL_cons]
        split
        · have := ih xs (y :: ys) (by simp; omega); simp at this ⊢; omega
        · split
          · have := ih xs ys (by omega); simp at this ⊢; omega
          · have := ih (x :: xs) ys (by simp; omega); simp at this ⊢; omega
/-- where a word stands -/
def atN (xs : List Tx) (w : Tx) : Nat := xs.countP fun x => decide (cmpS x w < 0)
theorem atN_le (xs : List Tx) (w : Tx) : atN xs w ≤ xs.length := List.countP_le_length
/-- which lists are good -/
def adjP : List Tx → Prop
  | x :: y :: l => cmpS x y < 0 ∧ adjP (y :: l)
  | _ => True
theorem adj_sorted : ∀ {l : List Tx}, adjP l ↔ SortedS l
  | [] => by simp [adjP, SortedS]
  | [x] => by simp [adjP, SortedS]
  | x :: y :: l => by
    have ih := adj_sorted (l := y :: l)
    constructor
    · rintro ⟨h1, h2⟩
      have h3 := ih.1 h2
      refine List.pairwise_cons.2 ⟨fun z hz => ?_, h3⟩
      rcases List.mem_cons.1 hz with e | e
      · rw [e]; exact h1
      · exact cmpS_trans h1 ((List.pairwise_cons.1 h3).1 z e)
    · intro h
      obtain ⟨h1, h2⟩ := List.pairwise_cons.1 h
      exact ⟨h1 y (List.mem_cons_self ..), ih.2 h2⟩
theorem adj_iff (l : List Tx) : SortedS l ↔ ∀ i, i + 1 < l.length → cmpS (l.getD i ByteArray.empty) (l.getD (i + 1) ByteArray.empty) < 0 := by
  rw [← adj_sorted]
  induction l with
  | nil => simp [adjP]
  | cons x l ih =>
    cases l with
    | nil => simp [adjP]
    | cons y l =>
      constructor
      · rintro ⟨h1, h2⟩ i hi
        cases i with
        | zero => simpa using h1
        | succ i =>
          have := (ih.1 h2) i (by simpa using hi)
          simpa using this
      · intro h
        refine ⟨by simpa using h 0 (by simp), ih.2 fun i hi => ?_⟩
        have := h (i + 1) (by simpa using hi)
        simpa using this
instance (l : List Tx) : Decidable (SortedS l) := by unfold SortedS; infer_instance
def goodV (l : List Tx) : Int := if 60 < l.length then 3 else if ∃ t ∈ l, ¬ wordP t then 6 else if SortedS l then 0 else 7
theorem goodV_zero {l : List Tx} (h : goodV l = 0) : l.length ≤ 60 ∧ (∀ t ∈ l, wordP t) ∧ SortedS l := by
  unfold goodV at h
  split at h
  · omega
  · split at h
    · omega
    · split at h
      · rename_i h1 h2 h3
        exact ⟨by omega, fun t ht => Classical.byContradiction fun k => h2 ⟨t, ht, k⟩, h3⟩
      · omega
end Go.Proofs.Ythboiklcjpnhbaa
/- lists of texts in memory; two held against each other -/
namespace Go.Proofs.Ythboiklcjpnhbaa
open Go.RowKit
set_option linter.unusedVariables false
set_option maxRecDepth 20000
def strsV (ts : List Tx) : List Value := ts.map Value.string
def HoldsT (w : World) (a : Option Addr) (n : Nat) (ts : List Tx) : Prop := HoldsV w a n (strsV ts)
theorem HoldsT.len {w : World} {a : Option Addr} {n : Nat} {ts : List Tx} (h : HoldsT w a n ts) : ts.length = n := by simpa [strsV] using h.1
theorem getD_map_str (ts : List Tx) (i : Nat) (hi : i < ts.length) : (strsV ts).getD i undef = .string (ts.getD i ByteArray.empty) := by
  simp [strsV, List.getD_eq_getElem?_getD, hi]
theorem HoldsT.at {w : World} {a : Option Addr} {n : Nat} {ts : List Tx} (h : HoldsT w a n ts) (h0 : 0 < n) : ∃ b o, a = some ⟨b, o, none⟩ ∧ ∀ i, i < n → w.cell? ⟨b, o + i, none⟩ = some (.string (ts.getD i ByteArray.empty)) := by
  obtain ⟨b, o, ha, hc⟩ := h.2 h0
  exact ⟨b, o, ha, fun i hi => by rw [hc i hi, getD_map_str ts i (by rw [h.len]; exact hi)]⟩
theorem HoldsT.of {w : World} {b o n : Nat} {ts : List Tx} (hl : ts.length = n) (hc : ∀ i, i < n → w.cell? ⟨b, o + i, none⟩ = some (.string (ts.getD i ByteArray.empty))) : HoldsT w (some ⟨b, o, none⟩) n ts :=
  ⟨by simpa [strsV] using hl, fun _ => ⟨b, o, rfl, fun i hi => by rw [hc i hi, getD_map_str ts i (by omega)]⟩⟩
theorem HoldsT.nil (w : World) (a : Option Addr) : HoldsT w a 0 [] := ⟨rfl, fun h => absurd h (by omega)⟩
theorem HoldsT.below {w w' : World} {a : Option Addr} {n : Nat} {ts : List Tx} (h : HoldsT w a n ts) (hb : Below w.heap.size w w') : HoldsT w' a n ts := HoldsV.below h hb
theorem HoldsT.drop {w : World} {b o n : Nat} {ts : List Tx} (h : HoldsT w (some ⟨b, o, none⟩) n ts) (j : Nat) (hj : j ≤ n) : HoldsT w (some ⟨b, o + j, none⟩) (n - j) (ts.drop j) := by
  refine HoldsT.of (by rw [List.length_drop, h.len]) fun i hi => ?_
  obtain ⟨b', o', ha, hc⟩ := h.at (by omega)
  cases ha
  rw [Nat.add_assoc, hc (j + i) (by omega)]
  simp [List.getD_eq_getElem?_getD]
theorem HoldsT.own {w : World} {B : Nat} {e : TypeId} {a : Option Addr} {n c : Nat} {ts : List Tx} (h : w.ownsRow B e 1 (.slice a n c) n (strsV ts)) : HoldsT w a n ts := owns_holds h
theorem HoldsT.spared {w w' : World} {a : Option Addr} {n : Nat} {ts : List Tx} {row : Option Nat} (h : HoldsT w a n ts) (hg : w.grownBy w' row) (hne : ∀ ad, a = some ad → some ad.block ≠ row) : HoldsT w' a n ts := by
  refine ⟨h.1, fun h0 => ?_⟩
  obtain ⟨b, o, ha, hc⟩ := h.2 h0
  refine ⟨b, o, ha, fun i hi => ?_⟩
  have h1 := hc i hi
  have hlt := lt_of_cell h1
  rw [← h1]
  exact World.cell?_of_block (w := w) (a := ⟨b, o + i, none⟩) (hg.block b hlt (hne _ ha))
theorem strsV_one (ts : List Tx) : ∀ u ∈ strsV ts, u.oneCell' = true := by
  intro u hu; obtain ⟨t, _, rfl⟩ := List.mem_map.1 hu; rfl
theorem strsV_snoc (ts : List Tx) (t : Tx) : strsV (ts ++ [t]) = strsV ts ++ [Value.string t] := by simp [strsV]
theorem str_same (x : Tx) : (x.toList == x.toList) = true := by simp
theorem str_other {x y : Tx} (h : x ≠ y) : (x.toList == y.toList) = false := by
  rw [beq_eq_false_iff_ne]; exact fun e => h (toList_inj e)
end Go.Proofs.Ythboiklcjpnhbaa
/- lists of keys (a number and a text each) -/
namespace Go.Proofs.Ythboiklcjpnhbaa
open Go.ChangeShapes Go.WideShapes Go.ChangeAt Go.RowKit
set_option linter.unusedVariables false
set_option maxRecDepth 20000
abbrev KV := Int × Tx
def k0 : KV := (0, ByteArray.empty)
def HoldsK (w : World) (a : Option Addr) (n : Nat) (ks : List KV) : Prop := ks.length = n ∧ (0 < n → ∃ b o, a = some ⟨b, o, none⟩ ∧ ∀ i, i < n → w.cell? ⟨b, o + i * 2, none⟩ = some (.int .i64 (ks.getD i k0).1) ∧ w.cell? ⟨b, o + i * 2 + 1, none⟩ = some (.string (ks.getD i k0).2))
theorem HoldsK.len {w : World} {a : Option Addr} {n : Nat} {ks : List KV} (h : HoldsK w a n ks) : ks.length = n := h.1
theorem HoldsK.at {w : World} {a : Option Addr} {n : Nat} {ks : List KV} (h : HoldsK w a n ks) (h0 : 0 < n) : ∃ b o, a = some ⟨b, o, none⟩ ∧ ∀ i, i < n → w.cell? ⟨b, o + i * 2, none⟩ = some (.int .i64 (ks.getD i k0).1) ∧ w.cell? ⟨b, o + i * 2 + 1, none⟩ = some (.string (ks.getD i k0).2) := h.2 h0
theorem HoldsK.nil (w : World) (a : Option Addr) : HoldsK w a 0 [] := ⟨rfl, fun h => absurd h (by omega)⟩
theorem HoldsK.below {w w' : World} {a : Option Addr} {n : Nat} {ks : List KV} (h : HoldsK w a n ks) (hb : Below w.heap.size w w') : HoldsK w' a n ks := by
  refine ⟨h.1, fun h0 => ?_⟩
  obtain ⟨b, o, ha, hc⟩ := h.2 h0
  have hlt := lt_of_cell (hc 0 h0).1
  refine ⟨b, o, ha, fun i hi => ?_⟩
  rw [hb.cell (p := ⟨b, o + i * 2, none⟩) hlt, hb.cell (p := ⟨b, o + i * 2 + 1, none⟩) hlt]
  exact hc i hi
theorem getD_memK (zs : List KV) (j : Nat) (h : j < zs.length) : zs.getD j k0 ∈ zs := by
  rw [List.getD_eq_getElem?_getD, List.getElem?_eq_getElem h]; simp
def keyV (k : KV) : Value := .agg #[.int .i64 k.1, .string k.2]
def i64okK (z : Int) : Prop := -9223372036854775808 ≤ z ∧ z ≤ 9223372036854775807
def KeyOk (k : KV) : Prop := i64okK k.1 ∧ k.2.size ≤ 9223372036854775807
theorem cellsK_int : Try.prog.cellsOf 3 = 1 := by kernel_rfl
theorem cellsK_str : Try.prog.cellsOf 9 = 1 := by kernel_rfl
theorem pair_of {H : Type} {enc : TypeId × Value → H} {w : World} {base : Nat} {spare : Nat → Bool} {held : Bool} {fuel : Nat} {t : TypeId} {fs : Array Field} {f0 f1 : Field} {cs : List Value} {x : DataW H × List MemPlace}
    (ht : Try.prog.underlying t = some (.struct fs)) (hc : Try.prog.cellsOf t = 2) (hf0 : fs[0]? = some f0) (hf1 : fs[1]? = some f1) (g0 : f0.type = 3 ∧ f0.offset = 0) (g1 : f1.type = 9 ∧ f1.offset = 1)
    (h : DataW.trod enc Try.prog w base spare held fuel t cs = some x) : ∃ k : KV, KeyOk k ∧ cs = [.int .i64 k.1, .string k.2] := by
  obtain ⟨hl, n, hf⟩ := struct_cells ht h
  rw [hc] at hl
  obtain ⟨c0, c1, rfl⟩ : ∃ c0 c1, cs = [c0, c1] := list2 hl
  obtain ⟨y0, z0⟩ := hf 0 _ hf0
  obtain ⟨y1, z1⟩ := hf 1 _ hf1
  rw [g0.1, g0.2] at z0
  rw [g1.1, g1.2] at z1
  obtain ⟨q1, h1, _, b1⟩ := DataW.trod_int Try.underlying3 z0
  obtain ⟨s1, h2, _, b2⟩ := DataW.trod_string Try.underlying9 z1
  simp [cellsK_int, cellsK_str] at h1 h2
  subst h1 h2
  exact ⟨(q1, s1), ⟨i64_of_wf b1, by unfold maxLen at b2; exact b2⟩, rfl⟩
theorem open_pairs_arg {H : Type} {enc : TypeId × Value → H} {W : World} {base : Nat} {v : Value} {d : DataW H} {p : List MemPlace} {t e : TypeId} {fs : Array Field} {f0 f1 : Field}
    (ht : Try.prog.underlying t = some (.slice e)) (he : Try.prog.underlying e = some (.struct fs)) (hc : Try.prog.cellsOf e = 2) (hf0 : fs[0]? = some f0) (hf1 : fs[1]? = some f1) (g0 : f0.type = 3 ∧ f0.offset = 0) (g1 : f1.type = 9 ∧ f1.offset = 1)
    (o : Value.okWide Try.prog W .any base t v) (h : DataW.Trod enc Try.prog W 0 (fun _ => true) true t v d p) :
    ∃ a n cap ks, v = .slice a n cap ∧ HoldsK W a n ks ∧ (a = none → n = 0 ∧ cap = 0) ∧ n ≤ cap ∧ n ≤ 9223372036854775807 ∧ ∀ k ∈ ks, KeyOk k := by
  obtain ⟨a, n, cap, R, rfl, hnil, h1, h2, hg, hc⟩ := open_rows_arg ht hc (by omega) (fun cs => ∃ k : KV, KeyOk k ∧ cs = [.int .i64 k.1, .string k.2]) (fun _ _ _ h => pair_of he hc hf0 hf1 g0 g1 h) o h
  have hx : ∀ i, ∃ k : KV, i < n → KeyOk k ∧ R i = [.int .i64 k.1, .string k.2] := fun i => by
    by_cases hi : i < n
    · obtain ⟨x, h3⟩ := hg i hi
      exact ⟨x, fun _ => h3⟩
    · exact ⟨k0, fun h => absurd h hi⟩
  have hget : ∀ i, i < n → ((List.range n).map fun i => (hx i).choose).getD i k0 = (hx i).choose := fun i hi => by simp [List.getD_eq_getElem?_getD, hi]
  refine ⟨a, n, cap, (List.range n).map fun i => (hx i).choose, rfl, ⟨by simp, fun h0 => ?_⟩, hnil, h1, by unfold maxLen at h2; omega, fun k hk => ?_⟩
  · obtain ⟨b, o, ha, hcell⟩ := hc h0
    refine ⟨b, o, ha, fun i hi => ?_⟩
    have e := ((hx i).choose_spec hi).2
    have c0 := hcell i hi 0 (by omega)
    have c1 := hcell i hi 1 (by omega)
    rw [e] at c0 c1
    rw [hget i hi]
    exact ⟨by simpa using c0, by simpa using c1⟩
  · obtain ⟨i, hi, rfl⟩ := List.mem_map.1 hk
    exact ((hx i).choose_spec (by simpa using hi)).1
theorem open_pair {H : Type} {enc : TypeId × Value → H} {w : World} {base : Nat} {spare : Nat → Bool} {held : Bool} {r : Reach} {b0 : Nat} {v : Value} {d : DataW H} {p : List MemPlace} {e : TypeId} {fs : Array Field} {f0 f1 : Field}
    (he : Try.prog.underlying e = some (.struct fs)) (hc : Try.prog.cellsOf e = 2) (hf0 : fs[0]? = some f0) (hf1 : fs[1]? = some f1) (g0 : f0.type = 3 ∧ f0.offset = 0) (g1 : f1.type = 9 ∧ f1.offset = 1)
    (hv : Value.okWide Try.prog w r b0 e v) (h : DataW.Trod enc Try.prog w base spare held e v d p) : ∃ k : KV, KeyOk k ∧ v = keyV k := by
  obtain ⟨cs, rfl, hsz⟩ := okWide_struct he hv
  obtain ⟨fuel, hf⟩ := h
  obtain ⟨x, hx, h1⟩ := pair_of he hc hf0 hf1 g0 g1 hf
  refine ⟨x, hx, ?_⟩
  unfold keyV
  congr 1
  apply Array.toList_inj.1
  simpa [Value.cells] using h1
/-! the order of keys -/
def ordK (a b : KV) : Int := if a.1 < b.1 then -1 else if b.1 < a.1 then 1 else cmpS a.2 b.2
def lessK (a b : KV) : Bool := decide (ordK a b < 0)
theorem ordK_bd (a b : KV) : ordK a b = -1 ∨ ordK a b = 0 ∨ ordK a b = 1 := by
  unfold ordK; split
  · simp
  · split
    · simp
    · exact cmpS_bd _ _
theorem ordK_swap (a b : KV) : ordK b a = - ordK a b := by
  unfold ordK
  rcases Int.lt_trichotomy a.1 b.1 with h | h | h
  · rw [if_pos h, if_neg (by omega), if_pos h]; rfl
  · rw [if_neg (by omega), if_neg (by omega), if_neg (by omega), if_neg (by omega), cmpS_swap]
  · rw [if_pos h, if_neg (by omega), if_pos h]
theorem ordK_lt {a b : KV} : ordK a b < 0 ↔ a.1 < b.1 ∨ (a.1 = b.1 ∧ cmpS a.2 b.2 < 0) := by
  unfold ordK
  rcases Int.lt_trichotomy a.1 b.1 with h | h | h
  · rw [if_pos h]; simp [h]
  · rw [if_neg (by omega), if_neg (by omega)]
    constructor
    · intro k; exact Or.inr ⟨h, k⟩
    · rintro (k | k)
      · omega
      · exact k.2
  · rw [if_neg (by omega), if_pos h]
    constructor
    · intro k; omega
    · rintro (k | k) <;> omega
theorem ordK_zero {a b : KV} : ordK a b = 0 ↔ a = b := by
  unfold ordK
  rcases Int.lt_trichotomy a.1 b.1 with h | h | h
  · rw [if_pos h]; constructor
    · intro k; omega
    · intro k; rw [k] at h; omega
  · rw [if_neg (by omega), if_neg (by omega), cmpS_zero]
    exact ⟨fun k => Prod.ext h k, fun k => by rw [k]⟩
  · rw [if_neg (by omega), if_pos h]; constructor
    · intro k; omega
    · intro k; rw [k] at h; omega
theorem ordK_trans {a b c : KV} (h : ordK a b < 0) (k : ordK b c < 0) : ordK a c < 0 := by
  rw [ordK_lt] at *
  rcases h with h | ⟨h, h'⟩ <;> rcases k with k | ⟨k, k'⟩
  · exact Or.inl (by omega)
  · exact Or.inl (by omega)
  · exact Or.inl (by omega)
  · exact Or.inr ⟨by omega, cmpS_trans h' k'⟩
theorem ordK_irrefl (a : KV) : ¬ ordK a a < 0 := by rw [ordK_zero.2 rfl]; omega
/-- not above, one behind the other -/
theorem ordK_le_trans {a b c : KV} (h : ¬ ordK b a < 0) (k : ¬ ordK c b < 0) : ¬ ordK c a < 0 := by
  intro h3
  rcases ordK_bd a b with e | e | e
  · exact k (ordK_trans h3 (by omega))
  · rw [ordK_zero.1 e] at h3; exact k h3
  · rw [ordK_swap] at h; omega
end Go.Proofs.Ythboiklcjpnhbaa
/- a slice in a cell of an argument, opened -/
namespace Go.Proofs.Ythboiklcjpnhbaa
open Go.ChangeShapes Go.WideShapes Go.ChangeAt Go.RowKit Go.Deep
set_option linter.unusedVariables false
set_option maxRecDepth 20000
theorem open_rows_cell {H : Type} {enc : TypeId × Value → H} {P : Program} {W : World} {t e : TypeId} {k : Nat} {c : Value} {fuel : Nat} {y : DataW H × List MemPlace}
    (ht : P.underlying t = some (.slice e)) (hc : P.cellsOf e = k) (hk : 0 < k) (good : List Value → Prop)
    (hgood : ∀ m cs y, DataW.trod enc P W 0 (fun _ => true) true m e cs = some y → good cs)
    (hf : DataW.trod enc P W 0 (fun _ => true) true fuel t [c] = some y) :
    ∃ (a : Option Addr) (n cap : Nat) (R : Nat → List Value), c = .slice a n cap ∧ (a = none → n = 0 ∧ cap = 0) ∧ n ≤ cap ∧ cap ≤ maxLen ∧ (∀ i, i < n → good (R i)) ∧
      (0 < n → ∃ b o, a = some ⟨b, o, none⟩ ∧ ∀ i, i < n → ∀ j, j < k → W.cell? ⟨b, o + i * k + j, none⟩ = (R i)[j]?) := by
  rcases open_slice ht hf with ⟨hcs, _⟩ | ⟨x, len, cap, m, n, D, Pl, hcs, _, hl, hm, hmm, _, hx⟩
  · obtain rfl : c = .slice none 0 0 := by simpa using hcs
    exact ⟨none, 0, 0, fun _ => [], rfl, fun _ => ⟨rfl, rfl⟩, Nat.le_refl _, by unfold maxLen; omega, by simp, by simp⟩
  · obtain rfl : c = .slice (some x) len cap := by simpa using hcs
    simp at hmm
    subst hmm
    rw [hc] at hx
    have hR : ∀ i, ∃ cs' : List Value, i < m → W.cells? 0 (x.add (i * k)) k = some cs' ∧ good cs' := fun i => by
      by_cases hi : i < m
      · obtain ⟨cs', h1, h2⟩ := hx i hi
        exact ⟨cs', fun _ => ⟨h1, hgood _ _ _ h2⟩⟩
      · exact ⟨[], fun h => absurd h hi⟩
    refine ⟨some x, len, m, fun i => (hR i).choose, rfl, (fun h => by cases h), hl, hm, fun i hi => ((hR i).choose_spec (by omega)).2, fun h0 => ?_⟩
    have h1 := fun i (hi : i < m) => (World.cells?_some ((hR i).choose_spec hi).1)
    obtain ⟨b, off, spot⟩ := x
    have hspot : spot = none := by
      have h2 := (h1 0 (by omega)).2.2 0 hk
      have h3 := (h1 0 (by omega)).2.1
      have h4 : ((hR 0).choose)[0]? = some (((hR 0).choose)[0]'(by omega)) := List.getElem?_eq_getElem _
      rw [h4] at h2
      simpa [Addr.add] using World.cell?_spot h2
    subst hspot
    refine ⟨b, off, rfl, fun i hi j hj => ?_⟩
    have h2 := (h1 i (by omega)).2.2 j hj
    rw [← h2, Go.WideShapes.add_plain, Go.WideShapes.add_plain]
end Go.Proofs.Ythboiklcjpnhbaa
/- a slice in a field of a struct that is an argument, opened -/
namespace Go.Proofs.Ythboiklcjpnhbaa
open Go.ChangeShapes Go.WideShapes Go.ChangeAt Go.RowKit Go.Deep
set_option linter.unusedVariables false
set_option maxRecDepth 20000
theorem open_pairs_cell {H : Type} {enc : TypeId × Value → H} {W : World} {c : Value} {fuel : Nat} {y : DataW H × List MemPlace} {t e : TypeId} {fs : Array Field} {f0 f1 : Field}
    (ht : Try.prog.underlying t = some (.slice e)) (he : Try.prog.underlying e = some (.struct fs)) (hc : Try.prog.cellsOf e = 2) (hf0 : fs[0]? = some f0) (hf1 : fs[1]? = some f1) (g0 : f0.type = 3 ∧ f0.offset = 0) (g1 : f1.type = 9 ∧ f1.offset = 1)
    (hf : DataW.trod enc Try.prog W 0 (fun _ => true) true fuel t [c] = some y) :
    ∃ a n cap ks, c = .slice a n cap ∧ HoldsK W a n ks ∧ (a = none → n = 0 ∧ cap = 0) ∧ n ≤ cap ∧ n ≤ 9223372036854775807 ∧ ∀ k ∈ ks, KeyOk k := by
  obtain ⟨a, n, cap, R, rfl, hnil, h1, h2, hg, hc⟩ := open_rows_cell ht hc (by omega) (fun cs => ∃ k : KV, KeyOk k ∧ cs = [.int .i64 k.1, .string k.2]) (fun _ _ _ h => pair_of he hc hf0 hf1 g0 g1 h) hf
  have hx : ∀ i, ∃ k : KV, i < n → KeyOk k ∧ R i = [.int .i64 k.1, .string k.2] := fun i => by
    by_cases hi : i < n
    · obtain ⟨x, h3⟩ := hg i hi
      exact ⟨x, fun _ => h3⟩
    · exact ⟨k0, fun h => absurd h hi⟩
  have hget : ∀ i, i < n → ((List.range n).map fun i => (hx i).choose).getD i k0 = (hx i).choose := fun i hi => by simp [List.getD_eq_getElem?_getD, hi]
  refine ⟨a, n, cap, (List.range n).map fun i => (hx i).choose, rfl, ⟨by simp, fun h0 => ?_⟩, hnil, h1, by unfold maxLen at h2; omega, fun k hk => ?_⟩
  · obtain ⟨b, o, ha, hcell⟩ := hc h0
    refine ⟨b, o, ha, fun i hi => ?_⟩
    have e := ((hx i).choose_spec hi).2
    have c0 := hcell i hi 0 (by omega)
    have c1 := hcell i hi 1 (by omega)
    rw [e] at c0 c1
    rw [hget i hi]
    exact ⟨by simpa using c0, by simpa using c1⟩
  · obtain ⟨i, hi, rfl⟩ := List.mem_map.1 hk
    exact ((hx i).choose_spec (by simpa using hi)).1
end Go.Proofs.Ythboiklcjpnhbaa
/- contracts: cmp.Compare of numbers, cmp.Or; which of two keys is ahead -/
namespace Go.Proofs.Ythboiklcjpnhbaa
open Go.RowKit
set_option linter.unusedVariables false
set_option maxRecDepth 20000
theorem isNaNI_any (x : Int) (w : World) : Calls Try.prog 110 #[.int .i64 x] w fun e w' => e = .returned (.bool false) ∧ w = w' := by
  go_enter Try.func110, Try.ntmps110
  go_wp2
  go_ret
  exact ⟨ret_bool (by simp), rfl⟩
def cmpZ (x y : Int) : Int := if x < y then -1 else if y < x then 1 else 0
theorem compareZ_any (x y : Int) (w : World) : Calls Try.prog 106 #[.int .i64 x, .int .i64 y] w fun e w' => e = .returned (.int .i64 (cmpZ x y)) ∧ w = w' := by
  rcases Int.lt_trichotomy x y with h | h | h
  · have hv : cmpZ x y = -1 := by unfold cmpZ; rw [if_pos h]
    have x1 : decide (x < y) = true := decide_eq_true h
    rw [hv]
    go_enter Try.func106, Try.ntmps106
    go_wp2_with fail
    refine (isNaNI_any x _).mono ?_
    rintro e w' ⟨rfl, rfl⟩
    go_wp2_with fail
    refine (isNaNI_any y _).mono ?_
    rintro e w' ⟨rfl, rfl⟩
    go_wp2_with fail
    go_ret
    exact ⟨rfl, rfl⟩
  · subst h
    have hv : cmpZ x x = 0 := by unfold cmpZ; rw [if_neg (by omega), if_neg (by omega)]
    rw [hv]
    go_enter Try.func106, Try.ntmps106
    go_wp2_with fail
    refine (isNaNI_any x _).mono ?_
    rintro e w' ⟨rfl, rfl⟩
    go_wp2_with fail
    refine (isNaNI_any x _).mono ?_
    rintro e w' ⟨rfl, rfl⟩
    go_wp2_with fail
    go_ret
    exact ⟨rfl, rfl⟩
  · have hv : cmpZ x y = 1 := by unfold cmpZ; rw [if_neg (by omega), if_pos h]
    have x1 : decide (x < y) = false := decide_eq_false (by omega)
    have x2 : decide (x > y) = true := decide_eq_true h
    rw [hv]
    go_enter Try.func106, Try.ntmps106
    go_wp2_with fail
    refine (isNaNI_any x _).mono ?_
    rintro e w' ⟨rfl, rfl⟩
    go_wp2_with fail
    refine (isNaNI_any y _).mono ?_
    rintro e w' ⟨rfl, rfl⟩
    go_wp2_with fail
    go_ret
    exact ⟨rfl, rfl⟩
def orZ (x y : Int) : Int := if x = 0 then y else x
theorem or_any (b o : Nat) (x y : Int) (w : World) (h0 : w.cell? ⟨b, o, none⟩ = some (.int .i64 x)) (h1 : w.cell? ⟨b, o + 1, none⟩ = some (.int .i64 y)) :
    Calls Try.prog 105 #[.slice (some ⟨b, o, none⟩) 2 2] w fun e w' => e = .returned (.int .i64 (orZ x y)) ∧ w = w' := by
  by_cases hx : x = 0
  · subst hx
    have hv : orZ 0 y = y := rfl
    have x1 : ((0 : Int) != 0) = false := rfl
    rw [hv]
    by_cases hy : y = 0
    · subst hy
      go_enter Try.func105, Try.ntmps105
      go_wp2_with fail
      go_loop [8] (fun iv => ∃ i : Nat, i ≤ 2 ∧ iv = .int .i64 i) (fun iv => 2 - (intOf iv).toNat)
      case atStart => exact ⟨0, by omega, rfl⟩
      case round =>
        obtain ⟨i, hi, rfl⟩ := hrel
        have hc : i = 0 ∨ i = 1 ∨ i = 2 := by omega
        rcases hc with rfl | rfl | rfl
        · go_wp2_with fail
          go_round
          case rel => exact ⟨1, by omega, by go_num⟩
          case measure => simp [intOf]
        · go_wp2_with fail
          go_round
          case rel => exact ⟨2, by omega, by go_num⟩
          case measure => simp [intOf]
        · go_wp2_with fail
          go_ret
          exact ⟨rfl, rfl⟩
    · have x2 : (y != 0) = true := by simp [hy]
      go_enter Try.func105, Try.ntmps105
      go_wp2_with fail
      go_loop [8] (fun iv => ∃ i : Nat, i ≤ 1 ∧ iv = .int .i64 i) (fun iv => 2 - (intOf iv).toNat)
      case atStart => exact ⟨0, by omega, rfl⟩
      case round =>
        obtain ⟨i, hi, rfl⟩ := hrel
        have hc : i = 0 ∨ i = 1 := by omega
        rcases hc with rfl | rfl
        · go_wp2_with fail
          go_round
          case rel => exact ⟨1, by omega, by go_num⟩
          case measure => simp [intOf]
        · go_wp2_with fail
          go_ret
          exact ⟨rfl, rfl⟩
  · have x2 : (x != 0) = true := by simp [hx]
    have hv : orZ x y = x := if_neg hx
    rw [hv]
    go_enter Try.func105, Try.ntmps105
    go_wp2_with fail
    go_loop [8] (fun iv => iv = .int .i64 0) (fun iv => 0)
    case atStart => rfl
    case round =>
      obtain rfl := hrel
      go_wp2_with fail
      go_ret
      exact ⟨rfl, rfl⟩
theorem ordK_or (a b : KV) : ordK a b = orZ (cmpZ a.1 b.1) (cmpS a.2 b.2) := by
  unfold ordK orZ cmpZ
  rcases Int.lt_trichotomy a.1 b.1 with h | h | h
  · simp [h]
  · have h1 : ¬ a.1 < b.1 := by omega
    have h2 : ¬ b.1 < a.1 := by omega
    simp [h1, h2]
  · have h1 : ¬ a.1 < b.1 := by omega
    simp [h, h1]
end Go.Proofs.Ythboiklcjpnhbaa
/- items in order: the plain mathematics -/
namespace Go.Proofs.Ythboiklcjpnhbaa
set_option linter.unusedVariables false
set_option maxRecDepth 20000
/-- not behind -/
def leK (a b : KV) : Prop := ¬ ordK b a < 0
theorem leK_refl (a : KV) : leK a a := ordK_irrefl a
theorem leK_trans {a b c : KV} (h : leK a b) (k : leK b c) : leK a c := ordK_le_trans h k
theorem leK_of_lt {a b : KV} (h : ordK a b < 0) : leK a b := by unfold leK; rw [ordK_swap]; omega
theorem leK_total (a b : KV) : leK a b ∨ leK b a := by unfold leK; have := ordK_swap a b; omega
theorem leK_asymm {a b : KV} (h : leK a b) (k : leK b a) : a = b := by
  unfold leK at h k; have := ordK_swap a b; exact ordK_zero.1 (by omega)
theorem leK_iff {a b : KV} : leK a b ↔ a = b ∨ ordK a b < 0 := by
  constructor
  · intro h
    by_cases e : ordK a b < 0
    · exact Or.inr e
    · exact Or.inl (leK_asymm h e)
  · rintro (h | h)
    · subst h; exact leK_refl a
    · exact leK_of_lt h
theorem ordK_of_le_of_lt {a b c : KV} (h : leK a b) (k : ordK b c < 0) : ordK a c < 0 := by
  rcases leK_iff.1 h with rfl | h
  · exact k
  · exact ordK_trans h k
theorem ordK_of_lt_of_le {a b c : KV} (h : ordK a b < 0) (k : leK b c) : ordK a c < 0 := by
  rcases leK_iff.1 k with rfl | k
  · exact h
  · exact ordK_trans h k
def SortedK (l : List KV) : Prop := l.Pairwise leK
theorem sortedK_unique : ∀ {xs ys : List KV}, SortedK xs → SortedK ys → xs.Perm ys → xs = ys
  | [], ys, _, _, p => (List.perm_nil.1 p.symm).symm
  | x :: xs, [], _, _, p => absurd (List.perm_nil.1 p) (by simp)
  | x :: xs, y :: ys, hx, hy, p => by
    have h1 : x = y := by
      have hy' : y ∈ x :: xs := p.mem_iff.2 (by simp)
      have hx' : x ∈ y :: ys := p.mem_iff.1 (by simp)
      rcases List.mem_cons.1 hy' with e | e
      · exact e.symm
      · rcases List.mem_cons.1 hx' with e2 | e2
        · exact e2
        · exact leK_asymm ((List.pairwise_cons.1 hx).1 y e) ((List.pairwise_cons.1 hy).1 x e2)
    subst h1
    rw [sortedK_unique (List.pairwise_cons.1 hx).2 (List.pairwise_cons.1 hy).2 (List.perm_cons x |>.1 p)]
/-- put in ahead of the first that it is ahead of -/
def putK (x : KV) : List KV → List KV
  | [] => [x]
  | y :: l => if ordK x y < 0 then x :: y :: l else y :: putK x l
theorem putK_perm (x : KV) : ∀ l, (putK x l).Perm (x :: l)
  | [] => List.Perm.refl _
  | y :: l => by
    unfold putK; split
    · exact List.Perm.refl _
    · exact ((putK_perm x l).cons y).trans (List.Perm.swap x y l)
theorem putK_sorted (x : KV) : ∀ l, SortedK l → SortedK (putK x l)
  | [], _ => by simp [putK, SortedK]
  | y :: l, h => by
    obtain ⟨h1, h2⟩ := List.pairwise_cons.1 h
    unfold putK; split
    · rename_i hlt
      refine List.pairwise_cons.2 ⟨fun z hz => ?_, h⟩
      rcases List.mem_cons.1 hz with rfl | hz
      · exact leK_of_lt hlt
      · exact leK_trans (leK_of_lt hlt) (h1 z hz)
    · rename_i hlt
      refine List.pairwise_cons.2 ⟨fun z hz => ?_, putK_sorted x l h2⟩
      rcases List.mem_cons.1 ((putK_perm x l).mem_iff.1 hz) with rfl | hz
      · exact hlt
      · exact h1 z hz
def sortK (l : List KV) : List KV := l.foldl (fun acc x => putK x acc) []
theorem foldK (l : List KV) : ∀ acc, SortedK acc → SortedK (l.foldl (fun acc x => putK x acc) acc) ∧ (l.foldl (fun acc x => putK x acc) acc).Perm (acc ++ l) := by
  induction l with
  | nil => intro acc h; simpa using h
  | cons x l ih =>
    intro acc h
    obtain ⟨h1, h2⟩ := ih (putK x acc) (putK_sorted x acc h)
    refine ⟨h1, h2.trans ?_⟩
    refine ((putK_perm x acc).append_right l).trans ?_
    exact (List.perm_middle (a := x) (l₁ := acc) (l₂ := l)).symm
theorem sortK_sorted (l : List KV) : SortedK (sortK l) := (foldK l [] List.Pairwise.nil).1
theorem sortK_perm (l : List KV) : (sortK l).Perm l := (foldK l [] List.Pairwise.nil).2
theorem sortK_snoc (l : List KV) (x : KV) : sortK (l ++ [x]) = putK x (sortK l) := by simp [sortK, List.foldl_append]
theorem sortK_length (l : List KV) : (sortK l).length = l.length := (sortK_perm l).length_eq
theorem sortK_mem {l : List KV} {x : KV} : x ∈ sortK l ↔ x ∈ l := (sortK_perm l).mem_iff
theorem sortK_of {l m : List KV} (h : SortedK m) (p : m.Perm l) : m = sortK l := sortedK_unique h (sortK_sorted l) (p.trans (sortK_perm l).symm)
theorem sortK_same {l : List KV} (h : SortedK l) : sortK l = l := (sortK_of h (List.Perm.refl _)).symm
theorem sortK_congr {l m : List KV} (p : l.Perm m) : sortK l = sortK m := sortK_of (sortK_sorted l) ((sortK_perm l).trans p)
def mleK (x y : KV) : Bool := !decide (ordK y x < 0)
theorem mergeK (l : List KV) : l.mergeSort mleK = sortK l := by
  refine sortK_of ?_ (List.mergeSort_perm l _)
  have h := List.pairwise_mergeSort (le := mleK) (fun a b c h1 h2 => by
    simp only [mleK, Bool.not_eq_true', decide_eq_false_iff_not] at *
    exact leK_trans h1 h2) (fun a b => by
    simp only [mleK, Bool.or_eq_true, Bool.not_eq_true', decide_eq_false_iff_not]
    exact leK_total a b) l
  exact h.imp fun {a b} hab => by
    simp only [mleK, Bool.not_eq_true', decide_eq_false_iff_not] at hab
    exact hab
end Go.Proofs.Ythboiklcjpnhbaa
/- which of two items is ahead: rank.order, rank.Less -/
namespace Go.Proofs.Ythboiklcjpnhbaa
open Go.RowKit Go.Sort
set_option linter.unusedVariables false
set_option maxRecDepth 20000
/-- nothing has turned; blocks have been laid, and answers drawn -/
def Grows (w w' : World) : Prop := ∃ q os, w' = grow (w.drewN q) os
theorem Grows.refl (w : World) : Grows w w := ⟨0, #[], by simp [World.drewN]⟩
theorem Grows.drew {w w' : World} (h : Grows w w') : Grows w w'.drew := by
  obtain ⟨q, os, rfl⟩ := h
  exact ⟨q + 1, os, rfl⟩
theorem Grows.drewN {w w' : World} (h : Grows w w') (n : Nat) : Grows w (w'.drewN n) := by
  obtain ⟨q, os, rfl⟩ := h
  refine ⟨q + n, os, ?_⟩
  simp [World.drewN, grow, Nat.add_assoc]
theorem Grows.alloc {w w' : World} (h : Grows w w') (o : Obj) : Grows w (w'.alloc o) := by
  obtain ⟨q, os, rfl⟩ := h
  exact ⟨q, os ++ #[o], by rw [alloc_eq_grow, grow_grow]⟩
theorem Grows.below {w w' : World} (h : Grows w w') : Below w.heap.size w w' := by
  obtain ⟨q, os, rfl⟩ := h
  exact ⟨rfl, rfl, rfl, by simp [grow, World.drewN], fun k hk => heap_grow_old (w.drewN q) os hk⟩
theorem Grows.trans {w w1 w2 : World} (h : Grows w w1) (k : Grows w1 w2) : Grows w w2 := by
  obtain ⟨q, os, rfl⟩ := k
  exact (h.drewN q).elim fun p ⟨os', e⟩ => ⟨p, os' ++ os, by rw [e, grow_grow]⟩
def Box4g (w0 : World) (p q : Nat) (v0 v1 v2 v3 : Value) (w : World) : Prop := Grows w0 w ∧ w.cell? ⟨p, 0, none⟩ = some v0 ∧ w.cell? ⟨p, 1, none⟩ = some v1 ∧ w.cell? ⟨q, 0, none⟩ = some v2 ∧ w.cell? ⟨q, 1, none⟩ = some v3
theorem box4g_carry {w0 w w' : World} {p q : Nat} {v0 v1 v2 v3 : Value} (h : Box4g w0 p q v0 v1 v2 v3 w) (hb : Grows w w') : Box4g w0 p q v0 v1 v2 v3 w' :=
  have hb' := hb.below
  ⟨h.1.trans hb, by rw [hb'.cell (p := ⟨p, 0, none⟩) (lt_of_cell h.2.1)]; exact h.2.1, by rw [hb'.cell (p := ⟨p, 1, none⟩) (lt_of_cell h.2.1)]; exact h.2.2.1, by rw [hb'.cell (p := ⟨q, 0, none⟩) (lt_of_cell h.2.2.2.1)]; exact h.2.2.2.1, by rw [hb'.cell (p := ⟨q, 1, none⟩) (lt_of_cell h.2.2.2.1)]; exact h.2.2.2.2⟩
set_option maxHeartbeats 3200000 in
theorem iorder_grows (a b : KV) (w : World) :
    Calls Try.prog 101 #[keyV a, keyV b] w fun e w' => e = .returned (.int .i64 (ordK a b)) ∧ Grows w w' := by
  obtain ⟨a1, a2⟩ := a
  obtain ⟨b1, b2⟩ := b
  have hv := ordK_or (a1, a2) (b1, b2)
  obtain ⟨v, hv2⟩ : ∃ v, ordK (a1, a2) (b1, b2) = v := ⟨_, rfl⟩
  rw [hv2] at hv ⊢
  simp only at hv
  unfold keyV
  simp only
  have C1 := Lib.hid (fun w => compareZ_any a1 b1 w)
  have C2 := Lib.hid (fun w => compare_any a2 b2 w)
  obtain ⟨x, hx⟩ : ∃ x, cmpZ a1 b1 = x := ⟨_, rfl⟩
  obtain ⟨y, hy⟩ : ∃ y, cmpS a2 b2 = y := ⟨_, rfl⟩
  rw [hx] at C1 hv; rw [hy] at C2 hv
  have HV := Lib.hid hv
  clear hv hv2 hx hy
  go_enter Try.func101, Try.ntmps101
  go_upto_region 1 with fail
  have e0 : ((w.alloc (.cells #[.int .i64 a1, .string a2] 27)).alloc (.cells #[.int .i64 b1, .string b2] 27)).cell? ⟨w.heap.size, 0, none⟩ = some (.int .i64 a1) := by simp
  have e1 : ((w.alloc (.cells #[.int .i64 a1, .string a2] 27)).alloc (.cells #[.int .i64 b1, .string b2] 27)).cell? ⟨w.heap.size, 1, none⟩ = some (.string a2) := by simp
  have e2 : ((w.alloc (.cells #[.int .i64 a1, .string a2] 27)).alloc (.cells #[.int .i64 b1, .string b2] 27)).cell? ⟨w.heap.size + 1, 0, none⟩ = some (.int .i64 b1) := by simp
  have e3 : ((w.alloc (.cells #[.int .i64 a1, .string a2] 27)).alloc (.cells #[.int .i64 b1, .string b2] 27)).cell? ⟨w.heap.size + 1, 1, none⟩ = some (.string b2) := by simp
  have BB := Lib.hid (((Grows.refl w).alloc (.cells #[.int .i64 a1, .string a2] 27)).alloc (.cells #[.int .i64 b1, .string b2] 27))
  generalize (w.alloc (.cells #[.int .i64 a1, .string a2] 27)).alloc (.cells #[.int .i64 b1, .string b2] 27) = w1 at *
  obtain ⟨q, hq⟩ : ∃ q, w.heap.size + 1 = q := ⟨_, rfl⟩
  rw [hq] at e2 e3 ⊢
  have T := Lib.hid (show Box4g w1 w.heap.size q (.int .i64 a1) (.string a2) (.int .i64 b1) (.string b2) w1 from ⟨Grows.refl _, e0, e1, e2, e3⟩)
  clear e0 e1 e2 e3 hq
  go_region_held3 (fun w' => Grows w1 w' ∧ w'.cell? ⟨w.heap.size, 0, none⟩ = some (.int .i64 a1) ∧ w'.cell? ⟨w.heap.size, 1, none⟩ = some (.string a2) ∧ w'.cell? ⟨q, 0, none⟩ = some (.int .i64 b1) ∧ w'.cell? ⟨q, 1, none⟩ = some (.string b2))
    (first | assumption | exact box4g_carry T.out ((Grows.refl _).drewN _) | exact box4g_carry T.out (Grows.refl _).drew | exact box4g_carry (by assumption) ((Grows.refl _).alloc _) | exact box4g_carry (by assumption) (by assumption))
    (first
      | (go_at_call 106; refine (C1.out _).mono ?_; rintro e w' ⟨rfl, rfl⟩)
      | (go_at_call 107; refine (C2.out _).mono ?_; rintro e w' ⟨rfl, rfl⟩)
      | (go_at_call 105; refine (or_any _ _ x y _ (by simp) (by simp)).mono ?_; rintro e w' ⟨rfl, rfl⟩))
  rename_i T5
  obtain ⟨hb5, -⟩ := T5
  go_wp2_with fail
  go_ret
  exact ⟨ret_int HV.out.symm, BB.out.trans hb5⟩
theorem iorder_any (a b : KV) (w : World) :
    Calls Try.prog 101 #[keyV a, keyV b] w fun e w' => e = .returned (.int .i64 (ordK a b)) ∧ Below w.heap.size w w' :=
  (iorder_grows a b w).mono fun _ _ h => ⟨h.1, h.2.below⟩
theorem iless_any (a b : KV) (w : World) :
    Calls Try.prog 83 #[keyV a, keyV b] w fun e w' => e = .returned (.bool (lessK a b)) ∧ Below w.heap.size w w' := by
  obtain ⟨v, hv⟩ : ∃ v, ordK a b = v := ⟨_, rfl⟩
  have hl : lessK a b = decide (v < 0) := by unfold lessK; rw [hv]
  have O := Lib.hid (fun w => iorder_any a b w)
  rw [hv] at O
  rw [hl]
  clear hl hv
  obtain ⟨a1, a2⟩ := a
  obtain ⟨b1, b2⟩ := b
  unfold keyV at *
  simp only at *
  go_enter Try.func83, Try.ntmps83
  go_wp2_with fail
  refine (O.out _).mono ?_
  rintro e w' ⟨rfl, hb⟩
  go_wp2_with fail
  go_ret
  exact ⟨rfl, (((Below.refl _ _).alloc (Nat.le_refl _) _).alloc (by simp) _).trans (hb.mono (by simp; omega))⟩
theorem iless_lit (a b : KV) (c : Bool) (w : World) (h : lessK a b = c) :
    Calls Try.prog 83 #[keyV a, keyV b] w fun e w' => e = .returned (.bool c) ∧ Below w.heap.size w w' := by subst h; exact iless_any a b w
end Go.Proofs.Ythboiklcjpnhbaa
/- contract of text.Len -/
namespace Go.Proofs.Ythboiklcjpnhbaa
open Go.RowKit
set_option linter.unusedVariables false
set_option maxRecDepth 20000
set_option maxHeartbeats 400000 in
theorem len_any (s : ByteArray) (w : World) (hs : s.size ≤ 9223372036854775807) :
    Calls Try.prog 81 #[.string s] w fun e w' => e = .returned (.int .i64 (lenS s)) ∧ Below w.heap.size w w' := by
  go_enter Try.func81, Try.ntmps81
  go_wp2_with fail
  go_loopw [3] (fun n wr => ∃ (pos f : Nat) (P : List Nat), s.size ≤ pos + f ∧ n = .int .i64 P.length ∧ Hid (runesS s = P ++ runesN s f pos) ∧ Hid (∀ r ∈ P, r ≠ 65533) ∧ wr = w.iter s pos) (fun _ wr => s.size - wr.iterPos w.heap.size)
  case atStart => exact ⟨0, s.size, [], by omega, rfl, Lib.hid rfl, Lib.hid (by simp), rfl⟩
  case round =>
    obtain ⟨pos, f, P, hf, rfl, hP, hG, rfl⟩ := hrel
    by_cases hlt : pos < s.size
    · have hnx := fun ty => run_next_any (P := Try.prog) w s pos ty hlt
      obtain ⟨g, rfl, hst, hg⟩ := runesN_step s f pos hlt hf
      have hwd := decode_width s pos hlt
      have hlen : P.length < s.size := by
        have h1 := congrArg List.length hP.out
        rw [hst, List.length_append, List.length_cons] at h1
        have := runesS_le s
        omega
      have HST := Lib.hid hst
      obtain ⟨r, hr⟩ : ∃ r, (Utf8.decode s pos).1 = r := ⟨_, rfl⟩
      obtain ⟨wd, hwd2⟩ : ∃ wd, (Utf8.decode s pos).2 = wd := ⟨_, rfl⟩
      rw [hr, hwd2] at hnx HST; rw [hwd2] at hg hwd
      clear hst hr hwd2
      by_cases hbad : r = 65533
      · subst hbad
        go_wp2
        go_ret
        exact ⟨ret_int (lenS_bad (P := P) (Q := runesN s g (pos + wd)) (by rw [hP.out, HST.out])).symm, below_one _ _⟩
      · have hb : ((r : Int) == 65533) = false := by rw [beq_eq_false_iff_ne]; omega
        have HB := Lib.hid hbad
        clear hbad
        go_wp2
        go_roundw
        case rel => exact ⟨pos + wd, g, P ++ [r], hg, by rw [List.length_append]; go_num, Lib.hid (by rw [hP.out, HST.out]; simp), Lib.hid (by intro x hx; rcases List.mem_append.1 hx with hx | hx; exact hG.out x hx; simp at hx; rw [hx]; exact HB.out), rfl⟩
        case measure => simp; omega
    · have hnx := fun ty => run_next_end (P := Try.prog) w s pos ty hlt
      have he : runesS s = P := by rw [hP.out, runesN_end s f pos hlt, List.append_nil]
      have HE := Lib.hid he
      clear he
      go_wp2
      go_ret
      exact ⟨ret_int (by rw [lenS_good (by rw [HE.out]; exact hG.out), HE.out]), below_one _ _⟩
end Go.Proofs.Ythboiklcjpnhbaa
/- contract of text.Asked -/
namespace Go.Proofs.Ythboiklcjpnhbaa
open Go.RowKit
set_option linter.unusedVariables false
set_option maxRecDepth 20000
theorem asked_any (s : ByteArray) (w : World) (hs : s.size ≤ 9223372036854775807) :
    Calls Try.prog 58 #[.string s] w fun e w' => e = .returned (.bool (decide (0 ≤ lenS s ∧ lenS s ≤ 16))) ∧ Below w.heap.size w w' := by
  have h1 := Lib.hid (len_any s w hs)
  obtain ⟨n, hn⟩ : ∃ n, lenS s = n := ⟨_, rfl⟩
  rw [hn] at h1 ⊢
  clear hn
  have hc : n < 0 ∨ (0 ≤ n ∧ n ≤ 16) ∨ (0 ≤ n ∧ 16 < n) := by omega
  rcases hc with h | ⟨h, h2⟩ | ⟨h, h2⟩
  · rw [decide_eq_false (by omega)]
    go_enter Try.func58, Try.ntmps58
    go_wp2_with fail
    refine h1.out.mono ?_
    rintro e w' ⟨rfl, hb⟩
    go_wp2_with fail
    go_ret
    exact ⟨rfl, hb⟩
  · rw [decide_eq_true (by omega)]
    have x1 : decide (n ≤ 16) = true := by simpa using h2
    go_enter Try.func58, Try.ntmps58
    go_wp2_with fail
    refine h1.out.mono ?_
    rintro e w' ⟨rfl, hb⟩
    go_wp2_with fail
    go_ret
    exact ⟨ret_bool (by simp [*]), hb⟩
  · rw [decide_eq_false (by omega)]
    have x1 : decide (n ≤ 16) = false := by simpa using h2
    go_enter Try.func58, Try.ntmps58
    go_wp2_with fail
    refine h1.out.mono ?_
    rintro e w' ⟨rfl, hb⟩
    go_wp2_with fail
    go_ret
    exact ⟨ret_bool (by simp [*]), hb⟩
theorem asked_lit (s : ByteArray) (c : Bool) (w : World) (hs : s.size ≤ 9223372036854775807) (hc : decide (0 ≤ lenS s ∧ lenS s ≤ 16) = c) :
    Calls Try.prog 58 #[.string s] w fun e w' => e = .returned (.bool c) ∧ Below w.heap.size w w' := by subst hc; exact asked_any s w hs
end Go.Proofs.Ythboiklcjpnhbaa
/- which of two keys is ahead -/
namespace Go.Proofs.Ythboiklcjpnhbaa
open Go.RowKit
set_option linter.unusedVariables false
set_option maxRecDepth 20000
def Box4 (w0 : World) (p q : Nat) (v0 v1 v2 v3 : Value) (w : World) : Prop := Below w0.heap.size w0 w ∧ w.cell? ⟨p, 0, none⟩ = some v0 ∧ w.cell? ⟨p, 1, none⟩ = some v1 ∧ w.cell? ⟨q, 0, none⟩ = some v2 ∧ w.cell? ⟨q, 1, none⟩ = some v3
theorem box4_carry {w0 w w' : World} {p q : Nat} {v0 v1 v2 v3 : Value} (h : Box4 w0 p q v0 v1 v2 v3 w) (hb : Below w.heap.size w w') : Box4 w0 p q v0 v1 v2 v3 w' :=
  ⟨h.1.trans (hb.mono h.1.size), by rw [hb.cell (p := ⟨p, 0, none⟩) (lt_of_cell h.2.1)]; exact h.2.1, by rw [hb.cell (p := ⟨p, 1, none⟩) (lt_of_cell h.2.1)]; exact h.2.2.1, by rw [hb.cell (p := ⟨q, 0, none⟩) (lt_of_cell h.2.2.2.1)]; exact h.2.2.2.1, by rw [hb.cell (p := ⟨q, 1, none⟩) (lt_of_cell h.2.2.2.1)]; exact h.2.2.2.2⟩
end Go.Proofs.Ythboiklcjpnhbaa
/- contract of text.Word -/
namespace Go.Proofs.Ythboiklcjpnhbaa
open Go.RowKit
set_option linter.unusedVariables false
set_option maxRecDepth 20000
theorem word_any (s : ByteArray) (w : World) (hs : s.size ≤ 9223372036854775807) :
    Calls Try.prog 100 #[.string s] w fun e w' => e = .returned (.bool (decide (1 ≤ lenS s ∧ lenS s ≤ 12))) ∧ Below w.heap.size w w' := by
  have h1 := Lib.hid (len_any s w hs)
  obtain ⟨n, hn⟩ : ∃ n, lenS s = n := ⟨_, rfl⟩
  rw [hn] at h1 ⊢
  clear hn
  have hc : n < 1 ∨ (1 ≤ n ∧ n ≤ 12) ∨ (1 ≤ n ∧ 12 < n) := by omega
  rcases hc with h | ⟨h, h2⟩ | ⟨h, h2⟩
  · rw [decide_eq_false (by omega)]
    go_enter Try.func100, Try.ntmps100
    go_wp2_with fail
    refine h1.out.mono ?_
    rintro e w' ⟨rfl, hb⟩
    go_wp2_with fail
    go_ret
    exact ⟨rfl, hb⟩
  · rw [decide_eq_true (by omega)]
    have x1 : decide (n ≤ 12) = true := by simpa using h2
    go_enter Try.func100, Try.ntmps100
    go_wp2_with fail
    refine h1.out.mono ?_
    rintro e w' ⟨rfl, hb⟩
    go_wp2_with fail
    go_ret
    exact ⟨ret_bool (by simp [*]), hb⟩
  · rw [decide_eq_false (by omega)]
    have x1 : decide (n ≤ 12) = false := by simpa using h2
    go_enter Try.func100, Try.ntmps100
    go_wp2_with fail
    refine h1.out.mono ?_
    rintro e w' ⟨rfl, hb⟩
    go_wp2_with fail
    go_ret
    exact ⟨ret_bool (by simp [*]), hb⟩
end Go.Proofs.Ythboiklcjpnhbaa
/- contracts of part.Less, may, Of, Lens, Least -/
namespace Go.Proofs.Ythboiklcjpnhbaa
open Go.RowKit
set_option linter.unusedVariables false
set_option maxRecDepth 20000
theorem box2 (w : World) (x y : Value) (t : TypeId) : ((w.alloc (.cells #[x] t)).alloc (.cells #[y] t)).heap.size = w.heap.size + 2 := by simp
def mayK (k : KV) : Prop := 1 ≤ k.1 ∧ k.1 ≤ 12 ∧ 0 ≤ lenS k.2 ∧ lenS k.2 ≤ 12
instance (k : KV) : Decidable (mayK k) := by unfold mayK; infer_instance
theorem word_bool' {w : World} (s : Tx) (b : Bool) (hs : s.size ≤ 9223372036854775807) (hb : decide (wordP s) = b) :
    Calls Try.prog 100 #[.string s] w fun e w' => e = .returned (.bool b) ∧ Below w.heap.size w w' := by subst hb; exact word_any s w hs
/-! which shard a word belongs to -/
def keyOf (t : Tx) : KV := (lenS t, t)
def ofN (ks : List KV) (k : KV) : Nat := ks.findIdx fun c => decide (ordK k c < 0)
theorem ofN_le (ks : List KV) (k : KV) : ofN ks k ≤ ks.length := List.findIdx_le_length
def ofZ (ks : List KV) (t : Tx) : Int := if wordP t then ofN ks (keyOf t) else -1
theorem findIdx_take {α : Type} (p : α → Bool) (xs : List α) (z : α) (j : Nat) (hj : j < xs.length) (h : ∀ x ∈ xs.take j, p x = false) (hp : p (xs.getD j z) = true) : xs.findIdx p = j := by
  rw [List.findIdx_eq hj]
  have e : xs.getD j z = xs[j] := by simp [List.getD_eq_getElem?_getD, hj]
  refine ⟨by rw [← e]; exact hp, fun i hi => ?_⟩
  have h1 := h xs[i] (by rw [List.mem_take_iff_getElem]; exact ⟨i, by omega, rfl⟩)
  simpa using h1
theorem findIdx_none {α : Type} (p : α → Bool) (xs : List α) (h : ∀ x ∈ xs, p x = false) : xs.findIdx p = xs.length := by
  rw [List.findIdx_eq_length]; exact h
def idxZ (ks : List KV) (k : KV) : Int := if ofN ks k < ks.length then ofN ks k else -1
end Go.Proofs.Ythboiklcjpnhbaa
/- rows of pairs (a number and a text each) that the call made -/
namespace Go.Proofs.Ythboiklcjpnhbaa
open Go.RowKit
set_option linter.unusedVariables false
set_option maxRecDepth 20000
def keysV : List KV → List Value
  | [] => []
  | k :: ks => .int .i64 k.1 :: .string k.2 :: keysV ks
theorem keysV_len : ∀ ks : List KV, (keysV ks).length = ks.length * 2
  | [] => rfl
  | k :: ks => by simp [keysV, keysV_len ks]; omega
theorem keysV_app : ∀ ks ls : List KV, keysV (ks ++ ls) = keysV ks ++ keysV ls
  | [], ls => rfl
  | k :: ks, ls => by simp [keysV, keysV_app ks ls]
theorem keysV_one : ∀ (ks : List KV), ∀ u ∈ keysV ks, u.oneCell' = true
  | [], u, h => by simp [keysV] at h
  | k :: ks, u, h => by
    simp only [keysV, List.mem_cons] at h
    rcases h with h | h | h
    · subst h; rfl
    · subst h; rfl
    · exact keysV_one ks u h
theorem keysV_at : ∀ (ks : List KV) (i : Nat), i < ks.length → (keysV ks)[i * 2]? = some (.int .i64 (ks.getD i k0).1) ∧ (keysV ks)[i * 2 + 1]? = some (.string (ks.getD i k0).2)
  | [], i, h => by simp at h
  | k :: ks, 0, _ => by simp [keysV]
  | k :: ks, i + 1, h => by
    have ih := keysV_at ks i (by simpa using h)
    have e1 : (i + 1) * 2 = i * 2 + 1 + 1 := by omega
    rw [e1]
    simpa [keysV] using ih
theorem HoldsK.cells {w : World} {b o n : Nat} {ks : List KV} (h : HoldsK w (some ⟨b, o, none⟩) n ks) : ∀ j u, (keysV ks)[j]? = some u → w.cell? ((⟨b, o, none⟩ : Addr).add j) = some u := by
  intro j u hj
  have hl := h.len
  have hjl : j < (keysV ks).length := by
    rcases Nat.lt_or_ge j (keysV ks).length with h' | h'
    · exact h'
    · rw [List.getElem?_eq_none h'] at hj; cases hj
  rw [keysV_len] at hjl
  obtain ⟨b', o', ha, hc⟩ := h.at (by omega)
  cases ha
  obtain ⟨c1, c2⟩ := hc (j / 2) (by omega)
  obtain ⟨v1, v2⟩ := keysV_at ks (j / 2) (by omega)
  rw [Go.WideShapes.add_plain]
  have hcase : j = j / 2 * 2 ∨ j = j / 2 * 2 + 1 := by omega
  rcases hcase with e | e
  · rw [← e] at v1 c1
    rw [c1, ← hj, v1]
  · have e2 : o + j / 2 * 2 + 1 = o + j := by omega
    rw [← e] at v2
    rw [e2] at c2
    rw [c2, ← hj, v2]
theorem HoldsK.own {w : World} {B : Nat} {e : TypeId} {a : Option Addr} {n c : Nat} {ks : List KV} (h : w.ownsRow B e 2 (.slice a n c) n (keysV ks)) : HoldsK w a n ks := by
  have hl : ks.length = n := by have := h.1; rw [keysV_len] at this; omega
  refine ⟨hl, fun h0 => ?_⟩
  rcases h.2 with ⟨_, h1⟩ | ⟨g, cap, cur, hv, _, hh, hc, _, hs, hx⟩
  · omega
  · simp only [Value.slice.injEq] at hv
    obtain ⟨rfl, _, rfl⟩ := hv
    refine ⟨g, 0, rfl, fun i hi => ?_⟩
    obtain ⟨v1, v2⟩ := keysV_at ks i (by omega)
    rw [← hx] at v1 v2
    rw [List.getElem?_take_of_lt (by omega)] at v1 v2
    rw [Array.getElem?_toList] at v1 v2
    rw [Nat.zero_add, Joins.cell_of_block hh, Joins.cell_of_block hh]
    exact ⟨v1, v2⟩
theorem HoldsK.take {w : World} {a : Option Addr} {n : Nat} {ks : List KV} (h : HoldsK w a n ks) (k : Nat) (hk : k ≤ n) : HoldsK w a k (ks.take k) := by
  have hl := h.len
  refine ⟨by simp; omega, fun h0 => ?_⟩
  obtain ⟨b, o, ha, hc⟩ := h.at (by omega)
  refine ⟨b, o, ha, fun i hi => ?_⟩
  have e : (ks.take k).getD i k0 = ks.getD i k0 := by simp [List.getD_eq_getElem?_getD, List.getElem?_take_of_lt hi]
  rw [e]; exact hc i (by omega)
theorem HoldsK.drop {w : World} {b o n : Nat} {ks : List KV} (h : HoldsK w (some ⟨b, o, none⟩) n ks) (k : Nat) (hk : k ≤ n) : HoldsK w (some ⟨b, o + k * 2, none⟩) (n - k) (ks.drop k) := by
  have hl := h.len
  refine ⟨by simp; omega, fun h0 => ?_⟩
  obtain ⟨b', o', ha, hc⟩ := h.at (by omega)
  cases ha
  refine ⟨b, o + k * 2, rfl, fun i hi => ?_⟩
  have e : (ks.drop k).getD i k0 = ks.getD (k + i) k0 := by simp [List.getD_eq_getElem?_getD]
  obtain ⟨c1, c2⟩ := hc (k + i) (by omega)
  rw [e]
  have e1 : o + k * 2 + i * 2 = o + (k + i) * 2 := by omega
  rw [e1]; exact ⟨c1, c2⟩
theorem HoldsK.cellsAny {w : World} {a : Option Addr} {n : Nat} {ks : List KV} (h : HoldsK w a n ks) {w' : World} (hg : w.grownBy w' none) : ∀ ad, a = some ad → ∀ j u, (keysV ks)[j]? = some u → w'.cell? (ad.add j) = some u := by
  intro ad ha j u hj
  have hjl : j < (keysV ks).length := (List.getElem?_eq_some_iff.1 hj).1
  rw [keysV_len] at hjl
  obtain ⟨b, o, hb, _⟩ := h.at (by have := h.len; omega)
  rw [ha] at hb
  obtain rfl := Option.some.inj hb
  subst ha
  exact hg.cell (h.cells j u hj) (by simp)
/-- Block B is a row of n + 3 pairs that may be written: the first n hold ks, of the three behind them the first k hold the mark. -/
def Roomy2 (w : World) (B : Nat) (e : TypeId) (n : Nat) (ks : List KV) (k : Nat) : Prop :=
  ∃ cs : Array Value, w.heap[B]? = some (.cells cs e (0, 0)) ∧ cs.size = (n + 3) * 2 ∧ (∀ i, i < n → cs[i * 2]? = some (.int .i64 (ks.getD i k0).1) ∧ cs[i * 2 + 1]? = some (.string (ks.getD i k0).2)) ∧ ∀ i, i < k → cs[n * 2 + i * 2]? = some (.int .i64 (-7)) ∧ cs[n * 2 + i * 2 + 1]? = some (.string ⟨#[]⟩)
theorem roomy2_of_own {w : World} {base B : Nat} {e : TypeId} {n : Nat} {ks : List KV} (hl : ks.length = n) (h : w.ownsRow base e 2 (.slice (some ⟨B, 0, none⟩) n (n + 3)) n (keysV ks)) : Roomy2 w B e n ks 0 := by
  rcases h.2 with ⟨h0, _⟩ | ⟨g, cap, cur, hv, _, hh, _, _, hs, hx⟩
  · cases h0
  · simp only [Value.slice.injEq, Option.some.injEq, Addr.mk.injEq, and_true, true_and] at hv
    obtain ⟨rfl, rfl⟩ := hv
    refine ⟨cur, hh, by omega, fun i hi => ?_, fun i hi => by omega⟩
    obtain ⟨v1, v2⟩ := keysV_at ks i (by omega)
    rw [← hx] at v1 v2
    rw [List.getElem?_take_of_lt (by omega)] at v1 v2
    rw [Array.getElem?_toList] at v1 v2
    exact ⟨v1, v2⟩
theorem Roomy2.holds {w : World} {B : Nat} {e : TypeId} {n : Nat} {ks : List KV} {k : Nat} (h : Roomy2 w B e n ks k) (hl : ks.length = n) : HoldsK w (some ⟨B, 0, none⟩) n ks := by
  obtain ⟨cs, h1, _, h3, _⟩ := h
  refine ⟨hl, fun _ => ⟨B, 0, rfl, fun i hi => ?_⟩⟩
  rw [Nat.zero_add, Joins.cell_of_block h1, Joins.cell_of_block h1]
  exact h3 i hi
theorem Roomy2.room {w : World} {B : Nat} {e : TypeId} {n : Nat} {ks : List KV} {k : Nat} (h : Roomy2 w B e n ks k) (i : Nat) (hi : i < k) : w.cell? ⟨B, n * 2 + i * 2, none⟩ = some (.int .i64 (-7)) ∧ w.cell? ⟨B, n * 2 + i * 2 + 1, none⟩ = some (.string ⟨#[]⟩) := by
  obtain ⟨cs, h1, _, _, h4⟩ := h
  rw [Joins.cell_of_block h1, Joins.cell_of_block h1]; exact h4 i hi
theorem Roomy2.there {w : World} {B : Nat} {e : TypeId} {n : Nat} {ks : List KV} {k : Nat} (h : Roomy2 w B e n ks k) (i : Nat) (hi : i < (n + 3) * 2) : ∃ v, w.cell? ⟨B, i, none⟩ = some v := by
  obtain ⟨cs, h1, h2, _, _⟩ := h
  exact ⟨cs[i]'(by omega), by rw [Joins.cell_of_block h1, Array.getElem?_eq_getElem (by omega)]⟩
theorem Roomy2.free {w : World} {B : Nat} {e : TypeId} {n : Nat} {ks : List KV} {k : Nat} (h : Roomy2 w B e n ks k) (i : Nat) : w.frozen? ⟨B, i, none⟩ = false := by
  obtain ⟨cs, h1, _, _, _⟩ := h
  exact Joins.unfrozen_of_block h1 i
theorem Roomy2.put {w : World} {B : Nat} {e : TypeId} {n : Nat} {ks : List KV} {k : Nat} (h : Roomy2 w B e n ks k) (hk : k < 3) : Roomy2 ((w.setCell ⟨B, n * 2 + k * 2, none⟩ (.int .i64 (-7))).setCell ⟨B, n * 2 + k * 2 + 1, none⟩ (.string ⟨#[]⟩)) B e n ks (k + 1) := by
  obtain ⟨cs, h1, h2, h3, h4⟩ := h
  refine ⟨_, Joins.block_setCell (Joins.block_setCell h1 _) _, by simpa using h2, fun i hi => ?_, fun i hi => ?_⟩
  · simp only [Array.getElem?_setIfInBounds]
    rw [if_neg (by omega), if_neg (by omega), if_neg (by omega), if_neg (by omega)]; exact h3 i hi
  · by_cases e1 : i = k
    · subst e1
      simp only [Array.getElem?_setIfInBounds, Array.size_setIfInBounds]
      constructor
      · rw [if_neg (by omega), if_pos trivial, if_pos (by omega)]
      · rw [if_pos trivial, if_pos (by omega)]
    · simp only [Array.getElem?_setIfInBounds]
      rw [if_neg (by omega), if_neg (by omega), if_neg (by omega), if_neg (by omega)]; exact h4 i (by omega)
theorem Roomy2.below {w w' : World} {B : Nat} {e : TypeId} {n : Nat} {ks : List KV} {k : Nat} (h : Roomy2 w B e n ks k) (hb : Below w.heap.size w w') : Roomy2 w' B e n ks k := by
  obtain ⟨cs, h1, h2⟩ := h
  exact ⟨cs, by rw [hb.block B (Array.getElem?_eq_some_iff.1 h1).1]; exact h1, h2⟩
end Go.Proofs.Ythboiklcjpnhbaa
/- lists of Items: held against each other; lent; kept -/
namespace Go.Proofs.Ythboiklcjpnhbaa
open Go.RowKit
set_option linter.unusedVariables false
set_option maxRecDepth 20000
theorem prI_info : (Try.prog.info? 27).map (fun i => (i.zero, i.size, i.bytes)) = some (some (.agg #[.int .i64 0, .string ⟨#[]⟩]), 2, 24) := by kernel_rfl
set_option maxHeartbeats 400000 in
theorem sameItems_quiet (a1 a2 : Option Addr) (n c1 c2 : Nat) (z : List KV) (w : World) (h1 : HoldsK w a1 n z) (h2 : HoldsK w a2 n z) (hl : n ≤ 4611686018427387904) :
    Calls Try.prog 44 #[.slice a1 n c1, .slice a2 n c2] w fun e w' => e = .returned (.bool true) ∧ ∃ m, w' = w.drewN m := by
  have H1 := Lib.hid h1; have H2 := Lib.hid h2
  have hb : ((n : Int) != (n : Int)) = false := by simp
  clear h1 h2
  go_enter Try.func44, Try.ntmps44
  go_wp2
  go_loopw [5] (fun i wr => ∃ k m : Nat, k ≤ n ∧ i = .int .i64 k ∧ wr = w.drewN m) (fun i _ => n - (intOf i).toNat)
  case atStart => exact ⟨0, 0, by omega, rfl, rfl⟩
  case round =>
    obtain ⟨k, m, hk, rfl, rfl⟩ := hrel
    by_cases hlt : k < n
    · obtain ⟨b1, o1, rfl, k1⟩ := H1.out.at (by omega)
      obtain ⟨b2, o2, rfl, k2⟩ := H2.out.at (by omega)
      obtain ⟨e1, e2⟩ := k1 k hlt
      obtain ⟨e3, e4⟩ := k2 k hlt
      obtain ⟨x, hx⟩ : ∃ x, z.getD k k0 = x := ⟨_, rfl⟩
      rw [hx] at e1 e2 e3 e4
      obtain ⟨x1, x2⟩ := x
      simp only at e1 e2 e3 e4
      have f1 : (x1 == x1) = true := by simp
      have f2 := str_same x2
      clear hx k1 k2
      go_wp2
      go_quiet (fail)
      go_wp2
      go_roundw
      case rel => exact ⟨k + 1, _, by omega, by go_num, rfl⟩
      case measure => simp [intOf]; omega
    · go_wp2
      go_ret
      exact ⟨rfl, _, rfl⟩
theorem sameItems_yes (a1 a2 : Option Addr) (n c1 c2 : Nat) (z : List KV) (w : World) (h1 : HoldsK w a1 n z) (h2 : HoldsK w a2 n z) (hl : n ≤ 4611686018427387904) :
    Calls Try.prog 44 #[.slice a1 n c1, .slice a2 n c2] w fun e w' => e = .returned (.bool true) ∧ Below w.heap.size w w' :=
  (sameItems_quiet a1 a2 n c1 c2 z w h1 h2 hl).mono fun _ _ ⟨h, m, hm⟩ => ⟨h, by rw [hm]; exact below_drewN _ _⟩
set_option maxHeartbeats 400000 in
theorem lendItems_any (a : Option Addr) (n cap : Nat) (ks : List KV) (w : World) (h : HoldsK w a n ks) (hnil : a = none → n = 0 ∧ cap = 0) (hn : n ≤ 1048576) :
    Calls Try.prog 12 #[.slice a n cap] w fun e w' => e = .returned (.slice (some ⟨w.heap.size, 0, none⟩) n (n + 3)) ∧ Below w.heap.size w w' ∧ Roomy2 w' w.heap.size 27 n ks 3 := by
  obtain ⟨i0, hi, hz0, hz1, hz2⟩ := info_parts prI_info
  have hl := h.len
  have HK := Lib.hid h; have HN := Lib.hid hnil
  have HC := Lib.hid (fun (w' : World) (hg : w.grownBy w' none) => h.cellsAny hg)
  have hkl := keysV_len ks
  clear h hnil
  go_enter Try.func12, Try.ntmps12
  go_wp2_with (first | (at_make; refine wpList_make_own _ rfl _ _ 30 rfl w.heap.size 27 i0 (.agg #[.int .i64 0, .string ⟨#[]⟩]) 2 Try.underlying30 hi hz0 hz1 _ _ _ (n + 3) rfl rfl (by omega) (by rw [hz2]; omega) (by unfold maxLen; omega) (Nat.le_refl _) ?_; intro w0 hown0 hgrow0) | (at_builtin; refine wpList_append_fits_any _ rfl (.tmp 10) (.tmp 11) 30 rfl w.heap.size 27 i0 2 Try.underlying30 hi hz1 w.heap.size 0 (n + 3) _ rfl hown0 a n cap (keysV ks) rfl (by rw [hkl, hl]) HN.out (HC.out _ hgrow0) (keysV_one _) (by omega) ?_; intro w1 hown1 hgrow1; simp only [Nat.zero_add, List.nil_append] at hown1))
  have hb0 : Below w.heap.size w w0 := below_grown hgrow0 (by intro k hk; cases hk)
  have hb1 : Below w.heap.size w w1 := hb0.grown hgrow1 hb0.size (by intro k hk; cases hk; exact Nat.le_refl _)
  have hr1 : Roomy2 w1 w.heap.size 27 n ks 0 := roomy2_of_own hl hown1
  have HB1 := Lib.hid hb1; have HR1 := Lib.hid hr1
  clear hb0 hb1 hr1 hown0 hown1 hgrow0 hgrow1
  go_loopw [5] (fun i wr => ∃ k : Nat, k ≤ 3 ∧ i = .int .i64 k ∧ Hid (Roomy2 wr w.heap.size 27 n ks k) ∧ Hid (Below w.heap.size w wr)) (fun i _ => 3 - (intOf i).toNat)
  case atStart => exact ⟨0, by omega, rfl, HR1, HB1⟩
  case round =>
    obtain ⟨k, hk, rfl, hR, hB⟩ := hrel
    by_cases hlt : k < 3
    · obtain ⟨v, hv⟩ := hR.out.there (n * 2 + k * 2) (by omega)
      obtain ⟨v2, hv2⟩ := hR.out.there (n * 2 + k * 2 + 1) (by omega)
      have hf := hR.out.free (n * 2 + k * 2)
      have hf2 := hR.out.free (n * 2 + k * 2 + 1)
      go_wp2
      go_roundw
      case rel => exact ⟨k + 1, by omega, by go_num, hR.out.put hlt, (hB.out.setCell (p := ⟨w.heap.size, n * 2 + k * 2, none⟩) (Nat.le_refl _) _).setCell (p := ⟨w.heap.size, n * 2 + k * 2 + 1, none⟩) (Nat.le_refl _) _⟩
      case measure => simp [intOf]; omega
    · obtain rfl : k = 3 := by omega
      go_wp2
      go_ret
      exact ⟨rfl, hB.out, hR.out⟩
set_option maxHeartbeats 400000 in
theorem keptItems_yes (B : Nat) (e : TypeId) (n : Nat) (z : List KV) (a : Option Addr) (cap : Nat) (w : World) (h1 : z.length = n) (hR : Roomy2 w B e n z 3) (h2 : HoldsK w a n z) (hn : n ≤ 1048576) :
    Calls Try.prog 23 #[.slice (some ⟨B, 0, none⟩) n (n + 3), .slice a n cap] w fun e w' => e = .returned (.bool true) ∧ Below w.heap.size w w' := by
  have HR := Lib.hid hR; have H2 := Lib.hid h2; have H1 := Lib.hid h1
  clear hR h2 h1
  have HS := Lib.hid (HR.out.holds H1.out)
  have f1 : ((-7 : Int) == -7) = true := by simp
  have f2 := str_same ({ data := #[] } : ByteArray)
  go_enter Try.func23, Try.ntmps23
  go_wp2
  go_loop [6] (fun i => ∃ k : Nat, k ≤ 3 ∧ i = .int .i64 k) (fun i => 3 - (intOf i).toNat)
  case atStart => exact ⟨0, by omega, rfl⟩
  case round =>
    obtain ⟨k, hk, rfl⟩ := hrel
    by_cases hlt : k < 3
    · obtain ⟨hv, hv2⟩ := HR.out.room k hlt
      go_wp2
      go_round
      case rel => exact ⟨k + 1, by omega, by go_num⟩
      case measure => simp [intOf]; omega
    · obtain rfl : k = 3 := by omega
      go_wp2_with fail
      refine (sameItems_yes _ _ _ _ _ z _ HS.out H2.out (by omega)).mono ?_
      rintro e w' ⟨rfl, hb⟩
      go_wp2_with fail
      go_ret
      exact ⟨rfl, hb⟩
end Go.Proofs.Ythboiklcjpnhbaa
/- msg: plain messages; which may be (items, what is behind) -/
namespace Go.Proofs.Ythboiklcjpnhbaa
open Go.RowKit
set_option linter.unusedVariables false
set_option maxRecDepth 20000
def inR (x lo hi : Int) : Bool := decide (lo ≤ x ∧ x ≤ hi)
theorem min_lit (n lo hi : Int) (c : Bool) (w : World) (h : inR n lo hi = c) :
    Calls Try.prog 60 #[.int .i64 n, .int .i64 lo, .int .i64 hi] w fun e w' => e = .returned (.bool c) ∧ w = w' := by
  unfold inR at h
  subst h
  go_enter Try.func60, Try.ntmps60
  go_wp2
  all_goals (go_ret; exact ⟨ret_bool (by simp; try omega), rfl⟩)
theorem isNumber_lit (n : Int) (c : Bool) (w : World) (h : inR n 0 2147483647 = c) : Calls Try.prog 55 #[.int .i64 n] w fun e w' => e = .returned (.bool c) ∧ w = w' := by
  have C := Lib.hid (min_lit n 0 2147483647 c w h)
  clear h
  go_enter Try.func55, Try.ntmps55
  go_wp2_with fail
  refine C.out.mono ?_
  rintro e w' ⟨rfl, rfl⟩
  go_wp2_with fail
  go_ret
  exact ⟨rfl, rfl⟩
theorem isWorker_lit (n : Int) (c : Bool) (w : World) (h : inR n 1 5 = c) : Calls Try.prog 54 #[.int .i64 n] w fun e w' => e = .returned (.bool c) ∧ w = w' := by
  have C := Lib.hid (min_lit n 1 5 c w h)
  clear h
  go_enter Try.func54, Try.ntmps54
  go_wp2_with fail
  refine C.out.mono ?_
  rintro e w' ⟨rfl, rfl⟩
  go_wp2_with fail
  go_ret
  exact ⟨rfl, rfl⟩
theorem isSlot_lit (n : Int) (c : Bool) (w : World) (h : inR n 0 3 = c) : Calls Try.prog 56 #[.int .i64 n] w fun e w' => e = .returned (.bool c) ∧ w = w' := by
  have C := Lib.hid (min_lit n 0 3 c w h)
  clear h
  go_enter Try.func56, Try.ntmps56
  go_wp2_with fail
  refine C.out.mono ?_
  rintro e w' ⟨rfl, rfl⟩
  go_wp2_with fail
  go_ret
  exact ⟨rfl, rfl⟩
theorem isShard_lit (n : Int) (c : Bool) (w : World) (h : inR n 0 5 = c) : Calls Try.prog 57 #[.int .i64 n] w fun e w' => e = .returned (.bool c) ∧ w = w' := by
  have C := Lib.hid (min_lit n 0 5 c w h)
  clear h
  go_enter Try.func57, Try.ntmps57
  go_wp2_with fail
  refine C.out.mono ?_
  rintro e w' ⟨rfl, rfl⟩
  go_wp2_with fail
  go_ret
  exact ⟨rfl, rfl⟩
theorem isDist_lit (n : Int) (c : Bool) (w : World) (h : inR n 0 4 = c) : Calls Try.prog 59 #[.int .i64 n] w fun e w' => e = .returned (.bool c) ∧ w = w' := by
  have C := Lib.hid (min_lit n 0 4 c w h)
  clear h
  go_enter Try.func59, Try.ntmps59
  go_wp2_with fail
  refine C.out.mono ?_
  rintro e w' ⟨rfl, rfl⟩
  go_wp2_with fail
  go_ret
  exact ⟨rfl, rfl⟩
def mayItem (k : KV) : Bool := inR k.1 0 4 && decide (wordP k.2)
theorem box2m (w : World) (u v : Value) (t : TypeId) : (w.alloc (.cells #[u, v] t)).cell? ⟨w.heap.size, 0, none⟩ = some u ∧ (w.alloc (.cells #[u, v] t)).cell? ⟨w.heap.size, 1, none⟩ = some v := ⟨by rw [World.cell?_alloc_mark]; rfl, by rw [World.cell?_alloc_mark]; rfl⟩
theorem validItem_lit (k1 : Int) (k2 : Tx) (c : Bool) (w : World) (hs : k2.size ≤ 9223372036854775807) (h : mayItem (k1, k2) = c) :
    Calls Try.prog 82 #[.agg #[.int .i64 k1, .string k2]] w fun e w' => e = .returned (.bool c) ∧ Below w.heap.size w w' := by
  unfold mayItem at h
  simp only at h
  obtain ⟨z1, h1⟩ : ∃ z, inR k1 0 4 = z := ⟨_, rfl⟩
  obtain ⟨z2, h2⟩ : ∃ z, decide (wordP k2) = z := ⟨_, rfl⟩
  rw [h1, h2] at h
  have C1 := Lib.hid (fun w => isDist_lit k1 z1 w h1)
  have C2 := Lib.hid (fun w => word_bool' (w := w) k2 z2 hs h2)
  have BX := Lib.hid (below_one w (.cells #[.int .i64 k1, .string k2] 27))
  clear h1 h2 hs
  cases z1
  · simp only [Bool.false_and] at h
    subst h
    clear C2
    go_enter Try.func82, Try.ntmps82
    go_wp2_with fail
    refine (C1.out _).mono ?_
    rintro e w' ⟨rfl, rfl⟩
    go_wp2_with fail
    go_ret
    exact ⟨rfl, BX.out⟩
  · simp only [Bool.true_and] at h
    subst h
    go_enter Try.func82, Try.ntmps82
    go_wp2_with fail
    refine (C1.out _).mono ?_
    rintro e w' ⟨rfl, rfl⟩
    go_wp2_with fail
    refine (C2.out _).mono ?_
    rintro e w' ⟨rfl, hb⟩
    have BE := Lib.hid (BX.out.trans (hb.mono BX.out.size))
    clear hb
    go_wp2_with fail
    go_ret
    exact ⟨rfl, BE.out⟩
def mayAfter (first : Bool) (k : KV) : Bool := if first then (decide (k.1 = 0) && k.2.toList.isEmpty) else mayItem k
theorem validAfter_lit (first : Bool) (k1 : Int) (k2 : Tx) (c : Bool) (w : World) (hs : k2.size ≤ 9223372036854775807) (h : mayAfter first (k1, k2) = c) :
    Calls Try.prog 61 #[.bool first, .agg #[.int .i64 k1, .string k2]] w fun e w' => e = .returned (.bool c) ∧ Below w.heap.size w w' := by
  have BX := Lib.hid (below_one w (.cells #[.int .i64 k1, .string k2] 27))
  unfold mayAfter at h
  cases first
  · simp only [Bool.false_eq_true, if_false] at h
    have CI := Lib.hid (fun w => validItem_lit k1 k2 c w hs h)
    clear h hs
    go_enter Try.func61, Try.ntmps61
    go_wp2_with fail
    refine (CI.out _).mono ?_
    rintro e w' ⟨rfl, hb⟩
    have BE := Lib.hid (BX.out.trans (hb.mono BX.out.size))
    clear hb
    go_wp2_with fail
    go_ret
    exact ⟨rfl, BE.out⟩
  · simp only [if_true] at h
    clear hs
    by_cases e : k1 = 0
    · subst e
      by_cases e2 : k2.toList = []
      · obtain rfl : c = true := by rw [← h]; simp [e2]
        have f1 : k2.toList.isEmpty = true := by simp [e2]
        have f2 : (k2.toList == []) = true := by simp [e2]
        have E2 := Lib.hid e2
        clear h e2
        go_enter Try.func61, Try.ntmps61
        go_wp2_with fail
        go_ret
        exact ⟨rfl, BX.out⟩
      · obtain rfl : c = false := by rw [← h]; simp [e2]
        have f1 : k2.toList.isEmpty = false := by simp [e2]
        have f2 : (k2.toList == []) = false := by simp [e2]
        have f3 : (!k2.toList.isEmpty) = true := by simp [e2]
        clear h
        go_enter Try.func61, Try.ntmps61
        go_wp2_with fail
        go_ret
        exact ⟨rfl, BX.out⟩
    · obtain rfl : c = false := by rw [← h]; simp [e]
      have f0 : (k1 == 0) = false := by simpa using e
      clear h
      go_enter Try.func61, Try.ntmps61
      go_wp2_with fail
      go_ret
      exact ⟨rfl, BX.out⟩
theorem vi_carry {w1 w' w'' : World} {p : Nat} {u v : Value} (h : Below w1.heap.size w1 w' ∧ w'.cell? ⟨p, 0, none⟩ = some u ∧ w'.cell? ⟨p, 1, none⟩ = some v) (hb : Below w'.heap.size w' w'') : Below w1.heap.size w1 w'' ∧ w''.cell? ⟨p, 0, none⟩ = some u ∧ w''.cell? ⟨p, 1, none⟩ = some v :=
  ⟨h.1.trans (hb.mono h.1.size), (hb.cell (p := ⟨p, 0, none⟩) (lt_of_cell h.2.1)).trans h.2.1, (hb.cell (p := ⟨p, 1, none⟩) (lt_of_cell h.2.2)).trans h.2.2⟩
theorem vi_carry2 {w1 w' w'' : World} {p q o : Nat} {u v x y : Value} (h : (Below w1.heap.size w1 w' ∧ w'.cell? ⟨p, 0, none⟩ = some u ∧ w'.cell? ⟨p, 1, none⟩ = some v) ∧ w'.cell? ⟨q, o, none⟩ = some x ∧ w'.cell? ⟨q, o + 1, none⟩ = some y) (hb : Below w'.heap.size w' w'') : (Below w1.heap.size w1 w'' ∧ w''.cell? ⟨p, 0, none⟩ = some u ∧ w''.cell? ⟨p, 1, none⟩ = some v) ∧ w''.cell? ⟨q, o, none⟩ = some x ∧ w''.cell? ⟨q, o + 1, none⟩ = some y :=
  ⟨vi_carry h.1 hb, (hb.cell (p := ⟨q, o, none⟩) (lt_of_cell h.2.1)).trans h.2.1, (hb.cell (p := ⟨q, o + 1, none⟩) (lt_of_cell h.2.2)).trans h.2.2⟩
def stepI (ks : List KV) (i : Nat) : Bool := mayItem (ks.getD i k0) && (decide (i = 0) || lessK (ks.getD (i - 1) k0) (ks.getD i k0))
def fitI (ks : List KV) (n : Nat) : Bool := (List.range n).all (stepI ks)
theorem fitI_succ (ks : List KV) (n : Nat) : fitI ks (n + 1) = (fitI ks n && stepI ks n) := by
  unfold fitI; rw [List.range_succ, List.all_append]; simp
theorem fitI_stop {ks : List KV} {j : Nat} (h : fitI ks j = false) : ∀ n, j ≤ n → fitI ks n = false
  | 0, hj => by obtain rfl : j = 0 := by omega
                exact h
  | n + 1, hj => by
    rcases Nat.eq_or_lt_of_le hj with e | e
    · subst e; exact h
    · rw [fitI_succ, fitI_stop h n (by omega)]; rfl
def mayItems (ks : List KV) : Bool := decide (ks.length ≤ 5) && fitI ks ks.length
set_option maxHeartbeats 3200000 in
theorem validItems_lit (a : Option Addr) (n cap : Nat) (ks : List KV) (c : Bool) (w : World) (hh : HoldsK w a n ks) (hs : ∀ k ∈ ks, k.2.size ≤ 9223372036854775807) (hn : n ≤ 9223372036854775807) (h : mayItems ks = c) :
    Calls Try.prog 62 #[.slice a n cap] w fun e w' => e = .returned (.bool c) ∧ Below w.heap.size w w' := by
  have HL := Lib.hid hh.len
  have HH := Lib.hid hh; have HS := Lib.hid hs
  unfold mayItems at h
  rw [hh.len] at h
  clear hh hs
  by_cases h5 : n ≤ 5
  · rw [decide_eq_true h5, Bool.true_and] at h
    have HC := Lib.hid h
    have d1 : decide ((n : Int) > 5) = false := decide_eq_false (by omega)
    have d2 : decide (5 < n) = false := decide_eq_false (by omega)
    clear h
    go_enter Try.func62, Try.ntmps62
    go_wp2_with fail
    go_loopw [10] (fun iv wr => ∃ j : Nat, j ≤ n ∧ iv = .int .i64 (j : Int) ∧ Hid (fitI ks j = true) ∧ Hid (Below w.heap.size w wr)) (fun iv _ => n - (intOf iv).toNat)
    case atStart => exact ⟨0, by omega, rfl, Lib.hid rfl, Lib.hid (Below.refl _ _)⟩
    case round =>
      obtain ⟨j, hj, rfl, hF, hB⟩ := hrel
      rename World => wr
      by_cases hlt : j < n
      · obtain ⟨qb, qo, rfl, hcc⟩ := HH.out.at (by omega)
        have hcc2 := Lib.hid hcc
        obtain ⟨x0, x1⟩ := hcc j hlt
        obtain ⟨k, hk⟩ : ∃ k, ks.getD j k0 = k := ⟨_, rfl⟩
        have hks := HS.out k (by rw [← hk]; exact getD_memK ks j (by rw [HL.out]; exact hlt))
        have hst := fitI_succ ks j
        rw [hF.out, Bool.true_and] at hst
        unfold stepI at hst
        rw [hk] at x0 x1 hst
        obtain ⟨k1, k2⟩ := k
        simp only at x0 x1 hks
        obtain ⟨z1, hz1⟩ : ∃ z, mayItem (k1, k2) = z := ⟨_, rfl⟩
        rw [hz1] at hst
        have C1 := Lib.hid (fun w => validItem_lit k1 k2 z1 w hks hz1)
        have y0 := (hB.out.cell (p := ⟨qb, qo + j * 2, none⟩) (lt_of_cell x0)).trans x0
        have y1 := (hB.out.cell (p := ⟨qb, qo + j * 2 + 1, none⟩) (lt_of_cell x1)).trans x1
        have n1 : (0 : Int) ≤ (j : Int) := by omega
        have n2 : (j : Int) < (n : Int) := by omega
        have STOP := Lib.hid (fun (h : fitI ks (j + 1) = false) => (show c = false from by rw [← HC.out]; exact fitI_stop h n (by omega)))
        have HST := Lib.hid hst
        have HK := Lib.hid hk
        have BX := Lib.hid (below_one wr (.cells #[.int .i64 k1, .string k2] 27))
        have XB := Lib.hid (box2m wr (.int .i64 k1) (.string k2) 27)
        have BW := Lib.hid (hB.out.trans (BX.out.mono hB.out.size))
        clear x0 x1 hz1 hst hk hks hcc
        go_upto_region 6 with fail
        obtain ⟨b0, b1⟩ := XB.out
        generalize wr.alloc (.cells #[.int .i64 k1, .string k2] 27) = w1 at *
        generalize wr.heap.size = p at *
        have TD := Lib.hid (show Below w1.heap.size w1 w1.drew ∧ w1.drew.cell? ⟨p, 0, none⟩ = some (.int .i64 k1) ∧ w1.drew.cell? ⟨p, 1, none⟩ = some (.string k2) from ⟨(Below.refl _ _).drew, b0, b1⟩)
        cases z1
        · obtain rfl : c = false := STOP.out (by rw [HST.out]; rfl)
          clear y0 y1 STOP HST b0 b1
          refine wp_region_held_drew (S := (fun w' => Below w1.heap.size w1 w' ∧ w'.cell? ⟨p, 0, none⟩ = some (.int .i64 k1) ∧ w'.cell? ⟨p, 1, none⟩ = some (.string k2))) (by kernel_rfl) TD.out (fun hHeld0 => ?_)
          refine wpAnyH_take (i := 0) (oi := { dst := some 15, op := Op.load 27 (Operand.tmp 4), type := 27, pos := "valid.go:45", after := #[], guard := none }) (v := ?va0) rfl (by kernel_rfl) (by kernel_rfl) (by kernel_rfl) (fun _ _ _ h => h) (Or.inl ⟨by rfl, ?hya0⟩) (by assumption) ?resta0
          case hya0 => (intro w hSw; (try dsimp only at hSw); go_simp; (try with_reducible rfl))
          try simp only [Act.put, List.setIfInBounds_toArray, List.set_cons_zero, List.set_cons_succ]
          refine wpAnyH_ready (rs := [1]) (by kernel_rfl) (by simp) ?_
          refine AllReadyH.cons (o := { dst := some 16, op := Op.call { callee := Callee.value (Operand.func 82), args := #[Operand.tmp 15], argTypes := #[27] }, type := 4, pos := "valid.go:45", after := #[{ on := 0, ground := Ground.data }], guard := none }) rfl (fun K hK => ?_) AllReadyH.nil
          go_simp
          go_at_call 82
          refine (C1.out _).mono ?_
          rintro e' w2 ⟨rfl, hb⟩
          go_wp2_with fail
          refine hK.out _ _ ?_ (fun hHeld1 => ?_)
          · exact vi_carry hHeld0 hb
          clear hK K hHeld0 hb
          try simp only [Act.put, List.setIfInBounds_toArray, List.set_cons_zero, List.set_cons_succ]
          refine wpAnyH_take (i := 2) (oi := { dst := some 17, op := Op.unOp UnOp.not 4 (Operand.tmp 16), type := 4, pos := "valid.go:45", after := #[{ on := 1, ground := Ground.data }], guard := none }) (v := ?va2) rfl (by kernel_rfl) (by kernel_rfl) (by kernel_rfl) (fun _ _ _ h => h) (Or.inl ⟨by rfl, ?hya2⟩) (by assumption) ?resta2
          case hya2 => (intro w hSw; (try dsimp only at hSw); go_simp; (try with_reducible rfl))
          try simp only [Act.put, List.setIfInBounds_toArray, List.set_cons_zero, List.set_cons_succ]
          refine wpAnyH_take (i := 3) (oi := { dst := some 18, op := Op.move (Operand.tmp 17), type := 4, pos := "valid.go:45", after := #[{ on := 2, ground := Ground.data }, { on := 1, ground := Ground.chain }], guard := none }) (v := ?va3) rfl (by kernel_rfl) (by kernel_rfl) (by kernel_rfl) (fun _ _ _ h => h) (Or.inl ⟨by rfl, ?hya3⟩) (by assumption) ?resta3
          case hya3 => (intro w hSw; (try dsimp only at hSw); go_simp; (try with_reducible rfl))
          try simp only [Act.put, List.setIfInBounds_toArray, List.set_cons_zero, List.set_cons_succ]
          refine wpAnyH_take (i := 4) (oi := { dst := some 19, op := Op.move (Operand.tmp 3), type := 3, pos := "valid.go:45", after := #[{ on := 3, ground := Ground.guard }], guard := some (3, false) }) rfl (by kernel_rfl) (by kernel_rfl) (by kernel_rfl) (fun _ _ _ h => h) (Or.inr ⟨by rfl, rfl⟩) (by assumption) ?_
          try simp only [Act.put, List.setIfInBounds_toArray, List.set_cons_zero, List.set_cons_succ]
          refine wpAnyH_take (i := 5) (oi := { dst := some 20, op := Op.binOp BinOp.gtr 3 (Operand.tmp 19) (Operand.const (Value.int IntKind.i64 0)) 3, type := 4, pos := "valid.go:45", after := #[{ on := 4, ground := Ground.data }, { on := 3, ground := Ground.guard }], guard := some (3, false) }) rfl (by kernel_rfl) (by kernel_rfl) (by kernel_rfl) (fun _ _ _ h => h) (Or.inr ⟨by rfl, rfl⟩) (by assumption) ?_
          try simp only [Act.put, List.setIfInBounds_toArray, List.set_cons_zero, List.set_cons_succ]
          refine wpAnyH_take (i := 6) (oi := { dst := some 21, op := Op.move (Operand.tmp 20), type := 4, pos := "valid.go:45", after := #[{ on := 5, ground := Ground.data }, { on := 3, ground := Ground.chain }, { on := 3, ground := Ground.guard }], guard := some (3, false) }) rfl (by kernel_rfl) (by kernel_rfl) (by kernel_rfl) (fun _ _ _ h => h) (Or.inr ⟨by rfl, rfl⟩) (by assumption) ?_
          try simp only [Act.put, List.setIfInBounds_toArray, List.set_cons_zero, List.set_cons_succ]
          refine wpAnyH_take (i := 7) (oi := { dst := some 22, op := Op.move (Operand.tmp 0), type := 30, pos := "valid.go:45", after := #[{ on := 6, ground := Ground.guard }], guard := some (6, true) }) rfl (by kernel_rfl) (by kernel_rfl) (by kernel_rfl) (fun _ _ _ h => h) (Or.inr ⟨by rfl, rfl⟩) (by assumption) ?_
          try simp only [Act.put, List.setIfInBounds_toArray, List.set_cons_zero, List.set_cons_succ]
          refine wpAnyH_take (i := 8) (oi := { dst := some 23, op := Op.move (Operand.tmp 3), type := 3, pos := "valid.go:45", after := #[{ on := 6, ground := Ground.guard }], guard := some (6, true) }) rfl (by kernel_rfl) (by kernel_rfl) (by kernel_rfl) (fun _ _ _ h => h) (Or.inr ⟨by rfl, rfl⟩) (by assumption) ?_
          try simp only [Act.put, List.setIfInBounds_toArray, List.set_cons_zero, List.set_cons_succ]
          refine wpAnyH_take (i := 9) (oi := { dst := some 24, op := Op.binOp BinOp.sub 3 (Operand.tmp 23) (Operand.const (Value.int IntKind.i64 1)) 3, type := 3, pos := "valid.go:45", after := #[{ on := 8, ground := Ground.data }, { on := 6, ground := Ground.guard }], guard := some (6, true) }) rfl (by kernel_rfl) (by kernel_rfl) (by kernel_rfl) (fun _ _ _ h => h) (Or.inr ⟨by rfl, rfl⟩) (by assumption) ?_
          try simp only [Act.put, List.setIfInBounds_toArray, List.set_cons_zero, List.set_cons_succ]
          refine wpAnyH_take (i := 10) (oi := { dst := some 25, op := Op.indexAddr 30 (Operand.tmp 22) (Operand.tmp 24), type := 0, pos := "valid.go:45", after := #[{ on := 7, ground := Ground.data }, { on := 9, ground := Ground.data }, { on := 6, ground := Ground.guard }], guard := some (6, true) }) rfl (by kernel_rfl) (by kernel_rfl) (by kernel_rfl) (fun _ _ _ h => h) (Or.inr ⟨by rfl, rfl⟩) (by assumption) ?_
          try simp only [Act.put, List.setIfInBounds_toArray, List.set_cons_zero, List.set_cons_succ]
          refine wpAnyH_take (i := 11) (oi := { dst := some 26, op := Op.load 27 (Operand.tmp 25), type := 27, pos := "valid.go:45", after := #[{ on := 10, ground := Ground.data }, { on := 6, ground := Ground.guard }], guard := some (6, true) }) rfl (by kernel_rfl) (by kernel_rfl) (by kernel_rfl) (fun _ _ _ h => h) (Or.inr ⟨by rfl, rfl⟩) (by assumption) ?_
          try simp only [Act.put, List.setIfInBounds_toArray, List.set_cons_zero, List.set_cons_succ]
          refine wpAnyH_take (i := 12) (oi := { dst := some 27, op := Op.load 27 (Operand.tmp 4), type := 27, pos := "valid.go:45", after := #[{ on := 6, ground := Ground.guard }], guard := some (6, true) }) rfl (by kernel_rfl) (by kernel_rfl) (by kernel_rfl) (fun _ _ _ h => h) (Or.inr ⟨by rfl, rfl⟩) (by assumption) ?_
          try simp only [Act.put, List.setIfInBounds_toArray, List.set_cons_zero, List.set_cons_succ]
          refine wpAnyH_take (i := 13) (oi := { dst := some 28, op := Op.call { callee := Callee.value (Operand.func 83), args := #[Operand.tmp 26, Operand.tmp 27], argTypes := #[27, 27] }, type := 4, pos := "valid.go:45", after := #[{ on := 11, ground := Ground.data }, { on := 12, ground := Ground.data }, { on := 6, ground := Ground.chain }, { on := 6, ground := Ground.guard }], guard := some (6, true) }) rfl (by kernel_rfl) (by kernel_rfl) (by kernel_rfl) (fun _ _ _ h => h) (Or.inr ⟨by rfl, rfl⟩) (by assumption) ?_
          try simp only [Act.put, List.setIfInBounds_toArray, List.set_cons_zero, List.set_cons_succ]
          refine wpAnyH_take (i := 14) (oi := { dst := some 29, op := Op.unOp UnOp.not 4 (Operand.tmp 28), type := 4, pos := "valid.go:45", after := #[{ on := 13, ground := Ground.data }, { on := 6, ground := Ground.guard }], guard := some (6, true) }) rfl (by kernel_rfl) (by kernel_rfl) (by kernel_rfl) (fun _ _ _ h => h) (Or.inr ⟨by rfl, rfl⟩) (by assumption) ?_
          try simp only [Act.put, List.setIfInBounds_toArray, List.set_cons_zero, List.set_cons_succ]
          refine wpAnyH_take (i := 15) (oi := { dst := some 30, op := Op.pick (Operand.tmp 21) (Operand.tmp 29) (Operand.const (Value.bool false)), type := 4, pos := "valid.go:45", after := #[{ on := 6, ground := Ground.data }, { on := 14, ground := Ground.data }, { on := 3, ground := Ground.guard }], guard := some (3, false) }) rfl (by kernel_rfl) (by kernel_rfl) (by kernel_rfl) (fun _ _ _ h => h) (Or.inr ⟨by rfl, rfl⟩) (by assumption) ?_
          try simp only [Act.put, List.setIfInBounds_toArray, List.set_cons_zero, List.set_cons_succ]
          refine wpAnyH_take (i := 16) (oi := { dst := some 31, op := Op.pick (Operand.tmp 18) (Operand.const (Value.bool true)) (Operand.tmp 30), type := 4, pos := "valid.go:45", after := #[{ on := 3, ground := Ground.data }, { on := 15, ground := Ground.data }], guard := none }) (v := ?va16) rfl (by kernel_rfl) (by kernel_rfl) (by kernel_rfl) (fun _ _ _ h => h) (Or.inl ⟨by rfl, ?hya16⟩) (by assumption) ?resta16
          case hya16 => (intro w hSw; (try dsimp only at hSw); go_simp; (try with_reducible rfl))
          try simp only [Act.put, List.setIfInBounds_toArray, List.set_cons_zero, List.set_cons_succ]
          refine wpAnyH_done (by kernel_rfl) ?_ _
          have BF := Lib.hid (BW.out.trans (hHeld1.1.mono BW.out.size))
          clear hHeld1
          go_wp2_with fail
          go_ret
          exact ⟨rfl, BF.out⟩
        · rcases Nat.eq_zero_or_pos j with rfl | hj0
          · have FN := Lib.hid (show fitI ks (0 + 1) = true from by rw [HST.out]; rfl)
            clear y0 y1 STOP HST b0 b1
            refine wp_region_held_drew (S := (fun w' => Below w1.heap.size w1 w' ∧ w'.cell? ⟨p, 0, none⟩ = some (.int .i64 k1) ∧ w'.cell? ⟨p, 1, none⟩ = some (.string k2))) (by kernel_rfl) TD.out (fun hHeld0 => ?_)
            refine wpAnyH_take (i := 0) (oi := { dst := some 15, op := Op.load 27 (Operand.tmp 4), type := 27, pos := "valid.go:45", after := #[], guard := none }) (v := ?vb0) rfl (by kernel_rfl) (by kernel_rfl) (by kernel_rfl) (fun _ _ _ h => h) (Or.inl ⟨by rfl, ?hyb0⟩) (by assumption) ?restb0
            case hyb0 => (intro w hSw; (try dsimp only at hSw); go_simp; (try with_reducible rfl))
            try simp only [Act.put, List.setIfInBounds_toArray, List.set_cons_zero, List.set_cons_succ]
            refine wpAnyH_ready (rs := [1]) (by kernel_rfl) (by simp) ?_
            refine AllReadyH.cons (o := { dst := some 16, op := Op.call { callee := Callee.value (Operand.func 82), args := #[Operand.tmp 15], argTypes := #[27] }, type := 4, pos := "valid.go:45", after := #[{ on := 0, ground := Ground.data }], guard := none }) rfl (fun K hK => ?_) AllReadyH.nil
            go_simp
            go_at_call 82
            refine (C1.out _).mono ?_
            rintro e' w2 ⟨rfl, hb⟩
            go_wp2_with fail
            refine hK.out _ _ ?_ (fun hHeld1 => ?_)
            · exact vi_carry hHeld0 hb
            clear hK K hHeld0 hb
            try simp only [Act.put, List.setIfInBounds_toArray, List.set_cons_zero, List.set_cons_succ]
            refine wpAnyH_take (i := 2) (oi := { dst := some 17, op := Op.unOp UnOp.not 4 (Operand.tmp 16), type := 4, pos := "valid.go:45", after := #[{ on := 1, ground := Ground.data }], guard := none }) (v := ?vb2) rfl (by kernel_rfl) (by kernel_rfl) (by kernel_rfl) (fun _ _ _ h => h) (Or.inl ⟨by rfl, ?hyb2⟩) (by assumption) ?restb2
            case hyb2 => (intro w hSw; (try dsimp only at hSw); go_simp; (try with_reducible rfl))
            try simp only [Act.put, List.setIfInBounds_toArray, List.set_cons_zero, List.set_cons_succ]
            refine wpAnyH_take (i := 3) (oi := { dst := some 18, op := Op.move (Operand.tmp 17), type := 4, pos := "valid.go:45", after := #[{ on := 2, ground := Ground.data }, { on := 1, ground := Ground.chain }], guard := none }) (v := ?vb3) rfl (by kernel_rfl) (by kernel_rfl) (by kernel_rfl) (fun _ _ _ h => h) (Or.inl ⟨by rfl, ?hyb3⟩) (by assumption) ?restb3
            case hyb3 => (intro w hSw; (try dsimp only at hSw); go_simp; (try with_reducible rfl))
            try simp only [Act.put, List.setIfInBounds_toArray, List.set_cons_zero, List.set_cons_succ]
            refine wpAnyH_take (i := 4) (oi := { dst := some 19, op := Op.move (Operand.tmp 3), type := 3, pos := "valid.go:45", after := #[{ on := 3, ground := Ground.guard }], guard := some (3, false) }) (v := ?vb4) rfl (by kernel_rfl) (by kernel_rfl) (by kernel_rfl) (fun _ _ _ h => h) (Or.inl ⟨by rfl, ?hyb4⟩) (by assumption) ?restb4
            case hyb4 => (intro w hSw; (try dsimp only at hSw); go_simp; (try with_reducible rfl))
            try simp only [Act.put, List.setIfInBounds_toArray, List.set_cons_zero, List.set_cons_succ]
            refine wpAnyH_take (i := 5) (oi := { dst := some 20, op := Op.binOp BinOp.gtr 3 (Operand.tmp 19) (Operand.const (Value.int IntKind.i64 0)) 3, type := 4, pos := "valid.go:45", after := #[{ on := 4, ground := Ground.data }, { on := 3, ground := Ground.guard }], guard := some (3, false) }) (v := ?vb5) rfl (by kernel_rfl) (by kernel_rfl) (by kernel_rfl) (fun _ _ _ h => h) (Or.inl ⟨by rfl, ?hyb5⟩) (by assumption) ?restb5
            case hyb5 => (intro w hSw; (try dsimp only at hSw); go_simp; (try with_reducible rfl))
            try simp only [Act.put, List.setIfInBounds_toArray, List.set_cons_zero, List.set_cons_succ]
            refine wpAnyH_take (i := 6) (oi := { dst := some 21, op := Op.move (Operand.tmp 20), type := 4, pos := "valid.go:45", after := #[{ on := 5, ground := Ground.data }, { on := 3, ground := Ground.chain }, { on := 3, ground := Ground.guard }], guard := some (3, false) }) (v := ?vb6) rfl (by kernel_rfl) (by kernel_rfl) (by kernel_rfl) (fun _ _ _ h => h) (Or.inl ⟨by rfl, ?hyb6⟩) (by assumption) ?restb6
            case hyb6 => (intro w hSw; (try dsimp only at hSw); go_simp; (try with_reducible rfl))
            try simp only [Act.put, List.setIfInBounds_toArray, List.set_cons_zero, List.set_cons_succ]
            refine wpAnyH_take (i := 7) (oi := { dst := some 22, op := Op.move (Operand.tmp 0), type := 30, pos := "valid.go:45", after := #[{ on := 6, ground := Ground.guard }], guard := some (6, true) }) rfl (by kernel_rfl) (by kernel_rfl) (by kernel_rfl) (fun _ _ _ h => h) (Or.inr ⟨by rfl, rfl⟩) (by assumption) ?_
            try simp only [Act.put, List.setIfInBounds_toArray, List.set_cons_zero, List.set_cons_succ]
            refine wpAnyH_take (i := 8) (oi := { dst := some 23, op := Op.move (Operand.tmp 3), type := 3, pos := "valid.go:45", after := #[{ on := 6, ground := Ground.guard }], guard := some (6, true) }) rfl (by kernel_rfl) (by kernel_rfl) (by kernel_rfl) (fun _ _ _ h => h) (Or.inr ⟨by rfl, rfl⟩) (by assumption) ?_
            try simp only [Act.put, List.setIfInBounds_toArray, List.set_cons_zero, List.set_cons_succ]
            refine wpAnyH_take (i := 9) (oi := { dst := some 24, op := Op.binOp BinOp.sub 3 (Operand.tmp 23) (Operand.const (Value.int IntKind.i64 1)) 3, type := 3, pos := "valid.go:45", after := #[{ on := 8, ground := Ground.data }, { on := 6, ground := Ground.guard }], guard := some (6, true) }) rfl (by kernel_rfl) (by kernel_rfl) (by kernel_rfl) (fun _ _ _ h => h) (Or.inr ⟨by rfl, rfl⟩) (by assumption) ?_
            try simp only [Act.put, List.setIfInBounds_toArray, List.set_cons_zero, List.set_cons_succ]
            refine wpAnyH_take (i := 10) (oi := { dst := some 25, op := Op.indexAddr 30 (Operand.tmp 22) (Operand.tmp 24), type := 0, pos := "valid.go:45", after := #[{ on := 7, ground := Ground.data }, { on := 9, ground := Ground.data }, { on := 6, ground := Ground.guard }], guard := some (6, true) }) rfl (by kernel_rfl) (by kernel_rfl) (by kernel_rfl) (fun _ _ _ h => h) (Or.inr ⟨by rfl, rfl⟩) (by assumption) ?_
            try simp only [Act.put, List.setIfInBounds_toArray, List.set_cons_zero, List.set_cons_succ]
            refine wpAnyH_take (i := 11) (oi := { dst := some 26, op := Op.load 27 (Operand.tmp 25), type := 27, pos := "valid.go:45", after := #[{ on := 10, ground := Ground.data }, { on := 6, ground := Ground.guard }], guard := some (6, true) }) rfl (by kernel_rfl) (by kernel_rfl) (by kernel_rfl) (fun _ _ _ h => h) (Or.inr ⟨by rfl, rfl⟩) (by assumption) ?_
            try simp only [Act.put, List.setIfInBounds_toArray, List.set_cons_zero, List.set_cons_succ]
            refine wpAnyH_take (i := 12) (oi := { dst := some 27, op := Op.load 27 (Operand.tmp 4), type := 27, pos := "valid.go:45", after := #[{ on := 6, ground := Ground.guard }], guard := some (6, true) }) rfl (by kernel_rfl) (by kernel_rfl) (by kernel_rfl) (fun _ _ _ h => h) (Or.inr ⟨by rfl, rfl⟩) (by assumption) ?_
            try simp only [Act.put, List.setIfInBounds_toArray, List.set_cons_zero, List.set_cons_succ]
            refine wpAnyH_take (i := 13) (oi := { dst := some 28, op := Op.call { callee := Callee.value (Operand.func 83), args := #[Operand.tmp 26, Operand.tmp 27], argTypes := #[27, 27] }, type := 4, pos := "valid.go:45", after := #[{ on := 11, ground := Ground.data }, { on := 12, ground := Ground.data }, { on := 6, ground := Ground.chain }, { on := 6, ground := Ground.guard }], guard := some (6, true) }) rfl (by kernel_rfl) (by kernel_rfl) (by kernel_rfl) (fun _ _ _ h => h) (Or.inr ⟨by rfl, rfl⟩) (by assumption) ?_
            try simp only [Act.put, List.setIfInBounds_toArray, List.set_cons_zero, List.set_cons_succ]
            refine wpAnyH_take (i := 14) (oi := { dst := some 29, op := Op.unOp UnOp.not 4 (Operand.tmp 28), type := 4, pos := "valid.go:45", after := #[{ on := 13, ground := Ground.data }, { on := 6, ground := Ground.guard }], guard := some (6, true) }) rfl (by kernel_rfl) (by kernel_rfl) (by kernel_rfl) (fun _ _ _ h => h) (Or.inr ⟨by rfl, rfl⟩) (by assumption) ?_
            try simp only [Act.put, List.setIfInBounds_toArray, List.set_cons_zero, List.set_cons_succ]
            refine wpAnyH_take (i := 15) (oi := { dst := some 30, op := Op.pick (Operand.tmp 21) (Operand.tmp 29) (Operand.const (Value.bool false)), type := 4, pos := "valid.go:45", after := #[{ on := 6, ground := Ground.data }, { on := 14, ground := Ground.data }, { on := 3, ground := Ground.guard }], guard := some (3, false) }) (v := ?vb15) rfl (by kernel_rfl) (by kernel_rfl) (by kernel_rfl) (fun _ _ _ h => h) (Or.inl ⟨by rfl, ?hyb15⟩) (by assumption) ?restb15
            case hyb15 => (intro w hSw; (try dsimp only at hSw); go_simp; (try with_reducible rfl))
            try simp only [Act.put, List.setIfInBounds_toArray, List.set_cons_zero, List.set_cons_succ]
            refine wpAnyH_take (i := 16) (oi := { dst := some 31, op := Op.pick (Operand.tmp 18) (Operand.const (Value.bool true)) (Operand.tmp 30), type := 4, pos := "valid.go:45", after := #[{ on := 3, ground := Ground.data }, { on := 15, ground := Ground.data }], guard := none }) (v := ?vb16) rfl (by kernel_rfl) (by kernel_rfl) (by kernel_rfl) (fun _ _ _ h => h) (Or.inl ⟨by rfl, ?hyb16⟩) (by assumption) ?restb16
            case hyb16 => (intro w hSw; (try dsimp only at hSw); go_simp; (try with_reducible rfl))
            try simp only [Act.put, List.setIfInBounds_toArray, List.set_cons_zero, List.set_cons_succ]
            refine wpAnyH_done (by kernel_rfl) ?_ _
            have BF := Lib.hid (BW.out.trans (hHeld1.1.mono BW.out.size))
            clear hHeld1
            go_wp2_with fail
            go_roundw
            case rel => exact ⟨1, by omega, by go_num, FN, BF⟩
            case measure => simp [intOf] <;> omega
          · obtain ⟨j', hj'⟩ : ∃ j', j - 1 = j' := ⟨_, rfl⟩
            obtain ⟨z0, z1⟩ := hcc2.out j' (by omega)
            obtain ⟨kp, hkp⟩ : ∃ kp, ks.getD j' k0 = kp := ⟨_, rfl⟩
            rw [hkp] at z0 z1
            obtain ⟨p1, p2⟩ := kp
            simp only at z0 z1
            obtain ⟨zl, hzl⟩ : ∃ z, lessK (p1, p2) (k1, k2) = z := ⟨_, rfl⟩
            have CL := Lib.hid (fun w => iless_lit (p1, p2) (k1, k2) zl w hzl)
            have HST2 := Lib.hid (show fitI ks (j + 1) = zl from by rw [HST.out, hj', hkp, hzl, decide_eq_false (by omega)]; rfl)
            have v0 := (BW.out.cell (p := ⟨qb, qo + j' * 2, none⟩) (lt_of_cell z0)).trans z0
            have v1 := (BW.out.cell (p := ⟨qb, qo + j' * 2 + 1, none⟩) (lt_of_cell z1)).trans z1
            have TE := Lib.hid (show ((Below w1.heap.size w1 w1.drew ∧ w1.drew.cell? ⟨p, 0, none⟩ = some (.int .i64 k1) ∧ w1.drew.cell? ⟨p, 1, none⟩ = some (.string k2)) ∧ w1.drew.cell? ⟨qb, qo + j' * 2, none⟩ = some (.int .i64 p1) ∧ w1.drew.cell? ⟨qb, qo + j' * 2 + 1, none⟩ = some (.string p2)) from ⟨TD.out, v0, v1⟩)
            have e1 : (j : Int) - 1 = (j' : Int) := by omega
            have w1e : IntKind.i64.wrap (j' : Int) = (j' : Int) := IntWalk.i64_in _ (by omega)
            have g1 : decide ((j : Int) > 0) = true := decide_eq_true (by omega)
            have g2 : decide (0 < j) = true := decide_eq_true (by omega)
            have i1 : (0 : Int) ≤ (j' : Int) := by omega
            have i2 : (j' : Int) < (n : Int) := by omega
            have i3 : j' < n := by omega
            have i4 : (0 : Int) ≤ (j : Int) - 1 := by omega
            have i5 : (j : Int) - 1 < (n : Int) := by omega
            clear y0 y1 z0 z1 hkp hzl v0 v1 HST hj0 b0 b1 hj'
            refine wp_region_held_drew (S := (fun w' => (Below w1.heap.size w1 w' ∧ w'.cell? ⟨p, 0, none⟩ = some (.int .i64 k1) ∧ w'.cell? ⟨p, 1, none⟩ = some (.string k2)) ∧ w'.cell? ⟨qb, qo + j' * 2, none⟩ = some (.int .i64 p1) ∧ w'.cell? ⟨qb, qo + j' * 2 + 1, none⟩ = some (.string p2))) (by kernel_rfl) TE.out (fun hHeld0 => ?_)
            refine wpAnyH_take (i := 0) (oi := { dst := some 15, op := Op.load 27 (Operand.tmp 4), type := 27, pos := "valid.go:45", after := #[], guard := none }) (v := ?vc0) rfl (by kernel_rfl) (by kernel_rfl) (by kernel_rfl) (fun _ _ _ h => h) (Or.inl ⟨by rfl, ?hyc0⟩) (by assumption) ?restc0
            case hyc0 => (intro w hSw; (try dsimp only at hSw); go_simp; (try with_reducible rfl))
            try simp only [Act.put, List.setIfInBounds_toArray, List.set_cons_zero, List.set_cons_succ]
            refine wpAnyH_ready (rs := [1]) (by kernel_rfl) (by simp) ?_
            refine AllReadyH.cons (o := { dst := some 16, op := Op.call { callee := Callee.value (Operand.func 82), args := #[Operand.tmp 15], argTypes := #[27] }, type := 4, pos := "valid.go:45", after := #[{ on := 0, ground := Ground.data }], guard := none }) rfl (fun K hK => ?_) AllReadyH.nil
            go_simp
            go_at_call 82
            refine (C1.out _).mono ?_
            rintro e' w2 ⟨rfl, hb⟩
            go_wp2_with fail
            refine hK.out _ _ ?_ (fun hHeld1 => ?_)
            · exact vi_carry2 hHeld0 hb
            clear hK K hHeld0 hb
            try simp only [Act.put, List.setIfInBounds_toArray, List.set_cons_zero, List.set_cons_succ]
            refine wpAnyH_take (i := 2) (oi := { dst := some 17, op := Op.unOp UnOp.not 4 (Operand.tmp 16), type := 4, pos := "valid.go:45", after := #[{ on := 1, ground := Ground.data }], guard := none }) (v := ?vc2) rfl (by kernel_rfl) (by kernel_rfl) (by kernel_rfl) (fun _ _ _ h => h) (Or.inl ⟨by rfl, ?hyc2⟩) (by assumption) ?restc2
            case hyc2 => (intro w hSw; (try dsimp only at hSw); go_simp; (try with_reducible rfl))
            try simp only [Act.put, List.setIfInBounds_toArray, List.set_cons_zero, List.set_cons_succ]
            refine wpAnyH_take (i := 3) (oi := { dst := some 18, op := Op.move (Operand.tmp 17), type := 4, pos := "valid.go:45", after := #[{ on := 2, ground := Ground.data }, { on := 1, ground := Ground.chain }], guard := none }) (v := ?vc3) rfl (by kernel_rfl) (by kernel_rfl) (by kernel_rfl) (fun _ _ _ h => h) (Or.inl ⟨by rfl, ?hyc3⟩) (by assumption) ?restc3
            case hyc3 => (intro w hSw; (try dsimp only at hSw); go_simp; (try with_reducible rfl))
            try simp only [Act.put, List.setIfInBounds_toArray, List.set_cons_zero, List.set_cons_succ]
            refine wpAnyH_take (i := 4) (oi := { dst := some 19, op := Op.move (Operand.tmp 3), type := 3, pos := "valid.go:45", after := #[{ on := 3, ground := Ground.guard }], guard := some (3, false) }) (v := ?vc4) rfl (by kernel_rfl) (by kernel_rfl) (by kernel_rfl) (fun _ _ _ h => h) (Or.inl ⟨by rfl, ?hyc4⟩) (by assumption) ?restc4
            case hyc4 => (intro w hSw; (try dsimp only at hSw); go_simp; (try with_reducible rfl))
            try simp only [Act.put, List.setIfInBounds_toArray, List.set_cons_zero, List.set_cons_succ]
            refine wpAnyH_take (i := 5) (oi := { dst := some 20, op := Op.binOp BinOp.gtr 3 (Operand.tmp 19) (Operand.const (Value.int IntKind.i64 0)) 3, type := 4, pos := "valid.go:45", after := #[{ on := 4, ground := Ground.data }, { on := 3, ground := Ground.guard }], guard := some (3, false) }) (v := ?vc5) rfl (by kernel_rfl) (by kernel_rfl) (by kernel_rfl) (fun _ _ _ h => h) (Or.inl ⟨by rfl, ?hyc5⟩) (by assumption) ?restc5
            case hyc5 => (intro w hSw; (try dsimp only at hSw); go_simp; (try with_reducible rfl))
            try simp only [Act.put, List.setIfInBounds_toArray, List.set_cons_zero, List.set_cons_succ]
            refine wpAnyH_take (i := 6) (oi := { dst := some 21, op := Op.move (Operand.tmp 20), type := 4, pos := "valid.go:45", after := #[{ on := 5, ground := Ground.data }, { on := 3, ground := Ground.chain }, { on := 3, ground := Ground.guard }], guard := some (3, false) }) (v := ?vc6) rfl (by kernel_rfl) (by kernel_rfl) (by kernel_rfl) (fun _ _ _ h => h) (Or.inl ⟨by rfl, ?hyc6⟩) (by assumption) ?restc6
            case hyc6 => (intro w hSw; (try dsimp only at hSw); go_simp; (try with_reducible rfl))
            try simp only [Act.put, List.setIfInBounds_toArray, List.set_cons_zero, List.set_cons_succ]
            refine wpAnyH_take (i := 7) (oi := { dst := some 22, op := Op.move (Operand.tmp 0), type := 30, pos := "valid.go:45", after := #[{ on := 6, ground := Ground.guard }], guard := some (6, true) }) (v := ?vc7) rfl (by kernel_rfl) (by kernel_rfl) (by kernel_rfl) (fun _ _ _ h => h) (Or.inl ⟨by rfl, ?hyc7⟩) (by assumption) ?restc7
            case hyc7 => (intro w hSw; (try dsimp only at hSw); go_simp; (try with_reducible rfl))
            try simp only [Act.put, List.setIfInBounds_toArray, List.set_cons_zero, List.set_cons_succ]
            refine wpAnyH_take (i := 8) (oi := { dst := some 23, op := Op.move (Operand.tmp 3), type := 3, pos := "valid.go:45", after := #[{ on := 6, ground := Ground.guard }], guard := some (6, true) }) (v := ?vc8) rfl (by kernel_rfl) (by kernel_rfl) (by kernel_rfl) (fun _ _ _ h => h) (Or.inl ⟨by rfl, ?hyc8⟩) (by assumption) ?restc8
            case hyc8 => (intro w hSw; (try dsimp only at hSw); go_simp; (try with_reducible rfl))
            try simp only [Act.put, List.setIfInBounds_toArray, List.set_cons_zero, List.set_cons_succ]
            refine wpAnyH_take (i := 9) (oi := { dst := some 24, op := Op.binOp BinOp.sub 3 (Operand.tmp 23) (Operand.const (Value.int IntKind.i64 1)) 3, type := 3, pos := "valid.go:45", after := #[{ on := 8, ground := Ground.data }, { on := 6, ground := Ground.guard }], guard := some (6, true) }) (v := ?vc9) rfl (by kernel_rfl) (by kernel_rfl) (by kernel_rfl) (fun _ _ _ h => h) (Or.inl ⟨by rfl, ?hyc9⟩) (by assumption) ?restc9
            case hyc9 => (intro w hSw; (try dsimp only at hSw); go_simp; (try with_reducible rfl))
            try simp only [Act.put, List.setIfInBounds_toArray, List.set_cons_zero, List.set_cons_succ]
            refine wpAnyH_take (i := 10) (oi := { dst := some 25, op := Op.indexAddr 30 (Operand.tmp 22) (Operand.tmp 24), type := 0, pos := "valid.go:45", after := #[{ on := 7, ground := Ground.data }, { on := 9, ground := Ground.data }, { on := 6, ground := Ground.guard }], guard := some (6, true) }) (v := ?vc10) rfl (by kernel_rfl) (by kernel_rfl) (by kernel_rfl) (fun _ _ _ h => h) (Or.inl ⟨by rfl, ?hyc10⟩) (by assumption) ?restc10
            case hyc10 => (intro w hSw; (try dsimp only at hSw); go_simp; (try with_reducible rfl))
            try simp only [Act.put, List.setIfInBounds_toArray, List.set_cons_zero, List.set_cons_succ]
            refine wpAnyH_take (i := 11) (oi := { dst := some 26, op := Op.load 27 (Operand.tmp 25), type := 27, pos := "valid.go:45", after := #[{ on := 10, ground := Ground.data }, { on := 6, ground := Ground.guard }], guard := some (6, true) }) (v := ?vc11) rfl (by kernel_rfl) (by kernel_rfl) (by kernel_rfl) (fun _ _ _ h => h) (Or.inl ⟨by rfl, ?hyc11⟩) (by assumption) ?restc11
            case hyc11 => (intro w hSw; (try dsimp only at hSw); go_simp; (try with_reducible rfl))
            try simp only [Act.put, List.setIfInBounds_toArray, List.set_cons_zero, List.set_cons_succ]
            refine wpAnyH_take (i := 12) (oi := { dst := some 27, op := Op.load 27 (Operand.tmp 4), type := 27, pos := "valid.go:45", after := #[{ on := 6, ground := Ground.guard }], guard := some (6, true) }) (v := ?vc12) rfl (by kernel_rfl) (by kernel_rfl) (by kernel_rfl) (fun _ _ _ h => h) (Or.inl ⟨by rfl, ?hyc12⟩) (by assumption) ?restc12
            case hyc12 => (intro w hSw; (try dsimp only at hSw); go_simp; (try with_reducible rfl))
            try simp only [Act.put, List.setIfInBounds_toArray, List.set_cons_zero, List.set_cons_succ]
            refine wpAnyH_ready (rs := [13]) (by kernel_rfl) (by simp) ?_
            refine AllReadyH.cons (o := { dst := some 28, op := Op.call { callee := Callee.value (Operand.func 83), args := #[Operand.tmp 26, Operand.tmp 27], argTypes := #[27, 27] }, type := 4, pos := "valid.go:45", after := #[{ on := 11, ground := Ground.data }, { on := 12, ground := Ground.data }, { on := 6, ground := Ground.chain }, { on := 6, ground := Ground.guard }], guard := some (6, true) }) rfl (fun K hK => ?_) AllReadyH.nil
            go_simp
            go_at_call 83
            refine (CL.out _).mono ?_
            rintro e' w3 ⟨rfl, hb⟩
            go_wp2_with fail
            refine hK.out _ _ ?_ (fun hHeld2 => ?_)
            · exact vi_carry2 hHeld1 hb
            clear hK K hHeld1 hb
            try simp only [Act.put, List.setIfInBounds_toArray, List.set_cons_zero, List.set_cons_succ]
            refine wpAnyH_take (i := 14) (oi := { dst := some 29, op := Op.unOp UnOp.not 4 (Operand.tmp 28), type := 4, pos := "valid.go:45", after := #[{ on := 13, ground := Ground.data }, { on := 6, ground := Ground.guard }], guard := some (6, true) }) (v := ?vc14) rfl (by kernel_rfl) (by kernel_rfl) (by kernel_rfl) (fun _ _ _ h => h) (Or.inl ⟨by rfl, ?hyc14⟩) (by assumption) ?restc14
            case hyc14 => (intro w hSw; (try dsimp only at hSw); go_simp; (try with_reducible rfl))
            try simp only [Act.put, List.setIfInBounds_toArray, List.set_cons_zero, List.set_cons_succ]
            refine wpAnyH_take (i := 15) (oi := { dst := some 30, op := Op.pick (Operand.tmp 21) (Operand.tmp 29) (Operand.const (Value.bool false)), type := 4, pos := "valid.go:45", after := #[{ on := 6, ground := Ground.data }, { on := 14, ground := Ground.data }, { on := 3, ground := Ground.guard }], guard := some (3, false) }) (v := ?vc15) rfl (by kernel_rfl) (by kernel_rfl) (by kernel_rfl) (fun _ _ _ h => h) (Or.inl ⟨by rfl, ?hyc15⟩) (by assumption) ?restc15
            case hyc15 => (intro w hSw; (try dsimp only at hSw); go_simp; (try with_reducible rfl))
            try simp only [Act.put, List.setIfInBounds_toArray, List.set_cons_zero, List.set_cons_succ]
            refine wpAnyH_take (i := 16) (oi := { dst := some 31, op := Op.pick (Operand.tmp 18) (Operand.const (Value.bool true)) (Operand.tmp 30), type := 4, pos := "valid.go:45", after := #[{ on := 3, ground := Ground.data }, { on := 15, ground := Ground.data }], guard := none }) (v := ?vc16) rfl (by kernel_rfl) (by kernel_rfl) (by kernel_rfl) (fun _ _ _ h => h) (Or.inl ⟨by rfl, ?hyc16⟩) (by assumption) ?restc16
            case hyc16 => (intro w hSw; (try dsimp only at hSw); go_simp; (try with_reducible rfl))
            try simp only [Act.put, List.setIfInBounds_toArray, List.set_cons_zero, List.set_cons_succ]
            refine wpAnyH_done (by kernel_rfl) ?_ _
            have BF := Lib.hid (BW.out.trans (hHeld2.1.1.mono BW.out.size))
            clear hHeld2
            cases zl
            · obtain rfl : c = false := STOP.out HST2.out
              go_wp2_with fail
              go_ret
              exact ⟨rfl, BF.out⟩
            · go_wp2_with fail
              go_roundw
              case rel => exact ⟨j + 1, by omega, by go_num, HST2, BF⟩
              case measure => simp [intOf] <;> omega
      · obtain rfl : j = n := by omega
        obtain rfl : c = true := by rw [← HC.out]; exact hF.out
        go_wp2_with fail
        go_ret
        exact ⟨rfl, hB.out⟩
  · rw [decide_eq_false h5, Bool.false_and] at h
    subst h
    have d1 : decide ((n : Int) > 5) = true := decide_eq_true (by omega)
    have d2 : decide (5 < n) = true := decide_eq_true (by omega)
    go_enter Try.func62, Try.ntmps62
    go_wp2_with fail
    go_ret
    exact ⟨rfl, Below.refl _ _⟩
end Go.Proofs.Ythboiklcjpnhbaa
