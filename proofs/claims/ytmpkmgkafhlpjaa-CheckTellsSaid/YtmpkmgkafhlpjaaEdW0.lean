/- rows of edit distances: how they change, their beginnings; two cells kept -/
import Derived.Test.YtmpkmgkafhlpjaaEdT
import Derived.Test.YtmpkmgkafhlpjaaOpR
import Derived.Test.YtmpkmgkafhlpjaaEd50
namespace Go.Proofs.Ytmpkmgkafhlpjaa
open Go.RowKit
set_option linter.unusedVariables false
set_option maxRecDepth 20000
theorem Ed.L_back (a b : List Int) (i : Nat) : ∀ j, Ed.L a b i j ≤ Ed.L a b (i + 1) j + 1 := by
  intro j
  induction j with
  | zero => rw [Ed.L_zero, Ed.L_zero]; omega
  | succ j ih =>
    have h1 := Ed.L_right a b i j; have h2 := Ed.cost_bd (a.getD i 0) (b.getD j 0)
    have h3 : Ed.L a b (i + 1) (j + 1) = min (min (Ed.L a b i j + Ed.cost (a.getD i 0) (b.getD j 0)) (Ed.L a b (i + 1) j + 1)) (Ed.L a b i (j + 1) + 1) := by simp only [Ed.L]
    omega
theorem getD_take_in (l : List Int) (k i : Nat) (h : i < k) : (l.take k).getD i 0 = l.getD i 0 := by
  simp [List.getD_eq_getElem?_getD, h]
theorem Ed.L_take (a b : List Int) (k : Nat) : ∀ i j, i ≤ k → Ed.L (a.take k) b i j = Ed.L a b i j := by
  intro i
  induction i with
  | zero => intro j _; simp only [Ed.L]
  | succ i ih =>
    intro j hi
    induction j with
    | zero => simp only [Ed.L]
    | succ j ihj => simp only [Ed.L]; rw [ih j (by omega), ih (j + 1) (by omega), ihj, getD_take_in a k i (by omega)]
theorem HoldsI.take {k : IntKind} {w : World} {a : Option Addr} {n : Nat} {zs : List Int} (h : HoldsI k w a n zs) (m : Nat) (hm : m ≤ n) : HoldsI k w a m (zs.take m) := by
  refine ⟨by have := h.1; simp; omega, fun h0 => ?_⟩
  obtain ⟨b, o, ha, hc⟩ := h.2 (by omega)
  exact ⟨b, o, ha, fun i hi => by rw [hc i (by omega), getD_take_in zs m i hi]⟩
/-- what lay in two cells lies there still -/
def Two (w1 : World) (g i j : Nat) (x y : Value) (w' : World) : Prop := Below w1.heap.size w1 w' ∧ w'.cell? ⟨g, i, none⟩ = some x ∧ w'.cell? ⟨g, j, none⟩ = some y
theorem two_carry {w1 : World} {g i j : Nat} {x y : Value} {w w' : World} (h : Two w1 g i j x y w) (hb : Below w.heap.size w w') : Two w1 g i j x y w' :=
  ⟨h.1.trans (hb.mono h.1.size), by rw [hb.cell (p := ⟨g, i, none⟩) (lt_of_cell h.2.1)]; exact h.2.1, by rw [hb.cell (p := ⟨g, j, none⟩) (lt_of_cell h.2.2)]; exact h.2.2⟩
theorem eruns_lit (ra rb : List Int) (m n : Nat) (a b : Option Addr) (ca cb : Nat) (w : World) (hm : ra.length = m) (hn : rb.length = n) (ha : HoldsI .i32 w a m ra) (hb : HoldsI .i32 w b n rb) (hla : m ≤ 1048576) (hlb : n ≤ 1048576) :
    Calls Try.prog 47 #[.slice a m ca, .slice b n cb] w fun e w' => e = .returned (.int .i64 (Ed.L ra rb m n)) ∧ Below w.heap.size w w' := by
  subst hm hn; exact eruns_any ra rb a b ca cb w ha hb hla hlb
end Go.Proofs.Ytmpkmgkafhlpjaa
