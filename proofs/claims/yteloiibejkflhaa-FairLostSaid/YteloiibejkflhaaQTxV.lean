/- runes as values -/
import Derived.Test.YteloiibejkflhaaQTx1
namespace Go.Proofs.Yteloiibejkflhaa
open Go.RowKit
set_option linter.unusedVariables false
set_option maxRecDepth 20000
theorem i32_info : (Try.prog.info? 21).map (fun i => (i.zero, i.size, i.bytes)) = some (some (.int .i32 0), 1, 4) := by kernel_rfl
/-- runes as numbers, as values -/
def intsN (rs : List Nat) : List Int := rs.map fun r : Nat => (r : Int)
def runesV (rs : List Int) : List Value := rs.map (Value.int .i32)
/-- A slice of runes that the call made. -/
def RetR (ER : TypeId) (w : World) (rs : List Int) (a : Option Addr) (c : Nat) (w' : World) : Prop :=
  w'.ownsRow w.heap.size ER 1 (.slice a rs.length c) rs.length (runesV rs) ∧ Below w.heap.size w w' ∧ (a = none → rs.length = 0 ∧ c = 0)
theorem RetR.holds {ER : TypeId} {w w' : World} {rs : List Int} {a : Option Addr} {c : Nat} (h : RetR ER w rs a c w') : HoldsI .i32 w' a rs.length rs := by
  have hv := owns_holds h.1
  refine ⟨rfl, fun h0 => ?_⟩
  obtain ⟨b, o, ha, hc⟩ := hv.2 h0
  exact ⟨b, o, ha, fun i hi => by rw [hc i hi, runesV, getD_map_int .i32 rs i hi]⟩
theorem holdsR_values {w : World} {a : Option Addr} {n : Nat} {rs : List Int} (h : HoldsI .i32 w a n rs) : HoldsV w a n (runesV rs) := h.values
theorem runesV_snoc (P : List Nat) (r : Nat) : runesV (intsN (P ++ [r])) = runesV (intsN P) ++ [Value.int .i32 (r : Int)] := by simp [runesV, intsN]
theorem one_cells (w : World) (v : Value) (e : TypeId) (fr : Nat × Nat) : ∀ j u, [v][j]? = some u → (w.alloc (.cells #[v] e fr)).cell? ((⟨w.heap.size, 0, none⟩ : Addr).add j) = some u := one_new w v e fr _ rfl
theorem owns_iterAt {w : World} {base : Nat} {e : TypeId} {size : Nat} {v : Value} {n : Nat} {xs : List Value} (h : w.ownsRow base e size v n xs) {k : Nat} {s : ByteArray} {pos : Nat} (hk : w.heap[k]? = some (.stringIter s pos)) (pos' : Nat) :
    (w.iterAt k s pos').ownsRow base e size v n xs := by
  refine ⟨h.1, ?_⟩
  rcases h.2 with h0 | ⟨g, cap, cur, hv, hg, hh, r⟩
  · exact Or.inl h0
  · exact Or.inr ⟨g, cap, cur, hv, hg, by rw [Lib.iterAt_other w k g s pos' (fun e1 => by rw [e1, hk] at hh; cases hh)]; exact hh, r⟩
end Go.Proofs.Yteloiibejkflhaa
