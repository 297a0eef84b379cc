/- new lists of numbers -/
import Derived.Test.YteloiibejkflhaaPkA
import Derived.Test.YteloiibejkflhaaChecked
namespace Go.Proofs.Yteloiibejkflhaa
open Go.RowKit
set_option linter.unusedVariables false
set_option maxRecDepth 20000
def numsV (zs : List Int) : List Value := zs.map (Value.int .i64)
theorem numsV_one (zs : List Int) : ∀ u ∈ numsV zs, u.oneCell' = true := fun u h => by
  unfold numsV at h
  obtain ⟨z, _, rfl⟩ := List.mem_map.1 h
  rfl
theorem holdsI_values {k : IntKind} {w : World} {a : Option Addr} {n : Nat} {zs : List Int} (h : HoldsV w a n (zs.map (Value.int k))) : HoldsI k w a n zs := by
  have hl : zs.length = n := by simpa using h.1
  refine ⟨hl, fun h0 => ?_⟩
  obtain ⟨b, o, ha, hc⟩ := h.2 h0
  exact ⟨b, o, ha, fun i hi => by rw [hc i hi]; simp [List.getD_eq_getElem?_getD, show i < zs.length by omega]⟩
theorem num_info : (Try.prog.info? 3).map (fun i => (i.zero, i.size, i.bytes)) = some (some (.int .i64 0), 1, 8) := by kernel_rfl
/-- a call's answer: a new list of numbers -/
def RetZ (w : World) (zs : List Int) (e : Ending) (w' : World) : Prop := ∃ a c, e = .returned (.slice a zs.length c) ∧ w'.ownsRow w.heap.size 3 1 (.slice a zs.length c) zs.length (numsV zs) ∧ Below w.heap.size w w'
theorem holdsZ_own {w : World} {base : Nat} {e : TypeId} {a : Option Addr} {n c : Nat} {zs : List Int} (h : w.ownsRow base e 1 (.slice a n c) n (numsV zs)) : HoldsI .i64 w a n zs := holdsI_values (owns_holds h)
def natsZ (l : List Nat) : List Int := l.map fun s : Nat => (s : Int)
theorem natsZ_len (l : List Nat) : (natsZ l).length = l.length := by simp [natsZ]
theorem natsZ_at (l : List Nat) (i : Nat) : (natsZ l).getD i 0 = ((l.getD i 0 : Nat) : Int) := by
  unfold natsZ
  by_cases h : i < l.length
  · rw [List.getD_eq_getElem?_getD, List.getElem?_map, List.getElem?_eq_getElem h, List.getD_eq_getElem?_getD, List.getElem?_eq_getElem h]; rfl
  · rw [List.getD_eq_getElem?_getD, List.getElem?_eq_none (by simp; omega), List.getD_eq_getElem?_getD, List.getElem?_eq_none (by omega)]; rfl
end Go.Proofs.Yteloiibejkflhaa
