/- a slice in a field of a struct that is an argument, opened -/
import Derived.Test.YteloiibejkflhaaPkA
namespace Go.Proofs.Yteloiibejkflhaa
open Go.ChangeShapes Go.WideShapes Go.ChangeAt Go.RowKit Go.Deep
set_option linter.unusedVariables false
set_option maxRecDepth 20000
theorem open_pairs_cell {H : Type} {enc : TypeId × Value → H} {W : World} {c : Value} {fuel : Nat} {y : DataW H × List MemPlace} {t e : TypeId} {fs : Array Field} {f0 f1 : Field}
    (ht : Try.prog.underlying t = some (.slice e)) (he : Try.prog.underlying e = some (.struct fs)) (hc : Try.prog.cellsOf e = 2) (hf0 : fs[0]? = some f0) (hf1 : fs[1]? = some f1) (g0 : f0.type = 3 ∧ f0.offset = 0) (g1 : f1.type = 9 ∧ f1.offset = 1)
    (hf : DataW.trod enc Try.prog W 0 (fun _ => true) true fuel t [c] = some y) :
    ∃ a n cap ks, c = .slice a n cap ∧ HoldsK W a n ks ∧ (a = none → n = 0 ∧ cap = 0) ∧ n ≤ cap ∧ n ≤ 9223372036854775807 ∧ ∀ k ∈ ks, KeyOk k := by
  obtain ⟨a, n, cap, R, rfl, hnil, h1, h2, hg, hc⟩ := open_rows_cell ht hc (by omega) (fun cs => ∃ k : KV, KeyOk k ∧ cs = [.int .i64 k.1, .string k.2]) (fun _ _ _ h => pair_of he hc hf0 hf1 g0 g1 h) hf
  have hx : ∀ i, ∃ k : KV, i < n → KeyOk k ∧ R i = [.int .i64 k.1, .string k.2] := fun i => by
    by_cases hi : i < n
    · obtain ⟨x, h3⟩ := hg i hi
      exact ⟨x, fun _ => h3⟩
    · exact ⟨k0, fun h => absurd h hi⟩
  have hget : ∀ i, i < n → ((List.range n).map fun i => (hx i).choose).getD i k0 = (hx i).choose := fun i hi => by simp [List.getD_eq_getElem?_getD, hi]
  refine ⟨a, n, cap, (List.range n).map fun i => (hx i).choose, rfl, ⟨by simp, fun h0 => ?_⟩, hnil, h1, by unfold maxLen at h2; omega, fun k hk => ?_⟩
  · obtain ⟨b, o, ha, hcell⟩ := hc h0
    refine ⟨b, o, ha, fun i hi => ?_⟩
    have e := ((hx i).choose_spec hi).2
    have c0 := hcell i hi 0 (by omega)
    have c1 := hcell i hi 1 (by omega)
    rw [e] at c0 c1
    rw [hget i hi]
    exact ⟨by simpa using c0, by simpa using c1⟩
  · obtain ⟨i, hi, rfl⟩ := List.mem_map.1 hk
    exact ((hx i).choose_spec (by simpa using hi)).1
end Go.Proofs.Yteloiibejkflhaa
