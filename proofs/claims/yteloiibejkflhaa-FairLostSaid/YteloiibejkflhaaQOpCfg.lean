/- a configuration as argument, opened -/
import Derived.Test.YteloiibejkflhaaQOpT
import Derived.Test.YteloiibejkflhaaQOpC
import Derived.Test.YteloiibejkflhaaQPl1
import Derived.WalkKit
import Derived.ProofKit
import Derived.OpenShut
import Derived.Lib.SmallJoins
namespace Go.Proofs.Yteloiibejkflhaa
open Go.ChangeShapes Go.WideShapes Go.ChangeAt Go.RowKit
set_option linter.unusedVariables false
set_option maxRecDepth 20000
/-- A struct by value, opened: its cells, and of each field its own reading. -/
theorem open_aggs2 {H : Type} {enc : TypeId × Value → H} {P : Program} {w : World} {base : Nat} {spare : Nat → Bool} {held : Bool} {r : Reach} {b0 : Nat} {t : TypeId} {fs : Array Field} {v : Value} {d : DataW H} {p : List MemPlace}
    (hs : P.underlying t = some (.struct fs)) (hv : Value.okWide P w r b0 t v) (h : DataW.Trod enc P w base spare held t v d p) :
    ∃ cs : Array Value, v = .agg cs ∧ cs.size = P.cellsOf t ∧ ∃ n, ∀ (i : Nat) (f : Field), fs[i]? = some f → ∃ y, DataW.trod enc P w base spare held n f.type ((cs.toList.drop f.offset).take (P.cellsOf f.type)) = some y := by
  obtain ⟨cs, rfl, hsz⟩ := okWide_struct hs hv
  obtain ⟨fuel, hf⟩ := h
  obtain ⟨xs, n, _, _, hl, hlen, hx⟩ := DataW.trod_struct hs hf
  refine ⟨cs, rfl, hsz, n, fun i f hi => ?_⟩
  have h1 := hx i f hi
  have hlt : i < xs.length := by
    rw [hlen]
    rcases Nat.lt_or_ge i fs.size with h' | h'
    · exact h'
    · rw [Array.getElem?_eq_none h'] at hi; cases hi
  rw [List.getElem?_eq_getElem hlt] at h1
  exact ⟨_, by simpa [Value.cells] using h1⟩
theorem array12c {α : Type} {cs : Array α} (h : cs.size = 12) : ∃ c0 c1 c2 c3 c4 c5 c6 c7 c8 c9 c10 c11, cs = #[c0, c1, c2, c3, c4, c5, c6, c7, c8, c9, c10, c11] := by
  obtain ⟨l⟩ := cs
  match l, h with
  | [c0, c1, c2, c3, c4, c5, c6, c7, c8, c9, c10, c11], _ => exact ⟨c0, c1, c2, c3, c4, c5, c6, c7, c8, c9, c10, c11, rfl⟩
theorem open_texts_cell {H : Type} {enc : TypeId × Value → H} {W : World} {v : Value} {fuel : Nat} {y : DataW H × List MemPlace}
    (hf : DataW.trod enc Try.prog W 0 (fun _ => true) true fuel 22 [v] = some y) :
    ∃ a n cap ts, v = .slice a n cap ∧ HoldsT W a n ts ∧ (a = none → n = 0 ∧ cap = 0) ∧ n ≤ cap ∧ n ≤ 9223372036854775807 ∧ ∀ t ∈ ts, t.size ≤ 9223372036854775807 := by
  rcases open_strings Try.underlying22 Try.underlying9 Try.cellsStr hf with ⟨hcs, _⟩ | ⟨x, l, c, ss, hcs, _, hl, hm, hz, _, hcell, hsz⟩
  · obtain rfl : v = .slice none 0 0 := by simpa using hcs
    exact ⟨none, 0, 0, [], rfl, HoldsT.nil _ _, fun _ => ⟨rfl, rfl⟩, Nat.le_refl _, by omega, by simp⟩
  · obtain rfl : v = .slice (some x) l c := by simpa using hcs
    have hzc : ss.length = c := by simpa using hz
    refine ⟨some x, l, c, ss.take l, rfl, ?_, (fun h => by cases h), hl, by unfold maxLen at hm; omega, fun t ht => by have := hsz t (List.mem_of_mem_take ht); unfold maxLen at this; omega⟩
    refine ⟨by simp [strsV]; omega, fun h0 => ?_⟩
    obtain ⟨b, off, spot⟩ := x
    have hspot : spot = none := by simpa [Addr.add] using World.cell?_spot (hcell 0 (by omega))
    subst hspot
    refine ⟨b, off, rfl, fun i hi => ?_⟩
    rw [← Go.WideShapes.add_plain, hcell i (by omega), getD_map_str _ i (by simp; omega)]
    congr 2
    simp only [List.getD_eq_getElem?_getD, List.getElem?_take]
    rw [if_pos hi]
theorem cells_cfg : Try.prog.cellsOf 25 = 12 := by kernel_rfl
theorem cells_ci : Try.prog.cellsOf 3 = 1 := by kernel_rfl
theorem cells_ct : Try.prog.cellsOf 22 = 1 := by kernel_rfl
theorem cells_ck : Try.prog.cellsOf 23 = 1 := by kernel_rfl
theorem cfg_int {H : Type} {enc : TypeId × Value → H} {W : World} {c : Value} {fuel : Nat} {y : DataW H × List MemPlace} (hy : DataW.trod enc Try.prog W 0 (fun _ => true) true fuel 3 [c] = some y) : ∃ k : Int, c = .int .i64 k := by
  obtain ⟨k, hk, _⟩ := DataW.trod_int Try.underlying3 hy
  exact ⟨k, by simpa using hk⟩
set_option maxRecDepth 100000 in
theorem open_cfg {H : Type} {enc : TypeId × Value → H} {W : World} {base : Nat} {v : Value} {d : DataW H} {p : List MemPlace}
    (hv : Value.okWide Try.prog W .any base 25 v) (h : DataW.Trod enc Try.prog W 0 (fun _ => true) true 25 v d p) :
    ∃ c : Cfg, v = .agg #[.slice c.wa c.wn c.wc, .slice c.ka c.kn c.kc, .int .i64 c.W, .int .i64 c.C, .int .i64 c.S, .int .i64 c.B, .int .i64 c.L, .int .i64 c.H, .int .i64 c.F, .int .i64 c.P, .int .i64 c.J, .int .i64 c.N] ∧ CfgOk W c := by
  obtain ⟨cs, rfl, hsz, n, hf⟩ := open_aggs2 Try.underlying25 hv h
  obtain ⟨c0, c1, c2, c3, c4, c5, c6, c7, c8, c9, c10, c11, rfl⟩ := array12c (hsz.trans cells_cfg)
  obtain ⟨y0, z0⟩ := hf 0 _ rfl
  obtain ⟨wa, wn, wc, ws, rfl, q1, q2, q3, q4, q5⟩ := open_texts_cell (v := c0) (by simpa [cells_ct] using z0)
  obtain ⟨y1, z1⟩ := hf 1 _ rfl
  obtain ⟨ka, kn, kc, ks, rfl, r1, r2, r3, r4, r5⟩ := open_pairs_cell (c := c1) Try.underlying23 Try.underlying48 (by kernel_rfl) rfl rfl ⟨rfl, rfl⟩ ⟨rfl, rfl⟩ (by simpa [cells_ck] using z1)
  obtain ⟨y2, z2⟩ := hf 2 _ rfl
  obtain ⟨i2, rfl⟩ := cfg_int (c := c2) (by simpa [cells_ci] using z2)
  obtain ⟨y3, z3⟩ := hf 3 _ rfl
  obtain ⟨i3, rfl⟩ := cfg_int (c := c3) (by simpa [cells_ci] using z3)
  obtain ⟨y4, z4⟩ := hf 4 _ rfl
  obtain ⟨i4, rfl⟩ := cfg_int (c := c4) (by simpa [cells_ci] using z4)
  obtain ⟨y5, z5⟩ := hf 5 _ rfl
  obtain ⟨i5, rfl⟩ := cfg_int (c := c5) (by simpa [cells_ci] using z5)
  obtain ⟨y6, z6⟩ := hf 6 _ rfl
  obtain ⟨i6, rfl⟩ := cfg_int (c := c6) (by simpa [cells_ci] using z6)
  obtain ⟨y7, z7⟩ := hf 7 _ rfl
  obtain ⟨i7, rfl⟩ := cfg_int (c := c7) (by simpa [cells_ci] using z7)
  obtain ⟨y8, z8⟩ := hf 8 _ rfl
  obtain ⟨i8, rfl⟩ := cfg_int (c := c8) (by simpa [cells_ci] using z8)
  obtain ⟨y9, z9⟩ := hf 9 _ rfl
  obtain ⟨i9, rfl⟩ := cfg_int (c := c9) (by simpa [cells_ci] using z9)
  obtain ⟨y10, z10⟩ := hf 10 _ rfl
  obtain ⟨i10, rfl⟩ := cfg_int (c := c10) (by simpa [cells_ci] using z10)
  obtain ⟨y11, z11⟩ := hf 11 _ rfl
  obtain ⟨i11, rfl⟩ := cfg_int (c := c11) (by simpa [cells_ci] using z11)
  exact ⟨⟨wa, wn, wc, ka, kn, kc, i2, i3, i4, i5, i6, i7, i8, i9, i10, i11, ws, ks⟩, rfl, q1, q2, q3, q4, q5, r1, r4, r5⟩
end Go.Proofs.Yteloiibejkflhaa
