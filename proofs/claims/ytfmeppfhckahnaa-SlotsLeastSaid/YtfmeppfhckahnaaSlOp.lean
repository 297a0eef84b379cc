/- slots: the acts of an argument, opened -/
import Derived.Test.YtfmeppfhckahnaaOpS
import Derived.Test.YtfmeppfhckahnaaOp
import Derived.Test.YtfmeppfhckahnaaSl1
namespace Go.Proofs.Ytfmeppfhckahnaa
open Go.ChangeShapes Go.WideShapes Go.ChangeAt Go.RowKit
set_option linter.unusedVariables false
/-- a query that is submitted, or a number that is freed -/
structure SAct where
  f : Bool
  id : Int
  t : ByteArray
  k : Int
  n : Int
def SActOk (x : SAct) : Prop := (Lit.int .i64 x.id).wf = true ∧ x.t.size ≤ 9223372036854775807
def sactCells (x : SAct) : List Value := [.bool x.f, .int .i64 x.id, .string x.t, .int .i64 x.k, .int .i64 x.n]
theorem cells_sact : Try.prog.cellsOf 36 = 5 := by kernel_rfl
theorem cells_query : Try.prog.cellsOf 34 = 3 := by kernel_rfl
theorem cells_intS : Try.prog.cellsOf 3 = 1 := by kernel_rfl
theorem cells_boolS : Try.prog.cellsOf 4 = 1 := by kernel_rfl
theorem cells_strS : Try.prog.cellsOf 9 = 1 := by kernel_rfl
theorem query_of {H : Type} {enc : TypeId × Value → H} {w : World} {base : Nat} {spare : Nat → Bool} {held : Bool} {fuel : Nat} {cs : List Value} {x : DataW H × List MemPlace}
    (h : DataW.trod enc Try.prog w base spare held fuel 34 cs = some x) : ∃ t k n, t.size ≤ 9223372036854775807 ∧ cs = [.string t, .int .i64 k, .int .i64 n] := by
  obtain ⟨hl, n, hf⟩ := struct_cells Try.underlying34 h
  rw [cells_query] at hl
  obtain ⟨c0, c1, c2, rfl⟩ : ∃ c0 c1 c2, cs = [c0, c1, c2] := by
    match cs, hl with
    | [a, b, c], _ => exact ⟨a, b, c, rfl⟩
  obtain ⟨y0, z0⟩ := hf 0 _ rfl
  obtain ⟨y1, z1⟩ := hf 1 _ rfl
  obtain ⟨y2, z2⟩ := hf 2 _ rfl
  obtain ⟨s, hs, _, b0⟩ := DataW.trod_string Try.underlying9 z0
  obtain ⟨k1, h1, _, b1⟩ := DataW.trod_int Try.underlying3 z1
  obtain ⟨k2, h2, _, b2⟩ := DataW.trod_int Try.underlying3 z2
  simp [cells_intS, cells_strS] at hs h1 h2
  subst hs h1 h2
  exact ⟨s, k1, k2, by unfold maxLen at b0; exact b0, rfl⟩
theorem sact_of {H : Type} {enc : TypeId × Value → H} {w : World} {base : Nat} {spare : Nat → Bool} {held : Bool} {fuel : Nat} {cs : List Value} {x : DataW H × List MemPlace}
    (h : DataW.trod enc Try.prog w base spare held fuel 36 cs = some x) : ∃ x : SAct, SActOk x ∧ cs = sactCells x := by
  obtain ⟨hl, n, hf⟩ := struct_cells Try.underlying36 h
  rw [cells_sact] at hl
  obtain ⟨c0, c1, c2, c3, c4, rfl⟩ : ∃ c0 c1 c2 c3 c4, cs = [c0, c1, c2, c3, c4] := by
    match cs, hl with
    | [a, b, c, d, e], _ => exact ⟨a, b, c, d, e, rfl⟩
  obtain ⟨y0, z0⟩ := hf 0 _ rfl
  obtain ⟨y1, z1⟩ := hf 1 _ rfl
  obtain ⟨y2, z2⟩ := hf 2 _ rfl
  obtain ⟨q, hq, _⟩ := DataW.trod_bool Try.underlying4 z0
  obtain ⟨k1, h1, _, b1⟩ := DataW.trod_int Try.underlying3 z1
  obtain ⟨t, k, m, ht, h2⟩ := query_of z2
  simp [cells_intS, cells_boolS, cells_query] at hq h1 h2
  obtain ⟨e2, e3, e4⟩ := h2
  subst hq h1 e2 e3 e4
  exact ⟨⟨q, k1, t, k, m⟩, ⟨b1, ht⟩, rfl⟩
/-- the slice holds these acts -/
def HoldsSA (w : World) (a : Option Addr) (n : Nat) (xs : Nat → SAct) : Prop :=
  0 < n → ∃ b o, a = some ⟨b, o, none⟩ ∧ ∀ i, i < n → w.cell? ⟨b, o + i * 5, none⟩ = some (.bool (xs i).f) ∧ w.cell? ⟨b, o + i * 5 + 1, none⟩ = some (.int .i64 (xs i).id) ∧ w.cell? ⟨b, o + i * 5 + 2, none⟩ = some (.string (xs i).t) ∧ w.cell? ⟨b, o + i * 5 + 3, none⟩ = some (.int .i64 (xs i).k) ∧ w.cell? ⟨b, o + i * 5 + 4, none⟩ = some (.int .i64 (xs i).n)
theorem HoldsSA.below {w w' : World} {a : Option Addr} {n : Nat} {xs : Nat → SAct} (h : HoldsSA w a n xs) (hb : Below w.heap.size w w') : HoldsSA w' a n xs := fun h0 => by
  obtain ⟨b, o, ha, hc⟩ := h h0
  have hlt := lt_of_cell (hc 0 h0).1
  refine ⟨b, o, ha, fun i hi => ?_⟩
  rw [hb.cell (p := ⟨b, o + i * 5, none⟩) hlt, hb.cell (p := ⟨b, o + i * 5 + 1, none⟩) hlt, hb.cell (p := ⟨b, o + i * 5 + 2, none⟩) hlt, hb.cell (p := ⟨b, o + i * 5 + 3, none⟩) hlt, hb.cell (p := ⟨b, o + i * 5 + 4, none⟩) hlt]
  exact hc i hi
theorem open_sacts_arg {H : Type} {enc : TypeId × Value → H} {W : World} {base : Nat} {v : Value} {d : DataW H} {p : List MemPlace}
    (o : Value.okWide Try.prog W .any base 22 v) (h : DataW.Trod enc Try.prog W 0 (fun _ => true) true 22 v d p) :
    ∃ a n cap xs, v = .slice a n cap ∧ HoldsSA W a n xs ∧ n ≤ maxLen ∧ ∀ i, i < n → SActOk (xs i) := by
  obtain ⟨a, n, cap, R, rfl, _, h1, h2, hg, hc⟩ := open_rows_arg Try.underlying22 cells_sact (by omega) (fun cs => ∃ x : SAct, SActOk x ∧ cs = sactCells x) (fun _ _ _ h => sact_of h) o h
  have hx : ∀ i, ∃ x : SAct, i < n → SActOk x ∧ R i = sactCells x := fun i => by
    by_cases hi : i < n
    · obtain ⟨x, h3⟩ := hg i hi
      exact ⟨x, fun _ => h3⟩
    · exact ⟨⟨true, 0, ⟨#[]⟩, 0, 0⟩, fun h => absurd h hi⟩
  refine ⟨a, n, cap, fun i => (hx i).choose, rfl, fun h0 => ?_, Nat.le_trans h1 h2, fun i hi => ((hx i).choose_spec hi).1⟩
  obtain ⟨b, o, ha, hcell⟩ := hc h0
  refine ⟨b, o, ha, fun i hi => ?_⟩
  have e := ((hx i).choose_spec hi).2
  have c0 := hcell i hi 0 (by omega)
  have c1 := hcell i hi 1 (by omega)
  have c2 := hcell i hi 2 (by omega)
  have c3 := hcell i hi 3 (by omega)
  have c4 := hcell i hi 4 (by omega)
  rw [e] at c0 c1 c2 c3 c4
  exact ⟨by simpa [sactCells] using c0, by simpa [sactCells] using c1, by simpa [sactCells] using c2, by simpa [sactCells] using c3, by simpa [sactCells] using c4⟩
theorem open_sact {H : Type} {enc : TypeId × Value → H} {w : World} {base : Nat} {spare : Nat → Bool} {held : Bool} {r : Reach} {b0 : Nat} {v : Value} {d : DataW H} {p : List MemPlace}
    (hv : Value.okWide Try.prog w r b0 36 v) (h : DataW.Trod enc Try.prog w base spare held 36 v d p) :
    ∃ x : SAct, SActOk x ∧ v = .agg #[.bool x.f, .int .i64 x.id, .string x.t, .int .i64 x.k, .int .i64 x.n] := by
  obtain ⟨cs, rfl, hsz⟩ := okWide_struct Try.underlying36 hv
  obtain ⟨fuel, hf⟩ := h
  obtain ⟨x, hx, h1⟩ := sact_of hf
  refine ⟨x, hx, ?_⟩
  congr 1
  apply Array.toList_inj.1
  simpa [Value.cells, sactCells] using h1
end Go.Proofs.Ytfmeppfhckahnaa
