/- leases: the acts of an argument, opened -/
import Derived.Test.YtphcmokcdaiphaaOpS
import Derived.Test.YtphcmokcdaiphaaOp
import Derived.Test.YtphcmokcdaiphaaLa
namespace Go.Proofs.Ytphcmokcdaiphaa
open Go.ChangeShapes Go.WideShapes Go.ChangeAt Go.RowKit
set_option linter.unusedVariables false
/-- a Hello, or a reply that was seen -/
structure ActV where
  q : Bool
  k : Int
  n : Int
  t : Int
def i64ok (z : Int) : Prop := -9223372036854775808 ≤ z ∧ z ≤ 9223372036854775807
def ActOk (x : ActV) : Prop := i64ok x.k ∧ i64ok x.n ∧ i64ok x.t
def actCells (x : ActV) : List Value := [.bool x.q, .int .i64 x.k, .int .i64 x.n, .int .i64 x.t]
theorem cells_act : Try.prog.cellsOf 33 = 4 := by kernel_rfl
theorem cells_int : Try.prog.cellsOf 3 = 1 := by kernel_rfl
theorem cells_bool : Try.prog.cellsOf 4 = 1 := by kernel_rfl
theorem act_of {H : Type} {enc : TypeId × Value → H} {w : World} {base : Nat} {spare : Nat → Bool} {held : Bool} {fuel : Nat} {cs : List Value} {x : DataW H × List MemPlace}
    (h : DataW.trod enc Try.prog w base spare held fuel 33 cs = some x) : ∃ x : ActV, ActOk x ∧ cs = actCells x := by
  obtain ⟨hl, n, hf⟩ := struct_cells Try.underlying33 h
  rw [cells_act] at hl
  obtain ⟨c0, c1, c2, c3, rfl⟩ : ∃ c0 c1 c2 c3, cs = [c0, c1, c2, c3] := by
    match cs, hl with
    | [a, b, c, d], _ => exact ⟨a, b, c, d, rfl⟩
  obtain ⟨y0, z0⟩ := hf 0 _ rfl
  obtain ⟨y1, z1⟩ := hf 1 _ rfl
  obtain ⟨y2, z2⟩ := hf 2 _ rfl
  obtain ⟨y3, z3⟩ := hf 3 _ rfl
  obtain ⟨q, hq, _⟩ := DataW.trod_bool Try.underlying4 z0
  obtain ⟨k1, h1, _, b1⟩ := DataW.trod_int Try.underlying3 z1
  obtain ⟨k2, h2, _, b2⟩ := DataW.trod_int Try.underlying3 z2
  obtain ⟨k3, h3, _, b3⟩ := DataW.trod_int Try.underlying3 z3
  simp [cells_int, cells_bool] at hq h1 h2 h3
  subst hq h1 h2 h3
  exact ⟨⟨q, k1, k2, k3⟩, ⟨i64_of_wf b1, i64_of_wf b2, i64_of_wf b3⟩, rfl⟩
/-- the slice holds these acts -/
def HoldsA (w : World) (a : Option Addr) (n : Nat) (xs : Nat → ActV) : Prop :=
  0 < n → ∃ b o, a = some ⟨b, o, none⟩ ∧ ∀ i, i < n → w.cell? ⟨b, o + i * 4, none⟩ = some (.bool (xs i).q) ∧ w.cell? ⟨b, o + i * 4 + 1, none⟩ = some (.int .i64 (xs i).k) ∧ w.cell? ⟨b, o + i * 4 + 2, none⟩ = some (.int .i64 (xs i).n) ∧ w.cell? ⟨b, o + i * 4 + 3, none⟩ = some (.int .i64 (xs i).t)
theorem HoldsA.below {w w' : World} {a : Option Addr} {n : Nat} {xs : Nat → ActV} (h : HoldsA w a n xs) (hb : Below w.heap.size w w') : HoldsA w' a n xs := fun h0 => by
  obtain ⟨b, o, ha, hc⟩ := h h0
  have hlt := lt_of_cell (hc 0 h0).1
  refine ⟨b, o, ha, fun i hi => ?_⟩
  rw [hb.cell (p := ⟨b, o + i * 4, none⟩) hlt, hb.cell (p := ⟨b, o + i * 4 + 1, none⟩) hlt, hb.cell (p := ⟨b, o + i * 4 + 2, none⟩) hlt, hb.cell (p := ⟨b, o + i * 4 + 3, none⟩) hlt]
  exact hc i hi
theorem open_acts_arg {H : Type} {enc : TypeId × Value → H} {W : World} {base : Nat} {v : Value} {d : DataW H} {p : List MemPlace}
    (o : Value.okWide Try.prog W .any base 22 v) (h : DataW.Trod enc Try.prog W 0 (fun _ => true) true 22 v d p) :
    ∃ a n cap xs, v = .slice a n cap ∧ HoldsA W a n xs ∧ n ≤ maxLen ∧ ∀ i, i < n → ActOk (xs i) := by
  obtain ⟨a, n, cap, R, rfl, _, h1, h2, hg, hc⟩ := open_rows_arg Try.underlying22 cells_act (by omega) (fun cs => ∃ x : ActV, ActOk x ∧ cs = actCells x) (fun _ _ _ h => act_of h) o h
  have hx : ∀ i, ∃ x : ActV, i < n → ActOk x ∧ R i = actCells x := fun i => by
    by_cases hi : i < n
    · obtain ⟨x, h3⟩ := hg i hi
      exact ⟨x, fun _ => h3⟩
    · exact ⟨⟨true, 0, 0, 0⟩, fun h => absurd h hi⟩
  refine ⟨a, n, cap, fun i => (hx i).choose, rfl, fun h0 => ?_, Nat.le_trans h1 h2, fun i hi => ((hx i).choose_spec hi).1⟩
  obtain ⟨b, o, ha, hcell⟩ := hc h0
  refine ⟨b, o, ha, fun i hi => ?_⟩
  have e := ((hx i).choose_spec hi).2
  have c0 := hcell i hi 0 (by omega)
  have c1 := hcell i hi 1 (by omega)
  have c2 := hcell i hi 2 (by omega)
  have c3 := hcell i hi 3 (by omega)
  rw [e] at c0 c1 c2 c3
  exact ⟨by simpa [actCells] using c0, by simpa [actCells] using c1, by simpa [actCells] using c2, by simpa [actCells] using c3⟩
theorem open_act {H : Type} {enc : TypeId × Value → H} {w : World} {base : Nat} {spare : Nat → Bool} {held : Bool} {r : Reach} {b0 : Nat} {v : Value} {d : DataW H} {p : List MemPlace}
    (hv : Value.okWide Try.prog w r b0 33 v) (h : DataW.Trod enc Try.prog w base spare held 33 v d p) :
    ∃ x : ActV, ActOk x ∧ v = .agg #[.bool x.q, .int .i64 x.k, .int .i64 x.n, .int .i64 x.t] := by
  obtain ⟨cs, rfl, hsz⟩ := okWide_struct Try.underlying33 hv
  obtain ⟨fuel, hf⟩ := h
  obtain ⟨x, hx, h1⟩ := act_of hf
  refine ⟨x, hx, ?_⟩
  congr 1
  apply Array.toList_inj.1
  simpa [Value.cells, actCells] using h1
end Go.Proofs.Ytphcmokcdaiphaa
