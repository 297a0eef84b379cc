/- messages as arguments, opened -/
import Derived.Test.YthboiklcjpnhbaaOpAsk
import Derived.Test.YthboiklcjpnhbaaOpC
import Derived.Test.YthboiklcjpnhbaaMc3
namespace Go.Proofs.Ythboiklcjpnhbaa
open Go.ChangeShapes Go.WideShapes Go.ChangeAt Go.RowKit
set_option linter.unusedVariables false
set_option maxRecDepth 20000
theorem cellsN_int : Try.prog.cellsOf 3 = 1 := by kernel_rfl
theorem cellsN_bool : Try.prog.cellsOf 4 = 1 := by kernel_rfl
theorem cellsN_items : Try.prog.cellsOf 30 = 1 := by kernel_rfl
theorem hello_arg {H : Type} {enc : TypeId × Value → H} {w : World} {base : Nat} {spare : Nat → Bool} {held : Bool} {r : Reach} {b0 : Nat} {v : Value} {d : DataW H} {p : List MemPlace}
    (hv : Value.okWide Try.prog w r b0 23 v) (h : DataW.Trod enc Try.prog w base spare held 23 v d p) : ∃ a b : Int, v = .agg #[.int .i64 a, .int .i64 b] := by
  obtain ⟨cs, rfl, hsz⟩ := okWide_struct Try.underlying23 hv
  obtain ⟨fuel, hf⟩ := h
  obtain ⟨hl, n, hf2⟩ := struct_cells Try.underlying23 hf
  rw [show Try.prog.cellsOf 23 = 2 by kernel_rfl] at hl
  obtain ⟨c0, c1, hcs⟩ : ∃ c0 c1, (Value.agg cs).cells.toList = [c0, c1] := by
    match (Value.agg cs).cells.toList, hl with
    | [a, b], _ => exact ⟨a, b, rfl⟩
  rw [hcs] at hf2
  obtain ⟨y0, z0⟩ := hf2 0 _ rfl
  obtain ⟨y1, z1⟩ := hf2 1 _ rfl
  simp [cellsN_int] at z0 z1
  obtain ⟨k0, h0, _, _⟩ := DataW.trod_int Try.underlying3 z0
  obtain ⟨k1, h1, _, _⟩ := DataW.trod_int Try.underlying3 z1
  simp at h0 h1
  subst h0 h1
  exact ⟨k0, k1, agg_of hcs⟩
theorem stop_arg {H : Type} {enc : TypeId × Value → H} {w : World} {base : Nat} {spare : Nat → Bool} {held : Bool} {r : Reach} {b0 : Nat} {v : Value} {d : DataW H} {p : List MemPlace}
    (hv : Value.okWide Try.prog w r b0 34 v) (h : DataW.Trod enc Try.prog w base spare held 34 v d p) : ∃ a b : Int, v = .agg #[.int .i64 a, .int .i64 b] := by
  obtain ⟨cs, rfl, hsz⟩ := okWide_struct Try.underlying34 hv
  obtain ⟨fuel, hf⟩ := h
  obtain ⟨hl, n, hf2⟩ := struct_cells Try.underlying34 hf
  rw [show Try.prog.cellsOf 34 = 2 by kernel_rfl] at hl
  obtain ⟨c0, c1, hcs⟩ : ∃ c0 c1, (Value.agg cs).cells.toList = [c0, c1] := by
    match (Value.agg cs).cells.toList, hl with
    | [a, b], _ => exact ⟨a, b, rfl⟩
  rw [hcs] at hf2
  obtain ⟨y0, z0⟩ := hf2 0 _ rfl
  obtain ⟨y1, z1⟩ := hf2 1 _ rfl
  simp [cellsN_int] at z0 z1
  obtain ⟨k0, h0, _, _⟩ := DataW.trod_int Try.underlying3 z0
  obtain ⟨k1, h1, _, _⟩ := DataW.trod_int Try.underlying3 z1
  simp at h0 h1
  subst h0 h1
  exact ⟨k0, k1, agg_of hcs⟩
theorem grant_arg {H : Type} {enc : TypeId × Value → H} {w : World} {base : Nat} {spare : Nat → Bool} {held : Bool} {r : Reach} {b0 : Nat} {v : Value} {d : DataW H} {p : List MemPlace}
    (hv : Value.okWide Try.prog w r b0 25 v) (h : DataW.Trod enc Try.prog w base spare held 25 v d p) : ∃ a b c : Int, v = .agg #[.int .i64 a, .int .i64 b, .int .i64 c] := by
  obtain ⟨cs, rfl, hsz⟩ := okWide_struct Try.underlying25 hv
  obtain ⟨fuel, hf⟩ := h
  obtain ⟨hl, n, hf2⟩ := struct_cells Try.underlying25 hf
  rw [show Try.prog.cellsOf 25 = 3 by kernel_rfl] at hl
  obtain ⟨c0, c1, c2, hcs⟩ : ∃ c0 c1 c2, (Value.agg cs).cells.toList = [c0, c1, c2] := by
    match (Value.agg cs).cells.toList, hl with
    | [a, b, c], _ => exact ⟨a, b, c, rfl⟩
  rw [hcs] at hf2
  obtain ⟨y0, z0⟩ := hf2 0 _ rfl
  obtain ⟨y1, z1⟩ := hf2 1 _ rfl
  obtain ⟨y2, z2⟩ := hf2 2 _ rfl
  simp [cellsN_int] at z0 z1 z2
  obtain ⟨k0, h0, _, _⟩ := DataW.trod_int Try.underlying3 z0
  obtain ⟨k1, h1, _, _⟩ := DataW.trod_int Try.underlying3 z1
  obtain ⟨k2, h2, _, _⟩ := DataW.trod_int Try.underlying3 z2
  simp at h0 h1 h2
  subst h0 h1 h2
  exact ⟨k0, k1, k2, agg_of hcs⟩
def RepOk (W : World) (x : RepP) : Prop := HoldsK W x.ia x.n x.items ∧ (x.ia = none → x.n = 0 ∧ x.ic = 0) ∧ x.n ≤ x.ic ∧ x.n ≤ 9223372036854775807 ∧ (∀ k ∈ x.items, KeyOk k)
theorem reply_arg {H : Type} {enc : TypeId × Value → H} {W : World} {base : Nat} {v : Value} {d : DataW H} {p : List MemPlace}
    (hv : Value.okWide Try.prog W .any base 32 v) (h : DataW.Trod enc Try.prog W 0 (fun _ => true) true 32 v d p) : ∃ x : RepP, RepOk W x ∧ v = agReply x := by
  obtain ⟨cs, rfl, hsz⟩ := okWide_struct Try.underlying32 hv
  obtain ⟨fuel, hf⟩ := h
  obtain ⟨hl, n, hf2⟩ := struct_cells Try.underlying32 hf
  rw [show Try.prog.cellsOf 32 = 8 by kernel_rfl] at hl
  obtain ⟨c0, c1, c2, c3, c4, c5, c6, c7, hcs⟩ : ∃ c0 c1 c2 c3 c4 c5 c6 c7, (Value.agg cs).cells.toList = [c0, c1, c2, c3, c4, c5, c6, c7] := by
    match (Value.agg cs).cells.toList, hl with
    | [c0, c1, c2, c3, c4, c5, c6, c7], _ => exact ⟨c0, c1, c2, c3, c4, c5, c6, c7, rfl⟩
  rw [hcs] at hf2
  obtain ⟨y0, z0⟩ := hf2 0 _ rfl
  obtain ⟨y1, z1⟩ := hf2 1 _ rfl
  obtain ⟨y2, z2⟩ := hf2 2 _ rfl
  obtain ⟨y3, z3⟩ := hf2 3 _ rfl
  obtain ⟨y4, z4⟩ := hf2 4 _ rfl
  obtain ⟨y5, z5⟩ := hf2 5 _ rfl
  obtain ⟨y6, z6⟩ := hf2 6 _ rfl
  obtain ⟨y7, z7⟩ := hf2 7 _ rfl
  simp [cellsN_int, cellsN_items, cellsN_bool] at z0 z1 z2 z3 z4 z5 z6 z7
  obtain ⟨k0, h0, _, _⟩ := DataW.trod_int Try.underlying3 z0
  obtain ⟨k1, h1, _, _⟩ := DataW.trod_int Try.underlying3 z1
  obtain ⟨k2, h2, _, _⟩ := DataW.trod_int Try.underlying3 z2
  obtain ⟨k3, h3, _, _⟩ := DataW.trod_int Try.underlying3 z3
  obtain ⟨k4, h4, _, _⟩ := DataW.trod_int Try.underlying3 z4
  obtain ⟨k5, h5, _, _⟩ := DataW.trod_int Try.underlying3 z5
  obtain ⟨a, na, ca, xs, hx, g1, g2, g3, g4, g5⟩ := open_pairs_cell Try.underlying30 Try.underlying27 (by kernel_rfl) rfl rfl ⟨rfl, rfl⟩ ⟨rfl, rfl⟩ z6
  obtain ⟨k7, h7, _⟩ := DataW.trod_bool Try.underlying4 z7
  simp at h0 h1 h2 h3 h4 h5 h7
  subst h0 h1 h2 h3 h4 h5 h7 hx
  exact ⟨⟨k0, k1, k2, k3, k4, k5, a, na, ca, xs, k7⟩, ⟨g1, g2, g3, g4, g5⟩, agg_of hcs⟩
end Go.Proofs.Ythboiklcjpnhbaa
