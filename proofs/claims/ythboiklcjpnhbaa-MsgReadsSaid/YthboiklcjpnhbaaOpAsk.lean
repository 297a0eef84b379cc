/- an Ask in an argument (split from Q9) -/
import Derived.Test.YthboiklcjpnhbaaSfAsks
import Derived.Test.YthboiklcjpnhbaaOpS
namespace Go.Proofs.Ythboiklcjpnhbaa
open Go.ChangeShapes Go.WideShapes Go.ChangeAt Go.RowKit
set_option linter.unusedVariables false
set_option maxRecDepth 20000
def AskOk (a : AskP) : Prop := a.text.size ≤ 9223372036854775807 ∧ a.aw.size ≤ 9223372036854775807
theorem cellsAint : Try.prog.cellsOf 3 = 1 := by kernel_rfl
theorem cells_qask : Try.prog.cellsOf 29 = 11 := by kernel_rfl
theorem cells_qitem : Try.prog.cellsOf 27 = 2 := by kernel_rfl
theorem cells_qstr : Try.prog.cellsOf 9 = 1 := by kernel_rfl
theorem cells_qbool : Try.prog.cellsOf 4 = 1 := by kernel_rfl
theorem item_of {H : Type} {enc : TypeId × Value → H} {w : World} {base : Nat} {spare : Nat → Bool} {held : Bool} {fuel : Nat} {cs : List Value} {x : DataW H × List MemPlace}
    (h : DataW.trod enc Try.prog w base spare held fuel 27 cs = some x) : ∃ d t, t.size ≤ 9223372036854775807 ∧ cs = [.int .i64 d, .string t] := by
  obtain ⟨hl, n, hf⟩ := struct_cells Try.underlying27 h
  rw [cells_qitem] at hl
  obtain ⟨c0, c1, rfl⟩ : ∃ c0 c1, cs = [c0, c1] := by
    match cs, hl with
    | [a, b], _ => exact ⟨a, b, rfl⟩
  obtain ⟨y0, z0⟩ := hf 0 _ rfl
  obtain ⟨y1, z1⟩ := hf 1 _ rfl
  obtain ⟨k1, h1, _, b1⟩ := DataW.trod_int Try.underlying3 z0
  obtain ⟨s, hs, _, b0⟩ := DataW.trod_string Try.underlying9 z1
  simp [cellsAint, cells_qstr] at hs h1
  subst hs h1
  exact ⟨k1, s, by unfold maxLen at b0; exact b0, rfl⟩
theorem ask_of {H : Type} {enc : TypeId × Value → H} {w : World} {base : Nat} {spare : Nat → Bool} {held : Bool} {fuel : Nat} {cs : List Value} {x : DataW H × List MemPlace}
    (h : DataW.trod enc Try.prog w base spare held fuel 29 cs = some x) : ∃ a : AskP, AskOk a ∧ cs = cellsAsk a := by
  obtain ⟨hl, n, hf⟩ := struct_cells Try.underlying29 h
  rw [cells_qask] at hl
  obtain ⟨c0, c1, c2, c3, c4, c5, c6, c7, c8, c9, c10, rfl⟩ : ∃ c0 c1 c2 c3 c4 c5 c6 c7 c8 c9 c10, cs = [c0, c1, c2, c3, c4, c5, c6, c7, c8, c9, c10] := by
    match cs, hl with
    | [c0, c1, c2, c3, c4, c5, c6, c7, c8, c9, c10], _ => exact ⟨c0, c1, c2, c3, c4, c5, c6, c7, c8, c9, c10, rfl⟩
  obtain ⟨y0, z0⟩ := hf 0 _ rfl
  obtain ⟨y1, z1⟩ := hf 1 _ rfl
  obtain ⟨y2, z2⟩ := hf 2 _ rfl
  obtain ⟨y3, z3⟩ := hf 3 _ rfl
  obtain ⟨y4, z4⟩ := hf 4 _ rfl
  obtain ⟨y5, z5⟩ := hf 5 _ rfl
  obtain ⟨y6, z6⟩ := hf 6 _ rfl
  obtain ⟨y7, z7⟩ := hf 7 _ rfl
  obtain ⟨y8, z8⟩ := hf 8 _ rfl
  obtain ⟨y9, z9⟩ := hf 9 _ rfl
  obtain ⟨k0, h0, _, _⟩ := DataW.trod_int Try.underlying3 z0
  obtain ⟨k1, h1, _, _⟩ := DataW.trod_int Try.underlying3 z1
  obtain ⟨k2, h2, _, _⟩ := DataW.trod_int Try.underlying3 z2
  obtain ⟨k3, h3, _, _⟩ := DataW.trod_int Try.underlying3 z3
  obtain ⟨k4, h4, _, _⟩ := DataW.trod_int Try.underlying3 z4
  obtain ⟨k5, h5, _, b5⟩ := DataW.trod_string Try.underlying9 z5
  obtain ⟨k6, h6, _, _⟩ := DataW.trod_int Try.underlying3 z6
  obtain ⟨k7, h7, _, _⟩ := DataW.trod_int Try.underlying3 z7
  obtain ⟨k8, h8, _⟩ := DataW.trod_bool Try.underlying4 z8
  obtain ⟨k9, k10, b10, h9⟩ := item_of z9
  simp [cellsAint, cells_qstr, cells_qbool, cells_qitem] at h0 h1 h2 h3 h4 h5 h6 h7 h8 h9
  obtain ⟨e9, e10⟩ := h9
  subst h0 h1 h2 h3 h4 h5 h6 h7 h8 e9 e10
  exact ⟨⟨k0, k1, k2, k3, k4, k5, k6, k7, k8, k9, k10⟩, ⟨by unfold maxLen at b5; exact b5, b10⟩, rfl⟩
theorem agg_of {cs : Array Value} {l : List Value} (h : (Value.agg cs).cells.toList = l) : Value.agg cs = .agg l.toArray := by
  congr 1
  apply Array.toList_inj.1
  simpa [Value.cells] using h
theorem ask_arg {H : Type} {enc : TypeId × Value → H} {w : World} {base : Nat} {spare : Nat → Bool} {held : Bool} {r : Reach} {b0 : Nat} {v : Value} {d : DataW H} {p : List MemPlace}
    (hv : Value.okWide Try.prog w r b0 29 v) (h : DataW.Trod enc Try.prog w base spare held 29 v d p) : ∃ x : AskP, AskOk x ∧ v = .agg #[.int .i64 x.slot, .int .i64 x.query, .int .i64 x.shard, .int .i64 x.seq, .int .i64 x.epoch, .string x.text, .int .i64 x.k, .int .i64 x.batch, .bool x.first, .int .i64 x.ad, .string x.aw] := by
  obtain ⟨cs, rfl, hsz⟩ := okWide_struct Try.underlying29 hv
  obtain ⟨fuel, hf⟩ := h
  obtain ⟨x, h1, h2⟩ := ask_of hf
  exact ⟨x, h1, agg_of h2⟩
end Go.Proofs.Ythboiklcjpnhbaa
