/- trace: records as arguments (by gen/tr1.py) -/
import Derived.Test.YthfoilnofljflaaTr1
import Derived.Test.YthfoilnofljflaaOpRc
import Derived.Test.YthfoilnofljflaaOp
namespace Go.Proofs.Ythfoilnofljflaa
open Go.ChangeShapes Go.WideShapes Go.ChangeAt Go.RowKit
set_option linter.unusedVariables false
set_option maxRecDepth 20000
theorem cellsTint : Try.prog.cellsOf 3 = 1 := by kernel_rfl
theorem cellsTstr : Try.prog.cellsOf 9 = 1 := by kernel_rfl
theorem cellsTq : Try.prog.cellsOf 33 = 3 := by kernel_rfl
theorem cellsTe : Try.prog.cellsOf 35 = 7 := by kernel_rfl
theorem cellsTr : Try.prog.cellsOf 38 = 12 := by kernel_rfl
theorem cellsTs : Try.prog.cellsOf 40 = 3 := by kernel_rfl
theorem cellsTss : Try.prog.cellsOf 36 = 1 := by kernel_rfl
theorem cellsTii : Try.prog.cellsOf 28 = 1 := by kernel_rfl
theorem query_ofT {H : Type} {enc : TypeId × Value → H} {w : World} {base : Nat} {spare : Nat → Bool} {held : Bool} {fuel : Nat} {cs : List Value} {x : DataW H × List MemPlace}
    (h : DataW.trod enc Try.prog w base spare held fuel 33 cs = some x) : ∃ (t : ByteArray) (k n : Int), t.size ≤ 9223372036854775807 ∧ cs = [.string t, .int .i64 k, .int .i64 n] := by
  obtain ⟨hl, n, hf⟩ := struct_cells Try.underlying33 h
  rw [cellsTq] at hl
  obtain ⟨c0, c1, c2, rfl⟩ : ∃ c0 c1 c2, cs = [c0, c1, c2] := by
    match cs, hl with
    | [a, b, c], _ => exact ⟨a, b, c, rfl⟩
  obtain ⟨y0, z0⟩ := hf 0 _ rfl
  obtain ⟨y1, z1⟩ := hf 1 _ rfl
  obtain ⟨y2, z2⟩ := hf 2 _ rfl
  obtain ⟨s, hs, _, b0⟩ := DataW.trod_string Try.underlying9 z0
  obtain ⟨k1, h1, _, b1⟩ := DataW.trod_int Try.underlying3 z1
  obtain ⟨k2, h2, _, b2⟩ := DataW.trod_int Try.underlying3 z2
  simp [cellsTint, cellsTstr] at hs h1 h2
  subst hs h1 h2
  exact ⟨s, k1, k2, by unfold maxLen at b0; exact b0, rfl⟩
theorem event_of {H : Type} {enc : TypeId × Value → H} {w : World} {base : Nat} {spare : Nat → Bool} {held : Bool} {fuel : Nat} {cs : List Value} {x : DataW H × List MemPlace}
    (h : DataW.trod enc Try.prog w base spare held fuel 35 cs = some x) : ∃ (a b c d : Int) (t : ByteArray) (k n : Int), t.size ≤ 9223372036854775807 ∧ cs = [.int .i64 a, .int .i64 b, .int .i64 c, .int .i64 d, .string t, .int .i64 k, .int .i64 n] := by
  obtain ⟨hl, n, hf⟩ := struct_cells Try.underlying35 h
  rw [cellsTe] at hl
  obtain ⟨c0, c1, c2, c3, c4, c5, c6, rfl⟩ : ∃ c0 c1 c2 c3 c4 c5 c6, cs = [c0, c1, c2, c3, c4, c5, c6] := by
    match cs, hl with
    | [a, b, c, d, e, f, g], _ => exact ⟨a, b, c, d, e, f, g, rfl⟩
  obtain ⟨y0, z0⟩ := hf 0 _ rfl
  obtain ⟨y1, z1⟩ := hf 1 _ rfl
  obtain ⟨y2, z2⟩ := hf 2 _ rfl
  obtain ⟨y3, z3⟩ := hf 3 _ rfl
  obtain ⟨y4, z4⟩ := hf 4 _ rfl
  obtain ⟨k0, h0, _, _⟩ := DataW.trod_int Try.underlying3 z0
  obtain ⟨k1, h1, _, _⟩ := DataW.trod_int Try.underlying3 z1
  obtain ⟨k2, h2, _, _⟩ := DataW.trod_int Try.underlying3 z2
  obtain ⟨k3, h3, _, _⟩ := DataW.trod_int Try.underlying3 z3
  obtain ⟨t, k, m, ht, h4⟩ := query_ofT z4
  simp [cellsTint, cellsTq] at h0 h1 h2 h3 h4
  obtain ⟨e4, e5, e6⟩ := h4
  subst h0 h1 h2 h3 e4 e5 e6
  exact ⟨k0, k1, k2, k3, t, k, m, ht, rfl⟩
theorem sent_of {H : Type} {enc : TypeId × Value → H} {w : World} {base : Nat} {spare : Nat → Bool} {held : Bool} {fuel : Nat} {cs : List Value} {x : DataW H × List MemPlace}
    (h : DataW.trod enc Try.prog w base spare held fuel 40 cs = some x) : ∃ s : S3, wfZ s.1 ∧ cs = [.int .i64 s.1, .int .i64 s.2.1, .int .i64 s.2.2] := by
  obtain ⟨hl, n, hf⟩ := struct_cells Try.underlying40 h
  rw [cellsTs] at hl
  obtain ⟨c0, c1, c2, rfl⟩ : ∃ c0 c1 c2, cs = [c0, c1, c2] := by
    match cs, hl with
    | [a, b, c], _ => exact ⟨a, b, c, rfl⟩
  obtain ⟨y0, z0⟩ := hf 0 _ rfl
  obtain ⟨y1, z1⟩ := hf 1 _ rfl
  obtain ⟨y2, z2⟩ := hf 2 _ rfl
  obtain ⟨k0, h0, _, b0⟩ := DataW.trod_int Try.underlying3 z0
  obtain ⟨k1, h1, _, b1⟩ := DataW.trod_int Try.underlying3 z1
  obtain ⟨k2, h2, _, b2⟩ := DataW.trod_int Try.underlying3 z2
  simp [cellsTint] at h0 h1 h2
  subst h0 h1 h2
  exact ⟨(k0, k1, k2), b0, rfl⟩
theorem open_sents_cell {H : Type} {enc : TypeId × Value → H} {W : World} {c : Value} {fuel : Nat} {y : DataW H × List MemPlace}
    (hf : DataW.trod enc Try.prog W 0 (fun _ => true) true fuel 36 [c] = some y) :
    ∃ (a : Option Addr) (n cap : Nat) (ss : List S3), c = .slice a n cap ∧ HoldsS3 W a n ss ∧ n ≤ 9223372036854775807 ∧ ∀ z ∈ ss, wfZ z.1 := by
  obtain ⟨a, n, cap, R, rfl, hnil, h1, h2, hg, hc⟩ := open_rows_cell Try.underlying36 cellsTs (by omega) (fun cs => ∃ s : S3, wfZ s.1 ∧ cs = [.int .i64 s.1, .int .i64 s.2.1, .int .i64 s.2.2]) (fun _ _ _ h => sent_of h) hf
  have hx : ∀ i, ∃ s : S3, i < n → wfZ s.1 ∧ R i = [.int .i64 s.1, .int .i64 s.2.1, .int .i64 s.2.2] := fun i => by
    by_cases hi : i < n
    · obtain ⟨s, h3⟩ := hg i hi
      exact ⟨s, fun _ => h3⟩
    · exact ⟨s30, fun h => absurd h hi⟩
  obtain ⟨f, hf⟩ : ∃ f : Nat → S3, ∀ i, i < n → wfZ (f i).1 ∧ R i = [.int .i64 (f i).1, .int .i64 (f i).2.1, .int .i64 (f i).2.2] := ⟨fun i => (hx i).choose, fun i hi => (hx i).choose_spec hi⟩
  refine ⟨a, n, cap, (List.range n).map f, rfl, ⟨by simp, fun h0 => ?_⟩, by unfold maxLen at h2; omega, fun z hz => ?_⟩
  · obtain ⟨b, o, ha, hcell⟩ := hc h0
    refine ⟨b, o, ha, fun i hi => ?_⟩
    have e : ((List.range n).map f).getD i s30 = f i := by
      rw [List.getD_eq_getElem?_getD, List.getElem?_map, List.getElem?_range hi]; rfl
    have c0 := hcell i hi 0 (by omega)
    have c1 := hcell i hi 1 (by omega)
    have c2 := hcell i hi 2 (by omega)
    rw [(hf i hi).2] at c0 c1 c2
    rw [e]
    exact ⟨c0, c1, c2⟩
  · obtain ⟨i, hi, rfl⟩ := List.mem_map.1 hz
    exact (hf i (List.mem_range.1 hi)).1
theorem open_ints_cell {H : Type} {enc : TypeId × Value → H} {W : World} {c : Value} {fuel : Nat} {y : DataW H × List MemPlace}
    (hf : DataW.trod enc Try.prog W 0 (fun _ => true) true fuel 28 [c] = some y) :
    ∃ (a : Option Addr) (n cap : Nat) (ls : List Int), c = .slice a n cap ∧ HoldsI .i64 W a n ls ∧ n ≤ 9223372036854775807 ∧ ∀ z ∈ ls, wfZ z := by
  obtain ⟨a, n, cap, R, rfl, hnil, h1, h2, hg, hc⟩ := open_rows_cell Try.underlying28 cellsTint (by omega) (fun cs => ∃ s : Int, wfZ s ∧ cs = [.int .i64 s]) (fun m cs y h => by
    obtain ⟨k0, h0, _, b0⟩ := DataW.trod_int Try.underlying3 h
    exact ⟨k0, b0, h0⟩) hf
  have hx : ∀ i, ∃ s : Int, i < n → wfZ s ∧ R i = [.int .i64 s] := fun i => by
    by_cases hi : i < n
    · obtain ⟨s, h3⟩ := hg i hi
      exact ⟨s, fun _ => h3⟩
    · exact ⟨0, fun h => absurd h hi⟩
  obtain ⟨f, hf⟩ : ∃ f : Nat → Int, ∀ i, i < n → wfZ (f i) ∧ R i = [.int .i64 (f i)] := ⟨fun i => (hx i).choose, fun i hi => (hx i).choose_spec hi⟩
  refine ⟨a, n, cap, (List.range n).map f, rfl, ⟨by simp, fun h0 => ?_⟩, by unfold maxLen at h2; omega, fun z hz => ?_⟩
  · obtain ⟨b, o, ha, hcell⟩ := hc h0
    refine ⟨b, o, ha, fun i hi => ?_⟩
    have e : ((List.range n).map f).getD i 0 = f i := by
      rw [List.getD_eq_getElem?_getD, List.getElem?_map, List.getElem?_range hi]; rfl
    have c0 := hcell i hi 0 (by omega)
    rw [(hf i hi).2] at c0
    rw [e, show o + i = o + i * 1 + 0 by omega]
    exact c0
  · obtain ⟨i, hi, rfl⟩ := List.mem_map.1 hz
    exact (hf i (List.mem_range.1 hi)).1
theorem rec_of {H : Type} {enc : TypeId × Value → H} {W : World} {fuel : Nat} {cs : List Value} {y : DataW H × List MemPlace}
    (h : DataW.trod enc Try.prog W 0 (fun _ => true) true fuel 38 cs = some y) : ∃ x : RecP, RecOk W x ∧ cs = recCells x := by
  obtain ⟨hl, n, hf⟩ := struct_cells Try.underlying38 h
  rw [cellsTr] at hl
  obtain ⟨c0, c1, c2, c3, c4, c5, c6, c7, c8, c9, c10, c11, rfl⟩ : ∃ c0 c1 c2 c3 c4 c5 c6 c7 c8 c9 c10 c11, cs = [c0, c1, c2, c3, c4, c5, c6, c7, c8, c9, c10, c11] := by
    match cs, hl with
    | [c0, c1, c2, c3, c4, c5, c6, c7, c8, c9, c10, c11], _ => exact ⟨c0, c1, c2, c3, c4, c5, c6, c7, c8, c9, c10, c11, rfl⟩
  obtain ⟨y0, z0⟩ := hf 0 _ rfl
  obtain ⟨y1, z1⟩ := hf 1 _ rfl
  obtain ⟨y2, z2⟩ := hf 2 _ rfl
  obtain ⟨y3, z3⟩ := hf 3 _ rfl
  obtain ⟨y4, z4⟩ := hf 4 _ rfl
  obtain ⟨y5, z5⟩ := hf 5 _ rfl
  obtain ⟨a, b, c, d, t, k, m, ht, h0⟩ := event_of z0
  simp [cellsTint, cellsTss, cellsTii] at z1 z2 z3 z4 z5
  obtain ⟨k1, h1, _, _⟩ := DataW.trod_int Try.underlying3 z1
  obtain ⟨k2, h2, _, _⟩ := DataW.trod_int Try.underlying3 z2
  obtain ⟨sa, sn, sc, ss, h3, g3, b3, w3⟩ := open_sents_cell z3
  obtain ⟨k4, h4, _, b4⟩ := DataW.trod_int Try.underlying3 z4
  obtain ⟨la, ln, lc, ls, h5, g5, b5, w5⟩ := open_ints_cell z5
  simp [cellsTe] at h0 h1 h2 h4
  obtain ⟨e0, e1, e2, e3, e4, e5, e6⟩ := h0
  subst e0 e1 e2 e3 e4 e5 e6 h1 h2 h3 h4 h5
  exact ⟨⟨a, b, c, d, t, k, m, k1, k2, sa, sn, sc, ss, k4, la, ln, lc, ls⟩, ⟨g3, g5, b3, b5, ht, b4, w5, w3⟩, rfl⟩
theorem open_recs_arg {H : Type} {enc : TypeId × Value → H} {W : World} {base : Nat} {v : Value} {d : DataW H} {p : List MemPlace}
    (o : Value.okWide Try.prog W .any base 22 v) (h : DataW.Trod enc Try.prog W 0 (fun _ => true) true 22 v d p) :
    ∃ (a : Option Addr) (n cap : Nat) (xs : List RecP), v = .slice a n cap ∧ HoldsRc W a n xs ∧ (a = none → n = 0 ∧ cap = 0) ∧ n ≤ maxLen := by
  obtain ⟨a, n, cap, R, rfl, hnil, h1, h2, hg, hc⟩ := open_rows_arg Try.underlying22 cellsTr (by omega) (fun cs => ∃ x : RecP, RecOk W x ∧ cs = recCells x) (fun _ _ _ h => rec_of h) o h
  have hx : ∀ i, ∃ x : RecP, i < n → RecOk W x ∧ R i = recCells x := fun i => by
    by_cases hi : i < n
    · obtain ⟨x, h3⟩ := hg i hi
      exact ⟨x, fun _ => h3⟩
    · exact ⟨r0, fun h => absurd h hi⟩
  obtain ⟨f, hf⟩ : ∃ f : Nat → RecP, ∀ i, i < n → RecOk W (f i) ∧ R i = recCells (f i) := ⟨fun i => (hx i).choose, fun i hi => (hx i).choose_spec hi⟩
  refine ⟨a, n, cap, (List.range n).map f, rfl, ⟨by simp, fun h0 => ?_, fun x hx => ?_⟩, hnil, Nat.le_trans h1 h2⟩
  · obtain ⟨b, o, ha, hcell⟩ := hc h0
    refine ⟨b, o, ha, fun i hi => ?_⟩
    have e : ((List.range n).map f).getD i r0 = f i := by
      rw [List.getD_eq_getElem?_getD, List.getElem?_map, List.getElem?_range hi]; rfl
    rw [e]
    have c : ∀ j, j < 12 → W.cell? ⟨b, o + i * 12 + j, none⟩ = (recCells (f i))[j]? := fun j hj => by rw [hcell i hi j hj, (hf i hi).2]
    exact ⟨c 0 (by omega), c 1 (by omega), c 2 (by omega), c 3 (by omega), c 4 (by omega), c 5 (by omega), c 6 (by omega), c 7 (by omega), c 8 (by omega), c 9 (by omega), c 10 (by omega), c 11 (by omega)⟩
  · obtain ⟨i, hi, rfl⟩ := List.mem_map.1 hx
    exact (hf i (List.mem_range.1 hi)).1
end Go.Proofs.Ythfoilnofljflaa
