/- rank in one word; a query as an argument -/
import Derived.Test.YtmpkmgkafhlpjaaRk6
import Derived.Test.YtmpkmgkafhlpjaaKp3b
import Derived.Test.YtmpkmgkafhlpjaaOpT
namespace Go.Proofs.Ytmpkmgkafhlpjaa
open Go.RowKit
set_option linter.unusedVariables false
set_option maxRecDepth 20000
def RetJ (w : World) (n : Nat) (ys : List KV) (e : Ending) (w' : World) : Prop := ∃ a c, e = .returned (.slice a n c) ∧ w'.ownsRow w.heap.size 36 2 (.slice a n c) n (keysV ys) ∧ Below w.heap.size w w'
theorem RetI.j {w w' : World} {ys : List KV} {e : Ending} {n : Nat} (h : RetI w ys e w') (hn : ys.length = n) : RetJ w n ys e w' := by subst hn; exact h
theorem top_lit (a : Option Addr) (n cap L : Nat) (ws : List Tx) (s : Tx) (k m : Int) (ys : List KV) (w : World) (hh : HoldsT w a n ws) (hn : n ≤ 50000) (hl : ∀ t ∈ ws, t.size ≤ 1048576) (hs : s.size ≤ 1048576) (hy : topK ws s k m = ys) (hL : ys.length = L) :
    Calls Try.prog 17 #[.slice a n cap, .agg #[.string s, .int .i64 k, .int .i64 m]] w (RetJ w L ys) := by subst hy; exact (rankTop_any a n cap ws s k m w hh hn hl hs).mono fun _ _ h => h.j hL
theorem all_lit (a : Option Addr) (n cap L : Nat) (ws : List Tx) (s : Tx) (k : Int) (ys : List KV) (w : World) (hh : HoldsT w a n ws) (hn : n ≤ 50000) (hl : ∀ t ∈ ws, t.size ≤ 1048576) (hs : s.size ≤ 1048576) (hy : allK ws s k = ys) (hL : ys.length = L) :
    Calls Try.prog 25 #[.slice a n cap, .string s, .int .i64 k] w (RetJ w L ys) := by subst hy; exact (rankAll_any a n cap ws s k w hh hn hl hs).mono fun _ _ h => h.j hL
def Box3q (w0 : World) (p : Nat) (v0 v1 v2 : Value) (w : World) : Prop := Below w0.heap.size w0 w ∧ w.cell? ⟨p, 0, none⟩ = some v0 ∧ w.cell? ⟨p, 1, none⟩ = some v1 ∧ w.cell? ⟨p, 2, none⟩ = some v2
theorem box3q_carry {w0 w w' : World} {p : Nat} {v0 v1 v2 : Value} (h : Box3q w0 p v0 v1 v2 w) (hb : Below w.heap.size w w') : Box3q w0 p v0 v1 v2 w' :=
  ⟨h.1.trans (hb.mono h.1.size), by rw [hb.cell (p := ⟨p, 0, none⟩) (lt_of_cell h.2.1)]; exact h.2.1, by rw [hb.cell (p := ⟨p, 1, none⟩) (lt_of_cell h.2.1)]; exact h.2.2.1, by rw [hb.cell (p := ⟨p, 2, none⟩) (lt_of_cell h.2.1)]; exact h.2.2.2⟩
theorem row_apart {w w' : World} {B B' : Nat} {e e' : TypeId} {s s' : Nat} {v u : Value} {n m : Nat} {xs ys : List Value} (h1 : w.ownsRow B e s v n xs) (h2 : w'.ownsRow B' e' s' u m ys) (hB : w.heap.size ≤ B') : u.ownBlock = none ∨ u.ownBlock ≠ v.ownBlock := by
  cases hu : u.ownBlock with
  | none => exact Or.inl rfl
  | some g =>
    refine Or.inr fun e => ?_
    have a := (h2.lt g hu).1
    have b := (h1.lt g e.symm).2
    omega
theorem tops_len (ws : List Tx) (s : Tx) (k m : Int) : (topK ws s k m).length ≤ ws.length := by
  unfold topK
  split
  · have := allK_len ws s k
    rw [List.length_take]; omega
  · simp
open Go.ChangeShapes Go.WideShapes Go.ChangeAt in
theorem query_arg {H : Type} {enc : TypeId × Value → H} {w : World} {base : Nat} {spare : Nat → Bool} {held : Bool} {r : Reach} {b0 : Nat} {v : Value} {d : DataW H} {p : List MemPlace}
    (hv : Value.okWide Try.prog w r b0 24 v) (h : DataW.Trod enc Try.prog w base spare held 24 v d p) :
    ∃ t k n, t.size ≤ 9223372036854775807 ∧ (Lit.int .i64 k).wf = true ∧ (Lit.int .i64 n).wf = true ∧ v = .agg #[.string t, .int .i64 k, .int .i64 n] := by
  obtain ⟨cs, rfl, hsz⟩ := okWide_struct Try.underlying24 hv
  obtain ⟨fuel, hf⟩ := h
  obtain ⟨hl, n, hf2⟩ := struct_cells Try.underlying24 hf
  rw [show Try.prog.cellsOf 24 = 3 by kernel_rfl] at hl
  obtain ⟨c0, c1, c2, hcs⟩ := list3 hl
  rw [hcs] at hf2
  obtain ⟨y0, z0⟩ := hf2 0 _ rfl
  obtain ⟨y1, z1⟩ := hf2 1 _ rfl
  obtain ⟨y2, z2⟩ := hf2 2 _ rfl
  obtain ⟨s, hs, _, b0⟩ := DataW.trod_string Try.underlying9 z0
  obtain ⟨k1, h1, _, b1⟩ := DataW.trod_int Try.underlying3 z1
  obtain ⟨k2, h2, _, b2⟩ := DataW.trod_int Try.underlying3 z2
  simp [cellsK_int, cellsK_str] at hs h1 h2
  subst hs h1 h2
  refine ⟨s, k1, k2, by unfold maxLen at b0; exact b0, b1, b2, ?_⟩
  congr 1
  apply Array.toList_inj.1
  simpa [Value.cells] using hcs
end Go.Proofs.Ytmpkmgkafhlpjaa
