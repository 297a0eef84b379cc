/- a band of a table of distances: plain lemmas; a row in memory -/
import Derived.Test.YtmpkmgkafhlpjaaEdW0
namespace Go.Proofs.Ytmpkmgkafhlpjaa
open Go.RowKit
set_option linter.unusedVariables false
set_option maxRecDepth 20000
/-- what the band's cell x holds when i runes of a are done: the distance, k + 1 at most -/
structure Cell (a b : List Int) (k i x : Nat) (v : Int) : Prop where
  lo : 0 ≤ v
  hi : v ≤ (k : Int) + 1
  eq : ∀ j : Nat, (j : Int) = (i : Int) + x - k → j ≤ b.length → v = min (Ed.L a b i j) ((k : Int) + 1)
  far : i + x < k → v = (k : Int) + 1
theorem cell_start (a b : List Int) (k x : Nat) (h : x ≤ 2 * k) : Cell a b k 0 x (if k ≤ x then (x : Int) - k else (k : Int) + 1) := by
  refine ⟨by split <;> omega, by split <;> omega, fun j hj hl => ?_, fun hx => by rw [if_neg (by omega)]⟩
  rw [Ed.L_zeroL, if_pos (by omega)]; omega
theorem cell_out_low (a b : List Int) (k i x : Nat) (h : i + x < k) : Cell a b k i x ((k : Int) + 1) := ⟨by omega, by omega, fun j hj _ => by omega, fun _ => rfl⟩
theorem cell_out_high (a b : List Int) (k i x : Nat) (h : (b.length : Int) < (i : Int) + x - k) : Cell a b k i x ((k : Int) + 1) := ⟨by omega, by omega, fun j hj _ => by omega, fun _ => rfl⟩
/-- the cell at the left edge of the table -/
theorem cell_zero (a b : List Int) (k i x : Nat) (u v : Int) (hx : (i : Int) + 1 + x = k) (hu : x + 1 ≤ 2 * k → Cell a b k i (x + 1) u) (hv : v = min (min ((k : Int) + 1) (u + 1)) ((k : Int) + 1)) : Cell a b k (i + 1) x v := by
  have h1 := (hu (by omega)).eq 0 (by omega) (by omega)
  rw [Ed.L_zero] at h1
  refine ⟨by omega, by omega, fun j hj hl => ?_, fun h => by omega⟩
  obtain rfl : j = 0 := by omega
  rw [Ed.L_zero]; omega
/-- a cell within the table -/
theorem cell_in (a b : List Int) (k i x J : Nat) (o l u d2 d3 v : Int) (hJ : (J : Int) + 1 = (i : Int) + 1 + x - k) (hl : J + 1 ≤ b.length) (ho : Cell a b k i x o)
    (hd2 : (x = 0 ∧ d2 = o + Ed.cost (a.getD i 0) (b.getD J 0)) ∨ (∃ p, p + 1 = x ∧ Cell a b k (i + 1) p l ∧ d2 = min (o + Ed.cost (a.getD i 0) (b.getD J 0)) (l + 1)))
    (hd3 : (x = 2 * k ∧ d3 = d2) ∨ (x < 2 * k ∧ Cell a b k i (x + 1) u ∧ d3 = min d2 (u + 1)))
    (hv : v = min d3 ((k : Int) + 1)) : Cell a b k (i + 1) x v := by
  have h1 := ho.eq J (by omega) (by omega)
  have hc := Ed.cost_bd (a.getD i 0) (b.getD J 0)
  have hL : Ed.L a b (i + 1) (J + 1) = min (min (Ed.L a b i J + Ed.cost (a.getD i 0) (b.getD J 0)) (Ed.L a b (i + 1) J + 1)) (Ed.L a b i (J + 1) + 1) := by simp only [Ed.L]
  have b1 := Ed.L_low a b (i + 1) J
  have b2 := Ed.L_low a b i (J + 1)
  have b3 := Ed.L_bd a b i J
  have b4 := Ed.L_bd a b (i + 1) J
  have b5 := Ed.L_bd a b i (J + 1)
  have g1 := ho.lo
  have e2 : d2 = min (o + Ed.cost (a.getD i 0) (b.getD J 0)) (min (Ed.L a b (i + 1) J) ((k : Int) + 1) + 1) ∨ (d2 = o + Ed.cost (a.getD i 0) (b.getD J 0) ∧ (k : Int) + 1 ≤ Ed.L a b (i + 1) J) := by
    rcases hd2 with ⟨hx, h⟩ | ⟨p, hp, hcell, h⟩
    · exact Or.inr ⟨h, by omega⟩
    · have h2 := hcell.eq J (by omega) (by omega)
      exact Or.inl (by rw [h, h2])
  have e3 : d3 = min d2 (min (Ed.L a b i (J + 1)) ((k : Int) + 1) + 1) ∨ (d3 = d2 ∧ (k : Int) + 1 ≤ Ed.L a b i (J + 1)) := by
    rcases hd3 with ⟨hx, h⟩ | ⟨hx, hcell, h⟩
    · exact Or.inr ⟨h, by omega⟩
    · have h2 := hcell.eq (J + 1) (by omega) (by omega)
      exact Or.inl (by rw [h, h2])
  have hval : v = min (Ed.L a b (i + 1) (J + 1)) ((k : Int) + 1) := by
    rw [hL, hv]
    generalize Ed.L a b i J = A at *
    generalize Ed.L a b (i + 1) J = B at *
    generalize Ed.L a b i (J + 1) = C at *
    generalize Ed.cost (a.getD i 0) (b.getD J 0) = c at *
    clear hd2 hd3 ho hL
    rcases e2 with e2 | ⟨e2, f2⟩ <;> rcases e3 with e3 | ⟨e3, f3⟩ <;> omega
  have b6 := Ed.L_bd a b (i + 1) (J + 1)
  refine ⟨by omega, by omega, fun j hj hl2 => ?_, fun h => by omega⟩
  obtain rfl : j = J + 1 := by omega
  exact hval
/-- what a round of the band has to come to, told of the number that it begins with -/
def Comes (a b : List Int) (k i x : Nat) (d1 : Int) : Prop :=
  ∀ (l u d2 d3 v : Int), ((x = 0 ∧ d2 = d1) ∨ (∃ p, p + 1 = x ∧ Cell a b k (i + 1) p l ∧ d2 = min d1 (l + 1))) →
    ((x = 2 * k ∧ d3 = d2) ∨ (x < 2 * k ∧ Cell a b k i (x + 1) u ∧ d3 = min d2 (u + 1))) → v = min d3 ((k : Int) + 1) → Cell a b k (i + 1) x v
theorem comes_in (a b : List Int) (k i x J : Nat) (o : Int) (hJ : (J : Int) + 1 = (i : Int) + 1 + x - k) (hl : J + 1 ≤ b.length) (ho : Cell a b k i x o) : Comes a b k i x (o + Ed.cost (a.getD i 0) (b.getD J 0)) :=
  fun l u d2 d3 v h2 h3 hv => cell_in a b k i x J o l u d2 d3 v hJ hl ho h2 h3 hv
theorem comes_zero (a b : List Int) (k i x : Nat) (hx : (i : Int) + 1 + x = k) : Comes a b k i x ((k : Int) + 1) := by
  intro l u d2 d3 v h2 h3 hv
  have e2 : d2 = (k : Int) + 1 := by
    rcases h2 with ⟨_, h⟩ | ⟨p, hp, hc, h⟩
    · exact h
    · have := hc.far (by omega); omega
  rcases h3 with ⟨h, _⟩ | ⟨h, hc, h'⟩
  · omega
  · exact cell_zero a b k i x u v hx (fun _ => hc) (by rw [hv, h', e2])
/-- a row of numbers in memory, in a block of its own -/
structure RowIs (w : World) (g n : Nat) (f : Nat → Int) : Prop where
  c : ∀ j, j < n → w.cell? ⟨g, j, none⟩ = some (.int .i64 (f j))
  fr : ∀ j, w.frozen? ⟨g, j, none⟩ = false
def updI (f : Nat → Int) (i : Nat) (v : Int) : Nat → Int := fun j => if j = i then v else f j
theorem updI_at (f : Nat → Int) (i : Nat) (v : Int) : updI f i v i = v := by simp [updI]
theorem updI_ne (f : Nat → Int) (i j : Nat) (v : Int) (h : j ≠ i) : updI f i v j = f j := by simp [updI, h]
theorem setc_at {w : World} {b o : Nat} {u v : Value} (h : w.cell? ⟨b, o, none⟩ = some u) : (w.setCell ⟨b, o, none⟩ v).cell? ⟨b, o, none⟩ = some v := World.cell?_setCell_same _ _ _ h
theorem setc_ne {w : World} {b o p : Nat} {v : Value} (h : o ≠ p) : (w.setCell ⟨b, o, none⟩ v).cell? ⟨b, p, none⟩ = w.cell? ⟨b, p, none⟩ := World.cell?_setCell_other _ _ _ _ (by intro e; injection e; contradiction)
theorem RowIs.set {w : World} {g n : Nat} {f : Nat → Int} (h : RowIs w g n f) (i : Nat) (v : Int) (hi : i < n) : RowIs (w.setCell ⟨g, i, none⟩ (.int .i64 v)) g n (updI f i v) := by
  refine ⟨fun j hj => ?_, fun j => by rw [show (w.setCell ⟨g, i, none⟩ (.int .i64 v)).frozen? ⟨g, j, none⟩ = w.frozen? ⟨g, j, none⟩ by simp]; exact h.fr j⟩
  by_cases e : j = i
  · subst e; rw [updI_at]; exact setc_at (h.c j hj)
  · rw [updI_ne _ _ _ _ e, setc_ne (fun x => e x.symm)]; exact h.c j hj
theorem RowIs.lt {w : World} {g n : Nat} {f : Nat → Int} (h : RowIs w g n f) (hn : 0 < n) : g < w.heap.size := lt_of_cell (h.c 0 hn)
theorem RowIs.block {w w' : World} {g n : Nat} {f : Nat → Int} (h : RowIs w g n f) (hb : w'.heap[g]? = w.heap[g]?) : RowIs w' g n f :=
  ⟨fun j hj => by rw [World.cell?_of_block (w := w) hb]; exact h.c j hj, fun j => by rw [World.frozen?_of_block (w := w) hb]; exact h.fr j⟩
/-- apart from block b the world w' is as w was -/
structure But (b : Nat) (w w' : World) : Prop where
  os : w'.os = w.os
  tape : w'.tape = w.tape
  output : w'.output = w.output
  size : w.heap.size ≤ w'.heap.size
  block : ∀ k, k < w.heap.size → k ≠ b → w'.heap[k]? = w.heap[k]?
theorem But.refl (b : Nat) (w : World) : But b w w := ⟨rfl, rfl, rfl, Nat.le_refl _, fun _ _ _ => rfl⟩
theorem But.trans {b : Nat} {w w1 w2 : World} (h : But b w w1) (k : But b w1 w2) : But b w w2 :=
  ⟨k.os.trans h.os, k.tape.trans h.tape, k.output.trans h.output, Nat.le_trans h.size k.size, fun i hi hb => (k.block i (Nat.lt_of_lt_of_le hi h.size) hb).trans (h.block i hi hb)⟩
theorem But.setCell (w : World) (b o : Nat) (v : Value) : But b w (w.setCell ⟨b, o, none⟩ v) :=
  ⟨rfl, rfl, rfl, by simp [World.setCell], fun k _ hk => Below.heap_setCell _ _ _ _ hk⟩
theorem But.below {b B : Nat} {w w' : World} (h : But b w w') (hb : B ≤ b) (hB : B ≤ w.heap.size) : Below B w w' :=
  ⟨h.os, h.tape, h.output, h.size, fun k hk => h.block k (by omega) (by omega)⟩
theorem HoldsI.but {k : IntKind} {w w' : World} {a : Option Addr} {n : Nat} {zs : List Int} {g : Nat} (h : HoldsI k w a n zs) (hb : But g w w') (hne : ∀ b o, 0 < n → a = some ⟨b, o, none⟩ → b ≠ g) : HoldsI k w' a n zs := by
  refine ⟨h.1, fun h0 => ?_⟩
  obtain ⟨b, o, ha, hc⟩ := h.2 h0
  refine ⟨b, o, ha, fun i hi => ?_⟩
  rw [World.cell?_of_block (w := w) (hb.block b (lt_of_cell (hc i hi)) (hne b o h0 ha))]
  exact hc i hi
end Go.Proofs.Ytmpkmgkafhlpjaa
