/- a table of distances in memory: rows in blocks of their own -/
import Derived.Test.YtmpkmgkafhlpjaaBaM
namespace Go.Proofs.Ytmpkmgkafhlpjaa
open Go.RowKit
set_option linter.unusedVariables false
set_option maxRecDepth 20000
/-- a row of numbers that lies in a block of cells of int -/
def RowAt (w : World) (g n : Nat) (f : Nat → Int) : Prop := ∃ cs fr, w.heap[g]? = some (.cells cs 3 fr) ∧ ∀ j, j < n → cs[j]? = some (.int .i64 (f j))
theorem RowAt.cell {w : World} {g n : Nat} {f : Nat → Int} (h : RowAt w g n f) {j : Nat} (hj : j < n) : w.cell? ⟨g, j, none⟩ = some (.int .i64 (f j)) := by
  obtain ⟨cs, fr, h1, h2⟩ := h
  rw [Joins.cell_of_block h1]; exact h2 j hj
theorem RowAt.lt {w : World} {g n : Nat} {f : Nat → Int} (h : RowAt w g n f) : g < w.heap.size := by
  obtain ⟨cs, fr, h1, _⟩ := h
  exact (Array.getElem?_eq_some_iff.1 h1).1
theorem RowAt.block {w w' : World} {g n : Nat} {f : Nat → Int} (h : RowAt w g n f) (hb : w'.heap[g]? = w.heap[g]?) : RowAt w' g n f := by
  obtain ⟨cs, fr, h1, h2⟩ := h
  exact ⟨cs, fr, by rw [hb]; exact h1, h2⟩
theorem RowAt.below {w w' : World} {g n : Nat} {f : Nat → Int} (h : RowAt w g n f) (hb : Below w.heap.size w w') : RowAt w' g n f := h.block (hb.block g h.lt)
theorem RowAt.congr {w : World} {g n : Nat} {f f' : Nat → Int} (h : RowAt w g n f) (he : ∀ j, j < n → f j = f' j) : RowAt w g n f' := by
  obtain ⟨cs, fr, h1, h2⟩ := h
  exact ⟨cs, fr, h1, fun j hj => by rw [← he j hj]; exact h2 j hj⟩
theorem RowAt.of_own {w : World} {B n : Nat} {v : Value} {zs : List Int} (h : w.ownsRow B 3 1 v n (intsV zs)) (h0 : 0 < n) : ∃ g c, v = .slice (some ⟨g, 0, none⟩) n c ∧ B ≤ g ∧ RowAt w g n (fun j => zs.getD j 0) := by
  obtain ⟨h1, ⟨_, h2⟩ | ⟨g, cap, cur, rfl, hg, hh, h3, h4, h5, h6⟩⟩ := h
  · omega
  · refine ⟨g, cap, rfl, hg, cur, _, hh, fun j hj => ?_⟩
    rw [Nat.mul_one] at h6
    have h7 : zs.length = n := by rw [Nat.mul_one] at h1; simpa [intsV] using h1
    have h8 := intsV_at zs j (by omega)
    rw [← h6, List.getElem?_take, if_pos hj] at h8
    rw [← h8]; simp
/-- the rows' slices -/
def slV (m : Nat) (G C : Nat → Nat) (n : Nat) : List Value := (List.range n).map fun j => .slice (some ⟨G j, 0, none⟩) m (C j)
theorem slV_length (m : Nat) (G C : Nat → Nat) (n : Nat) : (slV m G C n).length = n := by simp [slV]
theorem slV_at (m : Nat) (G C : Nat → Nat) (n j : Nat) (h : j < n) : (slV m G C n)[j]? = some (.slice (some ⟨G j, 0, none⟩) m (C j)) := by simp [slV, h]
def updN (f : Nat → Nat) (i : Nat) (v : Nat) : Nat → Nat := fun j => if j = i then v else f j
theorem updN_at (f : Nat → Nat) (i v : Nat) : updN f i v i = v := by simp [updN]
theorem updN_ne (f : Nat → Nat) (i j v : Nat) (h : j ≠ i) : updN f i v j = f j := by simp [updN, h]
theorem slV_snoc (m : Nat) (G C : Nat → Nat) (n g c : Nat) : slV m (updN G n g) (updN C n c) (n + 1) = slV m G C n ++ [.slice (some ⟨g, 0, none⟩) m c] := by
  unfold slV
  rw [List.range_succ, List.map_append]
  congr 1
  · refine List.map_congr_left fun j hj => ?_
    have := List.mem_range.1 hj
    rw [updN_ne _ _ _ _ (by omega), updN_ne _ _ _ _ (by omega)]
  · simp [updN_at]
theorem one_slice (a : Option Addr) (n c : Nat) : ∀ u ∈ [Value.slice a n c], u.oneCell' = true := by simp [Value.oneCell']
/-- where the list of slices lies: no row lies there -/
theorem own_at {w : World} {B n : Nat} {v : Value} {xs : List Value} (h : w.ownsRow B 73 1 v n xs) (h0 : 0 < n) : ∃ T c, v = .slice (some ⟨T, 0, none⟩) n c ∧ ∀ j u, xs[j]? = some u → w.cell? ⟨T, j, none⟩ = some u := by
  obtain ⟨h1, ⟨_, h2⟩ | ⟨g, cap, cur, rfl, hg, hh, h3, h4, h5, h6⟩⟩ := h
  · omega
  · refine ⟨g, cap, rfl, fun j u hj => ?_⟩
    rw [Joins.cell_of_block hh]
    rw [← h6] at hj
    rw [List.getElem?_take] at hj
    split at hj
    · simpa using hj
    · cases hj
theorem own_apart {w : World} {B n g m : Nat} {v : Value} {xs : List Value} {f : Nat → Int} (h : w.ownsRow B 73 1 v n xs) (hr : RowAt w g m f) : some g ≠ v.ownBlock := by
  obtain ⟨cs, fr, hr1, _⟩ := hr
  obtain ⟨h1, ⟨rfl, h2⟩ | ⟨T, cap, cur, rfl, hg, hh, _⟩⟩ := h
  · simp [Value.ownBlock]
  · intro e
    simp only [Value.ownBlock, Option.some.injEq] at e
    subst e
    rw [hh] at hr1
    injection hr1 with hr1
    injection hr1 with _ e2 _
    exact absurd e2 (by decide)
theorem RowAt.grown {w w' : World} {B n g m : Nat} {v : Value} {xs : List Value} {f : Nat → Int} (hr : RowAt w g m f) (h : w.ownsRow B 73 1 v n xs) (hg : w.grownBy w' v.ownBlock) : RowAt w' g m f :=
  hr.block (hg.block g hr.lt (own_apart h hr))
/-- the table of the first n beginnings of a, as a slice -/
def TableIs (w : World) (a : Option Addr) (n m : Nat) (ra rb : List Int) : Prop :=
  ∃ T, a = some ⟨T, 0, none⟩ ∧ ∀ i, i < n → ∃ g c, w.cell? ⟨T, i, none⟩ = some (.slice (some ⟨g, 0, none⟩) m c) ∧ ∀ j, j < m → w.cell? ⟨g, j, none⟩ = some (.int .i64 (Ed.L ra rb i j))
theorem TableIs.below {w w' : World} {a : Option Addr} {n m : Nat} {ra rb : List Int} (h : TableIs w a n m ra rb) (hb : Below w.heap.size w w') : TableIs w' a n m ra rb := by
  obtain ⟨T, ha, h1⟩ := h
  refine ⟨T, ha, fun i hi => ?_⟩
  obtain ⟨g, c, h2, h3⟩ := h1 i hi
  exact ⟨g, c, by rw [hb.cell (p := ⟨T, i, none⟩) (lt_of_cell h2)]; exact h2, fun j hj => by rw [hb.cell (p := ⟨g, j, none⟩) (lt_of_cell (h3 j hj))]; exact h3 j hj⟩
theorem slices_info : (Try.prog.info? 73).map (fun i => (i.zero, i.size, i.bytes)) = some (some (.slice none 0 0), 1, 24) := by kernel_rfl
end Go.Proofs.Ytmpkmgkafhlpjaa
