/- backoff's laws, what they share -/
import Derived.Test.YtncblednmkmjmaaBl
import Derived.Deep.RegionWith
import Derived.Deep.DeepCutAuto
import Derived.BigRegion
namespace Go.Proofs.Ytncblednmkmjmaa
open Go.RowKit

/-- from 0 to below n -/
def lowV (x n : Int) : Int := IntKind.u64.wrap x % n
theorem low_bd (x n : Int) (h : 0 < n) : 0 ≤ lowV x n ∧ lowV x n < n := ⟨Int.emod_nonneg _ (by omega), Int.emod_lt_of_pos _ h⟩
theorem u64_in (n : Int) (h : 0 ≤ n) (h2 : n < 18446744073709551616) : IntKind.u64.wrap n = n := by
  simp only [IntKind.wrap, IntKind.signed, IntKind.bits]; simp; omega
theorem low_any (x n : Int) (h : 1 ≤ n) (h2 : n < 4611686018427387904) (w : World) :
    Calls Try.prog 16 #[.int .i64 x, .int .i64 n] w fun e w' => e = .returned (.int .i64 (lowV x n)) ∧ w = w' := by
  have hb := low_bd x n (by omega)
  have hw := u64_in n (by omega) (by omega)
  have hx := u64_bd x
  go_enter Try.func16, Try.ntmps16
  go_wp2
  go_ret
  exact ⟨ret_int (by unfold lowV at *; rw [IntWalk.wrap64_in _ ⟨by omega, by omega⟩]), rfl⟩

theorem clip_in (n m : Int) (h : 0 ≤ n) (h2 : n ≤ m) : clip n m = n := by unfold clip; omega
theorem wait_bd (f c j t d : Int) : 0 ≤ waitV f c j t d ∧ waitV f c j t d ≤ mostV c j := by
  unfold waitV mostV
  have hf := clip_bd f 1000 (by decide)
  have hc := clip_bd c 1000 (by decide)
  have hj := clip_bd j 1000 (by decide)
  have ht := clip_bd t 6 (by decide)
  have hd := dbl_bd (clip f 1000) hf.1 hf.2 (clip t 6).toNat (by omega)
  have h1 := Int.emod_nonneg (IntKind.u64.wrap d) (show clip j 1000 + 1 ≠ 0 by omega)
  have h2 := Int.emod_lt_of_pos (IntKind.u64.wrap d) (show 0 < clip j 1000 + 1 by omega)
  omega
theorem dbl_step (f : Int) (h : 0 ≤ f) (k : Nat) : 0 ≤ dbl f k ∧ dbl f k ≤ dbl f (k + 1) := by
  induction k with
  | zero => simp only [dbl]; omega
  | succ k ih => simp only [dbl] at *; omega
theorem dbl_ge (f : Int) (h : 0 ≤ f) (k : Nat) : f ≤ dbl f k := by
  induction k with
  | zero => simp [dbl]
  | succ k ih => have := dbl_step f h k; omega
theorem wait_facts (f c j t d : Int) (hf : 1 ≤ f) (hf2 : f ≤ 10) (hc : 10 ≤ c) (hc2 : c ≤ 50) (hj : 0 ≤ j) (hj2 : j ≤ 10) (ht : 0 ≤ t) (ht2 : t ≤ 6) :
    f ≤ waitV f c j t d ∧ waitV f c j t d ≤ waitV f c j (tryAfter t) d ∧ waitV f c j (tryAfter t) d ≤ c + j ∧ t ≤ tryAfter t ∧ tryAfter t ≤ 6 := by
  have e0 : tryAfter t = min (t + 1) 6 := by unfold tryAfter; rw [clip_in t 6 ht ht2]
  have h1 := Int.emod_nonneg (IntKind.u64.wrap d) (show j + 1 ≠ 0 by omega)
  have h2 := Int.emod_lt_of_pos (IntKind.u64.wrap d) (show 0 < j + 1 by omega)
  have g1 := dbl_ge f (by omega) t.toNat
  have g2 := dbl_step f (by omega) t.toNat
  have g3 : dbl f (min (t + 1) 6).toNat = dbl f t.toNat ∨ dbl f (min (t + 1) 6).toNat = dbl f (t.toNat + 1) := by
    rcases Int.lt_or_le t 6 with h | h
    · right; congr 1; omega
    · left; congr 1; omega
  unfold waitV
  rw [clip_in f 1000 (by omega) (by omega), clip_in c 1000 (by omega) (by omega), clip_in j 1000 (by omega) (by omega), clip_in t 6 ht ht2, clip_in (tryAfter t) 6 (by omega) (by omega), e0]
  refine ⟨by omega, ?_, by omega, by omega, by omega⟩
  rcases g3 with g3 | g3 <;> rw [g3] <;> omega
/-- a block of twelve cells, held -/
abbrev Box12 (w : World) (B : Nat) (c0 c1 c2 c3 c4 c5 c6 c7 c8 c9 c10 c11 : Value) (w1 : World) : Prop :=
  Below B w w1 ∧ B < w1.heap.size ∧ w1.cell? ⟨B, 0, none⟩ = some c0 ∧ w1.cell? ⟨B, 1, none⟩ = some c1 ∧ w1.cell? ⟨B, 2, none⟩ = some c2 ∧ w1.cell? ⟨B, 3, none⟩ = some c3
      ∧ w1.cell? ⟨B, 4, none⟩ = some c4 ∧ w1.cell? ⟨B, 5, none⟩ = some c5 ∧ w1.cell? ⟨B, 6, none⟩ = some c6 ∧ w1.cell? ⟨B, 7, none⟩ = some c7
      ∧ w1.cell? ⟨B, 8, none⟩ = some c8 ∧ w1.cell? ⟨B, 9, none⟩ = some c9 ∧ w1.cell? ⟨B, 10, none⟩ = some c10 ∧ w1.cell? ⟨B, 11, none⟩ = some c11
theorem setCell_at (w : World) (B i j : Nat) (v u : Value) (h : w.cell? ⟨B, j, none⟩ = some u) : (w.setCell ⟨B, i, none⟩ v).cell? ⟨B, j, none⟩ = some (if i = j then v else u) := by
  by_cases e : i = j
  · subst e; rw [if_pos rfl]; exact World.cell?_setCell_same _ _ _ h
  · rw [if_neg e]; exact (World.cell?_setCell_other _ _ _ _ (by simp)).trans h
theorem box_sets {w w1 : World} {B : Nat} {c0 c1 c2 c3 c4 c5 c6 c7 c8 c9 c10 c11 : Value} (h : Box12 w B c0 c1 c2 c3 c4 c5 c6 c7 c8 c9 c10 c11 w1) (x y z : Value) :
    Box12 w B c0 c1 c2 c3 c4 c5 c6 c7 x y z c11 (((w1.drew.setCell ⟨B, 8, none⟩ x).setCell ⟨B, 9, none⟩ y).setCell ⟨B, 10, none⟩ z) := by
  obtain ⟨h0, hl, k0, k1, k2, k3, k4, k5, k6, k7, k8, k9, k10, k11⟩ := h
  have T : ∀ j u, w1.cell? ⟨B, j, none⟩ = some u → (((w1.drew.setCell ⟨B, 8, none⟩ x).setCell ⟨B, 9, none⟩ y).setCell ⟨B, 10, none⟩ z).cell? ⟨B, j, none⟩ = some (if 10 = j then z else if 9 = j then y else if 8 = j then x else u) := by
    intro j u hu
    exact setCell_at _ _ _ _ _ _ (setCell_at _ _ _ _ _ _ (setCell_at _ _ _ _ _ _ hu))
  exact ⟨((h0.drew.setCell (Nat.le_refl _) _).setCell (Nat.le_refl _) _).setCell (Nat.le_refl _) _, by simpa [World.setCell] using hl, T _ _ k0, T _ _ k1, T _ _ k2, T _ _ k3, T _ _ k4, T _ _ k5, T _ _ k6, T _ _ k7, T _ _ k8, T _ _ k9, T _ _ k10, T _ _ k11⟩

end Go.Proofs.Ytncblednmkmjmaa
