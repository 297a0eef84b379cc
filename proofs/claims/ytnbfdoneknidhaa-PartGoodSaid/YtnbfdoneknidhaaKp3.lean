/- which of two keys is ahead -/
import Derived.Test.YtnbfdoneknidhaaKp2
import Derived.Deep.RegionHeld3
namespace Go.Proofs.Ytnbfdoneknidhaa
open Go.RowKit
set_option linter.unusedVariables false
def Box4 (w0 : World) (p q : Nat) (v0 v1 v2 v3 : Value) (w : World) : Prop := Below w0.heap.size w0 w ∧ w.cell? ⟨p, 0, none⟩ = some v0 ∧ w.cell? ⟨p, 1, none⟩ = some v1 ∧ w.cell? ⟨q, 0, none⟩ = some v2 ∧ w.cell? ⟨q, 1, none⟩ = some v3
theorem box4_carry {w0 w w' : World} {p q : Nat} {v0 v1 v2 v3 : Value} (h : Box4 w0 p q v0 v1 v2 v3 w) (hb : Below w.heap.size w w') : Box4 w0 p q v0 v1 v2 v3 w' :=
  ⟨h.1.trans (hb.mono h.1.size), by rw [hb.cell (p := ⟨p, 0, none⟩) (lt_of_cell h.2.1)]; exact h.2.1, by rw [hb.cell (p := ⟨p, 1, none⟩) (lt_of_cell h.2.1)]; exact h.2.2.1, by rw [hb.cell (p := ⟨q, 0, none⟩) (lt_of_cell h.2.2.2.1)]; exact h.2.2.2.1, by rw [hb.cell (p := ⟨q, 1, none⟩) (lt_of_cell h.2.2.2.1)]; exact h.2.2.2.2⟩
set_option maxHeartbeats 3200000 in
theorem order_any (a b : KV) (w : World) :
    Calls Try.prog 34 #[keyV a, keyV b] w fun e w' => e = .returned (.int .i64 (ordK a b)) ∧ Below w.heap.size w w' := by
  obtain ⟨a1, a2⟩ := a
  obtain ⟨b1, b2⟩ := b
  have hv := ordK_or (a1, a2) (b1, b2)
  obtain ⟨v, hv2⟩ : ∃ v, ordK (a1, a2) (b1, b2) = v := ⟨_, rfl⟩
  rw [hv2] at hv ⊢
  simp only at hv
  unfold keyV
  simp only
  have C1 := Lib.hid (fun w => compareZ_any a1 b1 w)
  have C2 := Lib.hid (fun w => compare_any a2 b2 w)
  obtain ⟨x, hx⟩ : ∃ x, cmpZ a1 b1 = x := ⟨_, rfl⟩
  obtain ⟨y, hy⟩ : ∃ y, cmpS a2 b2 = y := ⟨_, rfl⟩
  rw [hx] at C1 hv; rw [hy] at C2 hv
  have HV := Lib.hid hv
  clear hv hv2 hx hy
  go_enter Try.func34, Try.ntmps34
  go_upto_region 1 with fail
  have e0 : ((w.alloc (.cells #[.int .i64 a1, .string a2] 24)).alloc (.cells #[.int .i64 b1, .string b2] 24)).cell? ⟨w.heap.size, 0, none⟩ = some (.int .i64 a1) := by simp
  have e1 : ((w.alloc (.cells #[.int .i64 a1, .string a2] 24)).alloc (.cells #[.int .i64 b1, .string b2] 24)).cell? ⟨w.heap.size, 1, none⟩ = some (.string a2) := by simp
  have e2 : ((w.alloc (.cells #[.int .i64 a1, .string a2] 24)).alloc (.cells #[.int .i64 b1, .string b2] 24)).cell? ⟨w.heap.size + 1, 0, none⟩ = some (.int .i64 b1) := by simp
  have e3 : ((w.alloc (.cells #[.int .i64 a1, .string a2] 24)).alloc (.cells #[.int .i64 b1, .string b2] 24)).cell? ⟨w.heap.size + 1, 1, none⟩ = some (.string b2) := by simp
  have BB := Lib.hid ((Below.refl w.heap.size w).alloc (Nat.le_refl _) (.cells #[.int .i64 a1, .string a2] 24) |>.alloc (by simp) (.cells #[.int .i64 b1, .string b2] 24))
  generalize (w.alloc (.cells #[.int .i64 a1, .string a2] 24)).alloc (.cells #[.int .i64 b1, .string b2] 24) = w1 at *
  obtain ⟨p, hp⟩ : ∃ p, w.heap.size = p := ⟨_, rfl⟩
  obtain ⟨q, hq⟩ : ∃ q, w.heap.size + 1 = q := ⟨_, rfl⟩
  rw [hq] at e2 e3 ⊢
  have T := Lib.hid (show Box4 w1 w.heap.size q (.int .i64 a1) (.string a2) (.int .i64 b1) (.string b2) w1 from ⟨Below.refl _ _, e0, e1, e2, e3⟩)
  clear e0 e1 e2 e3 hq hp
  go_region_held3 (fun w' => Below w1.heap.size w1 w' ∧ w'.cell? ⟨w.heap.size, 0, none⟩ = some (.int .i64 a1) ∧ w'.cell? ⟨w.heap.size, 1, none⟩ = some (.string a2) ∧ w'.cell? ⟨q, 0, none⟩ = some (.int .i64 b1) ∧ w'.cell? ⟨q, 1, none⟩ = some (.string b2))
    (first | assumption | exact box4_carry T.out (below_drewN w1 _) | exact box4_carry T.out (Below.refl _ _).drew | exact box4_carry (by assumption) (below_one _ _) | exact box4_carry (by assumption) (by assumption))
    (first
      | (go_at_call 44; refine (C1.out _).mono ?_; rintro e w' ⟨rfl, rfl⟩)
      | (go_at_call 36; refine (C2.out _).mono ?_; rintro e w' ⟨rfl, rfl⟩)
      | (go_at_call 43; refine (or_any _ _ x y _ (by simp) (by simp)).mono ?_; rintro e w' ⟨rfl, rfl⟩))
  rename_i T5
  obtain ⟨hb5, -⟩ := T5
  go_wp2_with fail
  go_ret
  exact ⟨ret_int HV.out.symm, BB.out.trans (hb5.mono BB.out.size)⟩
end Go.Proofs.Ytnbfdoneknidhaa
