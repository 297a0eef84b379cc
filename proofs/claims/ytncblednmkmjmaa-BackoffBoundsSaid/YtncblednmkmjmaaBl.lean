/- contracts of backoff, more -/
import Derived.Test.YtncblednmkmjmaaBk
import Derived.Deep.RegionHeld3
import Derived.StillTailTactics
namespace Go.Proofs.Ytncblednmkmjmaa
open Go.RowKit

def mostV (c j : Int) : Int := clip c 1000 + clip j 1000
theorem most_any (c0 c1 c2 c3 c4 c5 c6 c7 c8 c11 : Value) (c j : Int) (w : World) :
    Calls Try.prog 21 #[.agg #[c0, c1, c2, c3, c4, c5, c6, c7, c8, .int .i64 c, .int .i64 j, c11]] w fun e w' => e = .returned (.int .i64 (mostV c j)) ∧ Below w.heap.size w w' := by
  have hj := clip_bd j 1000 (by decide)
  have hc := clip_bd c 1000 (by decide)
  go_enter Try.func21, Try.ntmps21
  go_wp2
  go_quiet ((go_at_call 26; exact Calls.quiet_of_same ((ticks_any _ _).mono (fun _ _ h => ⟨h.1, h.2.symm⟩))))
  go_wp2
  go_ret
  exact ⟨rfl, Joins.below_le (((Below.refl _ _).alloc (Nat.le_refl _) _).trans (Joins.below_draws _ _ _)) (Nat.le_refl _)⟩
theorem rmost_any (c0 c1 c2 c3 c4 c5 c6 c7 c8 c11 : Value) (c j : Int) (w : World) :
    Calls Try.prog 22 #[.agg #[c0, c1, c2, c3, c4, c5, c6, c7, c8, .int .i64 c, .int .i64 j, c11]] w fun e w' => e = .returned (.int .i64 (mostV c j)) ∧ Below w.heap.size w w' := by
  have hj := clip_bd j 1000 (by decide)
  have hc := clip_bd c 1000 (by decide)
  go_enter Try.func22, Try.ntmps22
  go_wp2
  go_quiet ((go_at_call 28; exact Calls.quiet_of_same ((rclip_any _ _ _).mono (fun _ _ h => ⟨h.1, h.2.symm⟩))))
  go_wp2
  go_ret
  exact ⟨rfl, Joins.below_le (((Below.refl _ _).alloc (Nat.le_refl _) _).trans (Joins.below_draws _ _ _)) (Nat.le_refl _)⟩

theorem box_carry {w w1 w2 : World} {B : Nat} {c0 c1 c2 c3 c4 c5 c6 c7 c8 c9 c10 c11 : Value}
    (h : Below B w w1 ∧ B < w1.heap.size ∧ w1.cell? ⟨B, 0, none⟩ = some c0 ∧ w1.cell? ⟨B, 1, none⟩ = some c1 ∧ w1.cell? ⟨B, 2, none⟩ = some c2 ∧ w1.cell? ⟨B, 3, none⟩ = some c3
      ∧ w1.cell? ⟨B, 4, none⟩ = some c4 ∧ w1.cell? ⟨B, 5, none⟩ = some c5 ∧ w1.cell? ⟨B, 6, none⟩ = some c6 ∧ w1.cell? ⟨B, 7, none⟩ = some c7
      ∧ w1.cell? ⟨B, 8, none⟩ = some c8 ∧ w1.cell? ⟨B, 9, none⟩ = some c9 ∧ w1.cell? ⟨B, 10, none⟩ = some c10 ∧ w1.cell? ⟨B, 11, none⟩ = some c11)
    (hb : Below w1.heap.size w1 w2) :
    Below B w w2 ∧ B < w2.heap.size ∧ w2.cell? ⟨B, 0, none⟩ = some c0 ∧ w2.cell? ⟨B, 1, none⟩ = some c1 ∧ w2.cell? ⟨B, 2, none⟩ = some c2 ∧ w2.cell? ⟨B, 3, none⟩ = some c3
      ∧ w2.cell? ⟨B, 4, none⟩ = some c4 ∧ w2.cell? ⟨B, 5, none⟩ = some c5 ∧ w2.cell? ⟨B, 6, none⟩ = some c6 ∧ w2.cell? ⟨B, 7, none⟩ = some c7
      ∧ w2.cell? ⟨B, 8, none⟩ = some c8 ∧ w2.cell? ⟨B, 9, none⟩ = some c9 ∧ w2.cell? ⟨B, 10, none⟩ = some c10 ∧ w2.cell? ⟨B, 11, none⟩ = some c11 := by
  obtain ⟨h0, hl, h⟩ := h
  have hs := hb.size
  refine ⟨h0.trans (hb.mono (by omega)), by omega, ?_⟩
  simp only [hb.cell (p := ⟨B, _, none⟩) hl]
  exact h
theorem bcell {W w1 : World} (hb : Below W.heap.size W w1) : (∀ b o, b < W.heap.size → w1.cell? ⟨b, o, none⟩ = W.cell? ⟨b, o, none⟩) ∧ (∀ b o, b < W.heap.size → w1.frozen? ⟨b, o, none⟩ = W.frozen? ⟨b, o, none⟩) :=
  ⟨fun b o h => hb.cell (p := ⟨b, o, none⟩) h, fun b o h => hb.frozen (p := ⟨b, o, none⟩) h⟩
theorem below_one (w : World) (o : Obj) : Below w.heap.size w (w.alloc o) := (Below.refl _ _).alloc (Nat.le_refl _) o
theorem wait_a1 : waitV 2 9 3 1 5 = 5 := by decide
theorem wait_a2 : waitV 2 9 3 4 0 = 9 := by decide
theorem most_a : mostV 9 3 = 12 := by decide
theorem try_a : tryAfter 6 = 6 := by decide
set_option maxHeartbeats 400000 in
theorem awake_any (w : World) : Calls Try.prog 23 #[] w fun e w' => e = .returned (.bool true) ∧ Below w.heap.size w w' := by
  go_enter Try.func23, Try.ntmps23
  go_wp2_with fail
  refine (wait_any _ _ _ _ _ _ _ _ _ _ _ _ _ _ _).mono ?_
  rintro e w1 ⟨rfl, hb⟩
  obtain ⟨hc, _⟩ := bcell hb
  rw [wait_a1]
  go_wp2_with fail
  refine (wait_any _ _ _ _ _ _ _ _ _ _ _ _ _ _ _).mono ?_
  rintro e w2 ⟨rfl, hb2⟩
  have hz : w.heap.size < w1.heap.size := by have := hb.size; simp at this; omega
  have hc2 : ∀ o, w2.cell? ⟨w.heap.size, o, none⟩ = w1.cell? ⟨w.heap.size, o, none⟩ := fun o => hb2.cell (p := ⟨_, o, none⟩) hz
  rw [wait_a2]
  go_wp2_with fail
  refine (most_any _ _ _ _ _ _ _ _ _ _ _ _ _).mono ?_
  rintro e w3 ⟨rfl, hb3⟩
  rw [most_a]
  go_wp2_with fail
  refine (try_any _ _).mono ?_
  rintro e w' ⟨rfl, rfl⟩
  rw [try_a]
  go_wp2_with fail
  go_ret
  have hz2 := hb2.size
  exact ⟨rfl, (((below_one _ _).trans (hb.mono (by simp))).trans (hb2.mono (by omega))).trans (hb3.mono (by omega))⟩
set_option maxHeartbeats 800000 in
theorem waits_any (c0 c1 c2 c3 c4 c5 c6 c7 c11 : Value) (f c j t d : Int) (w : World) :
    Calls Try.prog 7 #[.agg #[c0, c1, c2, c3, c4, c5, c6, c7, .int .i64 f, .int .i64 c, .int .i64 j, c11], .int .i64 t, .int .i64 d] w fun e w' => e = .returned (.bool true) ∧ Below w.heap.size w w' := by
  go_enter Try.func7, Try.ntmps7
  go_wp2_with fail
  go_region_held3 (fun w' => Below w.heap.size w w' ∧ w.heap.size < w'.heap.size ∧ w'.cell? ⟨w.heap.size, 0, none⟩ = some c0 ∧ w'.cell? ⟨w.heap.size, 1, none⟩ = some c1 ∧ w'.cell? ⟨w.heap.size, 2, none⟩ = some c2 ∧ w'.cell? ⟨w.heap.size, 3, none⟩ = some c3
      ∧ w'.cell? ⟨w.heap.size, 4, none⟩ = some c4 ∧ w'.cell? ⟨w.heap.size, 5, none⟩ = some c5 ∧ w'.cell? ⟨w.heap.size, 6, none⟩ = some c6 ∧ w'.cell? ⟨w.heap.size, 7, none⟩ = some c7
      ∧ w'.cell? ⟨w.heap.size, 8, none⟩ = some (.int .i64 f) ∧ w'.cell? ⟨w.heap.size, 9, none⟩ = some (.int .i64 c) ∧ w'.cell? ⟨w.heap.size, 10, none⟩ = some (.int .i64 j) ∧ w'.cell? ⟨w.heap.size, 11, none⟩ = some c11)
    (first | assumption | exact ⟨((Below.refl _ _).alloc (Nat.le_refl _) _).drew, by simp, by simp, by simp, by simp, by simp, by simp, by simp, by simp, by simp, by simp, by simp, by simp, by simp⟩ | exact box_carry (by assumption) (by assumption))
    (first
      | (go_at_call 17; refine (wait_any _ _ _ _ _ _ _ _ _ _ _ _ _ _ _).mono ?_; rintro e w' ⟨rfl, hb⟩)
      | (go_at_call 18; refine (rwait_any _ _ _ _ _ _ _ _ _ _ _ _ _ _ _).mono ?_; rintro e w' ⟨rfl, hb⟩)
      | (go_at_call 19; refine (try_any _ _).mono ?_; rintro e w' ⟨rfl, rfl⟩)
      | (go_at_call 20; refine (rtry_any _ _).mono ?_; rintro e w' ⟨rfl, rfl⟩)
      | (go_at_call 21; refine (most_any _ _ _ _ _ _ _ _ _ _ _ _ _).mono ?_; rintro e w' ⟨rfl, hb⟩)
      | (go_at_call 22; refine (rmost_any _ _ _ _ _ _ _ _ _ _ _ _ _).mono ?_; rintro e w' ⟨rfl, hb⟩)
      | (go_at_call 23; refine (awake_any _).mono ?_; rintro e w' ⟨rfl, hb⟩))
  go_wp2
  go_ret
  exact ⟨rfl, And.left (by assumption)⟩
end Go.Proofs.Ytncblednmkmjmaa
