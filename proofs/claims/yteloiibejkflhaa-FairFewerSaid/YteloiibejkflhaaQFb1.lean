/- fair: joins (by gen/fb1.py) -/
import Derived.Test.YteloiibejkflhaaQFa6
namespace Go.Proofs.Yteloiibejkflhaa
open Go.RowKit
set_option linter.unusedVariables false
set_option maxRecDepth 20000
def joinsB (G : List Int) (s : S3) : Bool := (decide (s.2.1 = 0) && decide (s.2.2 ∈ G)) || (decide (s.2.2 = 0) && decide (s.2.1 ∈ G))
set_option maxHeartbeats 3200000 in
set_option maxRecDepth 100000 in
theorem vjoins_any (W : Int) (ra : Option Addr) (rn rc : Nat) (ga : Option Addr) (k gc mb : Nat) (G : List Int) (i f t : Int) (z : Bool) (w : World) (hg : HoldsI .i64 w ga k G) (hk : k ≤ 1000) (hz : joinsB G (i, f, t) = z) :
    Calls Try.prog 39 #[.agg #[.int .i64 W, .slice ra rn rc, .slice ga k gc, .map (some mb)], .agg #[.int .i64 i, .int .i64 f, .int .i64 t]] w fun e w' => e = .returned (.bool z) ∧ Below w.heap.size w w' := by
  have BX := below_one w (.cells #[.int .i64 W, .slice ra rn rc, .slice ga k gc, .map (some mb)] 60)
  have VN := view_new w W ra rn rc ga k gc mb w.heap.size rfl 60
  have v2 := VN.2.1
  obtain ⟨w1, hw1⟩ : ∃ w1, w.alloc (.cells #[.int .i64 W, .slice ra rn rc, .slice ga k gc, .map (some mb)] 60) = w1 := ⟨_, rfl⟩
  rw [hw1] at BX v2
  have B1 := below_one w1 (.cells #[.int .i64 i, .int .i64 f, .int .i64 t] 45)
  have S0 := s3_new3 w1 (i, f, t) w1.heap.size 45 (0, 0) rfl
  obtain ⟨w2, hw2⟩ : ∃ w2, w1.alloc (.cells #[.int .i64 i, .int .i64 f, .int .i64 t] 45) = w2 := ⟨_, rfl⟩
  rw [hw2] at B1
  have S1 : w2.cell? ⟨w1.heap.size, 1, none⟩ = some (.int .i64 f) ∧ w2.cell? ⟨w1.heap.size, 2, none⟩ = some (.int .i64 t) := by rw [← hw2]; exact S0.2
  obtain ⟨s1, s2⟩ := S1
  have v2' := (B1.cell (p := ⟨w.heap.size, 2, none⟩) (lt_of_cell v2)).trans v2
  have B2 := Lib.hid (BX.trans (B1.mono BX.size))
  have HG := Lib.hid (hg.below B2.out)
  obtain ⟨y1, hy1⟩ : ∃ y, decide (t ∈ G) = y := ⟨_, rfl⟩
  obtain ⟨y2, hy2⟩ : ∃ y, decide (f ∈ G) = y := ⟨_, rfl⟩
  have CN1 := Lib.hid (fun (w' : World) (hb : Below w2.heap.size w2 w') => contains_any ga k gc G t y1 w' (HG.out.below hb) (by omega) hy1)
  have CN2 := Lib.hid (fun (w' : World) (hb : Below w2.heap.size w2 w') => contains_any ga k gc G f y2 w' (HG.out.below hb) (by omega) hy2)
  have hz2 : ((decide (f = 0) && y1) || (decide (t = 0) && y2)) = z := by rw [← hz, ← hy1, ← hy2]; rfl
  obtain ⟨p, hp⟩ : ∃ p, w1.heap.size = p := ⟨_, rfl⟩
  rw [hp] at s1 s2
  have hb0 := Below.refl w2.heap.size w2
  clear hg hz hy1 hy2 BX B1 VN v2 S0
  go_enter Try.func39, Try.ntmps39
  go_upto_region 1 with fail
  try rw [hw1]
  try rw [hw2]
  try simp only [hp]
  clear hw1 hw2 hp
  obtain ⟨df, hdf⟩ : ∃ d, decide (f = 0) = d := ⟨_, rfl⟩
  obtain ⟨dt, hdt⟩ : ∃ d, decide (t = 0) = d := ⟨_, rfl⟩
  rw [hdf, hdt] at hz2
  have hdf2 : (f == 0) = df := by rw [← hdf]; rcases Decidable.em (f = 0) with e | e <;> simp [e]
  have hdt2 : (t == 0) = dt := by rw [← hdt]; rcases Decidable.em (t = 0) with e | e <;> simp [e]
  clear hdf hdt
  have HZ := Lib.hid hz2
  clear hz2
  cases df <;> cases dt <;> cases y1 <;> cases y2
  all_goals
    go_wp2_with (first | (go_at_call 30; (with_reducible refine (CN1.out _ hb0).mono ?_); rintro e w' ⟨rfl, rfl⟩) | (go_at_call 30; (with_reducible refine (CN2.out _ hb0).mono ?_); rintro e w' ⟨rfl, rfl⟩) | fail)
    go_ret
    exact ⟨by rw [← HZ.out]; rfl, B2.out⟩
end Go.Proofs.Yteloiibejkflhaa
