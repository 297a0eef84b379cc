/- contracts of the document's 'one' and Runes -/
import Derived.Test.YthboiklcjpnhbaaRg2
namespace Go.Proofs.Ythboiklcjpnhbaa
open Go.RowKit
set_option linter.unusedVariables false
set_option maxRecDepth 20000
set_option maxRecDepth 100000 in
set_option maxHeartbeats 6400000 in
theorem one_any (s : ByteArray) (i : Nat) (w : World) (hs : s.size ≤ 1048576) (hi : i < s.size) :
    Calls Try.prog 108 #[.string s, .int .i64 i] w fun e w' => e = .returned (.tuple #[.int .i32 (oneV s i).1, .int .i64 (oneV s i).2]) ∧ w = w' := by
  have hx := byteS_at s i hi
  have hb := byteS_lt s i
  obtain ⟨p1, hp1⟩ : ∃ p, decide (moreP s (i + 1)) = p := ⟨_, rfl⟩
  obtain ⟨p2, hp2⟩ : ∃ p, decide (moreP s (i + 2)) = p := ⟨_, rfl⟩
  obtain ⟨p3, hp3⟩ : ∃ p, decide (moreP s (i + 3)) = p := ⟨_, rfl⟩
  have i1 : moreP s (i + 1) ↔ p1 = true := by rw [← hp1]; simp
  have i2 : moreP s (i + 2) ↔ p2 = true := by rw [← hp2]; simp
  have i3 : moreP s (i + 3) ↔ p3 = true := by rw [← hp3]; simp
  obtain ⟨A, hA⟩ : ∃ A, moreV s (i + 1) = A := ⟨_, rfl⟩
  obtain ⟨B, hB⟩ : ∃ A, moreV s (i + 2) = A := ⟨_, rfl⟩
  obtain ⟨C, hC⟩ : ∃ A, moreV s (i + 3) = A := ⟨_, rfl⟩
  have m1 := Lib.hid (more_lit s (i + 1) ((i : Int) + 1) w hs (by omega) p1 A (by omega) hp1 hA)
  have m2 := Lib.hid (more_lit s (i + 2) ((i : Int) + 2) w hs (by omega) p2 B (by omega) hp2 hB)
  have m3 := Lib.hid (more_lit s (i + 3) ((i : Int) + 3) w hs (by omega) p3 C (by omega) hp3 hC)
  have bA := moreV_bd s (i + 1); have bB := moreV_bd s (i + 2); have bC := moreV_bd s (i + 3)
  rw [hA] at bA; rw [hB] at bB; rw [hC] at bC
  unfold oneV
  simp only [i1, i2, i3]
  rw [hA, hB, hC]
  obtain ⟨x, hx2⟩ : ∃ x, byteS s i = x := ⟨_, rfl⟩
  rw [hx2] at hx hb
  rw [hx2]
  have j1 : IntKind.i64.wrap ((i : Int) + 1) = (i : Int) + 1 := IntWalk.i64_in _ (by omega)
  have j2 : IntKind.i64.wrap ((i : Int) + 2) = (i : Int) + 2 := IntWalk.i64_in _ (by omega)
  have j3 : IntKind.i64.wrap ((i : Int) + 3) = (i : Int) + 3 := IntWalk.i64_in _ (by omega)
  clear hx2 hA hB hC hp1 hp2 hp3 i1 i2 i3
  have hcase : x < 128 ∨ (128 ≤ x ∧ x < 194) ∨ (128 ≤ x ∧ 194 ≤ x ∧ x ≤ 223) ∨ (128 ≤ x ∧ 194 ≤ x ∧ 223 < x ∧ 224 ≤ x ∧ x ≤ 239) ∨ (128 ≤ x ∧ 194 ≤ x ∧ 223 < x ∧ 224 ≤ x ∧ 239 < x ∧ 240 ≤ x ∧ x ≤ 244) ∨ (128 ≤ x ∧ 194 ≤ x ∧ 223 < x ∧ 224 ≤ x ∧ 239 < x ∧ 240 ≤ x ∧ 244 < x) := by omega
  rcases hcase with c1 | ⟨c0, c1⟩ | ⟨c0, c1, c2⟩ | ⟨c0, c1, c2, c3, c4⟩ | ⟨c0, c1, c2, c3, c4, c5, c6⟩ | ⟨c0, c1, c2, c3, c4, c5, c6⟩
  · rw [if_pos c1]
    go_enter Try.func108, Try.ntmps108
    go_wp2_with fail
    refine m1.out.mono ?_
    rintro e w' ⟨rfl, rfl⟩
    go_wp2_with fail
    refine m2.out.mono ?_
    rintro e w' ⟨rfl, rfl⟩
    go_wp2_with fail
    refine m3.out.mono ?_
    rintro e w' ⟨rfl, rfl⟩
    go_wp2_with fail
    go_ret2
    exact ⟨rfl, rfl⟩
  · rw [if_neg (by omega), if_neg (by omega), if_neg (by omega), if_neg (by omega)]
    go_enter Try.func108, Try.ntmps108
    go_wp2_with fail
    refine m1.out.mono ?_
    rintro e w' ⟨rfl, rfl⟩
    go_wp2_with fail
    refine m2.out.mono ?_
    rintro e w' ⟨rfl, rfl⟩
    go_wp2_with fail
    refine m3.out.mono ?_
    rintro e w' ⟨rfl, rfl⟩
    go_wp2_with fail
    go_ret2
    exact ⟨rfl, rfl⟩
  · rw [if_neg (by omega)]
    cases p1
    · rw [if_neg (by simp), if_neg (by omega), if_neg (by omega)]
      go_enter Try.func108, Try.ntmps108
      go_wp2_with fail
      refine m1.out.mono ?_
      rintro e w' ⟨rfl, rfl⟩
      go_wp2_with fail
      refine m2.out.mono ?_
      rintro e w' ⟨rfl, rfl⟩
      go_wp2_with fail
      refine m3.out.mono ?_
      rintro e w' ⟨rfl, rfl⟩
      go_wp2_with fail
      go_ret2
      exact ⟨rfl, rfl⟩
    · rw [if_pos ⟨⟨c1, c2⟩, rfl⟩]
      go_enter Try.func108, Try.ntmps108
      go_wp2_with fail
      refine m1.out.mono ?_
      rintro e w' ⟨rfl, rfl⟩
      go_wp2_with fail
      refine m2.out.mono ?_
      rintro e w' ⟨rfl, rfl⟩
      go_wp2_with fail
      refine m3.out.mono ?_
      rintro e w' ⟨rfl, rfl⟩
      go_wp2_with fail
      go_ret2
      exact ⟨rfl, rfl⟩
  · rw [if_neg (by omega), if_neg (by omega)]
    by_cases hp : p1 = true ∧ p2 = true
    · obtain ⟨rfl, rfl⟩ := hp
      rw [if_pos ⟨⟨c3, c4⟩, rfl, rfl⟩]
      go_enter Try.func108, Try.ntmps108
      go_wp2_with fail
      refine m1.out.mono ?_
      rintro e w' ⟨rfl, rfl⟩
      go_wp2_with fail
      refine m2.out.mono ?_
      rintro e w' ⟨rfl, rfl⟩
      go_wp2_with fail
      refine m3.out.mono ?_
      rintro e w' ⟨rfl, rfl⟩
      go_wp2_with fail
      go_ret2
      exact ⟨rfl, rfl⟩
    · rw [if_neg (fun h => hp h.2), if_neg (by omega)]
      cases p1 <;> cases p2 <;> simp at hp
      all_goals
        clear hp
        go_enter Try.func108, Try.ntmps108
        go_wp2_with fail
        refine m1.out.mono ?_
        rintro e w' ⟨rfl, rfl⟩
        go_wp2_with fail
        refine m2.out.mono ?_
        rintro e w' ⟨rfl, rfl⟩
        go_wp2_with fail
        refine m3.out.mono ?_
        rintro e w' ⟨rfl, rfl⟩
        go_wp2_with fail
        go_ret2
        exact ⟨rfl, rfl⟩
  · rw [if_neg (by omega), if_neg (by omega), if_neg (by omega)]
    by_cases hp : p1 = true ∧ p2 = true ∧ p3 = true
    · obtain ⟨rfl, rfl, rfl⟩ := hp
      rw [if_pos ⟨⟨c5, c6⟩, rfl, rfl, rfl⟩]
      go_enter Try.func108, Try.ntmps108
      go_wp2_with fail
      refine m1.out.mono ?_
      rintro e w' ⟨rfl, rfl⟩
      go_wp2_with fail
      refine m2.out.mono ?_
      rintro e w' ⟨rfl, rfl⟩
      go_wp2_with fail
      refine m3.out.mono ?_
      rintro e w' ⟨rfl, rfl⟩
      go_wp2_with fail
      go_ret2
      exact ⟨rfl, rfl⟩
    · rw [if_neg (fun h => hp h.2)]
      cases p1 <;> cases p2 <;> cases p3 <;> simp at hp
      all_goals
        clear hp
        go_enter Try.func108, Try.ntmps108
        go_wp2_with fail
        refine m1.out.mono ?_
        rintro e w' ⟨rfl, rfl⟩
        go_wp2_with fail
        refine m2.out.mono ?_
        rintro e w' ⟨rfl, rfl⟩
        go_wp2_with fail
        refine m3.out.mono ?_
        rintro e w' ⟨rfl, rfl⟩
        go_wp2_with fail
        go_ret2
        exact ⟨rfl, rfl⟩
  · rw [if_neg (by omega), if_neg (by omega), if_neg (by omega), if_neg (by omega)]
    go_enter Try.func108, Try.ntmps108
    go_wp2_with fail
    refine m1.out.mono ?_
    rintro e w' ⟨rfl, rfl⟩
    go_wp2_with fail
    refine m2.out.mono ?_
    rintro e w' ⟨rfl, rfl⟩
    go_wp2_with fail
    refine m3.out.mono ?_
    rintro e w' ⟨rfl, rfl⟩
    go_wp2_with fail
    go_ret2
    exact ⟨rfl, rfl⟩
end Go.Proofs.Ythboiklcjpnhbaa
