/- fair: awake (by gen/fa10.py) -/
import Derived.Test.YteloiibejkflhaaQFa9
namespace Go.Proofs.Yteloiibejkflhaa
open Go.RowKit
set_option linter.unusedVariables false
set_option maxRecDepth 20000
def c27 : Cfg := ⟨none, 0, 0, none, 0, 0, 1, 1, 1, 2, 5, 9, 2, 3, 0, 8, [], []⟩
theorem ok_c27 (w : World) : CfgOk w c27 := ⟨HoldsT.nil _ _, fun _ => ⟨rfl, rfl⟩, Nat.le_refl _, by simp [c27], by simp [c27], ⟨rfl, fun h => by simp [c27] at h⟩, by simp [c27], by simp [c27]⟩
theorem may_c27 : c27.may = true := by rfl
def awR27 : List RecP := [⟨4, 0, 0, 0, ⟨#[]⟩, 0, 0, 0, 0, none, 0, 0, [], -1, none, 0, 0, []⟩, ⟨4, 1, 0, 0, ⟨#[]⟩, 0, 0, 0, 0, none, 0, 0, [], -1, none, 0, 0, []⟩, ⟨3, 0, 0, 0, ⟨#[]⟩, 0, 0, 0, 0, none, 0, 0, [], -1, none, 0, 0, []⟩]
theorem canon_one27 (z : Int) : canonZ [z] = [z] := by
  unfold canonZ
  rw [List.mergeSort_singleton]
  simp [Lib.compact, Lib.compactUpTo, List.range_succ, Lib.keeps]
theorem good27_1 : goodB c27 [1] = true := by rfl
theorem good27_2 : goodB c27 [2] = false := by rfl
theorem bound27 : boundV c27 1 = 28 := by rfl
theorem win27_3 : windowB c27 [1] awR27 0 3 = true := by
  unfold windowB
  rw [canon_one27, good27_1]
  rfl
theorem win27_2 : windowB c27 [1] awR27 0 2 = false := by
  unfold windowB
  rw [canon_one27, good27_1]
  rfl
theorem awR27_small : ∀ x ∈ awR27, x.sn ≤ 1000 ∧ x.ln ≤ 1000 := fun x hx => by
  simp only [awR27, List.mem_cons, List.not_mem_nil, or_false] at hx
  rcases hx with rfl | rfl | rfl <;> simp
theorem awR27_holds (w : World) : HoldsRc (w.alloc (.cells #[.int .i64 4, .int .i64 0, .int .i64 0, .int .i64 0, .string ⟨#[]⟩, .int .i64 0, .int .i64 0, .int .i64 0, .int .i64 0, .slice none 0 0, .int .i64 (-1), .slice none 0 0, .int .i64 4, .int .i64 1, .int .i64 0, .int .i64 0, .string ⟨#[]⟩, .int .i64 0, .int .i64 0, .int .i64 0, .int .i64 0, .slice none 0 0, .int .i64 (-1), .slice none 0 0, .int .i64 3, .int .i64 0, .int .i64 0, .int .i64 0, .string ⟨#[]⟩, .int .i64 0, .int .i64 0, .int .i64 0, .int .i64 0, .slice none 0 0, .int .i64 (-1), .slice none 0 0] 43)) (some ⟨w.heap.size, 0, none⟩) 3 awR27 := by
  have d : ∀ j, (w.alloc (.cells #[.int .i64 4, .int .i64 0, .int .i64 0, .int .i64 0, .string ⟨#[]⟩, .int .i64 0, .int .i64 0, .int .i64 0, .int .i64 0, .slice none 0 0, .int .i64 (-1), .slice none 0 0, .int .i64 4, .int .i64 1, .int .i64 0, .int .i64 0, .string ⟨#[]⟩, .int .i64 0, .int .i64 0, .int .i64 0, .int .i64 0, .slice none 0 0, .int .i64 (-1), .slice none 0 0, .int .i64 3, .int .i64 0, .int .i64 0, .int .i64 0, .string ⟨#[]⟩, .int .i64 0, .int .i64 0, .int .i64 0, .int .i64 0, .slice none 0 0, .int .i64 (-1), .slice none 0 0] 43)).cell? ⟨w.heap.size, j, none⟩ = #[.int .i64 4, .int .i64 0, .int .i64 0, .int .i64 0, .string ⟨#[]⟩, .int .i64 0, .int .i64 0, .int .i64 0, .int .i64 0, .slice none 0 0, .int .i64 (-1), .slice none 0 0, .int .i64 4, .int .i64 1, .int .i64 0, .int .i64 0, .string ⟨#[]⟩, .int .i64 0, .int .i64 0, .int .i64 0, .int .i64 0, .slice none 0 0, .int .i64 (-1), .slice none 0 0, .int .i64 3, .int .i64 0, .int .i64 0, .int .i64 0, .string ⟨#[]⟩, .int .i64 0, .int .i64 0, .int .i64 0, .int .i64 0, .slice none 0 0, .int .i64 (-1), .slice none 0 0][j]? := fun j => cell_alloc rfl
  refine ⟨rfl, fun _ => ⟨w.heap.size, 0, rfl, fun i hi => ?_⟩, fun x hx => ?_⟩
  · match i, hi with
    | 0, _ => exact ⟨d 0, d 1, d 2, d 3, d 4, d 5, d 6, d 7, d 8, d 9, d 10, d 11⟩
    | 1, _ => exact ⟨d 12, d 13, d 14, d 15, d 16, d 17, d 18, d 19, d 20, d 21, d 22, d 23⟩
    | 2, _ => exact ⟨d 24, d 25, d 26, d 27, d 28, d 29, d 30, d 31, d 32, d 33, d 34, d 35⟩
  · simp only [awR27, List.mem_cons, List.not_mem_nil, or_false] at hx
    rcases hx with rfl | rfl | rfl <;> exact ⟨⟨rfl, fun h => absurd h (by simp)⟩, ⟨rfl, fun h => absurd h (by simp)⟩, by simp, by simp, by show 0 ≤ 9223372036854775807; omega, rfl, by simp, by simp, fun _ => ⟨rfl, rfl⟩, fun _ => ⟨rfl, rfl⟩⟩
theorem one27 (w : World) (x : Int) : HoldsI .i64 (w.alloc (.cells #[.int .i64 x] 3)) (some ⟨w.heap.size, 0, none⟩) 1 [x] := ⟨rfl, fun _ => ⟨w.heap.size, 0, rfl, fun i hi => by
  obtain rfl : i = 0 := by omega
  exact cell_alloc rfl⟩⟩
set_option maxHeartbeats 1600000 in
theorem small27_any (w : World) : Calls Try.prog 20 #[] w fun e w' => e = .returned (.agg #[.slice none 0 0, .slice none 0 0, .int .i64 1, .int .i64 1, .int .i64 1, .int .i64 2, .int .i64 5, .int .i64 9, .int .i64 2, .int .i64 3, .int .i64 0, .int .i64 8]) ∧ Below w.heap.size w w' := by
  have BX := Lib.hid (below_one w (.cells #[.slice none 0 0, .slice none 0 0, .int .i64 0, .int .i64 0, .int .i64 0, .int .i64 0, .int .i64 0, .int .i64 0, .int .i64 0, .int .i64 0, .int .i64 0, .int .i64 0] 25))
  have HP := Lib.hid (heap_alloc_new w (.cells #[.slice none 0 0, .slice none 0 0, .int .i64 0, .int .i64 0, .int .i64 0, .int .i64 0, .int .i64 0, .int .i64 0, .int .i64 0, .int .i64 0, .int .i64 0, .int .i64 0] 25))
  obtain ⟨w1, hw1⟩ : ∃ w1, w.alloc (.cells #[.slice none 0 0, .slice none 0 0, .int .i64 0, .int .i64 0, .int .i64 0, .int .i64 0, .int .i64 0, .int .i64 0, .int .i64 0, .int .i64 0, .int .i64 0, .int .i64 0] 25) = w1 := ⟨_, rfl⟩
  obtain ⟨p, hp⟩ : ∃ p, w.heap.size = p := ⟨_, rfl⟩
  rw [hw1] at BX HP
  rw [hp] at HP
  have PP := Lib.hid hp
  go_enter Try.func20, Try.ntmps20
  go_upto_region 1 with fail
  try rw [hw1]
  try simp only [hp]
  clear hw1 hp
  go_wp2_with (first | (refine wpList_store_row rfl 25 (.tmp 0) (.tmp 1) rfl p #[.slice none 0 0, .slice none 0 0, .int .i64 1, .int .i64 1, .int .i64 1, .int .i64 2, .int .i64 5, .int .i64 9, .int .i64 2, .int .i64 3, .int .i64 0, .int .i64 8] rfl rfl 25 #[.slice none 0 0, .slice none 0 0, .int .i64 0, .int .i64 0, .int .i64 0, .int .i64 0, .int .i64 0, .int .i64 0, .int .i64 0, .int .i64 0, .int .i64 0, .int .i64 0] HP.out (by kernel_rfl) rfl (by kernel_rfl) ?_) | fail)
  (try simp only [Exit.inBlock, Exit.then])
  refine bodyPost_ret (results_cell_row rfl _ _ p 25 #[.slice none 0 0, .slice none 0 0, .int .i64 1, .int .i64 1, .int .i64 1, .int .i64 2, .int .i64 5, .int .i64 9, .int .i64 2, .int .i64 3, .int .i64 0, .int .i64 8] (0, 0) _ rfl (setRow_heap _ p _ _ _ _ HP.out) Try.underlying25 rfl (by kernel_rfl)) rfl ?_
  exact ⟨rfl, below_setRow BX.out (by rw [PP.out]; exact Nat.le_refl _) _⟩
set_option maxHeartbeats 6400000 in
set_option maxRecDepth 100000 in
theorem awake27_any (w : World) : Calls Try.prog 8 #[] w fun e w' => e = .returned (.bool true) ∧ Below w.heap.size w w' := by
  have BX := Lib.hid (below_one w (.cells #[.int .i64 4, .int .i64 0, .int .i64 0, .int .i64 0, .string ⟨#[]⟩, .int .i64 0, .int .i64 0, .int .i64 0, .int .i64 0, .slice none 0 0, .int .i64 (-1), .slice none 0 0, .int .i64 4, .int .i64 1, .int .i64 0, .int .i64 0, .string ⟨#[]⟩, .int .i64 0, .int .i64 0, .int .i64 0, .int .i64 0, .slice none 0 0, .int .i64 (-1), .slice none 0 0, .int .i64 3, .int .i64 0, .int .i64 0, .int .i64 0, .string ⟨#[]⟩, .int .i64 0, .int .i64 0, .int .i64 0, .int .i64 0, .slice none 0 0, .int .i64 (-1), .slice none 0 0] 43))
  have HR := Lib.hid (awR27_holds w)
  obtain ⟨w1, hw1⟩ : ∃ w1, w.alloc (.cells #[.int .i64 4, .int .i64 0, .int .i64 0, .int .i64 0, .string ⟨#[]⟩, .int .i64 0, .int .i64 0, .int .i64 0, .int .i64 0, .slice none 0 0, .int .i64 (-1), .slice none 0 0, .int .i64 4, .int .i64 1, .int .i64 0, .int .i64 0, .string ⟨#[]⟩, .int .i64 0, .int .i64 0, .int .i64 0, .int .i64 0, .slice none 0 0, .int .i64 (-1), .slice none 0 0, .int .i64 3, .int .i64 0, .int .i64 0, .int .i64 0, .string ⟨#[]⟩, .int .i64 0, .int .i64 0, .int .i64 0, .int .i64 0, .slice none 0 0, .int .i64 (-1), .slice none 0 0] 43) = w1 := ⟨_, rfl⟩
  obtain ⟨q, hq⟩ : ∃ q, w.heap.size = q := ⟨_, rfl⟩
  rw [hw1] at BX HR
  rw [hq] at HR
  have HQ := Lib.hid hq
  have Bw1 := Lib.hid (Below.refl w1.heap.size w1)
  go_enter Try.func8, Try.ntmps8
  go_upto_region 2 with fail
  try rw [hw1]
  try rw [hq]
  clear hw1 hq
  go_wp2_with fail
  with_reducible refine (small27_any w1).mono ?_
  rintro e w2 ⟨rfl, bw2⟩
  have Bw2 := Lib.hid (Bw1.out.trans (bw2.mono Bw1.out.size))
  clear bw2 Bw1
  have CB := Lib.hid (show Calls Try.prog 10 #[.agg #[.slice none 0 0, .slice none 0 0, .int .i64 1, .int .i64 1, .int .i64 1, .int .i64 2, .int .i64 5, .int .i64 9, .int .i64 2, .int .i64 3, .int .i64 0, .int .i64 8], .int .i64 1] w2 (fun e w' => e = .returned (.int .i64 28) ∧ Below w2.heap.size w2 w') from bound27 ▸ fbound_any c27 1 w2 (ok_c27 w2))
  go_wp2_with fail
  with_reducible refine CB.out.mono ?_
  rintro e w3 ⟨rfl, b3⟩
  have Bw3 := Lib.hid (Bw2.out.trans (b3.mono Bw2.out.size))
  clear CB b3 Bw2
  go_wp2_with fail
  with_reducible refine (small27_any w3).mono ?_
  rintro e w4 ⟨rfl, bw4⟩
  have Bw4 := Lib.hid (Bw3.out.trans (bw4.mono Bw3.out.size))
  clear bw4 Bw3
  have CGg1 := Lib.hid (show Calls Try.prog 21 #[.agg #[.slice none 0 0, .slice none 0 0, .int .i64 1, .int .i64 1, .int .i64 1, .int .i64 2, .int .i64 5, .int .i64 9, .int .i64 2, .int .i64 3, .int .i64 0, .int .i64 8], .slice (some ⟨w4.heap.size, 0, none⟩) 1 1] (w4.alloc (.cells #[.int .i64 1] 3)) _ from fgood_any c27 (some ⟨w4.heap.size, 0, none⟩) 1 1 [1] true (w4.alloc (.cells #[.int .i64 1] 3)) (ok_c27 _) (one27 w4 1) good27_1)
  have BXg1 := Lib.hid (below_one w4 (.cells #[.int .i64 1] 3))
  go_wp2_with fail
  with_reducible refine CGg1.out.mono ?_
  rintro e w5 ⟨rfl, bg1⟩
  have Bw5 := Lib.hid (Bw4.out.trans ((BXg1.out.trans (bg1.mono BXg1.out.size)).mono Bw4.out.size))
  clear CGg1 BXg1 bg1 Bw4
  go_wp2_with fail
  with_reducible refine (small27_any w5).mono ?_
  rintro e w6 ⟨rfl, bw6⟩
  have Bw6 := Lib.hid (Bw5.out.trans (bw6.mono Bw5.out.size))
  clear bw6 Bw5
  have CGg2 := Lib.hid (show Calls Try.prog 21 #[.agg #[.slice none 0 0, .slice none 0 0, .int .i64 1, .int .i64 1, .int .i64 1, .int .i64 2, .int .i64 5, .int .i64 9, .int .i64 2, .int .i64 3, .int .i64 0, .int .i64 8], .slice (some ⟨w6.heap.size, 0, none⟩) 1 1] (w6.alloc (.cells #[.int .i64 2] 3)) _ from fgood_any c27 (some ⟨w6.heap.size, 0, none⟩) 1 1 [2] false (w6.alloc (.cells #[.int .i64 2] 3)) (ok_c27 _) (one27 w6 2) good27_2)
  have BXg2 := Lib.hid (below_one w6 (.cells #[.int .i64 2] 3))
  go_wp2_with fail
  with_reducible refine CGg2.out.mono ?_
  rintro e w7 ⟨rfl, bg2⟩
  have Bw7 := Lib.hid (Bw6.out.trans ((BXg2.out.trans (bg2.mono BXg2.out.size)).mono Bw6.out.size))
  clear CGg2 BXg2 bg2 Bw6
  go_wp2_with fail
  with_reducible refine (small27_any w7).mono ?_
  rintro e w8 ⟨rfl, bw8⟩
  have Bw8 := Lib.hid (Bw7.out.trans (bw8.mono Bw7.out.size))
  clear bw8 Bw7
  have CWn1 := Lib.hid (show Calls Try.prog 15 #[.agg #[.slice none 0 0, .slice none 0 0, .int .i64 1, .int .i64 1, .int .i64 1, .int .i64 2, .int .i64 5, .int .i64 9, .int .i64 2, .int .i64 3, .int .i64 0, .int .i64 8], .slice (some ⟨q, 0, none⟩) 3 3, .int .i64 0, .int .i64 3, .slice (some ⟨w8.heap.size, 0, none⟩) 1 1] (w8.alloc (.cells #[.int .i64 1] 3)) _ from fwindow_any c27 _ 3 3 awR27 0 3 (some ⟨w8.heap.size, 0, none⟩) 1 1 [1] true (w8.alloc (.cells #[.int .i64 1] 3)) (ok_c27 _) ((HR.out.below Bw8.out).below (below_one w8 _)) (by omega) (by omega) awR27_small (one27 w8 1) rfl rfl win27_3)
  have BXn1 := Lib.hid (below_one w8 (.cells #[.int .i64 1] 3))
  go_wp2_with fail
  with_reducible refine CWn1.out.mono ?_
  rintro e w9 ⟨rfl, bn1⟩
  have Bw9 := Lib.hid (Bw8.out.trans ((BXn1.out.trans (bn1.mono BXn1.out.size)).mono Bw8.out.size))
  clear CWn1 BXn1 bn1 Bw8
  go_wp2_with fail
  with_reducible refine (small27_any w9).mono ?_
  rintro e w10 ⟨rfl, bw10⟩
  have Bw10 := Lib.hid (Bw9.out.trans (bw10.mono Bw9.out.size))
  clear bw10 Bw9
  have CWn2 := Lib.hid (show Calls Try.prog 15 #[.agg #[.slice none 0 0, .slice none 0 0, .int .i64 1, .int .i64 1, .int .i64 1, .int .i64 2, .int .i64 5, .int .i64 9, .int .i64 2, .int .i64 3, .int .i64 0, .int .i64 8], .slice (some ⟨q, 0, none⟩) 3 3, .int .i64 0, .int .i64 2, .slice (some ⟨w10.heap.size, 0, none⟩) 1 1] (w10.alloc (.cells #[.int .i64 1] 3)) _ from fwindow_any c27 _ 3 3 awR27 0 2 (some ⟨w10.heap.size, 0, none⟩) 1 1 [1] false (w10.alloc (.cells #[.int .i64 1] 3)) (ok_c27 _) ((HR.out.below Bw10.out).below (below_one w10 _)) (by omega) (by omega) awR27_small (one27 w10 1) rfl rfl win27_2)
  have BXn2 := Lib.hid (below_one w10 (.cells #[.int .i64 1] 3))
  go_wp2_with fail
  with_reducible refine CWn2.out.mono ?_
  rintro e w11 ⟨rfl, bn2⟩
  have Bw11 := Lib.hid (Bw10.out.trans ((BXn2.out.trans (bn2.mono BXn2.out.size)).mono Bw10.out.size))
  clear CWn2 BXn2 bn2 Bw10
  go_wp2_with fail
  go_ret
  exact ⟨rfl, BX.out.trans (Bw11.out.mono BX.out.size)⟩
end Go.Proofs.Yteloiibejkflhaa
