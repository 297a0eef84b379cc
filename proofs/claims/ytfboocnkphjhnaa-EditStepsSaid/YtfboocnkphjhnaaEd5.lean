/- what every program answers that is one: edit; how long lists are -/
import Derived.Test.YtfboocnkphjhnaaEd4
import Derived.Test.YtfboocnkphjhnaaEd3
import Derived.Test.YtfboocnkphjhnaaSameInts
namespace Go.Proofs.Ytfboocnkphjhnaa
open Go.RowKit
set_option linter.unusedVariables false
theorem holdsI_lit (k : IntKind) (w : World) (zs : List Int) (e : TypeId) (fr : Nat × Nat) : HoldsI k (w.alloc (.cells (zs.map (Value.int k)).toArray e fr)) (some ⟨w.heap.size, 0, none⟩) zs.length zs := by
  refine ⟨rfl, fun _ => ⟨_, _, rfl, fun i hi => ?_⟩⟩
  rw [World.cell?_alloc_mark, Nat.zero_add]
  simp [List.getD_eq_getElem?_getD, hi]
theorem holdsI_nil (k : IntKind) (w : World) (a : Option Addr) : HoldsI k w a 0 [] := ⟨rfl, fun h => absurd h (by decide)⟩
theorem own_holdsI {w : World} {base : Nat} {e : TypeId} {a : Option Addr} {n c : Nat} {zs : List Int} (h : w.ownsRow base e 1 (.slice a n c) n (intsV zs)) : HoldsI .i64 w a n zs := by
  have hv := owns_holds h
  have hl : zs.length = n := by have := h.1; simpa [intsV] using this
  refine ⟨hl, fun h0 => ?_⟩
  obtain ⟨b, o, ha, hc⟩ := hv.2 h0
  exact ⟨b, o, ha, fun i hi => by rw [hc i hi, intsV, getD_map_int .i64 zs i (by omega)]⟩
theorem dist_one : distS { data := #[97, 98, 99] } { data := #[97, 120, 99, 100] } = 2 := by
  have l1 : lenS { data := #[97, 98, 99] } = 3 := by decide +kernel
  have l2 : lenS { data := #[97, 120, 99, 100] } = 4 := by decide +kernel
  have r1 : intsN (runesS { data := #[97, 98, 99] }) = [97, 98, 99] := by decide +kernel
  have r2 : intsN (runesS { data := #[97, 120, 99, 100] }) = [97, 120, 99, 100] := by decide +kernel
  have n1 : (runesS { data := #[97, 98, 99] }).length = 3 := by decide +kernel
  have n2 : (runesS { data := #[97, 120, 99, 100] }).length = 4 := by decide +kernel
  unfold distS
  rw [l1, l2, r1, r2, n1, n2, if_pos (by decide)]
  have h0 : Ed.row [97, 98, 99] [97, 120, 99, 100] 0 = [0, 1, 2, 3] := by rw [← upTo_row]; decide
  have h1 : Ed.row [97, 98, 99] [97, 120, 99, 100] 1 = [1, 0, 1, 2] := by rw [← Ed.mix_all _ _ 0, h0]; decide
  have h2 : Ed.row [97, 98, 99] [97, 120, 99, 100] 2 = [2, 1, 1, 2] := by rw [← Ed.mix_all _ _ 1, h1]; decide
  have h3 : Ed.row [97, 98, 99] [97, 120, 99, 100] 3 = [3, 2, 2, 1] := by rw [← Ed.mix_all _ _ 2, h2]; decide
  have h4 : Ed.row [97, 98, 99] [97, 120, 99, 100] 4 = [4, 3, 3, 2] := by rw [← Ed.mix_all _ _ 3, h3]; decide
  rw [← Ed.row_getD _ _ 4 3 (by decide), h4]
  rfl
theorem dist_two : distS { data := #[97] } { data := #[255] } = -1 := by
  have l2 : lenS { data := #[255] } = -1 := by decide +kernel
  unfold distS
  rw [l2, if_neg (by omega)]
theorem row_three : Ed.row [97, 98] [98] 1 = [1, 1, 1] := by
  have h0 : Ed.row [97, 98] [98] 0 = [0, 1, 2] := by rw [← upTo_row]; decide
  rw [← Ed.mix_all _ _ 0, h0]; decide
theorem rows_lit (ra rb : List Int) (m n : Nat) (a b : Option Addr) (ca cb : Nat) (w : World) (hm : ra.length = m) (hn : rb.length = n) (ha : HoldsI .i32 w a m ra) (hb : HoldsI .i32 w b n rb) (hla : m ≤ 1048576) (hlb : n ≤ 1048576) :
    Calls Try.prog 15 #[.slice a m ca, .slice b n cb] w fun e w' => e = .returned (.slice (some ⟨w.heap.size, 0, none⟩) (m + 1) (m + 1)) ∧ w'.ownsRow w.heap.size 3 1 (.slice (some ⟨w.heap.size, 0, none⟩) (m + 1) (m + 1)) (m + 1) (intsV (Ed.row ra rb n)) ∧ Below w.heap.size w w' := by
  subst hm hn; exact rows_any ra rb a b ca cb w ha hb hla hlb
set_option maxHeartbeats 400000 in
theorem awake_any (w : World) : Calls Try.prog 13 #[] w fun e w' => e = .returned (.bool true) ∧ Below w.heap.size w w' := by
  go_enter Try.func13, Try.ntmps13
  go_wp2_with fail
  refine (distance_any { data := #[97, 98, 99] } { data := #[97, 120, 99, 100] } _ (by decide) (by decide)).mono ?_
  rintro e w1 ⟨rfl, hb1⟩
  rw [dist_one]
  have B1 := Lib.hid hb1
  clear hb1
  go_wp2_with fail
  refine (distance_any { data := #[97] } { data := #[255] } _ (by decide) (by decide)).mono ?_
  rintro e w2 ⟨rfl, hb2⟩
  rw [dist_two]
  have B2 := Lib.hid (B1.out.trans (hb2.mono B1.out.size))
  clear hb2
  go_wp2_with fail
  have ha : HoldsI .i32 ((w2.alloc (.cells #[.int .i32 97, .int .i32 98] 21)).alloc (.cells #[.int .i32 98] 21)) (some ⟨w2.heap.size, 0, none⟩) 2 [97, 98] := (holdsI_lit .i32 w2 [97, 98] 21 (0, 0)).below (below_one _ _)
  have hb : HoldsI .i32 ((w2.alloc (.cells #[.int .i32 97, .int .i32 98] 21)).alloc (.cells #[.int .i32 98] 21)) (some ⟨w2.heap.size + 1, 0, none⟩) 1 [98] := by
    have h := holdsI_lit .i32 (w2.alloc (.cells #[.int .i32 97, .int .i32 98] 21)) [98] 21 (0, 0)
    rw [show (w2.alloc (.cells #[.int .i32 97, .int .i32 98] 21)).heap.size = w2.heap.size + 1 from by simp] at h
    exact h
  obtain ⟨w0, hw0⟩ : ∃ w0, ((w2.alloc (.cells #[.int .i32 97, .int .i32 98] 21)).alloc (.cells #[.int .i32 98] 21)) = w0 := ⟨_, rfl⟩
  have hB0 : Below w2.heap.size w2 w0 := by rw [← hw0]; exact (below_one _ _).trans ((below_one _ _).mono (by simp))
  rw [hw0] at ha hb ⊢
  have hrows := rows_lit [97, 98] [98] 2 1 _ _ 2 1 w0 rfl rfl ha hb (by decide) (by decide)
  have HROWS := Lib.hid hrows
  have B0 := Lib.hid (B2.out.trans (hB0.mono B2.out.size))
  clear ha hb hrows hw0 hB0
  refine HROWS.out.mono ?_
  rintro e w3 ⟨rfl, hown, hb3⟩
  rw [row_three] at hown
  have hr := own_holdsI hown
  have B3 := Lib.hid (B0.out.trans (hb3.mono B0.out.size))
  clear hown hb3
  go_wp2_with fail
  have h5 : HoldsI .i64 (w3.alloc (.cells #[.int .i64 1, .int .i64 1, .int .i64 1] 3)) (some ⟨w3.heap.size, 0, none⟩) 3 [1, 1, 1] := holdsI_lit .i64 w3 [1, 1, 1] 3 (0, 0)
  have h6 : HoldsI .i64 (w3.alloc (.cells #[.int .i64 1, .int .i64 1, .int .i64 1] 3)) (some ⟨w0.heap.size, 0, none⟩) 3 [1, 1, 1] := hr.below (below_one _ _)
  obtain ⟨w5, hw5⟩ : ∃ w5, (w3.alloc (.cells #[.int .i64 1, .int .i64 1, .int .i64 1] 3)) = w5 := ⟨_, rfl⟩
  have hB5 : Below w3.heap.size w3 w5 := by rw [← hw5]; exact below_one _ _
  rw [hw5] at h5 h6 ⊢
  have hs := sameInts_any _ _ 3 3 3 3 [1, 1, 1] [1, 1, 1] w5 h6 h5 (by decide) (by decide)
  rw [decide_eq_true (rfl : ([1, 1, 1] : List Int) = [1, 1, 1])] at hs
  have HS := Lib.hid hs
  have B5 := Lib.hid (B3.out.trans (hB5.mono B3.out.size))
  clear hs h5 h6 hw5 hB5 hr
  refine HS.out.mono ?_
  rintro e w4 ⟨rfl, m, rfl⟩
  go_wp2
  go_ret
  exact ⟨rfl, B5.out.trans ((below_drewN _ m).mono B5.out.size)⟩
theorem long_any (n1 c1 n2 c2 : Nat) (a1 a2 : Option Addr) (w : World) (h1 : n1 ≤ 9223372036854775807) (h2 : n2 ≤ 9223372036854775807) :
    Calls Try.prog 12 #[.slice a1 n1 c1, .slice a2 n2 c2] w fun e w' => e = .returned (.bool (decide (30 < n1 ∨ 30 < n2))) ∧ w = w' := by
  by_cases h3 : 30 < n1
  · have e1 : decide ((n1 : Int) > 30) = true := by simp; omega
    have e2 : decide (30 < n1 ∨ 30 < n2) = true := by simp; omega
    rw [e2]
    go_enter Try.func12, Try.ntmps12
    go_wp2
    go_ret
    exact ⟨rfl, rfl⟩
  · have e1 : decide ((n1 : Int) > 30) = false := by simp; omega
    have e2 : decide (30 < n1 ∨ 30 < n2) = decide ((n2 : Int) > 30) := by apply decide_eq_decide.2; omega
    rw [e2]
    go_enter Try.func12, Try.ntmps12
    go_wp2
    go_ret
    exact ⟨rfl, rfl⟩
end Go.Proofs.Ytfboocnkphjhnaa
