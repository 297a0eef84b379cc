/- trace: great, awake (by gen/tr6.py) -/
import Derived.Test.YthfoilnofljflaaTr5
import Derived.Test.YthfoilnofljflaaSameInts
namespace Go.Proofs.Ythfoilnofljflaa
open Go.RowKit
set_option linter.unusedVariables false
set_option maxRecDepth 20000
def GreatT (n m : Nat) (xs : List RecP) (w : World) (e : Ending) (w' : World) : Prop := ∃ z, e = .returned (.bool z) ∧ w = w' ∧ (z = false → n ≤ m ∧ ∀ x ∈ xs, x.sn ≤ 20 ∧ x.ln ≤ 20)
set_option maxHeartbeats 1600000 in
theorem great26_any (a : Option Addr) (n cap : Nat) (xs : List RecP) (w : World) (h : HoldsRc w a n xs) (hn : n ≤ 9223372036854775807) : Calls Try.prog 4 #[.slice a n cap] w (GreatT n 100 xs w) := by
  have H := Lib.hid h
  have HN := Lib.hid h.len
  clear h
  by_cases h100 : n ≤ 100
  · have d1 : decide ((n : Int) ≤ 100) = true := decide_eq_true (by omega)
    have d1' : decide (n ≤ 100) = true := decide_eq_true h100
    have d2 : decide ((n : Int) > 100) = false := by simp; omega
    have d3 : decide (100 < n) = false := by simp; omega
    go_enter Try.func4, Try.ntmps4
    go_wp2_with fail
    go_loop [3] (fun iv => ∃ i : Nat, i ≤ n ∧ iv = .int .i64 i ∧ Hid (∀ k, k < i → (xs.getD k r0).sn ≤ 20 ∧ (xs.getD k r0).ln ≤ 20)) (fun iv => n - (intOf iv).toNat)
    case atStart => exact ⟨0, by omega, rfl, Lib.hid (fun k hk => by omega)⟩
    case round =>
      obtain ⟨i, hi, rfl, hA⟩ := hrel
      by_cases hlt : i < n
      · obtain ⟨b, o, rfl, hc⟩ := H.out.at_ (by omega)
        have ha := hc i hlt
        obtain ⟨x, hxx⟩ : ∃ x, xs.getD i r0 = x := ⟨_, rfl⟩
        have hok := H.out.ok _ (getD_memR (show i < xs.length by rw [HN.out]; exact hlt))
        rw [hxx] at ha hok
        obtain ⟨-, -, -, -, -, -, -, -, -, a9, -, a11⟩ := ha
        have HXX := Lib.hid hxx
        have i1 : (0 : Int) ≤ (i : Int) := by omega
        have i2 : (i : Int) < (n : Int) := by omega
        have b1 := hok.sn
        have b2 := hok.ln
        clear hc hxx hok
        by_cases hs : 20 < x.sn
        · have e1 : decide ((x.sn : Int) > 20) = true := decide_eq_true (by omega)
          have e1' : decide (20 < x.sn) = true := decide_eq_true hs
          clear hs
          go_wp2_with fail
          go_ret
          exact ⟨true, rfl, rfl, fun h => by cases h⟩
        · have e1 : decide ((x.sn : Int) > 20) = false := decide_eq_false (by omega)
          have e1' : decide (20 < x.sn) = false := decide_eq_false hs
          by_cases hl : 20 < x.ln
          · have e2 : decide ((x.ln : Int) > 20) = true := decide_eq_true (by omega)
            have e2' : decide (20 < x.ln) = true := decide_eq_true hl
            clear hs hl
            go_wp2_with fail
            go_ret
            exact ⟨true, rfl, rfl, fun h => by cases h⟩
          · have e2 : decide ((x.ln : Int) > 20) = false := decide_eq_false (by omega)
            have e2' : decide (20 < x.ln) = false := decide_eq_false hl
            have HA := Lib.hid (show ∀ k, k < i + 1 → (xs.getD k r0).sn ≤ 20 ∧ (xs.getD k r0).ln ≤ 20 from fun k hk => by
              by_cases e : k = i
              · subst e; rw [HXX.out]; omega
              · exact hA.out k (by omega))
            clear hs hl
            go_wp2_with fail
            go_round
            case rel => exact ⟨i + 1, by omega, by go_num, HA⟩
            case measure => simp [intOf]; omega
      · obtain rfl : i = n := by omega
        have FF := Lib.hid (show ∀ x ∈ xs, x.sn ≤ 20 ∧ x.ln ≤ 20 from fun x hx => by
          obtain ⟨k, hk, rfl⟩ := List.mem_iff_getElem.1 hx
          have := hA.out k (by rw [← HN.out]; exact hk)
          rw [List.getD_eq_getElem?_getD, List.getElem?_eq_getElem hk] at this
          exact this)
        go_wp2_with fail
        go_ret
        exact ⟨_, rfl, rfl, fun _ => ⟨h100, FF.out⟩⟩
  · have d1 : decide ((n : Int) ≤ 100) = false := decide_eq_false (by omega)
    have d1' : decide (n ≤ 100) = false := decide_eq_false h100
    have d2 : decide ((n : Int) > 100) = true := by simp; omega
    have d3 : decide (100 < n) = true := by simp; omega
    go_enter Try.func4, Try.ntmps4
    go_wp2_with fail
    go_loop [3] (fun iv => iv = .int .i64 ((0 : Nat) : Int)) (fun _ => 0)
    case atStart => exact rfl
    case round =>
      obtain rfl := hrel
      have hn0 : (0 : Int) < (n : Int) := by omega
      have hn0' : 0 < n := by omega
      go_wp2_with fail
      go_ret
      exact ⟨true, rfl, rfl, fun h => by cases h⟩
/-- awake's records -/
def awR (p : Nat) : List RecP := [⟨0, 0, 0, 0, ⟨#[]⟩, 0, 0, 0, 0, some ⟨p, 0, none⟩, 2, 2, [(0, 0, 1), (1, 0, 1)], -1, none, 0, 0, []⟩, ⟨0, 0, 0, 0, ⟨#[]⟩, 0, 0, 3, 1, none, 0, 0, [], 0, none, 0, 0, []⟩]
theorem canon_one (z : Int) : canonZ [z] = [z] := by
  unfold canonZ
  rw [List.mergeSort_singleton]
  simp [Lib.compact, Lib.compactUpTo, List.range_succ, Lib.keeps]
theorem awR_pend (p : Nat) : pendL (awR p) = [1] := by
  have h1 : heardL (awR p) = [0] := rfl
  unfold pendL
  rw [h1, show outL [0] (awR p) = [1] from rfl]
  exact canon_one 1
theorem awR_ask (p : Nat) : askL (awR p) = [1] := rfl
theorem awR_sum (p : Nat) : sumS (awR p) = ⟨2, 1, 0, 1, 0, 0⟩ := rfl
theorem awR_holds (w : World) : HoldsRc ((w.alloc (.cells #[.int .i64 0, .int .i64 0, .int .i64 1, .int .i64 1, .int .i64 0, .int .i64 1] 40)).alloc (.cells #[.int .i64 0, .int .i64 0, .int .i64 0, .int .i64 0, .string ⟨#[]⟩, .int .i64 0, .int .i64 0, .int .i64 0, .int .i64 0, .slice (some ⟨w.heap.size, 0, none⟩) 2 2, .int .i64 (-1), .slice none 0 0, .int .i64 0, .int .i64 0, .int .i64 0, .int .i64 0, .string ⟨#[]⟩, .int .i64 0, .int .i64 0, .int .i64 3, .int .i64 1, .slice none 0 0, .int .i64 0, .slice none 0 0] 38)) (some ⟨w.heap.size + 1, 0, none⟩) 2 (awR w.heap.size) := by
  obtain ⟨w1, hw1⟩ : ∃ w1, w.alloc (.cells #[.int .i64 0, .int .i64 0, .int .i64 1, .int .i64 1, .int .i64 0, .int .i64 1] 40) = w1 := ⟨_, rfl⟩
  have hs : w1.heap.size = w.heap.size + 1 := by rw [← hw1]; simp
  have c : ∀ j, w1.cell? ⟨w.heap.size, j, none⟩ = #[.int .i64 0, .int .i64 0, .int .i64 1, .int .i64 1, .int .i64 0, .int .i64 1][j]? := fun j => by rw [← hw1]; exact cell_alloc rfl
  rw [hw1, ← hs]
  obtain ⟨q, hq⟩ : ∃ q, w.heap.size = q := ⟨_, rfl⟩
  rw [hq] at c ⊢
  have B := below_one w1 (.cells #[.int .i64 0, .int .i64 0, .int .i64 0, .int .i64 0, .string ⟨#[]⟩, .int .i64 0, .int .i64 0, .int .i64 0, .int .i64 0, .slice (some ⟨q, 0, none⟩) 2 2, .int .i64 (-1), .slice none 0 0, .int .i64 0, .int .i64 0, .int .i64 0, .int .i64 0, .string ⟨#[]⟩, .int .i64 0, .int .i64 0, .int .i64 3, .int .i64 1, .slice none 0 0, .int .i64 0, .slice none 0 0] 38)
  have d : ∀ j, (w1.alloc (.cells #[.int .i64 0, .int .i64 0, .int .i64 0, .int .i64 0, .string ⟨#[]⟩, .int .i64 0, .int .i64 0, .int .i64 0, .int .i64 0, .slice (some ⟨q, 0, none⟩) 2 2, .int .i64 (-1), .slice none 0 0, .int .i64 0, .int .i64 0, .int .i64 0, .int .i64 0, .string ⟨#[]⟩, .int .i64 0, .int .i64 0, .int .i64 3, .int .i64 1, .slice none 0 0, .int .i64 0, .slice none 0 0] 38)).cell? ⟨w1.heap.size, j, none⟩ = #[.int .i64 0, .int .i64 0, .int .i64 0, .int .i64 0, .string ⟨#[]⟩, .int .i64 0, .int .i64 0, .int .i64 0, .int .i64 0, .slice (some ⟨q, 0, none⟩) 2 2, .int .i64 (-1), .slice none 0 0, .int .i64 0, .int .i64 0, .int .i64 0, .int .i64 0, .string ⟨#[]⟩, .int .i64 0, .int .i64 0, .int .i64 3, .int .i64 1, .slice none 0 0, .int .i64 0, .slice none 0 0][j]? := fun j => cell_alloc rfl
  generalize w1.alloc (.cells #[.int .i64 0, .int .i64 0, .int .i64 0, .int .i64 0, .string ⟨#[]⟩, .int .i64 0, .int .i64 0, .int .i64 0, .int .i64 0, .slice (some ⟨q, 0, none⟩) 2 2, .int .i64 (-1), .slice none 0 0, .int .i64 0, .int .i64 0, .int .i64 0, .int .i64 0, .string ⟨#[]⟩, .int .i64 0, .int .i64 0, .int .i64 3, .int .i64 1, .slice none 0 0, .int .i64 0, .slice none 0 0] 38) = w2 at B d
  have c2 : ∀ j v, #[.int .i64 0, .int .i64 0, .int .i64 1, .int .i64 1, .int .i64 0, .int .i64 1][j]? = some v → w2.cell? ⟨q, j, none⟩ = some v := fun j v hv => (B.cell (p := ⟨q, j, none⟩) (by show q < w1.heap.size; omega)).trans ((c j).trans hv)
  refine ⟨rfl, fun _ => ⟨w1.heap.size, 0, rfl, fun i hi => ?_⟩, fun x hx => ?_⟩
  · match i, hi with
    | 0, _ => exact ⟨d 0, d 1, d 2, d 3, d 4, d 5, d 6, d 7, d 8, d 9, d 10, d 11⟩
    | 1, _ => exact ⟨d 12, d 13, d 14, d 15, d 16, d 17, d 18, d 19, d 20, d 21, d 22, d 23⟩
  · simp only [awR, List.mem_cons, List.not_mem_nil, or_false] at hx
    rcases hx with rfl | rfl
    · refine ⟨⟨rfl, fun _ => ⟨q, 0, rfl, fun i hi => ?_⟩⟩, ⟨rfl, fun h => absurd h (by simp)⟩, by simp, by simp, by show 0 ≤ 9223372036854775807; omega, rfl, by simp, ?_⟩
      · match i, hi with
        | 0, _ => exact ⟨c2 0 _ rfl, c2 1 _ rfl, c2 2 _ rfl⟩
        | 1, _ => exact ⟨c2 3 _ rfl, c2 4 _ rfl, c2 5 _ rfl⟩
      · intro z hz
        simp only [List.mem_cons, List.not_mem_nil, or_false] at hz
        rcases hz with rfl | rfl <;> rfl
    · exact ⟨⟨rfl, fun h => absurd h (by simp)⟩, ⟨rfl, fun h => absurd h (by simp)⟩, by simp, by simp, by show 0 ≤ 9223372036854775807; omega, rfl, by simp, by simp⟩
theorem sum_alike (a b c d e f : Int) (w : World) : (Op.equalIn 10000 26 (.agg #[.int .i64 a, .int .i64 b, .int .i64 c, .int .i64 d, .int .i64 e, .int .i64 f]) (.agg #[.int .i64 a, .int .i64 b, .int .i64 c, .int .i64 d, .int .i64 e, .int .i64 f])).run Try.prog w = .ok true w := by
  go_simp
set_option maxHeartbeats 3200000 in
set_option maxRecDepth 100000 in
theorem awake26_any (w : World) : Calls Try.prog 5 #[] w fun e w' => e = .returned (.bool true) ∧ Below w.heap.size w w' := by
  have HR0 := Lib.hid (awR_holds w)
  have eqs := sum_alike 2 1 0 1 0 0
  obtain ⟨w2, hw2⟩ : ∃ w2, (w.alloc (.cells #[.int .i64 0, .int .i64 0, .int .i64 1, .int .i64 1, .int .i64 0, .int .i64 1] 40)).alloc (.cells #[.int .i64 0, .int .i64 0, .int .i64 0, .int .i64 0, .string ⟨#[]⟩, .int .i64 0, .int .i64 0, .int .i64 0, .int .i64 0, .slice (some ⟨w.heap.size, 0, none⟩) 2 2, .int .i64 (-1), .slice none 0 0, .int .i64 0, .int .i64 0, .int .i64 0, .int .i64 0, .string ⟨#[]⟩, .int .i64 0, .int .i64 0, .int .i64 3, .int .i64 1, .slice none 0 0, .int .i64 0, .slice none 0 0] 38) = w2 := ⟨_, rfl⟩
  have B2 := Lib.hid (show Below w.heap.size w w2 from hw2 ▸ (below_one w _).trans ((below_one _ _).mono (by simp)))
  have HR := Lib.hid (hw2 ▸ HR0.out)
  go_enter Try.func5, Try.ntmps5
  go_upto_region 2 with fail
  try rw [hw2]
  have CP := Lib.hid (fun (w' : World) (hb : Below w2.heap.size w2 w') => awR_pend w.heap.size ▸ tPending_any _ 2 2 _ w' (HR.out.below hb) (by omega) (fun x hx => by
    simp only [awR, List.mem_cons, List.not_mem_nil, or_false] at hx
    rcases hx with rfl | rfl <;> simp))
  have CO := Lib.hid (fun (w' : World) (hb : Below w2.heap.size w2 w') => tOf_any _ 2 2 _ w' (HR.out.below hb) (by omega) (fun x hx => by
    simp only [awR, List.mem_cons, List.not_mem_nil, or_false] at hx
    rcases hx with rfl | rfl <;> simp))
  have CA := Lib.hid (fun (w' : World) (hb : Below w2.heap.size w2 w') => awR_ask w.heap.size ▸ tAsked_any _ 2 2 _ w' (HR.out.below hb) (by omega))
  have SM := Lib.hid (awR_sum w.heap.size)
  clear hw2 HR0
  go_wp2_with fail
  with_reducible refine (CP.out _ (Below.refl _ _)).mono ?_
  rintro e w3 ⟨a3, c3, rfl, o3, b3⟩
  have B3 := Lib.hid b3
  have O3 := Lib.hid (RetN.holds o3)
  have CS := Lib.hid (sameInts_any a3 (some ⟨w3.heap.size, 0, none⟩) 1 c3 1 1 [1] [1] (w3.alloc (.cells #[.int .i64 1] 3)) (O3.out.alloc _) ⟨rfl, fun _ => ⟨w3.heap.size, 0, rfl, fun i hi => by
    obtain rfl : i = 0 := by omega
    exact cell_alloc rfl⟩⟩ (by omega) (by omega))
  rw [decide_eq_true rfl] at CS
  have BX := Lib.hid (below_one w3 (.cells #[.int .i64 1] 3))
  clear o3 b3 CP
  go_wp2_with fail
  with_reducible refine CS.out.mono ?_
  rintro e w4 ⟨rfl, m4, rfl⟩
  have B4 := Lib.hid (B3.out.trans ((BX.out.trans ((below_drewN _ m4).mono BX.out.size)).mono B3.out.size))
  generalize (w3.alloc (.cells #[.int .i64 1] 3)).drewN m4 = w4 at B4 ⊢
  clear CS BX O3 B3
  go_wp2_with fail
  with_reducible refine (CO.out _ B4.out).mono ?_
  rintro e w5 ⟨⟨s, hs, rfl⟩, b5⟩
  rw [SM.out] at hs
  subst hs
  have B5 := Lib.hid (B4.out.trans (b5.mono B4.out.size))
  clear b5 CO B4
  go_wp2_with fail
  with_reducible refine (CA.out _ B5.out).mono ?_
  rintro e w6 ⟨a6, c6, rfl, o6, b6⟩
  have B6 := Lib.hid (B5.out.trans (b6.mono B5.out.size))
  have O6 := Lib.hid (RetN.holds o6)
  have CS := Lib.hid (sameInts_any a6 (some ⟨w6.heap.size, 0, none⟩) 1 c6 1 1 [1] [1] (w6.alloc (.cells #[.int .i64 1] 3)) (O6.out.alloc _) ⟨rfl, fun _ => ⟨w6.heap.size, 0, rfl, fun i hi => by
    obtain rfl : i = 0 := by omega
    exact cell_alloc rfl⟩⟩ (by omega) (by omega))
  rw [decide_eq_true rfl] at CS
  have BX := Lib.hid (below_one w6 (.cells #[.int .i64 1] 3))
  clear o6 b6 CA B5
  go_wp2_with fail
  with_reducible refine CS.out.mono ?_
  rintro e w7 ⟨rfl, m7, rfl⟩
  have B7 := Lib.hid (B2.out.trans ((B6.out.trans ((BX.out.trans ((below_drewN _ m7).mono BX.out.size)).mono B6.out.size)).mono B2.out.size))
  clear CS BX
  go_wp2_with fail
  go_ret
  exact ⟨rfl, B7.out⟩
end Go.Proofs.Ythfoilnofljflaa
