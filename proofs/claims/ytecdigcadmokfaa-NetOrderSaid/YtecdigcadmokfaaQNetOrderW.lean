/- net: in the order in which it was sent -/
import Derived.Test.YtecdigcadmokfaaPkA
namespace Go.Proofs.Ytecdigcadmokfaa
open Go.RowKit
set_option linter.unusedVariables false
set_option maxRecDepth 20000
def OkAt (x : GM) (k : Nat) : Prop := x.id = k ∧ x.frm = k ∧ x.fn = 1 ∧ x.bs = [k]
def SentN (w wr : World) (b : Nat) (most nx : Int) (i n : Nat) : Prop := ∃ G, NFine w wr b most nx G ∧ G.length = n ∧ ∀ k, k < n → OkAt (G.getD k gm0) (i + k)
theorem sentN_more {w wr wr' : World} {b : Nat} {most nx nx' : Int} {n : Nat} {G : List GM} {x : GM} (h : NFine w wr' b most nx' (G ++ [x])) (hl : G.length = n) (hG : ∀ k, k < n → OkAt (G.getD k gm0) (0 + k)) (hx : OkAt x n) : SentN w wr' b most nx' 0 (n + 1) := by
  refine ⟨G ++ [x], h, by simp [hl], fun k hk => ?_⟩
  by_cases e : k < n
  · have := hG k e
    rwa [List.getD_eq_getElem?_getD, List.getElem?_append_left (by omega), ← List.getD_eq_getElem?_getD]
  · obtain rfl : k = n := by omega
    rw [List.getD_eq_getElem?_getD, List.getElem?_append_right (by omega), hl]
    simpa using hx
set_option maxHeartbeats 3200000 in
set_option maxRecDepth 100000 in
theorem netOrder_any (most many : Int) (w : World) : Calls Try.prog 6 #[.int .i64 most, .int .i64 many] w fun e w' => e = .returned (.bool true) ∧ Below w.heap.size w w' := by
  have hA := low_bd most 64 (by omega)
  have hB := low_bd many 100 (by omega)
  have C1 := Lib.hid (low_any most 64 (by omega) (by omega))
  have C2 := Lib.hid (low_any many 100 (by omega) (by omega))
  obtain ⟨m, hm⟩ : ∃ m : Nat, 1 + lowV most 64 = (m : Int) := ⟨(1 + lowV most 64).toNat, by omega⟩
  obtain ⟨q, hq⟩ : ∃ q : Nat, lowV many 100 = (q : Int) := ⟨(lowV many 100).toNat, by omega⟩
  have hm1 : 1 ≤ m := by omega
  have hm2 : m ≤ 64 := by omega
  have hq1 : q < 100 := by omega
  have hw1 : IntKind.i64.wrap (1 + lowV most 64) = (m : Int) := by rw [hm]; exact IntWalk.i64_in _ (by omega)
  rw [hq] at C2
  clear hA hB hm hq
  go_enter Try.func6, Try.ntmps6
  go_wp2_with fail
  refine (C1.out _).mono ?_
  rintro e w' ⟨rfl, rfl⟩
  go_wp2_with fail
  refine (C2.out _).mono ?_
  rintro e w' ⟨rfl, rfl⟩
  clear C1 C2
  go_upto_region 2 with fail
  clear hw1
  go_wp2_with fail
  refine (newN_fine m _ (by omega)).mono ?_
  rintro e w1 ⟨b, rfl, h1⟩
  have F1 := Lib.hid h1
  clear h1
  go_wp2_with fail
  go_loopw [7] (fun iv wr => ∃ j : Nat, j ≤ q ∧ iv = .int .i64 j ∧ Hid (SentN w wr b m j 0 (min j m))) (fun iv _ => q - (intOf iv).toNat)
  case atStart => exact ⟨0, by omega, rfl, Lib.hid ⟨[], F1.out, by simp, fun k hk => by simp at hk⟩⟩
  case round =>
    obtain ⟨j, hj, rfl, hS⟩ := hrel
    by_cases hlt : j < q
    · obtain ⟨G, hF, hGl, hG⟩ := hS.out
      have F2 := Lib.hid hF; have GL := Lib.hid hGl; have GG := Lib.hid hG
      have hu : IntKind.u8.wrap (j : Int) = (j : Int) := by simp only [IntKind.wrap, IntKind.signed, IntKind.bits]; simp; omega
      have HB := Lib.hid (one_byte wr j 5 (0, 0) (by omega))
      have e1 : ((j : Int) != (j : Int)) = false := by simp
      clear hS hF hGl hG
      go_wp2_with fail
      by_cases hjm : j < m
      · have d1 : decide ((j : Int) < (m : Int)) = true := by simp; omega
        have hmin : min j m = j := by omega
        rw [hmin] at GL GG
        refine (send_fine j 1 ((j + 1 : Nat) : Int) _ 1 1 [j] _ F2.out (below_one wr _) (by omega) (by simp) (by rw [GL.out]; omega) (by omega) HB.out (some_none _) (by omega) (fun fb fo e => Or.inr (by injection e with e; injection e with e; omega))).mono ?_
        rintro e w2 ⟨rfl, fa, fc, h2⟩
        have S2 := Lib.hid (show SentN w w2 b m ((j + 1 : Nat) : Int) 0 (min (j + 1) m) from by rw [show min (j + 1) m = j + 1 by omega]; exact sentN_more (wr := wr) (nx := j) h2 GL.out GG.out ⟨rfl, rfl, rfl, rfl⟩)
        clear h2 hmin
        go_wp2_with fail
        go_roundw
        case rel => exact ⟨j + 1, by omega, by go_num, S2⟩
        case measure => simp [intOf] <;> omega
      · have d1 : decide ((j : Int) < (m : Int)) = false := by simp; omega
        have hmin : min j m = m := by omega
        rw [hmin] at GL GG
        refine (full_fine j 1 ((j + 1 : Nat) : Int) _ (F2.out.more (below_one wr _)) (by omega) (by simp) (by rw [GL.out]; omega)).mono ?_
        rintro e w2 ⟨rfl, h2⟩
        have S2 := Lib.hid (show SentN w w2 b m ((j + 1 : Nat) : Int) 0 (min (j + 1) m) from by rw [show min (j + 1) m = m by omega]; exact ⟨G, h2, GL.out, GG.out⟩)
        clear h2 hmin
        go_wp2_with fail
        go_roundw
        case rel => exact ⟨j + 1, by omega, by go_num, S2⟩
        case measure => simp [intOf] <;> omega
    · obtain rfl : j = q := by omega
      obtain ⟨r, hr⟩ : ∃ r, min j m = r := ⟨_, rfl⟩
      rw [hr] at hS
      have hr1 : r ≤ 64 := by omega
      obtain ⟨nx, hnx⟩ : ∃ nx : Int, (j : Int) = nx := ⟨_, rfl⟩
      obtain ⟨mo, hmo⟩ : ∃ mo : Int, (m : Int) = mo := ⟨_, rfl⟩
      rw [hnx, hmo] at hS
      have hS0 := hS
      clear hlt hS hnx hmo
      by_cases c : j < m
      · obtain rfl : r = j := by omega
        clear hr
        go_wp2_with fail
        go_loopw [10] (fun iv wr => ∃ i : Nat, i ≤ r ∧ iv = .int .i64 i ∧ Hid (SentN w wr b mo nx i (r - i))) (fun iv _ => r - (intOf iv).toNat)
        case atStart => exact ⟨0, by omega, rfl, hS0⟩
        case round =>
          obtain ⟨i, hi, rfl, hS2⟩ := hrel
          by_cases hir : i < r
          · obtain ⟨G, hF, hGl, hG⟩ := hS2.out
            obtain ⟨x, G', rfl⟩ : ∃ x G', G = x :: G' := by
              cases G with
              | nil => simp at hGl; omega
              | cons x G' => exact ⟨x, G', rfl⟩
            have hx := hG 0 (by omega)
            simp only [List.getD_cons_zero, Nat.add_zero] at hx
            obtain ⟨id, frm, dst, fa, fn, fc, sp, bs⟩ := x
            obtain ⟨y1, y2, y3, y4⟩ := hx
            simp only at y1 y2 y3 y4
            subst y1 y2 y3 y4
            have hGl' : G'.length = r - (i + 1) := by simp at hGl; omega
            have S3 := Lib.hid (fun wz (h : NFine w wz b mo nx G') => (show SentN w wz b mo nx (i + 1) (r - (i + 1)) from ⟨G', h, hGl', fun k hk => by
              have := hG (k + 1) (by omega)
              rw [List.getD_cons_succ] at this
              rwa [show i + (k + 1) = i + 1 + k by omega] at this⟩))
            have CD := Lib.hid (deliver0_fine hF (by omega))
            have e1 : ((i : Int) != (i : Int)) = false := by simp
            have hu : IntKind.u8.wrap (i : Int) = (i : Int) := by simp only [IntKind.wrap, IntKind.signed, IntKind.bits]; simp; omega
            clear hS2 hF hGl hG hGl'
            go_wp2_with fail
            refine CD.out.mono ?_
            rintro e w5 ⟨rfl, h5, hB5⟩
            have F5 := Lib.hid (h5.more (below_one w5 (.cells #[.int .i64 i, .int .i64 i, .int .i64 dst, .slice fa 1 fc, .bool sp] 42)))
            have A5 := Lib.hid (gmIn_new w5 ⟨i, i, dst, fa, 1, fc, sp, [i]⟩ _ 42 (0, 0) rfl)
            have B5 := Lib.hid (hB5.below (below_one w5 (.cells #[.int .i64 i, .int .i64 i, .int .i64 dst, .slice fa 1 fc, .bool sp] 42)))
            clear h5 hB5 CD
            go_upto_region 15 with fail
            generalize w5.alloc (.cells #[.int .i64 i, .int .i64 i, .int .i64 dst, .slice fa 1 fc, .bool sp] 42) = w6 at *
            generalize w5.heap.size = p at *
            have hA := A5.out
            unfold GmIn at hA
            obtain ⟨x0, x1, x2, x3, x4⟩ := hA
            have H6 := Lib.hid (one_byte w6 i 5 (0, 0) (by omega))
            have B6 := Lib.hid (B5.out.below (below_one w6 (.cells #[.int .u8 (i : Int)] 5)))
            have F6 := Lib.hid (F5.out.more (below_one w6 (.cells #[.int .u8 (i : Int)] 5)))
            have lp := lt_of_cell x0
            go_wp2_with fail
            refine (sameB_yes _ _ _ _ _ _ [i] _ B6.out H6.out (by simp)).mono ?_
            rintro e w7 ⟨rfl, hb7⟩
            have S7 := Lib.hid (S3.out _ (F6.out.more hb7))
            clear hb7
            go_wp2_with fail
            go_roundw
            case rel => exact ⟨i + 1, by omega, by go_num, S7⟩
            case measure => simp [intOf] <;> omega
          · obtain rfl : i = r := by omega
            obtain ⟨G, hF, hGl, hG⟩ := hS2.out
            obtain rfl : G = [] := List.length_eq_zero_iff.1 (by omega)
            have F4 := Lib.hid hF
            clear hS2 hF hGl hG
            go_wp2_with fail
            refine (deliverE_fine 0 F4.out (by simp)).mono ?_
            rintro e w5 ⟨rfl, hb⟩
            have F5 := Lib.hid ((F4.out.more hb).more (below_one w5 (.cells #[.int .i64 0, .int .i64 0, .int .i64 0, .slice none 0 0, .bool false] 42)))
            clear hb
            go_wp2_with fail
            refine (lenN_fine 0 F5.out rfl).mono ?_
            rintro e w' ⟨rfl, rfl⟩
            go_wp2_with fail
            refine (awakeN_any _).mono ?_
            rintro e w6 ⟨rfl, hb⟩
            have B6 := Lib.hid ((F5.out.more hb).bel)
            clear hb
            go_wp2_with fail
            go_ret
            exact ⟨rfl, B6.out⟩
      · obtain rfl : r = m := by omega
        clear hr
        have c2 : r ≤ j := by omega
        go_wp2_with fail
        go_loopw [10] (fun iv wr => ∃ i : Nat, i ≤ r ∧ iv = .int .i64 i ∧ Hid (SentN w wr b mo nx i (r - i))) (fun iv _ => r - (intOf iv).toNat)
        case atStart => exact ⟨0, by omega, rfl, hS0⟩
        case round =>
          obtain ⟨i, hi, rfl, hS2⟩ := hrel
          by_cases hir : i < r
          · obtain ⟨G, hF, hGl, hG⟩ := hS2.out
            obtain ⟨x, G', rfl⟩ : ∃ x G', G = x :: G' := by
              cases G with
              | nil => simp at hGl; omega
              | cons x G' => exact ⟨x, G', rfl⟩
            have hx := hG 0 (by omega)
            simp only [List.getD_cons_zero, Nat.add_zero] at hx
            obtain ⟨id, frm, dst, fa, fn, fc, sp, bs⟩ := x
            obtain ⟨y1, y2, y3, y4⟩ := hx
            simp only at y1 y2 y3 y4
            subst y1 y2 y3 y4
            have hGl' : G'.length = r - (i + 1) := by simp at hGl; omega
            have S3 := Lib.hid (fun wz (h : NFine w wz b mo nx G') => (show SentN w wz b mo nx (i + 1) (r - (i + 1)) from ⟨G', h, hGl', fun k hk => by
              have := hG (k + 1) (by omega)
              rw [List.getD_cons_succ] at this
              rwa [show i + (k + 1) = i + 1 + k by omega] at this⟩))
            have CD := Lib.hid (deliver0_fine hF (by omega))
            have e1 : ((i : Int) != (i : Int)) = false := by simp
            have hu : IntKind.u8.wrap (i : Int) = (i : Int) := by simp only [IntKind.wrap, IntKind.signed, IntKind.bits]; simp; omega
            clear hS2 hF hGl hG hGl'
            go_wp2_with fail
            refine CD.out.mono ?_
            rintro e w5 ⟨rfl, h5, hB5⟩
            have F5 := Lib.hid (h5.more (below_one w5 (.cells #[.int .i64 i, .int .i64 i, .int .i64 dst, .slice fa 1 fc, .bool sp] 42)))
            have A5 := Lib.hid (gmIn_new w5 ⟨i, i, dst, fa, 1, fc, sp, [i]⟩ _ 42 (0, 0) rfl)
            have B5 := Lib.hid (hB5.below (below_one w5 (.cells #[.int .i64 i, .int .i64 i, .int .i64 dst, .slice fa 1 fc, .bool sp] 42)))
            clear h5 hB5 CD
            go_upto_region 15 with fail
            generalize w5.alloc (.cells #[.int .i64 i, .int .i64 i, .int .i64 dst, .slice fa 1 fc, .bool sp] 42) = w6 at *
            generalize w5.heap.size = p at *
            have hA := A5.out
            unfold GmIn at hA
            obtain ⟨x0, x1, x2, x3, x4⟩ := hA
            have H6 := Lib.hid (one_byte w6 i 5 (0, 0) (by omega))
            have B6 := Lib.hid (B5.out.below (below_one w6 (.cells #[.int .u8 (i : Int)] 5)))
            have F6 := Lib.hid (F5.out.more (below_one w6 (.cells #[.int .u8 (i : Int)] 5)))
            have lp := lt_of_cell x0
            go_wp2_with fail
            refine (sameB_yes _ _ _ _ _ _ [i] _ B6.out H6.out (by simp)).mono ?_
            rintro e w7 ⟨rfl, hb7⟩
            have S7 := Lib.hid (S3.out _ (F6.out.more hb7))
            clear hb7
            go_wp2_with fail
            go_roundw
            case rel => exact ⟨i + 1, by omega, by go_num, S7⟩
            case measure => simp [intOf] <;> omega
          · obtain rfl : i = r := by omega
            obtain ⟨G, hF, hGl, hG⟩ := hS2.out
            obtain rfl : G = [] := List.length_eq_zero_iff.1 (by omega)
            have F4 := Lib.hid hF
            clear hS2 hF hGl hG
            go_wp2_with fail
            refine (deliverE_fine 0 F4.out (by simp)).mono ?_
            rintro e w5 ⟨rfl, hb⟩
            have F5 := Lib.hid ((F4.out.more hb).more (below_one w5 (.cells #[.int .i64 0, .int .i64 0, .int .i64 0, .slice none 0 0, .bool false] 42)))
            clear hb
            go_wp2_with fail
            refine (lenN_fine 0 F5.out rfl).mono ?_
            rintro e w' ⟨rfl, rfl⟩
            go_wp2_with fail
            refine (awakeN_any _).mono ?_
            rintro e w6 ⟨rfl, hb⟩
            have B6 := Lib.hid ((F5.out.more hb).bel)
            clear hb
            go_wp2_with fail
            go_ret
            exact ⟨rfl, B6.out⟩
open Go.ChangeShapes Go.WideShapes Go.ChangeAt in
theorem netOrder_walk {H : Type} {enc : TypeId × Value → H} (W : World) (base : Nat) (v0 v1 : Value) (d0 d1 : DataW H) (p0 p1 : List MemPlace)
    (h0 : DataW.Trod enc Try.prog W 0 (fun _ => true) true 3 v0 d0 p0) (h1 : DataW.Trod enc Try.prog W 0 (fun _ => true) true 3 v1 d1 p1) (o0 : Value.okWide Try.prog W .any base 3 v0) (o1 : Value.okWide Try.prog W .any base 3 v1) :
    Calls Try.prog 6 #[v0, v1] W fun e w' => e = .returned (.bool true) ∧ RowKit.Below W.heap.size W w' := by
  obtain ⟨x, rfl, rfl, rfl, _⟩ := open_int Try.underlying3 o0 h0
  obtain ⟨y, rfl, rfl, rfl, _⟩ := open_int Try.underlying3 o1 h1
  exact netOrder_any x y W
end Go.Proofs.Ytecdigcadmokfaa
