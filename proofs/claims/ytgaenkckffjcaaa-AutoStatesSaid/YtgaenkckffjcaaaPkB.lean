/- texts joined -/
import Derived.Test.YtgaenkckffjcaaaPkA
/- auto: plain mathematics of the laws -/
namespace Go.Proofs.Ytgaenkckffjcaaa
open Go.RowKit
set_option linter.unusedVariables false
set_option maxRecDepth 20000
namespace Au
theorem need_sorted (C : Nat → Int) (n : Nat) (k : Int) (m : Nat) : (needL C n k m).Pairwise fun x y => x.1 < y.1 := by
  unfold needL
  exact List.Pairwise.map _ (R := fun a b : Nat => a < b) (fun a b h => by simp only; omega) (List.Pairwise.filter _ List.pairwise_lt_range)
theorem st_rises (q p : List Int) (k : Int) (i j : Nat) (hj : j + 1 < (st q p k i).length) : ((st q p k i).getD j p0).1 < ((st q p k i).getD (j + 1) p0).1 := by
  have h := List.pairwise_iff_getElem.1 (need_sorted (cap q p k i) q.length k (q.length + 1)) j (j + 1) (by unfold st at hj; omega) hj (by omega)
  unfold st at hj ⊢
  rw [List.getD_eq_getElem?_getD, List.getD_eq_getElem?_getD, List.getElem?_eq_getElem (by omega), List.getElem?_eq_getElem hj]
  exact h
/-- what is told of a position -/
theorem st_at {q p : List Int} {k : Int} (hk : 0 ≤ k) (i j : Nat) (hj : j < (st q p k i).length) : ∃ (e : Nat) (d : Int), (st q p k i).getD j p0 = ((e : Int), d) ∧ e ≤ q.length ∧ 0 ≤ d ∧ d ≤ k ∧ (e : Int) - i ≤ d ∧ (i : Int) - e ≤ d := by
  obtain ⟨e, he, hn, hx⟩ := needL_mem (getD_memP _ j hj)
  have h1 := need_low hn
  have h2 := (cap_bd q p k hk i e).1
  exact ⟨e, _, hx, by omega, h2, h1.2.2, h1.1, h1.2.1⟩
theorem L_pre (q : List Int) {p p' : List Int} {j : Nat} (h : ∀ t, t < j → p.getD t 0 = p'.getD t 0) : ∀ i, Ed.L q p i j = Ed.L q p' i j := by
  intro i
  induction i generalizing j with
  | zero => rw [Ed.L_zeroL, Ed.L_zeroL]
  | succ i ih =>
    induction j with
    | zero => rw [L_zero, L_zero]
    | succ j ihj =>
      have h1 := ih (j := j) (fun t ht => h t (by omega))
      have h2 := ih (j := j + 1) h
      have h3 := ihj (fun t ht => h t (by omega))
      simp only [Ed.L]
      rw [h1, h2, h3, h j (by omega)]
theorem st_pre (q : List Int) {p p' : List Int} (k : Int) {j : Nat} (h : ∀ t, t < j → p.getD t 0 = p'.getD t 0) : st q p k j = st q p' k j := by
  have e : cap q p k j = cap q p' k j := by funext i; unfold cap; rw [L_pre q h i]
  unfold st; rw [e]
theorem L_other {q p p' : List Int} {j : Nat} (h : ∀ t, t < j → p.getD t 0 = p'.getD t 0) (hc : ∀ i, i < q.length → Ed.cost (q.getD i 0) (p.getD j 0) = Ed.cost (q.getD i 0) (p'.getD j 0)) : ∀ i, i ≤ q.length → Ed.L q p i (j + 1) = Ed.L q p' i (j + 1) := by
  intro i
  induction i with
  | zero => intro _; rw [Ed.L_zeroL, Ed.L_zeroL]
  | succ i ih =>
    intro hi
    have h1 := ih (by omega)
    simp only [Ed.L]
    rw [h1, L_pre q h i, L_pre q h (i + 1), hc i (by omega)]
theorem st_other {q p p' : List Int} (k : Int) {j : Nat} (h : ∀ t, t < j → p.getD t 0 = p'.getD t 0) (hc : ∀ i, i < q.length → Ed.cost (q.getD i 0) (p.getD j 0) = Ed.cost (q.getD i 0) (p'.getD j 0)) : st q p k (j + 1) = st q p' k (j + 1) :=
  needL_like (fun i hi => by unfold cap; rw [L_other h hc i hi]) _ (Nat.le_refl _)
theorem st_whole {q p : List Int} {k : Int} (hk : 0 ≤ k) (j : Nat) : dmin (st q p k j) q.length k = min (Ed.L q p q.length j) (k + 1) :=
  dmin_whole (cap_lip q p k j _) (fun i _ => (cap_bd q p k hk j i).2)
/-- what is dead with a greater bound is with a lesser one -/
theorem st_less {q p : List Int} {k : Int} {j : Nat} (hk : 0 ≤ k) (h : st q p (k + 1) j = []) : st q p k j = [] :=
  need_none fun i hi => by
    have h1 := dead_all (cap_lip q p (k + 1) j _) (fun i _ => (cap_bd q p (k + 1) (by omega) j i).2) h i hi
    unfold cap at h1 ⊢; omega
end Au
end Go.Proofs.Ytgaenkckffjcaaa
/- contract of the laws' behind -/
namespace Go.Proofs.Ytgaenkckffjcaaa
open Go.RowKit
set_option linter.unusedVariables false
set_option maxRecDepth 20000
set_option maxHeartbeats 3200000 in
theorem behind_any (q p : List Int) (a b : Option Addr) (n m ca cb L : Nat) (k : Int) (S : List PV) (w : World) (ha : HoldsI .i32 w a n q) (hb : HoldsI .i32 w b m p) (hn : n ≤ 16) (hm : m ≤ 16) (hk : 0 ≤ k ∧ k ≤ 4) (hS : Au.st q p k m = S) (hL : S.length = L) :
    Calls Try.prog 22 #[.slice a n ca, .int .i64 k, .slice b m cb] w (RetP w L S) := by
  have HA := Lib.hid ha; have HB := Lib.hid hb; have HK := Lib.hid hk; have HS := Lib.hid hS; have HL := Lib.hid hL
  clear ha hb hS hL
  go_enter Try.func22, Try.ntmps22
  go_wp2_with fail
  refine (start_yes a n ca k _ HK.out).mono ?_
  rintro e w1 ⟨sa, sc, rfl, ho, hb⟩
  have S1 := Lib.hid (show w1.ownsRow w.heap.size 40 2 (.slice sa 1 sc) 1 (posV (Au.st q p k 0)) from by rw [Au.st_zero q p HK.out.1]; exact ho)
  have B1 := Lib.hid hb
  clear ho hb
  go_wp2_with fail
  go_loopw [7, 8] (fun sv iv wr => ∃ (j : Nat) (sa : Option Addr) (L sc : Nat), j ≤ m ∧ iv = .int .i64 j ∧ sv = .slice sa L sc ∧ Hid (wr.ownsRow w.heap.size 40 2 (.slice sa L sc) L (posV (Au.st q p k j))) ∧ Hid (Below w.heap.size w wr)) (fun _ iv _ => m - (intOf iv).toNat)
  case atStart => exact ⟨0, sa, 1, sc, by omega, rfl, rfl, S1, B1⟩
  case round =>
    obtain ⟨j, sa, L', sc, hj, rfl, rfl, hS, hB⟩ := hrel
    by_cases hlt : j < m
    · obtain ⟨bb, ob, rfl, hcb⟩ := (HB.out.below hB.out).at (by omega)
      have e1 := hcb j hlt
      clear hcb
      obtain ⟨r, hr⟩ : ∃ r, p.getD j 0 = r := ⟨_, rfl⟩
      rw [hr] at e1
      have HR := Lib.hid hr
      obtain ⟨L2, hL2⟩ : ∃ L2, (Au.st q p k (j + 1)).length = L2 := ⟨_, rfl⟩
      have HL2 := Lib.hid hL2
      clear hr hL2
      go_wp2_with fail
      refine (step_any q p j k a sa n ca L' sc L2 r _ (HA.out.below hB.out) (HoldsP.own hS.out) HK.out (by omega) HR.out HL2.out).mono ?_
      rintro e w3 ⟨sa3, sc3, rfl, ho, hb⟩
      have S3 := Lib.hid (owns_mono ho hB.out.size)
      have B3 := Lib.hid (hB.out.trans (hb.mono hB.out.size))
      clear ho hb hS hB
      go_wp2_with fail
      go_roundw
      case rel => exact ⟨j + 1, sa3, L2, sc3, by omega, by go_num, rfl, S3, B3⟩
      case measure => simp [intOf] <;> omega
    · obtain rfl : j = m := by omega
      have hl := (HoldsP.own hS.out).len
      rw [HS.out, HL.out] at hl
      subst hl
      have O := Lib.hid (show wr.ownsRow w.heap.size 40 2 (.slice sa L sc) L (posV S) from by rw [← HS.out]; exact hS.out)
      clear hS
      go_wp2_with fail
      go_ret
      exact ⟨sa, sc, rfl, O.out, hB.out⟩
end Go.Proofs.Ytgaenkckffjcaaa
