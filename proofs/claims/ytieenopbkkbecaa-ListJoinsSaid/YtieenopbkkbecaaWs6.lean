/- contract of list.At -/
import Derived.Test.YtieenopbkkbecaaWs1
import Derived.Test.YtieenopbkkbecaaWs2
namespace Go.Proofs.Ytieenopbkkbecaa
open Go.RowKit
set_option linter.unusedVariables false
theorem getD_cons_zero (x : Tx) (xs : List Tx) : (x :: xs).getD 0 ByteArray.empty = x := rfl
theorem getD_cons_succ (x : Tx) (xs : List Tx) (i : Nat) : (x :: xs).getD (i + 1) ByteArray.empty = xs.getD i ByteArray.empty := rfl
theorem getD_at {xs : List Tx} {i : Nat} (h : i < xs.length) : xs.getD i ByteArray.empty = xs[i] := by simp [List.getD_eq_getElem?_getD, h]
theorem sorted_at {xs : List Tx} (h : SortedS xs) {i j : Nat} (hij : i < j) (hj : j < xs.length) : cmpS (xs.getD i ByteArray.empty) (xs.getD j ByteArray.empty) < 0 := by
  have := List.pairwise_iff_getElem.1 h i j (by omega) hj hij
  rw [getD_at (show i < xs.length by omega), getD_at hj]; exact this
theorem atN_of : ∀ (xs : List Tx) (t : Tx) (i : Nat), i ≤ xs.length → (∀ k, k < i → cmpS (xs.getD k ByteArray.empty) t < 0) → (∀ k, i ≤ k → k < xs.length → ¬ cmpS (xs.getD k ByteArray.empty) t < 0) → atN xs t = i
  | [], t, i, hi, _, _ => by have : i = 0 := by simpa using hi
                             subst this; rfl
  | x :: xs, t, 0, _, _, h2 => by
    unfold atN
    rw [List.countP_eq_zero]
    intro y hy
    obtain ⟨k, hk, rfl⟩ := List.getElem_of_mem hy
    have := h2 k (Nat.zero_le _) hk
    rw [getD_at hk] at this
    simpa using this
  | x :: xs, t, i + 1, hi, h1, h2 => by
    have hx := h1 0 (by omega)
    rw [getD_cons_zero] at hx
    have ih := atN_of xs t i (by simpa using hi) (fun k hk => h1 (k + 1) (by omega)) (fun k hk hk2 => h2 (k + 1) (by omega) (by simpa using hk2))
    unfold atN at ih ⊢
    rw [List.countP_cons_of_pos (by simpa using hx), ih]
theorem mem_at_iff {xs : List Tx} {t : Tx} (hs : SortedS xs) {i : Nat} (h1 : ∀ k, k < i → cmpS (xs.getD k ByteArray.empty) t < 0) (h2 : ∀ k, i ≤ k → k < xs.length → ¬ cmpS (xs.getD k ByteArray.empty) t < 0) : t ∈ xs ↔ i < xs.length ∧ cmpS (xs.getD i ByteArray.empty) t = 0 := by
  constructor
  · intro h
    obtain ⟨k, hk, e⟩ := List.getElem_of_mem h
    have e2 : xs.getD k ByteArray.empty = t := by rw [getD_at hk, e]
    have hik : i ≤ k := by
      apply Classical.byContradiction
      intro hn
      have := h1 k (by omega)
      rw [e2] at this
      exact cmpS_irrefl t this
    by_cases hlt : i < k
    · have := sorted_at hs hlt hk
      rw [e2] at this
      exact absurd this (h2 i (Nat.le_refl _) (by omega))
    · obtain rfl : i = k := by omega
      exact ⟨hk, by rw [e2, cmpS_same]⟩
  · rintro ⟨h, e⟩
    rw [← cmpS_zero.1 e, getD_at h]
    exact List.getElem_mem _
theorem compare_lit (x y : Tx) (v : Int) (hv : cmpS x y = v) (w : World) : Calls Try.prog 27 #[.string x, .string y] w fun e w' => e = .returned (.int .i64 v) ∧ w = w' := by subst hv; exact compare_any x y w
set_option maxHeartbeats 1600000 in
theorem search_any (a : Option Addr) (n cap : Nat) (ts : List Tx) (t : Tx) (w : World) (hh : HoldsT w a n ts) (hn : n ≤ 1048576) (hs : SortedS ts) :
    Calls Try.prog 33 #[.slice a n cap, .string t, .func (.func 27) #[] #[]] w fun e w' => e = .returned (.tuple #[.int .i64 (atN ts t), .bool (decide (t ∈ ts))]) ∧ w = w' := by
  have hl := hh.len
  have HS := Lib.hid hs
  clear hs
  go_enter Try.func33, Try.ntmps33
  go_wp2_with fail
  go_loop [9, 10] (fun u v => ∃ lo hi : Nat, u = .int .i64 lo ∧ v = .int .i64 hi ∧ lo ≤ hi ∧ hi ≤ n ∧ Hid (∀ k, k < lo → cmpS (ts.getD k ByteArray.empty) t < 0) ∧ Hid (∀ k, hi ≤ k → k < n → 0 ≤ cmpS (ts.getD k ByteArray.empty) t)) (fun u v => (intOf v).toNat - (intOf u).toNat)
  case atStart => exact ⟨0, n, rfl, rfl, by omega, by omega, Lib.hid (fun k h => by omega), Lib.hid (fun k h1 h2 => by omega)⟩
  case round =>
    obtain ⟨lo, hi, rfl, rfl, h1, h2, L1, L2⟩ := hrel
    by_cases hlt : lo < hi
    · obtain ⟨b, o, rfl, hc⟩ := hh.at (by omega)
      have e1 := hc ((lo + hi) / 2) (by omega)
      obtain ⟨x, hx⟩ : ∃ x, ts.getD ((lo + hi) / 2) ByteArray.empty = x := ⟨_, rfl⟩
      rw [hx] at e1
      have HX := Lib.hid hx
      clear hx hc
      obtain ⟨v, hv⟩ : ∃ v, cmpS x t = v := ⟨_, rfl⟩
      have hcmp := Lib.hid (compare_lit x t v hv w)
      have HV := Lib.hid hv
      clear hv
      by_cases hvn : v < 0
      · go_wp2_with fail
        refine hcmp.out.mono ?_
        rintro e w2 ⟨rfl, rfl⟩
        go_wp2_with fail
        go_round
        case rel =>
          refine ⟨(lo + hi) / 2 + 1, hi, by go_num, rfl, by omega, h2, Lib.hid (fun k hk => ?_), L2⟩
          by_cases hk2 : k = (lo + hi) / 2
          · subst hk2; rw [HX.out, HV.out]; exact hvn
          · have h3 := sorted_at HS.out (i := k) (j := (lo + hi) / 2) (by omega) (by omega)
            rw [HX.out] at h3
            exact cmpS_trans h3 (by rw [HV.out]; exact hvn)
        case measure => simp [intOf]; omega
      · go_wp2_with fail
        refine hcmp.out.mono ?_
        rintro e w2 ⟨rfl, rfl⟩
        go_wp2_with fail
        go_round
        case rel =>
          refine ⟨lo, (lo + hi) / 2, rfl, by go_num, by omega, by omega, L1, Lib.hid (fun k hk hk2 => Int.not_lt.1 fun h4 => ?_)⟩
          by_cases hk3 : k = (lo + hi) / 2
          · subst hk3; rw [HX.out, HV.out] at h4; omega
          · have h3 := sorted_at HS.out (i := (lo + hi) / 2) (j := k) (by omega) (by omega)
            rw [HX.out] at h3
            have h5 := cmpS_trans h3 h4
            rw [HV.out] at h5
            omega
        case measure => simp [intOf]; omega
    · obtain rfl : hi = lo := by omega
      have L3 : Hid (∀ k, hi ≤ k → k < ts.length → ¬ cmpS (ts.getD k ByteArray.empty) t < 0) := Lib.hid (fun k h3 h4 => Int.not_lt.2 (L2.out k h3 (by omega)))
      have hA := Lib.hid (atN_of ts t hi (by omega) L1.out L3.out)
      have hM := Lib.hid (mem_at_iff (t := t) HS.out L1.out L3.out)
      by_cases hlt2 : hi < n
      · obtain ⟨b, o, rfl, hc⟩ := hh.at (by omega)
        have e1 := hc hi (by omega)
        obtain ⟨x, hx⟩ : ∃ x, ts.getD hi ByteArray.empty = x := ⟨_, rfl⟩
        rw [hx] at e1
        have HX := Lib.hid hx
        clear hx hc
        obtain ⟨v, hv⟩ : ∃ v, cmpS x t = v := ⟨_, rfl⟩
        have hcmp := Lib.hid (compare_lit x t v hv w)
        have HV := Lib.hid hv
        clear hv
        have hb : Hid (decide (t ∈ ts) = (v == 0)) := Lib.hid (by
          have := hM.out
          rw [HX.out, HV.out, hl] at this
          rw [show (decide (t ∈ ts)) = decide (v = 0) by simp [this, hlt2]]
          rfl)
        go_wp2_with fail
        refine hcmp.out.mono ?_
        rintro e w2 ⟨rfl, rfl⟩
        go_wp2_with fail
        go_ret2
        exact ⟨by rw [hA.out, hb.out]; rfl, rfl⟩
      · have hb : Hid (decide (t ∈ ts) = false) := Lib.hid (by
          rw [decide_eq_false_iff_not]
          intro h
          have := (hM.out.1 h).1
          omega)
        go_wp2_with fail
        go_ret2
        exact ⟨by rw [hA.out, hb.out]; rfl, rfl⟩
theorem at_any (a : Option Addr) (n cap : Nat) (ts : List Tx) (t : Tx) (w : World) (hh : HoldsT w a n ts) (hn : n ≤ 1048576) (hs : SortedS ts) :
    Calls Try.prog 22 #[.slice a n cap, .string t] w fun e w' => e = .returned (.tuple #[.int .i64 (atN ts t), .bool (decide (t ∈ ts))]) ∧ w = w' := by
  have h1 := Lib.hid (search_any a n cap ts t w hh hn hs)
  obtain ⟨k, hk⟩ : ∃ k, atN ts t = k := ⟨_, rfl⟩
  obtain ⟨c, hc⟩ : ∃ c, decide (t ∈ ts) = c := ⟨_, rfl⟩
  rw [hk, hc] at h1 ⊢
  clear hk hc hh hs
  go_enter Try.func22, Try.ntmps22
  go_wp2_with fail
  refine h1.out.mono ?_
  rintro e w2 ⟨rfl, rfl⟩
  go_wp2_with fail
  go_ret2
  exact ⟨rfl, rfl⟩
theorem at_lit (a : Option Addr) (n cap : Nat) (ts : List Tx) (t : Tx) (b : Bool) (k : Nat) (w : World) (hh : HoldsT w a n ts) (hn : n ≤ 1048576) (hs : SortedS ts) (hb : decide (t ∈ ts) = b) (hk : atN ts t = k) :
    Calls Try.prog 22 #[.slice a n cap, .string t] w fun e w' => e = .returned (.tuple #[.int .i64 k, .bool b]) ∧ w = w' := by
  subst hb hk; exact at_any a n cap ts t w hh hn hs
end Go.Proofs.Ytieenopbkkbecaa
