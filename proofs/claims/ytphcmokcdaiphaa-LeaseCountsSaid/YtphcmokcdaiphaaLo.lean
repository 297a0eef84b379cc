/- leases: how many lives were told -/
import Derived.Test.YtphcmokcdaiphaaLn
namespace Go.Proofs.Ytphcmokcdaiphaa
open Go.RowKit
set_option linter.unusedVariables false
theorem idx_lit : idx 1 = 0 ∧ idx 2 = 1 ∧ idx 3 = 2 ∧ idx 4 = 3 ∧ idx 5 = 4 := by decide
/-- what LeaseCounts keeps from round to round -/
structure Cnt (w : World) (b : Nat) (s : Lt) (n m : Int) (w' : World) : Prop where
  g : Good s
  tab : Tab w' b s
  bel : Below w.heap.size w w'
  hn : n = s.E 3
  hm : m = s.L 3
  h0 : s.E 4 = 0
  hN : s.N = 5
theorem Cnt.step_lt {w w' w2 : World} {b : Nat} {s : Lt} {n m f t : Int} (h : Cnt w b s n m w') (ha : helloArg s 4 f t) (hl : f < m) (ht : Then b w' (helloS s 4 f t) w2) (hb : w.heap.size ≤ b) :
    helloE s 4 f t = 0 ∧ helloN s 4 f t = 4 ∧ Cnt w b (helloS s 4 f t) n m w2 := by
  have hl' := h.hm ▸ hl
  obtain ⟨e1, e2, e3⟩ := hello_lt ha (by rw [idx_lit.2.2.2.1]; exact hl')
  refine ⟨e1, e2, ?_⟩
  rw [e3] at ht ⊢
  exact ⟨h.g, ht.1, h.bel.trans (ht.2.below hb h.bel.size), h.hn, h.hm, h.h0, h.hN⟩
theorem Cnt.step_eq {w w' w2 : World} {b : Nat} {s : Lt} {n m f t : Int} (h : Cnt w b s n m w') (ha : helloArg s 4 f t) (hl : m = f) (ht : Then b w' (helloS s 4 f t) w2) (hb : w.heap.size ≤ b) :
    helloE s 4 f t = n ∧ helloN s 4 f t = 0 ∧ Cnt w b (helloS s 4 f t) n m w2 := by
  have hl' := h.hm ▸ hl
  obtain ⟨e1, e2, e3, e4, e5, e6, e7⟩ := hello_eq ha (by rw [idx_lit.2.2.2.1]; exact hl')
  refine ⟨by rw [e1, idx_lit.2.2.2.1, h.hn], e2, hello_good h.g _ _ _, ht.1, h.bel.trans (ht.2.below hb h.bel.size), by rw [e3]; exact h.hn, by rw [e4]; exact h.hm, by rw [e3]; exact h.h0, by rw [e5]; exact h.hN⟩
theorem Cnt.step_gt {w w' w2 : World} {b : Nat} {s : Lt} {n m f t : Int} (h : Cnt w b s n m w') (ha : helloArg s 4 f t) (hl : m < f) (ht : Then b w' (helloS s 4 f t) w2) (hb : w.heap.size ≤ b) :
    helloE s 4 f t = n + 1 ∧ helloN s 4 f t = 0 ∧ Cnt w b (helloS s 4 f t) (n + 1) f w2 := by
  have hl' := h.hm ▸ hl
  obtain ⟨e1, e2, e3, e4, e5, e6, e7⟩ := hello_gt ha (by rw [idx_lit.2.2.2.1]; exact hl')
  refine ⟨by rw [e1, idx_lit.2.2.2.1, h.hn], e2, hello_good h.g _ _ _, ht.1, h.bel.trans (ht.2.below hb h.bel.size), by rw [e3, idx_lit.2.2.2.1, upd_at, h.hn], by rw [e4, idx_lit.2.2.2.1, upd_at], by rw [e3, idx_lit.2.2.2.1, upd_ne _ _ _ _ (by omega)]; exact h.h0, by rw [e5]; exact h.hN⟩
theorem Cnt.arg {w w' : World} {b : Nat} {s : Lt} {n m f t : Int} (h : Cnt w b s n m w') (hf : 1 ≤ f ∧ f ≤ 20) (ht : 0 ≤ t ∧ t ≤ 2000) : helloArg s 4 f t := by
  have := h.hN
  unfold helloArg worker lived timed; omega
theorem Cnt.bd {w w' : World} {b : Nat} {s : Lt} {n m : Int} (h : Cnt w b s n m w') : 0 ≤ n ∧ n ≤ m ∧ m ≤ 2147483647 := by
  have h1 := h.g.e 3; have h2 := h.g.l 3; have := h.hn; have := h.hm; omega
set_option maxHeartbeats 3200000 in
theorem leaseCounts_any (zs : List Int) (a : Option Addr) (ca : Nat) (now : Int) (w : World) (hh : HoldsI .i64 w a zs.length zs) (hl63 : zs.length ≤ 9223372036854775807) :
    Calls Try.prog 8 #[.slice a zs.length ca, .int .i64 now] w fun e w' => e = .returned (.bool true) ∧ Below w.heap.size w w' := by
  obtain ⟨m, hm⟩ : ∃ m, zs.length = m := ⟨_, rfl⟩
  rw [hm] at hh hl63 ⊢
  have HH := Lib.hid hh
  clear hh hm
  by_cases hlong : 60 < m
  · go_enter Try.func8, Try.ntmps8
    go_wp2_with fail
    refine (awake_any _).mono ?_
    rintro e w' ⟨rfl, hb⟩
    go_wp2_with fail
    go_ret
    exact ⟨rfl, hb⟩
  have hm60 : m ≤ 60 := by omega
  have HN := Lib.hid (show (1 ≤ (5 : Int) ∧ (5 : Int) ≤ 5) ∧ 1 ≤ (9 : Int) ∧ (9 : Int) ≤ 1000 by omega)
  clear hlong
  go_enter Try.func8, Try.ntmps8
  go_wp2_with fail
  refine (new_good 5 9 _ HN.out).mono ?_
  rintro e w0 ⟨rfl, hw0⟩
  have T0 := Lib.hid (hw0 ▸ new_is_tab w 5 9 _)
  have L0 := Lib.hid (show Below w.heap.size w w0 from hw0 ▸ below_one w _)
  have C0 : Hid (Cnt w w.heap.size (newS 5 9) 0 0 w0) := Lib.hid ⟨new_is_good HN.out, T0.out, L0.out, rfl, rfl, rfl, rfl⟩
  clear hw0
  go_wp2_with fail
  obtain ⟨b, hb⟩ : ∃ b, w.heap.size = b := ⟨_, rfl⟩
  have HB := Lib.hid hb
  rw [hb] at C0
  simp only [hb]
  clear T0 L0 hb
  go_loopw [7, 8, 9] (fun n q i wr => ∃ (j : Nat) (n' q' : Int) (s : Lt), j ≤ m ∧ i = .int .i64 j ∧ n = .int .i64 n' ∧ q = .int .i64 q' ∧ Hid (Cnt w b s n' q' wr)) (fun _ _ i _ => m - (intOf i).toNat)
  case atStart => exact ⟨0, 0, 0, _, by omega, rfl, rfl, rfl, C0⟩
  case round =>
    obtain ⟨j, n', q', s, hj, rfl, rfl, rfl, hC⟩ := hrel
    by_cases hlt : j < m
    · obtain ⟨ab, ao, rfl, hcell⟩ := (HH.out.below (w' := wr) hC.out.bel).2 (by omega)
      have hc := hcell j hlt
      clear hcell
      obtain ⟨x, hx⟩ : ∃ x, zs.getD j 0 = x := ⟨_, rfl⟩
      rw [hx] at hc
      clear hx
      have hbd := hC.out.bd
      have hlow := low_bd x 20 (by omega)
      have hlown := low_bd now 1000 (by omega)
      have ha := Lib.hid (hC.out.arg (f := 1 + lowV x 20) (t := lowV now 1000 + j) (by omega) (by omega))
      obtain ⟨f, hf⟩ : ∃ f, 1 + lowV x 20 = f := ⟨_, rfl⟩
      obtain ⟨t, ht⟩ : ∃ t, lowV now 1000 + (j : Int) = t := ⟨_, rfl⟩
      have hfw : IntKind.i64.wrap (1 + lowV x 20) = f := by rw [IntWalk.i64_in _ (by omega)]; exact hf
      have htw : IntKind.i64.wrap (lowV now 1000 + (j : Int)) = t := by rw [IntWalk.i64_in _ (by omega)]; exact ht
      rw [hf, ht] at ha
      have hfb : 1 ≤ f ∧ f ≤ 20 := by omega
      clear hf ht hlow hlown
      go_wp2_with fail
      refine (low_any x 20 (by omega) (by omega) _).mono ?_
      rintro e w' ⟨rfl, rfl⟩
      go_wp2_with fail
      refine (low_any now 1000 (by omega) (by omega) _).mono ?_
      rintro e w' ⟨rfl, rfl⟩
      go_wp2_with fail
      refine (hello_any b 4 f t _ hC.out.tab hC.out.g).mono ?_
      rintro e w2 ⟨rfl, hT⟩
      rcases Int.lt_trichotomy f q' with h1 | h1 | h1
      · obtain ⟨e1, e2, hC2⟩ := hC.out.step_lt ha.out h1 hT (Nat.le_of_eq HB.out)
        rw [e1, e2]
        have HC2 := Lib.hid hC2
        clear e1 e2 hC2 hT
        go_wp2_with fail
        go_roundw
        case rel => exact ⟨j + 1, n', q', _, by omega, by go_num, rfl, rfl, HC2⟩
        case measure => simp [intOf]; omega
      · obtain ⟨e1, e2, hC2⟩ := hC.out.step_eq ha.out h1.symm hT (Nat.le_of_eq HB.out)
        rw [e1, e2]
        have HC2 := Lib.hid hC2
        have x1 : (n' != n') = false := by simp
        clear e1 e2 hC2 hT
        go_wp2_with fail
        go_roundw
        case rel => exact ⟨j + 1, n', q', _, by omega, by go_num, rfl, by first | rfl | rw [h1], HC2⟩
        case measure => simp [intOf]; omega
      · obtain ⟨e1, e2, hC2⟩ := hC.out.step_gt ha.out h1 hT (Nat.le_of_eq HB.out)
        rw [e1, e2]
        have HC2 := Lib.hid hC2
        have x1 : (n' + 1 != n' + 1) = false := by simp
        clear e1 e2 hC2 hT
        go_wp2_with fail
        go_roundw
        case rel => exact ⟨j + 1, n' + 1, f, _, by omega, by go_num, rfl, rfl, HC2⟩
        case measure => simp [intOf]; omega
    · have hw4 : worker s 4 := by have := hC.out.hN; unfold worker; omega
      have hw5 : worker s 5 := by have := hC.out.hN; unfold worker; omega
      have e4 : epochS s 4 = n' := by unfold epochS; rw [if_pos hw4, idx_lit.2.2.2.1, hC.out.hn]
      have l4 : lifeS s 4 = q' := by unfold lifeS; rw [if_pos hw4, idx_lit.2.2.2.1, hC.out.hm]
      have e5 : epochS s 5 = 0 := by unfold epochS; rw [if_pos hw5, idx_lit.2.2.2.2, hC.out.h0]
      have c1 := epoch_any b 4 wr hC.out.tab hC.out.g
      have c2 := life_any b 4 wr hC.out.tab hC.out.g
      have c3 := epoch_any b 5 wr hC.out.tab hC.out.g
      rw [e4] at c1; rw [l4] at c2; rw [e5] at c3
      have C1 := Lib.hid c1; have C2 := Lib.hid c2; have C3 := Lib.hid c3
      have x1 : (n' == n') = true := by simp
      have x2 : (q' == q') = true := by simp
      clear c1 c2 c3 e4 l4 e5 hw4 hw5
      go_wp2_with fail
      refine C1.out.mono ?_
      rintro e w' ⟨rfl, rfl⟩
      go_wp2_with fail
      refine C2.out.mono ?_
      rintro e w' ⟨rfl, rfl⟩
      go_wp2_with fail
      refine C3.out.mono ?_
      rintro e w' ⟨rfl, rfl⟩
      go_wp2_with fail
      refine (awake_any _).mono ?_
      rintro e w' ⟨rfl, hb⟩
      go_wp2_with fail
      go_ret
      exact ⟨rfl, hC.out.bel.trans (hb.mono hC.out.bel.size)⟩
open Go.ChangeShapes Go.WideShapes Go.ChangeAt in
theorem leaseCounts_walk {H : Type} {enc : TypeId × Value → H} (W : World) (base : Nat) (v0 v1 : Value) (d0 d1 : DataW H) (p0 p1 : List MemPlace)
    (h0 : DataW.Trod enc Try.prog W 0 (fun _ => true) true 49 v0 d0 p0) (h1 : DataW.Trod enc Try.prog W 0 (fun _ => true) true 3 v1 d1 p1)
    (o0 : Value.okWide Try.prog W .any base 49 v0) (o1 : Value.okWide Try.prog W .any base 3 v1) :
    Calls Try.prog 8 #[v0, v1] W fun e w' => e = .returned (.bool true) ∧ RowKit.Below W.heap.size W w' := by
  obtain ⟨a, n, cap, zs, rfl, hh, hnil, k1, k2, hw⟩ := open_ints_arg Try.underlying49 Try.underlying3 cells_int o0 h0
  obtain ⟨t, rfl, rfl, rfl, _⟩ := open_int Try.underlying3 o1 h1
  have hl := hh.len
  subst hl
  exact leaseCounts_any zs a cap t W hh (by unfold maxLen at k2; omega)
end Go.Proofs.Ytphcmokcdaiphaa
