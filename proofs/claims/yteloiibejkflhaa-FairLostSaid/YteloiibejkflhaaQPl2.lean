/- place: Shards, hasShard, GreatConfig, Words -/
import Derived.Test.YteloiibejkflhaaQPl1
import Derived.Test.YteloiibejkflhaaQKr4
namespace Go.Proofs.Yteloiibejkflhaa
open Go.RowKit
set_option linter.unusedVariables false
set_option maxRecDepth 20000
theorem may_parts {c : Cfg} (h : c.may = true) : goodV c.ws = 0 ∧ goodK c.ks = 0 ∧ (1 ≤ c.W ∧ c.W ≤ 5) ∧ (1 ≤ c.C ∧ c.C ≤ 3 ∧ c.C ≤ c.W) ∧ (1 ≤ c.S ∧ c.S ≤ 4) ∧ (1 ≤ c.B ∧ c.B ≤ 5) ∧ (1 ≤ c.L ∧ c.L ≤ 1000) ∧ (1 ≤ c.H ∧ c.H ≤ 1000) ∧ (1 ≤ c.F ∧ c.F ≤ 10) ∧ (c.F ≤ c.P ∧ c.P ≤ 50) ∧ (0 ≤ c.J ∧ c.J ≤ 10) ∧ (8 ≤ c.N ∧ c.N ≤ 64) := by
  unfold Cfg.may at h
  simp only [Bool.and_eq_true, decide_eq_true_eq] at h
  obtain ⟨h0, h1, h2, h3, h4, h5, h6, h7, h8, h9, h10, h11⟩ := h
  exact ⟨h0, h1, h2, ⟨h3.1, by omega, by omega⟩, h4, h5, h6, h7, h8, h9, h10, h11⟩
theorem may_kn {w : World} {c : Cfg} (h : c.may = true) (ok : CfgOk w c) : c.kn ≤ 5 := by
  have := (goodK_zero (may_parts h).2.1).1
  have := ok.2.2.2.2.2.1.len
  omega
set_option maxHeartbeats 1600000 in
theorem shards_any (c : Cfg) (w : World) (h : CfgOk w c) (hm : c.may = true) :
    Calls Try.prog 12 #[.agg #[.slice c.wa c.wn c.wc, .slice c.ka c.kn c.kc, .int .i64 c.W, .int .i64 c.C, .int .i64 c.S, .int .i64 c.B, .int .i64 c.L, .int .i64 c.H, .int .i64 c.F, .int .i64 c.P, .int .i64 c.J, .int .i64 c.N]] w fun e w' => e = .returned (.int .i64 ((c.kn + 1 : Nat) : Int)) ∧ Below w.heap.size w w' := by
  have BX := Lib.hid (below_one w (.cells #[.slice c.wa c.wn c.wc, .slice c.ka c.kn c.kc, .int .i64 c.W, .int .i64 c.C, .int .i64 c.S, .int .i64 c.B, .int .i64 c.L, .int .i64 c.H, .int .i64 c.F, .int .i64 c.P, .int .i64 c.J, .int .i64 c.N] 25))
  have IN := Lib.hid (cfgIn_new w c w.heap.size 25 (0, 0) rfl)
  have CM := Lib.hid (may_cfg c true _ (h.below BX.out) hm)
  have hk := may_kn hm h
  have hw1 : IntKind.i64.wrap ((c.kn : Int) + 1) = ((c.kn + 1 : Nat) : Int) := by rw [IntWalk.i64_in _ (by omega)]; omega
  clear h hm
  go_enter Try.func12, Try.ntmps12
  go_wp2_with fail
  refine CM.out.mono ?_
  rintro e w2 ⟨rfl, hb2⟩
  have B2 := Lib.hid (BX.out.trans (hb2.mono BX.out.size))
  have hI := IN.out.below hb2
  unfold CfgIn at hI
  obtain ⟨i0, i1, -⟩ := hI
  clear hb2 CM
  go_wp2_with fail
  go_ret
  exact ⟨rfl, B2.out⟩
set_option maxHeartbeats 1600000 in
theorem has_any (c : Cfg) (s : Int) (z : Bool) (w : World) (h : CfgOk w c) (hm : c.may = true) (hz : decide (0 ≤ s ∧ s < ((c.kn + 1 : Nat) : Int)) = z) :
    Calls Try.prog 44 #[.agg #[.slice c.wa c.wn c.wc, .slice c.ka c.kn c.kc, .int .i64 c.W, .int .i64 c.C, .int .i64 c.S, .int .i64 c.B, .int .i64 c.L, .int .i64 c.H, .int .i64 c.F, .int .i64 c.P, .int .i64 c.J, .int .i64 c.N], .int .i64 s] w fun e w' => e = .returned (.bool z) ∧ Below w.heap.size w w' := by
  have BX := Lib.hid (below_one w (.cells #[.slice c.wa c.wn c.wc, .slice c.ka c.kn c.kc, .int .i64 c.W, .int .i64 c.C, .int .i64 c.S, .int .i64 c.B, .int .i64 c.L, .int .i64 c.H, .int .i64 c.F, .int .i64 c.P, .int .i64 c.J, .int .i64 c.N] 25))
  have IN := Lib.hid (cfgIn_new w c w.heap.size 25 (0, 0) rfl)
  have CM := Lib.hid (shards_any c _ (h.below BX.out) hm)
  have BXX := BX.out
  by_cases h0 : 0 ≤ s
  · have d1 : decide (s ≥ 0) = true := decide_eq_true h0
    have d2 : decide (s < ((c.kn + 1 : Nat) : Int)) = z := by rw [← hz]; simp [h0]
    have d3 : decide (s < (c.kn : Int) + 1) = z := by rw [← d2]; congr 1
    clear h hm hz
    go_enter Try.func44, Try.ntmps44
    go_wp2_with fail
    refine CM.out.mono ?_
    rintro e w2 ⟨rfl, hb2⟩
    have B2 := Lib.hid (BX.out.trans (hb2.mono BX.out.size))
    clear hb2 CM
    go_wp2_with fail
    go_ret
    exact ⟨rfl, B2.out⟩
  · have d1 : decide (s ≥ 0) = false := decide_eq_false h0
    obtain rfl : z = false := by rw [← hz]; exact decide_eq_false (fun h => h0 h.1)
    clear h hm hz
    go_enter Try.func44, Try.ntmps44
    go_wp2_with fail
    go_ret
    exact ⟨rfl, BX.out⟩
def GreatC (w : World) (e : Ending) (w' : World) : Prop := ∃ z, e = .returned (.bool z) ∧ Below w.heap.size w w'
set_option maxHeartbeats 1600000 in
theorem greatC_any (c : Cfg) (w : World) (h : CfgOk w c) :
    Calls Try.prog 6 #[.agg #[.slice c.wa c.wn c.wc, .slice c.ka c.kn c.kc, .int .i64 c.W, .int .i64 c.C, .int .i64 c.S, .int .i64 c.B, .int .i64 c.L, .int .i64 c.H, .int .i64 c.F, .int .i64 c.P, .int .i64 c.J, .int .i64 c.N]] w (GreatC w) := by
  have BX := Lib.hid (below_one w (.cells #[.slice c.wa c.wn c.wc, .slice c.ka c.kn c.kc, .int .i64 c.W, .int .i64 c.C, .int .i64 c.S, .int .i64 c.B, .int .i64 c.L, .int .i64 c.H, .int .i64 c.F, .int .i64 c.P, .int .i64 c.J, .int .i64 c.N] 25))
  have IN := Lib.hid (cfgIn_new w c w.heap.size 25 (0, 0) rfl)
  have OK := Lib.hid (h.below BX.out)
  clear h
  go_enter Try.func6, Try.ntmps6
  go_upto_region 2 with fail
  have BE := Lib.hid BX.out
  generalize w.alloc (.cells #[.slice c.wa c.wn c.wc, .slice c.ka c.kn c.kc, .int .i64 c.W, .int .i64 c.C, .int .i64 c.S, .int .i64 c.B, .int .i64 c.L, .int .i64 c.H, .int .i64 c.F, .int .i64 c.P, .int .i64 c.J, .int .i64 c.N] 25) = w1 at *
  obtain ⟨p, hp⟩ : ∃ p, w.heap.size = p := ⟨_, rfl⟩
  rw [hp] at IN
  rw [hp]
  obtain ⟨i0, i1, -⟩ := IN.out
  clear hp
  have hl := OK.out.2.2.2.2.2.1.len
  by_cases h10 : c.kn ≤ 10
  · have d1 : decide (c.kn ≤ 10) = true := decide_eq_true h10
    have d2 : decide ((c.kn : Int) > 10) = false := decide_eq_false (by omega)
    have d3 : decide (10 < c.kn) = false := decide_eq_false (by omega)
    go_loop [3] (fun iv => ∃ i : Nat, i ≤ c.kn ∧ iv = .int .i64 i) (fun iv => c.kn - (intOf iv).toNat)
    case atStart => exact ⟨0, by omega, rfl⟩
    case round =>
      obtain ⟨i, hi, rfl⟩ := hrel
      by_cases hlt : i < c.kn
      · obtain ⟨kb, ko, hka, hc⟩ := OK.out.2.2.2.2.2.1.2 (by omega)
        have e2 := (hc i hlt).2
        obtain ⟨x, hx⟩ : ∃ x, (c.ks.getD i k0).2 = x := ⟨_, rfl⟩
        rw [hx] at e2
        rw [hka] at i1
        clear hc hx
        by_cases hbig : 100 < x.size
        · have c2 : decide (100 < x.size) = true := decide_eq_true hbig
          have c3 : decide ((x.size : Int) > 100) = true := decide_eq_true (by omega)
          go_wp2_with fail
          go_ret
          exact ⟨true, rfl, BE.out⟩
        · have c2 : decide (100 < x.size) = false := decide_eq_false hbig
          have c3 : decide ((x.size : Int) > 100) = false := decide_eq_false (by omega)
          go_wp2_with fail
          go_round
          case rel => exact ⟨i + 1, by omega, by go_num⟩
          case measure => simp [intOf]; omega
      · obtain rfl : i = c.kn := by omega
        go_wp2_with fail
        refine (great_any c.wa c.wn c.wc c.ws _ OK.out.1 OK.out.2.2.2.1 OK.out.2.2.2.2.1).mono ?_
        generalize greatB c.ws = z
        rintro e w2 ⟨rfl, hb2⟩
        have j1 := (hb2.cell (p := ⟨p, 1, none⟩) (lt_of_cell i1)).trans i1
        have B2 := Lib.hid (BE.out.trans (hb2.mono BE.out.size))
        clear hb2
        cases z
        · go_wp2_with fail
          go_ret
          exact ⟨_, rfl, B2.out⟩
        · go_wp2_with fail
          go_ret
          exact ⟨_, rfl, B2.out⟩
  · have d1 : decide (c.kn ≤ 10) = false := decide_eq_false h10
    have d2 : decide ((c.kn : Int) > 10) = true := decide_eq_true (by omega)
    have d3 : decide (10 < c.kn) = true := decide_eq_true (by omega)
    have d4 : decide (0 < c.kn) = true := decide_eq_true (by omega)
    go_loop [3] (fun iv => iv = .int .i64 ((0 : Nat) : Int)) (fun _ => 0)
    case atStart => exact rfl
    case round =>
      obtain rfl := hrel
      go_wp2_with fail
      refine (great_any c.wa c.wn c.wc c.ws _ OK.out.1 OK.out.2.2.2.1 OK.out.2.2.2.2.1).mono ?_
      generalize greatB c.ws = z
      rintro e w2 ⟨rfl, hb2⟩
      have j1 := (hb2.cell (p := ⟨p, 1, none⟩) (lt_of_cell i1)).trans i1
      have B2 := Lib.hid (BE.out.trans (hb2.mono BE.out.size))
      clear hb2
      cases z
      · go_wp2_with fail
        go_ret
        exact ⟨_, rfl, B2.out⟩
      · go_wp2_with fail
        go_ret
        exact ⟨_, rfl, B2.out⟩
end Go.Proofs.Yteloiibejkflhaa
