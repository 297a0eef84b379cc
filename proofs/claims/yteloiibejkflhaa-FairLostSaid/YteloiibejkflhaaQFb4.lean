/- layer 27: great; records as an argument (by gen/fb4.py) -/
import Derived.Test.YteloiibejkflhaaQFa6
import Derived.Test.YteloiibejkflhaaQPl2
namespace Go.Proofs.Yteloiibejkflhaa
open Go.RowKit
set_option linter.unusedVariables false
set_option maxRecDepth 20000
theorem open_recs_cap {H : Type} {enc : TypeId × Value → H} {W : World} {base : Nat} {v : Value} {d : DataW H} {p : List MemPlace}
    (o : Value.okWide Try.prog W .any base 32 v) (h : DataW.Trod enc Try.prog W 0 (fun _ => true) true 32 v d p) :
    ∃ (a : Option Addr) (n cap : Nat) (xs : List RecP), v = .slice a n cap ∧ HoldsRc W a n xs ∧ (a = none → n = 0 ∧ cap = 0) ∧ n ≤ cap ∧ cap ≤ maxLen := by
  obtain ⟨a, n, cap, xs, e, h1, h2, -⟩ := open_recs_arg o h
  obtain ⟨a', n', cap', R, e', -, h3, h4, -⟩ := open_rows_arg Try.underlying32 cellsTr (by omega) (fun cs => ∃ x : RecP, RecOk W x ∧ cs = recCells x) (fun _ _ _ h => rec_of h) o h
  rw [e] at e'
  injection e' with e1 e2 e3
  subst e1 e2 e3
  exact ⟨a, n, cap, xs, e, h1, h2, h3, h4⟩
def Great27 (n gn : Nat) (xs : List RecP) (w : World) (e : Ending) (w' : World) : Prop := ∃ z, e = .returned (.bool z) ∧ Below w.heap.size w w' ∧ (z = false → n ≤ 300 ∧ gn ≤ 10 ∧ ∀ x ∈ xs, x.sn ≤ 20 ∧ x.ln ≤ 20)
set_option maxHeartbeats 3200000 in
set_option maxRecDepth 100000 in
theorem great27_any (c : Cfg) (a : Option Addr) (n cap : Nat) (xs : List RecP) (ga : Option Addr) (gn gc : Nat) (w : World) (hc : CfgOk w c) (h : HoldsRc w a n xs) (hn : n ≤ 9223372036854775807) (hgn : gn ≤ 9223372036854775807) : Calls Try.prog 13 #[.agg #[.slice c.wa c.wn c.wc, .slice c.ka c.kn c.kc, .int .i64 c.W, .int .i64 c.C, .int .i64 c.S, .int .i64 c.B, .int .i64 c.L, .int .i64 c.H, .int .i64 c.F, .int .i64 c.P, .int .i64 c.J, .int .i64 c.N], .slice a n cap, .slice ga gn gc] w (Great27 n gn xs w) := by
  have BX := Lib.hid (below_one w (.cells #[.slice c.wa c.wn c.wc, .slice c.ka c.kn c.kc, .int .i64 c.W, .int .i64 c.C, .int .i64 c.S, .int .i64 c.B, .int .i64 c.L, .int .i64 c.H, .int .i64 c.F, .int .i64 c.P, .int .i64 c.J, .int .i64 c.N] 25))
  have IN := cfgIn_new w c w.heap.size 25 (0, 0) rfl
  obtain ⟨w1, hw1⟩ : ∃ w1, w.alloc (.cells #[.slice c.wa c.wn c.wc, .slice c.ka c.kn c.kc, .int .i64 c.W, .int .i64 c.C, .int .i64 c.S, .int .i64 c.B, .int .i64 c.L, .int .i64 c.H, .int .i64 c.F, .int .i64 c.P, .int .i64 c.J, .int .i64 c.N] 25) = w1 := ⟨_, rfl⟩
  obtain ⟨p, hp⟩ : ∃ p, w.heap.size = p := ⟨_, rfl⟩
  rw [hw1] at BX
  rw [hw1, hp] at IN
  have H := Lib.hid (h.below BX.out)
  have HN := Lib.hid h.len
  have CG := Lib.hid (greatC_any c w1 (hc.below BX.out))
  unfold GreatC at CG
  unfold CfgIn at IN
  obtain ⟨i0, i1, i2, i3, i4, i5, i6, i7, i8, i9, i10, i11⟩ := IN
  have HP := Lib.hid hp
  clear h hc
  go_enter Try.func13, Try.ntmps13
  go_upto_region 1 with fail
  try rw [hw1]
  try rw [hp]
  clear hw1 hp
  by_cases h100 : n ≤ 300
  · have d1 : decide ((n : Int) ≤ 300) = true := decide_eq_true (by omega)
    have d1' : decide (n ≤ 300) = true := decide_eq_true h100
    have d2 : decide ((n : Int) > 300) = false := by simp; omega
    have d3 : decide (300 < n) = false := by simp; omega
    go_wp2_with fail
    go_loop [7] (fun iv => ∃ i : Nat, i ≤ n ∧ iv = .int .i64 i ∧ Hid (∀ k, k < i → (xs.getD k r0).sn ≤ 20 ∧ (xs.getD k r0).ln ≤ 20)) (fun iv => n - (intOf iv).toNat)
    case atStart => exact ⟨0, by omega, rfl, Lib.hid (fun k hk => by omega)⟩
    case round =>
      obtain ⟨i, hi, rfl, hA⟩ := hrel
      by_cases hlt : i < n
      · obtain ⟨b, o, rfl, hc⟩ := H.out.at_ (by omega)
        have ha := hc i hlt
        obtain ⟨x, hxx⟩ : ∃ x, xs.getD i r0 = x := ⟨_, rfl⟩
        have hok := H.out.ok _ (getD_memR (show i < xs.length by rw [HN.out]; exact hlt))
        rw [hxx] at ha hok
        obtain ⟨-, -, -, -, -, -, -, -, -, a9, -, a11⟩ := ha
        have HXX := Lib.hid hxx
        have q1 : (0 : Int) ≤ (i : Int) := by omega
        have q2 : (i : Int) < (n : Int) := by omega
        have b1 := hok.sn
        have b2 := hok.ln
        clear hc hxx hok
        by_cases hs : 20 < x.sn
        · have e1 : decide ((x.sn : Int) > 20) = true := decide_eq_true (by omega)
          have e1' : decide (20 < x.sn) = true := decide_eq_true hs
          clear hs
          go_wp2_with fail
          go_ret
          exact ⟨true, rfl, BX.out, fun h => by cases h⟩
        · have e1 : decide ((x.sn : Int) > 20) = false := decide_eq_false (by omega)
          have e1' : decide (20 < x.sn) = false := decide_eq_false hs
          by_cases hl : 20 < x.ln
          · have e2 : decide ((x.ln : Int) > 20) = true := decide_eq_true (by omega)
            have e2' : decide (20 < x.ln) = true := decide_eq_true hl
            clear hs hl
            go_wp2_with fail
            go_ret
            exact ⟨true, rfl, BX.out, fun h => by cases h⟩
          · have e2 : decide ((x.ln : Int) > 20) = false := decide_eq_false (by omega)
            have e2' : decide (20 < x.ln) = false := decide_eq_false hl
            have HA := Lib.hid (show ∀ k, k < i + 1 → (xs.getD k r0).sn ≤ 20 ∧ (xs.getD k r0).ln ≤ 20 from fun k hk => by
              by_cases e : k = i
              · subst e; rw [HXX.out]; omega
              · exact hA.out k (by omega))
            clear hs hl
            go_wp2_with fail
            go_round
            case rel => exact ⟨i + 1, by omega, by go_num, HA⟩
            case measure => simp [intOf]; omega
      · obtain rfl : i = n := by omega
        have FF := Lib.hid (show ∀ x ∈ xs, x.sn ≤ 20 ∧ x.ln ≤ 20 from fun x hx => by
          obtain ⟨k, hk, rfl⟩ := List.mem_iff_getElem.1 hx
          have := hA.out k (by rw [← HN.out]; exact hk)
          rw [List.getD_eq_getElem?_getD, List.getElem?_eq_getElem hk] at this
          exact this)
        go_wp2_with fail
        refine CG.out.mono ?_
        rintro e w2 ⟨z0, rfl, hb2⟩
        have B2 := Lib.hid (BX.out.trans (hb2.mono BX.out.size))
        cases z0
        case true =>
          go_wp2_with fail
          go_ret
          exact ⟨true, rfl, B2.out, fun h => by cases h⟩
        case false =>
          by_cases hg10 : 10 < gn
          · have g1 : decide ((gn : Int) > 10) = true := decide_eq_true (by omega)
            have g1' : decide (10 < gn) = true := decide_eq_true hg10
            clear hg10
            go_wp2_with fail
            go_ret
            exact ⟨true, rfl, B2.out, fun h => by cases h⟩
          · have g1 : decide ((gn : Int) > 10) = false := decide_eq_false (by omega)
            have g1' : decide (10 < gn) = false := decide_eq_false hg10
            have G10 := Lib.hid (show gn ≤ 10 by omega)
            clear hg10
            go_wp2_with fail
            go_ret
            exact ⟨false, rfl, B2.out, fun _ => ⟨h100, G10.out, FF.out⟩⟩
  · have d1 : decide ((n : Int) ≤ 300) = false := decide_eq_false (by omega)
    have d1' : decide (n ≤ 300) = false := decide_eq_false h100
    have d2 : decide ((n : Int) > 300) = true := by simp; omega
    have d3 : decide (300 < n) = true := by simp; omega
    go_wp2_with fail
    go_loop [7] (fun iv => iv = .int .i64 ((0 : Nat) : Int)) (fun _ => 0)
    case atStart => exact rfl
    case round =>
      obtain rfl := hrel
      have hn0 : (0 : Int) < (n : Int) := by omega
      have hn0' : 0 < n := by omega
      go_wp2_with fail
      refine CG.out.mono ?_
      rintro e w2 ⟨z0, rfl, hb2⟩
      have B2 := Lib.hid (BX.out.trans (hb2.mono BX.out.size))
      cases z0
      all_goals
        go_wp2_with fail
        go_ret
        exact ⟨true, rfl, B2.out, fun h => by cases h⟩
end Go.Proofs.Yteloiibejkflhaa
