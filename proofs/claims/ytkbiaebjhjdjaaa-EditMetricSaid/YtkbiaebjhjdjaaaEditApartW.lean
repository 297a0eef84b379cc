/- the law of lists that have no rune together -/
import Derived.Test.YtkbiaebjhjdjaaaEd5
import Derived.Test.YtkbiaebjhjdjaaaEdA
import Derived.Test.YtkbiaebjhjdjaaaOp
import Derived.Deep.QuietTactic
import Derived.BigQuiet
namespace Go.Proofs.Ytkbiaebjhjdjaaa
open Go.RowKit
set_option linter.unusedVariables false
theorem Try.cellsI32 : Try.prog.cellsOf 21 = 1 := by kernel_rfl
theorem open_runes_arg {H : Type} {enc : TypeId × Value → H} {W : World} {base : Nat} {v : Value} {d : DataW H} {p : List MemPlace}
    (o : Value.okWide Try.prog W .any base 39 v) (h : DataW.Trod enc Try.prog W 0 (fun _ => true) true 39 v d p) :
    ∃ a zs cap, v = .slice a zs.length cap ∧ HoldsI .i32 W a zs.length zs ∧ (a = none → zs.length = 0 ∧ cap = 0) ∧ zs.length ≤ cap ∧ cap ≤ maxLen ∧ ∀ z ∈ zs, -2147483648 ≤ z ∧ z ≤ 2147483647 := by
  obtain ⟨a, n, cap, zs, rfl, hh, hnil, h1, h2, hw⟩ := open_ints_arg Try.underlying39 Try.underlying21 Try.cellsI32 o h
  have hl := hh.len
  subst hl
  exact ⟨a, zs, cap, rfl, hh, hnil, h1, h2, fun z hz => i32_of_wf (hw z hz)⟩
set_option maxHeartbeats 3200000 in
theorem editApart_any (ra rb : List Int) (a b : Option Addr) (ca cb : Nat) (w : World) (ha : HoldsI .i32 w a ra.length ra) (hb : HoldsI .i32 w b rb.length rb) (h63 : ra.length ≤ 9223372036854775807) (h64 : rb.length ≤ 9223372036854775807) :
    Calls Try.prog 13 #[.slice a ra.length ca, .slice b rb.length cb] w fun e w' => e = .returned (.bool true) ∧ Below w.heap.size w w' := by
  by_cases hlong : 30 < ra.length ∨ 30 < rb.length
  · have hd := long_any ra.length ca rb.length cb a b w h63 h64
    rw [decide_eq_true hlong] at hd
    have HD := Lib.hid hd
    clear hd hlong ha hb h63 h64
    obtain ⟨m, hm⟩ : ∃ m, ra.length = m := ⟨_, rfl⟩
    obtain ⟨n, hn⟩ : ∃ n, rb.length = n := ⟨_, rfl⟩
    rw [hm, hn] at HD ⊢
    clear hm hn
    go_enter Try.func13, Try.ntmps13
    go_wp2_with fail
    refine HD.out.mono ?_
    rintro e w' ⟨rfl, rfl⟩
    go_wp2_with fail
    refine (awake_any _).mono ?_
    rintro e w' ⟨rfl, hb3⟩
    go_wp2_with fail
    go_ret
    exact ⟨rfl, hb3⟩
  · have hla : ra.length ≤ 30 := by omega
    have hlb : rb.length ≤ 30 := by omega
    have hd := long_any ra.length ca rb.length cb a b w h63 h64
    rw [decide_eq_false hlong] at hd
    have hruns := fun W (h : Below w.heap.size w W) => eruns_any ra rb a b ca cb W (ha.below h) (hb.below h) (by omega) (by omega)
    have hruns1 := fun W (h : Below w.heap.size w W) => eruns_any ra [] a none ca 0 W (ha.below h) (holdsI_nil .i32 W none) (by omega) (by simp)
    have hruns2 := fun W (h : Below w.heap.size w W) => eruns_any [] rb none b 0 cb W (holdsI_nil .i32 W none) (hb.below h) (by simp) (by omega)
    simp only [List.length_nil, Ed.L_zero] at hruns1
    simp only [List.length_nil, Ed.L_zeroL] at hruns2
    have hapart := Ed.L_apart ra rb
    have hmeet := Ed.L_meet ra rb
    have hLb := Ed.L_bd ra rb ra.length rb.length
    obtain ⟨D, hD⟩ : ∃ D, Ed.L ra rb ra.length rb.length = D := ⟨_, rfl⟩
    have hap2 : (∀ i j, i < ra.length → j < rb.length → ra.getD i 0 ≠ rb.getD j 0) → D = ((max ra.length rb.length : Nat) : Int) := fun h => by rw [← hD]; exact hapart h _ _ (Nat.le_refl _) (Nat.le_refl _)
    rw [hD] at hruns hmeet hLb
    clear hapart hD
    obtain ⟨m, hm⟩ : ∃ m, ra.length = m := ⟨_, rfl⟩
    obtain ⟨n, hn⟩ : ∃ n, rb.length = n := ⟨_, rfl⟩
    simp only [hm, hn] at hd hruns hruns1 hruns2 hmeet hap2 hLb hla hlb ha hb ⊢
    have HD := Lib.hid hd; have HR := Lib.hid hruns; have HR1 := Lib.hid hruns1; have HR2 := Lib.hid hruns2; have HME := Lib.hid hmeet; have HAP := Lib.hid hap2; have HA := Lib.hid ha; have HB := Lib.hid hb; have HL := Lib.hid hLb
    clear hd hruns hruns1 hruns2 hmeet hap2 hLb ha hb hlong hm hn h63 h64
    go_enter Try.func13, Try.ntmps13
    go_wp2_with fail
    refine HD.out.mono ?_
    rintro e w' ⟨rfl, rfl⟩
    go_wp2_with fail
    go_loopw [5] (fun i wr => ∃ k q : Nat, k ≤ m ∧ i = .int .i64 k ∧ Hid (∀ i j, i < k → j < n → ra.getD i 0 ≠ rb.getD j 0) ∧ wr = w.drewN q) (fun i _ => m - (intOf i).toNat)
    case atStart => exact ⟨0, 0, by omega, rfl, Lib.hid (fun i j h => absurd h (by omega)), rfl⟩
    case round =>
      obtain ⟨k, q, hk, rfl, hP, rfl⟩ := hrel
      by_cases hlt : k < m
      · obtain ⟨ba, oa, rfl, hca⟩ := HA.out.at (by omega)
        have e1 := hca k hlt
        clear hca
        obtain ⟨x, hx⟩ : ∃ x, ra.getD k 0 = x := ⟨_, rfl⟩
        rw [hx] at e1
        have HX := Lib.hid hx
        clear hx
        go_wp2_with fail
        go_loopw [6] (fun i wr => ∃ l q : Nat, l ≤ n ∧ i = .int .i64 l ∧ Hid (∀ j, j < l → x ≠ rb.getD j 0) ∧ wr = w.drewN q) (fun i _ => n - (intOf i).toNat)
        case atStart => exact ⟨0, q, by omega, rfl, Lib.hid (fun j h => absurd h (by omega)), rfl⟩
        case round =>
          obtain ⟨l, q2, hl, rfl, hQ, rfl⟩ := hrel
          by_cases hlt2 : l < n
          · obtain ⟨bb, ob, rfl, hcb⟩ := HB.out.at (by omega)
            have e2 := hcb l hlt2
            clear hcb
            obtain ⟨y, hy⟩ : ∃ y, rb.getD l 0 = y := ⟨_, rfl⟩
            rw [hy] at e2
            have HY := Lib.hid hy
            clear hy
            by_cases hxy : x = y
            · subst hxy
              have hm2 := HME.out k l hlt hlt2 (by rw [HX.out, HY.out])
              have hl0 := HL.out
              go_wp2_with fail
              go_quiet (fail)
              go_wp2_with fail
              refine (HR.out _ (below_drewN w _)).mono ?_
              rintro e w3 ⟨rfl, hb3⟩
              have e3 : decide (D < (m : Int) + (n : Int)) = true := by simpa using hm2
              go_wp2_with fail
              refine (awake_any _).mono ?_
              rintro e w4 ⟨rfl, hb4⟩
              go_wp2_with fail
              go_ret
              have f1 : Below w.heap.size w w3 := (below_drewN w _).trans (hb3.mono (below_drewN w _).size)
              exact ⟨rfl, f1.trans (hb4.mono f1.size)⟩
            · have hbf : (x == y) = false := by simpa using hxy
              have HXY := Lib.hid hxy
              clear hxy
              go_wp2_with fail
              go_quiet (fail)
              go_wp2_with fail
              go_roundw
              case rel => exact ⟨l + 1, _, by omega, by go_num, Lib.hid (fun j h => by rcases Nat.lt_or_ge j l with h1 | h1; exact hQ.out j h1; obtain rfl : j = l := (by omega); rw [HY.out]; exact HXY.out), rfl⟩
              case measure => simp [intOf]; omega
          · obtain rfl : l = n := by omega
            go_wp2_with fail
            go_roundw
            case rel => exact ⟨k + 1, _, by omega, by go_num, Lib.hid (fun i j h h2 => by rcases Nat.lt_or_ge i k with h1 | h1; exact hP.out i j h1 h2; obtain rfl : i = k := (by omega); rw [HX.out]; exact hQ.out j h2), rfl⟩
            case measure => simp [intOf]; omega
      · obtain rfl : k = m := by omega
        have hDm := HAP.out hP.out
        have hcase : (k < n ∧ D = (n : Int)) ∨ (¬ k < n ∧ D = (k : Int)) := by omega
        clear hDm
        rcases hcase with ⟨hkn, rfl⟩ | ⟨hkn, rfl⟩
        all_goals (
          go_wp2_with fail
          refine (HR.out _ (below_drewN w _)).mono ?_
          rintro e w3 ⟨rfl, hb3⟩
          have B3 := Lib.hid ((below_drewN w q).trans (hb3.mono (below_drewN w q).size))
          clear hb3
          go_wp2_with fail
          refine (HR1.out _ B3.out).mono ?_
          rintro e w4 ⟨rfl, hb4⟩
          have B4 := Lib.hid (B3.out.trans (hb4.mono B3.out.size))
          clear hb4
          go_wp2_with fail
          refine (HR2.out _ B4.out).mono ?_
          rintro e w5 ⟨rfl, hb5⟩
          have B5 := Lib.hid (B4.out.trans (hb5.mono B4.out.size))
          clear hb5
          go_wp2_with fail
          refine (awake_any _).mono ?_
          rintro e w6 ⟨rfl, hb6⟩
          go_wp2_with fail
          go_ret
          exact ⟨rfl, B5.out.trans (hb6.mono B5.out.size)⟩)
open Go.ChangeShapes Go.WideShapes Go.ChangeAt in
theorem editApart_walk {H : Type} {enc : TypeId × Value → H} (W : World) (base : Nat) (v0 v1 : Value) (d0 d1 : DataW H) (p0 p1 : List MemPlace)
    (h0 : DataW.Trod enc Try.prog W 0 (fun _ => true) true 39 v0 d0 p0) (h1 : DataW.Trod enc Try.prog W 0 (fun _ => true) true 39 v1 d1 p1)
    (o0 : Value.okWide Try.prog W .any base 39 v0) (o1 : Value.okWide Try.prog W .any base 39 v1) :
    Calls Try.prog 13 #[v0, v1] W fun e w' => e = .returned (.bool true) ∧ RowKit.Below W.heap.size W w' := by
  obtain ⟨a, ra, ca, rfl, ha, _, k1, k2, _⟩ := open_runes_arg o0 h0
  obtain ⟨b, rb, cb, rfl, hb, _, k3, k4, _⟩ := open_runes_arg o1 h1
  exact editApart_any ra rb a b ca cb W ha hb (by unfold maxLen at k2; omega) (by unfold maxLen at k4; omega)
end Go.Proofs.Ytkbiaebjhjdjaaa
