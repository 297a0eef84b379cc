/- the law of lists with other runes in place of theirs -/
import Derived.Test.YtkbiaebjhjdjaaaEdR
import Derived.Test.YtkbiaebjhjdjaaaEditApartW
namespace Go.Proofs.Ytkbiaebjhjdjaaa
open Go.RowKit
set_option linter.unusedVariables false
set_option maxHeartbeats 1600000 in
theorem editRenamed_any (ra rb : List Int) (a b : Option Addr) (ca cb : Nat) (z : Int) (w : World) (ha : HoldsI .i32 w a ra.length ra) (hb : HoldsI .i32 w b rb.length rb) (h63 : ra.length ≤ 9223372036854775807) (h64 : rb.length ≤ 9223372036854775807)
    (hra : ∀ x ∈ ra, -2147483648 ≤ x ∧ x ≤ 2147483647) (hrb : ∀ x ∈ rb, -2147483648 ≤ x ∧ x ≤ 2147483647) :
    Calls Try.prog 14 #[.slice a ra.length ca, .slice b rb.length cb, .int .i32 z] w fun e w' => e = .returned (.bool true) ∧ Below w.heap.size w w' := by
  by_cases hlong : 25 < ra.length ∨ 25 < rb.length
  · obtain ⟨m, hm⟩ : ∃ m, ra.length = m := ⟨_, rfl⟩
    obtain ⟨n, hn⟩ : ∃ n, rb.length = n := ⟨_, rfl⟩
    rw [hm, hn] at hlong; rw [hm] at h63; rw [hn] at h64; rw [hm, hn]
    clear hm hn hra hrb ha hb
    by_cases h3 : 25 < m
    · have e1 : decide ((m : Int) > 25) = true := by simp; omega
      clear hlong
      go_enter Try.func14, Try.ntmps14
      go_wp2_with fail
      refine (awake_any _).mono ?_
      rintro e w' ⟨rfl, hb3⟩
      go_wp2_with fail
      go_ret
      exact ⟨rfl, hb3⟩
    · have e1 : decide ((m : Int) > 25) = false := by simp; omega
      have e2 : decide ((n : Int) > 25) = true := by simp; omega
      clear hlong
      go_enter Try.func14, Try.ntmps14
      go_wp2_with fail
      refine (awake_any _).mono ?_
      rintro e w' ⟨rfl, hb3⟩
      go_wp2_with fail
      go_ret
      exact ⟨rfl, hb3⟩
  · have hla : ra.length ≤ 25 := by omega
    have hlb : rb.length ≤ 25 := by omega
    have hla2 : (othersI z ra).length = ra.length := by simp [othersI]
    have hlb2 : (othersI z rb).length = rb.length := by simp [othersI]
    have hruns := fun W (h : Below w.heap.size w W) => eruns_any ra rb a b ca cb W (ha.below h) (hb.below h) (by omega) (by omega)
    have hoa := fun W (h : Below w.heap.size w W) => other_any ra a ca z W (ha.below h) (by omega)
    have hob := fun W (h : Below w.heap.size w W) => other_any rb b cb z W (hb.below h) (by omega)
    have hruns2 := fun a2 b2 c2 d2 W ha hb => eruns_any (othersI z ra) (othersI z rb) a2 b2 c2 d2 W ha hb (by omega) (by omega)
    have hL : Ed.L (othersI z ra) (othersI z rb) ra.length rb.length = Ed.L ra rb ra.length rb.length :=
      Ed.L_renamed ra rb (fun x => bits .xor .i32 x z) (fun x hx y hy h => xor_inj (hra x hx) (hrb y hy) h) _ _ (Nat.le_refl _) (Nat.le_refl _)
    simp only [hla2, hlb2, hL] at hruns2
    obtain ⟨D, hD⟩ : ∃ D, Ed.L ra rb ra.length rb.length = D := ⟨_, rfl⟩
    simp only [hD] at hruns hruns2
    clear hD hL hra hrb
    obtain ⟨m, hm⟩ : ∃ m, ra.length = m := ⟨_, rfl⟩
    obtain ⟨n, hn⟩ : ∃ n, rb.length = n := ⟨_, rfl⟩
    simp only [hm, hn] at hruns hruns2 hoa hob hla hlb ⊢
    have e1 : decide ((m : Int) > 25) = false := by simp; omega
    have e2 : decide ((n : Int) > 25) = false := by simp; omega
    have HR := Lib.hid hruns; have HR2 := Lib.hid hruns2; have HOA := Lib.hid hoa; have HOB := Lib.hid hob
    clear hruns hruns2 hoa hob ha hb hlong hm hn h63 h64 hla2 hlb2
    go_enter Try.func14, Try.ntmps14
    go_wp2_with fail
    refine (HR.out _ (Below.refl _ _)).mono ?_
    rintro e w1 ⟨rfl, hb1⟩
    have B1 := Lib.hid hb1
    clear hb1
    go_wp2_with fail
    refine (HOA.out _ B1.out).mono ?_
    rintro e w2 ⟨a2, c2, rfl, hA2, hb2⟩
    have B2 := Lib.hid (B1.out.trans (hb2.mono B1.out.size)); have A2 := Lib.hid hA2
    clear hb2 hA2
    go_wp2_with fail
    refine (HOB.out _ B2.out).mono ?_
    rintro e w3 ⟨b2, d2, rfl, hB2, hb3⟩
    have hA3 := A2.out.below hb3
    have B3 := Lib.hid (B2.out.trans (hb3.mono B2.out.size)); have A3 := Lib.hid hA3; have C3 := Lib.hid hB2
    clear hb3 hA3 hB2
    go_wp2_with fail
    refine (HR2.out a2 b2 c2 d2 _ A3.out C3.out).mono ?_
    rintro e w4 ⟨rfl, hb4⟩
    have B4 := Lib.hid (B3.out.trans (hb4.mono B3.out.size))
    clear hb4
    go_wp2_with fail
    refine (awake_any _).mono ?_
    rintro e w5 ⟨rfl, hb5⟩
    go_wp2_with fail
    go_ret
    exact ⟨rfl, B4.out.trans (hb5.mono B4.out.size)⟩
open Go.ChangeShapes Go.WideShapes Go.ChangeAt in
theorem editRenamed_walk {H : Type} {enc : TypeId × Value → H} (W : World) (base : Nat) (v0 v1 v2 : Value) (d0 d1 d2 : DataW H) (p0 p1 p2 : List MemPlace)
    (h0 : DataW.Trod enc Try.prog W 0 (fun _ => true) true 39 v0 d0 p0) (h1 : DataW.Trod enc Try.prog W 0 (fun _ => true) true 39 v1 d1 p1) (h2 : DataW.Trod enc Try.prog W 0 (fun _ => true) true 21 v2 d2 p2)
    (o0 : Value.okWide Try.prog W .any base 39 v0) (o1 : Value.okWide Try.prog W .any base 39 v1) (o2 : Value.okWide Try.prog W .any base 21 v2) :
    Calls Try.prog 14 #[v0, v1, v2] W fun e w' => e = .returned (.bool true) ∧ RowKit.Below W.heap.size W w' := by
  obtain ⟨a, ra, ca, rfl, ha, _, k1, k2, hra⟩ := open_runes_arg o0 h0
  obtain ⟨b, rb, cb, rfl, hb, _, k3, k4, hrb⟩ := open_runes_arg o1 h1
  obtain ⟨z, rfl, rfl, rfl, _⟩ := open_int Try.underlying21 o2 h2
  exact editRenamed_any ra rb a b ca cb z W ha hb (by unfold maxLen at k2; omega) (by unfold maxLen at k4; omega) hra hrb
end Go.Proofs.Ytkbiaebjhjdjaaa
