/- the law of texts that are made -/
import Derived.Test.YtlkckdhenodhgaaTm4
import Derived.Test.YtlkckdhenodhgaaLendRunes
import Derived.Test.YtlkckdhenodhgaaKeptRunes
import Derived.Test.YtlkckdhenodhgaaOpR
namespace Go.Proofs.Ytlkckdhenodhgaa
open Go.RowKit
set_option linter.unusedVariables false
theorem holdsI_of_values {k : IntKind} {w : World} {a : Option Addr} {n : Nat} {zs : List Int} (h : HoldsV w a n (zs.map (Value.int k))) : HoldsI k w a n zs := by
  have hl : zs.length = n := by simpa using h.1
  refine ⟨hl, fun h0 => ?_⟩
  obtain ⟨b, o, ha, hc⟩ := h.2 h0
  exact ⟨b, o, ha, fun i hi => by rw [hc i hi, getD_map_int k zs i (by omega)]⟩
theorem text_lit (a : Option Addr) (n cap : Nat) (zs : List Int) (t : ByteArray) (b : Bool) (w : World) (hh : HoldsI .i32 w a n zs) (hn : n ≤ 1048576) (hr : ∀ z ∈ zs, -2147483648 ≤ z ∧ z ≤ 2147483647) (ht : textZ zs = t) (hb : decide (allG zs) = b) :
    Calls Try.prog 24 #[.slice a n cap] w fun e w' => e = .returned (.tuple #[.string t, .bool b]) ∧ Below w.heap.size w w' := by
  subst ht hb; exact text_any a n cap zs w hh hn hr
theorem bool_beq_self (b : Bool) : (b == b) = true := by cases b <;> rfl
set_option maxHeartbeats 1600000 in
theorem textMakes_any (a : Option Addr) (n cap : Nat) (zs : List Int) (w : World) (hh : HoldsI .i32 w a n zs) (hnil : a = none → n = 0 ∧ cap = 0) (hnc : n ≤ maxLen) (hr : ∀ z ∈ zs, -2147483648 ≤ z ∧ z ≤ 2147483647) :
    Calls Try.prog 4 #[.slice a n cap] w fun e w' => e = .returned (.bool true) ∧ Below w.heap.size w w' := by
  by_cases hlong : 100 < n
  · go_enter Try.func4, Try.ntmps4
    go_wp2_with fail
    refine (awake_any _).mono ?_
    rintro e w' ⟨rfl, hb⟩
    go_wp2_with fail
    go_ret
    exact ⟨rfl, hb⟩
  have hn : n ≤ 100 := by omega
  have hl := hh.len
  have LL := Lib.hid (lendRunes_any a n cap (runesV zs) w hh.values hnil (by omega) (by intro u hu; obtain ⟨z, _, rfl⟩ := List.mem_map.1 hu; rfl))
  obtain ⟨t, ht⟩ : ∃ t, textZ zs = t := ⟨_, rfl⟩
  obtain ⟨ok, hok⟩ : ∃ ok, decide (allG zs) = ok := ⟨_, rfl⟩
  have HT := Lib.hid ht; have HO := Lib.hid hok; have HH := Lib.hid hh; have HR := Lib.hid hr; have HL := Lib.hid hl
  have x1 : (t.toList == t.toList) = true := by simp
  have x2 : (ok == ok) = true := bool_beq_self ok
  clear ht hok hh hr hnil hlong hl hnc
  go_enter Try.func4, Try.ntmps4
  go_wp2_with fail
  refine LL.out.mono ?_
  rintro e w1 ⟨rfl, hb1, hroom⟩
  have B1 := Lib.hid hb1
  have R1 := Lib.hid hroom
  have HI := Lib.hid (holdsI_of_values (R1.out.holds (by simp; exact HL.out)))
  obtain ⟨B, hB⟩ : ∃ B, w.heap.size = B := ⟨_, rfl⟩
  rw [hB] at R1 HI
  simp only [hB]
  have HB := Lib.hid hB
  clear hb1 hroom hB
  go_wp2_with fail
  refine (text_lit _ n _ zs t ok w1 HI.out (by omega) HR.out HT.out HO.out).mono ?_
  rintro e w2 ⟨rfl, hb2⟩
  have B2 := Lib.hid (B1.out.trans (hb2.mono B1.out.size))
  have R2 := Lib.hid (R1.out.below hb2)
  clear hb2 R1 HI
  go_wp2_with fail
  refine (rtext_lit a n cap zs t ok w2 (HH.out.below B2.out) (by omega) HT.out HO.out).mono ?_
  rintro e w3 ⟨rfl, hb3⟩
  have B3 := Lib.hid (B2.out.trans (hb3.mono B2.out.size))
  have R3 := Lib.hid (R2.out.below hb3)
  clear hb3 R2
  go_wp2_with fail
  have hk := keptRunes_any B 21 n zs a n cap zs w3 HL.out R3.out (HH.out.below B3.out) (by omega) (by omega)
  rw [decide_eq_true rfl] at hk
  refine hk.mono ?_
  rintro e w4 ⟨rfl, m, rfl⟩
  have B4 := Lib.hid (B3.out.trans ((below_drewN w3 m).mono B3.out.size))
  clear R3
  go_wp2_with fail
  refine (awake_any _).mono ?_
  rintro e w5 ⟨rfl, hb5⟩
  go_wp2_with fail
  go_ret
  exact ⟨rfl, by rw [← HB.out] at *; exact B4.out.trans (hb5.mono B4.out.size)⟩
open Go.ChangeShapes Go.WideShapes Go.ChangeAt in
theorem textMakes_walk {H : Type} {enc : TypeId × Value → H} (W : World) (base : Nat) (v0 : Value) (d0 : DataW H) (p0 : List MemPlace)
    (h0 : DataW.Trod enc Try.prog W 0 (fun _ => true) true 23 v0 d0 p0)
    (o0 : Value.okWide Try.prog W .any base 23 v0) :
    Calls Try.prog 4 #[v0] W fun e w' => e = .returned (.bool true) ∧ RowKit.Below W.heap.size W w' := by
  obtain ⟨a, zs, cap, rfl, hh, hnil, h1, h2, h3⟩ := open_runes_arg o0 h0
  exact textMakes_any a zs.length cap zs W hh hnil (Nat.le_trans h1 h2) h3
end Go.Proofs.Ytlkckdhenodhgaa
