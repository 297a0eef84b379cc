/- the law that what any bytes tell at any place is the document's -/
import Derived.Test.YtkbiaebjhjdjaaaCd7
import Derived.Test.YtkbiaebjhjdjaaaOp
import Derived.Test.YtkbiaebjhjdjaaaOpB2
namespace Go.Proofs.Ytkbiaebjhjdjaaa
open Go.RowKit
set_option linter.unusedVariables false
theorem num_both (a : Option Addr) (n cap : Nat) (bs : List Nat) (k s : Int) (w : World) (h : HoldsB w a n bs) (hn : n ≤ 1048576) (hk : k ≤ 9223372036854775807) :
    ∃ (x : Int) (b : Bool), Calls Try.prog 29 #[.slice a n cap, .int .i64 k, .int .i64 s] w (fun e w' => e = .returned (.tuple #[.int .i64 x, .bool b]) ∧ w = w') ∧
      Calls Try.prog 30 #[.slice a n cap, .int .i64 k, .int .i64 s] w (fun e w' => e = .returned (.tuple #[.int .i64 x, .bool b]) ∧ w = w') := by
  by_cases c : 1 ≤ s ∧ s ≤ 8 ∧ 0 ≤ k ∧ k + s ≤ n
  · obtain ⟨k', rfl⟩ := Int.eq_ofNat_of_zero_le c.2.2.1
    obtain ⟨s', rfl⟩ := Int.eq_ofNat_of_zero_le (show 0 ≤ s by omega)
    exact ⟨_, _, num_yes a n cap bs k' s' w h (by omega) (by omega) (by omega) (by omega), rnum_yes a n cap bs k' s' w h (by omega) (by omega) (by omega) (by omega)⟩
  · exact ⟨_, _, num_no a n cap k s w (by omega) hk c, rnum_no a n cap k s w (by omega) c⟩
theorem text_both (a : Option Addr) (n cap : Nat) (bs : List Nat) (k : Int) (w : World) (h : HoldsB w a n bs) (hc : n ≤ cap) (hn : n ≤ 1048576) (hk : k ≤ 9223372036854775807) :
    ∃ (t : ByteArray) (x : Int) (b : Bool), Calls Try.prog 31 #[.slice a n cap, .int .i64 k] w (fun e w' => e = .returned (.tuple #[.string t, .int .i64 x, .bool b]) ∧ w = w') ∧
      Calls Try.prog 32 #[.slice a n cap, .int .i64 k] w (fun e w' => e = .returned (.tuple #[.string t, .int .i64 x, .bool b]) ∧ w = w') := by
  by_cases c : 0 ≤ k ∧ k + 2 ≤ n
  · obtain ⟨k', rfl⟩ := Int.eq_ofNat_of_zero_le c.1
    by_cases c2 : k' + 2 + numN bs k' 2 ≤ n
    · exact ⟨_, _, _, text_yes a n cap bs k' w h (by omega) hc c2, rtext_yes a n cap bs k' w h (by omega) hc c2⟩
    · exact ⟨_, _, _, text_far a n cap bs k' w h (by omega) (by omega) (by omega), rtext_far a n cap bs k' w h (by omega) (by omega) (by omega)⟩
  · exact ⟨_, _, _, text_none a n cap k w (by omega) hk c, rtext_none a n cap k w (by omega) hk c⟩
set_option maxHeartbeats 800000 in
theorem codeGets_any (a : Option Addr) (n cap : Nat) (bs : List Nat) (k s : Int) (w : World) (h : HoldsB w a n bs) (hc : n ≤ cap) (hn : n ≤ 9223372036854775807) (hk : k ≤ 9223372036854775807) :
    Calls Try.prog 4 #[.slice a n cap, .int .i64 k, .int .i64 s] w fun e w' => e = .returned (.bool true) ∧ Below w.heap.size w w' := by
  by_cases hbig : n ≤ 300
  · obtain ⟨x, b, hA, hB⟩ := num_both a n cap bs k s w h (by omega) hk
    obtain ⟨t, y, c, hC, hD⟩ := text_both a n cap bs k w h hc (by omega) hk
    have HA := Lib.hid hA; have HB := Lib.hid hB; have HC := Lib.hid hC; have HD := Lib.hid hD
    clear h hA hB hC hD
    go_enter Try.func4, Try.ntmps4
    go_wp2_with fail
    refine HA.out.mono ?_
    rintro e w' ⟨rfl, rfl⟩
    go_wp2_with fail
    refine HB.out.mono ?_
    rintro e w' ⟨rfl, rfl⟩
    go_wp2_with fail
    refine HC.out.mono ?_
    rintro e w' ⟨rfl, rfl⟩
    go_wp2_with fail
    refine HD.out.mono ?_
    rintro e w' ⟨rfl, rfl⟩
    go_wp2_with fail
    refine (awake_any _).mono ?_
    rintro e w' ⟨rfl, hb3⟩
    go_wp2_with fail
    go_ret
    exact ⟨rfl, hb3⟩
  · clear h
    go_enter Try.func4, Try.ntmps4
    go_wp2_with fail
    refine (awake_any _).mono ?_
    rintro e w' ⟨rfl, hb3⟩
    go_wp2_with fail
    go_ret
    exact ⟨rfl, hb3⟩
open Go.ChangeShapes Go.WideShapes Go.ChangeAt in
theorem codeGets_walk {H : Type} {enc : TypeId × Value → H} (W : World) (base : Nat) (v0 v1 v2 : Value) (d0 d1 d2 : DataW H) (p0 p1 p2 : List MemPlace)
    (h0 : DataW.Trod enc Try.prog W 0 (fun _ => true) true 22 v0 d0 p0) (h1 : DataW.Trod enc Try.prog W 0 (fun _ => true) true 3 v1 d1 p1) (h2 : DataW.Trod enc Try.prog W 0 (fun _ => true) true 3 v2 d2 p2)
    (o0 : Value.okWide Try.prog W .any base 22 v0) (o1 : Value.okWide Try.prog W .any base 3 v1) (o2 : Value.okWide Try.prog W .any base 3 v2) :
    Calls Try.prog 4 #[v0, v1, v2] W fun e w' => e = .returned (.bool true) ∧ RowKit.Below W.heap.size W w' := by
  obtain ⟨a, n, cap, xs, rfl, hh, hnil, h3, h4⟩ := open_bytes_arg o0 h0
  obtain ⟨k, rfl, rfl, rfl, wk⟩ := open_int Try.underlying3 o1 h1
  obtain ⟨s, rfl, rfl, rfl, _⟩ := open_int Try.underlying3 o2 h2
  exact codeGets_any a n cap xs k s W hh h3 (by unfold maxLen at h4; omega) (i64_of_wf wk).2
end Go.Proofs.Ytkbiaebjhjdjaaa
