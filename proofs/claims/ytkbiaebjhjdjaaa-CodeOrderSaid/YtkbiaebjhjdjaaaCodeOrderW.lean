/- the law that numbers of one size are in order as their bytes are -/
import Derived.Test.YtkbiaebjhjdjaaaCodeBackW
import Derived.Test.YtkbiaebjhjdjaaaCodeOM
import Derived.Deep.RegionWith
import Derived.Deep.QuietTactic
import Derived.BigQuiet
namespace Go.Proofs.Ytkbiaebjhjdjaaa
open Go.RowKit
set_option linter.unusedVariables false
/-- a number laid, and what text its bytes are, now and later -/
theorem putS_any (u z : Nat) (hu : u < 18446744073709551616) (hz : z ≤ 8) (W : World) :
    Calls Try.prog 22 #[.slice none 0 0, .int .i64 u, .int .i64 z] W fun e w' => ∃ a c, e = .returned (.slice a z c) ∧ Below W.heap.size W w' ∧
      ∀ W', Below w'.heap.size w' W' → (convert 22 9 (.slice a z c)).run Try.prog W' = .ok (.string (strN (Cod.bytesOf u z))) W' := by
  refine (put_any none 0 0 [] (u : Int) (z : Int) W (holdsB_nil _ _) (fun _ => ⟨rfl, rfl⟩) (by omega)).mono ?_
  rintro e w2 ⟨a2, c2, rfl, hown2, hb2, hnil2⟩
  rw [bitsV_nat u hu, sizeV_of z hz, List.nil_append] at hown2 ⊢
  rw [Cod.bytesOf_length] at hown2 ⊢
  have h := own_holdsB hown2 (Cod.bytesOf_lt u z)
  exact ⟨a2, c2, rfl, hb2, fun W' hb => run_conv_bytes W' 22 5 9 Try.underlying22 Try.underlying5 Try.underlying9 _ _ c2 _ (h.below hb)⟩
set_option maxHeartbeats 1600000 in
theorem codeOrder_any (a b size : Int) (w : World) :
    Calls Try.prog 7 #[.int .i64 a, .int .i64 b, .int .i64 size] w fun e w' => e = .returned (.bool true) ∧ Below w.heap.size w w' := by
  have hb := low_bd size 7 (by omega)
  obtain ⟨z, hz⟩ : ∃ z : Nat, 1 + lowV size 7 = (z : Int) := ⟨(1 + lowV size 7).toNat, by omega⟩
  have hz1 : 1 ≤ z := by omega
  have hz7 : z ≤ 7 := by omega
  have hp := pow_bd z hz7
  have hb2 := low_bd a ((256 ^ z : Nat) : Int) (by omega)
  have hb3 := low_bd b ((256 ^ z : Nat) : Int) (by omega)
  obtain ⟨u, hu⟩ : ∃ u : Nat, lowV a ((256 ^ z : Nat) : Int) = (u : Int) := ⟨(lowV a ((256 ^ z : Nat) : Int)).toNat, by omega⟩
  obtain ⟨v, hv⟩ : ∃ v : Nat, lowV b ((256 ^ z : Nat) : Int) = (v : Int) := ⟨(lowV b ((256 ^ z : Nat) : Int)).toNat, by omega⟩
  have hu2 : u < 256 ^ z := by omega
  have hv2 : v < 256 ^ z := by omega
  have HZ := Lib.hid hz; have HU := Lib.hid hu; have HV := Lib.hid hv; have HU2 := Lib.hid hu2; have HV2 := Lib.hid hv2; have HP := Lib.hid hp
  have HPW := Lib.hid (pow_wrap z hz7)
  have HS1 := Lib.hid (sizeV_of z (by omega))
  clear hz hu hv hb hb2 hb3 hu2 hv2 hp
  go_enter Try.func7, Try.ntmps7
  go_wp2_with fail
  refine (low_any _ _ (by omega) (by omega) _).mono ?_
  rintro e w' ⟨rfl, rfl⟩
  have hb := low_bd size 7 (by omega)
  go_upto_region 2 with fail
  rw [HZ.out]
  clear hb
  have r1 : IntKind.i64.wrap (8 * (z : Int)) = 8 * (z : Int) := IntWalk.i64_in _ (by omega)
  have hpw := HPW.out
  have hu := HU.out; have hv := HV.out; have hp := HP.out
  have r2 : IntKind.i64.wrap (2 ^ (8 * (z : Int)).toNat) = ((256 ^ z : Nat) : Int) := by
    rw [show (8 * (z : Int)).toNat = 8 * z by omega, IntWalk.i64_in _ ?_]
    · have := pow_cast z; rw [Int.one_mul] at this; exact this
    · have := pow_cast z; rw [Int.one_mul] at this; rw [this]; omega
  have hlow := fun x W => low_any x ((256 ^ z : Nat) : Int) (by omega) (by omega) W
  have HLOW := Lib.hid hlow
  clear hlow
  go_quiet ((go_at_call 33; exact Calls.quiet_of_same ((HLOW.out _ _).mono (fun _ _ h => ⟨h.1, h.2.symm⟩))))
  rw [hu, hv]
  clear r1 r2 hpw hu hv hp
  have hu3 : u < 18446744073709551616 := by have := HU2.out; have := HP.out; omega
  have hv3 : v < 18446744073709551616 := by have := HV2.out; have := HP.out; omega
  have HBU := Lib.hid (bitsV_nat u hu3); have HBV := Lib.hid (bitsV_nat v hv3)
  have HPU := Lib.hid (fun W => putS_any u z hu3 (by omega) W); have HPV := Lib.hid (fun W => putS_any v z hv3 (by omega) W)
  clear hu3 hv3
  go_upto_region 3 with fail
  have hw1 : Below w.heap.size w (w.drewN nq) := below_drewN _ _
  generalize w.drewN nq = w1 at hw1 ⊢
  have s1 := hw1.size
  go_cut [8, 9] (fun x y wx => x = .string (strN (Cod.bytesOf u z)) ∧ y = .string (strN (Cod.bytesOf v z)) ∧ Below w.heap.size w wx)
  case first =>
    go_region_with (first | (go_at_call_of 22 (Value.int IntKind.i64 (u : Int)); refine (HPU.out _).mono ?_; rintro e w2 ⟨a2, c2, rfl, hb2, hcv2⟩; have hr2 := Below.refl w2.heap.size w2; have A2 : Below w.heap.size w w2 := (Below.drew hw1).trans (hb2.mono s1)) | (go_at_call_of 22 (Value.int IntKind.i64 (v : Int)); refine (HPV.out _).mono ?_; rintro e w3 ⟨a3, c3, rfl, hb3, hcv3⟩; have hr3 := Below.refl w3.heap.size w3; have A3 : Below w.heap.size w w3 := Below.trans (by assumption) (hb3.mono (Below.size (B := w.heap.size) (by assumption)))))
    all_goals (go_wp2_with fail; go_meet; exact ⟨rfl, rfl, by assumption⟩)
  case rest =>
    obtain ⟨rfl, rfl, hbw⟩ := hcut
    have f1 : Op.bytesLess (strN (Cod.bytesOf u z)).toList (strN (Cod.bytesOf v z)).toList = decide (u < v) := by
      rw [strN_toList, strN_toList, less_bytes, Nat.mod_eq_of_lt HU2.out, Nat.mod_eq_of_lt HV2.out]
    have f2 : ((strN (Cod.bytesOf u z)).toList == (strN (Cod.bytesOf v z)).toList) = decide (u = v) := by
      rw [strN_toList, strN_toList, eq_bytes u v z HU2.out HV2.out]
    have f3 : ((u : Int) == (v : Int)) = decide (u = v) := by rw [Bool.eq_iff_iff, beq_iff_eq, decide_eq_true_eq]; omega
    have f4 : (strN (Cod.bytesOf u z)).size = z := by rw [strN, strOfNums_size, List.length_map, Cod.bytesOf_length]
    generalize strN (Cod.bytesOf u z) = X at f1 f2 f4 ⊢
    generalize strN (Cod.bytesOf v z) = Y at f1 f2 ⊢
    go_wp2_with fail
    refine (awake_any _).mono ?_
    rintro e w' ⟨rfl, hb9⟩
    go_wp2_with fail
    go_ret
    exact ⟨rfl, hbw.trans (hb9.mono hbw.size)⟩
open Go.ChangeShapes Go.WideShapes Go.ChangeAt in
theorem codeOrder_walk {H : Type} {enc : TypeId × Value → H} (W : World) (base : Nat) (v0 v1 v2 : Value) (d0 d1 d2 : DataW H) (p0 p1 p2 : List MemPlace)
    (h0 : DataW.Trod enc Try.prog W 0 (fun _ => true) true 3 v0 d0 p0) (h1 : DataW.Trod enc Try.prog W 0 (fun _ => true) true 3 v1 d1 p1) (h2 : DataW.Trod enc Try.prog W 0 (fun _ => true) true 3 v2 d2 p2)
    (o0 : Value.okWide Try.prog W .any base 3 v0) (o1 : Value.okWide Try.prog W .any base 3 v1) (o2 : Value.okWide Try.prog W .any base 3 v2) :
    Calls Try.prog 7 #[v0, v1, v2] W fun e w' => e = .returned (.bool true) ∧ RowKit.Below W.heap.size W w' := by
  obtain ⟨a, rfl, rfl, rfl, _⟩ := open_int Try.underlying3 o0 h0
  obtain ⟨b, rfl, rfl, rfl, _⟩ := open_int Try.underlying3 o1 h1
  obtain ⟨s, rfl, rfl, rfl, _⟩ := open_int Try.underlying3 o2 h2
  exact codeOrder_any a b s W
end Go.Proofs.Ytkbiaebjhjdjaaa
