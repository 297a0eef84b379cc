/- msg: frameOf, Encode, May, Kind -/
import Derived.Test.YthboiklcjpnhbaaMa4
namespace Go.Proofs.Ythboiklcjpnhbaa
open Go.RowKit
set_option linter.unusedVariables false
set_option maxRecDepth 20000
theorem own_lower {w : World} {B B' : Nat} {e : TypeId} {size n : Nat} {v : Value} {xs : List Value} (h : w.ownsRow B e size v n xs) (hB : B' ≤ B) : w.ownsRow B' e size v n xs := by
  refine ⟨h.1, h.2.imp id (fun ⟨g, cap, cur, hv, hge, r⟩ => ⟨g, cap, cur, hv, Nat.le_trans hB hge, r⟩)⟩
def frameB (kd : Nat) (o : List Nat) : List Nat := sealB ((Cod.bytesOf (7 + o.length) 2 ++ Cod.bytesOf kd 1) ++ o)
theorem frameB_len (kd : Nat) (o : List Nat) : (frameB kd o).length = o.length + 7 := by
  unfold frameB; rw [sealB_len, List.length_append, List.length_append, Cod.bytesOf_length, Cod.bytesOf_length]; omega
set_option maxHeartbeats 3200000 in
theorem frame_of (V : Value) (kd m : Nat) (o : List Nat) (w : World) (CF : Calls Try.prog 63 #[V] w (RBB w w o m)) (CK : ∀ w', Calls Try.prog 43 #[V] w' fun e w'' => e = .returned (.int .i64 (kd : Int)) ∧ w' = w'') (hm : m ≤ 100000) (hkd : kd ≤ 5) (ol : o.length = m) :
    Calls Try.prog 35 #[V] w (RetB 5 w (frameB kd o)) := by
  obtain ⟨i0, hi, hz0, hz1, hz2⟩ := info_parts u8_info
  have C1 := Lib.hid CF; have C2 := Lib.hid CK
  have OL := Lib.hid ol
  have e7 : (7 : Int) + (m : Int) = ((7 + m : Nat) : Int) := by omega
  have w7 : IntKind.i64.wrap ((7 : Int) + (m : Int)) = ((7 + m : Nat) : Int) := by rw [e7]; exact IntWalk.i64_in _ (by omega)
  obtain ⟨l7, hl7⟩ : ∃ l, 7 + m = l := ⟨_, rfl⟩
  rw [hl7] at e7 w7
  obtain ⟨h1, hh1⟩ : ∃ h, Cod.bytesOf l7 2 = h := ⟨_, rfl⟩
  obtain ⟨h2, hh2⟩ : ∃ h, h1 ++ Cod.bytesOf kd 1 = h := ⟨_, rfl⟩
  have len1 : h1.length = 2 := by rw [← hh1, Cod.bytesOf_length]
  have len2 : h2.length = 3 := by rw [← hh2, List.length_append, len1, Cod.bytesOf_length]
  have lt1 : ∀ b ∈ h1, b < 256 := by rw [← hh1]; exact Cod.bytesOf_lt _ _
  have lt2 : ∀ b ∈ h2, b < 256 := by
    rw [← hh2]; intro b hb
    rcases List.mem_append.1 hb with hb | hb
    · exact lt1 b hb
    · exact Cod.bytesOf_lt _ _ b hb
  have CP1 := Lib.hid (fun w' => (show Calls Try.prog 64 #[.slice none 0 0, .int .i64 (l7 : Int), .int .i64 2] w' fun e w'' => ∃ a c, e = .returned (.slice a 2 c) ∧ HoldsB w'' a 2 h1 ∧ (a = none → False) ∧ Below w'.heap.size w' w'' from by
    refine (put_any none 0 0 [] (l7 : Int) 2 w' (holdsB_nil _ _) (fun _ => ⟨rfl, rfl⟩) (by omega)).mono ?_
    rintro e w'' ⟨a, c, rfl, r1, r2, r3⟩
    rw [bits_nat9 l7 (by omega), show sizeV 2 = 2 from rfl, List.nil_append, hh1, len1] at r1 r3
    rw [bits_nat9 l7 (by omega), show sizeV 2 = 2 from rfl, List.nil_append, hh1, len1]
    exact ⟨a, c, rfl, holdsB_of_values (owns_holds r1) lt1, fun e => by have := (r3 e).1; omega, r2⟩))
  have CP2 := Lib.hid (fun (a : Option Addr) (c : Nat) w' (hb : HoldsB w' a 2 h1) (hn : a = none → False) => (show Calls Try.prog 64 #[.slice a 2 c, .int .i64 (kd : Int), .int .i64 1] w' fun e w'' => ∃ a c, e = .returned (.slice a 3 c) ∧ w''.ownsRow w'.heap.size 5 1 (.slice a 3 c) 3 (bytesV h2) ∧ Below w'.heap.size w' w'' from by
    refine (put_any a 2 c h1 (kd : Int) 1 w' hb (fun e => (hn e).elim) (by omega)).mono ?_
    rintro e w'' ⟨a, c, rfl, r1, r2, r3⟩
    rw [bits_nat9 kd (by omega), show sizeV 1 = 1 from rfl, hh2, len2] at r1
    rw [bits_nat9 kd (by omega), show sizeV 1 = 1 from rfl, hh2, len2]
    exact ⟨a, c, rfl, r1, r2⟩))
  have FE := Lib.hid (show frameB kd o = sealB (h2 ++ o) from by unfold frameB; rw [← hh2, ← hh1, ← hl7, ol])
  have LT2 := Lib.hid lt2; have LE2 := Lib.hid len2
  have bl2 : (bytesV h2).length = 3 := by rw [bytesV_length, len2]
  have lm : l7 ≤ 100007 := by omega
  rw [FE.out]
  clear CF CK ol hl7 hh1 hh2 len1 len2 lt1 lt2
  go_enter Try.func35, Try.ntmps35
  go_wp2_with fail
  with_reducible refine C1.out.mono ?_
  rintro e w1 ⟨a1, c1, rfl, hl1, hB1, hW1⟩
  have B1 := Lib.hid hB1; have W1 := Lib.hid hW1
  clear hl1 hB1 hW1 C1
  go_wp2_with fail
  with_reducible refine (CP1.out _).mono ?_
  rintro e w2 ⟨a2, c2, rfl, hh, hne, hb⟩
  have H2 := Lib.hid hh; have N2 := Lib.hid hne; have W2 := Lib.hid (W1.out.trans (hb.mono W1.out.size)); have B2 := Lib.hid (B1.out.more hb)
  clear hh hne hb CP1 B1
  go_wp2_with fail
  with_reducible refine (C2.out _).mono ?_
  rintro e w' ⟨rfl, rfl⟩
  have CP2' := Lib.hid (CP2.out a2 c2 w2 H2.out N2.out)
  clear C2 CP2 H2 N2
  go_wp2_with fail
  with_reducible refine CP2'.out.mono ?_
  rintro e w3 ⟨a3, c3, rfl, ho, hb⟩
  have O3 := Lib.hid ho; have B3 := Lib.hid (B2.out.more hb); have W3 := Lib.hid (W2.out.trans (hb.mono W2.out.size))
  have Z3 := Lib.hid hb.size
  have HV := Lib.hid (B3.out.h.values.cells (w' := w3) ⟨rfl, rfl, rfl, Nat.le_refl _, fun _ _ _ => rfl⟩)
  have BN := Lib.hid (show a1 = none → m = 0 ∧ c1 = 0 from fun e => by rw [← OL.out]; exact B3.out.n e)
  have BL := Lib.hid (show (bytesV o).length = m * 1 from by rw [bytesV_length, OL.out]; omega)
  have LTO := Lib.hid B3.out.lt
  clear ho hb CP2' B2
  go_wp2_with (at_builtin; refine wpList_append_any rfl (.tmp 15) (.tmp 16) 39 rfl w2.heap.size 5 i0 _ 1 1 Try.underlying39 hi hz0 hz1 hz2 rfl (by decide) _ 3 (bytesV h2) rfl O3.out a1 m c1 (bytesV o) rfl BN.out BL.out HV.out (bytesV_one _) (by unfold maxLen; omega) (by omega) Z3.out ?_; intro a4 c4 w4 ho hb hnil)
  rw [bytesV_append] at ho
  have O4 := Lib.hid ho
  have H4 := Lib.hid (holdsB_of_values (owns_holds ho) (fun b hb => by
    rcases List.mem_append.1 hb with hb | hb
    · exact LT2.out b hb
    · exact LTO.out b hb))
  have N4 := Lib.hid hnil
  have W4 := Lib.hid (W3.out.trans (hb.mono (by have := W2.out.size; omega)))
  have CS := Lib.hid (wSeal_any a4 (3 + m) c4 (h2 ++ o) w4 H4.out N4.out (by omega))
  clear ho hb hnil
  go_wp2_with fail
  with_reducible refine CS.out.mono ?_
  rintro e w5 ⟨a5, c5, rfl, r1, r2, r3⟩
  have FF := Lib.hid (show RetB 5 w (sealB (h2 ++ o)) (.returned (.slice a5 (sealB (h2 ++ o)).length c5)) w5 from ⟨a5, c5, rfl, own_lower r1 W4.out.size, W4.out.trans (r2.mono W4.out.size), r3⟩)
  clear r1 r2 r3 CS
  go_wp2_with fail
  go_ret
  exact FF.out
theorem encode_no (V : Value) (w : World) (CV : ∀ w', Below w.heap.size w w' → Calls Try.prog 34 #[V] w' fun e w'' => e = .returned (.bool false) ∧ Below w'.heap.size w' w'') :
    Calls Try.prog 14 #[V] w fun e w' => e = .returned (.tuple #[.slice none 0 0, .int .i64 2]) ∧ Below w.heap.size w w' := by
  have C := Lib.hid (CV w (Below.refl _ _))
  clear CV
  go_enter Try.func14, Try.ntmps14
  go_wp2_with fail
  refine C.out.mono ?_
  rintro e w' ⟨rfl, hb⟩
  have B := Lib.hid hb
  clear hb C
  go_wp2_with fail
  go_ret2
  exact ⟨rfl, B.out⟩
def EncP (w : World) (F : List Nat) (n : Nat) (e : Ending) (w' : World) : Prop := ∃ a c, e = .returned (.tuple #[.slice a n c, .int .i64 0]) ∧ w'.ownsRow w.heap.size 5 1 (.slice a n c) n (bytesV F) ∧ HoldsB w' a n F ∧ Below w.heap.size w w' ∧ (a = none → n = 0 ∧ c = 0)
theorem sealB_all (bs : List Nat) (h : ∀ b ∈ bs, b < 256) : ∀ b ∈ sealB bs, b < 256 := sealB_lt bs h
theorem encode_yes (V : Value) (F : List Nat) (n : Nat) (w : World) (hF : ∀ b ∈ F, b < 256) (hn : F.length = n) (CV : ∀ w', Below w.heap.size w w' → Calls Try.prog 34 #[V] w' fun e w'' => e = .returned (.bool true) ∧ Below w'.heap.size w' w'') (CF : ∀ w', Below w.heap.size w w' → Calls Try.prog 35 #[V] w' (RetB 5 w' F)) :
    Calls Try.prog 14 #[V] w (EncP w F n) := by
  have C := Lib.hid (CV w (Below.refl _ _)); have C2 := Lib.hid CF; have LT := Lib.hid hF; have LN := Lib.hid hn
  clear CV CF hF hn
  go_enter Try.func14, Try.ntmps14
  go_wp2_with fail
  refine C.out.mono ?_
  rintro e w1 ⟨rfl, hb⟩
  have B := Lib.hid hb
  have C3 := Lib.hid (C2.out w1 hb)
  clear hb C C2
  go_wp2_with fail
  refine C3.out.mono ?_
  rintro e w2 ⟨a, c, rfl, h1, h2, h3⟩
  have FF := Lib.hid (show EncP w F n (.returned (.tuple #[.slice a F.length c, .int .i64 0])) w2 from ⟨a, c, by rw [LN.out], by rw [← LN.out]; exact own_lower h1 B.out.size, by rw [← LN.out]; exact holdsB_of_values (owns_holds h1) LT.out, B.out.trans (h2.mono B.out.size), by rw [← LN.out]; exact h3⟩)
  clear h1 h2 h3 C3
  go_wp2_with fail
  go_ret2
  exact FF.out
theorem may_of (V : Value) (z : Bool) (w : World) (CV : Calls Try.prog 34 #[V] w fun e w'' => e = .returned (.bool z) ∧ Below w.heap.size w w'') :
    Calls Try.prog 19 #[V] w fun e w' => e = .returned (.bool z) ∧ Below w.heap.size w w' := by
  have C := Lib.hid CV
  clear CV
  go_enter Try.func19, Try.ntmps19
  go_wp2_with fail
  refine C.out.mono ?_
  rintro e w' ⟨rfl, hb⟩
  have B := Lib.hid hb
  clear hb C
  go_wp2_with fail
  go_ret
  exact ⟨rfl, B.out⟩
theorem kind_of (V : Value) (z : Int) (w : World) (CV : Calls Try.prog 43 #[V] w fun e w'' => e = .returned (.int .i64 z) ∧ w = w'') :
    Calls Try.prog 21 #[V] w fun e w' => e = .returned (.int .i64 z) ∧ w = w' := by
  have C := Lib.hid CV
  clear CV
  go_enter Try.func21, Try.ntmps21
  go_wp2_with fail
  refine C.out.mono ?_
  rintro e w' ⟨rfl, rfl⟩
  clear C
  go_wp2_with fail
  go_ret
  exact ⟨rfl, rfl⟩
end Go.Proofs.Ythboiklcjpnhbaa
