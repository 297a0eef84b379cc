/- contract of awake of the laws of text; the law that compares -/
import Derived.Test.YtlkckdhenodhgaaTp2
import Derived.Test.YtlkckdhenodhgaaSameRunes
namespace Go.Proofs.Ytlkckdhenodhgaa
open Go.RowKit
set_option linter.unusedVariables false
theorem prefix_lit (s t : ByteArray) (n : Int) (w : World) (hs : s.size ≤ 1048576) (h : prefixS s n = t) :
    Calls Try.prog 20 #[.string s, .int .i64 n] w fun e w' => e = .returned (.string t) ∧ Below w.heap.size w w' := by subst h; exact prefix_any s n w hs
theorem runes_lit1 : runesS { data := #[97, 195, 169] } = [97, 233] := by decide
theorem len_lit1 : lenS { data := #[97, 195, 169] } = 2 := by decide
theorem len_lit2 : lenS { data := #[255] } = -1 := by decide
theorem len_lit3 : lenS { data := #[97] } = 1 := by decide
theorem prefix_lit1 : prefixS { data := #[104, 195, 169, 106] } 2 = { data := #[104, 195, 169] } := by
  unfold prefixS
  have h1 : lenS { data := #[104, 195, 169, 106] } = 3 := by decide
  rw [if_neg (by rw [h1]; omega)]
  have h2 : posN { data := #[104, 195, 169, 106] } (Int.toNat 2) = 3 := by decide
  rw [h2]
  apply ByteArray.ext
  simp only [ByteArray.data_extract]
  decide
theorem cmp_lit1 : cmpS { data := #[122] } { data := #[195, 169] } = -1 := by
  unfold cmpS; rw [ByteArray.toList_eq, ByteArray.toList_eq]; decide
theorem holdsI_lit (k : IntKind) (w : World) (zs : List Int) (e : TypeId) (fr : Nat × Nat) : HoldsI k (w.alloc (.cells (zs.map (Value.int k)).toArray e fr)) (some ⟨w.heap.size, 0, none⟩) zs.length zs := by
  refine ⟨rfl, fun _ => ⟨w.heap.size, 0, rfl, fun i hi => ?_⟩⟩
  rw [Nat.zero_add, World.cell?_alloc_mark]
  simp [List.getD_eq_getElem?_getD, hi]
theorem sameRunes_yes (a1 a2 : Option Addr) (n c1 c2 : Nat) (z : List Int) (w : World) (h1 : HoldsI .i32 w a1 n z) (h2 : HoldsI .i32 w a2 n z) (hl : n ≤ 4611686018427387904) :
    Calls Try.prog 13 #[.slice a1 n c1, .slice a2 n c2] w fun e w' => e = .returned (.bool true) ∧ Below w.heap.size w w' := by
  have := sameRunes_any a1 a2 n c1 n c2 z z w h1 h2 hl hl
  rw [decide_eq_true rfl] at this
  refine this.mono ?_
  rintro e w' ⟨rfl, m, rfl⟩
  exact ⟨rfl, below_drewN _ _⟩
theorem awake_any (w : World) : Calls Try.prog 10 #[] w fun e w' => e = .returned (.bool true) ∧ Below w.heap.size w w' := by
  have r1 := runes_good { data := #[97, 195, 169] } w (by decide) (by rw [len_lit1]; omega)
  have hl : (runesS { data := #[97, 195, 169] }).length = 2 := by rw [runes_lit1]; rfl
  rw [hl] at r1
  have R1 := Lib.hid r1
  have l2 := Lib.hid (fun w => len_any { data := #[255] } w (by decide))
  rw [len_lit2] at l2
  have p1 := Lib.hid (fun w => prefix_lit _ _ 2 w (by decide) prefix_lit1)
  have c1 := Lib.hid (fun w => compare_any { data := #[122] } { data := #[195, 169] } w)
  rw [cmp_lit1] at c1
  have w1 := Lib.hid (fun w => word_any { data := #[97] } w (by decide))
  rw [len_lit3] at w1
  clear r1 hl
  go_enter Try.func10, Try.ntmps10
  go_wp2_with fail
  refine R1.out.mono ?_
  rintro e w2 ⟨a, c, rfl, hr⟩
  have hh := hr.holds
  have e2 : (intsN (runesS { data := #[97, 195, 169] })) = [97, 233] := by rw [runes_lit1]; rfl
  rw [e2] at hh
  have HH := Lib.hid hh; have B2 := Lib.hid hr.2.1
  clear hh hr e2
  go_wp2_with fail
  have hlit := Lib.hid (holdsI_lit .i32 w2 [97, 233] 21 (0, 0))
  have hal := Lib.hid (below_one w2 (.cells #[.int .i32 97, .int .i32 233] 21))
  have B3 := Lib.hid (B2.out.trans (hal.out.mono B2.out.size))
  have HH3 := Lib.hid (HH.out.below hal.out)
  have hlit2 := Lib.hid (show HoldsI .i32 (w2.alloc (.cells #[.int .i32 97, .int .i32 233] 21)) (some ⟨w2.heap.size, 0, none⟩) 2 [97, 233] from hlit.out)
  clear hlit HH hal
  generalize w2.alloc (.cells #[.int .i32 97, .int .i32 233] 21) = w3 at *
  refine (sameRunes_yes a _ 2 c 2 [97, 233] w3 HH3.out hlit2.out (by omega)).mono ?_
  rintro e w4 ⟨rfl, hb4⟩
  have B4 := Lib.hid (B3.out.trans (hb4.mono B3.out.size))
  clear hb4
  go_wp2_with fail
  refine (l2.out _).mono ?_
  rintro e w5 ⟨rfl, hb5⟩
  have B5 := Lib.hid (B4.out.trans (hb5.mono B4.out.size))
  clear hb5
  go_wp2_with fail
  refine (p1.out _).mono ?_
  rintro e w6 ⟨rfl, hb6⟩
  have B6 := Lib.hid (B5.out.trans (hb6.mono B5.out.size))
  clear hb6
  have q1 : ((({ data := #[104, 195, 169] } : ByteArray).toList == ({ data := #[104, 195, 169] } : ByteArray).toList)) = true := by simp
  go_wp2_with fail
  refine (c1.out _).mono ?_
  rintro e w' ⟨rfl, rfl⟩
  go_wp2_with fail
  refine (w1.out _).mono ?_
  rintro e w7 ⟨rfl, hb7⟩
  have B7 := Lib.hid (B6.out.trans (hb7.mono B6.out.size))
  clear hb7
  go_wp2_with fail
  go_ret
  exact ⟨rfl, B7.out⟩
theorem i64_neg_one (v : Int) (h : v = -1 ∨ v = 0 ∨ v = 1) : IntKind.i64.wrap (-v) = -v := IntWalk.i64_in _ (by omega)
set_option maxHeartbeats 1600000 in
theorem textCompares_any (a b : ByteArray) (w : World) (h1 : a.size ≤ 9223372036854775807) (h2 : b.size ≤ 9223372036854775807) :
    Calls Try.prog 5 #[.string a, .string b] w fun e w' => e = .returned (.bool true) ∧ Below w.heap.size w w' := by
  by_cases hlong : 300 < a.size ∨ 300 < b.size
  · have h4 : 300 < a.size ∨ (a.size ≤ 300 ∧ 300 < b.size) := by omega
    clear hlong
    rcases h4 with h4 | ⟨h4, h5⟩
    all_goals
      go_enter Try.func5, Try.ntmps5
      go_wp2_with fail
      refine (awake_any _).mono ?_
      rintro e w' ⟨rfl, hb⟩
      go_wp2_with fail
      go_ret
      exact ⟨rfl, hb⟩
  have hla : a.size ≤ 300 := by omega
  have hlb : b.size ≤ 300 := by omega
  have C1 := Lib.hid (fun w => compare_any a b w)
  have C2 := Lib.hid (fun w => compare_any b a w)
  have C3 := Lib.hid (fun w => compare_any a a w)
  have R1 := Lib.hid (fun w => rcompare_any a b w (by omega) (by omega))
  have e2 : cmpS b a = - cmpS a b := cmpL_swap _ _
  have e3 : cmpS a a = 0 := cmpL_same _
  have hbd : cmpS a b = -1 ∨ cmpS a b = 0 ∨ cmpS a b = 1 := cmpL_bd _ _
  rw [e2] at C2; rw [e3] at C3
  obtain ⟨v, hv⟩ : ∃ v, cmpS a b = v := ⟨_, rfl⟩
  simp only [hv] at C1 C2 R1 hbd
  have hw := i64_neg_one v hbd
  have x1 : (v == v) = true := by simp
  have x2 : (-v == -v) = true := by simp
  clear hv e2 e3 hbd hlong
  go_enter Try.func5, Try.ntmps5
  go_wp2_with fail
  refine (C1.out _).mono ?_
  rintro e w' ⟨rfl, rfl⟩
  go_wp2_with fail
  refine (R1.out _).mono ?_
  rintro e w1 ⟨rfl, hb1⟩
  have B1 := Lib.hid hb1
  clear hb1
  go_wp2_with fail
  refine (C2.out _).mono ?_
  rintro e w' ⟨rfl, rfl⟩
  go_wp2_with fail
  refine (R1.out _).mono ?_
  rintro e w2 ⟨rfl, hb2⟩
  have B2 := Lib.hid (B1.out.trans (hb2.mono B1.out.size))
  clear hb2
  go_wp2_with fail
  refine (C3.out _).mono ?_
  rintro e w' ⟨rfl, rfl⟩
  go_wp2_with fail
  refine (awake_any _).mono ?_
  rintro e w3 ⟨rfl, hb3⟩
  have B3 := Lib.hid (B2.out.trans (hb3.mono B2.out.size))
  clear hb3
  go_wp2_with fail
  go_ret
  exact ⟨rfl, B3.out⟩
open Go.ChangeShapes Go.WideShapes Go.ChangeAt in
open Go.ChangeMaps (open_string) in
theorem textCompares_walk {H : Type} {enc : TypeId × Value → H} (W : World) (base : Nat) (v0 v1 : Value) (d0 d1 : DataW H) (p0 p1 : List MemPlace)
    (h0 : DataW.Trod enc Try.prog W 0 (fun _ => true) true 9 v0 d0 p0) (h1 : DataW.Trod enc Try.prog W 0 (fun _ => true) true 9 v1 d1 p1)
    (o0 : Value.okWide Try.prog W .any base 9 v0) (o1 : Value.okWide Try.prog W .any base 9 v1) :
    Calls Try.prog 5 #[v0, v1] W fun e w' => e = .returned (.bool true) ∧ RowKit.Below W.heap.size W w' := by
  obtain ⟨s, rfl, rfl, rfl, ws⟩ := open_string Try.underlying9 o0 h0
  obtain ⟨t, rfl, rfl, rfl, wt⟩ := open_string Try.underlying9 o1 h1
  exact textCompares_any s t W (by unfold maxLen at ws; omega) (by unfold maxLen at wt; omega)
end Go.Proofs.Ytlkckdhenodhgaa
