/- contract of the document's Compare -/
import Derived.Test.YthboiklcjpnhbaaCp1
import Derived.Test.YthboiklcjpnhbaaRg1
import Derived.Deep.QuietTactic
import Derived.BigQuiet
import Derived.Deep.DeepCutAuto
namespace Go.Proofs.Ythboiklcjpnhbaa
open Go.RowKit
set_option linter.unusedVariables false
set_option maxRecDepth 20000
theorem drop_at (s : ByteArray) (j : Nat) (h : j < s.size) : ∃ c : UInt8, s.toList.drop j = c :: s.toList.drop (j + 1) ∧ c.toNat = byteS s j := by
  have hl : j < s.toList.length := by rw [ByteArray.toList_eq, Array.length_toList]; exact h
  refine ⟨s.toList[j], (List.drop_eq_getElem_cons hl), ?_⟩
  rw [← byteS_at s j h]
  simp only [ByteArray.toList_eq, Array.getElem_toList]
  rfl
theorem drop_end (s : ByteArray) (j : Nat) (h : s.size ≤ j) : s.toList.drop j = [] := by
  apply List.drop_eq_nil_of_le
  rw [ByteArray.toList_eq, Array.length_toList]; exact h
theorem drewn_more {w w1 : World} (h : ∃ m, w1 = w.drewN m) (n : Nat) : ∃ m, w1.drewN n = w.drewN m := by
  obtain ⟨m, rfl⟩ := h; exact ⟨_, World.drewN_drewN _ _ _⟩
set_option maxHeartbeats 1600000 in
theorem rcompare_quiet (a b : ByteArray) (w : World) (hsa : a.size ≤ 1048576) (hsb : b.size ≤ 1048576) :
    Calls Try.prog 93 #[.string a, .string b] w fun e w' => e = .returned (.int .i64 (cmpS a b)) ∧ ∃ m, w' = w.drewN m := by
  go_enter Try.func93, Try.ntmps93
  go_wp2_with fail
  go_loopw [5] (fun iv wr => ∃ j : Nat, j ≤ a.size ∧ j ≤ b.size ∧ iv = .int .i64 j ∧ Hid (cmpS a b = cmpL (a.toList.drop j) (b.toList.drop j)) ∧ Hid (∃ m, wr = w.drewN m)) (fun iv _ => a.size - (intOf iv).toNat)
  case atStart => exact ⟨0, by omega, by omega, rfl, Lib.hid rfl, Lib.hid ⟨0, rfl⟩⟩
  case round =>
    obtain ⟨j, hja, hjb, rfl, hC, hB⟩ := hrel
    by_cases hla : j < a.size
    · by_cases hlb : j < b.size
      · obtain ⟨c, hc1, hc2⟩ := drop_at a j hla
        obtain ⟨d, hd1, hd2⟩ := drop_at b j hlb
        have hx := byteS_at a j hla
        have hy := byteS_at b j hlb
        have hcd := cmpL_cons c d (a.toList.drop (j + 1)) (b.toList.drop (j + 1))
        rw [← hc1, ← hd1, hc2, hd2, ← hC.out] at hcd
        have bx := byteS_lt a j; have by' := byteS_lt b j
        obtain ⟨x, hx2⟩ : ∃ x, byteS a j = x := ⟨_, rfl⟩
        obtain ⟨y, hy2⟩ : ∃ y, byteS b j = y := ⟨_, rfl⟩
        rw [hx2] at hx hcd bx; rw [hy2] at hy hcd by'
        have HCD := Lib.hid hcd
        have g1 : (j : Int) < (a.size : Int) := by omega
        have g2 : (j : Int) < (b.size : Int) := by omega
        have g3 : (0 : Int) ≤ (j : Int) := by omega
        have HB1 := Lib.hid (fun nn => drewn_more hB.out nn)
        clear hc1 hc2 hd1 hd2 hx2 hy2 hcd hC hB
        rcases Nat.lt_trichotomy x y with h | h | h
        · have x1 : decide ((x : Int) < (y : Int)) = true := by simp; omega
          have hv := HCD.out
          rw [if_pos h] at hv
          have HV := Lib.hid hv
          clear hv
          go_upto_region 4 with fail
          go_quiet (fail)
          go_wp2_with fail
          go_ret
          exact ⟨ret_int HV.out.symm, HB1.out _⟩
        · subst h
          have hv := HCD.out
          rw [if_neg (Nat.lt_irrefl _), if_neg (Nat.lt_irrefl _)] at hv
          have HV := Lib.hid hv
          have x1 : decide ((x : Int) < (x : Int)) = false := by simp
          have x2 : decide ((x : Int) > (x : Int)) = false := by simp
          clear hv
          go_upto_region 4 with fail
          go_quiet (fail)
          go_upto_region 6 with fail
          go_quiet (fail)
          go_wp2_with fail
          go_roundw
          case rel => exact ⟨j + 1, by omega, by omega, by go_num, HV, Lib.hid (HB1.out _)⟩
          case measure => simp [intOf]; omega
        · have x1 : decide ((x : Int) < (y : Int)) = false := by simp; omega
          have x2 : decide ((x : Int) > (y : Int)) = true := by simp; omega
          have hv := HCD.out
          rw [if_neg (by omega), if_pos h] at hv
          have HV := Lib.hid hv
          clear hv
          go_upto_region 4 with fail
          go_quiet (fail)
          go_upto_region 6 with fail
          go_quiet (fail)
          go_wp2_with fail
          go_ret
          exact ⟨ret_int HV.out.symm, drewn_more (HB1.out _) _⟩
      · have h1 := drop_end b j (by omega)
        obtain ⟨c, hc1, _⟩ := drop_at a j hla
        have hv := hC.out
        rw [h1, hc1] at hv
        have HV := Lib.hid (hv.trans (show cmpL (c :: a.toList.drop (j + 1)) [] = 1 by simp [cmpL, Op.bytesLess]))
        clear h1 hc1 hv hC
        go_wp2_with fail
        go_ret
        exact ⟨ret_int HV.out.symm, hB.out⟩
    · have h1 := drop_end a j (by omega)
      by_cases hlb : j < b.size
      · obtain ⟨c, hc1, _⟩ := drop_at b j hlb
        have hv := hC.out
        rw [h1, hc1] at hv
        have HV := Lib.hid (hv.trans (show cmpL [] (c :: b.toList.drop (j + 1)) = -1 by simp [cmpL, Op.bytesLess]))
        clear h1 hc1 hv hC
        go_wp2_with fail
        go_ret
        exact ⟨ret_int HV.out.symm, hB.out⟩
      · have h2 := drop_end b j (by omega)
        have hv := hC.out
        rw [h1, h2] at hv
        have HV := Lib.hid (hv.trans (show cmpL [] [] = 0 from rfl))
        clear h1 h2 hv hC
        go_wp2_with fail
        go_ret
        exact ⟨ret_int HV.out.symm, hB.out⟩
theorem rcompare_any (a b : ByteArray) (w : World) (hsa : a.size ≤ 1048576) (hsb : b.size ≤ 1048576) :
    Calls Try.prog 93 #[.string a, .string b] w fun e w' => e = .returned (.int .i64 (cmpS a b)) ∧ Below w.heap.size w w' :=
  (rcompare_quiet a b w hsa hsb).mono fun _ _ ⟨h1, m, h2⟩ => ⟨h1, by rw [h2]; exact below_drewN _ _⟩
end Go.Proofs.Ythboiklcjpnhbaa
