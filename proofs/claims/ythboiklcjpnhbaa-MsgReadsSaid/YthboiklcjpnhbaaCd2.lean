/- contracts of the reference's code: bytes laid -/
import Derived.Test.YthboiklcjpnhbaaCd1
namespace Go.Proofs.Ythboiklcjpnhbaa
open Go.RowKit
set_option linter.unusedVariables false
set_option maxRecDepth 20000
set_option maxHeartbeats 800000 in
theorem rput_any (a : Option Addr) (n cap : Nat) (bs : List Nat) (v size : Int) (w : World) (h : HoldsB w a n bs) (hnil : a = none → n = 0 ∧ cap = 0) (hn : n ≤ 524288) :
    Calls Try.prog 37 #[.slice a n cap, .int .i64 v, .int .i64 size] w (RetB 5 w (bs ++ Cod.bytesOf (bitsV v) (sizeV size))) := by
  obtain ⟨i0, hi, hz0, hz1, hz2⟩ := info_parts u8_info
  have HN := Lib.hid hnil; have H := Lib.hid h; have HL := Lib.hid h.len; have HV := Lib.hid h.values
  have hb := bitsV_eq v
  clear h hnil
  obtain ⟨s, hs⟩ : ∃ s : Nat, sizeV size = s := ⟨_, rfl⟩
  have hs8 : s ≤ 8 := by unfold sizeV at hs; omega
  have HS := Lib.hid hs
  clear hs
  go_enter Try.func37, Try.ntmps37
  go_upto_region 3 with (at_builtin; refine wpList_append_any rfl (.const (.slice none 0 0)) (.tmp 10) 39 rfl w.heap.size 5 i0 (.int .u8 0) 1 1 Try.underlying39 hi hz0 hz1 hz2 rfl (by decide) _ 0 [] rfl (World.ownsRow_nil _ _ _ _) a n cap (bytesV bs) rfl HN.out (by simpa using HV.out.1) (HV.out.cells (World.grownBy.refl _ _)) (bytesV_one bs) (by unfold maxLen; omega) (by omega) (Nat.le_refl _) ?_; intro a1 c1 w1 hown1 hb1 hnil1; simp only [Nat.zero_add, List.nil_append] at hown1)
  have O1 := Lib.hid hown1; have B1 := Lib.hid hb1
  clear hown1 hb1 hnil1
  go_cut [9] (fun x wx => x = .int .i64 ((s : Int) - 1) ∧ w1 = wx)
  case first =>
    go_wp2_with fail
    all_goals go_meet
    all_goals exact ⟨by congr 1; have hs := HS.out; unfold sizeV at hs; omega, rfl⟩
  case rest =>
    obtain ⟨rfl, rfl⟩ := hcut
    go_wp2_with fail
    go_loopw [7, 9] (fun x i wr => ∃ (k : Nat) (a2 : Option Addr) (c2 : Nat), k ≤ s ∧ i = .int .i64 ((s : Int) - 1 - k) ∧ x = .slice a2 (n + k) c2 ∧ Hid (wr.ownsRow w.heap.size 5 1 (.slice a2 (n + k) c2) (n + k) (bytesV (bs ++ (Cod.bytesOf (bitsV v) s).take k))) ∧ Hid (Below w.heap.size w wr)) (fun _ i _ => (intOf i + 1).toNat)
    case atStart => exact ⟨0, a1, c1, by omega, by congr 1; omega, by rw [Nat.add_zero], by rw [List.take_zero, List.append_nil, Nat.add_zero]; exact O1, B1⟩
    case round =>
      obtain ⟨k, a2, c2, hk, rfl, rfl, hO, hB⟩ := hrel
      by_cases hlt : k < s
      · have ht := Cod.bytesOf_take (bitsV v) s k hlt
        have hby := byte_at (bitsV v) (s - 1 - k)
        have HT := Lib.hid ht; have HBY := Lib.hid hby
        clear ht hby
        have q1 : (8 * ((s : Int) - 1 - (k : Int))).toNat = 8 * (s - 1 - k) := by omega
        go_wp2_with (at_builtin; refine wpList_append_any rfl (.tmp 22) (.tmp 28) 39 rfl w.heap.size 5 i0 (.int .u8 0) 1 1 Try.underlying39 hi hz0 hz1 hz2 rfl (by decide) _ (n + k) _ rfl (hO.out.alloc _) _ 1 1 _ rfl (some_none _) rfl (one_new _ _ _ _) (one_int _ _) (by unfold maxLen; omega) (by omega) (by have := hB.out.size; simp; omega) ?_; intro a3 c3 w3 hown3 hb3 hnil3)
        have hv : bytesV (bs ++ List.take (k + 1) (Cod.bytesOf (bitsV v) s)) = bytesV (bs ++ List.take k (Cod.bytesOf (bitsV v) s)) ++ [Value.int .u8 ((bitsV v : Int) / 2 ^ (8 * (s - 1 - k)) % 256)] := by
          rw [HT.out, HBY.out, ← List.append_assoc, ← bytesV_append]; rfl
        go_roundw
        case rel => exact ⟨k + 1, a3, c3, by omega, by congr 1; omega, rfl, by rw [hv]; exact hown3, hB.out.trans ((below_one _ _).mono hB.out.size |>.trans hb3)⟩
        case measure => simp [intOf]; omega
      · have hks : k = s := by omega
        have hfin : bs ++ (Cod.bytesOf (bitsV v) s).take k = bs ++ Cod.bytesOf (bitsV v) s := by rw [List.take_of_length_le (by rw [Cod.bytesOf_length, hks]; exact Nat.le_refl _)]
        have hlen : (bs ++ Cod.bytesOf (bitsV v) s).length = n + k := by rw [List.length_append, HL.out, Cod.bytesOf_length, hks]
        have hO2 := hO.out
        rw [hfin] at hO2
        have HO2 := Lib.hid hO2; have HLL := Lib.hid hlen
        clear hks hfin hlen hO2
        go_wp2
        go_ret
        rw [HS.out]
        exact ⟨a2, c2, by rw [HLL.out]; rfl, by rw [HLL.out]; exact HO2.out, hB.out, by rw [HLL.out]; exact (owns_none HO2.out).1⟩
end Go.Proofs.Ythboiklcjpnhbaa
