/- contracts of code: bytes laid -/
import Derived.Test.YthboiklcjpnhbaaChecked
import Derived.Test.YthboiklcjpnhbaaHb
import Derived.Test.YthboiklcjpnhbaaCdM
import Derived.WalkLawsBesides
import Derived.WalkSpells
import Derived.Outline
import Derived.Deep.DeepCutAuto
namespace Go.Proofs.Ythboiklcjpnhbaa
open Go.RowKit
set_option linter.unusedVariables false
set_option maxRecDepth 20000
theorem u8_info : (Try.prog.info? 5).map (fun i => (i.zero, i.size, i.bytes)) = some (some (.int .u8 0), 1, 1) := by kernel_rfl

set_option maxHeartbeats 400000 in
theorem fresh_any (a : Option Addr) (n cap : Nat) (bs : List Nat) (m : Int) (w : World) (h : HoldsB w a n bs) (hnil : a = none → n = 0 ∧ cap = 0) (hn : n ≤ 1048576) (hm : 0 ≤ m) (hm2 : m ≤ 1048576) :
    Calls Try.prog 88 #[.slice a n cap, .int .i64 m] w (RetB 5 w bs) := by
  obtain ⟨i0, hi, hz0, hz1, hz2⟩ := info_parts u8_info
  obtain ⟨k, rfl⟩ := Int.eq_ofNat_of_zero_le hm
  have HN := Lib.hid hnil; have HV := Lib.hid h.values; have HL := Lib.hid h.len
  clear h hnil
  go_enter Try.func88, Try.ntmps88
  go_wp2_with (first | (at_make; refine wpList_make_own _ rfl _ _ 39 rfl w.heap.size 5 i0 (.int .u8 0) 1 Try.underlying39 hi hz0 hz1 _ _ _ (n + k) rfl rfl (by omega) (by rw [hz2]; omega) (by unfold maxLen; omega) (Nat.le_refl _) ?_; intro w0 hown0 hgrow0) | (at_builtin; refine wpList_append_any rfl (.tmp 9) (.tmp 10) 39 rfl w.heap.size 5 i0 (.int .u8 0) 1 1 Try.underlying39 hi hz0 hz1 hz2 rfl (by decide) _ 0 [] rfl hown0 a n cap (bytesV bs) rfl HN.out (by simpa using HV.out.1) (HV.out.cells hgrow0) (bytesV_one bs) (by unfold maxLen; omega) (by omega) (below_grown hgrow0 (by intro k hk; cases hk)).size ?_; intro a1 c1 w1 hown1 hb1 hnil1; simp only [Nat.zero_add, List.nil_append] at hown1))
  go_ret
  refine ⟨a1, c1, by rw [HL.out]; rfl, by rw [HL.out]; exact hown1, (below_grown hgrow0 (by intro k hk; cases hk)).trans hb1, by rw [HL.out]; simpa using hnil1⟩
/-- from 0 to 8 -/
def sizeV (s : Int) : Nat := (min (max s 0) 8).toNat
theorem u64_bd (d : Int) : 0 ≤ IntKind.u64.wrap d ∧ IntKind.u64.wrap d < 18446744073709551616 := by
  simp only [IntKind.wrap, IntKind.signed, IntKind.bits]; simp; omega
/-- a number's 64 bits -/
def bitsV (n : Int) : Nat := (IntKind.u64.wrap n).toNat
theorem bitsV_eq (n : Int) : IntKind.u64.wrap n = (bitsV n : Int) := by have := u64_bd n; unfold bitsV; omega
theorem byte_at (v k : Nat) : ((v : Int) / 2 ^ (8 * k) % 256) = ((v / 256 ^ k % 256 : Nat) : Int) := by
  rw [show (256 : Nat) ^ k = 2 ^ (8 * k) by rw [Nat.pow_mul], Int.natCast_emod, Int.natCast_ediv, Int.natCast_pow]; rfl
set_option maxHeartbeats 800000 in
theorem put_any (a : Option Addr) (n cap : Nat) (bs : List Nat) (v size : Int) (w : World) (h : HoldsB w a n bs) (hnil : a = none → n = 0 ∧ cap = 0) (hn : n ≤ 524288) :
    Calls Try.prog 64 #[.slice a n cap, .int .i64 v, .int .i64 size] w (RetB 5 w (bs ++ Cod.bytesOf (bitsV v) (sizeV size))) := by
  obtain ⟨i0, hi, hz0, hz1, hz2⟩ := info_parts u8_info
  have HN := Lib.hid hnil; have H := Lib.hid h; have HL := Lib.hid h.len
  have hb := bitsV_eq v
  clear h hnil
  obtain ⟨s, hs⟩ : ∃ s : Nat, sizeV size = s := ⟨_, rfl⟩
  have hs8 : s ≤ 8 := by unfold sizeV at hs; omega
  go_enter Try.func64, Try.ntmps64
  go_upto_region 1 with fail
  go_cut [2] (fun x wx => x = .int .i64 (s : Int) ∧ w = wx)
  case first =>
    go_wp2_with fail
    all_goals go_meet
    all_goals exact ⟨by congr 1; unfold sizeV at hs; omega, rfl⟩
  case rest =>
    obtain ⟨rfl, rfl⟩ := hcut
    go_wp2_with fail
    refine (fresh_any a n cap bs _ _ H.out HN.out (by omega) (by omega) (by omega)).mono ?_
    rintro e w1 ⟨a1, c1, rfl, hown1, hb1, hnil1⟩
    rw [HL.out] at hown1 ⊢
    have O1 := Lib.hid hown1; have B1 := Lib.hid hb1
    clear hown1 hb1 hnil1
    go_wp2_with fail
    go_loopw [7, 16] (fun x i wr => ∃ (k : Nat) (a2 : Option Addr) (c2 : Nat), k ≤ s ∧ i = .int .i64 k ∧ x = .slice a2 (n + k) c2 ∧ Hid (wr.ownsRow w.heap.size 5 1 (.slice a2 (n + k) c2) (n + k) (bytesV (bs ++ (Cod.bytesOf (bitsV v) s).take k))) ∧ Hid (Below w.heap.size w wr)) (fun _ i _ => s - (intOf i).toNat)
    case atStart => exact ⟨0, a1, c1, by omega, rfl, rfl, by rw [List.take_zero, List.append_nil]; exact O1, B1⟩
    case round =>
      obtain ⟨k, a2, c2, hk, rfl, rfl, hO, hB⟩ := hrel
      by_cases hlt : k < s
      · have ht := Cod.bytesOf_take (bitsV v) s k hlt
        have hby := byte_at (bitsV v) (s - 1 - k)
        have HT := Lib.hid ht; have HBY := Lib.hid hby
        clear ht hby
        have q1 : (8 * ((s : Int) - 1 - (k : Int))).toNat = 8 * (s - 1 - k) := by omega
        go_wp2_with (at_builtin; refine wpList_append_any rfl (.tmp 19) (.tmp 29) 39 rfl w.heap.size 5 i0 (.int .u8 0) 1 1 Try.underlying39 hi hz0 hz1 hz2 rfl (by decide) _ (n + k) _ rfl (hO.out.alloc _) _ 1 1 _ rfl (some_none _) rfl (one_new _ _ _ _) (one_int _ _) (by unfold maxLen; omega) (by omega) (by have := hB.out.size; simp; omega) ?_; intro a3 c3 w3 hown3 hb3 hnil3)
        have hv : bytesV (bs ++ List.take (k + 1) (Cod.bytesOf (bitsV v) s)) = bytesV (bs ++ List.take k (Cod.bytesOf (bitsV v) s)) ++ [Value.int .u8 ((bitsV v : Int) / 2 ^ (8 * (s - 1 - k)) % 256)] := by
          rw [HT.out, HBY.out, ← List.append_assoc, ← bytesV_append]; rfl
        go_roundw
        case rel => exact ⟨k + 1, a3, c3, by omega, by go_num, rfl, by rw [hv]; exact hown3, hB.out.trans ((below_one _ _).mono hB.out.size |>.trans hb3)⟩
        case measure => simp [intOf]; omega
      · have hks : k = s := by omega
        have hfin : bs ++ (Cod.bytesOf (bitsV v) s).take k = bs ++ Cod.bytesOf (bitsV v) s := by rw [List.take_of_length_le (by rw [Cod.bytesOf_length, hks]; exact Nat.le_refl _)]
        have hlen : (bs ++ Cod.bytesOf (bitsV v) s).length = n + k := by rw [List.length_append, HL.out, Cod.bytesOf_length, hks]
        have hO2 := hO.out
        rw [hfin] at hO2
        have HO2 := Lib.hid hO2; have HLL := Lib.hid hlen
        clear hks hfin hlen hO2
        go_wp2
        go_ret
        rw [hs]
        exact ⟨a2, c2, by rw [HLL.out]; rfl, by rw [HLL.out]; exact HO2.out, hB.out, by rw [HLL.out]; exact (owns_none HO2.out).1⟩
end Go.Proofs.Ythboiklcjpnhbaa
