/- contracts of code and of its reference: a text laid behind bytes -/
import Derived.Test.YthboiklcjpnhbaaCd2
import Derived.Test.YthboiklcjpnhbaaStrB
namespace Go.Proofs.Ythboiklcjpnhbaa
open Go.RowKit
set_option linter.unusedVariables false
set_option maxRecDepth 20000
/-- what of a text is laid -/
def cutS (s : ByteArray) : ByteArray := s.extract 0 (min s.size 65535)
theorem cutS_size (s : ByteArray) : (cutS s).size = min s.size 65535 := by simp [cutS, ByteArray.size_extract]
theorem cutS_small (s : ByteArray) (h : s.size ≤ 65535) : cutS s = s := by
  unfold cutS; rw [Nat.min_eq_left h, ByteArray.extract_zero_size]
theorem cutS_great (s : ByteArray) (h : 65535 < s.size) : cutS s = s.extract 0 65535 := by
  unfold cutS; rw [Nat.min_eq_right (by omega)]
def putTextV (bs : List Nat) (s : ByteArray) : List Nat := bs ++ Cod.bytesOf (cutS s).size 2 ++ strB (cutS s)
theorem bitsV_nat (n : Nat) (h : n < 18446744073709551616) : bitsV (n : Int) = n := by
  unfold bitsV; simp only [IntKind.wrap, IntKind.signed, IntKind.bits]; simp; omega
set_option maxHeartbeats 800000 in
theorem putText_any (a : Option Addr) (n cap : Nat) (bs : List Nat) (s : ByteArray) (w : World) (h : HoldsB w a n bs) (hnil : a = none → n = 0 ∧ cap = 0) (hn : n ≤ 262144) (hs : s.size ≤ 1048576) :
    Calls Try.prog 85 #[.slice a n cap, .string s] w (RetB 5 w (putTextV bs s)) := by
  obtain ⟨i0, hi, hz0, hz1, hz2⟩ := info_parts u8_info
  have HN := Lib.hid hnil; have H := Lib.hid h; have HL := Lib.hid h.len
  clear h hnil
  have hcs := cutS_size s
  go_enter Try.func85, Try.ntmps85
  go_upto_region 1 with fail
  go_cut [1] (fun x wx => x = .string (cutS s) ∧ w = wx)
  case first =>
    by_cases h6 : s.size ≤ 65535
    · have e1 := cutS_small s h6
      have E1 := Lib.hid e1
      clear e1 hcs
      go_wp2_with fail
      all_goals go_meet
      all_goals exact ⟨by first | (rw [E1.out]; done) | (rw [E1.out, show (min (s.size : Int) 65535).toNat = s.size by omega, ByteArray.extract_zero_size]), rfl⟩
    · have e1 := cutS_great s (by omega)
      have E1 := Lib.hid e1
      clear e1 hcs
      go_wp2_with fail
      all_goals go_meet
      all_goals exact ⟨by first | (rw [E1.out]; done) | (rw [E1.out, show (min (s.size : Int) 65535).toNat = 65535 by omega]), rfl⟩
  case rest =>
    obtain ⟨rfl, rfl⟩ := hcut
    have hc6 : (cutS s).size ≤ 65535 := by omega
    obtain ⟨c, hc⟩ : ∃ c, cutS s = c := ⟨_, rfl⟩
    rw [hc] at hc6 ⊢
    have HC := Lib.hid hc
    clear hc hcs
    go_wp2_with fail
    refine (fresh_any a n cap bs _ _ H.out HN.out (by omega) (by omega) (by omega)).mono ?_
    rintro e w1 ⟨a1, c1, rfl, hown1, hb1, hnil1⟩
    rw [HL.out] at hown1 ⊢
    have O1 := Lib.hid hown1; have B1 := Lib.hid hb1
    clear hown1 hb1 hnil1
    go_wp2_with fail
    refine (put_any none 0 0 [] (c.size : Int) 2 _ (holdsB_nil _ _) (fun _ => ⟨rfl, rfl⟩) (by omega)).mono ?_
    rintro e w2 ⟨a2, c2, rfl, hown2, hb2, hnil2⟩
    rw [bitsV_nat c.size (by omega)] at hown2 hnil2 ⊢
    have e2 : ([] ++ Cod.bytesOf c.size (sizeV 2) : List Nat) = Cod.bytesOf c.size 2 := rfl
    have e3 : (Cod.bytesOf c.size 2).length = 2 := Cod.bytesOf_length _ _
    rw [e2, e3] at hown2 ⊢
    have hv2 := owns_holds hown2
    have hn2 := (owns_none hown2).1
    have hk1 : w2.ownsRow w.heap.size 5 1 (.slice a1 n c1) n (bytesV bs) := owns_below O1.out hb2
    have V2 := Lib.hid hv2; have N2 := Lib.hid hn2; have K1 := Lib.hid hk1; have B2 := Lib.hid (B1.out.trans (hb2.mono B1.out.size)); have E3 := Lib.hid e3
    clear hown2 hb2 hnil2 hv2 hn2 hk1 e2 e3
    go_wp2_with (first | (at_builtin; refine wpList_append_any rfl (.tmp 16) (.tmp 19) 39 rfl w.heap.size 5 i0 (.int .u8 0) 1 1 Try.underlying39 hi hz0 hz1 hz2 rfl (by decide) _ n (bytesV bs) rfl K1.out a2 2 c2 (bytesV (Cod.bytesOf c.size 2)) rfl N2.out (by rw [bytesV_length, E3.out]) (V2.out.cells (World.grownBy.refl _ _)) (bytesV_one _) (by unfold maxLen; omega) (by omega) B2.out.size ?_; intro a3 c3 w3 hown3 hb3 hnil3; rw [bytesV_append] at hown3) | (at_builtin; refine wpList_append_str rfl (.tmp 21) (.tmp 22) 39 9 rfl w.heap.size 5 i0 Try.underlying39 Try.underlying9 hi hz0 hz1 hz2 _ (n + 2) _ rfl hown3 c rfl (by unfold maxLen; omega) (by omega) (B2.out.trans hb3).size ?_; intro a4 c4 w4 hown4 hb4))
    go_ret
    unfold putTextV
    rw [HC.out]
    have hL : (bs ++ Cod.bytesOf c.size 2 ++ strB c).length = n + 2 + c.size := by rw [List.length_append, List.length_append, HL.out, Cod.bytesOf_length, strB_length]
    refine ⟨a4, c4, by rw [hL]; rfl, by rw [hL]; exact hown4, (B2.out.trans hb3).trans hb4, by rw [hL]; exact (owns_none hown4).1⟩
end Go.Proofs.Ythboiklcjpnhbaa
