/- contract of the reference's code: a text laid behind bytes -/
import Derived.Test.YthboiklcjpnhbaaCd3
namespace Go.Proofs.Ythboiklcjpnhbaa
open Go.RowKit
set_option linter.unusedVariables false
set_option maxRecDepth 20000
set_option maxHeartbeats 800000 in
theorem rputText_any (a : Option Addr) (n cap : Nat) (bs : List Nat) (s : ByteArray) (w : World) (h : HoldsB w a n bs) (hnil : a = none → n = 0 ∧ cap = 0) (hn : n ≤ 262144) (hs : s.size ≤ 1048576) :
    Calls Try.prog 89 #[.slice a n cap, .string s] w (RetB 5 w (putTextV bs s)) := by
  obtain ⟨i0, hi, hz0, hz1, hz2⟩ := info_parts u8_info
  have HN := Lib.hid hnil; have H := Lib.hid h; have HL := Lib.hid h.len
  clear h hnil
  have hcs := cutS_size s
  go_enter Try.func89, Try.ntmps89
  go_upto_region 1 with fail
  go_upto_if 7 with fail
  go_cut [1] (fun x wx => x = .string (cutS s) ∧ w = wx)
  case first =>
    by_cases h6 : s.size ≤ 65535
    · have e1 := cutS_small s h6
      have E1 := Lib.hid e1
      clear e1 hcs
      go_wp2_with fail
      all_goals go_meet
      all_goals exact ⟨by rw [E1.out], rfl⟩
    · have e1 := cutS_great s (by omega)
      have E1 := Lib.hid e1
      clear e1 hcs
      go_wp2_with fail
      all_goals go_meet
      all_goals exact ⟨by rw [E1.out], rfl⟩
  case rest =>
    obtain ⟨rfl, rfl⟩ := hcut
    have hc6 : (cutS s).size ≤ 65535 := by omega
    obtain ⟨c, hc⟩ : ∃ c, cutS s = c := ⟨_, rfl⟩
    rw [hc] at hc6 ⊢
    have HC := Lib.hid hc
    clear hc hcs
    go_wp2_with fail
    refine (rput_any a n cap bs (c.size : Int) 2 _ H.out HN.out (by omega)).mono ?_
    rintro e w2 ⟨a2, c2, rfl, hown2, hb2, hnil2⟩
    rw [bitsV_nat c.size (by omega)] at hown2 hnil2 ⊢
    have e2 : (bs ++ Cod.bytesOf c.size (sizeV 2) : List Nat) = bs ++ Cod.bytesOf c.size 2 := rfl
    have e3 : (bs ++ Cod.bytesOf c.size 2).length = n + 2 := by rw [List.length_append, HL.out, Cod.bytesOf_length]
    rw [e2, e3] at hown2 ⊢
    have K2 := Lib.hid hown2; have B2 := Lib.hid hb2; have E3 := Lib.hid e3
    clear hown2 hb2 hnil2 e2 e3
    have kc := fun (w : World) (s : ByteArray) => Lib.run_convert_string_bytes (P := Try.prog) w 9 39 5 s Try.underlying9 Try.underlying39 Try.underlying5
    have hbw := below_bytesWorld w2 5 c
    have hV := (holdsB_bytesWorld w2 5 c).values
    have BW := Lib.hid hbw; have HV := Lib.hid hV
    clear hbw hV
    go_wp2_with (at_builtin; refine wpList_append_any rfl (.tmp 13) (.tmp 15) 39 rfl w.heap.size 5 i0 (.int .u8 0) 1 1 Try.underlying39 hi hz0 hz1 hz2 rfl (by decide) _ (n + 2) _ rfl (owns_below K2.out BW.out) _ c.size _ (bytesV (strB c)) rfl (some_none _) (by rw [bytesV_length, strB_length, Nat.mul_one]) (HV.out.cells (World.grownBy.refl _ _)) (bytesV_one _) (by unfold maxLen; omega) (by omega) (B2.out.trans (BW.out.mono B2.out.size)).size ?_; intro a3 c3 w3 hown3 hb3 hnil3; rw [bytesV_append] at hown3)
    go_ret
    unfold putTextV
    rw [HC.out]
    have hL : (bs ++ Cod.bytesOf c.size 2 ++ strB c).length = n + 2 + c.size := by rw [List.length_append, List.length_append, HL.out, Cod.bytesOf_length, strB_length]
    refine ⟨a3, c3, by rw [hL]; rfl, by rw [hL]; exact hown3, (B2.out.trans (BW.out.mono B2.out.size)).trans hb3, by rw [hL]; exact (owns_none hown3).1⟩
end Go.Proofs.Ythboiklcjpnhbaa
