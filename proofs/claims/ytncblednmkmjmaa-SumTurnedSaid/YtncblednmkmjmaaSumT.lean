/- the law that bytes of which up to four that lie together are other ones have another sum -/
import Derived.Test.YtncblednmkmjmaaSumJ
import Derived.Test.YtncblednmkmjmaaCrcT
import Derived.BigRegion
import Derived.Laws.BitsAllLaws
namespace Go.Proofs.Ytncblednmkmjmaa
open Go.RowKit
set_option linter.unusedVariables false
def lowV (x n : Int) : Int := IntKind.u64.wrap x % n
theorem low_bd (x n : Int) (h : 0 < n) : 0 ≤ lowV x n ∧ lowV x n < n := ⟨Int.emod_nonneg _ (by omega), Int.emod_lt_of_pos _ h⟩
theorem u64_in (n : Int) (h : 0 ≤ n) (h2 : n < 18446744073709551616) : IntKind.u64.wrap n = n := by
  simp only [IntKind.wrap, IntKind.signed, IntKind.bits]; simp; omega
theorem u64_bd (d : Int) : 0 ≤ IntKind.u64.wrap d ∧ IntKind.u64.wrap d < 18446744073709551616 := by
  simp only [IntKind.wrap, IntKind.signed, IntKind.bits]; simp; omega
theorem low_any (x n : Int) (h : 1 ≤ n) (h2 : n < 4611686018427387904) (w : World) :
    Calls Try.prog 16 #[.int .i64 x, .int .i64 n] w fun e w' => e = .returned (.int .i64 (lowV x n)) ∧ w = w' := by
  have hb := low_bd x n (by omega)
  have hw := u64_in n (by omega) (by omega)
  have hx := u64_bd x
  go_enter Try.func16, Try.ntmps16
  go_wp2
  go_ret
  exact ⟨ret_int (by unfold lowV at *; rw [IntWalk.wrap64_in _ ⟨by omega, by omega⟩]), rfl⟩
theorem cast_byte (t e : Nat) : ((t : Int) / 2 ^ e % 256) = ((t / 2 ^ e % 256 : Nat) : Int) := by rw [Int.natCast_emod, Int.natCast_ediv, Int.natCast_pow]; rfl
theorem xor_u8 (z t : Nat) (hz : z < 256) : bits BinOp.xor IntKind.u8 (z : Int) ((t % 256 : Nat) : Int) = ((z ^^^ (t % 256) : Nat) : Int) := u8_xor_nat z (t % 256) hz (Nat.mod_lt _ (by decide))

set_option maxHeartbeats 800000 in
theorem sumTurned_any (a : Option Addr) (n cap : Nat) (bs : List Nat) (at_ : Int) (t : Nat) (w : World) (h : HoldsB w a n bs) (hnil : a = none → n = 0 ∧ cap = 0) (hn : n ≤ 9223372036854775807) (ht : t < 4294967296) :
    Calls Try.prog 5 #[.slice a n cap, .int .i64 at_, .int .u32 t] w fun e w' => e = .returned (.bool true) ∧ Below w.heap.size w w' := by
  obtain ⟨i0, hi, hz0, hz1, hz2⟩ := info_parts u8_info
  have HX := Lib.hid h; have HN := Lib.hid hnil
  clear h hnil
  by_cases hg : n ≤ 600 ∧ 4 ≤ n ∧ t ≠ 0
  · obtain ⟨hg1, hg2, hg3⟩ := hg
    have hgt : ((t : Int) == 0) = false := by rw [beq_eq_false_iff_ne]; omega
    have hd1 : decide ((600 : Int) < (n : Int)) = false := by rw [decide_eq_false_iff_not]; omega
    have hd2 : decide ((n : Int) < 4) = false := by rw [decide_eq_false_iff_not]; omega
    have hl1 := HX.out.values
    have V1 := Lib.hid hl1
    clear hl1
    have hb := low_bd at_ ((n : Int) - 3) (by omega)
    obtain ⟨k, hk⟩ : ∃ k : Nat, lowV at_ ((n : Int) - 3) = (k : Int) := ⟨(lowV at_ ((n : Int) - 3)).toNat, by omega⟩
    have hk2 : k + 4 ≤ n := by omega
    have HK := Lib.hid hk
    clear hk hb
    go_enter Try.func5, Try.ntmps5
    go_wp2_with fail
    refine (low_any _ _ (by omega) (by omega) _).mono ?_
    rintro e w' ⟨rfl, rfl⟩
    rw [HK.out]
    go_wp2_with (at_builtin; refine wpList_append_any rfl (.const (.slice none 0 0)) (.tmp 28) 22 rfl w.heap.size 5 i0 (.int .u8 0) 1 1 Try.underlying22 hi hz0 hz1 hz2 rfl (by decide) _ 0 [] rfl (World.ownsRow_nil _ _ _ _) a n cap (bytesV bs) rfl HN.out (by simpa using V1.out.1) (V1.out.cells (World.grownBy.refl _ _)) (bytesV_one bs) (by unfold maxLen; omega) (by omega) (Nat.le_refl _) ?_; intro a1 c1 w1 hown1 hb1 hnil1; simp only [Nat.zero_add, List.nil_append] at hown1)
    obtain ⟨g, rfl⟩ : ∃ g, a1 = some ⟨g, 0, none⟩ := by
      obtain ⟨g, cap', hv⟩ := Joins.ownsRow_form hown1 (by omega)
      simp only [Value.slice.injEq] at hv
      exact ⟨g, hv.1⟩
    have O1 := Lib.hid hown1; have B1 := Lib.hid hb1
    clear hown1 hb1 hnil1
    go_loopw [9] (fun v wr => ∃ i : Nat, i ≤ 4 ∧ v = .int .i64 i ∧ Hid (wr.ownsRow w.heap.size 5 1 (.slice (some ⟨g, 0, none⟩) n c1) n (bytesV (Crc.turn bs k t i))) ∧ Hid (Below w.heap.size w wr)) (fun v _ => 4 - (intOf v).toNat)
    case atStart => exact ⟨0, by omega, rfl, O1, B1⟩
    case round =>
      obtain ⟨i, hi4, rfl, hO, hB⟩ := hrel
      by_cases hlt : i < 4
      · have hz := getD_lt (Crc.turn_lt bs k t i HX.out.2) (k + i)
        have hc := hO.out.cellAt (k + i) (by omega)
        have hf := hO.out.frozenAt (k + i)
        have hs := hO.out.stored (k + i) (.int .u8 (((Crc.turn bs k t i).getD (k + i) 0 ^^^ (t / 2 ^ (8 * i) % 256) : Nat) : Int))
        have hc2 : wr.cell? ⟨g, k + i, none⟩ = some (.int .u8 (((Crc.turn bs k t i).getD (k + i) 0 : Nat) : Int)) := by
          rw [hc, bytesV, List.getElem?_map, List.getElem?_map]
          have hlen : k + i < (Crc.turn bs k t i).length := by rw [Crc.turn_length, HX.out.len]; omega
          simp [List.getD_eq_getElem?_getD, hlen]
        clear hc
        obtain ⟨z, hzz⟩ : ∃ z, (Crc.turn bs k t i).getD (k + i) 0 = z := ⟨_, rfl⟩
        rw [hzz] at hz hs hc2
        have hx := xor_u8 z (t / 2 ^ (8 * i)) hz
        have HZ := Lib.hid hzz; have HS := Lib.hid hs
        clear hzz hs
        have q1 : IntKind.i64.wrap (8 * (i : Int)) = 8 * (i : Int) := IntWalk.i64_in _ (by omega)
        have q2 : IntKind.i64.wrap ((k : Int) + (i : Int)) = (k : Int) + (i : Int) := IntWalk.i64_in _ (by omega)
        go_wp2
        go_region
        all_goals go_wp2
        all_goals go_roundw
        case rel =>
          refine ⟨i + 1, by omega, by go_num, ?_, ?_⟩
          · have e1 : bits BinOp.xor IntKind.u8 (z : Int) ((t : Int) / 2 ^ (8 * i) % 256) = ((z ^^^ (t / 2 ^ (8 * i) % 256) : Nat) : Int) := by
              rw [cast_byte, hx]
            have e2 : bytesV (Crc.turn bs k t (i + 1)) = (bytesV (Crc.turn bs k t i)).set (k + i) (.int .u8 ((z ^^^ (t / 2 ^ (8 * i) % 256) : Nat) : Int)) := by
              rw [← HZ.out]; simp only [bytesV, Crc.turn, List.map_set]
            rw [e1, e2]
            exact Lib.hid (World.ownsRow.drew HS.out.1)
          · exact Lib.hid ((hB.out.setCell (p := ⟨g, k + i, none⟩) (hO.out.lt g rfl).1 _).drew)
        case measure => simp [intOf]; omega
      · obtain rfl : i = 4 := by omega
        have hx4 := holdsB_of_values (owns_holds hO.out) (Crc.turn_lt bs k t 4 HX.out.2)
        have H4 := Lib.hid hx4
        have hne := Crc.turn_ne bs k t HX.out.2 (by rw [HX.out.len]; exact hk2) ht hg3
        have hnb : (((Crc.sum (Crc.turn bs k t 4) : Nat) : Int) != ((Crc.sum bs : Nat) : Int)) = true := by rw [bne_iff_ne]; omega
        clear hx4 hne hgt hd1 hd2
        go_wp2_with fail
        refine (of_any _ n _ _ _ H4.out (by omega)).mono ?_
        rintro e w' ⟨rfl, rfl⟩
        go_wp2_with fail
        refine (of_any _ n _ bs _ (HX.out.below hB.out) (by omega)).mono ?_
        rintro e w' ⟨rfl, rfl⟩
        go_wp2_with fail
        refine (awake_any _).mono ?_
        rintro e w' ⟨rfl, hb5⟩
        go_wp2_with fail
        go_ret
        exact ⟨rfl, hB.out.trans (hb5.mono hB.out.size)⟩
  · by_cases g1 : 600 < n
    · go_enter Try.func5, Try.ntmps5
      go_wp2_with fail
      refine (awake_any _).mono ?_
      rintro e w' ⟨rfl, hb3⟩
      go_wp2_with fail
      go_ret
      exact ⟨rfl, hb3⟩
    · by_cases g2 : n < 4
      · go_enter Try.func5, Try.ntmps5
        go_wp2_with fail
        refine (awake_any _).mono ?_
        rintro e w' ⟨rfl, hb3⟩
        go_wp2_with fail
        go_ret
        exact ⟨rfl, hb3⟩
      · obtain rfl : t = 0 := by omega
        clear hg
        have hd1 : decide ((600 : Int) < (n : Int)) = false := by rw [decide_eq_false_iff_not]; omega
        have hd2 : decide ((n : Int) < 4) = false := by rw [decide_eq_false_iff_not]; omega
        go_enter Try.func5, Try.ntmps5
        go_wp2_with fail
        refine (awake_any _).mono ?_
        rintro e w' ⟨rfl, hb3⟩
        go_wp2_with fail
        go_ret
        exact ⟨rfl, hb3⟩
open Go.ChangeShapes Go.WideShapes Go.ChangeAt in
theorem sumTurned_walk {H : Type} {enc : TypeId × Value → H} (W : World) (base : Nat) (v0 v1 v2 : Value) (d0 d1 d2 : DataW H) (p0 p1 p2 : List MemPlace)
    (h0 : DataW.Trod enc Try.prog W 0 (fun _ => true) true 22 v0 d0 p0) (h1 : DataW.Trod enc Try.prog W 0 (fun _ => true) true 3 v1 d1 p1) (h2 : DataW.Trod enc Try.prog W 0 (fun _ => true) true 25 v2 d2 p2)
    (o0 : Value.okWide Try.prog W .any base 22 v0) (o1 : Value.okWide Try.prog W .any base 3 v1) (o2 : Value.okWide Try.prog W .any base 25 v2) :
    Calls Try.prog 5 #[v0, v1, v2] W fun e w' => e = .returned (.bool true) ∧ RowKit.Below W.heap.size W w' := by
  obtain ⟨a, n, cap, xs, rfl, hh, hnil, h3, h4⟩ := open_bytes_arg o0 h0
  obtain ⟨at_, rfl, rfl, rfl, _⟩ := open_int Try.underlying3 o1 h1
  obtain ⟨t, rfl, rfl, rfl, wt⟩ := open_int Try.underlying25 o2 h2
  have hu : 0 ≤ t ∧ t < 4294967296 := by simp [Lit.wf, IntKind.min, IntKind.max, IntKind.signed, IntKind.bits] at wt; omega
  obtain ⟨u, rfl⟩ := Int.eq_ofNat_of_zero_le hu.1
  exact sumTurned_any a n cap xs at_ u W hh hnil (by unfold maxLen at h4; omega) (by omega)
end Go.Proofs.Ytncblednmkmjmaa
