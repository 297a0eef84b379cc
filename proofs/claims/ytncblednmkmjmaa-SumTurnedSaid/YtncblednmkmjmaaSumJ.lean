/- the law that the sum of two lists of bytes, one behind the other, is told by Add -/
import Derived.Test.YtncblednmkmjmaaSumA
import Derived.Test.YtncblednmkmjmaaOpB
namespace Go.Proofs.Ytncblednmkmjmaa
open Go.RowKit
set_option linter.unusedVariables false
theorem u8_info : (Try.prog.info? 5).map (fun i => (i.zero, i.size, i.bytes)) = some (some (.int .u8 0), 1, 1) := by kernel_rfl
theorem bytesV_append (a b : List Nat) : bytesV a ++ bytesV b = bytesV (a ++ b) := by simp [bytesV]
theorem holdsB_of_values {w : World} {a : Option Addr} {n : Nat} {bs : List Nat} (h : HoldsV w a n (bytesV bs)) (hb : ∀ b ∈ bs, b < 256) : HoldsB w a n bs := by
  have hl : bs.length = n := by have := h.1; simpa [bytesV] using this
  refine ⟨⟨by simpa using hl, fun h0 => ?_⟩, hb⟩
  obtain ⟨b, o, ha, hc⟩ := h.2 h0
  exact ⟨b, o, ha, fun i hi => by rw [hc i hi, bytesV, getD_map_int .u8 _ i (by simp [hl]; exact hi)]⟩
set_option maxHeartbeats 800000 in
theorem sumJoins_any (a a2 : Option Addr) (n cap n2 cap2 : Nat) (xs ys : List Nat) (w : World) (h : HoldsB w a n xs) (hnil : a = none → n = 0 ∧ cap = 0) (h2 : HoldsB w a2 n2 ys) (hnil2 : a2 = none → n2 = 0 ∧ cap2 = 0) (hn : n ≤ 9223372036854775807) (hn2 : n2 ≤ 9223372036854775807) :
    Calls Try.prog 4 #[.slice a n cap, .slice a2 n2 cap2] w fun e w' => e = .returned (.bool true) ∧ Below w.heap.size w w' := by
  obtain ⟨i0, hi, hz0, hz1, hz2⟩ := info_parts u8_info
  have HX := Lib.hid h; have HY := Lib.hid h2; have HN := Lib.hid hnil; have HN2 := Lib.hid hnil2
  clear h h2 hnil hnil2
  by_cases hbig : n ≤ 600
  · by_cases hbig2 : n2 ≤ 600
    · have hl1 := HX.out.values; have hl2 := HY.out.values
      have V1 := Lib.hid hl1; have V2 := Lib.hid hl2
      clear hl1 hl2
      go_enter Try.func4, Try.ntmps4
      go_wp2_with fail
      refine (of_any _ n _ xs _ HX.out (by omega)).mono ?_
      rintro e w' ⟨rfl, rfl⟩
      have hs := Crc.add_lt 0 xs
      have HS := Lib.hid hs
      clear hs
      go_wp2_with fail
      refine (add_any (Crc.sum xs) HS.out _ n2 _ ys _ HY.out (by omega)).mono ?_
      rintro e w' ⟨rfl, rfl⟩
      have he := Crc.sum_append xs ys HX.out.2
      rw [he]
      clear he
      go_wp2_with (first | (at_builtin; refine wpList_append_any rfl (.const (.slice none 0 0)) (.tmp 18) 22 rfl w.heap.size 5 i0 (.int .u8 0) 1 1 Try.underlying22 hi hz0 hz1 hz2 rfl (by decide) _ 0 [] rfl (World.ownsRow_nil _ _ _ _) a n cap (bytesV xs) rfl HN.out (by simpa using V1.out.1) (V1.out.cells (World.grownBy.refl _ _)) (bytesV_one xs) (by unfold maxLen; omega) (by omega) (Nat.le_refl _) ?_; intro a1 c1 w1 hown1 hb1 hnil1; simp only [Nat.zero_add, List.nil_append] at hown1) | (at_builtin; refine wpList_append_any rfl (.tmp 19) (.tmp 20) 22 rfl w.heap.size 5 i0 (.int .u8 0) 1 1 Try.underlying22 hi hz0 hz1 hz2 rfl (by decide) _ n (bytesV xs) rfl hown1 a2 n2 cap2 (bytesV ys) rfl HN2.out (by simpa using V2.out.1) ((V2.out.below hb1).cells (World.grownBy.refl _ _)) (bytesV_one ys) (by unfold maxLen; omega) (by omega) hb1.size ?_; intro a3 c3 w3 hown3 hb3 hnil3; rw [bytesV_append] at hown3))
      have h3 := holdsB_of_values (owns_holds hown3) (fun x hx => (List.mem_append.1 hx).elim (HX.out.2 x) (HY.out.2 x))
      have H3 := Lib.hid h3
      have B3 := Lib.hid (hb1.trans hb3)
      clear h3 hown3 hb1 hb3 hnil3 hown1 hnil1
      refine (of_any _ _ _ (xs ++ ys) _ H3.out (by omega)).mono ?_
      rintro e w' ⟨rfl, rfl⟩
      go_wp2_with fail
      refine (add_any 0 (by decide) _ _ _ ys _ (HY.out.below B3.out) (by omega)).mono ?_
      rintro e w' ⟨rfl, rfl⟩
      go_wp2_with fail
      refine (of_any _ _ _ ys _ (HY.out.below B3.out) (by omega)).mono ?_
      rintro e w' ⟨rfl, rfl⟩
      have he : ((Crc.add 0 ys : Nat) : Int) = (Crc.sum ys : Nat) := rfl
      rw [he]
      clear he
      go_wp2_with fail
      refine (awake_any _).mono ?_
      rintro e w' ⟨rfl, hb5⟩
      go_wp2_with fail
      go_ret
      exact ⟨rfl, B3.out.trans (hb5.mono B3.out.size)⟩
    · go_enter Try.func4, Try.ntmps4
      go_wp2_with fail
      refine (awake_any _).mono ?_
      rintro e w' ⟨rfl, hb3⟩
      go_wp2_with fail
      go_ret
      exact ⟨rfl, hb3⟩
  · go_enter Try.func4, Try.ntmps4
    go_wp2_with fail
    refine (awake_any _).mono ?_
    rintro e w' ⟨rfl, hb3⟩
    go_wp2_with fail
    go_ret
    exact ⟨rfl, hb3⟩
theorem sumJoins_walk {H : Type} {enc : TypeId × Value → H} (W : World) (base : Nat) (v0 v1 : Value) (d0 d1 : DataW H) (p0 p1 : List MemPlace)
    (h0 : DataW.Trod enc Try.prog W 0 (fun _ => true) true 22 v0 d0 p0) (h1 : DataW.Trod enc Try.prog W 0 (fun _ => true) true 22 v1 d1 p1)
    (o0 : Value.okWide Try.prog W .any base 22 v0) (o1 : Value.okWide Try.prog W .any base 22 v1) :
    Calls Try.prog 4 #[v0, v1] W fun e w' => e = .returned (.bool true) ∧ RowKit.Below W.heap.size W w' := by
  obtain ⟨a, n, cap, xs, rfl, hh, hnil, h1, h2⟩ := open_bytes_arg o0 h0
  obtain ⟨a2, n2, cap2, ys, rfl, hh2, hnil2, h3, h4⟩ := open_bytes_arg o1 ‹_›
  exact sumJoins_any a a2 n cap n2 cap2 xs ys W hh hnil hh2 hnil2 (by unfold maxLen at h2; omega) (by unfold maxLen at h4; omega)
end Go.Proofs.Ytncblednmkmjmaa
