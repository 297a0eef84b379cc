/- Edit distances of lists with other runes in place of theirs; the contract of 'other'. -/
import Derived.Test.YtkbiaebjhjdjaaaEd5
import Derived.Test.YtkbiaebjhjdjaaaEdA
import Derived.Laws.BitsAllLaws
namespace Go.Proofs.Ytkbiaebjhjdjaaa
open Go.RowKit
set_option linter.unusedVariables false
theorem getD_map_in (f : Int → Int) (l : List Int) (i : Nat) (h : i < l.length) : (l.map f).getD i 0 = f (l.getD i 0) := by simp [List.getD_eq_getElem?_getD, h]
theorem getD_mem_in (l : List Int) (i : Nat) (h : i < l.length) : l.getD i 0 ∈ l := by simp [List.getD_eq_getElem?_getD, h]
theorem Ed.L_renamed (a b : List Int) (f : Int → Int) (hf : ∀ x ∈ a, ∀ y ∈ b, f x = f y → x = y) : ∀ i j, i ≤ a.length → j ≤ b.length → Ed.L (a.map f) (b.map f) i j = Ed.L a b i j := by
  intro i
  induction i with
  | zero => intro j _ _; simp only [Ed.L]
  | succ i ih =>
    intro j hi
    induction j with
    | zero => intro _; simp only [Ed.L]
    | succ j ihj =>
      intro hj
      have h1 := ih j (by omega) (by omega)
      have h2 := ih (j + 1) (by omega) hj
      have h3 := ihj (by omega)
      have hc : Ed.cost ((a.map f).getD i 0) ((b.map f).getD j 0) = Ed.cost (a.getD i 0) (b.getD j 0) := by
        rw [getD_map_in f a i (by omega), getD_map_in f b j (by omega)]
        unfold Ed.cost
        by_cases e : a.getD i 0 = b.getD j 0
        · rw [if_pos e, if_pos (by rw [e])]
        · rw [if_neg e, if_neg (fun h => e (hf _ (getD_mem_in a i (by omega)) _ (getD_mem_in b j (by omega)) h))]
      simp only [Ed.L]
      rw [h1, h2, h3, hc]
theorem wrap_i32_nat (n : Int) : IntKind.i32.wrap n = (n + 2147483648) % 4294967296 - 2147483648 := by
  simp [IntKind.wrap, IntKind.bits, IntKind.signed]
  try omega
theorem xor_inj {x y z : Int} (hx : -2147483648 ≤ x ∧ x ≤ 2147483647) (hy : -2147483648 ≤ y ∧ y ≤ 2147483647) (h : bits .xor .i32 x z = bits .xor .i32 y z) : x = y := by
  have h1 : IntKind.i32.wrap ((BitVec.ofInt 32 x ^^^ BitVec.ofInt 32 z).toNat : Int) = IntKind.i32.wrap ((BitVec.ofInt 32 y ^^^ BitVec.ofInt 32 z).toNat : Int) := h
  rw [wrap_i32_nat, wrap_i32_nat] at h1
  have l1 := (BitVec.ofInt 32 x ^^^ BitVec.ofInt 32 z).isLt
  have l2 := (BitVec.ofInt 32 y ^^^ BitVec.ofInt 32 z).isLt
  have h2 : (BitVec.ofInt 32 x ^^^ BitVec.ofInt 32 z).toNat = (BitVec.ofInt 32 y ^^^ BitVec.ofInt 32 z).toNat := by omega
  have h3 := BitVec.eq_of_toNat_eq h2
  have h4 := congrArg (· ^^^ BitVec.ofInt 32 z) h3
  simp only [BitVec.xor_assoc, BitVec.xor_self, BitVec.xor_zero] at h4
  have h5 := congrArg BitVec.toNat h4
  rw [BitVec.toNat_ofInt, BitVec.toNat_ofInt] at h5
  omega
/-- other runes -/
def othersI (by' : Int) (zs : List Int) : List Int := zs.map fun x => bits .xor .i32 x by'
theorem others_snoc (z : Int) (zs : List Int) (k : Nat) (h : k < zs.length) : runesV (othersI z (zs.take (k + 1))) = runesV (othersI z (zs.take k)) ++ [Value.int .i32 (bits .xor .i32 (zs.getD k 0) z)] := by
  rw [take_succ_getD zs 0 k h]
  simp [runesV, othersI]
set_option maxHeartbeats 800000 in
theorem other_any (zs : List Int) (a : Option Addr) (ca : Nat) (z : Int) (w : World) (ha : HoldsI .i32 w a zs.length zs) (hl : zs.length ≤ 1048576) :
    Calls Try.prog 47 #[.slice a zs.length ca, .int .i32 z] w fun e w' => ∃ a2 c2, e = .returned (.slice a2 zs.length c2) ∧ HoldsI .i32 w' a2 zs.length (othersI z zs) ∧ Below w.heap.size w w' := by
  obtain ⟨i0, hi, hz0, hz1, hz2⟩ := info_parts i32_info
  obtain ⟨n, hn⟩ : ∃ n, zs.length = n := ⟨_, rfl⟩
  rw [hn] at ha hl ⊢
  have HN := Lib.hid hn; have HA := Lib.hid ha
  clear hn ha
  go_enter Try.func47, Try.ntmps47
  go_wp2_with fail
  go_loopw [5, 6] (fun v i wr => ∃ (k : Nat) (a2 : Option Addr) (c2 : Nat), k ≤ n ∧ i = .int .i64 k ∧ v = .slice a2 k c2 ∧ Hid (wr.ownsRow w.heap.size 21 1 (.slice a2 k c2) k (runesV (othersI z (zs.take k)))) ∧ Hid (Below w.heap.size w wr)) (fun _ i _ => n - (intOf i).toNat)
  case atStart => exact ⟨0, none, 0, by omega, rfl, rfl, Lib.hid ⟨by simp [runesV, othersI], Or.inl ⟨rfl, rfl⟩⟩, Lib.hid (Below.refl _ _)⟩
  case round =>
    obtain ⟨k, a2, c2, hk, rfl, rfl, hO, hB⟩ := hrel
    by_cases hlt : k < n
    · obtain ⟨ba, oa, rfl, hca⟩ := (HA.out.below hB.out).at (by omega)
      have e1 := hca k hlt
      clear hca
      have hsn := others_snoc z zs k (by rw [HN.out]; exact hlt)
      obtain ⟨x, hx⟩ : ∃ x, zs.getD k 0 = x := ⟨_, rfl⟩
      rw [hx] at e1 hsn
      have HSN := Lib.hid hsn
      clear hx hsn
      go_wp2_with (at_builtin; refine wpList_append_any rfl (.tmp 13) (.tmp 20) 39 rfl w.heap.size 21 i0 (.int .i32 0) 1 4 Try.underlying39 hi hz0 hz1 hz2 rfl (by decide) _ k _ rfl (hO.out.alloc _) _ 1 1 _ rfl (some_none _) rfl (one_new _ _ _ _) (one_int _ _) (by unfold maxLen; omega) (by omega) (by have := hB.out.size; simp; omega) ?_; intro a3 c3 w3 hown3 hb3 hnil3)
      go_roundw
      case rel => exact ⟨k + 1, a3, c3, by omega, by go_num, rfl, Lib.hid (by rw [HSN.out]; exact hown3), Lib.hid (hB.out.trans ((below_one _ _).mono hB.out.size |>.trans hb3))⟩
      case measure => simp [intOf]; omega
    · obtain rfl : k = n := by omega
      have hO2 := hO.out
      rw [List.take_of_length_le (by rw [HN.out]; exact Nat.le_refl _)] at hO2
      have hr : HoldsI .i32 wr a2 k (othersI z zs) := by
        have hv := owns_holds hO2
        have hlen : (othersI z zs).length = k := by simp [othersI, HN.out]
        refine ⟨hlen, fun h0 => ?_⟩
        obtain ⟨b, o, hab, hc⟩ := hv.2 h0
        exact ⟨b, o, hab, fun i hi => by rw [hc i hi, runesV, getD_map_int .i32 _ i (by omega)]⟩
      have HR := Lib.hid hr
      clear hO2 hr
      go_wp2
      go_ret
      exact ⟨a2, c2, rfl, HR.out, hB.out⟩
end Go.Proofs.Ytkbiaebjhjdjaaa
