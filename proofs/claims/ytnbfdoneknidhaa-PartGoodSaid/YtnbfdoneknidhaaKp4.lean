/- contracts of part.Less, may, Of, Lens, Least -/
import Derived.Test.YtnbfdoneknidhaaKp3
import Derived.Test.YtnbfdoneknidhaaTx1
import Derived.Test.YtnbfdoneknidhaaWd1
namespace Go.Proofs.Ytnbfdoneknidhaa
open Go.RowKit
set_option linter.unusedVariables false
theorem order_lit (a b : KV) (v : Int) (hv : ordK a b = v) (w : World) :
    Calls Try.prog 34 #[keyV a, keyV b] w fun e w' => e = .returned (.int .i64 v) ∧ Below w.heap.size w w' := by subst hv; exact order_any a b w
theorem box2 (w : World) (x y : Value) (t : TypeId) : ((w.alloc (.cells #[x] t)).alloc (.cells #[y] t)).heap.size = w.heap.size + 2 := by simp
theorem pless_any (a b : KV) (w : World) :
    Calls Try.prog 15 #[keyV a, keyV b] w fun e w' => e = .returned (.bool (lessK a b)) ∧ Below w.heap.size w w' := by
  unfold lessK
  have C := Lib.hid (fun w => order_any a b w)
  obtain ⟨v, hv⟩ : ∃ v, ordK a b = v := ⟨_, rfl⟩
  rw [hv] at C ⊢
  clear hv
  obtain ⟨a1, a2⟩ := a
  obtain ⟨b1, b2⟩ := b
  unfold keyV at C ⊢
  simp only at C ⊢
  go_enter Try.func15, Try.ntmps15
  go_wp2_with fail
  refine (C.out _).mono ?_
  rintro e w' ⟨rfl, hb⟩
  go_wp2_with fail
  go_ret
  exact ⟨rfl, ((Below.refl w.heap.size w).alloc (Nat.le_refl _) _ |>.alloc (by simp) _).trans (hb.mono (by simp; omega))⟩
theorem pless_lit (a b : KV) (c : Bool) (hc : lessK a b = c) (w : World) :
    Calls Try.prog 15 #[keyV a, keyV b] w fun e w' => e = .returned (.bool c) ∧ Below w.heap.size w w' := by subst hc; exact pless_any a b w
def mayK (k : KV) : Prop := 1 ≤ k.1 ∧ k.1 ≤ 12 ∧ 0 ≤ lenS k.2 ∧ lenS k.2 ≤ 12
instance (k : KV) : Decidable (mayK k) := by unfold mayK; infer_instance
theorem may_any (k : KV) (hk : KeyOk k) (w : World) :
    Calls Try.prog 31 #[keyV k] w fun e w' => e = .returned (.bool (decide (mayK k))) ∧ Below w.heap.size w w' := by
  obtain ⟨c, hcv⟩ : ∃ c, decide (mayK k) = c := ⟨_, rfl⟩
  rw [hcv]
  have hm : c = true ↔ mayK k := by rw [← hcv]; exact decide_eq_true_iff
  clear hcv
  obtain ⟨k1, k2⟩ := k
  have hb1 := hk.1
  unfold i64okK at hb1
  have C := Lib.hid (fun w => len_any k2 w hk.2)
  unfold mayK at hm
  unfold keyV
  simp only at hb1 hm ⊢
  have hs := hk.2
  simp only at hs
  obtain ⟨n, hn⟩ : ∃ n, lenS k2 = n := ⟨_, rfl⟩
  have hnb : -1 ≤ n ∧ n ≤ 9223372036854775807 := by rw [← hn]; have := lenS_bd k2; omega
  simp only [hn] at C hm
  clear hn hk
  have hcase : (k1 < 1 ∧ c = false) ∨ (1 ≤ k1 ∧ 12 < k1 ∧ c = false) ∨ (1 ≤ k1 ∧ k1 ≤ 12 ∧ n < 0 ∧ c = false) ∨ (1 ≤ k1 ∧ k1 ≤ 12 ∧ 0 ≤ n ∧ 12 < n ∧ c = false) ∨ (1 ≤ k1 ∧ k1 ≤ 12 ∧ 0 ≤ n ∧ n ≤ 12 ∧ c = true) := by
    cases c <;> simp at hm ⊢ <;> omega
  clear hm
  rcases hcase with ⟨h, rfl⟩ | ⟨h, h2, rfl⟩ | ⟨h, h2, h3, rfl⟩ | ⟨h, h2, h3, h4, rfl⟩ | ⟨h, h2, h3, h4, rfl⟩
  all_goals
    first
      | have x1 : decide (k1 ≥ 1) = false := by rw [decide_eq_false_iff_not]; omega
      | have x1 : decide (k1 ≥ 1) = true := by rw [decide_eq_true_iff]; omega
    first
      | have x2 : decide (k1 ≤ 12) = false := by rw [decide_eq_false_iff_not]; omega
      | have x2 : decide (k1 ≤ 12) = true := by rw [decide_eq_true_iff]; omega
      | skip
    first
      | have x3 : decide (n ≥ 0) = false := by rw [decide_eq_false_iff_not]; omega
      | have x3 : decide (n ≥ 0) = true := by rw [decide_eq_true_iff]; omega
      | skip
    first
      | have x4 : decide (n ≤ 12) = false := by rw [decide_eq_false_iff_not]; omega
      | have x4 : decide (n ≤ 12) = true := by rw [decide_eq_true_iff]; omega
      | skip
    have hcell : ∀ w', Below (w.alloc (.cells #[.int .i64 k1, .string k2] 24)).heap.size (w.alloc (.cells #[.int .i64 k1, .string k2] 24)) w' → w'.cell? ⟨w.heap.size, 0, none⟩ = some (.int .i64 k1) := fun w' hb => by
      rw [hb.cell (p := ⟨w.heap.size, 0, none⟩) (by simp)]; simp
    have HC := Lib.hid hcell
    clear hcell
    go_enter Try.func31, Try.ntmps31
    go_wp2_with fail
    refine (C.out _).mono ?_
    rintro e w' ⟨rfl, hb⟩
    have e1 := HC.out w' hb
    go_wp2_with fail
    go_ret
    exact ⟨rfl, (below_one w _).trans (hb.mono (by simp))⟩
theorem word_bool' {w : World} (s : Tx) (b : Bool) (hs : s.size ≤ 9223372036854775807) (hb : decide (wordP s) = b) :
    Calls Try.prog 25 #[.string s] w fun e w' => e = .returned (.bool b) ∧ Below w.heap.size w w' := by subst hb; exact word_any s w hs
/-! which shard a word belongs to -/
def keyOf (t : Tx) : KV := (lenS t, t)
def ofN (ks : List KV) (k : KV) : Nat := ks.findIdx fun c => decide (ordK k c < 0)
theorem ofN_le (ks : List KV) (k : KV) : ofN ks k ≤ ks.length := List.findIdx_le_length
def ofZ (ks : List KV) (t : Tx) : Int := if wordP t then ofN ks (keyOf t) else -1
theorem closure_any (B : Nat) (k c : KV) (w : World) (h0 : w.cell? ⟨B, 0, none⟩ = some (.int .i64 k.1)) (h1 : w.cell? ⟨B, 1, none⟩ = some (.string k.2)) :
    Calls Try.prog 38 #[keyV c, .pointer (some ⟨B, 0, none⟩)] w fun e w' => e = .returned (.bool (decide (ordK k c < 0))) ∧ Below w.heap.size w w' := by
  have C := Lib.hid (fun w => order_any k c w)
  obtain ⟨v, hv⟩ : ∃ v, ordK k c = v := ⟨_, rfl⟩
  rw [hv] at C ⊢
  clear hv
  obtain ⟨k1, k2⟩ := k
  obtain ⟨c1, c2⟩ := c
  unfold keyV at C ⊢
  simp only at C h0 h1 ⊢
  have e0 : (w.alloc (.cells #[.int .i64 c1, .string c2] 24)).cell? ⟨B, 0, none⟩ = some (.int .i64 k1) := by
    rw [(below_one w (.cells #[.int .i64 c1, .string c2] 24)).cell (p := ⟨B, 0, none⟩) (lt_of_cell h0)]; exact h0
  have e1 : (w.alloc (.cells #[.int .i64 c1, .string c2] 24)).cell? ⟨B, 1, none⟩ = some (.string k2) := by
    rw [(below_one w (.cells #[.int .i64 c1, .string c2] 24)).cell (p := ⟨B, 1, none⟩) (lt_of_cell h1)]; exact h1
  go_enter Try.func38, Try.ntmps38
  go_wp2_with fail
  refine (C.out _).mono ?_
  rintro e w' ⟨rfl, hb⟩
  go_wp2_with fail
  go_ret
  exact ⟨rfl, (below_one w _).trans (hb.mono (by simp))⟩
theorem findIdx_take {α : Type} (p : α → Bool) (xs : List α) (z : α) (j : Nat) (hj : j < xs.length) (h : ∀ x ∈ xs.take j, p x = false) (hp : p (xs.getD j z) = true) : xs.findIdx p = j := by
  rw [List.findIdx_eq hj]
  have e : xs.getD j z = xs[j] := by simp [List.getD_eq_getElem?_getD, hj]
  refine ⟨by rw [← e]; exact hp, fun i hi => ?_⟩
  have h1 := h xs[i] (by rw [List.mem_take_iff_getElem]; exact ⟨i, by omega, rfl⟩)
  simpa using h1
theorem findIdx_none {α : Type} (p : α → Bool) (xs : List α) (h : ∀ x ∈ xs, p x = false) : xs.findIdx p = xs.length := by
  rw [List.findIdx_eq_length]; exact h
def idxZ (ks : List KV) (k : KV) : Int := if ofN ks k < ks.length then ofN ks k else -1
set_option maxHeartbeats 1600000 in
theorem index_any (a : Option Addr) (n cap B : Nat) (ks : List KV) (k : KV) (w : World) (hh : HoldsK w a n ks) (hn : n ≤ 9223372036854775807) (h0 : w.cell? ⟨B, 0, none⟩ = some (.int .i64 k.1)) (h1 : w.cell? ⟨B, 1, none⟩ = some (.string k.2)) :
    Calls Try.prog 37 #[.slice a n cap, .func (.func 38) #[] #[.pointer (some ⟨B, 0, none⟩)]] w fun e w' => e = .returned (.int .i64 (idxZ ks k)) ∧ Below w.heap.size w w' := by
  have hl := hh.len
  have BK := Lib.hid (fun (w3 : World) (hb : Below w.heap.size w w3) => show w3.cell? ⟨B, 0, none⟩ = some (.int .i64 k.1) ∧ w3.cell? ⟨B, 1, none⟩ = some (.string k.2) from ⟨(hb.cell (p := ⟨B, 0, none⟩) (lt_of_cell h0)).trans h0, (hb.cell (p := ⟨B, 1, none⟩) (lt_of_cell h1)).trans h1⟩)
  clear h0 h1
  go_enter Try.func37, Try.ntmps37
  go_wp2_with fail
  go_loopw [8] (fun iv wr => ∃ j : Nat, j ≤ n ∧ iv = .int .i64 j ∧ Hid (∀ c ∈ ks.take j, decide (ordK k c < 0) = false) ∧ Hid (Below w.heap.size w wr)) (fun iv _ => n - (intOf iv).toNat)
  case atStart => exact ⟨0, by omega, rfl, Lib.hid (by simp), Lib.hid (Below.refl _ _)⟩
  case round =>
    obtain ⟨j, hj, rfl, hS, hB⟩ := hrel
    by_cases hlt : j < n
    · obtain ⟨b, o, rfl, hc⟩ := (hh.below hB.out).at (by omega)
      obtain ⟨e1, e2⟩ := hc j hlt
      have htk := take_succ_getD ks k0 j (by omega)
      obtain ⟨x, hx⟩ : ∃ x, ks.getD j k0 = x := ⟨_, rfl⟩
      rw [hx] at e1 e2 htk
      have HX := Lib.hid hx; have HT := Lib.hid htk
      clear hx htk hc
      have CL := Lib.hid (closure_any B k x wr (BK.out _ hB.out).1 (BK.out _ hB.out).2)
      unfold keyV at CL
      by_cases hp : ordK k x < 0
      · rw [decide_eq_true hp] at CL
        have hf := findIdx_take (fun c => decide (ordK k c < 0)) ks k0 j (by omega) hS.out (by rw [HX.out]; exact decide_eq_true hp)
        have hv : Hid (idxZ ks k = (j : Int)) := Lib.hid (by unfold idxZ ofN; rw [hf, if_pos (by omega)])
        clear hf hp
        go_wp2_with fail
        refine CL.out.mono ?_
        rintro e w2 ⟨rfl, hb2⟩
        go_wp2_with fail
        go_ret
        exact ⟨ret_int hv.out.symm, hB.out.trans (hb2.mono hB.out.size)⟩
      · rw [decide_eq_false hp] at CL
        have HP := Lib.hid (decide_eq_false hp)
        clear hp
        go_wp2_with fail
        refine CL.out.mono ?_
        rintro e w2 ⟨rfl, hb2⟩
        go_wp2_with fail
        go_roundw
        case rel => exact ⟨j + 1, by omega, by go_num, Lib.hid (by rw [HT.out]; intro z hz; rcases List.mem_append.1 hz with hz | hz; exact hS.out z hz; simp at hz; rw [hz]; exact HP.out), Lib.hid (hB.out.trans (hb2.mono hB.out.size))⟩
        case measure => simp [intOf]; omega
    · have hjn : ks.take j = ks := List.take_of_length_le (by omega)
      have hS2 := hS.out
      rw [hjn] at hS2
      have hf := findIdx_none (fun c => decide (ordK k c < 0)) ks hS2
      have hv : Hid (idxZ ks k = -1) := Lib.hid (by unfold idxZ ofN; rw [hf, if_neg (by omega)])
      clear hjn hS2 hf
      go_wp2_with fail
      go_ret
      exact ⟨ret_int hv.out.symm, hB.out⟩
theorem pof_any (a : Option Addr) (n cap : Nat) (ks : List KV) (t : Tx) (w : World) (hh : HoldsK w a n ks) (hn : n ≤ 9223372036854775807) (ht : t.size ≤ 9223372036854775807) :
    Calls Try.prog 21 #[.slice a n cap, .string t] w fun e w' => e = .returned (.int .i64 (ofZ ks t)) ∧ Below w.heap.size w w' := by
  have hl := hh.len
  have HL := Lib.hid (fun w => len_any t w ht)
  by_cases hw : wordP t
  · have hof : Hid (ofZ ks t = ofN ks (keyOf t)) := Lib.hid (if_pos hw)
    have HW := Lib.hid (fun w => @word_bool' w t true ht (decide_eq_true hw))
    have hle := ofN_le ks (keyOf t)
    have hI := Lib.hid (fun B w1 (h : HoldsK w1 a n ks) h0 h1 => index_any a n cap B ks (keyOf t) w1 h hn h0 h1)
    unfold keyOf at hI hle
    simp only at hI
    have hix : Hid (idxZ ks (lenS t, t) = if ofN ks (lenS t, t) < n then (ofN ks (lenS t, t) : Int) else -1) := Lib.hid (by unfold idxZ; rw [hl])
    have hof2 : Hid (ofZ ks t = ofN ks (lenS t, t)) := hof
    obtain ⟨L, hL⟩ : ∃ L, lenS t = L := ⟨_, rfl⟩
    rw [hL] at HL hI hle hix hof2
    obtain ⟨m, hm⟩ : ∃ m, ofN ks (L, t) = m := ⟨_, rfl⟩
    rw [hm] at hle hix hof2
    obtain ⟨v, hv⟩ : ∃ v, idxZ ks (L, t) = v := ⟨_, rfl⟩
    rw [hv] at hI hix
    clear hL hm hv hof hw
    by_cases hlt : m < n
    · have hvm : v = (m : Int) := by rw [hix.out, if_pos hlt]
      subst hvm
      go_enter Try.func21, Try.ntmps21
      go_wp2_with fail
      refine (HW.out _).mono ?_
      rintro e w1 ⟨rfl, hb1⟩
      go_wp2_with fail
      refine (HL.out _).mono ?_
      rintro e w2 ⟨rfl, hb2⟩
      have hbb := hb1.trans (hb2.mono hb1.size)
      have B2 := Lib.hid (hbb.trans ((below_one w2 (.cells #[.int .i64 L, .string t] 24)).mono hbb.size))
      go_wp2_with fail
      refine (hI.out w2.heap.size _ (hh.below B2.out) (by simp) (by simp)).mono ?_
      rintro e w3 ⟨rfl, hb3⟩
      go_wp2_with fail
      go_ret
      exact ⟨ret_int hof2.out.symm, B2.out.trans (hb3.mono B2.out.size)⟩
    · have hvm : v = -1 := by rw [hix.out, if_neg hlt]
      have hmn : m = n := by omega
      subst hvm hmn
      go_enter Try.func21, Try.ntmps21
      go_wp2_with fail
      refine (HW.out _).mono ?_
      rintro e w1 ⟨rfl, hb1⟩
      go_wp2_with fail
      refine (HL.out _).mono ?_
      rintro e w2 ⟨rfl, hb2⟩
      have hbb := hb1.trans (hb2.mono hb1.size)
      have B2 := Lib.hid (hbb.trans ((below_one w2 (.cells #[.int .i64 L, .string t] 24)).mono hbb.size))
      go_wp2_with fail
      refine (hI.out w2.heap.size _ (hh.below B2.out) (by simp) (by simp)).mono ?_
      rintro e w3 ⟨rfl, hb3⟩
      go_wp2_with fail
      go_ret
      exact ⟨ret_int hof2.out.symm, B2.out.trans (hb3.mono B2.out.size)⟩
  · have hof : Hid (ofZ ks t = -1) := Lib.hid (if_neg hw)
    have HW := Lib.hid (fun w => @word_bool' w t false ht (decide_eq_false hw))
    clear hw
    go_enter Try.func21, Try.ntmps21
    go_wp2_with fail
    refine (HW.out _).mono ?_
    rintro e w1 ⟨rfl, hb1⟩
    go_wp2_with fail
    go_ret
    exact ⟨ret_int hof.out.symm, hb1⟩
theorem pof_lit (a : Option Addr) (n cap : Nat) (ks : List KV) (t : Tx) (v : Int) (w : World) (hh : HoldsK w a n ks) (hn : n ≤ 9223372036854775807) (ht : t.size ≤ 9223372036854775807) (hv : ofZ ks t = v) :
    Calls Try.prog 21 #[.slice a n cap, .string t] w fun e w' => e = .returned (.int .i64 v) ∧ Below w.heap.size w w' := by subst hv; exact pof_any a n cap ks t w hh hn ht
end Go.Proofs.Ytnbfdoneknidhaa
