/- the document's Less and Good (keys) -/
import Derived.Test.YtnbfdoneknidhaaKp6
import Derived.Test.YtnbfdoneknidhaaRl0
import Derived.Test.YtnbfdoneknidhaaCp2
import Derived.Deep.RegionHeld3
namespace Go.Proofs.Ytnbfdoneknidhaa
open Go.RowKit
set_option linter.unusedVariables false
theorem rcompare_lit (x y : Tx) (v : Int) (w : World) (hx : x.size ≤ 1048576) (hy : y.size ≤ 1048576) (hv : cmpS x y = v) :
    Calls Try.prog 35 #[.string x, .string y] w fun e w' => e = .returned (.int .i64 v) ∧ Below w.heap.size w w' := by subst hv; exact rcompare_any x y w hx hy
theorem rless_any (a b : KV) (w : World) (ha : a.2.size ≤ 1048576) (hb : b.2.size ≤ 1048576) :
    Calls Try.prog 16 #[keyV a, keyV b] w fun e w' => e = .returned (.bool (lessK a b)) ∧ Below w.heap.size w w' := by
  obtain ⟨c, hc⟩ : ∃ c, lessK a b = c := ⟨_, rfl⟩
  rw [hc]
  have hc2 : c = true ↔ (a.1 < b.1 ∨ (a.1 = b.1 ∧ cmpS a.2 b.2 < 0)) := by rw [← ordK_lt, ← hc]; exact decide_eq_true_iff
  clear hc
  obtain ⟨a1, a2⟩ := a
  obtain ⟨b1, b2⟩ := b
  simp only at hc2 ha hb
  unfold keyV
  simp only
  have BB := Lib.hid ((Below.refl w.heap.size w).alloc (Nat.le_refl _) (.cells #[.int .i64 a1, .string a2] 24) |>.alloc (by simp) (.cells #[.int .i64 b1, .string b2] 24))
  rcases Int.lt_trichotomy a1 b1 with h | h | h
  · obtain rfl : c = true := hc2.2 (Or.inl h)
    have g1 : decide (a1 < b1) = true := decide_eq_true h
    clear hc2
    go_enter Try.func16, Try.ntmps16
    go_wp2_with fail
    go_ret
    exact ⟨rfl, BB.out⟩
  · subst h
    have g1 : decide (a1 < a1) = false := by simp
    have g2 : (a1 == a1) = true := by simp
    obtain ⟨v, hv⟩ : ∃ v, cmpS a2 b2 = v := ⟨_, rfl⟩
    rw [hv] at hc2
    have HV := Lib.hid hv
    have hcv : c = decide (v < 0) := by
      cases c
      · symm; rw [decide_eq_false_iff_not]; intro h; exact absurd (hc2.2 (Or.inr ⟨rfl, h⟩)) (by simp)
      · symm; rw [decide_eq_true_iff]; rcases hc2.1 rfl with h | h; omega; exact h.2
    subst hcv
    clear hc2 hv
    go_enter Try.func16, Try.ntmps16
    go_wp2_with fail
    refine (rcompare_lit a2 b2 v _ ha hb HV.out).mono ?_
    rintro e w' ⟨rfl, hb2⟩
    go_wp2_with fail
    go_ret
    exact ⟨rfl, BB.out.trans (hb2.mono BB.out.size)⟩
  · obtain rfl : c = false := by
      cases c
      · rfl
      · rcases hc2.1 rfl with h2 | h2 <;> omega
    have g1 : decide (a1 < b1) = false := by rw [decide_eq_false_iff_not]; omega
    have g2 : (a1 == b1) = false := by rw [beq_eq_false_iff_ne]; omega
    clear hc2
    go_enter Try.func16, Try.ntmps16
    go_wp2_with fail
    go_ret
    exact ⟨rfl, BB.out⟩
theorem rless_lit (a b : KV) (c : Bool) (hc : lessK a b = c) (w : World) (ha : a.2.size ≤ 1048576) (hb : b.2.size ≤ 1048576) :
    Calls Try.prog 16 #[keyV a, keyV b] w fun e w' => e = .returned (.bool c) ∧ Below w.heap.size w w' := by subst hc; exact rless_any a b w ha hb
theorem rlen_lit (s : Tx) (v : Int) (w : World) (hs : s.size ≤ 1048576) (hv : lenS s = v) :
    Calls Try.prog 32 #[.string s] w fun e w' => e = .returned (.int .i64 v) ∧ Below w.heap.size w w' := by subst hv; exact rlen_any s w hs
set_option maxHeartbeats 3200000 in
theorem rgoodK_any (a : Option Addr) (n cap : Nat) (ks : List KV) (w : World) (hh : HoldsK w a n ks) (hn : n ≤ 9223372036854775807) (hk : ∀ k ∈ ks, k.2.size ≤ 1048576) :
    Calls Try.prog 13 #[.slice a n cap] w fun e w' => e = .returned (.int .i64 (goodK ks)) ∧ Below w.heap.size w w' := by
  have hl := hh.len
  by_cases h5 : n ≤ 5
  case neg =>
    rw [goodK_long (by omega)]
    go_enter Try.func13, Try.ntmps13
    go_wp2_with fail
    go_ret
    exact ⟨rfl, Below.refl _ _⟩
  go_enter Try.func13, Try.ntmps13
  go_wp2_with fail
  go_loopw [3] (fun iv wr => ∃ j : Nat, j ≤ n ∧ iv = .int .i64 j ∧ Hid (∀ t ∈ ks.take j, mayK t) ∧ Hid (Below w.heap.size w wr)) (fun iv _ => n - (intOf iv).toNat)
  case atStart => exact ⟨0, by omega, rfl, Lib.hid (by simp), Lib.hid (Below.refl _ _)⟩
  case round =>
    obtain ⟨j, hj, rfl, hS, hB⟩ := hrel
    by_cases hlt : j < n
    · have hh1 := Lib.hid (hh.below hB.out)
      obtain ⟨b, o, rfl, hc⟩ := hh1.out.at (by omega)
      obtain ⟨e1, e2⟩ := hc j hlt
      have hmem := getD_memK ks j (by omega)
      have htk := take_succ_getD ks k0 j (by omega)
      obtain ⟨x, hx⟩ : ∃ x, ks.getD j k0 = x := ⟨_, rfl⟩
      rw [hx] at e1 e2 hmem htk
      have HX := Lib.hid (hk x hmem); have HM := Lib.hid hmem; have HT := Lib.hid htk
      have C1 := Lib.hid (fun (w3 : World) (hb : Below wr.heap.size wr w3) => show w3.cell? ⟨b, o + j * 2, none⟩ = some (.int .i64 x.1) from (hb.cell (p := ⟨b, o + j * 2, none⟩) (lt_of_cell e1)).trans e1)
      clear hx hmem htk hc
      obtain ⟨l, hll⟩ : ∃ l, lenS x.2 = l := ⟨_, rfl⟩
      have HL := Lib.hid hll
      have hmay : mayK x ↔ (1 ≤ x.1 ∧ x.1 ≤ 12 ∧ 0 ≤ l ∧ l ≤ 12) := by rw [← hll]; exact Iff.rfl
      obtain ⟨x1, hx1⟩ : ∃ z, x.1 = z := ⟨_, rfl⟩
      obtain ⟨x2, hx2⟩ : ∃ z, x.2 = z := ⟨_, rfl⟩
      rw [hx1] at e1 hmay; rw [hx2] at e2 HL HX
      simp only [hx1] at C1
      clear hll hx1 hx2
      have hcase : (x1 < 1 ∧ ¬ mayK x) ∨ (1 ≤ x1 ∧ 12 < x1 ∧ ¬ mayK x) ∨ (1 ≤ x1 ∧ x1 ≤ 12 ∧ l < 0 ∧ ¬ mayK x) ∨ (1 ≤ x1 ∧ x1 ≤ 12 ∧ 0 ≤ l ∧ 12 < l ∧ ¬ mayK x) ∨ (1 ≤ x1 ∧ x1 ≤ 12 ∧ 0 ≤ l ∧ l ≤ 12 ∧ mayK x) := by
        rw [hmay]; omega
      clear hmay
      have bs := hB.out.size
      rcases hcase with ⟨h, hw⟩ | ⟨h, h2, hw⟩ | ⟨h, h2, h3, hw⟩ | ⟨h, h2, h3, h4, hw⟩ | ⟨h, h2, h3, h4, hw⟩
      rotate_left 4
      · have HW := Lib.hid hw
        have x1' : decide (x1 < 1) = false := by rw [decide_eq_false_iff_not]; omega
        have x2' : decide (x1 > 12) = false := by rw [decide_eq_false_iff_not]; omega
        have x3' : decide (l < 0) = false := by rw [decide_eq_false_iff_not]; omega
        have x4' : decide (l > 12) = false := by rw [decide_eq_false_iff_not]; omega
        clear hw
        go_wp2_with fail
        refine (rlen_lit x2 l wr HX.out HL.out).mono ?_
        rintro e w2 ⟨rfl, hb2⟩
        have e3 := C1.out w2 hb2
        go_wp2_with fail
        go_roundw
        case rel => exact ⟨j + 1, by omega, by go_num, Lib.hid (by rw [HT.out]; intro z hz; rcases List.mem_append.1 hz with hz | hz; exact hS.out z hz; simp at hz; rw [hz]; exact HW.out), Lib.hid (hB.out.trans (hb2.mono bs))⟩
        case measure => simp [intOf]; omega
      all_goals
        have HG := Lib.hid (goodK_bad (by omega) x HM.out hw)
        clear hw
        first
          | have x1' : decide (x1 < 1) = true := by rw [decide_eq_true_iff]; omega
          | have x1' : decide (x1 < 1) = false := by rw [decide_eq_false_iff_not]; omega
        first
          | have x2' : decide (x1 > 12) = true := by rw [decide_eq_true_iff]; omega
          | have x2' : decide (x1 > 12) = false := by rw [decide_eq_false_iff_not]; omega
        first
          | have x3' : decide (l < 0) = true := by rw [decide_eq_true_iff]; omega
          | have x3' : decide (l < 0) = false := by rw [decide_eq_false_iff_not]; omega
          | skip
        first
          | have x4' : decide (l > 12) = true := by rw [decide_eq_true_iff]; omega
          | have x4' : decide (l > 12) = false := by rw [decide_eq_false_iff_not]; omega
          | skip
        go_wp2_with fail
        refine (rlen_lit x2 l wr HX.out HL.out).mono ?_
        rintro e w2 ⟨rfl, hb2⟩
        have e3 := C1.out w2 hb2
        go_wp2_with fail
        go_ret
        exact ⟨ret_int HG.out.symm, hB.out.trans (hb2.mono bs)⟩
    · have hjn : ks.take j = ks := List.take_of_length_le (by omega)
      have hwd := hS.out
      rw [hjn] at hwd
      have HW := Lib.hid hwd
      have hB1 := hB
      clear hjn hwd hS hB
      go_wp2_with fail
      go_loopw [5] (fun iv wr2 => ∃ i : Nat, 1 ≤ i ∧ i ≤ n + 1 ∧ iv = .int .i64 i ∧ Hid (∀ k, k + 1 < i → k + 1 < n → ordK (ks.getD k k0) (ks.getD (k + 1) k0) < 0) ∧ Hid (Below w.heap.size w wr2)) (fun iv _ => n + 1 - (intOf iv).toNat)
      case atStart => exact ⟨1, by omega, by omega, rfl, Lib.hid (fun k h1 => by omega), hB1⟩
      case round =>
        obtain ⟨i, hi1, hi2, rfl, hS, hB⟩ := hrel
        by_cases hlt2 : i < n
        · obtain ⟨b, o, rfl, hc⟩ := (hh.below hB.out).at (by omega)
          obtain ⟨q, hq⟩ : ∃ q, q = i - 1 := ⟨_, rfl⟩
          have hqi : q + 1 = i := by omega
          obtain ⟨e3, e4⟩ := hc i hlt2
          obtain ⟨e1, e2⟩ := hc q (by omega)
          have s1 := hk _ (getD_memK ks q (by omega))
          have s2 := hk _ (getD_memK ks i (by omega))
          obtain ⟨x, hx⟩ : ∃ x, ks.getD q k0 = x := ⟨_, rfl⟩
          obtain ⟨y, hy⟩ : ∃ y, ks.getD i k0 = y := ⟨_, rfl⟩
          rw [hx] at e1 e2 s1; rw [hy] at e3 e4 s2
          have HX := Lib.hid hx; have HY := Lib.hid hy; have HQ := Lib.hid hqi
          have T := Lib.hid (show Two4 wr b (o + q * 2) (o + i * 2) x y wr from ⟨Below.refl _ _, e1, e2, e3, e4⟩)
          have hr : IntKind.i64.wrap ((i : Int) - 1) = (q : Int) := by rw [IntWalk.i64_in _ (by omega)]; omega
          have g1 : (0 : Int) ≤ (q : Int) := by omega
          have g2 : (q : Int) < (n : Int) := by omega
          have g3 : (0 : Int) ≤ (i : Int) := by omega
          have g4 : (i : Int) < (n : Int) := by omega
          have bs := hB.out.size
          clear hx hy hc hq hqi e1 e2 e3 e4
          by_cases hvn : ordK x y < 0
          · have C := Lib.hid (fun w => rless_lit x y true (decide_eq_true hvn) w s1 s2)
            unfold keyV at C
            have HV := Lib.hid hvn
            clear hvn
            go_upto_region 12 with fail
            go_region_held3 (fun w' => Below wr.heap.size wr w' ∧ w'.cell? ⟨b, o + q * 2, none⟩ = some (.int .i64 x.1) ∧ w'.cell? ⟨b, o + q * 2 + 1, none⟩ = some (.string x.2) ∧ w'.cell? ⟨b, o + i * 2, none⟩ = some (.int .i64 y.1) ∧ w'.cell? ⟨b, o + i * 2 + 1, none⟩ = some (.string y.2))
              (first | assumption | exact two4_carry T.out (below_drewN wr _) | exact two4_carry T.out (Below.refl _ _).drew | exact two4_carry (by assumption) (by assumption))
              (first | (go_at_call 16; refine (C.out _).mono ?_; rintro e w' ⟨rfl, hb⟩))
            rename_i T5
            obtain ⟨hb5, -⟩ := T5
            go_wp2_with fail
            go_roundw
            case rel =>
              refine ⟨i + 1, by omega, by omega, by go_num, Lib.hid (fun k h1 h2 => ?_), Lib.hid (hB.out.trans (hb5.mono bs))⟩
              by_cases hk2 : k = q
              · subst hk2; rw [HX.out, HQ.out, HY.out]; exact HV.out
              · exact hS.out k (by have := HQ.out; omega) h2
            case measure => simp [intOf]; omega
          · have C := Lib.hid (fun w => rless_lit x y false (decide_eq_false hvn) w s1 s2)
            unfold keyV at C
            have hg := goodK_sort (by omega) HW.out (fun hs => hvn (by have := (adjK_iff ks).1 hs q (by have := HQ.out; omega); rw [HX.out, HQ.out, HY.out] at this; exact this))
            have HG := Lib.hid hg
            clear hg hvn
            go_upto_region 12 with fail
            go_region_held3 (fun w' => Below wr.heap.size wr w' ∧ w'.cell? ⟨b, o + q * 2, none⟩ = some (.int .i64 x.1) ∧ w'.cell? ⟨b, o + q * 2 + 1, none⟩ = some (.string x.2) ∧ w'.cell? ⟨b, o + i * 2, none⟩ = some (.int .i64 y.1) ∧ w'.cell? ⟨b, o + i * 2 + 1, none⟩ = some (.string y.2))
              (first | assumption | exact two4_carry T.out (below_drewN wr _) | exact two4_carry T.out (Below.refl _ _).drew | exact two4_carry (by assumption) (by assumption))
              (first | (go_at_call 16; refine (C.out _).mono ?_; rintro e w' ⟨rfl, hb⟩))
            rename_i T5
            obtain ⟨hb5, -⟩ := T5
            go_wp2_with fail
            go_ret
            exact ⟨ret_int HG.out.symm, hB.out.trans (hb5.mono bs)⟩
        · have hg := goodK_of (l := ks) (by omega) HW.out ((adjK_iff ks).2 fun k hk => hS.out k (by omega) (by omega))
          have HG := Lib.hid hg
          clear hg
          go_wp2_with fail
          go_ret
          exact ⟨ret_int HG.out.symm, hB.out⟩
end Go.Proofs.Ytnbfdoneknidhaa
