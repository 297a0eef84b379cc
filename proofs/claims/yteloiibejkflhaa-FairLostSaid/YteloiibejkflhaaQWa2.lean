/- contract of list.Good -/
import Derived.Test.YteloiibejkflhaaQWa1
import Derived.Test.YteloiibejkflhaaQWd1
import Derived.Deep.RegionWith
import Derived.Deep.QuietTactic
import Derived.BigQuiet
import Derived.Deep.DeepCutAuto
namespace Go.Proofs.Yteloiibejkflhaa
open Go.RowKit
set_option linter.unusedVariables false
set_option maxRecDepth 20000
theorem goodV_long {ts : List Tx} (h : 60 < ts.length) : goodV ts = 3 := by unfold goodV; rw [if_pos h]
theorem goodV_word {ts : List Tx} (h : ts.length ≤ 60) (t : Tx) (ht : t ∈ ts) (hw : ¬ wordP t) : goodV ts = 6 := by
  unfold goodV; rw [if_neg (by omega), if_pos ⟨t, ht, hw⟩]
theorem goodV_sort {ts : List Tx} (h : ts.length ≤ 60) (hw : ∀ t ∈ ts, wordP t) (hs : ¬ SortedS ts) : goodV ts = 7 := by
  unfold goodV; rw [if_neg (by omega), if_neg (fun ⟨t, ht, k⟩ => k (hw t ht)), if_neg hs]
theorem goodV_good {ts : List Tx} (h : ts.length ≤ 60) (hw : ∀ t ∈ ts, wordP t) (hs : SortedS ts) : goodV ts = 0 := by
  unfold goodV; rw [if_neg (by omega), if_neg (fun ⟨t, ht, k⟩ => k (hw t ht)), if_pos hs]
theorem word_bool {w : World} (s : Tx) (b : Bool) (hs : s.size ≤ 9223372036854775807) (hb : decide (wordP s) = b) :
    Calls Try.prog 26 #[.string s] w fun e w' => e = .returned (.bool b) ∧ Below w.heap.size w w' := by subst hb; exact word_any s w hs
set_option maxHeartbeats 1600000 in
theorem good_any' (a : Option Addr) (n cap : Nat) (ts : List Tx) (w : World) (hh : HoldsT w a n ts) (hn : n ≤ 9223372036854775807) (hsz : ∀ t ∈ ts, t.size ≤ 9223372036854775807) :
    Calls Try.prog 17 #[.slice a n cap] w fun e w' => e = .returned (.int .i64 (goodV ts)) ∧ Below w.heap.size w w' := by
  have hl := hh.len
  by_cases h60 : n ≤ 60
  case neg =>
    rw [goodV_long (by omega)]
    go_enter Try.func17, Try.ntmps17
    go_wp2_with fail
    go_ret
    exact ⟨rfl, Below.refl _ _⟩
  go_enter Try.func17, Try.ntmps17
  go_wp2_with fail
  go_loopw [11] (fun iv wr => ∃ j : Nat, j ≤ n ∧ iv = .int .i64 j ∧ Hid (∀ t ∈ ts.take j, wordP t) ∧ Hid (Below w.heap.size w wr)) (fun iv _ => n - (intOf iv).toNat)
  case atStart => exact ⟨0, by omega, rfl, Lib.hid (by simp), Lib.hid (Below.refl _ _)⟩
  case round =>
    obtain ⟨j, hj, rfl, hS, hB⟩ := hrel
    by_cases hlt : j < n
    · obtain ⟨b, o, rfl, hc⟩ := (hh.below hB.out).at (by omega)
      have e1 := hc j hlt
      have hmem := getD_memT ts j (by omega)
      have htk := take_succ_getD ts ByteArray.empty j (by omega)
      obtain ⟨x, hx⟩ : ∃ x, ts.getD j ByteArray.empty = x := ⟨_, rfl⟩
      rw [hx] at e1 hmem htk
      have HX := Lib.hid (hsz x hmem)
      have HM := Lib.hid hmem; have HT := Lib.hid htk
      clear hx hmem htk hc
      by_cases hw : wordP x
      · have hb := decide_eq_true hw
        have HW := Lib.hid hw; have HD := Lib.hid hb
        clear hw hb
        go_wp2_with fail
        refine (word_bool x true HX.out HD.out).mono ?_
        rintro e w2 ⟨rfl, hb2⟩
        go_wp2_with fail
        go_roundw
        case rel => exact ⟨j + 1, by omega, by go_num, Lib.hid (by rw [HT.out]; intro z hz; rcases List.mem_append.1 hz with hz | hz; exact hS.out z hz; simp at hz; rw [hz]; exact HW.out), Lib.hid (hB.out.trans (hb2.mono hB.out.size))⟩
        case measure => simp [intOf]; omega
      · have hb := decide_eq_false hw
        have hg := goodV_word (by omega) x HM.out hw
        have HD := Lib.hid hb; have HG := Lib.hid hg
        clear hw hb hg
        go_wp2_with fail
        refine (word_bool x false HX.out HD.out).mono ?_
        rintro e w2 ⟨rfl, hb2⟩
        go_wp2_with fail
        go_ret
        exact ⟨ret_int HG.out.symm, hB.out.trans (hb2.mono hB.out.size)⟩
    · have hjn : ts.take j = ts := List.take_of_length_le (by omega)
      have hwd := hS.out
      rw [hjn] at hwd
      have HW := Lib.hid hwd
      have hB1 := hB
      clear hjn hwd hS hB
      go_wp2_with fail
      go_loopw [5] (fun iv wr2 => ∃ i : Nat, 1 ≤ i ∧ i ≤ n + 1 ∧ iv = .int .i64 i ∧ Hid (∀ k, k + 1 < i → k + 1 < n → cmpS (ts.getD k ByteArray.empty) (ts.getD (k + 1) ByteArray.empty) < 0) ∧ Hid (Below w.heap.size w wr2)) (fun iv _ => n + 1 - (intOf iv).toNat)
      case atStart => exact ⟨1, by omega, by omega, rfl, Lib.hid (fun k h1 => by omega), hB1⟩
      case round =>
        obtain ⟨i, hi1, hi2, rfl, hS, hB⟩ := hrel
        by_cases hlt2 : i < n
        · obtain ⟨b, o, rfl, hc⟩ := (hh.below hB.out).at (by omega)
          have e1 := hc i hlt2
          have e2 := hc (i - 1) (by omega)
          have hci := hS.out
          obtain ⟨q, rfl⟩ : ∃ q, i = q + 1 := ⟨i - 1, by omega⟩
          simp only [Nat.add_sub_cancel] at e2
          obtain ⟨x, hx⟩ : ∃ x, ts.getD q ByteArray.empty = x := ⟨_, rfl⟩
          obtain ⟨y, hy⟩ : ∃ y, ts.getD (q + 1) ByteArray.empty = y := ⟨_, rfl⟩
          rw [hx] at e2; rw [hy] at e1
          have HX := Lib.hid hx; have HY := Lib.hid hy
          clear hx hy hc hci
          have hcmp := Lib.hid (fun w => compare_any x y w)
          have hbd := cmpS_bd x y
          obtain ⟨v, hv⟩ : ∃ v, cmpS x y = v := ⟨_, rfl⟩
          rw [hv] at hbd
          simp only [hv] at hcmp
          have HV := Lib.hid hv
          clear hv
          have hr : IntKind.i64.wrap (((q + 1 : Nat) : Int) - 1) = (q : Int) := by rw [IntWalk.i64_in _ (by omega)]; omega
          have hr2 : ((q + 1 : Nat) : Int) - 1 = (q : Int) := by omega
          have g1 : (q : Int) < (n : Int) := by omega
          have g2 : ((q + 1 : Nat) : Int) < (n : Int) := by omega
          by_cases hvn : v < 0
          · go_upto_region 12 with fail
            go_quiet ((go_at_call 27; exact Calls.quiet_of_same ((hcmp.out _).mono (fun _ _ h => ⟨h.1, h.2.symm⟩))))
            go_wp2_with fail
            go_roundw
            case rel =>
              refine ⟨q + 1 + 1, by omega, by omega, by go_num, Lib.hid (fun k h1 h2 => ?_), Lib.hid (hB.out.trans ((below_drewN _ _).mono hB.out.size))⟩
              by_cases hk : k = q
              · subst hk; rw [HX.out, HY.out, HV.out]; exact hvn
              · exact hS.out k (by omega) h2
            case measure => simp [intOf]; omega
          · have hg := goodV_sort (by omega) HW.out (fun hs => hvn (by have := (adj_iff ts).1 hs q (by omega); rw [HX.out, HY.out, HV.out] at this; exact this))
            have HG := Lib.hid hg
            clear hg
            go_upto_region 12 with fail
            go_quiet ((go_at_call 27; exact Calls.quiet_of_same ((hcmp.out _).mono (fun _ _ h => ⟨h.1, h.2.symm⟩))))
            go_wp2_with fail
            go_ret
            exact ⟨ret_int HG.out.symm, hB.out.trans ((below_drewN _ _).mono hB.out.size)⟩
        · have hg := goodV_good (by omega) HW.out ((adj_iff ts).2 fun k hk => hS.out k (by omega) (by omega))
          have HG := Lib.hid hg
          clear hg
          go_wp2_with fail
          go_ret
          exact ⟨ret_int HG.out.symm, hB.out⟩
end Go.Proofs.Yteloiibejkflhaa
