/- place: Copies, Contains, Keeps -/
import Derived.Test.YteloiibejkflhaaQPl2
import Derived.Test.YteloiibejkflhaaQSameInts
import Derived.Test.YteloiibejkflhaaQZs
namespace Go.Proofs.Yteloiibejkflhaa
open Go.RowKit
set_option linter.unusedVariables false
set_option maxRecDepth 20000
namespace Pl
def cop (W C s : Nat) : List Int := (List.range C).map fun j => ((1 + (s + j) % W : Nat) : Int)
def keep (W C S : Nat) (x : Int) : List Nat := (List.range S).filter fun s => decide (x ∈ cop W C s)
theorem cop_len (W C s : Nat) : (cop W C s).length = C := by simp [cop]
theorem cop_snoc (W C s : Nat) : cop W (C + 1) s = cop W C s ++ [((1 + (s + C) % W : Nat) : Int)] := by simp [cop, List.range_succ]
theorem keep_snoc (W C S : Nat) (x : Int) : keep W C (S + 1) x = keep W C S x ++ (if x ∈ cop W C S then [S] else []) := by
  unfold keep
  rw [List.range_succ, List.filter_append]
  by_cases h : x ∈ cop W C S <;> simp [h]
theorem keep_len (W C S : Nat) (x : Int) : (keep W C S x).length ≤ S := by
  unfold keep
  exact Nat.le_trans (List.length_filter_le _ _) (by simp)
end Pl
set_option maxHeartbeats 3200000 in
theorem copies_in (c : Cfg) (s : Nat) (W C : Nat) (w : World) (h : CfgOk w c) (hm : c.may = true) (hs : s < c.kn + 1) (hW : c.W = (W : Int)) (hC : c.C = (C : Int)) :
    Calls Try.prog 31 #[.agg #[.slice c.wa c.wn c.wc, .slice c.ka c.kn c.kc, .int .i64 c.W, .int .i64 c.C, .int .i64 c.S, .int .i64 c.B, .int .i64 c.L, .int .i64 c.H, .int .i64 c.F, .int .i64 c.P, .int .i64 c.J, .int .i64 c.N], .int .i64 (s : Int)] w (RetZ w (Pl.cop W C s)) := by
  obtain ⟨i0, hi, hz0, hz1, hz2⟩ := info_parts num_info
  have BX := Lib.hid (below_one w (.cells #[.slice c.wa c.wn c.wc, .slice c.ka c.kn c.kc, .int .i64 c.W, .int .i64 c.C, .int .i64 c.S, .int .i64 c.B, .int .i64 c.L, .int .i64 c.H, .int .i64 c.F, .int .i64 c.P, .int .i64 c.J, .int .i64 c.N] 25))
  have IN := Lib.hid (cfgIn_new w c w.heap.size 25 (0, 0) rfl)
  have CM := Lib.hid (has_any c s true _ (h.below BX.out) hm (decide_eq_true ⟨by omega, by omega⟩))
  have hk := may_kn hm h
  obtain ⟨-, -, hw, hc, -⟩ := may_parts hm
  rw [hW] at hw
  rw [hC, hW] at hc
  have H5 := Lib.hid (show W ≤ 5 ∧ C ≤ 3 from ⟨by omega, by omega⟩)
  have hW0 : ((W : Int) == 0) = false := by simp; omega
  have hW1 : 1 ≤ W := by omega
  have hC3 : C ≤ 3 := by omega
  have hs6 : s ≤ 5 := by omega
  have HW := Lib.hid hW; have HC := Lib.hid hC
  clear h hm hw hc hW hC
  go_enter Try.func31, Try.ntmps31
  go_wp2_with fail
  refine CM.out.mono ?_
  rintro e w2 ⟨rfl, hb2⟩
  have B2 := Lib.hid (BX.out.trans (hb2.mono BX.out.size))
  have I2 := Lib.hid (IN.out.below hb2)
  clear hb2 CM
  have hI := I2.out
  unfold CfgIn at hI
  obtain ⟨-, -, -, i3, -⟩ := hI
  rw [HC.out] at i3
  go_wp2_with fail
  go_loopw [5, 13] (fun ov iv wr => ∃ (j : Nat) (av : Option Addr) (cv : Nat), j ≤ C ∧ iv = .int .i64 j ∧ ov = .slice av j cv ∧ Hid (wr.ownsRow (w.heap.size + 1) 3 1 (.slice av j cv) j (numsV (Pl.cop W j s))) ∧ Hid (Below w2.heap.size w2 wr ∨ True) ∧ Hid (Below w.heap.size w wr ∧ CfgIn wr w.heap.size c)) (fun _ iv _ => C - (intOf iv).toNat)
  case atStart => exact ⟨0, none, 0, by omega, rfl, rfl, Lib.hid (World.ownsRow_nil _ _ _ _), Lib.hid (Or.inr trivial), Lib.hid ⟨B2.out, I2.out⟩⟩
  case round =>
    obtain ⟨j, av, cv, hj, rfl, rfl, hO, -, hB⟩ := hrel
    by_cases hlt : j < C
    · have hI := hB.out.2
      unfold CfgIn at hI
      obtain ⟨-, -, k2, -⟩ := hI
      rw [HW.out] at k2
      have d1 : decide ((j : Int) < (C : Int)) = true := decide_eq_true (by omega)
      obtain ⟨z, hz⟩ : ∃ z, (s + j) % W = z := ⟨_, rfl⟩
      have hzl : z < W := by rw [← hz]; exact Nat.mod_lt _ (by omega)
      have HZ := Lib.hid (show Pl.cop W (j + 1) s = Pl.cop W j s ++ [1 + (z : Int)] from by rw [Pl.cop_snoc, hz]; simp)
      have r1 : IntKind.i64.wrap ((s : Int) + (j : Int)) = (s : Int) + (j : Int) := by rw [IntWalk.i64_in _ (by omega)]
      have r2 : ((s : Int) + (j : Int)) % (W : Int) = (z : Int) := by rw [← hz]; simp
      have r3 : IntKind.i64.wrap (1 + (z : Int)) = 1 + (z : Int) := by rw [IntWalk.i64_in _ (by have := H5.out; omega)]
      have IH := Lib.hid hB.out.2
      clear hz
      go_wp2_with (at_builtin; refine wpList_append_any rfl (.tmp 16) (.tmp 24) 33 rfl (w.heap.size + 1) 3 i0 _ 1 8 Try.underlying33 hi hz0 hz1 hz2 rfl (by decide) _ j _ rfl (hO.out.alloc _) _ 1 1 [.int .i64 (1 + (z : Int))] rfl (some_none _) rfl (one_new _ _ _ _) (by simp [Value.oneCell']) (by unfold maxLen; omega) (by omega) (by have := lt_of_cell IH.out.1; simp; omega) ?_; intro a3 c3 w3 hown3 hb3 hnil3)
      have O3 := Lib.hid (show w3.ownsRow (w.heap.size + 1) 3 1 (.slice a3 (j + 1) c3) (j + 1) (numsV (Pl.cop W (j + 1) s)) from by rw [HZ.out]; unfold numsV at hown3 ⊢; rw [List.map_append]; exact hown3)
      have B3 := Lib.hid (show Below w.heap.size w w3 ∧ CfgIn w3 w.heap.size c from by
        have b1 : Below (w.heap.size + 1) wr w3 := ((Below.refl (w.heap.size + 1) wr).alloc (by have := lt_of_cell IH.out.1; omega) _).trans hb3
        exact ⟨hB.out.1.trans (b1.mono (by omega)), IH.out.of fun i => b1.cell (p := ⟨w.heap.size, i, none⟩) (by show w.heap.size < w.heap.size + 1; omega)⟩)
      clear hown3 hb3 hnil3 k2 IH
      go_roundw
      case rel => exact ⟨j + 1, a3, c3, by omega, by go_num, rfl, O3, Lib.hid (Or.inr trivial), B3⟩
      case measure => simp [intOf] <;> omega
    · obtain rfl : j = C := by omega
      have d1 : decide ((j : Int) < (j : Int)) = false := decide_eq_false (by omega)
      go_wp2_with fail
      go_ret
      refine ⟨av, cv, by rw [Pl.cop_len]; rfl, ?_, hB.out.1⟩
      rw [Pl.cop_len]
      have := hO.out
      exact ⟨this.1, this.2.imp id (fun ⟨g, cap, cur, hv, hge, r⟩ => ⟨g, cap, cur, hv, by omega, r⟩)⟩
theorem copies_out (c : Cfg) (s : Int) (w : World) (h : CfgOk w c) (hm : c.may = true) (hs : ¬ (0 ≤ s ∧ s < ((c.kn + 1 : Nat) : Int))) :
    Calls Try.prog 31 #[.agg #[.slice c.wa c.wn c.wc, .slice c.ka c.kn c.kc, .int .i64 c.W, .int .i64 c.C, .int .i64 c.S, .int .i64 c.B, .int .i64 c.L, .int .i64 c.H, .int .i64 c.F, .int .i64 c.P, .int .i64 c.J, .int .i64 c.N], .int .i64 s] w (RetZ w []) := by
  have BX := Lib.hid (below_one w (.cells #[.slice c.wa c.wn c.wc, .slice c.ka c.kn c.kc, .int .i64 c.W, .int .i64 c.C, .int .i64 c.S, .int .i64 c.B, .int .i64 c.L, .int .i64 c.H, .int .i64 c.F, .int .i64 c.P, .int .i64 c.J, .int .i64 c.N] 25))
  have CM := Lib.hid (has_any c s false _ (h.below BX.out) hm (decide_eq_false hs))
  clear h hm hs
  go_enter Try.func31, Try.ntmps31
  go_wp2_with fail
  refine CM.out.mono ?_
  rintro e w2 ⟨rfl, hb2⟩
  have B2 := Lib.hid (BX.out.trans (hb2.mono BX.out.size))
  clear hb2 CM
  go_wp2_with fail
  go_ret
  exact ⟨none, 0, rfl, World.ownsRow_nil _ _ _ _, B2.out⟩
theorem pindex_any (a : Option Addr) (n cap : Nat) (zs : List Int) (x : Int) (w : World) (h : HoldsI .i64 w a n zs) (hn : n ≤ 1000000) :
    Calls Try.prog 43 #[.slice a n cap, .int .i64 x] w fun e w' => e = .returned (.int .i64 (if x ∈ zs then (zs.idxOf x : Int) else -1)) ∧ w = w' := by
  have H := Lib.hid h
  have hl := h.1
  obtain ⟨R, hR⟩ : ∃ R : Int, (if x ∈ zs then (zs.idxOf x : Int) else -1) = R := ⟨_, rfl⟩
  rw [hR]
  have RY := Lib.hid (show ∀ j, j < n → zs.getD j 0 = x → (∀ k, k < j → zs.getD k 0 ≠ x) → R = (j : Int) from fun j hj he hno => by
    have hjl : j < zs.length := by omega
    have e0 : zs[j] = x := by rw [← he, List.getD_eq_getElem?_getD, List.getElem?_eq_getElem hjl]; rfl
    have hmem : x ∈ zs := by rw [← e0]; exact List.getElem_mem _
    rw [← hR, if_pos hmem]
    have hlt := List.idxOf_lt_length_of_mem hmem
    have hat := List.getElem_idxOf hlt
    rcases Nat.lt_trichotomy (zs.idxOf x) j with hh | hh | hh
    · exact absurd (by rw [List.getD_eq_getElem?_getD, List.getElem?_eq_getElem hlt]; exact hat) (hno _ hh)
    · rw [hh]
    · have h2 := List.not_of_lt_findIdx (p := (· == x)) (xs := zs) (i := j) hh
      rw [e0] at h2
      simp at h2)
  have RN := Lib.hid (show (∀ k, k < n → zs.getD k 0 ≠ x) → R = -1 from fun hno => by
    rw [← hR, if_neg]
    intro hmem
    obtain ⟨k, hk, he⟩ := List.getElem_of_mem hmem
    exact hno k (by omega) (by rw [List.getD_eq_getElem?_getD, List.getElem?_eq_getElem hk]; exact he))
  clear h hR
  go_enter Try.func43, Try.ntmps43
  go_wp2_with fail
  go_loop [8] (fun iv => ∃ j : Nat, j ≤ n ∧ iv = .int .i64 j ∧ Hid (∀ k, k < j → zs.getD k 0 ≠ x)) (fun iv => n - (intOf iv).toNat)
  case atStart => exact ⟨0, by omega, rfl, Lib.hid (fun k hk => by omega)⟩
  case round =>
    obtain ⟨j, hj, rfl, hno⟩ := hrel
    by_cases hlt : j < n
    · obtain ⟨b, o, rfl, hc⟩ := H.out.at (by omega)
      have e0 := hc j hlt
      have hry := RY.out j hlt
      obtain ⟨y, hy⟩ : ∃ y, zs.getD j 0 = y := ⟨_, rfl⟩
      have HY := Lib.hid hy
      rw [hy] at e0 hry
      clear hc hy
      by_cases he : y = x
      · have d1 : (x == y) = true := by simp [he]
        have hres := hry he hno.out
        clear hry he
        go_wp2_with fail
        go_ret
        exact ⟨rfl, rfl⟩
      · have d1 : (x == y) = false := by simp; exact fun h => he h.symm
        have NX := Lib.hid (show ∀ k, k < j + 1 → zs.getD k 0 ≠ x from fun k hk => by
          rcases Nat.lt_succ_iff_lt_or_eq.1 hk with e | e
          · exact hno.out k e
          · subst e; rw [HY.out]; exact he)
        clear hry he
        go_wp2_with fail
        go_round
        case rel => exact ⟨j + 1, by omega, by go_num, NX⟩
        case measure => simp [intOf]; omega
    · obtain rfl : j = n := by omega
      have hres := RN.out hno.out
      go_wp2_with fail
      go_ret
      exact ⟨rfl, rfl⟩
theorem contains_any (a : Option Addr) (n cap : Nat) (zs : List Int) (x : Int) (z : Bool) (w : World) (h : HoldsI .i64 w a n zs) (hn : n ≤ 1000000) (hz : decide (x ∈ zs) = z) :
    Calls Try.prog 30 #[.slice a n cap, .int .i64 x] w fun e w' => e = .returned (.bool z) ∧ w = w' := by
  have CI := pindex_any a n cap zs x w h hn
  obtain ⟨R, hR⟩ : ∃ R : Int, (if x ∈ zs then (zs.idxOf x : Int) else -1) = R := ⟨_, rfl⟩
  rw [hR] at CI
  have d1 : decide (R ≥ 0) = z := by
    rw [← hz, ← hR]
    by_cases hm : x ∈ zs
    · rw [if_pos hm, decide_eq_true hm]; exact decide_eq_true (by omega)
    · rw [if_neg hm, decide_eq_false hm]; rfl
  have C := Lib.hid CI
  clear CI hR hz h
  go_enter Try.func30, Try.ntmps30
  go_wp2_with fail
  refine C.out.mono ?_
  rintro e w' ⟨rfl, rfl⟩
  go_wp2_with fail
  go_ret
  exact ⟨rfl, rfl⟩
end Go.Proofs.Yteloiibejkflhaa
