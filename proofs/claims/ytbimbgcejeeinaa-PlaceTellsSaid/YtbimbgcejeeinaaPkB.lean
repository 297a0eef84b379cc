/- texts joined -/
import Derived.Test.YtbimbgcejeeinaaPkA
import Derived.Test.YtbimbgcejeeinaaPkD
import Derived.Test.YtbimbgcejeeinaaChecked
import Derived.WalkLawsBesides
import Derived.WalkKit
import Derived.ProofKit
import Derived.OpenShut
import Derived.Lib.SmallJoins
/- place: Copies, Contains, Keeps -/
namespace Go.Proofs.Ytbimbgcejeeinaa
open Go.RowKit
set_option linter.unusedVariables false
set_option maxRecDepth 20000
namespace Pl
def cop (W C s : Nat) : List Int := (List.range C).map fun j => ((1 + (s + j) % W : Nat) : Int)
def keep (W C S : Nat) (x : Int) : List Nat := (List.range S).filter fun s => decide (x ∈ cop W C s)
theorem cop_len (W C s : Nat) : (cop W C s).length = C := by simp [cop]
theorem cop_snoc (W C s : Nat) : cop W (C + 1) s = cop W C s ++ [((1 + (s + C) % W : Nat) : Int)] := by simp [cop, List.range_succ]
theorem keep_snoc (W C S : Nat) (x : Int) : keep W C (S + 1) x = keep W C S x ++ (if x ∈ cop W C S then [S] else []) := by
  unfold keep
  rw [List.range_succ, List.filter_append]
  by_cases h : x ∈ cop W C S <;> simp [h]
theorem keep_len (W C S : Nat) (x : Int) : (keep W C S x).length ≤ S := by
  unfold keep
  exact Nat.le_trans (List.length_filter_le _ _) (by simp)
end Pl
set_option maxHeartbeats 3200000 in
theorem copies_in (c : Cfg) (s : Nat) (W C : Nat) (w : World) (h : CfgOk w c) (hm : c.may = true) (hs : s < c.kn + 1) (hW : c.W = (W : Int)) (hC : c.C = (C : Int)) :
    Calls Try.prog 9 #[.agg #[.slice c.wa c.wn c.wc, .slice c.ka c.kn c.kc, .int .i64 c.W, .int .i64 c.C, .int .i64 c.S, .int .i64 c.B, .int .i64 c.L, .int .i64 c.H, .int .i64 c.F, .int .i64 c.P, .int .i64 c.J, .int .i64 c.N], .int .i64 (s : Int)] w (RetZ w (Pl.cop W C s)) := by
  obtain ⟨i0, hi, hz0, hz1, hz2⟩ := info_parts num_info
  have BX := Lib.hid (below_one w (.cells #[.slice c.wa c.wn c.wc, .slice c.ka c.kn c.kc, .int .i64 c.W, .int .i64 c.C, .int .i64 c.S, .int .i64 c.B, .int .i64 c.L, .int .i64 c.H, .int .i64 c.F, .int .i64 c.P, .int .i64 c.J, .int .i64 c.N] 25))
  have IN := Lib.hid (cfgIn_new w c w.heap.size 25 (0, 0) rfl)
  have CM := Lib.hid (has_any c s true _ (h.below BX.out) hm (decide_eq_true ⟨by omega, by omega⟩))
  have hk := may_kn hm h
  obtain ⟨-, -, hw, hc, -⟩ := may_parts hm
  rw [hW] at hw
  rw [hC, hW] at hc
  have H5 := Lib.hid (show W ≤ 5 ∧ C ≤ 3 from ⟨by omega, by omega⟩)
  have hW0 : ((W : Int) == 0) = false := by simp; omega
  have hW1 : 1 ≤ W := by omega
  have hC3 : C ≤ 3 := by omega
  have hs6 : s ≤ 5 := by omega
  have HW := Lib.hid hW; have HC := Lib.hid hC
  clear h hm hw hc hW hC
  go_enter Try.func9, Try.ntmps9
  go_wp2_with fail
  refine CM.out.mono ?_
  rintro e w2 ⟨rfl, hb2⟩
  have B2 := Lib.hid (BX.out.trans (hb2.mono BX.out.size))
  have I2 := Lib.hid (IN.out.below hb2)
  clear hb2 CM
  have hI := I2.out
  unfold CfgIn at hI
  obtain ⟨-, -, -, i3, -⟩ := hI
  rw [HC.out] at i3
  go_wp2_with fail
  go_loopw [5, 13] (fun ov iv wr => ∃ (j : Nat) (av : Option Addr) (cv : Nat), j ≤ C ∧ iv = .int .i64 j ∧ ov = .slice av j cv ∧ Hid (wr.ownsRow (w.heap.size + 1) 3 1 (.slice av j cv) j (numsV (Pl.cop W j s))) ∧ Hid (Below w2.heap.size w2 wr ∨ True) ∧ Hid (Below w.heap.size w wr ∧ CfgIn wr w.heap.size c)) (fun _ iv _ => C - (intOf iv).toNat)
  case atStart => exact ⟨0, none, 0, by omega, rfl, rfl, Lib.hid (World.ownsRow_nil _ _ _ _), Lib.hid (Or.inr trivial), Lib.hid ⟨B2.out, I2.out⟩⟩
  case round =>
    obtain ⟨j, av, cv, hj, rfl, rfl, hO, -, hB⟩ := hrel
    by_cases hlt : j < C
    · have hI := hB.out.2
      unfold CfgIn at hI
      obtain ⟨-, -, k2, -⟩ := hI
      rw [HW.out] at k2
      have d1 : decide ((j : Int) < (C : Int)) = true := decide_eq_true (by omega)
      obtain ⟨z, hz⟩ : ∃ z, (s + j) % W = z := ⟨_, rfl⟩
      have hzl : z < W := by rw [← hz]; exact Nat.mod_lt _ (by omega)
      have HZ := Lib.hid (show Pl.cop W (j + 1) s = Pl.cop W j s ++ [1 + (z : Int)] from by rw [Pl.cop_snoc, hz]; simp)
      have r1 : IntKind.i64.wrap ((s : Int) + (j : Int)) = (s : Int) + (j : Int) := by rw [IntWalk.i64_in _ (by omega)]
      have r2 : ((s : Int) + (j : Int)) % (W : Int) = (z : Int) := by rw [← hz]; simp
      have r3 : IntKind.i64.wrap (1 + (z : Int)) = 1 + (z : Int) := by rw [IntWalk.i64_in _ (by have := H5.out; omega)]
      have IH := Lib.hid hB.out.2
      clear hz
      go_wp2_with (at_builtin; refine wpList_append_any rfl (.tmp 16) (.tmp 24) 28 rfl (w.heap.size + 1) 3 i0 _ 1 8 Try.underlying28 hi hz0 hz1 hz2 rfl (by decide) _ j _ rfl (hO.out.alloc _) _ 1 1 [.int .i64 (1 + (z : Int))] rfl (some_none _) rfl (one_new _ _ _ _) (by simp [Value.oneCell']) (by unfold maxLen; omega) (by omega) (by have := lt_of_cell IH.out.1; simp; omega) ?_; intro a3 c3 w3 hown3 hb3 hnil3)
      have O3 := Lib.hid (show w3.ownsRow (w.heap.size + 1) 3 1 (.slice a3 (j + 1) c3) (j + 1) (numsV (Pl.cop W (j + 1) s)) from by rw [HZ.out]; unfold numsV at hown3 ⊢; rw [List.map_append]; exact hown3)
      have B3 := Lib.hid (show Below w.heap.size w w3 ∧ CfgIn w3 w.heap.size c from by
        have b1 : Below (w.heap.size + 1) wr w3 := ((Below.refl (w.heap.size + 1) wr).alloc (by have := lt_of_cell IH.out.1; omega) _).trans hb3
        exact ⟨hB.out.1.trans (b1.mono (by omega)), IH.out.of fun i => b1.cell (p := ⟨w.heap.size, i, none⟩) (by show w.heap.size < w.heap.size + 1; omega)⟩)
      clear hown3 hb3 hnil3 k2 IH
      go_roundw
      case rel => exact ⟨j + 1, a3, c3, by omega, by go_num, rfl, O3, Lib.hid (Or.inr trivial), B3⟩
      case measure => simp [intOf] <;> omega
    · obtain rfl : j = C := by omega
      have d1 : decide ((j : Int) < (j : Int)) = false := decide_eq_false (by omega)
      go_wp2_with fail
      go_ret
      refine ⟨av, cv, by rw [Pl.cop_len]; rfl, ?_, hB.out.1⟩
      rw [Pl.cop_len]
      have := hO.out
      exact ⟨this.1, this.2.imp id (fun ⟨g, cap, cur, hv, hge, r⟩ => ⟨g, cap, cur, hv, by omega, r⟩)⟩
theorem copies_out (c : Cfg) (s : Int) (w : World) (h : CfgOk w c) (hm : c.may = true) (hs : ¬ (0 ≤ s ∧ s < ((c.kn + 1 : Nat) : Int))) :
    Calls Try.prog 9 #[.agg #[.slice c.wa c.wn c.wc, .slice c.ka c.kn c.kc, .int .i64 c.W, .int .i64 c.C, .int .i64 c.S, .int .i64 c.B, .int .i64 c.L, .int .i64 c.H, .int .i64 c.F, .int .i64 c.P, .int .i64 c.J, .int .i64 c.N], .int .i64 s] w (RetZ w []) := by
  have BX := Lib.hid (below_one w (.cells #[.slice c.wa c.wn c.wc, .slice c.ka c.kn c.kc, .int .i64 c.W, .int .i64 c.C, .int .i64 c.S, .int .i64 c.B, .int .i64 c.L, .int .i64 c.H, .int .i64 c.F, .int .i64 c.P, .int .i64 c.J, .int .i64 c.N] 25))
  have CM := Lib.hid (has_any c s false _ (h.below BX.out) hm (decide_eq_false hs))
  clear h hm hs
  go_enter Try.func9, Try.ntmps9
  go_wp2_with fail
  refine CM.out.mono ?_
  rintro e w2 ⟨rfl, hb2⟩
  have B2 := Lib.hid (BX.out.trans (hb2.mono BX.out.size))
  clear hb2 CM
  go_wp2_with fail
  go_ret
  exact ⟨none, 0, rfl, World.ownsRow_nil _ _ _ _, B2.out⟩
theorem pindex_any (a : Option Addr) (n cap : Nat) (zs : List Int) (x : Int) (w : World) (h : HoldsI .i64 w a n zs) (hn : n ≤ 1000000) :
    Calls Try.prog 53 #[.slice a n cap, .int .i64 x] w fun e w' => e = .returned (.int .i64 (if x ∈ zs then (zs.idxOf x : Int) else -1)) ∧ w = w' := by
  have H := Lib.hid h
  have hl := h.1
  obtain ⟨R, hR⟩ : ∃ R : Int, (if x ∈ zs then (zs.idxOf x : Int) else -1) = R := ⟨_, rfl⟩
  rw [hR]
  have RY := Lib.hid (show ∀ j, j < n → zs.getD j 0 = x → (∀ k, k < j → zs.getD k 0 ≠ x) → R = (j : Int) from fun j hj he hno => by
    have hjl : j < zs.length := by omega
    have e0 : zs[j] = x := by rw [← he, List.getD_eq_getElem?_getD, List.getElem?_eq_getElem hjl]; rfl
    have hmem : x ∈ zs := by rw [← e0]; exact List.getElem_mem _
    rw [← hR, if_pos hmem]
    have hlt := List.idxOf_lt_length_of_mem hmem
    have hat := List.getElem_idxOf hlt
    rcases Nat.lt_trichotomy (zs.idxOf x) j with hh | hh | hh
    · exact absurd (by rw [List.getD_eq_getElem?_getD, List.getElem?_eq_getElem hlt]; exact hat) (hno _ hh)
    · rw [hh]
    · have h2 := List.not_of_lt_findIdx (p := (· == x)) (xs := zs) (i := j) hh
      rw [e0] at h2
      simp at h2)
  have RN := Lib.hid (show (∀ k, k < n → zs.getD k 0 ≠ x) → R = -1 from fun hno => by
    rw [← hR, if_neg]
    intro hmem
    obtain ⟨k, hk, he⟩ := List.getElem_of_mem hmem
    exact hno k (by omega) (by rw [List.getD_eq_getElem?_getD, List.getElem?_eq_getElem hk]; exact he))
  clear h hR
  go_enter Try.func53, Try.ntmps53
  go_wp2_with fail
  go_loop [8] (fun iv => ∃ j : Nat, j ≤ n ∧ iv = .int .i64 j ∧ Hid (∀ k, k < j → zs.getD k 0 ≠ x)) (fun iv => n - (intOf iv).toNat)
  case atStart => exact ⟨0, by omega, rfl, Lib.hid (fun k hk => by omega)⟩
  case round =>
    obtain ⟨j, hj, rfl, hno⟩ := hrel
    by_cases hlt : j < n
    · obtain ⟨b, o, rfl, hc⟩ := H.out.at (by omega)
      have e0 := hc j hlt
      have hry := RY.out j hlt
      obtain ⟨y, hy⟩ : ∃ y, zs.getD j 0 = y := ⟨_, rfl⟩
      have HY := Lib.hid hy
      rw [hy] at e0 hry
      clear hc hy
      by_cases he : y = x
      · have d1 : (x == y) = true := by simp [he]
        have hres := hry he hno.out
        clear hry he
        go_wp2_with fail
        go_ret
        exact ⟨rfl, rfl⟩
      · have d1 : (x == y) = false := by simp; exact fun h => he h.symm
        have NX := Lib.hid (show ∀ k, k < j + 1 → zs.getD k 0 ≠ x from fun k hk => by
          rcases Nat.lt_succ_iff_lt_or_eq.1 hk with e | e
          · exact hno.out k e
          · subst e; rw [HY.out]; exact he)
        clear hry he
        go_wp2_with fail
        go_round
        case rel => exact ⟨j + 1, by omega, by go_num, NX⟩
        case measure => simp [intOf]; omega
    · obtain rfl : j = n := by omega
      have hres := RN.out hno.out
      go_wp2_with fail
      go_ret
      exact ⟨rfl, rfl⟩
theorem contains_any (a : Option Addr) (n cap : Nat) (zs : List Int) (x : Int) (z : Bool) (w : World) (h : HoldsI .i64 w a n zs) (hn : n ≤ 1000000) (hz : decide (x ∈ zs) = z) :
    Calls Try.prog 34 #[.slice a n cap, .int .i64 x] w fun e w' => e = .returned (.bool z) ∧ w = w' := by
  have CI := pindex_any a n cap zs x w h hn
  obtain ⟨R, hR⟩ : ∃ R : Int, (if x ∈ zs then (zs.idxOf x : Int) else -1) = R := ⟨_, rfl⟩
  rw [hR] at CI
  have d1 : decide (R ≥ 0) = z := by
    rw [← hz, ← hR]
    by_cases hm : x ∈ zs
    · rw [if_pos hm, decide_eq_true hm]; exact decide_eq_true (by omega)
    · rw [if_neg hm, decide_eq_false hm]; rfl
  have C := Lib.hid CI
  clear CI hR hz h
  go_enter Try.func34, Try.ntmps34
  go_wp2_with fail
  refine C.out.mono ?_
  rintro e w' ⟨rfl, rfl⟩
  go_wp2_with fail
  go_ret
  exact ⟨rfl, rfl⟩
end Go.Proofs.Ytbimbgcejeeinaa
/- place: Keeps, Words -/
namespace Go.Proofs.Ytbimbgcejeeinaa
open Go.RowKit
set_option linter.unusedVariables false
set_option maxRecDepth 20000
set_option maxHeartbeats 6400000 in
theorem keeps_any (c : Cfg) (x : Int) (W C : Nat) (w : World) (h : CfgOk w c) (hm : c.may = true) (hW : c.W = (W : Int)) (hC : c.C = (C : Int)) :
    Calls Try.prog 10 #[.agg #[.slice c.wa c.wn c.wc, .slice c.ka c.kn c.kc, .int .i64 c.W, .int .i64 c.C, .int .i64 c.S, .int .i64 c.B, .int .i64 c.L, .int .i64 c.H, .int .i64 c.F, .int .i64 c.P, .int .i64 c.J, .int .i64 c.N], .int .i64 x] w (RetZ w (natsZ (Pl.keep W C (c.kn + 1) x))) := by
  obtain ⟨i0, hi, hz0, hz1, hz2⟩ := info_parts num_info
  have BX := Lib.hid (below_one w (.cells #[.slice c.wa c.wn c.wc, .slice c.ka c.kn c.kc, .int .i64 c.W, .int .i64 c.C, .int .i64 c.S, .int .i64 c.B, .int .i64 c.L, .int .i64 c.H, .int .i64 c.F, .int .i64 c.P, .int .i64 c.J, .int .i64 c.N] 25))
  have IN := Lib.hid (cfgIn_new w c w.heap.size 25 (0, 0) rfl)
  have OK := Lib.hid h
  have CM := Lib.hid (shards_any c _ (h.below BX.out) hm)
  have hk := may_kn hm h
  have HW := Lib.hid hW; have HC := Lib.hid hC; have HM := Lib.hid hm
  have HC3 := Lib.hid (show C ≤ 3 from by have := (may_parts hm).2.2.2.1; omega)
  obtain ⟨n, hn⟩ : ∃ n, c.kn + 1 = n := ⟨_, rfl⟩
  have HN := Lib.hid hn
  rw [hn] at CM
  rw [hn]
  have hn6 : n ≤ 6 := by omega
  clear h hm hW hC hn hk
  go_enter Try.func10, Try.ntmps10
  go_wp2_with fail
  refine CM.out.mono ?_
  rintro e w2 ⟨rfl, hb2⟩
  have B2 := Lib.hid (BX.out.trans (hb2.mono BX.out.size))
  have I2 := Lib.hid (IN.out.below hb2)
  clear hb2 CM
  go_wp2_with fail
  go_loopw [5, 9] (fun ov iv wr => ∃ (j : Nat) (K : List Nat) (av : Option Addr) (cv : Nat), j ≤ n ∧ K.length ≤ j ∧ iv = .int .i64 j ∧ ov = .slice av K.length cv ∧ Hid (K = Pl.keep W C j x) ∧ Hid (wr.ownsRow (w.heap.size + 1) 3 1 (.slice av K.length cv) K.length (numsV (natsZ K))) ∧ Hid (Below w.heap.size w wr ∧ CfgIn wr w.heap.size c)) (fun _ iv _ => n - (intOf iv).toNat)
  case atStart => exact ⟨0, [], none, 0, by omega, by simp, rfl, rfl, Lib.hid rfl, Lib.hid (World.ownsRow_nil _ _ _ _), Lib.hid ⟨B2.out, I2.out⟩⟩
  case round =>
    obtain ⟨j, K, av, cv, hj, hKl, rfl, rfl, hK, hO, hB⟩ := hrel
    by_cases hlt : j < n
    · have hI := hB.out.2
      unfold CfgIn at hI
      obtain ⟨i0', i1, i2, i3, i4, i5, i6, i7, i8, i9, i10, i11⟩ := hI
      have d1 : decide ((j : Int) < (n : Int)) = true := decide_eq_true (by omega)
      have CC := Lib.hid (copies_in c j W C wr (OK.out.below hB.out.1) HM.out (by have := HN.out; omega) HW.out HC.out)
      obtain ⟨L, hL⟩ : ∃ L, Pl.cop W C j = L := ⟨_, rfl⟩
      have LL := Lib.hid (show L.length ≤ 3 from by rw [← hL, Pl.cop_len]; exact HC3.out)
      obtain ⟨z, hz⟩ : ∃ z, decide (x ∈ L) = z := ⟨_, rfl⟩
      have HZ := Lib.hid hz
      have hks := Pl.keep_snoc W C j x
      rw [hL] at CC hks
      have KS := Lib.hid hks
      clear hL hz hks
      go_wp2_with fail
      refine CC.out.mono ?_
      rintro e w3 ⟨la, lc, rfl, hown, hb3⟩
      have CT := Lib.hid (contains_any la L.length lc L x z w3 (holdsZ_own hown) (by have := LL.out; omega) HZ.out)
      have O3 := Lib.hid (owns_below hO.out hb3)
      have B3 := Lib.hid (show Below w.heap.size w w3 ∧ CfgIn w3 w.heap.size c from ⟨hB.out.1.trans (hb3.mono hB.out.1.size), hB.out.2.below hb3⟩)
      clear hown hb3 CC i0' i1 i2 i3 i4 i5 i6 i7 i8 i9 i10 i11
      go_wp2_with fail
      refine CT.out.mono ?_
      rintro e w' ⟨rfl, rfl⟩
      clear CT
      cases z
      · have K2 := Lib.hid (show K = Pl.keep W C (j + 1) x from by rw [KS.out, if_neg (of_decide_eq_false HZ.out), List.append_nil]; exact hK.out)
        go_wp2_with fail
        go_roundw
        case rel => exact ⟨j + 1, K, av, cv, by omega, by omega, by go_num, rfl, K2, O3, B3⟩
        case measure => simp [intOf] <;> omega
      · have K2 := Lib.hid (show K ++ [j] = Pl.keep W C (j + 1) x from by rw [KS.out, if_pos (of_decide_eq_true HZ.out), ← hK.out])
        go_wp2_with (at_builtin; refine wpList_append_any rfl (.tmp 17) (.tmp 19) 28 rfl (w.heap.size + 1) 3 i0 _ 1 8 Try.underlying28 hi hz0 hz1 hz2 rfl (by decide) _ K.length _ rfl (O3.out.alloc _) _ 1 1 [.int .i64 (j : Int)] rfl (some_none _) rfl (one_new _ _ _ _) (by simp [Value.oneCell']) (by unfold maxLen; omega) (by omega) (by have := lt_of_cell B3.out.2.1; simp; omega) ?_; intro a5 c5 w5 hown5 hb5 hnil5)
        have O5 := Lib.hid (show w5.ownsRow (w.heap.size + 1) 3 1 (.slice a5 (K ++ [j]).length c5) (K ++ [j]).length (numsV (natsZ (K ++ [j]))) from by rw [List.length_append]; unfold numsV natsZ at hown5 ⊢; rw [List.map_append, List.map_append]; exact hown5)
        have B5 := Lib.hid (show Below w.heap.size w w5 ∧ CfgIn w5 w.heap.size c from by
          have b1 : Below (w.heap.size + 1) w3 w5 := ((Below.refl (w.heap.size + 1) w3).alloc (by have := lt_of_cell B3.out.2.1; omega) _).trans hb5
          exact ⟨B3.out.1.trans (b1.mono (by omega)), B3.out.2.of fun i => b1.cell (p := ⟨w.heap.size, i, none⟩) (by show w.heap.size < w.heap.size + 1; omega)⟩)
        clear hown5 hb5 hnil5
        go_roundw
        case rel => exact ⟨j + 1, K ++ [j], a5, c5, by omega, by simp; omega, by go_num, by simp, K2, O5, B5⟩
        case measure => simp [intOf] <;> omega
    · obtain rfl : j = n := by omega
      have d1 : decide ((j : Int) < (j : Int)) = false := decide_eq_false (by omega)
      go_wp2_with fail
      go_ret
      refine ⟨av, cv, by rw [← hK.out, natsZ_len]; rfl, ?_, hB.out.1⟩
      rw [← hK.out, natsZ_len]
      have := hO.out
      exact ⟨this.1, this.2.imp id (fun ⟨g, cap, cur, hv, hge, r⟩ => ⟨g, cap, cur, hv, by omega, r⟩)⟩
theorem pwords_any (c : Cfg) (s k : Nat) (zs : List Tx) (w : World) (h : CfgOk w c) (hm : c.may = true) (hs : s < c.kn + 1) (hz : sliceS c.ks c.ws s = zs) (hk : zs.length = k) :
    Calls Try.prog 11 #[.agg #[.slice c.wa c.wn c.wc, .slice c.ka c.kn c.kc, .int .i64 c.W, .int .i64 c.C, .int .i64 c.S, .int .i64 c.B, .int .i64 c.L, .int .i64 c.H, .int .i64 c.F, .int .i64 c.P, .int .i64 c.J, .int .i64 c.N], .int .i64 (s : Int)] w fun e w' => ∃ a' c', e = .returned (.slice a' k c') ∧ LstP w' a' k c' zs ∧ Below w.heap.size w w' := by
  have BX := Lib.hid (below_one w (.cells #[.slice c.wa c.wn c.wc, .slice c.ka c.kn c.kc, .int .i64 c.W, .int .i64 c.C, .int .i64 c.S, .int .i64 c.B, .int .i64 c.L, .int .i64 c.H, .int .i64 c.F, .int .i64 c.P, .int .i64 c.J, .int .i64 c.N] 25))
  have IN := Lib.hid (cfgIn_new w c w.heap.size 25 (0, 0) rfl)
  have ok := h.below BX.out
  have hkn := may_kn hm h
  have hwn : c.wn ≤ 60 := by
    have := (goodV_zero (may_parts hm).1).1
    have := h.1.len
    omega
  have CS := Lib.hid (sliceP_lst c.ka c.kn c.kc c.ks c.wa c.wn c.wc c.ws zs s k _ ok.2.2.2.2.2.1 ok.1 (by omega) (by omega) (by omega) ok.2.2.2.2.1 hz hk)
  clear ok h hm hs hz hk
  go_enter Try.func11, Try.ntmps11
  go_wp2_with fail
  refine CS.out.mono ?_
  rintro e w2 ⟨a', c', rfl, hl, hb⟩
  have B2 := Lib.hid (BX.out.trans (hb.mono BX.out.size))
  have L2 := Lib.hid hl
  clear hb hl
  go_wp2_with fail
  go_ret
  exact ⟨a', c', rfl, L2.out, B2.out⟩
end Go.Proofs.Ytbimbgcejeeinaa
/- place: how shards are spread (plain) -/
namespace Go.Proofs.Ytbimbgcejeeinaa
open Go.RowKit
set_option linter.unusedVariables false
set_option maxRecDepth 20000
namespace Pl
theorem cop_bd {W C s : Nat} (hW : 1 ≤ W) {x : Int} (h : x ∈ cop W C s) : 1 ≤ x ∧ x ≤ (W : Int) := by
  unfold cop at h
  obtain ⟨j, _, rfl⟩ := List.mem_map.1 h
  have := Nat.mod_lt (s + j) (show 0 < W by omega)
  omega
def inN (W C s i : Nat) : Bool := (List.range C).any fun j => (1 + (s + j) % W) == i
theorem mem_cop (W C s i : Nat) : decide ((i : Int) ∈ cop W C s) = inN W C s i := by
  unfold cop inN
  rw [Bool.eq_iff_iff]
  simp only [decide_eq_true_eq, List.mem_map, List.any_eq_true, beq_iff_eq]
  constructor
  · rintro ⟨j, h1, h2⟩; exact ⟨j, h1, by omega⟩
  · rintro ⟨j, h1, h2⟩; exact ⟨j, h1, by omega⟩
def cnt (W C S i : Nat) : Nat := ((List.range S).filter fun s => inN W C s i).length
theorem keep_cnt (W C S i : Nat) : (keep W C S (i : Int)).length = cnt W C S i := by
  unfold keep cnt
  congr 1
  apply List.filter_congr
  intro s _
  exact mem_cop W C s i
theorem keep_none {W C S : Nat} (hW : 1 ≤ W) {x : Int} (h : ¬ (1 ≤ x ∧ x ≤ (W : Int))) : keep W C S x = [] := by
  unfold keep
  rw [List.filter_eq_nil_iff]
  intro s _ hs
  exact h (cop_bd hW (of_decide_eq_true hs))
def loF (W C S : Nat) : Nat → Nat
  | 0 => 100
  | k + 1 => min (loF W C S k) (cnt W C S (k + 1))
def hiF (W C S : Nat) : Nat → Nat
  | 0 => 0
  | k + 1 => max (hiF W C S k) (cnt W C S (k + 1))
theorem lo_le (W C S : Nat) : ∀ k, loF W C S k ≤ 100
  | 0 => Nat.le_refl _
  | k + 1 => Nat.le_trans (Nat.min_le_left _ _) (lo_le W C S k)
theorem cnt_le (W C S i : Nat) : cnt W C S i ≤ S := by
  unfold cnt
  exact Nat.le_trans (List.length_filter_le _ _) (by simp)
theorem hi_le (W C S : Nat) : ∀ k, hiF W C S k ≤ S
  | 0 => by unfold hiF; omega
  | k + 1 => by unfold hiF; have := hi_le W C S k; have := cnt_le W C S (k + 1); omega
theorem spread_tab : ((List.range 6).all fun W => (List.range 4).all fun C => (List.range 7).all fun S => !(decide (1 ≤ W) && decide (1 ≤ C) && decide (C ≤ W) && decide (1 ≤ S)) || (decide (hiF W C S W ≤ loF W C S W + C) && decide (1 ≤ hiF W C S W))) = true := by decide +kernel
theorem spread_all {W C S : Nat} (h1 : 1 ≤ W) (h2 : W ≤ 5) (h3 : 1 ≤ C) (h4 : C ≤ 3) (h5 : C ≤ W) (h6 : 1 ≤ S) (h7 : S ≤ 6) : hiF W C S W ≤ loF W C S W + C ∧ 1 ≤ hiF W C S W := by
  have t := spread_tab
  rw [List.all_eq_true] at t
  have t1 := t W (by simp; omega)
  rw [List.all_eq_true] at t1
  have t2 := t1 C (by simp; omega)
  rw [List.all_eq_true] at t2
  have t3 := t2 S (by simp; omega)
  simpa [h1, h3, h5, h6] using t3
end Pl
end Go.Proofs.Ytbimbgcejeeinaa
/- place: awake -/
namespace Go.Proofs.Ytbimbgcejeeinaa
open Go.RowKit
set_option linter.unusedVariables false
set_option maxRecDepth 20000
abbrev plE : Tx := { data := #[] }
abbrev cfg0 (B : Nat) : Cfg := ⟨none, 0, 0, some ⟨B, 0, none⟩, 2, 2, 3, 2, 1, 2, 5, 3, 1, 4, 0, 8, [], [(2, plE), (4, plE)]⟩
abbrev cfgE : Cfg := ⟨none, 0, 0, none, 0, 0, 0, 0, 0, 0, 0, 0, 0, 0, 0, 0, [], []⟩
theorem plE_len : lenS plE = 0 := by decide
theorem good_nilV : goodV [] = 0 := by decide
theorem good_keys0 : goodK [(2, plE), (4, plE)] = 0 := goodK_of (by decide) (by
  intro k hk
  simp at hk
  rcases hk with rfl | rfl <;> simp [mayK, plE_len]) (by simp [SortedK, ordK_lt])
theorem good_nilK : goodK [] = 0 := goodK_of (by decide) (by simp) (by simp [SortedK])
theorem may_cfg0 (B : Nat) : (cfg0 B).may = true := by
  simp [Cfg.may, good_nilV, good_keys0]
theorem may_cfgE : cfgE.may = false := by
  simp [Cfg.may]
theorem ok_cfgE (w : World) : CfgOk w cfgE := ⟨HoldsT.nil _ _, fun _ => ⟨rfl, rfl⟩, Nat.le_refl _, by simp, by simp, ⟨rfl, fun h => by simp at h⟩, by simp, by simp⟩
theorem ok_cfg0 (w : World) : CfgOk (w.alloc (.cells #[.int .i64 2, .string { data := #[] }, .int .i64 4, .string { data := #[] }] 54)) (cfg0 w.heap.size) := by
  refine ⟨HoldsT.nil _ _, fun _ => ⟨rfl, rfl⟩, Nat.le_refl _, by simp, by simp, ⟨rfl, fun _ => ⟨w.heap.size, 0, rfl, fun i hi => ?_⟩⟩, by simp, ?_⟩
  · have hc : i = 0 ∨ i = 1 := by
      have : i < 2 := hi
      omega
    rcases hc with rfl | rfl <;> simp
  · intro k hk
    simp at hk
    rcases hk with rfl | rfl <;> (unfold KeyOk i64okK; decide)
theorem two_ints (w : World) (x y : Int) (e : TypeId) (fr : Nat × Nat) : HoldsI .i64 (w.alloc (.cells #[.int .i64 x, .int .i64 y] e fr)) (some ⟨w.heap.size, 0, none⟩) 2 [x, y] := by
  refine ⟨rfl, fun _ => ⟨w.heap.size, 0, rfl, fun i hi => ?_⟩⟩
  have hc : i = 0 ∨ i = 1 := by omega
  rcases hc with rfl | rfl <;> (rw [Nat.zero_add, World.cell?_alloc_mark]; rfl)
set_option maxHeartbeats 3200000 in
set_option maxRecDepth 100000 in
theorem awakePl_any (w : World) : Calls Try.prog 8 #[] w fun e w' => e = .returned (.bool true) ∧ Below w.heap.size w w' := by
  have OK0 := Lib.hid (ok_cfg0 w)
  have B0 := Lib.hid (below_one w (.cells #[.int .i64 2, .string { data := #[] }, .int .i64 4, .string { data := #[] }] 54))
  have c1 : Pl.cop 3 2 2 = [3, 1] := by decide
  have c2 : natsZ (Pl.keep 3 2 3 1) = [0, 2] := by decide
  have C1 := Lib.hid c1; have C2 := Lib.hid c2
  clear c1 c2
  go_enter Try.func8, Try.ntmps8
  go_upto_region 2 with fail
  have hs1 : (w.alloc (.cells #[.int .i64 2, .string { data := #[] }, .int .i64 4, .string { data := #[] }] 54)).heap.size = w.heap.size + 1 := by simp
  generalize w.alloc (.cells #[.int .i64 2, .string { data := #[] }, .int .i64 4, .string { data := #[] }] 54) = w1 at *
  obtain ⟨B, hB⟩ : ∃ B, w.heap.size = B := ⟨_, rfl⟩
  rw [hB] at OK0 hs1
  rw [hB]
  have BX := below_one w1 (.cells #[.slice none 0 0, .slice (some ⟨B, 0, none⟩) 2 2, .int .i64 3, .int .i64 2, .int .i64 1, .int .i64 2, .int .i64 5, .int .i64 3, .int .i64 1, .int .i64 4, .int .i64 0, .int .i64 8] 25)
  have IN := Lib.hid (show CfgIn (w1.alloc (.cells #[.slice none 0 0, .slice (some ⟨B, 0, none⟩) 2 2, .int .i64 3, .int .i64 2, .int .i64 1, .int .i64 2, .int .i64 5, .int .i64 3, .int .i64 1, .int .i64 4, .int .i64 0, .int .i64 8] 25)) w1.heap.size (cfg0 B) from cfgIn_new w1 (cfg0 B) w1.heap.size 25 (0, 0) rfl)
  have OK := Lib.hid (OK0.out.below BX)
  have B2 := Lib.hid (B0.out.trans (BX.mono B0.out.size))
  have HM := Lib.hid (may_cfg0 B)
  have HW := Lib.hid (show (cfg0 B).W = ((3 : Nat) : Int) from rfl)
  have HC := Lib.hid (show (cfg0 B).C = ((2 : Nat) : Int) from rfl)
  have HK := Lib.hid (show (cfg0 B).kn + 1 = 3 from rfl)
  rw [hs1] at IN
  clear BX OK0 hB hs1
  generalize cfg0 B = c at *
  generalize w1.alloc (.cells #[.slice none 0 0, .slice (some ⟨B, 0, none⟩) 2 2, .int .i64 3, .int .i64 2, .int .i64 1, .int .i64 2, .int .i64 5, .int .i64 3, .int .i64 1, .int .i64 4, .int .i64 0, .int .i64 8] 25) = w2 at *
  generalize B + 1 = p at *
  have hI := IN.out
  unfold CfgIn at hI
  obtain ⟨i0, i1, i2, i3, i4, i5, i6, i7, i8, i9, i10, i11⟩ := hI
  have CM := Lib.hid (may_cfg c true w2 OK.out HM.out)
  go_wp2_with fail
  refine CM.out.mono ?_
  rintro e w3 ⟨rfl, hb3⟩
  have I3 := Lib.hid (IN.out.below hb3)
  have OK3 := Lib.hid (OK.out.below hb3)
  have B3 := Lib.hid (B2.out.trans (hb3.mono B2.out.size))
  clear hb3 CM i0 i1 i2 i3 i4 i5 i6 i7 i8 i9 i10 i11
  have hI := I3.out
  unfold CfgIn at hI
  obtain ⟨i0, i1, i2, i3, i4, i5, i6, i7, i8, i9, i10, i11⟩ := hI
  have CM := Lib.hid (shards_any c w3 OK3.out HM.out)
  rw [HK.out] at CM
  go_wp2_with fail
  refine CM.out.mono ?_
  rintro e w4 ⟨rfl, hb4⟩
  have I4 := Lib.hid (I3.out.below hb4)
  have OK4 := Lib.hid (OK3.out.below hb4)
  have B4 := Lib.hid (B3.out.trans (hb4.mono B3.out.size))
  clear hb4 CM i0 i1 i2 i3 i4 i5 i6 i7 i8 i9 i10 i11
  have hI := I4.out
  unfold CfgIn at hI
  obtain ⟨i0, i1, i2, i3, i4, i5, i6, i7, i8, i9, i10, i11⟩ := hI
  have CM := Lib.hid (copies_in c 2 3 2 w4 OK4.out HM.out (by have := HK.out; omega) HW.out HC.out)
  rw [C1.out] at CM
  go_wp2_with fail
  refine CM.out.mono ?_
  rintro e w5 ⟨la, lc, rfl, hown, hb5⟩
  have H5 := Lib.hid (show HoldsI .i64 w5 la 2 [3, 1] from holdsZ_own hown)
  have I5 := Lib.hid (I4.out.below hb5)
  have OK5 := Lib.hid (OK4.out.below hb5)
  have B5 := Lib.hid (B4.out.trans (hb5.mono B4.out.size))
  clear hb5 hown CM i0 i1 i2 i3 i4 i5 i6 i7 i8 i9 i10 i11
  have BX := below_one w5 (.cells #[.int .i64 3, .int .i64 1] 3)
  have CM := Lib.hid (sameInts_any la (some ⟨w5.heap.size, 0, none⟩) 2 lc 2 2 [3, 1] [3, 1] _ (H5.out.below BX) (two_ints w5 3 1 3 (0, 0)) (by omega) (by omega))
  rw [decide_eq_true rfl] at CM
  go_wp2_with fail
  refine CM.out.mono ?_
  rintro e w' ⟨rfl, m6, rfl⟩
  have hb6 := BX.trans ((below_drewN _ m6).mono BX.size)
  have I6 := Lib.hid (I5.out.below hb6)
  have OK6 := Lib.hid (OK5.out.below hb6)
  have B6 := Lib.hid (B5.out.trans (hb6.mono B5.out.size))
  clear CM BX hb6
  generalize (w5.alloc (.cells #[.int .i64 3, .int .i64 1] 3)).drewN m6 = w6 at *
  have hI := I6.out
  unfold CfgIn at hI
  obtain ⟨i0, i1, i2, i3, i4, i5, i6, i7, i8, i9, i10, i11⟩ := hI
  have CM := Lib.hid (keeps_any c 1 3 2 w6 OK6.out HM.out HW.out HC.out)
  rw [HK.out, C2.out] at CM
  go_wp2_with fail
  refine CM.out.mono ?_
  rintro e w7 ⟨ka, kc, rfl, hown, hb7⟩
  have H7 := Lib.hid (show HoldsI .i64 w7 ka 2 [0, 2] from holdsZ_own hown)
  have B7 := Lib.hid (B6.out.trans (hb7.mono B6.out.size))
  clear hb7 hown CM i0 i1 i2 i3 i4 i5 i6 i7 i8 i9 i10 i11
  have BX := below_one w7 (.cells #[.int .i64 0, .int .i64 2] 3)
  have CM := Lib.hid (sameInts_any ka (some ⟨w7.heap.size, 0, none⟩) 2 kc 2 2 [0, 2] [0, 2] _ (H7.out.below BX) (two_ints w7 0 2 3 (0, 0)) (by omega) (by omega))
  rw [decide_eq_true rfl] at CM
  go_wp2_with fail
  refine CM.out.mono ?_
  rintro e w' ⟨rfl, m8, rfl⟩
  have hb8 := BX.trans ((below_drewN _ m8).mono BX.size)
  have B8 := Lib.hid (B7.out.trans (hb8.mono B7.out.size))
  clear CM BX hb8
  generalize (w7.alloc (.cells #[.int .i64 0, .int .i64 2] 3)).drewN m8 = w8 at *
  have CM := Lib.hid (may_cfg cfgE false w8 (ok_cfgE w8) may_cfgE)
  go_wp2_with fail
  refine CM.out.mono ?_
  rintro e w9 ⟨rfl, hb9⟩
  have B9 := Lib.hid (B8.out.trans (hb9.mono B8.out.size))
  clear hb9 CM
  go_wp2_with fail
  go_ret
  exact ⟨rfl, B9.out⟩
end Go.Proofs.Ytbimbgcejeeinaa
/- a number, from 0 to below n -/
namespace Go.Proofs.Ytbimbgcejeeinaa
open Go.RowKit
set_option linter.unusedVariables false
set_option maxRecDepth 20000
def lowV (x n : Int) : Int := IntKind.u64.wrap x % n
theorem low_bd (x n : Int) (h : 0 < n) : 0 ≤ lowV x n ∧ lowV x n < n := ⟨Int.emod_nonneg _ (by omega), Int.emod_lt_of_pos _ h⟩
theorem u64_in (n : Int) (h : 0 ≤ n) (h2 : n < 18446744073709551616) : IntKind.u64.wrap n = n := by
  simp only [IntKind.wrap, IntKind.signed, IntKind.bits]; simp; omega
theorem u64_bdL (d : Int) : 0 ≤ IntKind.u64.wrap d ∧ IntKind.u64.wrap d < 18446744073709551616 := by
  simp only [IntKind.wrap, IntKind.signed, IntKind.bits]; simp; omega
theorem low_any (x n : Int) (h : 1 ≤ n) (h2 : n < 4611686018427387904) (w : World) :
    Calls Try.prog 29 #[.int .i64 x, .int .i64 n] w fun e w' => e = .returned (.int .i64 (lowV x n)) ∧ w = w' := by
  have hb := low_bd x n (by omega)
  have hw := u64_in n (by omega) (by omega)
  have hx := u64_bdL x
  go_enter Try.func29, Try.ntmps29
  go_wp2
  go_ret
  exact ⟨ret_int (by unfold lowV at *; rw [IntWalk.wrap64_in _ ⟨by omega, by omega⟩]), rfl⟩
end Go.Proofs.Ytbimbgcejeeinaa
/- a slice in a cell of an argument, opened -/
namespace Go.Proofs.Ytbimbgcejeeinaa
open Go.ChangeShapes Go.WideShapes Go.ChangeAt Go.RowKit Go.Deep
set_option linter.unusedVariables false
set_option maxRecDepth 20000
theorem open_rows_cell {H : Type} {enc : TypeId × Value → H} {P : Program} {W : World} {t e : TypeId} {k : Nat} {c : Value} {fuel : Nat} {y : DataW H × List MemPlace}
    (ht : P.underlying t = some (.slice e)) (hc : P.cellsOf e = k) (hk : 0 < k) (good : List Value → Prop)
    (hgood : ∀ m cs y, DataW.trod enc P W 0 (fun _ => true) true m e cs = some y → good cs)
    (hf : DataW.trod enc P W 0 (fun _ => true) true fuel t [c] = some y) :
    ∃ (a : Option Addr) (n cap : Nat) (R : Nat → List Value), c = .slice a n cap ∧ (a = none → n = 0 ∧ cap = 0) ∧ n ≤ cap ∧ cap ≤ maxLen ∧ (∀ i, i < n → good (R i)) ∧
      (0 < n → ∃ b o, a = some ⟨b, o, none⟩ ∧ ∀ i, i < n → ∀ j, j < k → W.cell? ⟨b, o + i * k + j, none⟩ = (R i)[j]?) := by
  rcases open_slice ht hf with ⟨hcs, _⟩ | ⟨x, len, cap, m, n, D, Pl, hcs, _, hl, hm, hmm, _, hx⟩
  · obtain rfl : c = .slice none 0 0 := by simpa using hcs
    exact ⟨none, 0, 0, fun _ => [], rfl, fun _ => ⟨rfl, rfl⟩, Nat.le_refl _, by unfold maxLen; omega, by simp, by simp⟩
  · obtain rfl : c = .slice (some x) len cap := by simpa using hcs
    simp at hmm
    subst hmm
    rw [hc] at hx
    have hR : ∀ i, ∃ cs' : List Value, i < m → W.cells? 0 (x.add (i * k)) k = some cs' ∧ good cs' := fun i => by
      by_cases hi : i < m
      · obtain ⟨cs', h1, h2⟩ := hx i hi
        exact ⟨cs', fun _ => ⟨h1, hgood _ _ _ h2⟩⟩
      · exact ⟨[], fun h => absurd h hi⟩
    refine ⟨some x, len, m, fun i => (hR i).choose, rfl, (fun h => by cases h), hl, hm, fun i hi => ((hR i).choose_spec (by omega)).2, fun h0 => ?_⟩
    have h1 := fun i (hi : i < m) => (World.cells?_some ((hR i).choose_spec hi).1)
    obtain ⟨b, off, spot⟩ := x
    have hspot : spot = none := by
      have h2 := (h1 0 (by omega)).2.2 0 hk
      have h3 := (h1 0 (by omega)).2.1
      have h4 : ((hR 0).choose)[0]? = some (((hR 0).choose)[0]'(by omega)) := List.getElem?_eq_getElem _
      rw [h4] at h2
      simpa [Addr.add] using World.cell?_spot h2
    subst hspot
    refine ⟨b, off, rfl, fun i hi j hj => ?_⟩
    have h2 := (h1 i (by omega)).2.2 j hj
    rw [← h2, Go.WideShapes.add_plain, Go.WideShapes.add_plain]
end Go.Proofs.Ytbimbgcejeeinaa
/- a slice in a field of a struct that is an argument, opened -/
namespace Go.Proofs.Ytbimbgcejeeinaa
open Go.ChangeShapes Go.WideShapes Go.ChangeAt Go.RowKit Go.Deep
set_option linter.unusedVariables false
set_option maxRecDepth 20000
theorem open_pairs_cell {H : Type} {enc : TypeId × Value → H} {W : World} {c : Value} {fuel : Nat} {y : DataW H × List MemPlace} {t e : TypeId} {fs : Array Field} {f0 f1 : Field}
    (ht : Try.prog.underlying t = some (.slice e)) (he : Try.prog.underlying e = some (.struct fs)) (hc : Try.prog.cellsOf e = 2) (hf0 : fs[0]? = some f0) (hf1 : fs[1]? = some f1) (g0 : f0.type = 3 ∧ f0.offset = 0) (g1 : f1.type = 9 ∧ f1.offset = 1)
    (hf : DataW.trod enc Try.prog W 0 (fun _ => true) true fuel t [c] = some y) :
    ∃ a n cap ks, c = .slice a n cap ∧ HoldsK W a n ks ∧ (a = none → n = 0 ∧ cap = 0) ∧ n ≤ cap ∧ n ≤ 9223372036854775807 ∧ ∀ k ∈ ks, KeyOk k := by
  obtain ⟨a, n, cap, R, rfl, hnil, h1, h2, hg, hc⟩ := open_rows_cell ht hc (by omega) (fun cs => ∃ k : KV, KeyOk k ∧ cs = [.int .i64 k.1, .string k.2]) (fun _ _ _ h => pair_of he hc hf0 hf1 g0 g1 h) hf
  have hx : ∀ i, ∃ k : KV, i < n → KeyOk k ∧ R i = [.int .i64 k.1, .string k.2] := fun i => by
    by_cases hi : i < n
    · obtain ⟨x, h3⟩ := hg i hi
      exact ⟨x, fun _ => h3⟩
    · exact ⟨k0, fun h => absurd h hi⟩
  have hget : ∀ i, i < n → ((List.range n).map fun i => (hx i).choose).getD i k0 = (hx i).choose := fun i hi => by simp [List.getD_eq_getElem?_getD, hi]
  refine ⟨a, n, cap, (List.range n).map fun i => (hx i).choose, rfl, ⟨by simp, fun h0 => ?_⟩, hnil, h1, by unfold maxLen at h2; omega, fun k hk => ?_⟩
  · obtain ⟨b, o, ha, hcell⟩ := hc h0
    refine ⟨b, o, ha, fun i hi => ?_⟩
    have e := ((hx i).choose_spec hi).2
    have c0 := hcell i hi 0 (by omega)
    have c1 := hcell i hi 1 (by omega)
    rw [e] at c0 c1
    rw [hget i hi]
    exact ⟨by simpa using c0, by simpa using c1⟩
  · obtain ⟨i, hi, rfl⟩ := List.mem_map.1 hk
    exact ((hx i).choose_spec (by simpa using hi)).1
end Go.Proofs.Ytbimbgcejeeinaa
/- a configuration as argument, opened -/
namespace Go.Proofs.Ytbimbgcejeeinaa
open Go.ChangeShapes Go.WideShapes Go.ChangeAt Go.RowKit
set_option linter.unusedVariables false
set_option maxRecDepth 20000
/-- A struct by value, opened: its cells, and of each field its own reading. -/
theorem open_aggs2 {H : Type} {enc : TypeId × Value → H} {P : Program} {w : World} {base : Nat} {spare : Nat → Bool} {held : Bool} {r : Reach} {b0 : Nat} {t : TypeId} {fs : Array Field} {v : Value} {d : DataW H} {p : List MemPlace}
    (hs : P.underlying t = some (.struct fs)) (hv : Value.okWide P w r b0 t v) (h : DataW.Trod enc P w base spare held t v d p) :
    ∃ cs : Array Value, v = .agg cs ∧ cs.size = P.cellsOf t ∧ ∃ n, ∀ (i : Nat) (f : Field), fs[i]? = some f → ∃ y, DataW.trod enc P w base spare held n f.type ((cs.toList.drop f.offset).take (P.cellsOf f.type)) = some y := by
  obtain ⟨cs, rfl, hsz⟩ := okWide_struct hs hv
  obtain ⟨fuel, hf⟩ := h
  obtain ⟨xs, n, _, _, hl, hlen, hx⟩ := DataW.trod_struct hs hf
  refine ⟨cs, rfl, hsz, n, fun i f hi => ?_⟩
  have h1 := hx i f hi
  have hlt : i < xs.length := by
    rw [hlen]
    rcases Nat.lt_or_ge i fs.size with h' | h'
    · exact h'
    · rw [Array.getElem?_eq_none h'] at hi; cases hi
  rw [List.getElem?_eq_getElem hlt] at h1
  exact ⟨_, by simpa [Value.cells] using h1⟩
theorem array12c {α : Type} {cs : Array α} (h : cs.size = 12) : ∃ c0 c1 c2 c3 c4 c5 c6 c7 c8 c9 c10 c11, cs = #[c0, c1, c2, c3, c4, c5, c6, c7, c8, c9, c10, c11] := by
  obtain ⟨l⟩ := cs
  match l, h with
  | [c0, c1, c2, c3, c4, c5, c6, c7, c8, c9, c10, c11], _ => exact ⟨c0, c1, c2, c3, c4, c5, c6, c7, c8, c9, c10, c11, rfl⟩
theorem open_texts_cell {H : Type} {enc : TypeId × Value → H} {W : World} {v : Value} {fuel : Nat} {y : DataW H × List MemPlace}
    (hf : DataW.trod enc Try.prog W 0 (fun _ => true) true fuel 22 [v] = some y) :
    ∃ a n cap ts, v = .slice a n cap ∧ HoldsT W a n ts ∧ (a = none → n = 0 ∧ cap = 0) ∧ n ≤ cap ∧ n ≤ 9223372036854775807 ∧ ∀ t ∈ ts, t.size ≤ 9223372036854775807 := by
  rcases open_strings Try.underlying22 Try.underlying9 Try.cellsStr hf with ⟨hcs, _⟩ | ⟨x, l, c, ss, hcs, _, hl, hm, hz, _, hcell, hsz⟩
  · obtain rfl : v = .slice none 0 0 := by simpa using hcs
    exact ⟨none, 0, 0, [], rfl, HoldsT.nil _ _, fun _ => ⟨rfl, rfl⟩, Nat.le_refl _, by omega, by simp⟩
  · obtain rfl : v = .slice (some x) l c := by simpa using hcs
    have hzc : ss.length = c := by simpa using hz
    refine ⟨some x, l, c, ss.take l, rfl, ?_, (fun h => by cases h), hl, by unfold maxLen at hm; omega, fun t ht => by have := hsz t (List.mem_of_mem_take ht); unfold maxLen at this; omega⟩
    refine ⟨by simp [strsV]; omega, fun h0 => ?_⟩
    obtain ⟨b, off, spot⟩ := x
    have hspot : spot = none := by simpa [Addr.add] using World.cell?_spot (hcell 0 (by omega))
    subst hspot
    refine ⟨b, off, rfl, fun i hi => ?_⟩
    rw [← Go.WideShapes.add_plain, hcell i (by omega), getD_map_str _ i (by simp; omega)]
    congr 2
    simp only [List.getD_eq_getElem?_getD, List.getElem?_take]
    rw [if_pos hi]
theorem cells_cfg : Try.prog.cellsOf 25 = 12 := by kernel_rfl
theorem cells_ci : Try.prog.cellsOf 3 = 1 := by kernel_rfl
theorem cells_ct : Try.prog.cellsOf 22 = 1 := by kernel_rfl
theorem cells_ck : Try.prog.cellsOf 23 = 1 := by kernel_rfl
theorem cfg_int {H : Type} {enc : TypeId × Value → H} {W : World} {c : Value} {fuel : Nat} {y : DataW H × List MemPlace} (hy : DataW.trod enc Try.prog W 0 (fun _ => true) true fuel 3 [c] = some y) : ∃ k : Int, c = .int .i64 k := by
  obtain ⟨k, hk, _⟩ := DataW.trod_int Try.underlying3 hy
  exact ⟨k, by simpa using hk⟩
set_option maxRecDepth 100000 in
theorem open_cfg {H : Type} {enc : TypeId × Value → H} {W : World} {base : Nat} {v : Value} {d : DataW H} {p : List MemPlace}
    (hv : Value.okWide Try.prog W .any base 25 v) (h : DataW.Trod enc Try.prog W 0 (fun _ => true) true 25 v d p) :
    ∃ c : Cfg, v = .agg #[.slice c.wa c.wn c.wc, .slice c.ka c.kn c.kc, .int .i64 c.W, .int .i64 c.C, .int .i64 c.S, .int .i64 c.B, .int .i64 c.L, .int .i64 c.H, .int .i64 c.F, .int .i64 c.P, .int .i64 c.J, .int .i64 c.N] ∧ CfgOk W c := by
  obtain ⟨cs, rfl, hsz, n, hf⟩ := open_aggs2 Try.underlying25 hv h
  obtain ⟨c0, c1, c2, c3, c4, c5, c6, c7, c8, c9, c10, c11, rfl⟩ := array12c (hsz.trans cells_cfg)
  obtain ⟨y0, z0⟩ := hf 0 _ rfl
  obtain ⟨wa, wn, wc, ws, rfl, q1, q2, q3, q4, q5⟩ := open_texts_cell (v := c0) (by simpa [cells_ct] using z0)
  obtain ⟨y1, z1⟩ := hf 1 _ rfl
  obtain ⟨ka, kn, kc, ks, rfl, r1, r2, r3, r4, r5⟩ := open_pairs_cell (c := c1) Try.underlying23 Try.underlying54 (by kernel_rfl) rfl rfl ⟨rfl, rfl⟩ ⟨rfl, rfl⟩ (by simpa [cells_ck] using z1)
  obtain ⟨y2, z2⟩ := hf 2 _ rfl
  obtain ⟨i2, rfl⟩ := cfg_int (c := c2) (by simpa [cells_ci] using z2)
  obtain ⟨y3, z3⟩ := hf 3 _ rfl
  obtain ⟨i3, rfl⟩ := cfg_int (c := c3) (by simpa [cells_ci] using z3)
  obtain ⟨y4, z4⟩ := hf 4 _ rfl
  obtain ⟨i4, rfl⟩ := cfg_int (c := c4) (by simpa [cells_ci] using z4)
  obtain ⟨y5, z5⟩ := hf 5 _ rfl
  obtain ⟨i5, rfl⟩ := cfg_int (c := c5) (by simpa [cells_ci] using z5)
  obtain ⟨y6, z6⟩ := hf 6 _ rfl
  obtain ⟨i6, rfl⟩ := cfg_int (c := c6) (by simpa [cells_ci] using z6)
  obtain ⟨y7, z7⟩ := hf 7 _ rfl
  obtain ⟨i7, rfl⟩ := cfg_int (c := c7) (by simpa [cells_ci] using z7)
  obtain ⟨y8, z8⟩ := hf 8 _ rfl
  obtain ⟨i8, rfl⟩ := cfg_int (c := c8) (by simpa [cells_ci] using z8)
  obtain ⟨y9, z9⟩ := hf 9 _ rfl
  obtain ⟨i9, rfl⟩ := cfg_int (c := c9) (by simpa [cells_ci] using z9)
  obtain ⟨y10, z10⟩ := hf 10 _ rfl
  obtain ⟨i10, rfl⟩ := cfg_int (c := c10) (by simpa [cells_ci] using z10)
  obtain ⟨y11, z11⟩ := hf 11 _ rfl
  obtain ⟨i11, rfl⟩ := cfg_int (c := c11) (by simpa [cells_ci] using z11)
  exact ⟨⟨wa, wn, wc, ka, kn, kc, i2, i3, i4, i5, i6, i7, i8, i9, i10, i11, ws, ks⟩, rfl, q1, q2, q3, q4, q5, r1, r4, r5⟩
end Go.Proofs.Ytbimbgcejeeinaa
