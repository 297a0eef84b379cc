/- contract of the document's table of distances -/
import Derived.Test.YtmpkmgkafhlpjaaRfM
import Derived.Deep.DeepCutAuto
import Derived.Deep.CutRange
import Derived.Deep.CutBlock
import Derived.Deep.QuietTactic
import Derived.BigQuiet
namespace Go.Proofs.Ytmpkmgkafhlpjaa
open Go.RowKit
set_option linter.unusedVariables false
set_option maxRecDepth 20000
def rowL (ra rb : List Int) (i k : Nat) : List Int := (List.range k).map fun j => Ed.L ra rb i j
theorem rowL_length (ra rb : List Int) (i k : Nat) : (rowL ra rb i k).length = k := by simp [rowL]
theorem rowL_at (ra rb : List Int) (i k j : Nat) (h : j < k) : (rowL ra rb i k).getD j 0 = Ed.L ra rb i j := by simp [rowL, List.getD_eq_getElem?_getD, h]
theorem rowL_snoc (ra rb : List Int) (i k : Nat) : intsV (rowL ra rb i (k + 1)) = intsV (rowL ra rb i k) ++ [.int .i64 (Ed.L ra rb i k)] := by
  simp [rowL, intsV, List.range_succ]
/-- what is done of the table -/
structure Tbl (w : World) (B n m : Nat) (v : Value) (ra rb : List Int) (G C : Nat → Nat) : Prop where
  own : w.ownsRow B 73 1 v n (slV m G C n)
  rows : ∀ j, j < n → RowAt w (G j) m (fun k => Ed.L ra rb j k)
theorem Tbl.below {w w' : World} {B n m : Nat} {v : Value} {ra rb : List Int} {G C : Nat → Nat} (h : Tbl w B n m v ra rb G C) (hb : Below w.heap.size w w') : Tbl w' B n m v ra rb G C :=
  ⟨owns_below h.own hb, fun j hj => (h.rows j hj).below hb⟩
theorem Tbl.at {w : World} {B n m : Nat} {v : Value} {ra rb : List Int} {G C : Nat → Nat} (h : Tbl w B n m v ra rb G C) (h0 : 0 < n) : ∃ T c, v = .slice (some ⟨T, 0, none⟩) n c ∧ ∀ j, j < n → w.cell? ⟨T, j, none⟩ = some (.slice (some ⟨G j, 0, none⟩) m (C j)) := by
  obtain ⟨T, c, hv, hc⟩ := own_at h.own h0
  exact ⟨T, c, hv, fun j hj => hc j _ (slV_at m G C n j hj)⟩
set_option maxHeartbeats 6400000 in
theorem table_any (ra rb : List Int) (a b : Option Addr) (la lb ca cb : Nat) (w : World) (ha : HoldsI .i32 w a la ra) (hb : HoldsI .i32 w b lb rb) (hla : la ≤ 1048576) (hlb : lb ≤ 1048576) :
    Calls Try.prog 63 #[.slice a la ca, .slice b lb cb] w fun e w' => ∃ t c, e = .returned (.slice t (la + 1) c) ∧ TableIs w' t (la + 1) (lb + 1) ra rb ∧ Below w.heap.size w w' := by
  obtain ⟨i0, hi, hz0, hz1, hz2⟩ := info_parts int_info
  obtain ⟨i1, hj, hy0, hy1, hy2⟩ := info_parts slices_info
  have HA := Lib.hid ha; have HB := Lib.hid hb
  obtain ⟨m, hm⟩ : ∃ m, lb + 1 = m := ⟨_, rfl⟩
  rw [hm]
  have hm1 : m ≤ 1048577 := by omega
  have HM := Lib.hid hm
  clear ha hb hm
  go_enter Try.func63, Try.ntmps63
  go_wp2_with fail
  go_loopw [5, 6] (fun tv iv wr => ∃ (i : Nat) (G C : Nat → Nat), i ≤ la + 1 ∧ iv = .int .i64 i ∧ Hid (Tbl wr w.heap.size i m tv ra rb G C) ∧ Hid (Below w.heap.size w wr)) (fun _ iv _ => la + 1 - (intOf iv).toNat)
  case atStart => exact ⟨0, fun _ => 0, fun _ => 0, by omega, rfl, Lib.hid ⟨World.ownsRow_nil _ _ _ _, fun j h => by omega⟩, Lib.hid (Below.refl _ _)⟩
  case round =>
    obtain ⟨i, G, C, hi1, rfl, hT, hB⟩ := hrel
    by_cases hlt : i ≤ la
    · obtain ⟨w1, rfl⟩ : ∃ w1, w1 = wr := ⟨_, rfl⟩
      go_wp2_with fail
      go_loopw [7, 8] (fun rv kv wr2 => ∃ k : Nat, k ≤ m ∧ kv = .int .i64 k ∧ Hid (wr2.ownsRow w1.heap.size 3 1 rv k (intsV (rowL ra rb i k))) ∧ Hid (Below w1.heap.size w1 wr2)) (fun _ kv _ => m - (intOf kv).toNat)
      case atStart => exact ⟨0, by omega, rfl, Lib.hid (World.ownsRow_nil _ _ _ _), Lib.hid (Below.refl _ _)⟩
      case round =>
        obtain ⟨k, hk1, rfl, hR, hB2⟩ := hrel
        by_cases hkt : k ≤ lb
        · obtain ⟨D, hD⟩ : ∃ D, Ed.L ra rb i k = D := ⟨_, rfl⟩
          have hbd := Ed.L_bd ra rb i k
          rw [hD] at hbd
          have HD := Lib.hid hD
          clear hD
          go_upto_block 4 with fail
          go_cut [9] from 16 to 72 (fun d wc => d = .int .i64 D ∧ Hid (wc.ownsRow w1.heap.size 3 1 u7 k (intsV (rowL ra rb i k))) ∧ Hid (Below w1.heap.size w1 wc))
          case first =>
            rcases Nat.eq_zero_or_pos i with hi0 | hi0
            · have e : D = (k : Int) := by rw [← HD.out, hi0, Ed.L_zeroL]
              have x1 : ((i : Int) == 0) = true := by simp; omega
              have E := Lib.hid e
              clear e
              go_wp2_with fail
              go_meet
              exact ⟨by rw [E.out], hR, hB2⟩
            rcases Nat.eq_zero_or_pos k with hk0 | hk0
            · have e : D = (i : Int) := by rw [← HD.out, hk0, Ed.L_zero]
              have x1 : ((i : Int) == 0) = false := by simp; omega
              have x2 : ((k : Int) == 0) = true := by simp; omega
              have E := Lib.hid e
              clear e
              go_wp2_with fail
              go_meet
              exact ⟨by rw [E.out], hR, hB2⟩
            have x1 : ((i : Int) == 0) = false := by simp; omega
            have x2 : ((k : Int) == 0) = false := by simp; omega
            obtain ⟨p, hp⟩ : ∃ p, p + 1 = i := ⟨i - 1, by omega⟩
            obtain ⟨q, hq⟩ : ∃ q, q + 1 = k := ⟨k - 1, by omega⟩
            have p1 : IntKind.i64.wrap ((i : Int) - 1) = (p : Int) := by rw [IntWalk.i64_in _ (by omega)]; omega
            have q1 : IntKind.i64.wrap ((k : Int) - 1) = (q : Int) := by rw [IntWalk.i64_in _ (by omega)]; omega
            obtain ⟨T, ct, hu5, hTc⟩ := (hT.out.below hB2.out).at hi0
            have tc := hTc p (by omega)
            have hrow := (hT.out.rows p (by omega)).below hB2.out
            have r1 := hrow.cell (j := q) (by omega)
            have r2 := hrow.cell (j := k) (by have := HM.out; omega)
            obtain ⟨g, cg, hu7, _, hrg⟩ := RowAt.of_own hR.out hk0
            have r3 := hrg.cell (j := q) (by omega)
            rw [rowL_at ra rb i k q (by omega)] at r3
            have hBw := hB.out.trans (hB2.out.mono hB.out.size)
            obtain ⟨ab, ao, rfl, hac⟩ := (HA.out.below hBw).2 (by omega)
            have ea := hac p (by omega)
            obtain ⟨bb, bo, rfl, hbc⟩ := (HB.out.below hBw).2 (by omega)
            have eb := hbc q (by omega)
            have hL : Ed.L ra rb i k = min (min (Ed.L ra rb p q + Ed.cost (ra.getD p 0) (rb.getD q 0)) (Ed.L ra rb i q + 1)) (Ed.L ra rb p k + 1) := by subst hp hq; simp only [Ed.L]
            rw [HD.out] at hL
            have b1 := Ed.L_bd ra rb p q
            have b2 := Ed.L_bd ra rb p k
            have b3 := Ed.L_bd ra rb i q
            obtain ⟨X, hX⟩ : ∃ X, Ed.L ra rb p q = X := ⟨_, rfl⟩
            obtain ⟨Y, hY⟩ : ∃ X, Ed.L ra rb p k = X := ⟨_, rfl⟩
            obtain ⟨Z, hZ⟩ : ∃ X, Ed.L ra rb i q = X := ⟨_, rfl⟩
            obtain ⟨u, hu⟩ : ∃ u, ra.getD p 0 = u := ⟨_, rfl⟩
            obtain ⟨v, hv⟩ : ∃ v, rb.getD q 0 = v := ⟨_, rfl⟩
            rw [hX] at r1 b1 hL; rw [hY] at r2 b2 hL; rw [hZ] at r3 b3 hL; rw [hu] at ea hL; rw [hv] at eb hL
            have c1 : (0 : Int) ≤ (p : Int) := by omega
            have c2 : (p : Int) < (i : Int) := by omega
            have c3 : (0 : Int) ≤ (q : Int) := by omega
            have c4 : (q : Int) < (k : Int) := by omega
            have c5 : (q : Int) < (m : Int) := by have := HM.out; omega
            have c6 : (k : Int) < (m : Int) := by have := HM.out; omega
            have c7 : (p : Int) < (la : Int) := by omega
            have c8 : (q : Int) < (lb : Int) := by omega
            have c9 : k < m := by have := HM.out; omega
            have c10 : q < m := by omega
            have c11 : p < i := by omega
            have c12 : q < k := by omega
            have c13 : p < la := by omega
            have c14 : q < lb := by omega
            have w1' : IntKind.i64.wrap (Y + 1) = Y + 1 := IntWalk.i64_in _ (by omega)
            have w2' : IntKind.i64.wrap (Z + 1) = Z + 1 := IntWalk.i64_in _ (by omega)
            have w3' : IntKind.i64.wrap (X + 1) = X + 1 := IntWalk.i64_in _ (by omega)
            have HL := Lib.hid hL
            have HR := Lib.hid (fun nn => owns_below hR.out (below_drewN wr nn))
            have HB3 := Lib.hid (fun nn => hB2.out.trans ((below_drewN wr nn).mono hB2.out.size))
            clear hTc hrow hrg hBw hac hbc hL hX hY hZ hu hv hp hq hT hB hB2 hR HD
            subst hu5 hu7
            by_cases huv : u = v
            · have y1 : (u != v) = false := by simpa using huv
              rw [huv, cost_eq] at HL
              clear huv
              go_upto_region 11 with fail
              go_quiet (fail)
              go_upto_region 13 with fail
              go_quiet (fail)
              go_wp2_with fail
              all_goals go_meet
              all_goals exact ⟨by congr 1; have := HL.out; omega, Lib.hid (HR.out _), Lib.hid (HB3.out _)⟩
            · have y1 : (u != v) = true := by simpa using huv
              rw [cost_ne huv] at HL
              clear huv
              go_upto_region 11 with fail
              go_quiet (fail)
              go_upto_region 13 with fail
              go_quiet (fail)
              go_wp2_with fail
              all_goals go_meet
              all_goals exact ⟨by congr 1; have := HL.out; omega, Lib.hid (HR.out _), Lib.hid (HB3.out _)⟩
          case rest =>
            obtain ⟨rfl, hR3, hB3⟩ := hcut
            clear hR hB2
            go_wp2_with (at_builtin; refine wpList_append_any rfl (.tmp 69) (.tmp 71) 73 rfl w1.heap.size 3 i0 (.int .i64 0) 1 8 Try.underlying73 hi hz0 hz1 hz2 rfl (by decide) _ k _ rfl (hR3.out.alloc _) _ 1 1 _ rfl (some_none _) rfl (one_new _ _ _ _) (one_int _ _) (by unfold maxLen; omega) (by omega) (by have := hB3.out.size; simp; omega) ?_; intro a3 c3 w3 hown3 hb3 hnil3)
            rw [← HD.out, ← rowL_snoc] at hown3
            have O3 := Lib.hid hown3
            have B3 := Lib.hid ((hB3.out.alloc hB3.out.size _).trans hb3)
            clear hown3 hb3 hnil3 hR3 hB3
            go_roundw
            case rel => exact ⟨k + 1, by have := HM.out; omega, by go_num, O3, B3⟩
            case measure => simp [intOf]; have := HM.out; omega
        · obtain rfl : k = m := by have := HM.out; omega
          obtain ⟨g, cg, hu7, _, hrg⟩ := RowAt.of_own hR.out (by have := HM.out; omega)
          have RG := Lib.hid (hrg.congr (fun j hj => rowL_at ra rb i k j hj))
          have T2 := Lib.hid (hT.out.below hB2.out)
          have B2 := Lib.hid (hB.out.trans (hB2.out.mono hB.out.size))
          subst hu7
          clear hrg hT hB hR hB2
          go_wp2_with (at_builtin; refine wpList_append_own _ rfl (.tmp 73) (.tmp 75) 78 rfl w.heap.size 73 i1 (.slice none 0 0) 1 24 Try.underlying78 hj hy0 hy1 hy2 rfl (by decide) u5 i _ rfl (T2.out.own.alloc _) ⟨wr.heap.size, 0, none⟩ 1 1 _ rfl rfl (one_cells _ _ _ _) (one_slice _ _ _) (by unfold maxLen; omega) (by omega) (by have := B2.out.size; simp; omega) ?_; intro v4 w4 hown4 hg4 hnil4)
          rw [← slV_snoc] at hown4
          have hal := below_one wr (.cells #[.slice (some ⟨g, 0, none⟩) k cg] 73)
          have TA := T2.out.below hal
          have RA := RG.out.below hal
          have N4 : Hid (Tbl w4 w.heap.size (i + 1) k v4 ra rb (updN G i g) (updN C i cg)) := by
            refine Lib.hid ⟨hown4, fun j hj => ?_⟩
            by_cases e : j = i
            · subst e; rw [updN_at]; exact RA.grown TA.own hg4
            · rw [updN_ne _ _ _ _ e]; exact (TA.rows j (by omega)).grown TA.own hg4
          have B4 := Lib.hid ((B2.out.trans (hal.mono B2.out.size)).grown hg4 (by have := B2.out.size; simp; omega) (fun kk hk => (TA.own.lt kk hk).1))
          clear hown4 hg4 hnil4 hal TA RA
          go_roundw
          case rel => exact ⟨i + 1, _, _, by omega, by go_num, N4, B4⟩
          case measure => simp [intOf]; omega
    · obtain rfl : i = la + 1 := by omega
      obtain ⟨T, c, hu5, hc⟩ := hT.out.at (by omega)
      have hrows := hT.out.rows
      have HR := Lib.hid (show TableIs wr (some ⟨T, 0, none⟩) (la + 1) m ra rb from ⟨T, rfl, fun j hj => ⟨G j, C j, hc j hj, fun x hx => (hrows j hj).cell hx⟩⟩)
      clear hc hrows hT
      subst hu5
      go_wp2_with fail
      go_ret
      exact ⟨_, c, rfl, HR.out, hB.out⟩
end Go.Proofs.Ytmpkmgkafhlpjaa
