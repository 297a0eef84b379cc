/- contract of part.Slice -/
import Derived.Test.YtnbfdoneknidhaaKp5
import Derived.Test.YtnbfdoneknidhaaWp0
namespace Go.Proofs.Ytnbfdoneknidhaa
open Go.RowKit
set_option linter.unusedVariables false
def sliceS (ks : List KV) (ws : List Tx) (s : Nat) : List Tx := ws.filter fun t => decide (ofZ ks t = (s : Int))
theorem sliceS_yes (ks : List KV) (ws : List Tx) (s : Nat) (x : Tx) (h : ofZ ks x = (s : Int)) : sliceS ks (ws ++ [x]) s = sliceS ks ws s ++ [x] := by
  unfold sliceS; rw [List.filter_append]; simp [h]
theorem sliceS_no (ks : List KV) (ws : List Tx) (s : Nat) (x : Tx) (h : ¬ ofZ ks x = (s : Int)) : sliceS ks (ws ++ [x]) s = sliceS ks ws s := by
  unfold sliceS; rw [List.filter_append]; simp [h]
set_option maxHeartbeats 1600000 in
theorem slice_any (a : Option Addr) (n cap : Nat) (ks : List KV) (a1 : Option Addr) (n1 cap1 : Nat) (ws : List Tx) (s : Nat) (w : World) (hh : HoldsK w a n ks) (hh1 : HoldsT w a1 n1 ws) (hn : n ≤ 1000) (hn1 : n1 ≤ 1000) (hs : s ≤ 1000) (hsz : ∀ t ∈ ws, t.size ≤ 9223372036854775807) :
    Calls Try.prog 19 #[.slice a n cap, .slice a1 n1 cap1, .int .i64 s] w (RetO w (sliceS ks ws s)) := by
  obtain ⟨i0, hi, hz0, hz1, hz2⟩ := info_parts str_info
  have hl := hh1.len
  go_enter Try.func19, Try.ntmps19
  go_wp2_with fail
  go_loopw [7, 13] (fun ov iv wr => ∃ (j : Nat) (P : List Tx), j ≤ n1 ∧ P.length ≤ j ∧ iv = .int .i64 j ∧ Hid (P = sliceS ks (ws.take j) s) ∧ Hid (wr.ownsRow w.heap.size 9 1 ov P.length (strsV P)) ∧ Hid (Below w.heap.size w wr)) (fun _ iv _ => n1 - (intOf iv).toNat)
  case atStart => exact ⟨0, [], by omega, by simp, rfl, Lib.hid rfl, Lib.hid (World.ownsRow_nil _ _ _ _), Lib.hid (Below.refl _ _)⟩
  case round =>
    obtain ⟨j, P, hj, hPl, rfl, hP, hO, hB⟩ := hrel
    by_cases hlt : j < n1
    · have hcell := hh1.at (by omega)
      obtain ⟨bb, o, rfl, hc'⟩ := hcell
      have e0 := hc' j hlt
      have HC := Lib.hid (fun (w3 : World) (hb : Below w.heap.size w w3) => show w3.cell? ⟨bb, o + j, none⟩ = some (.string (ws.getD j ByteArray.empty)) from (hb.cell (p := ⟨bb, o + j, none⟩) (lt_of_cell e0)).trans e0)
      have hmem := getD_memT' ws j (by omega)
      have htk := take_succ_getD ws ByteArray.empty j (by omega)
      obtain ⟨x, hx⟩ : ∃ x, ws.getD j ByteArray.empty = x := ⟨_, rfl⟩
      rw [hx] at htk hmem
      simp only [hx] at HC
      have HT := Lib.hid htk
      have HX := Lib.hid (hsz x hmem)
      clear hx htk hc' e0 hmem
      have e1 := HC.out _ hB.out
      have H1 := Lib.hid (hh.below hB.out)
      obtain ⟨v, hv⟩ : ∃ v, ofZ ks x = v := ⟨_, rfl⟩
      have HV := Lib.hid hv
      by_cases hin : v = (s : Int)
      · subst hin
        have hls := sliceS_yes ks (ws.take j) s x hv
        rw [← HT.out, ← hP.out] at hls
        have HL := Lib.hid hls
        have g1 : decide ((s : Int) ≥ 0) = true := by rw [decide_eq_true_iff]; omega
        have g2 : ((s : Int) == (s : Int)) = true := by simp
        clear hls hv
        go_wp2_with fail
        refine (pof_lit a n cap ks x s wr H1.out (by omega) HX.out HV.out).mono ?_
        rintro e w2 ⟨rfl, hb2⟩
        have O2 := Lib.hid (owns_below hO.out hb2)
        have B2 := Lib.hid (hB.out.trans (hb2.mono hB.out.size))
        clear hb2 e1 hO hB
        go_wp2_with (at_builtin; refine wpList_append_any rfl (.tmp 27) (.tmp 29) 35 rfl w.heap.size 9 i0 (.string ⟨#[]⟩) 1 16 Try.underlying35 hi hz0 hz1 hz2 rfl (by decide) _ P.length _ rfl (O2.out.alloc _) _ 1 1 _ rfl (some_none _) rfl (one_new _ _ _ _) (one_str _) (by unfold maxLen; omega) (by omega) (by have := B2.out.size; simp; omega) ?_; intro a3 c3 w3 hown3 hb3 hnil3)
        rw [← strsV_snoc] at hown3
        have O3 := Lib.hid hown3
        have B3 := Lib.hid ((B2.out.alloc B2.out.size _).trans hb3)
        clear hown3 hb3 hnil3
        go_roundw
        case rel => exact ⟨j + 1, P ++ [x], by omega, by simp; omega, by go_num, Lib.hid HL.out.symm, Lib.hid (by have := O3.out; simpa using this), B3⟩
        case measure => simp [intOf]; omega
      · have hls := sliceS_no ks (ws.take j) s x (by rw [hv]; exact hin)
        rw [← HT.out, ← hP.out] at hls
        have HL := Lib.hid hls
        have g2 : (v == (s : Int)) = false := by simpa using hin
        clear hls hv
        go_wp2_with fail
        refine (pof_lit a n cap ks x v wr H1.out (by omega) HX.out HV.out).mono ?_
        rintro e w2 ⟨rfl, hb2⟩
        have O2 := Lib.hid (owns_below hO.out hb2)
        have B2 := Lib.hid (hB.out.trans (hb2.mono hB.out.size))
        clear hb2 e1 hO hB
        by_cases hv0 : v ≥ 0
        · have g1 : decide (v ≥ 0) = true := decide_eq_true hv0
          go_wp2_with fail
          go_roundw
          case rel => exact ⟨j + 1, P, by omega, by omega, by go_num, Lib.hid HL.out.symm, O2, B2⟩
          case measure => simp [intOf]; omega
        · have g1 : decide (v ≥ 0) = false := decide_eq_false hv0
          go_wp2_with fail
          go_roundw
          case rel => exact ⟨j + 1, P, by omega, by omega, by go_num, Lib.hid HL.out.symm, O2, B2⟩
          case measure => simp [intOf]; omega
    · have hjn : ws.take j = ws := List.take_of_length_le (by omega)
      have hP2 := hP.out
      rw [hjn] at hP2
      have HP := Lib.hid hP2
      clear hP hP2 hjn
      obtain ⟨a4, c4, rfl⟩ : ∃ a4 c4, u7 = .slice a4 P.length c4 := by
        rcases hO.out.2 with ⟨h, h0⟩ | ⟨g', c', cur, h, _⟩
        · exact ⟨none, 0, by rw [h, h0]⟩
        · exact ⟨_, c', h⟩
      go_wp2_with fail
      go_ret
      exact ret_own HP.out rfl hO.out hB.out _ rfl
end Go.Proofs.Ytnbfdoneknidhaa
