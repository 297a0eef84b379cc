/- contract of list.Sorted: the walk -/
import Derived.Test.YtieenopbkkbecaaWs9
namespace Go.Proofs.Ytieenopbkkbecaa
open Go.RowKit
set_option linter.unusedVariables false
set_option maxHeartbeats 1600000 in
theorem sorted_any (a : Option Addr) (n cap : Nat) (ts : List Tx) (w : World) (hh : HoldsT w a n ts) (hcap : n ≤ cap) (hn : n ≤ 1000) (hsz : ∀ t ∈ ts, t.size ≤ 9223372036854775807) :
    Calls Try.prog 12 #[.slice a n cap] w (RetO w (canonS (wordsOf ts))) := by
  obtain ⟨i0, hi, hz0, hz1, hz2⟩ := info_parts str_info
  have hl := hh.len
  have hmin : min (n : Int) 1000 = (n : Int) := by omega
  go_enter Try.func12, Try.ntmps12
  go_wp2_with fail
  go_loopw [3, 13] (fun ov iv wr => ∃ (j : Nat) (P : List Tx), j ≤ n ∧ P.length ≤ j ∧ iv = .int .i64 j ∧ Hid (P = wordsOf (ts.take j)) ∧ Hid (wr.ownsRow w.heap.size 9 1 ov P.length (strsV P)) ∧ Hid (Below w.heap.size w wr)) (fun _ iv _ => n - (intOf iv).toNat)
  case atStart => exact ⟨0, [], by omega, by simp, rfl, Lib.hid rfl, Lib.hid (World.ownsRow_nil _ _ _ _), Lib.hid (Below.refl _ _)⟩
  case round =>
    obtain ⟨j, P, hj, hPl, rfl, hP, hO, hB⟩ := hrel
    by_cases hlt : j < n
    · have hcell := hh.at (by omega)
      obtain ⟨bb, o, rfl, hc'⟩ := hcell
      have e0 := hc' j hlt
      have HC := Lib.hid (fun (w3 : World) (hb : Below w.heap.size w w3) => show w3.cell? ⟨bb, o + j, none⟩ = some (.string (ts.getD j ByteArray.empty)) from (hb.cell (p := ⟨bb, o + j, none⟩) (lt_of_cell e0)).trans e0)
      have hmem := getD_memT ts j (by omega)
      have htk := take_succ_getD ts ByteArray.empty j (by omega)
      obtain ⟨x, hx⟩ : ∃ x, ts.getD j ByteArray.empty = x := ⟨_, rfl⟩
      rw [hx] at hmem htk
      simp only [hx] at HC
      have HX := Lib.hid (hsz x hmem); have HT := Lib.hid htk
      clear hx hmem htk hc' e0
      have e1 := HC.out _ hB.out
      by_cases hw : wordP x
      · have HD := Lib.hid (decide_eq_true hw)
        have hws := wordsOf_yes (ts.take j) x hw
        rw [← HT.out, ← hP.out] at hws
        have HW := Lib.hid hws
        clear hws hw
        go_wp2_with fail
        refine (word_bool x true HX.out HD.out).mono ?_
        rintro e w2 ⟨rfl, hb2⟩
        have O2 := Lib.hid (owns_below hO.out hb2)
        have B2 := Lib.hid (hB.out.trans (hb2.mono hB.out.size))
        clear hb2 e1 hO hB
        go_wp2_with (at_builtin; refine wpList_append_any rfl (.tmp 19) (.tmp 21) 22 rfl w.heap.size 9 i0 (.string ⟨#[]⟩) 1 16 Try.underlying22 hi hz0 hz1 hz2 rfl (by decide) _ P.length _ rfl (O2.out.alloc _) _ 1 1 _ rfl (some_none _) rfl (one_new _ _ _ _) (one_str _) (by unfold maxLen; omega) (by omega) (by have := B2.out.size; simp; omega) ?_; intro a3 c3 w3 hown3 hb3 hnil3)
        rw [← strsV_snoc] at hown3
        have O3 := Lib.hid hown3
        have B3 := Lib.hid ((B2.out.alloc B2.out.size _).trans hb3)
        clear hown3 hb3 hnil3
        go_roundw
        case rel => exact ⟨j + 1, P ++ [x], by omega, by simp; omega, by go_num, Lib.hid HW.out.symm, Lib.hid (by have := O3.out; simpa using this), B3⟩
        case measure => simp [intOf]; omega
      · have HD := Lib.hid (decide_eq_false hw)
        have hws := wordsOf_no (ts.take j) x hw
        rw [← HT.out, ← hP.out] at hws
        have HW := Lib.hid hws
        clear hws hw
        go_wp2_with fail
        refine (word_bool x false HX.out HD.out).mono ?_
        rintro e w2 ⟨rfl, hb2⟩
        have O2 := Lib.hid (owns_below hO.out hb2)
        have B2 := Lib.hid (hB.out.trans (hb2.mono hB.out.size))
        clear hb2 e1 hO hB
        go_wp2_with fail
        go_roundw
        case rel => exact ⟨j + 1, P, by omega, by omega, by go_num, Lib.hid HW.out.symm, O2, B2⟩
        case measure => simp [intOf]; omega
    · have hjn : ts.take j = ts := List.take_of_length_le (by omega)
      have hP2 := hP.out
      rw [hjn] at hP2
      have hC := compact_canon P
      rw [hP2] at hC
      rw [← hP2] at hC
      have HP := Lib.hid hP2
      have HCC := Lib.hid (compact_canon P)
      have hPn : P.length ≤ 1048576 := by omega
      clear hP hP2 hjn hC
      rcases hO.out.2 with ⟨h, h0⟩ | ⟨g', c', cur, h, _⟩
      · subst h
        obtain rfl : P = [] := List.eq_nil_of_length_eq_zero h0
        go_wp2_with fail
        refine (sort_none _).mono ?_
        rintro e w2 ⟨rfl, rfl⟩
        go_wp2_with fail
        refine (compact_none _).mono ?_
        rintro e w3 ⟨rfl, rfl⟩
        go_wp2_with fail
        go_ret
        exact ret_own (by rw [← HP.out]) rfl (World.ownsRow_nil _ _ _ _) hB.out _ rfl
      · subst h
        have hS := Lib.hid (sort_some g' P.length c' w.heap.size P wr hO.out hPn)
        obtain ⟨zs, hzs⟩ : ∃ zs, ((P.map bsT).mergeSort fun x y => !(Go.Proofs.ltOf cfT) y x) = zs := ⟨_, rfl⟩
        rw [hzs] at hS HCC
        clear hzs
        go_wp2_with fail
        refine hS.out.mono ?_
        rintro e w2 ⟨rfl, o2, b2⟩
        have B2 := Lib.hid (b2 _ _ rfl hB.out)
        have hK := Lib.hid (compact_some g' P.length c' w.heap.size zs w2 o2 hPn)
        obtain ⟨k, hk⟩ : ∃ k, (Lib.compact zs).length = k := ⟨_, rfl⟩
        rw [hk] at hK
        rw [HP.out] at HCC
        have HK := Lib.hid hk
        clear hk o2 b2
        go_wp2_with fail
        refine hK.out.mono ?_
        rintro e w3 ⟨rfl, o3, b3⟩
        have B3 := Lib.hid (b3 _ _ rfl B2.out)
        have O3 := Lib.hid o3
        clear o3 b3
        go_wp2_with fail
        go_ret
        exact ret_own HCC.out (by rw [List.length_map, HK.out]) O3.out B3.out _ rfl
end Go.Proofs.Ytieenopbkkbecaa
