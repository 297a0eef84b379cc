/- contracts of list.Without, list.Merge -/
import Derived.Test.YtieenopbkkbecaaWs5
import Derived.Test.YtieenopbkkbecaaWs6
namespace Go.Proofs.Ytieenopbkkbecaa
open Go.RowKit
set_option linter.unusedVariables false
/-- a list of texts that was answered, the call's own -/
def RetO (w : World) (ys : List Tx) (e : Ending) (w' : World) : Prop := ∃ a c, e = .returned (.slice a ys.length c) ∧ w'.ownsRow w.heap.size 9 1 (.slice a ys.length c) ys.length (strsV ys) ∧ Below w.heap.size w w'
theorem ret_own {w w' : World} {a : Option Addr} {c n : Nat} {ys zs : List Tx} (h : ys = zs) (hn : ys.length = n) (hh : w'.ownsRow w.heap.size 9 1 (.slice a n c) n (strsV ys)) (hb : Below w.heap.size w w') (v : Value) (hv : v = .slice a n c) : RetO w zs (.returned v) w' := by
  subst h hv hn; exact ⟨a, c, rfl, hh, hb⟩
theorem RetO.holds {w w' : World} {ys : List Tx} {e : Ending} (h : RetO w ys e w') : RetH w ys e w' := by
  obtain ⟨a, c, rfl, h1, h2⟩ := h
  exact ⟨a, c, rfl, HoldsT.own h1, (owns_none h1).1, h2⟩
set_option maxHeartbeats 1600000 in
theorem without_any (a : Option Addr) (n cap : Nat) (xs : List Tx) (a1 : Option Addr) (n1 cap1 : Nat) (ys : List Tx) (w : World) (hh : HoldsT w a n xs) (hh1 : HoldsT w a1 n1 ys) (hn : n ≤ 1000) (hn1 : n1 ≤ 1000) (hs : SortedS ys) :
    Calls Try.prog 21 #[.slice a n cap, .slice a1 n1 cap1] w (RetO w (lessOf xs ys)) := by
  obtain ⟨i0, hi, hz0, hz1, hz2⟩ := info_parts str_info
  have hl := hh.len
  go_enter Try.func21, Try.ntmps21
  go_wp2_with fail
  go_loopw [5, 12] (fun ov iv wr => ∃ (j : Nat) (P : List Tx), j ≤ n ∧ P.length ≤ j ∧ iv = .int .i64 j ∧ Hid (P = lessOf (xs.take j) ys) ∧ Hid (wr.ownsRow w.heap.size 9 1 ov P.length (strsV P)) ∧ Hid (Below w.heap.size w wr)) (fun _ iv _ => n - (intOf iv).toNat)
  case atStart => exact ⟨0, [], by omega, by simp, rfl, Lib.hid rfl, Lib.hid (World.ownsRow_nil _ _ _ _), Lib.hid (Below.refl _ _)⟩
  case round =>
    obtain ⟨j, P, hj, hPl, rfl, hP, hO, hB⟩ := hrel
    by_cases hlt : j < n
    · have hcell := hh.at (by omega)
      obtain ⟨bb, o, rfl, hc'⟩ := hcell
      have e0 := hc' j hlt
      have HC := Lib.hid (fun (w3 : World) (hb : Below w.heap.size w w3) => show w3.cell? ⟨bb, o + j, none⟩ = some (.string (xs.getD j ByteArray.empty)) from (hb.cell (p := ⟨bb, o + j, none⟩) (lt_of_cell e0)).trans e0)
      have htk := take_succ_getD xs ByteArray.empty j (by omega)
      obtain ⟨x, hx⟩ : ∃ x, xs.getD j ByteArray.empty = x := ⟨_, rfl⟩
      rw [hx] at htk
      simp only [hx] at HC
      have HT := Lib.hid htk
      clear hx htk hc' e0
      have e1 := HC.out _ hB.out
      have H1 := Lib.hid (hh1.below hB.out)
      obtain ⟨k, hk⟩ : ∃ k, atN ys x = k := ⟨_, rfl⟩
      have HK := Lib.hid hk
      clear hk
      by_cases hin : x ∈ ys
      · have HD := Lib.hid (decide_eq_true hin)
        have hls := lessOf_yes ys (xs.take j) x hin
        rw [← HT.out, ← hP.out] at hls
        have HL := Lib.hid hls
        clear hls hin
        go_wp2_with fail
        refine (at_lit a1 n1 cap1 ys x true k wr H1.out (by omega) hs HD.out HK.out).mono ?_
        rintro e w2 ⟨rfl, rfl⟩
        go_wp2_with fail
        go_roundw
        case rel => exact ⟨j + 1, P, by omega, by omega, by go_num, Lib.hid HL.out.symm, hO, hB⟩
        case measure => simp [intOf]; omega
      · have HD := Lib.hid (decide_eq_false hin)
        have hls := lessOf_no ys (xs.take j) x hin
        rw [← HT.out, ← hP.out] at hls
        have HL := Lib.hid hls
        clear hls hin
        go_wp2_with fail
        refine (at_lit a1 n1 cap1 ys x false k wr H1.out (by omega) hs HD.out HK.out).mono ?_
        rintro e w2 ⟨rfl, rfl⟩
        go_wp2_with (at_builtin; refine wpList_append_any rfl (.tmp 24) (.tmp 26) 22 rfl w.heap.size 9 i0 (.string ⟨#[]⟩) 1 16 Try.underlying22 hi hz0 hz1 hz2 rfl (by decide) _ P.length _ rfl (hO.out.alloc _) _ 1 1 _ rfl (some_none _) rfl (one_new _ _ _ _) (one_str _) (by unfold maxLen; omega) (by omega) (by have := hB.out.size; simp; omega) ?_; intro a3 c3 w3 hown3 hb3 hnil3)
        rw [← strsV_snoc] at hown3
        have O3 := Lib.hid hown3
        have B3 := Lib.hid ((hB.out.alloc hB.out.size _).trans hb3)
        clear hown3 hb3 hnil3
        go_roundw
        case rel => exact ⟨j + 1, P ++ [x], by omega, by simp; omega, by go_num, Lib.hid HL.out.symm, Lib.hid (by have := O3.out; simpa using this), B3⟩
        case measure => simp [intOf]; omega
    · have hjn : xs.take j = xs := List.take_of_length_le (by omega)
      have hP2 := hP.out
      rw [hjn] at hP2
      have HP := Lib.hid hP2
      clear hP hP2 hjn
      obtain ⟨a4, c4, rfl⟩ : ∃ a4 c4, u5 = .slice a4 P.length c4 := by
        rcases hO.out.2 with ⟨h, h0⟩ | ⟨g', c', cur, h, _⟩
        · exact ⟨none, 0, by rw [h, h0]⟩
        · exact ⟨_, c', h⟩
      go_wp2_with fail
      go_ret
      exact ret_own HP.out rfl hO.out hB.out _ rfl
end Go.Proofs.Ytieenopbkkbecaa
