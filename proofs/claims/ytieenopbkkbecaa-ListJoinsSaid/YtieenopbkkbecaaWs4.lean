/- contracts of the document's ways with lists of words -/
import Derived.Test.YtieenopbkkbecaaWs3
namespace Go.Proofs.Ytieenopbkkbecaa
open Go.RowKit
set_option linter.unusedVariables false
theorem str_info : (Try.prog.info? 9).map (fun i => (i.zero, i.size, i.bytes)) = some (some (.string ⟨#[]⟩), 1, 16) := by kernel_rfl
theorem putF_len (w : Tx) : ∀ (xs : List Tx) (b : Bool), (putF w b xs).length ≤ xs.length + 1
  | [], b => by cases b <;> simp [putF]
  | x :: xs, true => by rw [putF_true]; simp
  | x :: xs, false => by
    rw [putF, List.length_append, List.length_cons, List.length_cons]
    by_cases h : 0 < cmpS x w
    · rw [if_pos ⟨rfl, h⟩, decide_eq_true (by omega), Bool.or_true, putF_true]; simp; omega
    · rw [if_neg (fun k => h k.2)]
      have := putF_len w xs (false || decide (0 ≤ cmpS x w))
      simp at this ⊢; omega
theorem putS_len (xs : List Tx) (w : Tx) : (putS xs w).length ≤ xs.length + 1 := putF_len w xs false
theorem drop_cons (ts : List Tx) (j : Nat) (h : j < ts.length) : ts.drop j = ts.getD j ByteArray.empty :: ts.drop (j + 1) := by
  rw [List.drop_eq_getElem_cons h]
  simp [List.getD_eq_getElem?_getD, h]
theorem putF_step (t x : Tx) (r : List Tx) (b b' : Bool) (v : Int) (hv : cmpS x t = v) (h : ¬ (b = false ∧ 0 < v)) (hb : (b || decide (0 ≤ v)) = b') : putF t b (x :: r) = x :: putF t b' r := by
  subst hv hb; rw [putF, if_neg h]; rfl
theorem putF_first (t x : Tx) (r : List Tx) (v : Int) (hv : cmpS x t = v) (h : 0 < v) : putF t false (x :: r) = t :: x :: putF t true r := by
  subst hv; rw [putF, if_pos ⟨rfl, h⟩, decide_eq_true (by omega)]; rfl
/-- a list of texts that was answered -/
def RetH (w : World) (ys : List Tx) (e : Ending) (w' : World) : Prop := ∃ a c, e = .returned (.slice a ys.length c) ∧ HoldsT w' a ys.length ys ∧ (a = none → ys.length = 0 ∧ c = 0) ∧ Below w.heap.size w w'
set_option maxHeartbeats 3200000 in
theorem put_any (a : Option Addr) (n cap : Nat) (ts : List Tx) (t : Tx) (w : World) (hh : HoldsT w a n ts) (hn : n ≤ 1048576) (hsz : ∀ t ∈ ts, t.size ≤ 1048576) (ht : t.size ≤ 1048576) :
    Calls Try.prog 32 #[.slice a n cap, .string t] w (RetH w (putS ts t)) := by
  obtain ⟨i0, hi, hz0, hz1, hz2⟩ := info_parts str_info
  have hl := hh.len
  have hpl := putS_len ts t
  go_enter Try.func32, Try.ntmps32
  go_wp2_with fail
  go_loopw [5, 6, 7] (fun ov bv iv wr => ∃ (j : Nat) (b : Bool) (P : List Tx), j ≤ n ∧ iv = .int .i64 j ∧ bv = .bool b ∧ Hid (putS ts t = P ++ putF t b (ts.drop j)) ∧ Hid (wr.ownsRow w.heap.size 9 1 ov P.length (strsV P)) ∧ Hid (Below w.heap.size w wr)) (fun _ _ iv _ => n - (intOf iv).toNat)
  case atStart => exact ⟨0, false, [], by omega, rfl, rfl, Lib.hid rfl, Lib.hid (World.ownsRow_nil _ _ _ _), Lib.hid (Below.refl _ _)⟩
  case round =>
    obtain ⟨j, b, P, hj, rfl, rfl, hP, hO, hB⟩ := hrel
    have hPl : P.length ≤ n + 1 := by
      have h1 := congrArg List.length hP.out
      rw [List.length_append] at h1
      omega
    by_cases hlt : j < n
    · obtain ⟨bb, o, rfl, hc⟩ := (hh.below hB.out).at (by omega)
      have e1 := hc j hlt
      have hmem := getD_memT ts j (by omega)
      have hdr := drop_cons ts j (by omega)
      have hcell := hh.at (by omega)
      obtain ⟨b', o', heq, hc'⟩ := hcell
      cases heq
      have e0 := hc' j hlt
      have HC := Lib.hid (fun (w3 : World) (hb : Below w.heap.size w w3) => show w3.cell? ⟨bb, o + j, none⟩ = some (.string (ts.getD j ByteArray.empty)) from (hb.cell (p := ⟨bb, o + j, none⟩) (lt_of_cell e0)).trans e0)
      clear hc' e0
      obtain ⟨x, hx⟩ : ∃ x, ts.getD j ByteArray.empty = x := ⟨_, rfl⟩
      rw [hx] at e1 hmem hdr
      simp only [hx] at HC
      have HX := Lib.hid (hsz x hmem); have HD := Lib.hid hdr
      have hcmp := Lib.hid (fun w => rcompare_any x t w HX.out ht)
      obtain ⟨v, hv⟩ : ∃ v, cmpS x t = v := ⟨_, rfl⟩
      simp only [hv] at hcmp
      have HV := Lib.hid hv
      clear hx hmem hdr hc hv
      have hPn : P.length ≤ 2097152 := by omega
      by_cases hfirst : b = false ∧ 0 < v
      · obtain ⟨rfl, hv0⟩ := hfirst
        have hve : (v == 0) = false := by rw [beq_eq_false_iff_ne]; omega
        go_wp2_with fail
        refine (hcmp.out _).mono ?_
        rintro e w2 ⟨rfl, hb2⟩
        have e2 := HC.out _ (hB.out.trans (hb2.mono hB.out.size))
        have O2 := Lib.hid (owns_below hO.out hb2)
        have B2 := Lib.hid (hB.out.trans (hb2.mono hB.out.size))
        clear hO hB hb2 e1
        go_wp2_with (first
          | (at_builtin; refine wpList_append_any rfl (.tmp 27) (.tmp 29) 22 rfl w.heap.size 9 i0 (.string ⟨#[]⟩) 1 16 Try.underlying22 hi hz0 hz1 hz2 rfl (by decide) _ P.length _ rfl (O2.out.alloc _) _ 1 1 _ rfl (some_none _) rfl (one_new _ _ _ _) (one_str _) (by unfold maxLen; omega) (by omega) (by have := B2.out.size; simp; omega) ?_; intro a3 c3 w3 hown3 hb3 hnil3; have hB3 := (B2.out.alloc B2.out.size _).trans hb3; have e3 := HC.out _ hB3)
          | (at_builtin; refine wpList_append_any rfl (.tmp 33) (.tmp 38) 22 rfl w.heap.size 9 i0 (.string ⟨#[]⟩) 1 16 Try.underlying22 hi hz0 hz1 hz2 rfl (by decide) _ (P.length + 1) _ rfl (hown3.alloc _) _ 1 1 _ rfl (some_none _) rfl (one_new _ _ _ _) (one_str _) (by unfold maxLen; omega) (by omega) (by have := B2.out.size; have := hb3.size; simp at this ⊢; omega) ?_; intro a5 c5 w5 hown5 hb5 hnil5))
        have O5 := Lib.hid hown5
        have B5 := Lib.hid (((hB3.alloc hB3.size _)).trans hb5)
        clear hown5 hb5 hown3 hb3 hB3 hnil3 hnil5
        go_roundw
        case rel => exact ⟨j + 1, true, P ++ [t] ++ [x], by omega, by go_num, rfl, Lib.hid (by rw [hP.out, HD.out, putF_first _ _ _ v HV.out hv0]; simp), Lib.hid (by have := O5.out; rw [← strsV_snoc, ← strsV_snoc] at this; simpa using this), B5⟩
        case measure => simp [intOf]; omega
      · have hcase : (b = true ∧ v < 0) ∨ (b = true ∧ v = 0) ∨ (b = true ∧ 0 < v) ∨ (b = false ∧ v < 0) ∨ (b = false ∧ v = 0) := by
          cases b <;> simp at hfirst ⊢ <;> omega
        clear hfirst
        rcases hcase with ⟨rfl, h⟩ | ⟨rfl, h⟩ | ⟨rfl, h⟩ | ⟨rfl, h⟩ | ⟨rfl, h⟩
        · have hve : (v == 0) = false := by rw [beq_eq_false_iff_ne]; omega
          have hst := Lib.hid (putF_step t x (ts.drop (j + 1)) true true v HV.out (by simp; try omega) (by simp; try omega))
          go_wp2_with fail
          refine (hcmp.out _).mono ?_
          rintro e w2 ⟨rfl, hb2⟩
          have e2 := HC.out _ (hB.out.trans (hb2.mono hB.out.size))
          have O2 := Lib.hid (owns_below hO.out hb2)
          have B2 := Lib.hid (hB.out.trans (hb2.mono hB.out.size))
          clear hO hB hb2 e1
          go_wp2_with (at_builtin; refine wpList_append_any rfl (.tmp 33) (.tmp 38) 22 rfl w.heap.size 9 i0 (.string ⟨#[]⟩) 1 16 Try.underlying22 hi hz0 hz1 hz2 rfl (by decide) _ P.length _ rfl (O2.out.alloc _) _ 1 1 _ rfl (some_none _) rfl (one_new _ _ _ _) (one_str _) (by unfold maxLen; omega) (by omega) (by have := B2.out.size; simp; omega) ?_; intro a3 c3 w3 hown3 hb3 hnil3)
          rw [← strsV_snoc] at hown3
          have O3 := Lib.hid hown3
          have B3 := Lib.hid ((B2.out.alloc B2.out.size _).trans hb3)
          clear hown3 hb3 hnil3
          go_roundw
          case rel => exact ⟨j + 1, true, P ++ [x], by omega, by go_num, rfl, Lib.hid (by rw [hP.out, HD.out, hst.out]; simp), Lib.hid (by have := O3.out; simpa using this), B3⟩
          case measure => simp [intOf]; omega
        · subst h
          have hve : ((0 : Int) == 0) = true := rfl
          have hst := Lib.hid (putF_step t x (ts.drop (j + 1)) true true 0 HV.out (by simp) (by simp))
          go_wp2_with fail
          refine (hcmp.out _).mono ?_
          rintro e w2 ⟨rfl, hb2⟩
          have e2 := HC.out _ (hB.out.trans (hb2.mono hB.out.size))
          have O2 := Lib.hid (owns_below hO.out hb2)
          have B2 := Lib.hid (hB.out.trans (hb2.mono hB.out.size))
          clear hO hB hb2 e1
          go_wp2_with (at_builtin; refine wpList_append_any rfl (.tmp 33) (.tmp 38) 22 rfl w.heap.size 9 i0 (.string ⟨#[]⟩) 1 16 Try.underlying22 hi hz0 hz1 hz2 rfl (by decide) _ P.length _ rfl (O2.out.alloc _) _ 1 1 _ rfl (some_none _) rfl (one_new _ _ _ _) (one_str _) (by unfold maxLen; omega) (by omega) (by have := B2.out.size; simp; omega) ?_; intro a3 c3 w3 hown3 hb3 hnil3)
          rw [← strsV_snoc] at hown3
          have O3 := Lib.hid hown3
          have B3 := Lib.hid ((B2.out.alloc B2.out.size _).trans hb3)
          clear hown3 hb3 hnil3
          go_roundw
          case rel => exact ⟨j + 1, true, P ++ [x], by omega, by go_num, rfl, Lib.hid (by rw [hP.out, HD.out, hst.out]; simp), Lib.hid (by have := O3.out; simpa using this), B3⟩
          case measure => simp [intOf]; omega
        · have hve : (v == 0) = false := by rw [beq_eq_false_iff_ne]; omega
          have hst := Lib.hid (putF_step t x (ts.drop (j + 1)) true true v HV.out (by simp; try omega) (by simp; try omega))
          go_wp2_with fail
          refine (hcmp.out _).mono ?_
          rintro e w2 ⟨rfl, hb2⟩
          have e2 := HC.out _ (hB.out.trans (hb2.mono hB.out.size))
          have O2 := Lib.hid (owns_below hO.out hb2)
          have B2 := Lib.hid (hB.out.trans (hb2.mono hB.out.size))
          clear hO hB hb2 e1
          go_wp2_with (at_builtin; refine wpList_append_any rfl (.tmp 33) (.tmp 38) 22 rfl w.heap.size 9 i0 (.string ⟨#[]⟩) 1 16 Try.underlying22 hi hz0 hz1 hz2 rfl (by decide) _ P.length _ rfl (O2.out.alloc _) _ 1 1 _ rfl (some_none _) rfl (one_new _ _ _ _) (one_str _) (by unfold maxLen; omega) (by omega) (by have := B2.out.size; simp; omega) ?_; intro a3 c3 w3 hown3 hb3 hnil3)
          rw [← strsV_snoc] at hown3
          have O3 := Lib.hid hown3
          have B3 := Lib.hid ((B2.out.alloc B2.out.size _).trans hb3)
          clear hown3 hb3 hnil3
          go_roundw
          case rel => exact ⟨j + 1, true, P ++ [x], by omega, by go_num, rfl, Lib.hid (by rw [hP.out, HD.out, hst.out]; simp), Lib.hid (by have := O3.out; simpa using this), B3⟩
          case measure => simp [intOf]; omega
        · have hve : (v == 0) = false := by rw [beq_eq_false_iff_ne]; omega
          have hst := Lib.hid (putF_step t x (ts.drop (j + 1)) false false v HV.out (by simp; try omega) (by simp; try omega))
          go_wp2_with fail
          refine (hcmp.out _).mono ?_
          rintro e w2 ⟨rfl, hb2⟩
          have e2 := HC.out _ (hB.out.trans (hb2.mono hB.out.size))
          have O2 := Lib.hid (owns_below hO.out hb2)
          have B2 := Lib.hid (hB.out.trans (hb2.mono hB.out.size))
          clear hO hB hb2 e1
          go_wp2_with (at_builtin; refine wpList_append_any rfl (.tmp 33) (.tmp 38) 22 rfl w.heap.size 9 i0 (.string ⟨#[]⟩) 1 16 Try.underlying22 hi hz0 hz1 hz2 rfl (by decide) _ P.length _ rfl (O2.out.alloc _) _ 1 1 _ rfl (some_none _) rfl (one_new _ _ _ _) (one_str _) (by unfold maxLen; omega) (by omega) (by have := B2.out.size; simp; omega) ?_; intro a3 c3 w3 hown3 hb3 hnil3)
          rw [← strsV_snoc] at hown3
          have O3 := Lib.hid hown3
          have B3 := Lib.hid ((B2.out.alloc B2.out.size _).trans hb3)
          clear hown3 hb3 hnil3
          go_roundw
          case rel => exact ⟨j + 1, false, P ++ [x], by omega, by go_num, rfl, Lib.hid (by rw [hP.out, HD.out, hst.out]; simp), Lib.hid (by have := O3.out; simpa using this), B3⟩
          case measure => simp [intOf]; omega
        · subst h
          have hve : ((0 : Int) == 0) = true := rfl
          have hst := Lib.hid (putF_step t x (ts.drop (j + 1)) false true 0 HV.out (by simp) (by simp))
          go_wp2_with fail
          refine (hcmp.out _).mono ?_
          rintro e w2 ⟨rfl, hb2⟩
          have e2 := HC.out _ (hB.out.trans (hb2.mono hB.out.size))
          have O2 := Lib.hid (owns_below hO.out hb2)
          have B2 := Lib.hid (hB.out.trans (hb2.mono hB.out.size))
          clear hO hB hb2 e1
          go_wp2_with (at_builtin; refine wpList_append_any rfl (.tmp 33) (.tmp 38) 22 rfl w.heap.size 9 i0 (.string ⟨#[]⟩) 1 16 Try.underlying22 hi hz0 hz1 hz2 rfl (by decide) _ P.length _ rfl (O2.out.alloc _) _ 1 1 _ rfl (some_none _) rfl (one_new _ _ _ _) (one_str _) (by unfold maxLen; omega) (by omega) (by have := B2.out.size; simp; omega) ?_; intro a3 c3 w3 hown3 hb3 hnil3)
          rw [← strsV_snoc] at hown3
          have O3 := Lib.hid hown3
          have B3 := Lib.hid ((B2.out.alloc B2.out.size _).trans hb3)
          clear hown3 hb3 hnil3
          go_roundw
          case rel => exact ⟨j + 1, true, P ++ [x], by omega, by go_num, rfl, Lib.hid (by rw [hP.out, HD.out, hst.out]; simp), Lib.hid (by have := O3.out; simpa using this), B3⟩
          case measure => simp [intOf]; omega
    · have hjn : ts.drop j = [] := List.drop_of_length_le (by omega)
      have hP2 := hP.out
      rw [hjn] at hP2
      have HP := Lib.hid hP2
      clear hP hP2 hjn
      have hPn : P.length ≤ 2097152 := by omega
      cases b
      · go_wp2_with (at_builtin; refine wpList_append_any rfl (.tmp 42) (.tmp 44) 22 rfl w.heap.size 9 i0 (.string ⟨#[]⟩) 1 16 Try.underlying22 hi hz0 hz1 hz2 rfl (by decide) _ P.length _ rfl (hO.out.alloc _) _ 1 1 _ rfl (some_none _) rfl (one_new _ _ _ _) (one_str _) (by unfold maxLen; omega) (by omega) (by have := hB.out.size; simp; omega) ?_; intro a3 c3 w3 hown3 hb3 hnil3)
        rw [← strsV_snoc] at hown3
        have O3 := Lib.hid hown3
        have B3 := Lib.hid ((hB.out.alloc hB.out.size _).trans hb3)
        have N3 := Lib.hid hnil3
        clear hown3 hb3 hnil3
        go_ret
        have he : putS ts t = P ++ [t] := by rw [HP.out]; rfl
        have hlen : P.length + 1 = (P ++ [t]).length := by simp
        refine ⟨a3, c3, by rw [he, ← hlen]; rfl, ?_, ?_, B3.out⟩
        · rw [he, ← hlen]; exact HoldsT.own O3.out
        · rw [he, ← hlen]; exact N3.out
      · obtain ⟨a4, c4, rfl⟩ : ∃ a4 c4, u5 = .slice a4 P.length c4 := by
          rcases hO.out.2 with ⟨h, h0⟩ | ⟨g', c', cur, h, _⟩
          · exact ⟨none, 0, by rw [h, h0]⟩
          · exact ⟨_, c', h⟩
        go_wp2_with fail
        go_ret
        have he : putS ts t = P := by rw [HP.out]; simp [putF]
        exact ⟨a4, c4, by rw [he]; rfl, by rw [he]; exact HoldsT.own hO.out, by rw [he]; exact (owns_none hO.out).1, hB.out⟩
end Go.Proofs.Ytieenopbkkbecaa
