/- contracts of the document's Sorted, At, Merge, Without -/
import Derived.Test.YtieenopbkkbecaaWs4
namespace Go.Proofs.Ytieenopbkkbecaa
open Go.RowKit
set_option linter.unusedVariables false
theorem ret_holds {w w' : World} {a : Option Addr} {c : Nat} {ys zs : List Tx} (h : ys = zs) (hh : HoldsT w' a ys.length ys) (hnil : a = none → ys.length = 0 ∧ c = 0) (hb : Below w.heap.size w w') (v : Value) (hv : v = .slice a ys.length c) : RetH w zs (.returned v) w' := by
  subst h hv; exact ⟨a, c, rfl, hh, hnil, hb⟩
theorem canon_len (xs : List Tx) : (canonS xs).length ≤ xs.length := by
  have : ∀ (ys acc : List Tx), (ys.foldl putS acc).length ≤ acc.length + ys.length := by
    intro ys
    induction ys with
    | nil => intro acc; simp
    | cons y ys ih => intro acc; have h1 := ih (putS acc y); have h2 := putS_len acc y; simp at h1 ⊢; omega
  simpa [canonS] using this xs []
theorem canon_snoc (xs : List Tx) (x : Tx) : canonS (xs ++ [x]) = putS (canonS xs) x := by simp [canonS, List.foldl_append]
theorem filter_snoc (p : Tx → Bool) (xs : List Tx) (x : Tx) : (xs ++ [x]).filter p = xs.filter p ++ (if p x then [x] else []) := by
  rw [List.filter_append]; by_cases h : p x <;> simp [h]
def wordsOf (ts : List Tx) : List Tx := ts.filter fun t => decide (wordP t)
theorem wordsOf_yes (xs : List Tx) (x : Tx) (h : wordP x) : wordsOf (xs ++ [x]) = wordsOf xs ++ [x] := by
  unfold wordsOf; rw [filter_snoc, if_pos (decide_eq_true h)]
theorem wordsOf_no (xs : List Tx) (x : Tx) (h : ¬ wordP x) : wordsOf (xs ++ [x]) = wordsOf xs := by
  unfold wordsOf; rw [filter_snoc, if_neg (by simp [h])]; simp
theorem wordsOf_len (xs : List Tx) : (wordsOf xs).length ≤ xs.length := List.length_filter_le _ _
theorem sz_canon {xs : List Tx} {m : Nat} (h : ∀ t ∈ xs, t.size ≤ m) : ∀ t ∈ canonS xs, t.size ≤ m := fun t ht => h t (mem_canon.1 ht)
theorem sz_words {xs : List Tx} {m : Nat} (h : ∀ t ∈ xs, t.size ≤ m) : ∀ t ∈ wordsOf xs, t.size ≤ m := fun t ht => h t (List.mem_filter.1 ht).1
theorem sz_take {xs : List Tx} {m : Nat} (h : ∀ t ∈ xs, t.size ≤ m) (j : Nat) : ∀ t ∈ xs.take j, t.size ≤ m := fun t ht => h t (List.mem_of_mem_take ht)
set_option maxHeartbeats 1600000 in
theorem rsorted_any (a : Option Addr) (n cap : Nat) (ts : List Tx) (w : World) (hh : HoldsT w a n ts) (hn : n ≤ 1000) (hsz : ∀ t ∈ ts, t.size ≤ 1048576) :
    Calls Try.prog 17 #[.slice a n cap] w (RetH w (canonS (wordsOf ts))) := by
  have hl := hh.len
  go_enter Try.func17, Try.ntmps17
  go_wp2_with fail
  go_loopw [3, 4] (fun ov iv wr => ∃ (j m c : Nat) (a2 : Option Addr) (P : List Tx), j ≤ n ∧ m ≤ j ∧ iv = .int .i64 j ∧ ov = .slice a2 m c ∧ P.length = m ∧ Hid (P = canonS (wordsOf (ts.take j))) ∧ Hid (HoldsT wr a2 m P) ∧ Hid (a2 = none → m = 0 ∧ c = 0) ∧ Hid (Below w.heap.size w wr)) (fun _ iv _ => n - (intOf iv).toNat)
  case atStart => exact ⟨0, 0, 0, none, [], by omega, by omega, rfl, rfl, rfl, Lib.hid rfl, Lib.hid (HoldsT.nil _ _), Lib.hid (fun _ => ⟨rfl, rfl⟩), Lib.hid (Below.refl _ _)⟩
  case round =>
    obtain ⟨j, m, c, a2, P, hj, hm, rfl, rfl, hPl, hP, hH, hN, hB⟩ := hrel
    by_cases hlt : j < n
    · have hcell := hh.at (by omega)
      obtain ⟨bb, o, rfl, hc'⟩ := hcell
      have e0 := hc' j hlt
      have HC := Lib.hid (fun (w3 : World) (hb : Below w.heap.size w w3) => show w3.cell? ⟨bb, o + j, none⟩ = some (.string (ts.getD j ByteArray.empty)) from (hb.cell (p := ⟨bb, o + j, none⟩) (lt_of_cell e0)).trans e0)
      have hmem := getD_memT ts j (by omega)
      have htk := take_succ_getD ts ByteArray.empty j (by omega)
      obtain ⟨x, hx⟩ : ∃ x, ts.getD j ByteArray.empty = x := ⟨_, rfl⟩
      rw [hx] at hmem htk
      simp only [hx] at HC
      have HX := Lib.hid (hsz x hmem); have HT := Lib.hid htk
      clear hx hmem htk hc' e0
      have e1 := HC.out _ hB.out
      have hP1 : P.length ≤ 1048576 := by omega
      have g1 : (j : Int) < 1000 := by omega
      by_cases hw : wordP x
      · have HD := Lib.hid (decide_eq_true hw)
        have hws := wordsOf_yes (ts.take j) x hw
        rw [← HT.out] at hws
        have HW := Lib.hid hws
        clear hws hw
        go_wp2_with fail
        refine (rword_bool x true HX.out HD.out).mono ?_
        rintro e w2 ⟨rfl, hb2⟩
        have B2 := Lib.hid (hB.out.trans (hb2.mono hB.out.size))
        have H2 := Lib.hid (hH.out.below hb2)
        have e2 := HC.out _ B2.out
        clear hb2 e1
        go_wp2_with fail
        refine (put_any a2 m c P x w2 H2.out (by omega) (by rw [hP.out]; exact sz_canon (sz_words (sz_take hsz _))) HX.out).mono ?_
        rintro e w3 ⟨a3, c3, rfl, h3, n3, b3⟩
        have hlen := putS_len P x
        have hQ : putS P x = canonS (wordsOf (ts.take (j + 1))) := by rw [HW.out, canon_snoc, ← hP.out]
        obtain ⟨Q, hq⟩ : ∃ Q, putS P x = Q := ⟨_, rfl⟩
        rw [hq] at hlen hQ h3 n3
        simp only [hq]
        have HQ := Lib.hid hQ; have H3 := Lib.hid h3; have N3 := Lib.hid n3
        have B3 := Lib.hid (B2.out.trans (b3.mono B2.out.size))
        clear hQ h3 n3 b3 hq
        go_wp2_with fail
        go_roundw
        case rel => exact ⟨j + 1, Q.length, c3, a3, Q, by omega, by omega, by go_num, rfl, rfl, HQ, H3, N3, B3⟩
        case measure => simp [intOf]; omega
      · have HD := Lib.hid (decide_eq_false hw)
        have hws := wordsOf_no (ts.take j) x hw
        rw [← HT.out] at hws
        have HW := Lib.hid hws
        clear hws hw
        go_wp2_with fail
        refine (rword_bool x false HX.out HD.out).mono ?_
        rintro e w2 ⟨rfl, hb2⟩
        have B2 := Lib.hid (hB.out.trans (hb2.mono hB.out.size))
        have H2 := Lib.hid (hH.out.below hb2)
        clear hb2 e1
        go_wp2_with fail
        go_roundw
        case rel => exact ⟨j + 1, m, c, a2, P, by omega, by omega, by go_num, rfl, hPl, Lib.hid (by rw [HW.out]; exact hP.out), H2, hN, B2⟩
        case measure => simp [intOf]; omega
    · have hjn : ts.take j = ts := List.take_of_length_le (by omega)
      have hP2 := hP.out
      rw [hjn] at hP2
      have HP := Lib.hid hP2
      clear hP hP2 hjn
      go_wp2_with fail
      go_ret
      exact ret_holds HP.out (by rw [hPl]; exact hH.out) (by rw [hPl]; exact hN.out) hB.out _ (by rw [hPl]; rfl)
set_option maxHeartbeats 1600000 in
theorem rmerge_any (a : Option Addr) (n cap : Nat) (xs : List Tx) (a1 : Option Addr) (n1 cap1 : Nat) (ys : List Tx) (w : World) (hh : HoldsT w a n xs) (hnil : a = none → n = 0 ∧ cap = 0) (hh1 : HoldsT w a1 n1 ys) (hn : n ≤ 1000) (hn1 : n1 ≤ 1000)
    (hsz : ∀ t ∈ xs, t.size ≤ 1048576) (hsz1 : ∀ t ∈ ys, t.size ≤ 1048576) (hs : SortedS xs) :
    Calls Try.prog 24 #[.slice a n cap, .slice a1 n1 cap1] w (RetH w (canonS (xs ++ ys))) := by
  obtain ⟨i0, hi, hz0, hz1, hz2⟩ := info_parts str_info
  have hl := hh.len
  have hl1 := hh1.len
  have HH := Lib.hid hh; have HN := Lib.hid hnil
  clear hh hnil
  go_enter Try.func24, Try.ntmps24
  go_wp2_with (at_builtin; refine wpList_append_any rfl (.const (.slice none 0 0)) (.tmp 7) 22 rfl w.heap.size 9 i0 (.string ⟨#[]⟩) 1 16 Try.underlying22 hi hz0 hz1 hz2 rfl (by decide) _ 0 [] rfl (World.ownsRow_nil _ _ _ _) a n cap (strsV xs) rfl HN.out (by simpa [strsV] using hl) (HH.out.cells ⟨rfl, rfl, rfl, Nat.le_refl _, fun _ _ _ => rfl⟩) (strsV_one _) (by unfold maxLen; omega) (by omega) (Nat.le_refl _) ?_; intro a3 c3 w3 hown3 hb3 hnil3)
  simp only [Nat.zero_add, List.nil_append] at hown3 hnil3
  have H3 := Lib.hid (HoldsT.own hown3); have N3 := Lib.hid hnil3; have B3 := Lib.hid hb3
  clear hown3 hnil3 hb3
  go_loopw [5, 6] (fun ov iv wr => ∃ (j m c : Nat) (a2 : Option Addr) (P : List Tx), j ≤ n1 ∧ m ≤ n + j ∧ iv = .int .i64 j ∧ ov = .slice a2 m c ∧ P.length = m ∧ Hid (P = canonS (xs ++ ys.take j)) ∧ Hid (HoldsT wr a2 m P) ∧ Hid (a2 = none → m = 0 ∧ c = 0) ∧ Hid (Below w.heap.size w wr)) (fun _ iv _ => n1 - (intOf iv).toNat)
  case atStart => exact ⟨0, n, c3, a3, xs, by omega, by omega, rfl, by simp, hl, Lib.hid (by simp; exact (canon_same hs).symm), H3, N3, B3⟩
  case round =>
    obtain ⟨j, m, c, a2, P, hj, hm, rfl, rfl, hPl, hP, hH, hN, hB⟩ := hrel
    by_cases hlt : j < n1
    · have hcell := (hh1.below hB.out).at (by omega)
      obtain ⟨bb, o, rfl, hc'⟩ := hcell
      have e1 := hc' j hlt
      have hmem := getD_memT ys j (by omega)
      have htk := take_succ_getD ys ByteArray.empty j (by omega)
      obtain ⟨x, hx⟩ : ∃ x, ys.getD j ByteArray.empty = x := ⟨_, rfl⟩
      rw [hx] at hmem htk e1
      have HX := Lib.hid (hsz1 x hmem); have HT := Lib.hid htk
      clear hx hmem htk hc'
      have hszP : Hid (∀ t ∈ P, t.size ≤ 1048576) := Lib.hid (by
        rw [hP.out]
        refine sz_canon fun t ht => ?_
        rcases List.mem_append.1 ht with h | h
        · exact hsz t h
        · exact hsz1 t (List.mem_of_mem_take h))
      go_wp2_with fail
      refine (put_any a2 m c P x wr hH.out (by omega) hszP.out HX.out).mono ?_
      rintro e w3' ⟨a4, c4, rfl, h3, n3, b3⟩
      have hlen := putS_len P x
      have hQ : putS P x = canonS (xs ++ ys.take (j + 1)) := by rw [HT.out, ← List.append_assoc, canon_snoc, ← hP.out]
      obtain ⟨Q, hq⟩ : ∃ Q, putS P x = Q := ⟨_, rfl⟩
      rw [hq] at hlen hQ h3 n3
      simp only [hq]
      have HQ := Lib.hid hQ; have H4 := Lib.hid h3; have N4 := Lib.hid n3
      have B4 := Lib.hid (hB.out.trans (b3.mono hB.out.size))
      clear hQ h3 n3 b3 hq
      go_wp2_with fail
      go_roundw
      case rel => exact ⟨j + 1, Q.length, c4, a4, Q, by omega, by omega, by go_num, rfl, rfl, HQ, H4, N4, B4⟩
      case measure => simp [intOf]; omega
    · have hjn : ys.take j = ys := List.take_of_length_le (by omega)
      have hP2 := hP.out
      rw [hjn] at hP2
      have HP := Lib.hid hP2
      clear hP hP2 hjn
      go_wp2_with fail
      go_ret
      exact ret_holds HP.out (by rw [hPl]; exact hH.out) (by rw [hPl]; exact hN.out) hB.out _ (by rw [hPl]; rfl)
theorem atN_snoc (xs : List Tx) (x w : Tx) : atN (xs ++ [x]) w = atN xs w + (if cmpS x w < 0 then 1 else 0) := by
  unfold atN
  rw [List.countP_append]
  by_cases h : cmpS x w < 0 <;> simp [h]
theorem atN_found (xs : List Tx) (j : Nat) (h : j < xs.length) (hs : SortedS xs) : atN xs (xs.getD j ByteArray.empty) = atN (xs.take j) (xs.getD j ByteArray.empty) := by
  have h1 : xs = xs.take j ++ xs.drop j := (List.take_append_drop j xs).symm
  have h2 := drop_cons xs j h
  have hs2 : SortedS (xs.drop j) := List.Pairwise.drop hs
  obtain ⟨x, hx⟩ : ∃ x, xs.getD j ByteArray.empty = x := ⟨_, rfl⟩
  rw [hx] at h2 ⊢
  rw [h2] at hs2
  have h3 := (List.pairwise_cons.1 hs2).1
  conv => lhs; rw [h1, h2]
  unfold atN
  rw [List.countP_append]
  have h4 : (x :: xs.drop (j + 1)).countP (fun y => decide (cmpS y x < 0)) = 0 := by
    rw [List.countP_eq_zero]
    intro y hy
    rcases List.mem_cons.1 hy with e | e
    · rw [e]; simp [cmpS_irrefl]
    · have := cmpS_asymm (h3 y e); simp; omega
  omega
set_option maxHeartbeats 1600000 in
theorem rat_any (a : Option Addr) (n cap : Nat) (ts : List Tx) (t : Tx) (w : World) (hh : HoldsT w a n ts) (hn : n ≤ 1048576) (hsz : ∀ t ∈ ts, t.size ≤ 1048576) (ht : t.size ≤ 1048576) (hs : SortedS ts) :
    Calls Try.prog 23 #[.slice a n cap, .string t] w fun e w' => e = .returned (.tuple #[.int .i64 (atN ts t), .bool (decide (t ∈ ts))]) ∧ Below w.heap.size w w' := by
  have hl := hh.len
  go_enter Try.func23, Try.ntmps23
  go_wp2_with fail
  go_loopw [6, 7] (fun ov iv wr => ∃ (j m : Nat), j ≤ n ∧ m ≤ j ∧ iv = .int .i64 j ∧ ov = .int .i64 m ∧ Hid (m = atN (ts.take j) t) ∧ Hid (∀ x ∈ ts.take j, x ≠ t) ∧ Hid (Below w.heap.size w wr)) (fun _ iv _ => n - (intOf iv).toNat)
  case atStart => exact ⟨0, 0, by omega, by omega, rfl, rfl, Lib.hid rfl, Lib.hid (by simp), Lib.hid (Below.refl _ _)⟩
  case round =>
    obtain ⟨j, m, hj, hm, rfl, rfl, hM, hX, hB⟩ := hrel
    by_cases hlt : j < n
    · have hcell := (hh.below hB.out).at (by omega)
      obtain ⟨bb, o, rfl, hc'⟩ := hcell
      have e1 := hc' j hlt
      have hmem := getD_memT ts j (by omega)
      have htk := take_succ_getD ts ByteArray.empty j (by omega)
      have hfd := atN_found ts j (by omega) hs
      obtain ⟨x, hx⟩ : ∃ x, ts.getD j ByteArray.empty = x := ⟨_, rfl⟩
      rw [hx] at hmem htk e1 hfd
      have HX := Lib.hid (hsz x hmem); have HT := Lib.hid htk; have HM := Lib.hid hmem; have HF := Lib.hid hfd
      clear hx hmem htk hc' hfd
      by_cases hxt : x = t
      · subst hxt
        have hb := str_same x
        go_wp2_with fail
        go_ret2
        exact ⟨by rw [HF.out, ← hM.out, decide_eq_true HM.out]; rfl, hB.out⟩
      · have hb := str_other hxt
        have hcmp := Lib.hid (fun w => rcompare_any x t w HX.out ht)
        have hsn := atN_snoc (ts.take j) x t
        rw [← HT.out, ← hM.out] at hsn
        obtain ⟨v, hv⟩ : ∃ v, cmpS x t = v := ⟨_, rfl⟩
        rw [hv] at hsn
        simp only [hv] at hcmp
        have HXT := Lib.hid hxt
        clear hv hxt
        have HNX := Lib.hid (show ∀ y ∈ ts.take (j + 1), y ≠ t from by
          rw [HT.out]
          intro y hy
          rcases List.mem_append.1 hy with h | h
          · exact hX.out y h
          · simp at h; rw [h]; exact HXT.out)
        by_cases hvn : v < 0
        · rw [if_pos hvn] at hsn
          have HS := Lib.hid hsn
          clear hsn
          go_wp2_with fail
          refine (hcmp.out _).mono ?_
          rintro e w2 ⟨rfl, hb2⟩
          go_wp2_with fail
          go_roundw
          case rel => exact ⟨j + 1, m + 1, by omega, by omega, by go_num, by go_num, Lib.hid HS.out.symm, HNX, Lib.hid (hB.out.trans (hb2.mono hB.out.size))⟩
          case measure => simp [intOf]; omega
        · rw [if_neg hvn, Nat.add_zero] at hsn
          have HS := Lib.hid hsn
          clear hsn
          go_wp2_with fail
          refine (hcmp.out _).mono ?_
          rintro e w2 ⟨rfl, hb2⟩
          go_wp2_with fail
          go_roundw
          case rel => exact ⟨j + 1, m, by omega, by omega, by go_num, rfl, Lib.hid HS.out.symm, HNX, Lib.hid (hB.out.trans (hb2.mono hB.out.size))⟩
          case measure => simp [intOf]; omega
    · have hjn : ts.take j = ts := List.take_of_length_le (by omega)
      have h1 := hM.out
      have h2 := hX.out
      rw [hjn] at h1 h2
      have HM := Lib.hid h1
      have HD := Lib.hid (decide_eq_false (p := t ∈ ts) fun h => h2 t h rfl)
      clear hjn h1 h2
      go_wp2_with fail
      go_ret2
      exact ⟨by rw [← HM.out, HD.out]; rfl, hB.out⟩
def lessOf (xs ys : List Tx) : List Tx := xs.filter fun t => !decide (t ∈ ys)
theorem lessOf_yes (ys xs : List Tx) (x : Tx) (h : x ∈ ys) : lessOf (xs ++ [x]) ys = lessOf xs ys := by
  unfold lessOf; rw [filter_snoc, if_neg (by simp [h])]; simp
theorem lessOf_no (ys xs : List Tx) (x : Tx) (h : ¬ x ∈ ys) : lessOf (xs ++ [x]) ys = lessOf xs ys ++ [x] := by
  unfold lessOf; rw [filter_snoc, if_pos (by simp [h])]
theorem lessOf_len (xs ys : List Tx) : (lessOf xs ys).length ≤ xs.length := List.length_filter_le _ _
theorem rat_lit (a : Option Addr) (n cap : Nat) (ts : List Tx) (t : Tx) (b : Bool) (k : Nat) (w : World) (hh : HoldsT w a n ts) (hn : n ≤ 1048576) (hsz : ∀ t ∈ ts, t.size ≤ 1048576) (ht : t.size ≤ 1048576) (hs : SortedS ts) (hb : decide (t ∈ ts) = b) (hk : atN ts t = k) :
    Calls Try.prog 23 #[.slice a n cap, .string t] w fun e w' => e = .returned (.tuple #[.int .i64 k, .bool b]) ∧ Below w.heap.size w w' := by
  subst hb hk; exact rat_any a n cap ts t w hh hn hsz ht hs
set_option maxHeartbeats 1600000 in
theorem rwithout_any (a : Option Addr) (n cap : Nat) (xs : List Tx) (a1 : Option Addr) (n1 cap1 : Nat) (ys : List Tx) (w : World) (hh : HoldsT w a n xs) (hh1 : HoldsT w a1 n1 ys) (hn : n ≤ 1000) (hn1 : n1 ≤ 1000)
    (hsz : ∀ t ∈ xs, t.size ≤ 1048576) (hsz1 : ∀ t ∈ ys, t.size ≤ 1048576) (hs : SortedS ys) :
    Calls Try.prog 25 #[.slice a n cap, .slice a1 n1 cap1] w (RetH w (lessOf xs ys)) := by
  obtain ⟨i0, hi, hz0, hz1, hz2⟩ := info_parts str_info
  have hl := hh.len
  go_enter Try.func25, Try.ntmps25
  go_wp2_with fail
  go_loopw [5, 6] (fun ov iv wr => ∃ (j : Nat) (P : List Tx), j ≤ n ∧ P.length ≤ j ∧ iv = .int .i64 j ∧ Hid (P = lessOf (xs.take j) ys) ∧ Hid (wr.ownsRow w.heap.size 9 1 ov P.length (strsV P)) ∧ Hid (Below w.heap.size w wr)) (fun _ iv _ => n - (intOf iv).toNat)
  case atStart => exact ⟨0, [], by omega, by simp, rfl, Lib.hid rfl, Lib.hid (World.ownsRow_nil _ _ _ _), Lib.hid (Below.refl _ _)⟩
  case round =>
    obtain ⟨j, P, hj, hPl, rfl, hP, hO, hB⟩ := hrel
    by_cases hlt : j < n
    · have hcell := hh.at (by omega)
      obtain ⟨bb, o, rfl, hc'⟩ := hcell
      have e0 := hc' j hlt
      have HC := Lib.hid (fun (w3 : World) (hb : Below w.heap.size w w3) => show w3.cell? ⟨bb, o + j, none⟩ = some (.string (xs.getD j ByteArray.empty)) from (hb.cell (p := ⟨bb, o + j, none⟩) (lt_of_cell e0)).trans e0)
      have hmem := getD_memT xs j (by omega)
      have htk := take_succ_getD xs ByteArray.empty j (by omega)
      obtain ⟨x, hx⟩ : ∃ x, xs.getD j ByteArray.empty = x := ⟨_, rfl⟩
      rw [hx] at hmem htk
      simp only [hx] at HC
      have HX := Lib.hid (hsz x hmem); have HT := Lib.hid htk
      clear hx hmem htk hc' e0
      have e1 := HC.out _ hB.out
      have H1 := Lib.hid (hh1.below hB.out)
      obtain ⟨k, hk⟩ : ∃ k, atN ys x = k := ⟨_, rfl⟩
      have HK := Lib.hid hk
      clear hk
      by_cases hin : x ∈ ys
      · have HD := Lib.hid (decide_eq_true hin)
        have hls := lessOf_yes ys (xs.take j) x hin
        rw [← HT.out, ← hP.out] at hls
        have HL := Lib.hid hls
        clear hls hin
        go_wp2_with fail
        refine (rat_lit a1 n1 cap1 ys x true k wr H1.out (by omega) hsz1 HX.out hs HD.out HK.out).mono ?_
        rintro e w2 ⟨rfl, hb2⟩
        have O2 := Lib.hid (owns_below hO.out hb2)
        have B2 := Lib.hid (hB.out.trans (hb2.mono hB.out.size))
        clear hb2
        go_wp2_with fail
        go_roundw
        case rel => exact ⟨j + 1, P, by omega, by omega, by go_num, Lib.hid HL.out.symm, O2, B2⟩
        case measure => simp [intOf]; omega
      · have HD := Lib.hid (decide_eq_false hin)
        have hls := lessOf_no ys (xs.take j) x hin
        rw [← HT.out, ← hP.out] at hls
        have HL := Lib.hid hls
        clear hls hin
        go_wp2_with fail
        refine (rat_lit a1 n1 cap1 ys x false k wr H1.out (by omega) hsz1 HX.out hs HD.out HK.out).mono ?_
        rintro e w2 ⟨rfl, hb2⟩
        have O2 := Lib.hid (owns_below hO.out hb2)
        have B2 := Lib.hid (hB.out.trans (hb2.mono hB.out.size))
        have e2 := HC.out _ B2.out
        clear hb2 e1 hO hB
        go_wp2_with (at_builtin; refine wpList_append_any rfl (.tmp 26) (.tmp 31) 22 rfl w.heap.size 9 i0 (.string ⟨#[]⟩) 1 16 Try.underlying22 hi hz0 hz1 hz2 rfl (by decide) _ P.length _ rfl (O2.out.alloc _) _ 1 1 _ rfl (some_none _) rfl (one_new _ _ _ _) (one_str _) (by unfold maxLen; omega) (by omega) (by have := B2.out.size; simp; omega) ?_; intro a3 c3 w3 hown3 hb3 hnil3)
        rw [← strsV_snoc] at hown3
        have O3 := Lib.hid hown3
        have B3 := Lib.hid ((B2.out.alloc B2.out.size _).trans hb3)
        clear hown3 hb3 hnil3
        go_roundw
        case rel => exact ⟨j + 1, P ++ [x], by omega, by simp; omega, by go_num, Lib.hid HL.out.symm, Lib.hid (by have := O3.out; simpa using this), B3⟩
        case measure => simp [intOf]; omega
    · have hjn : xs.take j = xs := List.take_of_length_le (by omega)
      have hP2 := hP.out
      rw [hjn] at hP2
      have HP := Lib.hid hP2
      clear hP hP2 hjn
      obtain ⟨a4, c4, rfl⟩ : ∃ a4 c4, u5 = .slice a4 P.length c4 := by
        rcases hO.out.2 with ⟨h, h0⟩ | ⟨g', c', cur, h, _⟩
        · exact ⟨none, 0, by rw [h, h0]⟩
        · exact ⟨_, c', h⟩
      go_wp2_with fail
      go_ret
      exact ret_holds HP.out (HoldsT.own hO.out) (owns_none hO.out).1 hB.out _ rfl
end Go.Proofs.Ytieenopbkkbecaa
