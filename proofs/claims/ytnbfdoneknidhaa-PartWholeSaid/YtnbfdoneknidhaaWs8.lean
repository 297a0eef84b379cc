/- contract of list.Merge -/
import Derived.Test.YtnbfdoneknidhaaWp0
import Derived.Test.YtnbfdoneknidhaaWp1
import Derived.WalkLawsBesides
import Derived.Outline
import Derived.Deep.QuietTactic
import Derived.BigQuiet
import Derived.Deep.DeepCutAuto
import Derived.Deep.RegionWith
namespace Go.Proofs.Ytnbfdoneknidhaa
open Go.RowKit
set_option linter.unusedVariables false
/-- 'make([]T, 0, c)': a slice of the call's own with room -/
theorem wpList_make_room {P : Program} (w : World) {ops : Array Oper} {rest : List Oper} {o : Oper} {a : Act} {Q : Exit → Act → World → Prop}
    (hg : o.guard = none) (l c : Operand) (t : TypeId) (hop : o.op = Op.makeSlice t l c)
    (e : TypeId) (i : TypeInfo) (z : Value) (bytes : Nat) (ht : P.underlying t = some (.slice e)) (hi : P.info? e = some i) (hz : i.zero = some z) (hsize : i.size = 1) (hby : i.bytes = bytes) (hz1 : z.cells = #[z])
    (base n : Nat) (hl : a.eval l = .int .i64 0) (cv : Int) (hc : a.eval c = .int .i64 cv) (hcv : cv = (n : Int)) (hbytes : bytes * n ≤ 281474976710656) (h63 : n ≤ maxLen) (hbase : base ≤ w.heap.size)
    (hK : ∀ w', w'.ownsRow base e 1 (.slice (some ⟨w.heap.size, 0, none⟩) 0 n) 0 [] → Below base w w' → wpList P ops Q rest (a.put o.dst (.slice (some ⟨w.heap.size, 0, none⟩) 0 n)) w') :
    wpList P ops Q (o :: rest) a w := by
  subst hcv
  refine wpList_plain hg fun K hK' => ?_
  have hb' : (i.bytes : Int) * (n : Int) ≤ 281474976710656 := by
    rw [hby]
    have h : ((bytes * n : Nat) : Int) ≤ 281474976710656 := by omega
    rwa [Int.natCast_mul] at h
  have hrun := run_make (P := P) w t e i z ht hi hz .i64 .i64 0 n (Int.le_refl _) (by omega) hb' (by unfold maxLen at h63; omega)
  simp only [Int.toNat_natCast, Int.toNat_zero, hsize, Nat.mul_one, hz1] at hrun
  unfold Oper.wp
  simp [execOp, hop, hl, hc, hrun, Result.andThen]
  refine hK' _ _ (hK _ ?_ ((Below.refl _ _).alloc hbase _))
  exact ⟨rfl, .inr ⟨w.heap.size, n, _, rfl, hbase, heap_alloc_new w _, Nat.zero_le _, h63, by simp [madeCells], by simp⟩⟩
theorem mergeL_lt {x y : Tx} {xs ys : List Tx} (h : cmpS x y < 0) : mergeL (x :: xs) (y :: ys) = x :: mergeL xs (y :: ys) := by rw [mergeL_cons, if_pos h]
theorem mergeL_eq {x y : Tx} {xs ys : List Tx} (h : cmpS x y = 0) : mergeL (x :: xs) (y :: ys) = x :: mergeL xs ys := by rw [mergeL_cons, if_neg (by omega), if_pos h]
theorem mergeL_gt {x y : Tx} {xs ys : List Tx} (h : 0 < cmpS x y) : mergeL (x :: xs) (y :: ys) = y :: mergeL (x :: xs) ys := by rw [mergeL_cons, if_neg (by omega), if_neg (by omega)]
theorem merge_step {M P : List Tx} {x y : Tx} {xs ys : List Tx} {i j : Nat} (hM : M = P ++ mergeL (xs.drop i) (ys.drop j)) (hx : xs.drop i = x :: xs.drop (i + 1)) (hy : ys.drop j = y :: ys.drop (j + 1)) :
    (cmpS x y < 0 → M = (P ++ [x]) ++ mergeL (xs.drop (i + 1)) (ys.drop j)) ∧ (cmpS x y = 0 → M = (P ++ [x]) ++ mergeL (xs.drop (i + 1)) (ys.drop (j + 1))) ∧ (0 < cmpS x y → M = (P ++ [y]) ++ mergeL (xs.drop i) (ys.drop (j + 1))) := by
  refine ⟨fun h => ?_, fun h => ?_, fun h => ?_⟩
  · rw [hM, hx, hy, mergeL_lt h, List.append_assoc]; rfl
  · rw [hM, hx, hy, mergeL_eq h, List.append_assoc]; rfl
  · rw [hM, hx, hy, mergeL_gt h, List.append_assoc]; rfl
theorem HoldsT.tail {w : World} {b o m : Nat} {ts : List Tx} (h : HoldsT w (some ⟨b, o, none⟩) (m + 1) ts) : HoldsT w (some ⟨b, o + 1, none⟩) m (ts.drop 1) := by
  have := h.drop 1 (by omega)
  simpa using this
theorem HoldsT.tail' {w : World} {b o q c : Nat} {ts : List Tx} (h : HoldsT w (some ⟨b, o, none⟩) (q + 1) ts) (hc : q + 1 ≤ c) : HoldsT w (if c = 1 then some ⟨b, o, none⟩ else some ⟨b, o + 1, none⟩) q (ts.drop 1) := by
  split
  · obtain rfl : q = 0 := by omega
    have := h.tail
    exact ⟨this.1, fun h => absurd h (by omega)⟩
  · exact h.tail
theorem ite_none {p : Prop} {c : Prop} [Decidable c] (a b : Addr) : ((if c then some a else some b) = none) → p := by split <;> exact fun h => by cases h
def lenV : Value → Nat | .slice _ n _ => n | _ => 0
set_option maxHeartbeats 3200000 in
theorem merge_any (a : Option Addr) (n cap : Nat) (xs : List Tx) (a1 : Option Addr) (n1 cap1 : Nat) (ys : List Tx) (w : World) (hh : HoldsT w a n xs) (hnil : a = none → n = 0 ∧ cap = 0) (hcap : n ≤ cap) (hh1 : HoldsT w a1 n1 ys) (hnil1 : a1 = none → n1 = 0 ∧ cap1 = 0) (hcap1 : n1 ≤ cap1) (hn : n ≤ 1000) (hn1 : n1 ≤ 1000) :
    Calls Try.prog 23 #[.slice a n cap, .slice a1 n1 cap1] w (RetO w (mergeL xs ys)) := by
  obtain ⟨i0, hi, hz0, hz1, hz2⟩ := info_parts str_info
  have hl := hh.len
  have hl1 := hh1.len
  have HH := Lib.hid hh; have HN := Lib.hid hnil; have HH1 := Lib.hid hh1; have HN1 := Lib.hid hnil1
  clear hh hnil hh1 hnil1
  go_enter Try.func23, Try.ntmps23
  go_wp2_with (refine wpList_make_room _ rfl _ _ 35 rfl 9 i0 (.string ⟨#[]⟩) 16 Try.underlying35 hi hz0 hz1 hz2 rfl w.heap.size (n + n1) rfl _ rfl (by omega) (by omega) (by unfold maxLen; omega) (Nat.le_refl _) ?_; intro w1 hown1 hb1)
  have O1 := Lib.hid hown1; have B1 := Lib.hid hb1
  clear hown1 hb1
  go_loopw [0, 1, 5] (fun av bv ov wr => ∃ (i j m m1 c c1 : Nat) (p p1 : Option Addr) (P : List Tx), m + i = n ∧ m1 + j = n1 ∧ m ≤ c ∧ m1 ≤ c1 ∧ av = .slice p m c ∧ bv = .slice p1 m1 c1 ∧ P.length ≤ i + j ∧ Hid (HoldsT w p m (xs.drop i)) ∧ Hid (HoldsT w p1 m1 (ys.drop j)) ∧ Hid (p = none → m = 0 ∧ c = 0) ∧ Hid (p1 = none → m1 = 0 ∧ c1 = 0) ∧ Hid (mergeL xs ys = P ++ mergeL (xs.drop i) (ys.drop j)) ∧ Hid (wr.ownsRow w.heap.size 9 1 ov P.length (strsV P)) ∧ Hid (Below w.heap.size w wr)) (fun av bv _ _ => lenV av + lenV bv)
  case atStart => exact ⟨0, 0, n, n1, cap, cap1, a, a1, [], by omega, by omega, hcap, hcap1, rfl, rfl, by simp, HH, HH1, HN, HN1, Lib.hid rfl, O1, B1⟩
  case round =>
    obtain ⟨i, j, m, m1, c, c1, p, p1, P, hm, hm1, hc, hc1, rfl, rfl, hPl, K, K1, N0, N1, hP, hO, hB⟩ := hrel
    have hcv := HoldsT.below K.out hB.out
    by_cases hm0 : m = 0 ∨ m1 = 0
    · have hend : Hid (mergeL xs ys = P ++ xs.drop i ++ ys.drop j) := Lib.hid (by
        rw [hP.out]
        rcases hm0 with h | h
        · rw [List.drop_of_length_le (l := xs) (i := i) (by omega), mergeL_nil_left]; simp
        · rw [List.drop_of_length_le (l := ys) (i := j) (by omega), mergeL_nil_right]; simp)
      have hR : Hid ((P ++ xs.drop i ++ ys.drop j).length = P.length + m + m1) := Lib.hid (by simp; omega)
      have X := Lib.hid ((HoldsT.below K.out hB.out).cells ⟨rfl, rfl, rfl, Nat.le_refl _, fun _ _ _ => rfl⟩)
      have LX := Lib.hid (show (strsV (xs.drop i)).length = m * 1 by rw [Nat.mul_one]; exact K.out.1)
      have LY := Lib.hid (show (strsV (ys.drop j)).length = m1 * 1 by rw [Nat.mul_one]; exact K1.out.1)
      obtain ⟨X1, hX1⟩ : ∃ X1, xs.drop i = X1 := ⟨_, rfl⟩
      obtain ⟨Y1, hY1⟩ : ∃ Y1, ys.drop j = Y1 := ⟨_, rfl⟩
      have Kx := Lib.hid K.out; have Ky := Lib.hid K1.out
      rw [hX1] at LX X hR hend Kx
      rw [hY1] at LY hR hend Ky
      clear hX1 hY1 hP K K1 hcv
      have hcase : m = 0 ∨ (0 < m ∧ m1 = 0) := by omega
      rcases hcase with rfl | ⟨h1, rfl⟩
      all_goals
        go_wp2_with (first
          | (at_builtin; refine wpList_append_any rfl (.tmp 48) (.tmp 49) 35 rfl w.heap.size 9 i0 (.string ⟨#[]⟩) 1 16 Try.underlying35 hi hz0 hz1 hz2 rfl (by decide) _ P.length _ rfl hO.out _ _ _ (strsV X1) rfl N0.out LX.out X.out (strsV_one _) (by unfold maxLen; omega) (by omega) hB.out.size ?_; intro a3 c3 w3 hown3 hb3 hnil3; have B3 := hB.out.trans hb3)
          | (at_builtin; refine wpList_append_any rfl (.tmp 51) (.tmp 52) 35 rfl w.heap.size 9 i0 (.string ⟨#[]⟩) 1 16 Try.underlying35 hi hz0 hz1 hz2 rfl (by decide) _ _ _ rfl hown3 _ _ _ (strsV Y1) rfl N1.out LY.out ((HoldsT.below Ky.out B3).cells ⟨rfl, rfl, rfl, Nat.le_refl _, fun _ _ _ => rfl⟩) (strsV_one _) (by unfold maxLen; omega) (by omega) B3.size ?_; intro a5 c5 w5 hown5 hb5 hnil5))
        have O5 := Lib.hid hown5
        have B5 := Lib.hid (B3.trans hb5)
        clear hown5 hb5 hnil5 hown3 hb3 hnil3 B3
        go_ret
        exact ret_own hend.out.symm hR.out (by have := O5.out; simpa [strsV] using this) B5.out _ rfl
    · obtain ⟨q, rfl⟩ : ∃ q, m = q + 1 := ⟨m - 1, by omega⟩
      obtain ⟨q1, rfl⟩ : ∃ q1, m1 = q1 + 1 := ⟨m1 - 1, by omega⟩
      obtain ⟨b, o, rfl, hx⟩ := K.out.at (by omega)
      obtain ⟨b1, o1, rfl, hx1⟩ := K1.out.at (by omega)
      have e0 := hx 0 (by omega)
      have e1 := hx1 0 (by omega)
      rw [Nat.add_zero] at e0 e1
      have hdx := drop_cons xs i (by omega)
      have hdy := drop_cons ys j (by omega)
      have hgx : (xs.drop i).getD 0 ByteArray.empty = xs.getD i ByteArray.empty := by simp [List.getD_eq_getElem?_getD]
      have hgy : (ys.drop j).getD 0 ByteArray.empty = ys.getD j ByteArray.empty := by simp [List.getD_eq_getElem?_getD]
      rw [hgx] at e0
      rw [hgy] at e1
      obtain ⟨x, hxx⟩ : ∃ x, xs.getD i ByteArray.empty = x := ⟨_, rfl⟩
      obtain ⟨y, hyy⟩ : ∃ y, ys.getD j ByteArray.empty = y := ⟨_, rfl⟩
      rw [hxx] at hdx e0
      rw [hyy] at hdy e1
      have C0 := Lib.hid (fun (w3 : World) (hb : Below w.heap.size w w3) => show w3.cell? ⟨b, o, none⟩ = some (.string x) from (hb.cell (p := ⟨b, o, none⟩) (lt_of_cell e0)).trans e0)
      have C1 := Lib.hid (fun (w3 : World) (hb : Below w.heap.size w w3) => show w3.cell? ⟨b1, o1, none⟩ = some (.string y) from (hb.cell (p := ⟨b1, o1, none⟩) (lt_of_cell e1)).trans e1)
      obtain ⟨s1, s2, s3⟩ := merge_step hP.out hdx hdy
      have T0 := Lib.hid (by simpa using K.out.tail' hc : HoldsT w (if c = 1 then some ⟨b, o, none⟩ else some ⟨b, o + 1, none⟩) q (xs.drop (i + 1)))
      have T1 := Lib.hid (by simpa using K1.out.tail' hc1 : HoldsT w (if c1 = 1 then some ⟨b1, o1, none⟩ else some ⟨b1, o1 + 1, none⟩) q1 (ys.drop (j + 1)))
      have S1 := Lib.hid s1; have S2 := Lib.hid s2; have S3 := Lib.hid s3
      clear hx hx1 hdx hdy hgx hgy hxx hyy s1 s2 s3 e0 e1 hcv
      have e0 := C0.out _ hB.out
      have e1 := C1.out _ hB.out
      obtain ⟨v, hv⟩ : ∃ v, cmpS x y = v := ⟨_, rfl⟩
      have hcmp := Lib.hid (fun w => compare_lit x y v hv w)
      rw [hv] at S1 S2 S3
      clear hv
      have g1 : (0 : Int) < (q + 1 : Nat) := by omega
      have g2 : (0 : Int) < (q1 + 1 : Nat) := by omega
      rcases Int.lt_trichotomy v 0 with h | h | h
      · have hM := Lib.hid (S1.out h)
        go_upto_region 3 with fail
        go_quiet ((go_at_call 36; exact Calls.quiet_of_same ((hcmp.out _).mono (fun _ _ h => ⟨h.1, h.2.symm⟩))))
        go_wp2_with (at_builtin; refine wpList_append_any rfl (.tmp 30) (.tmp 34) 35 rfl w.heap.size 9 i0 (.string ⟨#[]⟩) 1 16 Try.underlying35 hi hz0 hz1 hz2 rfl (by decide) _ P.length _ rfl ((owns_below hO.out (below_drewN _ _)).alloc _) _ 1 1 _ rfl (some_none _) rfl (one_new _ _ _ _) (one_str _) (by unfold maxLen; omega) (by omega) (by have := hB.out.size; simp; omega) ?_; intro a3 c3 w3 hown3 hb3 hnil3)
        rw [← strsV_snoc] at hown3
        have O3 := Lib.hid hown3
        have B3 := Lib.hid (((hB.out.trans ((below_drewN _ _).mono hB.out.size)).alloc (by have := hB.out.size; simpa using this) _).trans hb3)
        clear hown3 hb3 hnil3
        go_roundw
        case rel =>
          exact ⟨i + 1, j, q, q1 + 1, c - 1, c1, _, _, P ++ [x], by omega, by omega, by omega, by omega, rfl, rfl, by simp; omega, T0, K1, Lib.hid (ite_none _ _), N1, hM, Lib.hid (by have := O3.out; simpa using this), B3⟩
        case measure => simp [lenV]; try omega
      · have hM := Lib.hid (S2.out h)
        subst h
        go_upto_region 3 with fail
        go_quiet ((go_at_call 36; exact Calls.quiet_of_same ((hcmp.out _).mono (fun _ _ h => ⟨h.1, h.2.symm⟩))))
        go_wp2_with (at_builtin; refine wpList_append_any rfl (.tmp 30) (.tmp 34) 35 rfl w.heap.size 9 i0 (.string ⟨#[]⟩) 1 16 Try.underlying35 hi hz0 hz1 hz2 rfl (by decide) _ P.length _ rfl ((owns_below hO.out (below_drewN _ _)).alloc _) _ 1 1 _ rfl (some_none _) rfl (one_new _ _ _ _) (one_str _) (by unfold maxLen; omega) (by omega) (by have := hB.out.size; simp; omega) ?_; intro a3 c3 w3 hown3 hb3 hnil3)
        rw [← strsV_snoc] at hown3
        have O3 := Lib.hid hown3
        have B3 := Lib.hid (((hB.out.trans ((below_drewN _ _).mono hB.out.size)).alloc (by have := hB.out.size; simpa using this) _).trans hb3)
        clear hown3 hb3 hnil3
        go_roundw
        case rel => exact ⟨i + 1, j + 1, q, q1, c - 1, c1 - 1, _, _, P ++ [x], by omega, by omega, by omega, by omega, rfl, rfl, by simp; omega, T0, T1, Lib.hid (ite_none _ _), Lib.hid (ite_none _ _), hM, Lib.hid (by have := O3.out; simpa using this), B3⟩
        case measure => simp [lenV]; try omega
      · have hM := Lib.hid (S3.out h)
        go_upto_region 3 with fail
        go_quiet ((go_at_call 36; exact Calls.quiet_of_same ((hcmp.out _).mono (fun _ _ h => ⟨h.1, h.2.symm⟩))))
        go_wp2_with (at_builtin; refine wpList_append_any rfl (.tmp 38) (.tmp 42) 35 rfl w.heap.size 9 i0 (.string ⟨#[]⟩) 1 16 Try.underlying35 hi hz0 hz1 hz2 rfl (by decide) _ P.length _ rfl ((owns_below hO.out (below_drewN _ _)).alloc _) _ 1 1 _ rfl (some_none _) rfl (one_new _ _ _ _) (one_str _) (by unfold maxLen; omega) (by omega) (by have := hB.out.size; simp; omega) ?_; intro a3 c3 w3 hown3 hb3 hnil3)
        rw [← strsV_snoc] at hown3
        have O3 := Lib.hid hown3
        have B3 := Lib.hid (((hB.out.trans ((below_drewN _ _).mono hB.out.size)).alloc (by have := hB.out.size; simpa using this) _).trans hb3)
        clear hown3 hb3 hnil3
        go_roundw
        case rel => exact ⟨i, j + 1, q + 1, q1, c, c1 - 1, _, _, P ++ [y], by omega, by omega, by omega, by omega, rfl, rfl, by simp; omega, K, T1, N0, Lib.hid (ite_none _ _), hM, Lib.hid (by have := O3.out; simpa using this), B3⟩
        case measure => simp [lenV]; try omega
end Go.Proofs.Ytnbfdoneknidhaa
