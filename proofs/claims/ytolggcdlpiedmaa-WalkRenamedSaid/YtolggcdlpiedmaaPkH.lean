/- texts joined -/
import Derived.Test.YtolggcdlpiedmaaPkC
import Derived.Test.YtolggcdlpiedmaaPkB
import Derived.WalkLawsBesides
import Derived.Outline
import Derived.Deep.QuietTactic
import Derived.BigQuiet
import Derived.Deep.DeepCutAuto
import Derived.Deep.RegionWith
import Derived.Test.YtolggcdlpiedmaaPkA
import Derived.Shelf.SlSortCmp.NoneTotal
import Derived.Shelf.Slices.CompactS
import Derived.Ground.SlsfProg
import Derived.Ground.NamesProg
import Derived.Test.YtolggcdlpiedmaaChecked
import Derived.Lib.OwnBridge
import Derived.Sort.OwnSorted
/- contract of list.Merge -/
namespace Go.Proofs.Ytolggcdlpiedmaa
open Go.RowKit
set_option linter.unusedVariables false
set_option maxRecDepth 20000
/-- 'make([]T, 0, c)': a slice of the call's own with room -/
theorem wpList_make_room {P : Program} (w : World) {ops : Array Oper} {rest : List Oper} {o : Oper} {a : Act} {Q : Exit → Act → World → Prop}
    (hg : o.guard = none) (l c : Operand) (t : TypeId) (hop : o.op = Op.makeSlice t l c)
    (e : TypeId) (i : TypeInfo) (z : Value) (bytes : Nat) (ht : P.underlying t = some (.slice e)) (hi : P.info? e = some i) (hz : i.zero = some z) (hsize : i.size = 1) (hby : i.bytes = bytes) (hz1 : z.cells = #[z])
    (base n : Nat) (hl : a.eval l = .int .i64 0) (cv : Int) (hc : a.eval c = .int .i64 cv) (hcv : cv = (n : Int)) (hbytes : bytes * n ≤ 281474976710656) (h63 : n ≤ maxLen) (hbase : base ≤ w.heap.size)
    (hK : ∀ w', w'.ownsRow base e 1 (.slice (some ⟨w.heap.size, 0, none⟩) 0 n) 0 [] → Below base w w' → wpList P ops Q rest (a.put o.dst (.slice (some ⟨w.heap.size, 0, none⟩) 0 n)) w') :
    wpList P ops Q (o :: rest) a w := by
  subst hcv
  refine wpList_plain hg fun K hK' => ?_
  have hb' : (i.bytes : Int) * (n : Int) ≤ 281474976710656 := by
    rw [hby]
    have h : ((bytes * n : Nat) : Int) ≤ 281474976710656 := by omega
    rwa [Int.natCast_mul] at h
  have hrun := run_make (P := P) w t e i z ht hi hz .i64 .i64 0 n (Int.le_refl _) (by omega) hb' (by unfold maxLen at h63; omega)
  simp only [Int.toNat_natCast, Int.toNat_zero, hsize, Nat.mul_one, hz1] at hrun
  unfold Oper.wp
  simp [execOp, hop, hl, hc, hrun, Result.andThen]
  refine hK' _ _ (hK _ ?_ ((Below.refl _ _).alloc hbase _))
  exact ⟨rfl, .inr ⟨w.heap.size, n, _, rfl, hbase, heap_alloc_new w _, Nat.zero_le _, h63, by simp [madeCells], by simp⟩⟩
theorem mergeL_lt {x y : Tx} {xs ys : List Tx} (h : cmpS x y < 0) : mergeL (x :: xs) (y :: ys) = x :: mergeL xs (y :: ys) := by rw [mergeL_cons, if_pos h]
theorem mergeL_eq {x y : Tx} {xs ys : List Tx} (h : cmpS x y = 0) : mergeL (x :: xs) (y :: ys) = x :: mergeL xs ys := by rw [mergeL_cons, if_neg (by omega), if_pos h]
theorem mergeL_gt {x y : Tx} {xs ys : List Tx} (h : 0 < cmpS x y) : mergeL (x :: xs) (y :: ys) = y :: mergeL (x :: xs) ys := by rw [mergeL_cons, if_neg (by omega), if_neg (by omega)]
theorem merge_step {M P : List Tx} {x y : Tx} {xs ys : List Tx} {i j : Nat} (hM : M = P ++ mergeL (xs.drop i) (ys.drop j)) (hx : xs.drop i = x :: xs.drop (i + 1)) (hy : ys.drop j = y :: ys.drop (j + 1)) :
    (cmpS x y < 0 → M = (P ++ [x]) ++ mergeL (xs.drop (i + 1)) (ys.drop j)) ∧ (cmpS x y = 0 → M = (P ++ [x]) ++ mergeL (xs.drop (i + 1)) (ys.drop (j + 1))) ∧ (0 < cmpS x y → M = (P ++ [y]) ++ mergeL (xs.drop i) (ys.drop (j + 1))) := by
  refine ⟨fun h => ?_, fun h => ?_, fun h => ?_⟩
  · rw [hM, hx, hy, mergeL_lt h, List.append_assoc]; rfl
  · rw [hM, hx, hy, mergeL_eq h, List.append_assoc]; rfl
  · rw [hM, hx, hy, mergeL_gt h, List.append_assoc]; rfl
theorem HoldsT.tail {w : World} {b o m : Nat} {ts : List Tx} (h : HoldsT w (some ⟨b, o, none⟩) (m + 1) ts) : HoldsT w (some ⟨b, o + 1, none⟩) m (ts.drop 1) := by
  have := h.drop 1 (by omega)
  simpa using this
theorem HoldsT.tail' {w : World} {b o q c : Nat} {ts : List Tx} (h : HoldsT w (some ⟨b, o, none⟩) (q + 1) ts) (hc : q + 1 ≤ c) : HoldsT w (if c = 1 then some ⟨b, o, none⟩ else some ⟨b, o + 1, none⟩) q (ts.drop 1) := by
  split
  · obtain rfl : q = 0 := by omega
    have := h.tail
    exact ⟨this.1, fun h => absurd h (by omega)⟩
  · exact h.tail
theorem ite_none {p : Prop} {c : Prop} [Decidable c] (a b : Addr) : ((if c then some a else some b) = none) → p := by split <;> exact fun h => by cases h
def lenV : Value → Nat | .slice _ n _ => n | _ => 0
end Go.Proofs.Ytolggcdlpiedmaa
/- contract of the document's Word -/
namespace Go.Proofs.Ytolggcdlpiedmaa
open Go.RowKit
set_option linter.unusedVariables false
set_option maxRecDepth 20000
end Go.Proofs.Ytolggcdlpiedmaa
/- contract of the document's Good (lists) -/
namespace Go.Proofs.Ytolggcdlpiedmaa
open Go.RowKit
set_option linter.unusedVariables false
set_option maxRecDepth 20000
end Go.Proofs.Ytolggcdlpiedmaa
/- contracts of the document's ways with lists of words -/
namespace Go.Proofs.Ytolggcdlpiedmaa
open Go.RowKit
set_option linter.unusedVariables false
set_option maxRecDepth 20000
theorem putF_len (w : Tx) : ∀ (xs : List Tx) (b : Bool), (putF w b xs).length ≤ xs.length + 1
  | [], b => by cases b <;> simp [putF]
  | x :: xs, true => by rw [putF_true]; simp
  | x :: xs, false => by
    rw [putF, List.length_append, List.length_cons, List.length_cons]
    by_cases h : 0 < cmpS x w
    · rw [if_pos ⟨rfl, h⟩, decide_eq_true (by omega), Bool.or_true, putF_true]; simp; omega
    · rw [if_neg (fun k => h k.2)]
      have := putF_len w xs (false || decide (0 ≤ cmpS x w))
      simp at this ⊢; omega
theorem putS_len (xs : List Tx) (w : Tx) : (putS xs w).length ≤ xs.length + 1 := putF_len w xs false
theorem putF_step (t x : Tx) (r : List Tx) (b b' : Bool) (v : Int) (hv : cmpS x t = v) (h : ¬ (b = false ∧ 0 < v)) (hb : (b || decide (0 ≤ v)) = b') : putF t b (x :: r) = x :: putF t b' r := by
  subst hv hb; rw [putF, if_neg h]; rfl
theorem putF_first (t x : Tx) (r : List Tx) (v : Int) (hv : cmpS x t = v) (h : 0 < v) : putF t false (x :: r) = t :: x :: putF t true r := by
  subst hv; rw [putF, if_pos ⟨rfl, h⟩, decide_eq_true (by omega)]; rfl
/-- a list of texts that was answered -/
def RetH (w : World) (ys : List Tx) (e : Ending) (w' : World) : Prop := ∃ a c, e = .returned (.slice a ys.length c) ∧ HoldsT w' a ys.length ys ∧ (a = none → ys.length = 0 ∧ c = 0) ∧ Below w.heap.size w w'
end Go.Proofs.Ytolggcdlpiedmaa
/- contracts of the document's Sorted, At, Merge, Without -/
namespace Go.Proofs.Ytolggcdlpiedmaa
open Go.RowKit
set_option linter.unusedVariables false
set_option maxRecDepth 20000
theorem ret_holds {w w' : World} {a : Option Addr} {c : Nat} {ys zs : List Tx} (h : ys = zs) (hh : HoldsT w' a ys.length ys) (hnil : a = none → ys.length = 0 ∧ c = 0) (hb : Below w.heap.size w w') (v : Value) (hv : v = .slice a ys.length c) : RetH w zs (.returned v) w' := by
  subst h hv; exact ⟨a, c, rfl, hh, hnil, hb⟩
theorem canon_len (xs : List Tx) : (canonS xs).length ≤ xs.length := by
  have : ∀ (ys acc : List Tx), (ys.foldl putS acc).length ≤ acc.length + ys.length := by
    intro ys
    induction ys with
    | nil => intro acc; simp
    | cons y ys ih => intro acc; have h1 := ih (putS acc y); have h2 := putS_len acc y; simp at h1 ⊢; omega
  simpa [canonS] using this xs []
theorem canon_snoc (xs : List Tx) (x : Tx) : canonS (xs ++ [x]) = putS (canonS xs) x := by simp [canonS, List.foldl_append]
def wordsOf (ts : List Tx) : List Tx := ts.filter fun t => decide (wordP t)
theorem wordsOf_yes (xs : List Tx) (x : Tx) (h : wordP x) : wordsOf (xs ++ [x]) = wordsOf xs ++ [x] := by
  unfold wordsOf; rw [filter_snoc, if_pos (decide_eq_true h)]
theorem wordsOf_no (xs : List Tx) (x : Tx) (h : ¬ wordP x) : wordsOf (xs ++ [x]) = wordsOf xs := by
  unfold wordsOf; rw [filter_snoc, if_neg (by simp [h])]; simp
theorem wordsOf_len (xs : List Tx) : (wordsOf xs).length ≤ xs.length := List.length_filter_le _ _
theorem sz_canon {xs : List Tx} {m : Nat} (h : ∀ t ∈ xs, t.size ≤ m) : ∀ t ∈ canonS xs, t.size ≤ m := fun t ht => h t (mem_canon.1 ht)
theorem sz_words {xs : List Tx} {m : Nat} (h : ∀ t ∈ xs, t.size ≤ m) : ∀ t ∈ wordsOf xs, t.size ≤ m := fun t ht => h t (List.mem_filter.1 ht).1
theorem sz_take {xs : List Tx} {m : Nat} (h : ∀ t ∈ xs, t.size ≤ m) (j : Nat) : ∀ t ∈ xs.take j, t.size ≤ m := fun t ht => h t (List.mem_of_mem_take ht)
theorem atN_snoc (xs : List Tx) (x w : Tx) : atN (xs ++ [x]) w = atN xs w + (if cmpS x w < 0 then 1 else 0) := by
  unfold atN
  rw [List.countP_append]
  by_cases h : cmpS x w < 0 <;> simp [h]
theorem atN_found (xs : List Tx) (j : Nat) (h : j < xs.length) (hs : SortedS xs) : atN xs (xs.getD j ByteArray.empty) = atN (xs.take j) (xs.getD j ByteArray.empty) := by
  have h1 : xs = xs.take j ++ xs.drop j := (List.take_append_drop j xs).symm
  have h2 := drop_cons xs j h
  have hs2 : SortedS (xs.drop j) := List.Pairwise.drop hs
  obtain ⟨x, hx⟩ : ∃ x, xs.getD j ByteArray.empty = x := ⟨_, rfl⟩
  rw [hx] at h2 ⊢
  rw [h2] at hs2
  have h3 := (List.pairwise_cons.1 hs2).1
  conv => lhs; rw [h1, h2]
  unfold atN
  rw [List.countP_append]
  have h4 : (x :: xs.drop (j + 1)).countP (fun y => decide (cmpS y x < 0)) = 0 := by
    rw [List.countP_eq_zero]
    intro y hy
    rcases List.mem_cons.1 hy with e | e
    · rw [e]; simp [cmpS_irrefl]
    · have := cmpS_asymm (h3 y e); simp; omega
  omega
end Go.Proofs.Ytolggcdlpiedmaa
/- contract of list.Without -/
namespace Go.Proofs.Ytolggcdlpiedmaa
open Go.RowKit
set_option linter.unusedVariables false
set_option maxRecDepth 20000
set_option maxHeartbeats 1600000 in
theorem without_any (a : Option Addr) (n cap : Nat) (xs : List Tx) (a1 : Option Addr) (n1 cap1 : Nat) (ys : List Tx) (w : World) (hh : HoldsT w a n xs) (hh1 : HoldsT w a1 n1 ys) (hn : n ≤ 1000) (hn1 : n1 ≤ 1000) (hs : SortedS ys) :
    Calls Try.prog 28 #[.slice a n cap, .slice a1 n1 cap1] w (RetO w (lessOf xs ys)) := by
  obtain ⟨i0, hi, hz0, hz1, hz2⟩ := info_parts str_info
  have hl := hh.len
  go_enter Try.func28, Try.ntmps28
  go_wp2_with fail
  go_loopw [5, 12] (fun ov iv wr => ∃ (j : Nat) (P : List Tx), j ≤ n ∧ P.length ≤ j ∧ iv = .int .i64 j ∧ Hid (P = lessOf (xs.take j) ys) ∧ Hid (wr.ownsRow w.heap.size 9 1 ov P.length (strsV P)) ∧ Hid (Below w.heap.size w wr)) (fun _ iv _ => n - (intOf iv).toNat)
  case atStart => exact ⟨0, [], by omega, by simp, rfl, Lib.hid rfl, Lib.hid (World.ownsRow_nil _ _ _ _), Lib.hid (Below.refl _ _)⟩
  case round =>
    obtain ⟨j, P, hj, hPl, rfl, hP, hO, hB⟩ := hrel
    by_cases hlt : j < n
    · have hcell := hh.at (by omega)
      obtain ⟨bb, o, rfl, hc'⟩ := hcell
      have e0 := hc' j hlt
      have HC := Lib.hid (fun (w3 : World) (hb : Below w.heap.size w w3) => show w3.cell? ⟨bb, o + j, none⟩ = some (.string (xs.getD j ByteArray.empty)) from (hb.cell (p := ⟨bb, o + j, none⟩) (lt_of_cell e0)).trans e0)
      have htk := take_succ_getD xs ByteArray.empty j (by omega)
      obtain ⟨x, hx⟩ : ∃ x, xs.getD j ByteArray.empty = x := ⟨_, rfl⟩
      rw [hx] at htk
      simp only [hx] at HC
      have HT := Lib.hid htk
      clear hx htk hc' e0
      have e1 := HC.out _ hB.out
      have H1 := Lib.hid (hh1.below hB.out)
      obtain ⟨k, hk⟩ : ∃ k, atN ys x = k := ⟨_, rfl⟩
      have HK := Lib.hid hk
      clear hk
      by_cases hin : x ∈ ys
      · have HD := Lib.hid (decide_eq_true hin)
        have hls := lessOf_yes ys (xs.take j) x hin
        rw [← HT.out, ← hP.out] at hls
        have HL := Lib.hid hls
        clear hls hin
        go_wp2_with fail
        refine (at_lit a1 n1 cap1 ys x true k wr H1.out (by omega) hs HD.out HK.out).mono ?_
        rintro e w2 ⟨rfl, rfl⟩
        go_wp2_with fail
        go_roundw
        case rel => exact ⟨j + 1, P, by omega, by omega, by go_num, Lib.hid HL.out.symm, hO, hB⟩
        case measure => simp [intOf]; omega
      · have HD := Lib.hid (decide_eq_false hin)
        have hls := lessOf_no ys (xs.take j) x hin
        rw [← HT.out, ← hP.out] at hls
        have HL := Lib.hid hls
        clear hls hin
        go_wp2_with fail
        refine (at_lit a1 n1 cap1 ys x false k wr H1.out (by omega) hs HD.out HK.out).mono ?_
        rintro e w2 ⟨rfl, rfl⟩
        go_wp2_with (at_builtin; refine wpList_append_any rfl (.tmp 24) (.tmp 26) 22 rfl w.heap.size 9 i0 (.string ⟨#[]⟩) 1 16 Try.underlying22 hi hz0 hz1 hz2 rfl (by decide) _ P.length _ rfl (hO.out.alloc _) _ 1 1 _ rfl (some_none _) rfl (one_new _ _ _ _) (one_str _) (by unfold maxLen; omega) (by omega) (by have := hB.out.size; simp; omega) ?_; intro a3 c3 w3 hown3 hb3 hnil3)
        rw [← strsV_snoc] at hown3
        have O3 := Lib.hid hown3
        have B3 := Lib.hid ((hB.out.alloc hB.out.size _).trans hb3)
        clear hown3 hb3 hnil3
        go_roundw
        case rel => exact ⟨j + 1, P ++ [x], by omega, by simp; omega, by go_num, Lib.hid HL.out.symm, Lib.hid (by have := O3.out; simpa using this), B3⟩
        case measure => simp [intOf]; omega
    · have hjn : xs.take j = xs := List.take_of_length_le (by omega)
      have hP2 := hP.out
      rw [hjn] at hP2
      have HP := Lib.hid hP2
      clear hP hP2 hjn
      obtain ⟨a4, c4, rfl⟩ : ∃ a4 c4, u5 = .slice a4 P.length c4 := by
        rcases hO.out.2 with ⟨h, h0⟩ | ⟨g', c', cur, h, _⟩
        · exact ⟨none, 0, by rw [h, h0]⟩
        · exact ⟨_, c', h⟩
      go_wp2_with fail
      go_ret
      exact ret_own HP.out rfl hO.out hB.out _ rfl
end Go.Proofs.Ytolggcdlpiedmaa
/- a list that was answered, as it reads -/
namespace Go.Proofs.Ytolggcdlpiedmaa
open Go.RowKit
set_option linter.unusedVariables false
set_option maxRecDepth 20000
theorem RetO.holds {w w' : World} {ys : List Tx} {e : Ending} (h : RetO w ys e w') : RetH w ys e w' := by
  obtain ⟨a, c, rfl, h1, h2⟩ := h
  exact ⟨a, c, rfl, HoldsT.own h1, (owns_none h1).1, h2⟩
end Go.Proofs.Ytolggcdlpiedmaa
/- the library's SortFunc, Compact, BinarySearchFunc at this seat -/
namespace Go.Proofs.Ytolggcdlpiedmaa
open Go.Shelf Go.RowKit
def Try.sortT_ren : Go.Shelf.Ren := ⟨fun | 6 => 49 | 15 => 69 | 14 => 74 | 28 => 96 | 29 => 97 | 20 => 100 | 21 => 101 | 22 => 102 | 23 => 103 | 24 => 104 | 25 => 105 | 26 => 106 | 27 => 107 | 46 => 118 | 47 => 114 | 48 => 115 | 49 => 119 | 50 => 120 | 57 => 124 | n => n, fun | 22 => 22 | 24 => 9 | 25 => 80 | 3 => 3 | 39 => 75 | 0 => 0 | 53 => 136 | 55 => 138 | 4 => 4 | 46 => 130 | 45 => 129 | 50 => 76 | 5 => 5 | 9 => 9 | 66 => 151 | 70 => 155 | 76 => 162 | 77 => 163 | n => n, fun | n => n⟩
theorem Try.sortT : Go.Proofs.SlLaysF.n6 Try.prog Try.sortT_ren := {
  mixed := by kernel_rfl
  f6 := ⟨Try.f49.name, by decide, Try.func49.trans (congrArg some (by kernel_rfl))⟩
  f14 := ⟨Try.f74.name, by decide, Try.func74.trans (congrArg some (by kernel_rfl))⟩
  f15 := Try.func69.trans (congrArg some (by kernel_rfl))
  f20 := ⟨Try.f100.name, by decide, Try.func100.trans (congrArg some (by kernel_rfl))⟩
  f21 := ⟨Try.f101.name, by decide, Try.func101.trans (congrArg some (by kernel_rfl))⟩
  f22 := ⟨Try.f102.name, by decide, Try.func102.trans (congrArg some (by kernel_rfl))⟩
  f23 := ⟨Try.f103.name, by decide, Try.func103.trans (congrArg some (by kernel_rfl))⟩
  f24 := ⟨Try.f104.name, by decide, Try.func104.trans (congrArg some (by kernel_rfl))⟩
  f25 := ⟨Try.f105.name, by decide, Try.func105.trans (congrArg some (by kernel_rfl))⟩
  f26 := ⟨Try.f106.name, by decide, Try.func106.trans (congrArg some (by kernel_rfl))⟩
  f27 := ⟨Try.f107.name, by decide, Try.func107.trans (congrArg some (by kernel_rfl))⟩
  f28 := Try.func96.trans (congrArg some (by kernel_rfl))
  f29 := Try.func97.trans (congrArg some (by kernel_rfl))
  f46 := ⟨Try.f118.name, by decide, Try.func118.trans (congrArg some (by kernel_rfl))⟩
  f47 := Try.func114.trans (congrArg some (by kernel_rfl))
  f48 := Try.func115.trans (congrArg some (by kernel_rfl))
  f49 := ⟨Try.f119.name, by decide, Try.func119.trans (congrArg some (by kernel_rfl))⟩
  f50 := ⟨Try.f120.name, by decide, Try.func120.trans (congrArg some (by kernel_rfl))⟩
  f57 := ⟨Try.f124.name, by decide, Try.func124.trans (congrArg some (by kernel_rfl))⟩
  t0 := Try.underlying0
  a0 := Try.isAgg0
  z0 := Try.sizeOf0
  v0 := Try.zeroValue0
  t3 := Try.underlying3
  a3 := Try.isAgg3
  z3 := Try.sizeOf3
  v3 := Try.zeroValue3
  t4 := Try.underlying4
  a4 := Try.isAgg4
  z4 := Try.sizeOf4
  v4 := Try.zeroValue4
  t5 := Try.underlying5
  a5 := Try.isAgg5
  z5 := Try.sizeOf5
  v5 := Try.zeroValue5
  t9 := Try.underlying9
  a9 := Try.isAgg9
  z9 := Try.sizeOf9
  v9 := Try.zeroValue9
  t22 := Try.underlying22
  a22 := Try.isAgg22
  z22 := Try.sizeOf22
  v22 := Try.zeroValue22
  a24 := Try.isAgg9
  z24 := Try.sizeOf9
  t25 := Try.underlying80
  a25 := Try.isAgg80
  z25 := Try.sizeOf80
  v25 := Try.zeroValue80
  t39 := Try.underlying75
  a39 := Try.isAgg75
  z39 := Try.sizeOf75
  v39 := Try.zeroValue75
  t45 := Try.underlying129
  a45 := Try.isAgg129
  z45 := Try.sizeOf129
  v45 := Try.zeroValue129
  t46 := Try.underlying130
  a46 := Try.isAgg130
  z46 := Try.sizeOf130
  v46 := Try.zeroValue130
  t50 := Try.underlying76
  a50 := Try.isAgg76
  z50 := Try.sizeOf76
  v50 := Try.zeroValue76
  t53 := Try.underlying136
  a53 := Try.isAgg136
  z53 := Try.sizeOf136
  v53 := Try.zeroValue136
  t55 := Try.underlying138
  a55 := Try.isAgg138
  z55 := Try.sizeOf138
  v55 := Try.zeroValue138
  t66 := Try.underlying151
  a66 := Try.isAgg151
  z66 := Try.sizeOf151
  v66 := Try.zeroValue151
  t70 := Try.underlying155
  a70 := Try.isAgg155
  z70 := Try.sizeOf155
  v70 := Try.zeroValue155
  t76 := Try.underlying162
  a76 := Try.isAgg162
  z76 := Try.sizeOf162
  v76 := Try.zeroValue162
  t77 := Try.underlying163
  a77 := Try.isAgg163
  z77 := Try.sizeOf163
  v77 := Try.zeroValue163 }
def Try.compactT_ren : Go.Shelf.Ren := ⟨fun | 194 => 50 | n => n, fun | 31 => 22 | 9 => 9 | 3 => 3 | 4 => 4 | 0 => 0 | n => n, fun | n => n⟩
theorem Try.compactT : Go.Proofs.Lays.n194 Try.prog Try.compactT_ren := {
  mixed := by kernel_rfl
  f194 := Try.func50.trans (congrArg some (by kernel_rfl))
  t0 := Try.underlying0
  a0 := Try.isAgg0
  z0 := Try.sizeOf0
  v0 := Try.zeroValue0
  t3 := Try.underlying3
  a3 := Try.isAgg3
  z3 := Try.sizeOf3
  v3 := Try.zeroValue3
  t4 := Try.underlying4
  a4 := Try.isAgg4
  z4 := Try.sizeOf4
  v4 := Try.zeroValue4
  t9 := Try.underlying9
  a9 := Try.isAgg9
  z9 := Try.sizeOf9
  v9 := Try.zeroValue9
  t31 := Try.underlying22
  a31 := Try.isAgg22
  z31 := Try.sizeOf22
  v31 := Try.zeroValue22 }
end Go.Proofs.Ytolggcdlpiedmaa
/- contract of list.Sorted -/
namespace Go.Proofs.Ytolggcdlpiedmaa
open Go.RowKit Go.Shelf Go.Sort Go.Lib
set_option linter.unusedVariables false
set_option maxRecDepth 20000
def bsT (t : Tx) : List UInt8 := t.data.toList
def unT (l : List UInt8) : Tx := ⟨l.toArray⟩
theorem un_bs (t : Tx) : unT (bsT t) = t := by simp [unT, bsT]
theorem bs_un (l : List UInt8) : bsT (unT l) = l := by simp [unT, bsT]
theorem un_inj {x y : List UInt8} (h : unT x = unT y) : x = y := by rw [← bs_un x, h, bs_un]
def cfT (x y : List UInt8) : Int := cmpS (unT x) (unT y)
theorem swoT : SWO (ltOf cfT) := {
  irrefl x := by unfold ltOf cfT; rw [decide_eq_false_iff_not]; exact cmpS_irrefl _
  trans x y z h1 h2 := by unfold ltOf cfT at *; rw [decide_eq_true_iff] at *; exact cmpS_trans h1 h2
  ntrans x y z h1 h2 := by
    unfold ltOf cfT at *
    rw [decide_eq_false_iff_not] at *
    intro h
    rcases cmpS_bd (unT x) (unT y) with e | e | e
    · exact h1 (by omega)
    · rw [cmpS_zero.1 e] at h; exact h2 h
    · have h3 : cmpS (unT y) (unT x) < 0 := by rw [cmpS_swap (unT x)]; omega
      exact h2 (cmpS_trans h3 h) }
theorem totT (x y : List UInt8) (h1 : ltOf cfT x y = false) (h2 : ltOf cfT y x = false) : x = y := by
  unfold ltOf cfT at *
  rw [decide_eq_false_iff_not] at *
  have := cmpS_swap (unT x) (unT y)
  exact un_inj (cmpS_zero.1 (by omega))
theorem strs_enc (ts : List Tx) : strsV ts = (ts.map bsT).map encStr := by
  rw [List.map_map]; unfold strsV
  apply List.map_congr_left
  intro t _
  simp [bsT]
theorem enc_strs (zs : List (List UInt8)) : zs.map encStr = strsV (zs.map unT) := by
  unfold strsV; rw [List.map_map]; rfl
/-! what Compact leaves of a list in order -/
theorem mem_compactUpTo (d : Array (List UInt8)) (m : Nat) (z : List UInt8) : z ∈ compactUpTo d m ↔ ∃ j, j < m ∧ d[j]! = z := by
  induction m with
  | zero => simp [compactUpTo]
  | succ m ih =>
    rw [compactUpTo_succ, List.mem_append, ih]
    by_cases hk : keeps d m
    · rw [if_pos hk]
      constructor
      · rintro (⟨j, h, e⟩ | h)
        · exact ⟨j, by omega, e⟩
        · simp at h; exact ⟨m, by omega, h.symm⟩
      · rintro ⟨j, h, e⟩
        by_cases h2 : j = m
        · subst h2; exact Or.inr (by simp [e])
        · exact Or.inl ⟨j, by omega, e⟩
    · rw [if_neg hk]
      have hm : ¬ (m = 0 ∨ d[m]! ≠ d[m - 1]!) := by simpa [keeps] using hk
      have h1 : m ≠ 0 := fun h => hm (Or.inl h)
      have h2 : d[m]! = d[m - 1]! := Classical.byContradiction fun h => hm (Or.inr h)
      constructor
      · rintro (⟨j, h, e⟩ | h)
        · exact ⟨j, by omega, e⟩
        · simp at h
      · rintro ⟨j, h, e⟩
        by_cases h3 : j = m
        · subst h3; exact Or.inl ⟨j - 1, by omega, by rw [← h2, e]⟩
        · exact Or.inl ⟨j, by omega, e⟩
theorem sorted_compactUpTo (d : Array (List UInt8)) (hw : ∀ i j, i < j → j < d.size → ¬ cfT d[j]! d[i]! < 0) (m : Nat) (hm : m ≤ d.size) : (compactUpTo d m).Pairwise fun x y => cfT x y < 0 := by
  induction m with
  | zero => simp [compactUpTo]
  | succ m ih =>
    rw [compactUpTo_succ]
    by_cases hk : keeps d m
    · rw [if_pos hk, List.pairwise_append]
      refine ⟨ih (by omega), by simp, fun z hz y hy => ?_⟩
      simp at hy
      subst hy
      obtain ⟨j, hj, rfl⟩ := (mem_compactUpTo d m z).1 hz
      have hm2 : m = 0 ∨ d[m]! ≠ d[m - 1]! := by simpa [keeps] using hk
      rcases hm2 with h | h
      · omega
      · have h1 := hw (m - 1) m (by omega) (by omega)
        have h2 : cfT d[m - 1]! d[m]! < 0 := by
          unfold cfT at *
          have := cmpS_swap (unT d[m]!) (unT d[m - 1]!)
          rcases cmpS_bd (unT d[m]!) (unT d[m - 1]!) with e | e | e
          · omega
          · exact absurd (un_inj (cmpS_zero.1 e)) h
          · omega
        by_cases h3 : j = m - 1
        · subst h3; exact h2
        · have h4 := hw j (m - 1) (by omega) (by omega)
          unfold cfT at *
          have := cmpS_swap (unT d[m - 1]!) (unT d[j]!)
          rcases cmpS_bd (unT d[m - 1]!) (unT d[j]!) with e | e | e
          · omega
          · rw [← cmpS_zero.1 e]; exact h2
          · exact cmpS_trans (by omega) h2
    · rw [if_neg hk]; simpa using ih (by omega)
theorem compact_canon (ts : List Tx) : ((Lib.compact ((ts.map bsT).mergeSort fun x y => !(ltOf cfT) y x)).map unT) = canonS ts := by
  obtain ⟨zs, hz⟩ : ∃ zs, ((ts.map bsT).mergeSort fun x y => !(ltOf cfT) y x) = zs := ⟨_, rfl⟩
  have hp : zs.Perm (ts.map bsT) := by rw [← hz]; exact List.mergeSort_perm _ _
  have hs : zs.Pairwise fun x y => (!(ltOf cfT) y x) = true := by
    rw [← hz]
    refine List.pairwise_mergeSort (fun a b c h1 h2 => ?_) (fun a b => ?_) _
    · simp only [Bool.not_eq_true'] at *; exact swoT.ntrans _ _ _ h2 h1
    · cases h : ltOf cfT b a with
      | false => simp
      | true =>
        have := (swoT.irrefl a)
        cases h2 : ltOf cfT a b with
        | false => simp
        | true => rw [swoT.trans _ _ _ h2 h] at this; cases this
  rw [hz]
  have hw : ∀ i j, i < j → j < zs.toArray.size → ¬ cfT zs.toArray[j]! zs.toArray[i]! < 0 := by
    intro i j hij hj
    have hj' : j < zs.length := by simpa using hj
    have h1 := List.pairwise_iff_getElem.1 hs i j (by omega) hj' hij
    rw [getElem!_pos zs.toArray j hj, getElem!_pos zs.toArray i (by simp; omega)]
    simpa [ltOf] using h1
  refine canon_of ?_ fun z => ?_
  · have := sorted_compactUpTo zs.toArray hw zs.length (by simp)
    exact List.pairwise_map.2 this
  · rw [List.mem_map]
    constructor
    · rintro ⟨x, hx, rfl⟩
      obtain ⟨j, hj, rfl⟩ := (mem_compactUpTo _ _ _).1 hx
      have h1 : zs.toArray[j]! ∈ zs := by rw [getElem!_pos zs.toArray j (by simpa using hj)]; simp
      obtain ⟨t, ht, e⟩ := List.mem_map.1 (hp.mem_iff.1 h1)
      rw [← e, un_bs]; exact ht
    · intro hz2
      have h1 : bsT z ∈ zs := hp.mem_iff.2 (List.mem_map_of_mem hz2)
      obtain ⟨j, hj, e⟩ := List.getElem_of_mem h1
      exact ⟨bsT z, (mem_compactUpTo _ _ _).2 ⟨j, hj, by rw [getElem!_pos zs.toArray j (by simpa using hj)]; simpa using e⟩, un_bs z⟩
theorem cmp_lays (blk off size : Nat) (w : World) : CmpLays1 Try.prog 47 #[] encStr cfT blk off size w := by
  intro m os dk hs x y
  refine (compare_any (unT x) (unT y) _).mono ?_
  rintro e w' ⟨rfl, rfl⟩
  exact ⟨rfl, 0, #[], by rw [grow_empty]; rfl⟩
set_option maxHeartbeats 1000000 in
theorem sort_some (g n cap B : Nat) (ts : List Tx) (w : World) (hown : w.ownsRow B 9 1 (.slice (some ⟨g, 0, none⟩) n cap) n (strsV ts)) (hn : n ≤ 1048576) :
    Calls Try.prog 49 #[.slice (some ⟨g, 0, none⟩) n cap, .func (.func 47) #[] #[]] w fun e w' => e = .returned (.tuple #[]) ∧ w'.ownsRow B 9 1 (.slice (some ⟨g, 0, none⟩) n cap) n (((ts.map bsT).mergeSort fun x y => !(ltOf cfT) y x).map encStr) ∧ (∀ b w0, B = b → Below b w0 w → Below b w0 w') := by
  have eg : ∀ args w, (callFunc 47 args).run Try.prog w = .ok (.enter 47 args) w := enters_of Try.func47 (by kernel_rfl) rfl
  rw [strs_enc] at hown
  rcases hown.2 with ⟨h0, _⟩ | ⟨g', cap', cur, hv, hbase, hb, h1, h2, h3, h4⟩
  · cases h0
  cases hv
  have hl : (ts.map bsT).length = n := by simpa using hown.1
  subst hl
  rw [Nat.mul_one] at h4
  have hH := holds_of_block hb h4
  have hS := Any.slices_SortFunc_total Try.sortT encStr (fun _ => rfl) cfT swoT 47 #[] g 0 cap (ts.map bsT).toArray w eg (cmp_lays g 0 _ w) hH (Array.getElem?_eq_some_iff.1 hb).1 (by simp at hn ⊢; omega) totT
  change Calls Try.prog 49 _ _ _ at hS
  simp only [List.size_toArray] at hS
  refine hS.mono ?_
  rintro e w' ⟨rfl, q, os, rfl⟩
  have hl2 : ((ts.map bsT).mergeSort fun x y => !(ltOf cfT) y x).length = (ts.map bsT).length := List.length_mergeSort _
  refine ⟨rfl, ownsRow_sorted (n := q) (os := os) hl2 hbase hb h1 h2 h3, ?_⟩
  rintro b w0 rfl hbel
  exact hbel.grown (grownBy_sorted _) (by have := (Array.getElem?_eq_some_iff.1 hb).1; omega) fun j hj => by cases hj; exact hbase
set_option maxHeartbeats 1000000 in
theorem compact_some (g n cap B : Nat) (zs : List (List UInt8)) (w : World) (hown : w.ownsRow B 9 1 (.slice (some ⟨g, 0, none⟩) n cap) n (zs.map encStr)) (hn : n ≤ 1048576) :
    Calls Try.prog 50 #[.slice (some ⟨g, 0, none⟩) n cap] w fun e w' => e = .returned (.slice (some ⟨g, 0, none⟩) (Lib.compact zs).length cap) ∧ w'.ownsRow B 9 1 (.slice (some ⟨g, 0, none⟩) (Lib.compact zs).length cap) (Lib.compact zs).length (strsV ((Lib.compact zs).map unT)) ∧ (∀ b w0, B = b → Below b w0 w → Below b w0 w') := by
  rcases hown.2 with ⟨h0, _⟩ | ⟨g', cap', cur, hv, hbase, hb, h1, h2, h3, h4⟩
  · cases h0
  cases hv
  have hl : zs.length = n := by simpa using hown.1
  subst hl
  rw [Nat.mul_one] at h4
  have hH := holds_of_block hb h4
  have hle := Lib.compact_length_le zs
  have hS := Any.slices_Compact_string Try.compactT g 0 cap zs w hH (by omega) h1
  change Calls Try.prog 50 _ _ _ at hS
  refine hS.mono ?_
  rintro e w' ⟨rfl, q, rfl⟩
  have hc := Lib.ownsRow_putRow (q := q) (k := (Lib.compact zs).length) (ys := Lib.compact zs ++ List.replicate (zs.length - (Lib.compact zs).length) []) hown (by simp; omega) (by omega)
  rw [List.take_left, enc_strs] at hc
  refine ⟨rfl, hc, ?_⟩
  rintro b w0 rfl hbel
  exact Lib.below_putRow hbel hbase
theorem sort_none (w : World) : Calls Try.prog 49 #[.slice none 0 0, .func (.func 47) #[] #[]] w fun e w' => e = .returned (.tuple #[]) ∧ w = w' := by
  have hS := AnyF.slices_SortFunc_none (P := Try.prog) (ρ := Try.sortT_ren) { Try.sortT with } none 0 (.func (.func 47) #[] #[]) w
  change Calls Try.prog 49 _ _ _ at hS
  refine hS.mono ?_
  rintro e w' ⟨rfl, rfl⟩
  exact ⟨rfl, rfl⟩
theorem compact_none (w : World) : Calls Try.prog 50 #[.slice none 0 0] w fun e w' => e = .returned (.slice none 0 0) ∧ w = w' := by
  have hS := Any.slices_Compact_string_empty Try.compactT none 0 w
  change Calls Try.prog 50 _ _ _ at hS
  refine hS.mono ?_
  rintro e w' ⟨rfl, rfl⟩
  exact ⟨rfl, rfl⟩
end Go.Proofs.Ytolggcdlpiedmaa
/- contract of list.Sorted: the walk -/
namespace Go.Proofs.Ytolggcdlpiedmaa
open Go.RowKit
set_option linter.unusedVariables false
set_option maxRecDepth 20000
set_option maxHeartbeats 1600000 in
theorem sorted_any (a : Option Addr) (n cap : Nat) (ts : List Tx) (w : World) (hh : HoldsT w a n ts) (hcap : n ≤ cap) (hn : n ≤ 1000) (hsz : ∀ t ∈ ts, t.size ≤ 9223372036854775807) :
    Calls Try.prog 31 #[.slice a n cap] w (RetO w (canonS (wordsOf ts))) := by
  obtain ⟨i0, hi, hz0, hz1, hz2⟩ := info_parts str_info
  have hl := hh.len
  have hmin : min (n : Int) 1000 = (n : Int) := by omega
  go_enter Try.func31, Try.ntmps31
  go_wp2_with fail
  go_loopw [3, 13] (fun ov iv wr => ∃ (j : Nat) (P : List Tx), j ≤ n ∧ P.length ≤ j ∧ iv = .int .i64 j ∧ Hid (P = wordsOf (ts.take j)) ∧ Hid (wr.ownsRow w.heap.size 9 1 ov P.length (strsV P)) ∧ Hid (Below w.heap.size w wr)) (fun _ iv _ => n - (intOf iv).toNat)
  case atStart => exact ⟨0, [], by omega, by simp, rfl, Lib.hid rfl, Lib.hid (World.ownsRow_nil _ _ _ _), Lib.hid (Below.refl _ _)⟩
  case round =>
    obtain ⟨j, P, hj, hPl, rfl, hP, hO, hB⟩ := hrel
    by_cases hlt : j < n
    · have hcell := hh.at (by omega)
      obtain ⟨bb, o, rfl, hc'⟩ := hcell
      have e0 := hc' j hlt
      have HC := Lib.hid (fun (w3 : World) (hb : Below w.heap.size w w3) => show w3.cell? ⟨bb, o + j, none⟩ = some (.string (ts.getD j ByteArray.empty)) from (hb.cell (p := ⟨bb, o + j, none⟩) (lt_of_cell e0)).trans e0)
      have hmem := getD_memT ts j (by omega)
      have htk := take_succ_getD ts ByteArray.empty j (by omega)
      obtain ⟨x, hx⟩ : ∃ x, ts.getD j ByteArray.empty = x := ⟨_, rfl⟩
      rw [hx] at hmem htk
      simp only [hx] at HC
      have HX := Lib.hid (hsz x hmem); have HT := Lib.hid htk
      clear hx hmem htk hc' e0
      have e1 := HC.out _ hB.out
      by_cases hw : wordP x
      · have HD := Lib.hid (decide_eq_true hw)
        have hws := wordsOf_yes (ts.take j) x hw
        rw [← HT.out, ← hP.out] at hws
        have HW := Lib.hid hws
        clear hws hw
        go_wp2_with fail
        refine (word_bool x true HX.out HD.out).mono ?_
        rintro e w2 ⟨rfl, hb2⟩
        have O2 := Lib.hid (owns_below hO.out hb2)
        have B2 := Lib.hid (hB.out.trans (hb2.mono hB.out.size))
        clear hb2 e1 hO hB
        go_wp2_with (at_builtin; refine wpList_append_any rfl (.tmp 19) (.tmp 21) 22 rfl w.heap.size 9 i0 (.string ⟨#[]⟩) 1 16 Try.underlying22 hi hz0 hz1 hz2 rfl (by decide) _ P.length _ rfl (O2.out.alloc _) _ 1 1 _ rfl (some_none _) rfl (one_new _ _ _ _) (one_str _) (by unfold maxLen; omega) (by omega) (by have := B2.out.size; simp; omega) ?_; intro a3 c3 w3 hown3 hb3 hnil3)
        rw [← strsV_snoc] at hown3
        have O3 := Lib.hid hown3
        have B3 := Lib.hid ((B2.out.alloc B2.out.size _).trans hb3)
        clear hown3 hb3 hnil3
        go_roundw
        case rel => exact ⟨j + 1, P ++ [x], by omega, by simp; omega, by go_num, Lib.hid HW.out.symm, Lib.hid (by have := O3.out; simpa using this), B3⟩
        case measure => simp [intOf]; omega
      · have HD := Lib.hid (decide_eq_false hw)
        have hws := wordsOf_no (ts.take j) x hw
        rw [← HT.out, ← hP.out] at hws
        have HW := Lib.hid hws
        clear hws hw
        go_wp2_with fail
        refine (word_bool x false HX.out HD.out).mono ?_
        rintro e w2 ⟨rfl, hb2⟩
        have O2 := Lib.hid (owns_below hO.out hb2)
        have B2 := Lib.hid (hB.out.trans (hb2.mono hB.out.size))
        clear hb2 e1 hO hB
        go_wp2_with fail
        go_roundw
        case rel => exact ⟨j + 1, P, by omega, by omega, by go_num, Lib.hid HW.out.symm, O2, B2⟩
        case measure => simp [intOf]; omega
    · have hjn : ts.take j = ts := List.take_of_length_le (by omega)
      have hP2 := hP.out
      rw [hjn] at hP2
      have hC := compact_canon P
      rw [hP2] at hC
      rw [← hP2] at hC
      have HP := Lib.hid hP2
      have HCC := Lib.hid (compact_canon P)
      have hPn : P.length ≤ 1048576 := by omega
      clear hP hP2 hjn hC
      rcases hO.out.2 with ⟨h, h0⟩ | ⟨g', c', cur, h, _⟩
      · subst h
        obtain rfl : P = [] := List.eq_nil_of_length_eq_zero h0
        go_wp2_with fail
        refine (sort_none _).mono ?_
        rintro e w2 ⟨rfl, rfl⟩
        go_wp2_with fail
        refine (compact_none _).mono ?_
        rintro e w3 ⟨rfl, rfl⟩
        go_wp2_with fail
        go_ret
        exact ret_own (by rw [← HP.out]) rfl (World.ownsRow_nil _ _ _ _) hB.out _ rfl
      · subst h
        have hS := Lib.hid (sort_some g' P.length c' w.heap.size P wr hO.out hPn)
        obtain ⟨zs, hzs⟩ : ∃ zs, ((P.map bsT).mergeSort fun x y => !(Go.Proofs.ltOf cfT) y x) = zs := ⟨_, rfl⟩
        rw [hzs] at hS HCC
        clear hzs
        go_wp2_with fail
        refine hS.out.mono ?_
        rintro e w2 ⟨rfl, o2, b2⟩
        have B2 := Lib.hid (b2 _ _ rfl hB.out)
        have hK := Lib.hid (compact_some g' P.length c' w.heap.size zs w2 o2 hPn)
        obtain ⟨k, hk⟩ : ∃ k, (Lib.compact zs).length = k := ⟨_, rfl⟩
        rw [hk] at hK
        rw [HP.out] at HCC
        have HK := Lib.hid hk
        clear hk o2 b2
        go_wp2_with fail
        refine hK.out.mono ?_
        rintro e w3 ⟨rfl, o3, b3⟩
        have B3 := Lib.hid (b3 _ _ rfl B2.out)
        have O3 := Lib.hid o3
        clear o3 b3
        go_wp2_with fail
        go_ret
        exact ret_own HCC.out (by rw [List.length_map, HK.out]) O3.out B3.out _ rfl
end Go.Proofs.Ytolggcdlpiedmaa
/- lists in one word -/
namespace Go.Proofs.Ytolggcdlpiedmaa
open Go.RowKit
set_option linter.unusedVariables false
set_option maxRecDepth 20000
def Lst (w : World) (a : Option Addr) (n c : Nat) (ts : List Tx) : Prop := HoldsT w a n ts ∧ (a = none → n = 0 ∧ c = 0) ∧ n ≤ c
theorem Lst.below {w w' : World} {a : Option Addr} {n c : Nat} {ts : List Tx} (h : Lst w a n c ts) (hb : Below w.heap.size w w') : Lst w' a n c ts := ⟨h.1.below hb, h.2⟩
theorem Lst.own {w : World} {B : Nat} {a : Option Addr} {n c : Nat} {ts : List Tx} (h : w.ownsRow B 9 1 (.slice a n c) n (strsV ts)) : Lst w a n c ts := ⟨HoldsT.own h, owns_none h⟩
theorem great_lit (a : Option Addr) (n cap : Nat) (ts : List Tx) (b : Bool) (w : World) (hh : HoldsT w a n ts) (hn : n ≤ 9223372036854775807) (hsz : ∀ t ∈ ts, t.size ≤ 9223372036854775807) (hb : greatB ts = b) :
    Calls Try.prog 26 #[.slice a n cap] w fun e w' => e = .returned (.bool b) ∧ Below w.heap.size w w' := by subst hb; exact great_any a n cap ts w hh hn hsz
theorem good_lit (a : Option Addr) (n cap : Nat) (ts : List Tx) (v : Int) (w : World) (hh : HoldsT w a n ts) (hn : n ≤ 9223372036854775807) (hsz : ∀ t ∈ ts, t.size ≤ 9223372036854775807) (hv : goodV ts = v) :
    Calls Try.prog 27 #[.slice a n cap] w fun e w' => e = .returned (.int .i64 v) ∧ Below w.heap.size w w' := by subst hv; exact good_any' a n cap ts w hh hn hsz
theorem without_lst (a : Option Addr) (n c : Nat) (xs : List Tx) (a1 : Option Addr) (n1 c1 : Nat) (ys zs : List Tx) (k : Nat) (w : World) (h : Lst w a n c xs) (h1 : Lst w a1 n1 c1 ys) (hn : n ≤ 1000) (hn1 : n1 ≤ 1000) (hs : SortedS ys) (hz : lessOf xs ys = zs) (hk : zs.length = k) :
    Calls Try.prog 28 #[.slice a n c, .slice a1 n1 c1] w fun e w' => ∃ a' c', e = .returned (.slice a' k c') ∧ w'.ownsRow w.heap.size 9 1 (.slice a' k c') k (strsV zs) ∧ Below w.heap.size w w' := by
  subst hz hk
  exact (without_any a n c xs a1 n1 c1 ys w h.1 h1.1 hn hn1 hs).mono fun _ _ ⟨a', c', h1, h2, h3⟩ => ⟨a', c', h1, h2, h3⟩
theorem holdsT_lit (w : World) (ts : List Tx) (e : TypeId) (fr : Nat × Nat) : HoldsT (w.alloc (.cells (strsV ts).toArray e fr)) (some ⟨w.heap.size, 0, none⟩) ts.length ts := by
  refine ⟨by simp [strsV], fun _ => ⟨w.heap.size, 0, rfl, fun i hi => ?_⟩⟩
  rw [Nat.zero_add, World.cell?_alloc_mark]
  simp [strsV, List.getD_eq_getElem?_getD, hi]
end Go.Proofs.Ytolggcdlpiedmaa
/- lists in one word; awake of the laws of lists -/
namespace Go.Proofs.Ytolggcdlpiedmaa
open Go.RowKit
set_option linter.unusedVariables false
set_option maxRecDepth 20000
theorem sorted_lst (a : Option Addr) (n c : Nat) (ts zs : List Tx) (k : Nat) (w : World) (h : Lst w a n c ts) (hn : n ≤ 1000) (hsz : ∀ t ∈ ts, t.size ≤ 9223372036854775807) (hz : canonS (wordsOf ts) = zs) (hk : zs.length = k) :
    Calls Try.prog 31 #[.slice a n c] w fun e w' => ∃ a' c', e = .returned (.slice a' k c') ∧ w'.ownsRow w.heap.size 9 1 (.slice a' k c') k (strsV zs) ∧ Below w.heap.size w w' := by
  subst hz hk
  exact (sorted_any a n c ts w h.1 h.2.2 hn hsz).mono fun _ _ ⟨a', c', h1, h2, h3⟩ => ⟨a', c', h1, h2, h3⟩
abbrev tA : Tx := { data := #[97] }
abbrev tB : Tx := { data := #[98] }
abbrev tC : Tx := { data := #[99] }
abbrev tE : Tx := { data := #[] }
theorem cmpS_data (a b : Tx) : cmpS a b = cmpL a.data.toList b.data.toList := by unfold cmpS; rw [ByteArray.toList_eq, ByteArray.toList_eq]
theorem lit_ab : cmpS tA tB = -1 := by rw [cmpS_data]; decide
theorem lit_ba : cmpS tB tA = 1 := by rw [cmpS_data]; decide
theorem lit_ac : cmpS tA tC = -1 := by rw [cmpS_data]; decide
theorem lit_cb : cmpS tC tB = 1 := by rw [cmpS_data]; decide
theorem lit_sorted_ac : SortedS [tA, tC] := by simp [SortedS, lit_ac]
theorem lit_sorted_ab : SortedS [tA, tB] := by simp [SortedS, lit_ab]
theorem lit_at : atN [tA, tC] tB = 1 := by simp [atN, lit_ab, lit_cb]
theorem lit_in : decide (tB ∈ [tA, tC]) = false := by decide
theorem lit_good : goodV [tB, tA] = 7 := by
  refine goodV_sort (by decide) (by decide) ?_
  simp [SortedS, lit_ba]
theorem lit_words : wordsOf [tB, tE, tA, tB] = [tB, tA, tB] := by decide
theorem lit_canon : canonS (wordsOf [tB, tE, tA, tB]) = [tA, tB] := by
  rw [lit_words]
  refine (canon_of lit_sorted_ab fun z => ?_).symm
  simp only [List.mem_cons, List.not_mem_nil, or_false]
  constructor
  · rintro (h | h) <;> simp [h]
  · rintro (h | h | h) <;> simp [h]
end Go.Proofs.Ytolggcdlpiedmaa
