/- texts joined -/
import Derived.Test.YtolggcdlpiedmaaPkD
import Derived.ArgAppend
import Derived.Test.YtolggcdlpiedmaaPkB
import Derived.Test.YtolggcdlpiedmaaPkA
import Derived.Test.YtolggcdlpiedmaaPkC
import Derived.Test.YtolggcdlpiedmaaChecked
import Derived.WalkLawsBesides
import Derived.WalkSpells
import Derived.Outline
/- walk: a slice without room written over; the document's Dists -/
namespace Go.Proofs.Ytolggcdlpiedmaa
open Go.RowKit
set_option linter.unusedVariables false
set_option maxRecDepth 20000
set_option maxHeartbeats 1600000 in
theorem overCut_any (B : Nat) (a : Option Addr) (n : Nat) (ys : List KV) (w : World) (h : CutI w B a n ys) (hna : a = none → n = 0) (hB : B ≤ w.heap.size) (hn : n ≤ 100000) :
    Calls Try.prog 18 #[.slice a n n] w fun e w' => e = .returned (.tuple #[]) ∧ Below B w w' ∧ w.grownBy w' (Value.slice a n n).ownBlock := by
  obtain ⟨i0, hi, hz0, hz1, hz2⟩ := info_parts item_info
  obtain ⟨hyl, m, c, zs, ho, hnm, hzs⟩ := h
  have H := Lib.hid ho
  clear ho hyl hzs
  go_enter Try.func18, Try.ntmps18
  go_wp2_with fail
  go_loopw [2] (fun i wr => ∃ (k : Nat) (ys : List Value), k ≤ n ∧ i = .int .i64 k ∧ Hid (wr.ownsRow B 24 2 (.slice a m c) m ys) ∧ Hid (Below B w wr) ∧ Hid (w.grownBy wr (Value.slice a n n).ownBlock)) (fun i _ => n - (intOf i).toNat)
  case atStart => exact ⟨0, keysV zs, by omega, rfl, H, Below.refl _ _, Lib.hid ⟨rfl, rfl, rfl, Nat.le_refl _, fun _ _ _ => rfl⟩⟩
  case round =>
    obtain ⟨k, ys, hk, rfl, hO, hBw, hGr⟩ := hrel
    by_cases hlt : k < n
    · obtain ⟨g, rfl⟩ : ∃ g, a = some ⟨g, 0, none⟩ := by
        obtain ⟨g, cap', hv⟩ := Joins.ownsRow_form hO.out (by omega)
        simp only [Value.slice.injEq] at hv
        exact ⟨g, hv.1⟩
      have hyl : ys.length = m * 2 := hO.out.1
      have hc := hO.out.cellAt (k * 2) (by omega)
      have hc1 := hO.out.cellAt (k * 2 + 1) (by omega)
      rw [List.getElem?_eq_getElem (by omega)] at hc hc1
      obtain ⟨y, hy⟩ : ∃ y, ys[k * 2] = y := ⟨_, rfl⟩
      obtain ⟨z, hz⟩ : ∃ z, ys[k * 2 + 1] = z := ⟨_, rfl⟩
      rw [hy] at hc; rw [hz] at hc1
      clear hy hyl hz
      have hf := hO.out.frozenAt (k * 2)
      have hf1 := hO.out.frozenAt (k * 2 + 1)
      have O2 := Lib.hid (((hO.out.stored (k * 2) (.int .i64 (-9))).1.stored (k * 2 + 1) (.string ⟨#[]⟩)).1)
      have B2 := Lib.hid ((hBw.out.setCell (p := ⟨g, k * 2, none⟩) (hO.out.lt g rfl).1 (.int .i64 (-9))).setCell (p := ⟨g, k * 2 + 1, none⟩) (hO.out.lt g rfl).1 (.string ⟨#[]⟩))
      have G2 := Lib.hid (grown_set (grown_set hGr.out (k * 2) (.int .i64 (-9))) (k * 2 + 1) (.string ⟨#[]⟩))
      clear hO hBw hGr
      go_wp2_with fail
      go_roundw
      case rel => exact ⟨k + 1, _, by omega, by go_num, O2, B2, G2⟩
      case measure => simp [intOf]; omega
    · have hs := hBw.out.size
      obtain rfl : k = n := by omega
      obtain ⟨olds, holds⟩ : ∃ o, ys.take (k * 2) = o := ⟨_, rfl⟩
      have hlo : olds.length = k * 2 := by rw [← holds, List.length_take]; have := hO.out.1; omega
      have HC := Lib.hid (show ∀ w3, Below wr.heap.size wr w3 → ∀ b, a = some b → ∀ j u, olds[j]? = some u → w3.cell? (b.add j) = some u from fun w3 hw3 b hb j u hj => by
        have hjl := (List.getElem?_eq_some_iff.1 hj).1
        obtain ⟨g, cap', hv⟩ := Joins.ownsRow_form hO.out (by omega)
        simp only [Value.slice.injEq] at hv
        rw [hv.1] at hb; cases hb
        have h2 : wr.ownsRow B 24 2 (.slice (some ⟨g, 0, none⟩) m c) m ys := by rw [← hv.1]; exact hO.out
        have h3 := h2.cellAt j (by omega)
        have h4 : wr.cell? ⟨g, j, none⟩ = some u := by rw [h3, ← hj, ← holds, List.getElem?_take_of_lt (by omega)]
        rw [Go.WideShapes.add_plain, Nat.zero_add]
        exact (hw3.cell (p := ⟨g, j, none⟩) (lt_of_cell h4)).trans h4)
      have HB2 := Lib.hid (Below.refl w.heap.size w)
      go_wp2_with (at_builtin; go_loud (refine wpList_append_grows _ rfl (.tmp 13) (.tmp 15) 31 rfl 24 i0 _ 2 24 Try.underlying31 hi hz0 hz1 hz2 rfl (by decide) a k k olds rfl (fun h => ⟨hna h, hna h⟩) hlo (HC.out _ (below_one wr _)) ⟨wr.heap.size, 0, none⟩ 1 1 [.int .i64 (-9), .string ⟨#[]⟩] rfl rfl (two_new _ _ _ _ _ _ rfl) (two_one _ _) (by omega) (by unfold maxLen; omega) (by omega) ?_); intro v3 w3 hown3 hg3)
      go_end0
      refine ⟨rfl, hBw.out.trans ((((Below.refl _ wr).alloc (by omega) _)).grown hg3 (by simp; omega) fun k hk => by cases hk), ?_⟩
      have hsz := hGr.out.size
      refine ⟨hg3.os.trans hGr.out.os, hg3.tape.trans hGr.out.tape, hg3.output.trans hGr.out.output, ?_, fun b hb hne => ?_⟩
      · have := hg3.size; simp at this; omega
      · rw [hg3.block b (by simp; omega) (by simp), Below.heap_alloc _ _ _ (by omega)]
        exact hGr.out.block b hb hne
set_option maxHeartbeats 1600000 in
theorem rdists_any (a : Option Addr) (n cap : Nat) (ts : List Tx) (s : Tx) (d : Int) (ys : List Tx) (w : World) (hh : HoldsT w a n ts) (hn : n ≤ 100) (hl : ∀ t ∈ ts, t.size ≤ 1048576) (hs : s.size ≤ 1048576) (hy : distsL (sortK (matchK ts s d)) d = ys) :
    Calls Try.prog 21 #[.slice a n cap, .string s, .int .i64 d] w (RetTx w ys) := by
  obtain ⟨i0, hi, hz0, hz1, hz2⟩ := info_parts strW_info
  have CA := Lib.hid (fun w => rasked_any s w hs)
  have HY := Lib.hid hy
  by_cases hc : (0 ≤ lenS s ∧ lenS s ≤ 16) ∧ 0 ≤ d ∧ d ≤ 4
  · obtain ⟨ha, hk0, hk4⟩ := hc
    have HAL := Lib.hid (show sortK (matchK ts s d) = allK ts s d from by unfold matchK allK; rw [if_pos ⟨ha, hk0, hk4⟩])
    obtain ⟨M, hL⟩ : ∃ L, allK ts s d = L := ⟨_, rfl⟩
    have hM : M.length ≤ 100 := by rw [← hL]; have := allK_len ts s d; have := hh.len; omega
    have CAll := Lib.hid (fun w' (h : Below w.heap.size w w') => rall_any a n cap ts s d w' (hh.below h) (by omega) hl hs)
    rw [hL] at CAll HAL
    have hca : decide (0 ≤ lenS s ∧ lenS s ≤ 16) = true := decide_eq_true ha
    rw [hca] at CA
    have hk1 : ¬ d < 0 := by omega
    have hk2 : ¬ 4 < d := by omega
    clear hy hL hca ha hk0 hk4 hh
    go_enter Try.func21, Try.ntmps21
    go_wp2_with fail
    refine (CA.out _).mono ?_
    rintro e w0 ⟨rfl, hb0⟩
    have B0 := Lib.hid hb0
    clear hb0
    go_wp2_with fail
    refine (CAll.out _ B0.out).mono ?_
    rintro e w1 ⟨a1, c1, rfl, o1, hb1⟩
    obtain ⟨m, hm⟩ : ∃ m, M.length = m := ⟨_, rfl⟩
    rw [hm] at o1 hM ⊢
    have H1 := Lib.hid (HoldsK.own o1)
    have F1 := Lib.hid ((((FS.start w).more B0.out).more hb1).keep (L := fun q => ∃ fo, a1 = some ⟨q, fo, none⟩) (fun q e => by cases e) (fun q e => (own_blockG o1 e.choose_spec).2))
    have HM := Lib.hid hm
    clear o1 hb1 CA CAll hm B0
    go_wp2_with fail
    go_loopw [7, 9] (fun ov iv wr => ∃ (j : Nat) (oa : Option Addr) (oc on : Nat) (out : List Tx), j ≤ m ∧ iv = .int .i64 j ∧ ov = .slice oa on oc ∧ Hid (out.length = on) ∧ Hid (out = distsL (M.take j) d) ∧ Hid (FS w.heap.size w (fun q => False ∨ ∃ fo, a1 = some ⟨q, fo, none⟩) oa oc out wr) ∧ Hid (HoldsK wr a1 m M)) (fun _ iv _ => m - (intOf iv).toNat)
    case atStart => exact ⟨0, none, 0, 0, [], by omega, rfl, rfl, Lib.hid rfl, Lib.hid rfl, F1, H1⟩
    case round =>
      obtain ⟨j, oa, oc, on, out, hj, rfl, rfl, hon, hO, hF, hH⟩ := hrel
      by_cases hlt : j < m
      · obtain ⟨b, o, rfl, hc⟩ := hH.out.at (by omega)
        obtain ⟨x0, x1⟩ := hc j hlt
        have htk := take_succ_getD M k0 j (by have := HM.out; omega)
        obtain ⟨x, hx⟩ : ∃ x, M.getD j k0 = x := ⟨_, rfl⟩
        rw [hx] at x0 x1 htk
        have n1 : (0 : Int) ≤ (j : Int) := by omega
        have n2 : (j : Int) < (m : Int) := by omega
        have hol : out.length ≤ 100 := by have h1 := distsL_len (M.take j) d; rw [← hO.out, List.length_take] at h1; omega
        by_cases hd : x.1 = d
        · rw [hd] at x0
          have HO2 := Lib.hid (show out ++ [x.2] = distsL (M.take (j + 1)) d from by rw [htk, distsL_snoc, if_pos hd, hO.out])
          have hon9 := hon.out
          subst hon9
          have bl := hF.out.bl
          have FO := Lib.hid (hF.out.o.alloc (.cells #[.string x.2] 9))
          clear hx htk hc hd
          go_wp2_with (at_builtin; refine wpList_append_lies _ rfl (.tmp 38) (.tmp 44) 22 rfl w.heap.size 9 i0 _ 1 16 Try.underlying22 hi hz0 hz1 hz2 rfl (by omega) (.slice oa out.length oc) out.length (strsV out) (by rfl) FO.out ⟨wr.heap.size, 0, none⟩ 1 1 [.string x.2] (by rfl) (by rfl) (World.news_of_block (cs := #[.string x.2]) (t := 9) (fr := (0, 0)) (heap_alloc_new wr _)) (by simp [Value.oneCell']) (by omega) (by unfold maxLen; omega) (by omega) (by simp; omega) (wr.heap.size + 1) (by simp) ?_; intro g3 c3' w3 hown3 hgrow3 hat3 hlt3; have GR := Lib.hid (hF.out.grow hown3 hgrow3 (hat3.imp id (fun e => by simp; exact e))); clear hown3 hgrow3 hat3 hlt3)
          go_roundw
          case rel => exact ⟨j + 1, some ⟨g3, 0, none⟩, c3', out.length + 1, out ++ [x.2], by omega, by go_num, rfl, Lib.hid (by simp), HO2, Lib.hid GR.out.1, Lib.hid (holdsK_blocks hH.out (fun fb fo _ e => GR.out.2.block fb (hF.out.kl fb (.inr ⟨fo, e⟩)) (fun e2 => hF.out.no fb e2 (.inr ⟨fo, e⟩))))⟩
          case measure => simp [intOf] <;> omega
        · have hd1 : (x.1 == d) = false := by simpa using hd
          have HO2 := Lib.hid (show out = distsL (M.take (j + 1)) d from by rw [htk, distsL_snoc, if_neg hd, List.append_nil, hO.out])
          clear hx htk hc hd
          go_wp2_with fail
          go_roundw
          case rel => exact ⟨j + 1, oa, oc, on, out, by omega, by go_num, rfl, hon, HO2, hF, hH⟩
          case measure => simp [intOf] <;> omega
      · obtain rfl : j = m := by omega
        have hO2 := hO.out
        have hy2 := HY.out
        rw [HAL.out] at hy2
        rw [List.take_of_length_le (by have := HM.out; omega), hy2] at hO2
        subst hO2
        have hon9 := hon.out
        subst hon9
        go_wp2_with fail
        go_ret
        exact ⟨oa, oc, rfl, hF.out.o, hF.out.b⟩
  · obtain rfl : ys = [] := by
      rw [← hy]; unfold matchK
      rw [if_neg hc]; rfl
    clear hy HY hh
    by_cases ha : 0 ≤ lenS s ∧ lenS s ≤ 16
    · rw [decide_eq_true ha] at CA
      have hk : d < 0 ∨ 4 < d := by have : ¬ (0 ≤ d ∧ d ≤ 4) := fun h => hc ⟨ha, h⟩; omega
      clear hc ha
      by_cases hk0 : d < 0
      · go_enter Try.func21, Try.ntmps21
        go_wp2_with fail
        refine (CA.out _).mono ?_
        rintro e w2 ⟨rfl, hb2⟩
        have B2 := Lib.hid hb2
        clear hb2
        go_wp2_with fail
        go_ret
        exact ⟨none, 0, rfl, World.ownsRow_nil _ _ _ _, B2.out⟩
      · have hk4 : 4 < d := by omega
        clear hk
        go_enter Try.func21, Try.ntmps21
        go_wp2_with fail
        refine (CA.out _).mono ?_
        rintro e w2 ⟨rfl, hb2⟩
        have B2 := Lib.hid hb2
        clear hb2
        go_wp2_with fail
        go_ret
        exact ⟨none, 0, rfl, World.ownsRow_nil _ _ _ _, B2.out⟩
    · rw [decide_eq_false ha] at CA
      clear hc ha
      go_enter Try.func21, Try.ntmps21
      go_wp2_with fail
      refine (CA.out _).mono ?_
      rintro e w2 ⟨rfl, hb2⟩
      have B2 := Lib.hid hb2
      clear hb2
      go_wp2_with fail
      go_ret
      exact ⟨none, 0, rfl, World.ownsRow_nil _ _ _ _, B2.out⟩
end Go.Proofs.Ytolggcdlpiedmaa
/- walk: a graph is built; Next in one word; what every program answers that is one -/
namespace Go.Proofs.Ytolggcdlpiedmaa
open Go.RowKit
set_option linter.unusedVariables false
set_option maxRecDepth 20000
theorem buildW_good (a : Option Addr) (n cap : Nat) (ts : List Tx) (w : World) (hh : HoldsT w a n ts) (hc : n ≤ cap) (hn : n ≤ 100000) (hs : ∀ t ∈ ts, t.size ≤ 100) (hv : goodV ts = 0) :
    Calls Try.prog 14 #[.slice a n cap] w fun e w' => ∃ g, e = .returned (.tuple #[.pointer (some ⟨g, 0, none⟩), .int .i64 0]) ∧ GrOk g ts w' ∧ Below w.heap.size w w' := by
  refine (build_good a n cap ts w hh hc (by omega) hs hv).mono ?_
  rintro e w' ⟨g, S, rfl, hg, _, hb⟩
  have hok := ok_good hv hs
  exact ⟨g, rfl, ⟨grS ts, S, grS_ok hv hs, hg, fun t ht => ⟨hok.lo t ht, hok.hi t ht, hs t ht⟩, hok.n⟩, hb⟩
/-- Next of a graph, its answer by names -/
theorem next_c (g : Nat) (ts : List Tx) (s : Tx) (k : Int) (first : Bool) (av : KV) (batch : Int) (F ys : List KV) (n : Nat) (b : Bool) (w : World) (h : GrOk g ts w) (hs : s.size ≤ 1048576)
    (hF : restK first av (matchK ts s k) = F) (hn : cntK batch F.length = n) (hy : F.take n = ys) (hb : decide (n = F.length) = b) :
    Calls Try.prog 15 #[.pointer (some ⟨g, 0, none⟩), .string s, .int .i64 k, .bool first, .agg #[.int .i64 av.1, .string av.2], .int .i64 batch] w (RetN w n ys b) :=
  next_any (.pointer (some ⟨g, 0, none⟩)) s k first av batch (matchK ts s k) F ys n b w (fun w' hb => matches_all g ts s k w' (h.below hb) hs) (by
    have := matchK_len ts s k
    obtain ⟨_, _, _, _, _, h4⟩ := h
    omega) hF hn hy hb
def wAB : Tx := ⟨#[97, 98]⟩
def wABC : Tx := ⟨#[97, 98, 99]⟩
def wB : Tx := ⟨#[98]⟩
def wZZ : Tx := ⟨#[122, 122]⟩
theorem d_zz_ab : distS wZZ wAB = 2 := by
  have l1 : lenS wAB = 2 := by decide +kernel
  have r1 : intsN (runesS wAB) = [97, 98] := by decide +kernel
  have n1 : (runesS wAB).length = 2 := by decide +kernel
  have l2 : lenS wZZ = 2 := by decide +kernel
  have r2 : intsN (runesS wZZ) = [122, 122] := by decide +kernel
  have n2 : (runesS wZZ).length = 2 := by decide +kernel
  unfold distS
  rw [l1, r1, n1, l2, r2, n2, if_pos (by decide)]
  have h0 : Ed.row [122, 122] [97, 98] 0 = [0, 1, 2] := by rw [← upTo_row]; decide
  have h1 : Ed.row [122, 122] [97, 98] 1 = [1, 1, 2] := by rw [← Ed.mix_all _ _ 0, h0]; decide
  have h2 : Ed.row [122, 122] [97, 98] 2 = [2, 2, 2] := by rw [← Ed.mix_all _ _ 1, h1]; decide
  rw [← Ed.row_getD _ _ 2 2 (by decide), h2]
  rfl
theorem aw_match : matchK [wAB, wABC, wB, wZZ] wAB 1 = [(0, wAB), (1, wABC), (1, wB)] := by
  have l1 : lenS wAB = 2 := by decide +kernel
  have e1 : distS wAB wAB = 0 := d_ab_ab
  have e2 : distS wABC wAB = 1 := d_abc_ab
  have e3 : distS wB wAB = 1 := d_b_ab
  unfold matchK
  rw [l1, if_pos (by decide)]
  simp [nearL, e1, e2, e3, d_zz_ab]
theorem aw_sort : sortK [((0 : Int), wAB), (1, wABC), (1, wB)] = [(0, wAB), (1, wABC), (1, wB)] := by
  have c2 : cmpS wB wABC = 1 := by decide +kernel
  refine sortK_same ?_
  unfold SortedK leK
  simp [ordK, c2]
theorem aw_first : restK true (0, ⟨#[]⟩) (matchK [wAB, wABC, wB, wZZ] wAB 1) = [(0, wAB), (1, wABC), (1, wB)] := by
  unfold restK; rw [if_pos rfl, aw_match, aw_sort]
theorem aw_then : restK false (1, wABC) (matchK [wAB, wABC, wB, wZZ] wAB 1) = [(1, wB)] := by
  have c1 : cmpS wABC wB = -1 := by decide +kernel
  have c2 : cmpS wABC wABC = 0 := by decide +kernel
  unfold restK; rw [if_neg (by simp), aw_match, aw_sort]
  simp [lessK, ordK, c1, c2]
theorem aw_goodW : goodV [wAB, wABC, wB, wZZ] = 0 := by kernel_rfl
theorem holdsT_lit4 (w : World) (a b c d : Tx) (e : TypeId) (fr : Nat × Nat) : HoldsT (w.alloc (.cells #[.string a, .string b, .string c, .string d] e fr)) (some ⟨w.heap.size, 0, none⟩) 4 [a, b, c, d] := by
  refine ⟨rfl, fun _ => ⟨w.heap.size, 0, rfl, fun i hi => ?_⟩⟩
  have : i = 0 ∨ i = 1 ∨ i = 2 ∨ i = 3 := by omega
  rcases this with rfl | rfl | rfl | rfl
  · rw [Nat.add_zero, World.cell?_alloc_mark]; rfl
  · rw [Nat.zero_add, World.cell?_alloc_mark]; rfl
  · rw [Nat.zero_add, World.cell?_alloc_mark]; rfl
  · rw [Nat.zero_add, World.cell?_alloc_mark]; rfl
theorem holdsK_lit1w (w : World) (a : KV) (e : TypeId) (fr : Nat × Nat) : HoldsK (w.alloc (.cells #[.int .i64 a.1, .string a.2] e fr)) (some ⟨w.heap.size, 0, none⟩) 1 [a] := by
  refine ⟨rfl, fun _ => ⟨w.heap.size, 0, rfl, fun i hi => ?_⟩⟩
  have : i = 0 := by omega
  subst this
  rw [World.cell?_alloc_mark, World.cell?_alloc_mark]; exact ⟨rfl, rfl⟩
set_option maxHeartbeats 1600000 in
theorem awakeW_any (w : World) : Calls Try.prog 13 #[] w fun e w' => e = .returned (.bool true) ∧ Below w.heap.size w w' := by
  have B1 := Lib.hid (below_one w (.cells #[.string ⟨#[97, 98]⟩, .string ⟨#[97, 98, 99]⟩, .string ⟨#[98]⟩, .string ⟨#[122, 122]⟩] 9))
  have CB := Lib.hid (buildW_good (some ⟨w.heap.size, 0, none⟩) 4 4 [wAB, wABC, wB, wZZ] _ (holdsT_lit4 w _ _ _ _ 9 (0, 0)) (by omega) (by omega) (by intro t ht; simp at ht; rcases ht with rfl | rfl | rfl | rfl <;> decide) aw_goodW)
  go_enter Try.func13, Try.ntmps13
  go_wp2_with fail
  refine CB.out.mono ?_
  rintro e w2 ⟨g, rfl, hg, hb⟩
  have B2 := Lib.hid (B1.out.trans (hb.mono B1.out.size))
  have G2 := Lib.hid hg
  clear hg hb CB B1
  have CN := Lib.hid (next_c g _ wAB 1 true (0, ⟨#[]⟩) 2 _ _ 2 false w2 G2.out (by decide) aw_first (by decide) rfl (by decide))
  go_wp2_with fail
  refine CN.out.mono ?_
  rintro e w3 ⟨a3, rfl, hc3, _, hb3⟩
  have B3 := Lib.hid (B2.out.trans (hb3.mono B2.out.size))
  have H3 := Lib.hid hc3.holds
  have CN := Lib.hid (next_c g _ wAB 1 false (1, wABC) 2 _ _ 1 true w3 (G2.out.below hb3) (by decide) aw_then (by decide) rfl (by decide))
  clear hb3 hc3 B2
  go_wp2_with fail
  refine CN.out.mono ?_
  rintro e w4 ⟨a4, rfl, hc4, _, hb4⟩
  have B4 := Lib.hid (B3.out.trans (hb4.mono B3.out.size))
  have H4 := Lib.hid hc4.holds
  have H34 := Lib.hid (H3.out.below hb4)
  clear hb4 hc4 B3 CN
  go_wp2_with fail
  refine (sameItems_yes a3 (some ⟨w4.heap.size, 0, none⟩) 2 _ _ _ _ (H34.out.below (below_one w4 _)) (holdsK_lit2 w4 (0, wAB) (1, wABC) 24 (0, 0)) (by omega)).mono ?_
  rintro e w5 ⟨rfl, hb5⟩
  have B5 := Lib.hid ((B4.out.alloc B4.out.size _).trans (hb5.mono (by have := B4.out.size; simp; omega)))
  have H45 := Lib.hid ((H4.out.below (below_one w4 _)).below hb5)
  clear hb5 B4
  go_wp2_with fail
  refine (sameItems_yes a4 (some ⟨w5.heap.size, 0, none⟩) 1 _ _ _ _ (H45.out.below (below_one w5 _)) (holdsK_lit1w w5 (1, wB) 24 (0, 0)) (by omega)).mono ?_
  rintro e w6 ⟨rfl, hb6⟩
  have B6 := Lib.hid ((B5.out.alloc B5.out.size _).trans (hb6.mono (by have := B5.out.size; simp; omega)))
  clear hb6 B5
  go_wp2_with fail
  go_ret
  exact ⟨rfl, B6.out⟩
end Go.Proofs.Ytolggcdlpiedmaa
/- walk: how much is gone through -/
namespace Go.Proofs.Ytolggcdlpiedmaa
open Go.RowKit
set_option linter.unusedVariables false
set_option maxRecDepth 20000
def greatW (ts : List Tx) (s : Tx) : Bool := greatB ts || decide (100 < s.size)
theorem greatW_no {ts : List Tx} {s : Tx} (h : greatW ts s = false) : ts.length ≤ 80 ∧ (∀ t ∈ ts, t.size ≤ 100) ∧ s.size ≤ 100 := by
  unfold greatW at h
  rw [Bool.or_eq_false_iff] at h
  obtain ⟨h1, h2⟩ := great_no_iff.1 h.1
  have := of_decide_eq_false h.2
  exact ⟨h1, h2, by omega⟩
theorem greatW_any (a : Option Addr) (n cap : Nat) (ts : List Tx) (s : Tx) (c : Bool) (w : World) (hh : HoldsT w a n ts) (hn : n ≤ 9223372036854775807) (hsz : ∀ t ∈ ts, t.size ≤ 9223372036854775807) (hs : s.size ≤ 9223372036854775807) (hc : greatW ts s = c) :
    Calls Try.prog 12 #[.slice a n cap, .string s] w fun e w' => e = .returned (.bool c) ∧ Below w.heap.size w w' := by
  obtain ⟨g, hg⟩ : ∃ g, greatB ts = g := ⟨_, rfl⟩
  have CG := Lib.hid (great_any a n cap ts w hh hn hsz)
  have HC := Lib.hid hc
  rw [hg] at CG
  unfold greatW at HC
  rw [hg] at HC
  clear hh hsz hc hg
  go_enter Try.func12, Try.ntmps12
  go_wp2_with fail
  refine CG.out.mono ?_
  rintro e w1 ⟨rfl, hb⟩
  have B1 := Lib.hid hb
  clear hb
  cases g with
  | true =>
    obtain rfl : c = true := by rw [← HC.out]; rfl
    go_wp2_with fail
    go_ret
    exact ⟨rfl, B1.out⟩
  | false =>
    obtain rfl : c = decide (100 < s.size) := by rw [← HC.out]; rfl
    clear HC
    go_wp2_with fail
    go_ret
    exact ⟨ret_bool (by simp <;> omega), B1.out⟩
theorem good_graph {g : Nat} {ts : List Tx} {w : World} (h : GrOk g ts w) : ts.length ≤ 100 ∧ ∀ t ∈ ts, t.size ≤ 100 := by
  obtain ⟨_, _, _, _, h3, h4⟩ := h
  exact ⟨h4, fun t ht => (h3 t ht).2.2⟩
end Go.Proofs.Ytolggcdlpiedmaa
/- walk: near words in order, each once: plain; a query's box -/
namespace Go.Proofs.Ytolggcdlpiedmaa
open Go.RowKit
set_option linter.unusedVariables false
set_option maxRecDepth 20000
theorem GrOk.sorted {g : Nat} {ts : List Tx} {w : World} (h : GrOk g ts w) : SortedS ts := by
  obtain ⟨st, _, G, _, _, _⟩ := h
  have h1 := G.node G.root
  have h2 := h1.2.2.ok
  rw [h1.2.1] at h2; exact h2.ord
def StrictK (L : List KV) : Prop := L.Pairwise fun a b => ordK a b < 0
theorem StrictK.sub {L M : List KV} (h : StrictK L) (hs : M.Sublist L) : StrictK M := List.Pairwise.sublist hs h
theorem allK_strict {ts : List Tx} (h : SortedS ts) (s : Tx) (k : Int) : StrictK (allK ts s k) := by
  have h1 : SortedK (allK ts s k) := sortK_sorted _
  have h2 := all_ne h s k
  unfold StrictK
  refine (h1.and h2).imp ?_
  rintro a b ⟨hab, hne⟩
  rcases leK_iff.1 hab with e | e
  · subst e; exact absurd rfl hne
  · exact e
theorem less_no {a b : KV} (h : leK a b) : lessK b a = false := by
  unfold lessK; exact decide_eq_false h
theorem less_yes {a b : KV} (h : ordK a b < 0) : lessK a b = true := decide_eq_true h
theorem strict_lt {L : List KV} (h : StrictK L) {i j : Nat} (hij : i < j) (hj : j < L.length) : ordK (L.getD i k0) (L.getD j k0) < 0 := by
  rw [List.getD_eq_getElem?_getD, List.getD_eq_getElem?_getD, List.getElem?_eq_getElem (show i < L.length by omega), List.getElem?_eq_getElem hj]
  exact List.pairwise_iff_getElem.1 h i j _ hj hij
/-- behind the item at i: just what follows -/
theorem filter_at {L : List KV} (h : StrictK L) (i : Nat) (hi : i < L.length) : L.filter (lessK (L.getD i k0)) = L.drop (i + 1) := by
  have e : L = L.take (i + 1) ++ L.drop (i + 1) := (List.take_append_drop _ _).symm
  conv => lhs; rw [e]
  have eg : L.getD i k0 = (L.take (i + 1) ++ L.drop (i + 1)).getD i k0 := by rw [List.take_append_drop]
  rw [← eg, List.filter_append]
  have h1 : (L.take (i + 1)).filter (lessK (L.getD i k0)) = [] := by
    rw [List.filter_eq_nil_iff]
    intro x hx
    obtain ⟨j, hj, rfl⟩ := List.mem_iff_getElem.1 hx
    rw [List.length_take] at hj
    have hjx : (L.take (i + 1))[j]'(by rw [List.length_take]; exact hj) = L.getD j k0 := by
      rw [List.getElem_take, List.getD_eq_getElem?_getD, List.getElem?_eq_getElem (by omega)]; rfl
    rw [hjx]
    rcases Nat.lt_or_ge j i with hji | hji
    · rw [less_no (leK_of_lt (strict_lt h hji hi))]; simp
    · obtain rfl : j = i := by omega
      rw [less_no (leK_refl _)]; simp
  have h2 : (L.drop (i + 1)).filter (lessK (L.getD i k0)) = L.drop (i + 1) := by
    rw [List.filter_eq_self]
    intro x hx
    obtain ⟨j, hj, rfl⟩ := List.mem_iff_getElem.1 hx
    rw [List.length_drop] at hj
    have hjx : (L.drop (i + 1))[j]'(by rw [List.length_drop]; exact hj) = L.getD (i + 1 + j) k0 := by
      rw [List.getElem_drop, List.getD_eq_getElem?_getD, List.getElem?_eq_getElem (by omega)]; rfl
    rw [hjx]
    exact less_yes (strict_lt h (by omega) (by omega))
  rw [h1, h2]; rfl
/-- behind an item that is itself behind av: what follows it among those behind av -/
theorem filter_behind {L : List KV} {av c : KV} (h : ordK av c < 0) : (L.filter (lessK av)).filter (lessK c) = L.filter (lessK c) := by
  rw [List.filter_filter]
  refine List.filter_congr fun x _ => ?_
  cases hc : lessK c x with
  | false => simp
  | true =>
    have : lessK av x = true := less_yes (ordK_trans h (of_decide_eq_true hc))
    simp [this]
theorem may_match {ts : List Tx} {s : Tx} {k n : Int} (h : mayP s k n) : sortK (matchK ts s k) = allK ts s k := by
  unfold matchK allK
  rw [if_pos]
  unfold mayP at h
  exact ⟨by obtain ⟨_, _, h3⟩ := h; omega, h.1⟩
/-- a query's box -/
def QBox (b : Nat) (s : Tx) (k n : Int) (w : World) : Prop := w.cell? ⟨b, 0, none⟩ = some (.string s) ∧ w.cell? ⟨b, 1, none⟩ = some (.int .i64 k) ∧ w.cell? ⟨b, 2, none⟩ = some (.int .i64 n)
theorem QBox.more {b B : Nat} {s : Tx} {k n : Int} {w w' : World} (h : QBox b s k n w) (hb : Below B w w') (hB : b < B) : QBox b s k n w' :=
  ⟨by rw [hb.cell (p := ⟨b, 0, none⟩) hB]; exact h.1, by rw [hb.cell (p := ⟨b, 1, none⟩) hB]; exact h.2.1, by rw [hb.cell (p := ⟨b, 2, none⟩) hB]; exact h.2.2⟩
theorem QBox.keep {b : Nat} {s : Tx} {k n : Int} {w w' : World} (h : QBox b s k n w) (hb : Below w.heap.size w w') : QBox b s k n w' := h.more hb (lt_of_cell h.1)
theorem rankAll_c (a : Option Addr) (n ca : Nat) (ts : List Tx) (s : Tx) (k : Int) (L : List KV) (m : Nat) (w : World) (hh : HoldsT w a n ts) (hn : n ≤ 50000) (hl : ∀ t ∈ ts, t.size ≤ 1048576) (hs : s.size ≤ 1048576) (hL : allK ts s k = L) (hm : L.length = m) :
    Calls Try.prog 25 #[.slice a n ca, .string s, .int .i64 k] w (RetJ w m L) := by
  subst hL
  exact (rankAll_any a n ca ts s k w hh hn hl hs).mono fun _ _ h => h.j hm
end Go.Proofs.Ytolggcdlpiedmaa
/- what was answered is written over, and beyond (OverTexts): nothing but its own block is written -/
namespace Go.Proofs.Ytolggcdlpiedmaa
open Go.RowKit
set_option linter.unusedVariables false
set_option maxRecDepth 20000
theorem ovgTexts_info : (Try.prog.info? 9).map (fun i => (i.zero, i.size, i.bytes)) = some (some (.string ⟨#[]⟩), 1, 16) := by kernel_rfl
set_option maxHeartbeats 400000 in
/-- Written over is a slice of the call's own (its blocks lie from B on): below B nothing turns, and nothing but the slice's block. -/
theorem ovgTexts_any (B : Nat) (a : Option Addr) (n cap : Nat) (xs : List Value) (w : World) (h : w.ownsRow B 9 1 (.slice a n cap) n xs) (hB : B ≤ w.heap.size) (hn : n ≤ 1048576) :
    Calls Try.prog 22 #[.slice a n cap] w fun e w' => e = .returned (.tuple #[]) ∧ Below B w w' ∧ w.grownBy w' (Value.slice a n cap).ownBlock := by
  obtain ⟨i0, hi, hz0, hz1, hz2⟩ := info_parts ovgTexts_info
  have H := Lib.hid h
  clear h
  go_enter Try.func22, Try.ntmps22
  go_wp2_with fail
  go_loopw [2] (fun i wr => ∃ (k : Nat) (ys : List Value), k ≤ n ∧ i = .int .i64 k ∧ Hid (wr.ownsRow B 9 1 (.slice a n cap) n ys) ∧ Hid (Below B w wr) ∧ Hid (w.grownBy wr (Value.slice a n cap).ownBlock)) (fun i _ => n - (intOf i).toNat)
  case atStart => exact ⟨0, xs, by omega, rfl, H, Below.refl _ _, Lib.hid ⟨rfl, rfl, rfl, Nat.le_refl _, fun _ _ _ => rfl⟩⟩
  case round =>
    obtain ⟨k, ys, hk, rfl, hO, hBw, hGr⟩ := hrel
    by_cases hlt : k < n
    · obtain ⟨g, rfl⟩ : ∃ g, a = some ⟨g, 0, none⟩ := by
        obtain ⟨g, cap', hv⟩ := Joins.ownsRow_form hO.out (by omega)
        simp only [Value.slice.injEq] at hv
        exact ⟨g, hv.1⟩
      have hc := hO.out.cellAt k (by omega)
      have hyl : k < ys.length := by have := hO.out.1; omega
      rw [List.getElem?_eq_getElem hyl] at hc
      obtain ⟨y, hy⟩ : ∃ y, ys[k] = y := ⟨_, rfl⟩
      rw [hy] at hc
      clear hy hyl
      have hf := hO.out.frozenAt k
      have HG2 := Lib.hid (fun v => (⟨hGr.out.os, hGr.out.tape, hGr.out.output, by have := hGr.out.size; simpa using this, fun b hb hne => (Below.heap_setCell wr ⟨g, k, none⟩ v b (fun e => hne (by show some b = some g; rw [e]))).trans (hGr.out.block b hb hne)⟩ : w.grownBy (wr.setCell ⟨g, k, none⟩ v) (Value.slice (some ⟨g, 0, none⟩) n cap).ownBlock))
      go_wp2
      go_roundw
      case rel => exact ⟨k + 1, _, by omega, by go_num, Lib.hid (hO.out.stored k _).1, Lib.hid (hBw.out.setCell (p := ⟨g, k, none⟩) (hO.out.lt g rfl).1 _), Lib.hid (HG2.out _)⟩
      case measure => simp [intOf]; omega
    · have hs := hBw.out.size
      go_wp2_with (at_builtin; refine wpList_append_own _ rfl (.tmp 12) (.tmp 13) 22 rfl B 9 i0 (.string ⟨#[]⟩) 1 16 Try.underlying22 hi hz0 hz1 hz2 rfl (by decide) _ n _ rfl (hO.out.alloc _) _ 1 1 _ rfl rfl (one_new _ _ _ _ _ rfl) (one_str _) (by unfold maxLen; omega) (by omega) (by simp; omega) ?_; intro v3 w3 hown3 hg3 hnil3)
      go_end0
      have hsz := hGr.out.size
      refine ⟨rfl, hBw.out.trans (((Below.refl _ _).alloc (by omega) _).grown hg3 (by simp; omega) fun k hk => (hO.out.lt k hk).1), ⟨hg3.os.trans hGr.out.os, hg3.tape.trans hGr.out.tape, hg3.output.trans hGr.out.output, ?_, fun b hb hne => ?_⟩⟩
      · have := hg3.size; simp at this; omega
      · rw [hg3.block b (by simp; omega) hne, Below.heap_alloc _ _ _ (by omega)]
        exact hGr.out.block b hb hne
end Go.Proofs.Ytolggcdlpiedmaa
