/- messages in the document: what may be (by gen/md1.py) -/
import Derived.Test.YthboiklcjpnhbaaMc3
import Derived.Test.YthboiklcjpnhbaaRl1
import Derived.Test.YthboiklcjpnhbaaAs2
namespace Go.Proofs.Ythboiklcjpnhbaa
open Go.RowKit
set_option linter.unusedVariables false
set_option maxRecDepth 20000
theorem rin_lit (n lo hi : Int) (c : Bool) (w : World) (h : inR n lo hi = c) : Calls Try.prog 39 #[.int .i64 n, .int .i64 lo, .int .i64 hi] w fun e w' => e = .returned (.bool c) ∧ w = w' := by
  unfold inR at h
  by_cases h1 : lo ≤ n
  · by_cases h2 : n ≤ hi
    · obtain rfl : c = true := by rw [← h]; exact decide_eq_true ⟨h1, h2⟩
      clear h
      go_enter Try.func39, Try.ntmps39
      go_wp2_with fail
      go_ret
      exact ⟨rfl, rfl⟩
    · obtain rfl : c = false := by rw [← h]; exact decide_eq_false (fun h => h2 h.2)
      clear h
      go_enter Try.func39, Try.ntmps39
      go_wp2_with fail
      go_ret
      exact ⟨rfl, rfl⟩
  · obtain rfl : c = false := by rw [← h]; exact decide_eq_false (fun h => h1 h.1)
    clear h
    go_enter Try.func39, Try.ntmps39
    go_wp2_with fail
    go_ret
    exact ⟨rfl, rfl⟩
def allN (zs : List Int) : Bool := zs.all fun z => inR z 0 2147483647
theorem allN_bad {zs : List Int} {j : Nat} (h : inR (zs.getD j 0) 0 2147483647 = false) : allN zs = false := by
  have hj : j < zs.length := by
    rcases Nat.lt_or_ge j zs.length with h2 | h2
    · exact h2
    · rw [List.getD_eq_getElem?_getD, List.getElem?_eq_none h2] at h; exact absurd h (by decide)
  unfold allN
  rw [List.all_eq_false]
  refine ⟨zs[j], List.getElem_mem hj, ?_⟩
  rw [List.getD_eq_getElem?_getD, List.getElem?_eq_getElem hj] at h
  simpa using h
theorem allN_good {zs : List Int} (h : ∀ j, j < zs.length → inR (zs.getD j 0) 0 2147483647 = true) : allN zs = true := by
  unfold allN
  rw [List.all_eq_true]
  intro x hx
  obtain ⟨j, hj, rfl⟩ := List.getElem_of_mem hx
  have := h j hj
  rw [List.getD_eq_getElem?_getD, List.getElem?_eq_getElem hj] at this
  exact this
set_option maxHeartbeats 1600000 in
theorem rnums_any (a : Option Addr) (n cap : Nat) (zs : List Int) (c : Bool) (w : World) (h : HoldsI .i64 w a n zs) (hn : n ≤ 8) (hc : allN zs = c) :
    Calls Try.prog 40 #[.slice a n cap] w fun e w' => e = .returned (.bool c) ∧ w = w' := by
  have HH := Lib.hid h; have HL := Lib.hid h.1; have HC := Lib.hid hc
  clear h hc
  go_enter Try.func40, Try.ntmps40
  go_wp2_with fail
  go_loop [3] (fun iv => ∃ j : Nat, j ≤ n ∧ iv = .int .i64 (j : Int) ∧ Hid (∀ i, i < j → inR (zs.getD i 0) 0 2147483647 = true)) (fun iv => n - (intOf iv).toNat)
  case atStart => exact ⟨0, by omega, rfl, Lib.hid (by omega)⟩
  case round =>
    obtain ⟨j, hj, rfl, HA⟩ := hrel
    by_cases hlt : j < n
    · obtain ⟨qb, qo, rfl, hcc⟩ := HH.out.at (by omega)
      have x0 := hcc j hlt
      obtain ⟨z, hz⟩ : ∃ z, zs.getD j 0 = z := ⟨_, rfl⟩
      rw [hz] at x0
      have HZ := Lib.hid hz
      clear hcc hz
      by_cases h1 : z < 0
      · obtain rfl : c = false := by
          rw [← HC.out]; refine allN_bad (j := j) ?_
          rw [HZ.out]; unfold inR; exact decide_eq_false (by omega)
        go_wp2_with fail
        go_ret
        exact ⟨rfl, rfl⟩
      · by_cases h2 : 2147483647 < z
        · obtain rfl : c = false := by
            rw [← HC.out]; refine allN_bad (j := j) ?_
            rw [HZ.out]; unfold inR; exact decide_eq_false (by omega)
          go_wp2_with fail
          go_ret
          exact ⟨rfl, rfl⟩
        · have HA2 := Lib.hid (show ∀ i, i < j + 1 → inR (zs.getD i 0) 0 2147483647 = true from fun i hi => by
            by_cases e : i = j
            · subst e; rw [HZ.out]; unfold inR; exact decide_eq_true (by omega)
            · exact HA.out i (by omega))
          go_wp2_with fail
          go_round
          case rel => exact ⟨j + 1, by omega, by go_num, HA2⟩
          case measure => simp [intOf]; omega
    · obtain rfl : c = true := by
        rw [← HC.out]; exact allN_good fun i hi => HA.out i (by have := HL.out; omega)
      go_wp2_with fail
      go_ret
      exact ⟨rfl, rfl⟩
theorem ritem_lit (k1 : Int) (k2 : Tx) (c : Bool) (w : World) (hs : k2.size ≤ 1048576) (h : mayItem (k1, k2) = c) :
    Calls Try.prog 71 #[.agg #[.int .i64 k1, .string k2]] w fun e w' => e = .returned (.bool c) ∧ Below w.heap.size w w' := by
  unfold mayItem at h
  simp only at h
  obtain ⟨z1, h1⟩ : ∃ z, inR k1 0 4 = z := ⟨_, rfl⟩
  obtain ⟨z2, h2⟩ : ∃ z, decide (wordP k2) = z := ⟨_, rfl⟩
  rw [h1, h2] at h
  have C1 := Lib.hid (fun w => rin_lit k1 0 4 z1 w h1)
  have C2 := Lib.hid (fun w => show Calls Try.prog 92 #[.string k2] w (fun e w' => e = .returned (.bool z2) ∧ Below w.heap.size w w') from by subst h2; exact rword_any k2 w hs)
  have BX := Lib.hid (below_one w (.cells #[.int .i64 k1, .string k2] 27))
  clear h1 h2 hs
  cases z1
  · simp only [Bool.false_and] at h
    subst h
    clear C2
    go_enter Try.func71, Try.ntmps71
    go_wp2_with fail
    refine (C1.out _).mono ?_
    rintro e w' ⟨rfl, rfl⟩
    go_wp2_with fail
    go_ret
    exact ⟨rfl, BX.out⟩
  · simp only [Bool.true_and] at h
    subst h
    go_enter Try.func71, Try.ntmps71
    go_wp2_with fail
    refine (C1.out _).mono ?_
    rintro e w' ⟨rfl, rfl⟩
    go_wp2_with fail
    refine (C2.out _).mono ?_
    rintro e w' ⟨rfl, hb⟩
    have BE := Lib.hid (BX.out.trans (hb.mono BX.out.size))
    clear hb
    go_wp2_with fail
    go_ret
    exact ⟨rfl, BE.out⟩
set_option maxHeartbeats 3200000 in
set_option maxRecDepth 100000 in
theorem rMayAsk (x : AskP) (z : Bool) (w : World) (ht : x.text.size ≤ 1048576) (ha : x.aw.size ≤ 1048576) (h : mayAsk x = z) :
    Calls Try.prog 41 #[agAsk x] w fun e w' => e = .returned (.bool z) ∧ Below w.heap.size w w' := by
  have h : (allN [x.query, x.seq, x.epoch] && (inR x.slot 0 3 && (inR x.shard 0 5 && (inR x.k 0 4 && (inR x.batch 1 5 && (decide (0 ≤ lenS x.text ∧ lenS x.text ≤ 16) && mayAfter x.first (x.ad, x.aw))))))) = z := by
    rw [← h]; unfold mayAsk allN
    simp only [List.all_cons, List.all_nil, Bool.and_true]
    ac_rfl
  obtain ⟨z0, h0⟩ : ∃ z, allN [x.query, x.seq, x.epoch] = z := ⟨_, rfl⟩
  obtain ⟨z1, h1⟩ : ∃ z, inR x.slot 0 3 = z := ⟨_, rfl⟩
  obtain ⟨z2, h2⟩ : ∃ z, inR x.shard 0 5 = z := ⟨_, rfl⟩
  obtain ⟨z3, h3⟩ : ∃ z, inR x.k 0 4 = z := ⟨_, rfl⟩
  obtain ⟨z4, h4⟩ : ∃ z, inR x.batch 1 5 = z := ⟨_, rfl⟩
  obtain ⟨z5, h5⟩ : ∃ z, decide (0 ≤ lenS x.text ∧ lenS x.text ≤ 16) = z := ⟨_, rfl⟩
  obtain ⟨z6, h6⟩ : ∃ z, mayAfter x.first (x.ad, x.aw) = z := ⟨_, rfl⟩
  rw [h0, h1, h2, h3, h4, h5, h6] at h
  have C0 := Lib.hid (fun w => rnums_any _ 3 3 [x.query, x.seq, x.epoch] z0 _ (holdsI_lit w [x.query, x.seq, x.epoch] 3 (0, 0)) (by omega) h0)
  have C1 := Lib.hid (fun w => rin_lit x.slot 0 3 z1 w h1)
  have C2 := Lib.hid (fun w => rin_lit x.shard 0 5 z2 w h2)
  have C3 := Lib.hid (fun w => rin_lit x.k 0 4 z3 w h3)
  have C4 := Lib.hid (fun w => rin_lit x.batch 1 5 z4 w h4)
  have C5 := Lib.hid (fun w => show Calls Try.prog 70 #[.string x.text] w (fun e w' => e = .returned (.bool z5) ∧ Below w.heap.size w w') from h5 ▸ rasked_any x.text w ht)
  have C6 := Lib.hid (fun (hf : x.first = false) w => ritem_lit x.ad x.aw z6 w ha (by rw [← h6]; unfold mayAfter; rw [hf]; rfl))
  have E6 := Lib.hid (fun (hf : x.first = true) => (show (decide (x.ad = 0) && x.aw.toList.isEmpty) = z6 from by rw [← h6]; unfold mayAfter; rw [hf]; rfl))
  obtain ⟨w3, hw3⟩ : ∃ w3, w.alloc (.cells #[.int .i64 x.slot, .int .i64 x.query, .int .i64 x.shard, .int .i64 x.seq, .int .i64 x.epoch, .string x.text, .int .i64 x.k, .int .i64 x.batch, .bool x.first, .int .i64 x.ad, .string x.aw] 29) = w3 := ⟨_, rfl⟩
  have BX := Lib.hid (show Below w.heap.size w w3 from hw3 ▸ below_one w _)
  have XI := Lib.hid (show MAskIn w3 w.heap.size x from hw3 ▸ MAskIn_new _ x _ _ (0, 0) rfl)
  clear h0 h1 h2 h3 h4 h5 h6 ht ha
  go_enter Try.func41, Try.ntmps41
  go_upto_region 1 with fail
  try rw [hw3]
  clear hw3
  obtain ⟨p, hp⟩ : ∃ p, w.heap.size = p := ⟨_, rfl⟩
  rw [hp] at XI
  try simp only [hp]
  clear hp
  have hX := XI.out
  unfold MAskIn at hX
  obtain ⟨x0, x1, x2, x3, x4, x5, x6, x7, x8, x9, x10⟩ := hX
  go_wp2_with fail
  have hb4 := below_one w3 (.cells #[.int .i64 x.query, .int .i64 x.seq, .int .i64 x.epoch] 3)
  have X4 := Lib.hid (XI.out.below hb4)
  have B4 := Lib.hid (BX.out.trans (hb4.mono BX.out.size))
  have C0' := Lib.hid (C0.out w3)
  clear x0 x1 x2 x3 x4 x5 x6 x7 x8 x9 x10 hb4 C0
  refine C0'.out.mono ?_
  rintro e w4 ⟨rfl, hw4⟩
  simp only [List.map_cons, List.map_nil] at hw4
  rw [hw4] at X4 B4
  clear hw4 C0'
  have hX := X4.out
  unfold MAskIn at hX
  obtain ⟨x0, x1, x2, x3, x4, x5, x6, x7, x8, x9, x10⟩ := hX
  cases z0
  · obtain rfl : z = false := by rw [← h]; simp
    clear h
    go_wp2_with fail
    go_ret
    exact ⟨rfl, B4.out⟩
  cases z1
  · obtain rfl : z = false := by rw [← h]; simp
    clear h
    go_wp2_with fail
    refine (C1.out _).mono ?_
    rintro e w' ⟨rfl, rfl⟩
    go_wp2_with fail
    go_ret
    exact ⟨rfl, B4.out⟩
  cases z2
  · obtain rfl : z = false := by rw [← h]; simp
    clear h
    go_wp2_with fail
    refine (C1.out _).mono ?_
    rintro e w' ⟨rfl, rfl⟩
    go_wp2_with fail
    refine (C2.out _).mono ?_
    rintro e w' ⟨rfl, rfl⟩
    go_wp2_with fail
    go_ret
    exact ⟨rfl, B4.out⟩
  cases z3
  · obtain rfl : z = false := by rw [← h]; simp
    clear h
    go_wp2_with fail
    refine (C1.out _).mono ?_
    rintro e w' ⟨rfl, rfl⟩
    go_wp2_with fail
    refine (C2.out _).mono ?_
    rintro e w' ⟨rfl, rfl⟩
    go_wp2_with fail
    refine (C3.out _).mono ?_
    rintro e w' ⟨rfl, rfl⟩
    go_wp2_with fail
    go_ret
    exact ⟨rfl, B4.out⟩
  cases z4
  · obtain rfl : z = false := by rw [← h]; simp
    clear h
    go_wp2_with fail
    refine (C1.out _).mono ?_
    rintro e w' ⟨rfl, rfl⟩
    go_wp2_with fail
    refine (C2.out _).mono ?_
    rintro e w' ⟨rfl, rfl⟩
    go_wp2_with fail
    refine (C3.out _).mono ?_
    rintro e w' ⟨rfl, rfl⟩
    go_wp2_with fail
    refine (C4.out _).mono ?_
    rintro e w' ⟨rfl, rfl⟩
    go_wp2_with fail
    go_ret
    exact ⟨rfl, B4.out⟩
  cases z5
  · obtain rfl : z = false := by rw [← h]; simp
    clear h
    go_wp2_with fail
    refine (C1.out _).mono ?_
    rintro e w' ⟨rfl, rfl⟩
    go_wp2_with fail
    refine (C2.out _).mono ?_
    rintro e w' ⟨rfl, rfl⟩
    go_wp2_with fail
    refine (C3.out _).mono ?_
    rintro e w' ⟨rfl, rfl⟩
    go_wp2_with fail
    refine (C4.out _).mono ?_
    rintro e w' ⟨rfl, rfl⟩
    go_wp2_with fail
    refine (C5.out _).mono ?_
    rintro e w5 ⟨rfl, hb⟩
    have X5 := Lib.hid (X4.out.below hb)
    have B5 := Lib.hid (B4.out.trans (hb.mono B4.out.size))
    clear hb x0 x1 x2 x3 x4 x5 x6 x7 x8 x9 x10
    have hX := X5.out
    unfold MAskIn at hX
    obtain ⟨x0, x1, x2, x3, x4, x5, x6, x7, x8, x9, x10⟩ := hX
    go_wp2_with fail
    go_ret
    exact ⟨rfl, B5.out⟩
  obtain rfl : z6 = z := by rw [← h]; rfl
  clear h
  go_wp2_with fail
  refine (C1.out _).mono ?_
  rintro e w' ⟨rfl, rfl⟩
  go_wp2_with fail
  refine (C2.out _).mono ?_
  rintro e w' ⟨rfl, rfl⟩
  go_wp2_with fail
  refine (C3.out _).mono ?_
  rintro e w' ⟨rfl, rfl⟩
  go_wp2_with fail
  refine (C4.out _).mono ?_
  rintro e w' ⟨rfl, rfl⟩
  go_wp2_with fail
  refine (C5.out _).mono ?_
  rintro e w5 ⟨rfl, hb⟩
  have X5 := Lib.hid (X4.out.below hb)
  have B5 := Lib.hid (B4.out.trans (hb.mono B4.out.size))
  clear hb x0 x1 x2 x3 x4 x5 x6 x7 x8 x9 x10
  have hX := X5.out
  unfold MAskIn at hX
  obtain ⟨x0, x1, x2, x3, x4, x5, x6, x7, x8, x9, x10⟩ := hX
  cases hf : x.first with
  | false =>
    rw [hf] at x8
    have D6 := Lib.hid (C6.out hf)
    clear C6 E6 hf
    go_wp2_with fail
    refine (D6.out _).mono ?_
    rintro e w6 ⟨rfl, hb⟩
    have B6 := Lib.hid (B5.out.trans (hb.mono B5.out.size))
    clear hb
    go_wp2_with fail
    go_ret
    exact ⟨rfl, B6.out⟩
  | true =>
    rw [hf] at x8
    have D6 := E6.out hf
    clear C6 E6 hf
    by_cases e : x.ad = 0
    · rw [e] at x9
      by_cases e2 : x.aw.toList = []
      · obtain rfl : z6 = true := by rw [← D6]; simp [e, e2]
        have f1 : x.aw.toList.isEmpty = true := by simp [e2]
        have f2 : (x.aw.toList == []) = true := by simp [e2]
        have E2 := Lib.hid e2; have E1 := Lib.hid e
        clear D6 e2 e
        go_wp2_with fail
        go_ret
        exact ⟨rfl, B5.out⟩
      · obtain rfl : z6 = false := by rw [← D6]; simp [e2]
        have f1 : x.aw.toList.isEmpty = false := by simp [e2]
        have f2 : (x.aw.toList == []) = false := by simp [e2]
        have f3 : (!x.aw.toList.isEmpty) = true := by simp [e2]
        have E1 := Lib.hid e
        clear D6 e
        go_wp2_with fail
        go_ret
        exact ⟨rfl, B5.out⟩
    · obtain rfl : z6 = false := by rw [← D6]; simp [e]
      have f0 : (x.ad == 0) = false := by simpa using e
      clear D6
      go_wp2_with fail
      go_ret
      exact ⟨rfl, B5.out⟩
end Go.Proofs.Ythboiklcjpnhbaa
