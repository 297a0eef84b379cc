/- trace: Asked; a list of numbers sorted, each once (by gen/tr4.py) -/
import Derived.Test.YthfoilnofljflaaTr3
import Derived.Shelf.Sort.Plain
import Derived.Shelf.Slices.In.SortNone
import Derived.Shelf.Slices.CompactI
import Derived.Sort.OwnSortedInts
import Derived.Lib.SmallJoins
import Derived.Lib.OthersKept
import Derived.Lib.RowBridge
import Derived.Lib.OwnBridge
import Derived.Ground.NamesProg
import Derived.Ground.Names2Prog
namespace Go.Proofs.Ythfoilnofljflaa
open Go.RowKit Go.Shelf Go.Sort Go.Lib
set_option linter.unusedVariables false
set_option maxRecDepth 20000
def Try.sortZ_ren : Go.Shelf.Ren := ⟨fun | 189 => 10 | 125 => 13 | 257 => 12 | 128 => 23 | 129 => 24 | 294 => 14 | 295 => 15 | 296 => 16 | 297 => 17 | 298 => 18 | 299 => 19 | 216 => 20 | 300 => 21 | 301 => 22 | 328 => 25 | 329 => 26 | 330 => 27 | 331 => 28 | 332 => 29 | 215 => 30 | 343 => 31 | n => n, fun | 28 => 28 | 3 => 3 | 46 => 46 | 0 => 0 | 51 => 57 | 53 => 59 | 4 => 4 | 183 => 49 | 182 => 48 | 131 => 54 | 5 => 5 | 9 => 9 | 218 => 60 | 222 => 64 | 228 => 67 | 229 => 68 | n => n, fun | n => n⟩
theorem Try.sortZ : Go.Proofs.Lays.n189 Try.prog Try.sortZ_ren := {
  mixed := by kernel_rfl
  f125 := Try.func13.trans (congrArg some (by kernel_rfl))
  f128 := Try.func23.trans (congrArg some (by kernel_rfl))
  f129 := Try.func24.trans (congrArg some (by kernel_rfl))
  f189 := Try.func10.trans (congrArg some (by kernel_rfl))
  f215 := Try.func30.trans (congrArg some (by kernel_rfl))
  f216 := Try.func20.trans (congrArg some (by kernel_rfl))
  f257 := Try.func12.trans (congrArg some (by kernel_rfl))
  f294 := Try.func14.trans (congrArg some (by kernel_rfl))
  f295 := Try.func15.trans (congrArg some (by kernel_rfl))
  f296 := Try.func16.trans (congrArg some (by kernel_rfl))
  f297 := Try.func17.trans (congrArg some (by kernel_rfl))
  f298 := Try.func18.trans (congrArg some (by kernel_rfl))
  f299 := Try.func19.trans (congrArg some (by kernel_rfl))
  f300 := Try.func21.trans (congrArg some (by kernel_rfl))
  f301 := Try.func22.trans (congrArg some (by kernel_rfl))
  f328 := Try.func25.trans (congrArg some (by kernel_rfl))
  f329 := Try.func26.trans (congrArg some (by kernel_rfl))
  f330 := Try.func27.trans (congrArg some (by kernel_rfl))
  f331 := Try.func28.trans (congrArg some (by kernel_rfl))
  f332 := Try.func29.trans (congrArg some (by kernel_rfl))
  f343 := Try.func31.trans (congrArg some (by kernel_rfl))
  t0 := Try.underlying0
  a0 := Try.isAgg0
  z0 := Try.sizeOf0
  v0 := Try.zeroValue0
  t3 := Try.underlying3
  a3 := Try.isAgg3
  z3 := Try.sizeOf3
  v3 := Try.zeroValue3
  t4 := Try.underlying4
  a4 := Try.isAgg4
  z4 := Try.sizeOf4
  v4 := Try.zeroValue4
  t5 := Try.underlying5
  a5 := Try.isAgg5
  z5 := Try.sizeOf5
  v5 := Try.zeroValue5
  t9 := Try.underlying9
  a9 := Try.isAgg9
  z9 := Try.sizeOf9
  v9 := Try.zeroValue9
  t28 := Try.underlying28
  a28 := Try.isAgg28
  z28 := Try.sizeOf28
  v28 := Try.zeroValue28
  t46 := Try.underlying46
  a46 := Try.isAgg46
  z46 := Try.sizeOf46
  v46 := Try.zeroValue46
  t51 := Try.underlying57
  a51 := Try.isAgg57
  z51 := Try.sizeOf57
  v51 := Try.zeroValue57
  t53 := Try.underlying59
  a53 := Try.isAgg59
  z53 := Try.sizeOf59
  v53 := Try.zeroValue59
  t131 := Try.underlying54
  a131 := Try.isAgg54
  z131 := Try.sizeOf54
  v131 := Try.zeroValue54
  t182 := Try.underlying48
  a182 := Try.isAgg48
  z182 := Try.sizeOf48
  v182 := Try.zeroValue48
  t183 := Try.underlying49
  a183 := Try.isAgg49
  z183 := Try.sizeOf49
  v183 := Try.zeroValue49
  t218 := Try.underlying60
  a218 := Try.isAgg60
  z218 := Try.sizeOf60
  v218 := Try.zeroValue60
  t222 := Try.underlying64
  a222 := Try.isAgg64
  z222 := Try.sizeOf64
  v222 := Try.zeroValue64
  t228 := Try.underlying67
  a228 := Try.isAgg67
  z228 := Try.sizeOf67
  v228 := Try.zeroValue67
  t229 := Try.underlying68
  a229 := Try.isAgg68
  z229 := Try.sizeOf68
  v229 := Try.zeroValue68 }
def Try.compactZ_ren : Go.Shelf.Ren := ⟨fun | 20 => 11 | n => n, fun | 22 => 28 | 3 => 3 | 4 => 4 | 0 => 0 | n => n, fun | n => n⟩
theorem Try.compactZ : Go.Proofs.Lays2.n20 Try.prog Try.compactZ_ren := {
  mixed := by kernel_rfl
  f20 := Try.func11.trans (congrArg some (by kernel_rfl))
  t0 := Try.underlying0
  a0 := Try.isAgg0
  z0 := Try.sizeOf0
  v0 := Try.zeroValue0
  t3 := Try.underlying3
  a3 := Try.isAgg3
  z3 := Try.sizeOf3
  v3 := Try.zeroValue3
  t4 := Try.underlying4
  a4 := Try.isAgg4
  z4 := Try.sizeOf4
  v4 := Try.zeroValue4
  t22 := Try.underlying28
  a22 := Try.isAgg28
  z22 := Try.sizeOf28
  v22 := Try.zeroValue28
  i3 := by kernel_rfl }
def intsV (l : List Int) : List Value := l.map (Value.int .i64)
/-- a new slice of these numbers -/
def RetN (w : World) (zs : List Int) (e : Ending) (w' : World) : Prop := ∃ a c, e = .returned (.slice a zs.length c) ∧ w'.ownsRow w.heap.size 3 1 (.slice a zs.length c) zs.length (intsV zs) ∧ Below w.heap.size w w'
theorem RetN.holds {w : World} {zs : List Int} {a : Option Addr} {n c : Nat} {base : Nat} (h : w.ownsRow base 3 1 (.slice a n c) n (intsV zs)) : HoldsI .i64 w a n zs := by
  have h1 := owns_holds h
  have hl : zs.length = n := by have := h.1; simpa [intsV] using this
  refine ⟨hl, fun h0 => ?_⟩
  obtain ⟨b, o, ha, hc⟩ := h1.2 h0
  refine ⟨b, o, ha, fun i hi => ?_⟩
  rw [hc i hi]
  unfold intsV
  rw [getD_map_int .i64 zs i (by omega)]
theorem tint_info : (Try.prog.info? 3).map (fun i => (i.zero, i.size, i.bytes)) = some (some (.int .i64 0), 1, 8) := by kernel_rfl
def askL (xs : List RecP) : List Int := (xs.filter fun x => decide (x.vd = 3)).map (·.id)
theorem askL_app (k l : List RecP) : askL (k ++ l) = askL k ++ askL l := by unfold askL; rw [List.filter_append, List.map_append]
theorem askL_next (l : List RecP) (j : Nat) (h : j < l.length) : askL (l.take (j + 1)) = askL (l.take j) ++ (if (l.getD j r0).vd = 3 then [(l.getD j r0).id] else []) := by
  rw [take_succ_getD l r0 j h, askL_app]
  congr 1
  unfold askL
  by_cases e : (l.getD j r0).vd = 3
  · rw [if_pos e, List.filter_cons_of_pos (by simpa using e)]; rfl
  · rw [if_neg e, List.filter_cons_of_neg (by simpa using e)]; rfl
theorem askL_len (l : List RecP) : (askL l).length ≤ l.length := by unfold askL; rw [List.length_map]; exact List.length_filter_le _ _
set_option maxHeartbeats 3200000 in
set_option maxRecDepth 100000 in
theorem tAsked_any (a : Option Addr) (n cap : Nat) (xs : List RecP) (w : World) (h : HoldsRc w a n xs) (hn : n ≤ 1000) :
    Calls Try.prog 9 #[.slice a n cap] w (RetN w (askL xs)) := by
  obtain ⟨i0, hi, hz0, hz1, hz2⟩ := info_parts tint_info
  have H := Lib.hid h
  have HN := Lib.hid h.len
  clear h
  go_enter Try.func9, Try.ntmps9
  go_wp2_with fail
  go_loopw [3, 5, 8] (fun ov bv iv wr => ∃ (j : Nat) (K : List Int) (av : Option Addr) (cv : Nat), j ≤ n ∧ K.length ≤ j ∧ iv = .int .i64 j ∧ ov = .slice av K.length cv ∧ Hid (K = askL (xs.take j)) ∧ Hid (wr.ownsRow w.heap.size 3 1 (.slice av K.length cv) K.length (intsV K)) ∧ Hid (Below w.heap.size w wr)) (fun _ _ iv _ => n - (intOf iv).toNat)
  case atStart => exact ⟨0, [], none, 0, by omega, by simp, rfl, rfl, Lib.hid rfl, Lib.hid (World.ownsRow_nil _ _ _ _), Lib.hid (Below.refl _ _)⟩
  case round =>
    obtain ⟨j, K, av, cv, hj, hKl, rfl, rfl, hK, hO, hB⟩ := hrel
    by_cases hlt : j < n
    · obtain ⟨rb, ro, rfl, hc⟩ := (H.out.below hB.out).at_ (by omega)
      have hx12 := hc j hlt
      have hws := askL_next xs j (by rw [HN.out]; exact hlt)
      rw [← hK.out] at hws
      obtain ⟨x, hxe⟩ : ∃ x, xs.getD j r0 = x := ⟨_, rfl⟩
      rw [hxe] at hx12 hws
      obtain ⟨c0, c1', c2', c3, c4, c5, c6, c7, c8, c9, c10, c11⟩ := hx12
      have i1 : (0 : Int) ≤ (j : Int) := by omega
      have i2 : (j : Int) < (n : Int) := by omega
      have BX := Lib.hid (below_one wr (.cells #[.int .i64 x.kd, .int .i64 x.nd, .int .i64 x.at_, .int .i64 x.ex, .string x.qt, .int .i64 x.qk, .int .i64 x.qn, .int .i64 x.vd, .int .i64 x.id, .slice x.sa x.sn x.sc, .int .i64 x.got, .slice x.la x.ln x.lc] 38))
      have SX := Lib.hid (recIn_new wr x wr.heap.size 38 (0, 0) rfl)
      have HW := Lib.hid hws
      have O3 := Lib.hid (owns_below hO.out BX.out)
      have B3 := Lib.hid (hB.out.trans (BX.out.mono hB.out.size))
      clear hc hxe hws
      go_upto_region 5 with fail
      clear c0 c1' c2' c3 c4 c5 c6 c7 c8 c9 c10 c11
      generalize wr.alloc (.cells #[.int .i64 x.kd, .int .i64 x.nd, .int .i64 x.at_, .int .i64 x.ex, .string x.qt, .int .i64 x.qk, .int .i64 x.qn, .int .i64 x.vd, .int .i64 x.id, .slice x.sa x.sn x.sc, .int .i64 x.got, .slice x.la x.ln x.lc] 38) = w3 at *
      generalize wr.heap.size = u at *
      obtain ⟨-, -, -, -, -, -, -, y7, y8, -, -, -⟩ := SX.out
      simp only [Nat.zero_add] at y7 y8
      have WS := Lib.hid B3.out.size
      by_cases hv : x.vd = 3
      · rw [hv] at y7
        have K2 := Lib.hid (show askL (xs.take (j + 1)) = K ++ [x.id] from by rw [HW.out, if_pos hv])
        clear hv HW
        go_wp2_with (at_builtin; refine wpList_append_any rfl (.tmp 15) (.tmp 18) 28 rfl w.heap.size 3 i0 _ 1 8 Try.underlying28 hi hz0 hz1 hz2 rfl (by decide) _ K.length _ rfl (O3.out.alloc _) _ 1 1 [.int .i64 x.id] rfl (some_none _) rfl (one_new _ _ _ _) (one_int _ _) (by unfold maxLen; omega) (by omega) (by have := WS.out; simp; omega) ?_; intro a4 c4 w4 hown4 hb4 hnil4)
        have O4 := Lib.hid (show w4.ownsRow w.heap.size 3 1 (.slice a4 (K ++ [x.id]).length c4) (K ++ [x.id]).length (intsV (K ++ [x.id])) from by
          rw [List.length_append, show intsV (K ++ [x.id]) = intsV K ++ [.int .i64 x.id] from by simp [intsV]]; exact hown4)
        have B4 := Lib.hid (B3.out.trans (((below_one w3 (.cells #[.int .i64 x.id] 3)).mono B3.out.size).trans hb4))
        clear hown4 hb4 hnil4
        go_roundw
        case rel => exact ⟨j + 1, K ++ [x.id], a4, c4, by omega, by simp; omega, by go_num, by simp, Lib.hid K2.out.symm, O4, B4⟩
        case measure => simp [intOf]; omega
      · have n3 : (x.vd == 3) = false := by rw [beq_eq_false_iff_ne]; exact hv
        have K2 := Lib.hid (show askL (xs.take (j + 1)) = K from by rw [HW.out, if_neg hv]; simp)
        clear hv HW
        go_wp2_with fail
        go_roundw
        case rel => exact ⟨j + 1, K, av, cv, by omega, by omega, by go_num, rfl, Lib.hid K2.out.symm, O3, B3⟩
        case measure => simp [intOf]; omega
    · obtain rfl : j = n := by omega
      have e1 : K = askL xs := by rw [hK.out, List.take_of_length_le (by rw [HN.out]; exact Nat.le_refl _)]
      have FF := Lib.hid (show RetN w (askL xs) (.returned (.slice av K.length cv)) wr from ⟨av, cv, by rw [e1], by rw [← e1]; exact hO.out, hB.out⟩)
      clear e1
      go_wp2_with fail
      go_ret
      exact FF.out
/-! numbers in order, each once -/
theorem mem_compactUpToZ (d : Array Int) (m : Nat) (z : Int) : z ∈ compactUpTo d m ↔ ∃ j, j < m ∧ d[j]! = z := by
  induction m with
  | zero => simp [compactUpTo]
  | succ m ih =>
    rw [compactUpTo_succ, List.mem_append, ih]
    by_cases hk : keeps d m
    · rw [if_pos hk]
      constructor
      · rintro (⟨j, h, e⟩ | h)
        · exact ⟨j, by omega, e⟩
        · simp at h; exact ⟨m, by omega, h.symm⟩
      · rintro ⟨j, h, e⟩
        by_cases h2 : j = m
        · subst h2; exact Or.inr (by simp [e])
        · exact Or.inl ⟨j, by omega, e⟩
    · rw [if_neg hk]
      have hm : ¬ (m = 0 ∨ d[m]! ≠ d[m - 1]!) := by simpa [keeps] using hk
      have h1 : m ≠ 0 := fun h => hm (Or.inl h)
      have h2 : d[m]! = d[m - 1]! := Classical.byContradiction fun h => hm (Or.inr h)
      constructor
      · rintro (⟨j, h, e⟩ | h)
        · exact ⟨j, by omega, e⟩
        · simp at h
      · rintro ⟨j, h, e⟩
        by_cases h3 : j = m
        · subst h3; exact Or.inl ⟨j - 1, by omega, by rw [← h2, e]⟩
        · exact Or.inl ⟨j, by omega, e⟩
theorem sorted_compactUpToZ (d : Array Int) (hw : ∀ i j, i < j → j < d.size → d[i]! ≤ d[j]!) (m : Nat) (hm : m ≤ d.size) : (compactUpTo d m).Pairwise fun x y => x < y := by
  induction m with
  | zero => simp [compactUpTo]
  | succ m ih =>
    rw [compactUpTo_succ]
    by_cases hk : keeps d m
    · rw [if_pos hk, List.pairwise_append]
      refine ⟨ih (by omega), by simp, fun z hz y hy => ?_⟩
      simp at hy
      subst hy
      obtain ⟨j, hj, rfl⟩ := (mem_compactUpToZ d m z).1 hz
      have hm2 : m = 0 ∨ d[m]! ≠ d[m - 1]! := by simpa [keeps] using hk
      rcases hm2 with h | h
      · omega
      · have h1 := hw (m - 1) m (by omega) (by omega)
        by_cases h3 : j = m - 1
        · subst h3; omega
        · have h4 := hw j (m - 1) (by omega) (by omega)
          omega
    · rw [if_neg hk]; simpa using ih (by omega)
/-- in order, each once -/
def canonZ (zs : List Int) : List Int := Lib.compact (zs.mergeSort fun x y => decide (x ≤ y))
theorem mem_canonZ (zs : List Int) (z : Int) : z ∈ canonZ zs ↔ z ∈ zs := by
  unfold canonZ Lib.compact
  rw [mem_compactUpToZ]
  have hl : (zs.mergeSort fun x y => decide (x ≤ y)).length = zs.length := List.length_mergeSort _
  constructor
  · rintro ⟨j, hj, e⟩
    rw [← List.mem_mergeSort (le := fun x y => decide (x ≤ y))]
    rw [getElem!_pos _ _ (by simpa using hj)] at e
    rw [← e]
    simp
  · intro h
    rw [← List.mem_mergeSort (le := fun x y => decide (x ≤ y))] at h
    obtain ⟨j, hj, e⟩ := List.mem_iff_getElem.1 h
    exact ⟨j, hj, by rw [getElem!_pos _ _ (by simpa using hj)]; simpa using e⟩
theorem canonZ_up (zs : List Int) : (canonZ zs).Pairwise fun x y => x < y := by
  unfold canonZ Lib.compact
  refine sorted_compactUpToZ _ (fun i j hij hj => ?_) _ (by simp)
  have hs := List.pairwise_mergeSort (le := fun x y : Int => decide (x ≤ y)) (fun a b c => by simp only [decide_eq_true_eq]; omega) (fun a b => by simp only [Bool.or_eq_true, decide_eq_true_eq]; omega) zs
  rw [List.pairwise_iff_getElem] at hs
  have hj' : j < (zs.mergeSort fun x y => decide (x ≤ y)).length := by simpa using hj
  have := hs i j (by omega) hj' hij
  rw [getElem!_pos _ _ (by simpa using (show i < (zs.mergeSort fun x y => decide (x ≤ y)).length by omega)), getElem!_pos _ _ (by simpa using hj)]
  simpa using this
theorem canonZ_len (zs : List Int) : (canonZ zs).length ≤ zs.length := by
  have h := Lib.compact_length_le (zs.mergeSort fun x y => decide (x ≤ y))
  rw [List.length_mergeSort] at h
  exact h
set_option maxHeartbeats 1000000 in
theorem sortZ_some (g n cap B : Nat) (zs : List Int) (w : World) (hown : w.ownsRow B 3 1 (.slice (some ⟨g, 0, none⟩) n cap) n (intsV zs)) (hn : n ≤ 1048576) :
    Calls Try.prog 10 #[.slice (some ⟨g, 0, none⟩) n cap] w fun e w' => e = .returned (.tuple #[]) ∧ w'.ownsRow B 3 1 (.slice (some ⟨g, 0, none⟩) n cap) n (intsV (zs.mergeSort fun x y => decide (x ≤ y))) ∧ (∀ b w0, B = b → Below b w0 w → Below b w0 w') := by
  rcases hown.2 with ⟨h0, _⟩ | ⟨g', cap', cur, hv, hbase, hb, h1, h2, h3, h4⟩
  · cases h0
  cases hv
  have hl : zs.length = n := by simpa [intsV] using hown.1
  subst hl
  rw [Nat.mul_one] at h4
  have hH := holds_of_blockI hb h4
  have hS := Any.slices_Sort_int Try.sortZ g 0 cap zs w hH (Array.getElem?_eq_some_iff.1 hb).1 (by omega)
  change Calls Try.prog 10 _ _ _ at hS
  refine hS.mono ?_
  rintro e w' ⟨rfl, q, os, rfl⟩
  have hl2 : (zs.mergeSort fun x y => decide (x ≤ y)).length = zs.length := List.length_mergeSort _
  refine ⟨rfl, ownsRow_sortedI (n := q) (os := os) hl2 hbase hb h1 h2 h3, ?_⟩
  rintro b w0 rfl hbel
  exact hbel.grown (grownBy_sortedI _) (by have := (Array.getElem?_eq_some_iff.1 hb).1; omega) fun j hj => by cases hj; exact hbase
set_option maxHeartbeats 1000000 in
theorem compactZ_some (g n cap B : Nat) (zs : List Int) (w : World) (hown : w.ownsRow B 3 1 (.slice (some ⟨g, 0, none⟩) n cap) n (intsV zs)) (hn : n ≤ 1048576) :
    Calls Try.prog 11 #[.slice (some ⟨g, 0, none⟩) n cap] w fun e w' => e = .returned (.slice (some ⟨g, 0, none⟩) (Lib.compact zs).length cap) ∧ w'.ownsRow B 3 1 (.slice (some ⟨g, 0, none⟩) (Lib.compact zs).length cap) (Lib.compact zs).length (intsV (Lib.compact zs)) ∧ (∀ b w0, B = b → Below b w0 w → Below b w0 w') := by
  rcases hown.2 with ⟨h0, _⟩ | ⟨g', cap', cur, hv, hbase, hb, h1, h2, h3, h4⟩
  · cases h0
  cases hv
  have hl : zs.length = n := by simpa [intsV] using hown.1
  subst hl
  rw [Nat.mul_one] at h4
  have hH := holds_of_blockI hb h4
  have hle := Lib.compact_length_le zs
  have hS := Any.slices_Compact_int Try.compactZ g 0 cap zs w hH (by omega) h1
  change Calls Try.prog 11 _ _ _ at hS
  refine hS.mono ?_
  rintro e w' ⟨rfl, q, rfl⟩
  have hc := Lib.ownsRow_putRow (q := q) (k := (Lib.compact zs).length) (ys := Lib.compact zs ++ List.replicate (zs.length - (Lib.compact zs).length) 0) hown (by simp; omega) (by omega)
  rw [List.take_left] at hc
  refine ⟨rfl, hc, ?_⟩
  rintro b w0 rfl hbel
  exact Lib.below_putRow hbel hbase
theorem sortZ_none (w : World) : Calls Try.prog 10 #[.slice none 0 0] w fun e w' => e = .returned (.tuple #[]) ∧ w = w' := by
  have hS := Any.slices_Sort_int_none Try.sortZ none 0 w
  change Calls Try.prog 10 _ _ _ at hS
  refine hS.mono ?_
  rintro e w' ⟨rfl, rfl⟩
  exact ⟨rfl, rfl⟩
theorem compactZ_none (w : World) : Calls Try.prog 11 #[.slice none 0 0] w fun e w' => e = .returned (.slice none 0 0) ∧ w = w' := by
  have hS := Any.slices_Compact_int_empty Try.compactZ none 0 w
  change Calls Try.prog 11 _ _ _ at hS
  refine hS.mono ?_
  rintro e w' ⟨rfl, rfl⟩
  exact ⟨rfl, rfl⟩
end Go.Proofs.Ythfoilnofljflaa
