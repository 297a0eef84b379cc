/- contract of list.Sorted -/
import Derived.Test.YtieenopbkkbecaaWs8
import Derived.Test.YtieenopbkkbecaaLk0
import Derived.Lib.OwnBridge
import Derived.Sort.OwnSorted
namespace Go.Proofs.Ytieenopbkkbecaa
open Go.RowKit Go.Shelf Go.Sort Go.Lib
set_option linter.unusedVariables false
def bsT (t : Tx) : List UInt8 := t.data.toList
def unT (l : List UInt8) : Tx := ⟨l.toArray⟩
theorem un_bs (t : Tx) : unT (bsT t) = t := by simp [unT, bsT]
theorem bs_un (l : List UInt8) : bsT (unT l) = l := by simp [unT, bsT]
theorem un_inj {x y : List UInt8} (h : unT x = unT y) : x = y := by rw [← bs_un x, h, bs_un]
def cfT (x y : List UInt8) : Int := cmpS (unT x) (unT y)
theorem swoT : SWO (ltOf cfT) := {
  irrefl x := by unfold ltOf cfT; rw [decide_eq_false_iff_not]; exact cmpS_irrefl _
  trans x y z h1 h2 := by unfold ltOf cfT at *; rw [decide_eq_true_iff] at *; exact cmpS_trans h1 h2
  ntrans x y z h1 h2 := by
    unfold ltOf cfT at *
    rw [decide_eq_false_iff_not] at *
    intro h
    rcases cmpS_bd (unT x) (unT y) with e | e | e
    · exact h1 (by omega)
    · rw [cmpS_zero.1 e] at h; exact h2 h
    · have h3 : cmpS (unT y) (unT x) < 0 := by rw [cmpS_swap (unT x)]; omega
      exact h2 (cmpS_trans h3 h) }
theorem totT (x y : List UInt8) (h1 : ltOf cfT x y = false) (h2 : ltOf cfT y x = false) : x = y := by
  unfold ltOf cfT at *
  rw [decide_eq_false_iff_not] at *
  have := cmpS_swap (unT x) (unT y)
  exact un_inj (cmpS_zero.1 (by omega))
theorem strs_enc (ts : List Tx) : strsV ts = (ts.map bsT).map encStr := by
  rw [List.map_map]; unfold strsV
  apply List.map_congr_left
  intro t _
  simp [bsT]
theorem enc_strs (zs : List (List UInt8)) : zs.map encStr = strsV (zs.map unT) := by
  unfold strsV; rw [List.map_map]; rfl
/-! what Compact leaves of a list in order -/
theorem mem_compactUpTo (d : Array (List UInt8)) (m : Nat) (z : List UInt8) : z ∈ compactUpTo d m ↔ ∃ j, j < m ∧ d[j]! = z := by
  induction m with
  | zero => simp [compactUpTo]
  | succ m ih =>
    rw [compactUpTo_succ, List.mem_append, ih]
    by_cases hk : keeps d m
    · rw [if_pos hk]
      constructor
      · rintro (⟨j, h, e⟩ | h)
        · exact ⟨j, by omega, e⟩
        · simp at h; exact ⟨m, by omega, h.symm⟩
      · rintro ⟨j, h, e⟩
        by_cases h2 : j = m
        · subst h2; exact Or.inr (by simp [e])
        · exact Or.inl ⟨j, by omega, e⟩
    · rw [if_neg hk]
      have hm : ¬ (m = 0 ∨ d[m]! ≠ d[m - 1]!) := by simpa [keeps] using hk
      have h1 : m ≠ 0 := fun h => hm (Or.inl h)
      have h2 : d[m]! = d[m - 1]! := Classical.byContradiction fun h => hm (Or.inr h)
      constructor
      · rintro (⟨j, h, e⟩ | h)
        · exact ⟨j, by omega, e⟩
        · simp at h
      · rintro ⟨j, h, e⟩
        by_cases h3 : j = m
        · subst h3; exact Or.inl ⟨j - 1, by omega, by rw [← h2, e]⟩
        · exact Or.inl ⟨j, by omega, e⟩
theorem sorted_compactUpTo (d : Array (List UInt8)) (hw : ∀ i j, i < j → j < d.size → ¬ cfT d[j]! d[i]! < 0) (m : Nat) (hm : m ≤ d.size) : (compactUpTo d m).Pairwise fun x y => cfT x y < 0 := by
  induction m with
  | zero => simp [compactUpTo]
  | succ m ih =>
    rw [compactUpTo_succ]
    by_cases hk : keeps d m
    · rw [if_pos hk, List.pairwise_append]
      refine ⟨ih (by omega), by simp, fun z hz y hy => ?_⟩
      simp at hy
      subst hy
      obtain ⟨j, hj, rfl⟩ := (mem_compactUpTo d m z).1 hz
      have hm2 : m = 0 ∨ d[m]! ≠ d[m - 1]! := by simpa [keeps] using hk
      rcases hm2 with h | h
      · omega
      · have h1 := hw (m - 1) m (by omega) (by omega)
        have h2 : cfT d[m - 1]! d[m]! < 0 := by
          unfold cfT at *
          have := cmpS_swap (unT d[m]!) (unT d[m - 1]!)
          rcases cmpS_bd (unT d[m]!) (unT d[m - 1]!) with e | e | e
          · omega
          · exact absurd (un_inj (cmpS_zero.1 e)) h
          · omega
        by_cases h3 : j = m - 1
        · subst h3; exact h2
        · have h4 := hw j (m - 1) (by omega) (by omega)
          unfold cfT at *
          have := cmpS_swap (unT d[m - 1]!) (unT d[j]!)
          rcases cmpS_bd (unT d[m - 1]!) (unT d[j]!) with e | e | e
          · omega
          · rw [← cmpS_zero.1 e]; exact h2
          · exact cmpS_trans (by omega) h2
    · rw [if_neg hk]; simpa using ih (by omega)
theorem compact_canon (ts : List Tx) : ((Lib.compact ((ts.map bsT).mergeSort fun x y => !(ltOf cfT) y x)).map unT) = canonS ts := by
  obtain ⟨zs, hz⟩ : ∃ zs, ((ts.map bsT).mergeSort fun x y => !(ltOf cfT) y x) = zs := ⟨_, rfl⟩
  have hp : zs.Perm (ts.map bsT) := by rw [← hz]; exact List.mergeSort_perm _ _
  have hs : zs.Pairwise fun x y => (!(ltOf cfT) y x) = true := by
    rw [← hz]
    refine List.pairwise_mergeSort (fun a b c h1 h2 => ?_) (fun a b => ?_) _
    · simp only [Bool.not_eq_true'] at *; exact swoT.ntrans _ _ _ h2 h1
    · cases h : ltOf cfT b a with
      | false => simp
      | true =>
        have := (swoT.irrefl a)
        cases h2 : ltOf cfT a b with
        | false => simp
        | true => rw [swoT.trans _ _ _ h2 h] at this; cases this
  rw [hz]
  have hw : ∀ i j, i < j → j < zs.toArray.size → ¬ cfT zs.toArray[j]! zs.toArray[i]! < 0 := by
    intro i j hij hj
    have hj' : j < zs.length := by simpa using hj
    have h1 := List.pairwise_iff_getElem.1 hs i j (by omega) hj' hij
    rw [getElem!_pos zs.toArray j hj, getElem!_pos zs.toArray i (by simp; omega)]
    simpa [ltOf] using h1
  refine canon_of ?_ fun z => ?_
  · have := sorted_compactUpTo zs.toArray hw zs.length (by simp)
    exact List.pairwise_map.2 this
  · rw [List.mem_map]
    constructor
    · rintro ⟨x, hx, rfl⟩
      obtain ⟨j, hj, rfl⟩ := (mem_compactUpTo _ _ _).1 hx
      have h1 : zs.toArray[j]! ∈ zs := by rw [getElem!_pos zs.toArray j (by simpa using hj)]; simp
      obtain ⟨t, ht, e⟩ := List.mem_map.1 (hp.mem_iff.1 h1)
      rw [← e, un_bs]; exact ht
    · intro hz2
      have h1 : bsT z ∈ zs := hp.mem_iff.2 (List.mem_map_of_mem hz2)
      obtain ⟨j, hj, e⟩ := List.getElem_of_mem h1
      exact ⟨bsT z, (mem_compactUpTo _ _ _).2 ⟨j, hj, by rw [getElem!_pos zs.toArray j (by simpa using hj)]; simpa using e⟩, un_bs z⟩
theorem cmp_lays (blk off size : Nat) (w : World) : CmpLays1 Try.prog 27 #[] encStr cfT blk off size w := by
  intro m os dk hs x y
  refine (compare_any (unT x) (unT y) _).mono ?_
  rintro e w' ⟨rfl, rfl⟩
  exact ⟨rfl, 0, #[], by rw [grow_empty]; rfl⟩
set_option maxHeartbeats 1000000 in
theorem sort_some (g n cap B : Nat) (ts : List Tx) (w : World) (hown : w.ownsRow B 9 1 (.slice (some ⟨g, 0, none⟩) n cap) n (strsV ts)) (hn : n ≤ 1048576) :
    Calls Try.prog 28 #[.slice (some ⟨g, 0, none⟩) n cap, .func (.func 27) #[] #[]] w fun e w' => e = .returned (.tuple #[]) ∧ w'.ownsRow B 9 1 (.slice (some ⟨g, 0, none⟩) n cap) n (((ts.map bsT).mergeSort fun x y => !(ltOf cfT) y x).map encStr) ∧ (∀ b w0, B = b → Below b w0 w → Below b w0 w') := by
  have eg : ∀ args w, (callFunc 27 args).run Try.prog w = .ok (.enter 27 args) w := enters_of Try.func27 (by kernel_rfl) rfl
  rw [strs_enc] at hown
  rcases hown.2 with ⟨h0, _⟩ | ⟨g', cap', cur, hv, hbase, hb, h1, h2, h3, h4⟩
  · cases h0
  cases hv
  have hl : (ts.map bsT).length = n := by simpa using hown.1
  subst hl
  rw [Nat.mul_one] at h4
  have hH := holds_of_block hb h4
  have hS := Any.slices_SortFunc_total Try.sortT encStr (fun _ => rfl) cfT swoT 27 #[] g 0 cap (ts.map bsT).toArray w eg (cmp_lays g 0 _ w) hH (Array.getElem?_eq_some_iff.1 hb).1 (by simp at hn ⊢; omega) totT
  change Calls Try.prog 28 _ _ _ at hS
  simp only [List.size_toArray] at hS
  refine hS.mono ?_
  rintro e w' ⟨rfl, q, os, rfl⟩
  have hl2 : ((ts.map bsT).mergeSort fun x y => !(ltOf cfT) y x).length = (ts.map bsT).length := List.length_mergeSort _
  refine ⟨rfl, ownsRow_sorted (n := q) (os := os) hl2 hbase hb h1 h2 h3, ?_⟩
  rintro b w0 rfl hbel
  exact hbel.grown (grownBy_sorted _) (by have := (Array.getElem?_eq_some_iff.1 hb).1; omega) fun j hj => by cases hj; exact hbase
set_option maxHeartbeats 1000000 in
theorem compact_some (g n cap B : Nat) (zs : List (List UInt8)) (w : World) (hown : w.ownsRow B 9 1 (.slice (some ⟨g, 0, none⟩) n cap) n (zs.map encStr)) (hn : n ≤ 1048576) :
    Calls Try.prog 29 #[.slice (some ⟨g, 0, none⟩) n cap] w fun e w' => e = .returned (.slice (some ⟨g, 0, none⟩) (Lib.compact zs).length cap) ∧ w'.ownsRow B 9 1 (.slice (some ⟨g, 0, none⟩) (Lib.compact zs).length cap) (Lib.compact zs).length (strsV ((Lib.compact zs).map unT)) ∧ (∀ b w0, B = b → Below b w0 w → Below b w0 w') := by
  rcases hown.2 with ⟨h0, _⟩ | ⟨g', cap', cur, hv, hbase, hb, h1, h2, h3, h4⟩
  · cases h0
  cases hv
  have hl : zs.length = n := by simpa using hown.1
  subst hl
  rw [Nat.mul_one] at h4
  have hH := holds_of_block hb h4
  have hle := Lib.compact_length_le zs
  have hS := Any.slices_Compact_string Try.compactT g 0 cap zs w hH (by omega) h1
  change Calls Try.prog 29 _ _ _ at hS
  refine hS.mono ?_
  rintro e w' ⟨rfl, q, rfl⟩
  have hc := Lib.ownsRow_putRow (q := q) (k := (Lib.compact zs).length) (ys := Lib.compact zs ++ List.replicate (zs.length - (Lib.compact zs).length) []) hown (by simp; omega) (by omega)
  rw [List.take_left, enc_strs] at hc
  refine ⟨rfl, hc, ?_⟩
  rintro b w0 rfl hbel
  exact Lib.below_putRow hbel hbase
theorem sort_none (w : World) : Calls Try.prog 28 #[.slice none 0 0, .func (.func 27) #[] #[]] w fun e w' => e = .returned (.tuple #[]) ∧ w = w' := by
  have hS := AnyF.slices_SortFunc_none (P := Try.prog) (ρ := Try.sortT_ren) { Try.sortT with } none 0 (.func (.func 27) #[] #[]) w
  change Calls Try.prog 28 _ _ _ at hS
  refine hS.mono ?_
  rintro e w' ⟨rfl, rfl⟩
  exact ⟨rfl, rfl⟩
theorem compact_none (w : World) : Calls Try.prog 29 #[.slice none 0 0] w fun e w' => e = .returned (.slice none 0 0) ∧ w = w' := by
  have hS := Any.slices_Compact_string_empty Try.compactT none 0 w
  change Calls Try.prog 29 _ _ _ at hS
  refine hS.mono ?_
  rintro e w' ⟨rfl, rfl⟩
  exact ⟨rfl, rfl⟩
end Go.Proofs.Ytieenopbkkbecaa
