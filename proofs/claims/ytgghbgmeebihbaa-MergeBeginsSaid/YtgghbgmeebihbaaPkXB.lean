/- texts joined -/
import Derived.WalkKit
import Derived.ProofKit
import Derived.OpenShut
import Derived.Lib.SmallJoins
import Derived.Lib.Hide
import Derived.Deep.Slices
import Derived.OwnWalk
import Derived.Laws.AppendOwnNone
import Derived.Test.YtgghbgmeebihbaaChecked
import Derived.WalkLawsBesides
import Derived.Outline
import Derived.Sort.Walk0
import Derived.Laws.RangeAny
import Derived.Lib.DecodeN
import Derived.Deep.QuietTactic
import Derived.BigQuiet
import Derived.SliceStrings
import Derived.Lib.OthersKept
import Derived.Deep.DeepCutAuto
import Derived.Deep.RegionHeld3
import Derived.Laws.OwnMore
import Derived.Lib.SliceRun
import Derived.Deep.RegionWith
import Derived.Sort.Grow
import Derived.Deep.RegionLaw
import Derived.Deep.AppendLies
import Derived.Laws.AppendOwn
import Derived.WalkSpells
import Derived.Shelf.SlSortCmp.NoneTotal
import Derived.Ground.SlsfProg
import Derived.Sort.OwnSorted
import Derived.Deep.CutRange
import Derived.Deep.CutBlock
import Derived.Test.YtgghbgmeebihbaaPkXA
namespace Go.Proofs.Ytgghbgmeebihbaa
open Go.RowKit
set_option linter.unusedVariables false
set_option maxRecDepth 20000
set_option maxHeartbeats 400000 in
theorem sameItems_quiet (a1 a2 : Option Addr) (n c1 c2 : Nat) (z : List KV) (w : World) (h1 : HoldsK w a1 n z) (h2 : HoldsK w a2 n z) (hl : n ≤ 4611686018427387904) :
    Calls Try.prog 20 #[.slice a1 n c1, .slice a2 n c2] w fun e w' => e = .returned (.bool true) ∧ ∃ m, w' = w.drewN m := by
  have H1 := Lib.hid h1; have H2 := Lib.hid h2
  have hb : ((n : Int) != (n : Int)) = false := by simp
  clear h1 h2
  go_enter Try.func20, Try.ntmps20
  go_wp2
  go_loopw [5] (fun i wr => ∃ k m : Nat, k ≤ n ∧ i = .int .i64 k ∧ wr = w.drewN m) (fun i _ => n - (intOf i).toNat)
  case atStart => exact ⟨0, 0, by omega, rfl, rfl⟩
  case round =>
    obtain ⟨k, m, hk, rfl, rfl⟩ := hrel
    by_cases hlt : k < n
    · obtain ⟨b1, o1, rfl, k1⟩ := H1.out.at (by omega)
      obtain ⟨b2, o2, rfl, k2⟩ := H2.out.at (by omega)
      obtain ⟨e1, e2⟩ := k1 k hlt
      obtain ⟨e3, e4⟩ := k2 k hlt
      obtain ⟨x, hx⟩ : ∃ x, z.getD k k0 = x := ⟨_, rfl⟩
      rw [hx] at e1 e2 e3 e4
      obtain ⟨x1, x2⟩ := x
      simp only at e1 e2 e3 e4
      have f1 : (x1 == x1) = true := by simp
      have f2 := str_same x2
      clear hx k1 k2
      go_wp2
      go_quiet (fail)
      go_wp2
      go_roundw
      case rel => exact ⟨k + 1, _, by omega, by go_num, rfl⟩
      case measure => simp [intOf]; omega
    · go_wp2
      go_ret
      exact ⟨rfl, _, rfl⟩
theorem sameItems_yes (a1 a2 : Option Addr) (n c1 c2 : Nat) (z : List KV) (w : World) (h1 : HoldsK w a1 n z) (h2 : HoldsK w a2 n z) (hl : n ≤ 4611686018427387904) :
    Calls Try.prog 20 #[.slice a1 n c1, .slice a2 n c2] w fun e w' => e = .returned (.bool true) ∧ Below w.heap.size w w' :=
  (sameItems_quiet a1 a2 n c1 c2 z w h1 h2 hl).mono fun _ _ ⟨h, m, hm⟩ => ⟨h, by rw [hm]; exact below_drewN _ _⟩
end Go.Proofs.Ytgghbgmeebihbaa
namespace Go.Proofs.Ytgghbgmeebihbaa
open Go.Shelf Go.RowKit
def Try.sortI_ren : Go.Shelf.Ren := ⟨fun | 6 => 55 | 15 => 67 | 14 => 66 | 28 => 82 | 29 => 83 | 20 => 74 | 21 => 75 | 22 => 76 | 23 => 77 | 24 => 78 | 25 => 79 | 26 => 80 | 27 => 81 | 46 => 87 | 47 => 88 | 48 => 89 | 49 => 90 | 50 => 91 | 57 => 94 | n => n, fun | 22 => 34 | 24 => 61 | 25 => 97 | 3 => 3 | 39 => 93 | 0 => 0 | 53 => 119 | 55 => 121 | 4 => 4 | 46 => 113 | 45 => 112 | 50 => 94 | 5 => 5 | 9 => 9 | 66 => 124 | 70 => 128 | 76 => 132 | 77 => 133 | n => n, fun | n => n⟩
theorem Try.sortI : Go.Proofs.SlLaysF0.n6 Try.prog Try.sortI_ren := {
  mixed := by kernel_rfl
  f6 := ⟨Try.f55.name, by decide, Try.func55.trans (congrArg some (by kernel_rfl))⟩
  f14 := ⟨Try.f66.name, by decide, Try.func66.trans (congrArg some (by kernel_rfl))⟩
  f15 := Try.func67.trans (congrArg some (by kernel_rfl))
  f20 := ⟨Try.f74.name, by decide, Try.func74.trans (congrArg some (by kernel_rfl))⟩
  f21 := ⟨Try.f75.name, by decide, Try.func75.trans (congrArg some (by kernel_rfl))⟩
  f22 := ⟨Try.f76.name, by decide, Try.func76.trans (congrArg some (by kernel_rfl))⟩
  f23 := ⟨Try.f77.name, by decide, Try.func77.trans (congrArg some (by kernel_rfl))⟩
  f24 := ⟨Try.f78.name, by decide, Try.func78.trans (congrArg some (by kernel_rfl))⟩
  f25 := ⟨Try.f79.name, by decide, Try.func79.trans (congrArg some (by kernel_rfl))⟩
  f26 := ⟨Try.f80.name, by decide, Try.func80.trans (congrArg some (by kernel_rfl))⟩
  f27 := ⟨Try.f81.name, by decide, Try.func81.trans (congrArg some (by kernel_rfl))⟩
  f28 := Try.func82.trans (congrArg some (by kernel_rfl))
  f29 := Try.func83.trans (congrArg some (by kernel_rfl))
  f46 := ⟨Try.f87.name, by decide, Try.func87.trans (congrArg some (by kernel_rfl))⟩
  f47 := Try.func88.trans (congrArg some (by kernel_rfl))
  f48 := Try.func89.trans (congrArg some (by kernel_rfl))
  f49 := ⟨Try.f90.name, by decide, Try.func90.trans (congrArg some (by kernel_rfl))⟩
  f50 := ⟨Try.f91.name, by decide, Try.func91.trans (congrArg some (by kernel_rfl))⟩
  f57 := ⟨Try.f94.name, by decide, Try.func94.trans (congrArg some (by kernel_rfl))⟩
  t0 := Try.underlying0
  a0 := Try.isAgg0
  z0 := Try.sizeOf0
  v0 := Try.zeroValue0
  t3 := Try.underlying3
  a3 := Try.isAgg3
  z3 := Try.sizeOf3
  v3 := Try.zeroValue3
  t4 := Try.underlying4
  a4 := Try.isAgg4
  z4 := Try.sizeOf4
  v4 := Try.zeroValue4
  t5 := Try.underlying5
  a5 := Try.isAgg5
  z5 := Try.sizeOf5
  v5 := Try.zeroValue5
  t9 := Try.underlying9
  a9 := Try.isAgg9
  z9 := Try.sizeOf9
  v9 := Try.zeroValue9
  t22 := Try.underlying34
  a22 := Try.isAgg34
  z22 := Try.sizeOf34
  v22 := Try.zeroValue34
  t25 := Try.underlying97
  a25 := Try.isAgg97
  z25 := Try.sizeOf97
  v25 := Try.zeroValue97
  t39 := Try.underlying93
  a39 := Try.isAgg93
  z39 := Try.sizeOf93
  v39 := Try.zeroValue93
  t45 := Try.underlying112
  a45 := Try.isAgg112
  z45 := Try.sizeOf112
  v45 := Try.zeroValue112
  t46 := Try.underlying113
  a46 := Try.isAgg113
  z46 := Try.sizeOf113
  v46 := Try.zeroValue113
  t50 := Try.underlying94
  a50 := Try.isAgg94
  z50 := Try.sizeOf94
  v50 := Try.zeroValue94
  t53 := Try.underlying119
  a53 := Try.isAgg119
  z53 := Try.sizeOf119
  v53 := Try.zeroValue119
  t55 := Try.underlying121
  a55 := Try.isAgg121
  z55 := Try.sizeOf121
  v55 := Try.zeroValue121
  t66 := Try.underlying124
  a66 := Try.isAgg124
  z66 := Try.sizeOf124
  v66 := Try.zeroValue124
  t70 := Try.underlying128
  a70 := Try.isAgg128
  z70 := Try.sizeOf128
  v70 := Try.zeroValue128
  t76 := Try.underlying132
  a76 := Try.isAgg132
  z76 := Try.sizeOf132
  v76 := Try.zeroValue132
  t77 := Try.underlying133
  a77 := Try.isAgg133
  z77 := Try.sizeOf133
  v77 := Try.zeroValue133 }
end Go.Proofs.Ytgghbgmeebihbaa
namespace Go.Proofs.Ytgghbgmeebihbaa
open Go.RowKit Go.Shelf Go.Sort Go.Lib
set_option linter.unusedVariables false
set_option maxRecDepth 20000
def encI (x : KV) : List Value := [.int .i64 x.1, .string x.2]
instance : Inhabited KV := ⟨k0⟩
theorem keysV_get (ks : List KV) (t : Nat) (h : t < ks.length * 2) : (keysV ks).toArray[t]! = (encI (ks.toArray[t / 2]!))[t % 2]! := by
  have hi : t / 2 < ks.length := by omega
  obtain ⟨e0, e1⟩ := keysV_at ks (t / 2) hi
  have hk : ks.toArray[t / 2]! = ks.getD (t / 2) k0 := by
    rw [getElem!_pos ks.toArray (t / 2) (by simpa using hi)]; simp [List.getD_eq_getElem?_getD, hi]
  have hl : t < (keysV ks).length := by rw [keysV_len]; exact h
  rw [hk, getElem!_pos (keysV ks).toArray t (by simpa using hl)]
  have hg : (keysV ks)[t]? = some ((keysV ks)[t]'hl) := List.getElem?_eq_getElem hl
  rcases Nat.mod_two_eq_zero_or_one t with m | m
  · rw [show t / 2 * 2 = t by omega] at e0
    rw [e0] at hg
    rw [m]; simpa [encI] using (Option.some.inj hg).symm
  · rw [show t / 2 * 2 + 1 = t by omega] at e1
    rw [e1] at hg
    rw [m]; simpa [encI] using (Option.some.inj hg).symm
theorem flat_keys (ks : List KV) : flatK encI 2 ks.toArray = (keysV ks).toArray := by
  refine ext_get! (by simp [keysV_len]) fun t ht => ?_
  have ht' : t < ks.length * 2 := by simpa using ht
  rw [get_flatK encI 2 ks.toArray t (by simpa using ht'), keysV_get ks t ht']
theorem swoI : SWO (ltOf ordK) := {
  irrefl x := by unfold ltOf; rw [decide_eq_false_iff_not]; exact ordK_irrefl _
  trans x y z h1 h2 := by unfold ltOf at *; rw [decide_eq_true_iff] at *; exact ordK_trans h1 h2
  ntrans x y z h1 h2 := by
    unfold ltOf at *
    rw [decide_eq_false_iff_not] at *
    exact ordK_le_trans h2 h1 }
theorem totI (x y : KV) (h1 : ltOf ordK x y = false) (h2 : ltOf ordK y x = false) : x = y := by
  unfold ltOf at *
  rw [decide_eq_false_iff_not] at *
  exact leK_asymm h2 h1
theorem cmpI_lays (blk off size : Nat) (w : World) : CmpLays Try.prog 56 #[] encI 2 ordK blk off size w := by
  intro m os dk hs x y
  refine (iorder_grows x y _).mono ?_
  rintro e w' ⟨rfl, q, os', rfl⟩
  exact ⟨rfl, q, os', rfl⟩
theorem isAggI (w : World) : (isAgg 61).run Try.prog w = .ok true w := by kernel_rfl
theorem sizeI (w : World) : (Go.sizeOf 61).run Try.prog w = .ok 2 w := by kernel_rfl
theorem heap_sortedK {w : World} {g n : Nat} {os : Array Obj} {cur : Array Value} {e : TypeId} {fr : Nat × Nat} (d : Array Value) (hb : w.heap[g]? = some (.cells cur e fr)) :
    (grow (putRow id (Sort.ahead w n) g 0 d) os).heap[g]? = some (.cells (putCells id 0 d cur) e fr) := by
  have hg : g < w.heap.size := (Array.getElem?_eq_some_iff.1 hb).1
  rw [heap_grow_old _ _ (by simpa using hg)]
  simp [putRow, mapBlock, Sort.ahead, Array.getElem?_modify, hb, onCells]
theorem grownBy_sortedK {w : World} {g n : Nat} {os : Array Obj} (d : Array Value) : w.grownBy (grow (putRow id (Sort.ahead w n) g 0 d) os) (some g) := by
  refine ⟨rfl, rfl, rfl, by simp, fun k hk hne => ?_⟩
  rw [heap_grow_old _ _ (by simpa using hk)]
  have : g ≠ k := fun e => hne (by rw [e])
  simp [putRow, mapBlock, Sort.ahead, Array.getElem?_modify, this]
theorem take_putCellsK (cur : Array Value) (ts : List Value) (h : ts.length ≤ cur.size) : (putCells id 0 ts.toArray cur).toList.take ts.length = ts := by
  apply List.ext_getElem?
  intro j
  by_cases hj : j < ts.length
  · rw [List.getElem?_take_of_lt hj, Array.getElem?_toList]
    simp [putCells, hj, show j < cur.size by omega]
  · rw [List.getElem?_take_eq_none (by omega), List.getElem?_eq_none (by omega)]
set_option maxHeartbeats 1000000 in
theorem sortI_some (g n cap B : Nat) (ks : List KV) (w : World) (hown : w.ownsRow B 61 2 (.slice (some ⟨g, 0, none⟩) n cap) n (keysV ks)) (hn : n ≤ 1048576) :
    Calls Try.prog 55 #[.slice (some ⟨g, 0, none⟩) n cap, .func (.func 56) #[] #[]] w fun e w' => e = .returned (.tuple #[]) ∧ w'.ownsRow B 61 2 (.slice (some ⟨g, 0, none⟩) n cap) n (keysV (sortK ks)) ∧ (∀ b w0, b ≤ B → Below b w0 w → Below b w0 w') := by
  have eg : ∀ args w, (callFunc 56 args).run Try.prog w = .ok (.enter 56 args) w := enters_of Try.func56 (by kernel_rfl) rfl
  rcases hown.2 with ⟨h0, _⟩ | ⟨g', cap', cur, hv, hbase, hb, h1, h2, h3, h4⟩
  · cases h0
  cases hv
  have hl : ks.length = n := by have := hown.1; rw [keysV_len] at this; omega
  subst hl
  have hgl := (Array.getElem?_eq_some_iff.1 hb).1
  have hH : Go.Sort.HoldsK encI 2 w g 0 ks.toArray := by
    unfold Go.Sort.HoldsK
    rw [flat_keys]
    intro j hj
    have hj' : j < ks.length * 2 := by simpa [keysV_len] using hj
    refine ⟨?_, by simp [World.frozen?, hb]⟩
    have h5 : (cur.toList.take (ks.length * 2))[j]? = (keysV ks)[j]? := by rw [h4]
    rw [List.getElem?_take_of_lt hj'] at h5
    simp only [World.cell?, hb, Nat.zero_add]
    simp only [Option.isSome_none, Bool.false_eq_true, if_false]
    rw [← Array.getElem?_toList, h5]
    have hlt : j < (keysV ks).length := by rw [keysV_len]; exact hj'
    rw [List.getElem?_eq_getElem hlt, getElem!_pos (keysV ks).toArray j (by simpa using hlt)]
    simp
  have hS := AnyQ.slices_SortFunc_total Try.sortI 2 isAggI sizeI encI (fun _ => rfl) (fun x v hv => by simp [encI] at hv; rcases hv with rfl | rfl <;> rfl) ordK swoI 56 #[] g 0 cap ks.toArray w eg (cmpI_lays g 0 _ w) hH hgl (by simp at hn ⊢; omega) totI
  change Calls Try.prog 55 _ _ _ at hS
  simp only [List.size_toArray] at hS
  refine hS.mono ?_
  rintro e w' ⟨rfl, q, os, rfl⟩
  have hm : (ks.mergeSort fun x y => !(ltOf ordK) y x) = sortK ks := mergeK ks
  rw [hm]
  have hsl := sortK_length ks
  have hfl : (flatK encI 2 (sortK ks).toArray) = (keysV (sortK ks)).toArray := flat_keys _
  unfold sortWorldK putRowK
  rw [hfl]
  refine ⟨rfl, ⟨by rw [keysV_len, hsl], Or.inr ⟨g, cap, _, rfl, hbase, heap_sortedK _ hb, h1, h2, by simp [putCells, h3], ?_⟩⟩, ?_⟩
  · have := take_putCellsK cur (keysV (sortK ks)) (by rw [keysV_len, hsl, h3]; exact Nat.mul_le_mul_right 2 h1)
    rwa [keysV_len, hsl] at this
  · intro b w0 hbB hbel
    exact hbel.grown (grownBy_sortedK _) (by omega) fun j hj => by cases hj; omega
theorem sortI_none (c : Nat) (w : World) : Calls Try.prog 55 #[.slice none 0 c, .func (.func 56) #[] #[]] w fun e w' => e = .returned (.tuple #[]) ∧ w = w' := by
  have hS := AnyF.slices_SortFunc_none (P := Try.prog) (ρ := Try.sortI_ren) { Try.sortI with } none c (.func (.func 56) #[] #[]) w
  change Calls Try.prog 55 _ _ _ at hS
  refine hS.mono ?_
  rintro e w' ⟨rfl, rfl⟩
  exact ⟨rfl, rfl⟩
end Go.Proofs.Ytgghbgmeebihbaa
namespace Go.Proofs.Ytgghbgmeebihbaa
open Go.RowKit
set_option linter.unusedVariables false
set_option maxRecDepth 20000
def badP (r n : Int) : Prop := n = 0 ∨ ¬ goodP r ∨ (n = 3 ∧ r < 2048) ∨ (n = 4 ∧ r < 65536)
instance (r n : Int) : Decidable (badP r n) := by unfold badP; infer_instance
end Go.Proofs.Ytgghbgmeebihbaa
namespace Go.Proofs.Ytgghbgmeebihbaa
open Go.RowKit
set_option linter.unusedVariables false
set_option maxRecDepth 20000
theorem asked_any (s : ByteArray) (w : World) (hs : s.size ≤ 9223372036854775807) :
    Calls Try.prog 51 #[.string s] w fun e w' => e = .returned (.bool (decide (0 ≤ lenS s ∧ lenS s ≤ 16))) ∧ Below w.heap.size w w' := by
  have h1 := Lib.hid (len_any s w hs)
  obtain ⟨n, hn⟩ : ∃ n, lenS s = n := ⟨_, rfl⟩
  rw [hn] at h1 ⊢
  clear hn
  have hc : n < 0 ∨ (0 ≤ n ∧ n ≤ 16) ∨ (0 ≤ n ∧ 16 < n) := by omega
  rcases hc with h | ⟨h, h2⟩ | ⟨h, h2⟩
  · rw [decide_eq_false (by omega)]
    go_enter Try.func51, Try.ntmps51
    go_wp2_with fail
    refine h1.out.mono ?_
    rintro e w' ⟨rfl, hb⟩
    go_wp2_with fail
    go_ret
    exact ⟨rfl, hb⟩
  · rw [decide_eq_true (by omega)]
    have x1 : decide (n ≤ 16) = true := by simpa using h2
    go_enter Try.func51, Try.ntmps51
    go_wp2_with fail
    refine h1.out.mono ?_
    rintro e w' ⟨rfl, hb⟩
    go_wp2_with fail
    go_ret
    exact ⟨ret_bool (by simp [*]), hb⟩
  · rw [decide_eq_false (by omega)]
    have x1 : decide (n ≤ 16) = false := by simpa using h2
    go_enter Try.func51, Try.ntmps51
    go_wp2_with fail
    refine h1.out.mono ?_
    rintro e w' ⟨rfl, hb⟩
    go_wp2_with fail
    go_ret
    exact ⟨ret_bool (by simp [*]), hb⟩
end Go.Proofs.Ytgghbgmeebihbaa
namespace Go.Proofs.Ytgghbgmeebihbaa
open Go.RowKit
set_option linter.unusedVariables false
set_option maxRecDepth 20000
/-- a query that may be asked -/
def mayP (s : ByteArray) (k n : Int) : Prop := (0 ≤ k ∧ k ≤ 4) ∧ (1 ≤ n ∧ n ≤ 10) ∧ 0 ≤ lenS s ∧ lenS s ≤ 16
instance (s : ByteArray) (k n : Int) : Decidable (mayP s k n) := by unfold mayP; infer_instance
theorem qmay_any (s : ByteArray) (k n : Int) (w : World) (hs : s.size ≤ 9223372036854775807) :
    Calls Try.prog 24 #[.agg #[.string s, .int .i64 k, .int .i64 n]] w fun e w' => e = .returned (.bool (decide (mayP s k n))) ∧ Below w.heap.size w w' := by
  have hA := Lib.hid (fun w => asked_any s w hs)
  by_cases h1 : 0 ≤ k
  case neg =>
    rw [decide_eq_false (fun x => h1 x.1.1)]
    go_enter Try.func24, Try.ntmps24
    go_wp2_with fail
    go_ret
    exact ⟨rfl, below_one _ _⟩
  by_cases h2 : k ≤ 4
  case neg =>
    rw [decide_eq_false (fun x => h2 x.1.2)]
    go_enter Try.func24, Try.ntmps24
    go_wp2_with fail
    go_ret
    exact ⟨rfl, below_one _ _⟩
  by_cases h3 : 1 ≤ n
  case neg =>
    rw [decide_eq_false (fun x => h3 x.2.1.1)]
    go_enter Try.func24, Try.ntmps24
    go_wp2_with fail
    go_ret
    exact ⟨rfl, below_one _ _⟩
  by_cases h4 : n ≤ 10
  case neg =>
    rw [decide_eq_false (fun x => h4 x.2.1.2)]
    go_enter Try.func24, Try.ntmps24
    go_wp2_with fail
    go_ret
    exact ⟨rfl, below_one _ _⟩
  rw [show decide (mayP s k n) = decide (0 ≤ lenS s ∧ lenS s ≤ 16) by unfold mayP; simp [h1, h2, h3, h4]]
  generalize decide (0 ≤ lenS s ∧ lenS s ≤ 16) = c at *
  go_enter Try.func24, Try.ntmps24
  go_wp2_with fail
  refine (hA.out _).mono ?_
  rintro e w' ⟨rfl, hb⟩
  go_wp2_with fail
  go_ret
  exact ⟨rfl, (below_one _ _).trans (hb.mono (by simp))⟩
end Go.Proofs.Ytgghbgmeebihbaa
namespace Go.Proofs.Ytgghbgmeebihbaa
set_option linter.unusedVariables false
set_option maxRecDepth 20000
namespace Ed
def cost (x y : Int) : Int := if x = y then 0 else 1
theorem cost_bd (x y : Int) : 0 ≤ cost x y ∧ cost x y ≤ 1 := by unfold cost; split <;> omega
/-- the distance of the first i of a and the first j of b -/
def L (a b : List Int) : Nat → Nat → Int
  | 0, j => j
  | i + 1, 0 => (i : Int) + 1
  | i + 1, j + 1 => min (min (L a b i j + cost (a.getD i 0) (b.getD j 0)) (L a b (i + 1) j + 1)) (L a b i (j + 1) + 1)
/-- a row of the table turned into the next one, for the rune r -/
def adv (R : List Int) (a : List Int) (r : Int) : Nat → Int
  | 0 => R.getD 0 0 + 1
  | i + 1 => min (min (R.getD i 0 + cost (a.getD i 0) r) (R.getD (i + 1) 0 + 1)) (adv R a r i + 1)
/-- the row of the first j of b -/
def row (a b : List Int) (j : Nat) : List Int := (List.range (a.length + 1)).map fun i => L a b i j
theorem row_length (a b : List Int) (j : Nat) : (row a b j).length = a.length + 1 := by simp [row]
theorem row_getD (a b : List Int) (j i : Nat) (h : i ≤ a.length) : (row a b j).getD i 0 = L a b i j := by
  simp [row, List.getD_eq_getElem?_getD, show i < a.length + 1 by omega]
theorem adv_row (a b : List Int) (j i : Nat) (h : i ≤ a.length) : adv (row a b j) a (b.getD j 0) i = L a b i (j + 1) := by
  induction i with
  | zero => rw [adv, row_getD a b j 0 (by omega)]; simp only [L]; omega
  | succ i ih => rw [adv, row_getD a b j i (by omega), row_getD a b j (i + 1) h, ih (by omega)]; simp only [L]
/-- the first k + 1 of a row turned, the rest as it was -/
def mix (R : List Int) (a : List Int) (r : Int) (k : Nat) : List Int := (List.range R.length).map fun i => if i ≤ k then adv R a r i else R.getD i 0
theorem mix_length (R a : List Int) (r : Int) (k : Nat) : (mix R a r k).length = R.length := by simp [mix]
theorem mix_old (R a : List Int) (r : Int) (k i : Nat) (h : i < R.length) (hk : k < i) : (mix R a r k).getD i 0 = R.getD i 0 := by
  simp [mix, List.getD_eq_getElem?_getD, h, show ¬ i ≤ k by omega]
theorem mix_new (R a : List Int) (r : Int) (k i : Nat) (h : i < R.length) (hk : i ≤ k) : (mix R a r k).getD i 0 = adv R a r i := by
  simp [mix, List.getD_eq_getElem?_getD, h, hk]
theorem mix_set (R a : List Int) (r : Int) (k : Nat) (h : k + 1 < R.length) : (mix R a r k).set (k + 1) (adv R a r (k + 1)) = mix R a r (k + 1) := by
  apply List.ext_getElem
  · simp [mix]
  · intro i h1 h2
    rw [List.getElem_set]
    simp only [mix, List.getElem_map, List.getElem_range]
    by_cases e : k + 1 = i
    · subst e; simp
    · rw [if_neg e]
      by_cases h3 : i ≤ k
      · simp [h3, show i ≤ k + 1 by omega]
      · simp [h3, show ¬ i ≤ k + 1 by omega]
theorem mix_zero (R a : List Int) (r : Int) (h : 0 < R.length) : R.set 0 (R.getD 0 0 + 1) = mix R a r 0 := by
  apply List.ext_getElem
  · simp [mix]
  · intro i h1 h2
    rw [List.getElem_set]
    simp only [mix, List.getElem_map, List.getElem_range]
    by_cases e : 0 = i
    · subst e; simp [adv]
    · rw [if_neg e, if_neg (by omega)]
      have h3 : i < R.length := by simpa using h1
      simp [List.getD_eq_getElem?_getD, h3]
theorem mix_all (a b : List Int) (j : Nat) : mix (row a b j) a (b.getD j 0) a.length = row a b (j + 1) := by
  unfold mix
  rw [row_length]
  refine List.map_congr_left fun i hi => ?_
  have := List.mem_range.1 hi
  rw [if_pos (by omega), adv_row a b j i (by omega)]
theorem adv_bd (R a : List Int) (r M : Int) (hM : 0 ≤ M) (h : ∀ i, 0 ≤ R.getD i 0 ∧ R.getD i 0 ≤ M) (i : Nat) : 0 ≤ adv R a r i ∧ adv R a r i ≤ M + 1 := by
  induction i with
  | zero => have := h 0; simp only [adv]; omega
  | succ i ih => have h1 := h i; have h2 := h (i + 1); have h3 := cost_bd (a.getD i 0) r; simp only [adv]; omega
theorem L_bd (a b : List Int) : ∀ i j, 0 ≤ L a b i j ∧ L a b i j ≤ (i : Int) + j := by
  intro i
  induction i with
  | zero => intro j; simp only [L]; omega
  | succ i ih =>
    intro j
    induction j with
    | zero => simp only [L]; omega
    | succ j ihj => have h1 := ih j; have h2 := ih (j + 1); have h3 := cost_bd (a.getD i 0) (b.getD j 0); simp only [L]; omega
theorem row_bd (a b : List Int) (j : Nat) : ∀ i, 0 ≤ (row a b j).getD i 0 ∧ (row a b j).getD i 0 ≤ (a.length : Int) + j := by
  intro i
  by_cases h : i ≤ a.length
  · rw [row_getD a b j i h]; have := L_bd a b i j; omega
  · have : (row a b j).getD i 0 = 0 := by
      rw [List.getD_eq_getElem?_getD, List.getElem?_eq_none (by rw [row_length]; omega)]; rfl
    omega
end Ed
end Go.Proofs.Ytgghbgmeebihbaa
namespace Go.Proofs.Ytgghbgmeebihbaa
set_option linter.unusedVariables false
set_option maxRecDepth 20000
namespace Ed
theorem L_zero (a b : List Int) (i : Nat) : L a b i 0 = (i : Int) := by
  cases i with
  | zero => simp only [L]
  | succ i => simp only [L]; omega
theorem L_zeroL (a b : List Int) (j : Nat) : L a b 0 j = (j : Int) := by simp only [L]
end Ed
end Go.Proofs.Ytgghbgmeebihbaa
namespace Go.Proofs.Ytgghbgmeebihbaa
set_option linter.unusedVariables false
set_option maxRecDepth 20000
namespace Ed
theorem L_low (a b : List Int) : ∀ (i j : Nat), (i : Int) - j ≤ L a b i j ∧ (j : Int) - i ≤ L a b i j := by
  intro i
  induction i with
  | zero => intro j; rw [L_zeroL]; omega
  | succ i ih =>
    intro j
    induction j with
    | zero => rw [L_zero]; omega
    | succ j ihj => have h1 := ih j; have h2 := ih (j + 1); have h3 := cost_bd (a.getD i 0) (b.getD j 0); simp only [L]; omega
theorem L_diag (a b : List Int) (i j : Nat) : L a b (i + 1) (j + 1) ≤ L a b i j + cost (a.getD i 0) (b.getD j 0) := by
  simp only [L]; omega
theorem L_up (a b : List Int) : ∀ i j, L a b i j ≤ ((max i j : Nat) : Int) := by
  intro i
  induction i with
  | zero => intro j; rw [L_zeroL]; omega
  | succ i ih =>
    intro j
    cases j with
    | zero => rw [L_zero]; omega
    | succ j => have h1 := ih j; have h2 := L_diag a b i j; have h3 := cost_bd (a.getD i 0) (b.getD j 0); omega
end Ed
end Go.Proofs.Ytgghbgmeebihbaa
namespace Go.Proofs.Ytgghbgmeebihbaa
open Go.RowKit
set_option linter.unusedVariables false
set_option maxRecDepth 20000
def intsV (zs : List Int) : List Value := zs.map (Value.int .i64)
theorem int_info : (Try.prog.info? 3).map (fun i => (i.zero, i.size, i.bytes)) = some (some (.int .i64 0), 1, 8) := by kernel_rfl
theorem intsV_set (zs : List Int) (j : Nat) (x : Int) : (intsV zs).set j (.int .i64 x) = intsV (zs.set j x) := by simp [intsV, List.map_set]
theorem intsV_at (zs : List Int) (j : Nat) (h : j < zs.length) : (intsV zs)[j]? = some (.int .i64 (zs.getD j 0)) := by simp [intsV, List.getD_eq_getElem?_getD, h]
/-- the numbers from 0 on, the first k; 0 behind them -/
def upTo (n k : Nat) : List Int := (List.range n).map fun i => if i < k then (i : Int) else 0
theorem upTo_set (n k : Nat) (h : k < n) : (upTo n k).set k (k : Int) = upTo n (k + 1) := by
  apply List.ext_getElem
  · simp [upTo]
  · intro i h1 h2
    rw [List.getElem_set]
    simp only [upTo, List.getElem_map, List.getElem_range]
    by_cases e : k = i
    · subst e; simp
    · rw [if_neg e]
      by_cases h3 : i < k
      · simp [h3, show i < k + 1 by omega]
      · simp [h3, show ¬ i < k + 1 by omega]
theorem upTo_zero (n : Nat) : intsV (upTo n 0) = List.replicate n (.int .i64 0) := by
  apply List.ext_getElem
  · simp [intsV, upTo]
  · intro i h1 h2; simp [intsV, upTo]
theorem upTo_row (a b : List Int) : upTo (a.length + 1) (a.length + 1) = Ed.row a b 0 := by
  unfold upTo Ed.row
  refine List.map_congr_left fun i hi => ?_
  have := List.mem_range.1 hi
  rw [if_pos (by omega)]
  cases i with
  | zero => simp only [Ed.L]
  | succ i => simp only [Ed.L]; omega
theorem upTo_length (n k : Nat) : (upTo n k).length = n := by simp [upTo]
set_option maxHeartbeats 400000 in
theorem first_any (m : Nat) (w : World) (hm : m ≤ 1048576) :
    Calls Try.prog 92 #[.int .i64 m] w fun e w' => e = .returned (.slice (some ⟨w.heap.size, 0, none⟩) (m + 1) (m + 1)) ∧ w'.ownsRow w.heap.size 3 1 (.slice (some ⟨w.heap.size, 0, none⟩) (m + 1) (m + 1)) (m + 1) (intsV (upTo (m + 1) (m + 1))) ∧ Below w.heap.size w w' := by
  obtain ⟨i0, hi, hz0, hz1, hz2⟩ := info_parts int_info
  go_enter Try.func92, Try.ntmps92
  go_wp2_with (at_make; refine wpList_make_full _ rfl _ _ 22 rfl w.heap.size 3 i0 (.int .i64 0) 1 Try.underlying22 hi hz0 hz1 _ _ _ _ (m + 1) rfl rfl (by omega) (by omega) (by rw [hz2]; omega) (by unfold maxLen; omega) (Nat.le_refl _) ?_; intro w0 hown0 hgrow0)
  have hB0 := below_grown hgrow0 (by intro k hk; cases hk)
  have ho : w0.ownsRow w.heap.size 3 1 (.slice (some ⟨w.heap.size, 0, none⟩) (m + 1) (m + 1)) (m + 1) (intsV (upTo (m + 1) 0)) := by
    rw [upTo_zero, ← toList_madeCells_one]; rw [Nat.mul_one] at hown0; exact hown0
  have O0 := Lib.hid ho; have B0 := Lib.hid hB0
  clear hown0 hgrow0 ho hB0
  go_loopw [10] (fun i wr => ∃ k : Nat, k ≤ m + 1 ∧ i = .int .i64 k ∧ Hid (wr.ownsRow w.heap.size 3 1 (.slice (some ⟨w.heap.size, 0, none⟩) (m + 1) (m + 1)) (m + 1) (intsV (upTo (m + 1) k))) ∧ Hid (Below w.heap.size w wr)) (fun i _ => m + 1 - (intOf i).toNat)
  case atStart => exact ⟨0, by omega, rfl, O0, B0⟩
  case round =>
    obtain ⟨k, hk, rfl, hO, hB⟩ := hrel
    by_cases hlt : k < m + 1
    · have hc := hO.out.cellAt k (by omega)
      rw [intsV_at _ k (by rw [upTo_length]; exact hlt)] at hc
      have hf := hO.out.frozenAt k
      have hs := (hO.out.stored k (.int .i64 (k : Int))).1
      rw [intsV_set, upTo_set (m + 1) k hlt] at hs
      have HS := Lib.hid hs
      obtain ⟨x, hx⟩ : ∃ x, (upTo (m + 1) k).getD k 0 = x := ⟨_, rfl⟩
      rw [hx] at hc
      clear hs hx
      go_wp2
      go_roundw
      case rel => exact ⟨k + 1, by omega, by go_num, HS, Lib.hid (hB.out.setCell (Nat.le_refl _) _)⟩
      case measure => simp [intOf]; omega
    · obtain rfl : k = m + 1 := by omega
      go_wp2
      go_ret
      exact ⟨rfl, hO.out, hB.out⟩
end Go.Proofs.Ytgghbgmeebihbaa
namespace Go.Proofs.Ytgghbgmeebihbaa
open Go.RowKit
set_option linter.unusedVariables false
set_option maxRecDepth 20000
theorem cost_eq (x : Int) : Ed.cost x x = 0 := by simp [Ed.cost]
theorem cost_ne {x y : Int} (h : x ≠ y) : Ed.cost x y = 1 := by simp [Ed.cost, h]
theorem store_grown (w : World) (g i : Nat) (v : Value) : w.grownBy (w.setCell ⟨g, i, none⟩ v) (some g) :=
  ⟨rfl, rfl, rfl, by simp [World.setCell], fun k _ hk => Below.heap_setCell _ _ _ _ (fun e => hk (by rw [e]))⟩
theorem grown_trans {a b c : World} {r : Option Nat} (h : a.grownBy b r) (k : b.grownBy c r) : a.grownBy c r :=
  ⟨k.os.trans h.os, k.tape.trans h.tape, k.output.trans h.output, Nat.le_trans h.size k.size, fun i hi hr => (k.block i (Nat.lt_of_lt_of_le hi h.size) hr).trans (h.block i hi hr)⟩
theorem own_val {w : World} {p : Addr} {base : Nat} {e : TypeId} {size : Nat} {v : Value} {n : Nat} {xs : List Value} {V x : Int} (h : (w.setCell p (.int .i64 V)).ownsRow base e size v n xs) (hx : x = V) : (w.setCell p (.int .i64 x)).ownsRow base e size v n xs := by
  rw [hx]; exact h
set_option maxHeartbeats 1600000 in
theorem advance_any (B g cap m : Nat) (R ra : List Int) (a : Option Addr) (acap : Nat) (r : Int) (w : World) (h : w.ownsRow B 3 1 (.slice (some ⟨g, 0, none⟩) (m + 1) cap) (m + 1) (intsV R))
    (ha : HoldsI .i32 w a m ra) (hne : ∀ b o, 0 < m → a = some ⟨b, o, none⟩ → b ≠ g) (hR : ∀ i, 0 ≤ R.getD i 0 ∧ R.getD i 0 ≤ 4194304) (hm : m ≤ 1048576) :
    Calls Try.prog 93 #[.slice (some ⟨g, 0, none⟩) (m + 1) cap, .slice a m acap, .int .i32 r] w fun e w' => e = .returned (.tuple #[]) ∧
      w'.ownsRow B 3 1 (.slice (some ⟨g, 0, none⟩) (m + 1) cap) (m + 1) (intsV (Ed.mix R ra r m)) ∧ w.grownBy w' (some g) := by
  have hlR : R.length = m + 1 := by have := h.1; simpa [intsV] using this
  have hla := ha.len
  have hbd := Ed.adv_bd R ra r 4194304 (by decide) hR
  have HR := Lib.hid hR; have HBD := Lib.hid hbd; have HLR := Lib.hid hlR; have HLA := Lib.hid hla; have HA := Lib.hid ha; have HNE := Lib.hid hne; have H := Lib.hid h
  have hc0 := h.cellAt 0 (by omega)
  rw [intsV_at _ 0 (by omega)] at hc0
  have hf0 := h.frozenAt 0
  have hs0 := (h.stored 0 (.int .i64 (R.getD 0 0 + 1))).1
  rw [intsV_set, Ed.mix_zero R ra r (by omega)] at hs0
  have HS0 := Lib.hid hs0
  have b0 := hR 0
  obtain ⟨x0, hx0⟩ : ∃ x, R.getD 0 0 = x := ⟨_, rfl⟩
  rw [hx0] at hc0 b0
  have HX0 := Lib.hid hx0
  clear hs0 hx0 hR hbd hlR hla ha hne h
  go_enter Try.func93, Try.ntmps93
  go_wp2
  go_loopw [6, 20] (fun ab i wr => ∃ k : Nat, k ≤ m ∧ i = .int .i64 k ∧ ab = .int .i64 (R.getD k 0) ∧ Hid (wr.ownsRow B 3 1 (.slice (some ⟨g, 0, none⟩) (m + 1) cap) (m + 1) (intsV (Ed.mix R ra r k))) ∧ Hid (w.grownBy wr (some g))) (fun _ i _ => m - (intOf i).toNat)
  case atStart => exact ⟨0, by omega, rfl, by rw [HX0.out], by rw [← HX0.out]; exact HS0, Lib.hid (store_grown w g 0 _)⟩
  case round =>
    obtain ⟨k, hk, rfl, rfl, hO, hG⟩ := hrel
    by_cases hlt : k < m
    · obtain ⟨ba, oa, rfl, hca⟩ := HA.out.at (by omega)
      have hbg : ba ≠ g := HNE.out ba oa (by omega) rfl
      have e1 := hca k hlt
      have hba := lt_of_cell e1
      have ea : wr.cell? ⟨ba, oa + k, none⟩ = some (.int .i32 (ra.getD k 0)) := by
        rw [World.cell?_of_block (w := w) (hG.out.block ba hba (by intro e; injection e with e; exact hbg e))]; exact e1
      have hk1 := hO.out.cellAt (k + 1) (by omega)
      rw [intsV_at _ (k + 1) (by rw [Ed.mix_length, HLR.out]; omega), Ed.mix_old R ra r k (k + 1) (by rw [HLR.out]; omega) (by omega)] at hk1
      have hk0 := hO.out.cellAt k (by omega)
      rw [intsV_at _ k (by rw [Ed.mix_length, HLR.out]; omega), Ed.mix_new R ra r k k (by rw [HLR.out]; omega) (by omega)] at hk0
      have hf1 := hO.out.frozenAt (k + 1)
      have hst := (hO.out.stored (k + 1) (.int .i64 (Ed.adv R ra r (k + 1)))).1
      rw [intsV_set, Ed.mix_set R ra r k (by rw [HLR.out]; omega)] at hst
      have hadv : Ed.adv R ra r (k + 1) = min (min (R.getD k 0 + Ed.cost (ra.getD k 0) r) (R.getD (k + 1) 0 + 1)) (Ed.adv R ra r k + 1) := rfl
      have q0 := HR.out k; have q1 := HR.out (k + 1); have q2 := HBD.out k
      have HST := Lib.hid hst
      obtain ⟨V, hV⟩ : ∃ V, Ed.adv R ra r (k + 1) = V := ⟨_, rfl⟩
      obtain ⟨c, hc⟩ : ∃ c, ra.getD k 0 = c := ⟨_, rfl⟩
      obtain ⟨x, hx⟩ : ∃ x, R.getD k 0 = x := ⟨_, rfl⟩
      obtain ⟨y, hy⟩ : ∃ y, R.getD (k + 1) 0 = y := ⟨_, rfl⟩
      obtain ⟨z, hz⟩ : ∃ z, Ed.adv R ra r k = z := ⟨_, rfl⟩
      rw [hV] at HST hadv
      rw [hc] at ea hadv; rw [hx] at q0 hadv ⊢; rw [hy] at hk1 q1 hadv; rw [hz] at hk0 q2 hadv
      have HY := Lib.hid hy
      clear hst hV hc hx hy hz e1 hca hc0 hf0
      by_cases hcr : c = r
      · subst hcr
        rw [cost_eq] at hadv
        have HADV := Lib.hid hadv
        clear hadv
        go_wp2
        all_goals (
          go_roundw
          case rel => exact ⟨k + 1, by omega, by go_num, by rw [HY.out], Lib.hid (own_val HST.out (by have e := HADV.out; omega)), Lib.hid (grown_trans hG.out (store_grown wr g (k + 1) _))⟩
          case measure => simp [intOf]; omega)
      · rw [cost_ne hcr] at hadv
        have hb : (c != r) = true := by simpa using hcr
        have HADV := Lib.hid hadv
        clear hadv hcr
        go_wp2
        all_goals (
          go_roundw
          case rel => exact ⟨k + 1, by omega, by go_num, by rw [HY.out], Lib.hid (own_val HST.out (by have e := HADV.out; omega)), Lib.hid (grown_trans hG.out (store_grown wr g (k + 1) _))⟩
          case measure => simp [intOf]; omega)
    · obtain rfl : k = m := by omega
      go_wp2
      go_end0
      exact ⟨rfl, hO.out, hG.out⟩
end Go.Proofs.Ytgghbgmeebihbaa
namespace Go.Proofs.Ytgghbgmeebihbaa
open Go.RowKit
set_option linter.unusedVariables false
set_option maxRecDepth 20000
set_option maxHeartbeats 800000 in
theorem runes_good (s : ByteArray) (w : World) (hs : s.size ≤ 1048576) (hg : 0 ≤ lenS s) :
    Calls Try.prog 64 #[.string s] w fun e w' => ∃ a c, e = .returned (.tuple #[.slice a (runesS s).length c, .bool true]) ∧ RetR 21 w (intsN (runesS s)) a c w' := by
  obtain ⟨i0, hi, hz0, hz1, hz2⟩ := info_parts i32_info
  obtain ⟨hgood, hlen⟩ := lenS_pos hg
  have hle := runesS_le s
  obtain ⟨n, hn⟩ : ∃ n, (runesS s).length = n := ⟨_, rfl⟩
  rw [hn] at hlen hle ⊢
  have HN := Lib.hid hn; have HLEN := Lib.hid hlen; have HGD := Lib.hid hgood
  clear hn hlen hgood hg
  go_enter Try.func64, Try.ntmps64
  go_wp2_with fail
  refine (len_any s _ (by omega)).mono ?_
  rintro e w1 ⟨rfl, hb1⟩
  rw [HLEN.out]
  have B1 := Lib.hid hb1
  clear hb1
  go_wp2_with (at_make; refine wpList_make_own _ rfl _ _ 101 rfl w.heap.size 21 i0 (.int .i32 0) 1 Try.underlying101 hi hz0 hz1 _ _ _ n rfl rfl (by omega) (by rw [hz2]; omega) (by unfold maxLen; omega) B1.out.size ?_; intro w2 hown2 hgrow2)
  have B2 := Lib.hid (B1.out.trans ((below_grown hgrow2 (by intro k hk; cases hk)).mono B1.out.size))
  have s1 := B1.out.size
  have hlt2 := (hown2.lt w1.heap.size rfl).2
  have O2 := Lib.hid hown2
  clear hown2 hgrow2
  go_loopw [5] (fun v wr => ∃ (pos f : Nat) (P : List Nat), s.size ≤ pos + f ∧ v = .slice (some ⟨w1.heap.size, 0, none⟩) P.length n ∧ Hid (runesS s = P ++ runesN s f pos) ∧
      Hid (wr.ownsRow w.heap.size 21 1 (.slice (some ⟨w1.heap.size, 0, none⟩) P.length n) P.length (runesV (intsN P))) ∧ Hid (wr.heap[w2.heap.size]? = some (.stringIter s pos)) ∧ Hid (Below w.heap.size w wr)) (fun _ wr => s.size - wr.iterPos w2.heap.size)
  case atStart => exact ⟨0, s.size, [], by omega, rfl, Lib.hid rfl, Lib.hid (owns_below O2.out (below_one _ _)), Lib.hid (World.iter_heap w2 s 0), Lib.hid (B2.out.trans ((below_one w2 _).mono B2.out.size))⟩
  case round =>
    obtain ⟨pos, f, P, hf, rfl, hP, hO, hIt, hB⟩ := hrel
    by_cases hlt : pos < s.size
    · have hnx := fun ty => Lib.run_next_any_at (P := Try.prog) wr w2.heap.size s pos ty hIt.out hlt
      obtain ⟨g, rfl, hst, hg⟩ := runesN_step s f pos hlt hf
      have hwd := decode_width s pos hlt
      have hPn : P.length + 1 ≤ n := by
        have h1 := congrArg List.length hP.out
        rw [hst, List.length_append, List.length_cons, HN.out] at h1
        omega
      have HST := Lib.hid hst
      obtain ⟨r, hr⟩ : ∃ r, (Utf8.decode s pos).1 = r := ⟨_, rfl⟩
      obtain ⟨wd, hwd2⟩ : ∃ wd, (Utf8.decode s pos).2 = wd := ⟨_, rfl⟩
      rw [hr, hwd2] at hnx HST; rw [hwd2] at hg hwd
      clear hst hr hwd2
      have hOi := owns_iterAt hO.out hIt.out (pos + wd)
      have OI := Lib.hid hOi
      clear hOi
      go_wp2_with (at_builtin; refine wpList_append_fits _ rfl (.tmp 19) (.tmp 21) 101 rfl w.heap.size 21 i0 1 Try.underlying101 hi hz1 w1.heap.size P.length n _ rfl (OI.out.alloc _) _ 1 1 _ rfl rfl (one_cells _ _ _ _) (one_int _ _) (by omega) ?_; intro w4 hown4 hgrow4)
      have hIt4 : w4.heap[w2.heap.size]? = some (.stringIter s (pos + wd)) := by
        have hl := (Array.getElem?_eq_some_iff.1 hIt.out).1
        rw [hgrow4.block w2.heap.size (by simp [World.iterAt]; omega) (by intro e; injection e with e; omega)]
        rw [Below.heap_alloc _ _ _ (by simpa [World.iterAt] using hl)]
        exact Lib.iterAt_heap wr _ s pos (pos + wd) hIt.out
      have hb4 : Below w.heap.size w w4 := by
        have h1 := Lib.below_iterAt hB.out (show w.heap.size ≤ w2.heap.size from B2.out.size) s (pos + wd)
        exact (h1.alloc h1.size _).grown hgrow4 (by have := h1.size; simp; omega) (by intro k hk; injection hk with hk; omega)
      go_roundw
      case rel => exact ⟨pos + wd, g, P ++ [r], hg, by rw [List.length_append]; rfl, Lib.hid (by rw [hP.out, HST.out]; simp), Lib.hid (by rw [List.length_append, runesV_snoc]; exact hown4), Lib.hid hIt4, Lib.hid hb4⟩
      case measure =>
        have h1 : w4.iterPos w2.heap.size = pos + wd := by simp [World.iterPos, hIt4]
        have h2 : wr.iterPos w2.heap.size = pos := by simp [World.iterPos, hIt.out]
        rw [h1, h2]; omega
    · have hnx := fun ty => Lib.run_next_end_at (P := Try.prog) wr w2.heap.size s pos ty hIt.out hlt
      have he : runesS s = P := by rw [hP.out, runesN_end s f pos hlt, List.append_nil]
      have hpl : P.length = n := by rw [← he]; exact HN.out
      have HE := Lib.hid he; have HPL := Lib.hid hpl
      clear he hpl
      go_wp2
      go_ret2
      have hl2 : (intsN (runesS s)).length = P.length := by rw [HE.out]; simp [intsN]
      refine ⟨some ⟨w1.heap.size, 0, none⟩, n, by rw [HPL.out]; rfl, ?_, hB.out, fun h => by cases h⟩
      rw [hl2, HE.out]; exact hO.out
theorem runes_bad (s : ByteArray) (w : World) (hs : s.size ≤ 1048576) (hg : lenS s < 0) :
    Calls Try.prog 64 #[.string s] w fun e w' => e = .returned (.tuple #[.slice none 0 0, .bool false]) ∧ Below w.heap.size w w' := by
  go_enter Try.func64, Try.ntmps64
  go_wp2_with fail
  refine (len_any s _ (by omega)).mono ?_
  rintro e w1 ⟨rfl, hb1⟩
  go_wp2_with fail
  go_ret2
  exact ⟨rfl, hb1⟩
end Go.Proofs.Ytgghbgmeebihbaa
namespace Go.Proofs.Ytgghbgmeebihbaa
open Go.RowKit
set_option linter.unusedVariables false
set_option maxRecDepth 20000
theorem holdsI_lt {k : IntKind} {w : World} {a : Option Addr} {n : Nat} {zs : List Int} (h : HoldsI k w a n zs) : ∀ b o, 0 < n → a = some ⟨b, o, none⟩ → b < w.heap.size := by
  intro b o h0 ha
  obtain ⟨b2, o2, hb, hc⟩ := h.2 h0
  rw [ha] at hb
  injection hb with hb
  injection hb with hb1 hb2
  subst hb1
  have := hc 0 h0
  exact lt_of_cell this
/-- A row of distances that the call made. -/
def RetRow (w : World) (ra rb : List Int) (j : Nat) (g : Nat) (c : Nat) (w' : World) : Prop :=
  w'.ownsRow w.heap.size 3 1 (.slice (some ⟨g, 0, none⟩) (ra.length + 1) c) (ra.length + 1) (intsV (Ed.row ra rb j)) ∧ Below w.heap.size w w'
end Go.Proofs.Ytgghbgmeebihbaa
namespace Go.Proofs.Ytgghbgmeebihbaa
open Go.RowKit
set_option linter.unusedVariables false
set_option maxRecDepth 20000
/-- the distance of two strings, or -1 -/
def distS (a b : ByteArray) : Int := if 0 ≤ lenS a ∧ 0 ≤ lenS b then Ed.L (intsN (runesS a)) (intsN (runesS b)) (runesS a).length (runesS b).length else -1
theorem intsN_length (P : List Nat) : (intsN P).length = P.length := by simp [intsN]
end Go.Proofs.Ytgghbgmeebihbaa
namespace Go.Proofs.Ytgghbgmeebihbaa
open Go.RowKit
set_option linter.unusedVariables false
set_option maxRecDepth 20000
set_option maxHeartbeats 800000 in
theorem rows_any (ra rb : List Int) (a b : Option Addr) (ca cb : Nat) (w : World) (ha : HoldsI .i32 w a ra.length ra) (hb : HoldsI .i32 w b rb.length rb) (hla : ra.length ≤ 1048576) (hlb : rb.length ≤ 1048576) :
    Calls Try.prog 85 #[.slice a ra.length ca, .slice b rb.length cb] w fun e w' => e = .returned (.slice (some ⟨w.heap.size, 0, none⟩) (ra.length + 1) (ra.length + 1)) ∧ RetRow w ra rb rb.length w.heap.size (ra.length + 1) w' := by
  obtain ⟨m, hm⟩ : ∃ m, ra.length = m := ⟨_, rfl⟩
  obtain ⟨n, hn⟩ : ∃ n, rb.length = n := ⟨_, rfl⟩
  unfold RetRow
  rw [hm] at ha hla ⊢; rw [hn] at hb hlb ⊢
  have HM := Lib.hid hm; have HN := Lib.hid hn; have HA := Lib.hid ha; have HB := Lib.hid hb
  clear hm hn ha hb
  go_enter Try.func85, Try.ntmps85
  go_wp2_with fail
  refine (first_any m _ (by omega)).mono ?_
  rintro e w1 ⟨rfl, hown, hb1⟩
  have B1 := Lib.hid hb1
  have hown : w1.ownsRow w.heap.size 3 1 (.slice (some ⟨w.heap.size, 0, none⟩) (m + 1) (m + 1)) (m + 1) (intsV (Ed.row ra rb 0)) := by
    rw [← upTo_row, HM.out]; exact hown
  have O1 := Lib.hid hown
  clear hb1 hown
  go_wp2_with fail
  go_loopw [13] (fun i wr => ∃ k : Nat, k ≤ n ∧ i = .int .i64 k ∧ Hid (wr.ownsRow w.heap.size 3 1 (.slice (some ⟨w.heap.size, 0, none⟩) (m + 1) (m + 1)) (m + 1) (intsV (Ed.row ra rb k))) ∧ Hid (Below w.heap.size w wr)) (fun i _ => n - (intOf i).toNat)
  case atStart => exact ⟨0, by omega, rfl, O1, B1⟩
  case round =>
    obtain ⟨k, hk, rfl, hO, hBw⟩ := hrel
    by_cases hlt : k < n
    · obtain ⟨bb, ob, rfl, hcb⟩ := (HB.out.below hBw.out).at (by omega)
      have e1 := hcb k hlt
      clear hcb
      have hadv := fun R r c => advance_any w.heap.size w.heap.size (m + 1) m R ra a c r
      obtain ⟨r, hr⟩ : ∃ r, rb.getD k 0 = r := ⟨_, rfl⟩
      rw [hr] at e1
      have HR := Lib.hid hr
      clear hr hadv
      go_wp2_with fail
      refine (advance_any w.heap.size w.heap.size (m + 1) m (Ed.row ra rb k) ra a _ r _ hO.out (HA.out.below hBw.out) (fun b o h0 ha => ?_) (fun i => ?_) (by omega)).mono ?_
      · have := holdsI_lt HA.out b o h0 ha; omega
      · have := Ed.row_bd ra rb k i; have := HM.out; omega
      rintro e w2 ⟨rfl, hown2, hgr2⟩
      have hown2 : w2.ownsRow w.heap.size 3 1 (.slice (some ⟨w.heap.size, 0, none⟩) (m + 1) (m + 1)) (m + 1) (intsV (Ed.row ra rb (k + 1))) := by
        rw [← Ed.mix_all, HR.out, HM.out]; exact hown2
      have O2 := Lib.hid hown2
      have B2 := Lib.hid (hBw.out.grown hgr2 hBw.out.size (by intro q hq; injection hq with hq; omega))
      clear hown2 hgr2
      go_wp2_with fail
      go_roundw
      case rel => exact ⟨k + 1, by omega, by go_num, O2, B2⟩
      case measure => simp [intOf]; omega
    · obtain rfl : k = n := by omega
      go_wp2
      go_ret
      exact ⟨rfl, hO.out, hBw.out⟩
set_option maxHeartbeats 800000 in
theorem eruns_any (ra rb : List Int) (a b : Option Addr) (ca cb : Nat) (w : World) (ha : HoldsI .i32 w a ra.length ra) (hb : HoldsI .i32 w b rb.length rb) (hla : ra.length ≤ 1048576) (hlb : rb.length ≤ 1048576) :
    Calls Try.prog 72 #[.slice a ra.length ca, .slice b rb.length cb] w fun e w' => e = .returned (.int .i64 (Ed.L ra rb ra.length rb.length)) ∧ Below w.heap.size w w' := by
  have HA := Lib.hid ha; have HB := Lib.hid hb
  have hrow := Ed.row_getD ra rb rb.length ra.length (Nat.le_refl _)
  have hrl := Ed.row_length ra rb rb.length
  obtain ⟨m, hm⟩ : ∃ m, ra.length = m := ⟨_, rfl⟩
  obtain ⟨n, hn⟩ : ∃ n, rb.length = n := ⟨_, rfl⟩
  have hrows := rows_any ra rb a b ca cb w ha hb hla hlb
  unfold RetRow at hrows
  rw [hm] at hla hrow hrl hrows ⊢; rw [hn] at hlb hrow hrl hrows ⊢
  have HROWS := Lib.hid hrows; have HROW := Lib.hid hrow; have HRL := Lib.hid hrl
  clear ha hb hm hn hrows hrow hrl
  go_enter Try.func72, Try.ntmps72
  go_wp2_with fail
  refine HROWS.out.mono ?_
  rintro e w1 ⟨rfl, hown, hb1⟩
  have hc := hown.cellAt m (by omega)
  rw [intsV_at _ m (by rw [HRL.out]; omega), HROW.out] at hc
  have B1 := Lib.hid hb1
  clear hown hb1
  go_wp2
  go_ret
  exact ⟨rfl, B1.out⟩
end Go.Proofs.Ytgghbgmeebihbaa
namespace Go.Proofs.Ytgghbgmeebihbaa
open Go.RowKit
set_option linter.unusedVariables false
set_option maxRecDepth 20000
theorem holdsI_lit (k : IntKind) (w : World) (zs : List Int) (e : TypeId) (fr : Nat × Nat) : HoldsI k (w.alloc (.cells (zs.map (Value.int k)).toArray e fr)) (some ⟨w.heap.size, 0, none⟩) zs.length zs := by
  refine ⟨rfl, fun _ => ⟨_, _, rfl, fun i hi => ?_⟩⟩
  rw [World.cell?_alloc_mark, Nat.zero_add]
  simp [List.getD_eq_getElem?_getD, hi]
end Go.Proofs.Ytgghbgmeebihbaa
namespace Go.Proofs.Ytgghbgmeebihbaa
open Go.RowKit
set_option linter.unusedVariables false
set_option maxRecDepth 20000
theorem eruns_lit (ra rb : List Int) (m n : Nat) (a b : Option Addr) (ca cb : Nat) (w : World) (hm : ra.length = m) (hn : rb.length = n) (ha : HoldsI .i32 w a m ra) (hb : HoldsI .i32 w b n rb) (hla : m ≤ 1048576) (hlb : n ≤ 1048576) :
    Calls Try.prog 72 #[.slice a m ca, .slice b n cb] w fun e w' => e = .returned (.int .i64 (Ed.L ra rb m n)) ∧ Below w.heap.size w w' := by
  subst hm hn; exact eruns_any ra rb a b ca cb w ha hb hla hlb
end Go.Proofs.Ytgghbgmeebihbaa
namespace Go.Proofs.Ytgghbgmeebihbaa
open Go.RowKit
set_option linter.unusedVariables false
set_option maxRecDepth 20000
/-- what the band's cell x holds when i runes of a are done: the distance, k + 1 at most -/
structure Cell (a b : List Int) (k i x : Nat) (v : Int) : Prop where
  lo : 0 ≤ v
  hi : v ≤ (k : Int) + 1
  eq : ∀ j : Nat, (j : Int) = (i : Int) + x - k → j ≤ b.length → v = min (Ed.L a b i j) ((k : Int) + 1)
  far : i + x < k → v = (k : Int) + 1
theorem cell_start (a b : List Int) (k x : Nat) (h : x ≤ 2 * k) : Cell a b k 0 x (if k ≤ x then (x : Int) - k else (k : Int) + 1) := by
  refine ⟨by split <;> omega, by split <;> omega, fun j hj hl => ?_, fun hx => by rw [if_neg (by omega)]⟩
  rw [Ed.L_zeroL, if_pos (by omega)]; omega
theorem cell_out_low (a b : List Int) (k i x : Nat) (h : i + x < k) : Cell a b k i x ((k : Int) + 1) := ⟨by omega, by omega, fun j hj _ => by omega, fun _ => rfl⟩
theorem cell_out_high (a b : List Int) (k i x : Nat) (h : (b.length : Int) < (i : Int) + x - k) : Cell a b k i x ((k : Int) + 1) := ⟨by omega, by omega, fun j hj _ => by omega, fun _ => rfl⟩
/-- the cell at the left edge of the table -/
theorem cell_zero (a b : List Int) (k i x : Nat) (u v : Int) (hx : (i : Int) + 1 + x = k) (hu : x + 1 ≤ 2 * k → Cell a b k i (x + 1) u) (hv : v = min (min ((k : Int) + 1) (u + 1)) ((k : Int) + 1)) : Cell a b k (i + 1) x v := by
  have h1 := (hu (by omega)).eq 0 (by omega) (by omega)
  rw [Ed.L_zero] at h1
  refine ⟨by omega, by omega, fun j hj hl => ?_, fun h => by omega⟩
  obtain rfl : j = 0 := by omega
  rw [Ed.L_zero]; omega
/-- a cell within the table -/
theorem cell_in (a b : List Int) (k i x J : Nat) (o l u d2 d3 v : Int) (hJ : (J : Int) + 1 = (i : Int) + 1 + x - k) (hl : J + 1 ≤ b.length) (ho : Cell a b k i x o)
    (hd2 : (x = 0 ∧ d2 = o + Ed.cost (a.getD i 0) (b.getD J 0)) ∨ (∃ p, p + 1 = x ∧ Cell a b k (i + 1) p l ∧ d2 = min (o + Ed.cost (a.getD i 0) (b.getD J 0)) (l + 1)))
    (hd3 : (x = 2 * k ∧ d3 = d2) ∨ (x < 2 * k ∧ Cell a b k i (x + 1) u ∧ d3 = min d2 (u + 1)))
    (hv : v = min d3 ((k : Int) + 1)) : Cell a b k (i + 1) x v := by
  have h1 := ho.eq J (by omega) (by omega)
  have hc := Ed.cost_bd (a.getD i 0) (b.getD J 0)
  have hL : Ed.L a b (i + 1) (J + 1) = min (min (Ed.L a b i J + Ed.cost (a.getD i 0) (b.getD J 0)) (Ed.L a b (i + 1) J + 1)) (Ed.L a b i (J + 1) + 1) := by simp only [Ed.L]
  have b1 := Ed.L_low a b (i + 1) J
  have b2 := Ed.L_low a b i (J + 1)
  have b3 := Ed.L_bd a b i J
  have b4 := Ed.L_bd a b (i + 1) J
  have b5 := Ed.L_bd a b i (J + 1)
  have g1 := ho.lo
  have e2 : d2 = min (o + Ed.cost (a.getD i 0) (b.getD J 0)) (min (Ed.L a b (i + 1) J) ((k : Int) + 1) + 1) ∨ (d2 = o + Ed.cost (a.getD i 0) (b.getD J 0) ∧ (k : Int) + 1 ≤ Ed.L a b (i + 1) J) := by
    rcases hd2 with ⟨hx, h⟩ | ⟨p, hp, hcell, h⟩
    · exact Or.inr ⟨h, by omega⟩
    · have h2 := hcell.eq J (by omega) (by omega)
      exact Or.inl (by rw [h, h2])
  have e3 : d3 = min d2 (min (Ed.L a b i (J + 1)) ((k : Int) + 1) + 1) ∨ (d3 = d2 ∧ (k : Int) + 1 ≤ Ed.L a b i (J + 1)) := by
    rcases hd3 with ⟨hx, h⟩ | ⟨hx, hcell, h⟩
    · exact Or.inr ⟨h, by omega⟩
    · have h2 := hcell.eq (J + 1) (by omega) (by omega)
      exact Or.inl (by rw [h, h2])
  have hval : v = min (Ed.L a b (i + 1) (J + 1)) ((k : Int) + 1) := by
    rw [hL, hv]
    generalize Ed.L a b i J = A at *
    generalize Ed.L a b (i + 1) J = B at *
    generalize Ed.L a b i (J + 1) = C at *
    generalize Ed.cost (a.getD i 0) (b.getD J 0) = c at *
    clear hd2 hd3 ho hL
    rcases e2 with e2 | ⟨e2, f2⟩ <;> rcases e3 with e3 | ⟨e3, f3⟩ <;> omega
  have b6 := Ed.L_bd a b (i + 1) (J + 1)
  refine ⟨by omega, by omega, fun j hj hl2 => ?_, fun h => by omega⟩
  obtain rfl : j = J + 1 := by omega
  exact hval
/-- what a round of the band has to come to, told of the number that it begins with -/
def Comes (a b : List Int) (k i x : Nat) (d1 : Int) : Prop :=
  ∀ (l u d2 d3 v : Int), ((x = 0 ∧ d2 = d1) ∨ (∃ p, p + 1 = x ∧ Cell a b k (i + 1) p l ∧ d2 = min d1 (l + 1))) →
    ((x = 2 * k ∧ d3 = d2) ∨ (x < 2 * k ∧ Cell a b k i (x + 1) u ∧ d3 = min d2 (u + 1))) → v = min d3 ((k : Int) + 1) → Cell a b k (i + 1) x v
theorem comes_in (a b : List Int) (k i x J : Nat) (o : Int) (hJ : (J : Int) + 1 = (i : Int) + 1 + x - k) (hl : J + 1 ≤ b.length) (ho : Cell a b k i x o) : Comes a b k i x (o + Ed.cost (a.getD i 0) (b.getD J 0)) :=
  fun l u d2 d3 v h2 h3 hv => cell_in a b k i x J o l u d2 d3 v hJ hl ho h2 h3 hv
theorem comes_zero (a b : List Int) (k i x : Nat) (hx : (i : Int) + 1 + x = k) : Comes a b k i x ((k : Int) + 1) := by
  intro l u d2 d3 v h2 h3 hv
  have e2 : d2 = (k : Int) + 1 := by
    rcases h2 with ⟨_, h⟩ | ⟨p, hp, hc, h⟩
    · exact h
    · have := hc.far (by omega); omega
  rcases h3 with ⟨h, _⟩ | ⟨h, hc, h'⟩
  · omega
  · exact cell_zero a b k i x u v hx (fun _ => hc) (by rw [hv, h', e2])
/-- a row of numbers in memory, in a block of its own -/
structure RowIs (w : World) (g n : Nat) (f : Nat → Int) : Prop where
  c : ∀ j, j < n → w.cell? ⟨g, j, none⟩ = some (.int .i64 (f j))
  fr : ∀ j, w.frozen? ⟨g, j, none⟩ = false
def updI (f : Nat → Int) (i : Nat) (v : Int) : Nat → Int := fun j => if j = i then v else f j
theorem updI_at (f : Nat → Int) (i : Nat) (v : Int) : updI f i v i = v := by simp [updI]
theorem updI_ne (f : Nat → Int) (i j : Nat) (v : Int) (h : j ≠ i) : updI f i v j = f j := by simp [updI, h]
theorem setc_at {w : World} {b o : Nat} {u v : Value} (h : w.cell? ⟨b, o, none⟩ = some u) : (w.setCell ⟨b, o, none⟩ v).cell? ⟨b, o, none⟩ = some v := World.cell?_setCell_same _ _ _ h
theorem setc_ne {w : World} {b o p : Nat} {v : Value} (h : o ≠ p) : (w.setCell ⟨b, o, none⟩ v).cell? ⟨b, p, none⟩ = w.cell? ⟨b, p, none⟩ := World.cell?_setCell_other _ _ _ _ (by intro e; injection e; contradiction)
theorem RowIs.set {w : World} {g n : Nat} {f : Nat → Int} (h : RowIs w g n f) (i : Nat) (v : Int) (hi : i < n) : RowIs (w.setCell ⟨g, i, none⟩ (.int .i64 v)) g n (updI f i v) := by
  refine ⟨fun j hj => ?_, fun j => by rw [show (w.setCell ⟨g, i, none⟩ (.int .i64 v)).frozen? ⟨g, j, none⟩ = w.frozen? ⟨g, j, none⟩ by simp]; exact h.fr j⟩
  by_cases e : j = i
  · subst e; rw [updI_at]; exact setc_at (h.c j hj)
  · rw [updI_ne _ _ _ _ e, setc_ne (fun x => e x.symm)]; exact h.c j hj
/-- apart from block b the world w' is as w was -/
structure But (b : Nat) (w w' : World) : Prop where
  os : w'.os = w.os
  tape : w'.tape = w.tape
  output : w'.output = w.output
  size : w.heap.size ≤ w'.heap.size
  block : ∀ k, k < w.heap.size → k ≠ b → w'.heap[k]? = w.heap[k]?
theorem But.refl (b : Nat) (w : World) : But b w w := ⟨rfl, rfl, rfl, Nat.le_refl _, fun _ _ _ => rfl⟩
theorem But.trans {b : Nat} {w w1 w2 : World} (h : But b w w1) (k : But b w1 w2) : But b w w2 :=
  ⟨k.os.trans h.os, k.tape.trans h.tape, k.output.trans h.output, Nat.le_trans h.size k.size, fun i hi hb => (k.block i (Nat.lt_of_lt_of_le hi h.size) hb).trans (h.block i hi hb)⟩
theorem But.setCell (w : World) (b o : Nat) (v : Value) : But b w (w.setCell ⟨b, o, none⟩ v) :=
  ⟨rfl, rfl, rfl, by simp [World.setCell], fun k _ hk => Below.heap_setCell _ _ _ _ hk⟩
theorem But.below {b B : Nat} {w w' : World} (h : But b w w') (hb : B ≤ b) (hB : B ≤ w.heap.size) : Below B w w' :=
  ⟨h.os, h.tape, h.output, h.size, fun k hk => h.block k (by omega) (by omega)⟩
theorem HoldsI.but {k : IntKind} {w w' : World} {a : Option Addr} {n : Nat} {zs : List Int} {g : Nat} (h : HoldsI k w a n zs) (hb : But g w w') (hne : ∀ b o, 0 < n → a = some ⟨b, o, none⟩ → b ≠ g) : HoldsI k w' a n zs := by
  refine ⟨h.1, fun h0 => ?_⟩
  obtain ⟨b, o, ha, hc⟩ := h.2 h0
  refine ⟨b, o, ha, fun i hi => ?_⟩
  rw [World.cell?_of_block (w := w) (hb.block b (lt_of_cell (hc i hi)) (hne b o h0 ha))]
  exact hc i hi
end Go.Proofs.Ytgghbgmeebihbaa
namespace Go.Proofs.Ytgghbgmeebihbaa
open Go.RowKit
set_option linter.unusedVariables false
set_option maxRecDepth 20000
theorem getD_memT' (zs : List Tx) (j : Nat) (h : j < zs.length) : zs.getD j ByteArray.empty ∈ zs := by
  rw [List.getD_eq_getElem?_getD, List.getElem?_eq_getElem h]; simp
end Go.Proofs.Ytgghbgmeebihbaa
namespace Go.Proofs.Ytgghbgmeebihbaa
open Go.RowKit
set_option linter.unusedVariables false
set_option maxRecDepth 20000
/-- near words, as they stand -/
def nearL (ws : List Tx) (s : Tx) (k : Int) : List KV := ws.filterMap fun t => if 0 ≤ distS t s ∧ distS t s ≤ k then some (distS t s, t) else none
def allK (ws : List Tx) (s : Tx) (k : Int) : List KV := sortK (nearL ws s k)
theorem nearL_app (a b : List Tx) (s : Tx) (k : Int) : nearL (a ++ b) s k = nearL a s k ++ nearL b s k := by simp [nearL]
theorem nearL_yes (a : List Tx) (t s : Tx) (k : Int) (h : 0 ≤ distS t s ∧ distS t s ≤ k) : nearL (a ++ [t]) s k = nearL a s k ++ [(distS t s, t)] := by
  rw [nearL_app]; simp [nearL, h]
theorem nearL_no (a : List Tx) (t s : Tx) (k : Int) (h : ¬ (0 ≤ distS t s ∧ distS t s ≤ k)) : nearL (a ++ [t]) s k = nearL a s k := by
  rw [nearL_app]; simp only [nearL, List.filterMap_cons, List.filterMap_nil, if_neg h, List.append_nil]
theorem nearL_len (ws : List Tx) (s : Tx) (k : Int) : (nearL ws s k).length ≤ ws.length := List.length_filterMap_le _ _
theorem nearL_mem {ws : List Tx} {s : Tx} {k : Int} {x : KV} : x ∈ nearL ws s k ↔ x.2 ∈ ws ∧ x.1 = distS x.2 s ∧ 0 ≤ distS x.2 s ∧ distS x.2 s ≤ k := by
  unfold nearL
  rw [List.mem_filterMap]
  constructor
  · rintro ⟨t, ht, h⟩
    split at h
    · injection h with h; subst h; exact ⟨ht, rfl, by assumption⟩
    · cases h
  · rintro ⟨h1, h2, h3⟩
    exact ⟨x.2, h1, by rw [if_pos h3, ← h2]⟩
theorem allK_mem {ws : List Tx} {s : Tx} {k : Int} {x : KV} : x ∈ allK ws s k ↔ x.2 ∈ ws ∧ x.1 = distS x.2 s ∧ 0 ≤ distS x.2 s ∧ distS x.2 s ≤ k := sortK_mem.trans nearL_mem
theorem allK_len (ws : List Tx) (s : Tx) (k : Int) : (allK ws s k).length ≤ ws.length := by unfold allK; rw [sortK_length]; exact nearL_len ws s k
end Go.Proofs.Ytgghbgmeebihbaa
namespace Go.Proofs.Ytgghbgmeebihbaa
open Go.RowKit
set_option linter.unusedVariables false
set_option maxRecDepth 20000
set_option maxHeartbeats 6400000 in
theorem badvance_any (ra rb : List Int) (g k i cap m cb : Nat) (f : Nat → Int) (b : Option Addr) (w : World) (hrow : RowIs w g (2 * k + 1) f) (hcell : ∀ x, x < 2 * k + 1 → Cell ra rb k i x (f x))
    (hb : HoldsI .i32 w b m rb) (hne : ∀ b' o, 0 < m → b = some ⟨b', o, none⟩ → b' ≠ g) (hk : k ≤ 1048576) (hm : m ≤ 1048576) (hi : i ≤ 1048576) :
    Calls Try.prog 86 #[.slice (some ⟨g, 0, none⟩) (2 * k + 1) cap, .slice b m cb, .int .i64 ((i : Int) + 1 - k), .int .i32 (ra.getD i 0), .int .i64 ((k : Int) + 1)] w fun e w' => e = .returned (.tuple #[]) ∧
      (∃ f', RowIs w' g (2 * k + 1) f' ∧ ∀ x, x < 2 * k + 1 → Cell ra rb k (i + 1) x (f' x)) ∧ But g w w' := by
  have hlb := hb.len
  obtain ⟨r, hr⟩ : ∃ r, ra.getD i 0 = r := ⟨_, rfl⟩
  obtain ⟨st, hst⟩ : ∃ st, (i : Int) + 1 - k = st := ⟨_, rfl⟩
  obtain ⟨far, hfar⟩ : ∃ far, (k : Int) + 1 = far := ⟨_, rfl⟩
  obtain ⟨n, hn⟩ : ∃ n, 2 * k + 1 = n := ⟨_, rfl⟩
  rw [hn] at hrow hcell
  rw [hr, hst, hfar, hn]
  have R0 := Lib.hid hrow; have C0 := Lib.hid hcell; have HB := Lib.hid hb; have NE := Lib.hid hne; have LB := Lib.hid hlb
  have HR := Lib.hid hr; have HF := Lib.hid hfar; have HNN := Lib.hid hn; have HST := Lib.hid hst
  have hfb : 0 ≤ far ∧ far ≤ 1048577 := by omega
  have hsb : -1048576 ≤ st ∧ st ≤ 1048577 := by omega
  have hnb : n ≤ 2097153 := by omega
  clear hrow hcell hb hne hlb hr hst hfar hn
  go_enter Try.func86, Try.ntmps86
  go_wp2_with fail
  go_loopw [15] (fun xv wr => ∃ (x : Nat) (f' : Nat → Int), x ≤ n ∧ xv = .int .i64 x ∧ Hid (RowIs wr g n f') ∧ Hid (∀ y, y < x → Cell ra rb k (i + 1) y (f' y)) ∧ Hid (∀ y, x ≤ y → f' y = f y) ∧ Hid (But g w wr)) (fun xv _ => n - (intOf xv).toNat)
  case atStart => exact ⟨0, f, by omega, rfl, R0, Lib.hid (fun y h => by omega), Lib.hid (fun y _ => rfl), Lib.hid (But.refl _ _)⟩
  case round =>
    obtain ⟨x, f', hx, rfl, hR, hC, hO, hB⟩ := hrel
    by_cases hlt : x < n
    · have hfx := hR.out.fr x
      have hcx := hR.out.c x hlt
      have hox := hO.out x (Nat.le_refl _)
      have hCx := C0.out x hlt
      rw [hox] at hcx
      obtain ⟨o, ho⟩ : ∃ o, f x = o := ⟨_, rfl⟩
      rw [ho] at hcx hCx
      have hob : 0 ≤ o ∧ o ≤ 1048577 := by have h1 := hCx.lo; have h2 := hCx.hi; omega
      have HCX := Lib.hid hCx
      obtain ⟨j, hj⟩ : ∃ j, st + (x : Int) = j := ⟨_, rfl⟩
      have hjw : IntKind.i64.wrap (st + (x : Int)) = j := by rw [IntWalk.i64_in _ (by omega)]; exact hj
      have hjv : j = (i : Int) + 1 + x - k := by have := HST.out; omega
      have HJV := Lib.hid hjv
      have done : ∀ v, Cell ra rb k (i + 1) x v → RowIs (wr.setCell ⟨g, x, none⟩ (.int .i64 v)) g n (updI f' x v) ∧ (∀ y, y < x + 1 → Cell ra rb k (i + 1) y (updI f' x v y)) ∧ (∀ y, x + 1 ≤ y → updI f' x v y = f y) ∧ But g w (wr.setCell ⟨g, x, none⟩ (.int .i64 v)) := by
        intro v hv
        refine ⟨hR.out.set x v hlt, fun y hy => ?_, fun y hy => by rw [updI_ne _ _ _ _ (by omega)]; exact hO.out y (by omega), hB.out.trans (But.setCell _ _ _ _)⟩
        by_cases e : y = x
        · subst e; rw [updI_at]; exact hv
        · rw [updI_ne _ _ _ _ e]; exact hC.out y (by omega)
      have D := Lib.hid done
      clear hox ho hj hjv hCx done
      by_cases hj0 : j < 0 ∨ (m : Int) < j
      · have hv : Cell ra rb k (i + 1) x far := by
          rw [← HF.out]
          rcases hj0 with h | h
          · exact cell_out_low _ _ _ _ _ (by have := HJV.out; omega)
          · exact cell_out_high _ _ _ _ _ (by rw [LB.out]; have := HJV.out; omega)
        obtain ⟨z1, z2, z3, z4⟩ := D.out far hv
        have Z1 := Lib.hid z1; have Z2 := Lib.hid z2; have Z3 := Lib.hid z3; have Z4 := Lib.hid z4
        clear z1 z2 z3 z4 hv
        rcases hj0 with h | h
        · go_wp2_with fail
          go_roundw
          case rel => exact ⟨x + 1, _, by omega, by go_num, Z1, Z2, Z3, Z4⟩
          case measure => simp [intOf]; omega
        · have h0 : 0 ≤ j := by omega
          go_wp2_with fail
          go_roundw
          case rel => exact ⟨x + 1, _, by omega, by go_num, Z1, Z2, Z3, Z4⟩
          case measure => simp [intOf]; omega
      · have h0 : 0 ≤ j := by omega
        have h1 : j ≤ (m : Int) := by omega
        clear hj0
        have hD1 : ∃ D1, 0 ≤ D1 ∧ D1 ≤ 1048578 ∧ Comes ra rb k i x D1 ∧ ((j = 0 ∧ D1 = far) ∨ (∃ J : Nat, j = (J : Int) + 1 ∧ ((rb.getD J 0 = r ∧ D1 = o) ∨ (rb.getD J 0 ≠ r ∧ D1 = o + 1)))) := by
          by_cases hjz : j = 0
          · exact ⟨far, by omega, by omega, by rw [← HF.out]; exact comes_zero ra rb k i x (by have := HJV.out; omega), Or.inl ⟨hjz, rfl⟩⟩
          · have e := comes_in ra rb k i x (j - 1).toNat o (by have := HJV.out; omega) (by rw [LB.out]; omega) HCX.out
            by_cases hc : rb.getD (j - 1).toNat 0 = r
            · rw [HR.out, hc, cost_eq, Int.add_zero] at e
              exact ⟨o, by omega, by omega, e, Or.inr ⟨(j - 1).toNat, by omega, Or.inl ⟨hc, rfl⟩⟩⟩
            · rw [HR.out, cost_ne (fun h => hc h.symm)] at e
              exact ⟨o + 1, by omega, by omega, e, Or.inr ⟨(j - 1).toNat, by omega, Or.inr ⟨hc, rfl⟩⟩⟩
        obtain ⟨D1, hd0, hd1, hcomes, hD⟩ := hD1
        have CM := Lib.hid hcomes
        have HD := Lib.hid hD
        clear hcomes hD
        go_upto_if 35 with fail
        go_cut [12] from 16 to 78 (fun d wc => d = .int .i64 D1 ∧ wr = wc)
        case first =>
          rcases HD.out with ⟨hj, hd⟩ | ⟨J, hj, hc⟩
          · subst hj
            go_wp2_with fail
            go_meet
            exact ⟨by rw [hd], rfl⟩
          · obtain ⟨bb, bo, rfl, hbc⟩ := (HB.out.but hB.out NE.out).2 (by omega)
            have e1 := hbc J (by omega)
            obtain ⟨c, hcv⟩ : ∃ c, rb.getD J 0 = c := ⟨_, rfl⟩
            rw [hcv] at e1 hc
            have hjw2 : IntKind.i64.wrap (j - 1) = (J : Int) := by rw [IntWalk.i64_in _ (by omega)]; omega
            have x1 : (0 : Int) < j := by omega
            have x2 : (0 : Int) ≤ (J : Int) := by omega
            have x3 : (J : Int) < (m : Int) := by omega
            have HJ := Lib.hid hj
            clear hbc hcv hj
            rcases hc with ⟨hc, hd⟩ | ⟨hc, hd⟩
            · have x4 : (c != r) = false := by simpa using hc
              clear hc
              subst hd
              go_wp2_with fail
              go_meet
              exact ⟨rfl, rfl⟩
            · have x4 : (c != r) = true := by simpa using hc
              clear hc
              go_wp2_with fail
              go_meet
              exact ⟨by rw [hd], rfl⟩
        case rest =>
          obtain ⟨rfl, rfl⟩ := hcut
          clear HD
          have hD2 : ∃ D2 l, 0 ≤ D2 ∧ D2 ≤ 1048578 ∧ 0 ≤ l ∧ l ≤ 1048577 ∧ ((x = 0 ∧ D2 = D1) ∨ (∃ p, p + 1 = x ∧ Cell ra rb k (i + 1) p l ∧ D2 = min D1 (l + 1))) ∧ (∀ p, p + 1 = x → f' p = l) := by
            rcases Nat.eq_zero_or_pos x with hx0 | hx0
            · exact ⟨D1, 0, by omega, by omega, by omega, by omega, Or.inl ⟨hx0, rfl⟩, fun p hp => by omega⟩
            · have e := hC.out (x - 1) (by omega)
              have b1 := e.lo; have b2 := e.hi
              exact ⟨min D1 (f' (x - 1) + 1), f' (x - 1), by omega, by omega, b1, by omega, Or.inr ⟨x - 1, by omega, e, rfl⟩, fun p hp => by rw [show p = x - 1 by omega]⟩
          obtain ⟨D2, l, he0, he1, hl0, hl1, hD2, hpl⟩ := hD2
          have HD2 := Lib.hid hD2
          have HPL := Lib.hid hpl
          clear hD2 hpl
          go_upto_if 50 with fail
          go_cut [12] from 16 to 78 (fun d wc => d = .int .i64 D2 ∧ wr = wc)
          case first =>
            rcases HD2.out with ⟨hx0, hd⟩ | ⟨p, hp, _, hd⟩
            · subst hx0 hd
              go_wp2_with fail
              go_meet
              exact ⟨rfl, rfl⟩
            · have e1 := hR.out.c p (by omega)
              rw [HPL.out p hp] at e1
              have hw2 : IntKind.i64.wrap ((x : Int) - 1) = (p : Int) := by rw [IntWalk.i64_in _ (by omega)]; omega
              have x1 : (0 : Int) < (x : Int) := by omega
              have x2 : (0 : Int) ≤ (p : Int) := by omega
              have x3 : (p : Int) < (n : Int) := by omega
              have x5 : p < n := by omega
              have hw3 : IntKind.i64.wrap (l + 1) = l + 1 := IntWalk.i64_in _ (by omega)
              have HDD := Lib.hid hd
              clear hd
              go_wp2_with fail
              all_goals go_meet
              all_goals exact ⟨by congr 1; have := HDD.out; omega, rfl⟩
          case rest =>
            obtain ⟨rfl, rfl⟩ := hcut
            have hD3 : ∃ D3 u, 0 ≤ D3 ∧ D3 ≤ 1048578 ∧ 0 ≤ u ∧ u ≤ 1048577 ∧ ((x = 2 * k ∧ D3 = D2) ∨ (x < 2 * k ∧ Cell ra rb k i (x + 1) u ∧ D3 = min D2 (u + 1))) ∧ (x + 1 < n → f' (x + 1) = u) := by
              by_cases hxn : x + 1 < n
              · have e := C0.out (x + 1) hxn
                have b1 := e.lo; have b2 := e.hi
                exact ⟨min D2 (f (x + 1) + 1), f (x + 1), by omega, by omega, b1, by omega, Or.inr ⟨by have := HNN.out; omega, e, rfl⟩, fun _ => hO.out (x + 1) (by omega)⟩
              · exact ⟨D2, 0, by omega, by omega, by omega, by omega, Or.inl ⟨by have := HNN.out; omega, rfl⟩, fun h => absurd h hxn⟩
            obtain ⟨D3, u, hf0, hf1, hu0, hu1, hD3, hpu⟩ := hD3
            have HD3 := Lib.hid hD3
            have HPU := Lib.hid hpu
            clear hD3 hpu
            go_upto_if 63 with fail
            go_cut [12] from 16 to 78 (fun d wc => d = .int .i64 D3 ∧ wr = wc)
            case first =>
              by_cases hxn : x + 1 < n
              · have hd : D3 = min D2 (u + 1) := by
                  rcases HD3.out with ⟨h, _⟩ | ⟨_, _, h⟩
                  · have := HNN.out; omega
                  · exact h
                have e1 := hR.out.c (x + 1) hxn
                rw [HPU.out hxn] at e1
                have x3 : (x : Int) + 1 < (n : Int) := by omega
                have hw2 : IntKind.i64.wrap ((x : Int) + 1) = (x : Int) + 1 := IntWalk.i64_in _ (by omega)
                have hw3 : IntKind.i64.wrap (u + 1) = u + 1 := IntWalk.i64_in _ (by omega)
                have HDD := Lib.hid hd
                clear hd
                go_wp2_with fail
                all_goals go_meet
                all_goals exact ⟨by congr 1; have := HDD.out; omega, rfl⟩
              · have hd : D3 = D2 := by
                  rcases HD3.out with ⟨_, h⟩ | ⟨h, _⟩
                  · exact h
                  · have := HNN.out; omega
                subst hd
                have x3 : ¬ (x : Int) + 1 < (n : Int) := by omega
                have hw2 : IntKind.i64.wrap ((x : Int) + 1) = (x : Int) + 1 := IntWalk.i64_in _ (by omega)
                go_wp2_with fail
                go_meet
                exact ⟨rfl, rfl⟩
            case rest =>
              obtain ⟨rfl, rfl⟩ := hcut
              obtain ⟨z1, z2, z3, z4⟩ := D.out (min D3 far) (CM.out l u D2 D3 (min D3 far) HD2.out HD3.out (by rw [HF.out]))
              obtain ⟨V, hV⟩ : ∃ V, min D3 far = V := ⟨_, rfl⟩
              rw [hV] at z1 z2 z3 z4
              have Z1 := Lib.hid z1; have Z2 := Lib.hid z2; have Z3 := Lib.hid z3; have Z4 := Lib.hid z4
              clear z1 z2 z3 z4 HD2 HD3 HPL HPU D CM
              have hmin : (D3 < far ∧ V = D3) ∨ (D3 = far ∧ V = D3) ∨ (far < D3 ∧ V = far) := by omega
              rcases hmin with ⟨h3, h4⟩ | ⟨h3, h4⟩ | ⟨h3, h4⟩
              · subst h4
                go_wp2_with fail
                go_roundw
                case rel => exact ⟨x + 1, _, by omega, by go_num, Z1, Z2, Z3, Z4⟩
                case measure => simp [intOf]; omega
              · subst h4 h3
                go_wp2_with fail
                go_roundw
                case rel => exact ⟨x + 1, _, by omega, by go_num, Z1, Z2, Z3, Z4⟩
                case measure => simp [intOf]; omega
              · subst h4
                go_wp2_with fail
                go_roundw
                case rel => exact ⟨x + 1, _, by omega, by go_num, Z1, Z2, Z3, Z4⟩
                case measure => simp [intOf]; omega
    · obtain rfl : x = n := by omega
      go_wp2_with fail
      go_end0
      exact ⟨rfl, ⟨f', hR.out, fun y hy => hC.out y (by have := HNN.out; omega)⟩, hB.out⟩
end Go.Proofs.Ytgghbgmeebihbaa
namespace Go.Proofs.Ytgghbgmeebihbaa
open Go.RowKit
set_option linter.unusedVariables false
set_option maxRecDepth 20000
theorem RowIs.of_own {w : World} {B g n cap : Nat} {e : TypeId} {zs : List Int} (h : w.ownsRow B e 1 (.slice (some ⟨g, 0, none⟩) n cap) n (intsV zs)) (hz : zs.length = n) : RowIs w g n (fun j => zs.getD j 0) :=
  ⟨fun j hj => by have := h.cellAt j (by omega); rw [intsV_at _ j (by omega)] at this; exact this, fun j => h.frozenAt j⟩
set_option maxHeartbeats 6400000 in
theorem banded_any (ra rb : List Int) (a b : Option Addr) (la lb ca cb k : Nat) (w : World) (ha : HoldsI .i32 w a la ra) (hb : HoldsI .i32 w b lb rb) (hla : la ≤ 1048576) (hlb : lb ≤ 1048576) (hk : k ≤ 1048576)
    (h1 : (la : Int) - lb ≤ k) (h2 : (lb : Int) - la ≤ k) :
    Calls Try.prog 73 #[.slice a la ca, .slice b lb cb, .int .i64 k] w fun e w' => e = .returned (.int .i64 (min (Ed.L ra rb la lb) ((k : Int) + 1))) ∧ Below w.heap.size w w' := by
  obtain ⟨i0, hi, hz0, hz1, hz2⟩ := info_parts int_info
  have HA := Lib.hid ha; have HB := Lib.hid hb
  have LA := Lib.hid ha.len; have LB := Lib.hid hb.len
  obtain ⟨n, hn⟩ : ∃ n, 2 * k + 1 = n := ⟨_, rfl⟩
  obtain ⟨far, hfar⟩ : ∃ far, (k : Int) + 1 = far := ⟨_, rfl⟩
  have hw1 : IntKind.i64.wrap ((k : Int) + 1) = far := by rw [IntWalk.i64_in _ (by omega)]; exact hfar
  have hw2 : IntKind.i64.wrap (2 * (k : Int)) = 2 * (k : Int) := IntWalk.i64_in _ (by omega)
  have hw3 : IntKind.i64.wrap (2 * (k : Int) + 1) = (n : Int) := by rw [IntWalk.i64_in _ (by omega)]; omega
  have HN := Lib.hid hn; have HF := Lib.hid hfar
  have hnb : n ≤ 2097153 := by omega
  have hfb : 0 ≤ far ∧ far ≤ 1048577 := by omega
  clear ha hb hn hfar
  go_enter Try.func73, Try.ntmps73
  go_wp2_with (at_make; refine wpList_make_full _ rfl _ _ 22 rfl w.heap.size 3 i0 (.int .i64 0) 1 Try.underlying22 hi hz0 hz1 _ _ _ _ n rfl rfl (by omega) (by omega) (by rw [hz2]; omega) (by unfold maxLen; omega) (Nat.le_refl _) ?_; intro w0 hown0 hgrow0)
  have hB0 := below_grown hgrow0 (by intro k hk; cases hk)
  have ho : w0.ownsRow w.heap.size 3 1 (.slice (some ⟨w.heap.size, 0, none⟩) n n) n (intsV (upTo n 0)) := by
    rw [upTo_zero, ← toList_madeCells_one]; rw [Nat.mul_one] at hown0; exact hown0
  have R0 := Lib.hid (RowIs.of_own ho (upTo_length _ _)); have B0 := Lib.hid hB0
  clear hown0 hgrow0 ho hB0
  obtain ⟨g, hg⟩ : ∃ g, w.heap.size = g := ⟨_, rfl⟩
  have HG := Lib.hid hg
  rw [hg] at R0
  simp only [hg]
  clear hg
  go_loopw [20] (fun xv wr => ∃ (x : Nat) (f' : Nat → Int), x ≤ n ∧ xv = .int .i64 x ∧ Hid (RowIs wr g n f') ∧ Hid (∀ y, y < x → Cell ra rb k 0 y (f' y)) ∧ Hid (Below w.heap.size w wr)) (fun xv _ => n - (intOf xv).toNat)
  case atStart => exact ⟨0, _, by omega, rfl, R0, Lib.hid (fun y h => by omega), B0⟩
  case round =>
    obtain ⟨x, f', hx, rfl, hR, hC, hB⟩ := hrel
    by_cases hlt : x < n
    · have hc := hR.out.c x hlt
      have hf := hR.out.fr x
      have hR1 := Lib.hid (hR.out.set x far hlt)
      have hcs := cell_start ra rb k x (by have := HN.out; omega)
      have x1 : (0 : Int) ≤ (x : Int) := by omega
      have x2 : (x : Int) < (n : Int) := by omega
      have hf1 := hR1.out.fr x
      have hc1 := hR1.out.c x hlt
      have hgl : w.heap.size ≤ g := Nat.le_of_eq HG.out
      by_cases hxk : k ≤ x
      · rw [if_pos hxk] at hcs
        obtain ⟨V, hV⟩ : ∃ V, (x : Int) - k = V := ⟨_, rfl⟩
        rw [hV] at hcs
        have hVw : IntKind.i64.wrap ((x : Int) - k) = V := by rw [IntWalk.i64_in _ (by omega)]; exact hV
        have hR2 := Lib.hid (hR1.out.set x V hlt)
        have HCS := Lib.hid hcs
        clear hV hcs
        go_wp2_with fail
        go_roundw
        case rel =>
          refine ⟨x + 1, _, by omega, by go_num, hR2, Lib.hid (fun y hy => ?_), Lib.hid ((hB.out.setCell hgl _).setCell hgl _)⟩
          by_cases e : y = x
          · subst e; rw [updI_at]; exact HCS.out
          · rw [updI_ne _ _ _ _ e, updI_ne _ _ _ _ e]; exact hC.out y (by omega)
        case measure => simp [intOf]; omega
      · rw [if_neg hxk] at hcs
        have HCS := Lib.hid hcs
        clear hcs
        go_wp2_with fail
        go_roundw
        case rel =>
          refine ⟨x + 1, _, by omega, by go_num, hR1, Lib.hid (fun y hy => ?_), Lib.hid (hB.out.setCell hgl _)⟩
          by_cases e : y = x
          · subst e; rw [updI_at, ← HF.out]; exact HCS.out
          · rw [updI_ne _ _ _ _ e]; exact hC.out y (by omega)
        case measure => simp [intOf]; omega
    · obtain rfl : x = n := by omega
      have C1 := Lib.hid (show ∀ y, y < x → Cell ra rb k 0 y (f' y) from hC.out)
      clear hC
      go_wp2_with fail
      go_loopw [39] (fun iv wr2 => ∃ (i : Nat) (f2 : Nat → Int), i ≤ la ∧ iv = .int .i64 i ∧ Hid (RowIs wr2 g x f2) ∧ Hid (∀ y, y < x → Cell ra rb k i y (f2 y)) ∧ Hid (Below w.heap.size w wr2)) (fun iv _ => la - (intOf iv).toNat)
      case atStart => exact ⟨0, f', by omega, rfl, hR, C1, hB⟩
      case round =>
        obtain ⟨i, f2, hi2, rfl, hR2, hC2, hB2⟩ := hrel
        by_cases hil : i < la
        · obtain ⟨ab, ao, rfl, hac⟩ := (HA.out.below (w' := wr) hB2.out).2 (by omega)
          have e1 := hac i hil
          have hiw : IntKind.i64.wrap ((i : Int) + 1) = (i : Int) + 1 := IntWalk.i64_in _ (by omega)
          have hiw2 : IntKind.i64.wrap ((i : Int) + 1 - k) = (i : Int) + 1 - k := IntWalk.i64_in _ (by omega)
          have hne : ∀ b' o, 0 < lb → b = some ⟨b', o, none⟩ → b' ≠ g := fun b' o h0 e => by
            obtain ⟨b2, o2, e2, hc2⟩ := HB.out.2 h0
            rw [e2] at e; injection e with e; injection e with e3
            have := lt_of_cell (hc2 0 h0); have := HG.out; omega
          have NE := Lib.hid hne
          clear hac hne
          go_wp2_with fail
          have hn' := HN.out
          have hadv := badvance_any ra rb g k i x lb cb f2 b wr (hn' ▸ hR2.out) (fun y hy => hC2.out y (by omega)) (HB.out.below hB2.out) NE.out hk hlb (by omega)
          rw [hn', HF.out] at hadv
          refine hadv.mono ?_
          rintro e w2 ⟨rfl, ⟨f3, hr3, hc3⟩, hb3⟩
          have R3 := Lib.hid hr3; have C3 := Lib.hid hc3
          have B3 := Lib.hid (hB2.out.trans (hb3.below (Nat.le_of_eq HG.out) hB2.out.size))
          clear hr3 hc3 hb3 hadv hn'
          go_wp2_with fail
          go_roundw
          case rel => exact ⟨i + 1, f3, by omega, by go_num, R3, C3, B3⟩
          case measure => simp [intOf]; omega
        · obtain rfl : i = la := by omega
          obtain ⟨p, hp⟩ : ∃ p : Nat, (p : Int) = (lb : Int) - i + k := ⟨((lb : Int) - i + k).toNat, by omega⟩
          have hpx : p < x := by have := HN.out; omega
          have e1 := hR2.out.c p hpx
          have e2 := (hC2.out p hpx).eq lb (by omega) (by rw [LB.out]; exact Nat.le_refl _)
          rw [e2, HF.out] at e1
          have q1 : IntKind.i64.wrap ((lb : Int) - i) = (lb : Int) - i := IntWalk.i64_in _ (by omega)
          have q2 : IntKind.i64.wrap ((lb : Int) - i + k) = (p : Int) := by rw [IntWalk.i64_in _ (by omega)]; exact hp.symm
          have q3 : (0 : Int) ≤ (p : Int) := by omega
          have q4 : (p : Int) < (x : Int) := by omega
          obtain ⟨V, hV⟩ : ∃ V, min (Ed.L ra rb i lb) far = V := ⟨_, rfl⟩
          rw [hV] at e1
          have HV := Lib.hid hV
          clear e2 hp hV
          go_wp2_with fail
          go_ret
          exact ⟨ret_int (by rw [HF.out]; exact HV.out.symm), hB2.out⟩
end Go.Proofs.Ytgghbgmeebihbaa
namespace Go.Proofs.Ytgghbgmeebihbaa
open Go.RowKit
set_option linter.unusedVariables false
set_option maxRecDepth 20000
def withinD (D k : Int) : Int := if D ≤ k then D else 0
/-- Within, where the distance is told by a letter -/
def WithinP (a b : Option Addr) (la lb ca cb : Nat) (D : Int) (w : World) : Prop :=
  ∀ k : Int, Calls Try.prog 65 #[.slice a la ca, .slice b lb cb, .int .i64 k] w fun e w' => e = .returned (.tuple #[.int .i64 (withinD D k), .bool (decide (D ≤ k))]) ∧ Below w.heap.size w w'
theorem within_no (ra rb : List Int) (a b : Option Addr) (la lb ca cb : Nat) (k : Int) (w : World) (hla : la ≤ 1048576) (hlb : lb ≤ 1048576) (h : k < 0 ∨ k < (la : Int) - lb ∨ k < (lb : Int) - la) :
    Calls Try.prog 65 #[.slice a la ca, .slice b lb cb, .int .i64 k] w fun e w' => e = .returned (.tuple #[.int .i64 0, .bool false]) ∧ w = w' := by
  have h1 : k < 0 ∨ (0 ≤ k ∧ k < (la : Int) - lb) ∨ (0 ≤ k ∧ (la : Int) - lb ≤ k ∧ k < (lb : Int) - la) := by omega
  have q1 : IntKind.i64.wrap ((la : Int) - lb) = (la : Int) - lb := IntWalk.i64_in _ (by omega)
  have q2 : IntKind.i64.wrap ((lb : Int) - la) = (lb : Int) - la := IntWalk.i64_in _ (by omega)
  clear h
  rcases h1 with h1 | ⟨h0, h1⟩ | ⟨h0, h1, h2⟩
  all_goals
    go_enter Try.func65, Try.ntmps65
    go_wp2_with fail
    go_ret2
    exact ⟨rfl, rfl⟩
set_option maxHeartbeats 1600000 in
theorem within_any (ra rb : List Int) (a b : Option Addr) (la lb ca cb : Nat) (w : World) (ha : HoldsI .i32 w a la ra) (hb : HoldsI .i32 w b lb rb) (hla : la ≤ 1048576) (hlb : lb ≤ 1048576) :
    WithinP a b la lb ca cb (Ed.L ra rb la lb) w := by
  intro k
  have b1 := Ed.L_low ra rb la lb
  have b2 := Ed.L_bd ra rb la lb
  have b3 := Ed.L_up ra rb la lb
  by_cases hno : k < 0 ∨ k < (la : Int) - lb ∨ k < (lb : Int) - la
  · have h1 : ¬ Ed.L ra rb la lb ≤ k := by omega
    unfold withinD
    rw [if_neg h1, decide_eq_false h1]
    exact (within_no ra rb a b la lb ca cb k w hla hlb hno).mono fun e w' h => ⟨h.1, h.2 ▸ Below.refl _ _⟩
  · obtain ⟨n, rfl⟩ : ∃ n : Nat, k = (n : Int) := ⟨k.toNat, by omega⟩
    have h1 : (la : Int) - lb ≤ n := by omega
    have h2 : (lb : Int) - la ≤ n := by omega
    have h0 : (0 : Int) ≤ (n : Int) := by omega
    have q1 : IntKind.i64.wrap ((la : Int) - lb) = (la : Int) - lb := IntWalk.i64_in _ (by omega)
    have q2 : IntKind.i64.wrap ((lb : Int) - la) = (lb : Int) - la := IntWalk.i64_in _ (by omega)
    have hruns := Lib.hid (eruns_lit ra rb la lb a b ca cb w ha.len hb.len ha hb hla hlb)
    have hband := Lib.hid (fun hn => banded_any ra rb a b la lb ca cb n w ha hb hla hlb hn h1 h2)
    obtain ⟨D, hD⟩ : ∃ D, Ed.L ra rb la lb = D := ⟨_, rfl⟩
    simp only [hD] at b1 b2 b3 hruns hband ⊢
    unfold withinD
    have hmx : ((la : Int) < lb ∧ ((max la lb : Nat) : Int) = lb) ∨ ((lb : Int) ≤ la ∧ ((max la lb : Nat) : Int) = la) := by omega
    clear ha hb hD hno b1
    rcases hmx with ⟨hm, hm2⟩ | ⟨hm, hm2⟩
    all_goals
      rw [hm2] at b3
      clear hm2
    · by_cases hbig : (lb : Int) ≤ n
      · have hle : D ≤ (n : Int) := by omega
        rw [if_pos hle, decide_eq_true hle]
        have x1 : ¬ (n : Int) < D := by omega
        go_enter Try.func65, Try.ntmps65
        go_wp2_with fail
        refine hruns.out.mono ?_
        rintro e w' ⟨rfl, hb⟩
        go_wp2_with fail
        go_ret2
        exact ⟨rfl, hb⟩
      · have hb2 := Lib.hid (hband.out (by omega))
        have x3 : (n : Int) < lb := by omega
        clear hband hbig
        by_cases hle : D ≤ (n : Int)
        · rw [if_pos hle, decide_eq_true hle]
          have hv : min D ((n : Int) + 1) = D := by omega
          rw [hv] at hb2
          clear hv
          go_enter Try.func65, Try.ntmps65
          go_wp2_with fail
          refine hb2.out.mono ?_
          rintro e w' ⟨rfl, hb⟩
          go_wp2_with fail
          go_ret2
          exact ⟨rfl, hb⟩
        · rw [if_neg hle, decide_eq_false hle]
          have hv : min D ((n : Int) + 1) = (n : Int) + 1 := by omega
          rw [hv] at hb2
          clear hv
          go_enter Try.func65, Try.ntmps65
          go_wp2_with fail
          refine hb2.out.mono ?_
          rintro e w' ⟨rfl, hb⟩
          go_wp2_with fail
          go_ret2
          exact ⟨rfl, hb⟩
    · by_cases hbig : (la : Int) ≤ n
      · have hle : D ≤ (n : Int) := by omega
        rw [if_pos hle, decide_eq_true hle]
        have x1 : ¬ (n : Int) < D := by omega
        go_enter Try.func65, Try.ntmps65
        go_wp2_with fail
        refine hruns.out.mono ?_
        rintro e w' ⟨rfl, hb⟩
        go_wp2_with fail
        go_ret2
        exact ⟨rfl, hb⟩
      · have hb2 := Lib.hid (hband.out (by omega))
        have x3 : (n : Int) < la := by omega
        clear hband hbig
        by_cases hle : D ≤ (n : Int)
        · rw [if_pos hle, decide_eq_true hle]
          have hv : min D ((n : Int) + 1) = D := by omega
          rw [hv] at hb2
          clear hv
          go_enter Try.func65, Try.ntmps65
          go_wp2_with fail
          refine hb2.out.mono ?_
          rintro e w' ⟨rfl, hb⟩
          go_wp2_with fail
          go_ret2
          exact ⟨rfl, hb⟩
        · rw [if_neg hle, decide_eq_false hle]
          have hv : min D ((n : Int) + 1) = (n : Int) + 1 := by omega
          rw [hv] at hb2
          clear hv
          go_enter Try.func65, Try.ntmps65
          go_wp2_with fail
          refine hb2.out.mono ?_
          rintro e w' ⟨rfl, hb⟩
          go_wp2_with fail
          go_ret2
          exact ⟨rfl, hb⟩
def nearOk (a b : ByteArray) (k : Int) : Bool := decide (0 ≤ distS a b ∧ distS a b ≤ k)
def nearD (a b : ByteArray) (k : Int) : Int := if 0 ≤ distS a b ∧ distS a b ≤ k then distS a b else 0
set_option maxHeartbeats 1600000 in
theorem near_any (a b : ByteArray) (k : Int) (w : World) (hsa : a.size ≤ 1048576) (hsb : b.size ≤ 1048576) :
    Calls Try.prog 54 #[.string a, .string b, .int .i64 k] w fun e w' => e = .returned (.tuple #[.int .i64 (nearD a b k), .bool (nearOk a b k)]) ∧ Below w.heap.size w w' := by
  unfold nearOk nearD
  by_cases hga : 0 ≤ lenS a
  · have hA := Lib.hid (runes_good a w hsa hga)
    by_cases hgb : 0 ≤ lenS b
    · have hBr := Lib.hid (fun w => runes_good b w hsb hgb)
      have hd : distS a b = Ed.L (intsN (runesS a)) (intsN (runesS b)) (runesS a).length (runesS b).length := by unfold distS; rw [if_pos ⟨hga, hgb⟩]
      have hbd := Ed.L_bd (intsN (runesS a)) (intsN (runesS b)) (runesS a).length (runesS b).length
      have hle := runesS_le a
      have hleb := runesS_le b
      have hl1 := intsN_length (runesS a)
      have hl2 := intsN_length (runesS b)
      have h0 : (0 ≤ distS a b ∧ distS a b ≤ k) ↔ distS a b ≤ k := ⟨fun h => h.2, fun h => ⟨by omega, h⟩⟩
      have e1 : (if 0 ≤ distS a b ∧ distS a b ≤ k then distS a b else 0) = withinD (distS a b) k := by
        unfold withinD
        by_cases hk : distS a b ≤ k
        · rw [if_pos hk, if_pos (h0.2 hk)]
        · rw [if_neg hk, if_neg (fun h => hk h.2)]
      have e2 : decide (0 ≤ distS a b ∧ distS a b ≤ k) = decide (distS a b ≤ k) := decide_eq_decide.2 h0
      rw [e1, e2]
      rw [hd]
      clear e1 e2
      have HLE := Lib.hid hle; have HLEB := Lib.hid hleb; have HL1 := Lib.hid hl1; have HL2 := Lib.hid hl2
      clear hd hbd h0 hle hleb hl1 hl2 hga hgb
      go_enter Try.func54, Try.ntmps54
      go_wp2_with fail
      refine hA.out.mono ?_
      rintro e w1 ⟨a1, c1, rfl, hr1⟩
      have R1 := Lib.hid hr1
      clear hr1
      go_wp2_with fail
      refine (hBr.out _).mono ?_
      rintro e w2 ⟨a2, c2, rfl, hr2⟩
      have R2 := Lib.hid hr2
      clear hr2
      go_wp2_with fail
      have B2 : Below w.heap.size w w2 := R1.out.2.1.trans (R2.out.2.1.mono R1.out.2.1.size)
      have h1 := R1.out.holds.below R2.out.2.1
      have h2 := R2.out.holds
      rw [HL1.out] at h1; rw [HL2.out] at h2
      have hw := within_any (intsN (runesS a)) (intsN (runesS b)) a1 a2 (runesS a).length (runesS b).length c1 c2 w2 h1 h2 (by have := HLE.out; omega) (by have := HLEB.out; omega) k
      refine hw.mono ?_
      rintro e w3 ⟨rfl, hb3⟩
      have B3 := Lib.hid (B2.trans (hb3.mono B2.size))
      clear hb3 hw h1 h2 B2
      go_wp2_with fail
      go_ret2
      exact ⟨rfl, B3.out⟩
    · have hBr := Lib.hid (fun w => runes_bad b w hsb (by omega))
      have hd : distS a b = -1 := by unfold distS; rw [if_neg (fun h => hgb h.2)]
      rw [hd]
      have hn : ¬ ((0 : Int) ≤ -1 ∧ (-1 : Int) ≤ k) := by omega
      rw [if_neg hn, decide_eq_false hn]
      clear hn hd hga hgb
      go_enter Try.func54, Try.ntmps54
      go_wp2_with fail
      refine hA.out.mono ?_
      rintro e w1 ⟨a1, c1, rfl, hr1⟩
      have R1 := Lib.hid hr1
      clear hr1
      go_wp2_with fail
      refine (hBr.out _).mono ?_
      rintro e w2 ⟨rfl, hb2⟩
      have B2 := Lib.hid (R1.out.2.1.trans (hb2.mono R1.out.2.1.size))
      clear hb2
      go_wp2_with fail
      go_ret2
      exact ⟨rfl, B2.out⟩
  · have hA := Lib.hid (runes_bad a w hsa (by omega))
    have hd : distS a b = -1 := by unfold distS; rw [if_neg (fun h => hga h.1)]
    rw [hd]
    have hn : ¬ ((0 : Int) ≤ -1 ∧ (-1 : Int) ≤ k) := by omega
    rw [if_neg hn, decide_eq_false hn]
    clear hn hd hga
    by_cases hgb : 0 ≤ lenS b
    · have hBr := Lib.hid (fun w => runes_good b w hsb hgb)
      clear hgb
      go_enter Try.func54, Try.ntmps54
      go_wp2_with fail
      refine hA.out.mono ?_
      rintro e w1 ⟨rfl, hb1⟩
      have R1 := Lib.hid hb1
      clear hb1
      go_wp2_with fail
      refine (hBr.out _).mono ?_
      rintro e w2 ⟨a2, c2, rfl, hr2⟩
      have B2 := Lib.hid (R1.out.trans (hr2.2.1.mono R1.out.size))
      clear hr2
      go_wp2_with fail
      go_ret2
      exact ⟨rfl, B2.out⟩
    · have hBr := Lib.hid (fun w => runes_bad b w hsb (by omega))
      clear hgb
      go_enter Try.func54, Try.ntmps54
      go_wp2_with fail
      refine hA.out.mono ?_
      rintro e w1 ⟨rfl, hb1⟩
      have R1 := Lib.hid hb1
      clear hb1
      go_wp2_with fail
      refine (hBr.out _).mono ?_
      rintro e w2 ⟨rfl, hb2⟩
      have B2 := Lib.hid (R1.out.trans (hb2.mono R1.out.size))
      clear hb2
      go_wp2_with fail
      go_ret2
      exact ⟨rfl, B2.out⟩
end Go.Proofs.Ytgghbgmeebihbaa
namespace Go.Proofs.Ytgghbgmeebihbaa
open Go.RowKit
set_option linter.unusedVariables false
set_option maxRecDepth 20000
/-- sorted in place is a slice of the call's own -/
theorem sortI_own (a : Option Addr) (n cap B : Nat) (ks : List KV) (w : World) (hown : w.ownsRow B 61 2 (.slice a n cap) n (keysV ks)) (hn : n ≤ 1048576) :
    Calls Try.prog 55 #[.slice a n cap, .func (.func 56) #[] #[]] w fun e w' => e = .returned (.tuple #[]) ∧ w'.ownsRow B 61 2 (.slice a n cap) n (keysV (sortK ks)) ∧ (∀ b w0, b ≤ B → Below b w0 w → Below b w0 w') := by
  have hl : ks.length = n := by have := hown.1; rw [keysV_len] at this; omega
  rcases hown.2 with ⟨h, h0⟩ | ⟨g', c', cur, h, _⟩
  · cases h
    obtain rfl : ks = [] := List.eq_nil_of_length_eq_zero hl
    refine (sortI_none 0 w).mono ?_
    rintro e w' ⟨rfl, rfl⟩
    exact ⟨rfl, hown, fun _ _ _ h => h⟩
  · cases h
    exact sortI_some g' n cap B ks w hown hn
set_option maxHeartbeats 1600000 in
theorem rankAll_any (a : Option Addr) (n cap : Nat) (ws : List Tx) (s : Tx) (k : Int) (w : World) (hh : HoldsT w a n ws) (hn : n ≤ 50000) (hl : ∀ t ∈ ws, t.size ≤ 1048576) (hs : s.size ≤ 1048576) :
    Calls Try.prog 27 #[.slice a n cap, .string s, .int .i64 k] w (RetI w (allK ws s k)) := by
  obtain ⟨i0, hi, hz0, hz1, hz2⟩ := info_parts item_info
  have hll := hh.len
  have HH := Lib.hid hh; have HL := Lib.hid hl
  clear hh hl
  go_enter Try.func27, Try.ntmps27
  go_wp2_with fail
  go_loopw [7, 14] (fun ov iv wr => ∃ (j : Nat) (P : List KV) (av : Option Addr) (cv : Nat), j ≤ n ∧ iv = .int .i64 j ∧ ov = .slice av P.length cv ∧ Hid (P = nearL (ws.take j) s k) ∧ Hid (wr.ownsRow w.heap.size 61 2 (.slice av P.length cv) P.length (keysV P)) ∧ Hid (Below w.heap.size w wr)) (fun _ iv _ => n - (intOf iv).toNat)
  case atStart => exact ⟨0, [], none, 0, by omega, rfl, rfl, Lib.hid rfl, Lib.hid (World.ownsRow_nil _ _ _ _), Lib.hid (Below.refl _ _)⟩
  case round =>
    obtain ⟨j, P, av, cv, hj, rfl, rfl, hP, hO, hB⟩ := hrel
    have hpl : P.length ≤ j := by have := nearL_len (ws.take j) s k; rw [← hP.out] at this; simp at this; omega
    by_cases hlt : j < n
    · obtain ⟨bb, o, rfl, hc⟩ := HH.out.at (by omega)
      have g0 := hc j hlt
      have e0 := (hB.out.cell (p := ⟨bb, o + j, none⟩) (lt_of_cell g0)).trans g0
      have hmem := HL.out _ (getD_memT' ws j (by omega))
      have hyes := nearL_yes (ws.take j) (ws.getD j ByteArray.empty) s k
      have hnot := nearL_no (ws.take j) (ws.getD j ByteArray.empty) s k
      rw [← take_succ_getD ws ByteArray.empty j (by omega)] at hyes hnot
      obtain ⟨y, hy⟩ : ∃ y, ws.getD j ByteArray.empty = y := ⟨_, rfl⟩
      rw [hy] at hmem hyes hnot e0
      have ND := Lib.hid (near_any y s k wr hmem hs)
      clear hc hy g0
      by_cases hk : 0 ≤ distS y s ∧ distS y s ≤ k
      · have hsn := hyes hk
        rw [← hP.out] at hsn
        have n1 : nearOk y s k = true := decide_eq_true hk
        have n2 : nearD y s k = distS y s := if_pos hk
        rw [n1, n2] at ND
        obtain ⟨d, hd⟩ : ∃ d, distS y s = d := ⟨_, rfl⟩
        rw [hd] at ND hsn
        have HS := Lib.hid hsn
        clear hyes hnot hsn n1 n2 hd hk
        go_wp2_with fail
        refine ND.out.mono ?_
        rintro e w2 ⟨rfl, hb⟩
        have B2 := Lib.hid (hB.out.trans (hb.mono hB.out.size))
        have O2 := Lib.hid (owns_below hO.out hb)
        have hsz := B2.out.size
        clear hb hB hO e0
        go_wp2_with (at_builtin; refine wpList_append_any rfl (.tmp 26) (.tmp 30) 34 rfl w.heap.size 61 i0 _ 2 24 Try.underlying34 hi hz0 hz1 hz2 rfl (by decide) _ P.length _ rfl (O2.out.alloc _) _ 1 1 [.int .i64 d, .string y] rfl (some_none _) rfl (two_new _ _ _ _ _) (two_one _ _) (by unfold maxLen; omega) (by omega) (by simp; omega) ?_; intro a3 c3 w3 hown3 hb3 hnil3)
        rw [show keysV P ++ [.int .i64 d, .string y] = keysV (P ++ [(d, y)]) from (keysV_snoc P (d, y)).symm] at hown3
        have O3 := Lib.hid hown3
        have B3 := Lib.hid ((B2.out.alloc B2.out.size _).trans hb3)
        clear hown3 hb3 hnil3
        go_roundw
        case rel => exact ⟨j + 1, P ++ [(d, y)], a3, c3, by omega, by go_num, by simp, Lib.hid HS.out.symm, Lib.hid (by have := O3.out; simpa using this), B3⟩
        case measure => simp [intOf]; omega
      · have hsn := hnot hk
        rw [← hP.out] at hsn
        have n1 : nearOk y s k = false := decide_eq_false hk
        rw [n1] at ND
        obtain ⟨d, hd⟩ : ∃ d, nearD y s k = d := ⟨_, rfl⟩
        rw [hd] at ND
        have HS := Lib.hid hsn
        clear hyes hnot hsn n1 hd hk
        go_wp2_with fail
        refine ND.out.mono ?_
        rintro e w2 ⟨rfl, hb⟩
        have B2 := Lib.hid (hB.out.trans (hb.mono hB.out.size))
        have O2 := Lib.hid (owns_below hO.out hb)
        clear hb hB hO e0
        go_wp2_with fail
        go_roundw
        case rel => exact ⟨j + 1, P, av, cv, by omega, by go_num, rfl, Lib.hid HS.out.symm, O2, B2⟩
        case measure => simp [intOf]; omega
    · have hjn : ws.take j = ws := List.take_of_length_le (by omega)
      have hP2 := hP.out
      rw [hjn] at hP2
      have SO := Lib.hid (sortI_own av P.length cv w.heap.size P wr hO.out (by omega))
      have HP := Lib.hid hP2
      clear hP hP2 hjn
      go_wp2_with fail
      refine SO.out.mono ?_
      rintro e w2 ⟨rfl, hown, hb⟩
      have B2 := Lib.hid (hb _ _ (Nat.le_refl _) hB.out)
      have O2 := Lib.hid hown
      clear hown hb
      go_wp2_with fail
      go_ret
      exact retI_own (by rw [HP.out]; rfl) (by rw [sortK_length]) O2.out B2.out _ rfl
end Go.Proofs.Ytgghbgmeebihbaa
namespace Go.Proofs.Ytgghbgmeebihbaa
open Go.RowKit
set_option linter.unusedVariables false
set_option maxRecDepth 20000
theorem getD_memT (zs : List Tx) (j : Nat) (h : j < zs.length) : zs.getD j ByteArray.empty ∈ zs := by
  rw [List.getD_eq_getElem?_getD, List.getElem?_eq_getElem h]; simp
def smallP (ts : List Tx) : Prop := ∀ t ∈ ts, t.size ≤ 100
def greatB (ts : List Tx) : Bool := decide (80 < ts.length ∨ ∃ t ∈ ts, 100 < t.size)
theorem great_yes {ts : List Tx} (h : 80 < ts.length ∨ ∃ t ∈ ts, 100 < t.size) : greatB ts = true := decide_eq_true h
theorem great_no {ts : List Tx} (h1 : ts.length ≤ 80) (h2 : smallP ts) : greatB ts = false := by
  refine decide_eq_false ?_
  rintro (h | ⟨t, ht, h⟩)
  · omega
  · have := h2 t ht; omega
theorem great_no_iff {ts : List Tx} : greatB ts = false ↔ ts.length ≤ 80 ∧ smallP ts := by
  constructor
  · intro h
    have h' := of_decide_eq_false h
    refine ⟨Nat.le_of_not_lt fun k => h' (Or.inl k), fun t ht => Nat.le_of_not_lt fun k => h' (Or.inr ⟨t, ht, k⟩)⟩
  · rintro ⟨h1, h2⟩; exact great_no h1 h2
set_option maxHeartbeats 800000 in
theorem great_any (a : Option Addr) (n cap : Nat) (ts : List Tx) (w : World) (hh : HoldsT w a n ts) (hn : n ≤ 9223372036854775807) (hsz : ∀ t ∈ ts, t.size ≤ 9223372036854775807) :
    Calls Try.prog 23 #[.slice a n cap] w fun e w' => e = .returned (.bool (greatB ts)) ∧ Below w.heap.size w w' := by
  have hl := hh.len
  by_cases h80 : n ≤ 80
  case neg =>
    rw [great_yes (Or.inl (by omega))]
    go_enter Try.func23, Try.ntmps23
    go_wp2_with fail
    go_loopw [3] (fun iv wr => iv = .int .i64 0 ∧ wr = w) (fun _ _ => 0)
    case atStart => exact ⟨rfl, rfl⟩
    case round =>
      obtain ⟨rfl, rfl⟩ := hrel
      go_wp2_with fail
      go_ret
      exact ⟨rfl, Below.refl _ _⟩
  go_enter Try.func23, Try.ntmps23
  go_wp2_with fail
  go_loopw [3] (fun iv wr => ∃ j : Nat, j ≤ n ∧ iv = .int .i64 j ∧ Hid (smallP (ts.take j)) ∧ Hid (Below w.heap.size w wr)) (fun iv _ => n - (intOf iv).toNat)
  case atStart => exact ⟨0, by omega, rfl, Lib.hid (by simp [smallP]), Lib.hid (Below.refl _ _)⟩
  case round =>
    obtain ⟨j, hj, rfl, hS, hB⟩ := hrel
    by_cases hlt : j < n
    · obtain ⟨b, o, rfl, hc⟩ := (hh.below hB.out).at (by omega)
      have e1 := hc j hlt
      have hmem := getD_memT ts j (by omega)
      have htk := take_succ_getD ts ByteArray.empty j (by omega)
      obtain ⟨x, hx⟩ : ∃ x, ts.getD j ByteArray.empty = x := ⟨_, rfl⟩
      rw [hx] at e1 hmem htk
      have hxs := hsz x hmem
      have HM := Lib.hid hmem; have HT := Lib.hid htk
      clear hx hmem htk hc
      by_cases hg : 100 < x.size
      · have hgr := great_yes (ts := ts) (Or.inr ⟨x, HM.out, hg⟩)
        have HG := Lib.hid hgr
        clear hgr
        go_wp2_with fail
        go_ret
        exact ⟨ret_bool HG.out.symm, hB.out⟩
      · go_wp2_with fail
        go_roundw
        case rel => exact ⟨j + 1, by omega, by go_num, Lib.hid (by rw [HT.out]; intro z hz; rcases List.mem_append.1 hz with hz | hz; exact hS.out z hz; simp at hz; rw [hz]; omega), hB⟩
        case measure => simp [intOf]; omega
    · have hjn : ts.take j = ts := List.take_of_length_le (by omega)
      have hgr := great_no (ts := ts) (by omega) (by have := hS.out; rw [hjn] at this; exact this)
      have HG := Lib.hid hgr
      clear hjn hgr
      go_wp2_with fail
      go_ret
      exact ⟨ret_bool (by rw [HG.out, decide_eq_false_iff_not]; omega), hB.out⟩
end Go.Proofs.Ytgghbgmeebihbaa
namespace Go.Proofs.Ytgghbgmeebihbaa
open Go.RowKit
set_option linter.unusedVariables false
set_option maxRecDepth 20000
theorem holdsK_lit2 (w : World) (a b : KV) (e : TypeId) (fr : Nat × Nat) : HoldsK (w.alloc (.cells #[.int .i64 a.1, .string a.2, .int .i64 b.1, .string b.2] e fr)) (some ⟨w.heap.size, 0, none⟩) 2 [a, b] := by
  refine ⟨rfl, fun _ => ⟨w.heap.size, 0, rfl, fun i hi => ?_⟩⟩
  have : i = 0 ∨ i = 1 := by omega
  rcases this with rfl | rfl
  · rw [World.cell?_alloc_mark, World.cell?_alloc_mark]; exact ⟨rfl, rfl⟩
  · rw [World.cell?_alloc_mark, World.cell?_alloc_mark]; exact ⟨rfl, rfl⟩
end Go.Proofs.Ytgghbgmeebihbaa
namespace Go.Proofs.Ytgghbgmeebihbaa
open Go.RowKit
set_option linter.unusedVariables false
set_option maxRecDepth 20000
/-- a merge that the call made, by its plain shards -/
structure CtxM (w0 w : World) (b : Nat) (most : Int) (T : List KV) (P : List SM) (S : Nat → Prop) : Prop where
  m : ∃ L, MAt w b most T L S ∧ L.map spl = P
  s : ∀ k, S k → w0.heap.size ≤ k
  bel : Below w0.heap.size w0 w
theorem CtxM.more {w0 w w' : World} {b : Nat} {most : Int} {T : List KV} {P : List SM} {S : Nat → Prop} (h : CtxM w0 w b most T P S) (hb : Below w.heap.size w w') : CtxM w0 w' b most T P S := by
  obtain ⟨⟨L, m, e⟩, s, t⟩ := h
  exact ⟨⟨L, m.below hb, e⟩, s, t.trans (hb.mono t.size)⟩
theorem CtxM.lt {w0 w : World} {b : Nat} {most : Int} {T : List KV} {P : List SM} {S : Nat → Prop} (h : CtxM w0 w b most T P S) : ∀ k, S k → k < w.heap.size := by
  obtain ⟨⟨L, m, e⟩, s, t⟩ := h
  exact m.lt
theorem CtxM.turn {w0 w w' : World} {b : Nat} {most : Int} {T : List KV} {P : List SM} {S F : Nat → Prop} (h : CtxM w0 w b most T P S) (t : Turn F w w') (hF : ∀ k, S k → ¬ F k) (hF2 : ∀ k, F k → w0.heap.size ≤ k) : CtxM w0 w' b most T P S := by
  obtain ⟨⟨L, m, e⟩, s, tb⟩ := h
  exact ⟨⟨L, m.turn t hF, e⟩, s, tb.trans (t.below hF2 tb.size)⟩
theorem wants_spl (most : Int) (T : List KV) (L : List SM) : wantsL most T (L.map spl) = wantsL most T L := by
  unfold wantsL wantN
  rw [done_spl, List.length_map]
  simp only [getD_spl]
  rfl
theorem seq_spl (L : List SM) (s : Int) : seqS (L.map spl) s = seqS L s := by
  unfold seqS
  rw [List.length_map, getD_spl]
  rfl
theorem fitN_spl (x : SM) (ks : List KV) : ∀ n, fitN (spl x) ks n = fitN x ks n
  | 0 => rfl
  | n + 1 => by
    unfold fitN
    rw [fitN_spl x ks n]
    rfl
theorem put_spl (most : Int) (T : List KV) (L : List SM) (s q : Int) (ks : List KV) (en : Bool) : putB most T (L.map spl) s q ks en = putB most T L s q ks en := by
  unfold putB fitsB
  rw [List.length_map, done_spl, getD_spl, fitN_spl]
  rfl
def putSM (x : SM) (ks : List KV) (en : Bool) : SM := putM x none ks.length 0 ks en
theorem putSM_spl (L : List SM) (i : Nat) (wa : Option Addr) (wc : Nat) (ks : List KV) (en : Bool) : (L.set i (putM (L.getD i sm0) wa ks.length wc ks en)).map spl = (L.map spl).set i (putSM ((L.map spl).getD i sm0) ks en) := by
  rw [List.map_set, getD_spl]
  rfl
theorem spl_seq {L : List SM} {P : List SM} (e : L.map spl = P) (h : ∀ x ∈ P, 0 ≤ x.seq ∧ x.seq ≤ 1000000000) : ∀ x ∈ L, 0 ≤ x.seq ∧ x.seq ≤ 1000000000 := fun x hx => by
  have := h (spl x) (by rw [← e]; exact List.mem_map_of_mem hx)
  exact this
theorem mnew_c {w0 : World} (a : Option Addr) (n cap : Nat) (zs : List Int) (m : Int) (w : World) (hh : HoldsI .i64 w a n zs) (hn : 1 ≤ n ∧ n ≤ 6) (hm : 1 ≤ m ∧ m ≤ 10) (hb : Below w0.heap.size w0 w) :
    Calls Try.prog 11 #[.slice a n cap, .int .i64 m] w fun e w' => ∃ b, e = .returned (.tuple #[.pointer (some ⟨b, 0, none⟩), .int .i64 0]) ∧ ∃ S, CtxM w0 w' b m [] (zs.map mkS) S ∧ (∀ k, S k → w.heap.size ≤ k) ∧ Below w.heap.size w w' :=
  (mnew_any a n cap zs m w hh hn hm).mono fun e w' ⟨b, S, e1, h1, h2, h3⟩ => ⟨b, e1, S, ⟨⟨_, h1, by rw [List.map_map]; rfl⟩, fun k hk => Nat.le_trans hb.size (h2 k hk), hb.trans (h3.mono hb.size)⟩, h2, h3⟩
def PutC (w0 w : World) (b : Nat) (most : Int) (T : List KV) (P : List SM) (S : Nat → Prop) (z : Bool) (e : Ending) (w' : World) : Prop :=
  e = .returned (.bool z) ∧ ∃ S', CtxM w0 w' b most T P S' ∧ (∀ k, S' k → S k ∨ w.heap.size ≤ k) ∧ Turn S w w'
theorem mput_c (s q : Int) (ia : Option Addr) (n ic : Nat) (ks : List KV) (en z : Bool) (P' : List SM) {w0 : World} {b : Nat} {most : Int} {T : List KV} {P : List SM} {S : Nat → Prop} (w : World) (h : CtxM w0 w b most T P S) (hl : P.length ≤ 1000)
    (hi : HoldsK w ia n ks) (hin : ia = none → n = 0 ∧ ic = 0) (hn : n ≤ 9223372036854775807) (hiS : 0 < n → ∀ fb fo, ia = some ⟨fb, fo, none⟩ → ¬ S fb) (hsq : ∀ x ∈ P, 0 ≤ x.seq ∧ x.seq ≤ 1000000000) (hz : putB most T P s q ks en = z)
    (hP : (if z then P.set s.toNat (putSM (P.getD s.toNat sm0) ks en) else P) = P') :
    Calls Try.prog 15 #[.pointer (some ⟨b, 0, none⟩), .int .i64 s, .int .i64 q, .slice ia n ic, .bool en] w (PutC w0 w b most T P' S z) := by
  obtain ⟨⟨L, m, e⟩, hs, hb⟩ := h
  subst e hP
  rw [put_spl] at hz
  rw [List.length_map] at hl
  refine (mput_any s q ia n ic ks en z b w m hl hi hin hn hiS (spl_seq rfl hsq) hz).mono fun e w' ⟨e1, h2⟩ => ⟨e1, ?_⟩
  cases z
  · exact ⟨S, ⟨⟨L, m.below h2, rfl⟩, hs, hb.trans (h2.mono hb.size)⟩, fun k hk => Or.inl hk, Turn.of_below h2⟩
  · obtain ⟨wa, wc, S', m', hs', t'⟩ := h2
    refine ⟨S', ⟨⟨_, m', by rw [putSM_spl]; rfl⟩, fun k hk => ?_, hb.trans (t'.below hs hb.size)⟩, hs', t'⟩
    rcases hs' k hk with hh | hh
    · exact hs k hh
    · exact Nat.le_trans hb.size hh
theorem CtxM.arg {w0 w : World} {b : Nat} {most : Int} {T : List KV} {P : List SM} {S : Nat → Prop} (h : CtxM w0 w b most T P S) {ia : Option Addr} {n : Nat} {ks : List KV} (hk : HoldsK w0 ia n ks) : 0 < n → ∀ fb fo, ia = some ⟨fb, fo, none⟩ → ¬ S fb := fun hn fb fo e hs => by
  obtain ⟨b2, o, hbe, hc⟩ := hk.2 hn
  rw [e] at hbe
  injection hbe with hbe; injection hbe with e1 e2; subst e1 e2
  have h1 : fb < w0.heap.size := lt_of_cell (hc 0 hn).1
  have := h.s fb hs
  omega
def TellC (w0 w : World) (b : Nat) (most : Int) (S : Nat → Prop) (T' : List KV) (P' : List SM) (out : List KV) (e : Ending) (w' : World) : Prop :=
  ∃ oa oc, e = .returned (.slice oa out.length oc) ∧ ∃ S', CtxM w0 w' b most T' P' S' ∧ w'.ownsRow w.heap.size 61 2 (.slice oa out.length oc) out.length (keysV out) ∧ (∀ g, oa = some ⟨g, 0, none⟩ → ¬ S' g) ∧ (∀ k, S' k → S k ∨ w.heap.size ≤ k) ∧ Turn S w w'
theorem mtell_c (T' : List KV) (P' : List SM) (out : List KV) {w0 : World} {b : Nat} {most : Int} {T : List KV} {P : List SM} {S : Nat → Prop} (w : World) (h : CtxM w0 w b most T P S) (hl : P.length ≤ 1000) (hm : most ≤ 10) (hT : T.length ≤ 1000)
    (hR : tellF most 10 T P [] = (T', P', out)) :
    Calls Try.prog 19 #[.pointer (some ⟨b, 0, none⟩)] w (TellC w0 w b most S T' P' out) := by
  obtain ⟨⟨L, m, e⟩, hs, hb⟩ := h
  subst e
  rw [List.length_map] at hl
  have := mtell_any 10 b w m hl (by omega) (by omega) hT
  rw [hR] at this
  refine this.mono fun e w' ⟨oa, oc, L', S', e1, t, e2⟩ => ⟨oa, oc, e1, S', ⟨⟨L', t.m, e2⟩, fun k hk => ?_, hb.trans (t.t.below hs hb.size)⟩, t.o, t.a, t.s, t.t⟩
  rcases t.s k hk with hh | hh
  · exact hs k hh
  · exact Nat.le_trans hb.size hh
theorem mwants_c (zs : List Int) {w0 : World} {b : Nat} {most : Int} {T : List KV} {P : List SM} {S : Nat → Prop} (w : World) (h : CtxM w0 w b most T P S) (hl : P.length ≤ 1000) (hz : natsZ (wantsL most T P) = zs) :
    Calls Try.prog 29 #[.pointer (some ⟨b, 0, none⟩)] w (RetZ w zs) := by
  obtain ⟨⟨L, m, e⟩, hs, hb⟩ := h
  subst e hz
  rw [List.length_map] at hl
  rw [wants_spl]
  exact mwants_any b w m hl
theorem mdone_c (z : Bool) {w0 : World} {b : Nat} {most : Int} {T : List KV} {P : List SM} {S : Nat → Prop} (w : World) (h : CtxM w0 w b most T P S) (hl : P.length ≤ 1000) (hz : doneB most T P = z) :
    Calls Try.prog 31 #[.pointer (some ⟨b, 0, none⟩)] w fun e w' => e = .returned (.bool z) ∧ Below w.heap.size w w' := by
  obtain ⟨⟨L, m, e⟩, hs, hb⟩ := h
  subst e
  rw [List.length_map] at hl
  rw [done_spl] at hz
  exact mdone_any z b w m hl hz
theorem mseq_c (s v : Int) {w0 : World} {b : Nat} {most : Int} {T : List KV} {P : List SM} {S : Nat → Prop} (w : World) (h : CtxM w0 w b most T P S) (hl : P.length ≤ 1000) (hv : seqS P s = v) :
    Calls Try.prog 30 #[.pointer (some ⟨b, 0, none⟩), .int .i64 s] w fun e w' => e = .returned (.int .i64 v) ∧ w = w' := by
  obtain ⟨⟨L, m, e⟩, hs, hb⟩ := h
  subst e
  rw [List.length_map] at hl
  rw [seq_spl] at hv
  exact mseq_any s v b w m hl hv
theorem mtold_c {w0 : World} {b : Nat} {most : Int} {T : List KV} {P : List SM} {S : Nat → Prop} (w : World) (h : CtxM w0 w b most T P S) (hl : T.length ≤ 50000) :
    Calls Try.prog 32 #[.pointer (some ⟨b, 0, none⟩)] w (RetI w T) := by
  obtain ⟨⟨L, m, e⟩, hs, hb⟩ := h
  exact mtold_any b w m hl
def mkA : KV := (0, ⟨#[97]⟩)
def mkB : KV := (1, ⟨#[98]⟩)
def mkC : KV := (2, ⟨#[99]⟩)
def aw0 : List SM := [0, 0].map mkS
def aw1 : List SM := [putSM (mkS 0) [mkA, mkC] true, mkS 0]
def aw2 : List SM := [putSM (mkS 0) [mkA, mkC] true, putSM (mkS 0) [mkB] false]
def aw3 : List SM := [popS (putSM (mkS 0) [mkA, mkC] true), popS (putSM (mkS 0) [mkB] false)]
theorem aw_p1 : putB 3 [] aw0 0 0 [mkA, mkC] true = true := by decide +kernel
theorem aw_t1 : tellF 3 10 [] aw1 [] = ([], aw1, []) := by kernel_rfl
theorem aw_p2 : putB 3 [] aw1 1 0 [mkB] false = true := by decide +kernel
theorem aw_t2 : tellF 3 10 [] aw2 [] = ([mkA, mkB], aw3, [mkA, mkB]) := by kernel_rfl
theorem aw_w : natsZ (wantsL 3 [mkA, mkB] aw3) = [1] := by decide +kernel
theorem aw_d : doneB 3 [mkA, mkB] aw3 = false := by decide +kernel
theorem holdsK_lit1 (w : World) (a : KV) (e : TypeId) (fr : Nat × Nat) : HoldsK (w.alloc (.cells #[.int .i64 a.1, .string a.2] e fr)) (some ⟨w.heap.size, 0, none⟩) 1 [a] := by
  refine ⟨rfl, fun _ => ⟨w.heap.size, 0, rfl, fun i hi => ?_⟩⟩
  obtain rfl : i = 0 := by omega
  constructor <;> (rw [World.cell?_alloc_mark]; rfl)
set_option maxHeartbeats 3200000 in
set_option maxRecDepth 100000 in
theorem awakeM_any (w : World) : Calls Try.prog 10 #[] w fun e w' => e = .returned (.bool true) ∧ Below w.heap.size w w' := by
  have H1 := Lib.hid (holdsI_lit .i64 w [0, 0] 3 (0, 0))
  have CN := Lib.hid (mnew_c (w0 := w) (some ⟨w.heap.size, 0, none⟩) 2 2 [0, 0] 3 _ H1.out (by decide) (by decide) (below_one w _))
  go_enter Try.func10, Try.ntmps10
  go_wp2_with fail
  refine CN.out.mono ?_
  rintro e w1 ⟨b, rfl, S1, h1, -, -⟩
  have C1 := Lib.hid (h1.more (below_one w1 (.cells #[.int .i64 mkA.1, .string mkA.2, .int .i64 mkC.1, .string mkC.2] 61)))
  have L1 := Lib.hid h1.lt
  have CP := Lib.hid (mput_c 0 0 (some ⟨w1.heap.size, 0, none⟩) 2 2 [mkA, mkC] true true aw1 _ C1.out (by decide) (holdsK_lit2 w1 mkA mkC 61 (0, 0)) (some_none _) (by decide) (fun _ fb fo e hs => by injection e with e; injection e with e; have := L1.out _ hs; omega) (by decide) aw_p1 rfl)
  clear h1 CN H1
  go_wp2_with fail
  refine CP.out.mono ?_
  rintro e w2 ⟨rfl, S2, h2, -, -⟩
  have CT := Lib.hid (mtell_c [] aw1 [] w2 h2 (by decide) (by decide) (by decide) aw_t1)
  clear h2 CP C1 L1
  go_wp2_with fail
  refine CT.out.mono ?_
  rintro e w3 ⟨oa, oc, rfl, S3, h3, -, -, -, -⟩
  have C3 := Lib.hid (h3.more (below_one w3 (.cells #[.int .i64 mkB.1, .string mkB.2] 61)))
  have L3 := Lib.hid h3.lt
  have CP := Lib.hid (mput_c 1 0 (some ⟨w3.heap.size, 0, none⟩) 1 1 [mkB] false true aw2 _ C3.out (by decide) (holdsK_lit1 w3 mkB 61 (0, 0)) (some_none _) (by decide) (fun _ fb fo e hs => by injection e with e; injection e with e; have := L3.out _ hs; omega) (by decide) aw_p2 rfl)
  clear h3 CT
  go_wp2_with fail
  refine CP.out.mono ?_
  rintro e w4 ⟨rfl, S4, h4, -, -⟩
  have CT := Lib.hid (mtell_c [mkA, mkB] aw3 [mkA, mkB] w4 h4 (by decide) (by decide) (by decide) aw_t2)
  clear h4 CP C3 L3
  go_wp2_with fail
  refine CT.out.mono ?_
  rintro e w5 ⟨oa, oc, rfl, S5, h5, ho, -, -, -⟩
  have C5 := Lib.hid (h5.more (below_one w5 (.cells #[.int .i64 mkA.1, .string mkA.2, .int .i64 mkB.1, .string mkB.2] 61)))
  have CS := Lib.hid (sameItems_yes oa (some ⟨w5.heap.size, 0, none⟩) 2 oc 2 [mkA, mkB] _ ((HoldsK.own ho).below (below_one w5 _)) (holdsK_lit2 w5 mkA mkB 61 (0, 0)) (by decide))
  clear h5 ho CT
  go_wp2_with fail
  refine CS.out.mono ?_
  rintro e w6 ⟨rfl, hb6⟩
  have C6 := Lib.hid (C5.out.more hb6)
  have CW := Lib.hid (mwants_c [1] w6 C6.out (by decide) aw_w)
  clear hb6 CS C5
  go_wp2_with fail
  refine CW.out.mono ?_
  rintro e w7 ⟨za, zc, rfl, hz, hb7⟩
  have C7 := Lib.hid (C6.out.more hb7)
  have C8 := Lib.hid (C7.out.more (below_one w7 (.cells #[.int .i64 1] 3)))
  have CS := Lib.hid (sameInts_any za (some ⟨w7.heap.size, 0, none⟩) 1 zc 1 1 [1] [1] _ ((holdsZ_own hz).below (below_one w7 _)) (holdsI_lit .i64 w7 [1] 3 (0, 0)) (by decide) (by decide))
  clear hb7 hz CW C6 C7
  go_wp2_with fail
  refine CS.out.mono ?_
  rintro e w9 ⟨rfl, m, rfl⟩
  have C9 := Lib.hid (C8.out.more (below_drewN _ m))
  have CD := Lib.hid (mdone_c false _ C9.out (by decide) aw_d)
  clear CS C8
  go_wp2_with fail
  refine CD.out.mono ?_
  rintro e w10 ⟨rfl, hb⟩
  go_wp2_with fail
  go_ret
  exact ⟨rfl, C9.out.bel.trans (hb.mono C9.out.bel.size)⟩
end Go.Proofs.Ytgghbgmeebihbaa
namespace Go.Proofs.Ytgghbgmeebihbaa
open Go.RowKit
set_option linter.unusedVariables false
set_option maxRecDepth 20000
def sh1 (e : Bool) (q : Int) (rc : Bool) (l : KV) (ks : List KV) : SM := ⟨0, e, q, rc, l, none, ks.length, 0, ks⟩
theorem pop_sh1 (e : Bool) (q : Int) (rc : Bool) (l k : KV) (ks : List KV) : popS (sh1 e q rc l (k :: ks)) = sh1 e q rc l ks := by simp [popS, sh1]
theorem put_sh1 (q : Int) (rc : Bool) (l : KV) (ks : List KV) (e : Bool) : putSM (sh1 false q rc l []) ks e = sh1 e (q + 1) (rc || decide (0 < ks.length)) (if 0 < ks.length then ks.getD (ks.length - 1) k0 else l) ks := rfl
/-- strictly rising -/
def Ris (L : List KV) : Prop := ∀ i j, i < j → j < L.length → lessK (L.getD i k0) (L.getD j k0) = true
theorem lessK_trans {a b c : KV} (h : lessK a b = true) (k : lessK b c = true) : lessK a c = true := decide_eq_true (ordK_trans (of_decide_eq_true h) (of_decide_eq_true k))
/-- each from 0 up, and behind the one before -/
def upN (L : List KV) : Nat → Bool
  | 0 => true
  | j + 1 => upN L j && (!decide ((L.getD j k0).1 < 0) && (decide (j = 0) || lessK (L.getD (j - 1) k0) (L.getD j k0)))
theorem upN_at {L : List KV} : ∀ {n : Nat}, upN L n = true → ∀ j, j < n → 0 ≤ (L.getD j k0).1 ∧ (0 < j → lessK (L.getD (j - 1) k0) (L.getD j k0) = true)
  | 0, _, j, hj => by omega
  | n + 1, h, j, hj => by
    unfold upN at h
    simp only [Bool.and_eq_true] at h
    by_cases e : j = n
    · subst e
      obtain ⟨_, h2, h3⟩ := h
      refine ⟨by simpa using h2, fun hp => ?_⟩
      rw [decide_eq_false (by omega), Bool.false_or] at h3
      exact h3
    · exact upN_at h.1 j (by omega)
theorem upN_ris {L : List KV} (h : upN L L.length = true) : Ris L := by
  intro i j hij hj
  induction j with
  | zero => omega
  | succ j ih =>
    have h1 := (upN_at h (j + 1) hj).2 (by omega)
    rw [Nat.add_sub_cancel] at h1
    by_cases e : i = j
    · subst e; exact h1
    · exact lessK_trans (ih (by omega) (by omega)) h1
theorem getD_cut (L : List KV) (a m j : Nat) (hj : j < m) : ((L.drop a).take m).getD j k0 = L.getD (a + j) k0 := by
  rw [List.getD_eq_getElem?_getD, List.getElem?_take, if_pos hj, List.getElem?_drop, ← List.getD_eq_getElem?_getD]
theorem cut_len (L : List KV) (a m : Nat) (h : a + m ≤ L.length) : ((L.drop a).take m).length = m := by
  rw [List.length_take, List.length_drop]; omega
/-- a part of what rises fits -/
theorem fits_cut {L : List KV} {a m : Nat} {e : Bool} {q : Int} {rc : Bool} {l : KV} (hu : upN L L.length = true) (hm : m ≤ 5) (ha : a + m ≤ L.length) (hl : rc = true → ∀ j, a ≤ j → j < L.length → lessK l (L.getD j k0) = true) : fitsB (sh1 e q rc l []) ((L.drop a).take m) = true := by
  have hlen := cut_len L a m ha
  have ris := upN_ris hu
  unfold fitsB
  rw [hlen, decide_eq_true hm, Bool.true_and]
  have : ∀ n, n ≤ m → fitN (sh1 e q rc l []) ((L.drop a).take m) n = true := by
    intro n
    induction n with
    | zero => intro _; rfl
    | succ n ih =>
      intro hn
      unfold fitN
      rw [ih (by omega), Bool.true_and, getD_cut L a m n (by omega)]
      have h0 := (upN_at hu (a + n) (by omega)).1
      have b1 : badS (sh1 e q rc l []) (L.getD (a + n) k0) = false := by
        show (decide ((L.getD (a + n) k0).1 < 0) || (rc && !lessK l (L.getD (a + n) k0))) = false
        rw [decide_eq_false (by omega)]
        cases rc with
        | false => rfl
        | true => rw [hl rfl (a + n) (by omega) (by omega)]; rfl
      have b2 : stepB ((L.drop a).take m) n = false := by
        unfold stepB
        by_cases hz : n = 0
        · rw [decide_eq_false (by omega)]; rfl
        · rw [getD_cut L a m n (by omega), getD_cut L a m (n - 1) (by omega), ris (a + (n - 1)) (a + n) (by omega) (by omega)]
          simp
      rw [b1, b2]; rfl
  exact this m (Nat.le_refl _)
theorem HoldsK.cut {w : World} {a : Option Addr} {n c : Nat} {ks : List KV} (h : HoldsK w a n ks) (l m : Nat) (hm : l + m ≤ n) (hc : n ≤ c) : HoldsK w (if c = l then a else a.map (·.add (l * 2))) m ((ks.drop l).take m) := by
  have hl := h.1
  refine ⟨cut_len ks l m (by omega), fun h0 => ?_⟩
  obtain ⟨b, o, rfl, hc2⟩ := h.2 (by omega)
  rw [if_neg (by omega)]
  refine ⟨b, o + l * 2, by simp [Addr.add], fun i hi => ?_⟩
  rw [getD_cut ks l m i hi]
  have := hc2 (l + i) (by omega)
  rw [show o + l * 2 + i * 2 = o + (l + i) * 2 by omega]
  exact this
end Go.Proofs.Ytgghbgmeebihbaa
namespace Go.Proofs.Ytgghbgmeebihbaa
set_option linter.unusedVariables false
set_option maxRecDepth 20000
theorem nearL_cons (t : Tx) (ws : List Tx) (s : Tx) (k : Int) : nearL (t :: ws) s k = (if 0 ≤ distS t s ∧ distS t s ≤ k then [(distS t s, t)] else []) ++ nearL ws s k := by
  unfold nearL; rw [List.filterMap_cons]
  by_cases h : 0 ≤ distS t s ∧ distS t s ≤ k
  · simp [h]
  · simp only [if_neg h, List.nil_append]
theorem sorted_ne {xs : List Tx} (h : SortedS xs) : xs.Pairwise (· ≠ ·) := h.imp fun {a b} hab => by
  intro e; subst e; exact cmpS_irrefl a hab
theorem near_ne {ws : List Tx} (h : SortedS ws) (s : Tx) (k : Int) : (nearL ws s k).Pairwise fun a b => a.2 ≠ b.2 := by
  have h0 := sorted_ne h
  induction ws with
  | nil => exact List.Pairwise.nil
  | cons t ws ih =>
    obtain ⟨h1, h2⟩ := List.pairwise_cons.1 h0
    rw [nearL_cons]
    split
    · refine List.pairwise_cons.2 ⟨fun x hx e => h1 x.2 (nearL_mem.1 hx).1 e, ih (List.pairwise_cons.1 h).2 h2⟩
    · exact ih (List.pairwise_cons.1 h).2 h2
theorem all_ne {ws : List Tx} (h : SortedS ws) (s : Tx) (k : Int) : (allK ws s k).Pairwise fun a b => a.2 ≠ b.2 :=
  (sortK_perm _).symm.pairwise (near_ne h s k) fun h => Ne.symm h
end Go.Proofs.Ytgghbgmeebihbaa
namespace Go.Proofs.Ytgghbgmeebihbaa
open Go.RowKit
set_option linter.unusedVariables false
set_option maxRecDepth 20000
theorem all_ris {ws : List Tx} (h : SortedS ws) (s : Tx) (k : Int) : upN (allK ws s k) (allK ws s k).length = true := by
  have hne := all_ne h s k
  have hso := sortK_sorted (nearL ws s k)
  have : ∀ n, n ≤ (allK ws s k).length → upN (allK ws s k) n = true := by
    intro n
    induction n with
    | zero => intro _; rfl
    | succ n ih =>
      intro hn
      unfold upN
      rw [ih (by omega), Bool.true_and]
      have hmem : (allK ws s k).getD n k0 ∈ allK ws s k := by rw [List.getD_eq_getElem?_getD, List.getElem?_eq_getElem (by omega)]; simp
      have hd := (allK_mem.1 hmem)
      rw [decide_eq_false (show ¬ ((allK ws s k).getD n k0).1 < 0 by rw [hd.2.1]; have := hd.2.2.1; omega)]
      by_cases h0 : n = 0
      · rw [decide_eq_true h0]; rfl
      · have h1 : leK ((allK ws s k).getD (n - 1) k0) ((allK ws s k).getD n k0) := by
          have := List.pairwise_iff_getElem.1 hso (n - 1) n (by show n - 1 < (allK ws s k).length; omega) (by show n < (allK ws s k).length; omega) (by omega)
          rw [List.getD_eq_getElem?_getD, List.getD_eq_getElem?_getD, List.getElem?_eq_getElem (show n - 1 < (allK ws s k).length by omega), List.getElem?_eq_getElem (show n < (allK ws s k).length by omega)]
          exact this
        have h2 := List.pairwise_iff_getElem.1 hne (n - 1) n (by omega) (by omega) (by omega)
        have h3 : lessK ((allK ws s k).getD (n - 1) k0) ((allK ws s k).getD n k0) = true := by
          rcases leK_iff.1 h1 with e | e
          · exfalso
            apply h2
            rw [List.getD_eq_getElem?_getD, List.getD_eq_getElem?_getD, List.getElem?_eq_getElem (show n - 1 < (allK ws s k).length by omega), List.getElem?_eq_getElem (show n < (allK ws s k).length by omega)] at e
            simp only [Option.getD_some] at e
            rw [e]
          · exact decide_eq_true e
        rw [h3]; simp
  exact this _ (Nat.le_refl _)
end Go.Proofs.Ytgghbgmeebihbaa
namespace Go.Proofs.Ytgghbgmeebihbaa
open Go.RowKit
set_option linter.unusedVariables false
set_option maxRecDepth 20000
/-- of the items from t on: a shard's -/
def idxF (f : Nat → Nat) (L t k : Nat) : List Nat := ((List.range L).drop t).filter fun i => f i == k
def remF (A : List KV) (f : Nat → Nat) (t k : Nat) : List KV := (idxF f A.length t k).map fun i => A.getD i k0
def partF (A : List KV) (f : Nat → Nat) (k : Nat) : List KV := remF A f 0 k
theorem idxF_mem {f : Nat → Nat} {L t k i : Nat} (h : i ∈ idxF f L t k) : t ≤ i ∧ i < L ∧ f i = k := by
  unfold idxF at h
  rw [List.mem_filter] at h
  obtain ⟨h1, h2⟩ := h
  obtain ⟨j, hj, e⟩ := List.mem_iff_getElem.1 h1
  rw [List.getElem_drop, List.getElem_range] at e
  rw [List.length_drop, List.length_range] at hj
  exact ⟨by omega, by omega, by simpa using h2⟩
theorem idxF_at {f : Nat → Nat} {L t k : Nat} (h : t < L) : idxF f L t k = (if f t = k then [t] else []) ++ idxF f L (t + 1) k := by
  unfold idxF
  rw [List.drop_eq_getElem_cons (by rw [List.length_range]; exact h), List.getElem_range, List.filter_cons]
  by_cases e : f t = k
  · rw [if_pos (by simpa using e), if_pos e]; rfl
  · rw [if_neg (by simpa using e), if_neg e]; rfl
theorem idxF_end {f : Nat → Nat} {L t k : Nat} (h : L ≤ t) : idxF f L t k = [] := by
  unfold idxF
  rw [List.drop_of_length_le (by rw [List.length_range]; exact h)]; rfl
theorem idxF_sorted (f : Nat → Nat) (L t k : Nat) : (idxF f L t k).Pairwise (· < ·) := by
  unfold idxF
  exact List.Pairwise.filter _ (List.Pairwise.sublist (List.drop_sublist _ _) List.pairwise_lt_range)
theorem remF_mem {A : List KV} {f : Nat → Nat} {t k : Nat} {x : KV} (h : x ∈ remF A f t k) : ∃ i, t ≤ i ∧ i < A.length ∧ f i = k ∧ x = A.getD i k0 := by
  unfold remF at h
  obtain ⟨i, hi, rfl⟩ := List.mem_map.1 h
  have := idxF_mem hi
  exact ⟨i, this.1, this.2.1, this.2.2, rfl⟩
theorem remF_at {A : List KV} {f : Nat → Nat} {t k : Nat} (h : t < A.length) : remF A f t k = (if f t = k then [A.getD t k0] else []) ++ remF A f (t + 1) k := by
  unfold remF
  rw [idxF_at h, List.map_append]
  split <;> rfl
theorem remF_end {A : List KV} {f : Nat → Nat} {t k : Nat} (h : A.length ≤ t) : remF A f t k = [] := by
  unfold remF; rw [idxF_end h]; rfl
/-- all of a shard: what was before t, and the rest -/
theorem partF_cut (A : List KV) (f : Nat → Nat) (t k : Nat) : ∃ X, partF A f k = X ++ remF A f t k ∧ ∀ x ∈ X, ∃ i, i < t ∧ i < A.length ∧ x = A.getD i k0 := by
  refine ⟨(((List.range A.length).take t).filter fun i => f i == k).map fun i => A.getD i k0, ?_, fun x hx => ?_⟩
  · unfold partF remF idxF
    rw [← List.map_append, ← List.filter_append, List.take_append_drop, List.drop_zero]
  · obtain ⟨i, hi, rfl⟩ := List.mem_map.1 hx
    have h1 := (List.mem_filter.1 hi).1
    obtain ⟨j, hj, e⟩ := List.mem_iff_getElem.1 h1
    rw [List.getElem_take, List.getElem_range] at e
    rw [List.length_take, List.length_range] at hj
    exact ⟨i, by omega, by omega, rfl⟩
theorem upN_of {L : List KV} : ∀ n, (∀ j, j < n → 0 ≤ (L.getD j k0).1) → (∀ j, 0 < j → j < n → lessK (L.getD (j - 1) k0) (L.getD j k0) = true) → upN L n = true
  | 0, _, _ => rfl
  | n + 1, h1, h2 => by
    unfold upN
    rw [upN_of n (fun j hj => h1 j (by omega)) (fun j h0 hj => h2 j h0 (by omega)), decide_eq_false (show ¬ (L.getD n k0).1 < 0 by have := h1 n (by omega); omega)]
    by_cases h0 : n = 0
    · rw [decide_eq_true h0]; rfl
    · rw [h2 n (by omega) (by omega)]; simp
theorem upN_dist {A : List KV} (h : upN A A.length = true) {i : Nat} (hi : i < A.length) : 0 ≤ (A.getD i k0).1 := (upN_at h i hi).1
theorem partF_up {A : List KV} (h : upN A A.length = true) (f : Nat → Nat) (k : Nat) : upN (partF A f k) (partF A f k).length = true := by
  have hs := idxF_sorted f A.length 0 k
  have hl : (partF A f k).length = (idxF f A.length 0 k).length := by unfold partF remF; rw [List.length_map]
  have hg : ∀ j, (hj : j < (idxF f A.length 0 k).length) → (partF A f k).getD j k0 = A.getD ((idxF f A.length 0 k)[j]) k0 := fun j hj => by
    unfold partF remF
    rw [List.getD_eq_getElem?_getD, List.getElem?_map, List.getElem?_eq_getElem hj]; rfl
  refine upN_of _ (fun j hj => ?_) (fun j h0 hj => ?_)
  · rw [hg j (by omega)]
    exact upN_dist h (idxF_mem (List.getElem_mem _)).2.1
  · rw [hg j (by omega), hg (j - 1) (by omega)]
    exact upN_ris h _ _ (List.pairwise_iff_getElem.1 hs (j - 1) j (by omega) (by omega) (by omega)) (idxF_mem (List.getElem_mem _)).2.1
theorem partF_len (A : List KV) (f : Nat → Nat) (k : Nat) : (partF A f k).length ≤ A.length := by
  unfold partF remF idxF
  rw [List.length_map]
  refine Nat.le_trans (List.length_filter_le _ _) ?_
  rw [List.length_drop, List.length_range]; omega
/-- a shard, so many of whose items were sent -/
structure ShOk (A : List KV) (f : Nat → Nat) (t i : Nat) (x : SM) (a k : Nat) : Prop where
  eq : x = sh1 x.ended x.seq x.rcv x.last x.wait
  seq : 0 ≤ x.seq ∧ x.seq ≤ (i : Int)
  al : a ≤ (partF A f k).length
  rem : x.wait ++ (partF A f k).drop a = remF A f t k
  en : x.ended = true → a = (partF A f k).length
  rt : x.rcv = true → 0 < a ∧ x.last = (partF A f k).getD (a - 1) k0
  rf : x.rcv = false → a = 0
theorem ShOk.wn {A : List KV} {f : Nat → Nat} {t i : Nat} {x : SM} {a k : Nat} (h : ShOk A f t i x a k) : x.wn = x.wait.length := by rw [h.eq]; rfl
theorem ShOk.least {A : List KV} {f : Nat → Nat} {t i : Nat} {x : SM} {a k : Nat} (h : ShOk A f t i x a k) : x.least = 0 := by rw [h.eq]; rfl
theorem ShOk.up {A : List KV} {f : Nat → Nat} {t i j : Nat} {x : SM} {a k : Nat} (h : ShOk A f t i x a k) (hj : i ≤ j) : ShOk A f t j x a k :=
  ⟨h.eq, ⟨h.seq.1, by have := h.seq.2; omega⟩, h.al, h.rem, h.en, h.rt, h.rf⟩
theorem ShOk.want {A : List KV} {f : Nat → Nat} {t i : Nat} {x : SM} {a k : Nat} (h : ShOk A f t i x a k) (hw : prW x = true) : x.ended = false ∧ x.wait = [] := by
  unfold prW at hw
  rw [h.wn] at hw
  simp at hw
  exact hw
/-- a wanted shard's last item is ahead of all that is left -/
theorem ShOk.last {A : List KV} {f : Nat → Nat} {t i : Nat} {x : SM} {a k : Nat} (h : ShOk A f t i x a k) (hA : upN A A.length = true) (hw : x.wait = []) (hr : x.rcv = true) {j : Nat} (hj : t ≤ j) (hjA : j < A.length) : lessK x.last (A.getD j k0) = true := by
  obtain ⟨h0, hl⟩ := h.rt hr
  obtain ⟨X, hX, hx⟩ := partF_cut A f t k
  have h1 := h.rem
  rw [hw, List.nil_append, hX] at h1
  have h2 := h.al
  rw [hX, List.length_append] at h2
  have h3 := congrArg List.length h1
  rw [List.length_drop, List.length_append] at h3
  have ha : a = X.length := by omega
  rw [hX, List.getD_eq_getElem?_getD, List.getElem?_append_left (by omega), ← List.getD_eq_getElem?_getD] at hl
  have hm : X.getD (a - 1) k0 ∈ X := by
    rw [List.getD_eq_getElem?_getD, List.getElem?_eq_getElem (show a - 1 < X.length by omega)]
    exact List.getElem_mem _
  obtain ⟨q, hq, hqA, e⟩ := hx _ hm
  rw [hl, e]
  exact upN_ris hA q j (by omega) hjA
/-- all shards: t items told, i batches taken -/
structure BegP (A : List KV) (f : Nat → Nat) (n N t i : Nat) (P : List SM) (ats : Nat → Nat) : Prop where
  len : P.length = n
  tn : t ≤ N
  ta : t ≤ A.length
  sh : ∀ k, k < n → ShOk A f t i (P.getD k sm0) (ats k) k
  cnt : i ≤ t + P.countP fun x => !prW x
theorem setD (P : List SM) (k j : Nat) (x : SM) (hk : k < P.length) : (P.set k x).getD j sm0 = if k = j then x else P.getD j sm0 := by
  rw [List.getD_eq_getElem?_getD, List.getElem?_set]
  by_cases e : k = j
  · rw [if_pos e, if_pos e, if_pos hk]; rfl
  · rw [if_neg e, if_neg e, List.getD_eq_getElem?_getD]
theorem set_cnt (P : List SM) (k : Nat) (x : SM) (hk : k < P.length) : (P.set k x).countP (fun y => !prW y) + (if prW (P.getD k sm0) then 0 else 1) = P.countP (fun y => !prW y) + (if prW x then 0 else 1) := by
  have e : P.getD k sm0 = P[k] := by rw [List.getD_eq_getElem?_getD, List.getElem?_eq_getElem hk]; rfl
  have h0 : (P.take k ++ P[k] :: P.drop (k + 1)) = P := by rw [← List.drop_eq_getElem_cons hk, List.take_append_drop]
  have h1 : P.set k x = P.take k ++ x :: P.drop (k + 1) := List.set_eq_take_append_cons_drop ▸ (by rw [if_pos hk])
  rw [e, h1]
  conv => rhs; lhs; rw [← h0]
  rw [List.countP_append, List.countP_append, List.countP_cons, List.countP_cons]
  cases prW x <;> cases prW P[k] <;> simp <;> omega
theorem cnt_le (P : List SM) : P.countP (fun y => !prW y) ≤ P.length := List.countP_le_length
/-- taken: what is sent next of a wanted shard -/
theorem BegP.put {A : List KV} {f : Nat → Nat} {n N t i : Nat} {P : List SM} {ats : Nat → Nat} (h : BegP A f n N t i P ats) (hA : upN A A.length = true) {k m sz : Nat} (hk : k < n) (hw : prW (P.getD k sm0) = true) (hd : doneB (N : Int) (A.take t) P = false) (hs : 1 ≤ sz ∧ sz ≤ 5)
    (hm : min sz ((partF A f k).length - ats k) = m) :
    putB (N : Int) (A.take t) P (k : Int) (P.getD k sm0).seq (((partF A f k).drop (ats k)).take m) (decide (m = (partF A f k).length - ats k)) = true ∧
    BegP A f n N t (i + 1) (P.set k (putSM (P.getD k sm0) (((partF A f k).drop (ats k)).take m) (decide (m = (partF A f k).length - ats k)))) (fun j => if j = k then ats k + m else ats j) := by
  have S := h.sh k hk
  obtain ⟨he, hwt⟩ := S.want hw
  have hal := S.al
  have hlen := cut_len (partF A f k) (ats k) m (by omega)
  obtain ⟨x, hx⟩ : ∃ x, P.getD k sm0 = x := ⟨_, rfl⟩
  obtain ⟨en, hen⟩ : ∃ en, decide (m = (partF A f k).length - ats k) = en := ⟨_, rfl⟩
  rw [hx] at S he hwt hw
  rw [hx, hen]
  have hxe : x = sh1 false x.seq x.rcv x.last [] := by
    have := S.eq
    rw [he, hwt] at this
    exact this
  have hrem := S.rem
  rw [hwt, List.nil_append] at hrem
  have hfit : fitsB x (((partF A f k).drop (ats k)).take m) = true := by
    rw [hxe]
    refine fits_cut (partF_up hA f k) (by omega) (by omega) (fun hr j hj hjl => ?_)
    have hdj : (partF A f k).getD j k0 = (remF A f t k).getD (j - ats k) k0 := by
      rw [← hrem, List.getD_eq_getElem?_getD, List.getD_eq_getElem?_getD, List.getElem?_drop, show ats k + (j - ats k) = j by omega]
    have hin : (remF A f t k).getD (j - ats k) k0 ∈ remF A f t k := by
      have hl2 := congrArg List.length hrem
      rw [List.length_drop] at hl2
      rw [List.getD_eq_getElem?_getD, List.getElem?_eq_getElem (by omega)]
      exact List.getElem_mem _
    obtain ⟨q, hq, hqA, _, e⟩ := remF_mem hin
    rw [hdj, e]
    exact S.last hA hwt hr hq hqA
  refine ⟨?_, ?_⟩
  · unfold putB
    rw [Int.toNat_natCast, hx, h.len, decide_eq_true (show 0 ≤ (k : Int) ∧ (k : Int) < (n : Int) by omega), hd, hw, decide_eq_true rfl, hfit, hlen]
    by_cases h0 : m = 0
    · have : en = true := by rw [← hen]; exact decide_eq_true (by omega)
      rw [this]; simp
    · rw [decide_eq_false h0]; rfl
  · have hput : putSM x (((partF A f k).drop (ats k)).take m) en = sh1 en (x.seq + 1) (x.rcv || decide (0 < m)) (if 0 < m then (partF A f k).getD (ats k + m - 1) k0 else x.last) (((partF A f k).drop (ats k)).take m) := by
      conv => lhs; rw [hxe]
      rw [put_sh1, hlen]
      by_cases h0 : 0 < m
      · rw [if_pos h0, if_pos h0, getD_cut _ _ _ _ (by omega), show ats k + (m - 1) = ats k + m - 1 by omega]
      · rw [if_neg h0, if_neg h0]
    refine ⟨by rw [List.length_set]; exact h.len, h.tn, h.ta, fun j hj => ?_, ?_⟩
    · rw [setD _ _ _ _ (by rw [h.len]; exact hk)]
      by_cases e : k = j
      · subst e
        rw [if_pos rfl, if_pos rfl, hput]
        refine ⟨rfl, ⟨by have := S.seq.1; simp [sh1]; omega, by have := S.seq.2; simp [sh1]; omega⟩, by omega, ?_, fun h1 => ?_, fun h1 => ?_, fun h1 => ?_⟩
        · show ((partF A f k).drop (ats k)).take m ++ (partF A f k).drop (ats k + m) = _
          rw [← List.drop_drop, List.take_append_drop]; exact hrem
        · have h2 : en = true := h1
          rw [← hen] at h2
          have := of_decide_eq_true h2
          omega
        · have h2 : (x.rcv || decide (0 < m)) = true := h1
          show 0 < ats k + m ∧ (if 0 < m then (partF A f k).getD (ats k + m - 1) k0 else x.last) = _
          by_cases h0 : 0 < m
          · rw [if_pos h0]; exact ⟨by omega, rfl⟩
          · rw [if_neg h0]
            rw [decide_eq_false h0, Bool.or_false] at h2
            obtain ⟨z1, z2⟩ := S.rt h2
            exact ⟨by omega, by rw [z2, show ats k + m - 1 = ats k - 1 by omega]⟩
        · have h2 : (x.rcv || decide (0 < m)) = false := h1
          rw [Bool.or_eq_false_iff] at h2
          have := S.rf h2.1
          have := of_decide_eq_false h2.2
          omega
      · rw [if_neg e, if_neg (fun e2 => e e2.symm)]
        exact (h.sh j hj).up (by omega)
    · have hc := set_cnt P k (putSM x (((partF A f k).drop (ats k)).take m) en) (by rw [h.len]; exact hk)
      have hp : prW (putSM x (((partF A f k).drop (ats k)).take m) en) = false := by
        rw [hput]
        show (!en && decide (((((partF A f k).drop (ats k)).take m).length) = 0)) = false
        rw [hlen]
        by_cases h0 : m = 0
        · have : en = true := by rw [← hen]; exact decide_eq_true (by omega)
          rw [this]; rfl
        · rw [decide_eq_false h0, Bool.and_false]
      rw [hx, hw, hp] at hc
      have := h.cnt
      simp at hc
      omega
theorem getD0_in {ks : List KV} (h : 0 < ks.length) : ks.getD 0 k0 ∈ ks := by
  rw [List.getD_eq_getElem?_getD, List.getElem?_eq_getElem h]
  exact List.getElem_mem _
theorem heads_in {L : List SM} {k : Nat} (hw : 0 < (L.getD k sm0).wn) : ∀ {n : Nat}, k < n → (k, (L.getD k sm0).wait.getD 0 k0) ∈ headsN L n
  | 0, h => by omega
  | n + 1, h => by
    unfold headsN
    rw [List.mem_append]
    by_cases e : k = n
    · subst e
      right
      unfold headOf
      rw [if_pos hw]; simp
    · exact Or.inl (heads_in hw (by omega))
theorem fold_least (hs : List HD) : ∀ (b : HD), ¬ lessK b.2 (hs.foldl bestF b).2 = true ∧ ∀ h ∈ hs, ¬ lessK h.2 (hs.foldl bestF b).2 = true := by
  have irr : ∀ x : KV, ¬ lessK x x = true := fun x h => leK_refl x (of_decide_eq_true h)
  induction hs with
  | nil => intro b; exact ⟨irr _, fun h hh => by cases hh⟩
  | cons x l ih =>
    intro b
    rw [List.foldl_cons]
    obtain ⟨h1, h2⟩ := ih (bestF b x)
    have hb : ¬ lessK b.2 (List.foldl bestF (bestF b x) l).2 = true := by
      by_cases hx : lessK x.2 b.2 = true
      · intro hh
        have e : bestF b x = x := by unfold bestF; rw [if_pos hx]
        rw [e] at h1 hh
        exact h1 (lessK_trans hx hh)
      · have e : bestF b x = b := by unfold bestF; rw [if_neg hx]
        rw [e] at h1 ⊢
        exact h1
    have hxx : ¬ lessK x.2 (List.foldl bestF (bestF b x) l).2 = true := by
      by_cases hx : lessK x.2 b.2 = true
      · have e : bestF b x = x := by unfold bestF; rw [if_pos hx]
        rw [e] at h1 ⊢
        exact h1
      · have e : bestF b x = b := by unfold bestF; rw [if_neg hx]
        intro hh
        rw [e] at h1 hh
        have n1 : ¬ ordK b.2 (List.foldl bestF b l).2 < 0 := fun h => h1 (decide_eq_true h)
        have n2 : ordK x.2 (List.foldl bestF b l).2 < 0 := of_decide_eq_true hh
        have n3 : ¬ ordK x.2 b.2 < 0 := fun h => hx (decide_eq_true h)
        exact n1 (by
          rcases leK_iff.1 (show leK b.2 x.2 from n3) with e3 | e3
          · rw [e3]; exact n2
          · exact ordK_trans e3 n2)
    exact ⟨hb, fun h hh => by
      rcases List.mem_cons.1 hh with rfl | hh
      · exact hxx
      · exact h2 h hh⟩
theorem first_least {hs : List HD} {h : HD} (hh : h ∈ hs) : ¬ lessK h.2 (firstL hs).2 = true := (fold_least hs _).2 h hh
/-- told: the next of all -/
theorem BegP.tell {A : List KV} {f : Nat → Nat} {n N i : Nat} {ats : Nat → Nat} (hA : upN A A.length = true) (hf : ∀ j, f j < n) : ∀ (u t : Nat) (P : List SM) (out : List KV), BegP A f n N t i P ats → N ≤ t + u →
    ∃ t' P', tellF (N : Int) u (A.take t) P out = (A.take t', P', out ++ (A.drop t).take (t' - t)) ∧ t ≤ t' ∧ BegP A f n N t' i P' ats ∧ (doneB (N : Int) (A.take t') P' = true ∨ P'.any prW = true)
  | 0, t, P, out, h, hu => by
    refine ⟨t, P, by unfold tellF; simp, by omega, h, Or.inl ?_⟩
    unfold doneB
    have : (A.take t).length = t := by have := h.ta; simp; omega
    rw [this, decide_eq_true (show (N : Int) ≤ (t : Int) by omega)]; rfl
  | u + 1, t, P, out, h, hu => by
    have stop : ∀ R, (doneB (N : Int) (A.take t) P = true ∨ P.any prW = true) → R = (A.take t, P, out) → ∃ t' P', R = (A.take t', P', out ++ (A.drop t).take (t' - t)) ∧ t ≤ t' ∧ BegP A f n N t' i P' ats ∧ (doneB (N : Int) (A.take t') P' = true ∨ P'.any prW = true) := fun R hR e => ⟨t, P, by rw [e]; simp, by omega, h, hR⟩
    unfold tellF
    by_cases hd : doneB (N : Int) (A.take t) P = true
    · rw [if_pos hd]; exact stop _ (Or.inl hd) rfl
    rw [if_neg hd]
    have htl : (A.take t).length = t := by have := h.ta; simp; omega
    have hd' : ¬ N ≤ t ∧ P.any (fun y => !y.ended || decide (0 < y.wn)) = true := by
      unfold doneB at hd
      rw [htl] at hd
      simp only [Bool.or_eq_true, decide_eq_true_eq, Bool.not_eq_true', not_or, Bool.not_eq_false] at hd
      exact ⟨by omega, hd.2⟩
    by_cases hw : P.any prW = true
    · -- some shard is wanted: so nothing is told
      by_cases hh : headsN P P.length = []
      · rw [if_pos hh]; exact stop _ (Or.inr hw) rfl
      rw [if_neg hh]
      have hfm := heads_mem (first_mem hh)
      have hk1 : (firstL (headsN P P.length)).1 < n := by rw [← h.len]; exact hfm.1
      have S1 := h.sh _ hk1
      have hin : (firstL (headsN P P.length)).2 ∈ remF A f t (firstL (headsN P P.length)).1 := by
        rw [hfm.2.2, ← S1.rem]
        refine List.mem_append_left _ ?_
        have := hfm.2.1
        rw [S1.wn] at this
        exact getD0_in this
      obtain ⟨q, hq, hqA, _, e⟩ := remF_mem hin
      rw [if_pos]
      · exact stop _ (Or.inr hw) rfl
      · rw [List.any_eq_true] at hw ⊢
        obtain ⟨y, hy, hpy⟩ := hw
        obtain ⟨j, hj, rfl⟩ := List.mem_iff_getElem.1 hy
        have ej : P.getD j sm0 = P[j] := by rw [List.getD_eq_getElem?_getD, List.getElem?_eq_getElem hj]; rfl
        have Sj := h.sh j (by rw [← h.len]; exact hj)
        rw [ej] at Sj
        refine ⟨_, hy, ?_⟩
        unfold prM
        have hpy' := hpy
        unfold prW at hpy'
        rw [hpy', Bool.true_and]
        unfold mayS
        rw [e]
        cases hr : P[j].rcv
        · rw [if_neg (by simp), Sj.least]; exact decide_eq_true (upN_dist hA hqA)
        · rw [if_pos rfl]; exact Sj.last hA (Sj.want hpy).2 hr hq hqA
    · have nw : ∀ j, j < n → prW (P.getD j sm0) = false := fun j hj => by
        cases e : prW (P.getD j sm0)
        · rfl
        · refine absurd (List.any_eq_true.2 ⟨P.getD j sm0, ?_, e⟩) hw
          rw [List.getD_eq_getElem?_getD, List.getElem?_eq_getElem (show j < P.length by rw [h.len]; exact hj)]
          exact List.getElem_mem _
      -- what is next is a shard's first that waits
      have htA : t < A.length := by
        obtain ⟨y, hy, hpy⟩ := List.any_eq_true.1 hd'.2
        obtain ⟨j, hj, rfl⟩ := List.mem_iff_getElem.1 hy
        have ej : P.getD j sm0 = P[j] := by rw [List.getD_eq_getElem?_getD, List.getElem?_eq_getElem hj]; rfl
        have hjn : j < n := by rw [← h.len]; exact hj
        have Sj := h.sh j hjn
        have nj := nw j hjn
        rw [ej] at Sj nj
        unfold prW at nj
        have hwn : 0 < P[j].wn := by
          by_cases h0 : P[j].wn = 0
          · rw [h0] at hpy nj
            simp at hpy nj
            rw [hpy] at nj; cases nj
          · omega
        rcases Nat.lt_or_ge t A.length with h1 | h1
        · exact h1
        · have := Sj.rem
          rw [remF_end h1] at this
          have h2 := congrArg List.length this
          rw [List.length_append] at h2
          rw [Sj.wn] at hwn
          rw [List.length_nil] at h2
          omega
      obtain ⟨k, hk⟩ : ∃ k, f t = k := ⟨_, rfl⟩
      have hkn : k < n := by rw [← hk]; exact hf t
      have Sk := h.sh k hkn
      have hrem := Sk.rem
      rw [remF_at htA, if_pos hk, List.singleton_append] at hrem
      obtain ⟨ws, hws⟩ : ∃ ws, (P.getD k sm0).wait = A.getD t k0 :: ws := by
        cases hwk : (P.getD k sm0).wait with
        | cons y ys =>
          rw [hwk, List.cons_append] at hrem
          injection hrem with e1 e2
          exact ⟨ys, by rw [e1]⟩
        | nil =>
          rw [hwk, List.nil_append] at hrem
          have n1 := nw k hkn
          unfold prW at n1
          rw [Sk.wn, hwk] at n1
          simp at n1
          rw [Sk.en n1, List.drop_length] at hrem
          cases hrem
      have hwn : 0 < (P.getD k sm0).wn := by rw [Sk.wn, hws]; simp
      have hkh := heads_in (L := P) hwn (n := P.length) (by rw [h.len]; exact hkn)
      rw [hws] at hkh
      have hh : headsN P P.length ≠ [] := fun e => by rw [e] at hkh; cases hkh
      rw [if_neg hh]
      have hfm := heads_mem (first_mem hh)
      have hk1 : (firstL (headsN P P.length)).1 < n := by rw [← h.len]; exact hfm.1
      have S1 := h.sh _ hk1
      have hin : (firstL (headsN P P.length)).2 ∈ remF A f t (firstL (headsN P P.length)).1 := by
        rw [hfm.2.2, ← S1.rem]
        refine List.mem_append_left _ ?_
        have := hfm.2.1
        rw [S1.wn] at this
        exact getD0_in this
      obtain ⟨q, hq, hqA, hfq, e⟩ := remF_mem hin
      have hqt : q = t := by
        have n2 := first_least hkh
        rcases Nat.lt_or_ge t q with h1 | h1
        · rw [e] at n2
          exact absurd (upN_ris hA t q h1 hqA) n2
        · omega
      subst hqt
      rw [hk] at hfq
      have hmay : ¬ P.any (prM (firstL (headsN P P.length)).2) = true := fun ha => by
        obtain ⟨y, hy, hpy⟩ := List.any_eq_true.1 ha
        refine hw (List.any_eq_true.2 ⟨y, hy, ?_⟩)
        unfold prM at hpy
        unfold prW
        rw [Bool.and_eq_true] at hpy
        exact hpy.1
      rw [if_neg hmay, e, ← hfq]
      have htk : A.take q ++ [A.getD q k0] = A.take (q + 1) := by
        rw [List.take_add_one, List.getElem?_eq_getElem htA, List.getD_eq_getElem?_getD, List.getElem?_eq_getElem htA]; rfl
      rw [htk]
      have hpop : popS (P.getD k sm0) = sh1 (P.getD k sm0).ended (P.getD k sm0).seq (P.getD k sm0).rcv (P.getD k sm0).last ws := by
        have := Sk.eq
        rw [hws] at this
        conv => lhs; rw [this]
        exact pop_sh1 _ _ _ _ _ _
      have B1 : BegP A f n N (q + 1) i (P.set k (popS (P.getD k sm0))) ats := by
        refine ⟨by rw [List.length_set]; exact h.len, by omega, by omega, fun j hj => ?_, ?_⟩
        · rw [setD _ _ _ _ (by rw [h.len]; exact hkn)]
          by_cases ej : k = j
          · subst ej
            rw [if_pos rfl, hpop]
            refine ⟨rfl, Sk.seq, Sk.al, ?_, Sk.en, Sk.rt, Sk.rf⟩
            rw [hws, List.cons_append] at hrem
            injection hrem with _ e2
          · rw [if_neg ej]
            have Sj := h.sh j hj
            refine ⟨Sj.eq, Sj.seq, Sj.al, ?_, Sj.en, Sj.rt, Sj.rf⟩
            rw [Sj.rem, remF_at htA, if_neg (by rw [hk]; exact ej)]; rfl
        · have hc := set_cnt P k (popS (P.getD k sm0)) (by rw [h.len]; exact hkn)
          rw [nw k hkn, if_neg Bool.false_ne_true] at hc
          have := h.cnt
          split at hc <;> omega
      obtain ⟨t', P', e1, ht, hB, hE⟩ := BegP.tell hA hf u (q + 1) (P.set k (popS (P.getD k sm0))) (out ++ [A.getD q k0]) B1 (by omega)
      refine ⟨t', P', ?_, by omega, hB, hE⟩
      rw [e1]
      have hdr : (A.drop q).take (t' - q) = A.getD q k0 :: (A.drop (q + 1)).take (t' - (q + 1)) := by
        rw [List.drop_eq_getElem_cons htA, show t' - q = (t' - (q + 1)) + 1 by omega, List.take_succ_cons, List.getD_eq_getElem?_getD, List.getElem?_eq_getElem htA]; rfl
      rw [hdr, List.append_assoc]; rfl
theorem BegP.done {A : List KV} {f : Nat → Nat} {n N t i : Nat} {P : List SM} {ats : Nat → Nat} (h : BegP A f n N t i P ats) (hf : ∀ j, f j < n) (hd : doneB (N : Int) (A.take t) P = true) : t = min A.length N := by
  have htl : (A.take t).length = t := by have := h.ta; simp; omega
  have h1 := h.tn
  have h2 := h.ta
  unfold doneB at hd
  rw [htl] at hd
  simp only [Bool.or_eq_true, decide_eq_true_eq, Bool.not_eq_true'] at hd
  rcases hd with hd | hd
  · omega
  · rcases Nat.lt_or_ge t A.length with h3 | h3
    · exfalso
      have hk := hf t
      have S := h.sh _ hk
      have hpm : P.getD (f t) sm0 ∈ P := by
        rw [List.getD_eq_getElem?_getD, List.getElem?_eq_getElem (show f t < P.length by rw [h.len]; exact hk)]
        exact List.getElem_mem _
      have hx : (!(P.getD (f t) sm0).ended || decide (0 < (P.getD (f t) sm0).wn)) = false := Bool.eq_false_iff.2 (List.any_eq_false.1 hd _ hpm)
      rw [Bool.or_eq_false_iff] at hx
      have he : (P.getD (f t) sm0).ended = true := by simpa using hx.1
      have hwn := of_decide_eq_false hx.2
      rw [S.wn] at hwn
      have hrem := S.rem
      rw [remF_at h3, if_pos rfl, S.en he, List.drop_length, List.append_nil] at hrem
      rw [hrem] at hwn
      simp at hwn
    · omega
theorem wantN_mem {P : List SM} {k m : Nat} (h : k ∈ wantN P m) : k < m ∧ prW (P.getD k sm0) = true := by
  unfold wantN at h
  rw [List.mem_filter, List.mem_range] at h
  exact h
theorem wants_some {N : Int} {T : List KV} {P : List SM} (h : doneB N T P = true ∨ P.any prW = true) : (wantsL N T P = [] → doneB N T P = true) ∧ ∀ k ∈ wantsL N T P, k < P.length ∧ prW (P.getD k sm0) = true ∧ doneB N T P = false := by
  refine ⟨fun e => ?_, fun k hk => ?_⟩
  · rcases h with h | h
    · exact h
    · cases hd : doneB N T P
      · unfold wantsL at e
        rw [hd, if_neg (by simp)] at e
        obtain ⟨y, hy, hpy⟩ := List.any_eq_true.1 h
        obtain ⟨j, hj, rfl⟩ := List.mem_iff_getElem.1 hy
        have ej : P.getD j sm0 = P[j] := by rw [List.getD_eq_getElem?_getD, List.getElem?_eq_getElem hj]; rfl
        have : j ∈ wantN P P.length := by
          unfold wantN
          rw [List.mem_filter, List.mem_range]
          exact ⟨hj, by rw [ej]; exact hpy⟩
        rw [e] at this; cases this
      · rfl
  · unfold wantsL at hk
    cases hd : doneB N T P
    · rw [hd, if_neg (by simp)] at hk
      have := wantN_mem hk
      exact ⟨this.1, this.2, rfl⟩
    · rw [hd, if_pos rfl] at hk; cases hk
theorem beg_start (A : List KV) (f : Nat → Nat) (n N : Nat) : BegP A f n N 0 0 ((List.replicate n (0 : Int)).map mkS) fun _ => 0 := by
  refine ⟨by simp, by omega, by omega, fun k hk => ?_, by omega⟩
  have e : ((List.replicate n (0 : Int)).map mkS).getD k sm0 = sh1 false 0 false k0 [] := by
    rw [List.getD_eq_getElem?_getD, List.getElem?_map, List.getElem?_replicate, if_pos hk]; rfl
  rw [e]
  exact ⟨rfl, ⟨by simp [sh1], by simp [sh1]⟩, by omega, rfl, (fun h => by cases h), (fun h => by cases h), fun _ => rfl⟩
theorem beg_want {n : Nat} (hn : 0 < n) : ((List.replicate n (0 : Int)).map mkS).any prW = true := by
  obtain ⟨m, rfl⟩ : ∃ m, n = m + 1 := ⟨n - 1, by omega⟩
  rw [List.replicate_succ, List.map_cons, List.any_cons]
  have : prW (mkS 0) = true := rfl
  rw [this]; rfl
end Go.Proofs.Ytgghbgmeebihbaa
namespace Go.Proofs.Ytgghbgmeebihbaa
open Go.RowKit
set_option linter.unusedVariables false
set_option maxRecDepth 20000
theorem mtold_u (u : Nat) (zs : List KV) {w0 : World} {b : Nat} {most : Int} {T : List KV} {P : List SM} {S : Nat → Prop} (w : World) (h : CtxM w0 w b most T P S) (hl : T.length = u) (hu : u ≤ 50000) (hz : T = zs) :
    Calls Try.prog 32 #[.pointer (some ⟨b, 0, none⟩)] w fun e w' => ∃ a c, e = .returned (.slice a u c) ∧ HoldsK w' a u zs ∧ Below w.heap.size w w' := by
  subst hl hz
  exact (mtold_c w h hu).mono fun e w' ⟨a, c, e1, ho, hb⟩ => ⟨a, c, e1, HoldsK.own ho, hb⟩
theorem beq_nat (t j : Nat) : ((t : Int) == (j : Int)) = decide (t = j) := by
  rw [Bool.eq_iff_iff]
  simp only [beq_iff_eq, decide_eq_true_eq]
  omega
theorem dec_nat (t j : Nat) : decide ((t : Int) = (j : Int)) = decide (t = j) := by
  rw [Bool.eq_iff_iff]
  simp only [decide_eq_true_eq]
  omega
theorem cut_none {a : Option Addr} {c A : Nat} (e : (if c = A then a else a.map (·.add (A * 2))) = none) : a = none := by
  split at e
  · exact e
  · cases a with
    | none => rfl
    | some x => cases e
end Go.Proofs.Ytgghbgmeebihbaa
namespace Go.Proofs.Ytgghbgmeebihbaa
open Go.ChangeShapes Go.WideShapes Go.ChangeAt Go.RowKit
set_option linter.unusedVariables false
set_option maxRecDepth 20000
/-- The slice at a of n bytes holds the bytes bs. -/
def HoldsB (w : World) (a : Option Addr) (n : Nat) (bs : List Nat) : Prop := HoldsI .u8 w a n (bs.map fun b : Nat => (b : Int)) ∧ ∀ b ∈ bs, b < 256
theorem getD_map_cast (bs : List Nat) (i : Nat) : (bs.map fun b : Nat => (b : Int)).getD i 0 = ((bs.getD i 0 : Nat) : Int) := by
  simp only [List.getD_eq_getElem?_getD, List.getElem?_map]
  cases bs[i]? <;> rfl
theorem HoldsB.at {w : World} {a : Option Addr} {n : Nat} {bs : List Nat} (h : HoldsB w a n bs) (h0 : 0 < n) : ∃ b o, a = some ⟨b, o, none⟩ ∧ ∀ i, i < n → w.cell? ⟨b, o + i, none⟩ = some (.int .u8 ((bs.getD i 0 : Nat) : Int)) := by
  obtain ⟨b, o, ha, hc⟩ := h.1.2 h0
  exact ⟨b, o, ha, fun i hi => by rw [hc i hi, getD_map_cast]⟩
theorem HoldsB.below {w w' : World} {a : Option Addr} {n : Nat} {bs : List Nat} (h : HoldsB w a n bs) (hb : Below w.heap.size w w') : HoldsB w' a n bs := ⟨h.1.below hb, h.2⟩
theorem getD_lt {bs : List Nat} (h : ∀ b ∈ bs, b < 256) (i : Nat) : bs.getD i 0 < 256 := by
  rw [List.getD_eq_getElem?_getD]
  cases e : bs[i]? with
  | none => simp
  | some x => exact h x (List.mem_of_getElem? e)
end Go.Proofs.Ytgghbgmeebihbaa
namespace Go.Proofs.Ytgghbgmeebihbaa
open Go.RowKit
set_option linter.unusedVariables false
set_option maxRecDepth 20000
def upF {α : Type} (f : Nat → α) (k : Nat) (x : α) (j : Nat) : α := if j = k then x else f j
theorem upF_at {α : Type} (f : Nat → α) (k : Nat) (x : α) : upF f k x k = x := if_pos rfl
theorem upF_ne {α : Type} (f : Nat → α) {k j : Nat} (x : α) (h : j ≠ k) : upF f k x j = f j := if_neg h
/-- n rows of the call's own, their slices in block B -/
structure CutIn (w0 w : World) (B n : Nat) (a : Nat → Option Addr) (c : Nat → Nat) (p : Nat → List KV) : Prop where
  ce : ∀ k, k < n → w.cell? ⟨B, k, none⟩ = some (.slice (a k) (p k).length (c k))
  fz : ∀ k, w.frozen? ⟨B, k, none⟩ = false
  own : ∀ k, k < n → w.ownsRow w0.heap.size 61 2 (.slice (a k) (p k).length (c k)) (p k).length (keysV (p k))
  far : ∀ k, k < n → ∀ g, a k = some ⟨g, 0, none⟩ → g ≠ B ∧ ∀ j, j < n → j ≠ k → a j ≠ some ⟨g, 0, none⟩
  lo : w0.heap.size ≤ B
  hi : B < w.heap.size
  bel : Below w0.heap.size w0 w
theorem CutIn.more {w0 w w' : World} {B n : Nat} {a : Nat → Option Addr} {c : Nat → Nat} {p : Nat → List KV} (h : CutIn w0 w B n a c p) (hb : Below w.heap.size w w') : CutIn w0 w' B n a c p :=
  ⟨fun k hk => (hb.cell (p := ⟨B, k, none⟩) h.hi).trans (h.ce k hk), fun k => (hb.frozen (p := ⟨B, k, none⟩) h.hi).trans (h.fz k), fun k hk => owns_below (h.own k hk) hb, h.far, h.lo, Nat.lt_of_lt_of_le h.hi hb.size, h.bel.trans (hb.mono h.bel.size)⟩
theorem CutIn.step {w0 w w6 : World} {B n k g cap : Nat} {a : Nat → Option Addr} {c : Nat → Nat} {p : Nat → List KV} {x : KV} {o : Obj} (h : CutIn w0 w B n a c p) (hk : k < n)
    (own : w6.ownsRow w0.heap.size 61 2 (.slice (some ⟨g, 0, none⟩) ((p k).length + 1) cap) ((p k).length + 1) (keysV (p k) ++ [.int .i64 x.1, .string x.2]))
    (hg : (w.alloc o).grownBy w6 (Value.slice (a k) (p k).length (c k)).ownBlock) (hat : (Value.slice (a k) (p k).length (c k)).ownBlock = some g ∨ g = (w.alloc o).heap.size) (hlt : g < w6.heap.size) :
    CutIn w0 (w6.setCell ⟨B, k, none⟩ (.slice (some ⟨g, 0, none⟩) ((p k).length + 1) cap)) B n (upF a k (some ⟨g, 0, none⟩)) (upF c k cap) (upF p k (p k ++ [x])) := by
  have hza : (w.alloc o).heap.size = w.heap.size + 1 := by simp
  have hz6 := hg.size
  have hlb := h.hi
  have old : ∀ q, q < w.heap.size → (∀ r, a k = some ⟨r, 0, none⟩ → q ≠ r) → w6.heap[q]? = w.heap[q]? := fun q hq hn =>
    (hg.block q (by omega) (fun e => hn q (mownb (h.own k hk) e) rfl)).trans (Below.heap_alloc _ _ _ (by omega))
  have ob := old B hlb (fun r e hq => (h.far k hk r e).1 hq.symm)
  have cb : ∀ i, w6.cell? ⟨B, i, none⟩ = w.cell? ⟨B, i, none⟩ := fun i => World.cell?_of_block (w := w) ob
  have gb : g ≠ B := by
    rcases hat with e | e
    · exact (h.far k hk g (mownb (h.own k hk) e.symm)).1
    · omega
  have gj : ∀ j, j < n → j ≠ k → a j ≠ some ⟨g, 0, none⟩ := fun j hj hjk e2 => by
    rcases hat with e | e
    · exact (h.far k hk g (mownb (h.own k hk) e.symm)).2 j hj hjk e2
    · have := ((h.own j hj).lt g (by rw [e2]; rfl)).2; omega
  have sz : ∀ v, (w6.setCell ⟨B, k, none⟩ v).heap.size = w6.heap.size := fun v => by simp [World.setCell]
  have hlen : (p k ++ [x]).length = (p k).length + 1 := by simp
  have hkv : keysV (p k ++ [x]) = keysV (p k) ++ [.int .i64 x.1, .string x.2] := keysV_snoc (p k) x
  have bel6 : Below w0.heap.size w0 (w.alloc o) := h.bel.alloc h.bel.size o
  refine ⟨fun j hj => ?_, fun j => ?_, fun j hj => ?_, fun j hj q hq => ?_, h.lo, by rw [sz]; omega, ?_⟩
  · by_cases e : j = k
    · subst e
      rw [upF_at, upF_at, upF_at, hlen]; exact cset_at ((cb j).trans (h.ce j hj))
    · rw [upF_ne _ _ e, upF_ne _ _ e, upF_ne _ _ e, cset_ne (fun x => e x.symm), cb]; exact h.ce j hj
  · rw [fset_any, World.frozen?_of_block (w := w) ob]; exact h.fz j
  · by_cases e : j = k
    · subst e
      rw [upF_at, upF_at, upF_at, hlen, hkv]
      exact mowns_block0 own (fun q hq => by injection hq with hq; injection hq with hq; subst hq; exact mheap_far gb)
    · rw [upF_ne _ _ e, upF_ne _ _ e, upF_ne _ _ e]
      refine mowns_block0 (h.own j hj) (fun r hr => ?_)
      rw [mheap_far (h.far j hj r hr).1]
      exact old r ((h.own j hj).lt r (by rw [hr]; rfl)).2 (fun q hq e2 => (h.far k hk q hq).2 j hj e (by rw [hr, e2]))
  · by_cases e : j = k
    · subst e
      rw [upF_at] at hq
      injection hq with hq; injection hq with hq; subst hq
      exact ⟨gb, fun i hi hij => by rw [upF_ne _ _ hij]; exact gj i hi hij⟩
    · rw [upF_ne _ _ e] at hq
      refine ⟨(h.far j hj q hq).1, fun i hi hij e2 => ?_⟩
      by_cases e3 : i = k
      · subst e3
        rw [upF_at] at e2
        injection e2 with e2; injection e2 with e2; subst e2
        exact gj j hj e hq
      · rw [upF_ne _ _ e3] at e2
        exact (h.far j hj q hq).2 i hi hij e2
  · refine (bel6.grown hg bel6.size fun q hq => ?_).setCell h.lo _
    exact ((h.own k hk).lt q hq).1
end Go.Proofs.Ytgghbgmeebihbaa
namespace Go.Proofs.Ytgghbgmeebihbaa
open Go.RowKit
set_option linter.unusedVariables false
set_option maxRecDepth 20000
def whoF (bs : List Nat) (m n i : Nat) : Nat := if i < m then bs.getD i 0 % n else 0
theorem whoF_lt {bs : List Nat} {m n i : Nat} (hn : 0 < n) : whoF bs m n i < n := by
  unfold whoF
  split
  · exact Nat.mod_lt _ hn
  · exact hn
def partT (A : List KV) (f : Nat → Nat) (j k : Nat) : List KV := ((List.range j).filter fun i => f i == k).map fun i => A.getD i k0
theorem partT_all (A : List KV) (f : Nat → Nat) : partT A f A.length = partF A f := by
  funext k
  unfold partT partF remF idxF
  rw [List.drop_zero]
theorem partT_len (A : List KV) (f : Nat → Nat) (j k : Nat) : (partT A f j k).length ≤ j := by
  unfold partT
  rw [List.length_map]
  exact Nat.le_trans (List.length_filter_le _ _) (by rw [List.length_range]; omega)
theorem partT_snoc (A : List KV) (f : Nat → Nat) (j : Nat) : partT A f (j + 1) = upF (partT A f j) (f j) (partT A f j (f j) ++ [A.getD j k0]) := by
  funext k
  unfold upF partT
  rw [List.range_succ, List.filter_append, List.map_append]
  by_cases e : k = f j
  · subst e
    rw [if_pos rfl, List.filter_cons_of_pos (by simp)]; rfl
  · rw [if_neg e, List.filter_cons_of_neg (by simpa using fun h => e h.symm)]
    simp
theorem items_info : (Try.prog.info? 34).map (fun i => (i.zero, i.size, i.bytes)) = some (some (.slice none 0 0), 1, 24) := by kernel_rfl
theorem item_info9 : (Try.prog.info? 61).map (fun i => (i.zero, i.size, i.bytes)) = some (some (.agg #[.int .i64 0, .string ⟨#[]⟩]), 2, 24) := by kernel_rfl
def CutP (w : World) (n : Nat) (p : Nat → List KV) (e : Ending) (w' : World) : Prop := ∃ B a c, e = .returned (.slice (some ⟨B, 0, none⟩) n n) ∧ CutIn w w' B n a c p
set_option maxHeartbeats 3200000 in
set_option maxRecDepth 20000 in
theorem cut_any (aa : Option Addr) (N ca : Nat) (A : List KV) (ba : Option Addr) (m cb : Nat) (bs : List Nat) (n : Nat) (w : World) (hA : HoldsK w aa N A) (hB : HoldsB w ba m bs) (hN : N ≤ 100000) (hm : m ≤ 9223372036854775807) (hn : 1 ≤ n ∧ n ≤ 6) :
    Calls Try.prog 28 #[.slice aa N ca, .slice ba m cb, .int .i64 n] w (CutP w n (partF A (whoF bs m n))) := by
  obtain ⟨i0, hi, hz0, hz1, hz2⟩ := info_parts items_info
  obtain ⟨i1, hi1, hy0, hy1, hy2⟩ := info_parts item_info9
  have HA := Lib.hid hA; have HB := Lib.hid hB
  have hAl := hA.1
  clear hA hB
  go_enter Try.func28, Try.ntmps28
  go_wp2_with (at_make; refine wpList_make_full _ rfl _ _ 53 rfl w.heap.size 34 i0 (.slice none 0 0) 1 Try.underlying53 hi hz0 hz1 _ _ _ _ n rfl rfl (by omega) (by omega) (by rw [hz2]; omega) (by unfold maxLen; omega) (Nat.le_refl _) ?_; intro w0 hown0 hgrow0)
  have hB0 := below_grown hgrow0 (by intro k hk; cases hk)
  have hc : ∀ i, i < n → w0.cell? ⟨w.heap.size, i, none⟩ = some (.slice none 0 0) := fun i hi => by
    have e : (madeCells (Value.slice none 0 0).cells (n * 1)).toList = List.replicate n (Value.slice none 0 0) := by rw [Nat.mul_one]; exact toList_madeCells_one _ n
    rw [hown0.cellAt i (by omega), e, List.getElem?_replicate, if_pos (by omega)]
  have hf : ∀ i, w0.frozen? ⟨w.heap.size, i, none⟩ = false := fun i => hown0.frozenAt i
  have hlt : w.heap.size < w0.heap.size := lt_of_cell (hc 0 (by omega))
  have C0 := Lib.hid (show CutIn w w0 w.heap.size n (fun _ => none) (fun _ => 0) (partT A (whoF bs m n) 0) from ⟨fun k hk => hc k hk, hf, fun k hk => World.ownsRow_nil _ _ _ _, fun k hk g hg => (by cases hg), Nat.le_refl _, hlt, hB0⟩)
  clear hown0 hgrow0 hB0 hc hf hlt
  go_wp2_with fail
  go_loopw [8] (fun iv wr => ∃ (j : Nat) (a : Nat → Option Addr) (c : Nat → Nat), iv = .int .i64 j ∧ j ≤ N ∧ Hid (CutIn w wr w.heap.size n a c (partT A (whoF bs m n) j))) (fun iv _ => N - (intOf iv).toNat)
  case atStart => exact ⟨0, _, _, rfl, by omega, C0⟩
  case round =>
    obtain ⟨j, a, c, rfl, hjN, hC⟩ := hrel
    by_cases hlt : j < N
    · obtain ⟨k, hk⟩ : ∃ k, whoF bs m n j = k := ⟨_, rfl⟩
      have hkn : k < n := by rw [← hk]; exact whoF_lt (by omega)
      obtain ⟨x, hx⟩ : ∃ x, A.getD j k0 = x := ⟨_, rfl⟩
      have hsn := partT_snoc A (whoF bs m n) j
      rw [hk, hx] at hsn
      have SN := Lib.hid hsn
      have hpl := partT_len A (whoF bs m n) j k
      obtain ⟨P, hP⟩ : ∃ P, partT A (whoF bs m n) j = P := ⟨_, rfl⟩
      rw [hP] at hC SN hpl
      have hbw := hC.out.bel
      obtain ⟨fb, fo, rfl, hc⟩ := (HA.out.below hbw).2 (by omega)
      obtain ⟨x0, x1⟩ := hc j hlt
      rw [hx] at x0 x1
      have K0 := hC.out.ce k hkn
      have i1' : (0 : Int) ≤ (j : Int) := by omega
      have i2' : (j : Int) < (N : Int) := by omega
      have k1' : (0 : Int) ≤ (k : Int) := by omega
      have k2' : (k : Int) < (n : Int) := by omega
      have CD := Lib.hid (hC.out.more (Below.refl _ _).drew)
      have OW := Lib.hid (CD.out.own k hkn)
      have AB := Lib.hid (show ∀ o w', (wr.drew.alloc o).grownBy w' (Value.slice (a k) (P k).length (c k)).ownBlock → w'.cell? ⟨w.heap.size, k, none⟩ = some (.slice (a k) (P k).length (c k)) ∧ w'.frozen? ⟨w.heap.size, k, none⟩ = false from fun o w' hg => by
        have ob := ((hg.block w.heap.size (Nat.lt_of_lt_of_le CD.out.hi (by simp)) (fun e => (CD.out.far k hkn w.heap.size (mownb OW.out e)).1 rfl)).trans (Below.heap_alloc _ _ _ CD.out.hi))
        exact ⟨(World.cell?_of_block (w := wr.drew) ob).trans (CD.out.ce k hkn), (World.frozen?_of_block (w := wr.drew) ob).trans (CD.out.fz k)⟩)
      have PL := Lib.hid hpl
      have LW := Lib.hid hC.out.bel.size
      rcases Nat.lt_or_ge j m with hjm | hjm
      · have hk2 : k = bs.getD j 0 % n := by rw [← hk]; unfold whoF; rw [if_pos hjm]
        obtain ⟨b2, o2, rfl, hcb⟩ := (HB.out.below hbw).at (by omega)
        have y0 := hcb j hjm
        have hb256 := getD_lt HB.out.2 j
        obtain ⟨bv, hbv⟩ : ∃ bv, bs.getD j 0 = bv := ⟨_, rfl⟩
        rw [hbv] at y0 hb256 hk2
        have e1 : IntKind.i64.wrap (bv : Int) = (bv : Int) := IntWalk.i64_in _ (by omega)
        have e2 : (bv : Int).tmod (n : Int) = (k : Int) := by rw [Int.tmod_eq_emod_of_nonneg (by omega), hk2]; rfl
        have e3 : IntKind.i64.wrap (k : Int) = (k : Int) := IntWalk.i64_in _ (by omega)
        have e4 : (n : Int) ≠ 0 := by omega
        have j2 : (j : Int) < (m : Int) := by omega
        clear hc hcb hk hbv hk2 hx hP
        go_upto_region 8 with fail
        have n1 : wr.drew.cell? ⟨w.heap.size, k, none⟩ = some (.slice (a k) (P k).length (c k)) := CD.out.ce k hkn
        have n2 : wr.drew.cell? ⟨fb, fo + j * 2, none⟩ = some (.int .i64 x.1) := x0
        have n3 : wr.drew.cell? ⟨fb, fo + j * 2 + 1, none⟩ = some (.string x.2) := x1
        have n4 : (wr.alloc (.cells #[.int .i64 x.1, .string x.2] 61)).drew.cell? ⟨w.heap.size, k, none⟩ = some (.slice (a k) (P k).length (c k)) := (Below.cell (below_one wr _) (p := ⟨w.heap.size, k, none⟩) (lt_of_cell K0)).trans K0
        have n5 : (wr.alloc (.cells #[.int .i64 x.1, .string x.2] 61)).cell? ⟨w.heap.size, k, none⟩ = some (.slice (a k) (P k).length (c k)) := n4
        go_region_law
          (refine step_append_lies _ (by rfl) _ _ _ (by rfl) w.heap.size 61 i1 _ 2 24 Try.underlying34 hi1 hy0 hy1 hy2 rfl (by omega) (.slice (a k) (P k).length (c k)) (P k).length (keysV (P k)) (by rfl) (OW.out.alloc _) ⟨wr.drew.heap.size, 0, none⟩ 1 1 [.int .i64 x.1, .string x.2] (by rfl) (by rfl) (World.news_of_block (cs := #[.int .i64 x.1, .string x.2]) (t := 61) (fr := (0, 0)) (heap_alloc_new wr.drew _)) (by simp [Value.oneCell']) (by omega) (by have := PL.out; unfold maxLen; omega) (by have := PL.out; omega) (by have := LW.out; simp; omega) (wr.drew.heap.size + 1) (by simp) ?_; intro g3 c3 w9 hown9 hgrow9 hat9 hlt9; obtain ⟨z0, z1⟩ := AB.out _ _ hgrow9)
        all_goals
          have C9 := Lib.hid (CD.out.step (x := x) hkn hown9 hgrow9 (hat9.imp id (fun e => by simp; exact e)) hlt9)
          rw [← SN.out] at C9
          clear hown9 hgrow9 hat9 hlt9 z0 z1 n1 n2 n3 n4 n5 x0 x1 K0
          go_wp2_with fail
          go_roundw
          case rel => exact ⟨j + 1, _, _, by go_num, by omega, C9⟩
          case measure => simp [intOf] <;> omega
      · have hk2 : k = 0 := by rw [← hk]; unfold whoF; rw [if_neg (by omega)]
        subst hk2
        clear hc hk hx hP
        go_upto_region 8 with fail
        have n1 : wr.drew.cell? ⟨w.heap.size, 0, none⟩ = some (.slice (a 0) (P 0).length (c 0)) := CD.out.ce 0 hkn
        have n2 : wr.drew.cell? ⟨fb, fo + j * 2, none⟩ = some (.int .i64 x.1) := x0
        have n3 : wr.drew.cell? ⟨fb, fo + j * 2 + 1, none⟩ = some (.string x.2) := x1
        have n4 : (wr.alloc (.cells #[.int .i64 x.1, .string x.2] 61)).drew.cell? ⟨w.heap.size, 0, none⟩ = some (.slice (a 0) (P 0).length (c 0)) := (Below.cell (below_one wr _) (p := ⟨w.heap.size, 0, none⟩) (lt_of_cell K0)).trans K0
        have n5 : (wr.alloc (.cells #[.int .i64 x.1, .string x.2] 61)).cell? ⟨w.heap.size, 0, none⟩ = some (.slice (a 0) (P 0).length (c 0)) := n4
        go_region_law
          (refine step_append_lies _ (by rfl) _ _ _ (by rfl) w.heap.size 61 i1 _ 2 24 Try.underlying34 hi1 hy0 hy1 hy2 rfl (by omega) (.slice (a 0) (P 0).length (c 0)) (P 0).length (keysV (P 0)) (by rfl) (OW.out.alloc _) ⟨wr.drew.heap.size, 0, none⟩ 1 1 [.int .i64 x.1, .string x.2] (by rfl) (by rfl) (World.news_of_block (cs := #[.int .i64 x.1, .string x.2]) (t := 61) (fr := (0, 0)) (heap_alloc_new wr.drew _)) (by simp [Value.oneCell']) (by omega) (by have := PL.out; unfold maxLen; omega) (by have := PL.out; omega) (by have := LW.out; simp; omega) (wr.drew.heap.size + 1) (by simp) ?_; intro g3 c3 w9 hown9 hgrow9 hat9 hlt9; obtain ⟨z0, z1⟩ := AB.out _ _ hgrow9)
        all_goals
          have C9 := Lib.hid (CD.out.step (x := x) hkn hown9 hgrow9 (hat9.imp id (fun e => by simp; exact e)) hlt9)
          rw [← SN.out] at C9
          clear hown9 hgrow9 hat9 hlt9 z0 z1 n1 n2 n3 n4 n5 x0 x1 K0
          go_wp2_with fail
          go_roundw
          case rel => exact ⟨j + 1, _, _, by go_num, by omega, C9⟩
          case measure => simp [intOf] <;> omega
    · obtain rfl : j = N := by omega
      go_wp2_with fail
      go_ret
      rw [← hAl, partT_all] at hC
      exact ⟨_, _, _, rfl, hC.out⟩
end Go.Proofs.Ytgghbgmeebihbaa
namespace Go.Proofs.Ytgghbgmeebihbaa
open Go.RowKit
set_option linter.unusedVariables false
set_option maxRecDepth 20000
theorem rowCellsB {w : World} {base : Nat} {e : TypeId} {size : Nat} {a : Option Addr} {n c : Nat} {xs : List Value} (h : w.ownsRow base e size (.slice a n c) n xs) : (a = none → n = 0 ∧ c = 0) ∧ ∀ ad, a = some ad → ∀ j u, xs[j]? = some u → w.cell? (ad.add j) = some u := by
  rcases Joins.ownsRow_forms h with ⟨e1, h0⟩ | ⟨g, cap, e1⟩
  · injection e1 with e2 e3 e4
    subst e2
    exact ⟨fun _ => ⟨h0, e4⟩, fun ad h => (by cases h)⟩
  · injection e1 with e2 e3 e4
    subst e2
    refine ⟨fun h => (by cases h), fun ad had j u hu => ?_⟩
    injection had with had
    subst had
    have hj := (List.getElem?_eq_some_iff.1 hu).1
    rw [Go.WideShapes.add_plain, Nat.zero_add, h.cellAt j (by have := h.1; omega), hu]
end Go.Proofs.Ytgghbgmeebihbaa
namespace Go.Proofs.Ytgghbgmeebihbaa
open Go.RowKit
set_option linter.unusedVariables false
set_option maxRecDepth 20000
/-- 'append(v, x...)', x whatever slice: where what comes of it lies -/
theorem wpList_append_where {P : Program} {w : World} {ops : Array Oper} {rest : List Oper} {o : Oper} {a : Act} {Q : Exit → Act → World → Prop} (hgd : o.guard = none) (s x : Operand) (t : TypeId)
    (ho : o.op = .call { callee := .builtin .append, args := #[s, x], argTypes := #[t, t] })
    (base : Nat) (e : TypeId) (i : TypeInfo) (z : Value) (size bytes : Nat) (ht : P.underlying t = some (.slice e)) (hi : P.info? e = some i) (hz : i.zero = some z)
    (hsize : i.size = size) (hby : i.bytes = bytes) (hzs : z.cells.size = size) (hsz : 0 < size)
    (v : Value) (n : Nat) (xs : List Value) (hs : a.eval s = v) (hown : w.ownsRow base e size v n xs)
    (ao : Option Addr) (m c : Nat) (news : List Value) (hx : a.eval x = .slice ao m c) (hnone : ao = none → m = 0 ∧ c = 0) (hl : news.length = m * size)
    (hnews : ∀ ad, ao = some ad → ∀ j u, news[j]? = some u → w.cell? (ad.add j) = some u) (h1 : ∀ u ∈ news, u.oneCell' = true)
    (h63 : n + m ≤ maxLen) (hbytes : (n + m) * bytes ≤ 140737488355328) (hbase : base ≤ w.heap.size) (r : Nat) (ys : List Value) (hr : n + m = r) (hy : xs ++ news = ys)
    (h : ∀ a' c' w', w'.ownsRow base e size (.slice a' r c') r ys → w.grownBy w' v.ownBlock → (∀ g, a' = some ⟨g, 0, none⟩ → v.ownBlock = some g ∨ w.heap.size ≤ g) → wpList P ops Q rest (a.put o.dst (.slice a' r c')) w') : wpList P ops Q (o :: rest) a w := by
  subst hr hy
  refine wpList_plain hgd fun K hK => ?_
  have fin : ∀ v' w', w'.ownsRow base e size v' (n + m) (xs ++ news) → w.grownBy w' v.ownBlock → (v'.ownBlock = v.ownBlock ∨ v'.ownBlock = some w.heap.size) → K (a.put o.dst v') w' := by
    intro v' w' ho' hg hat
    refine hK _ _ ?_
    rcases Joins.ownsRow_forms ho' with ⟨rfl, h0⟩ | ⟨g, cap, rfl⟩
    · have := h none 0 w' (by rw [h0] at ho' ⊢; exact ho') hg (fun g hg => by cases hg)
      rw [h0] at this
      exact this
    · refine h _ _ w' ho' hg (fun q hq => ?_)
      injection hq with hq; injection hq with hq; subst hq
      rcases hat with e | e
      · exact Or.inl (by rw [← e]; rfl)
      · right
        have : g = w.heap.size := by simpa [Value.ownBlock] using e
        omega
  cases ao with
  | some ad =>
    obtain ⟨v', w', hr, h2, h3, _, h5⟩ := run_append_own_at (P := P) w base t o.type e i z size bytes ht hi hz hsize hby hzs hsz v n xs hown ad m c news hl (hnews ad rfl) h1 h63 hbytes hbase
    unfold Oper.wp execOp
    simp only [ho, resolve, invoke, builtin, Sem.run_bind, Sem.run_pure, Result.andThen_ok, List.map_toArray, List.map_cons, List.map_nil, hs, hx, hr]
    exact fin v' w' h2 h3 h5
  | none =>
    obtain ⟨rfl, rfl⟩ := hnone rfl
    have hn : news = [] := List.eq_nil_of_length_eq_zero (by simpa using hl)
    subst hn
    have hrun := run_append_owned_none (P := P) w base t o.type e i size ht hi v n xs hown
    unfold Oper.wp
    simp [execOp, ho, resolve, invoke, builtin, hs, hx, hrun, Result.andThen]
    exact fin v w (by simpa using hown) ⟨rfl, rfl, rfl, Nat.le_refl _, fun _ _ _ => rfl⟩ (Or.inl rfl)
/-- what was told so far, and how much of each shard was sent -/
structure ToldIn (w0 w : World) (q : Nat) (ta : Option Addr) (tc : Nat) (T : List KV) (ats : Nat → Nat) (S : Nat → Prop) : Prop where
  o : w.ownsRow w0.heap.size 61 2 (.slice ta T.length tc) T.length (keysV T)
  a : ∀ g, ta = some ⟨g, 0, none⟩ → ¬ S g ∧ g ≠ q
  qs : ¬ S q
  c : ∀ j, j < 6 → w.cell? ⟨q, j, none⟩ = some (.int .i64 (ats j : Int))
  f : ∀ j, w.frozen? ⟨q, j, none⟩ = false
  lo : w0.heap.size ≤ q
  hi : q < w.heap.size
theorem ToldIn.more {w0 w w' : World} {q : Nat} {ta : Option Addr} {tc : Nat} {T : List KV} {ats : Nat → Nat} {S : Nat → Prop} (h : ToldIn w0 w q ta tc T ats S) (hb : Below w.heap.size w w') : ToldIn w0 w' q ta tc T ats S :=
  ⟨owns_below h.o hb, h.a, h.qs, fun j hj => (hb.cell (p := ⟨q, j, none⟩) h.hi).trans (h.c j hj), fun j => (hb.frozen (p := ⟨q, j, none⟩) h.hi).trans (h.f j), h.lo, Nat.lt_of_lt_of_le h.hi hb.size⟩
theorem ToldIn.turn {w0 w w' : World} {q : Nat} {ta : Option Addr} {tc : Nat} {T : List KV} {ats : Nat → Nat} {S S' : Nat → Prop} (h : ToldIn w0 w q ta tc T ats S) (t : Turn S w w') (hs : ∀ k, S' k → S k ∨ w.heap.size ≤ k) : ToldIn w0 w' q ta tc T ats S' := by
  refine ⟨mowns_block0 h.o (fun g hg => t.block g (h.o.lt g (by rw [hg]; rfl)).2 (h.a g hg).1), fun g hg => ⟨fun x => ?_, (h.a g hg).2⟩, fun x => ?_, fun j hj => (t.cell h.hi h.qs).trans (h.c j hj), fun j => (t.frozen h.hi h.qs).trans (h.f j), h.lo, Nat.lt_of_lt_of_le h.hi t.size⟩
  · rcases hs g x with x | x
    · exact (h.a g hg).1 x
    · have := (h.o.lt g (by rw [hg]; rfl)).2; omega
  · rcases hs q x with x | x
    · exact h.qs x
    · have := h.hi; omega
/-- a cell of what was sent is set -/
theorem ToldIn.sent {w0 w : World} {q k : Nat} {ta : Option Addr} {tc : Nat} {T : List KV} {ats : Nat → Nat} {S : Nat → Prop} {v : Int} {m : Nat} (h : ToldIn w0 w q ta tc T ats S) (hk : k < 6) (hv : v = ((ats k + m : Nat) : Int)) : ToldIn w0 (w.setCell ⟨q, k, none⟩ (.int .i64 v)) q ta tc T (fun j => if j = k then ats k + m else ats j) S := by
  refine ⟨mowns_block0 h.o (fun g hg => mheap_far (h.a g hg).2), h.a, h.qs, fun j hj => ?_, fun j => by rw [fset_any]; exact h.f j, h.lo, by simp [World.setCell]; exact h.hi⟩
  by_cases e : j = k
  · subst e
    rw [if_pos rfl, ← hv]; exact cset_at (h.c j hj)
  · rw [if_neg e, cset_ne (fun x => e x.symm)]; exact h.c j hj
theorem CtxM.set {w0 w : World} {b q k : Nat} {most : Int} {T : List KV} {P : List SM} {S : Nat → Prop} {v : Value} (h : CtxM w0 w b most T P S) (hq : ¬ S q) (hlo : w0.heap.size ≤ q) : CtxM w0 (w.setCell ⟨q, k, none⟩ v) b most T P S :=
  h.turn (Turn.setCell (F := fun i => i = q) rfl) (fun i hi e => hq (by rw [← e]; exact hi)) (fun i e => by rw [e]; exact hlo)
/-- appended to what was told -/
theorem told_more {w0 w w' : World} {b q : Nat} {most : Int} {T0 T out : List KV} {P : List SM} {ta a' : Option Addr} {tc c' : Nat} {ats : Nat → Nat} {S : Nat → Prop} (hc : CtxM w0 w b most T0 P S) (h : ToldIn w0 w q ta tc T ats S)
    (ho : w'.ownsRow w0.heap.size 61 2 (.slice a' (T ++ out).length c') (T ++ out).length (keysV (T ++ out))) (hg : w.grownBy w' (Value.slice ta T.length tc).ownBlock)
    (hat : ∀ g, a' = some ⟨g, 0, none⟩ → (Value.slice ta T.length tc).ownBlock = some g ∨ w.heap.size ≤ g) : CtxM w0 w' b most T0 P S ∧ ToldIn w0 w' q a' c' (T ++ out) ats S := by
  have t : Turn (fun i => (Value.slice ta T.length tc).ownBlock = some i) w w' := ⟨hg.os, hg.tape, hg.output, hg.size, fun i hi hn => hg.block i hi (fun e => hn e.symm)⟩
  have own : ∀ i, (Value.slice ta T.length tc).ownBlock = some i → ta = some ⟨i, 0, none⟩ := fun i e => mownb h.o e.symm
  have hq : ¬ (Value.slice ta T.length tc).ownBlock = some q := fun e => (h.a q (own q e)).2 rfl
  refine ⟨hc.turn t (fun i hi e => (h.a i (own i e)).1 hi) (fun i e => (h.o.lt i e).1), ⟨?_, fun g e => ?_, h.qs, fun j hj => (t.cell h.hi hq).trans (h.c j hj), fun j => (t.frozen h.hi hq).trans (h.f j), h.lo, Nat.lt_of_lt_of_le h.hi hg.size⟩⟩
  · exact ho
  · rcases hat g e with x | x
    · exact h.a g (own g x)
    · exact ⟨fun y => by have := hc.lt g y; omega, by have := h.hi; omega⟩
end Go.Proofs.Ytgghbgmeebihbaa
namespace Go.Proofs.Ytgghbgmeebihbaa
open Go.ChangeShapes Go.WideShapes Go.ChangeAt Go.RowKit
set_option linter.unusedVariables false
set_option maxRecDepth 20000
theorem Try.cellsStr : Try.prog.cellsOf 9 = 1 := by kernel_rfl
theorem open_texts_arg {H : Type} {enc : TypeId × Value → H} {W : World} {base : Nat} {v : Value} {d : DataW H} {p : List MemPlace}
    (o : Value.okWide Try.prog W .any base 44 v) (h : DataW.Trod enc Try.prog W 0 (fun _ => true) true 44 v d p) :
    ∃ a n cap ts, v = .slice a n cap ∧ HoldsT W a n ts ∧ (a = none → n = 0 ∧ cap = 0) ∧ n ≤ cap ∧ n ≤ 9223372036854775807 ∧ ∀ t ∈ ts, t.size ≤ 9223372036854775807 := by
  obtain ⟨a, len, cap, rfl⟩ := okWide_slice Try.underlying44 o
  obtain ⟨fuel, hf⟩ := h
  rcases open_strings Try.underlying44 Try.underlying9 Try.cellsStr hf with ⟨hcs, _⟩ | ⟨x, l, c, ss, hcs, _, hl, hm, hz, _, hcell, hsz⟩
  · simp [Value.cells] at hcs
    obtain ⟨rfl, rfl, rfl⟩ := hcs
    exact ⟨none, 0, 0, [], rfl, HoldsT.nil _ _, fun _ => ⟨rfl, rfl⟩, Nat.le_refl _, by omega, by simp⟩
  · simp [Value.cells] at hcs
    obtain ⟨rfl, rfl, rfl⟩ := hcs
    have hzc : ss.length = cap := by simpa using hz
    refine ⟨some x, len, cap, ss.take len, rfl, ?_, (fun h => by cases h), hl, by unfold maxLen at hm; omega, fun t ht => by have := hsz t (List.mem_of_mem_take ht); unfold maxLen at this; omega⟩
    refine ⟨by simp [strsV]; omega, fun h0 => ?_⟩
    obtain ⟨b, off, spot⟩ := x
    have hspot : spot = none := by simpa [Addr.add] using World.cell?_spot (hcell 0 (by omega))
    subst hspot
    refine ⟨b, off, rfl, fun i hi => ?_⟩
    rw [← Go.WideShapes.add_plain, hcell i (by omega), getD_map_str _ i (by simp; omega)]
    congr 2
    simp only [List.getD_eq_getElem?_getD, List.getElem?_take]
    rw [if_pos hi]
end Go.Proofs.Ytgghbgmeebihbaa
namespace Go.Proofs.Ytgghbgmeebihbaa
open Go.RowKit
set_option linter.unusedVariables false
set_option maxRecDepth 20000
def RetJ (w : World) (n : Nat) (ys : List KV) (e : Ending) (w' : World) : Prop := ∃ a c, e = .returned (.slice a n c) ∧ w'.ownsRow w.heap.size 61 2 (.slice a n c) n (keysV ys) ∧ Below w.heap.size w w'
theorem RetI.j {w w' : World} {ys : List KV} {e : Ending} {n : Nat} (h : RetI w ys e w') (hn : ys.length = n) : RetJ w n ys e w' := by subst hn; exact h
theorem all_lit (a : Option Addr) (n cap L : Nat) (ws : List Tx) (s : Tx) (k : Int) (ys : List KV) (w : World) (hh : HoldsT w a n ws) (hn : n ≤ 50000) (hl : ∀ t ∈ ws, t.size ≤ 1048576) (hs : s.size ≤ 1048576) (hy : allK ws s k = ys) (hL : ys.length = L) :
    Calls Try.prog 27 #[.slice a n cap, .string s, .int .i64 k] w (RetJ w L ys) := by subst hy; exact (rankAll_any a n cap ws s k w hh hn hl hs).mono fun _ _ h => h.j hL
def Box3q (w0 : World) (p : Nat) (v0 v1 v2 : Value) (w : World) : Prop := Below w0.heap.size w0 w ∧ w.cell? ⟨p, 0, none⟩ = some v0 ∧ w.cell? ⟨p, 1, none⟩ = some v1 ∧ w.cell? ⟨p, 2, none⟩ = some v2
theorem box3q_carry {w0 w w' : World} {p : Nat} {v0 v1 v2 : Value} (h : Box3q w0 p v0 v1 v2 w) (hb : Below w.heap.size w w') : Box3q w0 p v0 v1 v2 w' :=
  ⟨h.1.trans (hb.mono h.1.size), by rw [hb.cell (p := ⟨p, 0, none⟩) (lt_of_cell h.2.1)]; exact h.2.1, by rw [hb.cell (p := ⟨p, 1, none⟩) (lt_of_cell h.2.1)]; exact h.2.2.1, by rw [hb.cell (p := ⟨p, 2, none⟩) (lt_of_cell h.2.1)]; exact h.2.2.2⟩
open Go.ChangeShapes Go.WideShapes Go.ChangeAt in
theorem query_arg {H : Type} {enc : TypeId × Value → H} {w : World} {base : Nat} {spare : Nat → Bool} {held : Bool} {r : Reach} {b0 : Nat} {v : Value} {d : DataW H} {p : List MemPlace}
    (hv : Value.okWide Try.prog w r b0 46 v) (h : DataW.Trod enc Try.prog w base spare held 46 v d p) :
    ∃ t k n, t.size ≤ 9223372036854775807 ∧ (Lit.int .i64 k).wf = true ∧ (Lit.int .i64 n).wf = true ∧ v = .agg #[.string t, .int .i64 k, .int .i64 n] := by
  obtain ⟨cs, rfl, hsz⟩ := okWide_struct Try.underlying46 hv
  obtain ⟨fuel, hf⟩ := h
  obtain ⟨hl, n, hf2⟩ := struct_cells Try.underlying46 hf
  rw [show Try.prog.cellsOf 46 = 3 by kernel_rfl] at hl
  obtain ⟨c0, c1, c2, hcs⟩ := list3 hl
  rw [hcs] at hf2
  obtain ⟨y0, z0⟩ := hf2 0 _ rfl
  obtain ⟨y1, z1⟩ := hf2 1 _ rfl
  obtain ⟨y2, z2⟩ := hf2 2 _ rfl
  obtain ⟨s, hs, _, b0⟩ := DataW.trod_string Try.underlying9 z0
  obtain ⟨k1, h1, _, b1⟩ := DataW.trod_int Try.underlying3 z1
  obtain ⟨k2, h2, _, b2⟩ := DataW.trod_int Try.underlying3 z2
  simp [cellsK_int, cellsK_str] at hs h1 h2
  subst hs h1 h2
  refine ⟨s, k1, k2, by unfold maxLen at b0; exact b0, b1, b2, ?_⟩
  congr 1
  apply Array.toList_inj.1
  simpa [Value.cells] using hcs
end Go.Proofs.Ytgghbgmeebihbaa
namespace Go.Proofs.Ytgghbgmeebihbaa
open Go.RowKit
set_option linter.unusedVariables false
set_option maxRecDepth 20000
theorem word_any (s : ByteArray) (w : World) (hs : s.size ≤ 9223372036854775807) :
    Calls Try.prog 52 #[.string s] w fun e w' => e = .returned (.bool (decide (1 ≤ lenS s ∧ lenS s ≤ 12))) ∧ Below w.heap.size w w' := by
  have h1 := Lib.hid (len_any s w hs)
  obtain ⟨n, hn⟩ : ∃ n, lenS s = n := ⟨_, rfl⟩
  rw [hn] at h1 ⊢
  clear hn
  have hc : n < 1 ∨ (1 ≤ n ∧ n ≤ 12) ∨ (1 ≤ n ∧ 12 < n) := by omega
  rcases hc with h | ⟨h, h2⟩ | ⟨h, h2⟩
  · rw [decide_eq_false (by omega)]
    go_enter Try.func52, Try.ntmps52
    go_wp2_with fail
    refine h1.out.mono ?_
    rintro e w' ⟨rfl, hb⟩
    go_wp2_with fail
    go_ret
    exact ⟨rfl, hb⟩
  · rw [decide_eq_true (by omega)]
    have x1 : decide (n ≤ 12) = true := by simpa using h2
    go_enter Try.func52, Try.ntmps52
    go_wp2_with fail
    refine h1.out.mono ?_
    rintro e w' ⟨rfl, hb⟩
    go_wp2_with fail
    go_ret
    exact ⟨ret_bool (by simp [*]), hb⟩
  · rw [decide_eq_false (by omega)]
    have x1 : decide (n ≤ 12) = false := by simpa using h2
    go_enter Try.func52, Try.ntmps52
    go_wp2_with fail
    refine h1.out.mono ?_
    rintro e w' ⟨rfl, hb⟩
    go_wp2_with fail
    go_ret
    exact ⟨ret_bool (by simp [*]), hb⟩
end Go.Proofs.Ytgghbgmeebihbaa
namespace Go.Proofs.Ytgghbgmeebihbaa
open Go.RowKit
set_option linter.unusedVariables false
set_option maxRecDepth 20000
theorem goodV_long {ts : List Tx} (h : 60 < ts.length) : goodV ts = 3 := by unfold goodV; rw [if_pos h]
theorem goodV_word {ts : List Tx} (h : ts.length ≤ 60) (t : Tx) (ht : t ∈ ts) (hw : ¬ wordP t) : goodV ts = 6 := by
  unfold goodV; rw [if_neg (by omega), if_pos ⟨t, ht, hw⟩]
theorem goodV_sort {ts : List Tx} (h : ts.length ≤ 60) (hw : ∀ t ∈ ts, wordP t) (hs : ¬ SortedS ts) : goodV ts = 7 := by
  unfold goodV; rw [if_neg (by omega), if_neg (fun ⟨t, ht, k⟩ => k (hw t ht)), if_neg hs]
theorem goodV_good {ts : List Tx} (h : ts.length ≤ 60) (hw : ∀ t ∈ ts, wordP t) (hs : SortedS ts) : goodV ts = 0 := by
  unfold goodV; rw [if_neg (by omega), if_neg (fun ⟨t, ht, k⟩ => k (hw t ht)), if_pos hs]
theorem word_bool {w : World} (s : Tx) (b : Bool) (hs : s.size ≤ 9223372036854775807) (hb : decide (wordP s) = b) :
    Calls Try.prog 52 #[.string s] w fun e w' => e = .returned (.bool b) ∧ Below w.heap.size w w' := by subst hb; exact word_any s w hs
set_option maxHeartbeats 1600000 in
theorem good_any' (a : Option Addr) (n cap : Nat) (ts : List Tx) (w : World) (hh : HoldsT w a n ts) (hn : n ≤ 9223372036854775807) (hsz : ∀ t ∈ ts, t.size ≤ 9223372036854775807) :
    Calls Try.prog 25 #[.slice a n cap] w fun e w' => e = .returned (.int .i64 (goodV ts)) ∧ Below w.heap.size w w' := by
  have hl := hh.len
  by_cases h60 : n ≤ 60
  case neg =>
    rw [goodV_long (by omega)]
    go_enter Try.func25, Try.ntmps25
    go_wp2_with fail
    go_ret
    exact ⟨rfl, Below.refl _ _⟩
  go_enter Try.func25, Try.ntmps25
  go_wp2_with fail
  go_loopw [11] (fun iv wr => ∃ j : Nat, j ≤ n ∧ iv = .int .i64 j ∧ Hid (∀ t ∈ ts.take j, wordP t) ∧ Hid (Below w.heap.size w wr)) (fun iv _ => n - (intOf iv).toNat)
  case atStart => exact ⟨0, by omega, rfl, Lib.hid (by simp), Lib.hid (Below.refl _ _)⟩
  case round =>
    obtain ⟨j, hj, rfl, hS, hB⟩ := hrel
    by_cases hlt : j < n
    · obtain ⟨b, o, rfl, hc⟩ := (hh.below hB.out).at (by omega)
      have e1 := hc j hlt
      have hmem := getD_memT ts j (by omega)
      have htk := take_succ_getD ts ByteArray.empty j (by omega)
      obtain ⟨x, hx⟩ : ∃ x, ts.getD j ByteArray.empty = x := ⟨_, rfl⟩
      rw [hx] at e1 hmem htk
      have HX := Lib.hid (hsz x hmem)
      have HM := Lib.hid hmem; have HT := Lib.hid htk
      clear hx hmem htk hc
      by_cases hw : wordP x
      · have hb := decide_eq_true hw
        have HW := Lib.hid hw; have HD := Lib.hid hb
        clear hw hb
        go_wp2_with fail
        refine (word_bool x true HX.out HD.out).mono ?_
        rintro e w2 ⟨rfl, hb2⟩
        go_wp2_with fail
        go_roundw
        case rel => exact ⟨j + 1, by omega, by go_num, Lib.hid (by rw [HT.out]; intro z hz; rcases List.mem_append.1 hz with hz | hz; exact hS.out z hz; simp at hz; rw [hz]; exact HW.out), Lib.hid (hB.out.trans (hb2.mono hB.out.size))⟩
        case measure => simp [intOf]; omega
      · have hb := decide_eq_false hw
        have hg := goodV_word (by omega) x HM.out hw
        have HD := Lib.hid hb; have HG := Lib.hid hg
        clear hw hb hg
        go_wp2_with fail
        refine (word_bool x false HX.out HD.out).mono ?_
        rintro e w2 ⟨rfl, hb2⟩
        go_wp2_with fail
        go_ret
        exact ⟨ret_int HG.out.symm, hB.out.trans (hb2.mono hB.out.size)⟩
    · have hjn : ts.take j = ts := List.take_of_length_le (by omega)
      have hwd := hS.out
      rw [hjn] at hwd
      have HW := Lib.hid hwd
      have hB1 := hB
      clear hjn hwd hS hB
      go_wp2_with fail
      go_loopw [5] (fun iv wr2 => ∃ i : Nat, 1 ≤ i ∧ i ≤ n + 1 ∧ iv = .int .i64 i ∧ Hid (∀ k, k + 1 < i → k + 1 < n → cmpS (ts.getD k ByteArray.empty) (ts.getD (k + 1) ByteArray.empty) < 0) ∧ Hid (Below w.heap.size w wr2)) (fun iv _ => n + 1 - (intOf iv).toNat)
      case atStart => exact ⟨1, by omega, by omega, rfl, Lib.hid (fun k h1 => by omega), hB1⟩
      case round =>
        obtain ⟨i, hi1, hi2, rfl, hS, hB⟩ := hrel
        by_cases hlt2 : i < n
        · obtain ⟨b, o, rfl, hc⟩ := (hh.below hB.out).at (by omega)
          have e1 := hc i hlt2
          have e2 := hc (i - 1) (by omega)
          have hci := hS.out
          obtain ⟨q, rfl⟩ : ∃ q, i = q + 1 := ⟨i - 1, by omega⟩
          simp only [Nat.add_sub_cancel] at e2
          obtain ⟨x, hx⟩ : ∃ x, ts.getD q ByteArray.empty = x := ⟨_, rfl⟩
          obtain ⟨y, hy⟩ : ∃ y, ts.getD (q + 1) ByteArray.empty = y := ⟨_, rfl⟩
          rw [hx] at e2; rw [hy] at e1
          have HX := Lib.hid hx; have HY := Lib.hid hy
          clear hx hy hc hci
          have hcmp := Lib.hid (fun w => compare_any x y w)
          have hbd := cmpS_bd x y
          obtain ⟨v, hv⟩ : ∃ v, cmpS x y = v := ⟨_, rfl⟩
          rw [hv] at hbd
          simp only [hv] at hcmp
          have HV := Lib.hid hv
          clear hv
          have hr : IntKind.i64.wrap (((q + 1 : Nat) : Int) - 1) = (q : Int) := by rw [IntWalk.i64_in _ (by omega)]; omega
          have hr2 : ((q + 1 : Nat) : Int) - 1 = (q : Int) := by omega
          have g1 : (q : Int) < (n : Int) := by omega
          have g2 : ((q + 1 : Nat) : Int) < (n : Int) := by omega
          by_cases hvn : v < 0
          · go_upto_region 12 with fail
            go_quiet ((go_at_call 53; exact Calls.quiet_of_same ((hcmp.out _).mono (fun _ _ h => ⟨h.1, h.2.symm⟩))))
            go_wp2_with fail
            go_roundw
            case rel =>
              refine ⟨q + 1 + 1, by omega, by omega, by go_num, Lib.hid (fun k h1 h2 => ?_), Lib.hid (hB.out.trans ((below_drewN _ _).mono hB.out.size))⟩
              by_cases hk : k = q
              · subst hk; rw [HX.out, HY.out, HV.out]; exact hvn
              · exact hS.out k (by omega) h2
            case measure => simp [intOf]; omega
          · have hg := goodV_sort (by omega) HW.out (fun hs => hvn (by have := (adj_iff ts).1 hs q (by omega); rw [HX.out, HY.out, HV.out] at this; exact this))
            have HG := Lib.hid hg
            clear hg
            go_upto_region 12 with fail
            go_quiet ((go_at_call 53; exact Calls.quiet_of_same ((hcmp.out _).mono (fun _ _ h => ⟨h.1, h.2.symm⟩))))
            go_wp2_with fail
            go_ret
            exact ⟨ret_int HG.out.symm, hB.out.trans ((below_drewN _ _).mono hB.out.size)⟩
        · have hg := goodV_good (by omega) HW.out ((adj_iff ts).2 fun k hk => hS.out k (by omega) (by omega))
          have HG := Lib.hid hg
          clear hg
          go_wp2_with fail
          go_ret
          exact ⟨ret_int HG.out.symm, hB.out⟩
end Go.Proofs.Ytgghbgmeebihbaa
namespace Go.Proofs.Ytgghbgmeebihbaa
open Go.ChangeShapes Go.WideShapes Go.ChangeAt Go.RowKit
set_option linter.unusedVariables false
set_option maxRecDepth 20000
theorem Try.cellsU8 : Try.prog.cellsOf 5 = 1 := by kernel_rfl
theorem open_bytes_arg {H : Type} {enc : TypeId × Value → H} {W : World} {base : Nat} {v : Value} {d : DataW H} {p : List MemPlace}
    (o : Value.okWide Try.prog W .any base 47 v) (h : DataW.Trod enc Try.prog W 0 (fun _ => true) true 47 v d p) :
    ∃ a n cap bs, v = .slice a n cap ∧ HoldsB W a n bs ∧ (a = none → n = 0 ∧ cap = 0) ∧ n ≤ cap ∧ cap ≤ maxLen := by
  obtain ⟨a, n, cap, zs, rfl, hh, hnil, h1, h2, hw⟩ := open_ints_arg Try.underlying47 Try.underlying5 Try.cellsU8 o h
  have hz : (zs.map Int.toNat).map (fun b : Nat => (b : Int)) = zs := by
    rw [List.map_map]
    conv => rhs; rw [← List.map_id zs]
    refine List.map_congr_left fun z hz => ?_
    have := u8_of_wf (hw z hz)
    simp; omega
  refine ⟨a, n, cap, zs.map Int.toNat, rfl, ⟨by rw [hz]; exact hh, fun b hb => ?_⟩, hnil, h1, h2⟩
  obtain ⟨z, hz, rfl⟩ := List.mem_map.1 hb
  have := u8_of_wf (hw z hz)
  omega
end Go.Proofs.Ytgghbgmeebihbaa
