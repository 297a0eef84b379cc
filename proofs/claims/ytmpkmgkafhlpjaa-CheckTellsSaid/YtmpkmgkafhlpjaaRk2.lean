/- slices.Clone and slices.SortFunc at items -/
import Derived.Test.YtmpkmgkafhlpjaaRk1
import Derived.Test.YtmpkmgkafhlpjaaRk3
import Derived.Shelf.SlSortCmp.NoneTotal
import Derived.Ground.SlsfProg
import Derived.Sort.OwnSorted
namespace Go.Proofs.Ytmpkmgkafhlpjaa
open Go.Shelf Go.RowKit
def Try.sortI_ren : Go.Shelf.Ren := ⟨fun | 6 => 30 | 15 => 39 | 14 => 38 | 28 => 57 | 29 => 58 | 20 => 49 | 21 => 50 | 22 => 51 | 23 => 52 | 24 => 53 | 25 => 54 | 26 => 55 | 27 => 56 | 46 => 67 | 47 => 68 | 48 => 69 | 49 => 70 | 50 => 71 | 57 => 76 | n => n, fun | 22 => 25 | 24 => 36 | 25 => 48 | 3 => 3 | 39 => 43 | 0 => 0 | 53 => 70 | 55 => 72 | 4 => 4 | 46 => 64 | 45 => 63 | 50 => 45 | 5 => 5 | 9 => 9 | 66 => 82 | 70 => 86 | 76 => 92 | 77 => 93 | n => n, fun | n => n⟩
theorem Try.sortI : Go.Proofs.SlLaysF0.n6 Try.prog Try.sortI_ren := {
  mixed := by kernel_rfl
  f6 := ⟨Try.f30.name, by decide, Try.func30.trans (congrArg some (by kernel_rfl))⟩
  f14 := ⟨Try.f38.name, by decide, Try.func38.trans (congrArg some (by kernel_rfl))⟩
  f15 := Try.func39.trans (congrArg some (by kernel_rfl))
  f20 := ⟨Try.f49.name, by decide, Try.func49.trans (congrArg some (by kernel_rfl))⟩
  f21 := ⟨Try.f50.name, by decide, Try.func50.trans (congrArg some (by kernel_rfl))⟩
  f22 := ⟨Try.f51.name, by decide, Try.func51.trans (congrArg some (by kernel_rfl))⟩
  f23 := ⟨Try.f52.name, by decide, Try.func52.trans (congrArg some (by kernel_rfl))⟩
  f24 := ⟨Try.f53.name, by decide, Try.func53.trans (congrArg some (by kernel_rfl))⟩
  f25 := ⟨Try.f54.name, by decide, Try.func54.trans (congrArg some (by kernel_rfl))⟩
  f26 := ⟨Try.f55.name, by decide, Try.func55.trans (congrArg some (by kernel_rfl))⟩
  f27 := ⟨Try.f56.name, by decide, Try.func56.trans (congrArg some (by kernel_rfl))⟩
  f28 := Try.func57.trans (congrArg some (by kernel_rfl))
  f29 := Try.func58.trans (congrArg some (by kernel_rfl))
  f46 := ⟨Try.f67.name, by decide, Try.func67.trans (congrArg some (by kernel_rfl))⟩
  f47 := Try.func68.trans (congrArg some (by kernel_rfl))
  f48 := Try.func69.trans (congrArg some (by kernel_rfl))
  f49 := ⟨Try.f70.name, by decide, Try.func70.trans (congrArg some (by kernel_rfl))⟩
  f50 := ⟨Try.f71.name, by decide, Try.func71.trans (congrArg some (by kernel_rfl))⟩
  f57 := ⟨Try.f76.name, by decide, Try.func76.trans (congrArg some (by kernel_rfl))⟩
  t0 := Try.underlying0
  a0 := Try.isAgg0
  z0 := Try.sizeOf0
  v0 := Try.zeroValue0
  t3 := Try.underlying3
  a3 := Try.isAgg3
  z3 := Try.sizeOf3
  v3 := Try.zeroValue3
  t4 := Try.underlying4
  a4 := Try.isAgg4
  z4 := Try.sizeOf4
  v4 := Try.zeroValue4
  t5 := Try.underlying5
  a5 := Try.isAgg5
  z5 := Try.sizeOf5
  v5 := Try.zeroValue5
  t9 := Try.underlying9
  a9 := Try.isAgg9
  z9 := Try.sizeOf9
  v9 := Try.zeroValue9
  t22 := Try.underlying25
  a22 := Try.isAgg25
  z22 := Try.sizeOf25
  v22 := Try.zeroValue25
  t25 := Try.underlying48
  a25 := Try.isAgg48
  z25 := Try.sizeOf48
  v25 := Try.zeroValue48
  t39 := Try.underlying43
  a39 := Try.isAgg43
  z39 := Try.sizeOf43
  v39 := Try.zeroValue43
  t45 := Try.underlying63
  a45 := Try.isAgg63
  z45 := Try.sizeOf63
  v45 := Try.zeroValue63
  t46 := Try.underlying64
  a46 := Try.isAgg64
  z46 := Try.sizeOf64
  v46 := Try.zeroValue64
  t50 := Try.underlying45
  a50 := Try.isAgg45
  z50 := Try.sizeOf45
  v50 := Try.zeroValue45
  t53 := Try.underlying70
  a53 := Try.isAgg70
  z53 := Try.sizeOf70
  v53 := Try.zeroValue70
  t55 := Try.underlying72
  a55 := Try.isAgg72
  z55 := Try.sizeOf72
  v55 := Try.zeroValue72
  t66 := Try.underlying82
  a66 := Try.isAgg82
  z66 := Try.sizeOf82
  v66 := Try.zeroValue82
  t70 := Try.underlying86
  a70 := Try.isAgg86
  z70 := Try.sizeOf86
  v70 := Try.zeroValue86
  t76 := Try.underlying92
  a76 := Try.isAgg92
  z76 := Try.sizeOf92
  v76 := Try.zeroValue92
  t77 := Try.underlying93
  a77 := Try.isAgg93
  z77 := Try.sizeOf93
  v77 := Try.zeroValue93 }
end Go.Proofs.Ytmpkmgkafhlpjaa
namespace Go.Proofs.Ytmpkmgkafhlpjaa
open Go.RowKit Go.Shelf Go.Sort Go.Lib
set_option linter.unusedVariables false
set_option maxRecDepth 20000
def encI (x : KV) : List Value := [.int .i64 x.1, .string x.2]
instance : Inhabited KV := ⟨k0⟩
theorem keysV_get (ks : List KV) (t : Nat) (h : t < ks.length * 2) : (keysV ks).toArray[t]! = (encI (ks.toArray[t / 2]!))[t % 2]! := by
  have hi : t / 2 < ks.length := by omega
  obtain ⟨e0, e1⟩ := keysV_at ks (t / 2) hi
  have hk : ks.toArray[t / 2]! = ks.getD (t / 2) k0 := by
    rw [getElem!_pos ks.toArray (t / 2) (by simpa using hi)]; simp [List.getD_eq_getElem?_getD, hi]
  have hl : t < (keysV ks).length := by rw [keysV_len]; exact h
  rw [hk, getElem!_pos (keysV ks).toArray t (by simpa using hl)]
  have hg : (keysV ks)[t]? = some ((keysV ks)[t]'hl) := List.getElem?_eq_getElem hl
  rcases Nat.mod_two_eq_zero_or_one t with m | m
  · rw [show t / 2 * 2 = t by omega] at e0
    rw [e0] at hg
    rw [m]; simpa [encI] using (Option.some.inj hg).symm
  · rw [show t / 2 * 2 + 1 = t by omega] at e1
    rw [e1] at hg
    rw [m]; simpa [encI] using (Option.some.inj hg).symm
theorem flat_keys (ks : List KV) : flatK encI 2 ks.toArray = (keysV ks).toArray := by
  refine ext_get! (by simp [keysV_len]) fun t ht => ?_
  have ht' : t < ks.length * 2 := by simpa using ht
  rw [get_flatK encI 2 ks.toArray t (by simpa using ht'), keysV_get ks t ht']
theorem swoI : SWO (ltOf ordK) := {
  irrefl x := by unfold ltOf; rw [decide_eq_false_iff_not]; exact ordK_irrefl _
  trans x y z h1 h2 := by unfold ltOf at *; rw [decide_eq_true_iff] at *; exact ordK_trans h1 h2
  ntrans x y z h1 h2 := by
    unfold ltOf at *
    rw [decide_eq_false_iff_not] at *
    exact ordK_le_trans h2 h1 }
theorem totI (x y : KV) (h1 : ltOf ordK x y = false) (h2 : ltOf ordK y x = false) : x = y := by
  unfold ltOf at *
  rw [decide_eq_false_iff_not] at *
  exact leK_asymm h2 h1
theorem cmpI_lays (blk off size : Nat) (w : World) : CmpLays Try.prog 31 #[] encI 2 ordK blk off size w := by
  intro m os dk hs x y
  refine (iorder_grows x y _).mono ?_
  rintro e w' ⟨rfl, q, os', rfl⟩
  exact ⟨rfl, q, os', rfl⟩
theorem isAggI (w : World) : (isAgg 36).run Try.prog w = .ok true w := by kernel_rfl
theorem sizeI (w : World) : (Go.sizeOf 36).run Try.prog w = .ok 2 w := by kernel_rfl
theorem heap_sortedK {w : World} {g n : Nat} {os : Array Obj} {cur : Array Value} {e : TypeId} {fr : Nat × Nat} (d : Array Value) (hb : w.heap[g]? = some (.cells cur e fr)) :
    (grow (putRow id (Sort.ahead w n) g 0 d) os).heap[g]? = some (.cells (putCells id 0 d cur) e fr) := by
  have hg : g < w.heap.size := (Array.getElem?_eq_some_iff.1 hb).1
  rw [heap_grow_old _ _ (by simpa using hg)]
  simp [putRow, mapBlock, Sort.ahead, Array.getElem?_modify, hb, onCells]
theorem grownBy_sortedK {w : World} {g n : Nat} {os : Array Obj} (d : Array Value) : w.grownBy (grow (putRow id (Sort.ahead w n) g 0 d) os) (some g) := by
  refine ⟨rfl, rfl, rfl, by simp, fun k hk hne => ?_⟩
  rw [heap_grow_old _ _ (by simpa using hk)]
  have : g ≠ k := fun e => hne (by rw [e])
  simp [putRow, mapBlock, Sort.ahead, Array.getElem?_modify, this]
theorem take_putCellsK (cur : Array Value) (ts : List Value) (h : ts.length ≤ cur.size) : (putCells id 0 ts.toArray cur).toList.take ts.length = ts := by
  apply List.ext_getElem?
  intro j
  by_cases hj : j < ts.length
  · rw [List.getElem?_take_of_lt hj, Array.getElem?_toList]
    simp [putCells, hj, show j < cur.size by omega]
  · rw [List.getElem?_take_eq_none (by omega), List.getElem?_eq_none (by omega)]
set_option maxHeartbeats 1000000 in
theorem sortI_some (g n cap B : Nat) (ks : List KV) (w : World) (hown : w.ownsRow B 36 2 (.slice (some ⟨g, 0, none⟩) n cap) n (keysV ks)) (hn : n ≤ 1048576) :
    Calls Try.prog 30 #[.slice (some ⟨g, 0, none⟩) n cap, .func (.func 31) #[] #[]] w fun e w' => e = .returned (.tuple #[]) ∧ w'.ownsRow B 36 2 (.slice (some ⟨g, 0, none⟩) n cap) n (keysV (sortK ks)) ∧ (∀ b w0, b ≤ B → Below b w0 w → Below b w0 w') := by
  have eg : ∀ args w, (callFunc 31 args).run Try.prog w = .ok (.enter 31 args) w := enters_of Try.func31 (by kernel_rfl) rfl
  rcases hown.2 with ⟨h0, _⟩ | ⟨g', cap', cur, hv, hbase, hb, h1, h2, h3, h4⟩
  · cases h0
  cases hv
  have hl : ks.length = n := by have := hown.1; rw [keysV_len] at this; omega
  subst hl
  have hgl := (Array.getElem?_eq_some_iff.1 hb).1
  have hH : Go.Sort.HoldsK encI 2 w g 0 ks.toArray := by
    unfold Go.Sort.HoldsK
    rw [flat_keys]
    intro j hj
    have hj' : j < ks.length * 2 := by simpa [keysV_len] using hj
    refine ⟨?_, by simp [World.frozen?, hb]⟩
    have h5 : (cur.toList.take (ks.length * 2))[j]? = (keysV ks)[j]? := by rw [h4]
    rw [List.getElem?_take_of_lt hj'] at h5
    simp only [World.cell?, hb, Nat.zero_add]
    simp only [Option.isSome_none, Bool.false_eq_true, if_false]
    rw [← Array.getElem?_toList, h5]
    have hlt : j < (keysV ks).length := by rw [keysV_len]; exact hj'
    rw [List.getElem?_eq_getElem hlt, getElem!_pos (keysV ks).toArray j (by simpa using hlt)]
    simp
  have hS := AnyQ.slices_SortFunc_total Try.sortI 2 isAggI sizeI encI (fun _ => rfl) (fun x v hv => by simp [encI] at hv; rcases hv with rfl | rfl <;> rfl) ordK swoI 31 #[] g 0 cap ks.toArray w eg (cmpI_lays g 0 _ w) hH hgl (by simp at hn ⊢; omega) totI
  change Calls Try.prog 30 _ _ _ at hS
  simp only [List.size_toArray] at hS
  refine hS.mono ?_
  rintro e w' ⟨rfl, q, os, rfl⟩
  have hm : (ks.mergeSort fun x y => !(ltOf ordK) y x) = sortK ks := mergeK ks
  rw [hm]
  have hsl := sortK_length ks
  have hfl : (flatK encI 2 (sortK ks).toArray) = (keysV (sortK ks)).toArray := flat_keys _
  unfold sortWorldK putRowK
  rw [hfl]
  refine ⟨rfl, ⟨by rw [keysV_len, hsl], Or.inr ⟨g, cap, _, rfl, hbase, heap_sortedK _ hb, h1, h2, by simp [putCells, h3], ?_⟩⟩, ?_⟩
  · have := take_putCellsK cur (keysV (sortK ks)) (by rw [keysV_len, hsl, h3]; exact Nat.mul_le_mul_right 2 h1)
    rwa [keysV_len, hsl] at this
  · intro b w0 hbB hbel
    exact hbel.grown (grownBy_sortedK _) (by omega) fun j hj => by cases hj; omega
theorem sortI_none (c : Nat) (w : World) : Calls Try.prog 30 #[.slice none 0 c, .func (.func 31) #[] #[]] w fun e w' => e = .returned (.tuple #[]) ∧ w = w' := by
  have hS := AnyF.slices_SortFunc_none (P := Try.prog) (ρ := Try.sortI_ren) { Try.sortI with } none c (.func (.func 31) #[] #[]) w
  change Calls Try.prog 30 _ _ _ at hS
  refine hS.mono ?_
  rintro e w' ⟨rfl, rfl⟩
  exact ⟨rfl, rfl⟩
end Go.Proofs.Ytmpkmgkafhlpjaa
