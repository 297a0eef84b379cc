/- messages in the document: read, an Ask (by gen/me5.py) -/
import Derived.Test.YthboiklcjpnhbaaMe4
import Derived.Deep.MidRow
namespace Go.Proofs.Ythboiklcjpnhbaa
open Go.RowKit
set_option linter.unusedVariables false
set_option maxRecDepth 20000
set_option maxRecDepth 100000
def dAskS (bs : List Nat) (n : Nat) (s : RS) : RS :=
  let s1 := dNum n 4 s
  let s2 := dNum n 4 s1
  let s3 := dNum n 4 s2
  let s4 := dNum n 4 s3
  let s5 := dNum n 4 s4
  let s6 := dTe bs n s5
  let s7 := dNum n 1 s6
  let s8 := dNum n 1 s7
  let s9 := dNum n 1 s8
  let s10 := dNum n 1 s9
  let s11 := dTe bs n s10
  s11
def dAsk (bs : List Nat) (n : Nat) (s : RS) : AskP :=
  let s1 := dNum n 4 s
  let s2 := dNum n 4 s1
  let s3 := dNum n 4 s2
  let s4 := dNum n 4 s3
  let s5 := dNum n 4 s4
  let s6 := dTe bs n s5
  let s7 := dNum n 1 s6
  let s8 := dNum n 1 s7
  let s9 := dNum n 1 s8
  let s10 := dNum n 1 s9
  ⟨dG bs n 4 s, dG bs n 4 s1, dG bs n 4 s2, dG bs n 4 s3, dG bs n 4 s4, dTx bs n s5, dG bs n 1 s6, dG bs n 1 s7, (dG bs n 1 s8 == 1), dG bs n 1 s9, dTx bs n s10⟩
def putsA (cs : Array Value) : Nat → List Value → Array Value
  | _, [] => cs
  | o, v :: r => putsA (cs.setIfInBounds o v) (o + 1) r
theorem heap_setCells {p : Nat} {t : TypeId} {fr : Nat × Nat} : ∀ (vs : List Value) (o : Nat) (w : World) (cs : Array Value), w.heap[p]? = some (.cells cs t fr) → (w.setCells p o vs).heap[p]? = some (.cells (putsA cs o vs) t fr)
  | [], _, _, _, h => h
  | v :: r, o, w, cs, h => by
    rw [World.setCells]
    exact heap_setCells r (o + 1) _ _ (heap_set h)
theorem turn_setCells {p : Nat} : ∀ (vs : List Value) (o : Nat) (w : World), Turn (fun k => k = p) w (w.setCells p o vs)
  | [], o, w => Turn.of_below (Below.refl w.heap.size w)
  | v :: r, o, w => by
    rw [World.setCells]
    exact Turn.trans (F := fun k => k = p) (Turn.setCell rfl) (turn_setCells r (o + 1) _)
theorem there_heap {w : World} {p o n : Nat} {cs : Array Value} {t : TypeId} (h : w.heap[p]? = some (.cells cs t (0, 0))) (hn : o + n ≤ cs.size) : w.there p o n := fun j hj =>
  ⟨by rw [heap_cellI (i := o + j) h (Array.getElem?_eq_getElem (by omega))]; rfl, heap_free h⟩
set_option maxHeartbeats 12800000 in
theorem dRead_Ask {r : Nat} {a : Option Addr} {n cap : Nat} {bs : List Nat} {s : RS} (w : World) (h : RdS r a n cap bs s w) :
    Calls Try.prog 51 #[.pointer (some ⟨r, 0, none⟩), .int .i64 3] w (DReadP r a n cap bs (dAskS bs n s) w (msgC (.ask (dAsk bs n s)))) := by
  obtain ⟨v0, hv0⟩ : ∃ v : Int, dG bs n 4 s = v := ⟨_, rfl⟩
  obtain ⟨s1, hs1⟩ : ∃ t, dNum n 4 s = t := ⟨_, rfl⟩
  have C0 := Lib.hid (fun w' (h : RdS r a n cap bs s w') => dsNum 4 4 rfl (by omega) (by omega) w' h)
  rw [hv0, hs1] at C0
  obtain ⟨v1, hv1⟩ : ∃ v : Int, dG bs n 4 s1 = v := ⟨_, rfl⟩
  obtain ⟨s2, hs2⟩ : ∃ t, dNum n 4 s1 = t := ⟨_, rfl⟩
  have C1 := Lib.hid (fun w' (h : RdS r a n cap bs s1 w') => dsNum 4 4 rfl (by omega) (by omega) w' h)
  rw [hv1, hs2] at C1
  obtain ⟨v2, hv2⟩ : ∃ v : Int, dG bs n 4 s2 = v := ⟨_, rfl⟩
  obtain ⟨s3, hs3⟩ : ∃ t, dNum n 4 s2 = t := ⟨_, rfl⟩
  have C2 := Lib.hid (fun w' (h : RdS r a n cap bs s2 w') => dsNum 4 4 rfl (by omega) (by omega) w' h)
  rw [hv2, hs3] at C2
  obtain ⟨v3, hv3⟩ : ∃ v : Int, dG bs n 4 s3 = v := ⟨_, rfl⟩
  obtain ⟨s4, hs4⟩ : ∃ t, dNum n 4 s3 = t := ⟨_, rfl⟩
  have C3 := Lib.hid (fun w' (h : RdS r a n cap bs s3 w') => dsNum 4 4 rfl (by omega) (by omega) w' h)
  rw [hv3, hs4] at C3
  obtain ⟨v4, hv4⟩ : ∃ v : Int, dG bs n 4 s4 = v := ⟨_, rfl⟩
  obtain ⟨s5, hs5⟩ : ∃ t, dNum n 4 s4 = t := ⟨_, rfl⟩
  have C4 := Lib.hid (fun w' (h : RdS r a n cap bs s4 w') => dsNum 4 4 rfl (by omega) (by omega) w' h)
  rw [hv4, hs5] at C4
  obtain ⟨v5, hv5⟩ : ∃ v : Tx, dTx bs n s5 = v := ⟨_, rfl⟩
  obtain ⟨s6, hs6⟩ : ∃ t, dTe bs n s5 = t := ⟨_, rfl⟩
  have C5 := Lib.hid (fun w' (h : RdS r a n cap bs s5 w') => dsText w' h)
  rw [hv5, hs6] at C5
  obtain ⟨v6, hv6⟩ : ∃ v : Int, dG bs n 1 s6 = v := ⟨_, rfl⟩
  obtain ⟨s7, hs7⟩ : ∃ t, dNum n 1 s6 = t := ⟨_, rfl⟩
  have C6 := Lib.hid (fun w' (h : RdS r a n cap bs s6 w') => dsNum 1 1 rfl (by omega) (by omega) w' h)
  rw [hv6, hs7] at C6
  obtain ⟨v7, hv7⟩ : ∃ v : Int, dG bs n 1 s7 = v := ⟨_, rfl⟩
  obtain ⟨s8, hs8⟩ : ∃ t, dNum n 1 s7 = t := ⟨_, rfl⟩
  have C7 := Lib.hid (fun w' (h : RdS r a n cap bs s7 w') => dsNum 1 1 rfl (by omega) (by omega) w' h)
  rw [hv7, hs8] at C7
  obtain ⟨v8, hv8⟩ : ∃ v : Int, dG bs n 1 s8 = v := ⟨_, rfl⟩
  obtain ⟨s9, hs9⟩ : ∃ t, dNum n 1 s8 = t := ⟨_, rfl⟩
  have C8 := Lib.hid (fun w' (h : RdS r a n cap bs s8 w') => dsNum 1 1 rfl (by omega) (by omega) w' h)
  rw [hv8, hs9] at C8
  obtain ⟨v9, hv9⟩ : ∃ v : Int, dG bs n 1 s9 = v := ⟨_, rfl⟩
  obtain ⟨s10, hs10⟩ : ∃ t, dNum n 1 s9 = t := ⟨_, rfl⟩
  have C9 := Lib.hid (fun w' (h : RdS r a n cap bs s9 w') => dsNum 1 1 rfl (by omega) (by omega) w' h)
  rw [hv9, hs10] at C9
  obtain ⟨v10, hv10⟩ : ∃ v : Tx, dTx bs n s10 = v := ⟨_, rfl⟩
  obtain ⟨s11, hs11⟩ : ∃ t, dTe bs n s10 = t := ⟨_, rfl⟩
  have C10 := Lib.hid (fun w' (h : RdS r a n cap bs s10 w') => dsText w' h)
  rw [hv10, hs11] at C10
  have ES : dAskS bs n s = s11 := by simp only [dAskS, hs1, hs2, hs3, hs4, hs5, hs6, hs7, hs8, hs9, hs10, hs11]
  have EV : msgC (.ask (dAsk bs n s)) = .agg #[.int .i64 3, .int .i64 0, .int .i64 0, .int .i64 0, .int .i64 0, .int .i64 0, .int .i64 v0, .int .i64 v1, .int .i64 v2, .int .i64 v3, .int .i64 v4, .string v5, .int .i64 v6, .int .i64 v7, .bool (v8 == 1), .int .i64 v9, .string v10, .int .i64 0, .int .i64 0, .int .i64 0, .int .i64 0, .int .i64 0, .int .i64 0, .slice .none 0 0, .bool false, .int .i64 0, .int .i64 0] := by simp only [dAsk, msgC, hs1, hs2, hs3, hs4, hs5, hs6, hs7, hs8, hs9, hs10, hv0, hv1, hv2, hv3, hv4, hv5, hv6, hv7, hv8, hv9, hv10]
  rw [ES, EV]
  have LR := Lib.hid (lt_of_cell h.m.c0)
  have AL := Lib.hid (show 0 < n → ∀ q o, a = some ⟨q, o, none⟩ → q < w.heap.size from fun h0 => h.lt h0)
  obtain ⟨w1, hw1⟩ : ∃ w1, w.alloc (.cells #[.int .i64 0, .int .i64 0, .int .i64 0, .int .i64 0, .int .i64 0, .int .i64 0, .int .i64 0, .int .i64 0, .int .i64 0, .int .i64 0, .int .i64 0, .string ⟨#[]⟩, .int .i64 0, .int .i64 0, .bool false, .int .i64 0, .string ⟨#[]⟩, .int .i64 0, .int .i64 0, .int .i64 0, .int .i64 0, .int .i64 0, .int .i64 0, .slice .none 0 0, .bool false, .int .i64 0, .int .i64 0] 46) = w1 := ⟨_, rfl⟩
  have HP1 := Lib.hid (show w1.heap[w.heap.size]? = some (.cells #[.int .i64 0, .int .i64 0, .int .i64 0, .int .i64 0, .int .i64 0, .int .i64 0, .int .i64 0, .int .i64 0, .int .i64 0, .int .i64 0, .int .i64 0, .string ⟨#[]⟩, .int .i64 0, .int .i64 0, .bool false, .int .i64 0, .string ⟨#[]⟩, .int .i64 0, .int .i64 0, .int .i64 0, .int .i64 0, .int .i64 0, .int .i64 0, .slice .none 0 0, .bool false, .int .i64 0, .int .i64 0] 46 (0, 0)) from hw1 ▸ heap_alloc_new w _)
  have B1 := Lib.hid (show Below w.heap.size w w1 from hw1 ▸ below_one w _)
  have LW := Lib.hid (show w.heap.size < w1.heap.size from (Array.getElem?_eq_some_iff.1 HP1.out).1)
  have HQ1 := Lib.hid (heap_alloc_new w1 (.cells #[.int .i64 0, .int .i64 0, .int .i64 0, .int .i64 0, .int .i64 0, .int .i64 0, .int .i64 0, .int .i64 0, .int .i64 0, .int .i64 0, .int .i64 0, .string ⟨#[]⟩, .int .i64 0, .int .i64 0, .bool false, .int .i64 0, .string ⟨#[]⟩, .int .i64 0, .int .i64 0, .int .i64 0, .int .i64 0, .int .i64 0, .int .i64 0, .slice .none 0 0, .bool false, .int .i64 0, .int .i64 0] 46))
  obtain ⟨p, hp⟩ : ∃ p, w.heap.size = p := ⟨_, rfl⟩
  have HPH := Lib.hid hp
  rw [hp] at HP1
  have M0 := Lib.hid h
  clear h ES EV hv0 hs1 hv1 hs2 hv2 hs3 hv3 hs4 hv4 hs5 hv5 hs6 hv6 hs7 hv7 hs8 hv8 hs9 hv9 hs10 hv10 hs11
  go_enter Try.func51, Try.ntmps51
  go_upto_region 1 with fail
  try rw [hw1]
  try simp only [hp]
  clear hw1 hp
  go_upto_region 2 with (first | (refine wpList_store_row rfl 46 (.tmp 5) (.tmp 9) rfl w1.heap.size #[.int .i64 3, .int .i64 0, .int .i64 0, .int .i64 0, .int .i64 0, .int .i64 0, .int .i64 0, .int .i64 0, .int .i64 0, .int .i64 0, .int .i64 0, .string ⟨#[]⟩, .int .i64 0, .int .i64 0, .bool false, .int .i64 0, .string ⟨#[]⟩, .int .i64 0, .int .i64 0, .int .i64 0, .int .i64 0, .int .i64 0, .int .i64 0, .slice .none 0 0, .bool false, .int .i64 0, .int .i64 0] rfl rfl 46 #[.int .i64 0, .int .i64 0, .int .i64 0, .int .i64 0, .int .i64 0, .int .i64 0, .int .i64 0, .int .i64 0, .int .i64 0, .int .i64 0, .int .i64 0, .string ⟨#[]⟩, .int .i64 0, .int .i64 0, .bool false, .int .i64 0, .string ⟨#[]⟩, .int .i64 0, .int .i64 0, .int .i64 0, .int .i64 0, .int .i64 0, .int .i64 0, .slice .none 0 0, .bool false, .int .i64 0, .int .i64 0] HQ1.out (by kernel_rfl) rfl (by simp [Value.oneCell']) ?_) | fail)
  obtain ⟨w2, hw2⟩ : ∃ w2, (w1.alloc (.cells #[.int .i64 0, .int .i64 0, .int .i64 0, .int .i64 0, .int .i64 0, .int .i64 0, .int .i64 0, .int .i64 0, .int .i64 0, .int .i64 0, .int .i64 0, .string ⟨#[]⟩, .int .i64 0, .int .i64 0, .bool false, .int .i64 0, .string ⟨#[]⟩, .int .i64 0, .int .i64 0, .int .i64 0, .int .i64 0, .int .i64 0, .int .i64 0, .slice .none 0 0, .bool false, .int .i64 0, .int .i64 0] 46)).setRow w1.heap.size #[.int .i64 3, .int .i64 0, .int .i64 0, .int .i64 0, .int .i64 0, .int .i64 0, .int .i64 0, .int .i64 0, .int .i64 0, .int .i64 0, .int .i64 0, .string ⟨#[]⟩, .int .i64 0, .int .i64 0, .bool false, .int .i64 0, .string ⟨#[]⟩, .int .i64 0, .int .i64 0, .int .i64 0, .int .i64 0, .int .i64 0, .int .i64 0, .slice .none 0 0, .bool false, .int .i64 0, .int .i64 0] = w2 := ⟨_, rfl⟩
  have HQ0 := Lib.hid (show w2.heap[w1.heap.size]? = some (.cells #[.int .i64 3, .int .i64 0, .int .i64 0, .int .i64 0, .int .i64 0, .int .i64 0, .int .i64 0, .int .i64 0, .int .i64 0, .int .i64 0, .int .i64 0, .string ⟨#[]⟩, .int .i64 0, .int .i64 0, .bool false, .int .i64 0, .string ⟨#[]⟩, .int .i64 0, .int .i64 0, .int .i64 0, .int .i64 0, .int .i64 0, .int .i64 0, .slice .none 0 0, .bool false, .int .i64 0, .int .i64 0] 46 (0, 0)) from hw2 ▸ setRow_heap _ _ _ _ _ _ HQ1.out)
  have b12 : Below w1.heap.size w1 w2 := hw2 ▸ below_setRow (below_one w1 _) (Nat.le_refl _) #[.int .i64 3, .int .i64 0, .int .i64 0, .int .i64 0, .int .i64 0, .int .i64 0, .int .i64 0, .int .i64 0, .int .i64 0, .int .i64 0, .int .i64 0, .string ⟨#[]⟩, .int .i64 0, .int .i64 0, .bool false, .int .i64 0, .string ⟨#[]⟩, .int .i64 0, .int .i64 0, .int .i64 0, .int .i64 0, .int .i64 0, .int .i64 0, .slice .none 0 0, .bool false, .int .i64 0, .int .i64 0]
  have HP0 := Lib.hid (heap_keep HP1.out b12)
  have BW := B1.out.trans (b12.mono B1.out.size)
  have R0 := Lib.hid (M0.out.below BW)
  have TT0 := Lib.hid (show Turn (fun k => k = r ∨ p ≤ k) w w2 from Turn.of_below BW)
  rw [hw2]
  obtain ⟨q, hq⟩ : ∃ q, w1.heap.size = q := ⟨_, rfl⟩
  have PQ := Lib.hid (show p < q from by have h1 := LW.out; have h2 := HPH.out; omega)
  have RP := Lib.hid (show r < p from by have h1 := LR.out; have h2 := HPH.out; omega)
  have AP := Lib.hid (show 0 < n → ∀ q' o, a = some ⟨q', o, none⟩ → q' < p from fun h0 q' o e => by have h1 := AL.out h0 q' o e; have h2 := HPH.out; omega)
  rw [hq] at HQ0
  try simp only [hq]
  clear hw2 b12 BW HP1 HQ1 M0 hq LW LR AL B1
  go_upto_region 12 with fail
  have HU := Lib.hid (heap_alloc_new w2 (.cells #[.int .i64 0, .int .i64 0, .int .i64 0, .int .i64 0, .int .i64 0, .string ⟨#[]⟩, .int .i64 0, .int .i64 0, .bool false, .int .i64 0, .string ⟨#[]⟩] 29))
  have HQ := Lib.hid (heapD (o2 := .cells #[.int .i64 0, .int .i64 0, .int .i64 0, .int .i64 0, .int .i64 0, .string ⟨#[]⟩, .int .i64 0, .int .i64 0, .bool false, .int .i64 0, .string ⟨#[]⟩] 29) HQ0.out)
  have HP := Lib.hid (heapD (o2 := .cells #[.int .i64 0, .int .i64 0, .int .i64 0, .int .i64 0, .int .i64 0, .string ⟨#[]⟩, .int .i64 0, .int .i64 0, .bool false, .int .i64 0, .string ⟨#[]⟩] 29) HP0.out)
  have R := Lib.hid (R0.out.below (below_one w2 (.cells #[.int .i64 0, .int .i64 0, .int .i64 0, .int .i64 0, .int .i64 0, .string ⟨#[]⟩, .int .i64 0, .int .i64 0, .bool false, .int .i64 0, .string ⟨#[]⟩] 29)))
  have TT := Lib.hid (TT0.out.trans (Turn.of_below (F := fun k => k = r ∨ p ≤ k) (below_one w2 (.cells #[.int .i64 0, .int .i64 0, .int .i64 0, .int .i64 0, .int .i64 0, .string ⟨#[]⟩, .int .i64 0, .int .i64 0, .bool false, .int .i64 0, .string ⟨#[]⟩] 29))))
  have QU0 := (Array.getElem?_eq_some_iff.1 HQ0.out).1
  generalize w2.alloc (.cells #[.int .i64 0, .int .i64 0, .int .i64 0, .int .i64 0, .int .i64 0, .string ⟨#[]⟩, .int .i64 0, .int .i64 0, .bool false, .int .i64 0, .string ⟨#[]⟩] 29) = w3 at HU HQ HP R TT ⊢
  obtain ⟨u, hu⟩ : ∃ u, w2.heap.size = u := ⟨_, rfl⟩
  rw [hu] at HU QU0
  try simp only [hu]
  have QU := Lib.hid QU0
  clear hu QU0 HQ0 HP0 R0 TT0
  have D0 := Lib.hid (C0.out _ R.out)
  clear C0
  go_wp2_with fail
  with_reducible refine D0.out.mono ?_
  rintro e wa ⟨rfl, hM, hT⟩
  have hu1 := heap_turn HU.out hT (by have := QU.out; have := PQ.out; have := RP.out; omega)
  have HQ' := Lib.hid (heap_turn HQ.out hT (by have := PQ.out; have := RP.out; omega))
  have HP' := Lib.hid (heap_turn HP.out hT (by have := RP.out; omega))
  have TT' := Lib.hid (TT.out.trans (turn_weak hT (fun k hk => Or.inl hk)))
  have hx := heap_cellI (i := 0) hu1 rfl
  have hf := heap_free (i := 0) hu1
  have R' := Lib.hid hM
  have HU' := Lib.hid hu1
  clear hu1 hM hT R HQ HP TT HU D0
  go_upto_region 13 with fail
  have HU := Lib.hid (show (wa.setCell ⟨u, 0, none⟩ (.int .i64 v0)).heap[u]? = some (.cells #[.int .i64 v0, .int .i64 0, .int .i64 0, .int .i64 0, .int .i64 0, .string ⟨#[]⟩, .int .i64 0, .int .i64 0, .bool false, .int .i64 0, .string ⟨#[]⟩] 29 (0, 0)) from heap_set HU'.out)
  have hts : Turn (fun k => k = u) wa (wa.setCell ⟨u, 0, none⟩ (.int .i64 v0)) := Turn.setCell rfl
  have HQ := Lib.hid (heap_turn HQ'.out hts (by have := QU.out; omega))
  have HP := Lib.hid (heap_turn HP'.out hts (by have := PQ.out; have := QU.out; omega))
  have R := Lib.hid (R'.out.fresh hts (by have := PQ.out; have := QU.out; have := RP.out; omega) (fun h0 q' o e => by have := AP.out h0 q' o e; have := PQ.out; have := QU.out; omega))
  have TT := Lib.hid (TT'.out.trans (turn_weak hts (fun k hk => Or.inr (by have := PQ.out; have := QU.out; omega))))
  generalize wa.setCell ⟨u, 0, none⟩ (.int .i64 v0) = wb0 at HU HQ HP R TT ⊢
  clear hx hf hts HP' TT' R' HQ' HU'
  have D1 := Lib.hid (C1.out _ R.out)
  clear C1
  go_wp2_with fail
  with_reducible refine D1.out.mono ?_
  rintro e wa ⟨rfl, hM, hT⟩
  have hu1 := heap_turn HU.out hT (by have := QU.out; have := PQ.out; have := RP.out; omega)
  have HQ' := Lib.hid (heap_turn HQ.out hT (by have := PQ.out; have := RP.out; omega))
  have HP' := Lib.hid (heap_turn HP.out hT (by have := RP.out; omega))
  have TT' := Lib.hid (TT.out.trans (turn_weak hT (fun k hk => Or.inl hk)))
  have hx := heap_cellI (i := 1) hu1 rfl
  have hf := heap_free (i := 1) hu1
  have R' := Lib.hid hM
  have HU' := Lib.hid hu1
  clear hu1 hM hT R HQ HP TT HU D1
  go_upto_region 14 with fail
  have HU := Lib.hid (show (wa.setCell ⟨u, 1, none⟩ (.int .i64 v1)).heap[u]? = some (.cells #[.int .i64 v0, .int .i64 v1, .int .i64 0, .int .i64 0, .int .i64 0, .string ⟨#[]⟩, .int .i64 0, .int .i64 0, .bool false, .int .i64 0, .string ⟨#[]⟩] 29 (0, 0)) from heap_set HU'.out)
  have hts : Turn (fun k => k = u) wa (wa.setCell ⟨u, 1, none⟩ (.int .i64 v1)) := Turn.setCell rfl
  have HQ := Lib.hid (heap_turn HQ'.out hts (by have := QU.out; omega))
  have HP := Lib.hid (heap_turn HP'.out hts (by have := PQ.out; have := QU.out; omega))
  have R := Lib.hid (R'.out.fresh hts (by have := PQ.out; have := QU.out; have := RP.out; omega) (fun h0 q' o e => by have := AP.out h0 q' o e; have := PQ.out; have := QU.out; omega))
  have TT := Lib.hid (TT'.out.trans (turn_weak hts (fun k hk => Or.inr (by have := PQ.out; have := QU.out; omega))))
  generalize wa.setCell ⟨u, 1, none⟩ (.int .i64 v1) = wb1 at HU HQ HP R TT ⊢
  clear hx hf hts HP' TT' R' HQ' HU'
  have D2 := Lib.hid (C2.out _ R.out)
  clear C2
  go_wp2_with fail
  with_reducible refine D2.out.mono ?_
  rintro e wa ⟨rfl, hM, hT⟩
  have hu1 := heap_turn HU.out hT (by have := QU.out; have := PQ.out; have := RP.out; omega)
  have HQ' := Lib.hid (heap_turn HQ.out hT (by have := PQ.out; have := RP.out; omega))
  have HP' := Lib.hid (heap_turn HP.out hT (by have := RP.out; omega))
  have TT' := Lib.hid (TT.out.trans (turn_weak hT (fun k hk => Or.inl hk)))
  have hx := heap_cellI (i := 2) hu1 rfl
  have hf := heap_free (i := 2) hu1
  have R' := Lib.hid hM
  have HU' := Lib.hid hu1
  clear hu1 hM hT R HQ HP TT HU D2
  go_upto_region 15 with fail
  have HU := Lib.hid (show (wa.setCell ⟨u, 2, none⟩ (.int .i64 v2)).heap[u]? = some (.cells #[.int .i64 v0, .int .i64 v1, .int .i64 v2, .int .i64 0, .int .i64 0, .string ⟨#[]⟩, .int .i64 0, .int .i64 0, .bool false, .int .i64 0, .string ⟨#[]⟩] 29 (0, 0)) from heap_set HU'.out)
  have hts : Turn (fun k => k = u) wa (wa.setCell ⟨u, 2, none⟩ (.int .i64 v2)) := Turn.setCell rfl
  have HQ := Lib.hid (heap_turn HQ'.out hts (by have := QU.out; omega))
  have HP := Lib.hid (heap_turn HP'.out hts (by have := PQ.out; have := QU.out; omega))
  have R := Lib.hid (R'.out.fresh hts (by have := PQ.out; have := QU.out; have := RP.out; omega) (fun h0 q' o e => by have := AP.out h0 q' o e; have := PQ.out; have := QU.out; omega))
  have TT := Lib.hid (TT'.out.trans (turn_weak hts (fun k hk => Or.inr (by have := PQ.out; have := QU.out; omega))))
  generalize wa.setCell ⟨u, 2, none⟩ (.int .i64 v2) = wb2 at HU HQ HP R TT ⊢
  clear hx hf hts HP' TT' R' HQ' HU'
  have D3 := Lib.hid (C3.out _ R.out)
  clear C3
  go_wp2_with fail
  with_reducible refine D3.out.mono ?_
  rintro e wa ⟨rfl, hM, hT⟩
  have hu1 := heap_turn HU.out hT (by have := QU.out; have := PQ.out; have := RP.out; omega)
  have HQ' := Lib.hid (heap_turn HQ.out hT (by have := PQ.out; have := RP.out; omega))
  have HP' := Lib.hid (heap_turn HP.out hT (by have := RP.out; omega))
  have TT' := Lib.hid (TT.out.trans (turn_weak hT (fun k hk => Or.inl hk)))
  have hx := heap_cellI (i := 3) hu1 rfl
  have hf := heap_free (i := 3) hu1
  have R' := Lib.hid hM
  have HU' := Lib.hid hu1
  clear hu1 hM hT R HQ HP TT HU D3
  go_upto_region 16 with fail
  have HU := Lib.hid (show (wa.setCell ⟨u, 3, none⟩ (.int .i64 v3)).heap[u]? = some (.cells #[.int .i64 v0, .int .i64 v1, .int .i64 v2, .int .i64 v3, .int .i64 0, .string ⟨#[]⟩, .int .i64 0, .int .i64 0, .bool false, .int .i64 0, .string ⟨#[]⟩] 29 (0, 0)) from heap_set HU'.out)
  have hts : Turn (fun k => k = u) wa (wa.setCell ⟨u, 3, none⟩ (.int .i64 v3)) := Turn.setCell rfl
  have HQ := Lib.hid (heap_turn HQ'.out hts (by have := QU.out; omega))
  have HP := Lib.hid (heap_turn HP'.out hts (by have := PQ.out; have := QU.out; omega))
  have R := Lib.hid (R'.out.fresh hts (by have := PQ.out; have := QU.out; have := RP.out; omega) (fun h0 q' o e => by have := AP.out h0 q' o e; have := PQ.out; have := QU.out; omega))
  have TT := Lib.hid (TT'.out.trans (turn_weak hts (fun k hk => Or.inr (by have := PQ.out; have := QU.out; omega))))
  generalize wa.setCell ⟨u, 3, none⟩ (.int .i64 v3) = wb3 at HU HQ HP R TT ⊢
  clear hx hf hts HP' TT' R' HQ' HU'
  have D4 := Lib.hid (C4.out _ R.out)
  clear C4
  go_wp2_with fail
  with_reducible refine D4.out.mono ?_
  rintro e wa ⟨rfl, hM, hT⟩
  have hu1 := heap_turn HU.out hT (by have := QU.out; have := PQ.out; have := RP.out; omega)
  have HQ' := Lib.hid (heap_turn HQ.out hT (by have := PQ.out; have := RP.out; omega))
  have HP' := Lib.hid (heap_turn HP.out hT (by have := RP.out; omega))
  have TT' := Lib.hid (TT.out.trans (turn_weak hT (fun k hk => Or.inl hk)))
  have hx := heap_cellI (i := 4) hu1 rfl
  have hf := heap_free (i := 4) hu1
  have R' := Lib.hid hM
  have HU' := Lib.hid hu1
  clear hu1 hM hT R HQ HP TT HU D4
  go_upto_region 17 with fail
  have HU := Lib.hid (show (wa.setCell ⟨u, 4, none⟩ (.int .i64 v4)).heap[u]? = some (.cells #[.int .i64 v0, .int .i64 v1, .int .i64 v2, .int .i64 v3, .int .i64 v4, .string ⟨#[]⟩, .int .i64 0, .int .i64 0, .bool false, .int .i64 0, .string ⟨#[]⟩] 29 (0, 0)) from heap_set HU'.out)
  have hts : Turn (fun k => k = u) wa (wa.setCell ⟨u, 4, none⟩ (.int .i64 v4)) := Turn.setCell rfl
  have HQ := Lib.hid (heap_turn HQ'.out hts (by have := QU.out; omega))
  have HP := Lib.hid (heap_turn HP'.out hts (by have := PQ.out; have := QU.out; omega))
  have R := Lib.hid (R'.out.fresh hts (by have := PQ.out; have := QU.out; have := RP.out; omega) (fun h0 q' o e => by have := AP.out h0 q' o e; have := PQ.out; have := QU.out; omega))
  have TT := Lib.hid (TT'.out.trans (turn_weak hts (fun k hk => Or.inr (by have := PQ.out; have := QU.out; omega))))
  generalize wa.setCell ⟨u, 4, none⟩ (.int .i64 v4) = wb4 at HU HQ HP R TT ⊢
  clear hx hf hts HP' TT' R' HQ' HU'
  have D5 := Lib.hid (C5.out _ R.out)
  clear C5
  go_wp2_with fail
  with_reducible refine D5.out.mono ?_
  rintro e wa ⟨rfl, hM, hT⟩
  have hu1 := heap_turn HU.out hT (by have := QU.out; have := PQ.out; have := RP.out; omega)
  have HQ' := Lib.hid (heap_turn HQ.out hT (by have := PQ.out; have := RP.out; omega))
  have HP' := Lib.hid (heap_turn HP.out hT (by have := RP.out; omega))
  have TT' := Lib.hid (TT.out.trans (turn_weak hT (fun k hk => Or.inl hk)))
  have hx := heap_cellI (i := 5) hu1 rfl
  have hf := heap_free (i := 5) hu1
  have R' := Lib.hid hM
  have HU' := Lib.hid hu1
  clear hu1 hM hT R HQ HP TT HU D5
  go_upto_region 18 with fail
  have HU := Lib.hid (show (wa.setCell ⟨u, 5, none⟩ (.string v5)).heap[u]? = some (.cells #[.int .i64 v0, .int .i64 v1, .int .i64 v2, .int .i64 v3, .int .i64 v4, .string v5, .int .i64 0, .int .i64 0, .bool false, .int .i64 0, .string ⟨#[]⟩] 29 (0, 0)) from heap_set HU'.out)
  have hts : Turn (fun k => k = u) wa (wa.setCell ⟨u, 5, none⟩ (.string v5)) := Turn.setCell rfl
  have HQ := Lib.hid (heap_turn HQ'.out hts (by have := QU.out; omega))
  have HP := Lib.hid (heap_turn HP'.out hts (by have := PQ.out; have := QU.out; omega))
  have R := Lib.hid (R'.out.fresh hts (by have := PQ.out; have := QU.out; have := RP.out; omega) (fun h0 q' o e => by have := AP.out h0 q' o e; have := PQ.out; have := QU.out; omega))
  have TT := Lib.hid (TT'.out.trans (turn_weak hts (fun k hk => Or.inr (by have := PQ.out; have := QU.out; omega))))
  generalize wa.setCell ⟨u, 5, none⟩ (.string v5) = wb5 at HU HQ HP R TT ⊢
  clear hx hf hts HP' TT' R' HQ' HU'
  have D6 := Lib.hid (C6.out _ R.out)
  clear C6
  go_wp2_with fail
  with_reducible refine D6.out.mono ?_
  rintro e wa ⟨rfl, hM, hT⟩
  have hu1 := heap_turn HU.out hT (by have := QU.out; have := PQ.out; have := RP.out; omega)
  have HQ' := Lib.hid (heap_turn HQ.out hT (by have := PQ.out; have := RP.out; omega))
  have HP' := Lib.hid (heap_turn HP.out hT (by have := RP.out; omega))
  have TT' := Lib.hid (TT.out.trans (turn_weak hT (fun k hk => Or.inl hk)))
  have hx := heap_cellI (i := 6) hu1 rfl
  have hf := heap_free (i := 6) hu1
  have R' := Lib.hid hM
  have HU' := Lib.hid hu1
  clear hu1 hM hT R HQ HP TT HU D6
  go_upto_region 19 with fail
  have HU := Lib.hid (show (wa.setCell ⟨u, 6, none⟩ (.int .i64 v6)).heap[u]? = some (.cells #[.int .i64 v0, .int .i64 v1, .int .i64 v2, .int .i64 v3, .int .i64 v4, .string v5, .int .i64 v6, .int .i64 0, .bool false, .int .i64 0, .string ⟨#[]⟩] 29 (0, 0)) from heap_set HU'.out)
  have hts : Turn (fun k => k = u) wa (wa.setCell ⟨u, 6, none⟩ (.int .i64 v6)) := Turn.setCell rfl
  have HQ := Lib.hid (heap_turn HQ'.out hts (by have := QU.out; omega))
  have HP := Lib.hid (heap_turn HP'.out hts (by have := PQ.out; have := QU.out; omega))
  have R := Lib.hid (R'.out.fresh hts (by have := PQ.out; have := QU.out; have := RP.out; omega) (fun h0 q' o e => by have := AP.out h0 q' o e; have := PQ.out; have := QU.out; omega))
  have TT := Lib.hid (TT'.out.trans (turn_weak hts (fun k hk => Or.inr (by have := PQ.out; have := QU.out; omega))))
  generalize wa.setCell ⟨u, 6, none⟩ (.int .i64 v6) = wb6 at HU HQ HP R TT ⊢
  clear hx hf hts HP' TT' R' HQ' HU'
  have D7 := Lib.hid (C7.out _ R.out)
  clear C7
  go_wp2_with fail
  with_reducible refine D7.out.mono ?_
  rintro e wa ⟨rfl, hM, hT⟩
  have hu1 := heap_turn HU.out hT (by have := QU.out; have := PQ.out; have := RP.out; omega)
  have HQ' := Lib.hid (heap_turn HQ.out hT (by have := PQ.out; have := RP.out; omega))
  have HP' := Lib.hid (heap_turn HP.out hT (by have := RP.out; omega))
  have TT' := Lib.hid (TT.out.trans (turn_weak hT (fun k hk => Or.inl hk)))
  have hx := heap_cellI (i := 7) hu1 rfl
  have hf := heap_free (i := 7) hu1
  have R' := Lib.hid hM
  have HU' := Lib.hid hu1
  clear hu1 hM hT R HQ HP TT HU D7
  go_upto_region 20 with fail
  have HU := Lib.hid (show (wa.setCell ⟨u, 7, none⟩ (.int .i64 v7)).heap[u]? = some (.cells #[.int .i64 v0, .int .i64 v1, .int .i64 v2, .int .i64 v3, .int .i64 v4, .string v5, .int .i64 v6, .int .i64 v7, .bool false, .int .i64 0, .string ⟨#[]⟩] 29 (0, 0)) from heap_set HU'.out)
  have hts : Turn (fun k => k = u) wa (wa.setCell ⟨u, 7, none⟩ (.int .i64 v7)) := Turn.setCell rfl
  have HQ := Lib.hid (heap_turn HQ'.out hts (by have := QU.out; omega))
  have HP := Lib.hid (heap_turn HP'.out hts (by have := PQ.out; have := QU.out; omega))
  have R := Lib.hid (R'.out.fresh hts (by have := PQ.out; have := QU.out; have := RP.out; omega) (fun h0 q' o e => by have := AP.out h0 q' o e; have := PQ.out; have := QU.out; omega))
  have TT := Lib.hid (TT'.out.trans (turn_weak hts (fun k hk => Or.inr (by have := PQ.out; have := QU.out; omega))))
  generalize wa.setCell ⟨u, 7, none⟩ (.int .i64 v7) = wb7 at HU HQ HP R TT ⊢
  clear hx hf hts HP' TT' R' HQ' HU'
  have D8 := Lib.hid (C8.out _ R.out)
  clear C8
  go_wp2_with fail
  with_reducible refine D8.out.mono ?_
  rintro e wa ⟨rfl, hM, hT⟩
  have hu1 := heap_turn HU.out hT (by have := QU.out; have := PQ.out; have := RP.out; omega)
  have HQ' := Lib.hid (heap_turn HQ.out hT (by have := PQ.out; have := RP.out; omega))
  have HP' := Lib.hid (heap_turn HP.out hT (by have := RP.out; omega))
  have TT' := Lib.hid (TT.out.trans (turn_weak hT (fun k hk => Or.inl hk)))
  have hx := heap_cellI (i := 8) hu1 rfl
  have hf := heap_free (i := 8) hu1
  have R' := Lib.hid hM
  have HU' := Lib.hid hu1
  clear hu1 hM hT R HQ HP TT HU D8
  go_upto_region 21 with fail
  have HU := Lib.hid (show (wa.setCell ⟨u, 8, none⟩ (.bool (v8 == 1))).heap[u]? = some (.cells #[.int .i64 v0, .int .i64 v1, .int .i64 v2, .int .i64 v3, .int .i64 v4, .string v5, .int .i64 v6, .int .i64 v7, .bool (v8 == 1), .int .i64 0, .string ⟨#[]⟩] 29 (0, 0)) from heap_set HU'.out)
  have hts : Turn (fun k => k = u) wa (wa.setCell ⟨u, 8, none⟩ (.bool (v8 == 1))) := Turn.setCell rfl
  have HQ := Lib.hid (heap_turn HQ'.out hts (by have := QU.out; omega))
  have HP := Lib.hid (heap_turn HP'.out hts (by have := PQ.out; have := QU.out; omega))
  have R := Lib.hid (R'.out.fresh hts (by have := PQ.out; have := QU.out; have := RP.out; omega) (fun h0 q' o e => by have := AP.out h0 q' o e; have := PQ.out; have := QU.out; omega))
  have TT := Lib.hid (TT'.out.trans (turn_weak hts (fun k hk => Or.inr (by have := PQ.out; have := QU.out; omega))))
  generalize wa.setCell ⟨u, 8, none⟩ (.bool (v8 == 1)) = wb8 at HU HQ HP R TT ⊢
  clear hx hf hts HP' TT' R' HQ' HU'
  have D9 := Lib.hid (C9.out _ R.out)
  clear C9
  go_wp2_with fail
  with_reducible refine D9.out.mono ?_
  rintro e wa ⟨rfl, hM, hT⟩
  have hu1 := heap_turn HU.out hT (by have := QU.out; have := PQ.out; have := RP.out; omega)
  have HQ' := Lib.hid (heap_turn HQ.out hT (by have := PQ.out; have := RP.out; omega))
  have HP' := Lib.hid (heap_turn HP.out hT (by have := RP.out; omega))
  have TT' := Lib.hid (TT.out.trans (turn_weak hT (fun k hk => Or.inl hk)))
  have hx := heap_cellI (i := 9) hu1 rfl
  have hf := heap_free (i := 9) hu1
  have R' := Lib.hid hM
  have HU' := Lib.hid hu1
  clear hu1 hM hT R HQ HP TT HU D9
  go_upto_region 22 with fail
  have HU := Lib.hid (show (wa.setCell ⟨u, 9, none⟩ (.int .i64 v9)).heap[u]? = some (.cells #[.int .i64 v0, .int .i64 v1, .int .i64 v2, .int .i64 v3, .int .i64 v4, .string v5, .int .i64 v6, .int .i64 v7, .bool (v8 == 1), .int .i64 v9, .string ⟨#[]⟩] 29 (0, 0)) from heap_set HU'.out)
  have hts : Turn (fun k => k = u) wa (wa.setCell ⟨u, 9, none⟩ (.int .i64 v9)) := Turn.setCell rfl
  have HQ := Lib.hid (heap_turn HQ'.out hts (by have := QU.out; omega))
  have HP := Lib.hid (heap_turn HP'.out hts (by have := PQ.out; have := QU.out; omega))
  have R := Lib.hid (R'.out.fresh hts (by have := PQ.out; have := QU.out; have := RP.out; omega) (fun h0 q' o e => by have := AP.out h0 q' o e; have := PQ.out; have := QU.out; omega))
  have TT := Lib.hid (TT'.out.trans (turn_weak hts (fun k hk => Or.inr (by have := PQ.out; have := QU.out; omega))))
  generalize wa.setCell ⟨u, 9, none⟩ (.int .i64 v9) = wb9 at HU HQ HP R TT ⊢
  clear hx hf hts HP' TT' R' HQ' HU'
  have D10 := Lib.hid (C10.out _ R.out)
  clear C10
  go_wp2_with fail
  with_reducible refine D10.out.mono ?_
  rintro e wa ⟨rfl, hM, hT⟩
  have hu1 := heap_turn HU.out hT (by have := QU.out; have := PQ.out; have := RP.out; omega)
  have HQ' := Lib.hid (heap_turn HQ.out hT (by have := PQ.out; have := RP.out; omega))
  have HP' := Lib.hid (heap_turn HP.out hT (by have := RP.out; omega))
  have TT' := Lib.hid (TT.out.trans (turn_weak hT (fun k hk => Or.inl hk)))
  have hx := heap_cellI (i := 10) hu1 rfl
  have hf := heap_free (i := 10) hu1
  have R' := Lib.hid hM
  have HU' := Lib.hid hu1
  clear hu1 hM hT R HQ HP TT HU D10
  go_upto_region 23 with fail
  have HU := Lib.hid (show (wa.setCell ⟨u, 10, none⟩ (.string v10)).heap[u]? = some (.cells #[.int .i64 v0, .int .i64 v1, .int .i64 v2, .int .i64 v3, .int .i64 v4, .string v5, .int .i64 v6, .int .i64 v7, .bool (v8 == 1), .int .i64 v9, .string v10] 29 (0, 0)) from heap_set HU'.out)
  have hts : Turn (fun k => k = u) wa (wa.setCell ⟨u, 10, none⟩ (.string v10)) := Turn.setCell rfl
  have HQ := Lib.hid (heap_turn HQ'.out hts (by have := QU.out; omega))
  have HP := Lib.hid (heap_turn HP'.out hts (by have := PQ.out; have := QU.out; omega))
  have R := Lib.hid (R'.out.fresh hts (by have := PQ.out; have := QU.out; have := RP.out; omega) (fun h0 q' o e => by have := AP.out h0 q' o e; have := PQ.out; have := QU.out; omega))
  have TT := Lib.hid (TT'.out.trans (turn_weak hts (fun k hk => Or.inr (by have := PQ.out; have := QU.out; omega))))
  generalize wa.setCell ⟨u, 10, none⟩ (.string v10) = wb10 at HU HQ HP R TT ⊢
  clear hx hf hts HP' TT' R' HQ' HU'
  have HT := Lib.hid (show wb10.there q 6 11 from there_heap HQ.out (by decide))
  have EP : putsA #[.int .i64 3, .int .i64 0, .int .i64 0, .int .i64 0, .int .i64 0, .int .i64 0, .int .i64 0, .int .i64 0, .int .i64 0, .int .i64 0, .int .i64 0, .string ⟨#[]⟩, .int .i64 0, .int .i64 0, .bool false, .int .i64 0, .string ⟨#[]⟩, .int .i64 0, .int .i64 0, .int .i64 0, .int .i64 0, .int .i64 0, .int .i64 0, .slice .none 0 0, .bool false, .int .i64 0, .int .i64 0] 6 [.int .i64 v0, .int .i64 v1, .int .i64 v2, .int .i64 v3, .int .i64 v4, .string v5, .int .i64 v6, .int .i64 v7, .bool (v8 == 1), .int .i64 v9, .string v10] = #[.int .i64 3, .int .i64 0, .int .i64 0, .int .i64 0, .int .i64 0, .int .i64 0, .int .i64 v0, .int .i64 v1, .int .i64 v2, .int .i64 v3, .int .i64 v4, .string v5, .int .i64 v6, .int .i64 v7, .bool (v8 == 1), .int .i64 v9, .string v10, .int .i64 0, .int .i64 0, .int .i64 0, .int .i64 0, .int .i64 0, .int .i64 0, .slice .none 0 0, .bool false, .int .i64 0, .int .i64 0] := by kernel_rfl
  go_upto_region 38 with (first | (refine wpList_load_row rfl 29 (.tmp 6) rfl u rfl 29 #[.int .i64 v0, .int .i64 v1, .int .i64 v2, .int .i64 v3, .int .i64 v4, .string v5, .int .i64 v6, .int .i64 v7, .bool (v8 == 1), .int .i64 v9, .string v10] (0, 0) _ HU.out Try.underlying29 rfl (by kernel_rfl) ?_) | (refine wpList_store_mid rfl 29 (.tmp 75) (.tmp 74) rfl q 6 #[.int .i64 v0, .int .i64 v1, .int .i64 v2, .int .i64 v3, .int .i64 v4, .string v5, .int .i64 v6, .int .i64 v7, .bool (v8 == 1), .int .i64 v9, .string v10] rfl rfl HT.out (by kernel_rfl) (by simp [Value.oneCell']) ?_) | fail)
  have HQ2 := Lib.hid (heap_setCells [.int .i64 v0, .int .i64 v1, .int .i64 v2, .int .i64 v3, .int .i64 v4, .string v5, .int .i64 v6, .int .i64 v7, .bool (v8 == 1), .int .i64 v9, .string v10] 6 wb10 _ HQ.out)
  rw [EP] at HQ2
  have hts : Turn (fun k => k = q) wb10 (wb10.setCells q 6 [.int .i64 v0, .int .i64 v1, .int .i64 v2, .int .i64 v3, .int .i64 v4, .string v5, .int .i64 v6, .int .i64 v7, .bool (v8 == 1), .int .i64 v9, .string v10]) := turn_setCells [.int .i64 v0, .int .i64 v1, .int .i64 v2, .int .i64 v3, .int .i64 v4, .string v5, .int .i64 v6, .int .i64 v7, .bool (v8 == 1), .int .i64 v9, .string v10] 6 wb10
  have HP2 := Lib.hid (heap_turn HP.out hts (by have := PQ.out; omega))
  have R2 := Lib.hid (R.out.fresh hts (by have := PQ.out; have := RP.out; omega) (fun h0 q' o e => by have := AP.out h0 q' o e; have := PQ.out; omega))
  have TT2 := Lib.hid (TT.out.trans (turn_weak hts (fun k hk => Or.inr (by have := PQ.out; omega))))
  generalize (wb10.setCells q 6 [.int .i64 v0, .int .i64 v1, .int .i64 v2, .int .i64 v3, .int .i64 v4, .string v5, .int .i64 v6, .int .i64 v7, .bool (v8 == 1), .int .i64 v9, .string v10]) = w9 at HQ2 HP2 R2 TT2 ⊢
  clear hts HQ HP R TT HU EP HT
  go_wp2_with (first | (refine wpList_load_row rfl 46 (.tmp 5) rfl q rfl 46 #[.int .i64 3, .int .i64 0, .int .i64 0, .int .i64 0, .int .i64 0, .int .i64 0, .int .i64 v0, .int .i64 v1, .int .i64 v2, .int .i64 v3, .int .i64 v4, .string v5, .int .i64 v6, .int .i64 v7, .bool (v8 == 1), .int .i64 v9, .string v10, .int .i64 0, .int .i64 0, .int .i64 0, .int .i64 0, .int .i64 0, .int .i64 0, .slice .none 0 0, .bool false, .int .i64 0, .int .i64 0] (0, 0) _ HQ2.out Try.underlying46 rfl (by kernel_rfl) ?_) | (refine wpList_store_row rfl 46 (.tmp 4) (.tmp 118) rfl p #[.int .i64 3, .int .i64 0, .int .i64 0, .int .i64 0, .int .i64 0, .int .i64 0, .int .i64 v0, .int .i64 v1, .int .i64 v2, .int .i64 v3, .int .i64 v4, .string v5, .int .i64 v6, .int .i64 v7, .bool (v8 == 1), .int .i64 v9, .string v10, .int .i64 0, .int .i64 0, .int .i64 0, .int .i64 0, .int .i64 0, .int .i64 0, .slice .none 0 0, .bool false, .int .i64 0, .int .i64 0] rfl rfl 46 #[.int .i64 0, .int .i64 0, .int .i64 0, .int .i64 0, .int .i64 0, .int .i64 0, .int .i64 0, .int .i64 0, .int .i64 0, .int .i64 0, .int .i64 0, .string ⟨#[]⟩, .int .i64 0, .int .i64 0, .bool false, .int .i64 0, .string ⟨#[]⟩, .int .i64 0, .int .i64 0, .int .i64 0, .int .i64 0, .int .i64 0, .int .i64 0, .slice .none 0 0, .bool false, .int .i64 0, .int .i64 0] HP2.out (by kernel_rfl) rfl (by simp [Value.oneCell']) ?_) | fail)
  (try simp only [Exit.inBlock, Exit.then])
  refine bodyPost_ret (results_cell_row rfl _ _ p 46 #[.int .i64 3, .int .i64 0, .int .i64 0, .int .i64 0, .int .i64 0, .int .i64 0, .int .i64 v0, .int .i64 v1, .int .i64 v2, .int .i64 v3, .int .i64 v4, .string v5, .int .i64 v6, .int .i64 v7, .bool (v8 == 1), .int .i64 v9, .string v10, .int .i64 0, .int .i64 0, .int .i64 0, .int .i64 0, .int .i64 0, .int .i64 0, .slice .none 0 0, .bool false, .int .i64 0, .int .i64 0] (0, 0) _ rfl (setRow_heap _ p _ _ _ _ HP2.out) Try.underlying46 rfl (by kernel_rfl)) rfl ?_
  have PL := (Array.getElem?_eq_some_iff.1 HP2.out).1
  have bb := below_setRow (Below.refl p w9) (Nat.le_refl p) #[.int .i64 3, .int .i64 0, .int .i64 0, .int .i64 0, .int .i64 0, .int .i64 0, .int .i64 v0, .int .i64 v1, .int .i64 v2, .int .i64 v3, .int .i64 v4, .string v5, .int .i64 v6, .int .i64 v7, .bool (v8 == 1), .int .i64 v9, .string v10, .int .i64 0, .int .i64 0, .int .i64 0, .int .i64 0, .int .i64 0, .int .i64 0, .slice .none 0 0, .bool false, .int .i64 0, .int .i64 0]
  refine ⟨rfl, R2.out.old bb (by omega) RP.out AP.out, ?_⟩
  rw [HPH.out]
  exact TT2.out.trans (turn_weak (turn_above bb) (fun k hk => Or.inr hk))
end Go.Proofs.Ythboiklcjpnhbaa
