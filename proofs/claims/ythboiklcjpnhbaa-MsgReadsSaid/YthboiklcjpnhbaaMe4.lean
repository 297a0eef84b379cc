/- messages in the document: read, of numbers alone (by gen/me4.py) -/
import Derived.Test.YthboiklcjpnhbaaMe3
import Derived.Laws.CopyOwn
namespace Go.Proofs.Ythboiklcjpnhbaa
open Go.RowKit
set_option linter.unusedVariables false
set_option maxRecDepth 20000
set_option maxRecDepth 100000
theorem heap_cellI {w : World} {p i : Nat} {v : Value} {cs : Array Value} {t : TypeId} {fr : Nat × Nat} (h : w.heap[p]? = some (.cells cs t fr)) (h0 : cs[i]? = some v) : w.cell? ⟨p, i, none⟩ = some v := by
  simp [World.cell?, h, h0]
theorem heap_free {w : World} {p i : Nat} {cs : Array Value} {t : TypeId} (h : w.heap[p]? = some (.cells cs t (0, 0))) : w.frozen? ⟨p, i, none⟩ = false := by
  simp [World.frozen?, h]
theorem heap_set {w : World} {p i : Nat} {v : Value} {cs : Array Value} {t : TypeId} {fr : Nat × Nat} (h : w.heap[p]? = some (.cells cs t fr)) : (w.setCell ⟨p, i, none⟩ v).heap[p]? = some (.cells (cs.setIfInBounds i v) t fr) := by
  rw [setCell_eq_setRow w p i cs t fr v h]
  exact setRow_heap w p cs _ t fr h
theorem heap_turn {F : Nat → Prop} {w w' : World} {p : Nat} {o : Obj} (h : w.heap[p]? = some o) (t : Turn F w w') (hn : ¬ F p) : w'.heap[p]? = some o := (t.block p (Array.getElem?_eq_some_iff.1 h).1 hn).trans h
theorem turn_weak {F G : Nat → Prop} {w w' : World} (t : Turn F w w') (h : ∀ k, F k → G k) : Turn G w w' := ⟨t.os, t.tape, t.output, t.size, fun k hk hn => t.block k hk (fun hf => hn (h k hf))⟩
theorem turn_above {B : Nat} {w w' : World} (b : Below B w w') : Turn (fun k => B ≤ k) w w' := ⟨b.os, b.tape, b.output, b.size, fun k _ hn => b.block k (by omega)⟩
def DReadP (r : Nat) (a : Option Addr) (n cap : Nat) (bs : List Nat) (s : RS) (w : World) (V : Value) (e : Ending) (w' : World) : Prop := e = .returned V ∧ RdS r a n cap bs s w' ∧ Turn (fun k => k = r ∨ w.heap.size ≤ k) w w'
set_option maxHeartbeats 6400000 in
theorem dRead_Hello {r : Nat} {a : Option Addr} {n cap : Nat} {bs : List Nat} {s : RS} (w : World) (h : RdS r a n cap bs s w) :
    Calls Try.prog 51 #[.pointer (some ⟨r, 0, none⟩), .int .i64 1] w (DReadP r a n cap bs (dNum n 4 (dNum n 4 s)) w (.agg #[.int .i64 1, .int .i64 (dG bs n 4 s), .int .i64 (dG bs n 4 (dNum n 4 s)), .int .i64 0, .int .i64 0, .int .i64 0, .int .i64 0, .int .i64 0, .int .i64 0, .int .i64 0, .int .i64 0, .string ⟨#[]⟩, .int .i64 0, .int .i64 0, .bool false, .int .i64 0, .string ⟨#[]⟩, .int .i64 0, .int .i64 0, .int .i64 0, .int .i64 0, .int .i64 0, .int .i64 0, .slice .none 0 0, .bool false, .int .i64 0, .int .i64 0])) := by
  obtain ⟨v0, hv0⟩ : ∃ v, dG bs n 4 s = v := ⟨_, rfl⟩
  obtain ⟨s1, hs1⟩ : ∃ t, dNum n 4 s = t := ⟨_, rfl⟩
  have C0 := Lib.hid (fun w' (h : RdS r a n cap bs s w') => dsNum 4 4 rfl (by omega) (by omega) w' h)
  rw [hv0, hs1] at C0
  obtain ⟨v1, hv1⟩ : ∃ v, dG bs n 4 s1 = v := ⟨_, rfl⟩
  obtain ⟨s2, hs2⟩ : ∃ t, dNum n 4 s1 = t := ⟨_, rfl⟩
  have C1 := Lib.hid (fun w' (h : RdS r a n cap bs s1 w') => dsNum 4 4 rfl (by omega) (by omega) w' h)
  rw [hv1, hs2] at C1
  try rw [hs1]
  try rw [hs2]
  try rw [hv0]
  try rw [hv1]
  have LR := Lib.hid (lt_of_cell h.m.c0)
  have AL := Lib.hid (show 0 < n → ∀ q o, a = some ⟨q, o, none⟩ → q < w.heap.size from fun h0 => h.lt h0)
  obtain ⟨w1, hw1⟩ : ∃ w1, w.alloc (.cells #[.int .i64 0, .int .i64 0, .int .i64 0, .int .i64 0, .int .i64 0, .int .i64 0, .int .i64 0, .int .i64 0, .int .i64 0, .int .i64 0, .int .i64 0, .string ⟨#[]⟩, .int .i64 0, .int .i64 0, .bool false, .int .i64 0, .string ⟨#[]⟩, .int .i64 0, .int .i64 0, .int .i64 0, .int .i64 0, .int .i64 0, .int .i64 0, .slice .none 0 0, .bool false, .int .i64 0, .int .i64 0] 46) = w1 := ⟨_, rfl⟩
  have HP1 := Lib.hid (show w1.heap[w.heap.size]? = some (.cells #[.int .i64 0, .int .i64 0, .int .i64 0, .int .i64 0, .int .i64 0, .int .i64 0, .int .i64 0, .int .i64 0, .int .i64 0, .int .i64 0, .int .i64 0, .string ⟨#[]⟩, .int .i64 0, .int .i64 0, .bool false, .int .i64 0, .string ⟨#[]⟩, .int .i64 0, .int .i64 0, .int .i64 0, .int .i64 0, .int .i64 0, .int .i64 0, .slice .none 0 0, .bool false, .int .i64 0, .int .i64 0] 46 (0, 0)) from hw1 ▸ heap_alloc_new w _)
  have B1 := Lib.hid (show Below w.heap.size w w1 from hw1 ▸ below_one w _)
  have LW := Lib.hid (show w.heap.size < w1.heap.size from (Array.getElem?_eq_some_iff.1 HP1.out).1)
  have HQ1 := Lib.hid (heap_alloc_new w1 (.cells #[.int .i64 0, .int .i64 0, .int .i64 0, .int .i64 0, .int .i64 0, .int .i64 0, .int .i64 0, .int .i64 0, .int .i64 0, .int .i64 0, .int .i64 0, .string ⟨#[]⟩, .int .i64 0, .int .i64 0, .bool false, .int .i64 0, .string ⟨#[]⟩, .int .i64 0, .int .i64 0, .int .i64 0, .int .i64 0, .int .i64 0, .int .i64 0, .slice .none 0 0, .bool false, .int .i64 0, .int .i64 0] 46))
  obtain ⟨p, hp⟩ : ∃ p, w.heap.size = p := ⟨_, rfl⟩
  have HPH := Lib.hid hp
  rw [hp] at HP1
  have M0 := Lib.hid h
  clear h hv0 hs1 hv1 hs2
  go_enter Try.func51, Try.ntmps51
  go_upto_region 1 with fail
  try rw [hw1]
  try simp only [hp]
  clear hw1 hp
  go_upto_region 2 with (first | (refine wpList_store_row rfl 46 (.tmp 5) (.tmp 9) rfl w1.heap.size #[.int .i64 1, .int .i64 0, .int .i64 0, .int .i64 0, .int .i64 0, .int .i64 0, .int .i64 0, .int .i64 0, .int .i64 0, .int .i64 0, .int .i64 0, .string ⟨#[]⟩, .int .i64 0, .int .i64 0, .bool false, .int .i64 0, .string ⟨#[]⟩, .int .i64 0, .int .i64 0, .int .i64 0, .int .i64 0, .int .i64 0, .int .i64 0, .slice .none 0 0, .bool false, .int .i64 0, .int .i64 0] rfl rfl 46 #[.int .i64 0, .int .i64 0, .int .i64 0, .int .i64 0, .int .i64 0, .int .i64 0, .int .i64 0, .int .i64 0, .int .i64 0, .int .i64 0, .int .i64 0, .string ⟨#[]⟩, .int .i64 0, .int .i64 0, .bool false, .int .i64 0, .string ⟨#[]⟩, .int .i64 0, .int .i64 0, .int .i64 0, .int .i64 0, .int .i64 0, .int .i64 0, .slice .none 0 0, .bool false, .int .i64 0, .int .i64 0] HQ1.out (by kernel_rfl) rfl (by simp [Value.oneCell']) ?_) | fail)
  obtain ⟨w2, hw2⟩ : ∃ w2, (w1.alloc (.cells #[.int .i64 0, .int .i64 0, .int .i64 0, .int .i64 0, .int .i64 0, .int .i64 0, .int .i64 0, .int .i64 0, .int .i64 0, .int .i64 0, .int .i64 0, .string ⟨#[]⟩, .int .i64 0, .int .i64 0, .bool false, .int .i64 0, .string ⟨#[]⟩, .int .i64 0, .int .i64 0, .int .i64 0, .int .i64 0, .int .i64 0, .int .i64 0, .slice .none 0 0, .bool false, .int .i64 0, .int .i64 0] 46)).setRow w1.heap.size #[.int .i64 1, .int .i64 0, .int .i64 0, .int .i64 0, .int .i64 0, .int .i64 0, .int .i64 0, .int .i64 0, .int .i64 0, .int .i64 0, .int .i64 0, .string ⟨#[]⟩, .int .i64 0, .int .i64 0, .bool false, .int .i64 0, .string ⟨#[]⟩, .int .i64 0, .int .i64 0, .int .i64 0, .int .i64 0, .int .i64 0, .int .i64 0, .slice .none 0 0, .bool false, .int .i64 0, .int .i64 0] = w2 := ⟨_, rfl⟩
  have HQ := Lib.hid (show w2.heap[w1.heap.size]? = some (.cells #[.int .i64 1, .int .i64 0, .int .i64 0, .int .i64 0, .int .i64 0, .int .i64 0, .int .i64 0, .int .i64 0, .int .i64 0, .int .i64 0, .int .i64 0, .string ⟨#[]⟩, .int .i64 0, .int .i64 0, .bool false, .int .i64 0, .string ⟨#[]⟩, .int .i64 0, .int .i64 0, .int .i64 0, .int .i64 0, .int .i64 0, .int .i64 0, .slice .none 0 0, .bool false, .int .i64 0, .int .i64 0] 46 (0, 0)) from hw2 ▸ setRow_heap _ _ _ _ _ _ HQ1.out)
  have b12 : Below w1.heap.size w1 w2 := hw2 ▸ below_setRow (below_one w1 _) (Nat.le_refl _) #[.int .i64 1, .int .i64 0, .int .i64 0, .int .i64 0, .int .i64 0, .int .i64 0, .int .i64 0, .int .i64 0, .int .i64 0, .int .i64 0, .int .i64 0, .string ⟨#[]⟩, .int .i64 0, .int .i64 0, .bool false, .int .i64 0, .string ⟨#[]⟩, .int .i64 0, .int .i64 0, .int .i64 0, .int .i64 0, .int .i64 0, .int .i64 0, .slice .none 0 0, .bool false, .int .i64 0, .int .i64 0]
  have HP := Lib.hid (heap_keep HP1.out b12)
  have BW := B1.out.trans (b12.mono B1.out.size)
  have R := Lib.hid (M0.out.below BW)
  have TT := Lib.hid (show Turn (fun k => k = r ∨ p ≤ k) w w2 from Turn.of_below BW)
  rw [hw2]
  obtain ⟨q, hq⟩ : ∃ q, w1.heap.size = q := ⟨_, rfl⟩
  have PQ := Lib.hid (show p < q from by have h1 := LW.out; have h2 := HPH.out; omega)
  have RP := Lib.hid (show r < p from by have h1 := LR.out; have h2 := HPH.out; omega)
  have AP := Lib.hid (show 0 < n → ∀ q' o, a = some ⟨q', o, none⟩ → q' < p from fun h0 q' o e => by have h1 := AL.out h0 q' o e; have h2 := HPH.out; omega)
  rw [hq] at HQ
  try simp only [hq]
  clear hw2 b12 BW HP1 HQ1 M0 hq LW LR AL B1
  have D0 := Lib.hid (C0.out _ R.out)
  clear C0
  go_wp2_with fail
  with_reducible refine D0.out.mono ?_
  rintro e wa ⟨rfl, hM, hT⟩
  have hq1 := heap_turn HQ.out hT (by have := PQ.out; have := RP.out; omega)
  have HP' := Lib.hid (heap_turn HP.out hT (by have := RP.out; omega))
  have TT' := Lib.hid (TT.out.trans (turn_weak hT (fun k hk => Or.inl hk)))
  have hx := heap_cellI (i := 1) hq1 rfl
  have hf := heap_free (i := 1) hq1
  have R' := Lib.hid hM
  have HQ' := Lib.hid hq1
  clear hq1 hM hT R HQ HP TT D0
  go_upto_region 5 with fail
  have HQ := Lib.hid (show (wa.setCell ⟨q, 1, none⟩ (.int .i64 v0)).heap[q]? = some (.cells #[.int .i64 1, .int .i64 v0, .int .i64 0, .int .i64 0, .int .i64 0, .int .i64 0, .int .i64 0, .int .i64 0, .int .i64 0, .int .i64 0, .int .i64 0, .string ⟨#[]⟩, .int .i64 0, .int .i64 0, .bool false, .int .i64 0, .string ⟨#[]⟩, .int .i64 0, .int .i64 0, .int .i64 0, .int .i64 0, .int .i64 0, .int .i64 0, .slice .none 0 0, .bool false, .int .i64 0, .int .i64 0] 46 (0, 0)) from heap_set HQ'.out)
  have hts : Turn (fun k => k = q) wa (wa.setCell ⟨q, 1, none⟩ (.int .i64 v0)) := Turn.setCell rfl
  have HP := Lib.hid (heap_turn HP'.out hts (by have := PQ.out; omega))
  have R := Lib.hid (R'.out.fresh hts (by have := PQ.out; have := RP.out; omega) (fun h0 q' o e => by have := AP.out h0 q' o e; have := PQ.out; omega))
  have TT := Lib.hid (TT'.out.trans (turn_weak hts (fun k hk => Or.inr (by have := PQ.out; omega))))
  generalize wa.setCell ⟨q, 1, none⟩ (.int .i64 v0) = wb0 at HQ HP R TT ⊢
  clear hx hf hts HP' TT' R' HQ'
  have D1 := Lib.hid (C1.out _ R.out)
  clear C1
  go_wp2_with fail
  with_reducible refine D1.out.mono ?_
  rintro e wa ⟨rfl, hM, hT⟩
  have hq1 := heap_turn HQ.out hT (by have := PQ.out; have := RP.out; omega)
  have HP' := Lib.hid (heap_turn HP.out hT (by have := RP.out; omega))
  have TT' := Lib.hid (TT.out.trans (turn_weak hT (fun k hk => Or.inl hk)))
  have hx := heap_cellI (i := 2) hq1 rfl
  have hf := heap_free (i := 2) hq1
  have R' := Lib.hid hM
  have HQ' := Lib.hid hq1
  clear hq1 hM hT R HQ HP TT D1
  go_upto_region 38 with fail
  have HQ := Lib.hid (show (wa.setCell ⟨q, 2, none⟩ (.int .i64 v1)).heap[q]? = some (.cells #[.int .i64 1, .int .i64 v0, .int .i64 v1, .int .i64 0, .int .i64 0, .int .i64 0, .int .i64 0, .int .i64 0, .int .i64 0, .int .i64 0, .int .i64 0, .string ⟨#[]⟩, .int .i64 0, .int .i64 0, .bool false, .int .i64 0, .string ⟨#[]⟩, .int .i64 0, .int .i64 0, .int .i64 0, .int .i64 0, .int .i64 0, .int .i64 0, .slice .none 0 0, .bool false, .int .i64 0, .int .i64 0] 46 (0, 0)) from heap_set HQ'.out)
  have hts : Turn (fun k => k = q) wa (wa.setCell ⟨q, 2, none⟩ (.int .i64 v1)) := Turn.setCell rfl
  have HP := Lib.hid (heap_turn HP'.out hts (by have := PQ.out; omega))
  have R := Lib.hid (R'.out.fresh hts (by have := PQ.out; have := RP.out; omega) (fun h0 q' o e => by have := AP.out h0 q' o e; have := PQ.out; omega))
  have TT := Lib.hid (TT'.out.trans (turn_weak hts (fun k hk => Or.inr (by have := PQ.out; omega))))
  generalize wa.setCell ⟨q, 2, none⟩ (.int .i64 v1) = wb1 at HQ HP R TT ⊢
  clear hx hf hts HP' TT' R' HQ'
  go_wp2_with (first | (refine wpList_load_row rfl 46 (.tmp 5) rfl q rfl 46 #[.int .i64 1, .int .i64 v0, .int .i64 v1, .int .i64 0, .int .i64 0, .int .i64 0, .int .i64 0, .int .i64 0, .int .i64 0, .int .i64 0, .int .i64 0, .string ⟨#[]⟩, .int .i64 0, .int .i64 0, .bool false, .int .i64 0, .string ⟨#[]⟩, .int .i64 0, .int .i64 0, .int .i64 0, .int .i64 0, .int .i64 0, .int .i64 0, .slice .none 0 0, .bool false, .int .i64 0, .int .i64 0] (0, 0) _ HQ.out Try.underlying46 rfl (by kernel_rfl) ?_) | (refine wpList_store_row rfl 46 (.tmp 4) (.tmp 118) rfl p #[.int .i64 1, .int .i64 v0, .int .i64 v1, .int .i64 0, .int .i64 0, .int .i64 0, .int .i64 0, .int .i64 0, .int .i64 0, .int .i64 0, .int .i64 0, .string ⟨#[]⟩, .int .i64 0, .int .i64 0, .bool false, .int .i64 0, .string ⟨#[]⟩, .int .i64 0, .int .i64 0, .int .i64 0, .int .i64 0, .int .i64 0, .int .i64 0, .slice .none 0 0, .bool false, .int .i64 0, .int .i64 0] rfl rfl 46 #[.int .i64 0, .int .i64 0, .int .i64 0, .int .i64 0, .int .i64 0, .int .i64 0, .int .i64 0, .int .i64 0, .int .i64 0, .int .i64 0, .int .i64 0, .string ⟨#[]⟩, .int .i64 0, .int .i64 0, .bool false, .int .i64 0, .string ⟨#[]⟩, .int .i64 0, .int .i64 0, .int .i64 0, .int .i64 0, .int .i64 0, .int .i64 0, .slice .none 0 0, .bool false, .int .i64 0, .int .i64 0] HP.out (by kernel_rfl) rfl (by simp [Value.oneCell']) ?_) | fail)
  (try simp only [Exit.inBlock, Exit.then])
  refine bodyPost_ret (results_cell_row rfl _ _ p 46 #[.int .i64 1, .int .i64 v0, .int .i64 v1, .int .i64 0, .int .i64 0, .int .i64 0, .int .i64 0, .int .i64 0, .int .i64 0, .int .i64 0, .int .i64 0, .string ⟨#[]⟩, .int .i64 0, .int .i64 0, .bool false, .int .i64 0, .string ⟨#[]⟩, .int .i64 0, .int .i64 0, .int .i64 0, .int .i64 0, .int .i64 0, .int .i64 0, .slice .none 0 0, .bool false, .int .i64 0, .int .i64 0] (0, 0) _ rfl (setRow_heap _ p _ _ _ _ HP.out) Try.underlying46 rfl (by kernel_rfl)) rfl ?_
  have PL := (Array.getElem?_eq_some_iff.1 HP.out).1
  have bb := below_setRow (Below.refl p wb1) (Nat.le_refl p) #[.int .i64 1, .int .i64 v0, .int .i64 v1, .int .i64 0, .int .i64 0, .int .i64 0, .int .i64 0, .int .i64 0, .int .i64 0, .int .i64 0, .int .i64 0, .string ⟨#[]⟩, .int .i64 0, .int .i64 0, .bool false, .int .i64 0, .string ⟨#[]⟩, .int .i64 0, .int .i64 0, .int .i64 0, .int .i64 0, .int .i64 0, .int .i64 0, .slice .none 0 0, .bool false, .int .i64 0, .int .i64 0]
  refine ⟨rfl, R.out.old bb (by omega) RP.out AP.out, ?_⟩
  rw [HPH.out]
  exact TT.out.trans (turn_weak (turn_above bb) (fun k hk => Or.inr hk))
set_option maxHeartbeats 6400000 in
theorem dRead_Grant {r : Nat} {a : Option Addr} {n cap : Nat} {bs : List Nat} {s : RS} (w : World) (h : RdS r a n cap bs s w) :
    Calls Try.prog 51 #[.pointer (some ⟨r, 0, none⟩), .int .i64 2] w (DReadP r a n cap bs (dNum n 4 (dNum n 4 (dNum n 4 s))) w (.agg #[.int .i64 2, .int .i64 0, .int .i64 0, .int .i64 (dG bs n 4 s), .int .i64 (dG bs n 4 (dNum n 4 s)), .int .i64 (dG bs n 4 (dNum n 4 (dNum n 4 s))), .int .i64 0, .int .i64 0, .int .i64 0, .int .i64 0, .int .i64 0, .string ⟨#[]⟩, .int .i64 0, .int .i64 0, .bool false, .int .i64 0, .string ⟨#[]⟩, .int .i64 0, .int .i64 0, .int .i64 0, .int .i64 0, .int .i64 0, .int .i64 0, .slice .none 0 0, .bool false, .int .i64 0, .int .i64 0])) := by
  obtain ⟨v0, hv0⟩ : ∃ v, dG bs n 4 s = v := ⟨_, rfl⟩
  obtain ⟨s1, hs1⟩ : ∃ t, dNum n 4 s = t := ⟨_, rfl⟩
  have C0 := Lib.hid (fun w' (h : RdS r a n cap bs s w') => dsNum 4 4 rfl (by omega) (by omega) w' h)
  rw [hv0, hs1] at C0
  obtain ⟨v1, hv1⟩ : ∃ v, dG bs n 4 s1 = v := ⟨_, rfl⟩
  obtain ⟨s2, hs2⟩ : ∃ t, dNum n 4 s1 = t := ⟨_, rfl⟩
  have C1 := Lib.hid (fun w' (h : RdS r a n cap bs s1 w') => dsNum 4 4 rfl (by omega) (by omega) w' h)
  rw [hv1, hs2] at C1
  obtain ⟨v2, hv2⟩ : ∃ v, dG bs n 4 s2 = v := ⟨_, rfl⟩
  obtain ⟨s3, hs3⟩ : ∃ t, dNum n 4 s2 = t := ⟨_, rfl⟩
  have C2 := Lib.hid (fun w' (h : RdS r a n cap bs s2 w') => dsNum 4 4 rfl (by omega) (by omega) w' h)
  rw [hv2, hs3] at C2
  try rw [hs1]
  try rw [hs2]
  try rw [hs3]
  try rw [hv0]
  try rw [hv1]
  try rw [hv2]
  have LR := Lib.hid (lt_of_cell h.m.c0)
  have AL := Lib.hid (show 0 < n → ∀ q o, a = some ⟨q, o, none⟩ → q < w.heap.size from fun h0 => h.lt h0)
  obtain ⟨w1, hw1⟩ : ∃ w1, w.alloc (.cells #[.int .i64 0, .int .i64 0, .int .i64 0, .int .i64 0, .int .i64 0, .int .i64 0, .int .i64 0, .int .i64 0, .int .i64 0, .int .i64 0, .int .i64 0, .string ⟨#[]⟩, .int .i64 0, .int .i64 0, .bool false, .int .i64 0, .string ⟨#[]⟩, .int .i64 0, .int .i64 0, .int .i64 0, .int .i64 0, .int .i64 0, .int .i64 0, .slice .none 0 0, .bool false, .int .i64 0, .int .i64 0] 46) = w1 := ⟨_, rfl⟩
  have HP1 := Lib.hid (show w1.heap[w.heap.size]? = some (.cells #[.int .i64 0, .int .i64 0, .int .i64 0, .int .i64 0, .int .i64 0, .int .i64 0, .int .i64 0, .int .i64 0, .int .i64 0, .int .i64 0, .int .i64 0, .string ⟨#[]⟩, .int .i64 0, .int .i64 0, .bool false, .int .i64 0, .string ⟨#[]⟩, .int .i64 0, .int .i64 0, .int .i64 0, .int .i64 0, .int .i64 0, .int .i64 0, .slice .none 0 0, .bool false, .int .i64 0, .int .i64 0] 46 (0, 0)) from hw1 ▸ heap_alloc_new w _)
  have B1 := Lib.hid (show Below w.heap.size w w1 from hw1 ▸ below_one w _)
  have LW := Lib.hid (show w.heap.size < w1.heap.size from (Array.getElem?_eq_some_iff.1 HP1.out).1)
  have HQ1 := Lib.hid (heap_alloc_new w1 (.cells #[.int .i64 0, .int .i64 0, .int .i64 0, .int .i64 0, .int .i64 0, .int .i64 0, .int .i64 0, .int .i64 0, .int .i64 0, .int .i64 0, .int .i64 0, .string ⟨#[]⟩, .int .i64 0, .int .i64 0, .bool false, .int .i64 0, .string ⟨#[]⟩, .int .i64 0, .int .i64 0, .int .i64 0, .int .i64 0, .int .i64 0, .int .i64 0, .slice .none 0 0, .bool false, .int .i64 0, .int .i64 0] 46))
  obtain ⟨p, hp⟩ : ∃ p, w.heap.size = p := ⟨_, rfl⟩
  have HPH := Lib.hid hp
  rw [hp] at HP1
  have M0 := Lib.hid h
  clear h hv0 hs1 hv1 hs2 hv2 hs3
  go_enter Try.func51, Try.ntmps51
  go_upto_region 1 with fail
  try rw [hw1]
  try simp only [hp]
  clear hw1 hp
  go_upto_region 2 with (first | (refine wpList_store_row rfl 46 (.tmp 5) (.tmp 9) rfl w1.heap.size #[.int .i64 2, .int .i64 0, .int .i64 0, .int .i64 0, .int .i64 0, .int .i64 0, .int .i64 0, .int .i64 0, .int .i64 0, .int .i64 0, .int .i64 0, .string ⟨#[]⟩, .int .i64 0, .int .i64 0, .bool false, .int .i64 0, .string ⟨#[]⟩, .int .i64 0, .int .i64 0, .int .i64 0, .int .i64 0, .int .i64 0, .int .i64 0, .slice .none 0 0, .bool false, .int .i64 0, .int .i64 0] rfl rfl 46 #[.int .i64 0, .int .i64 0, .int .i64 0, .int .i64 0, .int .i64 0, .int .i64 0, .int .i64 0, .int .i64 0, .int .i64 0, .int .i64 0, .int .i64 0, .string ⟨#[]⟩, .int .i64 0, .int .i64 0, .bool false, .int .i64 0, .string ⟨#[]⟩, .int .i64 0, .int .i64 0, .int .i64 0, .int .i64 0, .int .i64 0, .int .i64 0, .slice .none 0 0, .bool false, .int .i64 0, .int .i64 0] HQ1.out (by kernel_rfl) rfl (by simp [Value.oneCell']) ?_) | fail)
  obtain ⟨w2, hw2⟩ : ∃ w2, (w1.alloc (.cells #[.int .i64 0, .int .i64 0, .int .i64 0, .int .i64 0, .int .i64 0, .int .i64 0, .int .i64 0, .int .i64 0, .int .i64 0, .int .i64 0, .int .i64 0, .string ⟨#[]⟩, .int .i64 0, .int .i64 0, .bool false, .int .i64 0, .string ⟨#[]⟩, .int .i64 0, .int .i64 0, .int .i64 0, .int .i64 0, .int .i64 0, .int .i64 0, .slice .none 0 0, .bool false, .int .i64 0, .int .i64 0] 46)).setRow w1.heap.size #[.int .i64 2, .int .i64 0, .int .i64 0, .int .i64 0, .int .i64 0, .int .i64 0, .int .i64 0, .int .i64 0, .int .i64 0, .int .i64 0, .int .i64 0, .string ⟨#[]⟩, .int .i64 0, .int .i64 0, .bool false, .int .i64 0, .string ⟨#[]⟩, .int .i64 0, .int .i64 0, .int .i64 0, .int .i64 0, .int .i64 0, .int .i64 0, .slice .none 0 0, .bool false, .int .i64 0, .int .i64 0] = w2 := ⟨_, rfl⟩
  have HQ := Lib.hid (show w2.heap[w1.heap.size]? = some (.cells #[.int .i64 2, .int .i64 0, .int .i64 0, .int .i64 0, .int .i64 0, .int .i64 0, .int .i64 0, .int .i64 0, .int .i64 0, .int .i64 0, .int .i64 0, .string ⟨#[]⟩, .int .i64 0, .int .i64 0, .bool false, .int .i64 0, .string ⟨#[]⟩, .int .i64 0, .int .i64 0, .int .i64 0, .int .i64 0, .int .i64 0, .int .i64 0, .slice .none 0 0, .bool false, .int .i64 0, .int .i64 0] 46 (0, 0)) from hw2 ▸ setRow_heap _ _ _ _ _ _ HQ1.out)
  have b12 : Below w1.heap.size w1 w2 := hw2 ▸ below_setRow (below_one w1 _) (Nat.le_refl _) #[.int .i64 2, .int .i64 0, .int .i64 0, .int .i64 0, .int .i64 0, .int .i64 0, .int .i64 0, .int .i64 0, .int .i64 0, .int .i64 0, .int .i64 0, .string ⟨#[]⟩, .int .i64 0, .int .i64 0, .bool false, .int .i64 0, .string ⟨#[]⟩, .int .i64 0, .int .i64 0, .int .i64 0, .int .i64 0, .int .i64 0, .int .i64 0, .slice .none 0 0, .bool false, .int .i64 0, .int .i64 0]
  have HP := Lib.hid (heap_keep HP1.out b12)
  have BW := B1.out.trans (b12.mono B1.out.size)
  have R := Lib.hid (M0.out.below BW)
  have TT := Lib.hid (show Turn (fun k => k = r ∨ p ≤ k) w w2 from Turn.of_below BW)
  rw [hw2]
  obtain ⟨q, hq⟩ : ∃ q, w1.heap.size = q := ⟨_, rfl⟩
  have PQ := Lib.hid (show p < q from by have h1 := LW.out; have h2 := HPH.out; omega)
  have RP := Lib.hid (show r < p from by have h1 := LR.out; have h2 := HPH.out; omega)
  have AP := Lib.hid (show 0 < n → ∀ q' o, a = some ⟨q', o, none⟩ → q' < p from fun h0 q' o e => by have h1 := AL.out h0 q' o e; have h2 := HPH.out; omega)
  rw [hq] at HQ
  try simp only [hq]
  clear hw2 b12 BW HP1 HQ1 M0 hq LW LR AL B1
  have D0 := Lib.hid (C0.out _ R.out)
  clear C0
  go_wp2_with fail
  with_reducible refine D0.out.mono ?_
  rintro e wa ⟨rfl, hM, hT⟩
  have hq1 := heap_turn HQ.out hT (by have := PQ.out; have := RP.out; omega)
  have HP' := Lib.hid (heap_turn HP.out hT (by have := RP.out; omega))
  have TT' := Lib.hid (TT.out.trans (turn_weak hT (fun k hk => Or.inl hk)))
  have hx := heap_cellI (i := 3) hq1 rfl
  have hf := heap_free (i := 3) hq1
  have R' := Lib.hid hM
  have HQ' := Lib.hid hq1
  clear hq1 hM hT R HQ HP TT D0
  go_upto_region 8 with fail
  have HQ := Lib.hid (show (wa.setCell ⟨q, 3, none⟩ (.int .i64 v0)).heap[q]? = some (.cells #[.int .i64 2, .int .i64 0, .int .i64 0, .int .i64 v0, .int .i64 0, .int .i64 0, .int .i64 0, .int .i64 0, .int .i64 0, .int .i64 0, .int .i64 0, .string ⟨#[]⟩, .int .i64 0, .int .i64 0, .bool false, .int .i64 0, .string ⟨#[]⟩, .int .i64 0, .int .i64 0, .int .i64 0, .int .i64 0, .int .i64 0, .int .i64 0, .slice .none 0 0, .bool false, .int .i64 0, .int .i64 0] 46 (0, 0)) from heap_set HQ'.out)
  have hts : Turn (fun k => k = q) wa (wa.setCell ⟨q, 3, none⟩ (.int .i64 v0)) := Turn.setCell rfl
  have HP := Lib.hid (heap_turn HP'.out hts (by have := PQ.out; omega))
  have R := Lib.hid (R'.out.fresh hts (by have := PQ.out; have := RP.out; omega) (fun h0 q' o e => by have := AP.out h0 q' o e; have := PQ.out; omega))
  have TT := Lib.hid (TT'.out.trans (turn_weak hts (fun k hk => Or.inr (by have := PQ.out; omega))))
  generalize wa.setCell ⟨q, 3, none⟩ (.int .i64 v0) = wb0 at HQ HP R TT ⊢
  clear hx hf hts HP' TT' R' HQ'
  have D1 := Lib.hid (C1.out _ R.out)
  clear C1
  go_wp2_with fail
  with_reducible refine D1.out.mono ?_
  rintro e wa ⟨rfl, hM, hT⟩
  have hq1 := heap_turn HQ.out hT (by have := PQ.out; have := RP.out; omega)
  have HP' := Lib.hid (heap_turn HP.out hT (by have := RP.out; omega))
  have TT' := Lib.hid (TT.out.trans (turn_weak hT (fun k hk => Or.inl hk)))
  have hx := heap_cellI (i := 4) hq1 rfl
  have hf := heap_free (i := 4) hq1
  have R' := Lib.hid hM
  have HQ' := Lib.hid hq1
  clear hq1 hM hT R HQ HP TT D1
  go_upto_region 9 with fail
  have HQ := Lib.hid (show (wa.setCell ⟨q, 4, none⟩ (.int .i64 v1)).heap[q]? = some (.cells #[.int .i64 2, .int .i64 0, .int .i64 0, .int .i64 v0, .int .i64 v1, .int .i64 0, .int .i64 0, .int .i64 0, .int .i64 0, .int .i64 0, .int .i64 0, .string ⟨#[]⟩, .int .i64 0, .int .i64 0, .bool false, .int .i64 0, .string ⟨#[]⟩, .int .i64 0, .int .i64 0, .int .i64 0, .int .i64 0, .int .i64 0, .int .i64 0, .slice .none 0 0, .bool false, .int .i64 0, .int .i64 0] 46 (0, 0)) from heap_set HQ'.out)
  have hts : Turn (fun k => k = q) wa (wa.setCell ⟨q, 4, none⟩ (.int .i64 v1)) := Turn.setCell rfl
  have HP := Lib.hid (heap_turn HP'.out hts (by have := PQ.out; omega))
  have R := Lib.hid (R'.out.fresh hts (by have := PQ.out; have := RP.out; omega) (fun h0 q' o e => by have := AP.out h0 q' o e; have := PQ.out; omega))
  have TT := Lib.hid (TT'.out.trans (turn_weak hts (fun k hk => Or.inr (by have := PQ.out; omega))))
  generalize wa.setCell ⟨q, 4, none⟩ (.int .i64 v1) = wb1 at HQ HP R TT ⊢
  clear hx hf hts HP' TT' R' HQ'
  have D2 := Lib.hid (C2.out _ R.out)
  clear C2
  go_wp2_with fail
  with_reducible refine D2.out.mono ?_
  rintro e wa ⟨rfl, hM, hT⟩
  have hq1 := heap_turn HQ.out hT (by have := PQ.out; have := RP.out; omega)
  have HP' := Lib.hid (heap_turn HP.out hT (by have := RP.out; omega))
  have TT' := Lib.hid (TT.out.trans (turn_weak hT (fun k hk => Or.inl hk)))
  have hx := heap_cellI (i := 5) hq1 rfl
  have hf := heap_free (i := 5) hq1
  have R' := Lib.hid hM
  have HQ' := Lib.hid hq1
  clear hq1 hM hT R HQ HP TT D2
  go_upto_region 38 with fail
  have HQ := Lib.hid (show (wa.setCell ⟨q, 5, none⟩ (.int .i64 v2)).heap[q]? = some (.cells #[.int .i64 2, .int .i64 0, .int .i64 0, .int .i64 v0, .int .i64 v1, .int .i64 v2, .int .i64 0, .int .i64 0, .int .i64 0, .int .i64 0, .int .i64 0, .string ⟨#[]⟩, .int .i64 0, .int .i64 0, .bool false, .int .i64 0, .string ⟨#[]⟩, .int .i64 0, .int .i64 0, .int .i64 0, .int .i64 0, .int .i64 0, .int .i64 0, .slice .none 0 0, .bool false, .int .i64 0, .int .i64 0] 46 (0, 0)) from heap_set HQ'.out)
  have hts : Turn (fun k => k = q) wa (wa.setCell ⟨q, 5, none⟩ (.int .i64 v2)) := Turn.setCell rfl
  have HP := Lib.hid (heap_turn HP'.out hts (by have := PQ.out; omega))
  have R := Lib.hid (R'.out.fresh hts (by have := PQ.out; have := RP.out; omega) (fun h0 q' o e => by have := AP.out h0 q' o e; have := PQ.out; omega))
  have TT := Lib.hid (TT'.out.trans (turn_weak hts (fun k hk => Or.inr (by have := PQ.out; omega))))
  generalize wa.setCell ⟨q, 5, none⟩ (.int .i64 v2) = wb2 at HQ HP R TT ⊢
  clear hx hf hts HP' TT' R' HQ'
  go_wp2_with (first | (refine wpList_load_row rfl 46 (.tmp 5) rfl q rfl 46 #[.int .i64 2, .int .i64 0, .int .i64 0, .int .i64 v0, .int .i64 v1, .int .i64 v2, .int .i64 0, .int .i64 0, .int .i64 0, .int .i64 0, .int .i64 0, .string ⟨#[]⟩, .int .i64 0, .int .i64 0, .bool false, .int .i64 0, .string ⟨#[]⟩, .int .i64 0, .int .i64 0, .int .i64 0, .int .i64 0, .int .i64 0, .int .i64 0, .slice .none 0 0, .bool false, .int .i64 0, .int .i64 0] (0, 0) _ HQ.out Try.underlying46 rfl (by kernel_rfl) ?_) | (refine wpList_store_row rfl 46 (.tmp 4) (.tmp 118) rfl p #[.int .i64 2, .int .i64 0, .int .i64 0, .int .i64 v0, .int .i64 v1, .int .i64 v2, .int .i64 0, .int .i64 0, .int .i64 0, .int .i64 0, .int .i64 0, .string ⟨#[]⟩, .int .i64 0, .int .i64 0, .bool false, .int .i64 0, .string ⟨#[]⟩, .int .i64 0, .int .i64 0, .int .i64 0, .int .i64 0, .int .i64 0, .int .i64 0, .slice .none 0 0, .bool false, .int .i64 0, .int .i64 0] rfl rfl 46 #[.int .i64 0, .int .i64 0, .int .i64 0, .int .i64 0, .int .i64 0, .int .i64 0, .int .i64 0, .int .i64 0, .int .i64 0, .int .i64 0, .int .i64 0, .string ⟨#[]⟩, .int .i64 0, .int .i64 0, .bool false, .int .i64 0, .string ⟨#[]⟩, .int .i64 0, .int .i64 0, .int .i64 0, .int .i64 0, .int .i64 0, .int .i64 0, .slice .none 0 0, .bool false, .int .i64 0, .int .i64 0] HP.out (by kernel_rfl) rfl (by simp [Value.oneCell']) ?_) | fail)
  (try simp only [Exit.inBlock, Exit.then])
  refine bodyPost_ret (results_cell_row rfl _ _ p 46 #[.int .i64 2, .int .i64 0, .int .i64 0, .int .i64 v0, .int .i64 v1, .int .i64 v2, .int .i64 0, .int .i64 0, .int .i64 0, .int .i64 0, .int .i64 0, .string ⟨#[]⟩, .int .i64 0, .int .i64 0, .bool false, .int .i64 0, .string ⟨#[]⟩, .int .i64 0, .int .i64 0, .int .i64 0, .int .i64 0, .int .i64 0, .int .i64 0, .slice .none 0 0, .bool false, .int .i64 0, .int .i64 0] (0, 0) _ rfl (setRow_heap _ p _ _ _ _ HP.out) Try.underlying46 rfl (by kernel_rfl)) rfl ?_
  have PL := (Array.getElem?_eq_some_iff.1 HP.out).1
  have bb := below_setRow (Below.refl p wb2) (Nat.le_refl p) #[.int .i64 2, .int .i64 0, .int .i64 0, .int .i64 v0, .int .i64 v1, .int .i64 v2, .int .i64 0, .int .i64 0, .int .i64 0, .int .i64 0, .int .i64 0, .string ⟨#[]⟩, .int .i64 0, .int .i64 0, .bool false, .int .i64 0, .string ⟨#[]⟩, .int .i64 0, .int .i64 0, .int .i64 0, .int .i64 0, .int .i64 0, .int .i64 0, .slice .none 0 0, .bool false, .int .i64 0, .int .i64 0]
  refine ⟨rfl, R.out.old bb (by omega) RP.out AP.out, ?_⟩
  rw [HPH.out]
  exact TT.out.trans (turn_weak (turn_above bb) (fun k hk => Or.inr hk))
set_option maxHeartbeats 6400000 in
theorem dRead_Stop {r : Nat} {a : Option Addr} {n cap : Nat} {bs : List Nat} {s : RS} (w : World) (h : RdS r a n cap bs s w) :
    Calls Try.prog 51 #[.pointer (some ⟨r, 0, none⟩), .int .i64 5] w (DReadP r a n cap bs (dNum n 4 (dNum n 4 s)) w (.agg #[.int .i64 5, .int .i64 0, .int .i64 0, .int .i64 0, .int .i64 0, .int .i64 0, .int .i64 0, .int .i64 0, .int .i64 0, .int .i64 0, .int .i64 0, .string ⟨#[]⟩, .int .i64 0, .int .i64 0, .bool false, .int .i64 0, .string ⟨#[]⟩, .int .i64 0, .int .i64 0, .int .i64 0, .int .i64 0, .int .i64 0, .int .i64 0, .slice .none 0 0, .bool false, .int .i64 (dG bs n 4 s), .int .i64 (dG bs n 4 (dNum n 4 s))])) := by
  obtain ⟨v0, hv0⟩ : ∃ v, dG bs n 4 s = v := ⟨_, rfl⟩
  obtain ⟨s1, hs1⟩ : ∃ t, dNum n 4 s = t := ⟨_, rfl⟩
  have C0 := Lib.hid (fun w' (h : RdS r a n cap bs s w') => dsNum 4 4 rfl (by omega) (by omega) w' h)
  rw [hv0, hs1] at C0
  obtain ⟨v1, hv1⟩ : ∃ v, dG bs n 4 s1 = v := ⟨_, rfl⟩
  obtain ⟨s2, hs2⟩ : ∃ t, dNum n 4 s1 = t := ⟨_, rfl⟩
  have C1 := Lib.hid (fun w' (h : RdS r a n cap bs s1 w') => dsNum 4 4 rfl (by omega) (by omega) w' h)
  rw [hv1, hs2] at C1
  try rw [hs1]
  try rw [hs2]
  try rw [hv0]
  try rw [hv1]
  have LR := Lib.hid (lt_of_cell h.m.c0)
  have AL := Lib.hid (show 0 < n → ∀ q o, a = some ⟨q, o, none⟩ → q < w.heap.size from fun h0 => h.lt h0)
  obtain ⟨w1, hw1⟩ : ∃ w1, w.alloc (.cells #[.int .i64 0, .int .i64 0, .int .i64 0, .int .i64 0, .int .i64 0, .int .i64 0, .int .i64 0, .int .i64 0, .int .i64 0, .int .i64 0, .int .i64 0, .string ⟨#[]⟩, .int .i64 0, .int .i64 0, .bool false, .int .i64 0, .string ⟨#[]⟩, .int .i64 0, .int .i64 0, .int .i64 0, .int .i64 0, .int .i64 0, .int .i64 0, .slice .none 0 0, .bool false, .int .i64 0, .int .i64 0] 46) = w1 := ⟨_, rfl⟩
  have HP1 := Lib.hid (show w1.heap[w.heap.size]? = some (.cells #[.int .i64 0, .int .i64 0, .int .i64 0, .int .i64 0, .int .i64 0, .int .i64 0, .int .i64 0, .int .i64 0, .int .i64 0, .int .i64 0, .int .i64 0, .string ⟨#[]⟩, .int .i64 0, .int .i64 0, .bool false, .int .i64 0, .string ⟨#[]⟩, .int .i64 0, .int .i64 0, .int .i64 0, .int .i64 0, .int .i64 0, .int .i64 0, .slice .none 0 0, .bool false, .int .i64 0, .int .i64 0] 46 (0, 0)) from hw1 ▸ heap_alloc_new w _)
  have B1 := Lib.hid (show Below w.heap.size w w1 from hw1 ▸ below_one w _)
  have LW := Lib.hid (show w.heap.size < w1.heap.size from (Array.getElem?_eq_some_iff.1 HP1.out).1)
  have HQ1 := Lib.hid (heap_alloc_new w1 (.cells #[.int .i64 0, .int .i64 0, .int .i64 0, .int .i64 0, .int .i64 0, .int .i64 0, .int .i64 0, .int .i64 0, .int .i64 0, .int .i64 0, .int .i64 0, .string ⟨#[]⟩, .int .i64 0, .int .i64 0, .bool false, .int .i64 0, .string ⟨#[]⟩, .int .i64 0, .int .i64 0, .int .i64 0, .int .i64 0, .int .i64 0, .int .i64 0, .slice .none 0 0, .bool false, .int .i64 0, .int .i64 0] 46))
  obtain ⟨p, hp⟩ : ∃ p, w.heap.size = p := ⟨_, rfl⟩
  have HPH := Lib.hid hp
  rw [hp] at HP1
  have M0 := Lib.hid h
  clear h hv0 hs1 hv1 hs2
  go_enter Try.func51, Try.ntmps51
  go_upto_region 1 with fail
  try rw [hw1]
  try simp only [hp]
  clear hw1 hp
  go_upto_region 2 with (first | (refine wpList_store_row rfl 46 (.tmp 5) (.tmp 9) rfl w1.heap.size #[.int .i64 5, .int .i64 0, .int .i64 0, .int .i64 0, .int .i64 0, .int .i64 0, .int .i64 0, .int .i64 0, .int .i64 0, .int .i64 0, .int .i64 0, .string ⟨#[]⟩, .int .i64 0, .int .i64 0, .bool false, .int .i64 0, .string ⟨#[]⟩, .int .i64 0, .int .i64 0, .int .i64 0, .int .i64 0, .int .i64 0, .int .i64 0, .slice .none 0 0, .bool false, .int .i64 0, .int .i64 0] rfl rfl 46 #[.int .i64 0, .int .i64 0, .int .i64 0, .int .i64 0, .int .i64 0, .int .i64 0, .int .i64 0, .int .i64 0, .int .i64 0, .int .i64 0, .int .i64 0, .string ⟨#[]⟩, .int .i64 0, .int .i64 0, .bool false, .int .i64 0, .string ⟨#[]⟩, .int .i64 0, .int .i64 0, .int .i64 0, .int .i64 0, .int .i64 0, .int .i64 0, .slice .none 0 0, .bool false, .int .i64 0, .int .i64 0] HQ1.out (by kernel_rfl) rfl (by simp [Value.oneCell']) ?_) | fail)
  obtain ⟨w2, hw2⟩ : ∃ w2, (w1.alloc (.cells #[.int .i64 0, .int .i64 0, .int .i64 0, .int .i64 0, .int .i64 0, .int .i64 0, .int .i64 0, .int .i64 0, .int .i64 0, .int .i64 0, .int .i64 0, .string ⟨#[]⟩, .int .i64 0, .int .i64 0, .bool false, .int .i64 0, .string ⟨#[]⟩, .int .i64 0, .int .i64 0, .int .i64 0, .int .i64 0, .int .i64 0, .int .i64 0, .slice .none 0 0, .bool false, .int .i64 0, .int .i64 0] 46)).setRow w1.heap.size #[.int .i64 5, .int .i64 0, .int .i64 0, .int .i64 0, .int .i64 0, .int .i64 0, .int .i64 0, .int .i64 0, .int .i64 0, .int .i64 0, .int .i64 0, .string ⟨#[]⟩, .int .i64 0, .int .i64 0, .bool false, .int .i64 0, .string ⟨#[]⟩, .int .i64 0, .int .i64 0, .int .i64 0, .int .i64 0, .int .i64 0, .int .i64 0, .slice .none 0 0, .bool false, .int .i64 0, .int .i64 0] = w2 := ⟨_, rfl⟩
  have HQ := Lib.hid (show w2.heap[w1.heap.size]? = some (.cells #[.int .i64 5, .int .i64 0, .int .i64 0, .int .i64 0, .int .i64 0, .int .i64 0, .int .i64 0, .int .i64 0, .int .i64 0, .int .i64 0, .int .i64 0, .string ⟨#[]⟩, .int .i64 0, .int .i64 0, .bool false, .int .i64 0, .string ⟨#[]⟩, .int .i64 0, .int .i64 0, .int .i64 0, .int .i64 0, .int .i64 0, .int .i64 0, .slice .none 0 0, .bool false, .int .i64 0, .int .i64 0] 46 (0, 0)) from hw2 ▸ setRow_heap _ _ _ _ _ _ HQ1.out)
  have b12 : Below w1.heap.size w1 w2 := hw2 ▸ below_setRow (below_one w1 _) (Nat.le_refl _) #[.int .i64 5, .int .i64 0, .int .i64 0, .int .i64 0, .int .i64 0, .int .i64 0, .int .i64 0, .int .i64 0, .int .i64 0, .int .i64 0, .int .i64 0, .string ⟨#[]⟩, .int .i64 0, .int .i64 0, .bool false, .int .i64 0, .string ⟨#[]⟩, .int .i64 0, .int .i64 0, .int .i64 0, .int .i64 0, .int .i64 0, .int .i64 0, .slice .none 0 0, .bool false, .int .i64 0, .int .i64 0]
  have HP := Lib.hid (heap_keep HP1.out b12)
  have BW := B1.out.trans (b12.mono B1.out.size)
  have R := Lib.hid (M0.out.below BW)
  have TT := Lib.hid (show Turn (fun k => k = r ∨ p ≤ k) w w2 from Turn.of_below BW)
  rw [hw2]
  obtain ⟨q, hq⟩ : ∃ q, w1.heap.size = q := ⟨_, rfl⟩
  have PQ := Lib.hid (show p < q from by have h1 := LW.out; have h2 := HPH.out; omega)
  have RP := Lib.hid (show r < p from by have h1 := LR.out; have h2 := HPH.out; omega)
  have AP := Lib.hid (show 0 < n → ∀ q' o, a = some ⟨q', o, none⟩ → q' < p from fun h0 q' o e => by have h1 := AL.out h0 q' o e; have h2 := HPH.out; omega)
  rw [hq] at HQ
  try simp only [hq]
  clear hw2 b12 BW HP1 HQ1 M0 hq LW LR AL B1
  have D0 := Lib.hid (C0.out _ R.out)
  clear C0
  go_wp2_with fail
  with_reducible refine D0.out.mono ?_
  rintro e wa ⟨rfl, hM, hT⟩
  have hq1 := heap_turn HQ.out hT (by have := PQ.out; have := RP.out; omega)
  have HP' := Lib.hid (heap_turn HP.out hT (by have := RP.out; omega))
  have TT' := Lib.hid (TT.out.trans (turn_weak hT (fun k hk => Or.inl hk)))
  have hx := heap_cellI (i := 25) hq1 rfl
  have hf := heap_free (i := 25) hq1
  have R' := Lib.hid hM
  have HQ' := Lib.hid hq1
  clear hq1 hM hT R HQ HP TT D0
  go_upto_region 37 with fail
  have HQ := Lib.hid (show (wa.setCell ⟨q, 25, none⟩ (.int .i64 v0)).heap[q]? = some (.cells #[.int .i64 5, .int .i64 0, .int .i64 0, .int .i64 0, .int .i64 0, .int .i64 0, .int .i64 0, .int .i64 0, .int .i64 0, .int .i64 0, .int .i64 0, .string ⟨#[]⟩, .int .i64 0, .int .i64 0, .bool false, .int .i64 0, .string ⟨#[]⟩, .int .i64 0, .int .i64 0, .int .i64 0, .int .i64 0, .int .i64 0, .int .i64 0, .slice .none 0 0, .bool false, .int .i64 v0, .int .i64 0] 46 (0, 0)) from heap_set HQ'.out)
  have hts : Turn (fun k => k = q) wa (wa.setCell ⟨q, 25, none⟩ (.int .i64 v0)) := Turn.setCell rfl
  have HP := Lib.hid (heap_turn HP'.out hts (by have := PQ.out; omega))
  have R := Lib.hid (R'.out.fresh hts (by have := PQ.out; have := RP.out; omega) (fun h0 q' o e => by have := AP.out h0 q' o e; have := PQ.out; omega))
  have TT := Lib.hid (TT'.out.trans (turn_weak hts (fun k hk => Or.inr (by have := PQ.out; omega))))
  generalize wa.setCell ⟨q, 25, none⟩ (.int .i64 v0) = wb0 at HQ HP R TT ⊢
  clear hx hf hts HP' TT' R' HQ'
  have D1 := Lib.hid (C1.out _ R.out)
  clear C1
  go_wp2_with fail
  with_reducible refine D1.out.mono ?_
  rintro e wa ⟨rfl, hM, hT⟩
  have hq1 := heap_turn HQ.out hT (by have := PQ.out; have := RP.out; omega)
  have HP' := Lib.hid (heap_turn HP.out hT (by have := RP.out; omega))
  have TT' := Lib.hid (TT.out.trans (turn_weak hT (fun k hk => Or.inl hk)))
  have hx := heap_cellI (i := 26) hq1 rfl
  have hf := heap_free (i := 26) hq1
  have R' := Lib.hid hM
  have HQ' := Lib.hid hq1
  clear hq1 hM hT R HQ HP TT D1
  go_upto_region 38 with fail
  have HQ := Lib.hid (show (wa.setCell ⟨q, 26, none⟩ (.int .i64 v1)).heap[q]? = some (.cells #[.int .i64 5, .int .i64 0, .int .i64 0, .int .i64 0, .int .i64 0, .int .i64 0, .int .i64 0, .int .i64 0, .int .i64 0, .int .i64 0, .int .i64 0, .string ⟨#[]⟩, .int .i64 0, .int .i64 0, .bool false, .int .i64 0, .string ⟨#[]⟩, .int .i64 0, .int .i64 0, .int .i64 0, .int .i64 0, .int .i64 0, .int .i64 0, .slice .none 0 0, .bool false, .int .i64 v0, .int .i64 v1] 46 (0, 0)) from heap_set HQ'.out)
  have hts : Turn (fun k => k = q) wa (wa.setCell ⟨q, 26, none⟩ (.int .i64 v1)) := Turn.setCell rfl
  have HP := Lib.hid (heap_turn HP'.out hts (by have := PQ.out; omega))
  have R := Lib.hid (R'.out.fresh hts (by have := PQ.out; have := RP.out; omega) (fun h0 q' o e => by have := AP.out h0 q' o e; have := PQ.out; omega))
  have TT := Lib.hid (TT'.out.trans (turn_weak hts (fun k hk => Or.inr (by have := PQ.out; omega))))
  generalize wa.setCell ⟨q, 26, none⟩ (.int .i64 v1) = wb1 at HQ HP R TT ⊢
  clear hx hf hts HP' TT' R' HQ'
  go_wp2_with (first | (refine wpList_load_row rfl 46 (.tmp 5) rfl q rfl 46 #[.int .i64 5, .int .i64 0, .int .i64 0, .int .i64 0, .int .i64 0, .int .i64 0, .int .i64 0, .int .i64 0, .int .i64 0, .int .i64 0, .int .i64 0, .string ⟨#[]⟩, .int .i64 0, .int .i64 0, .bool false, .int .i64 0, .string ⟨#[]⟩, .int .i64 0, .int .i64 0, .int .i64 0, .int .i64 0, .int .i64 0, .int .i64 0, .slice .none 0 0, .bool false, .int .i64 v0, .int .i64 v1] (0, 0) _ HQ.out Try.underlying46 rfl (by kernel_rfl) ?_) | (refine wpList_store_row rfl 46 (.tmp 4) (.tmp 118) rfl p #[.int .i64 5, .int .i64 0, .int .i64 0, .int .i64 0, .int .i64 0, .int .i64 0, .int .i64 0, .int .i64 0, .int .i64 0, .int .i64 0, .int .i64 0, .string ⟨#[]⟩, .int .i64 0, .int .i64 0, .bool false, .int .i64 0, .string ⟨#[]⟩, .int .i64 0, .int .i64 0, .int .i64 0, .int .i64 0, .int .i64 0, .int .i64 0, .slice .none 0 0, .bool false, .int .i64 v0, .int .i64 v1] rfl rfl 46 #[.int .i64 0, .int .i64 0, .int .i64 0, .int .i64 0, .int .i64 0, .int .i64 0, .int .i64 0, .int .i64 0, .int .i64 0, .int .i64 0, .int .i64 0, .string ⟨#[]⟩, .int .i64 0, .int .i64 0, .bool false, .int .i64 0, .string ⟨#[]⟩, .int .i64 0, .int .i64 0, .int .i64 0, .int .i64 0, .int .i64 0, .int .i64 0, .slice .none 0 0, .bool false, .int .i64 0, .int .i64 0] HP.out (by kernel_rfl) rfl (by simp [Value.oneCell']) ?_) | fail)
  (try simp only [Exit.inBlock, Exit.then])
  refine bodyPost_ret (results_cell_row rfl _ _ p 46 #[.int .i64 5, .int .i64 0, .int .i64 0, .int .i64 0, .int .i64 0, .int .i64 0, .int .i64 0, .int .i64 0, .int .i64 0, .int .i64 0, .int .i64 0, .string ⟨#[]⟩, .int .i64 0, .int .i64 0, .bool false, .int .i64 0, .string ⟨#[]⟩, .int .i64 0, .int .i64 0, .int .i64 0, .int .i64 0, .int .i64 0, .int .i64 0, .slice .none 0 0, .bool false, .int .i64 v0, .int .i64 v1] (0, 0) _ rfl (setRow_heap _ p _ _ _ _ HP.out) Try.underlying46 rfl (by kernel_rfl)) rfl ?_
  have PL := (Array.getElem?_eq_some_iff.1 HP.out).1
  have bb := below_setRow (Below.refl p wb1) (Nat.le_refl p) #[.int .i64 5, .int .i64 0, .int .i64 0, .int .i64 0, .int .i64 0, .int .i64 0, .int .i64 0, .int .i64 0, .int .i64 0, .int .i64 0, .int .i64 0, .string ⟨#[]⟩, .int .i64 0, .int .i64 0, .bool false, .int .i64 0, .string ⟨#[]⟩, .int .i64 0, .int .i64 0, .int .i64 0, .int .i64 0, .int .i64 0, .int .i64 0, .slice .none 0 0, .bool false, .int .i64 v0, .int .i64 v1]
  refine ⟨rfl, R.out.old bb (by omega) RP.out AP.out, ?_⟩
  rw [HPH.out]
  exact TT.out.trans (turn_weak (turn_above bb) (fun k hk => Or.inr hk))
set_option maxHeartbeats 6400000 in
theorem dRead_no {r : Nat} {a : Option Addr} {n cap : Nat} {bs : List Nat} {s : RS} (kv : Int) (hk : kv ≠ 1 ∧ kv ≠ 2 ∧ kv ≠ 3 ∧ kv ≠ 4 ∧ kv ≠ 5) (w : World) (h : RdS r a n cap bs s w) :
    Calls Try.prog 51 #[.pointer (some ⟨r, 0, none⟩), .int .i64 kv] w (DReadP r a n cap bs s w (.agg #[.int .i64 kv, .int .i64 0, .int .i64 0, .int .i64 0, .int .i64 0, .int .i64 0, .int .i64 0, .int .i64 0, .int .i64 0, .int .i64 0, .int .i64 0, .string ⟨#[]⟩, .int .i64 0, .int .i64 0, .bool false, .int .i64 0, .string ⟨#[]⟩, .int .i64 0, .int .i64 0, .int .i64 0, .int .i64 0, .int .i64 0, .int .i64 0, .slice .none 0 0, .bool false, .int .i64 0, .int .i64 0])) := by
  have LR := Lib.hid (lt_of_cell h.m.c0)
  have AL := Lib.hid (show 0 < n → ∀ q o, a = some ⟨q, o, none⟩ → q < w.heap.size from fun h0 => h.lt h0)
  obtain ⟨w1, hw1⟩ : ∃ w1, w.alloc (.cells #[.int .i64 0, .int .i64 0, .int .i64 0, .int .i64 0, .int .i64 0, .int .i64 0, .int .i64 0, .int .i64 0, .int .i64 0, .int .i64 0, .int .i64 0, .string ⟨#[]⟩, .int .i64 0, .int .i64 0, .bool false, .int .i64 0, .string ⟨#[]⟩, .int .i64 0, .int .i64 0, .int .i64 0, .int .i64 0, .int .i64 0, .int .i64 0, .slice .none 0 0, .bool false, .int .i64 0, .int .i64 0] 46) = w1 := ⟨_, rfl⟩
  have HP1 := Lib.hid (show w1.heap[w.heap.size]? = some (.cells #[.int .i64 0, .int .i64 0, .int .i64 0, .int .i64 0, .int .i64 0, .int .i64 0, .int .i64 0, .int .i64 0, .int .i64 0, .int .i64 0, .int .i64 0, .string ⟨#[]⟩, .int .i64 0, .int .i64 0, .bool false, .int .i64 0, .string ⟨#[]⟩, .int .i64 0, .int .i64 0, .int .i64 0, .int .i64 0, .int .i64 0, .int .i64 0, .slice .none 0 0, .bool false, .int .i64 0, .int .i64 0] 46 (0, 0)) from hw1 ▸ heap_alloc_new w _)
  have B1 := Lib.hid (show Below w.heap.size w w1 from hw1 ▸ below_one w _)
  have LW := Lib.hid (show w.heap.size < w1.heap.size from (Array.getElem?_eq_some_iff.1 HP1.out).1)
  have HQ1 := Lib.hid (heap_alloc_new w1 (.cells #[.int .i64 0, .int .i64 0, .int .i64 0, .int .i64 0, .int .i64 0, .int .i64 0, .int .i64 0, .int .i64 0, .int .i64 0, .int .i64 0, .int .i64 0, .string ⟨#[]⟩, .int .i64 0, .int .i64 0, .bool false, .int .i64 0, .string ⟨#[]⟩, .int .i64 0, .int .i64 0, .int .i64 0, .int .i64 0, .int .i64 0, .int .i64 0, .slice .none 0 0, .bool false, .int .i64 0, .int .i64 0] 46))
  obtain ⟨p, hp⟩ : ∃ p, w.heap.size = p := ⟨_, rfl⟩
  have HPH := Lib.hid hp
  rw [hp] at HP1
  have M0 := Lib.hid h
  clear h
  go_enter Try.func51, Try.ntmps51
  go_upto_region 1 with fail
  try rw [hw1]
  try simp only [hp]
  clear hw1 hp
  go_upto_region 2 with (first | (refine wpList_store_row rfl 46 (.tmp 5) (.tmp 9) rfl w1.heap.size #[.int .i64 kv, .int .i64 0, .int .i64 0, .int .i64 0, .int .i64 0, .int .i64 0, .int .i64 0, .int .i64 0, .int .i64 0, .int .i64 0, .int .i64 0, .string ⟨#[]⟩, .int .i64 0, .int .i64 0, .bool false, .int .i64 0, .string ⟨#[]⟩, .int .i64 0, .int .i64 0, .int .i64 0, .int .i64 0, .int .i64 0, .int .i64 0, .slice .none 0 0, .bool false, .int .i64 0, .int .i64 0] rfl rfl 46 #[.int .i64 0, .int .i64 0, .int .i64 0, .int .i64 0, .int .i64 0, .int .i64 0, .int .i64 0, .int .i64 0, .int .i64 0, .int .i64 0, .int .i64 0, .string ⟨#[]⟩, .int .i64 0, .int .i64 0, .bool false, .int .i64 0, .string ⟨#[]⟩, .int .i64 0, .int .i64 0, .int .i64 0, .int .i64 0, .int .i64 0, .int .i64 0, .slice .none 0 0, .bool false, .int .i64 0, .int .i64 0] HQ1.out (by kernel_rfl) rfl (by simp [Value.oneCell']) ?_) | fail)
  obtain ⟨w2, hw2⟩ : ∃ w2, (w1.alloc (.cells #[.int .i64 0, .int .i64 0, .int .i64 0, .int .i64 0, .int .i64 0, .int .i64 0, .int .i64 0, .int .i64 0, .int .i64 0, .int .i64 0, .int .i64 0, .string ⟨#[]⟩, .int .i64 0, .int .i64 0, .bool false, .int .i64 0, .string ⟨#[]⟩, .int .i64 0, .int .i64 0, .int .i64 0, .int .i64 0, .int .i64 0, .int .i64 0, .slice .none 0 0, .bool false, .int .i64 0, .int .i64 0] 46)).setRow w1.heap.size #[.int .i64 kv, .int .i64 0, .int .i64 0, .int .i64 0, .int .i64 0, .int .i64 0, .int .i64 0, .int .i64 0, .int .i64 0, .int .i64 0, .int .i64 0, .string ⟨#[]⟩, .int .i64 0, .int .i64 0, .bool false, .int .i64 0, .string ⟨#[]⟩, .int .i64 0, .int .i64 0, .int .i64 0, .int .i64 0, .int .i64 0, .int .i64 0, .slice .none 0 0, .bool false, .int .i64 0, .int .i64 0] = w2 := ⟨_, rfl⟩
  have HQ := Lib.hid (show w2.heap[w1.heap.size]? = some (.cells #[.int .i64 kv, .int .i64 0, .int .i64 0, .int .i64 0, .int .i64 0, .int .i64 0, .int .i64 0, .int .i64 0, .int .i64 0, .int .i64 0, .int .i64 0, .string ⟨#[]⟩, .int .i64 0, .int .i64 0, .bool false, .int .i64 0, .string ⟨#[]⟩, .int .i64 0, .int .i64 0, .int .i64 0, .int .i64 0, .int .i64 0, .int .i64 0, .slice .none 0 0, .bool false, .int .i64 0, .int .i64 0] 46 (0, 0)) from hw2 ▸ setRow_heap _ _ _ _ _ _ HQ1.out)
  have b12 : Below w1.heap.size w1 w2 := hw2 ▸ below_setRow (below_one w1 _) (Nat.le_refl _) #[.int .i64 kv, .int .i64 0, .int .i64 0, .int .i64 0, .int .i64 0, .int .i64 0, .int .i64 0, .int .i64 0, .int .i64 0, .int .i64 0, .int .i64 0, .string ⟨#[]⟩, .int .i64 0, .int .i64 0, .bool false, .int .i64 0, .string ⟨#[]⟩, .int .i64 0, .int .i64 0, .int .i64 0, .int .i64 0, .int .i64 0, .int .i64 0, .slice .none 0 0, .bool false, .int .i64 0, .int .i64 0]
  have HP := Lib.hid (heap_keep HP1.out b12)
  have BW := B1.out.trans (b12.mono B1.out.size)
  have R := Lib.hid (M0.out.below BW)
  have TT := Lib.hid (show Turn (fun k => k = r ∨ p ≤ k) w w2 from Turn.of_below BW)
  rw [hw2]
  obtain ⟨q, hq⟩ : ∃ q, w1.heap.size = q := ⟨_, rfl⟩
  have PQ := Lib.hid (show p < q from by have h1 := LW.out; have h2 := HPH.out; omega)
  have RP := Lib.hid (show r < p from by have h1 := LR.out; have h2 := HPH.out; omega)
  have AP := Lib.hid (show 0 < n → ∀ q' o, a = some ⟨q', o, none⟩ → q' < p from fun h0 q' o e => by have h1 := AL.out h0 q' o e; have h2 := HPH.out; omega)
  rw [hq] at HQ
  try simp only [hq]
  clear hw2 b12 BW HP1 HQ1 M0 hq LW LR AL B1
  obtain ⟨k1, k2, k3, k4, k5⟩ := hk
  go_upto_region 38 with fail
  go_wp2_with (first | (refine wpList_load_row rfl 46 (.tmp 5) rfl q rfl 46 #[.int .i64 kv, .int .i64 0, .int .i64 0, .int .i64 0, .int .i64 0, .int .i64 0, .int .i64 0, .int .i64 0, .int .i64 0, .int .i64 0, .int .i64 0, .string ⟨#[]⟩, .int .i64 0, .int .i64 0, .bool false, .int .i64 0, .string ⟨#[]⟩, .int .i64 0, .int .i64 0, .int .i64 0, .int .i64 0, .int .i64 0, .int .i64 0, .slice .none 0 0, .bool false, .int .i64 0, .int .i64 0] (0, 0) _ HQ.out Try.underlying46 rfl (by kernel_rfl) ?_) | (refine wpList_store_row rfl 46 (.tmp 4) (.tmp 118) rfl p #[.int .i64 kv, .int .i64 0, .int .i64 0, .int .i64 0, .int .i64 0, .int .i64 0, .int .i64 0, .int .i64 0, .int .i64 0, .int .i64 0, .int .i64 0, .string ⟨#[]⟩, .int .i64 0, .int .i64 0, .bool false, .int .i64 0, .string ⟨#[]⟩, .int .i64 0, .int .i64 0, .int .i64 0, .int .i64 0, .int .i64 0, .int .i64 0, .slice .none 0 0, .bool false, .int .i64 0, .int .i64 0] rfl rfl 46 #[.int .i64 0, .int .i64 0, .int .i64 0, .int .i64 0, .int .i64 0, .int .i64 0, .int .i64 0, .int .i64 0, .int .i64 0, .int .i64 0, .int .i64 0, .string ⟨#[]⟩, .int .i64 0, .int .i64 0, .bool false, .int .i64 0, .string ⟨#[]⟩, .int .i64 0, .int .i64 0, .int .i64 0, .int .i64 0, .int .i64 0, .int .i64 0, .slice .none 0 0, .bool false, .int .i64 0, .int .i64 0] HP.out (by kernel_rfl) rfl (by simp [Value.oneCell']) ?_) | fail)
  (try simp only [Exit.inBlock, Exit.then])
  refine bodyPost_ret (results_cell_row rfl _ _ p 46 #[.int .i64 kv, .int .i64 0, .int .i64 0, .int .i64 0, .int .i64 0, .int .i64 0, .int .i64 0, .int .i64 0, .int .i64 0, .int .i64 0, .int .i64 0, .string ⟨#[]⟩, .int .i64 0, .int .i64 0, .bool false, .int .i64 0, .string ⟨#[]⟩, .int .i64 0, .int .i64 0, .int .i64 0, .int .i64 0, .int .i64 0, .int .i64 0, .slice .none 0 0, .bool false, .int .i64 0, .int .i64 0] (0, 0) _ rfl (setRow_heap _ p _ _ _ _ HP.out) Try.underlying46 rfl (by kernel_rfl)) rfl ?_
  have PL := (Array.getElem?_eq_some_iff.1 HP.out).1
  have bb := below_setRow (Below.refl p w2) (Nat.le_refl p) #[.int .i64 kv, .int .i64 0, .int .i64 0, .int .i64 0, .int .i64 0, .int .i64 0, .int .i64 0, .int .i64 0, .int .i64 0, .int .i64 0, .int .i64 0, .string ⟨#[]⟩, .int .i64 0, .int .i64 0, .bool false, .int .i64 0, .string ⟨#[]⟩, .int .i64 0, .int .i64 0, .int .i64 0, .int .i64 0, .int .i64 0, .int .i64 0, .slice .none 0 0, .bool false, .int .i64 0, .int .i64 0]
  refine ⟨rfl, R.out.old bb (by omega) RP.out AP.out, ?_⟩
  rw [HPH.out]
  exact TT.out.trans (turn_weak (turn_above bb) (fun k hk => Or.inr hk))
end Go.Proofs.Ythboiklcjpnhbaa
