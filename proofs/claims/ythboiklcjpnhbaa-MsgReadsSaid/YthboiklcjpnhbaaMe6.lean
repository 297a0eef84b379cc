/- messages in the document: read, a Reply (by gen/me6.py) -/
import Derived.Test.YthboiklcjpnhbaaMe5
namespace Go.Proofs.Ythboiklcjpnhbaa
open Go.RowKit
set_option linter.unusedVariables false
set_option maxRecDepth 20000
set_option maxRecDepth 100000
theorem holdsK_fresh {w w' : World} {F : Nat → Prop} {a : Option Addr} {n : Nat} {ks : List KV} (h : HoldsK w a n ks) (t : Turn F w w') (hs : 0 < n → ∀ fb fo, a = some ⟨fb, fo, none⟩ → ¬ F fb) : HoldsK w' a n ks := by
  refine ⟨h.1, fun h0 => ?_⟩
  obtain ⟨b, o, ha, hc⟩ := h.2 h0
  refine ⟨b, o, ha, fun i hi => ?_⟩
  have lb := lt_of_cell (hc i hi).1
  have hn := hs h0 b o ha
  exact ⟨(t.cell lb hn).trans (hc i hi).1, (t.cell lb hn).trans (hc i hi).2⟩
theorem turn_setRow (w : World) (p : Nat) (cs : Array Value) : Turn (fun k => k = p) w (w.setRow p cs) := ⟨rfl, rfl, rfl, by simp, fun k _ hn => setRow_other w p k cs hn⟩
def dRx (n : Nat) (s : RS) : RS := dNum n 4 (dNum n 4 (dNum n 4 (dNum n 4 (dNum n 4 (dNum n 4 s)))))
def dMx (bs : List Nat) (n : Nat) (s : RS) : Int := dG bs n 1 (dRx n s)
def dRepS (bs : List Nat) (n : Nat) (s : RS) (j : Nat) : RS := dNum n 1 (dIs bs n j (dNum n 1 (dRx n s)))
def dRep (bs : List Nat) (n : Nat) (s : RS) (ia : Option Addr) (j ic : Nat) : RepP :=
  let s1 := dNum n 4 s
  let s2 := dNum n 4 s1
  let s3 := dNum n 4 s2
  let s4 := dNum n 4 s3
  let s5 := dNum n 4 s4
  let s6 := dNum n 4 s5
  ⟨dG bs n 4 s, dG bs n 4 s1, dG bs n 4 s2, dG bs n 4 s3, dG bs n 4 s4, dG bs n 4 s5, ia, j, ic, dIl bs n j (dNum n 1 s6), (dG bs n 1 (dIs bs n j (dNum n 1 s6)) == 1)⟩
def DRepP (r : Nat) (a : Option Addr) (n cap : Nat) (bs : List Nat) (s : RS) (m : Nat) (w : World) (e : Ending) (w' : World) : Prop :=
  ∃ (j : Nat) (ia : Option Addr) (ic : Nat), j ≤ m ∧ (j = m ∨ (dIs bs n j (dNum n 1 (dRx n s))).bad = true) ∧ e = .returned (msgC (.reply (dRep bs n s ia j ic))) ∧ (HoldsK w' ia j (dIl bs n j (dNum n 1 (dRx n s))) ∧ (ia = .none → j = 0 ∧ ic = 0) ∧ j ≤ ic) ∧ (∀ q' o, 0 < j → ia = some ⟨q', o, none⟩ → w.heap.size ≤ q') ∧ RdS r a n cap bs (dRepS bs n s j) w' ∧ Turn (fun k => k = r ∨ w.heap.size ≤ k) w w'
set_option maxHeartbeats 12800000 in
theorem dRead_Reply (m : Nat) (m256 : m < 256) {r : Nat} {a : Option Addr} {n cap : Nat} {bs : List Nat} {s : RS} (w : World) (h : RdS r a n cap bs s w) (hm : dMx bs n s = (m : Int)) :
    Calls Try.prog 51 #[.pointer (some ⟨r, 0, none⟩), .int .i64 4] w (DRepP r a n cap bs s m w) := by
  have M256 := Lib.hid m256
  obtain ⟨v0, hv0⟩ : ∃ v : Int, dG bs n 4 s = v := ⟨_, rfl⟩
  obtain ⟨s1, hs1⟩ : ∃ t, dNum n 4 s = t := ⟨_, rfl⟩
  have C0 := Lib.hid (fun w' (h : RdS r a n cap bs s w') => dsNum 4 4 rfl (by omega) (by omega) w' h)
  rw [hv0, hs1] at C0
  obtain ⟨v1, hv1⟩ : ∃ v : Int, dG bs n 4 s1 = v := ⟨_, rfl⟩
  obtain ⟨s2, hs2⟩ : ∃ t, dNum n 4 s1 = t := ⟨_, rfl⟩
  have C1 := Lib.hid (fun w' (h : RdS r a n cap bs s1 w') => dsNum 4 4 rfl (by omega) (by omega) w' h)
  rw [hv1, hs2] at C1
  obtain ⟨v2, hv2⟩ : ∃ v : Int, dG bs n 4 s2 = v := ⟨_, rfl⟩
  obtain ⟨s3, hs3⟩ : ∃ t, dNum n 4 s2 = t := ⟨_, rfl⟩
  have C2 := Lib.hid (fun w' (h : RdS r a n cap bs s2 w') => dsNum 4 4 rfl (by omega) (by omega) w' h)
  rw [hv2, hs3] at C2
  obtain ⟨v3, hv3⟩ : ∃ v : Int, dG bs n 4 s3 = v := ⟨_, rfl⟩
  obtain ⟨s4, hs4⟩ : ∃ t, dNum n 4 s3 = t := ⟨_, rfl⟩
  have C3 := Lib.hid (fun w' (h : RdS r a n cap bs s3 w') => dsNum 4 4 rfl (by omega) (by omega) w' h)
  rw [hv3, hs4] at C3
  obtain ⟨v4, hv4⟩ : ∃ v : Int, dG bs n 4 s4 = v := ⟨_, rfl⟩
  obtain ⟨s5, hs5⟩ : ∃ t, dNum n 4 s4 = t := ⟨_, rfl⟩
  have C4 := Lib.hid (fun w' (h : RdS r a n cap bs s4 w') => dsNum 4 4 rfl (by omega) (by omega) w' h)
  rw [hv4, hs5] at C4
  obtain ⟨v5, hv5⟩ : ∃ v : Int, dG bs n 4 s5 = v := ⟨_, rfl⟩
  obtain ⟨s6, hs6⟩ : ∃ t, dNum n 4 s5 = t := ⟨_, rfl⟩
  have C5 := Lib.hid (fun w' (h : RdS r a n cap bs s5 w') => dsNum 4 4 rfl (by omega) (by omega) w' h)
  rw [hv5, hs6] at C5
  have e6 : dRx n s = s6 := by unfold dRx; rw [hs1, hs2, hs3, hs4, hs5, hs6]
  have h6 : dG bs n 1 s6 = (m : Int) := by rw [← e6]; exact hm
  obtain ⟨s7, hs7⟩ : ∃ t, dNum n 1 s6 = t := ⟨_, rfl⟩
  have C6 := Lib.hid (fun w' (h : RdS r a n cap bs s6 w') => dsNum 1 1 rfl (by omega) (by omega) w' h)
  rw [h6, hs7] at C6
  have C7 := Lib.hid (fun t w' (h : RdS r a n cap bs t w') => dsNum 1 1 rfl (by omega) (by omega) w' h)
  have FF := Lib.hid (show ∀ (j : Nat) (ia : Option Addr) (ic : Nat) (ks : List KV) (t8 : RS) (vf : Int) (w' : World), j ≤ m → (j = m ∨ t8.bad = true) → dIs bs n j s7 = t8 → dIl bs n j s7 = ks → dG bs n 1 t8 = vf → (HoldsK w' ia j ks ∧ (ia = .none → j = 0 ∧ ic = 0) ∧ j ≤ ic) → (∀ q' o, 0 < j → ia = some ⟨q', o, none⟩ → w.heap.size ≤ q') → RdS r a n cap bs (dNum n 1 t8) w' → Turn (fun k => k = r ∨ w.heap.size ≤ k) w w' → DRepP r a n cap bs s m w (.returned (.agg #[.int .i64 4, .int .i64 0, .int .i64 0, .int .i64 0, .int .i64 0, .int .i64 0, .int .i64 0, .int .i64 0, .int .i64 0, .int .i64 0, .int .i64 0, .string ⟨#[]⟩, .int .i64 0, .int .i64 0, .bool false, .int .i64 0, .string ⟨#[]⟩, .int .i64 v0, .int .i64 v1, .int .i64 v2, .int .i64 v3, .int .i64 v4, .int .i64 v5, .slice ia j ic, .bool (vf == 1), .int .i64 0, .int .i64 0])) w' from by
    intro j ia ic ks t8 vf w' h1 h2 h3 h4 h5 h6 h9 h7 h8
    refine ⟨j, ia, ic, h1, by rw [e6, hs7, h3]; exact h2, ?_, by rw [e6, hs7, h4]; exact h6, h9, by unfold dRepS; rw [e6, hs7, h3]; exact h7, h8⟩
    simp only [dRep, msgC, hs1, hs2, hs3, hs4, hs5, hs6, hs7, h3, h4, h5, hv0, hv1, hv2, hv3, hv4, hv5])
  have LR := Lib.hid (lt_of_cell h.m.c0)
  have AL := Lib.hid (show 0 < n → ∀ q o, a = some ⟨q, o, none⟩ → q < w.heap.size from fun h0 => h.lt h0)
  obtain ⟨w1, hw1⟩ : ∃ w1, w.alloc (.cells #[.int .i64 0, .int .i64 0, .int .i64 0, .int .i64 0, .int .i64 0, .int .i64 0, .int .i64 0, .int .i64 0, .int .i64 0, .int .i64 0, .int .i64 0, .string ⟨#[]⟩, .int .i64 0, .int .i64 0, .bool false, .int .i64 0, .string ⟨#[]⟩, .int .i64 0, .int .i64 0, .int .i64 0, .int .i64 0, .int .i64 0, .int .i64 0, .slice .none 0 0, .bool false, .int .i64 0, .int .i64 0] 46) = w1 := ⟨_, rfl⟩
  have HP1 := Lib.hid (show w1.heap[w.heap.size]? = some (.cells #[.int .i64 0, .int .i64 0, .int .i64 0, .int .i64 0, .int .i64 0, .int .i64 0, .int .i64 0, .int .i64 0, .int .i64 0, .int .i64 0, .int .i64 0, .string ⟨#[]⟩, .int .i64 0, .int .i64 0, .bool false, .int .i64 0, .string ⟨#[]⟩, .int .i64 0, .int .i64 0, .int .i64 0, .int .i64 0, .int .i64 0, .int .i64 0, .slice .none 0 0, .bool false, .int .i64 0, .int .i64 0] 46 (0, 0)) from hw1 ▸ heap_alloc_new w _)
  have B1 := Lib.hid (show Below w.heap.size w w1 from hw1 ▸ below_one w _)
  have LW := Lib.hid (show w.heap.size < w1.heap.size from (Array.getElem?_eq_some_iff.1 HP1.out).1)
  have HQ1 := Lib.hid (heap_alloc_new w1 (.cells #[.int .i64 0, .int .i64 0, .int .i64 0, .int .i64 0, .int .i64 0, .int .i64 0, .int .i64 0, .int .i64 0, .int .i64 0, .int .i64 0, .int .i64 0, .string ⟨#[]⟩, .int .i64 0, .int .i64 0, .bool false, .int .i64 0, .string ⟨#[]⟩, .int .i64 0, .int .i64 0, .int .i64 0, .int .i64 0, .int .i64 0, .int .i64 0, .slice .none 0 0, .bool false, .int .i64 0, .int .i64 0] 46))
  obtain ⟨p, hp⟩ : ∃ p, w.heap.size = p := ⟨_, rfl⟩
  have HPH := Lib.hid hp
  rw [hp] at HP1
  have M0 := Lib.hid h
  clear h e6 h6 hm m256 hs7 hv0 hs1 hv1 hs2 hv2 hs3 hv3 hs4 hv4 hs5 hv5 hs6
  go_enter Try.func51, Try.ntmps51
  go_upto_region 1 with fail
  try rw [hw1]
  try simp only [hp]
  clear hw1 hp
  go_upto_region 2 with (first | (refine wpList_store_row rfl 46 (.tmp 5) (.tmp 9) rfl w1.heap.size #[.int .i64 4, .int .i64 0, .int .i64 0, .int .i64 0, .int .i64 0, .int .i64 0, .int .i64 0, .int .i64 0, .int .i64 0, .int .i64 0, .int .i64 0, .string ⟨#[]⟩, .int .i64 0, .int .i64 0, .bool false, .int .i64 0, .string ⟨#[]⟩, .int .i64 0, .int .i64 0, .int .i64 0, .int .i64 0, .int .i64 0, .int .i64 0, .slice .none 0 0, .bool false, .int .i64 0, .int .i64 0] rfl rfl 46 #[.int .i64 0, .int .i64 0, .int .i64 0, .int .i64 0, .int .i64 0, .int .i64 0, .int .i64 0, .int .i64 0, .int .i64 0, .int .i64 0, .int .i64 0, .string ⟨#[]⟩, .int .i64 0, .int .i64 0, .bool false, .int .i64 0, .string ⟨#[]⟩, .int .i64 0, .int .i64 0, .int .i64 0, .int .i64 0, .int .i64 0, .int .i64 0, .slice .none 0 0, .bool false, .int .i64 0, .int .i64 0] HQ1.out (by kernel_rfl) rfl (by simp [Value.oneCell']) ?_) | fail)
  obtain ⟨w2, hw2⟩ : ∃ w2, (w1.alloc (.cells #[.int .i64 0, .int .i64 0, .int .i64 0, .int .i64 0, .int .i64 0, .int .i64 0, .int .i64 0, .int .i64 0, .int .i64 0, .int .i64 0, .int .i64 0, .string ⟨#[]⟩, .int .i64 0, .int .i64 0, .bool false, .int .i64 0, .string ⟨#[]⟩, .int .i64 0, .int .i64 0, .int .i64 0, .int .i64 0, .int .i64 0, .int .i64 0, .slice .none 0 0, .bool false, .int .i64 0, .int .i64 0] 46)).setRow w1.heap.size #[.int .i64 4, .int .i64 0, .int .i64 0, .int .i64 0, .int .i64 0, .int .i64 0, .int .i64 0, .int .i64 0, .int .i64 0, .int .i64 0, .int .i64 0, .string ⟨#[]⟩, .int .i64 0, .int .i64 0, .bool false, .int .i64 0, .string ⟨#[]⟩, .int .i64 0, .int .i64 0, .int .i64 0, .int .i64 0, .int .i64 0, .int .i64 0, .slice .none 0 0, .bool false, .int .i64 0, .int .i64 0] = w2 := ⟨_, rfl⟩
  have HQ0 := Lib.hid (show w2.heap[w1.heap.size]? = some (.cells #[.int .i64 4, .int .i64 0, .int .i64 0, .int .i64 0, .int .i64 0, .int .i64 0, .int .i64 0, .int .i64 0, .int .i64 0, .int .i64 0, .int .i64 0, .string ⟨#[]⟩, .int .i64 0, .int .i64 0, .bool false, .int .i64 0, .string ⟨#[]⟩, .int .i64 0, .int .i64 0, .int .i64 0, .int .i64 0, .int .i64 0, .int .i64 0, .slice .none 0 0, .bool false, .int .i64 0, .int .i64 0] 46 (0, 0)) from hw2 ▸ setRow_heap _ _ _ _ _ _ HQ1.out)
  have b12 : Below w1.heap.size w1 w2 := hw2 ▸ below_setRow (below_one w1 _) (Nat.le_refl _) #[.int .i64 4, .int .i64 0, .int .i64 0, .int .i64 0, .int .i64 0, .int .i64 0, .int .i64 0, .int .i64 0, .int .i64 0, .int .i64 0, .int .i64 0, .string ⟨#[]⟩, .int .i64 0, .int .i64 0, .bool false, .int .i64 0, .string ⟨#[]⟩, .int .i64 0, .int .i64 0, .int .i64 0, .int .i64 0, .int .i64 0, .int .i64 0, .slice .none 0 0, .bool false, .int .i64 0, .int .i64 0]
  have HP0 := Lib.hid (heap_keep HP1.out b12)
  have BW := B1.out.trans (b12.mono B1.out.size)
  have R0 := Lib.hid (M0.out.below BW)
  have TT0 := Lib.hid (show Turn (fun k => k = r ∨ p ≤ k) w w2 from Turn.of_below BW)
  rw [hw2]
  obtain ⟨q, hq⟩ : ∃ q, w1.heap.size = q := ⟨_, rfl⟩
  have PQ := Lib.hid (show p < q from by have h1 := LW.out; have h2 := HPH.out; omega)
  have RP := Lib.hid (show r < p from by have h1 := LR.out; have h2 := HPH.out; omega)
  have AP := Lib.hid (show 0 < n → ∀ q' o, a = some ⟨q', o, none⟩ → q' < p from fun h0 q' o e => by have h1 := AL.out h0 q' o e; have h2 := HPH.out; omega)
  rw [hq] at HQ0
  try simp only [hq]
  clear hw2 b12 BW HP1 HQ1 M0 hq LW LR AL B1
  go_upto_region 26 with fail
  have HU := Lib.hid (heap_alloc_new w2 (.cells #[.int .i64 0, .int .i64 0, .int .i64 0, .int .i64 0, .int .i64 0, .int .i64 0, .slice .none 0 0, .bool false] 32))
  have HQ := Lib.hid (heapD (o2 := .cells #[.int .i64 0, .int .i64 0, .int .i64 0, .int .i64 0, .int .i64 0, .int .i64 0, .slice .none 0 0, .bool false] 32) HQ0.out)
  have HP := Lib.hid (heapD (o2 := .cells #[.int .i64 0, .int .i64 0, .int .i64 0, .int .i64 0, .int .i64 0, .int .i64 0, .slice .none 0 0, .bool false] 32) HP0.out)
  have R := Lib.hid (R0.out.below (below_one w2 (.cells #[.int .i64 0, .int .i64 0, .int .i64 0, .int .i64 0, .int .i64 0, .int .i64 0, .slice .none 0 0, .bool false] 32)))
  have TT := Lib.hid (TT0.out.trans (Turn.of_below (F := fun k => k = r ∨ p ≤ k) (below_one w2 (.cells #[.int .i64 0, .int .i64 0, .int .i64 0, .int .i64 0, .int .i64 0, .int .i64 0, .slice .none 0 0, .bool false] 32))))
  have QU0 := (Array.getElem?_eq_some_iff.1 HQ0.out).1
  generalize w2.alloc (.cells #[.int .i64 0, .int .i64 0, .int .i64 0, .int .i64 0, .int .i64 0, .int .i64 0, .slice .none 0 0, .bool false] 32) = w3 at HU HQ HP R TT ⊢
  obtain ⟨u, hu⟩ : ∃ u, w2.heap.size = u := ⟨_, rfl⟩
  rw [hu] at HU QU0
  try simp only [hu]
  have QU := Lib.hid QU0
  clear hu QU0 HQ0 HP0 R0 TT0
  have D0 := Lib.hid (C0.out _ R.out)
  clear C0
  go_wp2_with fail
  with_reducible refine D0.out.mono ?_
  rintro e wa ⟨rfl, hM, hT⟩
  have hu1 := heap_turn HU.out hT (by have := QU.out; have := PQ.out; have := RP.out; omega)
  have HQ' := Lib.hid (heap_turn HQ.out hT (by have := PQ.out; have := RP.out; omega))
  have HP' := Lib.hid (heap_turn HP.out hT (by have := RP.out; omega))
  have TT' := Lib.hid (TT.out.trans (turn_weak hT (fun k hk => Or.inl hk)))
  have hx := heap_cellI (i := 0) hu1 rfl
  have hf := heap_free (i := 0) hu1
  have R' := Lib.hid hM
  have HU' := Lib.hid hu1
  clear hu1 hM hT R HQ HP TT HU D0
  go_upto_region 27 with fail
  have HU := Lib.hid (show (wa.setCell ⟨u, 0, none⟩ (.int .i64 v0)).heap[u]? = some (.cells #[.int .i64 v0, .int .i64 0, .int .i64 0, .int .i64 0, .int .i64 0, .int .i64 0, .slice .none 0 0, .bool false] 32 (0, 0)) from heap_set HU'.out)
  have hts : Turn (fun k => k = u) wa (wa.setCell ⟨u, 0, none⟩ (.int .i64 v0)) := Turn.setCell rfl
  have HQ := Lib.hid (heap_turn HQ'.out hts (by have := QU.out; omega))
  have HP := Lib.hid (heap_turn HP'.out hts (by have := PQ.out; have := QU.out; omega))
  have R := Lib.hid (R'.out.fresh hts (by have := PQ.out; have := QU.out; have := RP.out; omega) (fun h0 q' o e => by have := AP.out h0 q' o e; have := PQ.out; have := QU.out; omega))
  have TT := Lib.hid (TT'.out.trans (turn_weak hts (fun k hk => Or.inr (by have := PQ.out; have := QU.out; omega))))
  generalize wa.setCell ⟨u, 0, none⟩ (.int .i64 v0) = wb0 at HU HQ HP R TT ⊢
  clear hx hf hts HP' TT' R' HQ' HU'
  have D1 := Lib.hid (C1.out _ R.out)
  clear C1
  go_wp2_with fail
  with_reducible refine D1.out.mono ?_
  rintro e wa ⟨rfl, hM, hT⟩
  have hu1 := heap_turn HU.out hT (by have := QU.out; have := PQ.out; have := RP.out; omega)
  have HQ' := Lib.hid (heap_turn HQ.out hT (by have := PQ.out; have := RP.out; omega))
  have HP' := Lib.hid (heap_turn HP.out hT (by have := RP.out; omega))
  have TT' := Lib.hid (TT.out.trans (turn_weak hT (fun k hk => Or.inl hk)))
  have hx := heap_cellI (i := 1) hu1 rfl
  have hf := heap_free (i := 1) hu1
  have R' := Lib.hid hM
  have HU' := Lib.hid hu1
  clear hu1 hM hT R HQ HP TT HU D1
  go_upto_region 28 with fail
  have HU := Lib.hid (show (wa.setCell ⟨u, 1, none⟩ (.int .i64 v1)).heap[u]? = some (.cells #[.int .i64 v0, .int .i64 v1, .int .i64 0, .int .i64 0, .int .i64 0, .int .i64 0, .slice .none 0 0, .bool false] 32 (0, 0)) from heap_set HU'.out)
  have hts : Turn (fun k => k = u) wa (wa.setCell ⟨u, 1, none⟩ (.int .i64 v1)) := Turn.setCell rfl
  have HQ := Lib.hid (heap_turn HQ'.out hts (by have := QU.out; omega))
  have HP := Lib.hid (heap_turn HP'.out hts (by have := PQ.out; have := QU.out; omega))
  have R := Lib.hid (R'.out.fresh hts (by have := PQ.out; have := QU.out; have := RP.out; omega) (fun h0 q' o e => by have := AP.out h0 q' o e; have := PQ.out; have := QU.out; omega))
  have TT := Lib.hid (TT'.out.trans (turn_weak hts (fun k hk => Or.inr (by have := PQ.out; have := QU.out; omega))))
  generalize wa.setCell ⟨u, 1, none⟩ (.int .i64 v1) = wb1 at HU HQ HP R TT ⊢
  clear hx hf hts HP' TT' R' HQ' HU'
  have D2 := Lib.hid (C2.out _ R.out)
  clear C2
  go_wp2_with fail
  with_reducible refine D2.out.mono ?_
  rintro e wa ⟨rfl, hM, hT⟩
  have hu1 := heap_turn HU.out hT (by have := QU.out; have := PQ.out; have := RP.out; omega)
  have HQ' := Lib.hid (heap_turn HQ.out hT (by have := PQ.out; have := RP.out; omega))
  have HP' := Lib.hid (heap_turn HP.out hT (by have := RP.out; omega))
  have TT' := Lib.hid (TT.out.trans (turn_weak hT (fun k hk => Or.inl hk)))
  have hx := heap_cellI (i := 2) hu1 rfl
  have hf := heap_free (i := 2) hu1
  have R' := Lib.hid hM
  have HU' := Lib.hid hu1
  clear hu1 hM hT R HQ HP TT HU D2
  go_upto_region 29 with fail
  have HU := Lib.hid (show (wa.setCell ⟨u, 2, none⟩ (.int .i64 v2)).heap[u]? = some (.cells #[.int .i64 v0, .int .i64 v1, .int .i64 v2, .int .i64 0, .int .i64 0, .int .i64 0, .slice .none 0 0, .bool false] 32 (0, 0)) from heap_set HU'.out)
  have hts : Turn (fun k => k = u) wa (wa.setCell ⟨u, 2, none⟩ (.int .i64 v2)) := Turn.setCell rfl
  have HQ := Lib.hid (heap_turn HQ'.out hts (by have := QU.out; omega))
  have HP := Lib.hid (heap_turn HP'.out hts (by have := PQ.out; have := QU.out; omega))
  have R := Lib.hid (R'.out.fresh hts (by have := PQ.out; have := QU.out; have := RP.out; omega) (fun h0 q' o e => by have := AP.out h0 q' o e; have := PQ.out; have := QU.out; omega))
  have TT := Lib.hid (TT'.out.trans (turn_weak hts (fun k hk => Or.inr (by have := PQ.out; have := QU.out; omega))))
  generalize wa.setCell ⟨u, 2, none⟩ (.int .i64 v2) = wb2 at HU HQ HP R TT ⊢
  clear hx hf hts HP' TT' R' HQ' HU'
  have D3 := Lib.hid (C3.out _ R.out)
  clear C3
  go_wp2_with fail
  with_reducible refine D3.out.mono ?_
  rintro e wa ⟨rfl, hM, hT⟩
  have hu1 := heap_turn HU.out hT (by have := QU.out; have := PQ.out; have := RP.out; omega)
  have HQ' := Lib.hid (heap_turn HQ.out hT (by have := PQ.out; have := RP.out; omega))
  have HP' := Lib.hid (heap_turn HP.out hT (by have := RP.out; omega))
  have TT' := Lib.hid (TT.out.trans (turn_weak hT (fun k hk => Or.inl hk)))
  have hx := heap_cellI (i := 3) hu1 rfl
  have hf := heap_free (i := 3) hu1
  have R' := Lib.hid hM
  have HU' := Lib.hid hu1
  clear hu1 hM hT R HQ HP TT HU D3
  go_upto_region 30 with fail
  have HU := Lib.hid (show (wa.setCell ⟨u, 3, none⟩ (.int .i64 v3)).heap[u]? = some (.cells #[.int .i64 v0, .int .i64 v1, .int .i64 v2, .int .i64 v3, .int .i64 0, .int .i64 0, .slice .none 0 0, .bool false] 32 (0, 0)) from heap_set HU'.out)
  have hts : Turn (fun k => k = u) wa (wa.setCell ⟨u, 3, none⟩ (.int .i64 v3)) := Turn.setCell rfl
  have HQ := Lib.hid (heap_turn HQ'.out hts (by have := QU.out; omega))
  have HP := Lib.hid (heap_turn HP'.out hts (by have := PQ.out; have := QU.out; omega))
  have R := Lib.hid (R'.out.fresh hts (by have := PQ.out; have := QU.out; have := RP.out; omega) (fun h0 q' o e => by have := AP.out h0 q' o e; have := PQ.out; have := QU.out; omega))
  have TT := Lib.hid (TT'.out.trans (turn_weak hts (fun k hk => Or.inr (by have := PQ.out; have := QU.out; omega))))
  generalize wa.setCell ⟨u, 3, none⟩ (.int .i64 v3) = wb3 at HU HQ HP R TT ⊢
  clear hx hf hts HP' TT' R' HQ' HU'
  have D4 := Lib.hid (C4.out _ R.out)
  clear C4
  go_wp2_with fail
  with_reducible refine D4.out.mono ?_
  rintro e wa ⟨rfl, hM, hT⟩
  have hu1 := heap_turn HU.out hT (by have := QU.out; have := PQ.out; have := RP.out; omega)
  have HQ' := Lib.hid (heap_turn HQ.out hT (by have := PQ.out; have := RP.out; omega))
  have HP' := Lib.hid (heap_turn HP.out hT (by have := RP.out; omega))
  have TT' := Lib.hid (TT.out.trans (turn_weak hT (fun k hk => Or.inl hk)))
  have hx := heap_cellI (i := 4) hu1 rfl
  have hf := heap_free (i := 4) hu1
  have R' := Lib.hid hM
  have HU' := Lib.hid hu1
  clear hu1 hM hT R HQ HP TT HU D4
  go_upto_region 31 with fail
  have HU := Lib.hid (show (wa.setCell ⟨u, 4, none⟩ (.int .i64 v4)).heap[u]? = some (.cells #[.int .i64 v0, .int .i64 v1, .int .i64 v2, .int .i64 v3, .int .i64 v4, .int .i64 0, .slice .none 0 0, .bool false] 32 (0, 0)) from heap_set HU'.out)
  have hts : Turn (fun k => k = u) wa (wa.setCell ⟨u, 4, none⟩ (.int .i64 v4)) := Turn.setCell rfl
  have HQ := Lib.hid (heap_turn HQ'.out hts (by have := QU.out; omega))
  have HP := Lib.hid (heap_turn HP'.out hts (by have := PQ.out; have := QU.out; omega))
  have R := Lib.hid (R'.out.fresh hts (by have := PQ.out; have := QU.out; have := RP.out; omega) (fun h0 q' o e => by have := AP.out h0 q' o e; have := PQ.out; have := QU.out; omega))
  have TT := Lib.hid (TT'.out.trans (turn_weak hts (fun k hk => Or.inr (by have := PQ.out; have := QU.out; omega))))
  generalize wa.setCell ⟨u, 4, none⟩ (.int .i64 v4) = wb4 at HU HQ HP R TT ⊢
  clear hx hf hts HP' TT' R' HQ' HU'
  have D5 := Lib.hid (C5.out _ R.out)
  clear C5
  go_wp2_with fail
  with_reducible refine D5.out.mono ?_
  rintro e wa ⟨rfl, hM, hT⟩
  have hu1 := heap_turn HU.out hT (by have := QU.out; have := PQ.out; have := RP.out; omega)
  have HQ' := Lib.hid (heap_turn HQ.out hT (by have := PQ.out; have := RP.out; omega))
  have HP' := Lib.hid (heap_turn HP.out hT (by have := RP.out; omega))
  have TT' := Lib.hid (TT.out.trans (turn_weak hT (fun k hk => Or.inl hk)))
  have hx := heap_cellI (i := 5) hu1 rfl
  have hf := heap_free (i := 5) hu1
  have R' := Lib.hid hM
  have HU' := Lib.hid hu1
  clear hu1 hM hT R HQ HP TT HU D5
  go_upto_region 32 with fail
  have HU := Lib.hid (show (wa.setCell ⟨u, 5, none⟩ (.int .i64 v5)).heap[u]? = some (.cells #[.int .i64 v0, .int .i64 v1, .int .i64 v2, .int .i64 v3, .int .i64 v4, .int .i64 v5, .slice .none 0 0, .bool false] 32 (0, 0)) from heap_set HU'.out)
  have hts : Turn (fun k => k = u) wa (wa.setCell ⟨u, 5, none⟩ (.int .i64 v5)) := Turn.setCell rfl
  have HQ := Lib.hid (heap_turn HQ'.out hts (by have := QU.out; omega))
  have HP := Lib.hid (heap_turn HP'.out hts (by have := PQ.out; have := QU.out; omega))
  have R := Lib.hid (R'.out.fresh hts (by have := PQ.out; have := QU.out; have := RP.out; omega) (fun h0 q' o e => by have := AP.out h0 q' o e; have := PQ.out; have := QU.out; omega))
  have TT := Lib.hid (TT'.out.trans (turn_weak hts (fun k hk => Or.inr (by have := PQ.out; have := QU.out; omega))))
  generalize wa.setCell ⟨u, 5, none⟩ (.int .i64 v5) = wb5 at HU HQ HP R TT ⊢
  clear hx hf hts HP' TT' R' HQ' HU'
  have D6 := Lib.hid (C6.out _ R.out)
  clear C6
  go_wp2_with fail
  with_reducible refine D6.out.mono ?_
  rintro e wa ⟨rfl, hM, hT⟩
  have hu1 := heap_turn HU.out hT (by have := QU.out; have := PQ.out; have := RP.out; omega)
  have HQ' := Lib.hid (heap_turn HQ.out hT (by have := PQ.out; have := RP.out; omega))
  have HP' := Lib.hid (heap_turn HP.out hT (by have := RP.out; omega))
  have TT' := Lib.hid (TT.out.trans (turn_weak hT (fun k hk => Or.inl hk)))
  have E6 := Lib.hid (dsItems m M256.out wa hM)
  have UL := Lib.hid (Array.getElem?_eq_some_iff.1 hu1).1
  clear HU HQ HP TT R D6 hT
  have HU := Lib.hid hu1
  have HQ := HQ'; have HP := HP'; have TT := TT'
  clear hu1 HQ' HP' TT' hM
  go_wp2_with fail
  with_reducible refine E6.out.mono ?_
  rintro e wc ⟨j, hjm, hjb, ia, ic, rfl, hk, hni, hc, ho, hM, hT⟩
  have hu1 := heap_turn HU.out hT (by have := QU.out; have := PQ.out; have := RP.out; omega)
  have HQ' := Lib.hid (heap_turn HQ.out hT (by have := PQ.out; have := RP.out; omega))
  have HP' := Lib.hid (heap_turn HP.out hT (by have := RP.out; omega))
  have TT' := Lib.hid (TT.out.trans (turn_weak hT (fun k hk => Or.inl hk)))
  have J := Lib.hid (And.intro hjm hjb)
  have NC := Lib.hid (And.intro hni hc)
  have G := Lib.hid (show ∀ q' o, 0 < j → ia = some ⟨q', o, none⟩ → q' ≠ r ∧ q' ≠ u ∧ q' ≠ q ∧ q' ≠ p ∧ p ≤ q' from fun q' o h0 e => by
    obtain ⟨g, cp, hv⟩ := Joins.ownsRow_form ho h0
    simp only [Value.slice.injEq] at hv
    have h1 := (ho.lt g (by rw [hv.1]; rfl)).1
    rw [e] at hv
    obtain ⟨e3, -, -⟩ := hv
    injection e3 with e3; injection e3 with e3 e4
    have h3 := UL.out; have h4 := QU.out; have h5 := PQ.out; have h6 := RP.out
    omega)
  obtain ⟨t8, ht8⟩ : ∃ t, dIs bs n j s7 = t := ⟨_, rfl⟩
  obtain ⟨ks, hks⟩ : ∃ k, dIl bs n j s7 = k := ⟨_, rfl⟩
  rw [hks] at hk
  rw [ht8] at hM J
  have KK' := Lib.hid hk
  have HT8 := Lib.hid ht8; have HKS := Lib.hid hks
  clear hjm hjb hni hc ho hk ht8 hks E6 UL
  have hx := heap_cellI (i := 6) hu1 rfl
  have hf := heap_free (i := 6) hu1
  have R' := Lib.hid hM
  have HU' := Lib.hid hu1
  clear hu1 hM hT HQ HP TT HU
  go_upto_region 33 with fail
  have HU := Lib.hid (show (wc.setCell ⟨u, 6, none⟩ (.slice ia j ic)).heap[u]? = some (.cells #[.int .i64 v0, .int .i64 v1, .int .i64 v2, .int .i64 v3, .int .i64 v4, .int .i64 v5, .slice ia j ic, .bool false] 32 (0, 0)) from heap_set HU'.out)
  have hts : Turn (fun k => k = u) wc (wc.setCell ⟨u, 6, none⟩ (.slice ia j ic)) := Turn.setCell rfl
  have HQ := Lib.hid (heap_turn HQ'.out hts (by have := QU.out; omega))
  have HP := Lib.hid (heap_turn HP'.out hts (by have := PQ.out; have := QU.out; omega))
  have R := Lib.hid (R'.out.fresh hts (by have := PQ.out; have := QU.out; have := RP.out; omega) (fun h0 q' o e => by have := AP.out h0 q' o e; have := PQ.out; have := QU.out; omega))
  have TT := Lib.hid (TT'.out.trans (turn_weak hts (fun k hk => Or.inr (by have := PQ.out; have := QU.out; omega))))
  have KK := Lib.hid (holdsK_fresh KK'.out hts (fun h0 fb fo e => (G.out fb fo h0 e).2.1))
  generalize wc.setCell ⟨u, 6, none⟩ (.slice ia j ic) = wb6 at HU HQ HP R TT KK ⊢
  clear hx hf hts HP' TT' R' HQ' HU' KK'
  have D7 := Lib.hid (C7.out t8 _ R.out)
  obtain ⟨vf, hvf⟩ : ∃ v, dG bs n 1 t8 = v := ⟨_, rfl⟩
  rw [hvf] at D7
  have HVF := Lib.hid hvf
  clear C7 hvf
  go_wp2_with fail
  with_reducible refine D7.out.mono ?_
  rintro e wa ⟨rfl, hM, hT⟩
  have hu1 := heap_turn HU.out hT (by have := QU.out; have := PQ.out; have := RP.out; omega)
  have HQ' := Lib.hid (heap_turn HQ.out hT (by have := PQ.out; have := RP.out; omega))
  have HP' := Lib.hid (heap_turn HP.out hT (by have := RP.out; omega))
  have TT' := Lib.hid (TT.out.trans (turn_weak hT (fun k hk => Or.inl hk)))
  have KK' := Lib.hid (holdsK_fresh KK.out hT (fun h0 fb fo e => (G.out fb fo h0 e).1))
  clear KK
  have hx := heap_cellI (i := 7) hu1 rfl
  have hf := heap_free (i := 7) hu1
  have R' := Lib.hid hM
  have HU' := Lib.hid hu1
  clear hu1 hM hT R HQ HP TT HU D7
  go_upto_region 34 with fail
  have HU := Lib.hid (show (wa.setCell ⟨u, 7, none⟩ (.bool (vf == 1))).heap[u]? = some (.cells #[.int .i64 v0, .int .i64 v1, .int .i64 v2, .int .i64 v3, .int .i64 v4, .int .i64 v5, .slice ia j ic, .bool (vf == 1)] 32 (0, 0)) from heap_set HU'.out)
  have hts : Turn (fun k => k = u) wa (wa.setCell ⟨u, 7, none⟩ (.bool (vf == 1))) := Turn.setCell rfl
  have HQ := Lib.hid (heap_turn HQ'.out hts (by have := QU.out; omega))
  have HP := Lib.hid (heap_turn HP'.out hts (by have := PQ.out; have := QU.out; omega))
  have R := Lib.hid (R'.out.fresh hts (by have := PQ.out; have := QU.out; have := RP.out; omega) (fun h0 q' o e => by have := AP.out h0 q' o e; have := PQ.out; have := QU.out; omega))
  have TT := Lib.hid (TT'.out.trans (turn_weak hts (fun k hk => Or.inr (by have := PQ.out; have := QU.out; omega))))
  have KK := Lib.hid (holdsK_fresh KK'.out hts (fun h0 fb fo e => (G.out fb fo h0 e).2.1))
  generalize wa.setCell ⟨u, 7, none⟩ (.bool (vf == 1)) = wb7 at HU HQ HP R TT KK ⊢
  clear hx hf hts HP' TT' R' HQ' HU' KK'
  have HT := Lib.hid (show wb7.there q 17 8 from there_heap HQ.out (by decide))
  have EP : putsA #[.int .i64 4, .int .i64 0, .int .i64 0, .int .i64 0, .int .i64 0, .int .i64 0, .int .i64 0, .int .i64 0, .int .i64 0, .int .i64 0, .int .i64 0, .string ⟨#[]⟩, .int .i64 0, .int .i64 0, .bool false, .int .i64 0, .string ⟨#[]⟩, .int .i64 0, .int .i64 0, .int .i64 0, .int .i64 0, .int .i64 0, .int .i64 0, .slice .none 0 0, .bool false, .int .i64 0, .int .i64 0] 17 [.int .i64 v0, .int .i64 v1, .int .i64 v2, .int .i64 v3, .int .i64 v4, .int .i64 v5, .slice ia j ic, .bool (vf == 1)] = #[.int .i64 4, .int .i64 0, .int .i64 0, .int .i64 0, .int .i64 0, .int .i64 0, .int .i64 0, .int .i64 0, .int .i64 0, .int .i64 0, .int .i64 0, .string ⟨#[]⟩, .int .i64 0, .int .i64 0, .bool false, .int .i64 0, .string ⟨#[]⟩, .int .i64 v0, .int .i64 v1, .int .i64 v2, .int .i64 v3, .int .i64 v4, .int .i64 v5, .slice ia j ic, .bool (vf == 1), .int .i64 0, .int .i64 0] := by kernel_rfl
  go_upto_region 38 with (first | (refine wpList_load_row rfl 32 (.tmp 7) rfl u rfl 32 #[.int .i64 v0, .int .i64 v1, .int .i64 v2, .int .i64 v3, .int .i64 v4, .int .i64 v5, .slice ia j ic, .bool (vf == 1)] (0, 0) _ HU.out Try.underlying32 rfl (by kernel_rfl) ?_) | (refine wpList_store_mid rfl 32 (.tmp 107) (.tmp 106) rfl q 17 #[.int .i64 v0, .int .i64 v1, .int .i64 v2, .int .i64 v3, .int .i64 v4, .int .i64 v5, .slice ia j ic, .bool (vf == 1)] rfl rfl HT.out (by kernel_rfl) (by simp [Value.oneCell']) ?_) | fail)
  have HQ2 := Lib.hid (heap_setCells [.int .i64 v0, .int .i64 v1, .int .i64 v2, .int .i64 v3, .int .i64 v4, .int .i64 v5, .slice ia j ic, .bool (vf == 1)] 17 wb7 _ HQ.out)
  rw [EP] at HQ2
  have hts : Turn (fun k => k = q) wb7 (wb7.setCells q 17 [.int .i64 v0, .int .i64 v1, .int .i64 v2, .int .i64 v3, .int .i64 v4, .int .i64 v5, .slice ia j ic, .bool (vf == 1)]) := turn_setCells [.int .i64 v0, .int .i64 v1, .int .i64 v2, .int .i64 v3, .int .i64 v4, .int .i64 v5, .slice ia j ic, .bool (vf == 1)] 17 wb7
  have HP2 := Lib.hid (heap_turn HP.out hts (by have := PQ.out; omega))
  have R2 := Lib.hid (R.out.fresh hts (by have := PQ.out; have := RP.out; omega) (fun h0 q' o e => by have := AP.out h0 q' o e; have := PQ.out; omega))
  have TT2 := Lib.hid (TT.out.trans (turn_weak hts (fun k hk => Or.inr (by have := PQ.out; omega))))
  have KK2 := Lib.hid (holdsK_fresh KK.out hts (fun h0 fb fo e => (G.out fb fo h0 e).2.2.1))
  generalize (wb7.setCells q 17 [.int .i64 v0, .int .i64 v1, .int .i64 v2, .int .i64 v3, .int .i64 v4, .int .i64 v5, .slice ia j ic, .bool (vf == 1)]) = w9 at HQ2 HP2 R2 TT2 KK2 ⊢
  clear hts HQ HP R TT HU EP HT KK
  go_wp2_with (first | (refine wpList_load_row rfl 46 (.tmp 5) rfl q rfl 46 #[.int .i64 4, .int .i64 0, .int .i64 0, .int .i64 0, .int .i64 0, .int .i64 0, .int .i64 0, .int .i64 0, .int .i64 0, .int .i64 0, .int .i64 0, .string ⟨#[]⟩, .int .i64 0, .int .i64 0, .bool false, .int .i64 0, .string ⟨#[]⟩, .int .i64 v0, .int .i64 v1, .int .i64 v2, .int .i64 v3, .int .i64 v4, .int .i64 v5, .slice ia j ic, .bool (vf == 1), .int .i64 0, .int .i64 0] (0, 0) _ HQ2.out Try.underlying46 rfl (by kernel_rfl) ?_) | (refine wpList_store_row rfl 46 (.tmp 4) (.tmp 118) rfl p #[.int .i64 4, .int .i64 0, .int .i64 0, .int .i64 0, .int .i64 0, .int .i64 0, .int .i64 0, .int .i64 0, .int .i64 0, .int .i64 0, .int .i64 0, .string ⟨#[]⟩, .int .i64 0, .int .i64 0, .bool false, .int .i64 0, .string ⟨#[]⟩, .int .i64 v0, .int .i64 v1, .int .i64 v2, .int .i64 v3, .int .i64 v4, .int .i64 v5, .slice ia j ic, .bool (vf == 1), .int .i64 0, .int .i64 0] rfl rfl 46 #[.int .i64 0, .int .i64 0, .int .i64 0, .int .i64 0, .int .i64 0, .int .i64 0, .int .i64 0, .int .i64 0, .int .i64 0, .int .i64 0, .int .i64 0, .string ⟨#[]⟩, .int .i64 0, .int .i64 0, .bool false, .int .i64 0, .string ⟨#[]⟩, .int .i64 0, .int .i64 0, .int .i64 0, .int .i64 0, .int .i64 0, .int .i64 0, .slice .none 0 0, .bool false, .int .i64 0, .int .i64 0] HP2.out (by kernel_rfl) rfl (by simp [Value.oneCell']) ?_) | fail)
  (try simp only [Exit.inBlock, Exit.then])
  refine bodyPost_ret (results_cell_row rfl _ _ p 46 #[.int .i64 4, .int .i64 0, .int .i64 0, .int .i64 0, .int .i64 0, .int .i64 0, .int .i64 0, .int .i64 0, .int .i64 0, .int .i64 0, .int .i64 0, .string ⟨#[]⟩, .int .i64 0, .int .i64 0, .bool false, .int .i64 0, .string ⟨#[]⟩, .int .i64 v0, .int .i64 v1, .int .i64 v2, .int .i64 v3, .int .i64 v4, .int .i64 v5, .slice ia j ic, .bool (vf == 1), .int .i64 0, .int .i64 0] (0, 0) _ rfl (setRow_heap _ p _ _ _ _ HP2.out) Try.underlying46 rfl (by kernel_rfl)) rfl ?_
  have PL := (Array.getElem?_eq_some_iff.1 HP2.out).1
  have bb := below_setRow (Below.refl p w9) (Nat.le_refl p) #[.int .i64 4, .int .i64 0, .int .i64 0, .int .i64 0, .int .i64 0, .int .i64 0, .int .i64 0, .int .i64 0, .int .i64 0, .int .i64 0, .int .i64 0, .string ⟨#[]⟩, .int .i64 0, .int .i64 0, .bool false, .int .i64 0, .string ⟨#[]⟩, .int .i64 v0, .int .i64 v1, .int .i64 v2, .int .i64 v3, .int .i64 v4, .int .i64 v5, .slice ia j ic, .bool (vf == 1), .int .i64 0, .int .i64 0]
  refine FF.out j ia ic ks t8 vf _ J.out.1 J.out.2 HT8.out HKS.out HVF.out ⟨holdsK_fresh KK2.out (turn_setRow w9 p _) (fun h0 fb fo e => (G.out fb fo h0 e).2.2.2.1), NC.out.1, NC.out.2⟩ (by rw [HPH.out]; exact fun q' o h0 e => (G.out q' o h0 e).2.2.2.2) (R2.out.old bb (by omega) RP.out AP.out) ?_
  · rw [HPH.out]
    exact TT2.out.trans (turn_weak (turn_above bb) (fun k hk => Or.inr hk))
end Go.Proofs.Ythboiklcjpnhbaa
