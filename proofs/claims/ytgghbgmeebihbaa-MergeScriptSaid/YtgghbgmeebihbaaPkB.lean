/- texts joined -/
import Derived.Test.YtgghbgmeebihbaaPkA
import Derived.WalkLawsBesides
import Derived.WalkSpells
import Derived.Outline
import Derived.Deep.QuietTactic
import Derived.BigQuiet
import Derived.Deep.DeepCutAuto
import Derived.Shelf.SlSortCmp.NoneTotal
import Derived.Ground.SlsfProg
import Derived.Sort.OwnSorted
import Derived.WalkKit
import Derived.Test.YtgghbgmeebihbaaChecked
import Derived.Deep.CutRange
import Derived.Deep.CutBlock
import Derived.Laws.OwnMore
import Derived.Lib.SliceRun
/- merge: first -/
namespace Go.Proofs.Ytgghbgmeebihbaa
open Go.RowKit
set_option linter.unusedVariables false
set_option maxRecDepth 20000
theorem mfirst_nil (a : Option Addr) (c : Nat) (w : World) : Calls Try.prog 45 #[.slice a 0 c] w fun e w' => e = .returned (.tuple #[.agg #[.int .i64 0, .int .i64 0, .string ⟨#[]⟩], .bool false]) ∧ Below w.heap.size w w' := by
  go_enter Try.func45, Try.ntmps45
  go_wp2_with fail
  refine bodyPost_ret (v := .tuple #[.agg #[.int .i64 0, .int .i64 0, .string ⟨#[]⟩], .bool false]) (by simp [results, go_sem]) rfl ⟨rfl, ?_⟩
  first
    | exact below_one _ _
    | exact (((below_one w _).setCell (p := ⟨w.heap.size, 0, none⟩) (Nat.le_refl _) _).setCell (p := ⟨w.heap.size, 1, none⟩) (Nat.le_refl _) _).setCell (p := ⟨w.heap.size, 2, none⟩) (Nat.le_refl _) _
def FstI (w0 w : World) (p : Nat) (x : HD) : Prop := HeIn w (p + 1) x ∧ HeIn w p hd0 ∧ (∀ i, w.frozen? ⟨p + 1, i, none⟩ = false) ∧ (∀ i, w.frozen? ⟨p, i, none⟩ = false) ∧ Below w0.heap.size w0 w
theorem FstI.below {w0 w w' : World} {p : Nat} {x : HD} (h : FstI w0 w p x) (hb : Below w.heap.size w w') : FstI w0 w' p x :=
  ⟨h.1.below hb, h.2.1.below hb, fun i => (hb.frozen (p := ⟨p + 1, i, none⟩) (lt_of_cell h.1.1)).trans (h.2.2.1 i), fun i => (hb.frozen (p := ⟨p, i, none⟩) (lt_of_cell h.2.1.1)).trans (h.2.2.2.1 i), h.2.2.2.2.trans (hb.mono h.2.2.2.2.size)⟩
theorem FstI.start (w : World) (x : HD) (e1 e2 : TypeId) : FstI w ((w.alloc (.cells #[.int .i64 0, .int .i64 0, .string ⟨#[]⟩] e1)).alloc (.cells #[.int .i64 (x.1 : Int), .int .i64 x.2.1, .string x.2.2] e2)) w.heap.size x := by
  refine ⟨heIn_new _ x _ e2 (0, 0) (by simp), (heIn_new w hd0 w.heap.size e1 (0, 0) rfl).below (below_one _ _), fun i => frozen_alloc (by simp), fun i => ((below_one _ _).frozen (p := ⟨w.heap.size, i, none⟩) (by simp)).trans (frozen_alloc rfl), ((Below.refl _ _).alloc (Nat.le_refl _) _).alloc (by simp) _⟩
theorem FstI.store {w0 w : World} {p : Nat} {x y : HD} (h : FstI w0 w p x) (hp : p = w0.heap.size) : FstI w0 (((w.setCell ⟨p + 1, 0, none⟩ (.int .i64 (y.1 : Int))).setCell ⟨p + 1, 1, none⟩ (.int .i64 y.2.1)).setCell ⟨p + 1, 2, none⟩ (.string y.2.2)) p y := by
  obtain ⟨⟨a0, a1, a2⟩, b, c, d, e⟩ := h
  have hge : w0.heap.size ≤ p + 1 := by omega
  refine ⟨⟨?_, ?_, ?_⟩, b.of fun i => ?_, fun i => ?_, fun i => ?_, ((e.setCell (p := ⟨p + 1, 0, none⟩) hge _).setCell (p := ⟨p + 1, 1, none⟩) hge _).setCell (p := ⟨p + 1, 2, none⟩) hge _⟩
  · rw [cset_ne (by omega), cset_ne (by omega)]; exact cset_at a0
  · rw [cset_ne (by omega)]; exact cset_at ((cset_ne (by omega)).trans a1)
  · exact cset_at ((cset_ne (by omega)).trans ((cset_ne (by omega)).trans a2))
  · rw [cset_far (by omega), cset_far (by omega), cset_far (by omega)]
  · rw [fset_any, fset_any, fset_any]; exact c i
  · rw [fset_any, fset_any, fset_any]; exact d i
theorem HoldsH.far {w w' : World} {g n : Nat} {hs : List HD} (h : HoldsH w (some ⟨g, 0, none⟩) n hs) (e : ∀ i, w'.cell? ⟨g, i, none⟩ = w.cell? ⟨g, i, none⟩) : HoldsH w' (some ⟨g, 0, none⟩) n hs := by
  refine ⟨h.1, fun h0 => ?_⟩
  obtain ⟨g', hg, hc⟩ := h.2 h0
  injection hg with hg; injection hg with hg; subst hg
  refine ⟨g, rfl, fun i hi => ?_⟩
  rw [e, e, e]
  exact hc i hi
theorem first_take {hs : List HD} {j : Nat} (h : j < hs.length) (b : HD) : (hs.take (j + 1)).foldl bestF b = bestF ((hs.take j).foldl bestF b) (hs.getD j hd0) := by
  rw [List.take_add_one, List.getElem?_eq_getElem h, List.foldl_append, List.getD_eq_getElem?_getD, List.getElem?_eq_getElem h]; rfl
set_option maxHeartbeats 3200000 in
set_option maxRecDepth 100000 in
theorem mfirst_any (a : Option Addr) (n c : Nat) (hs : List HD) (w : World) (h : HoldsH w a n hs) (h0 : 0 < n) (hn : n ≤ 1000) :
    Calls Try.prog 45 #[.slice a n c] w fun e w' => e = .returned (.tuple #[.agg #[.int .i64 ((firstL hs).1 : Int), .int .i64 (firstL hs).2.1, .string (firstL hs).2.2], .bool true]) ∧ Below w.heap.size w w' := by
  obtain ⟨R, hR⟩ : ∃ R, firstL hs = R := ⟨_, rfl⟩
  rw [hR]
  obtain ⟨b0, hb0⟩ : ∃ b0, hs.getD 0 hd0 = b0 := ⟨_, rfl⟩
  have RR := Lib.hid (show hs.foldl bestF b0 = R from by rw [← hR, ← hb0]; rfl)
  have hl := h.1
  have HS := Lib.hid (h.below (below_one w (.cells #[.int .i64 0, .int .i64 0, .string ⟨#[]⟩] 84)))
  obtain ⟨g, ha, hc⟩ := HS.out.2 h0
  have LG0 : g < w.heap.size := by
    obtain ⟨g', ha', hc'⟩ := h.2 h0
    rw [ha] at ha'
    injection ha' with e; injection e with e; subst e
    exact lt_of_cell (hc' 0 h0).1
  obtain ⟨x0, x1, x2⟩ := hc 0 h0
  rw [hb0] at x0 x1 x2
  simp only [Nat.zero_mul, Nat.zero_add] at x0 x1 x2
  have FS := Lib.hid (FstI.start w b0 84 84)
  have HS2 := Lib.hid (HS.out.below (below_one _ (.cells #[.int .i64 (b0.1 : Int), .int .i64 b0.2.1, .string b0.2.2] 84)))
  have z1 : ((n : Int) == 0) = false := by simp; omega
  have z2 : (0 : Int) < (n : Int) := by omega
  subst ha
  clear hR hb0 h hc
  go_enter Try.func45, Try.ntmps45
  go_upto_region 4 with fail
  clear x0 x1 x2
  generalize (w.alloc (.cells #[.int .i64 0, .int .i64 0, .string ⟨#[]⟩] 84)).alloc (.cells #[.int .i64 (b0.1 : Int), .int .i64 b0.2.1, .string b0.2.2] 84) = w2 at *
  obtain ⟨p, hp⟩ : ∃ p, w.heap.size = p := ⟨_, rfl⟩
  have HP := Lib.hid hp
  rw [hp] at FS LG0
  rw [hp]
  have LG := Lib.hid LG0
  clear hp LG0
  go_wp2_with fail
  go_loopw [16] (fun iv wr => ∃ j : Nat, j ≤ n ∧ iv = .int .i64 j ∧ Hid (FstI w wr p ((hs.take j).foldl bestF b0)) ∧ Hid (HoldsH wr (some ⟨g, 0, none⟩) n hs)) (fun iv _ => n - (intOf iv).toNat)
  case atStart => exact ⟨0, by omega, rfl, FS, HS2⟩
  case round =>
    obtain ⟨j, hj, rfl, hF, hH⟩ := hrel
    by_cases hlt : j < n
    · obtain ⟨g', hg', hc⟩ := hH.out.2 (by omega)
      injection hg' with hg'; injection hg' with hg'; subst hg'
      obtain ⟨x0, x1, x2⟩ := hc j hlt
      have hft := first_take (hs := hs) (show j < hs.length by omega) b0
      obtain ⟨x, hx⟩ : ∃ x, hs.getD j hd0 = x := ⟨_, rfl⟩
      obtain ⟨y, hy⟩ : ∃ y, (hs.take j).foldl bestF b0 = y := ⟨_, rfl⟩
      rw [hx] at x0 x1 x2 hft
      rw [hy] at hft
      have hF2 := hF.out
      rw [hy] at hF2
      have FT := Lib.hid hft
      have i1 : (0 : Int) ≤ (j : Int) := by omega
      have i2 : (j : Int) < (n : Int) := by omega
      have BX := Lib.hid (below_one wr (.cells #[.int .i64 (x.1 : Int), .int .i64 x.2.1, .string x.2.2] 84))
      have X3 := Lib.hid (heIn_new wr x wr.heap.size 84 (0, 0) rfl)
      have F3 := Lib.hid (hF2.below BX.out)
      have H3 := Lib.hid (hH.out.below BX.out)
      have PQ := Lib.hid (show p + 1 < wr.heap.size from lt_of_cell hF2.1.1)
      clear hc hx hy hft hF hF2 hH
      go_upto_region 7 with fail
      clear x0 x1 x2
      generalize wr.alloc (.cells #[.int .i64 (x.1 : Int), .int .i64 x.2.1, .string x.2.2] 84) = w3 at *
      generalize wr.heap.size = q at *
      obtain ⟨y0, y1, y2⟩ := X3.out
      obtain ⟨u0, u1, u2⟩ := F3.out.1
      obtain ⟨z, hz⟩ : ∃ z, lessK x.2 y.2 = z := ⟨_, rfl⟩
      have CL := Lib.hid (mless_lit x.2 y.2 z w3 hz)
      have HZ := Lib.hid hz
      clear hz
      go_wp2_with fail
      refine CL.out.mono ?_
      rintro e w4 ⟨rfl, hb4⟩
      have X4 := Lib.hid (X3.out.below hb4)
      have F4 := Lib.hid (F3.out.below hb4)
      have H4 := Lib.hid (H3.out.below hb4)
      clear hb4 CL y0 y1 y2 u0 u1 u2
      cases z
      · have F5 := Lib.hid (show FstI w w4 p ((hs.take (j + 1)).foldl bestF b0) from by rw [FT.out]; unfold bestF; rw [HZ.out, if_neg (by decide)]; exact F4.out)
        go_wp2_with fail
        go_roundw
        case rel => exact ⟨j + 1, by omega, by go_num, F5, H4⟩
        case measure => simp [intOf] <;> omega
      · have F5 := Lib.hid (show FstI w (((w4.setCell ⟨p + 1, 0, none⟩ (.int .i64 (x.1 : Int))).setCell ⟨p + 1, 1, none⟩ (.int .i64 x.2.1)).setCell ⟨p + 1, 2, none⟩ (.string x.2.2)) p ((hs.take (j + 1)).foldl bestF b0) from by rw [FT.out]; unfold bestF; rw [HZ.out, if_pos rfl]; exact F4.out.store HP.out.symm)
        have H5 := Lib.hid (show HoldsH (((w4.setCell ⟨p + 1, 0, none⟩ (.int .i64 (x.1 : Int))).setCell ⟨p + 1, 1, none⟩ (.int .i64 x.2.1)).setCell ⟨p + 1, 2, none⟩ (.string x.2.2)) (some ⟨g, 0, none⟩) n hs from H4.out.far fun i => by
          have := LG.out
          rw [cset_far (by omega), cset_far (by omega), cset_far (by omega)])
        obtain ⟨y0, y1, y2⟩ := X4.out
        obtain ⟨u0, u1, u2⟩ := F4.out.1
        have f0 := F4.out.2.2.1
        go_wp2_with fail
        go_roundw
        case rel => exact ⟨j + 1, by omega, by go_num, F5, H5⟩
        case measure => simp [intOf] <;> omega
    · obtain rfl : j = n := by omega
      have hF2 := hF.out
      rw [List.take_of_length_le (by omega), RR.out] at hF2
      have F2 := Lib.hid hF2
      obtain ⟨u0, u1, u2⟩ := hF2.1
      obtain ⟨v0, v1, v2⟩ := hF2.2.1
      have f0 := hF2.2.2.2.1
      clear hF hF2
      go_wp2_with fail
      have hge : w.heap.size ≤ p := by have := HP.out; omega
      have BE := (((F2.out.2.2.2.2.setCell (p := ⟨p, 0, none⟩) hge (.int .i64 (R.1 : Int))).setCell (p := ⟨p, 1, none⟩) hge (.int .i64 R.2.1)).setCell (p := ⟨p, 2, none⟩) hge (.string R.2.2))
      exact bodyPost_ret (v := .tuple #[.agg #[.int .i64 (R.1 : Int), .int .i64 R.2.1, .string R.2.2], .bool true]) (by simp [results, go_sem, v0, v1, v2]) rfl ⟨rfl, BE⟩
end Go.Proofs.Ytgghbgmeebihbaa
/- merge: what is told (plain); the row of what was told -/
namespace Go.Proofs.Ytgghbgmeebihbaa
open Go.RowKit
set_option linter.unusedVariables false
set_option maxRecDepth 20000
/-- a shard without where its items lie -/
def spl (x : SM) : SM := ⟨x.least, x.ended, x.seq, x.rcv, x.last, none, x.wn, 0, x.wait⟩
def popS (x : SM) : SM := ⟨x.least, x.ended, x.seq, x.rcv, x.last, none, x.wn - 1, 0, x.wait.tail⟩
theorem getD_spl (L : List SM) (i : Nat) : (L.map spl).getD i sm0 = spl (L.getD i sm0) := by
  by_cases h : i < L.length
  · rw [List.getD_eq_getElem?_getD, List.getD_eq_getElem?_getD, List.getElem?_map, List.getElem?_eq_getElem h]; rfl
  · rw [List.getD_eq_getElem?_getD, List.getD_eq_getElem?_getD, List.getElem?_map, List.getElem?_eq_none (by omega)]; rfl
theorem done_spl (most : Int) (T : List KV) (L : List SM) : doneB most T (L.map spl) = doneB most T L := by
  unfold doneB
  rw [List.any_map]
  rfl
theorem heads_spl (L : List SM) : ∀ n, headsN (L.map spl) n = headsN L n
  | 0 => rfl
  | n + 1 => by
    unfold headsN
    rw [heads_spl L n]
    unfold headOf
    rw [getD_spl]
    rfl
theorem may_spl (k : KV) (L : List SM) : (L.map spl).any (prM k) = L.any (prM k) := by
  rw [List.any_map]
  rfl
/-- so many tellings at most -/
def tellF (most : Int) : Nat → List KV → List SM → List KV → List KV × List SM × List KV
  | 0, T, P, out => (T, P, out)
  | f + 1, T, P, out => if doneB most T P then (T, P, out) else
      if headsN P P.length = [] then (T, P, out) else
      if P.any (prM (firstL (headsN P P.length)).2) then (T, P, out) else
      tellF most f (T ++ [(firstL (headsN P P.length)).2]) (P.set (firstL (headsN P P.length)).1 (popS (P.getD (firstL (headsN P P.length)).1 sm0))) (out ++ [(firstL (headsN P P.length)).2])
theorem heads_mem {L : List SM} {h : HD} : ∀ {n : Nat}, h ∈ headsN L n → h.1 < n ∧ 0 < (L.getD h.1 sm0).wn ∧ h.2 = (L.getD h.1 sm0).wait.getD 0 k0
  | 0, hm => by simp [headsN] at hm
  | n + 1, hm => by
    unfold headsN at hm
    rcases List.mem_append.1 hm with hm | hm
    · have := heads_mem hm
      exact ⟨by omega, this.2⟩
    · unfold headOf at hm
      split at hm
      · rename_i h0
        simp only [List.mem_singleton] at hm
        subst hm
        exact ⟨by simp, h0, rfl⟩
      · simp at hm
theorem fold_mem (hs : List HD) : ∀ (b : HD), hs.foldl bestF b = b ∨ hs.foldl bestF b ∈ hs := by
  induction hs with
  | nil => intro b; exact Or.inl rfl
  | cons x l ih =>
    intro b
    rw [List.foldl_cons]
    rcases ih (bestF b x) with h | h
    · rw [h]
      unfold bestF
      split
      · exact Or.inr (List.mem_cons_self ..)
      · exact Or.inl rfl
    · exact Or.inr (List.mem_cons_of_mem _ h)
theorem first_mem {hs : List HD} (h : hs ≠ []) : firstL hs ∈ hs := by
  unfold firstL
  cases hs with
  | nil => exact absurd rfl h
  | cons x l =>
    rcases fold_mem (x :: l) ((x :: l).getD 0 hd0) with h1 | h1
    · rw [h1]; simp
    · exact h1
/-- what waits, but the first -/
theorem holdsK_tail {w : World} {fb fo wn : Nat} {ks : List KV} {a : Option Addr} (h : HoldsK w (some ⟨fb, fo, none⟩) wn ks) (h0 : 0 < wn) (ha : 1 < wn → a = some ⟨fb, fo + 2, none⟩) : HoldsK w a (wn - 1) ks.tail := by
  have hl := h.1
  refine ⟨by rw [List.length_tail, hl], fun hp => ?_⟩
  obtain ⟨b, o, he, hc⟩ := h.2 h0
  injection he with he; injection he with e1 e2; subst e1 e2
  refine ⟨fb, fo + 2, ha (by omega), fun i hi => ?_⟩
  obtain ⟨c0, c1⟩ := hc (i + 1) (by omega)
  have e : ks.tail.getD i k0 = ks.getD (i + 1) k0 := by
    rw [List.getD_eq_getElem?_getD, List.getElem?_tail, ← List.getD_eq_getElem?_getD]
  rw [e, show fo + 2 + i * 2 = fo + (i + 1) * 2 by omega]
  exact ⟨c0, c1⟩
theorem smV_wait : ∀ (L : List SM) (i : Nat) (wa : Option Addr) (wn wc : Nat) (ks : List KV), i < L.length → (smV L).set (i * 7 + 6) (.slice wa wn wc) = smV (L.set i ⟨(L.getD i sm0).least, (L.getD i sm0).ended, (L.getD i sm0).seq, (L.getD i sm0).rcv, (L.getD i sm0).last, wa, wn, wc, ks⟩)
  | [], i, _, _, _, _, h => by simp at h
  | x :: l, 0, wa, wn, wc, ks, _ => by simp [smV]
  | x :: l, i + 1, wa, wn, wc, ks, h => by
    have ih := smV_wait l i wa wn wc ks (by simpa using h)
    have e1 : (i + 1) * 7 + 6 = i * 7 + 6 + 1 + 1 + 1 + 1 + 1 + 1 + 1 := by omega
    rw [e1]
    simp only [smV, List.set_cons_succ, List.getD_cons_succ]
    rw [ih]
/-- one more is told -/
theorem MMid.told {w w6 : World} {b : Nat} {most : Int} {ta : Option Addr} {tc g cap : Nat} {ra : Option Addr} {rc : Nat} {T : List KV} {L : List SM} {S : Nat → Prop} {o : Obj} {k : KV} (h : MMid w b most ta tc ra rc T L S)
    (own : w6.ownsRow 0 61 2 (.slice (some ⟨g, 0, none⟩) (T.length + 1) cap) (T.length + 1) (keysV T ++ [.int .i64 k.1, .string k.2]))
    (hg : (w.alloc o).grownBy w6 (Value.slice ta T.length tc).ownBlock) (hat : (Value.slice ta T.length tc).ownBlock = some g ∨ g = (w.alloc o).heap.size) (hlt : g < w6.heap.size) :
    MAt (w6.setCell ⟨b, 1, none⟩ (.slice (some ⟨g, 0, none⟩) (T.length + 1) cap)) b most (T ++ [k]) L (fun q => S q ∨ q = g) ∧ Turn S w (w6.setCell ⟨b, 1, none⟩ (.slice (some ⟨g, 0, none⟩) (T.length + 1) cap)) := by
  obtain ⟨h1, h2, h3, h4, h5, h6, h7, h8, h9, h10, h11⟩ := h
  have hza : (w.alloc o).heap.size = w.heap.size + 1 := by simp
  have hz6 := hg.size
  have hlb := h11 b h8
  have old : ∀ q, q < w.heap.size → (∀ r, ta = some ⟨r, 0, none⟩ → q ≠ r) → w6.heap[q]? = w.heap[q]? := fun q hq hn =>
    (hg.block q (by omega) (fun e => hn q (mownb h5 e) rfl)).trans (Below.heap_alloc _ _ _ (by omega))
  have ob := old b hlb (fun r e hq => (h9 r e).2.1 hq.symm)
  have cb : ∀ i, w6.cell? ⟨b, i, none⟩ = w.cell? ⟨b, i, none⟩ := fun i => World.cell?_of_block (w := w) ob
  have gb : g ≠ b := by
    rcases hat with e | e
    · exact (h9 g (mownb h5 e.symm)).2.1
    · omega
  have gS : ∀ q, S q → (∀ r, ta = some ⟨r, 0, none⟩ → q ≠ r) → q ≠ g := fun q hq hn e => by
    subst e
    rcases hat with e | e
    · exact hn q (mownb h5 e.symm) rfl
    · have := h11 q hq; omega
  have sz : (w6.setCell ⟨b, 1, none⟩ (.slice (some ⟨g, 0, none⟩) (T.length + 1) cap)).heap.size = w6.heap.size := by simp [World.setCell]
  have hlen : (T ++ [k]).length = T.length + 1 := by simp
  have hkv : keysV (T ++ [k]) = keysV T ++ [.int .i64 k.1, .string k.2] := keysV_snoc T k
  have raS : ∀ r, ra = some ⟨r, 0, none⟩ → ∀ q, ta = some ⟨q, 0, none⟩ → r ≠ q := fun r e q e2 e3 => (h9 q e2).2.2 (by rw [e, e3])
  refine ⟨⟨some ⟨g, 0, none⟩, cap, ra, rc, ?_, ?_, ?_, fun i => ?_, ?_, ?_, fun x hx => ?_, Or.inl h8, fun q hq => ?_, fun q hq => ⟨Or.inl (h10 q hq).1, (h10 q hq).2⟩, fun q hq => ?_⟩, ?_⟩
  · rw [cset_ne (by omega), cb]; exact h1
  · rw [hlen]; exact cset_at ((cb 1).trans h2)
  · rw [cset_ne (by omega), cb]; exact h3
  · rw [fset_any, World.frozen?_of_block (w := w) ob]; exact h4 i
  · rw [hlen, hkv]
    exact mowns_block0 own (fun q hq => by injection hq with hq; injection hq with hq; subst hq; exact mheap_far gb)
  · refine mowns_block0 h6 (fun r hr => ?_)
    rw [mheap_far (h10 r hr).2]
    exact old r (h11 r (h10 r hr).1) (raS r hr)
  · obtain ⟨y1, y2, y3, y4⟩ := h7 x hx
    refine ⟨holdsK_blocks y1 (fun fb fo e => ?_), y2, y3, fun fb fo e => ⟨Or.inl (y4 fb fo e).1, (y4 fb fo e).2.1, fun e2 => ?_, (y4 fb fo e).2.2.2⟩⟩
    · rw [mheap_far (y4 fb fo e).2.1]
      exact old fb (h11 fb (y4 fb fo e).1) (fun r hr e2 => (y4 fb fo e).2.2.1 (by rw [hr, e2]))
    · injection e2 with e2; injection e2 with e2
      exact gS fb (y4 fb fo e).1 (fun r hr e3 => (y4 fb fo e).2.2.1 (by rw [hr, e3])) e2.symm
  · injection hq with hq; injection hq with hq; subst hq
    refine ⟨Or.inr rfl, gb, fun e => ?_⟩
    exact gS g (h10 g e).1 (raS g e) rfl
  · rw [sz]
    rcases hq with hq | hq
    · have := h11 q hq; omega
    · rw [hq]; exact hlt
  · refine Turn.trans ?_ (Turn.setCell h8)
    exact ⟨hg.os, hg.tape, hg.output, by omega, fun q hq hn => old q hq (fun r e h2 => hn (by rw [h2]; exact (h9 r e).1))⟩
end Go.Proofs.Ytgghbgmeebihbaa
/- merge: Tell -/
namespace Go.Proofs.Ytgghbgmeebihbaa
open Go.RowKit
set_option linter.unusedVariables false
set_option maxRecDepth 20000
def sliceLen : Value → Nat
  | .slice _ n _ => n
  | _ => 0
/-- told in this call -/
structure TIn (w0 w : World) (b : Nat) (most : Int) (S0 : Nat → Prop) (T : List KV) (L : List SM) (S : Nat → Prop) (oa : Option Addr) (oc : Nat) (out : List KV) : Prop where
  m : MAt w b most T L S
  o : w.ownsRow w0.heap.size 61 2 (.slice oa out.length oc) out.length (keysV out)
  a : ∀ g, oa = some ⟨g, 0, none⟩ → ¬ S g
  s : ∀ k, S k → S0 k ∨ w0.heap.size ≤ k
  t : Turn S0 w0 w
theorem TIn.more {w0 w w' : World} {b : Nat} {most : Int} {S0 : Nat → Prop} {T : List KV} {L : List SM} {S : Nat → Prop} {oa : Option Addr} {oc : Nat} {out : List KV} (h : TIn w0 w b most S0 T L S oa oc out) (hb : Below w.heap.size w w') : TIn w0 w' b most S0 T L S oa oc out :=
  ⟨h.m.below hb, owns_below h.o hb, h.a, h.s, h.t.trans (Turn.of_below hb)⟩
theorem TIn.step {w0 w w' : World} {b : Nat} {most : Int} {S0 : Nat → Prop} {T T' : List KV} {L L' : List SM} {S S' : Nat → Prop} {oa : Option Addr} {oc : Nat} {out : List KV} (h : TIn w0 w b most S0 T L S oa oc out) (m : MAt w' b most T' L' S') (t : Turn S w w') (hs : ∀ k, S' k → S k ∨ w.heap.size ≤ k) : TIn w0 w' b most S0 T' L' S' oa oc out := by
  have hz := h.t.size
  refine ⟨m, mowns_block0 h.o (fun g hg => t.block g ?_ (h.a g hg)), fun g hg hS => ?_, fun k hk => ?_, ?_⟩
  · have := h.o.lt g (by rw [hg]; rfl); exact this.2
  · rcases hs g hS with x | x
    · exact h.a g hg x
    · have := h.o.lt g (by rw [hg]; rfl); omega
  · rcases hs k hk with x | x
    · exact h.s k x
    · exact Or.inr (by omega)
  · exact h.t.trans' t (fun k hk => h.s k hk)
theorem TIn.out {w0 w w6 : World} {b : Nat} {most : Int} {S0 : Nat → Prop} {T : List KV} {L : List SM} {S : Nat → Prop} {oa : Option Addr} {oc g cap : Nat} {out : List KV} {k : KV} {o : Obj} (h : TIn w0 w b most S0 T L S oa oc out)
    (own : w6.ownsRow w0.heap.size 61 2 (.slice (some ⟨g, 0, none⟩) (out.length + 1) cap) (out.length + 1) (keysV out ++ [.int .i64 k.1, .string k.2]))
    (hg : (w.alloc o).grownBy w6 (Value.slice oa out.length oc).ownBlock) (hat : (Value.slice oa out.length oc).ownBlock = some g ∨ g = (w.alloc o).heap.size) : TIn w0 w6 b most S0 T L S (some ⟨g, 0, none⟩) cap (out ++ [k]) := by
  have hza : (w.alloc o).heap.size = w.heap.size + 1 := by simp
  have hz6 := hg.size
  have hz := h.t.size
  have hm := h.m.lt
  have old : ∀ q, q < w.heap.size → (∀ r, oa = some ⟨r, 0, none⟩ → q ≠ r) → w6.heap[q]? = w.heap[q]? := fun q hq hn =>
    (hg.block q (by omega) (fun e => hn q (mownb h.o e) rfl)).trans (Below.heap_alloc _ _ _ (by omega))
  have hS : ∀ q, S q → ∀ r, oa = some ⟨r, 0, none⟩ → q ≠ r := fun q hq r e e2 => h.a r e (by rw [← e2]; exact hq)
  refine ⟨h.m.blocks (by omega) (fun q hq => old q (hm q hq) (hS q hq)), ?_, fun q hq => ?_, h.s, ?_⟩
  · rw [List.length_append, keysV_snoc]; exact own
  · injection hq with hq; injection hq with hq; subst hq
    rcases hat with e | e
    · exact h.a g (mownb h.o e.symm)
    · intro x; have := hm g x; omega
  · refine h.t.trans' (G := fun q => ∃ r, oa = some ⟨r, 0, none⟩ ∧ q = r) ?_ (fun q hq => ?_)
    · exact ⟨hg.os, hg.tape, hg.output, by omega, fun q hq hn => old q hq (fun r e e2 => hn ⟨r, e, e2⟩)⟩
    · obtain ⟨r, e, rfl⟩ := hq
      have := h.o.lt q (by rw [e]; rfl); exact Or.inr this.1
def TellP (w : World) (b : Nat) (most : Int) (S : Nat → Prop) (R : List KV × List SM × List KV) (e : Ending) (w' : World) : Prop :=
  ∃ oa oc L S', e = .returned (.slice oa R.2.2.length oc) ∧ TIn w w' b most S R.1 L S' oa oc R.2.2 ∧ L.map spl = R.2.1
set_option maxHeartbeats 12800000 in
set_option maxRecDepth 100000 in
theorem mtell_any (N : Nat) (b : Nat) {most : Int} {T0 : List KV} {L0 : List SM} {S0 : Nat → Prop} (w : World) (h : MAt w b most T0 L0 S0) (hl : L0.length ≤ 1000) (hN : most ≤ (T0.length : Int) + N) (hN2 : N ≤ 1000) (hT : T0.length ≤ 1000) :
    Calls Try.prog 19 #[.pointer (some ⟨b, 0, none⟩)] w (TellP w b most S0 (tellF most N T0 (L0.map spl) [])) := by
  obtain ⟨i0, hi0, hz0, hz1, hz2⟩ := info_parts item_info
  obtain ⟨R, hR⟩ : ∃ R, tellF most N T0 (L0.map spl) [] = R := ⟨_, rfl⟩
  rw [hR]
  have HR := Lib.hid hR
  have I0 := Lib.hid (show TIn w w b most S0 T0 L0 S0 none 0 [] from ⟨h, World.ownsRow_nil _ _ _ _, fun g hg => (by cases hg), fun k hk => Or.inl hk, Turn.refl _ _⟩)
  have HL := Lib.hid hl
  clear h hR hl
  go_enter Try.func19, Try.ntmps19
  go_wp2_with fail
  go_loopw [3] (fun ov wr => ∃ (k n : Nat) (T : List KV) (L : List SM) (S : Nat → Prop) (oa : Option Addr) (oc : Nat) (out : List KV), ov = .slice oa n oc ∧ n + k = N ∧ out.length = n ∧ Hid (tellF most k T (L.map spl) out = R) ∧ Hid (most ≤ (T.length : Int) + k) ∧ Hid (L.length ≤ 1000) ∧ Hid (T.length ≤ 1000 + n) ∧ Hid (TIn w wr b most S0 T L S oa oc out)) (fun ov _ => N - sliceLen ov)
  case atStart => exact ⟨N, 0, T0, L0, S0, none, 0, [], rfl, by omega, rfl, HR, Lib.hid hN, HL, Lib.hid (by omega), I0⟩
  case round =>
    obtain ⟨k, n, T, L, S, oa, oc, out, rfl, hnk, hol, hF, hM, hLl, hTl, hI⟩ := hrel
    obtain ⟨zd, hzd⟩ : ∃ zd, doneB most T L = zd := ⟨_, rfl⟩
    have CD := Lib.hid (mdone_any zd b wr hI.out.m hLl.out hzd)
    have HZD := Lib.hid hzd
    clear hzd
    go_wp2_with fail
    refine CD.out.mono ?_
    rintro e w2 ⟨rfl, hb2⟩
    have I2 := Lib.hid (hI.out.more hb2)
    clear hb2 CD hI
    have FIN := Lib.hid (fun (hr : R = (T, L.map spl, out)) w' (hi : TIn w w' b most S0 T L S oa oc out) => (show TellP w b most S0 R (.returned (.slice oa n oc)) w' from by
      rw [hr]
      exact ⟨oa, oc, L, S, by rw [hol], hi, rfl⟩))
    cases zd
    case true =>
      have HE := Lib.hid (show R = (T, L.map spl, out) from by
        rw [← hF.out]
        cases k with
        | zero => rfl
        | succ k => unfold tellF; rw [done_spl, HZD.out, if_pos rfl])
      go_wp2_with fail
      go_ret
      exact FIN.out HE.out _ I2.out
    obtain ⟨k, rfl⟩ : ∃ k', k = k' + 1 := by
      refine ⟨k - 1, ?_⟩
      have h1 := HZD.out
      unfold doneB at h1
      have h2 := hM.out
      by_cases hk0 : k = 0
      · subst hk0
        rw [decide_eq_true (by omega)] at h1
        simp at h1
      · omega
    have CH := Lib.hid (mheads_any b w2 I2.out.m hLl.out)
    obtain ⟨hs, hhs⟩ : ∃ hs, headsN L L.length = hs := ⟨_, rfl⟩
    have STEP := Lib.hid (show (if hs = [] then (T, L.map spl, out) else if L.any (prM (firstL hs).2) then (T, L.map spl, out) else tellF most k (T ++ [(firstL hs).2]) ((L.map spl).set (firstL hs).1 (popS ((L.map spl).getD (firstL hs).1 sm0))) (out ++ [(firstL hs).2])) = R from by
      rw [← hF.out]
      conv => rhs; unfold tellF
      rw [done_spl, HZD.out, List.length_map, heads_spl, hhs, may_spl]
      rfl)
    have HM := Lib.hid (fun (x : HD) (hx : x ∈ hs) => heads_mem (L := L) (n := L.length) (by rw [hhs]; exact hx))
    have HLN := Lib.hid (show hs.length ≤ L.length from hhs ▸ headsN_len L _)
    rw [hhs] at CH
    clear hhs
    go_wp2_with fail
    refine CH.out.mono ?_
    rintro e w3 ⟨ha, hc, rfl, hho, hb3⟩
    have I3 := Lib.hid (I2.out.more hb3)
    have HH := Lib.hid (holdsH_own hho)
    clear hb3 CH hho I2
    rcases Nat.eq_zero_or_pos hs.length with hlen0 | hlenp
    · have hs0 : hs = [] := List.eq_nil_of_length_eq_zero hlen0
      have HE := Lib.hid (show R = (T, L.map spl, out) from by rw [← STEP.out, if_pos hs0])
      rw [hlen0]
      clear hs0
      go_wp2_with fail
      refine (mfirst_nil ha hc _).mono ?_
      rintro e w4 ⟨rfl, hb4⟩
      have I4 := Lib.hid ((I3.out.more hb4).more (below_one w4 (.cells #[.int .i64 0, .int .i64 0, .string ⟨#[]⟩] 84)))
      clear hb4
      go_wp2_with fail
      go_ret
      exact FIN.out HE.out _ I4.out
    · have CF := Lib.hid (mfirst_any ha hs.length hc hs w3 HH.out hlenp (by have := HLN.out; have := hLl.out; omega))
      have hsn : hs ≠ [] := fun e => by rw [e] at hlenp; simp at hlenp
      have HHD := Lib.hid (HM.out _ (first_mem hsn))
      have STEP2 := STEP.out
      rw [if_neg hsn] at STEP2
      obtain ⟨⟨fi, fk⟩, hfst⟩ : ∃ f, firstL hs = f := ⟨_, rfl⟩
      rw [hfst] at CF HHD STEP2
      have ST := Lib.hid STEP2
      clear STEP2 hfst hsn STEP
      go_wp2_with fail
      refine CF.out.mono ?_
      rintro e w4 ⟨rfl, hb4⟩
      have I4 := Lib.hid ((I3.out.more hb4).more (below_one w4 (.cells #[.int .i64 (fi : Int), .int .i64 fk.1, .string fk.2] 84)))
      have E4 := Lib.hid (heIn_new w4 (fi, fk) w4.heap.size 84 (0, 0) rfl)
      have QN := Lib.hid (show ¬ S w4.heap.size from fun hs => by have := (I3.out.more hb4).m.lt _ hs; omega)
      clear hb4 CF I3
      go_upto_region 6 with fail
      generalize w4.alloc (.cells #[.int .i64 (fi : Int), .int .i64 fk.1, .string fk.2] 84) = w5 at *
      generalize w4.heap.size = q at *
      obtain ⟨e0, e1, e2⟩ := E4.out
      simp only at e0 e1 e2
      obtain ⟨zm, hzm⟩ : ∃ zm, L.any (prM fk) = zm := ⟨_, rfl⟩
      have CM := Lib.hid (mmay_any fk zm b w5 I4.out.m hLl.out hzm)
      have HZM := Lib.hid hzm
      clear hzm
      go_wp2_with fail
      refine CM.out.mono ?_
      rintro e w6 ⟨rfl, hb6⟩
      have I6 := Lib.hid (I4.out.more hb6)
      have E6 := Lib.hid (E4.out.below hb6)
      clear hb6 CM e0 e1 e2 I4 E4
      cases zm
      case true =>
        have HE := Lib.hid (show R = (T, L.map spl, out) from by rw [← ST.out, HZM.out, if_pos rfl])
        go_wp2_with fail
        go_ret
        exact FIN.out HE.out _ I6.out
      have ST2 := Lib.hid (show tellF most k (T ++ [fk]) ((L.map spl).set fi (popS ((L.map spl).getD fi sm0))) (out ++ [fk]) = R from by rw [← ST.out, HZM.out]; rfl)
      have hxm := mem_sm (L := L) HHD.out.1
      obtain ⟨ta, tc, ra, rc, M⟩ := I6.out.m
      obtain ⟨m1, m2, m3, m4, m5, m6, m7, m8, m9, m10, m11⟩ := M
      obtain ⟨g, rfl⟩ : ∃ g, ra = some ⟨g, 0, none⟩ := by
        obtain ⟨g, cap', hv⟩ := Joins.ownsRow_form m6 (by have := HHD.out.1; omega)
        simp only [Value.slice.injEq] at hv
        exact ⟨g, hv.1⟩
      have MD := Lib.hid (show MMid w6 b most ta tc (some ⟨g, 0, none⟩) rc T L S from ⟨m1, m2, m3, m4, m5, m6, m7, m8, m9, m10, m11⟩)
      have hwt := m7 _ hxm
      obtain ⟨x, hx⟩ : ∃ x, L.getD fi sm0 = x := ⟨_, rfl⟩
      have h0 := HHD.out.2.1
      rw [hx] at h0 hwt
      have hc6 : w6.cell? ⟨g, fi * 7 + 6, none⟩ = some (.slice x.wa x.wn x.wc) := by
        have h := (m6.cellAt (fi * 7 + 6) (by have := HHD.out.1; omega)).trans (smV_at L fi HHD.out.1).2.2.2.2.2.2
        rw [hx] at h; exact h
      have hf6 : w6.frozen? ⟨g, fi * 7 + 6, none⟩ = false := m6.frozenAt _
      obtain ⟨k1, k2, k3, k4⟩ := hwt
      have WT := Lib.hid (show WtIn w6 S b ta (some ⟨g, 0, none⟩) x from ⟨k1, k2, k3, k4⟩)
      obtain ⟨fb, fo, ha, -⟩ := k1.2 h0
      obtain ⟨least, ended, seq, rcv, last, wa, wn, wc, wait⟩ := x
      simp only at ha h0 k3 hc6
      subst ha
      obtain ⟨n0, rfl⟩ : ∃ n0, wn = n0 + 1 := ⟨wn - 1, by omega⟩
      obtain ⟨c0, rfl⟩ : ∃ c0, wc = c0 + 1 := ⟨wc - 1, by omega⟩
      obtain ⟨e0, e1, e2⟩ := E6.out
      simp only at e0 e1 e2
      have i1 : (0 : Int) ≤ (fi : Int) := by omega
      have i2 : (fi : Int) < (L.length : Int) := by have := HHD.out.1; omega
      have M0 := Lib.hid m1
      have M1 := Lib.hid (show w6.cell? ⟨b, 1, none⟩ = some (.slice ta T.length tc) ∧ w6.frozen? ⟨b, 1, none⟩ = false from ⟨m2, m4 1⟩)
      have HX := Lib.hid hx
      clear m1 m2 m4 m5 m6 m7 m8 m9 m10 m11 k1 k2 k4 h0 hx hxm
      go_upto_region 8 with fail
      go_quiet (fail)
      go_upto_region 9 with fail
      have hil : fi < L.length := HHD.out.1
      have hx := HX.out
      have hset := smV_wait L fi (if c0 = 0 then some ⟨fb, fo, none⟩ else some ⟨fb, fo + 2, none⟩) n0 c0 wait.tail hil
      rw [hx] at hset
      have own := ((owns_below MD.out.2.2.2.2.2.1 (below_drewN w6 nq)).stored (fi * 7 + 6) (.slice (if c0 = 0 then some ⟨fb, fo, none⟩ else some ⟨fb, fo + 2, none⟩) n0 c0)).1
      rw [hset] at own
      have PT := Lib.hid (MD.out.put (below_drewN w6 nq) (Turn.setCell rfl) own (by simp) (fun y hy => by
        rcases List.mem_or_eq_of_mem_set hy with hy | rfl
        · obtain ⟨y1, y2, y3, y5⟩ := MD.out.2.2.2.2.2.2.1 y hy
          exact ⟨y1.below (below_drewN w6 nq), y2, y3, fun fb fo e => Or.inl ⟨(y5 fb fo e).1, (y5 fb fo e).2.1, (y5 fb fo e).2.2.1, fun e2 => (y5 fb fo e).2.2.2 (by rw [e2])⟩⟩
        · obtain ⟨y1, y2, y3, y5⟩ := WT.out
          simp only at y1 y5
          refine ⟨holdsK_tail (y1.below (below_drewN w6 nq)) (by omega) (fun h => ?_), fun e => ?_, by simp only; omega, fun fb' fo' e => Or.inl ?_⟩
          · rw [if_neg (by omega)]
          · simp only at e; split at e <;> cases e
          · have e2 : fb' = fb := by simp only at e; split at e <;> (injection e with e; injection e with e; exact e.symm)
            subst e2
            have := y5 fb' fo rfl
            exact ⟨this.1, this.2.1, this.2.2.1, fun e => this.2.2.2 (by rw [e])⟩))
      have QN8 := Lib.hid (show ¬ (fun k => S k ∨ (w6.heap.size ≤ k ∧ k < (w6.drewN nq).heap.size)) q from fun hh => by
        rcases hh with hh | hh
        · exact QN.out hh
        · have h1 : q < w6.heap.size := lt_of_cell e0
          omega)
      have QL := Lib.hid (show q < w6.heap.size from lt_of_cell e0)
      have I8 := Lib.hid (I6.out.step PT.out.1 PT.out.2 (fun k hk => hk.imp id (fun hh => hh.1)))
      have E8 := Lib.hid (show HeIn _ q (fi, fk) from E6.out.of (fun i => PT.out.2.cell (o := i) QL.out QN.out))
      have Z8 := Lib.hid PT.out.2.size
      have SPL := Lib.hid (show (L.set fi ⟨least, ended, seq, rcv, last, if c0 = 0 then some ⟨fb, fo, none⟩ else some ⟨fb, fo + 2, none⟩, n0, c0, wait.tail⟩).map spl = (L.map spl).set fi (popS ((L.map spl).getD fi sm0)) from by
        rw [getD_spl, hx, List.map_set]; rfl)
      have LEN := Lib.hid (show (L.set fi ⟨least, ended, seq, rcv, last, if c0 = 0 then some ⟨fb, fo, none⟩ else some ⟨fb, fo + 2, none⟩, n0, c0, wait.tail⟩).length = L.length from by simp)
      subst hol
      clear hset own hx m3 hc6 hf6 M1 M0 MD WT E6 I6 e0 e1 e2 PT hil HX
      generalize (w6.drewN nq).setCell ⟨g, fi * 7 + 6, none⟩ (.slice (if c0 = 0 then some ⟨fb, fo, none⟩ else some ⟨fb, fo + 2, none⟩) n0 c0) = w8 at *
      generalize (fun k => S k ∨ (w6.heap.size ≤ k ∧ k < (w6.drewN nq).heap.size)) = S8 at *
      generalize L.set fi ⟨least, ended, seq, rcv, last, if c0 = 0 then some ⟨fb, fo, none⟩ else some ⟨fb, fo + 2, none⟩, n0, c0, wait.tail⟩ = L8 at *
      obtain ⟨ta, tc, ra, rc, M⟩ := I8.out.m
      obtain ⟨e0, e1, e2⟩ := E8.out
      simp only at e0 e1 e2
      obtain ⟨m1, m2, m3, m4, m5, m6, m7, m8, m9, m10, m11⟩ := M
      have MD := Lib.hid (show MMid w8.drew b most ta tc ra rc T L8 S8 from ⟨m1, m2, m3, m4, m5, m6, m7, m8, m9, m10, m11⟩)
      have OW := Lib.hid (show w8.drew.ownsRow 0 61 2 (.slice ta T.length tc) T.length (keysV T) from owns_below m5 (Below.refl _ _).drew)
      have AB := Lib.hid (show ∀ o w', (w8.drew.alloc o).grownBy w' (Value.slice ta T.length tc).ownBlock → w'.cell? ⟨b, 1, none⟩ = some (.slice ta T.length tc) ∧ w'.frozen? ⟨b, 1, none⟩ = false from fun o w' hg => by
        have lb := m11 b m8
        have ob := ((hg.block b (by simp; omega) (fun e => (m9 b (mownb m5 e)).2.1 rfl)).trans (Below.heap_alloc _ _ _ lb))
        exact ⟨(World.cell?_of_block (w := w8) ob).trans m2, (World.frozen?_of_block (w := w8) ob).trans (m4 1)⟩)
      have HG := Lib.hid (show ∀ g3, ((Value.slice ta T.length tc).ownBlock = some g3 ∨ g3 = w8.drew.heap.size + 1) → S8 g3 ∨ w8.drew.heap.size ≤ g3 from fun g3 h => by
        rcases h with h | h
        · exact Or.inl (m9 g3 (mownb m5 h.symm)).1
        · exact Or.inr (by omega))
      have HTL := Lib.hid hTl.out
      have htl : T.length ≤ 2000 := by have := hTl.out; omega
      clear m1 m3 m4 m5 m6 m7 m8 m9 m10 m11
      have n1 : w8.drew.cell? ⟨b, 1, none⟩ = some (.slice ta T.length tc) := m2
      have n2 : w8.drew.cell? ⟨q, 1, none⟩ = some (.int .i64 fk.1) := e1
      have n3 : w8.drew.cell? ⟨q, 2, none⟩ = some (.string fk.2) := e2
      have n4 : (w8.alloc (.cells #[.int .i64 fk.1, .string fk.2] 61)).drew.cell? ⟨b, 1, none⟩ = some (.slice ta T.length tc) := (Below.cell (below_one w8 _) (p := ⟨b, 1, none⟩) (lt_of_cell m2)).trans m2
      have n5 : (w8.alloc (.cells #[.int .i64 fk.1, .string fk.2] 61)).cell? ⟨b, 1, none⟩ = some (.slice ta T.length tc) := n4
      go_region_law
        (refine step_append_lies _ (by rfl) _ _ _ (by rfl) 0 61 i0 _ 2 24 Try.underlying34 hi0 hz0 hz1 hz2 rfl (by omega) (.slice ta T.length tc) T.length (keysV T) (by rfl) (OW.out.alloc _) ⟨w8.drew.heap.size, 0, none⟩ 1 1 [.int .i64 fk.1, .string fk.2] (by rfl) (by rfl) (World.news_of_block (cs := #[.int .i64 fk.1, .string fk.2]) (t := 61) (fr := (0, 0)) (heap_alloc_new w8.drew _)) (by simp [Value.oneCell']) (by omega) (by unfold maxLen; omega) (by omega) (by omega) (w8.drew.heap.size + 1) (by simp) ?_; intro g3 c3 w9 hown9 hgrow9 hat9 hlt9; obtain ⟨x0, x1⟩ := AB.out _ _ hgrow9)
      all_goals
        have GT := MMid.told (k := fk) MD.out hown9 hgrow9 (hat9.imp id (fun e => by simp; exact e)) hlt9
        have I9 := Lib.hid ((I8.out.more (Below.refl _ _).drew).step GT.1 GT.2 (fun k hk => hk.elim Or.inl (fun e => by rw [e]; exact HG.out g3 hat9)))
        have E9 := Lib.hid (show HeIn _ q (fi, fk) from E8.out.of (fun i => GT.2.cell (o := i) (show q < w8.drew.heap.size from lt_of_cell n2) QN8.out))
        clear GT hown9 hgrow9 hat9 hlt9 x0 x1 m2 e0 e1 e2 n1 n2 n3 n4 n5 I8 E8 MD OW AB HG QN8
        generalize w9.setCell ⟨b, 1, none⟩ (.slice (some ⟨g3, 0, none⟩) (T.length + 1) c3) = w10 at *
        obtain ⟨e0, e1, e2⟩ := E9.out
        simp only at e0 e1 e2
        have OO := Lib.hid I9.out.o
        have OT := Lib.hid I9.out.t.size
        go_wp2_with (at_builtin; refine wpList_append_lies _ rfl (.tmp 52) (.tmp 55) 34 rfl w.heap.size 61 i0 _ 2 24 Try.underlying34 hi0 hz0 hz1 hz2 rfl (by omega) (.slice oa out.length oc) out.length (keysV out) (by rfl) (OO.out.alloc _) ⟨w10.heap.size, 0, none⟩ 1 1 [.int .i64 fk.1, .string fk.2] (by rfl) (by rfl) (World.news_of_block (cs := #[.int .i64 fk.1, .string fk.2]) (t := 61) (fr := (0, 0)) (heap_alloc_new w10 _)) (by simp [Value.oneCell']) (by omega) (by unfold maxLen; omega) (by omega) (by have := OT.out; simp; omega) (w10.heap.size + 1) (by simp) ?_; intro g4 c4 w11 hown11 hgrow11 hat11 hlt11)
        have I11 := Lib.hid (I9.out.out hown11 hgrow11 (hat11.imp id (fun e => by simp; exact e)))
        go_roundw
        case rel => exact ⟨k, out.length + 1, T ++ [fk], L8, _, some ⟨g4, 0, none⟩, c4, out ++ [fk], rfl, by omega, by simp, Lib.hid (by rw [SPL.out]; exact ST2.out), Lib.hid (by have := hM.out; simp; omega), Lib.hid (by rw [LEN.out]; exact hLl.out), Lib.hid (by have := HTL.out; simp; omega), I11⟩
        case measure => simp only [sliceLen]; omega
end Go.Proofs.Ytgghbgmeebihbaa
/- merge: Put, its contract -/
namespace Go.Proofs.Ytgghbgmeebihbaa
open Go.RowKit
set_option linter.unusedVariables false
set_option maxRecDepth 20000
def putB (most : Int) (T : List KV) (L : List SM) (s q : Int) (ks : List KV) (en : Bool) : Bool :=
  decide (0 ≤ s ∧ s < (L.length : Int)) && (!doneB most T L && (prW (L.getD s.toNat sm0) && (decide (q = (L.getD s.toNat sm0).seq) && (fitsB (L.getD s.toNat sm0) ks && !(decide (ks.length = 0) && !en)))))
def putM (x : SM) (wa : Option Addr) (wn wc : Nat) (ks : List KV) (en : Bool) : SM := ⟨x.least, en, x.seq + 1, x.rcv || decide (0 < ks.length), if 0 < ks.length then ks.getD (ks.length - 1) k0 else x.last, wa, wn, wc, ks⟩
def PutP (w : World) (b : Nat) (most : Int) (T : List KV) (L : List SM) (S : Nat → Prop) (s : Int) (ks : List KV) (en z : Bool) (e : Ending) (w' : World) : Prop :=
  e = .returned (.bool z) ∧ if z then ∃ wa wc S', MAt w' b most T (L.set s.toNat (putM (L.getD s.toNat sm0) wa ks.length wc ks en)) S' ∧ (∀ k, S' k → S k ∨ w.heap.size ≤ k) ∧ Turn S w w' else Below w.heap.size w w'
theorem putP_no {w w' : World} {b : Nat} {most : Int} {T : List KV} {L : List SM} {S : Nat → Prop} {s : Int} {ks : List KV} {en z : Bool} (hz : z = false) (hb : Below w.heap.size w w') : PutP w b most T L S s ks en z (.returned (.bool false)) w' := by
  subst hz
  exact ⟨rfl, hb⟩
set_option maxHeartbeats 12800000 in
set_option maxRecDepth 100000 in
theorem mput_any (s q : Int) (ia : Option Addr) (n ic : Nat) (ks : List KV) (en z : Bool) (b : Nat) {most : Int} {T : List KV} {L : List SM} {S : Nat → Prop} (w : World) (h : MAt w b most T L S) (hl : L.length ≤ 1000)
    (hi : HoldsK w ia n ks) (hin : ia = none → n = 0 ∧ ic = 0) (hn : n ≤ 9223372036854775807) (hiS : 0 < n → ∀ fb fo, ia = some ⟨fb, fo, none⟩ → ¬ S fb) (hsq : ∀ x ∈ L, 0 ≤ x.seq ∧ x.seq ≤ 1000000000) (hz : putB most T L s q ks en = z) :
    Calls Try.prog 15 #[.pointer (some ⟨b, 0, none⟩), .int .i64 s, .int .i64 q, .slice ia n ic, .bool en] w (PutP w b most T L S s ks en z) := by
  obtain ⟨zr, hzr⟩ : ∃ zr, decide (0 ≤ s ∧ s < (L.length : Int)) = zr := ⟨_, rfl⟩
  obtain ⟨zd, hzd⟩ : ∃ zd, doneB most T L = zd := ⟨_, rfl⟩
  unfold putB at hz
  rw [hzr, hzd] at hz
  have HI := Lib.hid hi; have HIN := Lib.hid hin; have HIS := Lib.hid hiS
  have CH := Lib.hid (mhas_any s zr b w h hl hzr)
  have CD := Lib.hid (mdone_any zd b w h hl hzd)
  have H := Lib.hid h
  have HZ := Lib.hid hz; have HZR := Lib.hid hzr
  have HSQ := Lib.hid hsq
  have KL := Lib.hid hi.1
  clear h hi hin hiS hz hzr hzd hsq
  go_enter Try.func15, Try.ntmps15
  go_wp2_with fail
  refine CH.out.mono ?_
  rintro e w' ⟨rfl, rfl⟩
  cases zr
  · go_wp2_with fail
    go_ret
    exact putP_no (by rw [← HZ.out]; rfl) (Below.refl _ _)
  go_wp2_with fail
  refine CD.out.mono ?_
  rintro e w2 ⟨rfl, hb2⟩
  have B2 := Lib.hid hb2
  have M2 := Lib.hid (H.out.below hb2)
  clear hb2 CH CD
  cases zd
  case true =>
    go_wp2_with fail
    go_ret
    exact putP_no (by rw [← HZ.out]; rfl) B2.out
  have hsr := of_decide_eq_true HZR.out
  obtain ⟨i, rfl⟩ : ∃ i : Nat, s = (i : Int) := ⟨s.toNat, by omega⟩
  have hil : i < L.length := by omega
  have hz2 := HZ.out
  rw [Int.toNat_natCast, Bool.true_and, Bool.not_false, Bool.true_and] at hz2
  obtain ⟨x, hx⟩ : ∃ x, L.getD i sm0 = x := ⟨_, rfl⟩
  rw [hx] at hz2
  have HX := Lib.hid hx
  have hxm : x ∈ L := hx ▸ mem_sm hil
  have hsq := HSQ.out x hxm
  have HXM := Lib.hid hxm
  obtain ⟨ta, tc, ra, rc, MM⟩ := M2.out
  obtain ⟨m1, m2, m3, m4, m5, m6, m7, m8, m9, m10, m11⟩ := MM
  obtain ⟨g, rfl⟩ : ∃ g, ra = some ⟨g, 0, none⟩ := by
    obtain ⟨g, cap', hv⟩ := Joins.ownsRow_form m6 (by omega)
    simp only [Value.slice.injEq] at hv
    exact ⟨g, hv.1⟩
  have MD := Lib.hid (show MMid w2 b most ta tc (some ⟨g, 0, none⟩) rc T L S from ⟨m1, m2, m3, m4, m5, m6, m7, m8, m9, m10, m11⟩)
  have SX := Lib.hid (show SmAt w2 g (i * 7) x from by
    obtain ⟨bb, oo, hbe, hc⟩ := (holdsS_own m6).2 (by omega)
    injection hbe with hbe; injection hbe with e1 e2; subst e1 e2
    have := hc i hil
    rw [hx, Nat.zero_add] at this
    exact this)
  obtain ⟨zw, hzw⟩ : ∃ zw, prW x = zw := ⟨_, rfl⟩
  obtain ⟨zf, hzf⟩ : ∃ zf, fitsB x ks = zf := ⟨_, rfl⟩
  rw [hzw, hzf] at hz2
  have CW := Lib.hid (wantsM_any g (i * 7) x zw w2 SX.out hzw)
  have CF := Lib.hid (mfits_any g (i * 7) x ia n ic ks zf w2 SX.out (HI.out.below B2.out) hn hzf)
  have i1 : (0 : Int) ≤ (i : Int) := by omega
  have i2 : (i : Int) < (L.length : Int) := by omega
  have HZ2 := Lib.hid hz2
  have HZF := Lib.hid hzf
  clear hx hxm hz2 hzw hzf m1 m2 m4 m5 m6 m7 m8 m9 m10 m11 hsr HZ
  go_wp2_with fail
  refine CW.out.mono ?_
  rintro e w' ⟨rfl, rfl⟩
  clear CW m3
  obtain ⟨-, -, c2, -⟩ := SX.out
  cases zw
  · go_wp2_with fail
    go_ret
    exact putP_no (by rw [← HZ2.out]; rfl) B2.out
  by_cases hq : q = x.seq
  case neg =>
    have d1 : (q != x.seq) = true := by simpa using hq
    have HF := Lib.hid (show z = false from by rw [← HZ2.out, decide_eq_false hq]; rfl)
    clear hq
    go_wp2_with fail
    go_ret
    exact putP_no HF.out B2.out
  subst hq
  have d1 : (x.seq != x.seq) = false := by simp
  go_wp2_with fail
  refine CF.out.mono ?_
  rintro e w3 ⟨rfl, hb3⟩
  have B3 := Lib.hid (B2.out.trans (hb3.mono B2.out.size))
  have B23 := Lib.hid hb3
  clear hb3 CF c2
  have HZ3 := Lib.hid (show (zf && !(decide (ks.length = 0) && !en)) = z from by have := HZ2.out; simpa using this)
  cases zf
  · go_wp2_with fail
    go_ret
    exact putP_no (by rw [← HZ3.out]; rfl) B3.out
  have hn5 : n ≤ 5 := by
    have := HZF.out
    unfold fitsB at this
    have h2 := (Bool.and_eq_true _ _ ▸ this).1
    have := of_decide_eq_true h2
    have := KL.out; omega
  have O3 := Lib.hid (owns_below MD.out.2.2.2.2.2.1 B23.out)
  obtain ⟨v0, v1, v2, v3, v4, v5, v6⟩ := smV_at L i hil
  rw [HX.out] at v0 v1 v2 v3 v4 v5 v6
  have VV := Lib.hid (show ∀ w', Below w3.heap.size w3 w' → w'.cell? ⟨g, i * 7 + 1, none⟩ = some (.bool x.ended) ∧ w'.cell? ⟨g, i * 7 + 2, none⟩ = some (.int .i64 x.seq) ∧ w'.cell? ⟨g, i * 7 + 3, none⟩ = some (.bool x.rcv) ∧ w'.cell? ⟨g, i * 7 + 4, none⟩ = some (.int .i64 x.last.1) ∧ w'.cell? ⟨g, i * 7 + 5, none⟩ = some (.string x.last.2) ∧ w'.cell? ⟨g, i * 7 + 6, none⟩ = some (.slice x.wa x.wn x.wc) ∧ w'.ownsRow 0 75 7 (.slice (some ⟨g, 0, none⟩) L.length rc) L.length (smV L) ∧ ∀ k, w'.frozen? ⟨g, k, none⟩ = false from fun w' hb => by
    have o := owns_below O3.out hb
    exact ⟨(o.cellAt (i * 7 + 1) (by omega)).trans v1, (o.cellAt (i * 7 + 2) (by omega)).trans v2, (o.cellAt (i * 7 + 3) (by omega)).trans v3, (o.cellAt (i * 7 + 4) (by omega)).trans v4, (o.cellAt (i * 7 + 5) (by omega)).trans v5, (o.cellAt (i * 7 + 6) (by omega)).trans v6, o, fun k => o.frozenAt k⟩)
  have hw1 : IntKind.i64.wrap (x.seq + 1) = x.seq + 1 := IntWalk.i64_in _ (by omega)
  have CC := Lib.hid (cloneI_any ia n ic ks w3 (HI.out.below B3.out) HIN.out (by omega))
  have GS := Lib.hid (show S g ∧ g ≠ b from MD.out.2.2.2.2.2.2.2.2.2.1 g rfl)
  clear v0 v1 v2 v3 v4 v5 v6
  rcases Nat.eq_zero_or_pos n with rfl | hnp
  · obtain rfl : ks = [] := List.eq_nil_of_length_eq_zero KL.out
    cases en
    · go_wp2_with fail
      go_ret
      exact putP_no (by rw [← HZ3.out]; rfl) B3.out
    · go_wp2_with fail
      refine CC.out.mono ?_
      rintro e w4 ⟨wa, wc, rfl, ho, hb4⟩
      obtain ⟨u1, u2, u3, u4, u5, u6, o4, fz⟩ := VV.out _ hb4
      have O4 := Lib.hid o4
      have HO := Lib.hid ho
      have B24 := Lib.hid (B23.out.trans (hb4.mono B23.out.size))
      have f1 := fz (i * 7 + 1); have f2 := fz (i * 7 + 2); have f6 := fz (i * 7 + 6)
      clear o4 ho hb4 CC fz
      go_wp2_with fail
      go_ret
      have own := (((O4.out.stored (i * 7 + 6) (.slice wa 0 wc)).1.stored (i * 7 + 2) (.int .i64 (x.seq + 1))).1.stored (i * 7 + 1) (.bool true)).1
      have hset := smV_put1 L i wa 0 wc (x.seq + 1) true [] hil
      rw [HX.out] at hset
      rw [hset] at own
      have T5 : Turn (fun k => k = g) w4 (((w4.setCell ⟨g, i * 7 + 6, none⟩ (.slice wa 0 wc)).setCell ⟨g, i * 7 + 2, none⟩ (.int .i64 (x.seq + 1))).setCell ⟨g, i * 7 + 1, none⟩ (.bool true)) := mturn_set (mturn_set (mturn_set (Turn.refl _ _) rfl) rfl) rfl
      have PT := MD.out.put B24.out T5 own (by simp) (fun y hy => by
        rcases List.mem_or_eq_of_mem_set hy with hy | rfl
        · obtain ⟨y1, y2, y3, y5⟩ := MD.out.2.2.2.2.2.2.1 y hy
          exact ⟨y1.below B24.out, y2, y3, fun fb fo e => Or.inl ⟨(y5 fb fo e).1, (y5 fb fo e).2.1, (y5 fb fo e).2.2.1, fun e2 => (y5 fb fo e).2.2.2 (by rw [e2])⟩⟩
        · have hnn := owns_none HO.out
          exact ⟨HoldsK.own HO.out, hnn.1, hnn.2, fun fb fo e => Or.inr ⟨Nat.le_trans B23.out.size (own_block HO.out e).1, (own_block HO.out e).2⟩⟩)
      have hz1 : z = true := by rw [← HZ3.out]; rfl
      subst hz1
      refine ⟨rfl, wa, wc, (fun k => S k ∨ (w2.heap.size ≤ k ∧ k < w4.heap.size)), ?_, fun k hk => Or.imp id (fun hh => Nat.le_trans B2.out.size hh.1) hk, (Turn.of_below B2.out).trans PT.2⟩
      rw [Int.toNat_natCast, HX.out]
      have hp : putM x wa ([] : List KV).length wc [] true = ⟨x.least, true, x.seq + 1, x.rcv, x.last, wa, 0, wc, []⟩ := by unfold putM; simp
      rw [hp]
      exact PT.1
  · obtain ⟨m, rfl⟩ : ∃ m, n = m + 1 := ⟨n - 1, by omega⟩
    have z0 : (((m + 1 : Nat) : Int) == 0) = false := by simp; omega
    have z0' : ((m : Int) + 1 == 0) = false := by simp; omega
    have z1 : decide (((m + 1 : Nat) : Int) > 0) = true := decide_eq_true (by omega)
    have z2 : decide (0 < m + 1) = true := decide_eq_true (by omega)
    have hm1 : IntKind.i64.wrap (m : Int) = (m : Int) := IntWalk.i64_in _ (by omega)
    have g4 : (0 : Int) ≤ (m : Int) := by omega
    have g5 : (m : Int) < ((m + 1 : Nat) : Int) := by omega
    have g6 : (m : Int) < (m : Int) + 1 := by omega
    obtain ⟨l, hll⟩ : ∃ l, ks.getD m k0 = l := ⟨_, rfl⟩
    have HLL := Lib.hid hll
    obtain ⟨fb, fo, rfl, hkc⟩ := HI.out.2 (by omega)
    obtain ⟨yy0, yy1⟩ := hkc m (by omega)
    rw [hll] at yy0 yy1
    have FNE := Lib.hid (show fb ≠ g from fun e => HIS.out (by omega) fb fo rfl (by rw [e]; exact GS.out.1))
    have YY := Lib.hid (show ∀ w', Below w.heap.size w w' → w'.cell? ⟨fb, fo + m * 2, none⟩ = some (.int .i64 l.1) ∧ w'.cell? ⟨fb, fo + m * 2 + 1, none⟩ = some (.string l.2) from fun w' hb => ⟨(hb.cell (p := ⟨fb, fo + m * 2, none⟩) (lt_of_cell yy0)).trans yy0, (hb.cell (p := ⟨fb, fo + m * 2 + 1, none⟩) (lt_of_cell yy0)).trans yy1⟩)
    have HZ4 := Lib.hid (show z = true from by rw [← HZ3.out, KL.out, decide_eq_false (by omega)]; rfl)
    clear hkc yy0 yy1 hll
    cases en
    all_goals
      go_wp2_with fail
      refine CC.out.mono ?_
      rintro e w4 ⟨wa, wc, rfl, ho, hb4⟩
      rw [KL.out] at ho
      rw [KL.out]
      obtain ⟨u1, u2, u3, u4, u5, u6, o4, fz⟩ := VV.out _ hb4
      have O4 := Lib.hid o4
      have HO := Lib.hid ho
      have B24 := Lib.hid (B23.out.trans (hb4.mono B23.out.size))
      have B4 := Lib.hid (B3.out.trans (hb4.mono B3.out.size))
      have f1 := fz (i * 7 + 1); have f2 := fz (i * 7 + 2); have f3 := fz (i * 7 + 3); have f4 := fz (i * 7 + 4); have f5 := fz (i * 7 + 5); have f6 := fz (i * 7 + 6)
      have FF4 := Lib.hid fz
      have U := Lib.hid (show (w4.cell? ⟨g, i * 7 + 1, none⟩ = some (.bool x.ended) ∧ w4.cell? ⟨g, i * 7 + 2, none⟩ = some (.int .i64 x.seq)) ∧ (w4.cell? ⟨g, i * 7 + 3, none⟩ = some (.bool x.rcv) ∧ w4.cell? ⟨g, i * 7 + 4, none⟩ = some (.int .i64 x.last.1) ∧ w4.cell? ⟨g, i * 7 + 5, none⟩ = some (.string x.last.2)) from ⟨⟨u1, u2⟩, u3, u4, u5⟩)
      clear o4 ho hb4 CC fz u1 u2 u3 u4 u5 f1 f2 f3 f4 f5
      go_upto_region 7 with fail
      have O5 := Lib.hid (O4.out.stored (i * 7 + 6) (.slice wa (m + 1) wc)).1
      have T5 := Lib.hid (show Turn (fun k => k = g) w4 (w4.setCell ⟨g, i * 7 + 6, none⟩ (.slice wa (m + 1) wc)) from mturn_set (Turn.refl _ _) rfl)
      have u1 := (cset_ne (w := w4) (b := g) (o := i * 7 + 6) (p := i * 7 + 1) (v := .slice wa (m + 1) wc) (by omega)).trans U.out.1.1
      have u2 := (cset_ne (w := w4) (b := g) (o := i * 7 + 6) (p := i * 7 + 2) (v := .slice wa (m + 1) wc) (by omega)).trans U.out.1.2
      have u3 := (cset_ne (w := w4) (b := g) (o := i * 7 + 6) (p := i * 7 + 3) (v := .slice wa (m + 1) wc) (by omega)).trans U.out.2.1
      have u4 := (cset_ne (w := w4) (b := g) (o := i * 7 + 6) (p := i * 7 + 4) (v := .slice wa (m + 1) wc) (by omega)).trans U.out.2.2.1
      have u5 := (cset_ne (w := w4) (b := g) (o := i * 7 + 6) (p := i * 7 + 5) (v := .slice wa (m + 1) wc) (by omega)).trans U.out.2.2.2
      obtain ⟨r0, r1⟩ := YY.out w4 B4.out
      have q0 := (cset_far (w := w4) (b := g) (c := fb) (o := i * 7 + 6) (p := fo + m * 2) (v := .slice wa (m + 1) wc) (fun e => FNE.out e.symm)).trans r0
      have q1 := (cset_far (w := w4) (b := g) (c := fb) (o := i * 7 + 6) (p := fo + m * 2 + 1) (v := .slice wa (m + 1) wc) (fun e => FNE.out e.symm)).trans r1
      have fz := fun k => (fset_any (w := w4) (a := ⟨g, i * 7 + 6, none⟩) (v := .slice wa (m + 1) wc) (p := ⟨g, k, none⟩)).trans (FF4.out k)
      have f1 := fz (i * 7 + 1); have f2 := fz (i * 7 + 2); have f3 := fz (i * 7 + 3); have f4 := fz (i * 7 + 4); have f5 := fz (i * 7 + 5)
      clear u6 f6 U r0 r1 fz
      generalize hw5 : w4.setCell ⟨g, i * 7 + 6, none⟩ (.slice wa (m + 1) wc) = w5 at *
      clear hw5
      go_wp2_with fail
      go_ret
      have hset := fun en => smV_put2 L i wa (m + 1) wc l (x.seq + 1) en ks hil
      rw [HX.out] at hset
      have own := fun en => (((((O5.out.stored (i * 7 + 4) (.int .i64 l.1)).1.stored (i * 7 + 5) (.string l.2)).1.stored (i * 7 + 3) (.bool true)).1.stored (i * 7 + 2) (.int .i64 (x.seq + 1))).1.stored (i * 7 + 1) (.bool en)).1
      simp only [hset] at own
      have PT := fun en => MD.out.put B24.out (T5.out.trans (show Turn (fun k => k = g) w5 (((((w5.setCell ⟨g, i * 7 + 4, none⟩ (.int .i64 l.1)).setCell ⟨g, i * 7 + 5, none⟩ (.string l.2)).setCell ⟨g, i * 7 + 3, none⟩ (.bool true)).setCell ⟨g, i * 7 + 2, none⟩ (.int .i64 (x.seq + 1))).setCell ⟨g, i * 7 + 1, none⟩ (.bool en)) from mturn_set (mturn_set (mturn_set (mturn_set (mturn_set (Turn.refl _ _) rfl) rfl) rfl) rfl) rfl)) (own en) (by simp) (fun y hy => by
        rcases List.mem_or_eq_of_mem_set hy with hy | rfl
        · obtain ⟨y1, y2, y3, y5⟩ := MD.out.2.2.2.2.2.2.1 y hy
          exact ⟨y1.below B24.out, y2, y3, fun fb fo e => Or.inl ⟨(y5 fb fo e).1, (y5 fb fo e).2.1, (y5 fb fo e).2.2.1, fun e2 => (y5 fb fo e).2.2.2 (by rw [e2])⟩⟩
        · have hnn := owns_none HO.out
          exact ⟨HoldsK.own HO.out, hnn.1, hnn.2, fun fb fo e => Or.inr ⟨Nat.le_trans B23.out.size (own_block HO.out e).1, (own_block HO.out e).2⟩⟩)
      have hp : ∀ en, putM x wa ks.length wc ks en = ⟨x.least, en, x.seq + 1, true, l, wa, m + 1, wc, ks⟩ := fun en => by
        unfold putM
        rw [KL.out, if_pos (by omega), show m + 1 - 1 = m from rfl, HLL.out, decide_eq_true (show 0 < m + 1 by omega), Bool.or_true]
      have hz1 := HZ4.out
      subst hz1
      refine ⟨rfl, wa, wc, (fun k => S k ∨ (w2.heap.size ≤ k ∧ k < w4.heap.size)), ?_, fun k hk => Or.imp id (fun hh => Nat.le_trans B2.out.size hh.1) hk, (Turn.of_below B2.out).trans (PT _).2⟩
      rw [Int.toNat_natCast, HX.out, hp]
      exact (PT _).1
end Go.Proofs.Ytgghbgmeebihbaa
/- lists of Items: held against each other; lent; kept -/
namespace Go.Proofs.Ytgghbgmeebihbaa
open Go.RowKit
set_option linter.unusedVariables false
set_option maxRecDepth 20000
theorem prI_info : (Try.prog.info? 61).map (fun i => (i.zero, i.size, i.bytes)) = some (some (.agg #[.int .i64 0, .string ⟨#[]⟩]), 2, 24) := by kernel_rfl
set_option maxHeartbeats 400000 in
theorem sameItems_quiet (a1 a2 : Option Addr) (n c1 c2 : Nat) (z : List KV) (w : World) (h1 : HoldsK w a1 n z) (h2 : HoldsK w a2 n z) (hl : n ≤ 4611686018427387904) :
    Calls Try.prog 20 #[.slice a1 n c1, .slice a2 n c2] w fun e w' => e = .returned (.bool true) ∧ ∃ m, w' = w.drewN m := by
  have H1 := Lib.hid h1; have H2 := Lib.hid h2
  have hb : ((n : Int) != (n : Int)) = false := by simp
  clear h1 h2
  go_enter Try.func20, Try.ntmps20
  go_wp2
  go_loopw [5] (fun i wr => ∃ k m : Nat, k ≤ n ∧ i = .int .i64 k ∧ wr = w.drewN m) (fun i _ => n - (intOf i).toNat)
  case atStart => exact ⟨0, 0, by omega, rfl, rfl⟩
  case round =>
    obtain ⟨k, m, hk, rfl, rfl⟩ := hrel
    by_cases hlt : k < n
    · obtain ⟨b1, o1, rfl, k1⟩ := H1.out.at (by omega)
      obtain ⟨b2, o2, rfl, k2⟩ := H2.out.at (by omega)
      obtain ⟨e1, e2⟩ := k1 k hlt
      obtain ⟨e3, e4⟩ := k2 k hlt
      obtain ⟨x, hx⟩ : ∃ x, z.getD k k0 = x := ⟨_, rfl⟩
      rw [hx] at e1 e2 e3 e4
      obtain ⟨x1, x2⟩ := x
      simp only at e1 e2 e3 e4
      have f1 : (x1 == x1) = true := by simp
      have f2 := str_same x2
      clear hx k1 k2
      go_wp2
      go_quiet (fail)
      go_wp2
      go_roundw
      case rel => exact ⟨k + 1, _, by omega, by go_num, rfl⟩
      case measure => simp [intOf]; omega
    · go_wp2
      go_ret
      exact ⟨rfl, _, rfl⟩
theorem sameItems_yes (a1 a2 : Option Addr) (n c1 c2 : Nat) (z : List KV) (w : World) (h1 : HoldsK w a1 n z) (h2 : HoldsK w a2 n z) (hl : n ≤ 4611686018427387904) :
    Calls Try.prog 20 #[.slice a1 n c1, .slice a2 n c2] w fun e w' => e = .returned (.bool true) ∧ Below w.heap.size w w' :=
  (sameItems_quiet a1 a2 n c1 c2 z w h1 h2 hl).mono fun _ _ ⟨h, m, hm⟩ => ⟨h, by rw [hm]; exact below_drewN _ _⟩
set_option maxHeartbeats 400000 in
theorem lendItems_any (a : Option Addr) (n cap : Nat) (ks : List KV) (w : World) (h : HoldsK w a n ks) (hnil : a = none → n = 0 ∧ cap = 0) (hn : n ≤ 1048576) :
    Calls Try.prog 14 #[.slice a n cap] w fun e w' => e = .returned (.slice (some ⟨w.heap.size, 0, none⟩) n (n + 3)) ∧ Below w.heap.size w w' ∧ Roomy2 w' w.heap.size 61 n ks 3 := by
  obtain ⟨i0, hi, hz0, hz1, hz2⟩ := info_parts prI_info
  have hl := h.len
  have HK := Lib.hid h; have HN := Lib.hid hnil
  have HC := Lib.hid (fun (w' : World) (hg : w.grownBy w' none) => h.cellsAny hg)
  have hkl := keysV_len ks
  clear h hnil
  go_enter Try.func14, Try.ntmps14
  go_wp2_with (first | (at_make; refine wpList_make_own _ rfl _ _ 34 rfl w.heap.size 61 i0 (.agg #[.int .i64 0, .string ⟨#[]⟩]) 2 Try.underlying34 hi hz0 hz1 _ _ _ (n + 3) rfl rfl (by omega) (by rw [hz2]; omega) (by unfold maxLen; omega) (Nat.le_refl _) ?_; intro w0 hown0 hgrow0) | (at_builtin; refine wpList_append_fits_any _ rfl (.tmp 10) (.tmp 11) 34 rfl w.heap.size 61 i0 2 Try.underlying34 hi hz1 w.heap.size 0 (n + 3) _ rfl hown0 a n cap (keysV ks) rfl (by rw [hkl, hl]) HN.out (HC.out _ hgrow0) (keysV_one _) (by omega) ?_; intro w1 hown1 hgrow1; simp only [Nat.zero_add, List.nil_append] at hown1))
  have hb0 : Below w.heap.size w w0 := below_grown hgrow0 (by intro k hk; cases hk)
  have hb1 : Below w.heap.size w w1 := hb0.grown hgrow1 hb0.size (by intro k hk; cases hk; exact Nat.le_refl _)
  have hr1 : Roomy2 w1 w.heap.size 61 n ks 0 := roomy2_of_own hl hown1
  have HB1 := Lib.hid hb1; have HR1 := Lib.hid hr1
  clear hb0 hb1 hr1 hown0 hown1 hgrow0 hgrow1
  go_loopw [5] (fun i wr => ∃ k : Nat, k ≤ 3 ∧ i = .int .i64 k ∧ Hid (Roomy2 wr w.heap.size 61 n ks k) ∧ Hid (Below w.heap.size w wr)) (fun i _ => 3 - (intOf i).toNat)
  case atStart => exact ⟨0, by omega, rfl, HR1, HB1⟩
  case round =>
    obtain ⟨k, hk, rfl, hR, hB⟩ := hrel
    by_cases hlt : k < 3
    · obtain ⟨v, hv⟩ := hR.out.there (n * 2 + k * 2) (by omega)
      obtain ⟨v2, hv2⟩ := hR.out.there (n * 2 + k * 2 + 1) (by omega)
      have hf := hR.out.free (n * 2 + k * 2)
      have hf2 := hR.out.free (n * 2 + k * 2 + 1)
      go_wp2
      go_roundw
      case rel => exact ⟨k + 1, by omega, by go_num, hR.out.put hlt, (hB.out.setCell (p := ⟨w.heap.size, n * 2 + k * 2, none⟩) (Nat.le_refl _) _).setCell (p := ⟨w.heap.size, n * 2 + k * 2 + 1, none⟩) (Nat.le_refl _) _⟩
      case measure => simp [intOf]; omega
    · obtain rfl : k = 3 := by omega
      go_wp2
      go_ret
      exact ⟨rfl, hB.out, hR.out⟩
set_option maxHeartbeats 400000 in
theorem keptItems_yes (B : Nat) (e : TypeId) (n : Nat) (z : List KV) (a : Option Addr) (cap : Nat) (w : World) (h1 : z.length = n) (hR : Roomy2 w B e n z 3) (h2 : HoldsK w a n z) (hn : n ≤ 1048576) :
    Calls Try.prog 17 #[.slice (some ⟨B, 0, none⟩) n (n + 3), .slice a n cap] w fun e w' => e = .returned (.bool true) ∧ Below w.heap.size w w' := by
  have HR := Lib.hid hR; have H2 := Lib.hid h2; have H1 := Lib.hid h1
  clear hR h2 h1
  have HS := Lib.hid (HR.out.holds H1.out)
  have f1 : ((-7 : Int) == -7) = true := by simp
  have f2 := str_same ({ data := #[] } : ByteArray)
  go_enter Try.func17, Try.ntmps17
  go_wp2
  go_loop [6] (fun i => ∃ k : Nat, k ≤ 3 ∧ i = .int .i64 k) (fun i => 3 - (intOf i).toNat)
  case atStart => exact ⟨0, by omega, rfl⟩
  case round =>
    obtain ⟨k, hk, rfl⟩ := hrel
    by_cases hlt : k < 3
    · obtain ⟨hv, hv2⟩ := HR.out.room k hlt
      go_wp2
      go_round
      case rel => exact ⟨k + 1, by omega, by go_num⟩
      case measure => simp [intOf]; omega
    · obtain rfl : k = 3 := by omega
      go_wp2_with fail
      refine (sameItems_yes _ _ _ _ _ z _ HS.out H2.out (by omega)).mono ?_
      rintro e w' ⟨rfl, hb⟩
      go_wp2_with fail
      go_ret
      exact ⟨rfl, hb⟩
end Go.Proofs.Ytgghbgmeebihbaa
/- slices.Clone and slices.SortFunc at items -/
namespace Go.Proofs.Ytgghbgmeebihbaa
open Go.Shelf Go.RowKit
def Try.sortI_ren : Go.Shelf.Ren := ⟨fun | 6 => 55 | 15 => 67 | 14 => 66 | 28 => 82 | 29 => 83 | 20 => 74 | 21 => 75 | 22 => 76 | 23 => 77 | 24 => 78 | 25 => 79 | 26 => 80 | 27 => 81 | 46 => 87 | 47 => 88 | 48 => 89 | 49 => 90 | 50 => 91 | 57 => 94 | n => n, fun | 22 => 34 | 24 => 61 | 25 => 97 | 3 => 3 | 39 => 93 | 0 => 0 | 53 => 119 | 55 => 121 | 4 => 4 | 46 => 113 | 45 => 112 | 50 => 94 | 5 => 5 | 9 => 9 | 66 => 124 | 70 => 128 | 76 => 132 | 77 => 133 | n => n, fun | n => n⟩
theorem Try.sortI : Go.Proofs.SlLaysF0.n6 Try.prog Try.sortI_ren := {
  mixed := by kernel_rfl
  f6 := ⟨Try.f55.name, by decide, Try.func55.trans (congrArg some (by kernel_rfl))⟩
  f14 := ⟨Try.f66.name, by decide, Try.func66.trans (congrArg some (by kernel_rfl))⟩
  f15 := Try.func67.trans (congrArg some (by kernel_rfl))
  f20 := ⟨Try.f74.name, by decide, Try.func74.trans (congrArg some (by kernel_rfl))⟩
  f21 := ⟨Try.f75.name, by decide, Try.func75.trans (congrArg some (by kernel_rfl))⟩
  f22 := ⟨Try.f76.name, by decide, Try.func76.trans (congrArg some (by kernel_rfl))⟩
  f23 := ⟨Try.f77.name, by decide, Try.func77.trans (congrArg some (by kernel_rfl))⟩
  f24 := ⟨Try.f78.name, by decide, Try.func78.trans (congrArg some (by kernel_rfl))⟩
  f25 := ⟨Try.f79.name, by decide, Try.func79.trans (congrArg some (by kernel_rfl))⟩
  f26 := ⟨Try.f80.name, by decide, Try.func80.trans (congrArg some (by kernel_rfl))⟩
  f27 := ⟨Try.f81.name, by decide, Try.func81.trans (congrArg some (by kernel_rfl))⟩
  f28 := Try.func82.trans (congrArg some (by kernel_rfl))
  f29 := Try.func83.trans (congrArg some (by kernel_rfl))
  f46 := ⟨Try.f87.name, by decide, Try.func87.trans (congrArg some (by kernel_rfl))⟩
  f47 := Try.func88.trans (congrArg some (by kernel_rfl))
  f48 := Try.func89.trans (congrArg some (by kernel_rfl))
  f49 := ⟨Try.f90.name, by decide, Try.func90.trans (congrArg some (by kernel_rfl))⟩
  f50 := ⟨Try.f91.name, by decide, Try.func91.trans (congrArg some (by kernel_rfl))⟩
  f57 := ⟨Try.f94.name, by decide, Try.func94.trans (congrArg some (by kernel_rfl))⟩
  t0 := Try.underlying0
  a0 := Try.isAgg0
  z0 := Try.sizeOf0
  v0 := Try.zeroValue0
  t3 := Try.underlying3
  a3 := Try.isAgg3
  z3 := Try.sizeOf3
  v3 := Try.zeroValue3
  t4 := Try.underlying4
  a4 := Try.isAgg4
  z4 := Try.sizeOf4
  v4 := Try.zeroValue4
  t5 := Try.underlying5
  a5 := Try.isAgg5
  z5 := Try.sizeOf5
  v5 := Try.zeroValue5
  t9 := Try.underlying9
  a9 := Try.isAgg9
  z9 := Try.sizeOf9
  v9 := Try.zeroValue9
  t22 := Try.underlying34
  a22 := Try.isAgg34
  z22 := Try.sizeOf34
  v22 := Try.zeroValue34
  t25 := Try.underlying97
  a25 := Try.isAgg97
  z25 := Try.sizeOf97
  v25 := Try.zeroValue97
  t39 := Try.underlying93
  a39 := Try.isAgg93
  z39 := Try.sizeOf93
  v39 := Try.zeroValue93
  t45 := Try.underlying112
  a45 := Try.isAgg112
  z45 := Try.sizeOf112
  v45 := Try.zeroValue112
  t46 := Try.underlying113
  a46 := Try.isAgg113
  z46 := Try.sizeOf113
  v46 := Try.zeroValue113
  t50 := Try.underlying94
  a50 := Try.isAgg94
  z50 := Try.sizeOf94
  v50 := Try.zeroValue94
  t53 := Try.underlying119
  a53 := Try.isAgg119
  z53 := Try.sizeOf119
  v53 := Try.zeroValue119
  t55 := Try.underlying121
  a55 := Try.isAgg121
  z55 := Try.sizeOf121
  v55 := Try.zeroValue121
  t66 := Try.underlying124
  a66 := Try.isAgg124
  z66 := Try.sizeOf124
  v66 := Try.zeroValue124
  t70 := Try.underlying128
  a70 := Try.isAgg128
  z70 := Try.sizeOf128
  v70 := Try.zeroValue128
  t76 := Try.underlying132
  a76 := Try.isAgg132
  z76 := Try.sizeOf132
  v76 := Try.zeroValue132
  t77 := Try.underlying133
  a77 := Try.isAgg133
  z77 := Try.sizeOf133
  v77 := Try.zeroValue133 }
end Go.Proofs.Ytgghbgmeebihbaa
namespace Go.Proofs.Ytgghbgmeebihbaa
open Go.RowKit Go.Shelf Go.Sort Go.Lib
set_option linter.unusedVariables false
set_option maxRecDepth 20000
def encI (x : KV) : List Value := [.int .i64 x.1, .string x.2]
instance : Inhabited KV := ⟨k0⟩
theorem keysV_get (ks : List KV) (t : Nat) (h : t < ks.length * 2) : (keysV ks).toArray[t]! = (encI (ks.toArray[t / 2]!))[t % 2]! := by
  have hi : t / 2 < ks.length := by omega
  obtain ⟨e0, e1⟩ := keysV_at ks (t / 2) hi
  have hk : ks.toArray[t / 2]! = ks.getD (t / 2) k0 := by
    rw [getElem!_pos ks.toArray (t / 2) (by simpa using hi)]; simp [List.getD_eq_getElem?_getD, hi]
  have hl : t < (keysV ks).length := by rw [keysV_len]; exact h
  rw [hk, getElem!_pos (keysV ks).toArray t (by simpa using hl)]
  have hg : (keysV ks)[t]? = some ((keysV ks)[t]'hl) := List.getElem?_eq_getElem hl
  rcases Nat.mod_two_eq_zero_or_one t with m | m
  · rw [show t / 2 * 2 = t by omega] at e0
    rw [e0] at hg
    rw [m]; simpa [encI] using (Option.some.inj hg).symm
  · rw [show t / 2 * 2 + 1 = t by omega] at e1
    rw [e1] at hg
    rw [m]; simpa [encI] using (Option.some.inj hg).symm
theorem flat_keys (ks : List KV) : flatK encI 2 ks.toArray = (keysV ks).toArray := by
  refine ext_get! (by simp [keysV_len]) fun t ht => ?_
  have ht' : t < ks.length * 2 := by simpa using ht
  rw [get_flatK encI 2 ks.toArray t (by simpa using ht'), keysV_get ks t ht']
theorem swoI : SWO (ltOf ordK) := {
  irrefl x := by unfold ltOf; rw [decide_eq_false_iff_not]; exact ordK_irrefl _
  trans x y z h1 h2 := by unfold ltOf at *; rw [decide_eq_true_iff] at *; exact ordK_trans h1 h2
  ntrans x y z h1 h2 := by
    unfold ltOf at *
    rw [decide_eq_false_iff_not] at *
    exact ordK_le_trans h2 h1 }
theorem totI (x y : KV) (h1 : ltOf ordK x y = false) (h2 : ltOf ordK y x = false) : x = y := by
  unfold ltOf at *
  rw [decide_eq_false_iff_not] at *
  exact leK_asymm h2 h1
theorem cmpI_lays (blk off size : Nat) (w : World) : CmpLays Try.prog 56 #[] encI 2 ordK blk off size w := by
  intro m os dk hs x y
  refine (iorder_grows x y _).mono ?_
  rintro e w' ⟨rfl, q, os', rfl⟩
  exact ⟨rfl, q, os', rfl⟩
theorem isAggI (w : World) : (isAgg 61).run Try.prog w = .ok true w := by kernel_rfl
theorem sizeI (w : World) : (Go.sizeOf 61).run Try.prog w = .ok 2 w := by kernel_rfl
theorem heap_sortedK {w : World} {g n : Nat} {os : Array Obj} {cur : Array Value} {e : TypeId} {fr : Nat × Nat} (d : Array Value) (hb : w.heap[g]? = some (.cells cur e fr)) :
    (grow (putRow id (Sort.ahead w n) g 0 d) os).heap[g]? = some (.cells (putCells id 0 d cur) e fr) := by
  have hg : g < w.heap.size := (Array.getElem?_eq_some_iff.1 hb).1
  rw [heap_grow_old _ _ (by simpa using hg)]
  simp [putRow, mapBlock, Sort.ahead, Array.getElem?_modify, hb, onCells]
theorem grownBy_sortedK {w : World} {g n : Nat} {os : Array Obj} (d : Array Value) : w.grownBy (grow (putRow id (Sort.ahead w n) g 0 d) os) (some g) := by
  refine ⟨rfl, rfl, rfl, by simp, fun k hk hne => ?_⟩
  rw [heap_grow_old _ _ (by simpa using hk)]
  have : g ≠ k := fun e => hne (by rw [e])
  simp [putRow, mapBlock, Sort.ahead, Array.getElem?_modify, this]
theorem take_putCellsK (cur : Array Value) (ts : List Value) (h : ts.length ≤ cur.size) : (putCells id 0 ts.toArray cur).toList.take ts.length = ts := by
  apply List.ext_getElem?
  intro j
  by_cases hj : j < ts.length
  · rw [List.getElem?_take_of_lt hj, Array.getElem?_toList]
    simp [putCells, hj, show j < cur.size by omega]
  · rw [List.getElem?_take_eq_none (by omega), List.getElem?_eq_none (by omega)]
set_option maxHeartbeats 1000000 in
theorem sortI_some (g n cap B : Nat) (ks : List KV) (w : World) (hown : w.ownsRow B 61 2 (.slice (some ⟨g, 0, none⟩) n cap) n (keysV ks)) (hn : n ≤ 1048576) :
    Calls Try.prog 55 #[.slice (some ⟨g, 0, none⟩) n cap, .func (.func 56) #[] #[]] w fun e w' => e = .returned (.tuple #[]) ∧ w'.ownsRow B 61 2 (.slice (some ⟨g, 0, none⟩) n cap) n (keysV (sortK ks)) ∧ (∀ b w0, b ≤ B → Below b w0 w → Below b w0 w') := by
  have eg : ∀ args w, (callFunc 56 args).run Try.prog w = .ok (.enter 56 args) w := enters_of Try.func56 (by kernel_rfl) rfl
  rcases hown.2 with ⟨h0, _⟩ | ⟨g', cap', cur, hv, hbase, hb, h1, h2, h3, h4⟩
  · cases h0
  cases hv
  have hl : ks.length = n := by have := hown.1; rw [keysV_len] at this; omega
  subst hl
  have hgl := (Array.getElem?_eq_some_iff.1 hb).1
  have hH : Go.Sort.HoldsK encI 2 w g 0 ks.toArray := by
    unfold Go.Sort.HoldsK
    rw [flat_keys]
    intro j hj
    have hj' : j < ks.length * 2 := by simpa [keysV_len] using hj
    refine ⟨?_, by simp [World.frozen?, hb]⟩
    have h5 : (cur.toList.take (ks.length * 2))[j]? = (keysV ks)[j]? := by rw [h4]
    rw [List.getElem?_take_of_lt hj'] at h5
    simp only [World.cell?, hb, Nat.zero_add]
    simp only [Option.isSome_none, Bool.false_eq_true, if_false]
    rw [← Array.getElem?_toList, h5]
    have hlt : j < (keysV ks).length := by rw [keysV_len]; exact hj'
    rw [List.getElem?_eq_getElem hlt, getElem!_pos (keysV ks).toArray j (by simpa using hlt)]
    simp
  have hS := AnyQ.slices_SortFunc_total Try.sortI 2 isAggI sizeI encI (fun _ => rfl) (fun x v hv => by simp [encI] at hv; rcases hv with rfl | rfl <;> rfl) ordK swoI 56 #[] g 0 cap ks.toArray w eg (cmpI_lays g 0 _ w) hH hgl (by simp at hn ⊢; omega) totI
  change Calls Try.prog 55 _ _ _ at hS
  simp only [List.size_toArray] at hS
  refine hS.mono ?_
  rintro e w' ⟨rfl, q, os, rfl⟩
  have hm : (ks.mergeSort fun x y => !(ltOf ordK) y x) = sortK ks := mergeK ks
  rw [hm]
  have hsl := sortK_length ks
  have hfl : (flatK encI 2 (sortK ks).toArray) = (keysV (sortK ks)).toArray := flat_keys _
  unfold sortWorldK putRowK
  rw [hfl]
  refine ⟨rfl, ⟨by rw [keysV_len, hsl], Or.inr ⟨g, cap, _, rfl, hbase, heap_sortedK _ hb, h1, h2, by simp [putCells, h3], ?_⟩⟩, ?_⟩
  · have := take_putCellsK cur (keysV (sortK ks)) (by rw [keysV_len, hsl, h3]; exact Nat.mul_le_mul_right 2 h1)
    rwa [keysV_len, hsl] at this
  · intro b w0 hbB hbel
    exact hbel.grown (grownBy_sortedK _) (by omega) fun j hj => by cases hj; omega
theorem sortI_none (c : Nat) (w : World) : Calls Try.prog 55 #[.slice none 0 c, .func (.func 56) #[] #[]] w fun e w' => e = .returned (.tuple #[]) ∧ w = w' := by
  have hS := AnyF.slices_SortFunc_none (P := Try.prog) (ρ := Try.sortI_ren) { Try.sortI with } none c (.func (.func 56) #[] #[]) w
  change Calls Try.prog 55 _ _ _ at hS
  refine hS.mono ?_
  rintro e w' ⟨rfl, rfl⟩
  exact ⟨rfl, rfl⟩
end Go.Proofs.Ytgghbgmeebihbaa
/- contract of the document's 'one'; it is the runes that a range yields -/
namespace Go.Proofs.Ytgghbgmeebihbaa
open Go.RowKit
set_option linter.unusedVariables false
set_option maxRecDepth 20000
def oneV (s : ByteArray) (i : Nat) : Int × Int :=
  if byteS s i < 128 then ((byteS s i : Int), 1)
  else if (194 ≤ byteS s i ∧ byteS s i ≤ 223) ∧ moreP s (i + 1) then (((byteS s i : Int) - 192) * 64 + moreV s (i + 1), 2)
  else if (224 ≤ byteS s i ∧ byteS s i ≤ 239) ∧ moreP s (i + 1) ∧ moreP s (i + 2) then (((byteS s i : Int) - 224) * 4096 + moreV s (i + 1) * 64 + moreV s (i + 2), 3)
  else if (240 ≤ byteS s i ∧ byteS s i ≤ 244) ∧ moreP s (i + 1) ∧ moreP s (i + 2) ∧ moreP s (i + 3) then (((byteS s i : Int) - 240) * 262144 + moreV s (i + 1) * 4096 + moreV s (i + 2) * 64 + moreV s (i + 3), 4)
  else (0, 0)
theorem moreV_bd (s : ByteArray) (i : Nat) : 0 ≤ moreV s i ∧ moreV s i ≤ 63 := by
  unfold moreV
  split
  · rename_i h; unfold moreP at h; omega
  · omega
def badP (r n : Int) : Prop := n = 0 ∨ ¬ goodP r ∨ (n = 3 ∧ r < 2048) ∨ (n = 4 ∧ r < 65536)
instance (r n : Int) : Decidable (badP r n) := by unfold badP; infer_instance
set_option maxHeartbeats 1600000 in
theorem one_decode (s : ByteArray) (i : Nat) (hi : i < s.size) :
    (badP (oneV s i).1 (oneV s i).2 → (Utf8.decode s i).1 = 65533) ∧
    (¬ badP (oneV s i).1 (oneV s i).2 → (oneV s i).1 = ((Utf8.decode s i).1 : Int) ∧ (oneV s i).2 = ((Utf8.decode s i).2 : Int) ∧ (Utf8.decode s i).1 ≠ 65533) := by
  rw [Lib.decode_at]
  have e1 : moreP s (i + 1) ↔ (1 < s.size - i ∧ 128 ≤ byteS s (i + 1) ∧ byteS s (i + 1) ≤ 191) := by unfold moreP; omega
  have e2 : moreP s (i + 2) ↔ (2 < s.size - i ∧ 128 ≤ byteS s (i + 2) ∧ byteS s (i + 2) ≤ 191) := by unfold moreP; omega
  have e3 : moreP s (i + 3) ↔ (3 < s.size - i ∧ 128 ≤ byteS s (i + 3) ∧ byteS s (i + 3) ≤ 191) := by unfold moreP; omega
  have l0 := byteS_lt s i
  have l1 := byteS_lt s (i + 1)
  have l2 := byteS_lt s (i + 2)
  have l3 := byteS_lt s (i + 3)
  unfold oneV moreV
  simp only [e1, e2, e3]
  show (_ → (Lib.decodeN (s.size - i) (byteS s i) (byteS s (i + 1)) (byteS s (i + 2)) (byteS s (i + 3))).1 = 65533) ∧ (_ → _ = ((Lib.decodeN (s.size - i) (byteS s i) (byteS s (i + 1)) (byteS s (i + 2)) (byteS s (i + 3))).1 : Int) ∧ _ = ((Lib.decodeN (s.size - i) (byteS s i) (byteS s (i + 1)) (byteS s (i + 2)) (byteS s (i + 3))).2 : Int) ∧ (Lib.decodeN (s.size - i) (byteS s i) (byteS s (i + 1)) (byteS s (i + 2)) (byteS s (i + 3))).1 ≠ 65533)
  have hn : 0 < s.size - i := by omega
  clear e1 e2 e3
  generalize s.size - i = n at *
  generalize byteS s i = b0 at *
  generalize byteS s (i + 1) = b1 at *
  generalize byteS s (i + 2) = b2 at *
  generalize byteS s (i + 3) = b3 at *
  unfold Lib.decodeN badP goodP
  by_cases h0 : b0 < 128
  · simp only [h0, if_true]
    refine ⟨fun h => ?_, fun h => ⟨?_, ?_, ?_⟩⟩ <;> first | trivial | omega
  simp only [h0, if_false]
  by_cases hA : (194 ≤ b0 ∧ b0 ≤ 223) ∧ 1 < n ∧ 128 ≤ b1 ∧ b1 ≤ 191
  · obtain ⟨⟨a1, a2⟩, a3, a4, a5⟩ := hA
    have c1 : b0 / 32 = 6 ∧ 1 < n ∧ b1 / 64 = 2 := by omega
    have c2 : b0 % 32 * 64 + b1 % 64 ≥ 128 := by omega
    rw [if_pos ⟨⟨a1, a2⟩, a3, a4, a5⟩, if_pos c1, if_pos c2, if_pos ⟨a3, a4, a5⟩]
    dsimp only
    refine ⟨fun h => ?_, fun h => ⟨?_, ?_, ?_⟩⟩ <;> omega
  rw [if_neg hA]
  by_cases hB : (224 ≤ b0 ∧ b0 ≤ 239) ∧ (1 < n ∧ 128 ≤ b1 ∧ b1 ≤ 191) ∧ 2 < n ∧ 128 ≤ b2 ∧ b2 ≤ 191
  · obtain ⟨⟨a1, a2⟩, ⟨a3, a4, a5⟩, a6, a7, a8⟩ := hB
    have c0 : ¬ (b0 / 32 = 6 ∧ 1 < n ∧ b1 / 64 = 2) := by omega
    have c1 : b0 / 16 = 14 ∧ (1 < n ∧ b1 / 64 = 2) ∧ 2 < n ∧ b2 / 64 = 2 := by omega
    rw [if_pos ⟨⟨a1, a2⟩, ⟨a3, a4, a5⟩, a6, a7, a8⟩, if_neg c0, if_pos c1, if_pos ⟨a3, a4, a5⟩, if_pos ⟨a6, a7, a8⟩]
    clear c0 c1 hA
    split
    all_goals
      dsimp only
      refine ⟨fun h => ?_, fun h => ⟨?_, ?_, ?_⟩⟩ <;> omega
  rw [if_neg hB]
  by_cases hC : (240 ≤ b0 ∧ b0 ≤ 244) ∧ (1 < n ∧ 128 ≤ b1 ∧ b1 ≤ 191) ∧ (2 < n ∧ 128 ≤ b2 ∧ b2 ≤ 191) ∧ 3 < n ∧ 128 ≤ b3 ∧ b3 ≤ 191
  · obtain ⟨⟨a1, a2⟩, ⟨a3, a4, a5⟩, ⟨a6, a7, a8⟩, a9, a10, a11⟩ := hC
    have c0 : ¬ (b0 / 32 = 6 ∧ 1 < n ∧ b1 / 64 = 2) := by omega
    have c1 : ¬ (b0 / 16 = 14 ∧ (1 < n ∧ b1 / 64 = 2) ∧ 2 < n ∧ b2 / 64 = 2) := by omega
    have c2 : b0 / 8 = 30 ∧ (1 < n ∧ b1 / 64 = 2) ∧ (2 < n ∧ b2 / 64 = 2) ∧ 3 < n ∧ b3 / 64 = 2 := by omega
    rw [if_pos ⟨⟨a1, a2⟩, ⟨a3, a4, a5⟩, ⟨a6, a7, a8⟩, a9, a10, a11⟩, if_neg c0, if_neg c1, if_pos c2, if_pos ⟨a3, a4, a5⟩, if_pos ⟨a6, a7, a8⟩, if_pos ⟨a9, a10, a11⟩]
    clear c0 c1 c2 hA hB
    split
    all_goals
      dsimp only
      refine ⟨fun h => ?_, fun h => ⟨?_, ?_, ?_⟩⟩ <;> omega
  rw [if_neg hC]
  refine ⟨fun _ => ?_, fun h => absurd (Or.inl rfl) h⟩
  by_cases d1 : b0 / 32 = 6 ∧ 1 < n ∧ b1 / 64 = 2
  · rw [if_pos d1, if_neg (by omega)]
  rw [if_neg d1]
  by_cases d2 : b0 / 16 = 14 ∧ (1 < n ∧ b1 / 64 = 2) ∧ 2 < n ∧ b2 / 64 = 2
  · omega
  rw [if_neg d2]
  by_cases d3 : b0 / 8 = 30 ∧ (1 < n ∧ b1 / 64 = 2) ∧ (2 < n ∧ b2 / 64 = 2) ∧ 3 < n ∧ b3 / 64 = 2
  · rw [if_pos d3, if_neg (by omega)]
  rw [if_neg d3]
end Go.Proofs.Ytgghbgmeebihbaa
/- contracts of the document's 'one' and Runes -/
namespace Go.Proofs.Ytgghbgmeebihbaa
open Go.RowKit
set_option linter.unusedVariables false
set_option maxRecDepth 20000
end Go.Proofs.Ytgghbgmeebihbaa
/- contract of the document's Runes of a text -/
namespace Go.Proofs.Ytgghbgmeebihbaa
open Go.RowKit
set_option linter.unusedVariables false
set_option maxRecDepth 20000
def RunesP (s : ByteArray) (w : World) (e : Ending) (w' : World) : Prop :=
  (0 ≤ lenS s ∧ ∃ a c, e = .returned (.tuple #[.slice a (runesS s).length c, .bool true]) ∧ HoldsI .i32 w' a (runesS s).length (intsN (runesS s)) ∧ (a = none → (runesS s).length = 0 ∧ c = 0) ∧ Below w.heap.size w w') ∨
  (lenS s < 0 ∧ e = .returned (.tuple #[.slice none 0 0, .bool false]) ∧ Below w.heap.size w w')
/-- the same, told by its memory -/
def RunesQ (s : ByteArray) (w : World) (e : Ending) (w' : World) : Prop :=
  (0 ≤ lenS s ∧ ∃ a c, e = .returned (.tuple #[.slice a (runesS s).length c, .bool true]) ∧ w'.ownsRow w.heap.size 21 1 (.slice a (runesS s).length c) (runesS s).length (runesV (intsN (runesS s))) ∧ Below w.heap.size w w') ∨
  (lenS s < 0 ∧ e = .returned (.tuple #[.slice none 0 0, .bool false]) ∧ Below w.heap.size w w')
theorem intsN_len (P : List Nat) : (intsN P).length = P.length := by simp [intsN]
theorem one_size (s : ByteArray) (i : Nat) : 0 ≤ (oneV s i).2 ∧ (oneV s i).2 ≤ 4 := by unfold oneV; split <;> (try split) <;> (try split) <;> (try split) <;> simp
theorem runesS_bad {s : ByteArray} {P : List Nat} {pos f : Nat} (hP : runesS s = P ++ runesN s f pos) (hlt : pos < s.size) (hf : s.size ≤ pos + f) (h : (Utf8.decode s pos).1 = 65533) : lenS s < 0 := by
  obtain ⟨g, rfl, hst, _⟩ := runesN_step s f pos hlt hf
  rw [hst, h] at hP
  rw [lenS_bad hP]; omega
theorem holdsI_own {w : World} {B : Nat} {a : Option Addr} {c : Nat} {P : List Nat} (h : w.ownsRow B 21 1 (.slice a P.length c) P.length (runesV (intsN P))) : HoldsI .i32 w a P.length (intsN P) := by
  have hv := owns_holds h
  refine ⟨intsN_len P, fun h0 => ?_⟩
  obtain ⟨b, o, ha, hc⟩ := hv.2 h0
  exact ⟨b, o, ha, fun i hi => by rw [hc i hi, runesV, getD_map_int .i32 _ i (by rw [intsN_len]; exact hi)]⟩
end Go.Proofs.Ytgghbgmeebihbaa
/- contract of the document's Len -/
namespace Go.Proofs.Ytgghbgmeebihbaa
open Go.RowKit
set_option linter.unusedVariables false
set_option maxRecDepth 20000
end Go.Proofs.Ytgghbgmeebihbaa
/- contract of the document's Asked -/
namespace Go.Proofs.Ytgghbgmeebihbaa
open Go.RowKit
set_option linter.unusedVariables false
set_option maxRecDepth 20000
end Go.Proofs.Ytgghbgmeebihbaa
/- contract of text.Asked -/
namespace Go.Proofs.Ytgghbgmeebihbaa
open Go.RowKit
set_option linter.unusedVariables false
set_option maxRecDepth 20000
theorem asked_any (s : ByteArray) (w : World) (hs : s.size ≤ 9223372036854775807) :
    Calls Try.prog 51 #[.string s] w fun e w' => e = .returned (.bool (decide (0 ≤ lenS s ∧ lenS s ≤ 16))) ∧ Below w.heap.size w w' := by
  have h1 := Lib.hid (len_any s w hs)
  obtain ⟨n, hn⟩ : ∃ n, lenS s = n := ⟨_, rfl⟩
  rw [hn] at h1 ⊢
  clear hn
  have hc : n < 0 ∨ (0 ≤ n ∧ n ≤ 16) ∨ (0 ≤ n ∧ 16 < n) := by omega
  rcases hc with h | ⟨h, h2⟩ | ⟨h, h2⟩
  · rw [decide_eq_false (by omega)]
    go_enter Try.func51, Try.ntmps51
    go_wp2_with fail
    refine h1.out.mono ?_
    rintro e w' ⟨rfl, hb⟩
    go_wp2_with fail
    go_ret
    exact ⟨rfl, hb⟩
  · rw [decide_eq_true (by omega)]
    have x1 : decide (n ≤ 16) = true := by simpa using h2
    go_enter Try.func51, Try.ntmps51
    go_wp2_with fail
    refine h1.out.mono ?_
    rintro e w' ⟨rfl, hb⟩
    go_wp2_with fail
    go_ret
    exact ⟨ret_bool (by simp [*]), hb⟩
  · rw [decide_eq_false (by omega)]
    have x1 : decide (n ≤ 16) = false := by simpa using h2
    go_enter Try.func51, Try.ntmps51
    go_wp2_with fail
    refine h1.out.mono ?_
    rintro e w' ⟨rfl, hb⟩
    go_wp2_with fail
    go_ret
    exact ⟨ret_bool (by simp [*]), hb⟩
theorem asked_lit (s : ByteArray) (c : Bool) (w : World) (hs : s.size ≤ 9223372036854775807) (hc : decide (0 ≤ lenS s ∧ lenS s ≤ 16) = c) :
    Calls Try.prog 51 #[.string s] w fun e w' => e = .returned (.bool c) ∧ Below w.heap.size w w' := by subst hc; exact asked_any s w hs
end Go.Proofs.Ytgghbgmeebihbaa
/- contract of rank.May -/
namespace Go.Proofs.Ytgghbgmeebihbaa
open Go.RowKit
set_option linter.unusedVariables false
set_option maxRecDepth 20000
/-- a query that may be asked -/
def mayP (s : ByteArray) (k n : Int) : Prop := (0 ≤ k ∧ k ≤ 4) ∧ (1 ≤ n ∧ n ≤ 10) ∧ 0 ≤ lenS s ∧ lenS s ≤ 16
instance (s : ByteArray) (k n : Int) : Decidable (mayP s k n) := by unfold mayP; infer_instance
theorem may_any (s : ByteArray) (k n : Int) (w : World) (hs : s.size ≤ 9223372036854775807) :
    Calls Try.prog 24 #[.agg #[.string s, .int .i64 k, .int .i64 n]] w fun e w' => e = .returned (.bool (decide (mayP s k n))) ∧ Below w.heap.size w w' := by
  have hA := Lib.hid (fun w => asked_any s w hs)
  by_cases h1 : 0 ≤ k
  case neg =>
    rw [decide_eq_false (fun x => h1 x.1.1)]
    go_enter Try.func24, Try.ntmps24
    go_wp2_with fail
    go_ret
    exact ⟨rfl, below_one _ _⟩
  by_cases h2 : k ≤ 4
  case neg =>
    rw [decide_eq_false (fun x => h2 x.1.2)]
    go_enter Try.func24, Try.ntmps24
    go_wp2_with fail
    go_ret
    exact ⟨rfl, below_one _ _⟩
  by_cases h3 : 1 ≤ n
  case neg =>
    rw [decide_eq_false (fun x => h3 x.2.1.1)]
    go_enter Try.func24, Try.ntmps24
    go_wp2_with fail
    go_ret
    exact ⟨rfl, below_one _ _⟩
  by_cases h4 : n ≤ 10
  case neg =>
    rw [decide_eq_false (fun x => h4 x.2.1.2)]
    go_enter Try.func24, Try.ntmps24
    go_wp2_with fail
    go_ret
    exact ⟨rfl, below_one _ _⟩
  rw [show decide (mayP s k n) = decide (0 ≤ lenS s ∧ lenS s ≤ 16) by unfold mayP; simp [h1, h2, h3, h4]]
  generalize decide (0 ≤ lenS s ∧ lenS s ≤ 16) = c at *
  go_enter Try.func24, Try.ntmps24
  go_wp2_with fail
  refine (hA.out _).mono ?_
  rintro e w' ⟨rfl, hb⟩
  go_wp2_with fail
  go_ret
  exact ⟨rfl, (below_one _ _).trans (hb.mono (by simp))⟩
theorem may_lit (s : ByteArray) (k n : Int) (c : Bool) (w : World) (hs : s.size ≤ 9223372036854775807) (hc : decide (mayP s k n) = c) :
    Calls Try.prog 24 #[.agg #[.string s, .int .i64 k, .int .i64 n]] w fun e w' => e = .returned (.bool c) ∧ Below w.heap.size w w' := by subst hc; exact may_any s k n w hs
end Go.Proofs.Ytgghbgmeebihbaa
/- contract of the document's May -/
namespace Go.Proofs.Ytgghbgmeebihbaa
open Go.RowKit
set_option linter.unusedVariables false
set_option maxRecDepth 20000
end Go.Proofs.Ytgghbgmeebihbaa
/- Edit distances by a table: plain lemmas. -/
namespace Go.Proofs.Ytgghbgmeebihbaa
set_option linter.unusedVariables false
set_option maxRecDepth 20000
namespace Ed
def cost (x y : Int) : Int := if x = y then 0 else 1
theorem cost_bd (x y : Int) : 0 ≤ cost x y ∧ cost x y ≤ 1 := by unfold cost; split <;> omega
/-- the distance of the first i of a and the first j of b -/
def L (a b : List Int) : Nat → Nat → Int
  | 0, j => j
  | i + 1, 0 => (i : Int) + 1
  | i + 1, j + 1 => min (min (L a b i j + cost (a.getD i 0) (b.getD j 0)) (L a b (i + 1) j + 1)) (L a b i (j + 1) + 1)
/-- a row of the table turned into the next one, for the rune r -/
def adv (R : List Int) (a : List Int) (r : Int) : Nat → Int
  | 0 => R.getD 0 0 + 1
  | i + 1 => min (min (R.getD i 0 + cost (a.getD i 0) r) (R.getD (i + 1) 0 + 1)) (adv R a r i + 1)
/-- the row of the first j of b -/
def row (a b : List Int) (j : Nat) : List Int := (List.range (a.length + 1)).map fun i => L a b i j
theorem row_length (a b : List Int) (j : Nat) : (row a b j).length = a.length + 1 := by simp [row]
theorem row_getD (a b : List Int) (j i : Nat) (h : i ≤ a.length) : (row a b j).getD i 0 = L a b i j := by
  simp [row, List.getD_eq_getElem?_getD, show i < a.length + 1 by omega]
theorem adv_row (a b : List Int) (j i : Nat) (h : i ≤ a.length) : adv (row a b j) a (b.getD j 0) i = L a b i (j + 1) := by
  induction i with
  | zero => rw [adv, row_getD a b j 0 (by omega)]; simp only [L]; omega
  | succ i ih => rw [adv, row_getD a b j i (by omega), row_getD a b j (i + 1) h, ih (by omega)]; simp only [L]
/-- the first k + 1 of a row turned, the rest as it was -/
def mix (R : List Int) (a : List Int) (r : Int) (k : Nat) : List Int := (List.range R.length).map fun i => if i ≤ k then adv R a r i else R.getD i 0
theorem mix_length (R a : List Int) (r : Int) (k : Nat) : (mix R a r k).length = R.length := by simp [mix]
theorem mix_old (R a : List Int) (r : Int) (k i : Nat) (h : i < R.length) (hk : k < i) : (mix R a r k).getD i 0 = R.getD i 0 := by
  simp [mix, List.getD_eq_getElem?_getD, h, show ¬ i ≤ k by omega]
theorem mix_new (R a : List Int) (r : Int) (k i : Nat) (h : i < R.length) (hk : i ≤ k) : (mix R a r k).getD i 0 = adv R a r i := by
  simp [mix, List.getD_eq_getElem?_getD, h, hk]
theorem mix_set (R a : List Int) (r : Int) (k : Nat) (h : k + 1 < R.length) : (mix R a r k).set (k + 1) (adv R a r (k + 1)) = mix R a r (k + 1) := by
  apply List.ext_getElem
  · simp [mix]
  · intro i h1 h2
    rw [List.getElem_set]
    simp only [mix, List.getElem_map, List.getElem_range]
    by_cases e : k + 1 = i
    · subst e; simp
    · rw [if_neg e]
      by_cases h3 : i ≤ k
      · simp [h3, show i ≤ k + 1 by omega]
      · simp [h3, show ¬ i ≤ k + 1 by omega]
theorem mix_zero (R a : List Int) (r : Int) (h : 0 < R.length) : R.set 0 (R.getD 0 0 + 1) = mix R a r 0 := by
  apply List.ext_getElem
  · simp [mix]
  · intro i h1 h2
    rw [List.getElem_set]
    simp only [mix, List.getElem_map, List.getElem_range]
    by_cases e : 0 = i
    · subst e; simp [adv]
    · rw [if_neg e, if_neg (by omega)]
      have h3 : i < R.length := by simpa using h1
      simp [List.getD_eq_getElem?_getD, h3]
theorem mix_all (a b : List Int) (j : Nat) : mix (row a b j) a (b.getD j 0) a.length = row a b (j + 1) := by
  unfold mix
  rw [row_length]
  refine List.map_congr_left fun i hi => ?_
  have := List.mem_range.1 hi
  rw [if_pos (by omega), adv_row a b j i (by omega)]
theorem adv_bd (R a : List Int) (r M : Int) (hM : 0 ≤ M) (h : ∀ i, 0 ≤ R.getD i 0 ∧ R.getD i 0 ≤ M) (i : Nat) : 0 ≤ adv R a r i ∧ adv R a r i ≤ M + 1 := by
  induction i with
  | zero => have := h 0; simp only [adv]; omega
  | succ i ih => have h1 := h i; have h2 := h (i + 1); have h3 := cost_bd (a.getD i 0) r; simp only [adv]; omega
theorem L_bd (a b : List Int) : ∀ i j, 0 ≤ L a b i j ∧ L a b i j ≤ (i : Int) + j := by
  intro i
  induction i with
  | zero => intro j; simp only [L]; omega
  | succ i ih =>
    intro j
    induction j with
    | zero => simp only [L]; omega
    | succ j ihj => have h1 := ih j; have h2 := ih (j + 1); have h3 := cost_bd (a.getD i 0) (b.getD j 0); simp only [L]; omega
theorem row_bd (a b : List Int) (j : Nat) : ∀ i, 0 ≤ (row a b j).getD i 0 ∧ (row a b j).getD i 0 ≤ (a.length : Int) + j := by
  intro i
  by_cases h : i ≤ a.length
  · rw [row_getD a b j i h]; have := L_bd a b i j; omega
  · have : (row a b j).getD i 0 = 0 := by
      rw [List.getD_eq_getElem?_getD, List.getElem?_eq_none (by rw [row_length]; omega)]; rfl
    omega
end Ed
end Go.Proofs.Ytgghbgmeebihbaa
/- Edit distances: lists that have no rune together, lists that have one; how much one step changes. -/
namespace Go.Proofs.Ytgghbgmeebihbaa
set_option linter.unusedVariables false
set_option maxRecDepth 20000
namespace Ed
theorem L_zero (a b : List Int) (i : Nat) : L a b i 0 = (i : Int) := by
  cases i with
  | zero => simp only [L]
  | succ i => simp only [L]; omega
theorem L_zeroL (a b : List Int) (j : Nat) : L a b 0 j = (j : Int) := by simp only [L]
theorem L_left (a b : List Int) (i j : Nat) : L a b (i + 1) j ≤ L a b i j + 1 := by
  cases j with
  | zero => rw [L_zero, L_zero]; omega
  | succ j => simp only [L]; omega
theorem L_right (a b : List Int) (i j : Nat) : L a b i (j + 1) ≤ L a b i j + 1 := by
  cases i with
  | zero => rw [L_zeroL, L_zeroL]; omega
  | succ i => simp only [L]; omega
theorem L_lefts (a b : List Int) (i j p : Nat) : L a b (i + p) j ≤ L a b i j + p := by
  induction p with
  | zero => simp
  | succ p ih => have := L_left a b (i + p) j; rw [← Nat.add_assoc]; omega
theorem L_rights (a b : List Int) (i j p : Nat) : L a b i (j + p) ≤ L a b i j + p := by
  induction p with
  | zero => simp
  | succ p ih => have := L_right a b i (j + p); rw [← Nat.add_assoc]; omega
theorem L_apart (a b : List Int) (h : ∀ i j, i < a.length → j < b.length → a.getD i 0 ≠ b.getD j 0) : ∀ i j, i ≤ a.length → j ≤ b.length → L a b i j = ((max i j : Nat) : Int) := by
  intro i
  induction i with
  | zero => intro j _ _; rw [L_zeroL]; simp
  | succ i ih =>
    intro j hi
    induction j with
    | zero => intro _; rw [L_zero]; simp
    | succ j ihj =>
      intro hj
      have h1 := ih j (by omega) (by omega)
      have h2 := ih (j + 1) (by omega) hj
      have h3 := ihj (by omega)
      have hc : cost (a.getD i 0) (b.getD j 0) = 1 := by unfold cost; rw [if_neg (h i j (by omega) (by omega))]
      simp only [L]
      rw [h1, h2, h3, hc]
      omega
theorem L_meet (a b : List Int) (i j : Nat) (hi : i < a.length) (hj : j < b.length) (h : a.getD i 0 = b.getD j 0) : L a b a.length b.length < (a.length : Int) + b.length := by
  have h1 : L a b (i + 1) (j + 1) ≤ L a b i j := by
    have hc : cost (a.getD i 0) (b.getD j 0) = 0 := by unfold cost; rw [if_pos h]
    simp only [L]; rw [hc]; omega
  have h2 := L_bd a b i j
  have h3 := L_lefts a b (i + 1) (j + 1) (a.length - (i + 1))
  have h4 := L_rights a b a.length (j + 1) (b.length - (j + 1))
  rw [show i + 1 + (a.length - (i + 1)) = a.length by omega] at h3
  rw [show j + 1 + (b.length - (j + 1)) = b.length by omega] at h4
  omega
end Ed
end Go.Proofs.Ytgghbgmeebihbaa
/- Edit distances are a metric. -/
namespace Go.Proofs.Ytgghbgmeebihbaa
set_option linter.unusedVariables false
set_option maxRecDepth 20000
namespace Ed
theorem cost_sym (x y : Int) : cost x y = cost y x := by
  unfold cost
  by_cases h : x = y
  · rw [if_pos h, if_pos h.symm]
  · rw [if_neg h, if_neg (fun e => h e.symm)]
theorem cost_tri (x y z : Int) : cost x z ≤ cost x y + cost y z := by
  unfold cost
  by_cases h : x = y
  · by_cases h2 : y = z
    · rw [if_pos h, if_pos h2, if_pos (h.trans h2)]; omega
    · rw [if_pos h, if_neg h2]; split <;> omega
  · rw [if_neg h]; split <;> split <;> omega
theorem L_sym (a b : List Int) : ∀ i j, L a b i j = L b a j i := by
  intro i
  induction i with
  | zero => intro j; rw [L_zeroL, L_zero]
  | succ i ih =>
    intro j
    induction j with
    | zero => rw [L_zero, L_zeroL]
    | succ j ihj =>
      have h1 := ih j; have h2 := ih (j + 1); have h3 := cost_sym (a.getD i 0) (b.getD j 0)
      simp only [L]
      rw [h1, h2, ihj, h3]
      omega
theorem L_low (a b : List Int) : ∀ (i j : Nat), (i : Int) - j ≤ L a b i j ∧ (j : Int) - i ≤ L a b i j := by
  intro i
  induction i with
  | zero => intro j; rw [L_zeroL]; omega
  | succ i ih =>
    intro j
    induction j with
    | zero => rw [L_zero]; omega
    | succ j ihj => have h1 := ih j; have h2 := ih (j + 1); have h3 := cost_bd (a.getD i 0) (b.getD j 0); simp only [L]; omega
theorem L_diag (a b : List Int) (i j : Nat) : L a b (i + 1) (j + 1) ≤ L a b i j + cost (a.getD i 0) (b.getD j 0) := by
  simp only [L]; omega
theorem L_up (a b : List Int) : ∀ i j, L a b i j ≤ ((max i j : Nat) : Int) := by
  intro i
  induction i with
  | zero => intro j; rw [L_zeroL]; omega
  | succ i ih =>
    intro j
    cases j with
    | zero => rw [L_zero]; omega
    | succ j => have h1 := ih j; have h2 := L_diag a b i j; have h3 := cost_bd (a.getD i 0) (b.getD j 0); omega
theorem L_same (a : List Int) : ∀ i, L a a i i = 0 := by
  intro i
  induction i with
  | zero => rw [L_zeroL]; rfl
  | succ i ih =>
    have h1 := L_diag a a i i
    have h2 := (L_bd a a (i + 1) (i + 1)).1
    have h3 : cost (a.getD i 0) (a.getD i 0) = 0 := by unfold cost; rw [if_pos rfl]
    omega
theorem L_none (a b : List Int) : ∀ i, L a b i i = 0 → ∀ t, t < i → a.getD t 0 = b.getD t 0 := by
  intro i
  induction i with
  | zero => intro _ t h; omega
  | succ i ih =>
    intro h t ht
    have h1 := L_bd a b i i; have h2 := L_bd a b (i + 1) i; have h3 := L_bd a b i (i + 1); have h4 := cost_bd (a.getD i 0) (b.getD i 0)
    simp only [L] at h
    have h5 : L a b i i = 0 := by omega
    have h6 : cost (a.getD i 0) (b.getD i 0) = 0 := by omega
    rcases Nat.lt_or_ge t i with h7 | h7
    · exact ih h5 t h7
    · obtain rfl : t = i := by omega
      unfold cost at h6
      split at h6
      · assumption
      · omega
theorem L_zero_iff (a b : List Int) : L a b a.length b.length = 0 ↔ a = b := by
  constructor
  · intro h
    have h1 := L_low a b a.length b.length
    have hl : a.length = b.length := by omega
    rw [← hl] at h
    have h2 := L_none a b a.length h
    apply List.ext_getElem hl
    intro i h3 h4
    have h5 := h2 i h3
    simpa [List.getD_eq_getElem?_getD, h3, h4] using h5
  · rintro rfl; exact L_same a _
theorem L_tri (a b c : List Int) : ∀ n i j k, i + j + k ≤ n → L a c i k ≤ L a b i j + L b c j k := by
  intro n
  induction n with
  | zero =>
    intro i j k h
    obtain rfl : i = 0 := by omega
    obtain rfl : j = 0 := by omega
    obtain rfl : k = 0 := by omega
    simp only [L]; omega
  | succ n ih =>
    intro i j k h
    cases i with
    | zero => rw [L_zeroL, L_zeroL]; have := L_low b c j k; omega
    | succ i =>
      cases k with
      | zero => rw [L_zero, L_zero]; have := L_low a b (i + 1) j; omega
      | succ k =>
        cases j with
        | zero => rw [L_zero, L_zeroL]; have := L_bd a c (i + 1) (k + 1); omega
        | succ j =>
          have i1 := ih i (j + 1) (k + 1) (by omega)
          have i2 := ih (i + 1) (j + 1) k (by omega)
          have i3 := ih (i + 1) j (k + 1) (by omega)
          have i4 := ih (i + 1) j k (by omega)
          have i5 := ih i j (k + 1) (by omega)
          have i6 := ih i j k (by omega)
          have u1 := L_left a c i (k + 1)
          have u2 := L_right a c (i + 1) k
          have u3 := L_diag a c i k
          have c1 := cost_bd (a.getD i 0) (b.getD j 0); have c2 := cost_bd (b.getD j 0) (c.getD k 0)
          have t := cost_tri (a.getD i 0) (b.getD j 0) (c.getD k 0)
          have x1 : L a b (i + 1) (j + 1) = min (min (L a b i j + cost (a.getD i 0) (b.getD j 0)) (L a b (i + 1) j + 1)) (L a b i (j + 1) + 1) := by simp only [L]
          have x2 : L b c (j + 1) (k + 1) = min (min (L b c j k + cost (b.getD j 0) (c.getD k 0)) (L b c (j + 1) k + 1)) (L b c j (k + 1) + 1) := by simp only [L]
          omega
end Ed
end Go.Proofs.Ytgghbgmeebihbaa
/- lists of runes as arguments, opened -/
namespace Go.Proofs.Ytgghbgmeebihbaa
open Go.RowKit
set_option linter.unusedVariables false
set_option maxRecDepth 20000
theorem Try.cellsI32 : Try.prog.cellsOf 21 = 1 := by kernel_rfl
theorem open_runes_arg {H : Type} {enc : TypeId × Value → H} {W : World} {base : Nat} {v : Value} {d : DataW H} {p : List MemPlace}
    (o : Value.okWide Try.prog W .any base 101 v) (h : DataW.Trod enc Try.prog W 0 (fun _ => true) true 101 v d p) :
    ∃ a zs cap, v = .slice a zs.length cap ∧ HoldsI .i32 W a zs.length zs ∧ (a = none → zs.length = 0 ∧ cap = 0) ∧ zs.length ≤ cap ∧ cap ≤ maxLen ∧ ∀ z ∈ zs, -2147483648 ≤ z ∧ z ≤ 2147483647 := by
  obtain ⟨a, n, cap, zs, rfl, hh, hnil, h1, h2, hw⟩ := open_ints_arg Try.underlying101 Try.underlying21 Try.cellsI32 o h
  have hl := hh.len
  subst hl
  exact ⟨a, zs, cap, rfl, hh, hnil, h1, h2, fun z hz => i32_of_wf (hw z hz)⟩
end Go.Proofs.Ytgghbgmeebihbaa
/- contracts of rows: the first row of a table, and a row turned into the next one -/
namespace Go.Proofs.Ytgghbgmeebihbaa
open Go.RowKit
set_option linter.unusedVariables false
set_option maxRecDepth 20000
def intsV (zs : List Int) : List Value := zs.map (Value.int .i64)
theorem int_info : (Try.prog.info? 3).map (fun i => (i.zero, i.size, i.bytes)) = some (some (.int .i64 0), 1, 8) := by kernel_rfl
theorem intsV_set (zs : List Int) (j : Nat) (x : Int) : (intsV zs).set j (.int .i64 x) = intsV (zs.set j x) := by simp [intsV, List.map_set]
theorem intsV_at (zs : List Int) (j : Nat) (h : j < zs.length) : (intsV zs)[j]? = some (.int .i64 (zs.getD j 0)) := by simp [intsV, List.getD_eq_getElem?_getD, h]
theorem intsV_one (zs : List Int) : ∀ u ∈ intsV zs, u.oneCell' = true := ints_oneCell _ _
/-- the numbers from 0 on, the first k; 0 behind them -/
def upTo (n k : Nat) : List Int := (List.range n).map fun i => if i < k then (i : Int) else 0
theorem upTo_set (n k : Nat) (h : k < n) : (upTo n k).set k (k : Int) = upTo n (k + 1) := by
  apply List.ext_getElem
  · simp [upTo]
  · intro i h1 h2
    rw [List.getElem_set]
    simp only [upTo, List.getElem_map, List.getElem_range]
    by_cases e : k = i
    · subst e; simp
    · rw [if_neg e]
      by_cases h3 : i < k
      · simp [h3, show i < k + 1 by omega]
      · simp [h3, show ¬ i < k + 1 by omega]
theorem upTo_zero (n : Nat) : intsV (upTo n 0) = List.replicate n (.int .i64 0) := by
  apply List.ext_getElem
  · simp [intsV, upTo]
  · intro i h1 h2; simp [intsV, upTo]
theorem upTo_row (a b : List Int) : upTo (a.length + 1) (a.length + 1) = Ed.row a b 0 := by
  unfold upTo Ed.row
  refine List.map_congr_left fun i hi => ?_
  have := List.mem_range.1 hi
  rw [if_pos (by omega)]
  cases i with
  | zero => simp only [Ed.L]
  | succ i => simp only [Ed.L]; omega
theorem upTo_length (n k : Nat) : (upTo n k).length = n := by simp [upTo]
set_option maxHeartbeats 400000 in
theorem first_any (m : Nat) (w : World) (hm : m ≤ 1048576) :
    Calls Try.prog 92 #[.int .i64 m] w fun e w' => e = .returned (.slice (some ⟨w.heap.size, 0, none⟩) (m + 1) (m + 1)) ∧ w'.ownsRow w.heap.size 3 1 (.slice (some ⟨w.heap.size, 0, none⟩) (m + 1) (m + 1)) (m + 1) (intsV (upTo (m + 1) (m + 1))) ∧ Below w.heap.size w w' := by
  obtain ⟨i0, hi, hz0, hz1, hz2⟩ := info_parts int_info
  go_enter Try.func92, Try.ntmps92
  go_wp2_with (at_make; refine wpList_make_full _ rfl _ _ 22 rfl w.heap.size 3 i0 (.int .i64 0) 1 Try.underlying22 hi hz0 hz1 _ _ _ _ (m + 1) rfl rfl (by omega) (by omega) (by rw [hz2]; omega) (by unfold maxLen; omega) (Nat.le_refl _) ?_; intro w0 hown0 hgrow0)
  have hB0 := below_grown hgrow0 (by intro k hk; cases hk)
  have ho : w0.ownsRow w.heap.size 3 1 (.slice (some ⟨w.heap.size, 0, none⟩) (m + 1) (m + 1)) (m + 1) (intsV (upTo (m + 1) 0)) := by
    rw [upTo_zero, ← toList_madeCells_one]; rw [Nat.mul_one] at hown0; exact hown0
  have O0 := Lib.hid ho; have B0 := Lib.hid hB0
  clear hown0 hgrow0 ho hB0
  go_loopw [10] (fun i wr => ∃ k : Nat, k ≤ m + 1 ∧ i = .int .i64 k ∧ Hid (wr.ownsRow w.heap.size 3 1 (.slice (some ⟨w.heap.size, 0, none⟩) (m + 1) (m + 1)) (m + 1) (intsV (upTo (m + 1) k))) ∧ Hid (Below w.heap.size w wr)) (fun i _ => m + 1 - (intOf i).toNat)
  case atStart => exact ⟨0, by omega, rfl, O0, B0⟩
  case round =>
    obtain ⟨k, hk, rfl, hO, hB⟩ := hrel
    by_cases hlt : k < m + 1
    · have hc := hO.out.cellAt k (by omega)
      rw [intsV_at _ k (by rw [upTo_length]; exact hlt)] at hc
      have hf := hO.out.frozenAt k
      have hs := (hO.out.stored k (.int .i64 (k : Int))).1
      rw [intsV_set, upTo_set (m + 1) k hlt] at hs
      have HS := Lib.hid hs
      obtain ⟨x, hx⟩ : ∃ x, (upTo (m + 1) k).getD k 0 = x := ⟨_, rfl⟩
      rw [hx] at hc
      clear hs hx
      go_wp2
      go_roundw
      case rel => exact ⟨k + 1, by omega, by go_num, HS, Lib.hid (hB.out.setCell (Nat.le_refl _) _)⟩
      case measure => simp [intOf]; omega
    · obtain rfl : k = m + 1 := by omega
      go_wp2
      go_ret
      exact ⟨rfl, hO.out, hB.out⟩
end Go.Proofs.Ytgghbgmeebihbaa
/- contract of rows.Advance: a row of a table turned into the next one, in place -/
namespace Go.Proofs.Ytgghbgmeebihbaa
open Go.RowKit
set_option linter.unusedVariables false
set_option maxRecDepth 20000
theorem cost_eq (x : Int) : Ed.cost x x = 0 := by simp [Ed.cost]
theorem cost_ne {x y : Int} (h : x ≠ y) : Ed.cost x y = 1 := by simp [Ed.cost, h]
theorem store_grown (w : World) (g i : Nat) (v : Value) : w.grownBy (w.setCell ⟨g, i, none⟩ v) (some g) :=
  ⟨rfl, rfl, rfl, by simp [World.setCell], fun k _ hk => Below.heap_setCell _ _ _ _ (fun e => hk (by rw [e]))⟩
theorem grown_trans {a b c : World} {r : Option Nat} (h : a.grownBy b r) (k : b.grownBy c r) : a.grownBy c r :=
  ⟨k.os.trans h.os, k.tape.trans h.tape, k.output.trans h.output, Nat.le_trans h.size k.size, fun i hi hr => (k.block i (Nat.lt_of_lt_of_le hi h.size) hr).trans (h.block i hi hr)⟩
theorem own_val {w : World} {p : Addr} {base : Nat} {e : TypeId} {size : Nat} {v : Value} {n : Nat} {xs : List Value} {V x : Int} (h : (w.setCell p (.int .i64 V)).ownsRow base e size v n xs) (hx : x = V) : (w.setCell p (.int .i64 x)).ownsRow base e size v n xs := by
  rw [hx]; exact h
set_option maxHeartbeats 1600000 in
theorem advance_any (B g cap m : Nat) (R ra : List Int) (a : Option Addr) (acap : Nat) (r : Int) (w : World) (h : w.ownsRow B 3 1 (.slice (some ⟨g, 0, none⟩) (m + 1) cap) (m + 1) (intsV R))
    (ha : HoldsI .i32 w a m ra) (hne : ∀ b o, 0 < m → a = some ⟨b, o, none⟩ → b ≠ g) (hR : ∀ i, 0 ≤ R.getD i 0 ∧ R.getD i 0 ≤ 4194304) (hm : m ≤ 1048576) :
    Calls Try.prog 93 #[.slice (some ⟨g, 0, none⟩) (m + 1) cap, .slice a m acap, .int .i32 r] w fun e w' => e = .returned (.tuple #[]) ∧
      w'.ownsRow B 3 1 (.slice (some ⟨g, 0, none⟩) (m + 1) cap) (m + 1) (intsV (Ed.mix R ra r m)) ∧ w.grownBy w' (some g) := by
  have hlR : R.length = m + 1 := by have := h.1; simpa [intsV] using this
  have hla := ha.len
  have hbd := Ed.adv_bd R ra r 4194304 (by decide) hR
  have HR := Lib.hid hR; have HBD := Lib.hid hbd; have HLR := Lib.hid hlR; have HLA := Lib.hid hla; have HA := Lib.hid ha; have HNE := Lib.hid hne; have H := Lib.hid h
  have hc0 := h.cellAt 0 (by omega)
  rw [intsV_at _ 0 (by omega)] at hc0
  have hf0 := h.frozenAt 0
  have hs0 := (h.stored 0 (.int .i64 (R.getD 0 0 + 1))).1
  rw [intsV_set, Ed.mix_zero R ra r (by omega)] at hs0
  have HS0 := Lib.hid hs0
  have b0 := hR 0
  obtain ⟨x0, hx0⟩ : ∃ x, R.getD 0 0 = x := ⟨_, rfl⟩
  rw [hx0] at hc0 b0
  have HX0 := Lib.hid hx0
  clear hs0 hx0 hR hbd hlR hla ha hne h
  go_enter Try.func93, Try.ntmps93
  go_wp2
  go_loopw [6, 20] (fun ab i wr => ∃ k : Nat, k ≤ m ∧ i = .int .i64 k ∧ ab = .int .i64 (R.getD k 0) ∧ Hid (wr.ownsRow B 3 1 (.slice (some ⟨g, 0, none⟩) (m + 1) cap) (m + 1) (intsV (Ed.mix R ra r k))) ∧ Hid (w.grownBy wr (some g))) (fun _ i _ => m - (intOf i).toNat)
  case atStart => exact ⟨0, by omega, rfl, by rw [HX0.out], by rw [← HX0.out]; exact HS0, Lib.hid (store_grown w g 0 _)⟩
  case round =>
    obtain ⟨k, hk, rfl, rfl, hO, hG⟩ := hrel
    by_cases hlt : k < m
    · obtain ⟨ba, oa, rfl, hca⟩ := HA.out.at (by omega)
      have hbg : ba ≠ g := HNE.out ba oa (by omega) rfl
      have e1 := hca k hlt
      have hba := lt_of_cell e1
      have ea : wr.cell? ⟨ba, oa + k, none⟩ = some (.int .i32 (ra.getD k 0)) := by
        rw [World.cell?_of_block (w := w) (hG.out.block ba hba (by intro e; injection e with e; exact hbg e))]; exact e1
      have hk1 := hO.out.cellAt (k + 1) (by omega)
      rw [intsV_at _ (k + 1) (by rw [Ed.mix_length, HLR.out]; omega), Ed.mix_old R ra r k (k + 1) (by rw [HLR.out]; omega) (by omega)] at hk1
      have hk0 := hO.out.cellAt k (by omega)
      rw [intsV_at _ k (by rw [Ed.mix_length, HLR.out]; omega), Ed.mix_new R ra r k k (by rw [HLR.out]; omega) (by omega)] at hk0
      have hf1 := hO.out.frozenAt (k + 1)
      have hst := (hO.out.stored (k + 1) (.int .i64 (Ed.adv R ra r (k + 1)))).1
      rw [intsV_set, Ed.mix_set R ra r k (by rw [HLR.out]; omega)] at hst
      have hadv : Ed.adv R ra r (k + 1) = min (min (R.getD k 0 + Ed.cost (ra.getD k 0) r) (R.getD (k + 1) 0 + 1)) (Ed.adv R ra r k + 1) := rfl
      have q0 := HR.out k; have q1 := HR.out (k + 1); have q2 := HBD.out k
      have HST := Lib.hid hst
      obtain ⟨V, hV⟩ : ∃ V, Ed.adv R ra r (k + 1) = V := ⟨_, rfl⟩
      obtain ⟨c, hc⟩ : ∃ c, ra.getD k 0 = c := ⟨_, rfl⟩
      obtain ⟨x, hx⟩ : ∃ x, R.getD k 0 = x := ⟨_, rfl⟩
      obtain ⟨y, hy⟩ : ∃ y, R.getD (k + 1) 0 = y := ⟨_, rfl⟩
      obtain ⟨z, hz⟩ : ∃ z, Ed.adv R ra r k = z := ⟨_, rfl⟩
      rw [hV] at HST hadv
      rw [hc] at ea hadv; rw [hx] at q0 hadv ⊢; rw [hy] at hk1 q1 hadv; rw [hz] at hk0 q2 hadv
      have HY := Lib.hid hy
      clear hst hV hc hx hy hz e1 hca hc0 hf0
      by_cases hcr : c = r
      · subst hcr
        rw [cost_eq] at hadv
        have HADV := Lib.hid hadv
        clear hadv
        go_wp2
        all_goals (
          go_roundw
          case rel => exact ⟨k + 1, by omega, by go_num, by rw [HY.out], Lib.hid (own_val HST.out (by have e := HADV.out; omega)), Lib.hid (grown_trans hG.out (store_grown wr g (k + 1) _))⟩
          case measure => simp [intOf]; omega)
      · rw [cost_ne hcr] at hadv
        have hb : (c != r) = true := by simpa using hcr
        have HADV := Lib.hid hadv
        clear hadv hcr
        go_wp2
        all_goals (
          go_roundw
          case rel => exact ⟨k + 1, by omega, by go_num, by rw [HY.out], Lib.hid (own_val HST.out (by have e := HADV.out; omega)), Lib.hid (grown_trans hG.out (store_grown wr g (k + 1) _))⟩
          case measure => simp [intOf]; omega)
    · obtain rfl : k = m := by omega
      go_wp2
      go_end0
      exact ⟨rfl, hO.out, hG.out⟩
end Go.Proofs.Ytgghbgmeebihbaa
/- contract of text.Runes -/
namespace Go.Proofs.Ytgghbgmeebihbaa
open Go.RowKit
set_option linter.unusedVariables false
set_option maxRecDepth 20000
set_option maxHeartbeats 800000 in
theorem runes_good (s : ByteArray) (w : World) (hs : s.size ≤ 1048576) (hg : 0 ≤ lenS s) :
    Calls Try.prog 64 #[.string s] w fun e w' => ∃ a c, e = .returned (.tuple #[.slice a (runesS s).length c, .bool true]) ∧ RetR 21 w (intsN (runesS s)) a c w' := by
  obtain ⟨i0, hi, hz0, hz1, hz2⟩ := info_parts i32_info
  obtain ⟨hgood, hlen⟩ := lenS_pos hg
  have hle := runesS_le s
  obtain ⟨n, hn⟩ : ∃ n, (runesS s).length = n := ⟨_, rfl⟩
  rw [hn] at hlen hle ⊢
  have HN := Lib.hid hn; have HLEN := Lib.hid hlen; have HGD := Lib.hid hgood
  clear hn hlen hgood hg
  go_enter Try.func64, Try.ntmps64
  go_wp2_with fail
  refine (len_any s _ (by omega)).mono ?_
  rintro e w1 ⟨rfl, hb1⟩
  rw [HLEN.out]
  have B1 := Lib.hid hb1
  clear hb1
  go_wp2_with (at_make; refine wpList_make_own _ rfl _ _ 101 rfl w.heap.size 21 i0 (.int .i32 0) 1 Try.underlying101 hi hz0 hz1 _ _ _ n rfl rfl (by omega) (by rw [hz2]; omega) (by unfold maxLen; omega) B1.out.size ?_; intro w2 hown2 hgrow2)
  have B2 := Lib.hid (B1.out.trans ((below_grown hgrow2 (by intro k hk; cases hk)).mono B1.out.size))
  have s1 := B1.out.size
  have hlt2 := (hown2.lt w1.heap.size rfl).2
  have O2 := Lib.hid hown2
  clear hown2 hgrow2
  go_loopw [5] (fun v wr => ∃ (pos f : Nat) (P : List Nat), s.size ≤ pos + f ∧ v = .slice (some ⟨w1.heap.size, 0, none⟩) P.length n ∧ Hid (runesS s = P ++ runesN s f pos) ∧
      Hid (wr.ownsRow w.heap.size 21 1 (.slice (some ⟨w1.heap.size, 0, none⟩) P.length n) P.length (runesV (intsN P))) ∧ Hid (wr.heap[w2.heap.size]? = some (.stringIter s pos)) ∧ Hid (Below w.heap.size w wr)) (fun _ wr => s.size - wr.iterPos w2.heap.size)
  case atStart => exact ⟨0, s.size, [], by omega, rfl, Lib.hid rfl, Lib.hid (owns_below O2.out (below_one _ _)), Lib.hid (World.iter_heap w2 s 0), Lib.hid (B2.out.trans ((below_one w2 _).mono B2.out.size))⟩
  case round =>
    obtain ⟨pos, f, P, hf, rfl, hP, hO, hIt, hB⟩ := hrel
    by_cases hlt : pos < s.size
    · have hnx := fun ty => Lib.run_next_any_at (P := Try.prog) wr w2.heap.size s pos ty hIt.out hlt
      obtain ⟨g, rfl, hst, hg⟩ := runesN_step s f pos hlt hf
      have hwd := decode_width s pos hlt
      have hPn : P.length + 1 ≤ n := by
        have h1 := congrArg List.length hP.out
        rw [hst, List.length_append, List.length_cons, HN.out] at h1
        omega
      have HST := Lib.hid hst
      obtain ⟨r, hr⟩ : ∃ r, (Utf8.decode s pos).1 = r := ⟨_, rfl⟩
      obtain ⟨wd, hwd2⟩ : ∃ wd, (Utf8.decode s pos).2 = wd := ⟨_, rfl⟩
      rw [hr, hwd2] at hnx HST; rw [hwd2] at hg hwd
      clear hst hr hwd2
      have hOi := owns_iterAt hO.out hIt.out (pos + wd)
      have OI := Lib.hid hOi
      clear hOi
      go_wp2_with (at_builtin; refine wpList_append_fits _ rfl (.tmp 19) (.tmp 21) 101 rfl w.heap.size 21 i0 1 Try.underlying101 hi hz1 w1.heap.size P.length n _ rfl (OI.out.alloc _) _ 1 1 _ rfl rfl (one_cells _ _ _ _) (one_int _ _) (by omega) ?_; intro w4 hown4 hgrow4)
      have hIt4 : w4.heap[w2.heap.size]? = some (.stringIter s (pos + wd)) := by
        have hl := (Array.getElem?_eq_some_iff.1 hIt.out).1
        rw [hgrow4.block w2.heap.size (by simp [World.iterAt]; omega) (by intro e; injection e with e; omega)]
        rw [Below.heap_alloc _ _ _ (by simpa [World.iterAt] using hl)]
        exact Lib.iterAt_heap wr _ s pos (pos + wd) hIt.out
      have hb4 : Below w.heap.size w w4 := by
        have h1 := Lib.below_iterAt hB.out (show w.heap.size ≤ w2.heap.size from B2.out.size) s (pos + wd)
        exact (h1.alloc h1.size _).grown hgrow4 (by have := h1.size; simp; omega) (by intro k hk; injection hk with hk; omega)
      go_roundw
      case rel => exact ⟨pos + wd, g, P ++ [r], hg, by rw [List.length_append]; rfl, Lib.hid (by rw [hP.out, HST.out]; simp), Lib.hid (by rw [List.length_append, runesV_snoc]; exact hown4), Lib.hid hIt4, Lib.hid hb4⟩
      case measure =>
        have h1 : w4.iterPos w2.heap.size = pos + wd := by simp [World.iterPos, hIt4]
        have h2 : wr.iterPos w2.heap.size = pos := by simp [World.iterPos, hIt.out]
        rw [h1, h2]; omega
    · have hnx := fun ty => Lib.run_next_end_at (P := Try.prog) wr w2.heap.size s pos ty hIt.out hlt
      have he : runesS s = P := by rw [hP.out, runesN_end s f pos hlt, List.append_nil]
      have hpl : P.length = n := by rw [← he]; exact HN.out
      have HE := Lib.hid he; have HPL := Lib.hid hpl
      clear he hpl
      go_wp2
      go_ret2
      have hl2 : (intsN (runesS s)).length = P.length := by rw [HE.out]; simp [intsN]
      refine ⟨some ⟨w1.heap.size, 0, none⟩, n, by rw [HPL.out]; rfl, ?_, hB.out, fun h => by cases h⟩
      rw [hl2, HE.out]; exact hO.out
theorem runes_bad (s : ByteArray) (w : World) (hs : s.size ≤ 1048576) (hg : lenS s < 0) :
    Calls Try.prog 64 #[.string s] w fun e w' => e = .returned (.tuple #[.slice none 0 0, .bool false]) ∧ Below w.heap.size w w' := by
  go_enter Try.func64, Try.ntmps64
  go_wp2_with fail
  refine (len_any s _ (by omega)).mono ?_
  rintro e w1 ⟨rfl, hb1⟩
  go_wp2_with fail
  go_ret2
  exact ⟨rfl, hb1⟩
end Go.Proofs.Ytgghbgmeebihbaa
/- rows in memory: preliminaries -/
namespace Go.Proofs.Ytgghbgmeebihbaa
open Go.RowKit
set_option linter.unusedVariables false
set_option maxRecDepth 20000
theorem holdsI_lt {k : IntKind} {w : World} {a : Option Addr} {n : Nat} {zs : List Int} (h : HoldsI k w a n zs) : ∀ b o, 0 < n → a = some ⟨b, o, none⟩ → b < w.heap.size := by
  intro b o h0 ha
  obtain ⟨b2, o2, hb, hc⟩ := h.2 h0
  rw [ha] at hb
  injection hb with hb
  injection hb with hb1 hb2
  subst hb1
  have := hc 0 h0
  exact lt_of_cell this
/-- A row of distances that the call made. -/
def RetRow (w : World) (ra rb : List Int) (j : Nat) (g : Nat) (c : Nat) (w' : World) : Prop :=
  w'.ownsRow w.heap.size 3 1 (.slice (some ⟨g, 0, none⟩) (ra.length + 1) c) (ra.length + 1) (intsV (Ed.row ra rb j)) ∧ Below w.heap.size w w'
end Go.Proofs.Ytgghbgmeebihbaa
/- contract of edit.Distance -/
namespace Go.Proofs.Ytgghbgmeebihbaa
open Go.RowKit
set_option linter.unusedVariables false
set_option maxRecDepth 20000
/-- the distance of two strings, or -1 -/
def distS (a b : ByteArray) : Int := if 0 ≤ lenS a ∧ 0 ≤ lenS b then Ed.L (intsN (runesS a)) (intsN (runesS b)) (runesS a).length (runesS b).length else -1
theorem intsN_length (P : List Nat) : (intsN P).length = P.length := by simp [intsN]
theorem intsN_at {s : ByteArray} {P Q : List Nat} {r : Nat} (h : runesS s = P ++ r :: Q) : (intsN (runesS s)).getD P.length 0 = (r : Int) := by
  rw [h]; simp [intsN, List.getD_eq_getElem?_getD]
end Go.Proofs.Ytgghbgmeebihbaa
/- contracts of edit.Rows and edit.Runes -/
namespace Go.Proofs.Ytgghbgmeebihbaa
open Go.RowKit
set_option linter.unusedVariables false
set_option maxRecDepth 20000
set_option maxHeartbeats 800000 in
theorem rows_any (ra rb : List Int) (a b : Option Addr) (ca cb : Nat) (w : World) (ha : HoldsI .i32 w a ra.length ra) (hb : HoldsI .i32 w b rb.length rb) (hla : ra.length ≤ 1048576) (hlb : rb.length ≤ 1048576) :
    Calls Try.prog 85 #[.slice a ra.length ca, .slice b rb.length cb] w fun e w' => e = .returned (.slice (some ⟨w.heap.size, 0, none⟩) (ra.length + 1) (ra.length + 1)) ∧ RetRow w ra rb rb.length w.heap.size (ra.length + 1) w' := by
  obtain ⟨m, hm⟩ : ∃ m, ra.length = m := ⟨_, rfl⟩
  obtain ⟨n, hn⟩ : ∃ n, rb.length = n := ⟨_, rfl⟩
  unfold RetRow
  rw [hm] at ha hla ⊢; rw [hn] at hb hlb ⊢
  have HM := Lib.hid hm; have HN := Lib.hid hn; have HA := Lib.hid ha; have HB := Lib.hid hb
  clear hm hn ha hb
  go_enter Try.func85, Try.ntmps85
  go_wp2_with fail
  refine (first_any m _ (by omega)).mono ?_
  rintro e w1 ⟨rfl, hown, hb1⟩
  have B1 := Lib.hid hb1
  have hown : w1.ownsRow w.heap.size 3 1 (.slice (some ⟨w.heap.size, 0, none⟩) (m + 1) (m + 1)) (m + 1) (intsV (Ed.row ra rb 0)) := by
    rw [← upTo_row, HM.out]; exact hown
  have O1 := Lib.hid hown
  clear hb1 hown
  go_wp2_with fail
  go_loopw [13] (fun i wr => ∃ k : Nat, k ≤ n ∧ i = .int .i64 k ∧ Hid (wr.ownsRow w.heap.size 3 1 (.slice (some ⟨w.heap.size, 0, none⟩) (m + 1) (m + 1)) (m + 1) (intsV (Ed.row ra rb k))) ∧ Hid (Below w.heap.size w wr)) (fun i _ => n - (intOf i).toNat)
  case atStart => exact ⟨0, by omega, rfl, O1, B1⟩
  case round =>
    obtain ⟨k, hk, rfl, hO, hBw⟩ := hrel
    by_cases hlt : k < n
    · obtain ⟨bb, ob, rfl, hcb⟩ := (HB.out.below hBw.out).at (by omega)
      have e1 := hcb k hlt
      clear hcb
      have hadv := fun R r c => advance_any w.heap.size w.heap.size (m + 1) m R ra a c r
      obtain ⟨r, hr⟩ : ∃ r, rb.getD k 0 = r := ⟨_, rfl⟩
      rw [hr] at e1
      have HR := Lib.hid hr
      clear hr hadv
      go_wp2_with fail
      refine (advance_any w.heap.size w.heap.size (m + 1) m (Ed.row ra rb k) ra a _ r _ hO.out (HA.out.below hBw.out) (fun b o h0 ha => ?_) (fun i => ?_) (by omega)).mono ?_
      · have := holdsI_lt HA.out b o h0 ha; omega
      · have := Ed.row_bd ra rb k i; have := HM.out; omega
      rintro e w2 ⟨rfl, hown2, hgr2⟩
      have hown2 : w2.ownsRow w.heap.size 3 1 (.slice (some ⟨w.heap.size, 0, none⟩) (m + 1) (m + 1)) (m + 1) (intsV (Ed.row ra rb (k + 1))) := by
        rw [← Ed.mix_all, HR.out, HM.out]; exact hown2
      have O2 := Lib.hid hown2
      have B2 := Lib.hid (hBw.out.grown hgr2 hBw.out.size (by intro q hq; injection hq with hq; omega))
      clear hown2 hgr2
      go_wp2_with fail
      go_roundw
      case rel => exact ⟨k + 1, by omega, by go_num, O2, B2⟩
      case measure => simp [intOf]; omega
    · obtain rfl : k = n := by omega
      go_wp2
      go_ret
      exact ⟨rfl, hO.out, hBw.out⟩
set_option maxHeartbeats 800000 in
theorem eruns_any (ra rb : List Int) (a b : Option Addr) (ca cb : Nat) (w : World) (ha : HoldsI .i32 w a ra.length ra) (hb : HoldsI .i32 w b rb.length rb) (hla : ra.length ≤ 1048576) (hlb : rb.length ≤ 1048576) :
    Calls Try.prog 72 #[.slice a ra.length ca, .slice b rb.length cb] w fun e w' => e = .returned (.int .i64 (Ed.L ra rb ra.length rb.length)) ∧ Below w.heap.size w w' := by
  have HA := Lib.hid ha; have HB := Lib.hid hb
  have hrow := Ed.row_getD ra rb rb.length ra.length (Nat.le_refl _)
  have hrl := Ed.row_length ra rb rb.length
  obtain ⟨m, hm⟩ : ∃ m, ra.length = m := ⟨_, rfl⟩
  obtain ⟨n, hn⟩ : ∃ n, rb.length = n := ⟨_, rfl⟩
  have hrows := rows_any ra rb a b ca cb w ha hb hla hlb
  unfold RetRow at hrows
  rw [hm] at hla hrow hrl hrows ⊢; rw [hn] at hlb hrow hrl hrows ⊢
  have HROWS := Lib.hid hrows; have HROW := Lib.hid hrow; have HRL := Lib.hid hrl
  clear ha hb hm hn hrows hrow hrl
  go_enter Try.func72, Try.ntmps72
  go_wp2_with fail
  refine HROWS.out.mono ?_
  rintro e w1 ⟨rfl, hown, hb1⟩
  have hc := hown.cellAt m (by omega)
  rw [intsV_at _ m (by rw [HRL.out]; omega), HROW.out] at hc
  have B1 := Lib.hid hb1
  clear hown hb1
  go_wp2
  go_ret
  exact ⟨rfl, B1.out⟩
end Go.Proofs.Ytgghbgmeebihbaa
/- what every program answers that is one: edit; how long lists are -/
namespace Go.Proofs.Ytgghbgmeebihbaa
open Go.RowKit
set_option linter.unusedVariables false
set_option maxRecDepth 20000
theorem holdsI_lit (k : IntKind) (w : World) (zs : List Int) (e : TypeId) (fr : Nat × Nat) : HoldsI k (w.alloc (.cells (zs.map (Value.int k)).toArray e fr)) (some ⟨w.heap.size, 0, none⟩) zs.length zs := by
  refine ⟨rfl, fun _ => ⟨_, _, rfl, fun i hi => ?_⟩⟩
  rw [World.cell?_alloc_mark, Nat.zero_add]
  simp [List.getD_eq_getElem?_getD, hi]
theorem holdsI_nil (k : IntKind) (w : World) (a : Option Addr) : HoldsI k w a 0 [] := ⟨rfl, fun h => absurd h (by decide)⟩
theorem own_holdsI {w : World} {base : Nat} {e : TypeId} {a : Option Addr} {n c : Nat} {zs : List Int} (h : w.ownsRow base e 1 (.slice a n c) n (intsV zs)) : HoldsI .i64 w a n zs := by
  have hv := owns_holds h
  have hl : zs.length = n := by have := h.1; simpa [intsV] using this
  refine ⟨hl, fun h0 => ?_⟩
  obtain ⟨b, o, ha, hc⟩ := hv.2 h0
  exact ⟨b, o, ha, fun i hi => by rw [hc i hi, intsV, getD_map_int .i64 zs i (by omega)]⟩
theorem dist_one : distS { data := #[97, 98, 99] } { data := #[97, 120, 99, 100] } = 2 := by
  have l1 : lenS { data := #[97, 98, 99] } = 3 := by decide +kernel
  have l2 : lenS { data := #[97, 120, 99, 100] } = 4 := by decide +kernel
  have r1 : intsN (runesS { data := #[97, 98, 99] }) = [97, 98, 99] := by decide +kernel
  have r2 : intsN (runesS { data := #[97, 120, 99, 100] }) = [97, 120, 99, 100] := by decide +kernel
  have n1 : (runesS { data := #[97, 98, 99] }).length = 3 := by decide +kernel
  have n2 : (runesS { data := #[97, 120, 99, 100] }).length = 4 := by decide +kernel
  unfold distS
  rw [l1, l2, r1, r2, n1, n2, if_pos (by decide)]
  have h0 : Ed.row [97, 98, 99] [97, 120, 99, 100] 0 = [0, 1, 2, 3] := by rw [← upTo_row]; decide
  have h1 : Ed.row [97, 98, 99] [97, 120, 99, 100] 1 = [1, 0, 1, 2] := by rw [← Ed.mix_all _ _ 0, h0]; decide
  have h2 : Ed.row [97, 98, 99] [97, 120, 99, 100] 2 = [2, 1, 1, 2] := by rw [← Ed.mix_all _ _ 1, h1]; decide
  have h3 : Ed.row [97, 98, 99] [97, 120, 99, 100] 3 = [3, 2, 2, 1] := by rw [← Ed.mix_all _ _ 2, h2]; decide
  have h4 : Ed.row [97, 98, 99] [97, 120, 99, 100] 4 = [4, 3, 3, 2] := by rw [← Ed.mix_all _ _ 3, h3]; decide
  rw [← Ed.row_getD _ _ 4 3 (by decide), h4]
  rfl
theorem dist_two : distS { data := #[97] } { data := #[255] } = -1 := by
  have l2 : lenS { data := #[255] } = -1 := by decide +kernel
  unfold distS
  rw [l2, if_neg (by omega)]
theorem row_three : Ed.row [97, 98] [98] 1 = [1, 1, 1] := by
  have h0 : Ed.row [97, 98] [98] 0 = [0, 1, 2] := by rw [← upTo_row]; decide
  rw [← Ed.mix_all _ _ 0, h0]; decide
theorem rows_lit (ra rb : List Int) (m n : Nat) (a b : Option Addr) (ca cb : Nat) (w : World) (hm : ra.length = m) (hn : rb.length = n) (ha : HoldsI .i32 w a m ra) (hb : HoldsI .i32 w b n rb) (hla : m ≤ 1048576) (hlb : n ≤ 1048576) :
    Calls Try.prog 85 #[.slice a m ca, .slice b n cb] w fun e w' => e = .returned (.slice (some ⟨w.heap.size, 0, none⟩) (m + 1) (m + 1)) ∧ w'.ownsRow w.heap.size 3 1 (.slice (some ⟨w.heap.size, 0, none⟩) (m + 1) (m + 1)) (m + 1) (intsV (Ed.row ra rb n)) ∧ Below w.heap.size w w' := by
  subst hm hn; exact rows_any ra rb a b ca cb w ha hb hla hlb
end Go.Proofs.Ytgghbgmeebihbaa
/- rows of edit distances: how they change, their beginnings; two cells kept -/
namespace Go.Proofs.Ytgghbgmeebihbaa
open Go.RowKit
set_option linter.unusedVariables false
set_option maxRecDepth 20000
theorem Ed.L_back (a b : List Int) (i : Nat) : ∀ j, Ed.L a b i j ≤ Ed.L a b (i + 1) j + 1 := by
  intro j
  induction j with
  | zero => rw [Ed.L_zero, Ed.L_zero]; omega
  | succ j ih =>
    have h1 := Ed.L_right a b i j; have h2 := Ed.cost_bd (a.getD i 0) (b.getD j 0)
    have h3 : Ed.L a b (i + 1) (j + 1) = min (min (Ed.L a b i j + Ed.cost (a.getD i 0) (b.getD j 0)) (Ed.L a b (i + 1) j + 1)) (Ed.L a b i (j + 1) + 1) := by simp only [Ed.L]
    omega
theorem getD_take_in (l : List Int) (k i : Nat) (h : i < k) : (l.take k).getD i 0 = l.getD i 0 := by
  simp [List.getD_eq_getElem?_getD, h]
theorem Ed.L_take (a b : List Int) (k : Nat) : ∀ i j, i ≤ k → Ed.L (a.take k) b i j = Ed.L a b i j := by
  intro i
  induction i with
  | zero => intro j _; simp only [Ed.L]
  | succ i ih =>
    intro j hi
    induction j with
    | zero => simp only [Ed.L]
    | succ j ihj => simp only [Ed.L]; rw [ih j (by omega), ih (j + 1) (by omega), ihj, getD_take_in a k i (by omega)]
theorem HoldsI.take {k : IntKind} {w : World} {a : Option Addr} {n : Nat} {zs : List Int} (h : HoldsI k w a n zs) (m : Nat) (hm : m ≤ n) : HoldsI k w a m (zs.take m) := by
  refine ⟨by have := h.1; simp; omega, fun h0 => ?_⟩
  obtain ⟨b, o, ha, hc⟩ := h.2 (by omega)
  exact ⟨b, o, ha, fun i hi => by rw [hc i (by omega), getD_take_in zs m i hi]⟩
/-- what lay in two cells lies there still -/
def Two (w1 : World) (g i j : Nat) (x y : Value) (w' : World) : Prop := Below w1.heap.size w1 w' ∧ w'.cell? ⟨g, i, none⟩ = some x ∧ w'.cell? ⟨g, j, none⟩ = some y
theorem two_carry {w1 : World} {g i j : Nat} {x y : Value} {w w' : World} (h : Two w1 g i j x y w) (hb : Below w.heap.size w w') : Two w1 g i j x y w' :=
  ⟨h.1.trans (hb.mono h.1.size), by rw [hb.cell (p := ⟨g, i, none⟩) (lt_of_cell h.2.1)]; exact h.2.1, by rw [hb.cell (p := ⟨g, j, none⟩) (lt_of_cell h.2.2)]; exact h.2.2⟩
theorem eruns_lit (ra rb : List Int) (m n : Nat) (a b : Option Addr) (ca cb : Nat) (w : World) (hm : ra.length = m) (hn : rb.length = n) (ha : HoldsI .i32 w a m ra) (hb : HoldsI .i32 w b n rb) (hla : m ≤ 1048576) (hlb : n ≤ 1048576) :
    Calls Try.prog 72 #[.slice a m ca, .slice b n cb] w fun e w' => e = .returned (.int .i64 (Ed.L ra rb m n)) ∧ Below w.heap.size w w' := by
  subst hm hn; exact eruns_any ra rb a b ca cb w ha hb hla hlb
end Go.Proofs.Ytgghbgmeebihbaa
/- a band of a table of distances: plain lemmas; a row in memory -/
namespace Go.Proofs.Ytgghbgmeebihbaa
open Go.RowKit
set_option linter.unusedVariables false
set_option maxRecDepth 20000
/-- what the band's cell x holds when i runes of a are done: the distance, k + 1 at most -/
structure Cell (a b : List Int) (k i x : Nat) (v : Int) : Prop where
  lo : 0 ≤ v
  hi : v ≤ (k : Int) + 1
  eq : ∀ j : Nat, (j : Int) = (i : Int) + x - k → j ≤ b.length → v = min (Ed.L a b i j) ((k : Int) + 1)
  far : i + x < k → v = (k : Int) + 1
theorem cell_start (a b : List Int) (k x : Nat) (h : x ≤ 2 * k) : Cell a b k 0 x (if k ≤ x then (x : Int) - k else (k : Int) + 1) := by
  refine ⟨by split <;> omega, by split <;> omega, fun j hj hl => ?_, fun hx => by rw [if_neg (by omega)]⟩
  rw [Ed.L_zeroL, if_pos (by omega)]; omega
theorem cell_out_low (a b : List Int) (k i x : Nat) (h : i + x < k) : Cell a b k i x ((k : Int) + 1) := ⟨by omega, by omega, fun j hj _ => by omega, fun _ => rfl⟩
theorem cell_out_high (a b : List Int) (k i x : Nat) (h : (b.length : Int) < (i : Int) + x - k) : Cell a b k i x ((k : Int) + 1) := ⟨by omega, by omega, fun j hj _ => by omega, fun _ => rfl⟩
/-- the cell at the left edge of the table -/
theorem cell_zero (a b : List Int) (k i x : Nat) (u v : Int) (hx : (i : Int) + 1 + x = k) (hu : x + 1 ≤ 2 * k → Cell a b k i (x + 1) u) (hv : v = min (min ((k : Int) + 1) (u + 1)) ((k : Int) + 1)) : Cell a b k (i + 1) x v := by
  have h1 := (hu (by omega)).eq 0 (by omega) (by omega)
  rw [Ed.L_zero] at h1
  refine ⟨by omega, by omega, fun j hj hl => ?_, fun h => by omega⟩
  obtain rfl : j = 0 := by omega
  rw [Ed.L_zero]; omega
/-- a cell within the table -/
theorem cell_in (a b : List Int) (k i x J : Nat) (o l u d2 d3 v : Int) (hJ : (J : Int) + 1 = (i : Int) + 1 + x - k) (hl : J + 1 ≤ b.length) (ho : Cell a b k i x o)
    (hd2 : (x = 0 ∧ d2 = o + Ed.cost (a.getD i 0) (b.getD J 0)) ∨ (∃ p, p + 1 = x ∧ Cell a b k (i + 1) p l ∧ d2 = min (o + Ed.cost (a.getD i 0) (b.getD J 0)) (l + 1)))
    (hd3 : (x = 2 * k ∧ d3 = d2) ∨ (x < 2 * k ∧ Cell a b k i (x + 1) u ∧ d3 = min d2 (u + 1)))
    (hv : v = min d3 ((k : Int) + 1)) : Cell a b k (i + 1) x v := by
  have h1 := ho.eq J (by omega) (by omega)
  have hc := Ed.cost_bd (a.getD i 0) (b.getD J 0)
  have hL : Ed.L a b (i + 1) (J + 1) = min (min (Ed.L a b i J + Ed.cost (a.getD i 0) (b.getD J 0)) (Ed.L a b (i + 1) J + 1)) (Ed.L a b i (J + 1) + 1) := by simp only [Ed.L]
  have b1 := Ed.L_low a b (i + 1) J
  have b2 := Ed.L_low a b i (J + 1)
  have b3 := Ed.L_bd a b i J
  have b4 := Ed.L_bd a b (i + 1) J
  have b5 := Ed.L_bd a b i (J + 1)
  have g1 := ho.lo
  have e2 : d2 = min (o + Ed.cost (a.getD i 0) (b.getD J 0)) (min (Ed.L a b (i + 1) J) ((k : Int) + 1) + 1) ∨ (d2 = o + Ed.cost (a.getD i 0) (b.getD J 0) ∧ (k : Int) + 1 ≤ Ed.L a b (i + 1) J) := by
    rcases hd2 with ⟨hx, h⟩ | ⟨p, hp, hcell, h⟩
    · exact Or.inr ⟨h, by omega⟩
    · have h2 := hcell.eq J (by omega) (by omega)
      exact Or.inl (by rw [h, h2])
  have e3 : d3 = min d2 (min (Ed.L a b i (J + 1)) ((k : Int) + 1) + 1) ∨ (d3 = d2 ∧ (k : Int) + 1 ≤ Ed.L a b i (J + 1)) := by
    rcases hd3 with ⟨hx, h⟩ | ⟨hx, hcell, h⟩
    · exact Or.inr ⟨h, by omega⟩
    · have h2 := hcell.eq (J + 1) (by omega) (by omega)
      exact Or.inl (by rw [h, h2])
  have hval : v = min (Ed.L a b (i + 1) (J + 1)) ((k : Int) + 1) := by
    rw [hL, hv]
    generalize Ed.L a b i J = A at *
    generalize Ed.L a b (i + 1) J = B at *
    generalize Ed.L a b i (J + 1) = C at *
    generalize Ed.cost (a.getD i 0) (b.getD J 0) = c at *
    clear hd2 hd3 ho hL
    rcases e2 with e2 | ⟨e2, f2⟩ <;> rcases e3 with e3 | ⟨e3, f3⟩ <;> omega
  have b6 := Ed.L_bd a b (i + 1) (J + 1)
  refine ⟨by omega, by omega, fun j hj hl2 => ?_, fun h => by omega⟩
  obtain rfl : j = J + 1 := by omega
  exact hval
/-- what a round of the band has to come to, told of the number that it begins with -/
def Comes (a b : List Int) (k i x : Nat) (d1 : Int) : Prop :=
  ∀ (l u d2 d3 v : Int), ((x = 0 ∧ d2 = d1) ∨ (∃ p, p + 1 = x ∧ Cell a b k (i + 1) p l ∧ d2 = min d1 (l + 1))) →
    ((x = 2 * k ∧ d3 = d2) ∨ (x < 2 * k ∧ Cell a b k i (x + 1) u ∧ d3 = min d2 (u + 1))) → v = min d3 ((k : Int) + 1) → Cell a b k (i + 1) x v
theorem comes_in (a b : List Int) (k i x J : Nat) (o : Int) (hJ : (J : Int) + 1 = (i : Int) + 1 + x - k) (hl : J + 1 ≤ b.length) (ho : Cell a b k i x o) : Comes a b k i x (o + Ed.cost (a.getD i 0) (b.getD J 0)) :=
  fun l u d2 d3 v h2 h3 hv => cell_in a b k i x J o l u d2 d3 v hJ hl ho h2 h3 hv
theorem comes_zero (a b : List Int) (k i x : Nat) (hx : (i : Int) + 1 + x = k) : Comes a b k i x ((k : Int) + 1) := by
  intro l u d2 d3 v h2 h3 hv
  have e2 : d2 = (k : Int) + 1 := by
    rcases h2 with ⟨_, h⟩ | ⟨p, hp, hc, h⟩
    · exact h
    · have := hc.far (by omega); omega
  rcases h3 with ⟨h, _⟩ | ⟨h, hc, h'⟩
  · omega
  · exact cell_zero a b k i x u v hx (fun _ => hc) (by rw [hv, h', e2])
/-- a row of numbers in memory, in a block of its own -/
structure RowIs (w : World) (g n : Nat) (f : Nat → Int) : Prop where
  c : ∀ j, j < n → w.cell? ⟨g, j, none⟩ = some (.int .i64 (f j))
  fr : ∀ j, w.frozen? ⟨g, j, none⟩ = false
def updI (f : Nat → Int) (i : Nat) (v : Int) : Nat → Int := fun j => if j = i then v else f j
theorem updI_at (f : Nat → Int) (i : Nat) (v : Int) : updI f i v i = v := by simp [updI]
theorem updI_ne (f : Nat → Int) (i j : Nat) (v : Int) (h : j ≠ i) : updI f i v j = f j := by simp [updI, h]
theorem setc_at {w : World} {b o : Nat} {u v : Value} (h : w.cell? ⟨b, o, none⟩ = some u) : (w.setCell ⟨b, o, none⟩ v).cell? ⟨b, o, none⟩ = some v := World.cell?_setCell_same _ _ _ h
theorem setc_ne {w : World} {b o p : Nat} {v : Value} (h : o ≠ p) : (w.setCell ⟨b, o, none⟩ v).cell? ⟨b, p, none⟩ = w.cell? ⟨b, p, none⟩ := World.cell?_setCell_other _ _ _ _ (by intro e; injection e; contradiction)
theorem RowIs.set {w : World} {g n : Nat} {f : Nat → Int} (h : RowIs w g n f) (i : Nat) (v : Int) (hi : i < n) : RowIs (w.setCell ⟨g, i, none⟩ (.int .i64 v)) g n (updI f i v) := by
  refine ⟨fun j hj => ?_, fun j => by rw [show (w.setCell ⟨g, i, none⟩ (.int .i64 v)).frozen? ⟨g, j, none⟩ = w.frozen? ⟨g, j, none⟩ by simp]; exact h.fr j⟩
  by_cases e : j = i
  · subst e; rw [updI_at]; exact setc_at (h.c j hj)
  · rw [updI_ne _ _ _ _ e, setc_ne (fun x => e x.symm)]; exact h.c j hj
theorem RowIs.lt {w : World} {g n : Nat} {f : Nat → Int} (h : RowIs w g n f) (hn : 0 < n) : g < w.heap.size := lt_of_cell (h.c 0 hn)
theorem RowIs.block {w w' : World} {g n : Nat} {f : Nat → Int} (h : RowIs w g n f) (hb : w'.heap[g]? = w.heap[g]?) : RowIs w' g n f :=
  ⟨fun j hj => by rw [World.cell?_of_block (w := w) hb]; exact h.c j hj, fun j => by rw [World.frozen?_of_block (w := w) hb]; exact h.fr j⟩
/-- apart from block b the world w' is as w was -/
structure But (b : Nat) (w w' : World) : Prop where
  os : w'.os = w.os
  tape : w'.tape = w.tape
  output : w'.output = w.output
  size : w.heap.size ≤ w'.heap.size
  block : ∀ k, k < w.heap.size → k ≠ b → w'.heap[k]? = w.heap[k]?
theorem But.refl (b : Nat) (w : World) : But b w w := ⟨rfl, rfl, rfl, Nat.le_refl _, fun _ _ _ => rfl⟩
theorem But.trans {b : Nat} {w w1 w2 : World} (h : But b w w1) (k : But b w1 w2) : But b w w2 :=
  ⟨k.os.trans h.os, k.tape.trans h.tape, k.output.trans h.output, Nat.le_trans h.size k.size, fun i hi hb => (k.block i (Nat.lt_of_lt_of_le hi h.size) hb).trans (h.block i hi hb)⟩
theorem But.setCell (w : World) (b o : Nat) (v : Value) : But b w (w.setCell ⟨b, o, none⟩ v) :=
  ⟨rfl, rfl, rfl, by simp [World.setCell], fun k _ hk => Below.heap_setCell _ _ _ _ hk⟩
theorem But.below {b B : Nat} {w w' : World} (h : But b w w') (hb : B ≤ b) (hB : B ≤ w.heap.size) : Below B w w' :=
  ⟨h.os, h.tape, h.output, h.size, fun k hk => h.block k (by omega) (by omega)⟩
theorem HoldsI.but {k : IntKind} {w w' : World} {a : Option Addr} {n : Nat} {zs : List Int} {g : Nat} (h : HoldsI k w a n zs) (hb : But g w w') (hne : ∀ b o, 0 < n → a = some ⟨b, o, none⟩ → b ≠ g) : HoldsI k w' a n zs := by
  refine ⟨h.1, fun h0 => ?_⟩
  obtain ⟨b, o, ha, hc⟩ := h.2 h0
  refine ⟨b, o, ha, fun i hi => ?_⟩
  rw [World.cell?_of_block (w := w) (hb.block b (lt_of_cell (hc i hi)) (hne b o h0 ha))]
  exact hc i hi
end Go.Proofs.Ytgghbgmeebihbaa
/- a table of distances in memory: rows in blocks of their own -/
namespace Go.Proofs.Ytgghbgmeebihbaa
open Go.RowKit
set_option linter.unusedVariables false
set_option maxRecDepth 20000
/-- a row of numbers that lies in a block of cells of int -/
def RowAt (w : World) (g n : Nat) (f : Nat → Int) : Prop := ∃ cs fr, w.heap[g]? = some (.cells cs 3 fr) ∧ ∀ j, j < n → cs[j]? = some (.int .i64 (f j))
theorem RowAt.cell {w : World} {g n : Nat} {f : Nat → Int} (h : RowAt w g n f) {j : Nat} (hj : j < n) : w.cell? ⟨g, j, none⟩ = some (.int .i64 (f j)) := by
  obtain ⟨cs, fr, h1, h2⟩ := h
  rw [Joins.cell_of_block h1]; exact h2 j hj
theorem RowAt.lt {w : World} {g n : Nat} {f : Nat → Int} (h : RowAt w g n f) : g < w.heap.size := by
  obtain ⟨cs, fr, h1, _⟩ := h
  exact (Array.getElem?_eq_some_iff.1 h1).1
theorem RowAt.block {w w' : World} {g n : Nat} {f : Nat → Int} (h : RowAt w g n f) (hb : w'.heap[g]? = w.heap[g]?) : RowAt w' g n f := by
  obtain ⟨cs, fr, h1, h2⟩ := h
  exact ⟨cs, fr, by rw [hb]; exact h1, h2⟩
theorem RowAt.below {w w' : World} {g n : Nat} {f : Nat → Int} (h : RowAt w g n f) (hb : Below w.heap.size w w') : RowAt w' g n f := h.block (hb.block g h.lt)
theorem RowAt.congr {w : World} {g n : Nat} {f f' : Nat → Int} (h : RowAt w g n f) (he : ∀ j, j < n → f j = f' j) : RowAt w g n f' := by
  obtain ⟨cs, fr, h1, h2⟩ := h
  exact ⟨cs, fr, h1, fun j hj => by rw [← he j hj]; exact h2 j hj⟩
theorem RowAt.of_own {w : World} {B n : Nat} {v : Value} {zs : List Int} (h : w.ownsRow B 3 1 v n (intsV zs)) (h0 : 0 < n) : ∃ g c, v = .slice (some ⟨g, 0, none⟩) n c ∧ B ≤ g ∧ RowAt w g n (fun j => zs.getD j 0) := by
  obtain ⟨h1, ⟨_, h2⟩ | ⟨g, cap, cur, rfl, hg, hh, h3, h4, h5, h6⟩⟩ := h
  · omega
  · refine ⟨g, cap, rfl, hg, cur, _, hh, fun j hj => ?_⟩
    rw [Nat.mul_one] at h6
    have h7 : zs.length = n := by rw [Nat.mul_one] at h1; simpa [intsV] using h1
    have h8 := intsV_at zs j (by omega)
    rw [← h6, List.getElem?_take, if_pos hj] at h8
    rw [← h8]; simp
/-- the rows' slices -/
def slV (m : Nat) (G C : Nat → Nat) (n : Nat) : List Value := (List.range n).map fun j => .slice (some ⟨G j, 0, none⟩) m (C j)
theorem slV_length (m : Nat) (G C : Nat → Nat) (n : Nat) : (slV m G C n).length = n := by simp [slV]
theorem slV_at (m : Nat) (G C : Nat → Nat) (n j : Nat) (h : j < n) : (slV m G C n)[j]? = some (.slice (some ⟨G j, 0, none⟩) m (C j)) := by simp [slV, h]
def updN (f : Nat → Nat) (i : Nat) (v : Nat) : Nat → Nat := fun j => if j = i then v else f j
theorem updN_at (f : Nat → Nat) (i v : Nat) : updN f i v i = v := by simp [updN]
theorem updN_ne (f : Nat → Nat) (i j v : Nat) (h : j ≠ i) : updN f i v j = f j := by simp [updN, h]
theorem slV_snoc (m : Nat) (G C : Nat → Nat) (n g c : Nat) : slV m (updN G n g) (updN C n c) (n + 1) = slV m G C n ++ [.slice (some ⟨g, 0, none⟩) m c] := by
  unfold slV
  rw [List.range_succ, List.map_append]
  congr 1
  · refine List.map_congr_left fun j hj => ?_
    have := List.mem_range.1 hj
    rw [updN_ne _ _ _ _ (by omega), updN_ne _ _ _ _ (by omega)]
  · simp [updN_at]
theorem one_slice (a : Option Addr) (n c : Nat) : ∀ u ∈ [Value.slice a n c], u.oneCell' = true := by simp [Value.oneCell']
/-- where the list of slices lies: no row lies there -/
theorem own_at {w : World} {B n : Nat} {v : Value} {xs : List Value} (h : w.ownsRow B 22 1 v n xs) (h0 : 0 < n) : ∃ T c, v = .slice (some ⟨T, 0, none⟩) n c ∧ ∀ j u, xs[j]? = some u → w.cell? ⟨T, j, none⟩ = some u := by
  obtain ⟨h1, ⟨_, h2⟩ | ⟨g, cap, cur, rfl, hg, hh, h3, h4, h5, h6⟩⟩ := h
  · omega
  · refine ⟨g, cap, rfl, fun j u hj => ?_⟩
    rw [Joins.cell_of_block hh]
    rw [← h6] at hj
    rw [List.getElem?_take] at hj
    split at hj
    · simpa using hj
    · cases hj
theorem own_apart {w : World} {B n g m : Nat} {v : Value} {xs : List Value} {f : Nat → Int} (h : w.ownsRow B 22 1 v n xs) (hr : RowAt w g m f) : some g ≠ v.ownBlock := by
  obtain ⟨cs, fr, hr1, _⟩ := hr
  obtain ⟨h1, ⟨rfl, h2⟩ | ⟨T, cap, cur, rfl, hg, hh, _⟩⟩ := h
  · simp [Value.ownBlock]
  · intro e
    simp only [Value.ownBlock, Option.some.injEq] at e
    subst e
    rw [hh] at hr1
    injection hr1 with hr1
    injection hr1 with _ e2 _
    exact absurd e2 (by decide)
theorem RowAt.grown {w w' : World} {B n g m : Nat} {v : Value} {xs : List Value} {f : Nat → Int} (hr : RowAt w g m f) (h : w.ownsRow B 22 1 v n xs) (hg : w.grownBy w' v.ownBlock) : RowAt w' g m f :=
  hr.block (hg.block g hr.lt (own_apart h hr))
/-- the table of the first n beginnings of a, as a slice -/
def TableIs (w : World) (a : Option Addr) (n m : Nat) (ra rb : List Int) : Prop :=
  ∃ T, a = some ⟨T, 0, none⟩ ∧ ∀ i, i < n → ∃ g c, w.cell? ⟨T, i, none⟩ = some (.slice (some ⟨g, 0, none⟩) m c) ∧ ∀ j, j < m → w.cell? ⟨g, j, none⟩ = some (.int .i64 (Ed.L ra rb i j))
theorem TableIs.below {w w' : World} {a : Option Addr} {n m : Nat} {ra rb : List Int} (h : TableIs w a n m ra rb) (hb : Below w.heap.size w w') : TableIs w' a n m ra rb := by
  obtain ⟨T, ha, h1⟩ := h
  refine ⟨T, ha, fun i hi => ?_⟩
  obtain ⟨g, c, h2, h3⟩ := h1 i hi
  exact ⟨g, c, by rw [hb.cell (p := ⟨T, i, none⟩) (lt_of_cell h2)]; exact h2, fun j hj => by rw [hb.cell (p := ⟨g, j, none⟩) (lt_of_cell (h3 j hj))]; exact h3 j hj⟩
theorem slices_info : (Try.prog.info? 22).map (fun i => (i.zero, i.size, i.bytes)) = some (some (.slice none 0 0), 1, 24) := by kernel_rfl
end Go.Proofs.Ytgghbgmeebihbaa
/- contract of the document's table of distances -/
namespace Go.Proofs.Ytgghbgmeebihbaa
open Go.RowKit
set_option linter.unusedVariables false
set_option maxRecDepth 20000
def rowL (ra rb : List Int) (i k : Nat) : List Int := (List.range k).map fun j => Ed.L ra rb i j
theorem rowL_length (ra rb : List Int) (i k : Nat) : (rowL ra rb i k).length = k := by simp [rowL]
theorem rowL_at (ra rb : List Int) (i k j : Nat) (h : j < k) : (rowL ra rb i k).getD j 0 = Ed.L ra rb i j := by simp [rowL, List.getD_eq_getElem?_getD, h]
theorem rowL_snoc (ra rb : List Int) (i k : Nat) : intsV (rowL ra rb i (k + 1)) = intsV (rowL ra rb i k) ++ [.int .i64 (Ed.L ra rb i k)] := by
  simp [rowL, intsV, List.range_succ]
/-- what is done of the table -/
structure Tbl (w : World) (B n m : Nat) (v : Value) (ra rb : List Int) (G C : Nat → Nat) : Prop where
  own : w.ownsRow B 22 1 v n (slV m G C n)
  rows : ∀ j, j < n → RowAt w (G j) m (fun k => Ed.L ra rb j k)
theorem Tbl.below {w w' : World} {B n m : Nat} {v : Value} {ra rb : List Int} {G C : Nat → Nat} (h : Tbl w B n m v ra rb G C) (hb : Below w.heap.size w w') : Tbl w' B n m v ra rb G C :=
  ⟨owns_below h.own hb, fun j hj => (h.rows j hj).below hb⟩
theorem Tbl.at {w : World} {B n m : Nat} {v : Value} {ra rb : List Int} {G C : Nat → Nat} (h : Tbl w B n m v ra rb G C) (h0 : 0 < n) : ∃ T c, v = .slice (some ⟨T, 0, none⟩) n c ∧ ∀ j, j < n → w.cell? ⟨T, j, none⟩ = some (.slice (some ⟨G j, 0, none⟩) m (C j)) := by
  obtain ⟨T, c, hv, hc⟩ := own_at h.own h0
  exact ⟨T, c, hv, fun j hj => hc j _ (slV_at m G C n j hj)⟩
end Go.Proofs.Ytgghbgmeebihbaa
/- contracts of the document's Runes and Rows -/
namespace Go.Proofs.Ytgghbgmeebihbaa
open Go.RowKit
set_option linter.unusedVariables false
set_option maxRecDepth 20000
end Go.Proofs.Ytgghbgmeebihbaa
/- contract of the document's distance of texts; the laws of texts -/
namespace Go.Proofs.Ytgghbgmeebihbaa
open Go.RowKit
set_option linter.unusedVariables false
set_option maxRecDepth 20000
end Go.Proofs.Ytgghbgmeebihbaa
/- a list of texts that was answered -/
namespace Go.Proofs.Ytgghbgmeebihbaa
open Go.RowKit
set_option linter.unusedVariables false
set_option maxRecDepth 20000
theorem str_info : (Try.prog.info? 9).map (fun i => (i.zero, i.size, i.bytes)) = some (some (.string ⟨#[]⟩), 1, 16) := by kernel_rfl
theorem getD_memT' (zs : List Tx) (j : Nat) (h : j < zs.length) : zs.getD j ByteArray.empty ∈ zs := by
  rw [List.getD_eq_getElem?_getD, List.getElem?_eq_getElem h]; simp
/-- a list of texts that was answered, the call's own -/
def RetO (w : World) (ys : List Tx) (e : Ending) (w' : World) : Prop := ∃ a c, e = .returned (.slice a ys.length c) ∧ w'.ownsRow w.heap.size 9 1 (.slice a ys.length c) ys.length (strsV ys) ∧ Below w.heap.size w w'
theorem ret_own {w w' : World} {a : Option Addr} {c n : Nat} {ys zs : List Tx} (h : ys = zs) (hn : ys.length = n) (hh : w'.ownsRow w.heap.size 9 1 (.slice a n c) n (strsV ys)) (hb : Below w.heap.size w w') (v : Value) (hv : v = .slice a n c) : RetO w zs (.returned v) w' := by
  subst h hv hn; exact ⟨a, c, rfl, hh, hb⟩
end Go.Proofs.Ytgghbgmeebihbaa
/- the document's Sort, All, Top (items) -/
namespace Go.Proofs.Ytgghbgmeebihbaa
open Go.RowKit
set_option linter.unusedVariables false
set_option maxRecDepth 20000
/-- near words, as they stand -/
def nearL (ws : List Tx) (s : Tx) (k : Int) : List KV := ws.filterMap fun t => if 0 ≤ distS t s ∧ distS t s ≤ k then some (distS t s, t) else none
def allK (ws : List Tx) (s : Tx) (k : Int) : List KV := sortK (nearL ws s k)
def topK (ws : List Tx) (s : Tx) (k n : Int) : List KV := if mayP s k n then (allK ws s k).take n.toNat else []
theorem nearL_app (a b : List Tx) (s : Tx) (k : Int) : nearL (a ++ b) s k = nearL a s k ++ nearL b s k := by simp [nearL]
theorem nearL_yes (a : List Tx) (t s : Tx) (k : Int) (h : 0 ≤ distS t s ∧ distS t s ≤ k) : nearL (a ++ [t]) s k = nearL a s k ++ [(distS t s, t)] := by
  rw [nearL_app]; simp [nearL, h]
theorem nearL_no (a : List Tx) (t s : Tx) (k : Int) (h : ¬ (0 ≤ distS t s ∧ distS t s ≤ k)) : nearL (a ++ [t]) s k = nearL a s k := by
  rw [nearL_app]; simp only [nearL, List.filterMap_cons, List.filterMap_nil, if_neg h, List.append_nil]
theorem nearL_len (ws : List Tx) (s : Tx) (k : Int) : (nearL ws s k).length ≤ ws.length := List.length_filterMap_le _ _
theorem nearL_mem {ws : List Tx} {s : Tx} {k : Int} {x : KV} : x ∈ nearL ws s k ↔ x.2 ∈ ws ∧ x.1 = distS x.2 s ∧ 0 ≤ distS x.2 s ∧ distS x.2 s ≤ k := by
  unfold nearL
  rw [List.mem_filterMap]
  constructor
  · rintro ⟨t, ht, h⟩
    split at h
    · injection h with h; subst h; exact ⟨ht, rfl, by assumption⟩
    · cases h
  · rintro ⟨h1, h2, h3⟩
    exact ⟨x.2, h1, by rw [if_pos h3, ← h2]⟩
theorem allK_mem {ws : List Tx} {s : Tx} {k : Int} {x : KV} : x ∈ allK ws s k ↔ x.2 ∈ ws ∧ x.1 = distS x.2 s ∧ 0 ≤ distS x.2 s ∧ distS x.2 s ≤ k := sortK_mem.trans nearL_mem
theorem allK_len (ws : List Tx) (s : Tx) (k : Int) : (allK ws s k).length ≤ ws.length := by unfold allK; rw [sortK_length]; exact nearL_len ws s k
theorem owns_take {w : World} {B : Nat} {e : TypeId} {a : Option Addr} {n c : Nat} {ys : List KV} (h : w.ownsRow B e 2 (.slice a n c) n (keysV ys)) (k : Nat) (hk : k ≤ n) : w.ownsRow B e 2 (.slice a k c) k (keysV (ys.take k)) := by
  have hl : ys.length = n := by have := h.1; rw [keysV_len] at this; omega
  refine ⟨by rw [keysV_len]; simp; omega, ?_⟩
  rcases h.2 with ⟨h1, h2⟩ | ⟨g, cap, cur, hv, h1, h2, h3, h4, h5, h6⟩
  · cases h1
    obtain rfl : k = 0 := by omega
    exact Or.inl ⟨rfl, rfl⟩
  · cases hv
    refine Or.inr ⟨g, c, cur, rfl, h1, h2, by omega, h4, h5, ?_⟩
    have e1 : keysV ys = keysV (ys.take k) ++ keysV (ys.drop k) := by rw [← keysV_app, List.take_append_drop]
    have e2 : (cur.toList.take (n * 2)).take (k * 2) = cur.toList.take (k * 2) := by rw [List.take_take, Nat.min_eq_left (by omega)]
    rw [← e2, h6, e1, List.take_left' (by rw [keysV_len]; simp; omega)]
theorem retI_take {w w' : World} {a : Option Addr} {c n k : Nat} {ys zs : List KV} (h : ys.take k = zs) (hk : k ≤ n) (hn : ys.length = n) (hh : w'.ownsRow w.heap.size 61 2 (.slice a n c) n (keysV ys)) (hb : Below w.heap.size w w') (v : Value) (hv : v = .slice a k c) : RetI w zs (.returned v) w' :=
  retI_own h (by simp; omega) (owns_take hh k hk) hb v hv
theorem take_min {α : Type} (l : List α) (m : Nat) : l.take (min (l.length : Int) (m : Int)).toNat = l.take (m : Int).toNat := by
  by_cases h : m ≤ l.length
  · rw [show (min (l.length : Int) (m : Int)).toNat = m by omega]; rfl
  · rw [show (min (l.length : Int) (m : Int)).toNat = l.length by omega, List.take_of_length_le (Nat.le_refl _), List.take_of_length_le (by simp; omega)]
end Go.Proofs.Ytgghbgmeebihbaa
/- contract of band.advance -/
namespace Go.Proofs.Ytgghbgmeebihbaa
open Go.RowKit
set_option linter.unusedVariables false
set_option maxRecDepth 20000
set_option maxHeartbeats 6400000 in
theorem badvance_any (ra rb : List Int) (g k i cap m cb : Nat) (f : Nat → Int) (b : Option Addr) (w : World) (hrow : RowIs w g (2 * k + 1) f) (hcell : ∀ x, x < 2 * k + 1 → Cell ra rb k i x (f x))
    (hb : HoldsI .i32 w b m rb) (hne : ∀ b' o, 0 < m → b = some ⟨b', o, none⟩ → b' ≠ g) (hk : k ≤ 1048576) (hm : m ≤ 1048576) (hi : i ≤ 1048576) :
    Calls Try.prog 86 #[.slice (some ⟨g, 0, none⟩) (2 * k + 1) cap, .slice b m cb, .int .i64 ((i : Int) + 1 - k), .int .i32 (ra.getD i 0), .int .i64 ((k : Int) + 1)] w fun e w' => e = .returned (.tuple #[]) ∧
      (∃ f', RowIs w' g (2 * k + 1) f' ∧ ∀ x, x < 2 * k + 1 → Cell ra rb k (i + 1) x (f' x)) ∧ But g w w' := by
  have hlb := hb.len
  obtain ⟨r, hr⟩ : ∃ r, ra.getD i 0 = r := ⟨_, rfl⟩
  obtain ⟨st, hst⟩ : ∃ st, (i : Int) + 1 - k = st := ⟨_, rfl⟩
  obtain ⟨far, hfar⟩ : ∃ far, (k : Int) + 1 = far := ⟨_, rfl⟩
  obtain ⟨n, hn⟩ : ∃ n, 2 * k + 1 = n := ⟨_, rfl⟩
  rw [hn] at hrow hcell
  rw [hr, hst, hfar, hn]
  have R0 := Lib.hid hrow; have C0 := Lib.hid hcell; have HB := Lib.hid hb; have NE := Lib.hid hne; have LB := Lib.hid hlb
  have HR := Lib.hid hr; have HF := Lib.hid hfar; have HNN := Lib.hid hn; have HST := Lib.hid hst
  have hfb : 0 ≤ far ∧ far ≤ 1048577 := by omega
  have hsb : -1048576 ≤ st ∧ st ≤ 1048577 := by omega
  have hnb : n ≤ 2097153 := by omega
  clear hrow hcell hb hne hlb hr hst hfar hn
  go_enter Try.func86, Try.ntmps86
  go_wp2_with fail
  go_loopw [15] (fun xv wr => ∃ (x : Nat) (f' : Nat → Int), x ≤ n ∧ xv = .int .i64 x ∧ Hid (RowIs wr g n f') ∧ Hid (∀ y, y < x → Cell ra rb k (i + 1) y (f' y)) ∧ Hid (∀ y, x ≤ y → f' y = f y) ∧ Hid (But g w wr)) (fun xv _ => n - (intOf xv).toNat)
  case atStart => exact ⟨0, f, by omega, rfl, R0, Lib.hid (fun y h => by omega), Lib.hid (fun y _ => rfl), Lib.hid (But.refl _ _)⟩
  case round =>
    obtain ⟨x, f', hx, rfl, hR, hC, hO, hB⟩ := hrel
    by_cases hlt : x < n
    · have hfx := hR.out.fr x
      have hcx := hR.out.c x hlt
      have hox := hO.out x (Nat.le_refl _)
      have hCx := C0.out x hlt
      rw [hox] at hcx
      obtain ⟨o, ho⟩ : ∃ o, f x = o := ⟨_, rfl⟩
      rw [ho] at hcx hCx
      have hob : 0 ≤ o ∧ o ≤ 1048577 := by have h1 := hCx.lo; have h2 := hCx.hi; omega
      have HCX := Lib.hid hCx
      obtain ⟨j, hj⟩ : ∃ j, st + (x : Int) = j := ⟨_, rfl⟩
      have hjw : IntKind.i64.wrap (st + (x : Int)) = j := by rw [IntWalk.i64_in _ (by omega)]; exact hj
      have hjv : j = (i : Int) + 1 + x - k := by have := HST.out; omega
      have HJV := Lib.hid hjv
      have done : ∀ v, Cell ra rb k (i + 1) x v → RowIs (wr.setCell ⟨g, x, none⟩ (.int .i64 v)) g n (updI f' x v) ∧ (∀ y, y < x + 1 → Cell ra rb k (i + 1) y (updI f' x v y)) ∧ (∀ y, x + 1 ≤ y → updI f' x v y = f y) ∧ But g w (wr.setCell ⟨g, x, none⟩ (.int .i64 v)) := by
        intro v hv
        refine ⟨hR.out.set x v hlt, fun y hy => ?_, fun y hy => by rw [updI_ne _ _ _ _ (by omega)]; exact hO.out y (by omega), hB.out.trans (But.setCell _ _ _ _)⟩
        by_cases e : y = x
        · subst e; rw [updI_at]; exact hv
        · rw [updI_ne _ _ _ _ e]; exact hC.out y (by omega)
      have D := Lib.hid done
      clear hox ho hj hjv hCx done
      by_cases hj0 : j < 0 ∨ (m : Int) < j
      · have hv : Cell ra rb k (i + 1) x far := by
          rw [← HF.out]
          rcases hj0 with h | h
          · exact cell_out_low _ _ _ _ _ (by have := HJV.out; omega)
          · exact cell_out_high _ _ _ _ _ (by rw [LB.out]; have := HJV.out; omega)
        obtain ⟨z1, z2, z3, z4⟩ := D.out far hv
        have Z1 := Lib.hid z1; have Z2 := Lib.hid z2; have Z3 := Lib.hid z3; have Z4 := Lib.hid z4
        clear z1 z2 z3 z4 hv
        rcases hj0 with h | h
        · go_wp2_with fail
          go_roundw
          case rel => exact ⟨x + 1, _, by omega, by go_num, Z1, Z2, Z3, Z4⟩
          case measure => simp [intOf]; omega
        · have h0 : 0 ≤ j := by omega
          go_wp2_with fail
          go_roundw
          case rel => exact ⟨x + 1, _, by omega, by go_num, Z1, Z2, Z3, Z4⟩
          case measure => simp [intOf]; omega
      · have h0 : 0 ≤ j := by omega
        have h1 : j ≤ (m : Int) := by omega
        clear hj0
        have hD1 : ∃ D1, 0 ≤ D1 ∧ D1 ≤ 1048578 ∧ Comes ra rb k i x D1 ∧ ((j = 0 ∧ D1 = far) ∨ (∃ J : Nat, j = (J : Int) + 1 ∧ ((rb.getD J 0 = r ∧ D1 = o) ∨ (rb.getD J 0 ≠ r ∧ D1 = o + 1)))) := by
          by_cases hjz : j = 0
          · exact ⟨far, by omega, by omega, by rw [← HF.out]; exact comes_zero ra rb k i x (by have := HJV.out; omega), Or.inl ⟨hjz, rfl⟩⟩
          · have e := comes_in ra rb k i x (j - 1).toNat o (by have := HJV.out; omega) (by rw [LB.out]; omega) HCX.out
            by_cases hc : rb.getD (j - 1).toNat 0 = r
            · rw [HR.out, hc, cost_eq, Int.add_zero] at e
              exact ⟨o, by omega, by omega, e, Or.inr ⟨(j - 1).toNat, by omega, Or.inl ⟨hc, rfl⟩⟩⟩
            · rw [HR.out, cost_ne (fun h => hc h.symm)] at e
              exact ⟨o + 1, by omega, by omega, e, Or.inr ⟨(j - 1).toNat, by omega, Or.inr ⟨hc, rfl⟩⟩⟩
        obtain ⟨D1, hd0, hd1, hcomes, hD⟩ := hD1
        have CM := Lib.hid hcomes
        have HD := Lib.hid hD
        clear hcomes hD
        go_upto_if 35 with fail
        go_cut [12] from 16 to 78 (fun d wc => d = .int .i64 D1 ∧ wr = wc)
        case first =>
          rcases HD.out with ⟨hj, hd⟩ | ⟨J, hj, hc⟩
          · subst hj
            go_wp2_with fail
            go_meet
            exact ⟨by rw [hd], rfl⟩
          · obtain ⟨bb, bo, rfl, hbc⟩ := (HB.out.but hB.out NE.out).2 (by omega)
            have e1 := hbc J (by omega)
            obtain ⟨c, hcv⟩ : ∃ c, rb.getD J 0 = c := ⟨_, rfl⟩
            rw [hcv] at e1 hc
            have hjw2 : IntKind.i64.wrap (j - 1) = (J : Int) := by rw [IntWalk.i64_in _ (by omega)]; omega
            have x1 : (0 : Int) < j := by omega
            have x2 : (0 : Int) ≤ (J : Int) := by omega
            have x3 : (J : Int) < (m : Int) := by omega
            have HJ := Lib.hid hj
            clear hbc hcv hj
            rcases hc with ⟨hc, hd⟩ | ⟨hc, hd⟩
            · have x4 : (c != r) = false := by simpa using hc
              clear hc
              subst hd
              go_wp2_with fail
              go_meet
              exact ⟨rfl, rfl⟩
            · have x4 : (c != r) = true := by simpa using hc
              clear hc
              go_wp2_with fail
              go_meet
              exact ⟨by rw [hd], rfl⟩
        case rest =>
          obtain ⟨rfl, rfl⟩ := hcut
          clear HD
          have hD2 : ∃ D2 l, 0 ≤ D2 ∧ D2 ≤ 1048578 ∧ 0 ≤ l ∧ l ≤ 1048577 ∧ ((x = 0 ∧ D2 = D1) ∨ (∃ p, p + 1 = x ∧ Cell ra rb k (i + 1) p l ∧ D2 = min D1 (l + 1))) ∧ (∀ p, p + 1 = x → f' p = l) := by
            rcases Nat.eq_zero_or_pos x with hx0 | hx0
            · exact ⟨D1, 0, by omega, by omega, by omega, by omega, Or.inl ⟨hx0, rfl⟩, fun p hp => by omega⟩
            · have e := hC.out (x - 1) (by omega)
              have b1 := e.lo; have b2 := e.hi
              exact ⟨min D1 (f' (x - 1) + 1), f' (x - 1), by omega, by omega, b1, by omega, Or.inr ⟨x - 1, by omega, e, rfl⟩, fun p hp => by rw [show p = x - 1 by omega]⟩
          obtain ⟨D2, l, he0, he1, hl0, hl1, hD2, hpl⟩ := hD2
          have HD2 := Lib.hid hD2
          have HPL := Lib.hid hpl
          clear hD2 hpl
          go_upto_if 50 with fail
          go_cut [12] from 16 to 78 (fun d wc => d = .int .i64 D2 ∧ wr = wc)
          case first =>
            rcases HD2.out with ⟨hx0, hd⟩ | ⟨p, hp, _, hd⟩
            · subst hx0 hd
              go_wp2_with fail
              go_meet
              exact ⟨rfl, rfl⟩
            · have e1 := hR.out.c p (by omega)
              rw [HPL.out p hp] at e1
              have hw2 : IntKind.i64.wrap ((x : Int) - 1) = (p : Int) := by rw [IntWalk.i64_in _ (by omega)]; omega
              have x1 : (0 : Int) < (x : Int) := by omega
              have x2 : (0 : Int) ≤ (p : Int) := by omega
              have x3 : (p : Int) < (n : Int) := by omega
              have x5 : p < n := by omega
              have hw3 : IntKind.i64.wrap (l + 1) = l + 1 := IntWalk.i64_in _ (by omega)
              have HDD := Lib.hid hd
              clear hd
              go_wp2_with fail
              all_goals go_meet
              all_goals exact ⟨by congr 1; have := HDD.out; omega, rfl⟩
          case rest =>
            obtain ⟨rfl, rfl⟩ := hcut
            have hD3 : ∃ D3 u, 0 ≤ D3 ∧ D3 ≤ 1048578 ∧ 0 ≤ u ∧ u ≤ 1048577 ∧ ((x = 2 * k ∧ D3 = D2) ∨ (x < 2 * k ∧ Cell ra rb k i (x + 1) u ∧ D3 = min D2 (u + 1))) ∧ (x + 1 < n → f' (x + 1) = u) := by
              by_cases hxn : x + 1 < n
              · have e := C0.out (x + 1) hxn
                have b1 := e.lo; have b2 := e.hi
                exact ⟨min D2 (f (x + 1) + 1), f (x + 1), by omega, by omega, b1, by omega, Or.inr ⟨by have := HNN.out; omega, e, rfl⟩, fun _ => hO.out (x + 1) (by omega)⟩
              · exact ⟨D2, 0, by omega, by omega, by omega, by omega, Or.inl ⟨by have := HNN.out; omega, rfl⟩, fun h => absurd h hxn⟩
            obtain ⟨D3, u, hf0, hf1, hu0, hu1, hD3, hpu⟩ := hD3
            have HD3 := Lib.hid hD3
            have HPU := Lib.hid hpu
            clear hD3 hpu
            go_upto_if 63 with fail
            go_cut [12] from 16 to 78 (fun d wc => d = .int .i64 D3 ∧ wr = wc)
            case first =>
              by_cases hxn : x + 1 < n
              · have hd : D3 = min D2 (u + 1) := by
                  rcases HD3.out with ⟨h, _⟩ | ⟨_, _, h⟩
                  · have := HNN.out; omega
                  · exact h
                have e1 := hR.out.c (x + 1) hxn
                rw [HPU.out hxn] at e1
                have x3 : (x : Int) + 1 < (n : Int) := by omega
                have hw2 : IntKind.i64.wrap ((x : Int) + 1) = (x : Int) + 1 := IntWalk.i64_in _ (by omega)
                have hw3 : IntKind.i64.wrap (u + 1) = u + 1 := IntWalk.i64_in _ (by omega)
                have HDD := Lib.hid hd
                clear hd
                go_wp2_with fail
                all_goals go_meet
                all_goals exact ⟨by congr 1; have := HDD.out; omega, rfl⟩
              · have hd : D3 = D2 := by
                  rcases HD3.out with ⟨_, h⟩ | ⟨h, _⟩
                  · exact h
                  · have := HNN.out; omega
                subst hd
                have x3 : ¬ (x : Int) + 1 < (n : Int) := by omega
                have hw2 : IntKind.i64.wrap ((x : Int) + 1) = (x : Int) + 1 := IntWalk.i64_in _ (by omega)
                go_wp2_with fail
                go_meet
                exact ⟨rfl, rfl⟩
            case rest =>
              obtain ⟨rfl, rfl⟩ := hcut
              obtain ⟨z1, z2, z3, z4⟩ := D.out (min D3 far) (CM.out l u D2 D3 (min D3 far) HD2.out HD3.out (by rw [HF.out]))
              obtain ⟨V, hV⟩ : ∃ V, min D3 far = V := ⟨_, rfl⟩
              rw [hV] at z1 z2 z3 z4
              have Z1 := Lib.hid z1; have Z2 := Lib.hid z2; have Z3 := Lib.hid z3; have Z4 := Lib.hid z4
              clear z1 z2 z3 z4 HD2 HD3 HPL HPU D CM
              have hmin : (D3 < far ∧ V = D3) ∨ (D3 = far ∧ V = D3) ∨ (far < D3 ∧ V = far) := by omega
              rcases hmin with ⟨h3, h4⟩ | ⟨h3, h4⟩ | ⟨h3, h4⟩
              · subst h4
                go_wp2_with fail
                go_roundw
                case rel => exact ⟨x + 1, _, by omega, by go_num, Z1, Z2, Z3, Z4⟩
                case measure => simp [intOf]; omega
              · subst h4 h3
                go_wp2_with fail
                go_roundw
                case rel => exact ⟨x + 1, _, by omega, by go_num, Z1, Z2, Z3, Z4⟩
                case measure => simp [intOf]; omega
              · subst h4
                go_wp2_with fail
                go_roundw
                case rel => exact ⟨x + 1, _, by omega, by go_num, Z1, Z2, Z3, Z4⟩
                case measure => simp [intOf]; omega
    · obtain rfl : x = n := by omega
      go_wp2_with fail
      go_end0
      exact ⟨rfl, ⟨f', hR.out, fun y hy => hC.out y (by have := HNN.out; omega)⟩, hB.out⟩
end Go.Proofs.Ytgghbgmeebihbaa
/- contract of band.banded -/
namespace Go.Proofs.Ytgghbgmeebihbaa
open Go.RowKit
set_option linter.unusedVariables false
set_option maxRecDepth 20000
theorem RowIs.of_own {w : World} {B g n cap : Nat} {e : TypeId} {zs : List Int} (h : w.ownsRow B e 1 (.slice (some ⟨g, 0, none⟩) n cap) n (intsV zs)) (hz : zs.length = n) : RowIs w g n (fun j => zs.getD j 0) :=
  ⟨fun j hj => by have := h.cellAt j (by omega); rw [intsV_at _ j (by omega)] at this; exact this, fun j => h.frozenAt j⟩
set_option maxHeartbeats 6400000 in
theorem banded_any (ra rb : List Int) (a b : Option Addr) (la lb ca cb k : Nat) (w : World) (ha : HoldsI .i32 w a la ra) (hb : HoldsI .i32 w b lb rb) (hla : la ≤ 1048576) (hlb : lb ≤ 1048576) (hk : k ≤ 1048576)
    (h1 : (la : Int) - lb ≤ k) (h2 : (lb : Int) - la ≤ k) :
    Calls Try.prog 73 #[.slice a la ca, .slice b lb cb, .int .i64 k] w fun e w' => e = .returned (.int .i64 (min (Ed.L ra rb la lb) ((k : Int) + 1))) ∧ Below w.heap.size w w' := by
  obtain ⟨i0, hi, hz0, hz1, hz2⟩ := info_parts int_info
  have HA := Lib.hid ha; have HB := Lib.hid hb
  have LA := Lib.hid ha.len; have LB := Lib.hid hb.len
  obtain ⟨n, hn⟩ : ∃ n, 2 * k + 1 = n := ⟨_, rfl⟩
  obtain ⟨far, hfar⟩ : ∃ far, (k : Int) + 1 = far := ⟨_, rfl⟩
  have hw1 : IntKind.i64.wrap ((k : Int) + 1) = far := by rw [IntWalk.i64_in _ (by omega)]; exact hfar
  have hw2 : IntKind.i64.wrap (2 * (k : Int)) = 2 * (k : Int) := IntWalk.i64_in _ (by omega)
  have hw3 : IntKind.i64.wrap (2 * (k : Int) + 1) = (n : Int) := by rw [IntWalk.i64_in _ (by omega)]; omega
  have HN := Lib.hid hn; have HF := Lib.hid hfar
  have hnb : n ≤ 2097153 := by omega
  have hfb : 0 ≤ far ∧ far ≤ 1048577 := by omega
  clear ha hb hn hfar
  go_enter Try.func73, Try.ntmps73
  go_wp2_with (at_make; refine wpList_make_full _ rfl _ _ 22 rfl w.heap.size 3 i0 (.int .i64 0) 1 Try.underlying22 hi hz0 hz1 _ _ _ _ n rfl rfl (by omega) (by omega) (by rw [hz2]; omega) (by unfold maxLen; omega) (Nat.le_refl _) ?_; intro w0 hown0 hgrow0)
  have hB0 := below_grown hgrow0 (by intro k hk; cases hk)
  have ho : w0.ownsRow w.heap.size 3 1 (.slice (some ⟨w.heap.size, 0, none⟩) n n) n (intsV (upTo n 0)) := by
    rw [upTo_zero, ← toList_madeCells_one]; rw [Nat.mul_one] at hown0; exact hown0
  have R0 := Lib.hid (RowIs.of_own ho (upTo_length _ _)); have B0 := Lib.hid hB0
  clear hown0 hgrow0 ho hB0
  obtain ⟨g, hg⟩ : ∃ g, w.heap.size = g := ⟨_, rfl⟩
  have HG := Lib.hid hg
  rw [hg] at R0
  simp only [hg]
  clear hg
  go_loopw [20] (fun xv wr => ∃ (x : Nat) (f' : Nat → Int), x ≤ n ∧ xv = .int .i64 x ∧ Hid (RowIs wr g n f') ∧ Hid (∀ y, y < x → Cell ra rb k 0 y (f' y)) ∧ Hid (Below w.heap.size w wr)) (fun xv _ => n - (intOf xv).toNat)
  case atStart => exact ⟨0, _, by omega, rfl, R0, Lib.hid (fun y h => by omega), B0⟩
  case round =>
    obtain ⟨x, f', hx, rfl, hR, hC, hB⟩ := hrel
    by_cases hlt : x < n
    · have hc := hR.out.c x hlt
      have hf := hR.out.fr x
      have hR1 := Lib.hid (hR.out.set x far hlt)
      have hcs := cell_start ra rb k x (by have := HN.out; omega)
      have x1 : (0 : Int) ≤ (x : Int) := by omega
      have x2 : (x : Int) < (n : Int) := by omega
      have hf1 := hR1.out.fr x
      have hc1 := hR1.out.c x hlt
      have hgl : w.heap.size ≤ g := Nat.le_of_eq HG.out
      by_cases hxk : k ≤ x
      · rw [if_pos hxk] at hcs
        obtain ⟨V, hV⟩ : ∃ V, (x : Int) - k = V := ⟨_, rfl⟩
        rw [hV] at hcs
        have hVw : IntKind.i64.wrap ((x : Int) - k) = V := by rw [IntWalk.i64_in _ (by omega)]; exact hV
        have hR2 := Lib.hid (hR1.out.set x V hlt)
        have HCS := Lib.hid hcs
        clear hV hcs
        go_wp2_with fail
        go_roundw
        case rel =>
          refine ⟨x + 1, _, by omega, by go_num, hR2, Lib.hid (fun y hy => ?_), Lib.hid ((hB.out.setCell hgl _).setCell hgl _)⟩
          by_cases e : y = x
          · subst e; rw [updI_at]; exact HCS.out
          · rw [updI_ne _ _ _ _ e, updI_ne _ _ _ _ e]; exact hC.out y (by omega)
        case measure => simp [intOf]; omega
      · rw [if_neg hxk] at hcs
        have HCS := Lib.hid hcs
        clear hcs
        go_wp2_with fail
        go_roundw
        case rel =>
          refine ⟨x + 1, _, by omega, by go_num, hR1, Lib.hid (fun y hy => ?_), Lib.hid (hB.out.setCell hgl _)⟩
          by_cases e : y = x
          · subst e; rw [updI_at, ← HF.out]; exact HCS.out
          · rw [updI_ne _ _ _ _ e]; exact hC.out y (by omega)
        case measure => simp [intOf]; omega
    · obtain rfl : x = n := by omega
      have C1 := Lib.hid (show ∀ y, y < x → Cell ra rb k 0 y (f' y) from hC.out)
      clear hC
      go_wp2_with fail
      go_loopw [39] (fun iv wr2 => ∃ (i : Nat) (f2 : Nat → Int), i ≤ la ∧ iv = .int .i64 i ∧ Hid (RowIs wr2 g x f2) ∧ Hid (∀ y, y < x → Cell ra rb k i y (f2 y)) ∧ Hid (Below w.heap.size w wr2)) (fun iv _ => la - (intOf iv).toNat)
      case atStart => exact ⟨0, f', by omega, rfl, hR, C1, hB⟩
      case round =>
        obtain ⟨i, f2, hi2, rfl, hR2, hC2, hB2⟩ := hrel
        by_cases hil : i < la
        · obtain ⟨ab, ao, rfl, hac⟩ := (HA.out.below (w' := wr) hB2.out).2 (by omega)
          have e1 := hac i hil
          have hiw : IntKind.i64.wrap ((i : Int) + 1) = (i : Int) + 1 := IntWalk.i64_in _ (by omega)
          have hiw2 : IntKind.i64.wrap ((i : Int) + 1 - k) = (i : Int) + 1 - k := IntWalk.i64_in _ (by omega)
          have hne : ∀ b' o, 0 < lb → b = some ⟨b', o, none⟩ → b' ≠ g := fun b' o h0 e => by
            obtain ⟨b2, o2, e2, hc2⟩ := HB.out.2 h0
            rw [e2] at e; injection e with e; injection e with e3
            have := lt_of_cell (hc2 0 h0); have := HG.out; omega
          have NE := Lib.hid hne
          clear hac hne
          go_wp2_with fail
          have hn' := HN.out
          have hadv := badvance_any ra rb g k i x lb cb f2 b wr (hn' ▸ hR2.out) (fun y hy => hC2.out y (by omega)) (HB.out.below hB2.out) NE.out hk hlb (by omega)
          rw [hn', HF.out] at hadv
          refine hadv.mono ?_
          rintro e w2 ⟨rfl, ⟨f3, hr3, hc3⟩, hb3⟩
          have R3 := Lib.hid hr3; have C3 := Lib.hid hc3
          have B3 := Lib.hid (hB2.out.trans (hb3.below (Nat.le_of_eq HG.out) hB2.out.size))
          clear hr3 hc3 hb3 hadv hn'
          go_wp2_with fail
          go_roundw
          case rel => exact ⟨i + 1, f3, by omega, by go_num, R3, C3, B3⟩
          case measure => simp [intOf]; omega
        · obtain rfl : i = la := by omega
          obtain ⟨p, hp⟩ : ∃ p : Nat, (p : Int) = (lb : Int) - i + k := ⟨((lb : Int) - i + k).toNat, by omega⟩
          have hpx : p < x := by have := HN.out; omega
          have e1 := hR2.out.c p hpx
          have e2 := (hC2.out p hpx).eq lb (by omega) (by rw [LB.out]; exact Nat.le_refl _)
          rw [e2, HF.out] at e1
          have q1 : IntKind.i64.wrap ((lb : Int) - i) = (lb : Int) - i := IntWalk.i64_in _ (by omega)
          have q2 : IntKind.i64.wrap ((lb : Int) - i + k) = (p : Int) := by rw [IntWalk.i64_in _ (by omega)]; exact hp.symm
          have q3 : (0 : Int) ≤ (p : Int) := by omega
          have q4 : (p : Int) < (x : Int) := by omega
          obtain ⟨V, hV⟩ : ∃ V, min (Ed.L ra rb i lb) far = V := ⟨_, rfl⟩
          rw [hV] at e1
          have HV := Lib.hid hV
          clear e2 hp hV
          go_wp2_with fail
          go_ret
          exact ⟨ret_int (by rw [HF.out]; exact HV.out.symm), hB2.out⟩
end Go.Proofs.Ytgghbgmeebihbaa
/- contracts of band.Within, band.Near, and of awake -/
namespace Go.Proofs.Ytgghbgmeebihbaa
open Go.RowKit
set_option linter.unusedVariables false
set_option maxRecDepth 20000
def withinD (D k : Int) : Int := if D ≤ k then D else 0
/-- Within, where the distance is told by a letter -/
def WithinP (a b : Option Addr) (la lb ca cb : Nat) (D : Int) (w : World) : Prop :=
  ∀ k : Int, Calls Try.prog 65 #[.slice a la ca, .slice b lb cb, .int .i64 k] w fun e w' => e = .returned (.tuple #[.int .i64 (withinD D k), .bool (decide (D ≤ k))]) ∧ Below w.heap.size w w'
theorem within_no (ra rb : List Int) (a b : Option Addr) (la lb ca cb : Nat) (k : Int) (w : World) (hla : la ≤ 1048576) (hlb : lb ≤ 1048576) (h : k < 0 ∨ k < (la : Int) - lb ∨ k < (lb : Int) - la) :
    Calls Try.prog 65 #[.slice a la ca, .slice b lb cb, .int .i64 k] w fun e w' => e = .returned (.tuple #[.int .i64 0, .bool false]) ∧ w = w' := by
  have h1 : k < 0 ∨ (0 ≤ k ∧ k < (la : Int) - lb) ∨ (0 ≤ k ∧ (la : Int) - lb ≤ k ∧ k < (lb : Int) - la) := by omega
  have q1 : IntKind.i64.wrap ((la : Int) - lb) = (la : Int) - lb := IntWalk.i64_in _ (by omega)
  have q2 : IntKind.i64.wrap ((lb : Int) - la) = (lb : Int) - la := IntWalk.i64_in _ (by omega)
  clear h
  rcases h1 with h1 | ⟨h0, h1⟩ | ⟨h0, h1, h2⟩
  all_goals
    go_enter Try.func65, Try.ntmps65
    go_wp2_with fail
    go_ret2
    exact ⟨rfl, rfl⟩
set_option maxHeartbeats 1600000 in
theorem within_any (ra rb : List Int) (a b : Option Addr) (la lb ca cb : Nat) (w : World) (ha : HoldsI .i32 w a la ra) (hb : HoldsI .i32 w b lb rb) (hla : la ≤ 1048576) (hlb : lb ≤ 1048576) :
    WithinP a b la lb ca cb (Ed.L ra rb la lb) w := by
  intro k
  have b1 := Ed.L_low ra rb la lb
  have b2 := Ed.L_bd ra rb la lb
  have b3 := Ed.L_up ra rb la lb
  by_cases hno : k < 0 ∨ k < (la : Int) - lb ∨ k < (lb : Int) - la
  · have h1 : ¬ Ed.L ra rb la lb ≤ k := by omega
    unfold withinD
    rw [if_neg h1, decide_eq_false h1]
    exact (within_no ra rb a b la lb ca cb k w hla hlb hno).mono fun e w' h => ⟨h.1, h.2 ▸ Below.refl _ _⟩
  · obtain ⟨n, rfl⟩ : ∃ n : Nat, k = (n : Int) := ⟨k.toNat, by omega⟩
    have h1 : (la : Int) - lb ≤ n := by omega
    have h2 : (lb : Int) - la ≤ n := by omega
    have h0 : (0 : Int) ≤ (n : Int) := by omega
    have q1 : IntKind.i64.wrap ((la : Int) - lb) = (la : Int) - lb := IntWalk.i64_in _ (by omega)
    have q2 : IntKind.i64.wrap ((lb : Int) - la) = (lb : Int) - la := IntWalk.i64_in _ (by omega)
    have hruns := Lib.hid (eruns_lit ra rb la lb a b ca cb w ha.len hb.len ha hb hla hlb)
    have hband := Lib.hid (fun hn => banded_any ra rb a b la lb ca cb n w ha hb hla hlb hn h1 h2)
    obtain ⟨D, hD⟩ : ∃ D, Ed.L ra rb la lb = D := ⟨_, rfl⟩
    simp only [hD] at b1 b2 b3 hruns hband ⊢
    unfold withinD
    have hmx : ((la : Int) < lb ∧ ((max la lb : Nat) : Int) = lb) ∨ ((lb : Int) ≤ la ∧ ((max la lb : Nat) : Int) = la) := by omega
    clear ha hb hD hno b1
    rcases hmx with ⟨hm, hm2⟩ | ⟨hm, hm2⟩
    all_goals
      rw [hm2] at b3
      clear hm2
    · by_cases hbig : (lb : Int) ≤ n
      · have hle : D ≤ (n : Int) := by omega
        rw [if_pos hle, decide_eq_true hle]
        have x1 : ¬ (n : Int) < D := by omega
        go_enter Try.func65, Try.ntmps65
        go_wp2_with fail
        refine hruns.out.mono ?_
        rintro e w' ⟨rfl, hb⟩
        go_wp2_with fail
        go_ret2
        exact ⟨rfl, hb⟩
      · have hb2 := Lib.hid (hband.out (by omega))
        have x3 : (n : Int) < lb := by omega
        clear hband hbig
        by_cases hle : D ≤ (n : Int)
        · rw [if_pos hle, decide_eq_true hle]
          have hv : min D ((n : Int) + 1) = D := by omega
          rw [hv] at hb2
          clear hv
          go_enter Try.func65, Try.ntmps65
          go_wp2_with fail
          refine hb2.out.mono ?_
          rintro e w' ⟨rfl, hb⟩
          go_wp2_with fail
          go_ret2
          exact ⟨rfl, hb⟩
        · rw [if_neg hle, decide_eq_false hle]
          have hv : min D ((n : Int) + 1) = (n : Int) + 1 := by omega
          rw [hv] at hb2
          clear hv
          go_enter Try.func65, Try.ntmps65
          go_wp2_with fail
          refine hb2.out.mono ?_
          rintro e w' ⟨rfl, hb⟩
          go_wp2_with fail
          go_ret2
          exact ⟨rfl, hb⟩
    · by_cases hbig : (la : Int) ≤ n
      · have hle : D ≤ (n : Int) := by omega
        rw [if_pos hle, decide_eq_true hle]
        have x1 : ¬ (n : Int) < D := by omega
        go_enter Try.func65, Try.ntmps65
        go_wp2_with fail
        refine hruns.out.mono ?_
        rintro e w' ⟨rfl, hb⟩
        go_wp2_with fail
        go_ret2
        exact ⟨rfl, hb⟩
      · have hb2 := Lib.hid (hband.out (by omega))
        have x3 : (n : Int) < la := by omega
        clear hband hbig
        by_cases hle : D ≤ (n : Int)
        · rw [if_pos hle, decide_eq_true hle]
          have hv : min D ((n : Int) + 1) = D := by omega
          rw [hv] at hb2
          clear hv
          go_enter Try.func65, Try.ntmps65
          go_wp2_with fail
          refine hb2.out.mono ?_
          rintro e w' ⟨rfl, hb⟩
          go_wp2_with fail
          go_ret2
          exact ⟨rfl, hb⟩
        · rw [if_neg hle, decide_eq_false hle]
          have hv : min D ((n : Int) + 1) = (n : Int) + 1 := by omega
          rw [hv] at hb2
          clear hv
          go_enter Try.func65, Try.ntmps65
          go_wp2_with fail
          refine hb2.out.mono ?_
          rintro e w' ⟨rfl, hb⟩
          go_wp2_with fail
          go_ret2
          exact ⟨rfl, hb⟩
def nearOk (a b : ByteArray) (k : Int) : Bool := decide (0 ≤ distS a b ∧ distS a b ≤ k)
def nearD (a b : ByteArray) (k : Int) : Int := if 0 ≤ distS a b ∧ distS a b ≤ k then distS a b else 0
set_option maxHeartbeats 1600000 in
theorem near_any (a b : ByteArray) (k : Int) (w : World) (hsa : a.size ≤ 1048576) (hsb : b.size ≤ 1048576) :
    Calls Try.prog 54 #[.string a, .string b, .int .i64 k] w fun e w' => e = .returned (.tuple #[.int .i64 (nearD a b k), .bool (nearOk a b k)]) ∧ Below w.heap.size w w' := by
  unfold nearOk nearD
  by_cases hga : 0 ≤ lenS a
  · have hA := Lib.hid (runes_good a w hsa hga)
    by_cases hgb : 0 ≤ lenS b
    · have hBr := Lib.hid (fun w => runes_good b w hsb hgb)
      have hd : distS a b = Ed.L (intsN (runesS a)) (intsN (runesS b)) (runesS a).length (runesS b).length := by unfold distS; rw [if_pos ⟨hga, hgb⟩]
      have hbd := Ed.L_bd (intsN (runesS a)) (intsN (runesS b)) (runesS a).length (runesS b).length
      have hle := runesS_le a
      have hleb := runesS_le b
      have hl1 := intsN_length (runesS a)
      have hl2 := intsN_length (runesS b)
      have h0 : (0 ≤ distS a b ∧ distS a b ≤ k) ↔ distS a b ≤ k := ⟨fun h => h.2, fun h => ⟨by omega, h⟩⟩
      have e1 : (if 0 ≤ distS a b ∧ distS a b ≤ k then distS a b else 0) = withinD (distS a b) k := by
        unfold withinD
        by_cases hk : distS a b ≤ k
        · rw [if_pos hk, if_pos (h0.2 hk)]
        · rw [if_neg hk, if_neg (fun h => hk h.2)]
      have e2 : decide (0 ≤ distS a b ∧ distS a b ≤ k) = decide (distS a b ≤ k) := decide_eq_decide.2 h0
      rw [e1, e2]
      rw [hd]
      clear e1 e2
      have HLE := Lib.hid hle; have HLEB := Lib.hid hleb; have HL1 := Lib.hid hl1; have HL2 := Lib.hid hl2
      clear hd hbd h0 hle hleb hl1 hl2 hga hgb
      go_enter Try.func54, Try.ntmps54
      go_wp2_with fail
      refine hA.out.mono ?_
      rintro e w1 ⟨a1, c1, rfl, hr1⟩
      have R1 := Lib.hid hr1
      clear hr1
      go_wp2_with fail
      refine (hBr.out _).mono ?_
      rintro e w2 ⟨a2, c2, rfl, hr2⟩
      have R2 := Lib.hid hr2
      clear hr2
      go_wp2_with fail
      have B2 : Below w.heap.size w w2 := R1.out.2.1.trans (R2.out.2.1.mono R1.out.2.1.size)
      have h1 := R1.out.holds.below R2.out.2.1
      have h2 := R2.out.holds
      rw [HL1.out] at h1; rw [HL2.out] at h2
      have hw := within_any (intsN (runesS a)) (intsN (runesS b)) a1 a2 (runesS a).length (runesS b).length c1 c2 w2 h1 h2 (by have := HLE.out; omega) (by have := HLEB.out; omega) k
      refine hw.mono ?_
      rintro e w3 ⟨rfl, hb3⟩
      have B3 := Lib.hid (B2.trans (hb3.mono B2.size))
      clear hb3 hw h1 h2 B2
      go_wp2_with fail
      go_ret2
      exact ⟨rfl, B3.out⟩
    · have hBr := Lib.hid (fun w => runes_bad b w hsb (by omega))
      have hd : distS a b = -1 := by unfold distS; rw [if_neg (fun h => hgb h.2)]
      rw [hd]
      have hn : ¬ ((0 : Int) ≤ -1 ∧ (-1 : Int) ≤ k) := by omega
      rw [if_neg hn, decide_eq_false hn]
      clear hn hd hga hgb
      go_enter Try.func54, Try.ntmps54
      go_wp2_with fail
      refine hA.out.mono ?_
      rintro e w1 ⟨a1, c1, rfl, hr1⟩
      have R1 := Lib.hid hr1
      clear hr1
      go_wp2_with fail
      refine (hBr.out _).mono ?_
      rintro e w2 ⟨rfl, hb2⟩
      have B2 := Lib.hid (R1.out.2.1.trans (hb2.mono R1.out.2.1.size))
      clear hb2
      go_wp2_with fail
      go_ret2
      exact ⟨rfl, B2.out⟩
  · have hA := Lib.hid (runes_bad a w hsa (by omega))
    have hd : distS a b = -1 := by unfold distS; rw [if_neg (fun h => hga h.1)]
    rw [hd]
    have hn : ¬ ((0 : Int) ≤ -1 ∧ (-1 : Int) ≤ k) := by omega
    rw [if_neg hn, decide_eq_false hn]
    clear hn hd hga
    by_cases hgb : 0 ≤ lenS b
    · have hBr := Lib.hid (fun w => runes_good b w hsb hgb)
      clear hgb
      go_enter Try.func54, Try.ntmps54
      go_wp2_with fail
      refine hA.out.mono ?_
      rintro e w1 ⟨rfl, hb1⟩
      have R1 := Lib.hid hb1
      clear hb1
      go_wp2_with fail
      refine (hBr.out _).mono ?_
      rintro e w2 ⟨a2, c2, rfl, hr2⟩
      have B2 := Lib.hid (R1.out.trans (hr2.2.1.mono R1.out.size))
      clear hr2
      go_wp2_with fail
      go_ret2
      exact ⟨rfl, B2.out⟩
    · have hBr := Lib.hid (fun w => runes_bad b w hsb (by omega))
      clear hgb
      go_enter Try.func54, Try.ntmps54
      go_wp2_with fail
      refine hA.out.mono ?_
      rintro e w1 ⟨rfl, hb1⟩
      have R1 := Lib.hid hb1
      clear hb1
      go_wp2_with fail
      refine (hBr.out _).mono ?_
      rintro e w2 ⟨rfl, hb2⟩
      have B2 := Lib.hid (R1.out.trans (hb2.mono R1.out.size))
      clear hb2
      go_wp2_with fail
      go_ret2
      exact ⟨rfl, B2.out⟩
end Go.Proofs.Ytgghbgmeebihbaa
/- contracts of rank.Sort, rank.All, rank.Top -/
namespace Go.Proofs.Ytgghbgmeebihbaa
open Go.RowKit
set_option linter.unusedVariables false
set_option maxRecDepth 20000
/-- sorted in place is a slice of the call's own -/
theorem sortI_own (a : Option Addr) (n cap B : Nat) (ks : List KV) (w : World) (hown : w.ownsRow B 61 2 (.slice a n cap) n (keysV ks)) (hn : n ≤ 1048576) :
    Calls Try.prog 55 #[.slice a n cap, .func (.func 56) #[] #[]] w fun e w' => e = .returned (.tuple #[]) ∧ w'.ownsRow B 61 2 (.slice a n cap) n (keysV (sortK ks)) ∧ (∀ b w0, b ≤ B → Below b w0 w → Below b w0 w') := by
  have hl : ks.length = n := by have := hown.1; rw [keysV_len] at this; omega
  rcases hown.2 with ⟨h, h0⟩ | ⟨g', c', cur, h, _⟩
  · cases h
    obtain rfl : ks = [] := List.eq_nil_of_length_eq_zero hl
    refine (sortI_none 0 w).mono ?_
    rintro e w' ⟨rfl, rfl⟩
    exact ⟨rfl, hown, fun _ _ _ h => h⟩
  · cases h
    exact sortI_some g' n cap B ks w hown hn
theorem rankSort_any (a : Option Addr) (n cap : Nat) (l : List KV) (w : World) (hh : HoldsK w a n l) (hnil : a = none → n = 0 ∧ cap = 0) (hn : n ≤ 50000) :
    Calls Try.prog 37 #[.slice a n cap] w (RetI w (sortK l)) := by
  have hll := hh.len
  have CL := Lib.hid (cloneI_any a n cap l w hh hnil hn)
  clear hh hnil
  go_enter Try.func37, Try.ntmps37
  go_wp2_with fail
  refine CL.out.mono ?_
  rintro e w1 ⟨a1, c1, rfl, hown, hb⟩
  rw [hll] at hown
  rw [hll]
  have SO := Lib.hid (sortI_own a1 n c1 w.heap.size l w1 hown (by omega))
  have B1 := Lib.hid hb
  clear hown hb
  go_wp2_with fail
  refine SO.out.mono ?_
  rintro e w2 ⟨rfl, hown, hb⟩
  have B2 := Lib.hid (hb _ _ (Nat.le_refl _) B1.out)
  have O2 := Lib.hid hown
  clear hown hb
  go_wp2_with fail
  go_ret
  exact retI_own rfl (by rw [sortK_length]; exact hll) O2.out B2.out _ rfl
set_option maxHeartbeats 1600000 in
theorem rankAll_any (a : Option Addr) (n cap : Nat) (ws : List Tx) (s : Tx) (k : Int) (w : World) (hh : HoldsT w a n ws) (hn : n ≤ 50000) (hl : ∀ t ∈ ws, t.size ≤ 1048576) (hs : s.size ≤ 1048576) :
    Calls Try.prog 27 #[.slice a n cap, .string s, .int .i64 k] w (RetI w (allK ws s k)) := by
  obtain ⟨i0, hi, hz0, hz1, hz2⟩ := info_parts item_info
  have hll := hh.len
  have HH := Lib.hid hh; have HL := Lib.hid hl
  clear hh hl
  go_enter Try.func27, Try.ntmps27
  go_wp2_with fail
  go_loopw [7, 14] (fun ov iv wr => ∃ (j : Nat) (P : List KV) (av : Option Addr) (cv : Nat), j ≤ n ∧ iv = .int .i64 j ∧ ov = .slice av P.length cv ∧ Hid (P = nearL (ws.take j) s k) ∧ Hid (wr.ownsRow w.heap.size 61 2 (.slice av P.length cv) P.length (keysV P)) ∧ Hid (Below w.heap.size w wr)) (fun _ iv _ => n - (intOf iv).toNat)
  case atStart => exact ⟨0, [], none, 0, by omega, rfl, rfl, Lib.hid rfl, Lib.hid (World.ownsRow_nil _ _ _ _), Lib.hid (Below.refl _ _)⟩
  case round =>
    obtain ⟨j, P, av, cv, hj, rfl, rfl, hP, hO, hB⟩ := hrel
    have hpl : P.length ≤ j := by have := nearL_len (ws.take j) s k; rw [← hP.out] at this; simp at this; omega
    by_cases hlt : j < n
    · obtain ⟨bb, o, rfl, hc⟩ := HH.out.at (by omega)
      have g0 := hc j hlt
      have e0 := (hB.out.cell (p := ⟨bb, o + j, none⟩) (lt_of_cell g0)).trans g0
      have hmem := HL.out _ (getD_memT' ws j (by omega))
      have hyes := nearL_yes (ws.take j) (ws.getD j ByteArray.empty) s k
      have hnot := nearL_no (ws.take j) (ws.getD j ByteArray.empty) s k
      rw [← take_succ_getD ws ByteArray.empty j (by omega)] at hyes hnot
      obtain ⟨y, hy⟩ : ∃ y, ws.getD j ByteArray.empty = y := ⟨_, rfl⟩
      rw [hy] at hmem hyes hnot e0
      have ND := Lib.hid (near_any y s k wr hmem hs)
      clear hc hy g0
      by_cases hk : 0 ≤ distS y s ∧ distS y s ≤ k
      · have hsn := hyes hk
        rw [← hP.out] at hsn
        have n1 : nearOk y s k = true := decide_eq_true hk
        have n2 : nearD y s k = distS y s := if_pos hk
        rw [n1, n2] at ND
        obtain ⟨d, hd⟩ : ∃ d, distS y s = d := ⟨_, rfl⟩
        rw [hd] at ND hsn
        have HS := Lib.hid hsn
        clear hyes hnot hsn n1 n2 hd hk
        go_wp2_with fail
        refine ND.out.mono ?_
        rintro e w2 ⟨rfl, hb⟩
        have B2 := Lib.hid (hB.out.trans (hb.mono hB.out.size))
        have O2 := Lib.hid (owns_below hO.out hb)
        have hsz := B2.out.size
        clear hb hB hO e0
        go_wp2_with (at_builtin; refine wpList_append_any rfl (.tmp 26) (.tmp 30) 34 rfl w.heap.size 61 i0 _ 2 24 Try.underlying34 hi hz0 hz1 hz2 rfl (by decide) _ P.length _ rfl (O2.out.alloc _) _ 1 1 [.int .i64 d, .string y] rfl (some_none _) rfl (two_new _ _ _ _ _) (two_one _ _) (by unfold maxLen; omega) (by omega) (by simp; omega) ?_; intro a3 c3 w3 hown3 hb3 hnil3)
        rw [show keysV P ++ [.int .i64 d, .string y] = keysV (P ++ [(d, y)]) from (keysV_snoc P (d, y)).symm] at hown3
        have O3 := Lib.hid hown3
        have B3 := Lib.hid ((B2.out.alloc B2.out.size _).trans hb3)
        clear hown3 hb3 hnil3
        go_roundw
        case rel => exact ⟨j + 1, P ++ [(d, y)], a3, c3, by omega, by go_num, by simp, Lib.hid HS.out.symm, Lib.hid (by have := O3.out; simpa using this), B3⟩
        case measure => simp [intOf]; omega
      · have hsn := hnot hk
        rw [← hP.out] at hsn
        have n1 : nearOk y s k = false := decide_eq_false hk
        rw [n1] at ND
        obtain ⟨d, hd⟩ : ∃ d, nearD y s k = d := ⟨_, rfl⟩
        rw [hd] at ND
        have HS := Lib.hid hsn
        clear hyes hnot hsn n1 hd hk
        go_wp2_with fail
        refine ND.out.mono ?_
        rintro e w2 ⟨rfl, hb⟩
        have B2 := Lib.hid (hB.out.trans (hb.mono hB.out.size))
        have O2 := Lib.hid (owns_below hO.out hb)
        clear hb hB hO e0
        go_wp2_with fail
        go_roundw
        case rel => exact ⟨j + 1, P, av, cv, by omega, by go_num, rfl, Lib.hid HS.out.symm, O2, B2⟩
        case measure => simp [intOf]; omega
    · have hjn : ws.take j = ws := List.take_of_length_le (by omega)
      have hP2 := hP.out
      rw [hjn] at hP2
      have SO := Lib.hid (sortI_own av P.length cv w.heap.size P wr hO.out (by omega))
      have HP := Lib.hid hP2
      clear hP hP2 hjn
      go_wp2_with fail
      refine SO.out.mono ?_
      rintro e w2 ⟨rfl, hown, hb⟩
      have B2 := Lib.hid (hb _ _ (Nat.le_refl _) hB.out)
      have O2 := Lib.hid hown
      clear hown hb
      go_wp2_with fail
      go_ret
      exact retI_own (by rw [HP.out]; rfl) (by rw [sortK_length]) O2.out B2.out _ rfl
end Go.Proofs.Ytgghbgmeebihbaa
/- contract of GreatTexts -/
namespace Go.Proofs.Ytgghbgmeebihbaa
open Go.RowKit
set_option linter.unusedVariables false
set_option maxRecDepth 20000
theorem getD_memT (zs : List Tx) (j : Nat) (h : j < zs.length) : zs.getD j ByteArray.empty ∈ zs := by
  rw [List.getD_eq_getElem?_getD, List.getElem?_eq_getElem h]; simp
def smallP (ts : List Tx) : Prop := ∀ t ∈ ts, t.size ≤ 100
def greatB (ts : List Tx) : Bool := decide (80 < ts.length ∨ ∃ t ∈ ts, 100 < t.size)
theorem great_yes {ts : List Tx} (h : 80 < ts.length ∨ ∃ t ∈ ts, 100 < t.size) : greatB ts = true := decide_eq_true h
theorem great_no {ts : List Tx} (h1 : ts.length ≤ 80) (h2 : smallP ts) : greatB ts = false := by
  refine decide_eq_false ?_
  rintro (h | ⟨t, ht, h⟩)
  · omega
  · have := h2 t ht; omega
theorem great_no_iff {ts : List Tx} : greatB ts = false ↔ ts.length ≤ 80 ∧ smallP ts := by
  constructor
  · intro h
    have h' := of_decide_eq_false h
    refine ⟨Nat.le_of_not_lt fun k => h' (Or.inl k), fun t ht => Nat.le_of_not_lt fun k => h' (Or.inr ⟨t, ht, k⟩)⟩
  · rintro ⟨h1, h2⟩; exact great_no h1 h2
set_option maxHeartbeats 800000 in
theorem great_any (a : Option Addr) (n cap : Nat) (ts : List Tx) (w : World) (hh : HoldsT w a n ts) (hn : n ≤ 9223372036854775807) (hsz : ∀ t ∈ ts, t.size ≤ 9223372036854775807) :
    Calls Try.prog 23 #[.slice a n cap] w fun e w' => e = .returned (.bool (greatB ts)) ∧ Below w.heap.size w w' := by
  have hl := hh.len
  by_cases h80 : n ≤ 80
  case neg =>
    rw [great_yes (Or.inl (by omega))]
    go_enter Try.func23, Try.ntmps23
    go_wp2_with fail
    go_loopw [3] (fun iv wr => iv = .int .i64 0 ∧ wr = w) (fun _ _ => 0)
    case atStart => exact ⟨rfl, rfl⟩
    case round =>
      obtain ⟨rfl, rfl⟩ := hrel
      go_wp2_with fail
      go_ret
      exact ⟨rfl, Below.refl _ _⟩
  go_enter Try.func23, Try.ntmps23
  go_wp2_with fail
  go_loopw [3] (fun iv wr => ∃ j : Nat, j ≤ n ∧ iv = .int .i64 j ∧ Hid (smallP (ts.take j)) ∧ Hid (Below w.heap.size w wr)) (fun iv _ => n - (intOf iv).toNat)
  case atStart => exact ⟨0, by omega, rfl, Lib.hid (by simp [smallP]), Lib.hid (Below.refl _ _)⟩
  case round =>
    obtain ⟨j, hj, rfl, hS, hB⟩ := hrel
    by_cases hlt : j < n
    · obtain ⟨b, o, rfl, hc⟩ := (hh.below hB.out).at (by omega)
      have e1 := hc j hlt
      have hmem := getD_memT ts j (by omega)
      have htk := take_succ_getD ts ByteArray.empty j (by omega)
      obtain ⟨x, hx⟩ : ∃ x, ts.getD j ByteArray.empty = x := ⟨_, rfl⟩
      rw [hx] at e1 hmem htk
      have hxs := hsz x hmem
      have HM := Lib.hid hmem; have HT := Lib.hid htk
      clear hx hmem htk hc
      by_cases hg : 100 < x.size
      · have hgr := great_yes (ts := ts) (Or.inr ⟨x, HM.out, hg⟩)
        have HG := Lib.hid hgr
        clear hgr
        go_wp2_with fail
        go_ret
        exact ⟨ret_bool HG.out.symm, hB.out⟩
      · go_wp2_with fail
        go_roundw
        case rel => exact ⟨j + 1, by omega, by go_num, Lib.hid (by rw [HT.out]; intro z hz; rcases List.mem_append.1 hz with hz | hz; exact hS.out z hz; simp at hz; rw [hz]; omega), hB⟩
        case measure => simp [intOf]; omega
    · have hjn : ts.take j = ts := List.take_of_length_le (by omega)
      have hgr := great_no (ts := ts) (by omega) (by have := hS.out; rw [hjn] at this; exact this)
      have HG := Lib.hid hgr
      clear hjn hgr
      go_wp2_with fail
      go_ret
      exact ⟨ret_bool (by rw [HG.out, decide_eq_false_iff_not]; omega), hB.out⟩
end Go.Proofs.Ytgghbgmeebihbaa
/- rank: what every program answers that is one; how long items are; items written over -/
namespace Go.Proofs.Ytgghbgmeebihbaa
open Go.RowKit
set_option linter.unusedVariables false
set_option maxRecDepth 20000
theorem d_ab_ab : distS { data := #[97, 98] } { data := #[97, 98] } = 0 := by
  have l1 : lenS { data := #[97, 98] } = 2 := by decide +kernel
  have r1 : intsN (runesS { data := #[97, 98] }) = [97, 98] := by decide +kernel
  have n1 : (runesS { data := #[97, 98] }).length = 2 := by decide +kernel
  unfold distS
  rw [l1, r1, n1, if_pos (by decide)]
  have h0 : Ed.row [97, 98] [97, 98] 0 = [0, 1, 2] := by rw [← upTo_row]; decide
  have h1 : Ed.row [97, 98] [97, 98] 1 = [1, 0, 1] := by rw [← Ed.mix_all _ _ 0, h0]; decide
  have h2 : Ed.row [97, 98] [97, 98] 2 = [2, 1, 0] := by rw [← Ed.mix_all _ _ 1, h1]; decide
  rw [← Ed.row_getD _ _ 2 2 (by decide), h2]
  rfl
theorem d_abc_ab : distS { data := #[97, 98, 99] } { data := #[97, 98] } = 1 := by
  have l1 : lenS { data := #[97, 98] } = 2 := by decide +kernel
  have r1 : intsN (runesS { data := #[97, 98] }) = [97, 98] := by decide +kernel
  have n1 : (runesS { data := #[97, 98] }).length = 2 := by decide +kernel
  have l2 : lenS { data := #[97, 98, 99] } = 3 := by decide +kernel
  have r2 : intsN (runesS { data := #[97, 98, 99] }) = [97, 98, 99] := by decide +kernel
  have n2 : (runesS { data := #[97, 98, 99] }).length = 3 := by decide +kernel
  unfold distS
  rw [l1, r1, n1, l2, r2, n2, if_pos (by decide)]
  have h0 : Ed.row [97, 98, 99] [97, 98] 0 = [0, 1, 2, 3] := by rw [← upTo_row]; decide
  have h1 : Ed.row [97, 98, 99] [97, 98] 1 = [1, 0, 1, 2] := by rw [← Ed.mix_all _ _ 0, h0]; decide
  have h2 : Ed.row [97, 98, 99] [97, 98] 2 = [2, 1, 0, 1] := by rw [← Ed.mix_all _ _ 1, h1]; decide
  rw [← Ed.row_getD _ _ 2 3 (by decide), h2]
  rfl
theorem d_b_ab : distS { data := #[98] } { data := #[97, 98] } = 1 := by
  have l1 : lenS { data := #[97, 98] } = 2 := by decide +kernel
  have r1 : intsN (runesS { data := #[97, 98] }) = [97, 98] := by decide +kernel
  have n1 : (runesS { data := #[97, 98] }).length = 2 := by decide +kernel
  have l2 : lenS { data := #[98] } = 1 := by decide +kernel
  have r2 : intsN (runesS { data := #[98] }) = [98] := by decide +kernel
  have n2 : (runesS { data := #[98] }).length = 1 := by decide +kernel
  unfold distS
  rw [l1, r1, n1, l2, r2, n2, if_pos (by decide)]
  have h0 : Ed.row [98] [97, 98] 0 = [0, 1] := by rw [← upTo_row]; decide
  have h1 : Ed.row [98] [97, 98] 1 = [1, 1] := by rw [← Ed.mix_all _ _ 0, h0]; decide
  have h2 : Ed.row [98] [97, 98] 2 = [2, 1] := by rw [← Ed.mix_all _ _ 1, h1]; decide
  rw [← Ed.row_getD _ _ 2 1 (by decide), h2]
  rfl
theorem top_awake : topK [⟨#[97, 98]⟩, ⟨#[97, 98, 99]⟩, ⟨#[98]⟩] ⟨#[97, 98]⟩ 1 2 = [(0, ⟨#[97, 98]⟩), (1, ⟨#[97, 98, 99]⟩)] := by
  have l1 : lenS { data := #[97, 98] } = 2 := by decide +kernel
  have hm : mayP ⟨#[97, 98]⟩ 1 2 := by unfold mayP; rw [l1]; omega
  have hn : nearL [⟨#[97, 98]⟩, ⟨#[97, 98, 99]⟩, ⟨#[98]⟩] ⟨#[97, 98]⟩ 1 = [(0, ⟨#[97, 98]⟩), (1, ⟨#[97, 98, 99]⟩), (1, ⟨#[98]⟩)] := by
    simp [nearL, d_ab_ab, d_abc_ab, d_b_ab]
  have c1 : cmpS ⟨#[97, 98, 99]⟩ ⟨#[98]⟩ = -1 := by decide +kernel
  have c2 : cmpS ⟨#[98]⟩ ⟨#[97, 98, 99]⟩ = 1 := by decide +kernel
  have hs : sortK [((0 : Int), (⟨#[97, 98]⟩ : Tx)), (1, ⟨#[97, 98, 99]⟩), (1, ⟨#[98]⟩)] = [(0, ⟨#[97, 98]⟩), (1, ⟨#[97, 98, 99]⟩), (1, ⟨#[98]⟩)] := by
    refine sortK_same ?_
    unfold SortedK leK
    simp [ordK, c2]
  unfold topK allK
  rw [if_pos hm, hn, hs]
  rfl
theorem holdsT_lit3 (w : World) (a b c : Tx) (e : TypeId) (fr : Nat × Nat) : HoldsT (w.alloc (.cells #[.string a, .string b, .string c] e fr)) (some ⟨w.heap.size, 0, none⟩) 3 [a, b, c] := by
  refine ⟨rfl, fun _ => ⟨w.heap.size, 0, rfl, fun i hi => ?_⟩⟩
  have : i = 0 ∨ i = 1 ∨ i = 2 := by omega
  rcases this with rfl | rfl | rfl
  · rw [Nat.add_zero, World.cell?_alloc_mark]; rfl
  · rw [Nat.zero_add, World.cell?_alloc_mark]; rfl
  · rw [Nat.zero_add, World.cell?_alloc_mark]; rfl
theorem holdsK_lit2 (w : World) (a b : KV) (e : TypeId) (fr : Nat × Nat) : HoldsK (w.alloc (.cells #[.int .i64 a.1, .string a.2, .int .i64 b.1, .string b.2] e fr)) (some ⟨w.heap.size, 0, none⟩) 2 [a, b] := by
  refine ⟨rfl, fun _ => ⟨w.heap.size, 0, rfl, fun i hi => ?_⟩⟩
  have : i = 0 ∨ i = 1 := by omega
  rcases this with rfl | rfl
  · rw [World.cell?_alloc_mark, World.cell?_alloc_mark]; exact ⟨rfl, rfl⟩
  · rw [World.cell?_alloc_mark, World.cell?_alloc_mark]; exact ⟨rfl, rfl⟩
def smallK (ks : List KV) : Prop := ∀ k ∈ ks, k.2.size ≤ 100
def greatKB (ks : List KV) : Bool := decide (80 < ks.length ∨ ∃ k ∈ ks, 100 < k.2.size)
theorem greatK_no_iff {ks : List KV} : greatKB ks = false ↔ ks.length ≤ 80 ∧ smallK ks := by
  unfold greatKB smallK
  rw [decide_eq_false_iff_not]
  constructor
  · intro h
    refine ⟨by omega, fun k hk => ?_⟩
    rcases Nat.lt_or_ge 100 k.2.size with h2 | h2
    · exact absurd (Or.inr ⟨k, hk, h2⟩) h
    · exact h2
  · rintro ⟨h1, h2⟩ (h | ⟨k, hk, h3⟩)
    · omega
    · have := h2 k hk; omega
theorem greatK_any (a : Option Addr) (n cap : Nat) (ks : List KV) (w : World) (hh : HoldsK w a n ks) (hn : n ≤ 9223372036854775807) (hx : ∀ k ∈ ks, k.2.size ≤ 9223372036854775807) :
    Calls Try.prog 33 #[.slice a n cap] w fun e w' => e = .returned (.bool (greatKB ks)) ∧ w = w' := by
  have hl := hh.len
  obtain ⟨g, hg'⟩ : ∃ g, greatKB ks = g := ⟨_, rfl⟩
  have hg : g = true ↔ (80 < ks.length ∨ ∃ k ∈ ks, 100 < k.2.size) := by rw [← hg']; exact decide_eq_true_iff
  rw [hg']
  clear hg'
  have HG := Lib.hid hg; have HX := Lib.hid hx; have HH := Lib.hid hh
  clear hg hx hh
  by_cases h1 : 80 < n
  · have hgt : g = true := HG.out.2 (Or.inl (by omega))
    subst hgt
    have h2 : ¬ n ≤ 80 := by omega
    go_enter Try.func33, Try.ntmps33
    go_wp2_with fail
    go_loop [3] (fun c => c = .int .i64 0) (fun _ => 0)
    case atStart => exact rfl
    case round =>
      subst hrel
      go_wp2_with fail
      go_ret
      exact ⟨ret_bool (by simp <;> omega), rfl⟩
  have h2 : n ≤ 80 := by omega
  go_enter Try.func33, Try.ntmps33
  go_wp2_with fail
  go_loop [3] (fun c => ∃ i : Nat, i ≤ n ∧ c = .int .i64 i ∧ Hid (∀ j, j < i → (ks.getD j k0).2.size ≤ 100)) (fun c => n - (intOf c).toNat)
  case atStart => exact ⟨0, by omega, rfl, Lib.hid (by omega)⟩
  case round =>
    obtain ⟨i, hi, rfl, HA⟩ := hrel
    by_cases hin : i < n
    · obtain ⟨b, o, rfl, hc⟩ := HH.out.at (by omega)
      have hc2 := (hc i hin).2
      have hz := HX.out _ (getD_memK ks i (by omega))
      have hmem := getD_memK ks i (by omega)
      have HE := Lib.hid (fun h => HG.out.2 (Or.inr ⟨_, hmem, h⟩))
      have HAn := Lib.hid (fun (h : (ks.getD i k0).2.size ≤ 100) j (hj : j < i + 1) => show (ks.getD j k0).2.size ≤ 100 from (by
          by_cases e : j = i
          · subst e; exact h
          · exact HA.out j (by omega)))
      obtain ⟨x, hx⟩ : ∃ x, ks.getD i k0 = x := ⟨_, rfl⟩
      rw [hx] at hc2 hz HE HAn
      clear hc hx hmem
      obtain ⟨x1, x2⟩ := x
      simp only at hc2 hz HE HAn
      by_cases hs : 100 < x2.size
      · have hgt : g = true := HE.out hs
        subst hgt
        go_wp2_with fail
        go_ret
        exact ⟨rfl, rfl⟩
      · have HA2 := Lib.hid (HAn.out (by omega))
        go_wp2_with fail
        go_round
        case rel => exact ⟨i + 1, by omega, by go_num, HA2⟩
        case measure => simp [intOf]; omega
    · have hgf : g = false := by
        cases hg : g with
        | false => rfl
        | true =>
          rcases HG.out.1 hg with x | ⟨k, hk, x⟩
          · omega
          · obtain ⟨j, hj, rfl⟩ := List.getElem_of_mem hk
            have := HA.out j (by omega)
            simp [List.getD_eq_getElem?_getD, hj] at this
            omega
      subst hgf
      go_wp2_with fail
      go_ret
      exact ⟨ret_bool (by simp <;> omega), rfl⟩
theorem grown_set {w wr : World} {g : Nat} (h : w.grownBy wr (some g)) (o : Nat) (v : Value) : w.grownBy (wr.setCell ⟨g, o, none⟩ v) (some g) :=
  ⟨h.os, h.tape, h.output, by have := h.size; simpa using this, fun b hb hne => (Below.heap_setCell wr ⟨g, o, none⟩ v b (fun e => hne (by show some b = some g; rw [e]))).trans (h.block b hb hne)⟩
set_option maxHeartbeats 1600000 in
/-- Written over is a slice of the call's own (its blocks lie from B on): below B nothing turns, and nothing but the slice's block. -/
theorem overItems_any (B : Nat) (a : Option Addr) (n cap : Nat) (xs : List Value) (w : World) (h : w.ownsRow B 61 2 (.slice a n cap) n xs) (hB : B ≤ w.heap.size) (hn : n ≤ 1048576) :
    Calls Try.prog 18 #[.slice a n cap] w fun e w' => e = .returned (.tuple #[]) ∧ Below B w w' ∧ w.grownBy w' (Value.slice a n cap).ownBlock := by
  obtain ⟨i0, hi, hz0, hz1, hz2⟩ := info_parts item_info
  have H := Lib.hid h
  clear h
  go_enter Try.func18, Try.ntmps18
  go_wp2_with fail
  go_loopw [2] (fun i wr => ∃ (k : Nat) (ys : List Value), k ≤ n ∧ i = .int .i64 k ∧ Hid (wr.ownsRow B 61 2 (.slice a n cap) n ys) ∧ Hid (Below B w wr) ∧ Hid (w.grownBy wr (Value.slice a n cap).ownBlock)) (fun i _ => n - (intOf i).toNat)
  case atStart => exact ⟨0, xs, by omega, rfl, H, Below.refl _ _, Lib.hid ⟨rfl, rfl, rfl, Nat.le_refl _, fun _ _ _ => rfl⟩⟩
  case round =>
    obtain ⟨k, ys, hk, rfl, hO, hBw, hGr⟩ := hrel
    by_cases hlt : k < n
    · obtain ⟨g, rfl⟩ : ∃ g, a = some ⟨g, 0, none⟩ := by
        obtain ⟨g, cap', hv⟩ := Joins.ownsRow_form hO.out (by omega)
        simp only [Value.slice.injEq] at hv
        exact ⟨g, hv.1⟩
      have hyl : ys.length = n * 2 := hO.out.1
      have hc := hO.out.cellAt (k * 2) (by omega)
      have hc1 := hO.out.cellAt (k * 2 + 1) (by omega)
      rw [List.getElem?_eq_getElem (by omega)] at hc hc1
      obtain ⟨y, hy⟩ : ∃ y, ys[k * 2] = y := ⟨_, rfl⟩
      obtain ⟨z, hz⟩ : ∃ z, ys[k * 2 + 1] = z := ⟨_, rfl⟩
      rw [hy] at hc; rw [hz] at hc1
      clear hy hyl hz
      have hf := hO.out.frozenAt (k * 2)
      have hf1 := hO.out.frozenAt (k * 2 + 1)
      have O2 := Lib.hid (((hO.out.stored (k * 2) (.int .i64 (-9))).1.stored (k * 2 + 1) (.string ⟨#[]⟩)).1)
      have B2 := Lib.hid ((hBw.out.setCell (p := ⟨g, k * 2, none⟩) (hO.out.lt g rfl).1 (.int .i64 (-9))).setCell (p := ⟨g, k * 2 + 1, none⟩) (hO.out.lt g rfl).1 (.string ⟨#[]⟩))
      have G2 := Lib.hid (grown_set (grown_set hGr.out (k * 2) (.int .i64 (-9))) (k * 2 + 1) (.string ⟨#[]⟩))
      clear hO hBw hGr
      go_wp2_with fail
      go_roundw
      case rel => exact ⟨k + 1, _, by omega, by go_num, O2, B2, G2⟩
      case measure => simp [intOf]; omega
    · have hs := hBw.out.size
      go_wp2_with (at_builtin; refine wpList_append_own _ rfl (.tmp 13) (.tmp 15) 34 rfl B 61 i0 _ 2 24 Try.underlying34 hi hz0 hz1 hz2 rfl (by decide) _ n _ rfl (hO.out.alloc _) _ 1 1 [.int .i64 (-9), .string ⟨#[]⟩] rfl rfl (two_new _ _ _ _ _ _ rfl) (two_one _ _) (by unfold maxLen; omega) (by omega) (by simp; omega) ?_; intro v3 w3 hown3 hg3 hn3)
      go_end0
      have hsz := hGr.out.size
      refine ⟨rfl, hBw.out.trans (((Below.refl _ _).alloc (by omega) _).grown hg3 (by simp; omega) fun k hk => (hO.out.lt k hk).1), ⟨hg3.os.trans hGr.out.os, hg3.tape.trans hGr.out.tape, hg3.output.trans hGr.out.output, ?_, fun b hb hne => ?_⟩⟩
      · have := hg3.size; simp at this; omega
      · rw [hg3.block b (by simp; omega) hne, Below.heap_alloc _ _ _ (by omega)]
        exact hGr.out.block b hb hne
end Go.Proofs.Ytgghbgmeebihbaa
