/- texts joined -/
import Derived.Shelf.Strings.Builder1
import Derived.Shelf.Strings.BuilderK
import Derived.Test.YtmddnklafplikaaDoorChecked
import Derived.WalkLawsBesides
import Derived.Outline
import Derived.Lib.Hide
import Derived.WalkKit
import Derived.ProofKit
import Derived.OpenShut
import Derived.Lib.SmallJoins
import Derived.Laws.RangeAny
import Derived.Lib.DecodeN
import Derived.Lib.ConvBytes
import Derived.Laws.Rows
import Derived.Lib.ItoaNum
import Derived.Lib.Split
import Derived.Lib.Join
import Derived.Deep.Slices
import Derived.OwnWalk
import Derived.Laws.AppendOwnNone
import Derived.WalkSpells
import Derived.Deep.QuietTactic
import Derived.BigQuiet
import Derived.Deep.DeepCutAuto
import Derived.Sort.Walk0
import Derived.SliceStrings
import Derived.Shelf.Small.Strs
import Derived.Lib.OthersKept
import Derived.WalkSmall
import Derived.Shelf.Strings.Split
import Derived.Shelf.Strings.Prefix
import Derived.Lib.SplitLaws
import Derived.Shelf.Strings.OnBuilder
import Derived.Deep.RegionWith
import Derived.BigRegion
import Derived.Shelf.Strconv.Itoa3
import Derived.Deep.RegionHeld3
import Derived.Deep.RegionLaw
import Derived.Deep.AppendLies
import Derived.Deep.MidRow
import Derived.Test.YtmddnklafplikaaDoorPkRA
namespace Go.Proofs.YtmddnklafplikaaDoor
open Go.RowKit
set_option linter.unusedVariables false
set_option maxRecDepth 20000
theorem below_to {B : Nat} {a b c : World} (h1 : Below a.heap.size a b) (h2 : Below B b c) (hB : B ≤ a.heap.size) : Below B a c := (h1.mono hB).trans h2
def evT : Tx := { data := #[101, 118] }
def askT : Tx := { data := #[97, 115, 107] }
def setT : Tx := { data := #[115, 101, 116] }
def cutT : Tx := { data := #[99, 117, 116] }
def wordT : Tx := { data := #[119, 111, 114, 100] }
/-- what follows: a first part and numbers behind it, appended, make a line -/
theorem ownB29 (w : World) (cs : Array Value) (e : TypeId) (n : Nat) (hn : cs.size = n) (hm : n ≤ maxLen) : (w.alloc (.cells cs e)).ownsRow w.heap.size e 1 (.slice (some ⟨w.heap.size, 0, none⟩) n n) n cs.toList :=
  ⟨by simp [hn], Or.inr ⟨_, n, cs, rfl, Nat.le_refl _, heap_alloc_new w _, Nat.le_refl _, hm, by omega, by rw [List.take_of_length_le (by simp; omega)]⟩⟩
theorem first_own (w : World) (s : Tx) : (w.alloc (.cells #[.string s] 9)).ownsRow w.heap.size 9 1 (.slice (some ⟨w.heap.size, 0, none⟩) 1 1) 1 (strsV [s]) := ownB29 w #[.string s] 9 1 rfl (by unfold maxLen; omega)
theorem strs_one (ts : List Tx) : ∀ u ∈ strsV ts, u.oneCell' = true := by
  intro u hu
  simp only [strsV, List.mem_map] at hu
  obtain ⟨x, _, rfl⟩ := hu
  rfl
set_option maxRecDepth 100000 in
set_option maxHeartbeats 1600000 in
theorem evpage_any (B b : Nat) (l : List UInt8) (x : EvP) (w : World) (hp : PageIs B b l w) (hBw : B ≤ w.heap.size) (ht : Tab10 w) (hm : mayEv x = true) (hk : x.kd ≠ 1) (hl : l.length + (lineB (evQ x)).length ≤ 90000000) :
    Calls Tryd.prog 30 #[.pointer (some ⟨b, 0, none⟩), .agg #[.int .i64 x.kd, .int .i64 x.nd, .int .i64 x.pl, .int .i64 x.x, .string x.text, .int .i64 x.k, .int .i64 x.n]] w fun e w' => e = .returned (.tuple #[]) ∧ PageIs B b (l ++ endB (evQ x)) w' ∧ Below B w w' := by
  obtain ⟨i0, hii, hz0, hz1, hz2⟩ := info_parts hi9
  have he : evQ x = evB :: (nosEv x).map decI := by unfold evQ; rw [if_neg hk]
  have hq : numsQ (nosEv x) = true := by
    unfold mayEv at hm; rw [if_neg hk] at hm
    exact (Bool.and_eq_true _ _ ▸ hm : _ ∧ _).2
  have CN := Lib.hid (fun w => numbersOf_any x w)
  have CD := Lib.hid (fun p (w' : World) h ht => decimal_any (some ⟨p, 0, none⟩) 4 4 (nosEv x) w' h (by omega) hq ht)
  have CL := Lib.hid (fun a n c ts (w' : World) hp hB h hn hc hm he => line_page B b l a n c ts (evQ x) w' hp hB h hn hc hm he hl)
  have HP := Lib.hid (fun (w' : World) (hb : Below w.heap.size w w') => hp.below hb)
  have HT := Lib.hid (fun (w' : World) (hb : Below w.heap.size w w') => ht.below hb (Nat.le_refl _))
  have HE := Lib.hid he
  have HB := Lib.hid hBw
  have HX := Lib.hid (show (nosEv x).length = 4 from rfl)
  obtain ⟨kd, nd, pl, ex, t, k, n⟩ := x
  have hk : kd ≠ 1 := hk
  have d1 : (kd == 1) = false := by simpa using hk
  have d2 : decide (kd = 1) = false := decide_eq_false hk
  have B1 := Lib.hid (below_one w (.cells #[.int .i64 kd, .int .i64 nd, .int .i64 pl, .int .i64 ex, .string t, .int .i64 k, .int .i64 n] 50))
  obtain ⟨W, hW⟩ : ∃ W, w.alloc (.cells #[.int .i64 kd, .int .i64 nd, .int .i64 pl, .int .i64 ex, .string t, .int .i64 k, .int .i64 n] 50) = W := ⟨_, rfl⟩
  have O1 := Lib.hid (first_own W evT)
  have B2 := Lib.hid (show Below w.heap.size w (W.alloc (.cells #[.string evT] 9)) from by rw [← hW]; exact B1.out.trans ((below_one _ _).mono B1.out.size))
  have hWs : W.heap.size = w.heap.size + 1 := by rw [← hW]; simp
  have HW := Lib.hid hW
  rw [hWs] at O1
  clear he hq hp ht hBw hk hm hl hW hWs
  go_enter Tryd.func30, Tryd.ntmps30
  go_wp2_with fail
  rw [HW.out]
  refine (CN.out _).mono ?_
  rintro e w3 ⟨p, rfl, hh, hb3⟩
  have B3 := Lib.hid (B2.out.trans (hb3.mono B2.out.size))
  have O3 := Lib.hid (owns_below O1.out hb3)
  have CD2 := Lib.hid (CD.out p w3 hh (HT.out w3 B3.out))
  clear hb3 hh
  go_wp2_with fail
  refine CD2.out.mono ?_
  rintro e w4 ⟨a, m, c, ts, rfl, hown, hmn, hts, hb4⟩
  rw [HX.out] at hmn
  subst hmn
  have B4 := Lib.hid (B3.out.trans (hb4.mono B3.out.size))
  have O4 := Lib.hid (owns_below O3.out hb4)
  have HO := Lib.hid hown
  have HTS := Lib.hid hts
  clear hb4 hown hts CD2
  have N4 := Lib.hid (show a = none → 4 = 0 ∧ c = 0 from (owns_none HO.out).1)
  have C4 := Lib.hid (show ∀ ad, a = some ad → ∀ j u, (strsV ts)[j]? = some u → w4.cell? (ad.add j) = some u from HoldsV.cells (HoldsT.own HO.out) ⟨rfl, rfl, rfl, Nat.le_refl _, fun _ _ _ => rfl⟩)
  have L4 := Lib.hid (show (strsV ts).length = 4 from HO.out.1.trans (by omega))
  have hs4 : w.heap.size + 1 ≤ w4.heap.size := by
    have h1 := (O4.out.lt (w.heap.size + 1) rfl).2
    omega
  go_wp2_with (at_builtin; refine wpList_append_any rfl (.tmp 23) (.tmp 26) 27 rfl (w.heap.size + 1) 9 i0 (.string ByteArray.empty) 1 16 Tryd.underlying27 hii hz0 hz1 hz2 rfl (by decide) _ 1 _ rfl O4.out a 4 c (strsV ts) rfl N4.out L4.out C4.out (strs_one ts) (by unfold maxLen; omega) (by omega) hs4 ?_; intro a3 c3 w5 hown3 hb3 hnil3)
  have O5 := Lib.hid (show w5.ownsRow (w.heap.size + 1) 9 1 (.slice a3 5 c3) 5 (strsV (evT :: ts)) from hown3)
  have B5 := Lib.hid (show Below w.heap.size w w5 from B4.out.trans (hb3.mono (by omega)))
  clear hown3 hb3 hnil3
  have CL2 := Lib.hid (CL.out a3 5 c3 (evT :: ts) w5 (HP.out w5 B5.out) (Nat.le_trans HB.out B5.out.size) (HoldsT.own O5.out) (by omega) (owns_none O5.out).2 (by omega) (by rw [HE.out, ← HTS.out]; rfl))
  clear CL
  go_wp2_with fail
  refine CL2.out.mono ?_
  rintro e w6 ⟨rfl, hp6, hb6, hk6⟩
  have P6 := Lib.hid hp6
  have B6 := Lib.hid (below_to B5.out hb6 HB.out)
  clear hp6 hb6 hk6
  go_wp2_with fail
  go_end0
  exact ⟨rfl, P6.out, B6.out⟩
end Go.Proofs.YtmddnklafplikaaDoor
namespace Go.Proofs.YtmddnklafplikaaDoor
open Go.RowKit
set_option linter.unusedVariables false
set_option maxRecDepth 20000
theorem ask_box {w : World} {q : Nat} {nd pl ex k n : Int} {t : ByteArray} (h : w.heap[q]? = some (.cells #[.int .i64 1, .int .i64 nd, .int .i64 pl, .int .i64 ex, .string t, .int .i64 k, .int .i64 n] 50 (0, 0))) : w.heap[q]? = some (.cells #[.int .i64 1, .int .i64 nd, .int .i64 pl, .int .i64 ex, .string t, .int .i64 k, .int .i64 n] 50 (0, 0)) ∧ w.cell? ⟨q, 4, none⟩ = some (.string t) ∧ w.cell? ⟨q, 5, none⟩ = some (.int .i64 k) ∧ w.cell? ⟨q, 6, none⟩ = some (.int .i64 n) :=
  ⟨h, by rw [Lib.cell_of_heap h]; rfl, by rw [Lib.cell_of_heap h]; rfl, by rw [Lib.cell_of_heap h]; rfl⟩
theorem ask_carry {a b : World} {q : Nat} {nd pl ex k n : Int} {t : ByteArray} (h : a.heap[q]? = some (.cells #[.int .i64 1, .int .i64 nd, .int .i64 pl, .int .i64 ex, .string t, .int .i64 k, .int .i64 n] 50 (0, 0)) ∧ a.cell? ⟨q, 4, none⟩ = some (.string t) ∧ a.cell? ⟨q, 5, none⟩ = some (.int .i64 k) ∧ a.cell? ⟨q, 6, none⟩ = some (.int .i64 n)) (hb : Below a.heap.size a b) : b.heap[q]? = some (.cells #[.int .i64 1, .int .i64 nd, .int .i64 pl, .int .i64 ex, .string t, .int .i64 k, .int .i64 n] 50 (0, 0)) ∧ b.cell? ⟨q, 4, none⟩ = some (.string t) ∧ b.cell? ⟨q, 5, none⟩ = some (.int .i64 k) ∧ b.cell? ⟨q, 6, none⟩ = some (.int .i64 n) := ask_box ((hb.block q (lt_of_heap29 h.1)).trans h.1)
theorem ask_keep {a b : World} {q : Nat} {nd pl ex k n : Int} {t : ByteArray} (h : a.heap[q]? = some (.cells #[.int .i64 1, .int .i64 nd, .int .i64 pl, .int .i64 ex, .string t, .int .i64 k, .int .i64 n] 50 (0, 0)) ∧ a.cell? ⟨q, 4, none⟩ = some (.string t) ∧ a.cell? ⟨q, 5, none⟩ = some (.int .i64 k) ∧ a.cell? ⟨q, 6, none⟩ = some (.int .i64 n)) (hb : KeepsT a b) : b.heap[q]? = some (.cells #[.int .i64 1, .int .i64 nd, .int .i64 pl, .int .i64 ex, .string t, .int .i64 k, .int .i64 n] 50 (0, 0)) ∧ b.cell? ⟨q, 4, none⟩ = some (.string t) ∧ b.cell? ⟨q, 5, none⟩ = some (.int .i64 k) ∧ b.cell? ⟨q, 6, none⟩ = some (.int .i64 n) := ask_box (hb q _ _ _ h.1 (by decide) (by decide))
theorem below_next {w a b : World} (h : Below w.heap.size w a) (hb : Below a.heap.size a b) : Below w.heap.size w b := h.trans (hb.mono h.size)
set_option maxRecDepth 100000 in
set_option maxHeartbeats 1600000 in
theorem askpage_any (B b : Nat) (l : List UInt8) (x : EvP) (w : World) (hp : PageIs B b l w) (hBw : B ≤ w.heap.size) (ht : Tab10 w) (hm : mayEv x = true) (hk : x.kd = 1) (hl : l.length + (lineB (evQ x)).length ≤ 90000000) (hx : x.text.size ≤ 1048576) :
    Calls Tryd.prog 30 #[.pointer (some ⟨b, 0, none⟩), .agg #[.int .i64 x.kd, .int .i64 x.nd, .int .i64 x.pl, .int .i64 x.x, .string x.text, .int .i64 x.k, .int .i64 x.n]] w fun e w' => e = .returned (.tuple #[]) ∧ PageIs B b (l ++ endB (evQ x)) w' ∧ Below B w w' := by
  have he : evQ x = [askB, quoL x.text.data.toList, decI x.k, decI x.n] := by unfold evQ; rw [if_pos hk]
  have hq : numQ x.k = true ∧ numQ x.n = true := by
    unfold mayEv at hm; rw [if_pos hk] at hm
    simp only [Bool.and_eq_true] at hm
    exact hm.2
  have CQ := Lib.hid (fun w => quote_any x.text w hx)
  have CK := Lib.hid (fun (w' : World) (hb : Below w.heap.size w w') => itoa29_any x.k w' hq.1 (ht.below hb (Nat.le_refl _)))
  have CM := Lib.hid (fun (w' : World) (hb : Below w.heap.size w w') => itoa29_any x.n w' hq.2 (ht.below hb (Nat.le_refl _)))
  obtain ⟨s1, hs1⟩ : ∃ s, quoS x.text = s := ⟨_, rfl⟩
  obtain ⟨s2, hs2⟩ : ∃ s : ByteArray, (⟨(decI x.k).toArray⟩ : ByteArray) = s := ⟨_, rfl⟩
  obtain ⟨s3, hs3⟩ : ∃ s : ByteArray, (⟨(decI x.n).toArray⟩ : ByteArray) = s := ⟨_, rfl⟩
  have hts : bytesL [askT, s1, s2, s3] = evQ x := by
    rw [he, ← hs1, ← hs2, ← hs3]
    show [askT.data.toList, (quoS x.text).data.toList, decI x.k, decI x.n] = _
    rw [quoS_data]
    rfl
  rw [hs1] at CQ
  rw [hs2] at CK
  rw [hs3] at CM
  have CL := Lib.hid (fun (w' : World) (hb : Below w.heap.size w w') => line_page B b l (some ⟨w'.heap.size, 0, none⟩) 4 4 [askT, s1, s2, s3] (evQ x) (w'.alloc (.cells #[.string askT, .string s1, .string s2, .string s3] 9)) (hp.below (hb.trans ((below_one _ _).mono hb.size))) (by have := hb.size; simp; omega) (cells_texts w' [askT, s1, s2, s3] 9) (by omega) (by omega) (by omega) hts hl)
  have HB := Lib.hid hBw
  obtain ⟨kd, nd, pl, ex, t, k, n⟩ := x
  have hk : kd = 1 := hk
  subst hk
  have BW := Lib.hid (show Below w.heap.size w (w.alloc (.cells #[.int .i64 1, .int .i64 nd, .int .i64 pl, .int .i64 ex, .string t, .int .i64 k, .int .i64 n] 50)).drew from (below_one _ _).drew)
  have hS0 : (w.alloc (.cells #[.int .i64 1, .int .i64 nd, .int .i64 pl, .int .i64 ex, .string t, .int .i64 k, .int .i64 n] 50)).drew.heap[w.heap.size]? = some (.cells #[.int .i64 1, .int .i64 nd, .int .i64 pl, .int .i64 ex, .string t, .int .i64 k, .int .i64 n] 50 (0, 0)) := heap_alloc_new w _
  have S0 := Lib.hid (ask_box hS0)
  clear hS0
  clear he hq hp ht hBw hm hl hs1 hs2 hs3 hts hx
  go_enter Tryd.func30, Tryd.ntmps30
  go_upto_region 2 with fail
  go_region_held3 (fun w' => w'.heap[w.heap.size]? = some (.cells #[.int .i64 1, .int .i64 nd, .int .i64 pl, .int .i64 ex, .string t, .int .i64 k, .int .i64 n] 50 (0, 0)) ∧ w'.cell? ⟨w.heap.size, 4, none⟩ = some (.string t) ∧ w'.cell? ⟨w.heap.size, 5, none⟩ = some (.int .i64 k) ∧ w'.cell? ⟨w.heap.size, 6, none⟩ = some (.int .i64 n))
    (first | assumption | exact S0.out | exact ask_carry (by assumption) (by assumption) | exact ask_carry (by assumption) (below_one _ _) | exact ask_keep (by assumption) (by assumption))
    (first
      | (go_at_call 9; refine (CQ.out _).mono ?_; rintro e w' ⟨rfl, hb⟩; have B' := below_next (w := w) (by first | assumption | exact BW.out) hb)
      | (go_at_call_of 47 (Value.int IntKind.i64 k); refine (CK.out _ (by first | assumption | exact BW.out)).mono ?_; rintro e w' ⟨rfl, hb⟩; have B' := below_next (w := w) (by first | assumption | exact BW.out) hb)
      | (go_at_call_of 47 (Value.int IntKind.i64 n); refine (CM.out _ (by first | assumption | exact BW.out)).mono ?_; rintro e w' ⟨rfl, hb⟩; have B' := below_next (w := w) (by first | assumption | exact BW.out) hb)
      | (go_at_call 46; refine (CL.out _ (by assumption)).mono ?_; rintro e w9 ⟨rfl, hp9, hb9, hk9⟩; have B9 := below_to (below_next (w := w) (by assumption) (below_one _ _)) hb9 HB.out))
  all_goals
    go_wp2_with fail
    (try simp only [Exit.inBlock, Exit.then])
    refine bodyPost_ret (results_none rfl _ _ _) rfl ?_
    exact ⟨rfl, hp9, B9⟩
theorem event_page (B b : Nat) (l : List UInt8) (x : EvP) (w : World) (hp : PageIs B b l w) (hBw : B ≤ w.heap.size) (ht : Tab10 w) (hm : mayEv x = true) (hl : l.length + (lineB (evQ x)).length ≤ 90000000) (hx : x.text.size ≤ 1048576) :
    Calls Tryd.prog 30 #[.pointer (some ⟨b, 0, none⟩), .agg #[.int .i64 x.kd, .int .i64 x.nd, .int .i64 x.pl, .int .i64 x.x, .string x.text, .int .i64 x.k, .int .i64 x.n]] w fun e w' => e = .returned (.tuple #[]) ∧ PageIs B b (l ++ endB (evQ x)) w' ∧ Below B w w' := by
  by_cases hk : x.kd = 1
  · exact askpage_any B b l x w hp hBw ht hm hk hl hx
  · exact evpage_any B b l x w hp hBw ht hm hk hl
end Go.Proofs.YtmddnklafplikaaDoor
namespace Go.Proofs.YtmddnklafplikaaDoor
open Go.RowKit
set_option linter.unusedVariables false
set_option maxRecDepth 20000
def wordsB (ws : List Tx) : List UInt8 := (ws.map wordQ).flatMap endB
def cutsB (ks : List KV) : List UInt8 := (ks.map cutQ).flatMap endB
theorem wordsB_snoc (ws : List Tx) (t : Tx) : wordsB (ws ++ [t]) = wordsB ws ++ endB (wordQ t) := by simp [wordsB]
theorem cutsB_snoc (ks : List KV) (k : KV) : cutsB (ks ++ [k]) = cutsB ks ++ endB (cutQ k) := by simp [cutsB]
theorem lineB_len (ps : List (List UInt8)) : (lineB ps).length ≤ (ps.map (fun p => p.length + 1)).sum := by
  unfold lineB
  induction ps with
  | nil => simp [Lib.join]
  | cons p ps ih =>
    cases ps with
    | nil => simp [Lib.join]
    | cons q r =>
      simp only [Lib.join, List.map_cons, List.sum_cons] at ih ⊢
      simp at ih ⊢
      omega
end Go.Proofs.YtmddnklafplikaaDoor
namespace Go.Proofs.YtmddnklafplikaaDoor
open Go.RowKit
set_option linter.unusedVariables false
set_option maxRecDepth 20000
theorem wordsB_le (ws : List Tx) (j : Nat) : (wordsB (ws.take j)).length ≤ (wordsB ws).length := by
  have h : wordsB ws = wordsB (ws.take j) ++ wordsB (ws.drop j) := by
    unfold wordsB
    rw [← List.flatMap_append, ← List.map_append, List.take_append_drop]
  rw [h, List.length_append]; omega
theorem cutsB_le (ks : List KV) (j : Nat) : (cutsB (ks.take j)).length ≤ (cutsB ks).length := by
  have h : cutsB ks = cutsB (ks.take j) ++ cutsB (ks.drop j) := by
    unfold cutsB
    rw [← List.flatMap_append, ← List.map_append, List.take_append_drop]
  rw [h, List.length_append]; omega
theorem cut_box {w : World} {q : Nat} {x : Int} {t : ByteArray} (h : w.heap[q]? = some (.cells #[.int .i64 x, .string t] 65 (0, 0))) : w.heap[q]? = some (.cells #[.int .i64 x, .string t] 65 (0, 0)) ∧ w.cell? ⟨q, 0, none⟩ = some (.int .i64 x) ∧ w.cell? ⟨q, 1, none⟩ = some (.string t) := ⟨h, by rw [Lib.cell_of_heap h]; rfl, by rw [Lib.cell_of_heap h]; rfl⟩
theorem cut_carry {a b : World} {q : Nat} {x : Int} {t : ByteArray} (h : a.heap[q]? = some (.cells #[.int .i64 x, .string t] 65 (0, 0)) ∧ a.cell? ⟨q, 0, none⟩ = some (.int .i64 x) ∧ a.cell? ⟨q, 1, none⟩ = some (.string t)) (hb : Below a.heap.size a b) : b.heap[q]? = some (.cells #[.int .i64 x, .string t] 65 (0, 0)) ∧ b.cell? ⟨q, 0, none⟩ = some (.int .i64 x) ∧ b.cell? ⟨q, 1, none⟩ = some (.string t) := cut_box ((hb.block q (lt_of_heap29 h.1)).trans h.1)
theorem cut_keep {a b : World} {q : Nat} {x : Int} {t : ByteArray} (h : a.heap[q]? = some (.cells #[.int .i64 x, .string t] 65 (0, 0)) ∧ a.cell? ⟨q, 0, none⟩ = some (.int .i64 x) ∧ a.cell? ⟨q, 1, none⟩ = some (.string t)) (hb : KeepsT a b) : b.heap[q]? = some (.cells #[.int .i64 x, .string t] 65 (0, 0)) ∧ b.cell? ⟨q, 0, none⟩ = some (.int .i64 x) ∧ b.cell? ⟨q, 1, none⟩ = some (.string t) := cut_box (hb q _ _ _ h.1 (by decide) (by decide))
theorem cutsQ_at {ks : List KV} {j : Nat} (h : cutsQ ks = true) (hj : j < ks.length) : numQ (ks.getD j k0).1 = true := by
  rw [List.getD_eq_getElem?_getD, List.getElem?_eq_getElem hj]
  exact List.all_eq_true.1 h _ (List.getElem_mem _)
def ConfP (B b : Nat) (l : List UInt8) (ws : List Tx) (ks : List KV) (ns : List Int) (w : World) (e : Ending) (w' : World) : Prop := e = .returned (.tuple #[]) ∧ PageIs B b (l ++ (wordsB ws ++ (cutsB ks ++ endB (setQ ns)))) w' ∧ Below B w w' ∧ KeepsT w w'
set_option maxRecDepth 100000 in
set_option maxHeartbeats 3200000 in
theorem config_page (B b : Nat) (l : List UInt8) (wa ka : Option Addr) (nw nk wc kc : Nat) (a0 a1 a2 a3 a4 a5 a6 a7 a8 a9 : Int) (ws : List Tx) (ks : List KV) (w : World) (hp : PageIs B b l w) (hBw : B ≤ w.heap.size)
    (hw : ∀ w', Below B w w' → HoldsT w' wa nw ws) (hk : ∀ w', Below B w w' → HoldsK w' ka nk ks) (ht : ∀ w', Below B w w' → Tab10 w') (hnw : nw ≤ 1000000) (hnk : nk ≤ 1000000)
    (hws : ∀ t ∈ ws, t.size ≤ 1048576) (hks : ∀ k ∈ ks, k.2.size ≤ 1048576) (hcq : cutsQ ks = true) (hnq : numsQ [a0, a1, a2, a3, a4, a5, a6, a7, a8, a9] = true)
    (hl : l.length + ((wordsB ws).length + ((cutsB ks).length + (endB (setQ [a0, a1, a2, a3, a4, a5, a6, a7, a8, a9])).length)) ≤ 90000000) :
    Calls Tryd.prog 29 #[.pointer (some ⟨b, 0, none⟩), .agg #[.slice wa nw wc, .slice ka nk kc, .int .i64 a0, .int .i64 a1, .int .i64 a2, .int .i64 a3, .int .i64 a4, .int .i64 a5, .int .i64 a6, .int .i64 a7, .int .i64 a8, .int .i64 a9]] w (ConfP B b l ws ks [a0, a1, a2, a3, a4, a5, a6, a7, a8, a9] w) := by
  have hwl := (hw w (Below.refl _ _)).len
  have B1 := Lib.hid ((below_one w (.cells #[.slice wa nw wc, .slice ka nk kc, .int .i64 a0, .int .i64 a1, .int .i64 a2, .int .i64 a3, .int .i64 a4, .int .i64 a5, .int .i64 a6, .int .i64 a7, .int .i64 a8, .int .i64 a9] 30)).mono hBw)
  have K1 := Lib.hid (KeepsT.below (below_one w (.cells #[.slice wa nw wc, .slice ka nk kc, .int .i64 a0, .int .i64 a1, .int .i64 a2, .int .i64 a3, .int .i64 a4, .int .i64 a5, .int .i64 a6, .int .i64 a7, .int .i64 a8, .int .i64 a9] 30)))
  have P1 := Lib.hid (hp.below (below_one w (.cells #[.slice wa nw wc, .slice ka nk kc, .int .i64 a0, .int .i64 a1, .int .i64 a2, .int .i64 a3, .int .i64 a4, .int .i64 a5, .int .i64 a6, .int .i64 a7, .int .i64 a8, .int .i64 a9] 30)))
  have CB := Lib.hid (show (w.alloc (.cells #[.slice wa nw wc, .slice ka nk kc, .int .i64 a0, .int .i64 a1, .int .i64 a2, .int .i64 a3, .int .i64 a4, .int .i64 a5, .int .i64 a6, .int .i64 a7, .int .i64 a8, .int .i64 a9] 30)).heap[w.heap.size]? = some (.cells #[.slice wa nw wc, .slice ka nk kc, .int .i64 a0, .int .i64 a1, .int .i64 a2, .int .i64 a3, .int .i64 a4, .int .i64 a5, .int .i64 a6, .int .i64 a7, .int .i64 a8, .int .i64 a9] 30 (0, 0)) from heap_alloc_new w _)
  obtain ⟨q, hq⟩ : ∃ q, w.heap.size = q := ⟨_, rfl⟩
  have HBW := Lib.hid (show B ≤ q from by rw [← hq]; exact hBw)
  have HW := Lib.hid hw; have HK := Lib.hid hk; have HT := Lib.hid ht
  have HWS := Lib.hid hws; have HKS := Lib.hid hks; have HCQ := Lib.hid hcq; have HNQ := Lib.hid hnq; have HL := Lib.hid hl
  clear hp hw hk ht hws hks hcq hnq hl hBw
  go_enter Tryd.func29, Tryd.ntmps29
  go_upto_region 1 with fail
  rw [hq] at CB
  try rw [hq]
  generalize w.alloc (.cells #[.slice wa nw wc, .slice ka nk kc, .int .i64 a0, .int .i64 a1, .int .i64 a2, .int .i64 a3, .int .i64 a4, .int .i64 a5, .int .i64 a6, .int .i64 a7, .int .i64 a8, .int .i64 a9] 30) = w1 at *
  have c0 : w1.cell? ⟨q, 0, none⟩ = some (.slice wa nw wc) := by rw [Lib.cell_of_heap CB.out]; rfl
  have P1' := Lib.hid (show PageIs B b (l ++ wordsB (ws.take 0)) w1 from by simpa [wordsB] using P1.out)
  clear hq
  go_wp2_with fail
  go_loopw [11] (fun iv wr => ∃ j : Nat, j ≤ nw ∧ iv = .int .i64 j ∧ Hid (PageIs B b (l ++ wordsB (ws.take j)) wr) ∧ Hid (Below B w1 wr) ∧ Hid (KeepsT w1 wr) ∧ Hid (B ≤ wr.heap.size)) (fun iv _ => nw - (intOf iv).toNat)
  case atStart => exact ⟨0, by omega, rfl, P1', Lib.hid (Below.refl _ _), Lib.hid (KeepsT.refl _), Lib.hid (Nat.le_trans HBW.out (by have := lt_of_heap29 CB.out; omega))⟩
  case round =>
    obtain ⟨j, hj, rfl, hP, hB, hKp, hZ⟩ := hrel
    have BW := Lib.hid (B1.out.trans hB.out)
    by_cases hlt : j < nw
    · obtain ⟨bb, o, rfl, hc⟩ := (HW.out wr BW.out).at (by omega)
      have hx := hc j hlt
      obtain ⟨t, ht⟩ : ∃ t, ws.getD j ByteArray.empty = t := ⟨_, rfl⟩
      rw [ht] at hx
      have htm : t.size ≤ 1048576 := HWS.out t (by rw [← ht, List.getD_eq_getElem?_getD, List.getElem?_eq_getElem (by omega)]; exact List.getElem_mem _)
      have hs1 : wordsB (ws.take (j + 1)) = wordsB (ws.take j) ++ endB (wordQ t) := by rw [take_getD29 ws ByteArray.empty j (by omega), ht, wordsB_snoc]
      have hle := wordsB_le ws (j + 1)
      rw [hs1, List.length_append] at hle
      have CQ := Lib.hid (fun w => quote_any t w htm)
      obtain ⟨s, hs⟩ : ∃ s, quoS t = s := ⟨_, rfl⟩
      have hbl : bytesL [wordT, s] = wordQ t := by
        rw [← hs]
        show [wordT.data.toList, (quoS t).data.toList] = _
        rw [quoS_data]; rfl
      rw [hs] at CQ
      have hbd : (l ++ wordsB (ws.take j)).length + (lineB (wordQ t)).length ≤ 90000000 := by
        have h1 := HL.out
        have h2 : (endB (wordQ t)).length = (lineB (wordQ t)).length + 1 := by simp [endB]
        rw [List.length_append]; omega
      have CL := Lib.hid (fun (w' : World) (hb : Below wr.heap.size wr w') => line_page B b (l ++ wordsB (ws.take j)) (some ⟨w'.heap.size, 0, none⟩) 2 2 [wordT, s] (wordQ t) (w'.alloc (.cells #[.string wordT, .string s] 9)) (hP.out.below (hb.trans ((below_one _ _).mono hb.size))) (by have := hb.size; have := hZ.out; simp; omega) (cells_texts w' [wordT, s] 9) (by omega) (by omega) (by omega) hbl hbd)
      have HS1 := Lib.hid hs1
      have i1 : (0 : Int) ≤ (j : Int) := by omega
      have i2 : (j : Int) < (nw : Int) := by omega
      clear hc ht hs hbl hle hs1 htm hbd
      go_wp2_with fail
      refine (CQ.out _).mono ?_
      rintro e w3 ⟨rfl, hb3⟩
      have B3 := Lib.hid hb3
      clear hb3
      go_wp2_with fail
      refine (CL.out w3 B3.out).mono ?_
      rintro e w4 ⟨rfl, hp4, hb4, hk4⟩
      have P4 := Lib.hid (show PageIs B b (l ++ wordsB (ws.take (j + 1))) w4 from by rw [HS1.out, ← List.append_assoc]; exact hp4)
      have B4 := Lib.hid (hB.out.trans ((B3.out.mono hZ.out).trans (((below_one w3 (.cells #[.string wordT, .string s] 9)).mono (Nat.le_trans hZ.out B3.out.size)).trans hb4)))
      have K4 := Lib.hid (hKp.out.trans ((KeepsT.below B3.out).trans ((KeepsT.below (below_one w3 (.cells #[.string wordT, .string s] 9))).trans hk4)))
      have Z4 := Lib.hid (show B ≤ w4.heap.size from by have h1 := hb4.size; have h2 := B3.out.size; have h3 := hZ.out; simp at h1; omega)
      clear hp4 hb4 hk4
      go_wp2_with fail
      go_roundw
      case rel => exact ⟨j + 1, by omega, by go_num, P4, B4, K4, Z4⟩
      case measure => simp [intOf]; omega
    · obtain rfl : nw = j := by omega
      have hwt : ws.take nw = ws := List.take_of_length_le (by omega)
      have KQ := Lib.hid (hKp.out q _ _ _ CB.out (by decide) (by decide))
      have e1 : wr.cell? ⟨q, 1, none⟩ = some (.slice ka nk kc) := by rw [Lib.cell_of_heap KQ.out]; rfl
      have P2 := Lib.hid (show PageIs B b (l ++ (wordsB ws ++ cutsB (ks.take 0))) wr from by have h := hP.out; rw [hwt] at h; simpa [cutsB] using h)
      have hkl := (HK.out wr BW.out).1
      clear hwt hP c0
      go_wp2_with fail
      go_loopw [24] (fun iv wx => ∃ i : Nat, i ≤ nk ∧ iv = .int .i64 i ∧ Hid (PageIs B b (l ++ (wordsB ws ++ cutsB (ks.take i))) wx) ∧ Hid (Below B w1 wx) ∧ Hid (KeepsT w1 wx) ∧ Hid (B ≤ wx.heap.size)) (fun iv _ => nk - (intOf iv).toNat)
      case atStart => exact ⟨0, by omega, rfl, P2, hB, hKp, hZ⟩
      case round =>
        clear P2 hB hKp hZ BW KQ e1
        obtain ⟨i, hi, rfl, hP, hB, hKp, hZ⟩ := hrel
        rename World => wx
        have BW := Lib.hid (B1.out.trans hB.out)
        by_cases hlt : i < nk
        · obtain ⟨bb, o, rfl, hc⟩ := (HK.out wx BW.out).2 (by omega)
          obtain ⟨x0, x1⟩ := hc i hlt
          have hnq := cutsQ_at HCQ.out (show i < ks.length by omega)
          have hmem : ks.getD i k0 ∈ ks := by rw [List.getD_eq_getElem?_getD, List.getElem?_eq_getElem (by omega)]; exact List.getElem_mem _
          have htm := HKS.out _ hmem
          have hs1 : cutsB (ks.take (i + 1)) = cutsB (ks.take i) ++ endB (cutQ (ks.getD i k0)) := by rw [take_getD29 ks k0 i (by omega), cutsB_snoc]
          have hle := cutsB_le ks (i + 1)
          rw [hs1, List.length_append] at hle
          obtain ⟨⟨x, t⟩, hkv⟩ : ∃ kv, ks.getD i k0 = kv := ⟨_, rfl⟩
          rw [hkv] at x0 x1 hnq htm hs1 hle
          have CI := Lib.hid (fun (w' : World) (hb : Below wx.heap.size wx w') => itoa29_any x w' hnq (HT.out w' (BW.out.trans (hb.mono hZ.out))))
          have CQ := Lib.hid (fun w => quote_any t w htm)
          obtain ⟨s1, hs⟩ : ∃ s, quoS t = s := ⟨_, rfl⟩
          obtain ⟨s2, hs2⟩ : ∃ s : ByteArray, (⟨(decI x).toArray⟩ : ByteArray) = s := ⟨_, rfl⟩
          have hbl : bytesL [cutT, s2, s1] = cutQ (x, t) := by
            rw [← hs, ← hs2]
            show [cutT.data.toList, decI x, (quoS t).data.toList] = _
            rw [quoS_data]; rfl
          rw [hs] at CQ
          rw [hs2] at CI
          have hbd : (l ++ (wordsB ws ++ cutsB (ks.take i))).length + (lineB (cutQ (x, t))).length ≤ 90000000 := by
            have h1 := HL.out
            have h2 : (endB (cutQ (x, t))).length = (lineB (cutQ (x, t))).length + 1 := by simp [endB]
            rw [List.length_append, List.length_append]; omega
          have CL := Lib.hid (fun (w' : World) (hb : Below wx.heap.size wx w') => line_page B b (l ++ (wordsB ws ++ cutsB (ks.take i))) (some ⟨w'.heap.size, 0, none⟩) 3 3 [cutT, s2, s1] (cutQ (x, t)) (w'.alloc (.cells #[.string cutT, .string s2, .string s1] 9)) (hP.out.below (hb.trans ((below_one _ _).mono hb.size))) (by have := hb.size; have := hZ.out; simp; omega) (cells_texts w' [cutT, s2, s1] 9) (by omega) (by omega) (by omega) hbl hbd)
          have HS1 := Lib.hid hs1
          have i1 : (0 : Int) ≤ (i : Int) := by omega
          have i2 : (i : Int) < (nk : Int) := by omega
          have BX := Lib.hid (show Below wx.heap.size wx (wx.alloc (.cells #[.int .i64 x, .string t] 65)).drew from (below_one _ _).drew)
          have hS0 : (wx.alloc (.cells #[.int .i64 x, .string t] 65)).drew.heap[wx.heap.size]? = some (.cells #[.int .i64 x, .string t] 65 (0, 0)) := heap_alloc_new wx _
          have S0 := Lib.hid (cut_box hS0)
          clear hc hs hs2 hbl hbd hle hs1 htm hnq hmem hkv hS0
          go_upto_region 9 with fail
          go_region_held3 (fun w' => w'.heap[wx.heap.size]? = some (.cells #[.int .i64 x, .string t] 65 (0, 0)) ∧ w'.cell? ⟨wx.heap.size, 0, none⟩ = some (.int .i64 x) ∧ w'.cell? ⟨wx.heap.size, 1, none⟩ = some (.string t))
            (first | assumption | exact S0.out | exact cut_carry (by assumption) (by assumption) | exact cut_carry (by assumption) (below_one _ _) | exact cut_keep (by assumption) (by assumption))
            (first
              | (go_at_call 9; refine (CQ.out _).mono ?_; rintro e w' ⟨rfl, hb⟩; have B' := below_next (w := wx) (by first | assumption | exact BX.out) hb)
              | (go_at_call 47; refine (CI.out _ (by first | assumption | exact BX.out)).mono ?_; rintro e w' ⟨rfl, hb⟩; have B' := below_next (w := wx) (by first | assumption | exact BX.out) hb)
              | (go_at_call 46; refine (CL.out _ (by assumption)).mono ?_; rintro e w9 ⟨rfl, hp9, hb9, hk9⟩; have B8 := below_next (w := wx) (by assumption) (below_one _ (.cells #[.string cutT, .string s2, .string s1] 9)); have B9 := below_to B8 hb9 hZ.out; have K9 := (KeepsT.below B8).trans hk9))
          all_goals
            have P4 := Lib.hid (show PageIs B b (l ++ (wordsB ws ++ cutsB (ks.take (i + 1)))) w9 from by rw [HS1.out, ← List.append_assoc (wordsB ws), ← List.append_assoc l]; exact hp9)
            have B4 := Lib.hid (hB.out.trans B9)
            have K4 := Lib.hid (hKp.out.trans K9)
            have Z4 := Lib.hid (Nat.le_trans hZ.out B9.size)
            go_wp2_with fail
            go_roundw
            case rel => exact ⟨i + 1, by omega, by go_num, P4, B4, K4, Z4⟩
            case measure => simp [intOf]; omega
        · obtain rfl : nk = i := by omega
          have hkt : ks.take nk = ks := List.take_of_length_le (by omega)
          have hpx := hP.out
          rw [hkt] at hpx
          have PX := Lib.hid hpx
          have KQ := Lib.hid (hKp.out q _ _ _ CB.out (by decide) (by decide))
          have KA := Lib.hid (show (wx.alloc (.cells #[.string { data := #[115, 101, 116] }] 9)).heap[q]? = some (.cells #[.slice wa nw wc, .slice ka nk kc, .int .i64 a0, .int .i64 a1, .int .i64 a2, .int .i64 a3, .int .i64 a4, .int .i64 a5, .int .i64 a6, .int .i64 a7, .int .i64 a8, .int .i64 a9] 30 (0, 0)) from ((below_one wx _).block q (lt_of_heap29 KQ.out)).trans KQ.out)
          have e0 : wx.cell? ⟨q, 0, none⟩ = some (.slice wa nw wc) := by rw [Lib.cell_of_heap KQ.out]; rfl
          have e1 : wx.cell? ⟨q, 1, none⟩ = some (.slice ka nk kc) := by rw [Lib.cell_of_heap KQ.out]; rfl
          have e2 : wx.cell? ⟨q, 2, none⟩ = some (.int .i64 a0) := by rw [Lib.cell_of_heap KQ.out]; rfl
          have e3 : wx.cell? ⟨q, 3, none⟩ = some (.int .i64 a1) := by rw [Lib.cell_of_heap KQ.out]; rfl
          have e4 : wx.cell? ⟨q, 4, none⟩ = some (.int .i64 a2) := by rw [Lib.cell_of_heap KQ.out]; rfl
          have e5 : wx.cell? ⟨q, 5, none⟩ = some (.int .i64 a3) := by rw [Lib.cell_of_heap KQ.out]; rfl
          have e6 : wx.cell? ⟨q, 6, none⟩ = some (.int .i64 a4) := by rw [Lib.cell_of_heap KQ.out]; rfl
          have e7 : wx.cell? ⟨q, 7, none⟩ = some (.int .i64 a5) := by rw [Lib.cell_of_heap KQ.out]; rfl
          have e8 : wx.cell? ⟨q, 8, none⟩ = some (.int .i64 a6) := by rw [Lib.cell_of_heap KQ.out]; rfl
          have e9 : wx.cell? ⟨q, 9, none⟩ = some (.int .i64 a7) := by rw [Lib.cell_of_heap KQ.out]; rfl
          have e10 : wx.cell? ⟨q, 10, none⟩ = some (.int .i64 a8) := by rw [Lib.cell_of_heap KQ.out]; rfl
          have e11 : wx.cell? ⟨q, 11, none⟩ = some (.int .i64 a9) := by rw [Lib.cell_of_heap KQ.out]; rfl
          have f0 : (wx.alloc (.cells #[.string { data := #[115, 101, 116] }] 9)).cell? ⟨q, 0, none⟩ = some (.slice wa nw wc) := by rw [Lib.cell_of_heap KA.out]; rfl
          have f1 : (wx.alloc (.cells #[.string { data := #[115, 101, 116] }] 9)).cell? ⟨q, 1, none⟩ = some (.slice ka nk kc) := by rw [Lib.cell_of_heap KA.out]; rfl
          have f2 : (wx.alloc (.cells #[.string { data := #[115, 101, 116] }] 9)).cell? ⟨q, 2, none⟩ = some (.int .i64 a0) := by rw [Lib.cell_of_heap KA.out]; rfl
          have f3 : (wx.alloc (.cells #[.string { data := #[115, 101, 116] }] 9)).cell? ⟨q, 3, none⟩ = some (.int .i64 a1) := by rw [Lib.cell_of_heap KA.out]; rfl
          have f4 : (wx.alloc (.cells #[.string { data := #[115, 101, 116] }] 9)).cell? ⟨q, 4, none⟩ = some (.int .i64 a2) := by rw [Lib.cell_of_heap KA.out]; rfl
          have f5 : (wx.alloc (.cells #[.string { data := #[115, 101, 116] }] 9)).cell? ⟨q, 5, none⟩ = some (.int .i64 a3) := by rw [Lib.cell_of_heap KA.out]; rfl
          have f6 : (wx.alloc (.cells #[.string { data := #[115, 101, 116] }] 9)).cell? ⟨q, 6, none⟩ = some (.int .i64 a4) := by rw [Lib.cell_of_heap KA.out]; rfl
          have f7 : (wx.alloc (.cells #[.string { data := #[115, 101, 116] }] 9)).cell? ⟨q, 7, none⟩ = some (.int .i64 a5) := by rw [Lib.cell_of_heap KA.out]; rfl
          have f8 : (wx.alloc (.cells #[.string { data := #[115, 101, 116] }] 9)).cell? ⟨q, 8, none⟩ = some (.int .i64 a6) := by rw [Lib.cell_of_heap KA.out]; rfl
          have f9 : (wx.alloc (.cells #[.string { data := #[115, 101, 116] }] 9)).cell? ⟨q, 9, none⟩ = some (.int .i64 a7) := by rw [Lib.cell_of_heap KA.out]; rfl
          have f10 : (wx.alloc (.cells #[.string { data := #[115, 101, 116] }] 9)).cell? ⟨q, 10, none⟩ = some (.int .i64 a8) := by rw [Lib.cell_of_heap KA.out]; rfl
          have f11 : (wx.alloc (.cells #[.string { data := #[115, 101, 116] }] 9)).cell? ⟨q, 11, none⟩ = some (.int .i64 a9) := by rw [Lib.cell_of_heap KA.out]; rfl
          obtain ⟨i0, hii, hz0, hz1, hz2⟩ := info_parts hi9
          have CS := Lib.hid (fun w => settingsOf_any wa ka nw nk wc kc a0 a1 a2 a3 a4 a5 a6 a7 a8 a9 w)
          have CD := Lib.hid (fun p (w' : World) h ht => decimal_any (some ⟨p, 0, none⟩) 10 10 [a0, a1, a2, a3, a4, a5, a6, a7, a8, a9] w' h (by omega) HNQ.out ht)
          have hbd : (l ++ (wordsB ws ++ cutsB ks)).length + (lineB (setQ [a0, a1, a2, a3, a4, a5, a6, a7, a8, a9])).length ≤ 90000000 := by
            have h1 := HL.out
            have h2 : (endB (setQ [a0, a1, a2, a3, a4, a5, a6, a7, a8, a9])).length = (lineB (setQ [a0, a1, a2, a3, a4, a5, a6, a7, a8, a9])).length + 1 := by simp [endB]
            rw [List.length_append, List.length_append]; omega
          have CL := Lib.hid (fun a n c ts (w' : World) hp hB h hn hc hm he => line_page B b (l ++ (wordsB ws ++ cutsB ks)) a n c ts (setQ [a0, a1, a2, a3, a4, a5, a6, a7, a8, a9]) w' hp hB h hn hc hm he hbd)
          have O1 := Lib.hid (first_own wx setT)
          have B2 := Lib.hid (below_one wx (.cells #[.string setT] 9))
          clear hkt hpx hbd hP CB KQ KA
          go_wp2_with fail
          refine (CS.out _).mono ?_
          rintro e w3 ⟨p, rfl, hh, hb3⟩
          have B3 := Lib.hid (below_next B2.out hb3)
          have O3 := Lib.hid (owns_below O1.out hb3)
          have CD2 := Lib.hid (CD.out p w3 hh (HT.out w3 (BW.out.trans (B3.out.mono hZ.out))))
          clear hb3 hh
          go_wp2_with fail
          refine CD2.out.mono ?_
          rintro e w4 ⟨a, m, c, ts, rfl, hown, hmn, hts, hb4⟩
          have hmn : m = 10 := hmn
          subst hmn
          have B4 := Lib.hid (below_next B3.out hb4)
          have O4 := Lib.hid (owns_below O3.out hb4)
          have HO := Lib.hid hown
          have HTS := Lib.hid hts
          clear hb4 hown hts CD2
          have N4 := Lib.hid (show a = none → 10 = 0 ∧ c = 0 from (owns_none HO.out).1)
          have C4 := Lib.hid (show ∀ ad, a = some ad → ∀ j u, (strsV ts)[j]? = some u → w4.cell? (ad.add j) = some u from HoldsV.cells (HoldsT.own HO.out) ⟨rfl, rfl, rfl, Nat.le_refl _, fun _ _ _ => rfl⟩)
          have L4 := Lib.hid (show (strsV ts).length = 10 from HO.out.1.trans (by omega))
          have hs4 : wx.heap.size ≤ w4.heap.size := B4.out.size
          go_wp2_with (at_builtin; refine wpList_append_any rfl (.tmp 39) (.tmp 42) 27 rfl wx.heap.size 9 i0 (.string ByteArray.empty) 1 16 Tryd.underlying27 hii hz0 hz1 hz2 rfl (by decide) _ 1 _ rfl O4.out a 10 c (strsV ts) rfl N4.out L4.out C4.out (strs_one ts) (by unfold maxLen; omega) (by omega) hs4 ?_; intro az cz w5 hown3 hb3 hnil3)
          have O5 := Lib.hid (show w5.ownsRow wx.heap.size 9 1 (.slice az 11 cz) 11 (strsV (setT :: ts)) from hown3)
          have B5 := Lib.hid (show Below wx.heap.size wx w5 from B4.out.trans hb3)
          clear hown3 hb3 hnil3
          have CL2 := Lib.hid (CL.out az 11 cz (setT :: ts) w5 (PX.out.below B5.out) (Nat.le_trans hZ.out B5.out.size) (HoldsT.own O5.out) (by omega) (owns_none O5.out).2 (by omega) (by show setT.data.toList :: bytesL ts = _; rw [HTS.out]; rfl))
          clear CL
          go_wp2_with fail
          refine CL2.out.mono ?_
          rintro e w6 ⟨rfl, hp6, hb6, hk6⟩
          have P6 := Lib.hid (show PageIs B b (l ++ (wordsB ws ++ (cutsB ks ++ endB (setQ [a0, a1, a2, a3, a4, a5, a6, a7, a8, a9])))) w6 from by rw [← List.append_assoc (wordsB ws), ← List.append_assoc l]; exact hp6)
          have B6 := Lib.hid (BW.out.trans (below_to B5.out hb6 hZ.out))
          have K6 := Lib.hid (K1.out.trans (hKp.out.trans ((KeepsT.below B5.out).trans hk6)))
          clear hp6 hb6 hk6
          go_wp2_with fail
          go_end0
          exact ⟨rfl, P6.out, B6.out, K6.out⟩
end Go.Proofs.YtmddnklafplikaaDoor
namespace Go.Proofs.YtmddnklafplikaaDoor
open Go.RowKit
set_option linter.unusedVariables false
set_option maxRecDepth 20000
def evsB (es : List EvP) : List UInt8 := (es.map evQ).flatMap endB
theorem evsB_snoc (es : List EvP) (e : EvP) : evsB (es ++ [e]) = evsB es ++ endB (evQ e) := by simp [evsB]
theorem evsB_le (es : List EvP) (j : Nat) : (evsB (es.take j)).length ≤ (evsB es).length := by
  have h : evsB es = evsB (es.take j) ++ evsB (es.drop j) := by
    unfold evsB
    rw [← List.flatMap_append, ← List.map_append, List.take_append_drop]
  rw [h, List.length_append]; omega
theorem printB_parts (ws : List Tx) (ks : List KV) (ns : List Int) (es : List EvP) : printB ⟨ws, ks, ns, es⟩ = wordsB ws ++ (cutsB ks ++ endB (setQ ns)) ++ evsB es := by
  unfold printB printLs wordsB cutsB evsB
  simp [List.flatMap_append, List.flatMap_cons, List.append_assoc]
def PrintP (w : World) (r : List UInt8 × Nat) (e : Ending) (w' : World) : Prop := e = .returned (.tuple #[.string ⟨r.1.toArray⟩, .int .i64 r.2]) ∧ Below w.heap.size w w'
theorem page_new (w : World) (B : Nat) (h : B ≤ w.heap.size) : PageIs B w.heap.size [] (w.alloc (.cells #[.pointer none, .slice none 0 0] 68)) :=
  Or.inl ⟨h, .slice none 0 0, heap_alloc_new w _, ⟨rfl, Or.inl ⟨rfl, rfl⟩⟩, by simp [Value.ownBlock]⟩
set_option maxRecDepth 100000 in
set_option maxHeartbeats 3200000 in
theorem print_any (wa ka ea : Option Addr) (nw nk ne wc kc ec : Nat) (a0 a1 a2 a3 a4 a5 a6 a7 a8 a9 : Int) (ws : List Tx) (ks : List KV) (es : List EvP) (w : World)
    (hw : HoldsT w wa nw ws) (hk : HoldsK w ka nk ks) (he : HoldsEv w ea ne es) (ht : Tab10 w) (hnw : nw ≤ 1000000) (hnk : nk ≤ 1000000) (hne : ne ≤ 1000000)
    (hws : ∀ t ∈ ws, t.size ≤ 1048576) (hks : ∀ k ∈ ks, k.2.size ≤ 1048576) (hes : ∀ x ∈ es, x.text.size ≤ 1048576) (hl : mayPr ⟨ws, ks, [a0, a1, a2, a3, a4, a5, a6, a7, a8, a9], es⟩ = true → (printB ⟨ws, ks, [a0, a1, a2, a3, a4, a5, a6, a7, a8, a9], es⟩).length ≤ 90000000) :
    Calls Tryd.prog 15 #[.agg #[.slice wa nw wc, .slice ka nk kc, .int .i64 a0, .int .i64 a1, .int .i64 a2, .int .i64 a3, .int .i64 a4, .int .i64 a5, .int .i64 a6, .int .i64 a7, .int .i64 a8, .int .i64 a9], .slice ea ne ec] w (PrintP w (printF ⟨ws, ks, [a0, a1, a2, a3, a4, a5, a6, a7, a8, a9], es⟩)) := by
  obtain ⟨z, hz⟩ : ∃ z, (cutsQ ks && (numsQ [a0, a1, a2, a3, a4, a5, a6, a7, a8, a9] && es.all mayEv)) = z := ⟨_, rfl⟩
  have hm : mayPr ⟨ws, ks, [a0, a1, a2, a3, a4, a5, a6, a7, a8, a9], es⟩ = z := hz
  have CP := Lib.hid (fun (w' : World) (hb : Below w.heap.size w w') => printable_any wa ka ea nw nk ne wc kc ec a0 a1 a2 a3 a4 a5 a6 a7 a8 a9 ks es z w' (hk.below hb) (he.below hb) hnk hne hz)
  have hel := he.1
  have B1 := Lib.hid (below_one w (.cells #[.slice wa nw wc, .slice ka nk kc, .int .i64 a0, .int .i64 a1, .int .i64 a2, .int .i64 a3, .int .i64 a4, .int .i64 a5, .int .i64 a6, .int .i64 a7, .int .i64 a8, .int .i64 a9] 30))
  have CB := Lib.hid (show (w.alloc (.cells #[.slice wa nw wc, .slice ka nk kc, .int .i64 a0, .int .i64 a1, .int .i64 a2, .int .i64 a3, .int .i64 a4, .int .i64 a5, .int .i64 a6, .int .i64 a7, .int .i64 a8, .int .i64 a9] 30)).heap[w.heap.size]? = some (.cells #[.slice wa nw wc, .slice ka nk kc, .int .i64 a0, .int .i64 a1, .int .i64 a2, .int .i64 a3, .int .i64 a4, .int .i64 a5, .int .i64 a6, .int .i64 a7, .int .i64 a8, .int .i64 a9] 30 (0, 0)) from heap_alloc_new w _)
  cases z with
  | false =>
    have hr : printF ⟨ws, ks, [a0, a1, a2, a3, a4, a5, a6, a7, a8, a9], es⟩ = ([], 2) := by unfold printF; rw [if_pos hm]
    rw [hr]
    clear hw hk he hz hm hr hl ht
    go_enter Tryd.func15, Tryd.ntmps15
    go_wp2_with fail
    refine (CP.out _ B1.out).mono ?_
    rintro e w2 ⟨rfl, hb2⟩
    have B2 := Lib.hid (below_next B1.out hb2)
    clear hb2
    go_wp2_with fail
    go_ret2
    exact ⟨rfl, B2.out⟩
  | true =>
    have hcq : cutsQ ks = true ∧ numsQ [a0, a1, a2, a3, a4, a5, a6, a7, a8, a9] = true ∧ es.all mayEv = true := by simpa [Bool.and_eq_true] using hz
    have HM := Lib.hid hm
    have hl := hl hm
    rw [printB_parts] at hl
    simp only [List.length_append] at hl
    have HL := Lib.hid hl
    have CC := Lib.hid (fun (w' : World) (b : Nat) (hp : PageIs w.heap.size b [] w') (hb : Below w.heap.size w w') => config_page w.heap.size b [] wa ka nw nk wc kc a0 a1 a2 a3 a4 a5 a6 a7 a8 a9 ws ks w' hp hb.size (fun w2 h2 => hw.below (hb.trans h2)) (fun w2 h2 => hk.below (hb.trans h2)) (fun w2 h2 => ht.below (hb.trans h2) (Nat.le_refl _)) hnw hnk hws hks hcq.1 hcq.2.1 (by have := HL.out; simp; omega))
    have HE := Lib.hid (fun (w' : World) (hb : Below w.heap.size w w') => he.below hb)
    have HT := Lib.hid (fun (w' : World) (hb : Below w.heap.size w w') => ht.below hb (Nat.le_refl _))
    have HQ := Lib.hid hcq.2.2
    have HES := Lib.hid hes
    clear hw hk he hz hm hl ht hcq hws hks hes
    go_enter Tryd.func15, Tryd.ntmps15
    go_wp2_with fail
    refine (CP.out _ B1.out).mono ?_
    rintro e w2 ⟨rfl, hb2⟩
    have B2 := Lib.hid (below_next B1.out hb2)
    have KQ := Lib.hid (show w2.heap[w.heap.size]? = some (.cells #[.slice wa nw wc, .slice ka nk kc, .int .i64 a0, .int .i64 a1, .int .i64 a2, .int .i64 a3, .int .i64 a4, .int .i64 a5, .int .i64 a6, .int .i64 a7, .int .i64 a8, .int .i64 a9] 30 (0, 0)) from (hb2.block _ (lt_of_heap29 CB.out)).trans CB.out)
    have hP0 := page_new w2 w.heap.size B2.out.size
    obtain ⟨p, hp⟩ : ∃ p, w2.heap.size = p := ⟨_, rfl⟩
    rw [hp] at hP0
    have P0 := Lib.hid hP0
    have B3 := Lib.hid (below_next B2.out (below_one w2 (.cells #[.pointer none, .slice none 0 0] 68)))
    have KA := Lib.hid (show (w2.alloc (.cells #[.pointer none, .slice none 0 0] 68)).heap[w.heap.size]? = some (.cells #[.slice wa nw wc, .slice ka nk kc, .int .i64 a0, .int .i64 a1, .int .i64 a2, .int .i64 a3, .int .i64 a4, .int .i64 a5, .int .i64 a6, .int .i64 a7, .int .i64 a8, .int .i64 a9] 30 (0, 0)) from ((below_one w2 _).block _ (lt_of_heap29 KQ.out)).trans KQ.out)
    clear hb2 CP CB hP0
    go_upto_region 4 with fail
    try rw [hp]
    generalize w2.alloc (.cells #[.pointer none, .slice none 0 0] 68) = w3 at *
    have f0 : w3.cell? ⟨w.heap.size, 0, none⟩ = some (.slice wa nw wc) := by rw [Lib.cell_of_heap KA.out]; rfl
    have f1 : w3.cell? ⟨w.heap.size, 1, none⟩ = some (.slice ka nk kc) := by rw [Lib.cell_of_heap KA.out]; rfl
    have f2 : w3.cell? ⟨w.heap.size, 2, none⟩ = some (.int .i64 a0) := by rw [Lib.cell_of_heap KA.out]; rfl
    have f3 : w3.cell? ⟨w.heap.size, 3, none⟩ = some (.int .i64 a1) := by rw [Lib.cell_of_heap KA.out]; rfl
    have f4 : w3.cell? ⟨w.heap.size, 4, none⟩ = some (.int .i64 a2) := by rw [Lib.cell_of_heap KA.out]; rfl
    have f5 : w3.cell? ⟨w.heap.size, 5, none⟩ = some (.int .i64 a3) := by rw [Lib.cell_of_heap KA.out]; rfl
    have f6 : w3.cell? ⟨w.heap.size, 6, none⟩ = some (.int .i64 a4) := by rw [Lib.cell_of_heap KA.out]; rfl
    have f7 : w3.cell? ⟨w.heap.size, 7, none⟩ = some (.int .i64 a5) := by rw [Lib.cell_of_heap KA.out]; rfl
    have f8 : w3.cell? ⟨w.heap.size, 8, none⟩ = some (.int .i64 a6) := by rw [Lib.cell_of_heap KA.out]; rfl
    have f9 : w3.cell? ⟨w.heap.size, 9, none⟩ = some (.int .i64 a7) := by rw [Lib.cell_of_heap KA.out]; rfl
    have f10 : w3.cell? ⟨w.heap.size, 10, none⟩ = some (.int .i64 a8) := by rw [Lib.cell_of_heap KA.out]; rfl
    have f11 : w3.cell? ⟨w.heap.size, 11, none⟩ = some (.int .i64 a9) := by rw [Lib.cell_of_heap KA.out]; rfl
    clear hp
    go_wp2_with fail
    refine (CC.out w3 p P0.out B3.out).mono ?_
    rintro e w4 ⟨rfl, hp4, hb4, -⟩
    have B4 := Lib.hid (B3.out.trans hb4)
    obtain ⟨l0, hl0⟩ : ∃ l0, wordsB ws ++ (cutsB ks ++ endB (setQ [a0, a1, a2, a3, a4, a5, a6, a7, a8, a9])) = l0 := ⟨_, rfl⟩
    have hll : l0.length = (wordsB ws).length + ((cutsB ks).length + (endB (setQ [a0, a1, a2, a3, a4, a5, a6, a7, a8, a9])).length) := by rw [← hl0]; simp
    rw [List.nil_append, hl0] at hp4
    have P4 := Lib.hid (show PageIs w.heap.size p (l0 ++ evsB (es.take 0)) w4 from by simpa [evsB] using hp4)
    have HL0 := Lib.hid hl0
    have HLL := Lib.hid hll
    clear hb4 hp4 hl0 hll f0 f1 f2 f3 f4 f5 f6 f7 f8 f9 f10 f11
    go_wp2_with fail
    go_loopw [17] (fun iv wr => ∃ j : Nat, j ≤ ne ∧ iv = .int .i64 j ∧ Hid (PageIs w.heap.size p (l0 ++ evsB (es.take j)) wr) ∧ Hid (Below w.heap.size w wr)) (fun iv _ => ne - (intOf iv).toNat)
    case atStart => exact ⟨0, by omega, rfl, P4, B4⟩
    case round =>
      clear P4 B4
      obtain ⟨j, hj, rfl, hP, hB⟩ := hrel
      by_cases hlt : j < ne
      · obtain ⟨bb, o, rfl, hc⟩ := (HE.out wr hB.out).2 (by omega)
        have hx := hc j hlt
        have hmem : es.getD j ev0 ∈ es := getD_memEv es j (by omega)
        have hs1 : evsB (es.take (j + 1)) = evsB (es.take j) ++ endB (evQ (es.getD j ev0)) := by rw [take_getD29 es ev0 j (by omega), evsB_snoc]
        have hle := evsB_le es (j + 1)
        rw [hs1, List.length_append] at hle
        obtain ⟨x, hxx⟩ : ∃ x, es.getD j ev0 = x := ⟨_, rfl⟩
        rw [hxx] at hx hs1 hle hmem
        obtain ⟨x0, x1, x2, x3, x4, x5, x6⟩ := hx
        have hbd : (l0 ++ evsB (es.take j)).length + (lineB (evQ x)).length ≤ 90000000 := by
          have h1 := HL.out
          have h3 := HLL.out
          have h2 : (endB (evQ x)).length = (lineB (evQ x)).length + 1 := by simp [endB]
          rw [List.length_append]; omega
        have hmx : mayEv x = true := List.all_eq_true.1 HQ.out x hmem
        have BX := Lib.hid (below_next hB.out (below_one wr (.cells #[.int .i64 x.kd, .int .i64 x.nd, .int .i64 x.pl, .int .i64 x.x, .string x.text, .int .i64 x.k, .int .i64 x.n] 50)))
        have CE := Lib.hid (event_page w.heap.size p (l0 ++ evsB (es.take j)) x (wr.alloc (.cells #[.int .i64 x.kd, .int .i64 x.nd, .int .i64 x.pl, .int .i64 x.x, .string x.text, .int .i64 x.k, .int .i64 x.n] 50)) (hP.out.below (below_one _ _)) BX.out.size (HT.out _ BX.out) hmx hbd (HES.out x hmem))
        have HS1 := Lib.hid hs1
        have i1 : (0 : Int) ≤ (j : Int) := by omega
        have i2 : (j : Int) < (ne : Int) := by omega
        clear hc hmem hs1 hle hxx hbd hmx
        go_wp2_with fail
        refine CE.out.mono ?_
        rintro e w6 ⟨rfl, hp6, hb6⟩
        have P6 := Lib.hid (show PageIs w.heap.size p (l0 ++ evsB (es.take (j + 1))) w6 from by rw [HS1.out, ← List.append_assoc]; exact hp6)
        have B6 := Lib.hid (BX.out.trans hb6)
        clear hp6 hb6 CE x0 x1 x2 x3 x4 x5 x6
        go_wp2_with fail
        go_roundw
        case rel => exact ⟨j + 1, by omega, by go_num, P6, B6⟩
        case measure => simp [intOf]; omega
      · obtain rfl : ne = j := by omega
        have hpx := hP.out
        rw [List.take_of_length_le (by omega)] at hpx
        have hpb : l0 ++ evsB es = printB ⟨ws, ks, [a0, a1, a2, a3, a4, a5, a6, a7, a8, a9], es⟩ := by rw [printB_parts, HL0.out]
        rw [hpb] at hpx
        obtain ⟨n, hn⟩ : ∃ n, (printB ⟨ws, ks, [a0, a1, a2, a3, a4, a5, a6, a7, a8, a9], es⟩).length = n := ⟨_, rfl⟩
        have hl9 : n ≤ 90000000 := by rw [← hn, ← hpb, List.length_append, HLL.out]; exact HL.out
        have CN := Lib.hid (plen_any w.heap.size p _ n wr hpx hn)
        have CS := Lib.hid (fun h0 => pstring_any w.heap.size p _ wr hpx h0)
        have HF := Lib.hid (show printF ⟨ws, ks, [a0, a1, a2, a3, a4, a5, a6, a7, a8, a9], es⟩ = if 65536 < n then ([], 3) else (printB ⟨ws, ks, [a0, a1, a2, a3, a4, a5, a6, a7, a8, a9], es⟩, 0) from by unfold printF; rw [if_neg (by rw [HM.out]; decide), hn])
        have HNE := Lib.hid (show printB ⟨ws, ks, [a0, a1, a2, a3, a4, a5, a6, a7, a8, a9], es⟩ ≠ [] from fun e => by have h1 := print_last ⟨ws, ks, [a0, a1, a2, a3, a4, a5, a6, a7, a8, a9], es⟩; rw [e] at h1; cases h1)
        clear hpx hpb hn hP CC HT HE HQ HES
        by_cases hbig : 65536 < n
        · have d1 : decide ((n : Int) > 65536) = true := decide_eq_true (by omega)
          have d2 : decide (65536 < n) = true := decide_eq_true hbig
          have d3 : decide ((65536 : Int) < (n : Int)) = true := decide_eq_true (by omega)
          have hf := HF.out
          rw [if_pos hbig] at hf
          have HF2 := Lib.hid hf
          clear hf hbig HF
          go_wp2_with fail
          refine CN.out.mono ?_
          rintro e w7 ⟨rfl, rfl⟩
          go_wp2_with fail
          go_ret2
          exact ⟨by rw [HF2.out]; rfl, hB.out⟩
        · have d1 : decide ((n : Int) > 65536) = false := decide_eq_false (by omega)
          have d2 : decide (65536 < n) = false := decide_eq_false hbig
          have d3 : decide ((65536 : Int) < (n : Int)) = false := decide_eq_false (by omega)
          have hf := HF.out
          rw [if_neg hbig] at hf
          have HF2 := Lib.hid hf
          have CS2 := Lib.hid (CS.out HNE.out)
          clear hf hbig HF CS
          go_wp2_with fail
          refine CN.out.mono ?_
          rintro e w7 ⟨rfl, rfl⟩
          go_wp2_with fail
          refine CS2.out.mono ?_
          rintro e w8 ⟨rfl, hb8⟩
          have B8 := Lib.hid (hB.out.trans hb8)
          clear hb8
          go_wp2_with fail
          go_ret2
          exact ⟨by rw [HF2.out]; rfl, B8.out⟩
end Go.Proofs.YtmddnklafplikaaDoor
namespace Go.Proofs.YtmddnklafplikaaDoor
open Go.RowKit
set_option linter.unusedVariables false
set_option maxRecDepth 20000
def GreatE (w : World) (es : List EvP) (e : Ending) (w' : World) : Prop := ∃ z, e = .returned (.bool z) ∧ (z = false → es.length ≤ 300 ∧ ∀ x ∈ es, x.text.size ≤ 100) ∧ w' = w
set_option maxHeartbeats 1600000 in
theorem greatE_any (a : Option Addr) (n c : Nat) (es : List EvP) (w : World) (h : HoldsEv w a n es) (hn : n ≤ 9223372036854775807) (hs : ∀ x ∈ es, x.text.size ≤ 9223372036854775807) :
    Calls Tryd.prog 14 #[.slice a n c, .int .i64 300] w (GreatE w es) := by
  have hl := h.1
  have HH := Lib.hid h
  have HS := Lib.hid hs
  clear h hs
  go_enter Tryd.func14, Tryd.ntmps14
  go_upto_region 2 with fail
  by_cases hb : n ≤ 300
  · have d1 : decide (n ≤ 300) = true := decide_eq_true hb
    have d2 : decide ((n : Int) > 300) = false := decide_eq_false (by omega)
    have d3 : decide (300 < n) = false := decide_eq_false (by omega)
    go_loopw [5] (fun iv wr => ∃ i : Nat, i ≤ n ∧ iv = .int .i64 i ∧ Hid (∀ x ∈ es.take i, x.text.size ≤ 100) ∧ wr = w) (fun iv _ => n - (intOf iv).toNat)
    case atStart => exact ⟨0, by omega, rfl, Lib.hid (by simp), rfl⟩
    case round =>
      obtain ⟨i, hi, rfl, hS, rfl⟩ := hrel
      by_cases hlt : i < n
      · obtain ⟨b, o, rfl, hc⟩ := HH.out.2 (by omega)
        obtain ⟨-, -, -, -, e4, -, -⟩ := hc i hlt
        have hm : es.getD i ev0 ∈ es := getD_memEv es i (by omega)
        obtain ⟨x, hx⟩ : ∃ x, es.getD i ev0 = x := ⟨_, rfl⟩
        rw [hx] at e4 hm
        obtain ⟨t, ht⟩ : ∃ t, x.text = t := ⟨_, rfl⟩
        have hts := HS.out x hm
        rw [ht] at e4 hts
        have TK := Lib.hid (show es.take (i + 1) = es.take i ++ [x] from by rw [take_getD29 es ev0 i (by omega), hx])
        have HT := Lib.hid ht
        have i1 : (0 : Int) ≤ (i : Int) := by omega
        have i2 : (i : Int) < (n : Int) := by omega
        clear hc hx hm ht
        by_cases hbig : 100 < t.size
        · have c2 : decide (100 < t.size) = true := decide_eq_true hbig
          have c3 : decide ((t.size : Int) > 100) = true := decide_eq_true (by omega)
          go_wp2_with fail
          go_ret
          exact ⟨true, rfl, by simp, rfl⟩
        · have c2 : decide (100 < t.size) = false := decide_eq_false hbig
          have c3 : decide ((t.size : Int) > 100) = false := decide_eq_false (by omega)
          have S2 := Lib.hid (show ∀ x ∈ es.take (i + 1), x.text.size ≤ 100 from by
            rw [TK.out]
            intro y hy
            rcases List.mem_append.1 hy with hy | hy
            · exact hS.out y hy
            · simp only [List.mem_singleton] at hy; rw [hy, HT.out]; omega)
          go_wp2_with fail
          go_roundw
          case rel => exact ⟨i + 1, by omega, by go_num, S2, trivial⟩
          case measure => simp [intOf]; omega
      · obtain rfl : n = i := by omega
        have hA := hS.out
        rw [List.take_of_length_le (by omega)] at hA
        have HA := Lib.hid hA
        clear hA
        go_wp2_with fail
        go_ret
        exact ⟨false, rfl, fun _ => ⟨by omega, HA.out⟩, rfl⟩
  · have d1 : decide (n ≤ 300) = false := decide_eq_false hb
    have d2 : decide ((n : Int) > 300) = true := decide_eq_true (by omega)
    have d3 : decide (300 < n) = true := decide_eq_true (by omega)
    have d4 : decide (0 < n) = true := decide_eq_true (by omega)
    go_loop [5] (fun iv => iv = .int .i64 ((0 : Nat) : Int)) (fun _ => 0)
    case atStart => exact rfl
    case round =>
      subst hrel
      go_wp2_with fail
      go_ret
      exact ⟨true, rfl, by simp, rfl⟩
end Go.Proofs.YtmddnklafplikaaDoor
namespace Go.Proofs.YtmddnklafplikaaDoor
open Go.RowKit
set_option linter.unusedVariables false
set_option maxRecDepth 20000
theorem getD_memT (zs : List Tx) (j : Nat) (h : j < zs.length) : zs.getD j ByteArray.empty ∈ zs := by
  rw [List.getD_eq_getElem?_getD, List.getElem?_eq_getElem h]; simp
def smallP (ts : List Tx) : Prop := ∀ t ∈ ts, t.size ≤ 100
def greatB (ts : List Tx) : Bool := decide (80 < ts.length ∨ ∃ t ∈ ts, 100 < t.size)
theorem great_yes {ts : List Tx} (h : 80 < ts.length ∨ ∃ t ∈ ts, 100 < t.size) : greatB ts = true := decide_eq_true h
theorem great_no {ts : List Tx} (h1 : ts.length ≤ 80) (h2 : smallP ts) : greatB ts = false := by
  refine decide_eq_false ?_
  rintro (h | ⟨t, ht, h⟩)
  · omega
  · have := h2 t ht; omega
set_option maxHeartbeats 800000 in
theorem great_any (a : Option Addr) (n cap : Nat) (ts : List Tx) (w : World) (hh : HoldsT w a n ts) (hn : n ≤ 9223372036854775807) (hsz : ∀ t ∈ ts, t.size ≤ 9223372036854775807) :
    Calls Tryd.prog 27 #[.slice a n cap] w fun e w' => e = .returned (.bool (greatB ts)) ∧ Below w.heap.size w w' := by
  have hl := hh.len
  by_cases h80 : n ≤ 80
  case neg =>
    rw [great_yes (Or.inl (by omega))]
    go_enter Tryd.func27, Tryd.ntmps27
    go_wp2_with fail
    go_loopw [3] (fun iv wr => iv = .int .i64 0 ∧ wr = w) (fun _ _ => 0)
    case atStart => exact ⟨rfl, rfl⟩
    case round =>
      obtain ⟨rfl, rfl⟩ := hrel
      go_wp2_with fail
      go_ret
      exact ⟨rfl, Below.refl _ _⟩
  go_enter Tryd.func27, Tryd.ntmps27
  go_wp2_with fail
  go_loopw [3] (fun iv wr => ∃ j : Nat, j ≤ n ∧ iv = .int .i64 j ∧ Hid (smallP (ts.take j)) ∧ Hid (Below w.heap.size w wr)) (fun iv _ => n - (intOf iv).toNat)
  case atStart => exact ⟨0, by omega, rfl, Lib.hid (by simp [smallP]), Lib.hid (Below.refl _ _)⟩
  case round =>
    obtain ⟨j, hj, rfl, hS, hB⟩ := hrel
    by_cases hlt : j < n
    · obtain ⟨b, o, rfl, hc⟩ := (hh.below hB.out).at (by omega)
      have e1 := hc j hlt
      have hmem := getD_memT ts j (by omega)
      have htk := take_succ_getD ts ByteArray.empty j (by omega)
      obtain ⟨x, hx⟩ : ∃ x, ts.getD j ByteArray.empty = x := ⟨_, rfl⟩
      rw [hx] at e1 hmem htk
      have hxs := hsz x hmem
      have HM := Lib.hid hmem; have HT := Lib.hid htk
      clear hx hmem htk hc
      by_cases hg : 100 < x.size
      · have hgr := great_yes (ts := ts) (Or.inr ⟨x, HM.out, hg⟩)
        have HG := Lib.hid hgr
        clear hgr
        go_wp2_with fail
        go_ret
        exact ⟨ret_bool HG.out.symm, hB.out⟩
      · go_wp2_with fail
        go_roundw
        case rel => exact ⟨j + 1, by omega, by go_num, Lib.hid (by rw [HT.out]; intro z hz; rcases List.mem_append.1 hz with hz | hz; exact hS.out z hz; simp at hz; rw [hz]; omega), hB⟩
        case measure => simp [intOf]; omega
    · have hjn : ts.take j = ts := List.take_of_length_le (by omega)
      have hgr := great_no (ts := ts) (by omega) (by have := hS.out; rw [hjn] at this; exact this)
      have HG := Lib.hid hgr
      clear hjn hgr
      go_wp2_with fail
      go_ret
      exact ⟨ret_bool (by rw [HG.out, decide_eq_false_iff_not]; omega), hB.out⟩
end Go.Proofs.YtmddnklafplikaaDoor
namespace Go.Proofs.YtmddnklafplikaaDoor
open Go.RowKit
set_option linter.unusedVariables false
set_option maxRecDepth 20000
theorem greatB_no {ts : List Tx} (h : greatB ts = false) : ts.length ≤ 80 ∧ ∀ t ∈ ts, t.size ≤ 100 := by
  have h1 := of_decide_eq_false h
  refine ⟨by rcases Nat.lt_or_ge 80 ts.length with h2 | h2; (· exact absurd (Or.inl h2) h1); (· exact h2), fun t ht => ?_⟩
  rcases Nat.lt_or_ge 100 t.size with h2 | h2
  · exact absurd (Or.inr ⟨t, ht, h2⟩) h1
  · exact h2
def GreatK (w : World) (ws : List Tx) (ks : List KV) (e : Ending) (w' : World) : Prop := ∃ z, e = .returned (.bool z) ∧ (z = false → (ws.length ≤ 80 ∧ ∀ t ∈ ws, t.size ≤ 100) ∧ ks.length ≤ 10 ∧ ∀ k ∈ ks, k.2.size ≤ 100) ∧ Below w.heap.size w w'
set_option maxHeartbeats 1600000 in
theorem greatK_any (wa ka : Option Addr) (nw nk wc kc : Nat) (a0 a1 a2 a3 a4 a5 a6 a7 a8 a9 : Int) (ws : List Tx) (ks : List KV) (w : World) (hw : HoldsT w wa nw ws) (hk : HoldsK w ka nk ks)
    (hn : nw ≤ 9223372036854775807) (hs : ∀ t ∈ ws, t.size ≤ 9223372036854775807) (hnk : nk ≤ 9223372036854775807) (hks : ∀ k ∈ ks, k.2.size ≤ 9223372036854775807) :
    Calls Tryd.prog 13 #[.agg #[.slice wa nw wc, .slice ka nk kc, .int .i64 a0, .int .i64 a1, .int .i64 a2, .int .i64 a3, .int .i64 a4, .int .i64 a5, .int .i64 a6, .int .i64 a7, .int .i64 a8, .int .i64 a9]] w (GreatK w ws ks) := by
  have BX := Lib.hid (below_one w (.cells #[.slice wa nw wc, .slice ka nk kc, .int .i64 a0, .int .i64 a1, .int .i64 a2, .int .i64 a3, .int .i64 a4, .int .i64 a5, .int .i64 a6, .int .i64 a7, .int .i64 a8, .int .i64 a9] 30))
  have CB := Lib.hid (show (w.alloc (.cells #[.slice wa nw wc, .slice ka nk kc, .int .i64 a0, .int .i64 a1, .int .i64 a2, .int .i64 a3, .int .i64 a4, .int .i64 a5, .int .i64 a6, .int .i64 a7, .int .i64 a8, .int .i64 a9] 30)).heap[w.heap.size]? = some (.cells #[.slice wa nw wc, .slice ka nk kc, .int .i64 a0, .int .i64 a1, .int .i64 a2, .int .i64 a3, .int .i64 a4, .int .i64 a5, .int .i64 a6, .int .i64 a7, .int .i64 a8, .int .i64 a9] 30 (0, 0)) from heap_alloc_new w _)
  have HW := Lib.hid (hw.below BX.out)
  have HK := Lib.hid (hk.below BX.out)
  have HS := Lib.hid hs
  have HKS := Lib.hid hks
  have hl := hk.1
  clear hw hk hs hks
  go_enter Tryd.func13, Tryd.ntmps13
  go_upto_region 2 with fail
  have BE := Lib.hid BX.out
  generalize w.alloc (.cells #[.slice wa nw wc, .slice ka nk kc, .int .i64 a0, .int .i64 a1, .int .i64 a2, .int .i64 a3, .int .i64 a4, .int .i64 a5, .int .i64 a6, .int .i64 a7, .int .i64 a8, .int .i64 a9] 30) = w1 at *
  obtain ⟨p, hp⟩ : ∃ p, w.heap.size = p := ⟨_, rfl⟩
  rw [hp] at CB
  try rw [hp]
  have i0 : w1.cell? ⟨p, 0, none⟩ = some (.slice wa nw wc) := by rw [Lib.cell_of_heap CB.out]; rfl
  have i1 : w1.cell? ⟨p, 1, none⟩ = some (.slice ka nk kc) := by rw [Lib.cell_of_heap CB.out]; rfl
  clear hp CB BX
  have CG := Lib.hid (great_any wa nw wc ws w1 HW.out hn HS.out)
  obtain ⟨g, hg⟩ : ∃ g, greatB ws = g := ⟨_, rfl⟩
  rw [hg] at CG
  have HG := Lib.hid hg
  clear hg
  by_cases h10 : nk ≤ 10
  · have d1 : decide (nk ≤ 10) = true := decide_eq_true h10
    have d2 : decide ((nk : Int) > 10) = false := decide_eq_false (by omega)
    have d3 : decide (10 < nk) = false := decide_eq_false (by omega)
    go_loopw [3] (fun iv wr => ∃ i : Nat, i ≤ nk ∧ iv = .int .i64 i ∧ Hid (∀ k ∈ ks.take i, k.2.size ≤ 100) ∧ wr = w1) (fun iv _ => nk - (intOf iv).toNat)
    case atStart => exact ⟨0, by omega, rfl, Lib.hid (by simp), rfl⟩
    case round =>
      obtain ⟨i, hi, rfl, hS, rfl⟩ := hrel
      by_cases hlt : i < nk
      · obtain ⟨kb, ko, rfl, hc⟩ := HK.out.2 (by omega)
        have e2 := (hc i hlt).2
        have hm : ks.getD i k0 ∈ ks := by rw [List.getD_eq_getElem?_getD, List.getElem?_eq_getElem (by omega)]; exact List.getElem_mem _
        have hsz := HKS.out _ hm
        obtain ⟨k, hkk⟩ : ∃ k, ks.getD i k0 = k := ⟨_, rfl⟩
        have TK := Lib.hid (show ks.take (i + 1) = ks.take i ++ [k] from by rw [take_getD29 ks k0 i (by omega), hkk])
        rw [hkk] at e2 hsz
        obtain ⟨x, hx⟩ : ∃ x, k.2 = x := ⟨_, rfl⟩
        rw [hx] at e2 hsz
        have HX := Lib.hid hx
        have n1 : (0 : Int) ≤ (i : Int) := by omega
        have n2 : (i : Int) < (nk : Int) := by omega
        clear hc hx hm hkk
        by_cases hbig : 100 < x.size
        · have c2 : decide (100 < x.size) = true := decide_eq_true hbig
          have c3 : decide ((x.size : Int) > 100) = true := decide_eq_true (by omega)
          go_wp2_with fail
          go_ret
          exact ⟨true, rfl, by simp, BE.out⟩
        · have c2 : decide (100 < x.size) = false := decide_eq_false hbig
          have c3 : decide ((x.size : Int) > 100) = false := decide_eq_false (by omega)
          have S2 := Lib.hid (show ∀ k ∈ ks.take (i + 1), k.2.size ≤ 100 from by
            rw [TK.out]
            intro y hy
            rcases List.mem_append.1 hy with hy | hy
            · exact hS.out y hy
            · simp only [List.mem_singleton] at hy; rw [hy, HX.out]; omega)
          go_wp2_with fail
          go_roundw
          case rel => exact ⟨i + 1, by omega, by go_num, S2, trivial⟩
          case measure => simp [intOf]; omega
      · obtain rfl : nk = i := by omega
        have hA := hS.out
        rw [List.take_of_length_le (by omega)] at hA
        have HA := Lib.hid hA
        clear hA
        go_wp2_with fail
        refine CG.out.mono ?_
        rintro e w2 ⟨rfl, hb2⟩
        have j1 := (hb2.cell (p := ⟨p, 1, none⟩) (lt_of_cell i1)).trans i1
        have B2 := Lib.hid (BE.out.trans (hb2.mono BE.out.size))
        clear hb2
        cases g
        · go_wp2_with fail
          go_ret
          exact ⟨false, rfl, fun _ => ⟨greatB_no HG.out, by omega, HA.out⟩, B2.out⟩
        · go_wp2_with fail
          go_ret
          exact ⟨true, rfl, by simp, B2.out⟩
  · have d1 : decide (nk ≤ 10) = false := decide_eq_false h10
    have d2 : decide ((nk : Int) > 10) = true := decide_eq_true (by omega)
    have d3 : decide (10 < nk) = true := decide_eq_true (by omega)
    have d4 : decide (0 < nk) = true := decide_eq_true (by omega)
    go_loop [3] (fun iv => iv = .int .i64 ((0 : Nat) : Int)) (fun _ => 0)
    case atStart => exact rfl
    case round =>
      obtain rfl := hrel
      go_wp2_with fail
      refine CG.out.mono ?_
      rintro e w2 ⟨rfl, hb2⟩
      have j1 := (hb2.cell (p := ⟨p, 1, none⟩) (lt_of_cell i1)).trans i1
      have B2 := Lib.hid (BE.out.trans (hb2.mono BE.out.size))
      clear hb2
      cases g
      · go_wp2_with fail
        go_ret
        exact ⟨true, rfl, by simp, B2.out⟩
      · go_wp2_with fail
        go_ret
        exact ⟨true, rfl, by simp, B2.out⟩
end Go.Proofs.YtmddnklafplikaaDoor
namespace Go.Proofs.YtmddnklafplikaaDoor
open Go.RowKit
set_option linter.unusedVariables false
set_option maxRecDepth 20000
theorem flat_le {α : Type} (f : α → List UInt8) (m : Nat) : ∀ L : List α, (∀ x ∈ L, (f x).length ≤ m) → (L.flatMap f).length ≤ L.length * m
  | [], _ => by simp
  | x :: L, h => by
    have h1 := h x (by simp)
    have h2 := flat_le f m L fun y hy => h y (by simp [hy])
    rw [List.flatMap_cons, List.length_append, List.length_cons, Nat.succ_mul]
    omega
theorem decI_len {z : Int} (h : numQ z = true) : (decI z).length ≤ 6 := by
  have h2 : 0 ≤ z ∧ z ≤ 999999 := of_decide_eq_true h
  exact (dec_len z.toNat (by omega)).2
theorem quoL_len (t : Tx) (h : t.size ≤ 100) : (quoL t.data.toList).length ≤ 302 := by
  have h1 := quoB_len t.data.toList
  have h2 : t.data.toList.length = t.size := Array.length_toList
  simp only [quoL, List.length_cons, List.length_append, List.length_nil]
  omega
theorem endB_len (ps : List (List UInt8)) : (endB ps).length ≤ (ps.map (fun p => p.length + 1)).sum + 1 := by
  have := lineB_len ps
  simp only [endB, List.length_append, List.length_cons, List.length_nil]
  omega
theorem nums_len {ns : List Int} (h : numsQ ns = true) : ((ns.map decI).map (fun p => p.length + 1)).sum ≤ ns.length * 7 := by
  induction ns with
  | nil => simp
  | cons z l ih =>
    unfold numsQ at h ih
    rw [List.all_cons, Bool.and_eq_true] at h
    have h1 := decI_len h.1
    have h2 := ih h.2
    simp only [List.map_cons, List.sum_cons, List.length_cons] at h2 ⊢
    omega
theorem printB_small (ws : List Tx) (ks : List KV) (ns : List Int) (es : List EvP) (h1 : ws.length ≤ 80 ∧ ∀ t ∈ ws, t.size ≤ 100) (h2 : ks.length ≤ 10 ∧ ∀ k ∈ ks, k.2.size ≤ 100) (hn : ns.length = 10) (h3 : es.length ≤ 300 ∧ ∀ x ∈ es, x.text.size ≤ 100) (hm : mayPr ⟨ws, ks, ns, es⟩ = true) :
    (printB ⟨ws, ks, ns, es⟩).length ≤ 90000000 := by
  unfold mayPr at hm
  simp only [Bool.and_eq_true] at hm
  obtain ⟨m1, m2, m3⟩ := hm
  have w1 : (wordsB ws).length ≤ (ws.map wordQ).length * 1000 := flat_le endB 1000 _ fun x hx => by
    obtain ⟨t, ht, rfl⟩ := List.mem_map.1 hx
    have := endB_len (wordQ t)
    have := quoL_len t (h1.2 t ht)
    simp only [wordQ, List.map_cons, List.map_nil, List.sum_cons, List.sum_nil, wordB, List.length_cons, List.length_nil] at *
    omega
  have w2 : (cutsB ks).length ≤ (ks.map cutQ).length * 1000 := flat_le endB 1000 _ fun x hx => by
    obtain ⟨k, hk, rfl⟩ := List.mem_map.1 hx
    have := endB_len (cutQ k)
    have := quoL_len k.2 (h2.2 k hk)
    have := decI_len (List.all_eq_true.1 m1 k hk)
    simp only [cutQ, List.map_cons, List.map_nil, List.sum_cons, List.sum_nil, cutB, List.length_cons, List.length_nil] at *
    omega
  have w3 : (endB (setQ ns)).length ≤ 1000 := by
    have h4 := endB_len (setQ ns)
    have h5 := nums_len m2
    simp only [setQ, List.map_cons, List.sum_cons, setB, List.length_cons, List.length_nil] at *
    omega
  have w4 : (evsB es).length ≤ (es.map evQ).length * 1000 := flat_le endB 1000 _ fun x hx => by
    obtain ⟨e, he, rfl⟩ := List.mem_map.1 hx
    have h4 := endB_len (evQ e)
    have h5 := quoL_len e.text (h3.2 e he)
    have h6 := List.all_eq_true.1 m3 e he
    unfold mayEv at h6
    unfold evQ at h4 ⊢
    split
    · rename_i hk
      rw [if_pos hk] at h6 h4
      simp only [Bool.and_eq_true] at h6
      have := decI_len h6.2.1
      have := decI_len h6.2.2
      simp only [askB, List.map_cons, List.map_nil, List.sum_cons, List.sum_nil, List.length_cons, List.length_nil] at *
      omega
    · rename_i hk
      rw [if_neg hk] at h6 h4
      simp only [Bool.and_eq_true] at h6
      have h7 := nums_len h6.2
      have h8 : (nosEv e).length = 4 := rfl
      simp only [evB, List.map_cons, List.sum_cons, List.length_cons, List.length_nil] at *
      omega
  rw [printB_parts]
  simp only [List.length_append, List.length_map] at *
  omega
end Go.Proofs.YtmddnklafplikaaDoor
namespace Go.Proofs.YtmddnklafplikaaDoor
open Go.RowKit
set_option linter.unusedVariables false
set_option maxRecDepth 20000
def keysV : List KV → List Value
  | [] => []
  | k :: ks => .int .i64 k.1 :: .string k.2 :: keysV ks
theorem keysV_app : ∀ ks ls : List KV, keysV (ks ++ ls) = keysV ks ++ keysV ls
  | [], ls => rfl
  | k :: ks, ls => by simp [keysV, keysV_app ks ls]
end Go.Proofs.YtmddnklafplikaaDoor
namespace Go.Proofs.YtmddnklafplikaaDoor
open Go.RowKit
set_option linter.unusedVariables false
set_option maxRecDepth 20000
theorem own_kindS {w : World} {B : Nat} {e : TypeId} {s : Nat} {v : Value} {n : Nat} {xs : List Value} (h : w.ownsRow B e s v n xs) : ∀ g, v.ownBlock = some g → ∃ cs fz, w.heap[g]? = some (.cells cs e fz) := by
  intro g hg
  rcases h.2 with ⟨rfl, _⟩ | ⟨g', cap, cur, rfl, _, hgg, _⟩
  · simp [Value.ownBlock] at hg
  · simp [Value.ownBlock] at hg
    subst hg
    exact ⟨cur, _, hgg⟩
theorem own_otherS {w : World} {B B' : Nat} {e e' : TypeId} {s s' : Nat} {v v' : Value} {n n' : Nat} {xs xs' : List Value} (h1 : w.ownsRow B e s v n xs) (h2 : w.ownsRow B' e' s' v' n' xs') (ne : e ≠ e') : v.ownBlock = none ∨ v.ownBlock ≠ v'.ownBlock := by
  cases h : v.ownBlock with
  | none => exact Or.inl rfl
  | some g =>
    refine Or.inr fun e1 => ?_
    obtain ⟨c1, f1, k1⟩ := own_kindS h1 g h
    obtain ⟨c2, f2, k2⟩ := own_kindS h2 g e1.symm
    rw [k1] at k2
    injection k2 with k2
    injection k2 with _ k2 _
    exact ne k2
theorem own_blkS {w : World} {B : Nat} {e : TypeId} {s : Nat} {v : Value} {n : Nat} {xs : List Value} (h1 : w.ownsRow B e s v n xs) {b : Nat} {cs : Array Value} {T : TypeId} {fz : Nat × Nat} (hb : w.heap[b]? = some (.cells cs T fz)) (ne : T ≠ e) : some b ≠ v.ownBlock := by
  intro h
  obtain ⟨c1, f1, k1⟩ := own_kindS h1 b h.symm
  rw [hb] at k1
  injection k1 with k1
  injection k1 with _ k1 _
  exact ne k1
theorem grown_setS (w : World) (b o : Nat) (v : Value) : w.grownBy (w.setCell ⟨b, o, none⟩ v) (some b) :=
  ⟨rfl, rfl, rfl, by simp, fun k hk hne => Below.heap_setCell w ⟨b, o, none⟩ v k (fun e => hne (by show some k = some b; rw [e]))⟩
/-- blocks below R stay, but b -/
structure KP (R b : Nat) (w w' : World) : Prop where
  bel : Below b w w'
  mid : ∀ k, b < k → k < R → w'.heap[k]? = w.heap[k]?
theorem KP.refl (R b : Nat) (w : World) : KP R b w w := ⟨Below.refl _ _, fun _ _ _ => rfl⟩
theorem KP.trans {R b : Nat} {w w' w'' : World} (h : KP R b w w') (h' : KP R b w' w'') : KP R b w w'' := ⟨h.bel.trans h'.bel, fun k h1 h2 => (h'.mid k h1 h2).trans (h.mid k h1 h2)⟩
theorem KP.below {R b : Nat} {w w' : World} {B : Nat} (h : Below B w w') (hR : R ≤ B) (hb : b < R) : KP R b w w' := ⟨h.mono (by omega), fun k _ h2 => h.block k (by omega)⟩
theorem KP.set {R b : Nat} (w : World) (o : Nat) (v : Value) : KP R b w (w.setCell ⟨b, o, none⟩ v) := ⟨(Below.refl b w).setCell (p := ⟨b, o, none⟩) (Nat.le_refl _) v, fun k h1 _ => Below.heap_setCell w ⟨b, o, none⟩ v k (by show k ≠ b; omega)⟩
def pcells (wa ka ea : Option Addr) (wc kc ec : Nat) (st : PS) : Array Value := #[.slice wa st.ws.length wc, .slice ka st.ks.length kc, .int .i64 (st.ns.getD 0 0), .int .i64 (st.ns.getD 1 0), .int .i64 (st.ns.getD 2 0), .int .i64 (st.ns.getD 3 0), .int .i64 (st.ns.getD 4 0), .int .i64 (st.ns.getD 5 0), .int .i64 (st.ns.getD 6 0), .int .i64 (st.ns.getD 7 0), .int .i64 (st.ns.getD 8 0), .int .i64 (st.ns.getD 9 0), .slice ea st.es.length ec]
structure ParAt (w : World) (R b : Nat) (wa ka ea : Option Addr) (wc kc ec : Nat) (st : PS) : Prop where
  blk : w.heap[b]? = some (.cells (pcells wa ka ea wc kc ec st) 77 (0, 0))
  rw : w.ownsRow R 9 1 (.slice wa st.ws.length wc) st.ws.length (strsV st.ws)
  rk : w.ownsRow R 65 2 (.slice ka st.ks.length kc) st.ks.length (keysV st.ks)
  re : w.ownsRow R 50 7 (.slice ea st.es.length ec) st.es.length (evsV st.es)
  bR : b < R
  len : st.ns.length = 10
  cap : st.ws.length ≤ 1048576 ∧ st.ks.length ≤ 1048576 ∧ st.es.length ≤ 1048576
def PA (w : World) (R b : Nat) (st : PS) : Prop := ∃ wa ka ea wc kc ec, ParAt w R b wa ka ea wc kc ec st
theorem ParAt.below {w w' : World} {R b : Nat} {wa ka ea : Option Addr} {wc kc ec : Nat} {st : PS} (h : ParAt w R b wa ka ea wc kc ec st) (hb : Below w.heap.size w w') : ParAt w' R b wa ka ea wc kc ec st :=
  ⟨by rw [hb.block b (Array.getElem?_eq_some_iff.1 h.blk).1]; exact h.blk, owns_below h.rw hb, owns_below h.rk hb, owns_below h.re hb, h.bR, h.len, h.cap⟩
theorem PA.below {w w' : World} {R b : Nat} {st : PS} (h : PA w R b st) (hb : Below w.heap.size w w') : PA w' R b st := by
  obtain ⟨wa, ka, ea, wc, kc, ec, h⟩ := h
  exact ⟨wa, ka, ea, wc, kc, ec, h.below hb⟩
theorem slice_form {w : World} {B : Nat} {e : TypeId} {s : Nat} {v : Value} {n : Nat} {xs : List Value} (h : w.ownsRow B e s v n xs) (h0 : 0 < n) : ∃ a c, v = .slice a n c := by
  rcases Joins.ownsRow_forms h with ⟨rfl, h1⟩ | ⟨g, cap, rfl⟩
  · omega
  · exact ⟨_, _, rfl⟩
theorem kp_grown {R b : Nat} {w w3 : World} {o : Obj} {row : Option Nat} (hR : R ≤ w.heap.size) (hb : b < R) (hg : (w.alloc o).grownBy w3 row) (hr : ∀ k, row = some k → R ≤ k) : KP R b w w3 := by
  refine KP.below (B := R) ?_ (Nat.le_refl _) hb
  exact ((Below.refl R w).alloc hR o).grown hg (by simp; omega) hr
theorem ParAt.word {w : World} {R b : Nat} {wa ka ea : Option Addr} {wc kc ec : Nat} {st : PS} (h : ParAt w R b wa ka ea wc kc ec st) (hR : R ≤ w.heap.size) {o : Obj} {v : Value} {w3 : World} {t : Tx}
    (hown : w3.ownsRow R 9 1 v (st.ws.length + 1) (strsV st.ws ++ [.string t])) (hg : (w.alloc o).grownBy w3 (Value.slice wa st.ws.length wc).ownBlock) (hc : st.ws.length + 1 ≤ 1048576) :
    w3.heap[b]? = some (.cells (pcells wa ka ea wc kc ec st) 77 (0, 0)) ∧ PA (w3.setCell ⟨b, 0, none⟩ v) R b { st with ws := st.ws ++ [t] } ∧ KP R b w (w3.setCell ⟨b, 0, none⟩ v) := by
  have hlt := (Array.getElem?_eq_some_iff.1 h.blk).1
  have hblk : w3.heap[b]? = some (.cells (pcells wa ka ea wc kc ec st) 77 (0, 0)) := by
    rw [hg.block b (by simp; omega) (own_blkS h.rw h.blk (by decide)), Below.heap_alloc _ _ _ hlt]; exact h.blk
  obtain ⟨a, c, rfl⟩ := slice_form hown (by omega)
  have rk3 := (h.rk.alloc o).kept hg (own_otherS h.rk h.rw (by decide))
  have re3 := (h.re.alloc o).kept hg (own_otherS h.re h.rw (by decide))
  have gs := grown_setS w3 b 0 (.slice a (st.ws.length + 1) c)
  have hl : (st.ws ++ [t]).length = st.ws.length + 1 := by simp
  refine ⟨hblk, ⟨a, ka, ea, c, kc, ec, ?_, ?_, ?_, ?_, h.bR, h.len, by rw [hl]; exact ⟨hc, h.cap.2⟩⟩, (kp_grown hR h.bR hg (fun k hk => (h.rw.lt k hk).1)).trans (KP.set w3 0 _)⟩
  · rw [Joins.block_setCell hblk]
    unfold pcells
    rw [hl]
    rfl
  · rw [hl, strsV_snoc]
    exact hown.kept gs (Or.inr fun e => own_blkS hown hblk (by decide) e.symm)
  · exact rk3.kept gs (Or.inr fun e => own_blkS rk3 hblk (by decide) e.symm)
  · exact re3.kept gs (Or.inr fun e => own_blkS re3 hblk (by decide) e.symm)
end Go.Proofs.YtmddnklafplikaaDoor
namespace Go.Proofs.YtmddnklafplikaaDoor
open Go.RowKit
set_option linter.unusedVariables false
set_option maxRecDepth 20000
theorem ParAt.key {w : World} {R b : Nat} {wa ka ea : Option Addr} {wc kc ec : Nat} {st : PS} (h : ParAt w R b wa ka ea wc kc ec st) (hR : R ≤ w.heap.size) {o : Obj} {v : Value} {w3 : World} {t : KV}
    (hown : w3.ownsRow R 65 2 v (st.ks.length + 1) (keysV st.ks ++ [.int .i64 t.1, .string t.2])) (hg : (w.alloc o).grownBy w3 (Value.slice ka st.ks.length kc).ownBlock) (hc : st.ks.length + 1 ≤ 1048576) :
    w3.heap[b]? = some (.cells (pcells wa ka ea wc kc ec st) 77 (0, 0)) ∧ PA (w3.setCell ⟨b, 1, none⟩ v) R b { st with ks := st.ks ++ [t] } ∧ KP R b w (w3.setCell ⟨b, 1, none⟩ v) := by
  have hlt := (Array.getElem?_eq_some_iff.1 h.blk).1
  have hblk : w3.heap[b]? = some (.cells (pcells wa ka ea wc kc ec st) 77 (0, 0)) := by
    rw [hg.block b (by simp; omega) (own_blkS h.rk h.blk (by decide)), Below.heap_alloc _ _ _ hlt]; exact h.blk
  obtain ⟨a, c, rfl⟩ := slice_form hown (by omega)
  have rw3 := (h.rw.alloc o).kept hg (own_otherS h.rw h.rk (by decide))
  have re3 := (h.re.alloc o).kept hg (own_otherS h.re h.rk (by decide))
  have gs := grown_setS w3 b 1 (.slice a (st.ks.length + 1) c)
  have hl : (st.ks ++ [t]).length = st.ks.length + 1 := by simp
  refine ⟨hblk, ⟨wa, a, ea, wc, c, ec, ?_, ?_, ?_, ?_, h.bR, h.len, by rw [hl]; exact ⟨h.cap.1, hc, h.cap.2.2⟩⟩, (kp_grown hR h.bR hg (fun k hk => (h.rk.lt k hk).1)).trans (KP.set w3 1 _)⟩
  · rw [Joins.block_setCell hblk]
    unfold pcells
    rw [hl]
    rfl
  · exact rw3.kept gs (Or.inr fun e => own_blkS rw3 hblk (by decide) e.symm)
  · rw [hl, keysV_app]
    exact hown.kept gs (Or.inr fun e => own_blkS hown hblk (by decide) e.symm)
  · exact re3.kept gs (Or.inr fun e => own_blkS re3 hblk (by decide) e.symm)
def LineP (R b : Nat) (w : World) (o : Option PS) (e : Ending) (w' : World) : Prop := KP R b w w' ∧ match o with
  | some st' => e = .returned (.bool true) ∧ PA w' R b st'
  | none => e = .returned (.bool false)
theorem LineP.yes {R b : Nat} {w : World} {o : Option PS} {e : Ending} {w' : World} {st' : PS} (ho : o = some st') (h : KP R b w w') (he : e = .returned (.bool true)) (hp : PA w' R b st') : LineP R b w o e w' := by subst ho; exact ⟨h, he, hp⟩
theorem LineP.no {R b : Nat} {w : World} {o : Option PS} {e : Ending} {w' : World} (ho : o = none) (h : KP R b w w') (he : e = .returned (.bool false)) : LineP R b w o e w' := by subst ho; exact ⟨h, he⟩
theorem unqP_some {w : World} {t : Tx} {e : Ending} {w' : World} (h : UnqP w (some t) e w') : e = .returned (.tuple #[.string t, .bool true]) ∧ Below w.heap.size w w' := h
theorem unqP_none {w : World} {e : Ending} {w' : World} (h : UnqP w none e w') : e = .returned (.tuple #[.string { data := #[] }, .bool false]) ∧ Below w.heap.size w w' := h
theorem one_text {ts : List Tx} (h : ts.length = 1) : ∃ t, ts = [t] := by
  match ts, h with
  | [t], _ => exact ⟨t, rfl⟩
theorem two_texts {ts : List Tx} (h : ts.length = 2) : ∃ t u, ts = [t, u] := by
  match ts, h with
  | [t, u], _ => exact ⟨t, u, rfl⟩
theorem three_texts {ts : List Tx} (h : ts.length = 3) : ∃ t u v, ts = [t, u, v] := by
  match ts, h with
  | [t, u, v], _ => exact ⟨t, u, v, rfl⟩
theorem wordF_one (st : PS) (t : Tx) : wordF st (bytesL [t]) = (unqO t.data.toList).map fun t => { st with ws := st.ws ++ [t] } := by
  unfold wordF bytesL
  simp only [List.map_cons, List.map_nil]
  cases unqO t.data.toList <;> rfl
set_option maxRecDepth 100000 in
set_option maxHeartbeats 3200000 in
theorem word_any (R b : Nat) (st : PS) (a : Option Addr) (n cp : Nat) (ts : List Tx) (w : World) (hp : PA w R b st) (hR : R ≤ w.heap.size) (hh : HoldsT w a n ts) (hn : n ≤ 9223372036854775807) (hz : ∀ t ∈ ts, t.size ≤ 300000) (hc : st.ws.length + 1 ≤ 1048576) :
    Calls Tryd.prog 53 #[.pointer (some ⟨b, 0, none⟩), .slice a n cp] w (LineP R b w (wordF st (bytesL ts))) := by
  have hl := hh.len
  by_cases hn1 : n = 1
  case neg =>
    have e1 : wordF st (bytesL ts) = none := by
      unfold wordF
      split
      · rename_i x hx
        have := congrArg List.length hx
        simp [bytesL] at this; omega
      · rfl
    have d1 : ((n : Int) != 1) = true := by simp; omega
    have E1 := Lib.hid e1
    clear hh hl hz e1 hp hn1
    go_enter Tryd.func53, Tryd.ntmps53
    go_wp2_with fail
    go_ret
    exact LineP.no E1.out (KP.refl _ _ _) rfl
  subst hn1
  obtain ⟨t, rfl⟩ := one_text hl
  obtain ⟨bb, oo, rfl, hcc⟩ := hh.at (by omega)
  have x0 : w.cell? ⟨bb, oo, none⟩ = some (.string t) := hcc 0 (by omega)
  have ht := hz t (by simp)
  obtain ⟨i0, hii, hz0, hz1, hz2⟩ := info_parts hi9
  obtain ⟨o, ho⟩ : ∃ o, unqO t.data.toList = o := ⟨_, rfl⟩
  have CU := Lib.hid (fun w => unquote_any t w ht)
  rw [ho] at CU
  have HP := Lib.hid hp
  have hF := wordF_one st t
  rw [ho] at hF
  have HF := Lib.hid hF
  clear hh hl hz hcc hp ho hF
  cases o with
  | none =>
    go_enter Tryd.func53, Tryd.ntmps53
    go_wp2_with fail
    refine (CU.out _).mono ?_
    intro e w4 h4
    obtain ⟨rfl, hb4⟩ := unqP_none h4
    go_wp2_with fail
    go_ret
    exact LineP.no HF.out (KP.below hb4 hR (by obtain ⟨_, _, _, _, _, _, h⟩ := HP.out; exact h.bR)) rfl
  | some u =>
    go_enter Tryd.func53, Tryd.ntmps53
    go_wp2_with fail
    refine (CU.out _).mono ?_
    intro e w4 h4
    obtain ⟨rfl, hb4⟩ := unqP_some h4
    obtain ⟨wa, ka, ea, wc, kc, ec, hq⟩ := HP.out.below hb4
    have HQ := Lib.hid hq
    have K4 := Lib.hid (KP.below hb4 hR hq.bR)
    have hR4 : R ≤ w4.heap.size := Nat.le_trans hR hb4.size
    have c0 : w4.cell? ⟨b, 0, none⟩ = some (.slice wa st.ws.length wc) := by rw [Lib.cell_of_heap hq.blk]; rfl
    clear hb4 hq
    go_wp2_with (at_builtin; refine wpList_append_own _ rfl (.tmp 23) (.tmp 25) 27 rfl R 9 i0 _ 1 16 Tryd.underlying27 hii hz0 hz1 hz2 rfl (by decide) (.slice wa st.ws.length wc) st.ws.length _ rfl (HQ.out.rw.alloc _) _ 1 1 [.string u] rfl rfl (one_new _ _ _ _ _ rfl) (one_str _) (by unfold maxLen; omega) (by omega) (by simp; omega) ?_; intro v3 w3 hown3 hg3 hn3; obtain ⟨a3, c3, rfl⟩ := slice_form hown3 (by omega); have hPW := HQ.out.word hR4 hown3 hg3 hc; have d1 : w3.cell? ⟨b, 0, none⟩ = some (.slice wa st.ws.length wc) := (by rw [Lib.cell_of_heap hPW.1]; rfl); have f1 : w3.frozen? ⟨b, 0, none⟩ = false := Lib.frozen_of_heap hPW.1 0; have P3 := Lib.hid hPW.2; clear hPW)
    go_ret
    exact LineP.yes HF.out (K4.out.trans P3.out.2) rfl P3.out.1
end Go.Proofs.YtmddnklafplikaaDoor
namespace Go.Proofs.YtmddnklafplikaaDoor
open Go.RowKit
set_option linter.unusedVariables false
set_option maxRecDepth 20000
theorem numP_some {w : World} {k : Nat} {e : Ending} {w' : World} (h : NumP w (some k) e w') : e = .returned (.tuple #[.int .i64 (k : Int), .bool true]) ∧ Below w.heap.size w w' := h
theorem numP_none {w : World} {e : Ending} {w' : World} (h : NumP w none e w') : e = .returned (.tuple #[.int .i64 0, .bool false]) ∧ Below w.heap.size w w' := h
theorem cutF_two (st : PS) (t u : Tx) : cutF st (bytesL [t, u]) = (numO t.data.toList).bind fun n => (unqO u.data.toList).map fun x => { st with ks := st.ks ++ [((n : Int), x)] } := by
  unfold cutF bytesL
  simp only [List.map_cons, List.map_nil]
  cases numO t.data.toList <;> cases unqO u.data.toList <;> rfl
theorem key_info : (Tryd.prog.info? 65).map (fun i => (i.zero, i.size, i.bytes)) = some (some (.agg #[.int .i64 0, .string ByteArray.empty]), 2, 24) := by kernel_rfl
theorem new_two (w : World) (x y : Value) (e : TypeId) (fr : Nat × Nat) : ∀ ad, (some ⟨w.heap.size, 0, none⟩ : Option Addr) = some ad → ∀ j u, [x, y][j]? = some u → (w.alloc (.cells #[x, y] e fr)).cell? (ad.add j) = some u := by
  intro ad h j u hj
  cases h
  rw [Go.WideShapes.add_plain, Nat.zero_add, World.cell?_alloc_mark]
  simpa using hj
theorem one_pair (z : Int) (x : ByteArray) : ∀ u ∈ [Value.int .i64 z, Value.string x], u.oneCell' = true := by simp [Value.oneCell']
set_option maxRecDepth 100000 in
set_option maxHeartbeats 3200000 in
theorem cut_pany (R b : Nat) (st : PS) (a : Option Addr) (n cp : Nat) (ts : List Tx) (w : World) (hp : PA w R b st) (hR : R ≤ w.heap.size) (hh : HoldsT w a n ts) (hn : n ≤ 9223372036854775807) (hz : ∀ t ∈ ts, t.size ≤ 300000) (hc : st.ks.length + 1 ≤ 1048576) :
    Calls Tryd.prog 54 #[.pointer (some ⟨b, 0, none⟩), .slice a n cp] w (LineP R b w (cutF st (bytesL ts))) := by
  have hl := hh.len
  by_cases hn1 : n = 2
  case neg =>
    have e1 : cutF st (bytesL ts) = none := by
      unfold cutF
      split
      · rename_i x y hx
        have := congrArg List.length hx
        simp [bytesL] at this; omega
      · rfl
    have d1 : ((n : Int) != 2) = true := by simp; omega
    have E1 := Lib.hid e1
    clear hh hl hz e1 hp hn1
    go_enter Tryd.func54, Tryd.ntmps54
    go_wp2_with fail
    go_ret
    exact LineP.no E1.out (KP.refl _ _ _) rfl
  subst hn1
  obtain ⟨t, u, rfl⟩ := two_texts hl
  obtain ⟨bb, oo, rfl, hcc⟩ := hh.at (by omega)
  have x0 : w.cell? ⟨bb, oo, none⟩ = some (.string t) := hcc 0 (by omega)
  have x1 : w.cell? ⟨bb, oo + 1, none⟩ = some (.string u) := hcc 1 (by omega)
  have ht := hz t (by simp)
  have hu := hz u (by simp)
  obtain ⟨i0, hii, hz0, hz1, hz2⟩ := info_parts key_info
  obtain ⟨o1, ho1⟩ : ∃ o, numO t.data.toList = o := ⟨_, rfl⟩
  obtain ⟨o2, ho2⟩ : ∃ o, unqO u.data.toList = o := ⟨_, rfl⟩
  have CN := Lib.hid (fun w => number_any t w (by omega))
  have CU := Lib.hid (fun w => unquote_any u w hu)
  rw [ho1] at CN
  rw [ho2] at CU
  have HP := Lib.hid hp
  have hF := cutF_two st t u
  rw [ho1, ho2] at hF
  have HF := Lib.hid hF
  have hbR : b < R := by obtain ⟨_, _, _, _, _, _, h⟩ := hp; exact h.bR
  have X1 := Lib.hid x1
  clear hh hl hz hcc hp ho1 ho2 hF x1
  cases o1 with
  | none =>
    go_enter Tryd.func54, Tryd.ntmps54
    go_wp2_with fail
    refine (CN.out _).mono ?_
    intro e w4 h4
    obtain ⟨rfl, hb4⟩ := numP_none h4
    have x1 := (hb4.cell (p := ⟨bb, oo + 1, none⟩) (lt_of_cell X1.out)).trans X1.out
    have B4 := Lib.hid hb4
    clear hb4 h4
    go_wp2_with fail
    refine (CU.out _).mono ?_
    rintro e w5 ⟨rfl, hb5⟩
    have B5 := Lib.hid (B4.out.trans (hb5.mono B4.out.size))
    clear hb5
    cases o2 with
    | none =>
      go_wp2_with fail
      go_ret
      exact LineP.no HF.out (KP.below B5.out hR hbR) rfl
    | some v =>
      go_wp2_with fail
      go_ret
      exact LineP.no HF.out (KP.below B5.out hR hbR) rfl
  | some k =>
    go_enter Tryd.func54, Tryd.ntmps54
    go_wp2_with fail
    refine (CN.out _).mono ?_
    intro e w4 h4
    obtain ⟨rfl, hb4⟩ := numP_some h4
    have x1 := (hb4.cell (p := ⟨bb, oo + 1, none⟩) (lt_of_cell X1.out)).trans X1.out
    have B4 := Lib.hid hb4
    clear hb4 h4
    go_wp2_with fail
    refine (CU.out _).mono ?_
    rintro e w5 ⟨rfl, hb5⟩
    have B5 := Lib.hid (B4.out.trans (hb5.mono B4.out.size))
    have hs5 := hb5.size
    clear hb5
    cases o2 with
    | none =>
      go_wp2_with fail
      go_ret
      exact LineP.no HF.out (KP.below B5.out hR hbR) rfl
    | some v =>
      obtain ⟨wa, ka, ea, wc, kc, ec, hq⟩ := HP.out.below B5.out
      have HQ := Lib.hid hq
      have K4 := Lib.hid (KP.below B5.out hR hbR)
      have hR4 : R ≤ w5.heap.size := Nat.le_trans hR B5.out.size
      have c0 : w5.cell? ⟨b, 1, none⟩ = some (.slice ka st.ks.length kc) := by rw [Lib.cell_of_heap hq.blk]; rfl
      clear hq x1 hs5
      go_wp2_with (at_builtin; refine wpList_append_own _ rfl (.tmp 37) (.tmp 41) 28 rfl R 65 i0 _ 2 24 Tryd.underlying28 hii hz0 hz1 hz2 rfl (by decide) (.slice ka st.ks.length kc) st.ks.length _ rfl (HQ.out.rk.alloc _) _ 1 1 [.int .i64 (k : Int), .string v] rfl rfl (new_two _ _ _ _ _ _ rfl) (one_pair _ _) (by unfold maxLen; omega) (by omega) (by simp; omega) ?_; intro v3 w3 hown3 hg3 hn3; obtain ⟨a3, c3, rfl⟩ := slice_form hown3 (by omega); have hPW := HQ.out.key (t := ((k : Int), v)) hR4 hown3 hg3 hc; have d1 : w3.cell? ⟨b, 1, none⟩ = some (.slice ka st.ks.length kc) := (by rw [Lib.cell_of_heap hPW.1]; rfl); have f1 : w3.frozen? ⟨b, 1, none⟩ = false := Lib.frozen_of_heap hPW.1 1; have P3 := Lib.hid hPW.2; clear hPW)
      go_ret
      exact LineP.yes HF.out (K4.out.trans P3.out.2) rfl P3.out.1
end Go.Proofs.YtmddnklafplikaaDoor
namespace Go.Proofs.YtmddnklafplikaaDoor
open Go.RowKit
set_option linter.unusedVariables false
set_option maxRecDepth 20000
theorem ten_ints {ns : List Int} (h : ns.length = 10) : ∃ a0 a1 a2 a3 a4 a5 a6 a7 a8 a9, ns = [a0, a1, a2, a3, a4, a5, a6, a7, a8, a9] := by
  match ns, h with
  | [a0, a1, a2, a3, a4, a5, a6, a7, a8, a9], _ => exact ⟨a0, a1, a2, a3, a4, a5, a6, a7, a8, a9, rfl⟩
theorem numsP_some {w : World} {ns : List Int} {k : Nat} {e : Ending} {w' : World} (h : NumsP w (some ns) e w') (hk : ns.length = k) : ∃ a c, e = .returned (.tuple #[.slice a k c, .bool true]) ∧ HoldsI .i64 w' a k ns ∧ k ≤ c ∧ Below w.heap.size w w' ∧ ∀ g o, a = some ⟨g, o, none⟩ → w.heap.size ≤ g := by
  subst hk
  obtain ⟨hb, a, c, h1, h2, h3, h4⟩ := h
  exact ⟨a, c, h1, h2, h3, hb, h4⟩
theorem numsP_none {w : World} {e : Ending} {w' : World} (h : NumsP w none e w') : e = .returned (.tuple #[.slice none 0 0, .bool false]) ∧ Below w.heap.size w w' := ⟨h.2, h.1⟩
theorem numsK_len {r : List (List UInt8)} {k : Nat} {ns : List Int} (h : numsK r k = some ns) : ns.length = k := by
  unfold numsK at h
  split at h
  · rename_i h1; exact (numsO_len h).trans h1
  · cases h
theorem drew_at {w : World} {b : Nat} {x : Option Obj} (h : w.heap[b]? = x) : w.drew.heap[b]? = x := h
theorem drew_grown {w w' : World} {r : Option Nat} (h : w.grownBy w' r) : w.grownBy w'.drew r := ⟨h.os, h.tape, h.output, h.size, h.block⟩
theorem grown_trans {w w1 w2 : World} {r : Option Nat} (h : w.grownBy w1 r) (h' : w1.grownBy w2 r) : w.grownBy w2 r := ⟨h'.os.trans h.os, h'.tape.trans h.tape, h'.output.trans h.output, Nat.le_trans h.size h'.size, fun k hk hne => (h'.block k (Nat.lt_of_lt_of_le hk h.size) hne).trans (h.block k hk hne)⟩
theorem one_set {w : World} {b : Nat} {cs : Array Value} {e : TypeId} {fz : Nat × Nat} (h : w.heap[b]? = some (.cells cs e fz)) (i : Nat) (v : Value) : (w.setCell ⟨b, i, none⟩ v).heap[b]? = some (.cells (cs.setIfInBounds i v) e fz) ∧ w.grownBy (w.setCell ⟨b, i, none⟩ v) (some b) := ⟨Joins.block_setCell h v, grown_setS w b i v⟩
theorem five_set {w : World} {b : Nat} {cs : Array Value} {e : TypeId} {fz : Nat × Nat} (h : w.heap[b]? = some (.cells cs e fz)) (i0 i1 i2 i3 i4 : Nat) (v0 v1 v2 v3 v4 : Value) :
    (((((w.setCell ⟨b, i0, none⟩ v0).setCell ⟨b, i1, none⟩ v1).setCell ⟨b, i2, none⟩ v2).setCell ⟨b, i3, none⟩ v3).setCell ⟨b, i4, none⟩ v4).drew.heap[b]? = some (.cells (((((cs.setIfInBounds i0 v0).setIfInBounds i1 v1).setIfInBounds i2 v2).setIfInBounds i3 v3).setIfInBounds i4 v4) e fz) ∧ w.grownBy (((((w.setCell ⟨b, i0, none⟩ v0).setCell ⟨b, i1, none⟩ v1).setCell ⟨b, i2, none⟩ v2).setCell ⟨b, i3, none⟩ v3).setCell ⟨b, i4, none⟩ v4).drew (some b) := by
  have h1 := one_set h i0 v0
  have h2 := one_set h1.1 i1 v1
  have h3 := one_set h2.1 i2 v2
  have h4 := one_set h3.1 i3 v3
  have h5 := one_set h4.1 i4 v4
  exact ⟨drew_at h5.1, drew_grown (grown_trans (grown_trans (grown_trans (grown_trans h1.2 h2.2) h3.2) h4.2) h5.2)⟩
theorem KP.grown {R b : Nat} {w w' : World} (hg : w.grownBy w' (some b)) (hR : R ≤ w.heap.size) (hb : b < R) : KP R b w w' :=
  ⟨(Below.refl b w).grown hg (by omega) (fun k hk => by injection hk with hk; omega), fun k h1 h2 => hg.block k (by omega) (fun e => by injection e with e; omega)⟩
theorem ParAt.nums {w w' : World} {R b : Nat} {wa ka ea : Option Addr} {wc kc ec : Nat} {st : PS} {ns : List Int} (h : ParAt w R b wa ka ea wc kc ec st) (hg : w.grownBy w' (some b)) (hb : w'.heap[b]? = some (.cells (pcells wa ka ea wc kc ec { st with ns := ns }) 77 (0, 0))) (hl : ns.length = 10) : ParAt w' R b wa ka ea wc kc ec { st with ns := ns } :=
  ⟨hb, h.rw.kept hg (Or.inr fun e => own_blkS h.rw h.blk (by decide) e.symm), h.rk.kept hg (Or.inr fun e => own_blkS h.rk h.blk (by decide) e.symm), h.re.kept hg (Or.inr fun e => own_blkS h.re h.blk (by decide) e.symm), h.bR, hl, h.cap⟩
set_option maxRecDepth 100000 in
set_option maxHeartbeats 3200000 in
theorem set_any (R b : Nat) (st : PS) (a : Option Addr) (n cp : Nat) (ts : List Tx) (w : World) (hp : PA w R b st) (hR : R ≤ w.heap.size) (hh : HoldsT w a n ts) (hn : n ≤ 9223372036854775807) (hz : ∀ t ∈ ts, t.size ≤ 300000) :
    Calls Tryd.prog 55 #[.pointer (some ⟨b, 0, none⟩), .slice a n cp] w (LineP R b w (setF st (bytesL ts))) := by
  obtain ⟨o, ho⟩ : ∃ o, numsK (bytesL ts) 10 = o := ⟨_, rfl⟩
  have CN := Lib.hid (numbers_any a n cp 10 ts w hh hn (fun t ht => by have := hz t ht; omega) (by omega))
  rw [ho] at CN
  have hF : setF st (bytesL ts) = o.map fun ns => { st with ns := ns } := by
    unfold setF; rw [ho]; cases o <;> rfl
  have HF := Lib.hid hF
  have HP := Lib.hid hp
  have hbR : b < R := by obtain ⟨_, _, _, _, _, _, h⟩ := hp; exact h.bR
  have hlen : ∀ ns, o = some ns → ns.length = 10 := fun ns e => numsK_len (ho.trans e)
  clear hh hz hp ho hF
  cases o with
  | none =>
    go_enter Tryd.func55, Tryd.ntmps55
    go_wp2_with fail
    refine CN.out.mono ?_
    intro e w4 h4
    obtain ⟨rfl, hb4⟩ := numsP_none h4
    go_wp2_with fail
    go_ret
    exact LineP.no HF.out (KP.below hb4 hR hbR) rfl
  | some ns =>
    have hl := hlen ns rfl
    clear hlen
    go_enter Tryd.func55, Tryd.ntmps55
    go_wp2_with fail
    refine CN.out.mono ?_
    intro e w4 h4
    obtain ⟨xa, xc, rfl, hx, hxc, hb4, hxg⟩ := numsP_some h4 hl
    obtain ⟨xb, xo, rfl, hxx⟩ := hx.at (by omega)
    have HXB := Lib.hid (show xb ≠ b from by have := hxg xb xo rfl; omega)
    obtain ⟨a0, a1, a2, a3, a4, a5, a6, a7, a8, a9, rfl⟩ := ten_ints hl
    have y0 : w4.cell? ⟨xb, xo, none⟩ = some (.int .i64 a0) := hxx 0 (by omega)
    have y1 : w4.cell? ⟨xb, xo + 1, none⟩ = some (.int .i64 a1) := hxx 1 (by omega)
    have y2 : w4.cell? ⟨xb, xo + 2, none⟩ = some (.int .i64 a2) := hxx 2 (by omega)
    have y3 : w4.cell? ⟨xb, xo + 3, none⟩ = some (.int .i64 a3) := hxx 3 (by omega)
    have y4 : w4.cell? ⟨xb, xo + 4, none⟩ = some (.int .i64 a4) := hxx 4 (by omega)
    obtain ⟨wa, ka, ea, wc, kc, ec, hq⟩ := HP.out.below hb4
    have HQ := Lib.hid hq
    have c2 : w4.cell? ⟨b, 2, none⟩ = some (.int .i64 (st.ns.getD 0 0)) := by rw [Lib.cell_of_heap hq.blk]; rfl
    have c3 : w4.cell? ⟨b, 3, none⟩ = some (.int .i64 (st.ns.getD 1 0)) := by rw [Lib.cell_of_heap hq.blk]; rfl
    have c4 : w4.cell? ⟨b, 4, none⟩ = some (.int .i64 (st.ns.getD 2 0)) := by rw [Lib.cell_of_heap hq.blk]; rfl
    have c5 : w4.cell? ⟨b, 5, none⟩ = some (.int .i64 (st.ns.getD 3 0)) := by rw [Lib.cell_of_heap hq.blk]; rfl
    have c6 : w4.cell? ⟨b, 6, none⟩ = some (.int .i64 (st.ns.getD 4 0)) := by rw [Lib.cell_of_heap hq.blk]; rfl
    have ff : ∀ i, w4.frozen? ⟨b, i, none⟩ = false := fun i => Lib.frozen_of_heap hq.blk i
    have f2 := ff 2; have f3 := ff 3; have f4 := ff 4; have f5 := ff 5; have f6 := ff 6
    have B4 := Lib.hid hb4
    have hy9 := Lib.hid hxx
    clear hb4 hxx hx hq ff h4 hxg
    go_upto_region 5 with fail
    have hR4 : R ≤ w4.heap.size := Nat.le_trans hR B4.out.size
    have K4 := Lib.hid (KP.below B4.out hR hbR)
    have hs5 := five_set HQ.out.blk 2 3 4 5 6 (.int .i64 a0) (.int .i64 a1) (.int .i64 a2) (.int .i64 a3) (.int .i64 a4)
    have G5 := Lib.hid hs5.2
    have P5 := Lib.hid (HQ.out.nums (ns := [a0, a1, a2, a3, a4, st.ns.getD 5 0, st.ns.getD 6 0, st.ns.getD 7 0, st.ns.getD 8 0, st.ns.getD 9 0]) hs5.2 (by rw [hs5.1]; rfl) rfl)
    clear hs5
    go_region
    generalize (((((w4.setCell ⟨b, 2, none⟩ (.int .i64 a0)).setCell ⟨b, 3, none⟩ (.int .i64 a1)).setCell ⟨b, 4, none⟩ (.int .i64 a2)).setCell ⟨b, 5, none⟩ (.int .i64 a3)).setCell ⟨b, 6, none⟩ (.int .i64 a4)).drew = w5 at *
    have K5 := Lib.hid (K4.out.trans (KP.grown G5.out hR4 hbR))
    have hR5 : R ≤ w5.heap.size := Nat.le_trans hR4 G5.out.size
    have hcx : ∀ i, i < 10 → w5.cell? ⟨xb, xo + i, none⟩ = some (.int .i64 (([a0, a1, a2, a3, a4, a5, a6, a7, a8, a9] : List Int).getD i 0)) := fun i hi => by
      rw [World.cell?_of_block (w := w4) (by exact G5.out.block xb (lt_of_cell y0) (fun e => HXB.out (by injection e)))]
      exact hy9.out i hi
    have y5 : w5.cell? ⟨xb, xo + 5, none⟩ = some (.int .i64 a5) := hcx 5 (by omega)
    have y6 : w5.cell? ⟨xb, xo + 6, none⟩ = some (.int .i64 a6) := hcx 6 (by omega)
    have y7 : w5.cell? ⟨xb, xo + 7, none⟩ = some (.int .i64 a7) := hcx 7 (by omega)
    have y8 : w5.cell? ⟨xb, xo + 8, none⟩ = some (.int .i64 a8) := hcx 8 (by omega)
    have y9 : w5.cell? ⟨xb, xo + 9, none⟩ = some (.int .i64 a9) := hcx 9 (by omega)
    have hs6 := five_set P5.out.blk 7 8 9 10 11 (.int .i64 a5) (.int .i64 a6) (.int .i64 a7) (.int .i64 a8) (.int .i64 a9)
    have c7 : w5.cell? ⟨b, 7, none⟩ = some (.int .i64 (st.ns.getD 5 0)) := by rw [Lib.cell_of_heap P5.out.blk]; rfl
    have c8 : w5.cell? ⟨b, 8, none⟩ = some (.int .i64 (st.ns.getD 6 0)) := by rw [Lib.cell_of_heap P5.out.blk]; rfl
    have c9 : w5.cell? ⟨b, 9, none⟩ = some (.int .i64 (st.ns.getD 7 0)) := by rw [Lib.cell_of_heap P5.out.blk]; rfl
    have c10 : w5.cell? ⟨b, 10, none⟩ = some (.int .i64 (st.ns.getD 8 0)) := by rw [Lib.cell_of_heap P5.out.blk]; rfl
    have c11 : w5.cell? ⟨b, 11, none⟩ = some (.int .i64 (st.ns.getD 9 0)) := by rw [Lib.cell_of_heap P5.out.blk]; rfl
    have ff : ∀ i, w5.frozen? ⟨b, i, none⟩ = false := fun i => Lib.frozen_of_heap P5.out.blk i
    have f7 := ff 7; have f8 := ff 8; have f9 := ff 9; have f10 := ff 10; have f11 := ff 11
    have G6 := Lib.hid hs6.2
    have P6 := Lib.hid (P5.out.nums (ns := [a0, a1, a2, a3, a4, a5, a6, a7, a8, a9]) hs6.2 (by rw [hs6.1]; rfl) rfl)
    clear hs6 hcx ff y0 y1 y2 y3 y4 c2 c3 c4 c5 c6 f2 f3 f4 f5 f6
    go_upto_region 6 with fail
    go_region
    generalize (((((w5.setCell ⟨b, 7, none⟩ (.int .i64 a5)).setCell ⟨b, 8, none⟩ (.int .i64 a6)).setCell ⟨b, 9, none⟩ (.int .i64 a7)).setCell ⟨b, 10, none⟩ (.int .i64 a8)).setCell ⟨b, 11, none⟩ (.int .i64 a9)).drew = w6 at *
    have K6 := Lib.hid (K5.out.trans (KP.grown G6.out hR5 hbR))
    go_wp2_with fail
    go_ret
    exact LineP.yes HF.out K6.out rfl ⟨_, _, _, _, _, _, P6.out⟩
end Go.Proofs.YtmddnklafplikaaDoor
namespace Go.Proofs.YtmddnklafplikaaDoor
open Go.RowKit
set_option linter.unusedVariables false
set_option maxRecDepth 20000
theorem ParAt.evt {w : World} {R b : Nat} {wa ka ea : Option Addr} {wc kc ec : Nat} {st : PS} (h : ParAt w R b wa ka ea wc kc ec st) (hR : R ≤ w.heap.size) {o : Obj} {v : Value} {w3 : World} {t : EvP}
    (hown : w3.ownsRow R 50 7 v (st.es.length + 1) (evsV st.es ++ cellsEv t)) (hg : (w.alloc o).grownBy w3 (Value.slice ea st.es.length ec).ownBlock) (hc : st.es.length + 1 ≤ 1048576) :
    PA (w3.setCell ⟨b, 12, none⟩ v) R b { st with es := st.es ++ [t] } ∧ KP R b w (w3.setCell ⟨b, 12, none⟩ v) := by
  have hlt := (Array.getElem?_eq_some_iff.1 h.blk).1
  have hblk : w3.heap[b]? = some (.cells (pcells wa ka ea wc kc ec st) 77 (0, 0)) := by
    rw [hg.block b (by simp; omega) (own_blkS h.re h.blk (by decide)), Below.heap_alloc _ _ _ hlt]; exact h.blk
  obtain ⟨a, c, rfl⟩ := slice_form hown (by omega)
  have rw3 := (h.rw.alloc o).kept hg (own_otherS h.rw h.re (by decide))
  have rk3 := (h.rk.alloc o).kept hg (own_otherS h.rk h.re (by decide))
  have gs := grown_setS w3 b 12 (.slice a (st.es.length + 1) c)
  have hl : (st.es ++ [t]).length = st.es.length + 1 := by simp
  refine ⟨⟨wa, ka, a, wc, kc, c, ?_, ?_, ?_, ?_, h.bR, h.len, by rw [hl]; exact ⟨h.cap.1, h.cap.2.1, hc⟩⟩, (kp_grown hR h.bR hg (fun k hk => (h.re.lt k hk).1)).trans (KP.set w3 12 _)⟩
  · rw [Joins.block_setCell hblk]
    unfold pcells
    rw [hl]
    rfl
  · exact rw3.kept gs (Or.inr fun e => own_blkS rw3 hblk (by decide) e.symm)
  · exact rk3.kept gs (Or.inr fun e => own_blkS rk3 hblk (by decide) e.symm)
  · rw [hl, evsV_snoc]
    exact hown.kept gs (Or.inr fun e => own_blkS hown hblk (by decide) e.symm)
theorem ParAt.atEv {w : World} {R b : Nat} {wa ka ea : Option Addr} {wc kc ec : Nat} {st : PS} (h : ParAt w R b wa ka ea wc kc ec st) : w.cell? ⟨b, 12, none⟩ = some (.slice ea st.es.length ec) := by
  rw [Lib.cell_of_heap h.blk]; rfl
theorem ParAt.keepEv {w : World} {R b : Nat} {wa ka ea : Option Addr} {wc kc ec : Nat} {st : PS} (h : ParAt w R b wa ka ea wc kc ec st) (o : Obj) (w' : World) (hg : (w.alloc o).grownBy w' (Value.slice ea st.es.length ec).ownBlock) : w'.cell? ⟨b, 12, none⟩ = some (.slice ea st.es.length ec) ∧ w'.frozen? ⟨b, 12, none⟩ = false := by
  have hlt := (Array.getElem?_eq_some_iff.1 h.blk).1
  have hblk : w'.heap[b]? = some (.cells (pcells wa ka ea wc kc ec st) 77 (0, 0)) := by
    rw [hg.block b (by simp; omega) (own_blkS h.re h.blk (by decide)), Below.heap_alloc _ _ _ hlt]; exact h.blk
  exact ⟨by rw [Lib.cell_of_heap hblk]; rfl, Lib.frozen_of_heap hblk 12⟩
theorem ev_info : (Tryd.prog.info? 50).map (fun i => (i.zero, i.size, i.bytes)) = some (some (.agg #[.int .i64 0, .int .i64 0, .int .i64 0, .int .i64 0, .string { data := #[] }, .int .i64 0, .int .i64 0]), 7, 64) := by kernel_rfl
theorem four_ints {ns : List Int} (h : ns.length = 4) : ∃ a0 a1 a2 a3, ns = [a0, a1, a2, a3] := by
  match ns, h with
  | [a0, a1, a2, a3], _ => exact ⟨a0, a1, a2, a3, rfl⟩
set_option maxRecDepth 100000 in
set_option maxHeartbeats 1600000 in
theorem event_any (R b : Nat) (st : PS) (a : Option Addr) (n cp : Nat) (ts : List Tx) (w : World) (hp : PA w R b st) (hR : R ≤ w.heap.size) (hh : HoldsT w a n ts) (hn : n ≤ 9223372036854775807) (hz : ∀ t ∈ ts, t.size ≤ 300000) (hc : st.es.length + 1 ≤ 1048576) :
    Calls Tryd.prog 56 #[.pointer (some ⟨b, 0, none⟩), .slice a n cp] w (LineP R b w (evF st (bytesL ts))) := by
  obtain ⟨o, ho⟩ : ∃ o, numsK (bytesL ts) 4 = o := ⟨_, rfl⟩
  have CN := Lib.hid (numbers_any a n cp 4 ts w hh hn (fun t ht => by have := hz t ht; omega) (by omega))
  rw [ho] at CN
  have hF : evF st (bytesL ts) = o.bind fun ns => if ns.getD 0 0 = 1 then none else some { st with es := st.es ++ [⟨ns.getD 0 0, ns.getD 1 0, ns.getD 2 0, ns.getD 3 0, ⟨#[]⟩, 0, 0⟩] } := by
    unfold evF; rw [ho]; cases o <;> rfl
  have HF := Lib.hid hF
  have HP := Lib.hid hp
  have hbR : b < R := by obtain ⟨_, _, _, _, _, _, h⟩ := hp; exact h.bR
  have hlen : ∀ ns, o = some ns → ns.length = 4 := fun ns e => numsK_len (ho.trans e)
  clear hh hz hp ho hF
  cases o with
  | none =>
    go_enter Tryd.func56, Tryd.ntmps56
    go_wp2_with fail
    refine CN.out.mono ?_
    intro e w4 h4
    obtain ⟨rfl, hb4⟩ := numsP_none h4
    go_wp2_with fail
    go_ret
    exact LineP.no HF.out (KP.below hb4 hR hbR) rfl
  | some ns =>
    have hl := hlen ns rfl
    clear hlen
    obtain ⟨a0, a1, a2, a3, rfl⟩ := four_ints hl
    have hF2 : evF st (bytesL ts) = if a0 = 1 then none else some { st with es := st.es ++ [⟨a0, a1, a2, a3, ⟨#[]⟩, 0, 0⟩] } := HF.out
    by_cases h1 : a0 = 1
    · subst h1
      rw [if_pos rfl] at hF2
      have HF2 := Lib.hid hF2
      clear hF2 HF
      go_enter Tryd.func56, Tryd.ntmps56
      go_wp2_with fail
      refine CN.out.mono ?_
      intro e w4 h4
      obtain ⟨xa, xc, rfl, hx, hxc, hb4, hxg⟩ := numsP_some h4 hl
      obtain ⟨xb, xo, rfl, hxx⟩ := hx.at (by omega)
      have y0 : w4.cell? ⟨xb, xo, none⟩ = some (.int .i64 1) := hxx 0 (by omega)
      have B4 := Lib.hid hb4
      clear hb4 hxx hx hxg h4
      go_wp2_with fail
      go_ret
      exact LineP.no HF2.out (KP.below B4.out hR hbR) rfl
    · rw [if_neg h1] at hF2
      have HF2 := Lib.hid hF2
      have e1 : (a0 == 1) = false := by simpa using h1
      obtain ⟨i0, hii, hz0, hz1, hz2⟩ := info_parts ev_info
      clear hF2 HF h1
      go_enter Tryd.func56, Tryd.ntmps56
      go_wp2_with fail
      refine CN.out.mono ?_
      intro e w4 h4
      obtain ⟨xa, xc, rfl, hx, hxc, hb4, hxg⟩ := numsP_some h4 hl
      obtain ⟨xb, xo, rfl, hxx⟩ := hx.at (by omega)
      have y0 : w4.cell? ⟨xb, xo, none⟩ = some (.int .i64 a0) := hxx 0 (by omega)
      obtain ⟨wa, ka, ea, wc, kc, ec, hq0⟩ := HP.out
      have hq := hq0.below hb4
      have HQ := Lib.hid (hq.below (Below.refl w4.heap.size w4).drew)
      have hR4 : R ≤ w4.heap.size := Nat.le_trans hR hb4.size
      have hxl := lt_of_cell y0
      have HXB := Lib.hid (show xb ≠ b from by have := hxg xb xo rfl; omega)
      have HXE := Lib.hid (show some xb ≠ (Value.slice ea st.es.length ec).ownBlock from fun e => by
        have h1 := (hq0.re.lt xb e.symm).2
        have h2 := hxg xb xo rfl
        omega)
      have K4 := Lib.hid ((KP.below hb4 hR hbR).trans (KP.below (Below.refl w4.heap.size w4).drew hR4 hbR))
      have KX := Lib.hid (fun (w' : World) (h : w'.heap[xb]? = w4.heap[xb]?) => (show w'.cell? ⟨xb, xo, none⟩ = some (.int .i64 a0) ∧ w'.cell? ⟨xb, xo + 1, none⟩ = some (.int .i64 a1) ∧ w'.cell? ⟨xb, xo + 2, none⟩ = some (.int .i64 a2) ∧ w'.cell? ⟨xb, xo + 3, none⟩ = some (.int .i64 a3) from
        ⟨(World.cell?_of_block (w := w4) h).trans (hxx 0 (by omega)), (World.cell?_of_block (w := w4) h).trans (hxx 1 (by omega)), (World.cell?_of_block (w := w4) h).trans (hxx 2 (by omega)), (World.cell?_of_block (w := w4) h).trans (hxx 3 (by omega))⟩))
      have n1 : w4.drew.cell? ⟨b, 12, none⟩ = some (.slice ea st.es.length ec) := HQ.out.atEv
      have n5 : (w4.drew.alloc (.cells #[.int .i64 a0, .int .i64 a1, .int .i64 a2, .int .i64 a3, .string { data := #[] }, .int .i64 0, .int .i64 0] 50)).cell? ⟨b, 12, none⟩ = some (.slice ea st.es.length ec) := (HQ.out.below (below_one w4.drew _)).atEv
      have AX := Lib.hid (show ∀ o, (w4.drew.alloc o).heap[xb]? = w4.heap[xb]? from fun o => Below.heap_alloc w4.drew o xb hxl)
      have GX := Lib.hid (show ∀ o w', (w4.drew.alloc o).grownBy w' (Value.slice ea st.es.length ec).ownBlock → w'.heap[xb]? = w4.heap[xb]? from fun o w' hg => (hg.block xb (by simp; exact Nat.lt_succ_of_lt hxl) HXE.out).trans (AX.out o))
      clear hb4 hxx hx hxg h4 hq hq0
      go_upto_region 4 with fail
      clear y0
      have hS0 := KX.out w4.drew rfl
      have hRX : R ≤ w4.drew.heap.size := hR4
      refine wp_region_held_drew (S := (fun w' => w'.cell? ⟨xb, xo, none⟩ = some (.int .i64 a0) ∧ w'.cell? ⟨xb, xo + 1, none⟩ = some (.int .i64 a1) ∧ w'.cell? ⟨xb, xo + 2, none⟩ = some (.int .i64 a2) ∧ w'.cell? ⟨xb, xo + 3, none⟩ = some (.int .i64 a3))) (by kernel_rfl) hS0 (fun hHeld0 => ?_)
      clear hS0 hR4
      generalize w4.drew = X0 at *
      refine wpAnyH_take (i := 0) (oi := { dst := some 20, op := Op.move (Operand.tmp 0), type := 94, pos := "parse.go:77", after := #[], guard := none }) (v := ?vz1) rfl (by kernel_rfl) (by kernel_rfl) (by kernel_rfl) (fun _ _ _ h => h) (Or.inl ⟨by rfl, ?hyz1⟩) (by assumption) ?restz1
      case hyz1 => (intro w hSw; (try dsimp only at hSw); go_simp; (try with_reducible rfl))
      try simp only [Act.put, List.setIfInBounds_toArray, List.set_cons_zero, List.set_cons_succ]
      refine wpAnyH_take (i := 1) (oi := { dst := some 21, op := Op.move (Operand.tmp 0), type := 94, pos := "parse.go:77", after := #[], guard := none }) (v := ?vz2) rfl (by kernel_rfl) (by kernel_rfl) (by kernel_rfl) (fun _ _ _ h => h) (Or.inl ⟨by rfl, ?hyz2⟩) (by assumption) ?restz2
      case hyz2 => (intro w hSw; (try dsimp only at hSw); go_simp; (try with_reducible rfl))
      try simp only [Act.put, List.setIfInBounds_toArray, List.set_cons_zero, List.set_cons_succ]
      refine wpAnyH_take (i := 2) (oi := { dst := some 22, op := Op.nilCheck (Operand.tmp 21), type := 0, pos := "parse.go:77", after := #[{ on := 1, ground := Ground.data }], guard := none }) (v := ?vz3) rfl (by kernel_rfl) (by kernel_rfl) (by kernel_rfl) (fun _ _ _ h => h) (Or.inl ⟨by rfl, ?hyz3⟩) (by assumption) ?restz3
      case hyz3 => (intro w hSw; (try dsimp only at hSw); go_simp; (try with_reducible rfl))
      try simp only [Act.put, List.setIfInBounds_toArray, List.set_cons_zero, List.set_cons_succ]
      refine wpAnyH_take (i := 3) (oi := { dst := some 23, op := Op.fieldAddr 77 (Operand.tmp 22) 1, type := 0, pos := "parse.go:77", after := #[{ on := 2, ground := Ground.data }], guard := none }) (v := ?vz4) rfl (by kernel_rfl) (by kernel_rfl) (by kernel_rfl) (fun _ _ _ h => h) (Or.inl ⟨by rfl, ?hyz4⟩) (by assumption) ?restz4
      case hyz4 => (intro w hSw; (try dsimp only at hSw); go_simp; (try with_reducible rfl))
      try simp only [Act.put, List.setIfInBounds_toArray, List.set_cons_zero, List.set_cons_succ]
      refine wpAnyH_take (i := 5) (oi := { dst := some 25, op := Op.move (Operand.tmp 5), type := 73, pos := "parse.go:77", after := #[], guard := none }) (v := ?vz5) rfl (by kernel_rfl) (by kernel_rfl) (by kernel_rfl) (fun _ _ _ h => h) (Or.inl ⟨by rfl, ?hyz5⟩) (by assumption) ?restz5
      case hyz5 => (intro w hSw; (try dsimp only at hSw); go_simp; (try with_reducible rfl))
      try simp only [Act.put, List.setIfInBounds_toArray, List.set_cons_zero, List.set_cons_succ]
      refine wpAnyH_take (i := 6) (oi := { dst := some 26, op := Op.indexAddr 73 (Operand.tmp 25) (Operand.const (Value.int IntKind.i64 0)), type := 0, pos := "parse.go:77", after := #[{ on := 5, ground := Ground.data }], guard := none }) (v := ?vz6) rfl (by kernel_rfl) (by kernel_rfl) (by kernel_rfl) (fun _ _ _ h => h) (Or.inl ⟨by rfl, ?hyz6⟩) (by assumption) ?restz6
      case hyz6 => (intro w hSw; (try dsimp only at hSw); go_simp; (try with_reducible rfl))
      try simp only [Act.put, List.setIfInBounds_toArray, List.set_cons_zero, List.set_cons_succ]
      refine wpAnyH_take (i := 7) (oi := { dst := some 27, op := Op.load 3 (Operand.tmp 26), type := 3, pos := "parse.go:77", after := #[{ on := 6, ground := Ground.data }], guard := none }) (v := ?vz7) rfl (by kernel_rfl) (by kernel_rfl) (by kernel_rfl) (fun _ _ _ h => h) (Or.inl ⟨by rfl, ?hyz7⟩) (by assumption) ?restz7
      case hyz7 => (intro w hSw; (try dsimp only at hSw); go_simp; (try with_reducible rfl))
      try simp only [Act.put, List.setIfInBounds_toArray, List.set_cons_zero, List.set_cons_succ]
      refine wpAnyH_take (i := 8) (oi := { dst := some 28, op := Op.move (Operand.tmp 5), type := 73, pos := "parse.go:77", after := #[], guard := none }) (v := ?vz8) rfl (by kernel_rfl) (by kernel_rfl) (by kernel_rfl) (fun _ _ _ h => h) (Or.inl ⟨by rfl, ?hyz8⟩) (by assumption) ?restz8
      case hyz8 => (intro w hSw; (try dsimp only at hSw); go_simp; (try with_reducible rfl))
      try simp only [Act.put, List.setIfInBounds_toArray, List.set_cons_zero, List.set_cons_succ]
      refine wpAnyH_take (i := 9) (oi := { dst := some 29, op := Op.indexAddr 73 (Operand.tmp 28) (Operand.const (Value.int IntKind.i64 1)), type := 0, pos := "parse.go:77", after := #[{ on := 8, ground := Ground.data }], guard := none }) (v := ?vz9) rfl (by kernel_rfl) (by kernel_rfl) (by kernel_rfl) (fun _ _ _ h => h) (Or.inl ⟨by rfl, ?hyz9⟩) (by assumption) ?restz9
      case hyz9 => (intro w hSw; (try dsimp only at hSw); go_simp; (try with_reducible rfl))
      try simp only [Act.put, List.setIfInBounds_toArray, List.set_cons_zero, List.set_cons_succ]
      refine wpAnyH_take (i := 10) (oi := { dst := some 30, op := Op.load 3 (Operand.tmp 29), type := 3, pos := "parse.go:77", after := #[{ on := 9, ground := Ground.data }], guard := none }) (v := ?vz10) rfl (by kernel_rfl) (by kernel_rfl) (by kernel_rfl) (fun _ _ _ h => h) (Or.inl ⟨by rfl, ?hyz10⟩) (by assumption) ?restz10
      case hyz10 => (intro w hSw; (try dsimp only at hSw); go_simp; (try with_reducible rfl))
      try simp only [Act.put, List.setIfInBounds_toArray, List.set_cons_zero, List.set_cons_succ]
      refine wpAnyH_take (i := 11) (oi := { dst := some 31, op := Op.move (Operand.tmp 5), type := 73, pos := "parse.go:77", after := #[], guard := none }) (v := ?vz11) rfl (by kernel_rfl) (by kernel_rfl) (by kernel_rfl) (fun _ _ _ h => h) (Or.inl ⟨by rfl, ?hyz11⟩) (by assumption) ?restz11
      case hyz11 => (intro w hSw; (try dsimp only at hSw); go_simp; (try with_reducible rfl))
      try simp only [Act.put, List.setIfInBounds_toArray, List.set_cons_zero, List.set_cons_succ]
      refine wpAnyH_take (i := 12) (oi := { dst := some 32, op := Op.indexAddr 73 (Operand.tmp 31) (Operand.const (Value.int IntKind.i64 2)), type := 0, pos := "parse.go:77", after := #[{ on := 11, ground := Ground.data }], guard := none }) (v := ?vz12) rfl (by kernel_rfl) (by kernel_rfl) (by kernel_rfl) (fun _ _ _ h => h) (Or.inl ⟨by rfl, ?hyz12⟩) (by assumption) ?restz12
      case hyz12 => (intro w hSw; (try dsimp only at hSw); go_simp; (try with_reducible rfl))
      try simp only [Act.put, List.setIfInBounds_toArray, List.set_cons_zero, List.set_cons_succ]
      refine wpAnyH_take (i := 13) (oi := { dst := some 33, op := Op.load 3 (Operand.tmp 32), type := 3, pos := "parse.go:77", after := #[{ on := 12, ground := Ground.data }], guard := none }) (v := ?vz13) rfl (by kernel_rfl) (by kernel_rfl) (by kernel_rfl) (fun _ _ _ h => h) (Or.inl ⟨by rfl, ?hyz13⟩) (by assumption) ?restz13
      case hyz13 => (intro w hSw; (try dsimp only at hSw); go_simp; (try with_reducible rfl))
      try simp only [Act.put, List.setIfInBounds_toArray, List.set_cons_zero, List.set_cons_succ]
      refine wpAnyH_take (i := 14) (oi := { dst := some 34, op := Op.move (Operand.tmp 5), type := 73, pos := "parse.go:77", after := #[], guard := none }) (v := ?vz14) rfl (by kernel_rfl) (by kernel_rfl) (by kernel_rfl) (fun _ _ _ h => h) (Or.inl ⟨by rfl, ?hyz14⟩) (by assumption) ?restz14
      case hyz14 => (intro w hSw; (try dsimp only at hSw); go_simp; (try with_reducible rfl))
      try simp only [Act.put, List.setIfInBounds_toArray, List.set_cons_zero, List.set_cons_succ]
      refine wpAnyH_take (i := 15) (oi := { dst := some 35, op := Op.indexAddr 73 (Operand.tmp 34) (Operand.const (Value.int IntKind.i64 3)), type := 0, pos := "parse.go:77", after := #[{ on := 14, ground := Ground.data }], guard := none }) (v := ?vz15) rfl (by kernel_rfl) (by kernel_rfl) (by kernel_rfl) (fun _ _ _ h => h) (Or.inl ⟨by rfl, ?hyz15⟩) (by assumption) ?restz15
      case hyz15 => (intro w hSw; (try dsimp only at hSw); go_simp; (try with_reducible rfl))
      try simp only [Act.put, List.setIfInBounds_toArray, List.set_cons_zero, List.set_cons_succ]
      refine wpAnyH_take (i := 16) (oi := { dst := some 36, op := Op.load 3 (Operand.tmp 35), type := 3, pos := "parse.go:77", after := #[{ on := 15, ground := Ground.data }], guard := none }) (v := ?vz16) rfl (by kernel_rfl) (by kernel_rfl) (by kernel_rfl) (fun _ _ _ h => h) (Or.inl ⟨by rfl, ?hyz16⟩) (by assumption) ?restz16
      case hyz16 => (intro w hSw; (try dsimp only at hSw); go_simp; (try with_reducible rfl))
      try simp only [Act.put, List.setIfInBounds_toArray, List.set_cons_zero, List.set_cons_succ]
      refine wpAnyH_take (i := 17) (oi := { dst := some 37, op := Op.build 50 #[(0, Operand.tmp 27), (1, Operand.tmp 30), (2, Operand.tmp 33), (3, Operand.tmp 36)], type := 50, pos := "parse.go:77", after := #[{ on := 7, ground := Ground.data }, { on := 10, ground := Ground.data }, { on := 13, ground := Ground.data }, { on := 16, ground := Ground.data }], guard := none }) (v := ?vz17) rfl (by kernel_rfl) (by kernel_rfl) (by kernel_rfl) (fun _ _ _ h => h) (Or.inl ⟨by rfl, ?hyz17⟩) (by assumption) ?restz17
      case hyz17 => (intro w hSw; (try dsimp only at hSw); go_simp; (try with_reducible rfl))
      try simp only [Act.put, List.setIfInBounds_toArray, List.set_cons_zero, List.set_cons_succ]
      refine wpAnyH_ready (rs := [4, 18]) (by kernel_rfl) (by simp) ?_
      refine AllReadyH.cons (o := { dst := some 24, op := Op.load 31 (Operand.tmp 23), type := 31, pos := "parse.go:77", after := #[{ on := 3, ground := Ground.data }], guard := none }) rfl (fun K hK => ?_) (AllReadyH.cons (o := { dst := some 38, op := Op.buildSlice 31 1 #[(0, Operand.tmp 37)], type := 31, pos := "parse.go:77", after := #[{ on := 17, ground := Ground.data }], guard := none }) rfl (fun K hK => ?_) AllReadyH.nil)
      · go_simp
        refine hK.out _ _ hHeld0 (fun hHeld1 => ?_)
        clear hK K hHeld0
        try simp only [Act.put, List.setIfInBounds_toArray, List.set_cons_zero, List.set_cons_succ]
        refine wpAnyH_ready (rs := [18]) (by kernel_rfl) (by simp) ?_
        refine AllReadyH.cons (o := { dst := some 38, op := Op.buildSlice 31 1 #[(0, Operand.tmp 37)], type := 31, pos := "parse.go:77", after := #[{ on := 17, ground := Ground.data }], guard := none }) rfl (fun K hK => ?_) AllReadyH.nil
        · go_simp
          refine hK.out _ _ (KX.out _ (AX.out _)) (fun hHeld2 => ?_)
          clear hK K hHeld1
          try simp only [Act.put, List.setIfInBounds_toArray, List.set_cons_zero, List.set_cons_succ]
          refine wpAnyH_ready (rs := [19]) (by kernel_rfl) (by simp) ?_
          refine AllReadyH.cons (o := { dst := some 39, op := Op.call { callee := Callee.builtin Builtin.append, args := #[Operand.tmp 24, Operand.tmp 38], argTypes := #[31, 31] }, type := 31, pos := "parse.go:77", after := #[{ on := 4, ground := Ground.data }, { on := 18, ground := Ground.data }], guard := none }) rfl (fun K hK => ?_) AllReadyH.nil
          · refine step_append_lies _ (by rfl) _ _ _ (by rfl) R 50 i0 _ 7 64 Tryd.underlying31 hii hz0 hz1 hz2 rfl (by omega) (.slice ea st.es.length ec) st.es.length (evsV st.es) (by rfl) (HQ.out.re.alloc _) ⟨X0.heap.size, 0, none⟩ 1 1 [.int .i64 a0, .int .i64 a1, .int .i64 a2, .int .i64 a3, .string { data := #[] }, .int .i64 0, .int .i64 0] (by rfl) (by rfl) (World.news_of_block (cs := #[.int .i64 a0, .int .i64 a1, .int .i64 a2, .int .i64 a3, .string { data := #[] }, .int .i64 0, .int .i64 0]) (t := 50) (fr := (0, 0)) (heap_alloc_new X0 _)) (by simp [Value.oneCell']) (by omega) (by unfold maxLen; omega) (by omega) (by simp; omega) (X0.heap.size + 1) (by simp) ?_
            intro g3 c3 w9 hown9 hgrow9 hat9 hlt9
            obtain ⟨x0, x1⟩ := HQ.out.keepEv _ _ hgrow9
            have x2 := GX.out _ _ hgrow9
            refine hK.out _ _ (KX.out _ x2) (fun hHeld3 => ?_)
            clear hK K hHeld2
            try simp only [Act.put, List.setIfInBounds_toArray, List.set_cons_zero, List.set_cons_succ]
            refine wpAnyH_take (i := 20) (oi := { dst := some 40, op := Op.nilCheck (Operand.tmp 20), type := 0, pos := "parse.go:77", after := #[{ on := 0, ground := Ground.data }, { on := 0, ground := Ground.phase }, { on := 1, ground := Ground.phase }, { on := 2, ground := Ground.phase }, { on := 3, ground := Ground.phase }, { on := 4, ground := Ground.phase }, { on := 5, ground := Ground.phase }, { on := 6, ground := Ground.phase }, { on := 7, ground := Ground.phase }, { on := 8, ground := Ground.phase }, { on := 9, ground := Ground.phase }, { on := 10, ground := Ground.phase }, { on := 11, ground := Ground.phase }, { on := 12, ground := Ground.phase }, { on := 13, ground := Ground.phase }, { on := 14, ground := Ground.phase }, { on := 15, ground := Ground.phase }, { on := 16, ground := Ground.phase }, { on := 17, ground := Ground.phase }, { on := 18, ground := Ground.phase }, { on := 19, ground := Ground.phase }], guard := none }) (v := ?vz18) rfl (by kernel_rfl) (by kernel_rfl) (by kernel_rfl) (fun _ _ _ h => h) (Or.inl ⟨by rfl, ?hyz18⟩) (by assumption) ?restz18
            case hyz18 => (intro w hSw; (try dsimp only at hSw); go_simp; (try with_reducible rfl))
            try simp only [Act.put, List.setIfInBounds_toArray, List.set_cons_zero, List.set_cons_succ]
            refine wpAnyH_take (i := 21) (oi := { dst := some 41, op := Op.fieldAddr 77 (Operand.tmp 40) 1, type := 0, pos := "parse.go:77", after := #[{ on := 20, ground := Ground.data }, { on := 0, ground := Ground.phase }, { on := 1, ground := Ground.phase }, { on := 2, ground := Ground.phase }, { on := 3, ground := Ground.phase }, { on := 4, ground := Ground.phase }, { on := 5, ground := Ground.phase }, { on := 6, ground := Ground.phase }, { on := 7, ground := Ground.phase }, { on := 8, ground := Ground.phase }, { on := 9, ground := Ground.phase }, { on := 10, ground := Ground.phase }, { on := 11, ground := Ground.phase }, { on := 12, ground := Ground.phase }, { on := 13, ground := Ground.phase }, { on := 14, ground := Ground.phase }, { on := 15, ground := Ground.phase }, { on := 16, ground := Ground.phase }, { on := 17, ground := Ground.phase }, { on := 18, ground := Ground.phase }, { on := 19, ground := Ground.phase }], guard := none }) (v := ?vz19) rfl (by kernel_rfl) (by kernel_rfl) (by kernel_rfl) (fun _ _ _ h => h) (Or.inl ⟨by rfl, ?hyz19⟩) (by assumption) ?restz19
            case hyz19 => (intro w hSw; (try dsimp only at hSw); go_simp; (try with_reducible rfl))
            try simp only [Act.put, List.setIfInBounds_toArray, List.set_cons_zero, List.set_cons_succ]
            refine wpAnyH_ready (rs := [22]) (by kernel_rfl) (by simp) ?_
            refine AllReadyH.cons (o := { dst := none, op := Op.store 31 (Operand.tmp 41) (Operand.tmp 39), type := 0, pos := "parse.go:77", after := #[{ on := 21, ground := Ground.data }, { on := 19, ground := Ground.data }, { on := 19, ground := Ground.chain }, { on := 0, ground := Ground.phase }, { on := 1, ground := Ground.phase }, { on := 2, ground := Ground.phase }, { on := 3, ground := Ground.phase }, { on := 4, ground := Ground.phase }, { on := 5, ground := Ground.phase }, { on := 6, ground := Ground.phase }, { on := 7, ground := Ground.phase }, { on := 8, ground := Ground.phase }, { on := 9, ground := Ground.phase }, { on := 10, ground := Ground.phase }, { on := 11, ground := Ground.phase }, { on := 12, ground := Ground.phase }, { on := 13, ground := Ground.phase }, { on := 14, ground := Ground.phase }, { on := 15, ground := Ground.phase }, { on := 16, ground := Ground.phase }, { on := 17, ground := Ground.phase }, { on := 18, ground := Ground.phase }, { on := 19, ground := Ground.phase }], guard := none }) rfl (fun K hK => ?_) AllReadyH.nil
            · go_simp
              refine hK.out _ _ (KX.out _ ((Below.heap_setCell _ ⟨b, 12, none⟩ _ _ HXB.out).trans x2)) (fun hHeldE => ?_)
              clear hK K hHeld3
              try simp only [Act.put]
              refine wpAnyH_done (by kernel_rfl) ?_ _
              have P3 := Lib.hid (HQ.out.evt (t := ⟨a0, a1, a2, a3, ⟨#[]⟩, 0, 0⟩) hRX hown9 hgrow9 hc)
              clear hown9 hgrow9 hat9 hlt9 x0 x1 x2 n1 n5
              go_wp2_with fail
              go_ret
              exact LineP.yes HF2.out (K4.out.trans P3.out.2) rfl P3.out.1
      · go_simp
        refine hK.out _ _ (KX.out _ (AX.out _)) (fun hHeld1 => ?_)
        clear hK K hHeld0
        try simp only [Act.put, List.setIfInBounds_toArray, List.set_cons_zero, List.set_cons_succ]
        refine wpAnyH_ready (rs := [4]) (by kernel_rfl) (by simp) ?_
        refine AllReadyH.cons (o := { dst := some 24, op := Op.load 31 (Operand.tmp 23), type := 31, pos := "parse.go:77", after := #[{ on := 3, ground := Ground.data }], guard := none }) rfl (fun K hK => ?_) AllReadyH.nil
        · go_simp
          refine hK.out _ _ hHeld1 (fun hHeld2 => ?_)
          clear hK K hHeld1
          try simp only [Act.put, List.setIfInBounds_toArray, List.set_cons_zero, List.set_cons_succ]
          refine wpAnyH_ready (rs := [19]) (by kernel_rfl) (by simp) ?_
          refine AllReadyH.cons (o := { dst := some 39, op := Op.call { callee := Callee.builtin Builtin.append, args := #[Operand.tmp 24, Operand.tmp 38], argTypes := #[31, 31] }, type := 31, pos := "parse.go:77", after := #[{ on := 4, ground := Ground.data }, { on := 18, ground := Ground.data }], guard := none }) rfl (fun K hK => ?_) AllReadyH.nil
          · refine step_append_lies _ (by rfl) _ _ _ (by rfl) R 50 i0 _ 7 64 Tryd.underlying31 hii hz0 hz1 hz2 rfl (by omega) (.slice ea st.es.length ec) st.es.length (evsV st.es) (by rfl) (HQ.out.re.alloc _) ⟨X0.heap.size, 0, none⟩ 1 1 [.int .i64 a0, .int .i64 a1, .int .i64 a2, .int .i64 a3, .string { data := #[] }, .int .i64 0, .int .i64 0] (by rfl) (by rfl) (World.news_of_block (cs := #[.int .i64 a0, .int .i64 a1, .int .i64 a2, .int .i64 a3, .string { data := #[] }, .int .i64 0, .int .i64 0]) (t := 50) (fr := (0, 0)) (heap_alloc_new X0 _)) (by simp [Value.oneCell']) (by omega) (by unfold maxLen; omega) (by omega) (by simp; omega) (X0.heap.size + 1) (by simp) ?_
            intro g3 c3 w9 hown9 hgrow9 hat9 hlt9
            obtain ⟨x0, x1⟩ := HQ.out.keepEv _ _ hgrow9
            have x2 := GX.out _ _ hgrow9
            refine hK.out _ _ (KX.out _ x2) (fun hHeld3 => ?_)
            clear hK K hHeld2
            try simp only [Act.put, List.setIfInBounds_toArray, List.set_cons_zero, List.set_cons_succ]
            refine wpAnyH_take (i := 20) (oi := { dst := some 40, op := Op.nilCheck (Operand.tmp 20), type := 0, pos := "parse.go:77", after := #[{ on := 0, ground := Ground.data }, { on := 0, ground := Ground.phase }, { on := 1, ground := Ground.phase }, { on := 2, ground := Ground.phase }, { on := 3, ground := Ground.phase }, { on := 4, ground := Ground.phase }, { on := 5, ground := Ground.phase }, { on := 6, ground := Ground.phase }, { on := 7, ground := Ground.phase }, { on := 8, ground := Ground.phase }, { on := 9, ground := Ground.phase }, { on := 10, ground := Ground.phase }, { on := 11, ground := Ground.phase }, { on := 12, ground := Ground.phase }, { on := 13, ground := Ground.phase }, { on := 14, ground := Ground.phase }, { on := 15, ground := Ground.phase }, { on := 16, ground := Ground.phase }, { on := 17, ground := Ground.phase }, { on := 18, ground := Ground.phase }, { on := 19, ground := Ground.phase }], guard := none }) (v := ?vz20) rfl (by kernel_rfl) (by kernel_rfl) (by kernel_rfl) (fun _ _ _ h => h) (Or.inl ⟨by rfl, ?hyz20⟩) (by assumption) ?restz20
            case hyz20 => (intro w hSw; (try dsimp only at hSw); go_simp; (try with_reducible rfl))
            try simp only [Act.put, List.setIfInBounds_toArray, List.set_cons_zero, List.set_cons_succ]
            refine wpAnyH_take (i := 21) (oi := { dst := some 41, op := Op.fieldAddr 77 (Operand.tmp 40) 1, type := 0, pos := "parse.go:77", after := #[{ on := 20, ground := Ground.data }, { on := 0, ground := Ground.phase }, { on := 1, ground := Ground.phase }, { on := 2, ground := Ground.phase }, { on := 3, ground := Ground.phase }, { on := 4, ground := Ground.phase }, { on := 5, ground := Ground.phase }, { on := 6, ground := Ground.phase }, { on := 7, ground := Ground.phase }, { on := 8, ground := Ground.phase }, { on := 9, ground := Ground.phase }, { on := 10, ground := Ground.phase }, { on := 11, ground := Ground.phase }, { on := 12, ground := Ground.phase }, { on := 13, ground := Ground.phase }, { on := 14, ground := Ground.phase }, { on := 15, ground := Ground.phase }, { on := 16, ground := Ground.phase }, { on := 17, ground := Ground.phase }, { on := 18, ground := Ground.phase }, { on := 19, ground := Ground.phase }], guard := none }) (v := ?vz21) rfl (by kernel_rfl) (by kernel_rfl) (by kernel_rfl) (fun _ _ _ h => h) (Or.inl ⟨by rfl, ?hyz21⟩) (by assumption) ?restz21
            case hyz21 => (intro w hSw; (try dsimp only at hSw); go_simp; (try with_reducible rfl))
            try simp only [Act.put, List.setIfInBounds_toArray, List.set_cons_zero, List.set_cons_succ]
            refine wpAnyH_ready (rs := [22]) (by kernel_rfl) (by simp) ?_
            refine AllReadyH.cons (o := { dst := none, op := Op.store 31 (Operand.tmp 41) (Operand.tmp 39), type := 0, pos := "parse.go:77", after := #[{ on := 21, ground := Ground.data }, { on := 19, ground := Ground.data }, { on := 19, ground := Ground.chain }, { on := 0, ground := Ground.phase }, { on := 1, ground := Ground.phase }, { on := 2, ground := Ground.phase }, { on := 3, ground := Ground.phase }, { on := 4, ground := Ground.phase }, { on := 5, ground := Ground.phase }, { on := 6, ground := Ground.phase }, { on := 7, ground := Ground.phase }, { on := 8, ground := Ground.phase }, { on := 9, ground := Ground.phase }, { on := 10, ground := Ground.phase }, { on := 11, ground := Ground.phase }, { on := 12, ground := Ground.phase }, { on := 13, ground := Ground.phase }, { on := 14, ground := Ground.phase }, { on := 15, ground := Ground.phase }, { on := 16, ground := Ground.phase }, { on := 17, ground := Ground.phase }, { on := 18, ground := Ground.phase }, { on := 19, ground := Ground.phase }], guard := none }) rfl (fun K hK => ?_) AllReadyH.nil
            · go_simp
              refine hK.out _ _ (KX.out _ ((Below.heap_setCell _ ⟨b, 12, none⟩ _ _ HXB.out).trans x2)) (fun hHeldE => ?_)
              clear hK K hHeld3
              try simp only [Act.put]
              refine wpAnyH_done (by kernel_rfl) ?_ _
              have P3 := Lib.hid (HQ.out.evt (t := ⟨a0, a1, a2, a3, ⟨#[]⟩, 0, 0⟩) hRX hown9 hgrow9 hc)
              clear hown9 hgrow9 hat9 hlt9 x0 x1 x2 n1 n5
              go_wp2_with fail
              go_ret
              exact LineP.yes HF2.out (K4.out.trans P3.out.2) rfl P3.out.1
end Go.Proofs.YtmddnklafplikaaDoor
namespace Go.Proofs.YtmddnklafplikaaDoor
open Go.RowKit
set_option linter.unusedVariables false
set_option maxRecDepth 20000
theorem askF_three (st : PS) (t u v : Tx) : askF st (bytesL [t, u, v]) = (unqO t.data.toList).bind fun x => (numsK (bytesL [u, v]) 2).map fun ns => { st with es := st.es ++ [⟨1, 0, 0, 0, x, ns.getD 0 0, ns.getD 1 0⟩] } := by
  unfold askF bytesL
  simp only [List.map_cons, List.map_nil]
  cases unqO t.data.toList <;> cases numsK [u.data.toList, v.data.toList] 2 <;> rfl
theorem two_ints {ns : List Int} (h : ns.length = 2) : ∃ a0 a1, ns = [a0, a1] := by
  match ns, h with
  | [a0, a1], _ => exact ⟨a0, a1, rfl⟩
set_option maxRecDepth 100000 in
set_option maxHeartbeats 1600000 in
theorem ask_any (R b : Nat) (st : PS) (a : Option Addr) (n cp : Nat) (ts : List Tx) (w : World) (hp : PA w R b st) (hR : R ≤ w.heap.size) (hh : HoldsT w a n ts) (hn : n ≤ cp) (hz : ∀ t ∈ ts, t.size ≤ 300000) (hc : st.es.length + 1 ≤ 1048576) (hcp : cp ≤ 9223372036854775807) :
    Calls Tryd.prog 57 #[.pointer (some ⟨b, 0, none⟩), .slice a n cp] w (LineP R b w (askF st (bytesL ts))) := by
  have hl := hh.len
  by_cases hn1 : n = 3
  case neg =>
    have e1 : askF st (bytesL ts) = none := by
      unfold askF
      split
      · rename_i x y z hx
        have := congrArg List.length hx
        simp [bytesL] at this; omega
      · rfl
    have d1 : ((n : Int) != 3) = true := by simp; omega
    have E1 := Lib.hid e1
    clear hh hl hz e1 hp hn1
    go_enter Tryd.func57, Tryd.ntmps57
    go_wp2_with fail
    go_ret
    exact LineP.no E1.out (KP.refl _ _ _) rfl
  subst hn1
  obtain ⟨t, u, v, rfl⟩ := three_texts hl
  obtain ⟨bb, oo, rfl, hcc⟩ := hh.at (by omega)
  have x0 : w.cell? ⟨bb, oo, none⟩ = some (.string t) := hcc 0 (by omega)
  have ht := hz t (by simp)
  have hh2 : HoldsT w (some ⟨bb, oo + 1, none⟩) 2 [u, v] := hh.drop 1 (by omega)
  obtain ⟨i0, hii, hz0, hz1, hz2⟩ := info_parts ev_info
  obtain ⟨o1, ho1⟩ : ∃ o, unqO t.data.toList = o := ⟨_, rfl⟩
  obtain ⟨o2, ho2⟩ : ∃ o, numsK (bytesL [u, v]) 2 = o := ⟨_, rfl⟩
  have CU := Lib.hid (fun w => unquote_any t w ht)
  have CN := Lib.hid (fun w' (hb : Below w.heap.size w w') => numbers_any (some ⟨bb, oo + 1, none⟩) 2 (cp - 1) 2 [u, v] w' (hh2.below hb) (by omega) (fun x hx => by have := hz x (by simp only [List.mem_cons, List.not_mem_nil, or_false] at hx ⊢; exact Or.inr hx); omega) (by omega))
  rw [ho1] at CU
  rw [ho2] at CN
  have HP := Lib.hid hp
  have hF := askF_three st t u v
  rw [ho1, ho2] at hF
  have HF := Lib.hid hF
  have hbR : b < R := by obtain ⟨_, _, _, _, _, _, h⟩ := hp; exact h.bR
  have hlen : ∀ ns, o2 = some ns → ns.length = 2 := fun ns e => numsK_len (ho2.trans e)
  obtain ⟨c1, hc1⟩ : ∃ c, cp - 1 = c := ⟨_, rfl⟩
  have hc1' : IntKind.i64.wrap ((cp : Int) - 1) = (c1 : Int) := by rw [IntWalk.i64_in _ (by omega)]; omega
  have hcp1 : ¬ cp = 1 := by omega
  have hcp3 : (1 : Int) ≤ (cp : Int) := by omega
  rw [hc1] at CN
  clear hh hl hz hcc hp ho1 ho2 hF hh2
  go_enter Tryd.func57, Tryd.ntmps57
  go_wp2_with fail
  refine (CU.out _).mono ?_
  rintro e w4 ⟨rfl, hb4⟩
  have B4 := Lib.hid hb4
  clear hb4
  go_wp2_with fail
  refine (CN.out _ B4.out).mono ?_
  intro e w5 h5
  cases o2 with
  | none =>
    obtain ⟨rfl, hb5⟩ := numsP_none h5
    have B5 := Lib.hid (B4.out.trans (hb5.mono B4.out.size))
    clear hb5 h5
    cases o1 with
    | none =>
      go_wp2_with fail
      go_ret
      exact LineP.no HF.out (KP.below B5.out hR hbR) rfl
    | some x =>
      go_wp2_with fail
      go_ret
      exact LineP.no HF.out (KP.below B5.out hR hbR) rfl
  | some ns =>
    have hl := hlen ns rfl
    obtain ⟨a0, a1, rfl⟩ := two_ints hl
    obtain ⟨xa, xc, rfl, hx, hxc, hb5, hxg⟩ := numsP_some h5 hl
    have B5 := Lib.hid (B4.out.trans (hb5.mono B4.out.size))
    obtain ⟨xb, xo, rfl, hxx⟩ := hx.at (by omega)
    have y0 : w5.cell? ⟨xb, xo, none⟩ = some (.int .i64 a0) := hxx 0 (by omega)
    have y1 : w5.cell? ⟨xb, xo + 1, none⟩ = some (.int .i64 a1) := hxx 1 (by omega)
    clear hb5 h5 hxx hx hxg hlen hl
    cases o1 with
    | none =>
      go_wp2_with fail
      go_ret
      exact LineP.no HF.out (KP.below B5.out hR hbR) rfl
    | some x =>
      go_upto_region 7 with fail
      go_cut [9] (fun pv wc => ∃ q, pv = .pointer (some ⟨q, 0, none⟩) ∧ Hid (wc.heap[q]? = some (.cells #[.string x, .int .i64 a0, .int .i64 a1] 48 (0, 0))) ∧ Hid (w5.heap.size ≤ q) ∧ Hid (Below w5.heap.size w5 wc))
      case first =>
        have y2 : (w5.alloc (.cells #[.string { data := #[] }, .int .i64 0, .int .i64 0] 48)).cell? ⟨xb, xo, none⟩ = some (.int .i64 a0) := (World.cell?_alloc_some w5 ⟨xb, xo, none⟩ _ (by rw [y0]; rfl)).trans y0
        have y3 : (w5.alloc (.cells #[.string { data := #[] }, .int .i64 0, .int .i64 0] 48)).cell? ⟨xb, xo + 1, none⟩ = some (.int .i64 a1) := (World.cell?_alloc_some w5 ⟨xb, xo + 1, none⟩ _ (by rw [y1]; rfl)).trans y1
        go_region
        go_wp2_with fail
        go_meet
        exact ⟨_, rfl, Lib.hid (drew_at (heap_alloc_new w5 _)), Lib.hid (Nat.le_refl _), Lib.hid (below_one w5 _).drew⟩
      case rest =>
        rename World => w6
        obtain ⟨q, rfl, hQ, hqg, hB⟩ := hcut
        obtain ⟨wa, ka, ea, wc, kc, ec, hq0⟩ := HP.out
        have B6 := Lib.hid (B5.out.trans (hB.out.mono B5.out.size))
        have hq := hq0.below B6.out
        have HQ := Lib.hid (hq.below (Below.refl w6.heap.size w6).drew)
        have hR4 : R ≤ w6.heap.size := Nat.le_trans hR B6.out.size
        have hxl : q < w6.heap.size := (Array.getElem?_eq_some_iff.1 hQ.out).1
        have hqw : w.heap.size ≤ q := Nat.le_trans B5.out.size hqg.out
        have HXB := Lib.hid (show q ≠ b from by omega)
        have HXE := Lib.hid (show some q ≠ (Value.slice ea st.es.length ec).ownBlock from fun e => by
          have h1 := (hq0.re.lt q e.symm).2
          omega)
        have K4 := Lib.hid ((KP.below B6.out hR hbR).trans (KP.below (Below.refl w6.heap.size w6).drew hR4 hbR))
        have KX := Lib.hid (fun (w' : World) (h : w'.heap[q]? = w6.heap[q]?) => (show w'.cell? ⟨q, 0, none⟩ = some (.string x) ∧ w'.cell? ⟨q, 1, none⟩ = some (.int .i64 a0) ∧ w'.cell? ⟨q, 2, none⟩ = some (.int .i64 a1) from by
          have h2 := h.trans hQ.out
          exact ⟨by rw [Lib.cell_of_heap h2]; rfl, by rw [Lib.cell_of_heap h2]; rfl, by rw [Lib.cell_of_heap h2]; rfl⟩))
        have n1 : w6.drew.cell? ⟨b, 12, none⟩ = some (.slice ea st.es.length ec) := HQ.out.atEv
        have n5 : (w6.drew.alloc (.cells #[.int .i64 1, .int .i64 0, .int .i64 0, .int .i64 0, .string x, .int .i64 a0, .int .i64 a1] 50)).cell? ⟨b, 12, none⟩ = some (.slice ea st.es.length ec) := (HQ.out.below (below_one w6.drew _)).atEv
        have AX := Lib.hid (show ∀ o, (w6.drew.alloc o).heap[q]? = w6.heap[q]? from fun o => Below.heap_alloc w6.drew o q hxl)
        have GX := Lib.hid (show ∀ o w', (w6.drew.alloc o).grownBy w' (Value.slice ea st.es.length ec).ownBlock → w'.heap[q]? = w6.heap[q]? from fun o w' hg => (hg.block q (by simp; exact Nat.lt_succ_of_lt hxl) HXE.out).trans (AX.out o))
        clear hq hq0 hB hQ hqg y0 y1
        go_upto_region 8 with fail
        have hS0 := KX.out w6.drew rfl
        have hRX : R ≤ w6.drew.heap.size := hR4
        refine wp_region_held_drew (S := (fun w' => w'.cell? ⟨q, 0, none⟩ = some (.string x) ∧ w'.cell? ⟨q, 1, none⟩ = some (.int .i64 a0) ∧ w'.cell? ⟨q, 2, none⟩ = some (.int .i64 a1))) (by kernel_rfl) hS0 (fun hHeld0 => ?_)
        clear hS0 hR4
        generalize w6.drew = X0 at *
        refine wpAnyH_take (i := 0) (oi := { dst := some 40, op := Op.move (Operand.tmp 0), type := 94, pos := "parse.go:91", after := #[], guard := none }) (v := ?vz1) rfl (by kernel_rfl) (by kernel_rfl) (by kernel_rfl) (fun _ _ _ h => h) (Or.inl ⟨by rfl, ?hyz1⟩) (by assumption) ?restz1
        case hyz1 => (intro w hSw; (try dsimp only at hSw); go_simp; (try with_reducible rfl))
        try simp only [Act.put, List.setIfInBounds_toArray, List.set_cons_zero, List.set_cons_succ]
        refine wpAnyH_take (i := 1) (oi := { dst := some 41, op := Op.move (Operand.tmp 0), type := 94, pos := "parse.go:91", after := #[], guard := none }) (v := ?vz2) rfl (by kernel_rfl) (by kernel_rfl) (by kernel_rfl) (fun _ _ _ h => h) (Or.inl ⟨by rfl, ?hyz2⟩) (by assumption) ?restz2
        case hyz2 => (intro w hSw; (try dsimp only at hSw); go_simp; (try with_reducible rfl))
        try simp only [Act.put, List.setIfInBounds_toArray, List.set_cons_zero, List.set_cons_succ]
        refine wpAnyH_take (i := 2) (oi := { dst := some 42, op := Op.nilCheck (Operand.tmp 41), type := 0, pos := "parse.go:91", after := #[{ on := 1, ground := Ground.data }], guard := none }) (v := ?vz3) rfl (by kernel_rfl) (by kernel_rfl) (by kernel_rfl) (fun _ _ _ h => h) (Or.inl ⟨by rfl, ?hyz3⟩) (by assumption) ?restz3
        case hyz3 => (intro w hSw; (try dsimp only at hSw); go_simp; (try with_reducible rfl))
        try simp only [Act.put, List.setIfInBounds_toArray, List.set_cons_zero, List.set_cons_succ]
        refine wpAnyH_take (i := 3) (oi := { dst := some 43, op := Op.fieldAddr 77 (Operand.tmp 42) 1, type := 0, pos := "parse.go:91", after := #[{ on := 2, ground := Ground.data }], guard := none }) (v := ?vz4) rfl (by kernel_rfl) (by kernel_rfl) (by kernel_rfl) (fun _ _ _ h => h) (Or.inl ⟨by rfl, ?hyz4⟩) (by assumption) ?restz4
        case hyz4 => (intro w hSw; (try dsimp only at hSw); go_simp; (try with_reducible rfl))
        try simp only [Act.put, List.setIfInBounds_toArray, List.set_cons_zero, List.set_cons_succ]
        refine wpAnyH_take (i := 5) (oi := { dst := some 45, op := Op.load 48 (Operand.tmp 9), type := 48, pos := "parse.go:91", after := #[], guard := none }) (v := ?vz5) rfl (by kernel_rfl) (by kernel_rfl) (by kernel_rfl) (fun _ _ _ h => h) (Or.inl ⟨by rfl, ?hyz5⟩) (by assumption) ?restz5
        case hyz5 => (intro w hSw; (try dsimp only at hSw); go_simp; (try with_reducible rfl))
        try simp only [Act.put, List.setIfInBounds_toArray, List.set_cons_zero, List.set_cons_succ]
        refine wpAnyH_take (i := 6) (oi := { dst := some 46, op := Op.build 50 #[(0, Operand.const (Value.int IntKind.i64 1)), (4, Operand.tmp 45)], type := 50, pos := "parse.go:91", after := #[{ on := 5, ground := Ground.data }], guard := none }) (v := ?vz6) rfl (by kernel_rfl) (by kernel_rfl) (by kernel_rfl) (fun _ _ _ h => h) (Or.inl ⟨by rfl, ?hyz6⟩) (by assumption) ?restz6
        case hyz6 => (intro w hSw; (try dsimp only at hSw); go_simp; (try with_reducible rfl))
        try simp only [Act.put, List.setIfInBounds_toArray, List.set_cons_zero, List.set_cons_succ]
        refine wpAnyH_ready (rs := [4, 7]) (by kernel_rfl) (by simp) ?_
        refine AllReadyH.cons (o := { dst := some 44, op := Op.load 31 (Operand.tmp 43), type := 31, pos := "parse.go:91", after := #[{ on := 3, ground := Ground.data }], guard := none }) rfl (fun K hK => ?_) (AllReadyH.cons (o := { dst := some 47, op := Op.buildSlice 31 1 #[(0, Operand.tmp 46)], type := 31, pos := "parse.go:91", after := #[{ on := 6, ground := Ground.data }], guard := none }) rfl (fun K hK => ?_) AllReadyH.nil)
        · go_simp
          refine hK.out _ _ hHeld0 (fun hHeld1 => ?_)
          clear hK K hHeld0
          try simp only [Act.put, List.setIfInBounds_toArray, List.set_cons_zero, List.set_cons_succ]
          refine wpAnyH_ready (rs := [7]) (by kernel_rfl) (by simp) ?_
          refine AllReadyH.cons (o := { dst := some 47, op := Op.buildSlice 31 1 #[(0, Operand.tmp 46)], type := 31, pos := "parse.go:91", after := #[{ on := 6, ground := Ground.data }], guard := none }) rfl (fun K hK => ?_) AllReadyH.nil
          · go_simp
            refine hK.out _ _ (KX.out _ (AX.out _)) (fun hHeld2 => ?_)
            clear hK K hHeld1
            try simp only [Act.put, List.setIfInBounds_toArray, List.set_cons_zero, List.set_cons_succ]
            refine wpAnyH_ready (rs := [8]) (by kernel_rfl) (by simp) ?_
            refine AllReadyH.cons (o := { dst := some 48, op := Op.call { callee := Callee.builtin Builtin.append, args := #[Operand.tmp 44, Operand.tmp 47], argTypes := #[31, 31] }, type := 31, pos := "parse.go:91", after := #[{ on := 4, ground := Ground.data }, { on := 7, ground := Ground.data }], guard := none }) rfl (fun K hK => ?_) AllReadyH.nil
            · refine step_append_lies _ (by rfl) _ _ _ (by rfl) R 50 i0 _ 7 64 Tryd.underlying31 hii hz0 hz1 hz2 rfl (by omega) (.slice ea st.es.length ec) st.es.length (evsV st.es) (by rfl) (HQ.out.re.alloc _) ⟨X0.heap.size, 0, none⟩ 1 1 [.int .i64 1, .int .i64 0, .int .i64 0, .int .i64 0, .string x, .int .i64 a0, .int .i64 a1] (by rfl) (by rfl) (World.news_of_block (cs := #[.int .i64 1, .int .i64 0, .int .i64 0, .int .i64 0, .string x, .int .i64 a0, .int .i64 a1]) (t := 50) (fr := (0, 0)) (heap_alloc_new X0 _)) (by simp [Value.oneCell']) (by omega) (by unfold maxLen; omega) (by omega) (by simp; omega) (X0.heap.size + 1) (by simp) ?_
              intro g3 c3 w9 hown9 hgrow9 hat9 hlt9
              obtain ⟨x0, x1⟩ := HQ.out.keepEv _ _ hgrow9
              have x2 := GX.out _ _ hgrow9
              refine hK.out _ _ (KX.out _ x2) (fun hHeld3 => ?_)
              clear hK K hHeld2
              try simp only [Act.put, List.setIfInBounds_toArray, List.set_cons_zero, List.set_cons_succ]
              refine wpAnyH_take (i := 9) (oi := { dst := some 49, op := Op.nilCheck (Operand.tmp 40), type := 0, pos := "parse.go:91", after := #[{ on := 0, ground := Ground.data }, { on := 0, ground := Ground.phase }, { on := 1, ground := Ground.phase }, { on := 2, ground := Ground.phase }, { on := 3, ground := Ground.phase }, { on := 4, ground := Ground.phase }, { on := 5, ground := Ground.phase }, { on := 6, ground := Ground.phase }, { on := 7, ground := Ground.phase }, { on := 8, ground := Ground.phase }], guard := none }) (v := ?vz7) rfl (by kernel_rfl) (by kernel_rfl) (by kernel_rfl) (fun _ _ _ h => h) (Or.inl ⟨by rfl, ?hyz7⟩) (by assumption) ?restz7
              case hyz7 => (intro w hSw; (try dsimp only at hSw); go_simp; (try with_reducible rfl))
              try simp only [Act.put, List.setIfInBounds_toArray, List.set_cons_zero, List.set_cons_succ]
              refine wpAnyH_take (i := 10) (oi := { dst := some 50, op := Op.fieldAddr 77 (Operand.tmp 49) 1, type := 0, pos := "parse.go:91", after := #[{ on := 9, ground := Ground.data }, { on := 0, ground := Ground.phase }, { on := 1, ground := Ground.phase }, { on := 2, ground := Ground.phase }, { on := 3, ground := Ground.phase }, { on := 4, ground := Ground.phase }, { on := 5, ground := Ground.phase }, { on := 6, ground := Ground.phase }, { on := 7, ground := Ground.phase }, { on := 8, ground := Ground.phase }], guard := none }) (v := ?vz8) rfl (by kernel_rfl) (by kernel_rfl) (by kernel_rfl) (fun _ _ _ h => h) (Or.inl ⟨by rfl, ?hyz8⟩) (by assumption) ?restz8
              case hyz8 => (intro w hSw; (try dsimp only at hSw); go_simp; (try with_reducible rfl))
              try simp only [Act.put, List.setIfInBounds_toArray, List.set_cons_zero, List.set_cons_succ]
              refine wpAnyH_ready (rs := [11]) (by kernel_rfl) (by simp) ?_
              refine AllReadyH.cons (o := { dst := none, op := Op.store 31 (Operand.tmp 50) (Operand.tmp 48), type := 0, pos := "parse.go:91", after := #[{ on := 10, ground := Ground.data }, { on := 8, ground := Ground.data }, { on := 8, ground := Ground.chain }, { on := 0, ground := Ground.phase }, { on := 1, ground := Ground.phase }, { on := 2, ground := Ground.phase }, { on := 3, ground := Ground.phase }, { on := 4, ground := Ground.phase }, { on := 5, ground := Ground.phase }, { on := 6, ground := Ground.phase }, { on := 7, ground := Ground.phase }, { on := 8, ground := Ground.phase }], guard := none }) rfl (fun K hK => ?_) AllReadyH.nil
              · go_simp
                refine hK.out _ _ (KX.out _ ((Below.heap_setCell _ ⟨b, 12, none⟩ _ _ HXB.out).trans x2)) (fun hHeldE => ?_)
                clear hK K hHeld3
                try simp only [Act.put]
                refine wpAnyH_done (by kernel_rfl) ?_ _
                have P3 := Lib.hid (HQ.out.evt (t := ⟨1, 0, 0, 0, x, a0, a1⟩) hRX hown9 hgrow9 hc)
                clear hown9 hgrow9 hat9 hlt9 x0 x1 x2 n1 n5
                go_wp2_with fail
                go_ret
                exact LineP.yes HF.out (K4.out.trans P3.out.2) rfl P3.out.1
        · go_simp
          refine hK.out _ _ (KX.out _ (AX.out _)) (fun hHeld1 => ?_)
          clear hK K hHeld0
          try simp only [Act.put, List.setIfInBounds_toArray, List.set_cons_zero, List.set_cons_succ]
          refine wpAnyH_ready (rs := [4]) (by kernel_rfl) (by simp) ?_
          refine AllReadyH.cons (o := { dst := some 44, op := Op.load 31 (Operand.tmp 43), type := 31, pos := "parse.go:91", after := #[{ on := 3, ground := Ground.data }], guard := none }) rfl (fun K hK => ?_) AllReadyH.nil
          · go_simp
            refine hK.out _ _ hHeld1 (fun hHeld2 => ?_)
            clear hK K hHeld1
            try simp only [Act.put, List.setIfInBounds_toArray, List.set_cons_zero, List.set_cons_succ]
            refine wpAnyH_ready (rs := [8]) (by kernel_rfl) (by simp) ?_
            refine AllReadyH.cons (o := { dst := some 48, op := Op.call { callee := Callee.builtin Builtin.append, args := #[Operand.tmp 44, Operand.tmp 47], argTypes := #[31, 31] }, type := 31, pos := "parse.go:91", after := #[{ on := 4, ground := Ground.data }, { on := 7, ground := Ground.data }], guard := none }) rfl (fun K hK => ?_) AllReadyH.nil
            · refine step_append_lies _ (by rfl) _ _ _ (by rfl) R 50 i0 _ 7 64 Tryd.underlying31 hii hz0 hz1 hz2 rfl (by omega) (.slice ea st.es.length ec) st.es.length (evsV st.es) (by rfl) (HQ.out.re.alloc _) ⟨X0.heap.size, 0, none⟩ 1 1 [.int .i64 1, .int .i64 0, .int .i64 0, .int .i64 0, .string x, .int .i64 a0, .int .i64 a1] (by rfl) (by rfl) (World.news_of_block (cs := #[.int .i64 1, .int .i64 0, .int .i64 0, .int .i64 0, .string x, .int .i64 a0, .int .i64 a1]) (t := 50) (fr := (0, 0)) (heap_alloc_new X0 _)) (by simp [Value.oneCell']) (by omega) (by unfold maxLen; omega) (by omega) (by simp; omega) (X0.heap.size + 1) (by simp) ?_
              intro g3 c3 w9 hown9 hgrow9 hat9 hlt9
              obtain ⟨x0, x1⟩ := HQ.out.keepEv _ _ hgrow9
              have x2 := GX.out _ _ hgrow9
              refine hK.out _ _ (KX.out _ x2) (fun hHeld3 => ?_)
              clear hK K hHeld2
              try simp only [Act.put, List.setIfInBounds_toArray, List.set_cons_zero, List.set_cons_succ]
              refine wpAnyH_take (i := 9) (oi := { dst := some 49, op := Op.nilCheck (Operand.tmp 40), type := 0, pos := "parse.go:91", after := #[{ on := 0, ground := Ground.data }, { on := 0, ground := Ground.phase }, { on := 1, ground := Ground.phase }, { on := 2, ground := Ground.phase }, { on := 3, ground := Ground.phase }, { on := 4, ground := Ground.phase }, { on := 5, ground := Ground.phase }, { on := 6, ground := Ground.phase }, { on := 7, ground := Ground.phase }, { on := 8, ground := Ground.phase }], guard := none }) (v := ?vz9) rfl (by kernel_rfl) (by kernel_rfl) (by kernel_rfl) (fun _ _ _ h => h) (Or.inl ⟨by rfl, ?hyz9⟩) (by assumption) ?restz9
              case hyz9 => (intro w hSw; (try dsimp only at hSw); go_simp; (try with_reducible rfl))
              try simp only [Act.put, List.setIfInBounds_toArray, List.set_cons_zero, List.set_cons_succ]
              refine wpAnyH_take (i := 10) (oi := { dst := some 50, op := Op.fieldAddr 77 (Operand.tmp 49) 1, type := 0, pos := "parse.go:91", after := #[{ on := 9, ground := Ground.data }, { on := 0, ground := Ground.phase }, { on := 1, ground := Ground.phase }, { on := 2, ground := Ground.phase }, { on := 3, ground := Ground.phase }, { on := 4, ground := Ground.phase }, { on := 5, ground := Ground.phase }, { on := 6, ground := Ground.phase }, { on := 7, ground := Ground.phase }, { on := 8, ground := Ground.phase }], guard := none }) (v := ?vz10) rfl (by kernel_rfl) (by kernel_rfl) (by kernel_rfl) (fun _ _ _ h => h) (Or.inl ⟨by rfl, ?hyz10⟩) (by assumption) ?restz10
              case hyz10 => (intro w hSw; (try dsimp only at hSw); go_simp; (try with_reducible rfl))
              try simp only [Act.put, List.setIfInBounds_toArray, List.set_cons_zero, List.set_cons_succ]
              refine wpAnyH_ready (rs := [11]) (by kernel_rfl) (by simp) ?_
              refine AllReadyH.cons (o := { dst := none, op := Op.store 31 (Operand.tmp 50) (Operand.tmp 48), type := 0, pos := "parse.go:91", after := #[{ on := 10, ground := Ground.data }, { on := 8, ground := Ground.data }, { on := 8, ground := Ground.chain }, { on := 0, ground := Ground.phase }, { on := 1, ground := Ground.phase }, { on := 2, ground := Ground.phase }, { on := 3, ground := Ground.phase }, { on := 4, ground := Ground.phase }, { on := 5, ground := Ground.phase }, { on := 6, ground := Ground.phase }, { on := 7, ground := Ground.phase }, { on := 8, ground := Ground.phase }], guard := none }) rfl (fun K hK => ?_) AllReadyH.nil
              · go_simp
                refine hK.out _ _ (KX.out _ ((Below.heap_setCell _ ⟨b, 12, none⟩ _ _ HXB.out).trans x2)) (fun hHeldE => ?_)
                clear hK K hHeld3
                try simp only [Act.put]
                refine wpAnyH_done (by kernel_rfl) ?_ _
                have P3 := Lib.hid (HQ.out.evt (t := ⟨1, 0, 0, 0, x, a0, a1⟩) hRX hown9 hgrow9 hc)
                clear hown9 hgrow9 hat9 hlt9 x0 x1 x2 n1 n5
                go_wp2_with fail
                go_ret
                exact LineP.yes HF.out (K4.out.trans P3.out.2) rfl P3.out.1
end Go.Proofs.YtmddnklafplikaaDoor
namespace Go.Proofs.YtmddnklafplikaaDoor
open Go.RowKit
set_option linter.unusedVariables false
set_option maxRecDepth 20000
theorem splitL_le (c : UInt8) : ∀ l, ∀ p ∈ splitL c l, p.length ≤ l.length
  | [], p, h => by simp [splitL] at h; subst h; simp
  | x :: l, p, h => by
    have ih := splitL_le c l
    unfold splitL at h
    split at h
    · rcases List.mem_cons.1 h with rfl | h
      · simp
      · have := ih p h; simp; omega
    · match hs : splitL c l, splitL_ne c l with
      | q :: t, _ =>
        rw [hs] at h ih
        rcases List.mem_cons.1 h with rfl | h
        · have := ih q (by simp); simp; omega
        · have := ih p (by simp [h]); simp; omega
theorem holds_rest {w : World} {b o q c : Nat} {t : Tx} {ts : List Tx} (h : HoldsT w (some ⟨b, o, none⟩) (q + 1) (t :: ts)) (hc : q + 1 ≤ c) : HoldsT w (if c = 1 then some ⟨b, o, none⟩ else some ⟨b, o + 1, none⟩) q ts := by
  have h1 := h.drop 1 (by omega)
  simp only [List.drop_succ_cons, List.drop_zero, Nat.add_sub_cancel] at h1
  split
  · obtain rfl : q = 0 := by omega
    exact ⟨h1.1, fun h => absurd h (by omega)⟩
  · exact h1
theorem LineP.ret {R b : Nat} {w w' : World} {o : Option PS} {e : Ending} (h : LineP R b w o e w') : e = .returned (.bool o.isSome) := by
  cases o with
  | none => exact h.2
  | some st => exact h.2.1
theorem LineP.past {R b : Nat} {w w4 w' : World} {o : Option PS} {e : Ending} (h : LineP R b w4 o e w') (k : KP R b w w4) : LineP R b w o e w' := ⟨k.trans h.1, h.2⟩
theorem lit_yes {t : Tx} {l : List UInt8} (h : t.data.toList = l) : (t.toList == l) = true := by rw [ByteArray.toList_eq, h]; simp
theorem lit_no {t : Tx} {l : List UInt8} (h : t.data.toList ≠ l) : (t.toList == l) = false := by rw [ByteArray.toList_eq]; simpa using h
set_option maxRecDepth 100000 in
set_option maxHeartbeats 1600000 in
theorem line_any (R b : Nat) (st : PS) (l : ByteArray) (w : World) (hp : PA w R b st) (hR : R ≤ w.heap.size) (hs : l.size ≤ 300000) (hm : MaxL w) (hc1 : st.ws.length + 1 ≤ 1048576) (hc2 : st.ks.length + 1 ≤ 1048576) (hc3 : st.es.length + 1 ≤ 1048576) :
    Calls Tryd.prog 36 #[.pointer (some ⟨b, 0, none⟩), .string l] w (LineP R b w (lineF st l.data.toList)) := by
  have CS := Lib.hid (split_any 32 l { data := #[32] } w (by omega) hm rfl rfl)
  have hll : l.data.toList.length = l.size := by simp
  obtain ⟨d, hd⟩ : ∃ d, l.data.toList = d := ⟨_, rfl⟩
  rw [hd] at CS hll ⊢
  have HP := Lib.hid hp
  have hbR : b < R := by obtain ⟨_, _, _, _, _, _, h⟩ := hp; exact h.bR
  have HLL := Lib.hid hll
  clear hp hm hd hll
  go_enter Tryd.func36, Tryd.ntmps36
  go_wp2_with fail
  refine CS.out.mono ?_
  rintro e w4 ⟨ts, n, rfl, hT, hb, hB, hn⟩
  obtain ⟨t, r, rfl⟩ : ∃ t r, ts = t :: r := by
    match ts with
    | [] => exact absurd hb.symm (splitL_ne 32 d)
    | t :: r => exact ⟨t, r, rfl⟩
  have hlF : lineF st d = partsF st t.data.toList (bytesL r) := by
    unfold lineF; rw [← hb]; rfl
  have hsz : ∀ x ∈ t :: r, ByteArray.size x ≤ 300000 := fun x hx => by
    have h1 : x.data.toList ∈ splitL 32 d := by rw [← hb]; exact List.mem_map_of_mem hx
    have h2 := splitL_le 32 d _ h1
    have h3 : x.data.toList.length = ByteArray.size x := Array.length_toList
    have := HLL.out; omega
  have hlen := hT.len
  obtain ⟨q, rfl⟩ : ∃ q, n = q + 1 := ⟨n - 1, by simp at hlen; omega⟩
  have hq9 : q ≤ 300000 := by
    have h1 : (splitL 32 d).length ≤ d.length + 1 := by
      have : ∀ l : List UInt8, (splitL 32 l).length ≤ l.length + 1 := by
        intro l
        induction l with
        | nil => simp [splitL]
        | cons x l ih =>
          unfold splitL
          split
          · simp; omega
          · split
            · simp
            · rename_i h t e
              rw [e] at ih; simp at ih ⊢; omega
      exact this d
    have := HLL.out; omega
  obtain ⟨bb, oo, e1, hcc⟩ := hT.at (by omega)
  have x0 : w4.cell? ⟨w.heap.size, 0, none⟩ = some (.string t) := by
    injection e1 with e1
    injection e1 with e1 e2
    subst e1; subst e2
    exact hcc 0 (by omega)
  obtain ⟨K, hK⟩ : ∃ K, w.heap.size = K := ⟨_, rfl⟩
  rw [hK] at hT x0 e1 ⊢
  have HR4 := Lib.hid (holds_rest (c := q + 1) hT (Nat.le_refl _))
  obtain ⟨ra, hra⟩ : ∃ a, (if q = 0 then (some ⟨K, 0, none⟩ : Option Addr) else some ⟨K, 1, none⟩) = a := ⟨_, rfl⟩
  rw [show (if q + 1 = 1 then (some ⟨K, 0, none⟩ : Option Addr) else some ⟨K, 0 + 1, none⟩) = ra from by rw [← hra]; simp] at HR4
  have hR4 : R ≤ w4.heap.size := Nat.le_trans hR hB.size
  have P4 := Lib.hid (HP.out.below hB)
  have K4 := Lib.hid (KP.below hB hR hbR)
  have HSZ := Lib.hid (show ∀ x ∈ r, ByteArray.size x ≤ 300000 from fun x hx => hsz x (by simp [hx]))
  have HLF := Lib.hid hlF
  have LW := Lib.hid (word_any R b st ra q q r w4 P4.out hR4 HR4.out (by omega) HSZ.out hc1)
  have LC := Lib.hid (cut_pany R b st ra q q r w4 P4.out hR4 HR4.out (by omega) HSZ.out hc2)
  have LS := Lib.hid (set_any R b st ra q q r w4 P4.out hR4 HR4.out (by omega) HSZ.out)
  have LE := Lib.hid (event_any R b st ra q q r w4 P4.out hR4 HR4.out (by omega) HSZ.out hc3)
  have LA := Lib.hid (ask_any R b st ra q q r w4 P4.out hR4 HR4.out (by omega) HSZ.out hc3 (by omega))
  clear hT hb hB hn hlF hsz hlen e1 hcc hK
  by_cases h0 : t.data.toList = wordB
  · have g0 := lit_yes h0
    have HF := Lib.hid (show lineF st d = wordF st (bytesL r) from by rw [HLF.out]; unfold partsF; rw [if_pos h0])
    unfold wordB at g0
    clear h0
    go_wp2_with fail
    refine LW.out.mono ?_
    intro e w5 h5
    have he := h5.ret
    subst he
    have H5 := Lib.hid (h5.past K4.out)
    clear h5
    go_wp2_with fail
    go_ret
    rw [HF.out]
    exact H5.out
  have g0 := lit_no h0
  unfold wordB at g0
  by_cases h1 : t.data.toList = cutB
  · have g1 := lit_yes h1
    have HF := Lib.hid (show lineF st d = cutF st (bytesL r) from by rw [HLF.out]; unfold partsF; rw [if_neg h0]; rw [if_pos h1])
    unfold cutB at g1
    clear h0 h1
    go_wp2_with fail
    refine LC.out.mono ?_
    intro e w5 h5
    have he := h5.ret
    subst he
    have H5 := Lib.hid (h5.past K4.out)
    clear h5
    go_wp2_with fail
    go_ret
    rw [HF.out]
    exact H5.out
  have g1 := lit_no h1
  unfold cutB at g1
  by_cases h2 : t.data.toList = setB
  · have g2 := lit_yes h2
    have HF := Lib.hid (show lineF st d = setF st (bytesL r) from by rw [HLF.out]; unfold partsF; rw [if_neg h0]; rw [if_neg h1]; rw [if_pos h2])
    unfold setB at g2
    clear h0 h1 h2
    go_wp2_with fail
    refine LS.out.mono ?_
    intro e w5 h5
    have he := h5.ret
    subst he
    have H5 := Lib.hid (h5.past K4.out)
    clear h5
    go_wp2_with fail
    go_ret
    rw [HF.out]
    exact H5.out
  have g2 := lit_no h2
  unfold setB at g2
  by_cases h3 : t.data.toList = evB
  · have g3 := lit_yes h3
    have HF := Lib.hid (show lineF st d = evF st (bytesL r) from by rw [HLF.out]; unfold partsF; rw [if_neg h0]; rw [if_neg h1]; rw [if_neg h2]; rw [if_pos h3])
    unfold evB at g3
    clear h0 h1 h2 h3
    go_wp2_with fail
    refine LE.out.mono ?_
    intro e w5 h5
    have he := h5.ret
    subst he
    have H5 := Lib.hid (h5.past K4.out)
    clear h5
    go_wp2_with fail
    go_ret
    rw [HF.out]
    exact H5.out
  have g3 := lit_no h3
  unfold evB at g3
  by_cases h4 : t.data.toList = askB
  · have g4 := lit_yes h4
    have HF := Lib.hid (show lineF st d = askF st (bytesL r) from by rw [HLF.out]; unfold partsF; rw [if_neg h0]; rw [if_neg h1]; rw [if_neg h2]; rw [if_neg h3]; rw [if_pos h4])
    unfold askB at g4
    clear h0 h1 h2 h3 h4
    go_wp2_with fail
    refine LA.out.mono ?_
    intro e w5 h5
    have he := h5.ret
    subst he
    have H5 := Lib.hid (h5.past K4.out)
    clear h5
    go_wp2_with fail
    go_ret
    rw [HF.out]
    exact H5.out
  have g4 := lit_no h4
  unfold askB at g4
  have HF := Lib.hid (show lineF st d = none from by rw [HLF.out]; unfold partsF; rw [if_neg h0, if_neg h1, if_neg h2, if_neg h3, if_neg h4])
  clear h0 h1 h2 h3 h4
  go_wp2_with fail
  go_ret
  exact LineP.no HF.out K4.out rfl
end Go.Proofs.YtmddnklafplikaaDoor
namespace Go.Proofs.YtmddnklafplikaaDoor
open Go.RowKit
set_option linter.unusedVariables false
set_option maxRecDepth 20000
theorem results_cell4 {fn : Func} {p q r s : Tmp} {ty : TypeId} (h : fn.results = #[.cell p ty, .tmp q, .tmp r, .tmp s]) (tmps : Array Value) (w : World) (g : Nat) (V v v2 v3 : Value)
    (hp : tmps.getD p undef = .pointer (some ⟨g, 0, none⟩)) (hv : tmps.getD q undef = v) (hv2 : tmps.getD r undef = v2) (hv3 : tmps.getD s undef = v3) (hl : (loadVar ty ⟨g, 0, none⟩).run Tryd.prog w = .ok V w) :
    (results fn tmps).run Tryd.prog w = .ok (.tuple #[V, v, v2, v3]) w := by
  have hp' : tmps[p]?.getD undef = .pointer (some ⟨g, 0, none⟩) := by simpa using hp
  have hv' : tmps[q]?.getD undef = v := by simpa using hv
  have hv2' : tmps[r]?.getD undef = v2 := by simpa using hv2
  have hv3' : tmps[s]?.getD undef = v3 := by simpa using hv3
  simp [results, h, hp', hv', hv2', hv3', asAddr, hl]
def cfgA (wa ka : Option Addr) (wc kc : Nat) (st : PS) : Array Value := #[.slice wa st.ws.length wc, .slice ka st.ks.length kc, .int .i64 (st.ns.getD 0 0), .int .i64 (st.ns.getD 1 0), .int .i64 (st.ns.getD 2 0), .int .i64 (st.ns.getD 3 0), .int .i64 (st.ns.getD 4 0), .int .i64 (st.ns.getD 5 0), .int .i64 (st.ns.getD 6 0), .int .i64 (st.ns.getD 7 0), .int .i64 (st.ns.getD 8 0), .int .i64 (st.ns.getD 9 0)]
structure ParsedAt (w : World) (B : Nat) (wa ka ea : Option Addr) (wc kc ec : Nat) (st : PS) : Prop where
  rw : w.ownsRow B 9 1 (.slice wa st.ws.length wc) st.ws.length (strsV st.ws)
  rk : w.ownsRow B 65 2 (.slice ka st.ks.length kc) st.ks.length (keysV st.ks)
  re : w.ownsRow B 50 7 (.slice ea st.es.length ec) st.es.length (evsV st.es)
  len : st.ns.length = 10
  cap : st.ws.length ≤ 1048576 ∧ st.ks.length ≤ 1048576 ∧ st.es.length ≤ 1048576
def ParP (w : World) (r : PS × Nat × Nat) (e : Ending) (w' : World) : Prop := ∃ wa ka ea wc kc ec, e = .returned (.tuple #[.agg (cfgA wa ka wc kc r.1), .slice ea r.1.es.length ec, .int .i64 (r.2.1 : Int), .int .i64 (r.2.2 : Int)]) ∧ ParsedAt w' w.heap.size wa ka ea wc kc ec r.1 ∧ Below w.heap.size w w'
theorem parsed_zero (w : World) (B : Nat) : ParsedAt w B none none none 0 0 0 ps0 := ⟨World.ownsRow_nil _ _ _ _, World.ownsRow_nil _ _ _ _, World.ownsRow_nil _ _ _ _, rfl, by decide⟩
theorem partsF_grow {st st' : PS} {k : List UInt8} {r : List (List UInt8)} (h : partsF st k r = some st') : st'.ws.length ≤ st.ws.length + 1 ∧ st'.ks.length ≤ st.ks.length + 1 ∧ st'.es.length ≤ st.es.length + 1 := by
  unfold partsF at h
  split at h
  · unfold wordF at h
    split at h
    · split at h
      · injection h with h; subst h; simp
      · cases h
    · cases h
  · split at h
    · unfold cutF at h
      split at h
      · split at h
        · injection h with h; subst h; simp
        · cases h
      · cases h
    · split at h
      · unfold setF at h
        split at h
        · injection h with h; subst h; simp
        · cases h
      · split at h
        · unfold evF at h
          split at h
          · split at h
            · cases h
            · injection h with h; subst h; simp
          · cases h
        · split at h
          · unfold askF at h
            split at h
            · split at h
              · injection h with h; subst h; simp
              · cases h
            · cases h
          · cases h
theorem lineF_grow {st st' : PS} {l : List UInt8} (h : lineF st l = some st') : st'.ws.length ≤ st.ws.length + 1 ∧ st'.ks.length ≤ st.ks.length + 1 ∧ st'.es.length ≤ st.es.length + 1 := by
  unfold lineF at h
  split at h
  · exact partsF_grow h
  · cases h
theorem linesL_le (s : List UInt8) : (linesL s).length ≤ s.length + 1 ∧ ∀ p ∈ linesL s, p.length ≤ s.length := by
  have h1 : ∀ l : List UInt8, (splitL 10 l).length ≤ l.length + 1 := by
    intro l
    induction l with
    | nil => simp [splitL]
    | cons x l ih =>
      unfold splitL
      split
      · simp; omega
      · split
        · simp
        · rename_i h t e
          rw [e] at ih; simp at ih ⊢; omega
  have h2 : (trimN s).length ≤ s.length := by
    unfold trimN
    split
    · rw [List.length_dropLast]; omega
    · omega
  unfold linesL
  split
  · simp
  · refine ⟨Nat.le_trans (h1 _) (by omega), fun p hp => Nat.le_trans (splitL_le 10 _ p hp) h2⟩
theorem holds_kept {w w' : World} {a : Option Addr} {n : Nat} {ts : List Tx} (h : HoldsT w a n ts) (hk : ∀ g o, a = some ⟨g, o, none⟩ → w'.heap[g]? = w.heap[g]?) : HoldsT w' a n ts := by
  refine ⟨h.1, fun h0 => ?_⟩
  obtain ⟨b, o, ha, hc⟩ := h.2 h0
  exact ⟨b, o, ha, fun i hi => (World.cell?_of_block (w := w) (hk b o ha)).trans (hc i hi)⟩
theorem owns_lowS {w : World} {B B' : Nat} {e : TypeId} {size : Nat} {v : Value} {n : Nat} {xs : List Value} (h : w.ownsRow B e size v n xs) (hb : B' ≤ B) : w.ownsRow B' e size v n xs := by
  refine ⟨h.1, ?_⟩
  rcases h.2 with hn | ⟨g, cap, cur, hv, hB, rest⟩
  · exact Or.inl hn
  · exact Or.inr ⟨g, cap, cur, hv, Nat.le_trans hb hB, rest⟩
theorem grown_rowS (w : World) (g : Nat) (cs : Array Value) : w.grownBy (w.setRow g cs) (some g) := ⟨rfl, rfl, rfl, by simp, fun k hk hne => setRow_other w g k cs (fun e => hne (by rw [e]))⟩
theorem ParAt.parsed {w w' : World} {R b q B : Nat} {wa ka ea : Option Addr} {wc kc ec : Nat} {st : PS} (h : ParAt w R b wa ka ea wc kc ec st) (hg : w.grownBy w' (some q)) (hq : q < R) (hB : B ≤ R) : ParsedAt w' B wa ka ea wc kc ec st :=
  ⟨owns_lowS (h.rw.kept hg (Or.inr fun e => by have := (h.rw.lt q e).1; omega)) hB, owns_lowS (h.rk.kept hg (Or.inr fun e => by have := (h.rk.lt q e).1; omega)) hB, owns_lowS (h.re.kept hg (Or.inr fun e => by have := (h.re.lt q e).1; omega)) hB, h.len, h.cap⟩
theorem cfg_size : (Tryd.prog.info? 30).map (·.size) = some 12 := by kernel_rfl
def zPar : Array Value := #[.slice none 0 0, .slice none 0 0, .int .i64 0, .int .i64 0, .int .i64 0, .int .i64 0, .int .i64 0, .int .i64 0, .int .i64 0, .int .i64 0, .int .i64 0, .int .i64 0, .slice none 0 0]
theorem below_rowS {B q : Nat} {w w' : World} (h : Below B w w') (hq : B ≤ q) (cs : Array Value) : Below B w (w'.setRow q cs) := ⟨h.os, h.tape, h.output, by simpa using h.size, fun k hk => (setRow_other w' q k cs (by omega)).trans (h.block k hk)⟩
theorem readF_no {st : PS} {i : Nat} {l : List UInt8} {r : List (List UInt8)} (h : lineF st l = none) : readF st i (l :: r) = (ps0, i + 1) := by rw [readF, h]
theorem readF_yes {st st' : PS} {i : Nat} {l : List UInt8} {r : List (List UInt8)} (h : lineF st l = some st') : readF st i (l :: r) = readF st' (i + 1) r := by rw [readF, h]
theorem parse_ok {s : List UInt8} {st : PS} (hs : s.length ≤ 65536) (h : readF ps0 0 (linesL s) = (st, 0)) : parseF s = (st, 0, 0) := by
  unfold parseF; rw [if_neg (by omega), h]
theorem parse_bad {s : List UInt8} {k : Nat} (hs : s.length ≤ 65536) (h : readF ps0 0 (linesL s) = (ps0, k + 1)) : parseF s = (ps0, k + 1, 11) := by
  unfold parseF; rw [if_neg (by omega), h]
def zCfg : Array Value := #[.slice none 0 0, .slice none 0 0, .int .i64 0, .int .i64 0, .int .i64 0, .int .i64 0, .int .i64 0, .int .i64 0, .int .i64 0, .int .i64 0, .int .i64 0, .int .i64 0]
set_option maxRecDepth 100000 in
set_option maxHeartbeats 1600000 in
theorem parse_any (s : ByteArray) (w : World) (hs : s.size ≤ 300000) (hm : MaxL w) : Calls Tryd.prog 18 #[.string s] w (ParP w (parseF s.data.toList)) := by
  obtain ⟨d, hd⟩ : ∃ d, s.data.toList = d := ⟨_, rfl⟩
  have hds : d.length = s.size := by rw [← hd]; simp
  obtain ⟨z, hz⟩ : ∃ z, s.size = z := ⟨_, rfl⟩
  rw [hd]
  rw [hz] at hs hds
  have HD := Lib.hid hd
  have HDS := Lib.hid hds
  obtain ⟨w1, hw1⟩ : ∃ w1, w.alloc (.cells zCfg 30) = w1 := ⟨_, rfl⟩
  have hb1 : Below w.heap.size w w1 := hw1 ▸ below_one w _
  have hc1 : w1.heap[w.heap.size]? = some (.cells zCfg 30 (0, 0)) := by rw [← hw1]; exact heap_alloc_new w _
  have hs1 : w1.heap.size = w.heap.size + 1 := by rw [← hw1]; simp
  by_cases h6 : 65536 < z
  · have hpf : parseF d = (ps0, 0, 3) := by unfold parseF; rw [if_pos (by omega)]
    have HPF := Lib.hid hpf
    have d1 : decide ((z : Int) > 65536) = true := decide_eq_true (by omega)
    have d2 : decide (65536 < z) = true := decide_eq_true h6
    have B1 := Lib.hid hb1
    have C1 := Lib.hid hc1
    clear hd hds hpf h6 hb1 hc1 hs1
    unfold zCfg at hw1
    go_enter Tryd.func18, Tryd.ntmps18
    go_upto_region 1 with fail
    try rw [hw1]
    obtain ⟨q, hq⟩ : ∃ q, w.heap.size = q := ⟨_, rfl⟩
    try simp only [hq]
    have HQ := Lib.hid hq
    rw [hq] at C1
    clear hw1 hq
    go_wp2_with (first | (refine wpList_store_row rfl 30 (.tmp 2) (.tmp 12) rfl q #[.slice none 0 0, .slice none 0 0, .int .i64 0, .int .i64 0, .int .i64 0, .int .i64 0, .int .i64 0, .int .i64 0, .int .i64 0, .int .i64 0, .int .i64 0, .int .i64 0] rfl rfl 30 zCfg C1.out cfg_size rfl (by simp [Value.oneCell']) ?_) | fail)
    (try simp only [Exit.inBlock, Exit.then])
    refine bodyPost_ret (results_cell4 rfl _ _ q _ _ _ _ rfl rfl rfl rfl (run_loadVar_row _ q 30 30 #[.slice none 0 0, .slice none 0 0, .int .i64 0, .int .i64 0, .int .i64 0, .int .i64 0, .int .i64 0, .int .i64 0, .int .i64 0, .int .i64 0, .int .i64 0, .int .i64 0] (0, 0) _ (setRow_heap _ q _ _ _ _ C1.out) Tryd.underlying30 rfl cfg_size)) rfl ?_
    rw [HPF.out]
    exact ⟨none, none, none, 0, 0, 0, rfl, parsed_zero _ _, below_rowS B1.out (by rw [HQ.out]; exact Nat.le_refl _) _⟩
  · have d1 : decide ((z : Int) > 65536) = false := decide_eq_false (by omega)
    have d2 : decide (65536 < z) = false := decide_eq_false h6
    have B1 := Lib.hid hb1
    have C1 := Lib.hid hc1
    obtain ⟨w2, hw2⟩ : ∃ w2, w1.alloc (.cells zPar 77) = w2 := ⟨_, rfl⟩
    have hb2 : Below w1.heap.size w1 w2 := hw2 ▸ below_one w1 _
    have hc2 : w2.heap[w1.heap.size]? = some (.cells zPar 77 (0, 0)) := by rw [← hw2]; exact heap_alloc_new w1 _
    have hs2 : w2.heap.size = w1.heap.size + 1 := by rw [← hw2]; simp
    have HPY := Lib.hid (fun st h => parse_ok (s := d) (st := st) (by omega) h)
    have HPN := Lib.hid (fun k h => parse_bad (s := d) (k := k) (by omega) h)
    have CL := Lib.hid (fun w' (h : MaxL w') => lines_any s w' (by omega) h)
    rw [hd] at CL
    have B2 := Lib.hid (hb1.trans (hb2.mono hb1.size))
    have M2 := Lib.hid (hm.below (hb1.trans (hb2.mono hb1.size)) (Nat.le_refl _))
    have C2 := Lib.hid hc2
    have C1' := Lib.hid (show w2.heap[w.heap.size]? = some (.cells zCfg 30 (0, 0)) from by rw [hb2.block _ (by omega)]; exact hc1)
    have S1 := Lib.hid hs1; have S2 := Lib.hid hs2
    have HM := Lib.hid hm
    clear h6 hb1 hc1 hb2 hc2 hd hm hds
    unfold zCfg at hw1
    unfold zPar at hw2
    go_enter Tryd.func18, Tryd.ntmps18
    go_upto_region 4 with fail
    try rw [hw1]
    try rw [hw2]
    obtain ⟨q, hq⟩ : ∃ q, w.heap.size = q := ⟨_, rfl⟩
    have hq1 : w1.heap.size = q + 1 := by rw [← hq]; exact hs1
    try simp only [hq]
    have HQ := Lib.hid hq
    rw [hq] at C1'
    rw [hq1] at C2
    have S3 := Lib.hid (show w2.heap.size = q + 2 from by rw [hs2, hq1])
    clear hw1 hw2 hq hq1 hs1 hs2
    go_wp2_with fail
    refine (CL.out _ M2.out).mono ?_
    rintro e w3 ⟨la, ts, n, rfl, hT, hls, hB, hn, hlg⟩
    have hlb := linesL_le d
    have hn9 : n ≤ 300001 := by rw [hn]; have := HDS.out; omega
    obtain ⟨R, hRd⟩ : ∃ R, w3.heap.size = R := ⟨_, rfl⟩
    have hRq : q + 2 ≤ R := by rw [← hRd, ← S3.out]; exact hB.size
    have BW := Lib.hid (B2.out.trans (hB.mono B2.out.size))
    have C13 := Lib.hid (show w3.heap[q]? = some (.cells zCfg 30 (0, 0)) from by rw [hB.block q (by rw [S3.out]; omega)]; exact C1'.out)
    have P3 := Lib.hid (show PA w3 R (q + 1) ps0 from ⟨none, none, none, 0, 0, 0, by rw [hB.block (q + 1) (by rw [S3.out]; omega)]; exact C2.out, World.ownsRow_nil _ _ _ _, World.ownsRow_nil _ _ _ _, World.ownsRow_nil _ _ _ _, by omega, rfl, by decide⟩)
    have HT := Lib.hid (show ∀ wr, KP R (q + 1) w3 wr → HoldsT wr la n ts from fun wr hk => by
      rcases Nat.eq_zero_or_pos n with h0 | h0
      · exact ⟨hT.1, fun h => absurd h (by omega)⟩
      · obtain ⟨gb, go, hga, hgc⟩ := hT.at h0
        refine holds_kept hT fun g o hg => ?_
        have h1 := hlg g o hg
        rw [hga] at hg
        injection hg with hg
        injection hg with hg hg2
        have h2 := lt_of_cell (hgc 0 h0)
        rw [S3.out] at h1
        exact hk.mid g (by omega) (by rw [← hRd, ← hg]; exact h2))
    have HTS := Lib.hid (show ∀ i, i < n → ∃ t : Tx, ts.getD i ByteArray.empty = t ∧ t.size ≤ 300000 ∧ (linesL d).drop i = t.data.toList :: (linesL d).drop (i + 1) from fun i hi => by
      have hl : i < (linesL d).length := by omega
      have hl2 : i < ts.length := by rw [hT.len]; exact hi
      have h1 : ts[i].data.toList = (linesL d)[i] := by
        have h : (bytesL ts)[i]? = (linesL d)[i]? := by rw [hls]
        unfold bytesL at h
        rw [List.getElem?_map, List.getElem?_eq_getElem hl2, List.getElem?_eq_getElem hl] at h
        injection h
      refine ⟨ts[i], by rw [List.getD_eq_getElem?_getD, List.getElem?_eq_getElem hl2]; rfl, ?_, by rw [h1]; exact List.drop_eq_getElem_cons hl⟩
      have h2 := hlb.2 _ (List.getElem_mem hl)
      rw [← h1] at h2
      have h3 : ts[i].data.toList.length = ByteArray.size ts[i] := Array.length_toList
      have := HDS.out; omega)
    have HNL := Lib.hid hn
    have HRD := Lib.hid hRd
    clear hT hls hB hn hlg hlb hRd
    go_wp2_with fail
    go_loopw [16] (fun iv wr => ∃ (i : Nat) (st : PS), i ≤ n ∧ iv = .int .i64 i ∧ Hid (readF ps0 0 (linesL d) = readF st i ((linesL d).drop i)) ∧ Hid (PA wr R (q + 1) st) ∧ Hid (KP R (q + 1) w3 wr) ∧ Hid (st.ws.length ≤ i ∧ st.ks.length ≤ i ∧ st.es.length ≤ i)) (fun iv _ => n - (intOf iv).toNat)
    case atStart => exact ⟨0, ps0, by omega, rfl, Lib.hid rfl, P3, Lib.hid (KP.refl _ _ _), Lib.hid (by decide)⟩
    case round =>
      clear P3
      obtain ⟨i, st, hi, rfl, hF, hP, hK, hL⟩ := hrel
      have CQ := Lib.hid (show wr.heap[q]? = some (.cells zCfg 30 (0, 0)) from by rw [hK.out.bel.block q (by omega)]; exact C13.out)
      have BR := Lib.hid (BW.out.trans (hK.out.bel.mono (by rw [HQ.out]; omega)))
      by_cases hlt : i < n
      · obtain ⟨t, ht, hts, hdr⟩ := HTS.out i hlt
        obtain ⟨lb, lo, rfl, hcc⟩ := (HT.out wr hK.out).at (by omega)
        have x0 := hcc i hlt
        rw [ht] at x0
        obtain ⟨o, ho⟩ : ∃ o, lineF st t.data.toList = o := ⟨_, rfl⟩
        have hR : R ≤ wr.heap.size := by rw [← HRD.out]; exact hK.out.bel.size
        have LI := Lib.hid (line_any R (q + 1) st t wr hP.out hR hts (HM.out.below BR.out (Nat.le_refl _)) (by have := hL.out; omega) (by have := hL.out; omega) (by have := hL.out; omega))
        rw [ho] at LI
        have hF2 := hF.out
        rw [hdr] at hF2
        have n2 : (i : Int) < (n : Int) := by omega
        cases o with
        | none =>
          rw [readF_no ho] at hF2
          have HE := Lib.hid (HPN.out i hF2)
          clear ht hdr hcc ho hF hF2 hP hL hR
          go_wp2_with fail
          refine LI.out.mono ?_
          intro e w5 h5
          have he := h5.ret
          subst he
          have C5 := Lib.hid (show w5.heap[q]? = some (.cells zCfg 30 (0, 0)) from by rw [h5.1.bel.block q (by omega)]; exact CQ.out)
          have B5 := Lib.hid (BR.out.trans (h5.1.bel.mono (by rw [HQ.out]; omega)))
          have g1 : IntKind.i64.wrap ((i : Int) + 1) = ((i + 1 : Nat) : Int) := by rw [IntWalk.i64_in _ (by omega)]; omega
          clear h5
          go_wp2_with (first | (refine wpList_store_row rfl 30 (.tmp 2) (.tmp 24) rfl q #[.slice none 0 0, .slice none 0 0, .int .i64 0, .int .i64 0, .int .i64 0, .int .i64 0, .int .i64 0, .int .i64 0, .int .i64 0, .int .i64 0, .int .i64 0, .int .i64 0] rfl rfl 30 zCfg C5.out cfg_size rfl (by simp [Value.oneCell']) ?_) | fail)
          (try simp only [Exit.inBlock, Exit.then])
          refine bodyPost_ret (results_cell4 rfl _ _ q _ _ _ _ rfl rfl rfl rfl (run_loadVar_row _ q 30 30 #[.slice none 0 0, .slice none 0 0, .int .i64 0, .int .i64 0, .int .i64 0, .int .i64 0, .int .i64 0, .int .i64 0, .int .i64 0, .int .i64 0, .int .i64 0, .int .i64 0] (0, 0) _ (setRow_heap _ q _ _ _ _ C5.out) Tryd.underlying30 rfl cfg_size)) rfl ?_
          rw [HE.out]
          exact ⟨none, none, none, 0, 0, 0, rfl, parsed_zero _ _, below_rowS B5.out (by rw [HQ.out]; exact Nat.le_refl _) _⟩
        | some st2 =>
          have hg := lineF_grow ho
          have L2 := Lib.hid (show st2.ws.length ≤ i + 1 ∧ st2.ks.length ≤ i + 1 ∧ st2.es.length ≤ i + 1 from by have := hL.out; omega)
          rw [readF_yes ho] at hF2
          have F2 := Lib.hid hF2
          clear ht hdr hcc ho hF hF2 hP hL hR hg
          go_wp2_with fail
          refine LI.out.mono ?_
          intro e w5 h5
          have he := h5.ret
          subst he
          have K5 := Lib.hid (hK.out.trans h5.1)
          have P5 := Lib.hid h5.2.2
          clear h5
          go_wp2_with fail
          go_roundw
          case rel => exact ⟨i + 1, st2, by omega, by go_num, F2, P5, K5, L2⟩
          case measure => simp [intOf] <;> omega
      · obtain rfl : i = n := by omega
        have hF2 := hF.out
        rw [List.drop_eq_nil_of_le (by rw [← HNL.out]; exact Nat.le_refl _)] at hF2
        have HE := Lib.hid (HPY.out st hF2)
        obtain ⟨wa, ka, ea, wc, kc, ec, hq⟩ := hP.out
        have HPP := Lib.hid hq
        clear hF hF2 hP hq
        go_upto_region 10 with fail
        have KX := Lib.hid (fun (w' : World) (h : w'.heap[q + 1]? = wr.heap[q + 1]?) => (show w'.cell? ⟨q + 1, 0, none⟩ = some (.slice wa st.ws.length wc) ∧ w'.cell? ⟨q + 1, 1, none⟩ = some (.slice ka st.ks.length kc) ∧ w'.cell? ⟨q + 1, 2, none⟩ = some (.int .i64 (st.ns.getD 0 0)) ∧ w'.cell? ⟨q + 1, 3, none⟩ = some (.int .i64 (st.ns.getD 1 0)) ∧ w'.cell? ⟨q + 1, 4, none⟩ = some (.int .i64 (st.ns.getD 2 0)) ∧ w'.cell? ⟨q + 1, 5, none⟩ = some (.int .i64 (st.ns.getD 3 0)) ∧ w'.cell? ⟨q + 1, 6, none⟩ = some (.int .i64 (st.ns.getD 4 0)) ∧ w'.cell? ⟨q + 1, 7, none⟩ = some (.int .i64 (st.ns.getD 5 0)) ∧ w'.cell? ⟨q + 1, 8, none⟩ = some (.int .i64 (st.ns.getD 6 0)) ∧ w'.cell? ⟨q + 1, 9, none⟩ = some (.int .i64 (st.ns.getD 7 0)) ∧ w'.cell? ⟨q + 1, 10, none⟩ = some (.int .i64 (st.ns.getD 8 0)) ∧ w'.cell? ⟨q + 1, 11, none⟩ = some (.int .i64 (st.ns.getD 9 0)) ∧ w'.cell? ⟨q + 1, 12, none⟩ = some (.slice ea st.es.length ec) from by
          have h2 := h.trans HPP.out.blk
          refine ⟨?_, ?_, ?_, ?_, ?_, ?_, ?_, ?_, ?_, ?_, ?_, ?_, ?_⟩ <;> (rw [Lib.cell_of_heap h2]; rfl)))
        have hS0 := KX.out wr.drew rfl
        refine wp_region_held_drew (S := (fun w' => w'.cell? ⟨q + 1, 0, none⟩ = some (.slice wa st.ws.length wc) ∧ w'.cell? ⟨q + 1, 1, none⟩ = some (.slice ka st.ks.length kc) ∧ w'.cell? ⟨q + 1, 2, none⟩ = some (.int .i64 (st.ns.getD 0 0)) ∧ w'.cell? ⟨q + 1, 3, none⟩ = some (.int .i64 (st.ns.getD 1 0)) ∧ w'.cell? ⟨q + 1, 4, none⟩ = some (.int .i64 (st.ns.getD 2 0)) ∧ w'.cell? ⟨q + 1, 5, none⟩ = some (.int .i64 (st.ns.getD 3 0)) ∧ w'.cell? ⟨q + 1, 6, none⟩ = some (.int .i64 (st.ns.getD 4 0)) ∧ w'.cell? ⟨q + 1, 7, none⟩ = some (.int .i64 (st.ns.getD 5 0)) ∧ w'.cell? ⟨q + 1, 8, none⟩ = some (.int .i64 (st.ns.getD 6 0)) ∧ w'.cell? ⟨q + 1, 9, none⟩ = some (.int .i64 (st.ns.getD 7 0)) ∧ w'.cell? ⟨q + 1, 10, none⟩ = some (.int .i64 (st.ns.getD 8 0)) ∧ w'.cell? ⟨q + 1, 11, none⟩ = some (.int .i64 (st.ns.getD 9 0)) ∧ w'.cell? ⟨q + 1, 12, none⟩ = some (.slice ea st.es.length ec))) (by kernel_rfl) hS0 (fun hHeld0 => ?_)
        clear hS0
        have CQ0 := Lib.hid (show wr.drew.heap[q]? = _ from CQ.out)
        have BR0 := Lib.hid (show Below w.heap.size w wr.drew from BR.out.drew)
        have HP0 := Lib.hid (show ParAt wr.drew R (q + 1) wa ka ea wc kc ec st from HPP.out.below (Below.refl _ _).drew)
        have KX0 := Lib.hid (show ∀ cs, (wr.drew.setRow q cs).heap[q + 1]? = wr.heap[q + 1]? from fun cs => setRow_other wr.drew q (q + 1) cs (by omega))
        generalize wr.drew = X0 at *
        refine wpAnyH_take (i := 0) (oi := { dst := some 28, op := Op.fieldAddr 77 (Operand.tmp 6) 0, type := 0, pos := "script.go:51", after := #[], guard := none }) (v := ?vz1) rfl (by kernel_rfl) (by kernel_rfl) (by kernel_rfl) (fun _ _ _ h => h) (Or.inl ⟨by rfl, ?hyz1⟩) (by assumption) ?restz1
        case hyz1 => (intro w hSw; (try dsimp only at hSw); go_simp; (try with_reducible rfl))
        try simp only [Act.put, List.setIfInBounds_toArray, List.set_cons_zero, List.set_cons_succ]
        refine wpAnyH_take (i := 1) (oi := { dst := some 29, op := Op.load 30 (Operand.tmp 28), type := 30, pos := "script.go:51", after := #[{ on := 0, ground := Ground.data }], guard := none }) (v := ?vz2) rfl (by kernel_rfl) (by kernel_rfl) (by kernel_rfl) (fun _ _ _ h => h) (Or.inl ⟨by rfl, ?hyz2⟩) (by assumption) ?restz2
        case hyz2 => (intro w hSw; (try dsimp only at hSw); go_simp; (try with_reducible rfl))
        try simp only [Act.put, List.setIfInBounds_toArray, List.set_cons_zero, List.set_cons_succ]
        refine wpAnyH_take (i := 2) (oi := { dst := some 30, op := Op.fieldAddr 77 (Operand.tmp 6) 1, type := 0, pos := "script.go:51", after := #[{ on := 4, ground := Ground.gcOnly Departure.lateStores }], guard := none }) (v := ?vz3) rfl (by kernel_rfl) (by kernel_rfl) (by kernel_rfl) (fun _ _ _ h => h) (Or.inl ⟨by rfl, ?hyz3⟩) (by assumption) ?restz3
        case hyz3 => (intro w hSw; (try dsimp only at hSw); go_simp; (try with_reducible rfl))
        try simp only [Act.put, List.setIfInBounds_toArray, List.set_cons_zero, List.set_cons_succ]
        refine wpAnyH_take (i := 3) (oi := { dst := some 31, op := Op.load 31 (Operand.tmp 30), type := 31, pos := "script.go:51", after := #[{ on := 2, ground := Ground.data }, { on := 4, ground := Ground.gcOnly Departure.lateStores }], guard := none }) (v := ?vz4) rfl (by kernel_rfl) (by kernel_rfl) (by kernel_rfl) (fun _ _ _ h => h) (Or.inl ⟨by rfl, ?hyz4⟩) (by assumption) ?restz4
        case hyz4 => (intro w hSw; (try dsimp only at hSw); go_simp; (try with_reducible rfl))
        try simp only [Act.put, List.setIfInBounds_toArray, List.set_cons_zero, List.set_cons_succ]
        refine wpAnyH_ready (rs := [4]) (by kernel_rfl) (by simp) ?_
        refine AllReadyH.cons (o := { dst := none, op := Op.store 30 (Operand.tmp 2) (Operand.tmp 29), type := 0, pos := "script.go:51", after := #[{ on := 1, ground := Ground.data }, { on := 0, ground := Ground.phase }, { on := 1, ground := Ground.phase }, { on := 2, ground := Ground.textOnly Departure.lateStores }, { on := 3, ground := Ground.textOnly Departure.lateStores }], guard := none }) rfl (fun K hK => ?_) AllReadyH.nil
        · rw [if_pos (by rfl)]
          refine wp_store_row 30 _ _ rfl q #[.slice wa st.ws.length wc, .slice ka st.ks.length kc, .int .i64 (st.ns.getD 0 0), .int .i64 (st.ns.getD 1 0), .int .i64 (st.ns.getD 2 0), .int .i64 (st.ns.getD 3 0), .int .i64 (st.ns.getD 4 0), .int .i64 (st.ns.getD 5 0), .int .i64 (st.ns.getD 6 0), .int .i64 (st.ns.getD 7 0), .int .i64 (st.ns.getD 8 0), .int .i64 (st.ns.getD 9 0)] (by rfl) (by rfl) 30 zCfg CQ0.out cfg_size rfl (by simp [Value.oneCell']) ?_
          refine hK.out _ _ (KX.out _ (KX0.out _)) (fun hHeldE => ?_)
          clear hK K hHeld0
          try simp only [Act.put]
          refine wpAnyH_take (i := 5) (oi := { dst := some 3, op := Op.assign (Operand.tmp 31), type := 31, pos := "script.go:51", after := #[{ on := 3, ground := Ground.data }, { on := 4, ground := Ground.chain }, { on := 0, ground := Ground.phase }, { on := 1, ground := Ground.phase }, { on := 2, ground := Ground.phase }, { on := 3, ground := Ground.phase }, { on := 4, ground := Ground.phase }], guard := none }) (v := ?vz5) rfl (by kernel_rfl) (by kernel_rfl) (by kernel_rfl) (fun _ _ _ h => h) (Or.inl ⟨by rfl, ?hyz5⟩) (by assumption) ?restz5
          case hyz5 => (intro w hSw; (try dsimp only at hSw); go_simp; (try with_reducible rfl))
          try simp only [Act.put, List.setIfInBounds_toArray, List.set_cons_zero, List.set_cons_succ]
          refine wpAnyH_take (i := 6) (oi := { dst := some 4, op := Op.assign (Operand.const (Value.int IntKind.i64 0)), type := 3, pos := "script.go:51", after := #[{ on := 5, ground := Ground.chain }, { on := 0, ground := Ground.phase }, { on := 1, ground := Ground.phase }, { on := 2, ground := Ground.phase }, { on := 3, ground := Ground.phase }, { on := 4, ground := Ground.phase }, { on := 5, ground := Ground.phase }], guard := none }) (v := ?vz6) rfl (by kernel_rfl) (by kernel_rfl) (by kernel_rfl) (fun _ _ _ h => h) (Or.inl ⟨by rfl, ?hyz6⟩) (by assumption) ?restz6
          case hyz6 => (intro w hSw; (try dsimp only at hSw); go_simp; (try with_reducible rfl))
          try simp only [Act.put, List.setIfInBounds_toArray, List.set_cons_zero, List.set_cons_succ]
          refine wpAnyH_take (i := 7) (oi := { dst := some 5, op := Op.assign (Operand.const (Value.int IntKind.i64 0)), type := 34, pos := "script.go:51", after := #[{ on := 6, ground := Ground.chain }, { on := 0, ground := Ground.phase }, { on := 1, ground := Ground.phase }, { on := 2, ground := Ground.phase }, { on := 3, ground := Ground.phase }, { on := 4, ground := Ground.phase }, { on := 5, ground := Ground.phase }, { on := 6, ground := Ground.phase }], guard := none }) (v := ?vz7) rfl (by kernel_rfl) (by kernel_rfl) (by kernel_rfl) (fun _ _ _ h => h) (Or.inl ⟨by rfl, ?hyz7⟩) (by assumption) ?restz7
          case hyz7 => (intro w hSw; (try dsimp only at hSw); go_simp; (try with_reducible rfl))
          try simp only [Act.put, List.setIfInBounds_toArray, List.set_cons_zero, List.set_cons_succ]
          refine wpAnyH_done (by kernel_rfl) ?_ _
          go_wp2_with fail
          (try simp only [Exit.then])
          refine bodyPost_ret (results_cell4 rfl _ _ q _ _ _ _ rfl rfl rfl rfl (run_loadVar_row _ q 30 30 #[.slice wa st.ws.length wc, .slice ka st.ks.length kc, .int .i64 (st.ns.getD 0 0), .int .i64 (st.ns.getD 1 0), .int .i64 (st.ns.getD 2 0), .int .i64 (st.ns.getD 3 0), .int .i64 (st.ns.getD 4 0), .int .i64 (st.ns.getD 5 0), .int .i64 (st.ns.getD 6 0), .int .i64 (st.ns.getD 7 0), .int .i64 (st.ns.getD 8 0), .int .i64 (st.ns.getD 9 0)] (0, 0) _ (setRow_heap _ q _ _ _ _ CQ0.out) Tryd.underlying30 rfl cfg_size)) rfl ?_
          rw [HE.out]
          exact ⟨wa, ka, ea, wc, kc, ec, rfl, HP0.out.parsed (grown_rowS _ q _) (by omega) (by rw [HQ.out]; omega), below_rowS BR0.out (by rw [HQ.out]; exact Nat.le_refl _) _⟩
end Go.Proofs.YtmddnklafplikaaDoor
namespace Go.Proofs.YtmddnklafplikaaDoor
open Go.RowKit
set_option linter.unusedVariables false
set_option maxRecDepth 20000
theorem ssEvents (x : ByteArray) : (x.toList == x.toList) = true := by simp
set_option maxHeartbeats 1600000 in
theorem sameEvents_quiet (a1 a2 : Option Addr) (n c1 c2 : Nat) (z : List EvP) (w : World) (h1 : HoldsEv w a1 n z) (h2 : HoldsEv w a2 n z) (hl : n ≤ 4611686018427387904) :
    Calls Tryd.prog 20 #[.slice a1 n c1, .slice a2 n c2] w fun e w' => e = .returned (.bool true) ∧ ∃ m, w' = w.drewN m := by
  have H1 := Lib.hid h1; have H2 := Lib.hid h2
  have hb : ((n : Int) != (n : Int)) = false := by simp
  clear h1 h2
  go_enter Tryd.func20, Tryd.ntmps20
  go_wp2
  go_loopw [5] (fun i wr => ∃ k m : Nat, k ≤ n ∧ i = .int .i64 k ∧ wr = w.drewN m) (fun i _ => n - (intOf i).toNat)
  case atStart => exact ⟨0, 0, by omega, rfl, rfl⟩
  case round =>
    obtain ⟨k, m, hk, rfl, rfl⟩ := hrel
    by_cases hlt : k < n
    · obtain ⟨b1, o1, rfl, k1⟩ := H1.out.at (by omega)
      obtain ⟨b2, o2, rfl, k2⟩ := H2.out.at (by omega)
      obtain ⟨e0, e1, e2, e3, e4, e5, e6⟩ := k1 k hlt
      obtain ⟨g0, g1, g2, g3, g4, g5, g6⟩ := k2 k hlt
      obtain ⟨x, hx⟩ : ∃ x, z.getD k ev0 = x := ⟨_, rfl⟩
      rw [hx] at e0 e1 e2 e3 e4 e5 e6 g0 g1 g2 g3 g4 g5 g6
      obtain ⟨x1, x2, x3, x4, x5, x6, x7⟩ := x
      simp only at e0 e1 e2 e3 e4 e5 e6 g0 g1 g2 g3 g4 g5 g6
      have f0 : (x1 == x1) = true := by simp
      have f1 : (x2 == x2) = true := by simp
      have f2 : (x3 == x3) = true := by simp
      have f3 : (x4 == x4) = true := by simp
      have f4 := ssEvents x5
      have f5 : (x6 == x6) = true := by simp
      have f6 : (x7 == x7) = true := by simp
      clear hx k1 k2
      go_wp2
      go_quiet (fail)
      go_wp2
      go_roundw
      case rel => exact ⟨k + 1, _, by omega, by go_num, rfl⟩
      case measure => simp [intOf]; omega
    · go_wp2
      go_ret
      exact ⟨rfl, _, rfl⟩
theorem sameEvents_yes (a1 a2 : Option Addr) (n c1 c2 : Nat) (z : List EvP) (w : World) (h1 : HoldsEv w a1 n z) (h2 : HoldsEv w a2 n z) (hl : n ≤ 4611686018427387904) :
    Calls Tryd.prog 20 #[.slice a1 n c1, .slice a2 n c2] w fun e w' => e = .returned (.bool true) ∧ Below w.heap.size w w' :=
  (sameEvents_quiet a1 a2 n c1 c2 z w h1 h2 hl).mono fun _ _ ⟨h, m, hm⟩ => ⟨h, by rw [hm]; exact below_drewN _ _⟩
end Go.Proofs.YtmddnklafplikaaDoor
