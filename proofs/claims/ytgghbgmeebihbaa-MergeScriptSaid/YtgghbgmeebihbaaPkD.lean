/- texts joined -/
import Derived.Test.YtgghbgmeebihbaaPkC
import Derived.Test.YtgghbgmeebihbaaPkA
import Derived.Test.YtgghbgmeebihbaaPkB
import Derived.Deep.RegionHeld3
import Derived.SliceStrings
import Derived.Deep.RegionWith
import Derived.Deep.QuietTactic
import Derived.BigQuiet
import Derived.Deep.DeepCutAuto
/- merge: one shard (plain) -/
namespace Go.Proofs.Ytgghbgmeebihbaa
open Go.RowKit
set_option linter.unusedVariables false
set_option maxRecDepth 20000
def sh1 (e : Bool) (q : Int) (rc : Bool) (l : KV) (ks : List KV) : SM := ⟨0, e, q, rc, l, none, ks.length, 0, ks⟩
theorem pop_sh1 (e : Bool) (q : Int) (rc : Bool) (l k : KV) (ks : List KV) : popS (sh1 e q rc l (k :: ks)) = sh1 e q rc l ks := by simp [popS, sh1]
theorem put_sh1 (q : Int) (rc : Bool) (l : KV) (ks : List KV) (e : Bool) : putSM (sh1 false q rc l []) ks e = sh1 e (q + 1) (rc || decide (0 < ks.length)) (if 0 < ks.length then ks.getD (ks.length - 1) k0 else l) ks := rfl
theorem done_sh1 (most : Int) (T : List KV) (e : Bool) (q : Int) (rc : Bool) (l : KV) (ks : List KV) : doneB most T [sh1 e q rc l ks] = (decide (most ≤ (T.length : Int)) || (e && decide (ks.length = 0))) := by
  have h1 : doneB most T [sh1 e q rc l ks] = (decide (most ≤ (T.length : Int)) || !((!e || decide (0 < ks.length)) || false)) := rfl
  rw [h1]
  cases ks <;> cases e <;> simp
theorem first_one (k : KV) : firstL [(0, k)] = (0, k) := by
  show bestF (0, k) (0, k) = (0, k)
  unfold bestF
  split <;> rfl
theorem tell_sh1 (most : Int) (e : Bool) (q : Int) (rc : Bool) (l : KV) : ∀ (f : Nat) (T ks out : List KV), most ≤ (T.length : Int) + f →
    tellF most f T [sh1 e q rc l ks] out = (T ++ ks.take (most - T.length).toNat, [sh1 e q rc l (ks.drop (most - T.length).toNat)], out ++ ks.take (most - T.length).toNat)
  | 0, T, ks, out, h => by
    have : (most - (T.length : Int)).toNat = 0 := by omega
    rw [this]
    simp [tellF]
  | f + 1, T, ks, out, h => by
    unfold tellF
    rw [done_sh1]
    by_cases hm : most ≤ (T.length : Int)
    · rw [decide_eq_true hm, Bool.true_or, if_pos rfl]
      have : (most - (T.length : Int)).toNat = 0 := by omega
      rw [this]
      simp
    · rw [decide_eq_false hm, Bool.false_or]
      cases ks with
      | nil =>
        have hh : headsN [sh1 e q rc l []] [sh1 e q rc l []].length = [] := rfl
        rw [hh, if_pos rfl]
        simp
      | cons k ks =>
        have hh : headsN [sh1 e q rc l (k :: ks)] [sh1 e q rc l (k :: ks)].length = [(0, k)] := by
          show [] ++ headOf [sh1 e q rc l (k :: ks)] 0 = _
          unfold headOf
          rw [if_pos (show 0 < ([sh1 e q rc l (k :: ks)].getD 0 sm0).wn from by show 0 < (k :: ks).length; simp)]
          rfl
        have hz : (e && decide ((k :: ks).length = 0)) = false := by simp
        have hp : [sh1 e q rc l (k :: ks)].any (prM k) = false := by
          show (prM k (sh1 e q rc l (k :: ks)) || false) = false
          unfold prM
          rw [show decide ((sh1 e q rc l (k :: ks)).wn = 0) = false from decide_eq_false (by show (k :: ks).length ≠ 0; simp)]
          simp
        rw [hz, hh, first_one, hp, if_neg (by simp), if_neg (by simp), if_neg (by simp)]
        have hs : [sh1 e q rc l (k :: ks)].set 0 (popS ([sh1 e q rc l (k :: ks)].getD 0 sm0)) = [sh1 e q rc l ks] := by
          show [popS (sh1 e q rc l (k :: ks))] = _
          rw [pop_sh1]
        show tellF most f (T ++ [k]) ([sh1 e q rc l (k :: ks)].set 0 (popS ([sh1 e q rc l (k :: ks)].getD 0 sm0))) (out ++ [k]) = _
        rw [hs, tell_sh1 most e q rc l f (T ++ [k]) ks (out ++ [k]) (by simp; omega)]
        have e1 : (most - (T.length : Int)).toNat = (most - ((T ++ [k]).length : Int)).toNat + 1 := by simp; omega
        rw [e1, List.take_succ_cons, List.drop_succ_cons]
        simp
/-- strictly rising -/
def Ris (L : List KV) : Prop := ∀ i j, i < j → j < L.length → lessK (L.getD i k0) (L.getD j k0) = true
theorem lessK_trans {a b c : KV} (h : lessK a b = true) (k : lessK b c = true) : lessK a c = true := decide_eq_true (ordK_trans (of_decide_eq_true h) (of_decide_eq_true k))
/-- each from 0 up, and behind the one before -/
def upN (L : List KV) : Nat → Bool
  | 0 => true
  | j + 1 => upN L j && (!decide ((L.getD j k0).1 < 0) && (decide (j = 0) || lessK (L.getD (j - 1) k0) (L.getD j k0)))
theorem upN_at {L : List KV} : ∀ {n : Nat}, upN L n = true → ∀ j, j < n → 0 ≤ (L.getD j k0).1 ∧ (0 < j → lessK (L.getD (j - 1) k0) (L.getD j k0) = true)
  | 0, _, j, hj => by omega
  | n + 1, h, j, hj => by
    unfold upN at h
    simp only [Bool.and_eq_true] at h
    by_cases e : j = n
    · subst e
      obtain ⟨_, h2, h3⟩ := h
      refine ⟨by simpa using h2, fun hp => ?_⟩
      rw [decide_eq_false (by omega), Bool.false_or] at h3
      exact h3
    · exact upN_at h.1 j (by omega)
theorem upN_ris {L : List KV} (h : upN L L.length = true) : Ris L := by
  intro i j hij hj
  induction j with
  | zero => omega
  | succ j ih =>
    have h1 := (upN_at h (j + 1) hj).2 (by omega)
    rw [Nat.add_sub_cancel] at h1
    by_cases e : i = j
    · subst e; exact h1
    · exact lessK_trans (ih (by omega) (by omega)) h1
theorem getD_cut (L : List KV) (a m j : Nat) (hj : j < m) : ((L.drop a).take m).getD j k0 = L.getD (a + j) k0 := by
  rw [List.getD_eq_getElem?_getD, List.getElem?_take, if_pos hj, List.getElem?_drop, ← List.getD_eq_getElem?_getD]
theorem cut_len (L : List KV) (a m : Nat) (h : a + m ≤ L.length) : ((L.drop a).take m).length = m := by
  rw [List.length_take, List.length_drop]; omega
/-- a part of what rises fits -/
theorem fits_cut {L : List KV} {a m : Nat} {e : Bool} {q : Int} {rc : Bool} {l : KV} (hu : upN L L.length = true) (hm : m ≤ 5) (ha : a + m ≤ L.length) (hl : rc = true → ∀ j, a ≤ j → j < L.length → lessK l (L.getD j k0) = true) : fitsB (sh1 e q rc l []) ((L.drop a).take m) = true := by
  have hlen := cut_len L a m ha
  have ris := upN_ris hu
  unfold fitsB
  rw [hlen, decide_eq_true hm, Bool.true_and]
  have : ∀ n, n ≤ m → fitN (sh1 e q rc l []) ((L.drop a).take m) n = true := by
    intro n
    induction n with
    | zero => intro _; rfl
    | succ n ih =>
      intro hn
      unfold fitN
      rw [ih (by omega), Bool.true_and, getD_cut L a m n (by omega)]
      have h0 := (upN_at hu (a + n) (by omega)).1
      have b1 : badS (sh1 e q rc l []) (L.getD (a + n) k0) = false := by
        show (decide ((L.getD (a + n) k0).1 < 0) || (rc && !lessK l (L.getD (a + n) k0))) = false
        rw [decide_eq_false (by omega)]
        cases rc with
        | false => rfl
        | true => rw [hl rfl (a + n) (by omega) (by omega)]; rfl
      have b2 : stepB ((L.drop a).take m) n = false := by
        unfold stepB
        by_cases hz : n = 0
        · rw [decide_eq_false (by omega)]; rfl
        · rw [getD_cut L a m n (by omega), getD_cut L a m (n - 1) (by omega), ris (a + (n - 1)) (a + n) (by omega) (by omega)]
          simp
      rw [b1, b2]; rfl
  exact this m (Nat.le_refl _)
theorem HoldsK.cut {w : World} {a : Option Addr} {n c : Nat} {ks : List KV} (h : HoldsK w a n ks) (l m : Nat) (hm : l + m ≤ n) (hc : n ≤ c) : HoldsK w (if c = l then a else a.map (·.add (l * 2))) m ((ks.drop l).take m) := by
  have hl := h.1
  refine ⟨cut_len ks l m (by omega), fun h0 => ?_⟩
  obtain ⟨b, o, rfl, hc2⟩ := h.2 (by omega)
  rw [if_neg (by omega)]
  refine ⟨b, o + l * 2, by simp [Addr.add], fun i hi => ?_⟩
  rw [getD_cut ks l m i hi]
  have := hc2 (l + i) (by omega)
  rw [show o + l * 2 + i * 2 = o + (l + i) * 2 by omega]
  exact this
end Go.Proofs.Ytgghbgmeebihbaa
/- what one list has without another one: plain -/
namespace Go.Proofs.Ytgghbgmeebihbaa
open Go.RowKit
set_option linter.unusedVariables false
set_option maxRecDepth 20000
theorem filter_snoc (p : Tx → Bool) (xs : List Tx) (x : Tx) : (xs ++ [x]).filter p = xs.filter p ++ (if p x then [x] else []) := by
  rw [List.filter_append]; by_cases h : p x <;> simp [h]
def lessOf (xs ys : List Tx) : List Tx := xs.filter fun t => !decide (t ∈ ys)
theorem lessOf_yes (ys xs : List Tx) (x : Tx) (h : x ∈ ys) : lessOf (xs ++ [x]) ys = lessOf xs ys := by
  unfold lessOf; rw [filter_snoc, if_neg (by simp [h])]; simp
theorem lessOf_no (ys xs : List Tx) (x : Tx) (h : ¬ x ∈ ys) : lessOf (xs ++ [x]) ys = lessOf xs ys ++ [x] := by
  unfold lessOf; rw [filter_snoc, if_pos (by simp [h])]
theorem lessOf_len (xs ys : List Tx) : (lessOf xs ys).length ≤ xs.length := List.length_filter_le _ _
end Go.Proofs.Ytgghbgmeebihbaa
/- items in order: what the laws of ranking ask of them: plain -/
namespace Go.Proofs.Ytgghbgmeebihbaa
set_option linter.unusedVariables false
set_option maxRecDepth 20000
theorem sortK_cons {x : KV} {l : List KV} (h : ∀ z ∈ l, leK x z) : sortK (x :: l) = x :: sortK l :=
  (sortK_of (List.pairwise_cons.2 ⟨fun z hz => h z (sortK_mem.1 hz), sortK_sorted l⟩) ((sortK_perm l).cons x)).symm
theorem sortK_filter (p : KV → Bool) (l : List KV) : sortK (l.filter p) = (sortK l).filter p :=
  (sortK_of (List.Pairwise.filter p (sortK_sorted l)) ((sortK_perm l).filter p)).symm
theorem nearL_cons (t : Tx) (ws : List Tx) (s : Tx) (k : Int) : nearL (t :: ws) s k = (if 0 ≤ distS t s ∧ distS t s ≤ k then [(distS t s, t)] else []) ++ nearL ws s k := by
  unfold nearL; rw [List.filterMap_cons]
  by_cases h : 0 ≤ distS t s ∧ distS t s ≤ k
  · simp [h]
  · simp only [if_neg h, List.nil_append]
theorem nearL_within (ws : List Tx) (s : Tx) (k m : Int) (h : k ≤ m) : (nearL ws s m).filter (fun x => decide (x.1 ≤ k)) = nearL ws s k := by
  induction ws with
  | nil => rfl
  | cons t ws ih =>
    rw [nearL_cons, nearL_cons, List.filter_append, ih]
    congr 1
    by_cases h1 : 0 ≤ distS t s ∧ distS t s ≤ k
    · rw [if_pos h1, if_pos ⟨h1.1, by omega⟩]; simp [h1.2]
    · rw [if_neg h1]
      split
      · simp; omega
      · rfl
theorem allK_prefix (ws : List Tx) (s : Tx) (k m : Int) (h : k ≤ m) : allK ws s k <+: allK ws s m := by
  refine ⟨sortK ((nearL ws s m).filter fun x => !decide (x.1 ≤ k)), ?_⟩
  unfold allK
  refine sortK_of ?_ ?_
  · refine List.pairwise_append.2 ⟨sortK_sorted _, sortK_sorted _, fun x hx y hy => ?_⟩
    have h1 := (nearL_mem.1 (sortK_mem.1 hx)).2
    have h2 := (List.mem_filter.1 (sortK_mem.1 hy)).2
    have h3 : k < y.1 := by simpa using h2
    exact leK_of_lt (ordK_lt.2 (Or.inl (by have := h1.1; have := h1.2.2; omega)))
  · refine ((sortK_perm _).append (sortK_perm _)).trans ?_
    rw [← nearL_within ws s k m h]
    exact List.filter_append_perm _ _
theorem prefix_at {α : Type} {xs ys : List α} (h : xs <+: ys) : xs.length ≤ ys.length ∧ ys.take xs.length = xs := ⟨h.length_le, (List.prefix_iff_eq_take.1 h).symm⟩
/-- what RankMore asks -/
theorem top_more_n (ws : List Tx) (s : Tx) (k m j : Int) (h : mayP s k m) (h0 : 0 ≤ j) (h1 : mayP s k (m + j)) : topK ws s k m <+: topK ws s k (m + j) := by
  unfold topK; rw [if_pos h, if_pos h1]
  exact List.take_prefix_take_left (by omega)
theorem top_more_k (ws : List Tx) (s : Tx) (k m : Int) (h : mayP s k m) (h1 : mayP s (k + 1) m) : topK ws s k m <+: topK ws s (k + 1) m := by
  unfold topK; rw [if_pos h, if_pos h1]
  obtain ⟨r, hr⟩ := allK_prefix ws s k (k + 1) (by omega)
  rw [← hr, List.take_append]
  exact List.prefix_append _ _
/-- what RankFar asks -/
theorem near_some (ws : List Tx) (s : Tx) (k : Int) : nearL (ws.filter fun t => decide (distS t s ≤ k)) s k = nearL ws s k := by
  induction ws with
  | nil => rfl
  | cons t ws ih =>
    rw [nearL_cons, List.filter_cons]
    by_cases h : distS t s ≤ k
    · rw [if_pos (by simpa using h), nearL_cons, ih]
    · rw [if_neg (by simpa using h), ih, if_neg (by omega)]; rfl
theorem top_some (ws : List Tx) (s : Tx) (k m : Int) : topK (ws.filter fun t => decide (distS t s ≤ k)) s k m = topK ws s k m := by
  unfold topK allK; rw [near_some]
theorem near_filter (p : Tx → Bool) (ws : List Tx) (s : Tx) (k : Int) : nearL (ws.filter p) s k = (nearL ws s k).filter fun x => p x.2 := by
  induction ws with
  | nil => rfl
  | cons t ws ih =>
    rw [nearL_cons, List.filter_append, List.filter_cons]
    by_cases h : p t = true
    · rw [if_pos h, nearL_cons, ih]
      congr 1
      split <;> simp [h]
    · rw [if_neg h, ih]
      have : (if 0 ≤ distS t s ∧ distS t s ≤ k then [(distS t s, t)] else []).filter (fun x => p x.2) = [] := by split <;> simp [h]
      rw [this]; rfl
theorem sorted_ne {xs : List Tx} (h : SortedS xs) : xs.Pairwise (· ≠ ·) := h.imp fun {a b} hab => by
  intro e; subst e; exact cmpS_irrefl a hab
theorem near_ne {ws : List Tx} (h : SortedS ws) (s : Tx) (k : Int) : (nearL ws s k).Pairwise fun a b => a.2 ≠ b.2 := by
  have h0 := sorted_ne h
  induction ws with
  | nil => exact List.Pairwise.nil
  | cons t ws ih =>
    obtain ⟨h1, h2⟩ := List.pairwise_cons.1 h0
    rw [nearL_cons]
    split
    · refine List.pairwise_cons.2 ⟨fun x hx e => h1 x.2 (nearL_mem.1 hx).1 e, ih (List.pairwise_cons.1 h).2 h2⟩
    · exact ih (List.pairwise_cons.1 h).2 h2
theorem all_ne {ws : List Tx} (h : SortedS ws) (s : Tx) (k : Int) : (allK ws s k).Pairwise fun a b => a.2 ≠ b.2 :=
  (sortK_perm _).symm.pairwise (near_ne h s k) fun h => Ne.symm h
theorem filter_one {L : List KV} (h : L.Pairwise fun a b => a.2 ≠ b.2) (i : Nat) (hi : i < L.length) : L.filter (fun x => !decide (x.2 ∈ [(L.getD i k0).2])) = L.take i ++ L.drop (i + 1) := by
  have e : L.getD i k0 = L[i] := by simp [List.getD_eq_getElem?_getD, hi]
  rw [e]
  obtain ⟨x, hx⟩ : ∃ x, L[i] = x := ⟨_, rfl⟩
  have e2 : L = L.take i ++ (x :: L.drop (i + 1)) := by rw [← hx, ← List.drop_eq_getElem_cons hi, List.take_append_drop]
  rw [hx]
  have hp := h
  rw [e2] at hp
  obtain ⟨p1, p2, p3⟩ := List.pairwise_append.1 hp
  obtain ⟨p4, p5⟩ := List.pairwise_cons.1 p2
  conv => lhs; rw [e2]
  rw [List.filter_append, List.filter_cons, if_neg (by simp)]
  rw [List.filter_eq_self.2 fun x hx => by simpa using p3 x hx _ (by simp), List.filter_eq_self.2 fun x hx => by simpa using (p4 x hx).symm]
theorem top_without {ws : List Tx} (h : SortedS ws) (s : Tx) (k m : Int) (hm : mayP s k m) (i : Nat) (hi : i < (topK ws s k m).length) :
    (topK ws s k m).take i ++ (topK ws s k m).drop (i + 1) <+: topK (lessOf ws [((topK ws s k m).getD i k0).2]) s k m := by
  unfold topK at hi ⊢
  simp only [if_pos hm] at hi ⊢
  obtain ⟨N, hN⟩ : ∃ N, m.toNat = N := ⟨_, rfl⟩
  rw [hN] at hi ⊢
  have hl : i < (allK ws s k).length := by rw [List.length_take] at hi; omega
  have hi' : i < N := by rw [List.length_take] at hi; omega
  have e1 : ((allK ws s k).take N).getD i k0 = (allK ws s k).getD i k0 := by simp [List.getD_eq_getElem?_getD, hi']
  rw [e1]
  have e2 : allK (lessOf ws [((allK ws s k).getD i k0).2]) s k = (allK ws s k).take i ++ (allK ws s k).drop (i + 1) := by
    rw [← filter_one (all_ne h s k) i hl]
    unfold allK lessOf
    rw [near_filter, sortK_filter]
  rw [e2]
  generalize allK ws s k = L at *
  rw [List.take_take, Nat.min_eq_left (by omega), List.drop_take, List.take_append, List.length_take, Nat.min_eq_left (by omega), List.take_take, Nat.min_eq_right (by omega)]
  exact List.prefix_append_right_inj _ |>.2 (List.take_prefix_take_left (by omega))
/-- what RankParts asks -/
theorem near_perm {a b : List Tx} (h : a.Perm b) (s : Tx) (k : Int) : (nearL a s k).Perm (nearL b s k) := h.filterMap _
theorem merge_perm {a b : List Tx} (ha : SortedS a) (hb : SortedS b) : (mergeL a b).Perm (a ++ lessOf b a) := by
  have n1 : (mergeL a b).Nodup := sorted_ne (mergeL_sorted _ a b (Nat.le_refl _) ha hb)
  have n2 : (a ++ lessOf b a).Nodup := by
    refine List.pairwise_append.2 ⟨sorted_ne ha, sorted_ne (sorted_filter _ hb), fun x hx y hy e => ?_⟩
    subst e
    have := (List.mem_filter.1 hy).2
    simp [hx] at this
  refine (List.perm_ext_iff_of_nodup n1 n2).2 fun z => ?_
  rw [mem_mergeL, List.mem_append]
  unfold lessOf
  rw [List.mem_filter]
  by_cases h : z ∈ a <;> simp [h]
theorem all_parts {a b : List Tx} (ha : SortedS a) (hb : SortedS b) (s : Tx) (k : Int) : sortK (allK a s k ++ allK (lessOf b a) s k) = allK (mergeL a b) s k := by
  refine sortK_congr (((sortK_perm _).append (sortK_perm _)).trans ?_)
  rw [← nearL_app]
  exact (near_perm (merge_perm ha hb) s k).symm
theorem sortK_take : ∀ (N : Nat) (A C : List KV) (M1 M2 : Nat), SortedK A → SortedK C → N ≤ M1 → N ≤ M2 → (sortK (A.take M1 ++ C.take M2)).take N = (sortK (A ++ C)).take N := by
  intro N
  induction N with
  | zero => intros; simp
  | succ N ih =>
    intro A C M1 M2 hA hC h1 h2
    obtain ⟨M1, rfl⟩ : ∃ q, M1 = q + 1 := ⟨M1 - 1, by omega⟩
    obtain ⟨M2, rfl⟩ : ∃ q, M2 = q + 1 := ⟨M2 - 1, by omega⟩
    have first : ∀ (x : KV) (A C : List KV) (M1 M2 : Nat), SortedK (x :: A) → SortedK C → (∀ z ∈ C, leK x z) → N ≤ M1 → N + 1 ≤ M2 → (sortK ((x :: A).take (M1 + 1) ++ C.take M2)).take (N + 1) = (sortK ((x :: A) ++ C)).take (N + 1) := by
      intro x A C M1 M2 hA hC hz h1 h2
      obtain ⟨a1, a2⟩ := List.pairwise_cons.1 hA
      rw [List.take_succ_cons, List.cons_append, List.cons_append, sortK_cons, sortK_cons, List.take_succ_cons, List.take_succ_cons, ih A C M1 M2 a2 hC h1 (by omega)]
      · intro z hz'
        rcases List.mem_append.1 hz' with e | e
        · exact a1 z e
        · exact hz z e
      · intro z hz'
        rcases List.mem_append.1 hz' with e | e
        · exact a1 z (List.mem_of_mem_take e)
        · exact hz z (List.mem_of_mem_take e)
    match A, C, hA, hC with
    | [], [], _, _ => simp
    | x :: A, [], hA, hC => exact first x A [] M1 (M2 + 1) hA hC (by simp) (by omega) (by omega)
    | [], y :: C, hA, hC =>
      have := first y C [] M2 (M1 + 1) hC List.Pairwise.nil (by simp) (by omega) (by omega)
      simpa using this
    | x :: A, y :: C, hA, hC =>
      rcases leK_total x y with e | e
      · refine first x A (y :: C) M1 (M2 + 1) hA hC (fun z hz => ?_) (by omega) (by omega)
        rcases List.mem_cons.1 hz with rfl | hz
        · exact e
        · exact leK_trans e ((List.pairwise_cons.1 hC).1 z hz)
      · have := first y C (x :: A) M2 (M1 + 1) hC hA (fun z hz => by
          rcases List.mem_cons.1 hz with rfl | hz
          · exact e
          · exact leK_trans e ((List.pairwise_cons.1 hA).1 z hz)) (by omega) (by omega)
        rw [sortK_congr (List.perm_append_comm (l₁ := (x :: A).take (M1 + 1)) (l₂ := (y :: C).take (M2 + 1))), sortK_congr (List.perm_append_comm (l₁ := x :: A) (l₂ := y :: C))]
        exact this
theorem top_parts {a b : List Tx} (ha : SortedS a) (hb : SortedS b) (s : Tx) (k m : Int) (hm : mayP s k m) : topK (mergeL a b) s k m <+: sortK (topK a s k m ++ topK (lessOf b a) s k m) := by
  unfold topK
  simp only [if_pos hm]
  rw [← all_parts ha hb, ← sortK_take m.toNat (allK a s k) (allK (lessOf b a) s k) m.toNat m.toNat (sortK_sorted _) (sortK_sorted _) (Nat.le_refl _) (Nat.le_refl _)]
  exact List.take_prefix _ _
end Go.Proofs.Ytgghbgmeebihbaa
/- merge: shards that can have nothing (plain); two rows of numbers that grow -/
namespace Go.Proofs.Ytgghbgmeebihbaa
open Go.RowKit
set_option linter.unusedVariables false
set_option maxRecDepth 20000
theorem tell_len (most : Int) : ∀ (f : Nat) (T : List KV) (P : List SM) (out : List KV), (tellF most f T P out).2.1.length = P.length
  | 0, T, P, out => rfl
  | f + 1, T, P, out => by
    unfold tellF
    split
    · rfl
    · split
      · rfl
      · split
        · rfl
        · rw [tell_len most f]; simp
theorem tell_done (most : Int) : ∀ (f : Nat) (T : List KV) (P : List SM) (out : List KV), most ≤ (T.length : Int) + f → (∀ x ∈ P, x.ended = true) → doneB most (tellF most f T P out).1 (tellF most f T P out).2.1 = true
  | 0, T, P, out, h, _ => by
    show doneB most T P = true
    unfold doneB
    rw [decide_eq_true (show most ≤ (T.length : Int) by omega)]; rfl
  | f + 1, T, P, out, h, he => by
    unfold tellF
    by_cases hd : doneB most T P = true
    · rw [if_pos hd]; exact hd
    rw [if_neg hd]
    have hne : headsN P P.length ≠ [] := fun h0 => by
      apply hd
      unfold doneB
      have : (P.any fun y => !y.ended || decide (0 < y.wn)) = false := by
        rw [List.any_eq_false]
        intro y hy
        have h1 := he y hy
        obtain ⟨i, hi, rfl⟩ := List.getElem_of_mem hy
        have h2 : ∀ n, n ≤ P.length → headsN P n = [] → ∀ j, j < n → (P.getD j sm0).wn = 0 := by
          intro n
          induction n with
          | zero => intro _ _ j hj; omega
          | succ n ih =>
            intro hn hh j hj
            unfold headsN at hh
            obtain ⟨ha, hb⟩ := List.append_eq_nil_iff.1 hh
            by_cases e : j = n
            · subst e
              unfold headOf at hb
              split at hb
              · simp at hb
              · omega
            · exact ih (by omega) ha j (by omega)
        have h3 := h2 P.length (Nat.le_refl _) h0 i hi
        rw [List.getD_eq_getElem?_getD, List.getElem?_eq_getElem hi, Option.getD_some] at h3
        rw [h1, h3]; simp
      rw [this]; simp
    rw [if_neg hne]
    have hp : P.any (prM (firstL (headsN P P.length)).2) = false := by
      rw [List.any_eq_false]
      intro y hy
      unfold prM
      rw [he y hy]; simp
    rw [hp, if_neg (by simp)]
    refine tell_done most f _ _ _ (by simp; omega) (fun x hx => ?_)
    rcases List.mem_or_eq_of_mem_set hx with hx | rfl
    · exact he x hx
    · have hm := heads_mem (first_mem hne)
      have h := he _ (mem_sm hm.1)
      exact h
/-! the bits -/
def bitB (bits : Int) (j : Nat) : Bool := (Go.bits BinOp.and IntKind.i64 (bits / 2 ^ j) 1 == 1)
def leastL (bits : Int) (m : Nat) : List Int := (List.range m).map fun j => if bitB bits j then 0 else -1 - (j : Int)
def wantI (bits : Int) (m : Nat) : List Nat := (List.range m).filter (bitB bits)
theorem leastL_snoc (bits : Int) (m : Nat) : leastL bits (m + 1) = leastL bits m ++ [if bitB bits m then 0 else -1 - (m : Int)] := by
  unfold leastL
  rw [List.range_succ, List.map_append]; rfl
theorem wantI_snoc (bits : Int) (m : Nat) : wantI bits (m + 1) = wantI bits m ++ (if bitB bits m then [m] else []) := by
  unfold wantI
  rw [List.range_succ, List.filter_append, List.filter_cons, List.filter_nil]
theorem leastL_len (bits : Int) (m : Nat) : (leastL bits m).length = m := by simp [leastL]
def skP (bits : Int) (m : Nat) : List SM := (leastL bits m).map mkS
theorem skP_len (bits : Int) (m : Nat) : (skP bits m).length = m := by simp [skP, leastL_len]
theorem skP_get (bits : Int) (m j : Nat) (h : j < m) : (skP bits m).getD j sm0 = mkS (if bitB bits j then 0 else -1 - (j : Int)) := by
  unfold skP leastL
  rw [List.getD_eq_getElem?_getD, List.getElem?_map, List.getElem?_map, List.getElem?_range h]
  rfl
theorem mk_ended (bits : Int) (j : Nat) : (mkS (if bitB bits j then 0 else -1 - (j : Int))).ended = !bitB bits j := by
  cases h : bitB bits j
  · show decide (-1 - (j : Int) < 0) = true
    exact decide_eq_true (by omega)
  · rfl
theorem sk_any (bits : Int) (m : Nat) : ((skP bits m).any fun y => !y.ended || decide (0 < y.wn)) = !decide ((wantI bits m).length = 0) := by
  induction m with
  | zero => rfl
  | succ m ih =>
    have e : skP bits (m + 1) = skP bits m ++ [mkS (if bitB bits m then 0 else -1 - (m : Int))] := by unfold skP; rw [leastL_snoc, List.map_append]; rfl
    rw [e, List.any_append, ih, wantI_snoc]
    have h1 : ([mkS (if bitB bits m then 0 else -1 - (m : Int))].any fun y => !y.ended || decide (0 < y.wn)) = bitB bits m := by
      show ((!(mkS (if bitB bits m then 0 else -1 - (m : Int))).ended || false) || false) = bitB bits m
      rw [mk_ended]; simp
    rw [h1]
    cases bitB bits m <;> simp
theorem done_skip (bits most : Int) (m : Nat) (hm : 1 ≤ most) : doneB most [] (skP bits m) = decide ((wantI bits m).length = 0) := by
  unfold doneB
  rw [sk_any, decide_eq_false (show ¬ most ≤ (([] : List KV).length : Int) by simp; omega)]
  simp
theorem wants_skip (bits most : Int) (m : Nat) (hm : 1 ≤ most) : wantsL most [] (skP bits m) = wantI bits m := by
  unfold wantsL
  rw [done_skip bits most m hm]
  by_cases h : (wantI bits m).length = 0
  · rw [if_pos (decide_eq_true h)]
    exact (List.eq_nil_of_length_eq_zero h).symm
  · rw [if_neg (by simpa using h), skP_len]
    unfold wantN wantI
    apply List.filter_congr
    intro j hj
    rw [skP_get bits m j (by simpa using hj)]
    unfold prW
    rw [mk_ended]
    show (!!bitB bits j && true) = bitB bits j
    simp
/-- after so many puts: the shards, and what is put next -/
def skF (bits : Int) (m : Nat) (A : List KV) : Nat → List SM × List KV
  | 0 => (skP bits m, A)
  | i + 1 => if bitB bits i then ((skF bits m A i).1.set i (putSM ((skF bits m A i).1.getD i sm0) (skF bits m A i).2 true), []) else skF bits m A i
theorem skF_len (bits : Int) (m : Nat) (A : List KV) : ∀ i, (skF bits m A i).1.length = m
  | 0 => skP_len bits m
  | i + 1 => by
    unfold skF
    split
    · rw [List.length_set]; exact skF_len bits m A i
    · exact skF_len bits m A i
theorem skF_get (bits : Int) (m : Nat) (A : List KV) : ∀ i j, i ≤ j → (skF bits m A i).1.getD j sm0 = (skP bits m).getD j sm0
  | 0, j, _ => rfl
  | i + 1, j, h => by
    unfold skF
    split
    · rw [List.getD_eq_getElem?_getD, List.getElem?_set_ne (by omega), ← List.getD_eq_getElem?_getD]
      exact skF_get bits m A i j (by omega)
    · exact skF_get bits m A i j (by omega)
theorem skF_cur (bits : Int) (m : Nat) (A : List KV) : ∀ i, (skF bits m A i).2 = A ∨ (skF bits m A i).2 = []
  | 0 => Or.inl rfl
  | i + 1 => by
    unfold skF
    split
    · exact Or.inr rfl
    · exact skF_cur bits m A i
theorem skF_seq (bits : Int) (m : Nat) (A : List KV) : ∀ i, i ≤ m → ∀ x ∈ (skF bits m A i).1, 0 ≤ x.seq ∧ x.seq ≤ 1
  | 0, _, x, hx => by
    obtain ⟨d, _, rfl⟩ := List.mem_map.1 (show x ∈ (leastL bits m).map mkS from hx)
    exact ⟨Int.le_refl _, by show (0 : Int) ≤ 1; decide⟩
  | i + 1, hi, x, hx => by
    unfold skF at hx
    split at hx
    · rcases List.mem_or_eq_of_mem_set hx with hx | rfl
      · exact skF_seq bits m A i (by omega) x hx
      · rw [skF_get bits m A i i (Nat.le_refl _), skP_get bits m i (by omega)]
        exact ⟨by show (0 : Int) ≤ 0 + 1; omega, by show (0 : Int) + 1 ≤ 1; omega⟩
    · exact skF_seq bits m A i (by omega) x hx
theorem skF_ended (bits : Int) (m : Nat) (A : List KV) : ∀ i, i ≤ m → ∀ j, j < i → ((skF bits m A i).1.getD j sm0).ended = true
  | 0, _, j, hj => by omega
  | i + 1, hi, j, hj => by
    unfold skF
    split
    · by_cases e : j = i
      · subst e
        rw [List.getD_eq_getElem?_getD, List.getElem?_set_self (by rw [skF_len]; omega)]
        rfl
      · rw [List.getD_eq_getElem?_getD, List.getElem?_set_ne (by omega), ← List.getD_eq_getElem?_getD]
        exact skF_ended bits m A i (by omega) j (by omega)
    · rename_i hb
      by_cases e : j = i
      · subst e
        rw [skF_get bits m A j j (Nat.le_refl _), skP_get bits m j (by omega), mk_ended]
        simpa using hb
      · exact skF_ended bits m A i (by omega) j (by omega)
theorem skF_all (bits : Int) (m : Nat) (A : List KV) : ∀ x ∈ (skF bits m A m).1, x.ended = true := by
  intro x hx
  obtain ⟨i, hi, rfl⟩ := List.getElem_of_mem hx
  have := skF_ended bits m A m (Nat.le_refl _) i (by rw [skF_len] at hi; exact hi)
  rw [List.getD_eq_getElem?_getD, List.getElem?_eq_getElem hi, Option.getD_some] at this
  exact this
theorem put_skip (bits most : Int) (m : Nat) {A : List KV} (hm : 1 ≤ most) (hf : fitsB (mkS 0) A = true) (i : Nat) (hi : i < m) : putB most [] (skF bits m A i).1 (i : Int) 0 (skF bits m A i).2 true = bitB bits i := by
  unfold putB
  rw [skF_len, decide_eq_true (show 0 ≤ (i : Int) ∧ (i : Int) < (m : Int) by omega), Bool.true_and, Int.toNat_natCast, skF_get bits m A i i (Nat.le_refl _), skP_get bits m i hi]
  have hw : prW (mkS (if bitB bits i then 0 else -1 - (i : Int))) = bitB bits i := by
    unfold prW
    rw [mk_ended]
    show (!!bitB bits i && true) = bitB bits i
    simp
  rw [hw]
  cases hb : bitB bits i
  · simp
  · have hd : doneB most [] (skF bits m A i).1 = false := by
      unfold doneB
      rw [decide_eq_false (show ¬ most ≤ (([] : List KV).length : Int) by simp; omega)]
      have : ((skF bits m A i).1.any fun y => !y.ended || decide (0 < y.wn)) = true := by
        rw [List.any_eq_true]
        refine ⟨(skF bits m A i).1.getD i sm0, mem_sm (by rw [skF_len]; exact hi), ?_⟩
        rw [skF_get bits m A i i (Nat.le_refl _), skP_get bits m i hi, mk_ended, hb]
        rfl
      rw [this]; rfl
    rw [hd, if_pos rfl]
    have hf2 : fitsB (mkS 0) (skF bits m A i).2 = true := by
      rcases skF_cur bits m A i with h | h
      · rw [h]; exact hf
      · rw [h]; rfl
    rw [hf2]
    have hq : decide ((0 : Int) = (mkS 0).seq) = true := by decide
    rw [hq]
    simp
theorem all_ris {ws : List Tx} (h : SortedS ws) (s : Tx) (k : Int) : upN (allK ws s k) (allK ws s k).length = true := by
  have hne := all_ne h s k
  have hso := sortK_sorted (nearL ws s k)
  have : ∀ n, n ≤ (allK ws s k).length → upN (allK ws s k) n = true := by
    intro n
    induction n with
    | zero => intro _; rfl
    | succ n ih =>
      intro hn
      unfold upN
      rw [ih (by omega), Bool.true_and]
      have hmem : (allK ws s k).getD n k0 ∈ allK ws s k := by rw [List.getD_eq_getElem?_getD, List.getElem?_eq_getElem (by omega)]; simp
      have hd := (allK_mem.1 hmem)
      rw [decide_eq_false (show ¬ ((allK ws s k).getD n k0).1 < 0 by rw [hd.2.1]; have := hd.2.2.1; omega)]
      by_cases h0 : n = 0
      · rw [decide_eq_true h0]; rfl
      · have h1 : leK ((allK ws s k).getD (n - 1) k0) ((allK ws s k).getD n k0) := by
          have := List.pairwise_iff_getElem.1 hso (n - 1) n (by show n - 1 < (allK ws s k).length; omega) (by show n < (allK ws s k).length; omega) (by omega)
          rw [List.getD_eq_getElem?_getD, List.getD_eq_getElem?_getD, List.getElem?_eq_getElem (show n - 1 < (allK ws s k).length by omega), List.getElem?_eq_getElem (show n < (allK ws s k).length by omega)]
          exact this
        have h2 := List.pairwise_iff_getElem.1 hne (n - 1) n (by omega) (by omega) (by omega)
        have h3 : lessK ((allK ws s k).getD (n - 1) k0) ((allK ws s k).getD n k0) = true := by
          rcases leK_iff.1 h1 with e | e
          · exfalso
            apply h2
            rw [List.getD_eq_getElem?_getD, List.getD_eq_getElem?_getD, List.getElem?_eq_getElem (show n - 1 < (allK ws s k).length by omega), List.getElem?_eq_getElem (show n < (allK ws s k).length by omega)] at e
            simp only [Option.getD_some] at e
            rw [e]
          · exact decide_eq_true e
        rw [h3]; simp
  exact this _ (Nat.le_refl _)
/-- two rows of numbers that the call made since w0 -/
structure TwoR (w0 w : World) (la : Option Addr) (ln lc : Nat) (xs : List Value) (za : Option Addr) (zn zc : Nat) (ys : List Value) : Prop where
  o1 : w.ownsRow w0.heap.size 3 1 (.slice la ln lc) ln xs
  o2 : w.ownsRow w0.heap.size 3 1 (.slice za zn zc) zn ys
  ap : ∀ g, la = some ⟨g, 0, none⟩ → za ≠ some ⟨g, 0, none⟩
  bel : Below w0.heap.size w0 w
theorem TwoR.swap {w0 w : World} {la : Option Addr} {ln lc : Nat} {xs : List Value} {za : Option Addr} {zn zc : Nat} {ys : List Value} (h : TwoR w0 w la ln lc xs za zn zc ys) : TwoR w0 w za zn zc ys la ln lc xs :=
  ⟨h.o2, h.o1, fun g e1 e2 => h.ap g e2 e1, h.bel⟩
theorem TwoR.grow {w0 w w6 : World} {la : Option Addr} {ln lc g cap : Nat} {xs xs' : List Value} {za : Option Addr} {zn zc : Nat} {ys : List Value} {o : Obj} (h : TwoR w0 w la ln lc xs za zn zc ys)
    (own : w6.ownsRow w0.heap.size 3 1 (.slice (some ⟨g, 0, none⟩) (ln + 1) cap) (ln + 1) xs') (hg : (w.alloc o).grownBy w6 (Value.slice la ln lc).ownBlock) (hat : (Value.slice la ln lc).ownBlock = some g ∨ g = (w.alloc o).heap.size) :
    TwoR w0 w6 (some ⟨g, 0, none⟩) (ln + 1) cap xs' za zn zc ys := by
  have hza : (w.alloc o).heap.size = w.heap.size + 1 := by simp
  refine ⟨own, mowns_block0 h.o2 (fun q hq => ?_), fun q hq => ?_, ?_⟩
  · have hl := (h.o2.lt q (by rw [hq]; rfl)).2
    exact (hg.block q (by omega) (fun e => h.ap q (mownb h.o1 e) hq)).trans (Below.heap_alloc _ _ _ hl)
  · injection hq with hq; injection hq with hq; subst hq
    rcases hat with e | e
    · exact h.ap g (mownb h.o1 e.symm)
    · intro e2
      have hl := (h.o2.lt g (by rw [e2]; rfl)).2
      omega
  · exact h.bel.trans (((Below.refl w0.heap.size w).alloc h.bel.size _).grown hg (by have := h.bel.size; omega) (fun k hk => (h.o1.lt k hk).1))
end Go.Proofs.Ytgghbgmeebihbaa
/- two boxes of two cells, carried -/
namespace Go.Proofs.Ytgghbgmeebihbaa
open Go.RowKit
set_option linter.unusedVariables false
set_option maxRecDepth 20000
def Box4q (w0 : World) (p q : Nat) (v0 v1 v2 v3 : Value) (w : World) : Prop := Below w0.heap.size w0 w ∧ w.cell? ⟨p, 0, none⟩ = some v0 ∧ w.cell? ⟨p, 1, none⟩ = some v1 ∧ w.cell? ⟨q, 0, none⟩ = some v2 ∧ w.cell? ⟨q, 1, none⟩ = some v3
theorem box4q_carry {w0 w w' : World} {p q : Nat} {v0 v1 v2 v3 : Value} (h : Box4q w0 p q v0 v1 v2 v3 w) (hb : Below w.heap.size w w') : Box4q w0 p q v0 v1 v2 v3 w' :=
  ⟨h.1.trans (hb.mono h.1.size), by rw [hb.cell (p := ⟨p, 0, none⟩) (lt_of_cell h.2.1)]; exact h.2.1, by rw [hb.cell (p := ⟨p, 1, none⟩) (lt_of_cell h.2.1)]; exact h.2.2.1, by rw [hb.cell (p := ⟨q, 0, none⟩) (lt_of_cell h.2.2.2.1)]; exact h.2.2.2.1, by rw [hb.cell (p := ⟨q, 1, none⟩) (lt_of_cell h.2.2.2.1)]; exact h.2.2.2.2⟩
end Go.Proofs.Ytgghbgmeebihbaa
/- a list of texts as argument, opened -/
namespace Go.Proofs.Ytgghbgmeebihbaa
open Go.ChangeShapes Go.WideShapes Go.ChangeAt Go.RowKit
set_option linter.unusedVariables false
set_option maxRecDepth 20000
theorem Try.cellsStr : Try.prog.cellsOf 9 = 1 := by kernel_rfl
theorem open_texts_arg {H : Type} {enc : TypeId × Value → H} {W : World} {base : Nat} {v : Value} {d : DataW H} {p : List MemPlace}
    (o : Value.okWide Try.prog W .any base 44 v) (h : DataW.Trod enc Try.prog W 0 (fun _ => true) true 44 v d p) :
    ∃ a n cap ts, v = .slice a n cap ∧ HoldsT W a n ts ∧ (a = none → n = 0 ∧ cap = 0) ∧ n ≤ cap ∧ n ≤ 9223372036854775807 ∧ ∀ t ∈ ts, t.size ≤ 9223372036854775807 := by
  obtain ⟨a, len, cap, rfl⟩ := okWide_slice Try.underlying44 o
  obtain ⟨fuel, hf⟩ := h
  rcases open_strings Try.underlying44 Try.underlying9 Try.cellsStr hf with ⟨hcs, _⟩ | ⟨x, l, c, ss, hcs, _, hl, hm, hz, _, hcell, hsz⟩
  · simp [Value.cells] at hcs
    obtain ⟨rfl, rfl, rfl⟩ := hcs
    exact ⟨none, 0, 0, [], rfl, HoldsT.nil _ _, fun _ => ⟨rfl, rfl⟩, Nat.le_refl _, by omega, by simp⟩
  · simp [Value.cells] at hcs
    obtain ⟨rfl, rfl, rfl⟩ := hcs
    have hzc : ss.length = cap := by simpa using hz
    refine ⟨some x, len, cap, ss.take len, rfl, ?_, (fun h => by cases h), hl, by unfold maxLen at hm; omega, fun t ht => by have := hsz t (List.mem_of_mem_take ht); unfold maxLen at this; omega⟩
    refine ⟨by simp [strsV]; omega, fun h0 => ?_⟩
    obtain ⟨b, off, spot⟩ := x
    have hspot : spot = none := by simpa [Addr.add] using World.cell?_spot (hcell 0 (by omega))
    subst hspot
    refine ⟨b, off, rfl, fun i hi => ?_⟩
    rw [← Go.WideShapes.add_plain, hcell i (by omega), getD_map_str _ i (by simp; omega)]
    congr 2
    simp only [List.getD_eq_getElem?_getD, List.getElem?_take]
    rw [if_pos hi]
end Go.Proofs.Ytgghbgmeebihbaa
/- rank in one word; a query as an argument -/
namespace Go.Proofs.Ytgghbgmeebihbaa
open Go.RowKit
set_option linter.unusedVariables false
set_option maxRecDepth 20000
def RetJ (w : World) (n : Nat) (ys : List KV) (e : Ending) (w' : World) : Prop := ∃ a c, e = .returned (.slice a n c) ∧ w'.ownsRow w.heap.size 61 2 (.slice a n c) n (keysV ys) ∧ Below w.heap.size w w'
theorem RetI.j {w w' : World} {ys : List KV} {e : Ending} {n : Nat} (h : RetI w ys e w') (hn : ys.length = n) : RetJ w n ys e w' := by subst hn; exact h
theorem rankSort_lit (a : Option Addr) (n cap : Nat) (l ys : List KV) (w : World) (hh : HoldsK w a n l) (hnil : a = none → n = 0 ∧ cap = 0) (hn : n ≤ 50000) (hy : sortK l = ys) :
    Calls Try.prog 37 #[.slice a n cap] w (RetJ w n ys) := by
  subst hy; exact (rankSort_any a n cap l w hh hnil hn).mono fun _ _ h => h.j (by rw [sortK_length]; exact hh.len)
theorem all_lit (a : Option Addr) (n cap L : Nat) (ws : List Tx) (s : Tx) (k : Int) (ys : List KV) (w : World) (hh : HoldsT w a n ws) (hn : n ≤ 50000) (hl : ∀ t ∈ ws, t.size ≤ 1048576) (hs : s.size ≤ 1048576) (hy : allK ws s k = ys) (hL : ys.length = L) :
    Calls Try.prog 27 #[.slice a n cap, .string s, .int .i64 k] w (RetJ w L ys) := by subst hy; exact (rankAll_any a n cap ws s k w hh hn hl hs).mono fun _ _ h => h.j hL
def Box3q (w0 : World) (p : Nat) (v0 v1 v2 : Value) (w : World) : Prop := Below w0.heap.size w0 w ∧ w.cell? ⟨p, 0, none⟩ = some v0 ∧ w.cell? ⟨p, 1, none⟩ = some v1 ∧ w.cell? ⟨p, 2, none⟩ = some v2
theorem box3q_carry {w0 w w' : World} {p : Nat} {v0 v1 v2 : Value} (h : Box3q w0 p v0 v1 v2 w) (hb : Below w.heap.size w w') : Box3q w0 p v0 v1 v2 w' :=
  ⟨h.1.trans (hb.mono h.1.size), by rw [hb.cell (p := ⟨p, 0, none⟩) (lt_of_cell h.2.1)]; exact h.2.1, by rw [hb.cell (p := ⟨p, 1, none⟩) (lt_of_cell h.2.1)]; exact h.2.2.1, by rw [hb.cell (p := ⟨p, 2, none⟩) (lt_of_cell h.2.1)]; exact h.2.2.2⟩
theorem row_apart {w w' : World} {B B' : Nat} {e e' : TypeId} {s s' : Nat} {v u : Value} {n m : Nat} {xs ys : List Value} (h1 : w.ownsRow B e s v n xs) (h2 : w'.ownsRow B' e' s' u m ys) (hB : w.heap.size ≤ B') : u.ownBlock = none ∨ u.ownBlock ≠ v.ownBlock := by
  cases hu : u.ownBlock with
  | none => exact Or.inl rfl
  | some g =>
    refine Or.inr fun e => ?_
    have a := (h2.lt g hu).1
    have b := (h1.lt g e.symm).2
    omega
theorem tops_len (ws : List Tx) (s : Tx) (k m : Int) : (topK ws s k m).length ≤ ws.length := by
  unfold topK
  split
  · have := allK_len ws s k
    rw [List.length_take]; omega
  · simp
open Go.ChangeShapes Go.WideShapes Go.ChangeAt in
theorem query_arg {H : Type} {enc : TypeId × Value → H} {w : World} {base : Nat} {spare : Nat → Bool} {held : Bool} {r : Reach} {b0 : Nat} {v : Value} {d : DataW H} {p : List MemPlace}
    (hv : Value.okWide Try.prog w r b0 46 v) (h : DataW.Trod enc Try.prog w base spare held 46 v d p) :
    ∃ t k n, t.size ≤ 9223372036854775807 ∧ (Lit.int .i64 k).wf = true ∧ (Lit.int .i64 n).wf = true ∧ v = .agg #[.string t, .int .i64 k, .int .i64 n] := by
  obtain ⟨cs, rfl, hsz⟩ := okWide_struct Try.underlying46 hv
  obtain ⟨fuel, hf⟩ := h
  obtain ⟨hl, n, hf2⟩ := struct_cells Try.underlying46 hf
  rw [show Try.prog.cellsOf 46 = 3 by kernel_rfl] at hl
  obtain ⟨c0, c1, c2, hcs⟩ := list3 hl
  rw [hcs] at hf2
  obtain ⟨y0, z0⟩ := hf2 0 _ rfl
  obtain ⟨y1, z1⟩ := hf2 1 _ rfl
  obtain ⟨y2, z2⟩ := hf2 2 _ rfl
  obtain ⟨s, hs, _, b0⟩ := DataW.trod_string Try.underlying9 z0
  obtain ⟨k1, h1, _, b1⟩ := DataW.trod_int Try.underlying3 z1
  obtain ⟨k2, h2, _, b2⟩ := DataW.trod_int Try.underlying3 z2
  simp [cellsK_int, cellsK_str] at hs h1 h2
  subst hs h1 h2
  refine ⟨s, k1, k2, by unfold maxLen at b0; exact b0, b1, b2, ?_⟩
  congr 1
  apply Array.toList_inj.1
  simpa [Value.cells] using hcs
end Go.Proofs.Ytgghbgmeebihbaa
/- contract of text.Word -/
namespace Go.Proofs.Ytgghbgmeebihbaa
open Go.RowKit
set_option linter.unusedVariables false
set_option maxRecDepth 20000
theorem word_any (s : ByteArray) (w : World) (hs : s.size ≤ 9223372036854775807) :
    Calls Try.prog 52 #[.string s] w fun e w' => e = .returned (.bool (decide (1 ≤ lenS s ∧ lenS s ≤ 12))) ∧ Below w.heap.size w w' := by
  have h1 := Lib.hid (len_any s w hs)
  obtain ⟨n, hn⟩ : ∃ n, lenS s = n := ⟨_, rfl⟩
  rw [hn] at h1 ⊢
  clear hn
  have hc : n < 1 ∨ (1 ≤ n ∧ n ≤ 12) ∨ (1 ≤ n ∧ 12 < n) := by omega
  rcases hc with h | ⟨h, h2⟩ | ⟨h, h2⟩
  · rw [decide_eq_false (by omega)]
    go_enter Try.func52, Try.ntmps52
    go_wp2_with fail
    refine h1.out.mono ?_
    rintro e w' ⟨rfl, hb⟩
    go_wp2_with fail
    go_ret
    exact ⟨rfl, hb⟩
  · rw [decide_eq_true (by omega)]
    have x1 : decide (n ≤ 12) = true := by simpa using h2
    go_enter Try.func52, Try.ntmps52
    go_wp2_with fail
    refine h1.out.mono ?_
    rintro e w' ⟨rfl, hb⟩
    go_wp2_with fail
    go_ret
    exact ⟨ret_bool (by simp [*]), hb⟩
  · rw [decide_eq_false (by omega)]
    have x1 : decide (n ≤ 12) = false := by simpa using h2
    go_enter Try.func52, Try.ntmps52
    go_wp2_with fail
    refine h1.out.mono ?_
    rintro e w' ⟨rfl, hb⟩
    go_wp2_with fail
    go_ret
    exact ⟨ret_bool (by simp [*]), hb⟩
end Go.Proofs.Ytgghbgmeebihbaa
/- contract of list.Good -/
namespace Go.Proofs.Ytgghbgmeebihbaa
open Go.RowKit
set_option linter.unusedVariables false
set_option maxRecDepth 20000
theorem goodV_long {ts : List Tx} (h : 60 < ts.length) : goodV ts = 3 := by unfold goodV; rw [if_pos h]
theorem goodV_word {ts : List Tx} (h : ts.length ≤ 60) (t : Tx) (ht : t ∈ ts) (hw : ¬ wordP t) : goodV ts = 6 := by
  unfold goodV; rw [if_neg (by omega), if_pos ⟨t, ht, hw⟩]
theorem goodV_sort {ts : List Tx} (h : ts.length ≤ 60) (hw : ∀ t ∈ ts, wordP t) (hs : ¬ SortedS ts) : goodV ts = 7 := by
  unfold goodV; rw [if_neg (by omega), if_neg (fun ⟨t, ht, k⟩ => k (hw t ht)), if_neg hs]
theorem goodV_good {ts : List Tx} (h : ts.length ≤ 60) (hw : ∀ t ∈ ts, wordP t) (hs : SortedS ts) : goodV ts = 0 := by
  unfold goodV; rw [if_neg (by omega), if_neg (fun ⟨t, ht, k⟩ => k (hw t ht)), if_pos hs]
theorem word_bool {w : World} (s : Tx) (b : Bool) (hs : s.size ≤ 9223372036854775807) (hb : decide (wordP s) = b) :
    Calls Try.prog 52 #[.string s] w fun e w' => e = .returned (.bool b) ∧ Below w.heap.size w w' := by subst hb; exact word_any s w hs
set_option maxHeartbeats 1600000 in
theorem good_any' (a : Option Addr) (n cap : Nat) (ts : List Tx) (w : World) (hh : HoldsT w a n ts) (hn : n ≤ 9223372036854775807) (hsz : ∀ t ∈ ts, t.size ≤ 9223372036854775807) :
    Calls Try.prog 25 #[.slice a n cap] w fun e w' => e = .returned (.int .i64 (goodV ts)) ∧ Below w.heap.size w w' := by
  have hl := hh.len
  by_cases h60 : n ≤ 60
  case neg =>
    rw [goodV_long (by omega)]
    go_enter Try.func25, Try.ntmps25
    go_wp2_with fail
    go_ret
    exact ⟨rfl, Below.refl _ _⟩
  go_enter Try.func25, Try.ntmps25
  go_wp2_with fail
  go_loopw [11] (fun iv wr => ∃ j : Nat, j ≤ n ∧ iv = .int .i64 j ∧ Hid (∀ t ∈ ts.take j, wordP t) ∧ Hid (Below w.heap.size w wr)) (fun iv _ => n - (intOf iv).toNat)
  case atStart => exact ⟨0, by omega, rfl, Lib.hid (by simp), Lib.hid (Below.refl _ _)⟩
  case round =>
    obtain ⟨j, hj, rfl, hS, hB⟩ := hrel
    by_cases hlt : j < n
    · obtain ⟨b, o, rfl, hc⟩ := (hh.below hB.out).at (by omega)
      have e1 := hc j hlt
      have hmem := getD_memT ts j (by omega)
      have htk := take_succ_getD ts ByteArray.empty j (by omega)
      obtain ⟨x, hx⟩ : ∃ x, ts.getD j ByteArray.empty = x := ⟨_, rfl⟩
      rw [hx] at e1 hmem htk
      have HX := Lib.hid (hsz x hmem)
      have HM := Lib.hid hmem; have HT := Lib.hid htk
      clear hx hmem htk hc
      by_cases hw : wordP x
      · have hb := decide_eq_true hw
        have HW := Lib.hid hw; have HD := Lib.hid hb
        clear hw hb
        go_wp2_with fail
        refine (word_bool x true HX.out HD.out).mono ?_
        rintro e w2 ⟨rfl, hb2⟩
        go_wp2_with fail
        go_roundw
        case rel => exact ⟨j + 1, by omega, by go_num, Lib.hid (by rw [HT.out]; intro z hz; rcases List.mem_append.1 hz with hz | hz; exact hS.out z hz; simp at hz; rw [hz]; exact HW.out), Lib.hid (hB.out.trans (hb2.mono hB.out.size))⟩
        case measure => simp [intOf]; omega
      · have hb := decide_eq_false hw
        have hg := goodV_word (by omega) x HM.out hw
        have HD := Lib.hid hb; have HG := Lib.hid hg
        clear hw hb hg
        go_wp2_with fail
        refine (word_bool x false HX.out HD.out).mono ?_
        rintro e w2 ⟨rfl, hb2⟩
        go_wp2_with fail
        go_ret
        exact ⟨ret_int HG.out.symm, hB.out.trans (hb2.mono hB.out.size)⟩
    · have hjn : ts.take j = ts := List.take_of_length_le (by omega)
      have hwd := hS.out
      rw [hjn] at hwd
      have HW := Lib.hid hwd
      have hB1 := hB
      clear hjn hwd hS hB
      go_wp2_with fail
      go_loopw [5] (fun iv wr2 => ∃ i : Nat, 1 ≤ i ∧ i ≤ n + 1 ∧ iv = .int .i64 i ∧ Hid (∀ k, k + 1 < i → k + 1 < n → cmpS (ts.getD k ByteArray.empty) (ts.getD (k + 1) ByteArray.empty) < 0) ∧ Hid (Below w.heap.size w wr2)) (fun iv _ => n + 1 - (intOf iv).toNat)
      case atStart => exact ⟨1, by omega, by omega, rfl, Lib.hid (fun k h1 => by omega), hB1⟩
      case round =>
        obtain ⟨i, hi1, hi2, rfl, hS, hB⟩ := hrel
        by_cases hlt2 : i < n
        · obtain ⟨b, o, rfl, hc⟩ := (hh.below hB.out).at (by omega)
          have e1 := hc i hlt2
          have e2 := hc (i - 1) (by omega)
          have hci := hS.out
          obtain ⟨q, rfl⟩ : ∃ q, i = q + 1 := ⟨i - 1, by omega⟩
          simp only [Nat.add_sub_cancel] at e2
          obtain ⟨x, hx⟩ : ∃ x, ts.getD q ByteArray.empty = x := ⟨_, rfl⟩
          obtain ⟨y, hy⟩ : ∃ y, ts.getD (q + 1) ByteArray.empty = y := ⟨_, rfl⟩
          rw [hx] at e2; rw [hy] at e1
          have HX := Lib.hid hx; have HY := Lib.hid hy
          clear hx hy hc hci
          have hcmp := Lib.hid (fun w => compare_any x y w)
          have hbd := cmpS_bd x y
          obtain ⟨v, hv⟩ : ∃ v, cmpS x y = v := ⟨_, rfl⟩
          rw [hv] at hbd
          simp only [hv] at hcmp
          have HV := Lib.hid hv
          clear hv
          have hr : IntKind.i64.wrap (((q + 1 : Nat) : Int) - 1) = (q : Int) := by rw [IntWalk.i64_in _ (by omega)]; omega
          have hr2 : ((q + 1 : Nat) : Int) - 1 = (q : Int) := by omega
          have g1 : (q : Int) < (n : Int) := by omega
          have g2 : ((q + 1 : Nat) : Int) < (n : Int) := by omega
          by_cases hvn : v < 0
          · go_upto_region 12 with fail
            go_quiet ((go_at_call 53; exact Calls.quiet_of_same ((hcmp.out _).mono (fun _ _ h => ⟨h.1, h.2.symm⟩))))
            go_wp2_with fail
            go_roundw
            case rel =>
              refine ⟨q + 1 + 1, by omega, by omega, by go_num, Lib.hid (fun k h1 h2 => ?_), Lib.hid (hB.out.trans ((below_drewN _ _).mono hB.out.size))⟩
              by_cases hk : k = q
              · subst hk; rw [HX.out, HY.out, HV.out]; exact hvn
              · exact hS.out k (by omega) h2
            case measure => simp [intOf]; omega
          · have hg := goodV_sort (by omega) HW.out (fun hs => hvn (by have := (adj_iff ts).1 hs q (by omega); rw [HX.out, HY.out, HV.out] at this; exact this))
            have HG := Lib.hid hg
            clear hg
            go_upto_region 12 with fail
            go_quiet ((go_at_call 53; exact Calls.quiet_of_same ((hcmp.out _).mono (fun _ _ h => ⟨h.1, h.2.symm⟩))))
            go_wp2_with fail
            go_ret
            exact ⟨ret_int HG.out.symm, hB.out.trans ((below_drewN _ _).mono hB.out.size)⟩
        · have hg := goodV_good (by omega) HW.out ((adj_iff ts).2 fun k hk => hS.out k (by omega) (by omega))
          have HG := Lib.hid hg
          clear hg
          go_wp2_with fail
          go_ret
          exact ⟨ret_int HG.out.symm, hB.out⟩
end Go.Proofs.Ytgghbgmeebihbaa
