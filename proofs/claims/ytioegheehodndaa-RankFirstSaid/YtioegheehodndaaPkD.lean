/- texts joined -/
import Derived.Test.YtioegheehodndaaPkB
import Derived.Test.YtioegheehodndaaPkC
import Derived.Test.YtioegheehodndaaPkA
import Derived.Test.YtioegheehodndaaChecked
import Derived.WalkLawsBesides
import Derived.Outline
import Derived.Deep.QuietTactic
import Derived.BigQuiet
import Derived.Deep.DeepCutAuto
import Derived.Deep.RegionWith
import Derived.OpenShut
import Derived.Lib.SmallJoins
import Derived.Deep.RegionHeld3
/- rank in one word; a query as an argument -/
namespace Go.Proofs.Ytioegheehodndaa
open Go.RowKit
set_option linter.unusedVariables false
set_option maxRecDepth 20000
def RetJ (w : World) (n : Nat) (ys : List KV) (e : Ending) (w' : World) : Prop := ∃ a c, e = .returned (.slice a n c) ∧ w'.ownsRow w.heap.size 37 2 (.slice a n c) n (keysV ys) ∧ Below w.heap.size w w'
theorem RetI.j {w w' : World} {ys : List KV} {e : Ending} {n : Nat} (h : RetI w ys e w') (hn : ys.length = n) : RetJ w n ys e w' := by subst hn; exact h
theorem rankSort_lit (a : Option Addr) (n cap : Nat) (l ys : List KV) (w : World) (hh : HoldsK w a n l) (hnil : a = none → n = 0 ∧ cap = 0) (hn : n ≤ 50000) (hy : sortK l = ys) :
    Calls Try.prog 25 #[.slice a n cap] w (RetJ w n ys) := by
  subst hy; exact (rankSort_any a n cap l w hh hnil hn).mono fun _ _ h => h.j (by rw [sortK_length]; exact hh.len)
theorem top_lit (a : Option Addr) (n cap L : Nat) (ws : List Tx) (s : Tx) (k m : Int) (ys : List KV) (w : World) (hh : HoldsT w a n ws) (hn : n ≤ 50000) (hl : ∀ t ∈ ws, t.size ≤ 1048576) (hs : s.size ≤ 1048576) (hy : topK ws s k m = ys) (hL : ys.length = L) :
    Calls Try.prog 14 #[.slice a n cap, .agg #[.string s, .int .i64 k, .int .i64 m]] w (RetJ w L ys) := by subst hy; exact (rankTop_any a n cap ws s k m w hh hn hl hs).mono fun _ _ h => h.j hL
theorem all_lit (a : Option Addr) (n cap L : Nat) (ws : List Tx) (s : Tx) (k : Int) (ys : List KV) (w : World) (hh : HoldsT w a n ws) (hn : n ≤ 50000) (hl : ∀ t ∈ ws, t.size ≤ 1048576) (hs : s.size ≤ 1048576) (hy : allK ws s k = ys) (hL : ys.length = L) :
    Calls Try.prog 15 #[.slice a n cap, .string s, .int .i64 k] w (RetJ w L ys) := by subst hy; exact (rankAll_any a n cap ws s k w hh hn hl hs).mono fun _ _ h => h.j hL
def Box3q (w0 : World) (p : Nat) (v0 v1 v2 : Value) (w : World) : Prop := Below w0.heap.size w0 w ∧ w.cell? ⟨p, 0, none⟩ = some v0 ∧ w.cell? ⟨p, 1, none⟩ = some v1 ∧ w.cell? ⟨p, 2, none⟩ = some v2
theorem box3q_carry {w0 w w' : World} {p : Nat} {v0 v1 v2 : Value} (h : Box3q w0 p v0 v1 v2 w) (hb : Below w.heap.size w w') : Box3q w0 p v0 v1 v2 w' :=
  ⟨h.1.trans (hb.mono h.1.size), by rw [hb.cell (p := ⟨p, 0, none⟩) (lt_of_cell h.2.1)]; exact h.2.1, by rw [hb.cell (p := ⟨p, 1, none⟩) (lt_of_cell h.2.1)]; exact h.2.2.1, by rw [hb.cell (p := ⟨p, 2, none⟩) (lt_of_cell h.2.1)]; exact h.2.2.2⟩
theorem row_apart {w w' : World} {B B' : Nat} {e e' : TypeId} {s s' : Nat} {v u : Value} {n m : Nat} {xs ys : List Value} (h1 : w.ownsRow B e s v n xs) (h2 : w'.ownsRow B' e' s' u m ys) (hB : w.heap.size ≤ B') : u.ownBlock = none ∨ u.ownBlock ≠ v.ownBlock := by
  cases hu : u.ownBlock with
  | none => exact Or.inl rfl
  | some g =>
    refine Or.inr fun e => ?_
    have a := (h2.lt g hu).1
    have b := (h1.lt g e.symm).2
    omega
theorem tops_len (ws : List Tx) (s : Tx) (k m : Int) : (topK ws s k m).length ≤ ws.length := by
  unfold topK
  split
  · have := allK_len ws s k
    rw [List.length_take]; omega
  · simp
open Go.ChangeShapes Go.WideShapes Go.ChangeAt in
theorem query_arg {H : Type} {enc : TypeId × Value → H} {w : World} {base : Nat} {spare : Nat → Bool} {held : Bool} {r : Reach} {b0 : Nat} {v : Value} {d : DataW H} {p : List MemPlace}
    (hv : Value.okWide Try.prog w r b0 24 v) (h : DataW.Trod enc Try.prog w base spare held 24 v d p) :
    ∃ t k n, t.size ≤ 9223372036854775807 ∧ (Lit.int .i64 k).wf = true ∧ (Lit.int .i64 n).wf = true ∧ v = .agg #[.string t, .int .i64 k, .int .i64 n] := by
  obtain ⟨cs, rfl, hsz⟩ := okWide_struct Try.underlying24 hv
  obtain ⟨fuel, hf⟩ := h
  obtain ⟨hl, n, hf2⟩ := struct_cells Try.underlying24 hf
  rw [show Try.prog.cellsOf 24 = 3 by kernel_rfl] at hl
  obtain ⟨c0, c1, c2, hcs⟩ := list3 hl
  rw [hcs] at hf2
  obtain ⟨y0, z0⟩ := hf2 0 _ rfl
  obtain ⟨y1, z1⟩ := hf2 1 _ rfl
  obtain ⟨y2, z2⟩ := hf2 2 _ rfl
  obtain ⟨s, hs, _, b0⟩ := DataW.trod_string Try.underlying9 z0
  obtain ⟨k1, h1, _, b1⟩ := DataW.trod_int Try.underlying3 z1
  obtain ⟨k2, h2, _, b2⟩ := DataW.trod_int Try.underlying3 z2
  simp [cellsK_int, cellsK_str] at hs h1 h2
  subst hs h1 h2
  refine ⟨s, k1, k2, by unfold maxLen at b0; exact b0, b1, b2, ?_⟩
  congr 1
  apply Array.toList_inj.1
  simpa [Value.cells] using hcs
end Go.Proofs.Ytioegheehodndaa
/- what one list has without another one: plain -/
namespace Go.Proofs.Ytioegheehodndaa
open Go.RowKit
set_option linter.unusedVariables false
set_option maxRecDepth 20000
theorem filter_snoc (p : Tx → Bool) (xs : List Tx) (x : Tx) : (xs ++ [x]).filter p = xs.filter p ++ (if p x then [x] else []) := by
  rw [List.filter_append]; by_cases h : p x <;> simp [h]
def lessOf (xs ys : List Tx) : List Tx := xs.filter fun t => !decide (t ∈ ys)
theorem lessOf_yes (ys xs : List Tx) (x : Tx) (h : x ∈ ys) : lessOf (xs ++ [x]) ys = lessOf xs ys := by
  unfold lessOf; rw [filter_snoc, if_neg (by simp [h])]; simp
theorem lessOf_no (ys xs : List Tx) (x : Tx) (h : ¬ x ∈ ys) : lessOf (xs ++ [x]) ys = lessOf xs ys ++ [x] := by
  unfold lessOf; rw [filter_snoc, if_pos (by simp [h])]
theorem lessOf_len (xs ys : List Tx) : (lessOf xs ys).length ≤ xs.length := List.length_filter_le _ _
end Go.Proofs.Ytioegheehodndaa
/- items in order: what the laws of ranking ask of them: plain -/
namespace Go.Proofs.Ytioegheehodndaa
set_option linter.unusedVariables false
set_option maxRecDepth 20000
theorem sortK_cons {x : KV} {l : List KV} (h : ∀ z ∈ l, leK x z) : sortK (x :: l) = x :: sortK l :=
  (sortK_of (List.pairwise_cons.2 ⟨fun z hz => h z (sortK_mem.1 hz), sortK_sorted l⟩) ((sortK_perm l).cons x)).symm
theorem sortK_filter (p : KV → Bool) (l : List KV) : sortK (l.filter p) = (sortK l).filter p :=
  (sortK_of (List.Pairwise.filter p (sortK_sorted l)) ((sortK_perm l).filter p)).symm
theorem nearL_cons (t : Tx) (ws : List Tx) (s : Tx) (k : Int) : nearL (t :: ws) s k = (if 0 ≤ distS t s ∧ distS t s ≤ k then [(distS t s, t)] else []) ++ nearL ws s k := by
  unfold nearL; rw [List.filterMap_cons]
  by_cases h : 0 ≤ distS t s ∧ distS t s ≤ k
  · simp [h]
  · simp only [if_neg h, List.nil_append]
theorem nearL_within (ws : List Tx) (s : Tx) (k m : Int) (h : k ≤ m) : (nearL ws s m).filter (fun x => decide (x.1 ≤ k)) = nearL ws s k := by
  induction ws with
  | nil => rfl
  | cons t ws ih =>
    rw [nearL_cons, nearL_cons, List.filter_append, ih]
    congr 1
    by_cases h1 : 0 ≤ distS t s ∧ distS t s ≤ k
    · rw [if_pos h1, if_pos ⟨h1.1, by omega⟩]; simp [h1.2]
    · rw [if_neg h1]
      split
      · simp; omega
      · rfl
theorem allK_prefix (ws : List Tx) (s : Tx) (k m : Int) (h : k ≤ m) : allK ws s k <+: allK ws s m := by
  refine ⟨sortK ((nearL ws s m).filter fun x => !decide (x.1 ≤ k)), ?_⟩
  unfold allK
  refine sortK_of ?_ ?_
  · refine List.pairwise_append.2 ⟨sortK_sorted _, sortK_sorted _, fun x hx y hy => ?_⟩
    have h1 := (nearL_mem.1 (sortK_mem.1 hx)).2
    have h2 := (List.mem_filter.1 (sortK_mem.1 hy)).2
    have h3 : k < y.1 := by simpa using h2
    exact leK_of_lt (ordK_lt.2 (Or.inl (by have := h1.1; have := h1.2.2; omega)))
  · refine ((sortK_perm _).append (sortK_perm _)).trans ?_
    rw [← nearL_within ws s k m h]
    exact List.filter_append_perm _ _
theorem prefix_at {α : Type} {xs ys : List α} (h : xs <+: ys) : xs.length ≤ ys.length ∧ ys.take xs.length = xs := ⟨h.length_le, (List.prefix_iff_eq_take.1 h).symm⟩
/-- what RankMore asks -/
theorem top_more_n (ws : List Tx) (s : Tx) (k m j : Int) (h : mayP s k m) (h0 : 0 ≤ j) (h1 : mayP s k (m + j)) : topK ws s k m <+: topK ws s k (m + j) := by
  unfold topK; rw [if_pos h, if_pos h1]
  exact List.take_prefix_take_left (by omega)
theorem top_more_k (ws : List Tx) (s : Tx) (k m : Int) (h : mayP s k m) (h1 : mayP s (k + 1) m) : topK ws s k m <+: topK ws s (k + 1) m := by
  unfold topK; rw [if_pos h, if_pos h1]
  obtain ⟨r, hr⟩ := allK_prefix ws s k (k + 1) (by omega)
  rw [← hr, List.take_append]
  exact List.prefix_append _ _
/-- what RankFar asks -/
theorem near_some (ws : List Tx) (s : Tx) (k : Int) : nearL (ws.filter fun t => decide (distS t s ≤ k)) s k = nearL ws s k := by
  induction ws with
  | nil => rfl
  | cons t ws ih =>
    rw [nearL_cons, List.filter_cons]
    by_cases h : distS t s ≤ k
    · rw [if_pos (by simpa using h), nearL_cons, ih]
    · rw [if_neg (by simpa using h), ih, if_neg (by omega)]; rfl
theorem top_some (ws : List Tx) (s : Tx) (k m : Int) : topK (ws.filter fun t => decide (distS t s ≤ k)) s k m = topK ws s k m := by
  unfold topK allK; rw [near_some]
theorem near_filter (p : Tx → Bool) (ws : List Tx) (s : Tx) (k : Int) : nearL (ws.filter p) s k = (nearL ws s k).filter fun x => p x.2 := by
  induction ws with
  | nil => rfl
  | cons t ws ih =>
    rw [nearL_cons, List.filter_append, List.filter_cons]
    by_cases h : p t = true
    · rw [if_pos h, nearL_cons, ih]
      congr 1
      split <;> simp [h]
    · rw [if_neg h, ih]
      have : (if 0 ≤ distS t s ∧ distS t s ≤ k then [(distS t s, t)] else []).filter (fun x => p x.2) = [] := by split <;> simp [h]
      rw [this]; rfl
theorem sorted_ne {xs : List Tx} (h : SortedS xs) : xs.Pairwise (· ≠ ·) := h.imp fun {a b} hab => by
  intro e; subst e; exact cmpS_irrefl a hab
theorem near_ne {ws : List Tx} (h : SortedS ws) (s : Tx) (k : Int) : (nearL ws s k).Pairwise fun a b => a.2 ≠ b.2 := by
  have h0 := sorted_ne h
  induction ws with
  | nil => exact List.Pairwise.nil
  | cons t ws ih =>
    obtain ⟨h1, h2⟩ := List.pairwise_cons.1 h0
    rw [nearL_cons]
    split
    · refine List.pairwise_cons.2 ⟨fun x hx e => h1 x.2 (nearL_mem.1 hx).1 e, ih (List.pairwise_cons.1 h).2 h2⟩
    · exact ih (List.pairwise_cons.1 h).2 h2
theorem all_ne {ws : List Tx} (h : SortedS ws) (s : Tx) (k : Int) : (allK ws s k).Pairwise fun a b => a.2 ≠ b.2 :=
  (sortK_perm _).symm.pairwise (near_ne h s k) fun h => Ne.symm h
theorem filter_one {L : List KV} (h : L.Pairwise fun a b => a.2 ≠ b.2) (i : Nat) (hi : i < L.length) : L.filter (fun x => !decide (x.2 ∈ [(L.getD i k0).2])) = L.take i ++ L.drop (i + 1) := by
  have e : L.getD i k0 = L[i] := by simp [List.getD_eq_getElem?_getD, hi]
  rw [e]
  obtain ⟨x, hx⟩ : ∃ x, L[i] = x := ⟨_, rfl⟩
  have e2 : L = L.take i ++ (x :: L.drop (i + 1)) := by rw [← hx, ← List.drop_eq_getElem_cons hi, List.take_append_drop]
  rw [hx]
  have hp := h
  rw [e2] at hp
  obtain ⟨p1, p2, p3⟩ := List.pairwise_append.1 hp
  obtain ⟨p4, p5⟩ := List.pairwise_cons.1 p2
  conv => lhs; rw [e2]
  rw [List.filter_append, List.filter_cons, if_neg (by simp)]
  rw [List.filter_eq_self.2 fun x hx => by simpa using p3 x hx _ (by simp), List.filter_eq_self.2 fun x hx => by simpa using (p4 x hx).symm]
theorem top_without {ws : List Tx} (h : SortedS ws) (s : Tx) (k m : Int) (hm : mayP s k m) (i : Nat) (hi : i < (topK ws s k m).length) :
    (topK ws s k m).take i ++ (topK ws s k m).drop (i + 1) <+: topK (lessOf ws [((topK ws s k m).getD i k0).2]) s k m := by
  unfold topK at hi ⊢
  simp only [if_pos hm] at hi ⊢
  obtain ⟨N, hN⟩ : ∃ N, m.toNat = N := ⟨_, rfl⟩
  rw [hN] at hi ⊢
  have hl : i < (allK ws s k).length := by rw [List.length_take] at hi; omega
  have hi' : i < N := by rw [List.length_take] at hi; omega
  have e1 : ((allK ws s k).take N).getD i k0 = (allK ws s k).getD i k0 := by simp [List.getD_eq_getElem?_getD, hi']
  rw [e1]
  have e2 : allK (lessOf ws [((allK ws s k).getD i k0).2]) s k = (allK ws s k).take i ++ (allK ws s k).drop (i + 1) := by
    rw [← filter_one (all_ne h s k) i hl]
    unfold allK lessOf
    rw [near_filter, sortK_filter]
  rw [e2]
  generalize allK ws s k = L at *
  rw [List.take_take, Nat.min_eq_left (by omega), List.drop_take, List.take_append, List.length_take, Nat.min_eq_left (by omega), List.take_take, Nat.min_eq_right (by omega)]
  exact List.prefix_append_right_inj _ |>.2 (List.take_prefix_take_left (by omega))
/-- what RankParts asks -/
theorem near_perm {a b : List Tx} (h : a.Perm b) (s : Tx) (k : Int) : (nearL a s k).Perm (nearL b s k) := h.filterMap _
theorem merge_perm {a b : List Tx} (ha : SortedS a) (hb : SortedS b) : (mergeL a b).Perm (a ++ lessOf b a) := by
  have n1 : (mergeL a b).Nodup := sorted_ne (mergeL_sorted _ a b (Nat.le_refl _) ha hb)
  have n2 : (a ++ lessOf b a).Nodup := by
    refine List.pairwise_append.2 ⟨sorted_ne ha, sorted_ne (sorted_filter _ hb), fun x hx y hy e => ?_⟩
    subst e
    have := (List.mem_filter.1 hy).2
    simp [hx] at this
  refine (List.perm_ext_iff_of_nodup n1 n2).2 fun z => ?_
  rw [mem_mergeL, List.mem_append]
  unfold lessOf
  rw [List.mem_filter]
  by_cases h : z ∈ a <;> simp [h]
theorem all_parts {a b : List Tx} (ha : SortedS a) (hb : SortedS b) (s : Tx) (k : Int) : sortK (allK a s k ++ allK (lessOf b a) s k) = allK (mergeL a b) s k := by
  refine sortK_congr (((sortK_perm _).append (sortK_perm _)).trans ?_)
  rw [← nearL_app]
  exact (near_perm (merge_perm ha hb) s k).symm
theorem sortK_take : ∀ (N : Nat) (A C : List KV) (M1 M2 : Nat), SortedK A → SortedK C → N ≤ M1 → N ≤ M2 → (sortK (A.take M1 ++ C.take M2)).take N = (sortK (A ++ C)).take N := by
  intro N
  induction N with
  | zero => intros; simp
  | succ N ih =>
    intro A C M1 M2 hA hC h1 h2
    obtain ⟨M1, rfl⟩ : ∃ q, M1 = q + 1 := ⟨M1 - 1, by omega⟩
    obtain ⟨M2, rfl⟩ : ∃ q, M2 = q + 1 := ⟨M2 - 1, by omega⟩
    have first : ∀ (x : KV) (A C : List KV) (M1 M2 : Nat), SortedK (x :: A) → SortedK C → (∀ z ∈ C, leK x z) → N ≤ M1 → N + 1 ≤ M2 → (sortK ((x :: A).take (M1 + 1) ++ C.take M2)).take (N + 1) = (sortK ((x :: A) ++ C)).take (N + 1) := by
      intro x A C M1 M2 hA hC hz h1 h2
      obtain ⟨a1, a2⟩ := List.pairwise_cons.1 hA
      rw [List.take_succ_cons, List.cons_append, List.cons_append, sortK_cons, sortK_cons, List.take_succ_cons, List.take_succ_cons, ih A C M1 M2 a2 hC h1 (by omega)]
      · intro z hz'
        rcases List.mem_append.1 hz' with e | e
        · exact a1 z e
        · exact hz z e
      · intro z hz'
        rcases List.mem_append.1 hz' with e | e
        · exact a1 z (List.mem_of_mem_take e)
        · exact hz z (List.mem_of_mem_take e)
    match A, C, hA, hC with
    | [], [], _, _ => simp
    | x :: A, [], hA, hC => exact first x A [] M1 (M2 + 1) hA hC (by simp) (by omega) (by omega)
    | [], y :: C, hA, hC =>
      have := first y C [] M2 (M1 + 1) hC List.Pairwise.nil (by simp) (by omega) (by omega)
      simpa using this
    | x :: A, y :: C, hA, hC =>
      rcases leK_total x y with e | e
      · refine first x A (y :: C) M1 (M2 + 1) hA hC (fun z hz => ?_) (by omega) (by omega)
        rcases List.mem_cons.1 hz with rfl | hz
        · exact e
        · exact leK_trans e ((List.pairwise_cons.1 hC).1 z hz)
      · have := first y C (x :: A) M2 (M1 + 1) hC hA (fun z hz => by
          rcases List.mem_cons.1 hz with rfl | hz
          · exact e
          · exact leK_trans e ((List.pairwise_cons.1 hA).1 z hz)) (by omega) (by omega)
        rw [sortK_congr (List.perm_append_comm (l₁ := (x :: A).take (M1 + 1)) (l₂ := (y :: C).take (M2 + 1))), sortK_congr (List.perm_append_comm (l₁ := x :: A) (l₂ := y :: C))]
        exact this
theorem top_parts {a b : List Tx} (ha : SortedS a) (hb : SortedS b) (s : Tx) (k m : Int) (hm : mayP s k m) : topK (mergeL a b) s k m <+: sortK (topK a s k m ++ topK (lessOf b a) s k m) := by
  unfold topK
  simp only [if_pos hm]
  rw [← all_parts ha hb, ← sortK_take m.toNat (allK a s k) (allK (lessOf b a) s k) m.toNat m.toNat (sortK_sorted _) (sortK_sorted _) (Nat.le_refl _) (Nat.le_refl _)]
  exact List.take_prefix _ _
end Go.Proofs.Ytioegheehodndaa
/- a number, from 0 to below n -/
namespace Go.Proofs.Ytioegheehodndaa
open Go.RowKit
set_option linter.unusedVariables false
set_option maxRecDepth 20000
def lowV (x n : Int) : Int := IntKind.u64.wrap x % n
theorem low_bd (x n : Int) (h : 0 < n) : 0 ≤ lowV x n ∧ lowV x n < n := ⟨Int.emod_nonneg _ (by omega), Int.emod_lt_of_pos _ h⟩
theorem u64_in (n : Int) (h : 0 ≤ n) (h2 : n < 18446744073709551616) : IntKind.u64.wrap n = n := by
  simp only [IntKind.wrap, IntKind.signed, IntKind.bits]; simp; omega
theorem u64_bdL (d : Int) : 0 ≤ IntKind.u64.wrap d ∧ IntKind.u64.wrap d < 18446744073709551616 := by
  simp only [IntKind.wrap, IntKind.signed, IntKind.bits]; simp; omega
theorem low_any (x n : Int) (h : 1 ≤ n) (h2 : n < 4611686018427387904) (w : World) :
    Calls Try.prog 33 #[.int .i64 x, .int .i64 n] w fun e w' => e = .returned (.int .i64 (lowV x n)) ∧ w = w' := by
  have hb := low_bd x n (by omega)
  have hw := u64_in n (by omega) (by omega)
  have hx := u64_bdL x
  go_enter Try.func33, Try.ntmps33
  go_wp2
  go_ret
  exact ⟨ret_int (by unfold lowV at *; rw [IntWalk.wrap64_in _ ⟨by omega, by omega⟩]), rfl⟩
end Go.Proofs.Ytioegheehodndaa
/- small facts on lists of texts -/
namespace Go.Proofs.Ytioegheehodndaa
open Go.RowKit
set_option linter.unusedVariables false
set_option maxRecDepth 20000
theorem drop_cons (ts : List Tx) (j : Nat) (h : j < ts.length) : ts.drop j = ts.getD j ByteArray.empty :: ts.drop (j + 1) := by
  rw [List.drop_eq_getElem_cons h]
  simp [List.getD_eq_getElem?_getD, h]
theorem compare_lit (x y : Tx) (v : Int) (hv : cmpS x y = v) (w : World) : Calls Try.prog 47 #[.string x, .string y] w fun e w' => e = .returned (.int .i64 v) ∧ w = w' := by subst hv; exact compare_any x y w
end Go.Proofs.Ytioegheehodndaa
/- contract of list.At -/
namespace Go.Proofs.Ytioegheehodndaa
open Go.RowKit
set_option linter.unusedVariables false
set_option maxRecDepth 20000
theorem getD_cons_zero (x : Tx) (xs : List Tx) : (x :: xs).getD 0 ByteArray.empty = x := rfl
theorem getD_cons_succ (x : Tx) (xs : List Tx) (i : Nat) : (x :: xs).getD (i + 1) ByteArray.empty = xs.getD i ByteArray.empty := rfl
theorem getD_at {xs : List Tx} {i : Nat} (h : i < xs.length) : xs.getD i ByteArray.empty = xs[i] := by simp [List.getD_eq_getElem?_getD, h]
theorem sorted_at {xs : List Tx} (h : SortedS xs) {i j : Nat} (hij : i < j) (hj : j < xs.length) : cmpS (xs.getD i ByteArray.empty) (xs.getD j ByteArray.empty) < 0 := by
  have := List.pairwise_iff_getElem.1 h i j (by omega) hj hij
  rw [getD_at (show i < xs.length by omega), getD_at hj]; exact this
theorem atN_of : ∀ (xs : List Tx) (t : Tx) (i : Nat), i ≤ xs.length → (∀ k, k < i → cmpS (xs.getD k ByteArray.empty) t < 0) → (∀ k, i ≤ k → k < xs.length → ¬ cmpS (xs.getD k ByteArray.empty) t < 0) → atN xs t = i
  | [], t, i, hi, _, _ => by have : i = 0 := by simpa using hi
                             subst this; rfl
  | x :: xs, t, 0, _, _, h2 => by
    unfold atN
    rw [List.countP_eq_zero]
    intro y hy
    obtain ⟨k, hk, rfl⟩ := List.getElem_of_mem hy
    have := h2 k (Nat.zero_le _) hk
    rw [getD_at hk] at this
    simpa using this
  | x :: xs, t, i + 1, hi, h1, h2 => by
    have hx := h1 0 (by omega)
    rw [getD_cons_zero] at hx
    have ih := atN_of xs t i (by simpa using hi) (fun k hk => h1 (k + 1) (by omega)) (fun k hk hk2 => h2 (k + 1) (by omega) (by simpa using hk2))
    unfold atN at ih ⊢
    rw [List.countP_cons_of_pos (by simpa using hx), ih]
theorem mem_at_iff {xs : List Tx} {t : Tx} (hs : SortedS xs) {i : Nat} (h1 : ∀ k, k < i → cmpS (xs.getD k ByteArray.empty) t < 0) (h2 : ∀ k, i ≤ k → k < xs.length → ¬ cmpS (xs.getD k ByteArray.empty) t < 0) : t ∈ xs ↔ i < xs.length ∧ cmpS (xs.getD i ByteArray.empty) t = 0 := by
  constructor
  · intro h
    obtain ⟨k, hk, e⟩ := List.getElem_of_mem h
    have e2 : xs.getD k ByteArray.empty = t := by rw [getD_at hk, e]
    have hik : i ≤ k := by
      apply Classical.byContradiction
      intro hn
      have := h1 k (by omega)
      rw [e2] at this
      exact cmpS_irrefl t this
    by_cases hlt : i < k
    · have := sorted_at hs hlt hk
      rw [e2] at this
      exact absurd this (h2 i (Nat.le_refl _) (by omega))
    · obtain rfl : i = k := by omega
      exact ⟨hk, by rw [e2, cmpS_same]⟩
  · rintro ⟨h, e⟩
    rw [← cmpS_zero.1 e, getD_at h]
    exact List.getElem_mem _
set_option maxHeartbeats 1600000 in
theorem search_any (a : Option Addr) (n cap : Nat) (ts : List Tx) (t : Tx) (w : World) (hh : HoldsT w a n ts) (hn : n ≤ 1048576) (hs : SortedS ts) :
    Calls Try.prog 52 #[.slice a n cap, .string t, .func (.func 47) #[] #[]] w fun e w' => e = .returned (.tuple #[.int .i64 (atN ts t), .bool (decide (t ∈ ts))]) ∧ w = w' := by
  have hl := hh.len
  have HS := Lib.hid hs
  clear hs
  go_enter Try.func52, Try.ntmps52
  go_wp2_with fail
  go_loop [9, 10] (fun u v => ∃ lo hi : Nat, u = .int .i64 lo ∧ v = .int .i64 hi ∧ lo ≤ hi ∧ hi ≤ n ∧ Hid (∀ k, k < lo → cmpS (ts.getD k ByteArray.empty) t < 0) ∧ Hid (∀ k, hi ≤ k → k < n → 0 ≤ cmpS (ts.getD k ByteArray.empty) t)) (fun u v => (intOf v).toNat - (intOf u).toNat)
  case atStart => exact ⟨0, n, rfl, rfl, by omega, by omega, Lib.hid (fun k h => by omega), Lib.hid (fun k h1 h2 => by omega)⟩
  case round =>
    obtain ⟨lo, hi, rfl, rfl, h1, h2, L1, L2⟩ := hrel
    by_cases hlt : lo < hi
    · obtain ⟨b, o, rfl, hc⟩ := hh.at (by omega)
      have e1 := hc ((lo + hi) / 2) (by omega)
      obtain ⟨x, hx⟩ : ∃ x, ts.getD ((lo + hi) / 2) ByteArray.empty = x := ⟨_, rfl⟩
      rw [hx] at e1
      have HX := Lib.hid hx
      clear hx hc
      obtain ⟨v, hv⟩ : ∃ v, cmpS x t = v := ⟨_, rfl⟩
      have hcmp := Lib.hid (compare_lit x t v hv w)
      have HV := Lib.hid hv
      clear hv
      by_cases hvn : v < 0
      · go_wp2_with fail
        refine hcmp.out.mono ?_
        rintro e w2 ⟨rfl, rfl⟩
        go_wp2_with fail
        go_round
        case rel =>
          refine ⟨(lo + hi) / 2 + 1, hi, by go_num, rfl, by omega, h2, Lib.hid (fun k hk => ?_), L2⟩
          by_cases hk2 : k = (lo + hi) / 2
          · subst hk2; rw [HX.out, HV.out]; exact hvn
          · have h3 := sorted_at HS.out (i := k) (j := (lo + hi) / 2) (by omega) (by omega)
            rw [HX.out] at h3
            exact cmpS_trans h3 (by rw [HV.out]; exact hvn)
        case measure => simp [intOf]; omega
      · go_wp2_with fail
        refine hcmp.out.mono ?_
        rintro e w2 ⟨rfl, rfl⟩
        go_wp2_with fail
        go_round
        case rel =>
          refine ⟨lo, (lo + hi) / 2, rfl, by go_num, by omega, by omega, L1, Lib.hid (fun k hk hk2 => Int.not_lt.1 fun h4 => ?_)⟩
          by_cases hk3 : k = (lo + hi) / 2
          · subst hk3; rw [HX.out, HV.out] at h4; omega
          · have h3 := sorted_at HS.out (i := (lo + hi) / 2) (j := k) (by omega) (by omega)
            rw [HX.out] at h3
            have h5 := cmpS_trans h3 h4
            rw [HV.out] at h5
            omega
        case measure => simp [intOf]; omega
    · obtain rfl : hi = lo := by omega
      have L3 : Hid (∀ k, hi ≤ k → k < ts.length → ¬ cmpS (ts.getD k ByteArray.empty) t < 0) := Lib.hid (fun k h3 h4 => Int.not_lt.2 (L2.out k h3 (by omega)))
      have hA := Lib.hid (atN_of ts t hi (by omega) L1.out L3.out)
      have hM := Lib.hid (mem_at_iff (t := t) HS.out L1.out L3.out)
      by_cases hlt2 : hi < n
      · obtain ⟨b, o, rfl, hc⟩ := hh.at (by omega)
        have e1 := hc hi (by omega)
        obtain ⟨x, hx⟩ : ∃ x, ts.getD hi ByteArray.empty = x := ⟨_, rfl⟩
        rw [hx] at e1
        have HX := Lib.hid hx
        clear hx hc
        obtain ⟨v, hv⟩ : ∃ v, cmpS x t = v := ⟨_, rfl⟩
        have hcmp := Lib.hid (compare_lit x t v hv w)
        have HV := Lib.hid hv
        clear hv
        have hb : Hid (decide (t ∈ ts) = (v == 0)) := Lib.hid (by
          have := hM.out
          rw [HX.out, HV.out, hl] at this
          rw [show (decide (t ∈ ts)) = decide (v = 0) by simp [this, hlt2]]
          rfl)
        go_wp2_with fail
        refine hcmp.out.mono ?_
        rintro e w2 ⟨rfl, rfl⟩
        go_wp2_with fail
        go_ret2
        exact ⟨by rw [hA.out, hb.out]; rfl, rfl⟩
      · have hb : Hid (decide (t ∈ ts) = false) := Lib.hid (by
          rw [decide_eq_false_iff_not]
          intro h
          have := (hM.out.1 h).1
          omega)
        go_wp2_with fail
        go_ret2
        exact ⟨by rw [hA.out, hb.out]; rfl, rfl⟩
theorem at_any (a : Option Addr) (n cap : Nat) (ts : List Tx) (t : Tx) (w : World) (hh : HoldsT w a n ts) (hn : n ≤ 1048576) (hs : SortedS ts) :
    Calls Try.prog 32 #[.slice a n cap, .string t] w fun e w' => e = .returned (.tuple #[.int .i64 (atN ts t), .bool (decide (t ∈ ts))]) ∧ w = w' := by
  have h1 := Lib.hid (search_any a n cap ts t w hh hn hs)
  obtain ⟨k, hk⟩ : ∃ k, atN ts t = k := ⟨_, rfl⟩
  obtain ⟨c, hc⟩ : ∃ c, decide (t ∈ ts) = c := ⟨_, rfl⟩
  rw [hk, hc] at h1 ⊢
  clear hk hc hh hs
  go_enter Try.func32, Try.ntmps32
  go_wp2_with fail
  refine h1.out.mono ?_
  rintro e w2 ⟨rfl, rfl⟩
  go_wp2_with fail
  go_ret2
  exact ⟨rfl, rfl⟩
theorem at_lit (a : Option Addr) (n cap : Nat) (ts : List Tx) (t : Tx) (b : Bool) (k : Nat) (w : World) (hh : HoldsT w a n ts) (hn : n ≤ 1048576) (hs : SortedS ts) (hb : decide (t ∈ ts) = b) (hk : atN ts t = k) :
    Calls Try.prog 32 #[.slice a n cap, .string t] w fun e w' => e = .returned (.tuple #[.int .i64 k, .bool b]) ∧ w = w' := by
  subst hb hk; exact at_any a n cap ts t w hh hn hs
end Go.Proofs.Ytioegheehodndaa
/- contract of list.Without -/
namespace Go.Proofs.Ytioegheehodndaa
open Go.RowKit
set_option linter.unusedVariables false
set_option maxRecDepth 20000
set_option maxHeartbeats 1600000 in
theorem without_any (a : Option Addr) (n cap : Nat) (xs : List Tx) (a1 : Option Addr) (n1 cap1 : Nat) (ys : List Tx) (w : World) (hh : HoldsT w a n xs) (hh1 : HoldsT w a1 n1 ys) (hn : n ≤ 1000) (hn1 : n1 ≤ 1000) (hs : SortedS ys) :
    Calls Try.prog 34 #[.slice a n cap, .slice a1 n1 cap1] w (RetO w (lessOf xs ys)) := by
  obtain ⟨i0, hi, hz0, hz1, hz2⟩ := info_parts str_info
  have hl := hh.len
  go_enter Try.func34, Try.ntmps34
  go_wp2_with fail
  go_loopw [5, 12] (fun ov iv wr => ∃ (j : Nat) (P : List Tx), j ≤ n ∧ P.length ≤ j ∧ iv = .int .i64 j ∧ Hid (P = lessOf (xs.take j) ys) ∧ Hid (wr.ownsRow w.heap.size 9 1 ov P.length (strsV P)) ∧ Hid (Below w.heap.size w wr)) (fun _ iv _ => n - (intOf iv).toNat)
  case atStart => exact ⟨0, [], by omega, by simp, rfl, Lib.hid rfl, Lib.hid (World.ownsRow_nil _ _ _ _), Lib.hid (Below.refl _ _)⟩
  case round =>
    obtain ⟨j, P, hj, hPl, rfl, hP, hO, hB⟩ := hrel
    by_cases hlt : j < n
    · have hcell := hh.at (by omega)
      obtain ⟨bb, o, rfl, hc'⟩ := hcell
      have e0 := hc' j hlt
      have HC := Lib.hid (fun (w3 : World) (hb : Below w.heap.size w w3) => show w3.cell? ⟨bb, o + j, none⟩ = some (.string (xs.getD j ByteArray.empty)) from (hb.cell (p := ⟨bb, o + j, none⟩) (lt_of_cell e0)).trans e0)
      have htk := take_succ_getD xs ByteArray.empty j (by omega)
      obtain ⟨x, hx⟩ : ∃ x, xs.getD j ByteArray.empty = x := ⟨_, rfl⟩
      rw [hx] at htk
      simp only [hx] at HC
      have HT := Lib.hid htk
      clear hx htk hc' e0
      have e1 := HC.out _ hB.out
      have H1 := Lib.hid (hh1.below hB.out)
      obtain ⟨k, hk⟩ : ∃ k, atN ys x = k := ⟨_, rfl⟩
      have HK := Lib.hid hk
      clear hk
      by_cases hin : x ∈ ys
      · have HD := Lib.hid (decide_eq_true hin)
        have hls := lessOf_yes ys (xs.take j) x hin
        rw [← HT.out, ← hP.out] at hls
        have HL := Lib.hid hls
        clear hls hin
        go_wp2_with fail
        refine (at_lit a1 n1 cap1 ys x true k wr H1.out (by omega) hs HD.out HK.out).mono ?_
        rintro e w2 ⟨rfl, rfl⟩
        go_wp2_with fail
        go_roundw
        case rel => exact ⟨j + 1, P, by omega, by omega, by go_num, Lib.hid HL.out.symm, hO, hB⟩
        case measure => simp [intOf]; omega
      · have HD := Lib.hid (decide_eq_false hin)
        have hls := lessOf_no ys (xs.take j) x hin
        rw [← HT.out, ← hP.out] at hls
        have HL := Lib.hid hls
        clear hls hin
        go_wp2_with fail
        refine (at_lit a1 n1 cap1 ys x false k wr H1.out (by omega) hs HD.out HK.out).mono ?_
        rintro e w2 ⟨rfl, rfl⟩
        go_wp2_with (at_builtin; refine wpList_append_any rfl (.tmp 24) (.tmp 26) 22 rfl w.heap.size 9 i0 (.string ⟨#[]⟩) 1 16 Try.underlying22 hi hz0 hz1 hz2 rfl (by decide) _ P.length _ rfl (hO.out.alloc _) _ 1 1 _ rfl (some_none _) rfl (one_new _ _ _ _) (one_str _) (by unfold maxLen; omega) (by omega) (by have := hB.out.size; simp; omega) ?_; intro a3 c3 w3 hown3 hb3 hnil3)
        rw [← strsV_snoc] at hown3
        have O3 := Lib.hid hown3
        have B3 := Lib.hid ((hB.out.alloc hB.out.size _).trans hb3)
        clear hown3 hb3 hnil3
        go_roundw
        case rel => exact ⟨j + 1, P ++ [x], by omega, by simp; omega, by go_num, Lib.hid HL.out.symm, Lib.hid (by have := O3.out; simpa using this), B3⟩
        case measure => simp [intOf]; omega
    · have hjn : xs.take j = xs := List.take_of_length_le (by omega)
      have hP2 := hP.out
      rw [hjn] at hP2
      have HP := Lib.hid hP2
      clear hP hP2 hjn
      obtain ⟨a4, c4, rfl⟩ : ∃ a4 c4, u5 = .slice a4 P.length c4 := by
        rcases hO.out.2 with ⟨h, h0⟩ | ⟨g', c', cur, h, _⟩
        · exact ⟨none, 0, by rw [h, h0]⟩
        · exact ⟨_, c', h⟩
      go_wp2_with fail
      go_ret
      exact ret_own HP.out rfl hO.out hB.out _ rfl
end Go.Proofs.Ytioegheehodndaa
/- contract of list.Merge -/
namespace Go.Proofs.Ytioegheehodndaa
open Go.RowKit
set_option linter.unusedVariables false
set_option maxRecDepth 20000
/-- 'make([]T, 0, c)': a slice of the call's own with room -/
theorem wpList_make_room {P : Program} (w : World) {ops : Array Oper} {rest : List Oper} {o : Oper} {a : Act} {Q : Exit → Act → World → Prop}
    (hg : o.guard = none) (l c : Operand) (t : TypeId) (hop : o.op = Op.makeSlice t l c)
    (e : TypeId) (i : TypeInfo) (z : Value) (bytes : Nat) (ht : P.underlying t = some (.slice e)) (hi : P.info? e = some i) (hz : i.zero = some z) (hsize : i.size = 1) (hby : i.bytes = bytes) (hz1 : z.cells = #[z])
    (base n : Nat) (hl : a.eval l = .int .i64 0) (cv : Int) (hc : a.eval c = .int .i64 cv) (hcv : cv = (n : Int)) (hbytes : bytes * n ≤ 281474976710656) (h63 : n ≤ maxLen) (hbase : base ≤ w.heap.size)
    (hK : ∀ w', w'.ownsRow base e 1 (.slice (some ⟨w.heap.size, 0, none⟩) 0 n) 0 [] → Below base w w' → wpList P ops Q rest (a.put o.dst (.slice (some ⟨w.heap.size, 0, none⟩) 0 n)) w') :
    wpList P ops Q (o :: rest) a w := by
  subst hcv
  refine wpList_plain hg fun K hK' => ?_
  have hb' : (i.bytes : Int) * (n : Int) ≤ 281474976710656 := by
    rw [hby]
    have h : ((bytes * n : Nat) : Int) ≤ 281474976710656 := by omega
    rwa [Int.natCast_mul] at h
  have hrun := run_make (P := P) w t e i z ht hi hz .i64 .i64 0 n (Int.le_refl _) (by omega) hb' (by unfold maxLen at h63; omega)
  simp only [Int.toNat_natCast, Int.toNat_zero, hsize, Nat.mul_one, hz1] at hrun
  unfold Oper.wp
  simp [execOp, hop, hl, hc, hrun, Result.andThen]
  refine hK' _ _ (hK _ ?_ ((Below.refl _ _).alloc hbase _))
  exact ⟨rfl, .inr ⟨w.heap.size, n, _, rfl, hbase, heap_alloc_new w _, Nat.zero_le _, h63, by simp [madeCells], by simp⟩⟩
theorem mergeL_lt {x y : Tx} {xs ys : List Tx} (h : cmpS x y < 0) : mergeL (x :: xs) (y :: ys) = x :: mergeL xs (y :: ys) := by rw [mergeL_cons, if_pos h]
theorem mergeL_eq {x y : Tx} {xs ys : List Tx} (h : cmpS x y = 0) : mergeL (x :: xs) (y :: ys) = x :: mergeL xs ys := by rw [mergeL_cons, if_neg (by omega), if_pos h]
theorem mergeL_gt {x y : Tx} {xs ys : List Tx} (h : 0 < cmpS x y) : mergeL (x :: xs) (y :: ys) = y :: mergeL (x :: xs) ys := by rw [mergeL_cons, if_neg (by omega), if_neg (by omega)]
theorem merge_step {M P : List Tx} {x y : Tx} {xs ys : List Tx} {i j : Nat} (hM : M = P ++ mergeL (xs.drop i) (ys.drop j)) (hx : xs.drop i = x :: xs.drop (i + 1)) (hy : ys.drop j = y :: ys.drop (j + 1)) :
    (cmpS x y < 0 → M = (P ++ [x]) ++ mergeL (xs.drop (i + 1)) (ys.drop j)) ∧ (cmpS x y = 0 → M = (P ++ [x]) ++ mergeL (xs.drop (i + 1)) (ys.drop (j + 1))) ∧ (0 < cmpS x y → M = (P ++ [y]) ++ mergeL (xs.drop i) (ys.drop (j + 1))) := by
  refine ⟨fun h => ?_, fun h => ?_, fun h => ?_⟩
  · rw [hM, hx, hy, mergeL_lt h, List.append_assoc]; rfl
  · rw [hM, hx, hy, mergeL_eq h, List.append_assoc]; rfl
  · rw [hM, hx, hy, mergeL_gt h, List.append_assoc]; rfl
theorem HoldsT.tail {w : World} {b o m : Nat} {ts : List Tx} (h : HoldsT w (some ⟨b, o, none⟩) (m + 1) ts) : HoldsT w (some ⟨b, o + 1, none⟩) m (ts.drop 1) := by
  have := h.drop 1 (by omega)
  simpa using this
theorem HoldsT.tail' {w : World} {b o q c : Nat} {ts : List Tx} (h : HoldsT w (some ⟨b, o, none⟩) (q + 1) ts) (hc : q + 1 ≤ c) : HoldsT w (if c = 1 then some ⟨b, o, none⟩ else some ⟨b, o + 1, none⟩) q (ts.drop 1) := by
  split
  · obtain rfl : q = 0 := by omega
    have := h.tail
    exact ⟨this.1, fun h => absurd h (by omega)⟩
  · exact h.tail
theorem ite_none {p : Prop} {c : Prop} [Decidable c] (a b : Addr) : ((if c then some a else some b) = none) → p := by split <;> exact fun h => by cases h
def lenV : Value → Nat | .slice _ n _ => n | _ => 0
set_option maxHeartbeats 3200000 in
theorem merge_any (a : Option Addr) (n cap : Nat) (xs : List Tx) (a1 : Option Addr) (n1 cap1 : Nat) (ys : List Tx) (w : World) (hh : HoldsT w a n xs) (hnil : a = none → n = 0 ∧ cap = 0) (hcap : n ≤ cap) (hh1 : HoldsT w a1 n1 ys) (hnil1 : a1 = none → n1 = 0 ∧ cap1 = 0) (hcap1 : n1 ≤ cap1) (hn : n ≤ 1000) (hn1 : n1 ≤ 1000) :
    Calls Try.prog 35 #[.slice a n cap, .slice a1 n1 cap1] w (RetO w (mergeL xs ys)) := by
  obtain ⟨i0, hi, hz0, hz1, hz2⟩ := info_parts str_info
  have hl := hh.len
  have hl1 := hh1.len
  have HH := Lib.hid hh; have HN := Lib.hid hnil; have HH1 := Lib.hid hh1; have HN1 := Lib.hid hnil1
  clear hh hnil hh1 hnil1
  go_enter Try.func35, Try.ntmps35
  go_wp2_with (refine wpList_make_room _ rfl _ _ 22 rfl 9 i0 (.string ⟨#[]⟩) 16 Try.underlying22 hi hz0 hz1 hz2 rfl w.heap.size (n + n1) rfl _ rfl (by omega) (by omega) (by unfold maxLen; omega) (Nat.le_refl _) ?_; intro w1 hown1 hb1)
  have O1 := Lib.hid hown1; have B1 := Lib.hid hb1
  clear hown1 hb1
  go_loopw [0, 1, 5] (fun av bv ov wr => ∃ (i j m m1 c c1 : Nat) (p p1 : Option Addr) (P : List Tx), m + i = n ∧ m1 + j = n1 ∧ m ≤ c ∧ m1 ≤ c1 ∧ av = .slice p m c ∧ bv = .slice p1 m1 c1 ∧ P.length ≤ i + j ∧ Hid (HoldsT w p m (xs.drop i)) ∧ Hid (HoldsT w p1 m1 (ys.drop j)) ∧ Hid (p = none → m = 0 ∧ c = 0) ∧ Hid (p1 = none → m1 = 0 ∧ c1 = 0) ∧ Hid (mergeL xs ys = P ++ mergeL (xs.drop i) (ys.drop j)) ∧ Hid (wr.ownsRow w.heap.size 9 1 ov P.length (strsV P)) ∧ Hid (Below w.heap.size w wr)) (fun av bv _ _ => lenV av + lenV bv)
  case atStart => exact ⟨0, 0, n, n1, cap, cap1, a, a1, [], by omega, by omega, hcap, hcap1, rfl, rfl, by simp, HH, HH1, HN, HN1, Lib.hid rfl, O1, B1⟩
  case round =>
    obtain ⟨i, j, m, m1, c, c1, p, p1, P, hm, hm1, hc, hc1, rfl, rfl, hPl, K, K1, N0, N1, hP, hO, hB⟩ := hrel
    have hcv := HoldsT.below K.out hB.out
    by_cases hm0 : m = 0 ∨ m1 = 0
    · have hend : Hid (mergeL xs ys = P ++ xs.drop i ++ ys.drop j) := Lib.hid (by
        rw [hP.out]
        rcases hm0 with h | h
        · rw [List.drop_of_length_le (l := xs) (i := i) (by omega), mergeL_nil_left]; simp
        · rw [List.drop_of_length_le (l := ys) (i := j) (by omega), mergeL_nil_right]; simp)
      have hR : Hid ((P ++ xs.drop i ++ ys.drop j).length = P.length + m + m1) := Lib.hid (by simp; omega)
      have X := Lib.hid ((HoldsT.below K.out hB.out).cells ⟨rfl, rfl, rfl, Nat.le_refl _, fun _ _ _ => rfl⟩)
      have LX := Lib.hid (show (strsV (xs.drop i)).length = m * 1 by rw [Nat.mul_one]; exact K.out.1)
      have LY := Lib.hid (show (strsV (ys.drop j)).length = m1 * 1 by rw [Nat.mul_one]; exact K1.out.1)
      obtain ⟨X1, hX1⟩ : ∃ X1, xs.drop i = X1 := ⟨_, rfl⟩
      obtain ⟨Y1, hY1⟩ : ∃ Y1, ys.drop j = Y1 := ⟨_, rfl⟩
      have Kx := Lib.hid K.out; have Ky := Lib.hid K1.out
      rw [hX1] at LX X hR hend Kx
      rw [hY1] at LY hR hend Ky
      clear hX1 hY1 hP K K1 hcv
      have hcase : m = 0 ∨ (0 < m ∧ m1 = 0) := by omega
      rcases hcase with rfl | ⟨h1, rfl⟩
      all_goals
        go_wp2_with (first
          | (at_builtin; refine wpList_append_any rfl (.tmp 48) (.tmp 49) 22 rfl w.heap.size 9 i0 (.string ⟨#[]⟩) 1 16 Try.underlying22 hi hz0 hz1 hz2 rfl (by decide) _ P.length _ rfl hO.out _ _ _ (strsV X1) rfl N0.out LX.out X.out (strsV_one _) (by unfold maxLen; omega) (by omega) hB.out.size ?_; intro a3 c3 w3 hown3 hb3 hnil3; have B3 := hB.out.trans hb3)
          | (at_builtin; refine wpList_append_any rfl (.tmp 51) (.tmp 52) 22 rfl w.heap.size 9 i0 (.string ⟨#[]⟩) 1 16 Try.underlying22 hi hz0 hz1 hz2 rfl (by decide) _ _ _ rfl hown3 _ _ _ (strsV Y1) rfl N1.out LY.out ((HoldsT.below Ky.out B3).cells ⟨rfl, rfl, rfl, Nat.le_refl _, fun _ _ _ => rfl⟩) (strsV_one _) (by unfold maxLen; omega) (by omega) B3.size ?_; intro a5 c5 w5 hown5 hb5 hnil5))
        have O5 := Lib.hid hown5
        have B5 := Lib.hid (B3.trans hb5)
        clear hown5 hb5 hnil5 hown3 hb3 hnil3 B3
        go_ret
        exact ret_own hend.out.symm hR.out (by have := O5.out; simpa [strsV] using this) B5.out _ rfl
    · obtain ⟨q, rfl⟩ : ∃ q, m = q + 1 := ⟨m - 1, by omega⟩
      obtain ⟨q1, rfl⟩ : ∃ q1, m1 = q1 + 1 := ⟨m1 - 1, by omega⟩
      obtain ⟨b, o, rfl, hx⟩ := K.out.at (by omega)
      obtain ⟨b1, o1, rfl, hx1⟩ := K1.out.at (by omega)
      have e0 := hx 0 (by omega)
      have e1 := hx1 0 (by omega)
      rw [Nat.add_zero] at e0 e1
      have hdx := drop_cons xs i (by omega)
      have hdy := drop_cons ys j (by omega)
      have hgx : (xs.drop i).getD 0 ByteArray.empty = xs.getD i ByteArray.empty := by simp [List.getD_eq_getElem?_getD]
      have hgy : (ys.drop j).getD 0 ByteArray.empty = ys.getD j ByteArray.empty := by simp [List.getD_eq_getElem?_getD]
      rw [hgx] at e0
      rw [hgy] at e1
      obtain ⟨x, hxx⟩ : ∃ x, xs.getD i ByteArray.empty = x := ⟨_, rfl⟩
      obtain ⟨y, hyy⟩ : ∃ y, ys.getD j ByteArray.empty = y := ⟨_, rfl⟩
      rw [hxx] at hdx e0
      rw [hyy] at hdy e1
      have C0 := Lib.hid (fun (w3 : World) (hb : Below w.heap.size w w3) => show w3.cell? ⟨b, o, none⟩ = some (.string x) from (hb.cell (p := ⟨b, o, none⟩) (lt_of_cell e0)).trans e0)
      have C1 := Lib.hid (fun (w3 : World) (hb : Below w.heap.size w w3) => show w3.cell? ⟨b1, o1, none⟩ = some (.string y) from (hb.cell (p := ⟨b1, o1, none⟩) (lt_of_cell e1)).trans e1)
      obtain ⟨s1, s2, s3⟩ := merge_step hP.out hdx hdy
      have T0 := Lib.hid (by simpa using K.out.tail' hc : HoldsT w (if c = 1 then some ⟨b, o, none⟩ else some ⟨b, o + 1, none⟩) q (xs.drop (i + 1)))
      have T1 := Lib.hid (by simpa using K1.out.tail' hc1 : HoldsT w (if c1 = 1 then some ⟨b1, o1, none⟩ else some ⟨b1, o1 + 1, none⟩) q1 (ys.drop (j + 1)))
      have S1 := Lib.hid s1; have S2 := Lib.hid s2; have S3 := Lib.hid s3
      clear hx hx1 hdx hdy hgx hgy hxx hyy s1 s2 s3 e0 e1 hcv
      have e0 := C0.out _ hB.out
      have e1 := C1.out _ hB.out
      obtain ⟨v, hv⟩ : ∃ v, cmpS x y = v := ⟨_, rfl⟩
      have hcmp := Lib.hid (fun w => compare_lit x y v hv w)
      rw [hv] at S1 S2 S3
      clear hv
      have g1 : (0 : Int) < (q + 1 : Nat) := by omega
      have g2 : (0 : Int) < (q1 + 1 : Nat) := by omega
      rcases Int.lt_trichotomy v 0 with h | h | h
      · have hM := Lib.hid (S1.out h)
        go_upto_region 3 with fail
        go_quiet ((go_at_call 47; exact Calls.quiet_of_same ((hcmp.out _).mono (fun _ _ h => ⟨h.1, h.2.symm⟩))))
        go_wp2_with (at_builtin; refine wpList_append_any rfl (.tmp 30) (.tmp 34) 22 rfl w.heap.size 9 i0 (.string ⟨#[]⟩) 1 16 Try.underlying22 hi hz0 hz1 hz2 rfl (by decide) _ P.length _ rfl ((owns_below hO.out (below_drewN _ _)).alloc _) _ 1 1 _ rfl (some_none _) rfl (one_new _ _ _ _) (one_str _) (by unfold maxLen; omega) (by omega) (by have := hB.out.size; simp; omega) ?_; intro a3 c3 w3 hown3 hb3 hnil3)
        rw [← strsV_snoc] at hown3
        have O3 := Lib.hid hown3
        have B3 := Lib.hid (((hB.out.trans ((below_drewN _ _).mono hB.out.size)).alloc (by have := hB.out.size; simpa using this) _).trans hb3)
        clear hown3 hb3 hnil3
        go_roundw
        case rel =>
          exact ⟨i + 1, j, q, q1 + 1, c - 1, c1, _, _, P ++ [x], by omega, by omega, by omega, by omega, rfl, rfl, by simp; omega, T0, K1, Lib.hid (ite_none _ _), N1, hM, Lib.hid (by have := O3.out; simpa using this), B3⟩
        case measure => simp [lenV]; try omega
      · have hM := Lib.hid (S2.out h)
        subst h
        go_upto_region 3 with fail
        go_quiet ((go_at_call 47; exact Calls.quiet_of_same ((hcmp.out _).mono (fun _ _ h => ⟨h.1, h.2.symm⟩))))
        go_wp2_with (at_builtin; refine wpList_append_any rfl (.tmp 30) (.tmp 34) 22 rfl w.heap.size 9 i0 (.string ⟨#[]⟩) 1 16 Try.underlying22 hi hz0 hz1 hz2 rfl (by decide) _ P.length _ rfl ((owns_below hO.out (below_drewN _ _)).alloc _) _ 1 1 _ rfl (some_none _) rfl (one_new _ _ _ _) (one_str _) (by unfold maxLen; omega) (by omega) (by have := hB.out.size; simp; omega) ?_; intro a3 c3 w3 hown3 hb3 hnil3)
        rw [← strsV_snoc] at hown3
        have O3 := Lib.hid hown3
        have B3 := Lib.hid (((hB.out.trans ((below_drewN _ _).mono hB.out.size)).alloc (by have := hB.out.size; simpa using this) _).trans hb3)
        clear hown3 hb3 hnil3
        go_roundw
        case rel => exact ⟨i + 1, j + 1, q, q1, c - 1, c1 - 1, _, _, P ++ [x], by omega, by omega, by omega, by omega, rfl, rfl, by simp; omega, T0, T1, Lib.hid (ite_none _ _), Lib.hid (ite_none _ _), hM, Lib.hid (by have := O3.out; simpa using this), B3⟩
        case measure => simp [lenV]; try omega
      · have hM := Lib.hid (S3.out h)
        go_upto_region 3 with fail
        go_quiet ((go_at_call 47; exact Calls.quiet_of_same ((hcmp.out _).mono (fun _ _ h => ⟨h.1, h.2.symm⟩))))
        go_wp2_with (at_builtin; refine wpList_append_any rfl (.tmp 38) (.tmp 42) 22 rfl w.heap.size 9 i0 (.string ⟨#[]⟩) 1 16 Try.underlying22 hi hz0 hz1 hz2 rfl (by decide) _ P.length _ rfl ((owns_below hO.out (below_drewN _ _)).alloc _) _ 1 1 _ rfl (some_none _) rfl (one_new _ _ _ _) (one_str _) (by unfold maxLen; omega) (by omega) (by have := hB.out.size; simp; omega) ?_; intro a3 c3 w3 hown3 hb3 hnil3)
        rw [← strsV_snoc] at hown3
        have O3 := Lib.hid hown3
        have B3 := Lib.hid (((hB.out.trans ((below_drewN _ _).mono hB.out.size)).alloc (by have := hB.out.size; simpa using this) _).trans hb3)
        clear hown3 hb3 hnil3
        go_roundw
        case rel => exact ⟨i, j + 1, q + 1, q1, c, c1 - 1, _, _, P ++ [y], by omega, by omega, by omega, by omega, rfl, rfl, by simp; omega, K, T1, N0, Lib.hid (ite_none _ _), hM, Lib.hid (by have := O3.out; simpa using this), B3⟩
        case measure => simp [lenV]; try omega
end Go.Proofs.Ytioegheehodndaa
/- contract of text.Word -/
namespace Go.Proofs.Ytioegheehodndaa
open Go.RowKit
set_option linter.unusedVariables false
set_option maxRecDepth 20000
theorem word_any (s : ByteArray) (w : World) (hs : s.size ≤ 9223372036854775807) :
    Calls Try.prog 46 #[.string s] w fun e w' => e = .returned (.bool (decide (1 ≤ lenS s ∧ lenS s ≤ 12))) ∧ Below w.heap.size w w' := by
  have h1 := Lib.hid (len_any s w hs)
  obtain ⟨n, hn⟩ : ∃ n, lenS s = n := ⟨_, rfl⟩
  rw [hn] at h1 ⊢
  clear hn
  have hc : n < 1 ∨ (1 ≤ n ∧ n ≤ 12) ∨ (1 ≤ n ∧ 12 < n) := by omega
  rcases hc with h | ⟨h, h2⟩ | ⟨h, h2⟩
  · rw [decide_eq_false (by omega)]
    go_enter Try.func46, Try.ntmps46
    go_wp2_with fail
    refine h1.out.mono ?_
    rintro e w' ⟨rfl, hb⟩
    go_wp2_with fail
    go_ret
    exact ⟨rfl, hb⟩
  · rw [decide_eq_true (by omega)]
    have x1 : decide (n ≤ 12) = true := by simpa using h2
    go_enter Try.func46, Try.ntmps46
    go_wp2_with fail
    refine h1.out.mono ?_
    rintro e w' ⟨rfl, hb⟩
    go_wp2_with fail
    go_ret
    exact ⟨ret_bool (by simp [*]), hb⟩
  · rw [decide_eq_false (by omega)]
    have x1 : decide (n ≤ 12) = false := by simpa using h2
    go_enter Try.func46, Try.ntmps46
    go_wp2_with fail
    refine h1.out.mono ?_
    rintro e w' ⟨rfl, hb⟩
    go_wp2_with fail
    go_ret
    exact ⟨ret_bool (by simp [*]), hb⟩
end Go.Proofs.Ytioegheehodndaa
/- contract of list.Good -/
namespace Go.Proofs.Ytioegheehodndaa
open Go.RowKit
set_option linter.unusedVariables false
set_option maxRecDepth 20000
theorem goodV_long {ts : List Tx} (h : 60 < ts.length) : goodV ts = 3 := by unfold goodV; rw [if_pos h]
theorem goodV_word {ts : List Tx} (h : ts.length ≤ 60) (t : Tx) (ht : t ∈ ts) (hw : ¬ wordP t) : goodV ts = 6 := by
  unfold goodV; rw [if_neg (by omega), if_pos ⟨t, ht, hw⟩]
theorem goodV_sort {ts : List Tx} (h : ts.length ≤ 60) (hw : ∀ t ∈ ts, wordP t) (hs : ¬ SortedS ts) : goodV ts = 7 := by
  unfold goodV; rw [if_neg (by omega), if_neg (fun ⟨t, ht, k⟩ => k (hw t ht)), if_neg hs]
theorem goodV_good {ts : List Tx} (h : ts.length ≤ 60) (hw : ∀ t ∈ ts, wordP t) (hs : SortedS ts) : goodV ts = 0 := by
  unfold goodV; rw [if_neg (by omega), if_neg (fun ⟨t, ht, k⟩ => k (hw t ht)), if_pos hs]
theorem word_bool {w : World} (s : Tx) (b : Bool) (hs : s.size ≤ 9223372036854775807) (hb : decide (wordP s) = b) :
    Calls Try.prog 46 #[.string s] w fun e w' => e = .returned (.bool b) ∧ Below w.heap.size w w' := by subst hb; exact word_any s w hs
set_option maxHeartbeats 1600000 in
theorem good_any' (a : Option Addr) (n cap : Nat) (ts : List Tx) (w : World) (hh : HoldsT w a n ts) (hn : n ≤ 9223372036854775807) (hsz : ∀ t ∈ ts, t.size ≤ 9223372036854775807) :
    Calls Try.prog 30 #[.slice a n cap] w fun e w' => e = .returned (.int .i64 (goodV ts)) ∧ Below w.heap.size w w' := by
  have hl := hh.len
  by_cases h60 : n ≤ 60
  case neg =>
    rw [goodV_long (by omega)]
    go_enter Try.func30, Try.ntmps30
    go_wp2_with fail
    go_ret
    exact ⟨rfl, Below.refl _ _⟩
  go_enter Try.func30, Try.ntmps30
  go_wp2_with fail
  go_loopw [11] (fun iv wr => ∃ j : Nat, j ≤ n ∧ iv = .int .i64 j ∧ Hid (∀ t ∈ ts.take j, wordP t) ∧ Hid (Below w.heap.size w wr)) (fun iv _ => n - (intOf iv).toNat)
  case atStart => exact ⟨0, by omega, rfl, Lib.hid (by simp), Lib.hid (Below.refl _ _)⟩
  case round =>
    obtain ⟨j, hj, rfl, hS, hB⟩ := hrel
    by_cases hlt : j < n
    · obtain ⟨b, o, rfl, hc⟩ := (hh.below hB.out).at (by omega)
      have e1 := hc j hlt
      have hmem := getD_memT ts j (by omega)
      have htk := take_succ_getD ts ByteArray.empty j (by omega)
      obtain ⟨x, hx⟩ : ∃ x, ts.getD j ByteArray.empty = x := ⟨_, rfl⟩
      rw [hx] at e1 hmem htk
      have HX := Lib.hid (hsz x hmem)
      have HM := Lib.hid hmem; have HT := Lib.hid htk
      clear hx hmem htk hc
      by_cases hw : wordP x
      · have hb := decide_eq_true hw
        have HW := Lib.hid hw; have HD := Lib.hid hb
        clear hw hb
        go_wp2_with fail
        refine (word_bool x true HX.out HD.out).mono ?_
        rintro e w2 ⟨rfl, hb2⟩
        go_wp2_with fail
        go_roundw
        case rel => exact ⟨j + 1, by omega, by go_num, Lib.hid (by rw [HT.out]; intro z hz; rcases List.mem_append.1 hz with hz | hz; exact hS.out z hz; simp at hz; rw [hz]; exact HW.out), Lib.hid (hB.out.trans (hb2.mono hB.out.size))⟩
        case measure => simp [intOf]; omega
      · have hb := decide_eq_false hw
        have hg := goodV_word (by omega) x HM.out hw
        have HD := Lib.hid hb; have HG := Lib.hid hg
        clear hw hb hg
        go_wp2_with fail
        refine (word_bool x false HX.out HD.out).mono ?_
        rintro e w2 ⟨rfl, hb2⟩
        go_wp2_with fail
        go_ret
        exact ⟨ret_int HG.out.symm, hB.out.trans (hb2.mono hB.out.size)⟩
    · have hjn : ts.take j = ts := List.take_of_length_le (by omega)
      have hwd := hS.out
      rw [hjn] at hwd
      have HW := Lib.hid hwd
      have hB1 := hB
      clear hjn hwd hS hB
      go_wp2_with fail
      go_loopw [5] (fun iv wr2 => ∃ i : Nat, 1 ≤ i ∧ i ≤ n + 1 ∧ iv = .int .i64 i ∧ Hid (∀ k, k + 1 < i → k + 1 < n → cmpS (ts.getD k ByteArray.empty) (ts.getD (k + 1) ByteArray.empty) < 0) ∧ Hid (Below w.heap.size w wr2)) (fun iv _ => n + 1 - (intOf iv).toNat)
      case atStart => exact ⟨1, by omega, by omega, rfl, Lib.hid (fun k h1 => by omega), hB1⟩
      case round =>
        obtain ⟨i, hi1, hi2, rfl, hS, hB⟩ := hrel
        by_cases hlt2 : i < n
        · obtain ⟨b, o, rfl, hc⟩ := (hh.below hB.out).at (by omega)
          have e1 := hc i hlt2
          have e2 := hc (i - 1) (by omega)
          have hci := hS.out
          obtain ⟨q, rfl⟩ : ∃ q, i = q + 1 := ⟨i - 1, by omega⟩
          simp only [Nat.add_sub_cancel] at e2
          obtain ⟨x, hx⟩ : ∃ x, ts.getD q ByteArray.empty = x := ⟨_, rfl⟩
          obtain ⟨y, hy⟩ : ∃ y, ts.getD (q + 1) ByteArray.empty = y := ⟨_, rfl⟩
          rw [hx] at e2; rw [hy] at e1
          have HX := Lib.hid hx; have HY := Lib.hid hy
          clear hx hy hc hci
          have hcmp := Lib.hid (fun w => compare_any x y w)
          have hbd := cmpS_bd x y
          obtain ⟨v, hv⟩ : ∃ v, cmpS x y = v := ⟨_, rfl⟩
          rw [hv] at hbd
          simp only [hv] at hcmp
          have HV := Lib.hid hv
          clear hv
          have hr : IntKind.i64.wrap (((q + 1 : Nat) : Int) - 1) = (q : Int) := by rw [IntWalk.i64_in _ (by omega)]; omega
          have hr2 : ((q + 1 : Nat) : Int) - 1 = (q : Int) := by omega
          have g1 : (q : Int) < (n : Int) := by omega
          have g2 : ((q + 1 : Nat) : Int) < (n : Int) := by omega
          by_cases hvn : v < 0
          · go_upto_region 12 with fail
            go_quiet ((go_at_call 47; exact Calls.quiet_of_same ((hcmp.out _).mono (fun _ _ h => ⟨h.1, h.2.symm⟩))))
            go_wp2_with fail
            go_roundw
            case rel =>
              refine ⟨q + 1 + 1, by omega, by omega, by go_num, Lib.hid (fun k h1 h2 => ?_), Lib.hid (hB.out.trans ((below_drewN _ _).mono hB.out.size))⟩
              by_cases hk : k = q
              · subst hk; rw [HX.out, HY.out, HV.out]; exact hvn
              · exact hS.out k (by omega) h2
            case measure => simp [intOf]; omega
          · have hg := goodV_sort (by omega) HW.out (fun hs => hvn (by have := (adj_iff ts).1 hs q (by omega); rw [HX.out, HY.out, HV.out] at this; exact this))
            have HG := Lib.hid hg
            clear hg
            go_upto_region 12 with fail
            go_quiet ((go_at_call 47; exact Calls.quiet_of_same ((hcmp.out _).mono (fun _ _ h => ⟨h.1, h.2.symm⟩))))
            go_wp2_with fail
            go_ret
            exact ⟨ret_int HG.out.symm, hB.out.trans ((below_drewN _ _).mono hB.out.size)⟩
        · have hg := goodV_good (by omega) HW.out ((adj_iff ts).2 fun k hk => hS.out k (by omega) (by omega))
          have HG := Lib.hid hg
          clear hg
          go_wp2_with fail
          go_ret
          exact ⟨ret_int HG.out.symm, hB.out⟩
end Go.Proofs.Ytioegheehodndaa
/- lists in one word -/
namespace Go.Proofs.Ytioegheehodndaa
open Go.RowKit
set_option linter.unusedVariables false
set_option maxRecDepth 20000
def Lst (w : World) (a : Option Addr) (n c : Nat) (ts : List Tx) : Prop := HoldsT w a n ts ∧ (a = none → n = 0 ∧ c = 0) ∧ n ≤ c
theorem Lst.below {w w' : World} {a : Option Addr} {n c : Nat} {ts : List Tx} (h : Lst w a n c ts) (hb : Below w.heap.size w w') : Lst w' a n c ts := ⟨h.1.below hb, h.2⟩
theorem Lst.own {w : World} {B : Nat} {a : Option Addr} {n c : Nat} {ts : List Tx} (h : w.ownsRow B 9 1 (.slice a n c) n (strsV ts)) : Lst w a n c ts := ⟨HoldsT.own h, owns_none h⟩
theorem great_lit (a : Option Addr) (n cap : Nat) (ts : List Tx) (b : Bool) (w : World) (hh : HoldsT w a n ts) (hn : n ≤ 9223372036854775807) (hsz : ∀ t ∈ ts, t.size ≤ 9223372036854775807) (hb : greatB ts = b) :
    Calls Try.prog 11 #[.slice a n cap] w fun e w' => e = .returned (.bool b) ∧ Below w.heap.size w w' := by subst hb; exact great_any a n cap ts w hh hn hsz
theorem good_lit (a : Option Addr) (n cap : Nat) (ts : List Tx) (v : Int) (w : World) (hh : HoldsT w a n ts) (hn : n ≤ 9223372036854775807) (hsz : ∀ t ∈ ts, t.size ≤ 9223372036854775807) (hv : goodV ts = v) :
    Calls Try.prog 30 #[.slice a n cap] w fun e w' => e = .returned (.int .i64 v) ∧ Below w.heap.size w w' := by subst hv; exact good_any' a n cap ts w hh hn hsz
theorem merge_lst (a : Option Addr) (n c : Nat) (xs : List Tx) (a1 : Option Addr) (n1 c1 : Nat) (ys zs : List Tx) (k : Nat) (w : World) (h : Lst w a n c xs) (h1 : Lst w a1 n1 c1 ys) (hn : n ≤ 1000) (hn1 : n1 ≤ 1000) (hz : mergeL xs ys = zs) (hk : zs.length = k) :
    Calls Try.prog 35 #[.slice a n c, .slice a1 n1 c1] w fun e w' => ∃ a' c', e = .returned (.slice a' k c') ∧ w'.ownsRow w.heap.size 9 1 (.slice a' k c') k (strsV zs) ∧ Below w.heap.size w w' := by
  subst hz hk
  exact (merge_any a n c xs a1 n1 c1 ys w h.1 h.2.1 h.2.2 h1.1 h1.2.1 h1.2.2 hn hn1).mono fun _ _ ⟨a', c', h1, h2, h3⟩ => ⟨a', c', h1, h2, h3⟩
theorem without_lst (a : Option Addr) (n c : Nat) (xs : List Tx) (a1 : Option Addr) (n1 c1 : Nat) (ys zs : List Tx) (k : Nat) (w : World) (h : Lst w a n c xs) (h1 : Lst w a1 n1 c1 ys) (hn : n ≤ 1000) (hn1 : n1 ≤ 1000) (hs : SortedS ys) (hz : lessOf xs ys = zs) (hk : zs.length = k) :
    Calls Try.prog 34 #[.slice a n c, .slice a1 n1 c1] w fun e w' => ∃ a' c', e = .returned (.slice a' k c') ∧ w'.ownsRow w.heap.size 9 1 (.slice a' k c') k (strsV zs) ∧ Below w.heap.size w w' := by
  subst hz hk
  exact (without_any a n c xs a1 n1 c1 ys w h.1 h1.1 hn hn1 hs).mono fun _ _ ⟨a', c', h1, h2, h3⟩ => ⟨a', c', h1, h2, h3⟩
theorem holdsT_lit (w : World) (ts : List Tx) (e : TypeId) (fr : Nat × Nat) : HoldsT (w.alloc (.cells (strsV ts).toArray e fr)) (some ⟨w.heap.size, 0, none⟩) ts.length ts := by
  refine ⟨by simp [strsV], fun _ => ⟨w.heap.size, 0, rfl, fun i hi => ?_⟩⟩
  rw [Nat.zero_add, World.cell?_alloc_mark]
  simp [strsV, List.getD_eq_getElem?_getD, hi]
end Go.Proofs.Ytioegheehodndaa
/- append at one operation of a region that draws -/
namespace Go.Proofs.Ytioegheehodndaa
open Go.RowKit
set_option linter.unusedVariables false
set_option maxRecDepth 20000
/-- 'append(v, x...)' at one operation, x whatever slice (nil too): the value is a slice of the call's own -/
theorem wp_append_opt {P : Program} {w : World} {o : Oper} {a : Act} {K : Act → World → Prop} {Q : Exit → Act → World → Prop} (s x : Operand) (t : TypeId)
    (ho : o.op = .call { callee := .builtin .append, args := #[s, x], argTypes := #[t, t] })
    (base : Nat) (e : TypeId) (i : TypeInfo) (z : Value) (size bytes : Nat) (ht : P.underlying t = some (.slice e)) (hi : P.info? e = some i) (hz : i.zero = some z)
    (hsize : i.size = size) (hby : i.bytes = bytes) (hzs : z.cells.size = size) (hsz : 0 < size)
    (v : Value) (n : Nat) (xs : List Value) (hs : a.eval s = v) (hown : w.ownsRow base e size v n xs)
    (ao : Option Addr) (m c : Nat) (news : List Value) (hx : a.eval x = .slice ao m c) (hnone : ao = none → m = 0 ∧ c = 0) (hl : news.length = m * size)
    (hnews : ∀ ad, ao = some ad → ∀ j u, news[j]? = some u → w.cell? (ad.add j) = some u) (h1 : ∀ u ∈ news, u.oneCell' = true)
    (h63 : n + m ≤ maxLen) (hbytes : (n + m) * bytes ≤ 140737488355328) (hbase : base ≤ w.heap.size)
    (h : ∀ a' c' w', w'.ownsRow base e size (.slice a' (n + m) c') (n + m) (xs ++ news) → Below base w w' → K (a.put o.dst (.slice a' (n + m) c')) w') : o.wp P a w K Q := by
  have fin : ∀ v' w', w'.ownsRow base e size v' (n + m) (xs ++ news) → Below base w w' → K (a.put o.dst v') w' := by
    intro v' w' ho' hb'
    rcases Joins.ownsRow_forms ho' with ⟨rfl, h0⟩ | ⟨g, cap, rfl⟩
    · have := h none 0 w' (by rw [h0] at ho' ⊢; exact ho') hb'
      rw [h0] at this
      exact this
    · exact h _ _ w' ho' hb'
  cases ao with
  | some ad =>
    refine wp_append_own w s x t ho base e i z size bytes ht hi hz hsize hby hzs hsz v n xs hs hown ad m c news hx hl (hnews ad rfl) h1 h63 hbytes hbase fun v' w' h2 h3 _ => ?_
    exact fin v' w' h2 ((Below.refl base w).grown h3 hbase fun k hk => (hown.lt k hk).1)
  | none =>
    obtain ⟨rfl, rfl⟩ := hnone rfl
    have hn : news = [] := List.eq_nil_of_length_eq_zero (by simpa using hl)
    subst hn
    have hr := run_append_owned_none w base t o.type e i size ht hi v n xs hown
    unfold Oper.wp execOp
    simp only [ho, resolve, invoke, builtin, Sem.run_bind, Sem.run_pure, Result.andThen_ok, List.map_toArray, List.map_cons, List.map_nil, hs, hx, hr]
    exact fin v w (by simpa using hown) (Below.refl _ _)
/-- the first append of a row: onto nil -/
theorem wp_append_first {P : Program} {w : World} {o : Oper} {a : Act} {K : Act → World → Prop} {Q : Exit → Act → World → Prop} (s x : Operand) (t : TypeId)
    (ho : o.op = .call { callee := .builtin .append, args := #[s, x], argTypes := #[t, t] })
    (e : TypeId) (i : TypeInfo) (z : Value) (size bytes : Nat) (ht : P.underlying t = some (.slice e)) (hi : P.info? e = some i) (hz : i.zero = some z)
    (hsize : i.size = size) (hby : i.bytes = bytes) (hzs : z.cells.size = size) (hsz : 0 < size)
    (hs : a.eval s = .slice none 0 0)
    (ao : Option Addr) (m c : Nat) (news : List Value) (hx : a.eval x = .slice ao m c) (hnone : ao = none → m = 0 ∧ c = 0) (hl : news.length = m * size)
    (hnews : ∀ ad, ao = some ad → ∀ j u, news[j]? = some u → w.cell? (ad.add j) = some u) (h1 : ∀ u ∈ news, u.oneCell' = true)
    (h63 : m ≤ maxLen) (hbytes : m * bytes ≤ 140737488355328)
    (h : ∀ a' c' w', w'.ownsRow w.heap.size e size (.slice a' m c') m news → Below w.heap.size w w' → K (a.put o.dst (.slice a' m c')) w') : o.wp P a w K Q := by
  refine wp_append_opt s x t ho w.heap.size e i z size bytes ht hi hz hsize hby hzs hsz (.slice none 0 0) 0 [] hs (World.ownsRow_nil _ _ _ _) ao m c news hx hnone hl hnews h1 (by omega) (by rw [Nat.zero_add]; exact hbytes) (Nat.le_refl _) ?_
  intro a' c' w' h2 h3
  rw [Nat.zero_add] at h2 ⊢
  exact h a' c' w' h2 h3
/-- 'append(v, x...)' at one operation, the sum of the lengths by a name of its own -/
theorem wp_append_n {P : Program} {w : World} {o : Oper} {a : Act} {K : Act → World → Prop} {Q : Exit → Act → World → Prop} (s x : Operand) (t : TypeId)
    (ho : o.op = .call { callee := .builtin .append, args := #[s, x], argTypes := #[t, t] })
    (base : Nat) (e : TypeId) (i : TypeInfo) (z : Value) (size bytes : Nat) (ht : P.underlying t = some (.slice e)) (hi : P.info? e = some i) (hz : i.zero = some z)
    (hsize : i.size = size) (hby : i.bytes = bytes) (hzs : z.cells.size = size) (hsz : 0 < size)
    (v : Value) (n : Nat) (xs : List Value) (hs : a.eval s = v) (hown : w.ownsRow base e size v n xs)
    (ao : Option Addr) (m c : Nat) (news : List Value) (hx : a.eval x = .slice ao m c) (hnone : ao = none → m = 0 ∧ c = 0) (hl : news.length = m * size)
    (hnews : ∀ ad, ao = some ad → ∀ j u, news[j]? = some u → w.cell? (ad.add j) = some u) (h1 : ∀ u ∈ news, u.oneCell' = true) (N : Nat) (hN : n + m = N)
    (h63 : N ≤ maxLen) (hbytes : N * bytes ≤ 140737488355328) (hbase : base ≤ w.heap.size)
    (h : ∀ a' c' w', w'.ownsRow base e size (.slice a' N c') N (xs ++ news) → Below base w w' → K (a.put o.dst (.slice a' N c')) w') : o.wp P a w K Q := by
  subst hN
  exact wp_append_opt s x t ho base e i z size bytes ht hi hz hsize hby hzs hsz v n xs hs hown ao m c news hx hnone hl hnews h1 h63 hbytes hbase h
end Go.Proofs.Ytioegheehodndaa
