/- texts joined -/
import Derived.WalkKit
import Derived.ProofKit
import Derived.OpenShut
import Derived.Lib.SmallJoins
import Derived.Lib.Hide
import Derived.Test.YtgnaiahnednllaaGreatChecked
import Derived.Maps.OwnSet
import Derived.WalkArith
import Derived.Carry
import Derived.OwnWalk
import Derived.Laws.AppendOwnNone
import Derived.Lib.SliceRun
import Derived.Deep.RegionLaw
import Derived.Outline
import Derived.WalkLawsBesides
import Derived.WalkSpells
import Derived.Deep.QuietTactic
import Derived.BigQuiet
import Derived.Deep.DeepCutAuto
import Derived.Deep.RegionHeld3
import Derived.Deep.AppendLies
import Derived.Laws.ResultCell
import Derived.Laws.BitsAllLaws
import Derived.Laws.DeepBits32
import Derived.Sort.Walk0
import Derived.Laws.RangeAny
import Derived.Lib.DecodeN
import Derived.Lib.OthersKept
import Derived.Deep.Slices
import Derived.SliceStrings
import Derived.Deep.RegionWith
import Derived.Laws.AppendOwn
import Derived.StringKeys
import Derived.Laws.OwnMore
import Derived.DeepKeys4
import Derived.Lib.AppendStr
import Derived.Lib.Strings
import Derived.Lib.ConvBytes
import Derived.Laws.BytesArg
import Derived.Lib.SlBytesRow
import Derived.Shelf.Strings.Builder1
import Derived.Shelf.Strings.BuilderK
import Derived.Shelf.Strings.BuilderRune
import Derived.Shelf.Utf8.AppendRune
import Derived.Lib.RuneBytes
import Derived.BigRegion
import Derived.Deep.CutRange
import Derived.Deep.CutBlock
import Derived.RangeFuncNested
import Derived.RangeFuncBound
import Derived.RangeFuncCalls
import Derived.RangeFuncLeaves
import Derived.RangeFuncBox
import Derived.Shelf.Abstract
import Derived.Shelf.RegionOpen
import Derived.OwnWalkIn
import Derived.TacticsInMore
import Derived.LoopNIn
import Derived.LoopIn
import Derived.Test.YtgnaiahnednllaaGreatPkXC
namespace Go.Proofs.YtgnaiahnednllaaGreat
set_option linter.unusedVariables false
set_option maxRecDepth 20000
namespace Au
abbrev Ps := List (Int × Int)
/-- the row behind j runes of p, at most k + 1 each -/
def cap (q p : List Int) (k : Int) (j i : Nat) : Int := min (Ed.L q p i j) (k + 1)
def needP (C : Nat → Int) (n : Nat) (k : Int) (i : Nat) : Prop := C i ≤ k ∧ ¬ (0 < i ∧ C (i - 1) < C i) ∧ ¬ (i < n ∧ C (i + 1) < C i)
instance (C : Nat → Int) (n : Nat) (k : Int) (i : Nat) : Decidable (needP C n k i) := by unfold needP; infer_instance
/-- the positions below m that no other one makes needless -/
def needL (C : Nat → Int) (n : Nat) (k : Int) (m : Nat) : Ps := ((List.range m).filter fun (i : Nat) => decide (needP C n k i)).map fun (i : Nat) => ((i : Int), C i)
theorem needL_zero (C : Nat → Int) (n : Nat) (k : Int) : needL C n k 0 = [] := rfl
theorem needL_succ (C : Nat → Int) (n : Nat) (k : Int) (m : Nat) : needL C n k (m + 1) = needL C n k m ++ (if needP C n k m then [((m : Int), C m)] else []) := by
  unfold needL
  rw [List.range_succ, List.filter_append, List.map_append]
  congr 1
  by_cases h : needP C n k m <;> simp [h]
theorem needL_mem {C : Nat → Int} {n : Nat} {k : Int} {m : Nat} {x : Int × Int} (h : x ∈ needL C n k m) : ∃ i : Nat, i < m ∧ needP C n k i ∧ x = ((i : Int), C i) := by
  unfold needL at h
  obtain ⟨i, hi, rfl⟩ := List.mem_map.1 h
  have := List.mem_filter.1 hi
  exact ⟨i, List.mem_range.1 this.1, of_decide_eq_true this.2, rfl⟩
/-- rows that are alike up to k have the same positions -/
theorem needL_like {C D : Nat → Int} {n : Nat} {k : Int} (h : ∀ i, i ≤ n → min (C i) (k + 1) = min (D i) (k + 1)) : ∀ m, m ≤ n + 1 → needL C n k m = needL D n k m := by
  intro m
  induction m with
  | zero => intro _; rfl
  | succ m ih =>
    intro hm
    rw [needL_succ, needL_succ, ih (by omega)]
    congr 1
    have h0 := h m (by omega)
    have h1 : 0 < m → min (C (m - 1)) (k + 1) = min (D (m - 1)) (k + 1) := fun _ => h (m - 1) (by omega)
    have h2 : m < n → min (C (m + 1)) (k + 1) = min (D (m + 1)) (k + 1) := fun _ => h (m + 1) (by omega)
    by_cases hk : C m ≤ k
    · have e : C m = D m := by omega
      have hp : needP C n k m ↔ needP D n k m := by
        unfold needP
        rw [← e]
        constructor
        · rintro ⟨a, b, c⟩
          refine ⟨a, fun ⟨x, y⟩ => b ⟨x, ?_⟩, fun ⟨x, y⟩ => c ⟨x, ?_⟩⟩
          · have := h1 x; omega
          · have := h2 x; omega
        · rintro ⟨a, b, c⟩
          refine ⟨a, fun ⟨x, y⟩ => b ⟨x, ?_⟩, fun ⟨x, y⟩ => c ⟨x, ?_⟩⟩
          · have := h1 x; omega
          · have := h2 x; omega
      by_cases hc : needP C n k m
      · rw [if_pos hc, if_pos (hp.1 hc), e]
      · rw [if_neg hc, if_neg fun x => hc (hp.2 x)]
    · rw [if_neg fun x => hk x.1, if_neg fun x => hk (by have := x.1; omega)]
/-- neighbours differ by one at most -/
def Lip (C : Nat → Int) (n : Nat) : Prop := ∀ i, i < n → C (i + 1) ≤ C i + 1 ∧ C i ≤ C (i + 1) + 1
theorem cap_bd (q p : List Int) (k : Int) (hk : 0 ≤ k) (j i : Nat) : 0 ≤ cap q p k j i ∧ cap q p k j i ≤ k + 1 := by
  unfold cap; have := Ed.L_bd q p i j; omega
theorem L_backA (a b : List Int) (i j : Nat) : Ed.L a b i j ≤ Ed.L a b (i + 1) j + 1 := by
  have h : ∀ j i, Ed.L a b i j ≤ Ed.L a b (i + 1) j + 1 := by
    intro j
    induction j with
    | zero => intro i; rw [Ed.L_zero, Ed.L_zero]; omega
    | succ j ih =>
      intro i
      have e : Ed.L a b (i + 1) (j + 1) = min (min (Ed.L a b i j + Ed.cost (a.getD i 0) (b.getD j 0)) (Ed.L a b (i + 1) j + 1)) (Ed.L a b i (j + 1) + 1) := by simp only [Ed.L]
      have h1 := ih i
      have h2 := Ed.L_right a b i j
      have h3 := Ed.cost_bd (a.getD i 0) (b.getD j 0)
      omega
  exact h j i
theorem cap_lip (q p : List Int) (k : Int) (j n : Nat) : Lip (cap q p k j) n := by
  intro i _
  unfold cap
  have h1 := Ed.L_left q p i j
  have h2 := L_backA q p i j
  omega
def base (s : Ps) (k : Int) (i : Nat) : Int := s.foldl (fun d p => if p.1 = (i : Int) then min d p.2 else d) (k + 1)
theorem base_snoc (s : Ps) (x : Int × Int) (k : Int) (i : Nat) : base (s ++ [x]) k i = if x.1 = (i : Int) then min (base s k i) x.2 else base s k i := by simp [base, List.foldl_append]
theorem base_need (C : Nat → Int) (n : Nat) (k : Int) (i : Nat) : ∀ m, base (needL C n k m) k i = if i < m ∧ needP C n k i then C i else k + 1 := by
  intro m
  induction m with
  | zero => simp [needL_zero, base]
  | succ m ih =>
    rw [needL_succ]
    by_cases h : needP C n k m
    · rw [if_pos h, base_snoc, ih]
      by_cases e : m = i
      · subst e
        have := h.1
        rw [if_pos rfl, if_neg (by omega), if_pos ⟨by omega, h⟩]
        simp only
        omega
      · rw [if_neg (by simp only; omega)]
        by_cases hn : needP C n k i
        · by_cases hi : i < m
          · rw [if_pos ⟨hi, hn⟩, if_pos ⟨by omega, hn⟩]
          · rw [if_neg (fun x => hi x.1), if_neg (fun x => hi (by omega))]
        · rw [if_neg (fun x => hn x.2), if_neg (fun x => hn x.2)]
    · rw [if_neg h, List.append_nil, ih]
      by_cases hn : needP C n k i
      · have hne : i ≠ m := fun e => h (e ▸ hn)
        by_cases hi : i < m
        · rw [if_pos ⟨hi, hn⟩, if_pos ⟨by omega, hn⟩]
        · rw [if_neg (fun x => hi x.1), if_neg (fun x => by omega)]
      · rw [if_neg (fun x => hn x.2), if_neg (fun x => hn x.2)]
def fwd (b : Nat → Int) : Nat → Int
  | 0 => b 0
  | i + 1 => min (b (i + 1)) (fwd b i + 1)
/-- from the end, t steps back -/
def bwt (f : Nat → Int) (n : Nat) : Nat → Int
  | 0 => f n
  | t + 1 => min (f (n - (t + 1))) (bwt f n t + 1)
theorem fwd_le (b : Nat → Int) : ∀ i, fwd b i ≤ b i
  | 0 => Int.le_refl _
  | i + 1 => by simp only [fwd]; omega
theorem bwt_le (f : Nat → Int) (n : Nat) : ∀ t, bwt f n t ≤ f (n - t)
  | 0 => Int.le_refl _
  | t + 1 => by simp only [bwt]; omega
theorem fwd_ge {b C : Nat → Int} {n : Nat} (hl : Lip C n) (h : ∀ i, i ≤ n → C i ≤ b i) : ∀ i, i ≤ n → C i ≤ fwd b i := by
  intro i
  induction i with
  | zero => intro hi; exact h 0 hi
  | succ i ih =>
    intro hi
    have h1 := ih (by omega); have h2 := h (i + 1) hi; have h3 := hl i (by omega)
    simp only [fwd]; omega
theorem bwt_ge {f C : Nat → Int} {n : Nat} (hl : Lip C n) (h : ∀ i, i ≤ n → C i ≤ f i) : ∀ t, t ≤ n → C (n - t) ≤ bwt f n t := by
  intro t
  induction t with
  | zero => intro _; exact h n (Nat.le_refl _)
  | succ t ih =>
    intro ht
    have h1 := ih (by omega); have h2 := h (n - (t + 1)) (by omega); have h3 := hl (n - (t + 1)) (by omega)
    rw [show n - (t + 1) + 1 = n - t by omega] at h3
    simp only [bwt]; omega
def bs (C : Nat → Int) (n : Nat) (k : Int) (i : Nat) : Int := if needP C n k i then C i else k + 1
theorem fwd_left {C : Nat → Int} {n : Nat} {k : Int} (hl : Lip C n) (hc : ∀ i, i ≤ n → C i ≤ k + 1) : ∀ i, i < n → C i < C (i + 1) → fwd (bs C n k) i ≤ C i := by
  intro i
  induction i with
  | zero =>
    intro h h1
    have h2 := hc 1 h
    simp only [Nat.zero_add] at h1
    have : needP C n k 0 := ⟨by omega, by omega, fun x => by have := x.2; simp only [Nat.zero_add] at this; omega⟩
    have := fwd_le (bs C n k) 0
    simp only [bs, if_pos ‹needP C n k 0›] at this
    exact this
  | succ i ih =>
    intro h h1
    have h2 := hc (i + 1 + 1) h
    by_cases hp : needP C n k (i + 1)
    · have h3 := fwd_le (bs C n k) (i + 1)
      simp only [bs, if_pos hp] at h3
      exact h3
    · have h4 : C i < C (i + 1) := by
        rcases Int.lt_or_le (C i) (C (i + 1)) with x | x
        · exact x
        · exact absurd ⟨by omega, fun y => by have := y.2; rw [Nat.add_sub_cancel] at this; omega, fun y => by have := y.2; omega⟩ hp
      have h5 := ih (by omega) h4
      simp only [fwd]; omega
theorem bwt_right {C : Nat → Int} {n : Nat} {k : Int} (hl : Lip C n) (hc : ∀ i, i ≤ n → C i ≤ k + 1) : ∀ t, t < n → C (n - t) < C (n - t - 1) → bwt (fwd (bs C n k)) n t ≤ C (n - t) := by
  intro t
  induction t with
  | zero =>
    intro h h1
    have h2 := hc (n - 0 - 1) (by omega)
    have hp : needP C n k n := ⟨by simp only [Nat.sub_zero] at h1; have := hc (n - 1) (by omega); omega, fun x => by have := x.2; simp only [Nat.sub_zero] at h1; omega, by omega⟩
    have h3 := fwd_le (bs C n k) n
    simp only [bs, if_pos hp] at h3
    simp only [bwt, Nat.sub_zero]; exact h3
  | succ t ih =>
    intro h h1
    have h2 := hc (n - (t + 1) - 1) (by omega)
    by_cases hp : needP C n k (n - (t + 1))
    · have h3 := fwd_le (bs C n k) (n - (t + 1))
      have h4 := bwt_le (fwd (bs C n k)) n (t + 1)
      simp only [bs, if_pos hp] at h3
      omega
    · have h4 : C (n - t) < C (n - t - 1) := by
        rw [show n - t - 1 = n - (t + 1) by omega]
        rcases Int.lt_or_le (C (n - t)) (C (n - (t + 1))) with x | x
        · exact x
        · refine absurd ⟨by omega, fun y => by have := y.2; omega, fun y => by have := y.2; rw [show n - (t + 1) + 1 = n - t by omega] at this; omega⟩ hp
      have h5 := ih (by omega) h4
      have h6 : C (n - t) + 1 ≤ C (n - (t + 1)) := by rw [show n - t - 1 = n - (t + 1) by omega] at h4; omega
      simp only [bwt]; omega
/-- what is spread out of a row's positions is the row -/
theorem spread_same {C : Nat → Int} {n : Nat} {k : Int} (hl : Lip C n) (hc : ∀ i, i ≤ n → C i ≤ k + 1) : ∀ t, t ≤ n → bwt (fwd (bs C n k)) n t = C (n - t) := by
  intro t ht
  have hb : ∀ i, i ≤ n → C i ≤ bs C n k i := fun i hi => by unfold bs; split; exact Int.le_refl _; exact hc i hi
  have hge := bwt_ge hl (fwd_ge hl hb) t ht
  have hle := bwt_le (fwd (bs C n k)) n t
  have hle2 := fwd_le (bs C n k) (n - t)
  obtain ⟨i, hi⟩ : ∃ i, n - t = i := ⟨_, rfl⟩
  rw [hi] at hge hle hle2 ⊢
  have hin : i ≤ n := by omega
  by_cases hk : C i ≤ k
  · by_cases hp : needP C n k i
    · simp only [bs, if_pos hp] at hle2; omega
    · by_cases h1 : 0 < i ∧ C (i - 1) < C i
      · obtain ⟨j, rfl⟩ : ∃ j, i = j + 1 := ⟨i - 1, by omega⟩
        have h2 := h1.2
        rw [Nat.add_sub_cancel] at h2
        have h3 := fwd_left hl hc j (by omega) h2
        have h4 : fwd (bs C n k) (j + 1) ≤ fwd (bs C n k) j + 1 := by simp only [fwd]; omega
        omega
      · have h2 : i < n ∧ C (i + 1) < C i := by
          by_cases x : i < n ∧ C (i + 1) < C i
          · exact x
          · exact absurd ⟨hk, h1, x⟩ hp
        obtain ⟨u, rfl⟩ : ∃ u, t = u + 1 := ⟨t - 1, by omega⟩
        have h3 := bwt_right hl hc u (by omega) (by rw [show n - u = i + 1 by omega, Nat.add_sub_cancel]; exact h2.2)
        rw [show n - u = i + 1 by omega] at h3
        simp only [bwt] at hge ⊢
        omega
  · have : bs C n k i ≤ k + 1 := by unfold bs; split; exact hc i hin; exact Int.le_refl _
    have := hc i hin
    omega
theorem adv_cap {q p : List Int} {k : Int} {j : Nat} {R : List Int} (hk : 0 ≤ k) (hR : ∀ i, i ≤ q.length → R.getD i 0 = cap q p k j i) : ∀ i, i ≤ q.length → min (Ed.adv R q (p.getD j 0) i) (k + 1) = cap q p k (j + 1) i := by
  intro i
  induction i with
  | zero =>
    intro hi
    rw [Ed.adv, hR 0 hi]
    unfold cap
    rw [Ed.L_zeroL, Ed.L_zeroL]; omega
  | succ i ih =>
    intro hi
    have h1 := ih (by omega)
    rw [Ed.adv, hR i (by omega), hR (i + 1) hi]
    have e : Ed.L q p (i + 1) (j + 1) = min (min (Ed.L q p i j + Ed.cost (q.getD i 0) (p.getD j 0)) (Ed.L q p (i + 1) j + 1)) (Ed.L q p i (j + 1) + 1) := by simp only [Ed.L]
    have h3 := Ed.cost_bd (q.getD i 0) (p.getD j 0)
    unfold cap at h1 ⊢
    rw [e]
    omega
def dmin (s : Ps) (n : Nat) (k : Int) : Int := s.foldl (fun d p => min d (p.2 + n - p.1)) (k + 1)
theorem dmin_snoc (s : Ps) (x : Int × Int) (n : Nat) (k : Int) : dmin (s ++ [x]) n k = min (dmin s n k) (x.2 + n - x.1) := by simp [dmin, List.foldl_append]
theorem dmin_fwd {C : Nat → Int} {n : Nat} {k : Int} : ∀ i, i ≤ n → dmin (needL C n k (i + 1)) n k = min (fwd (bs C n k) i + ((n : Int) - i)) (k + 1) := by
  intro i
  induction i with
  | zero =>
    intro _
    rw [needL_succ, needL_zero, List.nil_append]
    simp only [fwd, bs]
    by_cases h : needP C n k 0
    · simp only [if_pos h, dmin, List.foldl_cons, List.foldl_nil]; omega
    · simp only [if_neg h, dmin, List.foldl_nil]; omega
  | succ i ih =>
    intro hi
    have h1 := ih (by omega)
    rw [needL_succ]
    simp only [fwd]
    by_cases h : needP C n k (i + 1)
    · rw [if_pos h, dmin_snoc, h1]
      have : bs C n k (i + 1) = C (i + 1) := by simp only [bs, if_pos h]
      rw [this]; simp only; omega
    · rw [if_neg h, List.append_nil, h1]
      have : bs C n k (i + 1) = k + 1 := by simp only [bs, if_neg h]
      rw [this]; omega
theorem dmin_whole {C : Nat → Int} {n : Nat} {k : Int} (hl : Lip C n) (hc : ∀ i, i ≤ n → C i ≤ k + 1) : dmin (needL C n k (n + 1)) n k = C n := by
  rw [dmin_fwd n (Nat.le_refl _)]
  have h := spread_same hl hc 0 (by omega)
  simp only [bwt, Nat.sub_zero] at h
  have := hc n (Nat.le_refl _)
  rw [h]; omega
theorem need_low {q p : List Int} {k : Int} {j i : Nat} (h : needP (cap q p k j) q.length k i) : (i : Int) - j ≤ cap q p k j i ∧ (j : Int) - i ≤ cap q p k j i ∧ cap q p k j i ≤ k := by
  have h1 := Ed.L_low q p i j
  have h2 := h.1
  unfold cap at h2 ⊢
  omega
theorem range_between (lo hi : Nat) (P : Nat → Bool) (hP : ∀ i, P i = true → lo ≤ i ∧ i < hi) : ∀ m, ((List.range m).filter P).length ≤ min m hi - lo := by
  intro m
  induction m with
  | zero => simp
  | succ m ih =>
    rw [List.range_succ, List.filter_append, List.length_append]
    by_cases h : P m = true
    · have := hP m h
      simp [h]; omega
    · simp [h]; omega
theorem need_len {q p : List Int} {k : Int} {j : Nat} (hk : 0 ≤ k) (m : Nat) : ((needL (cap q p k j) q.length k m).length : Int) ≤ 2 * k + 1 := by
  unfold needL
  rw [List.length_map]
  obtain ⟨K, rfl⟩ : ∃ K : Nat, k = (K : Int) := ⟨k.toNat, by omega⟩
  have := range_between (j - K) (j + K + 1) (fun i => decide (needP (cap q p K j) q.length K i)) (fun i h => by
    have := need_low (of_decide_eq_true h); omega) m
  omega
end Au
end Go.Proofs.YtgnaiahnednllaaGreat
namespace Go.Proofs.YtgnaiahnednllaaGreat
open Go.RowKit
set_option linter.unusedVariables false
set_option maxRecDepth 20000
def lowV (x n : Int) : Int := IntKind.u64.wrap x % n
theorem low_bd (x n : Int) (h : 0 < n) : 0 ≤ lowV x n ∧ lowV x n < n := ⟨Int.emod_nonneg _ (by omega), Int.emod_lt_of_pos _ h⟩
theorem u64_in (n : Int) (h : 0 ≤ n) (h2 : n < 18446744073709551616) : IntKind.u64.wrap n = n := by
  simp only [IntKind.wrap, IntKind.signed, IntKind.bits]; simp; omega
theorem u64_bdL (d : Int) : 0 ≤ IntKind.u64.wrap d ∧ IntKind.u64.wrap d < 18446744073709551616 := by
  simp only [IntKind.wrap, IntKind.signed, IntKind.bits]; simp; omega
theorem low_any (x n : Int) (h : 1 ≤ n) (h2 : n < 4611686018427387904) (w : World) :
    Calls Tryz.prog 41 #[.int .i64 x, .int .i64 n] w fun e w' => e = .returned (.int .i64 (lowV x n)) ∧ w = w' := by
  have hb := low_bd x n (by omega)
  have hw := u64_in n (by omega) (by omega)
  have hx := u64_bdL x
  go_enter Tryz.func41, Tryz.ntmps41
  go_wp2
  go_ret
  exact ⟨ret_int (by unfold lowV at *; rw [IntWalk.wrap64_in _ ⟨by omega, by omega⟩]), rfl⟩
end Go.Proofs.YtgnaiahnednllaaGreat
namespace Go.Proofs.YtgnaiahnednllaaGreat
open Go.RowKit
set_option linter.unusedVariables false
set_option maxRecDepth 20000
abbrev PV := Int × Int
def p0 : PV := (0, 0)
def HoldsP (w : World) (a : Option Addr) (n : Nat) (ks : List PV) : Prop := ks.length = n ∧ (0 < n → ∃ b o, a = some ⟨b, o, none⟩ ∧ ∀ i, i < n → w.cell? ⟨b, o + i * 2, none⟩ = some (.int .i64 (ks.getD i p0).1) ∧ w.cell? ⟨b, o + i * 2 + 1, none⟩ = some (.int .i64 (ks.getD i p0).2))
theorem HoldsP.len {w : World} {a : Option Addr} {n : Nat} {ks : List PV} (h : HoldsP w a n ks) : ks.length = n := h.1
theorem HoldsP.at {w : World} {a : Option Addr} {n : Nat} {ks : List PV} (h : HoldsP w a n ks) (h0 : 0 < n) : ∃ b o, a = some ⟨b, o, none⟩ ∧ ∀ i, i < n → w.cell? ⟨b, o + i * 2, none⟩ = some (.int .i64 (ks.getD i p0).1) ∧ w.cell? ⟨b, o + i * 2 + 1, none⟩ = some (.int .i64 (ks.getD i p0).2) := h.2 h0
theorem HoldsP.below {w w' : World} {a : Option Addr} {n : Nat} {ks : List PV} (h : HoldsP w a n ks) (hb : Below w.heap.size w w') : HoldsP w' a n ks := by
  refine ⟨h.1, fun h0 => ?_⟩
  obtain ⟨b, o, ha, hc⟩ := h.2 h0
  have hlt := lt_of_cell (hc 0 h0).1
  refine ⟨b, o, ha, fun i hi => ?_⟩
  rw [hb.cell (p := ⟨b, o + i * 2, none⟩) hlt, hb.cell (p := ⟨b, o + i * 2 + 1, none⟩) hlt]
  exact hc i hi
theorem getD_memP (zs : List PV) (j : Nat) (h : j < zs.length) : zs.getD j p0 ∈ zs := by
  rw [List.getD_eq_getElem?_getD, List.getElem?_eq_getElem h]; simp
def posV : List PV → List Value
  | [] => []
  | k :: ks => .int .i64 k.1 :: .int .i64 k.2 :: posV ks
theorem posV_len : ∀ ks : List PV, (posV ks).length = ks.length * 2
  | [] => rfl
  | k :: ks => by simp [posV, posV_len ks]; omega
theorem posV_app : ∀ ks ls : List PV, posV (ks ++ ls) = posV ks ++ posV ls
  | [], ls => rfl
  | k :: ks, ls => by simp [posV, posV_app ks ls]
theorem posV_at : ∀ (ks : List PV) (i : Nat), i < ks.length → (posV ks)[i * 2]? = some (.int .i64 (ks.getD i p0).1) ∧ (posV ks)[i * 2 + 1]? = some (.int .i64 (ks.getD i p0).2)
  | [], i, h => by simp at h
  | k :: ks, 0, _ => by simp [posV]
  | k :: ks, i + 1, h => by
    have ih := posV_at ks i (by simpa using h)
    have e1 : (i + 1) * 2 = i * 2 + 1 + 1 := by omega
    rw [e1]
    simpa [posV] using ih
theorem HoldsP.own {w : World} {B : Nat} {e : TypeId} {a : Option Addr} {n c : Nat} {ks : List PV} (h : w.ownsRow B e 2 (.slice a n c) n (posV ks)) : HoldsP w a n ks := by
  have hl : ks.length = n := by have := h.1; rw [posV_len] at this; omega
  refine ⟨hl, fun h0 => ?_⟩
  rcases h.2 with ⟨_, h1⟩ | ⟨g, cap, cur, hv, _, hh, hc, _, hs, hx⟩
  · omega
  · simp only [Value.slice.injEq] at hv
    obtain ⟨rfl, _, rfl⟩ := hv
    refine ⟨g, 0, rfl, fun i hi => ?_⟩
    obtain ⟨v1, v2⟩ := posV_at ks i (by omega)
    rw [← hx] at v1 v2
    rw [List.getElem?_take_of_lt (by omega)] at v1 v2
    rw [Array.getElem?_toList] at v1 v2
    rw [Nat.zero_add, Joins.cell_of_block hh, Joins.cell_of_block hh]
    exact ⟨v1, v2⟩
theorem posV_snoc (ks : List PV) (k : PV) : posV (ks ++ [k]) = posV ks ++ [.int .i64 k.1, .int .i64 k.2] := by rw [posV_app]; rfl
theorem pos_info : (Tryz.prog.info? 330).map (fun i => (i.zero, i.size, i.bytes)) = some (some (.agg #[.int .i64 0, .int .i64 0]), 2, 16) := by kernel_rfl
theorem two_newP (w : World) (u v : Value) (e : TypeId) (fr : Nat × Nat) : ∀ ad, (some ⟨w.heap.size, 0, none⟩ : Option Addr) = some ad → ∀ j x, [u, v][j]? = some x → (w.alloc (.cells #[u, v] e fr)).cell? (ad.add j) = some x := by
  intro ad h j x hx
  cases h
  rw [Go.WideShapes.add_plain, Nat.zero_add, World.cell?_alloc_mark]
  simpa using hx
theorem two_oneP (y z : Int) : ∀ u ∈ [Value.int .i64 y, Value.int .i64 z], u.oneCell' = true := by simp [Value.oneCell']
end Go.Proofs.YtgnaiahnednllaaGreat
namespace Go.Proofs.YtgnaiahnednllaaGreat
open Go.RowKit
set_option linter.unusedVariables false
set_option maxRecDepth 20000
def intsV (zs : List Int) : List Value := zs.map (Value.int .i64)
theorem int_info : (Tryz.prog.info? 3).map (fun i => (i.zero, i.size, i.bytes)) = some (some (.int .i64 0), 1, 8) := by kernel_rfl
theorem intsV_set (zs : List Int) (j : Nat) (x : Int) : (intsV zs).set j (.int .i64 x) = intsV (zs.set j x) := by simp [intsV, List.map_set]
theorem intsV_at (zs : List Int) (j : Nat) (h : j < zs.length) : (intsV zs)[j]? = some (.int .i64 (zs.getD j 0)) := by simp [intsV, List.getD_eq_getElem?_getD, h]
/-- the numbers from 0 on, the first k; 0 behind them -/
def upTo (n k : Nat) : List Int := (List.range n).map fun i => if i < k then (i : Int) else 0
theorem upTo_row (a b : List Int) : upTo (a.length + 1) (a.length + 1) = Ed.row a b 0 := by
  unfold upTo Ed.row
  refine List.map_congr_left fun i hi => ?_
  have := List.mem_range.1 hi
  rw [if_pos (by omega)]
  cases i with
  | zero => simp only [Ed.L]
  | succ i => simp only [Ed.L]; omega
end Go.Proofs.YtgnaiahnednllaaGreat
namespace Go.Proofs.YtgnaiahnednllaaGreat
open Go.RowKit
set_option linter.unusedVariables false
set_option maxRecDepth 20000
theorem permitted_lit (k : Int) (c : Bool) (w : World) (h : decide (0 ≤ k ∧ k ≤ 4) = c) :
    Calls Tryz.prog 241 #[.int .i64 k] w fun e w' => e = .returned (.bool c) ∧ w = w' := by
  subst h
  go_enter Tryz.func241, Tryz.ntmps241
  go_wp2
  all_goals (go_ret; exact ⟨ret_bool (by simp; try omega), rfl⟩)
theorem dead_any (a : Option Addr) (n c : Nat) (f : Bool) (w : World) (hn : n ≤ 9223372036854775807) (h : decide (n = 0) = f) :
    Calls Tryz.prog 220 #[.slice a n c] w fun e w' => e = .returned (.bool f) ∧ w = w' := by
  have x1 : ((n : Int) == 0) = f := by rw [← h]; by_cases e : n = 0 <;> simp [e]
  clear h
  go_enter Tryz.func220, Tryz.ntmps220
  go_wp2
  go_ret
  exact ⟨rfl, rfl⟩
/-- positions that were answered, the call's own -/
def RetP (w : World) (n : Nat) (ps : List PV) (e : Ending) (w' : World) : Prop := ∃ a c, e = .returned (.slice a n c) ∧ w'.ownsRow w.heap.size 330 2 (.slice a n c) n (posV ps) ∧ Below w.heap.size w w'
theorem retP_own {w w' : World} {a : Option Addr} {c n : Nat} {ys zs : List PV} (h : ys = zs) (hh : w'.ownsRow w.heap.size 330 2 (.slice a n c) n (posV ys)) (hb : Below w.heap.size w w') (v : Value) (hv : v = .slice a n c) : RetP w n zs (.returned v) w' := by
  subst h hv; exact ⟨a, c, rfl, hh, hb⟩
theorem start_yes (a : Option Addr) (n c : Nat) (k : Int) (w : World) (h : 0 ≤ k ∧ k ≤ 4) : Calls Tryz.prog 216 #[.slice a n c, .int .i64 k] w (RetP w 1 [(0, 0)]) := by
  have CP := Lib.hid (fun w => permitted_lit k true w (decide_eq_true h))
  go_enter Tryz.func216, Tryz.ntmps216
  go_wp2_with fail
  refine (CP.out _).mono ?_
  rintro e w' ⟨rfl, rfl⟩
  go_wp2_with fail
  go_ret
  exact retP_own (c := 1) rfl (World.ownsRow_lit w #[.int .i64 0, .int .i64 0] 1 (Nat.le_refl _) (by unfold maxLen; omega) rfl) (below_one _ _) _ rfl
theorem within_yes (x y : Int) (a : Option Addr) (n c : Nat) (k : Int) (w : World) (hx : 0 ≤ x ∧ x ≤ n) (hy : 0 ≤ y ∧ y ≤ k) (hn : n ≤ 9223372036854775807) :
    Calls Tryz.prog 242 #[.agg #[.int .i64 x, .int .i64 y], .slice a n c, .int .i64 k] w fun e w' => e = .returned (.bool true) ∧ Below w.heap.size w w' := by
  obtain ⟨h1, h2⟩ := hx
  obtain ⟨h3, h4⟩ := hy
  have hb := below_one w (.cells #[.int .i64 x, .int .i64 y] 330)
  have HB := Lib.hid hb
  clear hb
  go_enter Tryz.func242, Tryz.ntmps242
  go_wp2_with fail
  go_ret
  exact ⟨ret_bool (by simp <;> omega), HB.out⟩
set_option maxRecDepth 100000 in
set_option maxHeartbeats 6400000 in
theorem needed_any (a : Option Addr) (n cap L : Nat) (R : List Int) (k : Int) (ys : List PV) (w : World) (h : HoldsI .i64 w a (n + 1) R) (hb : ∀ i, 0 ≤ R.getD i 0 ∧ R.getD i 0 ≤ 4194304) (hk : 0 ≤ k ∧ k ≤ 4) (hn : n ≤ 1048576)
    (hy : Au.needL (fun i => R.getD i 0) n k (n + 1) = ys) (hL : ys.length = L) :
    Calls Tryz.prog 246 #[.slice a (n + 1) cap, .int .i64 k] w (RetP w L ys) := by
  obtain ⟨i0, hi, hz0, hz1, hz2⟩ := info_parts pos_info
  have H := Lib.hid h; have HB := Lib.hid hb; have HY := Lib.hid hy; have HL := Lib.hid hL
  obtain ⟨hk0, hk4⟩ := hk
  obtain ⟨N, hN⟩ : ∃ N, n + 1 = N := ⟨_, rfl⟩
  have HN := Lib.hid hN
  rw [hN]
  have hN2 : N ≤ 1048577 := by omega
  clear h hb hy hL hN
  go_enter Tryz.func246, Tryz.ntmps246
  go_wp2_with fail
  go_loopw [5, 10] (fun ov iv wr => ∃ (j : Nat) (P : List PV) (av : Option Addr) (cv : Nat), j ≤ N ∧ P.length ≤ j ∧ iv = .int .i64 j ∧ ov = .slice av P.length cv ∧ Hid (P = Au.needL (fun i => R.getD i 0) n k j) ∧ Hid (wr.ownsRow w.heap.size 330 2 (.slice av P.length cv) P.length (posV P)) ∧ Hid (Below w.heap.size w wr)) (fun _ iv _ => N - (intOf iv).toNat)
  case atStart => exact ⟨0, [], none, 0, by omega, by simp, rfl, rfl, Lib.hid rfl, Lib.hid (World.ownsRow_nil _ _ _ _), Lib.hid (Below.refl _ _)⟩
  case round =>
    obtain ⟨j, P, av, cv, hj, hPl, rfl, rfl, hP, hO, hB⟩ := hrel
    by_cases hlt : j < N
    · have Hr := H.out.below hB.out
      rw [HN.out] at Hr
      obtain ⟨bb, o, rfl, hc⟩ := Hr.at (by omega)
      have HC := Lib.hid hc
      have e0 := hc j hlt
      have SU := Lib.hid (Au.needL_succ (fun i => R.getD i 0) n k j)
      have bd := HB.out j
      have HNP := Lib.hid (show Au.needP (fun i => R.getD i 0) n k j ↔ R.getD j 0 ≤ k ∧ ¬ (0 < j ∧ R.getD (j - 1) 0 < R.getD j 0) ∧ ¬ (j < n ∧ R.getD (j + 1) 0 < R.getD j 0) from Iff.rfl)
      obtain ⟨d, hd⟩ : ∃ d, R.getD j 0 = d := ⟨_, rfl⟩
      simp only [hd] at SU HNP
      rw [hd] at e0 bd
      obtain ⟨bd0, bd1⟩ := bd
      have x1 : (0 : Int) ≤ (j : Int) := by omega
      have x2 : (j : Int) < (N : Int) := by omega
      clear hc hd Hr
      by_cases hdk : k < d
      · have hdk2 := hdk
        have hnp : ¬ Au.needP (fun i => R.getD i 0) n k j := fun h => by obtain ⟨h1, h2, h3⟩ := HNP.out.1 h; omega
        have hs := SU.out
        rw [if_neg hnp, List.append_nil, ← hP.out] at hs
        have HS := Lib.hid hs.symm
        clear hnp hs
        go_wp2_with fail
        go_roundw
        case rel => exact ⟨j + 1, P, av, cv, by omega, by omega, by go_num, rfl, HS, hO, hB⟩
        case measure => simp [intOf] <;> omega
      have hdk3 : d ≤ k := by omega
      clear hdk
      by_cases hj0 : j = 0
      · have hj0c := hj0
        subst hj0
        rw [Nat.add_zero] at e0
        have g0 : decide ((0 : Int) > 0) = false := by decide
        by_cases hjn : 0 < n
        · have hjn2 := hjn
          have e2 := HC.out (0 + 1) (by have := HN.out; omega)
          obtain ⟨y, hy⟩ : ∃ y, R.getD (0 + 1) 0 = y := ⟨_, rfl⟩
          rw [hy] at e2
          have bdy := HB.out (0 + 1)
          rw [hy] at bdy
          obtain ⟨by0, by1⟩ := bdy
          have HYY := Lib.hid hy
          have x5 : 0 + 1 < N := by have := HN.out; omega
          simp only [Nat.zero_add] at e2
          clear hy
          by_cases hyl : y < d
          · have hyl2 := hyl
            have hnp : ¬ Au.needP (fun i => R.getD i 0) n k 0 := fun h => by obtain ⟨h1, h2, h3⟩ := HNP.out.1 h; exact h3 ⟨hjn, by rw [HYY.out]; exact hyl⟩
            have hs := SU.out
            rw [if_neg hnp, List.append_nil, ← hP.out] at hs
            have HS := Lib.hid hs.symm
            clear hnp hs
            go_wp2_with fail
            go_roundw
            case rel => exact ⟨0 + 1, P, av, cv, by omega, by omega, by go_num, rfl, HS, hO, hB⟩
            case measure => simp [intOf] <;> omega
          · have x7 := hyl
            have hnp : Au.needP (fun i => R.getD i 0) n k 0 := HNP.out.2 ⟨by omega, fun h => absurd h.1 (by omega), fun h => by have := h.2; rw [HYY.out] at this; omega⟩
            have hs := SU.out
            rw [if_pos hnp, ← hP.out] at hs
            have HS := Lib.hid hs.symm
            clear hnp hs
            go_wp2_with (at_builtin; refine wpList_append_any rfl (.tmp 45) (.tmp 49) 290 rfl w.heap.size 330 i0 _ 2 16 Tryz.underlying290 hi hz0 hz1 hz2 rfl (by decide) _ P.length _ rfl (hO.out.alloc _) _ 1 1 [.int .i64 ((0 : Nat) : Int), .int .i64 d] rfl (some_none _) rfl (two_newP _ _ _ _ _) (two_oneP _ _) (by unfold maxLen; omega) (by omega) (by have := hB.out.size; simp; omega) ?_; intro a3 c3 w3 hown3 hb3 hnil3)
            have hown4 : w3.ownsRow w.heap.size 330 2 (.slice a3 (P.length + 1) c3) (P.length + 1) (posV (P ++ [(((0 : Nat) : Int), d)])) := by rw [posV_snoc]; exact hown3
            have O3 := Lib.hid hown4
            have B3 := Lib.hid ((hB.out.alloc hB.out.size _).trans hb3)
            clear hown3 hown4 hb3 hnil3
            go_roundw
            case rel => exact ⟨0 + 1, P ++ [(((0 : Nat) : Int), d)], a3, c3, by omega, by rw [List.length_append]; exact Nat.add_le_add_right hPl 1, by go_num, by simp, HS, Lib.hid (by have := O3.out; simpa using this), B3⟩
            case measure => simp [intOf] <;> omega
        · have hjn2 := hjn
          have x5 : ¬ (0 + 1 < N) := by have := HN.out; omega
          have hnp : Au.needP (fun i => R.getD i 0) n k 0 := HNP.out.2 ⟨by omega, fun h => absurd h.1 (by omega), fun h => hjn h.1⟩
          have hs := SU.out
          rw [if_pos hnp, ← hP.out] at hs
          have HS := Lib.hid hs.symm
          clear hnp hs
          go_wp2_with (at_builtin; refine wpList_append_any rfl (.tmp 45) (.tmp 49) 290 rfl w.heap.size 330 i0 _ 2 16 Tryz.underlying290 hi hz0 hz1 hz2 rfl (by decide) _ P.length _ rfl (hO.out.alloc _) _ 1 1 [.int .i64 ((0 : Nat) : Int), .int .i64 d] rfl (some_none _) rfl (two_newP _ _ _ _ _) (two_oneP _ _) (by unfold maxLen; omega) (by omega) (by have := hB.out.size; simp; omega) ?_; intro a3 c3 w3 hown3 hb3 hnil3)
          have hown4 : w3.ownsRow w.heap.size 330 2 (.slice a3 (P.length + 1) c3) (P.length + 1) (posV (P ++ [(((0 : Nat) : Int), d)])) := by rw [posV_snoc]; exact hown3
          have O3 := Lib.hid hown4
          have B3 := Lib.hid ((hB.out.alloc hB.out.size _).trans hb3)
          clear hown3 hown4 hb3 hnil3
          go_roundw
          case rel => exact ⟨0 + 1, P ++ [(((0 : Nat) : Int), d)], a3, c3, by omega, by rw [List.length_append]; exact Nat.add_le_add_right hPl 1, by go_num, by simp, HS, Lib.hid (by have := O3.out; simpa using this), B3⟩
          case measure => simp [intOf] <;> omega
      · have hj0c := hj0
        have g0 : 0 < j := by omega
        obtain ⟨q, hq⟩ : ∃ q : Nat, j - 1 = q := ⟨_, rfl⟩
        have e1 := HC.out q (by omega)
        obtain ⟨x, hx⟩ : ∃ x, R.getD q 0 = x := ⟨_, rfl⟩
        rw [hx] at e1
        have bdx := HB.out q
        rw [hx] at bdx
        obtain ⟨bx0, bx1⟩ := bdx
        have HXX := Lib.hid hx
        have HQQ := Lib.hid hq
        have hqi : (j : Int) - 1 = (q : Int) := by omega
        have x3 : (0 : Int) ≤ (q : Int) := by omega
        have x4 : (q : Int) < (N : Int) := by omega
        have x8 : q < N := by omega
        clear hx hq
        by_cases hxl : x < d
        · have hxl2 := hxl
          have hnp : ¬ Au.needP (fun i => R.getD i 0) n k j := fun h => by obtain ⟨h1, h2, h3⟩ := HNP.out.1 h; exact h2 ⟨g0, by rw [HQQ.out, HXX.out]; exact hxl⟩
          have hs := SU.out
          rw [if_neg hnp, List.append_nil, ← hP.out] at hs
          have HS := Lib.hid hs.symm
          clear hnp hs
          go_wp2_with fail
          go_roundw
          case rel => exact ⟨j + 1, P, av, cv, by omega, by omega, by go_num, rfl, HS, hO, hB⟩
          case measure => simp [intOf] <;> omega
        · have hxl2 := hxl
          by_cases hjn : j < n
          · have hjn2 := hjn
            have e2 := HC.out (j + 1) (by have := HN.out; omega)
            obtain ⟨y, hy⟩ : ∃ y, R.getD (j + 1) 0 = y := ⟨_, rfl⟩
            rw [hy] at e2
            have bdy := HB.out (j + 1)
            rw [hy] at bdy
            obtain ⟨by0, by1⟩ := bdy
            have HYY := Lib.hid hy
            have x5 : j + 1 < N := by have := HN.out; omega
            have x6 : (j : Int) + 1 < (N : Int) := by omega
            clear hy
            by_cases hyl : y < d
            · have hyl2 := hyl
              have hnp : ¬ Au.needP (fun i => R.getD i 0) n k j := fun h => by obtain ⟨h1, h2, h3⟩ := HNP.out.1 h; exact h3 ⟨hjn, by rw [HYY.out]; exact hyl⟩
              have hs := SU.out
              rw [if_neg hnp, List.append_nil, ← hP.out] at hs
              have HS := Lib.hid hs.symm
              clear hnp hs
              go_wp2_with fail
              go_roundw
              case rel => exact ⟨j + 1, P, av, cv, by omega, by omega, by go_num, rfl, HS, hO, hB⟩
              case measure => simp [intOf] <;> omega
            · have x7 := hyl
              have hnp : Au.needP (fun i => R.getD i 0) n k j := HNP.out.2 ⟨by omega, fun h => by have := h.2; rw [HQQ.out, HXX.out] at this; omega, fun h => by have := h.2; rw [HYY.out] at this; omega⟩
              have hs := SU.out
              rw [if_pos hnp, ← hP.out] at hs
              have HS := Lib.hid hs.symm
              clear hnp hs
              go_wp2_with (at_builtin; refine wpList_append_any rfl (.tmp 45) (.tmp 49) 290 rfl w.heap.size 330 i0 _ 2 16 Tryz.underlying290 hi hz0 hz1 hz2 rfl (by decide) _ P.length _ rfl (hO.out.alloc _) _ 1 1 [.int .i64 j, .int .i64 d] rfl (some_none _) rfl (two_newP _ _ _ _ _) (two_oneP _ _) (by unfold maxLen; omega) (by omega) (by have := hB.out.size; simp; omega) ?_; intro a3 c3 w3 hown3 hb3 hnil3)
              have hown4 : w3.ownsRow w.heap.size 330 2 (.slice a3 (P.length + 1) c3) (P.length + 1) (posV (P ++ [((j : Int), d)])) := by rw [posV_snoc]; exact hown3
              have O3 := Lib.hid hown4
              have B3 := Lib.hid ((hB.out.alloc hB.out.size _).trans hb3)
              clear hown3 hown4 hb3 hnil3
              go_roundw
              case rel => exact ⟨j + 1, P ++ [((j : Int), d)], a3, c3, by omega, by rw [List.length_append]; exact Nat.add_le_add_right hPl 1, by go_num, by simp, HS, Lib.hid (by have := O3.out; simpa using this), B3⟩
              case measure => simp [intOf] <;> omega
          · have hjn2 := hjn
            have x5 : ¬ (j + 1 < N) := by have := HN.out; omega
            have hnp : Au.needP (fun i => R.getD i 0) n k j := HNP.out.2 ⟨by omega, fun h => by have := h.2; rw [HQQ.out, HXX.out] at this; omega, fun h => hjn h.1⟩
            have hs := SU.out
            rw [if_pos hnp, ← hP.out] at hs
            have HS := Lib.hid hs.symm
            clear hnp hs
            go_wp2_with (at_builtin; refine wpList_append_any rfl (.tmp 45) (.tmp 49) 290 rfl w.heap.size 330 i0 _ 2 16 Tryz.underlying290 hi hz0 hz1 hz2 rfl (by decide) _ P.length _ rfl (hO.out.alloc _) _ 1 1 [.int .i64 j, .int .i64 d] rfl (some_none _) rfl (two_newP _ _ _ _ _) (two_oneP _ _) (by unfold maxLen; omega) (by omega) (by have := hB.out.size; simp; omega) ?_; intro a3 c3 w3 hown3 hb3 hnil3)
            have hown4 : w3.ownsRow w.heap.size 330 2 (.slice a3 (P.length + 1) c3) (P.length + 1) (posV (P ++ [((j : Int), d)])) := by rw [posV_snoc]; exact hown3
            have O3 := Lib.hid hown4
            have B3 := Lib.hid ((hB.out.alloc hB.out.size _).trans hb3)
            clear hown3 hown4 hb3 hnil3
            go_roundw
            case rel => exact ⟨j + 1, P ++ [((j : Int), d)], a3, c3, by omega, by rw [List.length_append]; exact Nat.add_le_add_right hPl 1, by go_num, by simp, HS, Lib.hid (by have := O3.out; simpa using this), B3⟩
            case measure => simp [intOf] <;> omega
    · obtain rfl : j = N := by omega
      have e := hP.out
      rw [← HN.out, HY.out] at e
      have hl : P.length = L := by rw [e]; exact HL.out
      have HE := Lib.hid e
      clear e
      rw [hl] at hO
      simp only [hl]
      clear hl
      go_wp2_with fail
      go_ret
      exact retP_own HE.out hO.out hB.out _ rfl
end Go.Proofs.YtgnaiahnednllaaGreat
namespace Go.Proofs.YtgnaiahnednllaaGreat
open Go.RowKit
set_option linter.unusedVariables false
set_option maxRecDepth 20000
theorem cost_eq (x : Int) : Ed.cost x x = 0 := by simp [Ed.cost]
theorem cost_ne {x y : Int} (h : x ≠ y) : Ed.cost x y = 1 := by simp [Ed.cost, h]
theorem store_grown (w : World) (g i : Nat) (v : Value) : w.grownBy (w.setCell ⟨g, i, none⟩ v) (some g) :=
  ⟨rfl, rfl, rfl, by simp [World.setCell], fun k _ hk => Below.heap_setCell _ _ _ _ (fun e => hk (by rw [e]))⟩
theorem grown_trans {a b c : World} {r : Option Nat} (h : a.grownBy b r) (k : b.grownBy c r) : a.grownBy c r :=
  ⟨k.os.trans h.os, k.tape.trans h.tape, k.output.trans h.output, Nat.le_trans h.size k.size, fun i hi hr => (k.block i (Nat.lt_of_lt_of_le hi h.size) hr).trans (h.block i hi hr)⟩
theorem own_val {w : World} {p : Addr} {base : Nat} {e : TypeId} {size : Nat} {v : Value} {n : Nat} {xs : List Value} {V x : Int} (h : (w.setCell p (.int .i64 V)).ownsRow base e size v n xs) (hx : x = V) : (w.setCell p (.int .i64 x)).ownsRow base e size v n xs := by
  rw [hx]; exact h
set_option maxHeartbeats 1600000 in
theorem advance_any (B g cap m : Nat) (R ra : List Int) (a : Option Addr) (acap : Nat) (r : Int) (w : World) (h : w.ownsRow B 3 1 (.slice (some ⟨g, 0, none⟩) (m + 1) cap) (m + 1) (intsV R))
    (ha : HoldsI .i32 w a m ra) (hne : ∀ b o, 0 < m → a = some ⟨b, o, none⟩ → b ≠ g) (hR : ∀ i, 0 ≤ R.getD i 0 ∧ R.getD i 0 ≤ 4194304) (hm : m ≤ 1048576) :
    Calls Tryz.prog 245 #[.slice (some ⟨g, 0, none⟩) (m + 1) cap, .slice a m acap, .int .i32 r] w fun e w' => e = .returned (.tuple #[]) ∧
      w'.ownsRow B 3 1 (.slice (some ⟨g, 0, none⟩) (m + 1) cap) (m + 1) (intsV (Ed.mix R ra r m)) ∧ w.grownBy w' (some g) := by
  have hlR : R.length = m + 1 := by have := h.1; simpa [intsV] using this
  have hla := ha.len
  have hbd := Ed.adv_bd R ra r 4194304 (by decide) hR
  have HR := Lib.hid hR; have HBD := Lib.hid hbd; have HLR := Lib.hid hlR; have HLA := Lib.hid hla; have HA := Lib.hid ha; have HNE := Lib.hid hne; have H := Lib.hid h
  have hc0 := h.cellAt 0 (by omega)
  rw [intsV_at _ 0 (by omega)] at hc0
  have hf0 := h.frozenAt 0
  have hs0 := (h.stored 0 (.int .i64 (R.getD 0 0 + 1))).1
  rw [intsV_set, Ed.mix_zero R ra r (by omega)] at hs0
  have HS0 := Lib.hid hs0
  have b0 := hR 0
  obtain ⟨x0, hx0⟩ : ∃ x, R.getD 0 0 = x := ⟨_, rfl⟩
  rw [hx0] at hc0 b0
  have HX0 := Lib.hid hx0
  clear hs0 hx0 hR hbd hlR hla ha hne h
  go_enter Tryz.func245, Tryz.ntmps245
  go_wp2
  go_loopw [6, 20] (fun ab i wr => ∃ k : Nat, k ≤ m ∧ i = .int .i64 k ∧ ab = .int .i64 (R.getD k 0) ∧ Hid (wr.ownsRow B 3 1 (.slice (some ⟨g, 0, none⟩) (m + 1) cap) (m + 1) (intsV (Ed.mix R ra r k))) ∧ Hid (w.grownBy wr (some g))) (fun _ i _ => m - (intOf i).toNat)
  case atStart => exact ⟨0, by omega, rfl, by rw [HX0.out], by rw [← HX0.out]; exact HS0, Lib.hid (store_grown w g 0 _)⟩
  case round =>
    obtain ⟨k, hk, rfl, rfl, hO, hG⟩ := hrel
    by_cases hlt : k < m
    · obtain ⟨ba, oa, rfl, hca⟩ := HA.out.at (by omega)
      have hbg : ba ≠ g := HNE.out ba oa (by omega) rfl
      have e1 := hca k hlt
      have hba := lt_of_cell e1
      have ea : wr.cell? ⟨ba, oa + k, none⟩ = some (.int .i32 (ra.getD k 0)) := by
        rw [World.cell?_of_block (w := w) (hG.out.block ba hba (by intro e; injection e with e; exact hbg e))]; exact e1
      have hk1 := hO.out.cellAt (k + 1) (by omega)
      rw [intsV_at _ (k + 1) (by rw [Ed.mix_length, HLR.out]; omega), Ed.mix_old R ra r k (k + 1) (by rw [HLR.out]; omega) (by omega)] at hk1
      have hk0 := hO.out.cellAt k (by omega)
      rw [intsV_at _ k (by rw [Ed.mix_length, HLR.out]; omega), Ed.mix_new R ra r k k (by rw [HLR.out]; omega) (by omega)] at hk0
      have hf1 := hO.out.frozenAt (k + 1)
      have hst := (hO.out.stored (k + 1) (.int .i64 (Ed.adv R ra r (k + 1)))).1
      rw [intsV_set, Ed.mix_set R ra r k (by rw [HLR.out]; omega)] at hst
      have hadv : Ed.adv R ra r (k + 1) = min (min (R.getD k 0 + Ed.cost (ra.getD k 0) r) (R.getD (k + 1) 0 + 1)) (Ed.adv R ra r k + 1) := rfl
      have q0 := HR.out k; have q1 := HR.out (k + 1); have q2 := HBD.out k
      have HST := Lib.hid hst
      obtain ⟨V, hV⟩ : ∃ V, Ed.adv R ra r (k + 1) = V := ⟨_, rfl⟩
      obtain ⟨c, hc⟩ : ∃ c, ra.getD k 0 = c := ⟨_, rfl⟩
      obtain ⟨x, hx⟩ : ∃ x, R.getD k 0 = x := ⟨_, rfl⟩
      obtain ⟨y, hy⟩ : ∃ y, R.getD (k + 1) 0 = y := ⟨_, rfl⟩
      obtain ⟨z, hz⟩ : ∃ z, Ed.adv R ra r k = z := ⟨_, rfl⟩
      rw [hV] at HST hadv
      rw [hc] at ea hadv; rw [hx] at q0 hadv ⊢; rw [hy] at hk1 q1 hadv; rw [hz] at hk0 q2 hadv
      have HY := Lib.hid hy
      clear hst hV hc hx hy hz e1 hca hc0 hf0
      by_cases hcr : c = r
      · subst hcr
        rw [cost_eq] at hadv
        have HADV := Lib.hid hadv
        clear hadv
        go_wp2
        all_goals (
          go_roundw
          case rel => exact ⟨k + 1, by omega, by go_num, by rw [HY.out], Lib.hid (own_val HST.out (by have e := HADV.out; omega)), Lib.hid (grown_trans hG.out (store_grown wr g (k + 1) _))⟩
          case measure => simp [intOf]; omega)
      · rw [cost_ne hcr] at hadv
        have hb : (c != r) = true := by simpa using hcr
        have HADV := Lib.hid hadv
        clear hadv hcr
        go_wp2
        all_goals (
          go_roundw
          case rel => exact ⟨k + 1, by omega, by go_num, by rw [HY.out], Lib.hid (own_val HST.out (by have e := HADV.out; omega)), Lib.hid (grown_trans hG.out (store_grown wr g (k + 1) _))⟩
          case measure => simp [intOf]; omega)
    · obtain rfl : k = m := by omega
      go_wp2
      go_end0
      exact ⟨rfl, hO.out, hG.out⟩
end Go.Proofs.YtgnaiahnednllaaGreat
namespace Go.Proofs.YtgnaiahnednllaaGreat
open Go.RowKit
set_option linter.unusedVariables false
set_option maxRecDepth 20000
def rwF (f : Nat → Int) (N : Nat) : List Int := (List.range N).map f
def updF (f : Nat → Int) (i : Nat) (v : Int) : Nat → Int := fun j => if j = i then v else f j
theorem rwF_len (f : Nat → Int) (N : Nat) : (rwF f N).length = N := by simp [rwF]
theorem rwF_getD {f : Nat → Int} {N i : Nat} (h : i < N) : (rwF f N).getD i 0 = f i := by simp [rwF, List.getD_eq_getElem?_getD, h]
theorem rwF_out {f : Nat → Int} {N i : Nat} (h : N ≤ i) : (rwF f N).getD i 0 = 0 := by simp [rwF, List.getD_eq_getElem?_getD, h]
theorem rwF_set (f : Nat → Int) (N i : Nat) (v : Int) : (rwF f N).set i v = rwF (updF f i v) N := by
  apply List.ext_getElem
  · simp [rwF]
  · intro j h1 h2
    rw [List.getElem_set]
    simp only [rwF, List.getElem_map, List.getElem_range, updF]
    by_cases e : i = j
    · subst e; simp
    · rw [if_neg e, if_neg (fun x => e x.symm)]
theorem rwF_congr {f g : Nat → Int} {N : Nat} (h : ∀ i, i < N → f i = g i) : rwF f N = rwF g N := List.map_congr_left fun i hi => h i (List.mem_range.1 hi)
theorem rwF_at {f : Nat → Int} {N i : Nat} (h : i < N) : (intsV (rwF f N))[i]? = some (.int .i64 (f i)) := by rw [intsV_at _ i (by rw [rwF_len]; exact h), rwF_getD h]
/-- the cell of a row that the call made, and the row with it set -/
theorem row_step {w : World} {B g N cap : Nat} {f h : Nat → Int} (o : w.ownsRow B 3 1 (.slice (some ⟨g, 0, none⟩) N cap) N (intsV (rwF f N))) (i : Nat) (hi : i < N) (v : Int) (e : ∀ j, j < N → updF f i v j = h j) :
    w.cell? ⟨g, i, none⟩ = some (.int .i64 (f i)) ∧ w.frozen? ⟨g, i, none⟩ = false ∧ (w.setCell ⟨g, i, none⟩ (.int .i64 v)).ownsRow B 3 1 (.slice (some ⟨g, 0, none⟩) N cap) N (intsV (rwF h N)) := by
  have h1 := o.cellAt i (by omega)
  rw [rwF_at hi] at h1
  have h2 := (o.stored i (.int .i64 v)).1
  rw [intsV_set, rwF_set, rwF_congr e] at h2
  exact ⟨h1, o.frozenAt i, h2⟩
def PosOk (n : Nat) (k : Int) (s : List PV) : Prop := ∀ x ∈ s, (0 ≤ x.1 ∧ x.1 ≤ (n : Int)) ∧ 0 ≤ x.2 ∧ x.2 ≤ k
theorem base_bd {n : Nat} {k : Int} (hk : 0 ≤ k) (i : Nat) : ∀ s : List PV, PosOk n k s → 0 ≤ Au.base s k i ∧ Au.base s k i ≤ k + 1 := by
  have h : ∀ (s : List PV) (d : Int), PosOk n k s → 0 ≤ d → d ≤ k + 1 → 0 ≤ s.foldl (fun d p => if p.1 = (i : Int) then min d p.2 else d) d ∧ s.foldl (fun d p => if p.1 = (i : Int) then min d p.2 else d) d ≤ k + 1 := by
    intro s
    induction s with
    | nil => intro d _ h1 h2; exact ⟨h1, h2⟩
    | cons x s ih =>
      intro d hs h1 h2
      have hx := hs x (by simp)
      rw [List.foldl_cons]
      refine ih _ (fun y hy => hs y (by simp [hy])) ?_ ?_
      · split <;> omega
      · split <;> omega
  exact fun s hs => h s (k + 1) hs (by omega) (Int.le_refl _)
theorem fwd_bd {b : Nat → Int} {k : Int} (h : ∀ i, 0 ≤ b i ∧ b i ≤ k + 1) : ∀ i, 0 ≤ Au.fwd b i ∧ Au.fwd b i ≤ k + 1 := by
  intro i
  induction i with
  | zero => exact h 0
  | succ i ih => have := h (i + 1); simp only [Au.fwd]; omega
theorem bwt_bd {f : Nat → Int} {k : Int} (n : Nat) (h : ∀ i, 0 ≤ f i ∧ f i ≤ k + 1) : ∀ t, 0 ≤ Au.bwt f n t ∧ Au.bwt f n t ≤ k + 1 := by
  intro t
  induction t with
  | zero => exact h n
  | succ t ih => have := h (n - (t + 1)); simp only [Au.bwt]; omega
/-- the row spread out of positions -/
def sprF (s : List PV) (k : Int) (n i : Nat) : Int := Au.bwt (Au.fwd (Au.base s k)) n (n - i)
theorem zeroRow (N : Nat) : intsV (rwF (fun _ => 0) N) = List.replicate N (.int .i64 0) := by
  apply List.ext_getElem
  · simp [intsV, rwF]
  · intro i h1 h2; simp [intsV, rwF]
set_option maxRecDepth 100000 in
set_option maxHeartbeats 6400000 in
theorem spread_any (a : Option Addr) (n c : Nat) (sa : Option Addr) (L sc : Nat) (s : List PV) (k : Int) (w : World) (h : HoldsP w sa L s) (hs : PosOk n k s) (hk : 0 ≤ k ∧ k ≤ 4) (hn : n ≤ 1048576) (hL : L ≤ 1048576) :
    Calls Tryz.prog 244 #[.slice a n c, .int .i64 k, .slice sa L sc] w fun e w' => e = .returned (.slice (some ⟨w.heap.size, 0, none⟩) (n + 1) (n + 1)) ∧ w'.ownsRow w.heap.size 3 1 (.slice (some ⟨w.heap.size, 0, none⟩) (n + 1) (n + 1)) (n + 1) (intsV (rwF (sprF s k n) (n + 1))) ∧ Below w.heap.size w w' := by
  obtain ⟨i0, hi, hz0, hz1, hz2⟩ := info_parts int_info
  obtain ⟨hk0, hk4⟩ := hk
  have H := Lib.hid h; have HS := Lib.hid hs; have LS := Lib.hid h.len
  have BB := Lib.hid (fun i t => base_bd (n := n) hk0 i (s.take t) (fun x hx => hs x (List.mem_of_mem_take hx)))
  have BF := Lib.hid (fwd_bd (b := Au.base s k) (k := k) (fun i => base_bd (n := n) hk0 i s hs))
  have BW := Lib.hid (bwt_bd (f := Au.fwd (Au.base s k)) (k := k) n BF.out)
  clear h hs
  go_enter Tryz.func244, Tryz.ntmps244
  go_wp2_with (at_make; refine wpList_make_full _ rfl _ _ 49 rfl w.heap.size 3 i0 (.int .i64 0) 1 Tryz.underlying49 hi hz0 hz1 _ _ _ _ (n + 1) rfl rfl (by omega) (by omega) (by rw [hz2]; omega) (by unfold maxLen; omega) (Nat.le_refl _) ?_; intro w0 hown0 hgrow0)
  have hB0 := below_grown hgrow0 (by intro k hk; cases hk)
  have ho : w0.ownsRow w.heap.size 3 1 (.slice (some ⟨w.heap.size, 0, none⟩) (n + 1) (n + 1)) (n + 1) (intsV (rwF (fun i => if i < 0 then k + 1 else 0) (n + 1))) := by
    have e : rwF (fun i => if i < 0 then k + 1 else 0) (n + 1) = rwF (fun _ => 0) (n + 1) := rwF_congr fun i _ => if_neg (by omega)
    rw [e, zeroRow, ← toList_madeCells_one]; rw [Nat.mul_one] at hown0; exact hown0
  have O0 := Lib.hid ho; have B0 := Lib.hid hB0
  clear hown0 hgrow0 ho hB0
  go_loopw [19] (fun iv wr => ∃ j : Nat, j ≤ n + 1 ∧ iv = .int .i64 j ∧ Hid (wr.ownsRow w.heap.size 3 1 (.slice (some ⟨w.heap.size, 0, none⟩) (n + 1) (n + 1)) (n + 1) (intsV (rwF (fun i => if i < j then k + 1 else 0) (n + 1)))) ∧ Hid (Below w.heap.size w wr)) (fun iv _ => n + 1 - (intOf iv).toNat)
  case atStart => exact ⟨0, by omega, rfl, O0, B0⟩
  case round =>
    obtain ⟨j, hj, rfl, hO, hB⟩ := hrel
    by_cases hlt : j < n + 1
    · obtain ⟨c0, f0, st⟩ := row_step (h := fun i => if i < j + 1 then k + 1 else 0) hO.out j hlt (k + 1) (fun i _ => by
        unfold updF
        by_cases e : i = j
        · subst e; rw [if_pos rfl, if_pos (by omega)]
        · rw [if_neg e]
          show (if i < j then k + 1 else 0) = _
          by_cases e2 : i < j
          · rw [if_pos e2, if_pos (by omega)]
          · rw [if_neg e2, if_neg (by omega)])
      obtain ⟨z, hz⟩ : ∃ z, (if j < j then k + 1 else (0 : Int)) = z := ⟨_, rfl⟩
      simp only [hz] at c0
      have ST := Lib.hid st
      clear st hz
      go_wp2_with fail
      go_roundw
      case rel => exact ⟨j + 1, by omega, by go_num, ST, Lib.hid (hB.out.setCell (Nat.le_refl _) _)⟩
      case measure => simp [intOf] <;> omega
    · obtain rfl : j = n + 1 := by omega
      have O1 := Lib.hid (show wr.ownsRow w.heap.size 3 1 (.slice (some ⟨w.heap.size, 0, none⟩) (n + 1) (n + 1)) (n + 1) (intsV (rwF (Au.base (s.take 0) k) (n + 1))) from by
        rw [rwF_congr (g := fun i => if i < n + 1 then k + 1 else 0) (fun i hi => by simp [Au.base, hi])]; exact hO.out)
      have B1 := Lib.hid hB.out
      clear hO hB O0 B0
      go_wp2_with fail
      go_loopw [30] (fun iv wr => ∃ t : Nat, t ≤ L ∧ iv = .int .i64 t ∧ Hid (wr.ownsRow w.heap.size 3 1 (.slice (some ⟨w.heap.size, 0, none⟩) (n + 1) (n + 1)) (n + 1) (intsV (rwF (Au.base (s.take t) k) (n + 1)))) ∧ Hid (Below w.heap.size w wr)) (fun iv _ => L - (intOf iv).toNat)
      case atStart => exact ⟨0, by omega, rfl, O1, B1⟩
      case round =>
        obtain ⟨t, ht, rfl, hO, hB⟩ := hrel
        by_cases hlt2 : t < L
        · obtain ⟨bs, os, rfl, hc⟩ := (H.out.below hB.out).at (by omega)
          obtain ⟨p0', p1'⟩ := hc t hlt2
          have hok := HS.out _ (getD_memP s t (by have := LS.out; omega))
          have htk := take_succ_getD s p0 t (by have := LS.out; omega)
          obtain ⟨x, hx⟩ : ∃ x, s.getD t p0 = x := ⟨_, rfl⟩
          rw [hx] at p0' p1' hok htk
          obtain ⟨x1, x2⟩ := x
          simp only at p0' p1' hok
          obtain ⟨⟨hx0, hxn⟩, hd0, hdk⟩ := hok
          obtain ⟨u, rfl⟩ : ∃ u : Nat, x1 = (u : Int) := ⟨x1.toNat, by omega⟩
          have hu : u < n + 1 := by omega
          have bb := BB.out u t
          obtain ⟨R, hR⟩ : ∃ R, Au.base (s.take t) k u = R := ⟨_, rfl⟩
          rw [hR] at bb
          obtain ⟨bb0, bb1⟩ := bb
          have TK := Lib.hid htk
          have HR := Lib.hid hR
          have CW := Lib.hid (fun w => within_yes (u : Int) x2 a n c k w ⟨hx0, hxn⟩ ⟨hd0, hdk⟩ (by omega))
          have b1 := below_one wr (.cells #[.int .i64 u, .int .i64 x2] 330)
          have g0 : (wr.alloc (.cells #[.int .i64 u, .int .i64 x2] 330)).cell? ⟨wr.heap.size, 0, none⟩ = some (.int .i64 u) := by rw [World.cell?_alloc_mark]; rfl
          have g1 : (wr.alloc (.cells #[.int .i64 u, .int .i64 x2] 330)).cell? ⟨wr.heap.size, 1, none⟩ = some (.int .i64 x2) := by rw [World.cell?_alloc_mark]; rfl
          have OA := Lib.hid (owns_below hO.out b1)
          have BA := Lib.hid (hB.out.trans (b1.mono hB.out.size))
          clear hc hx htk hR hO hB
          go_upto_region 10 with fail
          clear b1 p0' p1'
          generalize wr.alloc (.cells #[.int .i64 u, .int .i64 x2] 330) = wa at *
          generalize wr.heap.size = r at *
          go_wp2_with fail
          refine (CW.out _).mono ?_
          rintro e wb ⟨rfl, hb⟩
          have q0 := (hb.cell (p := ⟨r, 0, none⟩) (lt_of_cell g0)).trans g0
          have q1 := (hb.cell (p := ⟨r, 1, none⟩) (lt_of_cell g0)).trans g1
          have OB := Lib.hid (owns_below OA.out hb)
          have BC := Lib.hid (BA.out.trans (hb.mono BA.out.size))
          clear hb g0 g1 OA BA
          obtain ⟨c0, f0, st⟩ := row_step (h := Au.base (s.take (t + 1)) k) OB.out u hu (min R x2) (fun i _ => by
            rw [TK.out, Au.base_snoc]
            unfold updF
            by_cases e : i = u
            · subst e; rw [if_pos rfl, if_pos rfl, HR.out]
            · rw [if_neg e, if_neg (by simp only; omega)])
          rw [HR.out] at c0
          have ST := Lib.hid st
          have z1 : (u : Int) < (n : Int) + 1 := by omega
          clear st
          by_cases hmin : x2 < R
          · have em : min R x2 = x2 := by omega
            have ST0 := ST
            rw [em] at ST
            clear em
            go_upto_region 11 with fail
            go_region
            all_goals
              go_wp2_with fail
              go_roundw
              case rel => first | (((repeat apply Exists.intro); exact ⟨⟨t + 1, by omega, by go_num, Lib.hid (owns_below ST.out (Below.refl _ _).drew), Lib.hid ((BC.out.setCell (p := ⟨w.heap.size, u, none⟩) (Nat.le_refl _) _).drew)⟩, rfl⟩)) | (((repeat apply Exists.intro); exact ⟨⟨t + 1, by omega, by go_num, Lib.hid (owns_below ST0.out (Below.refl _ _).drew), Lib.hid ((BC.out.setCell (p := ⟨w.heap.size, u, none⟩) (Nat.le_refl _) _).drew)⟩, rfl⟩))
              case measure => simp [intOf] <;> omega
          · have em : min R x2 = R := by omega
            have ST0 := ST
            rw [em] at ST
            clear em
            go_upto_region 11 with fail
            go_region
            all_goals
              go_wp2_with fail
              go_roundw
              case rel => first | (((repeat apply Exists.intro); exact ⟨⟨t + 1, by omega, by go_num, Lib.hid (owns_below ST.out (Below.refl _ _).drew), Lib.hid ((BC.out.setCell (p := ⟨w.heap.size, u, none⟩) (Nat.le_refl _) _).drew)⟩, rfl⟩)) | (((repeat apply Exists.intro); exact ⟨⟨t + 1, by omega, by go_num, Lib.hid (owns_below ST0.out (Below.refl _ _).drew), Lib.hid ((BC.out.setCell (p := ⟨w.heap.size, u, none⟩) (Nat.le_refl _) _).drew)⟩, rfl⟩))
              case measure => simp [intOf] <;> omega
        · obtain rfl : t = L := by omega
          have O2 := Lib.hid (show wr.ownsRow w.heap.size 3 1 (.slice (some ⟨w.heap.size, 0, none⟩) (n + 1) (n + 1)) (n + 1) (intsV (rwF (fun i => if i ≤ 0 then Au.fwd (Au.base s k) i else Au.base s k i) (n + 1))) from by
            rw [rwF_congr (g := Au.base (s.take t) k) (fun i hi => by
              rw [List.take_of_length_le (by have := LS.out; omega)]
              by_cases e : i ≤ 0
              · obtain rfl : i = 0 := by omega
                rw [if_pos (Nat.le_refl _)]; rfl
              · rw [if_neg e])]; exact hO.out)
          have B2 := Lib.hid hB.out
          clear hO hB O1 B1
          go_wp2_with fail
          go_loopw [53] (fun iv wr => ∃ j : Nat, j ≤ n ∧ iv = .int .i64 j ∧ Hid (wr.ownsRow w.heap.size 3 1 (.slice (some ⟨w.heap.size, 0, none⟩) (n + 1) (n + 1)) (n + 1) (intsV (rwF (fun i => if i ≤ j then Au.fwd (Au.base s k) i else Au.base s k i) (n + 1)))) ∧ Hid (Below w.heap.size w wr)) (fun iv _ => n - (intOf iv).toNat)
          case atStart => exact ⟨0, by omega, rfl, O2, B2⟩
          case round =>
            obtain ⟨j, hj3, rfl, hO, hB⟩ := hrel
            by_cases hlt3 : j < n
            · have b0 := fwd_bd (b := Au.base s k) (k := k) (fun i => by have := BB.out i s.length; rwa [List.take_length] at this) j
              have b1 := BB.out (j + 1) s.length
              rw [List.take_length] at b1
              obtain ⟨X, hX⟩ : ∃ X, Au.fwd (Au.base s k) j = X := ⟨_, rfl⟩
              obtain ⟨Y, hY⟩ : ∃ Y, Au.base s k (j + 1) = Y := ⟨_, rfl⟩
              rw [hX] at b0; rw [hY] at b1
              obtain ⟨bx0, bx1⟩ := b0
              obtain ⟨by0, by1⟩ := b1
              obtain ⟨c0, _, _⟩ := row_step (h := fun i => if i ≤ j then Au.fwd (Au.base s k) i else Au.base s k i) hO.out j (by omega) X (fun i _ => by
                unfold updF
                by_cases e : i = j
                · subst e; rw [if_pos rfl, if_pos (Nat.le_refl _), hX]
                · rw [if_neg e])
              obtain ⟨c1, f1, st⟩ := row_step (h := fun i => if i ≤ j + 1 then Au.fwd (Au.base s k) i else Au.base s k i) hO.out (j + 1) (by omega) (min Y (X + 1)) (fun i _ => by
                unfold updF
                by_cases e : i = j + 1
                · subst e; rw [if_pos rfl, if_pos (Nat.le_refl _)]; simp only [Au.fwd, hX, hY]
                · rw [if_neg e]
                  show (if i ≤ j then _ else _) = _
                  by_cases e2 : i ≤ j
                  · rw [if_pos e2, if_pos (by omega)]
                  · rw [if_neg e2, if_neg (by omega)])
              simp only [Nat.le_refl, if_true, hX] at c0
              rw [if_neg (by omega), hY] at c1
              have ST := Lib.hid st
              have BC := Lib.hid hB.out
              have HXY := Lib.hid (And.intro hX hY)
              have z1 : (j : Int) < (n : Int) + 1 := by omega
              have z2 : (j : Int) + 1 < (n : Int) + 1 := by omega
              have z3 : j < n + 1 := by omega
              have z4 : j + 1 < n + 1 := by omega
              have z5 : IntKind.i64.wrap ((j : Int) + 1) = (j : Int) + 1 := IntWalk.i64_in _ (by omega)
              have z6 : IntKind.i64.wrap (X + 1) = X + 1 := IntWalk.i64_in _ (by omega)
              have z7 : (0 : Int) ≤ (j : Int) + 1 := by omega
              have z8 : ((j : Int) + 1).toNat = j + 1 := by omega
              clear st hX hY hO hB
              by_cases hmin : X + 1 < Y
              · have em : min Y (X + 1) = X + 1 := by omega
                have ST0 := ST
                rw [em] at ST
                clear em
                go_upto_region 16 with fail
                go_region
                all_goals
                  clear z5 z6 z8
                  go_wp2_with fail
                  go_roundw
                  case rel => first | (exact ⟨j + 1, by omega, by go_num, Lib.hid (owns_below ST.out (Below.refl _ _).drew), Lib.hid ((BC.out.setCell (p := ⟨w.heap.size, j + 1, none⟩) (Nat.le_refl _) _).drew)⟩) | (exact ⟨j + 1, by omega, by go_num, Lib.hid (owns_below ST0.out (Below.refl _ _).drew), Lib.hid ((BC.out.setCell (p := ⟨w.heap.size, j + 1, none⟩) (Nat.le_refl _) _).drew)⟩)
                  case measure => simp [intOf] <;> omega
              · have em : min Y (X + 1) = Y := by omega
                have ST0 := ST
                rw [em] at ST
                clear em
                go_upto_region 16 with fail
                go_region
                all_goals
                  clear z5 z6 z8
                  go_wp2_with fail
                  go_roundw
                  case rel => first | (exact ⟨j + 1, by omega, by go_num, Lib.hid (owns_below ST.out (Below.refl _ _).drew), Lib.hid ((BC.out.setCell (p := ⟨w.heap.size, j + 1, none⟩) (Nat.le_refl _) _).drew)⟩) | (exact ⟨j + 1, by omega, by go_num, Lib.hid (owns_below ST0.out (Below.refl _ _).drew), Lib.hid ((BC.out.setCell (p := ⟨w.heap.size, j + 1, none⟩) (Nat.le_refl _) _).drew)⟩)
                  case measure => simp [intOf] <;> omega
            · obtain rfl : n = j := by omega
              have O3 := Lib.hid (show wr.ownsRow w.heap.size 3 1 (.slice (some ⟨w.heap.size, 0, none⟩) (n + 1) (n + 1)) (n + 1) (intsV (rwF (fun i => if n - i ≤ 0 then Au.bwt (Au.fwd (Au.base s k)) n (n - i) else Au.fwd (Au.base s k) i) (n + 1))) from by
                rw [rwF_congr (g := fun i => if i ≤ n then Au.fwd (Au.base s k) i else Au.base s k i) (fun i hi => by
                  rw [if_pos (show i ≤ n by omega)]
                  by_cases e : n - i ≤ 0
                  · obtain rfl : i = n := by omega
                    rw [if_pos e, Nat.sub_self]; rfl
                  · rw [if_neg e])]; exact hO.out)
              have B3 := Lib.hid hB.out
              clear hO hB O2 B2
              go_wp2_with fail
              go_loopw [12] (fun iv wr => ∃ (t : Nat) (z : Int), t ≤ n ∧ z = (n : Int) - 1 - t ∧ iv = .int .i64 z ∧ Hid (wr.ownsRow w.heap.size 3 1 (.slice (some ⟨w.heap.size, 0, none⟩) (n + 1) (n + 1)) (n + 1) (intsV (rwF (fun i => if n - i ≤ t then Au.bwt (Au.fwd (Au.base s k)) n (n - i) else Au.fwd (Au.base s k) i) (n + 1)))) ∧ Hid (Below w.heap.size w wr)) (fun iv _ => (intOf iv + 1).toNat)
              case atStart => exact ⟨0, (n : Int) - 1, by omega, by omega, rfl, O3, B3⟩
              case round =>
                obtain ⟨t, z, ht4, hz4, rfl, hO, hB⟩ := hrel
                by_cases hlt4 : t < n
                · obtain ⟨m, hm⟩ : ∃ m : Nat, m + 1 + t = n := ⟨n - 1 - t, by omega⟩
                  obtain rfl : z = (m : Int) := by omega
                  clear hz4
                  have b0 := BF.out m
                  have b1 := BW.out t
                  obtain ⟨X, hX⟩ : ∃ X, Au.fwd (Au.base s k) m = X := ⟨_, rfl⟩
                  obtain ⟨Z, hZ⟩ : ∃ Z, Au.bwt (Au.fwd (Au.base s k)) n t = Z := ⟨_, rfl⟩
                  rw [hX] at b0; rw [hZ] at b1
                  obtain ⟨bx0, bx1⟩ := b0
                  obtain ⟨bz0, bz1⟩ := b1
                  have em1 : n - (m + 1) = t := by omega
                  have em0 : n - m = t + 1 := by omega
                  have em2 : n - (t + 1) = m := by omega
                  obtain ⟨c0, _, _⟩ := row_step (h := fun i => if n - i ≤ t then Au.bwt (Au.fwd (Au.base s k)) n (n - i) else Au.fwd (Au.base s k) i) hO.out (m + 1) (by omega) Z (fun i _ => by
                    unfold updF
                    by_cases e : i = m + 1
                    · subst e; rw [if_pos rfl, if_pos (by omega), em1, hZ]
                    · rw [if_neg e])
                  obtain ⟨c1, f1, st⟩ := row_step (h := fun i => if n - i ≤ t + 1 then Au.bwt (Au.fwd (Au.base s k)) n (n - i) else Au.fwd (Au.base s k) i) hO.out m (by omega) (min X (Z + 1)) (fun i _ => by
                    unfold updF
                    by_cases e : i = m
                    · subst e; rw [if_pos rfl, if_pos (by omega), em0]; simp only [Au.bwt, hZ, em2, hX]
                    · rw [if_neg e]
                      show (if n - i ≤ t then _ else _) = _
                      by_cases e2 : n - i ≤ t
                      · rw [if_pos e2, if_pos (by omega)]
                      · rw [if_neg e2, if_neg (by omega)])
                  rw [if_pos (by omega), em1, hZ] at c0
                  rw [if_neg (by omega), hX] at c1
                  have ST := Lib.hid st
                  have BC := Lib.hid hB.out
                  have z1 : (m : Int) < (n : Int) + 1 := by omega
                  have z2 : (m : Int) + 1 < (n : Int) + 1 := by omega
                  have z3 : m < n + 1 := by omega
                  have z4 : m + 1 < n + 1 := by omega
                  have z5 : IntKind.i64.wrap ((m : Int) + 1) = (m : Int) + 1 := IntWalk.i64_in _ (by omega)
                  have z6 : IntKind.i64.wrap (Z + 1) = Z + 1 := IntWalk.i64_in _ (by omega)
                  have z7 : (0 : Int) ≤ (m : Int) + 1 := by omega
                  have z8 : ((m : Int) + 1).toNat = m + 1 := by omega
                  have z9 : IntKind.i64.wrap ((m : Int) - 1) = (m : Int) - 1 := IntWalk.i64_in _ (by omega)
                  clear st hX hZ hO hB em0 em1 em2
                  by_cases hmin : Z + 1 < X
                  · have em : min X (Z + 1) = Z + 1 := by omega
                    have ST0 := ST
                    rw [em] at ST
                    clear em
                    go_upto_region 21 with fail
                    go_region
                    all_goals
                      clear z5 z6 z8 z9
                      go_wp2_with fail
                      go_roundw
                      case rel => first | (exact ⟨t + 1, (m : Int) - 1, by omega, by omega, by go_num, Lib.hid (owns_below ST.out (Below.refl _ _).drew), Lib.hid ((BC.out.setCell (p := ⟨w.heap.size, m, none⟩) (Nat.le_refl _) _).drew)⟩) | (exact ⟨t + 1, (m : Int) - 1, by omega, by omega, by go_num, Lib.hid (owns_below ST0.out (Below.refl _ _).drew), Lib.hid ((BC.out.setCell (p := ⟨w.heap.size, m, none⟩) (Nat.le_refl _) _).drew)⟩)
                      case measure => simp [intOf] <;> omega
                  · have em : min X (Z + 1) = X := by omega
                    have ST0 := ST
                    rw [em] at ST
                    clear em
                    go_upto_region 21 with fail
                    go_region
                    all_goals
                      clear z5 z6 z8 z9
                      go_wp2_with fail
                      go_roundw
                      case rel => first | (exact ⟨t + 1, (m : Int) - 1, by omega, by omega, by go_num, Lib.hid (owns_below ST.out (Below.refl _ _).drew), Lib.hid ((BC.out.setCell (p := ⟨w.heap.size, m, none⟩) (Nat.le_refl _) _).drew)⟩) | (exact ⟨t + 1, (m : Int) - 1, by omega, by omega, by go_num, Lib.hid (owns_below ST0.out (Below.refl _ _).drew), Lib.hid ((BC.out.setCell (p := ⟨w.heap.size, m, none⟩) (Nat.le_refl _) _).drew)⟩)
                      case measure => simp [intOf] <;> omega
                · obtain rfl : t = n := by omega
                  have OE := Lib.hid (show wr.ownsRow w.heap.size 3 1 (.slice (some ⟨w.heap.size, 0, none⟩) (t + 1) (t + 1)) (t + 1) (intsV (rwF (sprF s k t) (t + 1))) from by
                    rw [rwF_congr (g := fun i => if t - i ≤ t then Au.bwt (Au.fwd (Au.base s k)) t (t - i) else Au.fwd (Au.base s k) i) (fun i hi => by
                      rw [if_pos (by omega)]; rfl)]; exact hO.out)
                  have BE := Lib.hid hB.out
                  clear hO hB O3 B3
                  go_wp2_with fail
                  go_ret
                  exact ⟨rfl, OE.out, BE.out⟩
end Go.Proofs.YtgnaiahnednllaaGreat
namespace Go.Proofs.YtgnaiahnednllaaGreat
open Go.RowKit
set_option linter.unusedVariables false
set_option maxRecDepth 20000
theorem holdsI_lt {k : IntKind} {w : World} {a : Option Addr} {n : Nat} {zs : List Int} (h : HoldsI k w a n zs) : ∀ b o, 0 < n → a = some ⟨b, o, none⟩ → b < w.heap.size := by
  intro b o h0 ha
  obtain ⟨b2, o2, hb, hc⟩ := h.2 h0
  rw [ha] at hb
  injection hb with hb
  injection hb with hb1 hb2
  subst hb1
  have := hc 0 h0
  exact lt_of_cell this
end Go.Proofs.YtgnaiahnednllaaGreat
namespace Go.Proofs.YtgnaiahnednllaaGreat
open Go.RowKit
set_option linter.unusedVariables false
set_option maxRecDepth 20000
/-- the distance of two strings, or -1 -/
def distS (a b : ByteArray) : Int := if 0 ≤ lenS a ∧ 0 ≤ lenS b then Ed.L (intsN (runesS a)) (intsN (runesS b)) (runesS a).length (runesS b).length else -1
theorem intsN_length (P : List Nat) : (intsN P).length = P.length := by simp [intsN]
end Go.Proofs.YtgnaiahnednllaaGreat
namespace Go.Proofs.YtgnaiahnednllaaGreat
open Go.RowKit
set_option linter.unusedVariables false
set_option maxRecDepth 20000
theorem own_holdsI {w : World} {base : Nat} {e : TypeId} {a : Option Addr} {n c : Nat} {zs : List Int} (h : w.ownsRow base e 1 (.slice a n c) n (intsV zs)) : HoldsI .i64 w a n zs := by
  have hv := owns_holds h
  have hl : zs.length = n := by have := h.1; simpa [intsV] using this
  refine ⟨hl, fun h0 => ?_⟩
  obtain ⟨b, o, ha, hc⟩ := hv.2 h0
  exact ⟨b, o, ha, fun i hi => by rw [hc i hi, intsV, getD_map_int .i64 zs i (by omega)]⟩
end Go.Proofs.YtgnaiahnednllaaGreat
namespace Go.Proofs.YtgnaiahnednllaaGreat
open Go.RowKit
set_option linter.unusedVariables false
set_option maxRecDepth 20000
namespace Au
theorem fwd_const {b : Nat → Int} {K : Int} {n : Nat} (h : ∀ i, i ≤ n → K ≤ b i) : ∀ i, i ≤ n → K ≤ fwd b i := by
  intro i
  induction i with
  | zero => exact fun _ => h 0 (Nat.zero_le _)
  | succ i ih => intro hi; have := ih (by omega); have := h (i + 1) hi; simp only [fwd]; omega
theorem bwt_const {f : Nat → Int} {K : Int} {n : Nat} (h : ∀ i, i ≤ n → K ≤ f i) : ∀ t, t ≤ n → K ≤ bwt f n t := by
  intro t
  induction t with
  | zero => exact fun _ => h n (Nat.le_refl _)
  | succ t ih => intro ht; have := ih (by omega); have := h (n - (t + 1)) (by omega); simp only [bwt]; omega
theorem fwd_congr {b c : Nat → Int} {n : Nat} (h : ∀ i, i ≤ n → b i = c i) : ∀ i, i ≤ n → fwd b i = fwd c i := by
  intro i
  induction i with
  | zero => exact fun _ => h 0 (Nat.zero_le _)
  | succ i ih => intro hi; simp only [fwd]; rw [ih (by omega), h (i + 1) hi]
theorem bwt_congr {f g : Nat → Int} {n : Nat} (h : ∀ i, i ≤ n → f i = g i) : ∀ t, t ≤ n → bwt f n t = bwt g n t := by
  intro t
  induction t with
  | zero => exact fun _ => h n (Nat.le_refl _)
  | succ t ih => intro ht; simp only [bwt]; rw [ih (by omega), h (n - (t + 1)) (by omega)]
theorem base_bs (C : Nat → Int) (n : Nat) (k : Int) (i : Nat) (hi : i ≤ n) : base (needL C n k (n + 1)) k i = bs C n k i := by
  rw [base_need]; unfold bs
  by_cases h : needP C n k i
  · rw [if_pos ⟨by omega, h⟩, if_pos h]
  · rw [if_neg (fun x => h x.2), if_neg h]
theorem spr_same {C : Nat → Int} {n : Nat} {k : Int} (hl : Lip C n) (hc : ∀ i, i ≤ n → C i ≤ k + 1) (i : Nat) (hi : i ≤ n) : sprF (needL C n k (n + 1)) k n i = C i := by
  have h := spread_same hl hc (n - i) (by omega)
  rw [show n - (n - i) = i by omega] at h
  rw [← h]; unfold sprF
  exact bwt_congr (fun i hi => fwd_congr (fun i hi => base_bs C n k i hi) i hi) _ (by omega)
theorem dead_all {C : Nat → Int} {n : Nat} {k : Int} (hl : Lip C n) (hc : ∀ i, i ≤ n → C i ≤ k + 1) (h : needL C n k (n + 1) = []) (i : Nat) (hi : i ≤ n) : C i = k + 1 := by
  have h1 := spr_same hl hc i hi
  have h2 := hc i hi
  rw [h] at h1
  have h3 : k + 1 ≤ sprF [] k n i := bwt_const (fun i hi => fwd_const (fun i _ => by simp [base]) i hi) _ (by omega)
  omega
theorem dead_next {q p : List Int} {k : Int} {j : Nat} (hk : 0 ≤ k) (h : ∀ i, i ≤ q.length → cap q p k j i = k + 1) (i : Nat) (hi : i ≤ q.length) : cap q p k (j + 1) i = k + 1 := by
  have hR : ∀ i, i ≤ q.length → (rwF (cap q p k j) (q.length + 1)).getD i 0 = cap q p k j i := fun i hi => rwF_getD (by omega)
  have h1 := adv_cap hk hR i hi
  have h2 : ∀ i, i ≤ q.length → k + 1 ≤ Ed.adv (rwF (cap q p k j) (q.length + 1)) q (p.getD j 0) i := by
    intro i
    induction i with
    | zero => intro hi; rw [Ed.adv, hR 0 hi, h 0 hi]; omega
    | succ i ih =>
      intro hi
      have h3 := ih (by omega)
      have h4 := Ed.cost_bd (q.getD i 0) (p.getD j 0)
      rw [Ed.adv, hR i (by omega), hR (i + 1) hi, h i (by omega), h (i + 1) hi]
      omega
  have := h2 i hi
  omega
theorem need_none {C : Nat → Int} {n : Nat} {k : Int} (h : ∀ i, i ≤ n → C i = k + 1) : needL C n k (n + 1) = [] := by
  unfold needL
  rw [List.map_eq_nil_iff, List.filter_eq_nil_iff]
  intro i hi hd
  have h1 := h i (by have := List.mem_range.1 hi; omega)
  have h2 := (of_decide_eq_true hd).1
  omega
/-- the state behind j runes -/
def st (q p : List Int) (k : Int) (j : Nat) : List PV := needL (cap q p k j) q.length k (q.length + 1)
theorem st_dead {q p : List Int} {k : Int} {j : Nat} (hk : 0 ≤ k) (h : st q p k j = []) : st q p k (j + 1) = [] :=
  need_none fun i hi => dead_next hk (fun i hi => dead_all (cap_lip q p k j _) (fun i _ => (cap_bd q p k hk j i).2) h i hi) i hi
theorem st_ok {q p : List Int} {k : Int} {j : Nat} (hk : 0 ≤ k) : PosOk q.length k (st q p k j) := by
  intro x hx
  obtain ⟨i, hi, hn, rfl⟩ := needL_mem hx
  have h1 := hn.1
  have h2 := (cap_bd q p k hk j i).1
  exact ⟨⟨by simp only; omega, by simp only; omega⟩, h2, h1⟩
theorem st_len {q p : List Int} {k : Int} {j : Nat} (hk : 0 ≤ k) : ((st q p k j).length : Int) ≤ 2 * k + 1 := need_len hk _
theorem st_step {q p : List Int} {k : Int} {j : Nat} {R : List Int} (hk : 0 ≤ k) (hR : ∀ i, i ≤ q.length → R.getD i 0 = cap q p k j i) (hl : R.length = q.length + 1) :
    needL (fun i => (Ed.mix R q (p.getD j 0) q.length).getD i 0) q.length k (q.length + 1) = st q p k (j + 1) := by
  refine needL_like (fun i hi => ?_) _ (Nat.le_refl _)
  show min ((Ed.mix R q (p.getD j 0) q.length).getD i 0) (k + 1) = _
  rw [Ed.mix_new R q _ _ i (by omega) hi, adv_cap hk hR i hi]
  have := (cap_bd q p k hk (j + 1) i).2
  omega
end Au
theorem owns_mono {w : World} {B B' : Nat} {e : TypeId} {size : Nat} {v : Value} {n : Nat} {xs : List Value} (h : w.ownsRow B e size v n xs) (hb : B' ≤ B) : w.ownsRow B' e size v n xs := by
  refine ⟨h.1, ?_⟩
  rcases h.2 with h1 | ⟨g, cap, cur, hv, hg, r⟩
  · exact Or.inl h1
  · exact Or.inr ⟨g, cap, cur, hv, Nat.le_trans hb hg, r⟩
theorem step_bound {q p : List Int} {k : Int} {j : Nat} (hk : 0 ≤ k ∧ k ≤ 4) (r : Int) (i : Nat) : 0 ≤ (Ed.mix (rwF (Au.cap q p k j) (q.length + 1)) q r q.length).getD i 0 ∧ (Ed.mix (rwF (Au.cap q p k j) (q.length + 1)) q r q.length).getD i 0 ≤ 4194304 := by
  have hb : ∀ i, 0 ≤ (rwF (Au.cap q p k j) (q.length + 1)).getD i 0 ∧ (rwF (Au.cap q p k j) (q.length + 1)).getD i 0 ≤ 5 := by
    intro i
    by_cases hi : i < q.length + 1
    · rw [rwF_getD hi]; have := Au.cap_bd q p k hk.1 j i; omega
    · rw [rwF_out (by omega)]; omega
  by_cases hi : i < q.length + 1
  · rw [Ed.mix_new _ q r _ i (by rw [rwF_len]; omega) (by omega)]
    have := Ed.adv_bd _ q r 5 (by decide) hb i
    omega
  · have hl := Ed.mix_length (rwF (Au.cap q p k j) (q.length + 1)) q r q.length
    rw [rwF_len] at hl
    rw [List.getD_eq_getElem?_getD, List.getElem?_eq_none (by omega)]
    exact ⟨by decide, by decide⟩
set_option maxHeartbeats 3200000 in
theorem step_any (q p : List Int) (j : Nat) (k : Int) (a sa : Option Addr) (n c L sc L2 : Nat) (r : Int) (w : World) (ha : HoldsI .i32 w a n q) (hs : HoldsP w sa L (Au.st q p k j)) (hk : 0 ≤ k ∧ k ≤ 4) (hn : n ≤ 1048576)
    (hr : p.getD j 0 = r) (hL : (Au.st q p k (j + 1)).length = L2) :
    Calls Tryz.prog 219 #[.slice a n c, .int .i64 k, .slice sa L sc, .int .i32 r] w (RetP w L2 (Au.st q p k (j + 1))) := by
  have HA := Lib.hid ha; have HS := Lib.hid hs; have HL := Lib.hid hL; have HR := Lib.hid hr
  have hln : q.length = n := ha.len
  have LN := Lib.hid hln
  have hll : (Au.st q p k j).length = L := hs.len
  have hL9 : L ≤ 9 := by have := Au.st_len (q := q) (p := p) (j := j) hk.1; omega
  have HLL := Lib.hid hll
  have CP := Lib.hid (fun w => permitted_lit k true w (decide_eq_true hk))
  have CD := Lib.hid (fun f hf w => dead_any sa L sc f w (by omega) hf)
  have HK := Lib.hid hk
  clear ha hs hL hr hln hll
  go_enter Tryz.func219, Tryz.ntmps219
  go_wp2_with fail
  refine (CP.out _).mono ?_
  rintro e w0 ⟨rfl, rfl⟩
  clear CP
  by_cases h0 : L = 0
  · have hnil : Au.st q p k j = [] := List.length_eq_zero_iff.1 (by rw [HLL.out]; exact h0)
    have E := Lib.hid (Au.st_dead HK.out.1 hnil)
    have CD1 := Lib.hid (CD.out true (decide_eq_true h0))
    clear hnil h0 CD
    go_wp2_with fail
    refine (CD1.out _).mono ?_
    rintro e w0 ⟨rfl, rfl⟩
    go_wp2_with fail
    go_ret
    have e2 := HL.out
    rw [E.out] at e2
    obtain rfl : L2 = 0 := by simpa using e2.symm
    rw [E.out]
    exact ⟨none, 0, rfl, World.ownsRow_nil _ _ _ _, Below.refl _ _⟩
  · have CD1 := Lib.hid (CD.out false (decide_eq_false h0))
    clear h0 CD
    go_wp2_with fail
    refine (CD1.out _).mono ?_
    rintro e w0 ⟨rfl, rfl⟩
    go_wp2_with fail
    refine (spread_any a n c sa L sc (Au.st q p k j) k _ HS.out (by rw [← LN.out]; exact Au.st_ok HK.out.1) HK.out hn (by omega)).mono ?_
    rintro e w1 ⟨rfl, ho, hb⟩
    have O1 := Lib.hid (show w1.ownsRow w.heap.size 3 1 (.slice (some ⟨w.heap.size, 0, none⟩) (n + 1) (n + 1)) (n + 1) (intsV (rwF (Au.cap q p k j) (q.length + 1))) from by
      rw [LN.out, rwF_congr (f := Au.cap q p k j) (g := sprF (Au.st q p k j) k n) (fun i hi => by
        rw [← LN.out]; exact (Au.spr_same (Au.cap_lip q p k j _) (fun i _ => (Au.cap_bd q p k HK.out.1 j i).2) i (by rw [LN.out]; omega)).symm)]
      exact ho)
    have B1 := Lib.hid hb
    clear ho hb
    go_wp2_with fail
    refine (advance_any w.heap.size w.heap.size (n + 1) n (rwF (Au.cap q p k j) (q.length + 1)) q a c r _ O1.out (HA.out.below B1.out) (fun b o h0 ha => ?_) (fun i => ?_) hn).mono ?_
    · have := holdsI_lt HA.out b o h0 ha; omega
    · by_cases hi : i < q.length + 1
      · rw [rwF_getD hi]; have := Au.cap_bd q p k HK.out.1 j i; have := HK.out; omega
      · rw [rwF_out (by omega)]; omega
    rintro e w2 ⟨rfl, ho, hg⟩
    have O2 := Lib.hid ho
    have B2 := Lib.hid (B1.out.grown hg B1.out.size (by intro q hq; injection hq with hq; omega))
    clear ho hg
    go_wp2_with fail
    have ho := O2.out
    rw [← HR.out] at ho
    refine (needed_any (some ⟨w.heap.size, 0, none⟩) n (n + 1) L2 _ k _ _ (own_holdsI ho) (by rw [← LN.out]; exact step_bound HK.out _) HK.out hn (by rw [← LN.out]; exact Au.st_step HK.out.1 (fun i hi => rwF_getD (by omega)) (rwF_len _ _)) HL.out).mono ?_
    rintro e w3 ⟨a3, c3, rfl, h3, b3⟩
    have O3 := Lib.hid (owns_mono h3 B2.out.size)
    have B3 := Lib.hid (B2.out.trans (b3.mono B2.out.size))
    clear ho h3 b3
    go_wp2_with fail
    go_ret
    exact ⟨a3, c3, rfl, O3.out, B3.out⟩
end Go.Proofs.YtgnaiahnednllaaGreat
namespace Go.Proofs.YtgnaiahnednllaaGreat
open Go.RowKit
set_option linter.unusedVariables false
set_option maxRecDepth 20000
namespace Au
theorem dmin_bd {n : Nat} {k : Int} (hk : 0 ≤ k) : ∀ (s : List PV), PosOk n k s → 0 ≤ dmin s n k ∧ dmin s n k ≤ k + 1 := by
  have h : ∀ (s : List PV) (d : Int), PosOk n k s → 0 ≤ d → d ≤ k + 1 → 0 ≤ s.foldl (fun (d : Int) (p : PV) => min d (p.2 + (n : Int) - p.1)) d ∧ s.foldl (fun (d : Int) (p : PV) => min d (p.2 + (n : Int) - p.1)) d ≤ k + 1 := by
    intro s
    induction s with
    | nil => intro d _ h1 h2; exact ⟨h1, h2⟩
    | cons x s ih =>
      intro d hs h1 h2
      have hx := hs x (by simp)
      rw [List.foldl_cons]
      exact ih _ (fun y hy => hs y (by simp [hy])) (by omega) (by omega)
  exact fun s hs => h s (k + 1) hs (by omega) (Int.le_refl _)
/-- what is told of a distance that is k + 1 where it is too great -/
def telB (d k : Int) : Int := if d ≤ k then d else 0
def telO (d k : Int) : Bool := decide (d ≤ k)
theorem telB_yes {d k : Int} (h : d ≤ k) : telB d k = d := if_pos h
theorem telB_no {d k : Int} (h : ¬ d ≤ k) : telB d k = 0 := if_neg h
theorem telO_yes {d k : Int} (h : d ≤ k) : telO d k = true := decide_eq_true h
theorem telO_no {d k : Int} (h : ¬ d ≤ k) : telO d k = false := decide_eq_false h
end Au
set_option maxHeartbeats 3200000 in
theorem step_off (k : Int) (a sa : Option Addr) (n c L sc : Nat) (r : Int) (w : World) (hk : ¬ (0 ≤ k ∧ k ≤ 4)) :
    Calls Tryz.prog 219 #[.slice a n c, .int .i64 k, .slice sa L sc, .int .i32 r] w (RetP w 0 []) := by
  have CP := Lib.hid (fun w => permitted_lit k false w (decide_eq_false hk))
  clear hk
  go_enter Tryz.func219, Tryz.ntmps219
  go_wp2_with fail
  refine (CP.out _).mono ?_
  rintro e w0 ⟨rfl, rfl⟩
  clear CP
  go_wp2_with fail
  go_ret
  exact ⟨none, 0, rfl, World.ownsRow_nil _ _ _ _, Below.refl _ _⟩
set_option maxHeartbeats 3200000 in
theorem dist_any (a : Option Addr) (n c : Nat) (sa : Option Addr) (L sc : Nat) (s : List PV) (k D : Int) (w : World) (h : HoldsP w sa L s) (hs : PosOk n k s) (hk : 0 ≤ k ∧ k ≤ 4) (hn : n ≤ 1048576) (hL : L ≤ 1048576) (hD : Au.dmin s n k = D) :
    Calls Tryz.prog 217 #[.slice a n c, .int .i64 k, .slice sa L sc] w fun e w' => e = .returned (.tuple #[.int .i64 (Au.telB D k), .bool (Au.telO D k)]) ∧ Below w.heap.size w w' := by
  obtain ⟨hk0, hk4⟩ := hk
  have H := Lib.hid h; have HS := Lib.hid hs; have LS := Lib.hid h.len; have HD := Lib.hid hD
  have BD := Lib.hid (fun t => Au.dmin_bd (n := n) hk0 (s.take t) (fun x hx => hs x (List.mem_of_mem_take hx)))
  clear h hs hD
  go_enter Tryz.func217, Tryz.ntmps217
  go_wp2_with fail
  go_loopw [8, 9, 15] (fun bv ov iv wr => ∃ (t : Nat) (d : Int), t ≤ L ∧ iv = .int .i64 t ∧ bv = .int .i64 (Au.telB d k) ∧ ov = .bool (Au.telO d k) ∧ Hid (Au.dmin (s.take t) n k = d) ∧ Hid (Below w.heap.size w wr)) (fun _ _ iv _ => L - (intOf iv).toNat)
  case atStart => exact ⟨0, k + 1, by omega, rfl, by unfold Au.telB; rw [if_neg (by omega)], by unfold Au.telO; rw [decide_eq_false (by omega)], Lib.hid rfl, Lib.hid (Below.refl _ _)⟩
  case round =>
    obtain ⟨t, d, ht, rfl, rfl, rfl, hD, hB⟩ := hrel
    by_cases hlt : t < L
    · obtain ⟨bs, os, rfl, hc⟩ := (H.out.below hB.out).at (by omega)
      obtain ⟨p0', p1'⟩ := hc t hlt
      have hok := HS.out _ (getD_memP s t (by have := LS.out; omega))
      have htk := take_succ_getD s p0 t (by have := LS.out; omega)
      obtain ⟨x, hx⟩ : ∃ x, s.getD t p0 = x := ⟨_, rfl⟩
      rw [hx] at p0' p1' hok htk
      obtain ⟨x1, x2⟩ := x
      simp only at p0' p1' hok
      obtain ⟨⟨hx0, hxn⟩, hd0, hdk⟩ := hok
      have bb := BD.out t
      rw [hD.out] at bb
      obtain ⟨bb0, bb1⟩ := bb
      have hsn : Au.dmin (s.take (t + 1)) n k = min d (x2 + n - x1) := by rw [htk, Au.dmin_snoc, hD.out]
      have SN := Lib.hid hsn
      have CW := Lib.hid (fun w => within_yes x1 x2 a n c k w ⟨hx0, hxn⟩ ⟨hd0, hdk⟩ (by omega))
      have b1 := below_one wr (.cells #[.int .i64 x1, .int .i64 x2] 330)
      have g0 : (wr.alloc (.cells #[.int .i64 x1, .int .i64 x2] 330)).cell? ⟨wr.heap.size, 0, none⟩ = some (.int .i64 x1) := by rw [World.cell?_alloc_mark]; rfl
      have g1 : (wr.alloc (.cells #[.int .i64 x1, .int .i64 x2] 330)).cell? ⟨wr.heap.size, 1, none⟩ = some (.int .i64 x2) := by rw [World.cell?_alloc_mark]; rfl
      have BA := Lib.hid (hB.out.trans (b1.mono hB.out.size))
      clear hc hx htk hsn hB
      go_upto_region 10 with fail
      clear b1 p0' p1'
      generalize wr.alloc (.cells #[.int .i64 x1, .int .i64 x2] 330) = wa at *
      generalize wr.heap.size = r at *
      refine (CW.out _).mono ?_
      rintro e wb ⟨rfl, hb⟩
      have q0 := (hb.cell (p := ⟨r, 0, none⟩) (lt_of_cell g0)).trans g0
      have q1 := (hb.cell (p := ⟨r, 1, none⟩) (lt_of_cell g0)).trans g1
      have BC := Lib.hid (BA.out.trans (hb.mono BA.out.size))
      clear hb g0 g1 BA CW
      by_cases hdk' : d ≤ k
      · rw [Au.telB_yes hdk', Au.telO_yes hdk']
        by_cases hek : x2 + n - x1 ≤ k
        · by_cases hed : x2 + n - x1 < d
          · have em : min d (x2 + n - x1) = x2 + n - x1 := by omega
            rw [em] at SN
            have TB := Lib.hid (Au.telB_yes hek)
            have TO := Lib.hid (Au.telO_yes hek)
            clear em
            go_wp2_with fail
            go_roundw
            case rel => exact ⟨t + 1, x2 + n - x1, by omega, by go_num, by rw [TB.out], by rw [TO.out], SN, BC⟩
            case measure => simp [intOf] <;> omega
          · have em : min d (x2 + n - x1) = d := by omega
            rw [em] at SN
            have TB := Lib.hid (Au.telB_yes hdk')
            have TO := Lib.hid (Au.telO_yes hdk')
            clear em
            go_wp2_with fail
            go_roundw
            case rel => exact ⟨t + 1, d, by omega, by go_num, by rw [TB.out], by rw [TO.out], SN, BC⟩
            case measure => simp [intOf] <;> omega
        · have em : min d (x2 + n - x1) = d := by omega
          rw [em] at SN
          have TB := Lib.hid (Au.telB_yes hdk')
          have TO := Lib.hid (Au.telO_yes hdk')
          clear em
          go_wp2_with fail
          go_roundw
          case rel => exact ⟨t + 1, d, by omega, by go_num, by rw [TB.out], by rw [TO.out], SN, BC⟩
          case measure => simp [intOf] <;> omega
      · rw [Au.telB_no hdk', Au.telO_no hdk']
        by_cases hek : x2 + n - x1 ≤ k
        · have em : min d (x2 + n - x1) = x2 + n - x1 := by omega
          rw [em] at SN
          have TB := Lib.hid (Au.telB_yes hek)
          have TO := Lib.hid (Au.telO_yes hek)
          clear em
          go_wp2_with fail
          go_roundw
          case rel => exact ⟨t + 1, x2 + n - x1, by omega, by go_num, by rw [TB.out], by rw [TO.out], SN, BC⟩
          case measure => simp [intOf] <;> omega
        · have em : min d (x2 + n - x1) = d := by omega
          rw [em] at SN
          have TB := Lib.hid (Au.telB_no hdk')
          have TO := Lib.hid (Au.telO_no hdk')
          clear em
          go_wp2_with fail
          go_roundw
          case rel => exact ⟨t + 1, d, by omega, by go_num, by rw [TB.out], by rw [TO.out], SN, BC⟩
          case measure => simp [intOf] <;> omega
    · obtain rfl : t = L := by omega
      have e : d = D := by have := hD.out; rw [List.take_of_length_le (by have := LS.out; omega), HD.out] at this; exact this.symm
      subst e
      have BE := Lib.hid hB.out
      clear hB hD
      go_wp2_with fail
      go_ret2
      exact ⟨rfl, BE.out⟩
end Go.Proofs.YtgnaiahnednllaaGreat
namespace Go.Proofs.YtgnaiahnednllaaGreat
open Go.RowKit
set_option linter.unusedVariables false
set_option maxRecDepth 20000
set_option linter.unusedSimpArgs false
namespace Au
theorem L_zero (q p : List Int) (i : Nat) : Ed.L q p i 0 = i := by
  cases i with
  | zero => simp [Ed.L]
  | succ i => simp [Ed.L]
theorem st_zero (q p : List Int) {k : Int} (hk : 0 ≤ k) : st q p k 0 = [(0, 0)] := by
  have h : ∀ m, m ≤ q.length → needL (cap q p k 0) q.length k (m + 1) = [(0, 0)] := by
    intro m
    induction m with
    | zero =>
      intro _
      rw [needL_succ, needL_zero, List.nil_append]
      have e : cap q p k 0 0 = 0 := by unfold cap; rw [L_zero]; omega
      have e1 : 0 ≤ cap q p k 0 1 := (cap_bd q p k hk 0 1).1
      rw [if_pos ⟨by omega, by omega, by simp only [Nat.zero_add]; omega⟩, e]; rfl
    | succ m ih =>
      intro hm
      rw [needL_succ, ih (by omega)]
      have e : cap q p k 0 (m + 1) = min ((m + 1 : Nat) : Int) (k + 1) := by unfold cap; rw [L_zero]
      have e0 : cap q p k 0 m = min (m : Int) (k + 1) := by unfold cap; rw [L_zero]
      rw [if_neg (fun h => by
        have h1 := h.1
        exact h.2.1 ⟨by omega, by rw [Nat.add_sub_cancel]; omega⟩)]
      rfl
  exact h _ (Nat.le_refl _)
end Au
/-- a call of Step in one go: the row of runes by its own name -/
theorem step_lit (q p : List Int) (j : Nat) (k : Int) (a sa : Option Addr) (n c L sc L2 : Nat) (r : Int) (S S2 : List PV) (w : World) (ha : HoldsI .i32 w a n q) (hs : HoldsP w sa L S) (hk : 0 ≤ k ∧ k ≤ 4) (hn : n ≤ 1048576)
    (hr : p.getD j 0 = r) (hS : Au.st q p k j = S) (hS2 : Au.st q p k (j + 1) = S2) (hL : S2.length = L2) :
    Calls Tryz.prog 219 #[.slice a n c, .int .i64 k, .slice sa L sc, .int .i32 r] w (RetP w L2 S2) := by
  subst hS hS2; exact step_any q p j k a sa n c L sc L2 r w ha hs hk hn hr hL
end Go.Proofs.YtgnaiahnednllaaGreat
namespace Go.Proofs.YtgnaiahnednllaaGreat
open Go.RowKit
set_option linter.unusedVariables false
set_option maxRecDepth 20000
namespace Au
theorem L_pre (q : List Int) {p p' : List Int} {j : Nat} (h : ∀ t, t < j → p.getD t 0 = p'.getD t 0) : ∀ i, Ed.L q p i j = Ed.L q p' i j := by
  intro i
  induction i generalizing j with
  | zero => rw [Ed.L_zeroL, Ed.L_zeroL]
  | succ i ih =>
    induction j with
    | zero => rw [L_zero, L_zero]
    | succ j ihj =>
      have h1 := ih (j := j) (fun t ht => h t (by omega))
      have h2 := ih (j := j + 1) h
      have h3 := ihj (fun t ht => h t (by omega))
      simp only [Ed.L]
      rw [h1, h2, h3, h j (by omega)]
theorem st_pre (q : List Int) {p p' : List Int} (k : Int) {j : Nat} (h : ∀ t, t < j → p.getD t 0 = p'.getD t 0) : st q p k j = st q p' k j := by
  have e : cap q p k j = cap q p' k j := by funext i; unfold cap; rw [L_pre q h i]
  unfold st; rw [e]
theorem st_whole {q p : List Int} {k : Int} (hk : 0 ≤ k) (j : Nat) : dmin (st q p k j) q.length k = min (Ed.L q p q.length j) (k + 1) :=
  dmin_whole (cap_lip q p k j _) (fun i _ => (cap_bd q p k hk j i).2)
end Au
end Go.Proofs.YtgnaiahnednllaaGreat
namespace Go.Proofs.YtgnaiahnednllaaGreat
open Go.ChangeShapes Go.WideShapes Go.ChangeAt Go.RowKit
set_option linter.unusedVariables false
set_option maxRecDepth 20000
abbrev KV := Int × Tx
def k0 : KV := (0, ByteArray.empty)
def HoldsK (w : World) (a : Option Addr) (n : Nat) (ks : List KV) : Prop := ks.length = n ∧ (0 < n → ∃ b o, a = some ⟨b, o, none⟩ ∧ ∀ i, i < n → w.cell? ⟨b, o + i * 2, none⟩ = some (.int .i64 (ks.getD i k0).1) ∧ w.cell? ⟨b, o + i * 2 + 1, none⟩ = some (.string (ks.getD i k0).2))
theorem HoldsK.len {w : World} {a : Option Addr} {n : Nat} {ks : List KV} (h : HoldsK w a n ks) : ks.length = n := h.1
theorem HoldsK.at {w : World} {a : Option Addr} {n : Nat} {ks : List KV} (h : HoldsK w a n ks) (h0 : 0 < n) : ∃ b o, a = some ⟨b, o, none⟩ ∧ ∀ i, i < n → w.cell? ⟨b, o + i * 2, none⟩ = some (.int .i64 (ks.getD i k0).1) ∧ w.cell? ⟨b, o + i * 2 + 1, none⟩ = some (.string (ks.getD i k0).2) := h.2 h0
theorem HoldsK.below {w w' : World} {a : Option Addr} {n : Nat} {ks : List KV} (h : HoldsK w a n ks) (hb : Below w.heap.size w w') : HoldsK w' a n ks := by
  refine ⟨h.1, fun h0 => ?_⟩
  obtain ⟨b, o, ha, hc⟩ := h.2 h0
  have hlt := lt_of_cell (hc 0 h0).1
  refine ⟨b, o, ha, fun i hi => ?_⟩
  rw [hb.cell (p := ⟨b, o + i * 2, none⟩) hlt, hb.cell (p := ⟨b, o + i * 2 + 1, none⟩) hlt]
  exact hc i hi
theorem getD_memK (zs : List KV) (j : Nat) (h : j < zs.length) : zs.getD j k0 ∈ zs := by
  rw [List.getD_eq_getElem?_getD, List.getElem?_eq_getElem h]; simp
def keyV (k : KV) : Value := .agg #[.int .i64 k.1, .string k.2]
def i64okK (z : Int) : Prop := -9223372036854775808 ≤ z ∧ z ≤ 9223372036854775807
def KeyOk (k : KV) : Prop := i64okK k.1 ∧ k.2.size ≤ 9223372036854775807
def ordK (a b : KV) : Int := if a.1 < b.1 then -1 else if b.1 < a.1 then 1 else cmpS a.2 b.2
def lessK (a b : KV) : Bool := decide (ordK a b < 0)
theorem ordK_bd (a b : KV) : ordK a b = -1 ∨ ordK a b = 0 ∨ ordK a b = 1 := by
  unfold ordK; split
  · simp
  · split
    · simp
    · exact cmpS_bd _ _
theorem ordK_swap (a b : KV) : ordK b a = - ordK a b := by
  unfold ordK
  rcases Int.lt_trichotomy a.1 b.1 with h | h | h
  · rw [if_pos h, if_neg (by omega), if_pos h]; rfl
  · rw [if_neg (by omega), if_neg (by omega), if_neg (by omega), if_neg (by omega), cmpS_swap]
  · rw [if_pos h, if_neg (by omega), if_pos h]
theorem ordK_lt {a b : KV} : ordK a b < 0 ↔ a.1 < b.1 ∨ (a.1 = b.1 ∧ cmpS a.2 b.2 < 0) := by
  unfold ordK
  rcases Int.lt_trichotomy a.1 b.1 with h | h | h
  · rw [if_pos h]; simp [h]
  · rw [if_neg (by omega), if_neg (by omega)]
    constructor
    · intro k; exact Or.inr ⟨h, k⟩
    · rintro (k | k)
      · omega
      · exact k.2
  · rw [if_neg (by omega), if_pos h]
    constructor
    · intro k; omega
    · rintro (k | k) <;> omega
theorem ordK_zero {a b : KV} : ordK a b = 0 ↔ a = b := by
  unfold ordK
  rcases Int.lt_trichotomy a.1 b.1 with h | h | h
  · rw [if_pos h]; constructor
    · intro k; omega
    · intro k; rw [k] at h; omega
  · rw [if_neg (by omega), if_neg (by omega), cmpS_zero]
    exact ⟨fun k => Prod.ext h k, fun k => by rw [k]⟩
  · rw [if_neg (by omega), if_pos h]; constructor
    · intro k; omega
    · intro k; rw [k] at h; omega
theorem ordK_trans {a b c : KV} (h : ordK a b < 0) (k : ordK b c < 0) : ordK a c < 0 := by
  rw [ordK_lt] at *
  rcases h with h | ⟨h, h'⟩ <;> rcases k with k | ⟨k, k'⟩
  · exact Or.inl (by omega)
  · exact Or.inl (by omega)
  · exact Or.inl (by omega)
  · exact Or.inr ⟨by omega, cmpS_trans h' k'⟩
theorem ordK_irrefl (a : KV) : ¬ ordK a a < 0 := by rw [ordK_zero.2 rfl]; omega
/-- not above, one behind the other -/
theorem ordK_le_trans {a b c : KV} (h : ¬ ordK b a < 0) (k : ¬ ordK c b < 0) : ¬ ordK c a < 0 := by
  intro h3
  rcases ordK_bd a b with e | e | e
  · exact k (ordK_trans h3 (by omega))
  · rw [ordK_zero.1 e] at h3; exact k h3
  · rw [ordK_swap] at h; omega
end Go.Proofs.YtgnaiahnednllaaGreat
namespace Go.Proofs.YtgnaiahnednllaaGreat
set_option linter.unusedVariables false
set_option maxRecDepth 20000
/-- not behind -/
def leK (a b : KV) : Prop := ¬ ordK b a < 0
theorem leK_trans {a b c : KV} (h : leK a b) (k : leK b c) : leK a c := ordK_le_trans h k
theorem leK_of_lt {a b : KV} (h : ordK a b < 0) : leK a b := by unfold leK; rw [ordK_swap]; omega
theorem leK_total (a b : KV) : leK a b ∨ leK b a := by unfold leK; have := ordK_swap a b; omega
theorem leK_asymm {a b : KV} (h : leK a b) (k : leK b a) : a = b := by
  unfold leK at h k; have := ordK_swap a b; exact ordK_zero.1 (by omega)
def SortedR (l : List KV) : Prop := l.Pairwise leK
theorem sortedK_unique : ∀ {xs ys : List KV}, SortedR xs → SortedR ys → xs.Perm ys → xs = ys
  | [], ys, _, _, p => (List.perm_nil.1 p.symm).symm
  | x :: xs, [], _, _, p => absurd (List.perm_nil.1 p) (by simp)
  | x :: xs, y :: ys, hx, hy, p => by
    have h1 : x = y := by
      have hy' : y ∈ x :: xs := p.mem_iff.2 (by simp)
      have hx' : x ∈ y :: ys := p.mem_iff.1 (by simp)
      rcases List.mem_cons.1 hy' with e | e
      · exact e.symm
      · rcases List.mem_cons.1 hx' with e2 | e2
        · exact e2
        · exact leK_asymm ((List.pairwise_cons.1 hx).1 y e) ((List.pairwise_cons.1 hy).1 x e2)
    subst h1
    rw [sortedK_unique (List.pairwise_cons.1 hx).2 (List.pairwise_cons.1 hy).2 (List.perm_cons x |>.1 p)]
/-- put in ahead of the first that it is ahead of -/
def putK (x : KV) : List KV → List KV
  | [] => [x]
  | y :: l => if ordK x y < 0 then x :: y :: l else y :: putK x l
theorem putK_perm (x : KV) : ∀ l, (putK x l).Perm (x :: l)
  | [] => List.Perm.refl _
  | y :: l => by
    unfold putK; split
    · exact List.Perm.refl _
    · exact ((putK_perm x l).cons y).trans (List.Perm.swap x y l)
theorem putK_sorted (x : KV) : ∀ l, SortedR l → SortedR (putK x l)
  | [], _ => by simp [putK, SortedR]
  | y :: l, h => by
    obtain ⟨h1, h2⟩ := List.pairwise_cons.1 h
    unfold putK; split
    · rename_i hlt
      refine List.pairwise_cons.2 ⟨fun z hz => ?_, h⟩
      rcases List.mem_cons.1 hz with rfl | hz
      · exact leK_of_lt hlt
      · exact leK_trans (leK_of_lt hlt) (h1 z hz)
    · rename_i hlt
      refine List.pairwise_cons.2 ⟨fun z hz => ?_, putK_sorted x l h2⟩
      rcases List.mem_cons.1 ((putK_perm x l).mem_iff.1 hz) with rfl | hz
      · exact hlt
      · exact h1 z hz
def sortK (l : List KV) : List KV := l.foldl (fun acc x => putK x acc) []
theorem foldK (l : List KV) : ∀ acc, SortedR acc → SortedR (l.foldl (fun acc x => putK x acc) acc) ∧ (l.foldl (fun acc x => putK x acc) acc).Perm (acc ++ l) := by
  induction l with
  | nil => intro acc h; simpa using h
  | cons x l ih =>
    intro acc h
    obtain ⟨h1, h2⟩ := ih (putK x acc) (putK_sorted x acc h)
    refine ⟨h1, h2.trans ?_⟩
    refine ((putK_perm x acc).append_right l).trans ?_
    exact (List.perm_middle (a := x) (l₁ := acc) (l₂ := l)).symm
theorem sortK_sorted (l : List KV) : SortedR (sortK l) := (foldK l [] List.Pairwise.nil).1
theorem sortK_perm (l : List KV) : (sortK l).Perm l := (foldK l [] List.Pairwise.nil).2
theorem sortK_length (l : List KV) : (sortK l).length = l.length := (sortK_perm l).length_eq
theorem sortK_of {l m : List KV} (h : SortedR m) (p : m.Perm l) : m = sortK l := sortedK_unique h (sortK_sorted l) (p.trans (sortK_perm l).symm)
theorem sortK_same {l : List KV} (h : SortedR l) : sortK l = l := (sortK_of h (List.Perm.refl _)).symm
def mleK (x y : KV) : Bool := !decide (ordK y x < 0)
theorem mergeK (l : List KV) : l.mergeSort mleK = sortK l := by
  refine sortK_of ?_ (List.mergeSort_perm l _)
  have h := List.pairwise_mergeSort (le := mleK) (fun a b c h1 h2 => by
    simp only [mleK, Bool.not_eq_true', decide_eq_false_iff_not] at *
    exact leK_trans h1 h2) (fun a b => by
    simp only [mleK, Bool.or_eq_true, Bool.not_eq_true', decide_eq_false_iff_not]
    exact leK_total a b) l
  exact h.imp fun {a b} hab => by
    simp only [mleK, Bool.not_eq_true', decide_eq_false_iff_not] at hab
    exact hab
end Go.Proofs.YtgnaiahnednllaaGreat
namespace Go.Proofs.YtgnaiahnednllaaGreat
open Go.RowKit
set_option linter.unusedVariables false
set_option maxRecDepth 20000
def keysV : List KV → List Value
  | [] => []
  | k :: ks => .int .i64 k.1 :: .string k.2 :: keysV ks
theorem keysV_len : ∀ ks : List KV, (keysV ks).length = ks.length * 2
  | [] => rfl
  | k :: ks => by simp [keysV, keysV_len ks]; omega
theorem keysV_app : ∀ ks ls : List KV, keysV (ks ++ ls) = keysV ks ++ keysV ls
  | [], ls => rfl
  | k :: ks, ls => by simp [keysV, keysV_app ks ls]
theorem keysV_one : ∀ (ks : List KV), ∀ u ∈ keysV ks, u.oneCell' = true
  | [], u, h => by simp [keysV] at h
  | k :: ks, u, h => by
    simp only [keysV, List.mem_cons] at h
    rcases h with h | h | h
    · subst h; rfl
    · subst h; rfl
    · exact keysV_one ks u h
theorem keysV_at : ∀ (ks : List KV) (i : Nat), i < ks.length → (keysV ks)[i * 2]? = some (.int .i64 (ks.getD i k0).1) ∧ (keysV ks)[i * 2 + 1]? = some (.string (ks.getD i k0).2)
  | [], i, h => by simp at h
  | k :: ks, 0, _ => by simp [keysV]
  | k :: ks, i + 1, h => by
    have ih := keysV_at ks i (by simpa using h)
    have e1 : (i + 1) * 2 = i * 2 + 1 + 1 := by omega
    rw [e1]
    simpa [keysV] using ih
theorem HoldsK.cells {w : World} {b o n : Nat} {ks : List KV} (h : HoldsK w (some ⟨b, o, none⟩) n ks) : ∀ j u, (keysV ks)[j]? = some u → w.cell? ((⟨b, o, none⟩ : Addr).add j) = some u := by
  intro j u hj
  have hl := h.len
  have hjl : j < (keysV ks).length := by
    rcases Nat.lt_or_ge j (keysV ks).length with h' | h'
    · exact h'
    · rw [List.getElem?_eq_none h'] at hj; cases hj
  rw [keysV_len] at hjl
  obtain ⟨b', o', ha, hc⟩ := h.at (by omega)
  cases ha
  obtain ⟨c1, c2⟩ := hc (j / 2) (by omega)
  obtain ⟨v1, v2⟩ := keysV_at ks (j / 2) (by omega)
  rw [Go.WideShapes.add_plain]
  have hcase : j = j / 2 * 2 ∨ j = j / 2 * 2 + 1 := by omega
  rcases hcase with e | e
  · rw [← e] at v1 c1
    rw [c1, ← hj, v1]
  · have e2 : o + j / 2 * 2 + 1 = o + j := by omega
    rw [← e] at v2
    rw [e2] at c2
    rw [c2, ← hj, v2]
theorem HoldsK.own {w : World} {B : Nat} {e : TypeId} {a : Option Addr} {n c : Nat} {ks : List KV} (h : w.ownsRow B e 2 (.slice a n c) n (keysV ks)) : HoldsK w a n ks := by
  have hl : ks.length = n := by have := h.1; rw [keysV_len] at this; omega
  refine ⟨hl, fun h0 => ?_⟩
  rcases h.2 with ⟨_, h1⟩ | ⟨g, cap, cur, hv, _, hh, hc, _, hs, hx⟩
  · omega
  · simp only [Value.slice.injEq] at hv
    obtain ⟨rfl, _, rfl⟩ := hv
    refine ⟨g, 0, rfl, fun i hi => ?_⟩
    obtain ⟨v1, v2⟩ := keysV_at ks i (by omega)
    rw [← hx] at v1 v2
    rw [List.getElem?_take_of_lt (by omega)] at v1 v2
    rw [Array.getElem?_toList] at v1 v2
    rw [Nat.zero_add, Joins.cell_of_block hh, Joins.cell_of_block hh]
    exact ⟨v1, v2⟩
theorem HoldsK.take {w : World} {a : Option Addr} {n : Nat} {ks : List KV} (h : HoldsK w a n ks) (k : Nat) (hk : k ≤ n) : HoldsK w a k (ks.take k) := by
  have hl := h.len
  refine ⟨by simp; omega, fun h0 => ?_⟩
  obtain ⟨b, o, ha, hc⟩ := h.at (by omega)
  refine ⟨b, o, ha, fun i hi => ?_⟩
  have e : (ks.take k).getD i k0 = ks.getD i k0 := by simp [List.getD_eq_getElem?_getD, List.getElem?_take_of_lt hi]
  rw [e]; exact hc i (by omega)
theorem HoldsK.cellsAny {w : World} {a : Option Addr} {n : Nat} {ks : List KV} (h : HoldsK w a n ks) {w' : World} (hg : w.grownBy w' none) : ∀ ad, a = some ad → ∀ j u, (keysV ks)[j]? = some u → w'.cell? (ad.add j) = some u := by
  intro ad ha j u hj
  have hjl : j < (keysV ks).length := (List.getElem?_eq_some_iff.1 hj).1
  rw [keysV_len] at hjl
  obtain ⟨b, o, hb, _⟩ := h.at (by have := h.len; omega)
  rw [ha] at hb
  obtain rfl := Option.some.inj hb
  subst ha
  exact hg.cell (h.cells j u hj) (by simp)
end Go.Proofs.YtgnaiahnednllaaGreat
namespace Go.Proofs.YtgnaiahnednllaaGreat
open Go.RowKit
set_option linter.unusedVariables false
set_option maxRecDepth 20000
theorem item_info : (Tryz.prog.info? 39).map (fun i => (i.zero, i.size, i.bytes)) = some (some (.agg #[.int .i64 0, .string ⟨#[]⟩]), 2, 24) := by kernel_rfl
/-- a new slice of these items -/
def RetI (w : World) (ys : List KV) (e : Ending) (w' : World) : Prop := ∃ a c, e = .returned (.slice a ys.length c) ∧ w'.ownsRow w.heap.size 39 2 (.slice a ys.length c) ys.length (keysV ys) ∧ Below w.heap.size w w'
theorem retI_own {w w' : World} {a : Option Addr} {c n : Nat} {ys zs : List KV} (h : ys = zs) (hn : ys.length = n) (hh : w'.ownsRow w.heap.size 39 2 (.slice a n c) n (keysV ys)) (hb : Below w.heap.size w w') (v : Value) (hv : v = .slice a n c) : RetI w zs (.returned v) w' := by
  subst h hn hv; exact ⟨a, c, rfl, hh, hb⟩
open Go.ChangeShapes Go.WideShapes Go.ChangeAt in
theorem keysV_snoc (ks : List KV) (k : KV) : keysV (ks ++ [k]) = keysV ks ++ [.int .i64 k.1, .string k.2] := by rw [keysV_app]; rfl
theorem _root_.Go.World.ownsRow.mono' {w : World} {base B : Nat} {e : TypeId} {size : Nat} {v : Value} {n : Nat} {xs : List Value} (h : w.ownsRow base e size v n xs) (hB : B ≤ base) : w.ownsRow B e size v n xs := by
  obtain ⟨h1, h2⟩ := h
  refine ⟨h1, ?_⟩
  rcases h2 with ⟨h2, h3⟩ | ⟨g, cap, cur, h2, h3, h4⟩
  · exact Or.inl ⟨h2, h3⟩
  · exact Or.inr ⟨g, cap, cur, h2, Nat.le_trans hB h3, h4⟩
end Go.Proofs.YtgnaiahnednllaaGreat
namespace Go.Proofs.YtgnaiahnednllaaGreat
open Go.RowKit
set_option linter.unusedVariables false
set_option maxRecDepth 20000
def badP (r n : Int) : Prop := n = 0 ∨ ¬ goodP r ∨ (n = 3 ∧ r < 2048) ∨ (n = 4 ∧ r < 65536)
instance (r n : Int) : Decidable (badP r n) := by unfold badP; infer_instance
end Go.Proofs.YtgnaiahnednllaaGreat
namespace Go.Proofs.YtgnaiahnednllaaGreat
open Go.RowKit
set_option linter.unusedVariables false
set_option maxRecDepth 20000
theorem asked_any (s : ByteArray) (w : World) (hs : s.size ≤ 9223372036854775807) :
    Calls Tryz.prog 118 #[.string s] w fun e w' => e = .returned (.bool (decide (0 ≤ lenS s ∧ lenS s ≤ 16))) ∧ Below w.heap.size w w' := by
  have h1 := Lib.hid (len_any s w hs)
  obtain ⟨n, hn⟩ : ∃ n, lenS s = n := ⟨_, rfl⟩
  rw [hn] at h1 ⊢
  clear hn
  have hc : n < 0 ∨ (0 ≤ n ∧ n ≤ 16) ∨ (0 ≤ n ∧ 16 < n) := by omega
  rcases hc with h | ⟨h, h2⟩ | ⟨h, h2⟩
  · rw [decide_eq_false (by omega)]
    go_enter Tryz.func118, Tryz.ntmps118
    go_wp2_with fail
    refine h1.out.mono ?_
    rintro e w' ⟨rfl, hb⟩
    go_wp2_with fail
    go_ret
    exact ⟨rfl, hb⟩
  · rw [decide_eq_true (by omega)]
    have x1 : decide (n ≤ 16) = true := by simpa using h2
    go_enter Tryz.func118, Tryz.ntmps118
    go_wp2_with fail
    refine h1.out.mono ?_
    rintro e w' ⟨rfl, hb⟩
    go_wp2_with fail
    go_ret
    exact ⟨ret_bool (by simp [*]), hb⟩
  · rw [decide_eq_false (by omega)]
    have x1 : decide (n ≤ 16) = false := by simpa using h2
    go_enter Tryz.func118, Tryz.ntmps118
    go_wp2_with fail
    refine h1.out.mono ?_
    rintro e w' ⟨rfl, hb⟩
    go_wp2_with fail
    go_ret
    exact ⟨ret_bool (by simp [*]), hb⟩
theorem asked_lit (s : ByteArray) (c : Bool) (w : World) (hs : s.size ≤ 9223372036854775807) (hc : decide (0 ≤ lenS s ∧ lenS s ≤ 16) = c) :
    Calls Tryz.prog 118 #[.string s] w fun e w' => e = .returned (.bool c) ∧ Below w.heap.size w w' := by subst hc; exact asked_any s w hs
end Go.Proofs.YtgnaiahnednllaaGreat
namespace Go.Proofs.YtgnaiahnednllaaGreat
open Go.RowKit
set_option linter.unusedVariables false
set_option maxRecDepth 20000
/-- a query that may be asked -/
def mayP (s : ByteArray) (k n : Int) : Prop := (0 ≤ k ∧ k ≤ 4) ∧ (1 ≤ n ∧ n ≤ 10) ∧ 0 ≤ lenS s ∧ lenS s ≤ 16
instance (s : ByteArray) (k n : Int) : Decidable (mayP s k n) := by unfold mayP; infer_instance
end Go.Proofs.YtgnaiahnednllaaGreat
namespace Go.Proofs.YtgnaiahnednllaaGreat
open Go.RowKit
set_option linter.unusedVariables false
set_option maxRecDepth 20000
theorem str_info : (Tryz.prog.info? 9).map (fun i => (i.zero, i.size, i.bytes)) = some (some (.string ⟨#[]⟩), 1, 16) := by kernel_rfl
theorem getD_memT' (zs : List Tx) (j : Nat) (h : j < zs.length) : zs.getD j ByteArray.empty ∈ zs := by
  rw [List.getD_eq_getElem?_getD, List.getElem?_eq_getElem h]; simp
/-- a list of texts that was answered, the call's own -/
def RetO (w : World) (ys : List Tx) (e : Ending) (w' : World) : Prop := ∃ a c, e = .returned (.slice a ys.length c) ∧ w'.ownsRow w.heap.size 9 1 (.slice a ys.length c) ys.length (strsV ys) ∧ Below w.heap.size w w'
theorem ret_own {w w' : World} {a : Option Addr} {c n : Nat} {ys zs : List Tx} (h : ys = zs) (hn : ys.length = n) (hh : w'.ownsRow w.heap.size 9 1 (.slice a n c) n (strsV ys)) (hb : Below w.heap.size w w') (v : Value) (hv : v = .slice a n c) : RetO w zs (.returned v) w' := by
  subst h hv hn; exact ⟨a, c, rfl, hh, hb⟩
end Go.Proofs.YtgnaiahnednllaaGreat
namespace Go.Proofs.YtgnaiahnednllaaGreat
open Go.RowKit
set_option linter.unusedVariables false
set_option maxRecDepth 20000
/-- near words, as they stand -/
def nearL (ws : List Tx) (s : Tx) (k : Int) : List KV := ws.filterMap fun t => if 0 ≤ distS t s ∧ distS t s ≤ k then some (distS t s, t) else none
theorem nearL_app (a b : List Tx) (s : Tx) (k : Int) : nearL (a ++ b) s k = nearL a s k ++ nearL b s k := by simp [nearL]
theorem nearL_len (ws : List Tx) (s : Tx) (k : Int) : (nearL ws s k).length ≤ ws.length := List.length_filterMap_le _ _
end Go.Proofs.YtgnaiahnednllaaGreat
namespace Go.Proofs.YtgnaiahnednllaaGreat
set_option linter.unusedVariables false
set_option maxRecDepth 20000
theorem nearL_cons (t : Tx) (ws : List Tx) (s : Tx) (k : Int) : nearL (t :: ws) s k = (if 0 ≤ distS t s ∧ distS t s ≤ k then [(distS t s, t)] else []) ++ nearL ws s k := by
  unfold nearL; rw [List.filterMap_cons]
  by_cases h : 0 ≤ distS t s ∧ distS t s ≤ k
  · simp [h]
  · simp only [if_neg h, List.nil_append]
end Go.Proofs.YtgnaiahnednllaaGreat
namespace Go.Proofs.YtgnaiahnednllaaGreat
open Go.RowKit
set_option linter.unusedVariables false
set_option maxRecDepth 20000
theorem ro_decodeN_of_enc (n r w b0 b1 b2 b3 : Nat) (h : Enc r w b0 b1 b2 b3) (hw : w ≤ n) (hs : r < 55296 ∨ 57343 < r) : Lib.decodeN n b0 b1 b2 b3 = (r, w) := by
  unfold Lib.decodeN
  rcases h with ⟨rfl, rfl, h⟩ | ⟨rfl, h0, h1, h2, h3⟩ | ⟨rfl, h0, h1, h2, h3, h4⟩ | ⟨rfl, h0, h1, h2, h3, h4, h5⟩
  · rw [if_pos h]
  · rw [if_neg (by omega), if_pos (by omega)]
    have e : b0 % 32 * 64 + b1 % 64 = r := by omega
    simp only [e]
    rw [if_pos (by omega)]
  · rw [if_neg (by omega), if_neg (by omega), if_pos (by omega)]
    have e : b0 % 16 * 4096 + b1 % 64 * 64 + b2 % 64 = r := by omega
    simp only [e]
    rw [if_pos (by omega)]
  · rw [if_neg (by omega), if_neg (by omega), if_neg (by omega), if_pos (by omega)]
    have e : b0 % 8 * 262144 + b1 % 64 * 4096 + b2 % 64 * 64 + b3 % 64 = r := by omega
    simp only [e]
    rw [if_pos (by omega)]
/-- the text of some runes has these -/
theorem getB (b : ByteArray) (i : Nat) (h : i < b.size) (h2 : i < b.data.toList.length) : b[i]'h = b.data.toList[i] := by
  cases b with | mk d => simp [ByteArray.getElem_eq_getElem_data]
theorem ro_runes_one (r : Nat) (h : goodP (r : Int)) : runesS (Utf8.encode (r : Int)) = [r] ∧ 0 ≤ lenS (Utf8.encode (r : Int)) := by
  obtain ⟨g0, g1, g2, g3⟩ := h
  obtain ⟨w, b0, b1, b2, b3, e⟩ : ∃ w b0 b1 b2 b3, Enc r w b0 b1 b2 b3 := by
    by_cases h1 : r < 128
    · exact ⟨1, r, 0, 0, 0, Or.inl ⟨rfl, rfl, h1⟩⟩
    by_cases h2 : r < 2048
    · exact ⟨2, _, _, 0, 0, Or.inr (Or.inl ⟨rfl, rfl, rfl, by omega, h2⟩)⟩
    by_cases h3 : r < 65536
    · exact ⟨3, _, _, _, 0, Or.inr (Or.inr (Or.inl ⟨rfl, rfl, rfl, rfl, by omega, h3⟩))⟩
    · exact ⟨4, _, _, _, _, Or.inr (Or.inr (Or.inr ⟨rfl, rfl, rfl, rfl, rfl, by omega, by omega⟩))⟩
  have hw := ue_enc_width e
  have hs : r < 55296 ∨ 57343 < r := by omega
  have hb : b0 < 256 ∧ (2 ≤ w → b1 < 256) ∧ (3 ≤ w → b2 < 256) ∧ (4 ≤ w → b3 < 256) := by unfold Enc at e; omega
  have hl := encode_enc r w b0 b1 b2 b3 e hs
  have hsz : (Utf8.encode (r : Int)).size = w := by
    have h1 := congrArg List.length hl
    rw [show (Utf8.encode (r : Int)).size = (Utf8.encode (r : Int)).data.toList.length by simp, h1]; simp; omega
  have hbt : ∀ i, i < w → byteS (Utf8.encode (r : Int)) i = [b0, b1, b2, b3].getD i 0 := by
    intro i hi
    have hi4 : i = 0 ∨ i = 1 ∨ i = 2 ∨ i = 3 := by omega
    rw [← byteS_at _ i (by omega)]
    have hx : (Utf8.encode (r : Int))[i]'(by omega) = UInt8.ofNat ([b0, b1, b2, b3].getD i 0) := by
      have h5 : i < (Utf8.encode (r : Int)).data.toList.length := by have := hsz; simp; omega
      have h6 : (Utf8.encode (r : Int))[i]'(by omega) = (Utf8.encode (r : Int)).data.toList[i] := getB _ _ _ _
      rw [h6]
      simp only [hl, List.getElem_map, List.getElem_take]
      rcases hi4 with rfl | rfl | rfl | rfl <;> rfl
    rw [hx, UInt8.toNat_ofNat']
    rcases hi4 with rfl | rfl | rfl | rfl <;> simp <;> omega
  have hd : Utf8.decode (Utf8.encode (r : Int)) 0 = (r, w) := by
    rw [decode_bytes]
    apply ro_decodeN_of_enc _ _ _ _ _ _ _ _ (by omega) hs
    have t0 := hbt 0 (by omega)
    simp only [List.getD_cons_zero] at t0
    unfold Enc at e ⊢
    simp only [Nat.zero_add]
    rw [t0]
    rcases e with e | e | e | e
    · exact Or.inl e
    · have t1 := hbt 1 (by omega)
      simp at t1
      rw [t1]; exact Or.inr (Or.inl e)
    · have t1 := hbt 1 (by omega)
      have t2 := hbt 2 (by omega)
      simp at t1 t2
      rw [t1, t2]; exact Or.inr (Or.inr (Or.inl e))
    · have t1 := hbt 1 (by omega)
      have t2 := hbt 2 (by omega)
      have t3 := hbt 3 (by omega)
      simp at t1 t2 t3
      rw [t1, t2, t3]; exact Or.inr (Or.inr (Or.inr e))
  have hr : runesS (Utf8.encode (r : Int)) = [r] := by
    show runesN _ _ 0 = _
    obtain ⟨g, hg, hst, _⟩ := runesN_step (Utf8.encode (r : Int)) (Utf8.encode (r : Int)).size 0 (by omega) (by omega)
    rw [hst, hd, runesN_end _ _ _ (by simp only; omega)]
  refine ⟨hr, ?_⟩
  rw [lenS_good (by rw [hr]; intro q hq; simp at hq; rw [hq]; omega), hr]
  simp
/-- the text of a rune that stands first in a well made text -/
theorem enc_lab {t : Tx} (h : 0 ≤ lenS t) (h0 : 0 < t.size) : runesS (Utf8.encode (labS t : Int)) = [labS t] ∧ lenS (Utf8.encode (labS t : Int)) = 1 ∧ (Utf8.encode (labS t : Int)).size ≤ 4 := by
  obtain ⟨h1, h2, -⟩ := good_first h h0
  obtain ⟨e1, e2⟩ := ue_read_well t 0 h0 h1
  have hw := ue_enc_width e1
  have hg : goodP (labS t : Int) := by
    have hl : labS t = (Utf8.decode t 0).1 := rfl
    rw [hl]; unfold goodP; omega
  have h3 := ro_runes_one (labS t) hg
  refine ⟨h3.1, ?_, ?_⟩
  · have := (lenS_pos h3.2).2
    rw [h3.1] at this; simpa using this
  · have h5 := encode_enc _ _ _ _ _ _ e1 e2
    have h6 := congrArg List.length h5
    have h7 : (Utf8.encode (labS t : Int)).size = (Utf8.encode (labS t : Int)).data.toList.length := by simp
    have hl : labS t = (Utf8.decode t 0).1 := rfl
    rw [h7, hl, h6]; simp; omega
end Go.Proofs.YtgnaiahnednllaaGreat
namespace Go.Proofs.YtgnaiahnednllaaGreat
open Go.RowKit
set_option linter.unusedVariables false
set_option maxRecDepth 20000
/-- what is near s of the texts that begin with p and go on with l -/
def subW (p s : Tx) (k : Int) (l : List Tx) : List KV := nearL (l.map (fun x => p ++ x)) s k
theorem subW_app (p s : Tx) (k : Int) (a b : List Tx) : subW p s k (a ++ b) = subW p s k a ++ subW p s k b := by simp [subW, nearL_app]
/-- the automaton's state of s behind p -/
def stW (s : Tx) (k : Int) (p : Tx) : List PV := Au.st (intsN (runesS s)) (intsN (runesS p)) k (runesS p).length
theorem getD_ints (l m : List Nat) (t : Nat) (h : t < l.length) : (intsN (l ++ m)).getD t 0 = (intsN l).getD t 0 := by
  simp only [intsN, List.map_append, List.getD_eq_getElem?_getD]
  rw [List.getElem?_append_left (by simpa using h)]
theorem getD_intsR (l : List Nat) (r : Nat) (m : List Nat) : (intsN (l ++ r :: m)).getD l.length 0 = (r : Int) := by
  simp [intsN, List.getD_eq_getElem?_getD]
theorem stW_pre (s : Tx) (k : Int) (p : Tx) (m : List Nat) : Au.st (intsN (runesS s)) (intsN (runesS p ++ m)) k (runesS p).length = stW s k p :=
  Au.st_pre _ _ (fun t ht => getD_ints _ _ t ht)
theorem stW_dist {s p : Tx} {k : Int} (hs : 0 ≤ lenS s) (hp : 0 ≤ lenS p) (hk : 0 ≤ k) : Au.dmin (stW s k p) (runesS s).length k = min (distS p s) (k + 1) := by
  have h := Au.st_whole (q := intsN (runesS s)) (p := intsN (runesS p)) hk (runesS p).length
  rw [intsN_length] at h
  unfold stW
  rw [h, distS, if_pos ⟨hp, hs⟩, Ed.L_sym]
theorem st_deads {q p : List Int} {k : Int} (hk : 0 ≤ k) {j : Nat} (h : Au.st q p k j = []) : ∀ d, Au.st q p k (j + d) = []
  | 0 => h
  | d + 1 => Au.st_dead hk (st_deads hk h d)
theorem stW_dead {s p : Tx} {k : Int} (hs : 0 ≤ lenS s) (hp : 0 ≤ lenS p) (hk : 0 ≤ k) (h : stW s k p = []) (t : Tx) (ht : 0 ≤ lenS t) : k < distS (p ++ t) s := by
  have h1 : 0 ≤ lenS (p ++ t) := by rw [lenS_join p t hp ht]; omega
  have h2 := stW_dist hs h1 hk
  have h3 : stW s k (p ++ t) = [] := by
    unfold stW
    rw [runesS_join p t hp, List.length_append]
    refine st_deads hk ?_ _
    rw [stW_pre]; exact h
  rw [h3] at h2
  have h4 : Au.dmin [] (runesS s).length k = k + 1 := rfl
  rw [h4] at h2
  omega
theorem subW_dead {s p : Tx} {k : Int} (hs : 0 ≤ lenS s) (hp : 0 ≤ lenS p) (hk : 0 ≤ k) (h : stW s k p = []) (l : List Tx) (hl : ∀ t ∈ l, 0 ≤ lenS t) : subW p s k l = [] := by
  unfold subW nearL
  rw [List.filterMap_eq_nil_iff]
  intro x hx
  obtain ⟨t, ht, rfl⟩ := List.mem_map.1 hx
  have := stW_dead hs hp hk h t (hl t ht)
  rw [if_neg (by omega)]
theorem subW_final {s p : Tx} {k : Int} (l : List Tx) : subW p s k l = (if finS l = true ∧ 0 ≤ distS p s ∧ distS p s ≤ k then [(distS p s, p)] else []) ++ subW p s k (bodS l) := by
  unfold bodS
  cases hb : finS l with
  | false => simp
  | true =>
    have hhd : l.head? = some (⟨#[]⟩ : ByteArray) := of_decide_eq_true hb
    cases l with
    | nil => cases hhd
    | cons t l2 =>
      rw [List.head?_cons] at hhd
      injection hhd with hhd
      subst hhd
      have hp : p ++ (⟨#[]⟩ : ByteArray) = p := by apply ByteArray.ext; simp
      simp only [if_true, List.tail_cons, true_and, subW, List.map_cons, hp]
      rw [nearL_cons]
/-- the texts that are left when j edges have been gone along -/
def dropE : Nat → List Tx → List Tx
  | 0, l => l
  | j + 1, l => (dropE j l).drop (folS (dropE j l)).2.length
theorem EdOk.at {R : List (List Tx)} {es : List EdP} {l : List Tx} (h : EdOk R l es) : ∀ j, j ≤ es.length → EdOk R (dropE j l) (es.drop j)
  | 0, _ => by simpa [dropE] using h
  | j + 1, hj => by
    have h1 := EdOk.at h j (by omega)
    rw [drop_ed es j (by omega)] at h1
    exact h1.2.2.2
theorem EdOk.end {R : List (List Tx)} {es : List EdP} {l : List Tx} (h : EdOk R l es) : dropE es.length l = [] := by
  have := h.at es.length (Nat.le_refl _)
  rw [List.drop_length] at this
  exact this
theorem dropE_run {l : List Tx} (h : Run l) : ∀ j, Run (dropE j l)
  | 0 => h
  | j + 1 => (dropE_run h j).drop _
theorem dropE_ok {f : Nat} {l : List Tx} (h : OkL f l) : ∀ j, OkL f (dropE j l)
  | 0 => h
  | j + 1 => (dropE_ok h j).drop _
theorem dropE_mem {l : List Tx} {t : Tx} : ∀ j, t ∈ dropE j l → t ∈ l
  | 0, h => h
  | j + 1, h => dropE_mem j (List.mem_of_mem_drop h)
/-- along one edge -/
theorem subW_edge {s p : Tx} {k : Int} {l : List Tx} (h : Run l) (h0 : l ≠ []) : subW p s k l = subW (p ++ Utf8.encode ((folS l).1 : Int)) s k (folS l).2 ++ subW p s k (l.drop (folS l).2.length) := by
  conv => lhs; rw [← List.take_append_drop (folS l).2.length l, subW_app]
  congr 1
  unfold subW
  rw [fol_map h h0 p]
/-- a step along an edge: the text's runes, its state -/
theorem edge_text {p : Tx} {l : List Tx} (hp : 0 ≤ lenS p) (h : Run l) (h0 : l ≠ []) :
    lenS (p ++ Utf8.encode ((folS l).1 : Int)) = lenS p + 1 ∧ runesS (p ++ Utf8.encode ((folS l).1 : Int)) = runesS p ++ [(folS l).1] := by
  cases l with
  | nil => exact absurd rfl h0
  | cons t l =>
    have ht := h.lo t (by simp)
    have hz := h.pos t (by simp)
    have e1 : (folS (t :: l)).1 = labS t := rfl
    rw [e1]
    obtain ⟨e2, e3, e4⟩ := enc_lab ht hz
    rw [lenS_join p _ hp (by omega), runesS_join p _ hp, e2, e3]
    exact ⟨rfl, rfl⟩
/-- a step of the stack: its node, what leads to it, what goes on from there, the state, where it lies -/
structure SM where
  node : Nat
  pre : Tx
  l : List Tx
  S : List PV
  a : Option Addr
  c : Nat
structure SMOk (R : List (List Tx)) (ts : List Tx) (s : Tx) (k : Int) (e : SM) : Prop where
  at_ : R[e.node]? = some e.l
  ok : OkL 12 e.l
  lo : 0 ≤ lenS e.pre
  st : e.S = stW s k e.pre
  sub : ∀ t ∈ e.l, e.pre ++ t ∈ ts
  sz : e.pre.size ≤ 100
  len : lenS e.pre ≤ 12
def outW (s : Tx) (k : Int) (K : List SM) : List KV := K.foldr (fun e r => r ++ subW e.pre s k e.l) []
theorem outW_nil (s : Tx) (k : Int) : outW s k [] = [] := rfl
theorem outW_app (s : Tx) (k : Int) : ∀ (K M : List SM), outW s k (K ++ M) = outW s k M ++ outW s k K
  | [], M => by simp [outW]
  | e :: K, M => by
    show outW s k (K ++ M) ++ _ = outW s k M ++ (outW s k K ++ _)
    rw [outW_app s k K M, List.append_assoc]
theorem outW_one (s : Tx) (k : Int) (e : SM) : outW s k [e] = subW e.pre s k e.l := by simp [outW]
def muW (K : List SM) : Nat := (K.map (fun e => wtS e.l + 1)).sum
theorem muW_app (K M : List SM) : muW (K ++ M) = muW K + muW M := by simp [muW]
theorem muW_one (e : SM) : muW [e] = wtS e.l + 1 := by simp [muW]
theorem muW_len : ∀ K : List SM, K.length ≤ muW K
  | [] => Nat.zero_le _
  | e :: K => by
    have := muW_len K
    simp only [muW, List.map_cons, List.sum_cons, List.length_cons] at this ⊢; omega
end Go.Proofs.YtgnaiahnednllaaGreat
namespace Go.Proofs.YtgnaiahnednllaaGreat
open Go.RowKit Go.Shelf
set_option linter.unusedVariables false
set_option maxRecDepth 20000
attribute [local go_sem] Oper.semAt_some
theorem wpListIn_append_lies {F : Fence} {n : Nat} {P : Program} (w : World) {ops : Array Oper} {rest : List Oper} {o : Oper} {a : Act} {Q : Exit → Act → World → Prop}
    (hg : o.guard = none) (s x : Operand) (t : TypeId) (hop : o.op = Op.call { callee := Callee.builtin Builtin.append, args := #[s, x], argTypes := #[t, t] })
    (base : Nat) (e : TypeId) (i : TypeInfo) (z : Value) (size bytes : Nat) (h1 : P.underlying t = some (.slice e)) (h2 : P.info? e = some i) (h3 : i.zero = some z) (h4 : i.size = size) (h5 : i.bytes = bytes) (h6 : z.cells.size = size) (h7 : 0 < size)
    (v : Value) (k : Nat) (xs : List Value) (hs : a.eval s = v) (hown : w.ownsRow base e size v k xs) (ad : Addr) (m c : Nat) (news : List Value) (hx : a.eval x = .slice (some ad) m c) (hn : news.length = m * size)
    (hc : ∀ j u, news[j]? = some u → w.cell? (ad.add j) = some u) (h1c : ∀ u ∈ news, u.oneCell' = true) (hm : 0 < m) (b1 : k + m ≤ maxLen) (b2 : (k + m) * bytes ≤ 140737488355328) (b3 : base ≤ w.heap.size) (H : Nat) (hH : w.heap.size = H)
    (hK : ∀ g cap w', w'.ownsRow base e size (.slice (some ⟨g, 0, none⟩) (k + m) cap) (k + m) (xs ++ news) → w.grownBy w' v.ownBlock → (v.ownBlock = some g ∨ g = H) → g < w'.heap.size → wpListIn F n P ops Q rest (a.put o.dst (.slice (some ⟨g, 0, none⟩) (k + m) cap)) w') :
    wpListIn F n P ops Q (o :: rest) a w := by
  refine wpListIn_plain hg fun K hK' => ?_
  obtain ⟨g, cap, w', hrun, r1, r2, r3, r4⟩ := run_append_lies (P := P) w t o.type base e i z size bytes h1 h2 h3 h4 h5 h6 h7 v k xs hown ad m c news hn hc h1c hm b1 b2 b3 H hH
  unfold Oper.wpIn
  refine ⟨?_, ?_⟩
  · simp [Oper.about, hop, resolve, Target.leads, Sem.run_pure]
  · rw [Oper.semAt_plain F _ _ (by rw [hop]; intro c hc'; cases hc')]
    simp [execOp, hop, resolve, invoke, builtin, hs, hx, hrun, Result.andThen]
    exact hK' _ _ (hK g cap w' r1 r2 r3 r4)
/-- the places of m edges -/
abbrev IdxE (m : Nat) := { i : Nat // i < m }
def encE (es : List EdP) (m : Nat) (x : IdxE m) : Array Value := #[.int .i64 (x.1 : Int), .agg #[.int .i32 (es.getD x.1 ed0).r, .int .i64 (es.getD x.1 ed0).dst]]
/-- the list's box and its edges stay -/
def KpE (Bs : Nat) (ea : Option Addr) (A C : World) : Prop := ∀ k, (k = Bs ∨ ∃ o, ea = some ⟨k, o, none⟩) → C.heap[k]? = A.heap[k]?
theorem KpE.trans {Bs : Nat} {ea : Option Addr} {A C D : World} (h : KpE Bs ea A C) (k : KpE Bs ea C D) : KpE Bs ea A D := fun i hi => (k i hi).trans (h i hi)
theorem KpE.refl (Bs : Nat) (ea : Option Addr) (A : World) : KpE Bs ea A A := fun _ _ => rfl
theorem drop_one (m t : Nat) (h : t < m) : ((List.range m).drop t).reverse = ((List.range m).drop (t + 1)).reverse ++ [t] := by
  rw [List.drop_eq_getElem_cons (by simpa using h)]
  simp
set_option maxRecDepth 100000 in
set_option maxHeartbeats 2000000 in
theorem back1_in (l Bs m cap n : Nat) (ea : Option Addr) (es : List EdP) (hn : 1 ≤ n) (hm : m ≤ 100000) (J Jx : List (IdxE m) → World → Prop)
    (hY : ∀ pre x W, J pre W → pre.length < m → YieldAt Fence.wide (n - 1) Tryz.prog l (encE es m x) W fun e W' => (e = .returned (.bool true) ∧ J (pre ++ [x]) W' ∧ KpE Bs ea W W') ∨ (e = .returned (.bool false) ∧ Jx (pre ++ [x]) W'))
    (W : World) (hB : W.cell? ⟨Bs, 0, none⟩ = some (.slice ea m cap)) (hE : HoldsEd W ea m es) (h0 : J [] W) :
    CallsIn Fence.wide n Tryz.prog 243 #[.func (.yield l) #[] #[], .pointer (some ⟨Bs, 0, none⟩)] W fun e W' => (∃ v, e = .returned v) ∧
      ((∃ xs : List (IdxE m), xs.map (·.1) = (List.range m).reverse ∧ J xs W') ∨ (∃ pre, True ∧ Jx pre W')) := by
  have HE := Lib.hid hE
  have HY := Lib.hid hY
  have HB := Lib.hid hB
  clear hE hY
  refine callsIn_of_wp (F := Fence.wide) Tryz.func243 rfl trivial ?_ rfl
  simp only [Tryz.ntmps243, List.size_toArray, List.length_cons, List.length_nil, Nat.reduceAdd, Nat.reduceSub, Array.replicate_succ, Array.replicate_zero, List.push_toArray, List.append_toArray, List.nil_append, List.cons_append]
  gi_wp2
  gi_loopw [3] (fun i wr => ∃ (t : Nat) (iv : Int) (pre : List (IdxE m)), t ≤ m ∧ i = .int .i64 iv ∧ iv = (t : Int) - 1 ∧ Hid (pre.map (·.1) = ((List.range m).drop t).reverse) ∧ Hid (J pre wr) ∧ Hid (KpE Bs ea W wr)) (fun i _ => (intOf i + 1).toNat)
  case atStart => exact ⟨m, (m : Int) - 1, [], by omega, rfl, rfl, Lib.hid (by simp), Lib.hid h0, Lib.hid (KpE.refl _ _ _)⟩
  case round =>
    obtain ⟨t, iv, pre, ht, rfl, hiv, hP, hJ, hK⟩ := hrel
    by_cases h1 : t = 0
    · subst h1
      have hlt : ¬ (0 : Int) ≤ iv := by omega
      have HXS := Lib.hid (show pre.map (·.1) = (List.range m).reverse from by have := hP.out; simpa using this)
      clear hiv hB
      gi_wp2
      go_end0
      exact ⟨⟨_, rfl⟩, .inl ⟨pre, HXS.out, hJ.out⟩⟩
    · obtain ⟨j, rfl⟩ : ∃ j, t = j + 1 := ⟨t - 1, by omega⟩
      obtain rfl : iv = (j : Int) := by omega
      have hlen : pre.length < m := by
        have := congrArg List.length hP.out
        simp at this; omega
      obtain ⟨fn, tmps, assign, body, hy, hR⟩ := HY.out pre ⟨j, by omega⟩ wr hJ.out hlen
      obtain ⟨b, o, hea, hc⟩ := HE.out.at (by omega)
      obtain ⟨y1, y2⟩ := hc j (by omega)
      have x1 := (World.cell?_of_block (hK.out b (.inr ⟨o, hea⟩)) (a := ⟨b, o + j * 2, none⟩)).trans y1
      have x2 := (World.cell?_of_block (hK.out b (.inr ⟨o, hea⟩)) (a := ⟨b, o + j * 2 + 1, none⟩)).trans y2
      have x0 := (World.cell?_of_block (hK.out Bs (.inl rfl)) (a := ⟨Bs, 0, none⟩)).trans HB.out
      dsimp only [encE] at hy
      obtain ⟨ed, hed⟩ : ∃ t, es.getD j ed0 = t := ⟨_, rfl⟩
      rw [hed] at x1 x2 hy
      have HEA := Lib.hid hea
      rw [hea] at x0
      have n1 : (0 : Int) ≤ (j : Int) := by omega
      have n2 : (j : Int) < (m : Int) := by omega
      have HRR := Lib.hid hR
      clear hc y1 y2 hed hB h1 hiv hea hR
      gi_wp2
      refine HRR.out.mono ?_
      rintro e W3 (⟨rfl, hJ3, hk3⟩ | ⟨rfl, hJx3⟩)
      · have HJ3 := Lib.hid hJ3
        have HK3 := Lib.hid (hK.out.trans hk3)
        have HP3 := Lib.hid (show (pre ++ [(⟨j, by omega⟩ : IdxE m)]).map (·.1) = ((List.range m).drop j).reverse from by
          rw [List.map_append, hP.out, drop_one m j (by omega)]; rfl)
        clear hJ3 hk3
        gi_wp2
        go_roundw
        case rel => exact ⟨j, (j : Int) - 1, _, by omega, by go_num, rfl, HP3, HJ3, HK3⟩
        case measure => simp [intOf] <;> omega
      · gi_wp2
        refine bodyPost_ret (results_none rfl _ _ _) rfl ?_
        exact ⟨⟨_, rfl⟩, .inr ⟨_, trivial, hJx3⟩⟩
/-- slices.Backward(s): the slice is boxed; the function captures the box -/
theorem back_any (a : Option Addr) (len cap : Nat) (w : World) :
    Calls Tryz.prog 218 #[.slice a len cap] w fun e w' => e = .returned (.func (.func 243) #[] #[.pointer (some ⟨w.heap.size, 0, none⟩)]) ∧ w' = w.alloc (.cells #[.slice a len cap] 277) := by
  go_enter Tryz.func218, Tryz.ntmps218
  go_wp2
  go_ret
  exact ⟨rfl, rfl⟩
theorem back_stops (n Bs m cap : Nat) (hn : 1 ≤ n) (ea : Option Addr) (es : List EdP) (hm : m ≤ 100000) (w : World) (hB : w.cell? ⟨Bs, 0, none⟩ = some (.slice ea m cap)) (hE : HoldsEd w ea m es) :
    SeqStopsK Fence.wide n Tryz.prog 243 #[.pointer (some ⟨Bs, 0, none⟩)] (encE es m) (KpE Bs ea) (fun xs => xs.map (·.1) = (List.range m).reverse) (fun _ => True) m w := fun l J Jx W hW _ _ hY h0 =>
  back1_in l Bs m cap n ea es hn hm J Jx hY W ((hW.cell (p := ⟨Bs, 0, none⟩) (lt_of_cell hB)).trans hB) (hE.below hW) h0
end Go.Proofs.YtgnaiahnednllaaGreat
namespace Go.Proofs.YtgnaiahnednllaaGreat
open Go.RowKit
set_option linter.unusedVariables false
set_option maxRecDepth 20000
theorem row_kept {w w' : World} {row : Option Nat} {base : Nat} {e : TypeId} {size : Nat} {v : Value} {n : Nat} {xs : List Value} (h : w.ownsRow base e size v n xs) (hg : w.grownBy w' row) (hr : ∀ r, row = some r → ∀ cur fr, w.heap[r]? ≠ some (.cells cur e fr)) : w'.ownsRow base e size v n xs := by
  rcases h.2 with ⟨rfl, _⟩ | ⟨g, cap, cur, rfl, _, hgb, _⟩
  · exact h.kept hg (.inl rfl)
  · exact h.kept hg (.inr (fun e' => hr g e'.symm _ _ hgb))
theorem boxed_kept {w w' : World} {row : Option Nat} {bx : Nat} {t : TypeId} {v : Value} (h : Boxed w bx t v) (hg : w.grownBy w' row) (hr : ∀ r, row = some r → ∀ cur fr, w.heap[r]? ≠ some (.cells cur t fr)) : Boxed w' bx t v :=
  h.kept hg (fun e => hr bx e.symm _ _ h)
/-- the block of a row holds cells of the row's type -/
theorem row_block {w : World} {base : Nat} {e : TypeId} {size : Nat} {v : Value} {n : Nat} {xs : List Value} (h : w.ownsRow base e size v n xs) {r : Nat} (hr : v.ownBlock = some r) : base ≤ r ∧ ∃ cur, w.heap[r]? = some (.cells cur e (0, 0)) := by
  rcases h.2 with ⟨rfl, _⟩ | ⟨g, cap, cur, rfl, hb, hgb, _⟩
  · cases hr
  · injection hr with hr; subst hr; exact ⟨hb, cur, hgb⟩
theorem grown_below {w w' : World} (hb : Below w.heap.size w w') : w.grownBy w' none := ⟨hb.os, hb.tape, hb.output, hb.size, fun k hk _ => hb.block k hk⟩
def smV : List SM → List Value
  | [] => []
  | e :: K => .int .i64 (e.node : Int) :: .string e.pre :: .slice e.a e.S.length e.c :: smV K
theorem smV_app : ∀ K M : List SM, smV (K ++ M) = smV K ++ smV M
  | [], M => rfl
  | e :: K, M => by simp [smV, smV_app K M]
theorem smV_len : ∀ K : List SM, (smV K).length = K.length * 3
  | [] => rfl
  | e :: K => by simp [smV, smV_len K]; omega
/-- k, the runes, the states -/
structure WR (B : Nat) (w0 : World) (p5 p7 : Nat) (k : Int) (q : List Int) (qa : Option Addr) (qn qc : Nat) (T : List SM) (w : World) : Prop where
  b : Below B w0 w
  bl : B ≤ w.heap.size
  c5 : Boxed w p5 3 (.int .i64 k)
  c7 : Boxed w p7 205 (.slice qa qn qc)
  qr : w.ownsRow B 21 1 (.slice qa qn qc) qn (runesV q)
  h : ∀ e ∈ T, w.ownsRow B 330 2 (.slice e.a e.S.length e.c) e.S.length (posV e.S)
theorem WR.kept {B : Nat} {w0 w w' : World} {p5 p7 : Nat} {k : Int} {q : List Int} {qa : Option Addr} {qn qc : Nat} {T : List SM} {row : Option Nat} (h : WR B w0 p5 p7 k q qa qn qc T w) (hg : w.grownBy w' row)
    (hr : ∀ r, row = some r → B ≤ r ∧ ∀ cur e fr, w.heap[r]? = some (.cells cur e fr) → ¬ (e = 3 ∨ e = 205 ∨ e = 21 ∨ e = 330)) : WR B w0 p5 p7 k q qa qn qc T w' :=
  ⟨h.b.grown hg h.bl (fun r e => (hr r e).1), Nat.le_trans h.bl hg.size,
    boxed_kept h.c5 hg (fun r e cur fr hc => (hr r e).2 _ _ _ hc (.inl rfl)), boxed_kept h.c7 hg (fun r e cur fr hc => (hr r e).2 _ _ _ hc (.inr (.inl rfl))),
    row_kept h.qr hg (fun r e cur fr hc => (hr r e).2 _ _ _ hc (.inr (.inr (.inl rfl)))), fun e he => row_kept (h.h e he) hg (fun r e' cur fr hc => (hr r e').2 _ _ _ hc (.inr (.inr (.inr rfl))))⟩
theorem WR.some_ {B : Nat} {w0 w : World} {p5 p7 : Nat} {k : Int} {q : List Int} {qa : Option Addr} {qn qc : Nat} {T U : List SM} (h : WR B w0 p5 p7 k q qa qn qc T w) (hU : ∀ e ∈ U, e ∈ T) : WR B w0 p5 p7 k q qa qn qc U w :=
  ⟨h.b, h.bl, h.c5, h.c7, h.qr, fun e he => h.h e (hU e he)⟩
/-- the stack, its box, and what is told so far -/
structure WQ (B : Nat) (w0 : World) (p5 p7 bx : Nat) (k : Int) (q : List Int) (qa : Option Addr) (qn qc : Nat) (oa : Option Addr) (oc : Nat) (out : List KV) (sa : Option Addr) (sc : Nat) (K T : List SM) (w : World) : Prop where
  r : WR B w0 p5 p7 k q qa qn qc (K ++ T) w
  o : w.ownsRow B 39 2 (.slice oa out.length oc) out.length (keysV out)
  s : w.ownsRow B 293 3 (.slice sa K.length sc) K.length (smV K)
  box : Boxed w bx 294 (.slice sa K.length sc)
  bxB : B ≤ bx
section
variable {B : Nat} {w0 w w' : World} {p5 p7 bx : Nat} {k : Int} {q : List Int} {qa : Option Addr} {qn qc : Nat} {oa : Option Addr} {oc : Nat} {out : List KV} {sa : Option Addr} {sc : Nat} {K T : List SM}
theorem WQ.kept {row : Option Nat} (h : WQ B w0 p5 p7 bx k q qa qn qc oa oc out sa sc K T w) (hg : w.grownBy w' row)
    (hr : ∀ r, row = some r → B ≤ r ∧ ∀ cur e fr, w.heap[r]? = some (.cells cur e fr) → ¬ (e = 3 ∨ e = 205 ∨ e = 21 ∨ e = 330 ∨ e = 39 ∨ e = 293 ∨ e = 294)) : WQ B w0 p5 p7 bx k q qa qn qc oa oc out sa sc K T w' :=
  ⟨h.r.kept hg (fun r e => ⟨(hr r e).1, fun cur e' fr hc hn => (hr r e).2 _ _ _ hc (by rcases hn with h | h | h | h <;> simp [h])⟩),
    row_kept h.o hg (fun r e cur fr hc => (hr r e).2 _ _ _ hc (by simp)), row_kept h.s hg (fun r e cur fr hc => (hr r e).2 _ _ _ hc (by simp)),
    boxed_kept h.box hg (fun r e cur fr hc => (hr r e).2 _ _ _ hc (by simp)), h.bxB⟩
theorem WQ.more (h : WQ B w0 p5 p7 bx k q qa qn qc oa oc out sa sc K T w) (hb : Below w.heap.size w w') : WQ B w0 p5 p7 bx k q qa qn qc oa oc out sa sc K T w' :=
  h.kept (grown_below hb) (fun r e => by cases e)
/-- a block that is no cells turns -/
theorem WQ.book {row : Option Nat} (h : WQ B w0 p5 p7 bx k q qa qn qc oa oc out sa sc K T w) (hg : w.grownBy w' row) (hr : ∀ r, row = some r → B ≤ r ∧ ∃ o : Obj, w.heap[r]? = some o ∧ o.isCells = false) : WQ B w0 p5 p7 bx k q qa qn qc oa oc out sa sc K T w' :=
  h.kept hg (fun r e => ⟨(hr r e).1, fun cur e' fr hc => by
    obtain ⟨o, ho, hn⟩ := (hr r e).2
    rw [hc] at ho; cases ho; cases hn⟩)
/-- a step is pushed -/
theorem WQ.push {g cap : Nat} {o : Obj} {w6 : World} (e : SM) (h : WQ B w0 p5 p7 bx k q qa qn qc oa oc out sa sc K T w) (he : w.ownsRow B 330 2 (.slice e.a e.S.length e.c) e.S.length (posV e.S))
    (hown : w6.ownsRow B 293 3 (.slice (some ⟨g, 0, none⟩) (K.length + 1) cap) (K.length + 1) (smV K ++ [.int .i64 (e.node : Int), .string e.pre, .slice e.a e.S.length e.c]))
    (hg : (w.alloc o).grownBy w6 (Value.slice sa K.length sc).ownBlock) :
    Boxed w6 bx 294 (.slice sa K.length sc) ∧ WQ B w0 p5 p7 bx k q qa qn qc oa oc out (some ⟨g, 0, none⟩) cap (K ++ [e]) T (w6.setCell ⟨bx, 0, none⟩ (.slice (some ⟨g, 0, none⟩) (K.length + 1) cap)) := by
  have hA : Below w.heap.size w (w.alloc o) := below_one w o
  have h1 := h.more hA
  have hr : ∀ r, (Value.slice sa K.length sc).ownBlock = some r → B ≤ r ∧ ∃ cur, (w.alloc o).heap[r]? = some (.cells cur 293 (0, 0)) := fun r e => row_block h1.s e
  have hb6 : Boxed w6 bx 294 (.slice sa K.length sc) := boxed_kept h1.box hg (fun r e cur fr hc => by
    obtain ⟨_, cur', hc'⟩ := hr r e
    rw [hc'] at hc; cases hc)
  have hr6 := h1.r.kept hg (fun r e => ⟨(hr r e).1, fun cur e' fr hc hn => by
    obtain ⟨_, cur', hc'⟩ := hr r e
    rw [hc'] at hc; cases hc
    revert hn; decide⟩)
  have ho6 := row_kept h1.o hg (fun r e cur fr hc => by
    obtain ⟨_, cur', hc'⟩ := hr r e
    rw [hc'] at hc; cases hc)
  have he6 := row_kept (he.alloc o) hg (fun r e cur fr hc => by
    obtain ⟨_, cur', hc'⟩ := hr r e
    rw [hc'] at hc; cases hc)
  have hg2 := grownBy_setCell' w6 bx (.slice (some ⟨g, 0, none⟩) (K.length + 1) cap)
  have hbb : ∀ r, some bx = some r → w6.heap[r]? = some (.cells #[.slice sa K.length sc] 294 (0, 0)) := fun r e => by cases e; exact hb6
  have hl : (K ++ [e]).length = K.length + 1 := by simp
  refine ⟨hb6, ⟨?_, ?_, ?_, ?_, h.bxB⟩⟩
  · have h7 : WR B w0 p5 p7 k q qa qn qc ((K ++ T) ++ [e]) w6 := ⟨hr6.b, hr6.bl, hr6.c5, hr6.c7, hr6.qr, fun x hx => by
      rcases List.mem_append.1 hx with hx | hx
      · exact hr6.h x hx
      · simp only [List.mem_singleton] at hx; subst hx; exact he6⟩
    refine (h7.kept hg2 (fun r e => ⟨by cases e; exact h.bxB, fun cur e' fr hc hn => ?_⟩)).some_ (fun x hx => ?_)
    · rw [hbb r e] at hc; cases hc; revert hn; decide
    · simp only [List.mem_append, List.mem_singleton] at hx ⊢; rcases hx with (h | h) | h <;> simp [h]
  · exact row_kept ho6 hg2 (fun r e cur fr hc => by rw [hbb r e] at hc; cases hc)
  · rw [hl, smV_app]
    exact row_kept hown hg2 (fun r e cur fr hc => by rw [hbb r e] at hc; cases hc)
  · rw [hl]; exact hb6.set _
/-- an item is told -/
theorem WQ.tell {g cap : Nat} {o : Obj} {w6 : World} (x : KV) (h : WQ B w0 p5 p7 bx k q qa qn qc oa oc out sa sc K T w)
    (hown : w6.ownsRow B 39 2 (.slice (some ⟨g, 0, none⟩) (out.length + 1) cap) (out.length + 1) (keysV out ++ [.int .i64 x.1, .string x.2]))
    (hg : (w.alloc o).grownBy w6 (Value.slice oa out.length oc).ownBlock) :
    WQ B w0 p5 p7 bx k q qa qn qc (some ⟨g, 0, none⟩) cap (out ++ [x]) sa sc K T w6 := by
  have h1 := h.more (below_one w o)
  have hr : ∀ r, (Value.slice oa out.length oc).ownBlock = some r → B ≤ r ∧ ∃ cur, (w.alloc o).heap[r]? = some (.cells cur 39 (0, 0)) := fun r e => row_block h1.o e
  have hl : (out ++ [x]).length = out.length + 1 := by simp
  refine ⟨h1.r.kept hg (fun r e => ⟨(hr r e).1, fun cur e' fr hc hn => ?_⟩), ?_, row_kept h1.s hg (fun r e cur fr hc => ?_), boxed_kept h1.box hg (fun r e cur fr hc => ?_), h.bxB⟩
  · obtain ⟨_, cur', hc'⟩ := hr r e
    rw [hc'] at hc; cases hc
    revert hn; decide
  · rw [hl, keysV_snoc]; exact hown
  · obtain ⟨_, cur', hc'⟩ := hr r e
    rw [hc'] at hc; cases hc
  · obtain ⟨_, cur', hc'⟩ := hr r e
    rw [hc'] at hc; cases hc
/-- the topmost step is taken -/
theorem WQ.pop {e : SM} (h : WQ B w0 p5 p7 bx k q qa qn qc oa oc out sa sc (K ++ [e]) T w) : WQ B w0 p5 p7 bx k q qa qn qc oa oc out sa sc K [e] (w.setCell ⟨bx, 0, none⟩ (.slice sa K.length sc)) := by
  have hg := grownBy_setCell' w bx (.slice sa K.length sc)
  have hbb : ∀ r, some bx = some r → w.heap[r]? = some (.cells #[.slice sa (K ++ [e]).length sc] 294 (0, 0)) := fun r e => by cases e; exact h.box
  have hs : w.ownsRow B 293 3 (.slice sa K.length sc) K.length (smV K) := by
    obtain ⟨h1, h2⟩ := h.s
    rw [smV_app, List.length_append] at h1 h2
    simp only [List.length_cons, List.length_nil] at h1 h2
    refine ⟨smV_len K, ?_⟩
    rcases h2 with ⟨h3, h4⟩ | ⟨g, c2, cur, h3, h4, h5, h6, h7, h8, h9⟩
    · omega
    · injection h3 with h3 h3b h3c
      subst h3 h3c
      refine .inr ⟨g, sc, cur, rfl, h4, h5, by omega, h7, h8, ?_⟩
      have h10 := congrArg (List.take (K.length * 3)) h9
      rw [List.take_take, List.take_append_of_le_length (by rw [smV_len]; omega), List.take_of_length_le (l := smV K) (by rw [smV_len]; omega)] at h10
      rwa [show min (K.length * 3) ((K.length + (0 + 1)) * 3) = K.length * 3 by omega] at h10
  refine ⟨(h.r.kept hg (fun r e => ⟨by cases e; exact h.bxB, fun cur e' fr hc hn => ?_⟩)).some_ (fun x hx => ?_), row_kept h.o hg (fun r e cur fr hc => ?_), row_kept hs hg (fun r e cur fr hc => ?_), h.box.set _, h.bxB⟩
  · rw [hbb r e] at hc; cases hc; revert hn; decide
  · simp only [List.mem_append, List.mem_singleton] at hx ⊢; rcases hx with h | h <;> simp [h]
  · rw [hbb r e] at hc; cases hc
  · rw [hbb r e] at hc; cases hc
/-- the topmost step's cells -/
theorem WQ.top {e : SM} (h : WQ B w0 p5 p7 bx k q qa qn qc oa oc out sa sc (K ++ [e]) T w) : ∃ s, sa = some ⟨s, 0, none⟩ ∧ s < w.heap.size ∧ w.cell? ⟨s, K.length * 3, none⟩ = some (.int .i64 (e.node : Int)) ∧ w.cell? ⟨s, K.length * 3 + 1, none⟩ = some (.string e.pre) ∧ w.cell? ⟨s, K.length * 3 + 2, none⟩ = some (.slice e.a e.S.length e.c) := by
  obtain ⟨h1, h2⟩ := h.s
  rw [smV_app, List.length_append] at h1 h2
  simp only [List.length_cons, List.length_nil] at h1 h2
  rcases h2 with ⟨h3, h4⟩ | ⟨g, c2, cur, h3, h4, h5, h6, h7, h8, h9⟩
  · omega
  · injection h3 with h3 h3b h3c
    subst h3 h3c
    have hc : ∀ i u, (smV K ++ smV [e])[i]? = some u → w.cell? ⟨g, i, none⟩ = some u := fun i u hi => by
      have hlt := (List.getElem?_eq_some_iff.1 hi).1
      rw [← h9, List.getElem?_take_of_lt (by rw [List.length_append, smV_len, smV_len] at hlt; simp at hlt; omega)] at hi
      simp only [World.cell?, h5]
      simpa using hi
    refine ⟨g, rfl, (Array.getElem?_eq_some_iff.1 h5).1, hc _ _ ?_, hc _ _ ?_, hc _ _ ?_⟩
    all_goals (rw [List.getElem?_append_right (by rw [smV_len]; omega), smV_len])
    · rw [Nat.sub_self]; rfl
    · rw [Nat.add_sub_cancel_left]; rfl
    · rw [Nat.add_sub_cancel_left]; rfl
end
end Go.Proofs.YtgnaiahnednllaaGreat
namespace Go.Proofs.YtgnaiahnednllaaGreat
open Go.RowKit
set_option linter.unusedVariables false
set_option maxRecDepth 20000
/-- the marks of the loops that have been gone through -/
def markD (D : Nat) : Deferred := { target := .collected D, args := #[] }
def MarkAt (B : Nat) (Ds : List Nat) (w : World) : Prop := Ds.Nodup ∧ ∀ D ∈ Ds, B ≤ D ∧ w.heap[D]? = some (.deferred (some []))
theorem MarkAt.lt {B : Nat} {Ds : List Nat} {w : World} (h : MarkAt B Ds w) {D : Nat} (hD : D ∈ Ds) : D < w.heap.size := (Array.getElem?_eq_some_iff.1 (h.2 D hD).2).1
theorem MarkAt.kept {B : Nat} {Ds : List Nat} {w w' : World} {row : Option Nat} (h : MarkAt B Ds w) (hg : w.grownBy w' row) (hr : ∀ r, row = some r → r ∉ Ds) : MarkAt B Ds w' :=
  ⟨h.1, fun D hD => ⟨(h.2 D hD).1, (hg.block D (h.lt hD) (fun e => hr D e.symm hD)).trans (h.2 D hD).2⟩⟩
theorem leaves_marks {F : Fence} {n : Nat} {P : Program} {fn : Func} {tmps : Array Value} {R : Ending → World → Prop} {B : Nat} : ∀ (Ds : List Nat) (w : World), MarkAt B Ds w →
    (∀ w', Turn (fun k => k ∈ Ds) w w' → (∀ k, k ∈ Ds → B ≤ k ∧ ∃ o : Obj, w.heap[k]? = some o ∧ o.isCells = false) → ∃ v, (results fn tmps).run P w' = .ok v w' ∧ R (.returned v) w') → LeavesInM F n P fn tmps R (Ds.map markD) .returning w
  | [], w, _, h => h w (Turn.refl _ _) (fun k hk => by cases hk)
  | D :: Ds, w, hm, h => by
    have hD := hm.2 D (by simp)
    have hlt := hm.lt (D := D) (by simp)
    have hn := List.nodup_cons.1 hm.1
    refine ⟨by simp, .inl ⟨D, _, rfl, run_takeDeferred hD.2, ?_⟩⟩
    have hm' : MarkAt B Ds (w.putObj D (.deferred none)) := MarkAt.kept ⟨hn.2, fun E hE => hm.2 E (by simp [hE])⟩ (grownBy_putObj' w D _) (fun r e => by cases e; exact hn.1)
    refine leaves_marks Ds _ hm' (fun w' t hk => h w' ?_ (fun k hk' => ⟨(hm.2 k hk').1, _, (hm.2 k hk').2, rfl⟩))
    have hg := grownBy_putObj' w D (.deferred none)
    exact ⟨t.os.trans hg.os, t.tape.trans hg.tape, t.output.trans hg.output, Nat.le_trans hg.size t.size, fun k hk1 hk2 => (t.block k (Nat.lt_of_lt_of_le hk1 hg.size) (fun e => hk2 (by simp [e]))).trans (hg.block k hk1 (fun e => hk2 (by cases e; simp)))⟩
theorem matches_no (g : Option Nat) (s : Tx) (k : Int) (w : World) (hs : s.size ≤ 9223372036854775807) (h : g = none ∨ ¬ (0 ≤ lenS s ∧ lenS s ≤ 16) ∨ k < 0 ∨ 4 < k) :
    Calls Tryz.prog 170 #[.pointer (g.map (fun g => ⟨g, 0, none⟩)), .string s, .int .i64 k] w fun e w' => e = .returned (.slice none 0 0) ∧ Below w.heap.size w w' := by
  have CA := Lib.hid (fun c w hc => asked_lit s c w hs hc)
  have B0 := Lib.hid (below_one w (.cells #[.int .i64 k] 3))
  cases g with
  | none =>
    go_enter Tryz.func170, Tryz.ntmps170
    go_wp2_with fail
    go_ret
    exact ⟨rfl, B0.out⟩
  | some g =>
    by_cases ha : 0 ≤ lenS s ∧ lenS s ≤ 16
    · have CA := Lib.hid (fun w => CA.out true w (decide_eq_true ha))
      have hk : k < 0 ∨ 4 < k := by
        rcases h with h | h | h | h
        · cases h
        · exact absurd ha h
        · exact .inl h
        · exact .inr h
      clear h ha
      go_enter Tryz.func170, Tryz.ntmps170
      have X0 := Lib.hid (Boxed.new w 3 (.int .i64 k))
      by_cases hk0 : k < 0
      · go_wp2_with fail
        refine (CA.out _).mono ?_
        rintro e w1 ⟨rfl, hb1⟩
        have B1 := Lib.hid (B0.out.trans (hb1.mono B0.out.size))
        have c1 := (boxed_kept X0.out (grown_below hb1) (fun r e => by cases e)).cell
        clear hb1
        go_wp2_with fail
        go_ret
        exact ⟨rfl, B1.out⟩
      · have hk4 : 4 < k := by omega
        clear hk
        go_wp2_with fail
        refine (CA.out _).mono ?_
        rintro e w1 ⟨rfl, hb1⟩
        have B1 := Lib.hid (B0.out.trans (hb1.mono B0.out.size))
        have c1 := (boxed_kept X0.out (grown_below hb1) (fun r e => by cases e)).cell
        clear hb1
        go_wp2_with fail
        go_ret
        exact ⟨rfl, B1.out⟩
    · have CA := Lib.hid (fun w => CA.out false w (decide_eq_false ha))
      clear h ha
      go_enter Tryz.func170, Tryz.ntmps170
      go_wp2_with fail
      refine (CA.out _).mono ?_
      rintro e w1 ⟨rfl, hb1⟩
      have B1 := Lib.hid (B0.out.trans (hb1.mono B0.out.size))
      clear hb1
      go_wp2_with fail
      go_ret
      exact ⟨rfl, B1.out⟩
end Go.Proofs.YtgnaiahnednllaaGreat
namespace Go.Proofs.YtgnaiahnednllaaGreat
open Go.RowKit
set_option linter.unusedVariables false
set_option maxRecDepth 20000
abbrev P4 := Nat × Tx × List Tx × List PV
def plW (e : SM) : P4 := (e.node, e.pre, e.l, e.S)
def outP (s : Tx) (k : Int) (K : List P4) : List KV := K.foldr (fun e r => r ++ subW e.2.1 s k e.2.2.1) []
theorem outP_app (s : Tx) (k : Int) : ∀ (K M : List P4), outP s k (K ++ M) = outP s k M ++ outP s k K
  | [], M => by simp [outP]
  | e :: K, M => by
    show outP s k (K ++ M) ++ _ = outP s k M ++ (outP s k K ++ _)
    rw [outP_app s k K M, List.append_assoc]
theorem outW_pl (s : Tx) (k : Int) : ∀ K : List SM, outW s k K = outP s k (K.map plW)
  | [] => rfl
  | e :: K => by
    show outW s k K ++ _ = outP s k (K.map plW) ++ _
    rw [outW_pl s k K]; rfl
def muP (K : List P4) : Nat := (K.map (fun e => wtS e.2.2.1 + 1)).sum
theorem muP_app (K M : List P4) : muP (K ++ M) = muP K + muP M := by simp [muP]
theorem muW_pl : ∀ K : List SM, muW K = muP (K.map plW)
  | [] => rfl
  | e :: K => by
    have := muW_pl K
    simp only [muW, muP, List.map_cons, List.sum_cons] at this ⊢
    rw [this]; rfl
structure P4Ok (R : List (List Tx)) (ts : List Tx) (s : Tx) (k : Int) (e : P4) : Prop where
  at_ : R[e.1]? = some e.2.2.1
  ok : OkL 12 e.2.2.1
  lo : 0 ≤ lenS e.2.1
  st : e.2.2.2 = stW s k e.2.1
  sub : ∀ t ∈ e.2.2.1, e.2.1 ++ t ∈ ts
  sz : e.2.1.size ≤ 100
  len : lenS e.2.1 ≤ 12
/-- what edge i leads to -/
def kidW (s : Tx) (k : Int) (p : Tx) (l0 : List Tx) (es : List EdP) (i : Nat) : Option P4 :=
  if stW s k (p ++ Utf8.encode ((folS (dropE i l0)).1 : Int)) = [] then none
  else some ((es.getD i ed0).dst.toNat, p ++ Utf8.encode ((folS (dropE i l0)).1 : Int), (folS (dropE i l0)).2, stW s k (p ++ Utf8.encode ((folS (dropE i l0)).1 : Int)))
/-- what is known along edge i -/
theorem edge_at {R : List (List Tx)} {ts : List Tx} {s : Tx} {k : Int} {p : Tx} {l0 : List Tx} {es : List EdP} (hts : ∀ t ∈ ts, 0 ≤ lenS t ∧ lenS t ≤ 12 ∧ t.size ≤ 100) (hE : EdOk R l0 es) (hR : Run l0) (hO : OkL 12 l0) (hp : 0 ≤ lenS p) (hs : ∀ t ∈ l0, p ++ t ∈ ts) {i : Nat} (hi : i < es.length) :
    dropE i l0 ≠ [] ∧ (es.getD i ed0).r = ((folS (dropE i l0)).1 : Int) ∧ (∃ d : Nat, (es.getD i ed0).dst = (d : Int) ∧ R[d]? = some (folS (dropE i l0)).2) ∧ OkL 12 (folS (dropE i l0)).2 ∧
      (∀ t ∈ (folS (dropE i l0)).2, (p ++ Utf8.encode ((folS (dropE i l0)).1 : Int)) ++ t ∈ ts) ∧ (p ++ Utf8.encode ((folS (dropE i l0)).1 : Int)).size ≤ 100 ∧ lenS (p ++ Utf8.encode ((folS (dropE i l0)).1 : Int)) ≤ 12 := by
  have h1 := hE.at i (by omega)
  rw [drop_ed es i hi] at h1
  obtain ⟨h2, h3, ⟨d, h4, h5⟩, -⟩ := h1
  have hRi := dropE_run hR i
  have hOi := dropE_ok hO i
  have hfl := fol_len _ h2
  have hok : OkL 12 (folS (dropE i l0)).2 := (hOi.mono (show 12 ≤ 12 + 1 by omega)).fol hRi.pos
  have hsub : ∀ t ∈ (folS (dropE i l0)).2, (p ++ Utf8.encode ((folS (dropE i l0)).1 : Int)) ++ t ∈ ts := fun t ht => by
    have h6 := List.mem_map_of_mem (f := fun x => (p ++ Utf8.encode ((folS (dropE i l0)).1 : Int)) ++ x) ht
    rw [fol_map hRi h2 p] at h6
    obtain ⟨u, hu, e⟩ := List.mem_map.1 h6
    have e' : p ++ u = (p ++ Utf8.encode ((folS (dropE i l0)).1 : Int)) ++ t := e
    rw [← e']
    exact hs u (dropE_mem i (List.mem_of_mem_take hu))
  obtain ⟨t, ht⟩ : ∃ t, t ∈ (folS (dropE i l0)).2 := by
    cases h : (folS (dropE i l0)).2 with
    | nil => rw [h] at hfl; simp at hfl
    | cons t l => exact ⟨t, by simp⟩
  have h7 := hts _ (hsub t ht)
  have h8 := edge_text hp hRi h2
  have h9 := hok.lo t ht
  have h10 : lenS ((p ++ Utf8.encode ((folS (dropE i l0)).1 : Int)) ++ t) = lenS (p ++ Utf8.encode ((folS (dropE i l0)).1 : Int)) + lenS t := lenS_join _ _ (by rw [h8.1]; omega) h9
  refine ⟨h2, h3, ⟨d, h4, h5⟩, hok, hsub, ?_, ?_⟩
  · have := h7.2.2
    rw [ByteArray.size_append] at this; omega
  · omega
theorem kids_from {R : List (List Tx)} {ts : List Tx} {s : Tx} {k : Int} {p : Tx} {l0 : List Tx} {es : List EdP} (hts : ∀ t ∈ ts, 0 ≤ lenS t ∧ lenS t ≤ 12 ∧ t.size ≤ 100) (hE : EdOk R l0 es) (hR : Run l0) (hO : OkL 12 l0) (hs0 : 0 ≤ lenS s) (hk : 0 ≤ k) (hp : 0 ≤ lenS p) (hs : ∀ t ∈ l0, p ++ t ∈ ts) :
    ∀ d j, j + d = es.length → outP s k (((List.range es.length).drop j).reverse.filterMap (kidW s k p l0 es)) = subW p s k (dropE j l0) ∧ muP (((List.range es.length).drop j).reverse.filterMap (kidW s k p l0 es)) ≤ wtS (dropE j l0) ∧
      ∀ c ∈ ((List.range es.length).drop j).reverse.filterMap (kidW s k p l0 es), P4Ok R ts s k c
  | 0, j, h => by
    obtain rfl : j = es.length := by omega
    rw [List.drop_of_length_le (by simp), hE.end]
    exact ⟨rfl, Nat.zero_le _, fun c hc => by cases hc⟩
  | d + 1, j, h => by
    obtain ⟨h1, h2, h3⟩ := kids_from hts hE hR hO hs0 hk hp hs d (j + 1) (by omega)
    have hj : j < es.length := by omega
    obtain ⟨e1, e2, ⟨n, e3, e4⟩, e5, e6, e7, e8⟩ := edge_at (k := k) (s := s) hts hE hR hO hp hs hj
    have hRi := dropE_run hR j
    have e9 := edge_text hp hRi e1
    have e10 := subW_edge (s := s) (p := p) (k := k) hRi e1
    have e11 := wt_fol e1 hRi.lo hRi.pos
    rw [show ((List.range es.length).drop j).reverse = ((List.range es.length).drop (j + 1)).reverse ++ [j] by rw [List.drop_eq_getElem_cons (by simpa using hj)]; simp, List.filterMap_append, outP_app, muP_app]
    have hd : dropE (j + 1) l0 = (dropE j l0).drop (folS (dropE j l0)).2.length := rfl
    rw [hd] at h1 h2
    by_cases hdead : stW s k (p ++ Utf8.encode ((folS (dropE j l0)).1 : Int)) = []
    · have hkid : [j].filterMap (kidW s k p l0 es) = [] := by simp [kidW, hdead]
      have h4 := subW_dead (l := (folS (dropE j l0)).2) hs0 (by rw [e9.1]; omega) hk hdead e5.lo
      rw [hkid]
      refine ⟨?_, ?_, fun c hc => h3 c (by simpa using hc)⟩
      · rw [e10, h4, h1]; rfl
      · show muP _ + 0 ≤ _; omega
    · have hkid : [j].filterMap (kidW s k p l0 es) = [(n, p ++ Utf8.encode ((folS (dropE j l0)).1 : Int), (folS (dropE j l0)).2, stW s k (p ++ Utf8.encode ((folS (dropE j l0)).1 : Int)))] := by
        simp only [List.filterMap_cons, List.filterMap_nil, kidW, if_neg hdead, e3]; rfl
      rw [hkid]
      refine ⟨?_, ?_, fun c hc => ?_⟩
      · rw [e10, h1]; rfl
      · have : muP [(n, p ++ Utf8.encode ((folS (dropE j l0)).1 : Int), (folS (dropE j l0)).2, stW s k (p ++ Utf8.encode ((folS (dropE j l0)).1 : Int)))] = wtS (folS (dropE j l0)).2 + 1 := by simp [muP]
        rw [this]; omega
      · rcases List.mem_append.1 hc with hc | hc
        · exact h3 c hc
        · simp only [List.mem_singleton] at hc
          subst hc
          exact ⟨e4, e5, by show 0 ≤ lenS _; rw [e9.1]; omega, rfl, e6, e7, e8⟩
end Go.Proofs.YtgnaiahnednllaaGreat
