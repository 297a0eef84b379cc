/- the law that each word is one shard's -/
import Derived.Test.YteloiibejkflhaaQKr1
import Derived.Test.YteloiibejkflhaaQKp9
import Derived.Test.YteloiibejkflhaaQKr2
import Derived.Test.YteloiibejkflhaaQWa2
import Derived.Test.YteloiibejkflhaaQWs8
import Derived.Test.YteloiibejkflhaaQOpT
namespace Go.Proofs.Yteloiibejkflhaa
open Go.RowKit
set_option linter.unusedVariables false
set_option maxRecDepth 20000
def belowS (ks : List KV) (ws : List Tx) (s : Nat) : List Tx := ws.filter fun t => decide (ofZ ks t < (s : Int))
theorem pwhole_merge {ks : List KV} {ws : List Tx} (hs : SortedS ws) (s : Nat) : mergeL (belowS ks ws s) (sliceS ks ws s) = belowS ks ws (s + 1) := by
  refine sorted_unique (mergeL_sorted _ _ _ (Nat.le_refl _) (sorted_filter _ hs) (sorted_filter _ hs)) (sorted_filter _ hs) fun z => ?_
  rw [mem_mergeL]
  unfold belowS sliceS
  simp only [List.mem_filter, decide_eq_true_eq]
  constructor
  · rintro (⟨h, k⟩ | ⟨h, k⟩)
    · exact ⟨h, by omega⟩
    · exact ⟨h, by omega⟩
  · rintro ⟨h, k⟩
    by_cases h2 : ofZ ks z < (s : Int)
    · exact Or.inl ⟨h, h2⟩
    · exact Or.inr ⟨h, by omega⟩
theorem pwhole_len (ks : List KV) (s : Nat) : ∀ ws : List Tx, (belowS ks ws (s + 1)).length = (belowS ks ws s).length + (sliceS ks ws s).length
  | [] => rfl
  | t :: ws => by
    have ih := pwhole_len ks s ws
    unfold belowS sliceS at ih ⊢
    simp only [List.filter_cons]
    rcases Int.lt_trichotomy (ofZ ks t) (s : Int) with h | h | h
    · rw [if_pos (by simp; omega), if_pos (by simp; omega), if_neg (by simp; omega), List.length_cons, List.length_cons]; omega
    · rw [if_pos (by simp; omega), if_neg (by simp; omega), if_pos (by simp; omega), List.length_cons, List.length_cons]; omega
    · rw [if_neg (by simp; omega), if_neg (by simp; omega), if_neg (by simp; omega)]; omega
theorem pwhole_zero {ks : List KV} {ws : List Tx} (hw : ∀ t ∈ ws, wordP t) : belowS ks ws 0 = [] := by
  unfold belowS
  rw [List.filter_eq_nil_iff]
  intro t ht
  rw [ofZ_word (hw t ht)]
  simp
theorem pwhole_all {ks : List KV} {ws : List Tx} (hw : ∀ t ∈ ws, wordP t) : belowS ks ws (ks.length + 1) = ws := by
  unfold belowS
  rw [List.filter_eq_self]
  intro t ht
  rw [ofZ_word (hw t ht), decide_eq_true_iff]
  have := ofN_le ks (keyOf t)
  omega
theorem pwhole_none {ks : List KV} {ws : List Tx} (hw : ∀ t ∈ ws, wordP t) : sliceS ks ws (ks.length + 1) = [] := by
  unfold sliceS
  rw [List.filter_eq_nil_iff]
  intro t ht
  rw [ofZ_word (hw t ht)]
  have := ofN_le ks (keyOf t)
  simp; omega
theorem in_shard {ks : List KV} {ws : List Tx} {s : Nat} {t : Tx} (hw : ∀ t ∈ ws, wordP t) (h : t ∈ sliceS ks ws s) : t ∈ ws ∧ ofZ ks t = (s : Int) ∧ loK ks s ≤ lenS t ∧ lenS t ≤ hiK ks s := by
  obtain ⟨h1, h2⟩ := List.mem_filter.1 h
  rw [decide_eq_true_eq] at h2
  have h3 := h2
  rw [ofZ_word (hw t h1)] at h3
  have h4 : ofN ks (keyOf t) = s := by omega
  have h5 := lens_of (ks := ks) (hw t h1)
  rw [h4] at h5
  exact ⟨h1, h2, h5⟩
def LstP (w : World) (a : Option Addr) (n c : Nat) (ts : List Tx) : Prop := HoldsT w a n ts ∧ (a = none → n = 0 ∧ c = 0) ∧ n ≤ c
theorem LstP.below {w w' : World} {a : Option Addr} {n c : Nat} {ts : List Tx} (h : LstP w a n c ts) (hb : Below w.heap.size w w') : LstP w' a n c ts := ⟨h.1.below hb, h.2⟩
theorem LstP.own {w : World} {B : Nat} {a : Option Addr} {n c : Nat} {ts : List Tx} (h : w.ownsRow B 9 1 (.slice a n c) n (strsV ts)) : LstP w a n c ts := ⟨HoldsT.own h, owns_none h⟩
theorem greatT_lit (a : Option Addr) (n cap : Nat) (ts : List Tx) (b : Bool) (w : World) (hh : HoldsT w a n ts) (hn : n ≤ 9223372036854775807) (hsz : ∀ t ∈ ts, t.size ≤ 9223372036854775807) (hb : greatB ts = b) :
    Calls Try.prog 16 #[.slice a n cap] w fun e w' => e = .returned (.bool b) ∧ Below w.heap.size w w' := by subst hb; exact great_any a n cap ts w hh hn hsz
theorem goodT_lit (a : Option Addr) (n cap : Nat) (ts : List Tx) (v : Int) (w : World) (hh : HoldsT w a n ts) (hn : n ≤ 9223372036854775807) (hsz : ∀ t ∈ ts, t.size ≤ 9223372036854775807) (hv : goodV ts = v) :
    Calls Try.prog 17 #[.slice a n cap] w fun e w' => e = .returned (.int .i64 v) ∧ Below w.heap.size w w' := by subst hv; exact good_any' a n cap ts w hh hn hsz
end Go.Proofs.Yteloiibejkflhaa
