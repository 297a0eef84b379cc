/- lists in one word; awake of the laws of lists -/
import Derived.Test.YtieenopbkkbecaaWt1
namespace Go.Proofs.Ytieenopbkkbecaa
open Go.RowKit
set_option linter.unusedVariables false
/-- a slice that reads as these texts -/
def Lst (w : World) (a : Option Addr) (n c : Nat) (ts : List Tx) : Prop := HoldsT w a n ts ∧ (a = none → n = 0 ∧ c = 0) ∧ n ≤ c
theorem Lst.below {w w' : World} {a : Option Addr} {n c : Nat} {ts : List Tx} (h : Lst w a n c ts) (hb : Below w.heap.size w w') : Lst w' a n c ts := ⟨h.1.below hb, h.2⟩
theorem Lst.own {w : World} {B : Nat} {a : Option Addr} {n c : Nat} {ts : List Tx} (h : w.ownsRow B 9 1 (.slice a n c) n (strsV ts)) : Lst w a n c ts := ⟨HoldsT.own h, owns_none h⟩
theorem great_lit (a : Option Addr) (n cap : Nat) (ts : List Tx) (b : Bool) (w : World) (hh : HoldsT w a n ts) (hn : n ≤ 9223372036854775807) (hsz : ∀ t ∈ ts, t.size ≤ 9223372036854775807) (hb : greatB ts = b) :
    Calls Try.prog 9 #[.slice a n cap] w fun e w' => e = .returned (.bool b) ∧ Below w.heap.size w w' := by subst hb; exact great_any a n cap ts w hh hn hsz
theorem good_lit (a : Option Addr) (n cap : Nat) (ts : List Tx) (v : Int) (w : World) (hh : HoldsT w a n ts) (hn : n ≤ 9223372036854775807) (hsz : ∀ t ∈ ts, t.size ≤ 9223372036854775807) (hv : goodV ts = v) :
    Calls Try.prog 14 #[.slice a n cap] w fun e w' => e = .returned (.int .i64 v) ∧ Below w.heap.size w w' := by subst hv; exact good_any' a n cap ts w hh hn hsz
theorem rgood_lit (a : Option Addr) (n cap : Nat) (ts : List Tx) (v : Int) (w : World) (hh : HoldsT w a n ts) (hn : n ≤ 9223372036854775807) (hsz : ∀ t ∈ ts, t.size ≤ 1048576) (hv : goodV ts = v) :
    Calls Try.prog 15 #[.slice a n cap] w fun e w' => e = .returned (.int .i64 v) ∧ Below w.heap.size w w' := by subst hv; exact rgood_any a n cap ts w hh hn hsz
theorem merge_lst (a : Option Addr) (n c : Nat) (xs : List Tx) (a1 : Option Addr) (n1 c1 : Nat) (ys zs : List Tx) (k : Nat) (w : World) (h : Lst w a n c xs) (h1 : Lst w a1 n1 c1 ys) (hn : n ≤ 1000) (hn1 : n1 ≤ 1000) (hz : mergeL xs ys = zs) (hk : zs.length = k) :
    Calls Try.prog 20 #[.slice a n c, .slice a1 n1 c1] w fun e w' => ∃ a' c', e = .returned (.slice a' k c') ∧ w'.ownsRow w.heap.size 9 1 (.slice a' k c') k (strsV zs) ∧ Below w.heap.size w w' := by
  subst hz hk
  exact (merge_any a n c xs a1 n1 c1 ys w h.1 h.2.1 h.2.2 h1.1 h1.2.1 h1.2.2 hn hn1).mono fun _ _ ⟨a', c', h1, h2, h3⟩ => ⟨a', c', h1, h2, h3⟩
theorem without_lst (a : Option Addr) (n c : Nat) (xs : List Tx) (a1 : Option Addr) (n1 c1 : Nat) (ys zs : List Tx) (k : Nat) (w : World) (h : Lst w a n c xs) (h1 : Lst w a1 n1 c1 ys) (hn : n ≤ 1000) (hn1 : n1 ≤ 1000) (hs : SortedS ys) (hz : lessOf xs ys = zs) (hk : zs.length = k) :
    Calls Try.prog 21 #[.slice a n c, .slice a1 n1 c1] w fun e w' => ∃ a' c', e = .returned (.slice a' k c') ∧ w'.ownsRow w.heap.size 9 1 (.slice a' k c') k (strsV zs) ∧ Below w.heap.size w w' := by
  subst hz hk
  exact (without_any a n c xs a1 n1 c1 ys w h.1 h1.1 hn hn1 hs).mono fun _ _ ⟨a', c', h1, h2, h3⟩ => ⟨a', c', h1, h2, h3⟩
theorem sorted_lst (a : Option Addr) (n c : Nat) (ts zs : List Tx) (k : Nat) (w : World) (h : Lst w a n c ts) (hn : n ≤ 1000) (hsz : ∀ t ∈ ts, t.size ≤ 9223372036854775807) (hz : canonS (wordsOf ts) = zs) (hk : zs.length = k) :
    Calls Try.prog 12 #[.slice a n c] w fun e w' => ∃ a' c', e = .returned (.slice a' k c') ∧ w'.ownsRow w.heap.size 9 1 (.slice a' k c') k (strsV zs) ∧ Below w.heap.size w w' := by
  subst hz hk
  exact (sorted_any a n c ts w h.1 h.2.2 hn hsz).mono fun _ _ ⟨a', c', h1, h2, h3⟩ => ⟨a', c', h1, h2, h3⟩
theorem holdsT_lit (w : World) (ts : List Tx) (e : TypeId) (fr : Nat × Nat) : HoldsT (w.alloc (.cells (strsV ts).toArray e fr)) (some ⟨w.heap.size, 0, none⟩) ts.length ts := by
  refine ⟨by simp [strsV], fun _ => ⟨w.heap.size, 0, rfl, fun i hi => ?_⟩⟩
  rw [Nat.zero_add, World.cell?_alloc_mark]
  simp [strsV, List.getD_eq_getElem?_getD, hi]
abbrev tA : Tx := { data := #[97] }
abbrev tB : Tx := { data := #[98] }
abbrev tC : Tx := { data := #[99] }
abbrev tE : Tx := { data := #[] }
theorem cmpS_data (a b : Tx) : cmpS a b = cmpL a.data.toList b.data.toList := by unfold cmpS; rw [ByteArray.toList_eq, ByteArray.toList_eq]
theorem lit_ab : cmpS tA tB = -1 := by rw [cmpS_data]; decide
theorem lit_ba : cmpS tB tA = 1 := by rw [cmpS_data]; decide
theorem lit_ac : cmpS tA tC = -1 := by rw [cmpS_data]; decide
theorem lit_cb : cmpS tC tB = 1 := by rw [cmpS_data]; decide
theorem lit_sorted_ac : SortedS [tA, tC] := by simp [SortedS, lit_ac]
theorem lit_sorted_ab : SortedS [tA, tB] := by simp [SortedS, lit_ab]
theorem lit_at : atN [tA, tC] tB = 1 := by simp [atN, lit_ab, lit_cb]
theorem lit_in : decide (tB ∈ [tA, tC]) = false := by decide
theorem lit_good : goodV [tB, tA] = 7 := by
  refine goodV_sort (by decide) (by decide) ?_
  simp [SortedS, lit_ba]
theorem lit_words : wordsOf [tB, tE, tA, tB] = [tB, tA, tB] := by decide
theorem lit_canon : canonS (wordsOf [tB, tE, tA, tB]) = [tA, tB] := by
  rw [lit_words]
  refine (canon_of lit_sorted_ab fun z => ?_).symm
  simp only [List.mem_cons, List.not_mem_nil, or_false]
  constructor
  · rintro (h | h) <;> simp [h]
  · rintro (h | h | h) <;> simp [h]
end Go.Proofs.Ytieenopbkkbecaa
