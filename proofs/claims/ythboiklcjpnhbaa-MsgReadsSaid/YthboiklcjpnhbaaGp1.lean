/- graph: what is plain -/
import Derived.Test.YthboiklcjpnhbaaWs1
import Derived.Test.YthboiklcjpnhbaaUm
import Derived.Test.YthboiklcjpnhbaaSfEdges
namespace Go.Proofs.Ythboiklcjpnhbaa
open Go.RowKit
set_option linter.unusedVariables false
set_option maxRecDepth 20000
def labS (s : Tx) : Nat := (Utf8.decode s 0).1
def rstS (s : Tx) : Tx := s.extract (Utf8.decode s 0).2 s.size
/-- the first rune of the first, and what is behind it in all that begin so -/
def folS : List Tx → Nat × List Tx
  | [] => (0, [])
  | s :: l => (labS s, ((s :: l).takeWhile (fun t => decide (labS t = labS s))).map rstS)
structure GN where
  rests : List Tx
  final : Bool
  edges : List EdP
def gn0 : GN := ⟨[], false, []⟩
def finS (l : List Tx) : Bool := decide (l.head? = some (⟨#[]⟩ : ByteArray))
def bodS (l : List Tx) : List Tx := if finS l then l.tail else l
def edgesF (rf : List GN → List Tx → Nat × List GN) : Nat → List Tx → List EdP → List GN → List EdP × List GN
  | 0, _, es, st => (es, st)
  | f + 1, l, es, st => if l = [] then (es, st) else edgesF rf f (l.drop (folS l).2.length) (es ++ [⟨((folS l).1 : Int), ((rf st (folS l).2).1 : Int)⟩]) (rf st (folS l).2).2
def findG (st : List GN) (s : List Tx) : Option Nat := st.findIdx? (fun g => decide (g.rests = s))
def reachF : Nat → List GN → List Tx → Nat × List GN
  | 0, st, _ => (0, st)
  | f + 1, st, s =>
    match findG st s with
    | some i => (i, st)
    | none => (st.length, (edgesF (reachF f) (bodS s).length (bodS s) [] (st ++ [⟨s, false, []⟩])).2.set st.length ⟨s, finS s, (edgesF (reachF f) (bodS s).length (bodS s) [] (st ++ [⟨s, false, []⟩])).1⟩)
/-- texts in order, each well made, of at most f runes; not too many, nor too long -/
structure OkL (f : Nat) (l : List Tx) : Prop where
  ord : SortedS l
  lo : ∀ t ∈ l, 0 ≤ lenS t
  hi : ∀ t ∈ l, lenS t ≤ f
  n : l.length ≤ 100
  sz : ∀ t ∈ l, t.size ≤ 100
theorem fol_len (l : List Tx) (h : l ≠ []) : 0 < (folS l).2.length ∧ (folS l).2.length ≤ l.length := by
  cases l with
  | nil => exact absurd rfl h
  | cons s l =>
    unfold folS
    simp only [List.length_map]
    rw [List.takeWhile_cons, if_pos (by simp)]
    have := (List.takeWhile_sublist (l := l) (fun t => decide (labS t = labS s))).length_le
    simp; omega
theorem empty_size {t : Tx} (h : t.size = 0) : t = ⟨#[]⟩ := by
  have := empty_of t h; exact this
theorem cmp_empty (t : Tx) : ¬ cmpS t ⟨#[]⟩ < 0 := by
  rw [cmpS_lt]
  intro h
  have : (⟨#[]⟩ : ByteArray).toList = [] := by kernel_rfl
  rw [this] at h
  exact List.not_lt_nil _ h
theorem bod_pos {l : List Tx} (h : SortedS l) : ∀ t ∈ bodS l, 0 < t.size := by
  intro t ht
  cases l with
  | nil => simp [bodS, finS] at ht
  | cons s l =>
    unfold bodS at ht
    have hp := List.pairwise_cons.1 h
    by_cases hf : finS (s :: l) = true
    · rw [if_pos hf] at ht
      have hc := hp.1 t ht
      rcases Nat.eq_zero_or_pos t.size with h0 | h0
      · rw [empty_size h0] at hc
        exact absurd hc (cmp_empty s)
      · exact h0
    · rw [if_neg hf] at ht
      have hs : 0 < s.size := by
        rcases Nat.eq_zero_or_pos s.size with h0 | h0
        · exact absurd (by unfold finS; rw [empty_size h0]; simp) hf
        · exact h0
      rcases List.mem_cons.1 ht with rfl | ht
      · exact hs
      · have hc := hp.1 t ht
        rcases Nat.eq_zero_or_pos t.size with h0 | h0
        · rw [empty_size h0] at hc
          exact absurd hc (cmp_empty s)
        · exact h0
theorem OkL.bod {f : Nat} {l : List Tx} (h : OkL f l) : OkL f (bodS l) := by
  unfold bodS
  split
  · exact ⟨List.Pairwise.tail h.ord, fun t ht => h.lo t (List.mem_of_mem_tail ht), fun t ht => h.hi t (List.mem_of_mem_tail ht), by rw [List.length_tail]; have := h.n; omega, fun t ht => h.sz t (List.mem_of_mem_tail ht)⟩
  · exact h
theorem OkL.drop {f : Nat} {l : List Tx} (h : OkL f l) (k : Nat) : OkL f (l.drop k) :=
  ⟨List.Pairwise.sublist (List.drop_sublist _ _) h.ord, fun t ht => h.lo t (List.mem_of_mem_drop ht), fun t ht => h.hi t (List.mem_of_mem_drop ht), by rw [List.length_drop]; have := h.n; omega, fun t ht => h.sz t (List.mem_of_mem_drop ht)⟩
/-! the first rune -/
theorem good_first {t : Tx} (h : 0 ≤ lenS t) (h0 : 0 < t.size) : (Utf8.decode t 0).1 ≠ 65533 ∧ (Utf8.decode t 0).2 ≤ t.size ∧ runesS t = labS t :: runesN t (t.size - 1) (Utf8.decode t 0).2 := by
  obtain ⟨g, hg, hs, _⟩ := runesN_step t t.size 0 h0 (by omega)
  have hr : runesS t = labS t :: runesN t g (Utf8.decode t 0).2 := by
    show runesN t t.size 0 = _
    rw [hs, Nat.zero_add]; rfl
  have hn : (Utf8.decode t 0).1 ≠ 65533 := (lenS_pos h).1 _ (by rw [hr]; exact List.mem_cons_self ..)
  have hw := (decode_left t t 0 h0 hn).2
  refine ⟨hn, by omega, ?_⟩
  rw [hr, show t.size - 1 = g by omega]
theorem rst_split {t : Tx} (h : 0 ≤ lenS t) (h0 : 0 < t.size) : t.extract 0 (Utf8.decode t 0).2 ++ rstS t = t := extract_join t _ (good_first h h0).2.1
theorem rst_size {t : Tx} (h : 0 ≤ lenS t) (h0 : 0 < t.size) : (rstS t).size = t.size - (Utf8.decode t 0).2 ∧ (rstS t).size < t.size := by
  have h1 := (good_first h h0).2.1
  have h2 := (extract_size t _ h1).2
  have h3 := decode_width t 0 h0
  unfold rstS
  omega
theorem rst_runes {t : Tx} (h : 0 ≤ lenS t) (h0 : 0 < t.size) : runesS t = labS t :: runesS (rstS t) := by
  obtain ⟨h1, h2, h3⟩ := good_first h h0
  have hz := (extract_size t (Utf8.decode t 0).2 h2).1
  have hr := rst_split h h0
  have hs := (rst_size h h0).1
  have hw := decode_width t 0 h0
  rw [h3]
  refine congrArg (List.cons (labS t)) ?_
  have e : runesN t (t.size - 1) (Utf8.decode t 0).2 = runesN (t.extract 0 (Utf8.decode t 0).2 ++ rstS t) (t.size - 1) ((t.extract 0 (Utf8.decode t 0).2).size + 0) := by rw [hr, hz, Nat.add_zero]
  rw [e, runesN_right]
  show runesN (rstS t) (t.size - 1) 0 = runesN (rstS t) (rstS t).size 0
  exact runesN_fuel (rstS t) (t.size - 1) (rstS t).size 0 (by omega) (by omega)
theorem rst_len {t : Tx} (h : 0 ≤ lenS t) (h0 : 0 < t.size) : 0 ≤ lenS (rstS t) ∧ lenS t = lenS (rstS t) + 1 := by
  have hr := rst_runes h h0
  obtain ⟨h1, h2⟩ := lenS_pos h
  have hg : ∀ r ∈ runesS (rstS t), r ≠ 65533 := fun r hm => h1 r (by rw [hr]; exact List.mem_cons_of_mem _ hm)
  have := lenS_good hg
  rw [h2, hr, List.length_cons, this]
  omega
end Go.Proofs.Ythboiklcjpnhbaa
