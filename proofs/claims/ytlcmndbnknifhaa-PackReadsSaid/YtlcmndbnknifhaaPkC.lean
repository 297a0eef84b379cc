/- texts joined -/
import Derived.Test.YtlcmndbnknifhaaPkB
import Derived.Test.YtlcmndbnknifhaaPkA
import Derived.SliceStrings
import Derived.Laws.RangeAny
import Derived.Shelf.Strings.Builder1
import Derived.Shelf.Strings.BuilderK
import Derived.Shelf.Strings.BuilderRune
import Derived.Shelf.Utf8.AppendRune
import Derived.Test.YtlcmndbnknifhaaChecked
import Derived.WalkLawsBesides
import Derived.Outline
import Derived.Lib.RuneBytes
import Derived.Deep.AppendLies
import Derived.Deep.QuietTactic
import Derived.BigQuiet
/- graph: along a text's runes one comes to an end just if it is there -/
namespace Go.Proofs.Ytlcmndbnknifhaa
open Go.RowKit
set_option linter.unusedVariables false
set_option maxRecDepth 20000
theorem lab_le {s t : Tx} (hs : 0 ≤ lenS s) (ht : 0 ≤ lenS t) (s0 : 0 < s.size) (t0 : 0 < t.size) (h : cmpS s t < 0) : labS s ≤ labS t := by
  rw [cmpS_runes s t hs ht, rst_runes hs s0, rst_runes ht t0] at h
  simp only [lexN] at h
  by_cases h1 : labS s ≤ labS t
  · exact h1
  · split at h <;> first | omega | (split at h <;> omega)
/-- texts in order, none empty, each well made -/
structure Run (l : List Tx) : Prop where
  ord : SortedS l
  pos : ∀ t ∈ l, 0 < t.size
  lo : ∀ t ∈ l, 0 ≤ lenS t
theorem Run.drop {l : List Tx} (h : Run l) (k : Nat) : Run (l.drop k) :=
  ⟨List.Pairwise.sublist (List.drop_sublist _ _) h.ord, fun t ht => h.pos t (List.mem_of_mem_drop ht), fun t ht => h.lo t (List.mem_of_mem_drop ht)⟩
theorem dw_first {α : Type} (p : α → Bool) : ∀ (l : List α) (x : α) (m : List α), l.dropWhile p = x :: m → p x = false
  | [], x, m, h => by simp at h
  | y :: l, x, m, h => by
    rw [List.dropWhile_cons] at h
    split at h
    · exact dw_first p l x m h
    · rename_i hy
      injection h with h1 h2
      subst h1
      simpa using hy
theorem drop_tw {α : Type} (p : α → Bool) : ∀ l : List α, l.drop (l.takeWhile p).length = l.dropWhile p
  | [] => rfl
  | x :: l => by
    by_cases h : p x = true
    · rw [List.takeWhile_cons, if_pos h, List.dropWhile_cons, if_pos h, List.length_cons, List.drop_succ_cons, drop_tw p l]
    · rw [List.takeWhile_cons, if_neg h, List.dropWhile_cons, if_neg h]; rfl
/-- behind the first's own, all begin with another rune -/
theorem Run.rest {s : Tx} {l : List Tx} (h : Run (s :: l)) : ∀ t ∈ (s :: l).drop (folS (s :: l)).2.length, labS s < labS t := by
  have e : (folS (s :: l)).2.length = ((s :: l).takeWhile (fun t => decide (labS t = labS s))).length := by unfold folS; rw [List.length_map]
  rw [e, drop_tw]
  cases hd : (s :: l).dropWhile (fun t => decide (labS t = labS s)) with
  | nil => intro t ht; simp at ht
  | cons x m =>
    have hx : labS x ≠ labS s := of_decide_eq_false (dw_first (fun t => decide (labS t = labS s)) _ _ _ hd)
    have sub : (x :: m).Sublist (s :: l) := hd ▸ List.dropWhile_sublist _
    have hxm : x ∈ s :: l := sub.subset (by simp)
    have hsx : labS s ≤ labS x := by
      rcases List.mem_cons.1 hxm with rfl | hm
      · exact Nat.le_refl _
      · exact lab_le (h.lo s (by simp)) (h.lo x hxm) (h.pos s (by simp)) (h.pos x hxm) ((List.pairwise_cons.1 h.ord).1 x hm)
    have ho := List.Pairwise.sublist sub h.ord
    intro t ht
    have htm := sub.subset ht
    have hxt : labS x ≤ labS t := by
      rcases List.mem_cons.1 ht with rfl | hm
      · exact Nat.le_refl _
      · exact lab_le (h.lo x hxm) (h.lo t htm) (h.pos x hxm) (h.pos t htm) ((List.pairwise_cons.1 ho).1 t hm)
    omega
theorem same_lab {s t : Tx} (hs : 0 ≤ lenS s) (ht : 0 ≤ lenS t) (s0 : 0 < s.size) (t0 : 0 < t.size) (hl : labS s = labS t) (hr : rstS s = rstS t) : s = t := by
  have h := rst_ord hs ht s0 t0 hl
  rw [hr, cmpS_same] at h
  exact cmpS_zero.1 h.symm
theorem mem_fol {s : Tx} {l : List Tx} (h : Run (s :: l)) {w : Tx} (w0 : 0 < w.size) (wl : 0 ≤ lenS w) (hl : labS s = labS w) : w ∈ s :: l ↔ rstS w ∈ (folS (s :: l)).2 := by
  have sub := List.takeWhile_sublist (l := s :: l) (fun t => decide (labS t = labS s))
  have e : (folS (s :: l)).2 = ((s :: l).takeWhile (fun t => decide (labS t = labS s))).map rstS := rfl
  constructor
  · intro hm
    rw [e]
    refine List.mem_map.2 ⟨w, ?_, rfl⟩
    rw [← List.takeWhile_append_dropWhile (p := fun t => decide (labS t = labS s)) (l := s :: l)] at hm
    rcases List.mem_append.1 hm with hm | hm
    · exact hm
    · have e2 : (folS (s :: l)).2.length = ((s :: l).takeWhile (fun t => decide (labS t = labS s))).length := by unfold folS; rw [List.length_map]
      rw [← drop_tw, ← e2] at hm
      have := h.rest w hm
      omega
  · intro hm
    rw [e] at hm
    obtain ⟨u, hu, e3⟩ := List.mem_map.1 hm
    have hum := sub.subset hu
    have hul : labS u = labS s := by have h1 := mem_tw (p := fun t => decide (labS t = labS s)) hu; exact of_decide_eq_true h1
    rw [← same_lab (h.lo u hum) wl (h.pos u hum) w0 (hul.trans hl) e3]
    exact hum
theorem mem_past {s : Tx} {l : List Tx} {w : Tx} (hl : labS s ≠ labS w) : w ∈ s :: l ↔ w ∈ (s :: l).drop (folS (s :: l)).2.length := by
  have e2 : (folS (s :: l)).2.length = ((s :: l).takeWhile (fun t => decide (labS t = labS s))).length := by unfold folS; rw [List.length_map]
  rw [e2, drop_tw]
  conv => lhs; rw [← List.takeWhile_append_dropWhile (p := fun t => decide (labS t = labS s)) (l := s :: l)]
  rw [List.mem_append]
  constructor
  · rintro (h | h)
    · have h1 := mem_tw (p := fun t => decide (labS t = labS s)) h
      exact absurd (of_decide_eq_true h1).symm hl
    · exact h
  · exact Or.inr
theorem findE_ok {R : List (List Tx)} {w : Tx} (w0 : 0 < w.size) (wl : 0 ≤ lenS w) : ∀ (es : List EdP) (l : List Tx), EdOk R l es → Run l →
    (∃ (k : Nat) (m : List Tx), findE (labS w : Int) es = ((k : Int), true) ∧ R[k]? = some m ∧ (w ∈ l ↔ rstS w ∈ m)) ∨ (findE (labS w : Int) es = (0, false) ∧ w ∉ l)
  | [], l, h, _ => Or.inr ⟨rfl, by rw [show l = [] from h]; simp⟩
  | e :: es, [], h, _ => absurd rfl h.1
  | e :: es, s :: l, h, hr => by
    obtain ⟨h1, h2, ⟨k, h3, h4⟩, h5⟩ := h
    have h2 : e.r = (labS s : Int) := h2
    by_cases hl : labS s = labS w
    · refine Or.inl ⟨k, (folS (s :: l)).2, ?_, h4, mem_fol hr w0 wl hl⟩
      rw [findE, if_pos (by rw [h2, hl]), h3]
    · have hne : ¬ e.r = (labS w : Int) := fun e2 => hl (by rw [h2] at e2; exact Int.ofNat.inj e2)
      rw [findE, if_neg hne, mem_past hl]
      exact findE_ok w0 wl es _ h5 (hr.drop _)
theorem ed_good {R : List (List Tx)} : ∀ (es : List EdP) (l : List Tx), EdOk R l es → Run l → ∀ e ∈ es, e.r ≠ 65533
  | [], l, _, _ => fun e he => by simp at he
  | e :: es, [], h, _ => absurd rfl h.1
  | e :: es, s :: l, h, hr => by
    obtain ⟨h1, h2, -, h5⟩ := h
    have h2 : e.r = (labS s : Int) := h2
    intro x hx
    rcases List.mem_cons.1 hx with rfl | hx
    · have := (good_first (hr.lo s (by simp)) (hr.pos s (by simp))).1
      rw [h2]
      intro e2
      exact this (Int.ofNat.inj e2)
    · exact ed_good es _ h5 (hr.drop _) x hx
theorem OkL.run {f : Nat} {l : List Tx} (h : OkL f l) : Run (bodS l) := ⟨h.bod.ord, bod_pos h.ord, h.bod.lo⟩
theorem GOk.node {st : List GN} {ts : List Tx} (G : GOk st ts) {k : Nat} {l : List Tx} (h : (restsG st)[k]? = some l) : k < st.length ∧ (st.getD k gn0).rests = l ∧ NOk (restsG st) (st.getD k gn0) := by
  obtain ⟨h1, h2⟩ := List.getElem?_eq_some_iff.1 h
  have hk : k < st.length := by simpa [restsG] using h1
  have e : st.getD k gn0 = st[k] := by rw [List.getD_eq_getElem?_getD, List.getElem?_eq_getElem hk]; rfl
  refine ⟨hk, ?_, ?_⟩
  · rw [e, ← h2]; simp [restsG]
  · rw [e]; exact G.nodes _ (List.getElem_mem hk)
theorem fin_mem {l : List Tx} (h : SortedS l) : finS l = decide ((⟨#[]⟩ : ByteArray) ∈ l) := by
  cases l with
  | nil => rfl
  | cons s l =>
    unfold finS
    refine decide_eq_decide.2 ?_
    rw [List.head?_cons, List.mem_cons]
    constructor
    · intro e; injection e with e; exact Or.inl e.symm
    · rintro (e | e)
      · rw [e]
      · exact absurd ((List.pairwise_cons.1 h).1 _ e) (cmp_empty s)
theorem mem_bod {l : List Tx} {w : Tx} (h : 0 < w.size) : w ∈ l ↔ w ∈ bodS l := by
  unfold bodS
  split
  · rename_i hf
    cases l with
    | nil => simp
    | cons s l =>
      have : s = ⟨#[]⟩ := by
        have h2 : (s :: l).head? = some (⟨#[]⟩ : ByteArray) := of_decide_eq_true hf
        rw [List.head?_cons] at h2; injection h2
      rw [List.mem_cons, List.tail_cons]
      refine ⟨fun e => e.resolve_left fun e2 => ?_, Or.inr⟩
      rw [e2, this] at h
      exact absurd h (by simp [ByteArray.size])
  · exact Iff.rfl
theorem has_at {st : List GN} {k : Nat} (h : k < st.length) : hasG st (k : Int) = true ∧ edgesG st (k : Int) = (st.getD k gn0).edges ∧ finG st (k : Int) = (st.getD k gn0).final := by
  have h1 : hasG st (k : Int) = true := by unfold hasG; exact decide_eq_true (by omega)
  refine ⟨h1, ?_, ?_⟩
  · unfold edgesG; rw [if_pos h1]; rfl
  · unfold finG; rw [h1]; simp
theorem walk_in {st : List GN} {ts : List Tx} (G : GOk st ts) : ∀ (n : Nat) (w : Tx), w.size ≤ n → 0 ≤ lenS w → ∀ (k : Nat) (l : List Tx), (restsG st)[k]? = some l → endG st (walkG st (runesS w) (k : Int)) = decide (w ∈ l) := by
  intro n
  induction n with
  | zero =>
    intro w hw _ k l hk
    obtain rfl := empty_size (Nat.le_zero.1 hw)
    obtain ⟨h1, h2, h3⟩ := G.node hk
    have := (has_at h1).2.2
    show finG st (k : Int) = _
    rw [this, h3.fin, h2]
    exact fin_mem (h2 ▸ h3.ok.ord)
  | succ n ih =>
    intro w hw hl k l hk
    obtain ⟨h1, h2, h3⟩ := G.node hk
    obtain ⟨a1, a2, a3⟩ := has_at h1
    rcases Nat.eq_zero_or_pos w.size with h0 | h0
    · obtain rfl := empty_size h0
      show finG st (k : Int) = _
      rw [a3, h3.fin, h2]
      exact fin_mem (h2 ▸ h3.ok.ord)
    · have hb : w ∈ l ↔ w ∈ bodS l := mem_bod h0
      have he := h3.ed
      have hr := h3.ok.run
      rw [h2] at he hr
      rw [rst_runes hl h0]
      unfold walkG nextG
      rw [a2]
      rcases findE_ok h0 hl _ _ he hr with ⟨k', m, e1, e2, e3⟩ | ⟨e1, e2⟩
      · rw [e1, if_pos rfl]
        rw [ih (rstS w) (by have := (rst_size hl h0).2; omega) (rst_len hl h0).1 k' m e2]
        exact decide_eq_decide.2 (e3.symm.trans hb.symm)
      · rw [e1, if_neg (by simp)]
        show false = _
        exact (decide_eq_false (fun e => e2 (hb.1 e))).symm
theorem edges_good {st : List GN} {ts : List Tx} (G : GOk st ts) (n : Int) : ∀ e ∈ edgesG st n, e.r ≠ 65533 := by
  cases hb : hasG st n with
  | false => unfold edgesG; rw [if_neg (by rw [hb]; simp)]; intro e he; simp at he
  | true =>
    obtain ⟨k, rfl, hk⟩ := hasG_yes hb
    rw [(has_at hk).2.1]
    have hR : (restsG st)[k]? = some st[k].rests := by simp [restsG, hk]
    obtain ⟨h1, h2, h3⟩ := G.node hR
    exact ed_good _ _ h3.ed h3.ok.run
theorem walk_bad {st : List GN} {ts : List Tx} (G : GOk st ts) : ∀ (rs : List Nat) (n : Int), 65533 ∈ rs → endG st (walkG st rs n) = false
  | [], n, h => by simp at h
  | r :: l, n, h => by
    unfold walkG
    by_cases h1 : r = 65533
    · subst h1
      unfold nextG
      rw [findE_none ((65533 : Nat) : Int) _ (fun x hx => edges_good G n x hx), if_neg (by simp)]; rfl
    · have h2 : 65533 ∈ l := (List.mem_cons.1 h).resolve_left (Ne.symm h1)
      split
      · exact walk_bad G l _ h2
      · rfl
/-- a text is there just if its runes lead to an end -/
theorem has_in {st : List GN} {ts : List Tx} (G : GOk st ts) (hts : ∀ t ∈ ts, 0 ≤ lenS t) (w : Tx) : hasW st (runesS w) = decide (w ∈ ts) := by
  unfold hasW
  by_cases hl : 0 ≤ lenS w
  · exact walk_in G w.size w (Nat.le_refl _) hl 0 ts G.root
  · rw [show (0 : Int) = ((0 : Nat) : Int) from rfl]
    have hm : 65533 ∈ runesS w := by
      refine Classical.byContradiction fun hn => hl ?_
      unfold lenS
      rw [if_neg hn]; omega
    rw [walk_bad G _ _ hm]
    exact (decide_eq_false (fun e => hl (hts w e))).symm
end Go.Proofs.Ytlcmndbnknifhaa
/- contract of text.Runes -/
namespace Go.Proofs.Ytlcmndbnknifhaa
open Go.RowKit
set_option linter.unusedVariables false
set_option maxRecDepth 20000
end Go.Proofs.Ytlcmndbnknifhaa
/- small facts on lists of texts -/
namespace Go.Proofs.Ytlcmndbnknifhaa
open Go.RowKit
set_option linter.unusedVariables false
set_option maxRecDepth 20000
theorem drop_cons (ts : List Tx) (j : Nat) (h : j < ts.length) : ts.drop j = ts.getD j ByteArray.empty :: ts.drop (j + 1) := by
  rw [List.drop_eq_getElem_cons h]
  simp [List.getD_eq_getElem?_getD, h]
theorem compare_lit (x y : Tx) (v : Int) (hv : cmpS x y = v) (w : World) : Calls Try.prog 45 #[.string x, .string y] w fun e w' => e = .returned (.int .i64 v) ∧ w = w' := by subst hv; exact compare_any x y w
end Go.Proofs.Ytlcmndbnknifhaa
/- contract of list.At -/
namespace Go.Proofs.Ytlcmndbnknifhaa
open Go.RowKit
set_option linter.unusedVariables false
set_option maxRecDepth 20000
theorem getD_cons_zero (x : Tx) (xs : List Tx) : (x :: xs).getD 0 ByteArray.empty = x := rfl
theorem getD_cons_succ (x : Tx) (xs : List Tx) (i : Nat) : (x :: xs).getD (i + 1) ByteArray.empty = xs.getD i ByteArray.empty := rfl
theorem getD_at {xs : List Tx} {i : Nat} (h : i < xs.length) : xs.getD i ByteArray.empty = xs[i] := by simp [List.getD_eq_getElem?_getD, h]
theorem sorted_at {xs : List Tx} (h : SortedS xs) {i j : Nat} (hij : i < j) (hj : j < xs.length) : cmpS (xs.getD i ByteArray.empty) (xs.getD j ByteArray.empty) < 0 := by
  have := List.pairwise_iff_getElem.1 h i j (by omega) hj hij
  rw [getD_at (show i < xs.length by omega), getD_at hj]; exact this
theorem atN_of : ∀ (xs : List Tx) (t : Tx) (i : Nat), i ≤ xs.length → (∀ k, k < i → cmpS (xs.getD k ByteArray.empty) t < 0) → (∀ k, i ≤ k → k < xs.length → ¬ cmpS (xs.getD k ByteArray.empty) t < 0) → atN xs t = i
  | [], t, i, hi, _, _ => by have : i = 0 := by simpa using hi
                             subst this; rfl
  | x :: xs, t, 0, _, _, h2 => by
    unfold atN
    rw [List.countP_eq_zero]
    intro y hy
    obtain ⟨k, hk, rfl⟩ := List.getElem_of_mem hy
    have := h2 k (Nat.zero_le _) hk
    rw [getD_at hk] at this
    simpa using this
  | x :: xs, t, i + 1, hi, h1, h2 => by
    have hx := h1 0 (by omega)
    rw [getD_cons_zero] at hx
    have ih := atN_of xs t i (by simpa using hi) (fun k hk => h1 (k + 1) (by omega)) (fun k hk hk2 => h2 (k + 1) (by omega) (by simpa using hk2))
    unfold atN at ih ⊢
    rw [List.countP_cons_of_pos (by simpa using hx), ih]
theorem mem_at_iff {xs : List Tx} {t : Tx} (hs : SortedS xs) {i : Nat} (h1 : ∀ k, k < i → cmpS (xs.getD k ByteArray.empty) t < 0) (h2 : ∀ k, i ≤ k → k < xs.length → ¬ cmpS (xs.getD k ByteArray.empty) t < 0) : t ∈ xs ↔ i < xs.length ∧ cmpS (xs.getD i ByteArray.empty) t = 0 := by
  constructor
  · intro h
    obtain ⟨k, hk, e⟩ := List.getElem_of_mem h
    have e2 : xs.getD k ByteArray.empty = t := by rw [getD_at hk, e]
    have hik : i ≤ k := by
      apply Classical.byContradiction
      intro hn
      have := h1 k (by omega)
      rw [e2] at this
      exact cmpS_irrefl t this
    by_cases hlt : i < k
    · have := sorted_at hs hlt hk
      rw [e2] at this
      exact absurd this (h2 i (Nat.le_refl _) (by omega))
    · obtain rfl : i = k := by omega
      exact ⟨hk, by rw [e2, cmpS_same]⟩
  · rintro ⟨h, e⟩
    rw [← cmpS_zero.1 e, getD_at h]
    exact List.getElem_mem _
end Go.Proofs.Ytlcmndbnknifhaa
/- a list of texts as argument, opened -/
namespace Go.Proofs.Ytlcmndbnknifhaa
open Go.ChangeShapes Go.WideShapes Go.ChangeAt Go.RowKit
set_option linter.unusedVariables false
set_option maxRecDepth 20000
theorem Try.cellsStr : Try.prog.cellsOf 9 = 1 := by kernel_rfl
theorem open_texts_arg {H : Type} {enc : TypeId × Value → H} {W : World} {base : Nat} {v : Value} {d : DataW H} {p : List MemPlace}
    (o : Value.okWide Try.prog W .any base 22 v) (h : DataW.Trod enc Try.prog W 0 (fun _ => true) true 22 v d p) :
    ∃ a n cap ts, v = .slice a n cap ∧ HoldsT W a n ts ∧ (a = none → n = 0 ∧ cap = 0) ∧ n ≤ cap ∧ n ≤ 9223372036854775807 ∧ ∀ t ∈ ts, t.size ≤ 9223372036854775807 := by
  obtain ⟨a, len, cap, rfl⟩ := okWide_slice Try.underlying22 o
  obtain ⟨fuel, hf⟩ := h
  rcases open_strings Try.underlying22 Try.underlying9 Try.cellsStr hf with ⟨hcs, _⟩ | ⟨x, l, c, ss, hcs, _, hl, hm, hz, _, hcell, hsz⟩
  · simp [Value.cells] at hcs
    obtain ⟨rfl, rfl, rfl⟩ := hcs
    exact ⟨none, 0, 0, [], rfl, HoldsT.nil _ _, fun _ => ⟨rfl, rfl⟩, Nat.le_refl _, by omega, by simp⟩
  · simp [Value.cells] at hcs
    obtain ⟨rfl, rfl, rfl⟩ := hcs
    have hzc : ss.length = cap := by simpa using hz
    refine ⟨some x, len, cap, ss.take len, rfl, ?_, (fun h => by cases h), hl, by unfold maxLen at hm; omega, fun t ht => by have := hsz t (List.mem_of_mem_take ht); unfold maxLen at this; omega⟩
    refine ⟨by simp [strsV]; omega, fun h0 => ?_⟩
    obtain ⟨b, off, spot⟩ := x
    have hspot : spot = none := by simpa [Addr.add] using World.cell?_spot (hcell 0 (by omega))
    subst hspot
    refine ⟨b, off, rfl, fun i hi => ?_⟩
    rw [← Go.WideShapes.add_plain, hcell i (by omega), getD_map_str _ i (by simp; omega)]
    congr 2
    simp only [List.getD_eq_getElem?_getD, List.getElem?_take]
    rw [if_pos hi]
end Go.Proofs.Ytlcmndbnknifhaa
/- graph: Build in one word; Next in one word -/
namespace Go.Proofs.Ytlcmndbnknifhaa
open Go.RowKit
set_option linter.unusedVariables false
set_option maxRecDepth 20000
theorem ed_few {R : List (List Tx)} : ∀ (es : List EdP) (l : List Tx), EdOk R l es → es.length ≤ l.length
  | [], l, _ => Nat.zero_le _
  | e :: es, l, h => by
    have h1 := ed_few es _ h.2.2.2
    have h2 := (fol_len l h.1)
    rw [List.length_drop] at h1
    simp only [List.length_cons]; omega
theorem GOk.few {st : List GN} {ts : List Tx} (G : GOk st ts) : ∀ x ∈ st, x.edges.length ≤ 100 := fun x hx => by
  have h := G.nodes x hx
  have h1 := ed_few _ _ h.ed
  have h2 := bod_len x.rests
  have h3 := h.ok.n
  omega
theorem grS_ok {ts : List Tx} (h : goodV ts = 0) (hs : ∀ t ∈ ts, t.size ≤ 100) : GOk (grS ts) ts := graph_ok (ok_good h hs)
theorem grS_len {ts : List Tx} (h : goodV ts = 0) (hs : ∀ t ∈ ts, t.size ≤ 100) : (grS ts).length ≤ 2000 := by
  have h1 : (grS ts).length ≤ 0 + wtS ts + 1 := (reach_len 12 [] ts (ok_good h hs)).2.1
  have h2 := wt_good ts (ok_good h hs).hi
  have h3 := (ok_good h hs).n
  omega
theorem gFinal_c (n : Int) (v : Bool) {w0 : World} {g : Nat} {st : List GN} {S : Nat → Prop} (w : World) (c : CtxG w0 w g st S) (hv : finG st n = v) :
    Calls Try.prog 34 #[.pointer (some ⟨g, 0, none⟩), .int .i64 n] w fun e w' => e = .returned (.bool v) ∧ w = w' := by subst hv; exact gFinal_any g st S n w c.G
end Go.Proofs.Ytlcmndbnknifhaa
/- pack: Of, of any words -/
namespace Go.Proofs.Ytlcmndbnknifhaa
open Go.RowKit
set_option linter.unusedVariables false
set_option maxRecDepth 20000
theorem edB_len (e : EdP) : (edB e).length = 6 := by unfold edB; rw [List.length_append, Cod.bytesOf_length, Cod.bytesOf_length]
theorem eds_len : ∀ es : List EdP, (es.flatMap edB).length = 6 * es.length
  | [] => rfl
  | e :: es => by rw [List.flatMap_cons, List.length_append, edB_len, eds_len es, List.length_cons]; omega
theorem ndB_len (x : GN) : (ndB x).length = 3 + 6 * x.edges.length := by
  unfold ndB; rw [List.length_append, List.length_append, Cod.bytesOf_length, eds_len]; simp; omega
theorem nds_len : ∀ (st : List GN) (_ : ∀ x ∈ st, x.edges.length ≤ 100), (st.flatMap ndB).length ≤ 603 * st.length
  | [], _ => by simp
  | x :: l, h => by
    have h1 := nds_len l (fun y hy => h y (by simp [hy]))
    have h2 := h x (by simp)
    rw [List.flatMap_cons, List.length_append, ndB_len, List.length_cons]; omega
theorem bodyB_len {st : List GN} (h : ∀ x ∈ st, x.edges.length ≤ 100) (hl : st.length ≤ 800) : (bodyB st).length ≤ 524000 := by
  have := nds_len st h
  unfold bodyB
  rw [List.length_append, List.length_append, Cod.bytesOf_length]
  simp only [List.length_cons, List.length_nil]; omega
theorem grS_few {ts : List Tx} (h : goodV ts = 0) (hs : ∀ t ∈ ts, t.size ≤ 100) : (grS ts).length ≤ 721 := by
  have h1 : (grS ts).length ≤ 0 + wtS ts + 1 := (reach_len 12 [] ts (ok_good h hs)).2.1
  have h2 := wt_good ts (ok_good h hs).hi
  have h3 := (goodV_zero h).1
  omega
theorem fol_lab {l : List Tx} (h : l ≠ []) : (folS l).1 ≤ 2147483647 := by
  cases l with
  | nil => exact absurd rfl h
  | cons t l => exact decode_le t 0
theorem ed_runes {R : List (List Tx)} : ∀ (es : List EdP) (l : List Tx), EdOk R l es → ∀ e ∈ es, 0 ≤ e.r ∧ e.r ≤ 2147483647
  | [], _, _ => fun e h => by simp at h
  | e :: es, l, h => fun x hx => by
    rcases List.mem_cons.1 hx with rfl | hx
    · have h1 := fol_lab h.1
      rw [h.2.1]; omega
    · exact ed_runes es _ h.2.2.2 x hx
theorem GOk.runes {st : List GN} {ts : List Tx} (G : GOk st ts) : ∀ x ∈ st, ∀ e ∈ x.edges, 0 ≤ e.r ∧ e.r ≤ 2147483647 := fun x hx => ed_runes _ _ (G.nodes x hx).ed
theorem encode_of (g : Nat) (ts : List Tx) (S : Nat → Prop) (w : World) (h : GAt g (grS ts) w S) (hv : goodV ts = 0) (hs : ∀ t ∈ ts, t.size ≤ 100) :
    Calls Try.prog 15 #[.pointer (some ⟨g, 0, none⟩)] w (RetE w (imgB (grS ts))) := by
  have G := grS_ok hv hs
  have hl := grS_few hv hs
  exact encode_any g (grS ts) S w h (fun x hx => by have := G.few x hx; omega) G.runes (bodyB_len G.few (by omega)) (by omega)
theorem encode_nil (w : World) : Calls Try.prog 15 #[.pointer none] w fun e w' => e = .returned (.tuple #[.slice none 0 0, .int .i64 2]) ∧ w = w' := by
  go_enter Try.func15, Try.ntmps15
  go_wp2_with fail
  go_ret2
  exact ⟨rfl, rfl⟩
theorem pOf_good (a : Option Addr) (n cap : Nat) (ts : List Tx) (w : World) (hh : HoldsT w a n ts) (hc : n ≤ cap) (hn : n ≤ 9223372036854775807) (hs : ∀ t ∈ ts, t.size ≤ 100) (hv : goodV ts = 0) :
    Calls Try.prog 10 #[.slice a n cap] w (RetE w (imgB (grS ts))) := by
  have CB := Lib.hid (build_c (w0 := w) a n cap ts (grS ts) w (Below.refl _ _) hh hc hn hs hv rfl)
  have CE := Lib.hid (fun g S (w' : World) (h : GAt g (grS ts) w' S) => encode_of g ts S w' h hv hs)
  obtain ⟨o, ho⟩ : ∃ o, imgB (grS ts) = o := ⟨_, rfl⟩
  rw [ho] at CE ⊢
  clear hh hs hv ho
  go_enter Try.func10, Try.ntmps10
  go_wp2_with fail
  with_reducible refine CB.out.mono ?_
  rintro e w1 ⟨g, S, rfl, hC, hb⟩
  have C1 := Lib.hid (CE.out g S w1 hC.G)
  have B1 := Lib.hid hb
  clear hC hb CE CB
  go_wp2_with fail
  with_reducible refine C1.out.mono ?_
  rintro e w2 ⟨a2, c2, rfl, h1, h2, h3⟩
  have F := Lib.hid (show RetE w o (.returned (.tuple #[.slice a2 o.length c2, .int .i64 0])) w2 from
    ⟨a2, c2, rfl, base_less9 h1 B1.out.size, B1.out.trans (h2.mono B1.out.size), h3⟩)
  clear h1 h2 h3 C1
  go_wp2_with fail
  go_ret2
  exact F.out
theorem pOf_bad (a : Option Addr) (n cap : Nat) (ts : List Tx) (v : Int) (w : World) (hh : HoldsT w a n ts) (hn : n ≤ 9223372036854775807) (hs : ∀ t ∈ ts, t.size ≤ 9223372036854775807) (hv : goodV ts = v) (h0 : v ≠ 0) :
    Calls Try.prog 10 #[.slice a n cap] w fun e w' => e = .returned (.tuple #[.slice none 0 0, .int .i64 v]) ∧ Below w.heap.size w w' := by
  have CB := Lib.hid (build_bad a n cap ts v w hh hn hs hv h0)
  have e1 : (v != 0) = true := by simpa using h0
  clear hh hs hv h0
  go_enter Try.func10, Try.ntmps10
  go_wp2_with fail
  with_reducible refine CB.out.mono ?_
  rintro e w1 ⟨rfl, hb⟩
  have B1 := Lib.hid hb
  clear hb CB
  go_wp2_with fail
  go_ret2
  exact ⟨rfl, B1.out⟩
end Go.Proofs.Ytlcmndbnknifhaa
/- pack: what is read of an image (plain) -/
namespace Go.Proofs.Ytlcmndbnknifhaa
open Go.RowKit
set_option linter.unusedVariables false
set_option maxRecDepth 20000
def edP (e : EdP) : PE := (bitsV e.r % 4294967296, bitsV e.dst % 65536)
def pnG (x : GN) : PN := ⟨x.final, x.edges.map edP⟩
theorem rd_at {bs rest : List Nat} {at_ v s : Nat} (h0 : 0 < s) (h : bs.drop at_ = Cod.bytesOf v s ++ rest) : okR bs.length at_ s false = true ∧ numR bs bs.length at_ s false = v % 256 ^ s ∧ atR bs.length at_ s false = at_ + s ∧ bs.drop (at_ + s) = rest := by
  have hl := congrArg List.length h
  rw [List.length_drop, List.length_append, Cod.bytesOf_length] at hl
  have ok : okR bs.length at_ s false = true := by
    unfold okR
    rw [decide_eq_true (show at_ + s ≤ bs.length by omega)]; rfl
  refine ⟨ok, ?_, ?_, ?_⟩
  · unfold numR
    rw [if_pos ok]
    unfold numN
    rw [h, List.take_left' (Cod.bytesOf_length _ _), Cod.numOf_bytesOf]
  · unfold atR; rw [if_pos ok]
  · rw [← List.drop_drop, h, List.drop_left' (Cod.bytesOf_length _ _)]
theorem rdE_img {bs : List Nat} : ∀ (es : List EdP) (rest : List Nat) (at_ : Nat), bs.drop at_ = es.flatMap edB ++ rest → rdE bs bs.length es.length at_ false = (es.map edP, at_ + 6 * es.length, false) ∧ bs.drop (at_ + 6 * es.length) = rest
  | [], rest, at_, h => ⟨rfl, by simpa using h⟩
  | e :: es, rest, at_, h => by
    rw [List.flatMap_cons, List.append_assoc, show edB e = Cod.bytesOf (bitsV e.r) 4 ++ Cod.bytesOf (bitsV e.dst) 2 from rfl, List.append_assoc] at h
    obtain ⟨o1, n1, a1, d1⟩ := rd_at (by decide) h
    obtain ⟨o2, n2, a2, d2⟩ := rd_at (by decide) d1
    obtain ⟨ih1, ih2⟩ := rdE_img es rest _ d2
    have el : at_ + 6 * (es.length + 1) = at_ + 4 + 2 + 6 * es.length := by omega
    rw [List.length_cons, el]
    refine ⟨?_, ih2⟩
    simp only [rdE, o1, n1, a1, o2, n2, a2, Bool.not_true, Bool.false_eq_true, if_false, ih1]
    rfl
theorem finN_bytes (x : GN) : [finN x] = Cod.bytesOf (finN x) 1 := by unfold finN; split <;> rfl
theorem rdN_img {bs rest : List Nat} (x : GN) (hx : x.edges.length < 65536) (at_ : Nat) (h : bs.drop at_ = ndB x ++ rest) : rdN bs bs.length at_ false = (pnG x, at_ + (ndB x).length, false) ∧ bs.drop (at_ + (ndB x).length) = rest := by
  have h2 : bs.drop at_ = Cod.bytesOf (finN x) 1 ++ (Cod.bytesOf x.edges.length 2 ++ (x.edges.flatMap edB ++ rest)) := by
    rw [h, ← finN_bytes]; unfold ndB; simp only [List.append_assoc]
  obtain ⟨o1, n1, a1, d1⟩ := rd_at (by decide) h2
  obtain ⟨o2, n2, a2, d2⟩ := rd_at (by decide) d1
  have hm : x.edges.length % 256 ^ 2 = x.edges.length := Nat.mod_eq_of_lt (by omega)
  have hf : decide (finN x % 256 ^ 1 = 1) = x.final := by unfold finN; cases x.final <;> rfl
  obtain ⟨ih1, ih2⟩ := rdE_img x.edges rest _ d2
  have el : at_ + (ndB x).length = at_ + 1 + 2 + 6 * x.edges.length := by rw [ndB_len]; omega
  rw [el]
  refine ⟨?_, ih2⟩
  simp only [rdN, o1, n1, a1, o2, n2, a2, Bool.not_true, hm, hf, ih1]
  rfl
theorem rdL_img {bs : List Nat} : ∀ (st : List GN) (rest : List Nat) (at_ : Nat), (∀ x ∈ st, x.edges.length < 65536) → bs.drop at_ = st.flatMap ndB ++ rest → rdL bs bs.length st.length at_ = some (st.map pnG, at_ + (st.flatMap ndB).length) ∧ bs.drop (at_ + (st.flatMap ndB).length) = rest
  | [], rest, at_, _, h => ⟨rfl, by simpa using h⟩
  | x :: st, rest, at_, hs, h => by
    rw [List.flatMap_cons, List.append_assoc] at h
    obtain ⟨e1, d1⟩ := rdN_img x (hs x (by simp)) at_ h
    obtain ⟨ih1, ih2⟩ := rdL_img st rest _ (fun y hy => hs y (by simp [hy])) d1
    have el : at_ + ((x :: st).flatMap ndB).length = at_ + (ndB x).length + (st.flatMap ndB).length := by rw [List.flatMap_cons, List.length_append]; omega
    rw [el, List.length_cons]
    refine ⟨?_, ih2⟩
    simp only [rdL, e1, ih1, Bool.false_eq_true, if_false, Option.map_some]
    rfl
/-- what begins with a body tells the body's nodes, and how long it is -/
theorem body_tell {st : List GN} {rest : List Nat} (hl : st.length < 65536) (hs : ∀ x ∈ st, x.edges.length < 65536) {d : List Nat} (hd : d = (bodyB st ++ rest).drop 4) : okR d.length 0 2 false = true ∧ rdL d d.length (numR d d.length 0 2 false) 2 = some (st.map pnG, 2 + (st.flatMap ndB).length) ∧ d.drop (2 + (st.flatMap ndB).length) = rest := by
  have e : d.drop 0 = Cod.bytesOf st.length 2 ++ (st.flatMap ndB ++ rest) := by
    rw [hd]; unfold bodyB; simp
  obtain ⟨o1, n1, -, d1⟩ := rd_at (by decide) e
  rw [Nat.mod_eq_of_lt (show st.length < 256 ^ 2 by omega)] at n1
  obtain ⟨h1, h2⟩ := rdL_img st rest _ hs d1
  rw [n1]
  exact ⟨o1, h1, h2⟩
theorem readP_img {st : List GN} (hl : st.length < 65536) (hs : ∀ x ∈ st, x.edges.length < 65536) : readP (bodyB st) = some (st.map pnG) := by
  obtain ⟨d, hd⟩ : ∃ d, (bodyB st).drop 4 = d := ⟨_, rfl⟩
  obtain ⟨h1, h2, h3⟩ := body_tell (rest := []) hl hs (d := d) (by rw [List.append_nil, hd])
  have e1 : (bodyB st).take 4 = [73, 78, 75, 49] := by unfold bodyB; rfl
  have e2 : 2 + (st.flatMap ndB).length = d.length := by
    rw [← hd]; unfold bodyB; simp [Cod.bytesOf_length]
  unfold readP
  rw [if_pos e1, hd]
  simp only [h1, if_true, h2, e2]
/-- two bodies, one of which begins like the other with something behind, are as long -/
theorem body_cut {s1 s2 : List GN} {r1 r2 : List Nat} (h : bodyB s1 ++ r1 = bodyB s2 ++ r2) (l1 : s1.length < 65536) (l2 : s2.length < 65536) (e1 : ∀ x ∈ s1, x.edges.length < 65536) (e2 : ∀ x ∈ s2, x.edges.length < 65536) : r1 = r2 := by
  obtain ⟨d, hd⟩ : ∃ d, d = (bodyB s1 ++ r1).drop 4 := ⟨_, rfl⟩
  obtain ⟨-, a2, a3⟩ := body_tell l1 e1 hd
  obtain ⟨-, b2, b3⟩ := body_tell l2 e2 (hd.trans (by rw [h]))
  rw [a2] at b2
  injection b2 with b2
  injection b2 with b2 b4
  rw [← a3, ← b3, b4]
end Go.Proofs.Ytlcmndbnknifhaa
/- pack: read, its walk -/
namespace Go.Proofs.Ytlcmndbnknifhaa
open Go.RowKit
set_option linter.unusedVariables false
set_option maxRecDepth 20000
theorem rdE_le (bs : List Nat) (n : Nat) : ∀ (k at_ : Nat) (bad : Bool), at_ ≤ n → (rdE bs n k at_ bad).2.1 ≤ n
  | 0, at_, bad, h => h
  | k + 1, at_, bad, h => by
    rw [rdE_succ]
    simp only
    split
    · exact atR_le (atR_le h)
    · exact rdE_le bs n k _ false (atR_le (atR_le h))
theorem rdN_le (bs : List Nat) (n at_ : Nat) (bad : Bool) (h : at_ ≤ n) : (rdN bs n at_ bad).2.1 ≤ n := rdE_le bs n _ _ _ (atR_le (atR_le h))
def ReadP (w : World) (x : Option (List PN)) (e : Ending) (w' : World) : Prop := Below w.heap.size w w' ∧ match x with
  | some L => ∃ na nc NL, NL.map pmP = L ∧ e = .returned (.tuple #[.slice na NL.length nc, .bool true]) ∧ PR9 w.heap.size NL na nc w'
  | none => ∃ v, e = .returned (.tuple #[v, .bool false])
set_option maxHeartbeats 6400000 in
set_option maxRecDepth 100000 in
theorem read_any (a : Option Addr) (n cap : Nat) (body : List Nat) (w : World) (h : HoldsB w a n body) (hc : n ≤ cap) (hn : n ≤ 1048576) :
    Calls Try.prog 37 #[.slice a n cap] w (ReadP w (readP body)) := by
  obtain ⟨i0, hi, hz0, hz1, hz2⟩ := info_parts pnode_info
  have H := Lib.hid h
  have hl := h.len
  have HL := Lib.hid hl
  have CP := Lib.hid (fun (w' : World) a2 c2 (hb : Below w.heap.size w w') (h2 : HoldsB w' a2 4 [73, 78, 75, 49]) => bPrefix_any a a2 n cap 4 c2 body [73, 78, 75, 49] w' (h.below hb) h2 hc (by omega) (by omega) (by omega))
  by_cases hm : body.take 4 = [73, 78, 75, 49]
  · rw [decide_eq_true hm] at CP
    have n4 : 4 ≤ n := by
      have := congrArg List.length hm
      rw [List.length_take, hl] at this
      simp at this; omega
    obtain ⟨q, o, rfl, -⟩ := h.at (by omega)
    obtain ⟨m, hmn⟩ : ∃ m, n - 4 = m := ⟨_, rfl⟩
    have HD : ∃ A : Addr, (if cap = 4 then some (⟨q, o, none⟩ : Addr) else some ⟨q, o + 4, none⟩) = some A ∧ Hid (HoldsB w (some A) m (body.drop 4) ∧ ∀ q2 o2, some A = some (⟨q2, o2, none⟩ : Addr) → q2 < w.heap.size) := by
      have lq : q < w.heap.size := by
        obtain ⟨q2, o2, e, hcc⟩ := h.at (by omega)
        injection e with e; injection e with e1 e2
        subst e1
        exact lt_of_cell (hcc 0 (by omega))
      by_cases h4 : cap = 4
      · refine ⟨⟨q, o, none⟩, by simp [h4], Lib.hid ⟨?_, fun q2 o2 e => by injection e with e; injection e with e1 e2; omega⟩⟩
        obtain rfl : m = 0 := by omega
        rw [List.drop_of_length_le (by omega)]
        exact holdsB_nil _ _
      · refine ⟨⟨q, o + 4, none⟩, by simp [h4], Lib.hid ⟨?_, fun q2 o2 e => by injection e with e; injection e with e1 e2; omega⟩⟩
        have h5 := h.part 4 n (by omega) (Nat.le_refl _) m hmn.symm
        rw [List.take_of_length_le (by omega)] at h5
        exact h5
    obtain ⟨A, hA, hAD⟩ := HD
    obtain ⟨d, hd⟩ : ∃ d, body.drop 4 = d := ⟨_, rfl⟩
    rw [hd] at hAD
    have dl : d.length = m := by rw [← hd, List.length_drop]; omega
    have DB := Lib.hid (show ∀ b ∈ d, b < 256 from fun b hb => h.2 b (List.mem_of_mem_drop (hd ▸ hb)))
    obtain ⟨cnt, hcnt⟩ : ∃ c, numR d m 0 2 false = c := ⟨_, rfl⟩
    obtain ⟨a1, ha1⟩ : ∃ c, atR m 0 2 false = c := ⟨_, rfl⟩
    obtain ⟨b1, hb1⟩ : ∃ c, (!okR m 0 2 false) = c := ⟨_, rfl⟩
    have la1 : a1 ≤ m := ha1 ▸ atR_le (Nat.zero_le _)
    have n5 : (4 : Int) ≤ (n : Int) := by omega
    have n6 : (4 : Int) ≤ (cap : Int) := by omega
    have n7 : 4 ≤ cap := by omega
    have HDD := Lib.hid hd
    clear h hd hl
    go_enter Try.func37, Try.ntmps37
    go_wp2_with fail
    refine (magic4 w).mono ?_
    rintro e w1 ⟨a2, c2, rfl, h2, hb2⟩
    have C1 := Lib.hid (CP.out w1 a2 c2 hb2 h2)
    have B1 := Lib.hid hb2
    clear h2 hb2 CP
    go_wp2_with fail
    with_reducible refine C1.out.mono ?_
    rintro e w2 ⟨rfl, rfl⟩
    go_wp2_with fail
    refine (magic4 w1).mono ?_
    rintro e w2 ⟨a3, c3, rfl, -, hb2⟩
    have B2 := Lib.hid (B1.out.trans (hb2.mono B1.out.size))
    clear hb2 C1
    have HA := Lib.hid (show ∀ q2 o2, some A = some (⟨q2, o2, none⟩ : Addr) → q2 < w.heap.size from hAD.out.2)
    have CR := Lib.hid (rdRead_any (some A) m (cap - 4) d w2 (hAD.out.1.below B2.out) (fun q2 o2 e => Nat.lt_of_lt_of_le (HA.out q2 o2 e) B2.out.size))
    go_wp2_with fail
    with_reducible refine CR.out.mono ?_
    rintro e w3 ⟨rfl, hR3, hb3, -⟩
    have C3 := Lib.hid (rdNum_any w2.heap.size (some A) m (cap - 4) d 0 false 2 w3 hR3 (by omega) (by omega) (by omega) (by omega))
    rw [hcnt, ha1, hb1, show ((2 : Nat) : Int) = 2 from rfl] at C3
    have B3 := Lib.hid (B2.out.trans (hb3.mono B2.out.size))
    have R0 := B2.out.size
    clear hb3 hR3 CR
    go_wp2_with fail
    with_reducible refine C3.out.mono ?_
    rintro e w4 ⟨rfl, m4, t4⟩
    have R4 := Lib.hid (show RL9 w w2.heap.size (some A) m (cap - 4) d a1 b1 [] none 0 w4 from
      ⟨m4, ⟨World.ownsRow_nil _ _ _ _, fun x hx => (by cases hx), fun x hx => (by cases hx)⟩, fun k e => (by cases e), fun x hx => (by cases hx), R0, B3.out.trans (t4.below (fun k hk => by rw [hk]; exact R0) B3.out.size)⟩)
    have RP := Lib.hid (show readP body = if okR m 0 2 false then (match rdL d m cnt 2 with | some (L, k) => if k = m then some L else none | none => none) else none from by
      unfold readP
      rw [if_pos hm]
      simp only [HDD.out, dl, hcnt]
      rfl)
    have B10 := Lib.hid (show (b1 = true → cnt = 0) ∧ (b1 = false → a1 = 2 ∧ okR m 0 2 false = true) ∧ (b1 = true → okR m 0 2 false = false) from by
      refine ⟨fun hb => ?_, fun hb => ?_, fun hb => ?_⟩
      · rw [hb] at hb1
        have h1 : okR m 0 2 false = false := by simpa using hb1
        rw [← hcnt]; unfold numR; rw [h1]; rfl
      · rw [hb] at hb1
        have h1 : okR m 0 2 false = true := by simpa using hb1
        exact ⟨by rw [← ha1]; unfold atR; rw [h1]; rfl, h1⟩
      · rw [hb] at hb1
        simpa using hb1)
    have cb : cnt < 65536 := by rw [← hcnt]; exact numR_lt d m 0 2 false DB.out dl
    clear hm hcnt ha1 hb1 C3 m4 t4
    obtain ⟨cp, hcp⟩ : ∃ c, cap - 4 = c := ⟨_, rfl⟩
    rw [hcp] at R4
    go_wp2_with fail
    go_loopw [6, 19] (fun nv iv wr => ∃ (i : Nat) (NL : List PM) (na : Option Addr) (nc at3 : Nat), i ≤ cnt ∧ nv = .slice na NL.length nc ∧ iv = .int .i64 i ∧ at3 ≤ m ∧ NL.length ≤ i ∧ Hid ((rdL d m (cnt - i) at3).map (fun x => (NL.map pmP ++ x.1, x.2)) = rdL d m cnt a1) ∧ Hid (RL9 w w2.heap.size (some A) m cp d at3 b1 NL na nc wr)) (fun _ iv _ => cnt - (intOf iv).toNat)
    case atStart => exact ⟨0, [], none, 0, a1, by omega, rfl, rfl, la1, by simp, Lib.hid (by rw [Nat.sub_zero]; cases rdL d m cnt a1 <;> simp), R4⟩
    case round =>
      clear R4
      obtain ⟨i, NL, na, nc, at3, hi', rfl, rfl, l3, hnl, hE, hL⟩ := hrel
      by_cases hlt : i < cnt
      · have hb : b1 = false := by
          cases b1
          · rfl
          · have := B10.out.1 rfl; omega
        subst hb
        obtain ⟨⟨⟨xf, xe⟩, x2, x3⟩, hx⟩ : ∃ x, rdN d m at3 false = x := ⟨_, rfl⟩
        have lx : x2 ≤ m := by have := rdN_le d m at3 false l3; rw [hx] at this; exact this
        have EX := Lib.hid (show rdL d m (cnt - i) at3 = if x3 then none else (rdL d m (cnt - (i + 1)) x2).map (fun r => ((⟨xf, xe⟩ : PN) :: r.1, r.2)) from by
          rw [show cnt - i = (cnt - (i + 1)) + 1 by omega]
          simp only [rdL, hx])
        have CN := Lib.hid (readNode_any w2.heap.size (some A) m cp d at3 false wr hL.out.rd (by omega) l3 (lt_of_cell hL.out.rd.c0) (fun q2 o2 e => Nat.lt_of_lt_of_le (HA.out q2 o2 e) hL.out.b.size) DB.out dl)
        rw [hx] at CN
        have ZL := hL.out.b.size
        clear hx
        go_wp2_with fail
        with_reducible refine CN.out.mono ?_
        rintro e w5 ⟨ea, ec, rfl, m5, o5, t5⟩
        have O5 := Lib.hid (hL.out.q.turn t5 hL.out.nr hL.out.er).o
        have X5 := Lib.hid (And.intro m5 (And.intro o5 t5))
        have Z5 := t5.size
        clear m5 o5 t5 CN
        dsimp only
        go_wp2_with (at_builtin; refine wpList_append_lies _ rfl (.tmp 21) (.tmp 24) 70 rfl w.heap.size 112 i0 _ 2 32 Try.underlying70 hi hz0 hz1 hz2 rfl (by omega) (.slice na NL.length nc) NL.length (pmV NL) (by rfl) (O5.out.alloc _) ⟨w5.heap.size, 0, none⟩ 1 1 [.bool xf, .slice ea xe.length ec] (by rfl) (by rfl) (World.news_of_block (cs := #[.bool xf, .slice ea xe.length ec]) (t := 112) (fr := (0, 0)) (heap_alloc_new w5 _)) (by simp [Value.oneCell']) (by omega) (by unfold maxLen; omega) (by omega) (by simp; omega) (w5.heap.size + 1) (by simp) ?_; intro g8 c8 w8 hown8 hgrow8 hat8 hlt8)
        have LA := Lib.hid (hL.out.step HA.out X5.out.1 X5.out.2.2 (x := ⟨xf, xe, ea, ec⟩) X5.out.2.1 hown8 hgrow8 (hat8.imp id (fun e => by rw [e]; simp)))
        clear hown8 hgrow8 hat8 hlt8 X5 O5
        have CB := Lib.hid (rdBad_any w2.heap.size (some A) m cp d x2 x3 w8 LA.out.rd)
        with_reducible refine CB.out.mono ?_
        rintro e w9 ⟨rfl, rfl⟩
        cases x3 with
        | true =>
          have RN := Lib.hid (show readP body = none from by
            have h1 := hE.out
            rw [EX.out] at h1
            obtain ⟨e1, e2⟩ := B10.out.2.1 (by first | rfl | trivial)
            rw [e1] at h1
            rw [RP.out, e2, if_pos rfl, ← h1]; rfl)
          have BZ := Lib.hid LA.out.b
          clear LA
          go_wp2_with fail
          go_ret2
          refine ⟨BZ.out, ?_⟩
          rw [RN.out]
          exact ⟨_, rfl⟩
        | false =>
          have EN := Lib.hid (show (rdL d m (cnt - (i + 1)) x2).map (fun x => ((NL ++ [(⟨xf, xe, ea, ec⟩ : PM)]).map pmP ++ x.1, x.2)) = rdL d m cnt a1 from by
            rw [← hE.out, EX.out]
            cases rdL d m (cnt - (i + 1)) x2 <;> simp [pmP])
          go_wp2_with fail
          go_roundw
          case rel => exact ⟨i + 1, NL ++ [⟨xf, xe, ea, ec⟩], some ⟨g8, 0, none⟩, c8, x2, by omega, by simp, by go_num, lx, by simp; omega, EN, LA⟩
          case measure => simp [intOf] <;> omega
      · obtain rfl : i = cnt := by omega
        have CD := Lib.hid (rdDone_any w2.heap.size (some A) m cp d at3 b1 wr hL.out.rd)
        have ED := Lib.hid (show rdL d m i a1 = some (NL.map pmP, at3) from by
          have h1 := hE.out
          rw [Nat.sub_self] at h1
          rw [← h1]; simp [rdL])
        have FB := Lib.hid hL.out.b
        have FQ := Lib.hid hL.out.q
        clear hE hL
        go_wp2_with fail
        with_reducible refine CD.out.mono ?_
        rintro e w5 ⟨rfl, hb5⟩
        have Q5 := Lib.hid (FQ.out.turn (T := fun _ => False) (Turn.of_below hb5) (fun _ _ x => x) (fun _ _ _ _ x => x))
        have BZ := Lib.hid (FB.out.trans (hb5.mono FB.out.size))
        clear hb5
        go_wp2_with fail
        go_ret2
        refine ⟨BZ.out, ?_⟩
        rw [RP.out]
        cases hb : b1 with
        | true => rw [B10.out.2.2 hb]; exact ⟨_, rfl⟩
        | false =>
          obtain ⟨e1, e2⟩ := B10.out.2.1 hb
          have h1 := ED.out
          rw [e1] at h1
          rw [e2, if_pos rfl, h1]
          by_cases hk : at3 = m
          · simp only [hk, if_true]
            exact ⟨na, nc, NL, rfl, rfl, Q5.out⟩
          · simp only [hk, if_false]
            exact ⟨_, rfl⟩
  · rw [decide_eq_false hm] at CP
    have RN : readP body = none := by unfold readP; rw [if_neg hm]
    rw [RN]
    clear hm h hl RN
    go_enter Try.func37, Try.ntmps37
    go_wp2_with fail
    refine (magic4 w).mono ?_
    rintro e w1 ⟨a2, c2, rfl, h2, hb2⟩
    have C1 := Lib.hid (CP.out w1 a2 c2 hb2 h2)
    have B1 := Lib.hid hb2
    clear h2 hb2 CP
    go_wp2_with fail
    with_reducible refine C1.out.mono ?_
    rintro e w2 ⟨rfl, rfl⟩
    go_wp2_with fail
    go_ret2
    exact ⟨B1.out, _, rfl⟩
end Go.Proofs.Ytlcmndbnknifhaa
/- the library's Builder at this seat: WriteRune, String -/
namespace Go.Proofs.Ytlcmndbnknifhaa
open Go.Shelf Go.RowKit
def Try.lays169_ren : Go.Shelf.Ren := ⟨fun | 169 => 101 | n => n, fun | 70 => 148 | 9 => 9 | 0 => 0 | 72 => 150 | 37 => 25 | 127 => 166 | 3 => 3 | 5 => 5 | n => n, fun | n => n⟩
theorem Try.lays169 : Go.Proofs.Lays.n169 Try.prog Try.lays169_ren := {
  mixed := by kernel_rfl
  f169 := Try.func101.trans (congrArg some (by kernel_rfl))
  t0 := Try.underlying0
  a0 := Try.isAgg0
  z0 := Try.sizeOf0
  v0 := Try.zeroValue0
  t3 := Try.underlying3
  a3 := Try.isAgg3
  z3 := Try.sizeOf3
  v3 := Try.zeroValue3
  t9 := Try.underlying9
  a9 := Try.isAgg9
  z9 := Try.sizeOf9
  v9 := Try.zeroValue9
  t37 := Try.underlying25
  a37 := Try.isAgg25
  z37 := Try.sizeOf25
  v37 := Try.zeroValue25
  t70 := Try.underlying148
  a70 := Try.isAgg148
  z70 := Try.sizeOf148
  v70 := Try.zeroValue148
  t72 := Try.underlying150
  a72 := Try.isAgg150
  z72 := Try.sizeOf150
  v72 := Try.zeroValue150
  t127 := Try.underlying166
  a127 := Try.isAgg166
  z127 := Try.sizeOf166
  v127 := Try.zeroValue166 }
theorem Try.Builder_Extra_169 : Builder.Extra Try.prog Try.lays169_ren := {
  sizeBuilder := by kernel_rfl
  liesBuilder := by kernel_rfl
  t5 := Try.underlying5
  a5 := Try.isAgg5
  z5 := Try.sizeOf5
  v5 := Try.zeroValue5
  infoByte := by kernel_rfl
  cellsByte := by kernel_rfl
  sizeByte := by kernel_rfl
  neB5 := by decide }
theorem bstring_any (B b : Nat) (l : List UInt8) (w : World) (h : Lib.IsBuilderF 150 5 B b (Lib.byteCells l) w) (hBw : B ≤ w.heap.size) :
    Calls Try.prog 101 #[.pointer (some ⟨b, 0, none⟩)] w fun e w' => e = .returned (.string ⟨l.toArray⟩) ∧ (Lib.IsBuilderF 150 5 B b (Lib.byteCells l) w' ∧ Below B w w' ∧ Lib.OthersKept 5 (some b) w w') := Any.Builder_String_any_k Try.lays169 Try.Builder_Extra_169 B b l w h hBw
def Try.lays242_ren : Go.Shelf.Ren := ⟨fun | 242 => 110 | 278 => 113 | n => n, fun | 37 => 25 | 21 => 21 | 51 => 105 | 4 => 4 | 5 => 5 | 46 => 86 | n => n, fun | n => n⟩
theorem Try.lays242 : Go.Proofs.Lays.n242 Try.prog Try.lays242_ren := {
  mixed := by kernel_rfl
  f242 := Try.func110.trans (congrArg some (by kernel_rfl))
  f278 := Try.func113.trans (congrArg some (by kernel_rfl))
  t4 := Try.underlying4
  a4 := Try.isAgg4
  z4 := Try.sizeOf4
  v4 := Try.zeroValue4
  t5 := Try.underlying5
  a5 := Try.isAgg5
  z5 := Try.sizeOf5
  v5 := Try.zeroValue5
  t21 := Try.underlying21
  a21 := Try.isAgg21
  z21 := Try.sizeOf21
  v21 := Try.zeroValue21
  t37 := Try.underlying25
  a37 := Try.isAgg25
  z37 := Try.sizeOf25
  v37 := Try.zeroValue25
  t46 := Try.underlying86
  a46 := Try.isAgg86
  z46 := Try.sizeOf86
  v46 := Try.zeroValue86
  t51 := Try.underlying105
  a51 := Try.isAgg105
  z51 := Try.sizeOf105
  v51 := Try.zeroValue105 }
theorem appendRune_any (B : Nat) (v : Value) (n : Nat) (xs : List Value) (r : Int) (hr0 : -2147483648 ≤ r) (hr1 : r ≤ 2147483647) (w : World) (hown : w.ownsRowF B 5 1 v n xs) (hlen : n + 4 ≤ 140737488355328) (hBw : B ≤ w.heap.size) :
    Calls Try.prog 110 #[v, .int .i32 r] w fun e w' => ∃ v', e = .returned v' ∧ w'.ownsRowF B 5 1 v' (n + (Lib.runeCells r).length) (xs ++ Lib.runeCells r) ∧ ∃ o, (w.alloc o).grownBy w' v.ownBlock :=
  Any.utf8_AppendRune_row Try.lays242 (by kernel_rfl) B v n xs r hr0 hr1 w hown hlen hBw
theorem builder_size : (Try.prog.info? 150).map (·.size) = some 2 := by kernel_rfl
set_option maxHeartbeats 1000000 in
theorem copyCheck_used (b : Nat) (w : World) (h0 : w.cell? ⟨b, 0, none⟩ = some (.pointer (some ⟨b, 0, none⟩))) :
    Calls Try.prog 109 #[.pointer (some ⟨b, 0, none⟩)] w fun e w' => e = .returned (.tuple #[]) ∧ w' = w := by
  obtain ⟨j, hj, _⟩ := Option.map_eq_some_iff.1 builder_size
  have hq := Lib.run_neq_ptr_same (P := Try.prog) (w := w) ⟨b, 0, none⟩ Try.underlying148 hj
  go_enter Try.func109, Try.ntmps109
  go_wp2
  go_end0
  exact ⟨rfl, rfl⟩
set_option maxHeartbeats 1000000 in
theorem copyCheck_fresh (b : Nat) (w : World) (h0 : w.cell? ⟨b, 0, none⟩ = some (.pointer none)) (hsh : w.shape? b = some (150, 2)) (hfz : w.frozen? ⟨b, 0, none⟩ = false) :
    Calls Try.prog 109 #[.pointer (some ⟨b, 0, none⟩)] w fun e w' => e = .returned (.tuple #[]) ∧ w' = w.setCell ⟨b, 0, none⟩ (.pointer (some ⟨b, 0, none⟩)) := by
  obtain ⟨j, hj, hjs⟩ := Option.map_eq_some_iff.1 builder_size
  have c1 := Lib.run_to_unsafe (P := Try.prog) w ⟨b, 0, none⟩ Try.underlying148 Try.underlying170 hj (by rw [hjs]; decide) hsh (Nat.zero_lt_succ 1)
  have c2 := Lib.run_from_unsafe (P := Try.prog) w ⟨b, 0, none⟩ Try.underlying170 Try.underlying148 hj hsh (by kernel_rfl)
  have c3 := run_callFunc_extern (P := Try.prog) Try.func112 (by kernel_rfl) (by kernel_rfl) (by kernel_rfl) (e := Extern.AbiNoEscape.same) (by kernel_rfl) #[.pointer (some ⟨b, 0, none⟩)] w
  rw [Lib.run_noEscape] at c3
  simp only [Result.andThen] at c3
  go_enter Try.func109, Try.ntmps109
  go_wp2
  go_end0
  exact ⟨rfl, rfl⟩
theorem copyCheck_any (B b : Nat) (bs : List Value) (w : World) (h : Lib.IsBuilderF 150 5 B b bs w) :
    Calls Try.prog 109 #[.pointer (some ⟨b, 0, none⟩)] w fun e w' => e = .returned (.tuple #[]) ∧ (Lib.BuilderAtF 150 5 B b (.pointer (some ⟨b, 0, none⟩)) bs w' ∧ Below B w w') := by
  rcases h with h | h
  · refine (copyCheck_fresh b w h.cell0 h.shape h.frozen0).mono ?_
    rintro e w' ⟨rfl, rfl⟩
    exact ⟨rfl, h.used _, (Below.refl B w).setCell (p := ⟨b, 0, none⟩) h.1 _⟩
  · refine (copyCheck_used b w h.cell0).mono ?_
    rintro e w' ⟨rfl, rfl⟩
    exact ⟨rfl, h, Below.refl B _⟩
set_option maxHeartbeats 4000000 in
theorem bwrite_any (B b : Nat) (bs : List Value) (r : Int) (hr0 : -2147483648 ≤ r) (hr1 : r ≤ 2147483647) (w : World) (h : Lib.IsBuilderF 150 5 B b bs w) (hlen : bs.length + 4 ≤ 140737488355328) (hBw : B ≤ w.heap.size) :
    Calls Try.prog 100 #[.pointer (some ⟨b, 0, none⟩), .int .i32 r] w fun e w' => e = .returned (.tuple #[.int .i64 (Lib.runeCells r).length, .nilIface]) ∧ (Lib.BuilderAtF 150 5 B b (.pointer (some ⟨b, 0, none⟩)) (bs ++ Lib.runeCells r) w' ∧ Below B w w') := by
  have hk4 := Lib.runeCells_le r
  go_enter Try.func100, Try.ntmps100
  go_wp2_with fail
  refine (copyCheck_any B b bs _ h).mono ?_
  rintro e w1 ⟨rfl, h1, hb1⟩
  obtain ⟨hB, v, hbk, hown, hne⟩ := h1
  obtain ⟨ao, cap, rfl⟩ : ∃ ao cap, v = .slice ao bs.length cap := by
    rcases hown.2 with ⟨hv, h0⟩ | ⟨g, cap, cur, fz, hv, _⟩
    · exact ⟨none, 0, by rw [hv, h0]⟩
    · exact ⟨_, _, hv⟩
  have c0 : w1.cell? ⟨b, 0, none⟩ = some (.pointer (some ⟨b, 0, none⟩)) := by rw [Lib.cell_of_heap hbk]; rfl
  have c1 : w1.cell? ⟨b, 1, none⟩ = some (.slice ao bs.length cap) := by rw [Lib.cell_of_heap hbk]; rfl
  go_wp2_with (go_at_call 110; refine (appendRune_any B _ bs.length bs r hr0 hr1 _ hown hlen (by have := hb1.size; omega)).mono ?_)
  rintro e w2 ⟨v', rfl, hown', o, hgrow⟩
  have hlt : b < w1.heap.size := by
    rcases Nat.lt_or_ge b w1.heap.size with h' | h'
    · exact h'
    · simp [Array.getElem?_eq_none h'] at hbk
  have hb2 : w2.heap[b]? = some (.cells #[.pointer (some ⟨b, 0, none⟩), .slice ao bs.length cap] 150 (0, 0)) := by
    rw [hgrow.block b (by simp; omega) (fun e => hne e.symm), Lib.alloc_old w1 _ b hlt]
    exact hbk
  have d0 : w2.cell? ⟨b, 0, none⟩ = some (.pointer (some ⟨b, 0, none⟩)) := by rw [Lib.cell_of_heap hb2]; rfl
  have d1 : w2.cell? ⟨b, 1, none⟩ = some (.slice ao bs.length cap) := by rw [Lib.cell_of_heap hb2]; rfl
  have f1 : w2.frozen? ⟨b, 1, none⟩ = false := Lib.frozen_of_heap hb2 1
  obtain ⟨g, cap', rfl⟩ : ∃ g cap', v' = .slice (some ⟨g, 0, none⟩) (bs.length + (Lib.runeCells r).length) cap' := by
    rcases hown'.2 with ⟨_, h0⟩ | ⟨g, cap', cur, fz, hv, _⟩
    · omega
    · exact ⟨g, cap', hv⟩
  go_wp2
  go_ret2
  refine ⟨?_, ?_, ?_⟩
  · have e : ((bs.length : Int) + ((Lib.runeCells r).length : Int) - (bs.length : Int)) = ((Lib.runeCells r).length : Int) := by omega
    simp [e]
  · exact Lib.BuilderAtF.put (T := 150) (e := 5) hB hb2 (bs' := bs ++ Lib.runeCells r) (by simpa using hown') (by decide)
  · exact ((hb1.alloc (by have := hb1.size; omega) _).grown hgrow (by have := hb1.size; simp; omega) (fun k hk => (hown.lt k hk).1)).setCell (p := ⟨b, 1, none⟩) hB _
end Go.Proofs.Ytlcmndbnknifhaa
/- text.Text: the program's (split from Tm1, Tm2) -/
namespace Go.Proofs.Ytlcmndbnknifhaa
open Go.RowKit
set_option linter.unusedVariables false
set_option maxRecDepth 20000
def encS (r : Int) : ByteArray := ⟨(Lib.encodeRune r).toArray⟩
theorem valid_any (r : Int) (w : World) : Calls Try.prog 99 #[.int .i32 r] w fun e w' => e = .returned (.bool (decide (0 ≤ r ∧ r ≤ 1114111 ∧ (r < 55296 ∨ 57343 < r)))) ∧ w = w' := by
  have hc : r < 0 ∨ (0 ≤ r ∧ r < 55296) ∨ (55296 ≤ r ∧ r ≤ 57343) ∨ (57343 < r ∧ r ≤ 1114111) ∨ 1114111 < r := by omega
  rcases hc with h | h | h | h | h
  · rw [decide_eq_false (by omega)]
    go_enter Try.func99, Try.ntmps99
    go_wp2
    go_ret
    exact ⟨rfl, rfl⟩
  · rw [decide_eq_true (by omega)]
    go_enter Try.func99, Try.ntmps99
    go_wp2
    go_ret
    exact ⟨rfl, rfl⟩
  · rw [decide_eq_false (by omega)]
    go_enter Try.func99, Try.ntmps99
    go_wp2
    go_ret
    exact ⟨rfl, rfl⟩
  · rw [decide_eq_true (by omega)]
    go_enter Try.func99, Try.ntmps99
    go_wp2
    go_ret
    exact ⟨rfl, rfl⟩
  · rw [decide_eq_false (by omega)]
    go_enter Try.func99, Try.ntmps99
    go_wp2
    go_ret
    exact ⟨rfl, rfl⟩
def encL (zs : List Int) : List UInt8 := zs.flatMap Lib.encodeRune
def encB (zs : List Int) : ByteArray := ⟨(encL zs).toArray⟩
def allG (zs : List Int) : Prop := ∀ z ∈ zs, goodP z
instance (zs : List Int) : Decidable (allG zs) := by unfold allG; infer_instance
def textZ (zs : List Int) : ByteArray := if allG zs then encB zs else ⟨#[]⟩
theorem encL_snoc (x : List Int) (r : Int) : encL (x ++ [r]) = encL x ++ Lib.encodeRune r := by simp [encL]
theorem encode_le (r : Int) : (Lib.encodeRune r).length ≤ 4 := by rw [← Lib.runeCells_length]; exact (Lib.runeCells_le r).2
theorem encL_le : ∀ zs : List Int, (encL zs).length ≤ 4 * zs.length
  | [] => by simp [encL]
  | z :: zs => by
    have h1 := encL_le zs
    have h2 := encode_le z
    have h3 : encL (z :: zs) = Lib.encodeRune z ++ encL zs := rfl
    rw [h3, List.length_append, List.length_cons]; omega
theorem encB_snoc (x : List Int) (r : Int) : encB x ++ encS r = encB (x ++ [r]) := by
  apply ByteArray.ext
  simp [encB, encS, encL_snoc]
theorem encB_size (zs : List Int) : (encB zs).size ≤ 4 * zs.length := by
  have := encL_le zs
  simpa [encB, ByteArray.size] using this
theorem byteCells_snoc (x : List Int) (r : Int) : Lib.byteCells (encL x) ++ Lib.runeCells r = Lib.byteCells (encL (x ++ [r])) := by
  rw [encL_snoc, Lib.byteCells_append, Lib.byteCells_encodeRune]
theorem textZ_bad {zs : List Int} (z : Int) (h : z ∈ zs) (hz : ¬ goodP z) : textZ zs = ⟨#[]⟩ ∧ decide (allG zs) = false := by
  have hn : ¬ allG zs := fun k => hz (k z h)
  exact ⟨if_neg hn, decide_eq_false hn⟩
theorem textZ_good {zs : List Int} (h : allG zs) : textZ zs = encB zs ∧ decide (allG zs) = true := ⟨if_pos h, decide_eq_true h⟩
theorem getD_mem' (zs : List Int) (j : Nat) (h : j < zs.length) : zs.getD j 0 ∈ zs := by
  rw [List.getD_eq_getElem?_getD, List.getElem?_eq_getElem h]; simp
set_option maxHeartbeats 1600000 in
theorem text_any (a : Option Addr) (n cap : Nat) (zs : List Int) (w : World) (hh : HoldsI .i32 w a n zs) (hn : n ≤ 1048576) (hr : ∀ z ∈ zs, -2147483648 ≤ z ∧ z ≤ 2147483647) :
    Calls Try.prog 82 #[.slice a n cap] w fun e w' => e = .returned (.tuple #[.string (textZ zs), .bool (decide (allG zs))]) ∧ Below w.heap.size w w' := by
  have hl := hh.len
  go_enter Try.func82, Try.ntmps82
  go_wp2_with fail
  go_loopw [9] (fun cv wr => ∃ j : Nat, j ≤ n ∧ cv = .int .i64 j ∧ Hid (allG (zs.take j)) ∧ Hid (Lib.IsBuilderF 150 5 w.heap.size w.heap.size (Lib.byteCells (encL (zs.take j))) wr) ∧ Hid (Below w.heap.size w wr)) (fun cv _ => n - (intOf cv).toNat)
  case atStart =>
    refine ⟨0, by omega, rfl, Lib.hid (by simp [allG]), Lib.hid (Lib.IsBuilderF.of (Lib.fresh_isBuilder _ _ w)), Lib.hid (below_one _ _)⟩
  case round =>
    obtain ⟨j, hj, rfl, hG, hI, hB⟩ := hrel
    have hs := hB.out.size
    by_cases hlt : j < n
    · obtain ⟨b, o, rfl, hc⟩ := (hh.below hB.out).at (by omega)
      have e1 := hc j hlt
      have hrj := hr _ (getD_mem' zs j (by omega))
      have hmem := getD_mem' zs j (by omega)
      have htk := take_succ_getD zs 0 j (by omega)
      obtain ⟨x, hx⟩ : ∃ x, zs.getD j 0 = x := ⟨_, rfl⟩
      rw [hx] at e1 hrj hmem htk
      have HM := Lib.hid hmem; have HT := Lib.hid htk
      clear hx hmem htk hc
      by_cases hbad : x = 65533
      · subst hbad
        have hb := textZ_bad 65533 HM.out (by unfold goodP; omega)
        have HB := Lib.hid hb
        clear hb
        go_wp2_with fail
        go_ret2
        exact ⟨by rw [HB.out.1, HB.out.2]; rfl, hB.out⟩
      · have hb : (x == 65533) = false := by rw [beq_eq_false_iff_ne]; exact hbad
        have HBD := Lib.hid hbad
        clear hbad
        by_cases hv : 0 ≤ x ∧ x ≤ 1114111 ∧ (x < 55296 ∨ 57343 < x)
        · have hval := fun w => valid_any x w
          rw [decide_eq_true hv] at hval
          have hg : goodP x := ⟨hv.1, hv.2.1, hv.2.2, HBD.out⟩
          have HG := Lib.hid hg; have HV := Lib.hid hval
          clear hv hval hg
          go_wp2_with fail
          refine (HV.out _).mono ?_
          rintro e w' ⟨rfl, rfl⟩
          go_wp2_with fail
          have hlen : (encL (zs.take j)).length ≤ 4 * j := by
            have h1 := encL_le (zs.take j)
            have h2 : (zs.take j).length ≤ j := List.length_take_le _ _
            omega
          refine (bwrite_any w.heap.size w.heap.size _ x hrj.1 hrj.2 _ hI.out (by rw [Lib.byteCells_length]; omega) hs).mono ?_
          rintro e w2 ⟨rfl, hb2, hb3⟩
          rw [byteCells_snoc, ← HT.out] at hb2
          go_wp2_with fail
          go_roundw
          case rel => exact ⟨j + 1, by omega, by go_num, Lib.hid (by rw [HT.out]; intro z hz; rcases List.mem_append.1 hz with hz | hz; exact hG.out z hz; simp at hz; rw [hz]; exact HG.out), Lib.hid (Or.inr hb2), Lib.hid (hB.out.trans hb3)⟩
          case measure => simp [intOf]; omega
        · have hval := fun w => valid_any x w
          rw [decide_eq_false hv] at hval
          have hb2 := textZ_bad x HM.out (fun k => hv ⟨k.1, k.2.1, k.2.2.1⟩)
          have HV := Lib.hid hval; have HB := Lib.hid hb2
          clear hv hval hb2
          go_wp2_with fail
          refine (HV.out _).mono ?_
          rintro e w' ⟨rfl, rfl⟩
          go_wp2_with fail
          go_ret2
          exact ⟨by rw [HB.out.1, HB.out.2]; rfl, hB.out⟩
    · have hjn : zs.take j = zs := List.take_of_length_le (by omega)
      have HJ := Lib.hid hjn
      clear hjn
      go_wp2_with fail
      refine (bstring_any w.heap.size w.heap.size _ _ hI.out hs).mono ?_
      rintro e w2 ⟨rfl, _, hb2, _⟩
      go_wp2_with fail
      go_ret2
      have hg := textZ_good (show allG zs by have := hG.out; rw [HJ.out] at this; exact this)
      exact ⟨by rw [hg.1, hg.2, HJ.out]; rfl, hB.out.trans hb2⟩
end Go.Proofs.Ytlcmndbnknifhaa
/- pack: the words that nodes tell, plain; the lister in memory -/
namespace Go.Proofs.Ytlcmndbnknifhaa
open Go.RowKit
set_option linter.unusedVariables false
set_option maxRecDepth 20000
/-- a label as a rune -/
def runeL (x : Nat) : Int := IntKind.i32.wrap (x : Int)
def labT (x : Nat) : Tx := textZ [runeL x]
instance allG_dec (zs : List Int) : Decidable (allG zs) := by unfold allG; infer_instance
/-- over a node's edges: is all well, how many beginnings are left, the words -/
def folE (rf : Nat → Tx → Nat → List Tx → Bool × Nat × List Tx) (pre : Tx) : List PE → Nat → List Tx → Bool × Nat × List Tx
  | [], left, ws => (true, left, ws)
  | e :: es, left, ws =>
    if allG [runeL e.1] then
      (if (rf e.2 (pre ++ labT e.1) left ws).1 then folE rf pre es (rf e.2 (pre ++ labT e.1) left ws).2.1 (rf e.2 (pre ++ labT e.1) left ws).2.2 else (false, (rf e.2 (pre ++ labT e.1) left ws).2))
    else (false, left, ws)
def folF (L : List PN) : Nat → Nat → Tx → Nat → List Tx → Bool × Nat × List Tx
  | 0, n, pre, left, ws => (false, left, ws)
  | f + 1, n, pre, left, ws =>
    if L.length ≤ n ∨ left = 0 then (false, left, ws)
    else folE (folF L f) pre (L.getD n ⟨false, []⟩).es (left - 1) (if (L.getD n ⟨false, []⟩).fin then ws ++ [pre] else ws)
theorem folE_left {rf : Nat → Tx → Nat → List Tx → Bool × Nat × List Tx} (h : ∀ n pre left ws, (rf n pre left ws).2.1 ≤ left) (pre : Tx) : ∀ (es : List PE) (left : Nat) (ws : List Tx), (folE rf pre es left ws).2.1 ≤ left
  | [], left, ws => Nat.le_refl _
  | e :: es, left, ws => by
    unfold folE
    split
    · split
      · exact Nat.le_trans (folE_left h pre es _ _) (h _ _ _ _)
      · exact h _ _ _ _
    · exact Nat.le_refl _
theorem folF_left (L : List PN) : ∀ (f n : Nat) (pre : Tx) (left : Nat) (ws : List Tx), (folF L f n pre left ws).2.1 ≤ left
  | 0, n, pre, left, ws => Nat.le_refl _
  | f + 1, n, pre, left, ws => by
    unfold folF
    split
    · exact Nat.le_refl _
    · exact Nat.le_trans (folE_left (folF_left L f) pre _ _ _) (Nat.sub_le _ _)
/-- the lister: the nodes it goes over, how many beginnings are left, the words so far -/
structure FL9 (l : Nat) (NL : List PM) (na : Option Addr) (nc left : Nat) (ws : List Tx) (wa : Option Addr) (wc : Nat) (w : World) : Prop where
  c0 : w.cell? ⟨l, 0, none⟩ = some (.slice na NL.length nc)
  c1 : w.cell? ⟨l, 1, none⟩ = some (.int .i64 left)
  c2 : w.cell? ⟨l, 2, none⟩ = some (.slice wa ws.length wc)
  f : ∀ i, w.frozen? ⟨l, i, none⟩ = false
  o : w.ownsRow (l + 1) 9 1 (.slice wa ws.length wc) ws.length (strsV ws)
  p : PR9 0 NL na nc w
  pl : ∀ k, na = some ⟨k, 0, none⟩ → k < l
  pe : ∀ x ∈ NL, ∀ k, x.ea = some ⟨k, 0, none⟩ → k < l
theorem FL9.below {l : Nat} {NL : List PM} {na : Option Addr} {nc left : Nat} {ws : List Tx} {wa : Option Addr} {wc : Nat} {w w' : World} (h : FL9 l NL na nc left ws wa wc w) (hb : Below w.heap.size w w') : FL9 l NL na nc left ws wa wc w' := by
  have lt := lt_of_cell h.c0
  exact ⟨(hb.cell (p := ⟨l, 0, none⟩) lt).trans h.c0, (hb.cell (p := ⟨l, 1, none⟩) lt).trans h.c1, (hb.cell (p := ⟨l, 2, none⟩) lt).trans h.c2, fun i => (hb.frozen (p := ⟨l, i, none⟩) lt).trans (h.f i), owns_below h.o hb, h.p.turn (T := fun _ => False) (Turn.of_below hb) (fun _ _ x => x) (fun _ _ _ _ x => x), h.pl, h.pe⟩
/-- a beginning fewer -/
theorem FL9.less {l : Nat} {NL : List PM} {na : Option Addr} {nc left left2 : Nat} {ws : List Tx} {wa : Option Addr} {wc : Nat} {w : World} (h : FL9 l NL na nc left ws wa wc w) : FL9 l NL na nc left2 ws wa wc (w.setCell ⟨l, 1, none⟩ (.int .i64 (left2 : Int))) := by
  have t : Turn (fun k => k = l) w (w.setCell ⟨l, 1, none⟩ (.int .i64 (left2 : Int))) := Turn.setCell rfl
  exact ⟨(cset_ne (by omega)).trans h.c0, cset_at h.c1, (cset_ne (by omega)).trans h.c2, fun i => fset_any.trans (h.f i), own_turn9 h.o t (fun k e e2 => by have := (h.o.lt k (by rw [e]; rfl)).1; omega), h.p.turn t (fun k e e2 => by have := h.pl k e; omega) (fun x hx k e e2 => by have := h.pe x hx k e; omega), h.pl, h.pe⟩
/-- a word more -/
theorem FL9.word {l : Nat} {NL : List PM} {na : Option Addr} {nc left : Nat} {ws : List Tx} {wa : Option Addr} {wc g c : Nat} {t : Tx} {w w8 : World} {ob : Obj} (h : FL9 l NL na nc left ws wa wc w) (hown : w8.ownsRow (l + 1) 9 1 (.slice (some ⟨g, 0, none⟩) (ws.length + 1) c) (ws.length + 1) (strsV ws ++ [.string t])) (hg : (w.alloc ob).grownBy w8 (Value.slice wa ws.length wc).ownBlock) (hat : (Value.slice wa ws.length wc).ownBlock = some g ∨ g = (w.alloc ob).heap.size) :
    FL9 l NL na nc left (ws ++ [t]) (some ⟨g, 0, none⟩) c (w8.setCell ⟨l, 2, none⟩ (.slice (some ⟨g, 0, none⟩) (ws.length + 1) c)) ∧ Below l w (w8.setCell ⟨l, 2, none⟩ (.slice (some ⟨g, 0, none⟩) (ws.length + 1) c)) := by
  have ll := lt_of_cell h.c0
  have hz : (w.alloc ob).heap.size = w.heap.size + 1 := by simp
  have nb : ∀ k, some k = (Value.slice wa ws.length wc).ownBlock → l + 1 ≤ k := fun k e => (h.o.lt k e.symm).1
  have gl : l < g := by
    rcases hat with e | e
    · have := nb g e.symm; omega
    · omega
  have t1 : Turn (fun k => l + 1 ≤ k) w w8 := (Turn.alloc _ w ob).trans ⟨hg.os, hg.tape, hg.output, hg.size, fun k hk hn => hg.block k hk (fun e => hn (nb k e))⟩
  have t2 : Turn (fun k => l ≤ k) w (w8.setCell ⟨l, 2, none⟩ (.slice (some ⟨g, 0, none⟩) (ws.length + 1) c)) := Turn.trans ⟨t1.os, t1.tape, t1.output, t1.size, fun k hk hn => t1.block k hk (by omega)⟩ (Turn.setCell (Nat.le_refl l))
  have hc : ∀ i, w8.cell? ⟨l, i, none⟩ = w.cell? ⟨l, i, none⟩ := fun i => t1.cell ll (by omega)
  have el : (ws ++ [t]).length = ws.length + 1 := by rw [List.length_append]; rfl
  refine ⟨⟨(cset_ne (by omega)).trans ((hc 0).trans h.c0), (cset_ne (by omega)).trans ((hc 1).trans h.c1), ?_, fun i => fset_any.trans ((t1.frozen ll (by omega)).trans (h.f i)), ?_, h.p.turn t2 (fun k e e2 => by have := h.pl k e; omega) (fun x hx k e e2 => by have := h.pe x hx k e; omega), h.pl, h.pe⟩, t2.below (fun k hk => hk) (Nat.le_of_lt ll)⟩
  · rw [el]; exact cset_at ((hc 2).trans h.c2)
  · rw [el, show strsV (ws ++ [t]) = strsV ws ++ [.string t] by simp [strsV]]
    exact gowns_block hown (fun q e => by
      injection e with e; injection e with e
      obtain rfl : g = q := e
      exact Below.heap_setCell _ _ _ _ (show g ≠ l by omega))
end Go.Proofs.Ytlcmndbnknifhaa
/- a rune written and what is behind it: the text -/
namespace Go.Proofs.Ytlcmndbnknifhaa
open Go.RowKit
set_option linter.unusedVariables false
set_option maxRecDepth 20000
theorem ue_decodeN_good (n b0 b1 b2 b3 : Nat) (hg : (Lib.decodeN n b0 b1 b2 b3).1 ≠ 65533) (h0 : b0 < 256) :
    ((Lib.decodeN n b0 b1 b2 b3).1 < 55296 ∨ 57343 < (Lib.decodeN n b0 b1 b2 b3).1) ∧ (Lib.decodeN n b0 b1 b2 b3).1 ≤ 1114111 := by
  unfold Lib.decodeN at *
  by_cases k0 : b0 < 128
  · rw [if_pos k0]; exact ⟨Or.inl (show b0 < 55296 by omega), (show b0 ≤ 1114111 by omega)⟩
  rw [if_neg k0] at hg ⊢
  by_cases k1 : b0 / 32 = 6 ∧ 1 < n ∧ b1 / 64 = 2
  · rw [if_pos k1] at hg ⊢
    by_cases h : b0 % 32 * 64 + b1 % 64 ≥ 128
    · rw [if_pos h]; exact ⟨Or.inl (show b0 % 32 * 64 + b1 % 64 < 55296 by omega), (show b0 % 32 * 64 + b1 % 64 ≤ 1114111 by omega)⟩
    · rw [if_neg h] at hg; exact absurd rfl hg
  rw [if_neg k1] at hg ⊢
  by_cases k2 : b0 / 16 = 14 ∧ (1 < n ∧ b1 / 64 = 2) ∧ 2 < n ∧ b2 / 64 = 2
  · rw [if_pos k2] at hg ⊢
    by_cases h : b0 % 16 * 4096 + b1 % 64 * 64 + b2 % 64 ≥ 2048 ∧ (b0 % 16 * 4096 + b1 % 64 * 64 + b2 % 64 < 55296 ∨ (57344 ≤ b0 % 16 * 4096 + b1 % 64 * 64 + b2 % 64 ∧ b0 % 16 * 4096 + b1 % 64 * 64 + b2 % 64 ≤ 1114111))
    · rw [if_pos h]
      refine ⟨?_, show b0 % 16 * 4096 + b1 % 64 * 64 + b2 % 64 ≤ 1114111 by omega⟩
      show b0 % 16 * 4096 + b1 % 64 * 64 + b2 % 64 < 55296 ∨ 57343 < b0 % 16 * 4096 + b1 % 64 * 64 + b2 % 64
      omega
    · rw [if_neg h] at hg; exact absurd rfl hg
  rw [if_neg k2] at hg ⊢
  by_cases k3 : b0 / 8 = 30 ∧ (1 < n ∧ b1 / 64 = 2) ∧ (2 < n ∧ b2 / 64 = 2) ∧ 3 < n ∧ b3 / 64 = 2
  · rw [if_pos k3] at hg ⊢
    by_cases h : b0 % 8 * 262144 + b1 % 64 * 4096 + b2 % 64 * 64 + b3 % 64 ≥ 65536 ∧ (b0 % 8 * 262144 + b1 % 64 * 4096 + b2 % 64 * 64 + b3 % 64 < 55296 ∨ (57344 ≤ b0 % 8 * 262144 + b1 % 64 * 4096 + b2 % 64 * 64 + b3 % 64 ∧ b0 % 8 * 262144 + b1 % 64 * 4096 + b2 % 64 * 64 + b3 % 64 ≤ 1114111))
    · rw [if_pos h]
      refine ⟨?_, show b0 % 8 * 262144 + b1 % 64 * 4096 + b2 % 64 * 64 + b3 % 64 ≤ 1114111 by omega⟩
      show b0 % 8 * 262144 + b1 % 64 * 4096 + b2 % 64 * 64 + b3 % 64 < 55296 ∨ 57343 < b0 % 8 * 262144 + b1 % 64 * 4096 + b2 % 64 * 64 + b3 % 64
      omega
    · rw [if_neg h] at hg; exact absurd rfl hg
  rw [if_neg k3] at hg
  exact absurd rfl hg
theorem ue_drop_byte (s : ByteArray) (j : Nat) (h : j < s.size) : s.toList.drop j = UInt8.ofNat (byteS s j) :: s.toList.drop (j + 1) := by
  obtain ⟨c, h1, h2⟩ := drop_at s j h
  rw [h1, ← h2, UInt8.ofNat_toNat]
theorem ue_bytes_list (s : ByteArray) (pos w : Nat) (h : pos + w ≤ s.size) (h1 : 1 ≤ w) (h4 : w ≤ 4) :
    (s.toList.drop pos).take w = ([byteS s pos, byteS s (pos + 1), byteS s (pos + 2), byteS s (pos + 3)].take w).map UInt8.ofNat := by
  have hw : w = 1 ∨ w = 2 ∨ w = 3 ∨ w = 4 := by omega
  rcases hw with rfl | rfl | rfl | rfl
  · rw [ue_drop_byte s pos (by omega)]; rfl
  · rw [ue_drop_byte s pos (by omega), ue_drop_byte s (pos + 1) (by omega)]; rfl
  · rw [ue_drop_byte s pos (by omega), ue_drop_byte s (pos + 1) (by omega), ue_drop_byte s (pos + 1 + 1) (by omega)]; rfl
  · rw [ue_drop_byte s pos (by omega), ue_drop_byte s (pos + 1) (by omega), ue_drop_byte s (pos + 1 + 1) (by omega), ue_drop_byte s (pos + 1 + 1 + 1) (by omega)]; rfl
theorem ue_enc_width {r w b0 b1 b2 b3 : Nat} (h : Enc r w b0 b1 b2 b3) : 1 ≤ w ∧ w ≤ 4 ∧ r ≤ 1114111 := by unfold Enc at h; omega
/-- a rune read well: its bytes -/
theorem ue_read_well (s : ByteArray) (pos : Nat) (h : pos < s.size) (hg : (Utf8.decode s pos).1 ≠ 65533) :
    Enc (Utf8.decode s pos).1 (Utf8.decode s pos).2 (byteS s pos) (byteS s (pos + 1)) (byteS s (pos + 2)) (byteS s (pos + 3)) ∧ ((Utf8.decode s pos).1 < 55296 ∨ 57343 < (Utf8.decode s pos).1) := by
  rw [decode_bytes] at hg ⊢
  exact ⟨decodeN_enc _ _ _ _ _ (byteS_lt _ _) hg, (ue_decodeN_good _ _ _ _ _ hg (byteS_lt _ _)).1⟩
theorem encode_enc (r w b0 b1 b2 b3 : Nat) (h : Enc r w b0 b1 b2 b3) (hs : r < 55296 ∨ 57343 < r) : (Utf8.encode (r : Int)).data.toList = ([b0, b1, b2, b3].take w).map UInt8.ofNat := by
  have hr : r ≤ 1114111 := (ue_enc_width h).2.2
  have hv : Utf8.valid (r : Int) = true := by
    unfold Utf8.valid
    simp only [Bool.or_eq_true, Bool.and_eq_true, decide_eq_true_eq]
    omega
  unfold Utf8.encode
  rw [if_pos hv]
  simp only [Int.toNat_natCast]
  rcases h with ⟨rfl, rfl, h⟩ | ⟨rfl, h0, h1, h2, h3⟩ | ⟨rfl, h0, h1, h2, h3, h4⟩ | ⟨rfl, h0, h1, h2, h3, h4, h5⟩
  · rw [if_pos (by omega)]; rfl
  · rw [if_neg (by omega), if_pos (by omega), h0, h1]; rfl
  · rw [if_neg (by omega), if_neg (by omega), if_pos (by omega), h0, h1, h2]; rfl
  · rw [if_neg (by omega), if_neg (by omega), if_neg (by omega), h0, h1, h2, h3]; rfl
theorem enc_rst {t : Tx} (h : 0 ≤ lenS t) (h0 : 0 < t.size) : Utf8.encode (labS t : Int) ++ rstS t = t := by
  obtain ⟨h1, h2, -⟩ := good_first h h0
  obtain ⟨e1, e2⟩ := ue_read_well t 0 h0 h1
  have hw := ue_enc_width e1
  have hx : Utf8.encode (labS t : Int) = t.extract 0 (Utf8.decode t 0).2 := by
    have hb := ue_bytes_list t 0 _ (by omega) hw.1 hw.2.1
    have he := encode_enc _ _ _ _ _ _ e1 e2
    rw [← hb, List.drop_zero, ByteArray.toList_eq] at he
    have hl : labS t = (Utf8.decode t 0).1 := rfl
    rw [hl]
    apply tx_ext
    rw [he]
    have hz := (extract_size t (Utf8.decode t 0).2 h2).1
    have hj : (t.extract 0 (Utf8.decode t 0).2 ++ rstS t).data.toList = t.data.toList := by rw [rst_split h h0]
    rw [show ∀ a b : ByteArray, (a ++ b).data.toList = a.data.toList ++ b.data.toList from fun a b => by simp] at hj
    rw [← hj]
    have hn : (t.extract 0 (Utf8.decode t 0).2).data.toList.length = (Utf8.decode t 0).2 := by rw [Array.length_toList]; exact hz
    exact List.take_left' hn
  rw [hx]
  exact rst_split h h0
end Go.Proofs.Ytlcmndbnknifhaa
/- graph: the text of one rune -/
namespace Go.Proofs.Ytlcmndbnknifhaa
open Go.RowKit
set_option linter.unusedVariables false
set_option maxRecDepth 20000
theorem ue_encode_list (r w b0 b1 b2 b3 : Nat) (h : Enc r w b0 b1 b2 b3) (hs : r < 55296 ∨ 57343 < r) : Lib.encodeRune (r : Int) = ([b0, b1, b2, b3].take w).map UInt8.ofNat := by
  unfold Lib.encodeRune
  rcases h with ⟨rfl, rfl, h⟩ | ⟨rfl, h0, h1, h2, h3⟩ | ⟨rfl, h0, h1, h2, h3, h4⟩ | ⟨rfl, h0, h1, h2, h3, h4, h5⟩
  · rw [Lib.encodeRuneZ_one (by omega) (by omega)]; rfl
  · rw [Lib.encodeRuneZ_two (by omega) (by omega)]
    have e0 : (192 + (r : Int) / 64).toNat = b0 := by omega
    have e1 : (128 + (r : Int) % 64).toNat = b1 := by omega
    simp only [List.map, e0, e1, List.take]
  · rw [Lib.encodeRuneZ_three (by omega)]
    have e0 : (224 + (r : Int) / 4096).toNat = b0 := by omega
    have e1 : (128 + (r : Int) / 64 % 64).toNat = b1 := by omega
    have e2 : (128 + (r : Int) % 64).toNat = b2 := by omega
    simp only [List.map, e0, e1, e2, List.take]
  · rw [Lib.encodeRuneZ_four (by omega) (by omega)]
    have e0 : (240 + (r : Int) / 262144).toNat = b0 := by omega
    have e1 : (128 + (r : Int) / 4096 % 64).toNat = b1 := by omega
    have e2 : (128 + (r : Int) / 64 % 64).toNat = b2 := by omega
    have e3 : (128 + (r : Int) % 64).toNat = b3 := by omega
    simp only [List.map, e0, e1, e2, e3, List.take]
/-- a first rune's text, and what is behind it -/
theorem text_rst {t : Tx} (h : 0 ≤ lenS t) (h0 : 0 < t.size) : textZ [(labS t : Int)] ++ rstS t = t := by
  obtain ⟨h1, h2, -⟩ := good_first h h0
  obtain ⟨e1, e2⟩ := ue_read_well t 0 h0 h1
  have hw := ue_enc_width e1
  have hl : labS t = (Utf8.decode t 0).1 := rfl
  have hg : allG [(labS t : Int)] := by
    intro z hz
    simp only [List.mem_singleton] at hz
    subst hz
    rw [hl]
    unfold goodP
    omega
  rw [(textZ_good hg).1]
  have he : encB [(labS t : Int)] = Utf8.encode (labS t : Int) := by
    rw [hl]
    apply tx_ext
    rw [encode_enc _ _ _ _ _ _ e1 e2, ← ue_encode_list _ _ _ _ _ _ e1 e2]
    simp [encB, encL]
  rw [he]
  exact enc_rst h h0
end Go.Proofs.Ytlcmndbnknifhaa
/- pack: the words that an image's nodes tell (plain) -/
namespace Go.Proofs.Ytlcmndbnknifhaa
open Go.RowKit
set_option linter.unusedVariables false
set_option maxRecDepth 20000
theorem lab_good {t : Tx} (h : 0 ≤ lenS t) (h0 : 0 < t.size) : allG [(labS t : Int)] := by
  obtain ⟨h1, h2, -⟩ := good_first h h0
  obtain ⟨e1, e2⟩ := ue_read_well t 0 h0 h1
  have hw := ue_enc_width e1
  have hl : labS t = (Utf8.decode t 0).1 := rfl
  intro z hz
  simp only [List.mem_singleton] at hz
  subst hz
  rw [hl]
  unfold goodP
  omega
theorem fol_lab9 {m : List Tx} (h : Run m) (h0 : m ≠ []) : allG [((folS m).1 : Int)] ∧ (folS m).1 ≤ 1114111 := by
  cases m with
  | nil => exact absurd rfl h0
  | cons t m =>
    have h1 : allG [((folS (t :: m)).1 : Int)] := lab_good (h.lo t (by simp)) (h.pos t (by simp))
    have h2 := h1 _ (List.mem_singleton.2 rfl)
    unfold goodP at h2
    exact ⟨h1, by omega⟩
theorem fol_map9 {l : List Tx} (h : Run l) (h0 : l ≠ []) (s : Tx) : (folS l).2.map (fun x => (s ++ textZ [((folS l).1 : Int)]) ++ x) = (l.take (folS l).2.length).map (fun x => s ++ x) := by
  obtain ⟨k, hk, h1, h2⟩ := fol_split h0
  rw [← hk, h2, List.map_map]
  refine List.map_congr_left fun u hu => ?_
  have hm : u ∈ l := List.mem_of_mem_take hu
  have hl : labS u = (folS l).1 := by
    rw [h1] at hu
    have h3 := mem_tw (p := fun t => decide (labS t = labS (l.getD 0 ByteArray.empty))) hu
    rw [show labS u = labS (l.getD 0 ByteArray.empty) from of_decide_eq_true h3]
    cases l with
    | nil => exact absurd rfl h0
    | cons a l => rfl
  show (s ++ textZ [((folS l).1 : Int)]) ++ rstS u = s ++ u
  rw [← hl, ByteArray.append_assoc, text_rst (h.lo u hm) (h.pos u hm)]
theorem bitsV_nat9 (n : Nat) (h : n < 9223372036854775808) : bitsV (n : Int) = n := by
  have := bitsV_eq (n : Int)
  simp only [IntKind.wrap, IntKind.signed, IntKind.bits] at this
  simp at this
  omega
theorem edP_ok {e : EdP} {x k : Nat} (h1 : e.r = (x : Int)) (hx : x ≤ 1114111) (h2 : e.dst = (k : Int)) (hk : k < 65536) : runeL (edP e).1 = (x : Int) ∧ (edP e).2 = k := by
  unfold edP runeL
  rw [h1, h2, bitsV_nat9 x (by omega), bitsV_nat9 k (by omega)]
  simp only
  rw [Nat.mod_eq_of_lt (show x < 4294967296 by omega), Nat.mod_eq_of_lt hk]
  refine ⟨?_, rfl⟩
  simp only [IntKind.wrap, IntKind.signed, IntKind.bits]
  simp
  omega
/-- the texts, each with what is ahead -/
def onto (pre : Tx) (l : List Tx) : List Tx := l.map (fun x => pre ++ x)
def FolAll (L : List PN) (R : List (List Tx)) (f : Nat) : Prop := ∀ (F k : Nat) (l : List Tx) (pre : Tx) (left : Nat) (ws : List Tx), f ≤ F → R[k]? = some l → OkL f l → wtS l + 1 ≤ left → ∃ c, c ≤ wtS l + 1 ∧ folF L (F + 1) k pre left ws = (true, left - c, ws ++ onto pre l)
theorem folE_img {L : List PN} {R : List (List Tx)} {f F : Nat} (IH : FolAll L R f) (hF : f ≤ F) (hR : R.length ≤ 65536) (pre : Tx) : ∀ (es : List EdP) (m : List Tx) (left : Nat) (ws : List Tx), EdOk R m es → Run m → OkL (f + 1) m → wtS m ≤ left → ∃ c, c ≤ wtS m ∧ folE (folF L (F + 1)) pre (es.map edP) left ws = (true, left - c, ws ++ onto pre m)
  | [], m, left, ws, h, _, _, _ => by
    obtain rfl : m = [] := h
    exact ⟨0, Nat.zero_le _, by simp [folE, onto]⟩
  | e :: es, m, left, ws, h, hm, ho, hw => by
    obtain ⟨h0, h1, ⟨k, h2, h3⟩, h4⟩ := h
    obtain ⟨g1, g2⟩ := fol_lab9 hm h0
    have hk := (List.getElem?_eq_some_iff.1 h3).1
    obtain ⟨x1, x2⟩ := edP_ok h1 g2 h2 (by omega)
    have wf := wt_fol h0 hm.lo hm.pos
    obtain ⟨c1, hc1, e1⟩ := IH F k (folS m).2 (pre ++ labT (edP e).1) left ws hF h3 (ho.fol hm.pos) (by omega)
    obtain ⟨c2, hc2, e2⟩ := folE_img IH hF hR pre es (m.drop (folS m).2.length) (left - c1) (ws ++ onto (pre ++ labT (edP e).1) (folS m).2) h4 (hm.drop _) (ho.drop _) (by omega)
    refine ⟨c1 + c2, by omega, ?_⟩
    rw [List.map_cons]
    unfold folE
    rw [x1, if_pos g1, x2, e1]
    simp only [if_true]
    rw [e2, Nat.sub_sub, List.append_assoc]
    have e3 : onto (pre ++ labT (edP e).1) (folS m).2 = onto pre (m.take (folS m).2.length) := by
      unfold onto labT
      rw [x1]
      exact fol_map9 hm h0 pre
    rw [e3]
    unfold onto
    rw [← List.map_append, List.take_append_drop]
theorem fin_split (l : List Tx) (pre : Tx) (ws : List Tx) : (if finS l then ws ++ [pre] else ws) ++ onto pre (bodS l) = ws ++ onto pre l := by
  unfold bodS
  split
  · rename_i h
    unfold finS at h
    cases l with
    | nil => simp at h
    | cons t l =>
      simp only [List.head?_cons, Option.some.injEq, decide_eq_true_eq] at h
      subst h
      have e : pre ++ (⟨#[]⟩ : ByteArray) = pre := by
        apply tx_ext; simp
      simp [onto, e]
  · rfl
theorem folF_go9 (L : List PN) (f n : Nat) (pre : Tx) (left : Nat) (ws : List Tx) (h : ¬ (L.length ≤ n ∨ left = 0)) : folF L (f + 1) n pre left ws = folE (folF L f) pre (L.getD n ⟨false, []⟩).es (left - 1) (if (L.getD n ⟨false, []⟩).fin then ws ++ [pre] else ws) := by
  conv => lhs; unfold folF
  rw [if_neg h]
theorem fol_img {st : List GN} {ts : List Tx} (G : GOk st ts) (hl : st.length ≤ 65536) : ∀ f, FolAll (st.map pnG) (restsG st) f := by
  intro f
  induction f with
  | zero =>
    intro F k l pre left ws hF hR hO hw
    obtain ⟨hk, hr, hN⟩ := G.node hR
    have hb := bod_none hO
    have he := hN.ed
    rw [hr, hb] at he
    have hes : (st.getD k gn0).edges = [] := by
      cases h : (st.getD k gn0).edges with
      | nil => rfl
      | cons e es => rw [h] at he; exact absurd rfl he.1
    have hg : (st.map pnG).getD k ⟨false, []⟩ = ⟨finS l, []⟩ := by
      rw [List.getD_eq_getElem?_getD, List.getElem?_map, List.getElem?_eq_getElem hk]
      have e : st[k] = st.getD k gn0 := by rw [List.getD_eq_getElem?_getD, List.getElem?_eq_getElem hk]; rfl
      rw [Option.map_some, Option.getD_some, e]
      unfold pnG
      rw [hes, hN.fin, hr]; rfl
    refine ⟨1, by omega, ?_⟩
    rw [folF_go9 _ _ _ _ _ _ (by rw [List.length_map]; omega), hg]
    have := fin_split l pre ws
    rw [hb] at this
    simp only [folE]
    rw [← this]
    simp [onto]
  | succ f IH =>
    intro F k l pre left ws hF hR hO hw
    obtain ⟨F', rfl⟩ : ∃ F', F = F' + 1 := ⟨F - 1, by omega⟩
    obtain ⟨hk, hr, hN⟩ := G.node hR
    have he := hN.ed
    rw [hr] at he
    have hg : (st.map pnG).getD k ⟨false, []⟩ = ⟨finS l, (st.getD k gn0).edges.map edP⟩ := by
      rw [List.getD_eq_getElem?_getD, List.getElem?_map, List.getElem?_eq_getElem hk]
      have e : st[k] = st.getD k gn0 := by rw [List.getD_eq_getElem?_getD, List.getElem?_eq_getElem hk]; rfl
      rw [Option.map_some, Option.getD_some, e]
      unfold pnG
      rw [hN.fin, hr]
    obtain ⟨c, hc, ec⟩ := folE_img (F := F') IH (by omega) (by unfold restsG; rw [List.length_map]; exact hl) pre (st.getD k gn0).edges (bodS l) (left - 1) (if finS l then ws ++ [pre] else ws) he hO.run hO.bod (by have := wt_bod l; omega)
    have := wt_bod l
    refine ⟨c + 1, by omega, ?_⟩
    rw [folF_go9 _ _ _ _ _ _ (by rw [List.length_map]; omega), hg]
    simp only
    rw [ec, fin_split, Nat.sub_sub, Nat.add_comm 1 c]
end Go.Proofs.Ytlcmndbnknifhaa
/- pack: follow -/
namespace Go.Proofs.Ytlcmndbnknifhaa
open Go.RowKit
set_option linter.unusedVariables false
set_option maxRecDepth 20000
theorem strL_info : (Try.prog.info? 9).map (fun i => (i.zero, i.size, i.bytes)) = some (some (.string ⟨#[]⟩), 1, 16) := by kernel_rfl
theorem FL9.at {l : Nat} {NL : List PM} {na : Option Addr} {nc left : Nat} {ws : List Tx} {wa : Option Addr} {wc : Nat} {w : World} (h : FL9 l NL na nc left ws wa wc w) {i : Nat} (hi : i < NL.length) : ∃ q, na = some ⟨q, 0, none⟩ ∧ w.cell? ⟨q, i * 2, none⟩ = some (.bool (NL.getD i pm0).fin) ∧ w.cell? ⟨q, i * 2 + 1, none⟩ = some (.slice (NL.getD i pm0).ea (NL.getD i pm0).es.length (NL.getD i pm0).ec) := by
  obtain ⟨q, cap', hv⟩ := Joins.ownsRow_form h.p.o (by omega)
  simp only [Value.slice.injEq] at hv
  obtain ⟨hv, -, -⟩ := hv
  subst hv
  obtain ⟨v0, v1⟩ := pmV_at NL i hi
  exact ⟨q, rfl, (h.p.o.cellAt (i * 2) (by omega)).trans v0, (h.p.o.cellAt (i * 2 + 1) (by omega)).trans v1⟩
theorem pe_at {w : World} {B c : Nat} {a : Option Addr} {es : List PE} (h : w.ownsRow B 131 2 (.slice a es.length c) es.length (peV es)) {i : Nat} (hi : i < es.length) : ∃ q, a = some ⟨q, 0, none⟩ ∧ w.cell? ⟨q, i * 2, none⟩ = some (.int .i64 ((es.getD i (0, 0)).1 : Int)) ∧ w.cell? ⟨q, i * 2 + 1, none⟩ = some (.int .i64 ((es.getD i (0, 0)).2 : Int)) := by
  obtain ⟨q, cap', hv⟩ := Joins.ownsRow_form h (by omega)
  simp only [Value.slice.injEq] at hv
  obtain ⟨hv, -, -⟩ := hv
  subst hv
  obtain ⟨v0, v1⟩ := peV_at es i hi
  exact ⟨q, rfl, (h.cellAt (i * 2) (by omega)).trans v0, (h.cellAt (i * 2 + 1) (by omega)).trans v1⟩
theorem folE_few {rf : Nat → Tx → Nat → List Tx → Bool × Nat × List Tx} (h : ∀ n pre left ws, (rf n pre left ws).2.2.length + (rf n pre left ws).2.1 ≤ ws.length + left) (pre : Tx) : ∀ (es : List PE) (left : Nat) (ws : List Tx), (folE rf pre es left ws).2.2.length + (folE rf pre es left ws).2.1 ≤ ws.length + left
  | [], left, ws => Nat.le_refl _
  | e :: es, left, ws => by
    unfold folE
    split
    · split
      · exact Nat.le_trans (folE_few h pre es _ _) (h _ _ _ _)
      · exact h _ _ _ _
    · exact Nat.le_refl _
theorem folF_few (L : List PN) : ∀ (f n : Nat) (pre : Tx) (left : Nat) (ws : List Tx), (folF L f n pre left ws).2.2.length + (folF L f n pre left ws).2.1 ≤ ws.length + left
  | 0, n, pre, left, ws => Nat.le_refl _
  | f + 1, n, pre, left, ws => by
    unfold folF
    split
    · exact Nat.le_refl _
    · rename_i h
      refine Nat.le_trans (folE_few (folF_few L f) pre _ _ _) ?_
      split
      · rw [List.length_append, List.length_singleton]; omega
      · omega
theorem labT_size (x : Nat) : (labT x).size ≤ 4 := by
  unfold labT textZ
  split
  · have := encB_size [runeL x]
    simpa using this
  · exact Nat.zero_le _
/-- what follow does: the answer, and the lister behind it -/
def LisP (l : Nat) (NL : List PM) (na : Option Addr) (nc : Nat) (w : World) (r : Bool × Nat × List Tx) (e : Ending) (w' : World) : Prop := e = .returned (.bool r.1) ∧ (∃ wa wc, FL9 l NL na nc r.2.1 r.2.2 wa wc w') ∧ Below l w w'
def LisAny (l : Nat) (NL : List PM) (na : Option Addr) (nc f : Nat) : Prop := ∀ (n : Nat) (pre : Tx) (left : Nat) (ws : List Tx) (wa : Option Addr) (wc : Nat) (w : World), FL9 l NL na nc left ws wa wc w → left ≤ f → left ≤ 1000 → ws.length + left ≤ 1000 → pre.size + 4 * left ≤ 10000 → n ≤ 1000000 →
    Calls Try.prog 66 #[.pointer (some ⟨l, 0, none⟩), .int .i64 (n : Int), .string pre] w (LisP l NL na nc w (folF (NL.map pmP) (f + 1) n pre left ws))
end Go.Proofs.Ytlcmndbnknifhaa
/- pack: what Decode tells (plain) -/
namespace Go.Proofs.Ytlcmndbnknifhaa
open Go.RowKit
set_option linter.unusedVariables false
set_option maxRecDepth 20000
def GoodE (es : List PE) : Prop := ∀ e ∈ es, e.1 < 4294967296 ∧ e.2 < 65536
theorem rdE_good (bs : List Nat) (hb : ∀ b ∈ bs, b < 256) : ∀ (k at_ : Nat) (bad : Bool), GoodE (rdE bs bs.length k at_ bad).1 ∧ (rdE bs bs.length k at_ bad).1.length ≤ k
  | 0, at_, bad => ⟨fun e he => (by cases he), Nat.le_refl _⟩
  | k + 1, at_, bad => by
    have h1 := numR_lt bs bs.length at_ 4 bad hb rfl
    have h2 := numR_lt bs bs.length (atR bs.length at_ 4 bad) 2 (!okR bs.length at_ 4 bad) hb rfl
    rw [rdE_succ]
    simp only
    split
    · exact ⟨fun e he => by
        rw [List.mem_singleton] at he; subst he; exact ⟨h1, h2⟩, by simp⟩
    · have ih := rdE_good bs hb k (atR bs.length (atR bs.length at_ 4 bad) 2 (!okR bs.length at_ 4 bad)) false
      refine ⟨fun e he => ?_, by simp only [List.length_cons]; omega⟩
      rcases List.mem_cons.1 he with rfl | he
      · exact ⟨h1, h2⟩
      · exact ih.1 e he
theorem rdN_good (bs : List Nat) (hb : ∀ b ∈ bs, b < 256) (at_ : Nat) (bad : Bool) : GoodE (rdN bs bs.length at_ bad).1.es ∧ (rdN bs bs.length at_ bad).1.es.length ≤ 65535 := by
  have h := rdE_good bs hb (numR bs bs.length (atR bs.length at_ 1 bad) 2 (!okR bs.length at_ 1 bad)) (atR bs.length (atR bs.length at_ 1 bad) 2 (!okR bs.length at_ 1 bad)) (!okR bs.length (atR bs.length at_ 1 bad) 2 (!okR bs.length at_ 1 bad))
  have h2 := numR_lt bs bs.length (atR bs.length at_ 1 bad) 2 (!okR bs.length at_ 1 bad) hb rfl
  have h3 : (256 : Nat) ^ 2 = 65536 := by decide
  exact ⟨h.1, Nat.le_trans h.2 (by omega)⟩
def GoodNs (L : List PN) : Prop := ∀ x ∈ L, GoodE x.es ∧ x.es.length ≤ 65535
theorem rdL_good (bs : List Nat) (hb : ∀ b ∈ bs, b < 256) : ∀ (k at_ : Nat) (L : List PN) (e : Nat), rdL bs bs.length k at_ = some (L, e) → GoodNs L ∧ L.length ≤ k
  | 0, at_, L, e, h => by
    simp only [rdL, Option.some.injEq, Prod.mk.injEq] at h
    obtain ⟨rfl, -⟩ := h
    exact ⟨fun x hx => (by cases hx), Nat.le_refl _⟩
  | k + 1, at_, L, e, h => by
    simp only [rdL] at h
    split at h
    · cases h
    · rw [Option.map_eq_some_iff] at h
      obtain ⟨⟨L', e'⟩, h1, h2⟩ := h
      injection h2 with h2 h3
      subst h2
      obtain ⟨i1, i2⟩ := rdL_good bs hb k _ L' e' h1
      refine ⟨fun x hx => ?_, by simp only [List.length_cons]; omega⟩
      rcases List.mem_cons.1 hx with rfl | hx
      · exact rdN_good bs hb at_ false
      · exact i1 x hx
theorem readP_good {body : List Nat} (hb : ∀ b ∈ body, b < 256) {L : List PN} (h : readP body = some L) : GoodNs L ∧ L.length ≤ 65535 := by
  unfold readP at h
  split at h
  · simp only at h
    split at h
    · have hd : ∀ b ∈ body.drop 4, b < 256 := fun b hm => hb b (List.mem_of_mem_drop hm)
      have hn := numR_lt (body.drop 4) (body.drop 4).length 0 2 false hd rfl
      split at h
      · rename_i L' k hL
        split at h
        · injection h with h
          subst h
          have h3 : (256 : Nat) ^ 2 = 65536 := by decide
          have := rdL_good _ hd _ _ _ _ hL
          exact ⟨this.1, by omega⟩
        · cases h
      · cases h
    · cases h
  · cases h
/-! how long the words are that nodes tell -/
theorem folE_size {rf : Nat → Tx → Nat → List Tx → Bool × Nat × List Tx} (hl : ∀ n pre left ws, (rf n pre left ws).2.1 ≤ left) (h : ∀ n pre left ws, ∀ t ∈ (rf n pre left ws).2.2, t ∈ ws ∨ t.size ≤ pre.size + 4 * left) (pre : Tx) : ∀ (es : List PE) (left : Nat) (ws : List Tx), ∀ t ∈ (folE rf pre es left ws).2.2, t ∈ ws ∨ t.size ≤ pre.size + 4 + 4 * left
  | [], left, ws => fun t ht => Or.inl ht
  | e :: es, left, ws => fun t ht => by
    have hs : (pre ++ labT e.1).size ≤ pre.size + 4 := by rw [ByteArray.size_append]; have := labT_size e.1; omega
    have hll := hl e.2 (pre ++ labT e.1) left ws
    have hh := h e.2 (pre ++ labT e.1) left ws
    unfold folE at ht
    split at ht
    · split at ht
      · rcases folE_size hl h pre es _ _ t ht with h1 | h1
        · rcases hh t h1 with h2 | h2
          · exact Or.inl h2
          · exact Or.inr (by omega)
        · exact Or.inr (by omega)
      · rcases hh t ht with h2 | h2
        · exact Or.inl h2
        · exact Or.inr (by omega)
    · exact Or.inl ht
theorem folF_size (L : List PN) : ∀ (f n : Nat) (pre : Tx) (left : Nat) (ws : List Tx), ∀ t ∈ (folF L f n pre left ws).2.2, t ∈ ws ∨ t.size ≤ pre.size + 4 * left
  | 0, n, pre, left, ws => fun t ht => Or.inl ht
  | f + 1, n, pre, left, ws => fun t ht => by
    unfold folF at ht
    split at ht
    · exact Or.inl ht
    · rename_i hc
      rcases folE_size (folF_left L f) (folF_size L f) pre _ _ _ t ht with h1 | h1
      · split at h1
        · rcases List.mem_append.1 h1 with h1 | h1
          · exact Or.inl h1
          · rw [List.mem_singleton] at h1; subst h1; exact Or.inr (by omega)
        · exact Or.inl h1
      · exact Or.inr (by omega)
theorem size_fourN9 : ∀ (n : Nat) (t : Tx), t.size ≤ n → 0 ≤ lenS t → (t.size : Int) ≤ 4 * lenS t
  | 0, t, h, h0 => by omega
  | n + 1, t, h, h0 => by
    rcases Nat.eq_zero_or_pos t.size with hz | hp
    · omega
    · have h1 := rst_size h0 hp
      have h2 := rst_len h0 hp
      have ih := size_fourN9 n (rstS t) (by omega) h2.1
      obtain ⟨g1, g2, -⟩ := good_first h0 hp
      obtain ⟨e1, e2⟩ := ue_read_well t 0 hp g1
      have hw := ue_enc_width e1
      omega
theorem good_sizes {ts : List Tx} (h : goodV ts = 0) : ∀ t ∈ ts, t.size ≤ 48 := fun t ht => by
  obtain ⟨h1, h2⟩ := (goodV_zero h).2.1 t ht
  have := size_fourN9 t.size t (Nat.le_refl _) (by omega)
  omega
/-- the words that nodes tell from the first on; none: they tell none -/
def wordsP (L : List PN) : Option (List Tx) := if (folF L 722 0 ⟨#[]⟩ 721 []).1 then some (folF L 722 0 ⟨#[]⟩ 721 []).2.2 else none
theorem wordsP_small {L : List PN} {ts : List Tx} (h : wordsP L = some ts) : ts.length ≤ 721 ∧ ∀ t ∈ ts, t.size ≤ 2884 := by
  unfold wordsP at h
  split at h
  · injection h with h
    subst h
    refine ⟨?_, fun t ht => ?_⟩
    · have := folF_few L 722 0 ⟨#[]⟩ 721 []
      simp only [List.length_nil] at this
      omega
    · rcases folF_size L 722 0 ⟨#[]⟩ 721 [] t ht with h1 | h1
      · cases h1
      · have e : (⟨#[]⟩ : ByteArray).size = 0 := rfl
        omega
  · cases h
theorem imgB_body (st : List GN) : (imgB st).take ((imgB st).length - 4) = bodyB st := by
  unfold imgB
  rw [sealB_len, Nat.add_sub_cancel]
  unfold sealB
  exact List.take_left' rfl
theorem grS_edges {ts : List Tx} (h : goodV ts = 0) : (grS ts).length ≤ 721 ∧ ∀ x ∈ grS ts, x.edges.length ≤ 100 :=
  ⟨grS_few h (fun t ht => by have := good_sizes h t ht; omega), (grS_ok h (fun t ht => by have := good_sizes h t ht; omega)).few⟩
theorem openB_img (st : List GN) : openB (imgB st) = true := by
  have hl : 4 ≤ (imgB st).length := by unfold imgB; rw [sealB_len]; omega
  unfold openB
  rw [imgB_body, decide_eq_true hl, Bool.true_and]
  refine decide_eq_true ?_
  unfold numN imgB
  rw [sealB_len, Nat.add_sub_cancel]
  unfold sealB
  rw [List.drop_left' rfl, List.take_of_length_le (by rw [Cod.bytesOf_length]; omega), Cod.numOf_bytesOf]
  exact Nat.mod_eq_of_lt (sum_lt9 _)
theorem onto_empty (l : List Tx) : onto ⟨#[]⟩ l = l := by
  unfold onto
  refine (List.map_congr_left fun t _ => ?_).trans (List.map_id l)
  apply tx_ext; simp
theorem wordsP_img {ts : List Tx} (h : goodV ts = 0) : readP (bodyB (grS ts)) = some ((grS ts).map pnG) ∧ wordsP ((grS ts).map pnG) = some ts := by
  have hs : ∀ t ∈ ts, t.size ≤ 100 := fun t ht => by have := good_sizes h t ht; omega
  obtain ⟨h1, h2⟩ := grS_edges h
  have G := grS_ok h hs
  have hO := ok_good h hs
  have hw : wtS ts ≤ 720 := by
    have h3 := wt_good ts hO.hi
    have := (goodV_zero h).1
    omega
  refine ⟨readP_img (by omega) (fun x hx => by have := h2 x hx; omega), ?_⟩
  obtain ⟨c, hc, e⟩ := fol_img G (by omega) 12 721 0 ts ⟨#[]⟩ 721 [] (by omega) G.root hO (by omega)
  unfold wordsP
  rw [e]
  simp [onto_empty]
/-- what Decode tells of any bytes -/
def decS (bs : List Nat) : Option (List Tx) :=
  if openB bs then
    match readP (bs.take (bs.length - 4)) with
    | some L =>
      match wordsP L with
      | some ts => if goodV ts = 0 ∧ imgB (grS ts) = bs then some ts else none
      | none => none
    | none => none
  else none
theorem decS_some {bs : List Nat} {ts : List Tx} (h : decS bs = some ts) : goodV ts = 0 ∧ imgB (grS ts) = bs := by
  unfold decS at h
  split at h
  · split at h
    · split at h
      · split at h
        · rename_i hx
          injection h with h
          subst h
          exact hx
        · cases h
      · cases h
    · cases h
  · cases h
theorem decS_img {ts : List Tx} (h : goodV ts = 0) : decS (imgB (grS ts)) = some ts := by
  obtain ⟨h1, h2⟩ := wordsP_img h
  unfold decS
  rw [openB_img, imgB_body, h1]
  simp [h2, h]
end Go.Proofs.Ytlcmndbnknifhaa
/- graph: From's closure -/
namespace Go.Proofs.Ytlcmndbnknifhaa
open Go.RowKit
set_option linter.unusedVariables false
set_option maxRecDepth 20000
/-- a word is handed over: what is held then, and whether more may come -/
def takeO (lo : Tx) (out : List Tx) (x : Tx) : List Tx := if cmpS x lo < 0 then out else out ++ [x]
def takeL (lo : Tx) (most : Int) : List Tx → List Tx → List Tx × Bool
  | out, [] => (out, true)
  | out, x :: l => if ((takeO lo out x).length : Int) < most then takeL lo most (takeO lo out x) l else (takeO lo out x, false)
theorem takeO_len (lo : Tx) (out : List Tx) (x : Tx) : (takeO lo out x).length ≤ out.length + 1 := by
  unfold takeO; split <;> simp
theorem takeL_len (lo : Tx) (most : Int) : ∀ (l out : List Tx), (takeL lo most out l).1.length ≤ out.length + l.length
  | [], out => by simp [takeL]
  | x :: l, out => by
    have h1 := takeO_len lo out x
    have h2 := takeL_len lo most l (takeO lo out x)
    unfold takeL
    split
    · simp only [List.length_cons]; omega
    · simp only [List.length_cons]; omega
theorem takeL_app (lo : Tx) (most : Int) : ∀ (a b out : List Tx), takeL lo most out (a ++ b) = if (takeL lo most out a).2 then takeL lo most (takeL lo most out a).1 b else ((takeL lo most out a).1, false)
  | [], b, out => by simp [takeL]
  | x :: a, b, out => by
    have ih := takeL_app lo most a b (takeO lo out x)
    simp only [List.cons_append, takeL]
    split
    · exact ih
    · simp
/-- what the closure holds: the text, the list, how many -/
structure QT (B : Nat) (lo : Tx) (most : Int) (p1 p2 p3 : Nat) (out : List Tx) (oa : Option Addr) (oc : Nat) (w : World) (S : Nat → Prop) : Prop where
  c1 : w.cell? ⟨p1, 0, none⟩ = some (.string lo)
  c2 : w.cell? ⟨p2, 0, none⟩ = some (.slice oa out.length oc)
  c3 : w.cell? ⟨p3, 0, none⟩ = some (.int .i64 most)
  f : ∀ i, w.frozen? ⟨p2, i, none⟩ = false
  o : w.ownsRow B 9 1 (.slice oa out.length oc) out.length (strsV out)
  s1 : S p1
  s2 : S p2
  s3 : S p3
  n1 : p1 ≠ p2
  n2 : p3 ≠ p2
  no : ∀ q, oa = some ⟨q, 0, none⟩ → S q ∧ q ≠ p1 ∧ q ≠ p2 ∧ q ≠ p3
  lt : ∀ k, S k → k < w.heap.size
  b : B ≤ w.heap.size
def QTs (B : Nat) (lo : Tx) (most : Int) (p1 p2 p3 : Nat) (out : List Tx) (w : World) (S : Nat → Prop) : Prop := ∃ oa oc, QT B lo most p1 p2 p3 out oa oc w S
theorem QT.blocks {B : Nat} {lo : Tx} {most : Int} {p1 p2 p3 : Nat} {out : List Tx} {oa : Option Addr} {oc : Nat} {w w' : World} {S : Nat → Prop} (h : QT B lo most p1 p2 p3 out oa oc w S) (hs : w.heap.size ≤ w'.heap.size) (hb : ∀ k, S k → w'.heap[k]? = w.heap[k]?) : QT B lo most p1 p2 p3 out oa oc w' S :=
  ⟨(World.cell?_of_block (w := w) (hb p1 h.s1)).trans h.c1, (World.cell?_of_block (w := w) (hb p2 h.s2)).trans h.c2, (World.cell?_of_block (w := w) (hb p3 h.s3)).trans h.c3, fun i => (World.frozen?_of_block (w := w) (hb p2 h.s2)).trans (h.f i), gowns_block h.o (fun q hq => hb q (h.no q hq).1), h.s1, h.s2, h.s3, h.n1, h.n2, h.no, fun k hk => Nat.lt_of_lt_of_le (h.lt k hk) hs, Nat.le_trans h.b hs⟩
theorem qts_ok (B : Nat) (lo : Tx) (most : Int) (p1 p2 p3 : Nat) (out : List Tx) : ObjOk (QTs B lo most p1 p2 p3 out) :=
  ⟨fun h t hF => by obtain ⟨oa, oc, x⟩ := h; exact ⟨oa, oc, x.blocks t.size (fun k hk => t.block k (x.lt k hk) (hF k hk))⟩, fun h => by obtain ⟨oa, oc, x⟩ := h; exact x.lt⟩
theorem strsV_snocG (l : List Tx) (x : Tx) : strsV (l ++ [x]) = strsV l ++ [.string x] := by simp [strsV]
/-- behind a word more -/
theorem QT.grow {B : Nat} {lo x : Tx} {most : Int} {p1 p2 p3 : Nat} {out : List Tx} {oa : Option Addr} {oc : Nat} {w w6 : World} {S : Nat → Prop} {q cap : Nat} {o : Obj} (h : QT B lo most p1 p2 p3 out oa oc w S)
    (own : w6.ownsRow B 9 1 (.slice (some ⟨q, 0, none⟩) (out.length + 1) cap) (out.length + 1) (strsV out ++ [.string x]))
    (hg : (w.alloc o).grownBy w6 (Value.slice oa out.length oc).ownBlock) (hat : (Value.slice oa out.length oc).ownBlock = some q ∨ q = (w.alloc o).heap.size) (hlt : q < w6.heap.size) :
    PO (QTs B lo most p1 p2 p3 (out ++ [x])) w S (w6.setCell ⟨p2, 0, none⟩ (.slice (some ⟨q, 0, none⟩) (out.length + 1) cap)) := by
  have hza : (w.alloc o).heap.size = w.heap.size + 1 := by simp
  have hz6 := hg.size
  have old : ∀ k, k < w.heap.size → (∀ r, oa = some ⟨r, 0, none⟩ → k ≠ r) → w6.heap[k]? = w.heap[k]? := fun k hk hn =>
    (hg.block k (by omega) (fun e => hn k (gown_at h.o e) rfl)).trans (Below.heap_alloc _ _ _ (by omega))
  have ob1 := old p1 (h.lt _ h.s1) (fun r e hq => (h.no r e).2.1 hq.symm)
  have ob2 := old p2 (h.lt _ h.s2) (fun r e hq => (h.no r e).2.2.1 hq.symm)
  have ob3 := old p3 (h.lt _ h.s3) (fun r e hq => (h.no r e).2.2.2 hq.symm)
  have gq : q ≠ p1 ∧ q ≠ p2 ∧ q ≠ p3 := by
    rcases hat with e | e
    · exact (h.no q (gown_at h.o e.symm)).2
    · have := h.lt _ h.s1; have := h.lt _ h.s2; have := h.lt _ h.s3; omega
  have sz : (w6.setCell ⟨p2, 0, none⟩ (.slice (some ⟨q, 0, none⟩) (out.length + 1) cap)).heap.size = w6.heap.size := by simp [World.setCell]
  have hlen : (out ++ [x]).length = out.length + 1 := by simp
  have n1 := h.n1; have n2 := h.n2
  refine ⟨fun k => S k ∨ k = q, ⟨some ⟨q, 0, none⟩, cap, ⟨?_, ?_, ?_, fun i => ?_, ?_, Or.inl h.s1, Or.inl h.s2, Or.inl h.s3, h.n1, h.n2, fun r hr => ?_, fun k hk => ?_, ?_⟩⟩, fun k hk => ?_, ?_⟩
  · rw [cset_far (Ne.symm n1)]; exact (World.cell?_of_block (w := w) ob1).trans h.c1
  · rw [hlen]; exact cset_at ((World.cell?_of_block (w := w) ob2).trans h.c2)
  · rw [cset_far (Ne.symm n2)]; exact (World.cell?_of_block (w := w) ob3).trans h.c3
  · rw [fset_any]; exact (World.frozen?_of_block (w := w) ob2).trans (h.f i)
  · rw [hlen, strsV_snocG]
    exact gowns_block own (fun r hr => by injection hr with hr; injection hr with hr; subst hr; exact gheap_far gq.2.1)
  · injection hr with hr; injection hr with hr; subst hr
    exact ⟨Or.inr rfl, gq⟩
  · rw [sz]
    rcases hk with hk | hk
    · have := h.lt k hk; omega
    · rw [hk]; exact hlt
  · rw [sz]; have := h.b; omega
  · rcases hk with hk | hk
    · exact Or.inl hk
    · rcases hat with e | e
      · exact Or.inl (by rw [hk]; exact (h.no q (gown_at h.o e.symm)).1)
      · exact Or.inr (by omega)
  · refine Turn.trans ?_ (Turn.setCell h.s2)
    exact ⟨hg.os, hg.tape, hg.output, by omega, fun k hk hn => old k hk (fun r e h2 => hn (by rw [h2]; exact (h.no r e).1))⟩
theorem QT.mid {B : Nat} {lo : Tx} {most : Int} {p1 p2 p3 : Nat} {out : List Tx} {oa : Option Addr} {oc : Nat} {w w6 : World} {S : Nat → Prop} {o : Obj} (h : QT B lo most p1 p2 p3 out oa oc w S) (hg : (w.alloc o).grownBy w6 (Value.slice oa out.length oc).ownBlock) :
    w6.cell? ⟨p2, 0, none⟩ = some (.slice oa out.length oc) ∧ w6.frozen? ⟨p2, 0, none⟩ = false ∧ ∀ v, (w6.setCell ⟨p2, 0, none⟩ v).cell? ⟨p3, 0, none⟩ = some (.int .i64 most) := by
  have hza : (w.alloc o).heap.size = w.heap.size + 1 := by simp
  have old : ∀ k, k < w.heap.size → (∀ r, oa = some ⟨r, 0, none⟩ → k ≠ r) → w6.heap[k]? = w.heap[k]? := fun k hk hn =>
    (hg.block k (by omega) (fun e => hn k (gown_at h.o e) rfl)).trans (Below.heap_alloc _ _ _ (by omega))
  have ob2 := old p2 (h.lt _ h.s2) (fun r e hq => (h.no r e).2.2.1 hq.symm)
  have ob3 := old p3 (h.lt _ h.s3) (fun r e hq => (h.no r e).2.2.2 hq.symm)
  exact ⟨(World.cell?_of_block (w := w) ob2).trans h.c2, (World.frozen?_of_block (w := w) ob2).trans (h.f 0), fun v => (cset_far (Ne.symm h.n2)).trans ((World.cell?_of_block (w := w) ob3).trans h.c3)⟩
set_option maxHeartbeats 1600000 in
theorem take_any (B : Nat) (lo : Tx) (most : Int) (p1 p2 p3 : Nat) (out : List Tx) (x : Tx) (S : Nat → Prop) (w : World) (h : QTs B lo most p1 p2 p3 out w S) (hl : out.length ≤ 10000) :
    Calls Try.prog 70 #[.string x, .pointer (some ⟨p1, 0, none⟩), .pointer (some ⟨p2, 0, none⟩), .pointer (some ⟨p3, 0, none⟩)] w fun e w' => e = .returned (.bool (decide (((takeO lo out x).length : Int) < most))) ∧ PO (QTs B lo most p1 p2 p3 (takeO lo out x)) w S w' := by
  obtain ⟨oa, oc, hq⟩ := h
  obtain ⟨i0, hi, hz0, hz1, hz2⟩ := info_parts strG_info
  have c1 := hq.c1; have c2 := hq.c2; have c3 := hq.c3; have f0 := hq.f 0
  have Q := Lib.hid hq
  clear hq
  by_cases hc : cmpS x lo < 0
  · have e : takeO lo out x = out := if_pos hc
    rw [e]
    clear e
    have d1 : decide (cmpS x lo ≥ 0) = false := decide_eq_false (by omega)
    go_enter Try.func70, Try.ntmps70
    go_wp2_with (go_at_call 45; refine (compare_any _ _ _).mono ?_; rintro e w' ⟨rfl, rfl⟩)
    go_ret
    exact ⟨rfl, S, ⟨oa, oc, Q.out⟩, fun k hk => Or.inl hk, Turn.refl _ _⟩
  · have e : takeO lo out x = out ++ [x] := if_neg hc
    rw [e, show ((out ++ [x]).length : Int) = (out.length : Int) + 1 by simp]
    clear e
    have d1 : decide (cmpS x lo ≥ 0) = true := decide_eq_true (by omega)
    go_enter Try.func70, Try.ntmps70
    have hba := Q.out.b
    have OW := Lib.hid (Q.out.o)
    go_wp2_with (first | (go_at_call 45; refine (compare_any _ _ _).mono ?_; rintro e w' ⟨rfl, rfl⟩) | (at_builtin; refine wpList_append_lies _ rfl (.tmp 10) (.tmp 12) 22 rfl B 9 i0 _ 1 16 Try.underlying22 hi hz0 hz1 hz2 rfl (by omega) (.slice oa out.length oc) out.length (strsV out) (by rfl) (OW.out.alloc _) ⟨w.heap.size, 0, none⟩ 1 1 [.string x] (by rfl) (by rfl) (World.news_of_block (cs := #[.string x]) (t := 9) (fr := (0, 0)) (heap_alloc_new w _)) (by simp [Value.oneCell']) (by omega) (by unfold maxLen; omega) (by omega) (by simp; omega) (w.heap.size + 1) (by simp) ?_; intro g3 c3' w3 hown3 hgrow3 hat3 hlt3; have GR := Lib.hid (Q.out.grow hown3 hgrow3 (hat3.imp id (fun e => by simp; exact e)) hlt3); obtain ⟨m1, m2, m3⟩ := Q.out.mid hgrow3; clear hown3 hgrow3 hat3 hlt3))
    go_ret
    exact ⟨rfl, GR.out⟩
end Go.Proofs.Ytlcmndbnknifhaa
/- graph: each -/
namespace Go.Proofs.Ytlcmndbnknifhaa
open Go.RowKit
set_option linter.unusedVariables false
set_option maxRecDepth 20000
theorem GAt.edges {g : Nat} {st : List GN} {w : World} {Sg S : Nat → Prop} (h : GAt g st w Sg) (hA : ∀ k, Sg k → ¬ S k) {n : Nat} (hn : n < st.length) : ∃ q nc ea ec, w.cell? ⟨g, 0, none⟩ = some (.slice (some ⟨q, 0, none⟩) st.length nc) ∧ w.cell? ⟨q, n * 2, none⟩ = some (.bool (st.getD n gn0).final) ∧ (∀ w', Turn S w w' → w'.cell? ⟨g, 0, none⟩ = some (.slice (some ⟨q, 0, none⟩) st.length nc) ∧ w'.cell? ⟨q, n * 2 + 1, none⟩ = some (.slice ea (st.getD n gn0).edges.length ec) ∧ HoldsEd w' ea (st.getD n gn0).edges.length (st.getD n gn0).edges) := by
  obtain ⟨na, nc, NL, G, e⟩ := h
  obtain ⟨e1, e2⟩ := map_eqG _ _ e
  have c := G.c
  obtain ⟨q, rfl, c0, c1⟩ := G.at (i := n) (by omega)
  obtain ⟨e3, e4⟩ := e2 n hn
  rw [e1] at c
  rw [e3] at c0
  have ei := G.e _ (mem_nm (show n < NL.length by omega))
  unfold EdIn at ei
  rw [e4] at c1 ei
  exact ⟨q, nc, _, _, c, c0, fun w' t => ⟨(t.cell (lt_of_cell c) (hA _ G.sg)).trans c, (t.cell (lt_of_cell c1) (hA _ (G.sn q rfl).1)).trans c1, holdsEd_blocks ei.1 (fun fb fo e => t.block fb (G.lt fb (ei.2.2.2 fb fo e).1) (hA _ (ei.2.2.2 fb fo e).1))⟩⟩
theorem fol_map {l : List Tx} (h : Run l) (h0 : l ≠ []) (s : Tx) : (folS l).2.map (fun x => (s ++ Utf8.encode ((folS l).1 : Int)) ++ x) = (l.take (folS l).2.length).map (fun x => s ++ x) := by
  obtain ⟨k, hk, h1, h2⟩ := fol_split h0
  rw [← hk, h2, List.map_map]
  refine List.map_congr_left fun u hu => ?_
  have hm : u ∈ l := List.mem_of_mem_take hu
  have hl : labS u = (folS l).1 := by
    rw [h1] at hu
    have h3 := mem_tw (p := fun t => decide (labS t = labS (l.getD 0 ByteArray.empty))) hu
    rw [show labS u = labS (l.getD 0 ByteArray.empty) from of_decide_eq_true h3]
    cases l with
    | nil => exact absurd rfl h0
    | cons a l => rfl
  show (s ++ Utf8.encode ((folS l).1 : Int)) ++ rstS u = s ++ u
  rw [← hl, ByteArray.append_assoc, enc_rst (h.lo u hm) (h.pos u hm)]
theorem drop_ed (l : List EdP) (j : Nat) (h : j < l.length) : l.drop j = l.getD j ed0 :: l.drop (j + 1) := by
  rw [List.drop_eq_getElem_cons h, List.getD_eq_getElem?_getD, List.getElem?_eq_getElem h]; rfl
def Apart (S T : Nat → Prop) : Prop := ∀ k, S k → ¬ T k
def EachAny (B : Nat) (lo : Tx) (most : Int) (g p1 p2 p3 : Nat) (st : List GN) (ts : List Tx) (f : Nat) : Prop := ∀ (k : Nat) (l : List Tx) (s : Tx) (out : List Tx) (Sg S : Nat → Prop) (w : World), (restsG st)[k]? = some l → OkL f l → GAt g st w Sg → QTs B lo most p1 p2 p3 out w S → Apart Sg S → out.length + l.length ≤ 1000 → s.size + 4 * f ≤ 1000 →
    Calls Try.prog 69 #[.pointer (some ⟨g, 0, none⟩), .int .i64 k, .string s, .func (Fn.func 70) #[] #[.pointer (some ⟨p1, 0, none⟩), .pointer (some ⟨p2, 0, none⟩), .pointer (some ⟨p3, 0, none⟩)]] w fun e w' => e = .returned (.bool (takeL lo most out (l.map (s ++ ·))).2) ∧ PO (QTs B lo most p1 p2 p3 (takeL lo most out (l.map (s ++ ·))).1) w S w'
set_option maxHeartbeats 3200000 in
theorem each_step (B : Nat) (lo : Tx) (most : Int) (g p1 p2 p3 : Nat) (st : List GN) (ts : List Tx) (G : GOk st ts) (f : Nat) (IH : ∀ f', f = f' + 1 → EachAny B lo most g p1 p2 p3 st ts f') : EachAny B lo most g p1 p2 p3 st ts f := by
  intro k l s out Sg S w hR hO hG hQ hA hn hsz
  obtain ⟨hk, hr, hN⟩ := G.node hR
  obtain ⟨q, nc, ea, ec, c0, c1, hT⟩ := hG.edges hA hk
  have i1 : (0 : Int) ≤ (k : Int) := by omega
  have i2 : (k : Int) < (st.length : Int) := by omega
  have hfin := hN.fin
  rw [hr] at hfin
  have hed := hN.ed
  rw [hr] at hed
  obtain ⟨es, hes⟩ : ∃ b, (st.getD k gn0).edges = b := ⟨_, rfl⟩
  rw [hes] at hed hT
  obtain ⟨m, hm⟩ : ∃ m, es.length = m := ⟨_, rfl⟩
  rw [hm] at hT
  obtain ⟨TV, hTV⟩ : ∃ v, takeL lo most out (l.map (s ++ ·)) = v := ⟨_, rfl⟩
  rw [hTV]
  have hm1 : m ≤ 1000 := by have := G.few _ (show st.getD k gn0 ∈ st by rw [List.getD_eq_getElem?_getD, List.getElem?_eq_getElem hk]; simp); rw [hes, hm] at this; omega
  have HT := Lib.hid hT; have HM := Lib.hid hm; have HED := Lib.hid hed; have HTV := Lib.hid hTV; have GH := Lib.hid hG; have AH := Lib.hid hA; have OB := Lib.hid hO.bod; have BP := Lib.hid (bod_pos hO.ord); have QH := Lib.hid hQ; have IHH := Lib.hid IH
  have HN := Lib.hid (show out.length + (bodS l).length ≤ 1000 from by have := bod_len l; omega)
  clear hT hes hm hed hTV hG hA hO hQ IH hN hr hR
  cases hb : finS l with
  | false =>
    rw [hb] at hfin
    rw [hfin] at c1
    have c2 := (HT.out w (Turn.refl _ _)).2.1
    have HTV2 := Lib.hid (show takeL lo most out ((bodS l).map (s ++ ·)) = TV from by rw [← HTV.out]; unfold bodS; rw [hb]; rfl)
    clear hfin hb HTV
    go_enter Try.func69, Try.ntmps69
    go_wp2_with fail
    clear c0 c1 c2
    go_loopw [34] (fun iv wr => ∃ (j : Nat) (l' out' : List Tx) (S' : Nat → Prop), j ≤ m ∧ iv = .int .i64 j ∧ Hid (EdOk (restsG st) l' (es.drop j)) ∧ Hid (OkL f l') ∧ Hid (∀ t ∈ l', 0 < t.size) ∧ Hid (takeL lo most out' (l'.map (s ++ ·)) = TV) ∧ Hid (out'.length + l'.length ≤ 1000) ∧ Hid (QTs B lo most p1 p2 p3 out' wr S') ∧ Hid (∀ k, S' k → S k ∨ w.heap.size ≤ k) ∧ Hid (Turn S w wr)) (fun iv _ => m - (intOf iv).toNat)
    case atStart => exact ⟨0, bodS l, out, S, by omega, rfl, HED, OB, BP, HTV2, HN, QH, Lib.hid (fun k hk => Or.inl hk), Lib.hid (Turn.refl _ _)⟩
    case round =>
      obtain ⟨j, l', out', S', hj, rfl, hE, hO', hP, hV, hL, hQ', hS, hT⟩ := hrel
      by_cases hlt : j < m
      · obtain ⟨d0, d1, d2⟩ := HT.out wr hT.out
        obtain ⟨b, o, rfl, hc⟩ := d2.at (by omega)
        have x0 := hc j hlt
        have hE1 := hE.out
        rw [drop_ed es j (by have := HM.out; omega)] at hE1
        obtain ⟨hne, hr1, ⟨k', hd1, hR1⟩, hE2⟩ := hE1
        obtain ⟨x1, x2⟩ := x0
        rw [hr1] at x1
        rw [hd1] at x2
        obtain ⟨hf1, hf2⟩ := fol_len l' hne
        have hRun : Run l' := ⟨hO'.out.ord, hP.out, hO'.out.lo⟩
        have hmap := fol_map hRun hne s
        obtain ⟨kk, hkk⟩ : ∃ kk, (folS l').2.length = kk := ⟨_, rfl⟩
        rw [hkk] at hE2 hf1 hf2 hmap
        obtain ⟨f', rfl⟩ : ∃ f', f = f' + 1 := by
          cases l' with
          | nil => exact absurd rfl hne
          | cons t l2 =>
            have h1 := rst_len (hO'.out.lo t (by simp)) (hP.out t (by simp))
            have h2 := hO'.out.hi t (by simp)
            exact ⟨f - 1, by omega⟩
        have hof := hO'.out.fol hP.out
        obtain ⟨lb, hlb⟩ : ∃ v, (folS l').1 = v := ⟨_, rfl⟩
        obtain ⟨fl, hfl⟩ : ∃ v, (folS l').2 = v := ⟨_, rfl⟩
        rw [hlb] at x1 hmap
        rw [hfl] at hmap hR1 hof hkk
        have hz4 := encode_size_le (lb : Int)
        have hsz2 : (s ++ Utf8.encode (lb : Int)).size + 4 * f' ≤ 1000 := by rw [ByteArray.size_append]; omega
        have hszm : s.size + (Utf8.encode (lb : Int)).size ≤ 1000 := by omega
        have BE := Lib.hid (below_one wr (.cells #[.int .i32 (lb : Int), .int .i64 (k' : Int)] 67))
        have CE := Lib.hid (IHH.out f' rfl k' fl (s ++ Utf8.encode (lb : Int)) out' Sg S' (wr.alloc (.cells #[.int .i32 (lb : Int), .int .i64 (k' : Int)] 67)) hR1 hof ((gAt_ok g st).below ((gAt_ok g st).turn GH.out hT.out AH.out) BE.out) ((qts_ok B lo most p1 p2 p3 out').below hQ'.out BE.out) (fun q hq hq2 => by
          rcases hS.out q hq2 with h1 | h1
          · exact AH.out q hq h1
          · have := (gAt_ok g st).lt GH.out q hq; omega) (by have := hL.out; omega) hsz2)
        rw [hmap] at CE
        have hV2 := hV.out
        rw [← List.take_append_drop kk l', List.map_append, takeL_app] at hV2
        have hLL := takeL_len lo most ((l'.take kk).map (s ++ ·)) out'
        rw [List.length_map, List.length_take] at hLL
        obtain ⟨RV, hRV⟩ : ∃ v, takeL lo most out' ((l'.take kk).map (s ++ ·)) = v := ⟨_, rfl⟩
        rw [hRV] at hV2 CE hLL
        obtain ⟨ro, rb⟩ := RV
        simp only at hV2 CE hLL
        have V2 := Lib.hid hV2
        have E2 := Lib.hid hE2
        have LL := Lib.hid hLL
        have hTB := Lib.hid (hT.out.trans (Turn.of_below BE.out))
        have hk1 := Lib.hid hf1
        have hk2 := Lib.hid hf2
        have n1 : (0 : Int) ≤ (j : Int) := by omega
        have n2 : (j : Int) < (m : Int) := by omega
        clear hc d0 d1 d2 hr1 hd1 hR1 hE2 hne hRun hmap hkk hof hlb hfl hz4 hsz2 hV2 hLL hRV hf1 hf2
        go_wp2_with fail
        refine CE.out.mono ?_
        rintro e w4 ⟨rfl, S4, q4, s4, t4⟩
        have Q4 := Lib.hid q4
        have S4H := Lib.hid (show ∀ q, S4 q → S q ∨ w.heap.size ≤ q from fun q hq => by
          rcases s4 q hq with h1 | h1
          · exact hS.out q h1
          · have := hT.out.size; have := BE.out.size; exact Or.inr (by omega))
        have T4 := Lib.hid (hTB.out.trans' t4 (fun q hq => hS.out q hq))
        clear q4 s4 t4 CE
        cases rb with
        | true =>
          have V3 := V2.out
          rw [if_pos rfl] at V3
          have V4 := Lib.hid V3
          clear V3 V2
          go_wp2_with fail
          go_roundw
          case rel => exact ⟨j + 1, l'.drop kk, ro, S4, by omega, by go_num, E2, Lib.hid (hO'.out.drop _), Lib.hid (fun t ht => hP.out t (List.mem_of_mem_drop ht)), V4, Lib.hid (by have := LL.out; have := hL.out; have := hk2.out; rw [List.length_drop]; omega), Q4, S4H, T4⟩
          case measure => simp [intOf] <;> omega
        | false =>
          have V3 := V2.out
          rw [if_neg (by simp)] at V3
          subst V3
          go_wp2_with fail
          go_ret
          exact ⟨rfl, S4, Q4.out, S4H.out, T4.out⟩
      · obtain rfl : j = m := by omega
        have hE2 := hE.out
        rw [List.drop_of_length_le (by have := HM.out; omega)] at hE2
        obtain rfl : l' = [] := hE2
        obtain rfl : (out', true) = TV := hV.out
        go_wp2_with fail
        go_ret
        exact ⟨rfl, S', hQ'.out, hS.out, hT.out⟩
  | true =>
    rw [hb] at hfin
    rw [hfin] at c1
    have hhd : l.head? = some (⟨#[]⟩ : ByteArray) := of_decide_eq_true hb
    obtain ⟨o2, ho2⟩ : ∃ v, takeO lo out s = v := ⟨_, rfl⟩
    have hLB : l.map (s ++ ·) = s :: (bodS l).map (s ++ ·) ∧ l.length = (bodS l).length + 1 := by
      unfold bodS
      rw [hb, if_pos rfl]
      cases l with
      | nil => cases hhd
      | cons t l2 =>
        rw [List.head?_cons] at hhd
        injection hhd with hhd
        subst hhd
        refine ⟨?_, rfl⟩
        rw [List.map_cons, List.tail_cons]
        congr 1
        exact ByteArray.append_empty
    have hol : o2.length ≤ out.length + 1 := ho2 ▸ takeO_len lo out s
    have HN2 := Lib.hid (show o2.length + (bodS l).length ≤ 1000 from by have := hLB.2; omega)
    have hTV3 : (if (o2.length : Int) < most then takeL lo most o2 ((bodS l).map (s ++ ·)) else (o2, false)) = TV := by
      rw [← HTV.out, hLB.1, takeL, ho2]
    have CT := Lib.hid (take_any B lo most p1 p2 p3 out s S w QH.out (by omega))
    rw [ho2] at CT
    clear hfin hb HTV hhd hLB hol ho2
    by_cases hmo : (o2.length : Int) < most
    · rw [decide_eq_true hmo] at CT
      rw [if_pos hmo] at hTV3
      have HTV2 := Lib.hid hTV3
      clear hTV3 hmo
      go_enter Try.func69, Try.ntmps69
      go_wp2_with fail
      refine CT.out.mono ?_
      rintro e w1 ⟨rfl, S1, q1, s1, t1⟩
      have Q1 := Lib.hid q1; have S1H := Lib.hid s1; have T1 := Lib.hid t1
      obtain ⟨d0, d1, -⟩ := HT.out w1 t1
      clear q1 s1 t1 CT c0 c1
      go_wp2_with fail
      clear d0 d1
      go_loopw [34] (fun iv wr => ∃ (j : Nat) (l' out' : List Tx) (S' : Nat → Prop), j ≤ m ∧ iv = .int .i64 j ∧ Hid (EdOk (restsG st) l' (es.drop j)) ∧ Hid (OkL f l') ∧ Hid (∀ t ∈ l', 0 < t.size) ∧ Hid (takeL lo most out' (l'.map (s ++ ·)) = TV) ∧ Hid (out'.length + l'.length ≤ 1000) ∧ Hid (QTs B lo most p1 p2 p3 out' wr S') ∧ Hid (∀ k, S' k → S k ∨ w.heap.size ≤ k) ∧ Hid (Turn S w wr)) (fun iv _ => m - (intOf iv).toNat)
      case atStart => exact ⟨0, bodS l, o2, S1, by omega, rfl, HED, OB, BP, HTV2, HN2, Q1, S1H, T1⟩
      case round =>
        obtain ⟨j, l', out', S', hj, rfl, hE, hO', hP, hV, hL, hQ', hS, hT⟩ := hrel
        by_cases hlt : j < m
        · obtain ⟨d0, d1, d2⟩ := HT.out wr hT.out
          obtain ⟨b, o, rfl, hc⟩ := d2.at (by omega)
          have x0 := hc j hlt
          have hE1 := hE.out
          rw [drop_ed es j (by have := HM.out; omega)] at hE1
          obtain ⟨hne, hr1, ⟨k', hd1, hR1⟩, hE2⟩ := hE1
          obtain ⟨x1, x2⟩ := x0
          rw [hr1] at x1
          rw [hd1] at x2
          obtain ⟨hf1, hf2⟩ := fol_len l' hne
          have hRun : Run l' := ⟨hO'.out.ord, hP.out, hO'.out.lo⟩
          have hmap := fol_map hRun hne s
          obtain ⟨kk, hkk⟩ : ∃ kk, (folS l').2.length = kk := ⟨_, rfl⟩
          rw [hkk] at hE2 hf1 hf2 hmap
          obtain ⟨f', rfl⟩ : ∃ f', f = f' + 1 := by
            cases l' with
            | nil => exact absurd rfl hne
            | cons t l2 =>
              have h1 := rst_len (hO'.out.lo t (by simp)) (hP.out t (by simp))
              have h2 := hO'.out.hi t (by simp)
              exact ⟨f - 1, by omega⟩
          have hof := hO'.out.fol hP.out
          obtain ⟨lb, hlb⟩ : ∃ v, (folS l').1 = v := ⟨_, rfl⟩
          obtain ⟨fl, hfl⟩ : ∃ v, (folS l').2 = v := ⟨_, rfl⟩
          rw [hlb] at x1 hmap
          rw [hfl] at hmap hR1 hof hkk
          have hz4 := encode_size_le (lb : Int)
          have hsz2 : (s ++ Utf8.encode (lb : Int)).size + 4 * f' ≤ 1000 := by rw [ByteArray.size_append]; omega
          have hszm : s.size + (Utf8.encode (lb : Int)).size ≤ 1000 := by omega
          have BE := Lib.hid (below_one wr (.cells #[.int .i32 (lb : Int), .int .i64 (k' : Int)] 67))
          have CE := Lib.hid (IHH.out f' rfl k' fl (s ++ Utf8.encode (lb : Int)) out' Sg S' (wr.alloc (.cells #[.int .i32 (lb : Int), .int .i64 (k' : Int)] 67)) hR1 hof ((gAt_ok g st).below ((gAt_ok g st).turn GH.out hT.out AH.out) BE.out) ((qts_ok B lo most p1 p2 p3 out').below hQ'.out BE.out) (fun q hq hq2 => by
            rcases hS.out q hq2 with h1 | h1
            · exact AH.out q hq h1
            · have := (gAt_ok g st).lt GH.out q hq; omega) (by have := hL.out; omega) hsz2)
          rw [hmap] at CE
          have hV2 := hV.out
          rw [← List.take_append_drop kk l', List.map_append, takeL_app] at hV2
          have hLL := takeL_len lo most ((l'.take kk).map (s ++ ·)) out'
          rw [List.length_map, List.length_take] at hLL
          obtain ⟨RV, hRV⟩ : ∃ v, takeL lo most out' ((l'.take kk).map (s ++ ·)) = v := ⟨_, rfl⟩
          rw [hRV] at hV2 CE hLL
          obtain ⟨ro, rb⟩ := RV
          simp only at hV2 CE hLL
          have V2 := Lib.hid hV2
          have E2 := Lib.hid hE2
          have LL := Lib.hid hLL
          have hTB := Lib.hid (hT.out.trans (Turn.of_below BE.out))
          have hk1 := Lib.hid hf1
          have hk2 := Lib.hid hf2
          have n1 : (0 : Int) ≤ (j : Int) := by omega
          have n2 : (j : Int) < (m : Int) := by omega
          clear hc d0 d1 d2 hr1 hd1 hR1 hE2 hne hRun hmap hkk hof hlb hfl hz4 hsz2 hV2 hLL hRV hf1 hf2
          go_wp2_with fail
          refine CE.out.mono ?_
          rintro e w4 ⟨rfl, S4, q4, s4, t4⟩
          have Q4 := Lib.hid q4
          have S4H := Lib.hid (show ∀ q, S4 q → S q ∨ w.heap.size ≤ q from fun q hq => by
            rcases s4 q hq with h1 | h1
            · exact hS.out q h1
            · have := hT.out.size; have := BE.out.size; exact Or.inr (by omega))
          have T4 := Lib.hid (hTB.out.trans' t4 (fun q hq => hS.out q hq))
          clear q4 s4 t4 CE
          cases rb with
          | true =>
            have V3 := V2.out
            rw [if_pos rfl] at V3
            have V4 := Lib.hid V3
            clear V3 V2
            go_wp2_with fail
            go_roundw
            case rel => exact ⟨j + 1, l'.drop kk, ro, S4, by omega, by go_num, E2, Lib.hid (hO'.out.drop _), Lib.hid (fun t ht => hP.out t (List.mem_of_mem_drop ht)), V4, Lib.hid (by have := LL.out; have := hL.out; have := hk2.out; rw [List.length_drop]; omega), Q4, S4H, T4⟩
            case measure => simp [intOf] <;> omega
          | false =>
            have V3 := V2.out
            rw [if_neg (by simp)] at V3
            subst V3
            go_wp2_with fail
            go_ret
            exact ⟨rfl, S4, Q4.out, S4H.out, T4.out⟩
        · obtain rfl : j = m := by omega
          have hE2 := hE.out
          rw [List.drop_of_length_le (by have := HM.out; omega)] at hE2
          obtain rfl : l' = [] := hE2
          obtain rfl : (out', true) = TV := hV.out
          go_wp2_with fail
          go_ret
          exact ⟨rfl, S', hQ'.out, hS.out, hT.out⟩
    · rw [decide_eq_false hmo] at CT
      rw [if_neg hmo] at hTV3
      subst hTV3
      clear hmo
      go_enter Try.func69, Try.ntmps69
      go_wp2_with fail
      refine CT.out.mono ?_
      rintro e w1 ⟨rfl, hpo⟩
      go_wp2_with fail
      go_ret
      exact ⟨rfl, hpo⟩
theorem each_any (B : Nat) (lo : Tx) (most : Int) (g p1 p2 p3 : Nat) (st : List GN) (ts : List Tx) (G : GOk st ts) : ∀ f, EachAny B lo most g p1 p2 p3 st ts f := by
  intro f
  induction f with
  | zero => exact each_step B lo most g p1 p2 p3 st ts G 0 (fun f' e => by omega)
  | succ f ih => exact each_step B lo most g p1 p2 p3 st ts G (f + 1) (fun f' e => by
      obtain rfl : f = f' := by omega
      exact ih)
end Go.Proofs.Ytlcmndbnknifhaa
/- pack: the words that parts tell, by the document; plain -/
namespace Go.Proofs.Ytlcmndbnknifhaa
open Go.RowKit
set_option linter.unusedVariables false
set_option maxRecDepth 20000
def rwE (rf : Nat → Tx → List Tx → Bool × List Tx) (pre : Tx) : List PE → List Tx → Bool × List Tx
  | [], out => (true, out)
  | e :: es, out =>
    if 1114111 < e.1 then (false, out)
    else if (rf e.2 (pre ++ Utf8.encode (e.1 : Int)) out).1 = false ∨ (rf e.2 (pre ++ Utf8.encode (e.1 : Int)) out).2.length = out.length then (false, (rf e.2 (pre ++ Utf8.encode (e.1 : Int)) out).2)
    else rwE rf pre es (rf e.2 (pre ++ Utf8.encode (e.1 : Int)) out).2
def rwF (L : List PN) : Nat → Nat → Tx → List Tx → Bool × List Tx
  | 0, n, pre, out => (false, out)
  | f + 1, n, pre, out =>
    if L.length ≤ n ∨ 60 < out.length then (false, out)
    else rwE (rwF L f) pre (L.getD n ⟨false, []⟩).es (if (L.getD n ⟨false, []⟩).fin then out ++ [pre] else out)
theorem rwF_go (L : List PN) (f n : Nat) (pre : Tx) (out : List Tx) (h : ¬ (L.length ≤ n ∨ 60 < out.length)) : rwF L (f + 1) n pre out = rwE (rwF L f) pre (L.getD n ⟨false, []⟩).es (if (L.getD n ⟨false, []⟩).fin then out ++ [pre] else out) := by
  conv => lhs; unfold rwF
  rw [if_neg h]
theorem rwF_no (L : List PN) (f n : Nat) (pre : Tx) (out : List Tx) (h : f = 0 ∨ L.length ≤ n ∨ 60 < out.length) : rwF L f n pre out = (false, out) := by
  cases f with
  | zero => rfl
  | succ f =>
    unfold rwF
    rw [if_pos (by rcases h with h | h; · omega
                   · exact h)]
theorem rwE_len {rf : Nat → Tx → List Tx → Bool × List Tx} (h : ∀ n pre out, out.length ≤ 61 → (rf n pre out).2.length ≤ 61) (pre : Tx) : ∀ (es : List PE) (out : List Tx), out.length ≤ 61 → (rwE rf pre es out).2.length ≤ 61
  | [], out, ho => ho
  | e :: es, out, ho => by
    unfold rwE
    split
    · exact ho
    · split
      · exact h _ _ _ ho
      · exact rwE_len h pre es _ (h _ _ _ ho)
theorem rwF_len (L : List PN) : ∀ (f n : Nat) (pre : Tx) (out : List Tx), out.length ≤ 61 → (rwF L f n pre out).2.length ≤ 61
  | 0, n, pre, out, ho => ho
  | f + 1, n, pre, out, ho => by
    unfold rwF
    split
    · exact ho
    · rename_i h
      refine rwE_len (rwF_len L f) pre _ _ ?_
      split
      · rw [List.length_append, List.length_singleton]; omega
      · exact ho
theorem encR_size (x : Int) : (Utf8.encode x).size ≤ 4 := by
  unfold Utf8.encode
  split
  all_goals
    dsimp only
    repeat' split
    all_goals (first | decide | (simp [ByteArray.size]; done))
theorem rwE_size {rf : Nat → Tx → List Tx → Bool × List Tx} {f : Nat} (h : ∀ n pre out, ∀ t ∈ (rf n pre out).2, t ∈ out ∨ t.size ≤ pre.size + 4 * f) (pre : Tx) : ∀ (es : List PE) (out : List Tx), ∀ t ∈ (rwE rf pre es out).2, t ∈ out ∨ t.size ≤ pre.size + 4 + 4 * f
  | [], out => fun t ht => Or.inl ht
  | e :: es, out => fun t ht => by
    have hs : (pre ++ Utf8.encode (e.1 : Int)).size ≤ pre.size + 4 := by rw [ByteArray.size_append]; have := encR_size (e.1 : Int); omega
    have hh := h e.2 (pre ++ Utf8.encode (e.1 : Int)) out
    unfold rwE at ht
    split at ht
    · exact Or.inl ht
    · split at ht
      · rcases hh t ht with h1 | h1
        · exact Or.inl h1
        · exact Or.inr (by omega)
      · rcases rwE_size h pre es _ t ht with h1 | h1
        · rcases hh t h1 with h1 | h1
          · exact Or.inl h1
          · exact Or.inr (by omega)
        · exact Or.inr h1
theorem rwF_size (L : List PN) : ∀ (f n : Nat) (pre : Tx) (out : List Tx), ∀ t ∈ (rwF L f n pre out).2, t ∈ out ∨ t.size ≤ pre.size + 4 * f
  | 0, n, pre, out => fun t ht => Or.inl ht
  | f + 1, n, pre, out => fun t ht => by
    unfold rwF at ht
    split at ht
    · exact Or.inl ht
    · rcases rwE_size (rwF_size L f) pre _ _ t ht with h1 | h1
      · split at h1
        · rcases List.mem_append.1 h1 with h1 | h1
          · exact Or.inl h1
          · rw [List.mem_singleton] at h1; subst h1; exact Or.inr (by omega)
        · exact Or.inl h1
      · exact Or.inr (by omega)
theorem edP_nat {e : EdP} {x k : Nat} (h1 : e.r = (x : Int)) (hx : x ≤ 1114111) (h2 : e.dst = (k : Int)) (hk : k < 65536) : edP e = (x, k) := by
  unfold edP
  rw [h1, h2, bitsV_nat9 x (by omega), bitsV_nat9 k (by omega), Nat.mod_eq_of_lt (show x < 4294967296 by omega), Nat.mod_eq_of_lt hk]
def RwAll (L : List PN) (R : List (List Tx)) (f : Nat) : Prop := ∀ (F k : Nat) (l : List Tx) (pre : Tx) (out : List Tx), f ≤ F → R[k]? = some l → OkL f l → out.length + l.length ≤ 60 → rwF L (F + 1) k pre out = (true, out ++ onto pre l)
theorem rwE_img {L : List PN} {R : List (List Tx)} {f F : Nat} (IH : RwAll L R f) (hF : f ≤ F) (hR : R.length ≤ 65536) (pre : Tx) : ∀ (es : List EdP) (m : List Tx) (out : List Tx), EdOk R m es → Run m → OkL (f + 1) m → out.length + m.length ≤ 60 → rwE (rwF L (F + 1)) pre (es.map edP) out = (true, out ++ onto pre m)
  | [], m, out, h, _, _, _ => by
    obtain rfl : m = [] := h
    simp [rwE, onto]
  | e :: es, m, out, h, hm, ho, hw => by
    obtain ⟨h0, h1, ⟨k, h2, h3⟩, h4⟩ := h
    obtain ⟨g1, g2⟩ := fol_lab9 hm h0
    have hk := (List.getElem?_eq_some_iff.1 h3).1
    have hx := edP_nat h1 g2 h2 (by omega)
    obtain ⟨l1, l2⟩ := fol_len m h0
    have e1 := IH F k (folS m).2 (pre ++ Utf8.encode ((folS m).1 : Int)) out hF h3 (ho.fol hm.pos) (by omega)
    have e3 : onto (pre ++ Utf8.encode ((folS m).1 : Int)) (folS m).2 = onto pre (m.take (folS m).2.length) := fol_map hm h0 pre
    rw [e3] at e1
    have ll : (onto pre (m.take (folS m).2.length)).length = (folS m).2.length := by unfold onto; rw [List.length_map, List.length_take]; omega
    have e2 := rwE_img IH hF hR pre es (m.drop (folS m).2.length) (out ++ onto pre (m.take (folS m).2.length)) h4 (hm.drop _) (ho.drop _) (by rw [List.length_append, ll, List.length_drop]; omega)
    rw [List.map_cons, hx]
    unfold rwE
    simp only
    rw [if_neg (by omega), e1]
    simp only
    rw [if_neg (by
      rw [List.length_append, ll]
      intro h
      rcases h with h | h
      · cases h
      · omega), e2, List.append_assoc]
    unfold onto
    rw [← List.map_append, List.take_append_drop]
theorem node_at9 {st : List GN} {ts : List Tx} (G : GOk st ts) {k : Nat} {l : List Tx} (hR : (restsG st)[k]? = some l) : k < st.length ∧ (st.map pnG).getD k ⟨false, []⟩ = ⟨finS l, (st.getD k gn0).edges.map edP⟩ ∧ EdOk (restsG st) (bodS l) (st.getD k gn0).edges := by
  obtain ⟨hk, hr, hN⟩ := G.node hR
  refine ⟨hk, ?_, by have := hN.ed; rw [hr] at this; exact this⟩
  rw [List.getD_eq_getElem?_getD, List.getElem?_map, List.getElem?_eq_getElem hk]
  have e : st[k] = st.getD k gn0 := by rw [List.getD_eq_getElem?_getD, List.getElem?_eq_getElem hk]; rfl
  rw [Option.map_some, Option.getD_some, e]
  unfold pnG
  rw [hN.fin, hr]
theorem fin_len (l : List Tx) (pre : Tx) (ws : List Tx) : (if finS l then ws ++ [pre] else ws).length + (bodS l).length = ws.length + l.length := by
  have h := congrArg List.length (fin_split l pre ws)
  rw [List.length_append, List.length_append] at h
  unfold onto at h
  rw [List.length_map, List.length_map] at h
  exact h
theorem rw_img {st : List GN} {ts : List Tx} (G : GOk st ts) (hl : st.length ≤ 65536) : ∀ f, RwAll (st.map pnG) (restsG st) f := by
  intro f
  induction f with
  | zero =>
    intro F k l pre out hF hR hO hw
    obtain ⟨hk, hg, he⟩ := node_at9 G hR
    have hb := bod_none hO
    rw [hb] at he
    have hes : (st.getD k gn0).edges = [] := by
      cases h : (st.getD k gn0).edges with
      | nil => rfl
      | cons e es => rw [h] at he; exact absurd rfl he.1
    rw [rwF_go _ _ _ _ _ (by rw [List.length_map]; omega), hg, hes]
    have := fin_split l pre out
    rw [hb] at this
    simp only [List.map_nil, rwE]
    rw [← this]
    simp [onto]
  | succ f IH =>
    intro F k l pre out hF hR hO hw
    obtain ⟨F', rfl⟩ : ∃ F', F = F' + 1 := ⟨F - 1, by omega⟩
    obtain ⟨hk, hg, he⟩ := node_at9 G hR
    have e := rwE_img (F := F') IH (by omega) (by unfold restsG; rw [List.length_map]; exact hl) pre (st.getD k gn0).edges (bodS l) (if finS l then out ++ [pre] else out) he hO.run hO.bod (by rw [fin_len]; exact hw)
    rw [rwF_go _ _ _ _ _ (by rw [List.length_map]; omega), hg]
    simp only
    rw [e, fin_split]
/-- what the document's Decode tells of any bytes -/
def rdcS (bs : List Nat) : Option (List Tx) :=
  if openB bs then
    match (if okR bs.length 4 2 false then rdL bs bs.length (numR bs bs.length 4 2 false) 6 else none) with
    | some (L, _) => if (rwF L 13 0 ⟨#[]⟩ []).1 ∧ goodV (rwF L 13 0 ⟨#[]⟩ []).2 = 0 ∧ imgB (grS (rwF L 13 0 ⟨#[]⟩ []).2) = bs then some (rwF L 13 0 ⟨#[]⟩ []).2 else none
    | none => none
  else none
theorem rdcS_some {bs : List Nat} {ts : List Tx} (h : rdcS bs = some ts) : goodV ts = 0 ∧ imgB (grS ts) = bs := by
  unfold rdcS at h
  split at h
  · split at h
    · split at h
      · rename_i hx
        injection h with h
        subst h
        exact ⟨hx.2.1, hx.2.2⟩
      · cases h
    · cases h
  · cases h
theorem rdcS_img {ts : List Tx} (h : goodV ts = 0) : rdcS (imgB (grS ts)) = some ts := by
  have hs : ∀ t ∈ ts, t.size ≤ 100 := fun t ht => by have := good_sizes h t ht; omega
  obtain ⟨h1, h2⟩ := grS_edges h
  have G := grS_ok h hs
  have hO := ok_good h hs
  obtain ⟨I, hI⟩ : ∃ I, imgB (grS ts) = I := ⟨_, rfl⟩
  have e : I.drop 4 = Cod.bytesOf (grS ts).length 2 ++ ((grS ts).flatMap ndB ++ Cod.bytesOf (Crc.sum (bodyB (grS ts))) 4) := by
    rw [← hI]; unfold imgB sealB
    generalize Cod.bytesOf (Crc.sum (bodyB (grS ts))) 4 = s
    unfold bodyB
    simp
  obtain ⟨o1, n1, -, d1⟩ := rd_at (by decide) e
  rw [Nat.mod_eq_of_lt (show (grS ts).length < 256 ^ 2 by omega)] at n1
  obtain ⟨r1, r2⟩ := rdL_img (grS ts) _ _ (fun x hx => by have := h2 x hx; omega) d1
  have hw := rw_img G (by omega) 12 12 0 ts ⟨#[]⟩ [] (by omega) G.root hO (by have := (goodV_zero h).1; simpa using this)
  rw [List.nil_append, onto_empty] at hw
  have ho := openB_img (grS ts)
  rw [hI] at ho ⊢
  unfold rdcS
  rw [ho, if_pos rfl, o1, if_pos rfl, n1, r1]
  simp only
  rw [hw, if_pos ⟨rfl, h, hI⟩]
/-- the program's Decode and the document's tell the same -/
theorem dec_same (bs : List Nat) : decS bs = rdcS bs := by
  cases h1 : decS bs with
  | some ts =>
    obtain ⟨a1, a2⟩ := decS_some h1
    rw [← a2, rdcS_img a1]
  | none =>
    cases h2 : rdcS bs with
    | none => rfl
    | some ts =>
      obtain ⟨a1, a2⟩ := rdcS_some h2
      rw [← a2, decS_img a1] at h1
      cases h1
end Go.Proofs.Ytlcmndbnknifhaa
/- pack: words, by the document -/
namespace Go.Proofs.Ytlcmndbnknifhaa
open Go.RowKit
set_option linter.unusedVariables false
set_option maxRecDepth 20000
theorem PQ9.at {NL : List PM} {na : Option Addr} {nc B : Nat} {w : World} (h : PQ9 B NL na nc w) {i : Nat} (hi : i < NL.length) : ∃ q, na = some ⟨q, 0, none⟩ ∧ w.cell? ⟨q, i * 2, none⟩ = some (.bool (NL.getD i pm0).fin) ∧ w.cell? ⟨q, i * 2 + 1, none⟩ = some (.slice (NL.getD i pm0).ea (NL.getD i pm0).es.length (NL.getD i pm0).ec) := by
  obtain ⟨q, cap', hv⟩ := Joins.ownsRow_form h.o (by omega)
  simp only [Value.slice.injEq] at hv
  obtain ⟨hv, -, -⟩ := hv
  subst hv
  obtain ⟨v0, v1⟩ := pmV_at NL i hi
  exact ⟨q, rfl, (h.o.cellAt (i * 2) (by omega)).trans v0, (h.o.cellAt (i * 2 + 1) (by omega)).trans v1⟩
theorem pq_at {w : World} {B c : Nat} {a : Option Addr} {es : List PE} (h : w.ownsRow B 83 2 (.slice a es.length c) es.length (peV es)) {i : Nat} (hi : i < es.length) : ∃ q, a = some ⟨q, 0, none⟩ ∧ w.cell? ⟨q, i * 2, none⟩ = some (.int .i64 ((es.getD i (0, 0)).1 : Int)) ∧ w.cell? ⟨q, i * 2 + 1, none⟩ = some (.int .i64 ((es.getD i (0, 0)).2 : Int)) := by
  obtain ⟨q, cap', hv⟩ := Joins.ownsRow_form h (by omega)
  simp only [Value.slice.injEq] at hv
  obtain ⟨hv, -, -⟩ := hv
  subst hv
  obtain ⟨v0, v1⟩ := peV_at es i hi
  exact ⟨q, rfl, (h.cellAt (i * 2) (by omega)).trans v0, (h.cellAt (i * 2 + 1) (by omega)).trans v1⟩
def WdsP (w0 : World) (r : Bool × List Tx) (e : Ending) (w' : World) : Prop := ∃ a c, e = .returned (.tuple #[.slice a r.2.length c, .bool r.1]) ∧ w'.ownsRow w0.heap.size 9 1 (.slice a r.2.length c) r.2.length (strsV r.2) ∧ Below w0.heap.size w0 w'
def WdsAny (w0 : World) (NL : List PM) (na : Option Addr) (nc f : Nat) : Prop := ∀ (n d : Nat) (pre : Tx) (out : List Tx) (oa : Option Addr) (oc : Nat) (w : World), d + f = 13 → Below w0.heap.size w0 w → w.ownsRow w0.heap.size 9 1 (.slice oa out.length oc) out.length (strsV out) → out.length ≤ 61 → pre.size + 4 * f ≤ 1000 → n ≤ 1000000 →
    Calls Try.prog 42 #[.slice na NL.length nc, .int .i64 (n : Int), .int .i64 (d : Int), .string pre, .slice oa out.length oc] w (WdsP w0 (rwF (NL.map pmP) f n pre out))
set_option maxHeartbeats 6400000 in
set_option maxRecDepth 100000 in
theorem wds_step (w0 : World) (NL : List PM) (na : Option Addr) (nc f : Nat) (hP : PQ9 0 NL na nc w0) (hG : ∀ x ∈ NL, GoodE x.es ∧ x.es.length ≤ 65535) (hlen : NL.length ≤ 70000) (IH : ∀ f', f = f' + 1 → WdsAny w0 NL na nc f') : WdsAny w0 NL na nc f := by
  intro n d pre out oa oc w hd hB0 hO0 hout hpre hn
  obtain ⟨i0, hi, hz0, hz1, hz2⟩ := info_parts strL_info
  have HB := Lib.hid hB0
  have HO := Lib.hid hO0
  have HP := Lib.hid hP
  obtain ⟨N, hN⟩ : ∃ N, NL.length = N := ⟨_, rfl⟩
  have HN := Lib.hid hN
  rw [hN] at hlen
  have d0 : decide ((n : Int) < 0) = false := decide_eq_false (by omega)
  have REF := Lib.hid (show f = 0 ∨ N ≤ n ∨ 60 < out.length → rwF (NL.map pmP) f n pre out = (false, out) from fun h => rwF_no _ _ _ _ _ (by rw [List.length_map, hN]; exact h))
  obtain ⟨o, ho⟩ : ∃ o, out.length = o := ⟨_, rfl⟩
  rw [ho] at hout REF
  have NO : ∀ (_ : rwF (NL.map pmP) f n pre out = (false, out)) (w' : World) (_ : w' = w), WdsP w0 (rwF (NL.map pmP) f n pre out) (.returned (.tuple #[.slice oa o oc, .bool false])) w' := fun h w' e => by
    rw [h, e]
    exact ⟨oa, oc, by rw [ho], HO.out, HB.out⟩
  have NOH := Lib.hid NO
  have HOL := Lib.hid ho
  rw [hN, ho]
  clear hB0 hO0 hP hN NO ho
  by_cases g1 : N ≤ n
  · have FIN := Lib.hid (NOH.out (REF.out (Or.inr (Or.inl g1))) w rfl)
    have d1 : decide ((n : Int) ≥ (N : Int)) = true := decide_eq_true (by omega)
    have d2 : decide (N ≤ n) = true := decide_eq_true g1
    clear g1
    go_enter Try.func42, Try.ntmps42
    go_wp2_with fail
    go_ret2
    exact FIN.out
  have d1 : decide ((n : Int) ≥ (N : Int)) = false := decide_eq_false (by omega)
  have d2 : decide (N ≤ n) = false := decide_eq_false g1
  by_cases g2 : f = 0
  · have FIN := Lib.hid (NOH.out (REF.out (Or.inl g2)) w rfl)
    have d3 : decide ((12 : Int) < (d : Int)) = true := decide_eq_true (by omega)
    have HF := Lib.hid g2
    clear g1 g2
    go_enter Try.func42, Try.ntmps42
    go_wp2_with fail
    go_ret2
    exact FIN.out
  have d3 : decide ((12 : Int) < (d : Int)) = false := decide_eq_false (by omega)
  by_cases g3 : 60 < o
  · have FIN := Lib.hid (NOH.out (REF.out (Or.inr (Or.inr g3))) w rfl)
    have d4 : decide ((60 : Int) < (o : Int)) = true := decide_eq_true (by omega)
    clear g1 g2 g3
    go_enter Try.func42, Try.ntmps42
    go_wp2_with fail
    go_ret2
    exact FIN.out
  have d4 : decide ((60 : Int) < (o : Int)) = false := decide_eq_false (by omega)
  obtain ⟨f', hf'⟩ : ∃ f', f = f' + 1 := ⟨f - 1, by omega⟩
  have IF := Lib.hid (IH f' hf')
  obtain ⟨x, hx⟩ : ∃ x, NL.getD n pm0 = x := ⟨_, rfl⟩
  have hmem : x ∈ NL := by
    have := HN.out
    rw [← hx, List.getD_eq_getElem?_getD, List.getElem?_eq_getElem (show n < NL.length by omega)]
    exact List.getElem_mem _
  obtain ⟨GX, hml⟩ := hG x hmem
  have GX := Lib.hid GX
  obtain ⟨R, hR⟩ : ∃ R, rwF (NL.map pmP) f n pre out = R := ⟨_, rfl⟩
  have HR := Lib.hid (show rwE (rwF (NL.map pmP) f') pre x.es (if x.fin then out ++ [pre] else out) = R from by
    have h2 : (NL.map pmP).getD n ⟨false, []⟩ = pmP x := by
      rw [← hx, List.getD_eq_getElem?_getD, List.getD_eq_getElem?_getD, List.getElem?_map, List.getElem?_eq_getElem (show n < NL.length by rw [HN.out]; omega)]; rfl
    rw [← hR, hf', rwF_go _ _ _ _ _ (by rw [List.length_map, HN.out, HOL.out]; omega), h2]; rfl)
  rw [hR]
  obtain ⟨q, hq, p0, p1⟩ := HP.out.at (show n < NL.length by rw [HN.out]; omega)
  subst hq
  rw [hx] at p0 p1
  obtain ⟨fin, hfin⟩ : ∃ b, x.fin = b := ⟨_, rfl⟩
  obtain ⟨m, hm⟩ : ∃ m, x.es.length = m := ⟨_, rfl⟩
  rw [hfin] at p0 HR
  rw [hm] at p1 hml
  have HM := Lib.hid hm
  obtain ⟨ea, hea⟩ : ∃ v, x.ea = v := ⟨_, rfl⟩
  have HEA := Lib.hid hea
  rw [hea] at p1
  have PE := Lib.hid (HP.out.e x hmem)
  have P1 := Lib.hid p1
  have y0 := (HB.out.cell (p := ⟨q, n * 2, none⟩) (lt_of_cell p0)).trans p0
  have HFK := Lib.hid hf'
  have n1 : (0 : Int) ≤ (n : Int) := by omega
  have n2 : (n : Int) < (N : Int) := by omega
  have hn1 : ((d : Int) + 1) = ((d + 1 : Nat) : Int) := by omega
  have HDN := Lib.hid hn1
  clear REF IH hf' hx hmem hR hm hfin hea g1 g2 p0 p1 HP hG hn1
  go_enter Try.func42, Try.ntmps42
  go_upto_if 39 with fail
  cases fin
  case' true =>
    go_upto_region 5 with (at_builtin; refine wpList_append_any rfl (.tmp 40) (.tmp 42) 22 rfl w0.heap.size 9 i0 _ 1 16 Try.underlying22 hi hz0 hz1 hz2 rfl (by decide) _ o (strsV out) rfl ((HOL.out ▸ HO.out).alloc _) _ 1 1 _ rfl (some_none _) rfl (one_new _ _ _ _) (by simp [Value.oneCell']) (by unfold maxLen; omega) (by omega) (by have := HB.out.size; simp; omega) ?_; intro a3 c3 w3 hown3 hb3 hnil3)
    obtain ⟨out1, ho1⟩ : ∃ v, out ++ [pre] = v := ⟨_, rfl⟩
    have HL1 := Lib.hid (show out1.length = o + 1 from by rw [← ho1, List.length_append, HOL.out]; rfl)
    have O1 := Lib.hid (show w3.ownsRow w0.heap.size 9 1 (.slice a3 (o + 1) c3) (o + 1) (strsV out1) from by rw [← ho1, show strsV (out ++ [pre]) = strsV out ++ [.string pre] by simp [strsV]]; exact hown3)
    have B1 := Lib.hid (show Below w0.heap.size w0 w3 from (HB.out.trans ((below_one w _).mono HB.out.size)).trans hb3)
    have HR1 := Lib.hid (show rwE (rwF (NL.map pmP) f') pre x.es out1 = R from by rw [← ho1, ← HR.out]; rfl)
    have o61 : o + 1 ≤ 61 := by omega
    clear hown3 hb3 hnil3 ho1
  case' false =>
    go_upto_region 5 with fail
    obtain ⟨out1, ho1⟩ : ∃ v, out = v := ⟨_, rfl⟩
    have HL1 := Lib.hid (show out1.length = o from by rw [← ho1, HOL.out])
    have O1 := Lib.hid (show w.ownsRow w0.heap.size 9 1 (.slice oa o oc) o (strsV out1) from by rw [← ho1]; exact HOL.out ▸ HO.out)
    have B1 := Lib.hid (show Below w0.heap.size w0 w from HB.out)
    have HR1 := Lib.hid (show rwE (rwF (NL.map pmP) f') pre x.es out1 = R from by rw [← ho1, ← HR.out]; rfl)
    have o61 : o ≤ 61 := hout
    clear ho1
  all_goals
    clear HR y0 HO HB NOH
    go_wp2_with fail
    go_loopw [4, 12] (fun ov iv wr => ∃ (j o2 : Nat) (out2 : List Tx) (oa2 : Option Addr) (oc2 : Nat), j ≤ m ∧ ov = .slice oa2 o2 oc2 ∧ iv = .int .i64 j ∧ o2 ≤ 61 ∧ Hid (out2.length = o2) ∧ Hid (rwE (rwF (NL.map pmP) f') pre (x.es.drop j) out2 = R) ∧ Hid (wr.ownsRow w0.heap.size 9 1 (.slice oa2 o2 oc2) o2 (strsV out2)) ∧ Hid (Below w0.heap.size w0 wr)) (fun _ iv _ => m - (intOf iv).toNat)
    case atStart => exact ⟨0, _, out1, _, _, by omega, rfl, rfl, o61, HL1, Lib.hid (by rw [List.drop_zero]; exact HR1.out), O1, B1⟩
    case round =>
      clear HL1 O1 B1 HR1 o61
      obtain ⟨j, o2, out2, oa2, oc2, hj, rfl, rfl, ho2, hL, hE, hO, hB⟩ := hrel
      have y1 := (hB.out.cell (p := ⟨q, n * 2 + 1, none⟩) (lt_of_cell P1.out)).trans P1.out
      by_cases hlt : j < m
      · obtain ⟨q2, hq2, v0, v1⟩ := pq_at PE.out (i := j) (by rw [HM.out]; exact hlt)
        rw [HEA.out] at hq2
        subst hq2
        obtain ⟨⟨z1, z2⟩, hy⟩ : ∃ y, x.es.getD j (0, 0) = y := ⟨_, rfl⟩
        rw [hy] at v0 v1
        simp only at v0 v1
        have x0 := (hB.out.cell (p := ⟨q2, j * 2, none⟩) (lt_of_cell v0)).trans v0
        have x1 := (hB.out.cell (p := ⟨q2, j * 2 + 1, none⟩) (lt_of_cell v1)).trans v1
        have DJ := Lib.hid (show x.es.drop j = (z1, z2) :: x.es.drop (j + 1) from by
          rw [List.drop_eq_getElem_cons (show j < x.es.length by rw [HM.out]; exact hlt), ← hy, List.getD_eq_getElem?_getD, List.getElem?_eq_getElem (show j < x.es.length by rw [HM.out]; exact hlt)]; rfl)
        have hy12 := GX.out (z1, z2) (by
          have hjx : j < x.es.length := by rw [HM.out]; exact hlt
          rw [← hy, List.getD_eq_getElem?_getD, List.getElem?_eq_getElem hjx]; exact List.getElem_mem _)
        simp only at hy12
        obtain ⟨yb1, yb2⟩ := hy12
        have n3 : (0 : Int) ≤ (j : Int) := by omega
        have n4 : (j : Int) < (m : Int) := by omega
        clear hy v0 v1
        by_cases hg : 1114111 < z1
        · have NX := Lib.hid (show (false, out2) = R from by
            rw [← hE.out, DJ.out]
            simp only [rwE, if_pos hg])
          have d5 : decide ((1114111 : Int) < (z1 : Int)) = true := decide_eq_true (by omega)
          clear hg
          go_wp2_with fail
          go_ret2
          rw [← NX.out]
          exact ⟨oa2, oc2, (by rw [hL.out]; first | done | rfl), by rw [hL.out]; exact hO.out, hB.out⟩
        · have d5 : decide ((1114111 : Int) < (z1 : Int)) = false := decide_eq_false (by omega)
          obtain ⟨R', hR'⟩ : ∃ r, rwF (NL.map pmP) f' z2 (pre ++ Utf8.encode (z1 : Int)) out2 = r := ⟨_, rfl⟩
          have NX := Lib.hid (show (if R'.1 = false ∨ R'.2.length = o2 then (false, R'.2) else rwE (rwF (NL.map pmP) f') pre (x.es.drop (j + 1)) R'.2) = R from by
            rw [← hE.out, DJ.out, ← hR', ← hL.out]
            simp only [rwE, if_neg hg])
          have hsz := encR_size (z1 : Int)
          have l61 : R'.2.length ≤ 61 := by rw [← hR']; exact rwF_len _ _ _ _ _ (by rw [hL.out]; exact ho2)
          have CI := Lib.hid (IF.out z2 (d + 1) (pre ++ Utf8.encode (z1 : Int)) out2 oa2 oc2 wr (by have := HFK.out; omega) hB.out (hL.out.symm ▸ hO.out) (by rw [hL.out]; exact ho2) (by rw [ByteArray.size_append]; have := HFK.out; omega) (by omega))
          rw [hR', hL.out, HN.out, ← HDN.out] at CI
          obtain ⟨ok, out3⟩ := R'
          have w32 : wrap32 (z1 : Int) = (z1 : Int) := by unfold wrap32; omega
          simp only at l61
          obtain ⟨o3, ho3⟩ : ∃ v, out3.length = v := ⟨_, rfl⟩
          rw [ho3] at l61
          have H3 := Lib.hid ho3
          obtain ⟨zi, hzi⟩ : ∃ zi : Int, (z1 : Int) = zi := ⟨_, rfl⟩
          rw [hzi] at x0 d5 w32 CI hsz
          have hszm : pre.size + (Utf8.encode zi).size ≤ 1000 := by have := HFK.out; omega
          clear hg hR' hsz hO hE hB yb1 yb2 hzi
          go_wp2_with fail
          with_reducible refine CI.out.mono ?_
          rintro e w4 ⟨a4, c4, rfl, o4, b4⟩
          have O4 := Lib.hid (show w4.ownsRow w0.heap.size 9 1 (.slice a4 o3 c4) o3 (strsV out3) from ho3 ▸ o4)
          have B4 := Lib.hid b4
          simp only [ho3]
          clear o4 b4 CI ho3 y1 x0 x1
          cases ok with
          | false =>
            have NX2 := Lib.hid (show (false, out3) = R from NX.out)
            go_wp2_with fail
            go_ret2
            rw [← NX2.out]
            exact ⟨a4, c4, (by rw [H3.out]; first | done | rfl), by rw [H3.out]; exact O4.out, B4.out⟩
          | true =>
            by_cases he : o3 = o2
            · have NX2 := Lib.hid (show (false, out3) = R from by rw [← NX.out, if_pos (Or.inr (by rw [H3.out]; exact he))])
              have e5 : ((o3 : Int) == (o2 : Int)) = true := by rw [beq_iff_eq]; omega
              clear he
              go_wp2_with fail
              go_ret2
              rw [← NX2.out]
              exact ⟨a4, c4, (by rw [H3.out]; first | done | rfl), by rw [H3.out]; exact O4.out, B4.out⟩
            · have NX2 := Lib.hid (show rwE (rwF (NL.map pmP) f') pre (x.es.drop (j + 1)) out3 = R from by
                rw [← NX.out, if_neg (by
                  intro h
                  rcases h with h | h
                  · cases h
                  · exact he (by rw [← h, H3.out]))])
              have e5 : ((o3 : Int) == (o2 : Int)) = false := by rw [beq_eq_false_iff_ne]; omega
              clear he
              go_wp2_with fail
              go_roundw
              case rel => exact ⟨j + 1, o3, out3, a4, c4, by omega, rfl, by go_num, l61, H3, NX2, O4, B4⟩
              case measure => simp [intOf] <;> omega
      · obtain rfl : j = m := by omega
        have ED := Lib.hid (show (true, out2) = R from by
          rw [← hE.out, show x.es.drop j = [] from List.drop_of_length_le (by rw [HM.out]; exact Nat.le_refl _)]; rfl)
        go_wp2_with fail
        go_ret2
        rw [← ED.out]
        exact ⟨oa2, oc2, (by rw [hL.out]; first | done | rfl), by rw [hL.out]; exact hO.out, hB.out⟩
end Go.Proofs.Ytlcmndbnknifhaa
/- pack: the document's Decode, what its loops read; plain -/
namespace Go.Proofs.Ytlcmndbnknifhaa
open Go.RowKit
set_option linter.unusedVariables false
set_option maxRecDepth 20000
theorem okR_q (n at_ s : Nat) : okR n at_ s false = decide (at_ + s ≤ n) := by unfold okR; simp
theorem numR_q (bs : List Nat) (n at_ s : Nat) : numR bs n at_ s false = numQ bs n at_ s := by
  unfold numR numQ
  rw [okR_q]
  by_cases h : at_ + s ≤ n <;> simp [h]
theorem atR_q (n at_ s : Nat) : atR n at_ s false = atQ n at_ s := by
  unfold atR atQ
  rw [okR_q]
  by_cases h : at_ + s ≤ n <;> simp [h]
theorem rdE_q (bs : List Nat) (n k at_ l t a4 a5 : Nat) (b4 b5 : Bool) (hl : numQ bs n at_ 4 = l) (h4 : atQ n at_ 4 = a4) (hb4 : (false || !decide (at_ + 4 ≤ n)) = b4) (ht : numQ bs n a4 2 = t) (h5 : atQ n a4 2 = a5) (hb5 : (b4 || !decide (a4 + 2 ≤ n)) = b5) :
    (b5 = false → rdE bs n (k + 1) at_ false = ((l, t) :: (rdE bs n k a5 false).1, (rdE bs n k a5 false).2)) ∧ (b5 = true → (rdE bs n (k + 1) at_ false).2.2 = true) := by
  rw [rdE_succ]
  simp only [numR_q, atR_q, okR_q, hl, h4]
  cases b4 with
  | false =>
    have h1 : (!decide (at_ + 4 ≤ n)) = false := by simpa using hb4
    rw [h1]
    simp only [numR_q, atR_q, okR_q, ht, h5]
    have h2 : (!decide (a4 + 2 ≤ n)) = b5 := by simpa using hb5
    rw [h2]
    cases b5 <;> simp
  | true =>
    have h1 : (!decide (at_ + 4 ≤ n)) = true := by simpa using hb4
    rw [h1]
    have h2 : b5 = true := by rw [← hb5]; rfl
    subst h2
    refine ⟨fun h => (by cases h), fun _ => ?_⟩
    rw [show okR n a4 2 true = false from rfl]
    simp
theorem rdN_q (bs : List Nat) (n at_ v1 a1 v2 a2 : Nat) (b1 b2 : Bool) (hat : at_ ≤ n) (h1 : numQ bs n at_ 1 = v1) (h2 : atQ n at_ 1 = a1) (h3 : (false || !decide (at_ + 1 ≤ n)) = b1) (h4 : numQ bs n a1 2 = v2) (h5 : atQ n a1 2 = a2) (h6 : (b1 || !decide (a1 + 2 ≤ n)) = b2) :
    rdN bs n at_ false = (⟨decide (v1 = 1), (rdE bs n v2 a2 b2).1⟩, (rdE bs n v2 a2 b2).2) ∧ (b2 = true → v2 = 0) := by
  have e3 : (!okR n at_ 1 false) = b1 := by rw [okR_q]; simpa using h3
  have key : numR bs n a1 2 b1 = v2 ∧ atR n a1 2 b1 = a2 ∧ (!okR n a1 2 b1) = b2 ∧ (b2 = true → v2 = 0) := by
    cases b1 with
    | false =>
      rw [numR_q, atR_q, okR_q]
      refine ⟨h4, h5, by simpa using h6, fun hb => ?_⟩
      subst hb
      have h7 : ¬ (a1 + 2 ≤ n) := by simpa using h6
      rw [← h4]; unfold numQ; rw [if_neg h7]
    | true =>
      have h7 : ¬ (at_ + 1 ≤ n) := by simpa using h3
      have h8 : a1 = at_ := by rw [← h2]; unfold atQ; rw [if_neg h7]
      have h9 : ¬ (a1 + 2 ≤ n) := by omega
      have e4 : v2 = 0 := by rw [← h4]; unfold numQ; rw [if_neg h9]
      have e5 : a2 = a1 := by rw [← h5]; unfold atQ; rw [if_neg h9]
      have e6 : b2 = true := by rw [← h6]; rfl
      rw [e4, e5, e6]
      exact ⟨rfl, rfl, rfl, fun _ => rfl⟩
  obtain ⟨k1, k2, k3, k4⟩ := key
  refine ⟨?_, k4⟩
  unfold rdN
  simp only [numR_q bs n at_ 1, atR_q n at_ 1, e3, h1, h2, k1, k2, k3]
theorem wds_any (w0 : World) (NL : List PM) (na : Option Addr) (nc : Nat) (hP : PQ9 0 NL na nc w0) (hG : ∀ x ∈ NL, GoodE x.es ∧ x.es.length ≤ 65535) (hlen : NL.length ≤ 70000) : ∀ f, WdsAny w0 NL na nc f := by
  intro f
  induction f with
  | zero => exact wds_step w0 NL na nc 0 hP hG hlen (fun f' h => by omega)
  | succ f ih => exact wds_step w0 NL na nc (f + 1) hP hG hlen (fun f' h => by obtain rfl : f = f' := by omega
                                                                               exact ih)
theorem PQ9.less {B B' : Nat} {NL : List PM} {na : Option Addr} {nc : Nat} {w : World} (h : PQ9 B NL na nc w) (hB : B' ≤ B) : PQ9 B' NL na nc w := ⟨base_less9 h.o hB, fun x hx => base_less9 (h.e x hx) hB, h.ne⟩
def RdcP (w : World) (bs : List Nat) (e : Ending) (w' : World) : Prop := Below w.heap.size w w' ∧ match rdcS bs with
  | some ts => ∃ a c, e = .returned (.tuple #[.slice a ts.length c, .int .i64 0]) ∧ w'.ownsRow w.heap.size 9 1 (.slice a ts.length c) ts.length (strsV ts)
  | none => e = .returned (.tuple #[.slice none 0 0, .int .i64 (if openB bs then 8 else 9)])
theorem rdcP_bad {w w' : World} {bs : List Nat} (hb : Below w.heap.size w w') (ho : openB bs = true) (hd : rdcS bs = none) : RdcP w bs (.returned (.tuple #[.slice none 0 0, .int .i64 8])) w' := by
  refine ⟨hb, ?_⟩
  rw [hd, ho]
  rfl
/-- behind the reading: what the document's Decode goes on with -/
def BehP (bs : List Nat) (L : List PN) : Prop := rdcS bs = if (rwF L 13 0 ⟨#[]⟩ []).1 ∧ goodV (rwF L 13 0 ⟨#[]⟩ []).2 = 0 ∧ imgB (grS (rwF L 13 0 ⟨#[]⟩ []).2) = bs then some (rwF L 13 0 ⟨#[]⟩ []).2 else none
theorem beh_ok {bs : List Nat} {L : List PN} {k : Nat} (ho : openB bs = true) (h1 : decide (4 + 2 ≤ bs.length) = true) (h2 : rdL bs bs.length (numQ bs bs.length 4 2) 6 = some (L, k)) : BehP bs L := by
  unfold BehP rdcS
  rw [ho, if_pos rfl, okR_q, h1, if_pos rfl, numR_q, h2]
theorem beh_none {bs : List Nat} (h : decide (4 + 2 ≤ bs.length) = false ∨ rdL bs bs.length (numQ bs bs.length 4 2) 6 = none) : rdcS bs = none := by
  unfold rdcS
  rw [okR_q, numR_q]
  rcases h with h | h
  · rw [h]; split <;> simp
  · rw [h]
    split
    · cases decide (4 + 2 ≤ bs.length) <;> simp
    · rfl
end Go.Proofs.Ytlcmndbnknifhaa
/- pack: follow, its walk -/
namespace Go.Proofs.Ytlcmndbnknifhaa
open Go.RowKit
set_option linter.unusedVariables false
set_option maxRecDepth 20000
theorem LisP.next {l : Nat} {NL : List PM} {na : Option Addr} {nc : Nat} {w w2 : World} (hb : Below l w w2) (hl : l ≤ w.heap.size) {r : Bool × Nat × List Tx} {e : Ending} {w' : World} (h : LisP l NL na nc w2 r e w') : LisP l NL na nc w r e w' := ⟨h.1, h.2.1, hb.trans h.2.2⟩
theorem folF_go (L : List PN) (f n : Nat) (pre : Tx) (left : Nat) (ws : List Tx) (h : ¬ (L.length ≤ n ∨ left = 0)) : folF L (f + 1) n pre left ws = folE (folF L f) pre (L.getD n ⟨false, []⟩).es (left - 1) (if (L.getD n ⟨false, []⟩).fin then ws ++ [pre] else ws) := by
  conv => lhs; unfold folF
  rw [if_neg h]
theorem FL9.kept {l : Nat} {NL : List PM} {na : Option Addr} {nc left : Nat} {ws : List Tx} {wa : Option Addr} {wc : Nat} {w w8 : World} {ob : Obj} (h : FL9 l NL na nc left ws wa wc w) (hg : (w.alloc ob).grownBy w8 (Value.slice wa ws.length wc).ownBlock) : w8.cell? ⟨l, 2, none⟩ = some (.slice wa ws.length wc) ∧ w8.frozen? ⟨l, 2, none⟩ = false := by
  have ll := lt_of_cell h.c0
  have hz : (w.alloc ob).heap.size = w.heap.size + 1 := by simp
  have ne : some l ≠ (Value.slice wa ws.length wc).ownBlock := fun e => by have := (h.o.lt l e.symm).1; omega
  exact ⟨(hg.cell_far ⟨l, 2, none⟩ (by rw [hz]; exact Nat.lt_succ_of_lt ll) ne).trans ((cell_alloc_old ll).trans h.c2), (hg.frozen_far ⟨l, 2, none⟩ (by rw [hz]; exact Nat.lt_succ_of_lt ll) ne).trans (((below_one w ob).frozen (p := ⟨l, 2, none⟩) ll).trans (h.f 2))⟩
theorem holdsI_lit1G9 (w : World) (x : Int) (e : TypeId) (fr : Nat × Nat) : HoldsI .i32 (w.alloc (.cells #[.int .i32 x] e fr)) (some ⟨w.heap.size, 0, none⟩) 1 [x] := by
  refine ⟨rfl, fun _ => ⟨w.heap.size, 0, rfl, fun i hi => ?_⟩⟩
  obtain rfl : i = 0 := by omega
  rw [World.cell?_alloc_mark]; rfl
def GoodPM (NL : List PM) : Prop := ∀ x ∈ NL, ∀ e ∈ x.es, e.1 < 4294967296 ∧ e.2 < 65536 
set_option maxHeartbeats 6400000 in
set_option maxRecDepth 100000 in
theorem fol_step (l : Nat) (NL : List PM) (na : Option Addr) (nc f : Nat) (hG : GoodPM NL) (hlen : NL.length ≤ 70000) (hes : ∀ x ∈ NL, x.es.length ≤ 70000) (IH : ∀ f', f = f' + 1 → LisAny l NL na nc f') : LisAny l NL na nc f := by
  intro n pre left ws wa wc w h hlf hl1000 hws hpre hn
  obtain ⟨i0, hi, hz0, hz1, hz2⟩ := info_parts strL_info
  have H := Lib.hid h
  have IHH := Lib.hid IH
  have HG := Lib.hid hG
  have ll := lt_of_cell h.c0
  have c0 := h.c0
  have c1 := h.c1
  have f1 := h.f 1
  obtain ⟨N, hN⟩ : ∃ N, NL.length = N := ⟨_, rfl⟩
  have HN := Lib.hid hN
  rw [hN] at c0 hlen
  have REF := Lib.hid (show (N ≤ n ∨ left = 0) → folF (NL.map pmP) (f + 1) n pre left ws = (false, left, ws) from fun h => by
    unfold folF
    rw [if_pos (by rw [List.length_map, HN.out]; exact h)])
  have BF := Lib.hid (Below.refl l w)
  clear h hN IH
  by_cases hge : N ≤ n
  · have d1 : decide ((n : Int) ≥ (N : Int)) = true := decide_eq_true (by omega)
    have d2 : decide (N ≤ n) = true := decide_eq_true hge
    rw [REF.out (Or.inl hge)]
    clear hge
    go_enter Try.func66, Try.ntmps66
    go_wp2_with fail
    go_ret
    exact ⟨rfl, ⟨wa, wc, H.out⟩, BF.out⟩
  have d1 : decide ((n : Int) ≥ (N : Int)) = false := decide_eq_false (by omega)
  have d2 : decide (N ≤ n) = false := decide_eq_false hge
  by_cases h0 : left = 0
  · rw [REF.out (Or.inr h0)]
    have e1 : ((left : Int) == 0) = true := by simp [h0]
    have HL0 := Lib.hid h0
    clear h0
    go_enter Try.func66, Try.ntmps66
    go_wp2_with fail
    go_ret
    exact ⟨rfl, ⟨wa, wc, H.out⟩, BF.out⟩
  have e1 : ((left : Int) == 0) = false := by rw [beq_eq_false_iff_ne]; omega
  obtain ⟨k, hk⟩ : ∃ k, left - 1 = k := ⟨_, rfl⟩
  have e2 : (left : Int) - 1 = (k : Int) := by omega
  obtain ⟨f', hf'⟩ : ∃ f', f = f' + 1 := ⟨f - 1, by omega⟩
  have IF := Lib.hid (IHH.out f' hf')
  obtain ⟨x, hx⟩ : ∃ x, NL.getD n pm0 = x := ⟨_, rfl⟩
  have HX := Lib.hid hx
  have hmem : x ∈ NL := by
    have := HN.out
    rw [← hx, List.getD_eq_getElem?_getD, List.getElem?_eq_getElem (show n < NL.length by omega)]
    exact List.getElem_mem _
  have GX := Lib.hid (HG.out x hmem)
  have hml := hes x hmem
  obtain ⟨R, hR⟩ : ∃ R, folF (NL.map pmP) (f + 1) n pre left ws = R := ⟨_, rfl⟩
  have HR := Lib.hid (show folE (folF (NL.map pmP) (f' + 1)) pre x.es k (if x.fin then ws ++ [pre] else ws) = R from by
    have h2 : (NL.map pmP).getD n ⟨false, []⟩ = pmP x := by
      rw [← hx, List.getD_eq_getElem?_getD, List.getD_eq_getElem?_getD, List.getElem?_map, List.getElem?_eq_getElem (show n < NL.length by rw [HN.out]; omega)]; rfl
    rw [← hR, hf', folF_go _ _ _ _ _ _ (by rw [List.length_map, HN.out]; omega), h2, hk]; rfl)
  rw [hR]
  have L1 := Lib.hid (show FL9 l NL na nc k ws wa wc (w.setCell ⟨l, 1, none⟩ (.int .i64 (k : Int))) from H.out.less)
  obtain ⟨q, hq, y0, y1⟩ := L1.out.at (show n < NL.length by rw [HN.out]; omega)
  subst hq
  rw [hx] at y0 y1
  obtain ⟨fin, hfin⟩ : ∃ b, x.fin = b := ⟨_, rfl⟩
  obtain ⟨m, hm⟩ : ∃ m, x.es.length = m := ⟨_, rfl⟩
  obtain ⟨ea, hea⟩ : ∃ v, x.ea = v := ⟨_, rfl⟩
  have HEA := Lib.hid hea
  rw [hfin] at y0 HR
  rw [hm, hea] at y1
  rw [hm] at hml
  have HM := Lib.hid hm
  have BW := Lib.hid (show Below l w (w.setCell ⟨l, 1, none⟩ (.int .i64 (k : Int))) from (Below.refl l w).setCell (p := ⟨l, 1, none⟩) (Nat.le_refl l) _)
  have HMEM := Lib.hid hmem
  have c0' := L1.out.c0
  rw [HN.out] at c0'
  have c2' := L1.out.c2
  have HFK := Lib.hid hf'
  have HK := Lib.hid hk
  have hnN : n < N := by omega
  have n1 : (0 : Int) ≤ (n : Int) := by omega
  have n2 : (n : Int) < (N : Int) := by omega
  clear REF IHH hf' hk hx hmem hR hm hfin hge h0 hea
  go_enter Try.func66, Try.ntmps66
  go_upto_region 4 with fail
  generalize w.setCell ⟨l, 1, none⟩ (.int .i64 (k : Int)) = w1 at *
  go_upto_if 39 with fail
  cases fin
  case' true =>
    go_upto_region 6 with (at_builtin; refine wpList_append_lies _ rfl (.tmp 44) (.tmp 46) 22 rfl (l + 1) 9 i0 _ 1 16 Try.underlying22 hi hz0 hz1 hz2 rfl (by omega) (.slice wa ws.length wc) ws.length (strsV ws) (by rfl) (L1.out.o.alloc _) ⟨w1.heap.size, 0, none⟩ 1 1 [.string pre] (by rfl) (by rfl) (World.news_of_block (cs := #[.string pre]) (t := 9) (fr := (0, 0)) (heap_alloc_new w1 _)) (by simp [Value.oneCell']) (by omega) (by unfold maxLen; omega) (by omega) (by have := lt_of_cell L1.out.c0; simp; omega) (w1.heap.size + 1) (by simp) ?_; intro g8 c8 w8 hown8 hgrow8 hat8 hlt8; obtain ⟨z0, z1⟩ := L1.out.kept hgrow8)
    have W8 := L1.out.word hown8 hgrow8 (hat8.imp id (fun e => by rw [e]; simp))
    obtain ⟨w2, hw2⟩ : ∃ v, w8.setCell ⟨l, 2, none⟩ (.slice (some ⟨g8, 0, none⟩) (ws.length + 1) c8) = v := ⟨_, rfl⟩
    rw [hw2] at W8 ⊢
    obtain ⟨ws1, hws1⟩ : ∃ v, ws ++ [pre] = v := ⟨_, rfl⟩
    obtain ⟨wa1, hwa1⟩ : ∃ v : Option Addr, some (⟨g8, 0, none⟩ : Addr) = v := ⟨_, rfl⟩
    obtain ⟨wc1, hwc1⟩ : ∃ v, c8 = v := ⟨_, rfl⟩
    have L2 := Lib.hid (show FL9 l NL (some ⟨q, 0, none⟩) nc k ws1 wa1 wc1 w2 from by rw [← hws1, ← hwa1, ← hwc1]; exact W8.1)
    have B2 := Lib.hid (show Below l w w2 from BW.out.trans W8.2)
    have HR2 := Lib.hid (show folE (folF (NL.map pmP) (f' + 1)) pre x.es k ws1 = R from by rw [← hws1, ← HR.out]; rfl)
    have hwl : ws1.length + k ≤ 1000 := by rw [← hws1, List.length_append, List.length_singleton]; omega
    clear hown8 hgrow8 hat8 hlt8 z0 z1 W8 hw2 hws1 hwa1 hwc1
  case' false =>
    go_upto_region 6 with fail
    obtain ⟨w2, hw2⟩ : ∃ v, w1 = v := ⟨_, rfl⟩
    obtain ⟨ws1, hws1⟩ : ∃ v, ws = v := ⟨_, rfl⟩
    obtain ⟨wa1, hwa1⟩ : ∃ v, wa = v := ⟨_, rfl⟩
    obtain ⟨wc1, hwc1⟩ : ∃ v, wc = v := ⟨_, rfl⟩
    have L2 := Lib.hid (show FL9 l NL (some ⟨q, 0, none⟩) nc k ws1 wa1 wc1 w2 from by rw [← hws1, ← hwa1, ← hwc1, ← hw2]; exact L1.out)
    have B2 := Lib.hid (show Below l w w2 from by rw [← hw2]; exact BW.out)
    have HR2 := Lib.hid (show folE (folF (NL.map pmP) (f' + 1)) pre x.es k ws1 = R from by rw [← hws1, ← HR.out]; rfl)
    have hwl : ws1.length + k ≤ 1000 := by rw [← hws1]; omega
    rw [hw2]
    clear hw2 hws1 hwa1 hwc1
  all_goals
    clear L1 BW HR y0 y1 c0' c2' c0 c1 f1 ll H
    obtain ⟨qn, hq2, -, u1⟩ := L2.out.at (show n < NL.length by rw [HN.out]; exact hnN)
    injection hq2 with hq2
    injection hq2 with hq2
    subst hq2
    rw [HX.out, HM.out, HEA.out] at u1
    have u0 := L2.out.c0
    rw [HN.out] at u0
    go_wp2_with fail
    go_loopw [59] (fun iv wr => ∃ (j left2 : Nat) (ws2 : List Tx) (wa2 : Option Addr) (wc2 : Nat), j ≤ m ∧ iv = .int .i64 j ∧ left2 ≤ k ∧ ws2.length + left2 ≤ 1000 ∧ Hid (folE (folF (NL.map pmP) (f' + 1)) pre (x.es.drop j) left2 ws2 = R) ∧ Hid (FL9 l NL (some ⟨q, 0, none⟩) nc left2 ws2 wa2 wc2 wr) ∧ Hid (Below l w wr)) (fun iv _ => m - (intOf iv).toNat)
    case atStart => exact ⟨0, k, ws1, wa1, wc1, by omega, rfl, by omega, hwl, Lib.hid (by rw [List.drop_zero]; exact HR2.out), L2, B2⟩
    case round =>
      clear L2 B2 HR2 u0 u1
      obtain ⟨j, left2, ws2, wa2, wc2, hj, rfl, hl2, hw2, hE, hL, hB⟩ := hrel
      by_cases hlt : j < m
      · obtain ⟨q2, hq2, v0, v1⟩ := pe_at (hL.out.p.e x HMEM.out) (i := j) (by rw [HM.out]; exact hlt)
        rw [HEA.out] at hq2
        subst hq2
        obtain ⟨⟨y1, y2⟩, hy⟩ : ∃ y, x.es.getD j (0, 0) = y := ⟨_, rfl⟩
        rw [hy] at v0 v1
        simp only at v0 v1
        have DJ := Lib.hid (show x.es.drop j = (y1, y2) :: x.es.drop (j + 1) from by
          rw [List.drop_eq_getElem_cons (show j < x.es.length by rw [HM.out]; exact hlt), ← hy, List.getD_eq_getElem?_getD, List.getElem?_eq_getElem (show j < x.es.length by rw [HM.out]; exact hlt)]; rfl)
        have hy12 := GX.out (y1, y2) (by
          have hjx : j < x.es.length := by rw [HM.out]; exact hlt
          rw [← hy, List.getD_eq_getElem?_getD, List.getElem?_eq_getElem hjx]; exact List.getElem_mem _)
        simp only at hy12
        obtain ⟨yb1, yb2⟩ := hy12
        have n3 : (0 : Int) ≤ (j : Int) := by omega
        have n4 : (j : Int) < (m : Int) := by omega
        obtain ⟨ρ, hρ⟩ : ∃ r, wrap32 (y1 : Int) = r := ⟨_, rfl⟩
        have HRO := Lib.hid (show runeL y1 = ρ from by unfold runeL; rw [IntWalk.i32_left]; exact hρ)
        clear hy
        have hρb : -2147483648 ≤ ρ ∧ ρ ≤ 2147483647 := by
          rw [← hρ]
          unfold wrap32
          omega
        obtain ⟨S, hS⟩ : ∃ S, textZ [ρ] = S := ⟨_, rfl⟩
        have HLT := Lib.hid (show labT y1 = S from by unfold labT; rw [HRO.out, hS])
        have hSz : S.size ≤ 4 := by rw [← HLT.out]; exact labT_size y1
        have CT := Lib.hid (text_any (some ⟨(wr.alloc (.cells #[.int .i64 (y1 : Int), .int .i64 (y2 : Int)] 131)).heap.size, 0, none⟩) 1 1 [ρ] ((wr.alloc (.cells #[.int .i64 (y1 : Int), .int .i64 (y2 : Int)] 131)).alloc (.cells #[.int .i32 ρ] 21)) (holdsI_lit1G9 _ ρ 21 (0, 0)) (by decide) (by
          intro z hz
          simp only [List.mem_singleton] at hz
          rw [hz]; exact hρb))
        have L10 := Lib.hid ((hL.out.below (below_one wr (.cells #[.int .i64 (y1 : Int), .int .i64 (y2 : Int)] 131))).below (below_one _ (.cells #[.int .i32 ρ] 21)))
        have B10 := Lib.hid (show Below l w ((wr.alloc (.cells #[.int .i64 (y1 : Int), .int .i64 (y2 : Int)] 131)).alloc (.cells #[.int .i32 ρ] 21)) from (hB.out.alloc (Nat.le_of_lt (Nat.lt_of_lt_of_le (lt_of_cell hL.out.c0) (Nat.le_refl _))) _).alloc (Nat.le_of_lt (Nat.lt_of_lt_of_le (lt_of_cell hL.out.c0) (below_one wr _).size)) _)
        rw [hS] at CT
        rw [show (wr.alloc (.cells #[.int .i64 (y1 : Int), .int .i64 (y2 : Int)] 131)).heap.size = wr.heap.size + 1 by simp] at CT
        clear hL hB hS hρb
        by_cases hg : allG [ρ]
        · rw [decide_eq_true hg] at CT
          obtain ⟨R', hR'⟩ : ∃ r, folF (NL.map pmP) (f' + 1) y2 (pre ++ S) left2 ws2 = r := ⟨_, rfl⟩
          have NX := Lib.hid (show (if R'.1 then folE (folF (NL.map pmP) (f' + 1)) pre (x.es.drop (j + 1)) R'.2.1 R'.2.2 else (false, R'.2)) = R from by
            rw [← hE.out, DJ.out, ← hR']
            simp only [folE, HRO.out, HLT.out, if_pos hg])
          have hleft : R'.2.1 ≤ left2 := by rw [← hR']; exact folF_left _ _ _ _ _ _
          have hfew : R'.2.2.length + R'.2.1 ≤ ws2.length + left2 := by rw [← hR']; exact folF_few _ _ _ _ _ _
          obtain ⟨ok, lf, wz⟩ := R'
          simp only at hleft hfew
          clear hg
          subst hρ
          go_wp2_with fail
          with_reducible refine CT.out.mono ?_
          rintro e w11 ⟨rfl, hb11⟩
          have L11 := Lib.hid (L10.out.below hb11)
          have B11 := Lib.hid (B10.out.trans (hb11.mono (Nat.le_trans (Nat.le_of_lt (lt_of_cell L10.out.c0)) (Nat.le_refl _))))
          have CI := Lib.hid (IF.out y2 (pre ++ S) left2 ws2 wa2 wc2 w11 L11.out (by have := HFK.out; have := HK.out; omega) (by omega) (by omega) (by rw [ByteArray.size_append]; have := HK.out; omega) (by omega))
          rw [hR'] at CI
          have y4 := (hb11.cell (p := ⟨wr.heap.size, 1, none⟩) (by simp; omega)).trans ((cell_alloc_old (by simp)).trans (by rw [World.cell?_alloc_mark]; rfl : (wr.alloc (.cells #[.int .i64 (y1 : Int), .int .i64 (y2 : Int)] 131)).cell? ⟨wr.heap.size, 1, none⟩ = some (.int .i64 (y2 : Int))))
          clear hb11 CT L10 B10 hR'
          go_wp2_with fail
          with_reducible refine CI.out.mono ?_
          rintro e w12 ⟨rfl, ⟨wa3, wc3, L12⟩, b12⟩
          have H12 := Lib.hid L12
          have B12 := Lib.hid (B11.out.trans b12)
          clear L12 b12 CI y4
          cases ok with
          | true =>
            have NX2 := Lib.hid (show folE (folF (NL.map pmP) (f' + 1)) pre (x.es.drop (j + 1)) lf wz = R from NX.out)
            go_wp2_with fail
            go_roundw
            case rel => exact ⟨j + 1, lf, wz, wa3, wc3, by omega, by go_num, by omega, by omega, NX2, H12, B12⟩
            case measure => simp [intOf] <;> omega
          | false =>
            have NX2 := Lib.hid (show (false, lf, wz) = R from NX.out)
            go_wp2_with fail
            go_ret
            rw [← NX2.out]
            exact ⟨rfl, ⟨wa3, wc3, H12.out⟩, B12.out⟩
        · rw [decide_eq_false hg] at CT
          have NX := Lib.hid (show (false, left2, ws2) = R from by
            rw [← hE.out, DJ.out]
            simp only [folE, HRO.out, if_neg hg])
          clear hg
          subst hρ
          go_wp2_with fail
          with_reducible refine CT.out.mono ?_
          rintro e w11 ⟨rfl, hb11⟩
          have L11 := Lib.hid (L10.out.below hb11)
          have B11 := Lib.hid (B10.out.trans (hb11.mono (Nat.le_trans (Nat.le_of_lt (lt_of_cell L10.out.c0)) (Nat.le_refl _))))
          clear hb11 CT L10 B10
          go_wp2_with fail
          go_ret
          rw [← NX.out]
          exact ⟨rfl, ⟨wa2, wc2, L11.out⟩, B11.out⟩
      · obtain rfl : j = m := by omega
        have ED := Lib.hid (show (true, left2, ws2) = R from by
          rw [← hE.out, show x.es.drop j = [] from List.drop_of_length_le (by rw [HM.out]; exact Nat.le_refl _)]; rfl)
        go_wp2_with fail
        go_ret
        rw [← ED.out]
        exact ⟨rfl, ⟨wa2, wc2, hL.out⟩, hB.out⟩
end Go.Proofs.Ytlcmndbnknifhaa
/- pack: wordsOf -/
namespace Go.Proofs.Ytlcmndbnknifhaa
open Go.RowKit
set_option linter.unusedVariables false
set_option maxRecDepth 20000
theorem fol_any (l : Nat) (NL : List PM) (na : Option Addr) (nc : Nat) (hG : GoodPM NL) (hlen : NL.length ≤ 70000) (hes : ∀ x ∈ NL, x.es.length ≤ 70000) : ∀ f, LisAny l NL na nc f := by
  intro f
  induction f with
  | zero => exact fol_step l NL na nc 0 hG hlen hes (fun f' h => by omega)
  | succ f ih => exact fol_step l NL na nc (f + 1) hG hlen hes (fun f' h => by obtain rfl : f = f' := by omega
                                                                               exact ih)
theorem PR9.less {B B' : Nat} {NL : List PM} {na : Option Addr} {nc : Nat} {w : World} (h : PR9 B NL na nc w) (hB : B' ≤ B) : PR9 B' NL na nc w := ⟨base_less9 h.o hB, fun x hx => base_less9 (h.e x hx) hB, h.ne⟩
def WordsP (w : World) (x : Option (List Tx)) (e : Ending) (w' : World) : Prop := Below w.heap.size w w' ∧ match x with
  | some ts => ∃ wa wc, e = .returned (.tuple #[.slice wa ts.length wc, .bool true]) ∧ w'.ownsRow w.heap.size 9 1 (.slice wa ts.length wc) ts.length (strsV ts)
  | none => ∃ v, e = .returned (.tuple #[v, .bool false])
set_option maxHeartbeats 1600000 in
theorem words_any (NL : List PM) (na : Option Addr) (nc B : Nat) (w : World) (h : PR9 B NL na nc w) (hg : GoodNs (NL.map pmP)) (hl : NL.length ≤ 65535) :
    Calls Try.prog 38 #[.slice na NL.length nc] w (WordsP w (wordsP (NL.map pmP))) := by
  have hG : GoodPM NL := fun x hx => (hg (pmP x) (List.mem_map_of_mem hx)).1
  have hes : ∀ x ∈ NL, x.es.length ≤ 70000 := fun x hx => by
    have h2 : x.es.length ≤ 65535 := (hg (pmP x) (List.mem_map_of_mem hx)).2
    omega
  have hb1 := below_one w (.cells #[.slice na NL.length nc, .int .i64 721, .slice none 0 0] 115)
  have FL := Lib.hid (show FL9 w.heap.size NL na nc 721 [] none 0 (w.alloc (.cells #[.slice na NL.length nc, .int .i64 721, .slice none 0 0] 115)) from
    ⟨by rw [cell_alloc rfl]; rfl, by rw [cell_alloc rfl]; rfl, by rw [cell_alloc rfl]; rfl, fun i => frozen_alloc rfl, World.ownsRow_nil _ _ _ _,
      (h.less (Nat.zero_le B)).turn (T := fun _ => False) (Turn.of_below hb1) (fun _ _ x => x) (fun _ _ _ _ x => x),
      fun k e => (h.o.lt k (by rw [e]; rfl)).2, fun x hx k e => ((h.e x hx).lt k (by rw [e]; rfl)).2⟩)
  have CF := Lib.hid (fol_any w.heap.size NL na nc hG (by omega) hes 721 0 ⟨#[]⟩ 721 [] none 0 _ FL.out (by omega) (by omega) (by simp) (by decide) (by omega))
  have B1 := Lib.hid (show Below w.heap.size w (w.alloc (.cells #[.slice na NL.length nc, .int .i64 721, .slice none 0 0] 115)) from hb1)
  obtain ⟨r, hr⟩ : ∃ r, folF (NL.map pmP) 722 0 ⟨#[]⟩ 721 [] = r := ⟨_, rfl⟩
  rw [show folF (NL.map pmP) (721 + 1) 0 ⟨#[]⟩ 721 [] = r from hr] at CF
  have WP := Lib.hid (show wordsP (NL.map pmP) = if r.1 then some r.2.2 else none from by unfold wordsP; rw [hr])
  obtain ⟨N, hN⟩ : ∃ N, NL.length = N := ⟨_, rfl⟩
  rw [hN] at CF FL B1 ⊢
  clear h hg hl hG hes hb1 FL hr
  rw [show ((0 : Nat) : Int) = 0 from rfl] at CF
  go_enter Try.func38, Try.ntmps38
  go_wp2_with fail
  with_reducible refine CF.out.mono ?_
  rintro e w2 ⟨rfl, ⟨wa, wc, L2⟩, b2⟩
  have H2 := Lib.hid L2
  have B2 := Lib.hid (B1.out.trans b2)
  obtain ⟨ok, lf, ws⟩ := r
  have c2 := L2.c2
  clear L2 b2 CF
  cases ok with
  | true =>
    have WT := Lib.hid (show wordsP (NL.map pmP) = some ws from WP.out)
    go_wp2_with fail
    go_ret2
    refine ⟨B2.out, ?_⟩
    rw [WT.out]
    exact ⟨wa, wc, rfl, base_less9 H2.out.o (by omega)⟩
  | false =>
    have WT := Lib.hid (show wordsP (NL.map pmP) = none from WP.out)
    go_wp2_with fail
    go_ret2
    refine ⟨B2.out, ?_⟩
    rw [WT.out]
    exact ⟨_, rfl⟩
end Go.Proofs.Ytlcmndbnknifhaa
/- pack: Decode -/
namespace Go.Proofs.Ytlcmndbnknifhaa
open Go.RowKit
set_option linter.unusedVariables false
set_option maxRecDepth 20000
def DecP (w : World) (bs : List Nat) (e : Ending) (w' : World) : Prop := Below w.heap.size w w' ∧ match decS bs with
  | some ts => ∃ g S, e = .returned (.tuple #[.pointer (some ⟨g, 0, none⟩), .int .i64 0]) ∧ CtxG w w' g (grS ts) S
  | none => e = .returned (.tuple #[.pointer none, .int .i64 (if openB bs then 8 else 9)])
theorem decP_bad {w w' : World} {bs : List Nat} (hb : Below w.heap.size w w') (ho : openB bs = true) (hd : decS bs = none) : DecP w bs (.returned (.tuple #[.pointer none, .int .i64 8])) w' := by
  refine ⟨hb, ?_⟩
  rw [hd, ho]
  rfl
set_option maxHeartbeats 3200000 in
theorem decode_any (a : Option Addr) (n cap : Nat) (bs : List Nat) (w : World) (h : HoldsB w a n bs) (hc : n ≤ cap) (hn : n ≤ 1048576) :
    Calls Try.prog 18 #[.slice a n cap] w (DecP w bs) := by
  have hl := h.len
  have CS := Lib.hid (wSealed_any a n cap bs w h hn hc)
  have H := Lib.hid h
  cases ho : openB bs with
  | false =>
    rw [ho] at CS
    simp only [Bool.false_eq_true, if_false] at CS
    have FIN := Lib.hid (show DecP w bs (.returned (.tuple #[.pointer none, .int .i64 9])) w from by
      refine ⟨Below.refl _ _, ?_⟩
      have hd : decS bs = none := by unfold decS; rw [ho]; rfl
      rw [hd, ho]
      rfl)
    clear h hl ho
    go_enter Try.func18, Try.ntmps18
    go_wp2_with fail
    with_reducible refine CS.out.mono ?_
    rintro e w1 ⟨rfl, rfl⟩
    go_wp2_with fail
    go_ret2
    exact FIN.out
  | true =>
    rw [ho] at CS
    simp only [if_true] at CS
    have h4 : 4 ≤ n := by
      unfold openB at ho
      rw [Bool.and_eq_true] at ho
      have := of_decide_eq_true ho.1
      omega
    obtain ⟨k, hk⟩ : ∃ k, n - 4 = k := ⟨_, rfl⟩
    obtain ⟨body, hbo⟩ : ∃ b, bs.take (bs.length - 4) = b := ⟨_, rfl⟩
    have hB : HoldsB w a k body := by
      obtain ⟨q, o, rfl, -⟩ := h.at (by omega)
      rw [← hbo, hl, hk]
      exact h.front k (by omega)
    have CR := Lib.hid (read_any a k cap body w hB (by omega) (by omega))
    have hb256 : ∀ b ∈ body, b < 256 := hB.2
    have DS := Lib.hid (show decS bs = (match readP body with
      | some L => (match wordsP L with
        | some ts => if goodV ts = 0 ∧ imgB (grS ts) = bs then some ts else none
        | none => none)
      | none => none) from by
      unfold decS
      rw [ho, if_pos rfl, hbo]
      all_goals (cases readP body <;> first | rfl | (rename_i L; cases wordsP L <;> rfl)))
    have HO := Lib.hid ho
    rw [hk] at CS
    clear h hl ho hbo hk hB
    go_enter Try.func18, Try.ntmps18
    go_wp2_with fail
    with_reducible refine CS.out.mono ?_
    rintro e w1 ⟨rfl, rfl⟩
    go_wp2_with fail
    with_reducible refine CR.out.mono ?_
    rintro e w1 ⟨hb1, hr⟩
    have B1 := Lib.hid hb1
    clear hb1 CS CR
    cases hp : readP body with
    | none =>
      rw [hp] at hr
      obtain ⟨v, rfl⟩ := hr
      have FIN := Lib.hid (decP_bad B1.out HO.out (by rw [DS.out, hp]))
      clear hp
      go_wp2_with fail
      go_ret2
      exact FIN.out
    | some L =>
      rw [hp] at hr
      obtain ⟨na, nc, NL, hNL, rfl, q1⟩ := hr
      have DS2 := Lib.hid (show decS bs = (match wordsP L with
        | some ts => if goodV ts = 0 ∧ imgB (grS ts) = bs then some ts else none
        | none => none) from by rw [DS.out, hp])
      obtain ⟨g1, g2⟩ := readP_good hb256 hp
      subst hNL
      have CW := Lib.hid (words_any NL na nc _ w1 q1 g1 (by simpa using g2))
      clear hp hb256 q1 g1 g2 DS
      go_wp2_with fail
      with_reducible refine CW.out.mono ?_
      rintro e w2 ⟨hb2, hr⟩
      have B2 := Lib.hid (B1.out.trans (hb2.mono B1.out.size))
      clear hb2 CW
      cases hp : wordsP (NL.map pmP) with
      | none =>
        rw [hp] at hr
        obtain ⟨v, rfl⟩ := hr
        have FIN := Lib.hid (decP_bad B2.out HO.out (by rw [DS2.out, hp]))
        clear hp
        go_wp2_with fail
        go_ret2
        exact FIN.out
      | some ts =>
        rw [hp] at hr
        obtain ⟨wa, wc, rfl, o2⟩ := hr
        obtain ⟨s1, s2⟩ := wordsP_small hp
        have DS3 := Lib.hid (show decS bs = (if goodV ts = 0 ∧ imgB (grS ts) = bs then some ts else none) from by rw [DS2.out, hp])
        have HT : HoldsT w2 wa ts.length ts := HoldsT.own o2
        have hcap : ts.length ≤ wc := (owns_none o2).2
        by_cases hv : goodV ts = 0
        · have hs : ∀ t ∈ ts, t.size ≤ 100 := fun t ht => by have := good_sizes hv t ht; omega
          have CB := Lib.hid (build_c (w0 := w) wa ts.length wc ts (grS ts) w2 B2.out HT hcap (by omega) hs hv rfl)
          have CE := Lib.hid (fun g S (w' : World) (h : GAt g (grS ts) w' S) => encode_of g ts S w' h hv hs)
          have HV := Lib.hid hv
          clear hp hv hs HT o2 DS2 s1 s2
          go_wp2_with fail
          with_reducible refine CB.out.mono ?_
          rintro e w3 ⟨g, S, rfl, hC, hb3⟩
          have C3 := Lib.hid (CE.out g S w3 hC.G)
          have X3 := Lib.hid hC
          have HB3 := Lib.hid (H.out.below hC.b)
          clear hC hb3 CE CB
          go_wp2_with fail
          with_reducible refine C3.out.mono ?_
          rintro e w4 ⟨a4, c4, rfl, o4, b4, -⟩
          have X4 := Lib.hid (X3.out.more b4)
          have CQ := Lib.hid (bEqual_any a4 a (imgB (grS ts)).length c4 n cap (imgB (grS ts)) bs w4 (holdsB_of_values (owns_holds o4) (sealB_lt _ (bodyB_lt _))) (HB3.out.below b4))
          clear o4 b4 C3 HB3
          by_cases he : imgB (grS ts) = bs
          · rw [decide_eq_true he] at CQ
            have FIN := Lib.hid (show DecP w bs (.returned (.tuple #[.pointer (some ⟨g, 0, none⟩), .int .i64 0])) w4 from by
              refine ⟨X4.out.b, ?_⟩
              rw [DS3.out, if_pos ⟨HV.out, he⟩]
              exact ⟨g, S, rfl, X4.out⟩)
            clear he
            go_wp2_with fail
            with_reducible refine CQ.out.mono ?_
            rintro e w5 ⟨rfl, rfl⟩
            go_wp2_with fail
            go_ret2
            exact FIN.out
          · rw [decide_eq_false he] at CQ
            have FIN := Lib.hid (decP_bad X4.out.b HO.out (by rw [DS3.out, if_neg (fun h => he h.2)]))
            clear he
            go_wp2_with fail
            with_reducible refine CQ.out.mono ?_
            rintro e w5 ⟨rfl, rfl⟩
            go_wp2_with fail
            go_ret2
            exact FIN.out
        · have CB := Lib.hid (build_bad wa ts.length wc ts (goodV ts) w2 HT (by omega) (fun t ht => by have := s2 t ht; omega) rfl hv)
          have ne : (goodV ts != 0) = true := by simpa using hv
          have FIN := Lib.hid (fun w' (hb : Below w.heap.size w w') => decP_bad hb HO.out (by rw [DS3.out, if_neg (fun h => hv h.1)]))
          obtain ⟨gv, hgv⟩ : ∃ v, goodV ts = v := ⟨_, rfl⟩
          rw [hgv] at CB ne
          clear hp hv HT o2 DS2 s1 s2 hgv
          go_wp2_with fail
          with_reducible refine CB.out.mono ?_
          rintro e w3 ⟨rfl, hb3⟩
          have F3 := Lib.hid (FIN.out w3 (B2.out.trans (hb3.mono B2.out.size)))
          clear hb3 CB FIN
          go_wp2_with fail
          go_ret2
          exact F3.out
end Go.Proofs.Ytlcmndbnknifhaa
/- contracts of the reference's code: bytes laid -/
namespace Go.Proofs.Ytlcmndbnknifhaa
open Go.RowKit
set_option linter.unusedVariables false
set_option maxRecDepth 20000
set_option maxHeartbeats 800000 in
theorem rput_any (a : Option Addr) (n cap : Nat) (bs : List Nat) (v size : Int) (w : World) (h : HoldsB w a n bs) (hnil : a = none → n = 0 ∧ cap = 0) (hn : n ≤ 524288) :
    Calls Try.prog 52 #[.slice a n cap, .int .i64 v, .int .i64 size] w (RetB 5 w (bs ++ Cod.bytesOf (bitsV v) (sizeV size))) := by
  obtain ⟨i0, hi, hz0, hz1, hz2⟩ := info_parts u8_info
  have HN := Lib.hid hnil; have H := Lib.hid h; have HL := Lib.hid h.len; have HV := Lib.hid h.values
  have hb := bitsV_eq v
  clear h hnil
  obtain ⟨s, hs⟩ : ∃ s : Nat, sizeV size = s := ⟨_, rfl⟩
  have hs8 : s ≤ 8 := by unfold sizeV at hs; omega
  have HS := Lib.hid hs
  clear hs
  go_enter Try.func52, Try.ntmps52
  go_upto_region 3 with (at_builtin; refine wpList_append_any rfl (.const (.slice none 0 0)) (.tmp 10) 25 rfl w.heap.size 5 i0 (.int .u8 0) 1 1 Try.underlying25 hi hz0 hz1 hz2 rfl (by decide) _ 0 [] rfl (World.ownsRow_nil _ _ _ _) a n cap (bytesV bs) rfl HN.out (by simpa using HV.out.1) (HV.out.cells (World.grownBy.refl _ _)) (bytesV_one bs) (by unfold maxLen; omega) (by omega) (Nat.le_refl _) ?_; intro a1 c1 w1 hown1 hb1 hnil1; simp only [Nat.zero_add, List.nil_append] at hown1)
  have O1 := Lib.hid hown1; have B1 := Lib.hid hb1
  clear hown1 hb1 hnil1
  go_cut [9] (fun x wx => x = .int .i64 ((s : Int) - 1) ∧ w1 = wx)
  case first =>
    go_wp2_with fail
    all_goals go_meet
    all_goals exact ⟨by congr 1; have hs := HS.out; unfold sizeV at hs; omega, rfl⟩
  case rest =>
    obtain ⟨rfl, rfl⟩ := hcut
    go_wp2_with fail
    go_loopw [7, 9] (fun x i wr => ∃ (k : Nat) (a2 : Option Addr) (c2 : Nat), k ≤ s ∧ i = .int .i64 ((s : Int) - 1 - k) ∧ x = .slice a2 (n + k) c2 ∧ Hid (wr.ownsRow w.heap.size 5 1 (.slice a2 (n + k) c2) (n + k) (bytesV (bs ++ (Cod.bytesOf (bitsV v) s).take k))) ∧ Hid (Below w.heap.size w wr)) (fun _ i _ => (intOf i + 1).toNat)
    case atStart => exact ⟨0, a1, c1, by omega, by congr 1; omega, by rw [Nat.add_zero], by rw [List.take_zero, List.append_nil, Nat.add_zero]; exact O1, B1⟩
    case round =>
      obtain ⟨k, a2, c2, hk, rfl, rfl, hO, hB⟩ := hrel
      by_cases hlt : k < s
      · have ht := Cod.bytesOf_take (bitsV v) s k hlt
        have hby := byte_at (bitsV v) (s - 1 - k)
        have HT := Lib.hid ht; have HBY := Lib.hid hby
        clear ht hby
        have q1 : (8 * ((s : Int) - 1 - (k : Int))).toNat = 8 * (s - 1 - k) := by omega
        go_wp2_with (at_builtin; refine wpList_append_any rfl (.tmp 22) (.tmp 28) 25 rfl w.heap.size 5 i0 (.int .u8 0) 1 1 Try.underlying25 hi hz0 hz1 hz2 rfl (by decide) _ (n + k) _ rfl (hO.out.alloc _) _ 1 1 _ rfl (some_none _) rfl (one_new _ _ _ _) (one_int _ _) (by unfold maxLen; omega) (by omega) (by have := hB.out.size; simp; omega) ?_; intro a3 c3 w3 hown3 hb3 hnil3)
        have hv : bytesV (bs ++ List.take (k + 1) (Cod.bytesOf (bitsV v) s)) = bytesV (bs ++ List.take k (Cod.bytesOf (bitsV v) s)) ++ [Value.int .u8 ((bitsV v : Int) / 2 ^ (8 * (s - 1 - k)) % 256)] := by
          rw [HT.out, HBY.out, ← List.append_assoc, ← bytesV_append]; rfl
        go_roundw
        case rel => exact ⟨k + 1, a3, c3, by omega, by congr 1; omega, rfl, by rw [hv]; exact hown3, hB.out.trans ((below_one _ _).mono hB.out.size |>.trans hb3)⟩
        case measure => simp [intOf]; omega
      · have hks : k = s := by omega
        have hfin : bs ++ (Cod.bytesOf (bitsV v) s).take k = bs ++ Cod.bytesOf (bitsV v) s := by rw [List.take_of_length_le (by rw [Cod.bytesOf_length, hks]; exact Nat.le_refl _)]
        have hlen : (bs ++ Cod.bytesOf (bitsV v) s).length = n + k := by rw [List.length_append, HL.out, Cod.bytesOf_length, hks]
        have hO2 := hO.out
        rw [hfin] at hO2
        have HO2 := Lib.hid hO2; have HLL := Lib.hid hlen
        clear hks hfin hlen hO2
        go_wp2
        go_ret
        rw [HS.out]
        exact ⟨a2, c2, by rw [HLL.out]; rfl, by rw [HLL.out]; exact HO2.out, hB.out, by rw [HLL.out]; exact (owns_none HO2.out).1⟩
end Go.Proofs.Ytlcmndbnknifhaa
/- contracts of code and of its reference: a text laid behind bytes -/
namespace Go.Proofs.Ytlcmndbnknifhaa
open Go.RowKit
set_option linter.unusedVariables false
set_option maxRecDepth 20000
/-- what of a text is laid -/
def cutS (s : ByteArray) : ByteArray := s.extract 0 (min s.size 65535)
theorem cutS_size (s : ByteArray) : (cutS s).size = min s.size 65535 := by simp [cutS, ByteArray.size_extract]
theorem cutS_small (s : ByteArray) (h : s.size ≤ 65535) : cutS s = s := by
  unfold cutS; rw [Nat.min_eq_left h, ByteArray.extract_zero_size]
theorem cutS_great (s : ByteArray) (h : 65535 < s.size) : cutS s = s.extract 0 65535 := by
  unfold cutS; rw [Nat.min_eq_right (by omega)]
def putTextV (bs : List Nat) (s : ByteArray) : List Nat := bs ++ Cod.bytesOf (cutS s).size 2 ++ strB (cutS s)
theorem bitsV_nat (n : Nat) (h : n < 18446744073709551616) : bitsV (n : Int) = n := by
  unfold bitsV; simp only [IntKind.wrap, IntKind.signed, IntKind.bits]; simp; omega
end Go.Proofs.Ytlcmndbnknifhaa
/- contract of the reference's code: a text laid behind bytes -/
namespace Go.Proofs.Ytlcmndbnknifhaa
open Go.RowKit
set_option linter.unusedVariables false
set_option maxRecDepth 20000
end Go.Proofs.Ytlcmndbnknifhaa
/- two slices of one kind of numbers held against each other -/
namespace Go.Proofs.Ytlcmndbnknifhaa
open Go.RowKit
set_option linter.unusedVariables false
set_option maxRecDepth 20000

set_option maxHeartbeats 400000 in
theorem sameBytes_any (a1 a2 : Option Addr) (n1 c1 n2 c2 : Nat) (z1 z2 : List Int) (w : World) (h1 : HoldsI .u8 w a1 n1 z1) (h2 : HoldsI .u8 w a2 n2 z2) (hl1 : n1 ≤ 4611686018427387904) (hl2 : n2 ≤ 4611686018427387904) :
    Calls Try.prog 12 #[.slice a1 n1 c1, .slice a2 n2 c2] w fun e w' => e = .returned (.bool (decide (z1 = z2))) ∧ ∃ m, w' = w.drewN m := by
  obtain ⟨g1, g1'⟩ := h1
  obtain ⟨g2, g2'⟩ := h2
  by_cases hn : n1 = n2
  · subst hn
    rcases Nat.eq_zero_or_pos n1 with h0 | h0
    · subst h0
      clear g1' g2'
      obtain rfl := List.eq_nil_of_length_eq_zero g1
      obtain rfl := List.eq_nil_of_length_eq_zero g2
      go_enter Try.func12, Try.ntmps12
      go_wp2
      go_loop [5] (fun i => i = .int .i64 0) (fun _ => 0)
      case atStart => rfl
      case round =>
        obtain rfl := hrel
        go_wp2
        go_ret
        exact ⟨rfl, 0, rfl⟩
    · obtain ⟨b1, o1, rfl, k1⟩ := g1' h0
      obtain ⟨b2, o2, rfl, k2⟩ := g2' h0
      clear g1' g2'
      have G1 := Lib.hid g1; have G2 := Lib.hid g2; have K1 := Lib.hid k1; have K2 := Lib.hid k2
      clear g1 g2 k1 k2
      go_enter Try.func12, Try.ntmps12
      go_wp2
      go_loopw [5] (fun i wr => ∃ k m : Nat, k ≤ n1 ∧ i = .int .i64 k ∧ z1.take k = z2.take k ∧ wr = w.drewN m) (fun i _ => n1 - (intOf i).toNat)
      case atStart => exact ⟨0, 0, by omega, rfl, rfl, rfl⟩
      case round =>
        obtain ⟨k, m, hk, rfl, he, rfl⟩ := hrel
        have HE := Lib.hid he
        clear he
        by_cases hlt : k < n1
        · have e1 := K1.out k hlt
          have e2 := K2.out k hlt
          obtain ⟨x, hx⟩ : ∃ x, z1.getD k 0 = x := ⟨_, rfl⟩
          obtain ⟨y, hy⟩ : ∃ y, z2.getD k 0 = y := ⟨_, rfl⟩
          rw [hx] at e1; rw [hy] at e2
          have HX := Lib.hid hx; have HY := Lib.hid hy
          clear hx hy
          by_cases hxy : x = y
          · subst hxy
            go_wp2
            go_quiet (fail)
            go_wp2
            go_roundw
            case rel => exact ⟨k + 1, _, by omega, by go_num, by rw [take_succ_getD z1 0 k (by rw [G1.out]; exact hlt), take_succ_getD z2 0 k (by rw [G2.out]; exact hlt), HE.out, HX.out, HY.out], rfl⟩
            case measure => simp [intOf]; omega
          · have hb : (x != y) = true := by simpa using hxy
            go_wp2
            go_quiet (fail)
            go_wp2
            go_ret
            exact ⟨ret_bool (by symm; rw [decide_eq_false_iff_not]; exact take_ne_of_getD 0 k (by rw [HX.out, HY.out]; exact hxy)), _, World.drewN_drewN _ _ _⟩
        · have hkn : k = n1 := by omega
          have HK := Lib.hid hkn
          clear hkn
          go_wp2
          go_ret
          exact ⟨ret_bool (by symm; rw [decide_eq_true_iff]; exact take_eq_all (n := k) HE.out (by rw [G1.out, HK.out]) (by rw [G2.out, HK.out])), _, rfl⟩
  · have hb : ((n1 : Int) != (n2 : Int)) = true := by simp; omega
    clear g1' g2'
    have HN := Lib.hid hn; have G1 := Lib.hid g1; have G2 := Lib.hid g2
    clear hn g1 g2
    go_enter Try.func12, Try.ntmps12
    go_wp2
    go_ret
    exact ⟨ret_bool (by symm; rw [decide_eq_false_iff_not]; intro e; exact HN.out (by rw [← G1.out, ← G2.out, e])), 0, rfl⟩
end Go.Proofs.Ytlcmndbnknifhaa
/- what every program answers that is one: code -/
namespace Go.Proofs.Ytlcmndbnknifhaa
open Go.RowKit
set_option linter.unusedVariables false
set_option maxRecDepth 20000
theorem num_yesI (a : Option Addr) (n cap : Nat) (bs : List Nat) (k s : Nat) (kI sI : Int) (w : World) (h : HoldsB w a n bs) (hn : n ≤ 9223372036854775807) (h1 : 1 ≤ s) (h8 : s ≤ 8) (hk : k + s ≤ n) (ek : kI = k) (es : sI = s) :
    Calls Try.prog 59 #[.slice a n cap, .int .i64 kI, .int .i64 sI] w fun e w' => e = .returned (.tuple #[.int .i64 (wrap64 (numN bs k s : Nat)), .bool true]) ∧ w = w' := by
  subst ek es; exact num_yes a n cap bs k s w h hn h1 h8 hk
theorem cast_inj (xs ys : List Nat) : (xs.map (fun b : Nat => (b : Int)) = ys.map fun b : Nat => (b : Int)) ↔ xs = ys := by
  constructor
  · intro h
    have := congrArg (List.map Int.toNat) h
    simpa [List.map_map, Function.comp_def] using this
  · rintro rfl; rfl
theorem sameB_any (a1 a2 : Option Addr) (n1 c1 n2 c2 : Nat) (x1 x2 : List Nat) (w : World) (h1 : HoldsB w a1 n1 x1) (h2 : HoldsB w a2 n2 x2) (hl1 : n1 ≤ 4611686018427387904) (hl2 : n2 ≤ 4611686018427387904) :
    Calls Try.prog 12 #[.slice a1 n1 c1, .slice a2 n2 c2] w fun e w' => e = .returned (.bool (decide (x1 = x2))) ∧ ∃ m, w' = w.drewN m :=
  (sameBytes_any a1 a2 n1 c1 n2 c2 _ _ w h1.1 h2.1 hl1 hl2).mono fun e w' ⟨he, hw⟩ => ⟨by rw [he]; congr 2; exact decide_eq_decide.2 (cast_inj x1 x2), hw⟩
theorem HoldsB.drewN {w : World} {a : Option Addr} {n : Nat} {bs : List Nat} (h : HoldsB w a n bs) (m : Nat) : HoldsB (w.drewN m) a n bs := h.below (below_drewN w m)
theorem HoldsB.alloc {w : World} {a : Option Addr} {n : Nat} {bs : List Nat} (h : HoldsB w a n bs) (o : Obj) : HoldsB (w.alloc o) a n bs := h.below (below_one w o)
theorem own_holdsB {w : World} {base : Nat} {e : TypeId} {a : Option Addr} {n c : Nat} {bs : List Nat} (h : w.ownsRow base e 1 (.slice a n c) n (bytesV bs)) (hb : ∀ b ∈ bs, b < 256) : HoldsB w a n bs := holdsB_of_values (owns_holds h) hb
end Go.Proofs.Ytlcmndbnknifhaa
/- graph: From, Words -/
namespace Go.Proofs.Ytlcmndbnknifhaa
open Go.RowKit
set_option linter.unusedVariables false
set_option maxRecDepth 20000
def fromL (ts : List Tx) (lo : Tx) (most : Int) : List Tx := (ts.filter (fun t => !decide (cmpS t lo < 0))).take most.toNat
theorem takeL_from (lo : Tx) (most : Int) : ∀ (ts out : List Tx), (out.length : Int) < most → (takeL lo most out ts).1 = out ++ (ts.filter (fun t => !decide (cmpS t lo < 0))).take (most - out.length).toNat
  | [], out, _ => by simp [takeL]
  | x :: l, out, h => by
    rw [takeL]
    by_cases hc : cmpS x lo < 0
    · have e : takeO lo out x = out := if_pos hc
      rw [e, if_pos h, takeL_from lo most l out h, List.filter_cons_of_neg (by simpa using hc)]
    · have e : takeO lo out x = out ++ [x] := if_neg hc
      have hl : (out ++ [x]).length = out.length + 1 := by simp
      rw [e, List.filter_cons_of_pos (by simpa using hc), show (most - (out.length : Int)).toNat = (most - ((out.length : Int) + 1)).toNat + 1 by omega, List.take_succ_cons]
      by_cases hm : ((out ++ [x]).length : Int) < most
      · rw [if_pos hm, takeL_from lo most l (out ++ [x]) hm, hl, List.append_assoc]
        simp
      · rw [if_neg hm]
        rw [hl] at hm
        rw [show (most - ((out.length : Int) + 1)).toNat = 0 by omega]
        simp
theorem from_takeL (ts : List Tx) (lo : Tx) (most : Int) (h : 1 ≤ most) : (takeL lo most [] (ts.map (fun x => (⟨#[]⟩ : ByteArray) ++ x))).1 = fromL ts lo most := by
  have e : ts.map (fun x => (⟨#[]⟩ : ByteArray) ++ x) = ts := by
    conv => rhs; rw [← List.map_id ts]
    exact List.map_congr_left fun a _ => ByteArray.empty_append
  rw [e, takeL_from lo most ts [] (by simp; omega)]
  simp [fromL]
def RetTx (w : World) (ts : List Tx) (e : Ending) (w' : World) : Prop := ∃ a c, e = .returned (.slice a ts.length c) ∧ w'.ownsRow w.heap.size 9 1 (.slice a ts.length c) ts.length (strsV ts) ∧ Below w.heap.size w w'
theorem qt_start (w : World) (lo : Tx) (most : Int) (t1 t2 t3 : TypeId) : QTs w.heap.size lo most w.heap.size (w.heap.size + 1 + 1) (w.heap.size + 1) [] (((w.alloc (Obj.cells #[Value.string lo] t1)).alloc (Obj.cells #[Value.int IntKind.i64 most] t2)).alloc (Obj.cells #[Value.slice none 0 0] t3)) (fun k => w.heap.size ≤ k ∧ k < w.heap.size + 3) := by
  have hb := Below.heap_alloc ((w.alloc (Obj.cells #[Value.string lo] t1)).alloc (Obj.cells #[Value.int IntKind.i64 most] t2)) (Obj.cells #[Value.slice none 0 0] t3)
  have hc := Below.heap_alloc (w.alloc (Obj.cells #[Value.string lo] t1)) (Obj.cells #[Value.int IntKind.i64 most] t2)
  have b0 := (hb w.heap.size (by simp; omega)).trans (hc w.heap.size (by simp))
  have b1 := hb (w.heap.size + 1) (by simp)
  refine ⟨none, 0, ⟨?_, ?_, ?_, fun i => ?_, World.ownsRow_nil _ _ _ _, ⟨by omega, by omega⟩, ⟨by omega, by omega⟩, ⟨by omega, by omega⟩, by omega, by omega, fun q hq => by (cases hq), fun k hk => ?_, ?_⟩⟩
  · rw [World.cell?_of_block (w := w.alloc (Obj.cells #[Value.string lo] t1)) b0, World.cell?_alloc_at _ _ _ _ rfl]; rfl
  · rw [World.cell?_alloc_at _ _ _ _ (by simp)]; rfl
  · rw [World.cell?_of_block (w := (w.alloc (Obj.cells #[Value.string lo] t1)).alloc (Obj.cells #[Value.int IntKind.i64 most] t2)) b1, World.cell?_alloc_at _ _ _ _ (by simp)]; rfl
  · rw [World.frozen?_alloc_at _ _ _ _ (by simp)]
  · simp; omega
  · simp; omega
set_option maxHeartbeats 1600000 in
theorem gFrom_any (g : Nat) (st : List GN) (ts : List Tx) (G : GOk st ts) (S : Nat → Prop) (lo : Tx) (most : Int) (w : World) (h : GAt g st w S) : Calls Try.prog 43 #[.pointer (some ⟨g, 0, none⟩), .string lo, .int .i64 most] w (RetTx w (fromL ts lo most)) := by
  obtain ⟨h00, hr0, hN0⟩ := G.node G.root
  have hb : hasG st 0 = true := decide_eq_true (by omega)
  have CH := Lib.hid (fun w (h : GAt g st w S) => gHas_any g st S 0 w h)
  rw [hb] at CH
  have GH := Lib.hid h
  have AB := Lib.hid (fun (t1 t2 t3 : TypeId) => show Below w.heap.size w (((w.alloc (Obj.cells #[Value.string lo] t1)).alloc (Obj.cells #[Value.int IntKind.i64 most] t2)).alloc (Obj.cells #[Value.slice none 0 0] t3)) from (below_one _ _).trans (((below_one _ _).mono (by simp)).trans ((below_one _ _).mono (by simp; omega))))
  clear hb
  by_cases hm : most < 1
  · have e : fromL ts lo most = [] := by unfold fromL; rw [show most.toNat = 0 by omega]; rfl
    have d1 : decide (most < 1) = true := decide_eq_true hm
    rw [e]
    clear e
    go_enter Try.func43, Try.ntmps43
    go_wp2_with fail
    refine (CH.out _ ((gAt_ok g st).below GH.out (AB.out _ _ _))).mono ?_
    rintro e w1 ⟨rfl, rfl⟩
    go_wp2_with fail
    go_ret
    exact ⟨none, 0, rfl, World.ownsRow_nil _ _ _ _, AB.out _ _ _⟩
  · have hm1 : 1 ≤ most := by omega
    have d1 : decide (most < 1) = false := decide_eq_false hm
    have hLt := (gAt_ok g st).lt h
    have CE := Lib.hid (fun (t1 t2 t3 : TypeId) => each_any w.heap.size lo most g w.heap.size (w.heap.size + 1 + 1) (w.heap.size + 1) st ts G 12 0 ts ⟨#[]⟩ [] S (fun k => w.heap.size ≤ k ∧ k < w.heap.size + 3) _ G.root (hr0 ▸ hN0.ok) ((gAt_ok g st).below h (AB.out t1 t2 t3)) (qt_start w lo most t1 t2 t3) (fun k hk hk2 => by have := hLt k hk; omega) (by have := hN0.ok.n; rw [hr0] at this; simp only [List.length_nil]; omega) (by simp [ByteArray.size]))
    rw [from_takeL ts lo most hm1] at CE
    clear h hLt hN0 hr0
    go_enter Try.func43, Try.ntmps43
    go_wp2_with fail
    refine (CH.out _ ((gAt_ok g st).below GH.out (AB.out _ _ _))).mono ?_
    rintro e w1 ⟨rfl, rfl⟩
    go_wp2_with fail
    refine (CE.out _ _ _).mono ?_
    rintro e w2 ⟨rfl, S2, ⟨oa, oc, q2⟩, s2, t2⟩
    have c2 := q2.c2
    have HB := Lib.hid ((AB.out _ _ _).trans (t2.below (fun k hk => hk.1) (by simp; omega)))
    have Q2 := Lib.hid q2
    clear q2 s2 t2 CE
    go_wp2_with fail
    go_ret
    exact ⟨oa, oc, rfl, Q2.out.o, HB.out⟩
theorem gWords_any (g : Nat) (st : List GN) (ts : List Tx) (G : GOk st ts) (S : Nat → Prop) (w : World) (h : GAt g st w S) : Calls Try.prog 22 #[.pointer (some ⟨g, 0, none⟩)] w (RetTx w (fromL ts ⟨#[]⟩ 60)) := by
  have CH := Lib.hid (gFrom_any g st ts G S ⟨#[]⟩ 60 w h)
  go_enter Try.func22, Try.ntmps22
  go_wp2_with fail
  refine CH.out.mono ?_
  rintro e w1 ⟨a, c, rfl, ho, hb⟩
  go_wp2_with fail
  go_ret
  exact ⟨a, c, rfl, ho, hb⟩
theorem words_all {ts : List Tx} (h : ts.length ≤ 60) : fromL ts ⟨#[]⟩ 60 = ts := by
  unfold fromL
  have e : ts.filter (fun t => !decide (cmpS t (⟨#[]⟩ : ByteArray) < 0)) = ts := List.filter_eq_self.2 (fun t _ => by simpa using cmp_empty t)
  rw [e]
  exact List.take_of_length_le (by simpa using h)
end Go.Proofs.Ytlcmndbnknifhaa
