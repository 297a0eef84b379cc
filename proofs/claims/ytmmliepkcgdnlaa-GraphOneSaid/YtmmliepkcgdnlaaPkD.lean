/- texts joined -/
import Derived.Test.YtmmliepkcgdnlaaPkC
/- graph: one word's thread, plain -/
namespace Go.Proofs.Ytmmliepkcgdnlaa
open Go.RowKit
set_option linter.unusedVariables false
set_option maxRecDepth 20000
theorem len_emptyG : lenS (⟨#[]⟩ : Tx) = 0 := by decide
attribute [local irreducible] rstS labS lenS runesS
def thread : Nat → Nat → Tx → List GN
  | 0, n, w => [⟨[w], true, []⟩]
  | f + 1, n, w => ⟨[w], false, [⟨(labS w : Int), ((n + 1 : Nat) : Int)⟩]⟩ :: thread f (n + 1) (rstS w)
theorem fol_one (w : Tx) : folS [w] = (labS w, [rstS w]) := by simp [folS, List.takeWhile]
theorem edges_one (rf : List GN → List Tx → Nat × List GN) (w : Tx) (st : List GN) (r : Nat × List GN) (h : rf st [rstS w] = r) : edgesF rf 1 [w] [] st = ([⟨(labS w : Int), (r.1 : Int)⟩], r.2) := by
  unfold edgesF
  rw [if_neg (by simp), fol_one]
  simp only [h, List.nil_append]
  rfl
theorem bod_self {w : Tx} (h : 0 < w.size) : finS [w] = false ∧ bodS [w] = [w] := by
  have hfin : finS [w] = false := by
    unfold finS
    refine decide_eq_false (fun e => ?_)
    rw [List.head?_cons] at e
    injection e with e
    rw [e] at h
    exact absurd h (by simp [ByteArray.size])
  exact ⟨hfin, by unfold bodS; rw [if_neg (by rw [hfin]; simp)]⟩
theorem lenS_empty (w : Tx) (h : lenS w = 0) : w = ⟨#[]⟩ := by
  rcases Nat.eq_zero_or_pos w.size with h0 | h0
  · exact empty_size h0
  · have := (rst_len (by omega) h0).2
    have := (rst_len (by omega) h0).1
    omega
theorem reach_thread (m : Nat) : ∀ (f : Nat) (st : List GN) (w : Tx), lenS w = m → m ≤ f → findG st [w] = none → (∀ g ∈ st, ∀ u, g.rests = [u] → w.size ≤ u.size) → reachF (f + 1) st [w] = (st.length, st ++ thread m st.length w) := by
  induction m with
  | zero =>
    intro f st w hl hf hn _
    obtain rfl := lenS_empty w (by simpa using hl)
    have hb : bodS [(⟨#[]⟩ : Tx)] = [] := by simp [bodS, finS]
    have := reach_new (f := f) (t := []) (es := []) hn (by rw [hb, List.append_nil]; rfl)
    rw [this]
    simp [finS, thread]
  | succ m ih =>
    intro f st w hl hf hn hs
    obtain ⟨f', rfl⟩ : ∃ f', f = f' + 1 := ⟨f - 1, by omega⟩
    have h0 : 0 < w.size := by
      rcases Nat.eq_zero_or_pos w.size with h | h
      · rw [empty_size h] at hl
        have := len_emptyG
        omega
      · exact h
    have hr := rst_len (t := w) (by omega) h0
    have hz := (rst_size (t := w) (by omega) h0).2
    obtain ⟨hfin, hb⟩ := bod_self h0
    have hn2 : findG (st ++ [⟨[w], false, []⟩]) [rstS w] = none := by
      unfold findG
      rw [List.findIdx?_eq_none_iff]
      intro g hg
      refine decide_eq_false (fun e => ?_)
      rcases List.mem_append.1 hg with hg | hg
      · have := hs g hg _ e; omega
      · simp only [List.mem_singleton] at hg
        rw [hg] at e
        injection e with e
        rw [← e] at hz; omega
    have h2 := ih f' (st ++ [⟨[w], false, []⟩]) (rstS w) (by omega) (by omega) hn2 (fun g hg u e => by
      rcases List.mem_append.1 hg with hg | hg
      · have := hs g hg _ e; omega
      · simp only [List.mem_singleton] at hg
        rw [hg] at e
        injection e with e
        rw [← e]; omega)
    have hk : edgesF (reachF (f' + 1)) (bodS [w]).length (bodS [w]) [] (st ++ [⟨[w], false, []⟩]) = ([⟨(labS w : Int), ((st.length + 1 : Nat) : Int)⟩], (st ++ [⟨[w], false, []⟩]) ++ thread m (st.length + 1) (rstS w)) := by
      rw [hb]
      have e1 : (st ++ [(⟨[w], false, []⟩ : GN)]).length = st.length + 1 := by simp
      rw [e1] at h2
      rw [List.length_singleton, edges_one _ _ _ _ h2]
    rw [reach_new hn hk, hfin]
    rfl
theorem thread_len : ∀ (m n : Nat) (w : Tx), (thread m n w).length = m + 1
  | 0, n, w => rfl
  | m + 1, n, w => by simp [thread, thread_len m]
theorem thread_at : ∀ (m n : Nat) (w : Tx), lenS w = m → ∀ i, i ≤ m → ((thread m n w).getD i gn0).final = decide (i = m) ∧ ((thread m n w).getD i gn0).edges = if i < m then [⟨((runesS w).getD i 0 : Int), ((n + i + 1 : Nat) : Int)⟩] else []
  | 0, n, w, h, i, hi => by
    obtain rfl : i = 0 := by omega
    exact ⟨rfl, rfl⟩
  | m + 1, n, w, h, i, hi => by
    have h0 : 0 < w.size := by
      rcases Nat.eq_zero_or_pos w.size with h' | h'
      · rw [empty_size h'] at h
        have := len_emptyG
        omega
      · exact h'
    have hr := rst_len (t := w) (by omega) h0
    rw [rst_runes (by omega) h0]
    cases i with
    | zero => exact ⟨rfl, by rw [if_pos (by omega)]; rfl⟩
    | succ i =>
      obtain ⟨a1, a2⟩ := thread_at m (n + 1) (rstS w) (by omega) i (by omega)
      show ((thread m (n + 1) (rstS w)).getD i gn0).final = _ ∧ ((thread m (n + 1) (rstS w)).getD i gn0).edges = _
      refine ⟨by rw [a1]; exact decide_eq_decide.2 (by omega), ?_⟩
      rw [a2]
      by_cases hi : i < m
      · rw [if_pos hi, if_pos (by omega), show n + 1 + i + 1 = n + (i + 1) + 1 by omega]; rfl
      · rw [if_neg hi, if_neg (by omega)]
theorem good_one {w : Tx} (h : wordP w) : goodV [w] = 0 := by
  unfold goodV
  rw [if_neg (by simp), if_neg (by rintro ⟨t, ht, hn⟩; simp only [List.mem_singleton] at ht; exact hn (ht ▸ h)), if_pos (show SortedS [w] from List.pairwise_singleton _ _)]
theorem grS_one {w : Tx} (h : wordP w) : ∃ m : Nat, lenS w = m ∧ (runesS w).length = m ∧ m ≤ 12 ∧ grS [w] = thread m 0 w := by
  have h1 : 1 ≤ lenS w := h.1
  have h2 : lenS w ≤ 12 := h.2
  have h3 := (lenS_pos (show 0 ≤ lenS w by omega)).2
  refine ⟨(runesS w).length, h3, rfl, by omega, ?_⟩
  have := reach_thread (runesS w).length 12 [] w h3 (by omega) rfl (fun g hg => by simp at hg)
  unfold grS
  rw [this]; rfl
end Go.Proofs.Ytmmliepkcgdnlaa
