/- texts joined -/
import Derived.Test.YtmmliepkcgdnlaaPkA
import Derived.Test.YtmmliepkcgdnlaaPkB
import Derived.SliceStrings
/- graph: what a built graph keeps, plain -/
namespace Go.Proofs.Ytmmliepkcgdnlaa
open Go.RowKit
set_option linter.unusedVariables false
set_option maxRecDepth 20000
def restsG (st : List GN) : List (List Tx) := st.map GN.rests
/-- the edges of the texts' first runes, each to a node of what is behind it -/
def EdOk (R : List (List Tx)) : List Tx → List EdP → Prop
  | l, [] => l = []
  | l, e :: es => l ≠ [] ∧ e.r = ((folS l).1 : Int) ∧ (∃ k : Nat, e.dst = (k : Int) ∧ R[k]? = some (folS l).2) ∧ EdOk R (l.drop (folS l).2.length) es
theorem EdOk.app {R T : List (List Tx)} : ∀ {es : List EdP} {l : List Tx}, EdOk R l es → EdOk (R ++ T) l es
  | [], l, h => h
  | e :: es, l, h => by
    obtain ⟨h1, h2, ⟨k, h3, h4⟩, h5⟩ := h
    have hk := (List.getElem?_eq_some_iff.1 h4).1
    exact ⟨h1, h2, ⟨k, h3, by rw [List.getElem?_append_left hk]; exact h4⟩, h5.app⟩
theorem OkL.mono {f g : Nat} {l : List Tx} (h : OkL f l) (hg : f ≤ g) : OkL g l := ⟨h.ord, h.lo, fun t ht => by have := h.hi t ht; omega, h.n, h.sz⟩
structure NOk (R : List (List Tx)) (g : GN) : Prop where
  fin : g.final = finS g.rests
  ed : EdOk R (bodS g.rests) g.edges
  ok : OkL 12 g.rests
theorem NOk.app {R T : List (List Tx)} {g : GN} (h : NOk R g) : NOk (R ++ T) g := ⟨h.fin, h.ed.app, h.ok⟩
theorem restsG_app (a b : List GN) : restsG (a ++ b) = restsG a ++ restsG b := by simp [restsG]
theorem find_none {st : List GN} {s : List Tx} (h : findG st s = none) : s ∉ restsG st := by
  unfold findG at h
  rw [List.findIdx?_eq_none_iff] at h
  intro hm
  obtain ⟨g, hg, e⟩ := List.mem_map.1 hm
  have := h g hg
  simp [e] at this
theorem find_some {st : List GN} {s : List Tx} {i : Nat} (h : findG st s = some i) : (restsG st)[i]? = some s := by
  unfold findG at h
  obtain ⟨h1, h2, -⟩ := List.findIdx?_eq_some_iff_getElem.1 h
  have e : st[i].rests = s := of_decide_eq_true h2
  rw [restsG, List.getElem?_map, List.getElem?_eq_getElem h1, Option.map_some, e]
theorem reach_found {f : Nat} {st : List GN} {s : List Tx} {i : Nat} (h : findG st s = some i) : reachF (f + 1) st s = (i, st) := by unfold reachF; rw [h]
theorem set_mid {α : Type} (a b : List α) (x y : α) : ((a ++ [x]) ++ b).set a.length y = a ++ (y :: b) := by
  rw [List.append_assoc, List.set_append_right _ _ (Nat.le_refl _), Nat.sub_self]; rfl
theorem reach_new {f : Nat} {st t : List GN} {s : List Tx} {es : List EdP} (h : findG st s = none) (hk : edgesF (reachF f) (bodS s).length (bodS s) [] (st ++ [⟨s, false, []⟩]) = (es, (st ++ [⟨s, false, []⟩]) ++ t)) :
    reachF (f + 1) st s = (st.length, st ++ (⟨s, finS s, es⟩ :: t)) := by
  unfold reachF
  rw [h, hk]
  simp only [set_mid]
structure ROk (st t : List GN) (s : List Tx) (i : Nat) : Prop where
  at_ : (restsG (st ++ t))[i]? = some s
  nodes : ∀ g ∈ t, NOk (restsG (st ++ t)) g
  nodup : (restsG st).Nodup → (restsG (st ++ t)).Nodup
  some_ : s ≠ [] → ∀ g ∈ t, g.rests ≠ []
theorem rok_new {f : Nat} {st t : List GN} {s : List Tx} {es : List EdP} (hs : OkL 12 s) (h : findG st s = none) (he : EdOk (restsG ((st ++ [⟨s, false, []⟩]) ++ t)) (bodS s) es) (hn : ∀ g ∈ t, NOk (restsG ((st ++ [⟨s, false, []⟩]) ++ t)) g) (hd : (restsG (st ++ [⟨s, false, []⟩])).Nodup → (restsG ((st ++ [⟨s, false, []⟩]) ++ t)).Nodup) (hm : s ≠ [] → ∀ g ∈ t, g.rests ≠ []) :
    ROk st (⟨s, finS s, es⟩ :: t) s st.length := by
  have e : restsG (st ++ (⟨s, finS s, es⟩ :: t)) = restsG ((st ++ [⟨s, false, []⟩]) ++ t) := by simp [restsG]
  have hl : (restsG st).length = st.length := by simp [restsG]
  refine ⟨?_, fun g hg => ?_, fun hnd => ?_, fun h0 g hg => ?_⟩
  · rw [restsG_app, List.getElem?_append_right (by omega), hl, Nat.sub_self]; rfl
  · rw [e]
    rcases List.mem_cons.1 hg with rfl | hg
    · exact ⟨rfl, he, hs⟩
    · exact hn g hg
  · rw [e]
    refine hd ?_
    rw [restsG_app]
    refine List.nodup_append.2 ⟨hnd, by simp [restsG], fun a ha b hb => ?_⟩
    simp only [restsG, List.map_cons, List.map_nil, List.mem_singleton] at hb
    subst hb
    exact fun e2 => find_none h (e2 ▸ ha)
  · rcases List.mem_cons.1 hg with rfl | hg
    · exact h0
    · exact hm h0 g hg
theorem bod_none {s : List Tx} (h : OkL 0 s) : bodS s = [] := by
  cases hbs : bodS s with
  | nil => rfl
  | cons t l =>
    have hm : t ∈ bodS s := by rw [hbs]; simp
    have h1 := bod_pos h.ord t hm
    have h2 := rst_len (h.bod.lo t hm) h1
    have h3 := h.bod.hi t hm
    omega
theorem reach_ok (f : Nat) (hf : f ≤ 12) : ∀ (st : List GN) (s : List Tx), OkL f s → ∃ t i, reachF (f + 1) st s = (i, st ++ t) ∧ ROk st t s i := by
  induction f with
  | zero =>
    intro st s h
    cases hfd : findG st s with
    | some i => exact ⟨[], i, by rw [reach_found hfd, List.append_nil], ⟨by rw [List.append_nil]; exact find_some hfd, fun g hg => by simp at hg, fun h => by rwa [List.append_nil], fun _ g hg => by simp at hg⟩⟩
    | none =>
      have hb := bod_none h
      refine ⟨[⟨s, finS s, []⟩], st.length, reach_new (t := []) hfd (by rw [hb, List.append_nil]; rfl), rok_new (f := 0) (t := []) (h.mono hf) hfd (by rw [hb]; rfl) (fun g hg => by simp at hg) (fun h => by rwa [List.append_nil]) (fun _ g hg => by simp at hg)⟩
  | succ f ih =>
    intro st s h
    cases hfd : findG st s with
    | some i => exact ⟨[], i, by rw [reach_found hfd, List.append_nil], ⟨by rw [List.append_nil]; exact find_some hfd, fun g hg => by simp at hg, fun h => by rwa [List.append_nil], fun _ g hg => by simp at hg⟩⟩
    | none =>
      have key : ∀ (n : Nat) (l : List Tx) (es : List EdP) (st1 : List GN), l.length ≤ n → OkL (f + 1) l → (∀ t ∈ l, 0 < t.size) → ∃ t es', edgesF (reachF (f + 1)) n l es st1 = (es ++ es', st1 ++ t) ∧ EdOk (restsG (st1 ++ t)) l es' ∧ (∀ g ∈ t, NOk (restsG (st1 ++ t)) g) ∧ ((restsG st1).Nodup → (restsG (st1 ++ t)).Nodup) ∧ ∀ g ∈ t, g.rests ≠ [] := by
        intro n
        induction n with
        | zero =>
          intro l es st1 hn _ _
          obtain rfl : l = [] := List.eq_nil_of_length_eq_zero (by omega)
          exact ⟨[], [], by simp [edgesF], rfl, fun g hg => by simp at hg, fun h => by rwa [List.append_nil], fun g hg => by simp at hg⟩
        | succ n ihn =>
          intro l es st1 hn hl hp
          by_cases h0 : l = []
          · subst h0
            exact ⟨[], [], by simp [edgesF], rfl, fun g hg => by simp at hg, fun h => by rwa [List.append_nil], fun g hg => by simp at hg⟩
          · obtain ⟨hfl, hfl2⟩ := fol_len l h0
            obtain ⟨t1, i, e1, r1⟩ := ih (by omega) st1 (folS l).2 (hl.fol hp)
            obtain ⟨t2, es2, e2, d1, d2, d3, d4⟩ := ihn (l.drop (folS l).2.length) (es ++ [⟨((folS l).1 : Int), (i : Int)⟩]) (st1 ++ t1) (by rw [List.length_drop]; omega) (hl.drop _) (fun t ht => hp t (List.mem_of_mem_drop ht))
            have hne : (folS l).2 ≠ [] := fun e => by rw [e] at hfl; simp at hfl
            refine ⟨t1 ++ t2, ⟨((folS l).1 : Int), (i : Int)⟩ :: es2, ?_, ?_, fun g hg => ?_, fun hd => ?_, fun g hg => ?_⟩
            · unfold edgesF
              rw [if_neg h0, e1]
              simp only
              rw [e2, List.append_assoc, List.append_assoc]; rfl
            · rw [← List.append_assoc]
              refine ⟨h0, rfl, ⟨i, rfl, ?_⟩, d1⟩
              rw [restsG_app, List.getElem?_append_left (List.getElem?_eq_some_iff.1 r1.at_).1]
              exact r1.at_
            · rw [← List.append_assoc]
              rcases List.mem_append.1 hg with hg | hg
              · rw [restsG_app]; exact (r1.nodes g hg).app
              · exact d2 g hg
            · rw [← List.append_assoc]; exact d3 (r1.nodup hd)
            · rcases List.mem_append.1 hg with hg | hg
              · exact r1.some_ hne g hg
              · exact d4 g hg
      obtain ⟨t, es, k1, k2, k3, k4, k5⟩ := key (bodS s).length (bodS s) [] (st ++ [⟨s, false, []⟩]) (Nat.le_refl _) h.bod (bod_pos h.ord)
      exact ⟨_, _, reach_new hfd k1, rok_new (f := 0) (h.mono hf) hfd k2 k3 k4 (fun _ => k5)⟩
/-- the nodes of the words -/
structure GOk (st : List GN) (ts : List Tx) : Prop where
  root : (restsG st)[0]? = some ts
  nodes : ∀ g ∈ st, NOk (restsG st) g
  nodup : (restsG st).Nodup
  some_ : ts ≠ [] → ∀ g ∈ st, g.rests ≠ []
theorem graph_ok {ts : List Tx} (h : OkL 12 ts) : GOk (reachF 13 [] ts).2 ts := by
  obtain ⟨t, i, e, r⟩ := reach_ok 12 (Nat.le_refl _) [] ts h
  have h0 : (reachF 13 [] ts).1 = 0 := by
    unfold reachF
    have : findG [] ts = none := rfl
    rw [this]; rfl
  rw [e] at h0 ⊢
  simp only [List.nil_append] at *
  subst h0
  exact ⟨by simpa using r.at_, fun g hg => by simpa using r.nodes g hg, by simpa [restsG] using r.nodup (by simp [restsG]), r.some_⟩
end Go.Proofs.Ytmmliepkcgdnlaa
/- graph: along a text's runes one comes to an end just if it is there -/
namespace Go.Proofs.Ytmmliepkcgdnlaa
open Go.RowKit
set_option linter.unusedVariables false
set_option maxRecDepth 20000
theorem lab_le {s t : Tx} (hs : 0 ≤ lenS s) (ht : 0 ≤ lenS t) (s0 : 0 < s.size) (t0 : 0 < t.size) (h : cmpS s t < 0) : labS s ≤ labS t := by
  rw [cmpS_runes s t hs ht, rst_runes hs s0, rst_runes ht t0] at h
  simp only [lexN] at h
  by_cases h1 : labS s ≤ labS t
  · exact h1
  · split at h <;> first | omega | (split at h <;> omega)
/-- texts in order, none empty, each well made -/
structure Run (l : List Tx) : Prop where
  ord : SortedS l
  pos : ∀ t ∈ l, 0 < t.size
  lo : ∀ t ∈ l, 0 ≤ lenS t
theorem Run.drop {l : List Tx} (h : Run l) (k : Nat) : Run (l.drop k) :=
  ⟨List.Pairwise.sublist (List.drop_sublist _ _) h.ord, fun t ht => h.pos t (List.mem_of_mem_drop ht), fun t ht => h.lo t (List.mem_of_mem_drop ht)⟩
theorem dw_first {α : Type} (p : α → Bool) : ∀ (l : List α) (x : α) (m : List α), l.dropWhile p = x :: m → p x = false
  | [], x, m, h => by simp at h
  | y :: l, x, m, h => by
    rw [List.dropWhile_cons] at h
    split at h
    · exact dw_first p l x m h
    · rename_i hy
      injection h with h1 h2
      subst h1
      simpa using hy
theorem drop_tw {α : Type} (p : α → Bool) : ∀ l : List α, l.drop (l.takeWhile p).length = l.dropWhile p
  | [] => rfl
  | x :: l => by
    by_cases h : p x = true
    · rw [List.takeWhile_cons, if_pos h, List.dropWhile_cons, if_pos h, List.length_cons, List.drop_succ_cons, drop_tw p l]
    · rw [List.takeWhile_cons, if_neg h, List.dropWhile_cons, if_neg h]; rfl
/-- behind the first's own, all begin with another rune -/
theorem Run.rest {s : Tx} {l : List Tx} (h : Run (s :: l)) : ∀ t ∈ (s :: l).drop (folS (s :: l)).2.length, labS s < labS t := by
  have e : (folS (s :: l)).2.length = ((s :: l).takeWhile (fun t => decide (labS t = labS s))).length := by unfold folS; rw [List.length_map]
  rw [e, drop_tw]
  cases hd : (s :: l).dropWhile (fun t => decide (labS t = labS s)) with
  | nil => intro t ht; simp at ht
  | cons x m =>
    have hx : labS x ≠ labS s := of_decide_eq_false (dw_first (fun t => decide (labS t = labS s)) _ _ _ hd)
    have sub : (x :: m).Sublist (s :: l) := hd ▸ List.dropWhile_sublist _
    have hxm : x ∈ s :: l := sub.subset (by simp)
    have hsx : labS s ≤ labS x := by
      rcases List.mem_cons.1 hxm with rfl | hm
      · exact Nat.le_refl _
      · exact lab_le (h.lo s (by simp)) (h.lo x hxm) (h.pos s (by simp)) (h.pos x hxm) ((List.pairwise_cons.1 h.ord).1 x hm)
    have ho := List.Pairwise.sublist sub h.ord
    intro t ht
    have htm := sub.subset ht
    have hxt : labS x ≤ labS t := by
      rcases List.mem_cons.1 ht with rfl | hm
      · exact Nat.le_refl _
      · exact lab_le (h.lo x hxm) (h.lo t htm) (h.pos x hxm) (h.pos t htm) ((List.pairwise_cons.1 ho).1 t hm)
    omega
theorem same_lab {s t : Tx} (hs : 0 ≤ lenS s) (ht : 0 ≤ lenS t) (s0 : 0 < s.size) (t0 : 0 < t.size) (hl : labS s = labS t) (hr : rstS s = rstS t) : s = t := by
  have h := rst_ord hs ht s0 t0 hl
  rw [hr, cmpS_same] at h
  exact cmpS_zero.1 h.symm
theorem mem_fol {s : Tx} {l : List Tx} (h : Run (s :: l)) {w : Tx} (w0 : 0 < w.size) (wl : 0 ≤ lenS w) (hl : labS s = labS w) : w ∈ s :: l ↔ rstS w ∈ (folS (s :: l)).2 := by
  have sub := List.takeWhile_sublist (l := s :: l) (fun t => decide (labS t = labS s))
  have e : (folS (s :: l)).2 = ((s :: l).takeWhile (fun t => decide (labS t = labS s))).map rstS := rfl
  constructor
  · intro hm
    rw [e]
    refine List.mem_map.2 ⟨w, ?_, rfl⟩
    rw [← List.takeWhile_append_dropWhile (p := fun t => decide (labS t = labS s)) (l := s :: l)] at hm
    rcases List.mem_append.1 hm with hm | hm
    · exact hm
    · have e2 : (folS (s :: l)).2.length = ((s :: l).takeWhile (fun t => decide (labS t = labS s))).length := by unfold folS; rw [List.length_map]
      rw [← drop_tw, ← e2] at hm
      have := h.rest w hm
      omega
  · intro hm
    rw [e] at hm
    obtain ⟨u, hu, e3⟩ := List.mem_map.1 hm
    have hum := sub.subset hu
    have hul : labS u = labS s := by have h1 := mem_tw (p := fun t => decide (labS t = labS s)) hu; exact of_decide_eq_true h1
    rw [← same_lab (h.lo u hum) wl (h.pos u hum) w0 (hul.trans hl) e3]
    exact hum
theorem mem_past {s : Tx} {l : List Tx} {w : Tx} (hl : labS s ≠ labS w) : w ∈ s :: l ↔ w ∈ (s :: l).drop (folS (s :: l)).2.length := by
  have e2 : (folS (s :: l)).2.length = ((s :: l).takeWhile (fun t => decide (labS t = labS s))).length := by unfold folS; rw [List.length_map]
  rw [e2, drop_tw]
  conv => lhs; rw [← List.takeWhile_append_dropWhile (p := fun t => decide (labS t = labS s)) (l := s :: l)]
  rw [List.mem_append]
  constructor
  · rintro (h | h)
    · have h1 := mem_tw (p := fun t => decide (labS t = labS s)) h
      exact absurd (of_decide_eq_true h1).symm hl
    · exact h
  · exact Or.inr
theorem findE_ok {R : List (List Tx)} {w : Tx} (w0 : 0 < w.size) (wl : 0 ≤ lenS w) : ∀ (es : List EdP) (l : List Tx), EdOk R l es → Run l →
    (∃ (k : Nat) (m : List Tx), findE (labS w : Int) es = ((k : Int), true) ∧ R[k]? = some m ∧ (w ∈ l ↔ rstS w ∈ m)) ∨ (findE (labS w : Int) es = (0, false) ∧ w ∉ l)
  | [], l, h, _ => Or.inr ⟨rfl, by rw [show l = [] from h]; simp⟩
  | e :: es, [], h, _ => absurd rfl h.1
  | e :: es, s :: l, h, hr => by
    obtain ⟨h1, h2, ⟨k, h3, h4⟩, h5⟩ := h
    have h2 : e.r = (labS s : Int) := h2
    by_cases hl : labS s = labS w
    · refine Or.inl ⟨k, (folS (s :: l)).2, ?_, h4, mem_fol hr w0 wl hl⟩
      rw [findE, if_pos (by rw [h2, hl]), h3]
    · have hne : ¬ e.r = (labS w : Int) := fun e2 => hl (by rw [h2] at e2; exact Int.ofNat.inj e2)
      rw [findE, if_neg hne, mem_past hl]
      exact findE_ok w0 wl es _ h5 (hr.drop _)
theorem ed_good {R : List (List Tx)} : ∀ (es : List EdP) (l : List Tx), EdOk R l es → Run l → ∀ e ∈ es, e.r ≠ 65533
  | [], l, _, _ => fun e he => by simp at he
  | e :: es, [], h, _ => absurd rfl h.1
  | e :: es, s :: l, h, hr => by
    obtain ⟨h1, h2, -, h5⟩ := h
    have h2 : e.r = (labS s : Int) := h2
    intro x hx
    rcases List.mem_cons.1 hx with rfl | hx
    · have := (good_first (hr.lo s (by simp)) (hr.pos s (by simp))).1
      rw [h2]
      intro e2
      exact this (Int.ofNat.inj e2)
    · exact ed_good es _ h5 (hr.drop _) x hx
theorem OkL.run {f : Nat} {l : List Tx} (h : OkL f l) : Run (bodS l) := ⟨h.bod.ord, bod_pos h.ord, h.bod.lo⟩
theorem GOk.node {st : List GN} {ts : List Tx} (G : GOk st ts) {k : Nat} {l : List Tx} (h : (restsG st)[k]? = some l) : k < st.length ∧ (st.getD k gn0).rests = l ∧ NOk (restsG st) (st.getD k gn0) := by
  obtain ⟨h1, h2⟩ := List.getElem?_eq_some_iff.1 h
  have hk : k < st.length := by simpa [restsG] using h1
  have e : st.getD k gn0 = st[k] := by rw [List.getD_eq_getElem?_getD, List.getElem?_eq_getElem hk]; rfl
  refine ⟨hk, ?_, ?_⟩
  · rw [e, ← h2]; simp [restsG]
  · rw [e]; exact G.nodes _ (List.getElem_mem hk)
theorem fin_mem {l : List Tx} (h : SortedS l) : finS l = decide ((⟨#[]⟩ : ByteArray) ∈ l) := by
  cases l with
  | nil => rfl
  | cons s l =>
    unfold finS
    refine decide_eq_decide.2 ?_
    rw [List.head?_cons, List.mem_cons]
    constructor
    · intro e; injection e with e; exact Or.inl e.symm
    · rintro (e | e)
      · rw [e]
      · exact absurd ((List.pairwise_cons.1 h).1 _ e) (cmp_empty s)
theorem mem_bod {l : List Tx} {w : Tx} (h : 0 < w.size) : w ∈ l ↔ w ∈ bodS l := by
  unfold bodS
  split
  · rename_i hf
    cases l with
    | nil => simp
    | cons s l =>
      have : s = ⟨#[]⟩ := by
        have h2 : (s :: l).head? = some (⟨#[]⟩ : ByteArray) := of_decide_eq_true hf
        rw [List.head?_cons] at h2; injection h2
      rw [List.mem_cons, List.tail_cons]
      refine ⟨fun e => e.resolve_left fun e2 => ?_, Or.inr⟩
      rw [e2, this] at h
      exact absurd h (by simp [ByteArray.size])
  · exact Iff.rfl
theorem has_at {st : List GN} {k : Nat} (h : k < st.length) : hasG st (k : Int) = true ∧ edgesG st (k : Int) = (st.getD k gn0).edges ∧ finG st (k : Int) = (st.getD k gn0).final := by
  have h1 : hasG st (k : Int) = true := by unfold hasG; exact decide_eq_true (by omega)
  refine ⟨h1, ?_, ?_⟩
  · unfold edgesG; rw [if_pos h1]; rfl
  · unfold finG; rw [h1]; simp
theorem walk_in {st : List GN} {ts : List Tx} (G : GOk st ts) : ∀ (n : Nat) (w : Tx), w.size ≤ n → 0 ≤ lenS w → ∀ (k : Nat) (l : List Tx), (restsG st)[k]? = some l → endG st (walkG st (runesS w) (k : Int)) = decide (w ∈ l) := by
  intro n
  induction n with
  | zero =>
    intro w hw _ k l hk
    obtain rfl := empty_size (Nat.le_zero.1 hw)
    obtain ⟨h1, h2, h3⟩ := G.node hk
    have := (has_at h1).2.2
    show finG st (k : Int) = _
    rw [this, h3.fin, h2]
    exact fin_mem (h2 ▸ h3.ok.ord)
  | succ n ih =>
    intro w hw hl k l hk
    obtain ⟨h1, h2, h3⟩ := G.node hk
    obtain ⟨a1, a2, a3⟩ := has_at h1
    rcases Nat.eq_zero_or_pos w.size with h0 | h0
    · obtain rfl := empty_size h0
      show finG st (k : Int) = _
      rw [a3, h3.fin, h2]
      exact fin_mem (h2 ▸ h3.ok.ord)
    · have hb : w ∈ l ↔ w ∈ bodS l := mem_bod h0
      have he := h3.ed
      have hr := h3.ok.run
      rw [h2] at he hr
      rw [rst_runes hl h0]
      unfold walkG nextG
      rw [a2]
      rcases findE_ok h0 hl _ _ he hr with ⟨k', m, e1, e2, e3⟩ | ⟨e1, e2⟩
      · rw [e1, if_pos rfl]
        rw [ih (rstS w) (by have := (rst_size hl h0).2; omega) (rst_len hl h0).1 k' m e2]
        exact decide_eq_decide.2 (e3.symm.trans hb.symm)
      · rw [e1, if_neg (by simp)]
        show false = _
        exact (decide_eq_false (fun e => e2 (hb.1 e))).symm
theorem edges_good {st : List GN} {ts : List Tx} (G : GOk st ts) (n : Int) : ∀ e ∈ edgesG st n, e.r ≠ 65533 := by
  cases hb : hasG st n with
  | false => unfold edgesG; rw [if_neg (by rw [hb]; simp)]; intro e he; simp at he
  | true =>
    obtain ⟨k, rfl, hk⟩ := hasG_yes hb
    rw [(has_at hk).2.1]
    have hR : (restsG st)[k]? = some st[k].rests := by simp [restsG, hk]
    obtain ⟨h1, h2, h3⟩ := G.node hR
    exact ed_good _ _ h3.ed h3.ok.run
theorem walk_bad {st : List GN} {ts : List Tx} (G : GOk st ts) : ∀ (rs : List Nat) (n : Int), 65533 ∈ rs → endG st (walkG st rs n) = false
  | [], n, h => by simp at h
  | r :: l, n, h => by
    unfold walkG
    by_cases h1 : r = 65533
    · subst h1
      unfold nextG
      rw [findE_none ((65533 : Nat) : Int) _ (fun x hx => edges_good G n x hx), if_neg (by simp)]; rfl
    · have h2 : 65533 ∈ l := (List.mem_cons.1 h).resolve_left (Ne.symm h1)
      split
      · exact walk_bad G l _ h2
      · rfl
/-- a text is there just if its runes lead to an end -/
theorem has_in {st : List GN} {ts : List Tx} (G : GOk st ts) (hts : ∀ t ∈ ts, 0 ≤ lenS t) (w : Tx) : hasW st (runesS w) = decide (w ∈ ts) := by
  unfold hasW
  by_cases hl : 0 ≤ lenS w
  · exact walk_in G w.size w (Nat.le_refl _) hl 0 ts G.root
  · rw [show (0 : Int) = ((0 : Nat) : Int) from rfl]
    have hm : 65533 ∈ runesS w := by
      refine Classical.byContradiction fun hn => hl ?_
      unfold lenS
      rw [if_neg hn]; omega
    rw [walk_bad G _ _ hm]
    exact (decide_eq_false (fun e => hl (hts w e))).symm
end Go.Proofs.Ytmmliepkcgdnlaa
/- contract of text.Runes -/
namespace Go.Proofs.Ytmmliepkcgdnlaa
open Go.RowKit
set_option linter.unusedVariables false
set_option maxRecDepth 20000
set_option maxHeartbeats 800000 in
theorem runes_good (s : ByteArray) (w : World) (hs : s.size ≤ 1048576) (hg : 0 ≤ lenS s) :
    Calls Try.prog 35 #[.string s] w fun e w' => ∃ a c, e = .returned (.tuple #[.slice a (runesS s).length c, .bool true]) ∧ RetR 21 w (intsN (runesS s)) a c w' := by
  obtain ⟨i0, hi, hz0, hz1, hz2⟩ := info_parts i32_info
  obtain ⟨hgood, hlen⟩ := lenS_pos hg
  have hle := runesS_le s
  obtain ⟨n, hn⟩ : ∃ n, (runesS s).length = n := ⟨_, rfl⟩
  rw [hn] at hlen hle ⊢
  have HN := Lib.hid hn; have HLEN := Lib.hid hlen; have HGD := Lib.hid hgood
  clear hn hlen hgood hg
  go_enter Try.func35, Try.ntmps35
  go_wp2_with fail
  refine (len_any s _ (by omega)).mono ?_
  rintro e w1 ⟨rfl, hb1⟩
  rw [HLEN.out]
  have B1 := Lib.hid hb1
  clear hb1
  go_wp2_with (at_make; refine wpList_make_own _ rfl _ _ 56 rfl w.heap.size 21 i0 (.int .i32 0) 1 Try.underlying56 hi hz0 hz1 _ _ _ n rfl rfl (by omega) (by rw [hz2]; omega) (by unfold maxLen; omega) B1.out.size ?_; intro w2 hown2 hgrow2)
  have B2 := Lib.hid (B1.out.trans ((below_grown hgrow2 (by intro k hk; cases hk)).mono B1.out.size))
  have s1 := B1.out.size
  have hlt2 := (hown2.lt w1.heap.size rfl).2
  have O2 := Lib.hid hown2
  clear hown2 hgrow2
  go_loopw [5] (fun v wr => ∃ (pos f : Nat) (P : List Nat), s.size ≤ pos + f ∧ v = .slice (some ⟨w1.heap.size, 0, none⟩) P.length n ∧ Hid (runesS s = P ++ runesN s f pos) ∧
      Hid (wr.ownsRow w.heap.size 21 1 (.slice (some ⟨w1.heap.size, 0, none⟩) P.length n) P.length (runesV (intsN P))) ∧ Hid (wr.heap[w2.heap.size]? = some (.stringIter s pos)) ∧ Hid (Below w.heap.size w wr)) (fun _ wr => s.size - wr.iterPos w2.heap.size)
  case atStart => exact ⟨0, s.size, [], by omega, rfl, Lib.hid rfl, Lib.hid (owns_below O2.out (below_one _ _)), Lib.hid (World.iter_heap w2 s 0), Lib.hid (B2.out.trans ((below_one w2 _).mono B2.out.size))⟩
  case round =>
    obtain ⟨pos, f, P, hf, rfl, hP, hO, hIt, hB⟩ := hrel
    by_cases hlt : pos < s.size
    · have hnx := fun ty => Lib.run_next_any_at (P := Try.prog) wr w2.heap.size s pos ty hIt.out hlt
      obtain ⟨g, rfl, hst, hg⟩ := runesN_step s f pos hlt hf
      have hwd := decode_width s pos hlt
      have hPn : P.length + 1 ≤ n := by
        have h1 := congrArg List.length hP.out
        rw [hst, List.length_append, List.length_cons, HN.out] at h1
        omega
      have HST := Lib.hid hst
      obtain ⟨r, hr⟩ : ∃ r, (Utf8.decode s pos).1 = r := ⟨_, rfl⟩
      obtain ⟨wd, hwd2⟩ : ∃ wd, (Utf8.decode s pos).2 = wd := ⟨_, rfl⟩
      rw [hr, hwd2] at hnx HST; rw [hwd2] at hg hwd
      clear hst hr hwd2
      have hOi := owns_iterAt hO.out hIt.out (pos + wd)
      have OI := Lib.hid hOi
      clear hOi
      go_wp2_with (at_builtin; refine wpList_append_fits _ rfl (.tmp 19) (.tmp 21) 56 rfl w.heap.size 21 i0 1 Try.underlying56 hi hz1 w1.heap.size P.length n _ rfl (OI.out.alloc _) _ 1 1 _ rfl rfl (one_cells _ _ _ _) (one_int _ _) (by omega) ?_; intro w4 hown4 hgrow4)
      have hIt4 : w4.heap[w2.heap.size]? = some (.stringIter s (pos + wd)) := by
        have hl := (Array.getElem?_eq_some_iff.1 hIt.out).1
        rw [hgrow4.block w2.heap.size (by simp [World.iterAt]; omega) (by intro e; injection e with e; omega)]
        rw [Below.heap_alloc _ _ _ (by simpa [World.iterAt] using hl)]
        exact Lib.iterAt_heap wr _ s pos (pos + wd) hIt.out
      have hb4 : Below w.heap.size w w4 := by
        have h1 := Lib.below_iterAt hB.out (show w.heap.size ≤ w2.heap.size from B2.out.size) s (pos + wd)
        exact (h1.alloc h1.size _).grown hgrow4 (by have := h1.size; simp; omega) (by intro k hk; injection hk with hk; omega)
      go_roundw
      case rel => exact ⟨pos + wd, g, P ++ [r], hg, by rw [List.length_append]; rfl, Lib.hid (by rw [hP.out, HST.out]; simp), Lib.hid (by rw [List.length_append, runesV_snoc]; exact hown4), Lib.hid hIt4, Lib.hid hb4⟩
      case measure =>
        have h1 : w4.iterPos w2.heap.size = pos + wd := by simp [World.iterPos, hIt4]
        have h2 : wr.iterPos w2.heap.size = pos := by simp [World.iterPos, hIt.out]
        rw [h1, h2]; omega
    · have hnx := fun ty => Lib.run_next_end_at (P := Try.prog) wr w2.heap.size s pos ty hIt.out hlt
      have he : runesS s = P := by rw [hP.out, runesN_end s f pos hlt, List.append_nil]
      have hpl : P.length = n := by rw [← he]; exact HN.out
      have HE := Lib.hid he; have HPL := Lib.hid hpl
      clear he hpl
      go_wp2
      go_ret2
      have hl2 : (intsN (runesS s)).length = P.length := by rw [HE.out]; simp [intsN]
      refine ⟨some ⟨w1.heap.size, 0, none⟩, n, by rw [HPL.out]; rfl, ?_, hB.out, fun h => by cases h⟩
      rw [hl2, HE.out]; exact hO.out
theorem runes_bad (s : ByteArray) (w : World) (hs : s.size ≤ 1048576) (hg : lenS s < 0) :
    Calls Try.prog 35 #[.string s] w fun e w' => e = .returned (.tuple #[.slice none 0 0, .bool false]) ∧ Below w.heap.size w w' := by
  go_enter Try.func35, Try.ntmps35
  go_wp2_with fail
  refine (len_any s _ (by omega)).mono ?_
  rintro e w1 ⟨rfl, hb1⟩
  go_wp2_with fail
  go_ret2
  exact ⟨rfl, hb1⟩
end Go.Proofs.Ytmmliepkcgdnlaa
/- small facts on lists of texts -/
namespace Go.Proofs.Ytmmliepkcgdnlaa
open Go.RowKit
set_option linter.unusedVariables false
set_option maxRecDepth 20000
theorem drop_cons (ts : List Tx) (j : Nat) (h : j < ts.length) : ts.drop j = ts.getD j ByteArray.empty :: ts.drop (j + 1) := by
  rw [List.drop_eq_getElem_cons h]
  simp [List.getD_eq_getElem?_getD, h]
theorem compare_lit (x y : Tx) (v : Int) (hv : cmpS x y = v) (w : World) : Calls Try.prog 46 #[.string x, .string y] w fun e w' => e = .returned (.int .i64 v) ∧ w = w' := by subst hv; exact compare_any x y w
end Go.Proofs.Ytmmliepkcgdnlaa
/- contract of list.At -/
namespace Go.Proofs.Ytmmliepkcgdnlaa
open Go.RowKit
set_option linter.unusedVariables false
set_option maxRecDepth 20000
theorem getD_cons_zero (x : Tx) (xs : List Tx) : (x :: xs).getD 0 ByteArray.empty = x := rfl
theorem getD_cons_succ (x : Tx) (xs : List Tx) (i : Nat) : (x :: xs).getD (i + 1) ByteArray.empty = xs.getD i ByteArray.empty := rfl
theorem getD_at {xs : List Tx} {i : Nat} (h : i < xs.length) : xs.getD i ByteArray.empty = xs[i] := by simp [List.getD_eq_getElem?_getD, h]
theorem sorted_at {xs : List Tx} (h : SortedS xs) {i j : Nat} (hij : i < j) (hj : j < xs.length) : cmpS (xs.getD i ByteArray.empty) (xs.getD j ByteArray.empty) < 0 := by
  have := List.pairwise_iff_getElem.1 h i j (by omega) hj hij
  rw [getD_at (show i < xs.length by omega), getD_at hj]; exact this
theorem atN_of : ∀ (xs : List Tx) (t : Tx) (i : Nat), i ≤ xs.length → (∀ k, k < i → cmpS (xs.getD k ByteArray.empty) t < 0) → (∀ k, i ≤ k → k < xs.length → ¬ cmpS (xs.getD k ByteArray.empty) t < 0) → atN xs t = i
  | [], t, i, hi, _, _ => by have : i = 0 := by simpa using hi
                             subst this; rfl
  | x :: xs, t, 0, _, _, h2 => by
    unfold atN
    rw [List.countP_eq_zero]
    intro y hy
    obtain ⟨k, hk, rfl⟩ := List.getElem_of_mem hy
    have := h2 k (Nat.zero_le _) hk
    rw [getD_at hk] at this
    simpa using this
  | x :: xs, t, i + 1, hi, h1, h2 => by
    have hx := h1 0 (by omega)
    rw [getD_cons_zero] at hx
    have ih := atN_of xs t i (by simpa using hi) (fun k hk => h1 (k + 1) (by omega)) (fun k hk hk2 => h2 (k + 1) (by omega) (by simpa using hk2))
    unfold atN at ih ⊢
    rw [List.countP_cons_of_pos (by simpa using hx), ih]
theorem mem_at_iff {xs : List Tx} {t : Tx} (hs : SortedS xs) {i : Nat} (h1 : ∀ k, k < i → cmpS (xs.getD k ByteArray.empty) t < 0) (h2 : ∀ k, i ≤ k → k < xs.length → ¬ cmpS (xs.getD k ByteArray.empty) t < 0) : t ∈ xs ↔ i < xs.length ∧ cmpS (xs.getD i ByteArray.empty) t = 0 := by
  constructor
  · intro h
    obtain ⟨k, hk, e⟩ := List.getElem_of_mem h
    have e2 : xs.getD k ByteArray.empty = t := by rw [getD_at hk, e]
    have hik : i ≤ k := by
      apply Classical.byContradiction
      intro hn
      have := h1 k (by omega)
      rw [e2] at this
      exact cmpS_irrefl t this
    by_cases hlt : i < k
    · have := sorted_at hs hlt hk
      rw [e2] at this
      exact absurd this (h2 i (Nat.le_refl _) (by omega))
    · obtain rfl : i = k := by omega
      exact ⟨hk, by rw [e2, cmpS_same]⟩
  · rintro ⟨h, e⟩
    rw [← cmpS_zero.1 e, getD_at h]
    exact List.getElem_mem _
set_option maxHeartbeats 1600000 in
theorem search_any (a : Option Addr) (n cap : Nat) (ts : List Tx) (t : Tx) (w : World) (hh : HoldsT w a n ts) (hn : n ≤ 1048576) (hs : SortedS ts) :
    Calls Try.prog 45 #[.slice a n cap, .string t, .func (.func 46) #[] #[]] w fun e w' => e = .returned (.tuple #[.int .i64 (atN ts t), .bool (decide (t ∈ ts))]) ∧ w = w' := by
  have hl := hh.len
  have HS := Lib.hid hs
  clear hs
  go_enter Try.func45, Try.ntmps45
  go_wp2_with fail
  go_loop [9, 10] (fun u v => ∃ lo hi : Nat, u = .int .i64 lo ∧ v = .int .i64 hi ∧ lo ≤ hi ∧ hi ≤ n ∧ Hid (∀ k, k < lo → cmpS (ts.getD k ByteArray.empty) t < 0) ∧ Hid (∀ k, hi ≤ k → k < n → 0 ≤ cmpS (ts.getD k ByteArray.empty) t)) (fun u v => (intOf v).toNat - (intOf u).toNat)
  case atStart => exact ⟨0, n, rfl, rfl, by omega, by omega, Lib.hid (fun k h => by omega), Lib.hid (fun k h1 h2 => by omega)⟩
  case round =>
    obtain ⟨lo, hi, rfl, rfl, h1, h2, L1, L2⟩ := hrel
    by_cases hlt : lo < hi
    · obtain ⟨b, o, rfl, hc⟩ := hh.at (by omega)
      have e1 := hc ((lo + hi) / 2) (by omega)
      obtain ⟨x, hx⟩ : ∃ x, ts.getD ((lo + hi) / 2) ByteArray.empty = x := ⟨_, rfl⟩
      rw [hx] at e1
      have HX := Lib.hid hx
      clear hx hc
      obtain ⟨v, hv⟩ : ∃ v, cmpS x t = v := ⟨_, rfl⟩
      have hcmp := Lib.hid (compare_lit x t v hv w)
      have HV := Lib.hid hv
      clear hv
      by_cases hvn : v < 0
      · go_wp2_with fail
        refine hcmp.out.mono ?_
        rintro e w2 ⟨rfl, rfl⟩
        go_wp2_with fail
        go_round
        case rel =>
          refine ⟨(lo + hi) / 2 + 1, hi, by go_num, rfl, by omega, h2, Lib.hid (fun k hk => ?_), L2⟩
          by_cases hk2 : k = (lo + hi) / 2
          · subst hk2; rw [HX.out, HV.out]; exact hvn
          · have h3 := sorted_at HS.out (i := k) (j := (lo + hi) / 2) (by omega) (by omega)
            rw [HX.out] at h3
            exact cmpS_trans h3 (by rw [HV.out]; exact hvn)
        case measure => simp [intOf]; omega
      · go_wp2_with fail
        refine hcmp.out.mono ?_
        rintro e w2 ⟨rfl, rfl⟩
        go_wp2_with fail
        go_round
        case rel =>
          refine ⟨lo, (lo + hi) / 2, rfl, by go_num, by omega, by omega, L1, Lib.hid (fun k hk hk2 => Int.not_lt.1 fun h4 => ?_)⟩
          by_cases hk3 : k = (lo + hi) / 2
          · subst hk3; rw [HX.out, HV.out] at h4; omega
          · have h3 := sorted_at HS.out (i := (lo + hi) / 2) (j := k) (by omega) (by omega)
            rw [HX.out] at h3
            have h5 := cmpS_trans h3 h4
            rw [HV.out] at h5
            omega
        case measure => simp [intOf]; omega
    · obtain rfl : hi = lo := by omega
      have L3 : Hid (∀ k, hi ≤ k → k < ts.length → ¬ cmpS (ts.getD k ByteArray.empty) t < 0) := Lib.hid (fun k h3 h4 => Int.not_lt.2 (L2.out k h3 (by omega)))
      have hA := Lib.hid (atN_of ts t hi (by omega) L1.out L3.out)
      have hM := Lib.hid (mem_at_iff (t := t) HS.out L1.out L3.out)
      by_cases hlt2 : hi < n
      · obtain ⟨b, o, rfl, hc⟩ := hh.at (by omega)
        have e1 := hc hi (by omega)
        obtain ⟨x, hx⟩ : ∃ x, ts.getD hi ByteArray.empty = x := ⟨_, rfl⟩
        rw [hx] at e1
        have HX := Lib.hid hx
        clear hx hc
        obtain ⟨v, hv⟩ : ∃ v, cmpS x t = v := ⟨_, rfl⟩
        have hcmp := Lib.hid (compare_lit x t v hv w)
        have HV := Lib.hid hv
        clear hv
        have hb : Hid (decide (t ∈ ts) = (v == 0)) := Lib.hid (by
          have := hM.out
          rw [HX.out, HV.out, hl] at this
          rw [show (decide (t ∈ ts)) = decide (v = 0) by simp [this, hlt2]]
          rfl)
        go_wp2_with fail
        refine hcmp.out.mono ?_
        rintro e w2 ⟨rfl, rfl⟩
        go_wp2_with fail
        go_ret2
        exact ⟨by rw [hA.out, hb.out]; rfl, rfl⟩
      · have hb : Hid (decide (t ∈ ts) = false) := Lib.hid (by
          rw [decide_eq_false_iff_not]
          intro h
          have := (hM.out.1 h).1
          omega)
        go_wp2_with fail
        go_ret2
        exact ⟨by rw [hA.out, hb.out]; rfl, rfl⟩
theorem at_any (a : Option Addr) (n cap : Nat) (ts : List Tx) (t : Tx) (w : World) (hh : HoldsT w a n ts) (hn : n ≤ 1048576) (hs : SortedS ts) :
    Calls Try.prog 27 #[.slice a n cap, .string t] w fun e w' => e = .returned (.tuple #[.int .i64 (atN ts t), .bool (decide (t ∈ ts))]) ∧ w = w' := by
  have h1 := Lib.hid (search_any a n cap ts t w hh hn hs)
  obtain ⟨k, hk⟩ : ∃ k, atN ts t = k := ⟨_, rfl⟩
  obtain ⟨c, hc⟩ : ∃ c, decide (t ∈ ts) = c := ⟨_, rfl⟩
  rw [hk, hc] at h1 ⊢
  clear hk hc hh hs
  go_enter Try.func27, Try.ntmps27
  go_wp2_with fail
  refine h1.out.mono ?_
  rintro e w2 ⟨rfl, rfl⟩
  go_wp2_with fail
  go_ret2
  exact ⟨rfl, rfl⟩
theorem at_lit (a : Option Addr) (n cap : Nat) (ts : List Tx) (t : Tx) (b : Bool) (k : Nat) (w : World) (hh : HoldsT w a n ts) (hn : n ≤ 1048576) (hs : SortedS ts) (hb : decide (t ∈ ts) = b) (hk : atN ts t = k) :
    Calls Try.prog 27 #[.slice a n cap, .string t] w fun e w' => e = .returned (.tuple #[.int .i64 k, .bool b]) ∧ w = w' := by
  subst hb hk; exact at_any a n cap ts t w hh hn hs
end Go.Proofs.Ytmmliepkcgdnlaa
/- a list of texts as argument, opened -/
namespace Go.Proofs.Ytmmliepkcgdnlaa
open Go.ChangeShapes Go.WideShapes Go.ChangeAt Go.RowKit
set_option linter.unusedVariables false
set_option maxRecDepth 20000
theorem Try.cellsStr : Try.prog.cellsOf 9 = 1 := by kernel_rfl
theorem open_texts_arg {H : Type} {enc : TypeId × Value → H} {W : World} {base : Nat} {v : Value} {d : DataW H} {p : List MemPlace}
    (o : Value.okWide Try.prog W .any base 22 v) (h : DataW.Trod enc Try.prog W 0 (fun _ => true) true 22 v d p) :
    ∃ a n cap ts, v = .slice a n cap ∧ HoldsT W a n ts ∧ (a = none → n = 0 ∧ cap = 0) ∧ n ≤ cap ∧ n ≤ 9223372036854775807 ∧ ∀ t ∈ ts, t.size ≤ 9223372036854775807 := by
  obtain ⟨a, len, cap, rfl⟩ := okWide_slice Try.underlying22 o
  obtain ⟨fuel, hf⟩ := h
  rcases open_strings Try.underlying22 Try.underlying9 Try.cellsStr hf with ⟨hcs, _⟩ | ⟨x, l, c, ss, hcs, _, hl, hm, hz, _, hcell, hsz⟩
  · simp [Value.cells] at hcs
    obtain ⟨rfl, rfl, rfl⟩ := hcs
    exact ⟨none, 0, 0, [], rfl, HoldsT.nil _ _, fun _ => ⟨rfl, rfl⟩, Nat.le_refl _, by omega, by simp⟩
  · simp [Value.cells] at hcs
    obtain ⟨rfl, rfl, rfl⟩ := hcs
    have hzc : ss.length = cap := by simpa using hz
    refine ⟨some x, len, cap, ss.take len, rfl, ?_, (fun h => by cases h), hl, by unfold maxLen at hm; omega, fun t ht => by have := hsz t (List.mem_of_mem_take ht); unfold maxLen at this; omega⟩
    refine ⟨by simp [strsV]; omega, fun h0 => ?_⟩
    obtain ⟨b, off, spot⟩ := x
    have hspot : spot = none := by simpa [Addr.add] using World.cell?_spot (hcell 0 (by omega))
    subst hspot
    refine ⟨b, off, rfl, fun i hi => ?_⟩
    rw [← Go.WideShapes.add_plain, hcell i (by omega), getD_map_str _ i (by simp; omega)]
    congr 2
    simp only [List.getD_eq_getElem?_getD, List.getElem?_take]
    rw [if_pos hi]
end Go.Proofs.Ytmmliepkcgdnlaa
/- graph: Build in one word; Next in one word -/
namespace Go.Proofs.Ytmmliepkcgdnlaa
open Go.RowKit
set_option linter.unusedVariables false
set_option maxRecDepth 20000
theorem ed_few {R : List (List Tx)} : ∀ (es : List EdP) (l : List Tx), EdOk R l es → es.length ≤ l.length
  | [], l, _ => Nat.zero_le _
  | e :: es, l, h => by
    have h1 := ed_few es _ h.2.2.2
    have h2 := (fol_len l h.1)
    rw [List.length_drop] at h1
    simp only [List.length_cons]; omega
theorem GOk.few {st : List GN} {ts : List Tx} (G : GOk st ts) : ∀ x ∈ st, x.edges.length ≤ 100 := fun x hx => by
  have h := G.nodes x hx
  have h1 := ed_few _ _ h.ed
  have h2 := bod_len x.rests
  have h3 := h.ok.n
  omega
theorem grS_ok {ts : List Tx} (h : goodV ts = 0) (hs : ∀ t ∈ ts, t.size ≤ 100) : GOk (grS ts) ts := graph_ok (ok_good h hs)
theorem grS_len {ts : List Tx} (h : goodV ts = 0) (hs : ∀ t ∈ ts, t.size ≤ 100) : (grS ts).length ≤ 2000 := by
  have h1 : (grS ts).length ≤ 0 + wtS ts + 1 := (reach_len 12 [] ts (ok_good h hs)).2.1
  have h2 := wt_good ts (ok_good h hs).hi
  have h3 := (ok_good h hs).n
  omega
theorem gNext_c (n r : Int) {w0 : World} {g : Nat} {st : List GN} {S : Nat → Prop} (w : World) (c : CtxG w0 w g st S) (hE : ∀ x ∈ st, x.edges.length ≤ 1000) (v : Int) (b : Bool) (hv : nextG st n r = (v, b)) :
    Calls Try.prog 25 #[.pointer (some ⟨g, 0, none⟩), .int .i64 n, .int .i32 r] w fun e w' => e = .returned (.tuple #[.int .i64 v, .bool b]) ∧ Below w.heap.size w w' := by
  have h := gNext_any g st S n r w c.G hE
  rw [hv] at h
  exact h
theorem gFinal_c (n : Int) (v : Bool) {w0 : World} {g : Nat} {st : List GN} {S : Nat → Prop} (w : World) (c : CtxG w0 w g st S) (hv : finG st n = v) :
    Calls Try.prog 20 #[.pointer (some ⟨g, 0, none⟩), .int .i64 n] w fun e w' => e = .returned (.bool v) ∧ w = w' := by subst hv; exact gFinal_any g st S n w c.G
end Go.Proofs.Ytmmliepkcgdnlaa
