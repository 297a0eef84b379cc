/- texts joined -/
import Derived.Test.YtbbholdadgjelaaPkC
import Derived.Test.YtbbholdadgjelaaPkA
import Derived.Test.YtbbholdadgjelaaPkB
import Derived.Laws.RangeAny
import Derived.Deep.AppendLies
import Derived.Test.YtbbholdadgjelaaChecked
import Derived.WalkLawsBesides
import Derived.WalkKit
import Derived.ProofKit
import Derived.OpenShut
import Derived.Lib.SmallJoins
/- graph: awake, and of no graph -/
namespace Go.Proofs.Ytbbholdadgjelaa
open Go.RowKit
set_option linter.unusedVariables false
set_option maxRecDepth 20000
def gAB : Tx := ⟨#[97, 98]⟩
def gCB : Tx := ⟨#[99, 98]⟩
def gB : Tx := ⟨#[98]⟩
theorem aw_good : goodV [gAB, gCB] = 0 := by kernel_rfl
theorem aw_len : (grS [gAB, gCB]).length = 3 := by kernel_rfl
theorem aw_e0 : edgesG (grS [gAB, gCB]) 0 = [⟨97, 1⟩, ⟨99, 1⟩] := by kernel_rfl
theorem aw_has : hasW (grS [gAB, gCB]) (runesS gAB) = true := by kernel_rfl
theorem aw_hasnt : hasW (grS [gAB, gCB]) (runesS gB) = false := by kernel_rfl
theorem aw_few : ∀ x ∈ grS [gAB, gCB], x.edges.length ≤ 1000 := by
  have h : (grS [gAB, gCB]).all (fun x => decide (x.edges.length ≤ 1000)) = true := by kernel_rfl
  intro x hx
  exact of_decide_eq_true (List.all_eq_true.1 h x hx)
theorem holdsT_litG (w : World) (a b : Tx) (e : TypeId) (fr : Nat × Nat) : HoldsT (w.alloc (.cells #[.string a, .string b] e fr)) (some ⟨w.heap.size, 0, none⟩) 2 [a, b] := by
  refine ⟨by simp [strsV], fun _ => ⟨w.heap.size, 0, rfl, fun i hi => ?_⟩⟩
  rw [Nat.zero_add, World.cell?_alloc_mark]
  match i, hi with
  | 0, _ => rfl
  | 1, _ => rfl
theorem holdsEd_lit2 (w : World) (a b : EdP) (e : TypeId) (fr : Nat × Nat) : HoldsEd (w.alloc (.cells #[.int .i32 a.r, .int .i64 a.dst, .int .i32 b.r, .int .i64 b.dst] e fr)) (some ⟨w.heap.size, 0, none⟩) 2 [a, b] := by
  refine ⟨rfl, fun _ => ⟨w.heap.size, 0, rfl, fun i hi => ?_⟩⟩
  match i, hi with
  | 0, _ => constructor <;> (rw [World.cell?_alloc_mark]; rfl)
  | 1, _ => constructor <;> (rw [World.cell?_alloc_mark]; rfl)
/-- a graph in a world that has grown, its blocks the call's own -/
structure CtxG (w0 w : World) (g : Nat) (st : List GN) (S : Nat → Prop) : Prop where
  G : GAt g st w S
  s : ∀ k, S k → w0.heap.size ≤ k
  b : Below w0.heap.size w0 w
theorem CtxG.more {w0 w w' : World} {g : Nat} {st : List GN} {S : Nat → Prop} (c : CtxG w0 w g st S) (hb : Below w.heap.size w w') : CtxG w0 w' g st S :=
  ⟨(gAt_ok g st).below c.G hb, c.s, c.b.trans (hb.mono c.b.size)⟩
theorem build_c {w0 : World} (a : Option Addr) (n cap : Nat) (ts : List Tx) (st : List GN) (w : World) (hw : Below w0.heap.size w0 w) (hh : HoldsT w a n ts) (hc : n ≤ cap) (hn : n ≤ 9223372036854775807) (hs : ∀ t ∈ ts, t.size ≤ 100) (hv : goodV ts = 0) (hst : grS ts = st) :
    Calls Try.prog 39 #[.slice a n cap] w fun e w' => ∃ g S, e = .returned (.tuple #[.pointer (some ⟨g, 0, none⟩), .int .i64 0]) ∧ CtxG w0 w' g st S ∧ Below w.heap.size w w' := by
  subst hst
  exact (build_good a n cap ts w hh hc hn hs hv).mono fun e w' ⟨g, S, e1, h1, h2, h3⟩ => ⟨g, S, e1, ⟨h1, fun k hk => Nat.le_trans hw.size (h2 k hk), hw.trans (h3.mono hw.size)⟩, h3⟩
theorem gNodes_c (v : Int) {w0 : World} {g : Nat} {st : List GN} {S : Nat → Prop} (w : World) (c : CtxG w0 w g st S) (hv : (st.length : Int) = v) :
    Calls Try.prog 63 #[.pointer (some ⟨g, 0, none⟩)] w fun e w' => e = .returned (.int .i64 v) ∧ w = w' := by subst hv; exact gNodes_any g st S w c.G
theorem gEdges_c (n : Int) (es : List EdP) {w0 : World} {g : Nat} {st : List GN} {S : Nat → Prop} (w : World) (c : CtxG w0 w g st S) (hE : ∀ x ∈ st, x.edges.length ≤ 1000) (hv : edgesG st n = es) :
    Calls Try.prog 64 #[.pointer (some ⟨g, 0, none⟩), .int .i64 n] w (RetEd w es) := by subst hv; exact gEdges_any g st S n w c.G hE
end Go.Proofs.Ytbbholdadgjelaa
/- graph: what a built graph keeps, plain -/
namespace Go.Proofs.Ytbbholdadgjelaa
open Go.RowKit
set_option linter.unusedVariables false
set_option maxRecDepth 20000
def restsG (st : List GN) : List (List Tx) := st.map GN.rests
/-- the edges of the texts' first runes, each to a node of what is behind it -/
def EdOk (R : List (List Tx)) : List Tx → List EdP → Prop
  | l, [] => l = []
  | l, e :: es => l ≠ [] ∧ e.r = ((folS l).1 : Int) ∧ (∃ k : Nat, e.dst = (k : Int) ∧ R[k]? = some (folS l).2) ∧ EdOk R (l.drop (folS l).2.length) es
theorem EdOk.app {R T : List (List Tx)} : ∀ {es : List EdP} {l : List Tx}, EdOk R l es → EdOk (R ++ T) l es
  | [], l, h => h
  | e :: es, l, h => by
    obtain ⟨h1, h2, ⟨k, h3, h4⟩, h5⟩ := h
    have hk := (List.getElem?_eq_some_iff.1 h4).1
    exact ⟨h1, h2, ⟨k, h3, by rw [List.getElem?_append_left hk]; exact h4⟩, h5.app⟩
theorem OkL.mono {f g : Nat} {l : List Tx} (h : OkL f l) (hg : f ≤ g) : OkL g l := ⟨h.ord, h.lo, fun t ht => by have := h.hi t ht; omega, h.n, h.sz⟩
structure NOk (R : List (List Tx)) (g : GN) : Prop where
  fin : g.final = finS g.rests
  ed : EdOk R (bodS g.rests) g.edges
  ok : OkL 12 g.rests
theorem NOk.app {R T : List (List Tx)} {g : GN} (h : NOk R g) : NOk (R ++ T) g := ⟨h.fin, h.ed.app, h.ok⟩
theorem restsG_app (a b : List GN) : restsG (a ++ b) = restsG a ++ restsG b := by simp [restsG]
theorem find_none {st : List GN} {s : List Tx} (h : findG st s = none) : s ∉ restsG st := by
  unfold findG at h
  rw [List.findIdx?_eq_none_iff] at h
  intro hm
  obtain ⟨g, hg, e⟩ := List.mem_map.1 hm
  have := h g hg
  simp [e] at this
theorem find_some {st : List GN} {s : List Tx} {i : Nat} (h : findG st s = some i) : (restsG st)[i]? = some s := by
  unfold findG at h
  obtain ⟨h1, h2, -⟩ := List.findIdx?_eq_some_iff_getElem.1 h
  have e : st[i].rests = s := of_decide_eq_true h2
  rw [restsG, List.getElem?_map, List.getElem?_eq_getElem h1, Option.map_some, e]
theorem reach_found {f : Nat} {st : List GN} {s : List Tx} {i : Nat} (h : findG st s = some i) : reachF (f + 1) st s = (i, st) := by unfold reachF; rw [h]
theorem set_mid {α : Type} (a b : List α) (x y : α) : ((a ++ [x]) ++ b).set a.length y = a ++ (y :: b) := by
  rw [List.append_assoc, List.set_append_right _ _ (Nat.le_refl _), Nat.sub_self]; rfl
theorem reach_new {f : Nat} {st t : List GN} {s : List Tx} {es : List EdP} (h : findG st s = none) (hk : edgesF (reachF f) (bodS s).length (bodS s) [] (st ++ [⟨s, false, []⟩]) = (es, (st ++ [⟨s, false, []⟩]) ++ t)) :
    reachF (f + 1) st s = (st.length, st ++ (⟨s, finS s, es⟩ :: t)) := by
  unfold reachF
  rw [h, hk]
  simp only [set_mid]
structure ROk (st t : List GN) (s : List Tx) (i : Nat) : Prop where
  at_ : (restsG (st ++ t))[i]? = some s
  nodes : ∀ g ∈ t, NOk (restsG (st ++ t)) g
  nodup : (restsG st).Nodup → (restsG (st ++ t)).Nodup
  some_ : s ≠ [] → ∀ g ∈ t, g.rests ≠ []
theorem rok_new {f : Nat} {st t : List GN} {s : List Tx} {es : List EdP} (hs : OkL 12 s) (h : findG st s = none) (he : EdOk (restsG ((st ++ [⟨s, false, []⟩]) ++ t)) (bodS s) es) (hn : ∀ g ∈ t, NOk (restsG ((st ++ [⟨s, false, []⟩]) ++ t)) g) (hd : (restsG (st ++ [⟨s, false, []⟩])).Nodup → (restsG ((st ++ [⟨s, false, []⟩]) ++ t)).Nodup) (hm : s ≠ [] → ∀ g ∈ t, g.rests ≠ []) :
    ROk st (⟨s, finS s, es⟩ :: t) s st.length := by
  have e : restsG (st ++ (⟨s, finS s, es⟩ :: t)) = restsG ((st ++ [⟨s, false, []⟩]) ++ t) := by simp [restsG]
  have hl : (restsG st).length = st.length := by simp [restsG]
  refine ⟨?_, fun g hg => ?_, fun hnd => ?_, fun h0 g hg => ?_⟩
  · rw [restsG_app, List.getElem?_append_right (by omega), hl, Nat.sub_self]; rfl
  · rw [e]
    rcases List.mem_cons.1 hg with rfl | hg
    · exact ⟨rfl, he, hs⟩
    · exact hn g hg
  · rw [e]
    refine hd ?_
    rw [restsG_app]
    refine List.nodup_append.2 ⟨hnd, by simp [restsG], fun a ha b hb => ?_⟩
    simp only [restsG, List.map_cons, List.map_nil, List.mem_singleton] at hb
    subst hb
    exact fun e2 => find_none h (e2 ▸ ha)
  · rcases List.mem_cons.1 hg with rfl | hg
    · exact h0
    · exact hm h0 g hg
theorem bod_none {s : List Tx} (h : OkL 0 s) : bodS s = [] := by
  cases hbs : bodS s with
  | nil => rfl
  | cons t l =>
    have hm : t ∈ bodS s := by rw [hbs]; simp
    have h1 := bod_pos h.ord t hm
    have h2 := rst_len (h.bod.lo t hm) h1
    have h3 := h.bod.hi t hm
    omega
theorem reach_ok (f : Nat) (hf : f ≤ 12) : ∀ (st : List GN) (s : List Tx), OkL f s → ∃ t i, reachF (f + 1) st s = (i, st ++ t) ∧ ROk st t s i := by
  induction f with
  | zero =>
    intro st s h
    cases hfd : findG st s with
    | some i => exact ⟨[], i, by rw [reach_found hfd, List.append_nil], ⟨by rw [List.append_nil]; exact find_some hfd, fun g hg => by simp at hg, fun h => by rwa [List.append_nil], fun _ g hg => by simp at hg⟩⟩
    | none =>
      have hb := bod_none h
      refine ⟨[⟨s, finS s, []⟩], st.length, reach_new (t := []) hfd (by rw [hb, List.append_nil]; rfl), rok_new (f := 0) (t := []) (h.mono hf) hfd (by rw [hb]; rfl) (fun g hg => by simp at hg) (fun h => by rwa [List.append_nil]) (fun _ g hg => by simp at hg)⟩
  | succ f ih =>
    intro st s h
    cases hfd : findG st s with
    | some i => exact ⟨[], i, by rw [reach_found hfd, List.append_nil], ⟨by rw [List.append_nil]; exact find_some hfd, fun g hg => by simp at hg, fun h => by rwa [List.append_nil], fun _ g hg => by simp at hg⟩⟩
    | none =>
      have key : ∀ (n : Nat) (l : List Tx) (es : List EdP) (st1 : List GN), l.length ≤ n → OkL (f + 1) l → (∀ t ∈ l, 0 < t.size) → ∃ t es', edgesF (reachF (f + 1)) n l es st1 = (es ++ es', st1 ++ t) ∧ EdOk (restsG (st1 ++ t)) l es' ∧ (∀ g ∈ t, NOk (restsG (st1 ++ t)) g) ∧ ((restsG st1).Nodup → (restsG (st1 ++ t)).Nodup) ∧ ∀ g ∈ t, g.rests ≠ [] := by
        intro n
        induction n with
        | zero =>
          intro l es st1 hn _ _
          obtain rfl : l = [] := List.eq_nil_of_length_eq_zero (by omega)
          exact ⟨[], [], by simp [edgesF], rfl, fun g hg => by simp at hg, fun h => by rwa [List.append_nil], fun g hg => by simp at hg⟩
        | succ n ihn =>
          intro l es st1 hn hl hp
          by_cases h0 : l = []
          · subst h0
            exact ⟨[], [], by simp [edgesF], rfl, fun g hg => by simp at hg, fun h => by rwa [List.append_nil], fun g hg => by simp at hg⟩
          · obtain ⟨hfl, hfl2⟩ := fol_len l h0
            obtain ⟨t1, i, e1, r1⟩ := ih (by omega) st1 (folS l).2 (hl.fol hp)
            obtain ⟨t2, es2, e2, d1, d2, d3, d4⟩ := ihn (l.drop (folS l).2.length) (es ++ [⟨((folS l).1 : Int), (i : Int)⟩]) (st1 ++ t1) (by rw [List.length_drop]; omega) (hl.drop _) (fun t ht => hp t (List.mem_of_mem_drop ht))
            have hne : (folS l).2 ≠ [] := fun e => by rw [e] at hfl; simp at hfl
            refine ⟨t1 ++ t2, ⟨((folS l).1 : Int), (i : Int)⟩ :: es2, ?_, ?_, fun g hg => ?_, fun hd => ?_, fun g hg => ?_⟩
            · unfold edgesF
              rw [if_neg h0, e1]
              simp only
              rw [e2, List.append_assoc, List.append_assoc]; rfl
            · rw [← List.append_assoc]
              refine ⟨h0, rfl, ⟨i, rfl, ?_⟩, d1⟩
              rw [restsG_app, List.getElem?_append_left (List.getElem?_eq_some_iff.1 r1.at_).1]
              exact r1.at_
            · rw [← List.append_assoc]
              rcases List.mem_append.1 hg with hg | hg
              · rw [restsG_app]; exact (r1.nodes g hg).app
              · exact d2 g hg
            · rw [← List.append_assoc]; exact d3 (r1.nodup hd)
            · rcases List.mem_append.1 hg with hg | hg
              · exact r1.some_ hne g hg
              · exact d4 g hg
      obtain ⟨t, es, k1, k2, k3, k4, k5⟩ := key (bodS s).length (bodS s) [] (st ++ [⟨s, false, []⟩]) (Nat.le_refl _) h.bod (bod_pos h.ord)
      exact ⟨_, _, reach_new hfd k1, rok_new (f := 0) (h.mono hf) hfd k2 k3 k4 (fun _ => k5)⟩
/-- the nodes of the words -/
structure GOk (st : List GN) (ts : List Tx) : Prop where
  root : (restsG st)[0]? = some ts
  nodes : ∀ g ∈ st, NOk (restsG st) g
  nodup : (restsG st).Nodup
  some_ : ts ≠ [] → ∀ g ∈ st, g.rests ≠ []
theorem graph_ok {ts : List Tx} (h : OkL 12 ts) : GOk (reachF 13 [] ts).2 ts := by
  obtain ⟨t, i, e, r⟩ := reach_ok 12 (Nat.le_refl _) [] ts h
  have h0 : (reachF 13 [] ts).1 = 0 := by
    unfold reachF
    have : findG [] ts = none := rfl
    rw [this]; rfl
  rw [e] at h0 ⊢
  simp only [List.nil_append] at *
  subst h0
  exact ⟨by simpa using r.at_, fun g hg => by simpa using r.nodes g hg, by simpa [restsG] using r.nodup (by simp [restsG]), r.some_⟩
end Go.Proofs.Ytbbholdadgjelaa
/- graph: along a text's runes one comes to an end just if it is there -/
namespace Go.Proofs.Ytbbholdadgjelaa
open Go.RowKit
set_option linter.unusedVariables false
set_option maxRecDepth 20000
theorem lab_le {s t : Tx} (hs : 0 ≤ lenS s) (ht : 0 ≤ lenS t) (s0 : 0 < s.size) (t0 : 0 < t.size) (h : cmpS s t < 0) : labS s ≤ labS t := by
  rw [cmpS_runes s t hs ht, rst_runes hs s0, rst_runes ht t0] at h
  simp only [lexN] at h
  by_cases h1 : labS s ≤ labS t
  · exact h1
  · split at h <;> first | omega | (split at h <;> omega)
/-- texts in order, none empty, each well made -/
structure Run (l : List Tx) : Prop where
  ord : SortedS l
  pos : ∀ t ∈ l, 0 < t.size
  lo : ∀ t ∈ l, 0 ≤ lenS t
theorem Run.drop {l : List Tx} (h : Run l) (k : Nat) : Run (l.drop k) :=
  ⟨List.Pairwise.sublist (List.drop_sublist _ _) h.ord, fun t ht => h.pos t (List.mem_of_mem_drop ht), fun t ht => h.lo t (List.mem_of_mem_drop ht)⟩
theorem dw_first {α : Type} (p : α → Bool) : ∀ (l : List α) (x : α) (m : List α), l.dropWhile p = x :: m → p x = false
  | [], x, m, h => by simp at h
  | y :: l, x, m, h => by
    rw [List.dropWhile_cons] at h
    split at h
    · exact dw_first p l x m h
    · rename_i hy
      injection h with h1 h2
      subst h1
      simpa using hy
theorem drop_tw {α : Type} (p : α → Bool) : ∀ l : List α, l.drop (l.takeWhile p).length = l.dropWhile p
  | [] => rfl
  | x :: l => by
    by_cases h : p x = true
    · rw [List.takeWhile_cons, if_pos h, List.dropWhile_cons, if_pos h, List.length_cons, List.drop_succ_cons, drop_tw p l]
    · rw [List.takeWhile_cons, if_neg h, List.dropWhile_cons, if_neg h]; rfl
/-- behind the first's own, all begin with another rune -/
theorem Run.rest {s : Tx} {l : List Tx} (h : Run (s :: l)) : ∀ t ∈ (s :: l).drop (folS (s :: l)).2.length, labS s < labS t := by
  have e : (folS (s :: l)).2.length = ((s :: l).takeWhile (fun t => decide (labS t = labS s))).length := by unfold folS; rw [List.length_map]
  rw [e, drop_tw]
  cases hd : (s :: l).dropWhile (fun t => decide (labS t = labS s)) with
  | nil => intro t ht; simp at ht
  | cons x m =>
    have hx : labS x ≠ labS s := of_decide_eq_false (dw_first (fun t => decide (labS t = labS s)) _ _ _ hd)
    have sub : (x :: m).Sublist (s :: l) := hd ▸ List.dropWhile_sublist _
    have hxm : x ∈ s :: l := sub.subset (by simp)
    have hsx : labS s ≤ labS x := by
      rcases List.mem_cons.1 hxm with rfl | hm
      · exact Nat.le_refl _
      · exact lab_le (h.lo s (by simp)) (h.lo x hxm) (h.pos s (by simp)) (h.pos x hxm) ((List.pairwise_cons.1 h.ord).1 x hm)
    have ho := List.Pairwise.sublist sub h.ord
    intro t ht
    have htm := sub.subset ht
    have hxt : labS x ≤ labS t := by
      rcases List.mem_cons.1 ht with rfl | hm
      · exact Nat.le_refl _
      · exact lab_le (h.lo x hxm) (h.lo t htm) (h.pos x hxm) (h.pos t htm) ((List.pairwise_cons.1 ho).1 t hm)
    omega
theorem same_lab {s t : Tx} (hs : 0 ≤ lenS s) (ht : 0 ≤ lenS t) (s0 : 0 < s.size) (t0 : 0 < t.size) (hl : labS s = labS t) (hr : rstS s = rstS t) : s = t := by
  have h := rst_ord hs ht s0 t0 hl
  rw [hr, cmpS_same] at h
  exact cmpS_zero.1 h.symm
theorem mem_fol {s : Tx} {l : List Tx} (h : Run (s :: l)) {w : Tx} (w0 : 0 < w.size) (wl : 0 ≤ lenS w) (hl : labS s = labS w) : w ∈ s :: l ↔ rstS w ∈ (folS (s :: l)).2 := by
  have sub := List.takeWhile_sublist (l := s :: l) (fun t => decide (labS t = labS s))
  have e : (folS (s :: l)).2 = ((s :: l).takeWhile (fun t => decide (labS t = labS s))).map rstS := rfl
  constructor
  · intro hm
    rw [e]
    refine List.mem_map.2 ⟨w, ?_, rfl⟩
    rw [← List.takeWhile_append_dropWhile (p := fun t => decide (labS t = labS s)) (l := s :: l)] at hm
    rcases List.mem_append.1 hm with hm | hm
    · exact hm
    · have e2 : (folS (s :: l)).2.length = ((s :: l).takeWhile (fun t => decide (labS t = labS s))).length := by unfold folS; rw [List.length_map]
      rw [← drop_tw, ← e2] at hm
      have := h.rest w hm
      omega
  · intro hm
    rw [e] at hm
    obtain ⟨u, hu, e3⟩ := List.mem_map.1 hm
    have hum := sub.subset hu
    have hul : labS u = labS s := by have h1 := mem_tw (p := fun t => decide (labS t = labS s)) hu; exact of_decide_eq_true h1
    rw [← same_lab (h.lo u hum) wl (h.pos u hum) w0 (hul.trans hl) e3]
    exact hum
theorem mem_past {s : Tx} {l : List Tx} {w : Tx} (hl : labS s ≠ labS w) : w ∈ s :: l ↔ w ∈ (s :: l).drop (folS (s :: l)).2.length := by
  have e2 : (folS (s :: l)).2.length = ((s :: l).takeWhile (fun t => decide (labS t = labS s))).length := by unfold folS; rw [List.length_map]
  rw [e2, drop_tw]
  conv => lhs; rw [← List.takeWhile_append_dropWhile (p := fun t => decide (labS t = labS s)) (l := s :: l)]
  rw [List.mem_append]
  constructor
  · rintro (h | h)
    · have h1 := mem_tw (p := fun t => decide (labS t = labS s)) h
      exact absurd (of_decide_eq_true h1).symm hl
    · exact h
  · exact Or.inr
theorem findE_ok {R : List (List Tx)} {w : Tx} (w0 : 0 < w.size) (wl : 0 ≤ lenS w) : ∀ (es : List EdP) (l : List Tx), EdOk R l es → Run l →
    (∃ (k : Nat) (m : List Tx), findE (labS w : Int) es = ((k : Int), true) ∧ R[k]? = some m ∧ (w ∈ l ↔ rstS w ∈ m)) ∨ (findE (labS w : Int) es = (0, false) ∧ w ∉ l)
  | [], l, h, _ => Or.inr ⟨rfl, by rw [show l = [] from h]; simp⟩
  | e :: es, [], h, _ => absurd rfl h.1
  | e :: es, s :: l, h, hr => by
    obtain ⟨h1, h2, ⟨k, h3, h4⟩, h5⟩ := h
    have h2 : e.r = (labS s : Int) := h2
    by_cases hl : labS s = labS w
    · refine Or.inl ⟨k, (folS (s :: l)).2, ?_, h4, mem_fol hr w0 wl hl⟩
      rw [findE, if_pos (by rw [h2, hl]), h3]
    · have hne : ¬ e.r = (labS w : Int) := fun e2 => hl (by rw [h2] at e2; exact Int.ofNat.inj e2)
      rw [findE, if_neg hne, mem_past hl]
      exact findE_ok w0 wl es _ h5 (hr.drop _)
theorem ed_good {R : List (List Tx)} : ∀ (es : List EdP) (l : List Tx), EdOk R l es → Run l → ∀ e ∈ es, e.r ≠ 65533
  | [], l, _, _ => fun e he => by simp at he
  | e :: es, [], h, _ => absurd rfl h.1
  | e :: es, s :: l, h, hr => by
    obtain ⟨h1, h2, -, h5⟩ := h
    have h2 : e.r = (labS s : Int) := h2
    intro x hx
    rcases List.mem_cons.1 hx with rfl | hx
    · have := (good_first (hr.lo s (by simp)) (hr.pos s (by simp))).1
      rw [h2]
      intro e2
      exact this (Int.ofNat.inj e2)
    · exact ed_good es _ h5 (hr.drop _) x hx
theorem OkL.run {f : Nat} {l : List Tx} (h : OkL f l) : Run (bodS l) := ⟨h.bod.ord, bod_pos h.ord, h.bod.lo⟩
theorem GOk.node {st : List GN} {ts : List Tx} (G : GOk st ts) {k : Nat} {l : List Tx} (h : (restsG st)[k]? = some l) : k < st.length ∧ (st.getD k gn0).rests = l ∧ NOk (restsG st) (st.getD k gn0) := by
  obtain ⟨h1, h2⟩ := List.getElem?_eq_some_iff.1 h
  have hk : k < st.length := by simpa [restsG] using h1
  have e : st.getD k gn0 = st[k] := by rw [List.getD_eq_getElem?_getD, List.getElem?_eq_getElem hk]; rfl
  refine ⟨hk, ?_, ?_⟩
  · rw [e, ← h2]; simp [restsG]
  · rw [e]; exact G.nodes _ (List.getElem_mem hk)
theorem fin_mem {l : List Tx} (h : SortedS l) : finS l = decide ((⟨#[]⟩ : ByteArray) ∈ l) := by
  cases l with
  | nil => rfl
  | cons s l =>
    unfold finS
    refine decide_eq_decide.2 ?_
    rw [List.head?_cons, List.mem_cons]
    constructor
    · intro e; injection e with e; exact Or.inl e.symm
    · rintro (e | e)
      · rw [e]
      · exact absurd ((List.pairwise_cons.1 h).1 _ e) (cmp_empty s)
theorem mem_bod {l : List Tx} {w : Tx} (h : 0 < w.size) : w ∈ l ↔ w ∈ bodS l := by
  unfold bodS
  split
  · rename_i hf
    cases l with
    | nil => simp
    | cons s l =>
      have : s = ⟨#[]⟩ := by
        have h2 : (s :: l).head? = some (⟨#[]⟩ : ByteArray) := of_decide_eq_true hf
        rw [List.head?_cons] at h2; injection h2
      rw [List.mem_cons, List.tail_cons]
      refine ⟨fun e => e.resolve_left fun e2 => ?_, Or.inr⟩
      rw [e2, this] at h
      exact absurd h (by simp [ByteArray.size])
  · exact Iff.rfl
theorem has_at {st : List GN} {k : Nat} (h : k < st.length) : hasG st (k : Int) = true ∧ edgesG st (k : Int) = (st.getD k gn0).edges ∧ finG st (k : Int) = (st.getD k gn0).final := by
  have h1 : hasG st (k : Int) = true := by unfold hasG; exact decide_eq_true (by omega)
  refine ⟨h1, ?_, ?_⟩
  · unfold edgesG; rw [if_pos h1]; rfl
  · unfold finG; rw [h1]; simp
theorem walk_in {st : List GN} {ts : List Tx} (G : GOk st ts) : ∀ (n : Nat) (w : Tx), w.size ≤ n → 0 ≤ lenS w → ∀ (k : Nat) (l : List Tx), (restsG st)[k]? = some l → endG st (walkG st (runesS w) (k : Int)) = decide (w ∈ l) := by
  intro n
  induction n with
  | zero =>
    intro w hw _ k l hk
    obtain rfl := empty_size (Nat.le_zero.1 hw)
    obtain ⟨h1, h2, h3⟩ := G.node hk
    have := (has_at h1).2.2
    show finG st (k : Int) = _
    rw [this, h3.fin, h2]
    exact fin_mem (h2 ▸ h3.ok.ord)
  | succ n ih =>
    intro w hw hl k l hk
    obtain ⟨h1, h2, h3⟩ := G.node hk
    obtain ⟨a1, a2, a3⟩ := has_at h1
    rcases Nat.eq_zero_or_pos w.size with h0 | h0
    · obtain rfl := empty_size h0
      show finG st (k : Int) = _
      rw [a3, h3.fin, h2]
      exact fin_mem (h2 ▸ h3.ok.ord)
    · have hb : w ∈ l ↔ w ∈ bodS l := mem_bod h0
      have he := h3.ed
      have hr := h3.ok.run
      rw [h2] at he hr
      rw [rst_runes hl h0]
      unfold walkG nextG
      rw [a2]
      rcases findE_ok h0 hl _ _ he hr with ⟨k', m, e1, e2, e3⟩ | ⟨e1, e2⟩
      · rw [e1, if_pos rfl]
        rw [ih (rstS w) (by have := (rst_size hl h0).2; omega) (rst_len hl h0).1 k' m e2]
        exact decide_eq_decide.2 (e3.symm.trans hb.symm)
      · rw [e1, if_neg (by simp)]
        show false = _
        exact (decide_eq_false (fun e => e2 (hb.1 e))).symm
theorem edges_good {st : List GN} {ts : List Tx} (G : GOk st ts) (n : Int) : ∀ e ∈ edgesG st n, e.r ≠ 65533 := by
  cases hb : hasG st n with
  | false => unfold edgesG; rw [if_neg (by rw [hb]; simp)]; intro e he; simp at he
  | true =>
    obtain ⟨k, rfl, hk⟩ := hasG_yes hb
    rw [(has_at hk).2.1]
    have hR : (restsG st)[k]? = some st[k].rests := by simp [restsG, hk]
    obtain ⟨h1, h2, h3⟩ := G.node hR
    exact ed_good _ _ h3.ed h3.ok.run
theorem walk_bad {st : List GN} {ts : List Tx} (G : GOk st ts) : ∀ (rs : List Nat) (n : Int), 65533 ∈ rs → endG st (walkG st rs n) = false
  | [], n, h => by simp at h
  | r :: l, n, h => by
    unfold walkG
    by_cases h1 : r = 65533
    · subst h1
      unfold nextG
      rw [findE_none ((65533 : Nat) : Int) _ (fun x hx => edges_good G n x hx), if_neg (by simp)]; rfl
    · have h2 : 65533 ∈ l := (List.mem_cons.1 h).resolve_left (Ne.symm h1)
      split
      · exact walk_bad G l _ h2
      · rfl
/-- a text is there just if its runes lead to an end -/
theorem has_in {st : List GN} {ts : List Tx} (G : GOk st ts) (hts : ∀ t ∈ ts, 0 ≤ lenS t) (w : Tx) : hasW st (runesS w) = decide (w ∈ ts) := by
  unfold hasW
  by_cases hl : 0 ≤ lenS w
  · exact walk_in G w.size w (Nat.le_refl _) hl 0 ts G.root
  · rw [show (0 : Int) = ((0 : Nat) : Int) from rfl]
    have hm : 65533 ∈ runesS w := by
      refine Classical.byContradiction fun hn => hl ?_
      unfold lenS
      rw [if_neg hn]; omega
    rw [walk_bad G _ _ hm]
    exact (decide_eq_false (fun e => hl (hts w e))).symm
end Go.Proofs.Ytbbholdadgjelaa
/- contract of list.At -/
namespace Go.Proofs.Ytbbholdadgjelaa
open Go.RowKit
set_option linter.unusedVariables false
set_option maxRecDepth 20000
theorem getD_cons_zero (x : Tx) (xs : List Tx) : (x :: xs).getD 0 ByteArray.empty = x := rfl
theorem getD_cons_succ (x : Tx) (xs : List Tx) (i : Nat) : (x :: xs).getD (i + 1) ByteArray.empty = xs.getD i ByteArray.empty := rfl
theorem getD_at {xs : List Tx} {i : Nat} (h : i < xs.length) : xs.getD i ByteArray.empty = xs[i] := by simp [List.getD_eq_getElem?_getD, h]
theorem sorted_at {xs : List Tx} (h : SortedS xs) {i j : Nat} (hij : i < j) (hj : j < xs.length) : cmpS (xs.getD i ByteArray.empty) (xs.getD j ByteArray.empty) < 0 := by
  have := List.pairwise_iff_getElem.1 h i j (by omega) hj hij
  rw [getD_at (show i < xs.length by omega), getD_at hj]; exact this
theorem atN_of : ∀ (xs : List Tx) (t : Tx) (i : Nat), i ≤ xs.length → (∀ k, k < i → cmpS (xs.getD k ByteArray.empty) t < 0) → (∀ k, i ≤ k → k < xs.length → ¬ cmpS (xs.getD k ByteArray.empty) t < 0) → atN xs t = i
  | [], t, i, hi, _, _ => by have : i = 0 := by simpa using hi
                             subst this; rfl
  | x :: xs, t, 0, _, _, h2 => by
    unfold atN
    rw [List.countP_eq_zero]
    intro y hy
    obtain ⟨k, hk, rfl⟩ := List.getElem_of_mem hy
    have := h2 k (Nat.zero_le _) hk
    rw [getD_at hk] at this
    simpa using this
  | x :: xs, t, i + 1, hi, h1, h2 => by
    have hx := h1 0 (by omega)
    rw [getD_cons_zero] at hx
    have ih := atN_of xs t i (by simpa using hi) (fun k hk => h1 (k + 1) (by omega)) (fun k hk hk2 => h2 (k + 1) (by omega) (by simpa using hk2))
    unfold atN at ih ⊢
    rw [List.countP_cons_of_pos (by simpa using hx), ih]
theorem mem_at_iff {xs : List Tx} {t : Tx} (hs : SortedS xs) {i : Nat} (h1 : ∀ k, k < i → cmpS (xs.getD k ByteArray.empty) t < 0) (h2 : ∀ k, i ≤ k → k < xs.length → ¬ cmpS (xs.getD k ByteArray.empty) t < 0) : t ∈ xs ↔ i < xs.length ∧ cmpS (xs.getD i ByteArray.empty) t = 0 := by
  constructor
  · intro h
    obtain ⟨k, hk, e⟩ := List.getElem_of_mem h
    have e2 : xs.getD k ByteArray.empty = t := by rw [getD_at hk, e]
    have hik : i ≤ k := by
      apply Classical.byContradiction
      intro hn
      have := h1 k (by omega)
      rw [e2] at this
      exact cmpS_irrefl t this
    by_cases hlt : i < k
    · have := sorted_at hs hlt hk
      rw [e2] at this
      exact absurd this (h2 i (Nat.le_refl _) (by omega))
    · obtain rfl : i = k := by omega
      exact ⟨hk, by rw [e2, cmpS_same]⟩
  · rintro ⟨h, e⟩
    rw [← cmpS_zero.1 e, getD_at h]
    exact List.getElem_mem _
end Go.Proofs.Ytbbholdadgjelaa
/- graph: Build in one word; Next in one word -/
namespace Go.Proofs.Ytbbholdadgjelaa
open Go.RowKit
set_option linter.unusedVariables false
set_option maxRecDepth 20000
theorem ed_few {R : List (List Tx)} : ∀ (es : List EdP) (l : List Tx), EdOk R l es → es.length ≤ l.length
  | [], l, _ => Nat.zero_le _
  | e :: es, l, h => by
    have h1 := ed_few es _ h.2.2.2
    have h2 := (fol_len l h.1)
    rw [List.length_drop] at h1
    simp only [List.length_cons]; omega
theorem GOk.few {st : List GN} {ts : List Tx} (G : GOk st ts) : ∀ x ∈ st, x.edges.length ≤ 100 := fun x hx => by
  have h := G.nodes x hx
  have h1 := ed_few _ _ h.ed
  have h2 := bod_len x.rests
  have h3 := h.ok.n
  omega
theorem grS_ok {ts : List Tx} (h : goodV ts = 0) (hs : ∀ t ∈ ts, t.size ≤ 100) : GOk (grS ts) ts := graph_ok (ok_good h hs)
theorem grS_len {ts : List Tx} (h : goodV ts = 0) (hs : ∀ t ∈ ts, t.size ≤ 100) : (grS ts).length ≤ 2000 := by
  have h1 : (grS ts).length ≤ 0 + wtS ts + 1 := (reach_len 12 [] ts (ok_good h hs)).2.1
  have h2 := wt_good ts (ok_good h hs).hi
  have h3 := (ok_good h hs).n
  omega
theorem gFinal_c (n : Int) (v : Bool) {w0 : World} {g : Nat} {st : List GN} {S : Nat → Prop} (w : World) (c : CtxG w0 w g st S) (hv : finG st n = v) :
    Calls Try.prog 66 #[.pointer (some ⟨g, 0, none⟩), .int .i64 n] w fun e w' => e = .returned (.bool v) ∧ w = w' := by subst hv; exact gFinal_any g st S n w c.G
end Go.Proofs.Ytbbholdadgjelaa
/- pack: Of, of any words -/
namespace Go.Proofs.Ytbbholdadgjelaa
open Go.RowKit
set_option linter.unusedVariables false
set_option maxRecDepth 20000
theorem edB_len (e : EdP) : (edB e).length = 6 := by unfold edB; rw [List.length_append, Cod.bytesOf_length, Cod.bytesOf_length]
theorem eds_len : ∀ es : List EdP, (es.flatMap edB).length = 6 * es.length
  | [] => rfl
  | e :: es => by rw [List.flatMap_cons, List.length_append, edB_len, eds_len es, List.length_cons]; omega
theorem ndB_len (x : GN) : (ndB x).length = 3 + 6 * x.edges.length := by
  unfold ndB; rw [List.length_append, List.length_append, Cod.bytesOf_length, eds_len]; simp; omega
theorem nds_len : ∀ (st : List GN) (_ : ∀ x ∈ st, x.edges.length ≤ 100), (st.flatMap ndB).length ≤ 603 * st.length
  | [], _ => by simp
  | x :: l, h => by
    have h1 := nds_len l (fun y hy => h y (by simp [hy]))
    have h2 := h x (by simp)
    rw [List.flatMap_cons, List.length_append, ndB_len, List.length_cons]; omega
theorem bodyB_len {st : List GN} (h : ∀ x ∈ st, x.edges.length ≤ 100) (hl : st.length ≤ 800) : (bodyB st).length ≤ 524000 := by
  have := nds_len st h
  unfold bodyB
  rw [List.length_append, List.length_append, Cod.bytesOf_length]
  simp only [List.length_cons, List.length_nil]; omega
theorem grS_few {ts : List Tx} (h : goodV ts = 0) (hs : ∀ t ∈ ts, t.size ≤ 100) : (grS ts).length ≤ 721 := by
  have h1 : (grS ts).length ≤ 0 + wtS ts + 1 := (reach_len 12 [] ts (ok_good h hs)).2.1
  have h2 := wt_good ts (ok_good h hs).hi
  have h3 := (goodV_zero h).1
  omega
theorem fol_lab {l : List Tx} (h : l ≠ []) : (folS l).1 ≤ 2147483647 := by
  cases l with
  | nil => exact absurd rfl h
  | cons t l => exact decode_le t 0
theorem ed_runes {R : List (List Tx)} : ∀ (es : List EdP) (l : List Tx), EdOk R l es → ∀ e ∈ es, 0 ≤ e.r ∧ e.r ≤ 2147483647
  | [], _, _ => fun e h => by simp at h
  | e :: es, l, h => fun x hx => by
    rcases List.mem_cons.1 hx with rfl | hx
    · have h1 := fol_lab h.1
      rw [h.2.1]; omega
    · exact ed_runes es _ h.2.2.2 x hx
theorem GOk.runes {st : List GN} {ts : List Tx} (G : GOk st ts) : ∀ x ∈ st, ∀ e ∈ x.edges, 0 ≤ e.r ∧ e.r ≤ 2147483647 := fun x hx => ed_runes _ _ (G.nodes x hx).ed
theorem encode_of (g : Nat) (ts : List Tx) (S : Nat → Prop) (w : World) (h : GAt g (grS ts) w S) (hv : goodV ts = 0) (hs : ∀ t ∈ ts, t.size ≤ 100) :
    Calls Try.prog 40 #[.pointer (some ⟨g, 0, none⟩)] w (RetE w (imgB (grS ts))) := by
  have G := grS_ok hv hs
  have hl := grS_few hv hs
  exact encode_any g (grS ts) S w h (fun x hx => by have := G.few x hx; omega) G.runes (bodyB_len G.few (by omega)) (by omega)
theorem encode_nil (w : World) : Calls Try.prog 40 #[.pointer none] w fun e w' => e = .returned (.tuple #[.slice none 0 0, .int .i64 2]) ∧ w = w' := by
  go_enter Try.func40, Try.ntmps40
  go_wp2_with fail
  go_ret2
  exact ⟨rfl, rfl⟩
theorem pOf_good (a : Option Addr) (n cap : Nat) (ts : List Tx) (w : World) (hh : HoldsT w a n ts) (hc : n ≤ cap) (hn : n ≤ 9223372036854775807) (hs : ∀ t ∈ ts, t.size ≤ 100) (hv : goodV ts = 0) :
    Calls Try.prog 49 #[.slice a n cap] w (RetE w (imgB (grS ts))) := by
  have CB := Lib.hid (build_c (w0 := w) a n cap ts (grS ts) w (Below.refl _ _) hh hc hn hs hv rfl)
  have CE := Lib.hid (fun g S (w' : World) (h : GAt g (grS ts) w' S) => encode_of g ts S w' h hv hs)
  obtain ⟨o, ho⟩ : ∃ o, imgB (grS ts) = o := ⟨_, rfl⟩
  rw [ho] at CE ⊢
  clear hh hs hv ho
  go_enter Try.func49, Try.ntmps49
  go_wp2_with fail
  with_reducible refine CB.out.mono ?_
  rintro e w1 ⟨g, S, rfl, hC, hb⟩
  have C1 := Lib.hid (CE.out g S w1 hC.G)
  have B1 := Lib.hid hb
  clear hC hb CE CB
  go_wp2_with fail
  with_reducible refine C1.out.mono ?_
  rintro e w2 ⟨a2, c2, rfl, h1, h2, h3⟩
  have F := Lib.hid (show RetE w o (.returned (.tuple #[.slice a2 o.length c2, .int .i64 0])) w2 from
    ⟨a2, c2, rfl, base_less9 h1 B1.out.size, B1.out.trans (h2.mono B1.out.size), h3⟩)
  clear h1 h2 h3 C1
  go_wp2_with fail
  go_ret2
  exact F.out
theorem pOf_bad (a : Option Addr) (n cap : Nat) (ts : List Tx) (v : Int) (w : World) (hh : HoldsT w a n ts) (hn : n ≤ 9223372036854775807) (hs : ∀ t ∈ ts, t.size ≤ 9223372036854775807) (hv : goodV ts = v) (h0 : v ≠ 0) :
    Calls Try.prog 49 #[.slice a n cap] w fun e w' => e = .returned (.tuple #[.slice none 0 0, .int .i64 v]) ∧ Below w.heap.size w w' := by
  have CB := Lib.hid (build_bad a n cap ts v w hh hn hs hv h0)
  have e1 : (v != 0) = true := by simpa using h0
  clear hh hs hv h0
  go_enter Try.func49, Try.ntmps49
  go_wp2_with fail
  with_reducible refine CB.out.mono ?_
  rintro e w1 ⟨rfl, hb⟩
  have B1 := Lib.hid hb
  clear hb CB
  go_wp2_with fail
  go_ret2
  exact ⟨rfl, B1.out⟩
end Go.Proofs.Ytbbholdadgjelaa
/- pack: what is read of an image (plain) -/
namespace Go.Proofs.Ytbbholdadgjelaa
open Go.RowKit
set_option linter.unusedVariables false
set_option maxRecDepth 20000
def edP (e : EdP) : PE := (bitsV e.r % 4294967296, bitsV e.dst % 65536)
def pnG (x : GN) : PN := ⟨x.final, x.edges.map edP⟩
theorem rd_at {bs rest : List Nat} {at_ v s : Nat} (h0 : 0 < s) (h : bs.drop at_ = Cod.bytesOf v s ++ rest) : okR bs.length at_ s false = true ∧ numR bs bs.length at_ s false = v % 256 ^ s ∧ atR bs.length at_ s false = at_ + s ∧ bs.drop (at_ + s) = rest := by
  have hl := congrArg List.length h
  rw [List.length_drop, List.length_append, Cod.bytesOf_length] at hl
  have ok : okR bs.length at_ s false = true := by
    unfold okR
    rw [decide_eq_true (show at_ + s ≤ bs.length by omega)]; rfl
  refine ⟨ok, ?_, ?_, ?_⟩
  · unfold numR
    rw [if_pos ok]
    unfold numN
    rw [h, List.take_left' (Cod.bytesOf_length _ _), Cod.numOf_bytesOf]
  · unfold atR; rw [if_pos ok]
  · rw [← List.drop_drop, h, List.drop_left' (Cod.bytesOf_length _ _)]
theorem rdE_img {bs : List Nat} : ∀ (es : List EdP) (rest : List Nat) (at_ : Nat), bs.drop at_ = es.flatMap edB ++ rest → rdE bs bs.length es.length at_ false = (es.map edP, at_ + 6 * es.length, false) ∧ bs.drop (at_ + 6 * es.length) = rest
  | [], rest, at_, h => ⟨rfl, by simpa using h⟩
  | e :: es, rest, at_, h => by
    rw [List.flatMap_cons, List.append_assoc, show edB e = Cod.bytesOf (bitsV e.r) 4 ++ Cod.bytesOf (bitsV e.dst) 2 from rfl, List.append_assoc] at h
    obtain ⟨o1, n1, a1, d1⟩ := rd_at (by decide) h
    obtain ⟨o2, n2, a2, d2⟩ := rd_at (by decide) d1
    obtain ⟨ih1, ih2⟩ := rdE_img es rest _ d2
    have el : at_ + 6 * (es.length + 1) = at_ + 4 + 2 + 6 * es.length := by omega
    rw [List.length_cons, el]
    refine ⟨?_, ih2⟩
    simp only [rdE, o1, n1, a1, o2, n2, a2, Bool.not_true, Bool.false_eq_true, if_false, ih1]
    rfl
theorem finN_bytes (x : GN) : [finN x] = Cod.bytesOf (finN x) 1 := by unfold finN; split <;> rfl
theorem rdN_img {bs rest : List Nat} (x : GN) (hx : x.edges.length < 65536) (at_ : Nat) (h : bs.drop at_ = ndB x ++ rest) : rdN bs bs.length at_ false = (pnG x, at_ + (ndB x).length, false) ∧ bs.drop (at_ + (ndB x).length) = rest := by
  have h2 : bs.drop at_ = Cod.bytesOf (finN x) 1 ++ (Cod.bytesOf x.edges.length 2 ++ (x.edges.flatMap edB ++ rest)) := by
    rw [h, ← finN_bytes]; unfold ndB; simp only [List.append_assoc]
  obtain ⟨o1, n1, a1, d1⟩ := rd_at (by decide) h2
  obtain ⟨o2, n2, a2, d2⟩ := rd_at (by decide) d1
  have hm : x.edges.length % 256 ^ 2 = x.edges.length := Nat.mod_eq_of_lt (by omega)
  have hf : decide (finN x % 256 ^ 1 = 1) = x.final := by unfold finN; cases x.final <;> rfl
  obtain ⟨ih1, ih2⟩ := rdE_img x.edges rest _ d2
  have el : at_ + (ndB x).length = at_ + 1 + 2 + 6 * x.edges.length := by rw [ndB_len]; omega
  rw [el]
  refine ⟨?_, ih2⟩
  simp only [rdN, o1, n1, a1, o2, n2, a2, Bool.not_true, hm, hf, ih1]
  rfl
theorem rdL_img {bs : List Nat} : ∀ (st : List GN) (rest : List Nat) (at_ : Nat), (∀ x ∈ st, x.edges.length < 65536) → bs.drop at_ = st.flatMap ndB ++ rest → rdL bs bs.length st.length at_ = some (st.map pnG, at_ + (st.flatMap ndB).length) ∧ bs.drop (at_ + (st.flatMap ndB).length) = rest
  | [], rest, at_, _, h => ⟨rfl, by simpa using h⟩
  | x :: st, rest, at_, hs, h => by
    rw [List.flatMap_cons, List.append_assoc] at h
    obtain ⟨e1, d1⟩ := rdN_img x (hs x (by simp)) at_ h
    obtain ⟨ih1, ih2⟩ := rdL_img st rest _ (fun y hy => hs y (by simp [hy])) d1
    have el : at_ + ((x :: st).flatMap ndB).length = at_ + (ndB x).length + (st.flatMap ndB).length := by rw [List.flatMap_cons, List.length_append]; omega
    rw [el, List.length_cons]
    refine ⟨?_, ih2⟩
    simp only [rdL, e1, ih1, Bool.false_eq_true, if_false, Option.map_some]
    rfl
/-- what begins with a body tells the body's nodes, and how long it is -/
theorem body_tell {st : List GN} {rest : List Nat} (hl : st.length < 65536) (hs : ∀ x ∈ st, x.edges.length < 65536) {d : List Nat} (hd : d = (bodyB st ++ rest).drop 4) : okR d.length 0 2 false = true ∧ rdL d d.length (numR d d.length 0 2 false) 2 = some (st.map pnG, 2 + (st.flatMap ndB).length) ∧ d.drop (2 + (st.flatMap ndB).length) = rest := by
  have e : d.drop 0 = Cod.bytesOf st.length 2 ++ (st.flatMap ndB ++ rest) := by
    rw [hd]; unfold bodyB; simp
  obtain ⟨o1, n1, -, d1⟩ := rd_at (by decide) e
  rw [Nat.mod_eq_of_lt (show st.length < 256 ^ 2 by omega)] at n1
  obtain ⟨h1, h2⟩ := rdL_img st rest _ hs d1
  rw [n1]
  exact ⟨o1, h1, h2⟩
theorem readP_img {st : List GN} (hl : st.length < 65536) (hs : ∀ x ∈ st, x.edges.length < 65536) : readP (bodyB st) = some (st.map pnG) := by
  obtain ⟨d, hd⟩ : ∃ d, (bodyB st).drop 4 = d := ⟨_, rfl⟩
  obtain ⟨h1, h2, h3⟩ := body_tell (rest := []) hl hs (d := d) (by rw [List.append_nil, hd])
  have e1 : (bodyB st).take 4 = [73, 78, 75, 49] := by unfold bodyB; rfl
  have e2 : 2 + (st.flatMap ndB).length = d.length := by
    rw [← hd]; unfold bodyB; simp [Cod.bytesOf_length]
  unfold readP
  rw [if_pos e1, hd]
  simp only [h1, if_true, h2, e2]
/-- two bodies, one of which begins like the other with something behind, are as long -/
theorem body_cut {s1 s2 : List GN} {r1 r2 : List Nat} (h : bodyB s1 ++ r1 = bodyB s2 ++ r2) (l1 : s1.length < 65536) (l2 : s2.length < 65536) (e1 : ∀ x ∈ s1, x.edges.length < 65536) (e2 : ∀ x ∈ s2, x.edges.length < 65536) : r1 = r2 := by
  obtain ⟨d, hd⟩ : ∃ d, d = (bodyB s1 ++ r1).drop 4 := ⟨_, rfl⟩
  obtain ⟨-, a2, a3⟩ := body_tell l1 e1 hd
  obtain ⟨-, b2, b3⟩ := body_tell l2 e2 (hd.trans (by rw [h]))
  rw [a2] at b2
  injection b2 with b2
  injection b2 with b2 b4
  rw [← a3, ← b3, b4]
end Go.Proofs.Ytbbholdadgjelaa
/- a rune written and what is behind it: the text -/
namespace Go.Proofs.Ytbbholdadgjelaa
open Go.RowKit
set_option linter.unusedVariables false
set_option maxRecDepth 20000
theorem ue_decodeN_good (n b0 b1 b2 b3 : Nat) (hg : (Lib.decodeN n b0 b1 b2 b3).1 ≠ 65533) (h0 : b0 < 256) :
    ((Lib.decodeN n b0 b1 b2 b3).1 < 55296 ∨ 57343 < (Lib.decodeN n b0 b1 b2 b3).1) ∧ (Lib.decodeN n b0 b1 b2 b3).1 ≤ 1114111 := by
  unfold Lib.decodeN at *
  by_cases k0 : b0 < 128
  · rw [if_pos k0]; exact ⟨Or.inl (show b0 < 55296 by omega), (show b0 ≤ 1114111 by omega)⟩
  rw [if_neg k0] at hg ⊢
  by_cases k1 : b0 / 32 = 6 ∧ 1 < n ∧ b1 / 64 = 2
  · rw [if_pos k1] at hg ⊢
    by_cases h : b0 % 32 * 64 + b1 % 64 ≥ 128
    · rw [if_pos h]; exact ⟨Or.inl (show b0 % 32 * 64 + b1 % 64 < 55296 by omega), (show b0 % 32 * 64 + b1 % 64 ≤ 1114111 by omega)⟩
    · rw [if_neg h] at hg; exact absurd rfl hg
  rw [if_neg k1] at hg ⊢
  by_cases k2 : b0 / 16 = 14 ∧ (1 < n ∧ b1 / 64 = 2) ∧ 2 < n ∧ b2 / 64 = 2
  · rw [if_pos k2] at hg ⊢
    by_cases h : b0 % 16 * 4096 + b1 % 64 * 64 + b2 % 64 ≥ 2048 ∧ (b0 % 16 * 4096 + b1 % 64 * 64 + b2 % 64 < 55296 ∨ (57344 ≤ b0 % 16 * 4096 + b1 % 64 * 64 + b2 % 64 ∧ b0 % 16 * 4096 + b1 % 64 * 64 + b2 % 64 ≤ 1114111))
    · rw [if_pos h]
      refine ⟨?_, show b0 % 16 * 4096 + b1 % 64 * 64 + b2 % 64 ≤ 1114111 by omega⟩
      show b0 % 16 * 4096 + b1 % 64 * 64 + b2 % 64 < 55296 ∨ 57343 < b0 % 16 * 4096 + b1 % 64 * 64 + b2 % 64
      omega
    · rw [if_neg h] at hg; exact absurd rfl hg
  rw [if_neg k2] at hg ⊢
  by_cases k3 : b0 / 8 = 30 ∧ (1 < n ∧ b1 / 64 = 2) ∧ (2 < n ∧ b2 / 64 = 2) ∧ 3 < n ∧ b3 / 64 = 2
  · rw [if_pos k3] at hg ⊢
    by_cases h : b0 % 8 * 262144 + b1 % 64 * 4096 + b2 % 64 * 64 + b3 % 64 ≥ 65536 ∧ (b0 % 8 * 262144 + b1 % 64 * 4096 + b2 % 64 * 64 + b3 % 64 < 55296 ∨ (57344 ≤ b0 % 8 * 262144 + b1 % 64 * 4096 + b2 % 64 * 64 + b3 % 64 ∧ b0 % 8 * 262144 + b1 % 64 * 4096 + b2 % 64 * 64 + b3 % 64 ≤ 1114111))
    · rw [if_pos h]
      refine ⟨?_, show b0 % 8 * 262144 + b1 % 64 * 4096 + b2 % 64 * 64 + b3 % 64 ≤ 1114111 by omega⟩
      show b0 % 8 * 262144 + b1 % 64 * 4096 + b2 % 64 * 64 + b3 % 64 < 55296 ∨ 57343 < b0 % 8 * 262144 + b1 % 64 * 4096 + b2 % 64 * 64 + b3 % 64
      omega
    · rw [if_neg h] at hg; exact absurd rfl hg
  rw [if_neg k3] at hg
  exact absurd rfl hg
theorem ue_drop_byte (s : ByteArray) (j : Nat) (h : j < s.size) : s.toList.drop j = UInt8.ofNat (byteS s j) :: s.toList.drop (j + 1) := by
  obtain ⟨c, h1, h2⟩ := drop_at s j h
  rw [h1, ← h2, UInt8.ofNat_toNat]
theorem ue_bytes_list (s : ByteArray) (pos w : Nat) (h : pos + w ≤ s.size) (h1 : 1 ≤ w) (h4 : w ≤ 4) :
    (s.toList.drop pos).take w = ([byteS s pos, byteS s (pos + 1), byteS s (pos + 2), byteS s (pos + 3)].take w).map UInt8.ofNat := by
  have hw : w = 1 ∨ w = 2 ∨ w = 3 ∨ w = 4 := by omega
  rcases hw with rfl | rfl | rfl | rfl
  · rw [ue_drop_byte s pos (by omega)]; rfl
  · rw [ue_drop_byte s pos (by omega), ue_drop_byte s (pos + 1) (by omega)]; rfl
  · rw [ue_drop_byte s pos (by omega), ue_drop_byte s (pos + 1) (by omega), ue_drop_byte s (pos + 1 + 1) (by omega)]; rfl
  · rw [ue_drop_byte s pos (by omega), ue_drop_byte s (pos + 1) (by omega), ue_drop_byte s (pos + 1 + 1) (by omega), ue_drop_byte s (pos + 1 + 1 + 1) (by omega)]; rfl
theorem ue_enc_width {r w b0 b1 b2 b3 : Nat} (h : Enc r w b0 b1 b2 b3) : 1 ≤ w ∧ w ≤ 4 ∧ r ≤ 1114111 := by unfold Enc at h; omega
/-- a rune read well: its bytes -/
theorem ue_read_well (s : ByteArray) (pos : Nat) (h : pos < s.size) (hg : (Utf8.decode s pos).1 ≠ 65533) :
    Enc (Utf8.decode s pos).1 (Utf8.decode s pos).2 (byteS s pos) (byteS s (pos + 1)) (byteS s (pos + 2)) (byteS s (pos + 3)) ∧ ((Utf8.decode s pos).1 < 55296 ∨ 57343 < (Utf8.decode s pos).1) := by
  rw [decode_bytes] at hg ⊢
  exact ⟨decodeN_enc _ _ _ _ _ (byteS_lt _ _) hg, (ue_decodeN_good _ _ _ _ _ hg (byteS_lt _ _)).1⟩
theorem encode_enc (r w b0 b1 b2 b3 : Nat) (h : Enc r w b0 b1 b2 b3) (hs : r < 55296 ∨ 57343 < r) : (Utf8.encode (r : Int)).data.toList = ([b0, b1, b2, b3].take w).map UInt8.ofNat := by
  have hr : r ≤ 1114111 := (ue_enc_width h).2.2
  have hv : Utf8.valid (r : Int) = true := by
    unfold Utf8.valid
    simp only [Bool.or_eq_true, Bool.and_eq_true, decide_eq_true_eq]
    omega
  unfold Utf8.encode
  rw [if_pos hv]
  simp only [Int.toNat_natCast]
  rcases h with ⟨rfl, rfl, h⟩ | ⟨rfl, h0, h1, h2, h3⟩ | ⟨rfl, h0, h1, h2, h3, h4⟩ | ⟨rfl, h0, h1, h2, h3, h4, h5⟩
  · rw [if_pos (by omega)]; rfl
  · rw [if_neg (by omega), if_pos (by omega), h0, h1]; rfl
  · rw [if_neg (by omega), if_neg (by omega), if_pos (by omega), h0, h1, h2]; rfl
  · rw [if_neg (by omega), if_neg (by omega), if_neg (by omega), h0, h1, h2, h3]; rfl
theorem enc_rst {t : Tx} (h : 0 ≤ lenS t) (h0 : 0 < t.size) : Utf8.encode (labS t : Int) ++ rstS t = t := by
  obtain ⟨h1, h2, -⟩ := good_first h h0
  obtain ⟨e1, e2⟩ := ue_read_well t 0 h0 h1
  have hw := ue_enc_width e1
  have hx : Utf8.encode (labS t : Int) = t.extract 0 (Utf8.decode t 0).2 := by
    have hb := ue_bytes_list t 0 _ (by omega) hw.1 hw.2.1
    have he := encode_enc _ _ _ _ _ _ e1 e2
    rw [← hb, List.drop_zero, ByteArray.toList_eq] at he
    have hl : labS t = (Utf8.decode t 0).1 := rfl
    rw [hl]
    apply tx_ext
    rw [he]
    have hz := (extract_size t (Utf8.decode t 0).2 h2).1
    have hj : (t.extract 0 (Utf8.decode t 0).2 ++ rstS t).data.toList = t.data.toList := by rw [rst_split h h0]
    rw [show ∀ a b : ByteArray, (a ++ b).data.toList = a.data.toList ++ b.data.toList from fun a b => by simp] at hj
    rw [← hj]
    have hn : (t.extract 0 (Utf8.decode t 0).2).data.toList.length = (Utf8.decode t 0).2 := by rw [Array.length_toList]; exact hz
    exact List.take_left' hn
  rw [hx]
  exact rst_split h h0
end Go.Proofs.Ytbbholdadgjelaa
/- graph: the text of one rune -/
namespace Go.Proofs.Ytbbholdadgjelaa
open Go.RowKit
set_option linter.unusedVariables false
set_option maxRecDepth 20000
theorem ue_encode_list (r w b0 b1 b2 b3 : Nat) (h : Enc r w b0 b1 b2 b3) (hs : r < 55296 ∨ 57343 < r) : Lib.encodeRune (r : Int) = ([b0, b1, b2, b3].take w).map UInt8.ofNat := by
  unfold Lib.encodeRune
  rcases h with ⟨rfl, rfl, h⟩ | ⟨rfl, h0, h1, h2, h3⟩ | ⟨rfl, h0, h1, h2, h3, h4⟩ | ⟨rfl, h0, h1, h2, h3, h4, h5⟩
  · rw [Lib.encodeRuneZ_one (by omega) (by omega)]; rfl
  · rw [Lib.encodeRuneZ_two (by omega) (by omega)]
    have e0 : (192 + (r : Int) / 64).toNat = b0 := by omega
    have e1 : (128 + (r : Int) % 64).toNat = b1 := by omega
    simp only [List.map, e0, e1, List.take]
  · rw [Lib.encodeRuneZ_three (by omega)]
    have e0 : (224 + (r : Int) / 4096).toNat = b0 := by omega
    have e1 : (128 + (r : Int) / 64 % 64).toNat = b1 := by omega
    have e2 : (128 + (r : Int) % 64).toNat = b2 := by omega
    simp only [List.map, e0, e1, e2, List.take]
  · rw [Lib.encodeRuneZ_four (by omega) (by omega)]
    have e0 : (240 + (r : Int) / 262144).toNat = b0 := by omega
    have e1 : (128 + (r : Int) / 4096 % 64).toNat = b1 := by omega
    have e2 : (128 + (r : Int) / 64 % 64).toNat = b2 := by omega
    have e3 : (128 + (r : Int) % 64).toNat = b3 := by omega
    simp only [List.map, e0, e1, e2, e3, List.take]
/-- a first rune's text, and what is behind it -/
theorem text_rst {t : Tx} (h : 0 ≤ lenS t) (h0 : 0 < t.size) : textZ [(labS t : Int)] ++ rstS t = t := by
  obtain ⟨h1, h2, -⟩ := good_first h h0
  obtain ⟨e1, e2⟩ := ue_read_well t 0 h0 h1
  have hw := ue_enc_width e1
  have hl : labS t = (Utf8.decode t 0).1 := rfl
  have hg : allG [(labS t : Int)] := by
    intro z hz
    simp only [List.mem_singleton] at hz
    subst hz
    rw [hl]
    unfold goodP
    omega
  rw [(textZ_good hg).1]
  have he : encB [(labS t : Int)] = Utf8.encode (labS t : Int) := by
    rw [hl]
    apply tx_ext
    rw [encode_enc _ _ _ _ _ _ e1 e2, ← ue_encode_list _ _ _ _ _ _ e1 e2]
    simp [encB, encL]
  rw [he]
  exact enc_rst h h0
end Go.Proofs.Ytbbholdadgjelaa
/- pack: the words that an image's nodes tell (plain) -/
namespace Go.Proofs.Ytbbholdadgjelaa
open Go.RowKit
set_option linter.unusedVariables false
set_option maxRecDepth 20000
theorem lab_good {t : Tx} (h : 0 ≤ lenS t) (h0 : 0 < t.size) : allG [(labS t : Int)] := by
  obtain ⟨h1, h2, -⟩ := good_first h h0
  obtain ⟨e1, e2⟩ := ue_read_well t 0 h0 h1
  have hw := ue_enc_width e1
  have hl : labS t = (Utf8.decode t 0).1 := rfl
  intro z hz
  simp only [List.mem_singleton] at hz
  subst hz
  rw [hl]
  unfold goodP
  omega
theorem fol_lab9 {m : List Tx} (h : Run m) (h0 : m ≠ []) : allG [((folS m).1 : Int)] ∧ (folS m).1 ≤ 1114111 := by
  cases m with
  | nil => exact absurd rfl h0
  | cons t m =>
    have h1 : allG [((folS (t :: m)).1 : Int)] := lab_good (h.lo t (by simp)) (h.pos t (by simp))
    have h2 := h1 _ (List.mem_singleton.2 rfl)
    unfold goodP at h2
    exact ⟨h1, by omega⟩
theorem fol_map9 {l : List Tx} (h : Run l) (h0 : l ≠ []) (s : Tx) : (folS l).2.map (fun x => (s ++ textZ [((folS l).1 : Int)]) ++ x) = (l.take (folS l).2.length).map (fun x => s ++ x) := by
  obtain ⟨k, hk, h1, h2⟩ := fol_split h0
  rw [← hk, h2, List.map_map]
  refine List.map_congr_left fun u hu => ?_
  have hm : u ∈ l := List.mem_of_mem_take hu
  have hl : labS u = (folS l).1 := by
    rw [h1] at hu
    have h3 := mem_tw (p := fun t => decide (labS t = labS (l.getD 0 ByteArray.empty))) hu
    rw [show labS u = labS (l.getD 0 ByteArray.empty) from of_decide_eq_true h3]
    cases l with
    | nil => exact absurd rfl h0
    | cons a l => rfl
  show (s ++ textZ [((folS l).1 : Int)]) ++ rstS u = s ++ u
  rw [← hl, ByteArray.append_assoc, text_rst (h.lo u hm) (h.pos u hm)]
theorem bitsV_nat9 (n : Nat) (h : n < 9223372036854775808) : bitsV (n : Int) = n := by
  have := bitsV_eq (n : Int)
  simp only [IntKind.wrap, IntKind.signed, IntKind.bits] at this
  simp at this
  omega
theorem edP_ok {e : EdP} {x k : Nat} (h1 : e.r = (x : Int)) (hx : x ≤ 1114111) (h2 : e.dst = (k : Int)) (hk : k < 65536) : runeL (edP e).1 = (x : Int) ∧ (edP e).2 = k := by
  unfold edP runeL
  rw [h1, h2, bitsV_nat9 x (by omega), bitsV_nat9 k (by omega)]
  simp only
  rw [Nat.mod_eq_of_lt (show x < 4294967296 by omega), Nat.mod_eq_of_lt hk]
  refine ⟨?_, rfl⟩
  simp only [IntKind.wrap, IntKind.signed, IntKind.bits]
  simp
  omega
/-- the texts, each with what is ahead -/
def onto (pre : Tx) (l : List Tx) : List Tx := l.map (fun x => pre ++ x)
def FolAll (L : List PN) (R : List (List Tx)) (f : Nat) : Prop := ∀ (F k : Nat) (l : List Tx) (pre : Tx) (left : Nat) (ws : List Tx), f ≤ F → R[k]? = some l → OkL f l → wtS l + 1 ≤ left → ∃ c, c ≤ wtS l + 1 ∧ folF L (F + 1) k pre left ws = (true, left - c, ws ++ onto pre l)
theorem folE_img {L : List PN} {R : List (List Tx)} {f F : Nat} (IH : FolAll L R f) (hF : f ≤ F) (hR : R.length ≤ 65536) (pre : Tx) : ∀ (es : List EdP) (m : List Tx) (left : Nat) (ws : List Tx), EdOk R m es → Run m → OkL (f + 1) m → wtS m ≤ left → ∃ c, c ≤ wtS m ∧ folE (folF L (F + 1)) pre (es.map edP) left ws = (true, left - c, ws ++ onto pre m)
  | [], m, left, ws, h, _, _, _ => by
    obtain rfl : m = [] := h
    exact ⟨0, Nat.zero_le _, by simp [folE, onto]⟩
  | e :: es, m, left, ws, h, hm, ho, hw => by
    obtain ⟨h0, h1, ⟨k, h2, h3⟩, h4⟩ := h
    obtain ⟨g1, g2⟩ := fol_lab9 hm h0
    have hk := (List.getElem?_eq_some_iff.1 h3).1
    obtain ⟨x1, x2⟩ := edP_ok h1 g2 h2 (by omega)
    have wf := wt_fol h0 hm.lo hm.pos
    obtain ⟨c1, hc1, e1⟩ := IH F k (folS m).2 (pre ++ labT (edP e).1) left ws hF h3 (ho.fol hm.pos) (by omega)
    obtain ⟨c2, hc2, e2⟩ := folE_img IH hF hR pre es (m.drop (folS m).2.length) (left - c1) (ws ++ onto (pre ++ labT (edP e).1) (folS m).2) h4 (hm.drop _) (ho.drop _) (by omega)
    refine ⟨c1 + c2, by omega, ?_⟩
    rw [List.map_cons]
    unfold folE
    rw [x1, if_pos g1, x2, e1]
    simp only [if_true]
    rw [e2, Nat.sub_sub, List.append_assoc]
    have e3 : onto (pre ++ labT (edP e).1) (folS m).2 = onto pre (m.take (folS m).2.length) := by
      unfold onto labT
      rw [x1]
      exact fol_map9 hm h0 pre
    rw [e3]
    unfold onto
    rw [← List.map_append, List.take_append_drop]
theorem fin_split (l : List Tx) (pre : Tx) (ws : List Tx) : (if finS l then ws ++ [pre] else ws) ++ onto pre (bodS l) = ws ++ onto pre l := by
  unfold bodS
  split
  · rename_i h
    unfold finS at h
    cases l with
    | nil => simp at h
    | cons t l =>
      simp only [List.head?_cons, Option.some.injEq, decide_eq_true_eq] at h
      subst h
      have e : pre ++ (⟨#[]⟩ : ByteArray) = pre := by
        apply tx_ext; simp
      simp [onto, e]
  · rfl
theorem folF_go9 (L : List PN) (f n : Nat) (pre : Tx) (left : Nat) (ws : List Tx) (h : ¬ (L.length ≤ n ∨ left = 0)) : folF L (f + 1) n pre left ws = folE (folF L f) pre (L.getD n ⟨false, []⟩).es (left - 1) (if (L.getD n ⟨false, []⟩).fin then ws ++ [pre] else ws) := by
  conv => lhs; unfold folF
  rw [if_neg h]
theorem fol_img {st : List GN} {ts : List Tx} (G : GOk st ts) (hl : st.length ≤ 65536) : ∀ f, FolAll (st.map pnG) (restsG st) f := by
  intro f
  induction f with
  | zero =>
    intro F k l pre left ws hF hR hO hw
    obtain ⟨hk, hr, hN⟩ := G.node hR
    have hb := bod_none hO
    have he := hN.ed
    rw [hr, hb] at he
    have hes : (st.getD k gn0).edges = [] := by
      cases h : (st.getD k gn0).edges with
      | nil => rfl
      | cons e es => rw [h] at he; exact absurd rfl he.1
    have hg : (st.map pnG).getD k ⟨false, []⟩ = ⟨finS l, []⟩ := by
      rw [List.getD_eq_getElem?_getD, List.getElem?_map, List.getElem?_eq_getElem hk]
      have e : st[k] = st.getD k gn0 := by rw [List.getD_eq_getElem?_getD, List.getElem?_eq_getElem hk]; rfl
      rw [Option.map_some, Option.getD_some, e]
      unfold pnG
      rw [hes, hN.fin, hr]; rfl
    refine ⟨1, by omega, ?_⟩
    rw [folF_go9 _ _ _ _ _ _ (by rw [List.length_map]; omega), hg]
    have := fin_split l pre ws
    rw [hb] at this
    simp only [folE]
    rw [← this]
    simp [onto]
  | succ f IH =>
    intro F k l pre left ws hF hR hO hw
    obtain ⟨F', rfl⟩ : ∃ F', F = F' + 1 := ⟨F - 1, by omega⟩
    obtain ⟨hk, hr, hN⟩ := G.node hR
    have he := hN.ed
    rw [hr] at he
    have hg : (st.map pnG).getD k ⟨false, []⟩ = ⟨finS l, (st.getD k gn0).edges.map edP⟩ := by
      rw [List.getD_eq_getElem?_getD, List.getElem?_map, List.getElem?_eq_getElem hk]
      have e : st[k] = st.getD k gn0 := by rw [List.getD_eq_getElem?_getD, List.getElem?_eq_getElem hk]; rfl
      rw [Option.map_some, Option.getD_some, e]
      unfold pnG
      rw [hN.fin, hr]
    obtain ⟨c, hc, ec⟩ := folE_img (F := F') IH (by omega) (by unfold restsG; rw [List.length_map]; exact hl) pre (st.getD k gn0).edges (bodS l) (left - 1) (if finS l then ws ++ [pre] else ws) he hO.run hO.bod (by have := wt_bod l; omega)
    have := wt_bod l
    refine ⟨c + 1, by omega, ?_⟩
    rw [folF_go9 _ _ _ _ _ _ (by rw [List.length_map]; omega), hg]
    simp only
    rw [ec, fin_split, Nat.sub_sub, Nat.add_comm 1 c]
end Go.Proofs.Ytbbholdadgjelaa
/- pack: what Decode tells (plain) -/
namespace Go.Proofs.Ytbbholdadgjelaa
open Go.RowKit
set_option linter.unusedVariables false
set_option maxRecDepth 20000
def GoodE (es : List PE) : Prop := ∀ e ∈ es, e.1 < 4294967296 ∧ e.2 < 65536
theorem rdE_good (bs : List Nat) (hb : ∀ b ∈ bs, b < 256) : ∀ (k at_ : Nat) (bad : Bool), GoodE (rdE bs bs.length k at_ bad).1 ∧ (rdE bs bs.length k at_ bad).1.length ≤ k
  | 0, at_, bad => ⟨fun e he => (by cases he), Nat.le_refl _⟩
  | k + 1, at_, bad => by
    have h1 := numR_lt bs bs.length at_ 4 bad hb rfl
    have h2 := numR_lt bs bs.length (atR bs.length at_ 4 bad) 2 (!okR bs.length at_ 4 bad) hb rfl
    rw [rdE_succ]
    simp only
    split
    · exact ⟨fun e he => by
        rw [List.mem_singleton] at he; subst he; exact ⟨h1, h2⟩, by simp⟩
    · have ih := rdE_good bs hb k (atR bs.length (atR bs.length at_ 4 bad) 2 (!okR bs.length at_ 4 bad)) false
      refine ⟨fun e he => ?_, by simp only [List.length_cons]; omega⟩
      rcases List.mem_cons.1 he with rfl | he
      · exact ⟨h1, h2⟩
      · exact ih.1 e he
theorem rdN_good (bs : List Nat) (hb : ∀ b ∈ bs, b < 256) (at_ : Nat) (bad : Bool) : GoodE (rdN bs bs.length at_ bad).1.es ∧ (rdN bs bs.length at_ bad).1.es.length ≤ 65535 := by
  have h := rdE_good bs hb (numR bs bs.length (atR bs.length at_ 1 bad) 2 (!okR bs.length at_ 1 bad)) (atR bs.length (atR bs.length at_ 1 bad) 2 (!okR bs.length at_ 1 bad)) (!okR bs.length (atR bs.length at_ 1 bad) 2 (!okR bs.length at_ 1 bad))
  have h2 := numR_lt bs bs.length (atR bs.length at_ 1 bad) 2 (!okR bs.length at_ 1 bad) hb rfl
  have h3 : (256 : Nat) ^ 2 = 65536 := by decide
  exact ⟨h.1, Nat.le_trans h.2 (by omega)⟩
def GoodNs (L : List PN) : Prop := ∀ x ∈ L, GoodE x.es ∧ x.es.length ≤ 65535
theorem rdL_good (bs : List Nat) (hb : ∀ b ∈ bs, b < 256) : ∀ (k at_ : Nat) (L : List PN) (e : Nat), rdL bs bs.length k at_ = some (L, e) → GoodNs L ∧ L.length ≤ k
  | 0, at_, L, e, h => by
    simp only [rdL, Option.some.injEq, Prod.mk.injEq] at h
    obtain ⟨rfl, -⟩ := h
    exact ⟨fun x hx => (by cases hx), Nat.le_refl _⟩
  | k + 1, at_, L, e, h => by
    simp only [rdL] at h
    split at h
    · cases h
    · rw [Option.map_eq_some_iff] at h
      obtain ⟨⟨L', e'⟩, h1, h2⟩ := h
      injection h2 with h2 h3
      subst h2
      obtain ⟨i1, i2⟩ := rdL_good bs hb k _ L' e' h1
      refine ⟨fun x hx => ?_, by simp only [List.length_cons]; omega⟩
      rcases List.mem_cons.1 hx with rfl | hx
      · exact rdN_good bs hb at_ false
      · exact i1 x hx
theorem readP_good {body : List Nat} (hb : ∀ b ∈ body, b < 256) {L : List PN} (h : readP body = some L) : GoodNs L ∧ L.length ≤ 65535 := by
  unfold readP at h
  split at h
  · simp only at h
    split at h
    · have hd : ∀ b ∈ body.drop 4, b < 256 := fun b hm => hb b (List.mem_of_mem_drop hm)
      have hn := numR_lt (body.drop 4) (body.drop 4).length 0 2 false hd rfl
      split at h
      · rename_i L' k hL
        split at h
        · injection h with h
          subst h
          have h3 : (256 : Nat) ^ 2 = 65536 := by decide
          have := rdL_good _ hd _ _ _ _ hL
          exact ⟨this.1, by omega⟩
        · cases h
      · cases h
    · cases h
  · cases h
/-! how long the words are that nodes tell -/
theorem folE_size {rf : Nat → Tx → Nat → List Tx → Bool × Nat × List Tx} (hl : ∀ n pre left ws, (rf n pre left ws).2.1 ≤ left) (h : ∀ n pre left ws, ∀ t ∈ (rf n pre left ws).2.2, t ∈ ws ∨ t.size ≤ pre.size + 4 * left) (pre : Tx) : ∀ (es : List PE) (left : Nat) (ws : List Tx), ∀ t ∈ (folE rf pre es left ws).2.2, t ∈ ws ∨ t.size ≤ pre.size + 4 + 4 * left
  | [], left, ws => fun t ht => Or.inl ht
  | e :: es, left, ws => fun t ht => by
    have hs : (pre ++ labT e.1).size ≤ pre.size + 4 := by rw [ByteArray.size_append]; have := labT_size e.1; omega
    have hll := hl e.2 (pre ++ labT e.1) left ws
    have hh := h e.2 (pre ++ labT e.1) left ws
    unfold folE at ht
    split at ht
    · split at ht
      · rcases folE_size hl h pre es _ _ t ht with h1 | h1
        · rcases hh t h1 with h2 | h2
          · exact Or.inl h2
          · exact Or.inr (by omega)
        · exact Or.inr (by omega)
      · rcases hh t ht with h2 | h2
        · exact Or.inl h2
        · exact Or.inr (by omega)
    · exact Or.inl ht
theorem folF_size (L : List PN) : ∀ (f n : Nat) (pre : Tx) (left : Nat) (ws : List Tx), ∀ t ∈ (folF L f n pre left ws).2.2, t ∈ ws ∨ t.size ≤ pre.size + 4 * left
  | 0, n, pre, left, ws => fun t ht => Or.inl ht
  | f + 1, n, pre, left, ws => fun t ht => by
    unfold folF at ht
    split at ht
    · exact Or.inl ht
    · rename_i hc
      rcases folE_size (folF_left L f) (folF_size L f) pre _ _ _ t ht with h1 | h1
      · split at h1
        · rcases List.mem_append.1 h1 with h1 | h1
          · exact Or.inl h1
          · rw [List.mem_singleton] at h1; subst h1; exact Or.inr (by omega)
        · exact Or.inl h1
      · exact Or.inr (by omega)
theorem size_fourN9 : ∀ (n : Nat) (t : Tx), t.size ≤ n → 0 ≤ lenS t → (t.size : Int) ≤ 4 * lenS t
  | 0, t, h, h0 => by omega
  | n + 1, t, h, h0 => by
    rcases Nat.eq_zero_or_pos t.size with hz | hp
    · omega
    · have h1 := rst_size h0 hp
      have h2 := rst_len h0 hp
      have ih := size_fourN9 n (rstS t) (by omega) h2.1
      obtain ⟨g1, g2, -⟩ := good_first h0 hp
      obtain ⟨e1, e2⟩ := ue_read_well t 0 hp g1
      have hw := ue_enc_width e1
      omega
theorem good_sizes {ts : List Tx} (h : goodV ts = 0) : ∀ t ∈ ts, t.size ≤ 48 := fun t ht => by
  obtain ⟨h1, h2⟩ := (goodV_zero h).2.1 t ht
  have := size_fourN9 t.size t (Nat.le_refl _) (by omega)
  omega
/-- the words that nodes tell from the first on; none: they tell none -/
def wordsP (L : List PN) : Option (List Tx) := if (folF L 722 0 ⟨#[]⟩ 721 []).1 then some (folF L 722 0 ⟨#[]⟩ 721 []).2.2 else none
theorem wordsP_small {L : List PN} {ts : List Tx} (h : wordsP L = some ts) : ts.length ≤ 721 ∧ ∀ t ∈ ts, t.size ≤ 2884 := by
  unfold wordsP at h
  split at h
  · injection h with h
    subst h
    refine ⟨?_, fun t ht => ?_⟩
    · have := folF_few L 722 0 ⟨#[]⟩ 721 []
      simp only [List.length_nil] at this
      omega
    · rcases folF_size L 722 0 ⟨#[]⟩ 721 [] t ht with h1 | h1
      · cases h1
      · have e : (⟨#[]⟩ : ByteArray).size = 0 := rfl
        omega
  · cases h
theorem imgB_body (st : List GN) : (imgB st).take ((imgB st).length - 4) = bodyB st := by
  unfold imgB
  rw [sealB_len, Nat.add_sub_cancel]
  unfold sealB
  exact List.take_left' rfl
theorem grS_edges {ts : List Tx} (h : goodV ts = 0) : (grS ts).length ≤ 721 ∧ ∀ x ∈ grS ts, x.edges.length ≤ 100 :=
  ⟨grS_few h (fun t ht => by have := good_sizes h t ht; omega), (grS_ok h (fun t ht => by have := good_sizes h t ht; omega)).few⟩
theorem openB_img (st : List GN) : openB (imgB st) = true := by
  have hl : 4 ≤ (imgB st).length := by unfold imgB; rw [sealB_len]; omega
  unfold openB
  rw [imgB_body, decide_eq_true hl, Bool.true_and]
  refine decide_eq_true ?_
  unfold numN imgB
  rw [sealB_len, Nat.add_sub_cancel]
  unfold sealB
  rw [List.drop_left' rfl, List.take_of_length_le (by rw [Cod.bytesOf_length]; omega), Cod.numOf_bytesOf]
  exact Nat.mod_eq_of_lt (sum_lt9 _)
theorem onto_empty (l : List Tx) : onto ⟨#[]⟩ l = l := by
  unfold onto
  refine (List.map_congr_left fun t _ => ?_).trans (List.map_id l)
  apply tx_ext; simp
theorem wordsP_img {ts : List Tx} (h : goodV ts = 0) : readP (bodyB (grS ts)) = some ((grS ts).map pnG) ∧ wordsP ((grS ts).map pnG) = some ts := by
  have hs : ∀ t ∈ ts, t.size ≤ 100 := fun t ht => by have := good_sizes h t ht; omega
  obtain ⟨h1, h2⟩ := grS_edges h
  have G := grS_ok h hs
  have hO := ok_good h hs
  have hw : wtS ts ≤ 720 := by
    have h3 := wt_good ts hO.hi
    have := (goodV_zero h).1
    omega
  refine ⟨readP_img (by omega) (fun x hx => by have := h2 x hx; omega), ?_⟩
  obtain ⟨c, hc, e⟩ := fol_img G (by omega) 12 721 0 ts ⟨#[]⟩ 721 [] (by omega) G.root hO (by omega)
  unfold wordsP
  rw [e]
  simp [onto_empty]
/-- what Decode tells of any bytes -/
def decS (bs : List Nat) : Option (List Tx) :=
  if openB bs then
    match readP (bs.take (bs.length - 4)) with
    | some L =>
      match wordsP L with
      | some ts => if goodV ts = 0 ∧ imgB (grS ts) = bs then some ts else none
      | none => none
    | none => none
  else none
theorem decS_some {bs : List Nat} {ts : List Tx} (h : decS bs = some ts) : goodV ts = 0 ∧ imgB (grS ts) = bs := by
  unfold decS at h
  split at h
  · split at h
    · split at h
      · split at h
        · rename_i hx
          injection h with h
          subst h
          exact hx
        · cases h
      · cases h
    · cases h
  · cases h
theorem decS_img {ts : List Tx} (h : goodV ts = 0) : decS (imgB (grS ts)) = some ts := by
  obtain ⟨h1, h2⟩ := wordsP_img h
  unfold decS
  rw [openB_img, imgB_body, h1]
  simp [h2, h]
end Go.Proofs.Ytbbholdadgjelaa
/- pack: wordsOf -/
namespace Go.Proofs.Ytbbholdadgjelaa
open Go.RowKit
set_option linter.unusedVariables false
set_option maxRecDepth 20000
theorem fol_any (l : Nat) (NL : List PM) (na : Option Addr) (nc : Nat) (hG : GoodPM NL) (hlen : NL.length ≤ 70000) (hes : ∀ x ∈ NL, x.es.length ≤ 70000) : ∀ f, LisAny l NL na nc f := by
  intro f
  induction f with
  | zero => exact fol_step l NL na nc 0 hG hlen hes (fun f' h => by omega)
  | succ f ih => exact fol_step l NL na nc (f + 1) hG hlen hes (fun f' h => by obtain rfl : f = f' := by omega
                                                                               exact ih)
theorem PR9.less {B B' : Nat} {NL : List PM} {na : Option Addr} {nc : Nat} {w : World} (h : PR9 B NL na nc w) (hB : B' ≤ B) : PR9 B' NL na nc w := ⟨base_less9 h.o hB, fun x hx => base_less9 (h.e x hx) hB, h.ne⟩
def WordsP (w : World) (x : Option (List Tx)) (e : Ending) (w' : World) : Prop := Below w.heap.size w w' ∧ match x with
  | some ts => ∃ wa wc, e = .returned (.tuple #[.slice wa ts.length wc, .bool true]) ∧ w'.ownsRow w.heap.size 9 1 (.slice wa ts.length wc) ts.length (strsV ts)
  | none => ∃ v, e = .returned (.tuple #[v, .bool false])
set_option maxHeartbeats 1600000 in
theorem words_any (NL : List PM) (na : Option Addr) (nc B : Nat) (w : World) (h : PR9 B NL na nc w) (hg : GoodNs (NL.map pmP)) (hl : NL.length ≤ 65535) :
    Calls Try.prog 38 #[.slice na NL.length nc] w (WordsP w (wordsP (NL.map pmP))) := by
  have hG : GoodPM NL := fun x hx => (hg (pmP x) (List.mem_map_of_mem hx)).1
  have hes : ∀ x ∈ NL, x.es.length ≤ 70000 := fun x hx => by
    have h2 : x.es.length ≤ 65535 := (hg (pmP x) (List.mem_map_of_mem hx)).2
    omega
  have hb1 := below_one w (.cells #[.slice na NL.length nc, .int .i64 721, .slice none 0 0] 107)
  have FL := Lib.hid (show FL9 w.heap.size NL na nc 721 [] none 0 (w.alloc (.cells #[.slice na NL.length nc, .int .i64 721, .slice none 0 0] 107)) from
    ⟨by rw [cell_alloc rfl]; rfl, by rw [cell_alloc rfl]; rfl, by rw [cell_alloc rfl]; rfl, fun i => frozen_alloc rfl, World.ownsRow_nil _ _ _ _,
      (h.less (Nat.zero_le B)).turn (T := fun _ => False) (Turn.of_below hb1) (fun _ _ x => x) (fun _ _ _ _ x => x),
      fun k e => (h.o.lt k (by rw [e]; rfl)).2, fun x hx k e => ((h.e x hx).lt k (by rw [e]; rfl)).2⟩)
  have CF := Lib.hid (fol_any w.heap.size NL na nc hG (by omega) hes 721 0 ⟨#[]⟩ 721 [] none 0 _ FL.out (by omega) (by omega) (by simp) (by decide) (by omega))
  have B1 := Lib.hid (show Below w.heap.size w (w.alloc (.cells #[.slice na NL.length nc, .int .i64 721, .slice none 0 0] 107)) from hb1)
  obtain ⟨r, hr⟩ : ∃ r, folF (NL.map pmP) 722 0 ⟨#[]⟩ 721 [] = r := ⟨_, rfl⟩
  rw [show folF (NL.map pmP) (721 + 1) 0 ⟨#[]⟩ 721 [] = r from hr] at CF
  have WP := Lib.hid (show wordsP (NL.map pmP) = if r.1 then some r.2.2 else none from by unfold wordsP; rw [hr])
  obtain ⟨N, hN⟩ : ∃ N, NL.length = N := ⟨_, rfl⟩
  rw [hN] at CF FL B1 ⊢
  clear h hg hl hG hes hb1 FL hr
  rw [show ((0 : Nat) : Int) = 0 from rfl] at CF
  go_enter Try.func38, Try.ntmps38
  go_wp2_with fail
  with_reducible refine CF.out.mono ?_
  rintro e w2 ⟨rfl, ⟨wa, wc, L2⟩, b2⟩
  have H2 := Lib.hid L2
  have B2 := Lib.hid (B1.out.trans b2)
  obtain ⟨ok, lf, ws⟩ := r
  have c2 := L2.c2
  clear L2 b2 CF
  cases ok with
  | true =>
    have WT := Lib.hid (show wordsP (NL.map pmP) = some ws from WP.out)
    go_wp2_with fail
    go_ret2
    refine ⟨B2.out, ?_⟩
    rw [WT.out]
    exact ⟨wa, wc, rfl, base_less9 H2.out.o (by omega)⟩
  | false =>
    have WT := Lib.hid (show wordsP (NL.map pmP) = none from WP.out)
    go_wp2_with fail
    go_ret2
    refine ⟨B2.out, ?_⟩
    rw [WT.out]
    exact ⟨_, rfl⟩
end Go.Proofs.Ytbbholdadgjelaa
/- pack: Decode -/
namespace Go.Proofs.Ytbbholdadgjelaa
open Go.RowKit
set_option linter.unusedVariables false
set_option maxRecDepth 20000
def DecP (w : World) (bs : List Nat) (e : Ending) (w' : World) : Prop := Below w.heap.size w w' ∧ match decS bs with
  | some ts => ∃ g S, e = .returned (.tuple #[.pointer (some ⟨g, 0, none⟩), .int .i64 0]) ∧ CtxG w w' g (grS ts) S
  | none => e = .returned (.tuple #[.pointer none, .int .i64 (if openB bs then 8 else 9)])
theorem decP_bad {w w' : World} {bs : List Nat} (hb : Below w.heap.size w w') (ho : openB bs = true) (hd : decS bs = none) : DecP w bs (.returned (.tuple #[.pointer none, .int .i64 8])) w' := by
  refine ⟨hb, ?_⟩
  rw [hd, ho]
  rfl
set_option maxHeartbeats 3200000 in
theorem decode_any (a : Option Addr) (n cap : Nat) (bs : List Nat) (w : World) (h : HoldsB w a n bs) (hc : n ≤ cap) (hn : n ≤ 1048576) :
    Calls Try.prog 15 #[.slice a n cap] w (DecP w bs) := by
  have hl := h.len
  have CS := Lib.hid (wSealed_any a n cap bs w h hn hc)
  have H := Lib.hid h
  cases ho : openB bs with
  | false =>
    rw [ho] at CS
    simp only [Bool.false_eq_true, if_false] at CS
    have FIN := Lib.hid (show DecP w bs (.returned (.tuple #[.pointer none, .int .i64 9])) w from by
      refine ⟨Below.refl _ _, ?_⟩
      have hd : decS bs = none := by unfold decS; rw [ho]; rfl
      rw [hd, ho]
      rfl)
    clear h hl ho
    go_enter Try.func15, Try.ntmps15
    go_wp2_with fail
    with_reducible refine CS.out.mono ?_
    rintro e w1 ⟨rfl, rfl⟩
    go_wp2_with fail
    go_ret2
    exact FIN.out
  | true =>
    rw [ho] at CS
    simp only [if_true] at CS
    have h4 : 4 ≤ n := by
      unfold openB at ho
      rw [Bool.and_eq_true] at ho
      have := of_decide_eq_true ho.1
      omega
    obtain ⟨k, hk⟩ : ∃ k, n - 4 = k := ⟨_, rfl⟩
    obtain ⟨body, hbo⟩ : ∃ b, bs.take (bs.length - 4) = b := ⟨_, rfl⟩
    have hB : HoldsB w a k body := by
      obtain ⟨q, o, rfl, -⟩ := h.at (by omega)
      rw [← hbo, hl, hk]
      exact h.front k (by omega)
    have CR := Lib.hid (read_any a k cap body w hB (by omega) (by omega))
    have hb256 : ∀ b ∈ body, b < 256 := hB.2
    have DS := Lib.hid (show decS bs = (match readP body with
      | some L => (match wordsP L with
        | some ts => if goodV ts = 0 ∧ imgB (grS ts) = bs then some ts else none
        | none => none)
      | none => none) from by
      unfold decS
      rw [ho, if_pos rfl, hbo]
      all_goals (cases readP body <;> first | rfl | (rename_i L; cases wordsP L <;> rfl)))
    have HO := Lib.hid ho
    rw [hk] at CS
    clear h hl ho hbo hk hB
    go_enter Try.func15, Try.ntmps15
    go_wp2_with fail
    with_reducible refine CS.out.mono ?_
    rintro e w1 ⟨rfl, rfl⟩
    go_wp2_with fail
    with_reducible refine CR.out.mono ?_
    rintro e w1 ⟨hb1, hr⟩
    have B1 := Lib.hid hb1
    clear hb1 CS CR
    cases hp : readP body with
    | none =>
      rw [hp] at hr
      obtain ⟨v, rfl⟩ := hr
      have FIN := Lib.hid (decP_bad B1.out HO.out (by rw [DS.out, hp]))
      clear hp
      go_wp2_with fail
      go_ret2
      exact FIN.out
    | some L =>
      rw [hp] at hr
      obtain ⟨na, nc, NL, hNL, rfl, q1⟩ := hr
      have DS2 := Lib.hid (show decS bs = (match wordsP L with
        | some ts => if goodV ts = 0 ∧ imgB (grS ts) = bs then some ts else none
        | none => none) from by rw [DS.out, hp])
      obtain ⟨g1, g2⟩ := readP_good hb256 hp
      subst hNL
      have CW := Lib.hid (words_any NL na nc _ w1 q1 g1 (by simpa using g2))
      clear hp hb256 q1 g1 g2 DS
      go_wp2_with fail
      with_reducible refine CW.out.mono ?_
      rintro e w2 ⟨hb2, hr⟩
      have B2 := Lib.hid (B1.out.trans (hb2.mono B1.out.size))
      clear hb2 CW
      cases hp : wordsP (NL.map pmP) with
      | none =>
        rw [hp] at hr
        obtain ⟨v, rfl⟩ := hr
        have FIN := Lib.hid (decP_bad B2.out HO.out (by rw [DS2.out, hp]))
        clear hp
        go_wp2_with fail
        go_ret2
        exact FIN.out
      | some ts =>
        rw [hp] at hr
        obtain ⟨wa, wc, rfl, o2⟩ := hr
        obtain ⟨s1, s2⟩ := wordsP_small hp
        have DS3 := Lib.hid (show decS bs = (if goodV ts = 0 ∧ imgB (grS ts) = bs then some ts else none) from by rw [DS2.out, hp])
        have HT : HoldsT w2 wa ts.length ts := HoldsT.own o2
        have hcap : ts.length ≤ wc := (owns_none o2).2
        by_cases hv : goodV ts = 0
        · have hs : ∀ t ∈ ts, t.size ≤ 100 := fun t ht => by have := good_sizes hv t ht; omega
          have CB := Lib.hid (build_c (w0 := w) wa ts.length wc ts (grS ts) w2 B2.out HT hcap (by omega) hs hv rfl)
          have CE := Lib.hid (fun g S (w' : World) (h : GAt g (grS ts) w' S) => encode_of g ts S w' h hv hs)
          have HV := Lib.hid hv
          clear hp hv hs HT o2 DS2 s1 s2
          go_wp2_with fail
          with_reducible refine CB.out.mono ?_
          rintro e w3 ⟨g, S, rfl, hC, hb3⟩
          have C3 := Lib.hid (CE.out g S w3 hC.G)
          have X3 := Lib.hid hC
          have HB3 := Lib.hid (H.out.below hC.b)
          clear hC hb3 CE CB
          go_wp2_with fail
          with_reducible refine C3.out.mono ?_
          rintro e w4 ⟨a4, c4, rfl, o4, b4, -⟩
          have X4 := Lib.hid (X3.out.more b4)
          have CQ := Lib.hid (bEqual_any a4 a (imgB (grS ts)).length c4 n cap (imgB (grS ts)) bs w4 (holdsB_of_values (owns_holds o4) (sealB_lt _ (bodyB_lt _))) (HB3.out.below b4))
          clear o4 b4 C3 HB3
          by_cases he : imgB (grS ts) = bs
          · rw [decide_eq_true he] at CQ
            have FIN := Lib.hid (show DecP w bs (.returned (.tuple #[.pointer (some ⟨g, 0, none⟩), .int .i64 0])) w4 from by
              refine ⟨X4.out.b, ?_⟩
              rw [DS3.out, if_pos ⟨HV.out, he⟩]
              exact ⟨g, S, rfl, X4.out⟩)
            clear he
            go_wp2_with fail
            with_reducible refine CQ.out.mono ?_
            rintro e w5 ⟨rfl, rfl⟩
            go_wp2_with fail
            go_ret2
            exact FIN.out
          · rw [decide_eq_false he] at CQ
            have FIN := Lib.hid (decP_bad X4.out.b HO.out (by rw [DS3.out, if_neg (fun h => he h.2)]))
            clear he
            go_wp2_with fail
            with_reducible refine CQ.out.mono ?_
            rintro e w5 ⟨rfl, rfl⟩
            go_wp2_with fail
            go_ret2
            exact FIN.out
        · have CB := Lib.hid (build_bad wa ts.length wc ts (goodV ts) w2 HT (by omega) (fun t ht => by have := s2 t ht; omega) rfl hv)
          have ne : (goodV ts != 0) = true := by simpa using hv
          have FIN := Lib.hid (fun w' (hb : Below w.heap.size w w') => decP_bad hb HO.out (by rw [DS3.out, if_neg (fun h => hv h.1)]))
          obtain ⟨gv, hgv⟩ : ∃ v, goodV ts = v := ⟨_, rfl⟩
          rw [hgv] at CB ne
          clear hp hv HT o2 DS2 s1 s2 hgv
          go_wp2_with fail
          with_reducible refine CB.out.mono ?_
          rintro e w3 ⟨rfl, hb3⟩
          have F3 := Lib.hid (FIN.out w3 (B2.out.trans (hb3.mono B2.out.size)))
          clear hb3 CB FIN
          go_wp2_with fail
          go_ret2
          exact F3.out
end Go.Proofs.Ytbbholdadgjelaa
/- contracts of the reference's code: bytes laid -/
namespace Go.Proofs.Ytbbholdadgjelaa
open Go.RowKit
set_option linter.unusedVariables false
set_option maxRecDepth 20000
end Go.Proofs.Ytbbholdadgjelaa
/- contracts of code and of its reference: a text laid behind bytes -/
namespace Go.Proofs.Ytbbholdadgjelaa
open Go.RowKit
set_option linter.unusedVariables false
set_option maxRecDepth 20000
/-- what of a text is laid -/
def cutS (s : ByteArray) : ByteArray := s.extract 0 (min s.size 65535)
theorem cutS_size (s : ByteArray) : (cutS s).size = min s.size 65535 := by simp [cutS, ByteArray.size_extract]
theorem cutS_small (s : ByteArray) (h : s.size ≤ 65535) : cutS s = s := by
  unfold cutS; rw [Nat.min_eq_left h, ByteArray.extract_zero_size]
theorem cutS_great (s : ByteArray) (h : 65535 < s.size) : cutS s = s.extract 0 65535 := by
  unfold cutS; rw [Nat.min_eq_right (by omega)]
def putTextV (bs : List Nat) (s : ByteArray) : List Nat := bs ++ Cod.bytesOf (cutS s).size 2 ++ strB (cutS s)
theorem bitsV_nat (n : Nat) (h : n < 18446744073709551616) : bitsV (n : Int) = n := by
  unfold bitsV; simp only [IntKind.wrap, IntKind.signed, IntKind.bits]; simp; omega
end Go.Proofs.Ytbbholdadgjelaa
/- contract of the reference's code: a text laid behind bytes -/
namespace Go.Proofs.Ytbbholdadgjelaa
open Go.RowKit
set_option linter.unusedVariables false
set_option maxRecDepth 20000
end Go.Proofs.Ytbbholdadgjelaa
/- what every program answers that is one: code -/
namespace Go.Proofs.Ytbbholdadgjelaa
open Go.RowKit
set_option linter.unusedVariables false
set_option maxRecDepth 20000
theorem num_yesI (a : Option Addr) (n cap : Nat) (bs : List Nat) (k s : Nat) (kI sI : Int) (w : World) (h : HoldsB w a n bs) (hn : n ≤ 9223372036854775807) (h1 : 1 ≤ s) (h8 : s ≤ 8) (hk : k + s ≤ n) (ek : kI = k) (es : sI = s) :
    Calls Try.prog 51 #[.slice a n cap, .int .i64 kI, .int .i64 sI] w fun e w' => e = .returned (.tuple #[.int .i64 (wrap64 (numN bs k s : Nat)), .bool true]) ∧ w = w' := by
  subst ek es; exact num_yes a n cap bs k s w h hn h1 h8 hk
theorem cast_inj (xs ys : List Nat) : (xs.map (fun b : Nat => (b : Int)) = ys.map fun b : Nat => (b : Int)) ↔ xs = ys := by
  constructor
  · intro h
    have := congrArg (List.map Int.toNat) h
    simpa [List.map_map, Function.comp_def] using this
  · rintro rfl; rfl
theorem sameB_any (a1 a2 : Option Addr) (n1 c1 n2 c2 : Nat) (x1 x2 : List Nat) (w : World) (h1 : HoldsB w a1 n1 x1) (h2 : HoldsB w a2 n2 x2) (hl1 : n1 ≤ 4611686018427387904) (hl2 : n2 ≤ 4611686018427387904) :
    Calls Try.prog 23 #[.slice a1 n1 c1, .slice a2 n2 c2] w fun e w' => e = .returned (.bool (decide (x1 = x2))) ∧ ∃ m, w' = w.drewN m :=
  (sameBytes_any a1 a2 n1 c1 n2 c2 _ _ w h1.1 h2.1 hl1 hl2).mono fun e w' ⟨he, hw⟩ => ⟨by rw [he]; congr 2; exact decide_eq_decide.2 (cast_inj x1 x2), hw⟩
theorem HoldsB.drewN {w : World} {a : Option Addr} {n : Nat} {bs : List Nat} (h : HoldsB w a n bs) (m : Nat) : HoldsB (w.drewN m) a n bs := h.below (below_drewN w m)
theorem HoldsB.alloc {w : World} {a : Option Addr} {n : Nat} {bs : List Nat} (h : HoldsB w a n bs) (o : Obj) : HoldsB (w.alloc o) a n bs := h.below (below_one w o)
theorem own_holdsB {w : World} {base : Nat} {e : TypeId} {a : Option Addr} {n c : Nat} {bs : List Nat} (h : w.ownsRow base e 1 (.slice a n c) n (bytesV bs)) (hb : ∀ b ∈ bs, b < 256) : HoldsB w a n bs := holdsB_of_values (owns_holds h) hb
end Go.Proofs.Ytbbholdadgjelaa
/- graph: From's closure -/
namespace Go.Proofs.Ytbbholdadgjelaa
open Go.RowKit
set_option linter.unusedVariables false
set_option maxRecDepth 20000
/-- a word is handed over: what is held then, and whether more may come -/
def takeO (lo : Tx) (out : List Tx) (x : Tx) : List Tx := if cmpS x lo < 0 then out else out ++ [x]
def takeL (lo : Tx) (most : Int) : List Tx → List Tx → List Tx × Bool
  | out, [] => (out, true)
  | out, x :: l => if ((takeO lo out x).length : Int) < most then takeL lo most (takeO lo out x) l else (takeO lo out x, false)
theorem takeO_len (lo : Tx) (out : List Tx) (x : Tx) : (takeO lo out x).length ≤ out.length + 1 := by
  unfold takeO; split <;> simp
theorem takeL_len (lo : Tx) (most : Int) : ∀ (l out : List Tx), (takeL lo most out l).1.length ≤ out.length + l.length
  | [], out => by simp [takeL]
  | x :: l, out => by
    have h1 := takeO_len lo out x
    have h2 := takeL_len lo most l (takeO lo out x)
    unfold takeL
    split
    · simp only [List.length_cons]; omega
    · simp only [List.length_cons]; omega
theorem takeL_app (lo : Tx) (most : Int) : ∀ (a b out : List Tx), takeL lo most out (a ++ b) = if (takeL lo most out a).2 then takeL lo most (takeL lo most out a).1 b else ((takeL lo most out a).1, false)
  | [], b, out => by simp [takeL]
  | x :: a, b, out => by
    have ih := takeL_app lo most a b (takeO lo out x)
    simp only [List.cons_append, takeL]
    split
    · exact ih
    · simp
/-- what the closure holds: the text, the list, how many -/
structure QT (B : Nat) (lo : Tx) (most : Int) (p1 p2 p3 : Nat) (out : List Tx) (oa : Option Addr) (oc : Nat) (w : World) (S : Nat → Prop) : Prop where
  c1 : w.cell? ⟨p1, 0, none⟩ = some (.string lo)
  c2 : w.cell? ⟨p2, 0, none⟩ = some (.slice oa out.length oc)
  c3 : w.cell? ⟨p3, 0, none⟩ = some (.int .i64 most)
  f : ∀ i, w.frozen? ⟨p2, i, none⟩ = false
  o : w.ownsRow B 9 1 (.slice oa out.length oc) out.length (strsV out)
  s1 : S p1
  s2 : S p2
  s3 : S p3
  n1 : p1 ≠ p2
  n2 : p3 ≠ p2
  no : ∀ q, oa = some ⟨q, 0, none⟩ → S q ∧ q ≠ p1 ∧ q ≠ p2 ∧ q ≠ p3
  lt : ∀ k, S k → k < w.heap.size
  b : B ≤ w.heap.size
def QTs (B : Nat) (lo : Tx) (most : Int) (p1 p2 p3 : Nat) (out : List Tx) (w : World) (S : Nat → Prop) : Prop := ∃ oa oc, QT B lo most p1 p2 p3 out oa oc w S
theorem QT.blocks {B : Nat} {lo : Tx} {most : Int} {p1 p2 p3 : Nat} {out : List Tx} {oa : Option Addr} {oc : Nat} {w w' : World} {S : Nat → Prop} (h : QT B lo most p1 p2 p3 out oa oc w S) (hs : w.heap.size ≤ w'.heap.size) (hb : ∀ k, S k → w'.heap[k]? = w.heap[k]?) : QT B lo most p1 p2 p3 out oa oc w' S :=
  ⟨(World.cell?_of_block (w := w) (hb p1 h.s1)).trans h.c1, (World.cell?_of_block (w := w) (hb p2 h.s2)).trans h.c2, (World.cell?_of_block (w := w) (hb p3 h.s3)).trans h.c3, fun i => (World.frozen?_of_block (w := w) (hb p2 h.s2)).trans (h.f i), gowns_block h.o (fun q hq => hb q (h.no q hq).1), h.s1, h.s2, h.s3, h.n1, h.n2, h.no, fun k hk => Nat.lt_of_lt_of_le (h.lt k hk) hs, Nat.le_trans h.b hs⟩
theorem qts_ok (B : Nat) (lo : Tx) (most : Int) (p1 p2 p3 : Nat) (out : List Tx) : ObjOk (QTs B lo most p1 p2 p3 out) :=
  ⟨fun h t hF => by obtain ⟨oa, oc, x⟩ := h; exact ⟨oa, oc, x.blocks t.size (fun k hk => t.block k (x.lt k hk) (hF k hk))⟩, fun h => by obtain ⟨oa, oc, x⟩ := h; exact x.lt⟩
theorem strsV_snocG (l : List Tx) (x : Tx) : strsV (l ++ [x]) = strsV l ++ [.string x] := by simp [strsV]
/-- behind a word more -/
theorem QT.grow {B : Nat} {lo x : Tx} {most : Int} {p1 p2 p3 : Nat} {out : List Tx} {oa : Option Addr} {oc : Nat} {w w6 : World} {S : Nat → Prop} {q cap : Nat} {o : Obj} (h : QT B lo most p1 p2 p3 out oa oc w S)
    (own : w6.ownsRow B 9 1 (.slice (some ⟨q, 0, none⟩) (out.length + 1) cap) (out.length + 1) (strsV out ++ [.string x]))
    (hg : (w.alloc o).grownBy w6 (Value.slice oa out.length oc).ownBlock) (hat : (Value.slice oa out.length oc).ownBlock = some q ∨ q = (w.alloc o).heap.size) (hlt : q < w6.heap.size) :
    PO (QTs B lo most p1 p2 p3 (out ++ [x])) w S (w6.setCell ⟨p2, 0, none⟩ (.slice (some ⟨q, 0, none⟩) (out.length + 1) cap)) := by
  have hza : (w.alloc o).heap.size = w.heap.size + 1 := by simp
  have hz6 := hg.size
  have old : ∀ k, k < w.heap.size → (∀ r, oa = some ⟨r, 0, none⟩ → k ≠ r) → w6.heap[k]? = w.heap[k]? := fun k hk hn =>
    (hg.block k (by omega) (fun e => hn k (gown_at h.o e) rfl)).trans (Below.heap_alloc _ _ _ (by omega))
  have ob1 := old p1 (h.lt _ h.s1) (fun r e hq => (h.no r e).2.1 hq.symm)
  have ob2 := old p2 (h.lt _ h.s2) (fun r e hq => (h.no r e).2.2.1 hq.symm)
  have ob3 := old p3 (h.lt _ h.s3) (fun r e hq => (h.no r e).2.2.2 hq.symm)
  have gq : q ≠ p1 ∧ q ≠ p2 ∧ q ≠ p3 := by
    rcases hat with e | e
    · exact (h.no q (gown_at h.o e.symm)).2
    · have := h.lt _ h.s1; have := h.lt _ h.s2; have := h.lt _ h.s3; omega
  have sz : (w6.setCell ⟨p2, 0, none⟩ (.slice (some ⟨q, 0, none⟩) (out.length + 1) cap)).heap.size = w6.heap.size := by simp [World.setCell]
  have hlen : (out ++ [x]).length = out.length + 1 := by simp
  have n1 := h.n1; have n2 := h.n2
  refine ⟨fun k => S k ∨ k = q, ⟨some ⟨q, 0, none⟩, cap, ⟨?_, ?_, ?_, fun i => ?_, ?_, Or.inl h.s1, Or.inl h.s2, Or.inl h.s3, h.n1, h.n2, fun r hr => ?_, fun k hk => ?_, ?_⟩⟩, fun k hk => ?_, ?_⟩
  · rw [cset_far (Ne.symm n1)]; exact (World.cell?_of_block (w := w) ob1).trans h.c1
  · rw [hlen]; exact cset_at ((World.cell?_of_block (w := w) ob2).trans h.c2)
  · rw [cset_far (Ne.symm n2)]; exact (World.cell?_of_block (w := w) ob3).trans h.c3
  · rw [fset_any]; exact (World.frozen?_of_block (w := w) ob2).trans (h.f i)
  · rw [hlen, strsV_snocG]
    exact gowns_block own (fun r hr => by injection hr with hr; injection hr with hr; subst hr; exact gheap_far gq.2.1)
  · injection hr with hr; injection hr with hr; subst hr
    exact ⟨Or.inr rfl, gq⟩
  · rw [sz]
    rcases hk with hk | hk
    · have := h.lt k hk; omega
    · rw [hk]; exact hlt
  · rw [sz]; have := h.b; omega
  · rcases hk with hk | hk
    · exact Or.inl hk
    · rcases hat with e | e
      · exact Or.inl (by rw [hk]; exact (h.no q (gown_at h.o e.symm)).1)
      · exact Or.inr (by omega)
  · refine Turn.trans ?_ (Turn.setCell h.s2)
    exact ⟨hg.os, hg.tape, hg.output, by omega, fun k hk hn => old k hk (fun r e h2 => hn (by rw [h2]; exact (h.no r e).1))⟩
theorem QT.mid {B : Nat} {lo : Tx} {most : Int} {p1 p2 p3 : Nat} {out : List Tx} {oa : Option Addr} {oc : Nat} {w w6 : World} {S : Nat → Prop} {o : Obj} (h : QT B lo most p1 p2 p3 out oa oc w S) (hg : (w.alloc o).grownBy w6 (Value.slice oa out.length oc).ownBlock) :
    w6.cell? ⟨p2, 0, none⟩ = some (.slice oa out.length oc) ∧ w6.frozen? ⟨p2, 0, none⟩ = false ∧ ∀ v, (w6.setCell ⟨p2, 0, none⟩ v).cell? ⟨p3, 0, none⟩ = some (.int .i64 most) := by
  have hza : (w.alloc o).heap.size = w.heap.size + 1 := by simp
  have old : ∀ k, k < w.heap.size → (∀ r, oa = some ⟨r, 0, none⟩ → k ≠ r) → w6.heap[k]? = w.heap[k]? := fun k hk hn =>
    (hg.block k (by omega) (fun e => hn k (gown_at h.o e) rfl)).trans (Below.heap_alloc _ _ _ (by omega))
  have ob2 := old p2 (h.lt _ h.s2) (fun r e hq => (h.no r e).2.2.1 hq.symm)
  have ob3 := old p3 (h.lt _ h.s3) (fun r e hq => (h.no r e).2.2.2 hq.symm)
  exact ⟨(World.cell?_of_block (w := w) ob2).trans h.c2, (World.frozen?_of_block (w := w) ob2).trans (h.f 0), fun v => (cset_far (Ne.symm h.n2)).trans ((World.cell?_of_block (w := w) ob3).trans h.c3)⟩
set_option maxHeartbeats 1600000 in
theorem take_any (B : Nat) (lo : Tx) (most : Int) (p1 p2 p3 : Nat) (out : List Tx) (x : Tx) (S : Nat → Prop) (w : World) (h : QTs B lo most p1 p2 p3 out w S) (hl : out.length ≤ 10000) :
    Calls Try.prog 70 #[.string x, .pointer (some ⟨p1, 0, none⟩), .pointer (some ⟨p2, 0, none⟩), .pointer (some ⟨p3, 0, none⟩)] w fun e w' => e = .returned (.bool (decide (((takeO lo out x).length : Int) < most))) ∧ PO (QTs B lo most p1 p2 p3 (takeO lo out x)) w S w' := by
  obtain ⟨oa, oc, hq⟩ := h
  obtain ⟨i0, hi, hz0, hz1, hz2⟩ := info_parts strG_info
  have c1 := hq.c1; have c2 := hq.c2; have c3 := hq.c3; have f0 := hq.f 0
  have Q := Lib.hid hq
  clear hq
  by_cases hc : cmpS x lo < 0
  · have e : takeO lo out x = out := if_pos hc
    rw [e]
    clear e
    have d1 : decide (cmpS x lo ≥ 0) = false := decide_eq_false (by omega)
    go_enter Try.func70, Try.ntmps70
    go_wp2_with (go_at_call 45; refine (compare_any _ _ _).mono ?_; rintro e w' ⟨rfl, rfl⟩)
    go_ret
    exact ⟨rfl, S, ⟨oa, oc, Q.out⟩, fun k hk => Or.inl hk, Turn.refl _ _⟩
  · have e : takeO lo out x = out ++ [x] := if_neg hc
    rw [e, show ((out ++ [x]).length : Int) = (out.length : Int) + 1 by simp]
    clear e
    have d1 : decide (cmpS x lo ≥ 0) = true := decide_eq_true (by omega)
    go_enter Try.func70, Try.ntmps70
    have hba := Q.out.b
    have OW := Lib.hid (Q.out.o)
    go_wp2_with (first | (go_at_call 45; refine (compare_any _ _ _).mono ?_; rintro e w' ⟨rfl, rfl⟩) | (at_builtin; refine wpList_append_lies _ rfl (.tmp 10) (.tmp 12) 22 rfl B 9 i0 _ 1 16 Try.underlying22 hi hz0 hz1 hz2 rfl (by omega) (.slice oa out.length oc) out.length (strsV out) (by rfl) (OW.out.alloc _) ⟨w.heap.size, 0, none⟩ 1 1 [.string x] (by rfl) (by rfl) (World.news_of_block (cs := #[.string x]) (t := 9) (fr := (0, 0)) (heap_alloc_new w _)) (by simp [Value.oneCell']) (by omega) (by unfold maxLen; omega) (by omega) (by simp; omega) (w.heap.size + 1) (by simp) ?_; intro g3 c3' w3 hown3 hgrow3 hat3 hlt3; have GR := Lib.hid (Q.out.grow hown3 hgrow3 (hat3.imp id (fun e => by simp; exact e)) hlt3); obtain ⟨m1, m2, m3⟩ := Q.out.mid hgrow3; clear hown3 hgrow3 hat3 hlt3))
    go_ret
    exact ⟨rfl, GR.out⟩
end Go.Proofs.Ytbbholdadgjelaa
/- graph: each -/
namespace Go.Proofs.Ytbbholdadgjelaa
open Go.RowKit
set_option linter.unusedVariables false
set_option maxRecDepth 20000
theorem GAt.edges {g : Nat} {st : List GN} {w : World} {Sg S : Nat → Prop} (h : GAt g st w Sg) (hA : ∀ k, Sg k → ¬ S k) {n : Nat} (hn : n < st.length) : ∃ q nc ea ec, w.cell? ⟨g, 0, none⟩ = some (.slice (some ⟨q, 0, none⟩) st.length nc) ∧ w.cell? ⟨q, n * 2, none⟩ = some (.bool (st.getD n gn0).final) ∧ (∀ w', Turn S w w' → w'.cell? ⟨g, 0, none⟩ = some (.slice (some ⟨q, 0, none⟩) st.length nc) ∧ w'.cell? ⟨q, n * 2 + 1, none⟩ = some (.slice ea (st.getD n gn0).edges.length ec) ∧ HoldsEd w' ea (st.getD n gn0).edges.length (st.getD n gn0).edges) := by
  obtain ⟨na, nc, NL, G, e⟩ := h
  obtain ⟨e1, e2⟩ := map_eqG _ _ e
  have c := G.c
  obtain ⟨q, rfl, c0, c1⟩ := G.at (i := n) (by omega)
  obtain ⟨e3, e4⟩ := e2 n hn
  rw [e1] at c
  rw [e3] at c0
  have ei := G.e _ (mem_nm (show n < NL.length by omega))
  unfold EdIn at ei
  rw [e4] at c1 ei
  exact ⟨q, nc, _, _, c, c0, fun w' t => ⟨(t.cell (lt_of_cell c) (hA _ G.sg)).trans c, (t.cell (lt_of_cell c1) (hA _ (G.sn q rfl).1)).trans c1, holdsEd_blocks ei.1 (fun fb fo e => t.block fb (G.lt fb (ei.2.2.2 fb fo e).1) (hA _ (ei.2.2.2 fb fo e).1))⟩⟩
theorem fol_map {l : List Tx} (h : Run l) (h0 : l ≠ []) (s : Tx) : (folS l).2.map (fun x => (s ++ Utf8.encode ((folS l).1 : Int)) ++ x) = (l.take (folS l).2.length).map (fun x => s ++ x) := by
  obtain ⟨k, hk, h1, h2⟩ := fol_split h0
  rw [← hk, h2, List.map_map]
  refine List.map_congr_left fun u hu => ?_
  have hm : u ∈ l := List.mem_of_mem_take hu
  have hl : labS u = (folS l).1 := by
    rw [h1] at hu
    have h3 := mem_tw (p := fun t => decide (labS t = labS (l.getD 0 ByteArray.empty))) hu
    rw [show labS u = labS (l.getD 0 ByteArray.empty) from of_decide_eq_true h3]
    cases l with
    | nil => exact absurd rfl h0
    | cons a l => rfl
  show (s ++ Utf8.encode ((folS l).1 : Int)) ++ rstS u = s ++ u
  rw [← hl, ByteArray.append_assoc, enc_rst (h.lo u hm) (h.pos u hm)]
theorem drop_ed (l : List EdP) (j : Nat) (h : j < l.length) : l.drop j = l.getD j ed0 :: l.drop (j + 1) := by
  rw [List.drop_eq_getElem_cons h, List.getD_eq_getElem?_getD, List.getElem?_eq_getElem h]; rfl
def Apart (S T : Nat → Prop) : Prop := ∀ k, S k → ¬ T k
def EachAny (B : Nat) (lo : Tx) (most : Int) (g p1 p2 p3 : Nat) (st : List GN) (ts : List Tx) (f : Nat) : Prop := ∀ (k : Nat) (l : List Tx) (s : Tx) (out : List Tx) (Sg S : Nat → Prop) (w : World), (restsG st)[k]? = some l → OkL f l → GAt g st w Sg → QTs B lo most p1 p2 p3 out w S → Apart Sg S → out.length + l.length ≤ 1000 → s.size + 4 * f ≤ 1000 →
    Calls Try.prog 69 #[.pointer (some ⟨g, 0, none⟩), .int .i64 k, .string s, .func (Fn.func 70) #[] #[.pointer (some ⟨p1, 0, none⟩), .pointer (some ⟨p2, 0, none⟩), .pointer (some ⟨p3, 0, none⟩)]] w fun e w' => e = .returned (.bool (takeL lo most out (l.map (s ++ ·))).2) ∧ PO (QTs B lo most p1 p2 p3 (takeL lo most out (l.map (s ++ ·))).1) w S w'
set_option maxHeartbeats 3200000 in
theorem each_step (B : Nat) (lo : Tx) (most : Int) (g p1 p2 p3 : Nat) (st : List GN) (ts : List Tx) (G : GOk st ts) (f : Nat) (IH : ∀ f', f = f' + 1 → EachAny B lo most g p1 p2 p3 st ts f') : EachAny B lo most g p1 p2 p3 st ts f := by
  intro k l s out Sg S w hR hO hG hQ hA hn hsz
  obtain ⟨hk, hr, hN⟩ := G.node hR
  obtain ⟨q, nc, ea, ec, c0, c1, hT⟩ := hG.edges hA hk
  have i1 : (0 : Int) ≤ (k : Int) := by omega
  have i2 : (k : Int) < (st.length : Int) := by omega
  have hfin := hN.fin
  rw [hr] at hfin
  have hed := hN.ed
  rw [hr] at hed
  obtain ⟨es, hes⟩ : ∃ b, (st.getD k gn0).edges = b := ⟨_, rfl⟩
  rw [hes] at hed hT
  obtain ⟨m, hm⟩ : ∃ m, es.length = m := ⟨_, rfl⟩
  rw [hm] at hT
  obtain ⟨TV, hTV⟩ : ∃ v, takeL lo most out (l.map (s ++ ·)) = v := ⟨_, rfl⟩
  rw [hTV]
  have hm1 : m ≤ 1000 := by have := G.few _ (show st.getD k gn0 ∈ st by rw [List.getD_eq_getElem?_getD, List.getElem?_eq_getElem hk]; simp); rw [hes, hm] at this; omega
  have HT := Lib.hid hT; have HM := Lib.hid hm; have HED := Lib.hid hed; have HTV := Lib.hid hTV; have GH := Lib.hid hG; have AH := Lib.hid hA; have OB := Lib.hid hO.bod; have BP := Lib.hid (bod_pos hO.ord); have QH := Lib.hid hQ; have IHH := Lib.hid IH
  have HN := Lib.hid (show out.length + (bodS l).length ≤ 1000 from by have := bod_len l; omega)
  clear hT hes hm hed hTV hG hA hO hQ IH hN hr hR
  cases hb : finS l with
  | false =>
    rw [hb] at hfin
    rw [hfin] at c1
    have c2 := (HT.out w (Turn.refl _ _)).2.1
    have HTV2 := Lib.hid (show takeL lo most out ((bodS l).map (s ++ ·)) = TV from by rw [← HTV.out]; unfold bodS; rw [hb]; rfl)
    clear hfin hb HTV
    go_enter Try.func69, Try.ntmps69
    go_wp2_with fail
    clear c0 c1 c2
    go_loopw [34] (fun iv wr => ∃ (j : Nat) (l' out' : List Tx) (S' : Nat → Prop), j ≤ m ∧ iv = .int .i64 j ∧ Hid (EdOk (restsG st) l' (es.drop j)) ∧ Hid (OkL f l') ∧ Hid (∀ t ∈ l', 0 < t.size) ∧ Hid (takeL lo most out' (l'.map (s ++ ·)) = TV) ∧ Hid (out'.length + l'.length ≤ 1000) ∧ Hid (QTs B lo most p1 p2 p3 out' wr S') ∧ Hid (∀ k, S' k → S k ∨ w.heap.size ≤ k) ∧ Hid (Turn S w wr)) (fun iv _ => m - (intOf iv).toNat)
    case atStart => exact ⟨0, bodS l, out, S, by omega, rfl, HED, OB, BP, HTV2, HN, QH, Lib.hid (fun k hk => Or.inl hk), Lib.hid (Turn.refl _ _)⟩
    case round =>
      obtain ⟨j, l', out', S', hj, rfl, hE, hO', hP, hV, hL, hQ', hS, hT⟩ := hrel
      by_cases hlt : j < m
      · obtain ⟨d0, d1, d2⟩ := HT.out wr hT.out
        obtain ⟨b, o, rfl, hc⟩ := d2.at (by omega)
        have x0 := hc j hlt
        have hE1 := hE.out
        rw [drop_ed es j (by have := HM.out; omega)] at hE1
        obtain ⟨hne, hr1, ⟨k', hd1, hR1⟩, hE2⟩ := hE1
        obtain ⟨x1, x2⟩ := x0
        rw [hr1] at x1
        rw [hd1] at x2
        obtain ⟨hf1, hf2⟩ := fol_len l' hne
        have hRun : Run l' := ⟨hO'.out.ord, hP.out, hO'.out.lo⟩
        have hmap := fol_map hRun hne s
        obtain ⟨kk, hkk⟩ : ∃ kk, (folS l').2.length = kk := ⟨_, rfl⟩
        rw [hkk] at hE2 hf1 hf2 hmap
        obtain ⟨f', rfl⟩ : ∃ f', f = f' + 1 := by
          cases l' with
          | nil => exact absurd rfl hne
          | cons t l2 =>
            have h1 := rst_len (hO'.out.lo t (by simp)) (hP.out t (by simp))
            have h2 := hO'.out.hi t (by simp)
            exact ⟨f - 1, by omega⟩
        have hof := hO'.out.fol hP.out
        obtain ⟨lb, hlb⟩ : ∃ v, (folS l').1 = v := ⟨_, rfl⟩
        obtain ⟨fl, hfl⟩ : ∃ v, (folS l').2 = v := ⟨_, rfl⟩
        rw [hlb] at x1 hmap
        rw [hfl] at hmap hR1 hof hkk
        have hz4 := encode_size_le (lb : Int)
        have hsz2 : (s ++ Utf8.encode (lb : Int)).size + 4 * f' ≤ 1000 := by rw [ByteArray.size_append]; omega
        have hszm : s.size + (Utf8.encode (lb : Int)).size ≤ 1000 := by omega
        have BE := Lib.hid (below_one wr (.cells #[.int .i32 (lb : Int), .int .i64 (k' : Int)] 120))
        have CE := Lib.hid (IHH.out f' rfl k' fl (s ++ Utf8.encode (lb : Int)) out' Sg S' (wr.alloc (.cells #[.int .i32 (lb : Int), .int .i64 (k' : Int)] 120)) hR1 hof ((gAt_ok g st).below ((gAt_ok g st).turn GH.out hT.out AH.out) BE.out) ((qts_ok B lo most p1 p2 p3 out').below hQ'.out BE.out) (fun q hq hq2 => by
          rcases hS.out q hq2 with h1 | h1
          · exact AH.out q hq h1
          · have := (gAt_ok g st).lt GH.out q hq; omega) (by have := hL.out; omega) hsz2)
        rw [hmap] at CE
        have hV2 := hV.out
        rw [← List.take_append_drop kk l', List.map_append, takeL_app] at hV2
        have hLL := takeL_len lo most ((l'.take kk).map (s ++ ·)) out'
        rw [List.length_map, List.length_take] at hLL
        obtain ⟨RV, hRV⟩ : ∃ v, takeL lo most out' ((l'.take kk).map (s ++ ·)) = v := ⟨_, rfl⟩
        rw [hRV] at hV2 CE hLL
        obtain ⟨ro, rb⟩ := RV
        simp only at hV2 CE hLL
        have V2 := Lib.hid hV2
        have E2 := Lib.hid hE2
        have LL := Lib.hid hLL
        have hTB := Lib.hid (hT.out.trans (Turn.of_below BE.out))
        have hk1 := Lib.hid hf1
        have hk2 := Lib.hid hf2
        have n1 : (0 : Int) ≤ (j : Int) := by omega
        have n2 : (j : Int) < (m : Int) := by omega
        clear hc d0 d1 d2 hr1 hd1 hR1 hE2 hne hRun hmap hkk hof hlb hfl hz4 hsz2 hV2 hLL hRV hf1 hf2
        go_wp2_with fail
        refine CE.out.mono ?_
        rintro e w4 ⟨rfl, S4, q4, s4, t4⟩
        have Q4 := Lib.hid q4
        have S4H := Lib.hid (show ∀ q, S4 q → S q ∨ w.heap.size ≤ q from fun q hq => by
          rcases s4 q hq with h1 | h1
          · exact hS.out q h1
          · have := hT.out.size; have := BE.out.size; exact Or.inr (by omega))
        have T4 := Lib.hid (hTB.out.trans' t4 (fun q hq => hS.out q hq))
        clear q4 s4 t4 CE
        cases rb with
        | true =>
          have V3 := V2.out
          rw [if_pos rfl] at V3
          have V4 := Lib.hid V3
          clear V3 V2
          go_wp2_with fail
          go_roundw
          case rel => exact ⟨j + 1, l'.drop kk, ro, S4, by omega, by go_num, E2, Lib.hid (hO'.out.drop _), Lib.hid (fun t ht => hP.out t (List.mem_of_mem_drop ht)), V4, Lib.hid (by have := LL.out; have := hL.out; have := hk2.out; rw [List.length_drop]; omega), Q4, S4H, T4⟩
          case measure => simp [intOf] <;> omega
        | false =>
          have V3 := V2.out
          rw [if_neg (by simp)] at V3
          subst V3
          go_wp2_with fail
          go_ret
          exact ⟨rfl, S4, Q4.out, S4H.out, T4.out⟩
      · obtain rfl : j = m := by omega
        have hE2 := hE.out
        rw [List.drop_of_length_le (by have := HM.out; omega)] at hE2
        obtain rfl : l' = [] := hE2
        obtain rfl : (out', true) = TV := hV.out
        go_wp2_with fail
        go_ret
        exact ⟨rfl, S', hQ'.out, hS.out, hT.out⟩
  | true =>
    rw [hb] at hfin
    rw [hfin] at c1
    have hhd : l.head? = some (⟨#[]⟩ : ByteArray) := of_decide_eq_true hb
    obtain ⟨o2, ho2⟩ : ∃ v, takeO lo out s = v := ⟨_, rfl⟩
    have hLB : l.map (s ++ ·) = s :: (bodS l).map (s ++ ·) ∧ l.length = (bodS l).length + 1 := by
      unfold bodS
      rw [hb, if_pos rfl]
      cases l with
      | nil => cases hhd
      | cons t l2 =>
        rw [List.head?_cons] at hhd
        injection hhd with hhd
        subst hhd
        refine ⟨?_, rfl⟩
        rw [List.map_cons, List.tail_cons]
        congr 1
        exact ByteArray.append_empty
    have hol : o2.length ≤ out.length + 1 := ho2 ▸ takeO_len lo out s
    have HN2 := Lib.hid (show o2.length + (bodS l).length ≤ 1000 from by have := hLB.2; omega)
    have hTV3 : (if (o2.length : Int) < most then takeL lo most o2 ((bodS l).map (s ++ ·)) else (o2, false)) = TV := by
      rw [← HTV.out, hLB.1, takeL, ho2]
    have CT := Lib.hid (take_any B lo most p1 p2 p3 out s S w QH.out (by omega))
    rw [ho2] at CT
    clear hfin hb HTV hhd hLB hol ho2
    by_cases hmo : (o2.length : Int) < most
    · rw [decide_eq_true hmo] at CT
      rw [if_pos hmo] at hTV3
      have HTV2 := Lib.hid hTV3
      clear hTV3 hmo
      go_enter Try.func69, Try.ntmps69
      go_wp2_with fail
      refine CT.out.mono ?_
      rintro e w1 ⟨rfl, S1, q1, s1, t1⟩
      have Q1 := Lib.hid q1; have S1H := Lib.hid s1; have T1 := Lib.hid t1
      obtain ⟨d0, d1, -⟩ := HT.out w1 t1
      clear q1 s1 t1 CT c0 c1
      go_wp2_with fail
      clear d0 d1
      go_loopw [34] (fun iv wr => ∃ (j : Nat) (l' out' : List Tx) (S' : Nat → Prop), j ≤ m ∧ iv = .int .i64 j ∧ Hid (EdOk (restsG st) l' (es.drop j)) ∧ Hid (OkL f l') ∧ Hid (∀ t ∈ l', 0 < t.size) ∧ Hid (takeL lo most out' (l'.map (s ++ ·)) = TV) ∧ Hid (out'.length + l'.length ≤ 1000) ∧ Hid (QTs B lo most p1 p2 p3 out' wr S') ∧ Hid (∀ k, S' k → S k ∨ w.heap.size ≤ k) ∧ Hid (Turn S w wr)) (fun iv _ => m - (intOf iv).toNat)
      case atStart => exact ⟨0, bodS l, o2, S1, by omega, rfl, HED, OB, BP, HTV2, HN2, Q1, S1H, T1⟩
      case round =>
        obtain ⟨j, l', out', S', hj, rfl, hE, hO', hP, hV, hL, hQ', hS, hT⟩ := hrel
        by_cases hlt : j < m
        · obtain ⟨d0, d1, d2⟩ := HT.out wr hT.out
          obtain ⟨b, o, rfl, hc⟩ := d2.at (by omega)
          have x0 := hc j hlt
          have hE1 := hE.out
          rw [drop_ed es j (by have := HM.out; omega)] at hE1
          obtain ⟨hne, hr1, ⟨k', hd1, hR1⟩, hE2⟩ := hE1
          obtain ⟨x1, x2⟩ := x0
          rw [hr1] at x1
          rw [hd1] at x2
          obtain ⟨hf1, hf2⟩ := fol_len l' hne
          have hRun : Run l' := ⟨hO'.out.ord, hP.out, hO'.out.lo⟩
          have hmap := fol_map hRun hne s
          obtain ⟨kk, hkk⟩ : ∃ kk, (folS l').2.length = kk := ⟨_, rfl⟩
          rw [hkk] at hE2 hf1 hf2 hmap
          obtain ⟨f', rfl⟩ : ∃ f', f = f' + 1 := by
            cases l' with
            | nil => exact absurd rfl hne
            | cons t l2 =>
              have h1 := rst_len (hO'.out.lo t (by simp)) (hP.out t (by simp))
              have h2 := hO'.out.hi t (by simp)
              exact ⟨f - 1, by omega⟩
          have hof := hO'.out.fol hP.out
          obtain ⟨lb, hlb⟩ : ∃ v, (folS l').1 = v := ⟨_, rfl⟩
          obtain ⟨fl, hfl⟩ : ∃ v, (folS l').2 = v := ⟨_, rfl⟩
          rw [hlb] at x1 hmap
          rw [hfl] at hmap hR1 hof hkk
          have hz4 := encode_size_le (lb : Int)
          have hsz2 : (s ++ Utf8.encode (lb : Int)).size + 4 * f' ≤ 1000 := by rw [ByteArray.size_append]; omega
          have hszm : s.size + (Utf8.encode (lb : Int)).size ≤ 1000 := by omega
          have BE := Lib.hid (below_one wr (.cells #[.int .i32 (lb : Int), .int .i64 (k' : Int)] 120))
          have CE := Lib.hid (IHH.out f' rfl k' fl (s ++ Utf8.encode (lb : Int)) out' Sg S' (wr.alloc (.cells #[.int .i32 (lb : Int), .int .i64 (k' : Int)] 120)) hR1 hof ((gAt_ok g st).below ((gAt_ok g st).turn GH.out hT.out AH.out) BE.out) ((qts_ok B lo most p1 p2 p3 out').below hQ'.out BE.out) (fun q hq hq2 => by
            rcases hS.out q hq2 with h1 | h1
            · exact AH.out q hq h1
            · have := (gAt_ok g st).lt GH.out q hq; omega) (by have := hL.out; omega) hsz2)
          rw [hmap] at CE
          have hV2 := hV.out
          rw [← List.take_append_drop kk l', List.map_append, takeL_app] at hV2
          have hLL := takeL_len lo most ((l'.take kk).map (s ++ ·)) out'
          rw [List.length_map, List.length_take] at hLL
          obtain ⟨RV, hRV⟩ : ∃ v, takeL lo most out' ((l'.take kk).map (s ++ ·)) = v := ⟨_, rfl⟩
          rw [hRV] at hV2 CE hLL
          obtain ⟨ro, rb⟩ := RV
          simp only at hV2 CE hLL
          have V2 := Lib.hid hV2
          have E2 := Lib.hid hE2
          have LL := Lib.hid hLL
          have hTB := Lib.hid (hT.out.trans (Turn.of_below BE.out))
          have hk1 := Lib.hid hf1
          have hk2 := Lib.hid hf2
          have n1 : (0 : Int) ≤ (j : Int) := by omega
          have n2 : (j : Int) < (m : Int) := by omega
          clear hc d0 d1 d2 hr1 hd1 hR1 hE2 hne hRun hmap hkk hof hlb hfl hz4 hsz2 hV2 hLL hRV hf1 hf2
          go_wp2_with fail
          refine CE.out.mono ?_
          rintro e w4 ⟨rfl, S4, q4, s4, t4⟩
          have Q4 := Lib.hid q4
          have S4H := Lib.hid (show ∀ q, S4 q → S q ∨ w.heap.size ≤ q from fun q hq => by
            rcases s4 q hq with h1 | h1
            · exact hS.out q h1
            · have := hT.out.size; have := BE.out.size; exact Or.inr (by omega))
          have T4 := Lib.hid (hTB.out.trans' t4 (fun q hq => hS.out q hq))
          clear q4 s4 t4 CE
          cases rb with
          | true =>
            have V3 := V2.out
            rw [if_pos rfl] at V3
            have V4 := Lib.hid V3
            clear V3 V2
            go_wp2_with fail
            go_roundw
            case rel => exact ⟨j + 1, l'.drop kk, ro, S4, by omega, by go_num, E2, Lib.hid (hO'.out.drop _), Lib.hid (fun t ht => hP.out t (List.mem_of_mem_drop ht)), V4, Lib.hid (by have := LL.out; have := hL.out; have := hk2.out; rw [List.length_drop]; omega), Q4, S4H, T4⟩
            case measure => simp [intOf] <;> omega
          | false =>
            have V3 := V2.out
            rw [if_neg (by simp)] at V3
            subst V3
            go_wp2_with fail
            go_ret
            exact ⟨rfl, S4, Q4.out, S4H.out, T4.out⟩
        · obtain rfl : j = m := by omega
          have hE2 := hE.out
          rw [List.drop_of_length_le (by have := HM.out; omega)] at hE2
          obtain rfl : l' = [] := hE2
          obtain rfl : (out', true) = TV := hV.out
          go_wp2_with fail
          go_ret
          exact ⟨rfl, S', hQ'.out, hS.out, hT.out⟩
    · rw [decide_eq_false hmo] at CT
      rw [if_neg hmo] at hTV3
      subst hTV3
      clear hmo
      go_enter Try.func69, Try.ntmps69
      go_wp2_with fail
      refine CT.out.mono ?_
      rintro e w1 ⟨rfl, hpo⟩
      go_wp2_with fail
      go_ret
      exact ⟨rfl, hpo⟩
theorem each_any (B : Nat) (lo : Tx) (most : Int) (g p1 p2 p3 : Nat) (st : List GN) (ts : List Tx) (G : GOk st ts) : ∀ f, EachAny B lo most g p1 p2 p3 st ts f := by
  intro f
  induction f with
  | zero => exact each_step B lo most g p1 p2 p3 st ts G 0 (fun f' e => by omega)
  | succ f ih => exact each_step B lo most g p1 p2 p3 st ts G (f + 1) (fun f' e => by
      obtain rfl : f = f' := by omega
      exact ih)
end Go.Proofs.Ytbbholdadgjelaa
/- graph: From, Words -/
namespace Go.Proofs.Ytbbholdadgjelaa
open Go.RowKit
set_option linter.unusedVariables false
set_option maxRecDepth 20000
def fromL (ts : List Tx) (lo : Tx) (most : Int) : List Tx := (ts.filter (fun t => !decide (cmpS t lo < 0))).take most.toNat
theorem takeL_from (lo : Tx) (most : Int) : ∀ (ts out : List Tx), (out.length : Int) < most → (takeL lo most out ts).1 = out ++ (ts.filter (fun t => !decide (cmpS t lo < 0))).take (most - out.length).toNat
  | [], out, _ => by simp [takeL]
  | x :: l, out, h => by
    rw [takeL]
    by_cases hc : cmpS x lo < 0
    · have e : takeO lo out x = out := if_pos hc
      rw [e, if_pos h, takeL_from lo most l out h, List.filter_cons_of_neg (by simpa using hc)]
    · have e : takeO lo out x = out ++ [x] := if_neg hc
      have hl : (out ++ [x]).length = out.length + 1 := by simp
      rw [e, List.filter_cons_of_pos (by simpa using hc), show (most - (out.length : Int)).toNat = (most - ((out.length : Int) + 1)).toNat + 1 by omega, List.take_succ_cons]
      by_cases hm : ((out ++ [x]).length : Int) < most
      · rw [if_pos hm, takeL_from lo most l (out ++ [x]) hm, hl, List.append_assoc]
        simp
      · rw [if_neg hm]
        rw [hl] at hm
        rw [show (most - ((out.length : Int) + 1)).toNat = 0 by omega]
        simp
theorem from_takeL (ts : List Tx) (lo : Tx) (most : Int) (h : 1 ≤ most) : (takeL lo most [] (ts.map (fun x => (⟨#[]⟩ : ByteArray) ++ x))).1 = fromL ts lo most := by
  have e : ts.map (fun x => (⟨#[]⟩ : ByteArray) ++ x) = ts := by
    conv => rhs; rw [← List.map_id ts]
    exact List.map_congr_left fun a _ => ByteArray.empty_append
  rw [e, takeL_from lo most ts [] (by simp; omega)]
  simp [fromL]
def RetTx (w : World) (ts : List Tx) (e : Ending) (w' : World) : Prop := ∃ a c, e = .returned (.slice a ts.length c) ∧ w'.ownsRow w.heap.size 9 1 (.slice a ts.length c) ts.length (strsV ts) ∧ Below w.heap.size w w'
theorem qt_start (w : World) (lo : Tx) (most : Int) (t1 t2 t3 : TypeId) : QTs w.heap.size lo most w.heap.size (w.heap.size + 1 + 1) (w.heap.size + 1) [] (((w.alloc (Obj.cells #[Value.string lo] t1)).alloc (Obj.cells #[Value.int IntKind.i64 most] t2)).alloc (Obj.cells #[Value.slice none 0 0] t3)) (fun k => w.heap.size ≤ k ∧ k < w.heap.size + 3) := by
  have hb := Below.heap_alloc ((w.alloc (Obj.cells #[Value.string lo] t1)).alloc (Obj.cells #[Value.int IntKind.i64 most] t2)) (Obj.cells #[Value.slice none 0 0] t3)
  have hc := Below.heap_alloc (w.alloc (Obj.cells #[Value.string lo] t1)) (Obj.cells #[Value.int IntKind.i64 most] t2)
  have b0 := (hb w.heap.size (by simp; omega)).trans (hc w.heap.size (by simp))
  have b1 := hb (w.heap.size + 1) (by simp)
  refine ⟨none, 0, ⟨?_, ?_, ?_, fun i => ?_, World.ownsRow_nil _ _ _ _, ⟨by omega, by omega⟩, ⟨by omega, by omega⟩, ⟨by omega, by omega⟩, by omega, by omega, fun q hq => by (cases hq), fun k hk => ?_, ?_⟩⟩
  · rw [World.cell?_of_block (w := w.alloc (Obj.cells #[Value.string lo] t1)) b0, World.cell?_alloc_at _ _ _ _ rfl]; rfl
  · rw [World.cell?_alloc_at _ _ _ _ (by simp)]; rfl
  · rw [World.cell?_of_block (w := (w.alloc (Obj.cells #[Value.string lo] t1)).alloc (Obj.cells #[Value.int IntKind.i64 most] t2)) b1, World.cell?_alloc_at _ _ _ _ (by simp)]; rfl
  · rw [World.frozen?_alloc_at _ _ _ _ (by simp)]
  · simp; omega
  · simp; omega
set_option maxHeartbeats 1600000 in
theorem gFrom_any (g : Nat) (st : List GN) (ts : List Tx) (G : GOk st ts) (S : Nat → Prop) (lo : Tx) (most : Int) (w : World) (h : GAt g st w S) : Calls Try.prog 42 #[.pointer (some ⟨g, 0, none⟩), .string lo, .int .i64 most] w (RetTx w (fromL ts lo most)) := by
  obtain ⟨h00, hr0, hN0⟩ := G.node G.root
  have hb : hasG st 0 = true := decide_eq_true (by omega)
  have CH := Lib.hid (fun w (h : GAt g st w S) => gHas_any g st S 0 w h)
  rw [hb] at CH
  have GH := Lib.hid h
  have AB := Lib.hid (fun (t1 t2 t3 : TypeId) => show Below w.heap.size w (((w.alloc (Obj.cells #[Value.string lo] t1)).alloc (Obj.cells #[Value.int IntKind.i64 most] t2)).alloc (Obj.cells #[Value.slice none 0 0] t3)) from (below_one _ _).trans (((below_one _ _).mono (by simp)).trans ((below_one _ _).mono (by simp; omega))))
  clear hb
  by_cases hm : most < 1
  · have e : fromL ts lo most = [] := by unfold fromL; rw [show most.toNat = 0 by omega]; rfl
    have d1 : decide (most < 1) = true := decide_eq_true hm
    rw [e]
    clear e
    go_enter Try.func42, Try.ntmps42
    go_wp2_with fail
    refine (CH.out _ ((gAt_ok g st).below GH.out (AB.out _ _ _))).mono ?_
    rintro e w1 ⟨rfl, rfl⟩
    go_wp2_with fail
    go_ret
    exact ⟨none, 0, rfl, World.ownsRow_nil _ _ _ _, AB.out _ _ _⟩
  · have hm1 : 1 ≤ most := by omega
    have d1 : decide (most < 1) = false := decide_eq_false hm
    have hLt := (gAt_ok g st).lt h
    have CE := Lib.hid (fun (t1 t2 t3 : TypeId) => each_any w.heap.size lo most g w.heap.size (w.heap.size + 1 + 1) (w.heap.size + 1) st ts G 12 0 ts ⟨#[]⟩ [] S (fun k => w.heap.size ≤ k ∧ k < w.heap.size + 3) _ G.root (hr0 ▸ hN0.ok) ((gAt_ok g st).below h (AB.out t1 t2 t3)) (qt_start w lo most t1 t2 t3) (fun k hk hk2 => by have := hLt k hk; omega) (by have := hN0.ok.n; rw [hr0] at this; simp only [List.length_nil]; omega) (by simp [ByteArray.size]))
    rw [from_takeL ts lo most hm1] at CE
    clear h hLt hN0 hr0
    go_enter Try.func42, Try.ntmps42
    go_wp2_with fail
    refine (CH.out _ ((gAt_ok g st).below GH.out (AB.out _ _ _))).mono ?_
    rintro e w1 ⟨rfl, rfl⟩
    go_wp2_with fail
    refine (CE.out _ _ _).mono ?_
    rintro e w2 ⟨rfl, S2, ⟨oa, oc, q2⟩, s2, t2⟩
    have c2 := q2.c2
    have HB := Lib.hid ((AB.out _ _ _).trans (t2.below (fun k hk => hk.1) (by simp; omega)))
    have Q2 := Lib.hid q2
    clear q2 s2 t2 CE
    go_wp2_with fail
    go_ret
    exact ⟨oa, oc, rfl, Q2.out.o, HB.out⟩
theorem gWords_any (g : Nat) (st : List GN) (ts : List Tx) (G : GOk st ts) (S : Nat → Prop) (w : World) (h : GAt g st w S) : Calls Try.prog 18 #[.pointer (some ⟨g, 0, none⟩)] w (RetTx w (fromL ts ⟨#[]⟩ 60)) := by
  have CH := Lib.hid (gFrom_any g st ts G S ⟨#[]⟩ 60 w h)
  go_enter Try.func18, Try.ntmps18
  go_wp2_with fail
  refine CH.out.mono ?_
  rintro e w1 ⟨a, c, rfl, ho, hb⟩
  go_wp2_with fail
  go_ret
  exact ⟨a, c, rfl, ho, hb⟩
theorem words_all {ts : List Tx} (h : ts.length ≤ 60) : fromL ts ⟨#[]⟩ 60 = ts := by
  unfold fromL
  have e : ts.filter (fun t => !decide (cmpS t (⟨#[]⟩ : ByteArray) < 0)) = ts := List.filter_eq_self.2 (fun t _ => by simpa using cmp_empty t)
  rw [e]
  exact List.take_of_length_le (by simpa using h)
end Go.Proofs.Ytbbholdadgjelaa
/- pack: contracts in the laws' forms; awake -/
namespace Go.Proofs.Ytbbholdadgjelaa
open Go.RowKit
set_option linter.unusedVariables false
set_option maxRecDepth 20000
theorem decode_yes (a : Option Addr) (n cap : Nat) (bs : List Nat) (ts : List Tx) (st : List GN) {w0 : World} (w : World) (hw : Below w0.heap.size w0 w) (h : HoldsB w a n bs) (hc : n ≤ cap) (hn : n ≤ 1048576) (hd : decS bs = some ts) (hst : grS ts = st) :
    Calls Try.prog 15 #[.slice a n cap] w fun e w' => ∃ g S, e = .returned (.tuple #[.pointer (some ⟨g, 0, none⟩), .int .i64 0]) ∧ CtxG w0 w' g st S ∧ Below w.heap.size w w' := by
  refine (decode_any a n cap bs w h hc hn).mono ?_
  rintro e w' ⟨hb, hr⟩
  rw [hd] at hr
  obtain ⟨g, S, rfl, C⟩ := hr
  subst hst
  exact ⟨g, S, rfl, ⟨C.G, fun k hk => Nat.le_trans hw.size (C.s k hk), hw.trans (hb.mono hw.size)⟩, hb⟩
theorem decode_no (a : Option Addr) (n cap : Nat) (bs : List Nat) (x : Int) (w : World) (h : HoldsB w a n bs) (hc : n ≤ cap) (hn : n ≤ 1048576) (hd : decS bs = none) (hx : (if openB bs then (8 : Int) else 9) = x) :
    Calls Try.prog 15 #[.slice a n cap] w fun e w' => e = .returned (.tuple #[.pointer none, .int .i64 x]) ∧ Below w.heap.size w w' := by
  refine (decode_any a n cap bs w h hc hn).mono ?_
  rintro e w' ⟨hb, hr⟩
  rw [hd] at hr
  subst hx
  exact ⟨hr, hb⟩
theorem imgB_lt (st : List GN) : ∀ b ∈ imgB st, b < 256 := sealB_lt _ (bodyB_lt _)
/-- Of, its bytes named -/
theorem pOf_c (a : Option Addr) (n cap : Nat) (ts : List Tx) (I : List Nat) (m : Nat) {w0 : World} (w : World) (hw : Below w0.heap.size w0 w) (hh : HoldsT w a n ts) (hc : n ≤ cap) (hn : n ≤ 9223372036854775807) (hv : goodV ts = 0) (hI : imgB (grS ts) = I) (hm : I.length = m) :
    Calls Try.prog 49 #[.slice a n cap] w fun e w' => ∃ a' c', e = .returned (.tuple #[.slice a' m c', .int .i64 0]) ∧ w'.ownsRow w0.heap.size 5 1 (.slice a' m c') m (bytesV I) ∧ HoldsB w' a' m I ∧ m ≤ c' ∧ Below w0.heap.size w0 w' ∧ Below w.heap.size w w' := by
  subst hI hm
  refine (pOf_good a n cap ts w hh hc hn (fun t ht => by have := good_sizes hv t ht; omega) hv).mono ?_
  rintro e w' ⟨a2, c2, rfl, h1, h2, -⟩
  exact ⟨a2, c2, rfl, base_less9 h1 hw.size, holdsB_of_values (owns_holds h1) (imgB_lt _), (owns_none h1).2, hw.trans (h2.mono hw.size), h2⟩
/-- Encode of the words' graph, its bytes named -/
theorem encode_c (ts : List Tx) (st : List GN) (I : List Nat) (m : Nat) (hst : grS ts = st) {w0 : World} {g : Nat} {S : Nat → Prop} (w : World) (c : CtxG w0 w g st S) (hv : goodV ts = 0) (hI : imgB st = I) (hm : I.length = m) :
    Calls Try.prog 40 #[.pointer (some ⟨g, 0, none⟩)] w fun e w' => ∃ a' c', e = .returned (.tuple #[.slice a' m c', .int .i64 0]) ∧ HoldsB w' a' m I ∧ m ≤ c' ∧ Below w.heap.size w w' ∧ w'.ownsRow w.heap.size 5 1 (.slice a' m c') m (bytesV I) := by
  subst hI hm hst
  refine (encode_of g ts S w c.G hv (fun t ht => by have := good_sizes hv t ht; omega)).mono ?_
  rintro e w' ⟨a2, c2, rfl, h1, h2, -⟩
  exact ⟨a2, c2, rfl, holdsB_of_values (owns_holds h1) (imgB_lt _), (owns_none h1).2, h2, h1⟩
theorem imgB_len {ts : List Tx} (h : goodV ts = 0) : 10 ≤ (imgB (grS ts)).length ∧ (imgB (grS ts)).length ≤ 524004 := by
  obtain ⟨h1, h2⟩ := grS_edges h
  have h3 := bodyB_len h2 (by omega)
  unfold imgB
  rw [sealB_len]
  refine ⟨?_, by omega⟩
  unfold bodyB
  rw [List.length_append, List.length_append, Cod.bytesOf_length]
  simp only [List.length_cons, List.length_nil]
  omega
theorem grS_none : grS [] = [⟨[], false, []⟩] := by
  unfold grS reachF
  rfl
theorem img_none : ∃ I, imgB (grS []) = I ∧ I.length = 13 ∧ I.getD 0 0 = 73 ∧ I.getD 5 0 = 1 ∧ decS I = some [] := by
  refine ⟨imgB (grS []), rfl, ?_, ?_, ?_, decS_img (by decide)⟩
  · rw [grS_none]; unfold imgB; rw [sealB_len]; rfl
  · rw [grS_none]; unfold imgB sealB; rfl
  · rw [grS_none]; unfold imgB sealB; rfl
theorem bytesV_at {I : List Nat} {i : Nat} (h : i < I.length) : (bytesV I).getD i undef = .int .u8 ((I.getD i 0 : Nat) : Int) := by
  unfold bytesV
  simp [List.getD_eq_getElem?_getD, List.getElem?_eq_getElem h]
theorem cell_at9 {w : World} {B : Nat} {q c m : Nat} {I : List Nat} (h : w.ownsRow B 5 1 (.slice (some ⟨q, 0, none⟩) m c) m (bytesV I)) (i : Nat) (hi : i < m) (hl : I.length = m) (v : Nat) (hv : I.getD i 0 = v) : w.cell? ⟨q, i, none⟩ = some (.int .u8 (v : Int)) := by
  have h1 := owns_holds h
  obtain ⟨b, o, e, hc⟩ := h1.2 (by omega)
  injection e with e
  injection e with e1 e2
  subst e1 e2
  have := hc i hi
  rw [Nat.zero_add, bytesV_at (by omega), hv] at this
  exact this
end Go.Proofs.Ytbbholdadgjelaa
/- place: Image -/
namespace Go.Proofs.Ytbbholdadgjelaa
open Go.RowKit
set_option linter.unusedVariables false
set_option maxRecDepth 20000
theorem good_filter {ws : List Tx} (h : goodV ws = 0) (p : Tx → Bool) : goodV (ws.filter p) = 0 := by
  obtain ⟨h1, h2, h3⟩ := goodV_zero h
  refine goodV_good ?_ (fun t ht => h2 t (List.mem_filter.1 ht).1) (List.Pairwise.sublist List.filter_sublist h3)
  have := List.length_filter_le p ws
  omega
set_option maxHeartbeats 1600000 in
theorem image_in (c : Cfg) (s : Nat) (zs : List Tx) (I : List Nat) (m : Nat) (w : World) (h : CfgOk w c) (hm : c.may = true) (hs : s < c.kn + 1) (hz : sliceS c.ks c.ws s = zs) (hI : imgB (grS zs) = I) (hl : I.length = m) :
    Calls Try.prog 28 #[.agg #[.slice c.wa c.wn c.wc, .slice c.ka c.kn c.kc, .int .i64 c.W, .int .i64 c.C, .int .i64 c.S, .int .i64 c.B, .int .i64 c.L, .int .i64 c.H, .int .i64 c.F, .int .i64 c.P, .int .i64 c.J, .int .i64 c.N], .int .i64 (s : Int)] w fun e w' => ∃ a' c', e = .returned (.tuple #[.slice a' m c', .int .i64 0]) ∧ w'.ownsRow w.heap.size 5 1 (.slice a' m c') m (bytesV I) ∧ HoldsB w' a' m I ∧ m ≤ c' ∧ Below w.heap.size w w' := by
  have BX := Lib.hid (below_one w (.cells #[.slice c.wa c.wn c.wc, .slice c.ka c.kn c.kc, .int .i64 c.W, .int .i64 c.C, .int .i64 c.S, .int .i64 c.B, .int .i64 c.L, .int .i64 c.H, .int .i64 c.F, .int .i64 c.P, .int .i64 c.J, .int .i64 c.N] 25))
  have IN := Lib.hid (cfgIn_new w c w.heap.size 25 (0, 0) rfl)
  have OK := Lib.hid h
  have hg : goodV zs = 0 := by rw [← hz]; exact good_filter (may_parts hm).1 _
  have l60 := (goodV_zero hg).1
  obtain ⟨k, hk⟩ : ∃ k, zs.length = k := ⟨_, rfl⟩
  have CH := Lib.hid (fun (w1 : World) (hb : Below w.heap.size w w1) => has_any c (s : Int) true w1 (OK.out.below hb) hm (decide_eq_true ⟨by omega, by omega⟩))
  have CW := Lib.hid (fun (w1 : World) (hb : Below w.heap.size w w1) => pwords_any c s k zs w1 (OK.out.below hb) hm hs hz hk)
  have CO := Lib.hid (fun (a' : Option Addr) (c' : Nat) (w1 : World) (hb : Below w.heap.size w w1) (hh : HoldsT w1 a' k zs) (hc : k ≤ c') => pOf_c a' k c' zs I m (w0 := w) w1 hb hh hc (by omega) hg hI hl)
  clear h hm hs hz hI hl hg hk l60
  go_enter Try.func28, Try.ntmps28
  go_upto_region 1 with fail
  generalize w.alloc (.cells #[.slice c.wa c.wn c.wc, .slice c.ka c.kn c.kc, .int .i64 c.W, .int .i64 c.C, .int .i64 c.S, .int .i64 c.B, .int .i64 c.L, .int .i64 c.H, .int .i64 c.F, .int .i64 c.P, .int .i64 c.J, .int .i64 c.N] 25) = w1 at *
  obtain ⟨p, hp⟩ : ∃ p, w.heap.size = p := ⟨_, rfl⟩
  have HP := Lib.hid hp
  rw [hp] at IN
  rw [hp]
  have hI := IN.out
  unfold CfgIn at hI
  obtain ⟨i0, i1, i2, i3, i4, i5, i6, i7, i8, i9, i10, i11⟩ := hI
  have CH1 := Lib.hid (CH.out w1 BX.out)
  clear CH hp
  go_wp2_with fail
  with_reducible refine CH1.out.mono ?_
  rintro e w2 ⟨rfl, hb2⟩
  have B2 := Lib.hid (BX.out.trans (hb2.mono BX.out.size))
  have I2 := Lib.hid (IN.out.below hb2)
  clear hb2 CH1 i0 i1 i2 i3 i4 i5 i6 i7 i8 i9 i10 i11 IN
  have hI := I2.out
  unfold CfgIn at hI
  obtain ⟨i0, i1, i2, i3, i4, i5, i6, i7, i8, i9, i10, i11⟩ := hI
  have CW1 := Lib.hid (CW.out w2 B2.out)
  clear CW
  go_wp2_with fail
  with_reducible refine CW1.out.mono ?_
  rintro e w3 ⟨a3, c3, rfl, L3, hb3⟩
  have B3 := Lib.hid (B2.out.trans (hb3.mono B2.out.size))
  have CO1 := Lib.hid (CO.out a3 c3 w3 B3.out L3.1 L3.2.2)
  clear hb3 L3 CW1 CO i0 i1 i2 i3 i4 i5 i6 i7 i8 i9 i10 i11
  go_wp2_with fail
  with_reducible refine CO1.out.mono ?_
  rintro e w4 ⟨a4, c4, rfl, o4, h4, hc4, b4, -⟩
  have F := Lib.hid (And.intro o4 (And.intro h4 (And.intro hc4 b4)))
  clear o4 h4 hc4 b4 CO1
  go_wp2_with fail
  go_ret2
  exact ⟨a4, c4, rfl, F.out.1, F.out.2.1, F.out.2.2.1, F.out.2.2.2⟩
theorem image_out (c : Cfg) (s : Int) (w : World) (h : CfgOk w c) (hm : c.may = true) (hs : ¬ (0 ≤ s ∧ s < ((c.kn + 1 : Nat) : Int))) :
    Calls Try.prog 28 #[.agg #[.slice c.wa c.wn c.wc, .slice c.ka c.kn c.kc, .int .i64 c.W, .int .i64 c.C, .int .i64 c.S, .int .i64 c.B, .int .i64 c.L, .int .i64 c.H, .int .i64 c.F, .int .i64 c.P, .int .i64 c.J, .int .i64 c.N], .int .i64 s] w fun e w' => e = .returned (.tuple #[.slice none 0 0, .int .i64 4]) ∧ Below w.heap.size w w' := by
  have BX := Lib.hid (below_one w (.cells #[.slice c.wa c.wn c.wc, .slice c.ka c.kn c.kc, .int .i64 c.W, .int .i64 c.C, .int .i64 c.S, .int .i64 c.B, .int .i64 c.L, .int .i64 c.H, .int .i64 c.F, .int .i64 c.P, .int .i64 c.J, .int .i64 c.N] 25))
  have CH := Lib.hid (has_any c s false _ (h.below BX.out) hm (decide_eq_false hs))
  clear h hm hs
  go_enter Try.func28, Try.ntmps28
  go_wp2_with fail
  with_reducible refine CH.out.mono ?_
  rintro e w2 ⟨rfl, hb2⟩
  have B2 := Lib.hid (BX.out.trans (hb2.mono BX.out.size))
  clear hb2 CH
  go_wp2_with fail
  go_ret2
  exact ⟨rfl, B2.out⟩
end Go.Proofs.Ytbbholdadgjelaa
/- place: how shards are spread (plain) -/
namespace Go.Proofs.Ytbbholdadgjelaa
open Go.RowKit
set_option linter.unusedVariables false
set_option maxRecDepth 20000
namespace Pl
theorem cop_bd {W C s : Nat} (hW : 1 ≤ W) {x : Int} (h : x ∈ cop W C s) : 1 ≤ x ∧ x ≤ (W : Int) := by
  unfold cop at h
  obtain ⟨j, _, rfl⟩ := List.mem_map.1 h
  have := Nat.mod_lt (s + j) (show 0 < W by omega)
  omega
def inN (W C s i : Nat) : Bool := (List.range C).any fun j => (1 + (s + j) % W) == i
theorem mem_cop (W C s i : Nat) : decide ((i : Int) ∈ cop W C s) = inN W C s i := by
  unfold cop inN
  rw [Bool.eq_iff_iff]
  simp only [decide_eq_true_eq, List.mem_map, List.any_eq_true, beq_iff_eq]
  constructor
  · rintro ⟨j, h1, h2⟩; exact ⟨j, h1, by omega⟩
  · rintro ⟨j, h1, h2⟩; exact ⟨j, h1, by omega⟩
def cnt (W C S i : Nat) : Nat := ((List.range S).filter fun s => inN W C s i).length
theorem keep_cnt (W C S i : Nat) : (keep W C S (i : Int)).length = cnt W C S i := by
  unfold keep cnt
  congr 1
  apply List.filter_congr
  intro s _
  exact mem_cop W C s i
theorem keep_none {W C S : Nat} (hW : 1 ≤ W) {x : Int} (h : ¬ (1 ≤ x ∧ x ≤ (W : Int))) : keep W C S x = [] := by
  unfold keep
  rw [List.filter_eq_nil_iff]
  intro s _ hs
  exact h (cop_bd hW (of_decide_eq_true hs))
def loF (W C S : Nat) : Nat → Nat
  | 0 => 100
  | k + 1 => min (loF W C S k) (cnt W C S (k + 1))
def hiF (W C S : Nat) : Nat → Nat
  | 0 => 0
  | k + 1 => max (hiF W C S k) (cnt W C S (k + 1))
theorem lo_le (W C S : Nat) : ∀ k, loF W C S k ≤ 100
  | 0 => Nat.le_refl _
  | k + 1 => Nat.le_trans (Nat.min_le_left _ _) (lo_le W C S k)
theorem cnt_le (W C S i : Nat) : cnt W C S i ≤ S := by
  unfold cnt
  exact Nat.le_trans (List.length_filter_le _ _) (by simp)
theorem hi_le (W C S : Nat) : ∀ k, hiF W C S k ≤ S
  | 0 => by unfold hiF; omega
  | k + 1 => by unfold hiF; have := hi_le W C S k; have := cnt_le W C S (k + 1); omega
theorem spread_tab : ((List.range 6).all fun W => (List.range 4).all fun C => (List.range 7).all fun S => !(decide (1 ≤ W) && decide (1 ≤ C) && decide (C ≤ W) && decide (1 ≤ S)) || (decide (hiF W C S W ≤ loF W C S W + C) && decide (1 ≤ hiF W C S W))) = true := by decide +kernel
theorem spread_all {W C S : Nat} (h1 : 1 ≤ W) (h2 : W ≤ 5) (h3 : 1 ≤ C) (h4 : C ≤ 3) (h5 : C ≤ W) (h6 : 1 ≤ S) (h7 : S ≤ 6) : hiF W C S W ≤ loF W C S W + C ∧ 1 ≤ hiF W C S W := by
  have t := spread_tab
  rw [List.all_eq_true] at t
  have t1 := t W (by simp; omega)
  rw [List.all_eq_true] at t1
  have t2 := t1 C (by simp; omega)
  rw [List.all_eq_true] at t2
  have t3 := t2 S (by simp; omega)
  simpa [h1, h3, h5, h6] using t3
end Pl
end Go.Proofs.Ytbbholdadgjelaa
/- place: who keeps what (plain) -/
namespace Go.Proofs.Ytbbholdadgjelaa
open Go.RowKit
set_option linter.unusedVariables false
set_option maxRecDepth 20000
namespace Pl
theorem cop_at {W C s j : Nat} (h : j < C) : (cop W C s).getD j 0 = ((1 + (s + j) % W : Nat) : Int) := by
  unfold cop
  rw [List.getD_eq_getElem?_getD, List.getElem?_map, List.getElem?_eq_getElem (by simpa using h)]
  simp
theorem ne_tab : ((List.range 6).all fun W => (List.range 7).all fun s => (List.range 4).all fun i => (List.range i).all fun j => !(decide (i < W)) || !((s + i) % W == (s + j) % W)) = true := by decide +kernel
theorem cop_ne {W C s i j : Nat} (h1 : W ≤ 5) (h2 : s ≤ 6) (h3 : i < C) (h4 : C ≤ W) (h5 : C ≤ 4) (h6 : j < i) : (cop W C s).getD i 0 ≠ (cop W C s).getD j 0 := by
  have t := ne_tab
  rw [List.all_eq_true] at t
  have t1 := t W (by simp; omega)
  rw [List.all_eq_true] at t1
  have t2 := t1 s (by simp; omega)
  rw [List.all_eq_true] at t2
  have t3 := t2 i (by simp; omega)
  rw [List.all_eq_true] at t3
  have t4 := t3 j (by simpa using h6)
  rw [cop_at h3, cop_at (by omega)]
  simp only [show i < W by omega, decide_true, Bool.not_true, Bool.false_or, Bool.not_eq_true', beq_eq_false_iff_ne] at t4
  omega
def sumF (W C S : Nat) : Nat → Nat
  | 0 => 0
  | k + 1 => sumF W C S k + cnt W C S (k + 1)
theorem sum_tab : ((List.range 6).all fun W => (List.range 4).all fun C => (List.range 7).all fun S => !(decide (1 ≤ W) && decide (C ≤ W)) || (sumF W C S W == C * S)) = true := by decide +kernel
theorem sum_all {W C S : Nat} (h1 : 1 ≤ W) (h2 : W ≤ 5) (h4 : C ≤ 3) (h5 : C ≤ W) (h7 : S ≤ 6) : sumF W C S W = C * S := by
  have t := sum_tab
  rw [List.all_eq_true] at t
  have t1 := t W (by simp; omega)
  rw [List.all_eq_true] at t1
  have t2 := t1 C (by simp; omega)
  rw [List.all_eq_true] at t2
  have t3 := t2 S (by simp; omega)
  simpa [h1, h5] using t3
theorem sum_le (W C S : Nat) : ∀ k, sumF W C S k ≤ S * k
  | 0 => Nat.le_refl _
  | k + 1 => by
    have h := sum_le W C S k
    have h2 := cnt_le W C S (k + 1)
    rw [Nat.mul_succ]
    show sumF W C S k + cnt W C S (k + 1) ≤ S * k + S
    omega
theorem keep_mem {W C S : Nat} {x : Int} {s : Nat} (h : s ∈ keep W C S x) : s < S ∧ x ∈ cop W C s := by
  unfold keep at h
  obtain ⟨h1, h2⟩ := List.mem_filter.1 h
  exact ⟨by simpa using h1, of_decide_eq_true h2⟩
theorem keep_rise (W C S : Nat) (x : Int) : (keep W C S x).Pairwise (· < ·) := by
  unfold keep
  exact List.Pairwise.filter _ List.pairwise_lt_range
theorem keep_lt {W C S : Nat} {x : Int} {i : Nat} (h : i + 1 < (keep W C S x).length) : (keep W C S x).getD i 0 < (keep W C S x).getD (i + 1) 0 := by
  have hp := keep_rise W C S x
  rw [List.pairwise_iff_getElem] at hp
  have := hp i (i + 1) (by omega) h (by omega)
  rw [List.getD_eq_getElem?_getD, List.getElem?_eq_getElem (by omega), List.getD_eq_getElem?_getD, List.getElem?_eq_getElem h]
  exact this
theorem keep_at {W C S : Nat} {x : Int} {i : Nat} (h : i < (keep W C S x).length) : (keep W C S x).getD i 0 < S ∧ x ∈ cop W C ((keep W C S x).getD i 0) := by
  refine keep_mem ?_
  rw [List.getD_eq_getElem?_getD, List.getElem?_eq_getElem h]
  exact List.getElem_mem _
end Pl
/-- is x among the first j? -/
def inF (L : List Int) (x : Int) (j : Nat) : Bool := decide (x ∈ L.take j)
theorem inF_zero (L : List Int) (x : Int) : inF L x 0 = false := by simp [inF]
theorem inF_succ (L : List Int) (x : Int) (j : Nat) (h : j < L.length) : inF L x (j + 1) = (inF L x j || (L.getD j 0 == x)) := by
  unfold inF
  rw [List.take_add_one, List.getElem?_eq_getElem h, List.getD_eq_getElem?_getD, List.getElem?_eq_getElem h]
  rw [Bool.eq_iff_iff]
  simp only [Option.toList_some, List.mem_append, List.mem_singleton, decide_eq_true_eq, Option.getD_some, Bool.or_eq_true, beq_iff_eq]
  constructor
  · rintro (a | a)
    · exact Or.inl a
    · exact Or.inr a.symm
  · rintro (a | a)
    · exact Or.inl a
    · exact Or.inr a.symm
theorem inF_all {L : List Int} {x : Int} (h : x ∈ L) : inF L x L.length = true := by
  unfold inF
  rw [List.take_length]
  exact decide_eq_true h
end Go.Proofs.Ytbbholdadgjelaa
/- disk: Rotten; New -/
namespace Go.Proofs.Ytbbholdadgjelaa
open Go.RowKit
set_option linter.unusedVariables false
set_option maxRecDepth 20000
theorem take_getD {x : List Nat} {k : Nat} (h : k < x.length) : x.take (k + 1) = x.take k ++ [x.getD k 0] := by
  rw [List.take_add_one, List.getElem?_eq_getElem h, List.getD_eq_getElem?_getD, List.getElem?_eq_getElem h]; rfl
theorem differ_any (a1 a2 : Option Addr) (n1 c1 n2 c2 : Nat) (x y : List Nat) (w : World) (z : Bool) (h1 : HoldsB w a1 n1 x) (h2 : HoldsB w a2 n2 y) (hn1 : n1 ≤ 1000000) (hz : decide (x ≠ y) = z) :
    Calls Try.prog 35 #[.slice a1 n1 c1, .slice a2 n2 c2] w fun e w' => e = .returned (.bool z) ∧ w = w' := by
  have HZ := Lib.hid hz
  have HX := Lib.hid h1.len
  have HY := Lib.hid h2.len
  have A1 := Lib.hid h1; have A2 := Lib.hid h2
  clear h1 h2 hz
  by_cases hn : n1 = n2
  · subst hn
    have d1 : ((n1 : Int) != (n1 : Int)) = false := by simp
    go_enter Try.func35, Try.ntmps35
    go_wp2_with fail
    go_loop [14] (fun iv => ∃ k : Nat, k ≤ n1 ∧ iv = .int .i64 k ∧ Hid (x.take k = y.take k)) (fun iv => n1 - (intOf iv).toNat)
    case atStart => exact ⟨0, by omega, rfl, Lib.hid (by simp)⟩
    case round =>
      obtain ⟨k, hk, rfl, hT⟩ := hrel
      by_cases hlt : k < n1
      · obtain ⟨q1, o1, rfl, hc1⟩ := A1.out.at (by omega)
        obtain ⟨q2, o2, rfl, hc2⟩ := A2.out.at (by omega)
        have x1 := hc1 k hlt
        have x2 := hc2 k hlt
        obtain ⟨u, hu⟩ : ∃ u, x.getD k 0 = u := ⟨_, rfl⟩
        obtain ⟨v, hv⟩ : ∃ v, y.getD k 0 = v := ⟨_, rfl⟩
        rw [hu] at x1
        rw [hv] at x2
        have HU := Lib.hid hu; have HV := Lib.hid hv
        clear hc1 hc2 hu hv
        by_cases he : u = v
        · have e1 : ((u : Int) != (v : Int)) = false := by simp [he]
          have NX := Lib.hid (show x.take (k + 1) = y.take (k + 1) from by
            rw [take_getD (by rw [HX.out]; exact hlt), take_getD (by rw [HY.out]; exact hlt), hT.out, HU.out, HV.out, he])
          clear he
          go_wp2_with fail
          go_round
          case rel => exact ⟨k + 1, by omega, by go_num, NX⟩
          case measure => simp [intOf]; omega
        · have e1 : ((u : Int) != (v : Int)) = true := by rw [bne_iff_ne]; omega
          have FIN := Lib.hid (show z = true from HZ.out.symm.trans <| decide_eq_true (fun h => he (by rw [← HU.out, ← HV.out, h])))
          clear he
          go_wp2_with fail
          go_ret
          exact ⟨(by rw [FIN.out]; first | done | rfl), rfl⟩
      · obtain rfl : k = n1 := by omega
        have FIN := Lib.hid (show z = false from HZ.out.symm.trans <| decide_eq_false (fun h => h (by
          have := hT.out
          rw [List.take_of_length_le (by rw [HX.out]; exact Nat.le_refl _), List.take_of_length_le (by rw [HY.out]; exact Nat.le_refl _)] at this
          exact this)))
        go_wp2_with fail
        go_ret
        exact ⟨(by rw [FIN.out]; first | done | rfl), rfl⟩
  · have d1 : ((n1 : Int) != (n2 : Int)) = true := by rw [bne_iff_ne]; omega
    have FIN := Lib.hid (show z = true from HZ.out.symm.trans <| decide_eq_true (fun h => hn (by rw [← HX.out, ← HY.out, h])))
    clear hn
    go_enter Try.func35, Try.ntmps35
    go_wp2_with fail
    go_ret
    exact ⟨(by rw [FIN.out]; first | done | rfl), rfl⟩
theorem drotten_yes (d : Nat) (x : Int) (i : DI) (z : Bool) {B M n life : Nat} {f : Int → Option DI} (w : World) (h : DAt B d M n f life w) (hx : wfI x) (hf : f x = some i) (hz : decide (i.sb ≠ i.ob) = z) :
    Calls Try.prog 14 #[.pointer (some ⟨d, 0, none⟩), .int .i64 x] w fun e w' => e = .returned (.bool z) ∧ Below w.heap.size w w' := by
  have CF := Lib.hid (dfind_yes d x i w h hx hf)
  have K := Lib.hid (h.im x i hf)
  have CD := Lib.hid (fun w' (hb : Below w.heap.size w w') => differ_any i.sa i.oa i.sb.length i.sc i.ob.length i.oc i.sb i.ob w' z (K.out.s.below hb) (K.out.o.below hb) (by have := K.out.hi; have := K.out.eq; omega) hz)
  obtain ⟨oa, ob, oc, sa, sb, sc⟩ := i
  simp only at CF CD
  clear h hf hz
  go_enter Try.func14, Try.ntmps14
  go_wp2_with fail
  with_reducible refine CF.out.mono ?_
  rintro e w1 ⟨rfl, hb⟩
  have B1 := Lib.hid (hb.trans ((below_one w1 (.cells #[.slice oa ob.length oc, .slice sa sb.length sc] 67)).mono hb.size))
  have C1 := Lib.hid (CD.out _ B1.out)
  clear hb CF CD
  go_wp2_with fail
  with_reducible refine C1.out.mono ?_
  rintro e w2 ⟨rfl, rfl⟩
  go_wp2_with fail
  go_ret
  exact ⟨rfl, B1.out⟩
theorem drotten_no (d : Nat) (x : Int) {B M n life : Nat} {f : Int → Option DI} (w : World) (h : DAt B d M n f life w) (hx : wfI x) (hf : f x = none) :
    Calls Try.prog 14 #[.pointer (some ⟨d, 0, none⟩), .int .i64 x] w fun e w' => e = .returned (.bool false) ∧ Below w.heap.size w w' := by
  have CF := Lib.hid (dfind_no d x w h hx hf)
  clear h hf
  go_enter Try.func14, Try.ntmps14
  go_wp2_with fail
  with_reducible refine CF.out.mono ?_
  rintro e w1 ⟨rfl, hb⟩
  have B1 := Lib.hid (hb.trans ((below_one w1 (.cells #[.slice none 0 0, .slice none 0 0] 67)).mono hb.size))
  clear hb CF
  go_wp2_with fail
  go_ret
  exact ⟨rfl, B1.out⟩
theorem drotten_nil (x : Int) (w : World) :
    Calls Try.prog 14 #[.pointer none, .int .i64 x] w fun e w' => e = .returned (.bool false) ∧ Below w.heap.size w w' := by
  go_enter Try.func14, Try.ntmps14
  go_wp2_with fail
  refine (dfind_nil x w).mono ?_
  rintro e w1 ⟨rfl, hb⟩
  have B1 := Lib.hid (hb.trans ((below_one w1 (.cells #[.slice none 0 0, .slice none 0 0] 67)).mono hb.size))
  clear hb
  go_wp2_with fail
  go_ret
  exact ⟨rfl, B1.out⟩
/-- the image of a shard's words -/
def imgC (c : Cfg) (s : Nat) : List Nat := imgB (grS (sliceS c.ks c.ws s))
/-- what a new disk has: an image of each of these shards, right -/
structure NewF (c : Cfg) (K : List Nat) (f : Int → Option DI) : Prop where
  sub : ∀ z i, f z = some i → ∃ s : Nat, z = (s : Int) ∧ s ∈ K ∧ i.ob = imgC c s ∧ i.sb = imgC c s
  all : ∀ s ∈ K, (f (s : Int)).isSome = true
theorem newF_nil (c : Cfg) : NewF c [] (fun _ => none) := ⟨fun z i h => (by cases h), fun s h => (by cases h)⟩
theorem newF_put {c : Cfg} {K : List Nat} {f : Int → Option DI} (h : NewF c K f) (s : Nat) (i : DI) (h1 : i.ob = imgC c s) (h2 : i.sb = imgC c s) : NewF c (K ++ [s]) (fput f (s : Int) i) := by
  refine ⟨fun z j e => ?_, fun t ht => ?_⟩
  · unfold fput at e
    split at e
    · rename_i hz
      injection e with e; subst e
      exact ⟨s, hz, by simp, h1, h2⟩
    · obtain ⟨t, a1, a2, a3⟩ := h.sub z j e
      exact ⟨t, a1, List.mem_append.2 (Or.inl a2), a3⟩
  · unfold fput
    split
    · rfl
    · rename_i hn
      rcases List.mem_append.1 ht with ht | ht
      · exact h.all t ht
      · rw [List.mem_singleton] at ht
        exact absurd (by rw [ht]) hn
end Go.Proofs.Ytbbholdadgjelaa
/- disk: New -/
namespace Go.Proofs.Ytbbholdadgjelaa
open Go.RowKit
set_option linter.unusedVariables false
set_option maxRecDepth 20000
theorem wfI_of {x : Int} (h0 : -9223372036854775808 ≤ x) (h1 : x ≤ 9223372036854775807) : wfI x := by
  unfold wfI; simp [Lit.wf, IntKind.min, IntKind.max, IntKind.signed, IntKind.bits]; omega
def BWD (w0 : World) (p : Nat) (c : Cfg) (w : World) : Prop := Below w0.heap.size w0 w ∧ CfgIn w p c
theorem bwd_carry {w0 w w' : World} {p : Nat} {c : Cfg} (h : BWD w0 p c w) (hb : Below w.heap.size w w') : BWD w0 p c w' := ⟨h.1.trans (hb.mono h.1.size), h.2.below hb⟩
theorem take_nat {K : List Nat} {j : Nat} (h : j < K.length) : K.take (j + 1) = K.take j ++ [K.getD j 0] := by
  rw [List.take_add_one, List.getElem?_eq_getElem h, List.getD_eq_getElem?_getD, List.getElem?_eq_getElem h]; rfl
def NewD (w : World) (c : Cfg) (K : List Nat) (e : Ending) (w' : World) : Prop := ∃ d M n f, e = .returned (.tuple #[.pointer (some ⟨d, 0, none⟩), .int .i64 0]) ∧ DAt w.heap.size d M n f 0 w' ∧ NewF c K f ∧ Below w.heap.size w w'
set_option maxHeartbeats 6400000 in
set_option maxRecDepth 100000 in
theorem dnew_good (c : Cfg) (x : Int) (W C : Nat) (K : List Nat) (w : World) (h : CfgOk w c) (hm : c.may = true) (hW : c.W = (W : Int)) (hC : c.C = (C : Int)) (hx1 : 1 ≤ x) (hx2 : x ≤ c.W) (hK : Pl.keep W C (c.kn + 1) x = K) :
    Calls Try.prog 10 #[.agg #[.slice c.wa c.wn c.wc, .slice c.ka c.kn c.kc, .int .i64 c.W, .int .i64 c.C, .int .i64 c.S, .int .i64 c.B, .int .i64 c.L, .int .i64 c.H, .int .i64 c.F, .int .i64 c.P, .int .i64 c.J, .int .i64 c.N], .int .i64 x] w (NewD w c K) := by
  have hmm := @run_makeMap Try.prog
  have BX := Lib.hid (below_one w (.cells #[.slice c.wa c.wn c.wc, .slice c.ka c.kn c.kc, .int .i64 c.W, .int .i64 c.C, .int .i64 c.S, .int .i64 c.B, .int .i64 c.L, .int .i64 c.H, .int .i64 c.F, .int .i64 c.P, .int .i64 c.J, .int .i64 c.N] 25))
  have IN := Lib.hid (cfgIn_new w c w.heap.size 25 (0, 0) rfl)
  have OK := Lib.hid h
  have CM := Lib.hid (fun w' (hb : Below w.heap.size w w') => may_cfg c true w' (OK.out.below hb) hm)
  have hkn := may_kn hm h
  have KN := Lib.hid hkn
  have KM := Lib.hid (show ∀ s ∈ K, s < c.kn + 1 from fun s hs => by rw [← hK] at hs; exact (Pl.keep_mem hs).1)
  have hk6 : K.length ≤ 6 := by
    rw [← hK]
    have := Pl.keep_len W C (c.kn + 1) x
    omega
  have CK := Lib.hid (fun w' (hb : Below w.heap.size w w') => (show Calls Try.prog 11 #[.agg #[.slice c.wa c.wn c.wc, .slice c.ka c.kn c.kc, .int .i64 c.W, .int .i64 c.C, .int .i64 c.S, .int .i64 c.B, .int .i64 c.L, .int .i64 c.H, .int .i64 c.F, .int .i64 c.P, .int .i64 c.J, .int .i64 c.N], .int .i64 x] w' (RetZ w' (natsZ K)) from hK ▸ keeps_any c x W C w' (OK.out.below hb) hm hW hC))
  have CI := Lib.hid (fun w' (s m : Nat) (I : List Nat) (hs : s < c.kn + 1) (hI : imgC c s = I) (hl : I.length = m) (hb : Below w.heap.size w w') => image_in c s (sliceS c.ks c.ws s) I m w' (OK.out.below hb) hm hs rfl hI hl)
  have GL := Lib.hid (show ∀ s : Nat, 10 ≤ (imgC c s).length ∧ (imgC c s).length ≤ 524004 from fun s => imgB_len (good_filter (may_parts hm).1 _))
  obtain ⟨k, hkl⟩ : ∃ k, K.length = k := ⟨_, rfl⟩
  rw [hkl] at hk6
  have HKL := Lib.hid hkl
  unfold RetZ at CK
  rw [natsZ_len, hkl] at CK
  have d1 : decide (x < 1) = false := decide_eq_false (by omega)
  have d2 : decide (c.W < x) = false := decide_eq_false (by omega)
  clear h hm hW hC hK hx1 hx2 hkn hkl
  go_enter Try.func10, Try.ntmps10
  go_upto_region 1 with fail
  generalize w.alloc (.cells #[.slice c.wa c.wn c.wc, .slice c.ka c.kn c.kc, .int .i64 c.W, .int .i64 c.C, .int .i64 c.S, .int .i64 c.B, .int .i64 c.L, .int .i64 c.H, .int .i64 c.F, .int .i64 c.P, .int .i64 c.J, .int .i64 c.N] 25) = w1 at *
  obtain ⟨p, hp⟩ : ∃ p, w.heap.size = p := ⟨_, rfl⟩
  have HP := Lib.hid hp
  rw [hp] at IN
  try simp only [hp]
  have hI := IN.out
  unfold CfgIn at hI
  obtain ⟨i0, i1, i2, i3, i4, i5, i6, i7, i8, i9, i10, i11⟩ := hI
  have CM1 := Lib.hid (CM.out w1 BX.out)
  clear CM hp
  go_wp2_with fail
  with_reducible refine CM1.out.mono ?_
  rintro e w2 ⟨rfl, hb2⟩
  have B2 := Lib.hid (bwd_carry (w0 := w) (p := p) (c := c) ⟨BX.out, IN.out⟩ hb2)
  clear hb2 CM1 i0 i1 i2 i3 i4 i5 i6 i7 i8 i9 i10 i11 IN BX
  have hI := B2.out.2
  unfold CfgIn at hI
  obtain ⟨i0, i1, i2, i3, i4, i5, i6, i7, i8, i9, i10, i11⟩ := hI
  go_upto_region 4 with fail
  have hbm := below_one w2 (.map #[] 0)
  have hbd := below_one (w2.alloc (.map #[] 0)) (.cells #[.map (some w2.heap.size), .int .i64 0] 64)
  have hz : (w2.alloc (.map #[] 0)).heap.size = w2.heap.size + 1 := by simp
  have D0 := Lib.hid (show DAt w.heap.size (w2.heap.size + 1) w2.heap.size 0 (fun _ => none) 0 ((w2.alloc (.map #[] 0)).alloc (.cells #[.map (some w2.heap.size), .int .i64 0] 64)) from
    ⟨by rw [← hz, cell_alloc rfl]; rfl, by rw [← hz, cell_alloc rfl]; rfl, fun i => by rw [← hz]; exact frozen_alloc rfl, by omega, (mapV_made w2).below hbd, fun x i e => (by cases e), fun x i e => (by cases e), by have := B2.out.1.size; omega, B2.out.1.size, by omega⟩)
  have B3 := Lib.hid (bwd_carry (bwd_carry B2.out hbm) hbd)
  clear hbm hbd hz B2 i0 i1 i2 i3 i4 i5 i6 i7 i8 i9 i10 i11
  obtain ⟨w3, hw3⟩ : ∃ w3, (w2.alloc (.map #[] 0)).alloc (.cells #[.map (some w2.heap.size), .int .i64 0] 64) = w3 := ⟨_, rfl⟩
  rw [hw3] at D0 B3 ⊢
  clear hw3
  generalize w2.heap.size + 1 = d at *
  generalize w2.heap.size = M at *
  have hI := B3.out.2
  unfold CfgIn at hI
  obtain ⟨i0, i1, i2, i3, i4, i5, i6, i7, i8, i9, i10, i11⟩ := hI
  have CK1 := Lib.hid (CK.out w3 B3.out.1)
  clear CK
  go_wp2_with fail
  with_reducible refine CK1.out.mono ?_
  rintro e w4 ⟨ka, kc, rfl, ho, hb4⟩
  have KH := Lib.hid (holdsZ_own ho)
  have B4 := Lib.hid (bwd_carry B3.out hb4)
  have D4 := Lib.hid (D0.out.below hb4)
  clear ho hb4 CK1 D0 B3 i0 i1 i2 i3 i4 i5 i6 i7 i8 i9 i10 i11
  go_wp2_with fail
  go_loopw [31] (fun iv wr => ∃ (j n : Nat) (f : Int → Option DI), j ≤ k ∧ iv = .int .i64 j ∧ n ≤ j ∧ Hid (NewF c (K.take j) f) ∧ Hid (DAt w.heap.size d M n f 0 wr) ∧ Hid (BWD w p c wr) ∧ Hid (HoldsI .i64 wr ka k (natsZ K))) (fun iv _ => k - (intOf iv).toNat)
  case atStart => exact ⟨0, 0, fun _ => none, by omega, rfl, by omega, Lib.hid (by rw [List.take_zero]; exact newF_nil c), D4, B4, KH⟩
  case round =>
    clear D4 B4 KH
    obtain ⟨j, n, f, hj, rfl, hn, hF, hD, hB, hK⟩ := hrel
    by_cases hlt : j < k
    · obtain ⟨qb, qo, rfl, hcc⟩ := hK.out.at (by omega)
      have x0 := hcc j hlt
      rw [natsZ_at] at x0
      obtain ⟨s, hs⟩ : ∃ s, K.getD j 0 = s := ⟨_, rfl⟩
      rw [hs] at x0
      have hsK : s ∈ K := by
        rw [← hs, List.getD_eq_getElem?_getD, List.getElem?_eq_getElem (by rw [HKL.out]; exact hlt)]; exact List.getElem_mem _
      have hsn := KM.out s hsK
      have HS := Lib.hid (show K.take (j + 1) = K.take j ++ [s] from by rw [take_nat (by rw [HKL.out]; exact hlt), hs])
      obtain ⟨I, hII⟩ : ∃ I, imgC c s = I := ⟨_, rfl⟩
      obtain ⟨m, hm⟩ : ∃ m, I.length = m := ⟨_, rfl⟩
      obtain ⟨m10, m52⟩ := GL.out s
      rw [hII, hm] at m10 m52
      have CI1 := Lib.hid (CI.out wr s m I hsn hII hm hB.out.1)
      have HM := Lib.hid hm
      have HI := Lib.hid hII
      have wf := wfI_of (x := (s : Int)) (by omega) (by have := KN.out; omega)
      have hI := hB.out.2
      unfold CfgIn at hI
      obtain ⟨i0, i1, i2, i3, i4, i5, i6, i7, i8, i9, i10, i11⟩ := hI
      have n1 : (0 : Int) ≤ (j : Int) := by omega
      have n2 : (j : Int) < (k : Int) := by omega
      clear hcc hs hsK hII hm
      go_wp2_with fail
      with_reducible refine CI1.out.mono ?_
      rintro e w5 ⟨a5, c5, rfl, o5, h5, hc5, hb5⟩
      have D5 := Lib.hid (hD.out.below hb5)
      have B5 := Lib.hid (bwd_carry hB.out hb5)
      have K5 := Lib.hid (hK.out.below hb5)
      have I5 := Lib.hid (show ImgK w5 ⟨a5, I, c5, a5, I, c5⟩ from ⟨HM.out.symm ▸ h5, HM.out.symm ▸ h5, HM.out.symm ▸ hc5, HM.out.symm ▸ hc5, HM.out.symm ▸ m10, HM.out.symm ▸ m52, rfl⟩)
      have A5 := Lib.hid (show apartD d M a5 from apartD_new hD.out (Nat.le_refl _) o5 (by omega))
      have c0 := D5.out.c0
      clear o5 h5 hc5 hb5 CI1 i0 i1 i2 i3 i4 i5 i6 i7 i8 i9 i10 i11 x0 hD hB hK
      have HV := Lib.hid (show diV ⟨a5, I, c5, a5, I, c5⟩ = .agg #[.slice a5 m c5, .slice a5 m c5] from by unfold diV; simp only [HM.out])
      go_wp2_with (at_mapUpdate; refine wpList_put_mv mapTd rfl (.tmp 46) (.tmp 47) (.tmp 50) rfl rfl D5.out.m (by unfold maxLen; omega) (s : Int) (diV ⟨a5, I, c5, a5, I, c5⟩) rfl HV.out.symm wf ?_; intro w6 m6 t6)
      have hn6 : (if (fV f (s : Int)).isSome then n else n + 1) ≤ n + 1 := by split <;> omega
      have D6 := Lib.hid (D5.out.put I5.out ⟨A5.out, A5.out⟩ m6 t6 (by omega))
      have T6 := TurnV.of_mapTurned (F := fun k => k = M) t6 rfl
      have B6 := Lib.hid (show BWD w p c w6 from ⟨(B5.out.1).grown t6.grown B5.out.1.size (fun k e => by cases e; exact D5.out.MB), CfgIn.of B5.out.2 (fun i => T6.cell (lt_of_cell B5.out.2.1) (fun e => MapV.no_cell D5.out.m 0 _ (e ▸ B5.out.2.1)))⟩)
      have K6 := Lib.hid (show HoldsI .i64 w6 (some ⟨qb, qo, none⟩) k (natsZ K) from by
        refine ⟨K5.out.1, fun h0 => ?_⟩
        obtain ⟨q, o, e, hc⟩ := K5.out.2 h0
        exact ⟨q, o, e, fun i hi => (T6.cell (lt_of_cell (hc i hi)) (fun e2 => MapV.no_cell D5.out.m _ _ (e2 ▸ hc i hi))).trans (hc i hi)⟩)
      have F6 := Lib.hid (newF_put hF.out s ⟨a5, I, c5, a5, I, c5⟩ HI.out.symm HI.out.symm)
      clear m6 t6 T6 D5 B5 K5 I5 A5 c0
      go_wp2_with fail
      go_roundw
      case rel => exact ⟨j + 1, _, _, by omega, by go_num, by omega, Lib.hid (by rw [HS.out]; exact F6.out), D6, B6, K6⟩
      case measure => simp [intOf] <;> omega
    · obtain rfl : j = k := by omega
      have FF := Lib.hid (show NewF c K f from by have := hF.out; rw [← HKL.out, List.take_length] at this; exact this)
      go_wp2_with fail
      go_ret2
      exact ⟨d, M, n, f, rfl, hD.out, FF.out, hB.out.1⟩
end Go.Proofs.Ytbbholdadgjelaa
/- disk: the small configuration; awake -/
namespace Go.Proofs.Ytbbholdadgjelaa
open Go.RowKit
set_option linter.unusedVariables false
set_option maxRecDepth 20000
abbrev dA : Tx := { data := #[97] }
abbrev dABC : Tx := { data := #[97, 98, 99] }
abbrev dB : Tx := { data := #[98] }
abbrev dE : Tx := { data := #[] }
def cfgS (B : Nat) : Cfg := ⟨some ⟨B + 1, 0, none⟩, 3, 3, some ⟨B + 1 + 1, 0, none⟩, 1, 1, 2, 1, 1, 1, 1, 1, 1, 1, 0, 8, [dA, dABC, dB], [(2, dE)]⟩
theorem good_dw : goodV [dA, dABC, dB] = 0 := by kernel_rfl
theorem good_dk : goodK [(2, dE)] = 0 := goodK_of (by decide) (by
  intro k hk
  simp only [List.mem_singleton] at hk
  subst hk
  simp [mayK, show lenS dE = 0 by decide]) (by simp [SortedK])
theorem may_cfgS (B : Nat) : (cfgS B).may = true := by
  simp [Cfg.may, cfgS, good_dw, good_dk]
  all_goals decide
theorem sliceS_small : sliceS [(2, dE)] [dA, dABC, dB] 0 = [dA, dB] := by kernel_rfl
theorem imgS_len (B : Nat) : (imgC (cfgS B) 0).length = 28 := by
  have e : imgC (cfgS B) 0 = sealB (bodyB (grS [dA, dB])) := by
    unfold imgC imgB
    rw [show (cfgS B).ks = [(2, dE)] from rfl, show (cfgS B).ws = [dA, dABC, dB] from rfl, sliceS_small]
  rw [e, sealB_len, show (bodyB (grS [dA, dB])).length = 24 by kernel_rfl]
theorem keepS : Pl.keep 2 1 2 1 = [0] := by decide
theorem holdsT_lit3 (w : World) (a b c : Tx) (e : TypeId) (fr : Nat × Nat) : HoldsT (w.alloc (.cells #[.string a, .string b, .string c] e fr)) (some ⟨w.heap.size, 0, none⟩) 3 [a, b, c] := by
  refine ⟨by simp [strsV], fun _ => ⟨w.heap.size, 0, rfl, fun i hi => ?_⟩⟩
  rw [Nat.zero_add, World.cell?_alloc_mark]
  have hc : i = 0 ∨ i = 1 ∨ i = 2 := by omega
  rcases hc with rfl | rfl | rfl <;> rfl
theorem holdsK_lit1 (w : World) (x : Int) (t : Tx) (e : TypeId) (fr : Nat × Nat) : HoldsK (w.alloc (.cells #[.int .i64 x, .string t] e fr)) (some ⟨w.heap.size, 0, none⟩) 1 [(x, t)] := by
  refine ⟨rfl, fun _ => ⟨w.heap.size, 0, rfl, fun i hi => ?_⟩⟩
  obtain rfl : i = 0 := by omega
  constructor <;> (rw [World.cell?_alloc_mark]; rfl)
def CfgP (w : World) (e : Ending) (w' : World) : Prop := ∃ B, e = .returned (.agg #[.slice (cfgS B).wa (cfgS B).wn (cfgS B).wc, .slice (cfgS B).ka (cfgS B).kn (cfgS B).kc, .int .i64 (cfgS B).W, .int .i64 (cfgS B).C, .int .i64 (cfgS B).S, .int .i64 (cfgS B).B, .int .i64 (cfgS B).L, .int .i64 (cfgS B).H, .int .i64 (cfgS B).F, .int .i64 (cfgS B).P, .int .i64 (cfgS B).J, .int .i64 (cfgS B).N]) ∧ CfgOk w' (cfgS B) ∧ Below w.heap.size w w'
theorem small_any (w : World) : Calls Try.prog 22 #[] w (CfgP w) := by
  go_enter Try.func22, Try.ntmps22
  go_wp2_with fail
  refine bodyPost_ret (v := .agg #[.slice (some ⟨w.heap.size + 1, 0, none⟩) 3 3, .slice (some ⟨w.heap.size + 1 + 1, 0, none⟩) 1 1, .int .i64 2, .int .i64 1, .int .i64 1, .int .i64 1, .int .i64 1, .int .i64 1, .int .i64 1, .int .i64 1, .int .i64 0, .int .i64 8]) (by simp [results, go_sem]) rfl ⟨w.heap.size, rfl, ?_, ?_⟩
  · generalize hw1 : w.alloc (.cells #[.slice (some ⟨w.heap.size + 1, 0, none⟩) 3 3, .slice (some ⟨w.heap.size + 1 + 1, 0, none⟩) 1 1, .int .i64 2, .int .i64 1, .int .i64 1, .int .i64 1, .int .i64 1, .int .i64 1, .int .i64 1, .int .i64 1, .int .i64 0, .int .i64 8] 25) = w1
    have s1 : w1.heap.size = w.heap.size + 1 := by rw [← hw1]; simp
    have hT := holdsT_lit3 w1 dA dABC dB 9 (0, 0)
    have s2 : (w1.alloc (.cells #[.string dA, .string dABC, .string dB] 9)).heap.size = w.heap.size + 1 + 1 := by simp [s1]
    have hK := holdsK_lit1 (w1.alloc (.cells #[.string dA, .string dABC, .string dB] 9)) 2 dE 56 (0, 0)
    rw [s1] at hT
    rw [s2] at hK
    exact ⟨hT.below (below_one _ _), fun e => (by cases e), Nat.le_refl _, (show (3 : Nat) ≤ 9223372036854775807 by decide), (show ∀ t ∈ [dA, dABC, dB], ByteArray.size t ≤ 9223372036854775807 by decide), hK, (show (1 : Nat) ≤ 9223372036854775807 by decide), by
      intro k hk
      simp only [cfgS, List.mem_singleton] at hk
      subst hk
      unfold KeyOk i64okK; decide⟩
  · repeat' (first | exact Below.refl _ _ | refine Below.alloc ?_ (by simp <;> omega) _)
/-- one life behind the other -/
def dLit (I : List Nat) : Prop := I.length = 28
set_option maxHeartbeats 3200000 in
theorem awakeD_any (w : World) : Calls Try.prog 8 #[] w fun e w' => e = .returned (.bool true) ∧ Below w.heap.size w w' := by
  have CN := Lib.hid (fun (w1 : World) (B : Nat) (h : CfgOk w1 (cfgS B)) => dnew_good (cfgS B) 1 2 1 [0] w1 h (may_cfgS B) rfl rfl (by decide) (show (1 : Int) ≤ 2 by decide) keepS)
  have w0 : wfI 0 := wfI_of (by decide) (by decide)
  go_enter Try.func8, Try.ntmps8
  go_wp2_with fail
  refine (small_any w).mono ?_
  rintro e w1 ⟨B, rfl, ok, hb⟩
  have B1 := Lib.hid hb
  have C1 := Lib.hid (CN.out w1 B ok)
  have IL := Lib.hid (imgS_len B)
  clear ok hb CN
  generalize cfgS B = c at *
  go_wp2_with fail
  with_reducible refine C1.out.mono ?_
  rintro e w2 ⟨d, M, n, f, rfl, hD, hF, hb⟩
  have B2 := Lib.hid (B1.out.trans (hb.mono B1.out.size))
  have S1 := Lib.hid B1.out.size
  obtain ⟨i, hi⟩ : ∃ i, f 0 = some i := Option.isSome_iff_exists.1 (hF.all 0 (by simp))
  obtain ⟨s, hs, hsK, ho, hss⟩ := hF.sub 0 i hi
  obtain rfl : s = 0 := by omega
  have HI := Lib.hid hi
  have HL := Lib.hid (show i.sb.length = 28 from by rw [hss, IL.out])
  have HE := Lib.hid (show decide (i.sb ≠ i.ob) = false from decide_eq_false (fun h => h (by rw [hss, ho])))
  have D2 := Lib.hid hD
  have CR := Lib.hid (dread_yes d 0 i w2 hD w0 hi)
  clear hD hF hb hi hs hsK ho hss C1
  unfold ReadD at CR
  rw [HL.out] at CR
  go_wp2_with fail
  with_reducible refine CR.out.mono ?_
  rintro e w3 ⟨a3, c3, rfl, -, -, hb⟩
  have D3 := Lib.hid (D2.out.below hb)
  have B3 := Lib.hid (B2.out.trans (hb.mono B2.out.size))
  have CB := Lib.hid (dborn_any d w3 D3.out (by omega))
  clear hb CR D2 B2
  go_wp2_with fail
  with_reducible refine CB.out.mono ?_
  rintro e w4 ⟨rfl, hD, hb⟩
  have D4 := Lib.hid hD
  have B4 := Lib.hid (B3.out.trans (hb.mono S1.out))
  have CB2 := Lib.hid (dborn_any d w4 D4.out (by omega))
  clear hD hb CB D3 B3
  go_wp2_with fail
  with_reducible refine CB2.out.mono ?_
  rintro e w5 ⟨rfl, hD, hb⟩
  have D5 := Lib.hid hD
  have B5 := Lib.hid (B4.out.trans (hb.mono S1.out))
  have CL := Lib.hid (dlife_any d w5 D5.out)
  have CO := Lib.hid (drotten_yes d 0 i false w5 D5.out w0 HI.out HE.out)
  clear hD hb CB2 D4 B4
  go_wp2_with fail
  with_reducible refine CL.out.mono ?_
  rintro e w6 ⟨rfl, rfl⟩
  go_wp2_with fail
  with_reducible refine CO.out.mono ?_
  rintro e w6 ⟨rfl, hb⟩
  have B6 := Lib.hid (B5.out.trans (hb.mono B5.out.size))
  clear hb CO CL
  go_wp2_with fail
  go_ret
  exact ⟨rfl, B6.out⟩
end Go.Proofs.Ytbbholdadgjelaa
/- disk: an act, opened -/
namespace Go.Proofs.Ytbbholdadgjelaa
open Go.ChangeShapes Go.WideShapes Go.ChangeAt Go.RowKit
set_option linter.unusedVariables false
set_option maxRecDepth 20000
structure DActV where
  q : Int
  s : Int
  a : Int
  x : Int
def DActOk (x : DActV) : Prop := wfI x.q ∧ wfI x.s ∧ wfI x.a ∧ wfI x.x
def dactCells (x : DActV) : List Value := [.int .i64 x.q, .int .i64 x.s, .int .i64 x.a, .int .i64 x.x]
theorem cells_dact : Try.prog.cellsOf 49 = 4 := by kernel_rfl
theorem cells_dint : Try.prog.cellsOf 3 = 1 := by kernel_rfl
theorem dact_of {H : Type} {enc : TypeId × Value → H} {w : World} {base : Nat} {spare : Nat → Bool} {held : Bool} {fuel : Nat} {cs : List Value} {x : DataW H × List MemPlace}
    (h : DataW.trod enc Try.prog w base spare held fuel 49 cs = some x) : ∃ x : DActV, DActOk x ∧ cs = dactCells x := by
  obtain ⟨hl, n, hf⟩ := struct_cells Try.underlying49 h
  rw [cells_dact] at hl
  obtain ⟨c0, c1, c2, c3, rfl⟩ : ∃ c0 c1 c2 c3, cs = [c0, c1, c2, c3] := by
    match cs, hl with
    | [a, b, c, d], _ => exact ⟨a, b, c, d, rfl⟩
  obtain ⟨y0, z0⟩ := hf 0 _ rfl
  obtain ⟨y1, z1⟩ := hf 1 _ rfl
  obtain ⟨y2, z2⟩ := hf 2 _ rfl
  obtain ⟨y3, z3⟩ := hf 3 _ rfl
  obtain ⟨k0, h0, _, b0⟩ := DataW.trod_int Try.underlying3 z0
  obtain ⟨k1, h1, _, b1⟩ := DataW.trod_int Try.underlying3 z1
  obtain ⟨k2, h2, _, b2⟩ := DataW.trod_int Try.underlying3 z2
  obtain ⟨k3, h3, _, b3⟩ := DataW.trod_int Try.underlying3 z3
  simp [cells_dint] at h0 h1 h2 h3
  subst h0 h1 h2 h3
  exact ⟨⟨k0, k1, k2, k3⟩, ⟨b0, b1, b2, b3⟩, rfl⟩
theorem open_dact {H : Type} {enc : TypeId × Value → H} {w : World} {base : Nat} {spare : Nat → Bool} {held : Bool} {r : Reach} {b0 : Nat} {v : Value} {d : DataW H} {p : List MemPlace}
    (hv : Value.okWide Try.prog w r b0 49 v) (h : DataW.Trod enc Try.prog w base spare held 49 v d p) :
    ∃ x : DActV, DActOk x ∧ v = .agg #[.int .i64 x.q, .int .i64 x.s, .int .i64 x.a, .int .i64 x.x] := by
  obtain ⟨cs, rfl, hsz⟩ := okWide_struct Try.underlying49 hv
  obtain ⟨fuel, hf⟩ := h
  obtain ⟨x, hx, h1⟩ := dact_of hf
  refine ⟨x, hx, ?_⟩
  congr 1
  apply Array.toList_inj.1
  simpa [Value.cells, dactCells] using h1
end Go.Proofs.Ytbbholdadgjelaa
/- pack: an image tells its words -/
namespace Go.Proofs.Ytbbholdadgjelaa
open Go.RowKit
set_option linter.unusedVariables false
set_option maxRecDepth 20000
theorem gWords_c9 (ts : List Tx) (m : Nat) {st : List GN} (G : GOk st ts) (hl : ts.length ≤ 60) (hm : ts.length = m) {w0 : World} {g : Nat} {S : Nat → Prop} (w : World) (c : CtxG w0 w g st S) :
    Calls Try.prog 18 #[.pointer (some ⟨g, 0, none⟩)] w fun e w' => ∃ a' c', e = .returned (.slice a' m c') ∧ HoldsT w' a' m ts ∧ Below w.heap.size w w' := by
  subst hm
  have h := gWords_any g st ts G S w c.G
  rw [words_all hl] at h
  refine h.mono ?_
  rintro e w' ⟨a, c2, rfl, ho, hb⟩
  exact ⟨a, c2, rfl, HoldsT.own ho, hb⟩
theorem sameT_yes9 (a1 a2 : Option Addr) (n c1 c2 : Nat) (z : List Tx) (w : World) (h1 : HoldsT w a1 n z) (h2 : HoldsT w a2 n z) (hl : n ≤ 1048576) :
    Calls Try.prog 17 #[.slice a1 n c1, .slice a2 n c2] w fun e w' => e = .returned (.bool true) ∧ Below w.heap.size w w' := sameTexts_yes a1 a2 n c1 c2 z w h1 h2 (by omega)
theorem sameB_yes9 (a1 a2 : Option Addr) (n c1 c2 : Nat) (z : List Nat) (w : World) (h1 : HoldsB w a1 n z) (h2 : HoldsB w a2 n z) (hl : n ≤ 1048576) :
    Calls Try.prog 23 #[.slice a1 n c1, .slice a2 n c2] w fun e w' => e = .returned (.bool true) ∧ Below w.heap.size w w' := by
  have := sameB_any a1 a2 n c1 n c2 z z w h1 h2 (by omega) (by omega)
  rw [decide_eq_true rfl] at this
  refine this.mono ?_
  rintro e w' ⟨rfl, m, rfl⟩
  exact ⟨rfl, below_drewN _ _⟩
end Go.Proofs.Ytbbholdadgjelaa
/- disk: a byte turned; what lies beside a map that turns -/
namespace Go.Proofs.Ytbbholdadgjelaa
open Go.RowKit
set_option linter.unusedVariables false
set_option maxRecDepth 20000
theorem turned_one (I : List Nat) (at_ x : Int) (j : Nat) (hj : j < I.length) : ((((Dm.turned I at_ x).getD j 0 : Nat) : Int) != ((I.getD j 0 : Nat) : Int)) = ((j : Int) == (Dm.k I.length at_ : Int)) := by
  have hm := Dm.m_bd x
  by_cases h : j = Dm.k I.length at_
  · have e1 : (Dm.turned I at_ x).getD j 0 = I.getD j 0 ^^^ Dm.m x := by
      unfold Dm.turned
      rw [List.getD_eq_getElem?_getD, h, List.getElem?_set_self (by rw [← h]; exact hj)]; rfl
    have e2 : I.getD j 0 ^^^ Dm.m x ≠ I.getD j 0 := fun e => by
      have h2 : I.getD j 0 ^^^ (I.getD j 0 ^^^ Dm.m x) = I.getD j 0 ^^^ I.getD j 0 := by rw [e]
      rw [← Nat.xor_assoc, Nat.xor_self, Nat.zero_xor] at h2
      omega
    have e3 : ((((Dm.turned I at_ x).getD j 0 : Nat) : Int) != ((I.getD j 0 : Nat) : Int)) = true := by rw [bne_iff_ne, e1]; omega
    rw [e3]; symm; rw [beq_iff_eq]; omega
  · have e1 : (Dm.turned I at_ x).getD j 0 = I.getD j 0 := by
      unfold Dm.turned
      rw [List.getD_eq_getElem?_getD, List.getElem?_set_ne (fun e => h e.symm), ← List.getD_eq_getElem?_getD]
    rw [e1]
    have e4 : ((j : Int) == (Dm.k I.length at_ : Int)) = false := by rw [beq_eq_false_iff_ne]; omega
    rw [e4]; simp
theorem turned_lt (I : List Nat) (hI : ∀ b ∈ I, b < 256) (at_ x : Int) (h0 : 0 < I.length) : ∀ b ∈ Dm.turned I at_ x, b < 256 := fun b hb => by
  unfold Dm.turned at hb
  rcases List.mem_or_eq_of_mem_set hb with hb | rfl
  · exact hI b hb
  · refine Nat.xor_lt_two_pow (n := 8) ?_ (by have := Dm.m_bd x; omega)
    have hkk := Dm.k_lt I.length at_ h0
    rw [List.getD_eq_getElem?_getD, List.getElem?_eq_getElem hkk]
    exact hI _ (List.getElem_mem _)
theorem turned_other (I : List Nat) (at_ x : Int) (h0 : 0 < I.length) : decide (Dm.turned I at_ x ≠ I) = true := decide_eq_true fun e => by
  have h1 := turned_one I at_ x (Dm.k I.length at_) (Dm.k_lt I.length at_ h0)
  rw [e] at h1
  simp at h1
theorem holdsI_turn {k : IntKind} {w w' : World} {a : Option Addr} {n : Nat} {zs : List Int} {S : Nat → Prop} (h : HoldsI k w a n zs) (t : Turn S w w') (hS : ∀ q o, a = some ⟨q, o, none⟩ → ¬ S q) : HoldsI k w' a n zs := by
  refine ⟨h.1, fun h0 => ?_⟩
  obtain ⟨q, o, ha, hc⟩ := h.2 h0
  exact ⟨q, o, ha, fun i hi => (t.cell (lt_of_cell (hc i hi)) (hS q o ha)).trans (hc i hi)⟩
theorem bwd_carryB {w0 w w' : World} {p B : Nat} {c : Cfg} (h : BWD w0 p c w) (hb : Below B w w') (hp : p < B) (h0 : w0.heap.size ≤ B) : BWD w0 p c w' :=
  ⟨h.1.trans (hb.mono h0), h.2.of fun i => hb.cell (p := ⟨p, i, none⟩) hp⟩
theorem newF_at {c : Cfg} {K : List Nat} {f : Int → Option DI} (h : NewF c K f) {s : Nat} (hs : s ∈ K) : ∃ i, f (s : Int) = some i ∧ i.ob = imgC c s ∧ i.sb = imgC c s := by
  obtain ⟨i, hi⟩ := Option.isSome_iff_exists.1 (h.all s hs)
  obtain ⟨t, e, -, h1, h2⟩ := h.sub _ i hi
  have e2 : s = t := by omega
  subst e2
  exact ⟨i, hi, h1, h2⟩
theorem getD_mem {K : List Nat} {j : Nat} (h : j < K.length) : K.getD j 0 ∈ K := by
  rw [List.getD_eq_getElem?_getD, List.getElem?_eq_getElem h]; exact List.getElem_mem _
theorem dr_carry {w0 w w' : World} {p g q o : Nat} {v : Value} {c : Cfg} {st : List GN} {S : Nat → Prop} (h : ((CtxG w0 w g st S) ∧ w.cell? ⟨q, o, none⟩ = some v) ∧ CfgIn w p c) (hb : Below w.heap.size w w') : ((CtxG w0 w' g st S) ∧ w'.cell? ⟨q, o, none⟩ = some v) ∧ CfgIn w' p c :=
  ⟨⟨h.1.1.more hb, (hb.cell (p := ⟨q, o, none⟩) (lt_of_cell h.1.2)).trans h.1.2⟩, h.2.below hb⟩
/-- a configuration's box, a disk, its row of numbers -/
def RB (w0 : World) (p : Nat) (c : Cfg) (B d M n : Nat) (f : Int → Option DI) (q k : Nat) (K : List Nat) (w : World) : Prop := BWD w0 p c w ∧ DAt B d M n f 0 w ∧ HoldsI .i64 w (some ⟨q, 0, none⟩) k (natsZ K)
theorem RB.below {w0 w w' : World} {p B d M n q k : Nat} {c : Cfg} {f : Int → Option DI} {K : List Nat} (h : RB w0 p c B d M n f q k K w) (hb : Below w.heap.size w w') : RB w0 p c B d M n f q k K w' := ⟨bwd_carry h.1 hb, h.2.1.below hb, h.2.2.below hb⟩
theorem RB.turn {w0 w w' : World} {p B d M n q k : Nat} {c : Cfg} {f f' : Int → Option DI} {K : List Nat} (h : RB w0 p c B d M n f q k K w) (hb : Below B w w') (t : Turn (fun k => k = M) w w') (hd : DAt B d M n f' 0 w') (hp : w0.heap.size ≤ B ∧ p < B) (hq : ∀ q2 o, (some ⟨q, 0, none⟩ : Option Addr) = some ⟨q2, o, none⟩ → ¬ q2 = M) : RB w0 p c B d M n f' q k K w' :=
  ⟨bwd_carryB h.1 hb hp.2 hp.1, hd, holdsI_turn h.2.2 t hq⟩
end Go.Proofs.Ytbbholdadgjelaa
/- a number, from 0 to below n -/
namespace Go.Proofs.Ytbbholdadgjelaa
open Go.RowKit
set_option linter.unusedVariables false
set_option maxRecDepth 20000
def lowV (x n : Int) : Int := IntKind.u64.wrap x % n
theorem low_bd (x n : Int) (h : 0 < n) : 0 ≤ lowV x n ∧ lowV x n < n := ⟨Int.emod_nonneg _ (by omega), Int.emod_lt_of_pos _ h⟩
theorem u64_in (n : Int) (h : 0 ≤ n) (h2 : n < 18446744073709551616) : IntKind.u64.wrap n = n := by
  simp only [IntKind.wrap, IntKind.signed, IntKind.bits]; simp; omega
theorem u64_bdL (d : Int) : 0 ≤ IntKind.u64.wrap d ∧ IntKind.u64.wrap d < 18446744073709551616 := by
  simp only [IntKind.wrap, IntKind.signed, IntKind.bits]; simp; omega
theorem low_any (x n : Int) (h : 1 ≤ n) (h2 : n < 4611686018427387904) (w : World) :
    Calls Try.prog 9 #[.int .i64 x, .int .i64 n] w fun e w' => e = .returned (.int .i64 (lowV x n)) ∧ w = w' := by
  have hb := low_bd x n (by omega)
  have hw := u64_in n (by omega) (by omega)
  have hx := u64_bdL x
  go_enter Try.func9, Try.ntmps9
  go_wp2
  go_ret
  exact ⟨ret_int (by unfold lowV at *; rw [IntWalk.wrap64_in _ ⟨by omega, by omega⟩]), rfl⟩
end Go.Proofs.Ytbbholdadgjelaa
/- a slice in a cell of an argument, opened -/
namespace Go.Proofs.Ytbbholdadgjelaa
open Go.ChangeShapes Go.WideShapes Go.ChangeAt Go.RowKit Go.Deep
set_option linter.unusedVariables false
set_option maxRecDepth 20000
theorem open_rows_cell {H : Type} {enc : TypeId × Value → H} {P : Program} {W : World} {t e : TypeId} {k : Nat} {c : Value} {fuel : Nat} {y : DataW H × List MemPlace}
    (ht : P.underlying t = some (.slice e)) (hc : P.cellsOf e = k) (hk : 0 < k) (good : List Value → Prop)
    (hgood : ∀ m cs y, DataW.trod enc P W 0 (fun _ => true) true m e cs = some y → good cs)
    (hf : DataW.trod enc P W 0 (fun _ => true) true fuel t [c] = some y) :
    ∃ (a : Option Addr) (n cap : Nat) (R : Nat → List Value), c = .slice a n cap ∧ (a = none → n = 0 ∧ cap = 0) ∧ n ≤ cap ∧ cap ≤ maxLen ∧ (∀ i, i < n → good (R i)) ∧
      (0 < n → ∃ b o, a = some ⟨b, o, none⟩ ∧ ∀ i, i < n → ∀ j, j < k → W.cell? ⟨b, o + i * k + j, none⟩ = (R i)[j]?) := by
  rcases open_slice ht hf with ⟨hcs, _⟩ | ⟨x, len, cap, m, n, D, Pl, hcs, _, hl, hm, hmm, _, hx⟩
  · obtain rfl : c = .slice none 0 0 := by simpa using hcs
    exact ⟨none, 0, 0, fun _ => [], rfl, fun _ => ⟨rfl, rfl⟩, Nat.le_refl _, by unfold maxLen; omega, by simp, by simp⟩
  · obtain rfl : c = .slice (some x) len cap := by simpa using hcs
    simp at hmm
    subst hmm
    rw [hc] at hx
    have hR : ∀ i, ∃ cs' : List Value, i < m → W.cells? 0 (x.add (i * k)) k = some cs' ∧ good cs' := fun i => by
      by_cases hi : i < m
      · obtain ⟨cs', h1, h2⟩ := hx i hi
        exact ⟨cs', fun _ => ⟨h1, hgood _ _ _ h2⟩⟩
      · exact ⟨[], fun h => absurd h hi⟩
    refine ⟨some x, len, m, fun i => (hR i).choose, rfl, (fun h => by cases h), hl, hm, fun i hi => ((hR i).choose_spec (by omega)).2, fun h0 => ?_⟩
    have h1 := fun i (hi : i < m) => (World.cells?_some ((hR i).choose_spec hi).1)
    obtain ⟨b, off, spot⟩ := x
    have hspot : spot = none := by
      have h2 := (h1 0 (by omega)).2.2 0 hk
      have h3 := (h1 0 (by omega)).2.1
      have h4 : ((hR 0).choose)[0]? = some (((hR 0).choose)[0]'(by omega)) := List.getElem?_eq_getElem _
      rw [h4] at h2
      simpa [Addr.add] using World.cell?_spot h2
    subst hspot
    refine ⟨b, off, rfl, fun i hi j hj => ?_⟩
    have h2 := (h1 i (by omega)).2.2 j hj
    rw [← h2, Go.WideShapes.add_plain, Go.WideShapes.add_plain]
end Go.Proofs.Ytbbholdadgjelaa
/- a slice in a field of a struct that is an argument, opened -/
namespace Go.Proofs.Ytbbholdadgjelaa
open Go.ChangeShapes Go.WideShapes Go.ChangeAt Go.RowKit Go.Deep
set_option linter.unusedVariables false
set_option maxRecDepth 20000
theorem open_pairs_cell {H : Type} {enc : TypeId × Value → H} {W : World} {c : Value} {fuel : Nat} {y : DataW H × List MemPlace} {t e : TypeId} {fs : Array Field} {f0 f1 : Field}
    (ht : Try.prog.underlying t = some (.slice e)) (he : Try.prog.underlying e = some (.struct fs)) (hc : Try.prog.cellsOf e = 2) (hf0 : fs[0]? = some f0) (hf1 : fs[1]? = some f1) (g0 : f0.type = 3 ∧ f0.offset = 0) (g1 : f1.type = 9 ∧ f1.offset = 1)
    (hf : DataW.trod enc Try.prog W 0 (fun _ => true) true fuel t [c] = some y) :
    ∃ a n cap ks, c = .slice a n cap ∧ HoldsK W a n ks ∧ (a = none → n = 0 ∧ cap = 0) ∧ n ≤ cap ∧ n ≤ 9223372036854775807 ∧ ∀ k ∈ ks, KeyOk k := by
  obtain ⟨a, n, cap, R, rfl, hnil, h1, h2, hg, hc⟩ := open_rows_cell ht hc (by omega) (fun cs => ∃ k : KV, KeyOk k ∧ cs = [.int .i64 k.1, .string k.2]) (fun _ _ _ h => pair_of he hc hf0 hf1 g0 g1 h) hf
  have hx : ∀ i, ∃ k : KV, i < n → KeyOk k ∧ R i = [.int .i64 k.1, .string k.2] := fun i => by
    by_cases hi : i < n
    · obtain ⟨x, h3⟩ := hg i hi
      exact ⟨x, fun _ => h3⟩
    · exact ⟨k0, fun h => absurd h hi⟩
  have hget : ∀ i, i < n → ((List.range n).map fun i => (hx i).choose).getD i k0 = (hx i).choose := fun i hi => by simp [List.getD_eq_getElem?_getD, hi]
  refine ⟨a, n, cap, (List.range n).map fun i => (hx i).choose, rfl, ⟨by simp, fun h0 => ?_⟩, hnil, h1, by unfold maxLen at h2; omega, fun k hk => ?_⟩
  · obtain ⟨b, o, ha, hcell⟩ := hc h0
    refine ⟨b, o, ha, fun i hi => ?_⟩
    have e := ((hx i).choose_spec hi).2
    have c0 := hcell i hi 0 (by omega)
    have c1 := hcell i hi 1 (by omega)
    rw [e] at c0 c1
    rw [hget i hi]
    exact ⟨by simpa using c0, by simpa using c1⟩
  · obtain ⟨i, hi, rfl⟩ := List.mem_map.1 hk
    exact ((hx i).choose_spec (by simpa using hi)).1
end Go.Proofs.Ytbbholdadgjelaa
/- a configuration as argument, opened -/
namespace Go.Proofs.Ytbbholdadgjelaa
open Go.ChangeShapes Go.WideShapes Go.ChangeAt Go.RowKit
set_option linter.unusedVariables false
set_option maxRecDepth 20000
/-- A struct by value, opened: its cells, and of each field its own reading. -/
theorem open_aggs2 {H : Type} {enc : TypeId × Value → H} {P : Program} {w : World} {base : Nat} {spare : Nat → Bool} {held : Bool} {r : Reach} {b0 : Nat} {t : TypeId} {fs : Array Field} {v : Value} {d : DataW H} {p : List MemPlace}
    (hs : P.underlying t = some (.struct fs)) (hv : Value.okWide P w r b0 t v) (h : DataW.Trod enc P w base spare held t v d p) :
    ∃ cs : Array Value, v = .agg cs ∧ cs.size = P.cellsOf t ∧ ∃ n, ∀ (i : Nat) (f : Field), fs[i]? = some f → ∃ y, DataW.trod enc P w base spare held n f.type ((cs.toList.drop f.offset).take (P.cellsOf f.type)) = some y := by
  obtain ⟨cs, rfl, hsz⟩ := okWide_struct hs hv
  obtain ⟨fuel, hf⟩ := h
  obtain ⟨xs, n, _, _, hl, hlen, hx⟩ := DataW.trod_struct hs hf
  refine ⟨cs, rfl, hsz, n, fun i f hi => ?_⟩
  have h1 := hx i f hi
  have hlt : i < xs.length := by
    rw [hlen]
    rcases Nat.lt_or_ge i fs.size with h' | h'
    · exact h'
    · rw [Array.getElem?_eq_none h'] at hi; cases hi
  rw [List.getElem?_eq_getElem hlt] at h1
  exact ⟨_, by simpa [Value.cells] using h1⟩
theorem array12c {α : Type} {cs : Array α} (h : cs.size = 12) : ∃ c0 c1 c2 c3 c4 c5 c6 c7 c8 c9 c10 c11, cs = #[c0, c1, c2, c3, c4, c5, c6, c7, c8, c9, c10, c11] := by
  obtain ⟨l⟩ := cs
  match l, h with
  | [c0, c1, c2, c3, c4, c5, c6, c7, c8, c9, c10, c11], _ => exact ⟨c0, c1, c2, c3, c4, c5, c6, c7, c8, c9, c10, c11, rfl⟩
theorem open_texts_cell {H : Type} {enc : TypeId × Value → H} {W : World} {v : Value} {fuel : Nat} {y : DataW H × List MemPlace}
    (hf : DataW.trod enc Try.prog W 0 (fun _ => true) true fuel 22 [v] = some y) :
    ∃ a n cap ts, v = .slice a n cap ∧ HoldsT W a n ts ∧ (a = none → n = 0 ∧ cap = 0) ∧ n ≤ cap ∧ n ≤ 9223372036854775807 ∧ ∀ t ∈ ts, t.size ≤ 9223372036854775807 := by
  rcases open_strings Try.underlying22 Try.underlying9 Try.cellsStr hf with ⟨hcs, _⟩ | ⟨x, l, c, ss, hcs, _, hl, hm, hz, _, hcell, hsz⟩
  · obtain rfl : v = .slice none 0 0 := by simpa using hcs
    exact ⟨none, 0, 0, [], rfl, HoldsT.nil _ _, fun _ => ⟨rfl, rfl⟩, Nat.le_refl _, by omega, by simp⟩
  · obtain rfl : v = .slice (some x) l c := by simpa using hcs
    have hzc : ss.length = c := by simpa using hz
    refine ⟨some x, l, c, ss.take l, rfl, ?_, (fun h => by cases h), hl, by unfold maxLen at hm; omega, fun t ht => by have := hsz t (List.mem_of_mem_take ht); unfold maxLen at this; omega⟩
    refine ⟨by simp [strsV]; omega, fun h0 => ?_⟩
    obtain ⟨b, off, spot⟩ := x
    have hspot : spot = none := by simpa [Addr.add] using World.cell?_spot (hcell 0 (by omega))
    subst hspot
    refine ⟨b, off, rfl, fun i hi => ?_⟩
    rw [← Go.WideShapes.add_plain, hcell i (by omega), getD_map_str _ i (by simp; omega)]
    congr 2
    simp only [List.getD_eq_getElem?_getD, List.getElem?_take]
    rw [if_pos hi]
theorem cells_cfg : Try.prog.cellsOf 25 = 12 := by kernel_rfl
theorem cells_ci : Try.prog.cellsOf 3 = 1 := by kernel_rfl
theorem cells_ct : Try.prog.cellsOf 22 = 1 := by kernel_rfl
theorem cells_ck : Try.prog.cellsOf 23 = 1 := by kernel_rfl
theorem cfg_int {H : Type} {enc : TypeId × Value → H} {W : World} {c : Value} {fuel : Nat} {y : DataW H × List MemPlace} (hy : DataW.trod enc Try.prog W 0 (fun _ => true) true fuel 3 [c] = some y) : ∃ k : Int, c = .int .i64 k := by
  obtain ⟨k, hk, _⟩ := DataW.trod_int Try.underlying3 hy
  exact ⟨k, by simpa using hk⟩
set_option maxRecDepth 100000 in
theorem open_cfg {H : Type} {enc : TypeId × Value → H} {W : World} {base : Nat} {v : Value} {d : DataW H} {p : List MemPlace}
    (hv : Value.okWide Try.prog W .any base 25 v) (h : DataW.Trod enc Try.prog W 0 (fun _ => true) true 25 v d p) :
    ∃ c : Cfg, v = .agg #[.slice c.wa c.wn c.wc, .slice c.ka c.kn c.kc, .int .i64 c.W, .int .i64 c.C, .int .i64 c.S, .int .i64 c.B, .int .i64 c.L, .int .i64 c.H, .int .i64 c.F, .int .i64 c.P, .int .i64 c.J, .int .i64 c.N] ∧ CfgOk W c := by
  obtain ⟨cs, rfl, hsz, n, hf⟩ := open_aggs2 Try.underlying25 hv h
  obtain ⟨c0, c1, c2, c3, c4, c5, c6, c7, c8, c9, c10, c11, rfl⟩ := array12c (hsz.trans cells_cfg)
  obtain ⟨y0, z0⟩ := hf 0 _ rfl
  obtain ⟨wa, wn, wc, ws, rfl, q1, q2, q3, q4, q5⟩ := open_texts_cell (v := c0) (by simpa [cells_ct] using z0)
  obtain ⟨y1, z1⟩ := hf 1 _ rfl
  obtain ⟨ka, kn, kc, ks, rfl, r1, r2, r3, r4, r5⟩ := open_pairs_cell (c := c1) Try.underlying23 Try.underlying56 (by kernel_rfl) rfl rfl ⟨rfl, rfl⟩ ⟨rfl, rfl⟩ (by simpa [cells_ck] using z1)
  obtain ⟨y2, z2⟩ := hf 2 _ rfl
  obtain ⟨i2, rfl⟩ := cfg_int (c := c2) (by simpa [cells_ci] using z2)
  obtain ⟨y3, z3⟩ := hf 3 _ rfl
  obtain ⟨i3, rfl⟩ := cfg_int (c := c3) (by simpa [cells_ci] using z3)
  obtain ⟨y4, z4⟩ := hf 4 _ rfl
  obtain ⟨i4, rfl⟩ := cfg_int (c := c4) (by simpa [cells_ci] using z4)
  obtain ⟨y5, z5⟩ := hf 5 _ rfl
  obtain ⟨i5, rfl⟩ := cfg_int (c := c5) (by simpa [cells_ci] using z5)
  obtain ⟨y6, z6⟩ := hf 6 _ rfl
  obtain ⟨i6, rfl⟩ := cfg_int (c := c6) (by simpa [cells_ci] using z6)
  obtain ⟨y7, z7⟩ := hf 7 _ rfl
  obtain ⟨i7, rfl⟩ := cfg_int (c := c7) (by simpa [cells_ci] using z7)
  obtain ⟨y8, z8⟩ := hf 8 _ rfl
  obtain ⟨i8, rfl⟩ := cfg_int (c := c8) (by simpa [cells_ci] using z8)
  obtain ⟨y9, z9⟩ := hf 9 _ rfl
  obtain ⟨i9, rfl⟩ := cfg_int (c := c9) (by simpa [cells_ci] using z9)
  obtain ⟨y10, z10⟩ := hf 10 _ rfl
  obtain ⟨i10, rfl⟩ := cfg_int (c := c10) (by simpa [cells_ci] using z10)
  obtain ⟨y11, z11⟩ := hf 11 _ rfl
  obtain ⟨i11, rfl⟩ := cfg_int (c := c11) (by simpa [cells_ci] using z11)
  exact ⟨⟨wa, wn, wc, ka, kn, kc, i2, i3, i4, i5, i6, i7, i8, i9, i10, i11, ws, ks⟩, rfl, q1, q2, q3, q4, q5, r1, r4, r5⟩
end Go.Proofs.Ytbbholdadgjelaa
/- pack: an image that was turned, cut, or has a byte more (plain) -/
namespace Go.Proofs.Ytbbholdadgjelaa
open Go.RowKit
set_option linter.unusedVariables false
set_option maxRecDepth 20000
theorem sum_one {P S : List Nat} {b c : Nat} (hP : ∀ x ∈ P, x < 256) (hS : ∀ x ∈ S, x < 256) (hb : b < 256) (hc : c < 256) (hne : b ≠ c) : Crc.sum (P ++ b :: S) ≠ Crc.sum (P ++ c :: S) := by
  intro e
  have hR := Crc.reg_lt P hP (4294967295 - 0) (by decide)
  unfold Crc.sum Crc.add at e
  have cons : ∀ (r x : Nat) (l : List Nat), Crc.reg r (x :: l) = Crc.reg (Crc.byteStep r x) l := fun r x l => rfl
  rw [Crc.reg_append, Crc.reg_append, cons, cons] at e
  have h1 := Crc.byteStep_lt hR hb
  have h2 := Crc.byteStep_lt hR hc
  have h3 := Crc.reg_lt S hS _ h1
  have h4 := Crc.reg_lt S hS _ h2
  have h5 := Crc.reg_inj S hS h1 h2 (by omega)
  have h6 := Crc.stN_inj (k := 8) (Crc.xor_lt32 hR (by omega)) (Crc.xor_lt32 hR (by omega)) h5
  have h7 : ∀ r x : Nat, r ^^^ (r ^^^ x) = x := fun r x => by rw [← Nat.xor_assoc, Nat.xor_self, Nat.zero_xor]
  have h8 := congrArg (fun z => Crc.reg (4294967295 - 0) P ^^^ z) h6
  simp only [h7] at h8
  exact hne h8
theorem split1 {l : List Nat} {k : Nat} (h : k < l.length) (v : Nat) : l = l.take k ++ l.getD k 0 :: l.drop (k + 1) ∧ l.set k v = l.take k ++ v :: l.drop (k + 1) := by
  refine ⟨?_, List.set_eq_take_append_cons_drop.trans (if_pos h)⟩
  conv => lhs; rw [← List.take_append_drop k l]
  rw [List.drop_eq_getElem_cons h, List.getD_eq_getElem?_getD, List.getElem?_eq_getElem h]; rfl
theorem num4_inj {l m : List Nat} (h1 : l.length = 4) (h2 : m.length = 4) (hl : ∀ x ∈ l, x < 256) (hm : ∀ x ∈ m, x < 256) (h : Cod.numOf l = Cod.numOf m) : l = m := by
  match l, m, h1, h2 with
  | [a, b, c, d], [a', b', c', d'], _, _ =>
    simp only [Cod.numOf, List.foldl_cons, List.foldl_nil] at h
    have a1 := hl a (by simp); have b1 := hl b (by simp); have c1 := hl c (by simp); have d1 := hl d (by simp)
    have a2 := hm a' (by simp); have b2 := hm b' (by simp); have c2 := hm c' (by simp); have d2 := hm d' (by simp)
    obtain rfl : a = a' := by omega
    obtain rfl : b = b' := by omega
    obtain rfl : c = c' := by omega
    obtain rfl : d = d' := by omega
    rfl
/-- sealed bytes of which one is another one are not well sealed -/
theorem sealB_turned {bs : List Nat} (hb : ∀ x ∈ bs, x < 256) (k v : Nat) (hk : k < (sealB bs).length) (hv : v < 256) (hne : v ≠ (sealB bs).getD k 0) : openB ((sealB bs).set k v) = false := by
  have hl := sealB_len bs
  have hlt := sealB_lt bs hb
  have c4 := Cod.bytesOf_length (Crc.sum bs) 4
  have cl := Cod.bytesOf_lt (Crc.sum bs) 4
  have cn : Cod.numOf (Cod.bytesOf (Crc.sum bs) 4) = Crc.sum bs := by
    rw [Cod.numOf_bytesOf]; exact Nat.mod_eq_of_lt (sum_lt9 _)
  unfold openB
  rw [List.length_set, hl, Nat.add_sub_cancel]
  rw [Bool.and_eq_false_iff]
  right
  refine decide_eq_false fun e => ?_
  unfold numN at e
  by_cases h1 : k < bs.length
  · have e1 : (sealB bs).set k v = bs.set k v ++ Cod.bytesOf (Crc.sum bs) 4 := by
      unfold sealB; exact List.set_append_left _ _ h1
    have ls : (bs.set k v).length = bs.length := List.length_set
    rw [e1, List.drop_left' ls, List.take_left' ls, List.take_of_length_le (by omega), cn] at e
    have g : (sealB bs).getD k 0 = bs.getD k 0 := by
      unfold sealB; rw [List.getD_eq_getElem?_getD, List.getElem?_append_left h1, ← List.getD_eq_getElem?_getD]
    obtain ⟨s1, s2⟩ := split1 h1 v
    rw [s2] at e
    conv at e => lhs; rw [s1]
    refine sum_one (fun x hx => hb x (List.mem_of_mem_take hx)) (fun x hx => hb x (List.mem_of_mem_drop hx)) ?_ hv ?_ e
    · rw [List.getD_eq_getElem?_getD, List.getElem?_eq_getElem h1]; exact hb _ (List.getElem_mem _)
    · rw [← g]; exact fun h => hne h.symm
  · have e1 : (sealB bs).set k v = bs ++ (Cod.bytesOf (Crc.sum bs) 4).set (k - bs.length) v := by
      unfold sealB; exact List.set_append_right _ _ (by omega)
    have k4 : k - bs.length < 4 := by omega
    rw [e1, List.drop_left' rfl, List.take_left' rfl, List.take_of_length_le (by rw [List.length_set]; omega)] at e
    have h2 := num4_inj (l := (Cod.bytesOf (Crc.sum bs) 4).set (k - bs.length) v) (m := Cod.bytesOf (Crc.sum bs) 4) (by rw [List.length_set, c4]) c4 (fun x hx => by
      rcases List.mem_or_eq_of_mem_set hx with hx | rfl
      · exact cl x hx
      · exact hv) cl (by rw [e, cn])
    have h3 := congrArg (fun l => l.getD (k - bs.length) 0) h2
    simp only [List.getD_eq_getElem?_getD] at h3
    rw [List.getElem?_set_self (by omega), Option.getD_some] at h3
    have g : (sealB bs).getD k 0 = (Cod.bytesOf (Crc.sum bs) 4)[k - bs.length]?.getD 0 := by
      unfold sealB; rw [List.getD_eq_getElem?_getD, List.getElem?_append_right (by omega)]
    exact hne (by rw [g]; exact h3)
theorem xor_other {y m : Nat} (h1 : 1 ≤ m) : y ^^^ m ≠ y := fun e => by
  have h2 : y ^^^ (y ^^^ m) = y ^^^ y := by rw [e]
  rw [← Nat.xor_assoc, Nat.xor_self, Nat.zero_xor] at h2
  omega
theorem turned_shut (st : List GN) (at_ x : Int) : openB (Dm.turned (imgB st) at_ x) = false := by
  have hl : 4 ≤ (imgB st).length := by unfold imgB; rw [sealB_len]; omega
  have hk := Dm.k_lt (imgB st).length at_ (by omega)
  have hm := Dm.m_bd x
  have hy : (imgB st).getD (Dm.k (imgB st).length at_) 0 < 256 := by
    rw [List.getD_eq_getElem?_getD, List.getElem?_eq_getElem hk]
    exact sealB_lt _ (bodyB_lt st) _ (List.getElem_mem _)
  unfold Dm.turned
  exact sealB_turned (bodyB_lt st) _ _ hk (Nat.xor_lt_two_pow (n := 8) hy (by omega)) (xor_other hm.1)
theorem grS_small {ts : List Tx} (h : goodV ts = 0) : (grS ts).length < 65536 ∧ ∀ x ∈ grS ts, x.edges.length < 65536 := by
  obtain ⟨h1, h2⟩ := grS_edges h
  exact ⟨by omega, fun x hx => by have := h2 x hx; omega⟩
theorem cut_none {ts : List Tx} (h : goodV ts = 0) : decS ((imgB (grS ts)).take ((imgB (grS ts)).length - 1)) = none := by
  cases hd : decS ((imgB (grS ts)).take ((imgB (grS ts)).length - 1)) with
  | none => rfl
  | some t2 =>
    exfalso
    obtain ⟨h2, h3⟩ := decS_some hd
    obtain ⟨a1, a2⟩ := grS_small h
    obtain ⟨b1, b2⟩ := grS_small h2
    have hl : 4 ≤ (imgB (grS ts)).length := by unfold imgB; rw [sealB_len]; omega
    have e : imgB (grS t2) ++ (imgB (grS ts)).drop ((imgB (grS ts)).length - 1) = imgB (grS ts) := by rw [h3, List.take_append_drop]
    unfold imgB sealB at e
    rw [List.append_assoc] at e
    have h4 := congrArg List.length (body_cut e b1 a1 b2 a2)
    rw [List.length_append, Cod.bytesOf_length, Cod.bytesOf_length, List.length_drop] at h4
    unfold imgB sealB at hl
    omega
theorem more_none {ts : List Tx} (h : goodV ts = 0) (z : Nat) : decS (imgB (grS ts) ++ [z]) = none := by
  cases hd : decS (imgB (grS ts) ++ [z]) with
  | none => rfl
  | some t2 =>
    exfalso
    obtain ⟨h2, h3⟩ := decS_some hd
    obtain ⟨a1, a2⟩ := grS_small h
    obtain ⟨b1, b2⟩ := grS_small h2
    unfold imgB sealB at h3
    rw [List.append_assoc] at h3
    have h4 := congrArg List.length (body_cut h3 b1 a1 b2 a2)
    rw [List.length_append, Cod.bytesOf_length, Cod.bytesOf_length] at h4
    simp at h4
end Go.Proofs.Ytbbholdadgjelaa
