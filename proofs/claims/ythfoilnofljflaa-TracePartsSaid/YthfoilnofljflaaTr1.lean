/- trace: records in memory (by gen/tr1.py) -/
import Derived.Test.YthfoilnofljflaaChecked
import Derived.Test.YthfoilnofljflaaMemV
import Derived.Test.YthfoilnofljflaaTn
namespace Go.Proofs.Ythfoilnofljflaa
open Go.RowKit
set_option linter.unusedVariables false
set_option maxRecDepth 20000
abbrev S3 := Int × Int × Int
def s30 : S3 := (0, 0, 0)
def wfZ (x : Int) : Prop := (Lit.int .i64 x).wf = true
structure RecP where
  kd : Int
  nd : Int
  at_ : Int
  ex : Int
  qt : ByteArray
  qk : Int
  qn : Int
  vd : Int
  id : Int
  sa : Option Addr
  sn : Nat
  sc : Nat
  ss : List S3
  got : Int
  la : Option Addr
  ln : Nat
  lc : Nat
  ls : List Int
def r0 : RecP := ⟨0, 0, 0, 0, ⟨#[]⟩, 0, 0, 0, 0, none, 0, 0, [], 0, none, 0, 0, []⟩
def recCells (x : RecP) : List Value := [.int .i64 x.kd, .int .i64 x.nd, .int .i64 x.at_, .int .i64 x.ex, .string x.qt, .int .i64 x.qk, .int .i64 x.qn, .int .i64 x.vd, .int .i64 x.id, .slice x.sa x.sn x.sc, .int .i64 x.got, .slice x.la x.ln x.lc]
def RecIn (w : World) (p o : Nat) (x : RecP) : Prop := w.cell? ⟨p, o, none⟩ = some (.int .i64 x.kd) ∧ w.cell? ⟨p, o + 1, none⟩ = some (.int .i64 x.nd) ∧ w.cell? ⟨p, o + 2, none⟩ = some (.int .i64 x.at_) ∧ w.cell? ⟨p, o + 3, none⟩ = some (.int .i64 x.ex) ∧ w.cell? ⟨p, o + 4, none⟩ = some (.string x.qt) ∧ w.cell? ⟨p, o + 5, none⟩ = some (.int .i64 x.qk) ∧ w.cell? ⟨p, o + 6, none⟩ = some (.int .i64 x.qn) ∧ w.cell? ⟨p, o + 7, none⟩ = some (.int .i64 x.vd) ∧ w.cell? ⟨p, o + 8, none⟩ = some (.int .i64 x.id) ∧ w.cell? ⟨p, o + 9, none⟩ = some (.slice x.sa x.sn x.sc) ∧ w.cell? ⟨p, o + 10, none⟩ = some (.int .i64 x.got) ∧ w.cell? ⟨p, o + 11, none⟩ = some (.slice x.la x.ln x.lc)
theorem RecIn.of {w w' : World} {p o : Nat} {x : RecP} (h : RecIn w p o x) (e : ∀ i, w'.cell? ⟨p, i, none⟩ = w.cell? ⟨p, i, none⟩) : RecIn w' p o x := by
  unfold RecIn at *
  simpa only [e] using h
theorem RecIn.below {w w' : World} {p o : Nat} {x : RecP} (h : RecIn w p o x) (hb : Below w.heap.size w w') : RecIn w' p o x := h.of fun i => hb.cell (p := ⟨p, i, none⟩) (lt_of_cell h.1)
def HoldsS3 (w : World) (a : Option Addr) (n : Nat) (ss : List S3) : Prop := ss.length = n ∧ (0 < n → ∃ b o, a = some ⟨b, o, none⟩ ∧ ∀ i, i < n → w.cell? ⟨b, o + i * 3, none⟩ = some (.int .i64 (ss.getD i s30).1) ∧ w.cell? ⟨b, o + i * 3 + 1, none⟩ = some (.int .i64 (ss.getD i s30).2.1) ∧ w.cell? ⟨b, o + i * 3 + 2, none⟩ = some (.int .i64 (ss.getD i s30).2.2))
theorem HoldsS3.below {w w' : World} {a : Option Addr} {n : Nat} {ss : List S3} (h : HoldsS3 w a n ss) (hb : Below w.heap.size w w') : HoldsS3 w' a n ss := by
  refine ⟨h.1, fun h0 => ?_⟩
  obtain ⟨b, o, ha, hc⟩ := h.2 h0
  refine ⟨b, o, ha, fun i hi => ?_⟩
  have lb := lt_of_cell (hc i hi).1
  exact ⟨(hb.cell (p := ⟨b, _, none⟩) lb).trans (hc i hi).1, (hb.cell (p := ⟨b, _, none⟩) lb).trans (hc i hi).2.1, (hb.cell (p := ⟨b, _, none⟩) lb).trans (hc i hi).2.2⟩
structure RecOk (w : World) (x : RecP) : Prop where
  s : HoldsS3 w x.sa x.sn x.ss
  l : HoldsI .i64 w x.la x.ln x.ls
  sn : x.sn ≤ 9223372036854775807
  ln : x.ln ≤ 9223372036854775807
  qt : x.qt.size ≤ 9223372036854775807
  g : wfZ x.got
  wl : ∀ z ∈ x.ls, wfZ z
  ws : ∀ z ∈ x.ss, wfZ z.1
theorem RecOk.below {w w' : World} {x : RecP} (h : RecOk w x) (hb : Below w.heap.size w w') : RecOk w' x := ⟨h.s.below hb, h.l.below hb, h.sn, h.ln, h.qt, h.g, h.wl, h.ws⟩
/-- a slice of records -/
structure HoldsRc (w : World) (a : Option Addr) (n : Nat) (xs : List RecP) : Prop where
  len : xs.length = n
  at_ : 0 < n → ∃ b o, a = some ⟨b, o, none⟩ ∧ ∀ i, i < n → RecIn w b (o + i * 12) (xs.getD i r0)
  ok : ∀ x ∈ xs, RecOk w x
theorem HoldsRc.below {w w' : World} {a : Option Addr} {n : Nat} {xs : List RecP} (h : HoldsRc w a n xs) (hb : Below w.heap.size w w') : HoldsRc w' a n xs :=
  ⟨h.len, fun h0 => by
    obtain ⟨b, o, ha, hc⟩ := h.at_ h0
    exact ⟨b, o, ha, fun i hi => (hc i hi).below hb⟩, fun x hx => (h.ok x hx).below hb⟩
theorem getD_memR {xs : List RecP} {i : Nat} (h : i < xs.length) : xs.getD i r0 ∈ xs := by
  rw [List.getD_eq_getElem?_getD, List.getElem?_eq_getElem h]; exact List.getElem_mem h
/-- the cells of records in a row -/
def recsV : List RecP → List Value
  | [] => []
  | x :: l => recCells x ++ recsV l
theorem recsV_len : ∀ l : List RecP, (recsV l).length = l.length * 12
  | [] => rfl
  | x :: l => by simp [recsV, recCells, recsV_len l]; omega
theorem recsV_app : ∀ k l : List RecP, recsV (k ++ l) = recsV k ++ recsV l
  | [], l => rfl
  | x :: k, l => by simp only [List.cons_append, recsV, recsV_app k l, List.append_assoc]
theorem recsV_one : ∀ (l : List RecP), ∀ u ∈ recsV l, u.oneCell' = true
  | [], u, h => by cases h
  | x :: l, u, h => by
    rcases List.mem_append.1 h with h | h
    · simp only [recCells, List.mem_cons, List.not_mem_nil, or_false] at h
      rcases h with h | h | h | h | h | h | h | h | h | h | h | h <;> (subst h; rfl)
    · exact recsV_one l u h
theorem recsV_at : ∀ (l : List RecP) (i j : Nat), i < l.length → j < 12 → (recsV l)[i * 12 + j]? = (recCells (l.getD i r0))[j]?
  | [], i, j, h, _ => by cases h
  | x :: l, 0, j, _, hj => by
    show (recCells x ++ recsV l)[0 * 12 + j]? = (recCells x)[j]?
    rw [Nat.zero_mul, Nat.zero_add, List.getElem?_append_left (by simpa [recCells] using hj)]
  | x :: l, i + 1, j, h, hj => by
    show (recCells x ++ recsV l)[(i + 1) * 12 + j]? = (recCells (l.getD i r0))[j]?
    rw [List.getElem?_append_right (by simp [recCells]; omega), ← recsV_at l i j (by simpa using h) hj]
    congr 1
    simp [recCells]; omega
theorem HoldsRc.news {w w' : World} {a : Option Addr} {n : Nat} {xs : List RecP} (h : HoldsRc w a n xs) (hg : w.grownBy w' none) : ∀ ad, a = some ad → ∀ j u, (recsV xs)[j]? = some u → w'.cell? (ad.add j) = some u := by
  intro ad ha j u hj
  have hlt := (List.getElem?_eq_some_iff.1 hj).1
  rw [recsV_len, h.len] at hlt
  obtain ⟨b, o, hb, hc⟩ := h.at_ (by omega)
  rw [ha] at hb
  injection hb with hb
  subst hb
  have hi : j / 12 < n := by omega
  have hjj : j / 12 * 12 + j % 12 = j := by omega
  have e1 := recsV_at xs (j / 12) (j % 12) (by rw [h.len]; exact hi) (by omega)
  rw [hjj, hj] at e1
  have hr := hc (j / 12) hi
  obtain ⟨x, hx⟩ : ∃ x, xs.getD (j / 12) r0 = x := ⟨_, rfl⟩
  rw [hx] at e1 hr
  rw [Go.WideShapes.add_plain]
  have key : w.cell? ⟨b, o + j, none⟩ = some u := by
    rw [show o + j = o + j / 12 * 12 + j % 12 by omega]
    obtain ⟨q0, q1, q2, q3, q4, q5, q6, q7, q8, q9, q10, q11⟩ := hr
    have hm : j % 12 < 12 := by omega
    revert e1 hm
    generalize j % 12 = m
    intro e1 hm
    match m, hm, e1 with
    | 0, _, e1 => rw [Nat.add_zero, q0]; exact e1.symm
    | 1, _, e1 => rw [q1]; exact e1.symm
    | 2, _, e1 => rw [q2]; exact e1.symm
    | 3, _, e1 => rw [q3]; exact e1.symm
    | 4, _, e1 => rw [q4]; exact e1.symm
    | 5, _, e1 => rw [q5]; exact e1.symm
    | 6, _, e1 => rw [q6]; exact e1.symm
    | 7, _, e1 => rw [q7]; exact e1.symm
    | 8, _, e1 => rw [q8]; exact e1.symm
    | 9, _, e1 => rw [q9]; exact e1.symm
    | 10, _, e1 => rw [q10]; exact e1.symm
    | 11, _, e1 => rw [q11]; exact e1.symm
  exact hg.cell key (by simp)
theorem holdsRc_own {w : World} {base : Nat} {e : TypeId} {a : Option Addr} {n c : Nat} {xs : List RecP} (h : w.ownsRow base e 12 (.slice a n c) n (recsV xs)) (hok : ∀ x ∈ xs, RecOk w x) : HoldsRc w a n xs := by
  have hl : xs.length = n := by
    have := h.1
    rw [recsV_len] at this
    omega
  refine ⟨hl, fun h0 => ?_, hok⟩
  rcases h.2 with ⟨hv, hn⟩ | ⟨g, cap, cur, hv, _, hh, hnc, _, hs, hx⟩
  · omega
  · simp only [Value.slice.injEq] at hv
    refine ⟨g, 0, hv.1, fun i hi => ?_⟩
    have c : ∀ j, j < 12 → w.cell? ⟨g, 0 + i * 12 + j, none⟩ = (recCells (xs.getD i r0))[j]? := fun j hj => by
      rw [← recsV_at xs i j (by omega) hj, ← hx, List.getElem?_take_of_lt (by omega), Array.getElem?_toList, Nat.zero_add]
      simp [World.cell?, hh]
    exact ⟨c 0 (by omega), c 1 (by omega), c 2 (by omega), c 3 (by omega), c 4 (by omega), c 5 (by omega), c 6 (by omega), c 7 (by omega), c 8 (by omega), c 9 (by omega), c 10 (by omega), c 11 (by omega)⟩
end Go.Proofs.Ythfoilnofljflaa
