/- fair: a turned row whose records have new slices -/
import Derived.Test.YteloiibejkflhaaQFc2
import Derived.Test.YteloiibejkflhaaQZs
import Derived.Test.YteloiibejkflhaaQMemA
namespace Go.Proofs.Yteloiibejkflhaa
open Go.RowKit
set_option linter.unusedVariables false
set_option maxRecDepth 20000
/-- the cells of sent ones in a row -/
def s3V : List S3 → List Value
  | [] => []
  | x :: l => .int .i64 x.1 :: .int .i64 x.2.1 :: .int .i64 x.2.2 :: s3V l
theorem s3V_len : ∀ l : List S3, (s3V l).length = l.length * 3
  | [] => rfl
  | x :: l => by simp only [s3V, List.length_cons, s3V_len l]; omega
theorem s3V_app : ∀ k l : List S3, s3V (k ++ l) = s3V k ++ s3V l
  | [], l => rfl
  | x :: k, l => by simp only [List.cons_append, s3V, s3V_app k l]
theorem s3V_one : ∀ (l : List S3), ∀ u ∈ s3V l, u.oneCell' = true
  | [], u, h => by cases h
  | x :: l, u, h => by
    simp only [s3V, List.mem_cons] at h
    rcases h with rfl | rfl | rfl | h
    · rfl
    · rfl
    · rfl
    · exact s3V_one l u h
theorem s3V_at : ∀ (l : List S3) (i : Nat), i < l.length → (s3V l)[i * 3]? = some (.int .i64 (l.getD i s30).1) ∧ (s3V l)[i * 3 + 1]? = some (.int .i64 (l.getD i s30).2.1) ∧ (s3V l)[i * 3 + 2]? = some (.int .i64 (l.getD i s30).2.2)
  | [], i, h => by cases h
  | x :: l, 0, _ => ⟨rfl, rfl, rfl⟩
  | x :: l, i + 1, h => by
    have := s3V_at l i (by simpa using h)
    rw [show (i + 1) * 3 = i * 3 + 1 + 1 + 1 by omega]
    exact this
theorem HoldsS3.news {w w' : World} {a : Option Addr} {n : Nat} {ss : List S3} (h : HoldsS3 w a n ss) (hb : Below w.heap.size w w') : ∀ ad, a = some ad → ∀ j u, (s3V ss)[j]? = some u → w'.cell? (ad.add j) = some u := by
  intro ad ha j u hj
  have hlt := (List.getElem?_eq_some_iff.1 hj).1
  rw [s3V_len, h.1] at hlt
  obtain ⟨b, o, e, hc⟩ := (h.below hb).2 (by omega)
  rw [ha] at e
  injection e with e
  subst e
  have hi : j / 3 < n := by omega
  obtain ⟨q0, q1, q2⟩ := hc (j / 3) hi
  obtain ⟨p0, p1, p2⟩ := s3V_at ss (j / 3) (by rw [h.1]; exact hi)
  rw [Go.WideShapes.add_plain]
  have h3 : j % 3 = 0 ∨ j % 3 = 1 ∨ j % 3 = 2 := by omega
  rcases h3 with h3 | h3 | h3
  · have ej : j = j / 3 * 3 := by omega
    rw [← ej] at p0
    rw [show o + j = o + j / 3 * 3 by omega, q0, ← hj, p0]
  · have ej : j = j / 3 * 3 + 1 := by omega
    rw [← ej] at p1
    rw [show o + j = o + j / 3 * 3 + 1 by omega, q1, ← hj, p1]
  · have ej : j = j / 3 * 3 + 2 := by omega
    rw [← ej] at p2
    rw [show o + j = o + j / 3 * 3 + 2 by omega, q2, ← hj, p2]
theorem holdsS3_own {w : World} {base : Nat} {e : TypeId} {a : Option Addr} {n c : Nat} {ss : List S3} (h : w.ownsRow base e 3 (.slice a n c) n (s3V ss)) : HoldsS3 w a n ss := by
  have hl : ss.length = n := by
    have := h.1
    rw [s3V_len] at this
    omega
  refine ⟨hl, fun h0 => ?_⟩
  rcases h.2 with ⟨hv, hn⟩ | ⟨g, cap, cur, hv, _, hh, hnc, _, hs, hx⟩
  · omega
  · simp only [Value.slice.injEq] at hv
    refine ⟨g, 0, hv.1, fun i hi => ?_⟩
    have c : ∀ j, j < 3 → w.cell? ⟨g, 0 + i * 3 + j, none⟩ = (s3V ss)[i * 3 + j]? := fun j hj => by
      rw [← hx, List.getElem?_take_of_lt (by omega), Array.getElem?_toList, Nat.zero_add]
      simp [World.cell?, hh]
    obtain ⟨p0, p1, p2⟩ := s3V_at ss i (by omega)
    exact ⟨(c 0 (by omega)).trans p0, (c 1 (by omega)).trans p1, (c 2 (by omega)).trans p2⟩
/-- where an own row lies -/
theorem own_apart3 {w : World} {base tb : Nat} {e : TypeId} {size : Nat} {a : Option Addr} {n c : Nat} {xs : List Value} (h : w.ownsRow base e size (.slice a n c) n xs) (hb : tb < base) : ∀ q o, a = some ⟨q, o, none⟩ → q ≠ tb := fun q o e => by
  rcases h.2 with ⟨hv, hn⟩ | ⟨g, cap, cur, hv, hg, _⟩
  · simp only [Value.slice.injEq] at hv
    rw [hv.1] at e; cases e
  · simp only [Value.slice.injEq] at hv
    rw [hv.1] at e
    injection e with e; injection e with e
    omega
def apR (tb : Nat) (y : RecP) : Prop := (0 < y.sn → ∀ q o, y.sa = some ⟨q, o, none⟩ → q ≠ tb) ∧ (0 < y.ln → ∀ q o, y.la = some ⟨q, o, none⟩ → q ≠ tb)
structure TX (w0 w : World) (tb n : Nat) (ys : List RecP) : Prop where
  there : w.there tb 0 (n * 12)
  rc : HoldsRc w (some ⟨tb, 0, none⟩) n ys
  ap : ∀ y ∈ ys, apR tb y
  b : Below w0.heap.size w0 w
  tB : w0.heap.size ≤ tb
  lt : tb < w.heap.size
theorem RecOk.apart {w : World} {y : RecP} {tb : Nat} (h : RecOk w y) (ht : w.heap.size ≤ tb) : apR tb y :=
  ⟨fun h0 q o e => by
    obtain ⟨b, o', e', hc⟩ := h.s.2 h0
    rw [e] at e'
    injection e' with e'; injection e' with e'
    have := lt_of_cell (hc 0 h0).1
    omega, fun h0 q o e => by
    obtain ⟨b, o', e', hc⟩ := h.l.2 h0
    rw [e] at e'
    injection e' with e'; injection e' with e'
    have := lt_of_cell (hc 0 h0)
    omega⟩
theorem TR.tx {w0 w : World} {tb n : Nat} {ys : List RecP} (h : TR w0 w tb n ys) : TX w0 w tb n ys :=
  ⟨h.there, h.rc, fun y hy => (h.ok0 y hy).apart h.tB, h.b, h.tB, h.lt⟩
theorem TX.below {w0 w w' : World} {tb n : Nat} {ys : List RecP} (h : TX w0 w tb n ys) (hb : Below w.heap.size w w') : TX w0 w' tb n ys :=
  ⟨there_below h.there hb h.lt, h.rc.below hb, h.ap, h.b.trans (hb.mono h.b.size), h.tB, Nat.lt_of_lt_of_le h.lt hb.size⟩
theorem TX.at_ {w0 w : World} {tb n k : Nat} {ys : List RecP} (h : TX w0 w tb n ys) (hk : k < n) : RecIn w tb (k * 12) (ys.getD k r0) := by
  obtain ⟨b, o, e1, hc⟩ := h.rc.at_ (by omega)
  injection e1 with e1; injection e1 with e1 e2; subst e1 e2
  have := hc k hk
  rw [Nat.zero_add] at this
  exact this
theorem RecOk.cell_set {w : World} {y : RecP} {tb o : Nat} {v : Value} (h : RecOk w y) (ha : apR tb y) : RecOk (w.setCell ⟨tb, o, none⟩ v) y := by
  refine ⟨⟨h.s.1, fun h0 => ?_⟩, ⟨h.l.1, fun h0 => ?_⟩, h.sn, h.ln, h.qt, h.g, h.wl, h.ws, h.nz, h.lz⟩
  · obtain ⟨b, o', e, hc⟩ := h.s.2 h0
    have hn := (ha.1 h0 b o' e).symm
    exact ⟨b, o', e, fun i hi => ⟨(cset_far hn).trans (hc i hi).1, (cset_far hn).trans (hc i hi).2.1, (cset_far hn).trans (hc i hi).2.2⟩⟩
  · obtain ⟨b, o', e, hc⟩ := h.l.2 h0
    have hn := (ha.2 h0 b o' e).symm
    exact ⟨b, o', e, fun i hi => (cset_far hn).trans (hc i hi)⟩
/-- a record with other sent ones, with other lost ones -/
def sentR (x : RecP) (a : Option Addr) (n c : Nat) (ss : List S3) : RecP := ⟨x.kd, x.nd, x.at_, x.ex, x.qt, x.qk, x.qn, x.vd, x.id, a, n, c, ss, x.got, x.la, x.ln, x.lc, x.ls⟩
def lostR (x : RecP) (a : Option Addr) (n c : Nat) (ls : List Int) : RecP := ⟨x.kd, x.nd, x.at_, x.ex, x.qt, x.qk, x.qn, x.vd, x.id, x.sa, x.sn, x.sc, x.ss, x.got, a, n, c, ls⟩
theorem there_set {w : World} {tb n o : Nat} {v : Value} (h : w.there tb 0 n) : (w.setCell ⟨tb, o, none⟩ v).there tb 0 n := by
  have := World.there_setCells h tb o [v]
  rwa [World.setCells, World.setCells] at this
theorem TX.sent {w0 w : World} {tb n k : Nat} {ys : List RecP} {x : RecP} (h : TX w0 w tb n ys) (hk : k < n) (hx : ys.getD k r0 = x) {a : Option Addr} {m c : Nat} {ss : List S3} (hs : HoldsS3 w a m ss) (hm : m ≤ 9223372036854775807) (hw : ∀ z ∈ ss, wfZ z.1) (hz : a = none → m = 0 ∧ c = 0) (ha : ∀ q o, a = some ⟨q, o, none⟩ → q ≠ tb) :
    TX w0 (w.setCell ⟨tb, k * 12 + 9, none⟩ (.slice a m c)) tb n (ys.set k (sentR x a m c ss)) := by
  have hxm : x ∈ ys := hx ▸ getD_memR (by rw [h.rc.len]; exact hk)
  have hat := h.at_ hk
  rw [hx] at hat
  have hax : apR tb (sentR x a m c ss) := ⟨fun _ => ha, (h.ap x hxm).2⟩
  have hox := h.rc.ok x hxm
  have hok : RecOk w (sentR x a m c ss) := ⟨hs, hox.l, hm, hox.ln, hox.qt, hox.g, hox.wl, hw, hz, hox.lz⟩
  obtain ⟨q0, q1, q2, q3, q4, q5, q6, q7, q8, q9, q10, q11⟩ := hat
  refine ⟨there_set h.there, h.rc.turned hk (fun j hj => cset_ne (by omega)) ?_ (fun y hy => (h.rc.ok y hy).cell_set (h.ap y hy)) (hok.cell_set hax), fun y hy => ?_, h.b.setCell (p := ⟨tb, k * 12 + 9, none⟩) h.tB _, h.tB, by simpa using h.lt⟩
  · exact ⟨(cset_ne (by omega)).trans q0, (cset_ne (by omega)).trans q1, (cset_ne (by omega)).trans q2, (cset_ne (by omega)).trans q3, (cset_ne (by omega)).trans q4, (cset_ne (by omega)).trans q5, (cset_ne (by omega)).trans q6, (cset_ne (by omega)).trans q7, (cset_ne (by omega)).trans q8, cset_at q9, (cset_ne (by omega)).trans q10, (cset_ne (by omega)).trans q11⟩
  · rcases List.mem_or_eq_of_mem_set hy with hy | rfl
    · exact h.ap y hy
    · exact hax
theorem TX.lost {w0 w : World} {tb n k : Nat} {ys : List RecP} {x : RecP} (h : TX w0 w tb n ys) (hk : k < n) (hx : ys.getD k r0 = x) {a : Option Addr} {m c : Nat} {ls : List Int} (hs : HoldsI .i64 w a m ls) (hm : m ≤ 9223372036854775807) (hw : ∀ z ∈ ls, wfZ z) (hz : a = none → m = 0 ∧ c = 0) (ha : ∀ q o, a = some ⟨q, o, none⟩ → q ≠ tb) :
    TX w0 (w.setCell ⟨tb, k * 12 + 11, none⟩ (.slice a m c)) tb n (ys.set k (lostR x a m c ls)) := by
  have hxm : x ∈ ys := hx ▸ getD_memR (by rw [h.rc.len]; exact hk)
  have hat := h.at_ hk
  rw [hx] at hat
  have hax : apR tb (lostR x a m c ls) := ⟨(h.ap x hxm).1, fun _ => ha⟩
  have hox := h.rc.ok x hxm
  have hok : RecOk w (lostR x a m c ls) := ⟨hox.s, hs, hox.sn, hm, hox.qt, hox.g, hw, hox.ws, hox.nz, hz⟩
  obtain ⟨q0, q1, q2, q3, q4, q5, q6, q7, q8, q9, q10, q11⟩ := hat
  refine ⟨there_set h.there, h.rc.turned hk (fun j hj => cset_ne (by omega)) ?_ (fun y hy => (h.rc.ok y hy).cell_set (h.ap y hy)) (hok.cell_set hax), fun y hy => ?_, h.b.setCell (p := ⟨tb, k * 12 + 11, none⟩) h.tB _, h.tB, by simpa using h.lt⟩
  · exact ⟨(cset_ne (by omega)).trans q0, (cset_ne (by omega)).trans q1, (cset_ne (by omega)).trans q2, (cset_ne (by omega)).trans q3, (cset_ne (by omega)).trans q4, (cset_ne (by omega)).trans q5, (cset_ne (by omega)).trans q6, (cset_ne (by omega)).trans q7, (cset_ne (by omega)).trans q8, (cset_ne (by omega)).trans q9, (cset_ne (by omega)).trans q10, cset_at q11⟩
  · rcases List.mem_or_eq_of_mem_set hy with hy | rfl
    · exact h.ap y hy
    · exact hax
/-- how much the turned ones hold -/
theorem sent_small {ys : List RecP} {x y : RecP} {k m : Nat} (h : ∀ z ∈ ys, z.sn ≤ m ∧ z.ln ≤ m) (hy : y.sn ≤ m ∧ y.ln ≤ m) : ∀ z ∈ ys.set k y, z.sn ≤ m ∧ z.ln ≤ m := fun z hz => by
  rcases List.mem_or_eq_of_mem_set hz with hz | rfl
  · exact h z hz
  · exact hy
theorem numsV_app (xs ys : List Int) : numsV (xs ++ ys) = numsV xs ++ numsV ys := by simp [numsV]
theorem TR.from {w0 w w' : World} {tb n B : Nat} {ys : List RecP} (h : TR w0 w tb n ys) (hb : Below B w w') (hB : tb < B) : TR w0 w' tb n ys := by
  have h2 : Below w0.heap.size w0 w' := h.b.trans (hb.mono (by have := h.tB; omega))
  have hc : ∀ j, w'.cell? ⟨tb, j, none⟩ = w.cell? ⟨tb, j, none⟩ := fun j => World.cell?_of_block (w := w) (hb.block tb hB)
  refine ⟨fun j hj => ⟨by rw [hc]; exact (h.there j hj).1, by rw [World.frozen?_of_block (w := w) (hb.block tb hB)]; exact (h.there j hj).2⟩, ⟨h.rc.len, fun h0 => ?_, fun y hy => (h.ok0 y hy).below h2⟩, h.ok0, h2, h.tB, Nat.lt_of_lt_of_le h.lt hb.size⟩
  obtain ⟨b, o, e1, hr⟩ := h.rc.at_ h0
  injection e1 with e1; injection e1 with e1 e2; subst e1 e2
  exact ⟨tb, 0, rfl, fun i hi => (hr i hi).of hc⟩
theorem TR.fz {w0 w : World} {tb n : Nat} {ys : List RecP} (h : TR w0 w tb n ys) (j : Nat) (hj : j < n * 12) : w.frozen? ⟨tb, j, none⟩ = false := by
  have := (h.there j hj).2
  rwa [Nat.zero_add] at this
theorem TX.fz {w0 w : World} {tb n : Nat} {ys : List RecP} (h : TX w0 w tb n ys) (j : Nat) (hj : j < n * 12) : w.frozen? ⟨tb, j, none⟩ = false := by
  have := (h.there j hj).2
  rwa [Nat.zero_add] at this
theorem new3 {w : World} {p : Nat} {cs : List Value} {e : TypeId} {fr : Nat × Nat} (h : w.heap[p]? = some (.cells cs.toArray e fr)) : ∀ ad, (some ⟨p, 0, none⟩ : Option Addr) = some ad → ∀ j u, cs[j]? = some u → w.cell? (ad.add j) = some u := by
  intro ad e j u hu
  injection e with e
  subst e
  rw [Go.WideShapes.add_plain, Nat.zero_add]
  simp [World.cell?, h, hu]
theorem own_none {w : World} {base : Nat} {e : TypeId} {size : Nat} {a : Option Addr} {n c : Nat} {xs : List Value} (h : w.ownsRow base e size (.slice a n c) n xs) (h0 : 0 < n) : a = none → n = 0 ∧ c = 0 := fun e => by
  rcases h.2 with ⟨hv, hn⟩ | ⟨g, cap, cur, hv, _⟩
  · omega
  · simp only [Value.slice.injEq] at hv
    rw [hv.1] at e; cases e
theorem s3V_snoc {w : World} {base : Nat} {e : TypeId} {v : Value} {n : Nat} {l : List S3} {a b c : Int} (h : w.ownsRow base e 3 v n (s3V l ++ [.int .i64 a, .int .i64 b, .int .i64 c])) : w.ownsRow base e 3 v n (s3V (l ++ [(a, b, c)])) := by
  rw [s3V_app]; exact h
theorem sent_info27 : (Try.prog.info? 45).map (fun i => (i.zero, i.size, i.bytes)) = some (some (.agg #[.int .i64 0, .int .i64 0, .int .i64 0]), 3, 24) := by kernel_rfl
theorem int_info27 : (Try.prog.info? 3).map (fun i => (i.zero, i.size, i.bytes)) = some (some (.int .i64 0), 1, 8) := by kernel_rfl
theorem holdsI_news {w w' : World} {a : Option Addr} {n : Nat} {zs : List Int} (h : HoldsI .i64 w a n zs) (hb : Below w.heap.size w w') : ∀ ad, a = some ad → ∀ j u, (numsV zs)[j]? = some u → w'.cell? (ad.add j) = some u := by
  intro ad ha j u hj
  have hlt := (List.getElem?_eq_some_iff.1 hj).1
  rw [numsV, List.length_map, h.1] at hlt
  obtain ⟨b, o, e, hc⟩ := (h.below hb).2 (by omega)
  rw [ha] at e
  injection e with e
  subst e
  rw [Go.WideShapes.add_plain, hc j hlt, ← hj, numsV, List.getElem?_map, List.getD_eq_getElem?_getD]
  rw [List.getElem?_eq_getElem (by rw [h.1]; exact hlt)]
  rfl
theorem wpList_append_nilF {P : Program} {w : World} {ops : Array Oper} {rest : List Oper} {o : Oper} {a : Act} {Q : Exit → Act → World → Prop} (hgd : o.guard = none) (s x : Operand) (t : TypeId)
    (ho : o.op = .call { callee := .builtin .append, args := #[s, x], argTypes := #[t, t] })
    (base : Nat) (e : TypeId) (i : TypeInfo) (z : Value) (size bytes : Nat) (ht : P.underlying t = some (.slice e)) (hi : P.info? e = some i) (hz : i.zero = some z)
    (hsize : i.size = size) (hby : i.bytes = bytes) (hzs : z.cells.size = size) (hsz : 0 < size) (hs : a.eval s = .slice none 0 0)
    (ao : Option Addr) (m c : Nat) (news : List Value) (hx : a.eval x = .slice ao m c) (hnone : ao = none → m = 0 ∧ c = 0) (hl : news.length = m * size)
    (hnews : ∀ ad, ao = some ad → ∀ j u, news[j]? = some u → w.cell? (ad.add j) = some u) (h1 : ∀ u ∈ news, u.oneCell' = true)
    (h63 : m ≤ maxLen) (hbytes : m * bytes ≤ 140737488355328) (hbase : base ≤ w.heap.size)
    (h : ∀ a' c' w', w'.ownsRow base e size (.slice a' m c') m news → Below base w w' → (a' = none → m = 0 ∧ c' = 0) → wpList P ops Q rest (a.put o.dst (.slice a' m c')) w') : wpList P ops Q (o :: rest) a w :=
  wpList_append_any hgd s x t ho base e i z size bytes ht hi hz hsize hby hzs hsz _ 0 [] hs (World.ownsRow_nil _ _ _ _) ao m c news hx hnone hl hnews h1 (by omega) (by rw [Nat.zero_add]; exact hbytes) hbase (fun a' c' w' g1 g2 g3 => by
    rw [Nat.zero_add] at g1 g3 ⊢
    exact h a' c' w' g1 g2 g3)
end Go.Proofs.Yteloiibejkflhaa
