/- leases: what a table is, in memory and as numbers -/
import Derived.Test.YtphcmokcdaiphaaLa
namespace Go.Proofs.Ytphcmokcdaiphaa
open Go.RowKit
set_option linter.unusedVariables false
def upd (f : Nat → Int) (i : Nat) (v : Int) : Nat → Int := fun j => if j = i then v else f j
theorem upd_at (f : Nat → Int) (i : Nat) (v : Int) : upd f i v i = v := by simp [upd]
theorem upd_ne (f : Nat → Int) (i j : Nat) (v : Int) (h : j ≠ i) : upd f i v j = f j := by simp [upd, h]
/-- a table: so many workers, the term, of each worker (from 0 on) the epoch, the life, until when -/
structure Lt where
  N : Int
  T : Int
  E : Nat → Int
  L : Nat → Int
  U : Nat → Int
/-- cells of three numbers each, from cell o on -/
structure Rec3 (w : World) (b o n : Nat) (E L U : Nat → Int) : Prop where
  ce : ∀ i, i < n → w.cell? ⟨b, o + i * 3, none⟩ = some (.int .i64 (E i))
  cl : ∀ i, i < n → w.cell? ⟨b, o + i * 3 + 1, none⟩ = some (.int .i64 (L i))
  cu : ∀ i, i < n → w.cell? ⟨b, o + i * 3 + 2, none⟩ = some (.int .i64 (U i))
theorem Rec3.carry {w w' : World} {b o n : Nat} {E L U : Nat → Int} (h : Rec3 w b o n E L U) (hc : ∀ i, w'.cell? ⟨b, i, none⟩ = w.cell? ⟨b, i, none⟩) : Rec3 w' b o n E L U :=
  ⟨fun i hi => by rw [hc]; exact h.ce i hi, fun i hi => by rw [hc]; exact h.cl i hi, fun i hi => by rw [hc]; exact h.cu i hi⟩
theorem set_at {w : World} {b o : Nat} {u v : Value} (h : w.cell? ⟨b, o, none⟩ = some u) : (w.setCell ⟨b, o, none⟩ v).cell? ⟨b, o, none⟩ = some v := World.cell?_setCell_same _ _ _ h
theorem set_ne {w : World} {b o p : Nat} {v : Value} (h : o ≠ p) : (w.setCell ⟨b, o, none⟩ v).cell? ⟨b, p, none⟩ = w.cell? ⟨b, p, none⟩ := World.cell?_setCell_other _ _ _ _ (by intro e; injection e; contradiction)
theorem Rec3.setE {w : World} {b o n : Nat} {E L U : Nat → Int} (h : Rec3 w b o n E L U) (i : Nat) (v : Int) (hi : i < n) : Rec3 (w.setCell ⟨b, o + i * 3, none⟩ (.int .i64 v)) b o n (upd E i v) L U := by
  refine ⟨fun j hj => ?_, fun j hj => ?_, fun j hj => ?_⟩
  · by_cases e : j = i
    · subst e; rw [upd_at]; exact set_at (h.ce j hj)
    · rw [upd_ne _ _ _ _ e, set_ne (by omega)]; exact h.ce j hj
  · rw [set_ne (by omega)]; exact h.cl j hj
  · rw [set_ne (by omega)]; exact h.cu j hj
theorem Rec3.setL {w : World} {b o n : Nat} {E L U : Nat → Int} (h : Rec3 w b o n E L U) (i : Nat) (v : Int) (hi : i < n) : Rec3 (w.setCell ⟨b, o + i * 3 + 1, none⟩ (.int .i64 v)) b o n E (upd L i v) U := by
  refine ⟨fun j hj => ?_, fun j hj => ?_, fun j hj => ?_⟩
  · rw [set_ne (by omega)]; exact h.ce j hj
  · by_cases e : j = i
    · subst e; rw [upd_at]; exact set_at (h.cl j hj)
    · rw [upd_ne _ _ _ _ e, set_ne (by omega)]; exact h.cl j hj
  · rw [set_ne (by omega)]; exact h.cu j hj
theorem Rec3.setU {w : World} {b o n : Nat} {E L U : Nat → Int} (h : Rec3 w b o n E L U) (i : Nat) (v : Int) (hi : i < n) : Rec3 (w.setCell ⟨b, o + i * 3 + 2, none⟩ (.int .i64 v)) b o n E L (upd U i v) := by
  refine ⟨fun j hj => ?_, fun j hj => ?_, fun j hj => ?_⟩
  · rw [set_ne (by omega)]; exact h.ce j hj
  · rw [set_ne (by omega)]; exact h.cl j hj
  · by_cases e : j = i
    · subst e; rw [upd_at]; exact set_at (h.cu j hj)
    · rw [upd_ne _ _ _ _ e, set_ne (by omega)]; exact h.cu j hj
/-- the table lies in block b -/
structure Tab (w : World) (b : Nat) (s : Lt) : Prop where
  c0 : w.cell? ⟨b, 0, none⟩ = some (.int .i64 s.N)
  c1 : w.cell? ⟨b, 1, none⟩ = some (.int .i64 s.T)
  rs : Rec3 w b 2 5 s.E s.L s.U
  fr : ∀ i, w.frozen? ⟨b, i, none⟩ = false
theorem Tab.lt {w : World} {b : Nat} {s : Lt} (h : Tab w b s) : b < w.heap.size := lt_of_cell h.c0
theorem Tab.block {w w' : World} {b : Nat} {s : Lt} (h : Tab w b s) (hb : w'.heap[b]? = w.heap[b]?) : Tab w' b s := by
  have hc : ∀ i, w'.cell? ⟨b, i, none⟩ = w.cell? ⟨b, i, none⟩ := fun i => World.cell?_of_block (w := w) hb
  exact ⟨by rw [hc]; exact h.c0, by rw [hc]; exact h.c1, h.rs.carry hc, fun i => by rw [World.frozen?_of_block (w := w) hb]; exact h.fr i⟩
theorem Tab.below {w w' : World} {b : Nat} {s : Lt} (h : Tab w b s) (hb : Below w.heap.size w w') : Tab w' b s := h.block (hb.block b h.lt)
theorem Tab.but {w w' : World} {b c : Nat} {s : Lt} (h : Tab w b s) (hb : But c w w') (hc : b ≠ c) : Tab w' b s := h.block (hb.block b h.lt hc)
theorem frozen_set (w : World) (a : Addr) (v : Value) (p : Addr) : (w.setCell a v).frozen? p = w.frozen? p := by simp
theorem Tab.setE {w : World} {b : Nat} {s : Lt} (h : Tab w b s) (i : Nat) (v : Int) (hi : i < 5) : Tab (w.setCell ⟨b, 2 + i * 3, none⟩ (.int .i64 v)) b { s with E := upd s.E i v } :=
  ⟨by rw [set_ne (by omega)]; exact h.c0, by rw [set_ne (by omega)]; exact h.c1, h.rs.setE i v hi, fun j => by rw [frozen_set]; exact h.fr j⟩
theorem Tab.setL {w : World} {b : Nat} {s : Lt} (h : Tab w b s) (i : Nat) (v : Int) (hi : i < 5) : Tab (w.setCell ⟨b, 2 + i * 3 + 1, none⟩ (.int .i64 v)) b { s with L := upd s.L i v } :=
  ⟨by rw [set_ne (by omega)]; exact h.c0, by rw [set_ne (by omega)]; exact h.c1, h.rs.setL i v hi, fun j => by rw [frozen_set]; exact h.fr j⟩
theorem Tab.setU {w : World} {b : Nat} {s : Lt} (h : Tab w b s) (i : Nat) (v : Int) (hi : i < 5) : Tab (w.setCell ⟨b, 2 + i * 3 + 2, none⟩ (.int .i64 v)) b { s with U := upd s.U i v } :=
  ⟨by rw [set_ne (by omega)]; exact h.c0, by rw [set_ne (by omega)]; exact h.c1, h.rs.setU i v hi, fun j => by rw [frozen_set]; exact h.fr j⟩
/-- a table that a New made, and what befell it since -/
structure Good (s : Lt) : Prop where
  n : 1 ≤ s.N ∧ s.N ≤ 5
  t : 1 ≤ s.T ∧ s.T ≤ 1000
  e : ∀ i, 0 ≤ s.E i ∧ s.E i ≤ s.L i
  l : ∀ i, s.L i ≤ 2147483647
  u : ∀ i, 0 ≤ s.U i ∧ s.U i ≤ 1099511628776
def newS (n t : Int) : Lt := ⟨n, t, fun _ => 0, fun _ => 0, fun _ => 0⟩
theorem new_is_good {n t : Int} (h : (1 ≤ n ∧ n ≤ 5) ∧ 1 ≤ t ∧ t ≤ 1000) : Good (newS n t) := ⟨h.1, h.2, fun _ => by simp [newS], fun _ => by simp [newS], fun _ => by simp [newS]⟩
theorem new_is_tab (w : World) (n t : Int) (ty : TypeId) : Tab (w.alloc (.cells #[.int .i64 n, .int .i64 t, .int .i64 0, .int .i64 0, .int .i64 0, .int .i64 0, .int .i64 0, .int .i64 0, .int .i64 0, .int .i64 0, .int .i64 0, .int .i64 0, .int .i64 0, .int .i64 0, .int .i64 0, .int .i64 0, .int .i64 0] ty)) w.heap.size (newS n t) := by
  refine ⟨by simp [newS], by simp [newS], ⟨fun i hi => ?_, fun i hi => ?_, fun i hi => ?_⟩, fun i => by simp⟩
  all_goals
    match i, hi with
    | 0, _ => simp [newS]
    | 1, _ => simp [newS]
    | 2, _ => simp [newS]
    | 3, _ => simp [newS]
    | 4, _ => simp [newS]
/-- when a call is none -/
def worker (s : Lt) (k : Int) : Prop := 1 ≤ k ∧ k ≤ s.N
instance (s : Lt) (k : Int) : Decidable (worker s k) := by unfold worker; infer_instance
def timed (t : Int) : Prop := 0 ≤ t ∧ t ≤ 1099511627776
instance (t : Int) : Decidable (timed t) := by unfold timed; infer_instance
def lived (f : Int) : Prop := 1 ≤ f ∧ f ≤ 2147483647
instance (f : Int) : Decidable (lived f) := by unfold lived; infer_instance
def idx (k : Int) : Nat := (k - 1).toNat
def helloArg (s : Lt) (k f t : Int) : Prop := worker s k ∧ lived f ∧ timed t
instance (s : Lt) (k f t : Int) : Decidable (helloArg s k f t) := by unfold helloArg; infer_instance
def raised (s : Lt) (i : Nat) (f : Int) : Lt := { s with L := upd s.L i f, E := upd s.E i (s.E i + 1) }
def extended (s : Lt) (i : Nat) (t : Int) : Lt := { s with U := upd s.U i (max (s.U i) (t + s.T)) }
def bumped (s : Lt) (i : Nat) (f : Int) : Lt := if s.L i < f then raised s i f else s
/-- behind a Hello -/
def helloS (s : Lt) (k f t : Int) : Lt :=
  if helloArg s k f t then (if f < s.L (idx k) then s else extended (bumped s (idx k) f) (idx k) t) else s
def helloE (s : Lt) (k f t : Int) : Int := if helloArg s k f t then (if f < s.L (idx k) then 0 else (bumped s (idx k) f).E (idx k)) else 0
def helloN (s : Lt) (k f t : Int) : Int := if helloArg s k f t then (if f < s.L (idx k) then 4 else 0) else 2
def seenOk (s : Lt) (k e t : Int) : Prop := worker s k ∧ timed t ∧ s.E (idx k) ≠ 0 ∧ s.E (idx k) = e
instance (s : Lt) (k e t : Int) : Decidable (seenOk s k e t) := by unfold seenOk; infer_instance
def seenS (s : Lt) (k e t : Int) : Lt := if seenOk s k e t then extended s (idx k) t else s
def liveOk (s : Lt) (k t : Int) : Prop := worker s k ∧ 0 < s.E (idx k) ∧ t ≤ s.U (idx k)
instance (s : Lt) (k t : Int) : Decidable (liveOk s k t) := by unfold liveOk; infer_instance
def epochS (s : Lt) (k : Int) : Int := if worker s k then s.E (idx k) else 0
def lifeS (s : Lt) (k : Int) : Int := if worker s k then s.L (idx k) else 0
theorem upd_all {P : Int → Prop} {f : Nat → Int} {i : Nat} {v : Int} (hf : ∀ j, P (f j)) (hv : P v) (j : Nat) : P (upd f i v j) := by
  by_cases e : j = i
  · subst e; rw [upd_at]; exact hv
  · rw [upd_ne _ _ _ _ e]; exact hf j
theorem extended_good {s : Lt} (h : Good s) (i : Nat) {t : Int} (ht : timed t) : Good (extended s i t) :=
  ⟨h.n, h.t, h.e, h.l, upd_all (P := fun x => 0 ≤ x ∧ x ≤ 1099511628776) h.u (by have := h.u i; have := h.t; unfold timed at ht; omega)⟩
theorem bumped_good {s : Lt} (h : Good s) (i : Nat) {f : Int} (hf : lived f) : Good (bumped s i f) := by
  unfold bumped
  split
  · rename_i hl
    refine ⟨h.n, h.t, fun j => ?_, upd_all (P := fun x => x ≤ 2147483647) h.l hf.2, h.u⟩
    show 0 ≤ upd s.E i (s.E i + 1) j ∧ upd s.E i (s.E i + 1) j ≤ upd s.L i f j
    have h1 := h.e i; have h2 := h.e j
    by_cases e : j = i
    · subst e; rw [upd_at, upd_at]; omega
    · rw [upd_ne _ _ _ _ e, upd_ne _ _ _ _ e]; exact h2
  · exact h
theorem hello_good {s : Lt} (h : Good s) (k f t : Int) : Good (helloS s k f t) := by
  unfold helloS
  split
  · rename_i ha
    split
    · exact h
    · exact extended_good (bumped_good h _ ha.2.1) _ ha.2.2
  · exact h
theorem seen_good {s : Lt} (h : Good s) (k e t : Int) : Good (seenS s k e t) := by
  unfold seenS
  split
  · rename_i ha; exact extended_good h _ ha.2.1
  · exact h
end Go.Proofs.Ytphcmokcdaiphaa
