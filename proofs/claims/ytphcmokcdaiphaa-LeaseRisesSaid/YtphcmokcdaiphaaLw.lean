/- leases: an epoch rises by one with a greater life alone -/
import Derived.Test.YtphcmokcdaiphaaLp
import Derived.Deep.RegionHeld3
import Derived.Deep.DeepCutAuto
import Derived.Deep.CutRange
import Derived.Deep.QuietTactic
import Derived.BigQuiet
namespace Go.Proofs.Ytphcmokcdaiphaa
open Go.RowKit
set_option linter.unusedVariables false
/-- what an act does to what is told of a worker -/
def Risen (s s' : Lt) (q : Bool) (K n : Int) (k : Int) : Prop :=
  (lifeS s' k = lifeS s k ∧ epochS s' k = epochS s k) ∨ (lifeS s k < lifeS s' k ∧ epochS s' k = epochS s k + 1 ∧ q = false ∧ k = K ∧ lifeS s' k = n)
theorem risen_same {s s' : Lt} {q : Bool} {K n k : Int} (hn : s'.N = s.N) (he : s'.E (idx k) = s.E (idx k)) (hl : s'.L (idx k) = s.L (idx k)) : Risen s s' q K n k := by
  have hw : worker s' k ↔ worker s k := by unfold worker; rw [hn]
  exact Or.inl ⟨by unfold lifeS; simp [hw, hl], by unfold epochS; simp [hw, he]⟩
theorem risen_seen (s : Lt) (K n t k : Int) : Risen s (seenS s K n t) true K n k := by
  unfold seenS
  split <;> exact risen_same rfl rfl rfl
theorem risen_hello (s : Lt) (K n t k : Int) (hk : 1 ≤ k) : Risen s (helloS s K n t) false K n k := by
  by_cases hKw : worker s K
  · by_cases hKk : k = K
    · subst hKk
      by_cases ha : helloArg s k n t
      · rcases Int.lt_trichotomy n (s.L (idx k)) with h1 | h1 | h1
        · rw [(hello_lt ha h1).2.2]; exact risen_same rfl rfl rfl
        · obtain ⟨_, _, e3, e4, e5, _, _⟩ := hello_eq ha h1.symm
          exact risen_same e5 (by rw [e3]) (by rw [e4])
        · obtain ⟨_, _, e3, e4, e5, _, _⟩ := hello_gt ha h1
          have hw : worker (helloS s k n t) k := by unfold worker; rw [e5]; exact hKw
          refine Or.inr ⟨?_, ?_, rfl, rfl, ?_⟩
          · unfold lifeS; rw [if_pos hw, if_pos hKw, e4, upd_at]; exact h1
          · unfold epochS; rw [if_pos hw, if_pos hKw, e3, upd_at]
          · unfold lifeS; rw [if_pos hw, e4, upd_at]
      · unfold helloS; rw [if_neg ha]; exact risen_same rfl rfl rfl
    · have hne : idx k ≠ idx K := by have := hKw.1; unfold idx; omega
      obtain ⟨e1, e2, _⟩ := hello_off s K n t (idx k) (fun _ => hne)
      exact risen_same (hello_NT s K n t).1 e1 e2
  · obtain ⟨e1, e2, _⟩ := hello_off s K n t (idx k) (fun h => absurd h hKw)
    exact risen_same (hello_NT s K n t).1 e1 e2
/-- an array of four numbers -/
structure Arr (w : World) (p : Nat) (f : Nat → Int) : Prop where
  c : ∀ j, j < 4 → w.cell? ⟨p, j, none⟩ = some (.int .i64 (f j))
  fr : ∀ j, w.frozen? ⟨p, j, none⟩ = false
theorem Arr.lt {w : World} {p : Nat} {f : Nat → Int} (h : Arr w p f) : p < w.heap.size := lt_of_cell (h.c 0 (by omega))
theorem Arr.block {w w' : World} {p : Nat} {f : Nat → Int} (h : Arr w p f) (hb : w'.heap[p]? = w.heap[p]?) : Arr w' p f :=
  ⟨fun j hj => by rw [World.cell?_of_block (w := w) hb]; exact h.c j hj, fun j => by rw [World.frozen?_of_block (w := w) hb]; exact h.fr j⟩
theorem Arr.below {w w' : World} {p : Nat} {f : Nat → Int} (h : Arr w p f) (hb : Below w.heap.size w w') : Arr w' p f := h.block (hb.block p h.lt)
theorem Arr.but {w w' : World} {p b : Nat} {f : Nat → Int} (h : Arr w p f) (hb : But b w w') (hne : p ≠ b) : Arr w' p f := h.block (hb.block p h.lt hne)
theorem Arr.set {w : World} {p : Nat} {f : Nat → Int} (h : Arr w p f) (i : Nat) (v : Int) (hi : i < 4) : Arr (w.setCell ⟨p, i, none⟩ (.int .i64 v)) p (upd f i v) := by
  refine ⟨fun j hj => ?_, fun j => by rw [frozen_set]; exact h.fr j⟩
  by_cases e : j = i
  · subst e; rw [upd_at]; exact set_at (h.c j hj)
  · rw [upd_ne _ _ _ _ e, set_ne (by omega)]; exact h.c j hj
/-- a table, an act, two arrays: all in blocks of their own -/
structure Ris (w : World) (b cx p q : Nat) (s : Lt) (x : ActV) (f g : Nat → Int) (w' : World) : Prop where
  g' : Good s
  n : s.N = 3
  ts : Tab w' b s
  ax : ActAt w' cx x
  af : Arr w' p f
  ag : Arr w' q g
  bel : Below w.heap.size w w'
  hb : w.heap.size ≤ b
  hp : w.heap.size ≤ p
  hq : w.heap.size ≤ q
  n1 : b ≠ cx
  n2 : b ≠ p
  n3 : b ≠ q
  n4 : cx ≠ p
  n5 : cx ≠ q
  n6 : p ≠ q
theorem Ris.more {w w' w2 : World} {b cx p q : Nat} {s : Lt} {x : ActV} {f g : Nat → Int} (h : Ris w b cx p q s x f g w') (hb : Below w'.heap.size w' w2) : Ris w b cx p q s x f g w2 :=
  ⟨h.g', h.n, h.ts.below hb, h.ax.below hb, h.af.below hb, h.ag.below hb, h.bel.trans (hb.mono h.bel.size), h.hb, h.hp, h.hq, h.n1, h.n2, h.n3, h.n4, h.n5, h.n6⟩
theorem Ris.setF {w w' : World} {b cx p q : Nat} {s : Lt} {x : ActV} {f g : Nat → Int} (h : Ris w b cx p q s x f g w') (i : Nat) (v : Int) (hi : i < 4) : Ris w b cx p q s x (upd f i v) g (w'.setCell ⟨p, i, none⟩ (.int .i64 v)) := by
  have hB := But.setCell w' p i (.int .i64 v)
  exact ⟨h.g', h.n, h.ts.but hB h.n2, h.ax.but hB h.n4, h.af.set i v hi, h.ag.but hB (Ne.symm h.n6), h.bel.trans (hB.below h.hp h.bel.size), h.hb, h.hp, h.hq, h.n1, h.n2, h.n3, h.n4, h.n5, h.n6⟩
theorem Ris.setG {w w' : World} {b cx p q : Nat} {s : Lt} {x : ActV} {f g : Nat → Int} (h : Ris w b cx p q s x f g w') (i : Nat) (v : Int) (hi : i < 4) : Ris w b cx p q s x f (upd g i v) (w'.setCell ⟨q, i, none⟩ (.int .i64 v)) := by
  have hB := But.setCell w' q i (.int .i64 v)
  exact ⟨h.g', h.n, h.ts.but hB h.n3, h.ax.but hB h.n5, h.af.but hB h.n6, h.ag.set i v hi, h.bel.trans (hB.below h.hq h.bel.size), h.hb, h.hp, h.hq, h.n1, h.n2, h.n3, h.n4, h.n5, h.n6⟩
theorem Ris.act {w w' w2 : World} {b cx p q : Nat} {s s' : Lt} {x : ActV} {f g : Nat → Int} (h : Ris w b cx p q s x f g w') (hT : Then b w' s' w2) (hg : Good s') (hn : s'.N = s.N) : Ris w b cx p q s' x f g w2 :=
  ⟨hg, hn.trans h.n, hT.1, h.ax.but hT.2 (Ne.symm h.n1), h.af.but hT.2 (Ne.symm h.n2), h.ag.but hT.2 (Ne.symm h.n3), h.bel.trans (hT.2.below h.hb h.bel.size), h.hb, h.hp, h.hq, h.n1, h.n2, h.n3, h.n4, h.n5, h.n6⟩
theorem new_arr (w : World) (ty : TypeId) : Arr (w.alloc (.cells #[.int .i64 0, .int .i64 0, .int .i64 0, .int .i64 0] ty)) w.heap.size (fun _ => 0) := by
  refine ⟨fun i hi => ?_, fun i => by simp⟩
  match i, hi with
  | 0, _ => simp
  | 1, _ => simp
  | 2, _ => simp
  | 3, _ => simp
end Go.Proofs.Ytphcmokcdaiphaa
