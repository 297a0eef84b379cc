/- leases: who was heard lives for just the term behind it -/
import Derived.Test.YtphcmokcdaiphaaLp
import Derived.Test.YtphcmokcdaiphaaOpQ
namespace Go.Proofs.Ytphcmokcdaiphaa
open Go.RowKit
set_option linter.unusedVariables false
structure Liv (w : World) (b : Nat) (s : Lt) (T now : Int) (w' : World) : Prop where
  g : Good s
  tab : Tab w' b s
  bel : Below w.heap.size w w'
  n : s.N = 1
  t : s.T = T
  e : s.E 0 = 1
  l : s.L 0 = 1
  u : s.U 0 = now + T
theorem seen_lit {s s' : Lt} {x : Bool} (b : Nat) (k e t : Int) (w : World) (h : Tab w b s) (hg : Good s) (h1 : decide (seenOk s k e t) = x) (h2 : seenS s k e t = s') :
    Calls Try.prog 13 #[.pointer (some ⟨b, 0, none⟩), .int .i64 k, .int .i64 e, .int .i64 t] w fun r w' => r = .returned (.bool x) ∧ Then b w s' w' := by
  subst h1 h2; exact seen_any b k e t w h hg
theorem Liv.one {w w' : World} {b : Nat} {s : Lt} {T now : Int} (h : Liv w b s T now w') : worker s 1 := by have := h.n; unfold worker; omega
theorem Liv.hello {w w' : World} {b : Nat} {s : Lt} {T now t : Int} (h : Liv w b s T now w') (h1 : now ≤ t) (h2 : 0 ≤ t ∧ t ≤ 2000) :
    ∃ s', helloE s 1 1 t = 1 ∧ helloN s 1 1 t = 0 ∧ helloS s 1 1 t = s' ∧ ∀ w2, Then b w' s' w2 → w.heap.size ≤ b → Liv w b s' T t w2 := by
  have ha : helloArg s 1 1 t := ⟨h.one, by unfold lived; omega, by unfold timed; omega⟩
  obtain ⟨e1, e2, e3, e4, e5, e6, e7⟩ := hello_eq ha h.l
  rw [show idx 1 = 0 by decide] at e1 e7
  have hg := hello_good h.g 1 1 t
  have hu := h.u; have ht := h.t
  refine ⟨_, by rw [e1]; exact h.e, e2, rfl, fun w2 hT hb => ⟨hg, hT.1, h.bel.trans (hT.2.below hb h.bel.size), by rw [e5]; exact h.n, by rw [e6]; exact h.t, by rw [e3]; exact h.e, by rw [e4]; exact h.l, by rw [e7, upd_at, hu, ht]; omega⟩⟩
theorem Liv.seen {w w' : World} {b : Nat} {s : Lt} {T now t : Int} (h : Liv w b s T now w') (h1 : now ≤ t) (h2 : 0 ≤ t ∧ t ≤ 2000) :
    ∃ s', decide (seenOk s 1 1 t) = true ∧ seenS s 1 1 t = s' ∧ ∀ w2, Then b w' s' w2 → w.heap.size ≤ b → Liv w b s' T t w2 := by
  have ha : seenOk s 1 1 t := ⟨h.one, by unfold timed; omega, by rw [show idx 1 = 0 by decide, h.e]; omega, by rw [show idx 1 = 0 by decide, h.e]⟩
  have hg := seen_good h.g 1 1 t
  have hs : seenS s 1 1 t = extended s 0 t := if_pos ha
  have hu := h.u; have ht := h.t
  rw [hs] at hg
  refine ⟨_, decide_eq_true ha, hs, fun w2 hT hb => ⟨hg, hT.1, h.bel.trans (hT.2.below hb h.bel.size), h.n, h.t, h.e, h.l, by simp only [extended, upd_at, hu, ht]; omega⟩⟩
theorem Liv.other {w w' : World} {b : Nat} {s : Lt} {T now t : Int} (h : Liv w b s T now w') :
    decide (seenOk s 1 2 t) = false ∧ seenS s 1 2 t = s ∧ ∀ w2, Then b w' s w2 → w.heap.size ≤ b → Liv w b s T now w2 := by
  have ha : ¬ seenOk s 1 2 t := fun x => by have := x.2.2.2; rw [show idx 1 = 0 by decide, h.e] at this; omega
  exact ⟨decide_eq_false ha, if_neg ha, fun w2 hT hb => ⟨h.g, hT.1, h.bel.trans (hT.2.below hb h.bel.size), h.n, h.t, h.e, h.l, h.u⟩⟩
theorem Liv.live {w w' : World} {b : Nat} {s : Lt} {T now look : Int} (h : Liv w b s T now w') : decide (liveOk s 1 (now + look)) = decide (look ≤ T) := by
  have h1 : liveOk s 1 (now + look) ↔ look ≤ T := by
    have hu := h.u; have he := h.e
    unfold liveOk
    rw [show idx 1 = 0 by decide]
    exact ⟨fun x => by have := x.2.2; omega, fun x => ⟨h.one, by omega, by omega⟩⟩
  simp [h1]
theorem Liv.epoch {w w' : World} {b : Nat} {s : Lt} {T now : Int} (h : Liv w b s T now w') : epochS s 1 = 1 := by unfold epochS; rw [if_pos h.one]; exact h.e
theorem newLives (w w' : World) (b : Nat) (T : Int) (hT : 1 ≤ T ∧ T ≤ 20) (ht : Tab w' b (newS 1 T)) (hB : Below w.heap.size w w') :
    decide (liveOk (newS 1 T) 1 0) = false ∧ ∃ s', helloE (newS 1 T) 1 1 0 = 1 ∧ helloN (newS 1 T) 1 1 0 = 0 ∧ helloS (newS 1 T) 1 1 0 = s' ∧ ∀ w1 w2, Then b w1 s' w2 → w.heap.size ≤ b → Below w.heap.size w w1 → Liv w b s' T 0 w2 := by
  have hg : Good (newS 1 T) := new_is_good (by omega)
  have ha : helloArg (newS 1 T) 1 1 0 := ⟨by unfold worker newS; simp, by unfold lived; omega, by unfold timed; omega⟩
  obtain ⟨e1, e2, e3, e4, e5, e6, e7⟩ := hello_gt ha (by simp [newS])
  rw [show idx 1 = 0 by decide] at e1 e3 e4 e7
  have hg2 := hello_good hg 1 1 0
  refine ⟨decide_eq_false (fun x => absurd x.2.1 (by simp [newS])), _, by rw [e1]; simp [newS], e2, rfl, fun w1 w2 hT2 hb hB1 => ⟨hg2, hT2.1, hB1.trans (hT2.2.below hb hB1.size), by rw [e5]; rfl, by rw [e6]; rfl, by rw [e3, upd_at]; simp [newS], by rw [e4, upd_at], by rw [e7, upd_at]; simp [newS]; omega⟩⟩
end Go.Proofs.Ytphcmokcdaiphaa
