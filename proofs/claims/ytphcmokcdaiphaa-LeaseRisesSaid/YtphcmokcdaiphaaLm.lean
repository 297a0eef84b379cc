/- leases: what one worker is heard of is nothing to another one -/
import Derived.Test.YtphcmokcdaiphaaLb
import Derived.Test.YtphcmokcdaiphaaLOp
namespace Go.Proofs.Ytphcmokcdaiphaa
open Go.RowKit
set_option linter.unusedVariables false
theorem hello_NT (s : Lt) (k f t : Int) : (helloS s k f t).N = s.N ∧ (helloS s k f t).T = s.T := by
  unfold helloS bumped; split
  · split
    · exact ⟨rfl, rfl⟩
    · simp only [extended]; split <;> exact ⟨rfl, rfl⟩
  · exact ⟨rfl, rfl⟩
theorem seen_NT (s : Lt) (k e t : Int) : (seenS s k e t).N = s.N ∧ (seenS s k e t).T = s.T := by
  unfold seenS; split <;> exact ⟨rfl, rfl⟩
theorem hello_off (s : Lt) (k f t : Int) (j : Nat) (h : worker s k → j ≠ idx k) : (helloS s k f t).E j = s.E j ∧ (helloS s k f t).L j = s.L j ∧ (helloS s k f t).U j = s.U j := by
  unfold helloS
  split
  · rename_i ha
    have hj := h ha.1
    split
    · exact ⟨rfl, rfl, rfl⟩
    · unfold bumped extended
      split <;> simp [raised, upd_ne _ _ _ _ hj]
  · exact ⟨rfl, rfl, rfl⟩
theorem seen_off (s : Lt) (k e t : Int) (j : Nat) (h : worker s k → j ≠ idx k) : (seenS s k e t).E j = s.E j ∧ (seenS s k e t).L j = s.L j ∧ (seenS s k e t).U j = s.U j := by
  unfold seenS
  split
  · rename_i ha
    exact ⟨rfl, rfl, upd_ne _ _ _ _ (h ha.1)⟩
  · exact ⟨rfl, rfl, rfl⟩
/-- of worker i two tables say the same -/
structure Agree (s r : Lt) (i : Nat) : Prop where
  e : s.E i = r.E i
  l : s.L i = r.L i
  u : s.U i = r.U i
  n : s.N = r.N
  t : s.T = r.T
theorem Agree.worker {s r : Lt} {i : Nat} (h : Agree s r i) (k : Int) : worker s k ↔ worker r k := by unfold Go.Proofs.Ytphcmokcdaiphaa.worker; rw [h.n]
theorem Agree.hello_left {s r : Lt} {i : Nat} (h : Agree s r i) (k f t : Int) (hk : Go.Proofs.Ytphcmokcdaiphaa.worker s k → i ≠ idx k) : Agree (helloS s k f t) r i := by
  obtain ⟨a, b, c⟩ := hello_off s k f t i hk
  obtain ⟨d, e⟩ := hello_NT s k f t
  exact ⟨a.trans h.e, b.trans h.l, c.trans h.u, d.trans h.n, e.trans h.t⟩
theorem Agree.seen_left {s r : Lt} {i : Nat} (h : Agree s r i) (k f t : Int) (hk : Go.Proofs.Ytphcmokcdaiphaa.worker s k → i ≠ idx k) : Agree (seenS s k f t) r i := by
  obtain ⟨a, b, c⟩ := seen_off s k f t i hk
  obtain ⟨d, e⟩ := seen_NT s k f t
  exact ⟨a.trans h.e, b.trans h.l, c.trans h.u, d.trans h.n, e.trans h.t⟩
theorem Agree.hello_both {s r : Lt} {k : Int} (h : Agree s r (idx k)) (f t : Int) : Agree (helloS s k f t) (helloS r k f t) (idx k) := by
  have hw := h.worker k
  obtain ⟨d, e⟩ := hello_NT s k f t
  obtain ⟨d', e'⟩ := hello_NT r k f t
  have hn := d.trans (h.n.trans d'.symm)
  have ht := e.trans (h.t.trans e'.symm)
  by_cases ha : helloArg s k f t
  · have ha' : helloArg r k f t := ⟨hw.1 ha.1, ha.2⟩
    unfold helloS at *
    rw [if_pos ha, if_pos ha'] at *
    rw [h.l] at *
    by_cases hl : f < r.L (idx k)
    · rw [if_pos hl, if_pos hl] at *; exact h
    · rw [if_neg hl, if_neg hl] at *
      unfold bumped at *
      rw [h.l] at *
      by_cases hg : r.L (idx k) < f
      · rw [if_pos hg, if_pos hg] at *
        refine ⟨?_, ?_, ?_, hn, ht⟩
        · simp [extended, raised, upd_at, h.e]
        · simp [extended, raised, upd_at]
        · simp [extended, raised, upd_at, h.u, h.t]
      · rw [if_neg hg, if_neg hg] at *
        refine ⟨h.e, h.l, ?_, hn, ht⟩
        simp [extended, upd_at, h.u, h.t]
  · have ha' : ¬ helloArg r k f t := fun x => ha ⟨hw.2 x.1, x.2⟩
    unfold helloS; rw [if_neg ha, if_neg ha']; exact h
theorem Agree.seen_both {s r : Lt} {k : Int} (h : Agree s r (idx k)) (f t : Int) : Agree (seenS s k f t) (seenS r k f t) (idx k) := by
  have hw := h.worker k
  have hiff : seenOk s k f t ↔ seenOk r k f t := by unfold seenOk; rw [h.e]; exact ⟨fun x => ⟨hw.1 x.1, x.2⟩, fun x => ⟨hw.2 x.1, x.2⟩⟩
  unfold seenS
  by_cases ha : seenOk s k f t
  · rw [if_pos ha, if_pos (hiff.1 ha)]
    exact ⟨h.e, h.l, by simp [extended, upd_at, h.u, h.t], h.n, h.t⟩
  · rw [if_neg ha, if_neg (fun x => ha (hiff.2 x))]; exact h
theorem Agree.live {s r : Lt} {k : Int} (h : Agree s r (idx k)) (t : Int) : decide (liveOk s k t) = decide (liveOk r k t) := by
  have hw := h.worker k
  have : liveOk s k t ↔ liveOk r k t := by unfold liveOk; rw [h.e, h.u]; exact ⟨fun x => ⟨hw.1 x.1, x.2⟩, fun x => ⟨hw.2 x.1, x.2⟩⟩
  simp [this]
theorem Agree.epoch {s r : Lt} {k : Int} (h : Agree s r (idx k)) : epochS s k = epochS r k := by
  have hw := h.worker k
  unfold epochS; rw [h.e]; simp [hw]
theorem Agree.life {s r : Lt} {k : Int} (h : Agree s r (idx k)) : lifeS s k = lifeS r k := by
  have hw := h.worker k
  unfold lifeS; rw [h.l]; simp [hw]
/-- an act in a variable of its own -/
structure ActAt (w : World) (c : Nat) (x : ActV) : Prop where
  q : w.cell? ⟨c, 0, none⟩ = some (.bool x.q)
  k : w.cell? ⟨c, 1, none⟩ = some (.int .i64 x.k)
  n : w.cell? ⟨c, 2, none⟩ = some (.int .i64 x.n)
  t : w.cell? ⟨c, 3, none⟩ = some (.int .i64 x.t)
theorem new_is_act (w : World) (x : ActV) (ty : TypeId) : ActAt (w.alloc (.cells #[.bool x.q, .int .i64 x.k, .int .i64 x.n, .int .i64 x.t] ty)) w.heap.size x := ⟨by simp, by simp, by simp, by simp⟩
theorem ActAt.lt {w : World} {c : Nat} {x : ActV} (h : ActAt w c x) : c < w.heap.size := lt_of_cell h.q
theorem ActAt.block {w w' : World} {c : Nat} {x : ActV} (h : ActAt w c x) (hb : w'.heap[c]? = w.heap[c]?) : ActAt w' c x := by
  have hc : ∀ i, w'.cell? ⟨c, i, none⟩ = w.cell? ⟨c, i, none⟩ := fun i => World.cell?_of_block (w := w) hb
  exact ⟨by rw [hc]; exact h.q, by rw [hc]; exact h.k, by rw [hc]; exact h.n, by rw [hc]; exact h.t⟩
theorem ActAt.but {w w' : World} {c b : Nat} {x : ActV} (h : ActAt w c x) (hb : But b w w') (hc : c ≠ b) : ActAt w' c x := h.block (hb.block c h.lt hc)
theorem ActAt.below {w w' : World} {c : Nat} {x : ActV} (h : ActAt w c x) (hb : Below w.heap.size w w') : ActAt w' c x := h.block (hb.block c h.lt)
end Go.Proofs.Ytphcmokcdaiphaa
