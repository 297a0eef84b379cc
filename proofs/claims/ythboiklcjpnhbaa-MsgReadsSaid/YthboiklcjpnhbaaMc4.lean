/- the messages of an argument, boxed (by gen/mc4.py) -/
import Derived.Test.YthboiklcjpnhbaaOpMsg
namespace Go.Proofs.Ythboiklcjpnhbaa
open Go.RowKit
set_option linter.unusedVariables false
set_option maxRecDepth 20000
theorem great_no {x : AskP} {y : RepP} (h : greatQ x y = false) : x.text.size ≤ 100 ∧ x.aw.size ≤ 100 ∧ y.items.length ≤ 80 ∧ smallK y.items := by
  unfold greatQ at h
  simp only [Bool.or_eq_false_iff, decide_eq_false_iff_not] at h
  obtain ⟨a, b, c⟩ := h
  exact ⟨by omega, by omega, greatK_no_iff.1 c⟩
theorem one_held {W w : World} (k h1 h2 g1 g2 g3 : Int) (x : AskP) (y : RepP) (s1 s2 : Int) (hy : RepOk W y) (hb : Below W.heap.size W w) : heldM w (oneM k h1 h2 g1 g2 g3 x y s1 s2) := by
  unfold oneM
  repeat' split
  all_goals first | trivial | exact ⟨hy.1.below hb, hy.2.1, hy.2.2.1⟩
theorem one_small {W : World} (k h1 h2 g1 g2 g3 : Int) (x : AskP) (y : RepP) (s1 s2 : Int) (hy : RepOk W y) (hg : greatQ x y = false) : smallM (oneM k h1 h2 g1 g2 g3 x y s1 s2) := by
  obtain ⟨a, b, c, d⟩ := great_no hg
  have hl := hy.1.len
  unfold oneM
  repeat' split
  all_goals first | trivial | exact ⟨by omega, by omega⟩ | exact ⟨fun k hk => by have := d k hk; omega, by omega⟩
theorem sameB_yes (a1 a2 : Option Addr) (n1 c1 n2 c2 : Nat) (xs : List Nat) (w : World) (h1 : HoldsB w a1 n1 xs) (h2 : HoldsB w a2 n2 xs) (hl1 : n1 ≤ 4611686018427387904) (hl2 : n2 ≤ 4611686018427387904) :
    Calls Try.prog 17 #[.slice a1 n1 c1, .slice a2 n2 c2] w fun e w' => e = .returned (.bool true) ∧ Below w.heap.size w w' :=
  (sameB_any a1 a2 n1 c1 n2 c2 xs xs w h1 h2 hl1 hl2).mono fun e w' ⟨he, m, hw⟩ => ⟨by rw [he, decide_eq_true rfl], hw ▸ below_drewN w m⟩
def Box5 (w0 : World) (h1 h2 g1 g2 g3 : Int) (x : AskP) (y : RepP) (s1 s2 : Int) (w : World) : Prop := Below w0.heap.size w0 w ∧ HelloIn w (w0.heap.size) h1 h2 ∧ GrantIn w (w0.heap.size + 1) g1 g2 g3 ∧ MAskIn w (w0.heap.size + 2) x ∧ ReplyIn w (w0.heap.size + 3) y ∧ StopIn w (w0.heap.size + 4) s1 s2
theorem Box5.carry {w0 : World} {h1 h2 g1 g2 g3 : Int} {x : AskP} {y : RepP} {s1 s2 : Int} {w w' : World} (h : Box5 w0 h1 h2 g1 g2 g3 x y s1 s2 w) (hb : Below w.heap.size w w') : Box5 w0 h1 h2 g1 g2 g3 x y s1 s2 w' := by
  obtain ⟨h, c0, c1, c2, c3, c4⟩ := h
  exact ⟨h.trans (hb.mono h.size), c0.below hb, c1.below hb, c2.below hb, c3.below hb, c4.below hb⟩
theorem Box5.new (w0 : World) (h1 h2 g1 g2 g3 : Int) (x : AskP) (y : RepP) (s1 s2 : Int) : Box5 w0 h1 h2 g1 g2 g3 x y s1 s2 (((((w0.alloc (.cells #[.int .i64 h1, .int .i64 h2] 23)).alloc (.cells #[.int .i64 g1, .int .i64 g2, .int .i64 g3] 25)).alloc (.cells #[.int .i64 x.slot, .int .i64 x.query, .int .i64 x.shard, .int .i64 x.seq, .int .i64 x.epoch, .string x.text, .int .i64 x.k, .int .i64 x.batch, .bool x.first, .int .i64 x.ad, .string x.aw] 29)).alloc (.cells #[.int .i64 y.slot, .int .i64 y.query, .int .i64 y.shard, .int .i64 y.seq, .int .i64 y.worker, .int .i64 y.epoch, .slice y.ia y.n y.ic, .bool y.fin] 32)).alloc (.cells #[.int .i64 s1, .int .i64 s2] 34)) := by
  have z0 : w0.heap.size = w0.heap.size := by simp
  have f0 := HelloIn_new w0 h1 h2 (w0.heap.size) 23 (0, 0) z0.symm
  have b0 := below_one w0 (.cells #[.int .i64 h1, .int .i64 h2] 23)
  have B0 : Below w0.heap.size w0 (w0.alloc (.cells #[.int .i64 h1, .int .i64 h2] 23)) := b0
  have z1 : (w0.alloc (.cells #[.int .i64 h1, .int .i64 h2] 23)).heap.size = w0.heap.size + 1 := by simp
  have f1 := GrantIn_new (w0.alloc (.cells #[.int .i64 h1, .int .i64 h2] 23)) g1 g2 g3 (w0.heap.size + 1) 25 (0, 0) z1.symm
  have b1 := below_one (w0.alloc (.cells #[.int .i64 h1, .int .i64 h2] 23)) (.cells #[.int .i64 g1, .int .i64 g2, .int .i64 g3] 25)
  replace f0 := f0.below b1
  have B1 : Below w0.heap.size w0 ((w0.alloc (.cells #[.int .i64 h1, .int .i64 h2] 23)).alloc (.cells #[.int .i64 g1, .int .i64 g2, .int .i64 g3] 25)) := B0.trans (b1.mono B0.size)
  have z2 : ((w0.alloc (.cells #[.int .i64 h1, .int .i64 h2] 23)).alloc (.cells #[.int .i64 g1, .int .i64 g2, .int .i64 g3] 25)).heap.size = w0.heap.size + 2 := by simp
  have f2 := MAskIn_new ((w0.alloc (.cells #[.int .i64 h1, .int .i64 h2] 23)).alloc (.cells #[.int .i64 g1, .int .i64 g2, .int .i64 g3] 25)) x (w0.heap.size + 2) 29 (0, 0) z2.symm
  have b2 := below_one ((w0.alloc (.cells #[.int .i64 h1, .int .i64 h2] 23)).alloc (.cells #[.int .i64 g1, .int .i64 g2, .int .i64 g3] 25)) (.cells #[.int .i64 x.slot, .int .i64 x.query, .int .i64 x.shard, .int .i64 x.seq, .int .i64 x.epoch, .string x.text, .int .i64 x.k, .int .i64 x.batch, .bool x.first, .int .i64 x.ad, .string x.aw] 29)
  replace f0 := f0.below b2
  replace f1 := f1.below b2
  have B2 : Below w0.heap.size w0 (((w0.alloc (.cells #[.int .i64 h1, .int .i64 h2] 23)).alloc (.cells #[.int .i64 g1, .int .i64 g2, .int .i64 g3] 25)).alloc (.cells #[.int .i64 x.slot, .int .i64 x.query, .int .i64 x.shard, .int .i64 x.seq, .int .i64 x.epoch, .string x.text, .int .i64 x.k, .int .i64 x.batch, .bool x.first, .int .i64 x.ad, .string x.aw] 29)) := B1.trans (b2.mono B1.size)
  have z3 : (((w0.alloc (.cells #[.int .i64 h1, .int .i64 h2] 23)).alloc (.cells #[.int .i64 g1, .int .i64 g2, .int .i64 g3] 25)).alloc (.cells #[.int .i64 x.slot, .int .i64 x.query, .int .i64 x.shard, .int .i64 x.seq, .int .i64 x.epoch, .string x.text, .int .i64 x.k, .int .i64 x.batch, .bool x.first, .int .i64 x.ad, .string x.aw] 29)).heap.size = w0.heap.size + 3 := by simp
  have f3 := ReplyIn_new (((w0.alloc (.cells #[.int .i64 h1, .int .i64 h2] 23)).alloc (.cells #[.int .i64 g1, .int .i64 g2, .int .i64 g3] 25)).alloc (.cells #[.int .i64 x.slot, .int .i64 x.query, .int .i64 x.shard, .int .i64 x.seq, .int .i64 x.epoch, .string x.text, .int .i64 x.k, .int .i64 x.batch, .bool x.first, .int .i64 x.ad, .string x.aw] 29)) y (w0.heap.size + 3) 32 (0, 0) z3.symm
  have b3 := below_one (((w0.alloc (.cells #[.int .i64 h1, .int .i64 h2] 23)).alloc (.cells #[.int .i64 g1, .int .i64 g2, .int .i64 g3] 25)).alloc (.cells #[.int .i64 x.slot, .int .i64 x.query, .int .i64 x.shard, .int .i64 x.seq, .int .i64 x.epoch, .string x.text, .int .i64 x.k, .int .i64 x.batch, .bool x.first, .int .i64 x.ad, .string x.aw] 29)) (.cells #[.int .i64 y.slot, .int .i64 y.query, .int .i64 y.shard, .int .i64 y.seq, .int .i64 y.worker, .int .i64 y.epoch, .slice y.ia y.n y.ic, .bool y.fin] 32)
  replace f0 := f0.below b3
  replace f1 := f1.below b3
  replace f2 := f2.below b3
  have B3 : Below w0.heap.size w0 ((((w0.alloc (.cells #[.int .i64 h1, .int .i64 h2] 23)).alloc (.cells #[.int .i64 g1, .int .i64 g2, .int .i64 g3] 25)).alloc (.cells #[.int .i64 x.slot, .int .i64 x.query, .int .i64 x.shard, .int .i64 x.seq, .int .i64 x.epoch, .string x.text, .int .i64 x.k, .int .i64 x.batch, .bool x.first, .int .i64 x.ad, .string x.aw] 29)).alloc (.cells #[.int .i64 y.slot, .int .i64 y.query, .int .i64 y.shard, .int .i64 y.seq, .int .i64 y.worker, .int .i64 y.epoch, .slice y.ia y.n y.ic, .bool y.fin] 32)) := B2.trans (b3.mono B2.size)
  have z4 : ((((w0.alloc (.cells #[.int .i64 h1, .int .i64 h2] 23)).alloc (.cells #[.int .i64 g1, .int .i64 g2, .int .i64 g3] 25)).alloc (.cells #[.int .i64 x.slot, .int .i64 x.query, .int .i64 x.shard, .int .i64 x.seq, .int .i64 x.epoch, .string x.text, .int .i64 x.k, .int .i64 x.batch, .bool x.first, .int .i64 x.ad, .string x.aw] 29)).alloc (.cells #[.int .i64 y.slot, .int .i64 y.query, .int .i64 y.shard, .int .i64 y.seq, .int .i64 y.worker, .int .i64 y.epoch, .slice y.ia y.n y.ic, .bool y.fin] 32)).heap.size = w0.heap.size + 4 := by simp
  have f4 := StopIn_new ((((w0.alloc (.cells #[.int .i64 h1, .int .i64 h2] 23)).alloc (.cells #[.int .i64 g1, .int .i64 g2, .int .i64 g3] 25)).alloc (.cells #[.int .i64 x.slot, .int .i64 x.query, .int .i64 x.shard, .int .i64 x.seq, .int .i64 x.epoch, .string x.text, .int .i64 x.k, .int .i64 x.batch, .bool x.first, .int .i64 x.ad, .string x.aw] 29)).alloc (.cells #[.int .i64 y.slot, .int .i64 y.query, .int .i64 y.shard, .int .i64 y.seq, .int .i64 y.worker, .int .i64 y.epoch, .slice y.ia y.n y.ic, .bool y.fin] 32)) s1 s2 (w0.heap.size + 4) 34 (0, 0) z4.symm
  have b4 := below_one ((((w0.alloc (.cells #[.int .i64 h1, .int .i64 h2] 23)).alloc (.cells #[.int .i64 g1, .int .i64 g2, .int .i64 g3] 25)).alloc (.cells #[.int .i64 x.slot, .int .i64 x.query, .int .i64 x.shard, .int .i64 x.seq, .int .i64 x.epoch, .string x.text, .int .i64 x.k, .int .i64 x.batch, .bool x.first, .int .i64 x.ad, .string x.aw] 29)).alloc (.cells #[.int .i64 y.slot, .int .i64 y.query, .int .i64 y.shard, .int .i64 y.seq, .int .i64 y.worker, .int .i64 y.epoch, .slice y.ia y.n y.ic, .bool y.fin] 32)) (.cells #[.int .i64 s1, .int .i64 s2] 34)
  replace f0 := f0.below b4
  replace f1 := f1.below b4
  replace f2 := f2.below b4
  replace f3 := f3.below b4
  have B4 : Below w0.heap.size w0 (((((w0.alloc (.cells #[.int .i64 h1, .int .i64 h2] 23)).alloc (.cells #[.int .i64 g1, .int .i64 g2, .int .i64 g3] 25)).alloc (.cells #[.int .i64 x.slot, .int .i64 x.query, .int .i64 x.shard, .int .i64 x.seq, .int .i64 x.epoch, .string x.text, .int .i64 x.k, .int .i64 x.batch, .bool x.first, .int .i64 x.ad, .string x.aw] 29)).alloc (.cells #[.int .i64 y.slot, .int .i64 y.query, .int .i64 y.shard, .int .i64 y.seq, .int .i64 y.worker, .int .i64 y.epoch, .slice y.ia y.n y.ic, .bool y.fin] 32)).alloc (.cells #[.int .i64 s1, .int .i64 s2] 34)) := B3.trans (b4.mono B3.size)
  exact ⟨B4, f0, f1, f2, f3, f4⟩
def Box6 (w0 : World) (h1 h2 g1 g2 g3 : Int) (x : AskP) (y : RepP) (s1 s2 : Int) (z : AskP) (w : World) : Prop := Below w0.heap.size w0 w ∧ HelloIn w (w0.heap.size) h1 h2 ∧ GrantIn w (w0.heap.size + 1) g1 g2 g3 ∧ MAskIn w (w0.heap.size + 2) x ∧ ReplyIn w (w0.heap.size + 3) y ∧ StopIn w (w0.heap.size + 4) s1 s2 ∧ MAskIn w (w0.heap.size + 5) z
theorem Box6.carry {w0 : World} {h1 h2 g1 g2 g3 : Int} {x : AskP} {y : RepP} {s1 s2 : Int} {z : AskP} {w w' : World} (h : Box6 w0 h1 h2 g1 g2 g3 x y s1 s2 z w) (hb : Below w.heap.size w w') : Box6 w0 h1 h2 g1 g2 g3 x y s1 s2 z w' := by
  obtain ⟨h, c0, c1, c2, c3, c4, c5⟩ := h
  exact ⟨h.trans (hb.mono h.size), c0.below hb, c1.below hb, c2.below hb, c3.below hb, c4.below hb, c5.below hb⟩
theorem Box6.new (w0 : World) (h1 h2 g1 g2 g3 : Int) (x : AskP) (y : RepP) (s1 s2 : Int) (z : AskP) : Box6 w0 h1 h2 g1 g2 g3 x y s1 s2 z ((((((w0.alloc (.cells #[.int .i64 h1, .int .i64 h2] 23)).alloc (.cells #[.int .i64 g1, .int .i64 g2, .int .i64 g3] 25)).alloc (.cells #[.int .i64 x.slot, .int .i64 x.query, .int .i64 x.shard, .int .i64 x.seq, .int .i64 x.epoch, .string x.text, .int .i64 x.k, .int .i64 x.batch, .bool x.first, .int .i64 x.ad, .string x.aw] 29)).alloc (.cells #[.int .i64 y.slot, .int .i64 y.query, .int .i64 y.shard, .int .i64 y.seq, .int .i64 y.worker, .int .i64 y.epoch, .slice y.ia y.n y.ic, .bool y.fin] 32)).alloc (.cells #[.int .i64 s1, .int .i64 s2] 34)).alloc (.cells #[.int .i64 z.slot, .int .i64 z.query, .int .i64 z.shard, .int .i64 z.seq, .int .i64 z.epoch, .string z.text, .int .i64 z.k, .int .i64 z.batch, .bool z.first, .int .i64 z.ad, .string z.aw] 29)) := by
  have z0 : w0.heap.size = w0.heap.size := by simp
  have f0 := HelloIn_new w0 h1 h2 (w0.heap.size) 23 (0, 0) z0.symm
  have b0 := below_one w0 (.cells #[.int .i64 h1, .int .i64 h2] 23)
  have B0 : Below w0.heap.size w0 (w0.alloc (.cells #[.int .i64 h1, .int .i64 h2] 23)) := b0
  have z1 : (w0.alloc (.cells #[.int .i64 h1, .int .i64 h2] 23)).heap.size = w0.heap.size + 1 := by simp
  have f1 := GrantIn_new (w0.alloc (.cells #[.int .i64 h1, .int .i64 h2] 23)) g1 g2 g3 (w0.heap.size + 1) 25 (0, 0) z1.symm
  have b1 := below_one (w0.alloc (.cells #[.int .i64 h1, .int .i64 h2] 23)) (.cells #[.int .i64 g1, .int .i64 g2, .int .i64 g3] 25)
  replace f0 := f0.below b1
  have B1 : Below w0.heap.size w0 ((w0.alloc (.cells #[.int .i64 h1, .int .i64 h2] 23)).alloc (.cells #[.int .i64 g1, .int .i64 g2, .int .i64 g3] 25)) := B0.trans (b1.mono B0.size)
  have z2 : ((w0.alloc (.cells #[.int .i64 h1, .int .i64 h2] 23)).alloc (.cells #[.int .i64 g1, .int .i64 g2, .int .i64 g3] 25)).heap.size = w0.heap.size + 2 := by simp
  have f2 := MAskIn_new ((w0.alloc (.cells #[.int .i64 h1, .int .i64 h2] 23)).alloc (.cells #[.int .i64 g1, .int .i64 g2, .int .i64 g3] 25)) x (w0.heap.size + 2) 29 (0, 0) z2.symm
  have b2 := below_one ((w0.alloc (.cells #[.int .i64 h1, .int .i64 h2] 23)).alloc (.cells #[.int .i64 g1, .int .i64 g2, .int .i64 g3] 25)) (.cells #[.int .i64 x.slot, .int .i64 x.query, .int .i64 x.shard, .int .i64 x.seq, .int .i64 x.epoch, .string x.text, .int .i64 x.k, .int .i64 x.batch, .bool x.first, .int .i64 x.ad, .string x.aw] 29)
  replace f0 := f0.below b2
  replace f1 := f1.below b2
  have B2 : Below w0.heap.size w0 (((w0.alloc (.cells #[.int .i64 h1, .int .i64 h2] 23)).alloc (.cells #[.int .i64 g1, .int .i64 g2, .int .i64 g3] 25)).alloc (.cells #[.int .i64 x.slot, .int .i64 x.query, .int .i64 x.shard, .int .i64 x.seq, .int .i64 x.epoch, .string x.text, .int .i64 x.k, .int .i64 x.batch, .bool x.first, .int .i64 x.ad, .string x.aw] 29)) := B1.trans (b2.mono B1.size)
  have z3 : (((w0.alloc (.cells #[.int .i64 h1, .int .i64 h2] 23)).alloc (.cells #[.int .i64 g1, .int .i64 g2, .int .i64 g3] 25)).alloc (.cells #[.int .i64 x.slot, .int .i64 x.query, .int .i64 x.shard, .int .i64 x.seq, .int .i64 x.epoch, .string x.text, .int .i64 x.k, .int .i64 x.batch, .bool x.first, .int .i64 x.ad, .string x.aw] 29)).heap.size = w0.heap.size + 3 := by simp
  have f3 := ReplyIn_new (((w0.alloc (.cells #[.int .i64 h1, .int .i64 h2] 23)).alloc (.cells #[.int .i64 g1, .int .i64 g2, .int .i64 g3] 25)).alloc (.cells #[.int .i64 x.slot, .int .i64 x.query, .int .i64 x.shard, .int .i64 x.seq, .int .i64 x.epoch, .string x.text, .int .i64 x.k, .int .i64 x.batch, .bool x.first, .int .i64 x.ad, .string x.aw] 29)) y (w0.heap.size + 3) 32 (0, 0) z3.symm
  have b3 := below_one (((w0.alloc (.cells #[.int .i64 h1, .int .i64 h2] 23)).alloc (.cells #[.int .i64 g1, .int .i64 g2, .int .i64 g3] 25)).alloc (.cells #[.int .i64 x.slot, .int .i64 x.query, .int .i64 x.shard, .int .i64 x.seq, .int .i64 x.epoch, .string x.text, .int .i64 x.k, .int .i64 x.batch, .bool x.first, .int .i64 x.ad, .string x.aw] 29)) (.cells #[.int .i64 y.slot, .int .i64 y.query, .int .i64 y.shard, .int .i64 y.seq, .int .i64 y.worker, .int .i64 y.epoch, .slice y.ia y.n y.ic, .bool y.fin] 32)
  replace f0 := f0.below b3
  replace f1 := f1.below b3
  replace f2 := f2.below b3
  have B3 : Below w0.heap.size w0 ((((w0.alloc (.cells #[.int .i64 h1, .int .i64 h2] 23)).alloc (.cells #[.int .i64 g1, .int .i64 g2, .int .i64 g3] 25)).alloc (.cells #[.int .i64 x.slot, .int .i64 x.query, .int .i64 x.shard, .int .i64 x.seq, .int .i64 x.epoch, .string x.text, .int .i64 x.k, .int .i64 x.batch, .bool x.first, .int .i64 x.ad, .string x.aw] 29)).alloc (.cells #[.int .i64 y.slot, .int .i64 y.query, .int .i64 y.shard, .int .i64 y.seq, .int .i64 y.worker, .int .i64 y.epoch, .slice y.ia y.n y.ic, .bool y.fin] 32)) := B2.trans (b3.mono B2.size)
  have z4 : ((((w0.alloc (.cells #[.int .i64 h1, .int .i64 h2] 23)).alloc (.cells #[.int .i64 g1, .int .i64 g2, .int .i64 g3] 25)).alloc (.cells #[.int .i64 x.slot, .int .i64 x.query, .int .i64 x.shard, .int .i64 x.seq, .int .i64 x.epoch, .string x.text, .int .i64 x.k, .int .i64 x.batch, .bool x.first, .int .i64 x.ad, .string x.aw] 29)).alloc (.cells #[.int .i64 y.slot, .int .i64 y.query, .int .i64 y.shard, .int .i64 y.seq, .int .i64 y.worker, .int .i64 y.epoch, .slice y.ia y.n y.ic, .bool y.fin] 32)).heap.size = w0.heap.size + 4 := by simp
  have f4 := StopIn_new ((((w0.alloc (.cells #[.int .i64 h1, .int .i64 h2] 23)).alloc (.cells #[.int .i64 g1, .int .i64 g2, .int .i64 g3] 25)).alloc (.cells #[.int .i64 x.slot, .int .i64 x.query, .int .i64 x.shard, .int .i64 x.seq, .int .i64 x.epoch, .string x.text, .int .i64 x.k, .int .i64 x.batch, .bool x.first, .int .i64 x.ad, .string x.aw] 29)).alloc (.cells #[.int .i64 y.slot, .int .i64 y.query, .int .i64 y.shard, .int .i64 y.seq, .int .i64 y.worker, .int .i64 y.epoch, .slice y.ia y.n y.ic, .bool y.fin] 32)) s1 s2 (w0.heap.size + 4) 34 (0, 0) z4.symm
  have b4 := below_one ((((w0.alloc (.cells #[.int .i64 h1, .int .i64 h2] 23)).alloc (.cells #[.int .i64 g1, .int .i64 g2, .int .i64 g3] 25)).alloc (.cells #[.int .i64 x.slot, .int .i64 x.query, .int .i64 x.shard, .int .i64 x.seq, .int .i64 x.epoch, .string x.text, .int .i64 x.k, .int .i64 x.batch, .bool x.first, .int .i64 x.ad, .string x.aw] 29)).alloc (.cells #[.int .i64 y.slot, .int .i64 y.query, .int .i64 y.shard, .int .i64 y.seq, .int .i64 y.worker, .int .i64 y.epoch, .slice y.ia y.n y.ic, .bool y.fin] 32)) (.cells #[.int .i64 s1, .int .i64 s2] 34)
  replace f0 := f0.below b4
  replace f1 := f1.below b4
  replace f2 := f2.below b4
  replace f3 := f3.below b4
  have B4 : Below w0.heap.size w0 (((((w0.alloc (.cells #[.int .i64 h1, .int .i64 h2] 23)).alloc (.cells #[.int .i64 g1, .int .i64 g2, .int .i64 g3] 25)).alloc (.cells #[.int .i64 x.slot, .int .i64 x.query, .int .i64 x.shard, .int .i64 x.seq, .int .i64 x.epoch, .string x.text, .int .i64 x.k, .int .i64 x.batch, .bool x.first, .int .i64 x.ad, .string x.aw] 29)).alloc (.cells #[.int .i64 y.slot, .int .i64 y.query, .int .i64 y.shard, .int .i64 y.seq, .int .i64 y.worker, .int .i64 y.epoch, .slice y.ia y.n y.ic, .bool y.fin] 32)).alloc (.cells #[.int .i64 s1, .int .i64 s2] 34)) := B3.trans (b4.mono B3.size)
  have z5 : (((((w0.alloc (.cells #[.int .i64 h1, .int .i64 h2] 23)).alloc (.cells #[.int .i64 g1, .int .i64 g2, .int .i64 g3] 25)).alloc (.cells #[.int .i64 x.slot, .int .i64 x.query, .int .i64 x.shard, .int .i64 x.seq, .int .i64 x.epoch, .string x.text, .int .i64 x.k, .int .i64 x.batch, .bool x.first, .int .i64 x.ad, .string x.aw] 29)).alloc (.cells #[.int .i64 y.slot, .int .i64 y.query, .int .i64 y.shard, .int .i64 y.seq, .int .i64 y.worker, .int .i64 y.epoch, .slice y.ia y.n y.ic, .bool y.fin] 32)).alloc (.cells #[.int .i64 s1, .int .i64 s2] 34)).heap.size = w0.heap.size + 5 := by simp
  have f5 := MAskIn_new (((((w0.alloc (.cells #[.int .i64 h1, .int .i64 h2] 23)).alloc (.cells #[.int .i64 g1, .int .i64 g2, .int .i64 g3] 25)).alloc (.cells #[.int .i64 x.slot, .int .i64 x.query, .int .i64 x.shard, .int .i64 x.seq, .int .i64 x.epoch, .string x.text, .int .i64 x.k, .int .i64 x.batch, .bool x.first, .int .i64 x.ad, .string x.aw] 29)).alloc (.cells #[.int .i64 y.slot, .int .i64 y.query, .int .i64 y.shard, .int .i64 y.seq, .int .i64 y.worker, .int .i64 y.epoch, .slice y.ia y.n y.ic, .bool y.fin] 32)).alloc (.cells #[.int .i64 s1, .int .i64 s2] 34)) z (w0.heap.size + 5) 29 (0, 0) z5.symm
  have b5 := below_one (((((w0.alloc (.cells #[.int .i64 h1, .int .i64 h2] 23)).alloc (.cells #[.int .i64 g1, .int .i64 g2, .int .i64 g3] 25)).alloc (.cells #[.int .i64 x.slot, .int .i64 x.query, .int .i64 x.shard, .int .i64 x.seq, .int .i64 x.epoch, .string x.text, .int .i64 x.k, .int .i64 x.batch, .bool x.first, .int .i64 x.ad, .string x.aw] 29)).alloc (.cells #[.int .i64 y.slot, .int .i64 y.query, .int .i64 y.shard, .int .i64 y.seq, .int .i64 y.worker, .int .i64 y.epoch, .slice y.ia y.n y.ic, .bool y.fin] 32)).alloc (.cells #[.int .i64 s1, .int .i64 s2] 34)) (.cells #[.int .i64 z.slot, .int .i64 z.query, .int .i64 z.shard, .int .i64 z.seq, .int .i64 z.epoch, .string z.text, .int .i64 z.k, .int .i64 z.batch, .bool z.first, .int .i64 z.ad, .string z.aw] 29)
  replace f0 := f0.below b5
  replace f1 := f1.below b5
  replace f2 := f2.below b5
  replace f3 := f3.below b5
  replace f4 := f4.below b5
  have B5 : Below w0.heap.size w0 ((((((w0.alloc (.cells #[.int .i64 h1, .int .i64 h2] 23)).alloc (.cells #[.int .i64 g1, .int .i64 g2, .int .i64 g3] 25)).alloc (.cells #[.int .i64 x.slot, .int .i64 x.query, .int .i64 x.shard, .int .i64 x.seq, .int .i64 x.epoch, .string x.text, .int .i64 x.k, .int .i64 x.batch, .bool x.first, .int .i64 x.ad, .string x.aw] 29)).alloc (.cells #[.int .i64 y.slot, .int .i64 y.query, .int .i64 y.shard, .int .i64 y.seq, .int .i64 y.worker, .int .i64 y.epoch, .slice y.ia y.n y.ic, .bool y.fin] 32)).alloc (.cells #[.int .i64 s1, .int .i64 s2] 34)).alloc (.cells #[.int .i64 z.slot, .int .i64 z.query, .int .i64 z.shard, .int .i64 z.seq, .int .i64 z.epoch, .string z.text, .int .i64 z.k, .int .i64 z.batch, .bool z.first, .int .i64 z.ad, .string z.aw] 29)) := B4.trans (b5.mono B4.size)
  exact ⟨B5, f0, f1, f2, f3, f4, f5⟩
end Go.Proofs.Ythboiklcjpnhbaa
