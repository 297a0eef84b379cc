/- msg: the law MsgUnlike (by gen/msgunlike.py) -/
import Derived.Test.YthboiklcjpnhbaaPkD
namespace Go.Proofs.Ythboiklcjpnhbaa
open Go.RowKit
set_option linter.unusedVariables false
set_option maxRecDepth 20000
set_option maxRecDepth 100000
theorem b5_flat {w0 w : World} {h1 h2 g1 g2 g3 : Int} {x : AskP} {y : RepP} {s1 s2 : Int} (h : Box5 w0 h1 h2 g1 g2 g3 x y s1 s2 w) : Below w0.heap.size w0 w ∧ w.cell? ⟨w0.heap.size, 0, none⟩ = some (.int .i64 h1) ∧ w.cell? ⟨w0.heap.size, 1, none⟩ = some (.int .i64 h2) ∧ w.cell? ⟨w0.heap.size + 1, 0, none⟩ = some (.int .i64 g1) ∧ w.cell? ⟨w0.heap.size + 1, 1, none⟩ = some (.int .i64 g2) ∧ w.cell? ⟨w0.heap.size + 1, 2, none⟩ = some (.int .i64 g3) ∧ w.cell? ⟨w0.heap.size + 1 + 1, 0, none⟩ = some (.int .i64 x.slot) ∧ w.cell? ⟨w0.heap.size + 1 + 1, 1, none⟩ = some (.int .i64 x.query) ∧ w.cell? ⟨w0.heap.size + 1 + 1, 2, none⟩ = some (.int .i64 x.shard) ∧ w.cell? ⟨w0.heap.size + 1 + 1, 3, none⟩ = some (.int .i64 x.seq) ∧ w.cell? ⟨w0.heap.size + 1 + 1, 4, none⟩ = some (.int .i64 x.epoch) ∧ w.cell? ⟨w0.heap.size + 1 + 1, 5, none⟩ = some (.string x.text) ∧ w.cell? ⟨w0.heap.size + 1 + 1, 6, none⟩ = some (.int .i64 x.k) ∧ w.cell? ⟨w0.heap.size + 1 + 1, 7, none⟩ = some (.int .i64 x.batch) ∧ w.cell? ⟨w0.heap.size + 1 + 1, 8, none⟩ = some (.bool x.first) ∧ w.cell? ⟨w0.heap.size + 1 + 1, 9, none⟩ = some (.int .i64 x.ad) ∧ w.cell? ⟨w0.heap.size + 1 + 1, 10, none⟩ = some (.string x.aw) ∧ w.cell? ⟨w0.heap.size + 1 + 1 + 1, 0, none⟩ = some (.int .i64 y.slot) ∧ w.cell? ⟨w0.heap.size + 1 + 1 + 1, 1, none⟩ = some (.int .i64 y.query) ∧ w.cell? ⟨w0.heap.size + 1 + 1 + 1, 2, none⟩ = some (.int .i64 y.shard) ∧ w.cell? ⟨w0.heap.size + 1 + 1 + 1, 3, none⟩ = some (.int .i64 y.seq) ∧ w.cell? ⟨w0.heap.size + 1 + 1 + 1, 4, none⟩ = some (.int .i64 y.worker) ∧ w.cell? ⟨w0.heap.size + 1 + 1 + 1, 5, none⟩ = some (.int .i64 y.epoch) ∧ w.cell? ⟨w0.heap.size + 1 + 1 + 1, 6, none⟩ = some (.slice y.ia y.n y.ic) ∧ w.cell? ⟨w0.heap.size + 1 + 1 + 1, 7, none⟩ = some (.bool y.fin) ∧ w.cell? ⟨w0.heap.size + 1 + 1 + 1 + 1, 0, none⟩ = some (.int .i64 s1) ∧ w.cell? ⟨w0.heap.size + 1 + 1 + 1 + 1, 1, none⟩ = some (.int .i64 s2) := by
  obtain ⟨h, ⟨c0_0, c0_1⟩, ⟨c1_0, c1_1, c1_2⟩, ⟨c2_0, c2_1, c2_2, c2_3, c2_4, c2_5, c2_6, c2_7, c2_8, c2_9, c2_10⟩, ⟨c3_0, c3_1, c3_2, c3_3, c3_4, c3_5, c3_6, c3_7⟩, ⟨c4_0, c4_1⟩⟩ := h
  exact ⟨h, c0_0, c0_1, c1_0, c1_1, c1_2, c2_0, c2_1, c2_2, c2_3, c2_4, c2_5, c2_6, c2_7, c2_8, c2_9, c2_10, c3_0, c3_1, c3_2, c3_3, c3_4, c3_5, c3_6, c3_7, c4_0, c4_1⟩
theorem b5_nest {w0 w : World} {h1 h2 g1 g2 g3 : Int} {x : AskP} {y : RepP} {s1 s2 : Int} (h : Below w0.heap.size w0 w ∧ w.cell? ⟨w0.heap.size, 0, none⟩ = some (.int .i64 h1) ∧ w.cell? ⟨w0.heap.size, 1, none⟩ = some (.int .i64 h2) ∧ w.cell? ⟨w0.heap.size + 1, 0, none⟩ = some (.int .i64 g1) ∧ w.cell? ⟨w0.heap.size + 1, 1, none⟩ = some (.int .i64 g2) ∧ w.cell? ⟨w0.heap.size + 1, 2, none⟩ = some (.int .i64 g3) ∧ w.cell? ⟨w0.heap.size + 1 + 1, 0, none⟩ = some (.int .i64 x.slot) ∧ w.cell? ⟨w0.heap.size + 1 + 1, 1, none⟩ = some (.int .i64 x.query) ∧ w.cell? ⟨w0.heap.size + 1 + 1, 2, none⟩ = some (.int .i64 x.shard) ∧ w.cell? ⟨w0.heap.size + 1 + 1, 3, none⟩ = some (.int .i64 x.seq) ∧ w.cell? ⟨w0.heap.size + 1 + 1, 4, none⟩ = some (.int .i64 x.epoch) ∧ w.cell? ⟨w0.heap.size + 1 + 1, 5, none⟩ = some (.string x.text) ∧ w.cell? ⟨w0.heap.size + 1 + 1, 6, none⟩ = some (.int .i64 x.k) ∧ w.cell? ⟨w0.heap.size + 1 + 1, 7, none⟩ = some (.int .i64 x.batch) ∧ w.cell? ⟨w0.heap.size + 1 + 1, 8, none⟩ = some (.bool x.first) ∧ w.cell? ⟨w0.heap.size + 1 + 1, 9, none⟩ = some (.int .i64 x.ad) ∧ w.cell? ⟨w0.heap.size + 1 + 1, 10, none⟩ = some (.string x.aw) ∧ w.cell? ⟨w0.heap.size + 1 + 1 + 1, 0, none⟩ = some (.int .i64 y.slot) ∧ w.cell? ⟨w0.heap.size + 1 + 1 + 1, 1, none⟩ = some (.int .i64 y.query) ∧ w.cell? ⟨w0.heap.size + 1 + 1 + 1, 2, none⟩ = some (.int .i64 y.shard) ∧ w.cell? ⟨w0.heap.size + 1 + 1 + 1, 3, none⟩ = some (.int .i64 y.seq) ∧ w.cell? ⟨w0.heap.size + 1 + 1 + 1, 4, none⟩ = some (.int .i64 y.worker) ∧ w.cell? ⟨w0.heap.size + 1 + 1 + 1, 5, none⟩ = some (.int .i64 y.epoch) ∧ w.cell? ⟨w0.heap.size + 1 + 1 + 1, 6, none⟩ = some (.slice y.ia y.n y.ic) ∧ w.cell? ⟨w0.heap.size + 1 + 1 + 1, 7, none⟩ = some (.bool y.fin) ∧ w.cell? ⟨w0.heap.size + 1 + 1 + 1 + 1, 0, none⟩ = some (.int .i64 s1) ∧ w.cell? ⟨w0.heap.size + 1 + 1 + 1 + 1, 1, none⟩ = some (.int .i64 s2)) : Box5 w0 h1 h2 g1 g2 g3 x y s1 s2 w := by
  obtain ⟨h, c0_0, c0_1, c1_0, c1_1, c1_2, c2_0, c2_1, c2_2, c2_3, c2_4, c2_5, c2_6, c2_7, c2_8, c2_9, c2_10, c3_0, c3_1, c3_2, c3_3, c3_4, c3_5, c3_6, c3_7, c4_0, c4_1⟩ := h
  exact ⟨h, ⟨c0_0, c0_1⟩, ⟨c1_0, c1_1, c1_2⟩, ⟨c2_0, c2_1, c2_2, c2_3, c2_4, c2_5, c2_6, c2_7, c2_8, c2_9, c2_10⟩, ⟨c3_0, c3_1, c3_2, c3_3, c3_4, c3_5, c3_6, c3_7⟩, ⟨c4_0, c4_1⟩⟩
theorem b5_carry {w0 w w' : World} {h1 h2 g1 g2 g3 : Int} {x : AskP} {y : RepP} {s1 s2 : Int} (h : Below w0.heap.size w0 w ∧ w.cell? ⟨w0.heap.size, 0, none⟩ = some (.int .i64 h1) ∧ w.cell? ⟨w0.heap.size, 1, none⟩ = some (.int .i64 h2) ∧ w.cell? ⟨w0.heap.size + 1, 0, none⟩ = some (.int .i64 g1) ∧ w.cell? ⟨w0.heap.size + 1, 1, none⟩ = some (.int .i64 g2) ∧ w.cell? ⟨w0.heap.size + 1, 2, none⟩ = some (.int .i64 g3) ∧ w.cell? ⟨w0.heap.size + 1 + 1, 0, none⟩ = some (.int .i64 x.slot) ∧ w.cell? ⟨w0.heap.size + 1 + 1, 1, none⟩ = some (.int .i64 x.query) ∧ w.cell? ⟨w0.heap.size + 1 + 1, 2, none⟩ = some (.int .i64 x.shard) ∧ w.cell? ⟨w0.heap.size + 1 + 1, 3, none⟩ = some (.int .i64 x.seq) ∧ w.cell? ⟨w0.heap.size + 1 + 1, 4, none⟩ = some (.int .i64 x.epoch) ∧ w.cell? ⟨w0.heap.size + 1 + 1, 5, none⟩ = some (.string x.text) ∧ w.cell? ⟨w0.heap.size + 1 + 1, 6, none⟩ = some (.int .i64 x.k) ∧ w.cell? ⟨w0.heap.size + 1 + 1, 7, none⟩ = some (.int .i64 x.batch) ∧ w.cell? ⟨w0.heap.size + 1 + 1, 8, none⟩ = some (.bool x.first) ∧ w.cell? ⟨w0.heap.size + 1 + 1, 9, none⟩ = some (.int .i64 x.ad) ∧ w.cell? ⟨w0.heap.size + 1 + 1, 10, none⟩ = some (.string x.aw) ∧ w.cell? ⟨w0.heap.size + 1 + 1 + 1, 0, none⟩ = some (.int .i64 y.slot) ∧ w.cell? ⟨w0.heap.size + 1 + 1 + 1, 1, none⟩ = some (.int .i64 y.query) ∧ w.cell? ⟨w0.heap.size + 1 + 1 + 1, 2, none⟩ = some (.int .i64 y.shard) ∧ w.cell? ⟨w0.heap.size + 1 + 1 + 1, 3, none⟩ = some (.int .i64 y.seq) ∧ w.cell? ⟨w0.heap.size + 1 + 1 + 1, 4, none⟩ = some (.int .i64 y.worker) ∧ w.cell? ⟨w0.heap.size + 1 + 1 + 1, 5, none⟩ = some (.int .i64 y.epoch) ∧ w.cell? ⟨w0.heap.size + 1 + 1 + 1, 6, none⟩ = some (.slice y.ia y.n y.ic) ∧ w.cell? ⟨w0.heap.size + 1 + 1 + 1, 7, none⟩ = some (.bool y.fin) ∧ w.cell? ⟨w0.heap.size + 1 + 1 + 1 + 1, 0, none⟩ = some (.int .i64 s1) ∧ w.cell? ⟨w0.heap.size + 1 + 1 + 1 + 1, 1, none⟩ = some (.int .i64 s2)) (hb : Below w.heap.size w w') : Below w0.heap.size w0 w' ∧ w'.cell? ⟨w0.heap.size, 0, none⟩ = some (.int .i64 h1) ∧ w'.cell? ⟨w0.heap.size, 1, none⟩ = some (.int .i64 h2) ∧ w'.cell? ⟨w0.heap.size + 1, 0, none⟩ = some (.int .i64 g1) ∧ w'.cell? ⟨w0.heap.size + 1, 1, none⟩ = some (.int .i64 g2) ∧ w'.cell? ⟨w0.heap.size + 1, 2, none⟩ = some (.int .i64 g3) ∧ w'.cell? ⟨w0.heap.size + 1 + 1, 0, none⟩ = some (.int .i64 x.slot) ∧ w'.cell? ⟨w0.heap.size + 1 + 1, 1, none⟩ = some (.int .i64 x.query) ∧ w'.cell? ⟨w0.heap.size + 1 + 1, 2, none⟩ = some (.int .i64 x.shard) ∧ w'.cell? ⟨w0.heap.size + 1 + 1, 3, none⟩ = some (.int .i64 x.seq) ∧ w'.cell? ⟨w0.heap.size + 1 + 1, 4, none⟩ = some (.int .i64 x.epoch) ∧ w'.cell? ⟨w0.heap.size + 1 + 1, 5, none⟩ = some (.string x.text) ∧ w'.cell? ⟨w0.heap.size + 1 + 1, 6, none⟩ = some (.int .i64 x.k) ∧ w'.cell? ⟨w0.heap.size + 1 + 1, 7, none⟩ = some (.int .i64 x.batch) ∧ w'.cell? ⟨w0.heap.size + 1 + 1, 8, none⟩ = some (.bool x.first) ∧ w'.cell? ⟨w0.heap.size + 1 + 1, 9, none⟩ = some (.int .i64 x.ad) ∧ w'.cell? ⟨w0.heap.size + 1 + 1, 10, none⟩ = some (.string x.aw) ∧ w'.cell? ⟨w0.heap.size + 1 + 1 + 1, 0, none⟩ = some (.int .i64 y.slot) ∧ w'.cell? ⟨w0.heap.size + 1 + 1 + 1, 1, none⟩ = some (.int .i64 y.query) ∧ w'.cell? ⟨w0.heap.size + 1 + 1 + 1, 2, none⟩ = some (.int .i64 y.shard) ∧ w'.cell? ⟨w0.heap.size + 1 + 1 + 1, 3, none⟩ = some (.int .i64 y.seq) ∧ w'.cell? ⟨w0.heap.size + 1 + 1 + 1, 4, none⟩ = some (.int .i64 y.worker) ∧ w'.cell? ⟨w0.heap.size + 1 + 1 + 1, 5, none⟩ = some (.int .i64 y.epoch) ∧ w'.cell? ⟨w0.heap.size + 1 + 1 + 1, 6, none⟩ = some (.slice y.ia y.n y.ic) ∧ w'.cell? ⟨w0.heap.size + 1 + 1 + 1, 7, none⟩ = some (.bool y.fin) ∧ w'.cell? ⟨w0.heap.size + 1 + 1 + 1 + 1, 0, none⟩ = some (.int .i64 s1) ∧ w'.cell? ⟨w0.heap.size + 1 + 1 + 1 + 1, 1, none⟩ = some (.int .i64 s2) := b5_flat ((b5_nest h).carry hb)
theorem b6_flat {w0 w : World} {h1 h2 g1 g2 g3 : Int} {x : AskP} {y : RepP} {s1 s2 : Int} {z : AskP} (h : Box6 w0 h1 h2 g1 g2 g3 x y s1 s2 z w) : Below w0.heap.size w0 w ∧ w.cell? ⟨w0.heap.size, 0, none⟩ = some (.int .i64 h1) ∧ w.cell? ⟨w0.heap.size, 1, none⟩ = some (.int .i64 h2) ∧ w.cell? ⟨w0.heap.size + 1, 0, none⟩ = some (.int .i64 g1) ∧ w.cell? ⟨w0.heap.size + 1, 1, none⟩ = some (.int .i64 g2) ∧ w.cell? ⟨w0.heap.size + 1, 2, none⟩ = some (.int .i64 g3) ∧ w.cell? ⟨w0.heap.size + 1 + 1, 0, none⟩ = some (.int .i64 x.slot) ∧ w.cell? ⟨w0.heap.size + 1 + 1, 1, none⟩ = some (.int .i64 x.query) ∧ w.cell? ⟨w0.heap.size + 1 + 1, 2, none⟩ = some (.int .i64 x.shard) ∧ w.cell? ⟨w0.heap.size + 1 + 1, 3, none⟩ = some (.int .i64 x.seq) ∧ w.cell? ⟨w0.heap.size + 1 + 1, 4, none⟩ = some (.int .i64 x.epoch) ∧ w.cell? ⟨w0.heap.size + 1 + 1, 5, none⟩ = some (.string x.text) ∧ w.cell? ⟨w0.heap.size + 1 + 1, 6, none⟩ = some (.int .i64 x.k) ∧ w.cell? ⟨w0.heap.size + 1 + 1, 7, none⟩ = some (.int .i64 x.batch) ∧ w.cell? ⟨w0.heap.size + 1 + 1, 8, none⟩ = some (.bool x.first) ∧ w.cell? ⟨w0.heap.size + 1 + 1, 9, none⟩ = some (.int .i64 x.ad) ∧ w.cell? ⟨w0.heap.size + 1 + 1, 10, none⟩ = some (.string x.aw) ∧ w.cell? ⟨w0.heap.size + 1 + 1 + 1, 0, none⟩ = some (.int .i64 y.slot) ∧ w.cell? ⟨w0.heap.size + 1 + 1 + 1, 1, none⟩ = some (.int .i64 y.query) ∧ w.cell? ⟨w0.heap.size + 1 + 1 + 1, 2, none⟩ = some (.int .i64 y.shard) ∧ w.cell? ⟨w0.heap.size + 1 + 1 + 1, 3, none⟩ = some (.int .i64 y.seq) ∧ w.cell? ⟨w0.heap.size + 1 + 1 + 1, 4, none⟩ = some (.int .i64 y.worker) ∧ w.cell? ⟨w0.heap.size + 1 + 1 + 1, 5, none⟩ = some (.int .i64 y.epoch) ∧ w.cell? ⟨w0.heap.size + 1 + 1 + 1, 6, none⟩ = some (.slice y.ia y.n y.ic) ∧ w.cell? ⟨w0.heap.size + 1 + 1 + 1, 7, none⟩ = some (.bool y.fin) ∧ w.cell? ⟨w0.heap.size + 1 + 1 + 1 + 1, 0, none⟩ = some (.int .i64 s1) ∧ w.cell? ⟨w0.heap.size + 1 + 1 + 1 + 1, 1, none⟩ = some (.int .i64 s2) ∧ w.cell? ⟨w0.heap.size + 1 + 1 + 1 + 1 + 1, 0, none⟩ = some (.int .i64 z.slot) ∧ w.cell? ⟨w0.heap.size + 1 + 1 + 1 + 1 + 1, 1, none⟩ = some (.int .i64 z.query) ∧ w.cell? ⟨w0.heap.size + 1 + 1 + 1 + 1 + 1, 2, none⟩ = some (.int .i64 z.shard) ∧ w.cell? ⟨w0.heap.size + 1 + 1 + 1 + 1 + 1, 3, none⟩ = some (.int .i64 z.seq) ∧ w.cell? ⟨w0.heap.size + 1 + 1 + 1 + 1 + 1, 4, none⟩ = some (.int .i64 z.epoch) ∧ w.cell? ⟨w0.heap.size + 1 + 1 + 1 + 1 + 1, 5, none⟩ = some (.string z.text) ∧ w.cell? ⟨w0.heap.size + 1 + 1 + 1 + 1 + 1, 6, none⟩ = some (.int .i64 z.k) ∧ w.cell? ⟨w0.heap.size + 1 + 1 + 1 + 1 + 1, 7, none⟩ = some (.int .i64 z.batch) ∧ w.cell? ⟨w0.heap.size + 1 + 1 + 1 + 1 + 1, 8, none⟩ = some (.bool z.first) ∧ w.cell? ⟨w0.heap.size + 1 + 1 + 1 + 1 + 1, 9, none⟩ = some (.int .i64 z.ad) ∧ w.cell? ⟨w0.heap.size + 1 + 1 + 1 + 1 + 1, 10, none⟩ = some (.string z.aw) := by
  obtain ⟨h, ⟨c0_0, c0_1⟩, ⟨c1_0, c1_1, c1_2⟩, ⟨c2_0, c2_1, c2_2, c2_3, c2_4, c2_5, c2_6, c2_7, c2_8, c2_9, c2_10⟩, ⟨c3_0, c3_1, c3_2, c3_3, c3_4, c3_5, c3_6, c3_7⟩, ⟨c4_0, c4_1⟩, ⟨c5_0, c5_1, c5_2, c5_3, c5_4, c5_5, c5_6, c5_7, c5_8, c5_9, c5_10⟩⟩ := h
  exact ⟨h, c0_0, c0_1, c1_0, c1_1, c1_2, c2_0, c2_1, c2_2, c2_3, c2_4, c2_5, c2_6, c2_7, c2_8, c2_9, c2_10, c3_0, c3_1, c3_2, c3_3, c3_4, c3_5, c3_6, c3_7, c4_0, c4_1, c5_0, c5_1, c5_2, c5_3, c5_4, c5_5, c5_6, c5_7, c5_8, c5_9, c5_10⟩
theorem b6_nest {w0 w : World} {h1 h2 g1 g2 g3 : Int} {x : AskP} {y : RepP} {s1 s2 : Int} {z : AskP} (h : Below w0.heap.size w0 w ∧ w.cell? ⟨w0.heap.size, 0, none⟩ = some (.int .i64 h1) ∧ w.cell? ⟨w0.heap.size, 1, none⟩ = some (.int .i64 h2) ∧ w.cell? ⟨w0.heap.size + 1, 0, none⟩ = some (.int .i64 g1) ∧ w.cell? ⟨w0.heap.size + 1, 1, none⟩ = some (.int .i64 g2) ∧ w.cell? ⟨w0.heap.size + 1, 2, none⟩ = some (.int .i64 g3) ∧ w.cell? ⟨w0.heap.size + 1 + 1, 0, none⟩ = some (.int .i64 x.slot) ∧ w.cell? ⟨w0.heap.size + 1 + 1, 1, none⟩ = some (.int .i64 x.query) ∧ w.cell? ⟨w0.heap.size + 1 + 1, 2, none⟩ = some (.int .i64 x.shard) ∧ w.cell? ⟨w0.heap.size + 1 + 1, 3, none⟩ = some (.int .i64 x.seq) ∧ w.cell? ⟨w0.heap.size + 1 + 1, 4, none⟩ = some (.int .i64 x.epoch) ∧ w.cell? ⟨w0.heap.size + 1 + 1, 5, none⟩ = some (.string x.text) ∧ w.cell? ⟨w0.heap.size + 1 + 1, 6, none⟩ = some (.int .i64 x.k) ∧ w.cell? ⟨w0.heap.size + 1 + 1, 7, none⟩ = some (.int .i64 x.batch) ∧ w.cell? ⟨w0.heap.size + 1 + 1, 8, none⟩ = some (.bool x.first) ∧ w.cell? ⟨w0.heap.size + 1 + 1, 9, none⟩ = some (.int .i64 x.ad) ∧ w.cell? ⟨w0.heap.size + 1 + 1, 10, none⟩ = some (.string x.aw) ∧ w.cell? ⟨w0.heap.size + 1 + 1 + 1, 0, none⟩ = some (.int .i64 y.slot) ∧ w.cell? ⟨w0.heap.size + 1 + 1 + 1, 1, none⟩ = some (.int .i64 y.query) ∧ w.cell? ⟨w0.heap.size + 1 + 1 + 1, 2, none⟩ = some (.int .i64 y.shard) ∧ w.cell? ⟨w0.heap.size + 1 + 1 + 1, 3, none⟩ = some (.int .i64 y.seq) ∧ w.cell? ⟨w0.heap.size + 1 + 1 + 1, 4, none⟩ = some (.int .i64 y.worker) ∧ w.cell? ⟨w0.heap.size + 1 + 1 + 1, 5, none⟩ = some (.int .i64 y.epoch) ∧ w.cell? ⟨w0.heap.size + 1 + 1 + 1, 6, none⟩ = some (.slice y.ia y.n y.ic) ∧ w.cell? ⟨w0.heap.size + 1 + 1 + 1, 7, none⟩ = some (.bool y.fin) ∧ w.cell? ⟨w0.heap.size + 1 + 1 + 1 + 1, 0, none⟩ = some (.int .i64 s1) ∧ w.cell? ⟨w0.heap.size + 1 + 1 + 1 + 1, 1, none⟩ = some (.int .i64 s2) ∧ w.cell? ⟨w0.heap.size + 1 + 1 + 1 + 1 + 1, 0, none⟩ = some (.int .i64 z.slot) ∧ w.cell? ⟨w0.heap.size + 1 + 1 + 1 + 1 + 1, 1, none⟩ = some (.int .i64 z.query) ∧ w.cell? ⟨w0.heap.size + 1 + 1 + 1 + 1 + 1, 2, none⟩ = some (.int .i64 z.shard) ∧ w.cell? ⟨w0.heap.size + 1 + 1 + 1 + 1 + 1, 3, none⟩ = some (.int .i64 z.seq) ∧ w.cell? ⟨w0.heap.size + 1 + 1 + 1 + 1 + 1, 4, none⟩ = some (.int .i64 z.epoch) ∧ w.cell? ⟨w0.heap.size + 1 + 1 + 1 + 1 + 1, 5, none⟩ = some (.string z.text) ∧ w.cell? ⟨w0.heap.size + 1 + 1 + 1 + 1 + 1, 6, none⟩ = some (.int .i64 z.k) ∧ w.cell? ⟨w0.heap.size + 1 + 1 + 1 + 1 + 1, 7, none⟩ = some (.int .i64 z.batch) ∧ w.cell? ⟨w0.heap.size + 1 + 1 + 1 + 1 + 1, 8, none⟩ = some (.bool z.first) ∧ w.cell? ⟨w0.heap.size + 1 + 1 + 1 + 1 + 1, 9, none⟩ = some (.int .i64 z.ad) ∧ w.cell? ⟨w0.heap.size + 1 + 1 + 1 + 1 + 1, 10, none⟩ = some (.string z.aw)) : Box6 w0 h1 h2 g1 g2 g3 x y s1 s2 z w := by
  obtain ⟨h, c0_0, c0_1, c1_0, c1_1, c1_2, c2_0, c2_1, c2_2, c2_3, c2_4, c2_5, c2_6, c2_7, c2_8, c2_9, c2_10, c3_0, c3_1, c3_2, c3_3, c3_4, c3_5, c3_6, c3_7, c4_0, c4_1, c5_0, c5_1, c5_2, c5_3, c5_4, c5_5, c5_6, c5_7, c5_8, c5_9, c5_10⟩ := h
  exact ⟨h, ⟨c0_0, c0_1⟩, ⟨c1_0, c1_1, c1_2⟩, ⟨c2_0, c2_1, c2_2, c2_3, c2_4, c2_5, c2_6, c2_7, c2_8, c2_9, c2_10⟩, ⟨c3_0, c3_1, c3_2, c3_3, c3_4, c3_5, c3_6, c3_7⟩, ⟨c4_0, c4_1⟩, ⟨c5_0, c5_1, c5_2, c5_3, c5_4, c5_5, c5_6, c5_7, c5_8, c5_9, c5_10⟩⟩
theorem b6_carry {w0 w w' : World} {h1 h2 g1 g2 g3 : Int} {x : AskP} {y : RepP} {s1 s2 : Int} {z : AskP} (h : Below w0.heap.size w0 w ∧ w.cell? ⟨w0.heap.size, 0, none⟩ = some (.int .i64 h1) ∧ w.cell? ⟨w0.heap.size, 1, none⟩ = some (.int .i64 h2) ∧ w.cell? ⟨w0.heap.size + 1, 0, none⟩ = some (.int .i64 g1) ∧ w.cell? ⟨w0.heap.size + 1, 1, none⟩ = some (.int .i64 g2) ∧ w.cell? ⟨w0.heap.size + 1, 2, none⟩ = some (.int .i64 g3) ∧ w.cell? ⟨w0.heap.size + 1 + 1, 0, none⟩ = some (.int .i64 x.slot) ∧ w.cell? ⟨w0.heap.size + 1 + 1, 1, none⟩ = some (.int .i64 x.query) ∧ w.cell? ⟨w0.heap.size + 1 + 1, 2, none⟩ = some (.int .i64 x.shard) ∧ w.cell? ⟨w0.heap.size + 1 + 1, 3, none⟩ = some (.int .i64 x.seq) ∧ w.cell? ⟨w0.heap.size + 1 + 1, 4, none⟩ = some (.int .i64 x.epoch) ∧ w.cell? ⟨w0.heap.size + 1 + 1, 5, none⟩ = some (.string x.text) ∧ w.cell? ⟨w0.heap.size + 1 + 1, 6, none⟩ = some (.int .i64 x.k) ∧ w.cell? ⟨w0.heap.size + 1 + 1, 7, none⟩ = some (.int .i64 x.batch) ∧ w.cell? ⟨w0.heap.size + 1 + 1, 8, none⟩ = some (.bool x.first) ∧ w.cell? ⟨w0.heap.size + 1 + 1, 9, none⟩ = some (.int .i64 x.ad) ∧ w.cell? ⟨w0.heap.size + 1 + 1, 10, none⟩ = some (.string x.aw) ∧ w.cell? ⟨w0.heap.size + 1 + 1 + 1, 0, none⟩ = some (.int .i64 y.slot) ∧ w.cell? ⟨w0.heap.size + 1 + 1 + 1, 1, none⟩ = some (.int .i64 y.query) ∧ w.cell? ⟨w0.heap.size + 1 + 1 + 1, 2, none⟩ = some (.int .i64 y.shard) ∧ w.cell? ⟨w0.heap.size + 1 + 1 + 1, 3, none⟩ = some (.int .i64 y.seq) ∧ w.cell? ⟨w0.heap.size + 1 + 1 + 1, 4, none⟩ = some (.int .i64 y.worker) ∧ w.cell? ⟨w0.heap.size + 1 + 1 + 1, 5, none⟩ = some (.int .i64 y.epoch) ∧ w.cell? ⟨w0.heap.size + 1 + 1 + 1, 6, none⟩ = some (.slice y.ia y.n y.ic) ∧ w.cell? ⟨w0.heap.size + 1 + 1 + 1, 7, none⟩ = some (.bool y.fin) ∧ w.cell? ⟨w0.heap.size + 1 + 1 + 1 + 1, 0, none⟩ = some (.int .i64 s1) ∧ w.cell? ⟨w0.heap.size + 1 + 1 + 1 + 1, 1, none⟩ = some (.int .i64 s2) ∧ w.cell? ⟨w0.heap.size + 1 + 1 + 1 + 1 + 1, 0, none⟩ = some (.int .i64 z.slot) ∧ w.cell? ⟨w0.heap.size + 1 + 1 + 1 + 1 + 1, 1, none⟩ = some (.int .i64 z.query) ∧ w.cell? ⟨w0.heap.size + 1 + 1 + 1 + 1 + 1, 2, none⟩ = some (.int .i64 z.shard) ∧ w.cell? ⟨w0.heap.size + 1 + 1 + 1 + 1 + 1, 3, none⟩ = some (.int .i64 z.seq) ∧ w.cell? ⟨w0.heap.size + 1 + 1 + 1 + 1 + 1, 4, none⟩ = some (.int .i64 z.epoch) ∧ w.cell? ⟨w0.heap.size + 1 + 1 + 1 + 1 + 1, 5, none⟩ = some (.string z.text) ∧ w.cell? ⟨w0.heap.size + 1 + 1 + 1 + 1 + 1, 6, none⟩ = some (.int .i64 z.k) ∧ w.cell? ⟨w0.heap.size + 1 + 1 + 1 + 1 + 1, 7, none⟩ = some (.int .i64 z.batch) ∧ w.cell? ⟨w0.heap.size + 1 + 1 + 1 + 1 + 1, 8, none⟩ = some (.bool z.first) ∧ w.cell? ⟨w0.heap.size + 1 + 1 + 1 + 1 + 1, 9, none⟩ = some (.int .i64 z.ad) ∧ w.cell? ⟨w0.heap.size + 1 + 1 + 1 + 1 + 1, 10, none⟩ = some (.string z.aw)) (hb : Below w.heap.size w w') : Below w0.heap.size w0 w' ∧ w'.cell? ⟨w0.heap.size, 0, none⟩ = some (.int .i64 h1) ∧ w'.cell? ⟨w0.heap.size, 1, none⟩ = some (.int .i64 h2) ∧ w'.cell? ⟨w0.heap.size + 1, 0, none⟩ = some (.int .i64 g1) ∧ w'.cell? ⟨w0.heap.size + 1, 1, none⟩ = some (.int .i64 g2) ∧ w'.cell? ⟨w0.heap.size + 1, 2, none⟩ = some (.int .i64 g3) ∧ w'.cell? ⟨w0.heap.size + 1 + 1, 0, none⟩ = some (.int .i64 x.slot) ∧ w'.cell? ⟨w0.heap.size + 1 + 1, 1, none⟩ = some (.int .i64 x.query) ∧ w'.cell? ⟨w0.heap.size + 1 + 1, 2, none⟩ = some (.int .i64 x.shard) ∧ w'.cell? ⟨w0.heap.size + 1 + 1, 3, none⟩ = some (.int .i64 x.seq) ∧ w'.cell? ⟨w0.heap.size + 1 + 1, 4, none⟩ = some (.int .i64 x.epoch) ∧ w'.cell? ⟨w0.heap.size + 1 + 1, 5, none⟩ = some (.string x.text) ∧ w'.cell? ⟨w0.heap.size + 1 + 1, 6, none⟩ = some (.int .i64 x.k) ∧ w'.cell? ⟨w0.heap.size + 1 + 1, 7, none⟩ = some (.int .i64 x.batch) ∧ w'.cell? ⟨w0.heap.size + 1 + 1, 8, none⟩ = some (.bool x.first) ∧ w'.cell? ⟨w0.heap.size + 1 + 1, 9, none⟩ = some (.int .i64 x.ad) ∧ w'.cell? ⟨w0.heap.size + 1 + 1, 10, none⟩ = some (.string x.aw) ∧ w'.cell? ⟨w0.heap.size + 1 + 1 + 1, 0, none⟩ = some (.int .i64 y.slot) ∧ w'.cell? ⟨w0.heap.size + 1 + 1 + 1, 1, none⟩ = some (.int .i64 y.query) ∧ w'.cell? ⟨w0.heap.size + 1 + 1 + 1, 2, none⟩ = some (.int .i64 y.shard) ∧ w'.cell? ⟨w0.heap.size + 1 + 1 + 1, 3, none⟩ = some (.int .i64 y.seq) ∧ w'.cell? ⟨w0.heap.size + 1 + 1 + 1, 4, none⟩ = some (.int .i64 y.worker) ∧ w'.cell? ⟨w0.heap.size + 1 + 1 + 1, 5, none⟩ = some (.int .i64 y.epoch) ∧ w'.cell? ⟨w0.heap.size + 1 + 1 + 1, 6, none⟩ = some (.slice y.ia y.n y.ic) ∧ w'.cell? ⟨w0.heap.size + 1 + 1 + 1, 7, none⟩ = some (.bool y.fin) ∧ w'.cell? ⟨w0.heap.size + 1 + 1 + 1 + 1, 0, none⟩ = some (.int .i64 s1) ∧ w'.cell? ⟨w0.heap.size + 1 + 1 + 1 + 1, 1, none⟩ = some (.int .i64 s2) ∧ w'.cell? ⟨w0.heap.size + 1 + 1 + 1 + 1 + 1, 0, none⟩ = some (.int .i64 z.slot) ∧ w'.cell? ⟨w0.heap.size + 1 + 1 + 1 + 1 + 1, 1, none⟩ = some (.int .i64 z.query) ∧ w'.cell? ⟨w0.heap.size + 1 + 1 + 1 + 1 + 1, 2, none⟩ = some (.int .i64 z.shard) ∧ w'.cell? ⟨w0.heap.size + 1 + 1 + 1 + 1 + 1, 3, none⟩ = some (.int .i64 z.seq) ∧ w'.cell? ⟨w0.heap.size + 1 + 1 + 1 + 1 + 1, 4, none⟩ = some (.int .i64 z.epoch) ∧ w'.cell? ⟨w0.heap.size + 1 + 1 + 1 + 1 + 1, 5, none⟩ = some (.string z.text) ∧ w'.cell? ⟨w0.heap.size + 1 + 1 + 1 + 1 + 1, 6, none⟩ = some (.int .i64 z.k) ∧ w'.cell? ⟨w0.heap.size + 1 + 1 + 1 + 1 + 1, 7, none⟩ = some (.int .i64 z.batch) ∧ w'.cell? ⟨w0.heap.size + 1 + 1 + 1 + 1 + 1, 8, none⟩ = some (.bool z.first) ∧ w'.cell? ⟨w0.heap.size + 1 + 1 + 1 + 1 + 1, 9, none⟩ = some (.int .i64 z.ad) ∧ w'.cell? ⟨w0.heap.size + 1 + 1 + 1 + 1 + 1, 10, none⟩ = some (.string z.aw) := b6_flat ((b6_nest h).carry hb)
set_option maxHeartbeats 6400000 in
theorem pick15_any (k h1 h2 g1 g2 g3 : Int) (x : AskP) (y : RepP) (s1 s2 : Int) (w : World) :
    Calls Try.prog 31 #[.int .i64 k, .agg #[.int .i64 h1, .int .i64 h2], .agg #[.int .i64 g1, .int .i64 g2, .int .i64 g3], agAsk x, agReply y, .agg #[.int .i64 s1, .int .i64 s2]] w fun e w' => e = .returned (valM (oneM (lowV k 5) h1 h2 g1 g2 g3 x y s1 s2)) ∧ Below w.heap.size w w' := by
  have BX := Lib.hid (Box5.new w h1 h2 g1 g2 g3 x y s1 s2)
  have CL := Lib.hid (low_any k 5 (by omega) (by omega))
  have CO := Lib.hid (one15_any (lowV k 5) h1 h2 g1 g2 g3 x y s1 s2)
  obtain ⟨M, hM⟩ : ∃ M, oneM (lowV k 5) h1 h2 g1 g2 g3 x y s1 s2 = M := ⟨_, rfl⟩
  rw [hM] at CO ⊢
  obtain ⟨V, hV⟩ : ∃ V, valM M = V := ⟨_, rfl⟩
  rw [hV] at CO ⊢
  obtain ⟨d, hd⟩ : ∃ d, lowV k 5 = d := ⟨_, rfl⟩
  rw [hd] at CO CL
  clear hM hV hd
  go_enter Try.func31, Try.ntmps31
  go_upto_region 1 with fail
  generalize ((((w.alloc _).alloc _).alloc _).alloc _).alloc _ = w1 at BX ⊢
  have BF := b5_flat BX.out
  have X1 := Lib.hid (And.intro BF.1.drew BF.2)
  have B1 := Lib.hid BX.out.1
  clear BX BF
  go_region_held3 (fun w' => Below w.heap.size w w' ∧ w'.cell? ⟨w.heap.size, 0, none⟩ = some (.int .i64 h1) ∧ w'.cell? ⟨w.heap.size, 1, none⟩ = some (.int .i64 h2) ∧ w'.cell? ⟨w.heap.size + 1, 0, none⟩ = some (.int .i64 g1) ∧ w'.cell? ⟨w.heap.size + 1, 1, none⟩ = some (.int .i64 g2) ∧ w'.cell? ⟨w.heap.size + 1, 2, none⟩ = some (.int .i64 g3) ∧ w'.cell? ⟨w.heap.size + 1 + 1, 0, none⟩ = some (.int .i64 x.slot) ∧ w'.cell? ⟨w.heap.size + 1 + 1, 1, none⟩ = some (.int .i64 x.query) ∧ w'.cell? ⟨w.heap.size + 1 + 1, 2, none⟩ = some (.int .i64 x.shard) ∧ w'.cell? ⟨w.heap.size + 1 + 1, 3, none⟩ = some (.int .i64 x.seq) ∧ w'.cell? ⟨w.heap.size + 1 + 1, 4, none⟩ = some (.int .i64 x.epoch) ∧ w'.cell? ⟨w.heap.size + 1 + 1, 5, none⟩ = some (.string x.text) ∧ w'.cell? ⟨w.heap.size + 1 + 1, 6, none⟩ = some (.int .i64 x.k) ∧ w'.cell? ⟨w.heap.size + 1 + 1, 7, none⟩ = some (.int .i64 x.batch) ∧ w'.cell? ⟨w.heap.size + 1 + 1, 8, none⟩ = some (.bool x.first) ∧ w'.cell? ⟨w.heap.size + 1 + 1, 9, none⟩ = some (.int .i64 x.ad) ∧ w'.cell? ⟨w.heap.size + 1 + 1, 10, none⟩ = some (.string x.aw) ∧ w'.cell? ⟨w.heap.size + 1 + 1 + 1, 0, none⟩ = some (.int .i64 y.slot) ∧ w'.cell? ⟨w.heap.size + 1 + 1 + 1, 1, none⟩ = some (.int .i64 y.query) ∧ w'.cell? ⟨w.heap.size + 1 + 1 + 1, 2, none⟩ = some (.int .i64 y.shard) ∧ w'.cell? ⟨w.heap.size + 1 + 1 + 1, 3, none⟩ = some (.int .i64 y.seq) ∧ w'.cell? ⟨w.heap.size + 1 + 1 + 1, 4, none⟩ = some (.int .i64 y.worker) ∧ w'.cell? ⟨w.heap.size + 1 + 1 + 1, 5, none⟩ = some (.int .i64 y.epoch) ∧ w'.cell? ⟨w.heap.size + 1 + 1 + 1, 6, none⟩ = some (.slice y.ia y.n y.ic) ∧ w'.cell? ⟨w.heap.size + 1 + 1 + 1, 7, none⟩ = some (.bool y.fin) ∧ w'.cell? ⟨w.heap.size + 1 + 1 + 1 + 1, 0, none⟩ = some (.int .i64 s1) ∧ w'.cell? ⟨w.heap.size + 1 + 1 + 1 + 1, 1, none⟩ = some (.int .i64 s2))
    (first | assumption | exact X1.out | exact b5_carry (by assumption) (by assumption))
    (first
      | (go_at_call 33; (with_reducible refine (CL.out _).mono ?_); rintro e w' ⟨rfl, rfl⟩)
      | (go_at_call 13; (with_reducible refine (CO.out _).mono ?_); rintro e w' ⟨rfl, hb9⟩)
      | fail)
  all_goals
    have hS : Below w.heap.size w w' ∧ w'.cell? ⟨w.heap.size, 0, none⟩ = some (.int .i64 h1) ∧ w'.cell? ⟨w.heap.size, 1, none⟩ = some (.int .i64 h2) ∧ w'.cell? ⟨w.heap.size + 1, 0, none⟩ = some (.int .i64 g1) ∧ w'.cell? ⟨w.heap.size + 1, 1, none⟩ = some (.int .i64 g2) ∧ w'.cell? ⟨w.heap.size + 1, 2, none⟩ = some (.int .i64 g3) ∧ w'.cell? ⟨w.heap.size + 1 + 1, 0, none⟩ = some (.int .i64 x.slot) ∧ w'.cell? ⟨w.heap.size + 1 + 1, 1, none⟩ = some (.int .i64 x.query) ∧ w'.cell? ⟨w.heap.size + 1 + 1, 2, none⟩ = some (.int .i64 x.shard) ∧ w'.cell? ⟨w.heap.size + 1 + 1, 3, none⟩ = some (.int .i64 x.seq) ∧ w'.cell? ⟨w.heap.size + 1 + 1, 4, none⟩ = some (.int .i64 x.epoch) ∧ w'.cell? ⟨w.heap.size + 1 + 1, 5, none⟩ = some (.string x.text) ∧ w'.cell? ⟨w.heap.size + 1 + 1, 6, none⟩ = some (.int .i64 x.k) ∧ w'.cell? ⟨w.heap.size + 1 + 1, 7, none⟩ = some (.int .i64 x.batch) ∧ w'.cell? ⟨w.heap.size + 1 + 1, 8, none⟩ = some (.bool x.first) ∧ w'.cell? ⟨w.heap.size + 1 + 1, 9, none⟩ = some (.int .i64 x.ad) ∧ w'.cell? ⟨w.heap.size + 1 + 1, 10, none⟩ = some (.string x.aw) ∧ w'.cell? ⟨w.heap.size + 1 + 1 + 1, 0, none⟩ = some (.int .i64 y.slot) ∧ w'.cell? ⟨w.heap.size + 1 + 1 + 1, 1, none⟩ = some (.int .i64 y.query) ∧ w'.cell? ⟨w.heap.size + 1 + 1 + 1, 2, none⟩ = some (.int .i64 y.shard) ∧ w'.cell? ⟨w.heap.size + 1 + 1 + 1, 3, none⟩ = some (.int .i64 y.seq) ∧ w'.cell? ⟨w.heap.size + 1 + 1 + 1, 4, none⟩ = some (.int .i64 y.worker) ∧ w'.cell? ⟨w.heap.size + 1 + 1 + 1, 5, none⟩ = some (.int .i64 y.epoch) ∧ w'.cell? ⟨w.heap.size + 1 + 1 + 1, 6, none⟩ = some (.slice y.ia y.n y.ic) ∧ w'.cell? ⟨w.heap.size + 1 + 1 + 1, 7, none⟩ = some (.bool y.fin) ∧ w'.cell? ⟨w.heap.size + 1 + 1 + 1 + 1, 0, none⟩ = some (.int .i64 s1) ∧ w'.cell? ⟨w.heap.size + 1 + 1 + 1 + 1, 1, none⟩ = some (.int .i64 s2) := by assumption
    have B9 := Lib.hid hS.1
    clear hS
    go_wp2_with fail
    go_ret
    exact ⟨rfl, B9.out⟩
set_option maxHeartbeats 12800000 in
theorem msgUnlike_law (k k2 h1 h2 g1 g2 g3 : Int) (x : AskP) (y : RepP) (s1 s2 : Int) (z : AskP) (w : World) (hx : AskOk x) (hy : RepOk w y) (hz : AskOk z) :
    Calls Try.prog 8 #[.int .i64 k, .int .i64 k2, .agg #[.int .i64 h1, .int .i64 h2], .agg #[.int .i64 g1, .int .i64 g2, .int .i64 g3], agAsk x, agReply y, .agg #[.int .i64 s1, .int .i64 s2], agAsk z] w fun e w' => e = .returned (.bool true) ∧ Below w.heap.size w w' := by
  obtain ⟨ga, hga⟩ : ∃ g, greatQ x y = g := ⟨_, rfl⟩
  obtain ⟨gb, hgb⟩ : ∃ g, greatQ z y = g := ⟨_, rfl⟩
  have CG1 := Lib.hid (fun (w1 : World) (hb : Below w.heap.size w w1) => hga ▸ great15_any x y w1 hx.1 hx.2 (hy.1.below hb) hy.2.2.2.1 (fun k hk => (hy.2.2.2.2 k hk).2))
  have CG2 := Lib.hid (fun (w1 : World) (hb : Below w.heap.size w w1) => hgb ▸ great15_any z y w1 hz.1 hz.2 (hy.1.below hb) hy.2.2.2.1 (fun k hk => (hy.2.2.2.2 k hk).2))
  have CP1 := Lib.hid (pick15_any k h1 h2 g1 g2 g3 x y s1 s2)
  have CP2 := Lib.hid (pick15_any k2 h1 h2 g1 g2 g3 z y s1 s2)
  have HM1 := Lib.hid (fun (w1 : World) (hb : Below w.heap.size w w1) => one_held (lowV k 5) h1 h2 g1 g2 g3 x y s1 s2 hy hb)
  have HM2 := Lib.hid (fun (w1 : World) (hb : Below w.heap.size w w1) => one_held (lowV k2 5) h1 h2 g1 g2 g3 z y s1 s2 hy hb)
  have HS1 := Lib.hid (fun (h : ga = false) => one_small (lowV k 5) h1 h2 g1 g2 g3 x y s1 s2 hy (hga.trans h))
  have HS2 := Lib.hid (fun (h : gb = false) => one_small (lowV k2 5) h1 h2 g1 g2 g3 z y s1 s2 hy (hgb.trans h))
  have KN := Lib.hid (pick_kin k k2 h1 h2 g1 g2 g3 x z y s1 s2)
  have K1 := Lib.hid (pick_some k h1 h2 g1 g2 g3 x y s1 s2)
  have K2 := Lib.hid (pick_some k2 h1 h2 g1 g2 g3 z y s1 s2)
  obtain ⟨M1, hM1⟩ : ∃ M, oneM (lowV k 5) h1 h2 g1 g2 g3 x y s1 s2 = M := ⟨_, rfl⟩
  obtain ⟨M2, hM2⟩ : ∃ M, oneM (lowV k2 5) h1 h2 g1 g2 g3 z y s1 s2 = M := ⟨_, rfl⟩
  rw [hM1] at CP1 HM1 HS1 KN K1
  rw [hM2] at CP2 HM2 HS2 KN K2
  obtain ⟨V1, hV1⟩ : ∃ V, valM M1 = V := ⟨_, rfl⟩
  obtain ⟨V2, hV2⟩ : ∃ V, valM M2 = V := ⟨_, rfl⟩
  rw [hV1] at CP1
  rw [hV2] at CP2
  have HV1 := Lib.hid hV1; have HV2 := Lib.hid hV2
  have BX := Lib.hid (Box6.new w h1 h2 g1 g2 g3 x y s1 s2 z)
  have AWK := Lib.hid (fun (w2 : World) (hb : Below w.heap.size w w2) => (awake15_any w2).mono fun e w3 (h : _ ∧ _) => (⟨h.1, hb.trans (h.2.mono hb.size)⟩ : e = .returned (.bool true) ∧ Below w.heap.size w w3))
  clear hx hy hz hga hgb hM1 hM2 hV1 hV2
  go_enter Try.func8, Try.ntmps8
  go_upto_region 1 with fail
  generalize (((((w.alloc _).alloc _).alloc _).alloc _).alloc _).alloc _ = w1 at BX ⊢
  obtain ⟨b1, ⟨c0_0, c0_1⟩, ⟨c1_0, c1_1, c1_2⟩, ⟨c2_0, c2_1, c2_2, c2_3, c2_4, c2_5, c2_6, c2_7, c2_8, c2_9, c2_10⟩, ⟨c3_0, c3_1, c3_2, c3_3, c3_4, c3_5, c3_6, c3_7⟩, ⟨c4_0, c4_1⟩, ⟨c5_0, c5_1, c5_2, c5_3, c5_4, c5_5, c5_6, c5_7, c5_8, c5_9, c5_10⟩⟩ := BX.out
  have B1 := Lib.hid b1
  clear b1
  go_wp2_with fail
  with_reducible refine (CG1.out _ B1.out).mono ?_
  rintro e w2 ⟨rfl, hb2⟩
  have BY := Lib.hid (BX.out.carry hb2)
  clear c0_0 c0_1 c1_0 c1_1 c1_2 c2_0 c2_1 c2_2 c2_3 c2_4 c2_5 c2_6 c2_7 c2_8 c2_9 c2_10 c3_0 c3_1 c3_2 c3_3 c3_4 c3_5 c3_6 c3_7 c4_0 c4_1 c5_0 c5_1 c5_2 c5_3 c5_4 c5_5 c5_6 c5_7 c5_8 c5_9 c5_10
  clear BX B1 hb2 CG1
  obtain ⟨b1, ⟨c0_0, c0_1⟩, ⟨c1_0, c1_1, c1_2⟩, ⟨c2_0, c2_1, c2_2, c2_3, c2_4, c2_5, c2_6, c2_7, c2_8, c2_9, c2_10⟩, ⟨c3_0, c3_1, c3_2, c3_3, c3_4, c3_5, c3_6, c3_7⟩, ⟨c4_0, c4_1⟩, ⟨c5_0, c5_1, c5_2, c5_3, c5_4, c5_5, c5_6, c5_7, c5_8, c5_9, c5_10⟩⟩ := BY.out
  have B2 := Lib.hid b1
  clear b1
  cases ga with
  | true =>
    go_wp2_with fail
    with_reducible refine (AWK.out _ B2.out).mono ?_
    rintro e w3 ⟨rfl, hb3⟩
    go_wp2_with fail
    go_ret
    exact ⟨rfl, hb3⟩
  | false =>
  have SM1 := Lib.hid (HS1.out rfl)
  clear HS1
  go_wp2_with fail
  with_reducible refine (CG2.out _ B2.out).mono ?_
  rintro e w3 ⟨rfl, hb3⟩
  have BZ := Lib.hid (BY.out.carry hb3)
  clear c0_0 c0_1 c1_0 c1_1 c1_2 c2_0 c2_1 c2_2 c2_3 c2_4 c2_5 c2_6 c2_7 c2_8 c2_9 c2_10 c3_0 c3_1 c3_2 c3_3 c3_4 c3_5 c3_6 c3_7 c4_0 c4_1 c5_0 c5_1 c5_2 c5_3 c5_4 c5_5 c5_6 c5_7 c5_8 c5_9 c5_10
  clear BY B2 hb3 CG2
  cases gb with
  | true =>
    have B3 := Lib.hid BZ.out.1
    go_wp2_with fail
    with_reducible refine (AWK.out _ B3.out).mono ?_
    rintro e w3 ⟨rfl, hb3⟩
    go_wp2_with fail
    go_ret
    exact ⟨rfl, hb3⟩
  | false =>
  have SM2 := Lib.hid (HS2.out rfl)
  clear HS2
  have BF := b6_flat BZ.out
  have X1 := Lib.hid (And.intro BF.1.drew BF.2)
  clear BZ BF
  go_upto_region 3 with fail
  go_region_held3 (fun w' => Below w.heap.size w w' ∧ w'.cell? ⟨w.heap.size, 0, none⟩ = some (.int .i64 h1) ∧ w'.cell? ⟨w.heap.size, 1, none⟩ = some (.int .i64 h2) ∧ w'.cell? ⟨w.heap.size + 1, 0, none⟩ = some (.int .i64 g1) ∧ w'.cell? ⟨w.heap.size + 1, 1, none⟩ = some (.int .i64 g2) ∧ w'.cell? ⟨w.heap.size + 1, 2, none⟩ = some (.int .i64 g3) ∧ w'.cell? ⟨w.heap.size + 1 + 1, 0, none⟩ = some (.int .i64 x.slot) ∧ w'.cell? ⟨w.heap.size + 1 + 1, 1, none⟩ = some (.int .i64 x.query) ∧ w'.cell? ⟨w.heap.size + 1 + 1, 2, none⟩ = some (.int .i64 x.shard) ∧ w'.cell? ⟨w.heap.size + 1 + 1, 3, none⟩ = some (.int .i64 x.seq) ∧ w'.cell? ⟨w.heap.size + 1 + 1, 4, none⟩ = some (.int .i64 x.epoch) ∧ w'.cell? ⟨w.heap.size + 1 + 1, 5, none⟩ = some (.string x.text) ∧ w'.cell? ⟨w.heap.size + 1 + 1, 6, none⟩ = some (.int .i64 x.k) ∧ w'.cell? ⟨w.heap.size + 1 + 1, 7, none⟩ = some (.int .i64 x.batch) ∧ w'.cell? ⟨w.heap.size + 1 + 1, 8, none⟩ = some (.bool x.first) ∧ w'.cell? ⟨w.heap.size + 1 + 1, 9, none⟩ = some (.int .i64 x.ad) ∧ w'.cell? ⟨w.heap.size + 1 + 1, 10, none⟩ = some (.string x.aw) ∧ w'.cell? ⟨w.heap.size + 1 + 1 + 1, 0, none⟩ = some (.int .i64 y.slot) ∧ w'.cell? ⟨w.heap.size + 1 + 1 + 1, 1, none⟩ = some (.int .i64 y.query) ∧ w'.cell? ⟨w.heap.size + 1 + 1 + 1, 2, none⟩ = some (.int .i64 y.shard) ∧ w'.cell? ⟨w.heap.size + 1 + 1 + 1, 3, none⟩ = some (.int .i64 y.seq) ∧ w'.cell? ⟨w.heap.size + 1 + 1 + 1, 4, none⟩ = some (.int .i64 y.worker) ∧ w'.cell? ⟨w.heap.size + 1 + 1 + 1, 5, none⟩ = some (.int .i64 y.epoch) ∧ w'.cell? ⟨w.heap.size + 1 + 1 + 1, 6, none⟩ = some (.slice y.ia y.n y.ic) ∧ w'.cell? ⟨w.heap.size + 1 + 1 + 1, 7, none⟩ = some (.bool y.fin) ∧ w'.cell? ⟨w.heap.size + 1 + 1 + 1 + 1, 0, none⟩ = some (.int .i64 s1) ∧ w'.cell? ⟨w.heap.size + 1 + 1 + 1 + 1, 1, none⟩ = some (.int .i64 s2) ∧ w'.cell? ⟨w.heap.size + 1 + 1 + 1 + 1 + 1, 0, none⟩ = some (.int .i64 z.slot) ∧ w'.cell? ⟨w.heap.size + 1 + 1 + 1 + 1 + 1, 1, none⟩ = some (.int .i64 z.query) ∧ w'.cell? ⟨w.heap.size + 1 + 1 + 1 + 1 + 1, 2, none⟩ = some (.int .i64 z.shard) ∧ w'.cell? ⟨w.heap.size + 1 + 1 + 1 + 1 + 1, 3, none⟩ = some (.int .i64 z.seq) ∧ w'.cell? ⟨w.heap.size + 1 + 1 + 1 + 1 + 1, 4, none⟩ = some (.int .i64 z.epoch) ∧ w'.cell? ⟨w.heap.size + 1 + 1 + 1 + 1 + 1, 5, none⟩ = some (.string z.text) ∧ w'.cell? ⟨w.heap.size + 1 + 1 + 1 + 1 + 1, 6, none⟩ = some (.int .i64 z.k) ∧ w'.cell? ⟨w.heap.size + 1 + 1 + 1 + 1 + 1, 7, none⟩ = some (.int .i64 z.batch) ∧ w'.cell? ⟨w.heap.size + 1 + 1 + 1 + 1 + 1, 8, none⟩ = some (.bool z.first) ∧ w'.cell? ⟨w.heap.size + 1 + 1 + 1 + 1 + 1, 9, none⟩ = some (.int .i64 z.ad) ∧ w'.cell? ⟨w.heap.size + 1 + 1 + 1 + 1 + 1, 10, none⟩ = some (.string z.aw))
    (first | assumption | exact X1.out | exact b6_carry (by assumption) (by assumption))
    (first
      | (go_at_call 31; (with_reducible refine (CP1.out _).mono ?_); rintro e w' ⟨rfl, hb9⟩)
      | (go_at_call 31; (with_reducible refine (CP2.out _).mono ?_); rintro e w' ⟨rfl, hb9⟩)
      | fail)
  all_goals
    have hS : Below w.heap.size w w' ∧ w'.cell? ⟨w.heap.size, 0, none⟩ = some (.int .i64 h1) ∧ w'.cell? ⟨w.heap.size, 1, none⟩ = some (.int .i64 h2) ∧ w'.cell? ⟨w.heap.size + 1, 0, none⟩ = some (.int .i64 g1) ∧ w'.cell? ⟨w.heap.size + 1, 1, none⟩ = some (.int .i64 g2) ∧ w'.cell? ⟨w.heap.size + 1, 2, none⟩ = some (.int .i64 g3) ∧ w'.cell? ⟨w.heap.size + 1 + 1, 0, none⟩ = some (.int .i64 x.slot) ∧ w'.cell? ⟨w.heap.size + 1 + 1, 1, none⟩ = some (.int .i64 x.query) ∧ w'.cell? ⟨w.heap.size + 1 + 1, 2, none⟩ = some (.int .i64 x.shard) ∧ w'.cell? ⟨w.heap.size + 1 + 1, 3, none⟩ = some (.int .i64 x.seq) ∧ w'.cell? ⟨w.heap.size + 1 + 1, 4, none⟩ = some (.int .i64 x.epoch) ∧ w'.cell? ⟨w.heap.size + 1 + 1, 5, none⟩ = some (.string x.text) ∧ w'.cell? ⟨w.heap.size + 1 + 1, 6, none⟩ = some (.int .i64 x.k) ∧ w'.cell? ⟨w.heap.size + 1 + 1, 7, none⟩ = some (.int .i64 x.batch) ∧ w'.cell? ⟨w.heap.size + 1 + 1, 8, none⟩ = some (.bool x.first) ∧ w'.cell? ⟨w.heap.size + 1 + 1, 9, none⟩ = some (.int .i64 x.ad) ∧ w'.cell? ⟨w.heap.size + 1 + 1, 10, none⟩ = some (.string x.aw) ∧ w'.cell? ⟨w.heap.size + 1 + 1 + 1, 0, none⟩ = some (.int .i64 y.slot) ∧ w'.cell? ⟨w.heap.size + 1 + 1 + 1, 1, none⟩ = some (.int .i64 y.query) ∧ w'.cell? ⟨w.heap.size + 1 + 1 + 1, 2, none⟩ = some (.int .i64 y.shard) ∧ w'.cell? ⟨w.heap.size + 1 + 1 + 1, 3, none⟩ = some (.int .i64 y.seq) ∧ w'.cell? ⟨w.heap.size + 1 + 1 + 1, 4, none⟩ = some (.int .i64 y.worker) ∧ w'.cell? ⟨w.heap.size + 1 + 1 + 1, 5, none⟩ = some (.int .i64 y.epoch) ∧ w'.cell? ⟨w.heap.size + 1 + 1 + 1, 6, none⟩ = some (.slice y.ia y.n y.ic) ∧ w'.cell? ⟨w.heap.size + 1 + 1 + 1, 7, none⟩ = some (.bool y.fin) ∧ w'.cell? ⟨w.heap.size + 1 + 1 + 1 + 1, 0, none⟩ = some (.int .i64 s1) ∧ w'.cell? ⟨w.heap.size + 1 + 1 + 1 + 1, 1, none⟩ = some (.int .i64 s2) ∧ w'.cell? ⟨w.heap.size + 1 + 1 + 1 + 1 + 1, 0, none⟩ = some (.int .i64 z.slot) ∧ w'.cell? ⟨w.heap.size + 1 + 1 + 1 + 1 + 1, 1, none⟩ = some (.int .i64 z.query) ∧ w'.cell? ⟨w.heap.size + 1 + 1 + 1 + 1 + 1, 2, none⟩ = some (.int .i64 z.shard) ∧ w'.cell? ⟨w.heap.size + 1 + 1 + 1 + 1 + 1, 3, none⟩ = some (.int .i64 z.seq) ∧ w'.cell? ⟨w.heap.size + 1 + 1 + 1 + 1 + 1, 4, none⟩ = some (.int .i64 z.epoch) ∧ w'.cell? ⟨w.heap.size + 1 + 1 + 1 + 1 + 1, 5, none⟩ = some (.string z.text) ∧ w'.cell? ⟨w.heap.size + 1 + 1 + 1 + 1 + 1, 6, none⟩ = some (.int .i64 z.k) ∧ w'.cell? ⟨w.heap.size + 1 + 1 + 1 + 1 + 1, 7, none⟩ = some (.int .i64 z.batch) ∧ w'.cell? ⟨w.heap.size + 1 + 1 + 1 + 1 + 1, 8, none⟩ = some (.bool z.first) ∧ w'.cell? ⟨w.heap.size + 1 + 1 + 1 + 1 + 1, 9, none⟩ = some (.int .i64 z.ad) ∧ w'.cell? ⟨w.heap.size + 1 + 1 + 1 + 1 + 1, 10, none⟩ = some (.string z.aw) := by assumption
    have B4 := Lib.hid hS.1
    clear hS
    have CE1 := Lib.hid (HV1.out ▸ encode_all M1 w' (HM1.out _ B4.out) SM1.out)
    go_wp2_with fail
    with_reducible refine CE1.out.mono ?_
    rintro e w5 hE1
    have hb5 : Below w'.heap.size w' w5 := by rcases hE1 with ⟨_, a, c, _, _, _, h, _⟩ | ⟨_, _, h⟩ <;> exact h
    have B5 := Lib.hid (B4.out.trans (hb5.mono B4.out.size))
    have CE2 := Lib.hid (HV2.out ▸ encode_all M2 w5 (HM2.out _ B5.out) SM2.out)
    clear hb5 B4 CE1
    rcases hE1 with ⟨hm1, a1, c1, rfl, -, hh1, -, -⟩ | ⟨hm1, rfl, -⟩
    · have H1 := Lib.hid hh1
      have N1 := Lib.hid (body_small M1 hm1 ((HM1.out _ B5.out).items))
      have L1 := Lib.hid (frameM_len M1)
      clear hh1
      go_wp2_with fail
      with_reducible refine CE2.out.mono ?_
      rintro e w6 hE2
      have hb6 : Below w5.heap.size w5 w6 := by rcases hE2 with ⟨_, a, c, _, _, _, h, _⟩ | ⟨_, _, h⟩ <;> exact h
      have B6 := Lib.hid (B5.out.trans (hb6.mono B5.out.size))
      have J1 := Lib.hid (H1.out.below hb6)
      clear hb6 CE2 H1
      rcases hE2 with ⟨hm2, a2, c2, rfl, -, hh2, -, -⟩ | ⟨hm2, rfl, -⟩
      · have N2 := Lib.hid (body_small M2 hm2 ((HM2.out _ B6.out).items))
        have L2 := Lib.hid (frameM_len M2)
        have FI := frames_iff M1 M2 KN.out hm1 hm2
        have hl1 : (frameM M1).length ≤ 4611686018427387904 := by have := N1.out; have := L1.out; omega
        have hl2 : (frameM M2).length ≤ 4611686018427387904 := by have := N2.out; have := L2.out; omega
        have SB := sameB_any a1 a2 _ c1 _ c2 _ _ w6 J1.out hh2 hl1 hl2
        obtain ⟨n1, hn1⟩ : ∃ n, (frameM M1).length = n := ⟨_, rfl⟩
        obtain ⟨n2, hn2⟩ : ∃ n, (frameM M2).length = n := ⟨_, rfl⟩
        rw [hn1, hn2] at SB
        rw [hn1] at hl1; rw [hn2] at hl2
        rw [hn1, hn2]
        obtain ⟨f, hf⟩ : ∃ f, decide (frameM M1 = frameM M2) = f := ⟨_, rfl⟩
        rw [hf] at SB
        have CB := Lib.hid SB
        have CS := Lib.hid (fun (w7 : World) (hb : Below w.heap.size w w7) => show Calls Try.prog 27 #[V1, V2] w7 (fun e w' => e = .returned (.bool f) ∧ Below w7.heap.size w7 w') from by
          obtain ⟨z, hz, hc⟩ := sameM_kin M1 M2 w7 KN.out K1.out K2.out (HM1.out _ hb) (HM2.out _ hb) SM1.out
          have e : z = f := by
            rw [← hf]
            cases z
            · symm; rw [decide_eq_false_iff_not]; intro h; exact absurd (hz.2 (FI.1 h)) (by simp)
            · symm; rw [decide_eq_true_iff]; exact FI.2 (hz.1 rfl)
          rw [HV1.out, HV2.out, e] at hc
          exact hc)
        clear hh2 SB FI hf hn1 hn2 hm1 hm2 J1
        go_wp2_with fail
        with_reducible refine CB.out.mono ?_
        rintro e w7 ⟨rfl, m, hw7⟩
        have B7 := Lib.hid (B6.out.trans ((hw7 ▸ below_drewN w6 m : Below w6.heap.size w6 w7).mono B6.out.size))
        clear hw7 CB
        go_wp2_with fail
        with_reducible refine (CS.out _ B7.out).mono ?_
        rintro e w8 ⟨rfl, hb8⟩
        have B8 := Lib.hid (B7.out.trans (hb8.mono B7.out.size))
        clear hb8 CS B7
        have hff : (f == f) = true := by simp
        go_wp2_with fail
        with_reducible refine (AWK.out _ B8.out).mono ?_
        rintro e w9 ⟨rfl, hb9⟩
        go_wp2_with fail
        go_ret
        exact ⟨rfl, hb9⟩
      · clear hm2 hm1
        go_wp2_with fail
        with_reducible refine (AWK.out _ B6.out).mono ?_
        rintro e w9 ⟨rfl, hb9⟩
        go_wp2_with fail
        go_ret
        exact ⟨rfl, hb9⟩
    · clear hm1
      go_wp2_with fail
      with_reducible refine CE2.out.mono ?_
      rintro e w6 hE2
      have hb6 : Below w5.heap.size w5 w6 := by rcases hE2 with ⟨_, a, c, _, _, _, h, _⟩ | ⟨_, _, h⟩ <;> exact h
      have B6 := Lib.hid (B5.out.trans (hb6.mono B5.out.size))
      clear hb6 CE2
      rcases hE2 with ⟨hm2, a2, c2, rfl, -, -, -, -⟩ | ⟨hm2, rfl, -⟩
      all_goals
        clear hm2
        go_wp2_with fail
        with_reducible refine (AWK.out _ B6.out).mono ?_
        rintro e w9 ⟨rfl, hb9⟩
        go_wp2_with fail
        go_ret
        exact ⟨rfl, hb9⟩
open Go.ChangeShapes Go.WideShapes Go.ChangeAt in
theorem msgUnlike_walk {H : Type} {enc : TypeId × Value → H} (W : World) (base : Nat) (v0 v1 v2 v3 v4 v5 v6 v7 : Value) (d0 d1 d2 d3 d4 d5 d6 d7 : DataW H) (p0 p1 p2 p3 p4 p5 p6 p7 : List MemPlace)
    (h0 : DataW.Trod enc Try.prog W 0 (fun _ => true) true 3 v0 d0 p0) (h1 : DataW.Trod enc Try.prog W 0 (fun _ => true) true 3 v1 d1 p1) (h2 : DataW.Trod enc Try.prog W 0 (fun _ => true) true 23 v2 d2 p2) (h3 : DataW.Trod enc Try.prog W 0 (fun _ => true) true 25 v3 d3 p3) (h4 : DataW.Trod enc Try.prog W 0 (fun _ => true) true 29 v4 d4 p4) (h5 : DataW.Trod enc Try.prog W 0 (fun _ => true) true 32 v5 d5 p5) (h6 : DataW.Trod enc Try.prog W 0 (fun _ => true) true 34 v6 d6 p6) (h7 : DataW.Trod enc Try.prog W 0 (fun _ => true) true 29 v7 d7 p7)
    (o0 : Value.okWide Try.prog W .any base 3 v0) (o1 : Value.okWide Try.prog W .any base 3 v1) (o2 : Value.okWide Try.prog W .any base 23 v2) (o3 : Value.okWide Try.prog W .any base 25 v3) (o4 : Value.okWide Try.prog W .any base 29 v4) (o5 : Value.okWide Try.prog W .any base 32 v5) (o6 : Value.okWide Try.prog W .any base 34 v6) (o7 : Value.okWide Try.prog W .any base 29 v7) :
    Calls Try.prog 8 #[v0, v1, v2, v3, v4, v5, v6, v7] W fun e w' => e = .returned (.bool true) ∧ RowKit.Below W.heap.size W w' := by
  obtain ⟨k, rfl, rfl, rfl, b0⟩ := open_int Try.underlying3 o0 h0
  obtain ⟨k2, rfl, rfl, rfl, b1⟩ := open_int Try.underlying3 o1 h1
  obtain ⟨e1, e2, rfl⟩ := hello_arg o2 h2
  obtain ⟨g1, g2, g3, rfl⟩ := grant_arg o3 h3
  obtain ⟨x, hx, rfl⟩ := ask_arg o4 h4
  obtain ⟨y, hy, rfl⟩ := reply_arg o5 h5
  obtain ⟨s1, s2, rfl⟩ := stop_arg o6 h6
  obtain ⟨z, hz, rfl⟩ := ask_arg o7 h7
  exact msgUnlike_law k k2 e1 e2 g1 g2 g3 x y s1 s2 z W hx hy hz
end Go.Proofs.Ythboiklcjpnhbaa
