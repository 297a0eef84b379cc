/- messages in the document: Any (by gen/me2.py) -/
import Derived.Test.YthboiklcjpnhbaaMe1
namespace Go.Proofs.Ythboiklcjpnhbaa
open Go.RowKit
set_option linter.unusedVariables false
set_option maxRecDepth 20000
set_option maxRecDepth 100000
set_option maxHeartbeats 1600000 in
theorem any_Hello (a b : Int) (w : World) : Calls Try.prog 28 #[.agg #[.int .i64 1, .int .i64 a, .int .i64 b, .int .i64 0, .int .i64 0, .int .i64 0, .int .i64 0, .int .i64 0, .int .i64 0, .int .i64 0, .int .i64 0, .string ⟨#[]⟩, .int .i64 0, .int .i64 0, .bool false, .int .i64 0, .string ⟨#[]⟩, .int .i64 0, .int .i64 0, .int .i64 0, .int .i64 0, .int .i64 0, .int .i64 0, .slice .none 0 0, .bool false, .int .i64 0, .int .i64 0]] w fun e w' => e = .returned (.iface 23 (.agg #[.int .i64 a, .int .i64 b])) ∧ Below w.heap.size w w' := by
  obtain ⟨w3, hw3⟩ : ∃ w3, w.alloc (.cells #[.int .i64 1, .int .i64 a, .int .i64 b, .int .i64 0, .int .i64 0, .int .i64 0, .int .i64 0, .int .i64 0, .int .i64 0, .int .i64 0, .int .i64 0, .string ⟨#[]⟩, .int .i64 0, .int .i64 0, .bool false, .int .i64 0, .string ⟨#[]⟩, .int .i64 0, .int .i64 0, .int .i64 0, .int .i64 0, .int .i64 0, .int .i64 0, .slice .none 0 0, .bool false, .int .i64 0, .int .i64 0] 46) = w3 := ⟨_, rfl⟩
  have BX := Lib.hid (show Below w.heap.size w w3 from hw3 ▸ below_one w _)
  have x0 : w3.cell? ⟨w.heap.size, 0, none⟩ = some (.int .i64 1) := by rw [← hw3, World.cell?_alloc_mark]; rfl
  have x1 : w3.cell? ⟨w.heap.size, 1, none⟩ = some (.int .i64 a) := by rw [← hw3, World.cell?_alloc_mark]; rfl
  have x2 : w3.cell? ⟨w.heap.size, 2, none⟩ = some (.int .i64 b) := by rw [← hw3, World.cell?_alloc_mark]; rfl
  obtain ⟨p, hp⟩ : ∃ p, w.heap.size = p := ⟨_, rfl⟩
  rw [hp] at x0 x1 x2
  go_enter Try.func28, Try.ntmps28
  go_upto_region 1 with fail
  try rw [hw3]
  try simp only [hp]
  clear hw3 hp
  go_wp2_with fail
  go_ret
  exact ⟨rfl, BX.out⟩
set_option maxHeartbeats 1600000 in
theorem any_Grant (a b c : Int) (w : World) : Calls Try.prog 28 #[.agg #[.int .i64 2, .int .i64 0, .int .i64 0, .int .i64 a, .int .i64 b, .int .i64 c, .int .i64 0, .int .i64 0, .int .i64 0, .int .i64 0, .int .i64 0, .string ⟨#[]⟩, .int .i64 0, .int .i64 0, .bool false, .int .i64 0, .string ⟨#[]⟩, .int .i64 0, .int .i64 0, .int .i64 0, .int .i64 0, .int .i64 0, .int .i64 0, .slice .none 0 0, .bool false, .int .i64 0, .int .i64 0]] w fun e w' => e = .returned (.iface 25 (.agg #[.int .i64 a, .int .i64 b, .int .i64 c])) ∧ Below w.heap.size w w' := by
  obtain ⟨w3, hw3⟩ : ∃ w3, w.alloc (.cells #[.int .i64 2, .int .i64 0, .int .i64 0, .int .i64 a, .int .i64 b, .int .i64 c, .int .i64 0, .int .i64 0, .int .i64 0, .int .i64 0, .int .i64 0, .string ⟨#[]⟩, .int .i64 0, .int .i64 0, .bool false, .int .i64 0, .string ⟨#[]⟩, .int .i64 0, .int .i64 0, .int .i64 0, .int .i64 0, .int .i64 0, .int .i64 0, .slice .none 0 0, .bool false, .int .i64 0, .int .i64 0] 46) = w3 := ⟨_, rfl⟩
  have BX := Lib.hid (show Below w.heap.size w w3 from hw3 ▸ below_one w _)
  have x0 : w3.cell? ⟨w.heap.size, 0, none⟩ = some (.int .i64 2) := by rw [← hw3, World.cell?_alloc_mark]; rfl
  have x3 : w3.cell? ⟨w.heap.size, 3, none⟩ = some (.int .i64 a) := by rw [← hw3, World.cell?_alloc_mark]; rfl
  have x4 : w3.cell? ⟨w.heap.size, 4, none⟩ = some (.int .i64 b) := by rw [← hw3, World.cell?_alloc_mark]; rfl
  have x5 : w3.cell? ⟨w.heap.size, 5, none⟩ = some (.int .i64 c) := by rw [← hw3, World.cell?_alloc_mark]; rfl
  obtain ⟨p, hp⟩ : ∃ p, w.heap.size = p := ⟨_, rfl⟩
  rw [hp] at x0 x3 x4 x5
  go_enter Try.func28, Try.ntmps28
  go_upto_region 1 with fail
  try rw [hw3]
  try simp only [hp]
  clear hw3 hp
  go_wp2_with fail
  go_ret
  exact ⟨rfl, BX.out⟩
set_option maxHeartbeats 1600000 in
theorem any_Ask (x : AskP) (w : World) : Calls Try.prog 28 #[.agg #[.int .i64 3, .int .i64 0, .int .i64 0, .int .i64 0, .int .i64 0, .int .i64 0, .int .i64 x.slot, .int .i64 x.query, .int .i64 x.shard, .int .i64 x.seq, .int .i64 x.epoch, .string x.text, .int .i64 x.k, .int .i64 x.batch, .bool x.first, .int .i64 x.ad, .string x.aw, .int .i64 0, .int .i64 0, .int .i64 0, .int .i64 0, .int .i64 0, .int .i64 0, .slice .none 0 0, .bool false, .int .i64 0, .int .i64 0]] w fun e w' => e = .returned (.iface 29 (.agg #[.int .i64 x.slot, .int .i64 x.query, .int .i64 x.shard, .int .i64 x.seq, .int .i64 x.epoch, .string x.text, .int .i64 x.k, .int .i64 x.batch, .bool x.first, .int .i64 x.ad, .string x.aw])) ∧ Below w.heap.size w w' := by
  obtain ⟨w3, hw3⟩ : ∃ w3, w.alloc (.cells #[.int .i64 3, .int .i64 0, .int .i64 0, .int .i64 0, .int .i64 0, .int .i64 0, .int .i64 x.slot, .int .i64 x.query, .int .i64 x.shard, .int .i64 x.seq, .int .i64 x.epoch, .string x.text, .int .i64 x.k, .int .i64 x.batch, .bool x.first, .int .i64 x.ad, .string x.aw, .int .i64 0, .int .i64 0, .int .i64 0, .int .i64 0, .int .i64 0, .int .i64 0, .slice .none 0 0, .bool false, .int .i64 0, .int .i64 0] 46) = w3 := ⟨_, rfl⟩
  have BX := Lib.hid (show Below w.heap.size w w3 from hw3 ▸ below_one w _)
  have x0 : w3.cell? ⟨w.heap.size, 0, none⟩ = some (.int .i64 3) := by rw [← hw3, World.cell?_alloc_mark]; rfl
  have x6 : w3.cell? ⟨w.heap.size, 6, none⟩ = some (.int .i64 x.slot) := by rw [← hw3, World.cell?_alloc_mark]; rfl
  have x7 : w3.cell? ⟨w.heap.size, 7, none⟩ = some (.int .i64 x.query) := by rw [← hw3, World.cell?_alloc_mark]; rfl
  have x8 : w3.cell? ⟨w.heap.size, 8, none⟩ = some (.int .i64 x.shard) := by rw [← hw3, World.cell?_alloc_mark]; rfl
  have x9 : w3.cell? ⟨w.heap.size, 9, none⟩ = some (.int .i64 x.seq) := by rw [← hw3, World.cell?_alloc_mark]; rfl
  have x10 : w3.cell? ⟨w.heap.size, 10, none⟩ = some (.int .i64 x.epoch) := by rw [← hw3, World.cell?_alloc_mark]; rfl
  have x11 : w3.cell? ⟨w.heap.size, 11, none⟩ = some (.string x.text) := by rw [← hw3, World.cell?_alloc_mark]; rfl
  have x12 : w3.cell? ⟨w.heap.size, 12, none⟩ = some (.int .i64 x.k) := by rw [← hw3, World.cell?_alloc_mark]; rfl
  have x13 : w3.cell? ⟨w.heap.size, 13, none⟩ = some (.int .i64 x.batch) := by rw [← hw3, World.cell?_alloc_mark]; rfl
  have x14 : w3.cell? ⟨w.heap.size, 14, none⟩ = some (.bool x.first) := by rw [← hw3, World.cell?_alloc_mark]; rfl
  have x15 : w3.cell? ⟨w.heap.size, 15, none⟩ = some (.int .i64 x.ad) := by rw [← hw3, World.cell?_alloc_mark]; rfl
  have x16 : w3.cell? ⟨w.heap.size, 16, none⟩ = some (.string x.aw) := by rw [← hw3, World.cell?_alloc_mark]; rfl
  obtain ⟨p, hp⟩ : ∃ p, w.heap.size = p := ⟨_, rfl⟩
  rw [hp] at x0 x6 x7 x8 x9 x10 x11 x12 x13 x14 x15 x16
  go_enter Try.func28, Try.ntmps28
  go_upto_region 1 with fail
  try rw [hw3]
  try simp only [hp]
  clear hw3 hp
  go_wp2_with fail
  go_ret
  exact ⟨rfl, BX.out⟩
set_option maxHeartbeats 1600000 in
theorem any_Reply (x : RepP) (w : World) : Calls Try.prog 28 #[.agg #[.int .i64 4, .int .i64 0, .int .i64 0, .int .i64 0, .int .i64 0, .int .i64 0, .int .i64 0, .int .i64 0, .int .i64 0, .int .i64 0, .int .i64 0, .string ⟨#[]⟩, .int .i64 0, .int .i64 0, .bool false, .int .i64 0, .string ⟨#[]⟩, .int .i64 x.slot, .int .i64 x.query, .int .i64 x.shard, .int .i64 x.seq, .int .i64 x.worker, .int .i64 x.epoch, .slice x.ia x.n x.ic, .bool x.fin, .int .i64 0, .int .i64 0]] w fun e w' => e = .returned (.iface 32 (.agg #[.int .i64 x.slot, .int .i64 x.query, .int .i64 x.shard, .int .i64 x.seq, .int .i64 x.worker, .int .i64 x.epoch, .slice x.ia x.n x.ic, .bool x.fin])) ∧ Below w.heap.size w w' := by
  obtain ⟨w3, hw3⟩ : ∃ w3, w.alloc (.cells #[.int .i64 4, .int .i64 0, .int .i64 0, .int .i64 0, .int .i64 0, .int .i64 0, .int .i64 0, .int .i64 0, .int .i64 0, .int .i64 0, .int .i64 0, .string ⟨#[]⟩, .int .i64 0, .int .i64 0, .bool false, .int .i64 0, .string ⟨#[]⟩, .int .i64 x.slot, .int .i64 x.query, .int .i64 x.shard, .int .i64 x.seq, .int .i64 x.worker, .int .i64 x.epoch, .slice x.ia x.n x.ic, .bool x.fin, .int .i64 0, .int .i64 0] 46) = w3 := ⟨_, rfl⟩
  have BX := Lib.hid (show Below w.heap.size w w3 from hw3 ▸ below_one w _)
  have x0 : w3.cell? ⟨w.heap.size, 0, none⟩ = some (.int .i64 4) := by rw [← hw3, World.cell?_alloc_mark]; rfl
  have x17 : w3.cell? ⟨w.heap.size, 17, none⟩ = some (.int .i64 x.slot) := by rw [← hw3, World.cell?_alloc_mark]; rfl
  have x18 : w3.cell? ⟨w.heap.size, 18, none⟩ = some (.int .i64 x.query) := by rw [← hw3, World.cell?_alloc_mark]; rfl
  have x19 : w3.cell? ⟨w.heap.size, 19, none⟩ = some (.int .i64 x.shard) := by rw [← hw3, World.cell?_alloc_mark]; rfl
  have x20 : w3.cell? ⟨w.heap.size, 20, none⟩ = some (.int .i64 x.seq) := by rw [← hw3, World.cell?_alloc_mark]; rfl
  have x21 : w3.cell? ⟨w.heap.size, 21, none⟩ = some (.int .i64 x.worker) := by rw [← hw3, World.cell?_alloc_mark]; rfl
  have x22 : w3.cell? ⟨w.heap.size, 22, none⟩ = some (.int .i64 x.epoch) := by rw [← hw3, World.cell?_alloc_mark]; rfl
  have x23 : w3.cell? ⟨w.heap.size, 23, none⟩ = some (.slice x.ia x.n x.ic) := by rw [← hw3, World.cell?_alloc_mark]; rfl
  have x24 : w3.cell? ⟨w.heap.size, 24, none⟩ = some (.bool x.fin) := by rw [← hw3, World.cell?_alloc_mark]; rfl
  obtain ⟨p, hp⟩ : ∃ p, w.heap.size = p := ⟨_, rfl⟩
  rw [hp] at x0 x17 x18 x19 x20 x21 x22 x23 x24
  go_enter Try.func28, Try.ntmps28
  go_upto_region 1 with fail
  try rw [hw3]
  try simp only [hp]
  clear hw3 hp
  go_wp2_with fail
  go_ret
  exact ⟨rfl, BX.out⟩
set_option maxHeartbeats 1600000 in
theorem any_Stop (a b : Int) (w : World) : Calls Try.prog 28 #[.agg #[.int .i64 5, .int .i64 0, .int .i64 0, .int .i64 0, .int .i64 0, .int .i64 0, .int .i64 0, .int .i64 0, .int .i64 0, .int .i64 0, .int .i64 0, .string ⟨#[]⟩, .int .i64 0, .int .i64 0, .bool false, .int .i64 0, .string ⟨#[]⟩, .int .i64 0, .int .i64 0, .int .i64 0, .int .i64 0, .int .i64 0, .int .i64 0, .slice .none 0 0, .bool false, .int .i64 a, .int .i64 b]] w fun e w' => e = .returned (.iface 34 (.agg #[.int .i64 a, .int .i64 b])) ∧ Below w.heap.size w w' := by
  obtain ⟨w3, hw3⟩ : ∃ w3, w.alloc (.cells #[.int .i64 5, .int .i64 0, .int .i64 0, .int .i64 0, .int .i64 0, .int .i64 0, .int .i64 0, .int .i64 0, .int .i64 0, .int .i64 0, .int .i64 0, .string ⟨#[]⟩, .int .i64 0, .int .i64 0, .bool false, .int .i64 0, .string ⟨#[]⟩, .int .i64 0, .int .i64 0, .int .i64 0, .int .i64 0, .int .i64 0, .int .i64 0, .slice .none 0 0, .bool false, .int .i64 a, .int .i64 b] 46) = w3 := ⟨_, rfl⟩
  have BX := Lib.hid (show Below w.heap.size w w3 from hw3 ▸ below_one w _)
  have x0 : w3.cell? ⟨w.heap.size, 0, none⟩ = some (.int .i64 5) := by rw [← hw3, World.cell?_alloc_mark]; rfl
  have x25 : w3.cell? ⟨w.heap.size, 25, none⟩ = some (.int .i64 a) := by rw [← hw3, World.cell?_alloc_mark]; rfl
  have x26 : w3.cell? ⟨w.heap.size, 26, none⟩ = some (.int .i64 b) := by rw [← hw3, World.cell?_alloc_mark]; rfl
  obtain ⟨p, hp⟩ : ∃ p, w.heap.size = p := ⟨_, rfl⟩
  rw [hp] at x0 x25 x26
  go_enter Try.func28, Try.ntmps28
  go_upto_region 1 with fail
  try rw [hw3]
  try simp only [hp]
  clear hw3 hp
  go_wp2_with fail
  go_ret
  exact ⟨rfl, BX.out⟩
set_option maxHeartbeats 1600000 in
theorem any_no  (w : World) : Calls Try.prog 28 #[.agg #[.int .i64 0, .int .i64 0, .int .i64 0, .int .i64 0, .int .i64 0, .int .i64 0, .int .i64 0, .int .i64 0, .int .i64 0, .int .i64 0, .int .i64 0, .string ⟨#[]⟩, .int .i64 0, .int .i64 0, .bool false, .int .i64 0, .string ⟨#[]⟩, .int .i64 0, .int .i64 0, .int .i64 0, .int .i64 0, .int .i64 0, .int .i64 0, .slice .none 0 0, .bool false, .int .i64 0, .int .i64 0]] w fun e w' => e = .returned (.nilIface) ∧ Below w.heap.size w w' := by
  obtain ⟨w3, hw3⟩ : ∃ w3, w.alloc (.cells #[.int .i64 0, .int .i64 0, .int .i64 0, .int .i64 0, .int .i64 0, .int .i64 0, .int .i64 0, .int .i64 0, .int .i64 0, .int .i64 0, .int .i64 0, .string ⟨#[]⟩, .int .i64 0, .int .i64 0, .bool false, .int .i64 0, .string ⟨#[]⟩, .int .i64 0, .int .i64 0, .int .i64 0, .int .i64 0, .int .i64 0, .int .i64 0, .slice .none 0 0, .bool false, .int .i64 0, .int .i64 0] 46) = w3 := ⟨_, rfl⟩
  have BX := Lib.hid (show Below w.heap.size w w3 from hw3 ▸ below_one w _)
  have x0 : w3.cell? ⟨w.heap.size, 0, none⟩ = some (.int .i64 0) := by rw [← hw3, World.cell?_alloc_mark]; rfl
  obtain ⟨p, hp⟩ : ∃ p, w.heap.size = p := ⟨_, rfl⟩
  rw [hp] at x0
  go_enter Try.func28, Try.ntmps28
  go_upto_region 1 with fail
  try rw [hw3]
  try simp only [hp]
  clear hw3 hp
  go_wp2_with fail
  go_ret
  exact ⟨rfl, BX.out⟩
def anyV : MsgV → Value
  | .num _ => .nilIface
  | M => valM M
theorem any_all (M : MsgV) (w : World) : Calls Try.prog 28 #[msgC M] w fun e w' => e = .returned (anyV M) ∧ Below w.heap.size w w' := by
  cases M with
  | hello a b => exact any_Hello a b w
  | grant a b c => exact any_Grant a b c w
  | ask x => exact any_Ask x w
  | reply x => exact any_Reply x w
  | stop a b => exact any_Stop a b w
  | num k => exact any_no w
  | none => exact any_no w
end Go.Proofs.Ythboiklcjpnhbaa
