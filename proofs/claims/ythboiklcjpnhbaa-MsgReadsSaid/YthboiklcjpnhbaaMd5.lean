/- messages in the document: May, body, Of (by gen/md5.py) -/
import Derived.Test.YthboiklcjpnhbaaMd4
namespace Go.Proofs.Ythboiklcjpnhbaa
open Go.RowKit
set_option linter.unusedVariables false
set_option maxRecDepth 20000
set_option maxRecDepth 100000
def msgC : MsgV → Value
  | .hello a b => .agg #[.int .i64 1, .int .i64 a, .int .i64 b, .int .i64 0, .int .i64 0, .int .i64 0, .int .i64 0, .int .i64 0, .int .i64 0, .int .i64 0, .int .i64 0, .string ⟨#[]⟩, .int .i64 0, .int .i64 0, .bool false, .int .i64 0, .string ⟨#[]⟩, .int .i64 0, .int .i64 0, .int .i64 0, .int .i64 0, .int .i64 0, .int .i64 0, .slice .none 0 0, .bool false, .int .i64 0, .int .i64 0]
  | .grant a b c => .agg #[.int .i64 2, .int .i64 0, .int .i64 0, .int .i64 a, .int .i64 b, .int .i64 c, .int .i64 0, .int .i64 0, .int .i64 0, .int .i64 0, .int .i64 0, .string ⟨#[]⟩, .int .i64 0, .int .i64 0, .bool false, .int .i64 0, .string ⟨#[]⟩, .int .i64 0, .int .i64 0, .int .i64 0, .int .i64 0, .int .i64 0, .int .i64 0, .slice .none 0 0, .bool false, .int .i64 0, .int .i64 0]
  | .ask x => .agg #[.int .i64 3, .int .i64 0, .int .i64 0, .int .i64 0, .int .i64 0, .int .i64 0, .int .i64 x.slot, .int .i64 x.query, .int .i64 x.shard, .int .i64 x.seq, .int .i64 x.epoch, .string x.text, .int .i64 x.k, .int .i64 x.batch, .bool x.first, .int .i64 x.ad, .string x.aw, .int .i64 0, .int .i64 0, .int .i64 0, .int .i64 0, .int .i64 0, .int .i64 0, .slice .none 0 0, .bool false, .int .i64 0, .int .i64 0]
  | .reply x => .agg #[.int .i64 4, .int .i64 0, .int .i64 0, .int .i64 0, .int .i64 0, .int .i64 0, .int .i64 0, .int .i64 0, .int .i64 0, .int .i64 0, .int .i64 0, .string ⟨#[]⟩, .int .i64 0, .int .i64 0, .bool false, .int .i64 0, .string ⟨#[]⟩, .int .i64 x.slot, .int .i64 x.query, .int .i64 x.shard, .int .i64 x.seq, .int .i64 x.worker, .int .i64 x.epoch, .slice x.ia x.n x.ic, .bool x.fin, .int .i64 0, .int .i64 0]
  | .stop a b => .agg #[.int .i64 5, .int .i64 0, .int .i64 0, .int .i64 0, .int .i64 0, .int .i64 0, .int .i64 0, .int .i64 0, .int .i64 0, .int .i64 0, .int .i64 0, .string ⟨#[]⟩, .int .i64 0, .int .i64 0, .bool false, .int .i64 0, .string ⟨#[]⟩, .int .i64 0, .int .i64 0, .int .i64 0, .int .i64 0, .int .i64 0, .int .i64 0, .slice .none 0 0, .bool false, .int .i64 a, .int .i64 b]
  | .num _ => .agg #[.int .i64 0, .int .i64 0, .int .i64 0, .int .i64 0, .int .i64 0, .int .i64 0, .int .i64 0, .int .i64 0, .int .i64 0, .int .i64 0, .int .i64 0, .string ⟨#[]⟩, .int .i64 0, .int .i64 0, .bool false, .int .i64 0, .string ⟨#[]⟩, .int .i64 0, .int .i64 0, .int .i64 0, .int .i64 0, .int .i64 0, .int .i64 0, .slice .none 0 0, .bool false, .int .i64 0, .int .i64 0]
  | .none => .agg #[.int .i64 0, .int .i64 0, .int .i64 0, .int .i64 0, .int .i64 0, .int .i64 0, .int .i64 0, .int .i64 0, .int .i64 0, .int .i64 0, .int .i64 0, .string ⟨#[]⟩, .int .i64 0, .int .i64 0, .bool false, .int .i64 0, .string ⟨#[]⟩, .int .i64 0, .int .i64 0, .int .i64 0, .int .i64 0, .int .i64 0, .int .i64 0, .slice .none 0 0, .bool false, .int .i64 0, .int .i64 0]
set_option maxHeartbeats 3200000 in
theorem rMay_Hello (a b : Int) (z : Bool) (w : World) (h : mayHello a b = z) :
    Calls Try.prog 20 #[.agg #[.int .i64 1, .int .i64 a, .int .i64 b, .int .i64 0, .int .i64 0, .int .i64 0, .int .i64 0, .int .i64 0, .int .i64 0, .int .i64 0, .int .i64 0, .string ⟨#[]⟩, .int .i64 0, .int .i64 0, .bool false, .int .i64 0, .string ⟨#[]⟩, .int .i64 0, .int .i64 0, .int .i64 0, .int .i64 0, .int .i64 0, .int .i64 0, .slice .none 0 0, .bool false, .int .i64 0, .int .i64 0]] w fun e w' => e = .returned (.bool z) ∧ Below w.heap.size w w' := by
  have h : (inR a 1 5 && allN [b]) = z := by rw [← h]; unfold mayHello allN; simp only [List.all_cons, List.all_nil, Bool.and_true]
  obtain ⟨z1, h1⟩ : ∃ z, inR a 1 5 = z := ⟨_, rfl⟩
  obtain ⟨z2, h2⟩ : ∃ z, allN [b] = z := ⟨_, rfl⟩
  rw [h1, h2] at h
  obtain ⟨w3, hw3⟩ : ∃ w3, w.alloc (.cells #[.int .i64 1, .int .i64 a, .int .i64 b, .int .i64 0, .int .i64 0, .int .i64 0, .int .i64 0, .int .i64 0, .int .i64 0, .int .i64 0, .int .i64 0, .string ⟨#[]⟩, .int .i64 0, .int .i64 0, .bool false, .int .i64 0, .string ⟨#[]⟩, .int .i64 0, .int .i64 0, .int .i64 0, .int .i64 0, .int .i64 0, .int .i64 0, .slice .none 0 0, .bool false, .int .i64 0, .int .i64 0] 46) = w3 := ⟨_, rfl⟩
  have BX := Lib.hid (show Below w.heap.size w w3 from hw3 ▸ below_one w _)
  have x0 : w3.cell? ⟨w.heap.size, 0, none⟩ = some (.int .i64 1) := by rw [← hw3, World.cell?_alloc_mark]; rfl
  have x1 : w3.cell? ⟨w.heap.size, 1, none⟩ = some (.int .i64 a) := by rw [← hw3, World.cell?_alloc_mark]; rfl
  have x2 : w3.cell? ⟨w.heap.size, 2, none⟩ = some (.int .i64 b) := by rw [← hw3, World.cell?_alloc_mark]; rfl
  obtain ⟨p, hp⟩ : ∃ p, w.heap.size = p := ⟨_, rfl⟩
  rw [hp] at x0 x1 x2
  have C1 := Lib.hid (fun w => rin_lit a 1 5 z1 w h1)
  have C2 := Lib.hid (rnums_any _ 1 1 [b] z2 _ (holdsI_lit w3 [b] 3 (0, 0)) (by omega) h2)
  have BY := Lib.hid (BX.out.trans ((below_one w3 (.cells #[.int .i64 b] 3)).mono BX.out.size))
  clear h1 h2
  cases z1
  · obtain rfl : z = false := by rw [← h]; simp
    clear h C2
    go_enter Try.func20, Try.ntmps20
    go_upto_region 1 with fail
    try rw [hw3]
    try simp only [hp]
    clear hw3 hp
    go_wp2_with fail
    refine (C1.out _).mono ?_
    rintro e w' ⟨rfl, rfl⟩
    go_wp2_with fail
    go_ret
    exact ⟨rfl, BX.out⟩
  · obtain rfl : z2 = z := by rw [← h]; rfl
    clear h
    go_enter Try.func20, Try.ntmps20
    go_upto_region 1 with fail
    try rw [hw3]
    try simp only [hp]
    clear hw3 hp
    go_wp2_with fail
    refine (C1.out _).mono ?_
    rintro e w' ⟨rfl, rfl⟩
    go_wp2_with fail
    refine C2.out.mono ?_
    rintro e w' ⟨rfl, hw⟩
    have BZ := Lib.hid (show Below w.heap.size w w' from hw ▸ BY.out)
    clear hw
    go_wp2_with fail
    go_ret
    exact ⟨rfl, BZ.out⟩
set_option maxHeartbeats 3200000 in
theorem rBody_Hello (a b : Int) (o : List Nat) (m : Nat) (w : World) (ho : bodyM (.hello a b) = o) (hm : o.length = m) :
    Calls Try.prog 36 #[.agg #[.int .i64 1, .int .i64 a, .int .i64 b, .int .i64 0, .int .i64 0, .int .i64 0, .int .i64 0, .int .i64 0, .int .i64 0, .int .i64 0, .int .i64 0, .string ⟨#[]⟩, .int .i64 0, .int .i64 0, .bool false, .int .i64 0, .string ⟨#[]⟩, .int .i64 0, .int .i64 0, .int .i64 0, .int .i64 0, .int .i64 0, .int .i64 0, .slice .none 0 0, .bool false, .int .i64 0, .int .i64 0]] w (RBB w w o m) := by
  obtain ⟨w3, hw3⟩ : ∃ w3, w.alloc (.cells #[.int .i64 1, .int .i64 a, .int .i64 b, .int .i64 0, .int .i64 0, .int .i64 0, .int .i64 0, .int .i64 0, .int .i64 0, .int .i64 0, .int .i64 0, .string ⟨#[]⟩, .int .i64 0, .int .i64 0, .bool false, .int .i64 0, .string ⟨#[]⟩, .int .i64 0, .int .i64 0, .int .i64 0, .int .i64 0, .int .i64 0, .int .i64 0, .slice .none 0 0, .bool false, .int .i64 0, .int .i64 0] 46) = w3 := ⟨_, rfl⟩
  have BX := Lib.hid (show Below w.heap.size w w3 from hw3 ▸ below_one w _)
  have x0 : w3.cell? ⟨w.heap.size, 0, none⟩ = some (.int .i64 1) := by rw [← hw3, World.cell?_alloc_mark]; rfl
  have x1 : w3.cell? ⟨w.heap.size, 1, none⟩ = some (.int .i64 a) := by rw [← hw3, World.cell?_alloc_mark]; rfl
  have x2 : w3.cell? ⟨w.heap.size, 2, none⟩ = some (.int .i64 b) := by rw [← hw3, World.cell?_alloc_mark]; rfl
  obtain ⟨p, hp⟩ : ∃ p, w.heap.size = p := ⟨_, rfl⟩
  rw [hp] at x0 x1 x2
  have BX0 := Lib.hid (BX.out.trans ((below_one w3 (.cells #[.int .i64 a, .int .i64 b] 3)).mono BX.out.size))
  have CF := Lib.hid (dfours _ 2 2 [a, b] m _ (holdsI_lit w3 [a, b] 3 (0, 0)) (by omega) (by rw [← hm, ← ho, show bodyM (.hello a b) = nsB [a, b] from rfl, nsB_len]; rfl))
  rw [show nsB [a, b] = o from ho] at CF
  simp only [List.map_cons, List.map_nil] at CF
  clear ho hm
  go_enter Try.func36, Try.ntmps36
  go_upto_region 1 with fail
  try rw [hw3]
  try simp only [hp]
  clear hw3 hp
  go_wp2_with fail
  refine CF.out.mono ?_
  rintro e w' ⟨a2, c2, rfl, hl, hB, hb⟩
  have FF := Lib.hid (show RBB w w o m (.returned (.slice a2 m c2)) w' from ⟨a2, c2, rfl, hl, hB.rebase BX0.out, (hB.rebase BX0.out).b⟩)
  clear hl hB hb
  go_wp2_with fail
  go_ret
  exact FF.out
set_option maxHeartbeats 3200000 in
theorem rMay_Grant (a b c : Int) (z : Bool) (w : World) (h : mayGrant a b c = z) :
    Calls Try.prog 20 #[.agg #[.int .i64 2, .int .i64 0, .int .i64 0, .int .i64 a, .int .i64 b, .int .i64 c, .int .i64 0, .int .i64 0, .int .i64 0, .int .i64 0, .int .i64 0, .string ⟨#[]⟩, .int .i64 0, .int .i64 0, .bool false, .int .i64 0, .string ⟨#[]⟩, .int .i64 0, .int .i64 0, .int .i64 0, .int .i64 0, .int .i64 0, .int .i64 0, .slice .none 0 0, .bool false, .int .i64 0, .int .i64 0]] w fun e w' => e = .returned (.bool z) ∧ Below w.heap.size w w' := by
  have h : (inR a 1 5 && allN [b, c]) = z := by rw [← h]; unfold mayGrant allN; simp only [List.all_cons, List.all_nil, Bool.and_true]; try ac_rfl
  obtain ⟨z1, h1⟩ : ∃ z, inR a 1 5 = z := ⟨_, rfl⟩
  obtain ⟨z2, h2⟩ : ∃ z, allN [b, c] = z := ⟨_, rfl⟩
  rw [h1, h2] at h
  obtain ⟨w3, hw3⟩ : ∃ w3, w.alloc (.cells #[.int .i64 2, .int .i64 0, .int .i64 0, .int .i64 a, .int .i64 b, .int .i64 c, .int .i64 0, .int .i64 0, .int .i64 0, .int .i64 0, .int .i64 0, .string ⟨#[]⟩, .int .i64 0, .int .i64 0, .bool false, .int .i64 0, .string ⟨#[]⟩, .int .i64 0, .int .i64 0, .int .i64 0, .int .i64 0, .int .i64 0, .int .i64 0, .slice .none 0 0, .bool false, .int .i64 0, .int .i64 0] 46) = w3 := ⟨_, rfl⟩
  have BX := Lib.hid (show Below w.heap.size w w3 from hw3 ▸ below_one w _)
  have x0 : w3.cell? ⟨w.heap.size, 0, none⟩ = some (.int .i64 2) := by rw [← hw3, World.cell?_alloc_mark]; rfl
  have x3 : w3.cell? ⟨w.heap.size, 3, none⟩ = some (.int .i64 a) := by rw [← hw3, World.cell?_alloc_mark]; rfl
  have x4 : w3.cell? ⟨w.heap.size, 4, none⟩ = some (.int .i64 b) := by rw [← hw3, World.cell?_alloc_mark]; rfl
  have x5 : w3.cell? ⟨w.heap.size, 5, none⟩ = some (.int .i64 c) := by rw [← hw3, World.cell?_alloc_mark]; rfl
  obtain ⟨p, hp⟩ : ∃ p, w.heap.size = p := ⟨_, rfl⟩
  rw [hp] at x0 x3 x4 x5
  have C1 := Lib.hid (fun w => rin_lit a 1 5 z1 w h1)
  have C2 := Lib.hid (rnums_any _ 2 2 [b, c] z2 _ (holdsI_lit w3 [b, c] 3 (0, 0)) (by omega) h2)
  have BY := Lib.hid (BX.out.trans ((below_one w3 (.cells #[.int .i64 b, .int .i64 c] 3)).mono BX.out.size))
  clear h1 h2
  cases z1
  · obtain rfl : z = false := by rw [← h]; simp
    clear h C2
    go_enter Try.func20, Try.ntmps20
    go_upto_region 1 with fail
    try rw [hw3]
    try simp only [hp]
    clear hw3 hp
    go_wp2_with fail
    refine (C1.out _).mono ?_
    rintro e w' ⟨rfl, rfl⟩
    go_wp2_with fail
    go_ret
    exact ⟨rfl, BX.out⟩
  · obtain rfl : z2 = z := by rw [← h]; rfl
    clear h
    go_enter Try.func20, Try.ntmps20
    go_upto_region 1 with fail
    try rw [hw3]
    try simp only [hp]
    clear hw3 hp
    go_wp2_with fail
    refine (C1.out _).mono ?_
    rintro e w' ⟨rfl, rfl⟩
    go_wp2_with fail
    refine C2.out.mono ?_
    rintro e w' ⟨rfl, hw⟩
    have BZ := Lib.hid (show Below w.heap.size w w' from hw ▸ BY.out)
    clear hw
    go_wp2_with fail
    go_ret
    exact ⟨rfl, BZ.out⟩
set_option maxHeartbeats 3200000 in
theorem rBody_Grant (a b c : Int) (o : List Nat) (m : Nat) (w : World) (ho : bodyM (.grant a b c) = o) (hm : o.length = m) :
    Calls Try.prog 36 #[.agg #[.int .i64 2, .int .i64 0, .int .i64 0, .int .i64 a, .int .i64 b, .int .i64 c, .int .i64 0, .int .i64 0, .int .i64 0, .int .i64 0, .int .i64 0, .string ⟨#[]⟩, .int .i64 0, .int .i64 0, .bool false, .int .i64 0, .string ⟨#[]⟩, .int .i64 0, .int .i64 0, .int .i64 0, .int .i64 0, .int .i64 0, .int .i64 0, .slice .none 0 0, .bool false, .int .i64 0, .int .i64 0]] w (RBB w w o m) := by
  obtain ⟨w3, hw3⟩ : ∃ w3, w.alloc (.cells #[.int .i64 2, .int .i64 0, .int .i64 0, .int .i64 a, .int .i64 b, .int .i64 c, .int .i64 0, .int .i64 0, .int .i64 0, .int .i64 0, .int .i64 0, .string ⟨#[]⟩, .int .i64 0, .int .i64 0, .bool false, .int .i64 0, .string ⟨#[]⟩, .int .i64 0, .int .i64 0, .int .i64 0, .int .i64 0, .int .i64 0, .int .i64 0, .slice .none 0 0, .bool false, .int .i64 0, .int .i64 0] 46) = w3 := ⟨_, rfl⟩
  have BX := Lib.hid (show Below w.heap.size w w3 from hw3 ▸ below_one w _)
  have x0 : w3.cell? ⟨w.heap.size, 0, none⟩ = some (.int .i64 2) := by rw [← hw3, World.cell?_alloc_mark]; rfl
  have x3 : w3.cell? ⟨w.heap.size, 3, none⟩ = some (.int .i64 a) := by rw [← hw3, World.cell?_alloc_mark]; rfl
  have x4 : w3.cell? ⟨w.heap.size, 4, none⟩ = some (.int .i64 b) := by rw [← hw3, World.cell?_alloc_mark]; rfl
  have x5 : w3.cell? ⟨w.heap.size, 5, none⟩ = some (.int .i64 c) := by rw [← hw3, World.cell?_alloc_mark]; rfl
  obtain ⟨p, hp⟩ : ∃ p, w.heap.size = p := ⟨_, rfl⟩
  rw [hp] at x0 x3 x4 x5
  have BX0 := Lib.hid (BX.out.trans ((below_one w3 (.cells #[.int .i64 a, .int .i64 b, .int .i64 c] 3)).mono BX.out.size))
  have CF := Lib.hid (dfours _ 3 3 [a, b, c] m _ (holdsI_lit w3 [a, b, c] 3 (0, 0)) (by omega) (by rw [← hm, ← ho, show bodyM (.grant a b c) = nsB [a, b, c] from rfl, nsB_len]; rfl))
  rw [show nsB [a, b, c] = o from ho] at CF
  simp only [List.map_cons, List.map_nil] at CF
  clear ho hm
  go_enter Try.func36, Try.ntmps36
  go_upto_region 1 with fail
  try rw [hw3]
  try simp only [hp]
  clear hw3 hp
  go_wp2_with fail
  refine CF.out.mono ?_
  rintro e w' ⟨a2, c2, rfl, hl, hB, hb⟩
  have FF := Lib.hid (show RBB w w o m (.returned (.slice a2 m c2)) w' from ⟨a2, c2, rfl, hl, hB.rebase BX0.out, (hB.rebase BX0.out).b⟩)
  clear hl hB hb
  go_wp2_with fail
  go_ret
  exact FF.out
set_option maxHeartbeats 3200000 in
theorem rMay_Ask (x : AskP) (z : Bool) (w : World) (ht : x.text.size ≤ 1100) (ha : x.aw.size ≤ 1100) (h : mayAsk x = z) :
    Calls Try.prog 20 #[.agg #[.int .i64 3, .int .i64 0, .int .i64 0, .int .i64 0, .int .i64 0, .int .i64 0, .int .i64 x.slot, .int .i64 x.query, .int .i64 x.shard, .int .i64 x.seq, .int .i64 x.epoch, .string x.text, .int .i64 x.k, .int .i64 x.batch, .bool x.first, .int .i64 x.ad, .string x.aw, .int .i64 0, .int .i64 0, .int .i64 0, .int .i64 0, .int .i64 0, .int .i64 0, .slice .none 0 0, .bool false, .int .i64 0, .int .i64 0]] w fun e w' => e = .returned (.bool z) ∧ Below w.heap.size w w' := by
  obtain ⟨w3, hw3⟩ : ∃ w3, w.alloc (.cells #[.int .i64 3, .int .i64 0, .int .i64 0, .int .i64 0, .int .i64 0, .int .i64 0, .int .i64 x.slot, .int .i64 x.query, .int .i64 x.shard, .int .i64 x.seq, .int .i64 x.epoch, .string x.text, .int .i64 x.k, .int .i64 x.batch, .bool x.first, .int .i64 x.ad, .string x.aw, .int .i64 0, .int .i64 0, .int .i64 0, .int .i64 0, .int .i64 0, .int .i64 0, .slice .none 0 0, .bool false, .int .i64 0, .int .i64 0] 46) = w3 := ⟨_, rfl⟩
  have BX := Lib.hid (show Below w.heap.size w w3 from hw3 ▸ below_one w _)
  have x0 : w3.cell? ⟨w.heap.size, 0, none⟩ = some (.int .i64 3) := by rw [← hw3, World.cell?_alloc_mark]; rfl
  have x6 : w3.cell? ⟨w.heap.size, 6, none⟩ = some (.int .i64 x.slot) := by rw [← hw3, World.cell?_alloc_mark]; rfl
  have x7 : w3.cell? ⟨w.heap.size, 7, none⟩ = some (.int .i64 x.query) := by rw [← hw3, World.cell?_alloc_mark]; rfl
  have x8 : w3.cell? ⟨w.heap.size, 8, none⟩ = some (.int .i64 x.shard) := by rw [← hw3, World.cell?_alloc_mark]; rfl
  have x9 : w3.cell? ⟨w.heap.size, 9, none⟩ = some (.int .i64 x.seq) := by rw [← hw3, World.cell?_alloc_mark]; rfl
  have x10 : w3.cell? ⟨w.heap.size, 10, none⟩ = some (.int .i64 x.epoch) := by rw [← hw3, World.cell?_alloc_mark]; rfl
  have x11 : w3.cell? ⟨w.heap.size, 11, none⟩ = some (.string x.text) := by rw [← hw3, World.cell?_alloc_mark]; rfl
  have x12 : w3.cell? ⟨w.heap.size, 12, none⟩ = some (.int .i64 x.k) := by rw [← hw3, World.cell?_alloc_mark]; rfl
  have x13 : w3.cell? ⟨w.heap.size, 13, none⟩ = some (.int .i64 x.batch) := by rw [← hw3, World.cell?_alloc_mark]; rfl
  have x14 : w3.cell? ⟨w.heap.size, 14, none⟩ = some (.bool x.first) := by rw [← hw3, World.cell?_alloc_mark]; rfl
  have x15 : w3.cell? ⟨w.heap.size, 15, none⟩ = some (.int .i64 x.ad) := by rw [← hw3, World.cell?_alloc_mark]; rfl
  have x16 : w3.cell? ⟨w.heap.size, 16, none⟩ = some (.string x.aw) := by rw [← hw3, World.cell?_alloc_mark]; rfl
  obtain ⟨p, hp⟩ : ∃ p, w.heap.size = p := ⟨_, rfl⟩
  rw [hp] at x0 x6 x7 x8 x9 x10 x11 x12 x13 x14 x15 x16
  have CC := Lib.hid (rMayAsk x z w3 (by omega) (by omega) h)
  clear h
  go_enter Try.func20, Try.ntmps20
  go_upto_region 1 with fail
  try rw [hw3]
  try simp only [hp]
  clear hw3 hp
  go_wp2_with fail
  with_reducible refine CC.out.mono ?_
  rintro e w' ⟨rfl, hb⟩
  have B2 := Lib.hid (BX.out.trans (hb.mono BX.out.size))
  clear hb CC
  go_wp2_with fail
  go_ret
  exact ⟨rfl, B2.out⟩
set_option maxHeartbeats 3200000 in
theorem rBody_Ask (x : AskP) (o : List Nat) (m : Nat) (w : World) (ht : x.text.size ≤ 1100) (ha : x.aw.size ≤ 1100) (ho : bodyM (.ask x) = o) (hm : o.length = m) :
    Calls Try.prog 36 #[.agg #[.int .i64 3, .int .i64 0, .int .i64 0, .int .i64 0, .int .i64 0, .int .i64 0, .int .i64 x.slot, .int .i64 x.query, .int .i64 x.shard, .int .i64 x.seq, .int .i64 x.epoch, .string x.text, .int .i64 x.k, .int .i64 x.batch, .bool x.first, .int .i64 x.ad, .string x.aw, .int .i64 0, .int .i64 0, .int .i64 0, .int .i64 0, .int .i64 0, .int .i64 0, .slice .none 0 0, .bool false, .int .i64 0, .int .i64 0]] w (RBB w w o m) := by
  obtain ⟨w3, hw3⟩ : ∃ w3, w.alloc (.cells #[.int .i64 3, .int .i64 0, .int .i64 0, .int .i64 0, .int .i64 0, .int .i64 0, .int .i64 x.slot, .int .i64 x.query, .int .i64 x.shard, .int .i64 x.seq, .int .i64 x.epoch, .string x.text, .int .i64 x.k, .int .i64 x.batch, .bool x.first, .int .i64 x.ad, .string x.aw, .int .i64 0, .int .i64 0, .int .i64 0, .int .i64 0, .int .i64 0, .int .i64 0, .slice .none 0 0, .bool false, .int .i64 0, .int .i64 0] 46) = w3 := ⟨_, rfl⟩
  have BX := Lib.hid (show Below w.heap.size w w3 from hw3 ▸ below_one w _)
  have x0 : w3.cell? ⟨w.heap.size, 0, none⟩ = some (.int .i64 3) := by rw [← hw3, World.cell?_alloc_mark]; rfl
  have x6 : w3.cell? ⟨w.heap.size, 6, none⟩ = some (.int .i64 x.slot) := by rw [← hw3, World.cell?_alloc_mark]; rfl
  have x7 : w3.cell? ⟨w.heap.size, 7, none⟩ = some (.int .i64 x.query) := by rw [← hw3, World.cell?_alloc_mark]; rfl
  have x8 : w3.cell? ⟨w.heap.size, 8, none⟩ = some (.int .i64 x.shard) := by rw [← hw3, World.cell?_alloc_mark]; rfl
  have x9 : w3.cell? ⟨w.heap.size, 9, none⟩ = some (.int .i64 x.seq) := by rw [← hw3, World.cell?_alloc_mark]; rfl
  have x10 : w3.cell? ⟨w.heap.size, 10, none⟩ = some (.int .i64 x.epoch) := by rw [← hw3, World.cell?_alloc_mark]; rfl
  have x11 : w3.cell? ⟨w.heap.size, 11, none⟩ = some (.string x.text) := by rw [← hw3, World.cell?_alloc_mark]; rfl
  have x12 : w3.cell? ⟨w.heap.size, 12, none⟩ = some (.int .i64 x.k) := by rw [← hw3, World.cell?_alloc_mark]; rfl
  have x13 : w3.cell? ⟨w.heap.size, 13, none⟩ = some (.int .i64 x.batch) := by rw [← hw3, World.cell?_alloc_mark]; rfl
  have x14 : w3.cell? ⟨w.heap.size, 14, none⟩ = some (.bool x.first) := by rw [← hw3, World.cell?_alloc_mark]; rfl
  have x15 : w3.cell? ⟨w.heap.size, 15, none⟩ = some (.int .i64 x.ad) := by rw [← hw3, World.cell?_alloc_mark]; rfl
  have x16 : w3.cell? ⟨w.heap.size, 16, none⟩ = some (.string x.aw) := by rw [← hw3, World.cell?_alloc_mark]; rfl
  obtain ⟨p, hp⟩ : ∃ p, w.heap.size = p := ⟨_, rfl⟩
  rw [hp] at x0 x6 x7 x8 x9 x10 x11 x12 x13 x14 x15 x16
  have BX0 := Lib.hid BX.out
  have CF := Lib.hid (dAsked x o m w3 ht ha ho hm)
  clear ho hm
  go_enter Try.func36, Try.ntmps36
  go_upto_region 1 with fail
  try rw [hw3]
  try simp only [hp]
  clear hw3 hp
  go_wp2_with fail
  with_reducible refine CF.out.mono ?_
  rintro e w' ⟨a2, c2, rfl, hl, hB, hb⟩
  have FF := Lib.hid (show RBB w w o m (.returned (.slice a2 m c2)) w' from ⟨a2, c2, rfl, hl, hB.rebase BX0.out, (hB.rebase BX0.out).b⟩)
  clear hl hB hb
  go_wp2_with fail
  go_ret
  exact FF.out
set_option maxHeartbeats 3200000 in
theorem rMay_Reply (x : RepP) (z : Bool) (w : World) (hh : HoldsK w x.ia x.n x.items) (hs : ∀ k ∈ x.items, k.2.size ≤ 1100) (hn : x.n ≤ 1048576) (h : mayReply x = z) :
    Calls Try.prog 20 #[.agg #[.int .i64 4, .int .i64 0, .int .i64 0, .int .i64 0, .int .i64 0, .int .i64 0, .int .i64 0, .int .i64 0, .int .i64 0, .int .i64 0, .int .i64 0, .string ⟨#[]⟩, .int .i64 0, .int .i64 0, .bool false, .int .i64 0, .string ⟨#[]⟩, .int .i64 x.slot, .int .i64 x.query, .int .i64 x.shard, .int .i64 x.seq, .int .i64 x.worker, .int .i64 x.epoch, .slice x.ia x.n x.ic, .bool x.fin, .int .i64 0, .int .i64 0]] w fun e w' => e = .returned (.bool z) ∧ Below w.heap.size w w' := by
  obtain ⟨w3, hw3⟩ : ∃ w3, w.alloc (.cells #[.int .i64 4, .int .i64 0, .int .i64 0, .int .i64 0, .int .i64 0, .int .i64 0, .int .i64 0, .int .i64 0, .int .i64 0, .int .i64 0, .int .i64 0, .string ⟨#[]⟩, .int .i64 0, .int .i64 0, .bool false, .int .i64 0, .string ⟨#[]⟩, .int .i64 x.slot, .int .i64 x.query, .int .i64 x.shard, .int .i64 x.seq, .int .i64 x.worker, .int .i64 x.epoch, .slice x.ia x.n x.ic, .bool x.fin, .int .i64 0, .int .i64 0] 46) = w3 := ⟨_, rfl⟩
  have BX := Lib.hid (show Below w.heap.size w w3 from hw3 ▸ below_one w _)
  have x0 : w3.cell? ⟨w.heap.size, 0, none⟩ = some (.int .i64 4) := by rw [← hw3, World.cell?_alloc_mark]; rfl
  have x17 : w3.cell? ⟨w.heap.size, 17, none⟩ = some (.int .i64 x.slot) := by rw [← hw3, World.cell?_alloc_mark]; rfl
  have x18 : w3.cell? ⟨w.heap.size, 18, none⟩ = some (.int .i64 x.query) := by rw [← hw3, World.cell?_alloc_mark]; rfl
  have x19 : w3.cell? ⟨w.heap.size, 19, none⟩ = some (.int .i64 x.shard) := by rw [← hw3, World.cell?_alloc_mark]; rfl
  have x20 : w3.cell? ⟨w.heap.size, 20, none⟩ = some (.int .i64 x.seq) := by rw [← hw3, World.cell?_alloc_mark]; rfl
  have x21 : w3.cell? ⟨w.heap.size, 21, none⟩ = some (.int .i64 x.worker) := by rw [← hw3, World.cell?_alloc_mark]; rfl
  have x22 : w3.cell? ⟨w.heap.size, 22, none⟩ = some (.int .i64 x.epoch) := by rw [← hw3, World.cell?_alloc_mark]; rfl
  have x23 : w3.cell? ⟨w.heap.size, 23, none⟩ = some (.slice x.ia x.n x.ic) := by rw [← hw3, World.cell?_alloc_mark]; rfl
  have x24 : w3.cell? ⟨w.heap.size, 24, none⟩ = some (.bool x.fin) := by rw [← hw3, World.cell?_alloc_mark]; rfl
  obtain ⟨p, hp⟩ : ∃ p, w.heap.size = p := ⟨_, rfl⟩
  rw [hp] at x0 x17 x18 x19 x20 x21 x22 x23 x24
  have CC := Lib.hid (rMayReply x z w3 (hh.below BX.out) hs hn h)
  clear h
  go_enter Try.func20, Try.ntmps20
  go_upto_region 1 with fail
  try rw [hw3]
  try simp only [hp]
  clear hw3 hp
  go_wp2_with fail
  with_reducible refine CC.out.mono ?_
  rintro e w' ⟨rfl, hb⟩
  have B2 := Lib.hid (BX.out.trans (hb.mono BX.out.size))
  clear hb CC
  go_wp2_with fail
  go_ret
  exact ⟨rfl, B2.out⟩
set_option maxHeartbeats 3200000 in
theorem rBody_Reply (x : RepP) (o : List Nat) (m : Nat) (w : World) (hh : HoldsK w x.ia x.n x.items) (hs : ∀ k ∈ x.items, k.2.size ≤ 1100) (hn : x.n ≤ 8) (ho : bodyM (.reply x) = o) (hm : o.length = m) :
    Calls Try.prog 36 #[.agg #[.int .i64 4, .int .i64 0, .int .i64 0, .int .i64 0, .int .i64 0, .int .i64 0, .int .i64 0, .int .i64 0, .int .i64 0, .int .i64 0, .int .i64 0, .string ⟨#[]⟩, .int .i64 0, .int .i64 0, .bool false, .int .i64 0, .string ⟨#[]⟩, .int .i64 x.slot, .int .i64 x.query, .int .i64 x.shard, .int .i64 x.seq, .int .i64 x.worker, .int .i64 x.epoch, .slice x.ia x.n x.ic, .bool x.fin, .int .i64 0, .int .i64 0]] w (RBB w w o m) := by
  obtain ⟨w3, hw3⟩ : ∃ w3, w.alloc (.cells #[.int .i64 4, .int .i64 0, .int .i64 0, .int .i64 0, .int .i64 0, .int .i64 0, .int .i64 0, .int .i64 0, .int .i64 0, .int .i64 0, .int .i64 0, .string ⟨#[]⟩, .int .i64 0, .int .i64 0, .bool false, .int .i64 0, .string ⟨#[]⟩, .int .i64 x.slot, .int .i64 x.query, .int .i64 x.shard, .int .i64 x.seq, .int .i64 x.worker, .int .i64 x.epoch, .slice x.ia x.n x.ic, .bool x.fin, .int .i64 0, .int .i64 0] 46) = w3 := ⟨_, rfl⟩
  have BX := Lib.hid (show Below w.heap.size w w3 from hw3 ▸ below_one w _)
  have x0 : w3.cell? ⟨w.heap.size, 0, none⟩ = some (.int .i64 4) := by rw [← hw3, World.cell?_alloc_mark]; rfl
  have x17 : w3.cell? ⟨w.heap.size, 17, none⟩ = some (.int .i64 x.slot) := by rw [← hw3, World.cell?_alloc_mark]; rfl
  have x18 : w3.cell? ⟨w.heap.size, 18, none⟩ = some (.int .i64 x.query) := by rw [← hw3, World.cell?_alloc_mark]; rfl
  have x19 : w3.cell? ⟨w.heap.size, 19, none⟩ = some (.int .i64 x.shard) := by rw [← hw3, World.cell?_alloc_mark]; rfl
  have x20 : w3.cell? ⟨w.heap.size, 20, none⟩ = some (.int .i64 x.seq) := by rw [← hw3, World.cell?_alloc_mark]; rfl
  have x21 : w3.cell? ⟨w.heap.size, 21, none⟩ = some (.int .i64 x.worker) := by rw [← hw3, World.cell?_alloc_mark]; rfl
  have x22 : w3.cell? ⟨w.heap.size, 22, none⟩ = some (.int .i64 x.epoch) := by rw [← hw3, World.cell?_alloc_mark]; rfl
  have x23 : w3.cell? ⟨w.heap.size, 23, none⟩ = some (.slice x.ia x.n x.ic) := by rw [← hw3, World.cell?_alloc_mark]; rfl
  have x24 : w3.cell? ⟨w.heap.size, 24, none⟩ = some (.bool x.fin) := by rw [← hw3, World.cell?_alloc_mark]; rfl
  obtain ⟨p, hp⟩ : ∃ p, w.heap.size = p := ⟨_, rfl⟩
  rw [hp] at x0 x17 x18 x19 x20 x21 x22 x23 x24
  have BX0 := Lib.hid BX.out
  have CF := Lib.hid (dReplied x o m w3 (hh.below BX.out) hs hn ho hm)
  clear ho hm
  go_enter Try.func36, Try.ntmps36
  go_upto_region 1 with fail
  try rw [hw3]
  try simp only [hp]
  clear hw3 hp
  go_wp2_with fail
  with_reducible refine CF.out.mono ?_
  rintro e w' ⟨a2, c2, rfl, hl, hB, hb⟩
  have FF := Lib.hid (show RBB w w o m (.returned (.slice a2 m c2)) w' from ⟨a2, c2, rfl, hl, hB.rebase BX0.out, (hB.rebase BX0.out).b⟩)
  clear hl hB hb
  go_wp2_with fail
  go_ret
  exact FF.out
set_option maxHeartbeats 3200000 in
theorem rMay_Stop (a b : Int) (z : Bool) (w : World) (h : mayStop a b = z) :
    Calls Try.prog 20 #[.agg #[.int .i64 5, .int .i64 0, .int .i64 0, .int .i64 0, .int .i64 0, .int .i64 0, .int .i64 0, .int .i64 0, .int .i64 0, .int .i64 0, .int .i64 0, .string ⟨#[]⟩, .int .i64 0, .int .i64 0, .bool false, .int .i64 0, .string ⟨#[]⟩, .int .i64 0, .int .i64 0, .int .i64 0, .int .i64 0, .int .i64 0, .int .i64 0, .slice .none 0 0, .bool false, .int .i64 a, .int .i64 b]] w fun e w' => e = .returned (.bool z) ∧ Below w.heap.size w w' := by
  have h : (inR a 0 3 && allN [b]) = z := by rw [← h]; unfold mayStop allN; simp only [List.all_cons, List.all_nil, Bool.and_true]
  obtain ⟨z1, h1⟩ : ∃ z, inR a 0 3 = z := ⟨_, rfl⟩
  obtain ⟨z2, h2⟩ : ∃ z, allN [b] = z := ⟨_, rfl⟩
  rw [h1, h2] at h
  obtain ⟨w3, hw3⟩ : ∃ w3, w.alloc (.cells #[.int .i64 5, .int .i64 0, .int .i64 0, .int .i64 0, .int .i64 0, .int .i64 0, .int .i64 0, .int .i64 0, .int .i64 0, .int .i64 0, .int .i64 0, .string ⟨#[]⟩, .int .i64 0, .int .i64 0, .bool false, .int .i64 0, .string ⟨#[]⟩, .int .i64 0, .int .i64 0, .int .i64 0, .int .i64 0, .int .i64 0, .int .i64 0, .slice .none 0 0, .bool false, .int .i64 a, .int .i64 b] 46) = w3 := ⟨_, rfl⟩
  have BX := Lib.hid (show Below w.heap.size w w3 from hw3 ▸ below_one w _)
  have x0 : w3.cell? ⟨w.heap.size, 0, none⟩ = some (.int .i64 5) := by rw [← hw3, World.cell?_alloc_mark]; rfl
  have x25 : w3.cell? ⟨w.heap.size, 25, none⟩ = some (.int .i64 a) := by rw [← hw3, World.cell?_alloc_mark]; rfl
  have x26 : w3.cell? ⟨w.heap.size, 26, none⟩ = some (.int .i64 b) := by rw [← hw3, World.cell?_alloc_mark]; rfl
  obtain ⟨p, hp⟩ : ∃ p, w.heap.size = p := ⟨_, rfl⟩
  rw [hp] at x0 x25 x26
  have C1 := Lib.hid (fun w => rin_lit a 0 3 z1 w h1)
  have C2 := Lib.hid (rnums_any _ 1 1 [b] z2 _ (holdsI_lit w3 [b] 3 (0, 0)) (by omega) h2)
  have BY := Lib.hid (BX.out.trans ((below_one w3 (.cells #[.int .i64 b] 3)).mono BX.out.size))
  clear h1 h2
  cases z1
  · obtain rfl : z = false := by rw [← h]; simp
    clear h C2
    go_enter Try.func20, Try.ntmps20
    go_upto_region 1 with fail
    try rw [hw3]
    try simp only [hp]
    clear hw3 hp
    go_wp2_with fail
    refine (C1.out _).mono ?_
    rintro e w' ⟨rfl, rfl⟩
    go_wp2_with fail
    go_ret
    exact ⟨rfl, BX.out⟩
  · obtain rfl : z2 = z := by rw [← h]; rfl
    clear h
    go_enter Try.func20, Try.ntmps20
    go_upto_region 1 with fail
    try rw [hw3]
    try simp only [hp]
    clear hw3 hp
    go_wp2_with fail
    refine (C1.out _).mono ?_
    rintro e w' ⟨rfl, rfl⟩
    go_wp2_with fail
    refine C2.out.mono ?_
    rintro e w' ⟨rfl, hw⟩
    have BZ := Lib.hid (show Below w.heap.size w w' from hw ▸ BY.out)
    clear hw
    go_wp2_with fail
    go_ret
    exact ⟨rfl, BZ.out⟩
set_option maxHeartbeats 3200000 in
theorem rBody_Stop (a b : Int) (o : List Nat) (m : Nat) (w : World) (ho : bodyM (.stop a b) = o) (hm : o.length = m) :
    Calls Try.prog 36 #[.agg #[.int .i64 5, .int .i64 0, .int .i64 0, .int .i64 0, .int .i64 0, .int .i64 0, .int .i64 0, .int .i64 0, .int .i64 0, .int .i64 0, .int .i64 0, .string ⟨#[]⟩, .int .i64 0, .int .i64 0, .bool false, .int .i64 0, .string ⟨#[]⟩, .int .i64 0, .int .i64 0, .int .i64 0, .int .i64 0, .int .i64 0, .int .i64 0, .slice .none 0 0, .bool false, .int .i64 a, .int .i64 b]] w (RBB w w o m) := by
  obtain ⟨w3, hw3⟩ : ∃ w3, w.alloc (.cells #[.int .i64 5, .int .i64 0, .int .i64 0, .int .i64 0, .int .i64 0, .int .i64 0, .int .i64 0, .int .i64 0, .int .i64 0, .int .i64 0, .int .i64 0, .string ⟨#[]⟩, .int .i64 0, .int .i64 0, .bool false, .int .i64 0, .string ⟨#[]⟩, .int .i64 0, .int .i64 0, .int .i64 0, .int .i64 0, .int .i64 0, .int .i64 0, .slice .none 0 0, .bool false, .int .i64 a, .int .i64 b] 46) = w3 := ⟨_, rfl⟩
  have BX := Lib.hid (show Below w.heap.size w w3 from hw3 ▸ below_one w _)
  have x0 : w3.cell? ⟨w.heap.size, 0, none⟩ = some (.int .i64 5) := by rw [← hw3, World.cell?_alloc_mark]; rfl
  have x25 : w3.cell? ⟨w.heap.size, 25, none⟩ = some (.int .i64 a) := by rw [← hw3, World.cell?_alloc_mark]; rfl
  have x26 : w3.cell? ⟨w.heap.size, 26, none⟩ = some (.int .i64 b) := by rw [← hw3, World.cell?_alloc_mark]; rfl
  obtain ⟨p, hp⟩ : ∃ p, w.heap.size = p := ⟨_, rfl⟩
  rw [hp] at x0 x25 x26
  have BX0 := Lib.hid (BX.out.trans ((below_one w3 (.cells #[.int .i64 a, .int .i64 b] 3)).mono BX.out.size))
  have CF := Lib.hid (dfours _ 2 2 [a, b] m _ (holdsI_lit w3 [a, b] 3 (0, 0)) (by omega) (by rw [← hm, ← ho, show bodyM (.stop a b) = nsB [a, b] from rfl, nsB_len]; rfl))
  rw [show nsB [a, b] = o from ho] at CF
  simp only [List.map_cons, List.map_nil] at CF
  clear ho hm
  go_enter Try.func36, Try.ntmps36
  go_upto_region 1 with fail
  try rw [hw3]
  try simp only [hp]
  clear hw3 hp
  go_wp2_with fail
  refine CF.out.mono ?_
  rintro e w' ⟨a2, c2, rfl, hl, hB, hb⟩
  have FF := Lib.hid (show RBB w w o m (.returned (.slice a2 m c2)) w' from ⟨a2, c2, rfl, hl, hB.rebase BX0.out, (hB.rebase BX0.out).b⟩)
  clear hl hB hb
  go_wp2_with fail
  go_ret
  exact FF.out
theorem rMay_no (w : World) : Calls Try.prog 20 #[.agg #[.int .i64 0, .int .i64 0, .int .i64 0, .int .i64 0, .int .i64 0, .int .i64 0, .int .i64 0, .int .i64 0, .int .i64 0, .int .i64 0, .int .i64 0, .string ⟨#[]⟩, .int .i64 0, .int .i64 0, .bool false, .int .i64 0, .string ⟨#[]⟩, .int .i64 0, .int .i64 0, .int .i64 0, .int .i64 0, .int .i64 0, .int .i64 0, .slice .none 0 0, .bool false, .int .i64 0, .int .i64 0]] w fun e w' => e = .returned (.bool false) ∧ Below w.heap.size w w' := by
  obtain ⟨w3, hw3⟩ : ∃ w3, w.alloc (.cells #[.int .i64 0, .int .i64 0, .int .i64 0, .int .i64 0, .int .i64 0, .int .i64 0, .int .i64 0, .int .i64 0, .int .i64 0, .int .i64 0, .int .i64 0, .string ⟨#[]⟩, .int .i64 0, .int .i64 0, .bool false, .int .i64 0, .string ⟨#[]⟩, .int .i64 0, .int .i64 0, .int .i64 0, .int .i64 0, .int .i64 0, .int .i64 0, .slice .none 0 0, .bool false, .int .i64 0, .int .i64 0] 46) = w3 := ⟨_, rfl⟩
  have BX := Lib.hid (show Below w.heap.size w w3 from hw3 ▸ below_one w _)
  have x0 : w3.cell? ⟨w.heap.size, 0, none⟩ = some (.int .i64 0) := by rw [← hw3, World.cell?_alloc_mark]; rfl
  obtain ⟨p, hp⟩ : ∃ p, w.heap.size = p := ⟨_, rfl⟩
  rw [hp] at x0
  go_enter Try.func20, Try.ntmps20
  go_upto_region 1 with fail
  try rw [hw3]
  try simp only [hp]
  clear hw3 hp
  go_wp2_with fail
  go_ret
  exact ⟨rfl, BX.out⟩
theorem rMay_all (M : MsgV) (w : World) (hh : heldM w M) (hs : smallM M) : Calls Try.prog 20 #[msgC M] w fun e w' => e = .returned (.bool (mayM M)) ∧ Below w.heap.size w w' := by
  cases M with
  | hello a b => exact rMay_Hello a b _ w rfl
  | grant a b c => exact rMay_Grant a b c _ w rfl
  | ask x => exact rMay_Ask x _ w hs.1 hs.2 rfl
  | reply x => exact rMay_Reply x _ w hh.1 hs.1 hs.2 rfl
  | stop a b => exact rMay_Stop a b _ w rfl
  | num k => exact rMay_no w
  | none => exact rMay_no w
theorem rBody_all (M : MsgV) (w : World) (hh : heldM w M) (hs : smallM M) (hm : mayM M = true) : Calls Try.prog 36 #[msgC M] w (RBB w w (bodyM M) (bodyM M).length) := by
  cases M with
  | hello a b => exact rBody_Hello a b _ _ w rfl rfl
  | grant a b c => exact rBody_Grant a b c _ _ w rfl rfl
  | ask x => exact rBody_Ask x _ _ w hs.1 hs.2 rfl rfl
  | reply x => exact rBody_Reply x _ _ w hh.1 hs.1 (by have := may_n hh hm; omega) rfl rfl
  | stop a b => exact rBody_Stop a b _ _ w rfl rfl
  | num k => cases hm
  | none => cases hm
end Go.Proofs.Ythboiklcjpnhbaa
