/- msg: the fields of each kind (by gen/ma4.py) -/
import Derived.Test.YthboiklcjpnhbaaMa3
namespace Go.Proofs.Ythboiklcjpnhbaa
open Go.RowKit
set_option linter.unusedVariables false
set_option maxRecDepth 20000
def askB (x : AskP) : List Nat := ((((nsB [x.slot, x.query, x.shard, x.seq, x.epoch] ++ tB x.text) ++ n1 x.k) ++ n1 x.batch) ++ fB x.first) ++ itB (x.ad, x.aw)
def repB (x : RepP) : List Nat := ((nsB [x.slot, x.query, x.shard, x.seq, x.worker, x.epoch] ++ n1 (x.items.length : Int)) ++ itsB x.items) ++ fB x.fin
theorem itsB_snoc (ks : List KV) (j : Nat) (h : j < ks.length) : itsB (ks.take (j + 1)) = itsB (ks.take j) ++ itB (ks.getD j k0) := by
  have e : ks.take (j + 1) = ks.take j ++ [ks.getD j k0] := by
    rw [List.take_add_one, List.getElem?_eq_getElem h, List.getD_eq_getElem?_getD, List.getElem?_eq_getElem h]; rfl
  unfold itsB
  rw [e, List.flatMap_append]; simp
set_option maxHeartbeats 3200000 in
set_option maxRecDepth 100000 in
theorem fieldsHello (a b : Int) (o : List Nat) (m : Nat) (w : World) (ho : nsB [a, b] = o) (hm : o.length = m) :
    Calls Try.prog 63 #[.iface 23 (.agg #[.int .i64 a, .int .i64 b])] w (RBB w w o m) := by
  obtain ⟨w3, hw3⟩ : ∃ w3, w.alloc (.cells #[.int .i64 a, .int .i64 b] 23) = w3 := ⟨_, rfl⟩
  have BX := Lib.hid (show Below w.heap.size w w3 from hw3 ▸ below_one w _)
  have XI := Lib.hid (show HelloIn w3 w.heap.size a b from hw3 ▸ HelloIn_new _ a b _ _ (0, 0) rfl)
  have tHello := taHelloHello a b
  obtain ⟨o1, ho1⟩ : ∃ o, nsB [a, b] = o := ⟨_, rfl⟩
  have CN := Lib.hid (show Calls Try.prog 84 #[.slice (some ⟨w3.heap.size, 0, none⟩) 2 2] (w3.alloc (.cells #[.int .i64 a, .int .i64 b] 3)) (RBB _ (w3.alloc (.cells #[.int .i64 a, .int .i64 b] 3)) o1 8) from ho1 ▸ numbers_any (some ⟨w3.heap.size, 0, none⟩) 2 2 [a, b] 8 (w3.alloc (.cells #[.int .i64 a, .int .i64 b] 3)) (holdsI_lit w3 [a, b] 3 (0, 0)) (by decide) rfl)
  have BI := Lib.hid (below_one w3 (.cells #[.int .i64 a, .int .i64 b] 3))
  have HO := Lib.hid (show o1 = o from by rw [← ho1, ho])
  have HM := Lib.hid (show m = 8 from by rw [← hm, ← ho, nsB_len]; rfl)
  clear ho hm ho1
  go_enter Try.func63, Try.ntmps63
  go_upto_region 4 with fail
  try rw [hw3]
  clear hw3 tHello
  obtain ⟨p, hp⟩ : ∃ p, w.heap.size = p := ⟨_, rfl⟩
  rw [hp] at XI
  try simp only [hp]
  have HP := Lib.hid hp
  clear hp
  have hX := XI.out
  unfold HelloIn at hX
  obtain ⟨x0, x1⟩ := hX
  go_wp2_with fail
  with_reducible refine CN.out.mono ?_
  rintro e w4 ⟨a1, c1, rfl, hl, hB, hW⟩
  have BW1 := Lib.hid (show Below w.heap.size w w4 from (BX.out.trans (BI.out.mono BX.out.size)).trans (hW.mono (Nat.le_trans BX.out.size BI.out.size)))
  have B1 := Lib.hid (show BB w o1 a1 c1 w4 from ⟨hB.h, hB.n, BW1.out⟩)
  have L1 := Lib.hid hl
  have FF := Lib.hid (show RBB w w o m (.returned (.slice a1 8 c1)) w4 from by
    rw [HM.out, ← HO.out]; exact ⟨a1, c1, rfl, hl, B1.out, BW1.out⟩)
  clear hl hB hW CN x0 x1
  go_wp2_with fail
  go_ret
  exact FF.out
set_option maxHeartbeats 3200000 in
set_option maxRecDepth 100000 in
theorem fieldsGrant (a b c : Int) (o : List Nat) (m : Nat) (w : World) (ho : nsB [a, b, c] = o) (hm : o.length = m) :
    Calls Try.prog 63 #[.iface 25 (.agg #[.int .i64 a, .int .i64 b, .int .i64 c])] w (RBB w w o m) := by
  obtain ⟨w3, hw3⟩ : ∃ w3, w.alloc (.cells #[.int .i64 a, .int .i64 b, .int .i64 c] 25) = w3 := ⟨_, rfl⟩
  have BX := Lib.hid (show Below w.heap.size w w3 from hw3 ▸ below_one w _)
  have XI := Lib.hid (show GrantIn w3 w.heap.size a b c from hw3 ▸ GrantIn_new _ a b c _ _ (0, 0) rfl)
  have tHello := taGrantHello a b c
  have tGrant := taGrantGrant a b c
  obtain ⟨o1, ho1⟩ : ∃ o, nsB [a, b, c] = o := ⟨_, rfl⟩
  have CN := Lib.hid (show Calls Try.prog 84 #[.slice (some ⟨w3.heap.size, 0, none⟩) 3 3] (w3.alloc (.cells #[.int .i64 a, .int .i64 b, .int .i64 c] 3)) (RBB _ (w3.alloc (.cells #[.int .i64 a, .int .i64 b, .int .i64 c] 3)) o1 12) from ho1 ▸ numbers_any (some ⟨w3.heap.size, 0, none⟩) 3 3 [a, b, c] 12 (w3.alloc (.cells #[.int .i64 a, .int .i64 b, .int .i64 c] 3)) (holdsI_lit w3 [a, b, c] 3 (0, 0)) (by decide) rfl)
  have BI := Lib.hid (below_one w3 (.cells #[.int .i64 a, .int .i64 b, .int .i64 c] 3))
  have HO := Lib.hid (show o1 = o from by rw [← ho1, ho])
  have HM := Lib.hid (show m = 12 from by rw [← hm, ← ho, nsB_len]; rfl)
  clear ho hm ho1
  go_enter Try.func63, Try.ntmps63
  go_upto_region 7 with fail
  try rw [hw3]
  clear hw3 tHello tGrant
  obtain ⟨p, hp⟩ : ∃ p, w.heap.size = p := ⟨_, rfl⟩
  rw [hp] at XI
  try simp only [hp]
  have HP := Lib.hid hp
  clear hp
  have hX := XI.out
  unfold GrantIn at hX
  obtain ⟨x0, x1, x2⟩ := hX
  go_wp2_with fail
  with_reducible refine CN.out.mono ?_
  rintro e w4 ⟨a1, c1, rfl, hl, hB, hW⟩
  have BW1 := Lib.hid (show Below w.heap.size w w4 from (BX.out.trans (BI.out.mono BX.out.size)).trans (hW.mono (Nat.le_trans BX.out.size BI.out.size)))
  have B1 := Lib.hid (show BB w o1 a1 c1 w4 from ⟨hB.h, hB.n, BW1.out⟩)
  have L1 := Lib.hid hl
  have FF := Lib.hid (show RBB w w o m (.returned (.slice a1 12 c1)) w4 from by
    rw [HM.out, ← HO.out]; exact ⟨a1, c1, rfl, hl, B1.out, BW1.out⟩)
  clear hl hB hW CN x0 x1 x2
  go_wp2_with fail
  go_ret
  exact FF.out
set_option maxHeartbeats 3200000 in
set_option maxRecDepth 100000 in
theorem fieldsAsk (x : AskP) (o : List Nat) (m : Nat) (w : World) (ht : x.text.size ≤ 1100) (ha : x.aw.size ≤ 1100) (ho : askB x = o) (hm : o.length = m) :
    Calls Try.prog 63 #[.iface 29 (.agg #[.int .i64 x.slot, .int .i64 x.query, .int .i64 x.shard, .int .i64 x.seq, .int .i64 x.epoch, .string x.text, .int .i64 x.k, .int .i64 x.batch, .bool x.first, .int .i64 x.ad, .string x.aw])] w (RBB w w o m) := by
  obtain ⟨w3, hw3⟩ : ∃ w3, w.alloc (.cells #[.int .i64 x.slot, .int .i64 x.query, .int .i64 x.shard, .int .i64 x.seq, .int .i64 x.epoch, .string x.text, .int .i64 x.k, .int .i64 x.batch, .bool x.first, .int .i64 x.ad, .string x.aw] 29) = w3 := ⟨_, rfl⟩
  have BX := Lib.hid (show Below w.heap.size w w3 from hw3 ▸ below_one w _)
  have XI := Lib.hid (show MAskIn w3 w.heap.size x from hw3 ▸ MAskIn_new _ x _ _ (0, 0) rfl)
  have tHello := taAskHello x
  have tGrant := taAskGrant x
  have tAsk := taAskAsk x
  obtain ⟨o1, ho1⟩ : ∃ o, nsB [x.slot, x.query, x.shard, x.seq, x.epoch] = o := ⟨_, rfl⟩
  have CN := Lib.hid (show Calls Try.prog 84 #[.slice (some ⟨w3.heap.size, 0, none⟩) 5 5] (w3.alloc (.cells #[.int .i64 x.slot, .int .i64 x.query, .int .i64 x.shard, .int .i64 x.seq, .int .i64 x.epoch] 3)) (RBB _ (w3.alloc (.cells #[.int .i64 x.slot, .int .i64 x.query, .int .i64 x.shard, .int .i64 x.seq, .int .i64 x.epoch] 3)) o1 20) from ho1 ▸ numbers_any (some ⟨w3.heap.size, 0, none⟩) 5 5 [x.slot, x.query, x.shard, x.seq, x.epoch] 20 (w3.alloc (.cells #[.int .i64 x.slot, .int .i64 x.query, .int .i64 x.shard, .int .i64 x.seq, .int .i64 x.epoch] 3)) (holdsI_lit w3 [x.slot, x.query, x.shard, x.seq, x.epoch] 3 (0, 0)) (by decide) rfl)
  have BI := Lib.hid (below_one w3 (.cells #[.int .i64 x.slot, .int .i64 x.query, .int .i64 x.shard, .int .i64 x.seq, .int .i64 x.epoch] 3))
  obtain ⟨o2, ho2⟩ : ∃ o, o1 ++ tB x.text = o := ⟨_, rfl⟩
  obtain ⟨m2, hm2⟩ : ∃ m, 20 + (2 + x.text.size) = m := ⟨_, rfl⟩
  obtain ⟨o3, ho3⟩ : ∃ o, o2 ++ n1 x.k = o := ⟨_, rfl⟩
  obtain ⟨m3, hm3⟩ : ∃ m, m2 + 1 = m := ⟨_, rfl⟩
  obtain ⟨o4, ho4⟩ : ∃ o, o3 ++ n1 x.batch = o := ⟨_, rfl⟩
  obtain ⟨m4, hm4⟩ : ∃ m, m3 + 1 = m := ⟨_, rfl⟩
  obtain ⟨o5, ho5⟩ : ∃ o, o4 ++ fB x.first = o := ⟨_, rfl⟩
  obtain ⟨m5, hm5⟩ : ∃ m, m4 + 1 = m := ⟨_, rfl⟩
  obtain ⟨o6, ho6⟩ : ∃ o, o5 ++ itB (x.ad, x.aw) = o := ⟨_, rfl⟩
  obtain ⟨m6, hm6⟩ : ∃ m, m5 + (3 + x.aw.size) = m := ⟨_, rfl⟩
  have HO := Lib.hid (show o6 = o from by rw [← ho6, ← ho5, ← ho4, ← ho3, ← ho2, ← ho1]; exact ho)
  have C2 := Lib.hid (fun (a1 : Option Addr) (c1 : Nat) (w' : World) (hb : BB w o1 a1 c1 w') (hl : o1.length = 20) => ptext x.text o2 m2 hb hl (by omega) ht ho2 hm2)
  have C3 := Lib.hid (fun (a1 : Option Addr) (c1 : Nat) (w' : World) (hb : BB w o2 a1 c1 w') (hl : o2.length = m2) => pput x.k 1 1 rfl (by omega) o3 m3 hb hl (by omega) ho3 hm3)
  have C4 := Lib.hid (fun (a1 : Option Addr) (c1 : Nat) (w' : World) (hb : BB w o3 a1 c1 w') (hl : o3.length = m3) => pput x.batch 1 1 rfl (by omega) o4 m4 hb hl (by omega) ho4 hm4)
  have C5 := Lib.hid (fun (a1 : Option Addr) (c1 : Nat) (w' : World) (hb : BB w o4 a1 c1 w') (hl : o4.length = m4) => putFlag_any x.first o5 m5 hb hl (by omega) ho5 hm5)
  have C6 := Lib.hid (fun (a1 : Option Addr) (c1 : Nat) (w' : World) (hb : BB w o5 a1 c1 w') (hl : o5.length = m5) => putItem_any x.ad x.aw o6 m6 hb hl (by omega) ha ho6 hm6)
  have HM := Lib.hid (show o6.length = m6 → m = m6 from fun h => by rw [← hm, ← HO.out, h])
  clear ho hm ho1 ho2 ho3 ho4 ho5 ho6 hm2 hm3 hm4 hm5 hm6 ht ha
  go_enter Try.func63, Try.ntmps63
  go_upto_region 10 with fail
  try rw [hw3]
  clear hw3 tHello tGrant tAsk
  obtain ⟨p, hp⟩ : ∃ p, w.heap.size = p := ⟨_, rfl⟩
  rw [hp] at XI
  try simp only [hp]
  have HP := Lib.hid hp
  clear hp
  have hX := XI.out
  unfold MAskIn at hX
  obtain ⟨x0, x1, x2, x3, x4, x5, x6, x7, x8, x9, x10⟩ := hX
  go_wp2_with fail
  with_reducible refine CN.out.mono ?_
  rintro e w4 ⟨a1, c1, rfl, hl, hB, hW⟩
  have BW1 := Lib.hid (show Below w.heap.size w w4 from (BX.out.trans (BI.out.mono BX.out.size)).trans (hW.mono (Nat.le_trans BX.out.size BI.out.size)))
  have B1 := Lib.hid (show BB w o1 a1 c1 w4 from ⟨hB.h, hB.n, BW1.out⟩)
  have L1 := Lib.hid hl
  have X1 := Lib.hid ((XI.out.below BI.out).below hW)
  clear hl hB hW CN x0 x1 x2 x3 x4 x5 x6 x7 x8 x9 x10
  have hX := X1.out
  unfold MAskIn at hX
  obtain ⟨x0, x1, x2, x3, x4, x5, x6, x7, x8, x9, x10⟩ := hX
  have CC2 := Lib.hid (C2.out _ _ _ B1.out L1.out)
  clear C2
  go_wp2_with fail
  with_reducible refine CC2.out.mono ?_
  rintro e w5 ⟨a2, c2, rfl, hl, hB, hW⟩
  have B2 := Lib.hid hB; have L2 := Lib.hid hl
  have X2 := Lib.hid (X1.out.below hW)
  clear hl hB hW CC2 x0 x1 x2 x3 x4 x5 x6 x7 x8 x9 x10 X1 B1 L1
  have hX := X2.out
  unfold MAskIn at hX
  obtain ⟨x0, x1, x2, x3, x4, x5, x6, x7, x8, x9, x10⟩ := hX
  have CC3 := Lib.hid (C3.out _ _ _ B2.out L2.out)
  clear C3
  go_wp2_with fail
  with_reducible refine CC3.out.mono ?_
  rintro e w6 ⟨a3, c3, rfl, hl, hB, hW⟩
  have B3 := Lib.hid hB; have L3 := Lib.hid hl
  have X3 := Lib.hid (X2.out.below hW)
  clear hl hB hW CC3 x0 x1 x2 x3 x4 x5 x6 x7 x8 x9 x10 X2 B2 L2
  have hX := X3.out
  unfold MAskIn at hX
  obtain ⟨x0, x1, x2, x3, x4, x5, x6, x7, x8, x9, x10⟩ := hX
  have CC4 := Lib.hid (C4.out _ _ _ B3.out L3.out)
  clear C4
  go_wp2_with fail
  with_reducible refine CC4.out.mono ?_
  rintro e w7 ⟨a4, c4, rfl, hl, hB, hW⟩
  have B4 := Lib.hid hB; have L4 := Lib.hid hl
  have X4 := Lib.hid (X3.out.below hW)
  clear hl hB hW CC4 x0 x1 x2 x3 x4 x5 x6 x7 x8 x9 x10 X3 B3 L3
  have hX := X4.out
  unfold MAskIn at hX
  obtain ⟨x0, x1, x2, x3, x4, x5, x6, x7, x8, x9, x10⟩ := hX
  have CC5 := Lib.hid (C5.out _ _ _ B4.out L4.out)
  clear C5
  go_wp2_with fail
  with_reducible refine CC5.out.mono ?_
  rintro e w8 ⟨a5, c5, rfl, hl, hB, hW⟩
  have B5 := Lib.hid hB; have L5 := Lib.hid hl
  have X5 := Lib.hid (X4.out.below hW)
  clear hl hB hW CC5 x0 x1 x2 x3 x4 x5 x6 x7 x8 x9 x10 X4 B4 L4
  have hX := X5.out
  unfold MAskIn at hX
  obtain ⟨x0, x1, x2, x3, x4, x5, x6, x7, x8, x9, x10⟩ := hX
  have CC6 := Lib.hid (C6.out _ _ _ B5.out L5.out)
  clear C6
  go_wp2_with fail
  with_reducible refine CC6.out.mono ?_
  rintro e w9 ⟨a6, c6, rfl, hl, hB, hW⟩
  have B6 := Lib.hid hB; have L6 := Lib.hid hl
  clear hl hB hW CC6 x0 x1 x2 x3 x4 x5 x6 x7 x8 x9 x10
  have FF := Lib.hid (show RBB w w o m (.returned (.slice a6 m6 c6)) w9 from by
    rw [HM.out L6.out, ← HO.out]; exact ⟨a6, c6, rfl, L6.out, B6.out, B6.out.b⟩)
  go_wp2_with fail
  go_ret
  exact FF.out
set_option maxHeartbeats 3200000 in
set_option maxRecDepth 100000 in
theorem fieldsReply (x : RepP) (o : List Nat) (m : Nat) (w : World) (hh : HoldsK w x.ia x.n x.items) (hs : ∀ k ∈ x.items, k.2.size ≤ 1100) (hn : x.n ≤ 80) (ho : repB x = o) (hm : o.length = m) :
    Calls Try.prog 63 #[.iface 32 (.agg #[.int .i64 x.slot, .int .i64 x.query, .int .i64 x.shard, .int .i64 x.seq, .int .i64 x.worker, .int .i64 x.epoch, .slice x.ia x.n x.ic, .bool x.fin])] w (RBB w w o m) := by
  obtain ⟨w3, hw3⟩ : ∃ w3, w.alloc (.cells #[.int .i64 x.slot, .int .i64 x.query, .int .i64 x.shard, .int .i64 x.seq, .int .i64 x.worker, .int .i64 x.epoch, .slice x.ia x.n x.ic, .bool x.fin] 32) = w3 := ⟨_, rfl⟩
  have BX := Lib.hid (show Below w.heap.size w w3 from hw3 ▸ below_one w _)
  have XI := Lib.hid (show ReplyIn w3 w.heap.size x from hw3 ▸ ReplyIn_new _ x _ _ (0, 0) rfl)
  have tHello := taReplyHello x
  have tGrant := taReplyGrant x
  have tAsk := taReplyAsk x
  have tReply := taReplyReply x
  obtain ⟨o1, ho1⟩ : ∃ o, nsB [x.slot, x.query, x.shard, x.seq, x.worker, x.epoch] = o := ⟨_, rfl⟩
  have CN := Lib.hid (show Calls Try.prog 84 #[.slice (some ⟨w3.heap.size, 0, none⟩) 6 6] (w3.alloc (.cells #[.int .i64 x.slot, .int .i64 x.query, .int .i64 x.shard, .int .i64 x.seq, .int .i64 x.worker, .int .i64 x.epoch] 3)) (RBB _ (w3.alloc (.cells #[.int .i64 x.slot, .int .i64 x.query, .int .i64 x.shard, .int .i64 x.seq, .int .i64 x.worker, .int .i64 x.epoch] 3)) o1 24) from ho1 ▸ numbers_any (some ⟨w3.heap.size, 0, none⟩) 6 6 [x.slot, x.query, x.shard, x.seq, x.worker, x.epoch] 24 (w3.alloc (.cells #[.int .i64 x.slot, .int .i64 x.query, .int .i64 x.shard, .int .i64 x.seq, .int .i64 x.worker, .int .i64 x.epoch] 3)) (holdsI_lit w3 [x.slot, x.query, x.shard, x.seq, x.worker, x.epoch] 3 (0, 0)) (by decide) rfl)
  have BI := Lib.hid (below_one w3 (.cells #[.int .i64 x.slot, .int .i64 x.query, .int .i64 x.shard, .int .i64 x.seq, .int .i64 x.worker, .int .i64 x.epoch] 3))
  obtain ⟨o2, ho2⟩ : ∃ o, o1 ++ n1 (x.items.length : Int) = o := ⟨_, rfl⟩
  obtain ⟨m2, hm2⟩ : ∃ m, 24 + 1 = m := ⟨_, rfl⟩
  have C2 := Lib.hid (fun (a1 : Option Addr) (c1 : Nat) (w' : World) (hb : BB w o1 a1 c1 w') (hl : o1.length = 24) => pput (x.items.length : Int) 1 1 rfl (by omega) o2 m2 hb hl (by omega) ho2 hm2)
  have HH := Lib.hid hh; have HL := Lib.hid hh.len; have HS := Lib.hid hs
  have hlen := hh.len
  have m25 : m2 = 25 := by omega
  have BS := Lib.hid (show repB x = (o2 ++ itsB x.items) ++ fB x.fin from by unfold repB; rw [ho1, ho2])
  have HO := Lib.hid ho; have HM := Lib.hid hm
  rw [hlen] at C2
  subst m25
  clear ho hm ho1 ho2 hm2 hh hs hlen
  go_enter Try.func63, Try.ntmps63
  go_upto_region 18 with fail
  try rw [hw3]
  clear hw3 tHello tGrant tAsk tReply
  obtain ⟨p, hp⟩ : ∃ p, w.heap.size = p := ⟨_, rfl⟩
  rw [hp] at XI
  try simp only [hp]
  have HP := Lib.hid hp
  clear hp
  have hX := XI.out
  unfold ReplyIn at hX
  obtain ⟨x0, x1, x2, x3, x4, x5, x6, x7⟩ := hX
  go_wp2_with fail
  with_reducible refine CN.out.mono ?_
  rintro e w4 ⟨a1, c1, rfl, hl, hB, hW⟩
  have BW1 := Lib.hid (show Below w.heap.size w w4 from (BX.out.trans (BI.out.mono BX.out.size)).trans (hW.mono (Nat.le_trans BX.out.size BI.out.size)))
  have B1 := Lib.hid (show BB w o1 a1 c1 w4 from ⟨hB.h, hB.n, BW1.out⟩)
  have L1 := Lib.hid hl
  have X1 := Lib.hid ((XI.out.below BI.out).below hW)
  clear hl hB hW CN x0 x1 x2 x3 x4 x5 x6 x7
  have hX := X1.out
  unfold ReplyIn at hX
  obtain ⟨x0, x1, x2, x3, x4, x5, x6, x7⟩ := hX
  have CC2 := Lib.hid (C2.out _ _ _ B1.out L1.out)
  clear C2
  go_wp2_with fail
  with_reducible refine CC2.out.mono ?_
  rintro e w5 ⟨a2, c2, rfl, hl, hB, hW⟩
  have B2 := Lib.hid hB; have L2 := Lib.hid hl
  have X2 := Lib.hid (X1.out.below hW)
  clear hl hB hW CC2 x0 x1 x2 x3 x4 x5 x6 x7 X1 B1 L1
  have hX := X2.out
  unfold ReplyIn at hX
  obtain ⟨x0, x1, x2, x3, x4, x5, x6, x7⟩ := hX
  have XX := Lib.hid (fun w' (hb : Below w5.heap.size w5 w') => X2.out.below hb)
  go_upto_region 20 with fail
  go_wp2_with fail
  go_loopw [8, 93] (fun bv iv wr => ∃ (j k : Nat) (bs : List Nat) (ba : Option Addr) (bc : Nat), j ≤ x.n ∧ bv = .slice ba k bc ∧ iv = .int .i64 (j : Int) ∧ Hid (k ≤ 25 + 1103 * j) ∧ Hid (bs.length = k) ∧ Hid (bs = o2 ++ itsB (x.items.take j)) ∧ Hid (BB w bs ba bc wr) ∧ Hid (ReplyIn wr p x)) (fun _ iv _ => x.n - (intOf iv).toNat)
  case atStart => exact ⟨0, 25, o2, a2, c2, by omega, rfl, rfl, Lib.hid (by omega), L2, Lib.hid (by simp [itsB]), B2, X2⟩
  case round =>
    clear x0 x1 x2 x3 x4 x5 x6 x7 B2 L2 X2 XX
    obtain ⟨j, k, bs, ba, bc, hj, rfl, rfl, hk4, hk, hbs, hB, hXr⟩ := hrel
    rename World => wr
    by_cases hlt : j < x.n
    · obtain ⟨qb, qo, hia, hcc⟩ := (HH.out.below hB.out.b).at (by omega)
      obtain ⟨y0, y1⟩ := hcc j hlt
      obtain ⟨kk, hkk⟩ : ∃ kk, x.items.getD j k0 = kk := ⟨_, rfl⟩
      have hks := HS.out kk (by rw [← hkk]; exact getD_memK x.items j (by rw [HL.out]; exact hlt))
      rw [hkk] at y0 y1
      have HSN := Lib.hid (show itsB (x.items.take (j + 1)) = itsB (x.items.take j) ++ itB kk from by rw [itsB_snoc x.items j (by rw [HL.out]; exact hlt), hkk])
      obtain ⟨k1, k2⟩ := kk
      simp only at y0 y1 hks
      obtain ⟨on, hon⟩ : ∃ on, bs ++ itB (k1, k2) = on := ⟨_, rfl⟩
      obtain ⟨mn, hmn⟩ : ∃ mn, k + (3 + k2.size) = mn := ⟨_, rfl⟩
      have CP := Lib.hid (fun w' (hb : BB w bs ba bc w') => putItem_any k1 k2 on mn hb hk.out (by have := hk4.out; omega) hks hon hmn)
      have KN := Lib.hid (show mn ≤ 25 + 1103 * (j + 1) from by have := hk4.out; omega)
      have ON := Lib.hid (show on = o2 ++ itsB (x.items.take (j + 1)) from by rw [HSN.out, ← hon, hbs.out, List.append_assoc])
      have BXr := Lib.hid (below_one wr (.cells #[.int .i64 k1, .string k2] 27))
      have XBr := Lib.hid (box2m wr (.int .i64 k1) (.string k2) 27)
      have BBr := Lib.hid (hB.out.more BXr.out)
      have XRr := Lib.hid (hXr.out.below BXr.out)
      have CPr := Lib.hid (CP.out _ BBr.out)
      have n1' : (0 : Int) ≤ (j : Int) := by omega
      have n2' : (j : Int) < (x.n : Int) := by omega
      have HIA := Lib.hid hia
      clear hcc hkk hks hon hmn CP
      obtain ⟨b0, b1⟩ := XBr.out
      rw [hia]
      clear hia
      go_wp2_with fail
      with_reducible refine CPr.out.mono ?_
      rintro e w' ⟨a9, c9, rfl, hl9, hB9, hW9⟩
      have B9 := Lib.hid hB9; have L9 := Lib.hid hl9
      have X9 := Lib.hid (XRr.out.below hW9)
      clear hB9 hl9 hW9 CPr y0 y1 b0 b1
      go_wp2_with fail
      go_roundw
      case rel => exact ⟨j + 1, mn, on, a9, c9, by omega, rfl, by go_num, KN, L9, ON, B9, X9⟩
      case measure => simp [intOf] <;> omega
    · have hjn : j = x.n := by omega
      have HT : x.items.take j = x.items := by rw [hjn, ← HL.out]; exact List.take_length
      have OE : bs ++ fB x.fin = o := by rw [hbs.out, HT, ← BS.out]; exact HO.out
      have ME : k + 1 = m := by rw [← HM.out, ← OE, List.length_append, fB_len, hk.out]
      have CF := Lib.hid (putFlag_any x.fin o m hB.out hk.out (by have := hk4.out; omega) OE ME)
      have hX := hXr.out
      unfold ReplyIn at hX
      obtain ⟨x0, x1, x2, x3, x4, x5, x6, x7⟩ := hX
      have WR := Lib.hid hB.out.b
      clear hjn HT OE ME
      go_wp2_with fail
      with_reducible refine CF.out.mono ?_
      rintro e w' ⟨a9, c9, rfl, hl9, hB9, hW9⟩
      have FF := Lib.hid (show RBB w w o m (.returned (.slice a9 m c9)) w' from ⟨a9, c9, rfl, hl9, hB9, hB9.b⟩)
      clear hl9 hB9 hW9 CF x0 x1 x2 x3 x4 x5 x6 x7
      go_wp2_with fail
      go_ret
      exact FF.out
set_option maxHeartbeats 3200000 in
set_option maxRecDepth 100000 in
theorem fieldsStop (a b : Int) (o : List Nat) (m : Nat) (w : World) (ho : nsB [a, b] = o) (hm : o.length = m) :
    Calls Try.prog 63 #[.iface 34 (.agg #[.int .i64 a, .int .i64 b])] w (RBB w w o m) := by
  obtain ⟨w3, hw3⟩ : ∃ w3, w.alloc (.cells #[.int .i64 a, .int .i64 b] 34) = w3 := ⟨_, rfl⟩
  have BX := Lib.hid (show Below w.heap.size w w3 from hw3 ▸ below_one w _)
  have XI := Lib.hid (show StopIn w3 w.heap.size a b from hw3 ▸ StopIn_new _ a b _ _ (0, 0) rfl)
  have tHello := taStopHello a b
  have tGrant := taStopGrant a b
  have tAsk := taStopAsk a b
  have tReply := taStopReply a b
  have tStop := taStopStop a b
  obtain ⟨o1, ho1⟩ : ∃ o, nsB [a, b] = o := ⟨_, rfl⟩
  have CN := Lib.hid (show Calls Try.prog 84 #[.slice (some ⟨w3.heap.size, 0, none⟩) 2 2] (w3.alloc (.cells #[.int .i64 a, .int .i64 b] 3)) (RBB _ (w3.alloc (.cells #[.int .i64 a, .int .i64 b] 3)) o1 8) from ho1 ▸ numbers_any (some ⟨w3.heap.size, 0, none⟩) 2 2 [a, b] 8 (w3.alloc (.cells #[.int .i64 a, .int .i64 b] 3)) (holdsI_lit w3 [a, b] 3 (0, 0)) (by decide) rfl)
  have BI := Lib.hid (below_one w3 (.cells #[.int .i64 a, .int .i64 b] 3))
  have HO := Lib.hid (show o1 = o from by rw [← ho1, ho])
  have HM := Lib.hid (show m = 8 from by rw [← hm, ← ho, nsB_len]; rfl)
  clear ho hm ho1
  go_enter Try.func63, Try.ntmps63
  go_upto_region 28 with fail
  try rw [hw3]
  clear hw3 tHello tGrant tAsk tReply tStop
  obtain ⟨p, hp⟩ : ∃ p, w.heap.size = p := ⟨_, rfl⟩
  rw [hp] at XI
  try simp only [hp]
  have HP := Lib.hid hp
  clear hp
  have hX := XI.out
  unfold StopIn at hX
  obtain ⟨x0, x1⟩ := hX
  go_wp2_with fail
  with_reducible refine CN.out.mono ?_
  rintro e w4 ⟨a1, c1, rfl, hl, hB, hW⟩
  have BW1 := Lib.hid (show Below w.heap.size w w4 from (BX.out.trans (BI.out.mono BX.out.size)).trans (hW.mono (Nat.le_trans BX.out.size BI.out.size)))
  have B1 := Lib.hid (show BB w o1 a1 c1 w4 from ⟨hB.h, hB.n, BW1.out⟩)
  have L1 := Lib.hid hl
  have FF := Lib.hid (show RBB w w o m (.returned (.slice a1 8 c1)) w4 from by
    rw [HM.out, ← HO.out]; exact ⟨a1, c1, rfl, hl, B1.out, BW1.out⟩)
  clear hl hB hW CN x0 x1
  go_wp2_with fail
  go_ret
  exact FF.out
end Go.Proofs.Ythboiklcjpnhbaa
