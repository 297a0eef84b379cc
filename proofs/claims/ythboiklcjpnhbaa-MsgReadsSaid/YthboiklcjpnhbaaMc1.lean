/- msg: messages held against each other (by gen/mc1.py) -/
import Derived.Test.YthboiklcjpnhbaaMb6
namespace Go.Proofs.Ythboiklcjpnhbaa
open Go.RowKit
set_option linter.unusedVariables false
set_option maxRecDepth 20000
theorem ssM (x : ByteArray) : (x.toList == x.toList) = true := by simp
theorem toList_injM {a b : ByteArray} (h : a.toList = b.toList) : a = b := toList_inj h
theorem AskP.extM {x y : AskP} (h0 : x.slot = y.slot) (h1 : x.query = y.query) (h2 : x.shard = y.shard) (h3 : x.seq = y.seq) (h4 : x.epoch = y.epoch) (h5 : x.text.toList = y.text.toList) (h6 : x.k = y.k) (h7 : x.batch = y.batch) (h8 : x.first = y.first) (h9 : x.ad = y.ad) (h10 : x.aw.toList = y.aw.toList) : x = y := by
  obtain ⟨a0, a1, a2, a3, a4, a5, a6, a7, a8, a9, a10⟩ := x
  obtain ⟨b0, b1, b2, b3, b4, b5, b6, b7, b8, b9, b10⟩ := y
  simp only at *
  have h5 := toList_inj h5
  have h10 := toList_inj h10
  subst h0 h1 h2 h3 h4 h5 h6 h7 h8 h9 h10
  rfl
theorem askM_unlike {x y : AskP} (h : x ≠ y) (w : World) : (Op.equalIn 10000 29 (.agg #[.int .i64 x.slot, .int .i64 x.query, .int .i64 x.shard, .int .i64 x.seq, .int .i64 x.epoch, .string x.text, .int .i64 x.k, .int .i64 x.batch, .bool x.first, .int .i64 x.ad, .string x.aw]) (.agg #[.int .i64 y.slot, .int .i64 y.query, .int .i64 y.shard, .int .i64 y.seq, .int .i64 y.epoch, .string y.text, .int .i64 y.k, .int .i64 y.batch, .bool y.first, .int .i64 y.ad, .string y.aw])).run Try.prog w = .ok false w := by
  go_simp
  intro h0 h1 h2 h3 h4 h5 h6 h7 h8 h9 h10
  exact h (AskP.extM h0 h1 h2 h3 h4 h5 h6 h7 h8 h9 h10)
theorem askM_alike (x : AskP) (w : World) : (Op.equalIn 10000 29 (.agg #[.int .i64 x.slot, .int .i64 x.query, .int .i64 x.shard, .int .i64 x.seq, .int .i64 x.epoch, .string x.text, .int .i64 x.k, .int .i64 x.batch, .bool x.first, .int .i64 x.ad, .string x.aw]) (.agg #[.int .i64 x.slot, .int .i64 x.query, .int .i64 x.shard, .int .i64 x.seq, .int .i64 x.epoch, .string x.text, .int .i64 x.k, .int .i64 x.batch, .bool x.first, .int .i64 x.ad, .string x.aw])).run Try.prog w = .ok true w := by
  have f5 := ssM x.text
  have f10 := ssM x.aw
  go_simp
theorem helloM_alike (a b : Int) (w : World) : (Op.equalIn 10000 23 (.agg #[.int .i64 a, .int .i64 b]) (.agg #[.int .i64 a, .int .i64 b])).run Try.prog w = .ok true w := by
  go_simp
theorem grantM_alike (a b c : Int) (w : World) : (Op.equalIn 10000 25 (.agg #[.int .i64 a, .int .i64 b, .int .i64 c]) (.agg #[.int .i64 a, .int .i64 b, .int .i64 c])).run Try.prog w = .ok true w := by
  go_simp
theorem stopM_alike (a b : Int) (w : World) : (Op.equalIn 10000 34 (.agg #[.int .i64 a, .int .i64 b]) (.agg #[.int .i64 a, .int .i64 b])).run Try.prog w = .ok true w := by
  go_simp
set_option maxHeartbeats 1600000 in
theorem sameReply_yes (x : RepP) (ia : Option Addr) (ic : Nat) (w : World) (h1 : HoldsK w x.ia x.n x.items) (h2 : HoldsK w ia x.n x.items) (hn : x.n ≤ 1048576) :
    Calls Try.prog 52 #[.agg #[.int .i64 x.slot, .int .i64 x.query, .int .i64 x.shard, .int .i64 x.seq, .int .i64 x.worker, .int .i64 x.epoch, .slice x.ia x.n x.ic, .bool x.fin], .agg #[.int .i64 x.slot, .int .i64 x.query, .int .i64 x.shard, .int .i64 x.seq, .int .i64 x.worker, .int .i64 x.epoch, .slice ia x.n ic, .bool x.fin]] w fun e w' => e = .returned (.bool true) ∧ Below w.heap.size w w' := by
  have BX := Lib.hid (show Below w.heap.size w ((w.alloc (.cells #[.int .i64 x.slot, .int .i64 x.query, .int .i64 x.shard, .int .i64 x.seq, .int .i64 x.worker, .int .i64 x.epoch, .slice x.ia x.n x.ic, .bool x.fin] 32)).alloc (.cells #[.int .i64 x.slot, .int .i64 x.query, .int .i64 x.shard, .int .i64 x.seq, .int .i64 x.worker, .int .i64 x.epoch, .slice ia x.n ic, .bool x.fin] 32)) from by
    repeat' (first | exact Below.refl _ _ | refine Below.alloc ?_ (by simp <;> omega) _))
  have CI := Lib.hid (fun w' (hb : Below w.heap.size w w') => sameItems_yes x.ia ia x.n x.ic ic x.items w' (h1.below hb) (h2.below hb) (by omega))
  have e0 : (x.slot == x.slot) = true := by simp
  have e1 : (x.query == x.query) = true := by simp
  have e2 : (x.shard == x.shard) = true := by simp
  have e3 : (x.seq == x.seq) = true := by simp
  have e4 : (x.worker == x.worker) = true := by simp
  have e5 : (x.epoch == x.epoch) = true := by simp
  have e6 : (x.fin == x.fin) = true := by simp
  have C2 := Lib.hid (CI.out _ BX.out)
  clear h1 h2 CI
  go_enter Try.func52, Try.ntmps52
  go_wp2_with fail
  refine C2.out.mono ?_
  rintro e w' ⟨rfl, hb⟩
  have B := Lib.hid (BX.out.trans (hb.mono BX.out.size))
  clear hb C2
  go_wp2_with fail
  go_ret
  exact ⟨rfl, B.out⟩
set_option maxHeartbeats 1600000 in
theorem sameHelloM (a b : Int) (w : World) : Calls Try.prog 27 #[.iface 23 (.agg #[.int .i64 a, .int .i64 b]), .iface 23 (.agg #[.int .i64 a, .int .i64 b])] w fun e w' => e = .returned (.bool true) ∧ Below w.heap.size w w' := by
  have tHello := taHelloHello a b
  have BX := Lib.hid (show Below w.heap.size w ((w.alloc (.cells #[.int .i64 a, .int .i64 b] 23)).alloc (.cells #[.int .i64 a, .int .i64 b] 23)) from by
    repeat' (first | exact Below.refl _ _ | refine Below.alloc ?_ (by simp <;> omega) _))
  have heq := fun w => helloM_alike a b w
  go_enter Try.func27, Try.ntmps27
  go_wp2_with fail
  go_ret
  exact ⟨rfl, BX.out⟩
set_option maxHeartbeats 1600000 in
theorem sameGrantM (a b c : Int) (w : World) : Calls Try.prog 27 #[.iface 25 (.agg #[.int .i64 a, .int .i64 b, .int .i64 c]), .iface 25 (.agg #[.int .i64 a, .int .i64 b, .int .i64 c])] w fun e w' => e = .returned (.bool true) ∧ Below w.heap.size w w' := by
  have tHello := taGrantHello a b c
  have tGrant := taGrantGrant a b c
  have BX := Lib.hid (show Below w.heap.size w ((w.alloc (.cells #[.int .i64 a, .int .i64 b, .int .i64 c] 25)).alloc (.cells #[.int .i64 a, .int .i64 b, .int .i64 c] 25)) from by
    repeat' (first | exact Below.refl _ _ | refine Below.alloc ?_ (by simp <;> omega) _))
  have heq := fun w => grantM_alike a b c w
  go_enter Try.func27, Try.ntmps27
  go_wp2_with fail
  go_ret
  exact ⟨rfl, BX.out⟩
set_option maxHeartbeats 1600000 in
theorem sameAskM (x : AskP) (w : World) : Calls Try.prog 27 #[.iface 29 (.agg #[.int .i64 x.slot, .int .i64 x.query, .int .i64 x.shard, .int .i64 x.seq, .int .i64 x.epoch, .string x.text, .int .i64 x.k, .int .i64 x.batch, .bool x.first, .int .i64 x.ad, .string x.aw]), .iface 29 (.agg #[.int .i64 x.slot, .int .i64 x.query, .int .i64 x.shard, .int .i64 x.seq, .int .i64 x.epoch, .string x.text, .int .i64 x.k, .int .i64 x.batch, .bool x.first, .int .i64 x.ad, .string x.aw])] w fun e w' => e = .returned (.bool true) ∧ Below w.heap.size w w' := by
  have tHello := taAskHello x
  have tGrant := taAskGrant x
  have tAsk := taAskAsk x
  have BX := Lib.hid (show Below w.heap.size w ((w.alloc (.cells #[.int .i64 x.slot, .int .i64 x.query, .int .i64 x.shard, .int .i64 x.seq, .int .i64 x.epoch, .string x.text, .int .i64 x.k, .int .i64 x.batch, .bool x.first, .int .i64 x.ad, .string x.aw] 29)).alloc (.cells #[.int .i64 x.slot, .int .i64 x.query, .int .i64 x.shard, .int .i64 x.seq, .int .i64 x.epoch, .string x.text, .int .i64 x.k, .int .i64 x.batch, .bool x.first, .int .i64 x.ad, .string x.aw] 29)) from by
    repeat' (first | exact Below.refl _ _ | refine Below.alloc ?_ (by simp <;> omega) _))
  have heq := fun w => askM_alike x w
  go_enter Try.func27, Try.ntmps27
  go_wp2_with fail
  go_ret
  exact ⟨rfl, BX.out⟩
set_option maxHeartbeats 1600000 in
theorem sameReplyM (x : RepP) (ia : Option Addr) (ic : Nat) (w : World) (h1 : HoldsK w x.ia x.n x.items) (h2 : HoldsK w ia x.n x.items) (hn : x.n ≤ 1048576) : Calls Try.prog 27 #[.iface 32 (.agg #[.int .i64 x.slot, .int .i64 x.query, .int .i64 x.shard, .int .i64 x.seq, .int .i64 x.worker, .int .i64 x.epoch, .slice x.ia x.n x.ic, .bool x.fin]), .iface 32 (.agg #[.int .i64 x.slot, .int .i64 x.query, .int .i64 x.shard, .int .i64 x.seq, .int .i64 x.worker, .int .i64 x.epoch, .slice ia x.n ic, .bool x.fin])] w fun e w' => e = .returned (.bool true) ∧ Below w.heap.size w w' := by
  have tHello := taReplyHello x
  have tGrant := taReplyGrant x
  have tAsk := taReplyAsk x
  have tReply := taReplyReply x
  have tB := taReplyReply ⟨x.slot, x.query, x.shard, x.seq, x.worker, x.epoch, ia, x.n, ic, x.items, x.fin⟩
  simp only at tB
  have BX := Lib.hid (show Below w.heap.size w ((w.alloc (.cells #[.int .i64 x.slot, .int .i64 x.query, .int .i64 x.shard, .int .i64 x.seq, .int .i64 x.worker, .int .i64 x.epoch, .slice x.ia x.n x.ic, .bool x.fin] 32)).alloc (.cells #[.int .i64 x.slot, .int .i64 x.query, .int .i64 x.shard, .int .i64 x.seq, .int .i64 x.worker, .int .i64 x.epoch, .slice ia x.n ic, .bool x.fin] 32)) from by
    repeat' (first | exact Below.refl _ _ | refine Below.alloc ?_ (by simp <;> omega) _))
  have CR := Lib.hid (sameReply_yes x ia ic _ (h1.below BX.out) (h2.below BX.out) hn)
  clear h1 h2
  go_enter Try.func27, Try.ntmps27
  go_wp2_with fail
  refine CR.out.mono ?_
  rintro e w' ⟨rfl, hb⟩
  have B := Lib.hid (BX.out.trans (hb.mono BX.out.size))
  clear hb CR
  go_wp2_with fail
  go_ret
  exact ⟨rfl, B.out⟩
set_option maxHeartbeats 1600000 in
theorem sameStopM (a b : Int) (w : World) : Calls Try.prog 27 #[.iface 34 (.agg #[.int .i64 a, .int .i64 b]), .iface 34 (.agg #[.int .i64 a, .int .i64 b])] w fun e w' => e = .returned (.bool true) ∧ Below w.heap.size w w' := by
  have tHello := taStopHello a b
  have tGrant := taStopGrant a b
  have tAsk := taStopAsk a b
  have tReply := taStopReply a b
  have tStop := taStopStop a b
  have BX := Lib.hid (show Below w.heap.size w ((w.alloc (.cells #[.int .i64 a, .int .i64 b] 34)).alloc (.cells #[.int .i64 a, .int .i64 b] 34)) from by
    repeat' (first | exact Below.refl _ _ | refine Below.alloc ?_ (by simp <;> omega) _))
  have heq := fun w => stopM_alike a b w
  go_enter Try.func27, Try.ntmps27
  go_wp2_with fail
  go_ret
  exact ⟨rfl, BX.out⟩
set_option maxHeartbeats 1600000 in
theorem otherHelloM (a b : Int) (V : Value) (w : World) (hV : ∀ w, (Instr.typeAssert V 20 23 true).run Try.prog w = .ok (.tuple #[.agg #[.int .i64 0, .int .i64 0], .bool false]) w) : Calls Try.prog 27 #[.iface 23 (.agg #[.int .i64 a, .int .i64 b]), V] w fun e w' => e = .returned (.bool false) ∧ Below w.heap.size w w' := by
  have tHello := taHelloHello a b
  have BX := Lib.hid (show Below w.heap.size w ((w.alloc (.cells #[.int .i64 a, .int .i64 b] 23)).alloc (.cells #[.int .i64 0, .int .i64 0] 23)) from by
    repeat' (first | exact Below.refl _ _ | refine Below.alloc ?_ (by simp <;> omega) _))
  go_enter Try.func27, Try.ntmps27
  go_wp2_with fail
  go_ret
  exact ⟨rfl, BX.out⟩
set_option maxHeartbeats 1600000 in
theorem otherGrantM (a b c : Int) (V : Value) (w : World) (hV : ∀ w, (Instr.typeAssert V 20 25 true).run Try.prog w = .ok (.tuple #[.agg #[.int .i64 0, .int .i64 0, .int .i64 0], .bool false]) w) : Calls Try.prog 27 #[.iface 25 (.agg #[.int .i64 a, .int .i64 b, .int .i64 c]), V] w fun e w' => e = .returned (.bool false) ∧ Below w.heap.size w w' := by
  have tHello := taGrantHello a b c
  have tGrant := taGrantGrant a b c
  have BX := Lib.hid (show Below w.heap.size w ((w.alloc (.cells #[.int .i64 a, .int .i64 b, .int .i64 c] 25)).alloc (.cells #[.int .i64 0, .int .i64 0, .int .i64 0] 25)) from by
    repeat' (first | exact Below.refl _ _ | refine Below.alloc ?_ (by simp <;> omega) _))
  go_enter Try.func27, Try.ntmps27
  go_wp2_with fail
  go_ret
  exact ⟨rfl, BX.out⟩
set_option maxHeartbeats 1600000 in
theorem otherAskM (x : AskP) (V : Value) (w : World) (hV : ∀ w, (Instr.typeAssert V 20 29 true).run Try.prog w = .ok (.tuple #[.agg #[.int .i64 0, .int .i64 0, .int .i64 0, .int .i64 0, .int .i64 0, .string ⟨#[]⟩, .int .i64 0, .int .i64 0, .bool false, .int .i64 0, .string ⟨#[]⟩], .bool false]) w) : Calls Try.prog 27 #[.iface 29 (.agg #[.int .i64 x.slot, .int .i64 x.query, .int .i64 x.shard, .int .i64 x.seq, .int .i64 x.epoch, .string x.text, .int .i64 x.k, .int .i64 x.batch, .bool x.first, .int .i64 x.ad, .string x.aw]), V] w fun e w' => e = .returned (.bool false) ∧ Below w.heap.size w w' := by
  have tHello := taAskHello x
  have tGrant := taAskGrant x
  have tAsk := taAskAsk x
  have BX := Lib.hid (show Below w.heap.size w ((w.alloc (.cells #[.int .i64 x.slot, .int .i64 x.query, .int .i64 x.shard, .int .i64 x.seq, .int .i64 x.epoch, .string x.text, .int .i64 x.k, .int .i64 x.batch, .bool x.first, .int .i64 x.ad, .string x.aw] 29)).alloc (.cells #[.int .i64 0, .int .i64 0, .int .i64 0, .int .i64 0, .int .i64 0, .string ⟨#[]⟩, .int .i64 0, .int .i64 0, .bool false, .int .i64 0, .string ⟨#[]⟩] 29)) from by
    repeat' (first | exact Below.refl _ _ | refine Below.alloc ?_ (by simp <;> omega) _))
  go_enter Try.func27, Try.ntmps27
  go_wp2_with fail
  go_ret
  exact ⟨rfl, BX.out⟩
set_option maxHeartbeats 1600000 in
theorem otherReplyM (x : RepP) (V : Value) (w : World) (hV : ∀ w, (Instr.typeAssert V 20 32 true).run Try.prog w = .ok (.tuple #[.agg #[.int .i64 0, .int .i64 0, .int .i64 0, .int .i64 0, .int .i64 0, .int .i64 0, .slice none 0 0, .bool false], .bool false]) w) : Calls Try.prog 27 #[.iface 32 (.agg #[.int .i64 x.slot, .int .i64 x.query, .int .i64 x.shard, .int .i64 x.seq, .int .i64 x.worker, .int .i64 x.epoch, .slice x.ia x.n x.ic, .bool x.fin]), V] w fun e w' => e = .returned (.bool false) ∧ Below w.heap.size w w' := by
  have tHello := taReplyHello x
  have tGrant := taReplyGrant x
  have tAsk := taReplyAsk x
  have tReply := taReplyReply x
  have BX := Lib.hid (show Below w.heap.size w ((w.alloc (.cells #[.int .i64 x.slot, .int .i64 x.query, .int .i64 x.shard, .int .i64 x.seq, .int .i64 x.worker, .int .i64 x.epoch, .slice x.ia x.n x.ic, .bool x.fin] 32)).alloc (.cells #[.int .i64 0, .int .i64 0, .int .i64 0, .int .i64 0, .int .i64 0, .int .i64 0, .slice none 0 0, .bool false] 32)) from by
    repeat' (first | exact Below.refl _ _ | refine Below.alloc ?_ (by simp <;> omega) _))
  go_enter Try.func27, Try.ntmps27
  go_wp2_with fail
  go_ret
  exact ⟨rfl, BX.out⟩
set_option maxHeartbeats 1600000 in
theorem otherStopM (a b : Int) (V : Value) (w : World) (hV : ∀ w, (Instr.typeAssert V 20 34 true).run Try.prog w = .ok (.tuple #[.agg #[.int .i64 0, .int .i64 0], .bool false]) w) : Calls Try.prog 27 #[.iface 34 (.agg #[.int .i64 a, .int .i64 b]), V] w fun e w' => e = .returned (.bool false) ∧ Below w.heap.size w w' := by
  have tHello := taStopHello a b
  have tGrant := taStopGrant a b
  have tAsk := taStopAsk a b
  have tReply := taStopReply a b
  have tStop := taStopStop a b
  have BX := Lib.hid (show Below w.heap.size w ((w.alloc (.cells #[.int .i64 a, .int .i64 b] 34)).alloc (.cells #[.int .i64 0, .int .i64 0] 34)) from by
    repeat' (first | exact Below.refl _ _ | refine Below.alloc ?_ (by simp <;> omega) _))
  go_enter Try.func27, Try.ntmps27
  go_wp2_with fail
  go_ret
  exact ⟨rfl, BX.out⟩
set_option maxHeartbeats 1600000 in
theorem unlikeAskM (x y : AskP) (h : x ≠ y) (w : World) : Calls Try.prog 27 #[.iface 29 (.agg #[.int .i64 x.slot, .int .i64 x.query, .int .i64 x.shard, .int .i64 x.seq, .int .i64 x.epoch, .string x.text, .int .i64 x.k, .int .i64 x.batch, .bool x.first, .int .i64 x.ad, .string x.aw]), .iface 29 (.agg #[.int .i64 y.slot, .int .i64 y.query, .int .i64 y.shard, .int .i64 y.seq, .int .i64 y.epoch, .string y.text, .int .i64 y.k, .int .i64 y.batch, .bool y.first, .int .i64 y.ad, .string y.aw])] w fun e w' => e = .returned (.bool false) ∧ Below w.heap.size w w' := by
  have tHello := taAskHello x
  have tGrant := taAskGrant x
  have tAsk := taAskAsk x
  have tY := taAskAsk y
  have heq := fun w => askM_unlike h w
  have BX := Lib.hid (show Below w.heap.size w ((w.alloc (.cells #[.int .i64 x.slot, .int .i64 x.query, .int .i64 x.shard, .int .i64 x.seq, .int .i64 x.epoch, .string x.text, .int .i64 x.k, .int .i64 x.batch, .bool x.first, .int .i64 x.ad, .string x.aw] 29)).alloc (.cells #[.int .i64 y.slot, .int .i64 y.query, .int .i64 y.shard, .int .i64 y.seq, .int .i64 y.epoch, .string y.text, .int .i64 y.k, .int .i64 y.batch, .bool y.first, .int .i64 y.ad, .string y.aw] 29)) from by
    repeat' (first | exact Below.refl _ _ | refine Below.alloc ?_ (by simp <;> omega) _))
  clear h
  go_enter Try.func27, Try.ntmps27
  go_wp2_with fail
  go_ret
  exact ⟨rfl, BX.out⟩
theorem sameM_yes (M M' : MsgV) (w : World) (h : SameM M M') (h1 : heldM w M) (h2 : heldM w M') (hs : smallM M) :
    Calls Try.prog 27 #[valM M, valM M'] w fun e w' => e = .returned (.bool true) ∧ Below w.heap.size w w' := by
  cases M <;> cases M' <;> first | exact h.elim | skip
  · obtain ⟨rfl, rfl⟩ := h; exact sameHelloM _ _ w
  · obtain ⟨rfl, rfl, rfl⟩ := h; exact sameGrantM _ _ _ w
  · have h : _ = _ := h; subst h; exact sameAskM _ w
  · rename_i x y
    obtain ⟨a0, a1, a2, a3, a4, a5, a6, a7, a8, a9, a10⟩ := y
    obtain ⟨e0, e1, e2, e3, e4, e5, e6, e7, e8⟩ := h
    simp only at e0 e1 e2 e3 e4 e5 e6 e7 e8
    subst e0 e1 e2 e3 e4 e5 e6 e7 e8
    exact sameReplyM x a6 a8 w h1.1 h2.1 hs.2
  · obtain ⟨rfl, rfl⟩ := h; exact sameStopM _ _ w
theorem SameM.symm {M M' : MsgV} (h : SameM M M') : SameM M' M := by
  cases M <;> cases M' <;> first | exact h.elim | skip
  · exact ⟨h.1.symm, h.2.symm⟩
  · exact ⟨h.1.symm, h.2.1.symm, h.2.2.symm⟩
  · exact Eq.symm h
  · obtain ⟨h1, h2, h3, h4, h5, h6, h7, h8, h9⟩ := h
    exact ⟨h1.symm, h2.symm, h3.symm, h4.symm, h5.symm, h6.symm, h7.symm, h8.symm, h9.symm⟩
  · exact ⟨h.1.symm, h.2.symm⟩
end Go.Proofs.Ythboiklcjpnhbaa
