/- msg: messages as values, what they are asserted to be; which may be (by gen/ma2.py) -/
import Derived.Test.YthboiklcjpnhbaaMa1
namespace Go.Proofs.Ythboiklcjpnhbaa
open Go.RowKit
set_option linter.unusedVariables false
set_option maxRecDepth 20000
/-- a Reply, and where its items lie -/
structure RepP where
  slot : Int
  query : Int
  shard : Int
  seq : Int
  worker : Int
  epoch : Int
  ia : Option Addr
  n : Nat
  ic : Nat
  items : List KV
  fin : Bool
abbrev vHello (a b : Int) : Value := .iface 23 (.agg #[.int .i64 a, .int .i64 b])
abbrev vGrant (a b c : Int) : Value := .iface 25 (.agg #[.int .i64 a, .int .i64 b, .int .i64 c])
abbrev vAsk (x : AskP) : Value := .iface 29 (.agg #[.int .i64 x.slot, .int .i64 x.query, .int .i64 x.shard, .int .i64 x.seq, .int .i64 x.epoch, .string x.text, .int .i64 x.k, .int .i64 x.batch, .bool x.first, .int .i64 x.ad, .string x.aw])
abbrev vReply (x : RepP) : Value := .iface 32 (.agg #[.int .i64 x.slot, .int .i64 x.query, .int .i64 x.shard, .int .i64 x.seq, .int .i64 x.worker, .int .i64 x.epoch, .slice x.ia x.n x.ic, .bool x.fin])
abbrev vStop (a b : Int) : Value := .iface 34 (.agg #[.int .i64 a, .int .i64 b])
abbrev vNum (k : Int) : Value := .iface 3 (.int .i64 k)
theorem taHelloHello (a b : Int) (w : World) : (Instr.typeAssert (.iface 23 (.agg #[.int .i64 a, .int .i64 b])) 20 23 true).run Try.prog w = .ok (.tuple #[.agg #[.int .i64 a, .int .i64 b], .bool true]) w := by kernel_rfl
theorem taHelloGrant (a b : Int) (w : World) : (Instr.typeAssert (.iface 23 (.agg #[.int .i64 a, .int .i64 b])) 20 25 true).run Try.prog w = .ok (.tuple #[.agg #[.int .i64 0, .int .i64 0, .int .i64 0], .bool false]) w := by kernel_rfl
theorem taHelloAsk (a b : Int) (w : World) : (Instr.typeAssert (.iface 23 (.agg #[.int .i64 a, .int .i64 b])) 20 29 true).run Try.prog w = .ok (.tuple #[.agg #[.int .i64 0, .int .i64 0, .int .i64 0, .int .i64 0, .int .i64 0, .string ⟨#[]⟩, .int .i64 0, .int .i64 0, .bool false, .int .i64 0, .string ⟨#[]⟩], .bool false]) w := by kernel_rfl
theorem taHelloReply (a b : Int) (w : World) : (Instr.typeAssert (.iface 23 (.agg #[.int .i64 a, .int .i64 b])) 20 32 true).run Try.prog w = .ok (.tuple #[.agg #[.int .i64 0, .int .i64 0, .int .i64 0, .int .i64 0, .int .i64 0, .int .i64 0, .slice none 0 0, .bool false], .bool false]) w := by kernel_rfl
theorem taHelloStop (a b : Int) (w : World) : (Instr.typeAssert (.iface 23 (.agg #[.int .i64 a, .int .i64 b])) 20 34 true).run Try.prog w = .ok (.tuple #[.agg #[.int .i64 0, .int .i64 0], .bool false]) w := by kernel_rfl
theorem taGrantHello (a b c : Int) (w : World) : (Instr.typeAssert (.iface 25 (.agg #[.int .i64 a, .int .i64 b, .int .i64 c])) 20 23 true).run Try.prog w = .ok (.tuple #[.agg #[.int .i64 0, .int .i64 0], .bool false]) w := by kernel_rfl
theorem taGrantGrant (a b c : Int) (w : World) : (Instr.typeAssert (.iface 25 (.agg #[.int .i64 a, .int .i64 b, .int .i64 c])) 20 25 true).run Try.prog w = .ok (.tuple #[.agg #[.int .i64 a, .int .i64 b, .int .i64 c], .bool true]) w := by kernel_rfl
theorem taGrantAsk (a b c : Int) (w : World) : (Instr.typeAssert (.iface 25 (.agg #[.int .i64 a, .int .i64 b, .int .i64 c])) 20 29 true).run Try.prog w = .ok (.tuple #[.agg #[.int .i64 0, .int .i64 0, .int .i64 0, .int .i64 0, .int .i64 0, .string ⟨#[]⟩, .int .i64 0, .int .i64 0, .bool false, .int .i64 0, .string ⟨#[]⟩], .bool false]) w := by kernel_rfl
theorem taGrantReply (a b c : Int) (w : World) : (Instr.typeAssert (.iface 25 (.agg #[.int .i64 a, .int .i64 b, .int .i64 c])) 20 32 true).run Try.prog w = .ok (.tuple #[.agg #[.int .i64 0, .int .i64 0, .int .i64 0, .int .i64 0, .int .i64 0, .int .i64 0, .slice none 0 0, .bool false], .bool false]) w := by kernel_rfl
theorem taGrantStop (a b c : Int) (w : World) : (Instr.typeAssert (.iface 25 (.agg #[.int .i64 a, .int .i64 b, .int .i64 c])) 20 34 true).run Try.prog w = .ok (.tuple #[.agg #[.int .i64 0, .int .i64 0], .bool false]) w := by kernel_rfl
theorem taAskHello (x : AskP) (w : World) : (Instr.typeAssert (.iface 29 (.agg #[.int .i64 x.slot, .int .i64 x.query, .int .i64 x.shard, .int .i64 x.seq, .int .i64 x.epoch, .string x.text, .int .i64 x.k, .int .i64 x.batch, .bool x.first, .int .i64 x.ad, .string x.aw])) 20 23 true).run Try.prog w = .ok (.tuple #[.agg #[.int .i64 0, .int .i64 0], .bool false]) w := by kernel_rfl
theorem taAskGrant (x : AskP) (w : World) : (Instr.typeAssert (.iface 29 (.agg #[.int .i64 x.slot, .int .i64 x.query, .int .i64 x.shard, .int .i64 x.seq, .int .i64 x.epoch, .string x.text, .int .i64 x.k, .int .i64 x.batch, .bool x.first, .int .i64 x.ad, .string x.aw])) 20 25 true).run Try.prog w = .ok (.tuple #[.agg #[.int .i64 0, .int .i64 0, .int .i64 0], .bool false]) w := by kernel_rfl
theorem taAskAsk (x : AskP) (w : World) : (Instr.typeAssert (.iface 29 (.agg #[.int .i64 x.slot, .int .i64 x.query, .int .i64 x.shard, .int .i64 x.seq, .int .i64 x.epoch, .string x.text, .int .i64 x.k, .int .i64 x.batch, .bool x.first, .int .i64 x.ad, .string x.aw])) 20 29 true).run Try.prog w = .ok (.tuple #[.agg #[.int .i64 x.slot, .int .i64 x.query, .int .i64 x.shard, .int .i64 x.seq, .int .i64 x.epoch, .string x.text, .int .i64 x.k, .int .i64 x.batch, .bool x.first, .int .i64 x.ad, .string x.aw], .bool true]) w := by kernel_rfl
theorem taAskReply (x : AskP) (w : World) : (Instr.typeAssert (.iface 29 (.agg #[.int .i64 x.slot, .int .i64 x.query, .int .i64 x.shard, .int .i64 x.seq, .int .i64 x.epoch, .string x.text, .int .i64 x.k, .int .i64 x.batch, .bool x.first, .int .i64 x.ad, .string x.aw])) 20 32 true).run Try.prog w = .ok (.tuple #[.agg #[.int .i64 0, .int .i64 0, .int .i64 0, .int .i64 0, .int .i64 0, .int .i64 0, .slice none 0 0, .bool false], .bool false]) w := by kernel_rfl
theorem taAskStop (x : AskP) (w : World) : (Instr.typeAssert (.iface 29 (.agg #[.int .i64 x.slot, .int .i64 x.query, .int .i64 x.shard, .int .i64 x.seq, .int .i64 x.epoch, .string x.text, .int .i64 x.k, .int .i64 x.batch, .bool x.first, .int .i64 x.ad, .string x.aw])) 20 34 true).run Try.prog w = .ok (.tuple #[.agg #[.int .i64 0, .int .i64 0], .bool false]) w := by kernel_rfl
theorem taReplyHello (x : RepP) (w : World) : (Instr.typeAssert (.iface 32 (.agg #[.int .i64 x.slot, .int .i64 x.query, .int .i64 x.shard, .int .i64 x.seq, .int .i64 x.worker, .int .i64 x.epoch, .slice x.ia x.n x.ic, .bool x.fin])) 20 23 true).run Try.prog w = .ok (.tuple #[.agg #[.int .i64 0, .int .i64 0], .bool false]) w := by kernel_rfl
theorem taReplyGrant (x : RepP) (w : World) : (Instr.typeAssert (.iface 32 (.agg #[.int .i64 x.slot, .int .i64 x.query, .int .i64 x.shard, .int .i64 x.seq, .int .i64 x.worker, .int .i64 x.epoch, .slice x.ia x.n x.ic, .bool x.fin])) 20 25 true).run Try.prog w = .ok (.tuple #[.agg #[.int .i64 0, .int .i64 0, .int .i64 0], .bool false]) w := by kernel_rfl
theorem taReplyAsk (x : RepP) (w : World) : (Instr.typeAssert (.iface 32 (.agg #[.int .i64 x.slot, .int .i64 x.query, .int .i64 x.shard, .int .i64 x.seq, .int .i64 x.worker, .int .i64 x.epoch, .slice x.ia x.n x.ic, .bool x.fin])) 20 29 true).run Try.prog w = .ok (.tuple #[.agg #[.int .i64 0, .int .i64 0, .int .i64 0, .int .i64 0, .int .i64 0, .string ⟨#[]⟩, .int .i64 0, .int .i64 0, .bool false, .int .i64 0, .string ⟨#[]⟩], .bool false]) w := by kernel_rfl
theorem taReplyReply (x : RepP) (w : World) : (Instr.typeAssert (.iface 32 (.agg #[.int .i64 x.slot, .int .i64 x.query, .int .i64 x.shard, .int .i64 x.seq, .int .i64 x.worker, .int .i64 x.epoch, .slice x.ia x.n x.ic, .bool x.fin])) 20 32 true).run Try.prog w = .ok (.tuple #[.agg #[.int .i64 x.slot, .int .i64 x.query, .int .i64 x.shard, .int .i64 x.seq, .int .i64 x.worker, .int .i64 x.epoch, .slice x.ia x.n x.ic, .bool x.fin], .bool true]) w := by kernel_rfl
theorem taReplyStop (x : RepP) (w : World) : (Instr.typeAssert (.iface 32 (.agg #[.int .i64 x.slot, .int .i64 x.query, .int .i64 x.shard, .int .i64 x.seq, .int .i64 x.worker, .int .i64 x.epoch, .slice x.ia x.n x.ic, .bool x.fin])) 20 34 true).run Try.prog w = .ok (.tuple #[.agg #[.int .i64 0, .int .i64 0], .bool false]) w := by kernel_rfl
theorem taStopHello (a b : Int) (w : World) : (Instr.typeAssert (.iface 34 (.agg #[.int .i64 a, .int .i64 b])) 20 23 true).run Try.prog w = .ok (.tuple #[.agg #[.int .i64 0, .int .i64 0], .bool false]) w := by kernel_rfl
theorem taStopGrant (a b : Int) (w : World) : (Instr.typeAssert (.iface 34 (.agg #[.int .i64 a, .int .i64 b])) 20 25 true).run Try.prog w = .ok (.tuple #[.agg #[.int .i64 0, .int .i64 0, .int .i64 0], .bool false]) w := by kernel_rfl
theorem taStopAsk (a b : Int) (w : World) : (Instr.typeAssert (.iface 34 (.agg #[.int .i64 a, .int .i64 b])) 20 29 true).run Try.prog w = .ok (.tuple #[.agg #[.int .i64 0, .int .i64 0, .int .i64 0, .int .i64 0, .int .i64 0, .string ⟨#[]⟩, .int .i64 0, .int .i64 0, .bool false, .int .i64 0, .string ⟨#[]⟩], .bool false]) w := by kernel_rfl
theorem taStopReply (a b : Int) (w : World) : (Instr.typeAssert (.iface 34 (.agg #[.int .i64 a, .int .i64 b])) 20 32 true).run Try.prog w = .ok (.tuple #[.agg #[.int .i64 0, .int .i64 0, .int .i64 0, .int .i64 0, .int .i64 0, .int .i64 0, .slice none 0 0, .bool false], .bool false]) w := by kernel_rfl
theorem taStopStop (a b : Int) (w : World) : (Instr.typeAssert (.iface 34 (.agg #[.int .i64 a, .int .i64 b])) 20 34 true).run Try.prog w = .ok (.tuple #[.agg #[.int .i64 a, .int .i64 b], .bool true]) w := by kernel_rfl
theorem taNumHello (k : Int) (w : World) : (Instr.typeAssert (.iface 3 (.int .i64 k)) 20 23 true).run Try.prog w = .ok (.tuple #[.agg #[.int .i64 0, .int .i64 0], .bool false]) w := by kernel_rfl
theorem taNumGrant (k : Int) (w : World) : (Instr.typeAssert (.iface 3 (.int .i64 k)) 20 25 true).run Try.prog w = .ok (.tuple #[.agg #[.int .i64 0, .int .i64 0, .int .i64 0], .bool false]) w := by kernel_rfl
theorem taNumAsk (k : Int) (w : World) : (Instr.typeAssert (.iface 3 (.int .i64 k)) 20 29 true).run Try.prog w = .ok (.tuple #[.agg #[.int .i64 0, .int .i64 0, .int .i64 0, .int .i64 0, .int .i64 0, .string ⟨#[]⟩, .int .i64 0, .int .i64 0, .bool false, .int .i64 0, .string ⟨#[]⟩], .bool false]) w := by kernel_rfl
theorem taNumReply (k : Int) (w : World) : (Instr.typeAssert (.iface 3 (.int .i64 k)) 20 32 true).run Try.prog w = .ok (.tuple #[.agg #[.int .i64 0, .int .i64 0, .int .i64 0, .int .i64 0, .int .i64 0, .int .i64 0, .slice none 0 0, .bool false], .bool false]) w := by kernel_rfl
theorem taNumStop (k : Int) (w : World) : (Instr.typeAssert (.iface 3 (.int .i64 k)) 20 34 true).run Try.prog w = .ok (.tuple #[.agg #[.int .i64 0, .int .i64 0], .bool false]) w := by kernel_rfl
theorem taNilHello  (w : World) : (Instr.typeAssert .nilIface 20 23 true).run Try.prog w = .ok (.tuple #[.agg #[.int .i64 0, .int .i64 0], .bool false]) w := by kernel_rfl
theorem taNilGrant  (w : World) : (Instr.typeAssert .nilIface 20 25 true).run Try.prog w = .ok (.tuple #[.agg #[.int .i64 0, .int .i64 0, .int .i64 0], .bool false]) w := by kernel_rfl
theorem taNilAsk  (w : World) : (Instr.typeAssert .nilIface 20 29 true).run Try.prog w = .ok (.tuple #[.agg #[.int .i64 0, .int .i64 0, .int .i64 0, .int .i64 0, .int .i64 0, .string ⟨#[]⟩, .int .i64 0, .int .i64 0, .bool false, .int .i64 0, .string ⟨#[]⟩], .bool false]) w := by kernel_rfl
theorem taNilReply  (w : World) : (Instr.typeAssert .nilIface 20 32 true).run Try.prog w = .ok (.tuple #[.agg #[.int .i64 0, .int .i64 0, .int .i64 0, .int .i64 0, .int .i64 0, .int .i64 0, .slice none 0 0, .bool false], .bool false]) w := by kernel_rfl
theorem taNilStop  (w : World) : (Instr.typeAssert .nilIface 20 34 true).run Try.prog w = .ok (.tuple #[.agg #[.int .i64 0, .int .i64 0], .bool false]) w := by kernel_rfl
def mayHello (a b : Int) : Bool := inR a 1 5 && inR b 0 2147483647
def mayGrant (a b c : Int) : Bool := inR a 1 5 && inR b 0 2147483647 && inR c 0 2147483647
def mayAsk (x : AskP) : Bool := inR x.slot 0 3 && inR x.query 0 2147483647 && inR x.shard 0 5 && inR x.seq 0 2147483647 && inR x.epoch 0 2147483647 && decide (0 ≤ lenS x.text ∧ lenS x.text ≤ 16) && inR x.k 0 4 && inR x.batch 1 5 && mayAfter x.first (x.ad, x.aw)
def mayReply (x : RepP) : Bool := inR x.slot 0 3 && inR x.query 0 2147483647 && inR x.shard 0 5 && inR x.seq 0 2147483647 && inR x.worker 1 5 && inR x.epoch 0 2147483647 && mayItems x.items
def mayStop (a b : Int) : Bool := inR a 0 3 && inR b 0 2147483647
/-- a Hello in a box of its own -/
def HelloIn (w : World) (p : Nat) (a b : Int) : Prop := w.cell? ⟨p, 0, none⟩ = some (.int .i64 a) ∧ w.cell? ⟨p, 1, none⟩ = some (.int .i64 b)
theorem HelloIn.below {w w' : World} {p : Nat} {a b : Int} (h : HelloIn w p a b) (hb : Below w.heap.size w w') : HelloIn w' p a b := by
  unfold HelloIn at *
  obtain ⟨h0, h1⟩ := h
  have lp := lt_of_cell h0
  exact ⟨(hb.cell (p := ⟨p, 0, none⟩) lp).trans h0, (hb.cell (p := ⟨p, 1, none⟩) lp).trans h1⟩
theorem HelloIn_new (w : World) (a b : Int) (p : Nat) (e : TypeId) (fr : Nat × Nat) (hp : p = w.heap.size) : HelloIn (w.alloc (.cells #[.int .i64 a, .int .i64 b] e fr)) p a b := by
  subst hp
  unfold HelloIn
  refine ⟨?_, ?_⟩ <;> (rw [World.cell?_alloc_mark]; rfl)
/-- a Grant in a box of its own -/
def GrantIn (w : World) (p : Nat) (a b c : Int) : Prop := w.cell? ⟨p, 0, none⟩ = some (.int .i64 a) ∧ w.cell? ⟨p, 1, none⟩ = some (.int .i64 b) ∧ w.cell? ⟨p, 2, none⟩ = some (.int .i64 c)
theorem GrantIn.below {w w' : World} {p : Nat} {a b c : Int} (h : GrantIn w p a b c) (hb : Below w.heap.size w w') : GrantIn w' p a b c := by
  unfold GrantIn at *
  obtain ⟨h0, h1, h2⟩ := h
  have lp := lt_of_cell h0
  exact ⟨(hb.cell (p := ⟨p, 0, none⟩) lp).trans h0, (hb.cell (p := ⟨p, 1, none⟩) lp).trans h1, (hb.cell (p := ⟨p, 2, none⟩) lp).trans h2⟩
theorem GrantIn_new (w : World) (a b c : Int) (p : Nat) (e : TypeId) (fr : Nat × Nat) (hp : p = w.heap.size) : GrantIn (w.alloc (.cells #[.int .i64 a, .int .i64 b, .int .i64 c] e fr)) p a b c := by
  subst hp
  unfold GrantIn
  refine ⟨?_, ?_, ?_⟩ <;> (rw [World.cell?_alloc_mark]; rfl)
/-- an Ask in a box of its own -/
def MAskIn (w : World) (p : Nat) (x : AskP) : Prop := w.cell? ⟨p, 0, none⟩ = some (.int .i64 x.slot) ∧ w.cell? ⟨p, 1, none⟩ = some (.int .i64 x.query) ∧ w.cell? ⟨p, 2, none⟩ = some (.int .i64 x.shard) ∧ w.cell? ⟨p, 3, none⟩ = some (.int .i64 x.seq) ∧ w.cell? ⟨p, 4, none⟩ = some (.int .i64 x.epoch) ∧ w.cell? ⟨p, 5, none⟩ = some (.string x.text) ∧ w.cell? ⟨p, 6, none⟩ = some (.int .i64 x.k) ∧ w.cell? ⟨p, 7, none⟩ = some (.int .i64 x.batch) ∧ w.cell? ⟨p, 8, none⟩ = some (.bool x.first) ∧ w.cell? ⟨p, 9, none⟩ = some (.int .i64 x.ad) ∧ w.cell? ⟨p, 10, none⟩ = some (.string x.aw)
theorem MAskIn.below {w w' : World} {p : Nat} {x : AskP} (h : MAskIn w p x) (hb : Below w.heap.size w w') : MAskIn w' p x := by
  unfold MAskIn at *
  obtain ⟨h0, h1, h2, h3, h4, h5, h6, h7, h8, h9, h10⟩ := h
  have lp := lt_of_cell h0
  exact ⟨(hb.cell (p := ⟨p, 0, none⟩) lp).trans h0, (hb.cell (p := ⟨p, 1, none⟩) lp).trans h1, (hb.cell (p := ⟨p, 2, none⟩) lp).trans h2, (hb.cell (p := ⟨p, 3, none⟩) lp).trans h3, (hb.cell (p := ⟨p, 4, none⟩) lp).trans h4, (hb.cell (p := ⟨p, 5, none⟩) lp).trans h5, (hb.cell (p := ⟨p, 6, none⟩) lp).trans h6, (hb.cell (p := ⟨p, 7, none⟩) lp).trans h7, (hb.cell (p := ⟨p, 8, none⟩) lp).trans h8, (hb.cell (p := ⟨p, 9, none⟩) lp).trans h9, (hb.cell (p := ⟨p, 10, none⟩) lp).trans h10⟩
theorem MAskIn_new (w : World) (x : AskP) (p : Nat) (e : TypeId) (fr : Nat × Nat) (hp : p = w.heap.size) : MAskIn (w.alloc (.cells #[.int .i64 x.slot, .int .i64 x.query, .int .i64 x.shard, .int .i64 x.seq, .int .i64 x.epoch, .string x.text, .int .i64 x.k, .int .i64 x.batch, .bool x.first, .int .i64 x.ad, .string x.aw] e fr)) p x := by
  subst hp
  unfold MAskIn
  refine ⟨?_, ?_, ?_, ?_, ?_, ?_, ?_, ?_, ?_, ?_, ?_⟩ <;> (rw [World.cell?_alloc_mark]; rfl)
/-- a Reply in a box of its own -/
def ReplyIn (w : World) (p : Nat) (x : RepP) : Prop := w.cell? ⟨p, 0, none⟩ = some (.int .i64 x.slot) ∧ w.cell? ⟨p, 1, none⟩ = some (.int .i64 x.query) ∧ w.cell? ⟨p, 2, none⟩ = some (.int .i64 x.shard) ∧ w.cell? ⟨p, 3, none⟩ = some (.int .i64 x.seq) ∧ w.cell? ⟨p, 4, none⟩ = some (.int .i64 x.worker) ∧ w.cell? ⟨p, 5, none⟩ = some (.int .i64 x.epoch) ∧ w.cell? ⟨p, 6, none⟩ = some (.slice x.ia x.n x.ic) ∧ w.cell? ⟨p, 7, none⟩ = some (.bool x.fin)
theorem ReplyIn.below {w w' : World} {p : Nat} {x : RepP} (h : ReplyIn w p x) (hb : Below w.heap.size w w') : ReplyIn w' p x := by
  unfold ReplyIn at *
  obtain ⟨h0, h1, h2, h3, h4, h5, h6, h7⟩ := h
  have lp := lt_of_cell h0
  exact ⟨(hb.cell (p := ⟨p, 0, none⟩) lp).trans h0, (hb.cell (p := ⟨p, 1, none⟩) lp).trans h1, (hb.cell (p := ⟨p, 2, none⟩) lp).trans h2, (hb.cell (p := ⟨p, 3, none⟩) lp).trans h3, (hb.cell (p := ⟨p, 4, none⟩) lp).trans h4, (hb.cell (p := ⟨p, 5, none⟩) lp).trans h5, (hb.cell (p := ⟨p, 6, none⟩) lp).trans h6, (hb.cell (p := ⟨p, 7, none⟩) lp).trans h7⟩
theorem ReplyIn_new (w : World) (x : RepP) (p : Nat) (e : TypeId) (fr : Nat × Nat) (hp : p = w.heap.size) : ReplyIn (w.alloc (.cells #[.int .i64 x.slot, .int .i64 x.query, .int .i64 x.shard, .int .i64 x.seq, .int .i64 x.worker, .int .i64 x.epoch, .slice x.ia x.n x.ic, .bool x.fin] e fr)) p x := by
  subst hp
  unfold ReplyIn
  refine ⟨?_, ?_, ?_, ?_, ?_, ?_, ?_, ?_⟩ <;> (rw [World.cell?_alloc_mark]; rfl)
/-- a Stop in a box of its own -/
def StopIn (w : World) (p : Nat) (a b : Int) : Prop := w.cell? ⟨p, 0, none⟩ = some (.int .i64 a) ∧ w.cell? ⟨p, 1, none⟩ = some (.int .i64 b)
theorem StopIn.below {w w' : World} {p : Nat} {a b : Int} (h : StopIn w p a b) (hb : Below w.heap.size w w') : StopIn w' p a b := by
  unfold StopIn at *
  obtain ⟨h0, h1⟩ := h
  have lp := lt_of_cell h0
  exact ⟨(hb.cell (p := ⟨p, 0, none⟩) lp).trans h0, (hb.cell (p := ⟨p, 1, none⟩) lp).trans h1⟩
theorem StopIn_new (w : World) (a b : Int) (p : Nat) (e : TypeId) (fr : Nat × Nat) (hp : p = w.heap.size) : StopIn (w.alloc (.cells #[.int .i64 a, .int .i64 b] e fr)) p a b := by
  subst hp
  unfold StopIn
  refine ⟨?_, ?_⟩ <;> (rw [World.cell?_alloc_mark]; rfl)
set_option maxHeartbeats 3200000 in
set_option maxRecDepth 100000 in
theorem validHello (a b : Int) (z : Bool) (w : World) (h : mayHello a b = z) :
    Calls Try.prog 34 #[.iface 23 (.agg #[.int .i64 a, .int .i64 b])] w fun e w' => e = .returned (.bool z) ∧ Below w.heap.size w w' := by
  unfold mayHello at h
  obtain ⟨z0, h0⟩ : ∃ z, inR a 1 5 = z := ⟨_, rfl⟩
  obtain ⟨z1, h1⟩ : ∃ z, inR b 0 2147483647 = z := ⟨_, rfl⟩
  rw [h0, h1] at h
  have C0 := Lib.hid (fun w => isWorker_lit a z0 w h0)
  have C1 := Lib.hid (fun w => isNumber_lit b z1 w h1)
  obtain ⟨w3, hw3⟩ : ∃ w3, w.alloc (.cells #[.int .i64 a, .int .i64 b] 23) = w3 := ⟨_, rfl⟩
  have BX := Lib.hid (show Below w.heap.size w w3 from by
    rw [← hw3]
    repeat' (first | exact Below.refl _ _ | refine Below.alloc ?_ (by simp <;> omega) _))
  have XI := Lib.hid (show HelloIn w3 w.heap.size a b from hw3 ▸ HelloIn_new _ a b _ _ (0, 0) rfl)
  have tHello := taHelloHello a b
  clear h0 h1
  go_enter Try.func34, Try.ntmps34
  go_upto_region 3 with fail
  try rw [hw3]
  clear hw3 tHello
  obtain ⟨p, hp⟩ : ∃ p, w.heap.size = p := ⟨_, rfl⟩
  rw [hp] at XI
  try simp only [hp]
  clear hp
  have hX := XI.out
  unfold HelloIn at hX
  obtain ⟨x0, x1⟩ := hX
  cases z0
  · obtain rfl : z = false := by rw [← h]; simp
    clear h
    go_wp2_with fail
    refine (C0.out _).mono ?_
    rintro e w' ⟨rfl, rfl⟩
    go_wp2_with fail
    go_ret
    exact ⟨rfl, BX.out⟩
  cases z1
  · obtain rfl : z = false := by rw [← h]; simp
    clear h
    go_wp2_with fail
    refine (C0.out _).mono ?_
    rintro e w' ⟨rfl, rfl⟩
    go_wp2_with fail
    refine (C1.out _).mono ?_
    rintro e w' ⟨rfl, rfl⟩
    go_wp2_with fail
    go_ret
    exact ⟨rfl, BX.out⟩
  obtain rfl : z = true := by rw [← h]; rfl
  clear h
  go_wp2_with fail
  refine (C0.out _).mono ?_
  rintro e w' ⟨rfl, rfl⟩
  go_wp2_with fail
  refine (C1.out _).mono ?_
  rintro e w' ⟨rfl, rfl⟩
  go_wp2_with fail
  go_ret
  exact ⟨rfl, BX.out⟩
set_option maxHeartbeats 3200000 in
set_option maxRecDepth 100000 in
theorem validGrant (a b c : Int) (z : Bool) (w : World) (h : mayGrant a b c = z) :
    Calls Try.prog 34 #[.iface 25 (.agg #[.int .i64 a, .int .i64 b, .int .i64 c])] w fun e w' => e = .returned (.bool z) ∧ Below w.heap.size w w' := by
  unfold mayGrant at h
  obtain ⟨z0, h0⟩ : ∃ z, inR a 1 5 = z := ⟨_, rfl⟩
  obtain ⟨z1, h1⟩ : ∃ z, inR b 0 2147483647 = z := ⟨_, rfl⟩
  obtain ⟨z2, h2⟩ : ∃ z, inR c 0 2147483647 = z := ⟨_, rfl⟩
  rw [h0, h1, h2] at h
  have C0 := Lib.hid (fun w => isWorker_lit a z0 w h0)
  have C1 := Lib.hid (fun w => isNumber_lit b z1 w h1)
  have C2 := Lib.hid (fun w => isNumber_lit c z2 w h2)
  obtain ⟨w3, hw3⟩ : ∃ w3, (w.alloc (.cells #[.int .i64 0, .int .i64 0] 23)).alloc (.cells #[.int .i64 a, .int .i64 b, .int .i64 c] 25) = w3 := ⟨_, rfl⟩
  have BX := Lib.hid (show Below w.heap.size w w3 from by
    rw [← hw3]
    repeat' (first | exact Below.refl _ _ | refine Below.alloc ?_ (by simp <;> omega) _))
  have XI := Lib.hid (show GrantIn w3 (w.heap.size + 1) a b c from hw3 ▸ GrantIn_new _ a b c _ _ (0, 0) (by simp))
  have tHello := taGrantHello a b c
  have tGrant := taGrantGrant a b c
  clear h0 h1 h2
  go_enter Try.func34, Try.ntmps34
  go_upto_region 6 with fail
  try rw [hw3]
  clear hw3 tHello tGrant
  obtain ⟨p, hp⟩ : ∃ p, w.heap.size + 1 = p := ⟨_, rfl⟩
  rw [hp] at XI
  try simp only [hp]
  clear hp
  have hX := XI.out
  unfold GrantIn at hX
  obtain ⟨x0, x1, x2⟩ := hX
  cases z0
  · obtain rfl : z = false := by rw [← h]; simp
    clear h
    go_wp2_with fail
    refine (C0.out _).mono ?_
    rintro e w' ⟨rfl, rfl⟩
    go_wp2_with fail
    go_ret
    exact ⟨rfl, BX.out⟩
  cases z1
  · obtain rfl : z = false := by rw [← h]; simp
    clear h
    go_wp2_with fail
    refine (C0.out _).mono ?_
    rintro e w' ⟨rfl, rfl⟩
    go_wp2_with fail
    refine (C1.out _).mono ?_
    rintro e w' ⟨rfl, rfl⟩
    go_wp2_with fail
    go_ret
    exact ⟨rfl, BX.out⟩
  cases z2
  · obtain rfl : z = false := by rw [← h]; simp
    clear h
    go_wp2_with fail
    refine (C0.out _).mono ?_
    rintro e w' ⟨rfl, rfl⟩
    go_wp2_with fail
    refine (C1.out _).mono ?_
    rintro e w' ⟨rfl, rfl⟩
    go_wp2_with fail
    refine (C2.out _).mono ?_
    rintro e w' ⟨rfl, rfl⟩
    go_wp2_with fail
    go_ret
    exact ⟨rfl, BX.out⟩
  obtain rfl : z = true := by rw [← h]; rfl
  clear h
  go_wp2_with fail
  refine (C0.out _).mono ?_
  rintro e w' ⟨rfl, rfl⟩
  go_wp2_with fail
  refine (C1.out _).mono ?_
  rintro e w' ⟨rfl, rfl⟩
  go_wp2_with fail
  refine (C2.out _).mono ?_
  rintro e w' ⟨rfl, rfl⟩
  go_wp2_with fail
  go_ret
  exact ⟨rfl, BX.out⟩
set_option maxHeartbeats 3200000 in
set_option maxRecDepth 100000 in
theorem validAsk (x : AskP) (z : Bool) (w : World) (ht : x.text.size ≤ 9223372036854775807) (ha : x.aw.size ≤ 9223372036854775807) (h : mayAsk x = z) :
    Calls Try.prog 34 #[.iface 29 (.agg #[.int .i64 x.slot, .int .i64 x.query, .int .i64 x.shard, .int .i64 x.seq, .int .i64 x.epoch, .string x.text, .int .i64 x.k, .int .i64 x.batch, .bool x.first, .int .i64 x.ad, .string x.aw])] w fun e w' => e = .returned (.bool z) ∧ Below w.heap.size w w' := by
  unfold mayAsk at h
  obtain ⟨z0, h0⟩ : ∃ z, inR x.slot 0 3 = z := ⟨_, rfl⟩
  obtain ⟨z1, h1⟩ : ∃ z, inR x.query 0 2147483647 = z := ⟨_, rfl⟩
  obtain ⟨z2, h2⟩ : ∃ z, inR x.shard 0 5 = z := ⟨_, rfl⟩
  obtain ⟨z3, h3⟩ : ∃ z, inR x.seq 0 2147483647 = z := ⟨_, rfl⟩
  obtain ⟨z4, h4⟩ : ∃ z, inR x.epoch 0 2147483647 = z := ⟨_, rfl⟩
  obtain ⟨z5, h5⟩ : ∃ z, decide (0 ≤ lenS x.text ∧ lenS x.text ≤ 16) = z := ⟨_, rfl⟩
  obtain ⟨z6, h6⟩ : ∃ z, inR x.k 0 4 = z := ⟨_, rfl⟩
  obtain ⟨z7, h7⟩ : ∃ z, inR x.batch 1 5 = z := ⟨_, rfl⟩
  obtain ⟨z8, h8⟩ : ∃ z, mayAfter x.first (x.ad, x.aw) = z := ⟨_, rfl⟩
  rw [h0, h1, h2, h3, h4, h5, h6, h7, h8] at h
  have C0 := Lib.hid (fun w => isSlot_lit x.slot z0 w h0)
  have C1 := Lib.hid (fun w => isNumber_lit x.query z1 w h1)
  have C2 := Lib.hid (fun w => isShard_lit x.shard z2 w h2)
  have C3 := Lib.hid (fun w => isNumber_lit x.seq z3 w h3)
  have C4 := Lib.hid (fun w => isNumber_lit x.epoch z4 w h4)
  have C5 := Lib.hid (fun w => asked_lit x.text z5 w ht h5)
  have C6 := Lib.hid (fun w => isDist_lit x.k z6 w h6)
  have C7 := Lib.hid (fun w => min_lit x.batch 1 5 z7 w h7)
  have C8 := Lib.hid (fun w => validAfter_lit x.first x.ad x.aw z8 w ha h8)
  obtain ⟨w3, hw3⟩ : ∃ w3, ((w.alloc (.cells #[.int .i64 0, .int .i64 0] 23)).alloc (.cells #[.int .i64 0, .int .i64 0, .int .i64 0] 25)).alloc (.cells #[.int .i64 x.slot, .int .i64 x.query, .int .i64 x.shard, .int .i64 x.seq, .int .i64 x.epoch, .string x.text, .int .i64 x.k, .int .i64 x.batch, .bool x.first, .int .i64 x.ad, .string x.aw] 29) = w3 := ⟨_, rfl⟩
  have BX := Lib.hid (show Below w.heap.size w w3 from by
    rw [← hw3]
    repeat' (first | exact Below.refl _ _ | refine Below.alloc ?_ (by simp <;> omega) _))
  have XI := Lib.hid (show MAskIn w3 (w.heap.size + 2) x from hw3 ▸ MAskIn_new _ x _ _ (0, 0) (by simp))
  have tHello := taAskHello x
  have tGrant := taAskGrant x
  have tAsk := taAskAsk x
  clear h0 h1 h2 h3 h4 h5 h6 h7 h8 ht ha
  go_enter Try.func34, Try.ntmps34
  go_upto_region 9 with fail
  try rw [hw3]
  clear hw3 tHello tGrant tAsk
  try simp only [Nat.add_assoc, Nat.reduceAdd]
  obtain ⟨p, hp⟩ : ∃ p, w.heap.size + 2 = p := ⟨_, rfl⟩
  rw [hp] at XI
  try simp only [hp]
  clear hp
  have hX := XI.out
  unfold MAskIn at hX
  obtain ⟨x0, x1, x2, x3, x4, x5, x6, x7, x8, x9, x10⟩ := hX
  cases z0
  · obtain rfl : z = false := by rw [← h]; simp
    clear h
    go_wp2_with fail
    refine (C0.out _).mono ?_
    rintro e w' ⟨rfl, rfl⟩
    go_wp2_with fail
    go_ret
    exact ⟨rfl, BX.out⟩
  cases z1
  · obtain rfl : z = false := by rw [← h]; simp
    clear h
    go_wp2_with fail
    refine (C0.out _).mono ?_
    rintro e w' ⟨rfl, rfl⟩
    go_wp2_with fail
    refine (C1.out _).mono ?_
    rintro e w' ⟨rfl, rfl⟩
    go_wp2_with fail
    go_ret
    exact ⟨rfl, BX.out⟩
  cases z2
  · obtain rfl : z = false := by rw [← h]; simp
    clear h
    go_wp2_with fail
    refine (C0.out _).mono ?_
    rintro e w' ⟨rfl, rfl⟩
    go_wp2_with fail
    refine (C1.out _).mono ?_
    rintro e w' ⟨rfl, rfl⟩
    go_wp2_with fail
    refine (C2.out _).mono ?_
    rintro e w' ⟨rfl, rfl⟩
    go_wp2_with fail
    go_ret
    exact ⟨rfl, BX.out⟩
  cases z3
  · obtain rfl : z = false := by rw [← h]; simp
    clear h
    go_wp2_with fail
    refine (C0.out _).mono ?_
    rintro e w' ⟨rfl, rfl⟩
    go_wp2_with fail
    refine (C1.out _).mono ?_
    rintro e w' ⟨rfl, rfl⟩
    go_wp2_with fail
    refine (C2.out _).mono ?_
    rintro e w' ⟨rfl, rfl⟩
    go_wp2_with fail
    refine (C3.out _).mono ?_
    rintro e w' ⟨rfl, rfl⟩
    go_wp2_with fail
    go_ret
    exact ⟨rfl, BX.out⟩
  cases z4
  · obtain rfl : z = false := by rw [← h]; simp
    clear h
    go_wp2_with fail
    refine (C0.out _).mono ?_
    rintro e w' ⟨rfl, rfl⟩
    go_wp2_with fail
    refine (C1.out _).mono ?_
    rintro e w' ⟨rfl, rfl⟩
    go_wp2_with fail
    refine (C2.out _).mono ?_
    rintro e w' ⟨rfl, rfl⟩
    go_wp2_with fail
    refine (C3.out _).mono ?_
    rintro e w' ⟨rfl, rfl⟩
    go_wp2_with fail
    refine (C4.out _).mono ?_
    rintro e w' ⟨rfl, rfl⟩
    go_wp2_with fail
    go_ret
    exact ⟨rfl, BX.out⟩
  cases z5
  · obtain rfl : z = false := by rw [← h]; simp
    clear h
    go_wp2_with fail
    refine (C0.out _).mono ?_
    rintro e w' ⟨rfl, rfl⟩
    go_wp2_with fail
    refine (C1.out _).mono ?_
    rintro e w' ⟨rfl, rfl⟩
    go_wp2_with fail
    refine (C2.out _).mono ?_
    rintro e w' ⟨rfl, rfl⟩
    go_wp2_with fail
    refine (C3.out _).mono ?_
    rintro e w' ⟨rfl, rfl⟩
    go_wp2_with fail
    refine (C4.out _).mono ?_
    rintro e w' ⟨rfl, rfl⟩
    go_wp2_with fail
    refine (C5.out _).mono ?_
    rintro e w15 ⟨rfl, hb⟩
    have B5 := Lib.hid (BX.out.trans (hb.mono BX.out.size))
    have X5 := Lib.hid (XI.out.below hb)
    clear x0 x1 x2 x3 x4 x5 x6 x7 x8 x9 x10
    have hX := X5.out
    unfold MAskIn at hX
    obtain ⟨x0, x1, x2, x3, x4, x5, x6, x7, x8, x9, x10⟩ := hX
    clear hb
    go_wp2_with fail
    go_ret
    exact ⟨rfl, B5.out⟩
  cases z6
  · obtain rfl : z = false := by rw [← h]; simp
    clear h
    go_wp2_with fail
    refine (C0.out _).mono ?_
    rintro e w' ⟨rfl, rfl⟩
    go_wp2_with fail
    refine (C1.out _).mono ?_
    rintro e w' ⟨rfl, rfl⟩
    go_wp2_with fail
    refine (C2.out _).mono ?_
    rintro e w' ⟨rfl, rfl⟩
    go_wp2_with fail
    refine (C3.out _).mono ?_
    rintro e w' ⟨rfl, rfl⟩
    go_wp2_with fail
    refine (C4.out _).mono ?_
    rintro e w' ⟨rfl, rfl⟩
    go_wp2_with fail
    refine (C5.out _).mono ?_
    rintro e w15 ⟨rfl, hb⟩
    have B5 := Lib.hid (BX.out.trans (hb.mono BX.out.size))
    have X5 := Lib.hid (XI.out.below hb)
    clear x0 x1 x2 x3 x4 x5 x6 x7 x8 x9 x10
    have hX := X5.out
    unfold MAskIn at hX
    obtain ⟨x0, x1, x2, x3, x4, x5, x6, x7, x8, x9, x10⟩ := hX
    clear hb
    go_wp2_with fail
    refine (C6.out _).mono ?_
    rintro e w' ⟨rfl, rfl⟩
    go_wp2_with fail
    go_ret
    exact ⟨rfl, B5.out⟩
  cases z7
  · obtain rfl : z = false := by rw [← h]; simp
    clear h
    go_wp2_with fail
    refine (C0.out _).mono ?_
    rintro e w' ⟨rfl, rfl⟩
    go_wp2_with fail
    refine (C1.out _).mono ?_
    rintro e w' ⟨rfl, rfl⟩
    go_wp2_with fail
    refine (C2.out _).mono ?_
    rintro e w' ⟨rfl, rfl⟩
    go_wp2_with fail
    refine (C3.out _).mono ?_
    rintro e w' ⟨rfl, rfl⟩
    go_wp2_with fail
    refine (C4.out _).mono ?_
    rintro e w' ⟨rfl, rfl⟩
    go_wp2_with fail
    refine (C5.out _).mono ?_
    rintro e w15 ⟨rfl, hb⟩
    have B5 := Lib.hid (BX.out.trans (hb.mono BX.out.size))
    have X5 := Lib.hid (XI.out.below hb)
    clear x0 x1 x2 x3 x4 x5 x6 x7 x8 x9 x10
    have hX := X5.out
    unfold MAskIn at hX
    obtain ⟨x0, x1, x2, x3, x4, x5, x6, x7, x8, x9, x10⟩ := hX
    clear hb
    go_wp2_with fail
    refine (C6.out _).mono ?_
    rintro e w' ⟨rfl, rfl⟩
    go_wp2_with fail
    refine (C7.out _).mono ?_
    rintro e w' ⟨rfl, rfl⟩
    go_wp2_with fail
    go_ret
    exact ⟨rfl, B5.out⟩
  cases z8
  · obtain rfl : z = false := by rw [← h]; simp
    clear h
    go_wp2_with fail
    refine (C0.out _).mono ?_
    rintro e w' ⟨rfl, rfl⟩
    go_wp2_with fail
    refine (C1.out _).mono ?_
    rintro e w' ⟨rfl, rfl⟩
    go_wp2_with fail
    refine (C2.out _).mono ?_
    rintro e w' ⟨rfl, rfl⟩
    go_wp2_with fail
    refine (C3.out _).mono ?_
    rintro e w' ⟨rfl, rfl⟩
    go_wp2_with fail
    refine (C4.out _).mono ?_
    rintro e w' ⟨rfl, rfl⟩
    go_wp2_with fail
    refine (C5.out _).mono ?_
    rintro e w15 ⟨rfl, hb⟩
    have B5 := Lib.hid (BX.out.trans (hb.mono BX.out.size))
    have X5 := Lib.hid (XI.out.below hb)
    clear x0 x1 x2 x3 x4 x5 x6 x7 x8 x9 x10
    have hX := X5.out
    unfold MAskIn at hX
    obtain ⟨x0, x1, x2, x3, x4, x5, x6, x7, x8, x9, x10⟩ := hX
    clear hb
    go_wp2_with fail
    refine (C6.out _).mono ?_
    rintro e w' ⟨rfl, rfl⟩
    go_wp2_with fail
    refine (C7.out _).mono ?_
    rintro e w' ⟨rfl, rfl⟩
    go_wp2_with fail
    refine (C8.out _).mono ?_
    rintro e w18 ⟨rfl, hb⟩
    have B8 := Lib.hid (B5.out.trans (hb.mono B5.out.size))
    clear hb
    go_wp2_with fail
    go_ret
    exact ⟨rfl, B8.out⟩
  obtain rfl : z = true := by rw [← h]; rfl
  clear h
  go_wp2_with fail
  refine (C0.out _).mono ?_
  rintro e w' ⟨rfl, rfl⟩
  go_wp2_with fail
  refine (C1.out _).mono ?_
  rintro e w' ⟨rfl, rfl⟩
  go_wp2_with fail
  refine (C2.out _).mono ?_
  rintro e w' ⟨rfl, rfl⟩
  go_wp2_with fail
  refine (C3.out _).mono ?_
  rintro e w' ⟨rfl, rfl⟩
  go_wp2_with fail
  refine (C4.out _).mono ?_
  rintro e w' ⟨rfl, rfl⟩
  go_wp2_with fail
  refine (C5.out _).mono ?_
  rintro e w15 ⟨rfl, hb⟩
  have B5 := Lib.hid (BX.out.trans (hb.mono BX.out.size))
  have X5 := Lib.hid (XI.out.below hb)
  clear x0 x1 x2 x3 x4 x5 x6 x7 x8 x9 x10
  have hX := X5.out
  unfold MAskIn at hX
  obtain ⟨x0, x1, x2, x3, x4, x5, x6, x7, x8, x9, x10⟩ := hX
  clear hb
  go_wp2_with fail
  refine (C6.out _).mono ?_
  rintro e w' ⟨rfl, rfl⟩
  go_wp2_with fail
  refine (C7.out _).mono ?_
  rintro e w' ⟨rfl, rfl⟩
  go_wp2_with fail
  refine (C8.out _).mono ?_
  rintro e w18 ⟨rfl, hb⟩
  have B8 := Lib.hid (B5.out.trans (hb.mono B5.out.size))
  clear hb
  go_wp2_with fail
  go_ret
  exact ⟨rfl, B8.out⟩
set_option maxHeartbeats 3200000 in
set_option maxRecDepth 100000 in
theorem validReply (x : RepP) (z : Bool) (w : World) (hh : HoldsK w x.ia x.n x.items) (hs : ∀ k ∈ x.items, k.2.size ≤ 9223372036854775807) (hn : x.n ≤ 9223372036854775807) (h : mayReply x = z) :
    Calls Try.prog 34 #[.iface 32 (.agg #[.int .i64 x.slot, .int .i64 x.query, .int .i64 x.shard, .int .i64 x.seq, .int .i64 x.worker, .int .i64 x.epoch, .slice x.ia x.n x.ic, .bool x.fin])] w fun e w' => e = .returned (.bool z) ∧ Below w.heap.size w w' := by
  unfold mayReply at h
  obtain ⟨z0, h0⟩ : ∃ z, inR x.slot 0 3 = z := ⟨_, rfl⟩
  obtain ⟨z1, h1⟩ : ∃ z, inR x.query 0 2147483647 = z := ⟨_, rfl⟩
  obtain ⟨z2, h2⟩ : ∃ z, inR x.shard 0 5 = z := ⟨_, rfl⟩
  obtain ⟨z3, h3⟩ : ∃ z, inR x.seq 0 2147483647 = z := ⟨_, rfl⟩
  obtain ⟨z4, h4⟩ : ∃ z, inR x.worker 1 5 = z := ⟨_, rfl⟩
  obtain ⟨z5, h5⟩ : ∃ z, inR x.epoch 0 2147483647 = z := ⟨_, rfl⟩
  obtain ⟨z6, h6⟩ : ∃ z, mayItems x.items = z := ⟨_, rfl⟩
  rw [h0, h1, h2, h3, h4, h5, h6] at h
  have C0 := Lib.hid (fun w => isSlot_lit x.slot z0 w h0)
  have C1 := Lib.hid (fun w => isNumber_lit x.query z1 w h1)
  have C2 := Lib.hid (fun w => isShard_lit x.shard z2 w h2)
  have C3 := Lib.hid (fun w => isNumber_lit x.seq z3 w h3)
  have C4 := Lib.hid (fun w => isWorker_lit x.worker z4 w h4)
  have C5 := Lib.hid (fun w => isNumber_lit x.epoch z5 w h5)
  have C6 := Lib.hid (fun w' (hb : Below w.heap.size w w') => validItems_lit x.ia x.n x.ic x.items z6 w' (hh.below hb) hs hn h6)
  obtain ⟨w3, hw3⟩ : ∃ w3, (((w.alloc (.cells #[.int .i64 0, .int .i64 0] 23)).alloc (.cells #[.int .i64 0, .int .i64 0, .int .i64 0] 25)).alloc (.cells #[.int .i64 0, .int .i64 0, .int .i64 0, .int .i64 0, .int .i64 0, .string ⟨#[]⟩, .int .i64 0, .int .i64 0, .bool false, .int .i64 0, .string ⟨#[]⟩] 29)).alloc (.cells #[.int .i64 x.slot, .int .i64 x.query, .int .i64 x.shard, .int .i64 x.seq, .int .i64 x.worker, .int .i64 x.epoch, .slice x.ia x.n x.ic, .bool x.fin] 32) = w3 := ⟨_, rfl⟩
  have BX := Lib.hid (show Below w.heap.size w w3 from by
    rw [← hw3]
    repeat' (first | exact Below.refl _ _ | refine Below.alloc ?_ (by simp <;> omega) _))
  have XI := Lib.hid (show ReplyIn w3 (w.heap.size + 3) x from hw3 ▸ ReplyIn_new _ x _ _ (0, 0) (by simp))
  have tHello := taReplyHello x
  have tGrant := taReplyGrant x
  have tAsk := taReplyAsk x
  have tReply := taReplyReply x
  clear h0 h1 h2 h3 h4 h5 h6 hh hs hn
  go_enter Try.func34, Try.ntmps34
  go_upto_region 12 with fail
  try rw [hw3]
  clear hw3 tHello tGrant tAsk tReply
  try simp only [Nat.add_assoc, Nat.reduceAdd]
  obtain ⟨p, hp⟩ : ∃ p, w.heap.size + 3 = p := ⟨_, rfl⟩
  rw [hp] at XI
  try simp only [hp]
  clear hp
  have hX := XI.out
  unfold ReplyIn at hX
  obtain ⟨x0, x1, x2, x3, x4, x5, x6, x7⟩ := hX
  cases z0
  · obtain rfl : z = false := by rw [← h]; simp
    clear h
    go_wp2_with fail
    refine (C0.out _).mono ?_
    rintro e w' ⟨rfl, rfl⟩
    go_wp2_with fail
    go_ret
    exact ⟨rfl, BX.out⟩
  cases z1
  · obtain rfl : z = false := by rw [← h]; simp
    clear h
    go_wp2_with fail
    refine (C0.out _).mono ?_
    rintro e w' ⟨rfl, rfl⟩
    go_wp2_with fail
    refine (C1.out _).mono ?_
    rintro e w' ⟨rfl, rfl⟩
    go_wp2_with fail
    go_ret
    exact ⟨rfl, BX.out⟩
  cases z2
  · obtain rfl : z = false := by rw [← h]; simp
    clear h
    go_wp2_with fail
    refine (C0.out _).mono ?_
    rintro e w' ⟨rfl, rfl⟩
    go_wp2_with fail
    refine (C1.out _).mono ?_
    rintro e w' ⟨rfl, rfl⟩
    go_wp2_with fail
    refine (C2.out _).mono ?_
    rintro e w' ⟨rfl, rfl⟩
    go_wp2_with fail
    go_ret
    exact ⟨rfl, BX.out⟩
  cases z3
  · obtain rfl : z = false := by rw [← h]; simp
    clear h
    go_wp2_with fail
    refine (C0.out _).mono ?_
    rintro e w' ⟨rfl, rfl⟩
    go_wp2_with fail
    refine (C1.out _).mono ?_
    rintro e w' ⟨rfl, rfl⟩
    go_wp2_with fail
    refine (C2.out _).mono ?_
    rintro e w' ⟨rfl, rfl⟩
    go_wp2_with fail
    refine (C3.out _).mono ?_
    rintro e w' ⟨rfl, rfl⟩
    go_wp2_with fail
    go_ret
    exact ⟨rfl, BX.out⟩
  cases z4
  · obtain rfl : z = false := by rw [← h]; simp
    clear h
    go_wp2_with fail
    refine (C0.out _).mono ?_
    rintro e w' ⟨rfl, rfl⟩
    go_wp2_with fail
    refine (C1.out _).mono ?_
    rintro e w' ⟨rfl, rfl⟩
    go_wp2_with fail
    refine (C2.out _).mono ?_
    rintro e w' ⟨rfl, rfl⟩
    go_wp2_with fail
    refine (C3.out _).mono ?_
    rintro e w' ⟨rfl, rfl⟩
    go_wp2_with fail
    refine (C4.out _).mono ?_
    rintro e w' ⟨rfl, rfl⟩
    go_wp2_with fail
    go_ret
    exact ⟨rfl, BX.out⟩
  cases z5
  · obtain rfl : z = false := by rw [← h]; simp
    clear h
    go_wp2_with fail
    refine (C0.out _).mono ?_
    rintro e w' ⟨rfl, rfl⟩
    go_wp2_with fail
    refine (C1.out _).mono ?_
    rintro e w' ⟨rfl, rfl⟩
    go_wp2_with fail
    refine (C2.out _).mono ?_
    rintro e w' ⟨rfl, rfl⟩
    go_wp2_with fail
    refine (C3.out _).mono ?_
    rintro e w' ⟨rfl, rfl⟩
    go_wp2_with fail
    refine (C4.out _).mono ?_
    rintro e w' ⟨rfl, rfl⟩
    go_wp2_with fail
    refine (C5.out _).mono ?_
    rintro e w' ⟨rfl, rfl⟩
    go_wp2_with fail
    go_ret
    exact ⟨rfl, BX.out⟩
  cases z6
  · obtain rfl : z = false := by rw [← h]; simp
    clear h
    go_wp2_with fail
    refine (C0.out _).mono ?_
    rintro e w' ⟨rfl, rfl⟩
    go_wp2_with fail
    refine (C1.out _).mono ?_
    rintro e w' ⟨rfl, rfl⟩
    go_wp2_with fail
    refine (C2.out _).mono ?_
    rintro e w' ⟨rfl, rfl⟩
    go_wp2_with fail
    refine (C3.out _).mono ?_
    rintro e w' ⟨rfl, rfl⟩
    go_wp2_with fail
    refine (C4.out _).mono ?_
    rintro e w' ⟨rfl, rfl⟩
    go_wp2_with fail
    refine (C5.out _).mono ?_
    rintro e w' ⟨rfl, rfl⟩
    go_wp2_with fail
    refine (C6.out _ BX.out).mono ?_
    rintro e w16 ⟨rfl, hb⟩
    have B6 := Lib.hid (BX.out.trans (hb.mono BX.out.size))
    clear hb
    go_wp2_with fail
    go_ret
    exact ⟨rfl, B6.out⟩
  obtain rfl : z = true := by rw [← h]; rfl
  clear h
  go_wp2_with fail
  refine (C0.out _).mono ?_
  rintro e w' ⟨rfl, rfl⟩
  go_wp2_with fail
  refine (C1.out _).mono ?_
  rintro e w' ⟨rfl, rfl⟩
  go_wp2_with fail
  refine (C2.out _).mono ?_
  rintro e w' ⟨rfl, rfl⟩
  go_wp2_with fail
  refine (C3.out _).mono ?_
  rintro e w' ⟨rfl, rfl⟩
  go_wp2_with fail
  refine (C4.out _).mono ?_
  rintro e w' ⟨rfl, rfl⟩
  go_wp2_with fail
  refine (C5.out _).mono ?_
  rintro e w' ⟨rfl, rfl⟩
  go_wp2_with fail
  refine (C6.out _ BX.out).mono ?_
  rintro e w16 ⟨rfl, hb⟩
  have B6 := Lib.hid (BX.out.trans (hb.mono BX.out.size))
  clear hb
  go_wp2_with fail
  go_ret
  exact ⟨rfl, B6.out⟩
set_option maxHeartbeats 3200000 in
set_option maxRecDepth 100000 in
theorem validStop (a b : Int) (z : Bool) (w : World) (h : mayStop a b = z) :
    Calls Try.prog 34 #[.iface 34 (.agg #[.int .i64 a, .int .i64 b])] w fun e w' => e = .returned (.bool z) ∧ Below w.heap.size w w' := by
  unfold mayStop at h
  obtain ⟨z0, h0⟩ : ∃ z, inR a 0 3 = z := ⟨_, rfl⟩
  obtain ⟨z1, h1⟩ : ∃ z, inR b 0 2147483647 = z := ⟨_, rfl⟩
  rw [h0, h1] at h
  have C0 := Lib.hid (fun w => isSlot_lit a z0 w h0)
  have C1 := Lib.hid (fun w => isNumber_lit b z1 w h1)
  obtain ⟨w3, hw3⟩ : ∃ w3, ((((w.alloc (.cells #[.int .i64 0, .int .i64 0] 23)).alloc (.cells #[.int .i64 0, .int .i64 0, .int .i64 0] 25)).alloc (.cells #[.int .i64 0, .int .i64 0, .int .i64 0, .int .i64 0, .int .i64 0, .string ⟨#[]⟩, .int .i64 0, .int .i64 0, .bool false, .int .i64 0, .string ⟨#[]⟩] 29)).alloc (.cells #[.int .i64 0, .int .i64 0, .int .i64 0, .int .i64 0, .int .i64 0, .int .i64 0, .slice none 0 0, .bool false] 32)).alloc (.cells #[.int .i64 a, .int .i64 b] 34) = w3 := ⟨_, rfl⟩
  have BX := Lib.hid (show Below w.heap.size w w3 from by
    rw [← hw3]
    repeat' (first | exact Below.refl _ _ | refine Below.alloc ?_ (by simp <;> omega) _))
  have XI := Lib.hid (show StopIn w3 (w.heap.size + 4) a b from hw3 ▸ StopIn_new _ a b _ _ (0, 0) (by simp))
  have tHello := taStopHello a b
  have tGrant := taStopGrant a b
  have tAsk := taStopAsk a b
  have tReply := taStopReply a b
  have tStop := taStopStop a b
  clear h0 h1
  go_enter Try.func34, Try.ntmps34
  go_upto_region 15 with fail
  try rw [hw3]
  clear hw3 tHello tGrant tAsk tReply tStop
  try simp only [Nat.add_assoc, Nat.reduceAdd]
  obtain ⟨p, hp⟩ : ∃ p, w.heap.size + 4 = p := ⟨_, rfl⟩
  rw [hp] at XI
  try simp only [hp]
  clear hp
  have hX := XI.out
  unfold StopIn at hX
  obtain ⟨x0, x1⟩ := hX
  cases z0
  · obtain rfl : z = false := by rw [← h]; simp
    clear h
    go_wp2_with fail
    refine (C0.out _).mono ?_
    rintro e w' ⟨rfl, rfl⟩
    go_wp2_with fail
    go_ret
    exact ⟨rfl, BX.out⟩
  cases z1
  · obtain rfl : z = false := by rw [← h]; simp
    clear h
    go_wp2_with fail
    refine (C0.out _).mono ?_
    rintro e w' ⟨rfl, rfl⟩
    go_wp2_with fail
    refine (C1.out _).mono ?_
    rintro e w' ⟨rfl, rfl⟩
    go_wp2_with fail
    go_ret
    exact ⟨rfl, BX.out⟩
  obtain rfl : z = true := by rw [← h]; rfl
  clear h
  go_wp2_with fail
  refine (C0.out _).mono ?_
  rintro e w' ⟨rfl, rfl⟩
  go_wp2_with fail
  refine (C1.out _).mono ?_
  rintro e w' ⟨rfl, rfl⟩
  go_wp2_with fail
  go_ret
  exact ⟨rfl, BX.out⟩
theorem validNum (k : Int) (w : World) : Calls Try.prog 34 #[.iface 3 (.int .i64 k)] w fun e w' => e = .returned (.bool false) ∧ Below w.heap.size w w' := by
  have tHello := taNumHello k
  have tGrant := taNumGrant k
  have tAsk := taNumAsk k
  have tReply := taNumReply k
  have tStop := taNumStop k
  have BX := Lib.hid (show Below w.heap.size w (((((w.alloc (.cells #[.int .i64 0, .int .i64 0] 23)).alloc (.cells #[.int .i64 0, .int .i64 0, .int .i64 0] 25)).alloc (.cells #[.int .i64 0, .int .i64 0, .int .i64 0, .int .i64 0, .int .i64 0, .string ⟨#[]⟩, .int .i64 0, .int .i64 0, .bool false, .int .i64 0, .string ⟨#[]⟩] 29)).alloc (.cells #[.int .i64 0, .int .i64 0, .int .i64 0, .int .i64 0, .int .i64 0, .int .i64 0, .slice none 0 0, .bool false] 32)).alloc (.cells #[.int .i64 0, .int .i64 0] 34)) from by
    repeat' (first | exact Below.refl _ _ | refine Below.alloc ?_ (by simp <;> omega) _))
  go_enter Try.func34, Try.ntmps34
  go_wp2_with fail
  go_ret
  exact ⟨rfl, BX.out⟩
theorem validNil  (w : World) : Calls Try.prog 34 #[.nilIface] w fun e w' => e = .returned (.bool false) ∧ Below w.heap.size w w' := by
  have tHello := taNilHello 
  have tGrant := taNilGrant 
  have tAsk := taNilAsk 
  have tReply := taNilReply 
  have tStop := taNilStop 
  have BX := Lib.hid (show Below w.heap.size w (((((w.alloc (.cells #[.int .i64 0, .int .i64 0] 23)).alloc (.cells #[.int .i64 0, .int .i64 0, .int .i64 0] 25)).alloc (.cells #[.int .i64 0, .int .i64 0, .int .i64 0, .int .i64 0, .int .i64 0, .string ⟨#[]⟩, .int .i64 0, .int .i64 0, .bool false, .int .i64 0, .string ⟨#[]⟩] 29)).alloc (.cells #[.int .i64 0, .int .i64 0, .int .i64 0, .int .i64 0, .int .i64 0, .int .i64 0, .slice none 0 0, .bool false] 32)).alloc (.cells #[.int .i64 0, .int .i64 0] 34)) from by
    repeat' (first | exact Below.refl _ _ | refine Below.alloc ?_ (by simp <;> omega) _))
  go_enter Try.func34, Try.ntmps34
  go_wp2_with fail
  go_ret
  exact ⟨rfl, BX.out⟩
theorem kindOfHello (a b : Int) (w : World) : Calls Try.prog 43 #[.iface 23 (.agg #[.int .i64 a, .int .i64 b])] w fun e w' => e = .returned (.int .i64 1) ∧ w = w' := by
  have tHello := taHelloHello a b
  go_enter Try.func43, Try.ntmps43
  go_wp2_with fail
  go_ret
  exact ⟨rfl, rfl⟩
theorem kindOfGrant (a b c : Int) (w : World) : Calls Try.prog 43 #[.iface 25 (.agg #[.int .i64 a, .int .i64 b, .int .i64 c])] w fun e w' => e = .returned (.int .i64 2) ∧ w = w' := by
  have tHello := taGrantHello a b c
  have tGrant := taGrantGrant a b c
  go_enter Try.func43, Try.ntmps43
  go_wp2_with fail
  go_ret
  exact ⟨rfl, rfl⟩
theorem kindOfAsk (x : AskP) (w : World) : Calls Try.prog 43 #[.iface 29 (.agg #[.int .i64 x.slot, .int .i64 x.query, .int .i64 x.shard, .int .i64 x.seq, .int .i64 x.epoch, .string x.text, .int .i64 x.k, .int .i64 x.batch, .bool x.first, .int .i64 x.ad, .string x.aw])] w fun e w' => e = .returned (.int .i64 3) ∧ w = w' := by
  have tHello := taAskHello x
  have tGrant := taAskGrant x
  have tAsk := taAskAsk x
  go_enter Try.func43, Try.ntmps43
  go_wp2_with fail
  go_ret
  exact ⟨rfl, rfl⟩
theorem kindOfReply (x : RepP) (w : World) : Calls Try.prog 43 #[.iface 32 (.agg #[.int .i64 x.slot, .int .i64 x.query, .int .i64 x.shard, .int .i64 x.seq, .int .i64 x.worker, .int .i64 x.epoch, .slice x.ia x.n x.ic, .bool x.fin])] w fun e w' => e = .returned (.int .i64 4) ∧ w = w' := by
  have tHello := taReplyHello x
  have tGrant := taReplyGrant x
  have tAsk := taReplyAsk x
  have tReply := taReplyReply x
  go_enter Try.func43, Try.ntmps43
  go_wp2_with fail
  go_ret
  exact ⟨rfl, rfl⟩
theorem kindOfStop (a b : Int) (w : World) : Calls Try.prog 43 #[.iface 34 (.agg #[.int .i64 a, .int .i64 b])] w fun e w' => e = .returned (.int .i64 5) ∧ w = w' := by
  have tHello := taStopHello a b
  have tGrant := taStopGrant a b
  have tAsk := taStopAsk a b
  have tReply := taStopReply a b
  have tStop := taStopStop a b
  go_enter Try.func43, Try.ntmps43
  go_wp2_with fail
  go_ret
  exact ⟨rfl, rfl⟩
theorem kindOfNum (k : Int) (w : World) : Calls Try.prog 43 #[.iface 3 (.int .i64 k)] w fun e w' => e = .returned (.int .i64 0) ∧ w = w' := by
  have tHello := taNumHello k
  have tGrant := taNumGrant k
  have tAsk := taNumAsk k
  have tReply := taNumReply k
  have tStop := taNumStop k
  go_enter Try.func43, Try.ntmps43
  go_wp2_with fail
  go_ret
  exact ⟨rfl, rfl⟩
theorem kindOfNil  (w : World) : Calls Try.prog 43 #[.nilIface] w fun e w' => e = .returned (.int .i64 0) ∧ w = w' := by
  have tHello := taNilHello 
  have tGrant := taNilGrant 
  have tAsk := taNilAsk 
  have tReply := taNilReply 
  have tStop := taNilStop 
  go_enter Try.func43, Try.ntmps43
  go_wp2_with fail
  go_ret
  exact ⟨rfl, rfl⟩
end Go.Proofs.Ythboiklcjpnhbaa
