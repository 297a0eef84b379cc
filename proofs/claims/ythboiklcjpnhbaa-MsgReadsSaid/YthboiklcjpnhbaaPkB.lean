/- texts joined -/
import Derived.Test.YthboiklcjpnhbaaPkA
import Derived.WalkKit
import Derived.Laws.BitsAllLaws
import Derived.Test.YthboiklcjpnhbaaChecked
import Derived.WalkLawsBesides
import Derived.WalkSpells
import Derived.Outline
import Derived.Deep.DeepCutAuto
import Derived.Lib.AppendStr
import Derived.Lib.Strings
import Derived.Lib.ConvBytes
import Derived.Laws.DeepBits32
import Derived.Deep.QuietTactic
import Derived.BigQuiet
import Derived.Laws.BytesArg
import Derived.Lib.SlBytesRow
import Derived.Deep.AppendLies
/- msg: messages as values, what they are asserted to be; which may be (by gen/ma2.py) -/
namespace Go.Proofs.Ythboiklcjpnhbaa
open Go.RowKit
set_option linter.unusedVariables false
set_option maxRecDepth 20000
/-- a Reply, and where its items lie -/
structure RepP where
  slot : Int
  query : Int
  shard : Int
  seq : Int
  worker : Int
  epoch : Int
  ia : Option Addr
  n : Nat
  ic : Nat
  items : List KV
  fin : Bool
abbrev vHello (a b : Int) : Value := .iface 23 (.agg #[.int .i64 a, .int .i64 b])
abbrev vGrant (a b c : Int) : Value := .iface 25 (.agg #[.int .i64 a, .int .i64 b, .int .i64 c])
abbrev vAsk (x : AskP) : Value := .iface 29 (.agg #[.int .i64 x.slot, .int .i64 x.query, .int .i64 x.shard, .int .i64 x.seq, .int .i64 x.epoch, .string x.text, .int .i64 x.k, .int .i64 x.batch, .bool x.first, .int .i64 x.ad, .string x.aw])
abbrev vReply (x : RepP) : Value := .iface 32 (.agg #[.int .i64 x.slot, .int .i64 x.query, .int .i64 x.shard, .int .i64 x.seq, .int .i64 x.worker, .int .i64 x.epoch, .slice x.ia x.n x.ic, .bool x.fin])
abbrev vStop (a b : Int) : Value := .iface 34 (.agg #[.int .i64 a, .int .i64 b])
abbrev vNum (k : Int) : Value := .iface 3 (.int .i64 k)
theorem taHelloHello (a b : Int) (w : World) : (Instr.typeAssert (.iface 23 (.agg #[.int .i64 a, .int .i64 b])) 20 23 true).run Try.prog w = .ok (.tuple #[.agg #[.int .i64 a, .int .i64 b], .bool true]) w := by kernel_rfl
theorem taHelloGrant (a b : Int) (w : World) : (Instr.typeAssert (.iface 23 (.agg #[.int .i64 a, .int .i64 b])) 20 25 true).run Try.prog w = .ok (.tuple #[.agg #[.int .i64 0, .int .i64 0, .int .i64 0], .bool false]) w := by kernel_rfl
theorem taHelloAsk (a b : Int) (w : World) : (Instr.typeAssert (.iface 23 (.agg #[.int .i64 a, .int .i64 b])) 20 29 true).run Try.prog w = .ok (.tuple #[.agg #[.int .i64 0, .int .i64 0, .int .i64 0, .int .i64 0, .int .i64 0, .string ⟨#[]⟩, .int .i64 0, .int .i64 0, .bool false, .int .i64 0, .string ⟨#[]⟩], .bool false]) w := by kernel_rfl
theorem taHelloReply (a b : Int) (w : World) : (Instr.typeAssert (.iface 23 (.agg #[.int .i64 a, .int .i64 b])) 20 32 true).run Try.prog w = .ok (.tuple #[.agg #[.int .i64 0, .int .i64 0, .int .i64 0, .int .i64 0, .int .i64 0, .int .i64 0, .slice none 0 0, .bool false], .bool false]) w := by kernel_rfl
theorem taHelloStop (a b : Int) (w : World) : (Instr.typeAssert (.iface 23 (.agg #[.int .i64 a, .int .i64 b])) 20 34 true).run Try.prog w = .ok (.tuple #[.agg #[.int .i64 0, .int .i64 0], .bool false]) w := by kernel_rfl
theorem taGrantHello (a b c : Int) (w : World) : (Instr.typeAssert (.iface 25 (.agg #[.int .i64 a, .int .i64 b, .int .i64 c])) 20 23 true).run Try.prog w = .ok (.tuple #[.agg #[.int .i64 0, .int .i64 0], .bool false]) w := by kernel_rfl
theorem taGrantGrant (a b c : Int) (w : World) : (Instr.typeAssert (.iface 25 (.agg #[.int .i64 a, .int .i64 b, .int .i64 c])) 20 25 true).run Try.prog w = .ok (.tuple #[.agg #[.int .i64 a, .int .i64 b, .int .i64 c], .bool true]) w := by kernel_rfl
theorem taGrantAsk (a b c : Int) (w : World) : (Instr.typeAssert (.iface 25 (.agg #[.int .i64 a, .int .i64 b, .int .i64 c])) 20 29 true).run Try.prog w = .ok (.tuple #[.agg #[.int .i64 0, .int .i64 0, .int .i64 0, .int .i64 0, .int .i64 0, .string ⟨#[]⟩, .int .i64 0, .int .i64 0, .bool false, .int .i64 0, .string ⟨#[]⟩], .bool false]) w := by kernel_rfl
theorem taGrantReply (a b c : Int) (w : World) : (Instr.typeAssert (.iface 25 (.agg #[.int .i64 a, .int .i64 b, .int .i64 c])) 20 32 true).run Try.prog w = .ok (.tuple #[.agg #[.int .i64 0, .int .i64 0, .int .i64 0, .int .i64 0, .int .i64 0, .int .i64 0, .slice none 0 0, .bool false], .bool false]) w := by kernel_rfl
theorem taGrantStop (a b c : Int) (w : World) : (Instr.typeAssert (.iface 25 (.agg #[.int .i64 a, .int .i64 b, .int .i64 c])) 20 34 true).run Try.prog w = .ok (.tuple #[.agg #[.int .i64 0, .int .i64 0], .bool false]) w := by kernel_rfl
theorem taAskHello (x : AskP) (w : World) : (Instr.typeAssert (.iface 29 (.agg #[.int .i64 x.slot, .int .i64 x.query, .int .i64 x.shard, .int .i64 x.seq, .int .i64 x.epoch, .string x.text, .int .i64 x.k, .int .i64 x.batch, .bool x.first, .int .i64 x.ad, .string x.aw])) 20 23 true).run Try.prog w = .ok (.tuple #[.agg #[.int .i64 0, .int .i64 0], .bool false]) w := by kernel_rfl
theorem taAskGrant (x : AskP) (w : World) : (Instr.typeAssert (.iface 29 (.agg #[.int .i64 x.slot, .int .i64 x.query, .int .i64 x.shard, .int .i64 x.seq, .int .i64 x.epoch, .string x.text, .int .i64 x.k, .int .i64 x.batch, .bool x.first, .int .i64 x.ad, .string x.aw])) 20 25 true).run Try.prog w = .ok (.tuple #[.agg #[.int .i64 0, .int .i64 0, .int .i64 0], .bool false]) w := by kernel_rfl
theorem taAskAsk (x : AskP) (w : World) : (Instr.typeAssert (.iface 29 (.agg #[.int .i64 x.slot, .int .i64 x.query, .int .i64 x.shard, .int .i64 x.seq, .int .i64 x.epoch, .string x.text, .int .i64 x.k, .int .i64 x.batch, .bool x.first, .int .i64 x.ad, .string x.aw])) 20 29 true).run Try.prog w = .ok (.tuple #[.agg #[.int .i64 x.slot, .int .i64 x.query, .int .i64 x.shard, .int .i64 x.seq, .int .i64 x.epoch, .string x.text, .int .i64 x.k, .int .i64 x.batch, .bool x.first, .int .i64 x.ad, .string x.aw], .bool true]) w := by kernel_rfl
theorem taAskReply (x : AskP) (w : World) : (Instr.typeAssert (.iface 29 (.agg #[.int .i64 x.slot, .int .i64 x.query, .int .i64 x.shard, .int .i64 x.seq, .int .i64 x.epoch, .string x.text, .int .i64 x.k, .int .i64 x.batch, .bool x.first, .int .i64 x.ad, .string x.aw])) 20 32 true).run Try.prog w = .ok (.tuple #[.agg #[.int .i64 0, .int .i64 0, .int .i64 0, .int .i64 0, .int .i64 0, .int .i64 0, .slice none 0 0, .bool false], .bool false]) w := by kernel_rfl
theorem taAskStop (x : AskP) (w : World) : (Instr.typeAssert (.iface 29 (.agg #[.int .i64 x.slot, .int .i64 x.query, .int .i64 x.shard, .int .i64 x.seq, .int .i64 x.epoch, .string x.text, .int .i64 x.k, .int .i64 x.batch, .bool x.first, .int .i64 x.ad, .string x.aw])) 20 34 true).run Try.prog w = .ok (.tuple #[.agg #[.int .i64 0, .int .i64 0], .bool false]) w := by kernel_rfl
theorem taReplyHello (x : RepP) (w : World) : (Instr.typeAssert (.iface 32 (.agg #[.int .i64 x.slot, .int .i64 x.query, .int .i64 x.shard, .int .i64 x.seq, .int .i64 x.worker, .int .i64 x.epoch, .slice x.ia x.n x.ic, .bool x.fin])) 20 23 true).run Try.prog w = .ok (.tuple #[.agg #[.int .i64 0, .int .i64 0], .bool false]) w := by kernel_rfl
theorem taReplyGrant (x : RepP) (w : World) : (Instr.typeAssert (.iface 32 (.agg #[.int .i64 x.slot, .int .i64 x.query, .int .i64 x.shard, .int .i64 x.seq, .int .i64 x.worker, .int .i64 x.epoch, .slice x.ia x.n x.ic, .bool x.fin])) 20 25 true).run Try.prog w = .ok (.tuple #[.agg #[.int .i64 0, .int .i64 0, .int .i64 0], .bool false]) w := by kernel_rfl
theorem taReplyAsk (x : RepP) (w : World) : (Instr.typeAssert (.iface 32 (.agg #[.int .i64 x.slot, .int .i64 x.query, .int .i64 x.shard, .int .i64 x.seq, .int .i64 x.worker, .int .i64 x.epoch, .slice x.ia x.n x.ic, .bool x.fin])) 20 29 true).run Try.prog w = .ok (.tuple #[.agg #[.int .i64 0, .int .i64 0, .int .i64 0, .int .i64 0, .int .i64 0, .string ⟨#[]⟩, .int .i64 0, .int .i64 0, .bool false, .int .i64 0, .string ⟨#[]⟩], .bool false]) w := by kernel_rfl
theorem taReplyReply (x : RepP) (w : World) : (Instr.typeAssert (.iface 32 (.agg #[.int .i64 x.slot, .int .i64 x.query, .int .i64 x.shard, .int .i64 x.seq, .int .i64 x.worker, .int .i64 x.epoch, .slice x.ia x.n x.ic, .bool x.fin])) 20 32 true).run Try.prog w = .ok (.tuple #[.agg #[.int .i64 x.slot, .int .i64 x.query, .int .i64 x.shard, .int .i64 x.seq, .int .i64 x.worker, .int .i64 x.epoch, .slice x.ia x.n x.ic, .bool x.fin], .bool true]) w := by kernel_rfl
theorem taReplyStop (x : RepP) (w : World) : (Instr.typeAssert (.iface 32 (.agg #[.int .i64 x.slot, .int .i64 x.query, .int .i64 x.shard, .int .i64 x.seq, .int .i64 x.worker, .int .i64 x.epoch, .slice x.ia x.n x.ic, .bool x.fin])) 20 34 true).run Try.prog w = .ok (.tuple #[.agg #[.int .i64 0, .int .i64 0], .bool false]) w := by kernel_rfl
theorem taStopHello (a b : Int) (w : World) : (Instr.typeAssert (.iface 34 (.agg #[.int .i64 a, .int .i64 b])) 20 23 true).run Try.prog w = .ok (.tuple #[.agg #[.int .i64 0, .int .i64 0], .bool false]) w := by kernel_rfl
theorem taStopGrant (a b : Int) (w : World) : (Instr.typeAssert (.iface 34 (.agg #[.int .i64 a, .int .i64 b])) 20 25 true).run Try.prog w = .ok (.tuple #[.agg #[.int .i64 0, .int .i64 0, .int .i64 0], .bool false]) w := by kernel_rfl
theorem taStopAsk (a b : Int) (w : World) : (Instr.typeAssert (.iface 34 (.agg #[.int .i64 a, .int .i64 b])) 20 29 true).run Try.prog w = .ok (.tuple #[.agg #[.int .i64 0, .int .i64 0, .int .i64 0, .int .i64 0, .int .i64 0, .string ⟨#[]⟩, .int .i64 0, .int .i64 0, .bool false, .int .i64 0, .string ⟨#[]⟩], .bool false]) w := by kernel_rfl
theorem taStopReply (a b : Int) (w : World) : (Instr.typeAssert (.iface 34 (.agg #[.int .i64 a, .int .i64 b])) 20 32 true).run Try.prog w = .ok (.tuple #[.agg #[.int .i64 0, .int .i64 0, .int .i64 0, .int .i64 0, .int .i64 0, .int .i64 0, .slice none 0 0, .bool false], .bool false]) w := by kernel_rfl
theorem taStopStop (a b : Int) (w : World) : (Instr.typeAssert (.iface 34 (.agg #[.int .i64 a, .int .i64 b])) 20 34 true).run Try.prog w = .ok (.tuple #[.agg #[.int .i64 a, .int .i64 b], .bool true]) w := by kernel_rfl
theorem taNumHello (k : Int) (w : World) : (Instr.typeAssert (.iface 3 (.int .i64 k)) 20 23 true).run Try.prog w = .ok (.tuple #[.agg #[.int .i64 0, .int .i64 0], .bool false]) w := by kernel_rfl
theorem taNumGrant (k : Int) (w : World) : (Instr.typeAssert (.iface 3 (.int .i64 k)) 20 25 true).run Try.prog w = .ok (.tuple #[.agg #[.int .i64 0, .int .i64 0, .int .i64 0], .bool false]) w := by kernel_rfl
theorem taNumAsk (k : Int) (w : World) : (Instr.typeAssert (.iface 3 (.int .i64 k)) 20 29 true).run Try.prog w = .ok (.tuple #[.agg #[.int .i64 0, .int .i64 0, .int .i64 0, .int .i64 0, .int .i64 0, .string ⟨#[]⟩, .int .i64 0, .int .i64 0, .bool false, .int .i64 0, .string ⟨#[]⟩], .bool false]) w := by kernel_rfl
theorem taNumReply (k : Int) (w : World) : (Instr.typeAssert (.iface 3 (.int .i64 k)) 20 32 true).run Try.prog w = .ok (.tuple #[.agg #[.int .i64 0, .int .i64 0, .int .i64 0, .int .i64 0, .int .i64 0, .int .i64 0, .slice none 0 0, .bool false], .bool false]) w := by kernel_rfl
theorem taNumStop (k : Int) (w : World) : (Instr.typeAssert (.iface 3 (.int .i64 k)) 20 34 true).run Try.prog w = .ok (.tuple #[.agg #[.int .i64 0, .int .i64 0], .bool false]) w := by kernel_rfl
theorem taNilHello  (w : World) : (Instr.typeAssert .nilIface 20 23 true).run Try.prog w = .ok (.tuple #[.agg #[.int .i64 0, .int .i64 0], .bool false]) w := by kernel_rfl
theorem taNilGrant  (w : World) : (Instr.typeAssert .nilIface 20 25 true).run Try.prog w = .ok (.tuple #[.agg #[.int .i64 0, .int .i64 0, .int .i64 0], .bool false]) w := by kernel_rfl
theorem taNilAsk  (w : World) : (Instr.typeAssert .nilIface 20 29 true).run Try.prog w = .ok (.tuple #[.agg #[.int .i64 0, .int .i64 0, .int .i64 0, .int .i64 0, .int .i64 0, .string ⟨#[]⟩, .int .i64 0, .int .i64 0, .bool false, .int .i64 0, .string ⟨#[]⟩], .bool false]) w := by kernel_rfl
theorem taNilReply  (w : World) : (Instr.typeAssert .nilIface 20 32 true).run Try.prog w = .ok (.tuple #[.agg #[.int .i64 0, .int .i64 0, .int .i64 0, .int .i64 0, .int .i64 0, .int .i64 0, .slice none 0 0, .bool false], .bool false]) w := by kernel_rfl
theorem taNilStop  (w : World) : (Instr.typeAssert .nilIface 20 34 true).run Try.prog w = .ok (.tuple #[.agg #[.int .i64 0, .int .i64 0], .bool false]) w := by kernel_rfl
def mayHello (a b : Int) : Bool := inR a 1 5 && inR b 0 2147483647
def mayGrant (a b c : Int) : Bool := inR a 1 5 && inR b 0 2147483647 && inR c 0 2147483647
def mayAsk (x : AskP) : Bool := inR x.slot 0 3 && inR x.query 0 2147483647 && inR x.shard 0 5 && inR x.seq 0 2147483647 && inR x.epoch 0 2147483647 && decide (0 ≤ lenS x.text ∧ lenS x.text ≤ 16) && inR x.k 0 4 && inR x.batch 1 5 && mayAfter x.first (x.ad, x.aw)
def mayReply (x : RepP) : Bool := inR x.slot 0 3 && inR x.query 0 2147483647 && inR x.shard 0 5 && inR x.seq 0 2147483647 && inR x.worker 1 5 && inR x.epoch 0 2147483647 && mayItems x.items
def mayStop (a b : Int) : Bool := inR a 0 3 && inR b 0 2147483647
/-- a Hello in a box of its own -/
def HelloIn (w : World) (p : Nat) (a b : Int) : Prop := w.cell? ⟨p, 0, none⟩ = some (.int .i64 a) ∧ w.cell? ⟨p, 1, none⟩ = some (.int .i64 b)
theorem HelloIn.below {w w' : World} {p : Nat} {a b : Int} (h : HelloIn w p a b) (hb : Below w.heap.size w w') : HelloIn w' p a b := by
  unfold HelloIn at *
  obtain ⟨h0, h1⟩ := h
  have lp := lt_of_cell h0
  exact ⟨(hb.cell (p := ⟨p, 0, none⟩) lp).trans h0, (hb.cell (p := ⟨p, 1, none⟩) lp).trans h1⟩
theorem HelloIn_new (w : World) (a b : Int) (p : Nat) (e : TypeId) (fr : Nat × Nat) (hp : p = w.heap.size) : HelloIn (w.alloc (.cells #[.int .i64 a, .int .i64 b] e fr)) p a b := by
  subst hp
  unfold HelloIn
  refine ⟨?_, ?_⟩ <;> (rw [World.cell?_alloc_mark]; rfl)
/-- a Grant in a box of its own -/
def GrantIn (w : World) (p : Nat) (a b c : Int) : Prop := w.cell? ⟨p, 0, none⟩ = some (.int .i64 a) ∧ w.cell? ⟨p, 1, none⟩ = some (.int .i64 b) ∧ w.cell? ⟨p, 2, none⟩ = some (.int .i64 c)
theorem GrantIn.below {w w' : World} {p : Nat} {a b c : Int} (h : GrantIn w p a b c) (hb : Below w.heap.size w w') : GrantIn w' p a b c := by
  unfold GrantIn at *
  obtain ⟨h0, h1, h2⟩ := h
  have lp := lt_of_cell h0
  exact ⟨(hb.cell (p := ⟨p, 0, none⟩) lp).trans h0, (hb.cell (p := ⟨p, 1, none⟩) lp).trans h1, (hb.cell (p := ⟨p, 2, none⟩) lp).trans h2⟩
theorem GrantIn_new (w : World) (a b c : Int) (p : Nat) (e : TypeId) (fr : Nat × Nat) (hp : p = w.heap.size) : GrantIn (w.alloc (.cells #[.int .i64 a, .int .i64 b, .int .i64 c] e fr)) p a b c := by
  subst hp
  unfold GrantIn
  refine ⟨?_, ?_, ?_⟩ <;> (rw [World.cell?_alloc_mark]; rfl)
/-- an Ask in a box of its own -/
def MAskIn (w : World) (p : Nat) (x : AskP) : Prop := w.cell? ⟨p, 0, none⟩ = some (.int .i64 x.slot) ∧ w.cell? ⟨p, 1, none⟩ = some (.int .i64 x.query) ∧ w.cell? ⟨p, 2, none⟩ = some (.int .i64 x.shard) ∧ w.cell? ⟨p, 3, none⟩ = some (.int .i64 x.seq) ∧ w.cell? ⟨p, 4, none⟩ = some (.int .i64 x.epoch) ∧ w.cell? ⟨p, 5, none⟩ = some (.string x.text) ∧ w.cell? ⟨p, 6, none⟩ = some (.int .i64 x.k) ∧ w.cell? ⟨p, 7, none⟩ = some (.int .i64 x.batch) ∧ w.cell? ⟨p, 8, none⟩ = some (.bool x.first) ∧ w.cell? ⟨p, 9, none⟩ = some (.int .i64 x.ad) ∧ w.cell? ⟨p, 10, none⟩ = some (.string x.aw)
theorem MAskIn.below {w w' : World} {p : Nat} {x : AskP} (h : MAskIn w p x) (hb : Below w.heap.size w w') : MAskIn w' p x := by
  unfold MAskIn at *
  obtain ⟨h0, h1, h2, h3, h4, h5, h6, h7, h8, h9, h10⟩ := h
  have lp := lt_of_cell h0
  exact ⟨(hb.cell (p := ⟨p, 0, none⟩) lp).trans h0, (hb.cell (p := ⟨p, 1, none⟩) lp).trans h1, (hb.cell (p := ⟨p, 2, none⟩) lp).trans h2, (hb.cell (p := ⟨p, 3, none⟩) lp).trans h3, (hb.cell (p := ⟨p, 4, none⟩) lp).trans h4, (hb.cell (p := ⟨p, 5, none⟩) lp).trans h5, (hb.cell (p := ⟨p, 6, none⟩) lp).trans h6, (hb.cell (p := ⟨p, 7, none⟩) lp).trans h7, (hb.cell (p := ⟨p, 8, none⟩) lp).trans h8, (hb.cell (p := ⟨p, 9, none⟩) lp).trans h9, (hb.cell (p := ⟨p, 10, none⟩) lp).trans h10⟩
theorem MAskIn_new (w : World) (x : AskP) (p : Nat) (e : TypeId) (fr : Nat × Nat) (hp : p = w.heap.size) : MAskIn (w.alloc (.cells #[.int .i64 x.slot, .int .i64 x.query, .int .i64 x.shard, .int .i64 x.seq, .int .i64 x.epoch, .string x.text, .int .i64 x.k, .int .i64 x.batch, .bool x.first, .int .i64 x.ad, .string x.aw] e fr)) p x := by
  subst hp
  unfold MAskIn
  refine ⟨?_, ?_, ?_, ?_, ?_, ?_, ?_, ?_, ?_, ?_, ?_⟩ <;> (rw [World.cell?_alloc_mark]; rfl)
/-- a Reply in a box of its own -/
def ReplyIn (w : World) (p : Nat) (x : RepP) : Prop := w.cell? ⟨p, 0, none⟩ = some (.int .i64 x.slot) ∧ w.cell? ⟨p, 1, none⟩ = some (.int .i64 x.query) ∧ w.cell? ⟨p, 2, none⟩ = some (.int .i64 x.shard) ∧ w.cell? ⟨p, 3, none⟩ = some (.int .i64 x.seq) ∧ w.cell? ⟨p, 4, none⟩ = some (.int .i64 x.worker) ∧ w.cell? ⟨p, 5, none⟩ = some (.int .i64 x.epoch) ∧ w.cell? ⟨p, 6, none⟩ = some (.slice x.ia x.n x.ic) ∧ w.cell? ⟨p, 7, none⟩ = some (.bool x.fin)
theorem ReplyIn.below {w w' : World} {p : Nat} {x : RepP} (h : ReplyIn w p x) (hb : Below w.heap.size w w') : ReplyIn w' p x := by
  unfold ReplyIn at *
  obtain ⟨h0, h1, h2, h3, h4, h5, h6, h7⟩ := h
  have lp := lt_of_cell h0
  exact ⟨(hb.cell (p := ⟨p, 0, none⟩) lp).trans h0, (hb.cell (p := ⟨p, 1, none⟩) lp).trans h1, (hb.cell (p := ⟨p, 2, none⟩) lp).trans h2, (hb.cell (p := ⟨p, 3, none⟩) lp).trans h3, (hb.cell (p := ⟨p, 4, none⟩) lp).trans h4, (hb.cell (p := ⟨p, 5, none⟩) lp).trans h5, (hb.cell (p := ⟨p, 6, none⟩) lp).trans h6, (hb.cell (p := ⟨p, 7, none⟩) lp).trans h7⟩
theorem ReplyIn_new (w : World) (x : RepP) (p : Nat) (e : TypeId) (fr : Nat × Nat) (hp : p = w.heap.size) : ReplyIn (w.alloc (.cells #[.int .i64 x.slot, .int .i64 x.query, .int .i64 x.shard, .int .i64 x.seq, .int .i64 x.worker, .int .i64 x.epoch, .slice x.ia x.n x.ic, .bool x.fin] e fr)) p x := by
  subst hp
  unfold ReplyIn
  refine ⟨?_, ?_, ?_, ?_, ?_, ?_, ?_, ?_⟩ <;> (rw [World.cell?_alloc_mark]; rfl)
/-- a Stop in a box of its own -/
def StopIn (w : World) (p : Nat) (a b : Int) : Prop := w.cell? ⟨p, 0, none⟩ = some (.int .i64 a) ∧ w.cell? ⟨p, 1, none⟩ = some (.int .i64 b)
theorem StopIn.below {w w' : World} {p : Nat} {a b : Int} (h : StopIn w p a b) (hb : Below w.heap.size w w') : StopIn w' p a b := by
  unfold StopIn at *
  obtain ⟨h0, h1⟩ := h
  have lp := lt_of_cell h0
  exact ⟨(hb.cell (p := ⟨p, 0, none⟩) lp).trans h0, (hb.cell (p := ⟨p, 1, none⟩) lp).trans h1⟩
theorem StopIn_new (w : World) (a b : Int) (p : Nat) (e : TypeId) (fr : Nat × Nat) (hp : p = w.heap.size) : StopIn (w.alloc (.cells #[.int .i64 a, .int .i64 b] e fr)) p a b := by
  subst hp
  unfold StopIn
  refine ⟨?_, ?_⟩ <;> (rw [World.cell?_alloc_mark]; rfl)
set_option maxHeartbeats 3200000 in
set_option maxRecDepth 100000 in
theorem validHello (a b : Int) (z : Bool) (w : World) (h : mayHello a b = z) :
    Calls Try.prog 34 #[.iface 23 (.agg #[.int .i64 a, .int .i64 b])] w fun e w' => e = .returned (.bool z) ∧ Below w.heap.size w w' := by
  unfold mayHello at h
  obtain ⟨z0, h0⟩ : ∃ z, inR a 1 5 = z := ⟨_, rfl⟩
  obtain ⟨z1, h1⟩ : ∃ z, inR b 0 2147483647 = z := ⟨_, rfl⟩
  rw [h0, h1] at h
  have C0 := Lib.hid (fun w => isWorker_lit a z0 w h0)
  have C1 := Lib.hid (fun w => isNumber_lit b z1 w h1)
  obtain ⟨w3, hw3⟩ : ∃ w3, w.alloc (.cells #[.int .i64 a, .int .i64 b] 23) = w3 := ⟨_, rfl⟩
  have BX := Lib.hid (show Below w.heap.size w w3 from by
    rw [← hw3]
    repeat' (first | exact Below.refl _ _ | refine Below.alloc ?_ (by simp <;> omega) _))
  have XI := Lib.hid (show HelloIn w3 w.heap.size a b from hw3 ▸ HelloIn_new _ a b _ _ (0, 0) rfl)
  have tHello := taHelloHello a b
  clear h0 h1
  go_enter Try.func34, Try.ntmps34
  go_upto_region 3 with fail
  try rw [hw3]
  clear hw3 tHello
  obtain ⟨p, hp⟩ : ∃ p, w.heap.size = p := ⟨_, rfl⟩
  rw [hp] at XI
  try simp only [hp]
  clear hp
  have hX := XI.out
  unfold HelloIn at hX
  obtain ⟨x0, x1⟩ := hX
  cases z0
  · obtain rfl : z = false := by rw [← h]; simp
    clear h
    go_wp2_with fail
    refine (C0.out _).mono ?_
    rintro e w' ⟨rfl, rfl⟩
    go_wp2_with fail
    go_ret
    exact ⟨rfl, BX.out⟩
  cases z1
  · obtain rfl : z = false := by rw [← h]; simp
    clear h
    go_wp2_with fail
    refine (C0.out _).mono ?_
    rintro e w' ⟨rfl, rfl⟩
    go_wp2_with fail
    refine (C1.out _).mono ?_
    rintro e w' ⟨rfl, rfl⟩
    go_wp2_with fail
    go_ret
    exact ⟨rfl, BX.out⟩
  obtain rfl : z = true := by rw [← h]; rfl
  clear h
  go_wp2_with fail
  refine (C0.out _).mono ?_
  rintro e w' ⟨rfl, rfl⟩
  go_wp2_with fail
  refine (C1.out _).mono ?_
  rintro e w' ⟨rfl, rfl⟩
  go_wp2_with fail
  go_ret
  exact ⟨rfl, BX.out⟩
set_option maxHeartbeats 3200000 in
set_option maxRecDepth 100000 in
theorem validGrant (a b c : Int) (z : Bool) (w : World) (h : mayGrant a b c = z) :
    Calls Try.prog 34 #[.iface 25 (.agg #[.int .i64 a, .int .i64 b, .int .i64 c])] w fun e w' => e = .returned (.bool z) ∧ Below w.heap.size w w' := by
  unfold mayGrant at h
  obtain ⟨z0, h0⟩ : ∃ z, inR a 1 5 = z := ⟨_, rfl⟩
  obtain ⟨z1, h1⟩ : ∃ z, inR b 0 2147483647 = z := ⟨_, rfl⟩
  obtain ⟨z2, h2⟩ : ∃ z, inR c 0 2147483647 = z := ⟨_, rfl⟩
  rw [h0, h1, h2] at h
  have C0 := Lib.hid (fun w => isWorker_lit a z0 w h0)
  have C1 := Lib.hid (fun w => isNumber_lit b z1 w h1)
  have C2 := Lib.hid (fun w => isNumber_lit c z2 w h2)
  obtain ⟨w3, hw3⟩ : ∃ w3, (w.alloc (.cells #[.int .i64 0, .int .i64 0] 23)).alloc (.cells #[.int .i64 a, .int .i64 b, .int .i64 c] 25) = w3 := ⟨_, rfl⟩
  have BX := Lib.hid (show Below w.heap.size w w3 from by
    rw [← hw3]
    repeat' (first | exact Below.refl _ _ | refine Below.alloc ?_ (by simp <;> omega) _))
  have XI := Lib.hid (show GrantIn w3 (w.heap.size + 1) a b c from hw3 ▸ GrantIn_new _ a b c _ _ (0, 0) (by simp))
  have tHello := taGrantHello a b c
  have tGrant := taGrantGrant a b c
  clear h0 h1 h2
  go_enter Try.func34, Try.ntmps34
  go_upto_region 6 with fail
  try rw [hw3]
  clear hw3 tHello tGrant
  obtain ⟨p, hp⟩ : ∃ p, w.heap.size + 1 = p := ⟨_, rfl⟩
  rw [hp] at XI
  try simp only [hp]
  clear hp
  have hX := XI.out
  unfold GrantIn at hX
  obtain ⟨x0, x1, x2⟩ := hX
  cases z0
  · obtain rfl : z = false := by rw [← h]; simp
    clear h
    go_wp2_with fail
    refine (C0.out _).mono ?_
    rintro e w' ⟨rfl, rfl⟩
    go_wp2_with fail
    go_ret
    exact ⟨rfl, BX.out⟩
  cases z1
  · obtain rfl : z = false := by rw [← h]; simp
    clear h
    go_wp2_with fail
    refine (C0.out _).mono ?_
    rintro e w' ⟨rfl, rfl⟩
    go_wp2_with fail
    refine (C1.out _).mono ?_
    rintro e w' ⟨rfl, rfl⟩
    go_wp2_with fail
    go_ret
    exact ⟨rfl, BX.out⟩
  cases z2
  · obtain rfl : z = false := by rw [← h]; simp
    clear h
    go_wp2_with fail
    refine (C0.out _).mono ?_
    rintro e w' ⟨rfl, rfl⟩
    go_wp2_with fail
    refine (C1.out _).mono ?_
    rintro e w' ⟨rfl, rfl⟩
    go_wp2_with fail
    refine (C2.out _).mono ?_
    rintro e w' ⟨rfl, rfl⟩
    go_wp2_with fail
    go_ret
    exact ⟨rfl, BX.out⟩
  obtain rfl : z = true := by rw [← h]; rfl
  clear h
  go_wp2_with fail
  refine (C0.out _).mono ?_
  rintro e w' ⟨rfl, rfl⟩
  go_wp2_with fail
  refine (C1.out _).mono ?_
  rintro e w' ⟨rfl, rfl⟩
  go_wp2_with fail
  refine (C2.out _).mono ?_
  rintro e w' ⟨rfl, rfl⟩
  go_wp2_with fail
  go_ret
  exact ⟨rfl, BX.out⟩
set_option maxHeartbeats 3200000 in
set_option maxRecDepth 100000 in
theorem validAsk (x : AskP) (z : Bool) (w : World) (ht : x.text.size ≤ 9223372036854775807) (ha : x.aw.size ≤ 9223372036854775807) (h : mayAsk x = z) :
    Calls Try.prog 34 #[.iface 29 (.agg #[.int .i64 x.slot, .int .i64 x.query, .int .i64 x.shard, .int .i64 x.seq, .int .i64 x.epoch, .string x.text, .int .i64 x.k, .int .i64 x.batch, .bool x.first, .int .i64 x.ad, .string x.aw])] w fun e w' => e = .returned (.bool z) ∧ Below w.heap.size w w' := by
  unfold mayAsk at h
  obtain ⟨z0, h0⟩ : ∃ z, inR x.slot 0 3 = z := ⟨_, rfl⟩
  obtain ⟨z1, h1⟩ : ∃ z, inR x.query 0 2147483647 = z := ⟨_, rfl⟩
  obtain ⟨z2, h2⟩ : ∃ z, inR x.shard 0 5 = z := ⟨_, rfl⟩
  obtain ⟨z3, h3⟩ : ∃ z, inR x.seq 0 2147483647 = z := ⟨_, rfl⟩
  obtain ⟨z4, h4⟩ : ∃ z, inR x.epoch 0 2147483647 = z := ⟨_, rfl⟩
  obtain ⟨z5, h5⟩ : ∃ z, decide (0 ≤ lenS x.text ∧ lenS x.text ≤ 16) = z := ⟨_, rfl⟩
  obtain ⟨z6, h6⟩ : ∃ z, inR x.k 0 4 = z := ⟨_, rfl⟩
  obtain ⟨z7, h7⟩ : ∃ z, inR x.batch 1 5 = z := ⟨_, rfl⟩
  obtain ⟨z8, h8⟩ : ∃ z, mayAfter x.first (x.ad, x.aw) = z := ⟨_, rfl⟩
  rw [h0, h1, h2, h3, h4, h5, h6, h7, h8] at h
  have C0 := Lib.hid (fun w => isSlot_lit x.slot z0 w h0)
  have C1 := Lib.hid (fun w => isNumber_lit x.query z1 w h1)
  have C2 := Lib.hid (fun w => isShard_lit x.shard z2 w h2)
  have C3 := Lib.hid (fun w => isNumber_lit x.seq z3 w h3)
  have C4 := Lib.hid (fun w => isNumber_lit x.epoch z4 w h4)
  have C5 := Lib.hid (fun w => asked_lit x.text z5 w ht h5)
  have C6 := Lib.hid (fun w => isDist_lit x.k z6 w h6)
  have C7 := Lib.hid (fun w => min_lit x.batch 1 5 z7 w h7)
  have C8 := Lib.hid (fun w => validAfter_lit x.first x.ad x.aw z8 w ha h8)
  obtain ⟨w3, hw3⟩ : ∃ w3, ((w.alloc (.cells #[.int .i64 0, .int .i64 0] 23)).alloc (.cells #[.int .i64 0, .int .i64 0, .int .i64 0] 25)).alloc (.cells #[.int .i64 x.slot, .int .i64 x.query, .int .i64 x.shard, .int .i64 x.seq, .int .i64 x.epoch, .string x.text, .int .i64 x.k, .int .i64 x.batch, .bool x.first, .int .i64 x.ad, .string x.aw] 29) = w3 := ⟨_, rfl⟩
  have BX := Lib.hid (show Below w.heap.size w w3 from by
    rw [← hw3]
    repeat' (first | exact Below.refl _ _ | refine Below.alloc ?_ (by simp <;> omega) _))
  have XI := Lib.hid (show MAskIn w3 (w.heap.size + 2) x from hw3 ▸ MAskIn_new _ x _ _ (0, 0) (by simp))
  have tHello := taAskHello x
  have tGrant := taAskGrant x
  have tAsk := taAskAsk x
  clear h0 h1 h2 h3 h4 h5 h6 h7 h8 ht ha
  go_enter Try.func34, Try.ntmps34
  go_upto_region 9 with fail
  try rw [hw3]
  clear hw3 tHello tGrant tAsk
  try simp only [Nat.add_assoc, Nat.reduceAdd]
  obtain ⟨p, hp⟩ : ∃ p, w.heap.size + 2 = p := ⟨_, rfl⟩
  rw [hp] at XI
  try simp only [hp]
  clear hp
  have hX := XI.out
  unfold MAskIn at hX
  obtain ⟨x0, x1, x2, x3, x4, x5, x6, x7, x8, x9, x10⟩ := hX
  cases z0
  · obtain rfl : z = false := by rw [← h]; simp
    clear h
    go_wp2_with fail
    refine (C0.out _).mono ?_
    rintro e w' ⟨rfl, rfl⟩
    go_wp2_with fail
    go_ret
    exact ⟨rfl, BX.out⟩
  cases z1
  · obtain rfl : z = false := by rw [← h]; simp
    clear h
    go_wp2_with fail
    refine (C0.out _).mono ?_
    rintro e w' ⟨rfl, rfl⟩
    go_wp2_with fail
    refine (C1.out _).mono ?_
    rintro e w' ⟨rfl, rfl⟩
    go_wp2_with fail
    go_ret
    exact ⟨rfl, BX.out⟩
  cases z2
  · obtain rfl : z = false := by rw [← h]; simp
    clear h
    go_wp2_with fail
    refine (C0.out _).mono ?_
    rintro e w' ⟨rfl, rfl⟩
    go_wp2_with fail
    refine (C1.out _).mono ?_
    rintro e w' ⟨rfl, rfl⟩
    go_wp2_with fail
    refine (C2.out _).mono ?_
    rintro e w' ⟨rfl, rfl⟩
    go_wp2_with fail
    go_ret
    exact ⟨rfl, BX.out⟩
  cases z3
  · obtain rfl : z = false := by rw [← h]; simp
    clear h
    go_wp2_with fail
    refine (C0.out _).mono ?_
    rintro e w' ⟨rfl, rfl⟩
    go_wp2_with fail
    refine (C1.out _).mono ?_
    rintro e w' ⟨rfl, rfl⟩
    go_wp2_with fail
    refine (C2.out _).mono ?_
    rintro e w' ⟨rfl, rfl⟩
    go_wp2_with fail
    refine (C3.out _).mono ?_
    rintro e w' ⟨rfl, rfl⟩
    go_wp2_with fail
    go_ret
    exact ⟨rfl, BX.out⟩
  cases z4
  · obtain rfl : z = false := by rw [← h]; simp
    clear h
    go_wp2_with fail
    refine (C0.out _).mono ?_
    rintro e w' ⟨rfl, rfl⟩
    go_wp2_with fail
    refine (C1.out _).mono ?_
    rintro e w' ⟨rfl, rfl⟩
    go_wp2_with fail
    refine (C2.out _).mono ?_
    rintro e w' ⟨rfl, rfl⟩
    go_wp2_with fail
    refine (C3.out _).mono ?_
    rintro e w' ⟨rfl, rfl⟩
    go_wp2_with fail
    refine (C4.out _).mono ?_
    rintro e w' ⟨rfl, rfl⟩
    go_wp2_with fail
    go_ret
    exact ⟨rfl, BX.out⟩
  cases z5
  · obtain rfl : z = false := by rw [← h]; simp
    clear h
    go_wp2_with fail
    refine (C0.out _).mono ?_
    rintro e w' ⟨rfl, rfl⟩
    go_wp2_with fail
    refine (C1.out _).mono ?_
    rintro e w' ⟨rfl, rfl⟩
    go_wp2_with fail
    refine (C2.out _).mono ?_
    rintro e w' ⟨rfl, rfl⟩
    go_wp2_with fail
    refine (C3.out _).mono ?_
    rintro e w' ⟨rfl, rfl⟩
    go_wp2_with fail
    refine (C4.out _).mono ?_
    rintro e w' ⟨rfl, rfl⟩
    go_wp2_with fail
    refine (C5.out _).mono ?_
    rintro e w15 ⟨rfl, hb⟩
    have B5 := Lib.hid (BX.out.trans (hb.mono BX.out.size))
    have X5 := Lib.hid (XI.out.below hb)
    clear x0 x1 x2 x3 x4 x5 x6 x7 x8 x9 x10
    have hX := X5.out
    unfold MAskIn at hX
    obtain ⟨x0, x1, x2, x3, x4, x5, x6, x7, x8, x9, x10⟩ := hX
    clear hb
    go_wp2_with fail
    go_ret
    exact ⟨rfl, B5.out⟩
  cases z6
  · obtain rfl : z = false := by rw [← h]; simp
    clear h
    go_wp2_with fail
    refine (C0.out _).mono ?_
    rintro e w' ⟨rfl, rfl⟩
    go_wp2_with fail
    refine (C1.out _).mono ?_
    rintro e w' ⟨rfl, rfl⟩
    go_wp2_with fail
    refine (C2.out _).mono ?_
    rintro e w' ⟨rfl, rfl⟩
    go_wp2_with fail
    refine (C3.out _).mono ?_
    rintro e w' ⟨rfl, rfl⟩
    go_wp2_with fail
    refine (C4.out _).mono ?_
    rintro e w' ⟨rfl, rfl⟩
    go_wp2_with fail
    refine (C5.out _).mono ?_
    rintro e w15 ⟨rfl, hb⟩
    have B5 := Lib.hid (BX.out.trans (hb.mono BX.out.size))
    have X5 := Lib.hid (XI.out.below hb)
    clear x0 x1 x2 x3 x4 x5 x6 x7 x8 x9 x10
    have hX := X5.out
    unfold MAskIn at hX
    obtain ⟨x0, x1, x2, x3, x4, x5, x6, x7, x8, x9, x10⟩ := hX
    clear hb
    go_wp2_with fail
    refine (C6.out _).mono ?_
    rintro e w' ⟨rfl, rfl⟩
    go_wp2_with fail
    go_ret
    exact ⟨rfl, B5.out⟩
  cases z7
  · obtain rfl : z = false := by rw [← h]; simp
    clear h
    go_wp2_with fail
    refine (C0.out _).mono ?_
    rintro e w' ⟨rfl, rfl⟩
    go_wp2_with fail
    refine (C1.out _).mono ?_
    rintro e w' ⟨rfl, rfl⟩
    go_wp2_with fail
    refine (C2.out _).mono ?_
    rintro e w' ⟨rfl, rfl⟩
    go_wp2_with fail
    refine (C3.out _).mono ?_
    rintro e w' ⟨rfl, rfl⟩
    go_wp2_with fail
    refine (C4.out _).mono ?_
    rintro e w' ⟨rfl, rfl⟩
    go_wp2_with fail
    refine (C5.out _).mono ?_
    rintro e w15 ⟨rfl, hb⟩
    have B5 := Lib.hid (BX.out.trans (hb.mono BX.out.size))
    have X5 := Lib.hid (XI.out.below hb)
    clear x0 x1 x2 x3 x4 x5 x6 x7 x8 x9 x10
    have hX := X5.out
    unfold MAskIn at hX
    obtain ⟨x0, x1, x2, x3, x4, x5, x6, x7, x8, x9, x10⟩ := hX
    clear hb
    go_wp2_with fail
    refine (C6.out _).mono ?_
    rintro e w' ⟨rfl, rfl⟩
    go_wp2_with fail
    refine (C7.out _).mono ?_
    rintro e w' ⟨rfl, rfl⟩
    go_wp2_with fail
    go_ret
    exact ⟨rfl, B5.out⟩
  cases z8
  · obtain rfl : z = false := by rw [← h]; simp
    clear h
    go_wp2_with fail
    refine (C0.out _).mono ?_
    rintro e w' ⟨rfl, rfl⟩
    go_wp2_with fail
    refine (C1.out _).mono ?_
    rintro e w' ⟨rfl, rfl⟩
    go_wp2_with fail
    refine (C2.out _).mono ?_
    rintro e w' ⟨rfl, rfl⟩
    go_wp2_with fail
    refine (C3.out _).mono ?_
    rintro e w' ⟨rfl, rfl⟩
    go_wp2_with fail
    refine (C4.out _).mono ?_
    rintro e w' ⟨rfl, rfl⟩
    go_wp2_with fail
    refine (C5.out _).mono ?_
    rintro e w15 ⟨rfl, hb⟩
    have B5 := Lib.hid (BX.out.trans (hb.mono BX.out.size))
    have X5 := Lib.hid (XI.out.below hb)
    clear x0 x1 x2 x3 x4 x5 x6 x7 x8 x9 x10
    have hX := X5.out
    unfold MAskIn at hX
    obtain ⟨x0, x1, x2, x3, x4, x5, x6, x7, x8, x9, x10⟩ := hX
    clear hb
    go_wp2_with fail
    refine (C6.out _).mono ?_
    rintro e w' ⟨rfl, rfl⟩
    go_wp2_with fail
    refine (C7.out _).mono ?_
    rintro e w' ⟨rfl, rfl⟩
    go_wp2_with fail
    refine (C8.out _).mono ?_
    rintro e w18 ⟨rfl, hb⟩
    have B8 := Lib.hid (B5.out.trans (hb.mono B5.out.size))
    clear hb
    go_wp2_with fail
    go_ret
    exact ⟨rfl, B8.out⟩
  obtain rfl : z = true := by rw [← h]; rfl
  clear h
  go_wp2_with fail
  refine (C0.out _).mono ?_
  rintro e w' ⟨rfl, rfl⟩
  go_wp2_with fail
  refine (C1.out _).mono ?_
  rintro e w' ⟨rfl, rfl⟩
  go_wp2_with fail
  refine (C2.out _).mono ?_
  rintro e w' ⟨rfl, rfl⟩
  go_wp2_with fail
  refine (C3.out _).mono ?_
  rintro e w' ⟨rfl, rfl⟩
  go_wp2_with fail
  refine (C4.out _).mono ?_
  rintro e w' ⟨rfl, rfl⟩
  go_wp2_with fail
  refine (C5.out _).mono ?_
  rintro e w15 ⟨rfl, hb⟩
  have B5 := Lib.hid (BX.out.trans (hb.mono BX.out.size))
  have X5 := Lib.hid (XI.out.below hb)
  clear x0 x1 x2 x3 x4 x5 x6 x7 x8 x9 x10
  have hX := X5.out
  unfold MAskIn at hX
  obtain ⟨x0, x1, x2, x3, x4, x5, x6, x7, x8, x9, x10⟩ := hX
  clear hb
  go_wp2_with fail
  refine (C6.out _).mono ?_
  rintro e w' ⟨rfl, rfl⟩
  go_wp2_with fail
  refine (C7.out _).mono ?_
  rintro e w' ⟨rfl, rfl⟩
  go_wp2_with fail
  refine (C8.out _).mono ?_
  rintro e w18 ⟨rfl, hb⟩
  have B8 := Lib.hid (B5.out.trans (hb.mono B5.out.size))
  clear hb
  go_wp2_with fail
  go_ret
  exact ⟨rfl, B8.out⟩
set_option maxHeartbeats 3200000 in
set_option maxRecDepth 100000 in
theorem validReply (x : RepP) (z : Bool) (w : World) (hh : HoldsK w x.ia x.n x.items) (hs : ∀ k ∈ x.items, k.2.size ≤ 9223372036854775807) (hn : x.n ≤ 9223372036854775807) (h : mayReply x = z) :
    Calls Try.prog 34 #[.iface 32 (.agg #[.int .i64 x.slot, .int .i64 x.query, .int .i64 x.shard, .int .i64 x.seq, .int .i64 x.worker, .int .i64 x.epoch, .slice x.ia x.n x.ic, .bool x.fin])] w fun e w' => e = .returned (.bool z) ∧ Below w.heap.size w w' := by
  unfold mayReply at h
  obtain ⟨z0, h0⟩ : ∃ z, inR x.slot 0 3 = z := ⟨_, rfl⟩
  obtain ⟨z1, h1⟩ : ∃ z, inR x.query 0 2147483647 = z := ⟨_, rfl⟩
  obtain ⟨z2, h2⟩ : ∃ z, inR x.shard 0 5 = z := ⟨_, rfl⟩
  obtain ⟨z3, h3⟩ : ∃ z, inR x.seq 0 2147483647 = z := ⟨_, rfl⟩
  obtain ⟨z4, h4⟩ : ∃ z, inR x.worker 1 5 = z := ⟨_, rfl⟩
  obtain ⟨z5, h5⟩ : ∃ z, inR x.epoch 0 2147483647 = z := ⟨_, rfl⟩
  obtain ⟨z6, h6⟩ : ∃ z, mayItems x.items = z := ⟨_, rfl⟩
  rw [h0, h1, h2, h3, h4, h5, h6] at h
  have C0 := Lib.hid (fun w => isSlot_lit x.slot z0 w h0)
  have C1 := Lib.hid (fun w => isNumber_lit x.query z1 w h1)
  have C2 := Lib.hid (fun w => isShard_lit x.shard z2 w h2)
  have C3 := Lib.hid (fun w => isNumber_lit x.seq z3 w h3)
  have C4 := Lib.hid (fun w => isWorker_lit x.worker z4 w h4)
  have C5 := Lib.hid (fun w => isNumber_lit x.epoch z5 w h5)
  have C6 := Lib.hid (fun w' (hb : Below w.heap.size w w') => validItems_lit x.ia x.n x.ic x.items z6 w' (hh.below hb) hs hn h6)
  obtain ⟨w3, hw3⟩ : ∃ w3, (((w.alloc (.cells #[.int .i64 0, .int .i64 0] 23)).alloc (.cells #[.int .i64 0, .int .i64 0, .int .i64 0] 25)).alloc (.cells #[.int .i64 0, .int .i64 0, .int .i64 0, .int .i64 0, .int .i64 0, .string ⟨#[]⟩, .int .i64 0, .int .i64 0, .bool false, .int .i64 0, .string ⟨#[]⟩] 29)).alloc (.cells #[.int .i64 x.slot, .int .i64 x.query, .int .i64 x.shard, .int .i64 x.seq, .int .i64 x.worker, .int .i64 x.epoch, .slice x.ia x.n x.ic, .bool x.fin] 32) = w3 := ⟨_, rfl⟩
  have BX := Lib.hid (show Below w.heap.size w w3 from by
    rw [← hw3]
    repeat' (first | exact Below.refl _ _ | refine Below.alloc ?_ (by simp <;> omega) _))
  have XI := Lib.hid (show ReplyIn w3 (w.heap.size + 3) x from hw3 ▸ ReplyIn_new _ x _ _ (0, 0) (by simp))
  have tHello := taReplyHello x
  have tGrant := taReplyGrant x
  have tAsk := taReplyAsk x
  have tReply := taReplyReply x
  clear h0 h1 h2 h3 h4 h5 h6 hh hs hn
  go_enter Try.func34, Try.ntmps34
  go_upto_region 12 with fail
  try rw [hw3]
  clear hw3 tHello tGrant tAsk tReply
  try simp only [Nat.add_assoc, Nat.reduceAdd]
  obtain ⟨p, hp⟩ : ∃ p, w.heap.size + 3 = p := ⟨_, rfl⟩
  rw [hp] at XI
  try simp only [hp]
  clear hp
  have hX := XI.out
  unfold ReplyIn at hX
  obtain ⟨x0, x1, x2, x3, x4, x5, x6, x7⟩ := hX
  cases z0
  · obtain rfl : z = false := by rw [← h]; simp
    clear h
    go_wp2_with fail
    refine (C0.out _).mono ?_
    rintro e w' ⟨rfl, rfl⟩
    go_wp2_with fail
    go_ret
    exact ⟨rfl, BX.out⟩
  cases z1
  · obtain rfl : z = false := by rw [← h]; simp
    clear h
    go_wp2_with fail
    refine (C0.out _).mono ?_
    rintro e w' ⟨rfl, rfl⟩
    go_wp2_with fail
    refine (C1.out _).mono ?_
    rintro e w' ⟨rfl, rfl⟩
    go_wp2_with fail
    go_ret
    exact ⟨rfl, BX.out⟩
  cases z2
  · obtain rfl : z = false := by rw [← h]; simp
    clear h
    go_wp2_with fail
    refine (C0.out _).mono ?_
    rintro e w' ⟨rfl, rfl⟩
    go_wp2_with fail
    refine (C1.out _).mono ?_
    rintro e w' ⟨rfl, rfl⟩
    go_wp2_with fail
    refine (C2.out _).mono ?_
    rintro e w' ⟨rfl, rfl⟩
    go_wp2_with fail
    go_ret
    exact ⟨rfl, BX.out⟩
  cases z3
  · obtain rfl : z = false := by rw [← h]; simp
    clear h
    go_wp2_with fail
    refine (C0.out _).mono ?_
    rintro e w' ⟨rfl, rfl⟩
    go_wp2_with fail
    refine (C1.out _).mono ?_
    rintro e w' ⟨rfl, rfl⟩
    go_wp2_with fail
    refine (C2.out _).mono ?_
    rintro e w' ⟨rfl, rfl⟩
    go_wp2_with fail
    refine (C3.out _).mono ?_
    rintro e w' ⟨rfl, rfl⟩
    go_wp2_with fail
    go_ret
    exact ⟨rfl, BX.out⟩
  cases z4
  · obtain rfl : z = false := by rw [← h]; simp
    clear h
    go_wp2_with fail
    refine (C0.out _).mono ?_
    rintro e w' ⟨rfl, rfl⟩
    go_wp2_with fail
    refine (C1.out _).mono ?_
    rintro e w' ⟨rfl, rfl⟩
    go_wp2_with fail
    refine (C2.out _).mono ?_
    rintro e w' ⟨rfl, rfl⟩
    go_wp2_with fail
    refine (C3.out _).mono ?_
    rintro e w' ⟨rfl, rfl⟩
    go_wp2_with fail
    refine (C4.out _).mono ?_
    rintro e w' ⟨rfl, rfl⟩
    go_wp2_with fail
    go_ret
    exact ⟨rfl, BX.out⟩
  cases z5
  · obtain rfl : z = false := by rw [← h]; simp
    clear h
    go_wp2_with fail
    refine (C0.out _).mono ?_
    rintro e w' ⟨rfl, rfl⟩
    go_wp2_with fail
    refine (C1.out _).mono ?_
    rintro e w' ⟨rfl, rfl⟩
    go_wp2_with fail
    refine (C2.out _).mono ?_
    rintro e w' ⟨rfl, rfl⟩
    go_wp2_with fail
    refine (C3.out _).mono ?_
    rintro e w' ⟨rfl, rfl⟩
    go_wp2_with fail
    refine (C4.out _).mono ?_
    rintro e w' ⟨rfl, rfl⟩
    go_wp2_with fail
    refine (C5.out _).mono ?_
    rintro e w' ⟨rfl, rfl⟩
    go_wp2_with fail
    go_ret
    exact ⟨rfl, BX.out⟩
  cases z6
  · obtain rfl : z = false := by rw [← h]; simp
    clear h
    go_wp2_with fail
    refine (C0.out _).mono ?_
    rintro e w' ⟨rfl, rfl⟩
    go_wp2_with fail
    refine (C1.out _).mono ?_
    rintro e w' ⟨rfl, rfl⟩
    go_wp2_with fail
    refine (C2.out _).mono ?_
    rintro e w' ⟨rfl, rfl⟩
    go_wp2_with fail
    refine (C3.out _).mono ?_
    rintro e w' ⟨rfl, rfl⟩
    go_wp2_with fail
    refine (C4.out _).mono ?_
    rintro e w' ⟨rfl, rfl⟩
    go_wp2_with fail
    refine (C5.out _).mono ?_
    rintro e w' ⟨rfl, rfl⟩
    go_wp2_with fail
    refine (C6.out _ BX.out).mono ?_
    rintro e w16 ⟨rfl, hb⟩
    have B6 := Lib.hid (BX.out.trans (hb.mono BX.out.size))
    clear hb
    go_wp2_with fail
    go_ret
    exact ⟨rfl, B6.out⟩
  obtain rfl : z = true := by rw [← h]; rfl
  clear h
  go_wp2_with fail
  refine (C0.out _).mono ?_
  rintro e w' ⟨rfl, rfl⟩
  go_wp2_with fail
  refine (C1.out _).mono ?_
  rintro e w' ⟨rfl, rfl⟩
  go_wp2_with fail
  refine (C2.out _).mono ?_
  rintro e w' ⟨rfl, rfl⟩
  go_wp2_with fail
  refine (C3.out _).mono ?_
  rintro e w' ⟨rfl, rfl⟩
  go_wp2_with fail
  refine (C4.out _).mono ?_
  rintro e w' ⟨rfl, rfl⟩
  go_wp2_with fail
  refine (C5.out _).mono ?_
  rintro e w' ⟨rfl, rfl⟩
  go_wp2_with fail
  refine (C6.out _ BX.out).mono ?_
  rintro e w16 ⟨rfl, hb⟩
  have B6 := Lib.hid (BX.out.trans (hb.mono BX.out.size))
  clear hb
  go_wp2_with fail
  go_ret
  exact ⟨rfl, B6.out⟩
set_option maxHeartbeats 3200000 in
set_option maxRecDepth 100000 in
theorem validStop (a b : Int) (z : Bool) (w : World) (h : mayStop a b = z) :
    Calls Try.prog 34 #[.iface 34 (.agg #[.int .i64 a, .int .i64 b])] w fun e w' => e = .returned (.bool z) ∧ Below w.heap.size w w' := by
  unfold mayStop at h
  obtain ⟨z0, h0⟩ : ∃ z, inR a 0 3 = z := ⟨_, rfl⟩
  obtain ⟨z1, h1⟩ : ∃ z, inR b 0 2147483647 = z := ⟨_, rfl⟩
  rw [h0, h1] at h
  have C0 := Lib.hid (fun w => isSlot_lit a z0 w h0)
  have C1 := Lib.hid (fun w => isNumber_lit b z1 w h1)
  obtain ⟨w3, hw3⟩ : ∃ w3, ((((w.alloc (.cells #[.int .i64 0, .int .i64 0] 23)).alloc (.cells #[.int .i64 0, .int .i64 0, .int .i64 0] 25)).alloc (.cells #[.int .i64 0, .int .i64 0, .int .i64 0, .int .i64 0, .int .i64 0, .string ⟨#[]⟩, .int .i64 0, .int .i64 0, .bool false, .int .i64 0, .string ⟨#[]⟩] 29)).alloc (.cells #[.int .i64 0, .int .i64 0, .int .i64 0, .int .i64 0, .int .i64 0, .int .i64 0, .slice none 0 0, .bool false] 32)).alloc (.cells #[.int .i64 a, .int .i64 b] 34) = w3 := ⟨_, rfl⟩
  have BX := Lib.hid (show Below w.heap.size w w3 from by
    rw [← hw3]
    repeat' (first | exact Below.refl _ _ | refine Below.alloc ?_ (by simp <;> omega) _))
  have XI := Lib.hid (show StopIn w3 (w.heap.size + 4) a b from hw3 ▸ StopIn_new _ a b _ _ (0, 0) (by simp))
  have tHello := taStopHello a b
  have tGrant := taStopGrant a b
  have tAsk := taStopAsk a b
  have tReply := taStopReply a b
  have tStop := taStopStop a b
  clear h0 h1
  go_enter Try.func34, Try.ntmps34
  go_upto_region 15 with fail
  try rw [hw3]
  clear hw3 tHello tGrant tAsk tReply tStop
  try simp only [Nat.add_assoc, Nat.reduceAdd]
  obtain ⟨p, hp⟩ : ∃ p, w.heap.size + 4 = p := ⟨_, rfl⟩
  rw [hp] at XI
  try simp only [hp]
  clear hp
  have hX := XI.out
  unfold StopIn at hX
  obtain ⟨x0, x1⟩ := hX
  cases z0
  · obtain rfl : z = false := by rw [← h]; simp
    clear h
    go_wp2_with fail
    refine (C0.out _).mono ?_
    rintro e w' ⟨rfl, rfl⟩
    go_wp2_with fail
    go_ret
    exact ⟨rfl, BX.out⟩
  cases z1
  · obtain rfl : z = false := by rw [← h]; simp
    clear h
    go_wp2_with fail
    refine (C0.out _).mono ?_
    rintro e w' ⟨rfl, rfl⟩
    go_wp2_with fail
    refine (C1.out _).mono ?_
    rintro e w' ⟨rfl, rfl⟩
    go_wp2_with fail
    go_ret
    exact ⟨rfl, BX.out⟩
  obtain rfl : z = true := by rw [← h]; rfl
  clear h
  go_wp2_with fail
  refine (C0.out _).mono ?_
  rintro e w' ⟨rfl, rfl⟩
  go_wp2_with fail
  refine (C1.out _).mono ?_
  rintro e w' ⟨rfl, rfl⟩
  go_wp2_with fail
  go_ret
  exact ⟨rfl, BX.out⟩
theorem validNum (k : Int) (w : World) : Calls Try.prog 34 #[.iface 3 (.int .i64 k)] w fun e w' => e = .returned (.bool false) ∧ Below w.heap.size w w' := by
  have tHello := taNumHello k
  have tGrant := taNumGrant k
  have tAsk := taNumAsk k
  have tReply := taNumReply k
  have tStop := taNumStop k
  have BX := Lib.hid (show Below w.heap.size w (((((w.alloc (.cells #[.int .i64 0, .int .i64 0] 23)).alloc (.cells #[.int .i64 0, .int .i64 0, .int .i64 0] 25)).alloc (.cells #[.int .i64 0, .int .i64 0, .int .i64 0, .int .i64 0, .int .i64 0, .string ⟨#[]⟩, .int .i64 0, .int .i64 0, .bool false, .int .i64 0, .string ⟨#[]⟩] 29)).alloc (.cells #[.int .i64 0, .int .i64 0, .int .i64 0, .int .i64 0, .int .i64 0, .int .i64 0, .slice none 0 0, .bool false] 32)).alloc (.cells #[.int .i64 0, .int .i64 0] 34)) from by
    repeat' (first | exact Below.refl _ _ | refine Below.alloc ?_ (by simp <;> omega) _))
  go_enter Try.func34, Try.ntmps34
  go_wp2_with fail
  go_ret
  exact ⟨rfl, BX.out⟩
theorem validNil  (w : World) : Calls Try.prog 34 #[.nilIface] w fun e w' => e = .returned (.bool false) ∧ Below w.heap.size w w' := by
  have tHello := taNilHello 
  have tGrant := taNilGrant 
  have tAsk := taNilAsk 
  have tReply := taNilReply 
  have tStop := taNilStop 
  have BX := Lib.hid (show Below w.heap.size w (((((w.alloc (.cells #[.int .i64 0, .int .i64 0] 23)).alloc (.cells #[.int .i64 0, .int .i64 0, .int .i64 0] 25)).alloc (.cells #[.int .i64 0, .int .i64 0, .int .i64 0, .int .i64 0, .int .i64 0, .string ⟨#[]⟩, .int .i64 0, .int .i64 0, .bool false, .int .i64 0, .string ⟨#[]⟩] 29)).alloc (.cells #[.int .i64 0, .int .i64 0, .int .i64 0, .int .i64 0, .int .i64 0, .int .i64 0, .slice none 0 0, .bool false] 32)).alloc (.cells #[.int .i64 0, .int .i64 0] 34)) from by
    repeat' (first | exact Below.refl _ _ | refine Below.alloc ?_ (by simp <;> omega) _))
  go_enter Try.func34, Try.ntmps34
  go_wp2_with fail
  go_ret
  exact ⟨rfl, BX.out⟩
theorem kindOfHello (a b : Int) (w : World) : Calls Try.prog 43 #[.iface 23 (.agg #[.int .i64 a, .int .i64 b])] w fun e w' => e = .returned (.int .i64 1) ∧ w = w' := by
  have tHello := taHelloHello a b
  go_enter Try.func43, Try.ntmps43
  go_wp2_with fail
  go_ret
  exact ⟨rfl, rfl⟩
theorem kindOfGrant (a b c : Int) (w : World) : Calls Try.prog 43 #[.iface 25 (.agg #[.int .i64 a, .int .i64 b, .int .i64 c])] w fun e w' => e = .returned (.int .i64 2) ∧ w = w' := by
  have tHello := taGrantHello a b c
  have tGrant := taGrantGrant a b c
  go_enter Try.func43, Try.ntmps43
  go_wp2_with fail
  go_ret
  exact ⟨rfl, rfl⟩
theorem kindOfAsk (x : AskP) (w : World) : Calls Try.prog 43 #[.iface 29 (.agg #[.int .i64 x.slot, .int .i64 x.query, .int .i64 x.shard, .int .i64 x.seq, .int .i64 x.epoch, .string x.text, .int .i64 x.k, .int .i64 x.batch, .bool x.first, .int .i64 x.ad, .string x.aw])] w fun e w' => e = .returned (.int .i64 3) ∧ w = w' := by
  have tHello := taAskHello x
  have tGrant := taAskGrant x
  have tAsk := taAskAsk x
  go_enter Try.func43, Try.ntmps43
  go_wp2_with fail
  go_ret
  exact ⟨rfl, rfl⟩
theorem kindOfReply (x : RepP) (w : World) : Calls Try.prog 43 #[.iface 32 (.agg #[.int .i64 x.slot, .int .i64 x.query, .int .i64 x.shard, .int .i64 x.seq, .int .i64 x.worker, .int .i64 x.epoch, .slice x.ia x.n x.ic, .bool x.fin])] w fun e w' => e = .returned (.int .i64 4) ∧ w = w' := by
  have tHello := taReplyHello x
  have tGrant := taReplyGrant x
  have tAsk := taReplyAsk x
  have tReply := taReplyReply x
  go_enter Try.func43, Try.ntmps43
  go_wp2_with fail
  go_ret
  exact ⟨rfl, rfl⟩
theorem kindOfStop (a b : Int) (w : World) : Calls Try.prog 43 #[.iface 34 (.agg #[.int .i64 a, .int .i64 b])] w fun e w' => e = .returned (.int .i64 5) ∧ w = w' := by
  have tHello := taStopHello a b
  have tGrant := taStopGrant a b
  have tAsk := taStopAsk a b
  have tReply := taStopReply a b
  have tStop := taStopStop a b
  go_enter Try.func43, Try.ntmps43
  go_wp2_with fail
  go_ret
  exact ⟨rfl, rfl⟩
theorem kindOfNum (k : Int) (w : World) : Calls Try.prog 43 #[.iface 3 (.int .i64 k)] w fun e w' => e = .returned (.int .i64 0) ∧ w = w' := by
  have tHello := taNumHello k
  have tGrant := taNumGrant k
  have tAsk := taNumAsk k
  have tReply := taNumReply k
  have tStop := taNumStop k
  go_enter Try.func43, Try.ntmps43
  go_wp2_with fail
  go_ret
  exact ⟨rfl, rfl⟩
theorem kindOfNil  (w : World) : Calls Try.prog 43 #[.nilIface] w fun e w' => e = .returned (.int .i64 0) ∧ w = w' := by
  have tHello := taNilHello 
  have tGrant := taNilGrant 
  have tAsk := taNilAsk 
  have tReply := taNilReply 
  have tStop := taNilStop 
  go_enter Try.func43, Try.ntmps43
  go_wp2_with fail
  go_ret
  exact ⟨rfl, rfl⟩
end Go.Proofs.Ythboiklcjpnhbaa
/- Slices of bytes as lists of natural numbers. -/
namespace Go.Proofs.Ythboiklcjpnhbaa
open Go.ChangeShapes Go.WideShapes Go.ChangeAt Go.RowKit
set_option linter.unusedVariables false
set_option maxRecDepth 20000
/-- The slice at a of n bytes holds the bytes bs. -/
def HoldsB (w : World) (a : Option Addr) (n : Nat) (bs : List Nat) : Prop := HoldsI .u8 w a n (bs.map fun b : Nat => (b : Int)) ∧ ∀ b ∈ bs, b < 256
theorem HoldsB.len {w : World} {a : Option Addr} {n : Nat} {bs : List Nat} (h : HoldsB w a n bs) : bs.length = n := by simpa using h.1.1
theorem getD_map_cast (bs : List Nat) (i : Nat) : (bs.map fun b : Nat => (b : Int)).getD i 0 = ((bs.getD i 0 : Nat) : Int) := by
  simp only [List.getD_eq_getElem?_getD, List.getElem?_map]
  cases bs[i]? <;> rfl
theorem HoldsB.at {w : World} {a : Option Addr} {n : Nat} {bs : List Nat} (h : HoldsB w a n bs) (h0 : 0 < n) : ∃ b o, a = some ⟨b, o, none⟩ ∧ ∀ i, i < n → w.cell? ⟨b, o + i, none⟩ = some (.int .u8 ((bs.getD i 0 : Nat) : Int)) := by
  obtain ⟨b, o, ha, hc⟩ := h.1.2 h0
  exact ⟨b, o, ha, fun i hi => by rw [hc i hi, getD_map_cast]⟩
theorem HoldsB.below {w w' : World} {a : Option Addr} {n : Nat} {bs : List Nat} (h : HoldsB w a n bs) (hb : Below w.heap.size w w') : HoldsB w' a n bs := ⟨h.1.below hb, h.2⟩
theorem HoldsB.part {w : World} {b o n : Nat} {bs : List Nat} (h : HoldsB w (some ⟨b, o, none⟩) n bs) (i j : Nat) (hij : i ≤ j) (hj : j ≤ n) (m : Nat) (hm : m = j - i) : HoldsB w (some ⟨b, o + i, none⟩) m ((bs.take j).drop i) := by
  refine ⟨?_, fun x hx => h.2 x (List.mem_of_mem_take (List.mem_of_mem_drop hx))⟩
  rw [List.map_drop, List.map_take]
  exact h.1.part i j hij hj m hm
theorem HoldsB.front {w : World} {b o n : Nat} {bs : List Nat} (h : HoldsB w (some ⟨b, o, none⟩) n bs) (j : Nat) (hj : j ≤ n) : HoldsB w (some ⟨b, o, none⟩) j (bs.take j) := by
  have := h.part 0 j (by omega) hj j (by omega)
  simpa using this
theorem getD_lt {bs : List Nat} (h : ∀ b ∈ bs, b < 256) (i : Nat) : bs.getD i 0 < 256 := by
  rw [List.getD_eq_getElem?_getD]
  cases e : bs[i]? with
  | none => simp
  | some x => exact h x (List.mem_of_getElem? e)

/-- the bytes as values -/
def bytesV (bs : List Nat) : List Value := (bs.map fun b : Nat => (b : Int)).map (Value.int .u8)
theorem bytesV_length (bs : List Nat) : (bytesV bs).length = bs.length := by simp [bytesV]
theorem HoldsB.values {w : World} {a : Option Addr} {n : Nat} {bs : List Nat} (h : HoldsB w a n bs) : HoldsV w a n (bytesV bs) := h.1.values
theorem bytesV_one (bs : List Nat) : ∀ u ∈ bytesV bs, u.oneCell' = true := ints_oneCell _ _
theorem roomy_bytes {w : World} {B : Nat} {e : TypeId} {mark : Value} {n k : Nat} {bs : List Nat} (hl : bs.length = n) (hb : ∀ b ∈ bs, b < 256) (h : Roomy w B e mark n (bytesV bs) k) : HoldsB w (some ⟨B, 0, none⟩) n bs :=
  ⟨⟨by simpa using hl, fun _ => ⟨B, 0, rfl, fun i hi => by rw [Nat.zero_add, h.cell i hi, bytesV, getD_map_int .u8 _ i (by simp [hl]; exact hi)]⟩⟩, hb⟩
theorem bytesV_append (a b : List Nat) : bytesV a ++ bytesV b = bytesV (a ++ b) := by simp [bytesV]
theorem holdsB_of_values {w : World} {a : Option Addr} {n : Nat} {bs : List Nat} (h : HoldsV w a n (bytesV bs)) (hb : ∀ b ∈ bs, b < 256) : HoldsB w a n bs := by
  have hl : bs.length = n := by have := h.1; simpa [bytesV] using this
  refine ⟨⟨by simpa using hl, fun h0 => ?_⟩, hb⟩
  obtain ⟨b, o, ha, hc⟩ := h.2 h0
  exact ⟨b, o, ha, fun i hi => by rw [hc i hi, bytesV, getD_map_int .u8 _ i (by simp [hl]; exact hi)]⟩
theorem holdsB_lit (w : World) (bs : List Nat) (e : TypeId) (fr : Nat × Nat) (h : ∀ b ∈ bs, b < 256) : HoldsB (w.alloc (.cells (bs.map fun b : Nat => Value.int .u8 (b : Int)).toArray e fr)) (some ⟨w.heap.size, 0, none⟩) bs.length bs := by
  refine ⟨⟨by simp, fun _ => ⟨_, _, rfl, fun i hi => ?_⟩⟩, h⟩
  rw [World.cell?_alloc_mark, getD_map_cast, Nat.zero_add]
  simp [List.getD_eq_getElem?_getD, hi]
theorem holdsB_nil (w : World) (a : Option Addr) : HoldsB w a 0 [] := ⟨⟨rfl, fun h => absurd h (by decide)⟩, by simp⟩
/-- A slice of bytes that the call made: what it returns, and what became of the world. EB: the number of the type of its elements. -/
def RetB (EB : TypeId) (w : World) (bs : List Nat) (e : Ending) (w' : World) : Prop :=
  ∃ a c, e = .returned (.slice a bs.length c) ∧ w'.ownsRow w.heap.size EB 1 (.slice a bs.length c) bs.length (bytesV bs) ∧ Below w.heap.size w w' ∧ (a = none → bs.length = 0 ∧ c = 0)
end Go.Proofs.Ythboiklcjpnhbaa
/- The arithmetic of numbers laid as bytes: no program is looked at. -/
namespace Go.Proofs.Ythboiklcjpnhbaa
namespace Cod
/-- the size lowest bytes of v, the most significant one first -/
def bytesOf (v : Nat) : Nat → List Nat
  | 0 => []
  | s + 1 => v / 256 ^ s % 256 :: bytesOf v s
theorem bytesOf_length (v s : Nat) : (bytesOf v s).length = s := by induction s with | zero => rfl | succ s ih => simp [bytesOf, ih]
theorem bytesOf_lt (v s : Nat) : ∀ b ∈ bytesOf v s, b < 256 := by
  induction s with
  | zero => simp [bytesOf]
  | succ s ih => intro b hb; simp only [bytesOf, List.mem_cons] at hb; rcases hb with rfl | hb; exact Nat.mod_lt _ (by decide); exact ih b hb
theorem bytesOf_take (v s k : Nat) (h : k < s) : (bytesOf v s).take (k + 1) = (bytesOf v s).take k ++ [v / 256 ^ (s - 1 - k) % 256] := by
  induction s generalizing k with
  | zero => omega
  | succ s ih =>
    cases k with
    | zero => simp [bytesOf]
    | succ k =>
      simp only [bytesOf, List.take_succ_cons, List.cons_append]
      rw [ih k (by omega), show s + 1 - 1 - (k + 1) = s - 1 - k by omega]
/-- the number of bytes -/
def numOf (bs : List Nat) : Nat := bs.foldl (fun v b => v * 256 + b) 0
theorem numOf_snoc (bs : List Nat) (b : Nat) : numOf (bs ++ [b]) = numOf bs * 256 + b := by simp [numOf]
theorem numOf_lt (bs : List Nat) (h : ∀ b ∈ bs, b < 256) : numOf bs < 256 ^ bs.length := by
  have key : ∀ (bs : List Nat) (a : Nat), (∀ b ∈ bs, b < 256) → bs.foldl (fun v b => v * 256 + b) a + 1 ≤ (a + 1) * 256 ^ bs.length := by
    intro bs
    induction bs with
    | nil => intro a _; simp
    | cons b bs ih =>
      intro a hb
      have h1 := ih (a * 256 + b) fun x hx => hb x (by simp [hx])
      have h2 := hb b (by simp)
      rw [List.foldl_cons, List.length_cons, Nat.pow_succ]
      refine Nat.le_trans h1 ?_
      rw [Nat.mul_comm (256 ^ bs.length) 256, ← Nat.mul_assoc]
      exact Nat.mul_le_mul_right _ (by omega)
  have := key bs 0 h
  simp only [Nat.zero_add, Nat.one_mul] at this
  exact this
theorem numOf_bytesOf (v s : Nat) : numOf (bytesOf v s) = v % 256 ^ s := by
  have key : ∀ (s a : Nat), (bytesOf v s).foldl (fun v b => v * 256 + b) a = a * 256 ^ s + v % 256 ^ s := by
    intro s
    induction s with
    | zero => intro a; simp [bytesOf, Nat.mod_one]
    | succ s ih =>
      intro a
      simp only [bytesOf, List.foldl_cons]
      rw [ih]
      have h1 : v % 256 ^ (s + 1) = v % 256 ^ s + 256 ^ s * (v / 256 ^ s % 256) := Nat.mod_pow_succ
      rw [h1, Nat.pow_succ]
      generalize v / 256 ^ s % 256 = q
      generalize v % 256 ^ s = r
      generalize 256 ^ s = p
      rw [Nat.add_mul, Nat.mul_assoc, Nat.mul_comm 256 p, Nat.mul_comm q p]
      omega
  have := key s 0
  simpa [numOf] using this
end Cod
end Go.Proofs.Ythboiklcjpnhbaa
/- contracts of code: bytes laid -/
namespace Go.Proofs.Ythboiklcjpnhbaa
open Go.RowKit
set_option linter.unusedVariables false
set_option maxRecDepth 20000
theorem u8_info : (Try.prog.info? 5).map (fun i => (i.zero, i.size, i.bytes)) = some (some (.int .u8 0), 1, 1) := by kernel_rfl

set_option maxHeartbeats 400000 in
theorem fresh_any (a : Option Addr) (n cap : Nat) (bs : List Nat) (m : Int) (w : World) (h : HoldsB w a n bs) (hnil : a = none → n = 0 ∧ cap = 0) (hn : n ≤ 1048576) (hm : 0 ≤ m) (hm2 : m ≤ 1048576) :
    Calls Try.prog 88 #[.slice a n cap, .int .i64 m] w (RetB 5 w bs) := by
  obtain ⟨i0, hi, hz0, hz1, hz2⟩ := info_parts u8_info
  obtain ⟨k, rfl⟩ := Int.eq_ofNat_of_zero_le hm
  have HN := Lib.hid hnil; have HV := Lib.hid h.values; have HL := Lib.hid h.len
  clear h hnil
  go_enter Try.func88, Try.ntmps88
  go_wp2_with (first | (at_make; refine wpList_make_own _ rfl _ _ 39 rfl w.heap.size 5 i0 (.int .u8 0) 1 Try.underlying39 hi hz0 hz1 _ _ _ (n + k) rfl rfl (by omega) (by rw [hz2]; omega) (by unfold maxLen; omega) (Nat.le_refl _) ?_; intro w0 hown0 hgrow0) | (at_builtin; refine wpList_append_any rfl (.tmp 9) (.tmp 10) 39 rfl w.heap.size 5 i0 (.int .u8 0) 1 1 Try.underlying39 hi hz0 hz1 hz2 rfl (by decide) _ 0 [] rfl hown0 a n cap (bytesV bs) rfl HN.out (by simpa using HV.out.1) (HV.out.cells hgrow0) (bytesV_one bs) (by unfold maxLen; omega) (by omega) (below_grown hgrow0 (by intro k hk; cases hk)).size ?_; intro a1 c1 w1 hown1 hb1 hnil1; simp only [Nat.zero_add, List.nil_append] at hown1))
  go_ret
  refine ⟨a1, c1, by rw [HL.out]; rfl, by rw [HL.out]; exact hown1, (below_grown hgrow0 (by intro k hk; cases hk)).trans hb1, by rw [HL.out]; simpa using hnil1⟩
/-- from 0 to 8 -/
def sizeV (s : Int) : Nat := (min (max s 0) 8).toNat
theorem u64_bd (d : Int) : 0 ≤ IntKind.u64.wrap d ∧ IntKind.u64.wrap d < 18446744073709551616 := by
  simp only [IntKind.wrap, IntKind.signed, IntKind.bits]; simp; omega
/-- a number's 64 bits -/
def bitsV (n : Int) : Nat := (IntKind.u64.wrap n).toNat
theorem bitsV_eq (n : Int) : IntKind.u64.wrap n = (bitsV n : Int) := by have := u64_bd n; unfold bitsV; omega
theorem byte_at (v k : Nat) : ((v : Int) / 2 ^ (8 * k) % 256) = ((v / 256 ^ k % 256 : Nat) : Int) := by
  rw [show (256 : Nat) ^ k = 2 ^ (8 * k) by rw [Nat.pow_mul], Int.natCast_emod, Int.natCast_ediv, Int.natCast_pow]; rfl
set_option maxHeartbeats 800000 in
theorem put_any (a : Option Addr) (n cap : Nat) (bs : List Nat) (v size : Int) (w : World) (h : HoldsB w a n bs) (hnil : a = none → n = 0 ∧ cap = 0) (hn : n ≤ 524288) :
    Calls Try.prog 64 #[.slice a n cap, .int .i64 v, .int .i64 size] w (RetB 5 w (bs ++ Cod.bytesOf (bitsV v) (sizeV size))) := by
  obtain ⟨i0, hi, hz0, hz1, hz2⟩ := info_parts u8_info
  have HN := Lib.hid hnil; have H := Lib.hid h; have HL := Lib.hid h.len
  have hb := bitsV_eq v
  clear h hnil
  obtain ⟨s, hs⟩ : ∃ s : Nat, sizeV size = s := ⟨_, rfl⟩
  have hs8 : s ≤ 8 := by unfold sizeV at hs; omega
  go_enter Try.func64, Try.ntmps64
  go_upto_region 1 with fail
  go_cut [2] (fun x wx => x = .int .i64 (s : Int) ∧ w = wx)
  case first =>
    go_wp2_with fail
    all_goals go_meet
    all_goals exact ⟨by congr 1; unfold sizeV at hs; omega, rfl⟩
  case rest =>
    obtain ⟨rfl, rfl⟩ := hcut
    go_wp2_with fail
    refine (fresh_any a n cap bs _ _ H.out HN.out (by omega) (by omega) (by omega)).mono ?_
    rintro e w1 ⟨a1, c1, rfl, hown1, hb1, hnil1⟩
    rw [HL.out] at hown1 ⊢
    have O1 := Lib.hid hown1; have B1 := Lib.hid hb1
    clear hown1 hb1 hnil1
    go_wp2_with fail
    go_loopw [7, 16] (fun x i wr => ∃ (k : Nat) (a2 : Option Addr) (c2 : Nat), k ≤ s ∧ i = .int .i64 k ∧ x = .slice a2 (n + k) c2 ∧ Hid (wr.ownsRow w.heap.size 5 1 (.slice a2 (n + k) c2) (n + k) (bytesV (bs ++ (Cod.bytesOf (bitsV v) s).take k))) ∧ Hid (Below w.heap.size w wr)) (fun _ i _ => s - (intOf i).toNat)
    case atStart => exact ⟨0, a1, c1, by omega, rfl, rfl, by rw [List.take_zero, List.append_nil]; exact O1, B1⟩
    case round =>
      obtain ⟨k, a2, c2, hk, rfl, rfl, hO, hB⟩ := hrel
      by_cases hlt : k < s
      · have ht := Cod.bytesOf_take (bitsV v) s k hlt
        have hby := byte_at (bitsV v) (s - 1 - k)
        have HT := Lib.hid ht; have HBY := Lib.hid hby
        clear ht hby
        have q1 : (8 * ((s : Int) - 1 - (k : Int))).toNat = 8 * (s - 1 - k) := by omega
        go_wp2_with (at_builtin; refine wpList_append_any rfl (.tmp 19) (.tmp 29) 39 rfl w.heap.size 5 i0 (.int .u8 0) 1 1 Try.underlying39 hi hz0 hz1 hz2 rfl (by decide) _ (n + k) _ rfl (hO.out.alloc _) _ 1 1 _ rfl (some_none _) rfl (one_new _ _ _ _) (one_int _ _) (by unfold maxLen; omega) (by omega) (by have := hB.out.size; simp; omega) ?_; intro a3 c3 w3 hown3 hb3 hnil3)
        have hv : bytesV (bs ++ List.take (k + 1) (Cod.bytesOf (bitsV v) s)) = bytesV (bs ++ List.take k (Cod.bytesOf (bitsV v) s)) ++ [Value.int .u8 ((bitsV v : Int) / 2 ^ (8 * (s - 1 - k)) % 256)] := by
          rw [HT.out, HBY.out, ← List.append_assoc, ← bytesV_append]; rfl
        go_roundw
        case rel => exact ⟨k + 1, a3, c3, by omega, by go_num, rfl, by rw [hv]; exact hown3, hB.out.trans ((below_one _ _).mono hB.out.size |>.trans hb3)⟩
        case measure => simp [intOf]; omega
      · have hks : k = s := by omega
        have hfin : bs ++ (Cod.bytesOf (bitsV v) s).take k = bs ++ Cod.bytesOf (bitsV v) s := by rw [List.take_of_length_le (by rw [Cod.bytesOf_length, hks]; exact Nat.le_refl _)]
        have hlen : (bs ++ Cod.bytesOf (bitsV v) s).length = n + k := by rw [List.length_append, HL.out, Cod.bytesOf_length, hks]
        have hO2 := hO.out
        rw [hfin] at hO2
        have HO2 := Lib.hid hO2; have HLL := Lib.hid hlen
        clear hks hfin hlen hO2
        go_wp2
        go_ret
        rw [hs]
        exact ⟨a2, c2, by rw [HLL.out]; rfl, by rw [HLL.out]; exact HO2.out, hB.out, by rw [HLL.out]; exact (owns_none HO2.out).1⟩
end Go.Proofs.Ythboiklcjpnhbaa
/- contracts of the reference's code: bytes laid -/
namespace Go.Proofs.Ythboiklcjpnhbaa
open Go.RowKit
set_option linter.unusedVariables false
set_option maxRecDepth 20000
set_option maxHeartbeats 800000 in
theorem rput_any (a : Option Addr) (n cap : Nat) (bs : List Nat) (v size : Int) (w : World) (h : HoldsB w a n bs) (hnil : a = none → n = 0 ∧ cap = 0) (hn : n ≤ 524288) :
    Calls Try.prog 37 #[.slice a n cap, .int .i64 v, .int .i64 size] w (RetB 5 w (bs ++ Cod.bytesOf (bitsV v) (sizeV size))) := by
  obtain ⟨i0, hi, hz0, hz1, hz2⟩ := info_parts u8_info
  have HN := Lib.hid hnil; have H := Lib.hid h; have HL := Lib.hid h.len; have HV := Lib.hid h.values
  have hb := bitsV_eq v
  clear h hnil
  obtain ⟨s, hs⟩ : ∃ s : Nat, sizeV size = s := ⟨_, rfl⟩
  have hs8 : s ≤ 8 := by unfold sizeV at hs; omega
  have HS := Lib.hid hs
  clear hs
  go_enter Try.func37, Try.ntmps37
  go_upto_region 3 with (at_builtin; refine wpList_append_any rfl (.const (.slice none 0 0)) (.tmp 10) 39 rfl w.heap.size 5 i0 (.int .u8 0) 1 1 Try.underlying39 hi hz0 hz1 hz2 rfl (by decide) _ 0 [] rfl (World.ownsRow_nil _ _ _ _) a n cap (bytesV bs) rfl HN.out (by simpa using HV.out.1) (HV.out.cells (World.grownBy.refl _ _)) (bytesV_one bs) (by unfold maxLen; omega) (by omega) (Nat.le_refl _) ?_; intro a1 c1 w1 hown1 hb1 hnil1; simp only [Nat.zero_add, List.nil_append] at hown1)
  have O1 := Lib.hid hown1; have B1 := Lib.hid hb1
  clear hown1 hb1 hnil1
  go_cut [9] (fun x wx => x = .int .i64 ((s : Int) - 1) ∧ w1 = wx)
  case first =>
    go_wp2_with fail
    all_goals go_meet
    all_goals exact ⟨by congr 1; have hs := HS.out; unfold sizeV at hs; omega, rfl⟩
  case rest =>
    obtain ⟨rfl, rfl⟩ := hcut
    go_wp2_with fail
    go_loopw [7, 9] (fun x i wr => ∃ (k : Nat) (a2 : Option Addr) (c2 : Nat), k ≤ s ∧ i = .int .i64 ((s : Int) - 1 - k) ∧ x = .slice a2 (n + k) c2 ∧ Hid (wr.ownsRow w.heap.size 5 1 (.slice a2 (n + k) c2) (n + k) (bytesV (bs ++ (Cod.bytesOf (bitsV v) s).take k))) ∧ Hid (Below w.heap.size w wr)) (fun _ i _ => (intOf i + 1).toNat)
    case atStart => exact ⟨0, a1, c1, by omega, by congr 1; omega, by rw [Nat.add_zero], by rw [List.take_zero, List.append_nil, Nat.add_zero]; exact O1, B1⟩
    case round =>
      obtain ⟨k, a2, c2, hk, rfl, rfl, hO, hB⟩ := hrel
      by_cases hlt : k < s
      · have ht := Cod.bytesOf_take (bitsV v) s k hlt
        have hby := byte_at (bitsV v) (s - 1 - k)
        have HT := Lib.hid ht; have HBY := Lib.hid hby
        clear ht hby
        have q1 : (8 * ((s : Int) - 1 - (k : Int))).toNat = 8 * (s - 1 - k) := by omega
        go_wp2_with (at_builtin; refine wpList_append_any rfl (.tmp 22) (.tmp 28) 39 rfl w.heap.size 5 i0 (.int .u8 0) 1 1 Try.underlying39 hi hz0 hz1 hz2 rfl (by decide) _ (n + k) _ rfl (hO.out.alloc _) _ 1 1 _ rfl (some_none _) rfl (one_new _ _ _ _) (one_int _ _) (by unfold maxLen; omega) (by omega) (by have := hB.out.size; simp; omega) ?_; intro a3 c3 w3 hown3 hb3 hnil3)
        have hv : bytesV (bs ++ List.take (k + 1) (Cod.bytesOf (bitsV v) s)) = bytesV (bs ++ List.take k (Cod.bytesOf (bitsV v) s)) ++ [Value.int .u8 ((bitsV v : Int) / 2 ^ (8 * (s - 1 - k)) % 256)] := by
          rw [HT.out, HBY.out, ← List.append_assoc, ← bytesV_append]; rfl
        go_roundw
        case rel => exact ⟨k + 1, a3, c3, by omega, by congr 1; omega, rfl, by rw [hv]; exact hown3, hB.out.trans ((below_one _ _).mono hB.out.size |>.trans hb3)⟩
        case measure => simp [intOf]; omega
      · have hks : k = s := by omega
        have hfin : bs ++ (Cod.bytesOf (bitsV v) s).take k = bs ++ Cod.bytesOf (bitsV v) s := by rw [List.take_of_length_le (by rw [Cod.bytesOf_length, hks]; exact Nat.le_refl _)]
        have hlen : (bs ++ Cod.bytesOf (bitsV v) s).length = n + k := by rw [List.length_append, HL.out, Cod.bytesOf_length, hks]
        have hO2 := hO.out
        rw [hfin] at hO2
        have HO2 := Lib.hid hO2; have HLL := Lib.hid hlen
        clear hks hfin hlen hO2
        go_wp2
        go_ret
        rw [HS.out]
        exact ⟨a2, c2, by rw [HLL.out]; rfl, by rw [HLL.out]; exact HO2.out, hB.out, by rw [HLL.out]; exact (owns_none HO2.out).1⟩
end Go.Proofs.Ythboiklcjpnhbaa
/- A string's bytes; a string appended to a slice of bytes. -/
namespace Go.Proofs.Ythboiklcjpnhbaa
open Go.ChangeShapes Go.WideShapes Go.ChangeAt Go.RowKit
set_option linter.unusedVariables false
set_option maxRecDepth 20000
def strB (s : ByteArray) : List Nat := s.data.toList.map UInt8.toNat
theorem strB_length (s : ByteArray) : (strB s).length = s.size := by rw [strB, List.length_map, Array.length_toList]; rfl
theorem strB_lt (s : ByteArray) : ∀ b ∈ strB s, b < 256 := by
  intro b hb
  obtain ⟨x, _, rfl⟩ := List.mem_map.1 hb
  exact x.toNat_lt
theorem strCells_eq (s : ByteArray) : Lib.strCells s = bytesV (strB s) := by
  simp [Lib.strCells, bytesV, strB, List.map_map]
theorem below_bytesWorld (w : World) (e : TypeId) (s : ByteArray) : Below w.heap.size w (Lib.bytesWorld w e s) :=
  ⟨rfl, rfl, rfl, by rw [Lib.bytesWorld_size]; omega, fun k hk => Lib.bytesWorld_at_old w e s k hk⟩
theorem strB_getD (s : ByteArray) (j : Nat) : (strB s).getD j 0 = (s.data.toList.getD j 0).toNat := by
  simp only [strB, List.getD_eq_getElem?_getD, List.getElem?_map]
  cases s.data.toList[j]? <;> rfl
theorem holdsB_bytesWorld (w : World) (e : TypeId) (s : ByteArray) : HoldsB (Lib.bytesWorld w e s) (some ⟨w.heap.size, 0, none⟩) s.size (strB s) :=
  ⟨⟨by rw [List.length_map, strB_length], fun _ => ⟨_, _, rfl, fun i hi => by rw [Nat.zero_add, Lib.bytesWorld_cell w e s i hi, getD_map_cast, strB_getD]⟩⟩, strB_lt s⟩
theorem wpList_append_str {P : Program} {w : World} {ops : Array Oper} {rest : List Oper} {o : Oper} {a : Act} {Q : Exit → Act → World → Prop} (hgd : o.guard = none) (s x : Operand) (t u : TypeId)
    (ho : o.op = .call { callee := .builtin .append, args := #[s, x], argTypes := #[t, u] })
    (base : Nat) (e : TypeId) (i : TypeInfo) (ht : P.underlying t = some (.slice e)) (hu : P.underlying u = some .string) (hi : P.info? e = some i) (hz : i.zero = some (.int .u8 0)) (hsize : i.size = 1) (hby : i.bytes = 1)
    (v : Value) (n : Nat) (bs : List Nat) (hs : a.eval s = v) (hown : w.ownsRow base e 1 v n (bytesV bs))
    (str : ByteArray) (hx : a.eval x = .string str)
    (h63 : n + str.size ≤ maxLen) (hbytes : n + str.size ≤ 140737488355328) (hbase : base ≤ w.heap.size)
    (h : ∀ a' c' w', w'.ownsRow base e 1 (.slice a' (n + str.size) c') (n + str.size) (bytesV (bs ++ strB str)) → Below base w w' → wpList P ops Q rest (a.put o.dst (.slice a' (n + str.size) c')) w') : wpList P ops Q (o :: rest) a w := by
  refine Lib.wpList_append_own_string w hgd s x t u ho base e i ht hu hi hz hsize hby v n (bytesV bs) hs hown str hx h63 hbytes hbase fun v' w' h2 h3 _ => ?_
  have hb' : Below base w w' := (Below.refl base w).grown h3 hbase fun k hk => (hown.lt k hk).1
  rw [strCells_eq, bytesV_append] at h2
  rcases Joins.ownsRow_forms h2 with ⟨rfl, h0⟩ | ⟨g, cap, rfl⟩
  · have := h none 0 w' (by rw [h0] at h2 ⊢; exact h2) hb'
    rw [h0] at this
    exact this
  · exact h _ _ w' h2 hb'
end Go.Proofs.Ythboiklcjpnhbaa
/- contracts of code and of its reference: a text laid behind bytes -/
namespace Go.Proofs.Ythboiklcjpnhbaa
open Go.RowKit
set_option linter.unusedVariables false
set_option maxRecDepth 20000
/-- what of a text is laid -/
def cutS (s : ByteArray) : ByteArray := s.extract 0 (min s.size 65535)
theorem cutS_size (s : ByteArray) : (cutS s).size = min s.size 65535 := by simp [cutS, ByteArray.size_extract]
theorem cutS_small (s : ByteArray) (h : s.size ≤ 65535) : cutS s = s := by
  unfold cutS; rw [Nat.min_eq_left h, ByteArray.extract_zero_size]
theorem cutS_great (s : ByteArray) (h : 65535 < s.size) : cutS s = s.extract 0 65535 := by
  unfold cutS; rw [Nat.min_eq_right (by omega)]
def putTextV (bs : List Nat) (s : ByteArray) : List Nat := bs ++ Cod.bytesOf (cutS s).size 2 ++ strB (cutS s)
theorem bitsV_nat (n : Nat) (h : n < 18446744073709551616) : bitsV (n : Int) = n := by
  unfold bitsV; simp only [IntKind.wrap, IntKind.signed, IntKind.bits]; simp; omega
set_option maxHeartbeats 800000 in
theorem putText_any (a : Option Addr) (n cap : Nat) (bs : List Nat) (s : ByteArray) (w : World) (h : HoldsB w a n bs) (hnil : a = none → n = 0 ∧ cap = 0) (hn : n ≤ 262144) (hs : s.size ≤ 1048576) :
    Calls Try.prog 85 #[.slice a n cap, .string s] w (RetB 5 w (putTextV bs s)) := by
  obtain ⟨i0, hi, hz0, hz1, hz2⟩ := info_parts u8_info
  have HN := Lib.hid hnil; have H := Lib.hid h; have HL := Lib.hid h.len
  clear h hnil
  have hcs := cutS_size s
  go_enter Try.func85, Try.ntmps85
  go_upto_region 1 with fail
  go_cut [1] (fun x wx => x = .string (cutS s) ∧ w = wx)
  case first =>
    by_cases h6 : s.size ≤ 65535
    · have e1 := cutS_small s h6
      have E1 := Lib.hid e1
      clear e1 hcs
      go_wp2_with fail
      all_goals go_meet
      all_goals exact ⟨by first | (rw [E1.out]; done) | (rw [E1.out, show (min (s.size : Int) 65535).toNat = s.size by omega, ByteArray.extract_zero_size]), rfl⟩
    · have e1 := cutS_great s (by omega)
      have E1 := Lib.hid e1
      clear e1 hcs
      go_wp2_with fail
      all_goals go_meet
      all_goals exact ⟨by first | (rw [E1.out]; done) | (rw [E1.out, show (min (s.size : Int) 65535).toNat = 65535 by omega]), rfl⟩
  case rest =>
    obtain ⟨rfl, rfl⟩ := hcut
    have hc6 : (cutS s).size ≤ 65535 := by omega
    obtain ⟨c, hc⟩ : ∃ c, cutS s = c := ⟨_, rfl⟩
    rw [hc] at hc6 ⊢
    have HC := Lib.hid hc
    clear hc hcs
    go_wp2_with fail
    refine (fresh_any a n cap bs _ _ H.out HN.out (by omega) (by omega) (by omega)).mono ?_
    rintro e w1 ⟨a1, c1, rfl, hown1, hb1, hnil1⟩
    rw [HL.out] at hown1 ⊢
    have O1 := Lib.hid hown1; have B1 := Lib.hid hb1
    clear hown1 hb1 hnil1
    go_wp2_with fail
    refine (put_any none 0 0 [] (c.size : Int) 2 _ (holdsB_nil _ _) (fun _ => ⟨rfl, rfl⟩) (by omega)).mono ?_
    rintro e w2 ⟨a2, c2, rfl, hown2, hb2, hnil2⟩
    rw [bitsV_nat c.size (by omega)] at hown2 hnil2 ⊢
    have e2 : ([] ++ Cod.bytesOf c.size (sizeV 2) : List Nat) = Cod.bytesOf c.size 2 := rfl
    have e3 : (Cod.bytesOf c.size 2).length = 2 := Cod.bytesOf_length _ _
    rw [e2, e3] at hown2 ⊢
    have hv2 := owns_holds hown2
    have hn2 := (owns_none hown2).1
    have hk1 : w2.ownsRow w.heap.size 5 1 (.slice a1 n c1) n (bytesV bs) := owns_below O1.out hb2
    have V2 := Lib.hid hv2; have N2 := Lib.hid hn2; have K1 := Lib.hid hk1; have B2 := Lib.hid (B1.out.trans (hb2.mono B1.out.size)); have E3 := Lib.hid e3
    clear hown2 hb2 hnil2 hv2 hn2 hk1 e2 e3
    go_wp2_with (first | (at_builtin; refine wpList_append_any rfl (.tmp 16) (.tmp 19) 39 rfl w.heap.size 5 i0 (.int .u8 0) 1 1 Try.underlying39 hi hz0 hz1 hz2 rfl (by decide) _ n (bytesV bs) rfl K1.out a2 2 c2 (bytesV (Cod.bytesOf c.size 2)) rfl N2.out (by rw [bytesV_length, E3.out]) (V2.out.cells (World.grownBy.refl _ _)) (bytesV_one _) (by unfold maxLen; omega) (by omega) B2.out.size ?_; intro a3 c3 w3 hown3 hb3 hnil3; rw [bytesV_append] at hown3) | (at_builtin; refine wpList_append_str rfl (.tmp 21) (.tmp 22) 39 9 rfl w.heap.size 5 i0 Try.underlying39 Try.underlying9 hi hz0 hz1 hz2 _ (n + 2) _ rfl hown3 c rfl (by unfold maxLen; omega) (by omega) (B2.out.trans hb3).size ?_; intro a4 c4 w4 hown4 hb4))
    go_ret
    unfold putTextV
    rw [HC.out]
    have hL : (bs ++ Cod.bytesOf c.size 2 ++ strB c).length = n + 2 + c.size := by rw [List.length_append, List.length_append, HL.out, Cod.bytesOf_length, strB_length]
    refine ⟨a4, c4, by rw [hL]; rfl, by rw [hL]; exact hown4, (B2.out.trans hb3).trans hb4, by rw [hL]; exact (owns_none hown4).1⟩
end Go.Proofs.Ythboiklcjpnhbaa
/- The arithmetic of a checksum, on natural numbers: no program is looked at. -/
namespace Go.Proofs.Ythboiklcjpnhbaa
namespace Crc
def poly : Nat := 3988292384
/-- one bit is shifted out -/
def st (r : Nat) : Nat := if r % 2 = 1 then r / 2 ^^^ poly else r / 2
def stN : Nat → Nat → Nat
  | 0, r => r
  | k + 1, r => st (stN k r)
def byteStep (r b : Nat) : Nat := stN 8 (r ^^^ b)
def reg (r : Nat) (bs : List Nat) : Nat := bs.foldl byteStep r
def add (c : Nat) (bs : List Nat) : Nat := 4294967295 - reg (4294967295 - c) bs
def sum (bs : List Nat) : Nat := add 0 bs

theorem poly_lt : poly < 4294967296 := by decide
theorem xor_lt32 {a b : Nat} (ha : a < 4294967296) (hb : b < 4294967296) : a ^^^ b < 4294967296 := Nat.xor_lt_two_pow (n := 32) ha hb
theorem st_lt {r : Nat} (h : r < 4294967296) : st r < 4294967296 := by
  unfold st; split
  · exact xor_lt32 (by omega) poly_lt
  · omega
theorem stN_lt {r : Nat} (h : r < 4294967296) (k : Nat) : stN k r < 4294967296 := by
  induction k with
  | zero => exact h
  | succ k ih => exact st_lt ih
theorem byteStep_lt {r b : Nat} (h : r < 4294967296) (hb : b < 256) : byteStep r b < 4294967296 := stN_lt (xor_lt32 h (by omega)) 8
theorem reg_lt (bs : List Nat) (hb : ∀ b ∈ bs, b < 256) : ∀ r, r < 4294967296 → reg r bs < 4294967296 := by
  induction bs with
  | nil => intro r h; exact h
  | cons b bs ih => intro r h; exact ih (fun x hx => hb x (by simp [hx])) _ (byteStep_lt h (hb b (by simp)))
theorem reg_append (r : Nat) (a b : List Nat) : reg r (a ++ b) = reg (reg r a) b := by simp [reg, List.foldl_append]
theorem add_lt (c : Nat) (bs : List Nat) : add c bs < 4294967296 := by unfold add; omega
theorem add_append (c : Nat) (a b : List Nat) (hc : c < 4294967296) (ha : ∀ x ∈ a, x < 256) : add (add c a) b = add c (a ++ b) := by
  have h := reg_lt a ha (4294967295 - c) (by omega)
  unfold add
  rw [reg_append, show 4294967295 - (4294967295 - reg (4294967295 - c) a) = reg (4294967295 - c) a by omega]
theorem sum_append (a b : List Nat) (ha : ∀ x ∈ a, x < 256) : add (sum a) b = sum (a ++ b) := add_append 0 a b (by decide) ha

theorem xor_half (a b : Nat) : (a ^^^ b) / 2 = a / 2 ^^^ b / 2 := by
  have := @Nat.shiftRight_xor_distrib 1 a b
  simpa [Nat.shiftRight_eq_div_pow] using this
theorem xor_par (a b : Nat) : (a ^^^ b) % 2 = (a % 2 + b % 2) % 2 := by
  have := @Nat.xor_mod_two_pow a b 1
  rw [show 2 ^ 1 = 2 from rfl] at this
  rw [this]
  rcases Nat.mod_two_eq_zero_or_one a with h | h <;> rcases Nat.mod_two_eq_zero_or_one b with h' | h' <;> rw [h, h'] <;> decide
/-- the other way: bit by bit, the byte's bit beside the register's -/
def rst (c bit : Nat) : Nat := if c % 2 ≠ bit then c / 2 ^^^ poly else c / 2
def rstN (c b : Nat) : Nat → Nat
  | 0 => c
  | k + 1 => rst (rstN c b k) (b / 2 ^ k % 2)
theorem rstN_eq (c b k : Nat) : rstN c b k = stN k (c ^^^ b) ^^^ (b / 2 ^ k) := by
  induction k with
  | zero => simp only [rstN, stN, Nat.pow_zero, Nat.div_one]; rw [Nat.xor_assoc, Nat.xor_self, Nat.xor_zero]
  | succ k ih =>
    simp only [rstN, stN]
    rw [ih]
    generalize stN k (c ^^^ b) = R
    have hp : b / 2 ^ (k + 1) = b / 2 ^ k / 2 := by rw [Nat.pow_succ, Nat.div_div_eq_div_mul]
    rw [hp]
    generalize b / 2 ^ k = B
    unfold rst st
    rw [xor_par, xor_half]
    rcases Nat.mod_two_eq_zero_or_one R with h | h <;> rcases Nat.mod_two_eq_zero_or_one B with h' | h' <;> rw [h, h'] <;> simp
    · rw [Nat.xor_assoc, Nat.xor_assoc, Nat.xor_comm (B / 2)]
    · rw [Nat.xor_assoc, Nat.xor_assoc, Nat.xor_comm (B / 2)]
theorem rstN_8 (c b : Nat) (hb : b < 256) : rstN c b 8 = byteStep c b := by
  rw [rstN_eq, show b / 2 ^ 8 = 0 by rw [Nat.div_eq_of_lt]; omega, Nat.xor_zero]; rfl
theorem rstN_lt {c : Nat} (h : c < 4294967296) {b : Nat} (hb : b < 256) (k : Nat) : rstN c b k < 4294967296 := by
  rw [rstN_eq]
  exact xor_lt32 (stN_lt (xor_lt32 h (by omega)) k) (Nat.lt_of_le_of_lt (Nat.div_le_self _ _) (by omega))

/-! up to four bytes that lie together are other ones -/
theorem st_xor (a b : Nat) : st (a ^^^ b) = st a ^^^ st b := by
  unfold st
  rw [xor_par, xor_half]
  rcases Nat.mod_two_eq_zero_or_one a with h | h <;> rcases Nat.mod_two_eq_zero_or_one b with h' | h' <;> rw [h, h'] <;> simp
  · rw [Nat.xor_assoc]
  · rw [Nat.xor_assoc, Nat.xor_assoc, Nat.xor_comm (b / 2)]
  · rw [← Nat.xor_assoc, Nat.xor_assoc (a / 2), Nat.xor_comm poly, ← Nat.xor_assoc (a / 2), Nat.xor_assoc (a / 2 ^^^ b / 2), Nat.xor_self, Nat.xor_zero]
theorem stN_xor (k a b : Nat) : stN k (a ^^^ b) = stN k a ^^^ stN k b := by
  induction k with
  | zero => rfl
  | succ k ih => simp only [stN]; rw [ih, st_xor]
theorem stN_add (j k r : Nat) : stN (j + k) r = stN k (stN j r) := by
  induction k with
  | zero => rfl
  | succ k ih => show st (stN (j + k) r) = st (stN k (stN j r)); rw [ih]
/-- nothing but 0 is shifted to 0 -/
theorem st_zero {r : Nat} (h : r < 4294967296) (h0 : st r = 0) : r = 0 := by
  unfold st at h0
  split at h0
  · have h1 : r / 2 = poly := by
      have h2 : (r / 2 ^^^ poly) ^^^ poly = 0 ^^^ poly := by rw [h0]
      rwa [Nat.xor_assoc, Nat.xor_self, Nat.xor_zero, Nat.zero_xor] at h2
    unfold poly at h1; omega
  · omega
theorem stN_zero (k : Nat) : ∀ {r : Nat}, r < 4294967296 → stN k r = 0 → r = 0 := by
  induction k with
  | zero => intro r _ h; exact h
  | succ k ih => intro r hr h; exact ih hr (st_zero (stN_lt hr k) h)
theorem eq_of_xor {a b : Nat} (h : a ^^^ b = 0) : a = b := by
  have h2 : (a ^^^ b) ^^^ b = 0 ^^^ b := by rw [h]
  rwa [Nat.xor_assoc, Nat.xor_self, Nat.xor_zero, Nat.zero_xor] at h2
theorem stN_inj {k a b : Nat} (ha : a < 4294967296) (hb : b < 4294967296) (h : stN k a = stN k b) : a = b :=
  eq_of_xor (stN_zero k (xor_lt32 ha hb) (by rw [stN_xor, h, Nat.xor_self]))
theorem byteStep_inj {a b c : Nat} (ha : a < 4294967296) (hb : b < 4294967296) (hc : c < 256) (h : byteStep a c = byteStep b c) : a = b := by
  have h1 := stN_inj (xor_lt32 ha (by omega)) (xor_lt32 hb (by omega)) h
  have h2 : (a ^^^ c) ^^^ c = (b ^^^ c) ^^^ c := by rw [h1]
  rwa [Nat.xor_assoc, Nat.xor_self, Nat.xor_zero, Nat.xor_assoc, Nat.xor_self, Nat.xor_zero] at h2
theorem reg_inj (bs : List Nat) (hb : ∀ b ∈ bs, b < 256) : ∀ {a c : Nat}, a < 4294967296 → c < 4294967296 → reg a bs = reg c bs → a = c := by
  induction bs with
  | nil => intro a c _ _ h; exact h
  | cons b bs ih =>
    intro a c ha hc h
    have hb1 := hb b (by simp)
    exact byteStep_inj ha hc hb1 (ih (fun x hx => hb x (by simp [hx])) (byteStep_lt ha hb1) (byteStep_lt hc hb1) h)
/-- shifting a number that ends in eight 0 bits only moves it -/
theorem st_even (r : Nat) : st (2 * r) = r := by
  unfold st; rw [if_neg (by omega)]; omega
theorem stN_pow (k r : Nat) : stN k (2 ^ k * r) = r := by
  induction k generalizing r with
  | zero => simp [stN]
  | succ k ih =>
    show st (stN k (2 ^ (k + 1) * r)) = r
    rw [show 2 ^ (k + 1) * r = 2 ^ k * (2 * r) by rw [Nat.pow_succ, Nat.mul_assoc], ih, st_even]
/-- four bytes' step is 32 shifts of the register, the bytes laid upon it -/
theorem reg4 (r b0 b1 b2 b3 : Nat) : reg r [b0, b1, b2, b3] = stN 32 (r ^^^ b0 ^^^ (2 ^ 8 * b1) ^^^ (2 ^ 16 * b2) ^^^ (2 ^ 24 * b3)) := by
  show stN 8 (stN 8 (stN 8 (stN 8 (r ^^^ b0) ^^^ b1) ^^^ b2) ^^^ b3) = _
  rw [show stN 8 (r ^^^ b0) ^^^ b1 = stN 8 (r ^^^ b0 ^^^ 2 ^ 8 * b1) by rw [stN_xor 8 (r ^^^ b0), stN_pow]]
  rw [← stN_add, show stN (8 + 8) (r ^^^ b0 ^^^ 2 ^ 8 * b1) ^^^ b2 = stN 16 (r ^^^ b0 ^^^ 2 ^ 8 * b1 ^^^ 2 ^ 16 * b2) by rw [stN_xor 16 (r ^^^ b0 ^^^ 2 ^ 8 * b1), stN_pow]]
  rw [← stN_add, show stN (16 + 8) (r ^^^ b0 ^^^ 2 ^ 8 * b1 ^^^ 2 ^ 16 * b2) ^^^ b3 = stN 24 (r ^^^ b0 ^^^ 2 ^ 8 * b1 ^^^ 2 ^ 16 * b2 ^^^ 2 ^ 24 * b3) by rw [stN_xor 24 (r ^^^ b0 ^^^ 2 ^ 8 * b1 ^^^ 2 ^ 16 * b2), stN_pow]]
  rw [← stN_add]
end Crc
end Go.Proofs.Ythboiklcjpnhbaa
/- sum's contracts, beside Hb: what each function computes, of any bytes -/
namespace Go.Proofs.Ythboiklcjpnhbaa
open Go.RowKit
set_option linter.unusedVariables false
set_option maxRecDepth 20000
theorem and_one (n : Nat) (h : n < 4294967296) : bits BinOp.and IntKind.u32 (n : Int) 1 = ((n % 2 : Nat) : Int) := by
  have := u32_and_nat n 1 h (by decide)
  rw [nat_mask1] at this
  exact this
theorem xor_poly (n : Nat) (h : n < 4294967296) : bits BinOp.xor IntKind.u32 ((n : Int) / 2) 3988292384 = ((n / 2 ^^^ Crc.poly : Nat) : Int) := by
  have := u32_xor_nat (n / 2) 3988292384 (by omega) (by decide)
  rw [show (n : Int) / 2 = ((n / 2 : Nat) : Int) by omega]
  exact this

set_option maxHeartbeats 400000 in
theorem sumShift_any (r : Nat) (h1 : r < 4294967296) (w : World) :
    Calls Try.prog 103 #[.int .u32 r] w fun e w' => e = .returned (.int .u32 (Crc.stN 8 r)) ∧ w = w' := by
  go_enter Try.func103, Try.ntmps103
  go_wp2
  go_loop [0, 3, 4] (fun x _ i => ∃ k : Nat, k ≤ 8 ∧ i = .int .i64 k ∧ x = .int .u32 (Crc.stN k r)) (fun _ _ i => 8 - (intOf i).toNat)
  case atStart => exact ⟨0, by omega, rfl, rfl⟩
  case round =>
    obtain ⟨k, hk, rfl, rfl⟩ := hrel
    by_cases hlt : k < 8
    · have hy := Crc.stN_lt h1 k
      have hs : Crc.stN (k + 1) r = Crc.st (Crc.stN k r) := rfl
      have HS := Lib.hid hs
      clear hs
      obtain ⟨y, hyy⟩ : ∃ y, Crc.stN k r = y := ⟨_, rfl⟩
      rw [hyy] at hy HS ⊢
      clear hyy
      rcases Nat.mod_two_eq_zero_or_one y with h | h
      · have ht : (bits BinOp.and IntKind.u32 (y : Int) 1 == 1) = false := by rw [and_one y hy, h]; rfl
        go_wp2
        go_round
        case rel => exact ⟨k + 1, by omega, by go_num, by rw [HS.out, Crc.st, if_neg (by omega)]; go_num⟩
        case measure => simp [intOf]; omega
      · have ht : (bits BinOp.and IntKind.u32 (y : Int) 1 == 1) = true := by rw [and_one y hy, h]; rfl
        go_wp2
        go_round
        case rel => exact ⟨k + 1, by omega, by go_num, by rw [HS.out, Crc.st, if_pos h, xor_poly y hy]⟩
        case measure => simp [intOf]; omega
    · obtain rfl : k = 8 := by omega
      go_wp2
      go_ret
      exact ⟨rfl, rfl⟩
theorem nat_flip (c : Nat) (h : c < 4294967296) : 4294967295 ^^^ c = 4294967295 - c := by
  apply Nat.eq_of_testBit_eq
  intro i
  rw [Nat.testBit_xor, show 4294967295 - c = 2 ^ 32 - (c + 1) by omega, Nat.testBit_two_pow_sub_succ (by omega), show 4294967295 = 2 ^ 32 - 1 by decide, Nat.testBit_two_pow_sub_one]
  by_cases hi : i < 32
  · simp [hi]
  · have : c.testBit i = false := Nat.testBit_lt_two_pow (Nat.lt_of_lt_of_le h (Nat.pow_le_pow_right (n := 2) (by decide) (show 32 ≤ i by omega)))
    simp [hi, this]
theorem flip_u32 (c : Nat) (h : c < 4294967296) : bits BinOp.xor IntKind.u32 IntKind.u32.max (c : Int) = ((4294967295 - c : Nat) : Int) := by
  have := u32_xor_nat 4294967295 c (by decide) h
  rw [nat_flip c h] at this
  exact this
theorem xor_byte (r b : Nat) (h : r < 4294967296) (hb : b < 256) : bits BinOp.xor IntKind.u32 (r : Int) (b : Int) = ((r ^^^ b : Nat) : Int) := u32_xor_nat r b h (by omega)

set_option maxHeartbeats 400000 in
theorem sumAdd_any (c : Nat) (hc : c < 4294967296) (a : Option Addr) (n cap : Nat) (bs : List Nat) (w : World) (h : HoldsB w a n bs) (hn : n ≤ 4611686018427387904) :
    Calls Try.prog 94 #[.int .u32 c, .slice a n cap] w fun e w' => e = .returned (.int .u32 (Crc.add c bs)) ∧ w = w' := by
  have hl := h.len
  have hb := h.2
  have hfl := flip_u32 c hc
  rcases Nat.eq_zero_or_pos n with h0 | h0
  · subst h0
    obtain rfl := List.eq_nil_of_length_eq_zero hl
    clear h hl hb hn
    go_enter Try.func94, Try.ntmps94
    go_wp2
    go_loop [5, 12] (fun x i => i = .int .i64 0 ∧ x = .int .u32 ((4294967295 - c : Nat) : Int)) (fun _ _ => 0)
    case atStart => exact ⟨rfl, rfl⟩
    case round =>
      obtain ⟨rfl, rfl⟩ := hrel
      have hf2 := flip_u32 (4294967295 - c) (by omega)
      go_wp2
      go_ret
      exact ⟨ret_int (by first | exact hf2 | rfl), rfl⟩
  · obtain ⟨b, o, rfl, hcell⟩ := h.at h0
    have HC := Lib.hid hcell; have HL := Lib.hid hl; have HB := Lib.hid hb
    clear hcell hl hb h
    go_enter Try.func94, Try.ntmps94
    go_wp2
    go_loop [5, 12] (fun x i => ∃ k : Nat, k ≤ n ∧ i = .int .i64 k ∧ x = .int .u32 (Crc.reg (4294967295 - c) (bs.take k) : Nat)) (fun _ i => n - (intOf i).toNat)
    case atStart => exact ⟨0, by omega, rfl, rfl⟩
    case round =>
      obtain ⟨k, hk, rfl, rfl⟩ := hrel
      clear hfl
      have hr := Crc.reg_lt (bs.take k) (fun x hx => HB.out x (List.mem_of_mem_take hx)) (4294967295 - c) (by omega)
      by_cases hlt : k < n
      · have e1 := HC.out k hlt
        have hx := getD_lt HB.out k
        have hts := take_succ_getD bs 0 k (by rw [HL.out]; exact hlt)
        have hs : Crc.reg (4294967295 - c) (bs.take (k + 1)) = Crc.stN 8 (Crc.reg (4294967295 - c) (bs.take k) ^^^ bs.getD k 0) := by rw [hts, Crc.reg_append]; rfl
        have HS := Lib.hid hs
        clear hs hts
        obtain ⟨x, hx1⟩ : ∃ x, bs.getD k 0 = x := ⟨_, rfl⟩
        obtain ⟨r, hr1⟩ : ∃ r, Crc.reg (4294967295 - c) (bs.take k) = r := ⟨_, rfl⟩
        rw [hx1] at e1 hx HS
        rw [hr1] at hr HS ⊢
        clear hx1 hr1
        have hxb := xor_byte r x hr hx
        have hlt2 := Crc.xor_lt32 hr (show x < 4294967296 by omega)
        go_wp2_with (go_at_call 103; refine (sumShift_any _ hlt2 _).mono ?_; rintro e w' ⟨rfl, rfl⟩)
        go_round
        case rel => exact ⟨k + 1, by omega, by go_num, by rw [HS.out]⟩
        case measure => simp [intOf]; omega
      · have hkn : k = n := by omega
        have HK := Lib.hid hkn
        have hf2 := flip_u32 _ hr
        have HF := Lib.hid hf2
        clear hkn hf2
        go_wp2
        go_ret
        exact ⟨ret_int (by rw [HF.out, List.take_of_length_le (by rw [HL.out, HK.out]; exact Nat.le_refl _)]; rfl), rfl⟩
theorem sumOf_any (a : Option Addr) (n cap : Nat) (bs : List Nat) (w : World) (h : HoldsB w a n bs) (hn : n ≤ 4611686018427387904) :
    Calls Try.prog 73 #[.slice a n cap] w fun e w' => e = .returned (.int .u32 (Crc.sum bs)) ∧ w = w' := by
  go_enter Try.func73, Try.ntmps73
  go_wp2_with fail
  refine (sumAdd_any 0 (by decide) a n cap bs _ h hn).mono ?_
  rintro e w' ⟨rfl, rfl⟩
  go_wp2_with fail
  go_ret
  exact ⟨rfl, rfl⟩
end Go.Proofs.Ythboiklcjpnhbaa
/- pack: what an image is; Seal, magic, finalByte -/
namespace Go.Proofs.Ythboiklcjpnhbaa
open Go.RowKit
set_option linter.unusedVariables false
set_option maxRecDepth 20000
/-- bytes with their sum behind -/
def sealB (bs : List Nat) : List Nat := bs ++ Cod.bytesOf (Crc.sum bs) 4
theorem bits_nat9 (n : Nat) (h : n < 18446744073709551616) : bitsV (n : Int) = n := by
  have := u64_bd (n : Int)
  unfold bitsV
  rw [show IntKind.u64.wrap (n : Int) = (n : Int) by simp only [IntKind.wrap, IntKind.signed, IntKind.bits]; simp; omega]
  omega
theorem sum_lt9 (bs : List Nat) : Crc.sum bs < 4294967296 := Crc.add_lt 0 bs
theorem sealB_len (bs : List Nat) : (sealB bs).length = bs.length + 4 := by rw [sealB, List.length_append, Cod.bytesOf_length]
theorem sealB_lt (bs : List Nat) (h : ∀ b ∈ bs, b < 256) : ∀ b ∈ sealB bs, b < 256 := fun b hb => by
  rcases List.mem_append.1 hb with hb | hb
  · exact h b hb
  · exact Cod.bytesOf_lt _ _ b hb
theorem wSeal_any (a : Option Addr) (n cap : Nat) (bs : List Nat) (w : World) (h : HoldsB w a n bs) (hnil : a = none → n = 0 ∧ cap = 0) (hn : n ≤ 524288) :
    Calls Try.prog 65 #[.slice a n cap] w (RetB 5 w (sealB bs)) := by
  have CS := Lib.hid (sumOf_any a n cap bs w h (by omega))
  obtain ⟨c, hc⟩ : ∃ c, Crc.sum bs = c := ⟨_, rfl⟩
  have hc32 : c < 4294967296 := by rw [← hc]; exact sum_lt9 bs
  have CP := Lib.hid (put_any a n cap bs (c : Int) 4 w h hnil hn)
  rw [bits_nat9 c (by omega), show sizeV 4 = 4 from rfl] at CP
  unfold sealB
  rw [hc] at CS ⊢
  obtain ⟨o, ho⟩ : ∃ o, bs ++ Cod.bytesOf c 4 = o := ⟨_, rfl⟩
  rw [ho] at CP ⊢
  clear h hnil hc ho
  go_enter Try.func65, Try.ntmps65
  go_wp2_with fail
  with_reducible refine CS.out.mono ?_
  rintro e w' ⟨rfl, rfl⟩
  go_wp2_with fail
  with_reducible refine CP.out.mono ?_
  rintro e w' ⟨a2, c2, rfl, h1, h2, h3⟩
  have O := Lib.hid h1; have B := Lib.hid h2; have N := Lib.hid h3
  clear h1 h2 h3 CS CP
  go_wp2_with fail
  go_ret
  exact ⟨a2, c2, rfl, O.out, B.out, N.out⟩
/-- bytes of the call's own that grow -/
def OB (w0 : World) (bs : List Nat) (a : Option Addr) (c : Nat) (w : World) : Prop := w.ownsRow w0.heap.size 5 1 (.slice a bs.length c) bs.length (bytesV bs) ∧ Below w0.heap.size w0 w
theorem OB.more {w0 w w' : World} {bs : List Nat} {a : Option Addr} {c : Nat} (h : OB w0 bs a c w) (hb : Below w.heap.size w w') : OB w0 bs a c w' := ⟨owns_below h.1 hb, h.2.trans (hb.mono h.2.size)⟩
end Go.Proofs.Ythboiklcjpnhbaa
/- msg: fields and frames (by gen/ma3.py) -/
namespace Go.Proofs.Ythboiklcjpnhbaa
open Go.RowKit
set_option linter.unusedVariables false
set_option maxRecDepth 20000
/-- bytes that a slice holds, whoever made them, since w0 -/
structure BB (w0 : World) (bs : List Nat) (a : Option Addr) (c : Nat) (w : World) : Prop where
  h : HoldsB w a bs.length bs
  n : a = none → bs.length = 0 ∧ c = 0
  b : Below w0.heap.size w0 w
theorem BB.more {w0 w w' : World} {bs : List Nat} {a : Option Addr} {c : Nat} (h : BB w0 bs a c w) (hb : Below w.heap.size w w') : BB w0 bs a c w' := ⟨h.h.below hb, h.n, h.b.trans (hb.mono h.b.size)⟩
theorem BB.lt {w0 w : World} {bs : List Nat} {a : Option Addr} {c : Nat} (h : BB w0 bs a c w) : ∀ b ∈ bs, b < 256 := h.h.2
def RBB (w0 w : World) (o : List Nat) (n : Nat) (e : Ending) (w' : World) : Prop := ∃ a c, e = .returned (.slice a n c) ∧ o.length = n ∧ BB w0 o a c w' ∧ Below w.heap.size w w'
theorem BB.of_ret {w0 w w' : World} {bs : List Nat} {e : Ending} {n : Nat} (hb : Below w0.heap.size w0 w) (h : RetB 5 w bs e w') (hl : ∀ b ∈ bs, b < 256) (hn : bs.length = n) : RBB w0 w bs n e w' := by
  subst hn
  obtain ⟨a, c, rfl, h1, h2, h3⟩ := h
  exact ⟨a, c, rfl, rfl, ⟨holdsB_of_values (owns_holds h1) hl, h3, hb.trans (h2.mono hb.size)⟩, h2⟩
def n4 (v : Int) : List Nat := Cod.bytesOf (bitsV v) 4
def n1 (v : Int) : List Nat := Cod.bytesOf (bitsV v) 1
def tB (s : Tx) : List Nat := Cod.bytesOf (cutS s).size 2 ++ strB (cutS s)
def fB (f : Bool) : List Nat := n1 (if f then 1 else 0)
def itB (k : KV) : List Nat := n1 k.1 ++ tB k.2
def nsB (zs : List Int) : List Nat := zs.flatMap n4
def itsB (ks : List KV) : List Nat := ks.flatMap itB
theorem n4_len (v : Int) : (n4 v).length = 4 := Cod.bytesOf_length _ _
theorem n1_len (v : Int) : (n1 v).length = 1 := Cod.bytesOf_length _ _
theorem fB_len (f : Bool) : (fB f).length = 1 := n1_len _
theorem tB_len (s : Tx) (h : s.size ≤ 65535) : (tB s).length = 2 + s.size := by
  unfold tB; rw [cutS_small s h, List.length_append, Cod.bytesOf_length, strB_length]
theorem itB_len (k : KV) (h : k.2.size ≤ 65535) : (itB k).length = 3 + k.2.size := by
  unfold itB; rw [List.length_append, n1_len, tB_len _ h]; omega
theorem nsB_len (zs : List Int) : (nsB zs).length = 4 * zs.length := by
  unfold nsB
  induction zs with
  | nil => rfl
  | cons z zs ih => rw [List.flatMap_cons, List.length_append, n4_len, ih, List.length_cons]; omega
theorem itsB_len (ks : List KV) (h : ∀ k ∈ ks, k.2.size ≤ 1100) : (itsB ks).length ≤ 1103 * ks.length := by
  unfold itsB
  induction ks with
  | nil => simp
  | cons k ks ih =>
    rw [List.flatMap_cons, List.length_append, itB_len k (by have := h k (by simp); omega), List.length_cons]
    have := ih (fun x hx => h x (by simp [hx]))
    have := h k (by simp)
    omega
theorem pput (v : Int) (s : Nat) (si : Int) (hsi : si = (s : Int)) (hs : s ≤ 8) (o : List Nat) (m : Nat) {w0 w : World} {bs : List Nat} {n : Nat} {a : Option Addr} {c : Nat} (h : BB w0 bs a c w) (hn : bs.length = n) (hl : n ≤ 524288) (ho : bs ++ Cod.bytesOf (bitsV v) s = o) (hm : n + s = m) :
    Calls Try.prog 64 #[.slice a n c, .int .i64 v, .int .i64 si] w (RBB w0 w o m) := by
  subst ho hsi hn hm
  refine (put_any a bs.length c bs v (s : Int) w h.h h.n hl).mono ?_
  rintro e w' hr
  have e1 : sizeV (s : Int) = s := by unfold sizeV; omega
  rw [e1] at hr
  exact BB.of_ret h.b hr (fun x hx => by
    rcases List.mem_append.1 hx with hx | hx
    · exact h.lt x hx
    · exact Cod.bytesOf_lt _ _ x hx) (by rw [List.length_append, Cod.bytesOf_length])
theorem tB_lt (s : Tx) : ∀ b ∈ tB s, b < 256 := fun b hb => by
  rcases List.mem_append.1 hb with hb | hb
  · exact Cod.bytesOf_lt _ _ b hb
  · exact strB_lt _ b hb
theorem ptext (s : Tx) (o : List Nat) (m : Nat) {w0 w : World} {bs : List Nat} {n : Nat} {a : Option Addr} {c : Nat} (h : BB w0 bs a c w) (hn : bs.length = n) (hl : n ≤ 262144) (hs : s.size ≤ 1100) (ho : bs ++ tB s = o) (hm : n + (2 + s.size) = m) :
    Calls Try.prog 85 #[.slice a n c, .string s] w (RBB w0 w o m) := by
  subst ho hn hm
  refine (putText_any a bs.length c bs s w h.h h.n hl (by omega)).mono ?_
  rintro e w' hr
  have e1 : putTextV bs s = bs ++ tB s := by unfold putTextV tB; rw [List.append_assoc]
  rw [e1] at hr
  exact BB.of_ret h.b hr (fun x hx => by
    rcases List.mem_append.1 hx with hx | hx
    · exact h.lt x hx
    · exact tB_lt s x hx) (by rw [List.length_append, tB_len s (by omega)])
theorem holdsI_lit (w : World) (zs : List Int) (e : TypeId) (fr : Nat × Nat) : HoldsI .i64 (w.alloc (.cells (zs.map (Value.int .i64)).toArray e fr)) (some ⟨w.heap.size, 0, none⟩) zs.length zs := by
  refine ⟨rfl, fun _ => ⟨w.heap.size, 0, rfl, fun i hi => ?_⟩⟩
  rw [Nat.zero_add, World.cell?_alloc_mark]
  simp [hi, List.getD_eq_getElem?_getD]
theorem nsB_snoc (zs : List Int) (j : Nat) (h : j < zs.length) : nsB (zs.take (j + 1)) = nsB (zs.take j) ++ n4 (zs.getD j 0) := by
  have e : zs.take (j + 1) = zs.take j ++ [zs.getD j 0] := by
    rw [List.take_add_one, List.getElem?_eq_getElem h, List.getD_eq_getElem?_getD, List.getElem?_eq_getElem h]; rfl
  unfold nsB
  rw [e, List.flatMap_append]; simp
set_option maxHeartbeats 1600000 in
theorem numbers_any (a : Option Addr) (n c : Nat) (zs : List Int) (m : Nat) (w : World) (h : HoldsI .i64 w a n zs) (hn : n ≤ 8) (hm : 4 * n = m) :
    Calls Try.prog 84 #[.slice a n c] w (RBB w w (nsB zs) m) := by
  have HH := Lib.hid h
  have HL := Lib.hid h.1
  have HM := Lib.hid hm
  clear h hm
  go_enter Try.func84, Try.ntmps84
  go_wp2_with fail
  go_loopw [3, 8] (fun bv iv wr => ∃ (j k : Nat) (bs : List Nat) (ba : Option Addr) (bc : Nat), j ≤ n ∧ bv = .slice ba k bc ∧ iv = .int .i64 (j : Int) ∧ Hid (k = 4 * j) ∧ Hid (bs.length = k) ∧ Hid (bs = nsB (zs.take j)) ∧ Hid (BB w bs ba bc wr)) (fun _ iv _ => n - (intOf iv).toNat)
  case atStart => exact ⟨0, 0, [], none, 0, by omega, rfl, rfl, Lib.hid rfl, Lib.hid rfl, Lib.hid (by simp [nsB]), Lib.hid ⟨holdsB_nil _ _, fun _ => ⟨rfl, rfl⟩, Below.refl _ _⟩⟩
  case round =>
    obtain ⟨j, k, bs, ba, bc, hj, rfl, rfl, hk4, hk, hbs, hB⟩ := hrel
    rename World => wr
    by_cases hlt : j < n
    · obtain ⟨qb, qo, rfl, hcc⟩ := (HH.out.below hB.out.b).at (by omega)
      have x0 := hcc j hlt
      obtain ⟨z, hz⟩ : ∃ z, zs.getD j 0 = z := ⟨_, rfl⟩
      rw [hz] at x0
      have HS := Lib.hid (show nsB (zs.take (j + 1)) = bs ++ n4 z from by rw [hbs.out, nsB_snoc zs j (by rw [HL.out]; exact hlt), hz])
      have CP := Lib.hid (pput z 4 4 rfl (by omega) (bs ++ n4 z) (k + 4) hB.out hk.out (by have := hk4.out; omega) rfl rfl)
      have n1' : (0 : Int) ≤ (j : Int) := by omega
      have n2' : (j : Int) < (n : Int) := by omega
      obtain ⟨kk, hkk⟩ : ∃ kk, k + 4 = kk := ⟨_, rfl⟩
      have k4 := Lib.hid (show kk = 4 * (j + 1) from by have := hk4.out; omega)
      rw [hkk] at CP
      clear hcc hz hkk
      go_wp2_with fail
      with_reducible refine CP.out.mono ?_
      rintro e w' ⟨a2, c2, rfl, hl2, hB2, -⟩
      have B2 := Lib.hid hB2; have L2 := Lib.hid hl2
      clear hB2 hl2 CP x0
      go_wp2_with fail
      go_roundw
      case rel => exact ⟨j + 1, kk, bs ++ n4 z, a2, c2, by omega, rfl, by go_num, k4, L2, Lib.hid HS.out.symm, B2⟩
      case measure => simp [intOf] <;> omega
    · obtain rfl : j = n := by omega
      have HT : zs.take j = zs := by rw [← HL.out]; exact List.take_length
      have FF := Lib.hid (show RBB w w (nsB zs) m (.returned (.slice ba k bc)) wr from ⟨ba, bc, by rw [← HM.out, ← hk4.out], by rw [← HT, ← hbs.out, hk.out, hk4.out, HM.out], by rw [← HT, ← hbs.out]; exact hB.out, hB.out.b⟩)
      clear HT hbs hB hk
      go_wp2_with fail
      go_ret
      exact FF.out
theorem RBB.since {w0 w w' : World} {o : List Nat} {n : Nat} {e : Ending} (h : RBB w w o n e w') (hb : Below w0.heap.size w0 w) : RBB w0 w o n e w' := by
  obtain ⟨a, c, h1, h2, h3, h4⟩ := h
  exact ⟨a, c, h1, h2, ⟨h3.h, h3.n, hb.trans (h3.b.mono hb.size)⟩, h4⟩
theorem putFlag_any (f : Bool) (o : List Nat) (m : Nat) {w0 w : World} {bs : List Nat} {n : Nat} {a : Option Addr} {c : Nat} (h : BB w0 bs a c w) (hn : bs.length = n) (hl : n ≤ 524288) (ho : bs ++ fB f = o) (hm : n + 1 = m) :
    Calls Try.prog 86 #[.slice a n c, .bool f] w (RBB w0 w o m) := by
  have CP := Lib.hid (pput (if f then 1 else 0) 1 1 rfl (by omega) o m h hn hl ho hm)
  clear h hn ho hm
  cases f
  · simp only [Bool.false_eq_true, if_false] at CP
    go_enter Try.func86, Try.ntmps86
    go_wp2_with fail
    with_reducible refine CP.out.mono ?_
    rintro e w' ⟨a2, c2, rfl, hl2, hB2, hW2⟩
    have B2 := Lib.hid hB2; have L2 := Lib.hid hl2; have W2 := Lib.hid hW2
    clear hB2 hl2 CP hW2
    go_wp2_with fail
    go_ret
    exact ⟨a2, c2, rfl, L2.out, B2.out, W2.out⟩
  · simp only [if_true] at CP
    go_enter Try.func86, Try.ntmps86
    go_wp2_with fail
    with_reducible refine CP.out.mono ?_
    rintro e w' ⟨a2, c2, rfl, hl2, hB2, hW2⟩
    have B2 := Lib.hid hB2; have L2 := Lib.hid hl2; have W2 := Lib.hid hW2
    clear hB2 hl2 CP hW2
    go_wp2_with fail
    go_ret
    exact ⟨a2, c2, rfl, L2.out, B2.out, W2.out⟩
theorem pi_carry {w1 w' w'' : World} {p : Nat} {u v : Value} (h : Below w1.heap.size w1 w' ∧ w'.cell? ⟨p, 0, none⟩ = some u ∧ w'.cell? ⟨p, 1, none⟩ = some v) (hb : Below w'.heap.size w' w'') : Below w1.heap.size w1 w'' ∧ w''.cell? ⟨p, 0, none⟩ = some u ∧ w''.cell? ⟨p, 1, none⟩ = some v := vi_carry h hb
theorem BB.rebase {w0 w1 w : World} {bs : List Nat} {a : Option Addr} {c : Nat} (h : BB w1 bs a c w) (hb : Below w0.heap.size w0 w1) : BB w0 bs a c w := ⟨h.h, h.n, hb.trans (h.b.mono hb.size)⟩
set_option maxHeartbeats 1600000 in
theorem putItem_any (k1 : Int) (k2 : Tx) (o : List Nat) (m : Nat) {w0 w : World} {bs : List Nat} {n : Nat} {a : Option Addr} {c : Nat} (h : BB w0 bs a c w) (hn : bs.length = n) (hl : n ≤ 262000) (hs : k2.size ≤ 1100) (ho : bs ++ itB (k1, k2) = o) (hm : n + (3 + k2.size) = m) :
    Calls Try.prog 87 #[.slice a n c, .agg #[.int .i64 k1, .string k2]] w (RBB w0 w o m) := by
  have BX := below_one w (.cells #[.int .i64 k1, .string k2] 27)
  have XB := box2m w (.int .i64 k1) (.string k2) 27
  obtain ⟨w1, hw1⟩ : ∃ w1, w.alloc (.cells #[.int .i64 k1, .string k2] 27) = w1 := ⟨_, rfl⟩
  obtain ⟨p, hp⟩ : ∃ p, w.heap.size = p := ⟨_, rfl⟩
  rw [hw1] at BX XB
  have BXW := Lib.hid BX
  have H1 := Lib.hid (h.more BX)
  have D1 := Lib.hid (h.more (BX.trans ((Below.refl _ _).drew.mono BX.size)))
  rw [hp] at XB
  have O := Lib.hid ho
  have CP := Lib.hid (fun w' (hb : BB w0 bs a c w') => pput k1 1 1 rfl (by omega) (bs ++ n1 k1) (n + 1) hb hn (by omega) rfl rfl)
  have CT := Lib.hid (fun a2 c2 w' (hb : BB w0 (bs ++ n1 k1) a2 c2 w') => ptext k2 o m hb (show (bs ++ n1 k1).length = n + 1 by rw [List.length_append, n1_len, hn]) (by omega) hs (by rw [List.append_assoc]; exact O.out) (by omega))
  have TD := Lib.hid (show Below w1.heap.size w1 w1.drew ∧ w1.drew.cell? ⟨p, 0, none⟩ = some (.int .i64 k1) ∧ w1.drew.cell? ⟨p, 1, none⟩ = some (.string k2) from ⟨(Below.refl _ _).drew, XB.1, XB.2⟩)
  obtain ⟨b0, b1⟩ := XB
  obtain ⟨n', hn'⟩ : ∃ n', n + 1 = n' := ⟨_, rfl⟩
  rw [hn'] at CP CT
  clear h hn ho hm BX hn' b0 b1
  go_enter Try.func87, Try.ntmps87
  go_upto_region 1 with fail
  try rw [hw1]
  try simp only [hp]
  clear hw1 hp
  go_region_held3 (fun w' => Below w1.heap.size w1 w' ∧ w'.cell? ⟨p, 0, none⟩ = some (.int .i64 k1) ∧ w'.cell? ⟨p, 1, none⟩ = some (.string k2))
    (first | assumption | exact TD.out | exact pi_carry (by assumption) (by assumption))
    (first
      | (go_at_call 64; (with_reducible refine (CP.out _ (H1.out.more (And.left (by assumption)))).mono ?_); rintro e w' ⟨a2, c2, rfl, hl2, hB2, hb2⟩)
      | (go_at_call 85; (with_reducible refine (CT.out _ _ _ (by assumption)).mono ?_); rintro e w' ⟨a3, c3, rfl, hl3, hB3, hb3⟩)
      | fail)
  all_goals
    have hS : Below w1.heap.size w1 w' ∧ w'.cell? ⟨p, 0, none⟩ = some (.int .i64 k1) ∧ w'.cell? ⟨p, 1, none⟩ = some (.string k2) := by assumption
    have B3 := Lib.hid hB3; have L3 := Lib.hid hl3; have W3 := Lib.hid (BXW.out.trans (hS.1.mono BXW.out.size))
    clear hB3 hl3 hS hb2 hb3 hB2 hl2
    go_wp2_with fail
    go_ret
    exact ⟨a3, c3, rfl, L3.out, B3.out, W3.out⟩
end Go.Proofs.Ythboiklcjpnhbaa
/- msg: the fields of each kind (by gen/ma4.py) -/
namespace Go.Proofs.Ythboiklcjpnhbaa
open Go.RowKit
set_option linter.unusedVariables false
set_option maxRecDepth 20000
def askB (x : AskP) : List Nat := ((((nsB [x.slot, x.query, x.shard, x.seq, x.epoch] ++ tB x.text) ++ n1 x.k) ++ n1 x.batch) ++ fB x.first) ++ itB (x.ad, x.aw)
def repB (x : RepP) : List Nat := ((nsB [x.slot, x.query, x.shard, x.seq, x.worker, x.epoch] ++ n1 (x.items.length : Int)) ++ itsB x.items) ++ fB x.fin
theorem itsB_snoc (ks : List KV) (j : Nat) (h : j < ks.length) : itsB (ks.take (j + 1)) = itsB (ks.take j) ++ itB (ks.getD j k0) := by
  have e : ks.take (j + 1) = ks.take j ++ [ks.getD j k0] := by
    rw [List.take_add_one, List.getElem?_eq_getElem h, List.getD_eq_getElem?_getD, List.getElem?_eq_getElem h]; rfl
  unfold itsB
  rw [e, List.flatMap_append]; simp
set_option maxHeartbeats 3200000 in
set_option maxRecDepth 100000 in
theorem fieldsHello (a b : Int) (o : List Nat) (m : Nat) (w : World) (ho : nsB [a, b] = o) (hm : o.length = m) :
    Calls Try.prog 63 #[.iface 23 (.agg #[.int .i64 a, .int .i64 b])] w (RBB w w o m) := by
  obtain ⟨w3, hw3⟩ : ∃ w3, w.alloc (.cells #[.int .i64 a, .int .i64 b] 23) = w3 := ⟨_, rfl⟩
  have BX := Lib.hid (show Below w.heap.size w w3 from hw3 ▸ below_one w _)
  have XI := Lib.hid (show HelloIn w3 w.heap.size a b from hw3 ▸ HelloIn_new _ a b _ _ (0, 0) rfl)
  have tHello := taHelloHello a b
  obtain ⟨o1, ho1⟩ : ∃ o, nsB [a, b] = o := ⟨_, rfl⟩
  have CN := Lib.hid (show Calls Try.prog 84 #[.slice (some ⟨w3.heap.size, 0, none⟩) 2 2] (w3.alloc (.cells #[.int .i64 a, .int .i64 b] 3)) (RBB _ (w3.alloc (.cells #[.int .i64 a, .int .i64 b] 3)) o1 8) from ho1 ▸ numbers_any (some ⟨w3.heap.size, 0, none⟩) 2 2 [a, b] 8 (w3.alloc (.cells #[.int .i64 a, .int .i64 b] 3)) (holdsI_lit w3 [a, b] 3 (0, 0)) (by decide) rfl)
  have BI := Lib.hid (below_one w3 (.cells #[.int .i64 a, .int .i64 b] 3))
  have HO := Lib.hid (show o1 = o from by rw [← ho1, ho])
  have HM := Lib.hid (show m = 8 from by rw [← hm, ← ho, nsB_len]; rfl)
  clear ho hm ho1
  go_enter Try.func63, Try.ntmps63
  go_upto_region 4 with fail
  try rw [hw3]
  clear hw3 tHello
  obtain ⟨p, hp⟩ : ∃ p, w.heap.size = p := ⟨_, rfl⟩
  rw [hp] at XI
  try simp only [hp]
  have HP := Lib.hid hp
  clear hp
  have hX := XI.out
  unfold HelloIn at hX
  obtain ⟨x0, x1⟩ := hX
  go_wp2_with fail
  with_reducible refine CN.out.mono ?_
  rintro e w4 ⟨a1, c1, rfl, hl, hB, hW⟩
  have BW1 := Lib.hid (show Below w.heap.size w w4 from (BX.out.trans (BI.out.mono BX.out.size)).trans (hW.mono (Nat.le_trans BX.out.size BI.out.size)))
  have B1 := Lib.hid (show BB w o1 a1 c1 w4 from ⟨hB.h, hB.n, BW1.out⟩)
  have L1 := Lib.hid hl
  have FF := Lib.hid (show RBB w w o m (.returned (.slice a1 8 c1)) w4 from by
    rw [HM.out, ← HO.out]; exact ⟨a1, c1, rfl, hl, B1.out, BW1.out⟩)
  clear hl hB hW CN x0 x1
  go_wp2_with fail
  go_ret
  exact FF.out
set_option maxHeartbeats 3200000 in
set_option maxRecDepth 100000 in
theorem fieldsGrant (a b c : Int) (o : List Nat) (m : Nat) (w : World) (ho : nsB [a, b, c] = o) (hm : o.length = m) :
    Calls Try.prog 63 #[.iface 25 (.agg #[.int .i64 a, .int .i64 b, .int .i64 c])] w (RBB w w o m) := by
  obtain ⟨w3, hw3⟩ : ∃ w3, w.alloc (.cells #[.int .i64 a, .int .i64 b, .int .i64 c] 25) = w3 := ⟨_, rfl⟩
  have BX := Lib.hid (show Below w.heap.size w w3 from hw3 ▸ below_one w _)
  have XI := Lib.hid (show GrantIn w3 w.heap.size a b c from hw3 ▸ GrantIn_new _ a b c _ _ (0, 0) rfl)
  have tHello := taGrantHello a b c
  have tGrant := taGrantGrant a b c
  obtain ⟨o1, ho1⟩ : ∃ o, nsB [a, b, c] = o := ⟨_, rfl⟩
  have CN := Lib.hid (show Calls Try.prog 84 #[.slice (some ⟨w3.heap.size, 0, none⟩) 3 3] (w3.alloc (.cells #[.int .i64 a, .int .i64 b, .int .i64 c] 3)) (RBB _ (w3.alloc (.cells #[.int .i64 a, .int .i64 b, .int .i64 c] 3)) o1 12) from ho1 ▸ numbers_any (some ⟨w3.heap.size, 0, none⟩) 3 3 [a, b, c] 12 (w3.alloc (.cells #[.int .i64 a, .int .i64 b, .int .i64 c] 3)) (holdsI_lit w3 [a, b, c] 3 (0, 0)) (by decide) rfl)
  have BI := Lib.hid (below_one w3 (.cells #[.int .i64 a, .int .i64 b, .int .i64 c] 3))
  have HO := Lib.hid (show o1 = o from by rw [← ho1, ho])
  have HM := Lib.hid (show m = 12 from by rw [← hm, ← ho, nsB_len]; rfl)
  clear ho hm ho1
  go_enter Try.func63, Try.ntmps63
  go_upto_region 7 with fail
  try rw [hw3]
  clear hw3 tHello tGrant
  obtain ⟨p, hp⟩ : ∃ p, w.heap.size = p := ⟨_, rfl⟩
  rw [hp] at XI
  try simp only [hp]
  have HP := Lib.hid hp
  clear hp
  have hX := XI.out
  unfold GrantIn at hX
  obtain ⟨x0, x1, x2⟩ := hX
  go_wp2_with fail
  with_reducible refine CN.out.mono ?_
  rintro e w4 ⟨a1, c1, rfl, hl, hB, hW⟩
  have BW1 := Lib.hid (show Below w.heap.size w w4 from (BX.out.trans (BI.out.mono BX.out.size)).trans (hW.mono (Nat.le_trans BX.out.size BI.out.size)))
  have B1 := Lib.hid (show BB w o1 a1 c1 w4 from ⟨hB.h, hB.n, BW1.out⟩)
  have L1 := Lib.hid hl
  have FF := Lib.hid (show RBB w w o m (.returned (.slice a1 12 c1)) w4 from by
    rw [HM.out, ← HO.out]; exact ⟨a1, c1, rfl, hl, B1.out, BW1.out⟩)
  clear hl hB hW CN x0 x1 x2
  go_wp2_with fail
  go_ret
  exact FF.out
set_option maxHeartbeats 3200000 in
set_option maxRecDepth 100000 in
theorem fieldsAsk (x : AskP) (o : List Nat) (m : Nat) (w : World) (ht : x.text.size ≤ 1100) (ha : x.aw.size ≤ 1100) (ho : askB x = o) (hm : o.length = m) :
    Calls Try.prog 63 #[.iface 29 (.agg #[.int .i64 x.slot, .int .i64 x.query, .int .i64 x.shard, .int .i64 x.seq, .int .i64 x.epoch, .string x.text, .int .i64 x.k, .int .i64 x.batch, .bool x.first, .int .i64 x.ad, .string x.aw])] w (RBB w w o m) := by
  obtain ⟨w3, hw3⟩ : ∃ w3, w.alloc (.cells #[.int .i64 x.slot, .int .i64 x.query, .int .i64 x.shard, .int .i64 x.seq, .int .i64 x.epoch, .string x.text, .int .i64 x.k, .int .i64 x.batch, .bool x.first, .int .i64 x.ad, .string x.aw] 29) = w3 := ⟨_, rfl⟩
  have BX := Lib.hid (show Below w.heap.size w w3 from hw3 ▸ below_one w _)
  have XI := Lib.hid (show MAskIn w3 w.heap.size x from hw3 ▸ MAskIn_new _ x _ _ (0, 0) rfl)
  have tHello := taAskHello x
  have tGrant := taAskGrant x
  have tAsk := taAskAsk x
  obtain ⟨o1, ho1⟩ : ∃ o, nsB [x.slot, x.query, x.shard, x.seq, x.epoch] = o := ⟨_, rfl⟩
  have CN := Lib.hid (show Calls Try.prog 84 #[.slice (some ⟨w3.heap.size, 0, none⟩) 5 5] (w3.alloc (.cells #[.int .i64 x.slot, .int .i64 x.query, .int .i64 x.shard, .int .i64 x.seq, .int .i64 x.epoch] 3)) (RBB _ (w3.alloc (.cells #[.int .i64 x.slot, .int .i64 x.query, .int .i64 x.shard, .int .i64 x.seq, .int .i64 x.epoch] 3)) o1 20) from ho1 ▸ numbers_any (some ⟨w3.heap.size, 0, none⟩) 5 5 [x.slot, x.query, x.shard, x.seq, x.epoch] 20 (w3.alloc (.cells #[.int .i64 x.slot, .int .i64 x.query, .int .i64 x.shard, .int .i64 x.seq, .int .i64 x.epoch] 3)) (holdsI_lit w3 [x.slot, x.query, x.shard, x.seq, x.epoch] 3 (0, 0)) (by decide) rfl)
  have BI := Lib.hid (below_one w3 (.cells #[.int .i64 x.slot, .int .i64 x.query, .int .i64 x.shard, .int .i64 x.seq, .int .i64 x.epoch] 3))
  obtain ⟨o2, ho2⟩ : ∃ o, o1 ++ tB x.text = o := ⟨_, rfl⟩
  obtain ⟨m2, hm2⟩ : ∃ m, 20 + (2 + x.text.size) = m := ⟨_, rfl⟩
  obtain ⟨o3, ho3⟩ : ∃ o, o2 ++ n1 x.k = o := ⟨_, rfl⟩
  obtain ⟨m3, hm3⟩ : ∃ m, m2 + 1 = m := ⟨_, rfl⟩
  obtain ⟨o4, ho4⟩ : ∃ o, o3 ++ n1 x.batch = o := ⟨_, rfl⟩
  obtain ⟨m4, hm4⟩ : ∃ m, m3 + 1 = m := ⟨_, rfl⟩
  obtain ⟨o5, ho5⟩ : ∃ o, o4 ++ fB x.first = o := ⟨_, rfl⟩
  obtain ⟨m5, hm5⟩ : ∃ m, m4 + 1 = m := ⟨_, rfl⟩
  obtain ⟨o6, ho6⟩ : ∃ o, o5 ++ itB (x.ad, x.aw) = o := ⟨_, rfl⟩
  obtain ⟨m6, hm6⟩ : ∃ m, m5 + (3 + x.aw.size) = m := ⟨_, rfl⟩
  have HO := Lib.hid (show o6 = o from by rw [← ho6, ← ho5, ← ho4, ← ho3, ← ho2, ← ho1]; exact ho)
  have C2 := Lib.hid (fun (a1 : Option Addr) (c1 : Nat) (w' : World) (hb : BB w o1 a1 c1 w') (hl : o1.length = 20) => ptext x.text o2 m2 hb hl (by omega) ht ho2 hm2)
  have C3 := Lib.hid (fun (a1 : Option Addr) (c1 : Nat) (w' : World) (hb : BB w o2 a1 c1 w') (hl : o2.length = m2) => pput x.k 1 1 rfl (by omega) o3 m3 hb hl (by omega) ho3 hm3)
  have C4 := Lib.hid (fun (a1 : Option Addr) (c1 : Nat) (w' : World) (hb : BB w o3 a1 c1 w') (hl : o3.length = m3) => pput x.batch 1 1 rfl (by omega) o4 m4 hb hl (by omega) ho4 hm4)
  have C5 := Lib.hid (fun (a1 : Option Addr) (c1 : Nat) (w' : World) (hb : BB w o4 a1 c1 w') (hl : o4.length = m4) => putFlag_any x.first o5 m5 hb hl (by omega) ho5 hm5)
  have C6 := Lib.hid (fun (a1 : Option Addr) (c1 : Nat) (w' : World) (hb : BB w o5 a1 c1 w') (hl : o5.length = m5) => putItem_any x.ad x.aw o6 m6 hb hl (by omega) ha ho6 hm6)
  have HM := Lib.hid (show o6.length = m6 → m = m6 from fun h => by rw [← hm, ← HO.out, h])
  clear ho hm ho1 ho2 ho3 ho4 ho5 ho6 hm2 hm3 hm4 hm5 hm6 ht ha
  go_enter Try.func63, Try.ntmps63
  go_upto_region 10 with fail
  try rw [hw3]
  clear hw3 tHello tGrant tAsk
  obtain ⟨p, hp⟩ : ∃ p, w.heap.size = p := ⟨_, rfl⟩
  rw [hp] at XI
  try simp only [hp]
  have HP := Lib.hid hp
  clear hp
  have hX := XI.out
  unfold MAskIn at hX
  obtain ⟨x0, x1, x2, x3, x4, x5, x6, x7, x8, x9, x10⟩ := hX
  go_wp2_with fail
  with_reducible refine CN.out.mono ?_
  rintro e w4 ⟨a1, c1, rfl, hl, hB, hW⟩
  have BW1 := Lib.hid (show Below w.heap.size w w4 from (BX.out.trans (BI.out.mono BX.out.size)).trans (hW.mono (Nat.le_trans BX.out.size BI.out.size)))
  have B1 := Lib.hid (show BB w o1 a1 c1 w4 from ⟨hB.h, hB.n, BW1.out⟩)
  have L1 := Lib.hid hl
  have X1 := Lib.hid ((XI.out.below BI.out).below hW)
  clear hl hB hW CN x0 x1 x2 x3 x4 x5 x6 x7 x8 x9 x10
  have hX := X1.out
  unfold MAskIn at hX
  obtain ⟨x0, x1, x2, x3, x4, x5, x6, x7, x8, x9, x10⟩ := hX
  have CC2 := Lib.hid (C2.out _ _ _ B1.out L1.out)
  clear C2
  go_wp2_with fail
  with_reducible refine CC2.out.mono ?_
  rintro e w5 ⟨a2, c2, rfl, hl, hB, hW⟩
  have B2 := Lib.hid hB; have L2 := Lib.hid hl
  have X2 := Lib.hid (X1.out.below hW)
  clear hl hB hW CC2 x0 x1 x2 x3 x4 x5 x6 x7 x8 x9 x10 X1 B1 L1
  have hX := X2.out
  unfold MAskIn at hX
  obtain ⟨x0, x1, x2, x3, x4, x5, x6, x7, x8, x9, x10⟩ := hX
  have CC3 := Lib.hid (C3.out _ _ _ B2.out L2.out)
  clear C3
  go_wp2_with fail
  with_reducible refine CC3.out.mono ?_
  rintro e w6 ⟨a3, c3, rfl, hl, hB, hW⟩
  have B3 := Lib.hid hB; have L3 := Lib.hid hl
  have X3 := Lib.hid (X2.out.below hW)
  clear hl hB hW CC3 x0 x1 x2 x3 x4 x5 x6 x7 x8 x9 x10 X2 B2 L2
  have hX := X3.out
  unfold MAskIn at hX
  obtain ⟨x0, x1, x2, x3, x4, x5, x6, x7, x8, x9, x10⟩ := hX
  have CC4 := Lib.hid (C4.out _ _ _ B3.out L3.out)
  clear C4
  go_wp2_with fail
  with_reducible refine CC4.out.mono ?_
  rintro e w7 ⟨a4, c4, rfl, hl, hB, hW⟩
  have B4 := Lib.hid hB; have L4 := Lib.hid hl
  have X4 := Lib.hid (X3.out.below hW)
  clear hl hB hW CC4 x0 x1 x2 x3 x4 x5 x6 x7 x8 x9 x10 X3 B3 L3
  have hX := X4.out
  unfold MAskIn at hX
  obtain ⟨x0, x1, x2, x3, x4, x5, x6, x7, x8, x9, x10⟩ := hX
  have CC5 := Lib.hid (C5.out _ _ _ B4.out L4.out)
  clear C5
  go_wp2_with fail
  with_reducible refine CC5.out.mono ?_
  rintro e w8 ⟨a5, c5, rfl, hl, hB, hW⟩
  have B5 := Lib.hid hB; have L5 := Lib.hid hl
  have X5 := Lib.hid (X4.out.below hW)
  clear hl hB hW CC5 x0 x1 x2 x3 x4 x5 x6 x7 x8 x9 x10 X4 B4 L4
  have hX := X5.out
  unfold MAskIn at hX
  obtain ⟨x0, x1, x2, x3, x4, x5, x6, x7, x8, x9, x10⟩ := hX
  have CC6 := Lib.hid (C6.out _ _ _ B5.out L5.out)
  clear C6
  go_wp2_with fail
  with_reducible refine CC6.out.mono ?_
  rintro e w9 ⟨a6, c6, rfl, hl, hB, hW⟩
  have B6 := Lib.hid hB; have L6 := Lib.hid hl
  clear hl hB hW CC6 x0 x1 x2 x3 x4 x5 x6 x7 x8 x9 x10
  have FF := Lib.hid (show RBB w w o m (.returned (.slice a6 m6 c6)) w9 from by
    rw [HM.out L6.out, ← HO.out]; exact ⟨a6, c6, rfl, L6.out, B6.out, B6.out.b⟩)
  go_wp2_with fail
  go_ret
  exact FF.out
set_option maxHeartbeats 3200000 in
set_option maxRecDepth 100000 in
theorem fieldsReply (x : RepP) (o : List Nat) (m : Nat) (w : World) (hh : HoldsK w x.ia x.n x.items) (hs : ∀ k ∈ x.items, k.2.size ≤ 1100) (hn : x.n ≤ 80) (ho : repB x = o) (hm : o.length = m) :
    Calls Try.prog 63 #[.iface 32 (.agg #[.int .i64 x.slot, .int .i64 x.query, .int .i64 x.shard, .int .i64 x.seq, .int .i64 x.worker, .int .i64 x.epoch, .slice x.ia x.n x.ic, .bool x.fin])] w (RBB w w o m) := by
  obtain ⟨w3, hw3⟩ : ∃ w3, w.alloc (.cells #[.int .i64 x.slot, .int .i64 x.query, .int .i64 x.shard, .int .i64 x.seq, .int .i64 x.worker, .int .i64 x.epoch, .slice x.ia x.n x.ic, .bool x.fin] 32) = w3 := ⟨_, rfl⟩
  have BX := Lib.hid (show Below w.heap.size w w3 from hw3 ▸ below_one w _)
  have XI := Lib.hid (show ReplyIn w3 w.heap.size x from hw3 ▸ ReplyIn_new _ x _ _ (0, 0) rfl)
  have tHello := taReplyHello x
  have tGrant := taReplyGrant x
  have tAsk := taReplyAsk x
  have tReply := taReplyReply x
  obtain ⟨o1, ho1⟩ : ∃ o, nsB [x.slot, x.query, x.shard, x.seq, x.worker, x.epoch] = o := ⟨_, rfl⟩
  have CN := Lib.hid (show Calls Try.prog 84 #[.slice (some ⟨w3.heap.size, 0, none⟩) 6 6] (w3.alloc (.cells #[.int .i64 x.slot, .int .i64 x.query, .int .i64 x.shard, .int .i64 x.seq, .int .i64 x.worker, .int .i64 x.epoch] 3)) (RBB _ (w3.alloc (.cells #[.int .i64 x.slot, .int .i64 x.query, .int .i64 x.shard, .int .i64 x.seq, .int .i64 x.worker, .int .i64 x.epoch] 3)) o1 24) from ho1 ▸ numbers_any (some ⟨w3.heap.size, 0, none⟩) 6 6 [x.slot, x.query, x.shard, x.seq, x.worker, x.epoch] 24 (w3.alloc (.cells #[.int .i64 x.slot, .int .i64 x.query, .int .i64 x.shard, .int .i64 x.seq, .int .i64 x.worker, .int .i64 x.epoch] 3)) (holdsI_lit w3 [x.slot, x.query, x.shard, x.seq, x.worker, x.epoch] 3 (0, 0)) (by decide) rfl)
  have BI := Lib.hid (below_one w3 (.cells #[.int .i64 x.slot, .int .i64 x.query, .int .i64 x.shard, .int .i64 x.seq, .int .i64 x.worker, .int .i64 x.epoch] 3))
  obtain ⟨o2, ho2⟩ : ∃ o, o1 ++ n1 (x.items.length : Int) = o := ⟨_, rfl⟩
  obtain ⟨m2, hm2⟩ : ∃ m, 24 + 1 = m := ⟨_, rfl⟩
  have C2 := Lib.hid (fun (a1 : Option Addr) (c1 : Nat) (w' : World) (hb : BB w o1 a1 c1 w') (hl : o1.length = 24) => pput (x.items.length : Int) 1 1 rfl (by omega) o2 m2 hb hl (by omega) ho2 hm2)
  have HH := Lib.hid hh; have HL := Lib.hid hh.len; have HS := Lib.hid hs
  have hlen := hh.len
  have m25 : m2 = 25 := by omega
  have BS := Lib.hid (show repB x = (o2 ++ itsB x.items) ++ fB x.fin from by unfold repB; rw [ho1, ho2])
  have HO := Lib.hid ho; have HM := Lib.hid hm
  rw [hlen] at C2
  subst m25
  clear ho hm ho1 ho2 hm2 hh hs hlen
  go_enter Try.func63, Try.ntmps63
  go_upto_region 18 with fail
  try rw [hw3]
  clear hw3 tHello tGrant tAsk tReply
  obtain ⟨p, hp⟩ : ∃ p, w.heap.size = p := ⟨_, rfl⟩
  rw [hp] at XI
  try simp only [hp]
  have HP := Lib.hid hp
  clear hp
  have hX := XI.out
  unfold ReplyIn at hX
  obtain ⟨x0, x1, x2, x3, x4, x5, x6, x7⟩ := hX
  go_wp2_with fail
  with_reducible refine CN.out.mono ?_
  rintro e w4 ⟨a1, c1, rfl, hl, hB, hW⟩
  have BW1 := Lib.hid (show Below w.heap.size w w4 from (BX.out.trans (BI.out.mono BX.out.size)).trans (hW.mono (Nat.le_trans BX.out.size BI.out.size)))
  have B1 := Lib.hid (show BB w o1 a1 c1 w4 from ⟨hB.h, hB.n, BW1.out⟩)
  have L1 := Lib.hid hl
  have X1 := Lib.hid ((XI.out.below BI.out).below hW)
  clear hl hB hW CN x0 x1 x2 x3 x4 x5 x6 x7
  have hX := X1.out
  unfold ReplyIn at hX
  obtain ⟨x0, x1, x2, x3, x4, x5, x6, x7⟩ := hX
  have CC2 := Lib.hid (C2.out _ _ _ B1.out L1.out)
  clear C2
  go_wp2_with fail
  with_reducible refine CC2.out.mono ?_
  rintro e w5 ⟨a2, c2, rfl, hl, hB, hW⟩
  have B2 := Lib.hid hB; have L2 := Lib.hid hl
  have X2 := Lib.hid (X1.out.below hW)
  clear hl hB hW CC2 x0 x1 x2 x3 x4 x5 x6 x7 X1 B1 L1
  have hX := X2.out
  unfold ReplyIn at hX
  obtain ⟨x0, x1, x2, x3, x4, x5, x6, x7⟩ := hX
  have XX := Lib.hid (fun w' (hb : Below w5.heap.size w5 w') => X2.out.below hb)
  go_upto_region 20 with fail
  go_wp2_with fail
  go_loopw [8, 93] (fun bv iv wr => ∃ (j k : Nat) (bs : List Nat) (ba : Option Addr) (bc : Nat), j ≤ x.n ∧ bv = .slice ba k bc ∧ iv = .int .i64 (j : Int) ∧ Hid (k ≤ 25 + 1103 * j) ∧ Hid (bs.length = k) ∧ Hid (bs = o2 ++ itsB (x.items.take j)) ∧ Hid (BB w bs ba bc wr) ∧ Hid (ReplyIn wr p x)) (fun _ iv _ => x.n - (intOf iv).toNat)
  case atStart => exact ⟨0, 25, o2, a2, c2, by omega, rfl, rfl, Lib.hid (by omega), L2, Lib.hid (by simp [itsB]), B2, X2⟩
  case round =>
    clear x0 x1 x2 x3 x4 x5 x6 x7 B2 L2 X2 XX
    obtain ⟨j, k, bs, ba, bc, hj, rfl, rfl, hk4, hk, hbs, hB, hXr⟩ := hrel
    rename World => wr
    by_cases hlt : j < x.n
    · obtain ⟨qb, qo, hia, hcc⟩ := (HH.out.below hB.out.b).at (by omega)
      obtain ⟨y0, y1⟩ := hcc j hlt
      obtain ⟨kk, hkk⟩ : ∃ kk, x.items.getD j k0 = kk := ⟨_, rfl⟩
      have hks := HS.out kk (by rw [← hkk]; exact getD_memK x.items j (by rw [HL.out]; exact hlt))
      rw [hkk] at y0 y1
      have HSN := Lib.hid (show itsB (x.items.take (j + 1)) = itsB (x.items.take j) ++ itB kk from by rw [itsB_snoc x.items j (by rw [HL.out]; exact hlt), hkk])
      obtain ⟨k1, k2⟩ := kk
      simp only at y0 y1 hks
      obtain ⟨on, hon⟩ : ∃ on, bs ++ itB (k1, k2) = on := ⟨_, rfl⟩
      obtain ⟨mn, hmn⟩ : ∃ mn, k + (3 + k2.size) = mn := ⟨_, rfl⟩
      have CP := Lib.hid (fun w' (hb : BB w bs ba bc w') => putItem_any k1 k2 on mn hb hk.out (by have := hk4.out; omega) hks hon hmn)
      have KN := Lib.hid (show mn ≤ 25 + 1103 * (j + 1) from by have := hk4.out; omega)
      have ON := Lib.hid (show on = o2 ++ itsB (x.items.take (j + 1)) from by rw [HSN.out, ← hon, hbs.out, List.append_assoc])
      have BXr := Lib.hid (below_one wr (.cells #[.int .i64 k1, .string k2] 27))
      have XBr := Lib.hid (box2m wr (.int .i64 k1) (.string k2) 27)
      have BBr := Lib.hid (hB.out.more BXr.out)
      have XRr := Lib.hid (hXr.out.below BXr.out)
      have CPr := Lib.hid (CP.out _ BBr.out)
      have n1' : (0 : Int) ≤ (j : Int) := by omega
      have n2' : (j : Int) < (x.n : Int) := by omega
      have HIA := Lib.hid hia
      clear hcc hkk hks hon hmn CP
      obtain ⟨b0, b1⟩ := XBr.out
      rw [hia]
      clear hia
      go_wp2_with fail
      with_reducible refine CPr.out.mono ?_
      rintro e w' ⟨a9, c9, rfl, hl9, hB9, hW9⟩
      have B9 := Lib.hid hB9; have L9 := Lib.hid hl9
      have X9 := Lib.hid (XRr.out.below hW9)
      clear hB9 hl9 hW9 CPr y0 y1 b0 b1
      go_wp2_with fail
      go_roundw
      case rel => exact ⟨j + 1, mn, on, a9, c9, by omega, rfl, by go_num, KN, L9, ON, B9, X9⟩
      case measure => simp [intOf] <;> omega
    · have hjn : j = x.n := by omega
      have HT : x.items.take j = x.items := by rw [hjn, ← HL.out]; exact List.take_length
      have OE : bs ++ fB x.fin = o := by rw [hbs.out, HT, ← BS.out]; exact HO.out
      have ME : k + 1 = m := by rw [← HM.out, ← OE, List.length_append, fB_len, hk.out]
      have CF := Lib.hid (putFlag_any x.fin o m hB.out hk.out (by have := hk4.out; omega) OE ME)
      have hX := hXr.out
      unfold ReplyIn at hX
      obtain ⟨x0, x1, x2, x3, x4, x5, x6, x7⟩ := hX
      have WR := Lib.hid hB.out.b
      clear hjn HT OE ME
      go_wp2_with fail
      with_reducible refine CF.out.mono ?_
      rintro e w' ⟨a9, c9, rfl, hl9, hB9, hW9⟩
      have FF := Lib.hid (show RBB w w o m (.returned (.slice a9 m c9)) w' from ⟨a9, c9, rfl, hl9, hB9, hB9.b⟩)
      clear hl9 hB9 hW9 CF x0 x1 x2 x3 x4 x5 x6 x7
      go_wp2_with fail
      go_ret
      exact FF.out
set_option maxHeartbeats 3200000 in
set_option maxRecDepth 100000 in
theorem fieldsStop (a b : Int) (o : List Nat) (m : Nat) (w : World) (ho : nsB [a, b] = o) (hm : o.length = m) :
    Calls Try.prog 63 #[.iface 34 (.agg #[.int .i64 a, .int .i64 b])] w (RBB w w o m) := by
  obtain ⟨w3, hw3⟩ : ∃ w3, w.alloc (.cells #[.int .i64 a, .int .i64 b] 34) = w3 := ⟨_, rfl⟩
  have BX := Lib.hid (show Below w.heap.size w w3 from hw3 ▸ below_one w _)
  have XI := Lib.hid (show StopIn w3 w.heap.size a b from hw3 ▸ StopIn_new _ a b _ _ (0, 0) rfl)
  have tHello := taStopHello a b
  have tGrant := taStopGrant a b
  have tAsk := taStopAsk a b
  have tReply := taStopReply a b
  have tStop := taStopStop a b
  obtain ⟨o1, ho1⟩ : ∃ o, nsB [a, b] = o := ⟨_, rfl⟩
  have CN := Lib.hid (show Calls Try.prog 84 #[.slice (some ⟨w3.heap.size, 0, none⟩) 2 2] (w3.alloc (.cells #[.int .i64 a, .int .i64 b] 3)) (RBB _ (w3.alloc (.cells #[.int .i64 a, .int .i64 b] 3)) o1 8) from ho1 ▸ numbers_any (some ⟨w3.heap.size, 0, none⟩) 2 2 [a, b] 8 (w3.alloc (.cells #[.int .i64 a, .int .i64 b] 3)) (holdsI_lit w3 [a, b] 3 (0, 0)) (by decide) rfl)
  have BI := Lib.hid (below_one w3 (.cells #[.int .i64 a, .int .i64 b] 3))
  have HO := Lib.hid (show o1 = o from by rw [← ho1, ho])
  have HM := Lib.hid (show m = 8 from by rw [← hm, ← ho, nsB_len]; rfl)
  clear ho hm ho1
  go_enter Try.func63, Try.ntmps63
  go_upto_region 28 with fail
  try rw [hw3]
  clear hw3 tHello tGrant tAsk tReply tStop
  obtain ⟨p, hp⟩ : ∃ p, w.heap.size = p := ⟨_, rfl⟩
  rw [hp] at XI
  try simp only [hp]
  have HP := Lib.hid hp
  clear hp
  have hX := XI.out
  unfold StopIn at hX
  obtain ⟨x0, x1⟩ := hX
  go_wp2_with fail
  with_reducible refine CN.out.mono ?_
  rintro e w4 ⟨a1, c1, rfl, hl, hB, hW⟩
  have BW1 := Lib.hid (show Below w.heap.size w w4 from (BX.out.trans (BI.out.mono BX.out.size)).trans (hW.mono (Nat.le_trans BX.out.size BI.out.size)))
  have B1 := Lib.hid (show BB w o1 a1 c1 w4 from ⟨hB.h, hB.n, BW1.out⟩)
  have L1 := Lib.hid hl
  have FF := Lib.hid (show RBB w w o m (.returned (.slice a1 8 c1)) w4 from by
    rw [HM.out, ← HO.out]; exact ⟨a1, c1, rfl, hl, B1.out, BW1.out⟩)
  clear hl hB hW CN x0 x1
  go_wp2_with fail
  go_ret
  exact FF.out
end Go.Proofs.Ythboiklcjpnhbaa
/- msg: frameOf, Encode, May, Kind -/
namespace Go.Proofs.Ythboiklcjpnhbaa
open Go.RowKit
set_option linter.unusedVariables false
set_option maxRecDepth 20000
theorem own_lower {w : World} {B B' : Nat} {e : TypeId} {size n : Nat} {v : Value} {xs : List Value} (h : w.ownsRow B e size v n xs) (hB : B' ≤ B) : w.ownsRow B' e size v n xs := by
  refine ⟨h.1, h.2.imp id (fun ⟨g, cap, cur, hv, hge, r⟩ => ⟨g, cap, cur, hv, Nat.le_trans hB hge, r⟩)⟩
def frameB (kd : Nat) (o : List Nat) : List Nat := sealB ((Cod.bytesOf (7 + o.length) 2 ++ Cod.bytesOf kd 1) ++ o)
theorem frameB_len (kd : Nat) (o : List Nat) : (frameB kd o).length = o.length + 7 := by
  unfold frameB; rw [sealB_len, List.length_append, List.length_append, Cod.bytesOf_length, Cod.bytesOf_length]; omega
set_option maxHeartbeats 3200000 in
theorem frame_of (V : Value) (kd m : Nat) (o : List Nat) (w : World) (CF : Calls Try.prog 63 #[V] w (RBB w w o m)) (CK : ∀ w', Calls Try.prog 43 #[V] w' fun e w'' => e = .returned (.int .i64 (kd : Int)) ∧ w' = w'') (hm : m ≤ 100000) (hkd : kd ≤ 5) (ol : o.length = m) :
    Calls Try.prog 35 #[V] w (RetB 5 w (frameB kd o)) := by
  obtain ⟨i0, hi, hz0, hz1, hz2⟩ := info_parts u8_info
  have C1 := Lib.hid CF; have C2 := Lib.hid CK
  have OL := Lib.hid ol
  have e7 : (7 : Int) + (m : Int) = ((7 + m : Nat) : Int) := by omega
  have w7 : IntKind.i64.wrap ((7 : Int) + (m : Int)) = ((7 + m : Nat) : Int) := by rw [e7]; exact IntWalk.i64_in _ (by omega)
  obtain ⟨l7, hl7⟩ : ∃ l, 7 + m = l := ⟨_, rfl⟩
  rw [hl7] at e7 w7
  obtain ⟨h1, hh1⟩ : ∃ h, Cod.bytesOf l7 2 = h := ⟨_, rfl⟩
  obtain ⟨h2, hh2⟩ : ∃ h, h1 ++ Cod.bytesOf kd 1 = h := ⟨_, rfl⟩
  have len1 : h1.length = 2 := by rw [← hh1, Cod.bytesOf_length]
  have len2 : h2.length = 3 := by rw [← hh2, List.length_append, len1, Cod.bytesOf_length]
  have lt1 : ∀ b ∈ h1, b < 256 := by rw [← hh1]; exact Cod.bytesOf_lt _ _
  have lt2 : ∀ b ∈ h2, b < 256 := by
    rw [← hh2]; intro b hb
    rcases List.mem_append.1 hb with hb | hb
    · exact lt1 b hb
    · exact Cod.bytesOf_lt _ _ b hb
  have CP1 := Lib.hid (fun w' => (show Calls Try.prog 64 #[.slice none 0 0, .int .i64 (l7 : Int), .int .i64 2] w' fun e w'' => ∃ a c, e = .returned (.slice a 2 c) ∧ HoldsB w'' a 2 h1 ∧ (a = none → False) ∧ Below w'.heap.size w' w'' from by
    refine (put_any none 0 0 [] (l7 : Int) 2 w' (holdsB_nil _ _) (fun _ => ⟨rfl, rfl⟩) (by omega)).mono ?_
    rintro e w'' ⟨a, c, rfl, r1, r2, r3⟩
    rw [bits_nat9 l7 (by omega), show sizeV 2 = 2 from rfl, List.nil_append, hh1, len1] at r1 r3
    rw [bits_nat9 l7 (by omega), show sizeV 2 = 2 from rfl, List.nil_append, hh1, len1]
    exact ⟨a, c, rfl, holdsB_of_values (owns_holds r1) lt1, fun e => by have := (r3 e).1; omega, r2⟩))
  have CP2 := Lib.hid (fun (a : Option Addr) (c : Nat) w' (hb : HoldsB w' a 2 h1) (hn : a = none → False) => (show Calls Try.prog 64 #[.slice a 2 c, .int .i64 (kd : Int), .int .i64 1] w' fun e w'' => ∃ a c, e = .returned (.slice a 3 c) ∧ w''.ownsRow w'.heap.size 5 1 (.slice a 3 c) 3 (bytesV h2) ∧ Below w'.heap.size w' w'' from by
    refine (put_any a 2 c h1 (kd : Int) 1 w' hb (fun e => (hn e).elim) (by omega)).mono ?_
    rintro e w'' ⟨a, c, rfl, r1, r2, r3⟩
    rw [bits_nat9 kd (by omega), show sizeV 1 = 1 from rfl, hh2, len2] at r1
    rw [bits_nat9 kd (by omega), show sizeV 1 = 1 from rfl, hh2, len2]
    exact ⟨a, c, rfl, r1, r2⟩))
  have FE := Lib.hid (show frameB kd o = sealB (h2 ++ o) from by unfold frameB; rw [← hh2, ← hh1, ← hl7, ol])
  have LT2 := Lib.hid lt2; have LE2 := Lib.hid len2
  have bl2 : (bytesV h2).length = 3 := by rw [bytesV_length, len2]
  have lm : l7 ≤ 100007 := by omega
  rw [FE.out]
  clear CF CK ol hl7 hh1 hh2 len1 len2 lt1 lt2
  go_enter Try.func35, Try.ntmps35
  go_wp2_with fail
  with_reducible refine C1.out.mono ?_
  rintro e w1 ⟨a1, c1, rfl, hl1, hB1, hW1⟩
  have B1 := Lib.hid hB1; have W1 := Lib.hid hW1
  clear hl1 hB1 hW1 C1
  go_wp2_with fail
  with_reducible refine (CP1.out _).mono ?_
  rintro e w2 ⟨a2, c2, rfl, hh, hne, hb⟩
  have H2 := Lib.hid hh; have N2 := Lib.hid hne; have W2 := Lib.hid (W1.out.trans (hb.mono W1.out.size)); have B2 := Lib.hid (B1.out.more hb)
  clear hh hne hb CP1 B1
  go_wp2_with fail
  with_reducible refine (C2.out _).mono ?_
  rintro e w' ⟨rfl, rfl⟩
  have CP2' := Lib.hid (CP2.out a2 c2 w2 H2.out N2.out)
  clear C2 CP2 H2 N2
  go_wp2_with fail
  with_reducible refine CP2'.out.mono ?_
  rintro e w3 ⟨a3, c3, rfl, ho, hb⟩
  have O3 := Lib.hid ho; have B3 := Lib.hid (B2.out.more hb); have W3 := Lib.hid (W2.out.trans (hb.mono W2.out.size))
  have Z3 := Lib.hid hb.size
  have HV := Lib.hid (B3.out.h.values.cells (w' := w3) ⟨rfl, rfl, rfl, Nat.le_refl _, fun _ _ _ => rfl⟩)
  have BN := Lib.hid (show a1 = none → m = 0 ∧ c1 = 0 from fun e => by rw [← OL.out]; exact B3.out.n e)
  have BL := Lib.hid (show (bytesV o).length = m * 1 from by rw [bytesV_length, OL.out]; omega)
  have LTO := Lib.hid B3.out.lt
  clear ho hb CP2' B2
  go_wp2_with (at_builtin; refine wpList_append_any rfl (.tmp 15) (.tmp 16) 39 rfl w2.heap.size 5 i0 _ 1 1 Try.underlying39 hi hz0 hz1 hz2 rfl (by decide) _ 3 (bytesV h2) rfl O3.out a1 m c1 (bytesV o) rfl BN.out BL.out HV.out (bytesV_one _) (by unfold maxLen; omega) (by omega) Z3.out ?_; intro a4 c4 w4 ho hb hnil)
  rw [bytesV_append] at ho
  have O4 := Lib.hid ho
  have H4 := Lib.hid (holdsB_of_values (owns_holds ho) (fun b hb => by
    rcases List.mem_append.1 hb with hb | hb
    · exact LT2.out b hb
    · exact LTO.out b hb))
  have N4 := Lib.hid hnil
  have W4 := Lib.hid (W3.out.trans (hb.mono (by have := W2.out.size; omega)))
  have CS := Lib.hid (wSeal_any a4 (3 + m) c4 (h2 ++ o) w4 H4.out N4.out (by omega))
  clear ho hb hnil
  go_wp2_with fail
  with_reducible refine CS.out.mono ?_
  rintro e w5 ⟨a5, c5, rfl, r1, r2, r3⟩
  have FF := Lib.hid (show RetB 5 w (sealB (h2 ++ o)) (.returned (.slice a5 (sealB (h2 ++ o)).length c5)) w5 from ⟨a5, c5, rfl, own_lower r1 W4.out.size, W4.out.trans (r2.mono W4.out.size), r3⟩)
  clear r1 r2 r3 CS
  go_wp2_with fail
  go_ret
  exact FF.out
theorem encode_no (V : Value) (w : World) (CV : ∀ w', Below w.heap.size w w' → Calls Try.prog 34 #[V] w' fun e w'' => e = .returned (.bool false) ∧ Below w'.heap.size w' w'') :
    Calls Try.prog 14 #[V] w fun e w' => e = .returned (.tuple #[.slice none 0 0, .int .i64 2]) ∧ Below w.heap.size w w' := by
  have C := Lib.hid (CV w (Below.refl _ _))
  clear CV
  go_enter Try.func14, Try.ntmps14
  go_wp2_with fail
  refine C.out.mono ?_
  rintro e w' ⟨rfl, hb⟩
  have B := Lib.hid hb
  clear hb C
  go_wp2_with fail
  go_ret2
  exact ⟨rfl, B.out⟩
def EncP (w : World) (F : List Nat) (n : Nat) (e : Ending) (w' : World) : Prop := ∃ a c, e = .returned (.tuple #[.slice a n c, .int .i64 0]) ∧ w'.ownsRow w.heap.size 5 1 (.slice a n c) n (bytesV F) ∧ HoldsB w' a n F ∧ Below w.heap.size w w' ∧ (a = none → n = 0 ∧ c = 0)
theorem sealB_all (bs : List Nat) (h : ∀ b ∈ bs, b < 256) : ∀ b ∈ sealB bs, b < 256 := sealB_lt bs h
theorem encode_yes (V : Value) (F : List Nat) (n : Nat) (w : World) (hF : ∀ b ∈ F, b < 256) (hn : F.length = n) (CV : ∀ w', Below w.heap.size w w' → Calls Try.prog 34 #[V] w' fun e w'' => e = .returned (.bool true) ∧ Below w'.heap.size w' w'') (CF : ∀ w', Below w.heap.size w w' → Calls Try.prog 35 #[V] w' (RetB 5 w' F)) :
    Calls Try.prog 14 #[V] w (EncP w F n) := by
  have C := Lib.hid (CV w (Below.refl _ _)); have C2 := Lib.hid CF; have LT := Lib.hid hF; have LN := Lib.hid hn
  clear CV CF hF hn
  go_enter Try.func14, Try.ntmps14
  go_wp2_with fail
  refine C.out.mono ?_
  rintro e w1 ⟨rfl, hb⟩
  have B := Lib.hid hb
  have C3 := Lib.hid (C2.out w1 hb)
  clear hb C C2
  go_wp2_with fail
  refine C3.out.mono ?_
  rintro e w2 ⟨a, c, rfl, h1, h2, h3⟩
  have FF := Lib.hid (show EncP w F n (.returned (.tuple #[.slice a F.length c, .int .i64 0])) w2 from ⟨a, c, by rw [LN.out], by rw [← LN.out]; exact own_lower h1 B.out.size, by rw [← LN.out]; exact holdsB_of_values (owns_holds h1) LT.out, B.out.trans (h2.mono B.out.size), by rw [← LN.out]; exact h3⟩)
  clear h1 h2 h3 C3
  go_wp2_with fail
  go_ret2
  exact FF.out
theorem may_of (V : Value) (z : Bool) (w : World) (CV : Calls Try.prog 34 #[V] w fun e w'' => e = .returned (.bool z) ∧ Below w.heap.size w w'') :
    Calls Try.prog 19 #[V] w fun e w' => e = .returned (.bool z) ∧ Below w.heap.size w w' := by
  have C := Lib.hid CV
  clear CV
  go_enter Try.func19, Try.ntmps19
  go_wp2_with fail
  refine C.out.mono ?_
  rintro e w' ⟨rfl, hb⟩
  have B := Lib.hid hb
  clear hb C
  go_wp2_with fail
  go_ret
  exact ⟨rfl, B.out⟩
theorem kind_of (V : Value) (z : Int) (w : World) (CV : Calls Try.prog 43 #[V] w fun e w'' => e = .returned (.int .i64 z) ∧ w = w'') :
    Calls Try.prog 21 #[V] w fun e w' => e = .returned (.int .i64 z) ∧ w = w' := by
  have C := Lib.hid CV
  clear CV
  go_enter Try.func21, Try.ntmps21
  go_wp2_with fail
  refine C.out.mono ?_
  rintro e w' ⟨rfl, rfl⟩
  clear C
  go_wp2_with fail
  go_ret
  exact ⟨rfl, rfl⟩
end Go.Proofs.Ythboiklcjpnhbaa
/- msg: messages of all kinds at once -/
namespace Go.Proofs.Ythboiklcjpnhbaa
open Go.RowKit
set_option linter.unusedVariables false
set_option maxRecDepth 20000
inductive MsgV where
  | hello (a b : Int)
  | grant (a b c : Int)
  | ask (x : AskP)
  | reply (x : RepP)
  | stop (a b : Int)
  | num (k : Int)
  | none
def valM : MsgV → Value
  | .hello a b => vHello a b
  | .grant a b c => vGrant a b c
  | .ask x => vAsk x
  | .reply x => vReply x
  | .stop a b => vStop a b
  | .num k => vNum k
  | .none => .nilIface
def kindM : MsgV → Nat
  | .hello .. => 1
  | .grant .. => 2
  | .ask _ => 3
  | .reply _ => 4
  | .stop .. => 5
  | .num _ => 0
  | .none => 0
def mayM : MsgV → Bool
  | .hello a b => mayHello a b
  | .grant a b c => mayGrant a b c
  | .ask x => mayAsk x
  | .reply x => mayReply x
  | .stop a b => mayStop a b
  | .num _ => false
  | .none => false
def bodyM : MsgV → List Nat
  | .hello a b => nsB [a, b]
  | .grant a b c => nsB [a, b, c]
  | .ask x => askB x
  | .reply x => repB x
  | .stop a b => nsB [a, b]
  | .num _ => []
  | .none => []
def frameM (M : MsgV) : List Nat := frameB (kindM M) (bodyM M)
/-- what a message holds lies in memory -/
def heldM (w : World) : MsgV → Prop
  | .reply x => HoldsK w x.ia x.n x.items ∧ (x.ia = .none → x.n = 0 ∧ x.ic = 0) ∧ x.n ≤ x.ic
  | _ => True
def smallM : MsgV → Prop
  | .ask x => x.text.size ≤ 1100 ∧ x.aw.size ≤ 1100
  | .reply x => (∀ k ∈ x.items, k.2.size ≤ 1100) ∧ x.n ≤ 1048576
  | _ => True
theorem heldM.below {w w' : World} {M : MsgV} (h : heldM w M) (hb : Below w.heap.size w w') : heldM w' M := by
  cases M <;> first | trivial | exact ⟨h.1.below hb, h.2⟩
theorem valid_all (M : MsgV) (w : World) (hh : heldM w M) (hs : smallM M) :
    Calls Try.prog 34 #[valM M] w fun e w' => e = .returned (.bool (mayM M)) ∧ Below w.heap.size w w' := by
  cases M with
  | hello a b => exact validHello a b _ w rfl
  | grant a b c => exact validGrant a b c _ w rfl
  | ask x => exact validAsk x _ w (by have := hs.1; omega) (by have := hs.2; omega) rfl
  | reply x => exact validReply x _ w hh.1 (fun k hk => by have := hs.1 k hk; omega) (by have := hs.2; omega) rfl
  | stop a b => exact validStop a b _ w rfl
  | num k => exact validNum k w
  | none => exact validNil w
theorem kindOf_all (M : MsgV) (w : World) : Calls Try.prog 43 #[valM M] w fun e w' => e = .returned (.int .i64 (kindM M : Int)) ∧ w = w' := by
  cases M with
  | hello a b => exact kindOfHello a b w
  | grant a b c => exact kindOfGrant a b c w
  | ask x => exact kindOfAsk x w
  | reply x => exact kindOfReply x w
  | stop a b => exact kindOfStop a b w
  | num k => exact kindOfNum k w
  | none => exact kindOfNil w
theorem may_n {x : RepP} {w : World} (hh : heldM w (.reply x)) (hm : mayM (.reply x) = true) : x.n ≤ 5 := by
  have h1 : mayItems x.items = true := by
    unfold mayM mayReply at hm
    simp only [Bool.and_eq_true] at hm
    exact hm.2
  unfold mayItems at h1
  simp only [Bool.and_eq_true, decide_eq_true_eq] at h1
  have := hh.1.len
  omega
theorem body_len (M : MsgV) (w : World) (hh : heldM w M) (hs : smallM M) (hm : mayM M = true) : (bodyM M).length ≤ 100000 := by
  cases M with
  | hello a b => rw [show bodyM (.hello a b) = nsB [a, b] from rfl, nsB_len]; simp
  | grant a b c => rw [show bodyM (.grant a b c) = nsB [a, b, c] from rfl, nsB_len]; simp
  | ask x =>
    have h1 := tB_len x.text (by have := hs.1; omega)
    have h2 := itB_len (x.ad, x.aw) (by have := hs.2; simp only; omega)
    have h3 := hs.1
    have h4 := hs.2
    rw [show bodyM (.ask x) = askB x from rfl]
    unfold askB
    simp only [List.length_append, nsB_len, n1_len, fB_len, h1, h2, List.length_cons, List.length_nil]
    omega
  | reply x =>
    have h1 := itsB_len x.items hs.1
    have h2 := may_n hh hm
    have h3 := hh.1.len
    rw [show bodyM (.reply x) = repB x from rfl]
    unfold repB
    simp only [List.length_append, nsB_len, n1_len, fB_len, List.length_cons, List.length_nil]
    have : 1103 * x.items.length ≤ 1103 * 5 := Nat.mul_le_mul_left _ (by omega)
    omega
  | stop a b => rw [show bodyM (.stop a b) = nsB [a, b] from rfl, nsB_len]; simp
  | num k => cases hm
  | none => cases hm
theorem frame_all (M : MsgV) (w : World) (hh : heldM w M) (hs : smallM M) (hm : mayM M = true) :
    Calls Try.prog 35 #[valM M] w (RetB 5 w (frameM M)) := by
  have hl := body_len M w hh hs hm
  refine frame_of (valM M) (kindM M) _ (bodyM M) w ?_ (fun w' => kindOf_all M w') hl (by cases M <;> simp [kindM]) rfl
  cases M with
  | hello a b => exact fieldsHello a b _ _ w rfl rfl
  | grant a b c => exact fieldsGrant a b c _ _ w rfl rfl
  | ask x => exact fieldsAsk x _ _ w hs.1 hs.2 rfl rfl
  | reply x => exact fieldsReply x _ _ w hh.1 hs.1 (by have := may_n hh hm; omega) rfl rfl
  | stop a b => exact fieldsStop a b _ _ w rfl rfl
  | num k => cases hm
  | none => cases hm
theorem n4_lt (v : Int) : ∀ b ∈ n4 v, b < 256 := Cod.bytesOf_lt _ _
theorem n1_lt (v : Int) : ∀ b ∈ n1 v, b < 256 := Cod.bytesOf_lt _ _
theorem app_lt {a b : List Nat} (ha : ∀ x ∈ a, x < 256) (hb : ∀ x ∈ b, x < 256) : ∀ x ∈ a ++ b, x < 256 := fun x hx => (List.mem_append.1 hx).elim (ha x) (hb x)
theorem nsB_lt (zs : List Int) : ∀ b ∈ nsB zs, b < 256 := fun b hb => by
  obtain ⟨z, -, h⟩ := List.mem_flatMap.1 hb
  exact n4_lt z b h
theorem itB_lt (k : KV) : ∀ b ∈ itB k, b < 256 := app_lt (n1_lt _) (tB_lt _)
theorem itsB_lt (ks : List KV) : ∀ b ∈ itsB ks, b < 256 := fun b hb => by
  obtain ⟨z, -, h⟩ := List.mem_flatMap.1 hb
  exact itB_lt z b h
theorem bodyM_lt (M : MsgV) : ∀ b ∈ bodyM M, b < 256 := by
  cases M with
  | hello a b => exact nsB_lt _
  | grant a b c => exact nsB_lt _
  | ask x => exact app_lt (app_lt (app_lt (app_lt (app_lt (nsB_lt _) (tB_lt _)) (n1_lt _)) (n1_lt _)) (n1_lt _)) (itB_lt _)
  | reply x => exact app_lt (app_lt (app_lt (nsB_lt _) (n1_lt _)) (itsB_lt _)) (n1_lt _)
  | stop a b => exact nsB_lt _
  | num k => intro b hb; cases hb
  | none => intro b hb; cases hb
theorem frameM_lt (M : MsgV) : ∀ b ∈ frameM M, b < 256 := sealB_lt _ (app_lt (app_lt (Cod.bytesOf_lt _ _) (Cod.bytesOf_lt _ _)) (bodyM_lt M))
theorem frameM_len (M : MsgV) : (frameM M).length = (bodyM M).length + 7 := frameB_len _ _
def EncM (w : World) (M : MsgV) (e : Ending) (w' : World) : Prop :=
  (mayM M = true ∧ EncP w (frameM M) (frameM M).length e w') ∨ (mayM M = false ∧ e = .returned (.tuple #[.slice .none 0 0, .int .i64 2]) ∧ Below w.heap.size w w')
theorem encode_all (M : MsgV) (w : World) (hh : heldM w M) (hs : smallM M) : Calls Try.prog 14 #[valM M] w (EncM w M) := by
  cases hm : mayM M
  · refine (encode_no (valM M) w (fun w' hb => hm ▸ valid_all M w' (hh.below hb) hs)).mono ?_
    rintro e w' ⟨he, hb⟩
    exact Or.inr ⟨hm, he, hb⟩
  · refine (encode_yes (valM M) (frameM M) _ w (frameM_lt M) rfl (fun w' hb => hm ▸ valid_all M w' (hh.below hb) hs) (fun w' hb => frame_all M w' (hh.below hb) hs hm)).mono ?_
    intro e w' h
    exact Or.inl ⟨hm, h⟩
theorem mayOf_all (M : MsgV) (w : World) (hh : heldM w M) (hs : smallM M) : Calls Try.prog 19 #[valM M] w fun e w' => e = .returned (.bool (mayM M)) ∧ Below w.heap.size w w' :=
  may_of _ _ w (valid_all M w hh hs)
theorem kind_all (M : MsgV) (w : World) : Calls Try.prog 21 #[valM M] w fun e w' => e = .returned (.int .i64 (kindM M : Int)) ∧ w = w' := kind_of _ _ w (kindOf_all M w)
end Go.Proofs.Ythboiklcjpnhbaa
/- contracts of code: numbers read -/
namespace Go.Proofs.Ythboiklcjpnhbaa
open Go.RowKit
set_option linter.unusedVariables false
set_option maxRecDepth 20000
/-- the number in s bytes from k on -/
def numN (bs : List Nat) (k s : Nat) : Nat := Cod.numOf ((bs.drop k).take s)
theorem numN_snoc (bs : List Nat) (k s : Nat) (h : k + s < bs.length) : numN bs k (s + 1) = numN bs k s * 256 + bs.getD (k + s) 0 := by
  unfold numN
  rw [take_succ_getD _ 0 s (by simp; omega), Cod.numOf_snoc]
  congr 1
  simp [List.getD_eq_getElem?_getD]
theorem numN_lt (bs : List Nat) (k s : Nat) (hb : ∀ b ∈ bs, b < 256) (hk : k + s ≤ bs.length) : numN bs k s < 256 ^ s := by
  have := Cod.numOf_lt ((bs.drop k).take s) fun x hx => hb x (List.mem_of_mem_drop (List.mem_of_mem_take hx))
  rw [List.length_take, List.length_drop, Nat.min_eq_left (by omega)] at this
  exact this
theorem pow256 (s : Nat) (h : s ≤ 7) : 256 ^ s ≤ 72057594037927936 := Nat.pow_le_pow_right (n := 256) (by decide) h
theorem or_byte (v x : Nat) (hv : v < 72057594037927936) (hx : x < 256) : bits BinOp.or IntKind.u64 ((v : Int) * 256) (x : Int) = ((v * 256 + x : Nat) : Int) := by
  have := u64_or_nat (v * 256) x (by omega) (by omega)
  rw [nat_join 8 (v * 256) x (by omega) (by omega)] at this
  rw [show (v : Int) * 256 = ((v * 256 : Nat) : Int) by omega]
  exact this
set_option maxHeartbeats 800000 in
theorem num_yes (a : Option Addr) (n cap : Nat) (bs : List Nat) (k s : Nat) (w : World) (h : HoldsB w a n bs) (hn : n ≤ 9223372036854775807) (h1 : 1 ≤ s) (h8 : s ≤ 8) (hk : k + s ≤ n) :
    Calls Try.prog 45 #[.slice a n cap, .int .i64 k, .int .i64 s] w fun e w' => e = .returned (.tuple #[.int .i64 (wrap64 (numN bs k s : Nat)), .bool true]) ∧ w = w' := by
  obtain ⟨b, o, rfl, hcell⟩ := h.at (by omega)
  have HC := Lib.hid hcell; have HL := Lib.hid h.len; have HB := Lib.hid h.2
  clear hcell h
  go_enter Try.func45, Try.ntmps45
  go_wp2
  go_loop [8, 29] (fun x i => ∃ j : Nat, j ≤ s ∧ i = .int .i64 j ∧ x = .int .u64 (numN bs k j : Nat)) (fun _ i => s - (intOf i).toNat)
  case atStart => exact ⟨0, by omega, rfl, rfl⟩
  case round =>
    obtain ⟨j, hj, rfl, rfl⟩ := hrel
    by_cases hlt : j < s
    · have hx := getD_lt HB.out (k + j)
      have e1 := HC.out (k + j) (by omega)
      have hs := numN_snoc bs k j (by rw [HL.out]; omega)
      have hv := numN_lt bs k j HB.out (by rw [HL.out]; omega)
      have hp := pow256 j (by omega)
      have HS := Lib.hid hs
      obtain ⟨x, hxx⟩ : ∃ x, bs.getD (k + j) 0 = x := ⟨_, rfl⟩
      obtain ⟨v, hvv⟩ : ∃ v, numN bs k j = v := ⟨_, rfl⟩
      rw [hxx] at hx e1 HS
      rw [hvv] at hv HS ⊢
      have hv2 : v < 72057594037927936 := by omega
      clear hxx hvv hs hv hp
      go_wp2
      go_round
      case rel => exact ⟨j + 1, by omega, by go_num, by rw [HS.out, or_byte v x hv2 hx]⟩
      case measure => simp [intOf]; omega
    · obtain rfl : j = s := by omega
      go_wp2
      go_ret2
      exact ⟨rfl, rfl⟩
theorem num_no (a : Option Addr) (n cap : Nat) (k s : Int) (w : World) (hn : n ≤ 9223372036854775807) (hk : k ≤ 9223372036854775807) (hno : ¬ (1 ≤ s ∧ s ≤ 8 ∧ 0 ≤ k ∧ k + s ≤ n)) :
    Calls Try.prog 45 #[.slice a n cap, .int .i64 k, .int .i64 s] w fun e w' => e = .returned (.tuple #[.int .i64 0, .bool false]) ∧ w = w' := by
  by_cases g1 : s < 1
  · go_enter Try.func45, Try.ntmps45
    go_wp2
    go_ret2
    exact ⟨rfl, rfl⟩
  by_cases g2 : 8 < s
  · go_enter Try.func45, Try.ntmps45
    go_wp2
    go_ret2
    exact ⟨rfl, rfl⟩
  have d1 : decide (s < 1) = false := by rw [decide_eq_false_iff_not]; omega
  have d2 : decide (8 < s) = false := by rw [decide_eq_false_iff_not]; omega
  by_cases g3 : k < 0
  · go_enter Try.func45, Try.ntmps45
    go_wp2
    go_ret2
    exact ⟨rfl, rfl⟩
  have d3 : decide (k < 0) = false := by rw [decide_eq_false_iff_not]; omega
  have g4 : (n : Int) - s < k := by omega
  go_enter Try.func45, Try.ntmps45
  go_wp2
  go_ret2
  exact ⟨rfl, rfl⟩

set_option maxHeartbeats 800000 in
theorem rnum_yes (a : Option Addr) (n cap : Nat) (bs : List Nat) (k s : Nat) (w : World) (h : HoldsB w a n bs) (hn : n ≤ 9223372036854775807) (h1 : 1 ≤ s) (h8 : s ≤ 8) (hk : k + s ≤ n) :
    Calls Try.prog 49 #[.slice a n cap, .int .i64 k, .int .i64 s] w fun e w' => e = .returned (.tuple #[.int .i64 (wrap64 (numN bs k s : Nat)), .bool true]) ∧ w = w' := by
  obtain ⟨b, o, rfl, hcell⟩ := h.at (by omega)
  have HC := Lib.hid hcell; have HL := Lib.hid h.len; have HB := Lib.hid h.2
  clear hcell h
  go_enter Try.func49, Try.ntmps49
  go_wp2
  go_loop [8, 9] (fun x i => ∃ j : Nat, j ≤ s ∧ i = .int .i64 j ∧ x = .int .u64 (numN bs k j : Nat)) (fun _ i => s - (intOf i).toNat)
  case atStart => exact ⟨0, by omega, rfl, rfl⟩
  case round =>
    obtain ⟨j, hj, rfl, rfl⟩ := hrel
    by_cases hlt : j < s
    · have hx := getD_lt HB.out (k + j)
      have e1 := HC.out (k + j) (by omega)
      have hs := numN_snoc bs k j (by rw [HL.out]; omega)
      have hv := numN_lt bs k j HB.out (by rw [HL.out]; omega)
      have hp := pow256 j (by omega)
      have HS := Lib.hid hs
      obtain ⟨x, hxx⟩ : ∃ x, bs.getD (k + j) 0 = x := ⟨_, rfl⟩
      obtain ⟨v, hvv⟩ : ∃ v, numN bs k j = v := ⟨_, rfl⟩
      rw [hxx] at hx e1 HS
      rw [hvv] at hv HS ⊢
      have hv2 : v < 72057594037927936 := by omega
      clear hxx hvv hs hv hp
      go_wp2
      go_round
      case rel => exact ⟨j + 1, by omega, by go_num, by rw [HS.out, or_byte v x hv2 hx]⟩
      case measure => simp [intOf]; omega
    · obtain rfl : j = s := by omega
      go_wp2
      go_ret2
      exact ⟨rfl, rfl⟩
theorem rnum_no (a : Option Addr) (n cap : Nat) (k s : Int) (w : World) (hn : n ≤ 9223372036854775807) (hno : ¬ (1 ≤ s ∧ s ≤ 8 ∧ 0 ≤ k ∧ k + s ≤ n)) :
    Calls Try.prog 49 #[.slice a n cap, .int .i64 k, .int .i64 s] w fun e w' => e = .returned (.tuple #[.int .i64 0, .bool false]) ∧ w = w' := by
  by_cases g1 : s < 1
  · go_enter Try.func49, Try.ntmps49
    go_wp2
    go_ret2
    exact ⟨rfl, rfl⟩
  by_cases g2 : 8 < s
  · go_enter Try.func49, Try.ntmps49
    go_wp2
    go_ret2
    exact ⟨rfl, rfl⟩
  have d1 : decide (s < 1) = false := by rw [decide_eq_false_iff_not]; omega
  have d2 : decide (8 < s) = false := by rw [decide_eq_false_iff_not]; omega
  by_cases g3 : k < 0
  · go_enter Try.func49, Try.ntmps49
    go_wp2
    go_ret2
    exact ⟨rfl, rfl⟩
  have d3 : decide (k < 0) = false := by rw [decide_eq_false_iff_not]; omega
  by_cases g4 : (n : Int) < k
  · go_enter Try.func49, Try.ntmps49
    go_wp2
    go_ret2
    exact ⟨rfl, rfl⟩
  have d4 : decide ((n : Int) < k) = false := by rw [decide_eq_false_iff_not]; omega
  have g5 : (n : Int) - k < s := by omega
  go_enter Try.func49, Try.ntmps49
  go_wp2
  go_ret2
  exact ⟨rfl, rfl⟩
end Go.Proofs.Ythboiklcjpnhbaa
/- what a call may turn: the blocks of a set, and new ones -/
namespace Go.Proofs.Ythboiklcjpnhbaa
open Go.RowKit
set_option linter.unusedVariables false
set_option maxRecDepth 20000
/-- apart from the blocks of F, and new ones, the world w' is as w was -/
structure Turn (F : Nat → Prop) (w w' : World) : Prop where
  os : w'.os = w.os
  tape : w'.tape = w.tape
  output : w'.output = w.output
  size : w.heap.size ≤ w'.heap.size
  block : ∀ k, k < w.heap.size → ¬ F k → w'.heap[k]? = w.heap[k]?
theorem Turn.refl (F : Nat → Prop) (w : World) : Turn F w w := ⟨rfl, rfl, rfl, Nat.le_refl _, fun _ _ _ => rfl⟩
theorem Turn.trans {F : Nat → Prop} {w w1 w2 : World} (h : Turn F w w1) (k : Turn F w1 w2) : Turn F w w2 :=
  ⟨k.os.trans h.os, k.tape.trans h.tape, k.output.trans h.output, Nat.le_trans h.size k.size, fun i hi hF => (k.block i (Nat.lt_of_lt_of_le hi h.size) hF).trans (h.block i hi hF)⟩
theorem Turn.mono {F G : Nat → Prop} {w w' : World} (h : Turn F w w') (hF : ∀ k, F k → G k) : Turn G w w' := ⟨h.os, h.tape, h.output, h.size, fun k hk hn => h.block k hk (fun x => hn (hF k x))⟩
/-- what was new in the first step may turn in the second -/
theorem Turn.trans' {F G : Nat → Prop} {w w1 w2 : World} (h : Turn F w w1) (k : Turn G w1 w2) (hG : ∀ i, G i → F i ∨ w.heap.size ≤ i) : Turn F w w2 :=
  ⟨k.os.trans h.os, k.tape.trans h.tape, k.output.trans h.output, Nat.le_trans h.size k.size, fun i hi hF => (k.block i (Nat.lt_of_lt_of_le hi h.size) (fun g => by rcases hG i g with x | x; exact hF x; omega)).trans (h.block i hi hF)⟩
theorem Turn.setCell {F : Nat → Prop} {w : World} {b o : Nat} {v : Value} (hb : F b) : Turn F w (w.setCell ⟨b, o, none⟩ v) :=
  ⟨rfl, rfl, rfl, by simp [World.setCell], fun k _ hk => Below.heap_setCell _ _ _ _ (fun e => hk (by rw [e]; exact hb))⟩
theorem Turn.alloc (F : Nat → Prop) (w : World) (o : Obj) : Turn F w (w.alloc o) := ⟨rfl, rfl, rfl, by simp, fun k hk _ => Below.heap_alloc _ _ _ hk⟩
theorem Turn.drewN (F : Nat → Prop) (w : World) (n : Nat) : Turn F w (w.drewN n) := by
  have h := below_drewN w n
  exact ⟨h.os, h.tape, h.output, h.size, fun k hk _ => h.block k hk⟩
theorem Turn.drew {F : Nat → Prop} {a w : World} (h : Turn F a w) : Turn F a w.drew := ⟨h.os, h.tape, h.output, h.size, h.block⟩
theorem Turn.of_below {F : Nat → Prop} {w w' : World} (h : Below w.heap.size w w') : Turn F w w' := ⟨h.os, h.tape, h.output, h.size, fun k hk _ => h.block k hk⟩
theorem Turn.below {F : Nat → Prop} {B : Nat} {w w' : World} (h : Turn F w w') (hF : ∀ k, F k → B ≤ k) (hB : B ≤ w.heap.size) : Below B w w' :=
  ⟨h.os, h.tape, h.output, h.size, fun k hk => h.block k (by omega) (fun x => by have := hF k x; omega)⟩
theorem Turn.cell {F : Nat → Prop} {w w' : World} (h : Turn F w w') {b o : Nat} (hb : b < w.heap.size) (hF : ¬ F b) : w'.cell? ⟨b, o, none⟩ = w.cell? ⟨b, o, none⟩ := World.cell?_of_block (w := w) (h.block b hb hF)
theorem Turn.frozen {F : Nat → Prop} {w w' : World} (h : Turn F w w') {b o : Nat} (hb : b < w.heap.size) (hF : ¬ F b) : w'.frozen? ⟨b, o, none⟩ = w.frozen? ⟨b, o, none⟩ := World.frozen?_of_block (w := w) (h.block b hb hF)
theorem cset_at {w : World} {b o : Nat} {u v : Value} (h : w.cell? ⟨b, o, none⟩ = some u) : (w.setCell ⟨b, o, none⟩ v).cell? ⟨b, o, none⟩ = some v := World.cell?_setCell_same _ _ _ h
theorem cset_ne {w : World} {b o p : Nat} {v : Value} (h : o ≠ p) : (w.setCell ⟨b, o, none⟩ v).cell? ⟨b, p, none⟩ = w.cell? ⟨b, p, none⟩ := World.cell?_setCell_other _ _ _ _ (by intro e; injection e; contradiction)
theorem cset_far {w : World} {b c o p : Nat} {v : Value} (h : b ≠ c) : (w.setCell ⟨b, o, none⟩ v).cell? ⟨c, p, none⟩ = w.cell? ⟨c, p, none⟩ := World.cell?_setCell_other _ _ _ _ (by intro e; injection e; contradiction)
theorem fset_any {w : World} {a : Addr} {v : Value} {p : Addr} : (w.setCell a v).frozen? p = w.frozen? p := by simp
theorem cell_alloc {w : World} {cs : Array Value} {T : TypeId} {B o : Nat} (hB : B = w.heap.size) : (w.alloc (.cells cs T)).cell? ⟨B, o, none⟩ = cs[o]? := by subst hB; simp
theorem cell_alloc_old {w : World} {o : Obj} {b p : Nat} (h : b < w.heap.size) : (w.alloc o).cell? ⟨b, p, none⟩ = w.cell? ⟨b, p, none⟩ := (below_one w o).cell (p := ⟨b, p, none⟩) h
theorem frozen_alloc {w : World} {cs : Array Value} {T : TypeId} {B o : Nat} (hB : B = w.heap.size) : (w.alloc (.cells cs T)).frozen? ⟨B, o, none⟩ = false := by subst hB; simp
end Go.Proofs.Ythboiklcjpnhbaa
/- wire: Sealed; a reader of bytes, field by field -/
namespace Go.Proofs.Ythboiklcjpnhbaa
open Go.RowKit
set_option linter.unusedVariables false
set_option maxRecDepth 20000
/-- the last four bytes are the sum of the others -/
def openB (bs : List Nat) : Bool := decide (4 ≤ bs.length) && decide (numN bs (bs.length - 4) 4 = Crc.sum (bs.take (bs.length - 4)))
theorem num4_lt (bs : List Nat) (k : Nat) (hb : ∀ b ∈ bs, b < 256) (hk : k + 4 ≤ bs.length) : numN bs k 4 < 4294967296 := numN_lt bs k 4 hb hk
theorem wrap_small (x : Nat) (h : x < 9223372036854775808) : wrap64 (x : Int) = (x : Int) := by unfold wrap64; omega
theorem wSealed_any (a : Option Addr) (n cap : Nat) (bs : List Nat) (w : World) (h : HoldsB w a n bs) (hn : n ≤ 1048576) (hc : n ≤ cap) :
    Calls Try.prog 46 #[.slice a n cap] w fun e w' => e = .returned (if openB bs then .tuple #[.slice a (n - 4) cap, .bool true] else .tuple #[.slice none 0 0, .bool false]) ∧ w = w' := by
  have hl := h.len
  by_cases h4 : 4 ≤ n
  · obtain ⟨k, hk⟩ : ∃ k, n - 4 = k := ⟨_, rfl⟩
    have e1 : (n : Int) - 4 = (k : Int) := by omega
    have CN := Lib.hid (num_yes a n cap bs k 4 w h (by omega) (by omega) (by omega) (by omega))
    have CS := Lib.hid (show Calls Try.prog 73 #[.slice a k cap] w fun e w' => e = .returned (.int .u32 (Crc.sum (bs.take k))) ∧ w = w' from by
      obtain ⟨q, o, rfl, -⟩ := h.at (by omega)
      exact sumOf_any (some ⟨q, o, none⟩) k cap (bs.take k) w (h.front k (by omega)) (by omega))
    obtain ⟨x, hx⟩ : ∃ x, numN bs k 4 = x := ⟨_, rfl⟩
    have hx4 : x < 4294967296 := by rw [← hx]; exact num4_lt bs k h.2 (by omega)
    obtain ⟨c, hcc⟩ : ∃ c, Crc.sum (bs.take k) = c := ⟨_, rfl⟩
    have hc4 : c < 4294967296 := by rw [← hcc]; exact sum_lt9 _
    rw [hx, wrap_small x (by omega), show ((4 : Nat) : Int) = 4 from rfl] at CN
    rw [hcc] at CS
    have OP := Lib.hid (show openB bs = decide (x = c) from by
      unfold openB
      rw [hl, hk, hx, hcc, decide_eq_true h4, Bool.true_and])
    have n1 : (0 : Int) ≤ (k : Int) := by omega
    have n2 : (k : Int) ≤ (cap : Int) := by omega
    have n3 : k ≤ cap := by omega
    rw [hk]
    clear hk hx hcc h hl
    by_cases he : x = c
    · subst he
      have OT := Lib.hid (show openB bs = true from by rw [OP.out]; simp)
      simp only [OT.out, if_true]
      go_enter Try.func46, Try.ntmps46
      go_wp2_with fail
      with_reducible refine CN.out.mono ?_
      rintro e w' ⟨rfl, rfl⟩
      go_wp2_with fail
      with_reducible refine CS.out.mono ?_
      rintro e w' ⟨rfl, rfl⟩
      go_wp2_with fail
      go_ret2
      exact ⟨rfl, rfl⟩
    · have OT := Lib.hid (show openB bs = false from by rw [OP.out]; simpa using he)
      simp only [OT.out, Bool.false_eq_true, if_false]
      have e2 : ((x : Int) != (c : Int)) = true := by rw [bne_iff_ne]; omega
      have e3 : ((x : Int) == (c : Int)) = false := by rw [beq_eq_false_iff_ne]; omega
      clear he
      go_enter Try.func46, Try.ntmps46
      go_wp2_with fail
      with_reducible refine CN.out.mono ?_
      rintro e w' ⟨rfl, rfl⟩
      go_wp2_with fail
      with_reducible refine CS.out.mono ?_
      rintro e w' ⟨rfl, rfl⟩
      go_wp2_with fail
      go_ret2
      exact ⟨rfl, rfl⟩
  · have CN := Lib.hid (num_no a n cap ((n : Int) - 4) 4 w (by omega) (by omega) (by omega))
    have OT := Lib.hid (show openB bs = false from by unfold openB; rw [hl, decide_eq_false h4, Bool.false_and])
    simp only [OT.out, Bool.false_eq_true, if_false]
    obtain ⟨k, hk⟩ : ∃ k : Int, (n : Int) - 4 = k := ⟨_, rfl⟩
    rw [hk] at CN
    clear h hl h4
    go_enter Try.func46, Try.ntmps46
    go_wp2_with fail
    with_reducible refine CN.out.mono ?_
    rintro e w' ⟨rfl, rfl⟩
    go_wp2_with fail
    go_ret2
    exact ⟨rfl, rfl⟩
theorem holdsB_turn {w w' : World} {a : Option Addr} {n : Nat} {bs : List Nat} {S : Nat → Prop} (h : HoldsB w a n bs) (t : Turn S w w') (hS : ∀ q o, a = some ⟨q, o, none⟩ → ¬ S q) : HoldsB w' a n bs := by
  refine ⟨⟨h.1.1, fun h0 => ?_⟩, h.2⟩
  obtain ⟨q, o, ha, hc⟩ := h.1.2 h0
  exact ⟨q, o, ha, fun i hi => (t.cell (lt_of_cell (hc i hi)) (hS q o ha)).trans (hc i hi)⟩
/-- a reader of these bytes, and how far it is -/
structure RdM (r : Nat) (a : Option Addr) (n cap : Nat) (bs : List Nat) (at_ : Nat) (bad : Bool) (w : World) : Prop where
  c0 : w.cell? ⟨r, 0, none⟩ = some (.slice a n cap)
  c1 : w.cell? ⟨r, 1, none⟩ = some (.int .i64 at_)
  c2 : w.cell? ⟨r, 2, none⟩ = some (.bool bad)
  f : ∀ i, w.frozen? ⟨r, i, none⟩ = false
  h : HoldsB w a n bs
  ne : ∀ q o, a = some ⟨q, o, none⟩ → q ≠ r
theorem RdM.turn {r : Nat} {a : Option Addr} {n cap : Nat} {bs : List Nat} {at_ : Nat} {bad : Bool} {w w' : World} {S : Nat → Prop} (m : RdM r a n cap bs at_ bad w) (t : Turn S w w') (hr : ¬ S r) (hS : ∀ q o, a = some ⟨q, o, none⟩ → ¬ S q) : RdM r a n cap bs at_ bad w' := by
  have lr := lt_of_cell m.c0
  exact ⟨(t.cell lr hr).trans m.c0, (t.cell lr hr).trans m.c1, (t.cell lr hr).trans m.c2, fun i => (t.frozen lr hr).trans (m.f i), holdsB_turn m.h t hS, m.ne⟩
def okR (n at_ s : Nat) (bad : Bool) : Bool := !bad && decide (at_ + s ≤ n)
def numR (bs : List Nat) (n at_ s : Nat) (bad : Bool) : Nat := if okR n at_ s bad then numN bs at_ s else 0
def atR (n at_ s : Nat) (bad : Bool) : Nat := if okR n at_ s bad then at_ + s else at_
theorem numR_lt (bs : List Nat) (n at_ s : Nat) (bad : Bool) (hb : ∀ b ∈ bs, b < 256) (hl : bs.length = n) : numR bs n at_ s bad < 256 ^ s := by
  unfold numR
  split
  · rename_i h
    unfold okR at h
    simp only [Bool.and_eq_true, decide_eq_true_eq] at h
    exact numN_lt bs at_ s hb (by omega)
  · exact Nat.pow_pos (by decide)
set_option maxHeartbeats 1600000 in
theorem rdNum_any (r : Nat) (a : Option Addr) (n cap : Nat) (bs : List Nat) (at_ : Nat) (bad : Bool) (s : Nat) (w : World) (m : RdM r a n cap bs at_ bad w) (hn : n ≤ 1048576) (hat : at_ ≤ n) (h1 : 1 ≤ s) (h4 : s ≤ 4) :
    Calls Try.prog 75 #[.pointer (some ⟨r, 0, none⟩), .int .i64 (s : Int)] w fun e w' => e = .returned (.int .i64 (numR bs n at_ s bad : Nat)) ∧ RdM r a n cap bs (atR n at_ s bad) (!okR n at_ s bad) w' ∧ Turn (fun k => k = r) w w' := by
  obtain ⟨c0, c1, c2, f, h, ne⟩ := m
  have M := Lib.hid (show RdM r a n cap bs at_ bad w from ⟨c0, c1, c2, f, h, ne⟩)
  have f1 := f 1
  have f2 := f 2
  have g0 := (World.cell?_of_block (w := w) (w' := w.drew) (a := ⟨r, 0, none⟩) rfl).trans c0
  have g1 := (World.cell?_of_block (w := w) (w' := w.drew) (a := ⟨r, 1, none⟩) rfl).trans c1
  have lr := lt_of_cell c0
  have STB := Lib.hid (show ∀ k, RdM r a n cap bs at_ true ((w.drewN k).setCell ⟨r, 2, none⟩ (.bool true)) ∧ Turn (fun q => q = r) w ((w.drewN k).setCell ⟨r, 2, none⟩ (.bool true)) from fun k => by
    have b := below_drewN w k
    have t : Turn (fun q => q = r) w ((w.drewN k).setCell ⟨r, 2, none⟩ (.bool true)) := (Turn.of_below b).trans (Turn.setCell rfl)
    exact ⟨⟨(cset_ne (by omega)).trans ((b.cell (p := ⟨r, 0, none⟩) lr).trans c0), (cset_ne (by omega)).trans ((b.cell (p := ⟨r, 1, none⟩) lr).trans c1), cset_at ((b.cell (p := ⟨r, 2, none⟩) lr).trans c2), fun i => fset_any.trans ((b.frozen (p := ⟨r, i, none⟩) lr).trans (f i)), holdsB_turn h t ne, ne⟩, t⟩)
  have STA := Lib.hid (show ∀ k (y : Nat), RdM r a n cap bs y bad ((w.drewN k).setCell ⟨r, 1, none⟩ (.int .i64 (y : Int))) ∧ Turn (fun q => q = r) w ((w.drewN k).setCell ⟨r, 1, none⟩ (.int .i64 (y : Int))) from fun k y => by
    have b := below_drewN w k
    have t : Turn (fun q => q = r) w ((w.drewN k).setCell ⟨r, 1, none⟩ (.int .i64 (y : Int))) := (Turn.of_below b).trans (Turn.setCell rfl)
    exact ⟨⟨(cset_ne (by omega)).trans ((b.cell (p := ⟨r, 0, none⟩) lr).trans c0), cset_at ((b.cell (p := ⟨r, 1, none⟩) lr).trans c1), (cset_ne (by omega)).trans ((b.cell (p := ⟨r, 2, none⟩) lr).trans c2), fun i => fset_any.trans ((b.frozen (p := ⟨r, i, none⟩) lr).trans (f i)), holdsB_turn h t ne, ne⟩, t⟩)
  by_cases hle : at_ + s ≤ n
  · have CN := Lib.hid (fun w' (hb : Below w.heap.size w w') => (show Calls Try.prog 45 #[.slice a n cap, .int .i64 (at_ : Int), .int .i64 (s : Int)] w' fun e w'' => e = .returned (.tuple #[.int .i64 (numN bs at_ s : Nat), .bool true]) ∧ w' = w'' from by
      have h2 := num_yes a n cap bs at_ s w' (h.below hb) (by omega) h1 (by omega) hle
      rw [wrap_small _ (by
        have h3 := numN_lt bs at_ s h.2 (by rw [h.len]; omega)
        have h5 : 256 ^ s ≤ 256 ^ 4 := Nat.pow_le_pow_right (by decide) h4
        have : (256 : Nat) ^ 4 = 4294967296 := by decide
        omega)] at h2
      exact h2))
    cases bad with
    | false =>
      have e1 : okR n at_ s false = true := by unfold okR; simpa using hle
      have EN : numR bs n at_ s false = numN bs at_ s := by unfold numR; rw [e1]; rfl
      have EA : atR n at_ s false = at_ + s := by unfold atR; rw [e1]; rfl
      rw [EN, EA, e1]
      have e2 : (at_ : Int) + (s : Int) = ((at_ + s : Nat) : Int) := by omega
      obtain ⟨y, hy⟩ : ∃ y, at_ + s = y := ⟨_, rfl⟩
      rw [hy] at e2 ⊢
      clear hle h f hy e1 EN EA
      go_enter Try.func75, Try.ntmps75
      go_wp2_with fail
      go_quiet ((go_at_call 45; exact Calls.quiet_of_same ((CN.out _ (by first | exact (Below.refl _ _).drew | exact below_drewN _ _)).mono (fun _ _ h => ⟨h.1, h.2.symm⟩))))
      go_wp2_with fail
      go_ret
      exact ⟨rfl, STA.out nq y⟩
    | true =>
      have e1 : okR n at_ s true = false := rfl
      have EN : numR bs n at_ s true = 0 := rfl
      have EA : atR n at_ s true = at_ := rfl
      rw [EN, EA, e1]
      clear hle h f e1 EN EA
      go_enter Try.func75, Try.ntmps75
      go_wp2_with fail
      go_quiet ((go_at_call 45; exact Calls.quiet_of_same ((CN.out _ (by first | exact (Below.refl _ _).drew | exact below_drewN _ _)).mono (fun _ _ h => ⟨h.1, h.2.symm⟩))))
      go_wp2_with fail
      go_ret
      exact ⟨rfl, STB.out nq⟩
  · have CN := Lib.hid (fun w' => (show Calls Try.prog 45 #[.slice a n cap, .int .i64 (at_ : Int), .int .i64 (s : Int)] w' fun e w'' => e = .returned (.tuple #[.int .i64 0, .bool false]) ∧ w' = w'' from
      num_no a n cap at_ s w' (by omega) (by omega) (by omega)))
    have e1 : okR n at_ s bad = false := by unfold okR; rw [decide_eq_false hle, Bool.and_false]
    have EN : numR bs n at_ s bad = 0 := by unfold numR; rw [e1]; rfl
    have EA : atR n at_ s bad = at_ := by unfold atR; rw [e1]; rfl
    rw [EN, EA, e1]
    clear hle h f e1 EN EA
    cases bad
    all_goals
      go_enter Try.func75, Try.ntmps75
      go_wp2_with fail
      go_quiet ((go_at_call 45; exact Calls.quiet_of_same ((CN.out _).mono (fun _ _ h => ⟨h.1, h.2.symm⟩))))
      go_wp2_with fail
      go_ret
      exact ⟨rfl, STB.out nq⟩
theorem rdRead_any (a : Option Addr) (n cap : Nat) (bs : List Nat) (w : World) (h : HoldsB w a n bs) (ha : ∀ q o, a = some ⟨q, o, none⟩ → q < w.heap.size) :
    Calls Try.prog 74 #[.slice a n cap] w fun e w' => e = .returned (.pointer (some ⟨w.heap.size, 0, none⟩)) ∧ RdM w.heap.size a n cap bs 0 false w' ∧ Below w.heap.size w w' ∧ w'.heap.size = w.heap.size + 1 := by
  have FIN := Lib.hid (show RdM w.heap.size a n cap bs 0 false (w.alloc (.cells #[.slice a n cap, .int .i64 0, .bool false] 121)) from
    ⟨by rw [cell_alloc rfl]; rfl, by rw [cell_alloc rfl]; rfl, by rw [cell_alloc rfl]; rfl, fun i => frozen_alloc rfl, h.below (below_one _ _), fun q o e => by have := ha q o e; omega⟩)
  have B := Lib.hid (below_one w (.cells #[.slice a n cap, .int .i64 0, .bool false] 121))
  clear h ha
  go_enter Try.func74, Try.ntmps74
  go_wp2_with fail
  go_ret
  exact ⟨rfl, FIN.out, B.out, by simp⟩
end Go.Proofs.Ythboiklcjpnhbaa
/- contracts of code: a text read -/
namespace Go.Proofs.Ythboiklcjpnhbaa
open Go.RowKit
set_option linter.unusedVariables false
set_option maxRecDepth 20000
/-- the text of bytes -/
def strN (bs : List Nat) : ByteArray := strOfNums (bs.map fun b : Nat => (b : Int))
theorem strN_nil : strN [] = ⟨#[]⟩ := rfl
theorem run_conv_bytes {P : Program} (w : World) (src e dst : TypeId) (hs : P.underlying src = some (.slice e)) (he : P.underlying e = some (.int .u8)) (hd : P.underlying dst = some .string) (a : Option Addr) (n cap : Nat) (bs : List Nat) (h : HoldsB w a n bs) :
    (convert src dst (.slice a n cap)).run P w = .ok (.string (strN bs)) w := by
  have hl := h.len
  rcases Nat.eq_zero_or_pos n with h0 | h0
  · subst h0
    obtain rfl := List.eq_nil_of_length_eq_zero hl
    rw [run_convert_bytes_string w src dst e a 0 cap hs he hd]
    cases a with
    | none => simp [Conv.bytesToString]; rfl
    | some ad => simp [Conv.bytesToString]; rfl
  · obtain ⟨b, o, rfl, hc⟩ := h.at h0
    exact run_convert_bytes_arg (P := P) w src e hs he b o n cap (bs.map fun b : Nat => (b : Int)) (by simpa using hl) (fun i hi => by rw [hc i (by simpa [hl] using hi), getD_map_cast]) dst hd
/-- the bytes of the text at k -/
def textN (bs : List Nat) (k : Nat) : List Nat := (bs.take (k + 2 + numN bs k 2)).drop (k + 2)

theorem ret_mid {u v : Value} {x y : Int} (h : x = y) : Ending.returned (.tuple #[u, .int .i64 x, v]) = .returned (.tuple #[u, .int .i64 y, v]) := by rw [h]

set_option maxHeartbeats 800000 in
theorem text_yes (a : Option Addr) (n cap : Nat) (bs : List Nat) (k : Nat) (w : World) (h : HoldsB w a n bs) (hn : n ≤ 4611686018427387904) (hcap : n ≤ cap) (hk : k + 2 + numN bs k 2 ≤ n) :
    Calls Try.prog 104 #[.slice a n cap, .int .i64 k] w fun e w' => e = .returned (.tuple #[.string (strN (textN bs k)), .int .i64 ((k + 2 + numN bs k 2 : Nat) : Int), .bool true]) ∧ w = w' := by
  obtain ⟨b, o, rfl, hcell⟩ := h.at (by omega)
  have hl := h.len
  have hm6 := numN_lt bs k 2 h.2 (by omega)
  have hm7 : numN bs k 2 < 65536 := hm6
  have hnum := num_yes (some ⟨b, o, none⟩) n cap bs k 2 w h (by omega) (by omega) (by omega) (by omega)
  have hconv : ∀ c, (convert 39 9 (.slice (some ⟨b, o + (k + 2), none⟩) (numN bs k 2) c)).run Try.prog w = .ok (.string (strN (textN bs k))) w := fun c =>
    run_conv_bytes w 39 5 9 Try.underlying39 Try.underlying5 Try.underlying9 _ _ c _ (h.part (k + 2) (k + 2 + numN bs k 2) (by omega) (by omega) (numN bs k 2) (by omega))
  have hconv0 : cap = k + 2 → ∀ c, (convert 39 9 (.slice (some ⟨b, o, none⟩) 0 c)).run Try.prog w = .ok (.string (strN (textN bs k))) w := by
    intro e c
    have hz : textN bs k = [] := by
      apply List.eq_nil_of_length_eq_zero; unfold textN; simp; omega
    rw [hz]
    exact run_conv_bytes w 39 5 9 Try.underlying39 Try.underlying5 Try.underlying9 _ 0 c [] (holdsB_nil _ _)
  have hwr : wrap64 ((numN bs k 2 : Nat) : Int) = ((numN bs k 2 : Nat) : Int) := IntWalk.wrap64_in _ ⟨by omega, by omega⟩
  rw [hwr] at hnum
  obtain ⟨T, hT⟩ : ∃ T, strN (textN bs k) = T := ⟨_, rfl⟩
  rw [hT] at hconv hconv0 ⊢
  obtain ⟨m, hm⟩ : ∃ m, numN bs k 2 = m := ⟨_, rfl⟩
  rw [hm] at hnum hconv hm7 hk ⊢
  clear hT hm hm6 hwr hcell hl h
  have HNUM := Lib.hid hnum
  clear hnum
  by_cases hc : cap = k + 2
  · obtain rfl : m = 0 := by omega
    obtain rfl : n = k + 2 := by omega
    have hv := hconv0 hc
    subst hc
    clear hconv hconv0 hk hcap hm7
    go_enter Try.func104, Try.ntmps104
    go_wp2_with fail
    refine HNUM.out.mono ?_
    rintro e w' ⟨rfl, rfl⟩
    go_wp2_with fail
    go_ret3
    exact ⟨ret_mid (by omega), rfl⟩
  · have hv := hconv
    clear hconv hconv0
    go_enter Try.func104, Try.ntmps104
    go_wp2_with fail
    refine HNUM.out.mono ?_
    rintro e w' ⟨rfl, rfl⟩
    go_wp2_with fail
    go_ret3
    exact ⟨ret_mid (by omega), rfl⟩

theorem text_none (a : Option Addr) (n cap : Nat) (k : Int) (w : World) (hn : n ≤ 4611686018427387904) (hk : k ≤ 9223372036854775807) (hno : ¬ (0 ≤ k ∧ k + 2 ≤ n)) :
    Calls Try.prog 104 #[.slice a n cap, .int .i64 k] w fun e w' => e = .returned (.tuple #[.string ⟨#[]⟩, .int .i64 0, .bool false]) ∧ w = w' := by
  have hnum := num_no a n cap k 2 w (by omega) hk (by omega)
  have HNUM := Lib.hid hnum
  clear hnum
  go_enter Try.func104, Try.ntmps104
  go_wp2_with fail
  refine HNUM.out.mono ?_
  rintro e w' ⟨rfl, rfl⟩
  go_wp2_with fail
  go_ret3
  exact ⟨rfl, rfl⟩
theorem text_far (a : Option Addr) (n cap : Nat) (bs : List Nat) (k : Nat) (w : World) (h : HoldsB w a n bs) (hn : n ≤ 4611686018427387904) (hk : k + 2 ≤ n) (hno : n < k + 2 + numN bs k 2) :
    Calls Try.prog 104 #[.slice a n cap, .int .i64 k] w fun e w' => e = .returned (.tuple #[.string ⟨#[]⟩, .int .i64 0, .bool false]) ∧ w = w' := by
  have hl := h.len
  have hm6 := numN_lt bs k 2 h.2 (by omega)
  have hm7 : numN bs k 2 < 65536 := hm6
  have hnum := num_yes a n cap bs k 2 w h (by omega) (by omega) (by omega) (by omega)
  have hwr : wrap64 ((numN bs k 2 : Nat) : Int) = ((numN bs k 2 : Nat) : Int) := IntWalk.wrap64_in _ ⟨by omega, by omega⟩
  rw [hwr] at hnum
  obtain ⟨m, hm⟩ : ∃ m, numN bs k 2 = m := ⟨_, rfl⟩
  rw [hm] at hnum hm7 hno
  clear hm hm6 hwr hl h
  have HNUM := Lib.hid hnum
  clear hnum
  go_enter Try.func104, Try.ntmps104
  go_wp2_with fail
  refine HNUM.out.mono ?_
  rintro e w' ⟨rfl, rfl⟩
  go_wp2_with fail
  go_ret3
  exact ⟨rfl, rfl⟩

set_option maxHeartbeats 800000 in
theorem rtext_yes (a : Option Addr) (n cap : Nat) (bs : List Nat) (k : Nat) (w : World) (h : HoldsB w a n bs) (hn : n ≤ 4611686018427387904) (hcap : n ≤ cap) (hk : k + 2 + numN bs k 2 ≤ n) :
    Calls Try.prog 99 #[.slice a n cap, .int .i64 k] w fun e w' => e = .returned (.tuple #[.string (strN (textN bs k)), .int .i64 ((k + 2 + numN bs k 2 : Nat) : Int), .bool true]) ∧ w = w' := by
  obtain ⟨b, o, rfl, hcell⟩ := h.at (by omega)
  have hl := h.len
  have hm6 := numN_lt bs k 2 h.2 (by omega)
  have hm7 : numN bs k 2 < 65536 := hm6
  have hnum := rnum_yes (some ⟨b, o, none⟩) n cap bs k 2 w h (by omega) (by omega) (by omega) (by omega)
  have hconv : ∀ c, (convert 39 9 (.slice (some ⟨b, o + (k + 2), none⟩) (numN bs k 2) c)).run Try.prog w = .ok (.string (strN (textN bs k))) w := fun c =>
    run_conv_bytes w 39 5 9 Try.underlying39 Try.underlying5 Try.underlying9 _ _ c _ (h.part (k + 2) (k + 2 + numN bs k 2) (by omega) (by omega) (numN bs k 2) (by omega))
  have hconv0 : cap = k + 2 → ∀ c, (convert 39 9 (.slice (some ⟨b, o, none⟩) 0 c)).run Try.prog w = .ok (.string (strN (textN bs k))) w := by
    intro e c
    have hz : textN bs k = [] := by
      apply List.eq_nil_of_length_eq_zero; unfold textN; simp; omega
    rw [hz]
    exact run_conv_bytes w 39 5 9 Try.underlying39 Try.underlying5 Try.underlying9 _ 0 c [] (holdsB_nil _ _)
  have hwr : wrap64 ((numN bs k 2 : Nat) : Int) = ((numN bs k 2 : Nat) : Int) := IntWalk.wrap64_in _ ⟨by omega, by omega⟩
  rw [hwr] at hnum
  obtain ⟨T, hT⟩ : ∃ T, strN (textN bs k) = T := ⟨_, rfl⟩
  rw [hT] at hconv hconv0 ⊢
  obtain ⟨m, hm⟩ : ∃ m, numN bs k 2 = m := ⟨_, rfl⟩
  rw [hm] at hnum hconv hm7 hk ⊢
  clear hT hm hm6 hwr hcell hl h
  have HNUM := Lib.hid hnum
  clear hnum
  by_cases hc : cap = k + 2
  · obtain rfl : m = 0 := by omega
    obtain rfl : n = k + 2 := by omega
    have hv := hconv0 hc
    subst hc
    clear hconv hconv0 hk hcap hm7
    go_enter Try.func99, Try.ntmps99
    go_wp2_with fail
    refine HNUM.out.mono ?_
    rintro e w' ⟨rfl, rfl⟩
    go_wp2_with fail
    go_ret3
    exact ⟨ret_mid (by omega), rfl⟩
  · have hv := hconv
    clear hconv hconv0
    go_enter Try.func99, Try.ntmps99
    go_wp2_with fail
    refine HNUM.out.mono ?_
    rintro e w' ⟨rfl, rfl⟩
    go_wp2_with fail
    go_ret3
    exact ⟨ret_mid (by omega), rfl⟩

theorem rtext_none (a : Option Addr) (n cap : Nat) (k : Int) (w : World) (hn : n ≤ 4611686018427387904) (hk : k ≤ 9223372036854775807) (hno : ¬ (0 ≤ k ∧ k + 2 ≤ n)) :
    Calls Try.prog 99 #[.slice a n cap, .int .i64 k] w fun e w' => e = .returned (.tuple #[.string ⟨#[]⟩, .int .i64 0, .bool false]) ∧ w = w' := by
  have hnum := rnum_no a n cap k 2 w (by omega) (by omega)
  have HNUM := Lib.hid hnum
  clear hnum
  go_enter Try.func99, Try.ntmps99
  go_wp2_with fail
  refine HNUM.out.mono ?_
  rintro e w' ⟨rfl, rfl⟩
  go_wp2_with fail
  go_ret3
  exact ⟨rfl, rfl⟩
theorem rtext_far (a : Option Addr) (n cap : Nat) (bs : List Nat) (k : Nat) (w : World) (h : HoldsB w a n bs) (hn : n ≤ 4611686018427387904) (hk : k + 2 ≤ n) (hno : n < k + 2 + numN bs k 2) :
    Calls Try.prog 99 #[.slice a n cap, .int .i64 k] w fun e w' => e = .returned (.tuple #[.string ⟨#[]⟩, .int .i64 0, .bool false]) ∧ w = w' := by
  have hl := h.len
  have hm6 := numN_lt bs k 2 h.2 (by omega)
  have hm7 : numN bs k 2 < 65536 := hm6
  have hnum := rnum_yes a n cap bs k 2 w h (by omega) (by omega) (by omega) (by omega)
  have hwr : wrap64 ((numN bs k 2 : Nat) : Int) = ((numN bs k 2 : Nat) : Int) := IntWalk.wrap64_in _ ⟨by omega, by omega⟩
  rw [hwr] at hnum
  obtain ⟨m, hm⟩ : ∃ m, numN bs k 2 = m := ⟨_, rfl⟩
  rw [hm] at hnum hm7 hno
  clear hm hm6 hwr hl h
  have HNUM := Lib.hid hnum
  clear hnum
  go_enter Try.func99, Try.ntmps99
  go_wp2_with fail
  refine HNUM.out.mono ?_
  rintro e w' ⟨rfl, rfl⟩
  go_wp2_with fail
  go_ret3
  exact ⟨rfl, rfl⟩
end Go.Proofs.Ythboiklcjpnhbaa
/- msg: reading fields: numbers, texts, flags, items -/
namespace Go.Proofs.Ythboiklcjpnhbaa
open Go.RowKit
set_option linter.unusedVariables false
set_option maxRecDepth 20000
/-- how far a reader is, and whether something was missing -/
structure RS where
  k : Nat
  bad : Bool
def rNum (n s : Nat) (r : RS) : RS := ⟨atR n r.k s r.bad, !okR n r.k s r.bad⟩
def gNum (bs : List Nat) (n s : Nat) (r : RS) : Int := (numR bs n r.k s r.bad : Nat)
def okT (bs : List Nat) (n : Nat) (r : RS) : Bool := !r.bad && (decide (r.k + 2 ≤ n) && decide (r.k + 2 + numN bs r.k 2 ≤ n))
def gText (bs : List Nat) (n : Nat) (r : RS) : Tx := if okT bs n r then strN (textN bs r.k) else ⟨#[]⟩
def rText (bs : List Nat) (n : Nat) (r : RS) : RS := if okT bs n r then ⟨r.k + 2 + numN bs r.k 2, false⟩ else ⟨r.k, true⟩
theorem rNum_le {n s : Nat} {r : RS} (h : r.k ≤ n) : (rNum n s r).k ≤ n := by
  unfold rNum atR okR
  simp only
  split
  · rename_i h2; simp only [Bool.and_eq_true, decide_eq_true_eq] at h2; exact h2.2
  · exact h
theorem rText_le {bs : List Nat} {n : Nat} {r : RS} (h : r.k ≤ n) : (rText bs n r).k ≤ n := by
  unfold rText
  split
  · rename_i h2; unfold okT at h2; simp only [Bool.and_eq_true, decide_eq_true_eq] at h2; exact h2.2.2
  · exact h
structure RdS (r : Nat) (a : Option Addr) (n cap : Nat) (bs : List Nat) (s : RS) (w : World) : Prop where
  m : RdM r a n cap bs s.k s.bad w
  le : s.k ≤ n
  hn : n ≤ 100000
  nc : n ≤ cap
theorem RdS.below {r : Nat} {a : Option Addr} {n cap : Nat} {bs : List Nat} {s : RS} {w w' : World} (h : RdS r a n cap bs s w) (hb : Below w.heap.size w w') : RdS r a n cap bs s w' :=
  ⟨h.m.turn (S := fun _ => False) (Turn.of_below hb) (fun h => h) (fun _ _ _ h => h), h.le, h.hn, h.nc⟩
def RdP (r : Nat) (a : Option Addr) (n cap : Nat) (bs : List Nat) (s : RS) (w : World) (V : Value) (e : Ending) (w' : World) : Prop := e = .returned V ∧ RdS r a n cap bs s w' ∧ Turn (fun k => k = r) w w'
theorem rsNum (z : Nat) (zi : Int) (hz : zi = (z : Int)) (h1 : 1 ≤ z) (h4 : z ≤ 4) {r : Nat} {a : Option Addr} {n cap : Nat} {bs : List Nat} {s : RS} (w : World) (h : RdS r a n cap bs s w) :
    Calls Try.prog 75 #[.pointer (some ⟨r, 0, none⟩), .int .i64 zi] w (RdP r a n cap bs (rNum n z s) w (.int .i64 (gNum bs n z s))) := by
  subst hz
  refine (rdNum_any r a n cap bs s.k s.bad z w h.m (by have := h.hn; omega) h.le h1 h4).mono ?_
  rintro e w' ⟨he, hm, ht⟩
  exact ⟨he, ⟨hm, rNum_le h.le, h.hn, h.nc⟩, ht⟩
set_option maxHeartbeats 3200000 in
theorem rsText {r : Nat} {a : Option Addr} {n cap : Nat} {bs : List Nat} {s : RS} (w : World) (hS : RdS r a n cap bs s w) :
    Calls Try.prog 95 #[.pointer (some ⟨r, 0, none⟩)] w (RdP r a n cap bs (rText bs n s) w (.string (gText bs n s))) := by
  obtain ⟨at_, bad⟩ := s
  obtain ⟨⟨c0, c1, c2, f, h, ne⟩, hat, hn, hnc⟩ := hS
  simp only at c1 c2 hat
  have f1 := f 1
  have f2 := f 2
  have g0 := (World.cell?_of_block (w := w) (w' := w.drew) (a := ⟨r, 0, none⟩) rfl).trans c0
  have g1 := (World.cell?_of_block (w := w) (w' := w.drew) (a := ⟨r, 1, none⟩) rfl).trans c1
  have lr := lt_of_cell c0
  have STB := Lib.hid (show ∀ k, RdS r a n cap bs ⟨at_, true⟩ ((w.drewN k).setCell ⟨r, 2, none⟩ (.bool true)) ∧ Turn (fun q => q = r) w ((w.drewN k).setCell ⟨r, 2, none⟩ (.bool true)) from fun k => by
    have b := below_drewN w k
    have t : Turn (fun q => q = r) w ((w.drewN k).setCell ⟨r, 2, none⟩ (.bool true)) := (Turn.of_below b).trans (Turn.setCell rfl)
    exact ⟨⟨⟨(cset_ne (by omega)).trans ((b.cell (p := ⟨r, 0, none⟩) lr).trans c0), (cset_ne (by omega)).trans ((b.cell (p := ⟨r, 1, none⟩) lr).trans c1), cset_at ((b.cell (p := ⟨r, 2, none⟩) lr).trans c2), fun i => fset_any.trans ((b.frozen (p := ⟨r, i, none⟩) lr).trans (f i)), holdsB_turn h t ne, ne⟩, hat, hn, hnc⟩, t⟩)
  have STA := Lib.hid (show ∀ k (y : Nat), y ≤ n → RdS r a n cap bs ⟨y, bad⟩ ((w.drewN k).setCell ⟨r, 1, none⟩ (.int .i64 (y : Int))) ∧ Turn (fun q => q = r) w ((w.drewN k).setCell ⟨r, 1, none⟩ (.int .i64 (y : Int))) from fun k y hy => by
    have b := below_drewN w k
    have t : Turn (fun q => q = r) w ((w.drewN k).setCell ⟨r, 1, none⟩ (.int .i64 (y : Int))) := (Turn.of_below b).trans (Turn.setCell rfl)
    exact ⟨⟨⟨(cset_ne (by omega)).trans ((b.cell (p := ⟨r, 0, none⟩) lr).trans c0), cset_at ((b.cell (p := ⟨r, 1, none⟩) lr).trans c1), (cset_ne (by omega)).trans ((b.cell (p := ⟨r, 2, none⟩) lr).trans c2), fun i => fset_any.trans ((b.frozen (p := ⟨r, i, none⟩) lr).trans (f i)), holdsB_turn h t ne, ne⟩, hy, hn, hnc⟩, t⟩)
  by_cases hok : at_ + 2 ≤ n ∧ at_ + 2 + numN bs at_ 2 ≤ n
  · obtain ⟨hk1, hk2⟩ := hok
    have CN := Lib.hid (fun w' (hb : Below w.heap.size w w') => text_yes a n cap bs at_ w' (h.below hb) (by omega) hnc hk2)
    obtain ⟨y, hy⟩ : ∃ y, at_ + 2 + numN bs at_ 2 = y := ⟨_, rfl⟩
    obtain ⟨sv, hsv⟩ : ∃ v, strN (textN bs at_) = v := ⟨_, rfl⟩
    rw [hy, hsv] at CN
    rw [hy] at hk2
    cases bad with
    | false =>
      have e1 : okT bs n ⟨at_, false⟩ = true := by unfold okT; simp [hk1, hy, hk2]
      have EN : gText bs n ⟨at_, false⟩ = sv := by unfold gText; rw [e1, if_pos rfl, hsv]
      have EA : rText bs n ⟨at_, false⟩ = ⟨y, false⟩ := by unfold rText; rw [e1, if_pos rfl, hy]
      rw [EN, EA]
      have YL := Lib.hid hk2
      clear hk1 hk2 h f hy hsv e1 EN EA
      go_enter Try.func95, Try.ntmps95
      go_wp2_with fail
      go_quiet ((go_at_call 104; exact Calls.quiet_of_same ((CN.out _ (by first | exact (Below.refl _ _).drew | exact below_drewN _ _)).mono (fun _ _ h => ⟨h.1, h.2.symm⟩))))
      go_wp2_with fail
      go_ret
      exact ⟨rfl, STA.out nq y YL.out⟩
    | true =>
      have e1 : okT bs n ⟨at_, true⟩ = false := rfl
      have EN : gText bs n ⟨at_, true⟩ = ⟨#[]⟩ := rfl
      have EA : rText bs n ⟨at_, true⟩ = ⟨at_, true⟩ := rfl
      rw [EN, EA]
      clear hk1 hk2 h f hy hsv e1 EN EA
      go_enter Try.func95, Try.ntmps95
      go_wp2_with fail
      go_quiet ((go_at_call 104; exact Calls.quiet_of_same ((CN.out _ (by first | exact (Below.refl _ _).drew | exact below_drewN _ _)).mono (fun _ _ h => ⟨h.1, h.2.symm⟩))))
      go_wp2_with fail
      go_ret
      exact ⟨rfl, STB.out nq⟩
  · have CN := Lib.hid (fun w' (hb : Below w.heap.size w w') => (show Calls Try.prog 104 #[.slice a n cap, .int .i64 (at_ : Int)] w' fun e w'' => e = .returned (.tuple #[.string ⟨#[]⟩, .int .i64 0, .bool false]) ∧ w' = w'' from by
      by_cases hk : at_ + 2 ≤ n
      · exact text_far a n cap bs at_ w' (h.below hb) (by omega) hk (by omega)
      · exact text_none a n cap at_ w' (by omega) (by omega) (by omega)))
    have e1 : okT bs n ⟨at_, bad⟩ = false := by
      unfold okT
      by_cases hk : at_ + 2 ≤ n
      · have : ¬ (at_ + 2 + numN bs at_ 2 ≤ n) := fun h => hok ⟨hk, h⟩
        simp [this]
      · simp [hk]
    have EN : gText bs n ⟨at_, bad⟩ = ⟨#[]⟩ := by unfold gText; rw [e1]; rfl
    have EA : rText bs n ⟨at_, bad⟩ = ⟨at_, true⟩ := by unfold rText; rw [e1]; rfl
    rw [EN, EA]
    clear hok h f e1 EN EA
    cases bad
    all_goals
      go_enter Try.func95, Try.ntmps95
      go_wp2_with fail
      go_quiet ((go_at_call 104; exact Calls.quiet_of_same ((CN.out _ (by first | exact (Below.refl _ _).drew | exact below_drewN _ _)).mono (fun _ _ h => ⟨h.1, h.2.symm⟩))))
      go_wp2_with fail
      go_ret
      exact ⟨rfl, STB.out nq⟩
def gFlag (bs : List Nat) (n : Nat) (s : RS) : Bool := gNum bs n 1 s == 1
theorem rsFlag {r : Nat} {a : Option Addr} {n cap : Nat} {bs : List Nat} {s : RS} (w : World) (h : RdS r a n cap bs s w) :
    Calls Try.prog 96 #[.pointer (some ⟨r, 0, none⟩)] w (RdP r a n cap bs (rNum n 1 s) w (.bool (gFlag bs n s))) := by
  have C := Lib.hid (rsNum 1 1 rfl (by omega) (by omega) w h)
  obtain ⟨v, hv⟩ : ∃ v, gNum bs n 1 s = v := ⟨_, rfl⟩
  have HV := Lib.hid (show gFlag bs n s = (v == 1) from by unfold gFlag; rw [hv])
  rw [hv] at C
  clear h hv
  go_enter Try.func96, Try.ntmps96
  go_wp2_with fail
  refine C.out.mono ?_
  rintro e w' ⟨rfl, hm, ht⟩
  have M := Lib.hid hm; have T := Lib.hid ht
  clear hm ht C
  go_wp2_with fail
  go_ret
  exact ⟨by rw [HV.out]; rfl, M.out, T.out⟩
def gItem (bs : List Nat) (n : Nat) (s : RS) : KV := (gNum bs n 1 s, gText bs n (rNum n 1 s))
def rItem (bs : List Nat) (n : Nat) (s : RS) : RS := rText bs n (rNum n 1 s)
theorem RdS.fresh {r p : Nat} {a : Option Addr} {n cap : Nat} {bs : List Nat} {s : RS} {w w' : World} (h : RdS r a n cap bs s w) (t : Turn (fun k => k = p) w w') (hr : r ≠ p) (ha : 0 < n → ∀ q o, a = some ⟨q, o, none⟩ → q ≠ p) : RdS r a n cap bs s w' := by
  have lr := lt_of_cell h.m.c0
  refine ⟨⟨(t.cell lr hr).trans h.m.c0, (t.cell lr hr).trans h.m.c1, (t.cell lr hr).trans h.m.c2, fun i => (t.frozen lr hr).trans (h.m.f i), ?_, h.m.ne⟩, h.le, h.hn, h.nc⟩
  rcases Nat.eq_zero_or_pos n with h0 | h0
  · subst h0
    have := List.length_eq_zero_iff.1 h.m.h.len
    subst this
    exact holdsB_nil _ _
  · exact holdsB_turn h.m.h t (fun q o e => ha h0 q o e)
theorem RdS.lt {r : Nat} {a : Option Addr} {n cap : Nat} {bs : List Nat} {s : RS} {w : World} (h : RdS r a n cap bs s w) (h0 : 0 < n) : ∀ q o, a = some ⟨q, o, none⟩ → q < w.heap.size := fun q o e => by
  obtain ⟨q2, o2, e2, hc⟩ := h.m.h.at h0
  rw [e] at e2
  injection e2 with e2; injection e2 with e2 e3; subst e2; subst e3
  exact lt_of_cell (hc 0 h0)
theorem rsItem {r : Nat} {a : Option Addr} {n cap : Nat} {bs : List Nat} {s : RS} (w : World) (h : RdS r a n cap bs s w) :
    Calls Try.prog 97 #[.pointer (some ⟨r, 0, none⟩)] w (RdP r a n cap bs (rItem bs n s) w (.agg #[.int .i64 (gItem bs n s).1, .string (gItem bs n s).2])) := by
  have BX := Lib.hid (below_one w (.cells #[.int .i64 0, .string ⟨#[]⟩] 27))
  obtain ⟨p, hp⟩ : ∃ p, w.heap.size = p := ⟨_, rfl⟩
  have XB := box2m w (.int .i64 0) (.string ⟨#[]⟩) 27
  have XF := fun i => frozen_alloc (w := w) (cs := #[.int .i64 0, .string ⟨#[]⟩]) (T := 27) (o := i) rfl
  obtain ⟨w1, hw1⟩ : ∃ w1, w.alloc (.cells #[.int .i64 0, .string ⟨#[]⟩] 27) = w1 := ⟨_, rfl⟩
  have lr := Lib.hid (show r < p from by rw [← hp]; exact lt_of_cell h.m.c0)
  rw [hw1] at BX XB XF
  rw [hp] at XB XF
  have PL := Lib.hid (lt_of_cell XB.1)
  have C1 := Lib.hid (rsNum 1 1 rfl (by omega) (by omega) w1 (h.below BX.out))
  have C2 := Lib.hid (fun w' (h' : RdS r a n cap bs (rNum n 1 s) w') => rsText w' h')
  have X0 := Lib.hid XB
  have XF0 := Lib.hid XF
  obtain ⟨v, hv⟩ : ∃ v, gNum bs n 1 s = v := ⟨_, rfl⟩
  obtain ⟨t, ht⟩ : ∃ t, gText bs n (rNum n 1 s) = t := ⟨_, rfl⟩
  have HV := Lib.hid (show gItem bs n s = (v, t) from by unfold gItem; rw [hv, ht])
  rw [hv] at C1
  rw [ht] at C2
  rw [HV.out]
  have TW := Lib.hid (show Turn (fun k => k = r) w w1 from Turn.of_below BX.out)
  have HP := Lib.hid hp
  have AL := Lib.hid (show 0 < n → ∀ q o, a = some ⟨q, o, none⟩ → q < p from hp ▸ fun h0 => h.lt h0)
  clear h hv ht XB XF
  go_enter Try.func97, Try.ntmps97
  go_upto_region 1 with fail
  try rw [hw1]
  try simp only [hp]
  clear hw1 hp
  go_wp2_with fail
  with_reducible refine C1.out.mono ?_
  rintro e w2 ⟨rfl, hm, ht⟩
  have M2 := Lib.hid hm; have T2 := Lib.hid ht
  have Y2 := Lib.hid (And.intro ((ht.cell PL.out (fun e => by have := lr.out; omega)).trans X0.out.1) ((ht.cell PL.out (fun e => by have := lr.out; omega)).trans X0.out.2))
  have C3 := Lib.hid (C2.out w2 hm)
  have P2 := Lib.hid (Nat.lt_of_lt_of_le PL.out ht.size)
  have F2 := Lib.hid (fun i => (ht.frozen (o := i) PL.out (fun e => by have := lr.out; omega)).trans (XF0.out i))
  clear hm ht C1 C2 X0 XF0
  go_wp2_with fail
  with_reducible refine C3.out.mono ?_
  rintro e w3 ⟨rfl, hm, ht⟩
  have y0 := (ht.cell P2.out (fun e => by have := lr.out; omega)).trans Y2.out.1
  have y1 := (ht.cell P2.out (fun e => by have := lr.out; omega)).trans Y2.out.2
  have f0 := (ht.frozen (o := 0) P2.out (fun e => by have := lr.out; omega)).trans (F2.out 0)
  have f1 := (ht.frozen (o := 1) P2.out (fun e => by have := lr.out; omega)).trans (F2.out 1)
  have P3 := Lib.hid (Nat.lt_of_lt_of_le P2.out ht.size)
  have TT := Lib.hid (show Turn (fun k => k = r) w ((w3.setCell ⟨p, 0, none⟩ (.int .i64 v)).setCell ⟨p, 1, none⟩ (.string t)) from by
    have h1 := (TW.out.trans T2.out).trans ht
    refine ⟨h1.os, h1.tape, h1.output, by have := h1.size; simpa [World.setCell] using this, fun k hk hn => ?_⟩
    have e1 : k ≠ p := fun e => by have := HP.out; omega
    rw [Below.heap_setCell _ _ _ _ e1, Below.heap_setCell _ _ _ _ e1]
    exact h1.block k hk hn)
  have MM := Lib.hid (show RdS r a n cap bs (rItem bs n s) ((w3.setCell ⟨p, 0, none⟩ (.int .i64 v)).setCell ⟨p, 1, none⟩ (.string t)) from (show RdS r a n cap bs (rItem bs n s) w3 from hm).fresh (p := p) ((Turn.setCell (F := fun k => k = p) rfl).trans (Turn.setCell (F := fun k => k = p) rfl)) (fun e => by have := lr.out; omega) (fun h0 q o e => by have := AL.out h0 q o e; omega))
  have g0 := cset_at (v := .int .i64 v) y0
  have g1 := cset_at (v := .string t) ((cset_ne (w := w3) (b := p) (o := 0) (p := 1) (v := .int .i64 v) (by omega)).trans y1)
  clear hm ht C3
  go_wp2_with fail
  exact bodyPost_ret (v := .agg #[.int .i64 v, .string t]) (by simp [results, go_sem, g0, g1]) rfl ⟨rfl, MM.out, TT.out⟩
def rItems (bs : List Nat) (n : Nat) : Nat → RS → RS
  | 0, s => s
  | k + 1, s => rItem bs n (rItems bs n k s)
def gItems (bs : List Nat) (n : Nat) : Nat → RS → List KV
  | 0, _ => []
  | k + 1, s => gItems bs n k s ++ [gItem bs n (rItems bs n k s)]
theorem gItems_len (bs : List Nat) (n : Nat) (s : RS) : ∀ k, (gItems bs n k s).length = k
  | 0 => rfl
  | k + 1 => by simp [gItems, gItems_len bs n s k]
theorem RdS.old {r B : Nat} {a : Option Addr} {n cap : Nat} {bs : List Nat} {s : RS} {w w' : World} (h : RdS r a n cap bs s w) (t : Below B w w') (hB : B ≤ w.heap.size) (hr : r < B) (ha : 0 < n → ∀ q o, a = some ⟨q, o, none⟩ → q < B) : RdS r a n cap bs s w' := by
  have T : Turn (fun k => B ≤ k) w w' := ⟨t.os, t.tape, t.output, t.size, fun k _ hn => t.block k (by omega)⟩
  have lr := lt_of_cell h.m.c0
  refine ⟨⟨(T.cell lr (by omega)).trans h.m.c0, (T.cell lr (by omega)).trans h.m.c1, (T.cell lr (by omega)).trans h.m.c2, fun i => (T.frozen lr (by omega)).trans (h.m.f i), ?_, h.m.ne⟩, h.le, h.hn, h.nc⟩
  rcases Nat.eq_zero_or_pos n with h0 | h0
  · subst h0
    have := List.length_eq_zero_iff.1 h.m.h.len
    subst this
    exact holdsB_nil _ _
  · exact holdsB_turn h.m.h T (fun q o e hq => by have := ha h0 q o e; omega)
theorem two_newM {w : World} {B : Nat} {u v : Value} {t : TypeId} (hB : B = w.heap.size) : ∀ ad, some (⟨B, 0, none⟩ : Addr) = some ad → ∀ j x, [u, v][j]? = some x → (w.alloc (.cells #[u, v] t)).cell? (ad.add j) = some x := by
  subst hB
  intro ad e j x hx
  injection e with e; subst e
  match j, hx with
  | 0, hx => simp only [List.getElem?_cons_zero, Option.some.injEq] at hx; subst hx; exact (box2m w u v t).1
  | 1, hx => simp only [List.getElem?_cons_succ, List.getElem?_cons_zero, Option.some.injEq] at hx; subst hx; exact (box2m w u v t).2
  | k + 2, hx => simp at hx
def ItsP (r : Nat) (a : Option Addr) (n cap : Nat) (bs : List Nat) (s : RS) (w : World) (ks : List KV) (m : Nat) (e : Ending) (w' : World) : Prop :=
  ∃ ia ic, e = .returned (.slice ia m ic) ∧ HoldsK w' ia m ks ∧ (ia = none → m = 0 ∧ ic = 0) ∧ m ≤ ic ∧ w'.ownsRow w.heap.size 27 2 (.slice ia m ic) m (keysV ks) ∧ RdS r a n cap bs s w' ∧ Turn (fun k => k = r) w w'
set_option maxHeartbeats 3200000 in
theorem rsItems (m : Nat) {r : Nat} {a : Option Addr} {n cap : Nat} {bs : List Nat} {s : RS} (w : World) (h : RdS r a n cap bs s w) (hm : gNum bs n 1 s = (m : Int)) :
    Calls Try.prog 98 #[.pointer (some ⟨r, 0, none⟩)] w (ItsP r a n cap bs (rItems bs n m (rNum n 1 s)) w (gItems bs n m (rNum n 1 s)) m) := by
  obtain ⟨i0, hi, hz0, hz1, hz2⟩ := info_parts prI_info
  have m256 : m < 256 := by
    have h1 := numR_lt bs n s.k 1 s.bad h.m.h.2 h.m.h.len
    unfold gNum at hm
    have : (256 : Nat) ^ 1 = 256 := by decide
    omega
  have C1 := Lib.hid (rsNum 1 1 rfl (by omega) (by omega) w h)
  rw [hm] at C1
  obtain ⟨s1, hs1⟩ : ∃ s1, rNum n 1 s = s1 := ⟨_, rfl⟩
  rw [hs1] at C1 ⊢
  have LR := Lib.hid (lt_of_cell h.m.c0)
  have AL := Lib.hid (show 0 < n → ∀ q o, a = some ⟨q, o, none⟩ → q < w.heap.size from fun h0 => h.lt h0)
  clear h hm hs1
  go_enter Try.func98, Try.ntmps98
  go_wp2_with fail
  with_reducible refine C1.out.mono ?_
  rintro e w1 ⟨rfl, hM, hT⟩
  have M1 := Lib.hid hM; have T1 := Lib.hid hT
  clear hM hT C1
  go_wp2_with fail
  go_loopw [3, 6] (fun iv cv wr => ∃ (j : Nat) (ia : Option Addr) (ic : Nat), j ≤ m ∧ iv = .slice ia j ic ∧ cv = .int .i64 (j : Int) ∧ Hid (wr.ownsRow w.heap.size 27 2 (.slice ia j ic) j (keysV (gItems bs n j s1))) ∧ Hid (RdS r a n cap bs (rItems bs n j s1) wr) ∧ Hid (Turn (fun k => k = r) w wr) ∧ Hid (ia = none → j = 0 ∧ ic = 0)) (fun _ cv _ => m - (intOf cv).toNat)
  case atStart => exact ⟨0, none, 0, by omega, rfl, rfl, Lib.hid (World.ownsRow_nil _ _ _ _), M1, T1, Lib.hid (fun _ => ⟨rfl, rfl⟩)⟩
  case round =>
    clear M1 T1
    obtain ⟨j, ia, ic, hj, rfl, rfl, hO, hM, hT, hN⟩ := hrel
    rename World => wr
    by_cases hlt : j < m
    · have CI := Lib.hid (rsItem wr hM.out)
      obtain ⟨kv, hkv⟩ : ∃ kv, gItem bs n (rItems bs n j s1) = kv := ⟨_, rfl⟩
      rw [hkv] at CI
      obtain ⟨v1, v2⟩ := kv
      have GE := Lib.hid (show keysV (gItems bs n (j + 1) s1) = keysV (gItems bs n j s1) ++ [.int .i64 v1, .string v2] from by
        show keysV (gItems bs n j s1 ++ [gItem bs n (rItems bs n j s1)]) = _
        rw [keysV_app, hkv]; rfl)
      clear hkv
      go_wp2_with fail
      with_reducible refine CI.out.mono ?_
      rintro e w2 ⟨rfl, hM2, hT2⟩
      have M2 := Lib.hid hM2
      have T2 := Lib.hid (hT.out.trans hT2)
      have O2 := Lib.hid (show w2.ownsRow w.heap.size 27 2 (.slice ia j ic) j (keysV (gItems bs n j s1)) from hO.out.kept ⟨hT2.os, hT2.tape, hT2.output, hT2.size, fun k hk hn => hT2.block k hk (fun e => hn (by rw [e]))⟩ (row := some r) (by
        rcases h : (Value.slice ia j ic).ownBlock with _ | g
        · exact Or.inl rfl
        · right; intro e; injection e with e; have := (hO.out.lt g h).1; have := LR.out; omega))
      have Z2 := Lib.hid (show w.heap.size ≤ w2.heap.size from T2.out.size)
      clear hM2 hT2 CI hO hM hT
      go_wp2_with (at_builtin; refine wpList_append_any rfl (.tmp 8) (.tmp 11) 30 rfl w.heap.size 27 i0 _ 2 24 Try.underlying30 hi hz0 hz1 hz2 rfl (by decide) _ j _ rfl (O2.out.alloc _) _ 1 1 [.int .i64 v1, .string v2] rfl (fun e => by cases e) rfl (two_newM rfl) (by simp [Value.oneCell']) (by unfold maxLen; omega) (by omega) (by have := Z2.out; simp; omega) ?_; intro a3 c3 w3 hown3 hb3 hnil3)
      have O3 := Lib.hid (show w3.ownsRow w.heap.size 27 2 (.slice a3 (j + 1) c3) (j + 1) (keysV (gItems bs n (j + 1) s1)) from by rw [GE.out]; exact hown3)
      have B3 := Lib.hid (show Below w.heap.size w2 w3 from ((below_one w2 _).mono Z2.out).trans hb3)
      have M3 := Lib.hid (show RdS r a n cap bs (rItems bs n (j + 1) s1) w3 from M2.out.old B3.out Z2.out LR.out AL.out)
      have T3 := Lib.hid (show Turn (fun k => k = r) w w3 from T2.out.trans' (G := fun k => w.heap.size ≤ k) ⟨B3.out.os, B3.out.tape, B3.out.output, B3.out.size, fun k _ hn => B3.out.block k (by omega)⟩ (fun i hi => Or.inr hi))
      have N3 := Lib.hid hnil3
      clear hown3 hb3 hnil3
      go_wp2_with fail
      go_roundw
      case rel => exact ⟨j + 1, a3, c3, by omega, rfl, by go_num, O3, M3, T3, Lib.hid (fun e => N3.out e)⟩
      case measure => simp [intOf] <;> omega
    · obtain rfl : j = m := by omega
      have FF := Lib.hid (show ItsP r a n cap bs (rItems bs n j s1) w (gItems bs n j s1) j (.returned (.slice ia j ic)) wr from ⟨ia, ic, rfl, HoldsK.own hO.out, hN.out, (owns_none hO.out).2, hO.out, hM.out, hT.out⟩)
      clear hO hM hT hN
      go_wp2_with fail
      go_ret
      exact FF.out
end Go.Proofs.Ythboiklcjpnhbaa
