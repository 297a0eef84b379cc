/- texts joined -/
import Derived.WalkKit
import Derived.ProofKit
import Derived.OpenShut
import Derived.Lib.SmallJoins
import Derived.Lib.Hide
import Derived.Test.YtgnaiahnednllaaGreatChecked
import Derived.Maps.OwnSet
import Derived.WalkArith
import Derived.Carry
import Derived.OwnWalk
import Derived.Laws.AppendOwnNone
import Derived.Lib.SliceRun
import Derived.Deep.RegionLaw
import Derived.Outline
import Derived.WalkLawsBesides
import Derived.WalkSpells
import Derived.Deep.QuietTactic
import Derived.BigQuiet
import Derived.Deep.DeepCutAuto
import Derived.Deep.RegionHeld3
import Derived.Deep.AppendLies
import Derived.Laws.ResultCell
import Derived.Laws.BitsAllLaws
import Derived.Laws.DeepBits32
import Derived.Sort.Walk0
import Derived.Laws.RangeAny
import Derived.Lib.DecodeN
import Derived.Lib.OthersKept
import Derived.Deep.Slices
import Derived.SliceStrings
import Derived.Deep.RegionWith
import Derived.Laws.AppendOwn
import Derived.StringKeys
import Derived.Laws.OwnMore
import Derived.DeepKeys4
import Derived.Lib.AppendStr
import Derived.Lib.Strings
import Derived.Lib.ConvBytes
import Derived.Laws.BytesArg
import Derived.Lib.SlBytesRow
import Derived.Shelf.Strings.Builder1
import Derived.Shelf.Strings.BuilderK
import Derived.Shelf.Strings.BuilderRune
import Derived.Shelf.Utf8.AppendRune
import Derived.Lib.RuneBytes
import Derived.BigRegion
import Derived.Deep.CutRange
import Derived.Deep.CutBlock
import Derived.RangeFuncNested
import Derived.RangeFuncBound
import Derived.RangeFuncCalls
import Derived.RangeFuncLeaves
import Derived.RangeFuncBox
import Derived.Shelf.Abstract
import Derived.Shelf.RegionOpen
import Derived.OwnWalkIn
import Derived.TacticsInMore
import Derived.LoopNIn
import Derived.LoopIn
import Derived.Deep.LoopGhost
import Derived.Sort.Grow
import Derived.Shelf.SlSortCmp.NoneTotal
import Derived.Ground.SlsfProg
import Derived.Sort.OwnSorted
import Derived.Laws.Rows
import Derived.ArgAppend
import Derived.Test.YtgnaiahnednllaaGreatPkXG
namespace Go.Proofs.YtgnaiahnednllaaGreat
open Go.RowKit
set_option linter.unusedVariables false
set_option maxRecDepth 20000
theorem below_rowV {B p : Nat} {w w' : World} (h : Below B w w') (hp : B ≤ p) (cs : Array Value) : Below B w (w'.setRow p cs) :=
  ⟨h.os, h.tape, h.output, by simpa using h.size, fun k hk => (setRow_other w' p k cs (by omega)).trans (h.block k hk)⟩
theorem CutI.low {w : World} {B B' : Nat} {a : Option Addr} {n : Nat} {ys : List KV} (h : CutI w B a n ys) (hb : B' ≤ B) : CutI w B' a n ys := by
  obtain ⟨e, m, c, zs, ho, h1, h2⟩ := h
  exact ⟨e, m, c, zs, base_less9 ho hb, h1, h2⟩
theorem CutI.at_ {w : World} {B : Nat} {a : Option Addr} {n : Nat} {ys : List KV} (h : CutI w B a n ys) : ∀ q o, a = some ⟨q, o, none⟩ → B ≤ q := fun q o e => by
  obtain ⟨_, m, c, zs, ho, _⟩ := h
  have := (ho.lt q (by rw [e]; rfl)).1
  omega
theorem CutI.row {w : World} {B p : Nat} {a : Option Addr} {n : Nat} {ys : List KV} {cs : Array Value} (h : CutI w B a n ys) (hp : ∀ q o, a = some ⟨q, o, none⟩ → q ≠ p) : CutI (w.setRow p cs) B a n ys := by
  obtain ⟨e, m, c, zs, ho, h1, h2⟩ := h
  exact ⟨e, m, c, zs, owns_block0 ho (fun g hg => setRow_other w p g cs (hp g 0 hg)), h1, h2⟩
theorem field_ldg (g : Nat) (ge : Int) (w : World) : (Instr.field 132 (.agg #[.pointer (some ⟨g, 0, none⟩), .int .i64 ge]) 0).run Tryz.prog w = .ok (.pointer (some ⟨g, 0, none⟩)) w := by rfl
/-- a reply is made -/
def AnsP (w : World) (id ep : Int) (a : AskP) (n : Nat) (ys : List KV) (bz : Bool) (e : Ending) (w' : World) : Prop := ∃ ia, e = .returned (.agg #[.int .i64 a.slot, .int .i64 a.query, .int .i64 a.shard, .int .i64 a.seq, .int .i64 id, .int .i64 ep, .slice ia n n, .bool bz]) ∧ CutI w' w.heap.size ia n ys ∧ (ia = none → n = 0) ∧ Below w.heap.size w w'
set_option maxHeartbeats 3200000 in
theorem answer_any {b d q mm nm g : Nat} {id wl ep : Int} {sh : Int → Option LD} {ts : List Tx} (a : AskP) (ge : Int) (Fl ys : List KV) (n : Nat) (bz : Bool) (w : World) (hx : WBox w b d id true wl ep (some q) (some mm)) (hm : MapV w mm nm (lV sh)) (hwf : wfI a.shard) (hl : (lV sh a.shard).getD ldZ = .agg #[.pointer (some ⟨g, 0, none⟩), .int .i64 ge]) (hg : GrOk g ts w) (hs : a.text.size ≤ 1100)
    (hF : restK a.first (a.ad, a.aw) (matchK ts a.text a.k) = Fl) (hn : cntK a.batch Fl.length = n) (hy : Fl.take n = ys) (hbz : decide (n = Fl.length) = bz) :
    Calls Tryz.prog 78 #[.pointer (some ⟨b, 0, none⟩), .agg #[.int .i64 a.slot, .int .i64 a.query, .int .i64 a.shard, .int .i64 a.seq, .int .i64 a.epoch, .string a.text, .int .i64 a.k, .int .i64 a.batch, .bool a.first, .int .i64 a.ad, .string a.aw]] w (AnsP w id ep a n ys bz) := by
  have fe := fun w0 => field_ldg g ge w0
  obtain ⟨w1, hw1⟩ : ∃ w1, w.alloc (.cells #[.int .i64 a.slot, .int .i64 a.query, .int .i64 a.shard, .int .i64 a.seq, .int .i64 a.epoch, .string a.text, .int .i64 a.k, .int .i64 a.batch, .bool a.first, .int .i64 a.ad, .string a.aw] 41) = w1 := ⟨_, rfl⟩
  obtain ⟨w2, hw2⟩ : ∃ w2, w1.alloc (.cells #[.int .i64 0, .int .i64 0, .int .i64 0, .int .i64 0, .int .i64 0, .int .i64 0, .slice none 0 0, .bool false] 77) = w2 := ⟨_, rfl⟩
  have b1 : Below w.heap.size w w1 := hw1 ▸ below_one w _
  have b2 : Below w1.heap.size w1 w2 := hw2 ▸ below_one w1 _
  have BX := Lib.hid (b1.trans (b2.mono b1.size))
  have i1 := MAskIn_new w a w.heap.size 41 (0, 0) rfl
  rw [hw1] at i1
  obtain ⟨p, hp⟩ : ∃ p, w.heap.size = p := ⟨_, rfl⟩
  obtain ⟨r, hr⟩ : ∃ r, p + 1 = r := ⟨_, rfl⟩
  have hr1 : w1.heap.size = r := by rw [← hr, ← hp, ← hw1]; simp
  rw [hp] at i1
  have IN := Lib.hid (i1.below b2)
  have R2 : w2.heap[r]? = some (.cells #[.int .i64 0, .int .i64 0, .int .i64 0, .int .i64 0, .int .i64 0, .int .i64 0, .slice none 0 0, .bool false] 77 (0, 0)) := by rw [← hr1, ← hw2]; exact heap_alloc_new w1 _
  have RB := Lib.hid (show ∀ X : World, Below w2.heap.size w2 X → X.heap[r]? = some (.cells #[.int .i64 0, .int .i64 0, .int .i64 0, .int .i64 0, .int .i64 0, .int .i64 0, .slice none 0 0, .bool false] 77 (0, 0)) from fun X hb => (hb.block r (Array.getElem?_eq_some_iff.1 R2).1).trans R2)
  have LT := Lib.hid (show p < r ∧ r < w2.heap.size ∧ b < p from ⟨by omega, (Array.getElem?_eq_some_iff.1 R2).1, hp ▸ hx.lt⟩)
  have LE := Lib.hid (show w.heap.size ≤ w2.heap.size from BX.out.size)
  have X2 := hx.below BX.out
  have M2 := hm.below BX.out
  have G2 := Lib.hid (hg.below BX.out)
  have SB := Lib.hid (show ∀ w', Below w2.heap.size w2 w' → ((Below w2.heap.size w2 w' ∧ (w'.cell? ⟨p, 0, none⟩ = some (.int .i64 a.slot) ∧ w'.cell? ⟨p, 1, none⟩ = some (.int .i64 a.query) ∧ w'.cell? ⟨p, 2, none⟩ = some (.int .i64 a.shard) ∧ w'.cell? ⟨p, 3, none⟩ = some (.int .i64 a.seq) ∧ w'.cell? ⟨p, 4, none⟩ = some (.int .i64 a.epoch) ∧ w'.cell? ⟨p, 5, none⟩ = some (.string a.text) ∧ w'.cell? ⟨p, 6, none⟩ = some (.int .i64 a.k) ∧ w'.cell? ⟨p, 7, none⟩ = some (.int .i64 a.batch) ∧ w'.cell? ⟨p, 8, none⟩ = some (.bool a.first) ∧ w'.cell? ⟨p, 9, none⟩ = some (.int .i64 a.ad) ∧ w'.cell? ⟨p, 10, none⟩ = some (.string a.aw))) ∧ w'.cell? ⟨b, 6, none⟩ = some (.map (some mm)) ∧ (Instr.lookup 93 (.map (some mm)) (.int .i64 a.shard) false).run Tryz.prog w' = .ok (.agg #[.pointer (some ⟨g, 0, none⟩), .int .i64 ge]) w') from fun w' hb =>
    ⟨⟨hb, IN.out.below hb⟩, (X2.below hb).c6, by rw [(M2.below hb).get_run mapTl a.shard hwf, hl]⟩)
  have S2 := Lib.hid (show ∀ w', Below w2.heap.size w2 w' → ((w'.cell? ⟨p, 0, none⟩ = some (.int .i64 a.slot) ∧ w'.cell? ⟨p, 1, none⟩ = some (.int .i64 a.query) ∧ w'.cell? ⟨p, 2, none⟩ = some (.int .i64 a.shard) ∧ w'.cell? ⟨p, 3, none⟩ = some (.int .i64 a.seq) ∧ w'.cell? ⟨p, 4, none⟩ = some (.int .i64 a.epoch) ∧ w'.cell? ⟨p, 5, none⟩ = some (.string a.text) ∧ w'.cell? ⟨p, 6, none⟩ = some (.int .i64 a.k) ∧ w'.cell? ⟨p, 7, none⟩ = some (.int .i64 a.batch) ∧ w'.cell? ⟨p, 8, none⟩ = some (.bool a.first) ∧ w'.cell? ⟨p, 9, none⟩ = some (.int .i64 a.ad) ∧ w'.cell? ⟨p, 10, none⟩ = some (.string a.aw)) ∧ w'.cell? ⟨b, 0, none⟩ = some (.int .i64 id) ∧ w'.cell? ⟨b, 4, none⟩ = some (.int .i64 ep)) from fun w' hb => ⟨IN.out.below hb, (X2.below hb).c0, (X2.below hb).c4⟩)
  have KEEP := Lib.hid (show ∀ (X : World) (cs : Array Value), ((X.cell? ⟨p, 0, none⟩ = some (.int .i64 a.slot) ∧ X.cell? ⟨p, 1, none⟩ = some (.int .i64 a.query) ∧ X.cell? ⟨p, 2, none⟩ = some (.int .i64 a.shard) ∧ X.cell? ⟨p, 3, none⟩ = some (.int .i64 a.seq) ∧ X.cell? ⟨p, 4, none⟩ = some (.int .i64 a.epoch) ∧ X.cell? ⟨p, 5, none⟩ = some (.string a.text) ∧ X.cell? ⟨p, 6, none⟩ = some (.int .i64 a.k) ∧ X.cell? ⟨p, 7, none⟩ = some (.int .i64 a.batch) ∧ X.cell? ⟨p, 8, none⟩ = some (.bool a.first) ∧ X.cell? ⟨p, 9, none⟩ = some (.int .i64 a.ad) ∧ X.cell? ⟨p, 10, none⟩ = some (.string a.aw)) ∧ X.cell? ⟨b, 0, none⟩ = some (.int .i64 id) ∧ X.cell? ⟨b, 4, none⟩ = some (.int .i64 ep)) → (((X.setRow r cs).cell? ⟨p, 0, none⟩ = some (.int .i64 a.slot) ∧ (X.setRow r cs).cell? ⟨p, 1, none⟩ = some (.int .i64 a.query) ∧ (X.setRow r cs).cell? ⟨p, 2, none⟩ = some (.int .i64 a.shard) ∧ (X.setRow r cs).cell? ⟨p, 3, none⟩ = some (.int .i64 a.seq) ∧ (X.setRow r cs).cell? ⟨p, 4, none⟩ = some (.int .i64 a.epoch) ∧ (X.setRow r cs).cell? ⟨p, 5, none⟩ = some (.string a.text) ∧ (X.setRow r cs).cell? ⟨p, 6, none⟩ = some (.int .i64 a.k) ∧ (X.setRow r cs).cell? ⟨p, 7, none⟩ = some (.int .i64 a.batch) ∧ (X.setRow r cs).cell? ⟨p, 8, none⟩ = some (.bool a.first) ∧ (X.setRow r cs).cell? ⟨p, 9, none⟩ = some (.int .i64 a.ad) ∧ (X.setRow r cs).cell? ⟨p, 10, none⟩ = some (.string a.aw)) ∧ (X.setRow r cs).cell? ⟨b, 0, none⟩ = some (.int .i64 id) ∧ (X.setRow r cs).cell? ⟨b, 4, none⟩ = some (.int .i64 ep)) from fun X cs h => by
    have e1 : ∀ i, (X.setRow r cs).cell? ⟨p, i, none⟩ = X.cell? ⟨p, i, none⟩ := fun i => cell_setRow_other X r cs ⟨p, i, none⟩ (show p ≠ r by have := LT.out; omega)
    have e2 : ∀ i, (X.setRow r cs).cell? ⟨b, i, none⟩ = X.cell? ⟨b, i, none⟩ := fun i => cell_setRow_other X r cs ⟨b, i, none⟩ (show b ≠ r by have := LT.out; omega)
    simp only [e1, e2]
    exact h)
  have CN := Lib.hid (fun (w' : World) (hb : Below w2.heap.size w2 w') => next_c g ts a.text a.k a.first (a.ad, a.aw) a.batch Fl ys n bz w' (G2.out.below hb) (by omega) hF hn hy hbz)
  unfold RetN at CN
  have HW1 := Lib.hid hw1
  have HW2 := Lib.hid hw2
  have HP := Lib.hid hp
  have HR := Lib.hid hr
  clear hx hm hl hg hs hF hn hy hbz X2 M2 b1 b2 i1 R2 hw1 hw2 hp hr1 hr
  go_enter Tryz.func78, Tryz.ntmps78
  go_upto_region 1 with fail
  try rw [HW1.out]
  try rw [HW2.out]
  try rw [HP.out]
  try rw [HR.out]
  have hS0 := SB.out w2.drew ((Below.refl _ _).drew)
  refine wp_region_held_drew (S := (fun w' => ((Below w2.heap.size w2 w' ∧ (w'.cell? ⟨p, 0, none⟩ = some (.int .i64 a.slot) ∧ w'.cell? ⟨p, 1, none⟩ = some (.int .i64 a.query) ∧ w'.cell? ⟨p, 2, none⟩ = some (.int .i64 a.shard) ∧ w'.cell? ⟨p, 3, none⟩ = some (.int .i64 a.seq) ∧ w'.cell? ⟨p, 4, none⟩ = some (.int .i64 a.epoch) ∧ w'.cell? ⟨p, 5, none⟩ = some (.string a.text) ∧ w'.cell? ⟨p, 6, none⟩ = some (.int .i64 a.k) ∧ w'.cell? ⟨p, 7, none⟩ = some (.int .i64 a.batch) ∧ w'.cell? ⟨p, 8, none⟩ = some (.bool a.first) ∧ w'.cell? ⟨p, 9, none⟩ = some (.int .i64 a.ad) ∧ w'.cell? ⟨p, 10, none⟩ = some (.string a.aw))) ∧ w'.cell? ⟨b, 6, none⟩ = some (.map (some mm)) ∧ (Instr.lookup 93 (.map (some mm)) (.int .i64 a.shard) false).run Tryz.prog w' = .ok (.agg #[.pointer (some ⟨g, 0, none⟩), .int .i64 ge]) w'))) (by kernel_rfl) hS0 (fun hHeld0 => ?_)
  clear hS0
  generalize w2.drew = X0 at hHeld0 ⊢
  refine wpAnyH_take (i := 0) (oi := { dst := some 8, op := Op.move (Operand.tmp 0), type := 29, pos := "worker.go:184", after := #[], guard := none }) (v := ?vz1) rfl (by kernel_rfl) (by kernel_rfl) (by kernel_rfl) (fun _ _ _ h => h) (Or.inl ⟨by rfl, ?hyz1⟩) (by assumption) ?restz1
  case hyz1 => (intro w hSw; (try dsimp only at hSw); go_simp; (try with_reducible rfl))
  try simp only [Act.put, List.setIfInBounds_toArray, List.set_cons_zero, List.set_cons_succ]
  refine wpAnyH_take (i := 1) (oi := { dst := some 9, op := Op.nilCheck (Operand.tmp 8), type := 0, pos := "worker.go:184", after := #[{ on := 0, ground := Ground.data }], guard := none }) (v := ?vz2) rfl (by kernel_rfl) (by kernel_rfl) (by kernel_rfl) (fun _ _ _ h => h) (Or.inl ⟨by rfl, ?hyz2⟩) (by assumption) ?restz2
  case hyz2 => (intro w hSw; (try dsimp only at hSw); go_simp; (try with_reducible rfl))
  try simp only [Act.put, List.setIfInBounds_toArray, List.set_cons_zero, List.set_cons_succ]
  refine wpAnyH_take (i := 2) (oi := { dst := some 10, op := Op.fieldAddr 95 (Operand.tmp 9) 6, type := 0, pos := "worker.go:184", after := #[{ on := 1, ground := Ground.data }], guard := none }) (v := ?vz3) rfl (by kernel_rfl) (by kernel_rfl) (by kernel_rfl) (fun _ _ _ h => h) (Or.inl ⟨by rfl, ?hyz3⟩) (by assumption) ?restz3
  case hyz3 => (intro w hSw; (try dsimp only at hSw); go_simp; (try with_reducible rfl))
  try simp only [Act.put, List.setIfInBounds_toArray, List.set_cons_zero, List.set_cons_succ]
  refine wpAnyH_take (i := 3) (oi := { dst := some 11, op := Op.load 93 (Operand.tmp 10), type := 93, pos := "worker.go:184", after := #[{ on := 2, ground := Ground.data }], guard := none }) (v := ?vz4) rfl (by kernel_rfl) (by kernel_rfl) (by kernel_rfl) (fun _ _ _ h => h) (Or.inl ⟨by rfl, ?hyz4⟩) (by assumption) ?restz4
  case hyz4 => (intro w hSw; (try dsimp only at hSw); go_simp; (try with_reducible rfl))
  try simp only [Act.put, List.setIfInBounds_toArray, List.set_cons_zero, List.set_cons_succ]
  refine wpAnyH_take (i := 4) (oi := { dst := some 12, op := Op.fieldAddr 41 (Operand.tmp 3) 2, type := 0, pos := "worker.go:184", after := #[], guard := none }) (v := ?vz5) rfl (by kernel_rfl) (by kernel_rfl) (by kernel_rfl) (fun _ _ _ h => h) (Or.inl ⟨by rfl, ?hyz5⟩) (by assumption) ?restz5
  case hyz5 => (intro w hSw; (try dsimp only at hSw); go_simp; (try with_reducible rfl))
  try simp only [Act.put, List.setIfInBounds_toArray, List.set_cons_zero, List.set_cons_succ]
  refine wpAnyH_take (i := 5) (oi := { dst := some 13, op := Op.load 3 (Operand.tmp 12), type := 3, pos := "worker.go:184", after := #[{ on := 4, ground := Ground.data }], guard := none }) (v := ?vz6) rfl (by kernel_rfl) (by kernel_rfl) (by kernel_rfl) (fun _ _ _ h => h) (Or.inl ⟨by rfl, ?hyz6⟩) (by assumption) ?restz6
  case hyz6 => (intro w hSw; (try dsimp only at hSw); go_simp; (try with_reducible rfl))
  try simp only [Act.put, List.setIfInBounds_toArray, List.set_cons_zero, List.set_cons_succ]
  refine wpAnyH_take (i := 6) (oi := { dst := some 14, op := Op.lookup 93 (Operand.tmp 11) (Operand.tmp 13) false, type := 132, pos := "worker.go:184", after := #[{ on := 3, ground := Ground.data }, { on := 5, ground := Ground.data }], guard := none }) (v := ?vz7) rfl (by kernel_rfl) (by kernel_rfl) (by kernel_rfl) (fun _ _ _ h => h) (Or.inl ⟨by rfl, ?hyz7⟩) (by assumption) ?restz7
  case hyz7 => (intro w hSw; (try dsimp only at hSw); go_simp; (try with_reducible rfl))
  try simp only [Act.put, List.setIfInBounds_toArray, List.set_cons_zero, List.set_cons_succ]
  refine wpAnyH_take (i := 7) (oi := { dst := some 15, op := Op.field 132 (Operand.tmp 14) 0, type := 130, pos := "worker.go:184", after := #[{ on := 6, ground := Ground.data }], guard := none }) (v := ?vz8) rfl (by kernel_rfl) (by kernel_rfl) (by kernel_rfl) (fun _ _ _ h => h) (Or.inl ⟨by rfl, ?hyz8⟩) (by assumption) ?restz8
  case hyz8 => (intro w hSw; (try dsimp only at hSw); go_simp; (try with_reducible rfl))
  try simp only [Act.put, List.setIfInBounds_toArray, List.set_cons_zero, List.set_cons_succ]
  refine wpAnyH_take (i := 8) (oi := { dst := some 16, op := Op.fieldAddr 41 (Operand.tmp 3) 5, type := 0, pos := "worker.go:184", after := #[], guard := none }) (v := ?vz9) rfl (by kernel_rfl) (by kernel_rfl) (by kernel_rfl) (fun _ _ _ h => h) (Or.inl ⟨by rfl, ?hyz9⟩) (by assumption) ?restz9
  case hyz9 => (intro w hSw; (try dsimp only at hSw); go_simp; (try with_reducible rfl))
  try simp only [Act.put, List.setIfInBounds_toArray, List.set_cons_zero, List.set_cons_succ]
  refine wpAnyH_take (i := 9) (oi := { dst := some 17, op := Op.load 9 (Operand.tmp 16), type := 9, pos := "worker.go:184", after := #[{ on := 8, ground := Ground.data }], guard := none }) (v := ?vz10) rfl (by kernel_rfl) (by kernel_rfl) (by kernel_rfl) (fun _ _ _ h => h) (Or.inl ⟨by rfl, ?hyz10⟩) (by assumption) ?restz10
  case hyz10 => (intro w hSw; (try dsimp only at hSw); go_simp; (try with_reducible rfl))
  try simp only [Act.put, List.setIfInBounds_toArray, List.set_cons_zero, List.set_cons_succ]
  refine wpAnyH_take (i := 10) (oi := { dst := some 18, op := Op.fieldAddr 41 (Operand.tmp 3) 6, type := 0, pos := "worker.go:184", after := #[], guard := none }) (v := ?vz11) rfl (by kernel_rfl) (by kernel_rfl) (by kernel_rfl) (fun _ _ _ h => h) (Or.inl ⟨by rfl, ?hyz11⟩) (by assumption) ?restz11
  case hyz11 => (intro w hSw; (try dsimp only at hSw); go_simp; (try with_reducible rfl))
  try simp only [Act.put, List.setIfInBounds_toArray, List.set_cons_zero, List.set_cons_succ]
  refine wpAnyH_take (i := 11) (oi := { dst := some 19, op := Op.load 3 (Operand.tmp 18), type := 3, pos := "worker.go:184", after := #[{ on := 10, ground := Ground.data }], guard := none }) (v := ?vz12) rfl (by kernel_rfl) (by kernel_rfl) (by kernel_rfl) (fun _ _ _ h => h) (Or.inl ⟨by rfl, ?hyz12⟩) (by assumption) ?restz12
  case hyz12 => (intro w hSw; (try dsimp only at hSw); go_simp; (try with_reducible rfl))
  try simp only [Act.put, List.setIfInBounds_toArray, List.set_cons_zero, List.set_cons_succ]
  refine wpAnyH_take (i := 12) (oi := { dst := some 20, op := Op.fieldAddr 41 (Operand.tmp 3) 8, type := 0, pos := "worker.go:184", after := #[], guard := none }) (v := ?vz13) rfl (by kernel_rfl) (by kernel_rfl) (by kernel_rfl) (fun _ _ _ h => h) (Or.inl ⟨by rfl, ?hyz13⟩) (by assumption) ?restz13
  case hyz13 => (intro w hSw; (try dsimp only at hSw); go_simp; (try with_reducible rfl))
  try simp only [Act.put, List.setIfInBounds_toArray, List.set_cons_zero, List.set_cons_succ]
  refine wpAnyH_take (i := 13) (oi := { dst := some 21, op := Op.load 4 (Operand.tmp 20), type := 4, pos := "worker.go:184", after := #[{ on := 12, ground := Ground.data }], guard := none }) (v := ?vz14) rfl (by kernel_rfl) (by kernel_rfl) (by kernel_rfl) (fun _ _ _ h => h) (Or.inl ⟨by rfl, ?hyz14⟩) (by assumption) ?restz14
  case hyz14 => (intro w hSw; (try dsimp only at hSw); go_simp; (try with_reducible rfl))
  try simp only [Act.put, List.setIfInBounds_toArray, List.set_cons_zero, List.set_cons_succ]
  refine wpAnyH_take (i := 14) (oi := { dst := some 22, op := Op.fieldAddr 41 (Operand.tmp 3) 9, type := 0, pos := "worker.go:184", after := #[], guard := none }) (v := ?vz15) rfl (by kernel_rfl) (by kernel_rfl) (by kernel_rfl) (fun _ _ _ h => h) (Or.inl ⟨by rfl, ?hyz15⟩) (by assumption) ?restz15
  case hyz15 => (intro w hSw; (try dsimp only at hSw); go_simp; (try with_reducible rfl))
  try simp only [Act.put, List.setIfInBounds_toArray, List.set_cons_zero, List.set_cons_succ]
  refine wpAnyH_take (i := 15) (oi := { dst := some 23, op := Op.load 39 (Operand.tmp 22), type := 39, pos := "worker.go:184", after := #[{ on := 14, ground := Ground.data }], guard := none }) (v := ?vz16) rfl (by kernel_rfl) (by kernel_rfl) (by kernel_rfl) (fun _ _ _ h => h) (Or.inl ⟨by rfl, ?hyz16⟩) (by assumption) ?restz16
  case hyz16 => (intro w hSw; (try dsimp only at hSw); go_simp; (try with_reducible rfl))
  try simp only [Act.put, List.setIfInBounds_toArray, List.set_cons_zero, List.set_cons_succ]
  refine wpAnyH_take (i := 16) (oi := { dst := some 24, op := Op.fieldAddr 41 (Operand.tmp 3) 7, type := 0, pos := "worker.go:184", after := #[], guard := none }) (v := ?vz17) rfl (by kernel_rfl) (by kernel_rfl) (by kernel_rfl) (fun _ _ _ h => h) (Or.inl ⟨by rfl, ?hyz17⟩) (by assumption) ?restz17
  case hyz17 => (intro w hSw; (try dsimp only at hSw); go_simp; (try with_reducible rfl))
  try simp only [Act.put, List.setIfInBounds_toArray, List.set_cons_zero, List.set_cons_succ]
  refine wpAnyH_take (i := 17) (oi := { dst := some 25, op := Op.load 3 (Operand.tmp 24), type := 3, pos := "worker.go:184", after := #[{ on := 16, ground := Ground.data }], guard := none }) (v := ?vz18) rfl (by kernel_rfl) (by kernel_rfl) (by kernel_rfl) (fun _ _ _ h => h) (Or.inl ⟨by rfl, ?hyz18⟩) (by assumption) ?restz18
  case hyz18 => (intro w hSw; (try dsimp only at hSw); go_simp; (try with_reducible rfl))
  try simp only [Act.put, List.setIfInBounds_toArray, List.set_cons_zero, List.set_cons_succ]
  refine wpAnyH_ready (rs := [18]) (by kernel_rfl) (by simp) ?_
  refine AllReadyH.cons (o := { dst := some 26, op := Op.call { callee := Callee.value (Operand.func 127), args := #[Operand.tmp 15, Operand.tmp 17, Operand.tmp 19, Operand.tmp 21, Operand.tmp 23, Operand.tmp 25], argTypes := #[130, 9, 3, 4, 39, 3] }, type := 176, pos := "worker.go:184", after := #[{ on := 7, ground := Ground.data }, { on := 9, ground := Ground.data }, { on := 11, ground := Ground.data }, { on := 13, ground := Ground.data }, { on := 15, ground := Ground.data }, { on := 17, ground := Ground.data }], guard := none }) rfl (fun K hK => ?_) AllReadyH.nil
  go_simp
  go_at_call 127
  with_reducible refine (CN.out _ hHeld0.1.1).mono ?_
  rintro e X1 ⟨ia, rfl, hcut, hnil, hb⟩
  go_wp2_with fail
  have B1 := hHeld0.1.1.trans (hb.mono hHeld0.1.1.size)
  have CU := Lib.hid (show CutI X1 w.heap.size ia n ys from hcut.low (Nat.le_trans LE.out hHeld0.1.1.size))
  have NI := Lib.hid hnil
  have RF := Lib.hid (show ∀ q o, ia = some ⟨q, o, none⟩ → w2.heap.size ≤ q from fun q o e => Nat.le_trans hHeld0.1.1.size (hcut.at_ q o e))
  refine hK.out _ _ (SB.out _ B1) (fun hHeld1 => ?_)
  clear hb hcut hnil hK K hHeld0
  try simp only [Act.put, List.setIfInBounds_toArray, List.set_cons_zero, List.set_cons_succ]
  refine wpAnyH_take (i := 19) (oi := { dst := some 7, op := Op.move (Operand.tmp 26), type := 176, pos := "worker.go:184", after := #[{ on := 18, ground := Ground.data }], guard := none }) (v := ?vz19) rfl (by kernel_rfl) (by kernel_rfl) (by kernel_rfl) (fun _ _ _ h => h) (Or.inl ⟨by rfl, ?hyz19⟩) (by assumption) ?restz19
  case hyz19 => (intro w hSw; (try dsimp only at hSw); go_simp; (try with_reducible rfl))
  try simp only [Act.put, List.setIfInBounds_toArray, List.set_cons_zero, List.set_cons_succ]
  refine wpAnyH_take (i := 20) (oi := { dst := some 27, op := Op.extract (Operand.tmp 7) 0, type := 73, pos := "worker.go:184", after := #[{ on := 19, ground := Ground.data }], guard := none }) (v := ?vz20) rfl (by kernel_rfl) (by kernel_rfl) (by kernel_rfl) (fun _ _ _ h => h) (Or.inl ⟨by rfl, ?hyz20⟩) (by assumption) ?restz20
  case hyz20 => (intro w hSw; (try dsimp only at hSw); go_simp; (try with_reducible rfl))
  try simp only [Act.put, List.setIfInBounds_toArray, List.set_cons_zero, List.set_cons_succ]
  refine wpAnyH_take (i := 21) (oi := { dst := some 28, op := Op.extract (Operand.tmp 7) 1, type := 4, pos := "worker.go:184", after := #[{ on := 19, ground := Ground.data }, { on := 22, ground := Ground.gcOnly Departure.lateStores }], guard := none }) (v := ?vz21) rfl (by kernel_rfl) (by kernel_rfl) (by kernel_rfl) (fun _ _ _ h => h) (Or.inl ⟨by rfl, ?hyz21⟩) (by assumption) ?restz21
  case hyz21 => (intro w hSw; (try dsimp only at hSw); go_simp; (try with_reducible rfl))
  try simp only [Act.put, List.setIfInBounds_toArray, List.set_cons_zero, List.set_cons_succ]
  refine wpAnyH_take (i := 22) (oi := { dst := some 5, op := Op.assign (Operand.tmp 27), type := 73, pos := "worker.go:184", after := #[{ on := 20, ground := Ground.data }, { on := 18, ground := Ground.chain }, { on := 0, ground := Ground.phase }, { on := 1, ground := Ground.phase }, { on := 2, ground := Ground.phase }, { on := 3, ground := Ground.phase }, { on := 4, ground := Ground.phase }, { on := 5, ground := Ground.phase }, { on := 6, ground := Ground.phase }, { on := 7, ground := Ground.phase }, { on := 8, ground := Ground.phase }, { on := 9, ground := Ground.phase }, { on := 10, ground := Ground.phase }, { on := 11, ground := Ground.phase }, { on := 12, ground := Ground.phase }, { on := 13, ground := Ground.phase }, { on := 14, ground := Ground.phase }, { on := 15, ground := Ground.phase }, { on := 16, ground := Ground.phase }, { on := 17, ground := Ground.phase }, { on := 18, ground := Ground.phase }, { on := 19, ground := Ground.phase }, { on := 20, ground := Ground.phase }, { on := 21, ground := Ground.textOnly Departure.lateStores }], guard := none }) (v := ?vz22) rfl (by kernel_rfl) (by kernel_rfl) (by kernel_rfl) (fun _ _ _ h => h) (Or.inl ⟨by rfl, ?hyz22⟩) (by assumption) ?restz22
  case hyz22 => (intro w hSw; (try dsimp only at hSw); go_simp; (try with_reducible rfl))
  try simp only [Act.put, List.setIfInBounds_toArray, List.set_cons_zero, List.set_cons_succ]
  refine wpAnyH_take (i := 23) (oi := { dst := some 6, op := Op.assign (Operand.tmp 28), type := 4, pos := "worker.go:184", after := #[{ on := 21, ground := Ground.data }, { on := 22, ground := Ground.chain }, { on := 0, ground := Ground.phase }, { on := 1, ground := Ground.phase }, { on := 2, ground := Ground.phase }, { on := 3, ground := Ground.phase }, { on := 4, ground := Ground.phase }, { on := 5, ground := Ground.phase }, { on := 6, ground := Ground.phase }, { on := 7, ground := Ground.phase }, { on := 8, ground := Ground.phase }, { on := 9, ground := Ground.phase }, { on := 10, ground := Ground.phase }, { on := 11, ground := Ground.phase }, { on := 12, ground := Ground.phase }, { on := 13, ground := Ground.phase }, { on := 14, ground := Ground.phase }, { on := 15, ground := Ground.phase }, { on := 16, ground := Ground.phase }, { on := 17, ground := Ground.phase }, { on := 18, ground := Ground.phase }, { on := 19, ground := Ground.phase }, { on := 20, ground := Ground.phase }, { on := 21, ground := Ground.phase }, { on := 22, ground := Ground.phase }], guard := none }) (v := ?vz23) rfl (by kernel_rfl) (by kernel_rfl) (by kernel_rfl) (fun _ _ _ h => h) (Or.inl ⟨by rfl, ?hyz23⟩) (by assumption) ?restz23
  case hyz23 => (intro w hSw; (try dsimp only at hSw); go_simp; (try with_reducible rfl))
  try simp only [Act.put, List.setIfInBounds_toArray, List.set_cons_zero, List.set_cons_succ]
  refine wpAnyH_done (by kernel_rfl) ?_ _
  go_upto_region 2 with fail
  have hS2 := S2.out X1.drew (B1.drew)
  refine wp_region_held_drew (S := (fun w' => ((w'.cell? ⟨p, 0, none⟩ = some (.int .i64 a.slot) ∧ w'.cell? ⟨p, 1, none⟩ = some (.int .i64 a.query) ∧ w'.cell? ⟨p, 2, none⟩ = some (.int .i64 a.shard) ∧ w'.cell? ⟨p, 3, none⟩ = some (.int .i64 a.seq) ∧ w'.cell? ⟨p, 4, none⟩ = some (.int .i64 a.epoch) ∧ w'.cell? ⟨p, 5, none⟩ = some (.string a.text) ∧ w'.cell? ⟨p, 6, none⟩ = some (.int .i64 a.k) ∧ w'.cell? ⟨p, 7, none⟩ = some (.int .i64 a.batch) ∧ w'.cell? ⟨p, 8, none⟩ = some (.bool a.first) ∧ w'.cell? ⟨p, 9, none⟩ = some (.int .i64 a.ad) ∧ w'.cell? ⟨p, 10, none⟩ = some (.string a.aw)) ∧ w'.cell? ⟨b, 0, none⟩ = some (.int .i64 id) ∧ w'.cell? ⟨b, 4, none⟩ = some (.int .i64 ep)))) (by kernel_rfl) hS2 (fun hHeld0 => ?_)
  clear hS2
  have B2 : Below w2.heap.size w2 X1.drew := B1.drew
  have CU2 := Lib.hid (show CutI X1.drew w.heap.size ia n ys from CU.out.below (Below.refl _ _).drew)
  generalize X1.drew = X2 at hHeld0 B2 CU2 ⊢
  refine wpAnyH_take (i := 0) (oi := { dst := some 29, op := Op.fieldAddr 41 (Operand.tmp 3) 0, type := 0, pos := "worker.go:185", after := #[], guard := none }) (v := ?vz24) rfl (by kernel_rfl) (by kernel_rfl) (by kernel_rfl) (fun _ _ _ h => h) (Or.inl ⟨by rfl, ?hyz24⟩) (by assumption) ?restz24
  case hyz24 => (intro w hSw; (try dsimp only at hSw); go_simp; (try with_reducible rfl))
  try simp only [Act.put, List.setIfInBounds_toArray, List.set_cons_zero, List.set_cons_succ]
  refine wpAnyH_take (i := 1) (oi := { dst := some 30, op := Op.load 3 (Operand.tmp 29), type := 3, pos := "worker.go:185", after := #[{ on := 0, ground := Ground.data }], guard := none }) (v := ?vz25) rfl (by kernel_rfl) (by kernel_rfl) (by kernel_rfl) (fun _ _ _ h => h) (Or.inl ⟨by rfl, ?hyz25⟩) (by assumption) ?restz25
  case hyz25 => (intro w hSw; (try dsimp only at hSw); go_simp; (try with_reducible rfl))
  try simp only [Act.put, List.setIfInBounds_toArray, List.set_cons_zero, List.set_cons_succ]
  refine wpAnyH_take (i := 2) (oi := { dst := some 31, op := Op.fieldAddr 41 (Operand.tmp 3) 1, type := 0, pos := "worker.go:185", after := #[], guard := none }) (v := ?vz26) rfl (by kernel_rfl) (by kernel_rfl) (by kernel_rfl) (fun _ _ _ h => h) (Or.inl ⟨by rfl, ?hyz26⟩) (by assumption) ?restz26
  case hyz26 => (intro w hSw; (try dsimp only at hSw); go_simp; (try with_reducible rfl))
  try simp only [Act.put, List.setIfInBounds_toArray, List.set_cons_zero, List.set_cons_succ]
  refine wpAnyH_take (i := 3) (oi := { dst := some 32, op := Op.load 3 (Operand.tmp 31), type := 3, pos := "worker.go:185", after := #[{ on := 2, ground := Ground.data }], guard := none }) (v := ?vz27) rfl (by kernel_rfl) (by kernel_rfl) (by kernel_rfl) (fun _ _ _ h => h) (Or.inl ⟨by rfl, ?hyz27⟩) (by assumption) ?restz27
  case hyz27 => (intro w hSw; (try dsimp only at hSw); go_simp; (try with_reducible rfl))
  try simp only [Act.put, List.setIfInBounds_toArray, List.set_cons_zero, List.set_cons_succ]
  refine wpAnyH_take (i := 4) (oi := { dst := some 33, op := Op.fieldAddr 41 (Operand.tmp 3) 2, type := 0, pos := "worker.go:185", after := #[], guard := none }) (v := ?vz28) rfl (by kernel_rfl) (by kernel_rfl) (by kernel_rfl) (fun _ _ _ h => h) (Or.inl ⟨by rfl, ?hyz28⟩) (by assumption) ?restz28
  case hyz28 => (intro w hSw; (try dsimp only at hSw); go_simp; (try with_reducible rfl))
  try simp only [Act.put, List.setIfInBounds_toArray, List.set_cons_zero, List.set_cons_succ]
  refine wpAnyH_take (i := 5) (oi := { dst := some 34, op := Op.load 3 (Operand.tmp 33), type := 3, pos := "worker.go:185", after := #[{ on := 4, ground := Ground.data }], guard := none }) (v := ?vz29) rfl (by kernel_rfl) (by kernel_rfl) (by kernel_rfl) (fun _ _ _ h => h) (Or.inl ⟨by rfl, ?hyz29⟩) (by assumption) ?restz29
  case hyz29 => (intro w hSw; (try dsimp only at hSw); go_simp; (try with_reducible rfl))
  try simp only [Act.put, List.setIfInBounds_toArray, List.set_cons_zero, List.set_cons_succ]
  refine wpAnyH_take (i := 6) (oi := { dst := some 35, op := Op.fieldAddr 41 (Operand.tmp 3) 3, type := 0, pos := "worker.go:185", after := #[], guard := none }) (v := ?vz30) rfl (by kernel_rfl) (by kernel_rfl) (by kernel_rfl) (fun _ _ _ h => h) (Or.inl ⟨by rfl, ?hyz30⟩) (by assumption) ?restz30
  case hyz30 => (intro w hSw; (try dsimp only at hSw); go_simp; (try with_reducible rfl))
  try simp only [Act.put, List.setIfInBounds_toArray, List.set_cons_zero, List.set_cons_succ]
  refine wpAnyH_take (i := 7) (oi := { dst := some 36, op := Op.load 3 (Operand.tmp 35), type := 3, pos := "worker.go:185", after := #[{ on := 6, ground := Ground.data }], guard := none }) (v := ?vz31) rfl (by kernel_rfl) (by kernel_rfl) (by kernel_rfl) (fun _ _ _ h => h) (Or.inl ⟨by rfl, ?hyz31⟩) (by assumption) ?restz31
  case hyz31 => (intro w hSw; (try dsimp only at hSw); go_simp; (try with_reducible rfl))
  try simp only [Act.put, List.setIfInBounds_toArray, List.set_cons_zero, List.set_cons_succ]
  refine wpAnyH_take (i := 8) (oi := { dst := some 37, op := Op.move (Operand.tmp 0), type := 29, pos := "worker.go:185", after := #[], guard := none }) (v := ?vz32) rfl (by kernel_rfl) (by kernel_rfl) (by kernel_rfl) (fun _ _ _ h => h) (Or.inl ⟨by rfl, ?hyz32⟩) (by assumption) ?restz32
  case hyz32 => (intro w hSw; (try dsimp only at hSw); go_simp; (try with_reducible rfl))
  try simp only [Act.put, List.setIfInBounds_toArray, List.set_cons_zero, List.set_cons_succ]
  refine wpAnyH_take (i := 9) (oi := { dst := some 38, op := Op.nilCheck (Operand.tmp 37), type := 0, pos := "worker.go:185", after := #[{ on := 8, ground := Ground.data }], guard := none }) (v := ?vz33) rfl (by kernel_rfl) (by kernel_rfl) (by kernel_rfl) (fun _ _ _ h => h) (Or.inl ⟨by rfl, ?hyz33⟩) (by assumption) ?restz33
  case hyz33 => (intro w hSw; (try dsimp only at hSw); go_simp; (try with_reducible rfl))
  try simp only [Act.put, List.setIfInBounds_toArray, List.set_cons_zero, List.set_cons_succ]
  refine wpAnyH_take (i := 10) (oi := { dst := some 39, op := Op.fieldAddr 95 (Operand.tmp 38) 0, type := 0, pos := "worker.go:185", after := #[{ on := 9, ground := Ground.data }], guard := none }) (v := ?vz34) rfl (by kernel_rfl) (by kernel_rfl) (by kernel_rfl) (fun _ _ _ h => h) (Or.inl ⟨by rfl, ?hyz34⟩) (by assumption) ?restz34
  case hyz34 => (intro w hSw; (try dsimp only at hSw); go_simp; (try with_reducible rfl))
  try simp only [Act.put, List.setIfInBounds_toArray, List.set_cons_zero, List.set_cons_succ]
  refine wpAnyH_take (i := 11) (oi := { dst := some 40, op := Op.load 3 (Operand.tmp 39), type := 3, pos := "worker.go:185", after := #[{ on := 10, ground := Ground.data }], guard := none }) (v := ?vz35) rfl (by kernel_rfl) (by kernel_rfl) (by kernel_rfl) (fun _ _ _ h => h) (Or.inl ⟨by rfl, ?hyz35⟩) (by assumption) ?restz35
  case hyz35 => (intro w hSw; (try dsimp only at hSw); go_simp; (try with_reducible rfl))
  try simp only [Act.put, List.setIfInBounds_toArray, List.set_cons_zero, List.set_cons_succ]
  refine wpAnyH_take (i := 12) (oi := { dst := some 41, op := Op.move (Operand.tmp 0), type := 29, pos := "worker.go:185", after := #[], guard := none }) (v := ?vz36) rfl (by kernel_rfl) (by kernel_rfl) (by kernel_rfl) (fun _ _ _ h => h) (Or.inl ⟨by rfl, ?hyz36⟩) (by assumption) ?restz36
  case hyz36 => (intro w hSw; (try dsimp only at hSw); go_simp; (try with_reducible rfl))
  try simp only [Act.put, List.setIfInBounds_toArray, List.set_cons_zero, List.set_cons_succ]
  refine wpAnyH_take (i := 13) (oi := { dst := some 42, op := Op.nilCheck (Operand.tmp 41), type := 0, pos := "worker.go:185", after := #[{ on := 12, ground := Ground.data }], guard := none }) (v := ?vz37) rfl (by kernel_rfl) (by kernel_rfl) (by kernel_rfl) (fun _ _ _ h => h) (Or.inl ⟨by rfl, ?hyz37⟩) (by assumption) ?restz37
  case hyz37 => (intro w hSw; (try dsimp only at hSw); go_simp; (try with_reducible rfl))
  try simp only [Act.put, List.setIfInBounds_toArray, List.set_cons_zero, List.set_cons_succ]
  refine wpAnyH_take (i := 14) (oi := { dst := some 43, op := Op.fieldAddr 95 (Operand.tmp 42) 4, type := 0, pos := "worker.go:185", after := #[{ on := 13, ground := Ground.data }], guard := none }) (v := ?vz38) rfl (by kernel_rfl) (by kernel_rfl) (by kernel_rfl) (fun _ _ _ h => h) (Or.inl ⟨by rfl, ?hyz38⟩) (by assumption) ?restz38
  case hyz38 => (intro w hSw; (try dsimp only at hSw); go_simp; (try with_reducible rfl))
  try simp only [Act.put, List.setIfInBounds_toArray, List.set_cons_zero, List.set_cons_succ]
  refine wpAnyH_take (i := 15) (oi := { dst := some 44, op := Op.load 3 (Operand.tmp 43), type := 3, pos := "worker.go:185", after := #[{ on := 14, ground := Ground.data }], guard := none }) (v := ?vz39) rfl (by kernel_rfl) (by kernel_rfl) (by kernel_rfl) (fun _ _ _ h => h) (Or.inl ⟨by rfl, ?hyz39⟩) (by assumption) ?restz39
  case hyz39 => (intro w hSw; (try dsimp only at hSw); go_simp; (try with_reducible rfl))
  try simp only [Act.put, List.setIfInBounds_toArray, List.set_cons_zero, List.set_cons_succ]
  refine wpAnyH_take (i := 16) (oi := { dst := some 45, op := Op.move (Operand.tmp 5), type := 73, pos := "worker.go:185", after := #[], guard := none }) (v := ?vz40) rfl (by kernel_rfl) (by kernel_rfl) (by kernel_rfl) (fun _ _ _ h => h) (Or.inl ⟨by rfl, ?hyz40⟩) (by assumption) ?restz40
  case hyz40 => (intro w hSw; (try dsimp only at hSw); go_simp; (try with_reducible rfl))
  try simp only [Act.put, List.setIfInBounds_toArray, List.set_cons_zero, List.set_cons_succ]
  refine wpAnyH_take (i := 17) (oi := { dst := some 46, op := Op.move (Operand.tmp 6), type := 4, pos := "worker.go:185", after := #[], guard := none }) (v := ?vz41) rfl (by kernel_rfl) (by kernel_rfl) (by kernel_rfl) (fun _ _ _ h => h) (Or.inl ⟨by rfl, ?hyz41⟩) (by assumption) ?restz41
  case hyz41 => (intro w hSw; (try dsimp only at hSw); go_simp; (try with_reducible rfl))
  try simp only [Act.put, List.setIfInBounds_toArray, List.set_cons_zero, List.set_cons_succ]
  refine wpAnyH_take (i := 18) (oi := { dst := some 47, op := Op.build 77 #[(0, Operand.tmp 30), (1, Operand.tmp 32), (2, Operand.tmp 34), (3, Operand.tmp 36), (4, Operand.tmp 40), (5, Operand.tmp 44), (6, Operand.tmp 45), (7, Operand.tmp 46)], type := 77, pos := "worker.go:185", after := #[{ on := 1, ground := Ground.data }, { on := 3, ground := Ground.data }, { on := 5, ground := Ground.data }, { on := 7, ground := Ground.data }, { on := 11, ground := Ground.data }, { on := 15, ground := Ground.data }, { on := 16, ground := Ground.data }, { on := 17, ground := Ground.data }], guard := none }) (v := ?vz42) rfl (by kernel_rfl) (by kernel_rfl) (by kernel_rfl) (fun _ _ _ h => h) (Or.inl ⟨by rfl, ?hyz42⟩) (by assumption) ?restz42
  case hyz42 => (intro w hSw; (try dsimp only at hSw); go_simp; (try with_reducible rfl))
  try simp only [Act.put, List.setIfInBounds_toArray, List.set_cons_zero, List.set_cons_succ]
  refine wpAnyH_ready (rs := [19]) (by kernel_rfl) (by simp) ?_
  refine AllReadyH.cons (o := { dst := none, op := Op.store 77 (Operand.tmp 4) (Operand.tmp 47), type := 0, pos := "worker.go:185", after := #[{ on := 18, ground := Ground.data }, { on := 0, ground := Ground.phase }, { on := 1, ground := Ground.phase }, { on := 2, ground := Ground.phase }, { on := 3, ground := Ground.phase }, { on := 4, ground := Ground.phase }, { on := 5, ground := Ground.phase }, { on := 6, ground := Ground.phase }, { on := 7, ground := Ground.phase }, { on := 8, ground := Ground.phase }, { on := 9, ground := Ground.phase }, { on := 10, ground := Ground.phase }, { on := 11, ground := Ground.phase }, { on := 12, ground := Ground.phase }, { on := 13, ground := Ground.phase }, { on := 14, ground := Ground.phase }, { on := 15, ground := Ground.phase }, { on := 16, ground := Ground.phase }, { on := 17, ground := Ground.phase }, { on := 18, ground := Ground.phase }], guard := none }) rfl (fun K hK => ?_) AllReadyH.nil
  rw [if_pos (by rfl)]
  refine wp_store_row 77 _ _ rfl r #[.int .i64 a.slot, .int .i64 a.query, .int .i64 a.shard, .int .i64 a.seq, .int .i64 id, .int .i64 ep, .slice ia n n, .bool bz] (by rfl) (by rfl) 77 #[.int .i64 0, .int .i64 0, .int .i64 0, .int .i64 0, .int .i64 0, .int .i64 0, .slice none 0 0, .bool false] (RB.out X2 B2) (by kernel_rfl) rfl (by kernel_rfl) ?_
  refine hK.out _ _ (KEEP.out X2 #[.int .i64 a.slot, .int .i64 a.query, .int .i64 a.shard, .int .i64 a.seq, .int .i64 id, .int .i64 ep, .slice ia n n, .bool bz] hHeld0) (fun hHeldE => ?_)
  clear hK K
  try simp only [Act.put]
  refine wpAnyH_done (by kernel_rfl) ?_ _
  go_wp2_with fail
  (try simp only [Exit.inBlock, Exit.then])
  refine bodyPost_ret (results_cell_row rfl _ _ r 77 #[.int .i64 a.slot, .int .i64 a.query, .int .i64 a.shard, .int .i64 a.seq, .int .i64 id, .int .i64 ep, .slice ia n n, .bool bz] (0, 0) _ rfl (setRow_heap _ r _ _ _ _ (RB.out X2 B2)) Tryz.underlying77 rfl (by kernel_rfl)) rfl ?_
  exact ⟨ia, rfl, CU2.out.row (fun q o e => by have h1 := RF.out q o e; have h2 := LT.out; omega), NI.out, BX.out.trans (below_rowV (B2.mono LE.out) (by have h2 := LT.out; have h3 := HP.out; omega) _)⟩
theorem wToHello (x y : Int) (w : World) : Calls Tryz.prog 77 #[.iface 70 (.agg #[.int .i64 x, .int .i64 y])] w fun e w' => e = .returned (.slice (some ⟨w.heap.size, 0, none⟩) 1 1) ∧ w' = w.alloc (.cells #[.int .i64 0, .iface 70 (.agg #[.int .i64 x, .int .i64 y])] 72) := by
  go_enter Tryz.func77, Tryz.ntmps77
  go_wp2_with fail
  go_ret
  exact ⟨rfl, rfl⟩
theorem wToReply (r : RepP) (w : World) : Calls Tryz.prog 77 #[.iface 77 (.agg #[.int .i64 r.slot, .int .i64 r.query, .int .i64 r.shard, .int .i64 r.seq, .int .i64 r.worker, .int .i64 r.epoch, .slice r.ia r.n r.ic, .bool r.fin])] w fun e w' => e = .returned (.slice (some ⟨w.heap.size, 0, none⟩) 1 1) ∧ w' = w.alloc (.cells #[.int .i64 0, .iface 77 (.agg #[.int .i64 r.slot, .int .i64 r.query, .int .i64 r.shard, .int .i64 r.seq, .int .i64 r.worker, .int .i64 r.epoch, .slice r.ia r.n r.ic, .bool r.fin])] 72) := by
  go_enter Tryz.func77, Tryz.ntmps77
  go_wp2_with fail
  go_ret
  exact ⟨rfl, rfl⟩
/-- one letter to the coordinator -/
def LetterP (w : World) (M : MsgV) (e : Ending) (w' : World) : Prop := ∃ p, e = .returned (.slice (some ⟨p, 0, none⟩) 1 1) ∧ w.heap.size ≤ p ∧ w'.heap[p]? = some (.cells #[.int .i64 0, valM M] 72 (0, 0))
theorem wWake_nil (w : World) : Calls Tryz.prog 34 #[.pointer none] w fun e w' => e = .returned (.slice none 0 0) ∧ w = w' := by
  go_enter Tryz.func34, Tryz.ntmps34
  go_wp2_with fail
  refine (wUp_nil w).mono ?_
  rintro e w' ⟨rfl, rfl⟩
  go_wp2_with fail
  go_ret
  exact ⟨rfl, rfl⟩
set_option maxHeartbeats 1600000 in
theorem wake_hello {b d : Nat} {id wl ep : Int} {qp mp : Option Nat} (w : World) (hx : WBox w b d id true wl ep qp mp) (CU0 : ∀ w', Below w.heap.size w w' → Calls Tryz.prog 24 #[.pointer (some ⟨b, 0, none⟩)] w' fun e w'' => e = .returned (.bool true) ∧ w' = w'')
    (hn : decide (0 < ep) = false) : Calls Tryz.prog 34 #[.pointer (some ⟨b, 0, none⟩)] w fun e w' => LetterP w (.hello id wl) e w' ∧ Below w.heap.size w w' := by
  have CU := Lib.hid (CU0 w (Below.refl _ _))
  have XZ0 := Lib.hid hx
  have c4 := hx.c4
  clear hx CU0
  go_enter Tryz.func34, Tryz.ntmps34
  go_wp2_with fail
  with_reducible refine CU.out.mono ?_
  rintro e w' ⟨rfl, rfl⟩
  go_upto_region 7 with fail
  obtain ⟨wz, hwz⟩ : ∃ wz, wz = w := ⟨_, rfl⟩
  subst hwz
  have XZ := XZ0
  clear c4 CU
  have hS2 : (wz.drew.cell? ⟨b, 0, none⟩ = some (.int .i64 id) ∧ wz.drew.cell? ⟨b, 3, none⟩ = some (.int .i64 wl)) := ⟨XZ.out.c0, XZ.out.c3⟩
  refine wp_region_held_drew (S := (fun w' => (w'.cell? ⟨b, 0, none⟩ = some (.int .i64 id) ∧ w'.cell? ⟨b, 3, none⟩ = some (.int .i64 wl)))) (by kernel_rfl) hS2 (fun hHeld0 => ?_)
  clear hS2
  have B0 : Below wz.heap.size wz wz.drew := (Below.refl _ _).drew
  have X0B : WBox wz.drew b d id true wl ep qp mp := XZ.out
  generalize wz.drew = X0 at hHeld0 B0 X0B ⊢
  refine wpAnyH_take (i := 0) (oi := { dst := some 27, op := Op.move (Operand.tmp 0), type := 29, pos := "worker.go:138", after := #[], guard := none }) (v := ?vz43) rfl (by kernel_rfl) (by kernel_rfl) (by kernel_rfl) (fun _ _ _ h => h) (Or.inl ⟨by rfl, ?hyz43⟩) (by assumption) ?restz43
  case hyz43 => (intro w hSw; (try dsimp only at hSw); go_simp; (try with_reducible rfl))
  try simp only [Act.put, List.setIfInBounds_toArray, List.set_cons_zero, List.set_cons_succ]
  refine wpAnyH_take (i := 1) (oi := { dst := some 28, op := Op.nilCheck (Operand.tmp 27), type := 0, pos := "worker.go:138", after := #[{ on := 0, ground := Ground.data }], guard := none }) (v := ?vz44) rfl (by kernel_rfl) (by kernel_rfl) (by kernel_rfl) (fun _ _ _ h => h) (Or.inl ⟨by rfl, ?hyz44⟩) (by assumption) ?restz44
  case hyz44 => (intro w hSw; (try dsimp only at hSw); go_simp; (try with_reducible rfl))
  try simp only [Act.put, List.setIfInBounds_toArray, List.set_cons_zero, List.set_cons_succ]
  refine wpAnyH_take (i := 2) (oi := { dst := some 29, op := Op.fieldAddr 95 (Operand.tmp 28) 0, type := 0, pos := "worker.go:138", after := #[{ on := 1, ground := Ground.data }], guard := none }) (v := ?vz45) rfl (by kernel_rfl) (by kernel_rfl) (by kernel_rfl) (fun _ _ _ h => h) (Or.inl ⟨by rfl, ?hyz45⟩) (by assumption) ?restz45
  case hyz45 => (intro w hSw; (try dsimp only at hSw); go_simp; (try with_reducible rfl))
  try simp only [Act.put, List.setIfInBounds_toArray, List.set_cons_zero, List.set_cons_succ]
  refine wpAnyH_take (i := 3) (oi := { dst := some 30, op := Op.load 3 (Operand.tmp 29), type := 3, pos := "worker.go:138", after := #[{ on := 2, ground := Ground.data }], guard := none }) (v := ?vz46) rfl (by kernel_rfl) (by kernel_rfl) (by kernel_rfl) (fun _ _ _ h => h) (Or.inl ⟨by rfl, ?hyz46⟩) (by assumption) ?restz46
  case hyz46 => (intro w hSw; (try dsimp only at hSw); go_simp; (try with_reducible rfl))
  try simp only [Act.put, List.setIfInBounds_toArray, List.set_cons_zero, List.set_cons_succ]
  refine wpAnyH_take (i := 4) (oi := { dst := some 31, op := Op.move (Operand.tmp 0), type := 29, pos := "worker.go:138", after := #[], guard := none }) (v := ?vz47) rfl (by kernel_rfl) (by kernel_rfl) (by kernel_rfl) (fun _ _ _ h => h) (Or.inl ⟨by rfl, ?hyz47⟩) (by assumption) ?restz47
  case hyz47 => (intro w hSw; (try dsimp only at hSw); go_simp; (try with_reducible rfl))
  try simp only [Act.put, List.setIfInBounds_toArray, List.set_cons_zero, List.set_cons_succ]
  refine wpAnyH_take (i := 5) (oi := { dst := some 32, op := Op.nilCheck (Operand.tmp 31), type := 0, pos := "worker.go:138", after := #[{ on := 4, ground := Ground.data }], guard := none }) (v := ?vz48) rfl (by kernel_rfl) (by kernel_rfl) (by kernel_rfl) (fun _ _ _ h => h) (Or.inl ⟨by rfl, ?hyz48⟩) (by assumption) ?restz48
  case hyz48 => (intro w hSw; (try dsimp only at hSw); go_simp; (try with_reducible rfl))
  try simp only [Act.put, List.setIfInBounds_toArray, List.set_cons_zero, List.set_cons_succ]
  refine wpAnyH_take (i := 6) (oi := { dst := some 33, op := Op.fieldAddr 95 (Operand.tmp 32) 3, type := 0, pos := "worker.go:138", after := #[{ on := 5, ground := Ground.data }], guard := none }) (v := ?vz49) rfl (by kernel_rfl) (by kernel_rfl) (by kernel_rfl) (fun _ _ _ h => h) (Or.inl ⟨by rfl, ?hyz49⟩) (by assumption) ?restz49
  case hyz49 => (intro w hSw; (try dsimp only at hSw); go_simp; (try with_reducible rfl))
  try simp only [Act.put, List.setIfInBounds_toArray, List.set_cons_zero, List.set_cons_succ]
  refine wpAnyH_take (i := 7) (oi := { dst := some 34, op := Op.load 3 (Operand.tmp 33), type := 3, pos := "worker.go:138", after := #[{ on := 6, ground := Ground.data }], guard := none }) (v := ?vz50) rfl (by kernel_rfl) (by kernel_rfl) (by kernel_rfl) (fun _ _ _ h => h) (Or.inl ⟨by rfl, ?hyz50⟩) (by assumption) ?restz50
  case hyz50 => (intro w hSw; (try dsimp only at hSw); go_simp; (try with_reducible rfl))
  try simp only [Act.put, List.setIfInBounds_toArray, List.set_cons_zero, List.set_cons_succ]
  refine wpAnyH_take (i := 8) (oi := { dst := some 35, op := Op.build 70 #[(0, Operand.tmp 30), (1, Operand.tmp 34)], type := 70, pos := "worker.go:138", after := #[{ on := 3, ground := Ground.data }, { on := 7, ground := Ground.data }], guard := none }) (v := ?vz51) rfl (by kernel_rfl) (by kernel_rfl) (by kernel_rfl) (fun _ _ _ h => h) (Or.inl ⟨by rfl, ?hyz51⟩) (by assumption) ?restz51
  case hyz51 => (intro w hSw; (try dsimp only at hSw); go_simp; (try with_reducible rfl))
  try simp only [Act.put, List.setIfInBounds_toArray, List.set_cons_zero, List.set_cons_succ]
  refine wpAnyH_take (i := 9) (oi := { dst := some 36, op := Op.makeInterface 70 (Operand.tmp 35), type := 20, pos := "worker.go:138", after := #[{ on := 8, ground := Ground.data }], guard := none }) (v := ?vz52) rfl (by kernel_rfl) (by kernel_rfl) (by kernel_rfl) (fun _ _ _ h => h) (Or.inl ⟨by rfl, ?hyz52⟩) (by assumption) ?restz52
  case hyz52 => (intro w hSw; (try dsimp only at hSw); go_simp; (try with_reducible rfl))
  try simp only [Act.put, List.setIfInBounds_toArray, List.set_cons_zero, List.set_cons_succ]
  refine wpAnyH_ready (rs := [10]) (by kernel_rfl) (by simp) ?_
  refine AllReadyH.cons (o := { dst := some 37, op := Op.call { callee := Callee.value (Operand.func 77), args := #[Operand.tmp 36], argTypes := #[20] }, type := 66, pos := "worker.go:138", after := #[{ on := 9, ground := Ground.data }], guard := none }) rfl (fun K hK => ?_) AllReadyH.nil
  go_simp
  go_at_call 77
  with_reducible refine (wToHello id wl X0).mono ?_
  rintro e X1 ⟨rfl, rfl⟩
  go_wp2_with fail
  have b5 := below_one X0 (.cells #[.int .i64 0, .iface 70 (.agg #[.int .i64 id, .int .i64 wl])] 72)
  have N5 := heap_alloc_new X0 (.cells #[.int .i64 0, .iface 70 (.agg #[.int .i64 id, .int .i64 wl])] 72)
  have XX := X0B.below b5
  obtain ⟨lp, hlp⟩ : ∃ lp, X0.heap.size = lp := ⟨_, rfl⟩
  rw [hlp] at N5 ⊢
  have LL := Lib.hid (show wz.heap.size ≤ lp from hlp ▸ B0.size)
  have BB := Lib.hid (B0.trans (b5.mono B0.size))
  generalize X0.alloc (.cells #[.int .i64 0, .iface 70 (.agg #[.int .i64 id, .int .i64 wl])] 72) = X1 at N5 XX BB ⊢
  refine hK.out _ _ ⟨XX.c0, XX.c3⟩ (fun hHeld1 => ?_)
  clear hK K b5
  try simp only [Act.put, List.setIfInBounds_toArray, List.set_cons_zero, List.set_cons_succ]
  refine wpAnyH_take (i := 11) (oi := { dst := some 2, op := Op.assign (Operand.tmp 37), type := 66, pos := "worker.go:138", after := #[{ on := 10, ground := Ground.data }, { on := 10, ground := Ground.chain }, { on := 0, ground := Ground.phase }, { on := 1, ground := Ground.phase }, { on := 2, ground := Ground.phase }, { on := 3, ground := Ground.phase }, { on := 4, ground := Ground.phase }, { on := 5, ground := Ground.phase }, { on := 6, ground := Ground.phase }, { on := 7, ground := Ground.phase }, { on := 8, ground := Ground.phase }, { on := 9, ground := Ground.phase }, { on := 10, ground := Ground.phase }], guard := none }) (v := ?vz53) rfl (by kernel_rfl) (by kernel_rfl) (by kernel_rfl) (fun _ _ _ h => h) (Or.inl ⟨by rfl, ?hyz53⟩) (by assumption) ?restz53
  case hyz53 => (intro w hSw; (try dsimp only at hSw); go_simp; (try with_reducible rfl))
  try simp only [Act.put, List.setIfInBounds_toArray, List.set_cons_zero, List.set_cons_succ]
  refine wpAnyH_done (by kernel_rfl) ?_ _
  go_wp2_with fail
  go_ret
  exact ⟨⟨lp, rfl, LL.out, N5⟩, BB.out⟩
set_option maxHeartbeats 1600000 in
theorem wake_empty {b d q : Nat} {SQ : Nat → Prop} {id wl ep : Int} {mp : Option Nat} (w : World) (hx : WBox w b d id true wl ep (some q) mp) (CU0 : ∀ w', Below w.heap.size w w' → Calls Tryz.prog 24 #[.pointer (some ⟨b, 0, none⟩)] w' fun e w'' => e = .returned (.bool true) ∧ w' = w'') (hq : QAt w q [] SQ)
    (hn : decide (0 < ep) = true) : Calls Tryz.prog 34 #[.pointer (some ⟨b, 0, none⟩)] w fun e w' => LetterP w (.hello id wl) e w' ∧ Below w.heap.size w w' := by
  have CU := Lib.hid (CU0 w (Below.refl _ _))
  have CP := Lib.hid (qPop_empty q w hq)
  have XZ0 := Lib.hid hx
  have c4 := hx.c4
  have c5 := hx.c5
  clear hx CU0 hq
  go_enter Tryz.func34, Tryz.ntmps34
  go_wp2_with fail
  with_reducible refine CU.out.mono ?_
  rintro e w' ⟨rfl, rfl⟩
  go_wp2_with fail
  with_reducible refine CP.out.mono ?_
  rintro e w2 ⟨rfl, hb⟩
  have b3 := below_one w2 (.cells #[.int .i64 0, .int .i64 0, .int .i64 0, .int .i64 0, .int .i64 0, .string ⟨#[]⟩, .int .i64 0, .int .i64 0, .bool false, .int .i64 0, .string ⟨#[]⟩] 41)
  have BZ := Lib.hid (hb.trans (b3.mono hb.size))
  obtain ⟨wz, hwz⟩ : ∃ wz, w2.alloc (.cells #[.int .i64 0, .int .i64 0, .int .i64 0, .int .i64 0, .int .i64 0, .string ⟨#[]⟩, .int .i64 0, .int .i64 0, .bool false, .int .i64 0, .string ⟨#[]⟩] 41) = wz := ⟨_, rfl⟩
  rw [hwz] at BZ
  have HWZ := Lib.hid hwz
  have XZ := Lib.hid (XZ0.out.below BZ.out)
  clear c4 c5 CU CP hb b3 hwz
  go_upto_region 7 with fail
  try rw [HWZ.out]
  have hS2 : (wz.drew.cell? ⟨b, 0, none⟩ = some (.int .i64 id) ∧ wz.drew.cell? ⟨b, 3, none⟩ = some (.int .i64 wl)) := ⟨XZ.out.c0, XZ.out.c3⟩
  refine wp_region_held_drew (S := (fun w' => (w'.cell? ⟨b, 0, none⟩ = some (.int .i64 id) ∧ w'.cell? ⟨b, 3, none⟩ = some (.int .i64 wl)))) (by kernel_rfl) hS2 (fun hHeld0 => ?_)
  clear hS2
  have B0 : Below wz.heap.size wz wz.drew := (Below.refl _ _).drew
  have X0B : WBox wz.drew b d id true wl ep (some q) mp := XZ.out
  generalize wz.drew = X0 at hHeld0 B0 X0B ⊢
  refine wpAnyH_take (i := 0) (oi := { dst := some 27, op := Op.move (Operand.tmp 0), type := 29, pos := "worker.go:138", after := #[], guard := none }) (v := ?vz43) rfl (by kernel_rfl) (by kernel_rfl) (by kernel_rfl) (fun _ _ _ h => h) (Or.inl ⟨by rfl, ?hyz43⟩) (by assumption) ?restz43
  case hyz43 => (intro w hSw; (try dsimp only at hSw); go_simp; (try with_reducible rfl))
  try simp only [Act.put, List.setIfInBounds_toArray, List.set_cons_zero, List.set_cons_succ]
  refine wpAnyH_take (i := 1) (oi := { dst := some 28, op := Op.nilCheck (Operand.tmp 27), type := 0, pos := "worker.go:138", after := #[{ on := 0, ground := Ground.data }], guard := none }) (v := ?vz44) rfl (by kernel_rfl) (by kernel_rfl) (by kernel_rfl) (fun _ _ _ h => h) (Or.inl ⟨by rfl, ?hyz44⟩) (by assumption) ?restz44
  case hyz44 => (intro w hSw; (try dsimp only at hSw); go_simp; (try with_reducible rfl))
  try simp only [Act.put, List.setIfInBounds_toArray, List.set_cons_zero, List.set_cons_succ]
  refine wpAnyH_take (i := 2) (oi := { dst := some 29, op := Op.fieldAddr 95 (Operand.tmp 28) 0, type := 0, pos := "worker.go:138", after := #[{ on := 1, ground := Ground.data }], guard := none }) (v := ?vz45) rfl (by kernel_rfl) (by kernel_rfl) (by kernel_rfl) (fun _ _ _ h => h) (Or.inl ⟨by rfl, ?hyz45⟩) (by assumption) ?restz45
  case hyz45 => (intro w hSw; (try dsimp only at hSw); go_simp; (try with_reducible rfl))
  try simp only [Act.put, List.setIfInBounds_toArray, List.set_cons_zero, List.set_cons_succ]
  refine wpAnyH_take (i := 3) (oi := { dst := some 30, op := Op.load 3 (Operand.tmp 29), type := 3, pos := "worker.go:138", after := #[{ on := 2, ground := Ground.data }], guard := none }) (v := ?vz46) rfl (by kernel_rfl) (by kernel_rfl) (by kernel_rfl) (fun _ _ _ h => h) (Or.inl ⟨by rfl, ?hyz46⟩) (by assumption) ?restz46
  case hyz46 => (intro w hSw; (try dsimp only at hSw); go_simp; (try with_reducible rfl))
  try simp only [Act.put, List.setIfInBounds_toArray, List.set_cons_zero, List.set_cons_succ]
  refine wpAnyH_take (i := 4) (oi := { dst := some 31, op := Op.move (Operand.tmp 0), type := 29, pos := "worker.go:138", after := #[], guard := none }) (v := ?vz47) rfl (by kernel_rfl) (by kernel_rfl) (by kernel_rfl) (fun _ _ _ h => h) (Or.inl ⟨by rfl, ?hyz47⟩) (by assumption) ?restz47
  case hyz47 => (intro w hSw; (try dsimp only at hSw); go_simp; (try with_reducible rfl))
  try simp only [Act.put, List.setIfInBounds_toArray, List.set_cons_zero, List.set_cons_succ]
  refine wpAnyH_take (i := 5) (oi := { dst := some 32, op := Op.nilCheck (Operand.tmp 31), type := 0, pos := "worker.go:138", after := #[{ on := 4, ground := Ground.data }], guard := none }) (v := ?vz48) rfl (by kernel_rfl) (by kernel_rfl) (by kernel_rfl) (fun _ _ _ h => h) (Or.inl ⟨by rfl, ?hyz48⟩) (by assumption) ?restz48
  case hyz48 => (intro w hSw; (try dsimp only at hSw); go_simp; (try with_reducible rfl))
  try simp only [Act.put, List.setIfInBounds_toArray, List.set_cons_zero, List.set_cons_succ]
  refine wpAnyH_take (i := 6) (oi := { dst := some 33, op := Op.fieldAddr 95 (Operand.tmp 32) 3, type := 0, pos := "worker.go:138", after := #[{ on := 5, ground := Ground.data }], guard := none }) (v := ?vz49) rfl (by kernel_rfl) (by kernel_rfl) (by kernel_rfl) (fun _ _ _ h => h) (Or.inl ⟨by rfl, ?hyz49⟩) (by assumption) ?restz49
  case hyz49 => (intro w hSw; (try dsimp only at hSw); go_simp; (try with_reducible rfl))
  try simp only [Act.put, List.setIfInBounds_toArray, List.set_cons_zero, List.set_cons_succ]
  refine wpAnyH_take (i := 7) (oi := { dst := some 34, op := Op.load 3 (Operand.tmp 33), type := 3, pos := "worker.go:138", after := #[{ on := 6, ground := Ground.data }], guard := none }) (v := ?vz50) rfl (by kernel_rfl) (by kernel_rfl) (by kernel_rfl) (fun _ _ _ h => h) (Or.inl ⟨by rfl, ?hyz50⟩) (by assumption) ?restz50
  case hyz50 => (intro w hSw; (try dsimp only at hSw); go_simp; (try with_reducible rfl))
  try simp only [Act.put, List.setIfInBounds_toArray, List.set_cons_zero, List.set_cons_succ]
  refine wpAnyH_take (i := 8) (oi := { dst := some 35, op := Op.build 70 #[(0, Operand.tmp 30), (1, Operand.tmp 34)], type := 70, pos := "worker.go:138", after := #[{ on := 3, ground := Ground.data }, { on := 7, ground := Ground.data }], guard := none }) (v := ?vz51) rfl (by kernel_rfl) (by kernel_rfl) (by kernel_rfl) (fun _ _ _ h => h) (Or.inl ⟨by rfl, ?hyz51⟩) (by assumption) ?restz51
  case hyz51 => (intro w hSw; (try dsimp only at hSw); go_simp; (try with_reducible rfl))
  try simp only [Act.put, List.setIfInBounds_toArray, List.set_cons_zero, List.set_cons_succ]
  refine wpAnyH_take (i := 9) (oi := { dst := some 36, op := Op.makeInterface 70 (Operand.tmp 35), type := 20, pos := "worker.go:138", after := #[{ on := 8, ground := Ground.data }], guard := none }) (v := ?vz52) rfl (by kernel_rfl) (by kernel_rfl) (by kernel_rfl) (fun _ _ _ h => h) (Or.inl ⟨by rfl, ?hyz52⟩) (by assumption) ?restz52
  case hyz52 => (intro w hSw; (try dsimp only at hSw); go_simp; (try with_reducible rfl))
  try simp only [Act.put, List.setIfInBounds_toArray, List.set_cons_zero, List.set_cons_succ]
  refine wpAnyH_ready (rs := [10]) (by kernel_rfl) (by simp) ?_
  refine AllReadyH.cons (o := { dst := some 37, op := Op.call { callee := Callee.value (Operand.func 77), args := #[Operand.tmp 36], argTypes := #[20] }, type := 66, pos := "worker.go:138", after := #[{ on := 9, ground := Ground.data }], guard := none }) rfl (fun K hK => ?_) AllReadyH.nil
  go_simp
  go_at_call 77
  with_reducible refine (wToHello id wl X0).mono ?_
  rintro e X1 ⟨rfl, rfl⟩
  go_wp2_with fail
  have b5 := below_one X0 (.cells #[.int .i64 0, .iface 70 (.agg #[.int .i64 id, .int .i64 wl])] 72)
  have N5 := heap_alloc_new X0 (.cells #[.int .i64 0, .iface 70 (.agg #[.int .i64 id, .int .i64 wl])] 72)
  have XX := X0B.below b5
  obtain ⟨lp, hlp⟩ : ∃ lp, X0.heap.size = lp := ⟨_, rfl⟩
  rw [hlp] at N5 ⊢
  have LL := Lib.hid (show wz.heap.size ≤ lp from hlp ▸ B0.size)
  have BB := Lib.hid (B0.trans (b5.mono B0.size))
  generalize X0.alloc (.cells #[.int .i64 0, .iface 70 (.agg #[.int .i64 id, .int .i64 wl])] 72) = X1 at N5 XX BB ⊢
  refine hK.out _ _ ⟨XX.c0, XX.c3⟩ (fun hHeld1 => ?_)
  clear hK K b5
  try simp only [Act.put, List.setIfInBounds_toArray, List.set_cons_zero, List.set_cons_succ]
  refine wpAnyH_take (i := 11) (oi := { dst := some 2, op := Op.assign (Operand.tmp 37), type := 66, pos := "worker.go:138", after := #[{ on := 10, ground := Ground.data }, { on := 10, ground := Ground.chain }, { on := 0, ground := Ground.phase }, { on := 1, ground := Ground.phase }, { on := 2, ground := Ground.phase }, { on := 3, ground := Ground.phase }, { on := 4, ground := Ground.phase }, { on := 5, ground := Ground.phase }, { on := 6, ground := Ground.phase }, { on := 7, ground := Ground.phase }, { on := 8, ground := Ground.phase }, { on := 9, ground := Ground.phase }, { on := 10, ground := Ground.phase }], guard := none }) (v := ?vz53) rfl (by kernel_rfl) (by kernel_rfl) (by kernel_rfl) (fun _ _ _ h => h) (Or.inl ⟨by rfl, ?hyz53⟩) (by assumption) ?restz53
  case hyz53 => (intro w hSw; (try dsimp only at hSw); go_simp; (try with_reducible rfl))
  try simp only [Act.put, List.setIfInBounds_toArray, List.set_cons_zero, List.set_cons_succ]
  refine wpAnyH_done (by kernel_rfl) ?_ _
  go_wp2_with fail
  go_ret
  exact ⟨⟨lp, rfl, Nat.le_trans BZ.out.size LL.out, N5⟩, BZ.out.trans (BB.out.mono BZ.out.size)⟩
set_option maxHeartbeats 1600000 in
theorem wake_reply {b d q mm : Nat} {SQ : Nat → Prop} {id wl ep : Int} {l : List AskP} (x : AskP) (n : Nat) (ys : List KV) (bz : Bool) (w : World) (hx : WBox w b d id true wl ep (some q) (some mm)) (CU0 : ∀ w', Below w.heap.size w w' → Calls Tryz.prog 24 #[.pointer (some ⟨b, 0, none⟩)] w' fun e w'' => e = .returned (.bool true) ∧ w' = w'') (hq : QAt w q (x :: l) SQ) (hgo : Qu.Good (x :: l)) (hbq : ¬ SQ b)
    (CA0 : ∀ w', Turn SQ w w' → Calls Tryz.prog 78 #[.pointer (some ⟨b, 0, none⟩), .agg #[.int .i64 x.slot, .int .i64 x.query, .int .i64 x.shard, .int .i64 x.seq, .int .i64 x.epoch, .string x.text, .int .i64 x.k, .int .i64 x.batch, .bool x.first, .int .i64 x.ad, .string x.aw]] w' (AnsP w' id ep x n ys bz)) (hn : decide (0 < ep) = true) :
    Calls Tryz.prog 34 #[.pointer (some ⟨b, 0, none⟩)] w fun e w' => ∃ ia, LetterP w (.reply ⟨x.slot, x.query, x.shard, x.seq, id, ep, ia, n, n, ys, bz⟩) e w' ∧ CutI w' w.heap.size ia n ys ∧ (ia = none → n = 0) ∧ QAt w' q l SQ ∧ Turn SQ w w' := by
  have CU := Lib.hid (CU0 w (Below.refl _ _))
  have CP := Lib.hid (qPop_any q w hq hgo)
  unfold PopP at CP
  have CA := Lib.hid CA0
  have XZ0 := Lib.hid hx
  have c4 := hx.c4
  have c5 := hx.c5
  clear hx CU0 hq hgo CA0
  go_enter Tryz.func34, Tryz.ntmps34
  go_wp2_with fail
  with_reducible refine CU.out.mono ?_
  rintro e w' ⟨rfl, rfl⟩
  go_wp2_with fail
  with_reducible refine CP.out.mono ?_
  rintro e w2 ⟨rfl, hq2, ht2⟩
  have b3 := below_one w2 (.cells #[.int .i64 x.slot, .int .i64 x.query, .int .i64 x.shard, .int .i64 x.seq, .int .i64 x.epoch, .string x.text, .int .i64 x.k, .int .i64 x.batch, .bool x.first, .int .i64 x.ad, .string x.aw] 41)
  have T3 := Lib.hid (ht2.trans (Turn.of_below b3))
  have Q3 := Lib.hid (hq2.below b3)
  have CA3 := Lib.hid (CA.out _ T3.out)
  clear c4 c5 CU CP b3 hq2 ht2 CA
  go_wp2_with fail
  with_reducible refine CA3.out.mono ?_
  rintro e w4 ⟨ia, rfl, hcut, hnil, hb⟩
  have T4 := Lib.hid (T3.out.trans (Turn.of_below hb))
  have Q4 := Lib.hid (Q3.out.below hb)
  have C4 := Lib.hid (show CutI w4 w.heap.size ia n ys from hcut.low T3.out.size)
  have N4 := Lib.hid hnil
  have CT := Lib.hid (wToReply ⟨x.slot, x.query, x.shard, x.seq, id, ep, ia, n, n, ys, bz⟩ w4)
  clear hcut hnil hb CA3 T3 Q3
  go_wp2_with fail
  with_reducible refine CT.out.mono ?_
  rintro e w5 ⟨rfl, rfl⟩
  have b5 := below_one w4 (.cells #[.int .i64 0, valM (.reply ⟨x.slot, x.query, x.shard, x.seq, id, ep, ia, n, n, ys, bz⟩)] 72)
  have FIN := Lib.hid (show LetterP w (.reply ⟨x.slot, x.query, x.shard, x.seq, id, ep, ia, n, n, ys, bz⟩) (.returned (.slice (some ⟨w4.heap.size, 0, none⟩) 1 1)) (w4.alloc (.cells #[.int .i64 0, valM (.reply ⟨x.slot, x.query, x.shard, x.seq, id, ep, ia, n, n, ys, bz⟩)] 72)) ∧ CutI (w4.alloc (.cells #[.int .i64 0, valM (.reply ⟨x.slot, x.query, x.shard, x.seq, id, ep, ia, n, n, ys, bz⟩)] 72)) w.heap.size ia n ys ∧ (ia = none → n = 0) ∧ QAt (w4.alloc (.cells #[.int .i64 0, valM (.reply ⟨x.slot, x.query, x.shard, x.seq, id, ep, ia, n, n, ys, bz⟩)] 72)) q l SQ ∧ Turn SQ w (w4.alloc (.cells #[.int .i64 0, valM (.reply ⟨x.slot, x.query, x.shard, x.seq, id, ep, ia, n, n, ys, bz⟩)] 72)) from
    ⟨⟨w4.heap.size, rfl, T4.out.size, heap_alloc_new w4 _⟩, C4.out.below b5, N4.out, Q4.out.below b5, T4.out.trans (Turn.of_below b5)⟩)
  clear b5 CT
  go_wp2_with fail
  go_ret
  exact ⟨ia, FIN.out⟩
end Go.Proofs.YtgnaiahnednllaaGreat
namespace Go.Proofs.YtgnaiahnednllaaGreat
open Go.RowKit
set_option linter.unusedVariables false
set_option maxRecDepth 20000
theorem helloM_alike (a b : Int) (w : World) : (Op.equalIn 10000 70 (.agg #[.int .i64 a, .int .i64 b]) (.agg #[.int .i64 a, .int .i64 b])).run Tryz.prog w = .ok true w := by
  go_simp
set_option maxHeartbeats 1600000 in
theorem sameReply_yes (x : RepP) (ia : Option Addr) (ic : Nat) (w : World) (h1 : HoldsK w x.ia x.n x.items) (h2 : HoldsK w ia x.n x.items) (hn : x.n ≤ 1048576) :
    Calls Tryz.prog 128 #[.agg #[.int .i64 x.slot, .int .i64 x.query, .int .i64 x.shard, .int .i64 x.seq, .int .i64 x.worker, .int .i64 x.epoch, .slice x.ia x.n x.ic, .bool x.fin], .agg #[.int .i64 x.slot, .int .i64 x.query, .int .i64 x.shard, .int .i64 x.seq, .int .i64 x.worker, .int .i64 x.epoch, .slice ia x.n ic, .bool x.fin]] w fun e w' => e = .returned (.bool true) ∧ Below w.heap.size w w' := by
  have BX := Lib.hid (show Below w.heap.size w ((w.alloc (.cells #[.int .i64 x.slot, .int .i64 x.query, .int .i64 x.shard, .int .i64 x.seq, .int .i64 x.worker, .int .i64 x.epoch, .slice x.ia x.n x.ic, .bool x.fin] 77)).alloc (.cells #[.int .i64 x.slot, .int .i64 x.query, .int .i64 x.shard, .int .i64 x.seq, .int .i64 x.worker, .int .i64 x.epoch, .slice ia x.n ic, .bool x.fin] 77)) from by
    repeat' (first | exact Below.refl _ _ | refine Below.alloc ?_ (by simp <;> omega) _))
  have CI := Lib.hid (fun w' (hb : Below w.heap.size w w') => sameItems_yes x.ia ia x.n x.ic ic x.items w' (h1.below hb) (h2.below hb) (by omega))
  have e0 : (x.slot == x.slot) = true := by simp
  have e1 : (x.query == x.query) = true := by simp
  have e2 : (x.shard == x.shard) = true := by simp
  have e3 : (x.seq == x.seq) = true := by simp
  have e4 : (x.worker == x.worker) = true := by simp
  have e5 : (x.epoch == x.epoch) = true := by simp
  have e6 : (x.fin == x.fin) = true := by simp
  have C2 := Lib.hid (CI.out _ BX.out)
  clear h1 h2 CI
  go_enter Tryz.func128, Tryz.ntmps128
  go_wp2_with fail
  refine C2.out.mono ?_
  rintro e w' ⟨rfl, hb⟩
  have B := Lib.hid (BX.out.trans (hb.mono BX.out.size))
  clear hb C2
  go_wp2_with fail
  go_ret
  exact ⟨rfl, B.out⟩
set_option maxHeartbeats 1600000 in
theorem sameHelloM (a b : Int) (w : World) : Calls Tryz.prog 79 #[.iface 70 (.agg #[.int .i64 a, .int .i64 b]), .iface 70 (.agg #[.int .i64 a, .int .i64 b])] w fun e w' => e = .returned (.bool true) ∧ Below w.heap.size w w' := by
  have tHello := taHelloHello a b
  have BX := Lib.hid (show Below w.heap.size w ((w.alloc (.cells #[.int .i64 a, .int .i64 b] 70)).alloc (.cells #[.int .i64 a, .int .i64 b] 70)) from by
    repeat' (first | exact Below.refl _ _ | refine Below.alloc ?_ (by simp <;> omega) _))
  have heq := fun w => helloM_alike a b w
  go_enter Tryz.func79, Tryz.ntmps79
  go_wp2_with fail
  go_ret
  exact ⟨rfl, BX.out⟩
set_option maxHeartbeats 1600000 in
theorem sameReplyM (x : RepP) (ia : Option Addr) (ic : Nat) (w : World) (h1 : HoldsK w x.ia x.n x.items) (h2 : HoldsK w ia x.n x.items) (hn : x.n ≤ 1048576) : Calls Tryz.prog 79 #[.iface 77 (.agg #[.int .i64 x.slot, .int .i64 x.query, .int .i64 x.shard, .int .i64 x.seq, .int .i64 x.worker, .int .i64 x.epoch, .slice x.ia x.n x.ic, .bool x.fin]), .iface 77 (.agg #[.int .i64 x.slot, .int .i64 x.query, .int .i64 x.shard, .int .i64 x.seq, .int .i64 x.worker, .int .i64 x.epoch, .slice ia x.n ic, .bool x.fin])] w fun e w' => e = .returned (.bool true) ∧ Below w.heap.size w w' := by
  have tHello := taReplyHello x
  have tGrant := taReplyGrant x
  have tAsk := taReplyAsk x
  have tReply := taReplyReply x
  have tB := taReplyReply ⟨x.slot, x.query, x.shard, x.seq, x.worker, x.epoch, ia, x.n, ic, x.items, x.fin⟩
  simp only at tB
  have BX := Lib.hid (show Below w.heap.size w ((w.alloc (.cells #[.int .i64 x.slot, .int .i64 x.query, .int .i64 x.shard, .int .i64 x.seq, .int .i64 x.worker, .int .i64 x.epoch, .slice x.ia x.n x.ic, .bool x.fin] 77)).alloc (.cells #[.int .i64 x.slot, .int .i64 x.query, .int .i64 x.shard, .int .i64 x.seq, .int .i64 x.worker, .int .i64 x.epoch, .slice ia x.n ic, .bool x.fin] 77)) from by
    repeat' (first | exact Below.refl _ _ | refine Below.alloc ?_ (by simp <;> omega) _))
  have CR := Lib.hid (sameReply_yes x ia ic _ (h1.below BX.out) (h2.below BX.out) hn)
  clear h1 h2
  go_enter Tryz.func79, Tryz.ntmps79
  go_wp2_with fail
  refine CR.out.mono ?_
  rintro e w' ⟨rfl, hb⟩
  have B := Lib.hid (BX.out.trans (hb.mono BX.out.size))
  clear hb CR
  go_wp2_with fail
  go_ret
  exact ⟨rfl, B.out⟩
end Go.Proofs.YtgnaiahnednllaaGreat
namespace Go.Proofs.YtgnaiahnednllaaGreat
open Go.RowKit
set_option linter.unusedVariables false
set_option maxRecDepth 20000
set_option maxHeartbeats 800000 in
theorem sameLetters1 (p1 p2 ca cb : Nat) (t : Int) (v1 v2 : Value) (w : World) (h1 : w.cell? ⟨p1, 0, none⟩ = some (.int .i64 t)) (h2 : w.cell? ⟨p1, 1, none⟩ = some v1) (h3 : w.cell? ⟨p2, 0, none⟩ = some (.int .i64 t)) (h4 : w.cell? ⟨p2, 1, none⟩ = some v2)
    (CS0 : ∀ w', Below w.heap.size w w' → Calls Tryz.prog 79 #[v1, v2] w' fun e w'' => e = .returned (.bool true) ∧ Below w'.heap.size w' w'') :
    Calls Tryz.prog 35 #[.slice (some ⟨p1, 0, none⟩) 1 ca, .slice (some ⟨p2, 0, none⟩) 1 cb] w fun e w' => e = .returned (.bool true) ∧ Below w.heap.size w w' := by
  have CS := Lib.hid CS0
  have SB := Lib.hid (show ∀ w', Below w.heap.size w w' → ((Below w.heap.size w w' ∧ w'.cell? ⟨p1, 0, none⟩ = some (.int .i64 t) ∧ w'.cell? ⟨p1, 1, none⟩ = some v1) ∧ w'.cell? ⟨p2, 0, none⟩ = some (.int .i64 t) ∧ w'.cell? ⟨p2, 1, none⟩ = some v2) from fun w' hb => ⟨⟨hb, (hb.cell (p := ⟨p1, 0, none⟩) (lt_of_cell h1)).trans h1, (hb.cell (p := ⟨p1, 1, none⟩) (lt_of_cell h2)).trans h2⟩, (hb.cell (p := ⟨p2, 0, none⟩) (lt_of_cell h3)).trans h3, (hb.cell (p := ⟨p2, 1, none⟩) (lt_of_cell h4)).trans h4⟩)
  clear h1 h2 h3 h4 CS0
  go_enter Tryz.func35, Tryz.ntmps35
  go_wp2_with fail
  go_loopw [5] (fun iv wr => ∃ j : Nat, iv = .int .i64 j ∧ ((j = 0 ∧ Hid (w = wr)) ∨ (j = 1 ∧ Hid (Below w.heap.size w wr)))) (fun iv _ => 1 - (intOf iv).toNat)
  case atStart => exact ⟨0, rfl, Or.inl ⟨rfl, Lib.hid rfl⟩⟩
  case round =>
    obtain ⟨j, rfl, ⟨rfl, hw⟩ | ⟨rfl, hB⟩⟩ := hrel
    · obtain rfl := hw.out
      go_upto_region 6 with fail
      have hS0 := SB.out w.drew ((Below.refl _ _).drew)
      refine wp_region_held_drew (S := (fun w' => ((Below w.heap.size w w' ∧ w'.cell? ⟨p1, 0, none⟩ = some (.int .i64 t) ∧ w'.cell? ⟨p1, 1, none⟩ = some v1) ∧ w'.cell? ⟨p2, 0, none⟩ = some (.int .i64 t) ∧ w'.cell? ⟨p2, 1, none⟩ = some v2))) (by kernel_rfl) hS0 (fun hHeld0 => ?_)
      clear hS0
      generalize w.drew = X0 at hHeld0 ⊢
      refine wpAnyH_take (i := 0) (oi := { dst := some 17, op := Op.move (Operand.tmp 0), type := 66, pos := "same.go:430", after := #[], guard := none }) (v := ?vz1) rfl (by kernel_rfl) (by kernel_rfl) (by kernel_rfl) (fun _ _ _ h => h) (Or.inl ⟨by rfl, ?hyz1⟩) (by assumption) ?restz1
      case hyz1 => (intro w hSw; (try dsimp only at hSw); go_simp; (try with_reducible rfl))
      try simp only [Act.put, List.setIfInBounds_toArray, List.set_cons_zero, List.set_cons_succ]
      refine wpAnyH_take (i := 1) (oi := { dst := some 18, op := Op.move (Operand.tmp 5), type := 3, pos := "same.go:430", after := #[], guard := none }) (v := ?vz2) rfl (by kernel_rfl) (by kernel_rfl) (by kernel_rfl) (fun _ _ _ h => h) (Or.inl ⟨by rfl, ?hyz2⟩) (by assumption) ?restz2
      case hyz2 => (intro w hSw; (try dsimp only at hSw); go_simp; (try with_reducible rfl))
      try simp only [Act.put, List.setIfInBounds_toArray, List.set_cons_zero, List.set_cons_succ]
      refine wpAnyH_take (i := 2) (oi := { dst := some 19, op := Op.indexAddr 66 (Operand.tmp 17) (Operand.tmp 18), type := 0, pos := "same.go:430", after := #[{ on := 0, ground := Ground.data }, { on := 1, ground := Ground.data }], guard := none }) (v := ?vz3) rfl (by kernel_rfl) (by kernel_rfl) (by kernel_rfl) (fun _ _ _ h => h) (Or.inl ⟨by rfl, ?hyz3⟩) (by assumption) ?restz3
      case hyz3 => (intro w hSw; (try dsimp only at hSw); go_simp; (try with_reducible rfl))
      try simp only [Act.put, List.setIfInBounds_toArray, List.set_cons_zero, List.set_cons_succ]
      refine wpAnyH_take (i := 3) (oi := { dst := some 20, op := Op.fieldAddr 72 (Operand.tmp 19) 0, type := 0, pos := "same.go:430", after := #[{ on := 2, ground := Ground.data }], guard := none }) (v := ?vz4) rfl (by kernel_rfl) (by kernel_rfl) (by kernel_rfl) (fun _ _ _ h => h) (Or.inl ⟨by rfl, ?hyz4⟩) (by assumption) ?restz4
      case hyz4 => (intro w hSw; (try dsimp only at hSw); go_simp; (try with_reducible rfl))
      try simp only [Act.put, List.setIfInBounds_toArray, List.set_cons_zero, List.set_cons_succ]
      refine wpAnyH_take (i := 4) (oi := { dst := some 21, op := Op.load 3 (Operand.tmp 20), type := 3, pos := "same.go:430", after := #[{ on := 3, ground := Ground.data }], guard := none }) (v := ?vz5) rfl (by kernel_rfl) (by kernel_rfl) (by kernel_rfl) (fun _ _ _ h => h) (Or.inl ⟨by rfl, ?hyz5⟩) (by assumption) ?restz5
      case hyz5 => (intro w hSw; (try dsimp only at hSw); go_simp; (try with_reducible rfl))
      try simp only [Act.put, List.setIfInBounds_toArray, List.set_cons_zero, List.set_cons_succ]
      refine wpAnyH_take (i := 5) (oi := { dst := some 22, op := Op.move (Operand.tmp 1), type := 66, pos := "same.go:430", after := #[], guard := none }) (v := ?vz6) rfl (by kernel_rfl) (by kernel_rfl) (by kernel_rfl) (fun _ _ _ h => h) (Or.inl ⟨by rfl, ?hyz6⟩) (by assumption) ?restz6
      case hyz6 => (intro w hSw; (try dsimp only at hSw); go_simp; (try with_reducible rfl))
      try simp only [Act.put, List.setIfInBounds_toArray, List.set_cons_zero, List.set_cons_succ]
      refine wpAnyH_take (i := 6) (oi := { dst := some 23, op := Op.move (Operand.tmp 5), type := 3, pos := "same.go:430", after := #[], guard := none }) (v := ?vz7) rfl (by kernel_rfl) (by kernel_rfl) (by kernel_rfl) (fun _ _ _ h => h) (Or.inl ⟨by rfl, ?hyz7⟩) (by assumption) ?restz7
      case hyz7 => (intro w hSw; (try dsimp only at hSw); go_simp; (try with_reducible rfl))
      try simp only [Act.put, List.setIfInBounds_toArray, List.set_cons_zero, List.set_cons_succ]
      refine wpAnyH_take (i := 7) (oi := { dst := some 24, op := Op.indexAddr 66 (Operand.tmp 22) (Operand.tmp 23), type := 0, pos := "same.go:430", after := #[{ on := 5, ground := Ground.data }, { on := 6, ground := Ground.data }], guard := none }) (v := ?vz8) rfl (by kernel_rfl) (by kernel_rfl) (by kernel_rfl) (fun _ _ _ h => h) (Or.inl ⟨by rfl, ?hyz8⟩) (by assumption) ?restz8
      case hyz8 => (intro w hSw; (try dsimp only at hSw); go_simp; (try with_reducible rfl))
      try simp only [Act.put, List.setIfInBounds_toArray, List.set_cons_zero, List.set_cons_succ]
      refine wpAnyH_take (i := 8) (oi := { dst := some 25, op := Op.fieldAddr 72 (Operand.tmp 24) 0, type := 0, pos := "same.go:430", after := #[{ on := 7, ground := Ground.data }], guard := none }) (v := ?vz9) rfl (by kernel_rfl) (by kernel_rfl) (by kernel_rfl) (fun _ _ _ h => h) (Or.inl ⟨by rfl, ?hyz9⟩) (by assumption) ?restz9
      case hyz9 => (intro w hSw; (try dsimp only at hSw); go_simp; (try with_reducible rfl))
      try simp only [Act.put, List.setIfInBounds_toArray, List.set_cons_zero, List.set_cons_succ]
      refine wpAnyH_take (i := 9) (oi := { dst := some 26, op := Op.load 3 (Operand.tmp 25), type := 3, pos := "same.go:430", after := #[{ on := 8, ground := Ground.data }], guard := none }) (v := ?vz10) rfl (by kernel_rfl) (by kernel_rfl) (by kernel_rfl) (fun _ _ _ h => h) (Or.inl ⟨by rfl, ?hyz10⟩) (by assumption) ?restz10
      case hyz10 => (intro w hSw; (try dsimp only at hSw); go_simp; (try with_reducible rfl))
      try simp only [Act.put, List.setIfInBounds_toArray, List.set_cons_zero, List.set_cons_succ]
      refine wpAnyH_take (i := 10) (oi := { dst := some 27, op := Op.binOp BinOp.neq 3 (Operand.tmp 21) (Operand.tmp 26) 3, type := 4, pos := "same.go:430", after := #[{ on := 4, ground := Ground.data }, { on := 9, ground := Ground.data }], guard := none }) (v := ?vz11) rfl (by kernel_rfl) (by kernel_rfl) (by kernel_rfl) (fun _ _ _ h => h) (Or.inl ⟨by rfl, ?hyz11⟩) (by assumption) ?restz11
      case hyz11 => (intro w hSw; (try dsimp only at hSw); go_simp; (try with_reducible rfl))
      try simp only [Act.put, List.setIfInBounds_toArray, List.set_cons_zero, List.set_cons_succ]
      refine wpAnyH_take (i := 11) (oi := { dst := some 28, op := Op.move (Operand.tmp 27), type := 4, pos := "same.go:430", after := #[{ on := 10, ground := Ground.data }], guard := none }) (v := ?vz12) rfl (by kernel_rfl) (by kernel_rfl) (by kernel_rfl) (fun _ _ _ h => h) (Or.inl ⟨by rfl, ?hyz12⟩) (by assumption) ?restz12
      case hyz12 => (intro w hSw; (try dsimp only at hSw); go_simp; (try with_reducible rfl))
      try simp only [Act.put, List.setIfInBounds_toArray, List.set_cons_zero, List.set_cons_succ]
      refine wpAnyH_take (i := 12) (oi := { dst := some 29, op := Op.move (Operand.tmp 0), type := 66, pos := "same.go:430", after := #[{ on := 11, ground := Ground.guard }], guard := some (11, false) }) (v := ?vz13) rfl (by kernel_rfl) (by kernel_rfl) (by kernel_rfl) (fun _ _ _ h => h) (Or.inl ⟨by rfl, ?hyz13⟩) (by assumption) ?restz13
      case hyz13 => (intro w hSw; (try dsimp only at hSw); go_simp; (try with_reducible rfl))
      try simp only [Act.put, List.setIfInBounds_toArray, List.set_cons_zero, List.set_cons_succ]
      refine wpAnyH_take (i := 13) (oi := { dst := some 30, op := Op.move (Operand.tmp 5), type := 3, pos := "same.go:430", after := #[{ on := 11, ground := Ground.guard }], guard := some (11, false) }) (v := ?vz14) rfl (by kernel_rfl) (by kernel_rfl) (by kernel_rfl) (fun _ _ _ h => h) (Or.inl ⟨by rfl, ?hyz14⟩) (by assumption) ?restz14
      case hyz14 => (intro w hSw; (try dsimp only at hSw); go_simp; (try with_reducible rfl))
      try simp only [Act.put, List.setIfInBounds_toArray, List.set_cons_zero, List.set_cons_succ]
      refine wpAnyH_take (i := 14) (oi := { dst := some 31, op := Op.indexAddr 66 (Operand.tmp 29) (Operand.tmp 30), type := 0, pos := "same.go:430", after := #[{ on := 12, ground := Ground.data }, { on := 13, ground := Ground.data }, { on := 11, ground := Ground.guard }], guard := some (11, false) }) (v := ?vz15) rfl (by kernel_rfl) (by kernel_rfl) (by kernel_rfl) (fun _ _ _ h => h) (Or.inl ⟨by rfl, ?hyz15⟩) (by assumption) ?restz15
      case hyz15 => (intro w hSw; (try dsimp only at hSw); go_simp; (try with_reducible rfl))
      try simp only [Act.put, List.setIfInBounds_toArray, List.set_cons_zero, List.set_cons_succ]
      refine wpAnyH_take (i := 15) (oi := { dst := some 32, op := Op.fieldAddr 72 (Operand.tmp 31) 1, type := 0, pos := "same.go:430", after := #[{ on := 14, ground := Ground.data }, { on := 11, ground := Ground.guard }], guard := some (11, false) }) (v := ?vz16) rfl (by kernel_rfl) (by kernel_rfl) (by kernel_rfl) (fun _ _ _ h => h) (Or.inl ⟨by rfl, ?hyz16⟩) (by assumption) ?restz16
      case hyz16 => (intro w hSw; (try dsimp only at hSw); go_simp; (try with_reducible rfl))
      try simp only [Act.put, List.setIfInBounds_toArray, List.set_cons_zero, List.set_cons_succ]
      refine wpAnyH_take (i := 16) (oi := { dst := some 33, op := Op.load 20 (Operand.tmp 32), type := 20, pos := "same.go:430", after := #[{ on := 15, ground := Ground.data }, { on := 11, ground := Ground.guard }], guard := some (11, false) }) (v := ?vz17) rfl (by kernel_rfl) (by kernel_rfl) (by kernel_rfl) (fun _ _ _ h => h) (Or.inl ⟨by rfl, ?hyz17⟩) (by assumption) ?restz17
      case hyz17 => (intro w hSw; (try dsimp only at hSw); go_simp; (try with_reducible rfl))
      try simp only [Act.put, List.setIfInBounds_toArray, List.set_cons_zero, List.set_cons_succ]
      refine wpAnyH_take (i := 17) (oi := { dst := some 34, op := Op.move (Operand.tmp 1), type := 66, pos := "same.go:430", after := #[{ on := 11, ground := Ground.guard }], guard := some (11, false) }) (v := ?vz18) rfl (by kernel_rfl) (by kernel_rfl) (by kernel_rfl) (fun _ _ _ h => h) (Or.inl ⟨by rfl, ?hyz18⟩) (by assumption) ?restz18
      case hyz18 => (intro w hSw; (try dsimp only at hSw); go_simp; (try with_reducible rfl))
      try simp only [Act.put, List.setIfInBounds_toArray, List.set_cons_zero, List.set_cons_succ]
      refine wpAnyH_take (i := 18) (oi := { dst := some 35, op := Op.move (Operand.tmp 5), type := 3, pos := "same.go:430", after := #[{ on := 11, ground := Ground.guard }], guard := some (11, false) }) (v := ?vz19) rfl (by kernel_rfl) (by kernel_rfl) (by kernel_rfl) (fun _ _ _ h => h) (Or.inl ⟨by rfl, ?hyz19⟩) (by assumption) ?restz19
      case hyz19 => (intro w hSw; (try dsimp only at hSw); go_simp; (try with_reducible rfl))
      try simp only [Act.put, List.setIfInBounds_toArray, List.set_cons_zero, List.set_cons_succ]
      refine wpAnyH_take (i := 19) (oi := { dst := some 36, op := Op.indexAddr 66 (Operand.tmp 34) (Operand.tmp 35), type := 0, pos := "same.go:430", after := #[{ on := 17, ground := Ground.data }, { on := 18, ground := Ground.data }, { on := 11, ground := Ground.guard }], guard := some (11, false) }) (v := ?vz20) rfl (by kernel_rfl) (by kernel_rfl) (by kernel_rfl) (fun _ _ _ h => h) (Or.inl ⟨by rfl, ?hyz20⟩) (by assumption) ?restz20
      case hyz20 => (intro w hSw; (try dsimp only at hSw); go_simp; (try with_reducible rfl))
      try simp only [Act.put, List.setIfInBounds_toArray, List.set_cons_zero, List.set_cons_succ]
      refine wpAnyH_take (i := 20) (oi := { dst := some 37, op := Op.fieldAddr 72 (Operand.tmp 36) 1, type := 0, pos := "same.go:430", after := #[{ on := 19, ground := Ground.data }, { on := 11, ground := Ground.guard }], guard := some (11, false) }) (v := ?vz21) rfl (by kernel_rfl) (by kernel_rfl) (by kernel_rfl) (fun _ _ _ h => h) (Or.inl ⟨by rfl, ?hyz21⟩) (by assumption) ?restz21
      case hyz21 => (intro w hSw; (try dsimp only at hSw); go_simp; (try with_reducible rfl))
      try simp only [Act.put, List.setIfInBounds_toArray, List.set_cons_zero, List.set_cons_succ]
      refine wpAnyH_take (i := 21) (oi := { dst := some 38, op := Op.load 20 (Operand.tmp 37), type := 20, pos := "same.go:430", after := #[{ on := 20, ground := Ground.data }, { on := 11, ground := Ground.guard }], guard := some (11, false) }) (v := ?vz22) rfl (by kernel_rfl) (by kernel_rfl) (by kernel_rfl) (fun _ _ _ h => h) (Or.inl ⟨by rfl, ?hyz22⟩) (by assumption) ?restz22
      case hyz22 => (intro w hSw; (try dsimp only at hSw); go_simp; (try with_reducible rfl))
      try simp only [Act.put, List.setIfInBounds_toArray, List.set_cons_zero, List.set_cons_succ]
      refine wpAnyH_ready (rs := [22]) (by kernel_rfl) (by simp) ?_
      refine AllReadyH.cons (o := { dst := some 39, op := Op.call { callee := Callee.value (Operand.func 79), args := #[Operand.tmp 33, Operand.tmp 38], argTypes := #[20, 20] }, type := 4, pos := "same.go:430", after := #[{ on := 16, ground := Ground.data }, { on := 21, ground := Ground.data }, { on := 11, ground := Ground.chain }, { on := 11, ground := Ground.guard }], guard := some (11, false) }) rfl (fun K hK => ?_) AllReadyH.nil
      rw [if_pos (by rfl)]
      go_simp
      go_at_call 79
      with_reducible refine (CS.out _ hHeld0.1.1).mono ?_
      rintro e X1 ⟨rfl, hb⟩
      go_wp2_with fail
      have B1 := Lib.hid (hHeld0.1.1.trans (hb.mono hHeld0.1.1.size))
      refine hK.out _ _ (SB.out _ B1.out) (fun hHeld1 => ?_)
      clear hb hK K hHeld0
      try simp only [Act.put, List.setIfInBounds_toArray, List.set_cons_zero, List.set_cons_succ]
      refine wpAnyH_take (i := 23) (oi := { dst := some 40, op := Op.unOp UnOp.not 4 (Operand.tmp 39), type := 4, pos := "same.go:430", after := #[{ on := 22, ground := Ground.data }, { on := 11, ground := Ground.guard }], guard := some (11, false) }) (v := ?vz23) rfl (by kernel_rfl) (by kernel_rfl) (by kernel_rfl) (fun _ _ _ h => h) (Or.inl ⟨by rfl, ?hyz23⟩) (by assumption) ?restz23
      case hyz23 => (intro w hSw; (try dsimp only at hSw); go_simp; (try with_reducible rfl))
      try simp only [Act.put, List.setIfInBounds_toArray, List.set_cons_zero, List.set_cons_succ]
      refine wpAnyH_take (i := 24) (oi := { dst := some 41, op := Op.pick (Operand.tmp 28) (Operand.const (Value.bool true)) (Operand.tmp 40), type := 4, pos := "same.go:430", after := #[{ on := 11, ground := Ground.data }, { on := 23, ground := Ground.data }], guard := none }) (v := ?vz24) rfl (by kernel_rfl) (by kernel_rfl) (by kernel_rfl) (fun _ _ _ h => h) (Or.inl ⟨by rfl, ?hyz24⟩) (by assumption) ?restz24
      case hyz24 => (intro w hSw; (try dsimp only at hSw); go_simp; (try with_reducible rfl))
      try simp only [Act.put, List.setIfInBounds_toArray, List.set_cons_zero, List.set_cons_succ]
      refine wpAnyH_done (by kernel_rfl) ?_ _
      go_wp2_with fail
      go_roundw
      case rel => exact ⟨1, rfl, Or.inr ⟨rfl, B1⟩⟩
      case measure => simp [intOf]
    · go_wp2_with fail
      go_ret
      exact ⟨rfl, hB.out⟩
end Go.Proofs.YtgnaiahnednllaaGreat
namespace Go.Proofs.YtgnaiahnednllaaGreat
open Go.RowKit
set_option linter.unusedVariables false
set_option maxRecDepth 20000
abbrev dA : Tx := { data := #[97] }
abbrev dABC : Tx := { data := #[97, 98, 99] }
abbrev dB : Tx := { data := #[98] }
abbrev dE : Tx := { data := #[] }
def cfgS (B : Nat) : Cfg := ⟨some ⟨B + 1, 0, none⟩, 3, 3, some ⟨B + 1 + 1, 0, none⟩, 1, 1, 2, 1, 1, 1, 1, 1, 1, 1, 0, 8, [dA, dABC, dB], [(2, dE)]⟩
theorem good_dw : goodV [dA, dABC, dB] = 0 := by kernel_rfl
theorem good_dk : goodK [(2, dE)] = 0 := goodK_of (by decide) (by
  intro k hk
  simp only [List.mem_singleton] at hk
  subst hk
  simp [mayK, show lenS dE = 0 by decide]) (by simp [SortedK])
theorem may_cfgS (B : Nat) : (cfgS B).may = true := by
  simp [Cfg.may, cfgS, good_dw, good_dk]
  all_goals decide
theorem sliceS_small : sliceS [(2, dE)] [dA, dABC, dB] 0 = [dA, dB] := by kernel_rfl
theorem keepS : Pl.keep 2 1 2 1 = [0] := by decide
theorem holdsK_lit1 (w : World) (x : Int) (t : Tx) (e : TypeId) (fr : Nat × Nat) : HoldsK (w.alloc (.cells #[.int .i64 x, .string t] e fr)) (some ⟨w.heap.size, 0, none⟩) 1 [(x, t)] := by
  refine ⟨rfl, fun _ => ⟨w.heap.size, 0, rfl, fun i hi => ?_⟩⟩
  obtain rfl : i = 0 := by omega
  constructor <;> (rw [World.cell?_alloc_mark]; rfl)
def CfgP (w : World) (e : Ending) (w' : World) : Prop := ∃ B, e = .returned (.agg #[.slice (cfgS B).wa (cfgS B).wn (cfgS B).wc, .slice (cfgS B).ka (cfgS B).kn (cfgS B).kc, .int .i64 (cfgS B).W, .int .i64 (cfgS B).C, .int .i64 (cfgS B).S, .int .i64 (cfgS B).B, .int .i64 (cfgS B).L, .int .i64 (cfgS B).H, .int .i64 (cfgS B).F, .int .i64 (cfgS B).P, .int .i64 (cfgS B).J, .int .i64 (cfgS B).N]) ∧ CfgOk w' (cfgS B) ∧ Below w.heap.size w w'
end Go.Proofs.YtgnaiahnednllaaGreat
namespace Go.Proofs.YtgnaiahnednllaaGreat
open Go.RowKit
set_option linter.unusedVariables false
set_option maxRecDepth 20000
/-- Wake of a worker that has nothing to answer -/
theorem wWake_hello {b d : Nat} {s : Wk} {S : Nat → Prop} (w : World) (h : WkO b d s w S) (hu : s.up = true) (hn : decide (0 < s.ep) = false ∨ s.q = []) : Calls Tryz.prog 34 #[.pointer (some ⟨b, 0, none⟩)] w fun e w' => LetterP w (.hello s.id s.wl) e w' ∧ Below w.heap.size w w' := by
  obtain ⟨q, mm, SQ, hx, hq, -, -⟩ := h.parts hu
  have CU : ∀ w', Below w.heap.size w w' → Calls Tryz.prog 24 #[.pointer (some ⟨b, 0, none⟩)] w' fun e w'' => e = .returned (.bool true) ∧ w' = w'' := fun w' hb => wUp_o true w' ((wk_ok b d s).below h hb) hu
  cases he : decide (0 < s.ep) with
  | false => exact wake_hello w hx CU he
  | true =>
    rcases hn with hn | hn
    · rw [he] at hn; cases hn
    · rw [hn] at hq
      exact wake_empty w hx CU hq he
/-- a worker's parts, up, whatever becomes of its queue -/
theorem WkO.parts2 {b d : Nat} {s : Wk} {w : World} {S : Nat → Prop} (h : WkO b d s w S) (hu : s.up = true) : ∃ q mm SQ, QAt w q s.q SQ ∧ ¬ SQ b ∧
    (∀ w', Turn SQ w w' → WBox w' b d s.id true s.wl s.ep (some q) (some mm) ∧ (∃ nm, MapV w' mm nm (lV s.sh)) ∧ ∀ x l g, s.sh x = some l → l.g = some g → GrOk g l.ts w') ∧
    ∀ (L : List AskP) (w' : World), QAt w' q L SQ → Turn SQ w w' → WkO b d { s with q := L } w' S ∧ Turn S w w' := by
  obtain ⟨qp, mp, SD, SQ, SL, h, s1, s2, s3, s4, s5⟩ := h
  obtain ⟨q, e1, hq⟩ := h.Q hu
  obtain ⟨mm, e2, nm, hn, hl⟩ := h.L hu
  subst e1 e2
  refine ⟨q, mm, SQ, hq, h.bQ, fun w' t => ?_, fun L w' h1 h3 => ?_⟩
  · have hl2 := (lon_ok _ _ _).turn hl t (fun k hk hk2 => h.ql k hk2 hk)
    refine ⟨(hu ▸ h.box : WBox w b d s.id true s.wl s.ep (some q) (some mm)).turn t h.bQ, ⟨nm, hl2.1⟩, fun x l g hs hg => ?_⟩
    obtain ⟨hv, Sg, G, -⟩ := hl2.2.2.1 x l g hs hg
    have hsz : ∀ t ∈ l.ts, t.size ≤ 100 := fun t ht => by have := good_sizes hv t ht; omega
    have hok := ok_good hv hsz
    exact ⟨grS l.ts, Sg, grS_ok hv hsz, G, fun t ht => ⟨hok.lo t ht, hok.hi t ht, hsz t ht⟩, hok.n⟩
  exact ⟨⟨some q, some mm, SD, SQ, SL, ⟨h.box.turn h3 h.bQ, (do_ok _ _ _).turn h.D h3 h.dq, fun _ => ⟨q, rfl, h1⟩, fun _ => ⟨mm, rfl, nm, hn, (lon_ok _ _ _).turn hl h3 (fun k hk hk2 => h.ql k hk2 hk)⟩, h.dn, h.bD, h.bQ, h.bL, h.dq, h.dl, h.ql⟩, s1, s2, s3, s4, fun k hk => Nat.lt_of_lt_of_le (s5 k hk) h3.size⟩, h3.mono s3⟩
/-- Wake of a worker that answers -/
theorem wWake_reply {b d : Nat} {s : Wk} {S : Nat → Prop} {l : List AskP} (x : AskP) (ld : LD) (Fl ys : List KV) (n : Nat) (bz : Bool) (w : World) (h : WkO b d s w S) (ok : s.Ok) (hu : s.up = true) (he : decide (0 < s.ep) = true) (hq : s.q = x :: l) (hs : s.sh x.shard = some ld)
    (hF : restK x.first (x.ad, x.aw) (matchK ld.ts x.text x.k) = Fl) (hn : cntK x.batch Fl.length = n) (hy : Fl.take n = ys) (hbz : decide (n = Fl.length) = bz) :
    Calls Tryz.prog 34 #[.pointer (some ⟨b, 0, none⟩)] w fun e w' => ∃ ia, LetterP w (.reply ⟨x.slot, x.query, x.shard, x.seq, s.id, s.ep, ia, n, n, ys, bz⟩) e w' ∧ CutI w' w.heap.size ia n ys ∧ (ia = none → n = 0) ∧ WkO b d { s with q := l } w' S ∧ Turn S w w' := by
  obtain ⟨q, mm, SQ, hqa, hbq, hk, hmk⟩ := h.parts2 hu
  obtain ⟨sv1, sv2, sv3⟩ := ok.sv x (by rw [hq]; exact List.mem_cons_self)
  have hgo := ok.q
  rw [hq] at hqa hgo
  obtain ⟨g, hg⟩ : ∃ g, ld.g = some g := by
    unfold Wk.served at sv1
    rw [hs] at sv1
    exact Option.isSome_iff_exists.1 sv1
  have hl : (lV s.sh x.shard).getD ldZ = .agg #[.pointer (some ⟨g, 0, none⟩), .int .i64 ld.e] := by
    unfold lV; rw [hs]; show ldV ld = _; unfold ldV; rw [hg]; rfl
  refine (wake_reply x n ys bz w (hk w (Turn.refl _ _)).1 (fun w' hb => wUp_o true w' ((wk_ok b d s).below h hb) hu) hqa hgo hbq (fun w' t => ?_) he).mono ?_
  · obtain ⟨k1, ⟨nm, k2⟩, k3⟩ := hk w' t
    exact answer_any x ld.e Fl ys n bz w' k1 k2 sv2 hl (k3 x.shard ld g hs hg) sv3 hF hn hy hbz
  · rintro e w' ⟨ia, h1, h2, h3, h4, h5⟩
    exact ⟨ia, h1, h2, h3, hmk l w' h4 h5⟩
/-- what is loaded holds what is asked of it -/
theorem loadR_key {f : Int → Option DI} {sh : Int → Option LD} {n : Int} (h : LoadR f sh n) : ∀ x l, sh x = some l → ∃ i, f x = some i ∧ LdOf i.sb l := fun x l hs => by
  have hx := h x
  by_cases c : 0 ≤ x ∧ x < n
  · rw [if_pos c] at hx
    cases hf : f x with
    | none => rw [hf] at hx; rw [hs] at hx; cases hx
    | some i =>
      rw [hf] at hx
      obtain ⟨l2, e, hl⟩ := hx
      rw [hs] at e; injection e with e; subst e
      exact ⟨i, rfl, hl⟩
  · rw [if_neg c, hs] at hx; cases hx
theorem loadR_at {f : Int → Option DI} {sh : Int → Option LD} {n x : Int} {i : DI} (h : LoadR f sh n) (h0 : 0 ≤ x) (hn : x < n) (hf : f x = some i) : ∃ l, sh x = some l ∧ LdOf i.sb l := by
  have hx := h x
  rw [if_pos ⟨h0, hn⟩, hf] at hx
  exact hx
theorem loadR_ok {f : Int → Option DI} {sh : Int → Option LD} {n : Int} (h : LoadR f sh n) : (∀ x l, sh x = some l → l.e = 0 → ∃ g, l.g = some g) ∧ (∀ x l, sh x = some l → l.e ≠ 0 → l.g = none) := by
  refine ⟨fun x l hs he => ?_, fun x l hs he => ?_⟩
  · obtain ⟨i, -, hl⟩ := loadR_key h x l hs
    unfold LdOf at hl
    split at hl
    · exact hl.1
    · have := hl.2.2
      rw [he] at this
      split at this <;> omega
  · obtain ⟨i, -, hl⟩ := loadR_key h x l hs
    unfold LdOf at hl
    split at hl
    · exact absurd hl.2.2 he
    · exact hl.1
/-- a worker that has begun is one -/
theorem born_ok {id wl : Int} {f : Int → Option DI} {l1 : Nat} {sh : Int → Option LD} (h : LoadR f sh 6) : Wk.Ok ⟨id, f, l1, true, wl, 0, [], sh⟩ :=
  ⟨(loadR_ok h).1, (loadR_ok h).2, Qu.good_nil, fun x hx => by cases hx⟩
theorem obj_apart {w w' : World} {S : Nat → Prop} {p : Nat} {o : Obj} (h : w.heap[p]? = some o) (hp : ¬ S p) (t : Turn S w w') : w'.heap[p]? = some o := (t.block p (Array.getElem?_eq_some_iff.1 h).1 hp).trans h
theorem d21_aa : distS dA dA = 0 := by
  have l1 : lenS dA = 1 := by decide +kernel
  have r1 : intsN (runesS dA) = [97] := by decide +kernel
  have n1 : (runesS dA).length = 1 := by decide +kernel
  unfold distS
  rw [l1, r1, n1, if_pos (by decide)]
  have h0 : Ed.row [97] [97] 0 = [0, 1] := by rw [← upTo_row]; decide
  have h1 : Ed.row [97] [97] 1 = [1, 0] := by rw [← Ed.mix_all _ _ 0, h0]; decide
  rw [← Ed.row_getD _ _ 1 1 (by decide), h1]
  rfl
theorem d21_ba : distS dB dA = 1 := by
  have l1 : lenS dA = 1 := by decide +kernel
  have r1 : intsN (runesS dA) = [97] := by decide +kernel
  have n1 : (runesS dA).length = 1 := by decide +kernel
  have l2 : lenS dB = 1 := by decide +kernel
  have r2 : intsN (runesS dB) = [98] := by decide +kernel
  have n2 : (runesS dB).length = 1 := by decide +kernel
  unfold distS
  rw [l1, r1, n1, l2, r2, n2, if_pos (by decide)]
  have h0 : Ed.row [98] [97] 0 = [0, 1] := by rw [← upTo_row]; decide
  have h1 : Ed.row [98] [97] 1 = [1, 1] := by rw [← Ed.mix_all _ _ 0, h0]; decide
  rw [← Ed.row_getD _ _ 1 1 (by decide), h1]
  rfl
theorem aw21_rest : restK true (0, ⟨#[]⟩) (matchK [dA, dB] dA 1) = [(0, dA), (1, dB)] := by
  have l1 : lenS dA = 1 := by decide +kernel
  have e1 : matchK [dA, dB] dA 1 = [(0, dA), (1, dB)] := by
    unfold matchK
    rw [l1, if_pos (by decide)]
    simp [nearL, d21_aa, d21_ba]
  unfold restK
  rw [if_pos rfl, e1]
  refine sortK_same ?_
  unfold SortedR leK
  simp [ordK]
theorem dec21 (B : Nat) : decS (imgC (cfgS B) 0) = some [dA, dB] := by
  unfold imgC
  have e : sliceS (cfgS B).ks (cfgS B).ws 0 = [dA, dB] := sliceS_small
  rw [e]
  exact decS_img (by kernel_rfl)
theorem small21_any (w : World) : Calls Tryz.prog 42 #[] w (CfgP w) := by
  go_enter Tryz.func42, Tryz.ntmps42
  go_wp2_with fail
  refine bodyPost_ret (v := .agg #[.slice (some ⟨w.heap.size + 1, 0, none⟩) 3 3, .slice (some ⟨w.heap.size + 1 + 1, 0, none⟩) 1 1, .int .i64 2, .int .i64 1, .int .i64 1, .int .i64 1, .int .i64 1, .int .i64 1, .int .i64 1, .int .i64 1, .int .i64 0, .int .i64 8]) (by simp [results, go_sem]) rfl ⟨w.heap.size, rfl, ?_, ?_⟩
  · generalize hw1 : w.alloc (.cells #[.slice (some ⟨w.heap.size + 1, 0, none⟩) 3 3, .slice (some ⟨w.heap.size + 1 + 1, 0, none⟩) 1 1, .int .i64 2, .int .i64 1, .int .i64 1, .int .i64 1, .int .i64 1, .int .i64 1, .int .i64 1, .int .i64 1, .int .i64 0, .int .i64 8] 25) = w1
    have s1 : w1.heap.size = w.heap.size + 1 := by rw [← hw1]; simp
    have hT := holdsT_lit3 w1 dA dABC dB 9 (0, 0)
    have s2 : (w1.alloc (.cells #[.string dA, .string dABC, .string dB] 9)).heap.size = w.heap.size + 1 + 1 := by simp [s1]
    have hK := holdsK_lit1 (w1.alloc (.cells #[.string dA, .string dABC, .string dB] 9)) 2 dE 153 (0, 0)
    rw [s1] at hT
    rw [s2] at hK
    exact ⟨hT.below (below_one _ _), fun e => (by cases e), Nat.le_refl _, (show (3 : Nat) ≤ 9223372036854775807 by decide), (show ∀ t ∈ [dA, dABC, dB], ByteArray.size t ≤ 9223372036854775807 by decide), hK, (show (1 : Nat) ≤ 9223372036854775807 by decide), by
      intro k hk
      simp only [cfgS, List.mem_singleton] at hk
      subst hk
      unfold KeyOk i64okK; decide⟩
  · repeat' (first | exact Below.refl _ _ | refine Below.alloc ?_ (by simp <;> omega) _)
theorem wTakeGrant {b d : Nat} {s s' : Wk} {S : Nat → Prop} (x y z : Int) (w : World) (h : WkO b d s w S) (ok : s.Ok) (hk : s.take (.grant x y z) = s') : Calls Tryz.prog 33 #[.pointer (some ⟨b, 0, none⟩), .iface 65 (.agg #[.int .i64 x, .int .i64 y, .int .i64 z])] w fun e w' => e = .returned (.tuple #[]) ∧ PO (WkO b d s') w S w' := wTake_o (.grant x y z) w h ok trivial trivial hk
theorem wTakeAsk {b d : Nat} {s s' : Wk} {S : Nat → Prop} (a : AskP) (w : World) (h : WkO b d s w S) (ok : s.Ok) (hw : wfI a.shard) (hs : a.text.size ≤ 1100 ∧ a.aw.size ≤ 1100) (hk : s.take (.ask a) = s') : Calls Tryz.prog 33 #[.pointer (some ⟨b, 0, none⟩), .iface 41 (.agg #[.int .i64 a.slot, .int .i64 a.query, .int .i64 a.shard, .int .i64 a.seq, .int .i64 a.epoch, .string a.text, .int .i64 a.k, .int .i64 a.batch, .bool a.first, .int .i64 a.ad, .string a.aw])] w fun e w' => e = .returned (.tuple #[]) ∧ PO (WkO b d s') w S w' := wTake_o (.ask a) w h ok hw hs hk
def ask21 : AskP := ⟨0, 0, 0, 0, 1, dA, 1, 2, true, 0, ⟨#[]⟩⟩
theorem may21 : mayAsk ask21 = true := by decide +kernel
theorem push21 : Qu.push [] ask21 = [ask21] := by
  have h : Qu.pushed [] ask21 = true := by decide +kernel
  unfold Qu.push
  rw [if_pos h]
  rfl
theorem sl21 (p2 : Nat) (ia : Option Addr) (w8 : World) (M8 : w8.heap[p2]? = some (.cells #[.int .i64 0, valM (.reply ⟨ask21.slot, ask21.query, ask21.shard, ask21.seq, 1, 1, ia, 2, 2, [(0, dA), (1, dB)], true⟩)] 72 (0, 0))) (K8 : HoldsK w8 ia 2 [(0, dA), (1, dB)]) :
    Calls Tryz.prog 35 #[.slice (some ⟨p2, 0, none⟩) 1 1, .slice (some ⟨w8.heap.size + 1, 0, none⟩) 1 1] ((w8.alloc (.cells #[.int .i64 0, .string ⟨#[97]⟩, .int .i64 1, .string ⟨#[98]⟩] 39)).alloc (.cells #[.int .i64 0, .iface 77 (.agg #[.int .i64 0, .int .i64 0, .int .i64 0, .int .i64 0, .int .i64 1, .int .i64 1, .slice (some ⟨w8.heap.size, 0, none⟩) 2 2, .bool true])] 72)) fun e w' => e = .returned (.bool true) ∧ Below w8.heap.size w8 w' := by
  have b1 := below_one w8 (.cells #[.int .i64 0, .string ⟨#[97]⟩, .int .i64 1, .string ⟨#[98]⟩] 39)
  have k1 := holdsK_lit2 w8 (0, dA) (1, dB) 39 (0, 0)
  obtain ⟨w9, hw9⟩ : ∃ w9, w8.alloc (.cells #[.int .i64 0, .string ⟨#[97]⟩, .int .i64 1, .string ⟨#[98]⟩] 39) = w9 := ⟨_, rfl⟩
  have e9 : w9.heap.size = w8.heap.size + 1 := by rw [← hw9]; simp
  have k9 : HoldsK w9 (some ⟨w8.heap.size, 0, none⟩) 2 [(0, dA), (1, dB)] := hw9 ▸ k1
  rw [hw9] at b1 ⊢
  have b2 := below_one w9 (.cells #[.int .i64 0, .iface 77 (.agg #[.int .i64 0, .int .i64 0, .int .i64 0, .int .i64 0, .int .i64 1, .int .i64 1, .slice (some ⟨w8.heap.size, 0, none⟩) 2 2, .bool true])] 72)
  have b12 := b1.trans (b2.mono b1.size)
  have hm := (b12.block p2 (Array.getElem?_eq_some_iff.1 M8).1).trans M8
  have hn := heap_alloc_new w9 (.cells #[.int .i64 0, .iface 77 (.agg #[.int .i64 0, .int .i64 0, .int .i64 0, .int .i64 0, .int .i64 1, .int .i64 1, .slice (some ⟨w8.heap.size, 0, none⟩) 2 2, .bool true])] 72)
  rw [e9] at hn
  refine (sameLetters1 p2 (w8.heap.size + 1) 1 1 0 _ (.iface 77 (.agg #[.int .i64 0, .int .i64 0, .int .i64 0, .int .i64 0, .int .i64 1, .int .i64 1, .slice (some ⟨w8.heap.size, 0, none⟩) 2 2, .bool true])) _ (cellV (i := 0) hm rfl) (cellV (i := 1) hm rfl) (cellV (i := 0) hn rfl) (cellV (i := 1) hn rfl) (fun w' hb => ?_)).mono fun e w' h => ⟨h.1, b12.trans (h.2.mono b12.size)⟩
  exact sameReplyM ⟨0, 0, 0, 0, 1, 1, ia, 2, 2, [(0, dA), (1, dB)], true⟩ (some ⟨w8.heap.size, 0, none⟩) 2 w' ((K8.below b12).below hb) ((k9.below b2).below hb) (show 2 ≤ 1048576 by decide)
set_option maxHeartbeats 3200000 in
theorem awake21_any (w : World) : Calls Tryz.prog 12 #[] w fun e w' => e = .returned (.bool true) ∧ Below w.heap.size w w' := by
  have CN := Lib.hid (fun (w1 : World) (B : Nat) (h : CfgOk w1 (cfgS B)) => wnew_good (cfgS B) 1 2 1 [0] w1 h (may_cfgS B) rfl rfl (by decide) (show (1 : Int) ≤ 2 by decide) keepS)
  go_enter Tryz.func12, Tryz.ntmps12
  go_wp2_with fail
  refine (small21_any w).mono ?_
  rintro e w1 ⟨B, rfl, ok, hb⟩
  have B1 := Lib.hid hb
  have C1 := Lib.hid (CN.out w1 B ok)
  have DE := Lib.hid (dec21 B)
  clear ok hb CN
  generalize cfgS B = c at *
  go_wp2_with fail
  with_reducible refine C1.out.mono ?_
  rintro e w2 ⟨b, d, f, sh, S, rfl, hF, hR, hO, hS, hb⟩
  have B2 := Lib.hid (B1.out.trans (hb.mono B1.out.size))
  have S2 := Lib.hid (show ∀ k, S k → w.heap.size ≤ k from fun k hk => Nat.le_trans B1.out.size (hS k hk))
  obtain ⟨i, hi⟩ : ∃ i, f 0 = some i := Option.isSome_iff_exists.1 (hF.all 0 (by simp))
  obtain ⟨s, hs, hsK, ho, hss⟩ := hF.sub 0 i hi
  obtain rfl : s = 0 := by omega
  obtain ⟨ld, hld, hl⟩ := loadR_at hR (by omega) (by omega) hi
  unfold LdOf at hl
  rw [hss, DE.out] at hl
  have O2 := Lib.hid hO
  have OK2 := Lib.hid (born_ok (id := 1) (wl := 1) (l1 := 1) hR)
  have LD0 := Lib.hid hld
  have LDT := Lib.hid hl
  clear hF hR hO hS hb hi hs hsK ho hss hld hl C1 i DE
  have CW1 := Lib.hid (wWake_hello w2 O2.out rfl (Or.inl rfl))
  go_wp2_with fail
  with_reducible refine CW1.out.mono ?_
  rintro e w3 ⟨⟨p1, rfl, hp1, hl1⟩, hb⟩
  have B3 := Lib.hid (B2.out.trans (hb.mono B2.out.size))
  have O3 := Lib.hid ((wk_ok b d _).below O2.out hb)
  have L1 := Lib.hid hl1
  have N1 := Lib.hid (show ¬ S p1 from fun h => by have := (wk_ok b d _).lt O2.out p1 h; omega)
  have P1 := Lib.hid (show w.heap.size ≤ p1 from Nat.le_trans B2.out.size hp1)
  have CT1 := Lib.hid (wTakeGrant (s' := ⟨1, f, 1, true, 1, 1, [], sh⟩) 1 1 1 w3 O3.out OK2.out rfl)
  clear hp1 hl1 hb CW1 O2
  go_wp2_with fail
  with_reducible refine CT1.out.mono ?_
  rintro e w4 ⟨rfl, T, hO4, hT, ht⟩
  have O4 := Lib.hid hO4
  have B4 := Lib.hid (B3.out.trans ((ht.below (B := w.heap.size) S2.out B3.out.size)))
  have S4 := Lib.hid (show ∀ k, T k → w.heap.size ≤ k from fun k hk => (hT k hk).elim (S2.out k) (fun h => Nat.le_trans B3.out.size h))
  have L4 := Lib.hid (obj_apart L1.out N1.out ht)
  have N4 := Lib.hid (show ¬ T p1 from fun h => (hT p1 h).elim N1.out (fun h => by have := (Array.getElem?_eq_some_iff.1 L1.out).1; omega))
  have OK4 := Lib.hid (show Wk.Ok ⟨1, f, 1, true, 1, 1, [], sh⟩ from ⟨OK2.out.g, OK2.out.z, Qu.good_nil, fun x hx => by cases hx⟩)
  have TK := Lib.hid (show Wk.take ⟨1, f, 1, true, 1, 1, [], sh⟩ (.ask ask21) = ⟨1, f, 1, true, 1, 1, [ask21], sh⟩ from by
    unfold Wk.take
    rw [if_pos rfl]
    show (if _ then _ else _) = _
    rw [if_pos ?_]
    · show Wk.mk 1 f 1 true 1 1 (Qu.push [] ask21) sh = _
      rw [push21]
    · unfold Wk.takes Wk.served
      rw [may21]
      have e : sh ask21.shard = some ld := LD0.out
      simp only [e]
      obtain ⟨⟨g, hg⟩, -⟩ := LDT.out
      rw [hg]
      rfl)
  have CT2 := Lib.hid (show Calls Tryz.prog 33 #[.pointer (some ⟨b, 0, none⟩), .iface 41 (.agg #[.int .i64 0, .int .i64 0, .int .i64 0, .int .i64 0, .int .i64 1, .string ⟨#[97]⟩, .int .i64 1, .int .i64 2, .bool true, .int .i64 0, .string ⟨#[]⟩])] w4 fun e w' => e = .returned (.tuple #[]) ∧ PO (WkO b d ⟨1, f, 1, true, 1, 1, [ask21], sh⟩) w4 T w' from wTakeAsk ask21 w4 O4.out OK4.out (by show wfI 0; exact wfI_of (by decide) (by decide)) ⟨by decide, by decide⟩ TK.out)
  have OK5 := Lib.hid (show Wk.Ok ⟨1, f, 1, true, 1, 1, [ask21], sh⟩ from by
    have := OK4.out.take (.ask ask21) (by show wfI 0; exact wfI_of (by decide) (by decide)) ⟨by decide, by decide⟩
    rw [TK.out] at this
    exact this)
  clear hO4 hT ht CT1 O3 B3 S2 L1 N1 OK2 OK4 TK
  go_wp2_with fail
  with_reducible refine CT2.out.mono ?_
  rintro e w5 ⟨rfl, T5, hO5, hT5, ht5⟩
  have O5 := Lib.hid hO5
  have B5 := Lib.hid (B4.out.trans ((ht5.below (B := w.heap.size) S4.out B4.out.size)))
  have S5 := Lib.hid (show ∀ k, T5 k → w.heap.size ≤ k from fun k hk => (hT5 k hk).elim (S4.out k) (fun h => Nat.le_trans B4.out.size h))
  have L5 := Lib.hid (obj_apart L4.out N4.out ht5)
  have N5 := Lib.hid (show ¬ T5 p1 from fun h => (hT5 p1 h).elim N4.out (fun h => by have := (Array.getElem?_eq_some_iff.1 L4.out).1; omega))
  have CW2 := Lib.hid (wWake_reply ask21 ld [(0, dA), (1, dB)] [(0, dA), (1, dB)] 2 true w5 O5.out OK5.out rfl rfl rfl LD0.out (by rw [LDT.out.2.1]; exact aw21_rest) (by decide) rfl rfl)
  clear hO5 hT5 ht5 CT2 O4 B4 S4 L4 N4 OK5
  go_wp2_with fail
  with_reducible refine CW2.out.mono ?_
  rintro e w6 ⟨ia, ⟨p2, rfl, hp2, hl2⟩, hcut, hnil, hO6, ht6⟩
  have B6 := Lib.hid (B5.out.trans ((ht6.below (B := w.heap.size) S5.out B5.out.size)))
  have L6 := Lib.hid (obj_apart L5.out N5.out ht6)
  have M6 := Lib.hid hl2
  have K6 := Lib.hid hcut.holds
  clear hp2 hl2 hcut hnil hO6 ht6 CW2 O5 B5 S5 L5 N5 LD0 LDT
  have b7 := below_one w6 (.cells #[.int .i64 0, .iface 70 (.agg #[.int .i64 1, .int .i64 1])] 72)
  have C7 := Lib.hid (sameLetters1 p1 w6.heap.size 1 1 0 (valM (.hello 1 1)) (valM (.hello 1 1)) (w6.alloc (.cells #[.int .i64 0, .iface 70 (.agg #[.int .i64 1, .int .i64 1])] 72)) (cellV (i := 0) ((b7.block p1 (Array.getElem?_eq_some_iff.1 L6.out).1).trans L6.out) rfl) (cellV (i := 1) ((b7.block p1 (Array.getElem?_eq_some_iff.1 L6.out).1).trans L6.out) rfl) (cell_alloc rfl) (cell_alloc rfl) (fun w' hb => sameHelloM 1 1 w'))
  have M7 := Lib.hid ((b7.block p2 (Array.getElem?_eq_some_iff.1 M6.out).1).trans M6.out)
  have K7 := Lib.hid (K6.out.below b7)
  have B7 := Lib.hid (B6.out.trans (b7.mono B6.out.size))
  clear b7 M6 K6 B6
  go_wp2_with (first | (go_at_call 35; (with_reducible refine C7.out.mono ?_); rintro e w8 ⟨rfl, hb⟩; have B8 := Lib.hid (B7.out.trans (hb.mono B7.out.size)); have C9 := Lib.hid (sl21 p2 ia w8 ((hb.block p2 (Array.getElem?_eq_some_iff.1 M7.out).1).trans M7.out) (K7.out.below hb)); clear hb) | (go_at_call 35; (with_reducible refine C9.out.mono ?_); rintro e w11 ⟨rfl, hb⟩; have B11 := Lib.hid (B8.out.trans (hb.mono B8.out.size)); clear hb) | fail)
  go_ret
  exact ⟨rfl, B11.out⟩
end Go.Proofs.YtgnaiahnednllaaGreat
namespace Go.Proofs.YtgnaiahnednllaaGreat
open Go.ChangeShapes Go.WideShapes Go.ChangeAt Go.RowKit
set_option linter.unusedVariables false
set_option maxRecDepth 20000
def AskOk (a : AskP) : Prop := a.text.size ≤ 9223372036854775807 ∧ a.aw.size ≤ 9223372036854775807
theorem cellsAint : Tryz.prog.cellsOf 3 = 1 := by kernel_rfl
theorem cells_qask : Tryz.prog.cellsOf 41 = 11 := by kernel_rfl
theorem cells_qitem : Tryz.prog.cellsOf 39 = 2 := by kernel_rfl
theorem cells_qstr : Tryz.prog.cellsOf 9 = 1 := by kernel_rfl
theorem cells_qbool : Tryz.prog.cellsOf 4 = 1 := by kernel_rfl
theorem item_of {H : Type} {enc : TypeId × Value → H} {w : World} {base : Nat} {spare : Nat → Bool} {held : Bool} {fuel : Nat} {cs : List Value} {x : DataW H × List MemPlace}
    (h : DataW.trod enc Tryz.prog w base spare held fuel 39 cs = some x) : ∃ d t, t.size ≤ 9223372036854775807 ∧ cs = [.int .i64 d, .string t] := by
  obtain ⟨hl, n, hf⟩ := struct_cells Tryz.underlying39 h
  rw [cells_qitem] at hl
  obtain ⟨c0, c1, rfl⟩ : ∃ c0 c1, cs = [c0, c1] := by
    match cs, hl with
    | [a, b], _ => exact ⟨a, b, rfl⟩
  obtain ⟨y0, z0⟩ := hf 0 _ rfl
  obtain ⟨y1, z1⟩ := hf 1 _ rfl
  obtain ⟨k1, h1, _, b1⟩ := DataW.trod_int Tryz.underlying3 z0
  obtain ⟨s, hs, _, b0⟩ := DataW.trod_string Tryz.underlying9 z1
  simp [cellsAint, cells_qstr] at hs h1
  subst hs h1
  exact ⟨k1, s, by unfold maxLen at b0; exact b0, rfl⟩
end Go.Proofs.YtgnaiahnednllaaGreat
namespace Go.Proofs.YtgnaiahnednllaaGreat
open Go.ChangeShapes Go.WideShapes Go.ChangeAt Go.RowKit
set_option linter.unusedVariables false
set_option maxRecDepth 20000
theorem ask_ofW {H : Type} {enc : TypeId × Value → H} {w : World} {base : Nat} {spare : Nat → Bool} {held : Bool} {fuel : Nat} {cs : List Value} {x : DataW H × List MemPlace}
    (h : DataW.trod enc Tryz.prog w base spare held fuel 41 cs = some x) : ∃ a : AskP, AskOk a ∧ wfI a.shard ∧ cs = cellsAsk a := by
  obtain ⟨hl, n, hf⟩ := struct_cells Tryz.underlying41 h
  rw [cells_qask] at hl
  obtain ⟨c0, c1, c2, c3, c4, c5, c6, c7, c8, c9, c10, rfl⟩ : ∃ c0 c1 c2 c3 c4 c5 c6 c7 c8 c9 c10, cs = [c0, c1, c2, c3, c4, c5, c6, c7, c8, c9, c10] := by
    match cs, hl with
    | [c0, c1, c2, c3, c4, c5, c6, c7, c8, c9, c10], _ => exact ⟨c0, c1, c2, c3, c4, c5, c6, c7, c8, c9, c10, rfl⟩
  obtain ⟨y0, z0⟩ := hf 0 _ rfl
  obtain ⟨y1, z1⟩ := hf 1 _ rfl
  obtain ⟨y2, z2⟩ := hf 2 _ rfl
  obtain ⟨y3, z3⟩ := hf 3 _ rfl
  obtain ⟨y4, z4⟩ := hf 4 _ rfl
  obtain ⟨y5, z5⟩ := hf 5 _ rfl
  obtain ⟨y6, z6⟩ := hf 6 _ rfl
  obtain ⟨y7, z7⟩ := hf 7 _ rfl
  obtain ⟨y8, z8⟩ := hf 8 _ rfl
  obtain ⟨y9, z9⟩ := hf 9 _ rfl
  obtain ⟨k0, h0, _, _⟩ := DataW.trod_int Tryz.underlying3 z0
  obtain ⟨k1, h1, _, _⟩ := DataW.trod_int Tryz.underlying3 z1
  obtain ⟨k2, h2, _, b2⟩ := DataW.trod_int Tryz.underlying3 z2
  obtain ⟨k3, h3, _, _⟩ := DataW.trod_int Tryz.underlying3 z3
  obtain ⟨k4, h4, _, _⟩ := DataW.trod_int Tryz.underlying3 z4
  obtain ⟨k5, h5, _, b5⟩ := DataW.trod_string Tryz.underlying9 z5
  obtain ⟨k6, h6, _, _⟩ := DataW.trod_int Tryz.underlying3 z6
  obtain ⟨k7, h7, _, _⟩ := DataW.trod_int Tryz.underlying3 z7
  obtain ⟨k8, h8, _⟩ := DataW.trod_bool Tryz.underlying4 z8
  obtain ⟨k9, k10, b10, h9⟩ := item_of z9
  simp [cellsAint, cells_qstr, cells_qbool, cells_qitem] at h0 h1 h2 h3 h4 h5 h6 h7 h8 h9
  obtain ⟨e9, e10⟩ := h9
  subst h0 h1 h2 h3 h4 h5 h6 h7 h8 e9 e10
  exact ⟨⟨k0, k1, k2, k3, k4, k5, k6, k7, k8, k9, k10⟩, ⟨by unfold maxLen at b5; exact b5, b10⟩, b2, rfl⟩
structure WAct where
  do_ : Int
  i : Int
  j : Int
  x : Int
  a : AskP
def WActOk (x : WAct) : Prop := AskOk x.a ∧ wfI x.i ∧ wfI x.j ∧ wfI x.x ∧ wfI x.a.shard
def wactCells (x : WAct) : List Value := [.int .i64 x.do_, .int .i64 x.i, .int .i64 x.j, .int .i64 x.x, .int .i64 x.a.slot, .int .i64 x.a.query, .int .i64 x.a.shard, .int .i64 x.a.seq, .int .i64 x.a.epoch, .string x.a.text, .int .i64 x.a.k, .int .i64 x.a.batch, .bool x.a.first, .int .i64 x.a.ad, .string x.a.aw]
theorem cells_wact : Tryz.prog.cellsOf 43 = 15 := by kernel_rfl
theorem wact_of {H : Type} {enc : TypeId × Value → H} {w : World} {base : Nat} {spare : Nat → Bool} {held : Bool} {fuel : Nat} {cs : List Value} {x : DataW H × List MemPlace}
    (h : DataW.trod enc Tryz.prog w base spare held fuel 43 cs = some x) : ∃ x : WAct, WActOk x ∧ cs = wactCells x := by
  obtain ⟨hl, n, hf⟩ := struct_cells Tryz.underlying43 h
  rw [cells_wact] at hl
  obtain ⟨d0, d1, d2, d3, cs', rfl, hl'⟩ : ∃ d0 d1 d2 d3 cs', cs = d0 :: d1 :: d2 :: d3 :: cs' ∧ cs'.length = 11 := by
    match cs, hl with
    | d0 :: d1 :: d2 :: d3 :: cs', hl => exact ⟨d0, d1, d2, d3, cs', rfl, by simpa using hl⟩
  obtain ⟨y0, z0⟩ := hf 0 _ rfl
  obtain ⟨y1, z1⟩ := hf 1 _ rfl
  obtain ⟨y2, z2⟩ := hf 2 _ rfl
  obtain ⟨y3, z3⟩ := hf 3 _ rfl
  obtain ⟨y4, z4⟩ := hf 4 _ rfl
  obtain ⟨k0, h0, _, b0⟩ := DataW.trod_int Tryz.underlying3 z0
  obtain ⟨k1, h1, _, b1⟩ := DataW.trod_int Tryz.underlying3 z1
  obtain ⟨k2, h2, _, b2⟩ := DataW.trod_int Tryz.underlying3 z2
  obtain ⟨k3, h3, _, b3⟩ := DataW.trod_int Tryz.underlying3 z3
  obtain ⟨a, ha, hb, h4⟩ := ask_ofW z4
  simp [cellsAint, cells_qask] at h0 h1 h2 h3 h4
  rw [List.take_of_length_le (by omega)] at h4
  subst h0 h1 h2 h3 h4
  exact ⟨⟨k0, k1, k2, k3, a⟩, ⟨ha, b1, b2, b3, hb⟩, rfl⟩
theorem open_wact {H : Type} {enc : TypeId × Value → H} {w : World} {base : Nat} {spare : Nat → Bool} {held : Bool} {r : Reach} {b0 : Nat} {v : Value} {d : DataW H} {p : List MemPlace}
    (hv : Value.okWide Tryz.prog w r b0 43 v) (h : DataW.Trod enc Tryz.prog w base spare held 43 v d p) : ∃ x : WAct, WActOk x ∧ v = .agg #[.int .i64 x.do_, .int .i64 x.i, .int .i64 x.j, .int .i64 x.x, .int .i64 x.a.slot, .int .i64 x.a.query, .int .i64 x.a.shard, .int .i64 x.a.seq, .int .i64 x.a.epoch, .string x.a.text, .int .i64 x.a.k, .int .i64 x.a.batch, .bool x.a.first, .int .i64 x.a.ad, .string x.a.aw] := by
  obtain ⟨cs, rfl, hsz⟩ := okWide_struct Tryz.underlying43 hv
  obtain ⟨fuel, hf⟩ := h
  obtain ⟨x, hx, h1⟩ := wact_of hf
  refine ⟨x, hx, ?_⟩
  congr 1
  apply Array.toList_inj.1
  simpa [Value.cells, wactCells] using h1
/-- an act from o on in block b -/
def WActIn (w : World) (b o : Nat) (x : WAct) : Prop := w.cell? ⟨b, o, none⟩ = some (.int .i64 x.do_) ∧ w.cell? ⟨b, o + 1, none⟩ = some (.int .i64 x.i) ∧ w.cell? ⟨b, o + 2, none⟩ = some (.int .i64 x.j) ∧ w.cell? ⟨b, o + 3, none⟩ = some (.int .i64 x.x) ∧ w.cell? ⟨b, o + 4, none⟩ = some (.int .i64 x.a.slot) ∧ w.cell? ⟨b, o + 5, none⟩ = some (.int .i64 x.a.query) ∧ w.cell? ⟨b, o + 6, none⟩ = some (.int .i64 x.a.shard) ∧ w.cell? ⟨b, o + 7, none⟩ = some (.int .i64 x.a.seq) ∧ w.cell? ⟨b, o + 8, none⟩ = some (.int .i64 x.a.epoch) ∧ w.cell? ⟨b, o + 9, none⟩ = some (.string x.a.text) ∧ w.cell? ⟨b, o + 10, none⟩ = some (.int .i64 x.a.k) ∧ w.cell? ⟨b, o + 11, none⟩ = some (.int .i64 x.a.batch) ∧ w.cell? ⟨b, o + 12, none⟩ = some (.bool x.a.first) ∧ w.cell? ⟨b, o + 13, none⟩ = some (.int .i64 x.a.ad) ∧ w.cell? ⟨b, o + 14, none⟩ = some (.string x.a.aw)
theorem WActIn.of {w w' : World} {b o : Nat} {x : WAct} (h : WActIn w b o x) (e : ∀ i, w'.cell? ⟨b, i, none⟩ = w.cell? ⟨b, i, none⟩) : WActIn w' b o x := by
  unfold WActIn at *
  simpa only [e] using h
theorem WActIn.below {w w' : World} {b o : Nat} {x : WAct} (h : WActIn w b o x) (hb : Below w.heap.size w w') : WActIn w' b o x := h.of fun i => hb.cell (p := ⟨b, i, none⟩) (lt_of_cell h.1)
/-- the message of an act -/
def msgW (x : WAct) : MsgV := if x.do_ = 1 then .grant x.i x.j x.x else if x.do_ = 2 then .ask x.a else if x.do_ = 3 then .stop x.i x.j else .hello x.i x.j
theorem message_any (x : WAct) (w : World) : Calls Tryz.prog 40 #[.agg #[.int .i64 x.do_, .int .i64 x.i, .int .i64 x.j, .int .i64 x.x, .int .i64 x.a.slot, .int .i64 x.a.query, .int .i64 x.a.shard, .int .i64 x.a.seq, .int .i64 x.a.epoch, .string x.a.text, .int .i64 x.a.k, .int .i64 x.a.batch, .bool x.a.first, .int .i64 x.a.ad, .string x.a.aw]] w fun e w' => e = .returned (valM (msgW x)) ∧ Below w.heap.size w w' := by
  have BX := Lib.hid (below_one w (.cells #[.int .i64 x.do_, .int .i64 x.i, .int .i64 x.j, .int .i64 x.x, .int .i64 x.a.slot, .int .i64 x.a.query, .int .i64 x.a.shard, .int .i64 x.a.seq, .int .i64 x.a.epoch, .string x.a.text, .int .i64 x.a.k, .int .i64 x.a.batch, .bool x.a.first, .int .i64 x.a.ad, .string x.a.aw] 43))
  unfold msgW
  by_cases h1 : x.do_ = 1
  · have d1 : (x.do_ == 1) = true := by rw [h1]; rfl
    rw [if_pos h1]
    clear h1
    go_enter Tryz.func40, Tryz.ntmps40
    go_wp2_with fail
    go_ret
    exact ⟨rfl, BX.out⟩
  have d1 : (x.do_ == 1) = false := by simpa using h1
  rw [if_neg h1]
  by_cases h2 : x.do_ = 2
  · have d2 : (x.do_ == 2) = true := by rw [h2]; rfl
    rw [if_pos h2]
    clear h1 h2
    go_enter Tryz.func40, Tryz.ntmps40
    go_wp2_with fail
    go_ret
    exact ⟨rfl, BX.out⟩
  have d2 : (x.do_ == 2) = false := by simpa using h2
  rw [if_neg h2]
  by_cases h3 : x.do_ = 3
  · have d3 : (x.do_ == 3) = true := by rw [h3]; rfl
    rw [if_pos h3]
    clear h1 h2 h3
    go_enter Tryz.func40, Tryz.ntmps40
    go_wp2_with fail
    go_ret
    exact ⟨rfl, BX.out⟩
  have d3 : (x.do_ == 3) = false := by simpa using h3
  rw [if_neg h3]
  clear h1 h2 h3
  go_enter Tryz.func40, Tryz.ntmps40
  go_wp2_with fail
  go_ret
  exact ⟨rfl, BX.out⟩
end Go.Proofs.YtgnaiahnednllaaGreat
namespace Go.Proofs.YtgnaiahnednllaaGreat
open Go.ChangeShapes Go.WideShapes Go.ChangeAt Go.RowKit
set_option linter.unusedVariables false
set_option maxRecDepth 20000
set_option maxHeartbeats 1600000 in
theorem workerNone_any (x : WAct) (w : World) : Calls Tryz.prog 7 #[.agg #[.int .i64 x.do_, .int .i64 x.i, .int .i64 x.j, .int .i64 x.x, .int .i64 x.a.slot, .int .i64 x.a.query, .int .i64 x.a.shard, .int .i64 x.a.seq, .int .i64 x.a.epoch, .string x.a.text, .int .i64 x.a.k, .int .i64 x.a.batch, .bool x.a.first, .int .i64 x.a.ad, .string x.a.aw]] w fun e w' => e = .returned (.bool true) ∧ Below w.heap.size w w' := by
  have B1 := Lib.hid (below_one w (.cells #[.int .i64 x.do_, .int .i64 x.i, .int .i64 x.j, .int .i64 x.x, .int .i64 x.a.slot, .int .i64 x.a.query, .int .i64 x.a.shard, .int .i64 x.a.seq, .int .i64 x.a.epoch, .string x.a.text, .int .i64 x.a.k, .int .i64 x.a.batch, .bool x.a.first, .int .i64 x.a.ad, .string x.a.aw] 43))
  obtain ⟨w1, hw1⟩ : ∃ w1, w.alloc (.cells #[.int .i64 x.do_, .int .i64 x.i, .int .i64 x.j, .int .i64 x.x, .int .i64 x.a.slot, .int .i64 x.a.query, .int .i64 x.a.shard, .int .i64 x.a.seq, .int .i64 x.a.epoch, .string x.a.text, .int .i64 x.a.k, .int .i64 x.a.batch, .bool x.a.first, .int .i64 x.a.ad, .string x.a.aw] 43) = w1 := ⟨_, rfl⟩
  have IN : WActIn w1 w.heap.size 0 x := by
    rw [← hw1]
    unfold WActIn
    refine ⟨?_, ?_, ?_, ?_, ?_, ?_, ?_, ?_, ?_, ?_, ?_, ?_, ?_, ?_, ?_⟩ <;> (rw [World.cell?_alloc_mark]; rfl)
  obtain ⟨p, hp⟩ : ∃ p, w.heap.size = p := ⟨_, rfl⟩
  rw [hw1] at B1
  rw [hp] at IN
  have II := Lib.hid IN
  have HP := Lib.hid hp
  have HW := Lib.hid hw1
  unfold WActIn at IN
  simp only [Nat.zero_add] at IN
  obtain ⟨i0, i1, i2, i3, i4, i5, i6, i7, i8, i9, i10, i11, i12, i13, i14⟩ := IN
  clear hp hw1
  by_cases h : (100 : Int) < (x.a.text.size : Int)
  · go_enter Tryz.func7, Tryz.ntmps7
    go_upto_region 1 with fail
    try rw [HW.out]
    try rw [HP.out]
    go_wp2_with (first | (go_at_call 40; (with_reducible refine (message_any x _).mono ?_); rintro e w2 ⟨rfl, hb2⟩; have B2 := Lib.hid (B1.out.trans (hb2.mono B1.out.size)); have B12 := Lib.hid hb2; clear hb2) | (go_at_call 33; (with_reducible refine (wTake_nil _ _).mono ?_); rintro e w9 ⟨rfl, rfl⟩) | (go_at_call 21; (with_reducible refine (wWords_nil x.i _).mono ?_); rintro e w3 ⟨a3, c3, rfl, -, hb3⟩; have B3 := Lib.hid (B2.out.trans (hb3.mono B2.out.size)); clear hb3) | (go_at_call 26; (with_reducible refine (wCrash_nil _).mono ?_); rintro e w9 ⟨rfl, rfl⟩) | (go_at_call 27; (with_reducible refine (wRestart_nil _).mono ?_); rintro e w9 ⟨rfl, rfl⟩) | (go_at_call 24; (with_reducible refine (wUp_nil _).mono ?_); rintro e w9 ⟨rfl, rfl⟩) | (go_at_call 28; (with_reducible refine (wEpoch_nil _).mono ?_); rintro e w9 ⟨rfl, rfl⟩) | (go_at_call 25; (with_reducible refine (wLife_nil _).mono ?_); rintro e w9 ⟨rfl, rfl⟩) | (go_at_call 30; (with_reducible refine (wDisk_nil _).mono ?_); rintro e w9 ⟨rfl, rfl⟩) | (go_at_call 29; (with_reducible refine (wWaiting_nil _).mono ?_); rintro e w9 ⟨rfl, rfl⟩) | (go_at_call 34; (with_reducible refine (wWake_nil _).mono ?_); rintro e w9 ⟨rfl, rfl⟩) | (go_at_call 12; refine (awake21_any _).mono ?_; rintro e wH ⟨rfl, hbH⟩) | fail)
    go_ret
    exact ⟨rfl, B1.out.trans (hbH.mono B1.out.size)⟩
  · go_enter Tryz.func7, Tryz.ntmps7
    go_upto_region 1 with fail
    try rw [HW.out]
    try rw [HP.out]
    go_upto_region 5 with (first | (go_at_call 40; (with_reducible refine (message_any x _).mono ?_); rintro e w2 ⟨rfl, hb2⟩; have B2 := Lib.hid (B1.out.trans (hb2.mono B1.out.size)); have B12 := Lib.hid hb2; clear hb2) | (go_at_call 33; (with_reducible refine (wTake_nil _ _).mono ?_); rintro e w9 ⟨rfl, rfl⟩) | (go_at_call 21; (with_reducible refine (wWords_nil x.i _).mono ?_); rintro e w3 ⟨a3, c3, rfl, -, hb3⟩; have B3 := Lib.hid (B2.out.trans (hb3.mono B2.out.size)); clear hb3) | (go_at_call 26; (with_reducible refine (wCrash_nil _).mono ?_); rintro e w9 ⟨rfl, rfl⟩) | (go_at_call 27; (with_reducible refine (wRestart_nil _).mono ?_); rintro e w9 ⟨rfl, rfl⟩) | (go_at_call 24; (with_reducible refine (wUp_nil _).mono ?_); rintro e w9 ⟨rfl, rfl⟩) | (go_at_call 28; (with_reducible refine (wEpoch_nil _).mono ?_); rintro e w9 ⟨rfl, rfl⟩) | (go_at_call 25; (with_reducible refine (wLife_nil _).mono ?_); rintro e w9 ⟨rfl, rfl⟩) | (go_at_call 30; (with_reducible refine (wDisk_nil _).mono ?_); rintro e w9 ⟨rfl, rfl⟩) | (go_at_call 29; (with_reducible refine (wWaiting_nil _).mono ?_); rintro e w9 ⟨rfl, rfl⟩) | (go_at_call 34; (with_reducible refine (wWake_nil _).mono ?_); rintro e w9 ⟨rfl, rfl⟩) | (go_at_call 12; refine (awake21_any _).mono ?_; rintro e wH ⟨rfl, hbH⟩) | fail)
    have i1b := (II.out.below B12.out).2.1
    rw [Nat.zero_add] at i1b
    clear i0 i1 i2 i3 i4 i5 i6 i7 i8 i9 i10 i11 i12 i13 i14
    go_wp2_with (first | (go_at_call 40; (with_reducible refine (message_any x _).mono ?_); rintro e w2 ⟨rfl, hb2⟩; have B2 := Lib.hid (B1.out.trans (hb2.mono B1.out.size)); have B12 := Lib.hid hb2; clear hb2) | (go_at_call 33; (with_reducible refine (wTake_nil _ _).mono ?_); rintro e w9 ⟨rfl, rfl⟩) | (go_at_call 21; (with_reducible refine (wWords_nil x.i _).mono ?_); rintro e w3 ⟨a3, c3, rfl, -, hb3⟩; have B3 := Lib.hid (B2.out.trans (hb3.mono B2.out.size)); clear hb3) | (go_at_call 26; (with_reducible refine (wCrash_nil _).mono ?_); rintro e w9 ⟨rfl, rfl⟩) | (go_at_call 27; (with_reducible refine (wRestart_nil _).mono ?_); rintro e w9 ⟨rfl, rfl⟩) | (go_at_call 24; (with_reducible refine (wUp_nil _).mono ?_); rintro e w9 ⟨rfl, rfl⟩) | (go_at_call 28; (with_reducible refine (wEpoch_nil _).mono ?_); rintro e w9 ⟨rfl, rfl⟩) | (go_at_call 25; (with_reducible refine (wLife_nil _).mono ?_); rintro e w9 ⟨rfl, rfl⟩) | (go_at_call 30; (with_reducible refine (wDisk_nil _).mono ?_); rintro e w9 ⟨rfl, rfl⟩) | (go_at_call 29; (with_reducible refine (wWaiting_nil _).mono ?_); rintro e w9 ⟨rfl, rfl⟩) | (go_at_call 34; (with_reducible refine (wWake_nil _).mono ?_); rintro e w9 ⟨rfl, rfl⟩) | (go_at_call 12; refine (awake21_any _).mono ?_; rintro e wH ⟨rfl, hbH⟩) | fail)
    go_ret
    exact ⟨rfl, B3.out.trans (hbH.mono B3.out.size)⟩
theorem workerNone_walk {H : Type} {enc : TypeId × Value → H} (W : World) (base : Nat) (v0 : Value) (d0 : DataW H) (p0 : List MemPlace)
    (h0 : DataW.Trod enc Tryz.prog W 0 (fun _ => true) true 43 v0 d0 p0) (o0 : Value.okWide Tryz.prog W .any base 43 v0) :
    Calls Tryz.prog 7 #[v0] W fun e w' => e = .returned (.bool true) ∧ RowKit.Below W.heap.size W w' := by
  obtain ⟨x, hx, rfl⟩ := open_wact o0 h0
  exact workerNone_any x W
end Go.Proofs.YtgnaiahnednllaaGreat
namespace Go.Proofs.YtgnaiahnednllaaGreat
open Go.RowKit
set_option linter.unusedVariables false
set_option maxRecDepth 20000
/-- a worker that the law itself has made -/
def WkF (w0 : World) (b d : Nat) (s : Wk) (w : World) : Prop := s.Ok ∧ ∃ S, WkO b d s w S ∧ (∀ k, S k → w0.heap.size ≤ k) ∧ Below w0.heap.size w0 w
theorem WkF.bel {w0 w : World} {b d : Nat} {s : Wk} (h : WkF w0 b d s w) : Below w0.heap.size w0 w := by obtain ⟨_, _, _, _, h⟩ := h; exact h
theorem WkF.more {w0 w w' : World} {b d : Nat} {s : Wk} (h : WkF w0 b d s w) (hb : Below w.heap.size w w') : WkF w0 b d s w' := by
  obtain ⟨ok, S, h1, h2, h3⟩ := h
  exact ⟨ok, S, (wk_ok b d s).below h1 hb, h2, h3.trans (hb.mono h3.size)⟩
theorem PO.fine {w0 w w' : World} {b d : Nat} {s' : Wk} {S : Nat → Prop} (p : PO (WkO b d s') w S w') (ok : s'.Ok) (h2 : ∀ k, S k → w0.heap.size ≤ k) (h3 : Below w0.heap.size w0 w) : WkF w0 b d s' w' := by
  obtain ⟨T, h, hT, t⟩ := p
  exact ⟨ok, T, h, fun k hk => (hT k hk).elim (h2 k) (fun h => Nat.le_trans h3.size h), h3.trans (t.below h2 h3.size)⟩
theorem fEpoch {w0 : World} {b d : Nat} {s : Wk} (ep : Int) (w : World) (h : WkF w0 b d s w) (he : s.ep = ep) : Calls Tryz.prog 28 #[.pointer (some ⟨b, 0, none⟩)] w fun e w' => e = .returned (.int .i64 ep) ∧ w = w' := by
  obtain ⟨ok, S, h, -⟩ := h; exact wEpoch_o ep w h he
theorem fLife {w0 : World} {b d : Nat} {s : Wk} (l : Nat) (w : World) (h : WkF w0 b d s w) (hl : s.life = l) : Calls Tryz.prog 25 #[.pointer (some ⟨b, 0, none⟩)] w fun e w' => e = .returned (.int .i64 (l : Int)) ∧ w = w' := by
  obtain ⟨ok, S, h, -⟩ := h; exact wLife_o l w h hl
theorem fWaiting {w0 : World} {b d : Nat} {s : Wk} (L : List AskP) (w : World) (h : WkF w0 b d s w) (hL : s.waits = L) : Calls Tryz.prog 29 #[.pointer (some ⟨b, 0, none⟩)] w (RetA w L) := by
  obtain ⟨ok, S, h, -⟩ := h; exact wWaiting_o L w h ok hL
theorem dead_ok (s : Wk) : s.dead.Ok := ⟨fun x l h => (by cases h), fun x l h => (by cases h), Qu.good_nil, fun x hx => (by cases hx)⟩
theorem fCrash_up {w0 : World} {b d : Nat} {s : Wk} (w : World) (h : WkF w0 b d s w) (hu : s.up = true) : Calls Tryz.prog 26 #[.pointer (some ⟨b, 0, none⟩)] w fun e w' => e = .returned (.int .i64 0) ∧ WkF w0 b d s.dead w' := by
  obtain ⟨ok, S, h, h2, h3⟩ := h
  have sb : S b := by obtain ⟨qp, mp, SD, SQ, SL, _, s1, -⟩ := h; exact s1
  exact (wCrash_up w h hu).mono fun e w' ⟨h1, h4, h5⟩ => ⟨h1, dead_ok s, S, h4, h2, h3.trans (h5.below (B := w0.heap.size) (fun k hk => by rw [hk]; exact h2 b sb) h3.size)⟩
theorem fRestart_down {w0 : World} {b d : Nat} {s : Wk} (l1 : Nat) (w : World) (h : WkF w0 b d s w) (hu : s.up = false) (hl : s.life < 1000000) (h1 : s.life + 1 = l1) : Calls Tryz.prog 27 #[.pointer (some ⟨b, 0, none⟩)] w fun e w' => e = .returned (.int .i64 0) ∧ ∃ sh, LoadR s.f sh 6 ∧ WkF w0 b d ⟨s.id, s.f, l1, true, (l1 : Int), 0, [], sh⟩ w' := by
  obtain ⟨ok, S, h, h2, h3⟩ := h
  exact (wRestart_down l1 w h hu hl h1).mono fun e w' ⟨h4, sh, T, hr, hk, hs, ht⟩ => ⟨h4, sh, hr, PO.fine ⟨T, hk, hs, ht⟩ (born_ok hr) h2 h3⟩
theorem fTake {w0 : World} {b d : Nat} {s s' : Wk} (M : MsgV) (w : World) (h : WkF w0 b d s w) (hw : wfM M) (hs : smallM M) (hk : s.take M = s') : Calls Tryz.prog 33 #[.pointer (some ⟨b, 0, none⟩), valM M] w fun e w' => e = .returned (.tuple #[]) ∧ WkF w0 b d s' w' := by
  obtain ⟨ok, S, h, h2, h3⟩ := h
  exact (wTake_o M w h ok hw hs hk).mono fun e w' ⟨h4, p⟩ => ⟨h4, p.fine (hk ▸ ok.take M hw hs) h2 h3⟩
theorem fTakeGrant {w0 : World} {b d : Nat} {s s' : Wk} (x y z : Int) (w : World) (h : WkF w0 b d s w) (hk : s.take (.grant x y z) = s') : Calls Tryz.prog 33 #[.pointer (some ⟨b, 0, none⟩), .iface 65 (.agg #[.int .i64 x, .int .i64 y, .int .i64 z])] w fun e w' => e = .returned (.tuple #[]) ∧ WkF w0 b d s' w' := fTake (.grant x y z) w h trivial trivial hk
theorem fWake_hello {w0 : World} {b d : Nat} {s : Wk} (w : World) (h : WkF w0 b d s w) (hu : s.up = true) (hn : decide (0 < s.ep) = false ∨ s.q = []) : Calls Tryz.prog 34 #[.pointer (some ⟨b, 0, none⟩)] w fun e w' => LetterP w (.hello s.id s.wl) e w' ∧ Below w.heap.size w w' := by
  obtain ⟨ok, S, h, -⟩ := h; exact wWake_hello w h hu hn
theorem pop_ok {s : Wk} (ok : s.Ok) {x : AskP} {l : List AskP} (hq : s.q = x :: l) : Wk.Ok { s with q := l } :=
  ⟨ok.g, ok.z, by have := Qu.tail_good ok.q; rw [hq] at this; exact this, fun y hy => ok.sv y (by rw [hq]; exact List.mem_cons_of_mem _ hy)⟩
/-- New, in the laws' form -/
theorem fNew {w0 : World} (c : Cfg) (x : Int) (W C : Nat) (K : List Nat) (w : World) (hw : Below w0.heap.size w0 w) (h : CfgOk w c) (hm : c.may = true) (hW : c.W = (W : Int)) (hC : c.C = (C : Int)) (hx1 : 1 ≤ x) (hx2 : x ≤ c.W) (hK : Pl.keep W C (c.kn + 1) x = K) :
    Calls Tryz.prog 13 #[.agg #[.slice c.wa c.wn c.wc, .slice c.ka c.kn c.kc, .int .i64 c.W, .int .i64 c.C, .int .i64 c.S, .int .i64 c.B, .int .i64 c.L, .int .i64 c.H, .int .i64 c.F, .int .i64 c.P, .int .i64 c.J, .int .i64 c.N], .int .i64 x] w fun e w' => ∃ b d f sh, e = .returned (.tuple #[.pointer (some ⟨b, 0, none⟩), .int .i64 0]) ∧ NewF c K f ∧ LoadR f sh 6 ∧ WkF w0 b d ⟨x, f, 1, true, 1, 0, [], sh⟩ w' :=
  (wnew_good c x W C K w h hm hW hC hx1 hx2 hK).mono fun e w' ⟨b, d, f, sh, S, h1, h2, h3, h4, h5, h6⟩ => ⟨b, d, f, sh, h1, h2, h3, born_ok h3, S, h4, fun k hk => Nat.le_trans hw.size (h5 k hk), hw.trans (h6.mono hw.size)⟩
end Go.Proofs.YtgnaiahnednllaaGreat
namespace Go.Proofs.YtgnaiahnednllaaGreat
open Go.ChangeShapes Go.WideShapes Go.ChangeAt Go.RowKit
set_option linter.unusedVariables false
set_option maxRecDepth 20000
def HoldsG (w : World) (a : Option Addr) (n : Nat) (gs : Nat → Int × Int × Int) : Prop := 0 < n → ∃ b o, a = some ⟨b, o, none⟩ ∧ ∀ i, i < n → w.cell? ⟨b, o + i * 3, none⟩ = some (.int .i64 (gs i).1) ∧ w.cell? ⟨b, o + i * 3 + 1, none⟩ = some (.int .i64 (gs i).2.1) ∧ w.cell? ⟨b, o + i * 3 + 2, none⟩ = some (.int .i64 (gs i).2.2)
theorem cells_grant : Tryz.prog.cellsOf 65 = 3 := by kernel_rfl
theorem open_grants_arg {H : Type} {enc : TypeId × Value → H} {W : World} {base : Nat} {v : Value} {d : DataW H} {p : List MemPlace}
    (o : Value.okWide Tryz.prog W .any base 82 v) (h : DataW.Trod enc Tryz.prog W 0 (fun _ => true) true 82 v d p) :
    ∃ a n cap gs, v = .slice a n cap ∧ HoldsG W a n gs ∧ n ≤ maxLen := by
  obtain ⟨a, n, cap, R, rfl, _, h1, h2, hg, hc⟩ := open_rows_arg Tryz.underlying82 cells_grant (by omega) (fun cs => ∃ x : Int × Int × Int, cs = [.int .i64 x.1, .int .i64 x.2.1, .int .i64 x.2.2]) (fun m cs y h => by
    obtain ⟨hl, n, hf⟩ := struct_cells Tryz.underlying65 h
    rw [cells_grant] at hl
    obtain ⟨c0, c1, c2, rfl⟩ : ∃ c0 c1 c2, cs = [c0, c1, c2] := by
      match cs, hl with
      | [a, b, c], _ => exact ⟨a, b, c, rfl⟩
    obtain ⟨y0, z0⟩ := hf 0 _ rfl
    obtain ⟨y1, z1⟩ := hf 1 _ rfl
    obtain ⟨y2, z2⟩ := hf 2 _ rfl
    obtain ⟨k0, h0, _, _⟩ := DataW.trod_int Tryz.underlying3 z0
    obtain ⟨k1, h1, _, _⟩ := DataW.trod_int Tryz.underlying3 z1
    obtain ⟨k2, h2, _, _⟩ := DataW.trod_int Tryz.underlying3 z2
    simp [cellsAint] at h0 h1 h2
    subst h0 h1 h2
    exact ⟨(k0, k1, k2), rfl⟩) o h
  have hx : ∀ i, ∃ x : Int × Int × Int, i < n → R i = [.int .i64 x.1, .int .i64 x.2.1, .int .i64 x.2.2] := fun i => by
    by_cases hi : i < n
    · obtain ⟨x, h3⟩ := hg i hi
      exact ⟨x, fun _ => h3⟩
    · exact ⟨(0, 0, 0), fun h => absurd h hi⟩
  refine ⟨a, n, cap, fun i => (hx i).choose, rfl, fun h0 => ?_, Nat.le_trans h1 h2⟩
  obtain ⟨b, o, ha, hcell⟩ := hc h0
  refine ⟨b, o, ha, fun i hi => ?_⟩
  have e := (hx i).choose_spec hi
  have c : ∀ j, j < 3 → W.cell? ⟨b, o + i * 3 + j, none⟩ = ([.int .i64 (hx i).choose.1, .int .i64 (hx i).choose.2.1, .int .i64 (hx i).choose.2.2] : List Value)[j]? := fun j hj => (hcell i hi j hj).trans (congrArg (fun l : List Value => l[j]?) e)
  exact ⟨c 0 (by omega), c 1 (by omega), c 2 (by omega)⟩
theorem takeG {id M x y z : Int} {f : Int → Option DI} {sh : Int → Option LD} : Wk.take ⟨id, f, 2, true, 2, M, [], sh⟩ (.grant x y z) = ⟨id, f, 2, true, 2, if (x == id && y == 2 && decide (M < z)) = true then z else M, [], sh⟩ := by
  unfold Wk.take
  rw [if_pos rfl]
  show (if _ then _ else _) = _
  split <;> rfl
theorem new21 {w0 : World} (id : Int) (hid : id = 1 ∨ id = 2) (B : Nat) (w : World) (hw : Below w0.heap.size w0 w) (h : CfgOk w (cfgS B)) : Calls Tryz.prog 13 #[.agg #[.slice (cfgS B).wa (cfgS B).wn (cfgS B).wc, .slice (cfgS B).ka (cfgS B).kn (cfgS B).kc, .int .i64 (cfgS B).W, .int .i64 (cfgS B).C, .int .i64 (cfgS B).S, .int .i64 (cfgS B).B, .int .i64 (cfgS B).L, .int .i64 (cfgS B).H, .int .i64 (cfgS B).F, .int .i64 (cfgS B).P, .int .i64 (cfgS B).J, .int .i64 (cfgS B).N], .int .i64 id] w fun e w' => ∃ b d f sh, e = .returned (.tuple #[.pointer (some ⟨b, 0, none⟩), .int .i64 0]) ∧ LoadR f sh 6 ∧ WkF w0 b d ⟨id, f, 1, true, 1, 0, [], sh⟩ w' := by
  rcases hid with rfl | rfl
  · exact (fNew (cfgS B) 1 2 1 [0] w hw h (may_cfgS B) rfl rfl (by decide) (show (1 : Int) ≤ 2 by decide) keepS).mono fun e w' ⟨b, d, f, sh, h1, _, h3, h4⟩ => ⟨b, d, f, sh, h1, h3, h4⟩
  · exact (fNew (cfgS B) 2 2 1 [1] w hw h (may_cfgS B) rfl rfl (by decide) (show (2 : Int) ≤ 2 by decide) (show Pl.keep 2 1 2 2 = [1] by decide)).mono fun e w' ⟨b, d, f, sh, h1, _, h3, h4⟩ => ⟨b, d, f, sh, h1, h3, h4⟩
set_option maxHeartbeats 3200000 in
theorem workerEpochs_any (id0 : Int) (ga : Option Addr) (gn gc : Nat) (gs : Nat → Int × Int × Int) (w : World) (hg : HoldsG w ga gn gs) : Calls Tryz.prog 8 #[.int .i64 id0, .slice ga gn gc] w fun e w' => e = .returned (.bool true) ∧ Below w.heap.size w w' := by
  have HG := Lib.hid hg
  clear hg
  by_cases h40 : (40 : Int) < (gn : Int)
  · go_enter Tryz.func8, Tryz.ntmps8
    go_wp2_with (first | (go_at_call 12; refine (awake21_any _).mono ?_; rintro e wH ⟨rfl, hbH⟩) | fail)
    go_ret
    exact ⟨rfl, hbH⟩
  have l2 := low_bd id0 2 (by omega)
  have CLW := Lib.hid (fun w' => low_any id0 2 (by omega) (by omega) w')
  obtain ⟨lo, hlo⟩ : ∃ x, lowV id0 2 = x := ⟨_, rfl⟩
  rw [hlo] at CLW l2
  obtain ⟨id, hid0⟩ : ∃ x : Int, 1 + lo = x := ⟨_, rfl⟩
  have e1 : IntKind.i64.wrap (1 + lo) = id := by rw [IntKind.wrap_i64]; omega
  have hid : id = 1 ∨ id = 2 := by omega
  have CN := Lib.hid (fun (B : Nat) (w1 : World) (hb : Below w.heap.size w w1) (h : CfgOk w1 (cfgS B)) => new21 (w0 := w) id hid B w1 hb h)
  clear hlo hid0 hid l2
  go_enter Tryz.func8, Tryz.ntmps8
  go_upto_region 4 with (first | (go_at_call 41; (with_reducible refine (CLW.out _).mono ?_); rintro e w' ⟨rfl, rfl⟩) | fail)
  clear e1
  go_wp2_with fail
  refine (small21_any w).mono ?_
  rintro e w1 ⟨B, rfl, ok, hb⟩
  have C1 := Lib.hid (CN.out B w1 hb ok)
  clear ok hb CN
  generalize cfgS B = c at *
  go_wp2_with fail
  with_reducible refine C1.out.mono ?_
  rintro e w2 ⟨b, d, f, sh0, rfl, -, hf⟩
  have F2 := Lib.hid hf
  have CC := Lib.hid (fCrash_up w2 hf rfl)
  clear hf C1
  go_wp2_with fail
  with_reducible refine CC.out.mono ?_
  rintro e w3 ⟨rfl, hf⟩
  have CR := Lib.hid (fRestart_down 2 w3 hf rfl (by show 1 < 1000000; omega) rfl)
  clear hf CC F2
  go_wp2_with fail
  with_reducible refine CR.out.mono ?_
  rintro e w4 ⟨rfl, sh, -, hf⟩
  have F4 := Lib.hid (show WkF w b d ⟨id, f, 2, true, 2, 0, [], sh⟩ w4 from hf)
  clear hf CR
  go_wp2_with fail
  go_loopw [7, 8] (fun mv iv wr => ∃ (j : Nat) (M : Int), j ≤ gn ∧ mv = .int .i64 M ∧ iv = .int .i64 j ∧ Hid (WkF w b d ⟨id, f, 2, true, 2, M, [], sh⟩ wr)) (fun _ iv _ => gn - (intOf iv).toNat)
  case atStart => exact ⟨0, 0, by omega, rfl, rfl, F4⟩
  case round =>
    clear F4
    obtain ⟨j, M, hj, rfl, rfl, hW⟩ := hrel
    by_cases hlt : j < gn
    · obtain ⟨gb, go, rfl, hcc⟩ := HG.out (by omega)
      have hc := hcc j hlt
      obtain ⟨x, hx⟩ : ∃ x, (gs j).1 = x := ⟨_, rfl⟩
      obtain ⟨y, hy⟩ : ∃ x, (gs j).2.1 = x := ⟨_, rfl⟩
      obtain ⟨z, hz⟩ : ∃ x, (gs j).2.2 = x := ⟨_, rfl⟩
      rw [hx, hy, hz] at hc
      obtain ⟨hc0, hc1, hc2⟩ := hc
      have HCX := Lib.hid (show ∀ w', Below w.heap.size w w' → w'.cell? ⟨gb, go + j * 3, none⟩ = some (.int .i64 x) ∧ w'.cell? ⟨gb, go + j * 3 + 1, none⟩ = some (.int .i64 y) ∧ w'.cell? ⟨gb, go + j * 3 + 2, none⟩ = some (.int .i64 z) from fun w' hb => ⟨(hb.cell (p := ⟨gb, go + j * 3, none⟩) (lt_of_cell hc0)).trans hc0, (hb.cell (p := ⟨gb, go + j * 3 + 1, none⟩) (lt_of_cell hc1)).trans hc1, (hb.cell (p := ⟨gb, go + j * 3 + 2, none⟩) (lt_of_cell hc2)).trans hc2⟩)
      have HCC := Lib.hid (fun (w' : World) (hb : Below wr.heap.size wr w') => HCX.out w' (hW.out.bel.trans (hb.mono hW.out.bel.size)))
      have j1 : (0 : Int) ≤ (j : Int) := by omega
      have j2 : (j : Int) < (gn : Int) := by omega
      clear hcc hx hy hz
      cases d1 : (x == id) with
      | false =>
        have CT := Lib.hid (fTakeGrant x y z wr hW.out (show Wk.take ⟨id, f, 2, true, 2, M, [], sh⟩ (.grant x y z) = ⟨id, f, 2, true, 2, M, [], sh⟩ from by rw [takeG, d1]; rfl))
        clear hc0 hc1 hc2
        obtain ⟨c0, c1, c2⟩ := HCC.out wr (Below.refl _ _)
        go_wp2_with fail
        with_reducible refine CT.out.mono ?_
        rintro e w5 ⟨rfl, hf5⟩
        have F5 := Lib.hid hf5
        clear c0 c1 c2 hf5 CT
        obtain ⟨c0, c1, c2⟩ := HCX.out w5 F5.out.bel
        have CE := Lib.hid (fEpoch M w5 F5.out rfl)
        have CL := Lib.hid (fLife 2 w5 F5.out rfl)
        go_wp2_with (first | (go_at_call 28; (with_reducible refine CE.out.mono ?_); rintro e w9 ⟨rfl, rfl⟩) | (go_at_call 25; (with_reducible refine CL.out.mono ?_); rintro e w9 ⟨rfl, rfl⟩) | fail)
        go_roundw
        case rel => exact ⟨j + 1, M, by omega, rfl, by go_num, F5⟩
        case measure => simp [intOf] <;> omega
      | true =>
        cases d2 : (y == 2) with
        | false =>
          have CT := Lib.hid (fTakeGrant x y z wr hW.out (show Wk.take ⟨id, f, 2, true, 2, M, [], sh⟩ (.grant x y z) = ⟨id, f, 2, true, 2, M, [], sh⟩ from by rw [takeG, d1, d2]; rfl))
          clear hc0 hc1 hc2
          obtain ⟨c0, c1, c2⟩ := HCC.out wr (Below.refl _ _)
          go_wp2_with fail
          with_reducible refine CT.out.mono ?_
          rintro e w5 ⟨rfl, hf5⟩
          have F5 := Lib.hid hf5
          clear c0 c1 c2 hf5 CT
          obtain ⟨c0, c1, c2⟩ := HCX.out w5 F5.out.bel
          have CE := Lib.hid (fEpoch M w5 F5.out rfl)
          have CL := Lib.hid (fLife 2 w5 F5.out rfl)
          go_wp2_with (first | (go_at_call 28; (with_reducible refine CE.out.mono ?_); rintro e w9 ⟨rfl, rfl⟩) | (go_at_call 25; (with_reducible refine CL.out.mono ?_); rintro e w9 ⟨rfl, rfl⟩) | fail)
          go_roundw
          case rel => exact ⟨j + 1, M, by omega, rfl, by go_num, F5⟩
          case measure => simp [intOf] <;> omega
        | true =>
          cases d3 : decide (M < z) with
          | false =>
            have CT := Lib.hid (fTakeGrant x y z wr hW.out (show Wk.take ⟨id, f, 2, true, 2, M, [], sh⟩ (.grant x y z) = ⟨id, f, 2, true, 2, M, [], sh⟩ from by rw [takeG, d1, d2, d3]; rfl))
            clear hc0 hc1 hc2
            obtain ⟨c0, c1, c2⟩ := HCC.out wr (Below.refl _ _)
            go_wp2_with fail
            with_reducible refine CT.out.mono ?_
            rintro e w5 ⟨rfl, hf5⟩
            have F5 := Lib.hid hf5
            clear c0 c1 c2 hf5 CT
            obtain ⟨c0, c1, c2⟩ := HCX.out w5 F5.out.bel
            have CE := Lib.hid (fEpoch M w5 F5.out rfl)
            have CL := Lib.hid (fLife 2 w5 F5.out rfl)
            go_wp2_with (first | (go_at_call 28; (with_reducible refine CE.out.mono ?_); rintro e w9 ⟨rfl, rfl⟩) | (go_at_call 25; (with_reducible refine CL.out.mono ?_); rintro e w9 ⟨rfl, rfl⟩) | fail)
            go_roundw
            case rel => exact ⟨j + 1, M, by omega, rfl, by go_num, F5⟩
            case measure => simp [intOf] <;> omega
          | true =>
            have CT := Lib.hid (fTakeGrant x y z wr hW.out (show Wk.take ⟨id, f, 2, true, 2, M, [], sh⟩ (.grant x y z) = ⟨id, f, 2, true, 2, z, [], sh⟩ from by rw [takeG, d1, d2, d3]; rfl))
            clear hc0 hc1 hc2
            obtain ⟨c0, c1, c2⟩ := HCC.out wr (Below.refl _ _)
            go_wp2_with fail
            with_reducible refine CT.out.mono ?_
            rintro e w5 ⟨rfl, hf5⟩
            have F5 := Lib.hid hf5
            clear c0 c1 c2 hf5 CT
            obtain ⟨c0, c1, c2⟩ := HCX.out w5 F5.out.bel
            have CE := Lib.hid (fEpoch z w5 F5.out rfl)
            have CL := Lib.hid (fLife 2 w5 F5.out rfl)
            go_wp2_with (first | (go_at_call 28; (with_reducible refine CE.out.mono ?_); rintro e w9 ⟨rfl, rfl⟩) | (go_at_call 25; (with_reducible refine CL.out.mono ?_); rintro e w9 ⟨rfl, rfl⟩) | fail)
            go_roundw
            case rel => exact ⟨j + 1, z, by omega, rfl, by go_num, F5⟩
            case measure => simp [intOf] <;> omega
    · obtain rfl : j = gn := by omega
      have CC := Lib.hid (fCrash_up wr hW.out rfl)
      go_wp2_with (first | (go_at_call 26; (with_reducible refine CC.out.mono ?_); rintro e w5 ⟨rfl, hf5⟩; have F5 := Lib.hid hf5; have CE := Lib.hid (fEpoch 0 w5 hf5 rfl); clear hf5) | (go_at_call 28; (with_reducible refine CE.out.mono ?_); rintro e w9 ⟨rfl, rfl⟩) | (go_at_call 12; refine (awake21_any _).mono ?_; rintro e wH ⟨rfl, hbH⟩) | fail)
      go_ret
      exact ⟨rfl, F5.out.bel.trans (hbH.mono F5.out.bel.size)⟩
theorem workerEpochs_walk {H : Type} {enc : TypeId × Value → H} (W : World) (base : Nat) (v0 v1 : Value) (d0 d1 : DataW H) (p0 p1 : List MemPlace)
    (h0 : DataW.Trod enc Tryz.prog W 0 (fun _ => true) true 3 v0 d0 p0) (h1 : DataW.Trod enc Tryz.prog W 0 (fun _ => true) true 82 v1 d1 p1) (o0 : Value.okWide Tryz.prog W .any base 3 v0) (o1 : Value.okWide Tryz.prog W .any base 82 v1) :
    Calls Tryz.prog 8 #[v0, v1] W fun e w' => e = .returned (.bool true) ∧ RowKit.Below W.heap.size W w' := by
  obtain ⟨x0, rfl, rfl, rfl, b0⟩ := open_int Tryz.underlying3 o0 h0
  obtain ⟨a, n, cap, gs, rfl, hg, -⟩ := open_grants_arg o1 h1
  exact workerEpochs_any x0 a n cap gs W hg
end Go.Proofs.YtgnaiahnednllaaGreat
namespace Go.Proofs.YtgnaiahnednllaaGreat
open Go.RowKit
set_option linter.unusedVariables false
set_option maxRecDepth 20000
/-- a worker that the law itself has made, and an object apart from it -/
def WkK (w0 : World) (b d q : Nat) (o : Obj) (s : Wk) (w : World) : Prop := s.Ok ∧ ∃ S, WkO b d s w S ∧ (∀ k, S k → w0.heap.size ≤ k) ∧ Below w0.heap.size w0 w ∧ ¬ S q ∧ w.heap[q]? = some o
theorem WkK.fine {w0 w : World} {b d q : Nat} {o : Obj} {s : Wk} (h : WkK w0 b d q o s w) : WkF w0 b d s w := by
  obtain ⟨ok, S, h1, h2, h3, -⟩ := h; exact ⟨ok, S, h1, h2, h3⟩
theorem WkK.obj {w0 w : World} {b d q : Nat} {o : Obj} {s : Wk} (h : WkK w0 b d q o s w) : w.heap[q]? = some o := by
  obtain ⟨ok, S, h1, h2, h3, h4, h5⟩ := h; exact h5
theorem WkF.beside {w0 w : World} {b d : Nat} {s : Wk} (h : WkF w0 b d s w) (o : Obj) : WkK w0 b d w.heap.size o s (w.alloc o) := by
  obtain ⟨ok, S, h1, h2, h3⟩ := h
  have hb := below_one w o
  exact ⟨ok, S, (wk_ok b d s).below h1 hb, h2, h3.trans (hb.mono h3.size), fun h => by have := (wk_ok b d s).lt h1 _ h; omega, heap_alloc_new w o⟩
theorem WkK.more {w0 w w' : World} {b d q : Nat} {o : Obj} {s : Wk} (h : WkK w0 b d q o s w) (hb : Below w.heap.size w w') : WkK w0 b d q o s w' := by
  obtain ⟨ok, S, h1, h2, h3, h4, h5⟩ := h
  exact ⟨ok, S, (wk_ok b d s).below h1 hb, h2, h3.trans (hb.mono h3.size), h4, (hb.block q (Array.getElem?_eq_some_iff.1 h5).1).trans h5⟩
theorem kTake {w0 : World} {b d q : Nat} {o : Obj} {s s' : Wk} (M : MsgV) (w : World) (h : WkK w0 b d q o s w) (hw : wfM M) (hs : smallM M) (hk : s.take M = s') : Calls Tryz.prog 33 #[.pointer (some ⟨b, 0, none⟩), valM M] w fun e w' => e = .returned (.tuple #[]) ∧ WkK w0 b d q o s' w' := by
  obtain ⟨ok, S, h, h2, h3, h4, h5⟩ := h
  refine (wTake_o M w h ok hw hs hk).mono fun e w' ⟨h6, T, h7, hT, t⟩ => ⟨h6, hk ▸ ok.take M hw hs, T, h7, fun k hk => (hT k hk).elim (h2 k) (fun h => Nat.le_trans h3.size h), h3.trans (t.below h2 h3.size), fun hq => (hT q hq).elim h4 (fun hq => by have := (Array.getElem?_eq_some_iff.1 h5).1; omega), obj_apart h5 h4 t⟩
theorem kTakeGrant {w0 : World} {b d q : Nat} {o : Obj} {s s' : Wk} (x y z : Int) (w : World) (h : WkK w0 b d q o s w) (hk : s.take (.grant x y z) = s') : Calls Tryz.prog 33 #[.pointer (some ⟨b, 0, none⟩), .iface 65 (.agg #[.int .i64 x, .int .i64 y, .int .i64 z])] w fun e w' => e = .returned (.tuple #[]) ∧ WkK w0 b d q o s' w' := kTake (.grant x y z) w h trivial trivial hk
theorem kTakeAsk {w0 : World} {b d q : Nat} {o : Obj} {s s' : Wk} (a : AskP) (w : World) (h : WkK w0 b d q o s w) (hw : wfI a.shard) (hs : a.text.size ≤ 1100 ∧ a.aw.size ≤ 1100) (hk : s.take (.ask a) = s') : Calls Tryz.prog 33 #[.pointer (some ⟨b, 0, none⟩), .iface 41 (.agg #[.int .i64 a.slot, .int .i64 a.query, .int .i64 a.shard, .int .i64 a.seq, .int .i64 a.epoch, .string a.text, .int .i64 a.k, .int .i64 a.batch, .bool a.first, .int .i64 a.ad, .string a.aw])] w fun e w' => e = .returned (.tuple #[]) ∧ WkK w0 b d q o s' w' := kTake (.ask a) w h hw hs hk
theorem kWake_reply {w0 : World} {b d q : Nat} {o : Obj} {s : Wk} {l : List AskP} (x : AskP) (ld : LD) (Fl ys : List KV) (n : Nat) (bz : Bool) (w : World) (h : WkK w0 b d q o s w) (hu : s.up = true) (he : decide (0 < s.ep) = true) (hq : s.q = x :: l) (hs : s.sh x.shard = some ld)
    (hF : restK x.first (x.ad, x.aw) (matchK ld.ts x.text x.k) = Fl) (hn : cntK x.batch Fl.length = n) (hy : Fl.take n = ys) (hbz : decide (n = Fl.length) = bz) :
    Calls Tryz.prog 34 #[.pointer (some ⟨b, 0, none⟩)] w fun e w' => ∃ ia p, e = .returned (.slice (some ⟨p, 0, none⟩) 1 1) ∧ w.heap.size ≤ p ∧ w'.heap[p]? = some (.cells #[.int .i64 0, valM (.reply ⟨x.slot, x.query, x.shard, x.seq, s.id, s.ep, ia, n, n, ys, bz⟩)] 72 (0, 0)) ∧ CutI w' w.heap.size ia n ys ∧ (ia = none → n = 0) ∧ WkK w0 b d q o { s with q := l } w' := by
  obtain ⟨ok, S, h, h2, h3, h4, h5⟩ := h
  exact (wWake_reply x ld Fl ys n bz w h ok hu he hq hs hF hn hy hbz).mono fun e w' ⟨ia, ⟨p, e1, h6, h7⟩, h8, h9, h10, h11⟩ => ⟨ia, p, e1, h6, h7, h8, h9, pop_ok ok hq, S, h10, h2, h3.trans (h11.below h2 h3.size), h4, obj_apart h5 h4 h11⟩
end Go.Proofs.YtgnaiahnednllaaGreat
namespace Go.Proofs.YtgnaiahnednllaaGreat
open Go.ChangeShapes Go.WideShapes Go.ChangeAt Go.RowKit
set_option linter.unusedVariables false
set_option maxRecDepth 20000
def oW : List Tx := [⟨#[97]⟩, ⟨#[97, 98]⟩, ⟨#[97, 98, 99]⟩, ⟨#[98]⟩, ⟨#[98, 195, 169]⟩, ⟨#[195, 169]⟩]
def cfgO (B : Nat) : Cfg := ⟨some ⟨B, 0, none⟩, 6, 6, none, 0, 0, 1, 1, 1, 2, 5, 5, 1, 1, 0, 8, oW, []⟩
theorem good_oW : goodV oW = 0 := by kernel_rfl
theorem good_oK : goodK [] = 0 := by kernel_rfl
theorem may_cfgO (B : Nat) : (cfgO B).may = true := by
  simp [Cfg.may, cfgO, good_oW, good_oK]
  all_goals decide
theorem keepO : Pl.keep 1 1 1 1 = [0] := by decide
theorem sliceS_O : sliceS [] oW 0 = oW := by kernel_rfl
theorem decO (B : Nat) : decS (imgC (cfgO B) 0) = some oW := by
  unfold imgC
  have e : sliceS (cfgO B).ks (cfgO B).ws 0 = oW := sliceS_O
  rw [e]
  exact decS_img good_oW
theorem holdsT_O (w : World) (e : TypeId) (fr : Nat × Nat) : HoldsT (w.alloc (.cells #[.string ⟨#[97]⟩, .string ⟨#[97, 98]⟩, .string ⟨#[97, 98, 99]⟩, .string ⟨#[98]⟩, .string ⟨#[98, 195, 169]⟩, .string ⟨#[195, 169]⟩] e fr)) (some ⟨w.heap.size, 0, none⟩) 6 oW := by
  refine ⟨by simp [strsV, oW], fun _ => ⟨w.heap.size, 0, rfl, fun i hi => ?_⟩⟩
  rw [Nat.zero_add, World.cell?_alloc_mark]
  have hc : i = 0 ∨ i = 1 ∨ i = 2 ∨ i = 3 ∨ i = 4 ∨ i = 5 := by omega
  rcases hc with rfl | rfl | rfl | rfl | rfl | rfl <;> rfl
theorem cfgO_ok (w : World) : CfgOk ((w.alloc (.cells #[.string ⟨#[97]⟩, .string ⟨#[97, 98]⟩, .string ⟨#[97, 98, 99]⟩, .string ⟨#[98]⟩, .string ⟨#[98, 195, 169]⟩, .string ⟨#[195, 169]⟩] 9)).alloc (.cells #[.slice (some ⟨w.heap.size, 0, none⟩) 6 6, .slice none 0 0, .int .i64 1, .int .i64 1, .int .i64 1, .int .i64 2, .int .i64 5, .int .i64 5, .int .i64 1, .int .i64 1, .int .i64 0, .int .i64 8] 25)) (cfgO w.heap.size) :=
  ⟨(holdsT_O w 9 (0, 0)).below (below_one _ _), fun e => (by cases e), Nat.le_refl _, (show (6 : Nat) ≤ 9223372036854775807 by decide), (show ∀ t ∈ oW, ByteArray.size t ≤ 9223372036854775807 by decide), ⟨rfl, fun h => absurd h (show ¬ 0 < 0 by decide)⟩, (show (0 : Nat) ≤ 9223372036854775807 by decide), by
    intro k hk
    cases hk⟩
def askO (text : ByteArray) (K Bt : Int) : AskP := ⟨0, 3, 0, 0, 1, text, K, Bt, true, 0, ⟨#[]⟩⟩
def stO (f : Int → Option DI) (sh : Int → Option LD) (a : AskP) (z : Bool) (j : Nat) : Wk := ⟨1, f, 1, true, 1, 1, if (z && decide (0 < j)) = true then [a] else [], sh⟩
theorem pushO1 (text : ByteArray) (K Bt : Int) : Qu.push [] (askO text K Bt) = [askO text K Bt] := by
  have h : Qu.pushed [] (askO text K Bt) = true := by
    unfold Qu.pushed Qu.find Qu.may askO
    simp
  unfold Qu.push
  rw [if_pos h]
  rfl
theorem pushO2 (text : ByteArray) (K Bt : Int) : Qu.push [askO text K Bt] (askO text K Bt) = [askO text K Bt] := by
  have hf : Qu.find [askO text K Bt] (askO text K Bt).slot (askO text K Bt).shard = some (askO text K Bt) := by
    unfold Qu.find Qu.same
    simp
  have h : Qu.pushed [askO text K Bt] (askO text K Bt) = true := by
    unfold Qu.pushed
    rw [hf]
    unfold Qu.may Qu.newer
    simp [askO]
  unfold Qu.push
  rw [if_pos h, hf]
  unfold Qu.put Qu.same
  simp
theorem takeOnce {f : Int → Option DI} {sh : Int → Option LD} {text : ByteArray} {K Bt : Int} {z : Bool} (hz : mayAsk (askO text K Bt) = z) (j : Nat) (hs : ∃ ld g, sh 0 = some ld ∧ ld.g = some g) : (stO f sh (askO text K Bt) z j).take (.ask (askO text K Bt)) = stO f sh (askO text K Bt) z (j + 1) := by
  obtain ⟨ld, g, hl, hg⟩ := hs
  have ht : (stO f sh (askO text K Bt) z j).takes (askO text K Bt) = z := by
    unfold Wk.takes Wk.served
    rw [hz]
    have e : (stO f sh (askO text K Bt) z j).sh (askO text K Bt).shard = some ld := hl
    simp only [e, hg]
    cases z <;> rfl
  unfold Wk.take
  rw [if_pos (show (stO f sh (askO text K Bt) z j).up = true from rfl)]
  show (if _ then _ else _) = _
  rw [ht]
  cases z with
  | false => rfl
  | true =>
    rw [if_pos rfl]
    unfold stO
    congr 1
    by_cases h : 0 < j
    · simp only [Bool.true_and, h, decide_true, if_true]
      rw [pushO2]
      simp
    · simp only [Bool.true_and, h, decide_false, Bool.false_eq_true, if_false]
      rw [pushO1]
      simp
theorem aCells {w : World} {p : Nat} {text : ByteArray} {K Bt : Int} (h : w.heap[p]? = some (.cells #[.int .i64 0, .int .i64 3, .int .i64 0, .int .i64 0, .int .i64 1, .string text, .int .i64 K, .int .i64 Bt, .bool true, .int .i64 0, .string ⟨#[]⟩] 41 (0, 0))) : w.cell? ⟨p, 0, none⟩ = some (.int .i64 0) ∧ w.cell? ⟨p, 1, none⟩ = some (.int .i64 3) ∧ w.cell? ⟨p, 2, none⟩ = some (.int .i64 0) ∧ w.cell? ⟨p, 3, none⟩ = some (.int .i64 0) ∧ w.cell? ⟨p, 4, none⟩ = some (.int .i64 1) ∧ w.cell? ⟨p, 5, none⟩ = some (.string text) ∧ w.cell? ⟨p, 6, none⟩ = some (.int .i64 K) ∧ w.cell? ⟨p, 7, none⟩ = some (.int .i64 Bt) ∧ w.cell? ⟨p, 8, none⟩ = some (.bool true) ∧ w.cell? ⟨p, 9, none⟩ = some (.int .i64 0) ∧ w.cell? ⟨p, 10, none⟩ = some (.string ⟨#[]⟩) :=
  ⟨cellV h rfl, cellV h rfl, cellV h rfl, cellV h rfl, cellV h rfl, cellV h rfl, cellV h rfl, cellV h rfl, cellV h rfl, cellV h rfl, cellV h rfl⟩
theorem neqHello (w : World) : (binOp BinOp.neq 20 (.iface 70 (.agg #[.int .i64 1, .int .i64 1])) (.iface 70 (.agg #[.int .i64 1, .int .i64 1]))).run Tryz.prog w = .ok (.bool false) w := by kernel_rfl
set_option maxHeartbeats 6400000 in
set_option maxRecDepth 100000 in
theorem workerOnce_any (times : Int) (text : ByteArray) (k0 b0 : Int) (w : World) (ht : text.size ≤ 9223372036854775807) : Calls Tryz.prog 10 #[.int .i64 times, .string text, .int .i64 k0, .int .i64 b0] w fun e w' => e = .returned (.bool true) ∧ Below w.heap.size w w' := by
  by_cases h40 : (40 : Int) < (text.size : Int)
  · go_enter Tryz.func10, Tryz.ntmps10
    go_wp2_with (first | (go_at_call 12; refine (awake21_any _).mono ?_; rintro e wH ⟨rfl, hbH⟩) | fail)
    go_ret
    exact ⟨rfl, hbH⟩
  have lk := low_bd k0 5 (by omega)
  have lb := low_bd b0 5 (by omega)
  have ln := low_bd times 9 (by omega)
  have CLK := Lib.hid (fun w' => low_any k0 5 (by omega) (by omega) w')
  have CLB := Lib.hid (fun w' => low_any b0 5 (by omega) (by omega) w')
  have CLN := Lib.hid (fun w' => low_any times 9 (by omega) (by omega) w')
  obtain ⟨K, hK⟩ : ∃ x, lowV k0 5 = x := ⟨_, rfl⟩
  obtain ⟨lbt, hlb⟩ : ∃ x, lowV b0 5 = x := ⟨_, rfl⟩
  obtain ⟨lnt, hln⟩ : ∃ x, lowV times 9 = x := ⟨_, rfl⟩
  rw [hK] at CLK lk
  rw [hlb] at CLB lb
  rw [hln] at CLN ln
  obtain ⟨Bt, hBt⟩ : ∃ x, 1 + lbt = x := ⟨_, rfl⟩
  obtain ⟨n, hn⟩ : ∃ n : Nat, 1 + lnt = (n : Int) := ⟨(1 + lnt).toNat, by omega⟩
  have e1 : IntKind.i64.wrap (1 + lbt) = Bt := by rw [IntKind.wrap_i64]; omega
  have e2 : IntKind.i64.wrap (1 + lnt) = (n : Int) := by rw [IntKind.wrap_i64]; omega
  have hB5 := Lib.hid (show 1 ≤ Bt ∧ Bt ≤ 5 by omega)
  have hn1 := Lib.hid (show 1 ≤ n by omega)
  have hn9 : n ≤ 9 := by omega
  have hT := Lib.hid (show text.size ≤ 40 by omega)
  obtain ⟨z, hz⟩ : ∃ z, mayAsk (askO text K Bt) = z := ⟨_, rfl⟩
  have HZ := Lib.hid hz
  have W0 := Lib.hid (wfI_of (x := 0) (by decide) (by decide))
  clear hK hlb hln hBt hn lk lb ln hz ht
  have b1 := below_one w (.cells #[.string ⟨#[97]⟩, .string ⟨#[97, 98]⟩, .string ⟨#[97, 98, 99]⟩, .string ⟨#[98]⟩, .string ⟨#[98, 195, 169]⟩, .string ⟨#[195, 169]⟩] 9)
  have b2 := below_one (w.alloc (.cells #[.string ⟨#[97]⟩, .string ⟨#[97, 98]⟩, .string ⟨#[97, 98, 99]⟩, .string ⟨#[98]⟩, .string ⟨#[98, 195, 169]⟩, .string ⟨#[195, 169]⟩] 9)) (.cells #[.slice (some ⟨w.heap.size, 0, none⟩) 6 6, .slice none 0 0, .int .i64 1, .int .i64 1, .int .i64 1, .int .i64 2, .int .i64 5, .int .i64 5, .int .i64 1, .int .i64 1, .int .i64 0, .int .i64 8] 25)
  have B2 := Lib.hid (b1.trans (b2.mono b1.size))
  have CN := Lib.hid (show Calls Tryz.prog 13 #[.agg #[.slice (some ⟨w.heap.size, 0, none⟩) 6 6, .slice none 0 0, .int .i64 1, .int .i64 1, .int .i64 1, .int .i64 2, .int .i64 5, .int .i64 5, .int .i64 1, .int .i64 1, .int .i64 0, .int .i64 8], .int .i64 1] ((w.alloc (.cells #[.string ⟨#[97]⟩, .string ⟨#[97, 98]⟩, .string ⟨#[97, 98, 99]⟩, .string ⟨#[98]⟩, .string ⟨#[98, 195, 169]⟩, .string ⟨#[195, 169]⟩] 9)).alloc (.cells #[.slice (some ⟨w.heap.size, 0, none⟩) 6 6, .slice none 0 0, .int .i64 1, .int .i64 1, .int .i64 1, .int .i64 2, .int .i64 5, .int .i64 5, .int .i64 1, .int .i64 1, .int .i64 0, .int .i64 8] 25)) fun e w' => ∃ b d f sh, e = .returned (.tuple #[.pointer (some ⟨b, 0, none⟩), .int .i64 0]) ∧ NewF (cfgO w.heap.size) [0] f ∧ LoadR f sh 6 ∧ WkF w b d ⟨1, f, 1, true, 1, 0, [], sh⟩ w' from fNew (cfgO w.heap.size) 1 1 1 [0] _ B2.out (cfgO_ok w) (may_cfgO _) rfl rfl (by decide) (show (1 : Int) ≤ 1 by decide) keepO)
  clear b1 b2
  go_enter Tryz.func10, Tryz.ntmps10
  go_wp2_with fail
  with_reducible refine CN.out.mono ?_
  rintro e w3 ⟨b, d, f, sh, rfl, hF, hR, hf⟩
  have F3 := Lib.hid hf
  have LD0 := Lib.hid (show ∃ ld g, sh 0 = some ld ∧ ld.g = some g from by
    obtain ⟨i, hi⟩ : ∃ i, f 0 = some i := Option.isSome_iff_exists.1 (hF.all 0 (by simp))
    obtain ⟨s, hs, hsK, ho, hss⟩ := hF.sub 0 i hi
    obtain rfl : s = 0 := by omega
    obtain ⟨ld, hld, hl⟩ := loadR_at hR (by omega) (by omega) hi
    unfold LdOf at hl
    rw [hss, decO] at hl
    obtain ⟨⟨g, hg⟩, -⟩ := hl
    exact ⟨ld, g, hld, hg⟩)
  clear hF hR hf CN B2
  go_upto_region 8 with (first | (go_at_call 41; (with_reducible refine (CLK.out _).mono ?_); rintro e w' ⟨rfl, rfl⟩) | (go_at_call 41; (with_reducible refine (CLB.out _).mono ?_); rintro e w' ⟨rfl, rfl⟩) | fail)
  have K4 := Lib.hid (F3.out.beside (.cells #[.int .i64 0, .int .i64 3, .int .i64 0, .int .i64 0, .int .i64 1, .string text, .int .i64 K, .int .i64 Bt, .bool true, .int .i64 0, .string ⟨#[]⟩] 41))
  obtain ⟨w4, hw4⟩ : ∃ w4, w3.alloc (.cells #[.int .i64 0, .int .i64 3, .int .i64 0, .int .i64 0, .int .i64 1, .string text, .int .i64 K, .int .i64 Bt, .bool true, .int .i64 0, .string ⟨#[]⟩] 41) = w4 := ⟨_, rfl⟩
  obtain ⟨p, hp⟩ : ∃ p, w3.heap.size = p := ⟨_, rfl⟩
  rw [hw4, hp] at K4
  try rw [hw4]
  try rw [hp]
  have CG := Lib.hid (kTakeGrant (s' := stO f sh (askO text K Bt) z 0) 1 1 1 w4 K4.out (by cases z <;> rfl))
  clear hw4 hp e1 CLK CLB F3
  go_wp2_with fail
  with_reducible refine CG.out.mono ?_
  rintro e w5 ⟨rfl, hk⟩
  have K5 := Lib.hid hk
  clear hk CG K4
  go_wp2_with (first | (go_at_call 41; (with_reducible refine (CLN.out _).mono ?_); rintro e w' ⟨rfl, rfl⟩) | fail)
  clear e2 CLN
  go_loopw [14] (fun iv wr => ∃ j : Nat, j ≤ n ∧ iv = .int .i64 j ∧ Hid (WkK w b d p (.cells #[.int .i64 0, .int .i64 3, .int .i64 0, .int .i64 0, .int .i64 1, .string text, .int .i64 K, .int .i64 Bt, .bool true, .int .i64 0, .string ⟨#[]⟩] 41) (stO f sh (askO text K Bt) z j) wr)) (fun iv _ => n - (intOf iv).toNat)
  case atStart => exact ⟨0, by omega, rfl, K5⟩
  case round =>
    clear K5
    obtain ⟨j, hj, rfl, hW⟩ := hrel
    by_cases hlt : j < n
    · obtain ⟨c0, c1, c2, c3, c4, c5, c6, c7, c8, c9, c10⟩ := aCells hW.out.obj
      have CT := Lib.hid (show Calls Tryz.prog 33 #[.pointer (some ⟨b, 0, none⟩), .iface 41 (.agg #[.int .i64 0, .int .i64 3, .int .i64 0, .int .i64 0, .int .i64 1, .string text, .int .i64 K, .int .i64 Bt, .bool true, .int .i64 0, .string ⟨#[]⟩])] wr fun e w' => e = .returned (.tuple #[]) ∧ WkK w b d p (.cells #[.int .i64 0, .int .i64 3, .int .i64 0, .int .i64 0, .int .i64 1, .string text, .int .i64 K, .int .i64 Bt, .bool true, .int .i64 0, .string ⟨#[]⟩] 41) (stO f sh (askO text K Bt) z (j + 1)) w' from kTakeAsk (askO text K Bt) wr hW.out W0.out ⟨by show text.size ≤ 1100; have := hT.out; omega, by show 0 ≤ 1100; omega⟩ (takeOnce HZ.out j LD0.out))
      go_wp2_with fail
      with_reducible refine CT.out.mono ?_
      rintro e w6 ⟨rfl, hk⟩
      have K6 := Lib.hid hk
      clear hk CT hW c0 c1 c2 c3 c4 c5 c6 c7 c8 c9 c10
      go_wp2_with fail
      go_roundw
      case rel => exact ⟨j + 1, by omega, by go_num, K6⟩
      case measure => simp [intOf] <;> omega
    · obtain rfl : j = n := by omega
      have dn : decide (0 < j) = true := decide_eq_true hn1.out
      have nh := fun w0 => neqHello w0
      cases z with
      | false =>
        have CA := Lib.hid (fWaiting [] wr hW.out.fine rfl)
        go_wp2_with fail
        with_reducible refine CA.out.mono ?_
        rintro e w6 ⟨a6, c6, rfl, -, hb⟩
        have F6 := Lib.hid (hW.out.fine.more hb)
        have CW1 := Lib.hid (fWake_hello w6 F6.out rfl (Or.inr rfl))
        clear hb CA dn
        have t1 := fun w0 => taHelloReply 1 1 w0
        go_wp2_with fail
        with_reducible refine CW1.out.mono ?_
        rintro e w7 ⟨⟨p1, rfl, hp1, hl1⟩, hb⟩
        have L7 := Lib.hid hl1
        have F7 := Lib.hid (F6.out.more hb)
        have CW2 := Lib.hid (fWake_hello w7 F7.out rfl (Or.inr rfl))
        clear hp1 hl1 hb CW1
        go_wp2_with fail
        with_reducible refine CW2.out.mono ?_
        rintro e w8 ⟨⟨p2, rfl, hp2, hl2⟩, hb⟩
        have F8 := Lib.hid (F7.out.more hb)
        have L8 := (hb.block p1 (Array.getElem?_eq_some_iff.1 L7.out).1).trans L7.out
        have x1 : w8.cell? ⟨p1, 1, none⟩ = some (.iface 70 (.agg #[.int .i64 1, .int .i64 1])) := cellV L8 rfl
        have y1 : w8.cell? ⟨p2, 1, none⟩ = some (.iface 70 (.agg #[.int .i64 1, .int .i64 1])) := cellV hl2 rfl
        clear hp2 hl2 hb CW2 L8
        have b9 := below_one w8 (.cells #[.int .i64 0, .int .i64 0, .int .i64 0, .int .i64 0, .int .i64 0, .int .i64 0, .slice none 0 0, .bool false] 77)
        go_wp2_with (first | (go_at_call 12; refine (awake21_any _).mono ?_; rintro e wH ⟨rfl, hbH⟩) | fail)
        go_ret
        exact ⟨rfl, F8.out.bel.trans ((b9.trans (hbH.mono b9.size)).mono F8.out.bel.size)⟩
      | true =>
        have QN := Lib.hid (show (stO f sh (askO text K Bt) true j).q = [askO text K Bt] from by
          show (if (true && decide (0 < j)) = true then [askO text K Bt] else []) = _
          rw [dn]; rfl)
        have CA := Lib.hid (fWaiting [askO text K Bt] wr hW.out.fine QN.out)
        unfold RetA at CA
        obtain ⟨ld, g, hl0, hg0⟩ := LD0.out
        obtain ⟨Fl, hF⟩ : ∃ F, restK true (0, ⟨#[]⟩) (matchK ld.ts text K) = F := ⟨_, rfl⟩
        obtain ⟨m, hm⟩ : ∃ m, cntK Bt Fl.length = m := ⟨_, rfl⟩
        obtain ⟨bz, hbz⟩ : ∃ z, decide (m = Fl.length) = z := ⟨_, rfl⟩
        have HM := Lib.hid (show (m : Int) ≤ Bt ∧ (m = 0 → bz = true) from by
          have h5 := hB5.out
          unfold cntK at hm
          refine ⟨by omega, fun h0 => ?_⟩
          rw [← hbz]
          exact decide_eq_true (by omega))
        have CW := Lib.hid (fun (w' : World) (hk : WkK w b d p (.cells #[.int .i64 0, .int .i64 3, .int .i64 0, .int .i64 0, .int .i64 1, .string text, .int .i64 K, .int .i64 Bt, .bool true, .int .i64 0, .string ⟨#[]⟩] 41) (stO f sh (askO text K Bt) true j) w') => kWake_reply (askO text K Bt) ld Fl (Fl.take m) m bz w' hk rfl rfl QN.out hl0 hF hm rfl hbz)
        clear hl0 hg0 hF hm hbz dn
        go_wp2_with fail
        with_reducible refine CA.out.mono ?_
        rintro e w6 ⟨a6, c6, rfl, -, hb⟩
        have K6 := Lib.hid (hW.out.more hb)
        have CW1 := Lib.hid (CW.out w6 K6.out)
        clear hb CA CW
        go_wp2_with fail
        with_reducible refine CW1.out.mono ?_
        rintro e w7 ⟨ia, p1, rfl, hp1, hl1, -, -, hk7⟩
        have L7 := Lib.hid hl1
        have K7 := Lib.hid hk7
        have CW2 := Lib.hid (fWake_hello w7 K7.out.fine rfl (Or.inr rfl))
        clear hp1 hl1 hk7 CW1
        go_wp2_with fail
        with_reducible refine CW2.out.mono ?_
        rintro e w8 ⟨⟨p2, rfl, hp2, hl2⟩, hb⟩
        have K8 := Lib.hid (K7.out.more hb)
        have F8 := Lib.hid K8.out.fine
        have L8 := (hb.block p1 (Array.getElem?_eq_some_iff.1 L7.out).1).trans L7.out
        have x1 : w8.cell? ⟨p1, 1, none⟩ = some (.iface 77 (.agg #[.int .i64 0, .int .i64 3, .int .i64 0, .int .i64 0, .int .i64 1, .int .i64 1, .slice ia m m, .bool bz])) := cellV L8 rfl
        have y1 : w8.cell? ⟨p2, 1, none⟩ = some (.iface 70 (.agg #[.int .i64 1, .int .i64 1])) := cellV hl2 rfl
        have t1 := fun w0 => (show (Instr.typeAssert (.iface 77 (.agg #[.int .i64 0, .int .i64 3, .int .i64 0, .int .i64 0, .int .i64 1, .int .i64 1, .slice ia m m, .bool bz])) 20 77 true).run Tryz.prog w0 = .ok (.tuple #[.agg #[.int .i64 0, .int .i64 3, .int .i64 0, .int .i64 0, .int .i64 1, .int .i64 1, .slice ia m m, .bool bz], .bool true]) w0 from taReplyReply ⟨0, 3, 0, 0, 1, 1, ia, m, m, Fl.take m, bz⟩ w0)
        obtain ⟨-, -, -, -, -, -, -, hc7, -, -, -⟩ := aCells ((below_one w8 (.cells #[.int .i64 0, .int .i64 3, .int .i64 0, .int .i64 0, .int .i64 1, .int .i64 1, .slice ia m m, .bool bz] 77)).block p (Array.getElem?_eq_some_iff.1 K8.out.obj).1 |>.trans K8.out.obj)
        obtain ⟨hm1, hm2⟩ := HM.out
        clear hp2 hl2 hb CW2 L8
        by_cases h0 : m = 0
        · have hz0 := hm2 h0
          subst hz0
          subst h0
          clear hm2
          have b9 := below_one w8 (.cells #[.int .i64 0, .int .i64 3, .int .i64 0, .int .i64 0, .int .i64 1, .int .i64 1, .slice ia 0 0, .bool true] 77)
          go_wp2_with (first | (go_at_call 12; refine (awake21_any _).mono ?_; rintro e wH ⟨rfl, hbH⟩) | fail)
          go_ret
          exact ⟨rfl, F8.out.bel.trans ((b9.trans (hbH.mono b9.size)).mono F8.out.bel.size)⟩
        · have h1 : (0 : Int) < (m : Int) := by omega
          clear hm2 h0
          have b9 := below_one w8 (.cells #[.int .i64 0, .int .i64 3, .int .i64 0, .int .i64 0, .int .i64 1, .int .i64 1, .slice ia m m, .bool bz] 77)
          go_wp2_with (first | (go_at_call 12; refine (awake21_any _).mono ?_; rintro e wH ⟨rfl, hbH⟩) | fail)
          go_ret
          exact ⟨rfl, F8.out.bel.trans ((b9.trans (hbH.mono b9.size)).mono F8.out.bel.size)⟩
open Go.ChangeMaps (open_string) in
theorem workerOnce_walk {H : Type} {enc : TypeId × Value → H} (W : World) (base : Nat) (v0 v1 v2 v3 : Value) (d0 d1 d2 d3 : DataW H) (p0 p1 p2 p3 : List MemPlace)
    (h0 : DataW.Trod enc Tryz.prog W 0 (fun _ => true) true 3 v0 d0 p0) (h1 : DataW.Trod enc Tryz.prog W 0 (fun _ => true) true 9 v1 d1 p1) (h2 : DataW.Trod enc Tryz.prog W 0 (fun _ => true) true 3 v2 d2 p2) (h3 : DataW.Trod enc Tryz.prog W 0 (fun _ => true) true 3 v3 d3 p3) (o0 : Value.okWide Tryz.prog W .any base 3 v0) (o1 : Value.okWide Tryz.prog W .any base 9 v1) (o2 : Value.okWide Tryz.prog W .any base 3 v2) (o3 : Value.okWide Tryz.prog W .any base 3 v3) :
    Calls Tryz.prog 10 #[v0, v1, v2, v3] W fun e w' => e = .returned (.bool true) ∧ RowKit.Below W.heap.size W w' := by
  obtain ⟨x0, rfl, rfl, rfl, b0⟩ := open_int Tryz.underlying3 o0 h0
  obtain ⟨s1, rfl, rfl, rfl, b1⟩ := open_string Tryz.underlying9 o1 h1
  obtain ⟨x2, rfl, rfl, rfl, b2⟩ := open_int Tryz.underlying3 o2 h2
  obtain ⟨x3, rfl, rfl, rfl, b3⟩ := open_int Tryz.underlying3 o3 h3
  exact workerOnce_any x0 s1 x2 x3 W (by unfold maxLen at b1; exact b1)
end Go.Proofs.YtgnaiahnednllaaGreat
