/- texts joined -/
import Derived.WalkKit
import Derived.ProofKit
import Derived.OpenShut
import Derived.Lib.SmallJoins
import Derived.Lib.Hide
import Derived.Test.YtgnaiahnednllaaGreatChecked
import Derived.Maps.OwnSet
import Derived.WalkArith
import Derived.Carry
import Derived.OwnWalk
import Derived.Laws.AppendOwnNone
import Derived.Lib.SliceRun
import Derived.Deep.RegionLaw
import Derived.Outline
import Derived.WalkLawsBesides
import Derived.WalkSpells
import Derived.Deep.QuietTactic
import Derived.BigQuiet
import Derived.Deep.DeepCutAuto
import Derived.Deep.RegionHeld3
import Derived.Deep.AppendLies
import Derived.Laws.ResultCell
import Derived.Laws.BitsAllLaws
import Derived.Laws.DeepBits32
import Derived.Sort.Walk0
import Derived.Laws.RangeAny
import Derived.Lib.DecodeN
import Derived.Lib.OthersKept
import Derived.Deep.Slices
import Derived.SliceStrings
import Derived.Deep.RegionWith
import Derived.Laws.AppendOwn
import Derived.StringKeys
import Derived.Laws.OwnMore
import Derived.DeepKeys4
import Derived.Lib.AppendStr
import Derived.Lib.Strings
import Derived.Lib.ConvBytes
import Derived.Laws.BytesArg
import Derived.Lib.SlBytesRow
import Derived.Shelf.Strings.Builder1
import Derived.Shelf.Strings.BuilderK
import Derived.Shelf.Strings.BuilderRune
import Derived.Shelf.Utf8.AppendRune
import Derived.Lib.RuneBytes
import Derived.BigRegion
import Derived.Deep.CutRange
import Derived.Deep.CutBlock
import Derived.RangeFuncNested
import Derived.RangeFuncBound
import Derived.RangeFuncCalls
import Derived.RangeFuncLeaves
import Derived.RangeFuncBox
import Derived.Shelf.Abstract
import Derived.Shelf.RegionOpen
import Derived.OwnWalkIn
import Derived.TacticsInMore
import Derived.LoopNIn
import Derived.LoopIn
import Derived.Deep.LoopGhost
import Derived.Sort.Grow
import Derived.Shelf.SlSortCmp.NoneTotal
import Derived.Ground.SlsfProg
import Derived.Sort.OwnSorted
import Derived.Laws.Rows
import Derived.ArgAppend
import Derived.Test.YtgnaiahnednllaaGreatPkXF
namespace Go.Proofs.YtgnaiahnednllaaGreat
open Go.RowKit
set_option linter.unusedVariables false
set_option maxRecDepth 20000
theorem field_ld (gp : Option Addr) (ge : Int) (w : World) : (Instr.field 132 (.agg #[.pointer gp, .int .i64 ge]) 0).run Tryz.prog w = .ok (.pointer gp) w := by rfl
theorem granted_no {b d : Nat} {id wl ep : Int} {up : Bool} {qp mp : Option Nat} (a l e : Int) (w : World) (hx : WBox w b d id up wl ep qp mp) (hn : (a == id && l == wl && decide (ep < e)) = false) : Calls Tryz.prog 122 #[.pointer (some ⟨b, 0, none⟩), .agg #[.int .i64 a, .int .i64 l, .int .i64 e]] w fun r w' => r = .returned (.tuple #[]) ∧ Below w.heap.size w w' := by
  have BX := Lib.hid (below_one w (.cells #[.int .i64 a, .int .i64 l, .int .i64 e] 65))
  have hi := GrantIn_new w a l e w.heap.size 65 (0, 0) rfl
  obtain ⟨w1, hw1⟩ : ∃ w1, w.alloc (.cells #[.int .i64 a, .int .i64 l, .int .i64 e] 65) = w1 := ⟨_, rfl⟩
  obtain ⟨p, hp⟩ : ∃ p, w.heap.size = p := ⟨_, rfl⟩
  rw [hw1] at BX hi
  rw [hp] at hi
  have X1 := hx.below BX.out
  have c0 := X1.c0
  have c3 := X1.c3
  have c4 := X1.c4
  obtain ⟨g0, g1, g2⟩ := hi
  have HP := Lib.hid hp
  clear hx X1
  go_enter Tryz.func122, Tryz.ntmps122
  go_upto_region 1 with fail
  try rw [hw1]
  try rw [hp]
  clear hw1 hp
  go_cut [28] from 4 to 28 (fun u wc => u = .bool false ∧ Hid (Below w1.heap.size w1 wc))
  case first =>
    cases d1 : (a == id) with
    | false =>
      clear hn
      go_quiet (fail)
      go_wp2_with fail
      go_meet
      exact ⟨rfl, Lib.hid (below_drewN _ _)⟩
    | true =>
      cases d2 : (l == wl) with
      | false =>
        clear hn
        go_quiet (fail)
        go_wp2_with fail
        go_meet
        exact ⟨rfl, Lib.hid (below_drewN _ _)⟩
      | true =>
        rw [d1, d2, Bool.true_and, Bool.true_and] at hn
        go_quiet (fail)
        go_wp2_with fail
        go_meet
        exact ⟨rfl, Lib.hid (below_drewN _ _)⟩
  case rest =>
    obtain ⟨rfl, hB⟩ := hcut
    go_wp2_with fail
    go_end0
    exact ⟨rfl, BX.out.trans (hB.out.mono BX.out.size)⟩
theorem granted_yes {b d : Nat} {id wl ep : Int} {up : Bool} {qp mp : Option Nat} (a l e : Int) (w : World) (hx : WBox w b d id up wl ep qp mp) (d1 : (a == id) = true) (d2 : (l == wl) = true) (hn : decide (ep < e) = true) : Calls Tryz.prog 122 #[.pointer (some ⟨b, 0, none⟩), .agg #[.int .i64 a, .int .i64 l, .int .i64 e]] w fun r w' => r = .returned (.tuple #[]) ∧ WBox w' b d id up wl e qp mp ∧ Turn (fun k => k = b) w w' := by
  have BX := Lib.hid (below_one w (.cells #[.int .i64 a, .int .i64 l, .int .i64 e] 65))
  have hi := GrantIn_new w a l e w.heap.size 65 (0, 0) rfl
  obtain ⟨w1, hw1⟩ : ∃ w1, w.alloc (.cells #[.int .i64 a, .int .i64 l, .int .i64 e] 65) = w1 := ⟨_, rfl⟩
  obtain ⟨p, hp⟩ : ∃ p, w.heap.size = p := ⟨_, rfl⟩
  rw [hw1] at BX hi
  rw [hp] at hi
  have X1 := hx.below BX.out
  have XX := Lib.hid X1
  have GI := Lib.hid hi
  have c0 := X1.c0
  have c3 := X1.c3
  have c4 := X1.c4
  obtain ⟨g0, g1, g2⟩ := hi
  have HP := Lib.hid hp
  clear hx X1
  go_enter Tryz.func122, Tryz.ntmps122
  go_upto_region 1 with fail
  try rw [hw1]
  try rw [hp]
  clear hw1 hp
  go_cut [28] from 4 to 28 (fun u wc => u = .bool true ∧ Hid (Below w1.heap.size w1 wc))
  case first =>
    go_quiet (fail)
    go_wp2_with fail
    go_meet
    exact ⟨rfl, Lib.hid (below_drewN _ _)⟩
  case rest =>
    obtain ⟨rfl, hB⟩ := hcut
    clear c0 c3 c4 g0 g1 g2
    have X2 := XX.out.below hB.out
    have c4 := X2.c4
    have f4 := X2.fz 4
    obtain ⟨g0, g1, g2⟩ := GI.out.below hB.out
    have FIN := Lib.hid (show WBox (wc.setCell ⟨b, 4, none⟩ (.int .i64 e)) b d id up wl e qp mp ∧ Turn (fun k => k = b) w (wc.setCell ⟨b, 4, none⟩ (.int .i64 e)) from ⟨X2.set 4 _ rfl, (Turn.of_below (BX.out.trans (hB.out.mono BX.out.size))).trans (Turn.setCell rfl)⟩)
    clear X2
    go_wp2_with fail
    go_end0
    exact ⟨rfl, FIN.out⟩
set_option maxHeartbeats 1600000 in
theorem asked_noA {b d mm nm : Nat} {id wl ep : Int} {qp : Option Nat} {sh : Int → Option LD} (a : AskP) (gp : Option Addr) (ge : Int) (w : World) (hx : WBox w b d id true wl ep qp (some mm)) (hm : MapV w mm nm (lV sh)) (hwf : wfI a.shard) (hl : (lV sh a.shard).getD ldZ = .agg #[.pointer gp, .int .i64 ge]) (hsm : a.text.size ≤ 1100 ∧ a.aw.size ≤ 1100) (hmay : mayAsk a = false) :
    Calls Tryz.prog 123 #[.pointer (some ⟨b, 0, none⟩), .agg #[.int .i64 a.slot, .int .i64 a.query, .int .i64 a.shard, .int .i64 a.seq, .int .i64 a.epoch, .string a.text, .int .i64 a.k, .int .i64 a.batch, .bool a.first, .int .i64 a.ad, .string a.aw]] w fun e w' => e = .returned (.tuple #[]) ∧ Below w.heap.size w w' := by
  have BX := Lib.hid (below_one w (.cells #[.int .i64 a.slot, .int .i64 a.query, .int .i64 a.shard, .int .i64 a.seq, .int .i64 a.epoch, .string a.text, .int .i64 a.k, .int .i64 a.batch, .bool a.first, .int .i64 a.ad, .string a.aw] 41))
  have IN := Lib.hid (MAskIn_new w a w.heap.size 41 (0, 0) rfl)
  obtain ⟨w1, hw1⟩ : ∃ w1, w.alloc (.cells #[.int .i64 a.slot, .int .i64 a.query, .int .i64 a.shard, .int .i64 a.seq, .int .i64 a.epoch, .string a.text, .int .i64 a.k, .int .i64 a.batch, .bool a.first, .int .i64 a.ad, .string a.aw] 41) = w1 := ⟨_, rfl⟩
  obtain ⟨p, hp⟩ : ∃ p, w.heap.size = p := ⟨_, rfl⟩
  rw [hw1] at BX IN
  rw [hp] at IN
  have X1 := hx.below BX.out
  have M1 := hm.below BX.out
  have SB := Lib.hid (show ∀ w', Below w1.heap.size w1 w' → ((Below w1.heap.size w1 w' ∧ (w'.cell? ⟨p, 0, none⟩ = some (.int .i64 a.slot) ∧ w'.cell? ⟨p, 1, none⟩ = some (.int .i64 a.query) ∧ w'.cell? ⟨p, 2, none⟩ = some (.int .i64 a.shard) ∧ w'.cell? ⟨p, 3, none⟩ = some (.int .i64 a.seq) ∧ w'.cell? ⟨p, 4, none⟩ = some (.int .i64 a.epoch) ∧ w'.cell? ⟨p, 5, none⟩ = some (.string a.text) ∧ w'.cell? ⟨p, 6, none⟩ = some (.int .i64 a.k) ∧ w'.cell? ⟨p, 7, none⟩ = some (.int .i64 a.batch) ∧ w'.cell? ⟨p, 8, none⟩ = some (.bool a.first) ∧ w'.cell? ⟨p, 9, none⟩ = some (.int .i64 a.ad) ∧ w'.cell? ⟨p, 10, none⟩ = some (.string a.aw))) ∧ (w'.cell? ⟨b, 4, none⟩ = some (.int .i64 ep) ∧ w'.cell? ⟨b, 6, none⟩ = some (.map (some mm))) ∧ (Instr.lookup 93 (.map (some mm)) (.int .i64 a.shard) false).run Tryz.prog w' = .ok (.agg #[.pointer gp, .int .i64 ge]) w') from fun w' hb =>
    ⟨⟨hb, IN.out.below hb⟩, ⟨(X1.below hb).c4, (X1.below hb).c6⟩, by rw [(M1.below hb).get_run mapTl a.shard hwf, hl]⟩)
  have CM := Lib.hid (fun (w' : World) (hb : Below w1.heap.size w1 w') => (show Calls Tryz.prog 32 #[.iface 41 (.agg #[.int .i64 a.slot, .int .i64 a.query, .int .i64 a.shard, .int .i64 a.seq, .int .i64 a.epoch, .string a.text, .int .i64 a.k, .int .i64 a.batch, .bool a.first, .int .i64 a.ad, .string a.aw])] w' fun e w'' => e = .returned (.bool (mayAsk a)) ∧ Below w'.heap.size w' w'' from mayOf_all (.ask a) w' trivial hsm))
  have HP := Lib.hid hp
  rw [hmay] at CM
  clear hx hm hl hsm X1 M1
  go_enter Tryz.func123, Tryz.ntmps123
  go_upto_region 1 with fail
  try rw [hw1]
  try rw [hp]
  clear hw1 hp
  go_cut [32] from 4 to 32 (fun u wc => u = .bool true ∧ Hid (Below w1.heap.size w1 wc))
  case first =>
    have hS0 := SB.out w1.drew ((Below.refl _ _).drew)
    refine wp_region_held_drew (S := (fun w' => (Below w1.heap.size w1 w' ∧ (w'.cell? ⟨p, 0, none⟩ = some (.int .i64 a.slot) ∧ w'.cell? ⟨p, 1, none⟩ = some (.int .i64 a.query) ∧ w'.cell? ⟨p, 2, none⟩ = some (.int .i64 a.shard) ∧ w'.cell? ⟨p, 3, none⟩ = some (.int .i64 a.seq) ∧ w'.cell? ⟨p, 4, none⟩ = some (.int .i64 a.epoch) ∧ w'.cell? ⟨p, 5, none⟩ = some (.string a.text) ∧ w'.cell? ⟨p, 6, none⟩ = some (.int .i64 a.k) ∧ w'.cell? ⟨p, 7, none⟩ = some (.int .i64 a.batch) ∧ w'.cell? ⟨p, 8, none⟩ = some (.bool a.first) ∧ w'.cell? ⟨p, 9, none⟩ = some (.int .i64 a.ad) ∧ w'.cell? ⟨p, 10, none⟩ = some (.string a.aw))) ∧ (w'.cell? ⟨b, 4, none⟩ = some (.int .i64 ep) ∧ w'.cell? ⟨b, 6, none⟩ = some (.map (some mm))) ∧ (Instr.lookup 93 (.map (some mm)) (.int .i64 a.shard) false).run Tryz.prog w' = .ok (.agg #[.pointer gp, .int .i64 ge]) w')) (by kernel_rfl) hS0 (fun hHeld0 => ?_)
    clear hS0
    generalize w1.drew = X0 at hHeld0 ⊢
    refine wpAnyH_take (i := 0) (oi := { dst := some 4, op := Op.load 41 (Operand.tmp 3), type := 41, pos := "worker.go:177", after := #[], guard := none }) (v := ?vz1) rfl (by kernel_rfl) (by kernel_rfl) (by kernel_rfl) (fun _ _ _ h => h) (Or.inl ⟨by rfl, ?hyz1⟩) (by assumption) ?restz1
    case hyz1 => (intro w hSw; (try dsimp only at hSw); go_simp; (try with_reducible rfl))
    try simp only [Act.put, List.setIfInBounds_toArray, List.set_cons_zero, List.set_cons_succ]
    refine wpAnyH_take (i := 1) (oi := { dst := some 5, op := Op.makeInterface 41 (Operand.tmp 4), type := 20, pos := "worker.go:177", after := #[{ on := 0, ground := Ground.data }], guard := none }) (v := ?vz2) rfl (by kernel_rfl) (by kernel_rfl) (by kernel_rfl) (fun _ _ _ h => h) (Or.inl ⟨by rfl, ?hyz2⟩) (by assumption) ?restz2
    case hyz2 => (intro w hSw; (try dsimp only at hSw); go_simp; (try with_reducible rfl))
    try simp only [Act.put, List.setIfInBounds_toArray, List.set_cons_zero, List.set_cons_succ]
    refine wpAnyH_ready (rs := [2]) (by kernel_rfl) (by simp) ?_
    refine AllReadyH.cons (o := { dst := some 6, op := Op.call { callee := Callee.value (Operand.func 32), args := #[Operand.tmp 5], argTypes := #[20] }, type := 4, pos := "worker.go:177", after := #[{ on := 1, ground := Ground.data }], guard := none }) rfl (fun K hK => ?_) AllReadyH.nil
    go_simp
    go_at_call 32
    with_reducible refine (CM.out _ hHeld0.1.1).mono ?_
    rintro e X1 ⟨rfl, hb⟩
    go_wp2_with fail
    have B1 := hHeld0.1.1.trans (hb.mono hHeld0.1.1.size)
    refine hK.out _ _ (SB.out _ B1) (fun hHeld1 => ?_)
    clear hb hK K hHeld0
    try simp only [Act.put, List.setIfInBounds_toArray, List.set_cons_zero, List.set_cons_succ]
    refine wpAnyH_take (i := 3) (oi := { dst := some 7, op := Op.unOp UnOp.not 4 (Operand.tmp 6), type := 4, pos := "worker.go:177", after := #[{ on := 2, ground := Ground.data }], guard := none }) (v := ?vz3) rfl (by kernel_rfl) (by kernel_rfl) (by kernel_rfl) (fun _ _ _ h => h) (Or.inl ⟨by rfl, ?hyz3⟩) (by assumption) ?restz3
    case hyz3 => (intro w hSw; (try dsimp only at hSw); go_simp; (try with_reducible rfl))
    try simp only [Act.put, List.setIfInBounds_toArray, List.set_cons_zero, List.set_cons_succ]
    refine wpAnyH_take (i := 4) (oi := { dst := some 8, op := Op.move (Operand.tmp 7), type := 4, pos := "worker.go:177", after := #[{ on := 3, ground := Ground.data }, { on := 2, ground := Ground.chain }], guard := none }) (v := ?vz4) rfl (by kernel_rfl) (by kernel_rfl) (by kernel_rfl) (fun _ _ _ h => h) (Or.inl ⟨by rfl, ?hyz4⟩) (by assumption) ?restz4
    case hyz4 => (intro w hSw; (try dsimp only at hSw); go_simp; (try with_reducible rfl))
    try simp only [Act.put, List.setIfInBounds_toArray, List.set_cons_zero, List.set_cons_succ]
    refine wpAnyH_take (i := 5) (oi := { dst := some 9, op := Op.fieldAddr 41 (Operand.tmp 3) 4, type := 0, pos := "worker.go:177", after := #[{ on := 4, ground := Ground.guard }], guard := some (4, false) }) rfl (by kernel_rfl) (by kernel_rfl) (by kernel_rfl) (fun _ _ _ h => h) (Or.inr ⟨by rfl, rfl⟩) (by assumption) ?_
    try simp only [Act.put, List.setIfInBounds_toArray, List.set_cons_zero, List.set_cons_succ]
    refine wpAnyH_take (i := 6) (oi := { dst := some 10, op := Op.load 3 (Operand.tmp 9), type := 3, pos := "worker.go:177", after := #[{ on := 5, ground := Ground.data }, { on := 4, ground := Ground.guard }], guard := some (4, false) }) rfl (by kernel_rfl) (by kernel_rfl) (by kernel_rfl) (fun _ _ _ h => h) (Or.inr ⟨by rfl, rfl⟩) (by assumption) ?_
    try simp only [Act.put, List.setIfInBounds_toArray, List.set_cons_zero, List.set_cons_succ]
    refine wpAnyH_take (i := 7) (oi := { dst := some 11, op := Op.binOp BinOp.eql 3 (Operand.tmp 10) (Operand.const (Value.int IntKind.i64 0)) 3, type := 4, pos := "worker.go:177", after := #[{ on := 6, ground := Ground.data }, { on := 4, ground := Ground.guard }], guard := some (4, false) }) rfl (by kernel_rfl) (by kernel_rfl) (by kernel_rfl) (fun _ _ _ h => h) (Or.inr ⟨by rfl, rfl⟩) (by assumption) ?_
    try simp only [Act.put, List.setIfInBounds_toArray, List.set_cons_zero, List.set_cons_succ]
    refine wpAnyH_take (i := 8) (oi := { dst := some 12, op := Op.pick (Operand.tmp 8) (Operand.const (Value.bool true)) (Operand.tmp 11), type := 4, pos := "worker.go:177", after := #[{ on := 4, ground := Ground.data }, { on := 7, ground := Ground.data }], guard := none }) (v := ?vz8) rfl (by kernel_rfl) (by kernel_rfl) (by kernel_rfl) (fun _ _ _ h => h) (Or.inl ⟨by rfl, ?hyz8⟩) (by assumption) ?restz8
    case hyz8 => (intro w hSw; (try dsimp only at hSw); go_simp; (try with_reducible rfl))
    try simp only [Act.put, List.setIfInBounds_toArray, List.set_cons_zero, List.set_cons_succ]
    refine wpAnyH_take (i := 9) (oi := { dst := some 13, op := Op.move (Operand.tmp 12), type := 4, pos := "worker.go:177", after := #[{ on := 8, ground := Ground.data }, { on := 4, ground := Ground.chain }], guard := none }) (v := ?vz9) rfl (by kernel_rfl) (by kernel_rfl) (by kernel_rfl) (fun _ _ _ h => h) (Or.inl ⟨by rfl, ?hyz9⟩) (by assumption) ?restz9
    case hyz9 => (intro w hSw; (try dsimp only at hSw); go_simp; (try with_reducible rfl))
    try simp only [Act.put, List.setIfInBounds_toArray, List.set_cons_zero, List.set_cons_succ]
    refine wpAnyH_take (i := 10) (oi := { dst := some 14, op := Op.fieldAddr 41 (Operand.tmp 3) 4, type := 0, pos := "worker.go:177", after := #[{ on := 9, ground := Ground.guard }], guard := some (9, false) }) rfl (by kernel_rfl) (by kernel_rfl) (by kernel_rfl) (fun _ _ _ h => h) (Or.inr ⟨by rfl, rfl⟩) (by assumption) ?_
    try simp only [Act.put, List.setIfInBounds_toArray, List.set_cons_zero, List.set_cons_succ]
    refine wpAnyH_take (i := 11) (oi := { dst := some 15, op := Op.load 3 (Operand.tmp 14), type := 3, pos := "worker.go:177", after := #[{ on := 10, ground := Ground.data }, { on := 9, ground := Ground.guard }], guard := some (9, false) }) rfl (by kernel_rfl) (by kernel_rfl) (by kernel_rfl) (fun _ _ _ h => h) (Or.inr ⟨by rfl, rfl⟩) (by assumption) ?_
    try simp only [Act.put, List.setIfInBounds_toArray, List.set_cons_zero, List.set_cons_succ]
    refine wpAnyH_take (i := 12) (oi := { dst := some 16, op := Op.move (Operand.tmp 0), type := 29, pos := "worker.go:177", after := #[{ on := 9, ground := Ground.guard }], guard := some (9, false) }) rfl (by kernel_rfl) (by kernel_rfl) (by kernel_rfl) (fun _ _ _ h => h) (Or.inr ⟨by rfl, rfl⟩) (by assumption) ?_
    try simp only [Act.put, List.setIfInBounds_toArray, List.set_cons_zero, List.set_cons_succ]
    refine wpAnyH_take (i := 13) (oi := { dst := some 17, op := Op.nilCheck (Operand.tmp 16), type := 0, pos := "worker.go:177", after := #[{ on := 12, ground := Ground.data }, { on := 9, ground := Ground.guard }], guard := some (9, false) }) rfl (by kernel_rfl) (by kernel_rfl) (by kernel_rfl) (fun _ _ _ h => h) (Or.inr ⟨by rfl, rfl⟩) (by assumption) ?_
    try simp only [Act.put, List.setIfInBounds_toArray, List.set_cons_zero, List.set_cons_succ]
    refine wpAnyH_take (i := 14) (oi := { dst := some 18, op := Op.fieldAddr 95 (Operand.tmp 17) 4, type := 0, pos := "worker.go:177", after := #[{ on := 13, ground := Ground.data }, { on := 9, ground := Ground.guard }], guard := some (9, false) }) rfl (by kernel_rfl) (by kernel_rfl) (by kernel_rfl) (fun _ _ _ h => h) (Or.inr ⟨by rfl, rfl⟩) (by assumption) ?_
    try simp only [Act.put, List.setIfInBounds_toArray, List.set_cons_zero, List.set_cons_succ]
    refine wpAnyH_take (i := 15) (oi := { dst := some 19, op := Op.load 3 (Operand.tmp 18), type := 3, pos := "worker.go:177", after := #[{ on := 14, ground := Ground.data }, { on := 9, ground := Ground.guard }], guard := some (9, false) }) rfl (by kernel_rfl) (by kernel_rfl) (by kernel_rfl) (fun _ _ _ h => h) (Or.inr ⟨by rfl, rfl⟩) (by assumption) ?_
    try simp only [Act.put, List.setIfInBounds_toArray, List.set_cons_zero, List.set_cons_succ]
    refine wpAnyH_take (i := 16) (oi := { dst := some 20, op := Op.binOp BinOp.neq 3 (Operand.tmp 15) (Operand.tmp 19) 3, type := 4, pos := "worker.go:177", after := #[{ on := 11, ground := Ground.data }, { on := 15, ground := Ground.data }, { on := 9, ground := Ground.guard }], guard := some (9, false) }) rfl (by kernel_rfl) (by kernel_rfl) (by kernel_rfl) (fun _ _ _ h => h) (Or.inr ⟨by rfl, rfl⟩) (by assumption) ?_
    try simp only [Act.put, List.setIfInBounds_toArray, List.set_cons_zero, List.set_cons_succ]
    refine wpAnyH_take (i := 17) (oi := { dst := some 21, op := Op.pick (Operand.tmp 13) (Operand.const (Value.bool true)) (Operand.tmp 20), type := 4, pos := "worker.go:177", after := #[{ on := 9, ground := Ground.data }, { on := 16, ground := Ground.data }], guard := none }) (v := ?vz17) rfl (by kernel_rfl) (by kernel_rfl) (by kernel_rfl) (fun _ _ _ h => h) (Or.inl ⟨by rfl, ?hyz17⟩) (by assumption) ?restz17
    case hyz17 => (intro w hSw; (try dsimp only at hSw); go_simp; (try with_reducible rfl))
    try simp only [Act.put, List.setIfInBounds_toArray, List.set_cons_zero, List.set_cons_succ]
    refine wpAnyH_take (i := 18) (oi := { dst := some 22, op := Op.move (Operand.tmp 21), type := 4, pos := "worker.go:177", after := #[{ on := 17, ground := Ground.data }, { on := 9, ground := Ground.chain }], guard := none }) (v := ?vz18) rfl (by kernel_rfl) (by kernel_rfl) (by kernel_rfl) (fun _ _ _ h => h) (Or.inl ⟨by rfl, ?hyz18⟩) (by assumption) ?restz18
    case hyz18 => (intro w hSw; (try dsimp only at hSw); go_simp; (try with_reducible rfl))
    try simp only [Act.put, List.setIfInBounds_toArray, List.set_cons_zero, List.set_cons_succ]
    refine wpAnyH_take (i := 19) (oi := { dst := some 23, op := Op.move (Operand.tmp 0), type := 29, pos := "worker.go:177", after := #[{ on := 18, ground := Ground.guard }], guard := some (18, false) }) rfl (by kernel_rfl) (by kernel_rfl) (by kernel_rfl) (fun _ _ _ h => h) (Or.inr ⟨by rfl, rfl⟩) (by assumption) ?_
    try simp only [Act.put, List.setIfInBounds_toArray, List.set_cons_zero, List.set_cons_succ]
    refine wpAnyH_take (i := 20) (oi := { dst := some 24, op := Op.nilCheck (Operand.tmp 23), type := 0, pos := "worker.go:177", after := #[{ on := 19, ground := Ground.data }, { on := 18, ground := Ground.guard }], guard := some (18, false) }) rfl (by kernel_rfl) (by kernel_rfl) (by kernel_rfl) (fun _ _ _ h => h) (Or.inr ⟨by rfl, rfl⟩) (by assumption) ?_
    try simp only [Act.put, List.setIfInBounds_toArray, List.set_cons_zero, List.set_cons_succ]
    refine wpAnyH_take (i := 21) (oi := { dst := some 25, op := Op.fieldAddr 95 (Operand.tmp 24) 6, type := 0, pos := "worker.go:177", after := #[{ on := 20, ground := Ground.data }, { on := 18, ground := Ground.guard }], guard := some (18, false) }) rfl (by kernel_rfl) (by kernel_rfl) (by kernel_rfl) (fun _ _ _ h => h) (Or.inr ⟨by rfl, rfl⟩) (by assumption) ?_
    try simp only [Act.put, List.setIfInBounds_toArray, List.set_cons_zero, List.set_cons_succ]
    refine wpAnyH_take (i := 22) (oi := { dst := some 26, op := Op.load 93 (Operand.tmp 25), type := 93, pos := "worker.go:177", after := #[{ on := 21, ground := Ground.data }, { on := 18, ground := Ground.guard }], guard := some (18, false) }) rfl (by kernel_rfl) (by kernel_rfl) (by kernel_rfl) (fun _ _ _ h => h) (Or.inr ⟨by rfl, rfl⟩) (by assumption) ?_
    try simp only [Act.put, List.setIfInBounds_toArray, List.set_cons_zero, List.set_cons_succ]
    refine wpAnyH_take (i := 23) (oi := { dst := some 27, op := Op.fieldAddr 41 (Operand.tmp 3) 2, type := 0, pos := "worker.go:177", after := #[{ on := 18, ground := Ground.guard }], guard := some (18, false) }) rfl (by kernel_rfl) (by kernel_rfl) (by kernel_rfl) (fun _ _ _ h => h) (Or.inr ⟨by rfl, rfl⟩) (by assumption) ?_
    try simp only [Act.put, List.setIfInBounds_toArray, List.set_cons_zero, List.set_cons_succ]
    refine wpAnyH_take (i := 24) (oi := { dst := some 28, op := Op.load 3 (Operand.tmp 27), type := 3, pos := "worker.go:177", after := #[{ on := 23, ground := Ground.data }, { on := 18, ground := Ground.guard }], guard := some (18, false) }) rfl (by kernel_rfl) (by kernel_rfl) (by kernel_rfl) (fun _ _ _ h => h) (Or.inr ⟨by rfl, rfl⟩) (by assumption) ?_
    try simp only [Act.put, List.setIfInBounds_toArray, List.set_cons_zero, List.set_cons_succ]
    refine wpAnyH_take (i := 25) (oi := { dst := some 29, op := Op.lookup 93 (Operand.tmp 26) (Operand.tmp 28) false, type := 132, pos := "worker.go:177", after := #[{ on := 22, ground := Ground.data }, { on := 24, ground := Ground.data }, { on := 18, ground := Ground.guard }], guard := some (18, false) }) rfl (by kernel_rfl) (by kernel_rfl) (by kernel_rfl) (fun _ _ _ h => h) (Or.inr ⟨by rfl, rfl⟩) (by assumption) ?_
    try simp only [Act.put, List.setIfInBounds_toArray, List.set_cons_zero, List.set_cons_succ]
    refine wpAnyH_take (i := 26) (oi := { dst := some 30, op := Op.field 132 (Operand.tmp 29) 0, type := 130, pos := "worker.go:177", after := #[{ on := 25, ground := Ground.data }, { on := 18, ground := Ground.guard }], guard := some (18, false) }) rfl (by kernel_rfl) (by kernel_rfl) (by kernel_rfl) (fun _ _ _ h => h) (Or.inr ⟨by rfl, rfl⟩) (by assumption) ?_
    try simp only [Act.put, List.setIfInBounds_toArray, List.set_cons_zero, List.set_cons_succ]
    refine wpAnyH_take (i := 27) (oi := { dst := some 31, op := Op.binOp BinOp.eql 130 (Operand.tmp 30) (Operand.const (Value.pointer none)) 130, type := 4, pos := "worker.go:177", after := #[{ on := 26, ground := Ground.data }, { on := 18, ground := Ground.guard }], guard := some (18, false) }) rfl (by kernel_rfl) (by kernel_rfl) (by kernel_rfl) (fun _ _ _ h => h) (Or.inr ⟨by rfl, rfl⟩) (by assumption) ?_
    try simp only [Act.put, List.setIfInBounds_toArray, List.set_cons_zero, List.set_cons_succ]
    refine wpAnyH_take (i := 28) (oi := { dst := some 32, op := Op.pick (Operand.tmp 22) (Operand.const (Value.bool true)) (Operand.tmp 31), type := 4, pos := "worker.go:177", after := #[{ on := 18, ground := Ground.data }, { on := 27, ground := Ground.data }], guard := none }) (v := ?vz28) rfl (by kernel_rfl) (by kernel_rfl) (by kernel_rfl) (fun _ _ _ h => h) (Or.inl ⟨by rfl, ?hyz28⟩) (by assumption) ?restz28
    case hyz28 => (intro w hSw; (try dsimp only at hSw); go_simp; (try with_reducible rfl))
    try simp only [Act.put, List.setIfInBounds_toArray, List.set_cons_zero, List.set_cons_succ]
    refine wpAnyH_done (by kernel_rfl) ?_ _
    go_wp2_with fail
    go_meet
    exact ⟨rfl, Lib.hid hHeld1.1.1⟩
  case rest =>
    obtain ⟨rfl, hB⟩ := hcut
    go_wp2_with fail
    (try simp only [Exit.inBlock, Exit.then])
    refine bodyPost_ret (results_none rfl _ _ _) rfl ?_
    exact ⟨rfl, BX.out.trans (hB.out.mono BX.out.size)⟩
set_option maxHeartbeats 1600000 in
theorem asked_noB {b d mm nm : Nat} {id wl ep : Int} {qp : Option Nat} {sh : Int → Option LD} (a : AskP) (gp : Option Addr) (ge : Int) (w : World) (hx : WBox w b d id true wl ep qp (some mm)) (hm : MapV w mm nm (lV sh)) (hwf : wfI a.shard) (hl : (lV sh a.shard).getD ldZ = .agg #[.pointer gp, .int .i64 ge]) (hsm : a.text.size ≤ 1100 ∧ a.aw.size ≤ 1100) (hmay : mayAsk a = true) (h0 : (a.epoch == 0) = true) :
    Calls Tryz.prog 123 #[.pointer (some ⟨b, 0, none⟩), .agg #[.int .i64 a.slot, .int .i64 a.query, .int .i64 a.shard, .int .i64 a.seq, .int .i64 a.epoch, .string a.text, .int .i64 a.k, .int .i64 a.batch, .bool a.first, .int .i64 a.ad, .string a.aw]] w fun e w' => e = .returned (.tuple #[]) ∧ Below w.heap.size w w' := by
  have BX := Lib.hid (below_one w (.cells #[.int .i64 a.slot, .int .i64 a.query, .int .i64 a.shard, .int .i64 a.seq, .int .i64 a.epoch, .string a.text, .int .i64 a.k, .int .i64 a.batch, .bool a.first, .int .i64 a.ad, .string a.aw] 41))
  have IN := Lib.hid (MAskIn_new w a w.heap.size 41 (0, 0) rfl)
  obtain ⟨w1, hw1⟩ : ∃ w1, w.alloc (.cells #[.int .i64 a.slot, .int .i64 a.query, .int .i64 a.shard, .int .i64 a.seq, .int .i64 a.epoch, .string a.text, .int .i64 a.k, .int .i64 a.batch, .bool a.first, .int .i64 a.ad, .string a.aw] 41) = w1 := ⟨_, rfl⟩
  obtain ⟨p, hp⟩ : ∃ p, w.heap.size = p := ⟨_, rfl⟩
  rw [hw1] at BX IN
  rw [hp] at IN
  have X1 := hx.below BX.out
  have M1 := hm.below BX.out
  have SB := Lib.hid (show ∀ w', Below w1.heap.size w1 w' → ((Below w1.heap.size w1 w' ∧ (w'.cell? ⟨p, 0, none⟩ = some (.int .i64 a.slot) ∧ w'.cell? ⟨p, 1, none⟩ = some (.int .i64 a.query) ∧ w'.cell? ⟨p, 2, none⟩ = some (.int .i64 a.shard) ∧ w'.cell? ⟨p, 3, none⟩ = some (.int .i64 a.seq) ∧ w'.cell? ⟨p, 4, none⟩ = some (.int .i64 a.epoch) ∧ w'.cell? ⟨p, 5, none⟩ = some (.string a.text) ∧ w'.cell? ⟨p, 6, none⟩ = some (.int .i64 a.k) ∧ w'.cell? ⟨p, 7, none⟩ = some (.int .i64 a.batch) ∧ w'.cell? ⟨p, 8, none⟩ = some (.bool a.first) ∧ w'.cell? ⟨p, 9, none⟩ = some (.int .i64 a.ad) ∧ w'.cell? ⟨p, 10, none⟩ = some (.string a.aw))) ∧ (w'.cell? ⟨b, 4, none⟩ = some (.int .i64 ep) ∧ w'.cell? ⟨b, 6, none⟩ = some (.map (some mm))) ∧ (Instr.lookup 93 (.map (some mm)) (.int .i64 a.shard) false).run Tryz.prog w' = .ok (.agg #[.pointer gp, .int .i64 ge]) w') from fun w' hb =>
    ⟨⟨hb, IN.out.below hb⟩, ⟨(X1.below hb).c4, (X1.below hb).c6⟩, by rw [(M1.below hb).get_run mapTl a.shard hwf, hl]⟩)
  have CM := Lib.hid (fun (w' : World) (hb : Below w1.heap.size w1 w') => (show Calls Tryz.prog 32 #[.iface 41 (.agg #[.int .i64 a.slot, .int .i64 a.query, .int .i64 a.shard, .int .i64 a.seq, .int .i64 a.epoch, .string a.text, .int .i64 a.k, .int .i64 a.batch, .bool a.first, .int .i64 a.ad, .string a.aw])] w' fun e w'' => e = .returned (.bool (mayAsk a)) ∧ Below w'.heap.size w' w'' from mayOf_all (.ask a) w' trivial hsm))
  have HP := Lib.hid hp
  rw [hmay] at CM
  clear hx hm hl hsm X1 M1
  go_enter Tryz.func123, Tryz.ntmps123
  go_upto_region 1 with fail
  try rw [hw1]
  try rw [hp]
  clear hw1 hp
  go_cut [32] from 4 to 32 (fun u wc => u = .bool true ∧ Hid (Below w1.heap.size w1 wc))
  case first =>
    have hS0 := SB.out w1.drew ((Below.refl _ _).drew)
    refine wp_region_held_drew (S := (fun w' => (Below w1.heap.size w1 w' ∧ (w'.cell? ⟨p, 0, none⟩ = some (.int .i64 a.slot) ∧ w'.cell? ⟨p, 1, none⟩ = some (.int .i64 a.query) ∧ w'.cell? ⟨p, 2, none⟩ = some (.int .i64 a.shard) ∧ w'.cell? ⟨p, 3, none⟩ = some (.int .i64 a.seq) ∧ w'.cell? ⟨p, 4, none⟩ = some (.int .i64 a.epoch) ∧ w'.cell? ⟨p, 5, none⟩ = some (.string a.text) ∧ w'.cell? ⟨p, 6, none⟩ = some (.int .i64 a.k) ∧ w'.cell? ⟨p, 7, none⟩ = some (.int .i64 a.batch) ∧ w'.cell? ⟨p, 8, none⟩ = some (.bool a.first) ∧ w'.cell? ⟨p, 9, none⟩ = some (.int .i64 a.ad) ∧ w'.cell? ⟨p, 10, none⟩ = some (.string a.aw))) ∧ (w'.cell? ⟨b, 4, none⟩ = some (.int .i64 ep) ∧ w'.cell? ⟨b, 6, none⟩ = some (.map (some mm))) ∧ (Instr.lookup 93 (.map (some mm)) (.int .i64 a.shard) false).run Tryz.prog w' = .ok (.agg #[.pointer gp, .int .i64 ge]) w')) (by kernel_rfl) hS0 (fun hHeld0 => ?_)
    clear hS0
    generalize w1.drew = X0 at hHeld0 ⊢
    refine wpAnyH_take (i := 0) (oi := { dst := some 4, op := Op.load 41 (Operand.tmp 3), type := 41, pos := "worker.go:177", after := #[], guard := none }) (v := ?vz29) rfl (by kernel_rfl) (by kernel_rfl) (by kernel_rfl) (fun _ _ _ h => h) (Or.inl ⟨by rfl, ?hyz29⟩) (by assumption) ?restz29
    case hyz29 => (intro w hSw; (try dsimp only at hSw); go_simp; (try with_reducible rfl))
    try simp only [Act.put, List.setIfInBounds_toArray, List.set_cons_zero, List.set_cons_succ]
    refine wpAnyH_take (i := 1) (oi := { dst := some 5, op := Op.makeInterface 41 (Operand.tmp 4), type := 20, pos := "worker.go:177", after := #[{ on := 0, ground := Ground.data }], guard := none }) (v := ?vz30) rfl (by kernel_rfl) (by kernel_rfl) (by kernel_rfl) (fun _ _ _ h => h) (Or.inl ⟨by rfl, ?hyz30⟩) (by assumption) ?restz30
    case hyz30 => (intro w hSw; (try dsimp only at hSw); go_simp; (try with_reducible rfl))
    try simp only [Act.put, List.setIfInBounds_toArray, List.set_cons_zero, List.set_cons_succ]
    refine wpAnyH_ready (rs := [2]) (by kernel_rfl) (by simp) ?_
    refine AllReadyH.cons (o := { dst := some 6, op := Op.call { callee := Callee.value (Operand.func 32), args := #[Operand.tmp 5], argTypes := #[20] }, type := 4, pos := "worker.go:177", after := #[{ on := 1, ground := Ground.data }], guard := none }) rfl (fun K hK => ?_) AllReadyH.nil
    go_simp
    go_at_call 32
    with_reducible refine (CM.out _ hHeld0.1.1).mono ?_
    rintro e X1 ⟨rfl, hb⟩
    go_wp2_with fail
    have B1 := hHeld0.1.1.trans (hb.mono hHeld0.1.1.size)
    refine hK.out _ _ (SB.out _ B1) (fun hHeld1 => ?_)
    clear hb hK K hHeld0
    try simp only [Act.put, List.setIfInBounds_toArray, List.set_cons_zero, List.set_cons_succ]
    refine wpAnyH_take (i := 3) (oi := { dst := some 7, op := Op.unOp UnOp.not 4 (Operand.tmp 6), type := 4, pos := "worker.go:177", after := #[{ on := 2, ground := Ground.data }], guard := none }) (v := ?vz31) rfl (by kernel_rfl) (by kernel_rfl) (by kernel_rfl) (fun _ _ _ h => h) (Or.inl ⟨by rfl, ?hyz31⟩) (by assumption) ?restz31
    case hyz31 => (intro w hSw; (try dsimp only at hSw); go_simp; (try with_reducible rfl))
    try simp only [Act.put, List.setIfInBounds_toArray, List.set_cons_zero, List.set_cons_succ]
    refine wpAnyH_take (i := 4) (oi := { dst := some 8, op := Op.move (Operand.tmp 7), type := 4, pos := "worker.go:177", after := #[{ on := 3, ground := Ground.data }, { on := 2, ground := Ground.chain }], guard := none }) (v := ?vz32) rfl (by kernel_rfl) (by kernel_rfl) (by kernel_rfl) (fun _ _ _ h => h) (Or.inl ⟨by rfl, ?hyz32⟩) (by assumption) ?restz32
    case hyz32 => (intro w hSw; (try dsimp only at hSw); go_simp; (try with_reducible rfl))
    try simp only [Act.put, List.setIfInBounds_toArray, List.set_cons_zero, List.set_cons_succ]
    refine wpAnyH_take (i := 5) (oi := { dst := some 9, op := Op.fieldAddr 41 (Operand.tmp 3) 4, type := 0, pos := "worker.go:177", after := #[{ on := 4, ground := Ground.guard }], guard := some (4, false) }) (v := ?vz33) rfl (by kernel_rfl) (by kernel_rfl) (by kernel_rfl) (fun _ _ _ h => h) (Or.inl ⟨by rfl, ?hyz33⟩) (by assumption) ?restz33
    case hyz33 => (intro w hSw; (try dsimp only at hSw); go_simp; (try with_reducible rfl))
    try simp only [Act.put, List.setIfInBounds_toArray, List.set_cons_zero, List.set_cons_succ]
    refine wpAnyH_take (i := 6) (oi := { dst := some 10, op := Op.load 3 (Operand.tmp 9), type := 3, pos := "worker.go:177", after := #[{ on := 5, ground := Ground.data }, { on := 4, ground := Ground.guard }], guard := some (4, false) }) (v := ?vz34) rfl (by kernel_rfl) (by kernel_rfl) (by kernel_rfl) (fun _ _ _ h => h) (Or.inl ⟨by rfl, ?hyz34⟩) (by assumption) ?restz34
    case hyz34 => (intro w hSw; (try dsimp only at hSw); go_simp; (try with_reducible rfl))
    try simp only [Act.put, List.setIfInBounds_toArray, List.set_cons_zero, List.set_cons_succ]
    refine wpAnyH_take (i := 7) (oi := { dst := some 11, op := Op.binOp BinOp.eql 3 (Operand.tmp 10) (Operand.const (Value.int IntKind.i64 0)) 3, type := 4, pos := "worker.go:177", after := #[{ on := 6, ground := Ground.data }, { on := 4, ground := Ground.guard }], guard := some (4, false) }) (v := ?vz35) rfl (by kernel_rfl) (by kernel_rfl) (by kernel_rfl) (fun _ _ _ h => h) (Or.inl ⟨by rfl, ?hyz35⟩) (by assumption) ?restz35
    case hyz35 => (intro w hSw; (try dsimp only at hSw); go_simp; (try with_reducible rfl))
    try simp only [Act.put, List.setIfInBounds_toArray, List.set_cons_zero, List.set_cons_succ]
    refine wpAnyH_take (i := 8) (oi := { dst := some 12, op := Op.pick (Operand.tmp 8) (Operand.const (Value.bool true)) (Operand.tmp 11), type := 4, pos := "worker.go:177", after := #[{ on := 4, ground := Ground.data }, { on := 7, ground := Ground.data }], guard := none }) (v := ?vz36) rfl (by kernel_rfl) (by kernel_rfl) (by kernel_rfl) (fun _ _ _ h => h) (Or.inl ⟨by rfl, ?hyz36⟩) (by assumption) ?restz36
    case hyz36 => (intro w hSw; (try dsimp only at hSw); go_simp; (try with_reducible rfl))
    try simp only [Act.put, List.setIfInBounds_toArray, List.set_cons_zero, List.set_cons_succ]
    refine wpAnyH_take (i := 9) (oi := { dst := some 13, op := Op.move (Operand.tmp 12), type := 4, pos := "worker.go:177", after := #[{ on := 8, ground := Ground.data }, { on := 4, ground := Ground.chain }], guard := none }) (v := ?vz37) rfl (by kernel_rfl) (by kernel_rfl) (by kernel_rfl) (fun _ _ _ h => h) (Or.inl ⟨by rfl, ?hyz37⟩) (by assumption) ?restz37
    case hyz37 => (intro w hSw; (try dsimp only at hSw); go_simp; (try with_reducible rfl))
    try simp only [Act.put, List.setIfInBounds_toArray, List.set_cons_zero, List.set_cons_succ]
    refine wpAnyH_take (i := 10) (oi := { dst := some 14, op := Op.fieldAddr 41 (Operand.tmp 3) 4, type := 0, pos := "worker.go:177", after := #[{ on := 9, ground := Ground.guard }], guard := some (9, false) }) rfl (by kernel_rfl) (by kernel_rfl) (by kernel_rfl) (fun _ _ _ h => h) (Or.inr ⟨by rfl, rfl⟩) (by assumption) ?_
    try simp only [Act.put, List.setIfInBounds_toArray, List.set_cons_zero, List.set_cons_succ]
    refine wpAnyH_take (i := 11) (oi := { dst := some 15, op := Op.load 3 (Operand.tmp 14), type := 3, pos := "worker.go:177", after := #[{ on := 10, ground := Ground.data }, { on := 9, ground := Ground.guard }], guard := some (9, false) }) rfl (by kernel_rfl) (by kernel_rfl) (by kernel_rfl) (fun _ _ _ h => h) (Or.inr ⟨by rfl, rfl⟩) (by assumption) ?_
    try simp only [Act.put, List.setIfInBounds_toArray, List.set_cons_zero, List.set_cons_succ]
    refine wpAnyH_take (i := 12) (oi := { dst := some 16, op := Op.move (Operand.tmp 0), type := 29, pos := "worker.go:177", after := #[{ on := 9, ground := Ground.guard }], guard := some (9, false) }) rfl (by kernel_rfl) (by kernel_rfl) (by kernel_rfl) (fun _ _ _ h => h) (Or.inr ⟨by rfl, rfl⟩) (by assumption) ?_
    try simp only [Act.put, List.setIfInBounds_toArray, List.set_cons_zero, List.set_cons_succ]
    refine wpAnyH_take (i := 13) (oi := { dst := some 17, op := Op.nilCheck (Operand.tmp 16), type := 0, pos := "worker.go:177", after := #[{ on := 12, ground := Ground.data }, { on := 9, ground := Ground.guard }], guard := some (9, false) }) rfl (by kernel_rfl) (by kernel_rfl) (by kernel_rfl) (fun _ _ _ h => h) (Or.inr ⟨by rfl, rfl⟩) (by assumption) ?_
    try simp only [Act.put, List.setIfInBounds_toArray, List.set_cons_zero, List.set_cons_succ]
    refine wpAnyH_take (i := 14) (oi := { dst := some 18, op := Op.fieldAddr 95 (Operand.tmp 17) 4, type := 0, pos := "worker.go:177", after := #[{ on := 13, ground := Ground.data }, { on := 9, ground := Ground.guard }], guard := some (9, false) }) rfl (by kernel_rfl) (by kernel_rfl) (by kernel_rfl) (fun _ _ _ h => h) (Or.inr ⟨by rfl, rfl⟩) (by assumption) ?_
    try simp only [Act.put, List.setIfInBounds_toArray, List.set_cons_zero, List.set_cons_succ]
    refine wpAnyH_take (i := 15) (oi := { dst := some 19, op := Op.load 3 (Operand.tmp 18), type := 3, pos := "worker.go:177", after := #[{ on := 14, ground := Ground.data }, { on := 9, ground := Ground.guard }], guard := some (9, false) }) rfl (by kernel_rfl) (by kernel_rfl) (by kernel_rfl) (fun _ _ _ h => h) (Or.inr ⟨by rfl, rfl⟩) (by assumption) ?_
    try simp only [Act.put, List.setIfInBounds_toArray, List.set_cons_zero, List.set_cons_succ]
    refine wpAnyH_take (i := 16) (oi := { dst := some 20, op := Op.binOp BinOp.neq 3 (Operand.tmp 15) (Operand.tmp 19) 3, type := 4, pos := "worker.go:177", after := #[{ on := 11, ground := Ground.data }, { on := 15, ground := Ground.data }, { on := 9, ground := Ground.guard }], guard := some (9, false) }) rfl (by kernel_rfl) (by kernel_rfl) (by kernel_rfl) (fun _ _ _ h => h) (Or.inr ⟨by rfl, rfl⟩) (by assumption) ?_
    try simp only [Act.put, List.setIfInBounds_toArray, List.set_cons_zero, List.set_cons_succ]
    refine wpAnyH_take (i := 17) (oi := { dst := some 21, op := Op.pick (Operand.tmp 13) (Operand.const (Value.bool true)) (Operand.tmp 20), type := 4, pos := "worker.go:177", after := #[{ on := 9, ground := Ground.data }, { on := 16, ground := Ground.data }], guard := none }) (v := ?vz45) rfl (by kernel_rfl) (by kernel_rfl) (by kernel_rfl) (fun _ _ _ h => h) (Or.inl ⟨by rfl, ?hyz45⟩) (by assumption) ?restz45
    case hyz45 => (intro w hSw; (try dsimp only at hSw); go_simp; (try with_reducible rfl))
    try simp only [Act.put, List.setIfInBounds_toArray, List.set_cons_zero, List.set_cons_succ]
    refine wpAnyH_take (i := 18) (oi := { dst := some 22, op := Op.move (Operand.tmp 21), type := 4, pos := "worker.go:177", after := #[{ on := 17, ground := Ground.data }, { on := 9, ground := Ground.chain }], guard := none }) (v := ?vz46) rfl (by kernel_rfl) (by kernel_rfl) (by kernel_rfl) (fun _ _ _ h => h) (Or.inl ⟨by rfl, ?hyz46⟩) (by assumption) ?restz46
    case hyz46 => (intro w hSw; (try dsimp only at hSw); go_simp; (try with_reducible rfl))
    try simp only [Act.put, List.setIfInBounds_toArray, List.set_cons_zero, List.set_cons_succ]
    refine wpAnyH_take (i := 19) (oi := { dst := some 23, op := Op.move (Operand.tmp 0), type := 29, pos := "worker.go:177", after := #[{ on := 18, ground := Ground.guard }], guard := some (18, false) }) rfl (by kernel_rfl) (by kernel_rfl) (by kernel_rfl) (fun _ _ _ h => h) (Or.inr ⟨by rfl, rfl⟩) (by assumption) ?_
    try simp only [Act.put, List.setIfInBounds_toArray, List.set_cons_zero, List.set_cons_succ]
    refine wpAnyH_take (i := 20) (oi := { dst := some 24, op := Op.nilCheck (Operand.tmp 23), type := 0, pos := "worker.go:177", after := #[{ on := 19, ground := Ground.data }, { on := 18, ground := Ground.guard }], guard := some (18, false) }) rfl (by kernel_rfl) (by kernel_rfl) (by kernel_rfl) (fun _ _ _ h => h) (Or.inr ⟨by rfl, rfl⟩) (by assumption) ?_
    try simp only [Act.put, List.setIfInBounds_toArray, List.set_cons_zero, List.set_cons_succ]
    refine wpAnyH_take (i := 21) (oi := { dst := some 25, op := Op.fieldAddr 95 (Operand.tmp 24) 6, type := 0, pos := "worker.go:177", after := #[{ on := 20, ground := Ground.data }, { on := 18, ground := Ground.guard }], guard := some (18, false) }) rfl (by kernel_rfl) (by kernel_rfl) (by kernel_rfl) (fun _ _ _ h => h) (Or.inr ⟨by rfl, rfl⟩) (by assumption) ?_
    try simp only [Act.put, List.setIfInBounds_toArray, List.set_cons_zero, List.set_cons_succ]
    refine wpAnyH_take (i := 22) (oi := { dst := some 26, op := Op.load 93 (Operand.tmp 25), type := 93, pos := "worker.go:177", after := #[{ on := 21, ground := Ground.data }, { on := 18, ground := Ground.guard }], guard := some (18, false) }) rfl (by kernel_rfl) (by kernel_rfl) (by kernel_rfl) (fun _ _ _ h => h) (Or.inr ⟨by rfl, rfl⟩) (by assumption) ?_
    try simp only [Act.put, List.setIfInBounds_toArray, List.set_cons_zero, List.set_cons_succ]
    refine wpAnyH_take (i := 23) (oi := { dst := some 27, op := Op.fieldAddr 41 (Operand.tmp 3) 2, type := 0, pos := "worker.go:177", after := #[{ on := 18, ground := Ground.guard }], guard := some (18, false) }) rfl (by kernel_rfl) (by kernel_rfl) (by kernel_rfl) (fun _ _ _ h => h) (Or.inr ⟨by rfl, rfl⟩) (by assumption) ?_
    try simp only [Act.put, List.setIfInBounds_toArray, List.set_cons_zero, List.set_cons_succ]
    refine wpAnyH_take (i := 24) (oi := { dst := some 28, op := Op.load 3 (Operand.tmp 27), type := 3, pos := "worker.go:177", after := #[{ on := 23, ground := Ground.data }, { on := 18, ground := Ground.guard }], guard := some (18, false) }) rfl (by kernel_rfl) (by kernel_rfl) (by kernel_rfl) (fun _ _ _ h => h) (Or.inr ⟨by rfl, rfl⟩) (by assumption) ?_
    try simp only [Act.put, List.setIfInBounds_toArray, List.set_cons_zero, List.set_cons_succ]
    refine wpAnyH_take (i := 25) (oi := { dst := some 29, op := Op.lookup 93 (Operand.tmp 26) (Operand.tmp 28) false, type := 132, pos := "worker.go:177", after := #[{ on := 22, ground := Ground.data }, { on := 24, ground := Ground.data }, { on := 18, ground := Ground.guard }], guard := some (18, false) }) rfl (by kernel_rfl) (by kernel_rfl) (by kernel_rfl) (fun _ _ _ h => h) (Or.inr ⟨by rfl, rfl⟩) (by assumption) ?_
    try simp only [Act.put, List.setIfInBounds_toArray, List.set_cons_zero, List.set_cons_succ]
    refine wpAnyH_take (i := 26) (oi := { dst := some 30, op := Op.field 132 (Operand.tmp 29) 0, type := 130, pos := "worker.go:177", after := #[{ on := 25, ground := Ground.data }, { on := 18, ground := Ground.guard }], guard := some (18, false) }) rfl (by kernel_rfl) (by kernel_rfl) (by kernel_rfl) (fun _ _ _ h => h) (Or.inr ⟨by rfl, rfl⟩) (by assumption) ?_
    try simp only [Act.put, List.setIfInBounds_toArray, List.set_cons_zero, List.set_cons_succ]
    refine wpAnyH_take (i := 27) (oi := { dst := some 31, op := Op.binOp BinOp.eql 130 (Operand.tmp 30) (Operand.const (Value.pointer none)) 130, type := 4, pos := "worker.go:177", after := #[{ on := 26, ground := Ground.data }, { on := 18, ground := Ground.guard }], guard := some (18, false) }) rfl (by kernel_rfl) (by kernel_rfl) (by kernel_rfl) (fun _ _ _ h => h) (Or.inr ⟨by rfl, rfl⟩) (by assumption) ?_
    try simp only [Act.put, List.setIfInBounds_toArray, List.set_cons_zero, List.set_cons_succ]
    refine wpAnyH_take (i := 28) (oi := { dst := some 32, op := Op.pick (Operand.tmp 22) (Operand.const (Value.bool true)) (Operand.tmp 31), type := 4, pos := "worker.go:177", after := #[{ on := 18, ground := Ground.data }, { on := 27, ground := Ground.data }], guard := none }) (v := ?vz56) rfl (by kernel_rfl) (by kernel_rfl) (by kernel_rfl) (fun _ _ _ h => h) (Or.inl ⟨by rfl, ?hyz56⟩) (by assumption) ?restz56
    case hyz56 => (intro w hSw; (try dsimp only at hSw); go_simp; (try with_reducible rfl))
    try simp only [Act.put, List.setIfInBounds_toArray, List.set_cons_zero, List.set_cons_succ]
    refine wpAnyH_done (by kernel_rfl) ?_ _
    go_wp2_with fail
    go_meet
    exact ⟨rfl, Lib.hid hHeld1.1.1⟩
  case rest =>
    obtain ⟨rfl, hB⟩ := hcut
    go_wp2_with fail
    (try simp only [Exit.inBlock, Exit.then])
    refine bodyPost_ret (results_none rfl _ _ _) rfl ?_
    exact ⟨rfl, BX.out.trans (hB.out.mono BX.out.size)⟩
set_option maxHeartbeats 1600000 in
theorem asked_noC {b d mm nm : Nat} {id wl ep : Int} {qp : Option Nat} {sh : Int → Option LD} (a : AskP) (gp : Option Addr) (ge : Int) (w : World) (hx : WBox w b d id true wl ep qp (some mm)) (hm : MapV w mm nm (lV sh)) (hwf : wfI a.shard) (hl : (lV sh a.shard).getD ldZ = .agg #[.pointer gp, .int .i64 ge]) (hsm : a.text.size ≤ 1100 ∧ a.aw.size ≤ 1100) (hmay : mayAsk a = true) (h0 : (a.epoch == 0) = false) (h1 : (a.epoch != ep) = true) :
    Calls Tryz.prog 123 #[.pointer (some ⟨b, 0, none⟩), .agg #[.int .i64 a.slot, .int .i64 a.query, .int .i64 a.shard, .int .i64 a.seq, .int .i64 a.epoch, .string a.text, .int .i64 a.k, .int .i64 a.batch, .bool a.first, .int .i64 a.ad, .string a.aw]] w fun e w' => e = .returned (.tuple #[]) ∧ Below w.heap.size w w' := by
  have BX := Lib.hid (below_one w (.cells #[.int .i64 a.slot, .int .i64 a.query, .int .i64 a.shard, .int .i64 a.seq, .int .i64 a.epoch, .string a.text, .int .i64 a.k, .int .i64 a.batch, .bool a.first, .int .i64 a.ad, .string a.aw] 41))
  have IN := Lib.hid (MAskIn_new w a w.heap.size 41 (0, 0) rfl)
  obtain ⟨w1, hw1⟩ : ∃ w1, w.alloc (.cells #[.int .i64 a.slot, .int .i64 a.query, .int .i64 a.shard, .int .i64 a.seq, .int .i64 a.epoch, .string a.text, .int .i64 a.k, .int .i64 a.batch, .bool a.first, .int .i64 a.ad, .string a.aw] 41) = w1 := ⟨_, rfl⟩
  obtain ⟨p, hp⟩ : ∃ p, w.heap.size = p := ⟨_, rfl⟩
  rw [hw1] at BX IN
  rw [hp] at IN
  have X1 := hx.below BX.out
  have M1 := hm.below BX.out
  have SB := Lib.hid (show ∀ w', Below w1.heap.size w1 w' → ((Below w1.heap.size w1 w' ∧ (w'.cell? ⟨p, 0, none⟩ = some (.int .i64 a.slot) ∧ w'.cell? ⟨p, 1, none⟩ = some (.int .i64 a.query) ∧ w'.cell? ⟨p, 2, none⟩ = some (.int .i64 a.shard) ∧ w'.cell? ⟨p, 3, none⟩ = some (.int .i64 a.seq) ∧ w'.cell? ⟨p, 4, none⟩ = some (.int .i64 a.epoch) ∧ w'.cell? ⟨p, 5, none⟩ = some (.string a.text) ∧ w'.cell? ⟨p, 6, none⟩ = some (.int .i64 a.k) ∧ w'.cell? ⟨p, 7, none⟩ = some (.int .i64 a.batch) ∧ w'.cell? ⟨p, 8, none⟩ = some (.bool a.first) ∧ w'.cell? ⟨p, 9, none⟩ = some (.int .i64 a.ad) ∧ w'.cell? ⟨p, 10, none⟩ = some (.string a.aw))) ∧ (w'.cell? ⟨b, 4, none⟩ = some (.int .i64 ep) ∧ w'.cell? ⟨b, 6, none⟩ = some (.map (some mm))) ∧ (Instr.lookup 93 (.map (some mm)) (.int .i64 a.shard) false).run Tryz.prog w' = .ok (.agg #[.pointer gp, .int .i64 ge]) w') from fun w' hb =>
    ⟨⟨hb, IN.out.below hb⟩, ⟨(X1.below hb).c4, (X1.below hb).c6⟩, by rw [(M1.below hb).get_run mapTl a.shard hwf, hl]⟩)
  have CM := Lib.hid (fun (w' : World) (hb : Below w1.heap.size w1 w') => (show Calls Tryz.prog 32 #[.iface 41 (.agg #[.int .i64 a.slot, .int .i64 a.query, .int .i64 a.shard, .int .i64 a.seq, .int .i64 a.epoch, .string a.text, .int .i64 a.k, .int .i64 a.batch, .bool a.first, .int .i64 a.ad, .string a.aw])] w' fun e w'' => e = .returned (.bool (mayAsk a)) ∧ Below w'.heap.size w' w'' from mayOf_all (.ask a) w' trivial hsm))
  have HP := Lib.hid hp
  rw [hmay] at CM
  clear hx hm hl hsm X1 M1
  go_enter Tryz.func123, Tryz.ntmps123
  go_upto_region 1 with fail
  try rw [hw1]
  try rw [hp]
  clear hw1 hp
  go_cut [32] from 4 to 32 (fun u wc => u = .bool true ∧ Hid (Below w1.heap.size w1 wc))
  case first =>
    have hS0 := SB.out w1.drew ((Below.refl _ _).drew)
    refine wp_region_held_drew (S := (fun w' => (Below w1.heap.size w1 w' ∧ (w'.cell? ⟨p, 0, none⟩ = some (.int .i64 a.slot) ∧ w'.cell? ⟨p, 1, none⟩ = some (.int .i64 a.query) ∧ w'.cell? ⟨p, 2, none⟩ = some (.int .i64 a.shard) ∧ w'.cell? ⟨p, 3, none⟩ = some (.int .i64 a.seq) ∧ w'.cell? ⟨p, 4, none⟩ = some (.int .i64 a.epoch) ∧ w'.cell? ⟨p, 5, none⟩ = some (.string a.text) ∧ w'.cell? ⟨p, 6, none⟩ = some (.int .i64 a.k) ∧ w'.cell? ⟨p, 7, none⟩ = some (.int .i64 a.batch) ∧ w'.cell? ⟨p, 8, none⟩ = some (.bool a.first) ∧ w'.cell? ⟨p, 9, none⟩ = some (.int .i64 a.ad) ∧ w'.cell? ⟨p, 10, none⟩ = some (.string a.aw))) ∧ (w'.cell? ⟨b, 4, none⟩ = some (.int .i64 ep) ∧ w'.cell? ⟨b, 6, none⟩ = some (.map (some mm))) ∧ (Instr.lookup 93 (.map (some mm)) (.int .i64 a.shard) false).run Tryz.prog w' = .ok (.agg #[.pointer gp, .int .i64 ge]) w')) (by kernel_rfl) hS0 (fun hHeld0 => ?_)
    clear hS0
    generalize w1.drew = X0 at hHeld0 ⊢
    refine wpAnyH_take (i := 0) (oi := { dst := some 4, op := Op.load 41 (Operand.tmp 3), type := 41, pos := "worker.go:177", after := #[], guard := none }) (v := ?vz57) rfl (by kernel_rfl) (by kernel_rfl) (by kernel_rfl) (fun _ _ _ h => h) (Or.inl ⟨by rfl, ?hyz57⟩) (by assumption) ?restz57
    case hyz57 => (intro w hSw; (try dsimp only at hSw); go_simp; (try with_reducible rfl))
    try simp only [Act.put, List.setIfInBounds_toArray, List.set_cons_zero, List.set_cons_succ]
    refine wpAnyH_take (i := 1) (oi := { dst := some 5, op := Op.makeInterface 41 (Operand.tmp 4), type := 20, pos := "worker.go:177", after := #[{ on := 0, ground := Ground.data }], guard := none }) (v := ?vz58) rfl (by kernel_rfl) (by kernel_rfl) (by kernel_rfl) (fun _ _ _ h => h) (Or.inl ⟨by rfl, ?hyz58⟩) (by assumption) ?restz58
    case hyz58 => (intro w hSw; (try dsimp only at hSw); go_simp; (try with_reducible rfl))
    try simp only [Act.put, List.setIfInBounds_toArray, List.set_cons_zero, List.set_cons_succ]
    refine wpAnyH_ready (rs := [2]) (by kernel_rfl) (by simp) ?_
    refine AllReadyH.cons (o := { dst := some 6, op := Op.call { callee := Callee.value (Operand.func 32), args := #[Operand.tmp 5], argTypes := #[20] }, type := 4, pos := "worker.go:177", after := #[{ on := 1, ground := Ground.data }], guard := none }) rfl (fun K hK => ?_) AllReadyH.nil
    go_simp
    go_at_call 32
    with_reducible refine (CM.out _ hHeld0.1.1).mono ?_
    rintro e X1 ⟨rfl, hb⟩
    go_wp2_with fail
    have B1 := hHeld0.1.1.trans (hb.mono hHeld0.1.1.size)
    refine hK.out _ _ (SB.out _ B1) (fun hHeld1 => ?_)
    clear hb hK K hHeld0
    try simp only [Act.put, List.setIfInBounds_toArray, List.set_cons_zero, List.set_cons_succ]
    refine wpAnyH_take (i := 3) (oi := { dst := some 7, op := Op.unOp UnOp.not 4 (Operand.tmp 6), type := 4, pos := "worker.go:177", after := #[{ on := 2, ground := Ground.data }], guard := none }) (v := ?vz59) rfl (by kernel_rfl) (by kernel_rfl) (by kernel_rfl) (fun _ _ _ h => h) (Or.inl ⟨by rfl, ?hyz59⟩) (by assumption) ?restz59
    case hyz59 => (intro w hSw; (try dsimp only at hSw); go_simp; (try with_reducible rfl))
    try simp only [Act.put, List.setIfInBounds_toArray, List.set_cons_zero, List.set_cons_succ]
    refine wpAnyH_take (i := 4) (oi := { dst := some 8, op := Op.move (Operand.tmp 7), type := 4, pos := "worker.go:177", after := #[{ on := 3, ground := Ground.data }, { on := 2, ground := Ground.chain }], guard := none }) (v := ?vz60) rfl (by kernel_rfl) (by kernel_rfl) (by kernel_rfl) (fun _ _ _ h => h) (Or.inl ⟨by rfl, ?hyz60⟩) (by assumption) ?restz60
    case hyz60 => (intro w hSw; (try dsimp only at hSw); go_simp; (try with_reducible rfl))
    try simp only [Act.put, List.setIfInBounds_toArray, List.set_cons_zero, List.set_cons_succ]
    refine wpAnyH_take (i := 5) (oi := { dst := some 9, op := Op.fieldAddr 41 (Operand.tmp 3) 4, type := 0, pos := "worker.go:177", after := #[{ on := 4, ground := Ground.guard }], guard := some (4, false) }) (v := ?vz61) rfl (by kernel_rfl) (by kernel_rfl) (by kernel_rfl) (fun _ _ _ h => h) (Or.inl ⟨by rfl, ?hyz61⟩) (by assumption) ?restz61
    case hyz61 => (intro w hSw; (try dsimp only at hSw); go_simp; (try with_reducible rfl))
    try simp only [Act.put, List.setIfInBounds_toArray, List.set_cons_zero, List.set_cons_succ]
    refine wpAnyH_take (i := 6) (oi := { dst := some 10, op := Op.load 3 (Operand.tmp 9), type := 3, pos := "worker.go:177", after := #[{ on := 5, ground := Ground.data }, { on := 4, ground := Ground.guard }], guard := some (4, false) }) (v := ?vz62) rfl (by kernel_rfl) (by kernel_rfl) (by kernel_rfl) (fun _ _ _ h => h) (Or.inl ⟨by rfl, ?hyz62⟩) (by assumption) ?restz62
    case hyz62 => (intro w hSw; (try dsimp only at hSw); go_simp; (try with_reducible rfl))
    try simp only [Act.put, List.setIfInBounds_toArray, List.set_cons_zero, List.set_cons_succ]
    refine wpAnyH_take (i := 7) (oi := { dst := some 11, op := Op.binOp BinOp.eql 3 (Operand.tmp 10) (Operand.const (Value.int IntKind.i64 0)) 3, type := 4, pos := "worker.go:177", after := #[{ on := 6, ground := Ground.data }, { on := 4, ground := Ground.guard }], guard := some (4, false) }) (v := ?vz63) rfl (by kernel_rfl) (by kernel_rfl) (by kernel_rfl) (fun _ _ _ h => h) (Or.inl ⟨by rfl, ?hyz63⟩) (by assumption) ?restz63
    case hyz63 => (intro w hSw; (try dsimp only at hSw); go_simp; (try with_reducible rfl))
    try simp only [Act.put, List.setIfInBounds_toArray, List.set_cons_zero, List.set_cons_succ]
    refine wpAnyH_take (i := 8) (oi := { dst := some 12, op := Op.pick (Operand.tmp 8) (Operand.const (Value.bool true)) (Operand.tmp 11), type := 4, pos := "worker.go:177", after := #[{ on := 4, ground := Ground.data }, { on := 7, ground := Ground.data }], guard := none }) (v := ?vz64) rfl (by kernel_rfl) (by kernel_rfl) (by kernel_rfl) (fun _ _ _ h => h) (Or.inl ⟨by rfl, ?hyz64⟩) (by assumption) ?restz64
    case hyz64 => (intro w hSw; (try dsimp only at hSw); go_simp; (try with_reducible rfl))
    try simp only [Act.put, List.setIfInBounds_toArray, List.set_cons_zero, List.set_cons_succ]
    refine wpAnyH_take (i := 9) (oi := { dst := some 13, op := Op.move (Operand.tmp 12), type := 4, pos := "worker.go:177", after := #[{ on := 8, ground := Ground.data }, { on := 4, ground := Ground.chain }], guard := none }) (v := ?vz65) rfl (by kernel_rfl) (by kernel_rfl) (by kernel_rfl) (fun _ _ _ h => h) (Or.inl ⟨by rfl, ?hyz65⟩) (by assumption) ?restz65
    case hyz65 => (intro w hSw; (try dsimp only at hSw); go_simp; (try with_reducible rfl))
    try simp only [Act.put, List.setIfInBounds_toArray, List.set_cons_zero, List.set_cons_succ]
    refine wpAnyH_take (i := 10) (oi := { dst := some 14, op := Op.fieldAddr 41 (Operand.tmp 3) 4, type := 0, pos := "worker.go:177", after := #[{ on := 9, ground := Ground.guard }], guard := some (9, false) }) (v := ?vz66) rfl (by kernel_rfl) (by kernel_rfl) (by kernel_rfl) (fun _ _ _ h => h) (Or.inl ⟨by rfl, ?hyz66⟩) (by assumption) ?restz66
    case hyz66 => (intro w hSw; (try dsimp only at hSw); go_simp; (try with_reducible rfl))
    try simp only [Act.put, List.setIfInBounds_toArray, List.set_cons_zero, List.set_cons_succ]
    refine wpAnyH_take (i := 11) (oi := { dst := some 15, op := Op.load 3 (Operand.tmp 14), type := 3, pos := "worker.go:177", after := #[{ on := 10, ground := Ground.data }, { on := 9, ground := Ground.guard }], guard := some (9, false) }) (v := ?vz67) rfl (by kernel_rfl) (by kernel_rfl) (by kernel_rfl) (fun _ _ _ h => h) (Or.inl ⟨by rfl, ?hyz67⟩) (by assumption) ?restz67
    case hyz67 => (intro w hSw; (try dsimp only at hSw); go_simp; (try with_reducible rfl))
    try simp only [Act.put, List.setIfInBounds_toArray, List.set_cons_zero, List.set_cons_succ]
    refine wpAnyH_take (i := 12) (oi := { dst := some 16, op := Op.move (Operand.tmp 0), type := 29, pos := "worker.go:177", after := #[{ on := 9, ground := Ground.guard }], guard := some (9, false) }) (v := ?vz68) rfl (by kernel_rfl) (by kernel_rfl) (by kernel_rfl) (fun _ _ _ h => h) (Or.inl ⟨by rfl, ?hyz68⟩) (by assumption) ?restz68
    case hyz68 => (intro w hSw; (try dsimp only at hSw); go_simp; (try with_reducible rfl))
    try simp only [Act.put, List.setIfInBounds_toArray, List.set_cons_zero, List.set_cons_succ]
    refine wpAnyH_take (i := 13) (oi := { dst := some 17, op := Op.nilCheck (Operand.tmp 16), type := 0, pos := "worker.go:177", after := #[{ on := 12, ground := Ground.data }, { on := 9, ground := Ground.guard }], guard := some (9, false) }) (v := ?vz69) rfl (by kernel_rfl) (by kernel_rfl) (by kernel_rfl) (fun _ _ _ h => h) (Or.inl ⟨by rfl, ?hyz69⟩) (by assumption) ?restz69
    case hyz69 => (intro w hSw; (try dsimp only at hSw); go_simp; (try with_reducible rfl))
    try simp only [Act.put, List.setIfInBounds_toArray, List.set_cons_zero, List.set_cons_succ]
    refine wpAnyH_take (i := 14) (oi := { dst := some 18, op := Op.fieldAddr 95 (Operand.tmp 17) 4, type := 0, pos := "worker.go:177", after := #[{ on := 13, ground := Ground.data }, { on := 9, ground := Ground.guard }], guard := some (9, false) }) (v := ?vz70) rfl (by kernel_rfl) (by kernel_rfl) (by kernel_rfl) (fun _ _ _ h => h) (Or.inl ⟨by rfl, ?hyz70⟩) (by assumption) ?restz70
    case hyz70 => (intro w hSw; (try dsimp only at hSw); go_simp; (try with_reducible rfl))
    try simp only [Act.put, List.setIfInBounds_toArray, List.set_cons_zero, List.set_cons_succ]
    refine wpAnyH_take (i := 15) (oi := { dst := some 19, op := Op.load 3 (Operand.tmp 18), type := 3, pos := "worker.go:177", after := #[{ on := 14, ground := Ground.data }, { on := 9, ground := Ground.guard }], guard := some (9, false) }) (v := ?vz71) rfl (by kernel_rfl) (by kernel_rfl) (by kernel_rfl) (fun _ _ _ h => h) (Or.inl ⟨by rfl, ?hyz71⟩) (by assumption) ?restz71
    case hyz71 => (intro w hSw; (try dsimp only at hSw); go_simp; (try with_reducible rfl))
    try simp only [Act.put, List.setIfInBounds_toArray, List.set_cons_zero, List.set_cons_succ]
    refine wpAnyH_take (i := 16) (oi := { dst := some 20, op := Op.binOp BinOp.neq 3 (Operand.tmp 15) (Operand.tmp 19) 3, type := 4, pos := "worker.go:177", after := #[{ on := 11, ground := Ground.data }, { on := 15, ground := Ground.data }, { on := 9, ground := Ground.guard }], guard := some (9, false) }) (v := ?vz72) rfl (by kernel_rfl) (by kernel_rfl) (by kernel_rfl) (fun _ _ _ h => h) (Or.inl ⟨by rfl, ?hyz72⟩) (by assumption) ?restz72
    case hyz72 => (intro w hSw; (try dsimp only at hSw); go_simp; (try with_reducible rfl))
    try simp only [Act.put, List.setIfInBounds_toArray, List.set_cons_zero, List.set_cons_succ]
    refine wpAnyH_take (i := 17) (oi := { dst := some 21, op := Op.pick (Operand.tmp 13) (Operand.const (Value.bool true)) (Operand.tmp 20), type := 4, pos := "worker.go:177", after := #[{ on := 9, ground := Ground.data }, { on := 16, ground := Ground.data }], guard := none }) (v := ?vz73) rfl (by kernel_rfl) (by kernel_rfl) (by kernel_rfl) (fun _ _ _ h => h) (Or.inl ⟨by rfl, ?hyz73⟩) (by assumption) ?restz73
    case hyz73 => (intro w hSw; (try dsimp only at hSw); go_simp; (try with_reducible rfl))
    try simp only [Act.put, List.setIfInBounds_toArray, List.set_cons_zero, List.set_cons_succ]
    refine wpAnyH_take (i := 18) (oi := { dst := some 22, op := Op.move (Operand.tmp 21), type := 4, pos := "worker.go:177", after := #[{ on := 17, ground := Ground.data }, { on := 9, ground := Ground.chain }], guard := none }) (v := ?vz74) rfl (by kernel_rfl) (by kernel_rfl) (by kernel_rfl) (fun _ _ _ h => h) (Or.inl ⟨by rfl, ?hyz74⟩) (by assumption) ?restz74
    case hyz74 => (intro w hSw; (try dsimp only at hSw); go_simp; (try with_reducible rfl))
    try simp only [Act.put, List.setIfInBounds_toArray, List.set_cons_zero, List.set_cons_succ]
    refine wpAnyH_take (i := 19) (oi := { dst := some 23, op := Op.move (Operand.tmp 0), type := 29, pos := "worker.go:177", after := #[{ on := 18, ground := Ground.guard }], guard := some (18, false) }) rfl (by kernel_rfl) (by kernel_rfl) (by kernel_rfl) (fun _ _ _ h => h) (Or.inr ⟨by rfl, rfl⟩) (by assumption) ?_
    try simp only [Act.put, List.setIfInBounds_toArray, List.set_cons_zero, List.set_cons_succ]
    refine wpAnyH_take (i := 20) (oi := { dst := some 24, op := Op.nilCheck (Operand.tmp 23), type := 0, pos := "worker.go:177", after := #[{ on := 19, ground := Ground.data }, { on := 18, ground := Ground.guard }], guard := some (18, false) }) rfl (by kernel_rfl) (by kernel_rfl) (by kernel_rfl) (fun _ _ _ h => h) (Or.inr ⟨by rfl, rfl⟩) (by assumption) ?_
    try simp only [Act.put, List.setIfInBounds_toArray, List.set_cons_zero, List.set_cons_succ]
    refine wpAnyH_take (i := 21) (oi := { dst := some 25, op := Op.fieldAddr 95 (Operand.tmp 24) 6, type := 0, pos := "worker.go:177", after := #[{ on := 20, ground := Ground.data }, { on := 18, ground := Ground.guard }], guard := some (18, false) }) rfl (by kernel_rfl) (by kernel_rfl) (by kernel_rfl) (fun _ _ _ h => h) (Or.inr ⟨by rfl, rfl⟩) (by assumption) ?_
    try simp only [Act.put, List.setIfInBounds_toArray, List.set_cons_zero, List.set_cons_succ]
    refine wpAnyH_take (i := 22) (oi := { dst := some 26, op := Op.load 93 (Operand.tmp 25), type := 93, pos := "worker.go:177", after := #[{ on := 21, ground := Ground.data }, { on := 18, ground := Ground.guard }], guard := some (18, false) }) rfl (by kernel_rfl) (by kernel_rfl) (by kernel_rfl) (fun _ _ _ h => h) (Or.inr ⟨by rfl, rfl⟩) (by assumption) ?_
    try simp only [Act.put, List.setIfInBounds_toArray, List.set_cons_zero, List.set_cons_succ]
    refine wpAnyH_take (i := 23) (oi := { dst := some 27, op := Op.fieldAddr 41 (Operand.tmp 3) 2, type := 0, pos := "worker.go:177", after := #[{ on := 18, ground := Ground.guard }], guard := some (18, false) }) rfl (by kernel_rfl) (by kernel_rfl) (by kernel_rfl) (fun _ _ _ h => h) (Or.inr ⟨by rfl, rfl⟩) (by assumption) ?_
    try simp only [Act.put, List.setIfInBounds_toArray, List.set_cons_zero, List.set_cons_succ]
    refine wpAnyH_take (i := 24) (oi := { dst := some 28, op := Op.load 3 (Operand.tmp 27), type := 3, pos := "worker.go:177", after := #[{ on := 23, ground := Ground.data }, { on := 18, ground := Ground.guard }], guard := some (18, false) }) rfl (by kernel_rfl) (by kernel_rfl) (by kernel_rfl) (fun _ _ _ h => h) (Or.inr ⟨by rfl, rfl⟩) (by assumption) ?_
    try simp only [Act.put, List.setIfInBounds_toArray, List.set_cons_zero, List.set_cons_succ]
    refine wpAnyH_take (i := 25) (oi := { dst := some 29, op := Op.lookup 93 (Operand.tmp 26) (Operand.tmp 28) false, type := 132, pos := "worker.go:177", after := #[{ on := 22, ground := Ground.data }, { on := 24, ground := Ground.data }, { on := 18, ground := Ground.guard }], guard := some (18, false) }) rfl (by kernel_rfl) (by kernel_rfl) (by kernel_rfl) (fun _ _ _ h => h) (Or.inr ⟨by rfl, rfl⟩) (by assumption) ?_
    try simp only [Act.put, List.setIfInBounds_toArray, List.set_cons_zero, List.set_cons_succ]
    refine wpAnyH_take (i := 26) (oi := { dst := some 30, op := Op.field 132 (Operand.tmp 29) 0, type := 130, pos := "worker.go:177", after := #[{ on := 25, ground := Ground.data }, { on := 18, ground := Ground.guard }], guard := some (18, false) }) rfl (by kernel_rfl) (by kernel_rfl) (by kernel_rfl) (fun _ _ _ h => h) (Or.inr ⟨by rfl, rfl⟩) (by assumption) ?_
    try simp only [Act.put, List.setIfInBounds_toArray, List.set_cons_zero, List.set_cons_succ]
    refine wpAnyH_take (i := 27) (oi := { dst := some 31, op := Op.binOp BinOp.eql 130 (Operand.tmp 30) (Operand.const (Value.pointer none)) 130, type := 4, pos := "worker.go:177", after := #[{ on := 26, ground := Ground.data }, { on := 18, ground := Ground.guard }], guard := some (18, false) }) rfl (by kernel_rfl) (by kernel_rfl) (by kernel_rfl) (fun _ _ _ h => h) (Or.inr ⟨by rfl, rfl⟩) (by assumption) ?_
    try simp only [Act.put, List.setIfInBounds_toArray, List.set_cons_zero, List.set_cons_succ]
    refine wpAnyH_take (i := 28) (oi := { dst := some 32, op := Op.pick (Operand.tmp 22) (Operand.const (Value.bool true)) (Operand.tmp 31), type := 4, pos := "worker.go:177", after := #[{ on := 18, ground := Ground.data }, { on := 27, ground := Ground.data }], guard := none }) (v := ?vz84) rfl (by kernel_rfl) (by kernel_rfl) (by kernel_rfl) (fun _ _ _ h => h) (Or.inl ⟨by rfl, ?hyz84⟩) (by assumption) ?restz84
    case hyz84 => (intro w hSw; (try dsimp only at hSw); go_simp; (try with_reducible rfl))
    try simp only [Act.put, List.setIfInBounds_toArray, List.set_cons_zero, List.set_cons_succ]
    refine wpAnyH_done (by kernel_rfl) ?_ _
    go_wp2_with fail
    go_meet
    exact ⟨rfl, Lib.hid hHeld1.1.1⟩
  case rest =>
    obtain ⟨rfl, hB⟩ := hcut
    go_wp2_with fail
    (try simp only [Exit.inBlock, Exit.then])
    refine bodyPost_ret (results_none rfl _ _ _) rfl ?_
    exact ⟨rfl, BX.out.trans (hB.out.mono BX.out.size)⟩
set_option maxHeartbeats 1600000 in
theorem asked_noD {b d mm nm : Nat} {id wl ep : Int} {qp : Option Nat} {sh : Int → Option LD} (a : AskP) (gp : Option Addr) (ge : Int) (w : World) (hx : WBox w b d id true wl ep qp (some mm)) (hm : MapV w mm nm (lV sh)) (hwf : wfI a.shard) (hl : (lV sh a.shard).getD ldZ = .agg #[.pointer gp, .int .i64 ge]) (hsm : a.text.size ≤ 1100 ∧ a.aw.size ≤ 1100) (hmay : mayAsk a = true) (h0 : (a.epoch == 0) = false) (h1 : (a.epoch != ep) = false) (hg : gp = none) :
    Calls Tryz.prog 123 #[.pointer (some ⟨b, 0, none⟩), .agg #[.int .i64 a.slot, .int .i64 a.query, .int .i64 a.shard, .int .i64 a.seq, .int .i64 a.epoch, .string a.text, .int .i64 a.k, .int .i64 a.batch, .bool a.first, .int .i64 a.ad, .string a.aw]] w fun e w' => e = .returned (.tuple #[]) ∧ Below w.heap.size w w' := by
  have BX := Lib.hid (below_one w (.cells #[.int .i64 a.slot, .int .i64 a.query, .int .i64 a.shard, .int .i64 a.seq, .int .i64 a.epoch, .string a.text, .int .i64 a.k, .int .i64 a.batch, .bool a.first, .int .i64 a.ad, .string a.aw] 41))
  have IN := Lib.hid (MAskIn_new w a w.heap.size 41 (0, 0) rfl)
  obtain ⟨w1, hw1⟩ : ∃ w1, w.alloc (.cells #[.int .i64 a.slot, .int .i64 a.query, .int .i64 a.shard, .int .i64 a.seq, .int .i64 a.epoch, .string a.text, .int .i64 a.k, .int .i64 a.batch, .bool a.first, .int .i64 a.ad, .string a.aw] 41) = w1 := ⟨_, rfl⟩
  obtain ⟨p, hp⟩ : ∃ p, w.heap.size = p := ⟨_, rfl⟩
  rw [hw1] at BX IN
  rw [hp] at IN
  have X1 := hx.below BX.out
  have M1 := hm.below BX.out
  have SB := Lib.hid (show ∀ w', Below w1.heap.size w1 w' → ((Below w1.heap.size w1 w' ∧ (w'.cell? ⟨p, 0, none⟩ = some (.int .i64 a.slot) ∧ w'.cell? ⟨p, 1, none⟩ = some (.int .i64 a.query) ∧ w'.cell? ⟨p, 2, none⟩ = some (.int .i64 a.shard) ∧ w'.cell? ⟨p, 3, none⟩ = some (.int .i64 a.seq) ∧ w'.cell? ⟨p, 4, none⟩ = some (.int .i64 a.epoch) ∧ w'.cell? ⟨p, 5, none⟩ = some (.string a.text) ∧ w'.cell? ⟨p, 6, none⟩ = some (.int .i64 a.k) ∧ w'.cell? ⟨p, 7, none⟩ = some (.int .i64 a.batch) ∧ w'.cell? ⟨p, 8, none⟩ = some (.bool a.first) ∧ w'.cell? ⟨p, 9, none⟩ = some (.int .i64 a.ad) ∧ w'.cell? ⟨p, 10, none⟩ = some (.string a.aw))) ∧ (w'.cell? ⟨b, 4, none⟩ = some (.int .i64 ep) ∧ w'.cell? ⟨b, 6, none⟩ = some (.map (some mm))) ∧ (Instr.lookup 93 (.map (some mm)) (.int .i64 a.shard) false).run Tryz.prog w' = .ok (.agg #[.pointer gp, .int .i64 ge]) w') from fun w' hb =>
    ⟨⟨hb, IN.out.below hb⟩, ⟨(X1.below hb).c4, (X1.below hb).c6⟩, by rw [(M1.below hb).get_run mapTl a.shard hwf, hl]⟩)
  have CM := Lib.hid (fun (w' : World) (hb : Below w1.heap.size w1 w') => (show Calls Tryz.prog 32 #[.iface 41 (.agg #[.int .i64 a.slot, .int .i64 a.query, .int .i64 a.shard, .int .i64 a.seq, .int .i64 a.epoch, .string a.text, .int .i64 a.k, .int .i64 a.batch, .bool a.first, .int .i64 a.ad, .string a.aw])] w' fun e w'' => e = .returned (.bool (mayAsk a)) ∧ Below w'.heap.size w' w'' from mayOf_all (.ask a) w' trivial hsm))
  have HP := Lib.hid hp
  rw [hmay] at CM
  subst hg
  have fe := fun w0 => field_ld none ge w0
  clear hx hm hl hsm X1 M1
  go_enter Tryz.func123, Tryz.ntmps123
  go_upto_region 1 with fail
  try rw [hw1]
  try rw [hp]
  clear hw1 hp
  go_cut [32] from 4 to 32 (fun u wc => u = .bool true ∧ Hid (Below w1.heap.size w1 wc))
  case first =>
    have hS0 := SB.out w1.drew ((Below.refl _ _).drew)
    refine wp_region_held_drew (S := (fun w' => (Below w1.heap.size w1 w' ∧ (w'.cell? ⟨p, 0, none⟩ = some (.int .i64 a.slot) ∧ w'.cell? ⟨p, 1, none⟩ = some (.int .i64 a.query) ∧ w'.cell? ⟨p, 2, none⟩ = some (.int .i64 a.shard) ∧ w'.cell? ⟨p, 3, none⟩ = some (.int .i64 a.seq) ∧ w'.cell? ⟨p, 4, none⟩ = some (.int .i64 a.epoch) ∧ w'.cell? ⟨p, 5, none⟩ = some (.string a.text) ∧ w'.cell? ⟨p, 6, none⟩ = some (.int .i64 a.k) ∧ w'.cell? ⟨p, 7, none⟩ = some (.int .i64 a.batch) ∧ w'.cell? ⟨p, 8, none⟩ = some (.bool a.first) ∧ w'.cell? ⟨p, 9, none⟩ = some (.int .i64 a.ad) ∧ w'.cell? ⟨p, 10, none⟩ = some (.string a.aw))) ∧ (w'.cell? ⟨b, 4, none⟩ = some (.int .i64 ep) ∧ w'.cell? ⟨b, 6, none⟩ = some (.map (some mm))) ∧ (Instr.lookup 93 (.map (some mm)) (.int .i64 a.shard) false).run Tryz.prog w' = .ok (.agg #[.pointer none, .int .i64 ge]) w')) (by kernel_rfl) hS0 (fun hHeld0 => ?_)
    clear hS0
    generalize w1.drew = X0 at hHeld0 ⊢
    refine wpAnyH_take (i := 0) (oi := { dst := some 4, op := Op.load 41 (Operand.tmp 3), type := 41, pos := "worker.go:177", after := #[], guard := none }) (v := ?vz85) rfl (by kernel_rfl) (by kernel_rfl) (by kernel_rfl) (fun _ _ _ h => h) (Or.inl ⟨by rfl, ?hyz85⟩) (by assumption) ?restz85
    case hyz85 => (intro w hSw; (try dsimp only at hSw); go_simp; (try with_reducible rfl))
    try simp only [Act.put, List.setIfInBounds_toArray, List.set_cons_zero, List.set_cons_succ]
    refine wpAnyH_take (i := 1) (oi := { dst := some 5, op := Op.makeInterface 41 (Operand.tmp 4), type := 20, pos := "worker.go:177", after := #[{ on := 0, ground := Ground.data }], guard := none }) (v := ?vz86) rfl (by kernel_rfl) (by kernel_rfl) (by kernel_rfl) (fun _ _ _ h => h) (Or.inl ⟨by rfl, ?hyz86⟩) (by assumption) ?restz86
    case hyz86 => (intro w hSw; (try dsimp only at hSw); go_simp; (try with_reducible rfl))
    try simp only [Act.put, List.setIfInBounds_toArray, List.set_cons_zero, List.set_cons_succ]
    refine wpAnyH_ready (rs := [2]) (by kernel_rfl) (by simp) ?_
    refine AllReadyH.cons (o := { dst := some 6, op := Op.call { callee := Callee.value (Operand.func 32), args := #[Operand.tmp 5], argTypes := #[20] }, type := 4, pos := "worker.go:177", after := #[{ on := 1, ground := Ground.data }], guard := none }) rfl (fun K hK => ?_) AllReadyH.nil
    go_simp
    go_at_call 32
    with_reducible refine (CM.out _ hHeld0.1.1).mono ?_
    rintro e X1 ⟨rfl, hb⟩
    go_wp2_with fail
    have B1 := hHeld0.1.1.trans (hb.mono hHeld0.1.1.size)
    refine hK.out _ _ (SB.out _ B1) (fun hHeld1 => ?_)
    clear hb hK K hHeld0
    try simp only [Act.put, List.setIfInBounds_toArray, List.set_cons_zero, List.set_cons_succ]
    refine wpAnyH_take (i := 3) (oi := { dst := some 7, op := Op.unOp UnOp.not 4 (Operand.tmp 6), type := 4, pos := "worker.go:177", after := #[{ on := 2, ground := Ground.data }], guard := none }) (v := ?vz87) rfl (by kernel_rfl) (by kernel_rfl) (by kernel_rfl) (fun _ _ _ h => h) (Or.inl ⟨by rfl, ?hyz87⟩) (by assumption) ?restz87
    case hyz87 => (intro w hSw; (try dsimp only at hSw); go_simp; (try with_reducible rfl))
    try simp only [Act.put, List.setIfInBounds_toArray, List.set_cons_zero, List.set_cons_succ]
    refine wpAnyH_take (i := 4) (oi := { dst := some 8, op := Op.move (Operand.tmp 7), type := 4, pos := "worker.go:177", after := #[{ on := 3, ground := Ground.data }, { on := 2, ground := Ground.chain }], guard := none }) (v := ?vz88) rfl (by kernel_rfl) (by kernel_rfl) (by kernel_rfl) (fun _ _ _ h => h) (Or.inl ⟨by rfl, ?hyz88⟩) (by assumption) ?restz88
    case hyz88 => (intro w hSw; (try dsimp only at hSw); go_simp; (try with_reducible rfl))
    try simp only [Act.put, List.setIfInBounds_toArray, List.set_cons_zero, List.set_cons_succ]
    refine wpAnyH_take (i := 5) (oi := { dst := some 9, op := Op.fieldAddr 41 (Operand.tmp 3) 4, type := 0, pos := "worker.go:177", after := #[{ on := 4, ground := Ground.guard }], guard := some (4, false) }) (v := ?vz89) rfl (by kernel_rfl) (by kernel_rfl) (by kernel_rfl) (fun _ _ _ h => h) (Or.inl ⟨by rfl, ?hyz89⟩) (by assumption) ?restz89
    case hyz89 => (intro w hSw; (try dsimp only at hSw); go_simp; (try with_reducible rfl))
    try simp only [Act.put, List.setIfInBounds_toArray, List.set_cons_zero, List.set_cons_succ]
    refine wpAnyH_take (i := 6) (oi := { dst := some 10, op := Op.load 3 (Operand.tmp 9), type := 3, pos := "worker.go:177", after := #[{ on := 5, ground := Ground.data }, { on := 4, ground := Ground.guard }], guard := some (4, false) }) (v := ?vz90) rfl (by kernel_rfl) (by kernel_rfl) (by kernel_rfl) (fun _ _ _ h => h) (Or.inl ⟨by rfl, ?hyz90⟩) (by assumption) ?restz90
    case hyz90 => (intro w hSw; (try dsimp only at hSw); go_simp; (try with_reducible rfl))
    try simp only [Act.put, List.setIfInBounds_toArray, List.set_cons_zero, List.set_cons_succ]
    refine wpAnyH_take (i := 7) (oi := { dst := some 11, op := Op.binOp BinOp.eql 3 (Operand.tmp 10) (Operand.const (Value.int IntKind.i64 0)) 3, type := 4, pos := "worker.go:177", after := #[{ on := 6, ground := Ground.data }, { on := 4, ground := Ground.guard }], guard := some (4, false) }) (v := ?vz91) rfl (by kernel_rfl) (by kernel_rfl) (by kernel_rfl) (fun _ _ _ h => h) (Or.inl ⟨by rfl, ?hyz91⟩) (by assumption) ?restz91
    case hyz91 => (intro w hSw; (try dsimp only at hSw); go_simp; (try with_reducible rfl))
    try simp only [Act.put, List.setIfInBounds_toArray, List.set_cons_zero, List.set_cons_succ]
    refine wpAnyH_take (i := 8) (oi := { dst := some 12, op := Op.pick (Operand.tmp 8) (Operand.const (Value.bool true)) (Operand.tmp 11), type := 4, pos := "worker.go:177", after := #[{ on := 4, ground := Ground.data }, { on := 7, ground := Ground.data }], guard := none }) (v := ?vz92) rfl (by kernel_rfl) (by kernel_rfl) (by kernel_rfl) (fun _ _ _ h => h) (Or.inl ⟨by rfl, ?hyz92⟩) (by assumption) ?restz92
    case hyz92 => (intro w hSw; (try dsimp only at hSw); go_simp; (try with_reducible rfl))
    try simp only [Act.put, List.setIfInBounds_toArray, List.set_cons_zero, List.set_cons_succ]
    refine wpAnyH_take (i := 9) (oi := { dst := some 13, op := Op.move (Operand.tmp 12), type := 4, pos := "worker.go:177", after := #[{ on := 8, ground := Ground.data }, { on := 4, ground := Ground.chain }], guard := none }) (v := ?vz93) rfl (by kernel_rfl) (by kernel_rfl) (by kernel_rfl) (fun _ _ _ h => h) (Or.inl ⟨by rfl, ?hyz93⟩) (by assumption) ?restz93
    case hyz93 => (intro w hSw; (try dsimp only at hSw); go_simp; (try with_reducible rfl))
    try simp only [Act.put, List.setIfInBounds_toArray, List.set_cons_zero, List.set_cons_succ]
    refine wpAnyH_take (i := 10) (oi := { dst := some 14, op := Op.fieldAddr 41 (Operand.tmp 3) 4, type := 0, pos := "worker.go:177", after := #[{ on := 9, ground := Ground.guard }], guard := some (9, false) }) (v := ?vz94) rfl (by kernel_rfl) (by kernel_rfl) (by kernel_rfl) (fun _ _ _ h => h) (Or.inl ⟨by rfl, ?hyz94⟩) (by assumption) ?restz94
    case hyz94 => (intro w hSw; (try dsimp only at hSw); go_simp; (try with_reducible rfl))
    try simp only [Act.put, List.setIfInBounds_toArray, List.set_cons_zero, List.set_cons_succ]
    refine wpAnyH_take (i := 11) (oi := { dst := some 15, op := Op.load 3 (Operand.tmp 14), type := 3, pos := "worker.go:177", after := #[{ on := 10, ground := Ground.data }, { on := 9, ground := Ground.guard }], guard := some (9, false) }) (v := ?vz95) rfl (by kernel_rfl) (by kernel_rfl) (by kernel_rfl) (fun _ _ _ h => h) (Or.inl ⟨by rfl, ?hyz95⟩) (by assumption) ?restz95
    case hyz95 => (intro w hSw; (try dsimp only at hSw); go_simp; (try with_reducible rfl))
    try simp only [Act.put, List.setIfInBounds_toArray, List.set_cons_zero, List.set_cons_succ]
    refine wpAnyH_take (i := 12) (oi := { dst := some 16, op := Op.move (Operand.tmp 0), type := 29, pos := "worker.go:177", after := #[{ on := 9, ground := Ground.guard }], guard := some (9, false) }) (v := ?vz96) rfl (by kernel_rfl) (by kernel_rfl) (by kernel_rfl) (fun _ _ _ h => h) (Or.inl ⟨by rfl, ?hyz96⟩) (by assumption) ?restz96
    case hyz96 => (intro w hSw; (try dsimp only at hSw); go_simp; (try with_reducible rfl))
    try simp only [Act.put, List.setIfInBounds_toArray, List.set_cons_zero, List.set_cons_succ]
    refine wpAnyH_take (i := 13) (oi := { dst := some 17, op := Op.nilCheck (Operand.tmp 16), type := 0, pos := "worker.go:177", after := #[{ on := 12, ground := Ground.data }, { on := 9, ground := Ground.guard }], guard := some (9, false) }) (v := ?vz97) rfl (by kernel_rfl) (by kernel_rfl) (by kernel_rfl) (fun _ _ _ h => h) (Or.inl ⟨by rfl, ?hyz97⟩) (by assumption) ?restz97
    case hyz97 => (intro w hSw; (try dsimp only at hSw); go_simp; (try with_reducible rfl))
    try simp only [Act.put, List.setIfInBounds_toArray, List.set_cons_zero, List.set_cons_succ]
    refine wpAnyH_take (i := 14) (oi := { dst := some 18, op := Op.fieldAddr 95 (Operand.tmp 17) 4, type := 0, pos := "worker.go:177", after := #[{ on := 13, ground := Ground.data }, { on := 9, ground := Ground.guard }], guard := some (9, false) }) (v := ?vz98) rfl (by kernel_rfl) (by kernel_rfl) (by kernel_rfl) (fun _ _ _ h => h) (Or.inl ⟨by rfl, ?hyz98⟩) (by assumption) ?restz98
    case hyz98 => (intro w hSw; (try dsimp only at hSw); go_simp; (try with_reducible rfl))
    try simp only [Act.put, List.setIfInBounds_toArray, List.set_cons_zero, List.set_cons_succ]
    refine wpAnyH_take (i := 15) (oi := { dst := some 19, op := Op.load 3 (Operand.tmp 18), type := 3, pos := "worker.go:177", after := #[{ on := 14, ground := Ground.data }, { on := 9, ground := Ground.guard }], guard := some (9, false) }) (v := ?vz99) rfl (by kernel_rfl) (by kernel_rfl) (by kernel_rfl) (fun _ _ _ h => h) (Or.inl ⟨by rfl, ?hyz99⟩) (by assumption) ?restz99
    case hyz99 => (intro w hSw; (try dsimp only at hSw); go_simp; (try with_reducible rfl))
    try simp only [Act.put, List.setIfInBounds_toArray, List.set_cons_zero, List.set_cons_succ]
    refine wpAnyH_take (i := 16) (oi := { dst := some 20, op := Op.binOp BinOp.neq 3 (Operand.tmp 15) (Operand.tmp 19) 3, type := 4, pos := "worker.go:177", after := #[{ on := 11, ground := Ground.data }, { on := 15, ground := Ground.data }, { on := 9, ground := Ground.guard }], guard := some (9, false) }) (v := ?vz100) rfl (by kernel_rfl) (by kernel_rfl) (by kernel_rfl) (fun _ _ _ h => h) (Or.inl ⟨by rfl, ?hyz100⟩) (by assumption) ?restz100
    case hyz100 => (intro w hSw; (try dsimp only at hSw); go_simp; (try with_reducible rfl))
    try simp only [Act.put, List.setIfInBounds_toArray, List.set_cons_zero, List.set_cons_succ]
    refine wpAnyH_take (i := 17) (oi := { dst := some 21, op := Op.pick (Operand.tmp 13) (Operand.const (Value.bool true)) (Operand.tmp 20), type := 4, pos := "worker.go:177", after := #[{ on := 9, ground := Ground.data }, { on := 16, ground := Ground.data }], guard := none }) (v := ?vz101) rfl (by kernel_rfl) (by kernel_rfl) (by kernel_rfl) (fun _ _ _ h => h) (Or.inl ⟨by rfl, ?hyz101⟩) (by assumption) ?restz101
    case hyz101 => (intro w hSw; (try dsimp only at hSw); go_simp; (try with_reducible rfl))
    try simp only [Act.put, List.setIfInBounds_toArray, List.set_cons_zero, List.set_cons_succ]
    refine wpAnyH_take (i := 18) (oi := { dst := some 22, op := Op.move (Operand.tmp 21), type := 4, pos := "worker.go:177", after := #[{ on := 17, ground := Ground.data }, { on := 9, ground := Ground.chain }], guard := none }) (v := ?vz102) rfl (by kernel_rfl) (by kernel_rfl) (by kernel_rfl) (fun _ _ _ h => h) (Or.inl ⟨by rfl, ?hyz102⟩) (by assumption) ?restz102
    case hyz102 => (intro w hSw; (try dsimp only at hSw); go_simp; (try with_reducible rfl))
    try simp only [Act.put, List.setIfInBounds_toArray, List.set_cons_zero, List.set_cons_succ]
    refine wpAnyH_take (i := 19) (oi := { dst := some 23, op := Op.move (Operand.tmp 0), type := 29, pos := "worker.go:177", after := #[{ on := 18, ground := Ground.guard }], guard := some (18, false) }) (v := ?vz103) rfl (by kernel_rfl) (by kernel_rfl) (by kernel_rfl) (fun _ _ _ h => h) (Or.inl ⟨by rfl, ?hyz103⟩) (by assumption) ?restz103
    case hyz103 => (intro w hSw; (try dsimp only at hSw); go_simp; (try with_reducible rfl))
    try simp only [Act.put, List.setIfInBounds_toArray, List.set_cons_zero, List.set_cons_succ]
    refine wpAnyH_take (i := 20) (oi := { dst := some 24, op := Op.nilCheck (Operand.tmp 23), type := 0, pos := "worker.go:177", after := #[{ on := 19, ground := Ground.data }, { on := 18, ground := Ground.guard }], guard := some (18, false) }) (v := ?vz104) rfl (by kernel_rfl) (by kernel_rfl) (by kernel_rfl) (fun _ _ _ h => h) (Or.inl ⟨by rfl, ?hyz104⟩) (by assumption) ?restz104
    case hyz104 => (intro w hSw; (try dsimp only at hSw); go_simp; (try with_reducible rfl))
    try simp only [Act.put, List.setIfInBounds_toArray, List.set_cons_zero, List.set_cons_succ]
    refine wpAnyH_take (i := 21) (oi := { dst := some 25, op := Op.fieldAddr 95 (Operand.tmp 24) 6, type := 0, pos := "worker.go:177", after := #[{ on := 20, ground := Ground.data }, { on := 18, ground := Ground.guard }], guard := some (18, false) }) (v := ?vz105) rfl (by kernel_rfl) (by kernel_rfl) (by kernel_rfl) (fun _ _ _ h => h) (Or.inl ⟨by rfl, ?hyz105⟩) (by assumption) ?restz105
    case hyz105 => (intro w hSw; (try dsimp only at hSw); go_simp; (try with_reducible rfl))
    try simp only [Act.put, List.setIfInBounds_toArray, List.set_cons_zero, List.set_cons_succ]
    refine wpAnyH_take (i := 22) (oi := { dst := some 26, op := Op.load 93 (Operand.tmp 25), type := 93, pos := "worker.go:177", after := #[{ on := 21, ground := Ground.data }, { on := 18, ground := Ground.guard }], guard := some (18, false) }) (v := ?vz106) rfl (by kernel_rfl) (by kernel_rfl) (by kernel_rfl) (fun _ _ _ h => h) (Or.inl ⟨by rfl, ?hyz106⟩) (by assumption) ?restz106
    case hyz106 => (intro w hSw; (try dsimp only at hSw); go_simp; (try with_reducible rfl))
    try simp only [Act.put, List.setIfInBounds_toArray, List.set_cons_zero, List.set_cons_succ]
    refine wpAnyH_take (i := 23) (oi := { dst := some 27, op := Op.fieldAddr 41 (Operand.tmp 3) 2, type := 0, pos := "worker.go:177", after := #[{ on := 18, ground := Ground.guard }], guard := some (18, false) }) (v := ?vz107) rfl (by kernel_rfl) (by kernel_rfl) (by kernel_rfl) (fun _ _ _ h => h) (Or.inl ⟨by rfl, ?hyz107⟩) (by assumption) ?restz107
    case hyz107 => (intro w hSw; (try dsimp only at hSw); go_simp; (try with_reducible rfl))
    try simp only [Act.put, List.setIfInBounds_toArray, List.set_cons_zero, List.set_cons_succ]
    refine wpAnyH_take (i := 24) (oi := { dst := some 28, op := Op.load 3 (Operand.tmp 27), type := 3, pos := "worker.go:177", after := #[{ on := 23, ground := Ground.data }, { on := 18, ground := Ground.guard }], guard := some (18, false) }) (v := ?vz108) rfl (by kernel_rfl) (by kernel_rfl) (by kernel_rfl) (fun _ _ _ h => h) (Or.inl ⟨by rfl, ?hyz108⟩) (by assumption) ?restz108
    case hyz108 => (intro w hSw; (try dsimp only at hSw); go_simp; (try with_reducible rfl))
    try simp only [Act.put, List.setIfInBounds_toArray, List.set_cons_zero, List.set_cons_succ]
    refine wpAnyH_take (i := 25) (oi := { dst := some 29, op := Op.lookup 93 (Operand.tmp 26) (Operand.tmp 28) false, type := 132, pos := "worker.go:177", after := #[{ on := 22, ground := Ground.data }, { on := 24, ground := Ground.data }, { on := 18, ground := Ground.guard }], guard := some (18, false) }) (v := ?vz109) rfl (by kernel_rfl) (by kernel_rfl) (by kernel_rfl) (fun _ _ _ h => h) (Or.inl ⟨by rfl, ?hyz109⟩) (by assumption) ?restz109
    case hyz109 => (intro w hSw; (try dsimp only at hSw); go_simp; (try with_reducible rfl))
    try simp only [Act.put, List.setIfInBounds_toArray, List.set_cons_zero, List.set_cons_succ]
    refine wpAnyH_take (i := 26) (oi := { dst := some 30, op := Op.field 132 (Operand.tmp 29) 0, type := 130, pos := "worker.go:177", after := #[{ on := 25, ground := Ground.data }, { on := 18, ground := Ground.guard }], guard := some (18, false) }) (v := ?vz110) rfl (by kernel_rfl) (by kernel_rfl) (by kernel_rfl) (fun _ _ _ h => h) (Or.inl ⟨by rfl, ?hyz110⟩) (by assumption) ?restz110
    case hyz110 => (intro w hSw; (try dsimp only at hSw); go_simp; (try with_reducible rfl))
    try simp only [Act.put, List.setIfInBounds_toArray, List.set_cons_zero, List.set_cons_succ]
    refine wpAnyH_take (i := 27) (oi := { dst := some 31, op := Op.binOp BinOp.eql 130 (Operand.tmp 30) (Operand.const (Value.pointer none)) 130, type := 4, pos := "worker.go:177", after := #[{ on := 26, ground := Ground.data }, { on := 18, ground := Ground.guard }], guard := some (18, false) }) (v := ?vz111) rfl (by kernel_rfl) (by kernel_rfl) (by kernel_rfl) (fun _ _ _ h => h) (Or.inl ⟨by rfl, ?hyz111⟩) (by assumption) ?restz111
    case hyz111 => (intro w hSw; (try dsimp only at hSw); go_simp; (try with_reducible rfl))
    try simp only [Act.put, List.setIfInBounds_toArray, List.set_cons_zero, List.set_cons_succ]
    refine wpAnyH_take (i := 28) (oi := { dst := some 32, op := Op.pick (Operand.tmp 22) (Operand.const (Value.bool true)) (Operand.tmp 31), type := 4, pos := "worker.go:177", after := #[{ on := 18, ground := Ground.data }, { on := 27, ground := Ground.data }], guard := none }) (v := ?vz112) rfl (by kernel_rfl) (by kernel_rfl) (by kernel_rfl) (fun _ _ _ h => h) (Or.inl ⟨by rfl, ?hyz112⟩) (by assumption) ?restz112
    case hyz112 => (intro w hSw; (try dsimp only at hSw); go_simp; (try with_reducible rfl))
    try simp only [Act.put, List.setIfInBounds_toArray, List.set_cons_zero, List.set_cons_succ]
    refine wpAnyH_done (by kernel_rfl) ?_ _
    go_wp2_with fail
    go_meet
    exact ⟨rfl, Lib.hid hHeld1.1.1⟩
  case rest =>
    obtain ⟨rfl, hB⟩ := hcut
    go_wp2_with fail
    (try simp only [Exit.inBlock, Exit.then])
    refine bodyPost_ret (results_none rfl _ _ _) rfl ?_
    exact ⟨rfl, BX.out.trans (hB.out.mono BX.out.size)⟩
set_option maxHeartbeats 1600000 in
theorem asked_yes {b d mm nm : Nat} {id wl ep : Int} {q : Nat} {SQ : Nat → Prop} {L : List AskP} {sh : Int → Option LD} (a : AskP) (gp : Option Addr) (ge : Int) (w : World) (hx : WBox w b d id true wl ep (some q) (some mm)) (hm : MapV w mm nm (lV sh)) (hwf : wfI a.shard) (hl : (lV sh a.shard).getD ldZ = .agg #[.pointer gp, .int .i64 ge]) (hsm : a.text.size ≤ 1100 ∧ a.aw.size ≤ 1100) (hq : QAt w q L SQ) (hbq : ¬ SQ b) (hgo : Qu.Good L) (hmay : mayAsk a = true) (h0 : (a.epoch == 0) = false) (h1 : (a.epoch != ep) = false) (g : Addr) (hg : gp = some g) :
    Calls Tryz.prog 123 #[.pointer (some ⟨b, 0, none⟩), .agg #[.int .i64 a.slot, .int .i64 a.query, .int .i64 a.shard, .int .i64 a.seq, .int .i64 a.epoch, .string a.text, .int .i64 a.k, .int .i64 a.batch, .bool a.first, .int .i64 a.ad, .string a.aw]] w fun e w' => e = .returned (.tuple #[]) ∧ ∃ SQ2, QAt w' q (Qu.push L a) SQ2 ∧ (∀ k, SQ2 k → SQ k ∨ w.heap.size ≤ k) ∧ Turn SQ w w' := by
  have BX := Lib.hid (below_one w (.cells #[.int .i64 a.slot, .int .i64 a.query, .int .i64 a.shard, .int .i64 a.seq, .int .i64 a.epoch, .string a.text, .int .i64 a.k, .int .i64 a.batch, .bool a.first, .int .i64 a.ad, .string a.aw] 41))
  have IN := Lib.hid (MAskIn_new w a w.heap.size 41 (0, 0) rfl)
  obtain ⟨w1, hw1⟩ : ∃ w1, w.alloc (.cells #[.int .i64 a.slot, .int .i64 a.query, .int .i64 a.shard, .int .i64 a.seq, .int .i64 a.epoch, .string a.text, .int .i64 a.k, .int .i64 a.batch, .bool a.first, .int .i64 a.ad, .string a.aw] 41) = w1 := ⟨_, rfl⟩
  obtain ⟨p, hp⟩ : ∃ p, w.heap.size = p := ⟨_, rfl⟩
  rw [hw1] at BX IN
  rw [hp] at IN
  have X1 := hx.below BX.out
  have M1 := hm.below BX.out
  have SB := Lib.hid (show ∀ w', Below w1.heap.size w1 w' → ((Below w1.heap.size w1 w' ∧ (w'.cell? ⟨p, 0, none⟩ = some (.int .i64 a.slot) ∧ w'.cell? ⟨p, 1, none⟩ = some (.int .i64 a.query) ∧ w'.cell? ⟨p, 2, none⟩ = some (.int .i64 a.shard) ∧ w'.cell? ⟨p, 3, none⟩ = some (.int .i64 a.seq) ∧ w'.cell? ⟨p, 4, none⟩ = some (.int .i64 a.epoch) ∧ w'.cell? ⟨p, 5, none⟩ = some (.string a.text) ∧ w'.cell? ⟨p, 6, none⟩ = some (.int .i64 a.k) ∧ w'.cell? ⟨p, 7, none⟩ = some (.int .i64 a.batch) ∧ w'.cell? ⟨p, 8, none⟩ = some (.bool a.first) ∧ w'.cell? ⟨p, 9, none⟩ = some (.int .i64 a.ad) ∧ w'.cell? ⟨p, 10, none⟩ = some (.string a.aw))) ∧ (w'.cell? ⟨b, 4, none⟩ = some (.int .i64 ep) ∧ w'.cell? ⟨b, 6, none⟩ = some (.map (some mm))) ∧ (Instr.lookup 93 (.map (some mm)) (.int .i64 a.shard) false).run Tryz.prog w' = .ok (.agg #[.pointer gp, .int .i64 ge]) w') from fun w' hb =>
    ⟨⟨hb, IN.out.below hb⟩, ⟨(X1.below hb).c4, (X1.below hb).c6⟩, by rw [(M1.below hb).get_run mapTl a.shard hwf, hl]⟩)
  have CM := Lib.hid (fun (w' : World) (hb : Below w1.heap.size w1 w') => (show Calls Tryz.prog 32 #[.iface 41 (.agg #[.int .i64 a.slot, .int .i64 a.query, .int .i64 a.shard, .int .i64 a.seq, .int .i64 a.epoch, .string a.text, .int .i64 a.k, .int .i64 a.batch, .bool a.first, .int .i64 a.ad, .string a.aw])] w' fun e w'' => e = .returned (.bool (mayAsk a)) ∧ Below w'.heap.size w' w'' from mayOf_all (.ask a) w' trivial hsm))
  have HP := Lib.hid hp
  have XX := Lib.hid X1
  have HQ := Lib.hid hq
  have HGO := Lib.hid hgo
  have NB := Lib.hid hbq
  have QL := Lib.hid hq.lt
  rw [hmay] at CM
  subst hg
  have fe := fun w0 => field_ld (some g) ge w0
  clear hq hgo hbq
  clear hx hm hl hsm X1 M1
  go_enter Tryz.func123, Tryz.ntmps123
  go_upto_region 1 with fail
  try rw [hw1]
  try rw [hp]
  clear hw1 hp
  go_cut [32] from 4 to 32 (fun u wc => u = .bool false ∧ Hid (Below w1.heap.size w1 wc))
  case first =>
    have hS0 := SB.out w1.drew ((Below.refl _ _).drew)
    refine wp_region_held_drew (S := (fun w' => (Below w1.heap.size w1 w' ∧ (w'.cell? ⟨p, 0, none⟩ = some (.int .i64 a.slot) ∧ w'.cell? ⟨p, 1, none⟩ = some (.int .i64 a.query) ∧ w'.cell? ⟨p, 2, none⟩ = some (.int .i64 a.shard) ∧ w'.cell? ⟨p, 3, none⟩ = some (.int .i64 a.seq) ∧ w'.cell? ⟨p, 4, none⟩ = some (.int .i64 a.epoch) ∧ w'.cell? ⟨p, 5, none⟩ = some (.string a.text) ∧ w'.cell? ⟨p, 6, none⟩ = some (.int .i64 a.k) ∧ w'.cell? ⟨p, 7, none⟩ = some (.int .i64 a.batch) ∧ w'.cell? ⟨p, 8, none⟩ = some (.bool a.first) ∧ w'.cell? ⟨p, 9, none⟩ = some (.int .i64 a.ad) ∧ w'.cell? ⟨p, 10, none⟩ = some (.string a.aw))) ∧ (w'.cell? ⟨b, 4, none⟩ = some (.int .i64 ep) ∧ w'.cell? ⟨b, 6, none⟩ = some (.map (some mm))) ∧ (Instr.lookup 93 (.map (some mm)) (.int .i64 a.shard) false).run Tryz.prog w' = .ok (.agg #[.pointer (some g), .int .i64 ge]) w')) (by kernel_rfl) hS0 (fun hHeld0 => ?_)
    clear hS0
    generalize w1.drew = X0 at hHeld0 ⊢
    refine wpAnyH_take (i := 0) (oi := { dst := some 4, op := Op.load 41 (Operand.tmp 3), type := 41, pos := "worker.go:177", after := #[], guard := none }) (v := ?vz118) rfl (by kernel_rfl) (by kernel_rfl) (by kernel_rfl) (fun _ _ _ h => h) (Or.inl ⟨by rfl, ?hyz118⟩) (by assumption) ?restz118
    case hyz118 => (intro w hSw; (try dsimp only at hSw); go_simp; (try with_reducible rfl))
    try simp only [Act.put, List.setIfInBounds_toArray, List.set_cons_zero, List.set_cons_succ]
    refine wpAnyH_take (i := 1) (oi := { dst := some 5, op := Op.makeInterface 41 (Operand.tmp 4), type := 20, pos := "worker.go:177", after := #[{ on := 0, ground := Ground.data }], guard := none }) (v := ?vz119) rfl (by kernel_rfl) (by kernel_rfl) (by kernel_rfl) (fun _ _ _ h => h) (Or.inl ⟨by rfl, ?hyz119⟩) (by assumption) ?restz119
    case hyz119 => (intro w hSw; (try dsimp only at hSw); go_simp; (try with_reducible rfl))
    try simp only [Act.put, List.setIfInBounds_toArray, List.set_cons_zero, List.set_cons_succ]
    refine wpAnyH_ready (rs := [2]) (by kernel_rfl) (by simp) ?_
    refine AllReadyH.cons (o := { dst := some 6, op := Op.call { callee := Callee.value (Operand.func 32), args := #[Operand.tmp 5], argTypes := #[20] }, type := 4, pos := "worker.go:177", after := #[{ on := 1, ground := Ground.data }], guard := none }) rfl (fun K hK => ?_) AllReadyH.nil
    go_simp
    go_at_call 32
    with_reducible refine (CM.out _ hHeld0.1.1).mono ?_
    rintro e X1 ⟨rfl, hb⟩
    go_wp2_with fail
    have B1 := hHeld0.1.1.trans (hb.mono hHeld0.1.1.size)
    refine hK.out _ _ (SB.out _ B1) (fun hHeld1 => ?_)
    clear hb hK K hHeld0
    try simp only [Act.put, List.setIfInBounds_toArray, List.set_cons_zero, List.set_cons_succ]
    refine wpAnyH_take (i := 3) (oi := { dst := some 7, op := Op.unOp UnOp.not 4 (Operand.tmp 6), type := 4, pos := "worker.go:177", after := #[{ on := 2, ground := Ground.data }], guard := none }) (v := ?vz120) rfl (by kernel_rfl) (by kernel_rfl) (by kernel_rfl) (fun _ _ _ h => h) (Or.inl ⟨by rfl, ?hyz120⟩) (by assumption) ?restz120
    case hyz120 => (intro w hSw; (try dsimp only at hSw); go_simp; (try with_reducible rfl))
    try simp only [Act.put, List.setIfInBounds_toArray, List.set_cons_zero, List.set_cons_succ]
    refine wpAnyH_take (i := 4) (oi := { dst := some 8, op := Op.move (Operand.tmp 7), type := 4, pos := "worker.go:177", after := #[{ on := 3, ground := Ground.data }, { on := 2, ground := Ground.chain }], guard := none }) (v := ?vz121) rfl (by kernel_rfl) (by kernel_rfl) (by kernel_rfl) (fun _ _ _ h => h) (Or.inl ⟨by rfl, ?hyz121⟩) (by assumption) ?restz121
    case hyz121 => (intro w hSw; (try dsimp only at hSw); go_simp; (try with_reducible rfl))
    try simp only [Act.put, List.setIfInBounds_toArray, List.set_cons_zero, List.set_cons_succ]
    refine wpAnyH_take (i := 5) (oi := { dst := some 9, op := Op.fieldAddr 41 (Operand.tmp 3) 4, type := 0, pos := "worker.go:177", after := #[{ on := 4, ground := Ground.guard }], guard := some (4, false) }) (v := ?vz122) rfl (by kernel_rfl) (by kernel_rfl) (by kernel_rfl) (fun _ _ _ h => h) (Or.inl ⟨by rfl, ?hyz122⟩) (by assumption) ?restz122
    case hyz122 => (intro w hSw; (try dsimp only at hSw); go_simp; (try with_reducible rfl))
    try simp only [Act.put, List.setIfInBounds_toArray, List.set_cons_zero, List.set_cons_succ]
    refine wpAnyH_take (i := 6) (oi := { dst := some 10, op := Op.load 3 (Operand.tmp 9), type := 3, pos := "worker.go:177", after := #[{ on := 5, ground := Ground.data }, { on := 4, ground := Ground.guard }], guard := some (4, false) }) (v := ?vz123) rfl (by kernel_rfl) (by kernel_rfl) (by kernel_rfl) (fun _ _ _ h => h) (Or.inl ⟨by rfl, ?hyz123⟩) (by assumption) ?restz123
    case hyz123 => (intro w hSw; (try dsimp only at hSw); go_simp; (try with_reducible rfl))
    try simp only [Act.put, List.setIfInBounds_toArray, List.set_cons_zero, List.set_cons_succ]
    refine wpAnyH_take (i := 7) (oi := { dst := some 11, op := Op.binOp BinOp.eql 3 (Operand.tmp 10) (Operand.const (Value.int IntKind.i64 0)) 3, type := 4, pos := "worker.go:177", after := #[{ on := 6, ground := Ground.data }, { on := 4, ground := Ground.guard }], guard := some (4, false) }) (v := ?vz124) rfl (by kernel_rfl) (by kernel_rfl) (by kernel_rfl) (fun _ _ _ h => h) (Or.inl ⟨by rfl, ?hyz124⟩) (by assumption) ?restz124
    case hyz124 => (intro w hSw; (try dsimp only at hSw); go_simp; (try with_reducible rfl))
    try simp only [Act.put, List.setIfInBounds_toArray, List.set_cons_zero, List.set_cons_succ]
    refine wpAnyH_take (i := 8) (oi := { dst := some 12, op := Op.pick (Operand.tmp 8) (Operand.const (Value.bool true)) (Operand.tmp 11), type := 4, pos := "worker.go:177", after := #[{ on := 4, ground := Ground.data }, { on := 7, ground := Ground.data }], guard := none }) (v := ?vz125) rfl (by kernel_rfl) (by kernel_rfl) (by kernel_rfl) (fun _ _ _ h => h) (Or.inl ⟨by rfl, ?hyz125⟩) (by assumption) ?restz125
    case hyz125 => (intro w hSw; (try dsimp only at hSw); go_simp; (try with_reducible rfl))
    try simp only [Act.put, List.setIfInBounds_toArray, List.set_cons_zero, List.set_cons_succ]
    refine wpAnyH_take (i := 9) (oi := { dst := some 13, op := Op.move (Operand.tmp 12), type := 4, pos := "worker.go:177", after := #[{ on := 8, ground := Ground.data }, { on := 4, ground := Ground.chain }], guard := none }) (v := ?vz126) rfl (by kernel_rfl) (by kernel_rfl) (by kernel_rfl) (fun _ _ _ h => h) (Or.inl ⟨by rfl, ?hyz126⟩) (by assumption) ?restz126
    case hyz126 => (intro w hSw; (try dsimp only at hSw); go_simp; (try with_reducible rfl))
    try simp only [Act.put, List.setIfInBounds_toArray, List.set_cons_zero, List.set_cons_succ]
    refine wpAnyH_take (i := 10) (oi := { dst := some 14, op := Op.fieldAddr 41 (Operand.tmp 3) 4, type := 0, pos := "worker.go:177", after := #[{ on := 9, ground := Ground.guard }], guard := some (9, false) }) (v := ?vz127) rfl (by kernel_rfl) (by kernel_rfl) (by kernel_rfl) (fun _ _ _ h => h) (Or.inl ⟨by rfl, ?hyz127⟩) (by assumption) ?restz127
    case hyz127 => (intro w hSw; (try dsimp only at hSw); go_simp; (try with_reducible rfl))
    try simp only [Act.put, List.setIfInBounds_toArray, List.set_cons_zero, List.set_cons_succ]
    refine wpAnyH_take (i := 11) (oi := { dst := some 15, op := Op.load 3 (Operand.tmp 14), type := 3, pos := "worker.go:177", after := #[{ on := 10, ground := Ground.data }, { on := 9, ground := Ground.guard }], guard := some (9, false) }) (v := ?vz128) rfl (by kernel_rfl) (by kernel_rfl) (by kernel_rfl) (fun _ _ _ h => h) (Or.inl ⟨by rfl, ?hyz128⟩) (by assumption) ?restz128
    case hyz128 => (intro w hSw; (try dsimp only at hSw); go_simp; (try with_reducible rfl))
    try simp only [Act.put, List.setIfInBounds_toArray, List.set_cons_zero, List.set_cons_succ]
    refine wpAnyH_take (i := 12) (oi := { dst := some 16, op := Op.move (Operand.tmp 0), type := 29, pos := "worker.go:177", after := #[{ on := 9, ground := Ground.guard }], guard := some (9, false) }) (v := ?vz129) rfl (by kernel_rfl) (by kernel_rfl) (by kernel_rfl) (fun _ _ _ h => h) (Or.inl ⟨by rfl, ?hyz129⟩) (by assumption) ?restz129
    case hyz129 => (intro w hSw; (try dsimp only at hSw); go_simp; (try with_reducible rfl))
    try simp only [Act.put, List.setIfInBounds_toArray, List.set_cons_zero, List.set_cons_succ]
    refine wpAnyH_take (i := 13) (oi := { dst := some 17, op := Op.nilCheck (Operand.tmp 16), type := 0, pos := "worker.go:177", after := #[{ on := 12, ground := Ground.data }, { on := 9, ground := Ground.guard }], guard := some (9, false) }) (v := ?vz130) rfl (by kernel_rfl) (by kernel_rfl) (by kernel_rfl) (fun _ _ _ h => h) (Or.inl ⟨by rfl, ?hyz130⟩) (by assumption) ?restz130
    case hyz130 => (intro w hSw; (try dsimp only at hSw); go_simp; (try with_reducible rfl))
    try simp only [Act.put, List.setIfInBounds_toArray, List.set_cons_zero, List.set_cons_succ]
    refine wpAnyH_take (i := 14) (oi := { dst := some 18, op := Op.fieldAddr 95 (Operand.tmp 17) 4, type := 0, pos := "worker.go:177", after := #[{ on := 13, ground := Ground.data }, { on := 9, ground := Ground.guard }], guard := some (9, false) }) (v := ?vz131) rfl (by kernel_rfl) (by kernel_rfl) (by kernel_rfl) (fun _ _ _ h => h) (Or.inl ⟨by rfl, ?hyz131⟩) (by assumption) ?restz131
    case hyz131 => (intro w hSw; (try dsimp only at hSw); go_simp; (try with_reducible rfl))
    try simp only [Act.put, List.setIfInBounds_toArray, List.set_cons_zero, List.set_cons_succ]
    refine wpAnyH_take (i := 15) (oi := { dst := some 19, op := Op.load 3 (Operand.tmp 18), type := 3, pos := "worker.go:177", after := #[{ on := 14, ground := Ground.data }, { on := 9, ground := Ground.guard }], guard := some (9, false) }) (v := ?vz132) rfl (by kernel_rfl) (by kernel_rfl) (by kernel_rfl) (fun _ _ _ h => h) (Or.inl ⟨by rfl, ?hyz132⟩) (by assumption) ?restz132
    case hyz132 => (intro w hSw; (try dsimp only at hSw); go_simp; (try with_reducible rfl))
    try simp only [Act.put, List.setIfInBounds_toArray, List.set_cons_zero, List.set_cons_succ]
    refine wpAnyH_take (i := 16) (oi := { dst := some 20, op := Op.binOp BinOp.neq 3 (Operand.tmp 15) (Operand.tmp 19) 3, type := 4, pos := "worker.go:177", after := #[{ on := 11, ground := Ground.data }, { on := 15, ground := Ground.data }, { on := 9, ground := Ground.guard }], guard := some (9, false) }) (v := ?vz133) rfl (by kernel_rfl) (by kernel_rfl) (by kernel_rfl) (fun _ _ _ h => h) (Or.inl ⟨by rfl, ?hyz133⟩) (by assumption) ?restz133
    case hyz133 => (intro w hSw; (try dsimp only at hSw); go_simp; (try with_reducible rfl))
    try simp only [Act.put, List.setIfInBounds_toArray, List.set_cons_zero, List.set_cons_succ]
    refine wpAnyH_take (i := 17) (oi := { dst := some 21, op := Op.pick (Operand.tmp 13) (Operand.const (Value.bool true)) (Operand.tmp 20), type := 4, pos := "worker.go:177", after := #[{ on := 9, ground := Ground.data }, { on := 16, ground := Ground.data }], guard := none }) (v := ?vz134) rfl (by kernel_rfl) (by kernel_rfl) (by kernel_rfl) (fun _ _ _ h => h) (Or.inl ⟨by rfl, ?hyz134⟩) (by assumption) ?restz134
    case hyz134 => (intro w hSw; (try dsimp only at hSw); go_simp; (try with_reducible rfl))
    try simp only [Act.put, List.setIfInBounds_toArray, List.set_cons_zero, List.set_cons_succ]
    refine wpAnyH_take (i := 18) (oi := { dst := some 22, op := Op.move (Operand.tmp 21), type := 4, pos := "worker.go:177", after := #[{ on := 17, ground := Ground.data }, { on := 9, ground := Ground.chain }], guard := none }) (v := ?vz135) rfl (by kernel_rfl) (by kernel_rfl) (by kernel_rfl) (fun _ _ _ h => h) (Or.inl ⟨by rfl, ?hyz135⟩) (by assumption) ?restz135
    case hyz135 => (intro w hSw; (try dsimp only at hSw); go_simp; (try with_reducible rfl))
    try simp only [Act.put, List.setIfInBounds_toArray, List.set_cons_zero, List.set_cons_succ]
    refine wpAnyH_take (i := 19) (oi := { dst := some 23, op := Op.move (Operand.tmp 0), type := 29, pos := "worker.go:177", after := #[{ on := 18, ground := Ground.guard }], guard := some (18, false) }) (v := ?vz136) rfl (by kernel_rfl) (by kernel_rfl) (by kernel_rfl) (fun _ _ _ h => h) (Or.inl ⟨by rfl, ?hyz136⟩) (by assumption) ?restz136
    case hyz136 => (intro w hSw; (try dsimp only at hSw); go_simp; (try with_reducible rfl))
    try simp only [Act.put, List.setIfInBounds_toArray, List.set_cons_zero, List.set_cons_succ]
    refine wpAnyH_take (i := 20) (oi := { dst := some 24, op := Op.nilCheck (Operand.tmp 23), type := 0, pos := "worker.go:177", after := #[{ on := 19, ground := Ground.data }, { on := 18, ground := Ground.guard }], guard := some (18, false) }) (v := ?vz137) rfl (by kernel_rfl) (by kernel_rfl) (by kernel_rfl) (fun _ _ _ h => h) (Or.inl ⟨by rfl, ?hyz137⟩) (by assumption) ?restz137
    case hyz137 => (intro w hSw; (try dsimp only at hSw); go_simp; (try with_reducible rfl))
    try simp only [Act.put, List.setIfInBounds_toArray, List.set_cons_zero, List.set_cons_succ]
    refine wpAnyH_take (i := 21) (oi := { dst := some 25, op := Op.fieldAddr 95 (Operand.tmp 24) 6, type := 0, pos := "worker.go:177", after := #[{ on := 20, ground := Ground.data }, { on := 18, ground := Ground.guard }], guard := some (18, false) }) (v := ?vz138) rfl (by kernel_rfl) (by kernel_rfl) (by kernel_rfl) (fun _ _ _ h => h) (Or.inl ⟨by rfl, ?hyz138⟩) (by assumption) ?restz138
    case hyz138 => (intro w hSw; (try dsimp only at hSw); go_simp; (try with_reducible rfl))
    try simp only [Act.put, List.setIfInBounds_toArray, List.set_cons_zero, List.set_cons_succ]
    refine wpAnyH_take (i := 22) (oi := { dst := some 26, op := Op.load 93 (Operand.tmp 25), type := 93, pos := "worker.go:177", after := #[{ on := 21, ground := Ground.data }, { on := 18, ground := Ground.guard }], guard := some (18, false) }) (v := ?vz139) rfl (by kernel_rfl) (by kernel_rfl) (by kernel_rfl) (fun _ _ _ h => h) (Or.inl ⟨by rfl, ?hyz139⟩) (by assumption) ?restz139
    case hyz139 => (intro w hSw; (try dsimp only at hSw); go_simp; (try with_reducible rfl))
    try simp only [Act.put, List.setIfInBounds_toArray, List.set_cons_zero, List.set_cons_succ]
    refine wpAnyH_take (i := 23) (oi := { dst := some 27, op := Op.fieldAddr 41 (Operand.tmp 3) 2, type := 0, pos := "worker.go:177", after := #[{ on := 18, ground := Ground.guard }], guard := some (18, false) }) (v := ?vz140) rfl (by kernel_rfl) (by kernel_rfl) (by kernel_rfl) (fun _ _ _ h => h) (Or.inl ⟨by rfl, ?hyz140⟩) (by assumption) ?restz140
    case hyz140 => (intro w hSw; (try dsimp only at hSw); go_simp; (try with_reducible rfl))
    try simp only [Act.put, List.setIfInBounds_toArray, List.set_cons_zero, List.set_cons_succ]
    refine wpAnyH_take (i := 24) (oi := { dst := some 28, op := Op.load 3 (Operand.tmp 27), type := 3, pos := "worker.go:177", after := #[{ on := 23, ground := Ground.data }, { on := 18, ground := Ground.guard }], guard := some (18, false) }) (v := ?vz141) rfl (by kernel_rfl) (by kernel_rfl) (by kernel_rfl) (fun _ _ _ h => h) (Or.inl ⟨by rfl, ?hyz141⟩) (by assumption) ?restz141
    case hyz141 => (intro w hSw; (try dsimp only at hSw); go_simp; (try with_reducible rfl))
    try simp only [Act.put, List.setIfInBounds_toArray, List.set_cons_zero, List.set_cons_succ]
    refine wpAnyH_take (i := 25) (oi := { dst := some 29, op := Op.lookup 93 (Operand.tmp 26) (Operand.tmp 28) false, type := 132, pos := "worker.go:177", after := #[{ on := 22, ground := Ground.data }, { on := 24, ground := Ground.data }, { on := 18, ground := Ground.guard }], guard := some (18, false) }) (v := ?vz142) rfl (by kernel_rfl) (by kernel_rfl) (by kernel_rfl) (fun _ _ _ h => h) (Or.inl ⟨by rfl, ?hyz142⟩) (by assumption) ?restz142
    case hyz142 => (intro w hSw; (try dsimp only at hSw); go_simp; (try with_reducible rfl))
    try simp only [Act.put, List.setIfInBounds_toArray, List.set_cons_zero, List.set_cons_succ]
    refine wpAnyH_take (i := 26) (oi := { dst := some 30, op := Op.field 132 (Operand.tmp 29) 0, type := 130, pos := "worker.go:177", after := #[{ on := 25, ground := Ground.data }, { on := 18, ground := Ground.guard }], guard := some (18, false) }) (v := ?vz143) rfl (by kernel_rfl) (by kernel_rfl) (by kernel_rfl) (fun _ _ _ h => h) (Or.inl ⟨by rfl, ?hyz143⟩) (by assumption) ?restz143
    case hyz143 => (intro w hSw; (try dsimp only at hSw); go_simp; (try with_reducible rfl))
    try simp only [Act.put, List.setIfInBounds_toArray, List.set_cons_zero, List.set_cons_succ]
    refine wpAnyH_take (i := 27) (oi := { dst := some 31, op := Op.binOp BinOp.eql 130 (Operand.tmp 30) (Operand.const (Value.pointer none)) 130, type := 4, pos := "worker.go:177", after := #[{ on := 26, ground := Ground.data }, { on := 18, ground := Ground.guard }], guard := some (18, false) }) (v := ?vz144) rfl (by kernel_rfl) (by kernel_rfl) (by kernel_rfl) (fun _ _ _ h => h) (Or.inl ⟨by rfl, ?hyz144⟩) (by assumption) ?restz144
    case hyz144 => (intro w hSw; (try dsimp only at hSw); go_simp; (try with_reducible rfl))
    try simp only [Act.put, List.setIfInBounds_toArray, List.set_cons_zero, List.set_cons_succ]
    refine wpAnyH_take (i := 28) (oi := { dst := some 32, op := Op.pick (Operand.tmp 22) (Operand.const (Value.bool true)) (Operand.tmp 31), type := 4, pos := "worker.go:177", after := #[{ on := 18, ground := Ground.data }, { on := 27, ground := Ground.data }], guard := none }) (v := ?vz145) rfl (by kernel_rfl) (by kernel_rfl) (by kernel_rfl) (fun _ _ _ h => h) (Or.inl ⟨by rfl, ?hyz145⟩) (by assumption) ?restz145
    case hyz145 => (intro w hSw; (try dsimp only at hSw); go_simp; (try with_reducible rfl))
    try simp only [Act.put, List.setIfInBounds_toArray, List.set_cons_zero, List.set_cons_succ]
    refine wpAnyH_done (by kernel_rfl) ?_ _
    go_wp2_with fail
    go_meet
    exact ⟨rfl, Lib.hid hHeld1.1.1⟩
  case rest =>
    obtain ⟨rfl, hB⟩ := hcut
    obtain ⟨w2, hw2⟩ : ∃ w2, w2 = wc := ⟨_, rfl⟩
    subst hw2
    have B2 := Lib.hid (BX.out.trans (hB.out.mono BX.out.size))
    have Q2 := Lib.hid (HQ.out.below B2.out)
    have S2 := Lib.hid (show ∀ w', Below w2.heap.size w2 w' → ((w'.cell? ⟨p, 0, none⟩ = some (.int .i64 a.slot) ∧ w'.cell? ⟨p, 1, none⟩ = some (.int .i64 a.query) ∧ w'.cell? ⟨p, 2, none⟩ = some (.int .i64 a.shard) ∧ w'.cell? ⟨p, 3, none⟩ = some (.int .i64 a.seq) ∧ w'.cell? ⟨p, 4, none⟩ = some (.int .i64 a.epoch) ∧ w'.cell? ⟨p, 5, none⟩ = some (.string a.text) ∧ w'.cell? ⟨p, 6, none⟩ = some (.int .i64 a.k) ∧ w'.cell? ⟨p, 7, none⟩ = some (.int .i64 a.batch) ∧ w'.cell? ⟨p, 8, none⟩ = some (.bool a.first) ∧ w'.cell? ⟨p, 9, none⟩ = some (.int .i64 a.ad) ∧ w'.cell? ⟨p, 10, none⟩ = some (.string a.aw)) ∧ w'.cell? ⟨b, 5, none⟩ = some (.pointer (some ⟨q, 0, none⟩))) from fun w' hb => ⟨(IN.out.below hB.out).below hb, ((XX.out.below hB.out).below hb).c5⟩)
    have NP := Lib.hid (show ∀ X0 : World, Below w2.heap.size w2 X0 → p < X0.heap.size ∧ ¬ SQ p ∧ b < X0.heap.size ∧ ¬ SQ b from fun X0 hb => ⟨by have h1 := lt_of_cell (IN.out.below hB.out).1; have := hb.size; omega, fun h => by have h1 := QL.out p h; have := HP.out; omega, by have h1 := (XX.out.below hB.out).lt; have := hb.size; omega, NB.out⟩)
    have KEEP := Lib.hid (show ∀ X0 X1 : World, Below w2.heap.size w2 X0 → Turn SQ X0 X1 → ((X0.cell? ⟨p, 0, none⟩ = some (.int .i64 a.slot) ∧ X0.cell? ⟨p, 1, none⟩ = some (.int .i64 a.query) ∧ X0.cell? ⟨p, 2, none⟩ = some (.int .i64 a.shard) ∧ X0.cell? ⟨p, 3, none⟩ = some (.int .i64 a.seq) ∧ X0.cell? ⟨p, 4, none⟩ = some (.int .i64 a.epoch) ∧ X0.cell? ⟨p, 5, none⟩ = some (.string a.text) ∧ X0.cell? ⟨p, 6, none⟩ = some (.int .i64 a.k) ∧ X0.cell? ⟨p, 7, none⟩ = some (.int .i64 a.batch) ∧ X0.cell? ⟨p, 8, none⟩ = some (.bool a.first) ∧ X0.cell? ⟨p, 9, none⟩ = some (.int .i64 a.ad) ∧ X0.cell? ⟨p, 10, none⟩ = some (.string a.aw)) ∧ X0.cell? ⟨b, 5, none⟩ = some (.pointer (some ⟨q, 0, none⟩))) → ((X1.cell? ⟨p, 0, none⟩ = some (.int .i64 a.slot) ∧ X1.cell? ⟨p, 1, none⟩ = some (.int .i64 a.query) ∧ X1.cell? ⟨p, 2, none⟩ = some (.int .i64 a.shard) ∧ X1.cell? ⟨p, 3, none⟩ = some (.int .i64 a.seq) ∧ X1.cell? ⟨p, 4, none⟩ = some (.int .i64 a.epoch) ∧ X1.cell? ⟨p, 5, none⟩ = some (.string a.text) ∧ X1.cell? ⟨p, 6, none⟩ = some (.int .i64 a.k) ∧ X1.cell? ⟨p, 7, none⟩ = some (.int .i64 a.batch) ∧ X1.cell? ⟨p, 8, none⟩ = some (.bool a.first) ∧ X1.cell? ⟨p, 9, none⟩ = some (.int .i64 a.ad) ∧ X1.cell? ⟨p, 10, none⟩ = some (.string a.aw)) ∧ X1.cell? ⟨b, 5, none⟩ = some (.pointer (some ⟨q, 0, none⟩))) from fun X0 X1 hb t h => by
      obtain ⟨p1, p2, p3, p4⟩ := NP.out X0 hb
      have e : ∀ i, X1.cell? ⟨p, i, none⟩ = X0.cell? ⟨p, i, none⟩ := fun i => t.cell p1 p2
      simp only [e]
      exact ⟨h.1, (t.cell p3 p4).trans h.2⟩)
    have CP := Lib.hid (fun (w' : World) (hb : Below w2.heap.size w2 w') => qpush_any a q w' (Q2.out.below hb) HGO.out)
    unfold PushP at CP
    have FIN := Lib.hid (show ∀ (X0 X1 : World) (SQ2 : Nat → Prop), Below w2.heap.size w2 X0 → QAt X1 q (Qu.push L a) SQ2 → (∀ k, SQ2 k → SQ k ∨ X0.heap.size ≤ k) → Turn SQ X0 X1 → ∃ SQ2, QAt X1 q (Qu.push L a) SQ2 ∧ (∀ k, SQ2 k → SQ k ∨ w.heap.size ≤ k) ∧ Turn SQ w X1 from fun X0 X1 SQ2 hb h1 h2 h3 =>
      ⟨SQ2, h1, fun k hk => (h2 k hk).imp (fun h => h) (fun h => Nat.le_trans (Nat.le_trans B2.out.size hb.size) h), ((Turn.of_below B2.out).trans (Turn.of_below hb)).trans h3⟩)
    go_upto_region 2 with fail
    have hS2 := S2.out w2.drew ((Below.refl _ _).drew)
    refine wp_region_held_drew (S := (fun w' => (w'.cell? ⟨p, 0, none⟩ = some (.int .i64 a.slot) ∧ w'.cell? ⟨p, 1, none⟩ = some (.int .i64 a.query) ∧ w'.cell? ⟨p, 2, none⟩ = some (.int .i64 a.shard) ∧ w'.cell? ⟨p, 3, none⟩ = some (.int .i64 a.seq) ∧ w'.cell? ⟨p, 4, none⟩ = some (.int .i64 a.epoch) ∧ w'.cell? ⟨p, 5, none⟩ = some (.string a.text) ∧ w'.cell? ⟨p, 6, none⟩ = some (.int .i64 a.k) ∧ w'.cell? ⟨p, 7, none⟩ = some (.int .i64 a.batch) ∧ w'.cell? ⟨p, 8, none⟩ = some (.bool a.first) ∧ w'.cell? ⟨p, 9, none⟩ = some (.int .i64 a.ad) ∧ w'.cell? ⟨p, 10, none⟩ = some (.string a.aw)) ∧ w'.cell? ⟨b, 5, none⟩ = some (.pointer (some ⟨q, 0, none⟩)))) (by kernel_rfl) hS2 (fun hHeld0 => ?_)
    clear hS2
    have B0 : Below w2.heap.size w2 w2.drew := (Below.refl _ _).drew
    generalize w2.drew = X0 at hHeld0 B0 ⊢
    refine wpAnyH_take (i := 0) (oi := { dst := some 33, op := Op.move (Operand.tmp 0), type := 29, pos := "worker.go:180", after := #[], guard := none }) (v := ?vz113) rfl (by kernel_rfl) (by kernel_rfl) (by kernel_rfl) (fun _ _ _ h => h) (Or.inl ⟨by rfl, ?hyz113⟩) (by assumption) ?restz113
    case hyz113 => (intro w hSw; (try dsimp only at hSw); go_simp; (try with_reducible rfl))
    try simp only [Act.put, List.setIfInBounds_toArray, List.set_cons_zero, List.set_cons_succ]
    refine wpAnyH_take (i := 1) (oi := { dst := some 34, op := Op.nilCheck (Operand.tmp 33), type := 0, pos := "worker.go:180", after := #[{ on := 0, ground := Ground.data }], guard := none }) (v := ?vz114) rfl (by kernel_rfl) (by kernel_rfl) (by kernel_rfl) (fun _ _ _ h => h) (Or.inl ⟨by rfl, ?hyz114⟩) (by assumption) ?restz114
    case hyz114 => (intro w hSw; (try dsimp only at hSw); go_simp; (try with_reducible rfl))
    try simp only [Act.put, List.setIfInBounds_toArray, List.set_cons_zero, List.set_cons_succ]
    refine wpAnyH_take (i := 2) (oi := { dst := some 35, op := Op.fieldAddr 95 (Operand.tmp 34) 5, type := 0, pos := "worker.go:180", after := #[{ on := 1, ground := Ground.data }], guard := none }) (v := ?vz115) rfl (by kernel_rfl) (by kernel_rfl) (by kernel_rfl) (fun _ _ _ h => h) (Or.inl ⟨by rfl, ?hyz115⟩) (by assumption) ?restz115
    case hyz115 => (intro w hSw; (try dsimp only at hSw); go_simp; (try with_reducible rfl))
    try simp only [Act.put, List.setIfInBounds_toArray, List.set_cons_zero, List.set_cons_succ]
    refine wpAnyH_take (i := 3) (oi := { dst := some 36, op := Op.load 92 (Operand.tmp 35), type := 92, pos := "worker.go:180", after := #[{ on := 2, ground := Ground.data }], guard := none }) (v := ?vz116) rfl (by kernel_rfl) (by kernel_rfl) (by kernel_rfl) (fun _ _ _ h => h) (Or.inl ⟨by rfl, ?hyz116⟩) (by assumption) ?restz116
    case hyz116 => (intro w hSw; (try dsimp only at hSw); go_simp; (try with_reducible rfl))
    try simp only [Act.put, List.setIfInBounds_toArray, List.set_cons_zero, List.set_cons_succ]
    refine wpAnyH_take (i := 4) (oi := { dst := some 37, op := Op.load 41 (Operand.tmp 3), type := 41, pos := "worker.go:180", after := #[], guard := none }) (v := ?vz117) rfl (by kernel_rfl) (by kernel_rfl) (by kernel_rfl) (fun _ _ _ h => h) (Or.inl ⟨by rfl, ?hyz117⟩) (by assumption) ?restz117
    case hyz117 => (intro w hSw; (try dsimp only at hSw); go_simp; (try with_reducible rfl))
    try simp only [Act.put, List.setIfInBounds_toArray, List.set_cons_zero, List.set_cons_succ]
    refine wpAnyH_ready (rs := [5]) (by kernel_rfl) (by simp) ?_
    refine AllReadyH.cons (o := { dst := some 38, op := Op.call { callee := Callee.value (Operand.func 168), args := #[Operand.tmp 36, Operand.tmp 37], argTypes := #[92, 41] }, type := 4, pos := "worker.go:180", after := #[{ on := 3, ground := Ground.data }, { on := 4, ground := Ground.data }], guard := none }) rfl (fun K hK => ?_) AllReadyH.nil
    go_simp
    go_at_call 168
    with_reducible refine (CP.out _ B0).mono ?_
    rintro e X1 ⟨rfl, SQ2, hq2, hs2, ht2⟩
    go_wp2_with fail
    have FX := FIN.out X0 X1 SQ2 B0 hq2 hs2 ht2
    refine hK.out _ _ (KEEP.out X0 X1 B0 ht2 hHeld0) (fun hHeld1 => ?_)
    clear hK K
    try simp only [Act.put, List.setIfInBounds_toArray, List.set_cons_zero, List.set_cons_succ]
    refine wpAnyH_done (by kernel_rfl) ?_ _
    go_wp2_with fail
    go_end0
    exact ⟨rfl, FX⟩
end Go.Proofs.YtgnaiahnednllaaGreat
namespace Go.Proofs.YtgnaiahnednllaaGreat
open Go.RowKit
set_option linter.unusedVariables false
set_option maxRecDepth 20000
theorem processHello (b : Nat) (x y : Int) (w : World) : Calls Tryz.prog 75 #[.pointer (some ⟨b, 0, none⟩), .iface 70 (.agg #[.int .i64 x, .int .i64 y])] w fun e w' => e = .returned (.tuple #[]) ∧ Below w.heap.size w w' := by
  have t1 := taHelloGrant x y
  have t2 := taHelloAsk x y
  have t3 := taHelloStop x y
  go_enter Tryz.func75, Tryz.ntmps75
  go_wp2_with fail
  go_end0
  exact ⟨rfl, (by repeat' (first | exact Below.refl _ _ | refine Below.drew ?_ | refine Below.alloc ?_ (by simp <;> omega) _ | refine Below.setCell ?_ (by simp <;> omega) _))⟩
theorem processReply (b : Nat) (r : RepP) (w : World) : Calls Tryz.prog 75 #[.pointer (some ⟨b, 0, none⟩), .iface 77 (.agg #[.int .i64 r.slot, .int .i64 r.query, .int .i64 r.shard, .int .i64 r.seq, .int .i64 r.worker, .int .i64 r.epoch, .slice r.ia r.n r.ic, .bool r.fin])] w fun e w' => e = .returned (.tuple #[]) ∧ Below w.heap.size w w' := by
  have t1 := taReplyGrant r
  have t2 := taReplyAsk r
  have t3 := taReplyStop r
  go_enter Tryz.func75, Tryz.ntmps75
  go_wp2_with fail
  go_end0
  exact ⟨rfl, (by repeat' (first | exact Below.refl _ _ | refine Below.drew ?_ | refine Below.alloc ?_ (by simp <;> omega) _ | refine Below.setCell ?_ (by simp <;> omega) _))⟩
/-- the world behind the first box -/
theorem processGrant_no {b d : Nat} {id wl ep : Int} {up : Bool} {qp mp : Option Nat} (x y z : Int) (w : World) (hx : WBox w b d id up wl ep qp mp) (hn : (x == id && y == wl && decide (ep < z)) = false) : Calls Tryz.prog 75 #[.pointer (some ⟨b, 0, none⟩), .iface 65 (.agg #[.int .i64 x, .int .i64 y, .int .i64 z])] w fun e w' => e = .returned (.tuple #[]) ∧ Below w.heap.size w w' := by
  have t1 := taGrantGrant x y z
  have t2 := taGrantAsk x y z
  have t3 := taGrantStop x y z
  have BX := Lib.hid (below_one w (.cells #[.int .i64 x, .int .i64 y, .int .i64 z] 65))
  have CG := Lib.hid (granted_no x y z _ (hx.below BX.out) hn)
  clear hx hn
  go_enter Tryz.func75, Tryz.ntmps75
  go_wp2_with fail
  with_reducible refine CG.out.mono ?_
  rintro e w2 ⟨rfl, hb⟩
  have B2 := Lib.hid (BX.out.trans (hb.mono BX.out.size))
  have LE := Lib.hid B2.out.size
  clear hb CG
  go_wp2_with fail
  go_end0
  exact ⟨rfl, B2.out.trans (Below.mono (B := w2.heap.size) (by repeat' (first | exact Below.refl _ _ | refine Below.drew ?_ | refine Below.alloc ?_ (by simp <;> omega) _ | refine Below.setCell ?_ (by simp <;> omega) _)) LE.out)⟩
theorem processGrant_yes {b d : Nat} {id wl ep : Int} {up : Bool} {qp mp : Option Nat} (x y z : Int) (w : World) (hx : WBox w b d id up wl ep qp mp) (d1 : (x == id) = true) (d2 : (y == wl) = true) (hn : decide (ep < z) = true) : Calls Tryz.prog 75 #[.pointer (some ⟨b, 0, none⟩), .iface 65 (.agg #[.int .i64 x, .int .i64 y, .int .i64 z])] w fun e w' => e = .returned (.tuple #[]) ∧ WBox w' b d id up wl z qp mp ∧ Turn (fun k => k = b) w w' := by
  have t1 := taGrantGrant x y z
  have t2 := taGrantAsk x y z
  have t3 := taGrantStop x y z
  have BX := Lib.hid (below_one w (.cells #[.int .i64 x, .int .i64 y, .int .i64 z] 65))
  have CG := Lib.hid (granted_yes x y z _ (hx.below BX.out) d1 d2 hn)
  clear hx hn d1 d2
  go_enter Tryz.func75, Tryz.ntmps75
  go_wp2_with fail
  with_reducible refine CG.out.mono ?_
  rintro e w2 ⟨rfl, hx2, ht⟩
  have X2 := Lib.hid hx2
  have T2 := Lib.hid ((Turn.of_below BX.out).trans ht)
  clear hx2 ht CG
  go_wp2_with fail
  go_end0
  refine ⟨rfl, ?_⟩
  have hb : ∀ w3, Below w2.heap.size w2 w3 → WBox w3 b d id up wl z qp mp ∧ Turn (fun k => k = b) w w3 := fun w3 hb => ⟨X2.out.below hb, T2.out.trans (Turn.of_below hb)⟩
  exact hb _ (by repeat' (first | exact Below.refl _ _ | refine Below.drew ?_ | refine Below.alloc ?_ (by simp <;> omega) _ | refine Below.setCell ?_ (by simp <;> omega) _))
theorem asked_no {b d mm nm : Nat} {id wl ep : Int} {qp : Option Nat} {sh : Int → Option LD} (a : AskP) (gp : Option Addr) (ge : Int) (w : World) (hx : WBox w b d id true wl ep qp (some mm)) (hm : MapV w mm nm (lV sh)) (hwf : wfI a.shard) (hl : (lV sh a.shard).getD ldZ = .agg #[.pointer gp, .int .i64 ge]) (hsm : a.text.size ≤ 1100 ∧ a.aw.size ≤ 1100)
    (hn : (mayAsk a && !(a.epoch == 0) && (a.epoch == ep) && gp.isSome) = false) : Calls Tryz.prog 123 #[.pointer (some ⟨b, 0, none⟩), .agg #[.int .i64 a.slot, .int .i64 a.query, .int .i64 a.shard, .int .i64 a.seq, .int .i64 a.epoch, .string a.text, .int .i64 a.k, .int .i64 a.batch, .bool a.first, .int .i64 a.ad, .string a.aw]] w fun e w' => e = .returned (.tuple #[]) ∧ Below w.heap.size w w' := by
  cases h1 : mayAsk a with
  | false => exact asked_noA a gp ge w hx hm hwf hl hsm h1
  | true =>
    cases h2 : (a.epoch == 0) with
    | true => exact asked_noB a gp ge w hx hm hwf hl hsm h1 h2
    | false =>
      cases h3 : (a.epoch == ep) with
      | false => exact asked_noC a gp ge w hx hm hwf hl hsm h1 h2 (by rw [bne, h3]; rfl)
      | true =>
        rw [h1, h2, h3] at hn
        cases gp with
        | some g => cases hn
        | none => exact asked_noD a none ge w hx hm hwf hl hsm h1 h2 (by rw [bne, h3]; rfl) rfl
theorem processAsk_no {b d mm nm : Nat} {id wl ep : Int} {qp : Option Nat} {sh : Int → Option LD} (a : AskP) (gp : Option Addr) (ge : Int) (w : World) (hx : WBox w b d id true wl ep qp (some mm)) (hm : MapV w mm nm (lV sh)) (hwf : wfI a.shard) (hl : (lV sh a.shard).getD ldZ = .agg #[.pointer gp, .int .i64 ge]) (hsm : a.text.size ≤ 1100 ∧ a.aw.size ≤ 1100)
    (hn : (mayAsk a && !(a.epoch == 0) && (a.epoch == ep) && gp.isSome) = false) : Calls Tryz.prog 75 #[.pointer (some ⟨b, 0, none⟩), .iface 41 (.agg #[.int .i64 a.slot, .int .i64 a.query, .int .i64 a.shard, .int .i64 a.seq, .int .i64 a.epoch, .string a.text, .int .i64 a.k, .int .i64 a.batch, .bool a.first, .int .i64 a.ad, .string a.aw])] w fun e w' => e = .returned (.tuple #[]) ∧ Below w.heap.size w w' := by
  have t1 := taAskGrant a
  have t2 := taAskAsk a
  have t3 := taAskStop a
  have B1 := below_one w (.cells #[.int .i64 0, .int .i64 0, .int .i64 0] 65)
  have B2 := below_one (w.alloc (.cells #[.int .i64 0, .int .i64 0, .int .i64 0] 65)) (.cells #[.int .i64 a.slot, .int .i64 a.query, .int .i64 a.shard, .int .i64 a.seq, .int .i64 a.epoch, .string a.text, .int .i64 a.k, .int .i64 a.batch, .bool a.first, .int .i64 a.ad, .string a.aw] 41)
  have BX := Lib.hid (B1.trans (B2.mono B1.size))
  have CA := Lib.hid (asked_no a gp ge _ (hx.below BX.out) (hm.below BX.out) hwf hl hsm hn)
  clear hx hm hl hn B1 B2
  go_enter Tryz.func75, Tryz.ntmps75
  go_wp2_with fail
  with_reducible refine CA.out.mono ?_
  rintro e w2 ⟨rfl, hb⟩
  have B2 := Lib.hid (BX.out.trans (hb.mono BX.out.size))
  have LE := Lib.hid B2.out.size
  clear hb CA
  go_wp2_with fail
  go_end0
  exact ⟨rfl, B2.out.trans (Below.mono (B := w2.heap.size) (by repeat' (first | exact Below.refl _ _ | refine Below.drew ?_ | refine Below.alloc ?_ (by simp <;> omega) _ | refine Below.setCell ?_ (by simp <;> omega) _)) LE.out)⟩
theorem processAsk_yes {b d mm nm q : Nat} {SQ : Nat → Prop} {L : List AskP} {id wl ep : Int} {sh : Int → Option LD} (a : AskP) (gp : Option Addr) (ge : Int) (w : World) (hx : WBox w b d id true wl ep (some q) (some mm)) (hm : MapV w mm nm (lV sh)) (hwf : wfI a.shard) (hl : (lV sh a.shard).getD ldZ = .agg #[.pointer gp, .int .i64 ge]) (hsm : a.text.size ≤ 1100 ∧ a.aw.size ≤ 1100) (hq : QAt w q L SQ) (hbq : ¬ SQ b) (hgo : Qu.Good L)
    (hn : (mayAsk a && !(a.epoch == 0) && (a.epoch == ep) && gp.isSome) = true) : Calls Tryz.prog 75 #[.pointer (some ⟨b, 0, none⟩), .iface 41 (.agg #[.int .i64 a.slot, .int .i64 a.query, .int .i64 a.shard, .int .i64 a.seq, .int .i64 a.epoch, .string a.text, .int .i64 a.k, .int .i64 a.batch, .bool a.first, .int .i64 a.ad, .string a.aw])] w fun e w' => e = .returned (.tuple #[]) ∧ ∃ SQ2, QAt w' q (Qu.push L a) SQ2 ∧ (∀ k, SQ2 k → SQ k ∨ w.heap.size ≤ k) ∧ Turn SQ w w' := by
  have t1 := taAskGrant a
  have t2 := taAskAsk a
  have t3 := taAskStop a
  have B1 := below_one w (.cells #[.int .i64 0, .int .i64 0, .int .i64 0] 65)
  have B2 := below_one (w.alloc (.cells #[.int .i64 0, .int .i64 0, .int .i64 0] 65)) (.cells #[.int .i64 a.slot, .int .i64 a.query, .int .i64 a.shard, .int .i64 a.seq, .int .i64 a.epoch, .string a.text, .int .i64 a.k, .int .i64 a.batch, .bool a.first, .int .i64 a.ad, .string a.aw] 41)
  have BX := Lib.hid (B1.trans (B2.mono B1.size))
  obtain ⟨g, hg⟩ : ∃ g, gp = some g := by
    cases gp with
    | some g => exact ⟨g, rfl⟩
    | none => simp at hn
  simp only [Bool.and_eq_true, Bool.not_eq_true'] at hn
  have CA := Lib.hid (asked_yes a gp ge _ (hx.below BX.out) (hm.below BX.out) hwf hl hsm (hq.below BX.out) hbq hgo hn.1.1.1 hn.1.1.2 (by rw [bne, hn.1.2]; rfl) g hg)
  clear hx hm hl hn hq hbq hgo hg B1 B2
  go_enter Tryz.func75, Tryz.ntmps75
  go_wp2_with fail
  with_reducible refine CA.out.mono ?_
  rintro e w2 ⟨rfl, SQ2, hq2, hs2, ht2⟩
  have FIN := Lib.hid (show ∀ w3, Below w2.heap.size w2 w3 → ∃ SQ2, QAt w3 q (Qu.push L a) SQ2 ∧ (∀ k, SQ2 k → SQ k ∨ w.heap.size ≤ k) ∧ Turn SQ w w3 from fun w3 hb => ⟨SQ2, hq2.below hb, fun k hk => (hs2 k hk).imp (fun h => h) (fun h => Nat.le_trans BX.out.size h), ((Turn.of_below BX.out).trans ht2).trans (Turn.of_below hb)⟩)
  clear hq2 hs2 ht2 CA
  go_wp2_with fail
  go_end0
  exact ⟨rfl, FIN.out _ (by repeat' (first | exact Below.refl _ _ | refine Below.drew ?_ | refine Below.alloc ?_ (by simp <;> omega) _ | refine Below.setCell ?_ (by simp <;> omega) _))⟩
set_option maxHeartbeats 800000 in
theorem processStop {b d q : Nat} {SQ : Nat → Prop} {L : List AskP} {id wl ep : Int} {mp : Option Nat} (x y : Int) (w : World) (hx : WBox w b d id true wl ep (some q) mp) (hq : QAt w q L SQ) (hbq : ¬ SQ b) (hgo : Qu.Good L) : Calls Tryz.prog 75 #[.pointer (some ⟨b, 0, none⟩), .iface 109 (.agg #[.int .i64 x, .int .i64 y])] w fun e w' => e = .returned (.tuple #[]) ∧ ∃ SQ2, QAt w' q (Qu.stop L x y) SQ2 ∧ (∀ k, SQ2 k → SQ k ∨ w.heap.size ≤ k) ∧ Turn SQ w w' := by
  have t1 := taStopGrant x y
  have t2 := taStopAsk x y
  have t3 := taStopStop x y
  obtain ⟨w1, hw1⟩ : ∃ w1, w.alloc (.cells #[.int .i64 0, .int .i64 0, .int .i64 0] 65) = w1 := ⟨_, rfl⟩
  obtain ⟨w2, hw2⟩ : ∃ w2, w1.alloc (.cells #[.int .i64 0, .int .i64 0, .int .i64 0, .int .i64 0, .int .i64 0, .string ⟨#[]⟩, .int .i64 0, .int .i64 0, .bool false, .int .i64 0, .string ⟨#[]⟩] 41) = w2 := ⟨_, rfl⟩
  obtain ⟨w3, hw3⟩ : ∃ w3, w2.alloc (.cells #[.int .i64 x, .int .i64 y] 109) = w3 := ⟨_, rfl⟩
  have B1 : Below w.heap.size w w1 := hw1 ▸ below_one w _
  have B2 : Below w1.heap.size w1 w2 := hw2 ▸ below_one w1 _
  have B3 : Below w2.heap.size w2 w3 := hw3 ▸ below_one w2 _
  have B12 := B1.trans (B2.mono B1.size)
  have BX := Lib.hid (B12.trans (B3.mono B12.size))
  have IN := Lib.hid (StopIn_new w2 x y w2.heap.size 109 (0, 0) rfl)
  rw [hw3] at IN
  obtain ⟨p, hp⟩ : ∃ p, w2.heap.size = p := ⟨_, rfl⟩
  have PL := Lib.hid (show w.heap.size ≤ p from hp ▸ B12.size)
  rw [hp] at IN
  have XX := Lib.hid (hx.below BX.out)
  have QL := Lib.hid hq.lt
  have Q3 := Lib.hid (hq.below BX.out)
  have CP := Lib.hid (fun (w' : World) (hb : Below w3.heap.size w3 w') => qStop_any q x y w' (Q3.out.below hb) hgo)
  unfold StopP at CP
  have NP := Lib.hid (show ∀ X0 : World, Below w3.heap.size w3 X0 → p < X0.heap.size ∧ ¬ SQ p ∧ b < X0.heap.size ∧ ¬ SQ b from fun X0 hb => ⟨by have h1 := lt_of_cell IN.out.1; have := hb.size; omega, fun h => by have h1 := QL.out p h; have := PL.out; omega, by have h1 := XX.out.lt; have := hb.size; omega, hbq⟩)
  have KEEP := Lib.hid (show ∀ X0 X1 : World, Below w3.heap.size w3 X0 → Turn SQ X0 X1 → ((X0.cell? ⟨p, 0, none⟩ = some (.int .i64 x) ∧ X0.cell? ⟨p, 1, none⟩ = some (.int .i64 y)) ∧ X0.cell? ⟨b, 5, none⟩ = some (.pointer (some ⟨q, 0, none⟩))) → ((X1.cell? ⟨p, 0, none⟩ = some (.int .i64 x) ∧ X1.cell? ⟨p, 1, none⟩ = some (.int .i64 y)) ∧ X1.cell? ⟨b, 5, none⟩ = some (.pointer (some ⟨q, 0, none⟩))) from fun X0 X1 hb t h => by
    obtain ⟨p1, p2, p3, p4⟩ := NP.out X0 hb
    exact ⟨⟨(t.cell p1 p2).trans h.1.1, (t.cell p1 p2).trans h.1.2⟩, (t.cell p3 p4).trans h.2⟩)
  have FIN := Lib.hid (show ∀ (X0 X1 : World) (SQ2 : Nat → Prop), Below w3.heap.size w3 X0 → QAt X1 q (Qu.stop L x y) SQ2 → (∀ k, SQ2 k → SQ k ∨ X0.heap.size ≤ k) → Turn SQ X0 X1 → ∃ SQ2, QAt X1 q (Qu.stop L x y) SQ2 ∧ (∀ k, SQ2 k → SQ k ∨ w.heap.size ≤ k) ∧ Turn SQ w X1 from fun X0 X1 SQ2 hb h1 h2 h3 =>
    ⟨SQ2, h1, fun k hk => (h2 k hk).imp (fun h => h) (fun h => Nat.le_trans (Nat.le_trans BX.out.size hb.size) h), ((Turn.of_below BX.out).trans (Turn.of_below hb)).trans h3⟩)
  have HW1 := Lib.hid hw1
  have HW2 := Lib.hid hw2
  have HW3 := Lib.hid hw3
  have HP := Lib.hid hp
  clear hx hq hbq hgo B1 B2 B3 B12 hw1 hw2 hw3 hp
  go_enter Tryz.func75, Tryz.ntmps75
  go_upto_region 3 with fail
  try rw [HW1.out]
  go_upto_region 6 with fail
  try rw [HW2.out]
  go_upto_region 8 with fail
  try rw [HW3.out]
  try rw [HP.out]
  have hS2 : (w3.drew.cell? ⟨p, 0, none⟩ = some (.int .i64 x) ∧ w3.drew.cell? ⟨p, 1, none⟩ = some (.int .i64 y)) ∧ w3.drew.cell? ⟨b, 5, none⟩ = some (.pointer (some ⟨q, 0, none⟩)) := ⟨⟨IN.out.1, IN.out.2⟩, (XX.out).c5⟩
  refine wp_region_held_drew (S := (fun w' => (w'.cell? ⟨p, 0, none⟩ = some (.int .i64 x) ∧ w'.cell? ⟨p, 1, none⟩ = some (.int .i64 y)) ∧ w'.cell? ⟨b, 5, none⟩ = some (.pointer (some ⟨q, 0, none⟩)))) (by kernel_rfl) hS2 (fun hHeld0 => ?_)
  clear hS2
  have B0 : Below w3.heap.size w3 w3.drew := (Below.refl _ _).drew
  generalize w3.drew = X0 at hHeld0 B0 ⊢
  refine wpAnyH_take (i := 0) (oi := { dst := some 34, op := Op.move (Operand.tmp 0), type := 29, pos := "worker.go:166", after := #[], guard := none }) (v := ?vz1) rfl (by kernel_rfl) (by kernel_rfl) (by kernel_rfl) (fun _ _ _ h => h) (Or.inl ⟨by rfl, ?hyz1⟩) (by assumption) ?restz1
  case hyz1 => (intro w hSw; (try dsimp only at hSw); go_simp; (try with_reducible rfl))
  try simp only [Act.put, List.setIfInBounds_toArray, List.set_cons_zero, List.set_cons_succ]
  refine wpAnyH_take (i := 1) (oi := { dst := some 35, op := Op.nilCheck (Operand.tmp 34), type := 0, pos := "worker.go:166", after := #[{ on := 0, ground := Ground.data }], guard := none }) (v := ?vz2) rfl (by kernel_rfl) (by kernel_rfl) (by kernel_rfl) (fun _ _ _ h => h) (Or.inl ⟨by rfl, ?hyz2⟩) (by assumption) ?restz2
  case hyz2 => (intro w hSw; (try dsimp only at hSw); go_simp; (try with_reducible rfl))
  try simp only [Act.put, List.setIfInBounds_toArray, List.set_cons_zero, List.set_cons_succ]
  refine wpAnyH_take (i := 2) (oi := { dst := some 36, op := Op.fieldAddr 95 (Operand.tmp 35) 5, type := 0, pos := "worker.go:166", after := #[{ on := 1, ground := Ground.data }], guard := none }) (v := ?vz3) rfl (by kernel_rfl) (by kernel_rfl) (by kernel_rfl) (fun _ _ _ h => h) (Or.inl ⟨by rfl, ?hyz3⟩) (by assumption) ?restz3
  case hyz3 => (intro w hSw; (try dsimp only at hSw); go_simp; (try with_reducible rfl))
  try simp only [Act.put, List.setIfInBounds_toArray, List.set_cons_zero, List.set_cons_succ]
  refine wpAnyH_take (i := 3) (oi := { dst := some 37, op := Op.load 92 (Operand.tmp 36), type := 92, pos := "worker.go:166", after := #[{ on := 2, ground := Ground.data }], guard := none }) (v := ?vz4) rfl (by kernel_rfl) (by kernel_rfl) (by kernel_rfl) (fun _ _ _ h => h) (Or.inl ⟨by rfl, ?hyz4⟩) (by assumption) ?restz4
  case hyz4 => (intro w hSw; (try dsimp only at hSw); go_simp; (try with_reducible rfl))
  try simp only [Act.put, List.setIfInBounds_toArray, List.set_cons_zero, List.set_cons_succ]
  refine wpAnyH_take (i := 4) (oi := { dst := some 38, op := Op.fieldAddr 109 (Operand.tmp 8) 0, type := 0, pos := "worker.go:166", after := #[], guard := none }) (v := ?vz5) rfl (by kernel_rfl) (by kernel_rfl) (by kernel_rfl) (fun _ _ _ h => h) (Or.inl ⟨by rfl, ?hyz5⟩) (by assumption) ?restz5
  case hyz5 => (intro w hSw; (try dsimp only at hSw); go_simp; (try with_reducible rfl))
  try simp only [Act.put, List.setIfInBounds_toArray, List.set_cons_zero, List.set_cons_succ]
  refine wpAnyH_take (i := 5) (oi := { dst := some 39, op := Op.load 3 (Operand.tmp 38), type := 3, pos := "worker.go:166", after := #[{ on := 4, ground := Ground.data }], guard := none }) (v := ?vz6) rfl (by kernel_rfl) (by kernel_rfl) (by kernel_rfl) (fun _ _ _ h => h) (Or.inl ⟨by rfl, ?hyz6⟩) (by assumption) ?restz6
  case hyz6 => (intro w hSw; (try dsimp only at hSw); go_simp; (try with_reducible rfl))
  try simp only [Act.put, List.setIfInBounds_toArray, List.set_cons_zero, List.set_cons_succ]
  refine wpAnyH_take (i := 6) (oi := { dst := some 40, op := Op.fieldAddr 109 (Operand.tmp 8) 1, type := 0, pos := "worker.go:166", after := #[], guard := none }) (v := ?vz7) rfl (by kernel_rfl) (by kernel_rfl) (by kernel_rfl) (fun _ _ _ h => h) (Or.inl ⟨by rfl, ?hyz7⟩) (by assumption) ?restz7
  case hyz7 => (intro w hSw; (try dsimp only at hSw); go_simp; (try with_reducible rfl))
  try simp only [Act.put, List.setIfInBounds_toArray, List.set_cons_zero, List.set_cons_succ]
  refine wpAnyH_take (i := 7) (oi := { dst := some 41, op := Op.load 3 (Operand.tmp 40), type := 3, pos := "worker.go:166", after := #[{ on := 6, ground := Ground.data }], guard := none }) (v := ?vz8) rfl (by kernel_rfl) (by kernel_rfl) (by kernel_rfl) (fun _ _ _ h => h) (Or.inl ⟨by rfl, ?hyz8⟩) (by assumption) ?restz8
  case hyz8 => (intro w hSw; (try dsimp only at hSw); go_simp; (try with_reducible rfl))
  try simp only [Act.put, List.setIfInBounds_toArray, List.set_cons_zero, List.set_cons_succ]
  refine wpAnyH_ready (rs := [8]) (by kernel_rfl) (by simp) ?_
  refine AllReadyH.cons (o := { dst := some 42, op := Op.call { callee := Callee.value (Operand.func 124), args := #[Operand.tmp 37, Operand.tmp 39, Operand.tmp 41], argTypes := #[92, 3, 3] }, type := 3, pos := "worker.go:166", after := #[{ on := 3, ground := Ground.data }, { on := 5, ground := Ground.data }, { on := 7, ground := Ground.data }], guard := none }) rfl (fun K hK => ?_) AllReadyH.nil
  go_simp
  go_at_call 124
  with_reducible refine (CP.out _ B0).mono ?_
  rintro e X1 ⟨rfl, SQ2, hq2, hs2, ht2⟩
  go_wp2_with fail
  have FX := FIN.out X0 X1 SQ2 B0 hq2 hs2 ht2
  refine hK.out _ _ (KEEP.out X0 X1 B0 ht2 hHeld0) (fun hHeld1 => ?_)
  clear hK K
  try simp only [Act.put, List.setIfInBounds_toArray, List.set_cons_zero, List.set_cons_succ]
  refine wpAnyH_done (by kernel_rfl) ?_ _
  go_wp2_with fail
  go_end0
  exact ⟨rfl, FX⟩
/-- what a message does to a worker -/
theorem push_mem {L : List AskP} {a x : AskP} (h : x ∈ Qu.push L a) : x ∈ L ∨ x = a := by
  unfold Qu.push at h
  split at h
  · split at h
    · unfold Qu.put at h
      obtain ⟨y, hy, e⟩ := List.mem_map.1 h
      split at e
      · exact Or.inr e.symm
      · exact Or.inl (e ▸ hy)
    · rcases List.mem_append.1 h with h | h
      · exact Or.inl h
      · exact Or.inr (List.mem_singleton.1 h)
  · exact Or.inl h
def Wk.takes (s : Wk) (a : AskP) : Bool := mayAsk a && !(a.epoch == 0) && (a.epoch == s.ep) && s.served a.shard
def Wk.hear (s : Wk) : MsgV → Wk
  | .grant x y z => if (x == s.id && y == s.wl && decide (s.ep < z)) = true then { s with ep := z } else s
  | .ask a => if s.takes a = true then { s with q := Qu.push s.q a } else s
  | .stop x y => { s with q := Qu.stop s.q x y }
  | _ => s
def Wk.take (s : Wk) (M : MsgV) : Wk := if s.up = true then s.hear M else s
def wfM : MsgV → Prop
  | .ask a => wfI a.shard
  | .num _ => False
  | .none => False
  | _ => True
theorem Wk.Ok.take {s : Wk} (ok : s.Ok) (M : MsgV) (hw : wfM M) (hs : smallM M) : (s.take M).Ok := by
  unfold Wk.take
  split
  · cases M with
    | grant x y z =>
      show (if _ then _ else _ : Wk).Ok
      split
      · exact ⟨ok.g, ok.z, ok.q, ok.sv⟩
      · exact ok
    | ask a =>
      show (if _ then _ else _ : Wk).Ok
      split
      · rename_i hc
        refine ⟨ok.g, ok.z, Qu.push_good ok.q _, fun x hx => ?_⟩
        rcases push_mem hx with h | rfl
        · exact ok.sv x h
        · unfold Wk.takes at hc
          simp only [Bool.and_eq_true] at hc
          exact ⟨hc.2, hw, hs.1⟩
      · exact ok
    | stop x y => exact ⟨ok.g, ok.z, Qu.filter_good ok.q _, fun z hz => ok.sv z (List.mem_filter.1 hz).1⟩
    | hello x y => exact ok
    | reply r => exact ok
    | num k => exact ok
    | none => exact ok
  · exact ok
theorem WkO.box_only {b d : Nat} {s : Wk} {w w' : World} {S : Nat → Prop} (h : WkO b d s w S) (hu : s.up = true) {z : Int} (k : ∀ qp mp, WBox w b d s.id s.up s.wl s.ep qp mp → WBox w' b d s.id s.up s.wl z qp mp) (t : Turn (fun k => k = b) w w') : WkO b d { s with ep := z } w' S := by
  obtain ⟨qp, mp, SD, SQ, SL, h, s1, s2, s3, s4, s5⟩ := h
  exact ⟨qp, mp, SD, SQ, SL, ⟨k _ _ h.box, (do_ok _ _ _).turn h.D t (fun i hi e => h.bD (e ▸ hi)), fun u => by obtain ⟨q, e, hq⟩ := h.Q u; exact ⟨q, e, hq.turn t (fun i hi e => h.bQ (e ▸ hi))⟩, fun u => by obtain ⟨m, e, hm⟩ := h.L u; exact ⟨m, e, (lo_ok _ _).turn hm t (fun i hi e => h.bL (e ▸ hi))⟩, fun u => absurd hu (by rw [show s.up = false from u]; exact Bool.false_ne_true), h.bD, h.bQ, h.bL, h.dq, h.dl, h.ql⟩, s1, s2, s3, s4, fun i hi => Nat.lt_of_lt_of_le (s5 i hi) t.size⟩
/-- a worker's parts, up -/
theorem WkO.parts {b d : Nat} {s : Wk} {w : World} {S : Nat → Prop} (h : WkO b d s w S) (hu : s.up = true) : ∃ q mm SQ, WBox w b d s.id true s.wl s.ep (some q) (some mm) ∧ QAt w q s.q SQ ∧ (∃ nm, MapV w mm nm (lV s.sh)) ∧ ¬ SQ b ∧ (∀ k, SQ k → S k) ∧
    ∀ (L : List AskP) (w' : World) (SQ2 : Nat → Prop), QAt w' q L SQ2 → (∀ k, SQ2 k → SQ k ∨ w.heap.size ≤ k) → Turn SQ w w' → PO (WkO b d { s with q := L }) w S w' := by
  obtain ⟨qp, mp, SD, SQ, SL, h, s1, s2, s3, s4, s5⟩ := h
  obtain ⟨q, e1, hq⟩ := h.Q hu
  obtain ⟨mm, e2, nm, hn, hl⟩ := h.L hu
  subst e1 e2
  refine ⟨q, mm, SQ, hu ▸ h.box, hq, ⟨nm, hl.1⟩, h.bQ, s3, fun L w' SQ2 h1 h2 h3 => ?_⟩
  have lD := (do_ok _ _ _).lt h.D
  have lL := (lon_ok _ _ _).lt hl
  have sz := h3.size
  refine ⟨fun k => S k ∨ (SQ2 k), ⟨some q, some mm, SD, SQ2, SL, ⟨h.box.turn h3 h.bQ, (do_ok _ _ _).turn h.D h3 h.dq, fun _ => ⟨q, rfl, h1⟩, fun _ => ⟨mm, rfl, nm, hn, (lon_ok _ _ _).turn hl h3 (fun k hk hk2 => h.ql k hk2 hk)⟩, h.dn, h.bD, fun e => ?_, h.bL, fun k hk hk2 => ?_, h.dl, fun k hk hk2 => ?_⟩, Or.inl s1, fun k hk => Or.inl (s2 k hk), fun k hk => Or.inr hk, fun k hk => Or.inl (s4 k hk), fun k hk => hk.elim (fun hk => Nat.lt_of_lt_of_le (s5 k hk) sz) (fun hk => h1.lt k hk)⟩, fun k hk => hk.elim Or.inl (fun hk => (h2 k hk).imp (s3 k) (fun h => h)), h3.mono s3⟩
  · rcases h2 _ e with h4 | h4
    · exact h.bQ h4
    · have := h.box.lt; omega
  · rcases h2 _ hk2 with h4 | h4
    · exact h.dq k hk h4
    · have := lD k hk; omega
  · rcases h2 _ hk with h4 | h4
    · exact h.ql k h4 hk2
    · have := lL k hk2; omega
theorem served_gp (s : Wk) (x : Int) : ∃ gp ge, (lV s.sh x).getD ldZ = .agg #[.pointer gp, .int .i64 ge] ∧ gp.isSome = s.served x := by
  unfold lV Wk.served
  cases s.sh x with
  | none => exact ⟨none, 0, rfl, rfl⟩
  | some l => exact ⟨l.g.map fun b => ⟨b, 0, none⟩, l.e, rfl, by simp⟩
theorem wprocess_o {b d : Nat} {s : Wk} {S : Nat → Prop} (M : MsgV) (w : World) (h : WkO b d s w S) (ok : s.Ok) (hu : s.up = true) (hw : wfM M) (hs : smallM M) : Calls Tryz.prog 75 #[.pointer (some ⟨b, 0, none⟩), valM M] w fun e w' => e = .returned (.tuple #[]) ∧ PO (WkO b d (s.hear M)) w S w' := by
  have same : ∀ w', Below w.heap.size w w' → PO (WkO b d s) w S w' := fun w' hb => ⟨S, (wk_ok b d s).below h hb, fun k hk => Or.inl hk, Turn.of_below hb⟩
  obtain ⟨q, mm, SQ, hx, hq, ⟨nm, hm⟩, hbq, hsq, hmk⟩ := h.parts hu
  have sb : S b := by obtain ⟨qp, mp, SD, SQ, SL, h, s1, -⟩ := h; exact s1
  cases M with
  | num k => exact hw.elim
  | none => exact hw.elim
  | hello x y => exact (processHello b x y w).mono fun e w' h => ⟨h.1, same w' h.2⟩
  | reply r => exact (processReply b r w).mono fun e w' h => ⟨h.1, same w' h.2⟩
  | stop x y => exact (processStop x y w hx hq hbq ok.q).mono fun e w' ⟨h1, SQ2, h2, h3, h4⟩ => ⟨h1, hmk _ w' SQ2 h2 h3 h4⟩
  | grant x y z =>
    cases hc : (x == s.id && y == s.wl && decide (s.ep < z)) with
    | false =>
      have e : s.hear (.grant x y z) = s := by
        show (if _ then _ else _) = _
        rw [if_neg (by rw [hc]; exact Bool.false_ne_true)]
      rw [e]
      exact (processGrant_no x y z w hx hc).mono fun e w' h => ⟨h.1, same w' h.2⟩
    | true =>
      have e : s.hear (.grant x y z) = { s with ep := z } := by
        show (if _ then _ else _) = _
        rw [if_pos hc]
      rw [e]
      have hc2 := hc
      simp only [Bool.and_eq_true] at hc2
      refine (processGrant_yes x y z w hx hc2.1.1 hc2.1.2 hc2.2).mono fun e w' ⟨h1, h2, h3⟩ => ⟨h1, S, ?_, fun k hk => Or.inl hk, h3.mono (fun k hk => by rw [hk]; exact sb)⟩
      refine h.box_only hu (fun qp mp h5 => ?_) h3
      unfold WBox at hx h5
      rw [hx] at h5
      injection h5 with h5
      injection h5 with h5 _ _
      unfold wkCells at h5
      have e1 : qp = some q := by
        have := congrArg (fun (x : Array Value) => x[5]?) h5
        simp at this
        cases qp with
        | none => simp at this
        | some q2 => simpa using this.symm
      have e2 : mp = some mm := by
        have := congrArg (fun (x : Array Value) => x[6]?) h5
        simpa using this.symm
      rw [e1, e2, hu]
      exact h2
  | ask a =>
    obtain ⟨gp, ge, hl, hg⟩ := served_gp s a.shard
    cases hc : s.takes a with
    | false =>
      have e : s.hear (.ask a) = s := by
        show (if _ then _ else _) = _
        rw [if_neg (by rw [hc]; exact Bool.false_ne_true)]
      rw [e]
      unfold Wk.takes at hc
      rw [← hg] at hc
      exact (processAsk_no a gp ge w hx hm hw hl hs hc).mono fun e w' h => ⟨h.1, same w' h.2⟩
    | true =>
      have e : s.hear (.ask a) = { s with q := Qu.push s.q a } := by
        show (if _ then _ else _) = _
        rw [if_pos hc]
      rw [e]
      unfold Wk.takes at hc
      rw [← hg] at hc
      exact (processAsk_yes a gp ge w hx hm hw hl hs hq hbq ok.q hc).mono fun e w' ⟨h1, SQ2, h2, h3, h4⟩ => ⟨h1, hmk _ w' SQ2 h2 h3 h4⟩
theorem wTake_nil (v : Value) (w : World) : Calls Tryz.prog 33 #[.pointer none, v] w fun e w' => e = .returned (.tuple #[]) ∧ w = w' := by
  go_enter Tryz.func33, Tryz.ntmps33
  go_wp2_with fail
  refine (wUp_nil w).mono ?_
  rintro e w' ⟨rfl, rfl⟩
  go_wp2_with fail
  go_end0
  exact ⟨rfl, rfl⟩
theorem wTake_o {b d : Nat} {s s' : Wk} {S : Nat → Prop} (M : MsgV) (w : World) (h : WkO b d s w S) (ok : s.Ok) (hw : wfM M) (hs : smallM M) (hk : s.take M = s') : Calls Tryz.prog 33 #[.pointer (some ⟨b, 0, none⟩), valM M] w fun e w' => e = .returned (.tuple #[]) ∧ PO (WkO b d s') w S w' := by
  subst hk
  obtain ⟨u, hu⟩ : ∃ u, s.up = u := ⟨_, rfl⟩
  have CU := Lib.hid (wUp_o u w h hu)
  unfold Wk.take
  cases u
  · rw [if_neg (by rw [hu]; exact Bool.false_ne_true)]
    have FIN := Lib.hid (show PO (WkO b d s) w S w from ⟨S, h, fun k hk => Or.inl hk, Turn.refl _ _⟩)
    generalize valM M = v
    clear h ok hw hs hu
    go_enter Tryz.func33, Tryz.ntmps33
    go_wp2_with fail
    with_reducible refine CU.out.mono ?_
    rintro e w' ⟨rfl, rfl⟩
    go_wp2_with fail
    go_end0
    exact ⟨rfl, FIN.out⟩
  · rw [if_pos hu]
    have CP := Lib.hid (wprocess_o M w h ok hu hw hs)
    generalize valM M = v at *
    generalize s.hear M = s2 at *
    clear h ok hw hs hu
    go_enter Tryz.func33, Tryz.ntmps33
    go_wp2_with fail
    with_reducible refine CU.out.mono ?_
    rintro e w' ⟨rfl, rfl⟩
    go_wp2_with fail
    with_reducible refine CP.out.mono ?_
    rintro e w2 ⟨rfl, hp⟩
    have FIN := Lib.hid hp
    clear hp CP
    go_wp2_with fail
    go_end0
    exact ⟨rfl, FIN.out⟩
end Go.Proofs.YtgnaiahnednllaaGreat
namespace Go.Proofs.YtgnaiahnednllaaGreat
open Go.RowKit
set_option linter.unusedVariables false
set_option maxRecDepth 20000
/-- Next of a graph, its answer by names -/
theorem next_c (g : Nat) (ts : List Tx) (s : Tx) (k : Int) (first : Bool) (av : KV) (batch : Int) (F ys : List KV) (n : Nat) (b : Bool) (w : World) (h : GrOk g ts w) (hs : s.size ≤ 1048576)
    (hF : restK first av (matchK ts s k) = F) (hn : cntK batch F.length = n) (hy : F.take n = ys) (hb : decide (n = F.length) = b) :
    Calls Tryz.prog 127 #[.pointer (some ⟨g, 0, none⟩), .string s, .int .i64 k, .bool first, .agg #[.int .i64 av.1, .string av.2], .int .i64 batch] w (RetN w n ys b) :=
  next_any (.pointer (some ⟨g, 0, none⟩)) s k first av batch (matchK ts s k) F ys n b w (fun w' hb => matches_all g ts s k w' (h.below hb) hs) (by
    have := matchK_len ts s k
    obtain ⟨_, _, _, _, _, h4⟩ := h
    omega) hF hn hy hb
end Go.Proofs.YtgnaiahnednllaaGreat
