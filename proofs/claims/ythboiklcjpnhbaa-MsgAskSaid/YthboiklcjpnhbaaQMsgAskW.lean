/- msg: the law MsgAsk (by gen/msgask.py) -/
import Derived.Test.YthboiklcjpnhbaaPkC
namespace Go.Proofs.Ythboiklcjpnhbaa
open Go.RowKit
set_option linter.unusedVariables false
set_option maxRecDepth 20000
theorem s0_carry {p : Nat} {w0 w w' : World} {x : AskP} (h : Below w0.heap.size w0 w ∧ w.cell? ⟨p, 0, none⟩ = some (.int .i64 x.slot) ∧ w.cell? ⟨p, 1, none⟩ = some (.int .i64 x.query) ∧ w.cell? ⟨p, 2, none⟩ = some (.int .i64 x.shard) ∧ w.cell? ⟨p, 3, none⟩ = some (.int .i64 x.seq) ∧ w.cell? ⟨p, 4, none⟩ = some (.int .i64 x.epoch) ∧ w.cell? ⟨p, 5, none⟩ = some (.string x.text) ∧ w.cell? ⟨p, 6, none⟩ = some (.int .i64 x.k) ∧ w.cell? ⟨p, 7, none⟩ = some (.int .i64 x.batch) ∧ w.cell? ⟨p, 8, none⟩ = some (.bool x.first) ∧ w.cell? ⟨p, 9, none⟩ = some (.int .i64 x.ad) ∧ w.cell? ⟨p, 10, none⟩ = some (.string x.aw)) (hb : Below w.heap.size w w') : Below w0.heap.size w0 w' ∧ w'.cell? ⟨p, 0, none⟩ = some (.int .i64 x.slot) ∧ w'.cell? ⟨p, 1, none⟩ = some (.int .i64 x.query) ∧ w'.cell? ⟨p, 2, none⟩ = some (.int .i64 x.shard) ∧ w'.cell? ⟨p, 3, none⟩ = some (.int .i64 x.seq) ∧ w'.cell? ⟨p, 4, none⟩ = some (.int .i64 x.epoch) ∧ w'.cell? ⟨p, 5, none⟩ = some (.string x.text) ∧ w'.cell? ⟨p, 6, none⟩ = some (.int .i64 x.k) ∧ w'.cell? ⟨p, 7, none⟩ = some (.int .i64 x.batch) ∧ w'.cell? ⟨p, 8, none⟩ = some (.bool x.first) ∧ w'.cell? ⟨p, 9, none⟩ = some (.int .i64 x.ad) ∧ w'.cell? ⟨p, 10, none⟩ = some (.string x.aw) := ⟨h.1.trans (hb.mono h.1.size), MAskIn.below (p := p) h.2 hb⟩
theorem taAskOnly (x : AskP) (w : World) : (Instr.typeAssert (.iface 29 (.agg #[.int .i64 x.slot, .int .i64 x.query, .int .i64 x.shard, .int .i64 x.seq, .int .i64 x.epoch, .string x.text, .int .i64 x.k, .int .i64 x.batch, .bool x.first, .int .i64 x.ad, .string x.aw])) 20 29 false).run Try.prog w = .ok (.agg #[.int .i64 x.slot, .int .i64 x.query, .int .i64 x.shard, .int .i64 x.seq, .int .i64 x.epoch, .string x.text, .int .i64 x.k, .int .i64 x.batch, .bool x.first, .int .i64 x.ad, .string x.aw]) w := by kernel_rfl
set_option maxHeartbeats 3200000 in
theorem onlyAsk_any (x : AskP) (w : World) : Calls Try.prog 53 #[vAsk x] w fun e w' => e = .returned (agAsk x) ∧ w' = w.alloc (.cells #[.int .i64 x.slot, .int .i64 x.query, .int .i64 x.shard, .int .i64 x.seq, .int .i64 x.epoch, .string x.text, .int .i64 x.k, .int .i64 x.batch, .bool x.first, .int .i64 x.ad, .string x.aw] 29) := by
  have tA := taAskOnly x
  go_enter Try.func53, Try.ntmps53
  go_wp2_with fail
  exact bodyPost_ret (v := agAsk x) (by simp [results, go_sem]) rfl ⟨rfl, rfl⟩
set_option maxHeartbeats 3200000 in
theorem askOf_any (x : AskP) (w : World) : Calls Try.prog 30 #[vAsk x] w fun e w' => e = .returned (agAsk x) ∧ Below w.heap.size w w' := by
  go_enter Try.func30, Try.ntmps30
  go_wp2_with fail
  with_reducible refine (onlyAsk_any x _).mono ?_
  rintro e w1 ⟨rfl, rfl⟩
  go_wp2_with fail
  exact bodyPost_ret (v := agAsk x) (by simp [results, go_sem]) rfl ⟨rfl, by repeat' (first | exact Below.refl _ _ | refine Below.alloc ?_ (by simp <;> omega) _)⟩
set_option maxHeartbeats 6400000 in
set_option maxRecDepth 100000 in
theorem msgAsk_law (x : AskP) (w : World) (hx : AskOk x) : Calls Try.prog 7 #[agAsk x] w fun e w' => e = .returned (.bool true) ∧ Below w.heap.size w w' := by
  have heq := fun w => askM_alike x w
  have CA := Lib.hid (askOf_any x)
  have CK := Lib.hid (fun w1 => show Calls Try.prog 21 #[vAsk x] w1 (fun e w' => e = .returned (.int .i64 3) ∧ w1 = w') from kind_all (.ask x) w1)
  have BX := Lib.hid (show Below w.heap.size w (w.alloc (.cells #[.int .i64 x.slot, .int .i64 x.query, .int .i64 x.shard, .int .i64 x.seq, .int .i64 x.epoch, .string x.text, .int .i64 x.k, .int .i64 x.batch, .bool x.first, .int .i64 x.ad, .string x.aw] 29)) from below_one w _)
  have IN := Lib.hid (MAskIn_new w x w.heap.size 29 (0, 0) rfl)
  clear hx
  go_enter Try.func7, Try.ntmps7
  go_upto_region 1 with fail
  generalize w.alloc _ = w1 at BX IN ⊢
  obtain ⟨c0, c1, c2, c3, c4, c5, c6, c7, c8, c9, c10⟩ := IN.out
  by_cases h1 : (100 : Int) < (x.text.size : Int) ∨ (100 : Int) < (x.aw.size : Int)
  · have AW : ∀ v : Bool, v = true → v = true := fun v h => h
    by_cases h2 : (100 : Int) < (x.text.size : Int)
    · go_wp2_with fail
      with_reducible refine (awake15_any _).mono ?_
      rintro e w3 ⟨rfl, hb3⟩
      go_wp2_with fail
      go_ret
      exact ⟨rfl, BX.out.trans (hb3.mono BX.out.size)⟩
    · have h3 : (100 : Int) < (x.aw.size : Int) := h1.resolve_left h2
      clear h1
      go_wp2_with fail
      with_reducible refine (awake15_any _).mono ?_
      rintro e w3 ⟨rfl, hb3⟩
      go_wp2_with fail
      go_ret
      exact ⟨rfl, BX.out.trans (hb3.mono BX.out.size)⟩
  · have h2 : ¬ (100 : Int) < (x.text.size : Int) := fun h => h1 (Or.inl h)
    have h3 : ¬ (100 : Int) < (x.aw.size : Int) := fun h => h1 (Or.inr h)
    clear h1
    have X1 := Lib.hid (And.intro (Below.refl w1.heap.size w1).drew IN.out)
    go_upto_region 4 with fail
    go_region_held3 (fun w' => Below w1.heap.size w1 w' ∧ w'.cell? ⟨w.heap.size, 0, none⟩ = some (.int .i64 x.slot) ∧ w'.cell? ⟨w.heap.size, 1, none⟩ = some (.int .i64 x.query) ∧ w'.cell? ⟨w.heap.size, 2, none⟩ = some (.int .i64 x.shard) ∧ w'.cell? ⟨w.heap.size, 3, none⟩ = some (.int .i64 x.seq) ∧ w'.cell? ⟨w.heap.size, 4, none⟩ = some (.int .i64 x.epoch) ∧ w'.cell? ⟨w.heap.size, 5, none⟩ = some (.string x.text) ∧ w'.cell? ⟨w.heap.size, 6, none⟩ = some (.int .i64 x.k) ∧ w'.cell? ⟨w.heap.size, 7, none⟩ = some (.int .i64 x.batch) ∧ w'.cell? ⟨w.heap.size, 8, none⟩ = some (.bool x.first) ∧ w'.cell? ⟨w.heap.size, 9, none⟩ = some (.int .i64 x.ad) ∧ w'.cell? ⟨w.heap.size, 10, none⟩ = some (.string x.aw))
      (first | assumption | exact X1.out | exact s0_carry (by assumption) (by assumption))
      (first
        | (go_at_call 30; (with_reducible refine (CA.out _).mono ?_); rintro e w' ⟨rfl, hb9⟩)
        | (go_at_call 21; (with_reducible refine (CK.out _).mono ?_); rintro e w' ⟨rfl, rfl⟩)
        | (go_at_call 11; (with_reducible refine (awake15_any _).mono ?_); rintro e w' ⟨rfl, hb9⟩)
        | fail)
    all_goals
      have hS : Below w1.heap.size w1 w' ∧ w'.cell? ⟨w.heap.size, 0, none⟩ = some (.int .i64 x.slot) ∧ w'.cell? ⟨w.heap.size, 1, none⟩ = some (.int .i64 x.query) ∧ w'.cell? ⟨w.heap.size, 2, none⟩ = some (.int .i64 x.shard) ∧ w'.cell? ⟨w.heap.size, 3, none⟩ = some (.int .i64 x.seq) ∧ w'.cell? ⟨w.heap.size, 4, none⟩ = some (.int .i64 x.epoch) ∧ w'.cell? ⟨w.heap.size, 5, none⟩ = some (.string x.text) ∧ w'.cell? ⟨w.heap.size, 6, none⟩ = some (.int .i64 x.k) ∧ w'.cell? ⟨w.heap.size, 7, none⟩ = some (.int .i64 x.batch) ∧ w'.cell? ⟨w.heap.size, 8, none⟩ = some (.bool x.first) ∧ w'.cell? ⟨w.heap.size, 9, none⟩ = some (.int .i64 x.ad) ∧ w'.cell? ⟨w.heap.size, 10, none⟩ = some (.string x.aw) := by assumption
      have B9 := Lib.hid hS.1
      clear hS
      go_wp2_with fail
      go_ret
      exact ⟨rfl, BX.out.trans (B9.out.mono BX.out.size)⟩
open Go.ChangeShapes Go.WideShapes Go.ChangeAt in
theorem msgAsk_walk {H : Type} {enc : TypeId × Value → H} (W : World) (base : Nat) (v0 : Value) (d0 : DataW H) (p0 : List MemPlace)
    (h0 : DataW.Trod enc Try.prog W 0 (fun _ => true) true 29 v0 d0 p0)
    (o0 : Value.okWide Try.prog W .any base 29 v0) :
    Calls Try.prog 7 #[v0] W fun e w' => e = .returned (.bool true) ∧ RowKit.Below W.heap.size W w' := by
  obtain ⟨x, hx, rfl⟩ := ask_arg o0 h0
  exact msgAsk_law x W hx
end Go.Proofs.Ythboiklcjpnhbaa
