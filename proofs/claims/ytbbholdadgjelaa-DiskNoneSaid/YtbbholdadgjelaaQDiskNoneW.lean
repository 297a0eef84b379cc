/- disk: of no disk each call says so -/
import Derived.Test.YtbbholdadgjelaaPkD
namespace Go.Proofs.Ytbbholdadgjelaa
open Go.RowKit
set_option linter.unusedVariables false
set_option maxRecDepth 20000
def Four (w : World) (p : Nat) (a b c d : Int) : Prop := w.cell? ⟨p, 0, none⟩ = some (.int .i64 a) ∧ w.cell? ⟨p, 1, none⟩ = some (.int .i64 b) ∧ w.cell? ⟨p, 2, none⟩ = some (.int .i64 c) ∧ w.cell? ⟨p, 3, none⟩ = some (.int .i64 d)
theorem Four.below {w w' : World} {p : Nat} {a b c d : Int} (h : Four w p a b c d) (hb : Below w.heap.size w w') : Four w' p a b c d := by
  have l := lt_of_cell h.1
  exact ⟨(hb.cell (p := ⟨p, 0, none⟩) l).trans h.1, (hb.cell (p := ⟨p, 1, none⟩) l).trans h.2.1, (hb.cell (p := ⟨p, 2, none⟩) l).trans h.2.2.1, (hb.cell (p := ⟨p, 3, none⟩) l).trans h.2.2.2⟩
set_option maxHeartbeats 3200000 in
theorem diskNone_any (q s a x : Int) (w : World) : Calls Try.prog 4 #[.agg #[.int .i64 q, .int .i64 s, .int .i64 a, .int .i64 x]] w fun e w' => e = .returned (.bool true) ∧ Below w.heap.size w w' := by
  have B0 := Lib.hid (below_one w (.cells #[.int .i64 q, .int .i64 s, .int .i64 a, .int .i64 x] 49))
  have F0 := Lib.hid (show Four (w.alloc (.cells #[.int .i64 q, .int .i64 s, .int .i64 a, .int .i64 x] 49)) w.heap.size q s a x from ⟨by rw [cell_alloc rfl]; rfl, by rw [cell_alloc rfl]; rfl, by rw [cell_alloc rfl]; rfl, by rw [cell_alloc rfl]; rfl⟩)
  go_enter Try.func4, Try.ntmps4
  go_wp2_with fail
  refine (dread_nil s _).mono ?_
  rintro e w1 ⟨rfl, hb⟩
  have B1 := Lib.hid (B0.out.trans (hb.mono B0.out.size))
  have F1 := Lib.hid (F0.out.below hb)
  clear hb
  obtain ⟨p, hp⟩ : ∃ p, w.heap.size = p := ⟨_, rfl⟩
  rw [hp] at F1
  have f1 := F1.out
  unfold Four at f1
  obtain ⟨c0, c1, c2, c3⟩ := f1
  go_wp2_with fail
  refine (drot_nil s a x _).mono ?_
  rintro e w2 ⟨rfl, hb⟩
  have B2 := Lib.hid (B1.out.trans (hb.mono B1.out.size))
  have F2 := Lib.hid (F1.out.below hb)
  clear hb c0 c1 c2 c3 F1 B1
  have f1 := F2.out
  unfold Four at f1
  obtain ⟨c0, c1, c2, c3⟩ := f1
  go_wp2_with fail
  refine (dmend_nil s _).mono ?_
  rintro e w3 ⟨rfl, hb⟩
  have B3 := Lib.hid (B2.out.trans (hb.mono B2.out.size))
  have F3 := Lib.hid (F2.out.below hb)
  clear hb c0 c1 c2 c3 F2 B2
  have f1 := F3.out
  unfold Four at f1
  obtain ⟨c0, c1, c2, c3⟩ := f1
  go_wp2_with fail
  refine (drotten_nil s _).mono ?_
  rintro e w4 ⟨rfl, hb⟩
  have B4 := Lib.hid (B3.out.trans (hb.mono B3.out.size))
  clear hb c0 c1 c2 c3 F3 B3
  go_wp2_with fail
  refine (dlife_nil _).mono ?_
  rintro e w5 ⟨rfl, rfl⟩
  go_wp2_with fail
  refine (dborn_nil _).mono ?_
  rintro e w5 ⟨rfl, rfl⟩
  go_wp2_with fail
  refine (awakeD_any _).mono ?_
  rintro e w5 ⟨rfl, hb⟩
  have B5 := Lib.hid (B4.out.trans (hb.mono B4.out.size))
  clear hb
  go_wp2_with fail
  go_ret
  exact ⟨rfl, B5.out⟩
open Go.ChangeShapes Go.WideShapes Go.ChangeAt in
theorem diskNone_walk {H : Type} {enc : TypeId × Value → H} (W : World) (base : Nat) (v0 : Value) (d0 : DataW H) (p0 : List MemPlace)
    (h0 : DataW.Trod enc Try.prog W 0 (fun _ => true) true 49 v0 d0 p0) (o0 : Value.okWide Try.prog W .any base 49 v0) :
    Calls Try.prog 4 #[v0] W fun e w' => e = .returned (.bool true) ∧ RowKit.Below W.heap.size W w' := by
  obtain ⟨x, ok, rfl⟩ := open_dact o0 h0
  exact diskNone_any x.q x.s x.a x.x W
end Go.Proofs.Ytbbholdadgjelaa
