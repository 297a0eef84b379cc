/- net: of no net -/
import Derived.Test.YtecdigcadmokfaaPkA
namespace Go.Proofs.Ytecdigcadmokfaa
open Go.RowKit
set_option linter.unusedVariables false
set_option maxRecDepth 20000
def NActIn (w : World) (p o : Nat) (x : NAct) : Prop := w.cell? ⟨p, o, none⟩ = some (.int .i64 x.do_) ∧ w.cell? ⟨p, o + 1, none⟩ = some (.int .i64 x.i) ∧ w.cell? ⟨p, o + 2, none⟩ = some (.int .i64 x.j) ∧ w.cell? ⟨p, o + 3, none⟩ = some (.int .i64 x.x) ∧ w.cell? ⟨p, o + 4, none⟩ = some (.slice x.ba x.bn x.bc)
theorem NActIn.of {w w' : World} {p o : Nat} {x : NAct} (h : NActIn w p o x) (e : ∀ i, w'.cell? ⟨p, i, none⟩ = w.cell? ⟨p, i, none⟩) : NActIn w' p o x := by
  unfold NActIn at *
  rw [e, e, e, e, e]; exact h
theorem NActIn.below {w w' : World} {p o : Nat} {x : NAct} (h : NActIn w p o x) (hb : Below w.heap.size w w') : NActIn w' p o x := h.of fun i => hb.cell (p := ⟨p, i, none⟩) (lt_of_cell h.1)
theorem nactIn_new (w : World) (x : NAct) (p : Nat) (e : TypeId) (fr : Nat × Nat) (hp : p = w.heap.size) : NActIn (w.alloc (.cells #[.int .i64 x.do_, .int .i64 x.i, .int .i64 x.j, .int .i64 x.x, .slice x.ba x.bn x.bc] e fr)) p 0 x := by
  subst hp
  unfold NActIn
  refine ⟨?_, ?_, ?_, ?_, ?_⟩ <;> (rw [World.cell?_alloc_mark]; rfl)
theorem holdsG_zero (w : World) (e : TypeId) (fr : Nat × Nat) : HoldsG (w.alloc (.cells #[.int .i64 0, .int .i64 0, .int .i64 0, .slice none 0 0, .bool false] e fr)) (some ⟨w.heap.size, 0, none⟩) 1 [gm0] := by
  have h := gmIn_new w gm0 _ e fr rfl
  refine ⟨rfl, fun _ => ⟨w.heap.size, 0, rfl, fun i hi => ?_⟩, fun i hi => ?_⟩
  · obtain rfl : i = 0 := by omega
    obtain ⟨h0, h1, h2, h3, h4⟩ := h
    exact ⟨h0, h1, h2, h3, h4⟩
  · obtain rfl : i = 0 := by omega
    exact holdsB_nil _ _
theorem sameG_zero (a1 a2 : Option Addr) (c1 c2 : Nat) (w : World) (h1 : HoldsG w a1 1 [gm0]) (h2 : HoldsG w a2 1 [gm0]) :
    Calls Try.prog 19 #[.slice a1 1 c1, .slice a2 1 c2] w fun e w' => e = .returned (.bool true) ∧ Below w.heap.size w w' :=
  (sameGrams_quiet a1 a2 1 c1 c2 [gm0] [gm0] w h1 h2 (by omega) (fun i _ => Alike.refl _) (fun i hi => by (have e : i = 0 := by omega); subst e; exact Nat.zero_le _)).mono fun e w' ⟨e1, m, hm⟩ => ⟨e1, by rw [hm]; exact below_drewN _ _⟩
set_option maxHeartbeats 3200000 in
set_option maxRecDepth 100000 in
theorem netNone_any (x : NAct) (w : World) : Calls Try.prog 5 #[.agg #[.int .i64 x.do_, .int .i64 x.i, .int .i64 x.j, .int .i64 x.x, .slice x.ba x.bn x.bc]] w fun e w' => e = .returned (.bool true) ∧ Below w.heap.size w w' := by
  have A0 := Lib.hid (nactIn_new w x w.heap.size 35 (0, 0) rfl)
  have B0 := Lib.hid (below_one w (.cells #[.int .i64 x.do_, .int .i64 x.i, .int .i64 x.j, .int .i64 x.x, .slice x.ba x.bn x.bc] 35))
  by_cases h100 : 100 < x.bn
  · have d1 : decide (100 < x.bn) = true := decide_eq_true h100
    go_enter Try.func5, Try.ntmps5
    go_wp2_with fail
    refine (awakeN_any _).mono ?_
    rintro e w' ⟨rfl, hb⟩
    have B1 := Lib.hid (B0.out.trans (hb.mono B0.out.size))
    clear hb
    go_wp2_with fail
    go_ret
    exact ⟨rfl, B1.out⟩
  · have d1 : decide (100 < x.bn) = false := decide_eq_false h100
    go_enter Try.func5, Try.ntmps5
    go_upto_region 3 with fail
    generalize w.alloc (.cells #[.int .i64 x.do_, .int .i64 x.i, .int .i64 x.j, .int .i64 x.x, .slice x.ba x.bn x.bc] 35) = w1 at *
    obtain ⟨x0, x1, x2, x3, x4⟩ := A0.out
    simp only [Nat.zero_add] at x1 x2 x3 x4
    have A1 := Lib.hid (show NActIn w1 w.heap.size 0 x from A0.out)
    clear A0
    go_wp2_with fail
    refine (nSend_none _ _ _ _).mono ?_
    rintro e w' ⟨rfl, rfl⟩
    go_wp2_with fail
    refine (nDeliver_none _ _).mono ?_
    rintro e w2 ⟨rfl, hb⟩
    have B2 := Lib.hid (hb.trans ((below_one w2 (.cells #[.int .i64 0, .int .i64 0, .int .i64 0, .slice none 0 0, .bool false] 42)).mono hb.size))
    have A3 := Lib.hid (A1.out.below B2.out)
    have Z3 := Lib.hid (show GmIn (w2.alloc (.cells #[.int .i64 0, .int .i64 0, .int .i64 0, .slice none 0 0, .bool false] 42)) w2.heap.size gm0 from gmIn_new w2 gm0 _ 42 (0, 0) rfl)
    clear hb x0 x1 x2 x3 x4
    go_upto_region 6 with fail
    generalize w2.alloc (.cells #[.int .i64 0, .int .i64 0, .int .i64 0, .slice none 0 0, .bool false] 42) = w3 at *
    generalize w2.heap.size = q at *
    obtain ⟨x0, x1, x2, x3, x4⟩ := A3.out
    simp only [Nat.zero_add] at x1 x2 x3 x4
    go_wp2_with fail
    refine (nDrop_none _ _).mono ?_
    rintro e w4 ⟨rfl, hb⟩
    have B4 := Lib.hid (B2.out.trans (hb.mono B2.out.size))
    have A4 := Lib.hid (A3.out.below hb)
    have Z4 := Lib.hid (Z3.out.below hb)
    clear hb x0 x1 x2 x3 x4 A3 Z3
    go_upto_region 7 with fail
    have hZ := Z4.out
    unfold GmIn at hZ
    simp only [gm0] at hZ
    obtain ⟨z0, z1, z2, z3, z4⟩ := hZ
    have G1 := Lib.hid ((holdsG_zero w4 42 (0, 0)).below (below_one _ (.cells #[.int .i64 0, .int .i64 0, .int .i64 0, .slice none 0 0, .bool false] 42)))
    have G2 := Lib.hid (show HoldsG ((w4.alloc (.cells #[.int .i64 0, .int .i64 0, .int .i64 0, .slice none 0 0, .bool false] 42)).alloc (.cells #[.int .i64 0, .int .i64 0, .int .i64 0, .slice none 0 0, .bool false] 42)) (some ⟨w4.heap.size + 1, 0, none⟩) 1 [gm0] from by
      have := holdsG_zero (w4.alloc (.cells #[.int .i64 0, .int .i64 0, .int .i64 0, .slice none 0 0, .bool false] 42)) 42 (0, 0)
      rwa [show (w4.alloc (.cells #[.int .i64 0, .int .i64 0, .int .i64 0, .slice none 0 0, .bool false] 42)).heap.size = w4.heap.size + 1 by simp] at this)
    have B5 := Lib.hid (B4.out.trans ((((Below.refl w4.heap.size w4).alloc (Nat.le_refl _) (.cells #[.int .i64 0, .int .i64 0, .int .i64 0, .slice none 0 0, .bool false] 42)).alloc (by simp) (.cells #[.int .i64 0, .int .i64 0, .int .i64 0, .slice none 0 0, .bool false] 42)).mono B4.out.size))
    have A5 := Lib.hid (A4.out.below (((Below.refl w4.heap.size w4).alloc (Nat.le_refl _) (.cells #[.int .i64 0, .int .i64 0, .int .i64 0, .slice none 0 0, .bool false] 42)).alloc (by simp) (.cells #[.int .i64 0, .int .i64 0, .int .i64 0, .slice none 0 0, .bool false] 42)))
    go_wp2_with fail
    with_reducible refine (sameG_zero _ _ _ _ _ G1.out G2.out).mono ?_
    rintro e w6 ⟨rfl, hb⟩
    have B6 := Lib.hid (B5.out.trans (hb.mono B5.out.size))
    obtain ⟨x0, x1, x2, x3, x4⟩ := A5.out.below hb
    simp only [Nat.zero_add] at x1 x2 x3 x4
    clear hb z0 z1 z2 z3 z4
    go_wp2_with fail
    refine (nDouble_none _ _).mono ?_
    rintro e w' ⟨rfl, rfl⟩
    go_wp2_with fail
    refine (nSpoil_none _ _ _ _).mono ?_
    rintro e w' ⟨rfl, rfl⟩
    go_wp2_with fail
    refine (nLen_none _).mono ?_
    rintro e w' ⟨rfl, rfl⟩
    go_wp2_with fail
    refine (nList_none _).mono ?_
    rintro e w' ⟨rfl, rfl⟩
    go_wp2_with fail
    refine (awakeN_any _).mono ?_
    rintro e w7 ⟨rfl, hb⟩
    have B7 := Lib.hid (B6.out.trans (hb.mono B6.out.size))
    clear hb
    go_wp2_with fail
    go_ret
    exact ⟨rfl, B0.out.trans (B7.out.mono B0.out.size)⟩
open Go.ChangeShapes Go.WideShapes Go.ChangeAt in
theorem netNone_walk {H : Type} {enc : TypeId × Value → H} (W : World) (base : Nat) (v0 : Value) (d0 : DataW H) (p0 : List MemPlace)
    (h0 : DataW.Trod enc Try.prog W 0 (fun _ => true) true 35 v0 d0 p0) (o0 : Value.okWide Try.prog W .any base 35 v0) :
    Calls Try.prog 5 #[v0] W fun e w' => e = .returned (.bool true) ∧ RowKit.Below W.heap.size W w' := by
  obtain ⟨x, _, rfl⟩ := open_nact o0 h0
  exact netNone_any x W
end Go.Proofs.Ytecdigcadmokfaa
