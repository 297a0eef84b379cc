/- texts joined -/
import Derived.Test.YtecdigcadmokfaaPkA
import Derived.Laws.BitsAllLaws
/- net: of no net -/
namespace Go.Proofs.Ytecdigcadmokfaa
open Go.RowKit
set_option linter.unusedVariables false
set_option maxRecDepth 20000
def NActIn (w : World) (p o : Nat) (x : NAct) : Prop := w.cell? ⟨p, o, none⟩ = some (.int .i64 x.do_) ∧ w.cell? ⟨p, o + 1, none⟩ = some (.int .i64 x.i) ∧ w.cell? ⟨p, o + 2, none⟩ = some (.int .i64 x.j) ∧ w.cell? ⟨p, o + 3, none⟩ = some (.int .i64 x.x) ∧ w.cell? ⟨p, o + 4, none⟩ = some (.slice x.ba x.bn x.bc)
theorem NActIn.of {w w' : World} {p o : Nat} {x : NAct} (h : NActIn w p o x) (e : ∀ i, w'.cell? ⟨p, i, none⟩ = w.cell? ⟨p, i, none⟩) : NActIn w' p o x := by
  unfold NActIn at *
  rw [e, e, e, e, e]; exact h
theorem NActIn.below {w w' : World} {p o : Nat} {x : NAct} (h : NActIn w p o x) (hb : Below w.heap.size w w') : NActIn w' p o x := h.of fun i => hb.cell (p := ⟨p, i, none⟩) (lt_of_cell h.1)
theorem nactIn_new (w : World) (x : NAct) (p : Nat) (e : TypeId) (fr : Nat × Nat) (hp : p = w.heap.size) : NActIn (w.alloc (.cells #[.int .i64 x.do_, .int .i64 x.i, .int .i64 x.j, .int .i64 x.x, .slice x.ba x.bn x.bc] e fr)) p 0 x := by
  subst hp
  unfold NActIn
  refine ⟨?_, ?_, ?_, ?_, ?_⟩ <;> (rw [World.cell?_alloc_mark]; rfl)
theorem holdsG_zero (w : World) (e : TypeId) (fr : Nat × Nat) : HoldsG (w.alloc (.cells #[.int .i64 0, .int .i64 0, .int .i64 0, .slice none 0 0, .bool false] e fr)) (some ⟨w.heap.size, 0, none⟩) 1 [gm0] := by
  have h := gmIn_new w gm0 _ e fr rfl
  refine ⟨rfl, fun _ => ⟨w.heap.size, 0, rfl, fun i hi => ?_⟩, fun i hi => ?_⟩
  · obtain rfl : i = 0 := by omega
    obtain ⟨h0, h1, h2, h3, h4⟩ := h
    exact ⟨h0, h1, h2, h3, h4⟩
  · obtain rfl : i = 0 := by omega
    exact holdsB_nil _ _
theorem sameG_zero (a1 a2 : Option Addr) (c1 c2 : Nat) (w : World) (h1 : HoldsG w a1 1 [gm0]) (h2 : HoldsG w a2 1 [gm0]) :
    Calls Try.prog 19 #[.slice a1 1 c1, .slice a2 1 c2] w fun e w' => e = .returned (.bool true) ∧ Below w.heap.size w w' :=
  (sameGrams_quiet a1 a2 1 c1 c2 [gm0] [gm0] w h1 h2 (by omega) (fun i _ => Alike.refl _) (fun i hi => by (have e : i = 0 := by omega); subst e; exact Nat.zero_le _)).mono fun e w' ⟨e1, m, hm⟩ => ⟨e1, by rw [hm]; exact below_drewN _ _⟩
set_option maxHeartbeats 3200000 in
set_option maxRecDepth 100000 in
theorem netNone_any (x : NAct) (w : World) : Calls Try.prog 5 #[.agg #[.int .i64 x.do_, .int .i64 x.i, .int .i64 x.j, .int .i64 x.x, .slice x.ba x.bn x.bc]] w fun e w' => e = .returned (.bool true) ∧ Below w.heap.size w w' := by
  have A0 := Lib.hid (nactIn_new w x w.heap.size 35 (0, 0) rfl)
  have B0 := Lib.hid (below_one w (.cells #[.int .i64 x.do_, .int .i64 x.i, .int .i64 x.j, .int .i64 x.x, .slice x.ba x.bn x.bc] 35))
  by_cases h100 : 100 < x.bn
  · have d1 : decide (100 < x.bn) = true := decide_eq_true h100
    go_enter Try.func5, Try.ntmps5
    go_wp2_with fail
    refine (awakeN_any _).mono ?_
    rintro e w' ⟨rfl, hb⟩
    have B1 := Lib.hid (B0.out.trans (hb.mono B0.out.size))
    clear hb
    go_wp2_with fail
    go_ret
    exact ⟨rfl, B1.out⟩
  · have d1 : decide (100 < x.bn) = false := decide_eq_false h100
    go_enter Try.func5, Try.ntmps5
    go_upto_region 3 with fail
    generalize w.alloc (.cells #[.int .i64 x.do_, .int .i64 x.i, .int .i64 x.j, .int .i64 x.x, .slice x.ba x.bn x.bc] 35) = w1 at *
    obtain ⟨x0, x1, x2, x3, x4⟩ := A0.out
    simp only [Nat.zero_add] at x1 x2 x3 x4
    have A1 := Lib.hid (show NActIn w1 w.heap.size 0 x from A0.out)
    clear A0
    go_wp2_with fail
    refine (nSend_none _ _ _ _).mono ?_
    rintro e w' ⟨rfl, rfl⟩
    go_wp2_with fail
    refine (nDeliver_none _ _).mono ?_
    rintro e w2 ⟨rfl, hb⟩
    have B2 := Lib.hid (hb.trans ((below_one w2 (.cells #[.int .i64 0, .int .i64 0, .int .i64 0, .slice none 0 0, .bool false] 42)).mono hb.size))
    have A3 := Lib.hid (A1.out.below B2.out)
    have Z3 := Lib.hid (show GmIn (w2.alloc (.cells #[.int .i64 0, .int .i64 0, .int .i64 0, .slice none 0 0, .bool false] 42)) w2.heap.size gm0 from gmIn_new w2 gm0 _ 42 (0, 0) rfl)
    clear hb x0 x1 x2 x3 x4
    go_upto_region 6 with fail
    generalize w2.alloc (.cells #[.int .i64 0, .int .i64 0, .int .i64 0, .slice none 0 0, .bool false] 42) = w3 at *
    generalize w2.heap.size = q at *
    obtain ⟨x0, x1, x2, x3, x4⟩ := A3.out
    simp only [Nat.zero_add] at x1 x2 x3 x4
    go_wp2_with fail
    refine (nDrop_none _ _).mono ?_
    rintro e w4 ⟨rfl, hb⟩
    have B4 := Lib.hid (B2.out.trans (hb.mono B2.out.size))
    have A4 := Lib.hid (A3.out.below hb)
    have Z4 := Lib.hid (Z3.out.below hb)
    clear hb x0 x1 x2 x3 x4 A3 Z3
    go_upto_region 7 with fail
    have hZ := Z4.out
    unfold GmIn at hZ
    simp only [gm0] at hZ
    obtain ⟨z0, z1, z2, z3, z4⟩ := hZ
    have G1 := Lib.hid ((holdsG_zero w4 42 (0, 0)).below (below_one _ (.cells #[.int .i64 0, .int .i64 0, .int .i64 0, .slice none 0 0, .bool false] 42)))
    have G2 := Lib.hid (show HoldsG ((w4.alloc (.cells #[.int .i64 0, .int .i64 0, .int .i64 0, .slice none 0 0, .bool false] 42)).alloc (.cells #[.int .i64 0, .int .i64 0, .int .i64 0, .slice none 0 0, .bool false] 42)) (some ⟨w4.heap.size + 1, 0, none⟩) 1 [gm0] from by
      have := holdsG_zero (w4.alloc (.cells #[.int .i64 0, .int .i64 0, .int .i64 0, .slice none 0 0, .bool false] 42)) 42 (0, 0)
      rwa [show (w4.alloc (.cells #[.int .i64 0, .int .i64 0, .int .i64 0, .slice none 0 0, .bool false] 42)).heap.size = w4.heap.size + 1 by simp] at this)
    have B5 := Lib.hid (B4.out.trans ((((Below.refl w4.heap.size w4).alloc (Nat.le_refl _) (.cells #[.int .i64 0, .int .i64 0, .int .i64 0, .slice none 0 0, .bool false] 42)).alloc (by simp) (.cells #[.int .i64 0, .int .i64 0, .int .i64 0, .slice none 0 0, .bool false] 42)).mono B4.out.size))
    have A5 := Lib.hid (A4.out.below (((Below.refl w4.heap.size w4).alloc (Nat.le_refl _) (.cells #[.int .i64 0, .int .i64 0, .int .i64 0, .slice none 0 0, .bool false] 42)).alloc (by simp) (.cells #[.int .i64 0, .int .i64 0, .int .i64 0, .slice none 0 0, .bool false] 42)))
    go_wp2_with fail
    with_reducible refine (sameG_zero _ _ _ _ _ G1.out G2.out).mono ?_
    rintro e w6 ⟨rfl, hb⟩
    have B6 := Lib.hid (B5.out.trans (hb.mono B5.out.size))
    obtain ⟨x0, x1, x2, x3, x4⟩ := A5.out.below hb
    simp only [Nat.zero_add] at x1 x2 x3 x4
    clear hb z0 z1 z2 z3 z4
    go_wp2_with fail
    refine (nDouble_none _ _).mono ?_
    rintro e w' ⟨rfl, rfl⟩
    go_wp2_with fail
    refine (nSpoil_none _ _ _ _).mono ?_
    rintro e w' ⟨rfl, rfl⟩
    go_wp2_with fail
    refine (nLen_none _).mono ?_
    rintro e w' ⟨rfl, rfl⟩
    go_wp2_with fail
    refine (nList_none _).mono ?_
    rintro e w' ⟨rfl, rfl⟩
    go_wp2_with fail
    refine (awakeN_any _).mono ?_
    rintro e w7 ⟨rfl, hb⟩
    have B7 := Lib.hid (B6.out.trans (hb.mono B6.out.size))
    clear hb
    go_wp2_with fail
    go_ret
    exact ⟨rfl, B0.out.trans (B7.out.mono B0.out.size)⟩
open Go.ChangeShapes Go.WideShapes Go.ChangeAt in
theorem netNone_walk {H : Type} {enc : TypeId × Value → H} (W : World) (base : Nat) (v0 : Value) (d0 : DataW H) (p0 : List MemPlace)
    (h0 : DataW.Trod enc Try.prog W 0 (fun _ => true) true 35 v0 d0 p0) (o0 : Value.okWide Try.prog W .any base 35 v0) :
    Calls Try.prog 5 #[v0] W fun e w' => e = .returned (.bool true) ∧ RowKit.Below W.heap.size W w' := by
  obtain ⟨x, _, rfl⟩ := open_nact o0 h0
  exact netNone_any x W
end Go.Proofs.Ytecdigcadmokfaa
/- net: copied, Drop, Double -/
namespace Go.Proofs.Ytecdigcadmokfaa
open Go.RowKit
set_option linter.unusedVariables false
set_option maxRecDepth 20000
def CopyP (w : World) (x : GM) (e : Ending) (w' : World) : Prop :=
  ∃ fa fc, e = .returned (.agg #[.int .i64 x.id, .int .i64 x.frm, .int .i64 x.dst, .slice fa x.bs.length fc, .bool x.sp]) ∧ w'.ownsRow w.heap.size 5 1 (.slice fa x.bs.length fc) x.bs.length (bytesV x.bs) ∧ Below w.heap.size w w' ∧ (fa = none → x.bs.length = 0 ∧ fc = 0)
theorem copy_start (w : World) (x : GM) (e1 e2 : TypeId) (f1 f2 : Nat × Nat) : Below w.heap.size w ((w.alloc (.cells #[.int .i64 x.id, .int .i64 x.frm, .int .i64 x.dst, .slice x.fa x.fn x.fc, .bool x.sp] e1 f1)).alloc (.cells #[.int .i64 0, .int .i64 0, .int .i64 0, .slice none 0 0, .bool false] e2 f2)) ∧ GmIn ((w.alloc (.cells #[.int .i64 x.id, .int .i64 x.frm, .int .i64 x.dst, .slice x.fa x.fn x.fc, .bool x.sp] e1 f1)).alloc (.cells #[.int .i64 0, .int .i64 0, .int .i64 0, .slice none 0 0, .bool false] e2 f2)) w.heap.size x ∧ GmIn ((w.alloc (.cells #[.int .i64 x.id, .int .i64 x.frm, .int .i64 x.dst, .slice x.fa x.fn x.fc, .bool x.sp] e1 f1)).alloc (.cells #[.int .i64 0, .int .i64 0, .int .i64 0, .slice none 0 0, .bool false] e2 f2)) (w.heap.size + 1) gm0 ∧ ((w.alloc (.cells #[.int .i64 x.id, .int .i64 x.frm, .int .i64 x.dst, .slice x.fa x.fn x.fc, .bool x.sp] e1 f1)).alloc (.cells #[.int .i64 0, .int .i64 0, .int .i64 0, .slice none 0 0, .bool false] e2 f2)).heap.size = w.heap.size + 2 :=
  ⟨((Below.refl _ _).alloc (Nat.le_refl _) _).alloc (by simp) _, (gmIn_new w x _ e1 f1 rfl).below (below_one _ _), gmIn_new _ gm0 _ e2 f2 (by simp), by simp⟩
theorem copy_frozen (w : World) (x : GM) (e1 e2 : TypeId) : (∀ i, ((w.alloc (.cells #[.int .i64 x.id, .int .i64 x.frm, .int .i64 x.dst, .slice x.fa x.fn x.fc, .bool x.sp] e1)).alloc (.cells #[.int .i64 0, .int .i64 0, .int .i64 0, .slice none 0 0, .bool false] e2)).frozen? ⟨w.heap.size, i, none⟩ = false) ∧ ∀ i, ((w.alloc (.cells #[.int .i64 x.id, .int .i64 x.frm, .int .i64 x.dst, .slice x.fa x.fn x.fc, .bool x.sp] e1)).alloc (.cells #[.int .i64 0, .int .i64 0, .int .i64 0, .slice none 0 0, .bool false] e2)).frozen? ⟨w.heap.size + 1, i, none⟩ = false :=
  ⟨fun i => ((below_one _ _).frozen (p := ⟨w.heap.size, i, none⟩) (by simp)).trans (frozen_alloc rfl), fun i => frozen_alloc (by simp)⟩
set_option maxHeartbeats 1600000 in
set_option maxRecDepth 100000 in
theorem copied_any (x : GM) (w : World) (h : HoldsB w x.fa x.fn x.bs) (hnone : x.fa = none → x.fn = 0 ∧ x.fc = 0) (hn : x.fn ≤ 1000000) :
    Calls Try.prog 36 #[.agg #[.int .i64 x.id, .int .i64 x.frm, .int .i64 x.dst, .slice x.fa x.fn x.fc, .bool x.sp]] w (CopyP w x) := by
  have START := Lib.hid (copy_start w x 42 42 (0, 0) (0, 0))
  have FZ := Lib.hid (copy_frozen w x 42 42)
  have HB := Lib.hid h
  have HNO := Lib.hid hnone
  clear h hnone
  go_enter Try.func36, Try.ntmps36
  go_upto_region 1 with fail
  obtain ⟨hb2, hX2, hZ2, hs2⟩ := START.out
  obtain ⟨fz1, fz2⟩ := FZ.out
  clear START FZ
  generalize (w.alloc (.cells #[.int .i64 x.id, .int .i64 x.frm, .int .i64 x.dst, .slice x.fa x.fn x.fc, .bool x.sp] 42)).alloc (.cells #[.int .i64 0, .int .i64 0, .int .i64 0, .slice none 0 0, .bool false] 42) = w2 at *
  obtain ⟨p, hp⟩ : ∃ p, w.heap.size = p := ⟨_, rfl⟩
  have HP := Lib.hid hp
  rw [hp] at hX2 hZ2 fz1 fz2 hs2
  rw [hp]
  have B2 := Lib.hid hb2; have X2 := Lib.hid hX2; have Z2 := Lib.hid hZ2; have F1 := Lib.hid fz1; have F2 := Lib.hid fz2
  have CC := Lib.hid (clone_any x.fa x.fn x.fc x.bs w2 (HB.out.below hb2) HNO.out hn)
  obtain ⟨x0, x1, x2, x3, x4⟩ := hX2
  have lp : p + 2 = w2.heap.size := hs2.symm
  have LP := Lib.hid lp
  clear hb2 hZ2 fz1 fz2 hp hs2 lp
  go_wp2_with fail
  refine CC.out.mono ?_
  rintro e w3 ⟨fa, fc, rfl, ho, hb, hnil⟩
  have O3 := Lib.hid ho; have B3 := Lib.hid hb; have NIL := Lib.hid hnil
  have X3 := X2.out.below hb
  have f3 := fun i => (hb.frozen (p := ⟨p, i, none⟩) (lt_of_cell X2.out.1)).trans (F1.out i)
  have f31 := f3 3
  have G3 := Lib.hid X3
  obtain ⟨y0, y1, y2, y3, y4⟩ := X3
  clear x0 x1 x2 x3 x4 ho hb hnil f3 CC
  go_upto_region 2 with fail
  have X4 := Lib.hid (show GmIn (w3.setCell ⟨p, 3, none⟩ (.slice fa x.bs.length fc)) p ⟨x.id, x.frm, x.dst, fa, x.bs.length, fc, x.sp, x.bs⟩ from by
    obtain ⟨a0, a1, a2, a3, a4⟩ := G3.out
    exact ⟨(cset_ne (by omega)).trans a0, (cset_ne (by omega)).trans a1, (cset_ne (by omega)).trans a2, cset_at a3, (cset_ne (by omega)).trans a4⟩)
  have Z4 := Lib.hid (show GmIn (w3.setCell ⟨p, 3, none⟩ (.slice fa x.bs.length fc)) (p + 1) gm0 from (Z2.out.below B3.out).of fun i => cset_far (by omega))
  have F4 := Lib.hid (fun i => (fset_any (w := w3) (a := ⟨p, 3, none⟩) (v := .slice fa x.bs.length fc) (p := ⟨p + 1, i, none⟩)).trans ((B3.out.frozen (p := ⟨p + 1, i, none⟩) (lt_of_cell Z2.out.1)).trans (F2.out i)))
  have O4 := Lib.hid (owns_block0 (w' := w3.setCell ⟨p, 3, none⟩ (.slice fa x.bs.length fc)) O3.out (fun g e => heap_set_far (by have := (O3.out.lt g (by rw [e]; rfl)).1; have := LP.out; omega)))
  have B4 := Lib.hid ((B2.out.trans (B3.out.mono B2.out.size)).setCell (p := ⟨p, 3, none⟩) (by show w.heap.size ≤ p; have := HP.out; omega) (.slice fa x.bs.length fc))
  clear y0 y1 y2 y3 y4 f31 G3
  generalize w3.setCell ⟨p, 3, none⟩ (.slice fa x.bs.length fc) = w4 at *
  obtain ⟨y0, y1, y2, y3, y4⟩ := X4.out
  obtain ⟨z0, z1, z2, z3, z4⟩ := Z4.out
  simp only at y0 y1 y2 y3 y4
  simp only [gm0] at z0 z1 z2 z3 z4
  have f5 := F4.out
  go_wp2_with fail
  have hge : w.heap.size ≤ p + 1 := by have := HP.out; omega
  have BE := ((((B4.out.setCell (p := ⟨p + 1, 0, none⟩) hge (.int .i64 x.id)).setCell (p := ⟨p + 1, 1, none⟩) hge (.int .i64 x.frm)).setCell (p := ⟨p + 1, 2, none⟩) hge (.int .i64 x.dst)).setCell (p := ⟨p + 1, 3, none⟩) hge (.slice fa x.bs.length fc)).setCell (p := ⟨p + 1, 4, none⟩) hge (.bool x.sp)
  refine bodyPost_ret (v := .agg #[.int .i64 x.id, .int .i64 x.frm, .int .i64 x.dst, .slice fa x.bs.length fc, .bool x.sp]) (by simp [results, go_sem, z0, z1, z2, z3, z4]) rfl ⟨fa, fc, rfl, ?_, BE, NIL.out⟩
  have OE := owns_block0 (w' := ((((w4.setCell ⟨p + 1, 0, none⟩ (.int .i64 x.id)).setCell ⟨p + 1, 1, none⟩ (.int .i64 x.frm)).setCell ⟨p + 1, 2, none⟩ (.int .i64 x.dst)).setCell ⟨p + 1, 3, none⟩ (.slice fa x.bs.length fc)).setCell ⟨p + 1, 4, none⟩ (.bool x.sp)) O4.out (fun g e => by
    have hg : g ≠ p + 1 := by have := (O4.out.lt g (by rw [e]; rfl)).1; have := LP.out; omega
    rw [heap_set_far hg, heap_set_far hg, heap_set_far hg, heap_set_far hg, heap_set_far hg])
  exact ⟨OE.1, OE.2.imp id (fun ⟨g, cap, cur, hv, hge, r⟩ => ⟨g, cap, cur, hv, by have := B2.out.size; omega, r⟩)⟩
theorem nDrop_out (i : Int) (b : Nat) {most nx : Int} {G : List GM} {S : Nat → Prop} (w : World) (h : NAt w b most nx G S) (hi : ¬ (0 ≤ i ∧ i < (G.length : Int))) : Calls Try.prog 20 #[.pointer (some ⟨b, 0, none⟩), .int .i64 i] w fun e w' => e = .returned (.tuple #[.int .i64 0, .bool false]) ∧ Below w.heap.size w w' := by
  have CD := Lib.hid (nDeliver_out i b w h hi)
  clear h hi
  go_enter Try.func20, Try.ntmps20
  go_wp2_with fail
  refine CD.out.mono ?_
  rintro e w1 ⟨rfl, hb⟩
  have B1 := Lib.hid (hb.trans ((below_one w1 (.cells #[.int .i64 0, .int .i64 0, .int .i64 0, .slice none 0 0, .bool false] 42)).mono hb.size))
  clear hb
  go_wp2_with fail
  exact bodyPost_ret (v := .tuple #[.int .i64 0, .bool false]) (by simp [results, go_sem]) rfl ⟨rfl, B1.out⟩
theorem nDrop_in (i : Nat) (x : GM) (b : Nat) {most nx : Int} {G : List GM} {S : Nat → Prop} (w : World) (h : NAt w b most nx G S) (hi : i < G.length) (hl : G.length ≤ 64) (hx : G.getD i gm0 = x) :
    Calls Try.prog 20 #[.pointer (some ⟨b, 0, none⟩), .int .i64 i] w fun e w' => e = .returned (.tuple #[.int .i64 x.id, .bool true]) ∧ NAt w' b most nx (G.take i ++ G.drop (i + 1)) S ∧ Turn S w w' := by
  have CD := Lib.hid (nDeliver_in i x b w h hi hl hx)
  clear h hx
  go_enter Try.func20, Try.ntmps20
  go_wp2_with fail
  refine CD.out.mono ?_
  rintro e w1 ⟨rfl, hN, hT, hB⟩
  have N1 := Lib.hid (hN.below (below_one w1 (.cells #[.int .i64 x.id, .int .i64 x.frm, .int .i64 x.dst, .slice x.fa x.fn x.fc, .bool x.sp] 42)))
  have T1 := Lib.hid (hT.trans (Turn.of_below (below_one w1 (.cells #[.int .i64 x.id, .int .i64 x.frm, .int .i64 x.dst, .slice x.fa x.fn x.fc, .bool x.sp] 42))))
  have A1 := Lib.hid (gmIn_new w1 x w1.heap.size 42 (0, 0) rfl)
  clear hN hT hB CD
  go_upto_region 2 with fail
  generalize w1.alloc (.cells #[.int .i64 x.id, .int .i64 x.frm, .int .i64 x.dst, .slice x.fa x.fn x.fc, .bool x.sp] 42) = w2 at *
  generalize w1.heap.size = p at *
  obtain ⟨y0, y1, y2, y3, y4⟩ := A1.out
  go_wp2_with fail
  exact bodyPost_ret (v := .tuple #[.int .i64 x.id, .bool true]) (by simp [results, go_sem]) rfl ⟨rfl, N1.out, T1.out⟩
end Go.Proofs.Ytecdigcadmokfaa
/- net: Double -/
namespace Go.Proofs.Ytecdigcadmokfaa
open Go.RowKit
set_option linter.unusedVariables false
set_option maxRecDepth 20000
theorem nDouble_out (i : Int) (b : Nat) {most nx : Int} {G : List GM} {S : Nat → Prop} (w : World) (h : NAt w b most nx G S) (hi : ¬ (0 ≤ i ∧ i < (G.length : Int))) : Calls Try.prog 21 #[.pointer (some ⟨b, 0, none⟩), .int .i64 i] w fun e w' => e = .returned (.bool false) ∧ Below w.heap.size w w' := by
  have CH := Lib.hid (nHas_any i false b w h (decide_eq_false hi))
  clear h hi
  go_enter Try.func21, Try.ntmps21
  go_wp2_with fail
  refine CH.out.mono ?_
  rintro e w' ⟨rfl, rfl⟩
  go_wp2_with fail
  go_ret
  exact ⟨rfl, Below.refl _ _⟩
theorem nDouble_full (i : Int) (b : Nat) {most nx : Int} {G : List GM} {S : Nat → Prop} (w : World) (h : NAt w b most nx G S) (hi : 0 ≤ i ∧ i < (G.length : Int)) (hf : most ≤ (G.length : Int)) : Calls Try.prog 21 #[.pointer (some ⟨b, 0, none⟩), .int .i64 i] w fun e w' => e = .returned (.bool false) ∧ Below w.heap.size w w' := by
  have CH := Lib.hid (nHas_any i true b w h (decide_eq_true hi))
  have CF := Lib.hid (nFull_any true b w h (decide_eq_true hf))
  clear h hi hf
  go_enter Try.func21, Try.ntmps21
  go_wp2_with fail
  refine CH.out.mono ?_
  rintro e w' ⟨rfl, rfl⟩
  go_wp2_with fail
  refine CF.out.mono ?_
  rintro e w2 ⟨rfl, hb⟩
  have B2 := Lib.hid hb
  clear hb
  go_wp2_with fail
  go_ret
  exact ⟨rfl, B2.out⟩
def DoubleP (w : World) (b : Nat) (most nx : Int) (G : List GM) (S : Nat → Prop) (x : GM) (e : Ending) (w' : World) : Prop :=
  e = .returned (.bool true) ∧ ∃ fa fc S', NAt w' b most nx (G ++ [⟨x.id, x.frm, x.dst, fa, x.bs.length, fc, x.sp, x.bs⟩]) S' ∧ (∀ k, S' k → S k ∨ w.heap.size ≤ k) ∧ Turn S w w'
set_option maxHeartbeats 6400000 in
set_option maxRecDepth 100000 in
theorem nDouble_in (i : Nat) (x : GM) (b : Nat) {most nx : Int} {G : List GM} {S : Nat → Prop} (w : World) (h : NAt w b most nx G S) (hi : i < G.length) (hx : G.getD i gm0 = x) (hf : (G.length : Int) < most) (hm : most ≤ 64) (hxn : x.fn ≤ 1000000) :
    Calls Try.prog 21 #[.pointer (some ⟨b, 0, none⟩), .int .i64 i] w (DoubleP w b most nx G S x) := by
  obtain ⟨i0, hi0, hz0, hz1, hz2⟩ := info_parts gm_info
  have CH := Lib.hid (nHas_any i true b w h (decide_eq_true ⟨by omega, by omega⟩))
  have CF := Lib.hid (nFull_any false b w h (decide_eq_false (by omega)))
  have HX := Lib.hid (show x ∈ G from by rw [← hx, List.getD_eq_getElem?_getD, List.getElem?_eq_getElem hi]; simp)
  have HXX := Lib.hid hx
  have H := Lib.hid h
  have hl : G.length < 64 := by omega
  clear h hf hm hx
  go_enter Try.func21, Try.ntmps21
  go_wp2_with fail
  refine CH.out.mono ?_
  rintro e w' ⟨rfl, rfl⟩
  go_wp2_with fail
  refine CF.out.mono ?_
  rintro e w2 ⟨rfl, hb⟩
  have N2 := Lib.hid (H.out.below hb)
  have B2 := Lib.hid hb
  clear hb CH CF
  obtain ⟨a, c, M⟩ := N2.out.mid
  obtain ⟨m1, m2, m3, m4, m5, m6, m7, m8, m9⟩ := M
  have M2 := Lib.hid (show MidN w2 b most nx a c G S from ⟨m1, m2, m3, m4, m5, m6, m7, m8, m9⟩)
  obtain ⟨g, rfl⟩ : ∃ g, a = some ⟨g, 0, none⟩ := by
    obtain ⟨g, cap', hv⟩ := Joins.ownsRow_form m5 (by omega)
    simp only [Value.slice.injEq] at hv
    exact ⟨g, hv.1⟩
  have K2 := Lib.hid m3
  have OW := Lib.hid m5
  have FX := m6 x HX.out
  have CC := Lib.hid (copied_any x w2.drew (FX.1.below (Below.refl _ _).drew) FX.2.1 hxn)
  have BD := Lib.hid (fun wf (hb : Below w2.drew.heap.size w2.drew wf) => (show Below w2.heap.size w2 wf from (Below.refl _ _).drew.trans hb))
  have AB := Lib.hid (show ∀ w' o w6, Below w2.heap.size w2 w' → (w'.alloc o).grownBy w6 (Value.slice (some ⟨g, 0, none⟩) G.length c).ownBlock → w6.cell? ⟨b, 2, none⟩ = some (.slice (some ⟨g, 0, none⟩) G.length c) ∧ w6.frozen? ⟨b, 2, none⟩ = false from fun w' o w6 hb hg => by
    have lb := m9 b m7
    have hz := hb.size
    have ob := ((hg.block b (by simp; omega) (fun e => (m8 b (ownb m5 e)).2 rfl)).trans (Below.heap_alloc _ _ _ (by omega))).trans (hb.block b lb)
    exact ⟨(World.cell?_of_block (w := w2) ob).trans m3, (World.frozen?_of_block (w := w2) ob).trans (m4 2)⟩)
  obtain ⟨v0, v1, v2, v3, v4⟩ := gmV_at G i hi
  rw [HXX.out] at v0 v1 v2 v3 v4
  have x0 : w2.drew.cell? ⟨g, i * 5, none⟩ = _ := (m5.cellAt (i * 5) (by omega)).trans v0
  have x1 : w2.drew.cell? ⟨g, i * 5 + 1, none⟩ = _ := (m5.cellAt (i * 5 + 1) (by omega)).trans v1
  have x2 : w2.drew.cell? ⟨g, i * 5 + 2, none⟩ = _ := (m5.cellAt (i * 5 + 2) (by omega)).trans v2
  have x3 : w2.drew.cell? ⟨g, i * 5 + 3, none⟩ = _ := (m5.cellAt (i * 5 + 3) (by omega)).trans v3
  have x4 : w2.drew.cell? ⟨g, i * 5 + 4, none⟩ = _ := (m5.cellAt (i * 5 + 4) (by omega)).trans v4
  have k3 : w2.drew.cell? ⟨b, 2, none⟩ = some (.slice (some ⟨g, 0, none⟩) G.length c) := m3
  have i1 : (0 : Int) ≤ (i : Int) := by omega
  have i2 : (i : Int) < (G.length : Int) := by omega
  clear m1 m2 m3 m4 m5 m6 m7 m8 m9 v0 v1 v2 v3 v4 FX
  go_upto_region 3 with fail
  go_region_law
    (first
      | (refine step_append_lies _ (by rfl) _ _ _ (by rfl) 0 42 i0 _ 5 56 Try.underlying46 hi0 hz0 hz1 hz2 rfl (by omega) (.slice (some ⟨g, 0, none⟩) G.length c) G.length (gmV G) (by rfl) (OWF.alloc _) ⟨wf.heap.size, 0, none⟩ 1 1 [.int .i64 x.id, .int .i64 x.frm, .int .i64 x.dst, .slice fa x.bs.length fc, .bool x.sp] (by rfl) (by rfl) (World.news_of_block (cs := #[.int .i64 x.id, .int .i64 x.frm, .int .i64 x.dst, .slice fa x.bs.length fc, .bool x.sp]) (t := 42) (fr := (0, 0)) (heap_alloc_new wf _)) (by simp [Value.oneCell']) (by omega) (by unfold maxLen; omega) (by omega) (by omega) (wf.heap.size + 1) (by simp) ?_; intro g3 c3 w6 hown6 hgrow6 hat6 hlt6; obtain ⟨x0', x1'⟩ := AB.out _ _ _ BF hgrow6)
      | (go_simp; go_at_call 36; (with_reducible refine CC.out.mono ?_); rintro e wf ⟨fa, fc, rfl, hOF, hbF, hNF⟩; have BF := BD.out _ hbF; have OWF := owns_below OW.out BF; have y0 := c2_carry K2.out BF; have y1 := fun o => c2_carry y0 (below_one wf o)))
  all_goals
    obtain ⟨q0, q1⟩ : HoldsB wf fa x.bs.length x.bs ∧ ∀ fb fo, fa = some ⟨fb, fo, none⟩ → w2.heap.size ≤ fb ∧ fb < wf.heap.size := ⟨holdsB_of_values (owns_holds hOF) (M2.out.2.2.2.2.2.1 x HX.out).1.2, fun fb fo e => by
      rcases Joins.ownsRow_forms hOF with ⟨e1, _⟩ | ⟨g, cap, e1⟩
      · injection e1 with e2; rw [e] at e2; cases e2
      · injection e1 with e2; rw [e] at e2; injection e2 with e2; injection e2 with e2 e3; subst e2; subst e3; rw [e] at hOF; exact hOF.lt _ rfl⟩
    have GR := Lib.hid (MidN.grown (x := ⟨x.id, x.frm, x.dst, fa, x.bs.length, fc, x.sp, x.bs⟩) M2.out BF q0 hNF q1 hown6 hgrow6 (hat6.imp id (fun e => by simp; exact e)) hlt6)
    clear q0 q1 hown6 hgrow6 hat6 hlt6 hOF hNF OWF
    go_wp2_with fail
    go_ret
    refine ⟨rfl, fa, fc, _, GR.out.1, fun k hk => ?_, (Turn.of_below B2.out).trans GR.out.2⟩
    have hz := B2.out.size
    exact hk.imp id (fun x => by have := x.1; omega)
end Go.Proofs.Ytecdigcadmokfaa
/- net: one byte turned; a copy; Drop -/
namespace Go.Proofs.Ytecdigcadmokfaa
open Go.RowKit
set_option linter.unusedVariables false
set_option maxRecDepth 20000
namespace Dm
def k (n : Nat) (at_ : Int) : Nat := (IntKind.u64.wrap at_ % (n : Int)).toNat
def m (x : Int) : Nat := (1 + IntKind.u64.wrap x % 255).toNat
def turned (bs : List Nat) (at_ x : Int) : List Nat := bs.set (k bs.length at_) (bs.getD (k bs.length at_) 0 ^^^ m x)
theorem u64_bd (d : Int) : 0 ≤ IntKind.u64.wrap d ∧ IntKind.u64.wrap d < 18446744073709551616 := by
  simp only [IntKind.wrap, IntKind.signed, IntKind.bits]; simp; omega
theorem k_eq (n : Nat) (at_ : Int) (h : 0 < n) : IntKind.u64.wrap at_ % (n : Int) = (k n at_ : Int) := by
  unfold k
  rw [Int.toNat_of_nonneg (Int.emod_nonneg _ (by omega))]
theorem k_lt (n : Nat) (at_ : Int) (h : 0 < n) : k n at_ < n := by
  have h1 := k_eq n at_ h
  have h2 : IntKind.u64.wrap at_ % (n : Int) < (n : Int) := Int.emod_lt_of_pos _ (by omega)
  omega
theorem m_eq (x : Int) : 1 + IntKind.u64.wrap x % 255 = (m x : Int) := by
  unfold m
  have h2 : 0 ≤ IntKind.u64.wrap x % 255 := Int.emod_nonneg _ (by omega)
  rw [Int.toNat_of_nonneg (by omega)]
theorem m_bd (x : Int) : 1 ≤ m x ∧ m x ≤ 255 := by
  have h1 := m_eq x
  have h2 : 0 ≤ IntKind.u64.wrap x % 255 := Int.emod_nonneg _ (by omega)
  have h3 : IntKind.u64.wrap x % 255 < 255 := Int.emod_lt_of_pos _ (by omega)
  omega
theorem turned_len (bs : List Nat) (at_ x : Int) : (turned bs at_ x).length = bs.length := by simp [turned]
end Dm
theorem bytesV_set (bs : List Nat) (k v : Nat) : (bytesV bs).set k (.int .u8 (v : Int)) = bytesV (bs.set k v) := by simp [bytesV, List.map_set]
set_option maxHeartbeats 1600000 in
theorem change_any (a : Option Addr) (n c : Nat) (bs : List Nat) (at_ x : Int) (w : World) (h : HoldsB w a n bs) (hnone : a = none → n = 0 ∧ c = 0) (h0 : 0 < n) (hn : n ≤ 1000000) :
    Calls Try.prog 37 #[.slice a n c, .int .i64 at_, .int .i64 x] w (RetB 5 w (Dm.turned bs at_ x)) := by
  have CC := Lib.hid (clone_any a n c bs w h hnone hn)
  have hl := h.len
  have hk := Dm.k_eq n at_ h0
  have hkl := Dm.k_lt n at_ h0
  have hm := Dm.m_eq x
  have hmb := Dm.m_bd x
  have hbs := h.2
  obtain ⟨k, hkk⟩ : ∃ k, Dm.k n at_ = k := ⟨_, rfl⟩
  obtain ⟨m, hmm⟩ : ∃ m, Dm.m x = m := ⟨_, rfl⟩
  obtain ⟨y, hy⟩ : ∃ y, bs.getD k 0 = y := ⟨_, rfl⟩
  have hyb : y < 256 := by
    rw [← hy, List.getD_eq_getElem?_getD, List.getElem?_eq_getElem (by omega)]
    exact hbs _ (List.getElem_mem _)
  rw [hkk] at hk hkl
  rw [hmm] at hm hmb
  have hT : Dm.turned bs at_ x = bs.set k (y ^^^ m) := by unfold Dm.turned; rw [hl, hkk, hy, hmm]
  have HBS := Lib.hid hbs
  have TT := Lib.hid hT; have HY := Lib.hid hy; have HL := Lib.hid hl
  have z0 : ((n : Int) == 0) = false := by simp; omega
  have b1 := Dm.u64_bd at_
  have b2 := Dm.u64_bd x
  have w1 : IntKind.u64.wrap (n : Int) = (n : Int) := by simp only [IntKind.wrap, IntKind.signed, IntKind.bits]; simp; omega
  have w2 : IntKind.u64.wrap (1 + IntKind.u64.wrap x % 255) = (m : Int) := by rw [hm]; simp only [IntKind.wrap, IntKind.signed, IntKind.bits]; simp; omega
  have w3 : IntKind.u8.wrap (m : Int) = (m : Int) := by simp only [IntKind.wrap, IntKind.signed, IntKind.bits]; simp; omega
  have hx : bits BinOp.xor IntKind.u8 (y : Int) (m : Int) = ((y ^^^ m : Nat) : Int) := u8_xor_nat y m hyb (by omega)
  have k1 : (0 : Int) ≤ (k : Int) := by omega
  have k2 : (k : Int) < (n : Int) := by omega
  clear h hnone hl hT hy hkk hmm hbs
  go_enter Try.func37, Try.ntmps37
  go_wp2_with fail
  refine CC.out.mono ?_
  rintro e w3' ⟨a3, c3, rfl, ho, hb, hnil⟩
  rw [HL.out] at ho
  rw [HL.out]
  obtain ⟨g, rfl⟩ : ∃ g, a3 = some ⟨g, 0, none⟩ := by
    obtain ⟨g, cap', hv⟩ := Joins.ownsRow_form ho (by omega)
    simp only [Value.slice.injEq] at hv
    exact ⟨g, hv.1⟩
  have O3 := Lib.hid ho; have B3 := Lib.hid hb
  obtain ⟨gb, go, hge, hc⟩ := (holdsB_of_values (owns_holds ho) HBS.out).at (by omega)
  injection hge with hge; injection hge with e1 e2; subst e1 e2
  have ck := hc k hkl
  rw [Nat.zero_add, HY.out] at ck
  clear hc
  have fk := ho.frozenAt k
  have B5 := Lib.hid (B3.out.setCell (p := ⟨g, k, none⟩) (O3.out.lt g rfl).1 (.int .u8 ((y ^^^ m : Nat) : Int)))
  have O5 := Lib.hid ((O3.out.stored k (.int .u8 ((y ^^^ m : Nat) : Int))).1)
  have hlen : (Dm.turned bs at_ x).length = n := by rw [Dm.turned_len, HL.out]
  have RR := Lib.hid (show RetB 5 w (Dm.turned bs at_ x) (.returned (.slice (some ⟨g, 0, none⟩) n c3)) (w3'.setCell ⟨g, k, none⟩ (.int .u8 ((y ^^^ m : Nat) : Int))) from
    ⟨some ⟨g, 0, none⟩, c3, by rw [hlen], by rw [hlen, TT.out, ← bytesV_set]; exact O5.out, B5.out, fun h => by cases h⟩)
  clear hlen
  go_wp2_with fail
  go_ret
  exact RR.out
end Go.Proofs.Ytecdigcadmokfaa
/- net: Spoil -/
namespace Go.Proofs.Ytecdigcadmokfaa
open Go.RowKit
set_option linter.unusedVariables false
set_option maxRecDepth 20000
theorem Dm.turned_bd {bs : List Nat} {at_ x : Int} (h : ∀ b ∈ bs, b < 256) : ∀ b ∈ Dm.turned bs at_ x, b < 256 := by
  intro b hb
  unfold Dm.turned at hb
  rcases List.mem_or_eq_of_mem_set hb with hb | rfl
  · exact h b hb
  · refine Nat.xor_lt_two_pow (n := 8) ?_ (by have := Dm.m_bd x; omega)
    by_cases e : Dm.k bs.length at_ < bs.length
    · rw [List.getD_eq_getElem?_getD, List.getElem?_eq_getElem e]
      exact h _ (List.getElem_mem _)
    · rw [List.getD_eq_getElem?_getD, List.getElem?_eq_none (by omega)]
      decide
theorem gmV_set2 : ∀ (G : List GM) (i : Nat) (fa : Option Addr) (fn fc : Nat) (bs : List Nat), i < G.length → ((gmV G).set (i * 5 + 3) (.slice fa fn fc)).set (i * 5 + 4) (.bool true) = gmV (G.set i ⟨(G.getD i gm0).id, (G.getD i gm0).frm, (G.getD i gm0).dst, fa, fn, fc, true, bs⟩)
  | [], i, _, _, _, _, h => by simp at h
  | x :: l, 0, fa, fn, fc, bs, _ => by simp [gmV]
  | x :: l, i + 1, fa, fn, fc, bs, h => by
    have ih := gmV_set2 l i fa fn fc bs (by simpa using h)
    have e1 : (i + 1) * 5 + 3 = i * 5 + 3 + 1 + 1 + 1 + 1 + 1 := by omega
    have e2 : (i + 1) * 5 + 4 = i * 5 + 4 + 1 + 1 + 1 + 1 + 1 := by omega
    rw [e1, e2]
    simp only [gmV, List.set_cons_succ, List.getD_cons_succ]
    rw [ih]
theorem MidN.spoilt {w wf : World} {b : Nat} {most nx : Int} {g c i fn fc : Nat} {fa : Option Addr} {bs : List Nat} {G : List GM} {S : Nat → Prop} {x : GM} (h : MidN w b most nx (some ⟨g, 0, none⟩) c G S) (hi : i < G.length) (hxe : G.getD i gm0 = x) (hb : Below w.heap.size w wf)
    (hx : HoldsB wf fa fn bs) (hnone : fa = none → fn = 0 ∧ fc = 0) (hfb : ∀ fb fo, fa = some ⟨fb, fo, none⟩ → w.heap.size ≤ fb ∧ fb < wf.heap.size) :
    NAt ((wf.setCell ⟨g, i * 5 + 3, none⟩ (.slice fa fn fc)).setCell ⟨g, i * 5 + 4, none⟩ (.bool true)) b most nx (G.set i ⟨x.id, x.frm, x.dst, fa, fn, fc, true, bs⟩) (fun k => S k ∨ (w.heap.size ≤ k ∧ k < wf.heap.size)) ∧
      Turn S w ((wf.setCell ⟨g, i * 5 + 3, none⟩ (.slice fa fn fc)).setCell ⟨g, i * 5 + 4, none⟩ (.bool true)) := by
  obtain ⟨h1, h2, h3, h4, h5, h6, h7, h8, h9⟩ := h
  obtain ⟨z1, z2⟩ := h8 g rfl
  have hz := hb.size
  have hlb := h9 b h7
  have bne : b ≠ g := fun e => z2 e.symm
  have far : ∀ k, k ≠ g → ((wf.setCell ⟨g, i * 5 + 3, none⟩ (.slice fa fn fc)).setCell ⟨g, i * 5 + 4, none⟩ (.bool true)).heap[k]? = wf.heap[k]? := fun k hk => by rw [heap_set_far hk, heap_set_far hk]
  have ob := (far b bne).trans (hb.block b hlb)
  have cb : ∀ j, ((wf.setCell ⟨g, i * 5 + 3, none⟩ (.slice fa fn fc)).setCell ⟨g, i * 5 + 4, none⟩ (.bool true)).cell? ⟨b, j, none⟩ = w.cell? ⟨b, j, none⟩ := fun j => World.cell?_of_block (w := w) ob
  have own := (((owns_below h5 hb).stored (i * 5 + 3) (.slice fa fn fc)).1.stored (i * 5 + 4) (.bool true)).1
  have hset := gmV_set2 G i fa fn fc bs hi
  rw [hxe] at hset
  rw [hset] at own
  have sz : ((wf.setCell ⟨g, i * 5 + 3, none⟩ (.slice fa fn fc)).setCell ⟨g, i * 5 + 4, none⟩ (.bool true)).heap.size = wf.heap.size := by simp [World.setCell]
  have hlen : (G.set i ⟨x.id, x.frm, x.dst, fa, fn, fc, true, bs⟩).length = G.length := by simp
  refine ⟨⟨some ⟨g, 0, none⟩, c, (cb 0).trans h1, (cb 1).trans h2, by rw [hlen]; exact (cb 2).trans h3, fun j => ?_, by rw [hlen]; exact own, fun y hy => ?_, Or.inl h7, fun q hq => ⟨Or.inl (h8 q hq).1, (h8 q hq).2⟩, fun k hk => ?_⟩, ?_⟩
  · rw [World.frozen?_of_block (w := w) ob]; exact h4 j
  · rcases List.mem_or_eq_of_mem_set hy with hy | rfl
    · obtain ⟨y1, y2, y3⟩ := h6 y hy
      refine ⟨holdsB_blocks y1 (fun fb fo e => ?_), y2, fun fb fo e => ⟨Or.inl (y3 fb fo e).1, (y3 fb fo e).2.1, (y3 fb fo e).2.2⟩⟩
      rw [far fb ((y3 fb fo e).2.2 g rfl)]
      exact hb.block fb (h9 fb (y3 fb fo e).1)
    · refine ⟨holdsB_blocks hx (fun fb fo e => ?_), hnone, fun fb fo e => ⟨Or.inr (hfb fb fo e), by have := (hfb fb fo e).1; omega, fun q hq => ?_⟩⟩
      · exact far fb (by have := (hfb fb fo e).1; have := h9 g z1; omega)
      · injection hq with hq; injection hq with hq; subst hq
        have := (hfb fb fo e).1; have := h9 g z1; omega
  · rw [sz]
    rcases hk with hk | hk
    · have := h9 k hk; omega
    · exact hk.2
  · exact ((Turn.of_below hb).trans (Turn.setCell z1)).trans (Turn.setCell z1)
theorem nSpoil_out (i at_ x : Int) (b : Nat) {most nx : Int} {G : List GM} {S : Nat → Prop} (w : World) (h : NAt w b most nx G S) (hi : ¬ (0 ≤ i ∧ i < (G.length : Int))) : Calls Try.prog 23 #[.pointer (some ⟨b, 0, none⟩), .int .i64 i, .int .i64 at_, .int .i64 x] w fun e w' => e = .returned (.bool false) ∧ w = w' := by
  have CH := Lib.hid (nHas_any i false b w h (decide_eq_false hi))
  clear h hi
  go_enter Try.func23, Try.ntmps23
  go_wp2_with fail
  refine CH.out.mono ?_
  rintro e w' ⟨rfl, rfl⟩
  go_wp2_with fail
  go_ret
  exact ⟨rfl, rfl⟩
set_option maxHeartbeats 3200000 in
set_option maxRecDepth 100000 in
theorem nSpoil_no (i : Nat) (at_ xx : Int) (x : GM) (b : Nat) {most nx : Int} {G : List GM} {S : Nat → Prop} (w : World) (h : NAt w b most nx G S) (hi : i < G.length) (hx : G.getD i gm0 = x) (hno : x.sp = true ∨ x.fn = 0) : Calls Try.prog 23 #[.pointer (some ⟨b, 0, none⟩), .int .i64 i, .int .i64 at_, .int .i64 xx] w fun e w' => e = .returned (.bool false) ∧ w = w' := by
  have CH := Lib.hid (nHas_any i true b w h (decide_eq_true ⟨by omega, by omega⟩))
  obtain ⟨a, c, M⟩ := h.mid
  obtain ⟨m1, m2, m3, m4, m5, m6, m7, m8, m9⟩ := M
  obtain ⟨g, rfl⟩ : ∃ g, a = some ⟨g, 0, none⟩ := by
    obtain ⟨g, cap', hv⟩ := Joins.ownsRow_form m5 (by omega)
    simp only [Value.slice.injEq] at hv
    exact ⟨g, hv.1⟩
  obtain ⟨v0, v1, v2, v3, v4⟩ := gmV_at G i hi
  rw [hx] at v0 v1 v2 v3 v4
  have x3 := (m5.cellAt (i * 5 + 3) (by omega)).trans v3
  have x4 := (m5.cellAt (i * 5 + 4) (by omega)).trans v4
  have i1 : (0 : Int) ≤ (i : Int) := by omega
  have i2 : (i : Int) < (G.length : Int) := by omega
  obtain ⟨id, frm, dst, fa, fn, fc, sp, bs⟩ := x
  simp only at x3 x4 hno
  clear h hx m1 m2 m4 m5 m6 m7 m8 m9 v0 v1 v2 v3 v4
  cases sp
  · obtain rfl : fn = 0 := by simpa using hno
    clear hno
    go_enter Try.func23, Try.ntmps23
    go_wp2_with fail
    refine CH.out.mono ?_
    rintro e w' ⟨rfl, rfl⟩
    go_wp2_with fail
    go_ret
    exact ⟨rfl, rfl⟩
  · clear hno
    go_enter Try.func23, Try.ntmps23
    go_wp2_with fail
    refine CH.out.mono ?_
    rintro e w' ⟨rfl, rfl⟩
    go_wp2_with fail
    go_ret
    exact ⟨rfl, rfl⟩
def SpoilP (w : World) (b : Nat) (most nx : Int) (G : List GM) (S : Nat → Prop) (i : Nat) (x : GM) (at_ xx : Int) (e : Ending) (w' : World) : Prop :=
  e = .returned (.bool true) ∧ ∃ fa fc S', NAt w' b most nx (G.set i ⟨x.id, x.frm, x.dst, fa, (Dm.turned x.bs at_ xx).length, fc, true, Dm.turned x.bs at_ xx⟩) S' ∧ (∀ k, S' k → S k ∨ w.heap.size ≤ k) ∧ Turn S w w'
set_option maxHeartbeats 6400000 in
set_option maxRecDepth 100000 in
theorem nSpoil_in (i : Nat) (at_ xx : Int) (x : GM) (b : Nat) {most nx : Int} {G : List GM} {S : Nat → Prop} (w : World) (h : NAt w b most nx G S) (hi : i < G.length) (hx : G.getD i gm0 = x) (hsp : x.sp = false) (hn0 : 0 < x.fn) (hn : x.fn ≤ 1000000) (hl : G.length ≤ 64) :
    Calls Try.prog 23 #[.pointer (some ⟨b, 0, none⟩), .int .i64 i, .int .i64 at_, .int .i64 xx] w (SpoilP w b most nx G S i x at_ xx) := by
  have CH := Lib.hid (nHas_any i true b w h (decide_eq_true ⟨by omega, by omega⟩))
  have HXX := Lib.hid hx
  have HX := Lib.hid (show x ∈ G from by rw [← hx, List.getD_eq_getElem?_getD, List.getElem?_eq_getElem hi]; simp)
  obtain ⟨a, c, M⟩ := h.mid
  have M2 := Lib.hid (show MidN w b most nx a c G S from M)
  obtain ⟨m1, m2, m3, m4, m5, m6, m7, m8, m9⟩ := M
  obtain ⟨g, rfl⟩ : ∃ g, a = some ⟨g, 0, none⟩ := by
    obtain ⟨g, cap', hv⟩ := Joins.ownsRow_form m5 (by omega)
    simp only [Value.slice.injEq] at hv
    exact ⟨g, hv.1⟩
  obtain ⟨v0, v1, v2, v3, v4⟩ := gmV_at G i hi
  rw [hx] at v0 v1 v2 v3 v4
  rw [hsp] at v4
  have x3 := (m5.cellAt (i * 5 + 3) (by omega)).trans v3
  have x4 := (m5.cellAt (i * 5 + 4) (by omega)).trans v4
  have x3d : w.drew.cell? ⟨g, i * 5 + 3, none⟩ = _ := x3
  have k3 : w.drew.cell? ⟨b, 2, none⟩ = some (.slice (some ⟨g, 0, none⟩) G.length c) := m3
  have X4 := Lib.hid x4
  have K2 := Lib.hid m3
  have OW := Lib.hid m5
  have i1 : (0 : Int) ≤ (i : Int) := by omega
  have i2 : (i : Int) < (G.length : Int) := by omega
  have z0 : ((x.fn : Int) == 0) = false := by simp; omega
  have FX := m6 x HX.out
  have HLN := Lib.hid FX.1.len
  have CC := Lib.hid (change_any x.fa x.fn x.fc x.bs at_ xx w.drew (FX.1.below (Below.refl _ _).drew) FX.2.1 hn0 hn)
  have BD := Lib.hid (fun wf (hb : Below w.drew.heap.size w.drew wf) => (show Below w.heap.size w wf from (Below.refl _ _).drew.trans hb))
  have lg := m9 g (m8 g rfl).1
  have lb := m9 b m7
  have gne : b ≠ g := fun e => (m8 g rfl).2 e.symm
  clear h hx m1 m2 m4 m5 m6 m7 m8 m9 v0 v1 v2 v3 v4 FX hsp hn0
  go_enter Try.func23, Try.ntmps23
  go_wp2_with fail
  refine CH.out.mono ?_
  rintro e w' ⟨rfl, rfl⟩
  go_upto_region 3 with fail
  go_region_law
    (go_simp; go_at_call 37; (with_reducible refine CC.out.mono ?_); rintro e wf ⟨fa, fc, rfl, hOF, hbF, hNF⟩; have BF := BD.out _ hbF; have y0 := c2_carry K2.out BF; have OWF := owns_below OW.out BF; have y3 := (BF.cell (p := ⟨g, i * 5 + 3, none⟩) lg).trans x3; have f3 := OWF.frozenAt (i * 5 + 3))
  all_goals
    obtain ⟨q0, q1⟩ : HoldsB wf fa (Dm.turned x.bs at_ xx).length (Dm.turned x.bs at_ xx) ∧ ∀ fb fo, fa = some ⟨fb, fo, none⟩ → w.heap.size ≤ fb ∧ fb < wf.heap.size := ⟨holdsB_of_values (owns_holds hOF) (Dm.turned_bd (M2.out.2.2.2.2.2.1 x HX.out).1.2), fun fb fo e => by
      rcases Joins.ownsRow_forms hOF with ⟨e1, _⟩ | ⟨g, cap, e1⟩
      · injection e1 with e2; rw [e] at e2; cases e2
      · injection e1 with e2; rw [e] at e2; injection e2 with e2; injection e2 with e2 e3; subst e2; subst e3; rw [e] at hOF; exact hOF.lt _ rfl⟩
    have GR := Lib.hid (MidN.spoilt (i := i) (fc := fc) M2.out hi HXX.out BF q0 hNF q1)
    have y5 := (cset_far (w := wf) (b := g) (c := b) (o := i * 5 + 3) (p := 2) (v := .slice fa (Dm.turned x.bs at_ xx).length fc) (Ne.symm gne)).trans y0
    have y6 := (cset_ne (w := wf) (b := g) (o := i * 5 + 3) (p := i * 5 + 4) (v := .slice fa (Dm.turned x.bs at_ xx).length fc) (by omega)).trans ((BF.cell (p := ⟨g, i * 5 + 4, none⟩) lg).trans X4.out)
    have f6 := (fset_any (w := wf) (a := ⟨g, i * 5 + 3, none⟩) (v := .slice fa (Dm.turned x.bs at_ xx).length fc) (p := ⟨g, i * 5 + 4, none⟩)).trans (OWF.frozenAt (i * 5 + 4))
    clear q0 q1 hOF hNF OWF y0 y3 f3 x3 x4 x3d k3
    go_wp2_with fail
    go_ret
    exact ⟨rfl, fa, fc, _, GR.out.1, fun k hk => hk.imp id (fun x => x.1), GR.out.2⟩
end Go.Proofs.Ytecdigcadmokfaa
/- net: great; what is kept -/
namespace Go.Proofs.Ytecdigcadmokfaa
open Go.RowKit
set_option linter.unusedVariables false
set_option maxRecDepth 20000
def HoldsNA (w : World) (a : Option Addr) (n : Nat) (xs : Nat → NAct) : Prop := (0 < n → ∃ b o, a = some ⟨b, o, none⟩ ∧ ∀ i, i < n → NActIn w b (o + i * 5) (xs i)) ∧ ∀ i, i < n → NActOk w (xs i)
theorem HoldsNA.below {w w' : World} {a : Option Addr} {n : Nat} {xs : Nat → NAct} (h : HoldsNA w a n xs) (hb : Below w.heap.size w w') : HoldsNA w' a n xs := by
  refine ⟨fun h0 => ?_, fun i hi => ⟨(h.2 i hi).1.below hb, (h.2 i hi).2⟩⟩
  obtain ⟨b, o, ha, hc⟩ := h.1 h0
  exact ⟨b, o, ha, fun i hi => (hc i hi).below hb⟩
def GreatN (n : Nat) (xs : Nat → NAct) (w : World) (e : Ending) (w' : World) : Prop := ∃ z, e = .returned (.bool z) ∧ w = w' ∧ (z = false → n ≤ 100 ∧ ∀ i, i < n → (xs i).bn ≤ 100)
set_option maxHeartbeats 1600000 in
theorem greatN_any (a : Option Addr) (n cap : Nat) (xs : Nat → NAct) (w : World) (h : HoldsNA w a n xs) (hn : n ≤ 9223372036854775807) : Calls Try.prog 7 #[.slice a n cap, .int .i64 100] w (GreatN n xs w) := by
  have H := Lib.hid h
  clear h
  by_cases h100 : n ≤ 100
  · have d1 : decide (n ≤ 100) = true := decide_eq_true h100
    have d2 : decide ((n : Int) > 100) = false := by simp; omega
    have d3 : decide (100 < n) = false := by simp; omega
    go_enter Try.func7, Try.ntmps7
    go_wp2_with fail
    go_loop [5] (fun iv => ∃ i : Nat, i ≤ n ∧ iv = .int .i64 i ∧ Hid (∀ k, k < i → (xs k).bn ≤ 100)) (fun iv => n - (intOf iv).toNat)
    case atStart => exact ⟨0, by omega, rfl, Lib.hid (fun k hk => by omega)⟩
    case round =>
      obtain ⟨i, hi, rfl, hK⟩ := hrel
      by_cases hlt : i < n
      · obtain ⟨b, o, rfl, hc⟩ := H.out.1 (by omega)
        have ha := hc i hlt
        have hx := (H.out.2 i hlt).2.2
        obtain ⟨x, hxx⟩ : ∃ x, xs i = x := ⟨_, rfl⟩
        have HXX := Lib.hid hxx
        rw [hxx] at ha hx
        unfold NActIn at ha
        obtain ⟨-, -, -, -, a4⟩ := ha
        clear hc hxx
        by_cases c1 : 100 < x.bn
        · have c2 : decide (100 < x.bn) = true := decide_eq_true c1
          go_wp2_with fail
          go_ret
          exact ⟨true, rfl, rfl, fun h => by cases h⟩
        · have c2 : decide (100 < x.bn) = false := decide_eq_false c1
          have KN := Lib.hid (show ∀ k, k < i + 1 → (xs k).bn ≤ 100 from fun k hk => by
            rcases Nat.lt_succ_iff_lt_or_eq.1 hk with e | e
            · exact hK.out k e
            · subst e; rw [HXX.out]; omega)
          go_wp2_with fail
          go_round
          case rel => exact ⟨i + 1, by omega, by go_num, KN⟩
          case measure => simp [intOf]; omega
      · obtain rfl : i = n := by omega
        go_wp2_with fail
        go_ret
        exact ⟨_, rfl, rfl, fun _ => ⟨h100, hK.out⟩⟩
  · have d1 : decide (n ≤ 100) = false := decide_eq_false h100
    have d2 : decide ((n : Int) > 100) = true := by simp; omega
    have d3 : decide (100 < n) = true := by simp; omega
    go_enter Try.func7, Try.ntmps7
    go_wp2_with fail
    go_loop [5] (fun iv => iv = .int .i64 ((0 : Nat) : Int)) (fun _ => 0)
    case atStart => exact rfl
    case round =>
      obtain rfl := hrel
      go_wp2_with fail
      go_ret
      exact ⟨true, rfl, rfl, fun h => by cases h⟩
def nact0 : NAct := ⟨0, 0, 0, 0, none, 0, 0, []⟩
def sentV : List NAct → List Value
  | [] => []
  | x :: l => .slice x.ba x.bn x.bc :: sentV l
theorem sentV_len : ∀ l : List NAct, (sentV l).length = l.length
  | [] => rfl
  | x :: l => by simp [sentV, sentV_len l]
theorem sentV_app : ∀ k l : List NAct, sentV (k ++ l) = sentV k ++ sentV l
  | [], l => rfl
  | x :: k, l => by simp [sentV, sentV_app k l]
theorem sentV_at : ∀ (l : List NAct) (i : Nat), i < l.length → (sentV l)[i]? = some (.slice (l.getD i nact0).ba (l.getD i nact0).bn (l.getD i nact0).bc)
  | [], i, h => by simp at h
  | x :: l, 0, _ => by simp [sentV]
  | x :: l, i + 1, h => by
    have ih := sentV_at l i (by simpa using h)
    simpa [sentV] using ih
/-- x is what was sent with its ID, or parts from it in one byte -/
def KeepIn (U : List NAct) (x : GM) : Prop := ∃ k : Nat, k < U.length ∧ x.id = k ∧ x.frm = 0 ∧ x.dst = 1 ∧ x.fn = x.bs.length ∧ x.fn ≤ 100 ∧ ((x.sp = false ∧ x.bs = (U.getD k nact0).bs) ∨ (x.sp = true ∧ 0 < (U.getD k nact0).bs.length ∧ ∃ at_ xx, x.bs = Dm.turned (U.getD k nact0).bs at_ xx))
theorem KeepIn.app {U : List NAct} {x : GM} (h : KeepIn U x) (y : NAct) : KeepIn (U ++ [y]) x := by
  obtain ⟨k, h1, h2, h3, h4, h5, h6, h7⟩ := h
  have e : (U ++ [y]).getD k nact0 = U.getD k nact0 := by rw [List.getD_eq_getElem?_getD, List.getElem?_append_left h1, ← List.getD_eq_getElem?_getD]
  exact ⟨k, by simp; omega, h2, h3, h4, h5, h6, by rw [e]; exact h7⟩
structure K3 (w0 w : World) (b : Nat) (av : Option Addr) (cv : Nat) (T U : List NAct) (nx : Int) (G : List GM) (S : Nat → Prop) : Prop where
  q : NAt w b 20 nx G S
  len : G.length ≤ 20
  k : ∀ x ∈ G, KeepIn U x
  o : w.ownsRow w0.heap.size 33 1 (.slice av T.length cv) T.length (sentV T)
  ng : ∀ g, av = some ⟨g, 0, none⟩ → ¬ S g
  lo : ∀ k, S k → w0.heap.size ≤ k
  bel : Below w0.heap.size w0 w
  fr : ∀ x ∈ T, HoldsB w0 x.ba x.bn x.bs ∧ x.bn ≤ 100
theorem K3.turn {w0 w w' : World} {b : Nat} {av : Option Addr} {cv : Nat} {T U U' : List NAct} {nx nx' : Int} {G G' : List GM} {S S' : Nat → Prop} (h : K3 w0 w b av cv T U nx G S) (q : NAt w' b 20 nx' G' S') (len : G'.length ≤ 20) (k : ∀ x ∈ G', KeepIn U' x) (hs : ∀ k, S' k → S k ∨ w.heap.size ≤ k) (t : Turn S w w') : K3 w0 w' b av cv T U' nx' G' S' :=
  ⟨q, len, k, owns_block0 h.o (fun g hg => t.block g (h.o.lt g (by rw [hg]; rfl)).2 (h.ng g hg)), fun g hg hk => (hs g hk).elim (h.ng g hg) (fun x => by have := (h.o.lt g (by rw [hg]; rfl)).2; omega),
    fun j hj => (hs j hj).elim (h.lo j) (fun x => Nat.le_trans h.bel.size x), h.bel.trans (t.below h.lo h.bel.size), h.fr⟩
theorem K3.more {w0 w w' : World} {b : Nat} {av : Option Addr} {cv : Nat} {T U : List NAct} {nx : Int} {G : List GM} {S : Nat → Prop} (h : K3 w0 w b av cv T U nx G S) (hb : Below w.heap.size w w') : K3 w0 w' b av cv T U nx G S :=
  ⟨h.q.below hb, h.len, h.k, owns_below h.o hb, h.ng, h.lo, h.bel.trans (hb.mono h.bel.size), h.fr⟩
theorem K3.grow {w0 w w1 : World} {b g cap H : Nat} {av : Option Addr} {cv : Nat} {T U : List NAct} {nx : Int} {G : List GM} {S : Nat → Prop} {o : Obj} {x : NAct} (h : K3 w0 w b av cv T U nx G S)
    (own : w1.ownsRow w0.heap.size 33 1 (.slice (some ⟨g, 0, none⟩) (T.length + 1) cap) (T.length + 1) (sentV T ++ [.slice x.ba x.bn x.bc])) (hg : (w.alloc o).grownBy w1 (Value.slice av T.length cv).ownBlock)
    (hat : (Value.slice av T.length cv).ownBlock = some g ∨ g = H) (hH : w.heap.size ≤ H) (hx : HoldsB w0 x.ba x.bn x.bs ∧ x.bn ≤ 100) : K3 w0 w1 b (some ⟨g, 0, none⟩) cap (T ++ [x]) U nx G S := by
  have ho : ∀ k, (Value.slice av T.length cv).ownBlock = some k → ¬ S k ∧ w0.heap.size ≤ k := fun k hk => ⟨h.ng k (ownb h.o hk.symm), (h.o.lt k hk).1⟩
  have hgn : ¬ S g := by
    rcases hat with x | x
    · exact (ho g x).1
    · subst x; exact fun hk => by have := h.q.lt _ hk; omega
  have hb : Below w.heap.size w (w.alloc o) := below_one _ _
  have tt : Turn (fun k => (Value.slice av T.length cv).ownBlock = some k) (w.alloc o) w1 := ⟨hg.os, hg.tape, hg.output, hg.size, fun k hk hn => hg.block k hk (fun e => hn e.symm)⟩
  have hl : (T ++ [x]).length = T.length + 1 := by simp
  refine ⟨(h.q.below hb).turn tt (fun k hk e => (ho k e).1 hk), h.len, h.k, by rw [hl, sentV_app]; exact own, fun g' hg' => ?_, h.lo, (h.bel.trans (hb.mono h.bel.size)).trans (tt.below (fun k hk => (ho k hk).2) (by have := h.bel.size; simp; omega)), fun y hy => ?_⟩
  · injection hg' with e; injection e with e; subst e; exact hgn
  · rcases List.mem_append.1 hy with hy | hy
    · exact h.fr y hy
    · simp at hy; subst hy; exact hx
/-- where two lists part -/
def parts (xs ys : List Nat) (pos : Nat) : Prop := xs.length = ys.length ∧ ∀ i, i < xs.length → (xs.getD i 0 ≠ ys.getD i 0 ↔ i = pos)
theorem parts_same (xs : List Nat) : parts xs xs xs.length := ⟨rfl, fun i hi => ⟨fun h => absurd rfl h, fun h => by omega⟩⟩
theorem xor_ne {y m : Nat} (hm : 1 ≤ m) : y ^^^ m ≠ y := fun h => by
  have h2 : (y ^^^ m) ^^^ y = y ^^^ y := by rw [h]
  rw [Nat.xor_self, Nat.xor_comm y m, Nat.xor_assoc, Nat.xor_self, Nat.xor_zero] at h2
  omega
theorem parts_turned (ys : List Nat) (at_ xx : Int) (h0 : 0 < ys.length) : parts (Dm.turned ys at_ xx) ys (Dm.k ys.length at_) ∧ Dm.k ys.length at_ < ys.length := by
  have hk := Dm.k_lt ys.length at_ h0
  refine ⟨⟨Dm.turned_len _ _ _, fun i hi => ?_⟩, hk⟩
  unfold Dm.turned
  rw [List.getD_eq_getElem?_getD, List.getElem?_set]
  rw [Dm.turned_len] at hi
  by_cases e : Dm.k ys.length at_ = i
  · subst e
    rw [if_pos rfl, if_pos hk]
    exact ⟨fun _ => rfl, fun _ => xor_ne (Dm.m_bd xx).1⟩
  · rw [if_neg e, ← List.getD_eq_getElem?_getD]
    exact ⟨fun h => absurd rfl h, fun h => absurd h.symm e⟩
end Go.Proofs.Ytecdigcadmokfaa
