/- texts joined -/
import Derived.Test.YtodoflmgnljahaaPkA
import Derived.Test.YtodoflmgnljahaaChecked
import Derived.WalkLawsBesides
/- timers: awake; what none says -/
namespace Go.Proofs.Ytodoflmgnljahaa
open Go.RowKit
set_option linter.unusedVariables false
set_option maxRecDepth 20000
structure CtxT (w0 w : World) (b : Nat) (most : Int) (M : List TM) (S : Nat → Prop) : Prop where
  Q : TQ b most M w S
  s : ∀ k, S k → w0.heap.size ≤ k
  b_ : Below w0.heap.size w0 w
theorem CtxT.more {w0 w w' : World} {b : Nat} {most : Int} {M : List TM} {S : Nat → Prop} (c : CtxT w0 w b most M S) (hb : Below w.heap.size w w') : CtxT w0 w' b most M S :=
  ⟨(tq_ok b most M).below c.Q hb, c.s, c.b_.trans (hb.mono c.b_.size)⟩
theorem CtxT.step {w0 w w' : World} {b : Nat} {most : Int} {M M' : List TM} {S : Nat → Prop} (c : CtxT w0 w b most M S) (h : PO (TQ b most M') w S w') : ∃ S', CtxT w0 w' b most M' S' := by
  obtain ⟨S', q, s, t⟩ := h
  have hz := c.b_.size
  exact ⟨S', q, fun k hk => by
    rcases s k hk with x | x
    · exact c.s k x
    · omega, c.b_.trans (t.below c.s hz)⟩
theorem new_c {w0 : World} (most : Int) (w : World) (hw : Below w0.heap.size w0 w) (h : 1 ≤ most ∧ most ≤ 24) :
    Calls Try.prog 9 #[.int .i64 most] w fun e w' => ∃ b S, e = .returned (.tuple #[.pointer (some ⟨b, 0, none⟩), .int .i64 0]) ∧ CtxT w0 w' b most [] S ∧ Below w.heap.size w w' :=
  (tNew_any most w h).mono fun e w' ⟨b, S, h1, h2, h3, h4⟩ => ⟨b, S, h1, ⟨h2, fun k hk => Nat.le_trans hw.size (h3 k hk), hw.trans (h4.mono hw.size)⟩, h4⟩
theorem set_c (id a v : Int) (M' : List TM) {w0 : World} {b : Nat} {most : Int} {M : List TM} {S : Nat → Prop} (w : World) (c : CtxT w0 w b most M S) (hm : most ≤ 24) (hv : setV most M id a = v) (hM : setM most M id a = M') :
    Calls Try.prog 14 #[.pointer (some ⟨b, 0, none⟩), .int .i64 id, .int .i64 a] w fun e w' => e = .returned (.int .i64 v) ∧ ∃ S', CtxT w0 w' b most M' S' := by
  subst hv hM
  exact (tSet_any b most M id a S w c.Q hm).mono fun e w' ⟨h1, h2⟩ => ⟨h1, c.step h2⟩
theorem cancel_c (id : Int) (v : Bool) (M' : List TM) {w0 : World} {b : Nat} {most : Int} {M : List TM} {S : Nat → Prop} (w : World) (c : CtxT w0 w b most M S) (hv : decide (id ∈ M.map TM.id) = v) (hM : cutM M id = M') :
    Calls Try.prog 12 #[.pointer (some ⟨b, 0, none⟩), .int .i64 id] w fun e w' => e = .returned (.bool v) ∧ ∃ S', CtxT w0 w' b most M' S' := by
  subst hv hM
  exact (tCancel_any b most M id S w c.Q).mono fun e w' ⟨h1, h2⟩ => ⟨h1, c.step h2⟩
theorem holdsJ_own {w : World} {B n : Nat} {a : Option Addr} {c : Nat} {zs : List Int} (hn : zs.length = n) (h : w.ownsRow B 3 1 (.slice a n c) n (intsT zs)) : HoldsI .i64 w a n zs := by
  refine ⟨hn, fun h0 => ?_⟩
  obtain ⟨q, cap', hv⟩ := Joins.ownsRow_form h h0
  simp only [Value.slice.injEq] at hv
  obtain ⟨hv, -, -⟩ := hv
  subst hv
  refine ⟨q, 0, rfl, fun i hi => ?_⟩
  rw [Nat.zero_add]
  refine (h.cellAt i (by omega)).trans ?_
  simp [intsT, List.getD_eq_getElem?_getD, List.getElem?_eq_getElem (show i < zs.length by omega)]
def DueP (w : World) (zs : List Int) (e : Ending) (w' : World) : Prop := ∃ a c, e = .returned (.slice a zs.length c) ∧ HoldsI .i64 w' a zs.length zs ∧ Below w.heap.size w w'
theorem due_c (now : Int) (zs : List Int) {w0 : World} {b : Nat} {most : Int} {M : List TM} {S : Nat → Prop} (w : World) (c : CtxT w0 w b most M S) (hz : dueM M now = zs) :
    Calls Try.prog 18 #[.pointer (some ⟨b, 0, none⟩), .int .i64 now] w (DueP w zs) := by
  subst hz
  exact (tDue_any b most M now S w c.Q).mono fun e w' ⟨a, cc, h1, h2, h3⟩ => ⟨a, cc, h1, holdsJ_own rfl h2, h3⟩
theorem lenT_c (n : Int) {w0 : World} {b : Nat} {most : Int} {M : List TM} {S : Nat → Prop} (w : World) (c : CtxT w0 w b most M S) (hn : (M.length : Int) = n) :
    Calls Try.prog 21 #[.pointer (some ⟨b, 0, none⟩)] w fun e w' => e = .returned (.int .i64 n) ∧ w = w' := by
  subst hn; exact tLenT_any b most M S w c.Q
theorem sameJ_yes (a1 a2 : Option Addr) (n c1 c2 : Nat) (z : List Int) (w : World) (h1 : HoldsI .i64 w a1 n z) (h2 : HoldsI .i64 w a2 n z) (hl : n ≤ 1000) :
    Calls Try.prog 19 #[.slice a1 n c1, .slice a2 n c2] w fun e w' => e = .returned (.bool true) ∧ Below w.heap.size w w' := by
  refine (sameInts_any a1 a2 n c1 n c2 z z w h1 h2 (by omega) (by omega)).mono ?_
  rintro e w' ⟨h, m, rfl⟩
  exact ⟨by rw [h, decide_eq_true rfl], below_drewN _ _⟩
theorem holdsJ_lit1 (w : World) (x : Int) (e : TypeId) (fr : Nat × Nat) : HoldsI .i64 (w.alloc (.cells #[.int .i64 x] e fr)) (some ⟨w.heap.size, 0, none⟩) 1 [x] :=
  ⟨rfl, fun _ => ⟨_, 0, rfl, fun i hi => by
    obtain rfl : i = 0 := by omega
    rw [World.cell?_alloc_mark]; rfl⟩⟩
theorem holdsJ_lit2 (w : World) (x y : Int) (e : TypeId) (fr : Nat × Nat) : HoldsI .i64 (w.alloc (.cells #[.int .i64 x, .int .i64 y] e fr)) (some ⟨w.heap.size, 0, none⟩) 2 [x, y] :=
  ⟨rfl, fun _ => ⟨_, 0, rfl, fun i hi => by
    match i, hi with
    | 0, _ => rw [World.cell?_alloc_mark]; rfl
    | 1, _ => rw [World.cell?_alloc_mark]; rfl⟩⟩
set_option maxHeartbeats 1600000 in
theorem awakeT_any (w : World) : Calls Try.prog 8 #[] w fun e w' => e = .returned (.bool true) ∧ Below w.heap.size w w' := by
  go_enter Try.func8, Try.ntmps8
  go_wp2_with fail
  refine (new_c (w0 := w) 3 w (Below.refl _ _) (by decide)).mono ?_
  rintro e w1 ⟨b, S, rfl, C, -⟩
  have C1 := Lib.hid C
  clear C
  go_wp2_with fail
  refine (set_c 3 9 0 [⟨3, 9⟩] w1 C1.out (by decide) (by decide) (by decide)).mono ?_
  rintro e w2 ⟨rfl, S2, C⟩
  have C2 := Lib.hid C
  clear C C1
  go_wp2_with fail
  refine (set_c 1 5 0 [⟨3, 9⟩, ⟨1, 5⟩] w2 C2.out (by decide) (by decide) (by decide)).mono ?_
  rintro e w3 ⟨rfl, S3, C⟩
  have C3 := Lib.hid C
  clear C C2
  go_wp2_with fail
  refine (due_c 5 [1] w3 C3.out (by decide)).mono ?_
  rintro e w4 ⟨da, dc, rfl, hh, hb⟩
  have H4 := Lib.hid (hh.alloc (.cells #[.int .i64 1] 3))
  have L4 := Lib.hid (holdsJ_lit1 w4 1 3 (0, 0))
  have C4 := Lib.hid ((C3.out.more hb).more (below_one w4 (.cells #[.int .i64 1] 3)))
  clear hh hb C3
  go_wp2_with fail
  refine (sameJ_yes da _ 1 dc 1 [1] _ H4.out L4.out (by decide)).mono ?_
  rintro e w5 ⟨rfl, hb⟩
  have C5 := Lib.hid (C4.out.more hb)
  clear hb C4 H4 L4
  go_wp2_with fail
  refine (due_c 9 [1, 3] w5 C5.out (by decide)).mono ?_
  rintro e w6 ⟨da2, dc2, rfl, hh, hb⟩
  have H6 := Lib.hid (hh.alloc (.cells #[.int .i64 1, .int .i64 3] 3))
  have L6 := Lib.hid (holdsJ_lit2 w6 1 3 3 (0, 0))
  have C6 := Lib.hid ((C5.out.more hb).more (below_one w6 (.cells #[.int .i64 1, .int .i64 3] 3)))
  clear hh hb C5
  go_wp2_with fail
  refine (sameJ_yes da2 _ 2 dc2 2 [1, 3] _ H6.out L6.out (by decide)).mono ?_
  rintro e w7 ⟨rfl, hb⟩
  have C7 := Lib.hid (C6.out.more hb)
  clear hb C6 H6 L6
  go_wp2_with fail
  refine (lenT_c 2 w7 C7.out rfl).mono ?_
  rintro e w8 ⟨rfl, rfl⟩
  go_wp2_with fail
  go_ret
  exact ⟨rfl, C7.out.b_⟩
set_option maxHeartbeats 1600000 in
theorem timerNone_any (c : Bool) (id a : Int) (w : World) :
    Calls Try.prog 5 #[.agg #[.bool c, .int .i64 id, .int .i64 a]] w fun e w' => e = .returned (.bool true) ∧ Below w.heap.size w w' := by
  have B0 := Lib.hid (below_one w (.cells #[.bool c, .int .i64 id, .int .i64 a] 33))
  have X := Lib.hid (fun w' (hb : Below (w.alloc (.cells #[.bool c, .int .i64 id, .int .i64 a] 33)).heap.size (w.alloc (.cells #[.bool c, .int .i64 id, .int .i64 a] 33)) w') => show w'.cell? ⟨w.heap.size, 1, none⟩ = some (.int .i64 id) ∧ w'.cell? ⟨w.heap.size, 2, none⟩ = some (.int .i64 a) from
    ⟨(hb.cell (p := ⟨w.heap.size, 1, none⟩) (by simp)).trans (by rw [cell_alloc rfl]; rfl), (hb.cell (p := ⟨w.heap.size, 2, none⟩) (by simp)).trans (by rw [cell_alloc rfl]; rfl)⟩)
  obtain ⟨x1, x2⟩ := X.out _ (Below.refl _ _)
  go_enter Try.func5, Try.ntmps5
  go_wp2_with fail
  refine (tAt_nil id _).mono ?_
  rintro e w1 ⟨rfl, hb⟩
  have B1 := Lib.hid hb
  obtain ⟨y1, y2⟩ := X.out _ hb
  clear hb x1 x2
  go_wp2_with fail
  refine (tSet_nil id a _).mono ?_
  rintro e w2 ⟨rfl, rfl⟩
  go_wp2_with fail
  refine (tCancel_nil id _).mono ?_
  rintro e w2 ⟨rfl, hb⟩
  have B2 := Lib.hid (B1.out.trans (hb.mono B1.out.size))
  obtain ⟨z1, z2⟩ := X.out _ B2.out
  clear hb y1 y2
  go_wp2_with fail
  refine (tDue_nil a _).mono ?_
  rintro e w3 ⟨rfl, rfl⟩
  go_wp2_with fail
  refine (tLenT_nil _).mono ?_
  rintro e w3 ⟨rfl, rfl⟩
  go_wp2_with fail
  refine (awakeT_any _).mono ?_
  rintro e w' ⟨rfl, hb⟩
  have B3 := Lib.hid (B0.out.trans ((B2.out.trans (hb.mono B2.out.size)).mono B0.out.size))
  clear hb
  go_wp2_with fail
  go_ret
  exact ⟨rfl, B3.out⟩
theorem cellsT_bool : Try.prog.cellsOf 4 = 1 := by kernel_rfl
theorem cellsT_int : Try.prog.cellsOf 3 = 1 := by kernel_rfl
open Go.ChangeShapes Go.WideShapes Go.ChangeAt in
theorem act_arg {H : Type} {enc : TypeId × Value → H} {w : World} {base : Nat} {spare : Nat → Bool} {held : Bool} {r : Reach} {b0 : Nat} {v : Value} {d : DataW H} {p : List MemPlace}
    (hv : Value.okWide Try.prog w r b0 33 v) (h : DataW.Trod enc Try.prog w base spare held 33 v d p) :
    ∃ c k n, (Lit.int .i64 k).wf = true ∧ (Lit.int .i64 n).wf = true ∧ v = .agg #[.bool c, .int .i64 k, .int .i64 n] := by
  obtain ⟨cs, rfl, hsz⟩ := okWide_struct Try.underlying33 hv
  obtain ⟨fuel, hf⟩ := h
  obtain ⟨hl, n, hf2⟩ := struct_cells Try.underlying33 hf
  rw [show Try.prog.cellsOf 33 = 3 by kernel_rfl] at hl
  obtain ⟨c0, c1, c2, hcs⟩ := list3 hl
  rw [hcs] at hf2
  obtain ⟨y0, z0⟩ := hf2 0 _ rfl
  obtain ⟨y1, z1⟩ := hf2 1 _ rfl
  obtain ⟨y2, z2⟩ := hf2 2 _ rfl
  obtain ⟨s, hs, _⟩ := DataW.trod_bool Try.underlying4 z0
  obtain ⟨k1, h1, _, b1⟩ := DataW.trod_int Try.underlying3 z1
  obtain ⟨k2, h2, _, b2⟩ := DataW.trod_int Try.underlying3 z2
  simp [cellsT_int, cellsT_bool] at hs h1 h2
  subst hs h1 h2
  refine ⟨s, k1, k2, b1, b2, ?_⟩
  congr 1
  apply Array.toList_inj.1
  simpa [Value.cells] using hcs
open Go.ChangeShapes Go.WideShapes Go.ChangeAt in
theorem timerNone_walk {H : Type} {enc : TypeId × Value → H} (W : World) (base : Nat) (v0 : Value) (d0 : DataW H) (p0 : List MemPlace)
    (h0 : DataW.Trod enc Try.prog W 0 (fun _ => true) true 33 v0 d0 p0)
    (o0 : Value.okWide Try.prog W .any base 33 v0) :
    Calls Try.prog 5 #[v0] W fun e w' => e = .returned (.bool true) ∧ RowKit.Below W.heap.size W w' := by
  obtain ⟨c, k, n, h1, h2, rfl⟩ := act_arg o0 h0
  exact timerNone_any c k n W
end Go.Proofs.Ytodoflmgnljahaa
/- a number, from 0 to below n -/
namespace Go.Proofs.Ytodoflmgnljahaa
open Go.RowKit
set_option linter.unusedVariables false
set_option maxRecDepth 20000
def lowV (x n : Int) : Int := IntKind.u64.wrap x % n
theorem low_bd (x n : Int) (h : 0 < n) : 0 ≤ lowV x n ∧ lowV x n < n := ⟨Int.emod_nonneg _ (by omega), Int.emod_lt_of_pos _ h⟩
theorem u64_in (n : Int) (h : 0 ≤ n) (h2 : n < 18446744073709551616) : IntKind.u64.wrap n = n := by
  simp only [IntKind.wrap, IntKind.signed, IntKind.bits]; simp; omega
theorem u64_bdL (d : Int) : 0 ≤ IntKind.u64.wrap d ∧ IntKind.u64.wrap d < 18446744073709551616 := by
  simp only [IntKind.wrap, IntKind.signed, IntKind.bits]; simp; omega
theorem low_any (x n : Int) (h : 1 ≤ n) (h2 : n < 4611686018427387904) (w : World) :
    Calls Try.prog 23 #[.int .i64 x, .int .i64 n] w fun e w' => e = .returned (.int .i64 (lowV x n)) ∧ w = w' := by
  have hb := low_bd x n (by omega)
  have hw := u64_in n (by omega) (by omega)
  have hx := u64_bdL x
  go_enter Try.func23, Try.ntmps23
  go_wp2
  go_ret
  exact ⟨ret_int (by unfold lowV at *; rw [IntWalk.wrap64_in _ ⟨by omega, by omega⟩]), rfl⟩
end Go.Proofs.Ytodoflmgnljahaa
/- timers: those that are due -/
namespace Go.Proofs.Ytodoflmgnljahaa
open Go.RowKit
set_option linter.unusedVariables false
set_option maxRecDepth 20000
/-- timers by numbers from k on -/
def numT : Nat → List Int → List TM
  | _, [] => []
  | k, a :: l => ⟨(k : Int), a⟩ :: numT (k + 1) l
theorem numT_len : ∀ (l : List Int) (k : Nat), (numT k l).length = l.length
  | [], _ => rfl
  | a :: l, k => by simp [numT, numT_len l]
theorem numT_snoc : ∀ (l : List Int) (k : Nat) (a : Int), numT k (l ++ [a]) = numT k l ++ [⟨((k + l.length : Nat) : Int), a⟩]
  | [], k, a => by simp [numT]
  | b :: l, k, a => by
    have ih := numT_snoc l (k + 1) a
    simp only [List.cons_append, numT, ih, List.length_cons]
    rw [show k + 1 + l.length = k + (l.length + 1) by omega]
theorem numT_ids : ∀ (l : List Int) (k : Nat) (x : TM), x ∈ numT k l → (k : Int) ≤ x.id ∧ x.id < ((k + l.length : Nat) : Int)
  | [], k, x, h => by simp [numT] at h
  | a :: l, k, x, h => by
    rcases List.mem_cons.1 h with rfl | h
    · simp; omega
    · have := numT_ids l (k + 1) x h
      simp only [List.length_cons]; omega
theorem numT_new (l : List Int) : ((l.length : Nat) : Int) ∉ (numT 0 l).map TM.id := fun h => by
  obtain ⟨x, hx, e⟩ := List.mem_map.1 h
  have := numT_ids l 0 x hx
  omega
theorem numT_nodup : ∀ (l : List Int) (k : Nat), ((numT k l).map TM.id).Nodup
  | [], _ => List.nodup_nil
  | a :: l, k => by
    simp only [numT, List.map_cons]
    refine List.nodup_cons.2 ⟨fun h => ?_, numT_nodup l (k + 1)⟩
    obtain ⟨x, hx, e⟩ := List.mem_map.1 h
    have := numT_ids l (k + 1) x hx
    omega
theorem numT_due : ∀ (l : List Int) (k : Nat) (now : Int), ((numT k l).filter (fun x => decide (x.at_ ≤ now))).length = l.countP (fun a => decide (a ≤ now))
  | [], _, _ => rfl
  | a :: l, k, now => by
    have ih := numT_due l (k + 1) now
    simp only [numT, List.filter_cons, List.countP_cons]
    by_cases h : a ≤ now
    · simp [h, ih]
    · simp [h, ih]
theorem upd_not {M : List TM} {id a : Int} (h : id ∉ M.map TM.id) : updT M id a = M := by
  unfold updT
  refine (List.map_congr_left fun x hx => ?_).trans (List.map_id M)
  rw [if_neg (fun e => h (by rw [← e]; exact List.mem_map_of_mem hx))]; rfl
theorem set_new {l : List Int} {x : Int} (hl : l.length < 24) (hx : 0 ≤ x ∧ x ≤ 1000) : setV 24 (numT 0 l) (l.length : Int) x = 0 ∧ setM 24 (numT 0 l) (l.length : Int) x = numT 0 l ++ [⟨(l.length : Int), x⟩] := by
  have hg : goodT (l.length : Int) x := ⟨by omega, hx.1, by omega⟩
  have hng : ¬ ¬ goodT (l.length : Int) x := fun h => h hg
  refine ⟨?_, ?_⟩
  · unfold setV
    rw [if_neg hng, if_neg (numT_new l), numT_len, if_neg (by omega)]
  · unfold setM
    rw [if_neg hng, if_neg (numT_new l), numT_len, if_neg (by omega)]
theorem set_more {l : List Int} {x a : Int} (hx : 0 ≤ a ∧ a ≤ 1000) : setV 24 (numT 0 l ++ [⟨(l.length : Int), x⟩]) (l.length : Int) a = 0 ∧ setM 24 (numT 0 l ++ [⟨(l.length : Int), x⟩]) (l.length : Int) a = numT 0 (l ++ [a]) := by
  have hg : goodT (l.length : Int) a := ⟨by omega, hx.1, by omega⟩
  have hm : (l.length : Int) ∈ (numT 0 l ++ [(⟨(l.length : Int), x⟩ : TM)]).map TM.id := by simp
  have hng : ¬ ¬ goodT (l.length : Int) a := fun h => h hg
  refine ⟨by unfold setV; rw [if_neg hng, if_pos hm], ?_⟩
  unfold setM
  rw [if_neg hng, if_pos hm, numT_snoc]
  have h1 : updT (numT 0 l ++ [⟨(l.length : Int), x⟩]) (l.length : Int) a = updT (numT 0 l) (l.length : Int) a ++ [⟨(l.length : Int), a⟩] := by simp [updT]
  rw [h1, upd_not (numT_new l), Nat.zero_add]
/-- those that are due, in order -/
def dueX (M : List TM) (now : Int) : List TM := sortT (M.filter (fun x => decide (x.at_ ≤ now)))
theorem due_more (M : List TM) (now m : Int) (h : now ≤ m) : ∃ R, dueX M m = dueX M now ++ R := by
  refine ⟨sortT (M.filter (fun x => decide (now < x.at_ ∧ x.at_ ≤ m))), ?_⟩
  unfold dueX
  rw [← sort_app]
  · refine sort_same ?_
    have h1 : ((M.filter (fun x => decide (x.at_ ≤ m))).filter (fun x => decide (x.at_ ≤ now)) ++ (M.filter (fun x => decide (x.at_ ≤ m))).filter (fun x => !decide (x.at_ ≤ now))).Perm (M.filter (fun x => decide (x.at_ ≤ m))) := List.filter_append_perm _ _
    refine h1.symm.trans ?_
    rw [List.filter_filter, List.filter_filter]
    have e1 : M.filter (fun x => decide (x.at_ ≤ now) && decide (x.at_ ≤ m)) = M.filter (fun x => decide (x.at_ ≤ now)) := List.filter_congr fun x _ => by
      by_cases h2 : x.at_ ≤ now
      · simp [h2]; omega
      · simp [h2]
    have e2 : M.filter (fun x => !decide (x.at_ ≤ now) && decide (x.at_ ≤ m)) = M.filter (fun x => decide (now < x.at_ ∧ x.at_ ≤ m)) := List.filter_congr fun x _ => by
      by_cases h2 : x.at_ ≤ now
      · simp [h2]; omega
      · simp [h2]; omega
    rw [e1, e2]
  · intro x hx y hy
    have h1 := (List.mem_filter.1 hx).2
    have h2 := (List.mem_filter.1 hy).2
    simp only [decide_eq_true_eq] at h1 h2
    rw [leT_def]; omega
theorem due_at {M : List TM} {now : Int} {i : Nat} (hi : i < (dueX M now).length) : gT (dueX M now) i ∈ M ∧ (gT (dueX M now) i).at_ ≤ now := by
  have h1 : gT (dueX M now) i ∈ dueX M now := by simp [gT, List.getD_eq_getElem?_getD, hi]
  have h2 := (sort_perm _).mem_iff.1 h1
  have h3 := List.mem_filter.1 h2
  exact ⟨h3.1, by simpa using h3.2⟩
theorem due_ids (M : List TM) (now : Int) (hn : (M.map TM.id).Nodup) : ((dueX M now).map TM.id).Nodup := by
  have h1 : ((dueX M now).map TM.id).Perm ((M.filter (fun x => decide (x.at_ ≤ now))).map TM.id) := (sort_perm _).map _
  exact h1.nodup_iff.2 (hn.sublist ((List.filter_sublist).map _))
theorem due_next {M : List TM} {now : Int} {i : Nat} (hn : (M.map TM.id).Nodup) (hi : i + 1 < (dueX M now).length) : (gT (dueX M now) i).at_ < (gT (dueX M now) (i + 1)).at_ ∨ ((gT (dueX M now) i).at_ = (gT (dueX M now) (i + 1)).at_ ∧ (gT (dueX M now) i).id < (gT (dueX M now) (i + 1)).id) := by
  have h1 := (List.pairwise_iff_getElem.1 (sort_sorted (M.filter (fun x => decide (x.at_ ≤ now))))) i (i + 1) (by unfold dueX at hi; omega) hi (by omega)
  have h2 := (List.pairwise_iff_getElem.1 (due_ids M now hn)) i (i + 1) (by simp; omega) (by simpa using hi) (by omega)
  have e1 : gT (dueX M now) i = (dueX M now)[i] := by simp [gT, List.getD_eq_getElem?_getD, show i < (dueX M now).length by omega]
  have e2 : gT (dueX M now) (i + 1) = (dueX M now)[i + 1] := by simp [gT, List.getD_eq_getElem?_getD, hi]
  rw [List.getElem_map, List.getElem_map] at h2
  rw [e1, e2]
  have h3 := (leT_def _ _).1 h1
  have h4 : (dueX M now)[i].id ≠ (dueX M now)[i + 1].id := h2
  change (dueX M now)[i].at_ < (dueX M now)[i + 1].at_ ∨ ((dueX M now)[i].at_ = (dueX M now)[i + 1].at_ ∧ (dueX M now)[i].id ≤ (dueX M now)[i + 1].id) at h3
  omega
theorem at_one {M : List TM} {x : TM} {v : Int} {c : Bool} (hn : (M.map TM.id).Nodup) (hx : x ∈ M) (h : AtT M x.id v c) : v = x.at_ ∧ c = true := by
  rcases h with ⟨y, hy, e, h1, h2⟩ | ⟨h1, -⟩
  · have : y = x := by
      obtain ⟨i, hi, rfl⟩ := List.getElem_of_mem hy
      obtain ⟨j, hj, rfl⟩ := List.getElem_of_mem hx
      have hp := List.pairwise_iff_getElem.1 hn
      rcases Nat.lt_trichotomy i j with h3 | h3 | h3
      · have := hp i j (by simpa using hi) (by simpa using hj) h3
        simp only [List.getElem_map] at this; exact absurd e this
      · subst h3; rfl
      · have := hp j i (by simpa using hj) (by simpa using hi) h3
        simp only [List.getElem_map] at this; exact absurd e.symm this
    subst this; exact ⟨h1, h2⟩
  · exact absurd rfl (h1 x hx)
end Go.Proofs.Ytodoflmgnljahaa
