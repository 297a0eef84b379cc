/- texts joined -/
import Derived.Test.YtodoflmgnljahaaPkC
/- timers: in whatever order moments were set -/
namespace Go.Proofs.Ytodoflmgnljahaa
open Go.RowKit
set_option linter.unusedVariables false
set_option maxRecDepth 20000
theorem numT_app : ∀ (l m : List Int) (k : Nat), numT k (l ++ m) = numT k l ++ numT (k + l.length) m
  | [], m, k => by simp [numT]
  | a :: l, m, k => by
    have ih := numT_app l m (k + 1)
    simp only [List.cons_append, numT, ih, List.length_cons]
    rw [show k + 1 + l.length = k + (l.length + 1) by omega]
theorem upd_app (M N : List TM) (id a : Int) : updT (M ++ N) id a = updT M id a ++ updT N id a := by simp [updT]
theorem upd_numT (l r : List Int) (x a : Int) : updT (numT 0 (l ++ x :: r)) (l.length : Int) a = numT 0 (l ++ a :: r) := by
  rw [numT_app, numT_app, upd_app, upd_not (numT_new l)]
  congr 1
  rw [Nat.zero_add]
  show updT (⟨(l.length : Int), x⟩ :: numT (l.length + 1) r) _ a = _ :: numT (l.length + 1) r
  have h1 : updT (⟨(l.length : Int), x⟩ :: numT (l.length + 1) r) (l.length : Int) a = ⟨(l.length : Int), a⟩ :: updT (numT (l.length + 1) r) (l.length : Int) a := by simp [updT]
  rw [h1, upd_not (fun h => by
    obtain ⟨y, hy, e⟩ := List.mem_map.1 h
    have := numT_ids r (l.length + 1) y hy
    omega)]
/-- from the last one down -/
def backT (n : Nat) : Nat → List TM
  | 0 => []
  | i + 1 => backT n i ++ [⟨((n - 1 - i : Nat) : Int), 7⟩]
theorem backT_perm (n : Nat) : ∀ i, i ≤ n → (backT n i).Perm (numT (n - i) (List.replicate i 7))
  | 0, _ => List.Perm.refl _
  | i + 1, h => by
    have ih := backT_perm n i (by omega)
    have h1 : numT (n - (i + 1)) (List.replicate (i + 1) 7) = ⟨((n - 1 - i : Nat) : Int), 7⟩ :: numT (n - i) (List.replicate i 7) := by
      rw [List.replicate_succ]
      simp only [numT]
      rw [show n - (i + 1) + 1 = n - i by omega, show n - (i + 1) = n - 1 - i by omega]
    rw [h1]
    exact (ih.append_right _).trans (List.perm_append_comm)
theorem backT_set {n i : Nat} (hi : i < n) (hn : n ≤ 24) : setV 24 (backT n i) ((n - 1 - i : Nat) : Int) 7 = 0 ∧ setM 24 (backT n i) ((n - 1 - i : Nat) : Int) 7 = backT n (i + 1) := by
  have hg : goodT ((n - 1 - i : Nat) : Int) 7 := ⟨by omega, by omega, by omega⟩
  have hng : ¬ ¬ goodT ((n - 1 - i : Nat) : Int) 7 := fun h => h hg
  have hp := backT_perm n i (by omega)
  have hnot : ((n - 1 - i : Nat) : Int) ∉ (backT n i).map TM.id := fun h => by
    obtain ⟨y, hy, e⟩ := List.mem_map.1 ((hp.map TM.id).mem_iff.1 h)
    have := numT_ids _ _ y hy
    omega
  have hl : (backT n i).length = i := by rw [hp.length_eq, numT_len, List.length_replicate]
  refine ⟨?_, ?_⟩
  · unfold setV
    rw [if_neg hng, if_neg hnot, hl, if_neg (by omega)]
  · unfold setM
    rw [if_neg hng, if_neg hnot, hl, if_neg (by omega)]
    rfl
theorem upd_set0 {l r : List Int} {x a : Int} (ha : 0 ≤ a ∧ a ≤ 1000) : setV 24 (numT 0 (l ++ x :: r)) (l.length : Int) a = 0 ∧ setM 24 (numT 0 (l ++ x :: r)) (l.length : Int) a = numT 0 (l ++ a :: r) := by
  have hg : goodT (l.length : Int) a := ⟨by omega, ha.1, by omega⟩
  have hng : ¬ ¬ goodT (l.length : Int) a := fun h => h hg
  have hm : (l.length : Int) ∈ (numT 0 (l ++ x :: r)).map TM.id := by
    rw [numT_app]
    simp [numT]
  exact ⟨by unfold setV; rw [if_neg hng, if_pos hm], by unfold setM; rw [if_neg hng, if_pos hm]; exact upd_numT l r x a⟩
abbrev Two (w0 w : World) (b1 b2 : Nat) (M1 M2 : List TM) (S1 S2 : Nat → Prop) : Prop := TwoO (TQ b1 24 M1) (TQ b2 24 M2) w0 w S1 S2
theorem two_more {w0 w w' : World} {b1 b2 : Nat} {M1 M2 : List TM} {S1 S2 : Nat → Prop} (c : Two w0 w b1 b2 M1 M2 S1 S2) (hb : Below w.heap.size w w') : Two w0 w' b1 b2 M1 M2 S1 S2 := c.more (tq_ok _ _ _) (tq_ok _ _ _) hb
theorem setL_c (id a v : Int) (M' : List TM) {w0 : World} {b1 b2 : Nat} {M1 M2 : List TM} {S1 S2 : Nat → Prop} (w : World) (c : Two w0 w b1 b2 M1 M2 S1 S2) (hv : setV 24 M1 id a = v) (hM : setM 24 M1 id a = M') :
    Calls Try.prog 14 #[.pointer (some ⟨b1, 0, none⟩), .int .i64 id, .int .i64 a] w fun e w' => e = .returned (.int .i64 v) ∧ ∃ S', Two w0 w' b1 b2 M' M2 S' S2 := by
  subst hv hM
  exact (tSet_any b1 24 M1 id a S1 w c.q (by decide)).mono fun e w' ⟨h1, h2⟩ => ⟨h1, by obtain ⟨T, c2, -⟩ := c.left (tq_ok _ _ _) (tq_ok _ _ _) h2; exact ⟨T, c2⟩⟩
theorem setR_c (id a v : Int) (M' : List TM) {w0 : World} {b1 b2 : Nat} {M1 M2 : List TM} {S1 S2 : Nat → Prop} (w : World) (c : Two w0 w b1 b2 M1 M2 S1 S2) (hv : setV 24 M2 id a = v) (hM : setM 24 M2 id a = M') :
    Calls Try.prog 14 #[.pointer (some ⟨b2, 0, none⟩), .int .i64 id, .int .i64 a] w fun e w' => e = .returned (.int .i64 v) ∧ ∃ S', Two w0 w' b1 b2 M1 M' S1 S' := by
  subst hv hM
  exact (tSet_any b2 24 M2 id a S2 w c.r (by decide)).mono fun e w' ⟨h1, h2⟩ => ⟨h1, by obtain ⟨T, c2, -⟩ := c.right (tq_ok _ _ _) (tq_ok _ _ _) h2; exact ⟨T, c2⟩⟩
theorem dueO (now : Int) (zs : List Int) {b : Nat} {M : List TM} {S : Nat → Prop} (w : World) (q : TQ b 24 M w S) (hz : dueM M now = zs) :
    Calls Try.prog 18 #[.pointer (some ⟨b, 0, none⟩), .int .i64 now] w (DueP w zs) := by
  subst hz
  exact (tDue_any b 24 M now S w q).mono fun e w' ⟨a, cc, h1, h2, h3⟩ => ⟨a, cc, h1, holdsJ_own rfl h2, h3⟩
theorem lenO (n : Int) {b : Nat} {M : List TM} {S : Nat → Prop} (w : World) (q : TQ b 24 M w S) (hn : (M.length : Int) = n) :
    Calls Try.prog 21 #[.pointer (some ⟨b, 0, none⟩)] w fun e w' => e = .returned (.int .i64 n) ∧ w = w' := by
  subst hn; exact tLenT_any b 24 M S w q
set_option maxHeartbeats 3200000 in
set_option maxRecDepth 100000 in
theorem timerTurned_any (a : Option Addr) (n cap : Nat) (zs : List Int) (now : Int) (w : World) (hh : HoldsI .i64 w a n zs) (hn : n ≤ 9223372036854775807) :
    Calls Try.prog 7 #[.slice a n cap, .int .i64 now] w fun e w' => e = .returned (.bool true) ∧ Below w.heap.size w w' := by
  have AW := Lib.hid (fun w => awakeT_any w)
  by_cases q1 : 24 < n
  · have d1 : decide ((24 : Int) < (n : Int)) = true := decide_eq_true (by omega)
    clear hh
    go_enter Try.func7, Try.ntmps7
    go_wp2_with fail
    refine (AW.out _).mono ?_
    rintro e w' ⟨rfl, hb⟩
    have B1 := Lib.hid hb
    clear hb
    go_wp2_with fail
    go_ret
    exact ⟨rfl, B1.out⟩
  have d1 : decide ((24 : Int) < (n : Int)) = false := decide_eq_false (by omega)
  have n24 : n ≤ 24 := by omega
  have HH := Lib.hid hh
  have HL := Lib.hid hh.len
  obtain ⟨A, hA⟩ : ∃ A, zs.map (fun x => lowV x 50) = A := ⟨_, rfl⟩
  have AL := Lib.hid (show A.length = n from by rw [← hA, List.length_map, HL.out])
  have AB := Lib.hid (show ∀ i, i < n → A.getD i 0 = lowV (zs.getD i 0) 50 from fun i hi => by
    have := HL.out
    rw [← hA]; simp [List.getD_eq_getElem?_getD, List.getElem?_eq_getElem (show i < zs.length by omega)])
  obtain ⟨nw, hnw⟩ : ∃ x, lowV now 60 = x := ⟨_, rfl⟩
  have CL1 := Lib.hid (fun w => low_any now 60 (by omega) (by omega) w)
  rw [hnw] at CL1
  clear hh hA hnw q1
  go_enter Try.func7, Try.ntmps7
  go_wp2_with fail
  refine (tNew_any 24 w (by decide)).mono ?_
  rintro e w1 ⟨b1, S1, rfl, hq1, hs1, hb1⟩
  have Q1 := Lib.hid hq1; have X1 := Lib.hid hs1; have B1 := Lib.hid hb1
  clear hq1 hs1 hb1
  go_wp2_with fail
  refine (tNew_any 24 w1 (by decide)).mono ?_
  rintro e w2 ⟨b2, S2, rfl, hq2, hs2, hb2⟩
  have C2 := Lib.hid (show Two w w2 b1 b2 [] [] S1 S2 from ⟨(tq_ok _ _ _).below Q1.out hb2, hq2, fun k h1 h2 => by have := (tq_ok _ _ _).lt Q1.out k h1; have := hs2 k h2; omega, X1.out, fun k hk => by have := hs2 k hk; have := B1.out.size; omega, B1.out.trans (hb2.mono B1.out.size)⟩)
  clear hq2 hs2 hb2 Q1 X1 B1
  go_wp2_with fail
  go_loopw [9] (fun iv wr => ∃ (j : Nat) (T1 T2 : Nat → Prop), j ≤ n ∧ iv = .int .i64 j ∧ Hid (Two w wr b1 b2 (numT 0 (A.take j)) (backT n j) T1 T2)) (fun iv _ => n - (intOf iv).toNat)
  case atStart => exact ⟨0, S1, S2, by omega, rfl, Lib.hid (by simpa [numT, backT] using C2.out)⟩
  case round =>
    clear C2
    obtain ⟨j, T1, T2, hj, rfl, hC⟩ := hrel
    by_cases hlt : j < n
    · obtain ⟨ab, ao, rfl, hcc⟩ := (HH.out.below hC.out.b).at (by omega)
      have x0 := hcc j hlt
      obtain ⟨z, hz⟩ : ∃ z, zs.getD j 0 = z := ⟨_, rfl⟩
      rw [hz] at x0
      obtain ⟨y, hy⟩ : ∃ y, lowV z 50 = y := ⟨_, rfl⟩
      have yb := low_bd z 50 (by omega)
      rw [hy] at yb
      obtain ⟨yb1, yb2⟩ := yb
      have CZ := Lib.hid (fun w => low_any z 50 (by omega) (by omega) w)
      rw [hy] at CZ
      have TK := Lib.hid (show A.take (j + 1) = A.take j ++ [y] from by rw [take_int A j (by rw [AL.out]; exact hlt), AB.out j hlt, hz, hy])
      have TL := Lib.hid (show (A.take j).length = j from by rw [List.length_take, AL.out]; omega)
      have n1 : (0 : Int) ≤ (j : Int) := by omega
      have n2 : (j : Int) < (n : Int) := by omega
      have SN := set_new (l := A.take j) (x := y) (by rw [TL.out]; omega) ⟨yb1, by omega⟩
      have e3 : numT 0 (A.take j) ++ [⟨(j : Int), y⟩] = numT 0 (A.take (j + 1)) := by rw [TK.out, numT_snoc, TL.out, Nat.zero_add]
      rw [TL.out, e3] at SN
      have CS := Lib.hid (setL_c (j : Int) y 0 _ wr hC.out SN.1 SN.2)
      have SB := Lib.hid (backT_set hlt n24)
      have e4 : (n : Int) - 1 - (j : Int) = ((n - 1 - j : Nat) : Int) := by omega
      clear hcc hz hy SN e3
      go_wp2_with fail
      refine (CZ.out _).mono ?_
      rintro e w3 ⟨rfl, rfl⟩
      go_wp2_with fail
      with_reducible refine CS.out.mono ?_
      rintro e w3 ⟨rfl, T3, C3⟩
      have CM := Lib.hid (setR_c ((n - 1 - j : Nat) : Int) 7 0 _ w3 C3 SB.out.1 SB.out.2)
      clear CS C3 e4
      go_wp2_with fail
      with_reducible refine CM.out.mono ?_
      rintro e w4 ⟨rfl, T4, C4⟩
      have D4 := Lib.hid C4
      clear CM C4
      go_wp2_with fail
      go_roundw
      case rel => exact ⟨j + 1, T3, T4, by omega, by go_num, D4⟩
      case measure => simp [intOf] <;> omega
    · obtain rfl : j = n := by omega
      have C5 := Lib.hid (show Two w wr b1 b2 (numT 0 A) (numT 0 (A.take 0 ++ List.replicate (j - 0) 7)) T1 T2 from by
        have h1 := hC.out
        rw [List.take_of_length_le (by rw [AL.out]; omega)] at h1
        have h2 := backT_perm j j (Nat.le_refl _)
        rw [Nat.sub_self] at h2
        exact ⟨h1.q, by simpa using h1.r.perm h2, h1.d, h1.l1, h1.l2, h1.b⟩)
      clear hC hlt
      go_wp2_with fail
      go_loopw [11] (fun iv wq => ∃ (i : Nat) (T1 T2 : Nat → Prop), i ≤ j ∧ iv = .int .i64 i ∧ Hid (Two w wq b1 b2 (numT 0 A) (numT 0 (A.take i ++ List.replicate (j - i) 7)) T1 T2)) (fun iv _ => j - (intOf iv).toNat)
      case atStart => exact ⟨0, T1, T2, by omega, rfl, C5⟩
      case round =>
        clear C5
        obtain ⟨i, U1, U2, hi, rfl, hC⟩ := hrel
        rename World => wq
        by_cases hlt : i < j
        · obtain ⟨ab, ao, rfl, hcc⟩ := (HH.out.below hC.out.b).at (by omega)
          have x0 := hcc i hlt
          obtain ⟨z, hz⟩ : ∃ z, zs.getD i 0 = z := ⟨_, rfl⟩
          rw [hz] at x0
          obtain ⟨y, hy⟩ : ∃ y, lowV z 50 = y := ⟨_, rfl⟩
          have yb := low_bd z 50 (by omega)
          rw [hy] at yb
          obtain ⟨yb1, yb2⟩ := yb
          have CZ := Lib.hid (fun w => low_any z 50 (by omega) (by omega) w)
          rw [hy] at CZ
          have TL := Lib.hid (show (A.take i).length = i from by rw [List.length_take, AL.out]; omega)
          have RP := Lib.hid (show A.take i ++ List.replicate (j - i) 7 = A.take i ++ 7 :: List.replicate (j - (i + 1)) 7 from by
            rw [show j - i = (j - (i + 1)) + 1 by omega, List.replicate_succ])
          have TK := Lib.hid (show A.take i ++ y :: List.replicate (j - (i + 1)) 7 = A.take (i + 1) ++ List.replicate (j - (i + 1)) 7 from by rw [take_int A i (by rw [AL.out]; exact hlt), AB.out i hlt, hz, hy, List.append_assoc]; rfl)
          have n1 : (0 : Int) ≤ (i : Int) := by omega
          have n2 : (i : Int) < (j : Int) := by omega
          have SM := upd_set0 (l := A.take i) (r := List.replicate (j - (i + 1)) 7) (x := 7) (a := y) ⟨yb1, by omega⟩
          rw [TL.out, TK.out, ← RP.out] at SM
          have CS := Lib.hid (setR_c (i : Int) y 0 _ wq hC.out SM.1 SM.2)
          clear hcc hz hy SM
          go_wp2_with fail
          refine (CZ.out _).mono ?_
          rintro e w3 ⟨rfl, rfl⟩
          go_wp2_with fail
          with_reducible refine CS.out.mono ?_
          rintro e w3 ⟨rfl, T3, C3⟩
          have D3 := Lib.hid C3
          clear CS C3
          go_wp2_with fail
          go_roundw
          case rel => exact ⟨i + 1, U1, T3, by omega, by go_num, D3⟩
          case measure => simp [intOf] <;> omega
        · obtain rfl : i = j := by omega
          have C6 := Lib.hid (show Two w wq b1 b2 (numT 0 A) (numT 0 A) U1 U2 from by
            have h1 := hC.out
            rw [List.take_of_length_le (by rw [AL.out]; omega), Nat.sub_self, List.replicate_zero, List.append_nil] at h1
            exact h1)
          obtain ⟨D, hD⟩ : ∃ D, dueM (numT 0 A) nw = D := ⟨_, rfl⟩
          have HD := Lib.hid hD
          have DL : D.length ≤ 24 := by
            rw [← hD]; unfold dueM
            have h1 := List.length_filter_le (fun x => decide (x.at_ ≤ nw)) (numT 0 A)
            rw [numT_len, AL.out] at h1
            rw [List.length_map, (sort_perm _).length_eq]; omega
          have ML := Lib.hid (show ((numT 0 A).length : Int) = (i : Int) from by rw [numT_len, AL.out])
          clear hC hlt hD
          go_wp2_with fail
          refine (CL1.out _).mono ?_
          rintro e w3 ⟨rfl, rfl⟩
          go_wp2_with fail
          refine (dueO nw D wq C6.out.q HD.out).mono ?_
          rintro e w4 ⟨da, dc, rfl, hd, hb⟩
          have H4 := Lib.hid hd
          have C7 := Lib.hid (two_more C6.out hb)
          clear hd hb
          go_wp2_with fail
          refine (dueO nw D w4 C7.out.r HD.out).mono ?_
          rintro e w5 ⟨ea, ec, rfl, hd, hb⟩
          have E5 := Lib.hid hd
          have H5 := Lib.hid (H4.out.below hb)
          have C8 := Lib.hid (two_more C7.out hb)
          clear hd hb H4 C7
          go_wp2_with fail
          refine (sameJ_yes da ea D.length dc ec D w5 H5.out E5.out (by omega)).mono ?_
          rintro e w6 ⟨rfl, hb⟩
          have C9 := Lib.hid (two_more C8.out hb)
          clear hb
          go_wp2_with fail
          refine (lenO (i : Int) w6 C9.out.q ML.out).mono ?_
          rintro e w7 ⟨rfl, rfl⟩
          go_wp2_with fail
          refine (lenO (i : Int) w6 C9.out.r ML.out).mono ?_
          rintro e w7 ⟨rfl, rfl⟩
          go_wp2_with fail
          refine (AW.out _).mono ?_
          rintro e w' ⟨rfl, hb⟩
          have CX := Lib.hid (two_more C9.out hb)
          clear hb
          go_wp2_with fail
          go_ret
          exact ⟨rfl, CX.out.b⟩
open Go.ChangeShapes Go.WideShapes Go.ChangeAt in
theorem timerTurned_walk {H : Type} {enc : TypeId × Value → H} (W : World) (base : Nat) (v0 v1 : Value) (d0 d1 : DataW H) (p0 p1 : List MemPlace)
    (h0 : DataW.Trod enc Try.prog W 0 (fun _ => true) true 39 v0 d0 p0) (h1 : DataW.Trod enc Try.prog W 0 (fun _ => true) true 3 v1 d1 p1)
    (o0 : Value.okWide Try.prog W .any base 39 v0) (o1 : Value.okWide Try.prog W .any base 3 v1) :
    Calls Try.prog 7 #[v0, v1] W fun e w' => e = .returned (.bool true) ∧ RowKit.Below W.heap.size W w' := by
  obtain ⟨a0, n0, c0, zs0, rfl, x0, y0, z0, b0, s0⟩ := open_ints_arg Try.underlying39 Try.underlying3 (by kernel_rfl) o0 h0
  obtain ⟨x1, rfl, rfl, rfl, b1⟩ := open_int Try.underlying3 o1 h1
  exact timerTurned_any a0 n0 c0 zs0 x1 W x0 (by unfold maxLen at b0; omega)
end Go.Proofs.Ytodoflmgnljahaa
/- timers: what was cancelled is not due -/
namespace Go.Proofs.Ytodoflmgnljahaa
open Go.RowKit
set_option linter.unusedVariables false
set_option maxRecDepth 20000
def bitT (bits : Int) (j : Nat) : Bool := Go.bits BinOp.and IntKind.u32 (bits / 2 ^ j) 1 == 1
/-- timers that come due from the last one down -/
def downL : Nat → List TM
  | 0 => []
  | i + 1 => downL i ++ [⟨(i : Int), 30 - (i : Int)⟩]
theorem downL_len : ∀ i, (downL i).length = i
  | 0 => rfl
  | i + 1 => by simp [downL, downL_len i]
theorem downL_mem : ∀ (i : Nat) (x : TM), x ∈ downL i ↔ ∃ k : Nat, k < i ∧ x = ⟨(k : Int), 30 - (k : Int)⟩
  | 0, x => by simp [downL]
  | i + 1, x => by
    simp only [downL, List.mem_append, List.mem_singleton, downL_mem i x]
    constructor
    · rintro (⟨k, h1, h2⟩ | h)
      · exact ⟨k, by omega, h2⟩
      · exact ⟨i, by omega, h⟩
    · rintro ⟨k, h1, h2⟩
      rcases Nat.lt_or_ge k i with h | h
      · exact Or.inl ⟨k, h, h2⟩
      · obtain rfl : k = i := by omega
        exact Or.inr h2
theorem downL_ids (i : Nat) (v : Int) : v ∈ (downL i).map TM.id ↔ ∃ k : Nat, k < i ∧ v = (k : Int) := by
  rw [List.mem_map]
  constructor
  · rintro ⟨x, hx, rfl⟩
    obtain ⟨k, h1, rfl⟩ := (downL_mem i x).1 hx
    exact ⟨k, h1, rfl⟩
  · rintro ⟨k, h1, rfl⟩
    exact ⟨⟨k, 30 - k⟩, (downL_mem i _).2 ⟨k, h1, rfl⟩, rfl⟩
theorem downL_nodup : ∀ i, ((downL i).map TM.id).Nodup
  | 0 => List.nodup_nil
  | i + 1 => by
    simp only [downL, List.map_append]
    refine List.nodup_append.2 ⟨downL_nodup i, by simp, fun x hx y hy e => ?_⟩
    simp only [List.map_cons, List.map_nil, List.mem_singleton] at hy
    obtain ⟨k, h1, h2⟩ := (downL_ids i x).1 hx
    omega
theorem downL_set {m i : Nat} (hi : i < m) (hm : m ≤ 24) : setV (m : Int) (downL i) (i : Int) (30 - (i : Int)) = 0 ∧ setM (m : Int) (downL i) (i : Int) (30 - (i : Int)) = downL (i + 1) := by
  have hg : goodT (i : Int) (30 - (i : Int)) := ⟨by omega, by omega, by omega⟩
  have hng : ¬ ¬ goodT (i : Int) (30 - (i : Int)) := fun h => h hg
  have hnot : (i : Int) ∉ (downL i).map TM.id := fun h => by
    obtain ⟨k, h1, h2⟩ := (downL_ids i _).1 h
    omega
  exact ⟨by unfold setV; rw [if_neg hng, if_neg hnot, downL_len, if_neg (by omega)], by unfold setM; rw [if_neg hng, if_neg hnot, downL_len, if_neg (by omega)]; rfl⟩
/-- those that are left when the ones below j were cancelled -/
def leftL (bits : Int) (m j : Nat) : List TM := (downL m).filter (fun x => decide ((j : Int) ≤ x.id) || !bitT bits x.id.toNat)
theorem left_zero (bits : Int) (m : Nat) : leftL bits m 0 = downL m := by
  unfold leftL
  rw [List.filter_eq_self]
  intro x hx
  obtain ⟨k, -, rfl⟩ := (downL_mem m x).1 hx
  simp
theorem left_cut {bits : Int} {m j : Nat} (hb : bitT bits j = true) : cutM (leftL bits m j) (j : Int) = leftL bits m (j + 1) := by
  unfold cutM leftL
  rw [List.filter_filter]
  refine List.filter_congr fun x hx => ?_
  obtain ⟨k, -, rfl⟩ := (downL_mem m x).1 hx
  simp only [Int.toNat_natCast]
  by_cases h : k = j
  · subst h; simp [hb] <;> omega
  · have h1 : decide ((k : Int) ≠ (j : Int)) = true := decide_eq_true (by omega)
    have h2 : decide ((j : Int) ≤ (k : Int)) = decide (((j + 1 : Nat) : Int) ≤ (k : Int)) := by rw [decide_eq_decide]; omega
    rw [h1, h2, Bool.true_and]
theorem left_keep {bits : Int} {m j : Nat} (hb : bitT bits j = false) : leftL bits m j = leftL bits m (j + 1) := by
  unfold leftL
  refine List.filter_congr fun x hx => ?_
  obtain ⟨k, -, rfl⟩ := (downL_mem m x).1 hx
  simp only [Int.toNat_natCast]
  by_cases h : k = j
  · subst h; simp [hb]
  · have h2 : decide ((j : Int) ≤ (k : Int)) = decide (((j + 1 : Nat) : Int) ≤ (k : Int)) := by rw [decide_eq_decide]; omega
    rw [h2]
theorem left_has {bits : Int} {m j : Nat} (hj : j < m) : (j : Int) ∈ (leftL bits m j).map TM.id :=
  List.mem_map.2 ⟨⟨j, 30 - j⟩, List.mem_filter.2 ⟨(downL_mem m _).2 ⟨j, hj, rfl⟩, by simp⟩, rfl⟩
theorem left_nodup (bits : Int) (m j : Nat) : ((leftL bits m j).map TM.id).Nodup := (downL_nodup m).sublist ((List.filter_sublist).map _)
theorem cut_len {M : List TM} {x : Int} (hn : (M.map TM.id).Nodup) (hx : x ∈ M.map TM.id) : (cutM M x).length + 1 = M.length := by
  induction M with
  | nil => simp at hx
  | cons a M ih =>
    simp only [List.map_cons, List.nodup_cons] at hn
    unfold cutM
    by_cases h : a.id = x
    · have h1 : x ∉ M.map TM.id := by rw [← h]; exact hn.1
      have h2 := cut_not h1
      unfold cutM at h2
      rw [List.filter_cons_of_neg (by simp [h]), h2]; rfl
    · have h1 : x ∈ M.map TM.id := by
        rcases List.mem_cons.1 hx with e | e
        · exact absurd e.symm h
        · exact e
      have := ih hn.2 h1
      unfold cutM at this
      rw [List.filter_cons_of_pos (by simp [h])]
      simp only [List.length_cons]; omega
theorem cut_gone {M : List TM} {x : Int} : x ∉ (cutM M x).map TM.id := fun h => by
  obtain ⟨y, hy, e⟩ := List.mem_map.1 h
  have := (List.mem_filter.1 hy).2
  simp [e] at this
theorem left_mem {bits : Int} {m : Nat} {x : TM} (h : x ∈ leftL bits m m) : ∃ k : Nat, k < m ∧ x = ⟨(k : Int), 30 - (k : Int)⟩ ∧ bitT bits k = false := by
  obtain ⟨h1, h2⟩ := List.mem_filter.1 h
  obtain ⟨k, hk, rfl⟩ := (downL_mem m x).1 h1
  refine ⟨k, hk, rfl, ?_⟩
  simp only [Int.toNat_natCast] at h2
  have h3 : decide ((m : Int) ≤ (k : Int)) = false := decide_eq_false (by omega)
  rw [h3, Bool.false_or] at h2
  simpa using h2
theorem due_all {M : List TM} {now : Int} (h : ∀ x ∈ M, x.at_ ≤ now) : (dueX M now).length = M.length := by
  unfold dueX
  rw [(sort_perm _).length_eq, List.filter_eq_self.2 (fun x hx => by simpa using h x hx)]
end Go.Proofs.Ytodoflmgnljahaa
