/- disk: however often it rots, one byte is another one -/
import Derived.Test.YtbbholdadgjelaaPkD
import Derived.Test.YtbbholdadgjelaaPkB
namespace Go.Proofs.Ytbbholdadgjelaa
open Go.RowKit
set_option linter.unusedVariables false
set_option maxRecDepth 20000
theorem ho_keep {w0 w w' : World} {B a1 o1 a2 o2 : Nat} {v1 v2 : Value} {d M n : Nat} {f : Int → Option DI} (h : w.cell? ⟨a1, o1, none⟩ = some v1 ∧ w.cell? ⟨a2, o2, none⟩ = some v2) (h1 : a1 < B) (h2 : a2 < B) (hb : Below B w w') : w'.cell? ⟨a1, o1, none⟩ = some v1 ∧ w'.cell? ⟨a2, o2, none⟩ = some v2 :=
  ⟨(hb.cell (p := ⟨a1, o1, none⟩) h1).trans h.1, (hb.cell (p := ⟨a2, o2, none⟩) h2).trans h.2⟩
set_option maxHeartbeats 6400000 in
set_option maxRecDepth 100000 in
theorem diskOnce_any (a1 : Option Addr) (n1 c1 : Nat) (l1 : List Int) (a2 : Option Addr) (n2 c2 : Nat) (l2 : List Int) (w : World) (h1 : HoldsI .i64 w a1 n1 l1) (h2 : HoldsI .i64 w a2 n2 l2) (b1 : n1 ≤ 9223372036854775807) (b2 : n2 ≤ 9223372036854775807) :
    Calls Try.prog 5 #[.slice a1 n1 c1, .slice a2 n2 c2] w fun e w' => e = .returned (.bool true) ∧ Below w.heap.size w w' := by
  by_cases q1 : 20 < n1
  · have d1 : decide ((20 : Int) < (n1 : Int)) = true := decide_eq_true (by omega)
    clear h1 h2 q1
    go_enter Try.func5, Try.ntmps5
    go_wp2_with fail
    refine (awakeD_any _).mono ?_
    rintro e w' ⟨rfl, hb⟩
    go_wp2_with fail
    go_ret
    exact ⟨rfl, hb⟩
  have d1 : decide ((20 : Int) < (n1 : Int)) = false := decide_eq_false (by omega)
  by_cases q2 : n2 < n1
  · have d2 : decide (n2 < n1) = true := decide_eq_true q2
    have d3 : decide ((n2 : Int) < (n1 : Int)) = true := decide_eq_true (by omega)
    clear h1 h2 q1 q2
    go_enter Try.func5, Try.ntmps5
    go_wp2_with fail
    refine (awakeD_any _).mono ?_
    rintro e w' ⟨rfl, hb⟩
    go_wp2_with fail
    go_ret
    exact ⟨rfl, hb⟩
  have d2 : decide (n2 < n1) = false := decide_eq_false q2
  have d3 : decide ((n2 : Int) < (n1 : Int)) = false := decide_eq_false (by omega)
  have CN := Lib.hid (fun (w1 : World) (B : Nat) (h : CfgOk w1 (cfgS B)) => dnew_good (cfgS B) 1 2 1 [0] w1 h (may_cfgS B) rfl rfl (by decide) (show (1 : Int) ≤ 2 by decide) keepS)
  have w0 : wfI 0 := wfI_of (by decide) (by decide)
  have HA := Lib.hid h1; have HX := Lib.hid h2
  have n20 : n1 ≤ 20 := by omega
  have n12 : n1 ≤ n2 := by omega
  clear h1 h2 q1 q2
  go_enter Try.func5, Try.ntmps5
  go_wp2_with fail
  refine (small_any w).mono ?_
  rintro e w1 ⟨B, rfl, ok, hb⟩
  have B1 := Lib.hid hb
  have C1 := Lib.hid (CN.out w1 B ok)
  have IL := Lib.hid (imgS_len B)
  have IB := Lib.hid (show ∀ b ∈ imgC (cfgS B) 0, b < 256 from imgB_lt _)
  clear ok hb CN
  generalize cfgS B = c at *
  go_wp2_with fail
  with_reducible refine C1.out.mono ?_
  rintro e w2 ⟨d, M, n, f, rfl, hD, hF, hb⟩
  have B2 := Lib.hid (B1.out.trans (hb.mono B1.out.size))
  have S1 := Lib.hid B1.out.size
  obtain ⟨i, hi⟩ : ∃ i, f 0 = some i := Option.isSome_iff_exists.1 (hF.all 0 (by simp))
  obtain ⟨s, hs, hsK, ho, hss⟩ := hF.sub 0 i hi
  obtain rfl : s = 0 := by omega
  obtain ⟨I, hII⟩ : ∃ I, imgC c 0 = I := ⟨_, rfl⟩
  rw [hII] at ho hss IL IB
  have HI := Lib.hid hi
  have HO := Lib.hid ho
  have D2 := Lib.hid hD
  have CR := Lib.hid (dread_yes d 0 i w2 hD w0 hi)
  rw [hss] at CR
  unfold ReadD at CR
  rw [IL.out] at CR
  have LM := Lib.hid (show M < w2.heap.size from hD.m.lt)
  clear hD hF hb hi hs hsK ho hss C1 hII
  go_wp2_with fail
  with_reducible refine CR.out.mono ?_
  rintro e w3 ⟨a3, c3, rfl, o3, -, hb⟩
  obtain ⟨q, cp, hv⟩ := Joins.ownsRow_form o3 (by omega)
  simp only [Value.slice.injEq] at hv
  obtain ⟨hv, -, -⟩ := hv
  subst hv
  have QM := Lib.hid (show ∀ q2 o, (some ⟨q, 0, none⟩ : Option Addr) = some ⟨q2, o, none⟩ → ¬ q2 = M from fun q2 o e e2 => by
    injection e with e; injection e with e e3; subst e
    have h5 : w2.heap.size ≤ q := (o3.lt q rfl).1
    have := LM.out; omega)
  have R3 := Lib.hid (holdsB_of_values (owns_holds o3) IB.out)
  have D3 := Lib.hid (D2.out.below hb)
  have B3 := Lib.hid (B2.out.trans (hb.mono B2.out.size))
  clear hb CR D2 B2 o3
  go_wp2_with fail
  go_loopw [9] (fun iv wr => ∃ (j : Nat) (f : Int → Option DI) (i : DI), j ≤ n1 ∧ iv = .int .i64 j ∧ Hid (f 0 = some i) ∧ Hid (i.ob = I) ∧ Hid (DAt w1.heap.size d M n f 0 wr) ∧ Hid (HoldsB wr (some ⟨q, 0, none⟩) 28 I) ∧ Hid (Below w.heap.size w wr)) (fun iv _ => n1 - (intOf iv).toNat)
  case atStart => exact ⟨0, f, i, by omega, rfl, HI, HO, D3, R3, B3⟩
  case round =>
    clear HI HO D3 R3 B3
    obtain ⟨wo, rfl⟩ : ∃ wo : World, wo = wr := ⟨_, rfl⟩
    obtain ⟨j, f, i, hj, rfl, hf, hio, hD, hR, hB⟩ := hrel
    by_cases hlt : j < n1
    · have dl : decide (j < n1) = true := decide_eq_true hlt
      obtain ⟨p1, o1, rfl, hc1⟩ := HA.out.at (by omega)
      obtain ⟨p2, o2, rfl, hc2⟩ := HX.out.at (by omega)
      have e1 := hc1 j hlt
      have e2 := hc2 j (by omega)
      obtain ⟨at_, hat⟩ : ∃ v, l1.getD j 0 = v := ⟨_, rfl⟩
      obtain ⟨xx, hxx⟩ : ∃ v, l2.getD j 0 = v := ⟨_, rfl⟩
      rw [hat] at e1
      rw [hxx] at e2
      have lp1 := lt_of_cell e1
      have lp2 := lt_of_cell e2
      have y1 := (hB.out.cell (p := ⟨p1, o1 + j, none⟩) lp1).trans e1
      have y2 := (hB.out.cell (p := ⟨p2, o2 + j, none⟩) lp2).trans e2
      have LP := Lib.hid (And.intro (Nat.lt_of_lt_of_le lp1 S1.out) (Nat.lt_of_lt_of_le lp2 S1.out))
      have n3 : (0 : Int) ≤ (j : Int) := by omega
      have n4 : (j : Int) < (n1 : Int) := by omega
      have n5 : (j : Int) < (n2 : Int) := by omega
      have n6 : j < n2 := by omega
      have CR := Lib.hid (fun w' (hb : Below wo.heap.size wo w') => drot_yes d 0 at_ xx i w' (hD.out.below hb) w0 hf.out)
      rw [hio.out] at CR
      have L1 := Lib.hid lp1
      have E1 := Lib.hid e1
      clear hc1 hc2 hat hxx e1 e2 lp1 lp2
      go_upto_region 10 with fail
      go_region_held3 (fun w' => w'.cell? ⟨p1, o1 + j, none⟩ = some (.int .i64 at_) ∧ w'.cell? ⟨p2, o2 + j, none⟩ = some (.int .i64 xx))
        (first | assumption | exact ho_keep (w0 := w) (d := d) (M := M) (n := n) (f := f) (by assumption) LP.out.1 LP.out.2 (by assumption) | go_keep)
        (first
          | (go_at_call 13; (with_reducible refine (CR.out _ (Below.refl _ _).drew).mono ?_); rintro e w5 ⟨rfl, ⟨sa, sc, hD5⟩, hb5, ht5⟩)
          | fail)
      have LT := Lib.hid (show (Dm.turned I at_ xx).length = 28 by rw [Dm.turned_len]; exact IL.out)
      have TB := Lib.hid (turned_lt I IB.out at_ xx (by have := IL.out; omega))
      have TO := Lib.hid (fun j2 (h2 : j2 < 28) => turned_one I at_ xx j2 (by have := IL.out; omega))
      rw [IL.out] at TO
      have KE := Lib.hid (show lowV at_ 28 = (Dm.k 28 at_ : Int) from Dm.k_eq 28 at_ (by decide))
      have C5 := Lib.hid (dread_yes d 0 ⟨i.oa, I, i.oc, sa, Dm.turned I at_ xx, sc⟩ w5 hD5 w0 (fput_at f 0 _))
      unfold ReadD at C5
      simp only at C5
      obtain ⟨f5, hf5⟩ : ∃ v, fput f 0 ⟨i.oa, I, i.oc, sa, Dm.turned I at_ xx, sc⟩ = v := ⟨_, rfl⟩
      have HF5 := Lib.hid (show f5 0 = some ⟨i.oa, I, i.oc, sa, Dm.turned I at_ xx, sc⟩ by rw [← hf5]; exact fput_at f 0 _)
      rw [hf5] at hD5
      obtain ⟨i5, hi5⟩ : ∃ v : DI, ⟨i.oa, I, i.oc, sa, Dm.turned I at_ xx, sc⟩ = v := ⟨_, rfl⟩
      rw [hi5] at HF5
      have HO5 := Lib.hid (show i5.ob = I by rw [← hi5])
      obtain ⟨T, hT⟩ : ∃ v, Dm.turned I at_ xx = v := ⟨_, rfl⟩
      rw [hT] at LT TB TO C5
      rw [LT.out] at C5
      have D5 := Lib.hid hD5
      have R5 := Lib.hid (holdsB_turn (hR.out.below (Below.refl _ _).drew) ht5 QM.out)
      have B5 := Lib.hid ((hB.out.drew).trans (hb5.mono S1.out))
      have z1 := (B5.out.cell (p := ⟨p1, o1 + j, none⟩) L1.out).trans E1.out
      clear hD5 hb5 ht5 hf5 hi5 hT CR hf hio hD hR y1 y2
      go_wp2_with fail
      with_reducible refine C5.out.mono ?_
      rintro e w6 ⟨a6, c6, rfl, o6, -, hb⟩
      obtain ⟨q6, cp6, hv⟩ := Joins.ownsRow_form o6 (by omega)
      simp only [Value.slice.injEq] at hv
      obtain ⟨hv, -, -⟩ := hv
      subst hv
      have R6 := Lib.hid (holdsB_of_values (owns_holds o6) TB.out)
      have Q6 := Lib.hid (R5.out.below hb)
      have D6 := Lib.hid (D5.out.below hb)
      have B6 := Lib.hid (B5.out.trans (hb.mono B5.out.size))
      have z2 := (B6.out.cell (p := ⟨p1, o1 + j, none⟩) L1.out).trans E1.out
      have CL := Lib.hid (fun w' => low_any at_ 28 (by decide) (by decide) w')
      rw [KE.out] at CL
      obtain ⟨k, hk⟩ : ∃ v, Dm.k 28 at_ = v := ⟨_, rfl⟩
      rw [hk] at CL TO
      clear hb C5 R5 D5 B5 z1 o6 KE hk
      go_wp2_with fail
      with_reducible refine (CL.out _).mono ?_
      rintro e w7 ⟨rfl, rfl⟩
      clear CL
      go_wp2_with fail
      go_loopw [13] (fun iv wr => ∃ (j2 m : Nat), j2 ≤ 28 ∧ iv = .int .i64 j2 ∧ wr = w6.drewN m) (fun iv _ => 28 - (intOf iv).toNat)
      case atStart => exact ⟨0, 0, by omega, rfl, rfl⟩
      case round =>
        obtain ⟨j2, m, hj2, rfl, rfl⟩ := hrel
        by_cases h2 : j2 < 28
        · obtain ⟨q1, z1, hq1, k1⟩ := R6.out.at (by omega)
          obtain ⟨q2, z3, hq2, k2⟩ := Q6.out.at (by omega)
          simp only [Option.some.injEq, Addr.mk.injEq] at hq1 hq2
          obtain ⟨rfl, rfl, -⟩ := hq1
          obtain ⟨rfl, rfl, -⟩ := hq2
          have u1 := k1 j2 h2
          have u2 := k2 j2 h2
          have t1 := TO.out j2 h2
          obtain ⟨x5, hx5⟩ : ∃ v, T.getD j2 0 = v := ⟨_, rfl⟩
          obtain ⟨x6, hx6⟩ : ∃ v, I.getD j2 0 = v := ⟨_, rfl⟩
          rw [hx5] at u1 t1
          rw [hx6] at u2 t1
          obtain ⟨bb, hbb⟩ : ∃ v : Bool, ((x5 : Int) != (x6 : Int)) = v := ⟨_, rfl⟩
          have u3 := u1
          have u4 := u2
          rw [Nat.zero_add] at u3 u4
          have t2 : ((j2 : Int) == (k : Int)) = bb := by rw [← t1]; exact hbb
          have t3 : (bb != bb) = false := by simp
          have n7 : decide (j2 < 28) = true := decide_eq_true h2
          have n8 : decide ((j2 : Int) < 28) = true := decide_eq_true (by omega)
          have n9 : (0 : Int) ≤ (j2 : Int) := by omega
          have n10 : (j2 : Int) < 28 := by omega
          have n11 : (j2 : Int) < ((28 : Nat) : Int) := by omega
          clear k1 k2 hx5 hx6 t1
          go_wp2_with fail
          go_quiet (fail)
          go_wp2_with fail
          go_roundw
          case rel => exact ⟨j2 + 1, _, by omega, by go_num, rfl⟩
          case measure => simp [intOf]; omega
        · obtain rfl : j2 = 28 := by omega
          go_wp2_with fail
          go_roundw
          case rel => exact ⟨j + 1, f5, i5, by omega, by go_num, HF5, HO5, Lib.hid (D6.out.below (below_drewN _ _)), Lib.hid (Q6.out.below (below_drewN _ _)), Lib.hid (B6.out.trans ((below_drewN _ _).mono B6.out.size))⟩
          case measure => simp [intOf]; omega
    · have j1 : decide (j < n1) = false := decide_eq_false hlt
      have CM := Lib.hid (dmend_yes d 0 i wo hD.out w0 hf.out)
      rw [hio.out] at CM
      have QR := Lib.hid hR.out
      have BB := Lib.hid hB.out
      clear HA HX hf hio hD hR hB
      go_wp2_with fail
      with_reducible refine CM.out.mono ?_
      rintro e w5 ⟨rfl, hD5, hb5, ht5⟩
      have C5 := Lib.hid (dread_yes d 0 ⟨i.oa, I, i.oc, i.oa, I, i.oc⟩ w5 hD5 w0 (fput_at f 0 _))
      unfold ReadD at C5
      simp only at C5
      rw [IL.out] at C5
      have R5 := Lib.hid (holdsB_turn QR.out ht5 QM.out)
      have B5 := Lib.hid (BB.out.trans (hb5.mono S1.out))
      clear hD5 hb5 ht5 CM QR BB
      go_wp2_with fail
      with_reducible refine C5.out.mono ?_
      rintro e w6 ⟨a6, c6, rfl, o6, -, hb⟩
      have CS := Lib.hid (sameB_yes9 a6 (some ⟨q, 0, none⟩) 28 c6 c3 I w6 (holdsB_of_values (owns_holds o6) IB.out) (R5.out.below hb) (by omega))
      have B6 := Lib.hid (B5.out.trans (hb.mono B5.out.size))
      clear hb C5 R5 B5 o6
      go_wp2_with fail
      with_reducible refine CS.out.mono ?_
      rintro e w7 ⟨rfl, hb⟩
      have B7 := Lib.hid (B6.out.trans (hb.mono B6.out.size))
      clear hb CS B6
      go_wp2_with fail
      refine (awakeD_any _).mono ?_
      rintro e w8 ⟨rfl, hb⟩
      have B8 := Lib.hid (B7.out.trans (hb.mono B7.out.size))
      clear hb
      go_wp2_with fail
      go_ret
      exact ⟨rfl, B8.out⟩
open Go.ChangeShapes Go.WideShapes Go.ChangeAt in
theorem diskOnce_walk {H : Type} {enc : TypeId × Value → H} (W : World) (base : Nat) (v0 v1 : Value) (d0 d1 : DataW H) (p0 p1 : List MemPlace)
    (h0 : DataW.Trod enc Try.prog W 0 (fun _ => true) true 33 v0 d0 p0) (h1 : DataW.Trod enc Try.prog W 0 (fun _ => true) true 33 v1 d1 p1)
    (o0 : Value.okWide Try.prog W .any base 33 v0) (o1 : Value.okWide Try.prog W .any base 33 v1) :
    Calls Try.prog 5 #[v0, v1] W fun e w' => e = .returned (.bool true) ∧ RowKit.Below W.heap.size W w' := by
  obtain ⟨a0, n0, c0, zs0, rfl, x0, y0, z0, b0, s0⟩ := open_ints_arg Try.underlying33 Try.underlying3 (by kernel_rfl) o0 h0
  obtain ⟨a1, n1, c1, zs1, rfl, x1, y1, z1, b1, s1⟩ := open_ints_arg Try.underlying33 Try.underlying3 (by kernel_rfl) o1 h1
  exact diskOnce_any a0 n0 c0 zs0 a1 n1 c1 zs1 W x0 x1 (by unfold maxLen at b0; omega) (by unfold maxLen at b1; omega)
end Go.Proofs.Ytbbholdadgjelaa
