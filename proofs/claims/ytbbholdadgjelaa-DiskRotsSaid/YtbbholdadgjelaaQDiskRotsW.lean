/- disk: what is rotten is no image; mended it is one again; others stay -/
import Derived.Test.YtbbholdadgjelaaPkD
import Derived.Deep.RegionHeld3
import Derived.Deep.QuietTactic
import Derived.BigQuiet
namespace Go.Proofs.Ytbbholdadgjelaa
open Go.RowKit
set_option linter.unusedVariables false
set_option maxRecDepth 20000
set_option maxHeartbeats 12800000 in
set_option maxRecDepth 100000 in
theorem diskRots_any (c : Cfg) (x0 sh at_ xx : Int) (w : World) (h : CfgOk w c) :
    Calls Try.prog 3 #[.agg #[.slice c.wa c.wn c.wc, .slice c.ka c.kn c.kc, .int .i64 c.W, .int .i64 c.C, .int .i64 c.S, .int .i64 c.B, .int .i64 c.L, .int .i64 c.H, .int .i64 c.F, .int .i64 c.P, .int .i64 c.J, .int .i64 c.N], .int .i64 x0, .int .i64 sh, .int .i64 at_, .int .i64 xx] w fun e w' => e = .returned (.bool true) ∧ Below w.heap.size w w' := by
  have BX := Lib.hid (below_one w (.cells #[.slice c.wa c.wn c.wc, .slice c.ka c.kn c.kc, .int .i64 c.W, .int .i64 c.C, .int .i64 c.S, .int .i64 c.B, .int .i64 c.L, .int .i64 c.H, .int .i64 c.F, .int .i64 c.P, .int .i64 c.J, .int .i64 c.N] 25))
  have IN := Lib.hid (cfgIn_new w c w.heap.size 25 (0, 0) rfl)
  have OK := Lib.hid h
  have CG := Lib.hid (greatC_any c _ (h.below BX.out))
  clear h
  go_enter Try.func3, Try.ntmps3
  go_upto_region 1 with fail
  generalize w.alloc (.cells #[.slice c.wa c.wn c.wc, .slice c.ka c.kn c.kc, .int .i64 c.W, .int .i64 c.C, .int .i64 c.S, .int .i64 c.B, .int .i64 c.L, .int .i64 c.H, .int .i64 c.F, .int .i64 c.P, .int .i64 c.J, .int .i64 c.N] 25) = w1 at *
  obtain ⟨p, hp⟩ : ∃ p, w.heap.size = p := ⟨_, rfl⟩
  have HP := Lib.hid hp
  rw [hp] at IN
  rw [hp]
  clear hp
  have hI := IN.out
  unfold CfgIn at hI
  obtain ⟨i0, i1, i2, i3, i4, i5, i6, i7, i8, i9, i10, i11⟩ := hI
  go_wp2_with fail
  refine CG.out.mono ?_
  rintro e w2 ⟨z, rfl, hb2⟩
  have B2 := Lib.hid (BX.out.trans (hb2.mono BX.out.size))
  have I2 := Lib.hid (IN.out.below hb2)
  clear hb2 CG i0 i1 i2 i3 i4 i5 i6 i7 i8 i9 i10 i11
  have hI := I2.out
  unfold CfgIn at hI
  obtain ⟨i0, i1, i2, i3, i4, i5, i6, i7, i8, i9, i10, i11⟩ := hI
  have FIN := Lib.hid (fun w3 (hb3 : Below w.heap.size w w3) => (awakeD_any w3).mono (fun e w4 (h : _ ∧ _) => (show e = .returned (.bool true) ∧ Below w.heap.size w w4 from ⟨h.1, hb3.trans (h.2.mono hb3.size)⟩)))
  cases z
  · obtain ⟨zm, hzm⟩ : ∃ zm, c.may = zm := ⟨_, rfl⟩
    have CM := Lib.hid (may_cfg c zm w2 (OK.out.below B2.out) hzm)
    have HZ := Lib.hid hzm
    clear hzm
    go_wp2_with fail
    refine CM.out.mono ?_
    rintro e w3 ⟨rfl, hb3⟩
    have B3 := Lib.hid (show BWD w p c w3 from ⟨B2.out.trans (hb3.mono B2.out.size), I2.out.below hb3⟩)
    clear hb3 CM i0 i1 i2 i3 i4 i5 i6 i7 i8 i9 i10 i11 B2 I2 IN BX
    cases zm
    · go_wp2_with fail
      refine (FIN.out _ B3.out.1).mono ?_
      rintro e w4 ⟨rfl, hb4⟩
      have B4 := Lib.hid hb4
      clear hb4
      go_wp2_with fail
      go_ret
      exact ⟨rfl, B4.out⟩
    · obtain ⟨-, -, hw, hc, -⟩ := may_parts HZ.out
      have GG := Lib.hid (may_parts HZ.out).1
      have hkn := may_kn HZ.out OK.out
      have KN := Lib.hid hkn
      obtain ⟨W, hW⟩ : ∃ W : Nat, c.W = (W : Int) := ⟨c.W.toNat, by omega⟩
      obtain ⟨C, hC⟩ : ∃ C : Nat, c.C = (C : Int) := ⟨c.C.toNat, by omega⟩
      have CL := Lib.hid (fun w' => low_any x0 c.W (by omega) (by omega) w')
      have hl := low_bd x0 c.W (by omega)
      obtain ⟨lv, hlv⟩ : ∃ v, lowV x0 c.W = v := ⟨_, rfl⟩
      rw [hlv] at CL hl
      obtain ⟨wk, hwk⟩ : ∃ v, 1 + lv = v := ⟨_, rfl⟩
      have s1 : IntKind.i64.wrap (1 + lv) = wk := by rw [IntWalk.i64_in _ (by omega)]; exact hwk
      obtain ⟨K, hK⟩ : ∃ K, Pl.keep W C (c.kn + 1) wk = K := ⟨_, rfl⟩
      have hk6 : K.length ≤ 6 := by
        rw [← hK]
        have := Pl.keep_len W C (c.kn + 1) wk
        omega
      have KM := Lib.hid (show ∀ s ∈ K, s < c.kn + 1 from fun s hs => by rw [← hK] at hs; exact (Pl.keep_mem hs).1)
      have CN := Lib.hid (fun w' (hb : Below w.heap.size w w') => dnew_good c wk W C K w' (OK.out.below hb) HZ.out hW hC (by omega) (by omega) hK)
      have CK := Lib.hid (fun w' (hb : Below w.heap.size w w') => (show Calls Try.prog 11 #[.agg #[.slice c.wa c.wn c.wc, .slice c.ka c.kn c.kc, .int .i64 c.W, .int .i64 c.C, .int .i64 c.S, .int .i64 c.B, .int .i64 c.L, .int .i64 c.H, .int .i64 c.F, .int .i64 c.P, .int .i64 c.J, .int .i64 c.N], .int .i64 wk] w' (RetZ w' (natsZ K)) from hK ▸ keeps_any c wk W C w' (OK.out.below hb) HZ.out hW hC))
      have CW := Lib.hid (fun w' (s k : Nat) (zs : List Tx) (hs : s < c.kn + 1) (hz : sliceS c.ks c.ws s = zs) (hk : zs.length = k) (hb : Below w.heap.size w w') => pwords_any c s k zs w' (OK.out.below hb) HZ.out hs hz hk)
      obtain ⟨k, hkl⟩ : ∃ k, K.length = k := ⟨_, rfl⟩
      rw [hkl] at hk6
      have HKL := Lib.hid hkl
      unfold RetZ at CK
      rw [natsZ_len, hkl] at CK
      clear hw hc hW hC hlv hl hwk hK hkl hkn
      have hI := B3.out.2
      unfold CfgIn at hI
      obtain ⟨i0, i1, i2, i3, i4, i5, i6, i7, i8, i9, i10, i11⟩ := hI
      go_wp2_with fail
      with_reducible refine (CL.out _).mono ?_
      rintro e w4 ⟨rfl, rfl⟩
      clear CL
      have CN1 := Lib.hid (CN.out w3 B3.out.1)
      clear CN
      go_wp2_with fail
      with_reducible refine CN1.out.mono ?_
      rintro e w4 ⟨d, M, n, f, rfl, hD, hF, hb4⟩
      have S3 := Lib.hid (And.intro B3.out.1.size (lt_of_cell B3.out.2.1))
      have B4 := Lib.hid (bwd_carry B3.out hb4)
      have D4 := Lib.hid hD
      have F4 := Lib.hid hF
      clear hD hF hb4 CN1 B3 i0 i1 i2 i3 i4 i5 i6 i7 i8 i9 i10 i11
      have hI := B4.out.2
      unfold CfgIn at hI
      obtain ⟨i0, i1, i2, i3, i4, i5, i6, i7, i8, i9, i10, i11⟩ := hI
      have CK1 := Lib.hid (CK.out w4 B4.out.1)
      clear CK
      go_wp2_with fail
      with_reducible refine CK1.out.mono ?_
      rintro e w5 ⟨ka, kc, rfl, ho, hb5⟩
      have KH := Lib.hid (holdsZ_own ho)
      have B5 := Lib.hid (bwd_carry B4.out hb5)
      have D5 := Lib.hid (D4.out.below hb5)
      have LM := Lib.hid (show M < w4.heap.size from D4.out.m.lt)
      by_cases k0 : k = 0
      · subst k0
        have K0 : K = [] := List.length_eq_zero_iff.1 HKL.out
        have CL := Lib.hid (fun w' => low_any sh 9 (by decide) (by decide) w')
        have hl := low_bd sh 9 (by decide)
        obtain ⟨lz, hlz⟩ : ∃ v, lowV sh 9 = v := ⟨_, rfl⟩
        rw [hlz] at CL hl
        have hfn : f lz = none := by
          rcases hfz : f lz with _ | i
          · rfl
          · obtain ⟨t, -, ht, -⟩ := F4.out.sub lz i hfz
            rw [K0] at ht; cases ht
        have CR := Lib.hid (dread_no d lz w5 D5.out (wfI_of (by omega) (by omega)) hfn)
        clear hfn hlz hl K0 ho hb5 CK1 D4 F4 B4 KH D5 i0 i1 i2 i3 i4 i5 i6 i7 i8 i9 i10 i11
        go_wp2_with fail
        with_reducible refine (CL.out _).mono ?_
        rintro e w6 ⟨rfl, rfl⟩
        go_wp2_with fail
        with_reducible refine CR.out.mono ?_
        rintro e w6 ⟨rfl, hb6⟩
        have B6 := Lib.hid (B5.out.1.trans (hb6.mono B5.out.1.size))
        clear hb6 CR CL
        go_wp2_with fail
        refine (FIN.out _ B6.out).mono ?_
        rintro e w7 ⟨rfl, hb7⟩
        have B7 := Lib.hid hb7
        clear hb7
        go_wp2_with fail
        go_ret
        exact ⟨rfl, B7.out⟩
      · obtain ⟨q, cp, hv⟩ := Joins.ownsRow_form ho (by omega)
        simp only [Value.slice.injEq] at hv
        obtain ⟨hv, -, -⟩ := hv
        subst hv
        have QM := Lib.hid (show ∀ q2 o, (some ⟨q, 0, none⟩ : Option Addr) = some ⟨q2, o, none⟩ → ¬ q2 = M from fun q2 o e e2 => by
          injection e with e; injection e with e e3; subst e
          have h5 : w4.heap.size ≤ q := (ho.lt q rfl).1
          have := LM.out; omega)
        have CL := Lib.hid (fun w' => low_any sh (k : Int) (by omega) (by omega) w')
        have hl := low_bd sh (k : Int) (by omega)
        obtain ⟨j, hj⟩ : ∃ j : Nat, lowV sh (k : Int) = (j : Int) := ⟨(lowV sh (k : Int)).toNat, by omega⟩
        rw [hj] at CL hl
        have hjk : j < k := by omega
        obtain ⟨qb, qo, hq, hcc⟩ := KH.out.at (by omega)
        simp only [Option.some.injEq, Addr.mk.injEq] at hq
        obtain ⟨rfl, rfl, -⟩ := hq
        have x1 := hcc j hjk
        rw [natsZ_at, Nat.zero_add] at x1
        obtain ⟨s, hs⟩ : ∃ s, K.getD j 0 = s := ⟨_, rfl⟩
        rw [hs] at x1
        have hsK : s ∈ K := by rw [← hs]; exact getD_mem (by rw [HKL.out]; exact hjk)
        have hsn := KM.out s hsK
        have WS := Lib.hid (wfI_of (x := (s : Int)) (by omega) (by have := KN.out; omega))
        obtain ⟨i, hi, ho1, ho2⟩ := newF_at F4.out hsK
        have n1 : (0 : Int) ≤ (j : Int) := by omega
        have n2 : (j : Int) < (k : Int) := by omega
        have k1 : ((k : Int) == 0) = false := by rw [beq_eq_false_iff_ne]; omega
        have HI := Lib.hid hi
        have HO1 := Lib.hid ho1; have HO2 := Lib.hid ho2
        have CR := Lib.hid (drot_yes d (s : Int) at_ xx i w5 D5.out WS.out hi)
        obtain ⟨I, hII⟩ : ∃ I, imgC c s = I := ⟨_, rfl⟩
        have HII := Lib.hid hII
        rw [ho1, hII] at CR
        have hgz := good_filter GG.out (fun t => decide (True))
        clear hgz hi ho1 ho2 hsK hs hcc hj hl ho hb5 CK1 D4 B4 i0 i1 i2 i3 i4 i5 i6 i7 i8 i9 i10 i11 hII
        go_wp2_with fail
        with_reducible refine (CL.out _).mono ?_
        rintro e w6 ⟨rfl, rfl⟩
        go_wp2_with fail
        with_reducible refine CR.out.mono ?_
        rintro e w6 ⟨rfl, ⟨sa, sc, hD6⟩, hb6, ht6⟩
        obtain ⟨m10, m52⟩ := (show 10 ≤ (imgC c s).length ∧ (imgC c s).length ≤ 524004 from imgB_len (good_filter GG.out _))
        have IB := Lib.hid (show ∀ b ∈ imgC c s, b < 256 from imgB_lt _)
        have TD := Lib.hid (show decS (Dm.turned (imgC c s) at_ xx) = none ∧ (if openB (Dm.turned (imgC c s) at_ xx) then (8 : Int) else 9) = 9 from by
          have h1 : openB (Dm.turned (imgC c s) at_ xx) = false := turned_shut _ at_ xx
          refine ⟨?_, by rw [h1]; rfl⟩
          unfold decS; rw [h1]; rfl)
        have TB := Lib.hid (turned_lt (imgC c s) IB.out at_ xx (by omega))
        have TO := Lib.hid (turned_other (imgC c s) at_ xx (by omega))
        rw [HII.out] at m10 m52 IB TD TB TO
        obtain ⟨m, hm⟩ : ∃ m, I.length = m := ⟨_, rfl⟩
        have TL := Lib.hid (show (Dm.turned I at_ xx).length = m by rw [Dm.turned_len]; exact hm)
        rw [hm] at m10 m52
        obtain ⟨T, hT⟩ : ∃ T, Dm.turned I at_ xx = T := ⟨_, rfl⟩
        rw [hT] at TD TB TO TL hD6
        have R6 := Lib.hid ((show RB w p c w3.heap.size d M n f q k K w5 from ⟨B5.out, D5.out, KH.out⟩).turn hb6 ht6 hD6 S3.out QM.out)
        have C6 := Lib.hid (drotten_yes d (s : Int) ⟨i.oa, I, i.oc, sa, T, sc⟩ true w6 hD6 WS.out (fput_at f _ _) TO.out)
        have C7 := Lib.hid (fun w7 (hb : Below w6.heap.size w6 w7) => dread_yes d (s : Int) ⟨i.oa, I, i.oc, sa, T, sc⟩ w7 (hD6.below hb) WS.out (fput_at f _ _))
        have C8 := Lib.hid (fun w8 a c1 (h : HoldsB w8 a m T) (hc : m ≤ c1) => decode_no a m c1 T 9 w8 h hc (by omega) TD.out.1 TD.out.2)
        have C9 := Lib.hid (fun w9 (hb : Below w6.heap.size w6 w9) => dmend_yes d (s : Int) ⟨i.oa, I, i.oc, sa, T, sc⟩ w9 (hD6.below hb) WS.out (fput_at f _ _))
        have C10 := Lib.hid (fun w10 (hD : DAt w3.heap.size d M n (fput (fput f (s : Int) ⟨i.oa, I, i.oc, sa, T, sc⟩) (s : Int) ⟨i.oa, I, i.oc, i.oa, I, i.oc⟩) 0 w10) => drotten_yes d (s : Int) ⟨i.oa, I, i.oc, i.oa, I, i.oc⟩ false w10 hD WS.out (fput_at _ _ _) (decide_eq_false (fun e => e rfl)))
        unfold ReadD at C7
        simp only [TL.out] at C7
        have G10 := Lib.hid (show ∀ t ∈ K, ∃ i2, (fput (fput f (s : Int) ⟨i.oa, I, i.oc, sa, T, sc⟩) (s : Int) ⟨i.oa, I, i.oc, i.oa, I, i.oc⟩) (t : Int) = some i2 ∧ i2.sb = imgC c t from fun t ht => by
          by_cases e : t = s
          · subst e
            exact ⟨_, fput_at _ _ _, HII.out.symm⟩
          · obtain ⟨i2, h1, -, h2⟩ := newF_at F4.out ht
            exact ⟨i2, by rw [fput_ne _ _ _ _ (by omega), fput_ne _ _ _ _ (by omega)]; exact h1, h2⟩)
        clear hD6 hb6 ht6 hT hm CR CL B5 D5 KH F4 HI HO1 HO2 x1
        go_wp2_with fail
        with_reducible refine C6.out.mono ?_
        rintro e w7 ⟨rfl, hb7⟩
        have R7 := Lib.hid (R6.out.below hb7)
        have T7 := Lib.hid hb7
        have C71 := Lib.hid (C7.out w7 hb7)
        clear hb7 C6 C7 R6
        go_wp2_with fail
        with_reducible refine C71.out.mono ?_
        rintro e w8 ⟨a8, c8, rfl, o8, hc8, hb8⟩
        have R8 := Lib.hid (R7.out.below hb8)
        have T8 := Lib.hid (T7.out.trans (hb8.mono T7.out.size))
        have C81 := Lib.hid (C8.out w8 a8 c8 (holdsB_of_values (owns_holds o8) TB.out) hc8)
        clear hb8 C71 C8 R7 T7 o8
        go_wp2_with fail
        with_reducible refine C81.out.mono ?_
        rintro e w9 ⟨rfl, hb9⟩
        have R9 := Lib.hid (R8.out.below hb9)
        have T9 := Lib.hid (T8.out.trans (hb9.mono T8.out.size))
        have C91 := Lib.hid (C9.out w9 T9.out)
        clear hb9 C81 C9 R8 T8 T9
        go_wp2_with fail
        with_reducible refine C91.out.mono ?_
        rintro e w10 ⟨rfl, hD10, hb10, ht10⟩
        have R10 := Lib.hid (R9.out.turn hb10 ht10 hD10 S3.out QM.out)
        have C101 := Lib.hid (C10.out w10 hD10)
        clear hb10 hD10 ht10 C91 C10 R9
        go_wp2_with fail
        with_reducible refine C101.out.mono ?_
        rintro e w11 ⟨rfl, hb11⟩
        have R11 := Lib.hid (R10.out.below hb11)
        clear hb11 C101 R10
        generalize fput (fput f (s : Int) ⟨i.oa, I, i.oc, sa, T, sc⟩) (s : Int) ⟨i.oa, I, i.oc, i.oa, I, i.oc⟩ = f2 at *
        clear WS IB TD TB TO TL HII S3
        go_wp2_with fail
        go_loopw [21] (fun iv wr => ∃ j : Nat, j ≤ k ∧ iv = .int .i64 j ∧ Hid (RB w p c w3.heap.size d M n f2 q k K wr)) (fun iv _ => k - (intOf iv).toNat)
        case atStart => exact ⟨0, by omega, rfl, R11⟩
        case round =>
          clear R11 s1 n1 n2 k1 hsn hjk
          obtain ⟨j, hj, rfl, hR⟩ := hrel
          by_cases hlt : j < k
          · obtain ⟨qb, qo, hq, hcc⟩ := hR.out.2.2.at (by omega)
            simp only [Option.some.injEq, Addr.mk.injEq] at hq
            obtain ⟨rfl, rfl, -⟩ := hq
            have x1 := hcc j hlt
            rw [natsZ_at, Nat.zero_add] at x1
            obtain ⟨s, hs⟩ : ∃ s, K.getD j 0 = s := ⟨_, rfl⟩
            have HS := Lib.hid hs
            rw [hs] at x1
            have hsK : s ∈ K := by rw [← hs]; exact getD_mem (by rw [HKL.out]; exact hlt)
            have hsn := KM.out s hsK
            obtain ⟨i2, hi2, hsb⟩ := G10.out s hsK
            have CR := Lib.hid (dread_yes d (s : Int) i2 wr hR.out.2.1 (wfI_of (by omega) (by have := KN.out; omega)) hi2)
            unfold ReadD at CR
            rw [hsb] at CR
            obtain ⟨zs, hzs⟩ : ∃ zs, sliceS c.ks c.ws s = zs := ⟨_, rfl⟩
            obtain ⟨k2, hk2⟩ : ∃ k, zs.length = k := ⟨_, rfl⟩
            have hg : goodV zs = 0 := by rw [← hzs]; exact good_filter GG.out _
            have k60 : k2 ≤ 60 := by rw [← hk2]; exact (goodV_zero hg).1
            have hil := imgB_len hg
            have hD := decS_img hg
            have IB := Lib.hid (show ∀ b ∈ imgB (grS zs), b < 256 from imgB_lt _)
            have hII : imgC c s = imgB (grS zs) := by rw [← hzs]; rfl
            rw [hII] at CR
            obtain ⟨I2, hI2⟩ : ∃ I, imgB (grS zs) = I := ⟨_, rfl⟩
            obtain ⟨m2, hm2⟩ : ∃ m, I2.length = m := ⟨_, rfl⟩
            rw [hI2] at CR hil hD IB
            rw [hm2] at CR hil
            obtain ⟨m10, m52⟩ := hil
            have GOK := Lib.hid (grS_ok hg (fun t ht => by have := good_sizes hg t ht; omega))
            obtain ⟨st, hst⟩ : ∃ st, grS zs = st := ⟨_, rfl⟩
            have CD := Lib.hid (fun (w1 : World) a1 c1 (hb : Below w.heap.size w w1) (h : HoldsB w1 a1 m2 I2) (hc : m2 ≤ c1) => decode_yes a1 m2 c1 I2 zs st (w0 := w) w1 hb h hc (by omega) hD hst)
            have CW1 := Lib.hid (fun g S (w1 : World) (h : CtxG w w1 g st S) => gWords_c9 zs k2 (hst ▸ GOK.out) (by omega) hk2 w1 h)
            have CW2 := Lib.hid (fun (w1 : World) (hb : Below w.heap.size w w1) => CW.out w1 s k2 zs hsn hzs hk2 hb)
            have n1 : (0 : Int) ≤ (j : Int) := by omega
            have n2 : (j : Int) < (k : Int) := by omega
            clear hcc hs hsK hi2 hsb hzs hk2 hg hD hII hI2 hm2 GOK hst
            go_wp2_with fail
            with_reducible refine CR.out.mono ?_
            rintro e w5 ⟨a5, c5, rfl, o5, hc5, hb5⟩
            have R5 := Lib.hid (hR.out.below hb5)
            have CD1 := Lib.hid (CD.out w5 a5 c5 R5.out.1.1 (holdsB_of_values (owns_holds o5) IB.out) hc5)
            clear o5 hc5 hb5 CR CD hR x1
            go_wp2_with fail
            with_reducible refine CD1.out.mono ?_
            rintro e w6 ⟨g, S, rfl, CC, hb6⟩
            have R6 := Lib.hid (R5.out.below hb6)
            have x2 : w6.cell? ⟨q, j, none⟩ = some (.int .i64 (s : Int)) := by
              obtain ⟨qb, qo, hq, hcc⟩ := R6.out.2.2.at (by omega)
              simp only [Option.some.injEq, Addr.mk.injEq] at hq
              obtain ⟨rfl, rfl, -⟩ := hq
              have x1 := hcc j hlt
              rw [natsZ_at, Nat.zero_add] at x1
              rw [HS.out] at x1
              exact x1
            have SB := Lib.hid (show ((CtxG w w6 g st S) ∧ w6.cell? ⟨q, j, none⟩ = some (.int .i64 (s : Int))) ∧ w6.cell? ⟨p, 0, none⟩ = some (.slice c.wa c.wn c.wc) ∧ w6.cell? ⟨p, 1, none⟩ = some (.slice c.ka c.kn c.kc) ∧ w6.cell? ⟨p, 2, none⟩ = some (.int .i64 c.W) ∧ w6.cell? ⟨p, 3, none⟩ = some (.int .i64 c.C) ∧ w6.cell? ⟨p, 4, none⟩ = some (.int .i64 c.S) ∧ w6.cell? ⟨p, 5, none⟩ = some (.int .i64 c.B) ∧ w6.cell? ⟨p, 6, none⟩ = some (.int .i64 c.L) ∧ w6.cell? ⟨p, 7, none⟩ = some (.int .i64 c.H) ∧ w6.cell? ⟨p, 8, none⟩ = some (.int .i64 c.F) ∧ w6.cell? ⟨p, 9, none⟩ = some (.int .i64 c.P) ∧ w6.cell? ⟨p, 10, none⟩ = some (.int .i64 c.J) ∧ w6.cell? ⟨p, 11, none⟩ = some (.int .i64 c.N) from ⟨⟨CC, x2⟩, R6.out.1.2⟩)
            clear CC hb6 CD1 R5
            go_upto_region 23 with fail
            go_region_held3 (fun w' => ((CtxG w w' g st S) ∧ w'.cell? ⟨q, j, none⟩ = some (.int .i64 (s : Int))) ∧ w'.cell? ⟨p, 0, none⟩ = some (.slice c.wa c.wn c.wc) ∧ w'.cell? ⟨p, 1, none⟩ = some (.slice c.ka c.kn c.kc) ∧ w'.cell? ⟨p, 2, none⟩ = some (.int .i64 c.W) ∧ w'.cell? ⟨p, 3, none⟩ = some (.int .i64 c.C) ∧ w'.cell? ⟨p, 4, none⟩ = some (.int .i64 c.S) ∧ w'.cell? ⟨p, 5, none⟩ = some (.int .i64 c.B) ∧ w'.cell? ⟨p, 6, none⟩ = some (.int .i64 c.L) ∧ w'.cell? ⟨p, 7, none⟩ = some (.int .i64 c.H) ∧ w'.cell? ⟨p, 8, none⟩ = some (.int .i64 c.F) ∧ w'.cell? ⟨p, 9, none⟩ = some (.int .i64 c.P) ∧ w'.cell? ⟨p, 10, none⟩ = some (.int .i64 c.J) ∧ w'.cell? ⟨p, 11, none⟩ = some (.int .i64 c.N))
              (first | assumption | exact ⟨⟨SB.out.1.1.more (Below.refl _ _).drew, SB.out.1.2⟩, SB.out.2⟩ | exact dr_carry (by assumption) (by assumption))
              (first
                | (go_at_call 18; (with_reducible refine (CW1.out g S _ (And.left (And.left (by assumption)))).mono ?_); rintro e w' ⟨ga, gc, rfl, hga, hbg⟩)
                | (go_at_call 19; (with_reducible refine (CW2.out _ (CtxG.b (And.left (And.left (by assumption))))).mono ?_); rintro e w' ⟨pa, pc, rfl, ⟨hpa, hpa2⟩, hbp⟩)
                | (go_at_call 17; (with_reducible refine (sameT_yes9 ga pa k2 gc pc zs _ (by first | assumption | exact hga.below hbp) (by first | assumption | exact hpa.below hbg) (by omega)).mono ?_); rintro e w' ⟨rfl, hbs⟩)
                | fail)
            all_goals
              have R7 := Lib.hid (show RB w p c w3.heap.size d M n f2 q k K w' from by
                first
                  | exact RB.below (RB.below (RB.below (RB.below R6.out (Below.refl _ _).drew) hbg) hbp) hbs
                  | exact RB.below (RB.below (RB.below (RB.below R6.out (Below.refl _ _).drew) hbp) hbg) hbs)
              clear hga hbg hpa hpa2 hbp hbs SB R6 CW1 CW2
              go_wp2_with fail
              go_roundw
              case rel => exact ⟨j + 1, by omega, by go_num, R7⟩
              case measure => simp [intOf] <;> omega
          · obtain rfl : j = k := by omega
            have B5 := Lib.hid hR.out.1.1
            clear hR
            go_wp2_with fail
            refine (FIN.out _ B5.out).mono ?_
            rintro e w7 ⟨rfl, hb7⟩
            have B7 := Lib.hid hb7
            clear hb7
            go_wp2_with fail
            go_ret
            exact ⟨rfl, B7.out⟩
  · go_wp2_with fail
    refine (FIN.out _ B2.out).mono ?_
    rintro e w4 ⟨rfl, hb4⟩
    have B4 := Lib.hid hb4
    clear hb4
    go_wp2_with fail
    go_ret
    exact ⟨rfl, B4.out⟩
open Go.ChangeShapes Go.WideShapes Go.ChangeAt in
theorem diskRots_walk {H : Type} {enc : TypeId × Value → H} (W : World) (base : Nat) (v0 v1 v2 v3 v4 : Value) (d0 d1 d2 d3 d4 : DataW H) (p0 p1 p2 p3 p4 : List MemPlace)
    (h0 : DataW.Trod enc Try.prog W 0 (fun _ => true) true 25 v0 d0 p0) (h1 : DataW.Trod enc Try.prog W 0 (fun _ => true) true 3 v1 d1 p1) (h2 : DataW.Trod enc Try.prog W 0 (fun _ => true) true 3 v2 d2 p2) (h3 : DataW.Trod enc Try.prog W 0 (fun _ => true) true 3 v3 d3 p3) (h4 : DataW.Trod enc Try.prog W 0 (fun _ => true) true 3 v4 d4 p4)
    (o0 : Value.okWide Try.prog W .any base 25 v0) (o1 : Value.okWide Try.prog W .any base 3 v1) (o2 : Value.okWide Try.prog W .any base 3 v2) (o3 : Value.okWide Try.prog W .any base 3 v3) (o4 : Value.okWide Try.prog W .any base 3 v4) :
    Calls Try.prog 3 #[v0, v1, v2, v3, v4] W fun e w' => e = .returned (.bool true) ∧ RowKit.Below W.heap.size W w' := by
  obtain ⟨c, rfl, ok⟩ := open_cfg o0 h0
  obtain ⟨x1, rfl, rfl, rfl, b1⟩ := open_int Try.underlying3 o1 h1
  obtain ⟨x2, rfl, rfl, rfl, b2⟩ := open_int Try.underlying3 o2 h2
  obtain ⟨x3, rfl, rfl, rfl, b3⟩ := open_int Try.underlying3 o3 h3
  obtain ⟨x4, rfl, rfl, rfl, b4⟩ := open_int Try.underlying3 o4 h4
  exact diskRots_any c x1 x2 x3 x4 W ok
end Go.Proofs.Ytbbholdadgjelaa
