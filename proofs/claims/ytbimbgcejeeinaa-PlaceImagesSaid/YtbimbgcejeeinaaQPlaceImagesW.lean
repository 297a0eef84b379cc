/- place: the law of images -/
import Derived.Test.YtbimbgcejeeinaaPkF
import Derived.Test.YtbimbgcejeeinaaPkC
import Derived.Deep.QuietTactic
import Derived.BigQuiet
namespace Go.Proofs.Ytbimbgcejeeinaa
open Go.RowKit
set_option linter.unusedVariables false
set_option maxRecDepth 20000
def BWC (w0 : World) (p : Nat) (c : Cfg) (w : World) : Prop := Below w0.heap.size w0 w ∧ CfgIn w p c
theorem si_carry {w0 w w' : World} {p g : Nat} {c : Cfg} {st : List GN} {S : Nat → Prop} (h : (CtxG w0 w g st S) ∧ CfgIn w p c) (hb : Below w.heap.size w w') : (CtxG w0 w' g st S) ∧ CfgIn w' p c :=
  ⟨h.1.more hb, h.2.below hb⟩
theorem sj_carry {w0 w w' : World} {p : Nat} {c : Cfg} (h : Below w0.heap.size w0 w ∧ CfgIn w p c) (hb : Below w.heap.size w w') : Below w0.heap.size w0 w' ∧ CfgIn w' p c :=
  ⟨h.1.trans (hb.mono h.1.size), h.2.below hb⟩
set_option maxHeartbeats 12800000 in
set_option maxRecDepth 100000 in
theorem placeImages_any (c : Cfg) (w : World) (h : CfgOk w c) :
    Calls Try.prog 6 #[.agg #[.slice c.wa c.wn c.wc, .slice c.ka c.kn c.kc, .int .i64 c.W, .int .i64 c.C, .int .i64 c.S, .int .i64 c.B, .int .i64 c.L, .int .i64 c.H, .int .i64 c.F, .int .i64 c.P, .int .i64 c.J, .int .i64 c.N]] w fun e w' => e = .returned (.bool true) ∧ Below w.heap.size w w' := by
  have BX := Lib.hid (below_one w (.cells #[.slice c.wa c.wn c.wc, .slice c.ka c.kn c.kc, .int .i64 c.W, .int .i64 c.C, .int .i64 c.S, .int .i64 c.B, .int .i64 c.L, .int .i64 c.H, .int .i64 c.F, .int .i64 c.P, .int .i64 c.J, .int .i64 c.N] 25))
  have IN := Lib.hid (cfgIn_new w c w.heap.size 25 (0, 0) rfl)
  have OK := Lib.hid h
  have CG := Lib.hid (greatC_any c _ (h.below BX.out))
  clear h
  go_enter Try.func6, Try.ntmps6
  go_upto_region 1 with fail
  generalize w.alloc (.cells #[.slice c.wa c.wn c.wc, .slice c.ka c.kn c.kc, .int .i64 c.W, .int .i64 c.C, .int .i64 c.S, .int .i64 c.B, .int .i64 c.L, .int .i64 c.H, .int .i64 c.F, .int .i64 c.P, .int .i64 c.J, .int .i64 c.N] 25) = w1 at *
  obtain ⟨p, hp⟩ : ∃ p, w.heap.size = p := ⟨_, rfl⟩
  have HP := Lib.hid hp
  rw [hp] at IN
  rw [hp]
  clear hp
  have hI := IN.out
  unfold CfgIn at hI
  obtain ⟨i0, i1, i2, i3, i4, i5, i6, i7, i8, i9, i10, i11⟩ := hI
  go_wp2_with fail
  refine CG.out.mono ?_
  rintro e w2 ⟨z, rfl, hb2⟩
  have B2 := Lib.hid (BX.out.trans (hb2.mono BX.out.size))
  have I2 := Lib.hid (IN.out.below hb2)
  clear hb2 CG i0 i1 i2 i3 i4 i5 i6 i7 i8 i9 i10 i11
  have hI := I2.out
  unfold CfgIn at hI
  obtain ⟨i0, i1, i2, i3, i4, i5, i6, i7, i8, i9, i10, i11⟩ := hI
  have FIN := Lib.hid (fun w3 (hb3 : Below w.heap.size w w3) => (awakePl_any w3).mono (fun e w4 (h : _ ∧ _) => (show e = .returned (.bool true) ∧ Below w.heap.size w w4 from ⟨h.1, hb3.trans (h.2.mono hb3.size)⟩)))
  cases z
  · obtain ⟨zm, hzm⟩ : ∃ zm, c.may = zm := ⟨_, rfl⟩
    have CM := Lib.hid (may_cfg c zm w2 (OK.out.below B2.out) hzm)
    have HZ := Lib.hid hzm
    clear hzm
    go_wp2_with fail
    refine CM.out.mono ?_
    rintro e w3 ⟨rfl, hb3⟩
    have B3 := Lib.hid (B2.out.trans (hb3.mono B2.out.size))
    have I3 := Lib.hid (I2.out.below hb3)
    clear hb3 CM i0 i1 i2 i3 i4 i5 i6 i7 i8 i9 i10 i11
    cases zm
    · go_wp2_with fail
      refine (FIN.out _ B3.out).mono ?_
      rintro e w4 ⟨rfl, hb4⟩
      have B4 := Lib.hid hb4
      clear hb4
      go_wp2_with fail
      go_ret
      exact ⟨rfl, B4.out⟩
    · have hmp := may_parts HZ.out
      have ZT := Lib.hid (goodV_zero hmp.1)
      have hkn := may_kn HZ.out OK.out
      have hkl := OK.out.2.2.2.2.2.1.len
      have hwl := OK.out.1.len
      have HG := Lib.hid hmp.1
      obtain ⟨n, hn⟩ : ∃ n, c.kn + 1 = n := ⟨_, rfl⟩
      have HN := Lib.hid hn
      have hn6 : n ≤ 6 := by omega
      have CS := Lib.hid (fun w' (hb : Below w.heap.size w w') => (show Calls Try.prog 16 #[.agg #[.slice c.wa c.wn c.wc, .slice c.ka c.kn c.kc, .int .i64 c.W, .int .i64 c.C, .int .i64 c.S, .int .i64 c.B, .int .i64 c.L, .int .i64 c.H, .int .i64 c.F, .int .i64 c.P, .int .i64 c.J, .int .i64 c.N]] w' (fun e w'' => e = .returned (.int .i64 (n : Int)) ∧ Below w'.heap.size w' w'') from hn ▸ shards_any c w' (OK.out.below hb) HZ.out))
      have CI := Lib.hid (fun w' (s m : Nat) (zs : List Tx) (I : List Nat) (hs : s < n) (hz : sliceS c.ks c.ws s = zs) (hI : imgB (grS zs) = I) (hl : I.length = m) (hb : Below w.heap.size w w') => image_in c s zs I m w' (OK.out.below hb) HZ.out (by omega) hz hI hl)
      have CX := Lib.hid (fun w' (hb : Below w.heap.size w w') => image_out c (n : Int) w' (OK.out.below hb) HZ.out (by omega))
      have CW := Lib.hid (fun w' (s k : Nat) (zs : List Tx) (hs : s < n) (hz : sliceS c.ks c.ws s = zs) (hk : zs.length = k) (hb : Below w.heap.size w w') => pwords_any c s k zs w' (OK.out.below hb) HZ.out (by omega) hz hk)
      have KS := Lib.hid (show c.ks.length + 1 = n from by omega)
      have WL := Lib.hid hwl
      have w60 : c.wn ≤ 60 := by have := ZT.out.1; omega
      clear hn hkn hkl hwl FIN hmp
      go_wp2_with fail
      go_loopw [3, 4] (fun nv sv wr => ∃ (s m : Nat), s ≤ n ∧ sv = .int .i64 s ∧ nv = .int .i64 m ∧ m ≤ 60 ∧ Hid ((belowS c.ks c.ws s).length = m) ∧ Hid (BWC w p c wr)) (fun _ sv _ => n - (intOf sv).toNat)
      case atStart => exact ⟨0, 0, by omega, rfl, rfl, by omega, Lib.hid (by rw [pwhole_zero ZT.out.2.1]; rfl), Lib.hid ⟨B3.out, I3.out⟩⟩
      case round =>
        obtain ⟨s, m, hs, rfl, rfl, hm, hL, hB⟩ := hrel
        have hI := hB.out.2
        unfold CfgIn at hI
        obtain ⟨i0, i1, i2, i3, i4, i5, i6, i7, i8, i9, i10, i11⟩ := hI
        have CS1 := Lib.hid (CS.out wr hB.out.1)
        go_wp2_with fail
        refine CS1.out.mono ?_
        rintro e w4 ⟨rfl, hb4⟩
        have B4 := Lib.hid (spc_carry (w0 := w) (p := p) (c := c) ⟨hB.out.1, hB.out.2⟩ hb4)
        clear hb4 hB CS1 i0 i1 i2 i3 i4 i5 i6 i7 i8 i9 i10 i11
        have hI := B4.out.2
        unfold CfgIn at hI
        obtain ⟨i0, i1, i2, i3, i4, i5, i6, i7, i8, i9, i10, i11⟩ := hI
        by_cases hlt : s < n
        · have d1 : decide ((s : Int) < (n : Int)) = true := decide_eq_true (by omega)
          obtain ⟨zs, hzs⟩ : ∃ zs, sliceS c.ks c.ws s = zs := ⟨_, rfl⟩
          obtain ⟨k, hk⟩ : ∃ k, zs.length = k := ⟨_, rfl⟩
          have hg : goodV zs = 0 := by rw [← hzs]; exact good_filter HG.out _
          have k60 : k ≤ 60 := by rw [← hk]; exact (goodV_zero hg).1
          obtain ⟨I, hII⟩ : ∃ I, imgB (grS zs) = I := ⟨_, rfl⟩
          obtain ⟨m2, hm2⟩ : ∃ m, I.length = m := ⟨_, rfl⟩
          have hil := imgB_len hg
          rw [hII, hm2] at hil
          obtain ⟨m10, m52⟩ := hil
          have hD := decS_img hg
          rw [hII] at hD
          have GOK := Lib.hid (grS_ok hg (fun t ht => by have := good_sizes hg t ht; omega))
          obtain ⟨st, hst⟩ : ∃ st, grS zs = st := ⟨_, rfl⟩
          have hnx := pwhole_len c.ks s c.ws
          have m60 : m + k ≤ 60 := by
            have h1 : (belowS c.ks c.ws (s + 1)).length ≤ c.ws.length := List.length_filter_le _ _
            have h2 := ZT.out.1
            rw [hnx, hL.out, hzs, hk] at h1
            omega
          have NX := Lib.hid (show (belowS c.ks c.ws (s + 1)).length = m + k from by rw [hnx, hL.out, hzs, hk])
          have CI1 := Lib.hid (CI.out w4 s m2 zs I hlt hzs hII hm2 B4.out.1)
          have CD := Lib.hid (fun (w1 : World) a1 c1 (hb : Below w.heap.size w w1) (h : HoldsB w1 a1 m2 I) (hc : m2 ≤ c1) => decode_yes a1 m2 c1 I zs st (w0 := w) w1 hb h hc (by omega) hD hst)
          have CW1 := Lib.hid (fun g S (w1 : World) (h : CtxG w w1 g st S) => gWords_c9 zs k (hst ▸ GOK.out) (by omega) hk w1 h)
          have CW2 := Lib.hid (fun (w1 : World) (hb : Below w.heap.size w w1) => CW.out w1 s k zs hlt hzs hk hb)
          clear hzs hk hg hII hm2 hD hst hnx GOK
          go_wp2_with fail
          with_reducible refine CI1.out.mono ?_
          rintro e w5 ⟨a5, c5, rfl, -, h5, hc5, hb5⟩
          have B5 := Lib.hid (spc_carry B4.out hb5)
          have CD1 := Lib.hid (CD.out w5 a5 c5 B5.out.1 h5 hc5)
          clear h5 hc5 hb5 CI1 CD B4 i0 i1 i2 i3 i4 i5 i6 i7 i8 i9 i10 i11
          go_wp2_with fail
          with_reducible refine CD1.out.mono ?_
          rintro e w6 ⟨g, S, rfl, C, hb6⟩
          have B6 := Lib.hid (spc_carry B5.out hb6)
          have C6 := Lib.hid C
          have SB := Lib.hid (show (CtxG w w6 g st S) ∧ w6.cell? ⟨p, 0, none⟩ = some (.slice c.wa c.wn c.wc) ∧ w6.cell? ⟨p, 1, none⟩ = some (.slice c.ka c.kn c.kc) ∧ w6.cell? ⟨p, 2, none⟩ = some (.int .i64 c.W) ∧ w6.cell? ⟨p, 3, none⟩ = some (.int .i64 c.C) ∧ w6.cell? ⟨p, 4, none⟩ = some (.int .i64 c.S) ∧ w6.cell? ⟨p, 5, none⟩ = some (.int .i64 c.B) ∧ w6.cell? ⟨p, 6, none⟩ = some (.int .i64 c.L) ∧ w6.cell? ⟨p, 7, none⟩ = some (.int .i64 c.H) ∧ w6.cell? ⟨p, 8, none⟩ = some (.int .i64 c.F) ∧ w6.cell? ⟨p, 9, none⟩ = some (.int .i64 c.P) ∧ w6.cell? ⟨p, 10, none⟩ = some (.int .i64 c.J) ∧ w6.cell? ⟨p, 11, none⟩ = some (.int .i64 c.N) from ⟨C, B6.out.2⟩)
          clear C hb6 CD1 B5
          go_upto_region 10 with fail
          go_region_held3 (fun w' => (CtxG w w' g st S) ∧ w'.cell? ⟨p, 0, none⟩ = some (.slice c.wa c.wn c.wc) ∧ w'.cell? ⟨p, 1, none⟩ = some (.slice c.ka c.kn c.kc) ∧ w'.cell? ⟨p, 2, none⟩ = some (.int .i64 c.W) ∧ w'.cell? ⟨p, 3, none⟩ = some (.int .i64 c.C) ∧ w'.cell? ⟨p, 4, none⟩ = some (.int .i64 c.S) ∧ w'.cell? ⟨p, 5, none⟩ = some (.int .i64 c.B) ∧ w'.cell? ⟨p, 6, none⟩ = some (.int .i64 c.L) ∧ w'.cell? ⟨p, 7, none⟩ = some (.int .i64 c.H) ∧ w'.cell? ⟨p, 8, none⟩ = some (.int .i64 c.F) ∧ w'.cell? ⟨p, 9, none⟩ = some (.int .i64 c.P) ∧ w'.cell? ⟨p, 10, none⟩ = some (.int .i64 c.J) ∧ w'.cell? ⟨p, 11, none⟩ = some (.int .i64 c.N))
            (first | assumption | exact ⟨SB.out.1.more (Below.refl _ _).drew, SB.out.2⟩ | exact si_carry (by assumption) (by assumption))
            (first
              | (go_at_call 31; (with_reducible refine (CW1.out g S _ (And.left (by assumption))).mono ?_); rintro e w' ⟨ga, gc, rfl, hga, hbg⟩)
              | (go_at_call 11; (with_reducible refine (CW2.out _ (CtxG.b (And.left (by assumption)))).mono ?_); rintro e w' ⟨pa, pc, rfl, ⟨hpa, hpa2⟩, hbp⟩)
              | (go_at_call 21; (with_reducible refine (sameT_yes9 ga pa k gc pc zs _ (by first | assumption | exact hga.below hbp) (by first | assumption | exact hpa.below hbg) (by omega)).mono ?_); rintro e w' ⟨rfl, hbs⟩)
              | fail)
          all_goals
            have B7 := Lib.hid (show SpC w p c w' from by
              first
                | exact spc_carry (spc_carry (spc_carry (spc_carry B6.out (Below.refl _ _).drew) hbg) hbp) hbs
                | exact spc_carry (spc_carry (spc_carry (spc_carry B6.out (Below.refl _ _).drew) hbp) hbg) hbs)
            have CW7 := Lib.hid (CW2.out w' B7.out.1)
            clear hga hbg hpa hpa2 hbp hbs SB C6 B6 CW1 CW2
            have hI := B7.out.2
            unfold CfgIn at hI
            obtain ⟨i0, i1, i2, i3, i4, i5, i6, i7, i8, i9, i10, i11⟩ := hI
            go_wp2_with fail
            with_reducible refine CW7.out.mono ?_
            rintro e w8 ⟨qa, qc, rfl, -, hb8⟩
            have B8 := Lib.hid (spc_carry B7.out hb8)
            clear hb8 CW7 i0 i1 i2 i3 i4 i5 i6 i7 i8 i9 i10 i11
            go_wp2_with fail
            go_roundw
            case rel => exact ⟨s + 1, m + k, by omega, by go_num, by go_num, m60, NX, Lib.hid ⟨B8.out.1, B8.out.2⟩⟩
            case measure => simp [intOf] <;> omega
        · obtain rfl : s = n := by omega
          have d1 : decide ((s : Int) < (s : Int)) = false := decide_eq_false (by omega)
          have hmw : m = c.wn := by
            have h1 := hL.out
            rw [← KS.out, pwhole_all ZT.out.2.1] at h1
            have := WL.out
            omega
          have e5 : ((m : Int) == (c.wn : Int)) = true := by rw [beq_iff_eq, hmw]
          clear hmw
          have SB := Lib.hid (show Below w.heap.size w w4 ∧ w4.cell? ⟨p, 0, none⟩ = some (.slice c.wa c.wn c.wc) ∧ w4.cell? ⟨p, 1, none⟩ = some (.slice c.ka c.kn c.kc) ∧ w4.cell? ⟨p, 2, none⟩ = some (.int .i64 c.W) ∧ w4.cell? ⟨p, 3, none⟩ = some (.int .i64 c.C) ∧ w4.cell? ⟨p, 4, none⟩ = some (.int .i64 c.S) ∧ w4.cell? ⟨p, 5, none⟩ = some (.int .i64 c.B) ∧ w4.cell? ⟨p, 6, none⟩ = some (.int .i64 c.L) ∧ w4.cell? ⟨p, 7, none⟩ = some (.int .i64 c.H) ∧ w4.cell? ⟨p, 8, none⟩ = some (.int .i64 c.F) ∧ w4.cell? ⟨p, 9, none⟩ = some (.int .i64 c.P) ∧ w4.cell? ⟨p, 10, none⟩ = some (.int .i64 c.J) ∧ w4.cell? ⟨p, 11, none⟩ = some (.int .i64 c.N) from ⟨B4.out.1, B4.out.2⟩)
          go_upto_region 12 with fail
          clear i0 i1 i2 i3 i4 i5 i6 i7 i8 i9 i10 i11
          go_region_held3 (fun w' => Below w.heap.size w w' ∧ w'.cell? ⟨p, 0, none⟩ = some (.slice c.wa c.wn c.wc) ∧ w'.cell? ⟨p, 1, none⟩ = some (.slice c.ka c.kn c.kc) ∧ w'.cell? ⟨p, 2, none⟩ = some (.int .i64 c.W) ∧ w'.cell? ⟨p, 3, none⟩ = some (.int .i64 c.C) ∧ w'.cell? ⟨p, 4, none⟩ = some (.int .i64 c.S) ∧ w'.cell? ⟨p, 5, none⟩ = some (.int .i64 c.B) ∧ w'.cell? ⟨p, 6, none⟩ = some (.int .i64 c.L) ∧ w'.cell? ⟨p, 7, none⟩ = some (.int .i64 c.H) ∧ w'.cell? ⟨p, 8, none⟩ = some (.int .i64 c.F) ∧ w'.cell? ⟨p, 9, none⟩ = some (.int .i64 c.P) ∧ w'.cell? ⟨p, 10, none⟩ = some (.int .i64 c.J) ∧ w'.cell? ⟨p, 11, none⟩ = some (.int .i64 c.N))
            (first | assumption | exact ⟨SB.out.1.drew, SB.out.2⟩ | exact sj_carry (by assumption) (by assumption))
            (first
              | (go_at_call 16; (with_reducible refine (CS.out _ (And.left (by assumption))).mono ?_); rintro e w' ⟨rfl, hbg⟩)
              | (go_at_call 12; (with_reducible refine (CX.out _ (And.left (by assumption))).mono ?_); rintro e w7 ⟨rfl, hbp⟩)
              | fail)
          all_goals
            have B7 := Lib.hid (show SpC w p c w7 from by
              first
                | exact spc_carry (spc_carry (spc_carry B4.out (Below.refl _ _).drew) hbg) hbp
                | exact spc_carry (spc_carry (spc_carry B4.out (Below.refl _ _).drew) hbp) hbg)
            clear hbg hbp SB B4
            have hI := B7.out.2
            unfold CfgIn at hI
            obtain ⟨i0, i1, i2, i3, i4, i5, i6, i7, i8, i9, i10, i11⟩ := hI
            go_wp2_with fail
            refine (awakePl_any _).mono ?_
            rintro e w8 ⟨rfl, hb8⟩
            have B8 := Lib.hid (B7.out.1.trans (hb8.mono B7.out.1.size))
            clear hb8
            go_wp2_with fail
            go_ret
            exact ⟨rfl, B8.out⟩
  · go_wp2_with fail
    refine (FIN.out _ B2.out).mono ?_
    rintro e w4 ⟨rfl, hb4⟩
    have B4 := Lib.hid hb4
    clear hb4
    go_wp2_with fail
    go_ret
    exact ⟨rfl, B4.out⟩
open Go.ChangeShapes Go.WideShapes Go.ChangeAt in
theorem placeImages_walk {H : Type} {enc : TypeId × Value → H} (W : World) (base : Nat) (v0 : Value) (d0 : DataW H) (p0 : List MemPlace)
    (h0 : DataW.Trod enc Try.prog W 0 (fun _ => true) true 25 v0 d0 p0) (o0 : Value.okWide Try.prog W .any base 25 v0) :
    Calls Try.prog 6 #[v0] W fun e w' => e = .returned (.bool true) ∧ RowKit.Below W.heap.size W w' := by
  obtain ⟨c, rfl, ok⟩ := open_cfg o0 h0
  exact placeImages_any c W ok
end Go.Proofs.Ytbimbgcejeeinaa
