/- place: the law of who keeps a shard -/
import Derived.Test.YtbimbgcejeeinaaPkC
import Derived.Deep.QuietTactic
import Derived.BigQuiet
namespace Go.Proofs.Ytbimbgcejeeinaa
open Go.RowKit
set_option linter.unusedVariables false
set_option maxRecDepth 20000
def BWC (w0 : World) (p : Nat) (c : Cfg) (w : World) : Prop := Below w0.heap.size w0 w ∧ CfgIn w p c
theorem s13_carry {w0 w5 w w' : World} {p b o : Nat} {c : Cfg} {v : Value} (h : (Below w0.heap.size w0 w ∧ Below w5.heap.size w5 w ∧ w.cell? ⟨b, o, none⟩ = some v) ∧ CfgIn w p c) (hb : Below w.heap.size w w') : (Below w0.heap.size w0 w' ∧ Below w5.heap.size w5 w' ∧ w'.cell? ⟨b, o, none⟩ = some v) ∧ CfgIn w' p c :=
  ⟨⟨h.1.1.trans (hb.mono h.1.1.size), h.1.2.1.trans (hb.mono h.1.2.1.size), (hb.cell (p := ⟨b, o, none⟩) (lt_of_cell h.1.2.2)).trans h.1.2.2⟩, h.2.below hb⟩
theorem s14_carry {w0 w5 w w' : World} {p : Nat} {c : Cfg} (h : (Below w0.heap.size w0 w ∧ Below w5.heap.size w5 w) ∧ CfgIn w p c) (hb : Below w.heap.size w w') : (Below w0.heap.size w0 w' ∧ Below w5.heap.size w5 w') ∧ CfgIn w' p c :=
  ⟨⟨h.1.1.trans (hb.mono h.1.1.size), h.1.2.trans (hb.mono h.1.2.size)⟩, h.2.below hb⟩
set_option maxHeartbeats 12800000 in
set_option maxRecDepth 100000 in
theorem placeCopies_any (c : Cfg) (w : World) (h : CfgOk w c) :
    Calls Try.prog 4 #[.agg #[.slice c.wa c.wn c.wc, .slice c.ka c.kn c.kc, .int .i64 c.W, .int .i64 c.C, .int .i64 c.S, .int .i64 c.B, .int .i64 c.L, .int .i64 c.H, .int .i64 c.F, .int .i64 c.P, .int .i64 c.J, .int .i64 c.N]] w fun e w' => e = .returned (.bool true) ∧ Below w.heap.size w w' := by
  have BX := Lib.hid (below_one w (.cells #[.slice c.wa c.wn c.wc, .slice c.ka c.kn c.kc, .int .i64 c.W, .int .i64 c.C, .int .i64 c.S, .int .i64 c.B, .int .i64 c.L, .int .i64 c.H, .int .i64 c.F, .int .i64 c.P, .int .i64 c.J, .int .i64 c.N] 25))
  have IN := Lib.hid (cfgIn_new w c w.heap.size 25 (0, 0) rfl)
  have OK := Lib.hid h
  have CG := Lib.hid (greatC_any c _ (h.below BX.out))
  clear h
  go_enter Try.func4, Try.ntmps4
  go_upto_region 1 with fail
  generalize w.alloc (.cells #[.slice c.wa c.wn c.wc, .slice c.ka c.kn c.kc, .int .i64 c.W, .int .i64 c.C, .int .i64 c.S, .int .i64 c.B, .int .i64 c.L, .int .i64 c.H, .int .i64 c.F, .int .i64 c.P, .int .i64 c.J, .int .i64 c.N] 25) = w1 at *
  obtain ⟨p, hp⟩ : ∃ p, w.heap.size = p := ⟨_, rfl⟩
  have HP := Lib.hid hp
  rw [hp] at IN
  rw [hp]
  clear hp
  have hI := IN.out
  unfold CfgIn at hI
  obtain ⟨i0, i1, i2, i3, i4, i5, i6, i7, i8, i9, i10, i11⟩ := hI
  go_wp2_with fail
  refine CG.out.mono ?_
  rintro e w2 ⟨z, rfl, hb2⟩
  have B2 := Lib.hid (BX.out.trans (hb2.mono BX.out.size))
  have I2 := Lib.hid (IN.out.below hb2)
  clear hb2 CG i0 i1 i2 i3 i4 i5 i6 i7 i8 i9 i10 i11
  have hI := I2.out
  unfold CfgIn at hI
  obtain ⟨i0, i1, i2, i3, i4, i5, i6, i7, i8, i9, i10, i11⟩ := hI
  have FIN := Lib.hid (fun w3 (hb3 : Below w.heap.size w w3) => (awakePl_any w3).mono (fun e w4 (h : _ ∧ _) => (show e = .returned (.bool true) ∧ Below w.heap.size w w4 from ⟨h.1, hb3.trans (h.2.mono hb3.size)⟩)))
  cases z
  · obtain ⟨zm, hzm⟩ : ∃ zm, c.may = zm := ⟨_, rfl⟩
    have CM := Lib.hid (may_cfg c zm w2 (OK.out.below B2.out) hzm)
    have HZ := Lib.hid hzm
    clear hzm
    go_wp2_with fail
    refine CM.out.mono ?_
    rintro e w3 ⟨rfl, hb3⟩
    have B3 := Lib.hid (B2.out.trans (hb3.mono B2.out.size))
    have I3 := Lib.hid (I2.out.below hb3)
    clear hb3 CM i0 i1 i2 i3 i4 i5 i6 i7 i8 i9 i10 i11
    cases zm
    · go_wp2_with fail
      refine (FIN.out _ B3.out).mono ?_
      rintro e w4 ⟨rfl, hb4⟩
      have B4 := Lib.hid hb4
      clear hb4
      go_wp2_with fail
      go_ret
      exact ⟨rfl, B4.out⟩
    · have hmp := may_parts HZ.out
      have ZT := Lib.hid (goodV_zero hmp.1)
      obtain ⟨-, -, hw, hc, -⟩ := hmp
      obtain ⟨W, hW⟩ : ∃ W : Nat, c.W = (W : Int) := ⟨c.W.toNat, by omega⟩
      obtain ⟨C, hC⟩ : ∃ C : Nat, c.C = (C : Int) := ⟨c.C.toNat, by omega⟩
      have hkn := may_kn HZ.out OK.out
      have hkl := OK.out.2.2.2.2.2.1.len
      have hwl := OK.out.1.len
      obtain ⟨n, hn⟩ : ∃ n, c.kn + 1 = n := ⟨_, rfl⟩
      rw [hW] at hw
      rw [hC, hW] at hc
      have HW := Lib.hid hW; have HC := Lib.hid hC; have HN := Lib.hid hn
      have hW1 : 1 ≤ W := by omega
      have hW5 : W ≤ 5 := by omega
      have hn6 : n ≤ 6 := by omega
      have hC3 : C ≤ 3 := by omega
      have hC1 : 1 ≤ C := by omega
      have hCW : C ≤ W := by omega
      have CK := Lib.hid (fun w' (y : Int) (hb : Below w.heap.size w w') => (show Calls Try.prog 10 #[.agg #[.slice c.wa c.wn c.wc, .slice c.ka c.kn c.kc, .int .i64 c.W, .int .i64 c.C, .int .i64 c.S, .int .i64 c.B, .int .i64 c.L, .int .i64 c.H, .int .i64 c.F, .int .i64 c.P, .int .i64 c.J, .int .i64 c.N], .int .i64 y] w' (RetZ w' (natsZ (Pl.keep W C n y))) from hn ▸ keeps_any c y W C w' (OK.out.below hb) HZ.out hW hC))
      have CS := Lib.hid (fun w' (hb : Below w.heap.size w w') => (show Calls Try.prog 16 #[.agg #[.slice c.wa c.wn c.wc, .slice c.ka c.kn c.kc, .int .i64 c.W, .int .i64 c.C, .int .i64 c.S, .int .i64 c.B, .int .i64 c.L, .int .i64 c.H, .int .i64 c.F, .int .i64 c.P, .int .i64 c.J, .int .i64 c.N]] w' (fun e w'' => e = .returned (.int .i64 (n : Int)) ∧ Below w'.heap.size w' w'') from hn ▸ shards_any c w' (OK.out.below hb) HZ.out))
      have CC := Lib.hid (fun w' (s : Nat) (hs : s < n) (hb : Below w.heap.size w w') => (show Calls Try.prog 9 #[.agg #[.slice c.wa c.wn c.wc, .slice c.ka c.kn c.kc, .int .i64 c.W, .int .i64 c.C, .int .i64 c.S, .int .i64 c.B, .int .i64 c.L, .int .i64 c.H, .int .i64 c.F, .int .i64 c.P, .int .i64 c.J, .int .i64 c.N], .int .i64 (s : Int)] w' (RetZ w' (Pl.cop W C s)) from copies_in c s W C w' (OK.out.below hb) HZ.out (by omega) hW hC))
      have CW := Lib.hid (fun w' (s k : Nat) (zs : List Tx) (hs : s < n) (hz : sliceS c.ks c.ws s = zs) (hk : zs.length = k) (hb : Below w.heap.size w w') => pwords_any c s k zs w' (OK.out.below hb) HZ.out (by omega) hz hk)
      have KS := Lib.hid (show c.ks.length + 1 = n from by omega)
      have WL := Lib.hid hwl
      clear hw hc hW hC hn hkn hkl hwl FIN
      go_wp2_with fail
      go_loopw [4, 5] (fun av sv wr => ∃ (s m cc : Nat) (q : Option Addr), s ≤ n ∧ sv = .int .i64 s ∧ av = .slice q m cc ∧ m ≤ 60 ∧ Hid ((belowS c.ks c.ws s).length = m) ∧ Hid (LstP wr q m cc (belowS c.ks c.ws s)) ∧ Hid (BWC w p c wr)) (fun _ sv _ => n - (intOf sv).toNat)
      case atStart => exact ⟨0, 0, 0, none, by omega, rfl, rfl, by omega, Lib.hid (by rw [pwhole_zero ZT.out.2.1]; rfl), Lib.hid (by rw [pwhole_zero ZT.out.2.1]; exact ⟨HoldsT.nil _ _, fun _ => ⟨rfl, rfl⟩, by omega⟩), Lib.hid ⟨B3.out, I3.out⟩⟩
      case round =>
        obtain ⟨s, m, cc, q, hs, rfl, rfl, hm, hL, HA, hB⟩ := hrel
        have hI := hB.out.2
        unfold CfgIn at hI
        obtain ⟨i0, i1, i2, i3, i4, i5, i6, i7, i8, i9, i10, i11⟩ := hI
        have CS1 := Lib.hid (CS.out wr hB.out.1)
        go_wp2_with fail
        refine CS1.out.mono ?_
        rintro e w4 ⟨rfl, hb4⟩
        have A4 := Lib.hid (HA.out.below hb4)
        have B4 := Lib.hid (spc_carry (w0 := w) (p := p) (c := c) ⟨hB.out.1, hB.out.2⟩ hb4)
        clear hb4 HA hB CS1 i0 i1 i2 i3 i4 i5 i6 i7 i8 i9 i10 i11
        have hI := B4.out.2
        unfold CfgIn at hI
        obtain ⟨i0, i1, i2, i3, i4, i5, i6, i7, i8, i9, i10, i11⟩ := hI
        by_cases hlt : s < n
        · have d1 : decide ((s : Int) < (n : Int)) = true := decide_eq_true (by omega)
          have CC1 := Lib.hid (CC.out w4 s hlt B4.out.1)
          obtain ⟨L, hLL⟩ : ∃ L, Pl.cop W C s = L := ⟨_, rfl⟩
          have hlen : L.length = C := by rw [← hLL, Pl.cop_len]
          have LA := Lib.hid (show ∀ i, i < C → 1 ≤ L.getD i 0 ∧ L.getD i 0 ≤ (W : Int) from fun i hi => Pl.cop_bd hW1 (s := s) (C := C) (by rw [← hLL]; rw [List.getD_eq_getElem?_getD, List.getElem?_eq_getElem (by rw [Pl.cop_len]; exact hi)]; exact List.getElem_mem _))
          have LN := Lib.hid (show ∀ i j, i < C → j < i → L.getD i 0 ≠ L.getD j 0 from fun i j hi hj => by rw [← hLL]; exact Pl.cop_ne hW5 (by omega) hi hCW (by omega) hj)
          rw [hLL] at CC1
          clear hLL
          go_wp2_with fail
          refine CC1.out.mono ?_
          rw [show RetZ w4 L = fun e w' => ∃ a c, e = .returned (.slice a L.length c) ∧ w'.ownsRow w4.heap.size 3 1 (.slice a L.length c) L.length (numsV L) ∧ Below w4.heap.size w4 w' from rfl, hlen]
          rintro e w5 ⟨la, lc, rfl, hown, hb5⟩
          have H5 := Lib.hid (holdsI_own hown)
          have A5 := Lib.hid (A4.out.below hb5)
          have B5 := Lib.hid (spc_carry B4.out hb5)
          have e1 : ((C : Int) != c.C) = false := by rw [HC.out]; simp
          clear hown hb5 CC1 A4 B4 i0 i1 i2 i3 i4 i5 i6 i7 i8 i9 i10 i11
          have hI := B5.out.2
          unfold CfgIn at hI
          obtain ⟨i0, i1, i2, i3, i4, i5, i6, i7, i8, i9, i10, i11⟩ := hI
          go_wp2_with fail
          clear i0 i1 i2 i3 i4 i5 i6 i7 i8 i9 i10 i11
          go_loopw [7] (fun iv wi => ∃ i : Nat, i ≤ C ∧ iv = .int .i64 i ∧ Hid (Below w5.heap.size w5 wi)) (fun iv _ => C - (intOf iv).toNat)
          case atStart => exact ⟨0, by omega, rfl, Lib.hid (Below.refl _ _)⟩
          case round =>
            obtain ⟨i, hi2, rfl, hB2⟩ := hrel
            by_cases hlt2 : i < C
            · obtain ⟨bb, o, rfl, hcl⟩ := (H5.out.below hB2.out).at (by omega)
              have hI := B5.out.2.below hB2.out
              unfold CfgIn at hI
              obtain ⟨-, -, i2, -⟩ := hI
              have d2 : decide ((i : Int) < (C : Int)) = true := decide_eq_true (by omega)
              have x0 := hcl i hlt2
              have hx := LA.out i hlt2
              have BW2 := Lib.hid (fun m => hB2.out.trans ((below_drewN wr m).mono hB2.out.size))
              obtain ⟨y, hy⟩ : ∃ y, L.getD i 0 = y := ⟨_, rfl⟩
              have ln0 := fun j hj => LN.out i j hlt2 hj
              rw [hy] at x0 hx
              simp only [hy] at ln0
              have f1 : decide (y < 1) = false := decide_eq_false (by omega)
              have f2 : decide (y > c.W) = false := decide_eq_false (by rw [HW.out]; omega)
              have f2' : decide (c.W < y) = false := decide_eq_false (by rw [HW.out]; omega)
              have hi3 : i = 0 ∨ i = 1 ∨ i = 2 := by omega
              clear hy hx
              rcases hi3 with rfl | rfl | rfl
              · clear ln0 hcl
                rw [Nat.add_zero] at x0
                have b0 : (0 : Int) < (C : Int) := by omega
                go_wp2_with fail
                go_quiet (fail)
                go_wp2_with fail
                go_roundw
                case rel => exact ⟨1, by omega, by go_num, Lib.hid (BW2.out _)⟩
                case measure => simp [intOf] <;> omega
              · have z0 := hcl 0 (by omega)
                rw [Nat.add_zero] at z0
                have f3 : (y == L.getD 0 0) = false := by simpa using ln0 0 (by omega)
                have b0 : (0 : Int) < (C : Int) := by omega
                have b1 : (1 : Int) < (C : Int) := by omega
                clear ln0 hcl
                generalize L.getD 0 0 = v0 at *
                go_wp2_with fail
                go_quiet (fail)
                go_wp2_with fail
                go_roundw
                case rel => exact ⟨2, by omega, by go_num, Lib.hid (BW2.out _)⟩
                case measure => simp [intOf] <;> omega
              · have z0 := hcl 0 (by omega)
                have z1 := hcl 1 (by omega)
                rw [Nat.add_zero] at z0
                have b0 : (0 : Int) < (C : Int) := by omega
                have b1 : (1 : Int) < (C : Int) := by omega
                have b2 : (2 : Int) < (C : Int) := by omega
                have f3 : (y == L.getD 0 0) = false := by simpa using ln0 0 (by omega)
                have f4 : (y == L.getD 1 0) = false := by simpa using ln0 1 (by omega)
                clear ln0 hcl
                generalize L.getD 0 0 = v0 at *
                generalize L.getD 1 0 = v1 at *
                go_wp2_with fail
                go_quiet (fail)
                go_wp2_with fail
                go_roundw
                case rel => exact ⟨3, by omega, by go_num, Lib.hid (BW2.out _)⟩
                case measure => simp [intOf] <;> omega
            · obtain rfl : i = C := by omega
              have d2 : decide ((i : Int) < (i : Int)) = false := decide_eq_false (by omega)
              have B6 := Lib.hid (spc_carry B5.out hB2.out)
              have A6 := Lib.hid (A5.out.below hB2.out)
              obtain ⟨X, hX⟩ : ∃ X, sliceS c.ks c.ws s = X := ⟨_, rfl⟩
              obtain ⟨k, hk⟩ : ∃ k, X.length = k := ⟨_, rfl⟩
              have hmg := pwhole_merge (ks := c.ks) ZT.out.2.2 s
              have hln := pwhole_len c.ks s c.ws
              rw [hX] at hmg hln
              rw [hL.out, hk] at hln
              have hbl : (belowS c.ks c.ws (s + 1)).length ≤ c.ws.length := List.length_filter_le _ _
              have z60 := ZT.out.1
              have hmk : m + k ≤ 60 := by omega
              have CW1 := Lib.hid (CW.out wr s k X hlt hX hk B6.out.1)
              have HMG := Lib.hid hmg; have HLN := Lib.hid hln
              have hI := B6.out.2
              unfold CfgIn at hI
              obtain ⟨i0, i1, i2, i3, i4, i5, i6, i7, i8, i9, i10, i11⟩ := hI
              clear hX hk hmg hln hbl z60
              go_wp2_with fail
              refine CW1.out.mono ?_
              rintro e w7 ⟨xa, xc, rfl, hxl, hb7⟩
              have A7 := Lib.hid (A6.out.below hb7)
              have B7 := Lib.hid (spc_carry B6.out hb7)
              have XL := Lib.hid hxl
              clear hb7 hxl CW1 i0 i1 i2 i3 i4 i5 i6 i7 i8 i9 i10 i11
              go_wp2_with fail
              refine (mergeP_lst q m cc (belowS c.ks c.ws s) xa k xc X (belowS c.ks c.ws (s + 1)) (m + k) w7 A7.out XL.out (by omega) (by omega) HMG.out HLN.out).mono ?_
              rintro e w8 ⟨a8, c8, rfl, h8, hb8⟩
              have A8 := Lib.hid h8
              have B8 := Lib.hid (spc_carry B7.out hb8)
              clear h8 hb8
              go_wp2_with fail
              go_roundw
              case rel => exact ⟨s + 1, m + k, c8, a8, by omega, by go_num, rfl, hmk, HLN, A8, B8⟩
              case measure => simp [intOf] <;> omega
        · obtain rfl : s = n := by omega
          have hall : belowS c.ks c.ws s = c.ws := by rw [← KS.out]; exact pwhole_all ZT.out.2.1
          have d1 : decide ((s : Int) < (s : Int)) = false := decide_eq_false (by omega)
          have hA4 := A4.out
          have hL4 := hL.out
          rw [hall] at hA4 hL4
          have HALL := Lib.hid hA4
          have MW := Lib.hid (show m = c.wn from by have := WL.out; omega)
          clear hall hA4 hL4 A4 hL
          go_wp2_with fail
          clear i0 i1 i2 i3 i4 i5 i6 i7 i8 i9 i10 i11
          go_loopw [3, 8] (fun nv kv wr => ∃ k : Nat, k ≤ W ∧ nv = .int .i64 (Pl.sumF W C s k) ∧ kv = .int .i64 ((k : Int) + 1) ∧ Hid (BWC w p c wr) ∧ Hid (Below w4.heap.size w4 wr)) (fun _ kv _ => W + 1 - (intOf kv).toNat)
          case atStart => exact ⟨0, by omega, rfl, rfl, B4, Lib.hid (Below.refl _ _)⟩
          case round =>
            obtain ⟨k, hk, rfl, rfl, hB, hB4⟩ := hrel
            rename World => wr
            have hI := hB.out.2
            unfold CfgIn at hI
            obtain ⟨i0, i1, i2, i3, i4, i5, i6, i7, i8, i9, i10, i11⟩ := hI
            have hsum := Pl.sum_le W C s k
            have hsk : s * k ≤ 6 * 5 := Nat.mul_le_mul (by omega) (by omega)
            by_cases hlt2 : k < W
            · have d2 : decide ((k : Int) + 1 ≤ c.W) = true := decide_eq_true (by rw [HW.out]; omega)
              have KK := Lib.hid (CK.out wr ((k : Int) + 1) hB.out.1)
              obtain ⟨K, hKK⟩ : ∃ K, Pl.keep W C s ((k : Int) + 1) = K := ⟨_, rfl⟩
              have hcn : K.length = Pl.cnt W C s (k + 1) := by rw [← hKK]; exact Pl.keep_cnt W C s (k + 1)
              have hcl := Pl.cnt_le W C s (k + 1)
              have KA := Lib.hid (show ∀ i, i < K.length → K.getD i 0 < s ∧ ((k : Int) + 1) ∈ Pl.cop W C (K.getD i 0) from fun i hi => by rw [← hKK] at hi ⊢; exact Pl.keep_at hi)
              have KR := Lib.hid (show ∀ i, i + 1 < K.length → K.getD i 0 < K.getD (i + 1) 0 from fun i hi => by rw [← hKK] at hi ⊢; exact Pl.keep_lt hi)
              have SF := Lib.hid (show Pl.sumF W C s (k + 1) = Pl.sumF W C s k + K.length from by rw [hcn]; rfl)
              rw [hKK] at KK
              clear hKK
              obtain ⟨r, hr⟩ : ∃ r, K.length = r := ⟨_, rfl⟩
              rw [hr] at KA KR SF hcn
              have hr6 : r ≤ 6 := by omega
              have hnl : (natsZ K).length = r := by rw [natsZ_len, hr]
              clear hcn hcl
              go_wp2_with fail
              refine KK.out.mono ?_
              rw [show RetZ wr (natsZ K) = fun e w' => ∃ a c, e = .returned (.slice a (natsZ K).length c) ∧ w'.ownsRow wr.heap.size 3 1 (.slice a (natsZ K).length c) (natsZ K).length (numsV (natsZ K)) ∧ Below wr.heap.size wr w' from rfl, hnl]
              rintro e w5 ⟨ka, kc, rfl, hown, hb5⟩
              have H5 := Lib.hid (holdsI_own hown)
              have B5 := Lib.hid (spc_carry (w0 := w) (p := p) (c := c) ⟨hB.out.1, hB.out.2⟩ hb5)
              have B45 := Lib.hid (hB4.out.trans (hb5.mono hB4.out.size))
              clear hown hb5 KK i0 i1 i2 i3 i4 i5 i6 i7 i8 i9 i10 i11 hnl hr
              go_wp2_with fail
              go_loopw [10] (fun iv wi => ∃ i : Nat, i ≤ r ∧ iv = .int .i64 i ∧ Hid (Below w5.heap.size w5 wi)) (fun iv _ => r - (intOf iv).toNat)
              case atStart => exact ⟨0, by omega, rfl, Lib.hid (Below.refl _ _)⟩
              case round =>
                obtain ⟨i, hi2, rfl, hB2⟩ := hrel
                rename World => wi
                by_cases hlt3 : i < r
                · obtain ⟨bb, o, rfl, hcl⟩ := (H5.out.below hB2.out).at (by omega)
                  have d3 : decide ((i : Int) < (r : Int)) = true := decide_eq_true (by omega)
                  have x0 := hcl i hlt3
                  rw [natsZ_at] at x0
                  obtain ⟨ht1, ht2⟩ := KA.out i hlt3
                  obtain ⟨t, ht⟩ : ∃ t, K.getD i 0 = t := ⟨_, rfl⟩
                  have HT := Lib.hid ht
                  rw [ht] at x0 ht1 ht2
                  have BI := Lib.hid (spc_carry B5.out hB2.out)
                  obtain ⟨L, hLL⟩ : ∃ L, Pl.cop W C t = L := ⟨_, rfl⟩
                  have hlen : L.length = C := by rw [← hLL, Pl.cop_len]
                  rw [hLL] at ht2
                  have LIN := Lib.hid ht2
                  have C1 := Lib.hid (fun w' (hb : Below w.heap.size w w') => (show Calls Try.prog 9 #[.agg #[.slice c.wa c.wn c.wc, .slice c.ka c.kn c.kc, .int .i64 c.W, .int .i64 c.C, .int .i64 c.S, .int .i64 c.B, .int .i64 c.L, .int .i64 c.H, .int .i64 c.F, .int .i64 c.P, .int .i64 c.J, .int .i64 c.N], .int .i64 (t : Int)] w' fun e w'' => ∃ a cc, e = .returned (.slice a C cc) ∧ HoldsI .i64 w'' a C L ∧ Below w'.heap.size w' w'' from (CC.out w' t ht1 hb).mono (fun e w'' ⟨a, cc, h1, h2, h3⟩ => by rw [hLL, hlen] at h1 h2; exact ⟨a, cc, h1, holdsI_own h2, h3⟩)))
                  have SB := Lib.hid (show (Below w.heap.size w wi ∧ Below w5.heap.size w5 wi ∧ wi.cell? ⟨bb, o + i, none⟩ = some (.int .i64 (t : Int))) ∧ wi.cell? ⟨p, 0, none⟩ = some (.slice c.wa c.wn c.wc) ∧ wi.cell? ⟨p, 1, none⟩ = some (.slice c.ka c.kn c.kc) ∧ wi.cell? ⟨p, 2, none⟩ = some (.int .i64 c.W) ∧ wi.cell? ⟨p, 3, none⟩ = some (.int .i64 c.C) ∧ wi.cell? ⟨p, 4, none⟩ = some (.int .i64 c.S) ∧ wi.cell? ⟨p, 5, none⟩ = some (.int .i64 c.B) ∧ wi.cell? ⟨p, 6, none⟩ = some (.int .i64 c.L) ∧ wi.cell? ⟨p, 7, none⟩ = some (.int .i64 c.H) ∧ wi.cell? ⟨p, 8, none⟩ = some (.int .i64 c.F) ∧ wi.cell? ⟨p, 9, none⟩ = some (.int .i64 c.P) ∧ wi.cell? ⟨p, 10, none⟩ = some (.int .i64 c.J) ∧ wi.cell? ⟨p, 11, none⟩ = some (.int .i64 c.N) from ⟨⟨BI.out.1, hB2.out, x0⟩, BI.out.2⟩)
                  have i1' : (0 : Int) ≤ (i : Int) := by omega
                  have i2' : (i : Int) < (r : Int) := by omega
                  clear hcl ht hLL ht1 ht2 x0
                  go_upto_region 24 with fail
                  go_region_held3 (fun w' => (Below w.heap.size w w' ∧ Below w5.heap.size w5 w' ∧ w'.cell? ⟨bb, o + i, none⟩ = some (.int .i64 (t : Int))) ∧ w'.cell? ⟨p, 0, none⟩ = some (.slice c.wa c.wn c.wc) ∧ w'.cell? ⟨p, 1, none⟩ = some (.slice c.ka c.kn c.kc) ∧ w'.cell? ⟨p, 2, none⟩ = some (.int .i64 c.W) ∧ w'.cell? ⟨p, 3, none⟩ = some (.int .i64 c.C) ∧ w'.cell? ⟨p, 4, none⟩ = some (.int .i64 c.S) ∧ w'.cell? ⟨p, 5, none⟩ = some (.int .i64 c.B) ∧ w'.cell? ⟨p, 6, none⟩ = some (.int .i64 c.L) ∧ w'.cell? ⟨p, 7, none⟩ = some (.int .i64 c.H) ∧ w'.cell? ⟨p, 8, none⟩ = some (.int .i64 c.F) ∧ w'.cell? ⟨p, 9, none⟩ = some (.int .i64 c.P) ∧ w'.cell? ⟨p, 10, none⟩ = some (.int .i64 c.J) ∧ w'.cell? ⟨p, 11, none⟩ = some (.int .i64 c.N))
                    (first | assumption | exact ⟨⟨SB.out.1.1.drew, SB.out.1.2.1.drew, SB.out.1.2.2⟩, SB.out.2⟩ | exact s13_carry (by assumption) (by assumption))
                    (first
                      | (go_at_call 9; (with_reducible refine (C1.out _ (And.left (And.left (by assumption)))).mono ?_); rintro e w' ⟨xa, xc, rfl, hxl, hb9⟩))
                  all_goals
                    rename_i S5
                    have B7 := Lib.hid S5.1.2.1
                    have XH := Lib.hid hxl
                    clear S5 hb9 hxl
                    go_wp2_with fail
                    rename World => w7
                    go_loopw [12, 13] (fun bv jv wj => ∃ j : Nat, j ≤ C ∧ jv = .int .i64 j ∧ bv = .bool (inF L ((k : Int) + 1) j) ∧ Hid (Below w7.heap.size w7 wj)) (fun _ jv _ => C - (intOf jv).toNat)
                    case atStart => exact ⟨0, by omega, rfl, by rw [inF_zero], Lib.hid (Below.refl _ _)⟩
                    case round =>
                      obtain ⟨j, hj, rfl, rfl, hB3⟩ := hrel
                      rename World => wj
                      by_cases hlt4 : j < C
                      · have d4 : decide ((j : Int) < (C : Int)) = true := decide_eq_true (by omega)
                        obtain ⟨yb, yo, rfl, hyc⟩ := (XH.out.below hB3.out).at (by omega)
                        have y0 := hyc j hlt4
                        have hsucc := inF_succ L ((k : Int) + 1) j (by omega)
                        obtain ⟨y, hy⟩ : ∃ y, L.getD j 0 = y := ⟨_, rfl⟩
                        obtain ⟨zi, hzi⟩ : ∃ zi, inF L ((k : Int) + 1) j = zi := ⟨_, rfl⟩
                        rw [hy] at y0 hsucc
                        rw [hzi] at hsucc
                        rw [hzi]
                        clear hyc hy hzi
                        cases zi
                        · obtain ⟨ze, hze⟩ : ∃ ze, (y == (k : Int) + 1) = ze := ⟨_, rfl⟩
                          have HS := Lib.hid (show inF L ((k : Int) + 1) (j + 1) = ze from by rw [hsucc, hze]; rfl)
                          clear hsucc
                          go_wp2_with fail
                          go_roundw
                          case rel => exact ⟨j + 1, by omega, by go_num, by rw [HS.out], hB3⟩
                          case measure => simp [intOf] <;> omega
                        · have HS := Lib.hid (show inF L ((k : Int) + 1) (j + 1) = true from by rw [hsucc]; rfl)
                          clear hsucc
                          go_wp2_with fail
                          go_roundw
                          case rel => exact ⟨j + 1, by omega, by go_num, by rw [HS.out], hB3⟩
                          case measure => simp [intOf] <;> omega
                      · obtain rfl : j = C := by omega
                        have d4 : decide ((j : Int) < (j : Int)) = false := decide_eq_false (by omega)
                        have hin : inF L ((k : Int) + 1) j = true := by rw [← hlen]; exact inF_all LIN.out
                        rw [hin]
                        have BJ := Lib.hid (fun m => (B7.out.trans (hB3.out.mono B7.out.size)).trans ((below_drewN wj m).mono (Nat.le_trans B7.out.size hB3.out.size)))
                        clear hin
                        rcases Nat.eq_zero_or_pos i with rfl | hipos
                        · go_wp2_with fail
                          go_quiet (fail)
                          go_wp2_with fail
                          go_roundw
                          case rel => exact ⟨1, by omega, by go_num, Lib.hid (BJ.out _)⟩
                          case measure => simp [intOf] <;> omega
                        · obtain ⟨i', rfl⟩ : ∃ i', i = i' + 1 := ⟨i - 1, by omega⟩
                          have hcl2 := ((H5.out.below (B7.out.trans (hB3.out.mono B7.out.size))).2 (by omega))
                          obtain ⟨b2, o2, hbe, hcl3⟩ := hcl2
                          injection hbe with hbe; injection hbe with hb1 hb2; subst hb1 hb2
                          have u0 := hcl3 i' (by omega)
                          have u1 := hcl3 (i' + 1) hlt3
                          rw [natsZ_at] at u0 u1
                          have hrise := KR.out i' (by omega)
                          rw [HT.out] at u1 hrise
                          obtain ⟨t0, ht0⟩ : ∃ t0, K.getD i' 0 = t0 := ⟨_, rfl⟩
                          rw [ht0] at u0 hrise
                          have g1 : decide (((i' + 1 : Nat) : Int) > 0) = true := decide_eq_true (by omega)
                          have g2 : decide ((t0 : Int) ≥ (t : Int)) = false := decide_eq_false (by omega)
                          have g2' : decide (t ≤ t0) = false := decide_eq_false (by omega)
                          have g3 : IntKind.i64.wrap (((i' + 1 : Nat) : Int) - 1) = (i' : Int) := by rw [IntWalk.i64_in _ (by omega)]; omega
                          have g4 : (0 : Int) ≤ (i' : Int) := by omega
                          have g5 : (i' : Int) < (r : Int) := by omega
                          clear hcl3 hrise ht0
                          go_wp2_with fail
                          go_quiet (fail)
                          go_wp2_with fail
                          go_roundw
                          case rel => exact ⟨i' + 2, by omega, by go_num, Lib.hid (BJ.out _)⟩
                          case measure => simp [intOf] <;> omega
                · obtain rfl : i = r := by omega
                  have d3 : decide ((i : Int) < (i : Int)) = false := decide_eq_false (by omega)
                  have w1 : IntKind.i64.wrap ((Pl.sumF W C s k : Int) + (i : Int)) = ((Pl.sumF W C s (k + 1) : Nat) : Int) := by rw [SF.out, IntWalk.i64_in _ (by omega)]; omega
                  have B6 := Lib.hid (spc_carry B5.out hB2.out)
                  have B46 := Lib.hid (B45.out.trans (hB2.out.mono B45.out.size))
                  go_wp2_with fail
                  go_roundw
                  case rel => exact ⟨k + 1, by omega, by go_num, by go_num, B6, B46⟩
                  case measure => simp [intOf] <;> omega
            · obtain rfl : k = W := by omega
              have d2 : decide ((k : Int) + 1 ≤ c.W) = false := decide_eq_false (by rw [HW.out]; omega)
              have hsa := Pl.sum_all (W := k) (C := C) (S := s) hW1 hW5 hC3 hCW hn6
              have hcs : C * s ≤ 3 * 6 := Nat.mul_le_mul (by omega) (by omega)
              rw [hsa]
              obtain ⟨cs, hcsv⟩ : ∃ cs, C * s = cs := ⟨_, rfl⟩
              rw [hcsv] at hcs
              rw [hcsv]
              have w2 : IntKind.i64.wrap (c.C * (s : Int)) = (cs : Int) := by
                rw [HC.out, show (C : Int) * (s : Int) = ((C * s : Nat) : Int) from by simp, hcsv, IntWalk.i64_in _ (by omega)]
              have g1 : ((cs : Int) == (cs : Int)) = true := by simp
              have AZ := Lib.hid (fun w' (hb : Below wr.heap.size wr w') => (show Calls Try.prog 21 #[.slice q m cc, .slice c.wa c.wn c.wc] w' fun e w'' => e = .returned (.bool true) ∧ Below w'.heap.size w' w'' from MW.out ▸ sameTexts_yes q c.wa m cc c.wc c.ws w' ((HALL.out.below (hB4.out.trans (hb.mono hB4.out.size))).1) (MW.out ▸ OK.out.1.below (hB.out.1.trans (hb.mono hB.out.1.size))) (by omega)))
              have SB := Lib.hid (show (Below w.heap.size w wr ∧ Below wr.heap.size wr wr) ∧ wr.cell? ⟨p, 0, none⟩ = some (.slice c.wa c.wn c.wc) ∧ wr.cell? ⟨p, 1, none⟩ = some (.slice c.ka c.kn c.kc) ∧ wr.cell? ⟨p, 2, none⟩ = some (.int .i64 c.W) ∧ wr.cell? ⟨p, 3, none⟩ = some (.int .i64 c.C) ∧ wr.cell? ⟨p, 4, none⟩ = some (.int .i64 c.S) ∧ wr.cell? ⟨p, 5, none⟩ = some (.int .i64 c.B) ∧ wr.cell? ⟨p, 6, none⟩ = some (.int .i64 c.L) ∧ wr.cell? ⟨p, 7, none⟩ = some (.int .i64 c.H) ∧ wr.cell? ⟨p, 8, none⟩ = some (.int .i64 c.F) ∧ wr.cell? ⟨p, 9, none⟩ = some (.int .i64 c.P) ∧ wr.cell? ⟨p, 10, none⟩ = some (.int .i64 c.J) ∧ wr.cell? ⟨p, 11, none⟩ = some (.int .i64 c.N) from ⟨⟨hB.out.1, Below.refl _ _⟩, hB.out.2⟩)
              clear hsa hcs hcsv
              go_upto_region 33 with fail
              clear i0 i1 i2 i3 i4 i5 i6 i7 i8 i9 i10 i11
              go_region_held3 (fun w' => (Below w.heap.size w w' ∧ Below wr.heap.size wr w') ∧ w'.cell? ⟨p, 0, none⟩ = some (.slice c.wa c.wn c.wc) ∧ w'.cell? ⟨p, 1, none⟩ = some (.slice c.ka c.kn c.kc) ∧ w'.cell? ⟨p, 2, none⟩ = some (.int .i64 c.W) ∧ w'.cell? ⟨p, 3, none⟩ = some (.int .i64 c.C) ∧ w'.cell? ⟨p, 4, none⟩ = some (.int .i64 c.S) ∧ w'.cell? ⟨p, 5, none⟩ = some (.int .i64 c.B) ∧ w'.cell? ⟨p, 6, none⟩ = some (.int .i64 c.L) ∧ w'.cell? ⟨p, 7, none⟩ = some (.int .i64 c.H) ∧ w'.cell? ⟨p, 8, none⟩ = some (.int .i64 c.F) ∧ w'.cell? ⟨p, 9, none⟩ = some (.int .i64 c.P) ∧ w'.cell? ⟨p, 10, none⟩ = some (.int .i64 c.J) ∧ w'.cell? ⟨p, 11, none⟩ = some (.int .i64 c.N))
                (first | assumption | exact ⟨⟨SB.out.1.1.drew, SB.out.1.2.drew⟩, SB.out.2⟩ | exact s14_carry (by assumption) (by assumption))
                (first
                  | (go_at_call 16; (with_reducible refine (CS.out _ (And.left (And.left (by assumption)))).mono ?_); rintro e w' ⟨rfl, hb9⟩)
                  | (go_at_call 21; (with_reducible refine (AZ.out _ (And.right (And.left (by assumption)))).mono ?_); rintro e w' ⟨rfl, hb9⟩)
                  | (go_at_call 8; (with_reducible refine (awakePl_any _).mono ?_); rintro e w' ⟨rfl, hb9⟩))
              all_goals
                rename_i S5
                have BE := Lib.hid S5.1.1
                clear S5
                go_wp2_with fail
                go_ret
                exact ⟨rfl, BE.out⟩
  · go_wp2_with fail
    refine (FIN.out _ B2.out).mono ?_
    rintro e w4 ⟨rfl, hb4⟩
    have B4 := Lib.hid hb4
    clear hb4
    go_wp2_with fail
    go_ret
    exact ⟨rfl, B4.out⟩
open Go.ChangeShapes Go.WideShapes Go.ChangeAt in
theorem placeCopies_walk {H : Type} {enc : TypeId × Value → H} (W : World) (base : Nat) (v0 : Value) (d0 : DataW H) (p0 : List MemPlace)
    (h0 : DataW.Trod enc Try.prog W 0 (fun _ => true) true 25 v0 d0 p0) (o0 : Value.okWide Try.prog W .any base 25 v0) :
    Calls Try.prog 4 #[v0] W fun e w' => e = .returned (.bool true) ∧ RowKit.Below W.heap.size W w' := by
  obtain ⟨c, rfl, ok⟩ := open_cfg o0 h0
  exact placeCopies_any c W ok
end Go.Proofs.Ytbimbgcejeeinaa
