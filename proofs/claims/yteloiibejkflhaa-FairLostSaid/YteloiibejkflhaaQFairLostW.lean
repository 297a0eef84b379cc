/- FairLost (by gen/falost.py) -/
import Derived.Test.YteloiibejkflhaaQFa10
import Derived.Test.YteloiibejkflhaaQFb4
import Derived.Test.YteloiibejkflhaaQFc3
import Derived.Test.YteloiibejkflhaaQLowV
import Derived.Test.YteloiibejkflhaaQOpCfg
namespace Go.Proofs.Yteloiibejkflhaa
open Go.RowKit
set_option linter.unusedVariables false
set_option maxRecDepth 20000
theorem rec_info27 : (Try.prog.info? 43).map (fun i => (i.zero, i.size, i.bytes)) = some (some (.agg #[.int .i64 0, .int .i64 0, .int .i64 0, .int .i64 0, .string ⟨#[]⟩, .int .i64 0, .int .i64 0, .int .i64 0, .int .i64 0, .slice none 0 0, .int .i64 0, .slice none 0 0]), 12, 136) := by kernel_rfl
theorem ev_info (kd nd : Int) : (Try.prog.info? 40).map (·.size) = some (#[.int .i64 kd, .int .i64 nd, .int .i64 0, .int .i64 0, .string ⟨#[]⟩, .int .i64 0, .int .i64 0] : Array Value).size := by kernel_rfl
theorem evV_one (kd nd : Int) : (#[.int .i64 kd, .int .i64 nd, .int .i64 0, .int .i64 0, .string ⟨#[]⟩, .int .i64 0, .int .i64 0] : Array Value).all (·.oneCell') = true := by kernel_rfl
set_option maxHeartbeats 4000000 in
set_option maxRecDepth 100000 in
theorem fairLost_any (c : Cfg) (a : Option Addr) (n cap : Nat) (xs : List RecP) (b0 : Int) (ga : Option Addr) (gn gc : Nat) (zs : List Int) (what at0 : Int) (w : World) (h : CfgOk w c) (hh : HoldsRc w a n xs) (hcap : n ≤ cap) (hmx : cap ≤ maxLen) (hg : HoldsI .i64 w ga gn zs) (hgx : gn ≤ 9223372036854775807) :
    Calls Try.prog 5 #[.agg #[.slice c.wa c.wn c.wc, .slice c.ka c.kn c.kc, .int .i64 c.W, .int .i64 c.C, .int .i64 c.S, .int .i64 c.B, .int .i64 c.L, .int .i64 c.H, .int .i64 c.F, .int .i64 c.P, .int .i64 c.J, .int .i64 c.N], .slice a n cap, .int .i64 b0, .slice ga gn gc, .int .i64 what, .int .i64 at0] w fun e w' => e = .returned (.bool true) ∧ Below w.heap.size w w' := by
  obtain ⟨ri, hri, hrz0, hrz1, hrz2⟩ := info_parts rec_info27
  have BX := Lib.hid (below_one w (.cells #[.slice c.wa c.wn c.wc, .slice c.ka c.kn c.kc, .int .i64 c.W, .int .i64 c.C, .int .i64 c.S, .int .i64 c.B, .int .i64 c.L, .int .i64 c.H, .int .i64 c.F, .int .i64 c.P, .int .i64 c.J, .int .i64 c.N] 25))
  have IN := Lib.hid (cfgIn_new w c w.heap.size 25 (0, 0) rfl)
  obtain ⟨w1, hw1⟩ : ∃ w1, w.alloc (.cells #[.slice c.wa c.wn c.wc, .slice c.ka c.kn c.kc, .int .i64 c.W, .int .i64 c.C, .int .i64 c.S, .int .i64 c.B, .int .i64 c.L, .int .i64 c.H, .int .i64 c.F, .int .i64 c.P, .int .i64 c.J, .int .i64 c.N] 25) = w1 := ⟨_, rfl⟩
  obtain ⟨p, hp⟩ : ∃ p, w.heap.size = p := ⟨_, rfl⟩
  rw [hw1] at BX
  rw [hw1, hp] at IN
  have II := Lib.hid (fun (w' : World) (hb : Below w1.heap.size w1 w') => IN.out.below hb)
  unfold CfgIn at II
  have OK := Lib.hid (h.below BX.out)
  have HR := Lib.hid (hh.below BX.out)
  have HG := Lib.hid (hg.below BX.out)
  have HLN := Lib.hid hh.len
  have CG := Lib.hid (great27_any c a n cap xs ga gn gc w1 OK.out HR.out (by unfold maxLen at hmx; omega) hgx)
  unfold Great27 at CG
  have HCAP := Lib.hid hcap
  have HP0 := Lib.hid hp
  obtain ⟨i0, i1, i2, i3, i4, i5, i6, i7, i8, i9, i10, i11⟩ := II.out _ (Below.refl _ _)
  clear h hh hg hcap hmx hgx
  go_enter Try.func5, Try.ntmps5
  go_upto_region 1 with fail
  try rw [hw1]
  try rw [hp]
  clear hw1 hp
  go_wp2_with fail
  refine CG.out.mono ?_
  rintro e w2 ⟨z, rfl, hb2, hsm⟩
  have B2 := Lib.hid hb2
  clear CG i0 i1 i2 i3 i4 i5 i6 i7 i8 i9 i10 i11 hb2
  cases z
  case true =>
    go_wp2_with (first | (go_at_call 8; refine (awake27_any _).mono ?_; rintro e wH ⟨rfl, hbH⟩) | fail)
    go_ret
    exact ⟨rfl, BX.out.trans ((B2.out.trans (hbH.mono B2.out.size)).mono BX.out.size)⟩
  obtain ⟨hn3, hg3, hx3⟩ := hsm rfl
  have HX := Lib.hid (show ∀ x ∈ xs, x.sn ≤ 20 ∧ x.ln ≤ 20 from hx3)
  clear hsm hx3
  by_cases hn0 : n = 0
  · have d0 : ((n : Int) == 0) = true := by simp; omega
    clear hn0
    go_wp2_with (first | (go_at_call 8; refine (awake27_any _).mono ?_; rintro e wH ⟨rfl, hbH⟩) | fail)
    go_ret
    exact ⟨rfl, BX.out.trans ((B2.out.trans (hbH.mono B2.out.size)).mono BX.out.size)⟩
  have d0 : ((n : Int) == 0) = false := by simp; omega
  have l2 := low_bd b0 30 (by omega)
  have CL2 := Lib.hid (fun w' => low_any b0 30 (by omega) (by omega) w')
  obtain ⟨x2, hx2⟩ : ∃ x : Nat, lowV b0 30 = (x : Int) := ⟨(lowV b0 30).toNat, by omega⟩
  rw [hx2] at CL2 l2
  obtain ⟨b1, hb1⟩ : ∃ b : Nat, 1 + x2 = b := ⟨_, rfl⟩
  have e2 : IntKind.i64.wrap (1 + (x2 : Int)) = (b1 : Int) := by rw [IntKind.wrap_i64]; omega
  obtain ⟨b, hbb⟩ : ∃ b : Nat, min b1 n = b := ⟨_, rfl⟩
  have hmin : min (b1 : Int) (n : Int) = (b : Int) := by omega
  have hb30 : 1 ≤ b ∧ b ≤ 30 ∧ b ≤ n := by omega
  clear hx2 l2 hb1 hbb
  go_upto_region 4 with (first | (go_at_call 9; (with_reducible refine (CL2.out _).mono ?_); rintro e w' ⟨rfl, rfl⟩) | fail)
  have CWX := Lib.hid (fun (z : Bool) (hz : windowB c zs xs 0 (b : Int) = z) (w' : World) (hb' : Below w1.heap.size w1 w') => fwindow_any c a n cap xs 0 (b : Int) ga gn gc zs z w' (OK.out.below hb') (HR.out.below hb') (by omega) HCAP.out (fun x hx => by have := HX.out x hx; omega) (HG.out.below hb') rfl (by unfold wfZ; simp [Lit.wf, IntKind.min, IntKind.max, IntKind.signed, IntKind.bits]; omega) hz)
  obtain ⟨zw, hzw⟩ : ∃ z, windowB c zs xs 0 (b : Int) = z := ⟨_, rfl⟩
  have CWN := Lib.hid (CWX.out zw hzw w2 B2.out)
  have HZW := Lib.hid hzw
  obtain ⟨i0, i1, i2, i3, i4, i5, i6, i7, i8, i9, i10, i11⟩ := II.out _ B2.out
  clear hzw hmin e2 CL2
  cases zw
  · go_wp2_with (first | (go_at_call 15; refine CWN.out.mono ?_; rintro e w3 ⟨rfl, hb3⟩; have hb4 := B2.out.trans (hb3.mono B2.out.size)) | (go_at_call 8; refine (awake27_any _).mono ?_; rintro e wH ⟨rfl, hbH⟩) | fail)
    go_ret
    exact ⟨rfl, BX.out.trans ((hb4.trans (hbH.mono hb4.size)).mono BX.out.size)⟩
  have hgood : goodB c zs = true := by
    have := HZW.out
    unfold windowB at this
    exact (Bool.and_eq_true _ _ ▸ this).1
  have hgn : gn = c.kn + 1 := by rw [← HG.out.len]; exact (goodB_len hgood).2
  have d1 : ((gn : Int) == 0) = false := by simp; omega
  have GN1 := Lib.hid (show 1 ≤ gn by omega)
  clear hgood hgn
  go_wp2_with (first | (go_at_call 15; refine CWN.out.mono ?_; rintro e w3 ⟨rfl, hb3⟩; have hb4 := B2.out.trans (hb3.mono B2.out.size)) | fail)
  have B4 := Lib.hid hb4
  clear hb3 hb4 CWN i0 i1 i2 i3 i4 i5 i6 i7 i8 i9 i10 i11 d1 d0
  go_loopw [13, 14] (fun tv iv wr => ∃ (j : Nat) (av : Option Addr) (cv : Nat), j ≤ n ∧ iv = .int .i64 j ∧ tv = .slice av j cv ∧ Hid (wr.ownsRow w1.heap.size 43 12 (.slice av j cv) j (recsV (xs.take j))) ∧ Hid (Below w1.heap.size w1 wr)) (fun _ iv _ => n - (intOf iv).toNat)
  case atStart => exact ⟨0, none, 0, by omega, rfl, rfl, Lib.hid (World.ownsRow_nil _ _ _ _), B4⟩
  case round =>
    obtain ⟨j, av, cv, hj, rfl, rfl, hO, hB⟩ := hrel
    by_cases hlt : j < n
    · obtain ⟨rb, ro, rfl, hc⟩ := (HR.out.below hB.out).at_ (by omega)
      have hx12 := hc j hlt
      have hmem := getD_memR (show j < xs.length by rw [HLN.out]; exact hlt)
      have hok := HR.out.ok _ hmem
      obtain ⟨x, hxe⟩ : ∃ x, xs.getD j r0 = x := ⟨_, rfl⟩
      have TK := take_succ_getD xs r0 j (by rw [HLN.out]; exact hlt)
      rw [hxe] at hx12 hok TK
      have TV := Lib.hid (show recsV (xs.take (j + 1)) = recsV (xs.take j) ++ recsV [x] from by rw [TK, recsV_app])
      obtain ⟨c0, c1', c2', c3, c4, c5, c6, c7, c8, c9, c10, c11⟩ := hx12
      have i1 : (0 : Int) ≤ (j : Int) := by omega
      have i2 : (j : Int) < (n : Int) := by omega
      have RX := Lib.hid (below_one wr (.cells #[.int .i64 x.kd, .int .i64 x.nd, .int .i64 x.at_, .int .i64 x.ex, .string x.qt, .int .i64 x.qk, .int .i64 x.qn, .int .i64 x.vd, .int .i64 x.id, .slice x.sa x.sn x.sc, .int .i64 x.got, .slice x.la x.ln x.lc] 43))
      have NW := Lib.hid (show HoldsRc (wr.alloc (.cells #[.int .i64 x.kd, .int .i64 x.nd, .int .i64 x.at_, .int .i64 x.ex, .string x.qt, .int .i64 x.qk, .int .i64 x.qn, .int .i64 x.vd, .int .i64 x.id, .slice x.sa x.sn x.sc, .int .i64 x.got, .slice x.la x.ln x.lc] 43)) (some ⟨wr.heap.size, 0, none⟩) 1 [x] from ⟨rfl, fun _ => ⟨wr.heap.size, 0, rfl, fun i hi => by
        obtain rfl : i = 0 := by omega
        exact recIn_new wr x wr.heap.size 43 (0, 0) rfl⟩, fun y hy => by
        simp only [List.mem_singleton] at hy
        rw [hy]
        exact (hok.below hB.out).below RX.out⟩)
      have O3 := Lib.hid (owns_below hO.out RX.out)
      have B3 := Lib.hid (hB.out.trans (RX.out.mono hB.out.size))
      clear hc hxe hmem hok TK
      go_wp2_with (first | (at_builtin; refine wpList_append_any rfl (.tmp 51) (.tmp 56) 32 rfl w1.heap.size 43 ri _ 12 136 Try.underlying32 hri hrz0 hrz1 hrz2 rfl (by decide) _ j (recsV (xs.take j)) rfl O3.out _ 1 1 (recsV [x]) rfl (fun h => by cases h) (recsV_len [x]) (NW.out.news ⟨rfl, rfl, rfl, Nat.le_refl _, fun _ _ _ => rfl⟩) (recsV_one [x]) (by unfold maxLen; omega) (by omega) B3.out.size ?_; intro a' c' w6 hown hb6 hnil) | fail)
      have B6 := Lib.hid (B3.out.trans hb6)
      have O6 := Lib.hid hown
      clear hown hb6 hnil
      go_roundw
      case rel => exact ⟨j + 1, a', c', by omega, by go_num, rfl, Lib.hid (by rw [TV.out]; exact O6.out), B6⟩
      case measure => simp [intOf]; omega
    · obtain rfl : n = j := by omega
      have hO2 := hO.out
      rw [List.take_of_length_le (by rw [HLN.out]; exact Nat.le_refl _)] at hO2
      obtain ⟨tb, rfl, hncv, hT⟩ := tR_own hO2 (by omega) HR.out.ok hB.out
      obtain ⟨wq, hwq⟩ : ∃ wq, wq = wr := ⟨_, rfl⟩
      subst hwq
      have T := Lib.hid hT
      have l4 := low_bd at0 (b : Int) (by omega)
      have l5 := low_bd what 3 (by omega)
      have CL4 := Lib.hid (fun w' => low_any at0 (b : Int) (by omega) (by omega) w')
      have CL5 := Lib.hid (fun w' => low_any what 3 (by omega) (by omega) w')
      obtain ⟨k, hk⟩ : ∃ x : Nat, lowV at0 (b : Int) = (x : Int) := ⟨(lowV at0 (b : Int)).toNat, by omega⟩
      obtain ⟨v, hv⟩ : ∃ x : Int, lowV what 3 = x := ⟨_, rfl⟩
      rw [hk] at CL4 l4
      rw [hv] at CL5 l5
      have hkb : k < b := by omega
      have CWT := Lib.hid (fun (ys : List RecP) (w' : World) (hb' : Below w1.heap.size w1 w') (h1 : HoldsRc w' (some ⟨tb, 0, none⟩) n ys) (h2 : ∀ y ∈ ys, y.sn ≤ 1000 ∧ y.ln ≤ 1000) (hz : windowB c zs ys 0 (b : Int) = false) => fwindow_any c (some ⟨tb, 0, none⟩) n cv ys 0 (b : Int) ga gn gc zs false w' (OK.out.below hb') h1 (by omega) hncv h2 (HG.out.below hb') rfl (by unfold wfZ; simp [Lit.wf, IntKind.min, IntKind.max, IntKind.signed, IntKind.bits]; omega) hz)
      clear hO2 hT hk hv hO hB l4
      have HXS := Lib.hid (show ∀ y ∈ xs, y.sn ≤ 1000 ∧ y.ln ≤ 1000 from fun y hy => by have := HX.out y hy; omega)
      rcases (show v = 1 ∨ v = 2 ∨ v = 0 by omega) with rfl | rfl | rfl
      · have hlen := HLN.out
        obtain ⟨x, hxe⟩ : ∃ x, xs.getD k r0 = x := ⟨_, rfl⟩
        have hxm : x ∈ xs := hxe ▸ getD_memR (by omega)
        have l6 := low_bd at0 (gn : Int) (by have := GN1.out; omega)
        have CL6 := Lib.hid (fun w' => low_any at0 (gn : Int) (by have := GN1.out; omega) (by omega) w')
        obtain ⟨m, hm⟩ : ∃ x : Nat, lowV at0 (gn : Int) = (x : Int) := ⟨(lowV at0 (gn : Int)).toNat, by omega⟩
        rw [hm] at CL6 l6
        obtain ⟨gb, go, rfl, hgc⟩ := (HG.out.below T.out.b).2 (by omega)
        have hgm := hgc m (by omega)
        obtain ⟨nd, hnd⟩ : ∃ nd, zs.getD m 0 = nd := ⟨_, rfl⟩
        rw [hnd] at hgm
        have hnz : nd ∈ zs := by
          have hl : m < zs.length := by rw [HG.out.len]; omega
          rw [← hnd, List.getD_eq_getElem?_getD, List.getElem?_eq_getElem hl]
          exact List.getElem_mem hl
        have TE := Lib.hid (T.out.event (k := k) (by omega) hxe 9 nd)
        have TM := Lib.hid (show wq.there tb (k * 12) (#[.int .i64 9, .int .i64 nd, .int .i64 0, .int .i64 0, .string ⟨#[]⟩, .int .i64 0, .int .i64 0] : Array Value).size from T.out.mid (k := k) (by omega) 0 7 (by omega))
        have WC := Lib.hid (window_crash (c := c) (zs := zs) (ys := xs) (y := evR x 9 nd) (k := k) (b := b) (by omega) hkb rfl hnz)
        have SS := Lib.hid (set_small (k := k) (kd := 9) (nd := nd) HXS.out hxm)
        have k1 : (0 : Int) ≤ (k : Int) := by omega
        have k2 : (k : Int) < (n : Int) := by omega
        have m1 : (0 : Int) ≤ (m : Int) := by omega
        have m2 : (m : Int) < (gn : Int) := by omega
        have q1 := Lib.hid (ev_info 9 nd)
        have q2 := Lib.hid (evV_one 9 nd)
        clear hgc hm hnd hnz hxm hxe hlen l6 hkb l5 hn3 hg3 hb30 hncv hlt hj
        go_upto_region 22 with (first | (go_at_call 9; (with_reducible refine (CL4.out _).mono ?_); rintro e w' ⟨rfl, rfl⟩) | (go_at_call 9; (with_reducible refine (CL5.out _).mono ?_); rintro e w' ⟨rfl, rfl⟩) | fail)
        go_upto_region 23 with (first | (go_at_call 9; (with_reducible refine (CL6.out _).mono ?_); rintro e w' ⟨rfl, rfl⟩) | (refine wpList_store_mid (op := { dst := none, op := Op.store 40 (Operand.tmp 125) (Operand.tmp 123), type := 0, pos := "law.go:91", after := #[{ on := 11, ground := Ground.data }, { on := 9, ground := Ground.data }, { on := 6, ground := Ground.chain }, { on := 0, ground := Ground.phase }, { on := 1, ground := Ground.phase }, { on := 2, ground := Ground.phase }, { on := 3, ground := Ground.phase }, { on := 4, ground := Ground.phase }, { on := 5, ground := Ground.phase }, { on := 6, ground := Ground.phase }, { on := 7, ground := Ground.phase }, { on := 8, ground := Ground.phase }, { on := 9, ground := Ground.phase }], guard := none }) rfl 40 (.tmp 125) (.tmp 123) rfl tb (k * 12) #[.int .i64 9, .int .i64 nd, .int .i64 0, .int .i64 0, .string ⟨#[]⟩, .int .i64 0, .int .i64 0] (by kernel_rfl) (by kernel_rfl) TM.out q1.out q2.out ?_) | fail)
        have TE2 : TR w1 (wq.setCells tb (k * 12) [.int .i64 9, .int .i64 nd, .int .i64 0, .int .i64 0, .string ⟨#[]⟩, .int .i64 0, .int .i64 0]) tb n (xs.set k (evR x 9 nd)) := TE.out
        generalize hw8 : wq.setCells tb (k * 12) [.int .i64 9, .int .i64 nd, .int .i64 0, .int .i64 0, .string ⟨#[]⟩, .int .i64 0, .int .i64 0] = w8 at TE2
        try rw [hw8]
        have B8 := Lib.hid TE2.b
        have CT := Lib.hid (CWT.out _ w8 B8.out TE2.rc SS.out WC.out)
        clear hw8 TE2 TE hgm
        obtain ⟨i0, i1, i2, i3, i4, i5, i6, i7, i8, i9, i10, i11⟩ := II.out _ B8.out
        go_wp2_with (first | (go_at_call 15; (with_reducible refine CT.out.mono ?_); rintro e w9 ⟨rfl, hb9⟩; have hb10 := B8.out.trans (hb9.mono B8.out.size); obtain ⟨j0, j1, j2, j3, j4, j5, j6, j7, j8, j9, j10, j11⟩ := II.out _ hb10) | (go_at_call 15; (with_reducible refine (CWX.out true HZW.out _ hb10).mono ?_); rintro e w11 ⟨rfl, hb11⟩; have hb12 := hb10.trans (hb11.mono hb10.size)) | (go_at_call 8; refine (awake27_any _).mono ?_; rintro e wH ⟨rfl, hbH⟩) | fail)
        go_ret
        exact ⟨rfl, BX.out.trans ((hb12.trans (hbH.mono hb12.size)).mono BX.out.size)⟩
      · clear hkb l5
        go_upto_region 13 with (first | (go_at_call 9; (with_reducible refine (CL4.out _).mono ?_); rintro e w' ⟨rfl, rfl⟩) | (go_at_call 9; (with_reducible refine (CL5.out _).mono ?_); rintro e w' ⟨rfl, rfl⟩) | fail)
        go_wp2_with fail
        go_loopw [16] (fun iv wr => ∃ (j : Nat) (ys : List RecP), j ≤ b ∧ iv = .int .i64 j ∧ Hid (TR w1 wr tb n ys) ∧ Hid (∀ i, i < j → (ys.getD i r0).kd ≠ 3) ∧ Hid (∀ y ∈ ys, y.sn ≤ 1000 ∧ y.ln ≤ 1000)) (fun iv _ => b - (intOf iv).toNat)
        case atStart => exact ⟨0, xs, by omega, rfl, T, Lib.hid (fun i hi => by omega), HXS⟩
        case round =>
          obtain ⟨j, ys, hj, rfl, hT, hK, hS⟩ := hrel
          by_cases hlt : j < b
          · have hjn : j < n := by omega
            have hat := hT.out.at_ hjn
            have hlen := hT.out.rc.len
            obtain ⟨x, hxe⟩ : ∃ x, ys.getD j r0 = x := ⟨_, rfl⟩
            have hxm : x ∈ ys := hxe ▸ getD_memR (by omega)
            rw [hxe] at hat
            obtain ⟨q0, -⟩ := hat
            obtain ⟨q, hq⟩ : ∃ q, x.kd = q := ⟨_, rfl⟩
            rw [hq] at q0
            have j1 : (0 : Int) ≤ (j : Int) := by omega
            have j2 : (j : Int) < (n : Int) := by omega
            by_cases h3 : q = 3
            · have d3 : (q == 3) = true := by simp [h3]
              have TE := Lib.hid (hT.out.event hjn hxe 0 0)
              have TM := Lib.hid (show wr.there tb (j * 12) (#[.int .i64 0, .int .i64 0, .int .i64 0, .int .i64 0, .string ⟨#[]⟩, .int .i64 0, .int .i64 0] : Array Value).size from hT.out.mid hjn 0 7 (by omega))
              have SS := Lib.hid (set_small (k := j) (kd := 0) (nd := 0) hS.out hxm)
              have KK := Lib.hid (show ∀ i, i < j + 1 → ((ys.set j (evR x 0 0)).getD i r0).kd ≠ 3 from fun i hi => by
                by_cases e : i = j
                · subst e
                  rw [List.getD_eq_getElem?_getD, List.getElem?_set_self (by omega), Option.getD_some]
                  show (0 : Int) ≠ 3
                  omega
                · have := hK.out i (by omega)
                  rw [List.getD_eq_getElem?_getD] at this ⊢
                  rw [List.getElem?_set_ne (by omega)]
                  exact this)
              clear h3 hq hxe hxm hlen
              have q1 := Lib.hid (ev_info 0 0)
              have q2 := Lib.hid (evV_one 0 0)
              go_wp2_with (first | (refine wpList_store_mid (op := { dst := none, op := Op.store 40 (Operand.tmp 79) (Operand.tmp 77), type := 0, pos := "law.go:95", after := #[{ on := 4, ground := Ground.data }, { on := 2, ground := Ground.data }, { on := 0, ground := Ground.phase }, { on := 1, ground := Ground.phase }, { on := 2, ground := Ground.phase }], guard := none }) rfl 40 (.tmp 79) (.tmp 77) rfl tb (j * 12) #[.int .i64 0, .int .i64 0, .int .i64 0, .int .i64 0, .string ⟨#[]⟩, .int .i64 0, .int .i64 0] (by kernel_rfl) (by kernel_rfl) TM.out q1.out q2.out ?_) | fail)
              go_roundw
              case rel => exact ⟨j + 1, _, by omega, by go_num, TE, KK, SS⟩
              case measure => simp [intOf]; omega
            · have d3 : (q == 3) = false := by simp [h3]
              have KK := Lib.hid (show ∀ i, i < j + 1 → (ys.getD i r0).kd ≠ 3 from fun i hi => by
                by_cases e : i = j
                · subst e; rw [hxe, hq]; exact h3
                · exact hK.out i (by omega))
              clear h3 hq hxe hxm hlen
              go_wp2_with fail
              go_roundw
              case rel => exact ⟨j + 1, ys, by omega, by go_num, hT, KK, hS⟩
              case measure => simp [intOf]; omega
          · obtain rfl : b = j := by omega
            have B8 := Lib.hid hT.out.b
            have CT := Lib.hid (CWT.out ys wr B8.out hT.out.rc hS.out (window_tick fun i h1 h2 => hK.out i h1))
            go_upto_region 23 with fail
            obtain ⟨w8, hw8⟩ : ∃ w8, w8 = wr := ⟨_, rfl⟩
            subst hw8
            obtain ⟨i0, i1, i2, i3, i4, i5, i6, i7, i8, i9, i10, i11⟩ := II.out _ B8.out
            go_wp2_with (first | (go_at_call 15; (with_reducible refine CT.out.mono ?_); rintro e w9 ⟨rfl, hb9⟩; have hb10 := B8.out.trans (hb9.mono B8.out.size); obtain ⟨j0, j1, j2, j3, j4, j5, j6, j7, j8, j9, j10, j11⟩ := II.out _ hb10) | (go_at_call 15; (with_reducible refine (CWX.out true HZW.out _ hb10).mono ?_); rintro e w11 ⟨rfl, hb11⟩; have hb12 := hb10.trans (hb11.mono hb10.size)) | (go_at_call 8; refine (awake27_any _).mono ?_; rintro e wH ⟨rfl, hbH⟩) | fail)
            go_ret
            exact ⟨rfl, BX.out.trans ((hb12.trans (hbH.mono hb12.size)).mono BX.out.size)⟩
      · have hlen := HLN.out
        obtain ⟨x, hxe⟩ : ∃ x, xs.getD k r0 = x := ⟨_, rfl⟩
        have hxm : x ∈ xs := hxe ▸ getD_memR (by omega)
        have HXE := Lib.hid hxe
        have hox := HR.out.ok x hxm
        have hx20 := HX.out x hxm
        obtain ⟨rb, ro, rfl, hrc⟩ := HR.out.at_ (by omega)
        have hc9 := hrc k (by omega)
        rw [hxe] at hc9
        obtain ⟨-, -, -, -, -, -, -, -, -, hc9, -, -⟩ := hc9
        obtain ⟨gb, go, rfl, hgc⟩ := (HG.out.below (Below.refl _ w1)).2 (by have := GN1.out; omega)
        have hg0 := hgc 0 (by have := GN1.out; omega)
        rw [Nat.add_zero] at hg0
        obtain ⟨g0, hg0e⟩ : ∃ g, zs.getD 0 0 = g := ⟨_, rfl⟩
        rw [hg0e] at hg0
        have GM := Lib.hid (show g0 ∈ zs from by
          have hl : 0 < zs.length := by rw [HG.out.len]; have := GN1.out; omega
          rw [← hg0e, List.getD_eq_getElem?_getD, List.getElem?_eq_getElem hl]
          exact List.getElem_mem hl)
        have SB := Lib.hid (show ∀ w', Below w1.heap.size w1 w' → (Below w1.heap.size w1 w' ∧ w'.cell? ⟨rb, ro + k * 12 + 9, none⟩ = some (.slice x.sa x.sn x.sc) ∧ w'.cell? ⟨gb, go, none⟩ = some (.int .i64 g0)) from fun w' hb => ⟨hb, (hb.cell (p := ⟨rb, ro + k * 12 + 9, none⟩) (lt_of_cell hc9)).trans hc9, (hb.cell (p := ⟨gb, go, none⟩) (lt_of_cell hg0)).trans hg0⟩)
        have W3 := Lib.hid (fun (w' : World) (hb : Below w1.heap.size w1 w') => hox.s.news hb)
        have NZ := Lib.hid hox.nz
        have L3 := Lib.hid (show (s3V x.ss).length = x.sn * 3 from by rw [s3V_len, hox.s.1])
        have M1 := Lib.hid (show x.sn ≤ maxLen by unfold maxLen; omega)
        have M2 := Lib.hid (show x.sn * 24 ≤ 140737488355328 by omega)
        obtain ⟨m1, hm1⟩ : ∃ m, x.sn + 1 = m := ⟨_, rfl⟩
        have HM1 := Lib.hid hm1
        have M3 := Lib.hid (show m1 ≤ maxLen by unfold maxLen; omega)
        have M6 := Lib.hid (show m1 ≤ 9223372036854775807 ∧ 0 < m1 by omega)
        have M4 := Lib.hid (show m1 * 24 ≤ 140737488355328 by omega)
        have WS1 := Lib.hid (show ∀ z ∈ x.ss ++ [((77777 : Int), (0 : Int), g0)], wfZ z.1 from fun z hz => by
          rcases List.mem_append.1 hz with hz | hz
          · exact hox.ws z hz
          · simp only [List.mem_singleton] at hz; rw [hz]; show (Lit.int .i64 77777).wf = true; decide)
        have SM1 := Lib.hid (show ∀ (a' : Option Addr) (c' : Nat), ∀ y ∈ xs.set k (sentR x a' m1 c' (x.ss ++ [(77777, 0, g0)])), y.sn ≤ 21 ∧ y.ln ≤ 20 from fun a' c' => fun z hz => by
          rcases List.mem_or_eq_of_mem_set hz with hz | rfl
          · have := HX.out z hz; omega
          · exact ⟨by show m1 ≤ 21; omega, by show x.ln ≤ 20; omega⟩)
        obtain ⟨si, hsi, hsz0, hsz1, hsz2⟩ := info_parts sent_info27
        obtain ⟨ii, hii, hiz0, hiz1, hiz2⟩ := info_parts int_info27
        have k1 : (0 : Int) ≤ (k : Int) := by omega
        have k2 : (k : Int) < (n : Int) := by omega
        have m1' : 0 < gn := GN1.out
        have HKN := Lib.hid (show k < n by omega)
        clear hox hx20 hrc hc9 hgc hg0 hg0e hxe hxm hlen hm1
        go_upto_region 19 with (first | (go_at_call 9; (with_reducible refine (CL4.out _).mono ?_); rintro e w' ⟨rfl, rfl⟩) | (go_at_call 9; (with_reducible refine (CL5.out _).mono ?_); rintro e w' ⟨rfl, rfl⟩) | fail)
        go_cut [] from 82 to 97 (fun wc => ∃ (a' : Option Addr) (c' : Nat), Hid (TX w1 wc tb n (xs.set k (sentR x a' m1 c' (x.ss ++ [(77777, 0, g0)])))))
        case first =>
          have hS0 := SB.out wq.drew T.out.b.drew
          refine wp_region_held_drew (S := (fun w' => Below w1.heap.size w1 w' ∧ w'.cell? ⟨rb, ro + k * 12 + 9, none⟩ = some (.slice x.sa x.sn x.sc) ∧ w'.cell? ⟨gb, go, none⟩ = some (.int .i64 g0))) (by kernel_rfl) hS0 (fun hHeld0 => ?_)
          have TX0 := T.out.below (show Below wq.heap.size wq wq.drew from (Below.refl _ _).drew)
          clear hS0
          generalize wq.drew = X0 at hHeld0 TX0 ⊢
          refine wpAnyH_take (i := 0) (oi := { dst := some 82, op := Op.move (Operand.tmp 13), type := 32, pos := "law.go:88", after := #[], guard := none }) (v := ?vz1) rfl (by kernel_rfl) (by kernel_rfl) (by kernel_rfl) (fun _ _ _ h => h) (Or.inl ⟨by rfl, ?hyz1⟩) (by assumption) ?rest1
          case hyz1 => (intro w hSw; (try dsimp only at hSw); go_simp; (try with_reducible rfl))
          try simp only [Act.put, List.setIfInBounds_toArray, List.set_cons_zero, List.set_cons_succ]
          refine wpAnyH_take (i := 1) (oi := { dst := some 83, op := Op.move (Operand.tmp 15), type := 3, pos := "law.go:88", after := #[], guard := none }) (v := ?vz2) rfl (by kernel_rfl) (by kernel_rfl) (by kernel_rfl) (fun _ _ _ h => h) (Or.inl ⟨by rfl, ?hyz2⟩) (by assumption) ?rest2
          case hyz2 => (intro w hSw; (try dsimp only at hSw); go_simp; (try with_reducible rfl))
          try simp only [Act.put, List.setIfInBounds_toArray, List.set_cons_zero, List.set_cons_succ]
          refine wpAnyH_take (i := 2) (oi := { dst := some 84, op := Op.move (Operand.tmp 1), type := 32, pos := "law.go:88", after := #[], guard := none }) (v := ?vz3) rfl (by kernel_rfl) (by kernel_rfl) (by kernel_rfl) (fun _ _ _ h => h) (Or.inl ⟨by rfl, ?hyz3⟩) (by assumption) ?rest3
          case hyz3 => (intro w hSw; (try dsimp only at hSw); go_simp; (try with_reducible rfl))
          try simp only [Act.put, List.setIfInBounds_toArray, List.set_cons_zero, List.set_cons_succ]
          refine wpAnyH_take (i := 3) (oi := { dst := some 85, op := Op.move (Operand.tmp 15), type := 3, pos := "law.go:88", after := #[], guard := none }) (v := ?vz4) rfl (by kernel_rfl) (by kernel_rfl) (by kernel_rfl) (fun _ _ _ h => h) (Or.inl ⟨by rfl, ?hyz4⟩) (by assumption) ?rest4
          case hyz4 => (intro w hSw; (try dsimp only at hSw); go_simp; (try with_reducible rfl))
          try simp only [Act.put, List.setIfInBounds_toArray, List.set_cons_zero, List.set_cons_succ]
          refine wpAnyH_take (i := 4) (oi := { dst := some 86, op := Op.indexAddr 32 (Operand.tmp 84) (Operand.tmp 85), type := 0, pos := "law.go:88", after := #[{ on := 2, ground := Ground.data }, { on := 3, ground := Ground.data }], guard := none }) (v := ?vz5) rfl (by kernel_rfl) (by kernel_rfl) (by kernel_rfl) (fun _ _ _ h => h) (Or.inl ⟨by rfl, ?hyz5⟩) (by assumption) ?rest5
          case hyz5 => (intro w hSw; (try dsimp only at hSw); go_simp; (try with_reducible rfl))
          try simp only [Act.put, List.setIfInBounds_toArray, List.set_cons_zero, List.set_cons_succ]
          refine wpAnyH_take (i := 5) (oi := { dst := some 87, op := Op.fieldAddr 43 (Operand.tmp 86) 3, type := 0, pos := "law.go:88", after := #[{ on := 4, ground := Ground.data }], guard := none }) (v := ?vz6) rfl (by kernel_rfl) (by kernel_rfl) (by kernel_rfl) (fun _ _ _ h => h) (Or.inl ⟨by rfl, ?hyz6⟩) (by assumption) ?rest6
          case hyz6 => (intro w hSw; (try dsimp only at hSw); go_simp; (try with_reducible rfl))
          try simp only [Act.put, List.setIfInBounds_toArray, List.set_cons_zero, List.set_cons_succ]
          refine wpAnyH_take (i := 6) (oi := { dst := some 88, op := Op.load 41 (Operand.tmp 87), type := 41, pos := "law.go:88", after := #[{ on := 5, ground := Ground.data }], guard := none }) (v := ?vz7) rfl (by kernel_rfl) (by kernel_rfl) (by kernel_rfl) (fun _ _ _ h => h) (Or.inl ⟨by rfl, ?hyz7⟩) (by assumption) ?rest7
          case hyz7 => (intro w hSw; (try dsimp only at hSw); go_simp; (try with_reducible rfl))
          try simp only [Act.put, List.setIfInBounds_toArray, List.set_cons_zero, List.set_cons_succ]
          refine wpAnyH_take (i := 8) (oi := { dst := some 90, op := Op.move (Operand.tmp 3), type := 33, pos := "law.go:88", after := #[], guard := none }) (v := ?vz8) rfl (by kernel_rfl) (by kernel_rfl) (by kernel_rfl) (fun _ _ _ h => h) (Or.inl ⟨by rfl, ?hyz8⟩) (by assumption) ?rest8
          case hyz8 => (intro w hSw; (try dsimp only at hSw); go_simp; (try with_reducible rfl))
          try simp only [Act.put, List.setIfInBounds_toArray, List.set_cons_zero, List.set_cons_succ]
          refine wpAnyH_take (i := 9) (oi := { dst := some 91, op := Op.indexAddr 33 (Operand.tmp 90) (Operand.const (Value.int IntKind.i64 0)), type := 0, pos := "law.go:88", after := #[{ on := 8, ground := Ground.data }], guard := none }) (v := ?vz9) rfl (by kernel_rfl) (by kernel_rfl) (by kernel_rfl) (fun _ _ _ h => h) (Or.inl ⟨by rfl, ?hyz9⟩) (by assumption) ?rest9
          case hyz9 => (intro w hSw; (try dsimp only at hSw); go_simp; (try with_reducible rfl))
          try simp only [Act.put, List.setIfInBounds_toArray, List.set_cons_zero, List.set_cons_succ]
          refine wpAnyH_take (i := 10) (oi := { dst := some 92, op := Op.load 3 (Operand.tmp 91), type := 3, pos := "law.go:88", after := #[{ on := 9, ground := Ground.data }], guard := none }) (v := ?vz10) rfl (by kernel_rfl) (by kernel_rfl) (by kernel_rfl) (fun _ _ _ h => h) (Or.inl ⟨by rfl, ?hyz10⟩) (by assumption) ?rest10
          case hyz10 => (intro w hSw; (try dsimp only at hSw); go_simp; (try with_reducible rfl))
          try simp only [Act.put, List.setIfInBounds_toArray, List.set_cons_zero, List.set_cons_succ]
          refine wpAnyH_take (i := 11) (oi := { dst := some 93, op := Op.build 45 #[(0, Operand.const (Value.int IntKind.i64 77777)), (1, Operand.const (Value.int IntKind.i64 0)), (2, Operand.tmp 92)], type := 45, pos := "law.go:88", after := #[{ on := 10, ground := Ground.data }], guard := none }) (v := ?vz11) rfl (by kernel_rfl) (by kernel_rfl) (by kernel_rfl) (fun _ _ _ h => h) (Or.inl ⟨by rfl, ?hyz11⟩) (by assumption) ?rest11
          case hyz11 => (intro w hSw; (try dsimp only at hSw); go_simp; (try with_reducible rfl))
          try simp only [Act.put, List.setIfInBounds_toArray, List.set_cons_zero, List.set_cons_succ]
          refine wpAnyH_ready (rs := [7, 12]) (by kernel_rfl) (by simp) ?_
          refine AllReadyH.cons (o := { dst := some 89, op := Op.call { callee := Callee.builtin Builtin.append, args := #[Operand.const (Value.slice none 0 0), Operand.tmp 88], argTypes := #[41, 41] }, type := 41, pos := "law.go:88", after := #[{ on := 6, ground := Ground.data }], guard := none }) rfl (fun K hK => ?_)  (AllReadyH.cons (o := { dst := some 94, op := Op.buildSlice 41 1 #[(0, Operand.tmp 93)], type := 41, pos := "law.go:88", after := #[{ on := 11, ground := Ground.data }], guard := none }) rfl (fun K hK => ?_)  AllReadyH.nil)
          · skip
            rw [if_pos (by rfl)]
            refine wp_append_n (Operand.const (Value.slice none 0 0)) (.tmp 88) 41 rfl X0.heap.size 45 si _ 3 24 Try.underlying41 hsi hsz0 hsz1 hsz2 rfl (by decide) (.slice none 0 0) 0 [] (by rfl) (World.ownsRow_nil _ _ _ _) x.sa x.sn x.sc (s3V x.ss) (by rfl) NZ.out L3.out (W3.out _ TX0.b) (s3V_one x.ss) x.sn (Nat.zero_add _) M1.out M2.out (Nat.le_refl _) ?_
            intro a5 c5 X1 O5 b5
            rw [List.nil_append] at O5
            have TX1 := TX0.below b5
            have gt5 : tb < X0.heap.size := TX0.lt
            refine hK.out _ _ (SB.out _ TX1.b) (fun hHeld1 => ?_)
            clear hK K
            try simp only [Act.put, List.setIfInBounds_toArray, List.set_cons_zero, List.set_cons_succ]
            refine wpAnyH_ready (rs := [12]) (by kernel_rfl) (by simp) ?_
            refine AllReadyH.cons (o := { dst := some 94, op := Op.buildSlice 41 1 #[(0, Operand.tmp 93)], type := 41, pos := "law.go:88", after := #[{ on := 11, ground := Ground.data }], guard := none }) rfl (fun K hK => ?_)  AllReadyH.nil
            go_simp
            have b6 := below_one X1 (.cells #[.int .i64 77777, .int .i64 0, .int .i64 g0] 45)
            have N6 := heap_alloc_new X1 (.cells #[.int .i64 77777, .int .i64 0, .int .i64 g0] 45)
            have TX2 := TX1.below b6
            obtain ⟨sb, hsb⟩ : ∃ sb, X1.heap.size = sb := ⟨_, rfl⟩
            rw [hsb] at N6 ⊢
            generalize X1.alloc (.cells #[.int .i64 77777, .int .i64 0, .int .i64 g0] 45) = X2 at b6 N6 TX2 ⊢
            refine hK.out _ _ (SB.out _ TX2.b) (fun hHeld2 => ?_)
            clear hK K
            have LE5 : X0.heap.size ≤ X2.heap.size := Nat.le_trans b5.size b6.size
            replace O5 := owns_below O5 b6
            try simp only [Act.put, List.setIfInBounds_toArray, List.set_cons_zero, List.set_cons_succ]
            refine wpAnyH_ready (rs := [13]) (by kernel_rfl) (by simp) ?_
            refine AllReadyH.cons (o := { dst := some 95, op := Op.call { callee := Callee.builtin Builtin.append, args := #[Operand.tmp 89, Operand.tmp 94], argTypes := #[41, 41] }, type := 41, pos := "law.go:88", after := #[{ on := 7, ground := Ground.data }, { on := 12, ground := Ground.data }, { on := 7, ground := Ground.chain }], guard := none }) rfl (fun K hK => ?_)  AllReadyH.nil
            rw [if_pos (by rfl)]
            refine wp_append_n (.tmp 89) (.tmp 94) 41 rfl _ 45 si _ 3 24 Try.underlying41 hsi hsz0 hsz1 hsz2 rfl (by decide) (.slice a5 x.sn c5) x.sn _ (by rfl) O5 (some ⟨sb, 0, none⟩) 1 1 [.int .i64 77777, .int .i64 0, .int .i64 g0] (by rfl) (fun h => by cases h) rfl (new3 N6) (by simp [Value.oneCell']) m1 HM1.out M3.out M4.out LE5 ?_
            intro a7 c7 X7 O7 b7
            have TX7 := TX2.from b7 gt5
            refine hK.out _ _ (SB.out _ TX7.b) (fun hHeld7 => ?_)
            clear hK K
            try simp only [Act.put, List.setIfInBounds_toArray, List.set_cons_zero, List.set_cons_succ]
            refine wpAnyH_take (i := 14) (oi := { dst := some 96, op := Op.indexAddr 32 (Operand.tmp 82) (Operand.tmp 83), type := 0, pos := "law.go:88", after := #[{ on := 0, ground := Ground.data }, { on := 1, ground := Ground.data }, { on := 0, ground := Ground.phase }, { on := 1, ground := Ground.phase }, { on := 2, ground := Ground.phase }, { on := 3, ground := Ground.phase }, { on := 4, ground := Ground.phase }, { on := 5, ground := Ground.phase }, { on := 6, ground := Ground.phase }, { on := 7, ground := Ground.phase }, { on := 8, ground := Ground.phase }, { on := 9, ground := Ground.phase }, { on := 10, ground := Ground.phase }, { on := 11, ground := Ground.phase }, { on := 12, ground := Ground.phase }, { on := 13, ground := Ground.phase }], guard := none }) (v := ?vz12) rfl (by kernel_rfl) (by kernel_rfl) (by kernel_rfl) (fun _ _ _ h => h) (Or.inl ⟨by rfl, ?hyz12⟩) (by assumption) ?rest12
            case hyz12 => (intro w hSw; (try dsimp only at hSw); go_simp; (try with_reducible rfl))
            try simp only [Act.put, List.setIfInBounds_toArray, List.set_cons_zero, List.set_cons_succ]
            refine wpAnyH_take (i := 15) (oi := { dst := some 97, op := Op.fieldAddr 43 (Operand.tmp 96) 3, type := 0, pos := "law.go:88", after := #[{ on := 14, ground := Ground.data }, { on := 0, ground := Ground.phase }, { on := 1, ground := Ground.phase }, { on := 2, ground := Ground.phase }, { on := 3, ground := Ground.phase }, { on := 4, ground := Ground.phase }, { on := 5, ground := Ground.phase }, { on := 6, ground := Ground.phase }, { on := 7, ground := Ground.phase }, { on := 8, ground := Ground.phase }, { on := 9, ground := Ground.phase }, { on := 10, ground := Ground.phase }, { on := 11, ground := Ground.phase }, { on := 12, ground := Ground.phase }, { on := 13, ground := Ground.phase }], guard := none }) (v := ?vz13) rfl (by kernel_rfl) (by kernel_rfl) (by kernel_rfl) (fun _ _ _ h => h) (Or.inl ⟨by rfl, ?hyz13⟩) (by assumption) ?rest13
            case hyz13 => (intro w hSw; (try dsimp only at hSw); go_simp; (try with_reducible rfl))
            try simp only [Act.put, List.setIfInBounds_toArray, List.set_cons_zero, List.set_cons_succ]
            refine wpAnyH_ready (rs := [16]) (by kernel_rfl) (by simp) ?_
            refine AllReadyH.cons (o := { dst := none, op := Op.store 41 (Operand.tmp 97) (Operand.tmp 95), type := 0, pos := "law.go:88", after := #[{ on := 15, ground := Ground.data }, { on := 13, ground := Ground.data }, { on := 13, ground := Ground.chain }, { on := 0, ground := Ground.phase }, { on := 1, ground := Ground.phase }, { on := 2, ground := Ground.phase }, { on := 3, ground := Ground.phase }, { on := 4, ground := Ground.phase }, { on := 5, ground := Ground.phase }, { on := 6, ground := Ground.phase }, { on := 7, ground := Ground.phase }, { on := 8, ground := Ground.phase }, { on := 9, ground := Ground.phase }, { on := 10, ground := Ground.phase }, { on := 11, ground := Ground.phase }, { on := 12, ground := Ground.phase }, { on := 13, ground := Ground.phase }], guard := none }) rfl (fun K hK => ?_)  AllReadyH.nil
            rw [if_pos (by rfl)]
            obtain ⟨-, -, -, -, -, -, -, -, -, cq, -, -⟩ := TX7.at_ (k := k) (by omega)
            have fq := TX7.fz (k * 12 + 9) (by omega)
            have TX8 := TX7.tx.sent (k := k) (by omega) HXE.out (holdsS3_own (s3V_snoc O7)) M6.out.1 WS1.out (own_none O7 M6.out.2) (own_apart3 O7 gt5)
            go_simp
            refine hK.out _ _ (SB.out _ TX8.b) (fun hHeldE => ?_)
            try simp only [Act.put]
            refine wpAnyH_done (by kernel_rfl) ?_ _
            go_wp2_with fail
            go_meet
            exact ⟨a7, c7, Lib.hid TX8⟩
          · skip
            go_simp
            have b6 := below_one X0 (.cells #[.int .i64 77777, .int .i64 0, .int .i64 g0] 45)
            have N6 := heap_alloc_new X0 (.cells #[.int .i64 77777, .int .i64 0, .int .i64 g0] 45)
            have TX1 := TX0.below b6
            obtain ⟨sb, hsb⟩ : ∃ sb, X0.heap.size = sb := ⟨_, rfl⟩
            rw [hsb] at N6 ⊢
            generalize X0.alloc (.cells #[.int .i64 77777, .int .i64 0, .int .i64 g0] 45) = X1 at b6 N6 TX1 ⊢
            refine hK.out _ _ (SB.out _ TX1.b) (fun hHeld1 => ?_)
            clear hK K
            try simp only [Act.put, List.setIfInBounds_toArray, List.set_cons_zero, List.set_cons_succ]
            refine wpAnyH_ready (rs := [7]) (by kernel_rfl) (by simp) ?_
            refine AllReadyH.cons (o := { dst := some 89, op := Op.call { callee := Callee.builtin Builtin.append, args := #[Operand.const (Value.slice none 0 0), Operand.tmp 88], argTypes := #[41, 41] }, type := 41, pos := "law.go:88", after := #[{ on := 6, ground := Ground.data }], guard := none }) rfl (fun K hK => ?_)  AllReadyH.nil
            rw [if_pos (by rfl)]
            refine wp_append_n (Operand.const (Value.slice none 0 0)) (.tmp 88) 41 rfl X1.heap.size 45 si _ 3 24 Try.underlying41 hsi hsz0 hsz1 hsz2 rfl (by decide) (.slice none 0 0) 0 [] (by rfl) (World.ownsRow_nil _ _ _ _) x.sa x.sn x.sc (s3V x.ss) (by rfl) NZ.out L3.out (W3.out _ TX1.b) (s3V_one x.ss) x.sn (Nat.zero_add _) M1.out M2.out (Nat.le_refl _) ?_
            intro a5 c5 X2 O5 b5
            rw [List.nil_append] at O5
            have TX2 := TX1.below b5
            have gt5 : tb < X1.heap.size := TX1.lt
            refine hK.out _ _ (SB.out _ TX2.b) (fun hHeld2 => ?_)
            clear hK K
            have LE5 : X1.heap.size ≤ X2.heap.size := b5.size
            replace N6 := keepT N6 b5
            try simp only [Act.put, List.setIfInBounds_toArray, List.set_cons_zero, List.set_cons_succ]
            refine wpAnyH_ready (rs := [13]) (by kernel_rfl) (by simp) ?_
            refine AllReadyH.cons (o := { dst := some 95, op := Op.call { callee := Callee.builtin Builtin.append, args := #[Operand.tmp 89, Operand.tmp 94], argTypes := #[41, 41] }, type := 41, pos := "law.go:88", after := #[{ on := 7, ground := Ground.data }, { on := 12, ground := Ground.data }, { on := 7, ground := Ground.chain }], guard := none }) rfl (fun K hK => ?_)  AllReadyH.nil
            rw [if_pos (by rfl)]
            refine wp_append_n (.tmp 89) (.tmp 94) 41 rfl _ 45 si _ 3 24 Try.underlying41 hsi hsz0 hsz1 hsz2 rfl (by decide) (.slice a5 x.sn c5) x.sn _ (by rfl) O5 (some ⟨sb, 0, none⟩) 1 1 [.int .i64 77777, .int .i64 0, .int .i64 g0] (by rfl) (fun h => by cases h) rfl (new3 N6) (by simp [Value.oneCell']) m1 HM1.out M3.out M4.out LE5 ?_
            intro a7 c7 X7 O7 b7
            have TX7 := TX2.from b7 gt5
            refine hK.out _ _ (SB.out _ TX7.b) (fun hHeld7 => ?_)
            clear hK K
            try simp only [Act.put, List.setIfInBounds_toArray, List.set_cons_zero, List.set_cons_succ]
            refine wpAnyH_take (i := 14) (oi := { dst := some 96, op := Op.indexAddr 32 (Operand.tmp 82) (Operand.tmp 83), type := 0, pos := "law.go:88", after := #[{ on := 0, ground := Ground.data }, { on := 1, ground := Ground.data }, { on := 0, ground := Ground.phase }, { on := 1, ground := Ground.phase }, { on := 2, ground := Ground.phase }, { on := 3, ground := Ground.phase }, { on := 4, ground := Ground.phase }, { on := 5, ground := Ground.phase }, { on := 6, ground := Ground.phase }, { on := 7, ground := Ground.phase }, { on := 8, ground := Ground.phase }, { on := 9, ground := Ground.phase }, { on := 10, ground := Ground.phase }, { on := 11, ground := Ground.phase }, { on := 12, ground := Ground.phase }, { on := 13, ground := Ground.phase }], guard := none }) (v := ?vz14) rfl (by kernel_rfl) (by kernel_rfl) (by kernel_rfl) (fun _ _ _ h => h) (Or.inl ⟨by rfl, ?hyz14⟩) (by assumption) ?rest14
            case hyz14 => (intro w hSw; (try dsimp only at hSw); go_simp; (try with_reducible rfl))
            try simp only [Act.put, List.setIfInBounds_toArray, List.set_cons_zero, List.set_cons_succ]
            refine wpAnyH_take (i := 15) (oi := { dst := some 97, op := Op.fieldAddr 43 (Operand.tmp 96) 3, type := 0, pos := "law.go:88", after := #[{ on := 14, ground := Ground.data }, { on := 0, ground := Ground.phase }, { on := 1, ground := Ground.phase }, { on := 2, ground := Ground.phase }, { on := 3, ground := Ground.phase }, { on := 4, ground := Ground.phase }, { on := 5, ground := Ground.phase }, { on := 6, ground := Ground.phase }, { on := 7, ground := Ground.phase }, { on := 8, ground := Ground.phase }, { on := 9, ground := Ground.phase }, { on := 10, ground := Ground.phase }, { on := 11, ground := Ground.phase }, { on := 12, ground := Ground.phase }, { on := 13, ground := Ground.phase }], guard := none }) (v := ?vz15) rfl (by kernel_rfl) (by kernel_rfl) (by kernel_rfl) (fun _ _ _ h => h) (Or.inl ⟨by rfl, ?hyz15⟩) (by assumption) ?rest15
            case hyz15 => (intro w hSw; (try dsimp only at hSw); go_simp; (try with_reducible rfl))
            try simp only [Act.put, List.setIfInBounds_toArray, List.set_cons_zero, List.set_cons_succ]
            refine wpAnyH_ready (rs := [16]) (by kernel_rfl) (by simp) ?_
            refine AllReadyH.cons (o := { dst := none, op := Op.store 41 (Operand.tmp 97) (Operand.tmp 95), type := 0, pos := "law.go:88", after := #[{ on := 15, ground := Ground.data }, { on := 13, ground := Ground.data }, { on := 13, ground := Ground.chain }, { on := 0, ground := Ground.phase }, { on := 1, ground := Ground.phase }, { on := 2, ground := Ground.phase }, { on := 3, ground := Ground.phase }, { on := 4, ground := Ground.phase }, { on := 5, ground := Ground.phase }, { on := 6, ground := Ground.phase }, { on := 7, ground := Ground.phase }, { on := 8, ground := Ground.phase }, { on := 9, ground := Ground.phase }, { on := 10, ground := Ground.phase }, { on := 11, ground := Ground.phase }, { on := 12, ground := Ground.phase }, { on := 13, ground := Ground.phase }], guard := none }) rfl (fun K hK => ?_)  AllReadyH.nil
            rw [if_pos (by rfl)]
            obtain ⟨-, -, -, -, -, -, -, -, -, cq, -, -⟩ := TX7.at_ (k := k) (by omega)
            have fq := TX7.fz (k * 12 + 9) (by omega)
            have TX8 := TX7.tx.sent (k := k) (by omega) HXE.out (holdsS3_own (s3V_snoc O7)) M6.out.1 WS1.out (own_none O7 M6.out.2) (own_apart3 O7 gt5)
            go_simp
            refine hK.out _ _ (SB.out _ TX8.b) (fun hHeldE => ?_)
            try simp only [Act.put]
            refine wpAnyH_done (by kernel_rfl) ?_ _
            go_wp2_with fail
            go_meet
            exact ⟨a7, c7, Lib.hid TX8⟩
        case rest =>
          obtain ⟨a7, c7, hX⟩ := hcut
          obtain ⟨y, hy⟩ : ∃ y, sentR x a7 m1 c7 (x.ss ++ [(77777, 0, g0)]) = y := ⟨_, rfl⟩
          obtain ⟨YS, hYS⟩ : ∃ YS, xs.set k y = YS := ⟨_, rfl⟩
          have SM2 := Lib.hid (SM1.out a7 c7)
          rw [hy, hYS] at hX SM2
          have HY := Lib.hid (show (77777, 0, g0) ∈ y.ss from by rw [← hy]; show _ ∈ x.ss ++ [_]; exact List.mem_append_right _ (List.mem_singleton.2 rfl))
          have HYS := Lib.hid hYS
          clear hy hYS SM1
          obtain ⟨q, hq⟩ : ∃ q, b - 1 = q := ⟨_, rfl⟩
          have HQ := Lib.hid hq
          have e3 : (b : Int) - 1 = (q : Int) := by omega
          have e4 : IntKind.i64.wrap (q : Int) = (q : Int) := by rw [IntKind.wrap_i64]; omega
          have q1 : (0 : Int) ≤ (q : Int) := by omega
          have q2 : (q : Int) < (n : Int) := by omega
          have HQN := Lib.hid (show q < n by omega)
          have HB1 := Lib.hid (show 1 ≤ b ∧ b ≤ n ∧ k < b by omega)
          obtain ⟨x2, hx2⟩ : ∃ x2, YS.getD q r0 = x2 := ⟨_, rfl⟩
          have HX2 := Lib.hid hx2
          have hx2m : x2 ∈ YS := hx2 ▸ getD_memR (by rw [hX.out.rc.len]; exact HQN.out)
          have hox := hX.out.rc.ok x2 hx2m
          have hat := hX.out.at_ HQN.out
          rw [hx2] at hat
          obtain ⟨-, -, -, -, -, -, -, -, -, -, -, hc11⟩ := hat
          have hl1 := (SM2.out x2 hx2m).2
          have NZ2 := Lib.hid hox.lz
          have L2 := Lib.hid (show (numsV x2.ls).length = x2.ln * 1 from by rw [numsV, List.length_map, hox.l.1, Nat.mul_one])
          have W2 := Lib.hid (holdsI_news hox.l (Below.refl _ wc))
          have M5 := Lib.hid (show x2.ln ≤ maxLen ∧ x2.ln * 8 ≤ 140737488355328 ∧ x2.ln + 1 ≤ maxLen ∧ (x2.ln + 1) * 8 ≤ 140737488355328 ∧ x2.ln + 1 ≤ 9223372036854775807 ∧ 0 < x2.ln + 1 by unfold maxLen; omega)
          have WS2 := Lib.hid (show ∀ z ∈ x2.ls ++ [(77777 : Int)], wfZ z from fun z hz => by
            rcases List.mem_append.1 hz with hz | hz
            · exact hox.wl z hz
            · simp only [List.mem_singleton] at hz; rw [hz]; show (Lit.int .i64 77777).wf = true; decide)
          obtain ⟨la, ln, lc, hla, hln, hlc⟩ : ∃ la ln lc, x2.la = la ∧ x2.ln = ln ∧ x2.lc = lc := ⟨_, _, _, rfl, rfl, rfl⟩
          have SM3 := Lib.hid (show ∀ (a' : Option Addr) (c' : Nat), ∀ z ∈ YS.set q (lostR x2 a' (ln + 1) c' (x2.ls ++ [77777])), z.sn ≤ 1000 ∧ z.ln ≤ 1000 from fun a' c' => sent_small (x := x2) (fun z hz => by have := SM2.out z hz; omega) ⟨by have := (SM2.out x2 hx2m).1; show x2.sn ≤ 1000; omega, by have := (SM2.out x2 hx2m).2; show ln + 1 ≤ 1000; omega⟩)
          rw [hla, hln, hlc] at hc11
          rw [hla, hln, hlc] at NZ2
          rw [hln] at L2 M5
          rw [hla] at W2
          clear hox hl1 hx2m hx2 hla hln hlc hq hb30
          go_upto_region 23 with (first
            | (at_builtin; refine wpList_append_nilF rfl (Operand.const (Value.slice none 0 0)) (.tmp 106) 33 rfl wc.heap.size 3 ii _ 1 8 Try.underlying33 hii hiz0 hiz1 hiz2 rfl (by decide) rfl la ln lc (numsV x2.ls) rfl NZ2.out L2.out W2.out (numsV_one x2.ls) M5.out.1 M5.out.2.1 (Nat.le_refl _) ?_; intro a9 c9 w9 O9 b9 hn9)
            | (at_builtin; refine wpList_append_any rfl (.tmp 107) (.tmp 108) 33 rfl wc.heap.size 3 ii _ 1 8 Try.underlying33 hii hiz0 hiz1 hiz2 rfl (by decide) (.slice a9 ln c9) ln (numsV x2.ls) rfl (owns_below O9 (below_one w9 _)) (some ⟨w9.heap.size, 0, none⟩) 1 1 [.int .i64 77777] rfl (fun h => by cases h) rfl (one_new w9 (.int .i64 77777) 3 (0, 0)) (one_int .i64 77777) M5.out.2.2.1 M5.out.2.2.2.1 (Nat.le_trans b9.size (below_one w9 _).size) ?_; intro a10 c10 w10 O10 b10 hn10; have TX10 := Lib.hid (hX.out.below ((b9.trans ((below_one w9 (.cells #[.int .i64 77777] 3)).mono b9.size)).trans b10)); have hc12 := (TX10.out.at_ HQN.out).2.2.2.2.2.2.2.2.2.2.2; have hf12 := TX10.out.fz (q * 12 + 11) (by have := HQN.out; omega); rw [HX2.out] at hc12)
            | fail)
          have TX11 := Lib.hid (TX10.out.lost HQN.out HX2.out (holdsZ_own (by rw [numsV_app]; exact O10)) M5.out.2.2.2.2.1 WS2.out (own_none O10 M5.out.2.2.2.2.2) (own_apart3 O10 hX.out.lt))
          generalize hw8 : w10.setCell ⟨tb, q * 12 + 11, none⟩ (.slice a10 (ln + 1) c10) = w8 at TX11
          try rw [hw8]
          have B8 := Lib.hid TX11.out.b
          have WL := Lib.hid (show windowB c zs (YS.set q (lostR x2 a10 (ln + 1) c10 (x2.ls ++ [77777]))) 0 (b : Int) = false from by
            have h1 := HB1.out
            have h2 := HYS.out
            have h3 := HLN.out
            rw [← h2, ← HQ.out]
            refine window_lose h1.1 (by omega) h1.2.2 GM.out HY.out (show (77777 : Int) ∈ x2.ls ++ [77777] from List.mem_append_right _ (List.mem_singleton.2 rfl)) ?_
            rw [h2, HQ.out, HX2.out]
            rfl)
          have CT := Lib.hid (CWT.out _ w8 B8.out TX11.out.rc (SM3.out a10 c10) WL.out)
          clear hw8 TX11 TX10 hc12 hf12 hc11 O9 O10 b9 b10 hn9 hn10
          obtain ⟨i0, i1, i2, i3, i4, i5, i6, i7, i8, i9, i10, i11⟩ := II.out _ B8.out
          go_wp2_with (first | (go_at_call 15; (with_reducible refine CT.out.mono ?_); rintro e w9 ⟨rfl, hb9⟩; have hb10 := B8.out.trans (hb9.mono B8.out.size); obtain ⟨j0, j1, j2, j3, j4, j5, j6, j7, j8, j9, j10, j11⟩ := II.out _ hb10) | (go_at_call 15; (with_reducible refine (CWX.out true HZW.out _ hb10).mono ?_); rintro e w11 ⟨rfl, hb11⟩; have hb12 := hb10.trans (hb11.mono hb10.size)) | (go_at_call 8; refine (awake27_any _).mono ?_; rintro e wH ⟨rfl, hbH⟩) | fail)
          go_ret
          exact ⟨rfl, BX.out.trans ((hb12.trans (hbH.mono hb12.size)).mono BX.out.size)⟩
end Go.Proofs.Yteloiibejkflhaa
