/- leases: the walk of LeaseRises -/
import Derived.Test.YtphcmokcdaiphaaLw
namespace Go.Proofs.Ytphcmokcdaiphaa
open Go.RowKit
set_option linter.unusedVariables false
theorem epoch_is {s : Lt} {x : Int} (b : Nat) (k : Int) (w : World) (h : Tab w b s) (hg : Good s) (hx : epochS s k = x) :
    Calls Try.prog 17 #[.pointer (some ⟨b, 0, none⟩), .int .i64 k] w fun e w' => e = .returned (.int .i64 x) ∧ w = w' := by subst hx; exact epoch_any b k w h hg
theorem life_is {s : Lt} {x : Int} (b : Nat) (k : Int) (w : World) (h : Tab w b s) (hg : Good s) (hx : lifeS s k = x) :
    Calls Try.prog 18 #[.pointer (some ⟨b, 0, none⟩), .int .i64 k] w fun e w' => e = .returned (.int .i64 x) ∧ w = w' := by subst hx; exact life_any b k w h hg
set_option maxRecDepth 100000 in
set_option maxHeartbeats 6400000 in
theorem leaseRises_any (xs : Nat → ActV) (a : Option Addr) (m ca : Nat) (w : World) (hh : HoldsA w a m xs) (hl63 : m ≤ 9223372036854775807) :
    Calls Try.prog 4 #[.slice a m ca] w fun e w' => e = .returned (.bool true) ∧ Below w.heap.size w w' := by
  have HH := Lib.hid hh
  clear hh
  by_cases hlong : 100 < m
  · go_enter Try.func4, Try.ntmps4
    go_wp2_with fail
    refine (awake_any _).mono ?_
    rintro e w' ⟨rfl, hb⟩
    go_wp2_with fail
    go_ret
    exact ⟨rfl, hb⟩
  have hm60 : m ≤ 100 := by omega
  have HN := Lib.hid (show (1 ≤ (3 : Int) ∧ (3 : Int) ≤ 5) ∧ 1 ≤ (4 : Int) ∧ (4 : Int) ≤ 1000 by omega)
  clear hlong
  go_enter Try.func4, Try.ntmps4
  go_wp2_with fail
  refine (new_good 3 4 _ HN.out).mono ?_
  rintro e w0 ⟨rfl, hw0⟩
  have T0 := Lib.hid (hw0 ▸ new_is_tab w 3 4 _)
  have L0 := Lib.hid (show Below w.heap.size w w0 from hw0 ▸ below_one w _)
  have G0 := Lib.hid (new_is_good HN.out)
  clear hw0
  go_wp2_with fail
  obtain ⟨b, hb⟩ : ∃ b, w.heap.size = b := ⟨_, rfl⟩
  have HB := Lib.hid (Nat.le_of_eq hb)
  rw [hb] at T0
  simp only [hb]
  clear hb
  go_loopw [5] (fun i wr => ∃ (j : Nat) (s : Lt), j ≤ m ∧ i = .int .i64 j ∧ Hid (Good s) ∧ Hid (s.N = 3) ∧ Hid (Tab wr b s) ∧ Hid (Below w.heap.size w wr)) (fun i _ => m - (intOf i).toNat)
  case atStart => exact ⟨0, _, by omega, rfl, G0, Lib.hid rfl, T0, L0⟩
  case round =>
    obtain ⟨j, s, hj, rfl, hG, hN3, hT, hW⟩ := hrel
    by_cases hlt : j < m
    · obtain ⟨ab, ao, rfl, hcell⟩ := (HH.out.below (w' := wr) hW.out) (by omega)
      obtain ⟨c0, c1, c2, c3⟩ := hcell j hlt
      clear hcell
      obtain ⟨x, hx⟩ : ∃ x, xs j = x := ⟨_, rfl⟩
      rw [hx] at c0 c1 c2 c3
      clear hx
      have hbw : b < wr.heap.size := hT.out.lt
      have hws : w.heap.size ≤ wr.heap.size := hW.out.size
      have R0 : Ris w b wr.heap.size (wr.heap.size + 1) (wr.heap.size + 2) s x (fun _ => 0) (fun _ => 0) (((wr.alloc (.cells #[.bool x.q, .int .i64 x.k, .int .i64 x.n, .int .i64 x.t] 33)).alloc (.cells #[.int .i64 0, .int .i64 0, .int .i64 0, .int .i64 0] 47)).alloc (.cells #[.int .i64 0, .int .i64 0, .int .i64 0, .int .i64 0] 47)) := by
        have a1 := below_one wr (.cells #[.bool x.q, .int .i64 x.k, .int .i64 x.n, .int .i64 x.t] 33)
        have x1 := new_is_act wr x 33
        have z1 : (wr.alloc (.cells #[.bool x.q, .int .i64 x.k, .int .i64 x.n, .int .i64 x.t] 33)).heap.size = wr.heap.size + 1 := by simp
        generalize wr.alloc (.cells #[.bool x.q, .int .i64 x.k, .int .i64 x.n, .int .i64 x.t] 33) = v1 at *
        have a2 := below_one v1 (.cells #[.int .i64 0, .int .i64 0, .int .i64 0, .int .i64 0] 47)
        have x2 := new_arr v1 47
        have z2 : (v1.alloc (.cells #[.int .i64 0, .int .i64 0, .int .i64 0, .int .i64 0] 47)).heap.size = v1.heap.size + 1 := by simp
        generalize v1.alloc (.cells #[.int .i64 0, .int .i64 0, .int .i64 0, .int .i64 0] 47) = v2 at *
        have a3 := below_one v2 (.cells #[.int .i64 0, .int .i64 0, .int .i64 0, .int .i64 0] 47)
        have x3 := new_arr v2 47
        generalize v2.alloc (.cells #[.int .i64 0, .int .i64 0, .int .i64 0, .int .i64 0] 47) = v3 at *
        rw [show wr.heap.size + 1 = v1.heap.size from z1.symm, show wr.heap.size + 2 = v2.heap.size by omega]
        have a12 := a1.trans (a2.mono a1.size)
        have a123 := a12.trans (a3.mono a12.size)
        exact ⟨hG.out, hN3.out, hT.out.below a123, (x1.below a2).below a3, x2.below a3, x3, hW.out.trans (a123.mono hW.out.size), HB.out, by omega, by omega, by omega, by omega, by omega, by omega, by omega, by omega⟩
      have R0 := Lib.hid R0
      obtain ⟨z, k, n, t⟩ := x
      go_wp2_with fail
      generalize ((wr.alloc (.cells #[.bool z, .int .i64 k, .int .i64 n, .int .i64 t] 33)).alloc (.cells #[.int .i64 0, .int .i64 0, .int .i64 0, .int .i64 0] 47)).alloc (.cells #[.int .i64 0, .int .i64 0, .int .i64 0, .int .i64 0] 47) = wx at *
      generalize wr.heap.size + 2 = q at *
      generalize wr.heap.size + 1 = p at *
      generalize wr.heap.size = cx at *
      clear c0 c1 c2 c3 hT hW HH hbw hws
      go_loopw [9] (fun kv wr2 => ∃ (i : Nat) (f g : Nat → Int), 1 ≤ i ∧ i ≤ 4 ∧ kv = .int .i64 i ∧ Hid (Ris w b cx p q s ⟨z, k, n, t⟩ f g wr2) ∧ Hid (∀ j : Nat, 1 ≤ j → j < i → f j = epochS s j ∧ g j = lifeS s j)) (fun kv _ => 4 - (intOf kv).toNat)
      case atStart => exact ⟨1, _, _, by omega, by omega, rfl, R0, Lib.hid (fun j h1 h2 => by omega)⟩
      case round =>
        obtain ⟨i, f, g, hi1, hi2, rfl, hR, hF⟩ := hrel
        by_cases hi3 : i ≤ 3
        · obtain ⟨ep, hep⟩ : ∃ ep, epochS s i = ep := ⟨_, rfl⟩
          obtain ⟨lf, hlf⟩ : ∃ lf, lifeS s i = lf := ⟨_, rfl⟩
          have EP := Lib.hid hep; have LF := Lib.hid hlf
          have g1 : (0 : Int) ≤ (i : Int) := by omega
          have g2 : (i : Int) < 4 := by omega
          have g3 : i < 4 := by omega
          have d1 := hR.out.af.c i g3
          have d2 := hR.out.ag.c i g3
          have f1 := hR.out.af.fr i
          have f2 := hR.out.ag.fr i
          have TD := Lib.hid (hR.out.ts.below (Below.refl _ _).drew)
          have n6 := hR.out.n6
          clear hep hlf R0
          go_upto_region 14 with fail
          go_region_with (first | (go_at_call 17; refine (epoch_is b i _ TD.out hG.out EP.out).mono ?_; rintro e w' ⟨rfl, rfl⟩) | (go_at_call 18; refine (life_is b i _ TD.out hG.out LF.out).mono ?_; rintro e w' ⟨rfl, rfl⟩))
          have R1 := Lib.hid (((hR.out.setF i ep g3).setG i lf g3).more (Below.refl _ _).drew)
          generalize ((wr.setCell ⟨p, i, none⟩ (.int .i64 ep)).setCell ⟨q, i, none⟩ (.int .i64 lf)).drew = wy at *
          clear hR d1 d2 f1 f2 TD
          go_wp2_with fail
          go_roundw
          case rel =>
            refine ⟨i + 1, _, _, by omega, by omega, by go_num, R1, Lib.hid (fun j h1 h2 => ?_)⟩
            by_cases e : j = i
            · subst e; rw [upd_at, upd_at]; exact ⟨EP.out.symm, LF.out.symm⟩
            · rw [upd_ne _ _ _ _ e, upd_ne _ _ _ _ e]; exact hF.out j h1 (by omega)
          case measure => simp [intOf]; omega
        · obtain rfl : i = 4 := by omega
          have Q0 := hR.out.ax.q
          have Q1 := hR.out.ax.k
          have Q2 := hR.out.ax.n
          have Q3 := hR.out.ax.t
          simp only at Q0 Q1 Q2 Q3
          clear R0
          go_upto_if 51 with fail
          go_cut [11] from 26 to 129 (fun _ wc => ∃ s', Hid (Ris w b cx p q s' ⟨z, k, n, t⟩ f g wc) ∧ Hid (∀ kk : Int, 1 ≤ kk → Risen s s' z k n kk))
          case first =>
            cases z
            · go_wp2_with fail
              refine (hello_any b k n t _ hR.out.ts hG.out).mono ?_
              rintro r w2 ⟨rfl, hT1⟩
              have R1 := Lib.hid (hR.out.act hT1 (hello_good hG.out k n t) (hello_NT s k n t).1)
              clear hT1
              go_wp2_with fail
              go_meet
              case rel => exact ⟨_, R1, Lib.hid (fun kk hk => risen_hello s k n t kk hk)⟩
            · go_wp2_with fail
              refine (seen_any b k n t _ hR.out.ts hG.out).mono ?_
              rintro r w2 ⟨rfl, hT1⟩
              have R1 := Lib.hid (hR.out.act hT1 (seen_good hG.out k n t) (seen_NT s k n t).1)
              clear hT1
              go_wp2_with fail
              go_meet
              case rel => exact ⟨_, R1, Lib.hid (fun kk hk => risen_seen s k n t kk)⟩
          case rest =>
            obtain ⟨s', hR2, hS⟩ := hcut
            clear Q0 Q1 Q2 Q3 hR
            go_wp2_with fail
            go_loopw [10] (fun kv wr2 => ∃ i : Nat, 1 ≤ i ∧ i ≤ 4 ∧ kv = .int .i64 i ∧ Hid (Ris w b cx p q s' ⟨z, k, n, t⟩ f g wr2)) (fun kv _ => 4 - (intOf kv).toNat)
            case atStart => exact ⟨1, by omega, by omega, rfl, hR2⟩
            case round =>
              obtain ⟨i, hi1, hi2, rfl, hR⟩ := hrel
              by_cases hi3 : i ≤ 3
              · obtain ⟨hfe, hge⟩ := hF.out i hi1 (by omega)
                have hri := hS.out i (by omega)
                unfold Risen at hri
                obtain ⟨e0, he0⟩ : ∃ e0, epochS s i = e0 := ⟨_, rfl⟩
                obtain ⟨l0, hl0⟩ : ∃ l0, lifeS s i = l0 := ⟨_, rfl⟩
                obtain ⟨e1, he1⟩ : ∃ e1, epochS s' i = e1 := ⟨_, rfl⟩
                obtain ⟨l1, hl1⟩ : ∃ l1, lifeS s' i = l1 := ⟨_, rfl⟩
                rw [he0, hl0, he1, hl1] at hri
                rw [he0] at hfe; rw [hl0] at hge
                have d1 := hR.out.af.c i (by omega)
                have d2 := hR.out.ag.c i (by omega)
                rw [hfe] at d1; rw [hge] at d2
                have Q0 := hR.out.ax.q
                have Q1 := hR.out.ax.k
                have Q2 := hR.out.ax.n
                simp only at Q0 Q1 Q2
                have hE := Lib.hid (fun nn => (epoch_is b i _ (hR.out.ts.below (below_drewN wr nn)) hR.out.g' he1).mono (fun _ _ h => (⟨h.1, h.2.symm⟩ : _ ∧ _)))
                have hL := Lib.hid (fun nn => (life_is b i _ (hR.out.ts.below (below_drewN wr nn)) hR.out.g' hl1).mono (fun _ _ h => (⟨h.1, h.2.symm⟩ : _ ∧ _)))
                have g1 : (0 : Int) ≤ (i : Int) := by omega
                have g2 : (i : Int) < 4 := by omega
                have g3 : i < 4 := by omega
                have hbd : 0 ≤ e0 ∧ e0 ≤ 2147483647 := by
                  rw [← he0]; unfold epochS
                  split
                  · have h1 := hG.out.e (idx i); have h2 := hG.out.l (idx i); omega
                  · omega
                have hw1 : IntKind.i64.wrap (e0 + 1) = e0 + 1 := IntWalk.i64_in _ (by omega)
                clear he0 hl0 R0 hF hS hbd
                have HFE := Lib.hid hfe; have HGE := Lib.hid hge; have HE1 := Lib.hid he1; have HL1 := Lib.hid hl1
                clear hfe hge he1 hl1
                rcases hri with ⟨h1, h2⟩ | ⟨h1, h2, h3, h4, h5⟩
                · subst h1 h2
                  have u1 : decide (l1 > l1) = false := by simp
                  have u2 : decide (l1 < l1) = false := by simp
                  have u3 : (e1 != e1) = false := by simp
                  go_upto_region 21 with fail
                  go_quiet ((go_at_call 18; exact Calls.quiet_of_same (hL.out _)))
                  rename_i nq
                  have R3 := Lib.hid (hR.out.more (below_drewN wr nq))
                  generalize wr.drewN nq = wy at *
                  clear d1 d2 Q0 Q1 Q2 hR hE hL
                  have d1 := R3.out.af.c i (by omega)
                  have d2 := R3.out.ag.c i (by omega)
                  rw [HFE.out] at d1; rw [HGE.out] at d2
                  have Q0 := R3.out.ax.q
                  have Q1 := R3.out.ax.k
                  have Q2 := R3.out.ax.n
                  simp only at Q0 Q1 Q2
                  have hE := Lib.hid (fun nn => (epoch_is b i _ (R3.out.ts.below (below_drewN wy nn)) R3.out.g' HE1.out).mono (fun _ _ h => (⟨h.1, h.2.symm⟩ : _ ∧ _)))
                  have hL := Lib.hid (fun nn => (life_is b i _ (R3.out.ts.below (below_drewN wy nn)) R3.out.g' HL1.out).mono (fun _ _ h => (⟨h.1, h.2.symm⟩ : _ ∧ _)))
                  go_upto_region 22 with fail
                  go_quiet (first | (go_at_call 18; exact Calls.quiet_of_same (hL.out _)) | (go_at_call 17; exact Calls.quiet_of_same (hE.out _)))
                  rename_i nq
                  have R4 := Lib.hid (R3.out.more (below_drewN wy nq))
                  generalize wy.drewN nq = wz at *
                  clear d1 d2 Q0 Q1 Q2 R3 hE hL
                  go_wp2_with fail
                  go_roundw
                  case rel => exact ⟨i + 1, by omega, by omega, by go_num, R4⟩
                  case measure => simp [intOf]; omega
                · subst h2 h3 h5
                  obtain rfl : k = (i : Int) := h4.symm
                  have u1 : decide (l1 > l0) = true := by simpa using h1
                  have u2 : decide (l1 < l0) = false := by simp; omega
                  have u3 : (e0 + 1 != e0 + 1) = false := by simp
                  have u4 : ((i : Int) != (i : Int)) = false := by simp
                  have u5 : (l1 != l1) = false := by simp
                  go_upto_region 21 with fail
                  go_quiet ((go_at_call 18; exact Calls.quiet_of_same (hL.out _)))
                  rename_i nq
                  have R3 := Lib.hid (hR.out.more (below_drewN wr nq))
                  generalize wr.drewN nq = wy at *
                  clear d1 d2 Q0 Q1 Q2 hR hE hL
                  have d1 := R3.out.af.c i (by omega)
                  have d2 := R3.out.ag.c i (by omega)
                  rw [HFE.out] at d1; rw [HGE.out] at d2
                  have Q0 := R3.out.ax.q
                  have Q1 := R3.out.ax.k
                  have Q2 := R3.out.ax.n
                  simp only at Q0 Q1 Q2
                  have hE := Lib.hid (fun nn => (epoch_is b i _ (R3.out.ts.below (below_drewN wy nn)) R3.out.g' HE1.out).mono (fun _ _ h => (⟨h.1, h.2.symm⟩ : _ ∧ _)))
                  have hL := Lib.hid (fun nn => (life_is b i _ (R3.out.ts.below (below_drewN wy nn)) R3.out.g' HL1.out).mono (fun _ _ h => (⟨h.1, h.2.symm⟩ : _ ∧ _)))
                  go_upto_region 22 with fail
                  go_quiet (first | (go_at_call 18; exact Calls.quiet_of_same (hL.out _)) | (go_at_call 17; exact Calls.quiet_of_same (hE.out _)))
                  rename_i nq
                  have R4 := Lib.hid (R3.out.more (below_drewN wy nq))
                  generalize wy.drewN nq = wz at *
                  clear d1 d2 Q0 Q1 Q2 R3 hE hL
                  go_wp2_with fail
                  go_roundw
                  case rel => exact ⟨i + 1, by omega, by omega, by go_num, R4⟩
                  case measure => simp [intOf]; omega
              · obtain rfl : i = 4 := by omega
                go_wp2_with fail
                go_roundw
                case rel => exact ⟨j + 1, s', by omega, by go_num, Lib.hid hR.out.g', Lib.hid hR.out.n, Lib.hid hR.out.ts, Lib.hid hR.out.bel⟩
                case measure => simp [intOf]; omega
    · go_wp2_with fail
      refine (awake_any _).mono ?_
      rintro e w' ⟨rfl, hb⟩
      go_wp2_with fail
      go_ret
      exact ⟨rfl, hW.out.trans (hb.mono hW.out.size)⟩
theorem leaseRises_walk {H : Type} {enc : TypeId × Value → H} (W : World) (base : Nat) (v0 : Value) (d0 : DataW H) (p0 : List MemPlace)
    (h0 : DataW.Trod enc Try.prog W 0 (fun _ => true) true 22 v0 d0 p0)
    (o0 : Value.okWide Try.prog W .any base 22 v0) :
    Calls Try.prog 4 #[v0] W fun e w' => e = .returned (.bool true) ∧ RowKit.Below W.heap.size W w' := by
  obtain ⟨a, m, cap, xs, rfl, hh, k2, _⟩ := open_acts_arg o0 h0
  exact leaseRises_any xs a m cap W hh (by unfold maxLen at k2; omega)
end Go.Proofs.Ytphcmokcdaiphaa
