/- fair: Fair (by gen/fb3.py) -/
import Derived.Test.YteloiibejkflhaaQFa9
import Derived.Test.YteloiibejkflhaaQFb2
import Derived.Deep.WholeRow
namespace Go.Proofs.Yteloiibejkflhaa
open Go.RowKit
set_option linter.unusedVariables false
set_option maxRecDepth 20000
def winsB (c : Cfg) (G : List Int) (xs : List RecP) (f b i : Nat) : Bool := winB c.W G (linksL G xs) xs ((f + i * b : Nat) : Int) (b : Int)
def fairF (c : Cfg) (zs : List Int) (xs : List RecP) (f b N : Nat) : Bool := decide ((1 : Int) ≤ (N : Int) ∧ (N : Int) ≤ 10000) && (goodB c zs && ((List.range N).all (winsB c (canonZ zs) xs f b) && (List.range (N - 1)).all (fun i => arrB (canonZ zs) xs (f + i * b) b)))
theorem winsB_in {c : Cfg} {G : List Int} {xs : List RecP} {f b i : Nat} (h : winsB c G xs f b i = true) : 1 ≤ b ∧ f + i * b + b ≤ xs.length := by
  unfold winsB winB at h
  simp only [Bool.and_eq_true, decide_eq_true_eq] at h
  omega
set_option maxHeartbeats 12800000 in
set_option maxRecDepth 100000 in
theorem ffair_any (c : Cfg) (a : Option Addr) (n cap : Nat) (xs : List RecP) (f b N : Nat) (ga : Option Addr) (gn gc : Nat) (zs : List Int) (z : Bool) (w : World) (h : CfgOk w c) (hh : HoldsRc w a n xs) (hn : n ≤ 1000) (hcap : n ≤ cap) (hx : ∀ x ∈ xs, x.sn ≤ 1000 ∧ x.ln ≤ 1000) (hg : HoldsI .i64 w ga gn zs) (hf : f ≤ 100000) (hb : b ≤ 10000) (hz : fairF c zs xs f b N = z) :
    Calls Try.prog 14 #[.agg #[.slice c.wa c.wn c.wc, .slice c.ka c.kn c.kc, .int .i64 c.W, .int .i64 c.C, .int .i64 c.S, .int .i64 c.B, .int .i64 c.L, .int .i64 c.H, .int .i64 c.F, .int .i64 c.P, .int .i64 c.J, .int .i64 c.N], .slice a n cap, .int .i64 (f : Int), .int .i64 (b : Int), .int .i64 (N : Int), .slice ga gn gc] w fun e w' => e = .returned (.bool z) ∧ Below w.heap.size w w' := by
  have BX := Lib.hid (below_one w (.cells #[.slice c.wa c.wn c.wc, .slice c.ka c.kn c.kc, .int .i64 c.W, .int .i64 c.C, .int .i64 c.S, .int .i64 c.B, .int .i64 c.L, .int .i64 c.H, .int .i64 c.F, .int .i64 c.P, .int .i64 c.J, .int .i64 c.N] 25))
  have IN := Lib.hid (cfgIn_new w c w.heap.size 25 (0, 0) rfl)
  obtain ⟨w1, hw1⟩ : ∃ w1, w.alloc (.cells #[.slice c.wa c.wn c.wc, .slice c.ka c.kn c.kc, .int .i64 c.W, .int .i64 c.C, .int .i64 c.S, .int .i64 c.B, .int .i64 c.L, .int .i64 c.H, .int .i64 c.F, .int .i64 c.P, .int .i64 c.J, .int .i64 c.N] 25) = w1 := ⟨_, rfl⟩
  obtain ⟨p, hp⟩ : ∃ p, w.heap.size = p := ⟨_, rfl⟩
  rw [hw1] at BX
  rw [hw1, hp] at IN
  obtain ⟨y0, hy0⟩ : ∃ y, decide ((1 : Int) ≤ (N : Int) ∧ (N : Int) ≤ 10000) = y := ⟨_, rfl⟩
  have CI := Lib.hid (pin_lit (N : Int) 1 10000 y0 w1 hy0)
  have II := Lib.hid (fun (w' : World) (hb : Below w1.heap.size w1 w') => IN.out.below hb)
  unfold CfgIn at II
  unfold fairF at hz
  rw [hy0] at hz
  cases y0
  · have HZ := Lib.hid hz
    clear h hh hx hg hz hy0
    go_enter Try.func14, Try.ntmps14
    go_upto_region 1 with fail
    try rw [hw1]
    try rw [hp]
    clear hw1 hp
    go_wp2_with (first | (go_at_call 19; refine CI.out.mono ?_; rintro e w' ⟨rfl, rfl⟩) | fail)
    go_ret
    exact ⟨by rw [← HZ.out]; rfl, BX.out⟩
  obtain ⟨hN1, hN2⟩ := of_decide_eq_true hy0
  obtain ⟨g, hgd⟩ : ∃ g, goodB c zs = g := ⟨_, rfl⟩
  rw [hgd] at hz
  have CG := Lib.hid (fgood_any c ga gn gc zs g w1 (h.below BX.out) (hg.below BX.out) hgd)
  cases g
  · have HZ := Lib.hid hz
    obtain ⟨i0, i1, i2, i3, i4, i5, i6, i7, i8, i9, i10, i11⟩ := II.out _ (Below.refl _ _)
    clear h hh hx hg hgd hz hy0
    go_enter Try.func14, Try.ntmps14
    go_upto_region 1 with fail
    try rw [hw1]
    try rw [hp]
    clear hw1 hp
    go_wp2_with (first | (go_at_call 19; refine CI.out.mono ?_; rintro e w' ⟨rfl, rfl⟩) | (go_at_call 21; refine CG.out.mono ?_; rintro e w2 ⟨rfl, hb2⟩; obtain ⟨j0, j1, j2, j3, j4, j5, j6, j7, j8, j9, j10, j11⟩ := II.out _ hb2) | fail)
    go_ret
    exact ⟨by rw [← HZ.out]; rfl, BX.out.trans (hb2.mono BX.out.size)⟩
  have hgl := goodB_len hgd
  have hkn := may_kn hgl.1 h
  have hmp := may_parts hgl.1
  have hgn : gn = c.kn + 1 := by rw [← hg.len]; exact hgl.2
  have hcl := canonZ_len zs
  obtain ⟨G, hG⟩ : ∃ G, canonZ zs = G := ⟨_, rfl⟩
  obtain ⟨k, hk⟩ : ∃ k, G.length = k := ⟨_, rfl⟩
  rw [hG] at hz hcl
  rw [hg.len] at hcl
  have hlen := hh.len
  have CL := Lib.hid (fun (w' : World) (hb : Below w1.heap.size w1 w') => look_any c a n cap xs ga gn gc zs G k w' ((hh.below BX.out).below hb) hn (fun x h => (hx x h).1) ((hg.below BX.out).below hb) (by omega) (by omega) hG hk)
  unfold LookP at CL
  have WZ : ∀ i, i < 10001 → wfZ ((f + i * b : Nat) : Int) := fun i hi => by
    have : i * b ≤ 10001 * 10000 := Nat.mul_le_mul (by omega) hb
    unfold wfZ; simp [Lit.wf, IntKind.min, IntKind.max, IntKind.signed, IntKind.bits]; omega
  have WB : wfZ (b : Int) := by unfold wfZ; simp [Lit.wf, IntKind.min, IntKind.max, IntKind.signed, IntKind.bits]; omega
  have CW := Lib.hid (fun (i : Nat) (hi : i < 10001) (z : Bool) (hz : winsB c G xs f b i = z) (w' : World) (ga' : Option Addr) (gc' mb : Nat) (hb' : Below w1.heap.size w1 w') (h1 : HoldsI .i64 w' ga' k G) (h2 : HM w' mb (linksL G xs)) => vwindow_any c.W a n cap ga' k gc' mb G (linksL G xs) xs ((f + i * b : Nat) : Int) (b : Int) z w' ((hh.below BX.out).below hb') hn hcap (fun x h => (hx x h).2) (by omega) h1 (by omega) h2 (WZ i hi) WB hz)
  have CA := Lib.hid (fun (i : Nat) (z : Bool) (hb1 : 1 ≤ b) (hi : f + i * b + 2 * b ≤ n) (hz : arrB G xs (f + i * b) b = z) (w' : World) (ga' : Option Addr) (gc' mb : Nat) (hb' : Below w1.heap.size w1 w') (h1 : HoldsI .i64 w' ga' k G) => varrives_any c.W a n cap ga' k gc' mb G xs (f + i * b) b z w' ((hh.below BX.out).below hb') hn hcap (fun x h => (hx x h).1) h1 (by omega) hb1 hi hz)
  have HL := Lib.hid hlen
  have HZ := Lib.hid hz
  obtain ⟨i0, i1, i2, i3, i4, i5, i6, i7, i8, i9, i10, i11⟩ := II.out _ (Below.refl _ _)
  clear h hh hx hg hgd hz hgl hkn hmp hgn hcl hG hk hy0 WZ WB hlen
  go_enter Try.func14, Try.ntmps14
  go_upto_region 1 with fail
  try rw [hw1]
  try rw [hp]
  clear hw1 hp
  go_wp2_with (first | (go_at_call 19; refine CI.out.mono ?_; rintro e w' ⟨rfl, rfl⟩) | (go_at_call 21; refine CG.out.mono ?_; rintro e w2 ⟨rfl, hb2⟩; obtain ⟨j0, j1, j2, j3, j4, j5, j6, j7, j8, j9, j10, j11⟩ := II.out _ hb2) | (go_at_call 23; refine (CL.out _ hb2).mono ?_; rintro e w3 ⟨ga', gc', mb, rfl, h1, h2, hb3⟩) | (refine wpList_store_row rfl 60 (.tmp 13) (.tmp 28) rfl w3.heap.size #[.int .i64 c.W, .slice a n cap, .slice ga' k gc', .map (some mb)] rfl rfl 60 #[.int .i64 0, .slice none 0 0, .slice none 0 0, .map none] (heap_alloc_new w3 _) (by kernel_rfl) rfl (by kernel_rfl) ?_; rw [World.setRow_alloc_new]) | fail)
  have hb4 := hb2.trans (hb3.mono hb2.size)
  have hb5 := below_one w3 (.cells #[.int .i64 c.W, .slice a n cap, .slice ga' k gc', .map (some mb)] 60)
  have HX := heap_alloc_new w3 (.cells #[.int .i64 c.W, .slice a n cap, .slice ga' k gc', .map (some mb)] 60)
  have H1 := Lib.hid (h1.below hb5)
  have H2 := Lib.hid (h2.below hb5)
  have B4 := Lib.hid (hb4.trans (hb5.mono hb4.size))
  clear h1 h2 hb2 hb3 hb4 hb5 CI CG CL i0 i1 i2 i3 i4 i5 i6 i7 i8 i9 i10 i11 j0 j1 j2 j3 j4 j5 j6 j7 j8 j9 j10 j11
  generalize w3.alloc (.cells #[.int .i64 c.W, .slice a n cap, .slice ga' k gc', .map (some mb)] 60) = w4 at *
  generalize w3.heap.size = q at *
  have VC := Lib.hid (fun (w' : World) (hb : Below w4.heap.size w4 w') => show w'.cell? ⟨q, 0, none⟩ = some (.int .i64 c.W) ∧ w'.cell? ⟨q, 1, none⟩ = some (.slice a n cap) ∧ w'.cell? ⟨q, 2, none⟩ = some (.slice ga' k gc') ∧ w'.cell? ⟨q, 3, none⟩ = some (.map (some mb)) from ⟨cellT (i := 0) (keepT HX hb) rfl, cellT (i := 1) (keepT HX hb) rfl, cellT (i := 2) (keepT HX hb) rfl, cellT (i := 3) (keepT HX hb) rfl⟩)
  clear HX
  obtain ⟨M, hM⟩ : ∃ M, N - 1 = M := ⟨_, rfl⟩
  rw [hM] at HZ
  go_loopw [14, 30] (fun jv iv wr => ∃ (j : Nat), j ≤ N ∧ iv = .int .i64 j ∧ Hid (∀ i, i < j → winsB c G xs f b i = true) ∧ Hid (Below w4.heap.size w4 wr)) (fun _ iv _ => N - (intOf iv).toNat)
  case atStart => exact ⟨0, by omega, rfl, Lib.hid (fun i hi => by omega), Lib.hid (Below.refl _ _)⟩
  case round =>
    obtain ⟨j, hj, rfl, hS, hB⟩ := hrel
    have HB1 := Lib.hid (B4.out.trans (hB.out.mono B4.out.size))
    by_cases hlt : j < N
    · obtain ⟨v0, v1, v2, v3⟩ := VC.out _ hB.out
      obtain ⟨y, hy⟩ : ∃ y, winsB c G xs f b j = y := ⟨_, rfl⟩
      have HY := Lib.hid hy
      have CWj := Lib.hid (CW.out j (by omega) y hy wr ga' gc' mb HB1.out (H1.out.below hB.out) (H2.out.below hB.out))
      have hjb : j * b ≤ 10000 * 10000 := Nat.mul_le_mul (by omega) hb
      obtain ⟨X, hX⟩ : ∃ X, j * b = X := ⟨_, rfl⟩
      have e1 : IntKind.i64.wrap ((j : Int) * (b : Int)) = (X : Int) := by rw [← Int.natCast_mul, hX, IntKind.wrap_i64]; omega
      have e2 : IntKind.i64.wrap ((f : Int) + (X : Int)) = ((f + X : Nat) : Int) := by rw [IntKind.wrap_i64]; omega
      rw [hX] at CWj
      obtain ⟨Y, hY⟩ : ∃ Y : Int, ((f + X : Nat) : Int) = Y := ⟨_, rfl⟩
      rw [hY] at CWj e2
      have i1 : (0 : Int) ≤ (j : Int) := by omega
      have i2 : (j : Int) < (N : Int) := by omega
      clear hy hjb hX hY
      cases y
      · have AN := Lib.hid (show (List.range N).all (winsB c G xs f b) = false from by
          rw [List.all_eq_false]
          exact ⟨j, List.mem_range.2 hlt, by rw [HY.out]; simp⟩)
        go_wp2_with (first | (go_at_call 24; refine CWj.out.mono ?_; rintro e w6 ⟨rfl, hb6⟩) | fail)
        go_ret
        exact ⟨by rw [← HZ.out, AN.out]; rfl, BX.out.trans ((HB1.out.trans (hb6.mono HB1.out.size)).mono BX.out.size)⟩
      · have S2 := Lib.hid (show ∀ i, i < j + 1 → winsB c G xs f b i = true from fun i hi => by
          rcases Nat.lt_succ_iff_lt_or_eq.1 hi with e | e
          · exact hS.out i e
          · subst e; exact HY.out)
        go_wp2_with (first | (go_at_call 24; refine CWj.out.mono ?_; rintro e w6 ⟨rfl, hb6⟩) | fail)
        have B6 := Lib.hid (hB.out.trans (hb6.mono hB.out.size))
        go_roundw
        case rel => exact ⟨j + 1, by omega, by go_num, S2, B6⟩
        case measure => simp [intOf]; omega
    · obtain rfl : N = j := by omega
      have SA := Lib.hid hS.out
      have AN := Lib.hid (show (List.range N).all (winsB c G xs f b) = true from by
        rw [List.all_eq_true]
        intro s hs
        exact hS.out s (List.mem_range.1 hs))
      have e3 : IntKind.i64.wrap ((N : Int) - 1) = (M : Int) := by rw [IntKind.wrap_i64]; omega
      have BQ := hB
      obtain ⟨wq, hwq⟩ : ∃ wq, wq = wr := ⟨_, rfl⟩
      subst hwq
      clear hS hB hlt hj HB1
      go_wp2_with fail
      clear e3
      go_loopw [15, 45] (fun jv iv wr => ∃ (j : Nat), j ≤ M ∧ iv = .int .i64 j ∧ Hid (∀ i, i < j → arrB G xs (f + i * b) b = true) ∧ Hid (Below w4.heap.size w4 wr)) (fun _ iv _ => M - (intOf iv).toNat)
      case atStart => exact ⟨0, by omega, rfl, Lib.hid (fun i hi => by omega), BQ⟩
      case round =>
        obtain ⟨j, hj, rfl, hS, hB⟩ := hrel
        have HB1 := Lib.hid (B4.out.trans (hB.out.mono B4.out.size))
        by_cases hlt : j < M
        · obtain ⟨v0, v1, v2, v3⟩ := VC.out _ hB.out
          obtain ⟨y, hy⟩ : ∃ y, arrB G xs (f + j * b) b = y := ⟨_, rfl⟩
          have HY := Lib.hid hy
          have hw := winsB_in (SA.out (j + 1) (by omega))
          have hmul : (j + 1) * b = j * b + b := Nat.succ_mul j b
          rw [hmul, HL.out] at hw
          have CAj := Lib.hid (CA.out j y hw.1 (by omega) hy wr ga' gc' mb HB1.out (H1.out.below hB.out))
          obtain ⟨X, hX⟩ : ∃ X, j * b = X := ⟨_, rfl⟩
          rw [hX] at hw
          have e1 : IntKind.i64.wrap ((j : Int) * (b : Int)) = (X : Int) := by rw [← Int.natCast_mul, hX, IntKind.wrap_i64]; omega
          have e2 : IntKind.i64.wrap ((f : Int) + (X : Int)) = ((f + X : Nat) : Int) := by rw [IntKind.wrap_i64]; omega
          rw [hX] at CAj
          obtain ⟨Y, hY⟩ : ∃ Y : Int, ((f + X : Nat) : Int) = Y := ⟨_, rfl⟩
          rw [hY] at CAj e2
          have i1 : (0 : Int) ≤ (j : Int) := by omega
          have i2 : (j : Int) < (M : Int) := by omega
          clear hy hw hmul hX hY
          cases y
          · have AR := Lib.hid (show (List.range M).all (fun i => arrB G xs (f + i * b) b) = false from by
              rw [List.all_eq_false]
              exact ⟨j, List.mem_range.2 hlt, by rw [HY.out]; simp⟩)
            go_wp2_with (first | (go_at_call 25; refine CAj.out.mono ?_; rintro e w6 ⟨rfl, hb6⟩) | fail)
            go_ret
            exact ⟨by rw [← HZ.out, AN.out, AR.out]; rfl, BX.out.trans ((HB1.out.trans (hb6.mono HB1.out.size)).mono BX.out.size)⟩
          · have S2 := Lib.hid (show ∀ i, i < j + 1 → arrB G xs (f + i * b) b = true from fun i hi => by
              rcases Nat.lt_succ_iff_lt_or_eq.1 hi with e | e
              · exact hS.out i e
              · subst e; exact HY.out)
            go_wp2_with (first | (go_at_call 25; refine CAj.out.mono ?_; rintro e w6 ⟨rfl, hb6⟩) | fail)
            have B6 := Lib.hid (hB.out.trans (hb6.mono hB.out.size))
            go_roundw
            case rel => exact ⟨j + 1, by omega, by go_num, S2, B6⟩
            case measure => simp [intOf]; omega
        · have AR := Lib.hid (show (List.range M).all (fun i => arrB G xs (f + i * b) b) = true from by
            rw [List.all_eq_true]
            intro s hs
            exact hS.out s (by have := List.mem_range.1 hs; omega))
          go_wp2_with fail
          go_ret
          exact ⟨by rw [← HZ.out, AN.out, AR.out]; rfl, BX.out.trans (HB1.out.mono BX.out.size)⟩
end Go.Proofs.Yteloiibejkflhaa
