/- fair: Window (by gen/fa9.py) -/
import Derived.Test.YteloiibejkflhaaQFa8
namespace Go.Proofs.Yteloiibejkflhaa
open Go.RowKit
set_option linter.unusedVariables false
set_option maxRecDepth 20000
def windowB (c : Cfg) (zs : List Int) (xs : List RecP) (f b : Int) : Bool := goodB c zs && winB c.W (canonZ zs) (linksL (canonZ zs) xs) xs f b
theorem goodB_len {c : Cfg} {zs : List Int} (h : goodB c zs = true) : c.may = true ∧ zs.length = c.kn + 1 := by
  unfold goodB at h
  simp only [Bool.and_eq_true, decide_eq_true_eq] at h
  exact ⟨h.1, h.2.1⟩
set_option maxHeartbeats 6400000 in
set_option maxRecDepth 100000 in
theorem fwindow_any (c : Cfg) (a : Option Addr) (n cap : Nat) (xs : List RecP) (f b : Int) (ga : Option Addr) (gn gc : Nat) (zs : List Int) (z : Bool) (w : World) (h : CfgOk w c) (hh : HoldsRc w a n xs) (hn : n ≤ 1000) (hcap : n ≤ cap) (hx : ∀ x ∈ xs, x.sn ≤ 1000 ∧ x.ln ≤ 1000) (hg : HoldsI .i64 w ga gn zs) (hf : wfZ f) (hb : wfZ b) (hz : windowB c zs xs f b = z) :
    Calls Try.prog 15 #[.agg #[.slice c.wa c.wn c.wc, .slice c.ka c.kn c.kc, .int .i64 c.W, .int .i64 c.C, .int .i64 c.S, .int .i64 c.B, .int .i64 c.L, .int .i64 c.H, .int .i64 c.F, .int .i64 c.P, .int .i64 c.J, .int .i64 c.N], .slice a n cap, .int .i64 f, .int .i64 b, .slice ga gn gc] w fun e w' => e = .returned (.bool z) ∧ Below w.heap.size w w' := by
  have BX := Lib.hid (below_one w (.cells #[.slice c.wa c.wn c.wc, .slice c.ka c.kn c.kc, .int .i64 c.W, .int .i64 c.C, .int .i64 c.S, .int .i64 c.B, .int .i64 c.L, .int .i64 c.H, .int .i64 c.F, .int .i64 c.P, .int .i64 c.J, .int .i64 c.N] 25))
  have IN := Lib.hid (cfgIn_new w c w.heap.size 25 (0, 0) rfl)
  obtain ⟨w1, hw1⟩ : ∃ w1, w.alloc (.cells #[.slice c.wa c.wn c.wc, .slice c.ka c.kn c.kc, .int .i64 c.W, .int .i64 c.C, .int .i64 c.S, .int .i64 c.B, .int .i64 c.L, .int .i64 c.H, .int .i64 c.F, .int .i64 c.P, .int .i64 c.J, .int .i64 c.N] 25) = w1 := ⟨_, rfl⟩
  obtain ⟨p, hp⟩ : ∃ p, w.heap.size = p := ⟨_, rfl⟩
  rw [hw1] at BX
  rw [hw1, hp] at IN
  obtain ⟨g, hgd⟩ : ∃ g, goodB c zs = g := ⟨_, rfl⟩
  unfold windowB at hz
  rw [hgd] at hz
  have CG := Lib.hid (fgood_any c ga gn gc zs g w1 (h.below BX.out) (hg.below BX.out) hgd)
  have II := Lib.hid (fun (w' : World) (hb : Below w1.heap.size w1 w') => IN.out.below hb)
  unfold CfgIn at II
  cases g
  · have HZ := Lib.hid hz
    obtain ⟨i0, i1, i2, i3, i4, i5, i6, i7, i8, i9, i10, i11⟩ := II.out _ (Below.refl _ _)
    clear h hh hx hg hf hb hgd hz
    go_enter Try.func15, Try.ntmps15
    go_upto_region 1 with fail
    try rw [hw1]
    try rw [hp]
    clear hw1 hp
    go_wp2_with (first | (go_at_call 21; refine CG.out.mono ?_; rintro e w2 ⟨rfl, hb2⟩) | fail)
    go_ret
    exact ⟨by rw [← HZ.out]; rfl, BX.out.trans (hb2.mono BX.out.size)⟩
  · have hgl := goodB_len hgd
    have hkn := may_kn hgl.1 h
    have hmp := may_parts hgl.1
    have hgn : gn = c.kn + 1 := by rw [← hg.len]; exact hgl.2
    have hcl := canonZ_len zs
    obtain ⟨G, hG⟩ : ∃ G, canonZ zs = G := ⟨_, rfl⟩
    obtain ⟨k, hk⟩ : ∃ k, G.length = k := ⟨_, rfl⟩
    rw [hG] at hz hcl
    rw [hg.len] at hcl
    have CL := Lib.hid (fun (w' : World) (hb : Below w1.heap.size w1 w') => look_any c a n cap xs ga gn gc zs G k w' ((hh.below BX.out).below hb) hn (fun x h => (hx x h).1) ((hg.below BX.out).below hb) (by omega) (by omega) hG hk)
    unfold LookP at CL
    have CWN := Lib.hid (fun (w' : World) (ga' : Option Addr) (gc' mb : Nat) (hb' : Below w1.heap.size w1 w') (h1 : HoldsI .i64 w' ga' k G) (h2 : HM w' mb (linksL G xs)) => vwindow_any c.W a n cap ga' k gc' mb G (linksL G xs) xs f b z w' ((hh.below BX.out).below hb') hn hcap (fun x h => (hx x h).2) (by omega) h1 (by omega) h2 hf hb hz)
    obtain ⟨LK, hLK⟩ : ∃ LK, linksL G xs = LK := ⟨_, rfl⟩
    rw [hLK] at CL CWN
    obtain ⟨i0, i1, i2, i3, i4, i5, i6, i7, i8, i9, i10, i11⟩ := II.out _ (Below.refl _ _)
    clear h hh hx hg hf hb hgd hz hgl hkn hmp hgn hcl hG hk hLK
    go_enter Try.func15, Try.ntmps15
    go_upto_region 1 with fail
    try rw [hw1]
    try rw [hp]
    clear hw1 hp
    go_wp2_with (first | (go_at_call 21; refine CG.out.mono ?_; rintro e w2 ⟨rfl, hb2⟩; obtain ⟨j0, j1, j2, j3, j4, j5, j6, j7, j8, j9, j10, j11⟩ := II.out _ hb2) | (go_at_call 23; refine (CL.out _ hb2).mono ?_; rintro e w3 ⟨ga', gc', mb, rfl, h1, h2, hb3⟩; have hb4 := hb2.trans (hb3.mono hb2.size)) | (go_at_call 24; refine (CWN.out _ _ _ _ hb4 h1 h2).mono ?_; rintro e w5 ⟨rfl, hb5⟩) | fail)
    go_ret
    exact ⟨rfl, BX.out.trans ((hb4.trans (hb5.mono hb4.size)).mono BX.out.size)⟩
end Go.Proofs.Yteloiibejkflhaa
