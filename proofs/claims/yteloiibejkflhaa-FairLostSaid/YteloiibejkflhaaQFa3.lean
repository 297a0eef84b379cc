/- fair: what is looked for among records (by gen/fa3.py) -/
import Derived.Test.YteloiibejkflhaaQFa2
namespace Go.Proofs.Yteloiibejkflhaa
open Go.RowKit
set_option linter.unusedVariables false
set_option maxRecDepth 20000
def tickB (x : RecP) : Bool := decide (x.kd = 3)
def crashB (G : List Int) (x : RecP) : Bool := decide (x.kd = 9) && decide (x.nd ∈ G)
def lostB (H : List Int) (z : Int) : Bool := decide (0 < H.count z)
def loseB (H : List Int) (x : RecP) : Bool := x.ls.any (lostB H)
set_option maxHeartbeats 1600000 in
theorem tick1_any (x : RecP) (z : Bool) (w : World) (hz : tickB x = z) : Calls Try.prog 50 #[.agg #[.int .i64 x.kd, .int .i64 x.nd, .int .i64 x.at_, .int .i64 x.ex, .string x.qt, .int .i64 x.qk, .int .i64 x.qn, .int .i64 x.vd, .int .i64 x.id, .slice x.sa x.sn x.sc, .int .i64 x.got, .slice x.la x.ln x.lc]] w fun e w' => e = .returned (.bool z) ∧ Below w.heap.size w w' := by
  have BX := Lib.hid (below_one w (.cells #[.int .i64 x.kd, .int .i64 x.nd, .int .i64 x.at_, .int .i64 x.ex, .string x.qt, .int .i64 x.qk, .int .i64 x.qn, .int .i64 x.vd, .int .i64 x.id, .slice x.sa x.sn x.sc, .int .i64 x.got, .slice x.la x.ln x.lc] 43))
  have HZ := Lib.hid (show decide (x.kd = 3) = z from hz)
  clear hz
  go_enter Try.func50, Try.ntmps50
  go_wp2_with fail
  go_ret
  exact ⟨by rw [← HZ.out]; try rfl, BX.out⟩
set_option maxHeartbeats 1600000 in
theorem crash1_any (x : RecP) (q : Nat) (ga : Option Addr) (k gc : Nat) (G : List Int) (z : Bool) (w : World) (hp : w.cell? ⟨q, 2, none⟩ = some (.slice ga k gc) ∧ HoldsI .i64 w ga k G) (hk : k ≤ 1000) (hz : crashB G x = z) :
    Calls Try.prog 51 #[.agg #[.int .i64 x.kd, .int .i64 x.nd, .int .i64 x.at_, .int .i64 x.ex, .string x.qt, .int .i64 x.qk, .int .i64 x.qn, .int .i64 x.vd, .int .i64 x.id, .slice x.sa x.sn x.sc, .int .i64 x.got, .slice x.la x.ln x.lc], .pointer (some ⟨q, 0, none⟩)] w fun e w' => e = .returned (.bool z) ∧ Below w.heap.size w w' := by
  have BX := Lib.hid (below_one w (.cells #[.int .i64 x.kd, .int .i64 x.nd, .int .i64 x.at_, .int .i64 x.ex, .string x.qt, .int .i64 x.qk, .int .i64 x.qn, .int .i64 x.vd, .int .i64 x.id, .slice x.sa x.sn x.sc, .int .i64 x.got, .slice x.la x.ln x.lc] 43))
  have c2 := (BX.out.cell (p := ⟨q, 2, none⟩) (lt_of_cell hp.1)).trans hp.1
  obtain ⟨y, hy⟩ : ∃ y, decide (x.nd ∈ G) = y := ⟨_, rfl⟩
  have CN := Lib.hid (fun (w' : World) (hb : Below w.heap.size w w') => contains_any ga k gc G x.nd y w' (hp.2.below hb) (by omega) hy)
  unfold crashB at hz
  rw [hy] at hz
  have HZ := Lib.hid hz
  clear hz hy hp
  have SX := Lib.hid (recIn_new w x w.heap.size 43 (0, 0) rfl)
  go_enter Try.func51, Try.ntmps51
  go_upto_region 1 with fail
  generalize w.alloc (.cells #[.int .i64 x.kd, .int .i64 x.nd, .int .i64 x.at_, .int .i64 x.ex, .string x.qt, .int .i64 x.qk, .int .i64 x.qn, .int .i64 x.vd, .int .i64 x.id, .slice x.sa x.sn x.sc, .int .i64 x.got, .slice x.la x.ln x.lc] 43) = w1 at *
  generalize hu : w.heap.size = u at *
  obtain ⟨y0, y1, -, -, -, -, -, -, -, -, -, -⟩ := SX.out
  simp only [Nat.zero_add] at y0 y1
  by_cases e9 : x.kd = 9
  · have d9 : decide (x.kd = 9) = true := decide_eq_true e9
    rw [d9] at HZ
    go_wp2_with (first | (go_at_call 30; refine (CN.out _ BX.out).mono ?_; rintro e w' ⟨rfl, rfl⟩) | fail)
    go_ret
    exact ⟨by rw [← HZ.out]; simp, by rw [hu]; exact BX.out⟩
  · have d9 : decide (x.kd = 9) = false := decide_eq_false e9
    rw [d9] at HZ
    go_wp2_with fail
    go_ret
    exact ⟨by rw [← HZ.out]; simp, by rw [hu]; exact BX.out⟩

def IdxT (w : World) (xs : List RecP)  (e : Ending) (w' : World) : Prop := ∃ r : Int, e = .returned (.int .i64 r) ∧ decide (r ≥ 0) = xs.any (tickB) ∧ Below w.heap.size w w'
set_option maxHeartbeats 1600000 in
theorem rindexT_any (a : Option Addr) (n cap : Nat) (xs : List RecP)  (w : World) (hh : HoldsRc w a n xs) (hn : n ≤ 1000) :
    Calls Try.prog 60 #[.slice a n cap, .func (.func 50) #[] #[]] w (IdxT w xs ) := by
  have hl := hh.len
  have HH := Lib.hid hh
  skip
  clear hh
  go_enter Try.func60, Try.ntmps60
  go_wp2_with fail
  go_loopw [8] (fun iv wr => ∃ j : Nat, j ≤ n ∧ iv = .int .i64 j ∧ Hid (∀ y ∈ xs.take j, (tickB) y = false) ∧ Hid (Below w.heap.size w wr)) (fun iv _ => n - (intOf iv).toNat)
  case atStart => exact ⟨0, by omega, rfl, Lib.hid (by simp), Lib.hid (Below.refl _ _)⟩
  case round =>
    obtain ⟨j, hj, rfl, hS, hB⟩ := hrel
    by_cases hlt : j < n
    · obtain ⟨b, o, rfl, hc⟩ := (HH.out.below hB.out).at_ (by omega)
      have hx7 := hc j hlt
      obtain ⟨x, hx⟩ : ∃ x, xs.getD j r0 = x := ⟨_, rfl⟩
      have HX := Lib.hid hx
      have TK := Lib.hid (show xs.take (j + 1) = xs.take j ++ [x] from by rw [← hx]; exact take_succ_getD xs r0 j (by omega))
      have MX := Lib.hid (show x ∈ xs from hx ▸ getD_memR (by omega))
      rw [hx] at hx7
      obtain ⟨c0, c1, c2, c3, c4, c5, c6, c7, c8, c9, c10, c11⟩ := hx7
      clear hc hx
      obtain ⟨z, hz⟩ : ∃ z, (tickB) x = z := ⟨_, rfl⟩
      have HZ := Lib.hid hz
      have i1 : (0 : Int) ≤ (j : Int) := by omega
      have i2 : (j : Int) < (n : Int) := by omega
      have CL := Lib.hid (tick1_any x z wr hz)
      clear hz
      go_wp2_with fail
      refine CL.out.mono ?_
      rintro e w2 ⟨rfl, hb2⟩
      have B2 := Lib.hid (hB.out.trans (hb2.mono hB.out.size))
      clear hb2 CL c0 c1 c2 c3 c4 c5 c6 c7 c8 c9 c10 c11
      cases z
      · have S2 := Lib.hid (show ∀ y ∈ xs.take (j + 1), (tickB) y = false from by
          rw [TK.out]; intro y hy
          rcases List.mem_append.1 hy with hy | hy
          · exact hS.out y hy
          · simp only [List.mem_singleton] at hy; rw [hy]; exact HZ.out)
        go_wp2_with fail
        go_roundw
        case rel => exact ⟨j + 1, by omega, by go_num, S2, B2⟩
        case measure => simp [intOf]; omega
      · have AN := Lib.hid (show xs.any (tickB) = true from List.any_eq_true.2 ⟨x, MX.out, HZ.out⟩)
        go_wp2_with fail
        go_ret
        exact ⟨(j : Int), rfl, by rw [AN.out]; exact decide_eq_true (by omega), B2.out⟩
    · have hjn : xs.take j = xs := List.take_of_length_le (by omega)
      have hS2 := hS.out
      rw [hjn] at hS2
      have AN := Lib.hid (show xs.any (tickB) = false from by
        rw [List.any_eq_false]; intro y hy; simpa using hS2 y hy)
      clear hjn hS2
      go_wp2_with fail
      go_ret
      exact ⟨-1, rfl, by rw [AN.out]; rfl, hB.out⟩
theorem rcontainsT_any (a : Option Addr) (n cap : Nat) (xs : List RecP)  (w : World) (hh : HoldsRc w a n xs) (hn : n ≤ 1000) :
    Calls Try.prog 49 #[.slice a n cap, .func (.func 50) #[] #[]] w fun e w' => e = .returned (.bool (xs.any (tickB))) ∧ Below w.heap.size w w' := by
  obtain ⟨z, hz⟩ : ∃ z, xs.any (tickB) = z := ⟨_, rfl⟩
  have CI := Lib.hid (rindexT_any a n cap xs  w hh hn)
  rw [hz]
  have HZ := Lib.hid hz
  clear hh hz
  go_enter Try.func49, Try.ntmps49
  go_wp2_with fail
  refine CI.out.mono ?_
  rintro e w2 ⟨r, rfl, hr, hb⟩
  rw [HZ.out] at hr
  have B2 := Lib.hid hb
  clear hb
  go_wp2_with fail
  go_ret
  exact ⟨rfl, B2.out⟩

def IdxC (w : World) (xs : List RecP) (q : Nat) (ga : Option Addr) (k gc : Nat) (G : List Int) (e : Ending) (w' : World) : Prop := ∃ r : Int, e = .returned (.int .i64 r) ∧ decide (r ≥ 0) = xs.any (crashB G) ∧ Below w.heap.size w w'
set_option maxHeartbeats 1600000 in
theorem rindexC_any (a : Option Addr) (n cap : Nat) (xs : List RecP) (q : Nat) (ga : Option Addr) (k gc : Nat) (G : List Int) (w : World) (hh : HoldsRc w a n xs) (hn : n ≤ 1000) (hp : (w.cell? ⟨q, 2, none⟩ = some (.slice ga k gc) ∧ HoldsI .i64 w ga k G) ∧ k ≤ 1000) :
    Calls Try.prog 60 #[.slice a n cap, .func (.func 51) #[] #[.pointer (some ⟨q, 0, none⟩)]] w (IdxC w xs q ga k gc G) := by
  have hl := hh.len
  have HH := Lib.hid hh
  have HP := Lib.hid (fun (w' : World) (hb : Below w.heap.size w w') => show w'.cell? ⟨q, 2, none⟩ = some (.slice ga k gc) ∧ HoldsI .i64 w' ga k G from ⟨(hb.cell (p := ⟨q, 2, none⟩) (lt_of_cell hp.1.1)).trans hp.1.1, hp.1.2.below hb⟩)
  have HK := hp.2
  clear hp
  clear hh
  go_enter Try.func60, Try.ntmps60
  go_wp2_with fail
  go_loopw [8] (fun iv wr => ∃ j : Nat, j ≤ n ∧ iv = .int .i64 j ∧ Hid (∀ y ∈ xs.take j, (crashB G) y = false) ∧ Hid (Below w.heap.size w wr)) (fun iv _ => n - (intOf iv).toNat)
  case atStart => exact ⟨0, by omega, rfl, Lib.hid (by simp), Lib.hid (Below.refl _ _)⟩
  case round =>
    obtain ⟨j, hj, rfl, hS, hB⟩ := hrel
    by_cases hlt : j < n
    · obtain ⟨b, o, rfl, hc⟩ := (HH.out.below hB.out).at_ (by omega)
      have hx7 := hc j hlt
      obtain ⟨x, hx⟩ : ∃ x, xs.getD j r0 = x := ⟨_, rfl⟩
      have HX := Lib.hid hx
      have TK := Lib.hid (show xs.take (j + 1) = xs.take j ++ [x] from by rw [← hx]; exact take_succ_getD xs r0 j (by omega))
      have MX := Lib.hid (show x ∈ xs from hx ▸ getD_memR (by omega))
      rw [hx] at hx7
      obtain ⟨c0, c1, c2, c3, c4, c5, c6, c7, c8, c9, c10, c11⟩ := hx7
      clear hc hx
      obtain ⟨z, hz⟩ : ∃ z, (crashB G) x = z := ⟨_, rfl⟩
      have HZ := Lib.hid hz
      have i1 : (0 : Int) ≤ (j : Int) := by omega
      have i2 : (j : Int) < (n : Int) := by omega
      have CL := Lib.hid (crash1_any x q ga k gc G z wr (HP.out _ hB.out) HK hz)
      clear hz
      go_wp2_with fail
      refine CL.out.mono ?_
      rintro e w2 ⟨rfl, hb2⟩
      have B2 := Lib.hid (hB.out.trans (hb2.mono hB.out.size))
      clear hb2 CL c0 c1 c2 c3 c4 c5 c6 c7 c8 c9 c10 c11
      cases z
      · have S2 := Lib.hid (show ∀ y ∈ xs.take (j + 1), (crashB G) y = false from by
          rw [TK.out]; intro y hy
          rcases List.mem_append.1 hy with hy | hy
          · exact hS.out y hy
          · simp only [List.mem_singleton] at hy; rw [hy]; exact HZ.out)
        go_wp2_with fail
        go_roundw
        case rel => exact ⟨j + 1, by omega, by go_num, S2, B2⟩
        case measure => simp [intOf]; omega
      · have AN := Lib.hid (show xs.any (crashB G) = true from List.any_eq_true.2 ⟨x, MX.out, HZ.out⟩)
        go_wp2_with fail
        go_ret
        exact ⟨(j : Int), rfl, by rw [AN.out]; exact decide_eq_true (by omega), B2.out⟩
    · have hjn : xs.take j = xs := List.take_of_length_le (by omega)
      have hS2 := hS.out
      rw [hjn] at hS2
      have AN := Lib.hid (show xs.any (crashB G) = false from by
        rw [List.any_eq_false]; intro y hy; simpa using hS2 y hy)
      clear hjn hS2
      go_wp2_with fail
      go_ret
      exact ⟨-1, rfl, by rw [AN.out]; rfl, hB.out⟩
theorem rcontainsC_any (a : Option Addr) (n cap : Nat) (xs : List RecP) (q : Nat) (ga : Option Addr) (k gc : Nat) (G : List Int) (w : World) (hh : HoldsRc w a n xs) (hn : n ≤ 1000) (hp : (w.cell? ⟨q, 2, none⟩ = some (.slice ga k gc) ∧ HoldsI .i64 w ga k G) ∧ k ≤ 1000) :
    Calls Try.prog 49 #[.slice a n cap, .func (.func 51) #[] #[.pointer (some ⟨q, 0, none⟩)]] w fun e w' => e = .returned (.bool (xs.any (crashB G))) ∧ Below w.heap.size w w' := by
  obtain ⟨z, hz⟩ : ∃ z, xs.any (crashB G) = z := ⟨_, rfl⟩
  have CI := Lib.hid (rindexC_any a n cap xs q ga k gc G w hh hn hp)
  rw [hz]
  have HZ := Lib.hid hz
  clear hh hz hp
  go_enter Try.func49, Try.ntmps49
  go_wp2_with fail
  refine CI.out.mono ?_
  rintro e w2 ⟨r, rfl, hr, hb⟩
  rw [HZ.out] at hr
  have B2 := Lib.hid hb
  clear hb
  go_wp2_with fail
  go_ret
  exact ⟨rfl, B2.out⟩

set_option maxHeartbeats 1600000 in
theorem lose1_any (q mb : Nat) (H : List Int) (x : Int) (z : Bool) (w : World) (h3 : w.cell? ⟨q, 3, none⟩ = some (.map (some mb))) (hm : HM w mb H) (hw : wfZ x) (hz : lostB H x = z) :
    Calls Try.prog 53 #[.int .i64 x, .pointer (some ⟨q, 0, none⟩)] w fun e w' => e = .returned (.bool z) ∧ w' = w := by
  obtain ⟨cnt, hcn, hmv⟩ := hm
  obtain ⟨t, hcc⟩ : ∃ t, H.count x = t := ⟨_, rfl⟩
  have EC := Lib.hid (hfZ_get H x t hcc)
  have WF := Lib.hid (show wfI x from hw)
  have MV := Lib.hid hmv
  unfold lostB at hz
  rw [hcc] at hz
  have HZ := Lib.hid hz
  clear hmv hcc hcn hz
  go_enter Try.func53, Try.ntmps53
  go_wp2_with (first | (at_lookup; refine wpList_get_mv mapTz rfl (.tmp 5) (.tmp 6) rfl rfl MV.out x rfl WF.out (.int .i64 (t : Int)) EC.out ?_) | fail)
  go_ret
  exact ⟨by rw [← HZ.out]; simp, rfl⟩
def IdxL (w : World) (H : List Int) (zs : List Int) (e : Ending) (w' : World) : Prop := ∃ r : Int, e = .returned (.int .i64 r) ∧ decide (r ≥ 0) = zs.any (lostB H) ∧ w' = w
set_option maxHeartbeats 1600000 in
theorem iindexL_any (a : Option Addr) (n cap : Nat) (zs : List Int) (q mb : Nat) (H : List Int) (w : World) (hh : HoldsI .i64 w a n zs) (hn : n ≤ 1000) (hw : ∀ z ∈ zs, wfZ z) (h3 : w.cell? ⟨q, 3, none⟩ = some (.map (some mb))) (hm : HM w mb H) :
    Calls Try.prog 61 #[.slice a n cap, .func (.func 53) #[] #[.pointer (some ⟨q, 0, none⟩)]] w (IdxL w H zs) := by
  have hl := hh.1
  have HH := Lib.hid hh
  have HW := Lib.hid hw
  have H3 := Lib.hid h3
  have HMM := Lib.hid hm
  clear hh hw h3 hm
  go_enter Try.func61, Try.ntmps61
  go_wp2_with fail
  go_loopw [8] (fun iv wr => ∃ j : Nat, j ≤ n ∧ iv = .int .i64 j ∧ Hid (∀ y ∈ zs.take j, lostB H y = false) ∧ wr = w) (fun iv _ => n - (intOf iv).toNat)
  case atStart => exact ⟨0, by omega, rfl, Lib.hid (by simp), rfl⟩
  case round =>
    obtain ⟨j, hj, rfl, hS, rfl⟩ := hrel
    by_cases hlt : j < n
    · obtain ⟨b, o, rfl, hc⟩ := HH.out.2 (by omega)
      have hx7 := hc j hlt
      obtain ⟨x, hx⟩ : ∃ x, zs.getD j 0 = x := ⟨_, rfl⟩
      have TK := Lib.hid (show zs.take (j + 1) = zs.take j ++ [x] from by rw [← hx]; exact take_succ_getD zs 0 j (by omega))
      have mx : x ∈ zs := by rw [← hx, List.getD_eq_getElem?_getD, List.getElem?_eq_getElem (by omega)]; exact List.getElem_mem _
      have MX := Lib.hid mx
      rw [hx] at hx7
      clear hc hx
      obtain ⟨z, hz⟩ : ∃ z, lostB H x = z := ⟨_, rfl⟩
      have HZ := Lib.hid hz
      have i1 : (0 : Int) ≤ (j : Int) := by omega
      have i2 : (j : Int) < (n : Int) := by omega
      have CL := Lib.hid (lose1_any q mb H x z wr H3.out HMM.out (HW.out x mx) hz)
      clear hz mx
      go_wp2_with fail
      refine CL.out.mono ?_
      rintro e w2 ⟨rfl, rfl⟩
      clear CL hx7
      cases z
      · have S2 := Lib.hid (show ∀ y ∈ zs.take (j + 1), lostB H y = false from by
          rw [TK.out]; intro y hy
          rcases List.mem_append.1 hy with hy | hy
          · exact hS.out y hy
          · simp only [List.mem_singleton] at hy; rw [hy]; exact HZ.out)
        go_wp2_with fail
        go_roundw
        case rel => exact ⟨j + 1, by omega, by go_num, S2, trivial⟩
        case measure => simp [intOf]; omega
      · have AN := Lib.hid (show zs.any (lostB H) = true from List.any_eq_true.2 ⟨x, MX.out, HZ.out⟩)
        go_wp2_with fail
        go_ret
        exact ⟨(j : Int), rfl, by rw [AN.out]; exact decide_eq_true (by omega), rfl⟩
    · have hjn : zs.take j = zs := List.take_of_length_le (by omega)
      have hS2 := hS.out
      rw [hjn] at hS2
      have AN := Lib.hid (show zs.any (lostB H) = false from by
        rw [List.any_eq_false]; intro y hy; simpa using hS2 y hy)
      clear hjn hS2
      go_wp2_with fail
      go_ret
      exact ⟨-1, rfl, by rw [AN.out]; rfl, rfl⟩
theorem icontainsL_any (a : Option Addr) (n cap : Nat) (zs : List Int) (q mb : Nat) (H : List Int) (w : World) (hh : HoldsI .i64 w a n zs) (hn : n ≤ 1000) (hw : ∀ z ∈ zs, wfZ z) (h3 : w.cell? ⟨q, 3, none⟩ = some (.map (some mb))) (hm : HM w mb H) :
    Calls Try.prog 52 #[.slice a n cap, .func (.func 53) #[] #[.pointer (some ⟨q, 0, none⟩)]] w fun e w' => e = .returned (.bool (zs.any (lostB H))) ∧ w' = w := by
  obtain ⟨z, hz⟩ : ∃ z, zs.any (lostB H) = z := ⟨_, rfl⟩
  have CI := Lib.hid (iindexL_any a n cap zs q mb H w hh hn hw h3 hm)
  rw [hz]
  have HZ := Lib.hid hz
  clear hh hz hw h3 hm
  go_enter Try.func52, Try.ntmps52
  go_wp2_with fail
  refine CI.out.mono ?_
  rintro e w2 ⟨r, rfl, hr, rfl⟩
  rw [HZ.out] at hr
  go_wp2_with fail
  go_ret
  exact ⟨rfl, rfl⟩
end Go.Proofs.Yteloiibejkflhaa
