/- fair: ticks, crashes, loses (by gen/fa4.py) -/
import Derived.Test.YteloiibejkflhaaQFa3
namespace Go.Proofs.Yteloiibejkflhaa
open Go.RowKit
set_option linter.unusedVariables false
set_option maxRecDepth 20000
theorem fticks_any (a : Option Addr) (n cap : Nat) (xs : List RecP) (w : World) (hh : HoldsRc w a n xs) (hn : n ≤ 1000) :
    Calls Try.prog 36 #[.slice a n cap] w fun e w' => e = .returned (.bool (xs.any tickB)) ∧ Below w.heap.size w w' := by
  have CT := Lib.hid (rcontainsT_any a n cap xs w hh hn)
  clear hh
  go_enter Try.func36, Try.ntmps36
  go_wp2_with fail
  refine CT.out.mono ?_
  rintro e w2 ⟨rfl, hb⟩
  have B2 := Lib.hid hb
  clear hb
  go_wp2_with fail
  go_ret
  exact ⟨rfl, B2.out⟩
theorem view_new (w : World) (W : Int) (ra : Option Addr) (rn rc : Nat) (ga : Option Addr) (k gc mb : Nat) (p : Nat) (hp : p = w.heap.size) (e : TypeId) : ((w.alloc (.cells #[.int .i64 W, .slice ra rn rc, .slice ga k gc, .map (some mb)] e)).cell? ⟨p, 0, none⟩ = some (.int .i64 W) ∧ (w.alloc (.cells #[.int .i64 W, .slice ra rn rc, .slice ga k gc, .map (some mb)] e)).cell? ⟨p, 1, none⟩ = some (.slice ra rn rc)) ∧ (w.alloc (.cells #[.int .i64 W, .slice ra rn rc, .slice ga k gc, .map (some mb)] e)).cell? ⟨p, 2, none⟩ = some (.slice ga k gc) ∧ (w.alloc (.cells #[.int .i64 W, .slice ra rn rc, .slice ga k gc, .map (some mb)] e)).cell? ⟨p, 3, none⟩ = some (.map (some mb)) := by
  subst hp
  refine ⟨⟨?_, ?_⟩, ?_, ?_⟩ <;> (rw [World.cell?_alloc_mark]; rfl)
set_option maxHeartbeats 1600000 in
theorem vcrashes_any (W : Int) (ra : Option Addr) (rn rc : Nat) (ga : Option Addr) (k gc mb : Nat) (G : List Int) (a : Option Addr) (n cap : Nat) (xs : List RecP) (w : World) (hh : HoldsRc w a n xs) (hn : n ≤ 1000) (hg : HoldsI .i64 w ga k G) (hk : k ≤ 1000) :
    Calls Try.prog 37 #[.agg #[.int .i64 W, .slice ra rn rc, .slice ga k gc, .map (some mb)], .slice a n cap] w fun e w' => e = .returned (.bool (xs.any (crashB G))) ∧ Below w.heap.size w w' := by
  have BX := Lib.hid (below_one w (.cells #[.int .i64 W, .slice ra rn rc, .slice ga k gc, .map (some mb)] 60))
  have VN := view_new w W ra rn rc ga k gc mb w.heap.size rfl 60
  have CC := Lib.hid (rcontainsC_any a n cap xs w.heap.size ga k gc G (w.alloc (.cells #[.int .i64 W, .slice ra rn rc, .slice ga k gc, .map (some mb)] 60)) (hh.below BX.out) hn ⟨⟨VN.2.1, hg.below BX.out⟩, hk⟩)
  clear hh hg VN
  go_enter Try.func37, Try.ntmps37
  go_wp2_with fail
  refine CC.out.mono ?_
  rintro e w2 ⟨rfl, hb⟩
  have B2 := Lib.hid (BX.out.trans (hb.mono BX.out.size))
  clear hb
  go_wp2_with fail
  go_ret
  exact ⟨rfl, B2.out⟩
set_option maxHeartbeats 3200000 in
set_option maxRecDepth 100000 in
theorem vloses_any (W : Int) (ra : Option Addr) (rn rc : Nat) (ga : Option Addr) (k gc mb : Nat) (H : List Int) (a : Option Addr) (n cap : Nat) (xs : List RecP) (w : World) (hh : HoldsRc w a n xs) (hn : n ≤ 1000) (hx : ∀ x ∈ xs, x.ln ≤ 1000) (hm : HM w mb H) :
    Calls Try.prog 38 #[.agg #[.int .i64 W, .slice ra rn rc, .slice ga k gc, .map (some mb)], .slice a n cap] w fun e w' => e = .returned (.bool (xs.any (loseB H))) ∧ Below w.heap.size w w' := by
  have BX := Lib.hid (below_one w (.cells #[.int .i64 W, .slice ra rn rc, .slice ga k gc, .map (some mb)] 60))
  have VN := view_new w W ra rn rc ga k gc mb w.heap.size rfl 60
  have h3 := VN.2.2
  obtain ⟨w1, hw1⟩ : ∃ w1, w.alloc (.cells #[.int .i64 W, .slice ra rn rc, .slice ga k gc, .map (some mb)] 60) = w1 := ⟨_, rfl⟩
  rw [hw1] at BX h3
  obtain ⟨q, hq⟩ : ∃ q, w.heap.size = q := ⟨_, rfl⟩
  have HQ := Lib.hid hq
  rw [hq] at h3
  have HH := Lib.hid hh
  have HX := Lib.hid hx
  have HN := Lib.hid hh.len
  have H3 := Lib.hid h3
  have HMM := Lib.hid (show HM w1 mb H from hm.below BX.out)
  clear hh hx hm VN h3
  go_enter Try.func38, Try.ntmps38
  go_upto_region 1 with fail
  try rw [hw1]
  try rw [hq]
  clear hw1 hq
  go_wp2_with fail
  go_loopw [6, 9] (fun rv iv wr => ∃ (j : Nat), j ≤ n ∧ iv = .int .i64 j ∧ Hid (∀ y ∈ xs.take j, loseB H y = false) ∧ Hid (Below w1.heap.size w1 wr)) (fun _ iv _ => n - (intOf iv).toNat)
  case atStart => exact ⟨0, by omega, rfl, Lib.hid (by simp), Lib.hid (Below.refl _ _)⟩
  case round =>
    obtain ⟨j, hj, rfl, hS, hB⟩ := hrel
    have HB := Lib.hid (show Below w.heap.size w wr from BX.out.trans (hB.out.mono BX.out.size))
    by_cases hlt : j < n
    · obtain ⟨rb, ro, rfl, hc⟩ := (HH.out.below HB.out).at_ (by omega)
      have hx12 := hc j hlt
      have hmem := getD_memR (show j < xs.length by rw [HN.out]; exact hlt)
      have hok := HH.out.ok _ hmem
      have hbx := HX.out _ hmem
      obtain ⟨x, hxe⟩ : ∃ x, xs.getD j r0 = x := ⟨_, rfl⟩
      have TK := Lib.hid (show xs.take (j + 1) = xs.take j ++ [x] from by rw [← hxe]; exact take_succ_getD xs r0 j (by rw [HN.out]; exact hlt))
      rw [hxe] at hx12 hok hbx hmem
      have MX := Lib.hid hmem
      obtain ⟨c0, c1', c2', c3, c4, c5, c6, c7, c8, c9, c10, c11⟩ := hx12
      have i1 : (0 : Int) ≤ (j : Int) := by omega
      have i2 : (j : Int) < (n : Int) := by omega
      have RX := Lib.hid (below_one wr (.cells #[.int .i64 x.kd, .int .i64 x.nd, .int .i64 x.at_, .int .i64 x.ex, .string x.qt, .int .i64 x.qk, .int .i64 x.qn, .int .i64 x.vd, .int .i64 x.id, .slice x.sa x.sn x.sc, .int .i64 x.got, .slice x.la x.ln x.lc] 43))
      have SX := Lib.hid (recIn_new wr x wr.heap.size 43 (0, 0) rfl)
      have B3 := Lib.hid (show Below w1.heap.size w1 (wr.alloc (.cells #[.int .i64 x.kd, .int .i64 x.nd, .int .i64 x.at_, .int .i64 x.ex, .string x.qt, .int .i64 x.qk, .int .i64 x.qn, .int .i64 x.vd, .int .i64 x.id, .slice x.sa x.sn x.sc, .int .i64 x.got, .slice x.la x.ln x.lc] 43)) from hB.out.trans (RX.out.mono hB.out.size))
      obtain ⟨z, hz⟩ : ∃ z, loseB H x = z := ⟨_, rfl⟩
      have HZ := Lib.hid hz
      have CL := Lib.hid (icontainsL_any x.la x.ln x.lc x.ls q mb H (wr.alloc (.cells #[.int .i64 x.kd, .int .i64 x.nd, .int .i64 x.at_, .int .i64 x.ex, .string x.qt, .int .i64 x.qk, .int .i64 x.qn, .int .i64 x.vd, .int .i64 x.id, .slice x.sa x.sn x.sc, .int .i64 x.got, .slice x.la x.ln x.lc] 43)) ((hok.l.below HB.out).below RX.out) hbx hok.wl ((B3.out.cell (p := ⟨q, 3, none⟩) (lt_of_cell H3.out)).trans H3.out) (HMM.out.below B3.out))
      rw [show x.ls.any (lostB H) = z from hz] at CL
      clear hc hxe hmem hok hbx hz HB
      go_upto_region 4 with fail
      clear c0 c1' c2' c3 c4 c5 c6 c7 c8 c9 c10 c11
      generalize wr.alloc (.cells #[.int .i64 x.kd, .int .i64 x.nd, .int .i64 x.at_, .int .i64 x.ex, .string x.qt, .int .i64 x.qk, .int .i64 x.qn, .int .i64 x.vd, .int .i64 x.id, .slice x.sa x.sn x.sc, .int .i64 x.got, .slice x.la x.ln x.lc] 43) = w3 at *
      generalize wr.heap.size = u at *
      obtain ⟨-, -, -, -, -, -, -, -, -, -, -, y11⟩ := SX.out
      simp only [Nat.zero_add] at y11
      go_wp2_with fail
      refine CL.out.mono ?_
      rintro e w4 ⟨rfl, rfl⟩
      clear CL y11
      cases z
      · have S2 := Lib.hid (show ∀ y ∈ xs.take (j + 1), loseB H y = false from by
          rw [TK.out]; intro y hy
          rcases List.mem_append.1 hy with hy | hy
          · exact hS.out y hy
          · simp only [List.mem_singleton] at hy; rw [hy]; exact HZ.out)
        go_wp2_with fail
        go_roundw
        case rel => exact ⟨j + 1, by omega, by go_num, S2, B3⟩
        case measure => simp [intOf]; omega
      · have AN := Lib.hid (show xs.any (loseB H) = true from List.any_eq_true.2 ⟨x, MX.out, HZ.out⟩)
        go_wp2_with fail
        go_ret
        exact ⟨by rw [AN.out]; rfl, BX.out.trans (B3.out.mono BX.out.size)⟩
    · have hjn : xs.take j = xs := List.take_of_length_le (by rw [HN.out]; omega)
      have hS2 := hS.out
      rw [hjn] at hS2
      have AN := Lib.hid (show xs.any (loseB H) = false from by
        rw [List.any_eq_false]; intro y hy; simpa using hS2 y hy)
      clear hjn hS2
      go_wp2_with fail
      go_ret
      exact ⟨by rw [AN.out]; rfl, HB.out⟩
end Go.Proofs.Yteloiibejkflhaa
