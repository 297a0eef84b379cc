/- fair: Good (by gen/fa7.py) -/
import Derived.Test.YteloiibejkflhaaQFa6
namespace Go.Proofs.Yteloiibejkflhaa
open Go.RowKit
set_option linter.unusedVariables false
set_option maxRecDepth 20000
def goodB (c : Cfg) (zs : List Int) : Bool := c.may && (decide (zs.length = c.kn + 1) && (List.range zs.length).all fun s => decide (zs.getD s 0 ∈ Pl.cop c.W.toNat c.C.toNat s))
set_option maxHeartbeats 6400000 in
set_option maxRecDepth 100000 in
theorem fgood_any (c : Cfg) (ga : Option Addr) (gn gc : Nat) (zs : List Int) (z : Bool) (w : World) (h : CfgOk w c) (hg : HoldsI .i64 w ga gn zs) (hz : goodB c zs = z) :
    Calls Try.prog 21 #[.agg #[.slice c.wa c.wn c.wc, .slice c.ka c.kn c.kc, .int .i64 c.W, .int .i64 c.C, .int .i64 c.S, .int .i64 c.B, .int .i64 c.L, .int .i64 c.H, .int .i64 c.F, .int .i64 c.P, .int .i64 c.J, .int .i64 c.N], .slice ga gn gc] w fun e w' => e = .returned (.bool z) ∧ Below w.heap.size w w' := by
  have BX := Lib.hid (below_one w (.cells #[.slice c.wa c.wn c.wc, .slice c.ka c.kn c.kc, .int .i64 c.W, .int .i64 c.C, .int .i64 c.S, .int .i64 c.B, .int .i64 c.L, .int .i64 c.H, .int .i64 c.F, .int .i64 c.P, .int .i64 c.J, .int .i64 c.N] 25))
  have IN := Lib.hid (cfgIn_new w c w.heap.size 25 (0, 0) rfl)
  obtain ⟨w1, hw1⟩ : ∃ w1, w.alloc (.cells #[.slice c.wa c.wn c.wc, .slice c.ka c.kn c.kc, .int .i64 c.W, .int .i64 c.C, .int .i64 c.S, .int .i64 c.B, .int .i64 c.L, .int .i64 c.H, .int .i64 c.F, .int .i64 c.P, .int .i64 c.J, .int .i64 c.N] 25) = w1 := ⟨_, rfl⟩
  obtain ⟨p, hp⟩ : ∃ p, w.heap.size = p := ⟨_, rfl⟩
  rw [hw1] at BX
  rw [hw1, hp] at IN
  have OK := Lib.hid (h.below BX.out)
  have HG := Lib.hid (hg.below BX.out)
  have hlen := hg.len
  unfold goodB at hz
  rw [hlen] at hz
  obtain ⟨m, hm⟩ : ∃ m, c.may = m := ⟨_, rfl⟩
  rw [hm] at hz
  have CM := Lib.hid (may_cfg c m w1 OK.out hm)
  have II := Lib.hid (fun (w' : World) (hb : Below w1.heap.size w1 w') => IN.out.below hb)
  unfold CfgIn at II
  obtain ⟨i0, i1, i2, i3, i4, i5, i6, i7, i8, i9, i10, i11⟩ := II.out _ (Below.refl _ _)
  have HM0 := Lib.hid hm
  have HL := Lib.hid hlen
  have HZ := Lib.hid hz
  have hkn : m = true → c.kn ≤ 5 := fun e => may_kn (e ▸ hm) h
  have HKN := Lib.hid hkn
  clear h hg hm hz hlen hkn
  go_enter Try.func21, Try.ntmps21
  go_upto_region 1 with fail
  try rw [hw1]
  try rw [hp]
  clear hw1 hp
  go_wp2_with fail
  refine CM.out.mono ?_
  rintro e w2 ⟨rfl, hb2⟩
  have B2 := Lib.hid hb2
  clear CM i0 i1 i2 i3 i4 i5 i6 i7 i8 i9 i10 i11
  cases m
  · clear hb2
    go_wp2_with fail
    go_ret
    exact ⟨by rw [← HZ.out]; rfl, BX.out.trans (B2.out.mono BX.out.size)⟩
  have hkn := HKN.out rfl
  have CS := Lib.hid (shards_any c w2 (OK.out.below hb2) HM0.out)
  obtain ⟨i0, i1, i2, i3, i4, i5, i6, i7, i8, i9, i10, i11⟩ := II.out _ hb2
  clear hb2
  go_wp2_with fail
  refine CS.out.mono ?_
  rintro e w3 ⟨rfl, hb3⟩
  have B3 := Lib.hid (B2.out.trans (hb3.mono B2.out.size))
  clear hb3 CS i0 i1 i2 i3 i4 i5 i6 i7 i8 i9 i10 i11
  obtain ⟨N, hN⟩ : ∃ N, c.kn + 1 = N := ⟨_, rfl⟩
  have HNN := Lib.hid hN
  rw [hN] at HZ ⊢
  by_cases hgn : gn = N
  · subst hgn
    rw [decide_eq_true (rfl : gn = gn), Bool.true_and, Bool.true_and] at HZ
    go_wp2_with fail
    go_loopw [5, 6, 19] (fun sv wv iv wr => ∃ (j : Nat), j ≤ gn ∧ iv = .int .i64 j ∧ Hid (∀ s, s < j → decide (zs.getD s 0 ∈ Pl.cop c.W.toNat c.C.toNat s) = true) ∧ Hid (Below w1.heap.size w1 wr)) (fun _ _ iv _ => gn - (intOf iv).toNat)
    case atStart => exact ⟨0, by omega, rfl, Lib.hid (fun s hs => by omega), B3⟩
    case round =>
      obtain ⟨j, hj, rfl, hS, hB⟩ := hrel
      by_cases hlt : j < gn
      · obtain ⟨gb, go, rfl, hc⟩ := (HG.out.below hB.out).2 (by omega)
        have hx := hc j hlt
        obtain ⟨x, hxe⟩ : ∃ x, zs.getD j 0 = x := ⟨_, rfl⟩
        obtain ⟨z1, hz1⟩ : ∃ z1, decide (x ∈ Pl.cop c.W.toNat c.C.toNat j) = z1 := ⟨_, rfl⟩
        have hmp := may_parts HM0.out
        have CC := Lib.hid (copies_in c j c.W.toNat c.C.toNat wr (OK.out.below hB.out) HM0.out (by omega) (by omega) (by omega))
        have KX := Lib.hid (fun (w' : World) (a : Option Addr) (cp : Nat) (base : Nat) (ho : w'.ownsRow base 3 1 (.slice a (Pl.cop c.W.toNat c.C.toNat j).length cp) (Pl.cop c.W.toNat c.C.toNat j).length (numsV (Pl.cop c.W.toNat c.C.toNat j))) => contains_any a (Pl.cop c.W.toNat c.C.toNat j).length cp (Pl.cop c.W.toNat c.C.toNat j) x z1 w' (holdsZ_own ho) (by rw [Pl.cop_len]; omega) hz1)
        have AT := Lib.hid (show decide (zs.getD j 0 ∈ Pl.cop c.W.toNat c.C.toNat j) = z1 from by rw [hxe]; exact hz1)
        rw [hxe] at hx
        have i1 : (0 : Int) ≤ (j : Int) := by omega
        have i2 : (j : Int) < (gn : Int) := by omega
        obtain ⟨i0, i1, i2, i3, i4, i5, i6, i7, i8, i9, i10, i11⟩ := II.out _ hB.out
        clear hc hxe hz1 hmp
        go_upto_region 6 with fail
        generalize Pl.cop c.W.toNat c.C.toNat j = L at CC KX
        clear hx
        unfold RetZ at CC
        cases z1
        · have AN := Lib.hid (show (List.range gn).all (fun s => decide (zs.getD s 0 ∈ Pl.cop c.W.toNat c.C.toNat s)) = false from by
            rw [List.all_eq_false]
            exact ⟨j, List.mem_range.2 hlt, by rw [AT.out]; simp⟩)
          go_wp2_with (first | (go_at_call 31; refine CC.out.mono ?_; rintro e w4 ⟨ca, cc, rfl, ho, hb4⟩) | (go_at_call 30; refine (KX.out _ _ _ _ ho).mono ?_; rintro e w5 ⟨rfl, rfl⟩) | fail)
          have B4 := Lib.hid (hB.out.trans (hb4.mono hB.out.size))
          go_ret
          exact ⟨by rw [← HZ.out, AN.out]; rfl, BX.out.trans (B4.out.mono BX.out.size)⟩
        · have S2 := Lib.hid (show ∀ s, s < j + 1 → decide (zs.getD s 0 ∈ Pl.cop c.W.toNat c.C.toNat s) = true from fun s hs => by
            rcases Nat.lt_succ_iff_lt_or_eq.1 hs with e | e
            · exact hS.out s e
            · subst e; exact AT.out)
          go_wp2_with (first | (go_at_call 31; refine CC.out.mono ?_; rintro e w4 ⟨ca, cc, rfl, ho, hb4⟩) | (go_at_call 30; refine (KX.out _ _ _ _ ho).mono ?_; rintro e w5 ⟨rfl, rfl⟩) | fail)
          have B4 := Lib.hid (hB.out.trans (hb4.mono hB.out.size))
          go_roundw
          case rel => exact ⟨j + 1, by omega, by go_num, S2, B4⟩
          case measure => simp [intOf]; omega
      · have AN := Lib.hid (show (List.range gn).all (fun s => decide (zs.getD s 0 ∈ Pl.cop c.W.toNat c.C.toNat s)) = true from by
          rw [List.all_eq_true]
          intro s hs
          exact hS.out s (by have := List.mem_range.1 hs; omega))
        go_wp2_with fail
        go_ret
        exact ⟨by rw [← HZ.out, AN.out]; rfl, BX.out.trans (hB.out.mono BX.out.size)⟩
  · rw [decide_eq_false hgn] at HZ
    have hne : ¬ (gn : Int) = (N : Int) := by omega
    go_wp2_with fail
    go_ret
    exact ⟨by rw [← HZ.out]; rfl, BX.out.trans (B3.out.mono BX.out.size)⟩
end Go.Proofs.Yteloiibejkflhaa
