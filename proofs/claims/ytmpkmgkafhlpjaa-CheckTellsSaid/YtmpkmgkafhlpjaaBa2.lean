/- contract of band.banded -/
import Derived.Test.YtmpkmgkafhlpjaaBa1
namespace Go.Proofs.Ytmpkmgkafhlpjaa
open Go.RowKit
set_option linter.unusedVariables false
set_option maxRecDepth 20000
theorem RowIs.of_own {w : World} {B g n cap : Nat} {e : TypeId} {zs : List Int} (h : w.ownsRow B e 1 (.slice (some ⟨g, 0, none⟩) n cap) n (intsV zs)) (hz : zs.length = n) : RowIs w g n (fun j => zs.getD j 0) :=
  ⟨fun j hj => by have := h.cellAt j (by omega); rw [intsV_at _ j (by omega)] at this; exact this, fun j => h.frozenAt j⟩
set_option maxHeartbeats 6400000 in
theorem banded_any (ra rb : List Int) (a b : Option Addr) (la lb ca cb k : Nat) (w : World) (ha : HoldsI .i32 w a la ra) (hb : HoldsI .i32 w b lb rb) (hla : la ≤ 1048576) (hlb : lb ≤ 1048576) (hk : k ≤ 1048576)
    (h1 : (la : Int) - lb ≤ k) (h2 : (lb : Int) - la ≤ k) :
    Calls Try.prog 48 #[.slice a la ca, .slice b lb cb, .int .i64 k] w fun e w' => e = .returned (.int .i64 (min (Ed.L ra rb la lb) ((k : Int) + 1))) ∧ Below w.heap.size w w' := by
  obtain ⟨i0, hi, hz0, hz1, hz2⟩ := info_parts int_info
  have HA := Lib.hid ha; have HB := Lib.hid hb
  have LA := Lib.hid ha.len; have LB := Lib.hid hb.len
  obtain ⟨n, hn⟩ : ∃ n, 2 * k + 1 = n := ⟨_, rfl⟩
  obtain ⟨far, hfar⟩ : ∃ far, (k : Int) + 1 = far := ⟨_, rfl⟩
  have hw1 : IntKind.i64.wrap ((k : Int) + 1) = far := by rw [IntWalk.i64_in _ (by omega)]; exact hfar
  have hw2 : IntKind.i64.wrap (2 * (k : Int)) = 2 * (k : Int) := IntWalk.i64_in _ (by omega)
  have hw3 : IntKind.i64.wrap (2 * (k : Int) + 1) = (n : Int) := by rw [IntWalk.i64_in _ (by omega)]; omega
  have HN := Lib.hid hn; have HF := Lib.hid hfar
  have hnb : n ≤ 2097153 := by omega
  have hfb : 0 ≤ far ∧ far ≤ 1048577 := by omega
  clear ha hb hn hfar
  go_enter Try.func48, Try.ntmps48
  go_wp2_with (at_make; refine wpList_make_full _ rfl _ _ 73 rfl w.heap.size 3 i0 (.int .i64 0) 1 Try.underlying73 hi hz0 hz1 _ _ _ _ n rfl rfl (by omega) (by omega) (by rw [hz2]; omega) (by unfold maxLen; omega) (Nat.le_refl _) ?_; intro w0 hown0 hgrow0)
  have hB0 := below_grown hgrow0 (by intro k hk; cases hk)
  have ho : w0.ownsRow w.heap.size 3 1 (.slice (some ⟨w.heap.size, 0, none⟩) n n) n (intsV (upTo n 0)) := by
    rw [upTo_zero, ← toList_madeCells_one]; rw [Nat.mul_one] at hown0; exact hown0
  have R0 := Lib.hid (RowIs.of_own ho (upTo_length _ _)); have B0 := Lib.hid hB0
  clear hown0 hgrow0 ho hB0
  obtain ⟨g, hg⟩ : ∃ g, w.heap.size = g := ⟨_, rfl⟩
  have HG := Lib.hid hg
  rw [hg] at R0
  simp only [hg]
  clear hg
  go_loopw [20] (fun xv wr => ∃ (x : Nat) (f' : Nat → Int), x ≤ n ∧ xv = .int .i64 x ∧ Hid (RowIs wr g n f') ∧ Hid (∀ y, y < x → Cell ra rb k 0 y (f' y)) ∧ Hid (Below w.heap.size w wr)) (fun xv _ => n - (intOf xv).toNat)
  case atStart => exact ⟨0, _, by omega, rfl, R0, Lib.hid (fun y h => by omega), B0⟩
  case round =>
    obtain ⟨x, f', hx, rfl, hR, hC, hB⟩ := hrel
    by_cases hlt : x < n
    · have hc := hR.out.c x hlt
      have hf := hR.out.fr x
      have hR1 := Lib.hid (hR.out.set x far hlt)
      have hcs := cell_start ra rb k x (by have := HN.out; omega)
      have x1 : (0 : Int) ≤ (x : Int) := by omega
      have x2 : (x : Int) < (n : Int) := by omega
      have hf1 := hR1.out.fr x
      have hc1 := hR1.out.c x hlt
      have hgl : w.heap.size ≤ g := Nat.le_of_eq HG.out
      by_cases hxk : k ≤ x
      · rw [if_pos hxk] at hcs
        obtain ⟨V, hV⟩ : ∃ V, (x : Int) - k = V := ⟨_, rfl⟩
        rw [hV] at hcs
        have hVw : IntKind.i64.wrap ((x : Int) - k) = V := by rw [IntWalk.i64_in _ (by omega)]; exact hV
        have hR2 := Lib.hid (hR1.out.set x V hlt)
        have HCS := Lib.hid hcs
        clear hV hcs
        go_wp2_with fail
        go_roundw
        case rel =>
          refine ⟨x + 1, _, by omega, by go_num, hR2, Lib.hid (fun y hy => ?_), Lib.hid ((hB.out.setCell hgl _).setCell hgl _)⟩
          by_cases e : y = x
          · subst e; rw [updI_at]; exact HCS.out
          · rw [updI_ne _ _ _ _ e, updI_ne _ _ _ _ e]; exact hC.out y (by omega)
        case measure => simp [intOf]; omega
      · rw [if_neg hxk] at hcs
        have HCS := Lib.hid hcs
        clear hcs
        go_wp2_with fail
        go_roundw
        case rel =>
          refine ⟨x + 1, _, by omega, by go_num, hR1, Lib.hid (fun y hy => ?_), Lib.hid (hB.out.setCell hgl _)⟩
          by_cases e : y = x
          · subst e; rw [updI_at, ← HF.out]; exact HCS.out
          · rw [updI_ne _ _ _ _ e]; exact hC.out y (by omega)
        case measure => simp [intOf]; omega
    · obtain rfl : x = n := by omega
      have C1 := Lib.hid (show ∀ y, y < x → Cell ra rb k 0 y (f' y) from hC.out)
      clear hC
      go_wp2_with fail
      go_loopw [39] (fun iv wr2 => ∃ (i : Nat) (f2 : Nat → Int), i ≤ la ∧ iv = .int .i64 i ∧ Hid (RowIs wr2 g x f2) ∧ Hid (∀ y, y < x → Cell ra rb k i y (f2 y)) ∧ Hid (Below w.heap.size w wr2)) (fun iv _ => la - (intOf iv).toNat)
      case atStart => exact ⟨0, f', by omega, rfl, hR, C1, hB⟩
      case round =>
        obtain ⟨i, f2, hi2, rfl, hR2, hC2, hB2⟩ := hrel
        by_cases hil : i < la
        · obtain ⟨ab, ao, rfl, hac⟩ := (HA.out.below (w' := wr) hB2.out).2 (by omega)
          have e1 := hac i hil
          have hiw : IntKind.i64.wrap ((i : Int) + 1) = (i : Int) + 1 := IntWalk.i64_in _ (by omega)
          have hiw2 : IntKind.i64.wrap ((i : Int) + 1 - k) = (i : Int) + 1 - k := IntWalk.i64_in _ (by omega)
          have hne : ∀ b' o, 0 < lb → b = some ⟨b', o, none⟩ → b' ≠ g := fun b' o h0 e => by
            obtain ⟨b2, o2, e2, hc2⟩ := HB.out.2 h0
            rw [e2] at e; injection e with e; injection e with e3
            have := lt_of_cell (hc2 0 h0); have := HG.out; omega
          have NE := Lib.hid hne
          clear hac hne
          go_wp2_with fail
          have hn' := HN.out
          have hadv := badvance_any ra rb g k i x lb cb f2 b wr (hn' ▸ hR2.out) (fun y hy => hC2.out y (by omega)) (HB.out.below hB2.out) NE.out hk hlb (by omega)
          rw [hn', HF.out] at hadv
          refine hadv.mono ?_
          rintro e w2 ⟨rfl, ⟨f3, hr3, hc3⟩, hb3⟩
          have R3 := Lib.hid hr3; have C3 := Lib.hid hc3
          have B3 := Lib.hid (hB2.out.trans (hb3.below (Nat.le_of_eq HG.out) hB2.out.size))
          clear hr3 hc3 hb3 hadv hn'
          go_wp2_with fail
          go_roundw
          case rel => exact ⟨i + 1, f3, by omega, by go_num, R3, C3, B3⟩
          case measure => simp [intOf]; omega
        · obtain rfl : i = la := by omega
          obtain ⟨p, hp⟩ : ∃ p : Nat, (p : Int) = (lb : Int) - i + k := ⟨((lb : Int) - i + k).toNat, by omega⟩
          have hpx : p < x := by have := HN.out; omega
          have e1 := hR2.out.c p hpx
          have e2 := (hC2.out p hpx).eq lb (by omega) (by rw [LB.out]; exact Nat.le_refl _)
          rw [e2, HF.out] at e1
          have q1 : IntKind.i64.wrap ((lb : Int) - i) = (lb : Int) - i := IntWalk.i64_in _ (by omega)
          have q2 : IntKind.i64.wrap ((lb : Int) - i + k) = (p : Int) := by rw [IntWalk.i64_in _ (by omega)]; exact hp.symm
          have q3 : (0 : Int) ≤ (p : Int) := by omega
          have q4 : (p : Int) < (x : Int) := by omega
          obtain ⟨V, hV⟩ : ∃ V, min (Ed.L ra rb i lb) far = V := ⟨_, rfl⟩
          rw [hV] at e1
          have HV := Lib.hid hV
          clear e2 hp hV
          go_wp2_with fail
          go_ret
          exact ⟨ret_int (by rw [HF.out]; exact HV.out.symm), hB2.out⟩
end Go.Proofs.Ytmpkmgkafhlpjaa
