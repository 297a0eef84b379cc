/- contract of band.advance -/
import Derived.Test.YtmpkmgkafhlpjaaBaM
import Derived.Deep.DeepCutAuto
import Derived.Deep.CutRange
namespace Go.Proofs.Ytmpkmgkafhlpjaa
open Go.RowKit
set_option linter.unusedVariables false
set_option maxRecDepth 20000
set_option maxHeartbeats 6400000 in
theorem badvance_any (ra rb : List Int) (g k i cap m cb : Nat) (f : Nat → Int) (b : Option Addr) (w : World) (hrow : RowIs w g (2 * k + 1) f) (hcell : ∀ x, x < 2 * k + 1 → Cell ra rb k i x (f x))
    (hb : HoldsI .i32 w b m rb) (hne : ∀ b' o, 0 < m → b = some ⟨b', o, none⟩ → b' ≠ g) (hk : k ≤ 1048576) (hm : m ≤ 1048576) (hi : i ≤ 1048576) :
    Calls Try.prog 66 #[.slice (some ⟨g, 0, none⟩) (2 * k + 1) cap, .slice b m cb, .int .i64 ((i : Int) + 1 - k), .int .i32 (ra.getD i 0), .int .i64 ((k : Int) + 1)] w fun e w' => e = .returned (.tuple #[]) ∧
      (∃ f', RowIs w' g (2 * k + 1) f' ∧ ∀ x, x < 2 * k + 1 → Cell ra rb k (i + 1) x (f' x)) ∧ But g w w' := by
  have hlb := hb.len
  obtain ⟨r, hr⟩ : ∃ r, ra.getD i 0 = r := ⟨_, rfl⟩
  obtain ⟨st, hst⟩ : ∃ st, (i : Int) + 1 - k = st := ⟨_, rfl⟩
  obtain ⟨far, hfar⟩ : ∃ far, (k : Int) + 1 = far := ⟨_, rfl⟩
  obtain ⟨n, hn⟩ : ∃ n, 2 * k + 1 = n := ⟨_, rfl⟩
  rw [hn] at hrow hcell
  rw [hr, hst, hfar, hn]
  have R0 := Lib.hid hrow; have C0 := Lib.hid hcell; have HB := Lib.hid hb; have NE := Lib.hid hne; have LB := Lib.hid hlb
  have HR := Lib.hid hr; have HF := Lib.hid hfar; have HNN := Lib.hid hn; have HST := Lib.hid hst
  have hfb : 0 ≤ far ∧ far ≤ 1048577 := by omega
  have hsb : -1048576 ≤ st ∧ st ≤ 1048577 := by omega
  have hnb : n ≤ 2097153 := by omega
  clear hrow hcell hb hne hlb hr hst hfar hn
  go_enter Try.func66, Try.ntmps66
  go_wp2_with fail
  go_loopw [15] (fun xv wr => ∃ (x : Nat) (f' : Nat → Int), x ≤ n ∧ xv = .int .i64 x ∧ Hid (RowIs wr g n f') ∧ Hid (∀ y, y < x → Cell ra rb k (i + 1) y (f' y)) ∧ Hid (∀ y, x ≤ y → f' y = f y) ∧ Hid (But g w wr)) (fun xv _ => n - (intOf xv).toNat)
  case atStart => exact ⟨0, f, by omega, rfl, R0, Lib.hid (fun y h => by omega), Lib.hid (fun y _ => rfl), Lib.hid (But.refl _ _)⟩
  case round =>
    obtain ⟨x, f', hx, rfl, hR, hC, hO, hB⟩ := hrel
    by_cases hlt : x < n
    · have hfx := hR.out.fr x
      have hcx := hR.out.c x hlt
      have hox := hO.out x (Nat.le_refl _)
      have hCx := C0.out x hlt
      rw [hox] at hcx
      obtain ⟨o, ho⟩ : ∃ o, f x = o := ⟨_, rfl⟩
      rw [ho] at hcx hCx
      have hob : 0 ≤ o ∧ o ≤ 1048577 := by have h1 := hCx.lo; have h2 := hCx.hi; omega
      have HCX := Lib.hid hCx
      obtain ⟨j, hj⟩ : ∃ j, st + (x : Int) = j := ⟨_, rfl⟩
      have hjw : IntKind.i64.wrap (st + (x : Int)) = j := by rw [IntWalk.i64_in _ (by omega)]; exact hj
      have hjv : j = (i : Int) + 1 + x - k := by have := HST.out; omega
      have HJV := Lib.hid hjv
      have done : ∀ v, Cell ra rb k (i + 1) x v → RowIs (wr.setCell ⟨g, x, none⟩ (.int .i64 v)) g n (updI f' x v) ∧ (∀ y, y < x + 1 → Cell ra rb k (i + 1) y (updI f' x v y)) ∧ (∀ y, x + 1 ≤ y → updI f' x v y = f y) ∧ But g w (wr.setCell ⟨g, x, none⟩ (.int .i64 v)) := by
        intro v hv
        refine ⟨hR.out.set x v hlt, fun y hy => ?_, fun y hy => by rw [updI_ne _ _ _ _ (by omega)]; exact hO.out y (by omega), hB.out.trans (But.setCell _ _ _ _)⟩
        by_cases e : y = x
        · subst e; rw [updI_at]; exact hv
        · rw [updI_ne _ _ _ _ e]; exact hC.out y (by omega)
      have D := Lib.hid done
      clear hox ho hj hjv hCx done
      by_cases hj0 : j < 0 ∨ (m : Int) < j
      · have hv : Cell ra rb k (i + 1) x far := by
          rw [← HF.out]
          rcases hj0 with h | h
          · exact cell_out_low _ _ _ _ _ (by have := HJV.out; omega)
          · exact cell_out_high _ _ _ _ _ (by rw [LB.out]; have := HJV.out; omega)
        obtain ⟨z1, z2, z3, z4⟩ := D.out far hv
        have Z1 := Lib.hid z1; have Z2 := Lib.hid z2; have Z3 := Lib.hid z3; have Z4 := Lib.hid z4
        clear z1 z2 z3 z4 hv
        rcases hj0 with h | h
        · go_wp2_with fail
          go_roundw
          case rel => exact ⟨x + 1, _, by omega, by go_num, Z1, Z2, Z3, Z4⟩
          case measure => simp [intOf]; omega
        · have h0 : 0 ≤ j := by omega
          go_wp2_with fail
          go_roundw
          case rel => exact ⟨x + 1, _, by omega, by go_num, Z1, Z2, Z3, Z4⟩
          case measure => simp [intOf]; omega
      · have h0 : 0 ≤ j := by omega
        have h1 : j ≤ (m : Int) := by omega
        clear hj0
        have hD1 : ∃ D1, 0 ≤ D1 ∧ D1 ≤ 1048578 ∧ Comes ra rb k i x D1 ∧ ((j = 0 ∧ D1 = far) ∨ (∃ J : Nat, j = (J : Int) + 1 ∧ ((rb.getD J 0 = r ∧ D1 = o) ∨ (rb.getD J 0 ≠ r ∧ D1 = o + 1)))) := by
          by_cases hjz : j = 0
          · exact ⟨far, by omega, by omega, by rw [← HF.out]; exact comes_zero ra rb k i x (by have := HJV.out; omega), Or.inl ⟨hjz, rfl⟩⟩
          · have e := comes_in ra rb k i x (j - 1).toNat o (by have := HJV.out; omega) (by rw [LB.out]; omega) HCX.out
            by_cases hc : rb.getD (j - 1).toNat 0 = r
            · rw [HR.out, hc, cost_eq, Int.add_zero] at e
              exact ⟨o, by omega, by omega, e, Or.inr ⟨(j - 1).toNat, by omega, Or.inl ⟨hc, rfl⟩⟩⟩
            · rw [HR.out, cost_ne (fun h => hc h.symm)] at e
              exact ⟨o + 1, by omega, by omega, e, Or.inr ⟨(j - 1).toNat, by omega, Or.inr ⟨hc, rfl⟩⟩⟩
        obtain ⟨D1, hd0, hd1, hcomes, hD⟩ := hD1
        have CM := Lib.hid hcomes
        have HD := Lib.hid hD
        clear hcomes hD
        go_upto_if 35 with fail
        go_cut [12] from 16 to 78 (fun d wc => d = .int .i64 D1 ∧ wr = wc)
        case first =>
          rcases HD.out with ⟨hj, hd⟩ | ⟨J, hj, hc⟩
          · subst hj
            go_wp2_with fail
            go_meet
            exact ⟨by rw [hd], rfl⟩
          · obtain ⟨bb, bo, rfl, hbc⟩ := (HB.out.but hB.out NE.out).2 (by omega)
            have e1 := hbc J (by omega)
            obtain ⟨c, hcv⟩ : ∃ c, rb.getD J 0 = c := ⟨_, rfl⟩
            rw [hcv] at e1 hc
            have hjw2 : IntKind.i64.wrap (j - 1) = (J : Int) := by rw [IntWalk.i64_in _ (by omega)]; omega
            have x1 : (0 : Int) < j := by omega
            have x2 : (0 : Int) ≤ (J : Int) := by omega
            have x3 : (J : Int) < (m : Int) := by omega
            have HJ := Lib.hid hj
            clear hbc hcv hj
            rcases hc with ⟨hc, hd⟩ | ⟨hc, hd⟩
            · have x4 : (c != r) = false := by simpa using hc
              clear hc
              subst hd
              go_wp2_with fail
              go_meet
              exact ⟨rfl, rfl⟩
            · have x4 : (c != r) = true := by simpa using hc
              clear hc
              go_wp2_with fail
              go_meet
              exact ⟨by rw [hd], rfl⟩
        case rest =>
          obtain ⟨rfl, rfl⟩ := hcut
          clear HD
          have hD2 : ∃ D2 l, 0 ≤ D2 ∧ D2 ≤ 1048578 ∧ 0 ≤ l ∧ l ≤ 1048577 ∧ ((x = 0 ∧ D2 = D1) ∨ (∃ p, p + 1 = x ∧ Cell ra rb k (i + 1) p l ∧ D2 = min D1 (l + 1))) ∧ (∀ p, p + 1 = x → f' p = l) := by
            rcases Nat.eq_zero_or_pos x with hx0 | hx0
            · exact ⟨D1, 0, by omega, by omega, by omega, by omega, Or.inl ⟨hx0, rfl⟩, fun p hp => by omega⟩
            · have e := hC.out (x - 1) (by omega)
              have b1 := e.lo; have b2 := e.hi
              exact ⟨min D1 (f' (x - 1) + 1), f' (x - 1), by omega, by omega, b1, by omega, Or.inr ⟨x - 1, by omega, e, rfl⟩, fun p hp => by rw [show p = x - 1 by omega]⟩
          obtain ⟨D2, l, he0, he1, hl0, hl1, hD2, hpl⟩ := hD2
          have HD2 := Lib.hid hD2
          have HPL := Lib.hid hpl
          clear hD2 hpl
          go_upto_if 50 with fail
          go_cut [12] from 16 to 78 (fun d wc => d = .int .i64 D2 ∧ wr = wc)
          case first =>
            rcases HD2.out with ⟨hx0, hd⟩ | ⟨p, hp, _, hd⟩
            · subst hx0 hd
              go_wp2_with fail
              go_meet
              exact ⟨rfl, rfl⟩
            · have e1 := hR.out.c p (by omega)
              rw [HPL.out p hp] at e1
              have hw2 : IntKind.i64.wrap ((x : Int) - 1) = (p : Int) := by rw [IntWalk.i64_in _ (by omega)]; omega
              have x1 : (0 : Int) < (x : Int) := by omega
              have x2 : (0 : Int) ≤ (p : Int) := by omega
              have x3 : (p : Int) < (n : Int) := by omega
              have x5 : p < n := by omega
              have hw3 : IntKind.i64.wrap (l + 1) = l + 1 := IntWalk.i64_in _ (by omega)
              have HDD := Lib.hid hd
              clear hd
              go_wp2_with fail
              all_goals go_meet
              all_goals exact ⟨by congr 1; have := HDD.out; omega, rfl⟩
          case rest =>
            obtain ⟨rfl, rfl⟩ := hcut
            have hD3 : ∃ D3 u, 0 ≤ D3 ∧ D3 ≤ 1048578 ∧ 0 ≤ u ∧ u ≤ 1048577 ∧ ((x = 2 * k ∧ D3 = D2) ∨ (x < 2 * k ∧ Cell ra rb k i (x + 1) u ∧ D3 = min D2 (u + 1))) ∧ (x + 1 < n → f' (x + 1) = u) := by
              by_cases hxn : x + 1 < n
              · have e := C0.out (x + 1) hxn
                have b1 := e.lo; have b2 := e.hi
                exact ⟨min D2 (f (x + 1) + 1), f (x + 1), by omega, by omega, b1, by omega, Or.inr ⟨by have := HNN.out; omega, e, rfl⟩, fun _ => hO.out (x + 1) (by omega)⟩
              · exact ⟨D2, 0, by omega, by omega, by omega, by omega, Or.inl ⟨by have := HNN.out; omega, rfl⟩, fun h => absurd h hxn⟩
            obtain ⟨D3, u, hf0, hf1, hu0, hu1, hD3, hpu⟩ := hD3
            have HD3 := Lib.hid hD3
            have HPU := Lib.hid hpu
            clear hD3 hpu
            go_upto_if 63 with fail
            go_cut [12] from 16 to 78 (fun d wc => d = .int .i64 D3 ∧ wr = wc)
            case first =>
              by_cases hxn : x + 1 < n
              · have hd : D3 = min D2 (u + 1) := by
                  rcases HD3.out with ⟨h, _⟩ | ⟨_, _, h⟩
                  · have := HNN.out; omega
                  · exact h
                have e1 := hR.out.c (x + 1) hxn
                rw [HPU.out hxn] at e1
                have x3 : (x : Int) + 1 < (n : Int) := by omega
                have hw2 : IntKind.i64.wrap ((x : Int) + 1) = (x : Int) + 1 := IntWalk.i64_in _ (by omega)
                have hw3 : IntKind.i64.wrap (u + 1) = u + 1 := IntWalk.i64_in _ (by omega)
                have HDD := Lib.hid hd
                clear hd
                go_wp2_with fail
                all_goals go_meet
                all_goals exact ⟨by congr 1; have := HDD.out; omega, rfl⟩
              · have hd : D3 = D2 := by
                  rcases HD3.out with ⟨_, h⟩ | ⟨h, _⟩
                  · exact h
                  · have := HNN.out; omega
                subst hd
                have x3 : ¬ (x : Int) + 1 < (n : Int) := by omega
                have hw2 : IntKind.i64.wrap ((x : Int) + 1) = (x : Int) + 1 := IntWalk.i64_in _ (by omega)
                go_wp2_with fail
                go_meet
                exact ⟨rfl, rfl⟩
            case rest =>
              obtain ⟨rfl, rfl⟩ := hcut
              obtain ⟨z1, z2, z3, z4⟩ := D.out (min D3 far) (CM.out l u D2 D3 (min D3 far) HD2.out HD3.out (by rw [HF.out]))
              obtain ⟨V, hV⟩ : ∃ V, min D3 far = V := ⟨_, rfl⟩
              rw [hV] at z1 z2 z3 z4
              have Z1 := Lib.hid z1; have Z2 := Lib.hid z2; have Z3 := Lib.hid z3; have Z4 := Lib.hid z4
              clear z1 z2 z3 z4 HD2 HD3 HPL HPU D CM
              have hmin : (D3 < far ∧ V = D3) ∨ (D3 = far ∧ V = D3) ∨ (far < D3 ∧ V = far) := by omega
              rcases hmin with ⟨h3, h4⟩ | ⟨h3, h4⟩ | ⟨h3, h4⟩
              · subst h4
                go_wp2_with fail
                go_roundw
                case rel => exact ⟨x + 1, _, by omega, by go_num, Z1, Z2, Z3, Z4⟩
                case measure => simp [intOf]; omega
              · subst h4 h3
                go_wp2_with fail
                go_roundw
                case rel => exact ⟨x + 1, _, by omega, by go_num, Z1, Z2, Z3, Z4⟩
                case measure => simp [intOf]; omega
              · subst h4
                go_wp2_with fail
                go_roundw
                case rel => exact ⟨x + 1, _, by omega, by go_num, Z1, Z2, Z3, Z4⟩
                case measure => simp [intOf]; omega
    · obtain rfl : x = n := by omega
      go_wp2_with fail
      go_end0
      exact ⟨rfl, ⟨f', hR.out, fun y hy => hC.out y (by have := HNN.out; omega)⟩, hB.out⟩
end Go.Proofs.Ytmpkmgkafhlpjaa
