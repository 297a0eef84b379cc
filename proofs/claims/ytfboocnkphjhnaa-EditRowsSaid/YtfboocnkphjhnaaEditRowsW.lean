/- the law of the rows of distances -/
import Derived.Test.YtfboocnkphjhnaaEdW
import Derived.Deep.RegionHeld3
import Derived.Deep.DeepCutAuto
import Derived.BigGuard
namespace Go.Proofs.Ytfboocnkphjhnaa
open Go.RowKit
set_option linter.unusedVariables false
set_option maxHeartbeats 12800000 in
theorem editRows_any (ra rb : List Int) (a b : Option Addr) (ca cb : Nat) (w : World) (ha : HoldsI .i32 w a ra.length ra) (hb : HoldsI .i32 w b rb.length rb) (h63 : ra.length ≤ 9223372036854775807) (h64 : rb.length ≤ 9223372036854775807) (hnil : a = none → ra.length = 0 ∧ ca = 0) (hca : ra.length ≤ ca) (hca2 : ca ≤ 9223372036854775807) :
    Calls Try.prog 6 #[.slice a ra.length ca, .slice b rb.length cb] w fun e w' => e = .returned (.bool true) ∧ Below w.heap.size w w' := by
  by_cases hlong : 30 < ra.length ∨ 30 < rb.length
  · have hd := long_any ra.length ca rb.length cb a b w h63 h64
    rw [decide_eq_true hlong] at hd
    have HD := Lib.hid hd
    clear hd hlong ha hb h63 h64 hnil
    obtain ⟨m, hm⟩ : ∃ m, ra.length = m := ⟨_, rfl⟩
    obtain ⟨n, hn⟩ : ∃ n, rb.length = n := ⟨_, rfl⟩
    rw [hm, hn] at HD ⊢
    clear hm hn
    go_enter Try.func6, Try.ntmps6
    go_wp2_with fail
    refine HD.out.mono ?_
    rintro e w' ⟨rfl, rfl⟩
    go_wp2_with fail
    refine (awake_any _).mono ?_
    rintro e w' ⟨rfl, hb3⟩
    go_wp2_with fail
    go_ret
    exact ⟨rfl, hb3⟩
  · have hla : ra.length ≤ 30 := by omega
    have hlb : rb.length ≤ 30 := by omega
    have hd := long_any ra.length ca rb.length cb a b w h63 h64
    rw [decide_eq_false hlong] at hd
    obtain ⟨m, hm⟩ : ∃ m, ra.length = m := ⟨_, rfl⟩
    obtain ⟨n, hn⟩ : ∃ n, rb.length = n := ⟨_, rfl⟩
    have hrl := Ed.row_length ra rb n
    have hrow := Ed.row_getD ra rb n
    have hr0 := Ed.L_zeroL ra rb n
    simp only [hm, hn] at hd hla hlb ha hb hnil hca hrl hrow ⊢
    have hruns := fun k W (hk : k ≤ m) (h : Below w.heap.size w W) => eruns_lit (ra.take k) rb k n a b ca cb W (by simp; omega) hn ((ha.below h).take k hk) (hb.below h) (by omega) (by omega)
    have hruns : ∀ k W, k ≤ m → Below w.heap.size w W → Calls Try.prog 16 #[.slice a k ca, .slice b n cb] W fun e w' => e = .returned (.int .i64 (Ed.L ra rb k n)) ∧ Below W.heap.size W w' := fun k W hk h => by
      have h1 := hruns k W hk h; rw [Ed.L_take ra rb k k n (Nat.le_refl _)] at h1; exact h1
    have hrows := rows_lit ra rb m n a b ca cb w hm hn ha hb (by omega) (by omega)
    have hbd := fun k => Ed.L_bd ra rb k n
    have hst := fun k => Ed.L_left ra rb k n
    have hbk := fun k => Ed.L_back ra rb k n
    have HD := Lib.hid hd; have HR := Lib.hid hruns; have HROWS := Lib.hid hrows; have HROW := Lib.hid hrow; have HRL := Lib.hid hrl; have HBD := Lib.hid hbd; have HST := Lib.hid hst; have HBK := Lib.hid hbk; have HNIL := Lib.hid hnil
    obtain ⟨l, hl⟩ : ∃ l, m + 1 = l := ⟨_, rfl⟩
    rw [hl] at HRL HROWS
    have e1 : ((l : Int) != (l : Int)) = false := by simp
    have r1 : IntKind.i64.wrap ((m : Int) + 1) = (l : Int) := by rw [IntWalk.i64_in _ (by omega)]; omega
    have e2 : ((n : Int) != (n : Int)) = false := by simp
    have q1 : (0 : Int) ≤ (m : Int) := by omega
    have q2 : (m : Int) < (l : Int) := by omega
    have q3 : (m : Int) ≤ (l : Int) := by omega
    have q4 : (0 : Int) < (l : Int) := by omega
    have q5 : m < l := by omega
    have q6 : 0 < l := by omega
    have HL := Lib.hid hl
    clear hl
    clear hd hruns hrows hrow hrl hbd hst hbk ha hb hlong hm hn h63 h64 hnil
    go_enter Try.func6, Try.ntmps6
    go_wp2_with fail
    refine HD.out.mono ?_
    rintro e w' ⟨rfl, rfl⟩
    go_wp2_with fail
    refine HROWS.out.mono ?_
    rintro e w1 ⟨rfl, hown, hb1⟩
    have O1 := Lib.hid hown; have B1 := Lib.hid hb1
    have s1 := B1.out.size
    clear hown hb1
    have t0 := O1.out.cellAt 0 (by omega)
    rw [intsV_at _ 0 (by rw [HRL.out]; omega), HROW.out 0 (by omega), hr0] at t0
    have tm := O1.out.cellAt m (by omega)
    rw [intsV_at _ m (by rw [HRL.out]; omega), HROW.out m (by omega)] at tm
    have T := Lib.hid (show Two w1 w.heap.size 0 m (.int .i64 n) (.int .i64 (Ed.L ra rb m n)) w1 from ⟨Below.refl _ _, t0, tm⟩)
    have bm := HBD.out m
    obtain ⟨D, hD⟩ : ∃ D, Ed.L ra rb m n = D := ⟨_, rfl⟩
    have hrm := HR.out m
    rw [hD] at T bm hrm
    have HRM := Lib.hid hrm
    clear t0 tm hrm hr0
    have e3 : (D != D) = false := by simp
    go_upto_region 4 with fail
    go_region_held3 (fun w' => Below w1.heap.size w1 w' ∧ w'.cell? ⟨w.heap.size, 0, none⟩ = some (.int .i64 n) ∧ w'.cell? ⟨w.heap.size, m, none⟩ = some (.int .i64 D))
      (first | assumption | exact two_carry T.out (below_drewN w1 _) | exact two_carry T.out (Below.refl _ _).drew | exact two_carry (by assumption) (by assumption))
      (first | (go_at_call 16; refine (HRM.out _ (by omega) (B1.out.trans (Below.mono (And.left (by assumption)) B1.out.size))).mono ?_; rintro e w' ⟨rfl, hb⟩))
    rename_i T4
    obtain ⟨hb4, -, -⟩ := T4
    have B4 := Lib.hid hb4
    clear hb4 e3 HRM hD bm T
    go_wp2_with fail
    go_loopw [6] (fun i wr => ∃ k : Nat, k ≤ l ∧ i = .int .i64 k ∧ Hid (Below w1.heap.size w1 wr)) (fun i _ => l - (intOf i).toNat)
    case atStart => exact ⟨0, by omega, rfl, B4⟩
    case round =>
      obtain ⟨k, hk, rfl, hB⟩ := hrel
      by_cases hlt : k < l
      · have hkm : k ≤ m := by have := HL.out; omega
        have hOk := owns_below O1.out hB.out
        have tk := hOk.cellAt k (by have := HL.out; omega)
        rw [intsV_at _ k (by rw [HRL.out]; exact hlt), HROW.out k hkm] at tk
        have bk := HBD.out k
        have hrk := fun W => HR.out k W hkm
        have hp : ∃ p, p < l ∧ (0 < k → p + 1 = k) := ⟨k - 1, by omega, by omega⟩
        obtain ⟨p, hpl, hpk⟩ := hp
        have tp := hOk.cellAt p (by have := HL.out; omega)
        rw [intsV_at _ p (by rw [HRL.out]; exact hpl), HROW.out p (by have := HL.out; omega)] at tp
        have bp := HBD.out p
        have d1 : 0 < k → Ed.L ra rb k n ≤ Ed.L ra rb p n + 1 ∧ Ed.L ra rb p n ≤ Ed.L ra rb k n + 1 := fun h => by rw [← hpk h]; exact ⟨HST.out p, HBK.out p⟩
        obtain ⟨X, hX⟩ : ∃ X, Ed.L ra rb k n = X := ⟨_, rfl⟩
        obtain ⟨Y, hY⟩ : ∃ Y, Ed.L ra rb p n = Y := ⟨_, rfl⟩
        rw [hX] at tk bk d1; rw [hY] at tp bp d1
        simp only [hX] at hrk
        have T := Lib.hid (show Two wr w.heap.size k p (.int .i64 X) (.int .i64 Y) wr from ⟨Below.refl _ _, tk, tp⟩)
        have sw := hB.out.size
        have BW := Lib.hid (B1.out.trans (hB.out.mono B1.out.size))
        have swr := BW.out.size
        have HRK := Lib.hid hrk
        obtain ⟨X1, hX1⟩ : ∃ z, X + 1 = z := ⟨_, rfl⟩
        obtain ⟨Y1, hY1⟩ : ∃ z, Y + 1 = z := ⟨_, rfl⟩
        have f1 : IntKind.i64.wrap (X + 1) = X1 := by rw [IntWalk.i64_in _ (by have := HL.out; omega)]; exact hX1
        have f2 : IntKind.i64.wrap (Y + 1) = Y1 := by rw [IntWalk.i64_in _ (by have := HL.out; omega)]; exact hY1
        have f3 : (X != X) = false := by simp
        have g1 : (0 : Int) ≤ (k : Int) := by omega
        have g2 : (k : Int) < (l : Int) := by omega
        have g3 : (0 : Int) ≤ (p : Int) := by omega
        have g4 : (p : Int) < (l : Int) := by omega
        have g5 : (k : Int) ≤ (ca : Int) := by omega
        have g6 : k ≤ ca := by omega
        have hkc := Nat.lt_or_ge 0 k
        clear tk tp hX hY hrk hOk bk bp
        rcases hkc with h0 | h0
        · have d2 := d1 h0
          have d3 : decide (X > Y1) = false := by simp; omega
          have d4 : decide (Y > X1) = false := by simp; omega
          have d5 : decide ((k : Int) > 0) = true := by simp; omega
          have d6 : IntKind.i64.wrap ((k : Int) - 1) = (p : Int) := by rw [IntWalk.i64_in _ (by omega)]; have := hpk h0; omega
          have hane : a ≠ none := fun h => by have := HNIL.out h; omega
          obtain ⟨ad, rfl⟩ := Option.ne_none_iff_exists'.1 hane
          clear d1 d2 hane hpk hX1 hY1
          go_upto_region 9 with fail
          go_region_held3 (fun w' => Below wr.heap.size wr w' ∧ w'.cell? ⟨w.heap.size, k, none⟩ = some (.int .i64 X) ∧ w'.cell? ⟨w.heap.size, p, none⟩ = some (.int .i64 Y))
            (first | assumption | exact two_carry T.out (below_drewN wr _) | exact two_carry T.out (Below.refl _ _).drew | exact two_carry (by assumption) (by assumption))
            (first | (go_at_call 16; refine (HRK.out _ (BW.out.trans (Below.mono (And.left (by assumption)) BW.out.size))).mono ?_; rintro e w' ⟨rfl, hb⟩))
          rename_i T5
          obtain ⟨hb5, -, -⟩ := T5
          go_wp2_with fail
          go_roundw
          case rel => exact ⟨k + 1, by omega, by go_num, Lib.hid (hB.out.trans (hb5.mono sw))⟩
          case measure => simp [intOf]; omega
        · have d5 : decide ((k : Int) > 0) = false := by simp; omega
          obtain rfl : k = 0 := by omega
          clear d1 hpk hX1 hY1
          have hS0 := two_carry T.out (Below.refl wr.heap.size wr).drew
          go_upto_region 9 with fail
          refine wp_region_held_drew (S := (fun w' => Below wr.heap.size wr w' ∧ w'.cell? ⟨w.heap.size, 0, none⟩ = some (.int .i64 X) ∧ w'.cell? ⟨w.heap.size, p, none⟩ = some (.int .i64 Y))) (by kernel_rfl) hS0 (fun hHeld => ?_)
          refine wpAnyH_take (i := 0) (oi := { dst := some 45, op := Op.move (Operand.tmp 5), type := 26, pos := "law.go:80", after := #[], guard := none }) (v := ?v0) rfl (by kernel_rfl) (by kernel_rfl) (by kernel_rfl) (fun _ _ _ h => h) (Or.inl ⟨by rfl, ?hy0⟩) (by assumption) ?rest0
          case hy0 => (intro w hSw; (try dsimp only at hSw); go_simp; (try with_reducible rfl))
          try simp only [Act.put, List.setIfInBounds_toArray, List.set_cons_zero, List.set_cons_succ]
          refine wpAnyH_take (i := 1) (oi := { dst := some 46, op := Op.move (Operand.tmp 6), type := 3, pos := "law.go:80", after := #[], guard := none }) (v := ?v1) rfl (by kernel_rfl) (by kernel_rfl) (by kernel_rfl) (fun _ _ _ h => h) (Or.inl ⟨by rfl, ?hy1⟩) (by assumption) ?rest1
          case hy1 => (intro w hSw; (try dsimp only at hSw); go_simp; (try with_reducible rfl))
          try simp only [Act.put, List.setIfInBounds_toArray, List.set_cons_zero, List.set_cons_succ]
          refine wpAnyH_take (i := 2) (oi := { dst := some 47, op := Op.indexAddr 26 (Operand.tmp 45) (Operand.tmp 46), type := 0, pos := "law.go:80", after := #[{ on := 0, ground := Ground.data }, { on := 1, ground := Ground.data }], guard := none }) (v := ?v2) rfl (by kernel_rfl) (by kernel_rfl) (by kernel_rfl) (fun _ _ _ h => h) (Or.inl ⟨by rfl, ?hy2⟩) (by assumption) ?rest2
          case hy2 => (intro w hSw; (try dsimp only at hSw); go_simp; (try with_reducible rfl))
          try simp only [Act.put, List.setIfInBounds_toArray, List.set_cons_zero, List.set_cons_succ]
          refine wpAnyH_take (i := 3) (oi := { dst := some 48, op := Op.load 3 (Operand.tmp 47), type := 3, pos := "law.go:80", after := #[{ on := 2, ground := Ground.data }], guard := none }) (v := ?v3) rfl (by kernel_rfl) (by kernel_rfl) (by kernel_rfl) (fun _ _ _ h => h) (Or.inl ⟨by rfl, ?hy3⟩) (by assumption) ?rest3
          case hy3 => (intro w hSw; (try dsimp only at hSw); go_simp; (try with_reducible rfl))
          try simp only [Act.put, List.setIfInBounds_toArray, List.set_cons_zero, List.set_cons_succ]
          refine wpAnyH_take (i := 4) (oi := { dst := some 49, op := Op.move (Operand.tmp 0), type := 22, pos := "law.go:80", after := #[], guard := none }) (v := ?v4) rfl (by kernel_rfl) (by kernel_rfl) (by kernel_rfl) (fun _ _ _ h => h) (Or.inl ⟨by rfl, ?hy4⟩) (by assumption) ?rest4
          case hy4 => (intro w hSw; (try dsimp only at hSw); go_simp; (try with_reducible rfl))
          try simp only [Act.put, List.setIfInBounds_toArray, List.set_cons_zero, List.set_cons_succ]
          refine wpAnyH_take (i := 5) (oi := { dst := some 50, op := Op.move (Operand.tmp 6), type := 3, pos := "law.go:80", after := #[], guard := none }) (v := ?v5) rfl (by kernel_rfl) (by kernel_rfl) (by kernel_rfl) (fun _ _ _ h => h) (Or.inl ⟨by rfl, ?hy5⟩) (by assumption) ?rest5
          case hy5 => (intro w hSw; (try dsimp only at hSw); go_simp; (try with_reducible rfl))
          try simp only [Act.put, List.setIfInBounds_toArray, List.set_cons_zero, List.set_cons_succ]
          refine wpAnyH_take (i := 6) (oi := { dst := some 51, op := Op.slice 22 (Operand.tmp 49) none (some (Operand.tmp 50)) none, type := 22, pos := "law.go:80", after := #[{ on := 4, ground := Ground.data }, { on := 5, ground := Ground.data }], guard := none }) (v := ?v6) rfl (by kernel_rfl) (by kernel_rfl) (by kernel_rfl) (fun _ _ _ h => h) (Or.inl ⟨by rfl, ?hy6⟩) (by assumption) ?rest6
          case hy6 => (intro w hSw; (try dsimp only at hSw); go_simp; (try with_reducible rfl))
          try simp only [Act.put, List.setIfInBounds_toArray, List.set_cons_zero, List.set_cons_succ]
          refine wpAnyH_take (i := 7) (oi := { dst := some 52, op := Op.move (Operand.tmp 1), type := 22, pos := "law.go:80", after := #[], guard := none }) (v := ?v7) rfl (by kernel_rfl) (by kernel_rfl) (by kernel_rfl) (fun _ _ _ h => h) (Or.inl ⟨by rfl, ?hy7⟩) (by assumption) ?rest7
          case hy7 => (intro w hSw; (try dsimp only at hSw); go_simp; (try with_reducible rfl))
          try simp only [Act.put, List.setIfInBounds_toArray, List.set_cons_zero, List.set_cons_succ]
          refine wpAnyH_ready (rs := [8]) (by kernel_rfl) (by simp) ?_
          refine AllReadyH.cons (o := { dst := some 53, op := Op.call { callee := Callee.value (Operand.func 16), args := #[Operand.tmp 51, Operand.tmp 52], argTypes := #[22, 22] }, type := 3, pos := "law.go:80", after := #[{ on := 6, ground := Ground.data }, { on := 7, ground := Ground.data }], guard := none }) rfl (fun K hK => ?_) AllReadyH.nil
          go_simp
          go_at_call 16
          refine (HRK.out _ (BW.out.trans (Below.mono (And.left (by assumption)) BW.out.size))).mono ?_
          rintro e w' ⟨rfl, hb⟩
          go_wp2_with fail
          refine hK.out _ _ ?_ (fun hHeld2 => ?_)
          · exact two_carry hHeld hb
          clear hK K hHeld
          try simp only [Act.put, List.setIfInBounds_toArray, List.set_cons_zero, List.set_cons_succ]
          refine wpAnyH_take (i := 9) (oi := { dst := some 54, op := Op.binOp BinOp.neq 3 (Operand.tmp 48) (Operand.tmp 53) 3, type := 4, pos := "law.go:80", after := #[{ on := 3, ground := Ground.data }, { on := 8, ground := Ground.data }], guard := none }) (v := ?v9) rfl (by kernel_rfl) (by kernel_rfl) (by kernel_rfl) (fun _ _ _ h => h) (Or.inl ⟨by rfl, ?hy9⟩) (by assumption) ?rest9
          case hy9 => (intro w hSw; (try dsimp only at hSw); go_simp; (try with_reducible rfl))
          try simp only [Act.put, List.setIfInBounds_toArray, List.set_cons_zero, List.set_cons_succ]
          refine wpAnyH_take (i := 10) (oi := { dst := some 55, op := Op.move (Operand.tmp 54), type := 4, pos := "law.go:80", after := #[{ on := 9, ground := Ground.data }, { on := 8, ground := Ground.chain }], guard := none }) (v := ?v10) rfl (by kernel_rfl) (by kernel_rfl) (by kernel_rfl) (fun _ _ _ h => h) (Or.inl ⟨by rfl, ?hy10⟩) (by assumption) ?rest10
          case hy10 => (intro w hSw; (try dsimp only at hSw); go_simp; (try with_reducible rfl))
          try simp only [Act.put, List.setIfInBounds_toArray, List.set_cons_zero, List.set_cons_succ]
          refine wpAnyH_take (i := 11) (oi := { dst := some 56, op := Op.move (Operand.tmp 6), type := 3, pos := "law.go:80", after := #[{ on := 10, ground := Ground.guard }], guard := some (10, false) }) (v := ?v11) rfl (by kernel_rfl) (by kernel_rfl) (by kernel_rfl) (fun _ _ _ h => h) (Or.inl ⟨by rfl, ?hy11⟩) (by assumption) ?rest11
          case hy11 => (intro w hSw; (try dsimp only at hSw); go_simp; (try with_reducible rfl))
          try simp only [Act.put, List.setIfInBounds_toArray, List.set_cons_zero, List.set_cons_succ]
          refine wpAnyH_take (i := 12) (oi := { dst := some 57, op := Op.binOp BinOp.gtr 3 (Operand.tmp 56) (Operand.const (Value.int IntKind.i64 0)) 3, type := 4, pos := "law.go:80", after := #[{ on := 11, ground := Ground.data }, { on := 10, ground := Ground.guard }], guard := some (10, false) }) (v := ?v12) rfl (by kernel_rfl) (by kernel_rfl) (by kernel_rfl) (fun _ _ _ h => h) (Or.inl ⟨by rfl, ?hy12⟩) (by assumption) ?rest12
          case hy12 => (intro w hSw; (try dsimp only at hSw); go_simp; (try with_reducible rfl))
          try simp only [Act.put, List.setIfInBounds_toArray, List.set_cons_zero, List.set_cons_succ]
          refine wpAnyH_take (i := 13) (oi := { dst := some 58, op := Op.move (Operand.tmp 57), type := 4, pos := "law.go:80", after := #[{ on := 12, ground := Ground.data }, { on := 10, ground := Ground.chain }, { on := 10, ground := Ground.guard }], guard := some (10, false) }) (v := ?v13) rfl (by kernel_rfl) (by kernel_rfl) (by kernel_rfl) (fun _ _ _ h => h) (Or.inl ⟨by rfl, ?hy13⟩) (by assumption) ?rest13
          case hy13 => (intro w hSw; (try dsimp only at hSw); go_simp; (try with_reducible rfl))
          try simp only [Act.put, List.setIfInBounds_toArray, List.set_cons_zero, List.set_cons_succ]
          refine wpAnyH_take (i := 14) (oi := { dst := some 59, op := Op.move (Operand.tmp 5), type := 26, pos := "law.go:80", after := #[{ on := 13, ground := Ground.guard }], guard := some (13, true) }) rfl (by kernel_rfl) (by kernel_rfl) (by kernel_rfl) (fun _ _ _ h => h) (Or.inr ⟨by rfl, rfl⟩) (by assumption) ?_
          try simp only [Act.put, List.setIfInBounds_toArray, List.set_cons_zero, List.set_cons_succ]
          refine wpAnyH_take (i := 15) (oi := { dst := some 60, op := Op.move (Operand.tmp 6), type := 3, pos := "law.go:80", after := #[{ on := 13, ground := Ground.guard }], guard := some (13, true) }) rfl (by kernel_rfl) (by kernel_rfl) (by kernel_rfl) (fun _ _ _ h => h) (Or.inr ⟨by rfl, rfl⟩) (by assumption) ?_
          try simp only [Act.put, List.setIfInBounds_toArray, List.set_cons_zero, List.set_cons_succ]
          refine wpAnyH_take (i := 16) (oi := { dst := some 61, op := Op.indexAddr 26 (Operand.tmp 59) (Operand.tmp 60), type := 0, pos := "law.go:80", after := #[{ on := 14, ground := Ground.data }, { on := 15, ground := Ground.data }, { on := 13, ground := Ground.guard }], guard := some (13, true) }) rfl (by kernel_rfl) (by kernel_rfl) (by kernel_rfl) (fun _ _ _ h => h) (Or.inr ⟨by rfl, rfl⟩) (by assumption) ?_
          try simp only [Act.put, List.setIfInBounds_toArray, List.set_cons_zero, List.set_cons_succ]
          refine wpAnyH_take (i := 17) (oi := { dst := some 62, op := Op.load 3 (Operand.tmp 61), type := 3, pos := "law.go:80", after := #[{ on := 16, ground := Ground.data }, { on := 13, ground := Ground.guard }], guard := some (13, true) }) rfl (by kernel_rfl) (by kernel_rfl) (by kernel_rfl) (fun _ _ _ h => h) (Or.inr ⟨by rfl, rfl⟩) (by assumption) ?_
          try simp only [Act.put, List.setIfInBounds_toArray, List.set_cons_zero, List.set_cons_succ]
          refine wpAnyH_take (i := 18) (oi := { dst := some 63, op := Op.move (Operand.tmp 5), type := 26, pos := "law.go:80", after := #[{ on := 13, ground := Ground.guard }], guard := some (13, true) }) rfl (by kernel_rfl) (by kernel_rfl) (by kernel_rfl) (fun _ _ _ h => h) (Or.inr ⟨by rfl, rfl⟩) (by assumption) ?_
          try simp only [Act.put, List.setIfInBounds_toArray, List.set_cons_zero, List.set_cons_succ]
          refine wpAnyH_take (i := 19) (oi := { dst := some 64, op := Op.move (Operand.tmp 6), type := 3, pos := "law.go:80", after := #[{ on := 13, ground := Ground.guard }], guard := some (13, true) }) rfl (by kernel_rfl) (by kernel_rfl) (by kernel_rfl) (fun _ _ _ h => h) (Or.inr ⟨by rfl, rfl⟩) (by assumption) ?_
          try simp only [Act.put, List.setIfInBounds_toArray, List.set_cons_zero, List.set_cons_succ]
          refine wpAnyH_take (i := 20) (oi := { dst := some 65, op := Op.binOp BinOp.sub 3 (Operand.tmp 64) (Operand.const (Value.int IntKind.i64 1)) 3, type := 3, pos := "law.go:80", after := #[{ on := 19, ground := Ground.data }, { on := 13, ground := Ground.guard }], guard := some (13, true) }) rfl (by kernel_rfl) (by kernel_rfl) (by kernel_rfl) (fun _ _ _ h => h) (Or.inr ⟨by rfl, rfl⟩) (by assumption) ?_
          try simp only [Act.put, List.setIfInBounds_toArray, List.set_cons_zero, List.set_cons_succ]
          refine wpAnyH_take (i := 21) (oi := { dst := some 66, op := Op.indexAddr 26 (Operand.tmp 63) (Operand.tmp 65), type := 0, pos := "law.go:80", after := #[{ on := 18, ground := Ground.data }, { on := 20, ground := Ground.data }, { on := 13, ground := Ground.guard }], guard := some (13, true) }) rfl (by kernel_rfl) (by kernel_rfl) (by kernel_rfl) (fun _ _ _ h => h) (Or.inr ⟨by rfl, rfl⟩) (by assumption) ?_
          try simp only [Act.put, List.setIfInBounds_toArray, List.set_cons_zero, List.set_cons_succ]
          refine wpAnyH_take (i := 22) (oi := { dst := some 67, op := Op.load 3 (Operand.tmp 66), type := 3, pos := "law.go:80", after := #[{ on := 21, ground := Ground.data }, { on := 13, ground := Ground.guard }], guard := some (13, true) }) rfl (by kernel_rfl) (by kernel_rfl) (by kernel_rfl) (fun _ _ _ h => h) (Or.inr ⟨by rfl, rfl⟩) (by assumption) ?_
          try simp only [Act.put, List.setIfInBounds_toArray, List.set_cons_zero, List.set_cons_succ]
          refine wpAnyH_take (i := 23) (oi := { dst := some 68, op := Op.binOp BinOp.add 3 (Operand.tmp 67) (Operand.const (Value.int IntKind.i64 1)) 3, type := 3, pos := "law.go:80", after := #[{ on := 22, ground := Ground.data }, { on := 13, ground := Ground.guard }], guard := some (13, true) }) rfl (by kernel_rfl) (by kernel_rfl) (by kernel_rfl) (fun _ _ _ h => h) (Or.inr ⟨by rfl, rfl⟩) (by assumption) ?_
          try simp only [Act.put, List.setIfInBounds_toArray, List.set_cons_zero, List.set_cons_succ]
          refine wpAnyH_take (i := 24) (oi := { dst := some 69, op := Op.binOp BinOp.gtr 3 (Operand.tmp 62) (Operand.tmp 68) 3, type := 4, pos := "law.go:80", after := #[{ on := 17, ground := Ground.data }, { on := 23, ground := Ground.data }, { on := 13, ground := Ground.guard }], guard := some (13, true) }) rfl (by kernel_rfl) (by kernel_rfl) (by kernel_rfl) (fun _ _ _ h => h) (Or.inr ⟨by rfl, rfl⟩) (by assumption) ?_
          try simp only [Act.put, List.setIfInBounds_toArray, List.set_cons_zero, List.set_cons_succ]
          refine wpAnyH_take (i := 25) (oi := { dst := some 70, op := Op.move (Operand.tmp 69), type := 4, pos := "law.go:80", after := #[{ on := 24, ground := Ground.data }, { on := 13, ground := Ground.chain }, { on := 13, ground := Ground.guard }], guard := some (13, true) }) rfl (by kernel_rfl) (by kernel_rfl) (by kernel_rfl) (fun _ _ _ h => h) (Or.inr ⟨by rfl, rfl⟩) (by assumption) ?_
          try simp only [Act.put, List.setIfInBounds_toArray, List.set_cons_zero, List.set_cons_succ]
          refine wpAnyH_take (i := 26) (oi := { dst := some 71, op := Op.move (Operand.tmp 5), type := 26, pos := "law.go:80", after := #[{ on := 25, ground := Ground.guard }], guard := some (25, false) }) rfl (by kernel_rfl) (by kernel_rfl) (by kernel_rfl) (fun _ _ _ h => h) (Or.inr ⟨by rfl, rfl⟩) (by assumption) ?_
          try simp only [Act.put, List.setIfInBounds_toArray, List.set_cons_zero, List.set_cons_succ]
          refine wpAnyH_take (i := 27) (oi := { dst := some 72, op := Op.move (Operand.tmp 6), type := 3, pos := "law.go:80", after := #[{ on := 25, ground := Ground.guard }], guard := some (25, false) }) rfl (by kernel_rfl) (by kernel_rfl) (by kernel_rfl) (fun _ _ _ h => h) (Or.inr ⟨by rfl, rfl⟩) (by assumption) ?_
          try simp only [Act.put, List.setIfInBounds_toArray, List.set_cons_zero, List.set_cons_succ]
          refine wpAnyH_take (i := 28) (oi := { dst := some 73, op := Op.binOp BinOp.sub 3 (Operand.tmp 72) (Operand.const (Value.int IntKind.i64 1)) 3, type := 3, pos := "law.go:80", after := #[{ on := 27, ground := Ground.data }, { on := 25, ground := Ground.guard }], guard := some (25, false) }) rfl (by kernel_rfl) (by kernel_rfl) (by kernel_rfl) (fun _ _ _ h => h) (Or.inr ⟨by rfl, rfl⟩) (by assumption) ?_
          try simp only [Act.put, List.setIfInBounds_toArray, List.set_cons_zero, List.set_cons_succ]
          refine wpAnyH_take (i := 29) (oi := { dst := some 74, op := Op.indexAddr 26 (Operand.tmp 71) (Operand.tmp 73), type := 0, pos := "law.go:80", after := #[{ on := 26, ground := Ground.data }, { on := 28, ground := Ground.data }, { on := 25, ground := Ground.guard }], guard := some (25, false) }) rfl (by kernel_rfl) (by kernel_rfl) (by kernel_rfl) (fun _ _ _ h => h) (Or.inr ⟨by rfl, rfl⟩) (by assumption) ?_
          try simp only [Act.put, List.setIfInBounds_toArray, List.set_cons_zero, List.set_cons_succ]
          refine wpAnyH_take (i := 30) (oi := { dst := some 75, op := Op.load 3 (Operand.tmp 74), type := 3, pos := "law.go:80", after := #[{ on := 29, ground := Ground.data }, { on := 25, ground := Ground.guard }], guard := some (25, false) }) rfl (by kernel_rfl) (by kernel_rfl) (by kernel_rfl) (fun _ _ _ h => h) (Or.inr ⟨by rfl, rfl⟩) (by assumption) ?_
          try simp only [Act.put, List.setIfInBounds_toArray, List.set_cons_zero, List.set_cons_succ]
          refine wpAnyH_take (i := 31) (oi := { dst := some 76, op := Op.move (Operand.tmp 5), type := 26, pos := "law.go:80", after := #[{ on := 25, ground := Ground.guard }], guard := some (25, false) }) rfl (by kernel_rfl) (by kernel_rfl) (by kernel_rfl) (fun _ _ _ h => h) (Or.inr ⟨by rfl, rfl⟩) (by assumption) ?_
          try simp only [Act.put, List.setIfInBounds_toArray, List.set_cons_zero, List.set_cons_succ]
          refine wpAnyH_take (i := 32) (oi := { dst := some 77, op := Op.move (Operand.tmp 6), type := 3, pos := "law.go:80", after := #[{ on := 25, ground := Ground.guard }], guard := some (25, false) }) rfl (by kernel_rfl) (by kernel_rfl) (by kernel_rfl) (fun _ _ _ h => h) (Or.inr ⟨by rfl, rfl⟩) (by assumption) ?_
          try simp only [Act.put, List.setIfInBounds_toArray, List.set_cons_zero, List.set_cons_succ]
          refine wpAnyH_take (i := 33) (oi := { dst := some 78, op := Op.indexAddr 26 (Operand.tmp 76) (Operand.tmp 77), type := 0, pos := "law.go:80", after := #[{ on := 31, ground := Ground.data }, { on := 32, ground := Ground.data }, { on := 25, ground := Ground.guard }], guard := some (25, false) }) rfl (by kernel_rfl) (by kernel_rfl) (by kernel_rfl) (fun _ _ _ h => h) (Or.inr ⟨by rfl, rfl⟩) (by assumption) ?_
          try simp only [Act.put, List.setIfInBounds_toArray, List.set_cons_zero, List.set_cons_succ]
          refine wpAnyH_take (i := 34) (oi := { dst := some 79, op := Op.load 3 (Operand.tmp 78), type := 3, pos := "law.go:80", after := #[{ on := 33, ground := Ground.data }, { on := 25, ground := Ground.guard }], guard := some (25, false) }) rfl (by kernel_rfl) (by kernel_rfl) (by kernel_rfl) (fun _ _ _ h => h) (Or.inr ⟨by rfl, rfl⟩) (by assumption) ?_
          try simp only [Act.put, List.setIfInBounds_toArray, List.set_cons_zero, List.set_cons_succ]
          refine wpAnyH_take (i := 35) (oi := { dst := some 80, op := Op.binOp BinOp.add 3 (Operand.tmp 79) (Operand.const (Value.int IntKind.i64 1)) 3, type := 3, pos := "law.go:80", after := #[{ on := 34, ground := Ground.data }, { on := 25, ground := Ground.guard }], guard := some (25, false) }) rfl (by kernel_rfl) (by kernel_rfl) (by kernel_rfl) (fun _ _ _ h => h) (Or.inr ⟨by rfl, rfl⟩) (by assumption) ?_
          try simp only [Act.put, List.setIfInBounds_toArray, List.set_cons_zero, List.set_cons_succ]
          refine wpAnyH_take (i := 36) (oi := { dst := some 81, op := Op.binOp BinOp.gtr 3 (Operand.tmp 75) (Operand.tmp 80) 3, type := 4, pos := "law.go:80", after := #[{ on := 30, ground := Ground.data }, { on := 35, ground := Ground.data }, { on := 25, ground := Ground.guard }], guard := some (25, false) }) rfl (by kernel_rfl) (by kernel_rfl) (by kernel_rfl) (fun _ _ _ h => h) (Or.inr ⟨by rfl, rfl⟩) (by assumption) ?_
          try simp only [Act.put, List.setIfInBounds_toArray, List.set_cons_zero, List.set_cons_succ]
          refine wpAnyH_take (i := 37) (oi := { dst := some 82, op := Op.pick (Operand.tmp 70) (Operand.const (Value.bool true)) (Operand.tmp 81), type := 4, pos := "law.go:80", after := #[{ on := 25, ground := Ground.data }, { on := 36, ground := Ground.data }, { on := 13, ground := Ground.guard }], guard := some (13, true) }) rfl (by kernel_rfl) (by kernel_rfl) (by kernel_rfl) (fun _ _ _ h => h) (Or.inr ⟨by rfl, rfl⟩) (by assumption) ?_
          try simp only [Act.put, List.setIfInBounds_toArray, List.set_cons_zero, List.set_cons_succ]
          refine wpAnyH_take (i := 38) (oi := { dst := some 83, op := Op.pick (Operand.tmp 58) (Operand.tmp 82) (Operand.const (Value.bool false)), type := 4, pos := "law.go:80", after := #[{ on := 13, ground := Ground.data }, { on := 37, ground := Ground.data }, { on := 10, ground := Ground.guard }], guard := some (10, false) }) (v := ?v38) rfl (by kernel_rfl) (by kernel_rfl) (by kernel_rfl) (fun _ _ _ h => h) (Or.inl ⟨by rfl, ?hy38⟩) (by assumption) ?rest38
          case hy38 => (intro w hSw; (try dsimp only at hSw); go_simp; (try with_reducible rfl))
          try simp only [Act.put, List.setIfInBounds_toArray, List.set_cons_zero, List.set_cons_succ]
          refine wpAnyH_take (i := 39) (oi := { dst := some 84, op := Op.pick (Operand.tmp 55) (Operand.const (Value.bool true)) (Operand.tmp 83), type := 4, pos := "law.go:80", after := #[{ on := 10, ground := Ground.data }, { on := 38, ground := Ground.data }], guard := none }) (v := ?v39) rfl (by kernel_rfl) (by kernel_rfl) (by kernel_rfl) (fun _ _ _ h => h) (Or.inl ⟨by rfl, ?hy39⟩) (by assumption) ?rest39
          case hy39 => (intro w hSw; (try dsimp only at hSw); go_simp; (try with_reducible rfl))
          try simp only [Act.put, List.setIfInBounds_toArray, List.set_cons_zero, List.set_cons_succ]
          refine wpAnyH_done (by kernel_rfl) ?_ _
          obtain ⟨hb5, -, -⟩ := hHeld2
          go_wp2_with fail
          go_roundw
          case rel => exact ⟨0 + 1, by omega, by go_num, Lib.hid (hB.out.trans (hb5.mono sw))⟩
          case measure => simp [intOf]; omega
      · obtain rfl : k = l := by omega
        have BW := Lib.hid (B1.out.trans (hB.out.mono B1.out.size))
        go_wp2_with fail
        refine (awake_any _).mono ?_
        rintro e w6 ⟨rfl, hb6⟩
        go_wp2_with fail
        go_ret
        exact ⟨rfl, BW.out.trans (hb6.mono BW.out.size)⟩
open Go.ChangeShapes Go.WideShapes Go.ChangeAt in
theorem editRows_walk {H : Type} {enc : TypeId × Value → H} (W : World) (base : Nat) (v0 v1 : Value) (d0 d1 : DataW H) (p0 p1 : List MemPlace)
    (h0 : DataW.Trod enc Try.prog W 0 (fun _ => true) true 22 v0 d0 p0) (h1 : DataW.Trod enc Try.prog W 0 (fun _ => true) true 22 v1 d1 p1)
    (o0 : Value.okWide Try.prog W .any base 22 v0) (o1 : Value.okWide Try.prog W .any base 22 v1) :
    Calls Try.prog 6 #[v0, v1] W fun e w' => e = .returned (.bool true) ∧ RowKit.Below W.heap.size W w' := by
  obtain ⟨a, ra, ca, rfl, ha, hnil, k1, k2, _⟩ := open_runes_arg o0 h0
  obtain ⟨b, rb, cb, rfl, hb, _, k3, k4, _⟩ := open_runes_arg o1 h1
  exact editRows_any ra rb a b ca cb W ha hb (by unfold maxLen at k2; omega) (by unfold maxLen at k4; omega) hnil k1 (by unfold maxLen at k2; omega)
end Go.Proofs.Ytfboocnkphjhnaa
