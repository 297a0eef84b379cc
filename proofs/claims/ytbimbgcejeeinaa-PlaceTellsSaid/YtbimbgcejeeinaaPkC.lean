/- texts joined -/
import Derived.Test.YtbimbgcejeeinaaPkB
import Derived.Deep.RegionHeld3
/- place: who keeps what (plain) -/
namespace Go.Proofs.Ytbimbgcejeeinaa
open Go.RowKit
set_option linter.unusedVariables false
set_option maxRecDepth 20000
namespace Pl
theorem cop_at {W C s j : Nat} (h : j < C) : (cop W C s).getD j 0 = ((1 + (s + j) % W : Nat) : Int) := by
  unfold cop
  rw [List.getD_eq_getElem?_getD, List.getElem?_map, List.getElem?_eq_getElem (by simpa using h)]
  simp
theorem ne_tab : ((List.range 6).all fun W => (List.range 7).all fun s => (List.range 4).all fun i => (List.range i).all fun j => !(decide (i < W)) || !((s + i) % W == (s + j) % W)) = true := by decide +kernel
theorem cop_ne {W C s i j : Nat} (h1 : W ≤ 5) (h2 : s ≤ 6) (h3 : i < C) (h4 : C ≤ W) (h5 : C ≤ 4) (h6 : j < i) : (cop W C s).getD i 0 ≠ (cop W C s).getD j 0 := by
  have t := ne_tab
  rw [List.all_eq_true] at t
  have t1 := t W (by simp; omega)
  rw [List.all_eq_true] at t1
  have t2 := t1 s (by simp; omega)
  rw [List.all_eq_true] at t2
  have t3 := t2 i (by simp; omega)
  rw [List.all_eq_true] at t3
  have t4 := t3 j (by simpa using h6)
  rw [cop_at h3, cop_at (by omega)]
  simp only [show i < W by omega, decide_true, Bool.not_true, Bool.false_or, Bool.not_eq_true', beq_eq_false_iff_ne] at t4
  omega
def sumF (W C S : Nat) : Nat → Nat
  | 0 => 0
  | k + 1 => sumF W C S k + cnt W C S (k + 1)
theorem sum_tab : ((List.range 6).all fun W => (List.range 4).all fun C => (List.range 7).all fun S => !(decide (1 ≤ W) && decide (C ≤ W)) || (sumF W C S W == C * S)) = true := by decide +kernel
theorem sum_all {W C S : Nat} (h1 : 1 ≤ W) (h2 : W ≤ 5) (h4 : C ≤ 3) (h5 : C ≤ W) (h7 : S ≤ 6) : sumF W C S W = C * S := by
  have t := sum_tab
  rw [List.all_eq_true] at t
  have t1 := t W (by simp; omega)
  rw [List.all_eq_true] at t1
  have t2 := t1 C (by simp; omega)
  rw [List.all_eq_true] at t2
  have t3 := t2 S (by simp; omega)
  simpa [h1, h5] using t3
theorem sum_le (W C S : Nat) : ∀ k, sumF W C S k ≤ S * k
  | 0 => Nat.le_refl _
  | k + 1 => by
    have h := sum_le W C S k
    have h2 := cnt_le W C S (k + 1)
    rw [Nat.mul_succ]
    show sumF W C S k + cnt W C S (k + 1) ≤ S * k + S
    omega
theorem keep_mem {W C S : Nat} {x : Int} {s : Nat} (h : s ∈ keep W C S x) : s < S ∧ x ∈ cop W C s := by
  unfold keep at h
  obtain ⟨h1, h2⟩ := List.mem_filter.1 h
  exact ⟨by simpa using h1, of_decide_eq_true h2⟩
theorem keep_rise (W C S : Nat) (x : Int) : (keep W C S x).Pairwise (· < ·) := by
  unfold keep
  exact List.Pairwise.filter _ List.pairwise_lt_range
theorem keep_lt {W C S : Nat} {x : Int} {i : Nat} (h : i + 1 < (keep W C S x).length) : (keep W C S x).getD i 0 < (keep W C S x).getD (i + 1) 0 := by
  have hp := keep_rise W C S x
  rw [List.pairwise_iff_getElem] at hp
  have := hp i (i + 1) (by omega) h (by omega)
  rw [List.getD_eq_getElem?_getD, List.getElem?_eq_getElem (by omega), List.getD_eq_getElem?_getD, List.getElem?_eq_getElem h]
  exact this
theorem keep_at {W C S : Nat} {x : Int} {i : Nat} (h : i < (keep W C S x).length) : (keep W C S x).getD i 0 < S ∧ x ∈ cop W C ((keep W C S x).getD i 0) := by
  refine keep_mem ?_
  rw [List.getD_eq_getElem?_getD, List.getElem?_eq_getElem h]
  exact List.getElem_mem _
end Pl
/-- is x among the first j? -/
def inF (L : List Int) (x : Int) (j : Nat) : Bool := decide (x ∈ L.take j)
theorem inF_zero (L : List Int) (x : Int) : inF L x 0 = false := by simp [inF]
theorem inF_succ (L : List Int) (x : Int) (j : Nat) (h : j < L.length) : inF L x (j + 1) = (inF L x j || (L.getD j 0 == x)) := by
  unfold inF
  rw [List.take_add_one, List.getElem?_eq_getElem h, List.getD_eq_getElem?_getD, List.getElem?_eq_getElem h]
  rw [Bool.eq_iff_iff]
  simp only [Option.toList_some, List.mem_append, List.mem_singleton, decide_eq_true_eq, Option.getD_some, Bool.or_eq_true, beq_iff_eq]
  constructor
  · rintro (a | a)
    · exact Or.inl a
    · exact Or.inr a.symm
  · rintro (a | a)
    · exact Or.inl a
    · exact Or.inr a.symm
theorem inF_all {L : List Int} {x : Int} (h : x ∈ L) : inF L x L.length = true := by
  unfold inF
  rw [List.take_length]
  exact decide_eq_true h
end Go.Proofs.Ytbimbgcejeeinaa
/- place: the law of how shards are spread -/
namespace Go.Proofs.Ytbimbgcejeeinaa
open Go.RowKit
set_option linter.unusedVariables false
set_option maxRecDepth 20000
def SpC (w0 : World) (p : Nat) (c : Cfg) (w : World) : Prop := Below w0.heap.size w0 w ∧ CfgIn w p c
theorem spc_carry {w0 w w' : World} {p : Nat} {c : Cfg} (h : SpC w0 p c w) (hb : Below w.heap.size w w') : SpC w0 p c w' := ⟨h.1.trans (hb.mono h.1.size), h.2.below hb⟩
set_option maxHeartbeats 6400000 in
set_option maxRecDepth 100000 in
theorem placeSpread_any (c : Cfg) (x : Int) (w : World) (h : CfgOk w c) :
    Calls Try.prog 5 #[.agg #[.slice c.wa c.wn c.wc, .slice c.ka c.kn c.kc, .int .i64 c.W, .int .i64 c.C, .int .i64 c.S, .int .i64 c.B, .int .i64 c.L, .int .i64 c.H, .int .i64 c.F, .int .i64 c.P, .int .i64 c.J, .int .i64 c.N], .int .i64 x] w fun e w' => e = .returned (.bool true) ∧ Below w.heap.size w w' := by
  have BX := Lib.hid (below_one w (.cells #[.slice c.wa c.wn c.wc, .slice c.ka c.kn c.kc, .int .i64 c.W, .int .i64 c.C, .int .i64 c.S, .int .i64 c.B, .int .i64 c.L, .int .i64 c.H, .int .i64 c.F, .int .i64 c.P, .int .i64 c.J, .int .i64 c.N] 25))
  have IN := Lib.hid (cfgIn_new w c w.heap.size 25 (0, 0) rfl)
  have OK := Lib.hid h
  have CG := Lib.hid (greatC_any c _ (h.below BX.out))
  clear h
  go_enter Try.func5, Try.ntmps5
  go_upto_region 1 with fail
  generalize w.alloc (.cells #[.slice c.wa c.wn c.wc, .slice c.ka c.kn c.kc, .int .i64 c.W, .int .i64 c.C, .int .i64 c.S, .int .i64 c.B, .int .i64 c.L, .int .i64 c.H, .int .i64 c.F, .int .i64 c.P, .int .i64 c.J, .int .i64 c.N] 25) = w1 at *
  obtain ⟨p, hp⟩ : ∃ p, w.heap.size = p := ⟨_, rfl⟩
  have HP := Lib.hid hp
  rw [hp] at IN
  rw [hp]
  clear hp
  have hI := IN.out
  unfold CfgIn at hI
  obtain ⟨i0, i1, i2, i3, i4, i5, i6, i7, i8, i9, i10, i11⟩ := hI
  go_wp2_with fail
  refine CG.out.mono ?_
  rintro e w2 ⟨z, rfl, hb2⟩
  have B2 := Lib.hid (BX.out.trans (hb2.mono BX.out.size))
  have I2 := Lib.hid (IN.out.below hb2)
  clear hb2 CG i0 i1 i2 i3 i4 i5 i6 i7 i8 i9 i10 i11
  have hI := I2.out
  unfold CfgIn at hI
  obtain ⟨i0, i1, i2, i3, i4, i5, i6, i7, i8, i9, i10, i11⟩ := hI
  have FIN := Lib.hid (fun w3 (hb3 : Below w.heap.size w w3) => (awakePl_any w3).mono (fun e w4 (h : _ ∧ _) => (show e = .returned (.bool true) ∧ Below w.heap.size w w4 from ⟨h.1, hb3.trans (h.2.mono hb3.size)⟩)))
  cases z
  · obtain ⟨zm, hzm⟩ : ∃ zm, c.may = zm := ⟨_, rfl⟩
    have CM := Lib.hid (may_cfg c zm w2 (OK.out.below B2.out) hzm)
    have HZ := Lib.hid hzm
    clear hzm
    go_wp2_with fail
    refine CM.out.mono ?_
    rintro e w3 ⟨rfl, hb3⟩
    have B3 := Lib.hid (B2.out.trans (hb3.mono B2.out.size))
    have I3 := Lib.hid (I2.out.below hb3)
    clear hb3 CM i0 i1 i2 i3 i4 i5 i6 i7 i8 i9 i10 i11
    cases zm
    · go_wp2_with fail
      refine (FIN.out _ B3.out).mono ?_
      rintro e w4 ⟨rfl, hb4⟩
      have B4 := Lib.hid hb4
      clear hb4
      go_wp2_with fail
      go_ret
      exact ⟨rfl, B4.out⟩
    · obtain ⟨-, -, hw, hc, -⟩ := may_parts HZ.out
      obtain ⟨W, hW⟩ : ∃ W : Nat, c.W = (W : Int) := ⟨c.W.toNat, by omega⟩
      obtain ⟨C, hC⟩ : ∃ C : Nat, c.C = (C : Int) := ⟨c.C.toNat, by omega⟩
      have hkn := may_kn HZ.out OK.out
      obtain ⟨n, hn⟩ : ∃ n, c.kn + 1 = n := ⟨_, rfl⟩
      rw [hW] at hw
      rw [hC, hW] at hc
      have HW := Lib.hid hW; have HC := Lib.hid hC; have HN := Lib.hid hn
      have SP := Lib.hid (Pl.spread_all (W := W) (C := C) (S := n) (by omega) (by omega) (by omega) (by omega) (by omega) (by omega) (by omega))
      have hW5 : W ≤ 5 := by omega
      have hn6 : n ≤ 6 := by omega
      have hC3 : C ≤ 3 := by omega
      have HW1 := Lib.hid (show 1 ≤ W from by omega)
      have CK := Lib.hid (fun w' (y : Int) (hb : Below w.heap.size w w') => (show Calls Try.prog 10 #[.agg #[.slice c.wa c.wn c.wc, .slice c.ka c.kn c.kc, .int .i64 c.W, .int .i64 c.C, .int .i64 c.S, .int .i64 c.B, .int .i64 c.L, .int .i64 c.H, .int .i64 c.F, .int .i64 c.P, .int .i64 c.J, .int .i64 c.N], .int .i64 y] w' (RetZ w' (natsZ (Pl.keep W C n y))) from hn ▸ keeps_any c y W C w' (OK.out.below hb) HZ.out hW hC))
      clear hw hc hW hC hn hkn FIN
      go_wp2_with fail
      go_loopw [5, 6, 7] (fun lv hv iv wr => ∃ k : Nat, k ≤ W ∧ lv = .int .i64 (Pl.loF W C n k) ∧ hv = .int .i64 (Pl.hiF W C n k) ∧ iv = .int .i64 ((k : Int) + 1) ∧ Hid (SpC w p c wr)) (fun _ _ iv _ => W + 1 - (intOf iv).toNat)
      case atStart => exact ⟨0, by omega, rfl, rfl, rfl, Lib.hid ⟨B3.out, I3.out⟩⟩
      case round =>
        obtain ⟨k, hk, rfl, rfl, rfl, hB⟩ := hrel
        have hI := hB.out.2
        unfold CfgIn at hI
        obtain ⟨i0, i1, i2, i3, i4, i5, i6, i7, i8, i9, i10, i11⟩ := hI
        have hlo := Pl.lo_le W C n k
        have hhi := Pl.hi_le W C n k
        by_cases hlt : k < W
        · have d1 : decide ((k : Int) + 1 ≤ c.W) = true := decide_eq_true (by rw [HW.out]; omega)
          have hcn := Pl.cnt_le W C n (k + 1)
          have LO := Lib.hid (show Pl.loF W C n (k + 1) = min (Pl.loF W C n k) (Pl.cnt W C n (k + 1)) from rfl)
          have HI := Lib.hid (show Pl.hiF W C n (k + 1) = max (Pl.hiF W C n k) (Pl.cnt W C n (k + 1)) from rfl)
          have KC := Lib.hid (show (natsZ (Pl.keep W C n ((k : Int) + 1))).length = Pl.cnt W C n (k + 1) from by rw [natsZ_len, ← Pl.keep_cnt]; rfl)
          have CC := Lib.hid (CK.out wr ((k : Int) + 1) hB.out.1)
          go_wp2_with fail
          refine CC.out.mono ?_
          rintro e w4 ⟨la, lc, rfl, -, hb4⟩
          rw [KC.out]
          have S4 := Lib.hid (spc_carry hB.out hb4)
          clear hb4 CC i0 i1 i2 i3 i4 i5 i6 i7 i8 i9 i10 i11
          go_wp2_with fail
          go_roundw
          case rel => exact ⟨k + 1, by omega, congrArg (Value.int .i64) (by rw [LO.out]; omega), congrArg (Value.int .i64) (by rw [HI.out]; omega), by go_num, S4⟩
          case measure => simp [intOf] <;> omega
        · obtain rfl : k = W := by omega
          have d1 : decide ((k : Int) + 1 ≤ c.W) = false := decide_eq_false (by rw [HW.out]; omega)
          have hsp := SP.out
          obtain ⟨lo, hlo2⟩ : ∃ lo, Pl.loF k C n k = lo := ⟨_, rfl⟩
          obtain ⟨hi, hhi2⟩ : ∃ hi, Pl.hiF k C n k = hi := ⟨_, rfl⟩
          obtain ⟨v, hv⟩ : ∃ v, lowV x 100 = v := ⟨_, rfl⟩
          have hvb := low_bd x 100 (by omega)
          rw [hv] at hvb
          rw [hlo2] at hlo
          rw [hhi2] at hhi
          rw [hlo2, hhi2] at hsp
          rw [hlo2, hhi2]
          have d2 : IntKind.i64.wrap ((hi : Int) - (lo : Int)) = (hi : Int) - (lo : Int) := IntWalk.i64_in _ (by omega)
          have d3 : decide ((hi : Int) - (lo : Int) ≤ c.C) = true := decide_eq_true (by rw [HC.out]; omega)
          have d4 : decide ((hi : Int) ≥ 1) = true := decide_eq_true (by omega)
          have d5 : decide (1 ≤ hi) = true := decide_eq_true (by omega)
          have d6 : IntKind.i64.wrap (c.W + 1) = c.W + 1 := IntWalk.i64_in _ (by rw [HW.out]; omega)
          have d7 : IntKind.i64.wrap (c.W + 1 + v) = c.W + 1 + v := IntWalk.i64_in _ (by rw [HW.out]; omega)
          have CL := Lib.hid (fun w' => (show Calls Try.prog 29 #[.int .i64 x, .int .i64 100] w' fun e w'' => e = .returned (.int .i64 v) ∧ w' = w'' from hv ▸ low_any x 100 (by omega) (by omega) w'))
          have C0 := Lib.hid (fun w' (hb : Below w.heap.size w w') => (show Calls Try.prog 10 #[.agg #[.slice c.wa c.wn c.wc, .slice c.ka c.kn c.kc, .int .i64 c.W, .int .i64 c.C, .int .i64 c.S, .int .i64 c.B, .int .i64 c.L, .int .i64 c.H, .int .i64 c.F, .int .i64 c.P, .int .i64 c.J, .int .i64 c.N], .int .i64 0] w' fun e w'' => ∃ a cc, e = .returned (.slice a 0 cc) ∧ Below w'.heap.size w' w'' from (CK.out w' 0 hb).mono (fun e w'' ⟨a, cc, h1, h2, h3⟩ => ⟨a, cc, by rw [h1, Pl.keep_none HW1.out (by omega)]; rfl, h3⟩)))
          have C9 := Lib.hid (fun w' (hb : Below w.heap.size w w') => (show Calls Try.prog 10 #[.agg #[.slice c.wa c.wn c.wc, .slice c.ka c.kn c.kc, .int .i64 c.W, .int .i64 c.C, .int .i64 c.S, .int .i64 c.B, .int .i64 c.L, .int .i64 c.H, .int .i64 c.F, .int .i64 c.P, .int .i64 c.J, .int .i64 c.N], .int .i64 (c.W + 1 + v)] w' fun e w'' => ∃ a cc, e = .returned (.slice a 0 cc) ∧ Below w'.heap.size w' w'' from (CK.out w' (c.W + 1 + v) hb).mono (fun e w'' ⟨a, cc, h1, h2, h3⟩ => ⟨a, cc, by rw [h1, Pl.keep_none HW1.out (by rw [HW.out]; omega)]; rfl, h3⟩)))
          have SB := Lib.hid (show Below w.heap.size w wr ∧ wr.cell? ⟨p, 0, none⟩ = some (.slice c.wa c.wn c.wc) ∧ wr.cell? ⟨p, 1, none⟩ = some (.slice c.ka c.kn c.kc) ∧ wr.cell? ⟨p, 2, none⟩ = some (.int .i64 c.W) ∧ wr.cell? ⟨p, 3, none⟩ = some (.int .i64 c.C) ∧ wr.cell? ⟨p, 4, none⟩ = some (.int .i64 c.S) ∧ wr.cell? ⟨p, 5, none⟩ = some (.int .i64 c.B) ∧ wr.cell? ⟨p, 6, none⟩ = some (.int .i64 c.L) ∧ wr.cell? ⟨p, 7, none⟩ = some (.int .i64 c.H) ∧ wr.cell? ⟨p, 8, none⟩ = some (.int .i64 c.F) ∧ wr.cell? ⟨p, 9, none⟩ = some (.int .i64 c.P) ∧ wr.cell? ⟨p, 10, none⟩ = some (.int .i64 c.J) ∧ wr.cell? ⟨p, 11, none⟩ = some (.int .i64 c.N) from ⟨hB.out.1, hB.out.2⟩)
          clear hv hlo2 hhi2 hsp hlo hhi CK
          go_upto_region 9 with fail
          go_region_held3 (fun w' => Below w.heap.size w w' ∧ w'.cell? ⟨p, 0, none⟩ = some (.slice c.wa c.wn c.wc) ∧ w'.cell? ⟨p, 1, none⟩ = some (.slice c.ka c.kn c.kc) ∧ w'.cell? ⟨p, 2, none⟩ = some (.int .i64 c.W) ∧ w'.cell? ⟨p, 3, none⟩ = some (.int .i64 c.C) ∧ w'.cell? ⟨p, 4, none⟩ = some (.int .i64 c.S) ∧ w'.cell? ⟨p, 5, none⟩ = some (.int .i64 c.B) ∧ w'.cell? ⟨p, 6, none⟩ = some (.int .i64 c.L) ∧ w'.cell? ⟨p, 7, none⟩ = some (.int .i64 c.H) ∧ w'.cell? ⟨p, 8, none⟩ = some (.int .i64 c.F) ∧ w'.cell? ⟨p, 9, none⟩ = some (.int .i64 c.P) ∧ w'.cell? ⟨p, 10, none⟩ = some (.int .i64 c.J) ∧ w'.cell? ⟨p, 11, none⟩ = some (.int .i64 c.N))
            (first | assumption | exact ⟨SB.out.1.drew, SB.out.2⟩ | exact spc_carry (by assumption) (by assumption))
            (first
              | (go_at_call 10; (with_reducible refine (C0.out _ (And.left (by assumption))).mono ?_); rintro e w' ⟨ka, kc, rfl, hb9⟩)
              | (go_at_call 10; (with_reducible refine (C9.out _ (And.left (by assumption))).mono ?_); rintro e w' ⟨ka, kc, rfl, hb9⟩)
              | (go_at_call 29; (with_reducible refine (CL.out _).mono ?_); rintro e w' ⟨rfl, rfl⟩)
              | (go_at_call 8; (with_reducible refine (awakePl_any _).mono ?_); rintro e w' ⟨rfl, hb9⟩))
          all_goals
            rename_i S5
            have BE := Lib.hid S5.1
            clear S5
            go_wp2_with fail
            go_ret
            exact ⟨rfl, BE.out⟩
  · go_wp2_with fail
    refine (FIN.out _ B2.out).mono ?_
    rintro e w4 ⟨rfl, hb4⟩
    have B4 := Lib.hid hb4
    clear hb4
    go_wp2_with fail
    go_ret
    exact ⟨rfl, B4.out⟩
open Go.ChangeShapes Go.WideShapes Go.ChangeAt in
theorem placeSpread_walk {H : Type} {enc : TypeId × Value → H} (W : World) (base : Nat) (v0 v1 : Value) (d0 d1 : DataW H) (p0 p1 : List MemPlace)
    (h0 : DataW.Trod enc Try.prog W 0 (fun _ => true) true 25 v0 d0 p0) (h1 : DataW.Trod enc Try.prog W 0 (fun _ => true) true 3 v1 d1 p1) (o0 : Value.okWide Try.prog W .any base 25 v0) (o1 : Value.okWide Try.prog W .any base 3 v1) :
    Calls Try.prog 5 #[v0, v1] W fun e w' => e = .returned (.bool true) ∧ RowKit.Below W.heap.size W w' := by
  obtain ⟨c, rfl, ok⟩ := open_cfg o0 h0
  obtain ⟨x, rfl, rfl, rfl, _⟩ := open_int Try.underlying3 o1 h1
  exact placeSpread_any c x W ok
end Go.Proofs.Ytbimbgcejeeinaa
