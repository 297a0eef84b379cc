/- merge: one shard, told as it comes -/
import Derived.Test.YtgghbgmeebihbaaPkD
import Derived.Test.YtgghbgmeebihbaaQMergePassesW
import Derived.Test.YtgghbgmeebihbaaPkA
namespace Go.Proofs.Ytgghbgmeebihbaa
open Go.RowKit
set_option linter.unusedVariables false
set_option maxRecDepth 20000
theorem HoldsK.turn {w w' : World} {a : Option Addr} {n : Nat} {ks : List KV} {S : Nat → Prop} (h : HoldsK w a n ks) (t : Turn S w w') (hs : 0 < n → ∀ fb fo, a = some ⟨fb, fo, none⟩ → ¬ S fb) : HoldsK w' a n ks := by
  rcases Nat.eq_zero_or_pos n with rfl | hn
  · have := h.1
    obtain rfl : ks = [] := List.eq_nil_of_length_eq_zero this
    exact HoldsK.nil _ _
  · refine holdsK_blocks h (fun b o e => ?_)
    obtain ⟨b2, o2, hbe, hc⟩ := h.2 hn
    rw [e] at hbe
    injection hbe with hbe; injection hbe with e1 e2; subst e1 e2
    exact t.block b (show b < w.heap.size from lt_of_cell (hc 0 hn).1) (hs hn b o e)
theorem mtold_u (u : Nat) (zs : List KV) {w0 : World} {b : Nat} {most : Int} {T : List KV} {P : List SM} {S : Nat → Prop} (w : World) (h : CtxM w0 w b most T P S) (hl : T.length = u) (hu : u ≤ 50000) (hz : T = zs) :
    Calls Try.prog 32 #[.pointer (some ⟨b, 0, none⟩)] w fun e w' => ∃ a c, e = .returned (.slice a u c) ∧ HoldsK w' a u zs ∧ Below w.heap.size w w' := by
  subst hl hz
  exact (mtold_c w h hu).mono fun e w' ⟨a, c, e1, ho, hb⟩ => ⟨a, c, e1, HoldsK.own ho, hb⟩
theorem done_one (m : Nat) (L : List KV) (t : Nat) (ht : t ≤ L.length) (e : Bool) (q : Int) (rc : Bool) (l : KV) : doneB (m : Int) ((L.take t).take m) [sh1 e q rc l ((L.take t).drop m)] = (decide (m ≤ t) || e) := by
  rw [done_sh1]
  have h1 : ((L.take t).take m).length = min m t := by simp; omega
  have h2 : ((L.take t).drop m).length = t - m := by simp; omega
  rw [h1, h2]
  by_cases h : m ≤ t
  · rw [decide_eq_true (show (m : Int) ≤ ((min m t : Nat) : Int) by omega), decide_eq_true h]; simp
  · rw [decide_eq_false (show ¬ (m : Int) ≤ ((min m t : Nat) : Int) by omega), decide_eq_false h, decide_eq_true (show t - m = 0 by omega)]; simp
theorem put_one {L : List KV} {A m t : Nat} {q : Nat} {rc : Bool} {l : KV} (mm : Nat) (hA : A < mm) (hu : upN L L.length = true) (ht : t = min (A + m) L.length) (hm : 1 ≤ m ∧ m ≤ 5) (hAl : A ≤ L.length) (hl : rc = true → ∀ j, A ≤ j → j < L.length → lessK l (L.getD j k0) = true) :
    putB (mm : Int) (L.take A) [sh1 false (q : Int) rc l []] 0 (q : Int) ((L.drop A).take (t - A)) (decide (t = L.length)) = true := by
  have hlen := cut_len L A (t - A) (by omega)
  have hd : doneB (mm : Int) (L.take A) [sh1 false (q : Int) rc l []] = false := by
    rw [done_sh1]
    have : (L.take A).length = A := by simp; omega
    rw [this, decide_eq_false (by omega)]
    simp
  have hf := fits_cut (e := false) (q := (q : Int)) (rc := rc) (l := l) (m := t - A) hu (by omega) (show A + (t - A) ≤ L.length by omega) hl
  have e1 : putB (mm : Int) (L.take A) [sh1 false (q : Int) rc l []] 0 (q : Int) ((L.drop A).take (t - A)) (decide (t = L.length)) = (!doneB (mm : Int) (L.take A) [sh1 false (q : Int) rc l []] && (true && (decide ((q : Int) = (q : Int)) && (fitsB (sh1 false (q : Int) rc l []) ((L.drop A).take (t - A)) && !(decide (((L.drop A).take (t - A)).length = 0) && !decide (t = L.length)))))) := rfl
  rw [e1, hd, hf, hlen, decide_eq_true (rfl : (q : Int) = (q : Int))]
  by_cases h0 : t - A = 0
  · rw [decide_eq_true h0, decide_eq_true (show t = L.length by omega)]; rfl
  · rw [decide_eq_false h0]; rfl
theorem tell_one {L : List KV} {A t m : Nat} (e : Bool) (q : Int) (rc : Bool) (l : KV) (hA : A < m) (hm : m ≤ 10) (hAt : A ≤ t) (ht : t ≤ L.length) :
    tellF (m : Int) 10 (L.take A) [sh1 e q rc l ((L.drop A).take (t - A))] [] = ((L.take t).take m, [sh1 e q rc l ((L.take t).drop m)], ((L.drop A).take (t - A)).take (m - A)) := by
  have h1 : (L.take A).length = A := by simp; omega
  have hs : L.take t = L.take A ++ (L.drop A).take (t - A) := by
    rw [← List.take_add, show A + (t - A) = t by omega]
  rw [tell_sh1 _ _ _ _ _ 10 _ _ _ (by rw [h1]; omega), h1, show ((m : Int) - (A : Int)).toNat = m - A by omega, hs]
  generalize L.take A = X at *
  generalize (L.drop A).take (t - A) = K at *
  rw [List.take_append, List.drop_append, h1, List.take_of_length_le (show X.length ≤ m by omega), List.drop_of_length_le (show X.length ≤ m by omega)]
  simp
theorem HoldsK.apart {w : World} {a : Option Addr} {n : Nat} {ks : List KV} {S S' : Nat → Prop} (h : HoldsK w a n ks) (hs : 0 < n → ∀ fb fo, a = some ⟨fb, fo, none⟩ → ¬ S fb) (hS : ∀ k, S' k → S k ∨ w.heap.size ≤ k) : 0 < n → ∀ fb fo, a = some ⟨fb, fo, none⟩ → ¬ S' fb := fun hn fb fo e hh => by
  obtain ⟨b, o, hbe, hc⟩ := h.2 hn
  rw [e] at hbe
  injection hbe with hbe; injection hbe with e1 e2; subst e1 e2
  have h1 : fb < w.heap.size := lt_of_cell (hc 0 hn).1
  rcases hS fb hh with h2 | h2
  · exact hs hn fb fo e h2
  · omega
theorem mo_carry {w0 w w' : World} {b : Nat} {most : Int} {T L : List KV} {P : List SM} {S : Nat → Prop} {a : Option Addr} {n : Nat} (h : CtxM w0 w b most T P S ∧ HoldsK w a n L) (hb : Below w.heap.size w w') : CtxM w0 w' b most T P S ∧ HoldsK w' a n L := ⟨h.1.more hb, h.2.below hb⟩
theorem beq_nat (t j : Nat) : ((t : Int) == (j : Int)) = decide (t = j) := by
  rw [Bool.eq_iff_iff]
  simp only [beq_iff_eq, decide_eq_true_eq]
  omega
theorem dec_nat (t j : Nat) : decide ((t : Int) = (j : Int)) = decide (t = j) := by
  rw [Bool.eq_iff_iff]
  simp only [decide_eq_true_eq]
  omega
theorem cut_addr {w : World} {a : Option Addr} {n : Nat} {L : List KV} (hk : HoldsK w a n L) (hn : 0 < n) {c A fb fo : Nat} (e : (if c = A then a else a.map (·.add (A * 2))) = some ⟨fb, fo, none⟩) : ∃ o, a = some ⟨fb, o, none⟩ := by
  obtain ⟨b, o, rfl, -⟩ := hk.2 hn
  split at e
  · exact ⟨fo, e⟩
  · simp [Addr.add] at e
    split at e
    · injection e with e1 _; exact ⟨o, by rw [e1]⟩
    · injection e with e1 _; exact ⟨o, by rw [e1]⟩
theorem cut_none {a : Option Addr} {c A : Nat} (e : (if c = A then a else a.map (·.add (A * 2))) = none) : a = none := by
  split at e
  · exact e
  · cases a with
    | none => rfl
    | some x => cases e
theorem put_call {w0 : World} {b m A bt t : Nat} {q : Nat} {rc : Bool} {l : KV} {L : List KV} {S : Nat → Prop} {a : Option Addr} {n c : Nat} {ea : Bool} (w : World) (h : CtxM w0 w b (m : Int) ((L.take A).take m) [sh1 false (q : Int) rc l ((L.take A).drop m)] S) (hk : HoldsK w a n L) (hc : (a = none → n = 0 ∧ c = 0) ∧ n ≤ c)
    (hs : 0 < n → ∀ fb fo, a = some ⟨fb, fo, none⟩ → ¬ S fb) (hA : A < m) (hu : upN L L.length = true) (ht : t = min (A + bt) L.length) (hb : 1 ≤ bt ∧ bt ≤ 5) (hAl : A ≤ L.length) (hl : rc = true → ∀ j, A ≤ j → j < L.length → lessK l (L.getD j k0) = true) (hq : q ≤ 1000000000) (hea : decide (t = L.length) = ea) :
    Calls Try.prog 15 #[.pointer (some ⟨b, 0, none⟩), .int .i64 0, .int .i64 q, .slice (if c = A then a else a.map (·.add (A * 2))) (t - A) (c - A), .bool ea] w (PutC w0 w b m (L.take A) [sh1 ea ((q : Int) + 1) (rc || decide (0 < t - A)) (if 0 < t - A then L.getD (t - 1) k0 else l) ((L.drop A).take (t - A))] S true) := by
  subst hea
  have hn := hk.1
  have e1 : (L.take A).take m = L.take A := List.take_of_length_le (by simp; omega)
  have e2 : (L.take A).drop m = [] := List.drop_of_length_le (by simp; omega)
  rw [e1, e2] at h
  have hlen := cut_len L A (t - A) (by omega)
  refine mput_c 0 (q : Int) _ (t - A) (c - A) ((L.drop A).take (t - A)) _ true _ w h (by simp) (hk.cut A (t - A) (by omega) hc.2) (fun hn2 => ?_) (by omega) (fun hp fb fo e => ?_) (fun x hx => ?_) (put_one m hA hu ht hb hAl hl) ?_
  · have := hc.1 (cut_none hn2); omega
  · obtain ⟨o, e2⟩ := cut_addr hk (by omega) e
    exact hs (by omega) fb o e2
  · obtain rfl := List.mem_singleton.1 hx
    show 0 ≤ (q : Int) ∧ (q : Int) ≤ 1000000000
    omega
  · rw [if_pos rfl]
    show [putSM (sh1 false (q : Int) rc l []) ((L.drop A).take (t - A)) (decide (t = L.length))] = _
    rw [put_sh1, hlen]
    by_cases h0 : 0 < t - A
    · rw [if_pos h0, if_pos h0, getD_cut L A (t - A) (t - A - 1) (by omega), show A + (t - A - 1) = t - 1 by omega]
    · rw [if_neg h0, if_neg h0]
set_option maxHeartbeats 12800000 in
set_option maxRecDepth 100000 in
theorem mergeOne_any (ia : Option Addr) (n ic : Nat) (is : List KV) (m0 b0 : Int) (w : World) (hh : HoldsK w ia n is) (hnil : ia = none → n = 0 ∧ ic = 0) :
    Calls Try.prog 8 #[.slice ia n ic, .int .i64 m0, .int .i64 b0] w fun e w' => e = .returned (.bool true) ∧ Below w.heap.size w w' := by
  by_cases h30 : 30 < n
  · have d1 : decide ((n : Int) > 30) = true := decide_eq_true (by omega)
    have d2 : decide (30 < n) = true := decide_eq_true h30
    go_enter Try.func8, Try.ntmps8
    go_wp2_with fail
    refine (awakeM_any _).mono ?_
    rintro e w' ⟨rfl, hb⟩
    go_wp2_with fail
    go_ret
    exact ⟨rfl, hb⟩
  have d1 : decide ((n : Int) > 30) = false := decide_eq_false (by omega)
  have d2 : decide (30 < n) = false := decide_eq_false h30
  have C1 := Lib.hid (fun w => low_any m0 10 (by omega) (by omega) w)
  have C2 := Lib.hid (fun w => low_any b0 5 (by omega) (by omega) w)
  obtain ⟨m, hm, hmb⟩ : ∃ m : Nat, 1 + lowV m0 10 = (m : Int) ∧ 1 ≤ m ∧ m ≤ 10 := ⟨(1 + lowV m0 10).toNat, by have := low_bd m0 10 (by omega); omega, by have := low_bd m0 10 (by omega); omega⟩
  obtain ⟨bt, hbt, hbb⟩ : ∃ m : Nat, 1 + lowV b0 5 = (m : Int) ∧ 1 ≤ m ∧ m ≤ 5 := ⟨(1 + lowV b0 5).toNat, by have := low_bd b0 5 (by omega); omega, by have := low_bd b0 5 (by omega); omega⟩
  have w1 : IntKind.i64.wrap (1 + lowV m0 10) = (m : Int) := by rw [hm]; exact IntWalk.i64_in _ (by omega)
  have w2 : IntKind.i64.wrap (1 + lowV b0 5) = (bt : Int) := by rw [hbt]; exact IntWalk.i64_in _ (by omega)
  obtain ⟨L, hL⟩ : ∃ L, sortK is = L := ⟨_, rfl⟩
  have CS := Lib.hid (rankSort_any ia n ic is w hh hnil (by omega))
  have hLn : L.length = n := by rw [← hL, sortK_length]; exact hh.1
  rw [hL] at CS
  have LN := Lib.hid hLn
  clear hh hnil hL hm hbt
  go_enter Try.func8, Try.ntmps8
  go_wp2_with fail
  refine (C1.out _).mono ?_
  rintro e w' ⟨rfl, rfl⟩
  go_wp2_with fail
  refine (C2.out _).mono ?_
  rintro e w' ⟨rfl, rfl⟩
  go_wp2_with fail
  refine CS.out.mono ?_
  rintro e w1' ⟨a, c, rfl, ho, hb1⟩
  rw [hLn] at ho ⊢
  have HK := Lib.hid (HoldsK.own ho)
  have HN := Lib.hid (owns_none ho)
  have HG := Lib.hid (show ∀ fb fo, a = some ⟨fb, fo, none⟩ → fb < w1'.heap.size from fun fb fo e => (own_block ho e).2)
  have B1 := Lib.hid hb1
  clear ho hb1 CS C1 C2 w1 w2 hLn d1 d2
  go_wp2_with fail
  go_loopw [8] (fun iv wr => ∃ j : Nat, j ≤ n ∧ iv = .int .i64 j ∧ Hid (upN L j = true) ∧ Hid (Below w1'.heap.size w1' wr)) (fun iv _ => n - (intOf iv).toNat)
  case atStart => exact ⟨0, by omega, rfl, Lib.hid rfl, Lib.hid (Below.refl _ _)⟩
  case round =>
    obtain ⟨j, hj, rfl, hU, hB⟩ := hrel
    have AW := Lib.hid (fun w' (hb : Below w1'.heap.size w1' w') => (awakeM_any w').mono (fun e w3 h => (show e = .returned (.bool true) ∧ Below w.heap.size w w3 from ⟨h.1, (B1.out.trans (hb.mono B1.out.size)).trans (h.2.mono (Nat.le_trans B1.out.size hb.size))⟩)))
    by_cases hlt : j < n
    · have hstep : upN L (j + 1) = (upN L j && (!decide ((L.getD j k0).1 < 0) && (decide (j = 0) || lessK (L.getD (j - 1) k0) (L.getD j k0)))) := rfl
      obtain ⟨k, hkk⟩ : ∃ k, L.getD j k0 = k := ⟨_, rfl⟩
      obtain ⟨fb, fo, rfl, hc⟩ := (HK.out.below hB.out).2 (by omega)
      obtain ⟨x0, x1⟩ := hc j hlt
      have i1 : (0 : Int) ≤ (j : Int) := by omega
      have i2 : (j : Int) < (n : Int) := by omega
      rw [hkk, hU.out, Bool.true_and] at hstep
      rw [hkk] at x0 x1
      by_cases hd : k.1 < 0
      · have d3 : decide (k.1 < 0) = true := decide_eq_true hd
        clear hstep hkk hc hd
        go_wp2_with fail
        go_quiet (fail)
        go_wp2_with fail
        refine (AW.out _ (hB.out.trans ((below_drewN _ _).mono hB.out.size))).mono ?_
        rintro e w' ⟨rfl, hb⟩
        go_wp2_with fail
        go_ret
        exact ⟨rfl, hb⟩
      have d3 : decide (k.1 < 0) = false := decide_eq_false hd
      rw [d3, Bool.not_false, Bool.true_and] at hstep
      rcases Nat.eq_zero_or_pos j with rfl | hjp
      · have FN := Lib.hid (show upN L (0 + 1) = true from by rw [hstep]; rfl)
        have hnn : 0 < n := hlt
        have hni : (0 : Int) < (n : Int) := by omega
        simp only [Nat.zero_mul, Nat.add_zero] at x0 x1
        clear hstep hkk hc hd
        go_wp2_with fail
        go_quiet (fail)
        go_wp2_with fail
        go_roundw
        case rel => exact ⟨1, by omega, by go_num, FN, Lib.hid (hB.out.trans ((below_drewN _ _).mono hB.out.size))⟩
        case measure => simp [intOf] <;> omega
      · obtain ⟨i, rfl⟩ : ∃ i, j = i + 1 := ⟨j - 1, by omega⟩
        obtain ⟨y, hy⟩ : ∃ y, L.getD i k0 = y := ⟨_, rfl⟩
        obtain ⟨z8, hz8⟩ : ∃ z8, lessK y k = z8 := ⟨_, rfl⟩
        obtain ⟨u0, u1⟩ := hc i (by omega)
        rw [hy] at u0 u1
        rw [decide_eq_false (show ¬ i + 1 = 0 by omega), Bool.false_or, Nat.add_sub_cancel, hy, hz8] at hstep
        have FN := Lib.hid hstep
        have CL := Lib.hid (fun w' => mless_lit y k z8 w' hz8)
        have SB := Lib.hid (show ((wr.drew.cell? ⟨fb, fo + i * 2, none⟩ = some (.int .i64 y.1) ∧ wr.drew.cell? ⟨fb, fo + i * 2 + 1, none⟩ = some (.string y.2)) ∧ ((wr.drew.cell? ⟨fb, fo + (i + 1) * 2, none⟩ = some (.int .i64 k.1) ∧ wr.drew.cell? ⟨fb, fo + (i + 1) * 2 + 1, none⟩ = some (.string k.2)))) ∧ Below wr.heap.size wr wr.drew from ⟨⟨⟨u0, u1⟩, x0, x1⟩, (Below.refl _ _).drew⟩)
        have g1 : decide (((i + 1 : Nat) : Int) > 0) = true := decide_eq_true (by omega)
        have g3 : IntKind.i64.wrap (((i + 1 : Nat) : Int) - 1) = (i : Int) := by rw [IntWalk.i64_in _ (by omega)]; omega
        have g3' : IntKind.i64.wrap ((i : Int) + 1 - 1) = (i : Int) := by rw [IntWalk.i64_in _ (by omega)]; omega
        have g6 : IntKind.i64.wrap (i : Int) = (i : Int) := IntWalk.i64_in _ (by omega)
        have g4 : (0 : Int) ≤ (i : Int) := by omega
        have g5 : (i : Int) < (n : Int) := by omega
        have g7 : (0 : Int) ≤ (i : Int) + 1 := by omega
        have g8 : (i : Int) + 1 < (n : Int) := by omega
        have g9 : ((i : Int) + 1).toNat = i + 1 := by omega
        clear hstep hkk hc hd hy hz8
        go_upto_region 8 with fail
        go_region_held3 (fun w' => ((w'.cell? ⟨fb, fo + i * 2, none⟩ = some (.int .i64 y.1) ∧ w'.cell? ⟨fb, fo + i * 2 + 1, none⟩ = some (.string y.2)) ∧ ((w'.cell? ⟨fb, fo + (i + 1) * 2, none⟩ = some (.int .i64 k.1) ∧ w'.cell? ⟨fb, fo + (i + 1) * 2 + 1, none⟩ = some (.string k.2)))) ∧ Below wr.heap.size wr w')
          (first | assumption | exact SB.out | exact mp_carry (by assumption) (by assumption))
          (first
            | (go_at_call 34; (with_reducible refine (CL.out _).mono ?_); rintro e w' ⟨rfl, hb9⟩))
        all_goals
          rename_i S5
          have BE := Lib.hid (hB.out.trans (S5.2.mono hB.out.size))
          clear S5
          cases z8
          · go_wp2_with fail
            refine (AW.out _ BE.out).mono ?_
            rintro e w' ⟨rfl, hb⟩
            go_wp2_with fail
            go_ret
            exact ⟨rfl, hb⟩
          · go_wp2_with fail
            go_roundw
            case rel => exact ⟨i + 2, by omega, by go_num, FN, BE⟩
            case measure => simp [intOf] <;> omega
    · obtain rfl : j = n := by omega
      have LJ := Lib.hid (show upN L L.length = true from by rw [LN.out]; exact hU.out)
      have HI := Lib.hid (holdsI_lit .i64 wr [0] 3 (0, 0))
      have B0 := Lib.hid (B1.out.trans (hB.out.mono B1.out.size))
      have CN := Lib.hid (mnew_c (w0 := w) (some ⟨wr.heap.size, 0, none⟩) 1 1 [0] (m : Int) _ HI.out (by decide) (by omega) (B0.out.trans ((below_one wr _).mono B0.out.size)))
      have HK2 := Lib.hid ((HK.out.below hB.out).below (below_one wr (.cells #[.int .i64 0] 3)))
      go_upto_region 10 with fail
      clear AW
      go_wp2_with fail
      refine CN.out.mono ?_
      rintro e w2 ⟨b, rfl, S, hm, hS, hb2⟩
      have HS0 := Lib.hid (show 0 < j → ∀ fb fo, a = some ⟨fb, fo, none⟩ → ¬ S fb from fun _ fb fo e hs => by
        have h1 := HG.out fb fo e
        have h2 := hS fb hs
        have h3 := hB.out.size
        simp at h2
        omega)
      have HK3 := Lib.hid (HK2.out.below hb2)
      have C2 := Lib.hid hm
      clear hm hS hb2 CN HI HK2 hB
      go_wp2_with fail
      go_loopw [11, 12, 13] (fun qv av tv wr => ∃ (q A t : Nat) (e rc : Bool) (l : KV) (S : Nat → Prop), qv = .int .i64 q ∧ av = .int .i64 A ∧ Hid (t ≤ j ∧ A ≤ 35 ∧ q ≤ A ∧ (e = false → A = t)) ∧ Hid (rc = true → ∀ i, t ≤ i → i < L.length → lessK l (L.getD i k0) = true) ∧ Hid (CtxM w wr b (m : Int) ((L.take t).take m) [sh1 e (q : Int) rc l ((L.take t).drop m)] S) ∧ Hid (HoldsK wr a j L) ∧ Hid (0 < j → ∀ fb fo, a = some ⟨fb, fo, none⟩ → ¬ S fb)) (fun _ av _ _ => 60 - (intOf av).toNat)
      case atStart => exact ⟨0, 0, 0, false, false, k0, S, rfl, rfl, Lib.hid ⟨by omega, by omega, by omega, fun _ => rfl⟩, Lib.hid (fun h => by cases h), Lib.hid (by have h := C2.out; simp only [List.take_zero, List.take_nil, List.drop_nil]; exact h), HK3, HS0⟩
      case round =>
        obtain ⟨q, A, t, e, rc, l, S, rfl, rfl, hF, hLs, hC, hH, hS⟩ := hrel
        have htL : t ≤ L.length := by have := hF.out.1; have := LN.out; omega
        have CD := Lib.hid (fun w' (h : CtxM w w' b (m : Int) ((L.take t).take m) [sh1 e (q : Int) rc l ((L.take t).drop m)] S) => mdone_c (decide (m ≤ t) || e) w' h (by simp) (done_one m L t htL e q rc l))
        obtain ⟨zd, hzd⟩ : ∃ zd, (decide (m ≤ t) || e) = zd := ⟨_, rfl⟩
        rw [hzd] at CD
        go_wp2_with fail
        refine (CD.out _ hC.out).mono ?_
        rintro e' w3 ⟨rfl, hb⟩
        have C3 := Lib.hid (hC.out.more hb)
        have H3 := Lib.hid (hH.out.below hb)
        clear hb hC hH
        cases zd
        case true =>
          go_wp2_with fail
          refine (CD.out _ C3.out).mono ?_
          rintro e' w4 ⟨rfl, hb⟩
          have C4 := Lib.hid (C3.out.more hb)
          clear hb
          go_wp2_with fail
          refine (awakeM_any _).mono ?_
          rintro e' w5 ⟨rfl, hb⟩
          have C5 := Lib.hid (C4.out.more hb)
          go_wp2_with fail
          go_ret
          exact ⟨rfl, C5.out.bel⟩
        obtain ⟨hmt, rfl⟩ : t < m ∧ e = false := by
          simp at hzd
          exact hzd
        obtain rfl : A = t := hF.out.2.2.2 rfl
        obtain ⟨t, ht⟩ : ∃ t, min (A + bt) j = t := ⟨_, rfl⟩
        have hf := hF.out
        obtain ⟨ea, hea⟩ : ∃ ea, decide (t = j) = ea := ⟨_, rfl⟩
        have w3' : IntKind.i64.wrap ((A : Int) + (bt : Int)) = ((A + bt : Nat) : Int) := by rw [IntWalk.i64_in _ (by omega)]; omega
        have w4' : min ((A : Int) + (bt : Int)) (j : Int) = (t : Int) := by omega
        have d1 : decide ((A : Int) ≤ (j : Int)) = true := decide_eq_true (by omega)
        have d1' : decide (A ≤ j) = true := decide_eq_true (by omega)
        have d2 : ((t : Int) == (j : Int)) = ea := by rw [← hea]; exact beq_nat t j
        have d2' : (t == j) = ea := by rw [← hea]; rfl
        have d2'' : decide ((t : Int) = (j : Int)) = ea := by rw [← hea]; exact dec_nat t j
        have i1 : (0 : Int) ≤ (A : Int) := by omega
        have i2 : (A : Int) ≤ (t : Int) := by omega
        have i3 : (t : Int) ≤ (c : Int) := by have := HN.out.2; omega
        have w5' : IntKind.i64.wrap ((q : Int) + 1) = ((q + 1 : Nat) : Int) := by rw [IntWalk.i64_in _ (by omega)]; omega
        have CP := Lib.hid (fun w' (h : CtxM w w' b (m : Int) ((L.take A).take m) [sh1 false (q : Int) rc l ((L.take A).drop m)] S) (hk : HoldsK w' a j L) => put_call (bt := bt) (t := t) (ea := ea) w' h hk HN.out hS.out hmt LJ.out (by have := LN.out; omega) hbb (by have := LN.out; omega) hLs.out (by omega) (by have := LN.out; rw [this]; exact hea))
        obtain ⟨xa, hxa⟩ : ∃ x, (if c = A then a else Option.map (fun x => x.add (A * 2)) a) = x := ⟨_, rfl⟩
        have LST := Lib.hid (show (rc || decide (0 < t - A)) = true → ∀ i, t ≤ i → i < L.length → lessK (if 0 < t - A then L.getD (t - 1) k0 else l) (L.getD i k0) = true from fun hr i hi hl => by
          by_cases h0 : 0 < t - A
          · rw [if_pos h0]
            exact upN_ris LJ.out (t - 1) i (by omega) hl
          · have h1 := LN.out
            omega)
        have TL := Lib.hid (tell_one (L := L) (A := A) (t := t) (m := m) ea ((q : Int) + 1) (rc || decide (0 < t - A)) (if 0 < t - A then L.getD (t - 1) k0 else l) hmt (by omega) (by omega) (by have := LN.out; omega))
        have FT := Lib.hid (show t ≤ j ∧ A + bt ≤ 35 ∧ q + 1 ≤ A + bt ∧ (ea = false → A + bt = t) from ⟨by omega, by omega, by omega, fun h => by
          rw [h] at hea
          have := of_decide_eq_false hea
          omega⟩)
        obtain ⟨rc2, hrc2⟩ : ∃ r, (rc || decide (0 < t - A)) = r := ⟨_, rfl⟩
        obtain ⟨l2, hl2⟩ : ∃ r, (if 0 < t - A then L.getD (t - 1) k0 else l) = r := ⟨_, rfl⟩
        rw [hrc2, hl2] at CP TL LST
        rw [hxa] at CP
        have ATN := Lib.hid (show A ≤ t ∧ A ≤ 30 from by omega)
        clear hrc2 hl2 hF hf hLs hmt hzd hea CD
        go_upto_region 18 with fail
        clear w3' w4' d1 d1'
        go_wp2_with fail
        refine (CP.out _ C3.out H3.out).mono ?_
        rintro e' w4 ⟨rfl, S4, h4, hS4, t4⟩
        have C4 := Lib.hid h4
        have H4 := Lib.hid (H3.out.turn t4 hS.out)
        have Z4 := Lib.hid (H3.out.apart hS.out hS4)
        have CT := Lib.hid (mtell_c _ _ _ w4 C4.out (by simp) (by omega) (by have := ATN.out; simp; omega) TL.out)
        clear h4 hS4 t4 H3 C3 hS CP TL
        go_wp2_with fail
        refine CT.out.mono ?_
        rintro e' w5 ⟨oa, oc, rfl, S5, h5, -, -, hS5, t5⟩
        have C5 := Lib.hid h5
        have H5 := Lib.hid (H4.out.turn t5 Z4.out)
        have Z5 := Lib.hid (H4.out.apart Z4.out hS5)
        clear h5 hS5 t5 H4 Z4 C4 CT
        obtain ⟨u, hu⟩ : ∃ u, min t m = u := ⟨_, rfl⟩
        have hju := FT.out.1
        have hlu : ((L.take t).take m).length = u := by have := LN.out; simp; omega
        have CO := Lib.hid (fun w' (h : CtxM w w' b (m : Int) ((L.take t).take m) [sh1 ea ((q : Int) + 1) rc2 l2 ((L.take t).drop m)] S5) => mtold_u u (L.take u) w' h hlu (by omega) (by rw [List.take_take, ← hu, Nat.min_comm]))
        have CD := Lib.hid (fun w' (h : CtxM w w' b (m : Int) ((L.take t).take m) [sh1 ea ((q : Int) + 1) rc2 l2 ((L.take t).drop m)] S5) => mdone_c (decide (m ≤ t) || ea) w' h (by simp) (done_one m L t (by have := LN.out; omega) ea ((q : Int) + 1) rc2 l2))
        have y1 : min (t : Int) (m : Int) = (u : Int) := by omega
        have y2 : (0 : Int) ≤ (u : Int) := by omega
        have y3 : (u : Int) ≤ (c : Int) := by have := HN.out.2; omega
        have CSS := Lib.hid (fun (ta : Option Addr) (tc cc : Nat) w' (h1 : HoldsK w' ta u (L.take u)) (h2 : HoldsK w' a j L) => sameItems_yes ta a u tc cc (L.take u) w' h1 (h2.take u (by omega)) (by omega))
        have w6' : IntKind.i64.wrap ((A : Int) + (bt : Int)) = ((A + bt : Nat) : Int) := by have := ATN.out; rw [IntWalk.i64_in _ (by omega)]; omega
        obtain ⟨z1, hz1⟩ : ∃ z, decide (m ≤ t) = z := ⟨_, rfl⟩
        rw [hz1] at CD
        have e1 : decide ((t : Int) ≥ (m : Int)) = z1 := by rw [← hz1]; exact decide_eq_decide.2 (by omega)
        have e2 : decide ((m : Int) ≤ (t : Int)) = z1 := e1
        have MS := Lib.hid (show 60 - (A + bt) < 60 - A from by have := ATN.out; omega)
        go_upto_region 22 with fail
        have C6 := Lib.hid (C5.out.more (show Below w5.heap.size w5 w5.drew from (Below.refl _ _).drew))
        have H6 := Lib.hid (H5.out.below (show Below w5.heap.size w5 w5.drew from (Below.refl _ _).drew))
        clear C5 H5 hlu hu hju
        cases z1
        case false =>
          go_region_held3 (fun w' => CtxM w w' b (m : Int) ((L.take t).take m) [sh1 ea ((q : Int) + 1) rc2 l2 ((L.take t).drop m)] S5 ∧ HoldsK w' a j L)
            (first | assumption | exact ⟨C6.out, H6.out⟩ | exact mo_carry (by assumption) (by assumption))
            (first
              | (go_at_call 32; (with_reducible refine (CO.out _ (And.left (by assumption))).mono ?_); rintro e' w6 ⟨ta, tc, rfl, hT, hb6⟩)
              | (go_at_call 20; (with_reducible refine (CSS.out _ _ _ _ hT (And.right (by assumption))).mono ?_); rintro e' w7 ⟨rfl, hb7⟩)
              | (go_at_call 31; (with_reducible refine (CD.out _ (And.left (by assumption))).mono ?_); rintro e' w8 ⟨rfl, hb8⟩))
          all_goals
            rename_i hHeld
            have C9 := Lib.hid hHeld.1
            have H9 := Lib.hid hHeld.2
            clear hHeld
            go_wp2_with fail
            go_roundw
            case rel => exact ⟨q + 1, A + bt, t, ea, rc2, l2, S5, by go_num, by go_num, FT, LST, Lib.hid (by have := C9.out; rw [show (((q + 1 : Nat)) : Int) = (q : Int) + 1 by omega]; exact this), H9, Z5⟩
            case measure => have := MS.out; simp [intOf] <;> omega
        case true =>
          have hS0 := mo_carry ⟨C6.out, H6.out⟩ (Below.refl _ _)
          refine wp_region_held_drew (S := (fun w' => CtxM w w' b (m : Int) ((L.take t).take m) [sh1 ea ((q : Int) + 1) rc2 l2 ((L.take t).drop m)] S5 ∧ HoldsK w' a j L)) (by kernel_rfl) hS0 (fun hHeld => ?_)
          refine wpAnyH_take (i := 0) (oi := { dst := some 102, op := Op.move (Operand.tmp 9), type := 26, pos := "more.go:34", after := #[], guard := none }) (v := ?v0) rfl (by kernel_rfl) (by kernel_rfl) (by kernel_rfl) (fun _ _ _ h => h) (Or.inl ⟨by rfl, ?hy0⟩) (by assumption) ?rest0
          case hy0 => (intro w hSw; (try dsimp only at hSw); go_simp; (try with_reducible rfl))
          try simp only [Act.put, List.setIfInBounds_toArray, List.set_cons_zero, List.set_cons_succ]
          refine wpAnyH_take (i := 2) (oi := { dst := some 104, op := Op.move (Operand.tmp 7), type := 34, pos := "more.go:34", after := #[], guard := none }) (v := ?v2) rfl (by kernel_rfl) (by kernel_rfl) (by kernel_rfl) (fun _ _ _ h => h) (Or.inl ⟨by rfl, ?hy2⟩) (by assumption) ?rest2
          case hy2 => (intro w hSw; (try dsimp only at hSw); go_simp; (try with_reducible rfl))
          try simp only [Act.put, List.setIfInBounds_toArray, List.set_cons_zero, List.set_cons_succ]
          refine wpAnyH_take (i := 3) (oi := { dst := some 105, op := Op.move (Operand.tmp 13), type := 3, pos := "more.go:34", after := #[], guard := none }) (v := ?v3) rfl (by kernel_rfl) (by kernel_rfl) (by kernel_rfl) (fun _ _ _ h => h) (Or.inl ⟨by rfl, ?hy3⟩) (by assumption) ?rest3
          case hy3 => (intro w hSw; (try dsimp only at hSw); go_simp; (try with_reducible rfl))
          try simp only [Act.put, List.setIfInBounds_toArray, List.set_cons_zero, List.set_cons_succ]
          refine wpAnyH_take (i := 4) (oi := { dst := some 106, op := Op.move (Operand.tmp 1), type := 3, pos := "more.go:34", after := #[], guard := none }) (v := ?v4) rfl (by kernel_rfl) (by kernel_rfl) (by kernel_rfl) (fun _ _ _ h => h) (Or.inl ⟨by rfl, ?hy4⟩) (by assumption) ?rest4
          case hy4 => (intro w hSw; (try dsimp only at hSw); go_simp; (try with_reducible rfl))
          try simp only [Act.put, List.setIfInBounds_toArray, List.set_cons_zero, List.set_cons_succ]
          refine wpAnyH_take (i := 5) (oi := { dst := some 107, op := Op.call { callee := Callee.builtin Builtin.min, args := #[Operand.tmp 105, Operand.tmp 106], argTypes := #[3, 3] }, type := 3, pos := "more.go:34", after := #[{ on := 3, ground := Ground.data }, { on := 4, ground := Ground.data }], guard := none }) (v := ?v5) rfl (by kernel_rfl) (by kernel_rfl) (by kernel_rfl) (fun _ _ _ h => h) (Or.inl ⟨by rfl, ?hy5⟩) (by assumption) ?rest5
          case hy5 => (intro w hSw; (try dsimp only at hSw); go_simp; (try with_reducible rfl))
          try simp only [Act.put, List.setIfInBounds_toArray, List.set_cons_zero, List.set_cons_succ]
          refine wpAnyH_take (i := 6) (oi := { dst := some 108, op := Op.slice 34 (Operand.tmp 104) none (some (Operand.tmp 107)) none, type := 34, pos := "more.go:34", after := #[{ on := 2, ground := Ground.data }, { on := 5, ground := Ground.data }], guard := none }) (v := ?v6) rfl (by kernel_rfl) (by kernel_rfl) (by kernel_rfl) (fun _ _ _ h => h) (Or.inl ⟨by rfl, ?hy6⟩) (by assumption) ?rest6
          case hy6 => (intro w hSw; (try dsimp only at hSw); go_simp; (try with_reducible rfl))
          try simp only [Act.put, List.setIfInBounds_toArray, List.set_cons_zero, List.set_cons_succ]
          refine wpAnyH_ready (rs := [1]) (by kernel_rfl) (by simp) ?_
          refine AllReadyH.cons (o := { dst := some 103, op := Op.call { callee := Callee.value (Operand.func 32), args := #[Operand.tmp 102], argTypes := #[26] }, type := 34, pos := "more.go:34", after := #[{ on := 0, ground := Ground.data }], guard := none }) rfl (fun K hK => ?_) AllReadyH.nil
          go_simp
          go_at_call 32
          refine (CO.out _ hHeld.1).mono ?_
          rintro e' w6 ⟨ta, tc, rfl, hT, hb6⟩
          go_wp2_with fail
          refine hK.out _ _ ?_ (fun hHeld2 => ?_)
          · exact mo_carry hHeld hb6
          clear hK K hHeld
          try simp only [Act.put, List.setIfInBounds_toArray, List.set_cons_zero, List.set_cons_succ]
          refine wpAnyH_ready (rs := [7]) (by kernel_rfl) (by simp) ?_
          refine AllReadyH.cons (o := { dst := some 109, op := Op.call { callee := Callee.value (Operand.func 20), args := #[Operand.tmp 103, Operand.tmp 108], argTypes := #[34, 34] }, type := 4, pos := "more.go:34", after := #[{ on := 1, ground := Ground.data }, { on := 6, ground := Ground.data }, { on := 1, ground := Ground.chain }], guard := none }) rfl (fun K hK => ?_) AllReadyH.nil
          go_simp
          go_at_call 20
          refine (CSS.out _ _ _ _ hT hHeld2.2).mono ?_
          rintro e' w7 ⟨rfl, hb7⟩
          go_wp2_with fail
          refine hK.out _ _ ?_ (fun hHeld3 => ?_)
          · exact mo_carry hHeld2 hb7
          clear hK K hHeld2
          try simp only [Act.put, List.setIfInBounds_toArray, List.set_cons_zero, List.set_cons_succ]
          refine wpAnyH_take (i := 8) (oi := { dst := some 110, op := Op.unOp UnOp.not 4 (Operand.tmp 109), type := 4, pos := "more.go:34", after := #[{ on := 7, ground := Ground.data }], guard := none }) (v := ?v8) rfl (by kernel_rfl) (by kernel_rfl) (by kernel_rfl) (fun _ _ _ h => h) (Or.inl ⟨by rfl, ?hy8⟩) (by assumption) ?rest8
          case hy8 => (intro w hSw; (try dsimp only at hSw); go_simp; (try with_reducible rfl))
          try simp only [Act.put, List.setIfInBounds_toArray, List.set_cons_zero, List.set_cons_succ]
          refine wpAnyH_take (i := 9) (oi := { dst := some 111, op := Op.move (Operand.tmp 110), type := 4, pos := "more.go:34", after := #[{ on := 8, ground := Ground.data }, { on := 7, ground := Ground.chain }], guard := none }) (v := ?v9) rfl (by kernel_rfl) (by kernel_rfl) (by kernel_rfl) (fun _ _ _ h => h) (Or.inl ⟨by rfl, ?hy9⟩) (by assumption) ?rest9
          case hy9 => (intro w hSw; (try dsimp only at hSw); go_simp; (try with_reducible rfl))
          try simp only [Act.put, List.setIfInBounds_toArray, List.set_cons_zero, List.set_cons_succ]
          refine wpAnyH_take (i := 10) (oi := { dst := some 112, op := Op.move (Operand.tmp 9), type := 26, pos := "more.go:34", after := #[{ on := 9, ground := Ground.guard }], guard := some (9, false) }) (v := ?v10) rfl (by kernel_rfl) (by kernel_rfl) (by kernel_rfl) (fun _ _ _ h => h) (Or.inl ⟨by rfl, ?hy10⟩) (by assumption) ?rest10
          case hy10 => (intro w hSw; (try dsimp only at hSw); go_simp; (try with_reducible rfl))
          try simp only [Act.put, List.setIfInBounds_toArray, List.set_cons_zero, List.set_cons_succ]
          refine wpAnyH_take (i := 12) (oi := { dst := some 114, op := Op.move (Operand.tmp 13), type := 3, pos := "more.go:34", after := #[{ on := 9, ground := Ground.guard }], guard := some (9, false) }) (v := ?v12) rfl (by kernel_rfl) (by kernel_rfl) (by kernel_rfl) (fun _ _ _ h => h) (Or.inl ⟨by rfl, ?hy12⟩) (by assumption) ?rest12
          case hy12 => (intro w hSw; (try dsimp only at hSw); go_simp; (try with_reducible rfl))
          try simp only [Act.put, List.setIfInBounds_toArray, List.set_cons_zero, List.set_cons_succ]
          refine wpAnyH_take (i := 13) (oi := { dst := some 115, op := Op.move (Operand.tmp 1), type := 3, pos := "more.go:34", after := #[{ on := 9, ground := Ground.guard }], guard := some (9, false) }) (v := ?v13) rfl (by kernel_rfl) (by kernel_rfl) (by kernel_rfl) (fun _ _ _ h => h) (Or.inl ⟨by rfl, ?hy13⟩) (by assumption) ?rest13
          case hy13 => (intro w hSw; (try dsimp only at hSw); go_simp; (try with_reducible rfl))
          try simp only [Act.put, List.setIfInBounds_toArray, List.set_cons_zero, List.set_cons_succ]
          refine wpAnyH_take (i := 14) (oi := { dst := some 116, op := Op.binOp BinOp.geq 3 (Operand.tmp 114) (Operand.tmp 115) 3, type := 4, pos := "more.go:34", after := #[{ on := 12, ground := Ground.data }, { on := 13, ground := Ground.data }, { on := 9, ground := Ground.guard }], guard := some (9, false) }) (v := ?v14) rfl (by kernel_rfl) (by kernel_rfl) (by kernel_rfl) (fun _ _ _ h => h) (Or.inl ⟨by rfl, ?hy14⟩) (by assumption) ?rest14
          case hy14 => (intro w hSw; (try dsimp only at hSw); go_simp; (try with_reducible rfl))
          try simp only [Act.put, List.setIfInBounds_toArray, List.set_cons_zero, List.set_cons_succ]
          refine wpAnyH_ready (rs := [11]) (by kernel_rfl) (by simp) ?_
          refine AllReadyH.cons (o := { dst := some 113, op := Op.call { callee := Callee.value (Operand.func 31), args := #[Operand.tmp 112], argTypes := #[26] }, type := 4, pos := "more.go:34", after := #[{ on := 10, ground := Ground.data }, { on := 9, ground := Ground.chain }, { on := 9, ground := Ground.guard }], guard := some (9, false) }) rfl (fun K hK => ?_) AllReadyH.nil
          go_simp
          go_at_call 31
          refine (CD.out _ hHeld3.1).mono ?_
          rintro e' w8 ⟨rfl, hb8⟩
          go_wp2_with fail
          refine hK.out _ _ ?_ (fun hHeld4 => ?_)
          · exact mo_carry hHeld3 hb8
          clear hK K hHeld3
          try simp only [Act.put, List.setIfInBounds_toArray, List.set_cons_zero, List.set_cons_succ]
          refine wpAnyH_take (i := 15) (oi := { dst := some 117, op := Op.move (Operand.tmp 116), type := 4, pos := "more.go:34", after := #[{ on := 14, ground := Ground.data }, { on := 11, ground := Ground.chain }, { on := 9, ground := Ground.guard }], guard := some (9, false) }) (v := ?v15) rfl (by kernel_rfl) (by kernel_rfl) (by kernel_rfl) (fun _ _ _ h => h) (Or.inl ⟨by rfl, ?hy15⟩) (by assumption) ?rest15
          case hy15 => (intro w hSw; (try dsimp only at hSw); go_simp; (try with_reducible rfl))
          try simp only [Act.put, List.setIfInBounds_toArray, List.set_cons_zero, List.set_cons_succ]
          refine wpAnyH_take (i := 16) (oi := { dst := some 118, op := Op.move (Operand.tmp 13), type := 3, pos := "more.go:34", after := #[{ on := 15, ground := Ground.guard }], guard := some (15, false) }) rfl (by kernel_rfl) (by kernel_rfl) (by kernel_rfl) (fun _ _ _ h => h) (Or.inr ⟨by rfl, rfl⟩) (by assumption) ?_
          try simp only [Act.put, List.setIfInBounds_toArray, List.set_cons_zero, List.set_cons_succ]
          refine wpAnyH_take (i := 17) (oi := { dst := some 119, op := Op.move (Operand.tmp 7), type := 34, pos := "more.go:34", after := #[{ on := 15, ground := Ground.guard }], guard := some (15, false) }) rfl (by kernel_rfl) (by kernel_rfl) (by kernel_rfl) (fun _ _ _ h => h) (Or.inr ⟨by rfl, rfl⟩) (by assumption) ?_
          try simp only [Act.put, List.setIfInBounds_toArray, List.set_cons_zero, List.set_cons_succ]
          refine wpAnyH_take (i := 18) (oi := { dst := some 120, op := Op.call { callee := Callee.builtin Builtin.len, args := #[Operand.tmp 119], argTypes := #[34] }, type := 3, pos := "more.go:34", after := #[{ on := 17, ground := Ground.data }, { on := 15, ground := Ground.guard }], guard := some (15, false) }) rfl (by kernel_rfl) (by kernel_rfl) (by kernel_rfl) (fun _ _ _ h => h) (Or.inr ⟨by rfl, rfl⟩) (by assumption) ?_
          try simp only [Act.put, List.setIfInBounds_toArray, List.set_cons_zero, List.set_cons_succ]
          refine wpAnyH_take (i := 19) (oi := { dst := some 121, op := Op.binOp BinOp.eql 3 (Operand.tmp 118) (Operand.tmp 120) 3, type := 4, pos := "more.go:34", after := #[{ on := 16, ground := Ground.data }, { on := 18, ground := Ground.data }, { on := 15, ground := Ground.guard }], guard := some (15, false) }) rfl (by kernel_rfl) (by kernel_rfl) (by kernel_rfl) (fun _ _ _ h => h) (Or.inr ⟨by rfl, rfl⟩) (by assumption) ?_
          try simp only [Act.put, List.setIfInBounds_toArray, List.set_cons_zero, List.set_cons_succ]
          refine wpAnyH_take (i := 20) (oi := { dst := some 122, op := Op.pick (Operand.tmp 117) (Operand.const (Value.bool true)) (Operand.tmp 121), type := 4, pos := "more.go:34", after := #[{ on := 15, ground := Ground.data }, { on := 19, ground := Ground.data }, { on := 9, ground := Ground.guard }], guard := some (9, false) }) (v := ?v20) rfl (by kernel_rfl) (by kernel_rfl) (by kernel_rfl) (fun _ _ _ h => h) (Or.inl ⟨by rfl, ?hy20⟩) (by assumption) ?rest20
          case hy20 => (intro w hSw; (try dsimp only at hSw); go_simp; (try with_reducible rfl))
          try simp only [Act.put, List.setIfInBounds_toArray, List.set_cons_zero, List.set_cons_succ]
          refine wpAnyH_take (i := 21) (oi := { dst := some 123, op := Op.binOp BinOp.neq 4 (Operand.tmp 113) (Operand.tmp 122) 4, type := 4, pos := "more.go:34", after := #[{ on := 11, ground := Ground.data }, { on := 20, ground := Ground.data }, { on := 9, ground := Ground.guard }], guard := some (9, false) }) (v := ?v21) rfl (by kernel_rfl) (by kernel_rfl) (by kernel_rfl) (fun _ _ _ h => h) (Or.inl ⟨by rfl, ?hy21⟩) (by assumption) ?rest21
          case hy21 => (intro w hSw; (try dsimp only at hSw); go_simp; (try with_reducible rfl))
          try simp only [Act.put, List.setIfInBounds_toArray, List.set_cons_zero, List.set_cons_succ]
          refine wpAnyH_take (i := 22) (oi := { dst := some 124, op := Op.pick (Operand.tmp 111) (Operand.const (Value.bool true)) (Operand.tmp 123), type := 4, pos := "more.go:34", after := #[{ on := 9, ground := Ground.data }, { on := 21, ground := Ground.data }], guard := none }) (v := ?v22) rfl (by kernel_rfl) (by kernel_rfl) (by kernel_rfl) (fun _ _ _ h => h) (Or.inl ⟨by rfl, ?hy22⟩) (by assumption) ?rest22
          case hy22 => (intro w hSw; (try dsimp only at hSw); go_simp; (try with_reducible rfl))
          try simp only [Act.put, List.setIfInBounds_toArray, List.set_cons_zero, List.set_cons_succ]
          refine wpAnyH_done (by kernel_rfl) ?_ _
          have C9 := Lib.hid hHeld4.1
          have H9 := Lib.hid hHeld4.2
          clear hHeld4
          go_wp2_with fail
          go_roundw
          case rel => exact ⟨q + 1, A + bt, t, ea, rc2, l2, S5, by go_num, by go_num, FT, LST, Lib.hid (by have := C9.out; rw [show (((q + 1 : Nat)) : Int) = (q : Int) + 1 by omega]; exact this), H9, Z5⟩
          case measure => have := MS.out; simp [intOf] <;> omega
open Go.ChangeShapes Go.WideShapes Go.ChangeAt in
theorem mergeOne_walk {H : Type} {enc : TypeId × Value → H} (W : World) (base : Nat) (v0 v1 v2 : Value) (d0 d1 d2 : DataW H) (p0 p1 p2 : List MemPlace)
    (h0 : DataW.Trod enc Try.prog W 0 (fun _ => true) true 34 v0 d0 p0) (h1 : DataW.Trod enc Try.prog W 0 (fun _ => true) true 3 v1 d1 p1) (h2 : DataW.Trod enc Try.prog W 0 (fun _ => true) true 3 v2 d2 p2)
    (o0 : Value.okWide Try.prog W .any base 34 v0) (o1 : Value.okWide Try.prog W .any base 3 v1) (o2 : Value.okWide Try.prog W .any base 3 v2) :
    Calls Try.prog 8 #[v0, v1, v2] W fun e w' => e = .returned (.bool true) ∧ RowKit.Below W.heap.size W w' := by
  obtain ⟨a0, n0, c0, k0, rfl, x0, y0, z0, b0, s0⟩ := open_pairs_arg Try.underlying34 Try.underlying61 (by kernel_rfl) rfl rfl ⟨rfl, rfl⟩ ⟨rfl, rfl⟩ o0 h0
  obtain ⟨m, rfl, rfl, rfl, _⟩ := open_int Try.underlying3 o1 h1
  obtain ⟨q, rfl, rfl, rfl, _⟩ := open_int Try.underlying3 o2 h2
  exact mergeOne_any a0 n0 c0 k0 m q W x0 y0
end Go.Proofs.Ytgghbgmeebihbaa
