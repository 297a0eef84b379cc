/- merge: what is not taken -/
import Derived.Test.YtgghbgmeebihbaaQMergeNoneW
namespace Go.Proofs.Ytgghbgmeebihbaa
open Go.RowKit
set_option linter.unusedVariables false
set_option maxRecDepth 20000
def gN (ks : List KV) : Nat → Bool
  | 0 => decide (0 < ks.length) && decide (ks.length ≤ 5)
  | j + 1 => gN ks j && (decide (1 ≤ (ks.getD j k0).1) && (decide (j = 0) || lessK (ks.getD (j - 1) k0) (ks.getD j k0)))
theorem gN_fit (ks : List KV) : ∀ j, gN ks j = ((decide (0 < ks.length) && decide (ks.length ≤ 5)) && fitN (mkS 1) ks j)
  | 0 => by unfold gN fitN; simp
  | j + 1 => by
    unfold gN fitN
    rw [gN_fit ks j]
    have h1 : (decide (1 ≤ (ks.getD j k0).1) && (decide (j = 0) || lessK (ks.getD (j - 1) k0) (ks.getD j k0))) = (!badS (mkS 1) (ks.getD j k0) && !stepB ks j) := by
      unfold badS stepB mkS
      have e1 : decide (1 ≤ (ks.getD j k0).1) = !decide ((ks.getD j k0).1 < 1) := by
        by_cases h : (ks.getD j k0).1 < 1
        · rw [decide_eq_true h, decide_eq_false (by omega)]; rfl
        · rw [decide_eq_false h, decide_eq_true (by omega)]; rfl
      have e2 : decide (j = 0) = !decide (0 < j) := by
        by_cases h : j = 0
        · rw [decide_eq_true h, decide_eq_false (by omega)]; rfl
        · rw [decide_eq_false h, decide_eq_true (by omega)]; rfl
      rw [e1, e2]
      cases decide ((ks.getD j k0).1 < 1) <;> cases decide (0 < j) <;> simp
    rw [h1, Bool.and_assoc]
def pP0 : List SM := [1, 2].map mkS
theorem put_p0 (q : Int) (ks : List KV) : putB 10 [] pP0 0 q ks false = (gN ks ks.length && decide (q = 0)) := by
  have e : putB 10 [] pP0 0 q ks false = (decide (q = 0) && (fitsB (mkS 1) ks && !(decide (ks.length = 0) && true))) := rfl
  rw [e, gN_fit]
  unfold fitsB
  have e2 : (!decide (ks.length = 0)) = decide (0 < ks.length) := by
    by_cases h : ks.length = 0
    · rw [decide_eq_true h, decide_eq_false (by omega)]; rfl
    · rw [decide_eq_false h, decide_eq_true (by omega)]; rfl
  rw [Bool.and_true, e2]
  cases decide (q = 0) <;> cases decide (0 < ks.length) <;> cases decide (ks.length ≤ 5) <;> simp
def pP1 (ks : List KV) : List SM := [putSM (mkS 1) ks false, mkS 2]
def pPz (z : Bool) (ks : List KV) : List SM := if z then pP1 ks else pP0
theorem pz_len (z : Bool) (ks : List KV) : (pPz z ks).length ≤ 1000 := by cases z <;> simp [pPz, pP0, pP1]
theorem pz_seq (z : Bool) (ks : List KV) : seqS (pPz z ks) 0 = if z then 1 else 0 := by cases z <;> rfl
theorem pz_sq (z : Bool) (ks : List KV) : ∀ x ∈ pPz z ks, 0 ≤ x.seq ∧ x.seq ≤ 1000000000 := by
  intro x hx
  cases z
  · have : x ∈ [mkS 1, mkS 2] := hx
    simp only [List.mem_cons, List.not_mem_nil, or_false] at this
    rcases this with rfl | rfl <;> decide
  · have : x ∈ [putSM (mkS 1) ks false, mkS 2] := hx
    simp only [List.mem_cons, List.not_mem_nil, or_false] at this
    rcases this with rfl | rfl
    · show 0 ≤ (0 : Int) + 1 ∧ (0 : Int) + 1 ≤ 1000000000; omega
    · decide
theorem pz_set (z : Bool) (ks : List KV) : (if z then pP0.set (0 : Int).toNat (putSM (pP0.getD (0 : Int).toNat sm0) ks false) else pP0) = pPz z ks := by cases z <;> rfl
theorem put_far (z : Bool) (ks ms : List KV) (s : Int) (q : Int) (en : Bool) (hs : s = 2 ∨ s = -1) : putB 10 [] (pPz z ks) s q ms en = false := by
  have hl : (pPz z ks).length = 2 := by cases z <;> rfl
  unfold putB
  rw [hl, decide_eq_false (by omega)]
  rfl
theorem put_other (z : Bool) (ks ms : List KV) (q : Int) (en : Bool) (hq : q ≠ if z then 1 else 0) : putB 10 [] (pPz z ks) 0 q ms en = false := by
  have e : ((pPz z ks).getD (0 : Int).toNat sm0).seq = if z then 1 else 0 := by cases z <;> rfl
  unfold putB
  rw [e, decide_eq_false hq]
  simp
theorem put_empty (z : Bool) (ks : List KV) : putB 10 [] (pPz z ks) 1 0 [] false = false := by
  unfold putB
  simp
theorem put_wait (ks ms : List KV) (q : Int) (en : Bool) (hk : 0 < ks.length) : putB 10 [] (pPz true ks) 0 q ms en = false := by
  have e : prW ((pPz true ks).getD (0 : Int).toNat sm0) = false := by
    show (true && decide (ks.length = 0)) = false
    rw [decide_eq_false (by omega)]; rfl
  unfold putB
  rw [e]
  simp
theorem mp_carry {w1 w w' : World} {p o p2 o2 : Nat} {x k : KV} (h : ((w.cell? ⟨p, o, none⟩ = some (.int .i64 x.1) ∧ w.cell? ⟨p, o + 1, none⟩ = some (.string x.2)) ∧ (w.cell? ⟨p2, o2, none⟩ = some (.int .i64 k.1) ∧ w.cell? ⟨p2, o2 + 1, none⟩ = some (.string k.2))) ∧ Below w1.heap.size w1 w) (hb : Below w.heap.size w w') : ((w'.cell? ⟨p, o, none⟩ = some (.int .i64 x.1) ∧ w'.cell? ⟨p, o + 1, none⟩ = some (.string x.2)) ∧ (w'.cell? ⟨p2, o2, none⟩ = some (.int .i64 k.1) ∧ w'.cell? ⟨p2, o2 + 1, none⟩ = some (.string k.2))) ∧ Below w1.heap.size w1 w' :=
  ⟨⟨⟨(hb.cell (p := ⟨p, o, none⟩) (lt_of_cell h.1.1.1)).trans h.1.1.1, (hb.cell (p := ⟨p, o + 1, none⟩) (lt_of_cell h.1.1.1)).trans h.1.1.2⟩, (hb.cell (p := ⟨p2, o2, none⟩) (lt_of_cell h.1.2.1)).trans h.1.2.1, (hb.cell (p := ⟨p2, o2 + 1, none⟩) (lt_of_cell h.1.2.1)).trans h.1.2.2⟩, h.2.trans (hb.mono h.2.size)⟩
set_option maxHeartbeats 6400000 in
set_option maxRecDepth 100000 in
theorem mergePasses_any (fa : Option Addr) (n fc : Nat) (ks : List KV) (ma : Option Addr) (m mc : Nat) (ms : List KV) (q : Int) (w : World) (h1 : HoldsK w fa n ks) (h1n : fa = none → n = 0 ∧ fc = 0) (h1l : n ≤ 9223372036854775807) (h1k : ∀ k ∈ ks, KeyOk k)
    (h2 : HoldsK w ma m ms) (h2n : ma = none → m = 0 ∧ mc = 0) (h2l : m ≤ 9223372036854775807) (h2k : ∀ k ∈ ms, KeyOk k) : Calls Try.prog 5 #[.slice fa n fc, .slice ma m mc, .int .i64 q] w fun e w' => e = .returned (.bool true) ∧ Below w.heap.size w w' := by
  obtain ⟨g1, hg1⟩ : ∃ g, greatKB ks = g := ⟨_, rfl⟩
  obtain ⟨g2, hg2⟩ : ∃ g, greatKB ms = g := ⟨_, rfl⟩
  have CG1 := Lib.hid (greatK_any fa n fc ks w h1 h1l (ksize_of h1k))
  have CG2 := Lib.hid (greatK_any ma m mc ms w h2 h2l (ksize_of h2k))
  rw [hg1] at CG1; rw [hg2] at CG2
  have KL := Lib.hid h1.1
  have H1 := Lib.hid h1; have H2 := Lib.hid h2; have N1 := Lib.hid h1n; have N2 := Lib.hid h2n; have ML := Lib.hid h2l
  have HI := Lib.hid (holdsI_lit .i64 w [1, 2] 3 (0, 0))
  have CN := Lib.hid (mnew_c (w0 := w) (some ⟨w.heap.size, 0, none⟩) 2 2 [1, 2] 10 _ HI.out (by decide) (by decide) (below_one w _))
  clear hg1 hg2 h1 h2 h1n h2n h1k h2k h2l
  go_enter Try.func5, Try.ntmps5
  go_wp2_with fail
  refine CG1.out.mono ?_
  rintro e w' ⟨rfl, rfl⟩
  clear CG1
  cases g1
  case true =>
    go_wp2_with fail
    refine (awakeM_any _).mono ?_
    rintro e w' ⟨rfl, hb⟩
    go_wp2_with fail
    go_ret
    exact ⟨rfl, hb⟩
  go_wp2_with fail
  refine CG2.out.mono ?_
  rintro e w' ⟨rfl, rfl⟩
  clear CG2
  cases g2
  case true =>
    go_wp2_with fail
    refine (awakeM_any _).mono ?_
    rintro e w' ⟨rfl, hb⟩
    go_wp2_with fail
    go_ret
    exact ⟨rfl, hb⟩
  go_wp2_with fail
  refine CN.out.mono ?_
  rintro e w1 ⟨b, rfl, S, hm, -, -⟩
  have C1 := Lib.hid hm
  clear hm CN HI
  go_upto_region 6 with fail
  go_cut [9] from 31 to 39 (fun v wc => v = .bool (gN ks 0) ∧ w1 = wc)
  case first =>
    by_cases hn0 : 0 < n
    · have d1 : decide ((n : Int) > 0) = true := decide_eq_true (by omega)
      have d2 : decide (0 < n) = true := decide_eq_true hn0
      have HG := Lib.hid (show gN ks 0 = decide (n ≤ 5) from by unfold gN; rw [KL.out, decide_eq_true hn0, Bool.true_and])
      by_cases h5 : n ≤ 5
      · have d3 : decide ((n : Int) ≤ 5) = true := decide_eq_true (by omega)
        have HG2 := Lib.hid (HG.out.trans (decide_eq_true h5))
        go_wp2_with fail
        go_meet
        exact ⟨by rw [HG2.out], rfl⟩
      · have d3 : decide ((n : Int) ≤ 5) = false := decide_eq_false (by omega)
        have HG2 := Lib.hid (HG.out.trans (decide_eq_false h5))
        go_wp2_with fail
        go_meet
        exact ⟨by rw [HG2.out], rfl⟩
    · have d1 : decide ((n : Int) > 0) = false := decide_eq_false (by omega)
      have d2 : decide (0 < n) = false := decide_eq_false hn0
      have HG := Lib.hid (show gN ks 0 = false from by unfold gN; rw [KL.out, decide_eq_false hn0, Bool.false_and])
      go_wp2_with fail
      go_meet
      exact ⟨by rw [HG.out], rfl⟩
  case rest =>
    obtain ⟨rfl, rfl⟩ := hcut
    go_wp2_with fail
    go_loopw [9, 10] (fun gv iv wr => ∃ j : Nat, j ≤ n ∧ gv = .bool (gN ks j) ∧ iv = .int .i64 j ∧ Hid (CtxM w wr b 10 [] pP0 S)) (fun _ iv _ => n - (intOf iv).toNat)
    case atStart => exact ⟨0, by omega, rfl, rfl, C1⟩
    case round =>
      obtain ⟨j, hj, rfl, rfl, hC⟩ := hrel
      by_cases hlt : j < n
      · have hstep : gN ks (j + 1) = (gN ks j && (decide (1 ≤ (ks.getD j k0).1) && (decide (j = 0) || lessK (ks.getD (j - 1) k0) (ks.getD j k0)))) := rfl
        obtain ⟨k, hkk⟩ : ∃ k, ks.getD j k0 = k := ⟨_, rfl⟩
        obtain ⟨zg, hzg⟩ : ∃ zg, gN ks j = zg := ⟨_, rfl⟩
        obtain ⟨fb, fo, rfl, hc⟩ := (H1.out.below hC.out.bel).2 (by omega)
        obtain ⟨x0, x1⟩ := hc j hlt
        have i1 : (0 : Int) ≤ (j : Int) := by omega
        have i2 : (j : Int) < (n : Int) := by omega
        rw [hkk, hzg] at hstep
        rw [hkk] at x0 x1
        rw [hzg]
        cases zg
        · have FN := Lib.hid (show gN ks (j + 1) = false from hstep)
          clear hstep hkk hzg hc
          go_wp2_with fail
          go_quiet (fail)
          go_wp2_with fail
          go_roundw
          case rel => exact ⟨j + 1, by omega, by rw [FN.out], by go_num, Lib.hid (hC.out.more (below_drewN _ _))⟩
          case measure => simp [intOf] <;> omega
        rw [Bool.true_and] at hstep
        by_cases hd : 1 ≤ k.1
        case neg =>
          have d3 : decide (k.1 ≥ 1) = false := decide_eq_false hd
          have d4 : decide (1 ≤ k.1) = false := decide_eq_false hd
          have FN := Lib.hid (show gN ks (j + 1) = false from by rw [hstep, d4]; rfl)
          clear hstep hkk hzg hc hd
          go_wp2_with fail
          go_quiet (fail)
          go_wp2_with fail
          go_roundw
          case rel => exact ⟨j + 1, by omega, by rw [FN.out], by go_num, Lib.hid (hC.out.more (below_drewN _ _))⟩
          case measure => simp [intOf] <;> omega
        have d3 : decide (k.1 ≥ 1) = true := decide_eq_true hd
        have d4 : decide (1 ≤ k.1) = true := decide_eq_true hd
        rw [d4, Bool.true_and] at hstep
        rcases Nat.eq_zero_or_pos j with rfl | hjp
        · have FN := Lib.hid (show gN ks (0 + 1) = true from by rw [hstep]; rfl)
          have hnn : 0 < n := hlt
          have hni : (0 : Int) < (n : Int) := by omega
          simp only [Nat.zero_mul, Nat.add_zero] at x0 x1
          clear hstep hkk hzg hc hd
          go_wp2_with fail
          go_quiet (fail)
          go_wp2_with fail
          go_roundw
          case rel => exact ⟨1, by omega, by rw [FN.out], by go_num, Lib.hid (hC.out.more (below_drewN _ _))⟩
          case measure => simp [intOf] <;> omega
        · obtain ⟨i, rfl⟩ : ∃ i, j = i + 1 := ⟨j - 1, by omega⟩
          obtain ⟨y, hy⟩ : ∃ y, ks.getD i k0 = y := ⟨_, rfl⟩
          obtain ⟨z8, hz8⟩ : ∃ z8, lessK y k = z8 := ⟨_, rfl⟩
          obtain ⟨u0, u1⟩ := hc i (by omega)
          rw [hy] at u0 u1
          rw [decide_eq_false (show ¬ i + 1 = 0 by omega), Bool.false_or, Nat.add_sub_cancel, hy, hz8] at hstep
          have FN := Lib.hid hstep
          have CL := Lib.hid (fun w' => mless_lit y k z8 w' hz8)
          have SB := Lib.hid (show ((wr.drew.cell? ⟨fb, fo + i * 2, none⟩ = some (.int .i64 y.1) ∧ wr.drew.cell? ⟨fb, fo + i * 2 + 1, none⟩ = some (.string y.2)) ∧ ((wr.drew.cell? ⟨fb, fo + (i + 1) * 2, none⟩ = some (.int .i64 k.1) ∧ wr.drew.cell? ⟨fb, fo + (i + 1) * 2 + 1, none⟩ = some (.string k.2)))) ∧ Below wr.heap.size wr wr.drew from ⟨⟨⟨u0, u1⟩, x0, x1⟩, (Below.refl _ _).drew⟩)
          have g1 : decide (((i + 1 : Nat) : Int) = 0) = false := decide_eq_false (by omega)
          have g1' : (((i + 1 : Nat) : Int) == 0) = false := by simpa using g1
          have g3 : IntKind.i64.wrap (((i + 1 : Nat) : Int) - 1) = (i : Int) := by rw [IntWalk.i64_in _ (by omega)]; omega
          have g3' : IntKind.i64.wrap ((i : Int) + 1 - 1) = (i : Int) := by rw [IntWalk.i64_in _ (by omega)]; omega
          have g6 : IntKind.i64.wrap (i : Int) = (i : Int) := IntWalk.i64_in _ (by omega)
          have g4 : (0 : Int) ≤ (i : Int) := by omega
          have g5 : (i : Int) < (n : Int) := by omega
          have g7 : (0 : Int) ≤ (i : Int) + 1 := by omega
          have g8 : (i : Int) + 1 < (n : Int) := by omega
          have g9 : ((i : Int) + 1).toNat = i + 1 := by omega
          have g10 : ((i : Int) + 1 == 0) = false := by simp; omega
          clear hstep hkk hzg hc hd hy hz8
          go_upto_region 10 with fail
          go_region_held3 (fun w' => ((w'.cell? ⟨fb, fo + i * 2, none⟩ = some (.int .i64 y.1) ∧ w'.cell? ⟨fb, fo + i * 2 + 1, none⟩ = some (.string y.2)) ∧ ((w'.cell? ⟨fb, fo + (i + 1) * 2, none⟩ = some (.int .i64 k.1) ∧ w'.cell? ⟨fb, fo + (i + 1) * 2 + 1, none⟩ = some (.string k.2)))) ∧ Below wr.heap.size wr w')
            (first | assumption | exact SB.out | exact mp_carry (by assumption) (by assumption))
            (first
              | (go_at_call 34; (with_reducible refine (CL.out _).mono ?_); rintro e w' ⟨rfl, hb9⟩))
          all_goals
            rename_i S5
            have BE := Lib.hid S5.2
            clear S5
            go_wp2_with fail
            go_roundw
            case rel => exact ⟨i + 2, by omega, by simp [FN.out], by go_num, Lib.hid (hC.out.more BE.out)⟩
            case measure => simp [intOf] <;> omega
      · obtain rfl : j = n := by omega
        obtain ⟨zg, hzg⟩ : ∃ zg, gN ks j = zg := ⟨_, rfl⟩
        rw [hzg]
        obtain ⟨z, hz⟩ : ∃ z, (zg && decide (q = 0)) = z := ⟨_, rfl⟩
        have CP := Lib.hid (mput_c 0 q fa j fc ks false z (pPz z ks) wr hC.out (by decide) (H1.out.below hC.out.bel) N1.out h1l (hC.out.arg H1.out) (pz_sq false ks) (by rw [put_p0, KL.out, hzg, hz]) (pz_set z ks))
        have HZP := Lib.hid (show z = true → 0 < ks.length from fun hzt => by
          rw [← hz] at hzt
          have h1 := (Bool.and_eq_true _ _ ▸ hzt).1
          rw [← hzg, gN_fit] at h1
          have h2 := (Bool.and_eq_true _ _ ▸ h1).1
          have h3 := (Bool.and_eq_true _ _ ▸ h2).1
          exact of_decide_eq_true h3)
        have HZ := Lib.hid hz
        clear hz hzg
        go_upto_region 11 with fail
        go_cut [79] from 70 to 80 (fun v wc => v = .bool false ∧ ∃ S', Hid (CtxM w wc b 10 [] (pPz z ks) S'))
        case first =>
          go_wp2_with fail
          refine CP.out.mono ?_
          rintro e w2 ⟨rfl, S2, h2, -, -⟩
          have C2 := Lib.hid h2
          clear h2 CP
          cases zg
          · obtain rfl : z = false := HZ.out.symm
            go_wp2_with fail
            go_meet
            exact ⟨rfl, S2, C2⟩
          · by_cases hq : q = 0
            · subst hq
              obtain rfl : z = true := HZ.out.symm
              go_wp2_with fail
              go_meet
              exact ⟨rfl, S2, C2⟩
            · obtain rfl : z = false := by rw [← HZ.out, decide_eq_false hq]; rfl
              have d1 : (q == 0) = false := by simpa using hq
              have d2 : decide (q = 0) = false := decide_eq_false hq
              go_wp2_with fail
              go_meet
              exact ⟨rfl, S2, C2⟩
        case rest =>
          obtain ⟨rfl, S2, C2⟩ := hcut
          rename World => w2
          obtain ⟨zs, hzs⟩ : ∃ zs, natsZ (wantsL 10 [] (pPz z ks)) = zs := ⟨_, rfl⟩
          obtain ⟨sv, hsv⟩ : ∃ sv : Int, (if z then 1 else 0) = sv := ⟨_, rfl⟩
          have hs01 : 0 ≤ sv ∧ sv ≤ 1 := by cases z <;> simp at hsv <;> omega
          have CW := Lib.hid (fun w' (h : CtxM w w' b 10 [] (pPz z ks) S2) => mwants_c zs w' h (pz_len z ks) hzs)
          have CS := Lib.hid (fun w' (h : CtxM w w' b 10 [] (pPz z ks) S2) => mseq_c 0 sv w' h (pz_len z ks) ((pz_seq z ks).trans hsv))
          have CN := Lib.hid (fun (s q : Int) (en : Bool) w' (h : CtxM w w' b 10 [] (pPz z ks) S2) (hz : putB 10 [] (pPz z ks) s q ms en = false) => mput_no s q ma m mc ms en w' h (pz_len z ks) (H2.out.below h.bel) N2.out ML.out (h.arg H2.out) (pz_sq z ks) hz)
          have C0 := Lib.hid (fun w' (h : CtxM w w' b 10 [] (pPz z ks) S2) => mput_no 1 0 none 0 0 [] false w' h (pz_len z ks) ⟨rfl, fun hh => absurd hh (by decide)⟩ (fun _ => ⟨rfl, rfl⟩) (by decide) (fun hh => absurd hh (by decide)) (pz_sq z ks) (put_empty z ks))
          have ZL := Lib.hid (show zs.length ≤ 1000 from by
            rw [← hzs, natsZ_len]
            unfold wantsL
            split
            · simp
            · unfold wantN
              have h1 := List.length_filter_le (fun i => prW ((pPz z ks).getD i sm0)) (List.range (pPz z ks).length)
              rw [List.length_range] at h1
              have h2 := pz_len z ks
              omega)
          have HQ := Lib.hid (show sv + 1 ≠ if z then 1 else 0 from by rw [hsv]; omega)
          have hw1 : IntKind.i64.wrap (sv + 1) = sv + 1 := IntWalk.i64_in _ (by omega)
          have HSV := Lib.hid hsv
          clear hs01 hzs hsv HZ CP hC
          go_wp2_with fail
          refine (CW.out _ C2.out).mono ?_
          rintro e w3 ⟨za, zc, rfl, hz3, hb3⟩
          have C3 := Lib.hid (C2.out.more hb3)
          have Z3 := Lib.hid (holdsZ_own hz3)
          clear hz3 hb3 C2
          go_wp2_with fail
          refine (CS.out _ C3.out).mono ?_
          rintro e w' ⟨rfl, rfl⟩
          go_wp2_with fail
          refine (CN.out 0 (sv + 1) true _ C3.out (put_other z ks ms _ true HQ.out)).mono ?_
          rintro e w4 ⟨rfl, hb⟩
          have C4 := Lib.hid (C3.out.more hb)
          have Z4 := Lib.hid (Z3.out.below hb)
          clear hb C3 Z3
          go_wp2_with fail
          refine (CN.out 2 0 true _ C4.out (put_far z ks ms 2 _ true (Or.inl rfl))).mono ?_
          rintro e w5 ⟨rfl, hb⟩
          have C5 := Lib.hid (C4.out.more hb)
          have Z5 := Lib.hid (Z4.out.below hb)
          clear hb C4 Z4
          go_wp2_with fail
          refine (CN.out (-1) 0 true _ C5.out (put_far z ks ms (-1) _ true (Or.inr rfl))).mono ?_
          rintro e w6 ⟨rfl, hb⟩
          have C6 := Lib.hid (C5.out.more hb)
          have Z6 := Lib.hid (Z5.out.below hb)
          clear hb C5 Z5
          go_wp2_with fail
          refine (C0.out _ C6.out).mono ?_
          rintro e w7 ⟨rfl, hb⟩
          have C7 := Lib.hid (C6.out.more hb)
          have Z7 := Lib.hid (Z6.out.below hb)
          clear hb C6 Z6
          go_upto_region 16 with fail
          go_cut [109] from 103 to 110 (fun v wc => v = .bool false ∧ Hid (Below w7.heap.size w7 wc))
          case first =>
            cases z
            · obtain rfl : sv = 0 := HSV.out.symm
              go_wp2_with fail
              go_meet
              exact ⟨rfl, Lib.hid (Below.refl _ _)⟩
            · obtain rfl : sv = 1 := HSV.out.symm
              have HK0 := Lib.hid (HZP.out rfl)
              go_wp2_with fail
              refine (CN.out 0 1 true _ C7.out (put_wait ks ms 1 true HK0.out)).mono ?_
              rintro e w8 ⟨rfl, hb⟩
              go_wp2_with fail
              go_meet
              exact ⟨rfl, Lib.hid hb⟩
          case rest =>
            obtain ⟨rfl, hb8⟩ := hcut
            rename World => w8
            have C8 := Lib.hid (C7.out.more hb8.out)
            have Z8 := Lib.hid (Z7.out.below hb8.out)
            clear C7 Z7 hb8
            go_wp2_with fail
            refine (CW.out _ C8.out).mono ?_
            rintro e w9 ⟨ya, yc, rfl, hy, hb⟩
            have C9 := Lib.hid (C8.out.more hb)
            have CI := Lib.hid (sameInts_any ya za zs.length yc zs.length zc zs zs _ (holdsZ_own hy) (Z8.out.below hb) (by have := hy.1; have := Z8.out.1; have := ZL.out; omega) (by have := ZL.out; omega))
            clear hb hy C8 Z8
            go_wp2_with fail
            refine CI.out.mono ?_
            rintro e w10 ⟨rfl, m10, rfl⟩
            have C10 := Lib.hid (C9.out.more (below_drewN _ m10))
            clear CI C9
            have d9 : decide (zs = zs) = true := decide_eq_true rfl
            go_wp2_with fail
            refine (CS.out _ C10.out).mono ?_
            rintro e w' ⟨rfl, rfl⟩
            go_wp2_with fail
            refine (mtold_c _ C10.out (by decide)).mono ?_
            rintro e w11 ⟨ta, tc, rfl, -, hb⟩
            have C11 := Lib.hid (C10.out.more hb)
            clear hb C10
            go_wp2_with fail
            refine (awakeM_any _).mono ?_
            rintro e w12 ⟨rfl, hb⟩
            have C12 := Lib.hid (C11.out.more hb)
            clear hb
            go_wp2_with fail
            go_ret
            exact ⟨rfl, C12.out.bel⟩
open Go.ChangeShapes Go.WideShapes Go.ChangeAt in
theorem mergePasses_walk {H : Type} {enc : TypeId × Value → H} (W : World) (base : Nat) (v0 v1 v2 : Value) (d0 d1 d2 : DataW H) (p0 p1 p2 : List MemPlace)
    (h0 : DataW.Trod enc Try.prog W 0 (fun _ => true) true 34 v0 d0 p0) (h1 : DataW.Trod enc Try.prog W 0 (fun _ => true) true 34 v1 d1 p1) (h2 : DataW.Trod enc Try.prog W 0 (fun _ => true) true 3 v2 d2 p2)
    (o0 : Value.okWide Try.prog W .any base 34 v0) (o1 : Value.okWide Try.prog W .any base 34 v1) (o2 : Value.okWide Try.prog W .any base 3 v2) :
    Calls Try.prog 5 #[v0, v1, v2] W fun e w' => e = .returned (.bool true) ∧ RowKit.Below W.heap.size W w' := by
  obtain ⟨a0, n0, c0, k0, rfl, x0, y0, z0, b0, s0⟩ := open_pairs_arg Try.underlying34 Try.underlying61 (by kernel_rfl) rfl rfl ⟨rfl, rfl⟩ ⟨rfl, rfl⟩ o0 h0
  obtain ⟨a1, n1, c1, k1, rfl, x1, y1, z1, b1, s1⟩ := open_pairs_arg Try.underlying34 Try.underlying61 (by kernel_rfl) rfl rfl ⟨rfl, rfl⟩ ⟨rfl, rfl⟩ o1 h1
  obtain ⟨q, rfl, rfl, rfl, _⟩ := open_int Try.underlying3 o2 h2
  exact mergePasses_any a0 n0 c0 k0 a1 n1 c1 k1 q W x0 y0 b0 s0 x1 y1 b1 s1
end Go.Proofs.Ytgghbgmeebihbaa
