/- leases: whatever comes, each call answers as the document's table does -/
import Derived.Test.YtphcmokcdaiphaaLu
import Derived.Test.YtphcmokcdaiphaaLOp
import Derived.Deep.CutRange
import Derived.Deep.QuietTactic
import Derived.BigQuiet
namespace Go.Proofs.Ytphcmokcdaiphaa
open Go.RowKit
set_option linter.unusedVariables false
/-- a table and the document's, which say the same -/
structure Both (w : World) (b c : Nat) (s : Lt) (w' : World) : Prop where
  g : Good s
  ts : Tab w' b s
  tr : RTab w' c s
  bel : Below w.heap.size w w'
  hb : w.heap.size ≤ b
  hc : w.heap.size ≤ c
  ne : b ≠ c
theorem Both.more {w w' w2 : World} {b c : Nat} {s : Lt} (h : Both w b c s w') (hb : Below w'.heap.size w' w2) : Both w b c s w2 :=
  ⟨h.g, h.ts.below hb, h.tr.below hb, h.bel.trans (hb.mono h.bel.size), h.hb, h.hc, h.ne⟩
theorem Both.bc {w w' w1 w2 : World} {b c : Nat} {s s' : Lt} (h : Both w b c s w') (h1 : Then b w' s' w1) (h2 : RThen c w1 s' w2) (hg : Good s') : Both w b c s' w2 := by
  have h3 := h.bel.trans (h1.2.below h.hb h.bel.size)
  exact ⟨hg, h1.1.but h2.2 h.ne, h2.1, h3.trans (h2.2.below h.hc h3.size), h.hb, h.hc, h.ne⟩
theorem Both.cb {w w' w1 w2 : World} {b c : Nat} {s s' : Lt} (h : Both w b c s w') (h1 : RThen c w' s' w1) (h2 : Then b w1 s' w2) (hg : Good s') : Both w b c s' w2 := by
  have h3 := h.bel.trans (h1.2.below h.hc h.bel.size)
  exact ⟨hg, h2.1, h1.1.but h2.2 (Ne.symm h.ne), h3.trans (h2.2.below h.hb h3.size), h.hb, h.hc, h.ne⟩
/-- three cells of a variable -/
def C3 (c : Nat) (k n t : Int) (w : World) : Prop := w.cell? ⟨c, 1, none⟩ = some (.int .i64 k) ∧ w.cell? ⟨c, 2, none⟩ = some (.int .i64 n) ∧ w.cell? ⟨c, 3, none⟩ = some (.int .i64 t)
theorem C3.below {c : Nat} {k n t : Int} {w w' : World} (h : C3 c k n t w) (hb : Below w.heap.size w w') : C3 c k n t w' :=
  ⟨by rw [hb.cell (p := ⟨c, 1, none⟩) (lt_of_cell h.1)]; exact h.1, by rw [hb.cell (p := ⟨c, 2, none⟩) (lt_of_cell h.2.1)]; exact h.2.1, by rw [hb.cell (p := ⟨c, 3, none⟩) (lt_of_cell h.2.2)]; exact h.2.2⟩
theorem C3.but {b c : Nat} {k n t : Int} {w w' : World} (h : C3 c k n t w) (hb : But b w w') (hc : c ≠ b) : C3 c k n t w' :=
  ⟨by rw [hb.cell (p := ⟨c, 1, none⟩) (lt_of_cell h.1) hc]; exact h.1, by rw [hb.cell (p := ⟨c, 2, none⟩) (lt_of_cell h.2.1) hc]; exact h.2.1, by rw [hb.cell (p := ⟨c, 3, none⟩) (lt_of_cell h.2.2) hc]; exact h.2.2⟩
theorem ActAt.c3 {w : World} {c : Nat} {x : ActV} (h : ActAt w c x) : C3 c x.k x.n x.t w := ⟨h.k, h.n, h.t⟩
theorem c3_then {c b : Nat} {k n t : Int} {w w' : World} {s' : Lt} (h : w.cell? ⟨c, 1, none⟩ = some (.int .i64 k) ∧ w.cell? ⟨c, 2, none⟩ = some (.int .i64 n) ∧ w.cell? ⟨c, 3, none⟩ = some (.int .i64 t)) (hT : Then b w s' w') (hc : c ≠ b) :
    w'.cell? ⟨c, 1, none⟩ = some (.int .i64 k) ∧ w'.cell? ⟨c, 2, none⟩ = some (.int .i64 n) ∧ w'.cell? ⟨c, 3, none⟩ = some (.int .i64 t) := C3.but h hT.2 hc
theorem c3_rthen {c b : Nat} {k n t : Int} {w w' : World} {s' : Lt} (h : w.cell? ⟨c, 1, none⟩ = some (.int .i64 k) ∧ w.cell? ⟨c, 2, none⟩ = some (.int .i64 n) ∧ w.cell? ⟨c, 3, none⟩ = some (.int .i64 t)) (hT : RThen b w s' w') (hc : c ≠ b) :
    w'.cell? ⟨c, 1, none⟩ = some (.int .i64 k) ∧ w'.cell? ⟨c, 2, none⟩ = some (.int .i64 n) ∧ w'.cell? ⟨c, 3, none⟩ = some (.int .i64 t) := C3.but h hT.2 hc
theorem tab_rthen {b c : Nat} {s s' : Lt} {w w' : World} (h : Tab w b s) (hT : RThen c w s' w') (hne : b ≠ c) : Tab w' b s := h.but hT.2 hne
theorem rtab_then {b c : Nat} {s s' : Lt} {w w' : World} (h : RTab w c s) (hT : Then b w s' w') (hne : b ≠ c) : RTab w' c s := h.but hT.2 (Ne.symm hne)
theorem c2_start {c : Nat} {k n t : Int} {w : World} (h : C3 c k n t w) : Below w.heap.size w w.drew ∧ w.drew.cell? ⟨c, 1, none⟩ = some (.int .i64 k) ∧ w.drew.cell? ⟨c, 3, none⟩ = some (.int .i64 t) :=
  ⟨(Below.refl _ _).drew, h.1, h.2.2⟩
theorem c2_carry {c : Nat} {k t : Int} {w0 w w' : World} (h : Below w0.heap.size w0 w ∧ w.cell? ⟨c, 1, none⟩ = some (.int .i64 k) ∧ w.cell? ⟨c, 3, none⟩ = some (.int .i64 t)) (hb : Below w.heap.size w w') :
    Below w0.heap.size w0 w' ∧ w'.cell? ⟨c, 1, none⟩ = some (.int .i64 k) ∧ w'.cell? ⟨c, 3, none⟩ = some (.int .i64 t) :=
  ⟨h.1.trans (hb.mono h.1.size), by rw [hb.cell (p := ⟨c, 1, none⟩) (lt_of_cell h.2.1)]; exact h.2.1, by rw [hb.cell (p := ⟨c, 3, none⟩) (lt_of_cell h.2.2)]; exact h.2.2⟩
theorem epoch_lit {s : Lt} {x : Int} (b : Nat) (k : Int) (w : World) (h : Tab w b s) (hg : Good s) (hx : epochS s k = x) :
    Calls Try.prog 17 #[.pointer (some ⟨b, 0, none⟩), .int .i64 k] w fun e w' => e = .returned (.int .i64 x) ∧ w = w' := by subst hx; exact epoch_any b k w h hg
theorem life_lit {s : Lt} {x : Int} (b : Nat) (k : Int) (w : World) (h : Tab w b s) (hg : Good s) (hx : lifeS s k = x) :
    Calls Try.prog 18 #[.pointer (some ⟨b, 0, none⟩), .int .i64 k] w fun e w' => e = .returned (.int .i64 x) ∧ w = w' := by subst hx; exact life_any b k w h hg
theorem rlive_lit {s : Lt} {x : Bool} (b : Nat) (k t : Int) (w : World) (h : RTab w b s) (hg : Good s) (hx : decide (liveOk s k t) = x) :
    Calls Try.prog 20 #[.pointer (some ⟨b, 0, none⟩), .int .i64 k, .int .i64 t] w fun e w' => e = .returned (.bool x) ∧ w = w' := by subst hx; exact rlive_any b k t w h hg
theorem rseen_lit {s s' : Lt} {x : Bool} (b : Nat) (k e t : Int) (w : World) (h : RTab w b s) (hg : Good s) (h1 : decide (seenOk s k e t) = x) (h2 : seenS s k e t = s') :
    Calls Try.prog 14 #[.pointer (some ⟨b, 0, none⟩), .int .i64 k, .int .i64 e, .int .i64 t] w fun r w' => r = .returned (.bool x) ∧ RThen b w s' w' := by
  subst h1 h2; exact rseen_any b k e t w h hg
theorem seen_lit2 {s s' : Lt} {x : Bool} (b : Nat) (k e t : Int) (w : World) (h : Tab w b s) (hg : Good s) (h1 : decide (seenOk s k e t) = x) (h2 : seenS s k e t = s') :
    Calls Try.prog 13 #[.pointer (some ⟨b, 0, none⟩), .int .i64 k, .int .i64 e, .int .i64 t] w fun r w' => r = .returned (.bool x) ∧ Then b w s' w' := by
  subst h1 h2; exact seen_any b k e t w h hg
theorem rhello_lit {s s' : Lt} {e n : Int} (b : Nat) (k f t : Int) (w : World) (h : RTab w b s) (hg : Good s) (h1 : helloE s k f t = e) (h2 : helloN s k f t = n) (h3 : helloS s k f t = s') :
    Calls Try.prog 16 #[.pointer (some ⟨b, 0, none⟩), .int .i64 k, .int .i64 f, .int .i64 t] w fun r w' => r = .returned (.tuple #[.int .i64 e, .int .i64 n]) ∧ RThen b w s' w' := by
  subst h1 h2 h3; exact rhello_any b k f t w h hg
set_option maxRecDepth 100000 in
set_option maxHeartbeats 6400000 in
theorem leaseScript_any (N T : Int) (xs : Nat → ActV) (a : Option Addr) (m ca : Nat) (now : Int) (w : World) (hh : HoldsA w a m xs) (hl63 : m ≤ 9223372036854775807) :
    Calls Try.prog 3 #[.int .i64 N, .int .i64 T, .slice a m ca, .int .i64 now] w fun e w' => e = .returned (.bool true) ∧ Below w.heap.size w w' := by
  have HH := Lib.hid hh
  clear hh
  by_cases hlong : 100 < m
  · go_enter Try.func3, Try.ntmps3
    go_wp2_with fail
    refine (awake_any _).mono ?_
    rintro e w' ⟨rfl, hb⟩
    go_wp2_with fail
    go_ret
    exact ⟨rfl, hb⟩
  have hm60 : m ≤ 100 := by omega
  clear hlong
  by_cases hN : (1 ≤ N ∧ N ≤ 5) ∧ 1 ≤ T ∧ T ≤ 1000
  case neg =>
    have HN := Lib.hid hN
    clear hN
    go_enter Try.func3, Try.ntmps3
    go_wp2_with fail
    refine (new_bad N T _ HN.out).mono ?_
    rintro e w' ⟨rfl, rfl⟩
    go_wp2_with fail
    refine (rnew_bad N T _ HN.out).mono ?_
    rintro e w' ⟨rfl, rfl⟩
    go_wp2_with fail
    refine (num_any 2 _).mono ?_
    rintro e w' ⟨rfl, rfl⟩
    go_wp2_with fail
    refine (awake_any _).mono ?_
    rintro e w' ⟨rfl, hb⟩
    go_wp2_with fail
    go_ret
    exact ⟨rfl, hb⟩
  have HN := Lib.hid hN
  clear hN
  go_enter Try.func3, Try.ntmps3
  go_wp2_with fail
  refine (new_good N T _ HN.out).mono ?_
  rintro e w0 ⟨rfl, hw0⟩
  have T0 := Lib.hid (hw0 ▸ new_is_tab w N T _)
  have L0 := Lib.hid (show Below w.heap.size w w0 from hw0 ▸ below_one w _)
  clear hw0
  go_wp2_with fail
  refine (rnew_good N T _ HN.out).mono ?_
  rintro e w1 ⟨rfl, hr1, hb1⟩
  have hne : w.heap.size ≠ w0.heap.size := Nat.ne_of_lt T0.out.lt
  have W1 : Hid (Both w w.heap.size w0.heap.size (newS N T) w1) := Lib.hid ⟨new_is_good HN.out, T0.out.below hb1, hr1, L0.out.trans (hb1.mono L0.out.size), Nat.le_refl _, L0.out.size, hne⟩
  clear hr1 hb1 T0 L0 hne
  obtain ⟨b, hb⟩ : ∃ b, w.heap.size = b := ⟨_, rfl⟩
  obtain ⟨c, hc⟩ : ∃ c, w0.heap.size = c := ⟨_, rfl⟩
  rw [hb, hc] at W1
  simp only [hb, hc]
  clear hb hc
  go_wp2_with fail
  refine (num_any 0 _).mono ?_
  rintro e w' ⟨rfl, rfl⟩
  go_wp2_with fail
  go_loopw [13] (fun i wr => ∃ (j : Nat) (s : Lt), j ≤ m ∧ i = .int .i64 j ∧ Hid (Both w b c s wr)) (fun i _ => m - (intOf i).toNat)
  case atStart => exact ⟨0, _, by omega, rfl, W1⟩
  case round =>
    obtain ⟨j, s, hj, rfl, hT⟩ := hrel
    by_cases hlt : j < m
    · obtain ⟨ab, ao, rfl, hcell⟩ := (HH.out.below (w' := wr) hT.out.bel) (by omega)
      obtain ⟨c0, c1, c2, c3⟩ := hcell j hlt
      clear hcell
      obtain ⟨x, hx⟩ : ∃ x, xs j = x := ⟨_, rfl⟩
      rw [hx] at c0 c1 c2 c3
      clear hx
      have X0 := Lib.hid (new_is_act wr x 33)
      have V0 := Lib.hid (hT.out.more (below_one wr (.cells #[.bool x.q, .int .i64 x.k, .int .i64 x.n, .int .i64 x.t] 33)))
      obtain ⟨q, k, n, t⟩ := x
      have hbw : b < wr.heap.size := hT.out.ts.lt
      have hcw : c < wr.heap.size := hT.out.tr.lt
      have hnb : wr.heap.size ≠ b := Nat.ne_of_gt hbw
      have hnc : wr.heap.size ≠ c := Nat.ne_of_gt hcw
      clear hbw hcw
      go_upto_if 63 with fail
      generalize wr.alloc (.cells #[.bool q, .int .i64 k, .int .i64 n, .int .i64 t] 33) = wx at *
      generalize wr.heap.size = cx at *
      have X1 := Lib.hid X0.out.c3
      clear X0 HH c0 c1 c2 c3 hT
      go_cut [15, 16, 17, 18, 19] from 52 to 185 (fun y _ _ _ _ wc => ∃ s', y = .bool true ∧ Hid (Both w b c s' wc) ∧ Hid (C3 cx k n t wc))
      case first =>
        cases q
        · obtain ⟨e', he⟩ : ∃ e', helloE s k n t = e' := ⟨_, rfl⟩
          obtain ⟨n', hn⟩ : ∃ n', helloN s k n t = n' := ⟨_, rfl⟩
          obtain ⟨s', hs⟩ : ∃ s', helloS s k n t = s' := ⟨_, rfl⟩
          have G2 := Lib.hid (hs ▸ hello_good V0.out.g k n t)
          have E := Lib.hid he; have NN := Lib.hid hn; have S := Lib.hid hs
          clear he hn hs
          have x1 : (e' == e') = true := by simp
          have x2 : (n' == n') = true := by simp
          obtain ⟨y1, y2, y3⟩ := X1.out
          go_wp2_with fail
          refine (hello_lit b k n t _ V0.out.ts V0.out.g E.out NN.out S.out).mono ?_
          rintro r w2 ⟨rfl, hT1⟩
          clear y1 y2 y3
          obtain ⟨y1, y2, y3⟩ := X1.out.but hT1.2 hnb
          have X2 := Lib.hid (X1.out.but hT1.2 hnb)
          have R2 := Lib.hid (V0.out.tr.but hT1.2 (Ne.symm V0.out.ne))
          have HT1 := Lib.hid hT1
          clear hT1
          go_wp2_with fail
          refine (rhello_lit c k n t _ R2.out V0.out.g E.out NN.out S.out).mono ?_
          rintro r w3 ⟨rfl, hT2⟩
          have V2 := Lib.hid (V0.out.bc HT1.out hT2 G2.out)
          have X3 := Lib.hid (X2.out.but hT2.2 hnc)
          clear hT2 y1 y2 y3
          go_wp2_with fail
          refine (num_any n' _).mono ?_
          rintro r w' ⟨rfl, rfl⟩
          go_wp2_with fail
          go_meet
          case rel => exact ⟨s', rfl, V2, X3⟩
        · obtain ⟨z, hz⟩ : ∃ z, decide (seenOk s k n t) = z := ⟨_, rfl⟩
          obtain ⟨s', hs⟩ : ∃ s', seenS s k n t = s' := ⟨_, rfl⟩
          have G2 := Lib.hid (hs ▸ seen_good V0.out.g k n t)
          have Z := Lib.hid hz; have S := Lib.hid hs
          clear hz hs
          have x1 : (z == z) = true := by simp
          have VD := Lib.hid (V0.out.more (Below.refl _ _).drew)
          have XD := Lib.hid (X1.out.below (Below.refl _ _).drew)
          have NE := Lib.hid V0.out.ne
          go_upto_region 15 with fail
          go_region_held3 (fun w' => w'.cell? ⟨cx, 1, none⟩ = some (.int .i64 k) ∧ w'.cell? ⟨cx, 2, none⟩ = some (.int .i64 n) ∧ w'.cell? ⟨cx, 3, none⟩ = some (.int .i64 t))
            (first | assumption | exact XD.out | exact c3_then (by assumption) (by assumption) hnb | exact c3_rthen (by assumption) (by assumption) hnc)
            (first | (go_at_call 13; refine (seen_lit2 b k n t _ VD.out.ts VD.out.g Z.out S.out).mono ?_; rintro e w' ⟨rfl, hT⟩) | (go_at_call 13; refine (seen_lit2 b k n t _ (tab_rthen VD.out.ts (by assumption) NE.out) VD.out.g Z.out S.out).mono ?_; rintro e w' ⟨rfl, hT⟩) | (go_at_call 14; refine (rseen_lit c k n t _ VD.out.tr VD.out.g Z.out S.out).mono ?_; rintro e w' ⟨rfl, hT⟩) | (go_at_call 14; refine (rseen_lit c k n t _ (rtab_then VD.out.tr (by assumption) NE.out) VD.out.g Z.out S.out).mono ?_; rintro e w' ⟨rfl, hT⟩))
          all_goals (go_wp2_with fail; go_meet)
          all_goals exact ⟨s', rfl, (by first | exact Lib.hid (VD.out.bc (by assumption) (by assumption) G2.out) | exact Lib.hid (VD.out.cb (by assumption) (by assumption) G2.out)), Lib.hid (by assumption)⟩
      case rest =>
        obtain ⟨s', rfl, V1, X2⟩ := hcut
        go_upto_region 20 with fail
        go_cut [123] from 52 to 185 (fun v wc => v = .bool (decide (worker s' k)) ∧ Hid (Both w b c s' wc) ∧ Hid (C3 cx k n t wc))
        case first =>
          obtain ⟨y1, y2, y3⟩ := X2.out
          have cn := V1.out.tr.cn
          have h1 : k < 1 ∨ (1 ≤ k ∧ k ≤ s'.N) ∨ (1 ≤ k ∧ s'.N < k) := by omega
          rcases h1 with h1 | ⟨h1, h2⟩ | ⟨h1, h2⟩
          · have HK := Lib.hid (decide_eq_false (show ¬ worker s' k by unfold worker; omega))
            have d1 : decide (k ≥ 1) = false := by simpa using h1
            go_quiet (fail)
            go_wp2_with fail
            go_meet
            exact ⟨by rw [HK.out], Lib.hid (V1.out.more (below_drewN _ _)), Lib.hid (X2.out.below (below_drewN _ _))⟩
          · have HK := Lib.hid (decide_eq_true (show worker s' k from ⟨h1, h2⟩))
            have d1 : decide (k ≥ 1) = true := by simpa using h1
            have d2 : decide (k ≤ s'.N) = true := by simpa using h2
            go_quiet (fail)
            go_wp2_with fail
            go_meet
            exact ⟨by rw [HK.out], Lib.hid (V1.out.more (below_drewN _ _)), Lib.hid (X2.out.below (below_drewN _ _))⟩
          · have HK := Lib.hid (decide_eq_false (show ¬ worker s' k by unfold worker; omega))
            have d1 : decide (k ≥ 1) = true := by simpa using h1
            have d2 : decide (k ≤ s'.N) = false := by simpa using h2
            go_quiet (fail)
            go_wp2_with fail
            go_meet
            exact ⟨by rw [HK.out], Lib.hid (V1.out.more (below_drewN _ _)), Lib.hid (X2.out.below (below_drewN _ _))⟩
        case rest =>
          obtain ⟨rfl, V2, X3⟩ := hcut
          clear V1 X2
          go_upto_if 123 with fail
          go_cut [20, 21] from 52 to 185 (fun x y wc => x = .int .i64 (epochS s' k) ∧ y = .int .i64 (lifeS s' k) ∧ Hid (Both w b c s' wc) ∧ Hid (C3 cx k n t wc))
          case first =>
            by_cases hk : worker s' k
            · have e1 : epochS s' k = s'.E (idx k) := if_pos hk
              have e2 : lifeS s' k = s'.L (idx k) := if_pos hk
              obtain ⟨i, hki, hi⟩ := worker_nat V2.out.g hk
              rw [show idx k = i by rw [hki]; exact idx_nat i] at e1 e2
              have E1 := Lib.hid e1; have E2 := Lib.hid e2
              obtain ⟨z1, z2, z3⟩ := V2.out.tr.at hi
              obtain ⟨y1, y2, y3⟩ := X3.out
              have q1 : (0 : Int) ≤ ((i + 1 : Nat) : Int) := by omega
              have q2 : ((i + 1 : Nat) : Int) < 6 := by omega
              rw [decide_eq_true hk]
              rw [hki] at y1
              clear hk e1 e2 z3
              generalize hn1 : i + 1 = n1 at *
              have q3 : n1 < 6 := by omega
              clear hn1
              go_upto_region 21 with fail
              go_quiet (fail)
              go_wp2_with fail
              go_meet
              exact ⟨by rw [E1.out], by rw [E2.out], Lib.hid (V2.out.more (below_drewN _ _)), Lib.hid (X3.out.below (below_drewN _ _))⟩
            · have e1 : epochS s' k = 0 := if_neg hk
              have e2 : lifeS s' k = 0 := if_neg hk
              have E1 := Lib.hid e1; have E2 := Lib.hid e2
              rw [decide_eq_false hk]
              clear hk e1 e2
              go_wp2_with fail
              go_meet
              exact ⟨by rw [E1.out], by rw [E2.out], V2, X3⟩
          case rest =>
            obtain ⟨rfl, rfl, V3, X4⟩ := hcut
            clear V2 X3
            obtain ⟨ep, hep⟩ : ∃ ep, epochS s' k = ep := ⟨_, rfl⟩
            obtain ⟨lf, hlf⟩ : ∃ lf, lifeS s' k = lf := ⟨_, rfl⟩
            have EP := Lib.hid hep; have LF := Lib.hid hlf
            rw [hep, hlf]
            have x1 : (ep != ep) = false := by simp
            have x2 : (lf != lf) = false := by simp
            have VT := Lib.hid (fun W (h : Below wc.heap.size wc W) => V3.out.ts.below h)
            have VR := Lib.hid (fun W (h : Below wc.heap.size wc W) => V3.out.tr.below h)
            have VG := Lib.hid V3.out.g
            clear hep hlf
            go_upto_region 22 with fail
            go_region_held3 (fun w' => Below wc.heap.size wc w' ∧ w'.cell? ⟨cx, 1, none⟩ = some (.int .i64 k) ∧ w'.cell? ⟨cx, 3, none⟩ = some (.int .i64 t))
              (first | assumption | exact c2_start X4.out | exact c2_carry (by assumption) (by assumption))
              (first | (go_at_call 17; refine (epoch_lit b k _ (VT.out _ (And.left (by assumption))) VG.out EP.out).mono ?_; rintro e w' ⟨rfl, rfl⟩) | (go_at_call 18; refine (life_lit b k _ (VT.out _ (And.left (by assumption))) VG.out LF.out).mono ?_; rintro e w' ⟨rfl, rfl⟩) | (go_at_call 19; refine (live_any b k _ _ (VT.out _ (And.left (by assumption))) VG.out).mono ?_; rintro e w' ⟨rfl, hb⟩) | (go_at_call 20; refine (rlive_any c k _ _ (VR.out _ (And.left (by assumption))) VG.out).mono ?_; rintro e w' ⟨rfl, rfl⟩))
            rename_i S5
            obtain ⟨hb5, -, -⟩ := S5
            have V5 := Lib.hid (V3.out.more hb5)
            clear hb5 x1 x2
            go_wp2_with fail
            go_roundw
            case rel => exact ⟨j + 1, s', by omega, by go_num, V5⟩
            case measure => simp [intOf]; omega
    · go_wp2_with fail
      refine (awake_any _).mono ?_
      rintro e w' ⟨rfl, hb⟩
      go_wp2_with fail
      go_ret
      exact ⟨rfl, hT.out.bel.trans (hb.mono hT.out.bel.size)⟩
open Go.ChangeShapes Go.WideShapes Go.ChangeAt in
theorem leaseScript_walk {H : Type} {enc : TypeId × Value → H} (W : World) (base : Nat) (v0 v1 v2 v3 : Value) (d0 d1 d2 d3 : DataW H) (p0 p1 p2 p3 : List MemPlace)
    (h0 : DataW.Trod enc Try.prog W 0 (fun _ => true) true 3 v0 d0 p0) (h1 : DataW.Trod enc Try.prog W 0 (fun _ => true) true 3 v1 d1 p1) (h2 : DataW.Trod enc Try.prog W 0 (fun _ => true) true 22 v2 d2 p2) (h3 : DataW.Trod enc Try.prog W 0 (fun _ => true) true 3 v3 d3 p3)
    (o0 : Value.okWide Try.prog W .any base 3 v0) (o1 : Value.okWide Try.prog W .any base 3 v1) (o2 : Value.okWide Try.prog W .any base 22 v2) (o3 : Value.okWide Try.prog W .any base 3 v3) :
    Calls Try.prog 3 #[v0, v1, v2, v3] W fun e w' => e = .returned (.bool true) ∧ RowKit.Below W.heap.size W w' := by
  obtain ⟨n, rfl, rfl, rfl, _⟩ := open_int Try.underlying3 o0 h0
  obtain ⟨t, rfl, rfl, rfl, _⟩ := open_int Try.underlying3 o1 h1
  obtain ⟨a, m, cap, xs, rfl, hh, k2, _⟩ := open_acts_arg o2 h2
  obtain ⟨now, rfl, rfl, rfl, _⟩ := open_int Try.underlying3 o3 h3
  exact leaseScript_any n t xs a m cap now W hh (by unfold maxLen at k2; omega)
end Go.Proofs.Ytphcmokcdaiphaa
