/- leases: what one worker is heard of changes nothing of another one -/
import Derived.Test.YtphcmokcdaiphaaLn
import Derived.Test.YtphcmokcdaiphaaLm
namespace Go.Proofs.Ytphcmokcdaiphaa
open Go.RowKit
set_option linter.unusedVariables false
/-- two tables -/
structure Two (w : World) (b c : Nat) (s r : Lt) (w' : World) : Prop where
  gs : Good s
  gr : Good r
  ts : Tab w' b s
  tr : Tab w' c r
  bel : Below w.heap.size w w'
  hb : w.heap.size ≤ b
  hc : w.heap.size ≤ c
  ne : b ≠ c
theorem Two.left {w w' w2 : World} {b c : Nat} {s r s' : Lt} (h : Two w b c s r w') (ht : Then b w' s' w2) (hg : Good s') : Two w b c s' r w2 :=
  ⟨hg, h.gr, ht.1, h.tr.but ht.2 (Ne.symm h.ne), h.bel.trans (ht.2.below h.hb h.bel.size), h.hb, h.hc, h.ne⟩
theorem Two.right {w w' w2 : World} {b c : Nat} {s r r' : Lt} (h : Two w b c s r w') (ht : Then c w' r' w2) (hg : Good r') : Two w b c s r' w2 :=
  ⟨h.gs, hg, h.ts.but ht.2 h.ne, ht.1, h.bel.trans (ht.2.below h.hc h.bel.size), h.hb, h.hc, h.ne⟩
theorem Two.more {w w' w2 : World} {b c : Nat} {s r : Lt} (h : Two w b c s r w') (hb : Below w'.heap.size w' w2) : Two w b c s r w2 :=
  ⟨h.gs, h.gr, h.ts.below hb, h.tr.below hb, h.bel.trans (hb.mono h.bel.size), h.hb, h.hc, h.ne⟩
/-- and what LeaseApart says of them -/
structure Apt (s r : Lt) : Prop where
  ag : Agree s r 1
  e0 : r.E 0 = 0
  e2 : r.E 2 = 0
  n : s.N = 3
theorem idx_one {s : Lt} {k : Int} (hk : worker s k) (h : k ≠ 2) : 1 ≠ idx k := by unfold worker at hk; unfold idx; omega
theorem Apt.hello_left {s r : Lt} (h : Apt s r) (k f t : Int) (hk : k ≠ 2) : Apt (helloS s k f t) r :=
  ⟨h.ag.hello_left k f t (fun x => idx_one x hk), h.e0, h.e2, by rw [(hello_NT s k f t).1]; exact h.n⟩
theorem Apt.seen_left {s r : Lt} (h : Apt s r) (k f t : Int) (hk : k ≠ 2) : Apt (seenS s k f t) r :=
  ⟨h.ag.seen_left k f t (fun x => idx_one x hk), h.e0, h.e2, by rw [(seen_NT s k f t).1]; exact h.n⟩
theorem Apt.hello_both {s r : Lt} (h : Apt s r) (f t : Int) : Apt (helloS s 2 f t) (helloS r 2 f t) :=
  ⟨h.ag.hello_both (k := 2) f t, by rw [(hello_off r 2 f t 0 (fun _ => by decide)).1]; exact h.e0, by rw [(hello_off r 2 f t 2 (fun _ => by decide)).1]; exact h.e2, by rw [(hello_NT s 2 f t).1]; exact h.n⟩
theorem Apt.seen_both {s r : Lt} (h : Apt s r) (f t : Int) : Apt (seenS s 2 f t) (seenS r 2 f t) :=
  ⟨h.ag.seen_both (k := 2) f t, by rw [(seen_off r 2 f t 0 (fun _ => by decide)).1]; exact h.e0, by rw [(seen_off r 2 f t 2 (fun _ => by decide)).1]; exact h.e2, by rw [(seen_NT s 2 f t).1]; exact h.n⟩
set_option maxHeartbeats 3200000 in
theorem leaseApart_any (xs : Nat → ActV) (a : Option Addr) (m ca : Nat) (look : Int) (w : World) (hh : HoldsA w a m xs) (hl63 : m ≤ 9223372036854775807) :
    Calls Try.prog 7 #[.slice a m ca, .int .i64 look] w fun e w' => e = .returned (.bool true) ∧ Below w.heap.size w w' := by
  have HH := Lib.hid hh
  clear hh
  by_cases hlong : 60 < m
  · go_enter Try.func7, Try.ntmps7
    go_wp2_with fail
    refine (awake_any _).mono ?_
    rintro e w' ⟨rfl, hb⟩
    go_wp2_with fail
    go_ret
    exact ⟨rfl, hb⟩
  have hm60 : m ≤ 60 := by omega
  have HN := Lib.hid (show (1 ≤ (3 : Int) ∧ (3 : Int) ≤ 5) ∧ 1 ≤ (6 : Int) ∧ (6 : Int) ≤ 1000 by omega)
  clear hlong
  go_enter Try.func7, Try.ntmps7
  go_wp2_with fail
  refine (new_good 3 6 _ HN.out).mono ?_
  rintro e w0 ⟨rfl, hw0⟩
  have T0 := Lib.hid (hw0 ▸ new_is_tab w 3 6 _)
  have L0 := Lib.hid (show Below w.heap.size w w0 from hw0 ▸ below_one w _)
  clear hw0
  go_wp2_with fail
  refine (new_good 3 6 _ HN.out).mono ?_
  rintro e w1 ⟨rfl, hw1⟩
  have T1 := Lib.hid (hw1 ▸ new_is_tab w0 3 6 _)
  have L1 := Lib.hid (show Below w0.heap.size w0 w1 from hw1 ▸ below_one w0 _)
  have hne : w.heap.size ≠ w0.heap.size := Nat.ne_of_lt T0.out.lt
  have W1 : Hid (Two w w.heap.size w0.heap.size (newS 3 6) (newS 3 6) w1) := Lib.hid ⟨new_is_good HN.out, new_is_good HN.out, T0.out.below L1.out, T1.out, L0.out.trans (L1.out.mono L0.out.size), Nat.le_refl _, L0.out.size, hne⟩
  have P1 : Hid (Apt (newS 3 6) (newS 3 6)) := Lib.hid ⟨⟨rfl, rfl, rfl, rfl, rfl⟩, rfl, rfl, rfl⟩
  clear hw1 T0 L0 T1 L1 hne
  go_wp2_with fail
  obtain ⟨b, hb⟩ : ∃ b, w.heap.size = b := ⟨_, rfl⟩
  obtain ⟨c, hc⟩ : ∃ c, w0.heap.size = c := ⟨_, rfl⟩
  rw [hb, hc] at W1
  simp only [hb, hc]
  clear hb hc
  go_loopw [9] (fun i wr => ∃ (j : Nat) (s r : Lt), j ≤ m ∧ i = .int .i64 j ∧ Hid (Two w b c s r wr) ∧ Hid (Apt s r)) (fun i _ => m - (intOf i).toNat)
  case atStart => exact ⟨0, _, _, by omega, rfl, W1, P1⟩
  case round =>
    obtain ⟨j, s, r, hj, rfl, hT, hA⟩ := hrel
    by_cases hlt : j < m
    · obtain ⟨ab, ao, rfl, hcell⟩ := (HH.out.below (w' := wr) hT.out.bel) (by omega)
      obtain ⟨c0, c1, c2, c3⟩ := hcell j hlt
      clear hcell
      obtain ⟨x, hx⟩ : ∃ x, xs j = x := ⟨_, rfl⟩
      rw [hx] at c0 c1 c2 c3
      clear hx
      have X0 := Lib.hid (new_is_act wr x 33)
      have V0 := Lib.hid (hT.out.more (below_one wr (.cells #[.bool x.q, .int .i64 x.k, .int .i64 x.n, .int .i64 x.t] 33)))
      obtain ⟨q, k, n, t⟩ := x
      have hbw : b < wr.heap.size := hT.out.ts.lt
      have hcw : c < wr.heap.size := hT.out.tr.lt
      by_cases hk : k = 2 <;> cases q
      · subst hk
        go_wp2_with fail
        generalize wr.alloc (.cells #[.bool false, .int .i64 2, .int .i64 n, .int .i64 t] 33) = wx at *
        refine (hello_any b 2 n t wx V0.out.ts V0.out.gs).mono ?_
        rintro e w2 ⟨rfl, hT2⟩
        have V1 := Lib.hid (V0.out.left hT2 (hello_good V0.out.gs 2 n t))
        obtain ⟨y0, y1, y2, y3⟩ := X0.out.but hT2.2 (Nat.ne_of_gt hbw)
        simp only at y0 y1 y2 y3
        clear hT2
        go_wp2_with fail
        refine (hello_any c 2 n t w2 V1.out.tr V1.out.gr).mono ?_
        rintro e w3 ⟨rfl, hT3⟩
        have V2 := Lib.hid (V1.out.right hT3 (hello_good V1.out.gr 2 n t))
        clear hT3 y0 y1 y2 y3
        go_wp2_with fail
        go_roundw
        case rel => exact ⟨j + 1, _, _, by omega, by go_num, V2, Lib.hid (hA.out.hello_both n t)⟩
        case measure => simp [intOf]; omega
      · subst hk
        go_wp2_with fail
        generalize wr.alloc (.cells #[.bool true, .int .i64 2, .int .i64 n, .int .i64 t] 33) = wx at *
        refine (seen_any b 2 n t wx V0.out.ts V0.out.gs).mono ?_
        rintro e w2 ⟨rfl, hT2⟩
        have V1 := Lib.hid (V0.out.left hT2 (seen_good V0.out.gs 2 n t))
        obtain ⟨y0, y1, y2, y3⟩ := X0.out.but hT2.2 (Nat.ne_of_gt hbw)
        simp only at y0 y1 y2 y3
        clear hT2
        go_wp2_with fail
        refine (seen_any c 2 n t w2 V1.out.tr V1.out.gr).mono ?_
        rintro e w3 ⟨rfl, hT3⟩
        have V2 := Lib.hid (V1.out.right hT3 (seen_good V1.out.gr 2 n t))
        clear hT3 y0 y1 y2 y3
        go_wp2_with fail
        go_roundw
        case rel => exact ⟨j + 1, _, _, by omega, by go_num, V2, Lib.hid (hA.out.seen_both n t)⟩
        case measure => simp [intOf]; omega
      · have hkb : (k == 2) = false := by simpa using hk
        go_wp2_with fail
        generalize wr.alloc (.cells #[.bool false, .int .i64 k, .int .i64 n, .int .i64 t] 33) = wx at *
        refine (hello_any b k n t wx V0.out.ts V0.out.gs).mono ?_
        rintro e w2 ⟨rfl, hT2⟩
        have V1 := Lib.hid (V0.out.left hT2 (hello_good V0.out.gs k n t))
        obtain ⟨y0, y1, y2, y3⟩ := X0.out.but hT2.2 (Nat.ne_of_gt hbw)
        simp only at y0 y1 y2 y3
        clear hT2
        go_wp2_with fail
        go_roundw
        case rel => exact ⟨j + 1, _, _, by omega, by go_num, V1, Lib.hid (hA.out.hello_left k n t hk)⟩
        case measure => simp [intOf]; omega
      · have hkb : (k == 2) = false := by simpa using hk
        go_wp2_with fail
        generalize wr.alloc (.cells #[.bool true, .int .i64 k, .int .i64 n, .int .i64 t] 33) = wx at *
        refine (seen_any b k n t wx V0.out.ts V0.out.gs).mono ?_
        rintro e w2 ⟨rfl, hT2⟩
        have V1 := Lib.hid (V0.out.left hT2 (seen_good V0.out.gs k n t))
        obtain ⟨y0, y1, y2, y3⟩ := X0.out.but hT2.2 (Nat.ne_of_gt hbw)
        simp only at y0 y1 y2 y3
        clear hT2
        go_wp2_with fail
        go_roundw
        case rel => exact ⟨j + 1, _, _, by omega, by go_num, V1, Lib.hid (hA.out.seen_left k n t hk)⟩
        case measure => simp [intOf]; omega
    · have hw : r.N = 3 := by rw [← hA.out.ag.n]; exact hA.out.n
      have h1 : ¬ liveOk r 1 look := fun x => by have := x.2.1; rw [show r.E (idx 1) = 0 from hA.out.e0] at this; omega
      have h3 : epochS r 3 = 0 := by unfold epochS; rw [if_pos (by unfold worker; omega)]; exact hA.out.e2
      have ag : Agree s r (idx 2) := hA.out.ag
      have a1 := epoch_any b 2 wr hT.out.ts hT.out.gs
      have a2 := epoch_any c 2 wr hT.out.tr hT.out.gr
      have a3 := life_any b 2 wr hT.out.ts hT.out.gs
      have a4 := life_any c 2 wr hT.out.tr hT.out.gr
      rw [ag.epoch] at a1; rw [ag.life] at a3
      have LV := Lib.hid (ag.live look)
      obtain ⟨x, hx⟩ : ∃ x, epochS r 2 = x := ⟨_, rfl⟩
      obtain ⟨y, hy⟩ : ∃ y, lifeS r 2 = y := ⟨_, rfl⟩
      rw [hx] at a1 a2; rw [hy] at a3 a4
      have A1 := Lib.hid a1; have A2 := Lib.hid a2; have A3 := Lib.hid a3; have A4 := Lib.hid a4
      have x1 : (x == x) = true := by simp
      have y1 : (y == y) = true := by simp
      have H1 := Lib.hid h1; have H3 := Lib.hid h3
      clear a1 a2 a3 a4 hx hy h1 h3 ag hw
      go_wp2_with fail
      refine A1.out.mono ?_
      rintro e w' ⟨rfl, rfl⟩
      go_wp2_with fail
      refine A2.out.mono ?_
      rintro e w' ⟨rfl, rfl⟩
      go_wp2_with fail
      refine A3.out.mono ?_
      rintro e w' ⟨rfl, rfl⟩
      go_wp2_with fail
      refine A4.out.mono ?_
      rintro e w' ⟨rfl, rfl⟩
      go_wp2_with fail
      refine (live_any b 2 look _ hT.out.ts hT.out.gs).mono ?_
      rintro e w2 ⟨rfl, hb2⟩
      rw [LV.out]
      have T2 := Lib.hid (hT.out.more hb2)
      clear hb2
      obtain ⟨z, hz⟩ : ∃ z, decide (liveOk r 2 look) = z := ⟨_, rfl⟩
      rw [hz]
      have z1 : (z == z) = true := by simp
      have HZ := Lib.hid hz
      clear hz
      go_wp2_with fail
      refine (live_lit c 2 look _ T2.out.tr T2.out.gr HZ.out).mono ?_
      rintro e w3 ⟨rfl, hb3⟩
      have T3 := Lib.hid (T2.out.more hb3)
      clear hb3
      go_wp2_with fail
      refine (live_lit c 1 look _ T3.out.tr T3.out.gr (decide_eq_false H1.out)).mono ?_
      rintro e w4 ⟨rfl, hb4⟩
      have T4 := Lib.hid (T3.out.more hb4)
      clear hb4
      go_wp2_with fail
      refine (epoch_any c 3 _ T4.out.tr T4.out.gr).mono ?_
      rintro e w' ⟨rfl, rfl⟩
      rw [H3.out]
      go_wp2_with fail
      refine (awake_any _).mono ?_
      rintro e w' ⟨rfl, hb⟩
      go_wp2_with fail
      go_ret
      exact ⟨rfl, T4.out.bel.trans (hb.mono T4.out.bel.size)⟩
open Go.ChangeShapes Go.WideShapes Go.ChangeAt in
theorem leaseApart_walk {H : Type} {enc : TypeId × Value → H} (W : World) (base : Nat) (v0 v1 : Value) (d0 d1 : DataW H) (p0 p1 : List MemPlace)
    (h0 : DataW.Trod enc Try.prog W 0 (fun _ => true) true 22 v0 d0 p0) (h1 : DataW.Trod enc Try.prog W 0 (fun _ => true) true 3 v1 d1 p1)
    (o0 : Value.okWide Try.prog W .any base 22 v0) (o1 : Value.okWide Try.prog W .any base 3 v1) :
    Calls Try.prog 7 #[v0, v1] W fun e w' => e = .returned (.bool true) ∧ RowKit.Below W.heap.size W w' := by
  obtain ⟨a, n, cap, xs, rfl, hh, k2, _⟩ := open_acts_arg o0 h0
  obtain ⟨t, rfl, rfl, rfl, _⟩ := open_int Try.underlying3 o1 h1
  exact leaseApart_any xs a n cap t W hh (by unfold maxLen at k2; omega)
end Go.Proofs.Ytphcmokcdaiphaa
