/- queue: what a Stop takes away -/
import Derived.Test.YthcfpohgjgbhpaaPkA
import Derived.Test.YthcfpohgjgbhpaaPkB
namespace Go.Proofs.Ythcfpohgjgbhpaa
open Go.RowKit
set_option linter.unusedVariables false
set_option maxRecDepth 20000
def GreatP (n : Nat) (w : World) (e : Ending) (w' : World) : Prop := ∃ z, e = .returned (.bool z) ∧ w = w' ∧ (z = false → n ≤ 100)
set_option maxHeartbeats 1600000 in
theorem great_any (a : Option Addr) (n cap : Nat) (xs : Nat → QAct) (w : World) (h : HoldsQA w a n xs) (hn : n ≤ 9223372036854775807) (hok : ∀ i, i < n → QActOk (xs i)) : Calls Try.prog 8 #[.slice a n cap] w (GreatP n w) := by
  have H := Lib.hid h; have OK := Lib.hid hok
  clear h hok
  by_cases h100 : n ≤ 100
  · have d1 : decide (n ≤ 100) = true := decide_eq_true h100
    have d2 : decide ((n : Int) > 100) = false := by simp; omega
    have d3 : decide (100 < n) = false := by simp; omega
    go_enter Try.func8, Try.ntmps8
    go_wp2_with fail
    go_loop [3] (fun iv => ∃ i : Nat, i ≤ n ∧ iv = .int .i64 i) (fun iv => n - (intOf iv).toNat)
    case atStart => exact ⟨0, by omega, rfl⟩
    case round =>
      obtain ⟨i, hi, rfl⟩ := hrel
      by_cases hlt : i < n
      · obtain ⟨b, o, rfl, hc⟩ := H.out (by omega)
        have ha := hc i hlt
        have hx := OK.out i hlt
        obtain ⟨x, hxx⟩ : ∃ x, xs i = x := ⟨_, rfl⟩
        rw [hxx] at ha hx
        unfold ActIn at ha
        obtain ⟨-, -, -, -, -, -, -, -, a5, -, -, -, -, a10⟩ := ha
        obtain ⟨b1, b2⟩ := hx
        clear hc hxx
        by_cases c1 : 100 < x.a.text.size
        · go_wp2_with fail
          go_ret
          exact ⟨true, rfl, rfl, fun h => by cases h⟩
        · by_cases c2 : 100 < x.a.aw.size
          · go_wp2_with fail
            go_ret
            exact ⟨true, rfl, rfl, fun h => by cases h⟩
          · go_wp2_with fail
            go_round
            case rel => exact ⟨i + 1, by omega, by go_num⟩
            case measure => simp [intOf]; omega
      · go_wp2_with fail
        go_ret
        exact ⟨_, rfl, rfl, fun _ => h100⟩
  · have d1 : decide (n ≤ 100) = false := decide_eq_false h100
    have d2 : decide ((n : Int) > 100) = true := by simp; omega
    have d3 : decide (100 < n) = true := by simp; omega
    go_enter Try.func8, Try.ntmps8
    go_wp2_with fail
    go_loop [3] (fun iv => iv = .int .i64 ((0 : Nat) : Int)) (fun _ => 0)
    case atStart => exact rfl
    case round =>
      obtain rfl := hrel
      go_wp2_with fail
      go_ret
      exact ⟨true, rfl, rfl, fun h => by cases h⟩
theorem new_ask (x : AskP) (w : World) (e : TypeId) (fr : Nat × Nat) : ∀ ad, (some ⟨w.heap.size, 0, none⟩ : Option Addr) = some ad → ∀ j u, ([.int .i64 x.slot, .int .i64 x.query, .int .i64 x.shard, .int .i64 x.seq, .int .i64 x.epoch, .string x.text, .int .i64 x.k, .int .i64 x.batch, .bool x.first, .int .i64 x.ad, .string x.aw] : List Value)[j]? = some u → (w.alloc (.cells #[.int .i64 x.slot, .int .i64 x.query, .int .i64 x.shard, .int .i64 x.seq, .int .i64 x.epoch, .string x.text, .int .i64 x.k, .int .i64 x.batch, .bool x.first, .int .i64 x.ad, .string x.aw] e fr)).cell? (ad.add j) = some u := by
  intro ad h j u hu
  cases h
  rw [Go.WideShapes.add_plain, Nat.zero_add, World.cell?_alloc_mark]
  simpa using hu
theorem one_ask (x : AskP) : ∀ u ∈ ([.int .i64 x.slot, .int .i64 x.query, .int .i64 x.shard, .int .i64 x.seq, .int .i64 x.epoch, .string x.text, .int .i64 x.k, .int .i64 x.batch, .bool x.first, .int .i64 x.ad, .string x.aw] : List Value), u.oneCell' = true := by simp [Value.oneCell']
/-- what the first j acts have pushed -/
def pushN (xs : Nat → QAct) : Nat → List AskP
  | 0 => []
  | j + 1 => Qu.push (pushN xs j) (xs j).a
theorem pushN_good (xs : Nat → QAct) : ∀ j, Qu.Good (pushN xs j)
  | 0 => Qu.good_nil
  | j + 1 => Qu.push_good (pushN_good xs j) _
theorem owns_turn {w w' : World} {base : Nat} {e : TypeId} {size : Nat} {a : Option Addr} {n c : Nat} {xs : List Value} {S : Nat → Prop} (h : w.ownsRow base e size (.slice a n c) n xs) (t : Turn S w w') (hS : ∀ k, S k → k < base) : w'.ownsRow base e size (.slice a n c) n xs :=
  owns_block0 h fun g hg => t.block g (h.lt g (by rw [hg]; rfl)).2 (fun hk => by have := hS g hk; have := (h.lt g (by rw [hg]; rfl)).1; omega)
theorem stop_lit (s q : Int) (r : Int) (L' : List AskP) {b : Nat} {L : List AskP} {S : Nat → Prop} (w : World) (h : QAt w b L S) (hg : Qu.Good L) (hL : Qu.stop L s q = L') (hr : (L.length : Int) - (L'.length : Int) = r) :
    Calls Try.prog 15 #[.pointer (some ⟨b, 0, none⟩), .int .i64 s, .int .i64 q] w fun e w' => e = .returned (.int .i64 r) ∧ ∃ S', QAt w' b L' S' ∧ (∀ k, S' k → S k ∨ w.heap.size ≤ k) ∧ Turn S w w' := by
  subst hL hr
  exact qStop_any b s q w h hg
theorem stop_again (L : List AskP) (s q : Int) : Qu.stop (Qu.stop L s q) s q = Qu.stop L s q := by
  unfold Qu.stop; rw [List.filter_filter]; congr 1; funext x; simp
set_option maxHeartbeats 3200000 in
set_option maxRecDepth 100000 in
theorem queueStops_any (a : Option Addr) (n cap : Nat) (xs : Nat → QAct) (s q : Int) (w : World) (h : HoldsQA w a n xs) (hn : n ≤ 9223372036854775807) (hok : ∀ i, i < n → QActOk (xs i)) :
    Calls Try.prog 7 #[.slice a n cap, .int .i64 s, .int .i64 q] w fun e w' => e = .returned (.bool true) ∧ Below w.heap.size w w' := by
  have H := Lib.hid h
  have CG := Lib.hid (great_any a n cap xs w h hn hok)
  obtain ⟨i0, hi, hz0, hz1, hz2⟩ := info_parts ask_info
  clear h hok
  by_cases h60 : 60 < n
  · have d2 : decide ((n : Int) > 60) = true := by simp; omega
    have d3 : decide (60 < n) = true := by simp; omega
    go_enter Try.func7, Try.ntmps7
    go_wp2_with fail
    refine CG.out.mono ?_
    rintro e w' ⟨z, rfl, rfl, hz⟩
    clear hz
    cases z
    all_goals
      go_wp2_with fail
      refine (awake_any _).mono ?_
      rintro e w' ⟨rfl, hb3⟩
      go_wp2_with fail
      go_ret
      exact ⟨rfl, hb3⟩
  · have d2 : decide ((n : Int) > 60) = false := by simp; omega
    have d3 : decide (60 < n) = false := by simp; omega
    go_enter Try.func7, Try.ntmps7
    go_wp2_with fail
    refine CG.out.mono ?_
    rintro e w' ⟨z, rfl, rfl, hz⟩
    clear hz CG
    cases z
    · go_wp2_with fail
      refine (new_fine _).mono ?_
      rintro e w1 ⟨b, rfl, h1⟩
      have F1 := Lib.hid h1
      clear h1
      go_wp2_with fail
      go_loopw [8] (fun iv wr => ∃ j : Nat, j ≤ n ∧ iv = .int .i64 j ∧ Hid (Fine w wr b (pushN xs j))) (fun iv _ => n - (intOf iv).toNat)
      case atStart => exact ⟨0, by omega, rfl, F1⟩
      case round =>
        obtain ⟨j, hj, rfl, hF⟩ := hrel
        by_cases hlt : j < n
        · obtain ⟨ab, ao, rfl, hc⟩ := (H.out.below hF.out.bel) (by omega)
          have ha := hc j hlt
          obtain ⟨x, hxx⟩ : ∃ x, (xs j).a = x := ⟨_, rfl⟩
          have XX := Lib.hid (show Qu.push (pushN xs j) x = pushN xs (j + 1) from by rw [← hxx]; rfl)
          unfold ActIn at ha
          rw [hxx] at ha
          obtain ⟨-, -, -, a0, a1, a2, a3, a4, a5, a6, a7, a8, a9, a10⟩ := ha
          clear hc hxx
          go_wp2_with fail
          refine (push_fine x _ _ _ hF.out (pushN_good xs j) rfl XX.out).mono ?_
          rintro e w2 ⟨rfl, h2⟩
          have F2 := Lib.hid h2
          clear h2 hF
          go_wp2_with fail
          go_roundw
          case rel => exact ⟨j + 1, by omega, by go_num, F2⟩
          case measure => simp [intOf]; omega
        · obtain rfl : j = n := by omega
          obtain ⟨L, hL⟩ : ∃ L, pushN xs j = L := ⟨_, rfl⟩
          have hg := pushN_good xs j
          rw [hL] at hF hg
          have GL := Lib.hid hg
          have hl24 := Qu.good_len hg
          obtain ⟨r, hr⟩ : ∃ r, L.length = r := ⟨_, rfl⟩
          rw [hr] at hl24
          have HR := Lib.hid hr
          clear hL hg hr hlt
          go_wp2_with fail
          refine (all_fine _ hF.out GL.out).mono ?_
          rintro e w2 ⟨wa, wc, rfl, ho, hb⟩
          have F2 := Lib.hid (hF.out.more hb)
          rw [HR.out] at ho
          have W2 := Lib.hid (HoldsAsk.own ho)
          rw [HR.out]
          clear ho hb hF
          go_wp2_with fail
          go_loopw [10, 11] (fun ov iv wr => ∃ (i : Nat) (K : List AskP) (av : Option Addr) (cv : Nat), i ≤ r ∧ K.length ≤ i ∧ iv = .int .i64 i ∧ ov = .slice av K.length cv ∧ Hid (K = Qu.kept L s q i) ∧ Hid (wr.ownsRow w2.heap.size 34 11 (.slice av K.length cv) K.length (asksV K)) ∧ Hid (Below w2.heap.size w2 wr)) (fun _ iv _ => r - (intOf iv).toNat)
          case atStart => exact ⟨0, [], none, 0, by omega, by simp, rfl, rfl, Lib.hid rfl, Lib.hid (World.ownsRow_nil _ _ _ _), Lib.hid (Below.refl _ _)⟩
          case round =>
            obtain ⟨i, K, av, cv, hi', hKl, rfl, rfl, hK, hO, hB⟩ := hrel
            by_cases hlt : i < r
            · obtain ⟨pb, po, rfl, hc⟩ := (W2.out.below hB.out).at (by omega)
              have hcx := hc i hlt
              have hky := fun h => Qu.kept_yes (L := L) (s := s) (q := q) (j := i) (by rw [HR.out]; exact hlt) h
              have hkn := fun h => Qu.kept_no (L := L) (s := s) (q := q) (j := i) (by rw [HR.out]; exact hlt) h
              obtain ⟨x, hx⟩ : ∃ x, L.getD i ask0 = x := ⟨_, rfl⟩
              rw [hx] at hcx
              simp only [hx] at hky hkn
              have KY := Lib.hid hky; have KN := Lib.hid hkn
              obtain ⟨a0, a1, a2, a3, a4, a5, a6, a7, a8, a9, a10⟩ := hcx
              have x1 : (0 : Int) ≤ (i : Int) := by omega
              have x2 : (i : Int) < (r : Int) := by omega
              have hws := hB.out.size
              clear hc hky hkn hx
              by_cases hkp : Qu.keeps s q x = true
              · have HKP := Lib.hid hkp
                have hcase : (x.slot == s) = false ∨ ((x.slot == s) = true ∧ q < x.query) := by
                  unfold Qu.keeps at hkp
                  by_cases e : x.slot = s
                  · right; refine ⟨by simpa using e, ?_⟩; simp [e] at hkp; omega
                  · left; simpa using e
                clear hkp
                rcases hcase with d1 | ⟨d1, d5⟩
                · have d6 : (x.slot != s) = true := by simpa using d1
                  go_wp2_with (at_builtin; refine wpList_append_any rfl (.tmp 61) (.tmp 66) 28 rfl w2.heap.size 34 i0 _ 11 104 Try.underlying28 hi hz0 hz1 hz2 rfl (by decide) _ K.length _ rfl (hO.out.alloc _) _ 1 1 [.int .i64 x.slot, .int .i64 x.query, .int .i64 x.shard, .int .i64 x.seq, .int .i64 x.epoch, .string x.text, .int .i64 x.k, .int .i64 x.batch, .bool x.first, .int .i64 x.ad, .string x.aw] rfl (some_none _) rfl (new_ask x _ _ _) (one_ask x) (by unfold maxLen; omega) (by omega) (by simp <;> omega) ?_; intro a3 c3 w7 hown3 hb3 hnil3)
                  have O7 := Lib.hid (show w7.ownsRow w2.heap.size 34 11 (.slice a3 (K ++ [x]).length c3) (K ++ [x]).length (asksV (K ++ [x])) from by rw [asksV_snoc, List.length_append]; exact hown3)
                  have K7 := Lib.hid (show K ++ [x] = Qu.kept L s q (i + 1) from by rw [KY.out HKP.out, ← hK.out])
                  have B7 := Lib.hid (hB.out.trans ((((Below.refl _ _).alloc (Nat.le_refl _) _).mono hB.out.size).trans hb3))
                  clear hown3 hb3 hnil3
                  go_roundw
                  case rel => exact ⟨i + 1, K ++ [x], a3, c3, by omega, by simpa using hKl, by go_num, by simp, K7, O7, B7⟩
                  case measure => simp [intOf] <;> omega
                · have d6 : (x.slot != s) = false := by simpa using d1
                  have d7 : decide (x.query > q) = true := by simpa using d5
                  go_wp2_with (at_builtin; refine wpList_append_any rfl (.tmp 61) (.tmp 66) 28 rfl w2.heap.size 34 i0 _ 11 104 Try.underlying28 hi hz0 hz1 hz2 rfl (by decide) _ K.length _ rfl (hO.out.alloc _) _ 1 1 [.int .i64 x.slot, .int .i64 x.query, .int .i64 x.shard, .int .i64 x.seq, .int .i64 x.epoch, .string x.text, .int .i64 x.k, .int .i64 x.batch, .bool x.first, .int .i64 x.ad, .string x.aw] rfl (some_none _) rfl (new_ask x _ _ _) (one_ask x) (by unfold maxLen; omega) (by omega) (by simp <;> omega) ?_; intro a3 c3 w7 hown3 hb3 hnil3)
                  have O7 := Lib.hid (show w7.ownsRow w2.heap.size 34 11 (.slice a3 (K ++ [x]).length c3) (K ++ [x]).length (asksV (K ++ [x])) from by rw [asksV_snoc, List.length_append]; exact hown3)
                  have K7 := Lib.hid (show K ++ [x] = Qu.kept L s q (i + 1) from by rw [KY.out HKP.out, ← hK.out])
                  have B7 := Lib.hid (hB.out.trans ((((Below.refl _ _).alloc (Nat.le_refl _) _).mono hB.out.size).trans hb3))
                  clear hown3 hb3 hnil3
                  go_roundw
                  case rel => exact ⟨i + 1, K ++ [x], a3, c3, by omega, by simpa using hKl, by go_num, by simp, K7, O7, B7⟩
                  case measure => simp [intOf] <;> omega
              · have hkf : Qu.keeps s q x = false := by simpa using hkp
                have HKP := Lib.hid hkf
                have d1 : (x.slot == s) = true ∧ x.query ≤ q := by unfold Qu.keeps at hkf; simpa using hkf
                obtain ⟨d1, d5⟩ := d1
                have d6 : (x.slot != s) = false := by simpa using d1
                have d7 : decide (x.query > q) = false := by simp; omega
                have K7 := Lib.hid (show K = Qu.kept L s q (i + 1) from by rw [KN.out HKP.out]; exact hK.out)
                clear hkp hkf
                go_wp2_with fail
                go_roundw
                case rel => exact ⟨i + 1, K, av, cv, by omega, by omega, by go_num, rfl, K7, hO, hB⟩
                case measure => simp [intOf] <;> omega
            · obtain rfl : i = r := by omega
              have hend := (Qu.mid_end L s q).2
              rw [HR.out] at hend
              have hKe : K = Qu.stop L s q := hK.out.trans hend
              have KE := Lib.hid hKe
              obtain ⟨kl, hkl⟩ : ∃ kl, K.length = kl := ⟨_, rfl⟩
              have O3 := Lib.hid hO.out
              rw [hkl] at O3 hKl
              rw [hkl]
              have KL := Lib.hid hkl
              obtain ⟨S, q2, s2, bb2⟩ := F2.out
              have S2 := Lib.hid s2; have SL := Lib.hid q2.lt
              have Q3 := Lib.hid (q2.below hB.out)
              have B3 := Lib.hid (bb2.trans (hB.out.mono bb2.size))
              have sz2 := Lib.hid hB.out.size
              have ss2 := Lib.hid bb2.size
              have z1 : IntKind.i64.wrap ((i : Int) - (kl : Int)) = (i : Int) - (kl : Int) := IntWalk.i64_in _ (by omega)
              have z2 : ((i : Int) - (kl : Int) == (i : Int) - (kl : Int)) = true := by simp
              have GK := Lib.hid (show Qu.Good K from by rw [KE.out]; exact Qu.filter_good GL.out _)
              have AG := Lib.hid (show Qu.stop K s q = K from by rw [KE.out]; exact stop_again L s q)
              clear hend hKe hkl hO hB hlt F2 hK q2 s2 bb2
              go_wp2_with fail
              refine (stop_lit s q ((i : Int) - (kl : Int)) K _ Q3.out GL.out KE.out.symm (by rw [HR.out, KL.out])).mono ?_
              rintro e w4 ⟨rfl, S', q4, hs4, t4⟩
              have O4 := Lib.hid (owns_turn O3.out t4 SL.out)
              have Q4 := Lib.hid q4
              have B4 := Lib.hid (B3.out.trans (t4.below S2.out B3.out.size))
              have S4 := Lib.hid (show ∀ k, S' k → w.heap.size ≤ k from fun k hk => (hs4 k hk).elim (S2.out k) (fun h => Nat.le_trans B3.out.size h))
              clear q4 hs4 t4 O3 Q3
              go_wp2_with fail
              refine (qAll_any b _ Q4.out GK.out).mono ?_
              rintro e w5 ⟨ya, yc, rfl, ho, hb⟩
              rw [KL.out] at ho
              have Y5 := Lib.hid (HoldsAsk.own ho)
              have Q5 := Lib.hid (Q4.out.below hb)
              have O5 := Lib.hid (owns_below O4.out hb)
              have B5 := Lib.hid (B4.out.trans (hb.mono B4.out.size))
              rw [KL.out]
              clear ho hb Q4 O4
              go_wp2_with fail
              refine (sameAsks_yes _ _ _ _ _ K _ Y5.out (HoldsAsk.own O5.out) (by omega)).mono ?_
              rintro e w6 ⟨rfl, hb⟩
              have Q6 := Lib.hid (Q5.out.below hb)
              have B6 := Lib.hid (B5.out.trans (hb.mono B5.out.size))
              clear hb Q5 O5 Y5
              go_wp2_with fail
              refine (stop_lit s q 0 K _ Q6.out GK.out AG.out (by omega)).mono ?_
              rintro e w7 ⟨rfl, S'', q7, hs7, t7⟩
              have B7 := Lib.hid (B6.out.trans (t7.below S4.out B6.out.size))
              clear q7 hs7 t7
              go_wp2_with fail
              refine (awake_any _).mono ?_
              rintro e w8 ⟨rfl, hb⟩
              have B8 := Lib.hid (B7.out.trans (hb.mono B7.out.size))
              clear hb
              go_wp2_with fail
              go_ret
              exact ⟨rfl, B8.out⟩
    · go_wp2_with fail
      refine (awake_any _).mono ?_
      rintro e w' ⟨rfl, hb3⟩
      go_wp2_with fail
      go_ret
      exact ⟨rfl, hb3⟩
open Go.ChangeShapes Go.WideShapes Go.ChangeAt in
theorem queueStops_walk {H : Type} {enc : TypeId × Value → H} (W : World) (base : Nat) (v0 v1 v2 : Value) (d0 d1 d2 : DataW H) (p0 p1 p2 : List MemPlace)
    (h0 : DataW.Trod enc Try.prog W 0 (fun _ => true) true 22 v0 d0 p0) (h1 : DataW.Trod enc Try.prog W 0 (fun _ => true) true 3 v1 d1 p1) (h2 : DataW.Trod enc Try.prog W 0 (fun _ => true) true 3 v2 d2 p2)
    (o0 : Value.okWide Try.prog W .any base 22 v0) (o1 : Value.okWide Try.prog W .any base 3 v1) (o2 : Value.okWide Try.prog W .any base 3 v2) :
    Calls Try.prog 7 #[v0, v1, v2] W fun e w' => e = .returned (.bool true) ∧ RowKit.Below W.heap.size W w' := by
  obtain ⟨a, n, cap, xs, rfl, hh, hn, hok⟩ := open_qacts_arg o0 h0
  obtain ⟨x1, rfl, rfl, rfl, b1⟩ := open_int Try.underlying3 o1 h1
  obtain ⟨x2, rfl, rfl, rfl, b2⟩ := open_int Try.underlying3 o2 h2
  exact queueStops_any a n cap xs x1 x2 W hh (by unfold maxLen at hn; exact hn) hok
end Go.Proofs.Ythcfpohgjgbhpaa
