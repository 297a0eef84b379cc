/- texts joined -/
import Derived.Test.YthcfpohgjgbhpaaPkA
import Derived.Test.YthcfpohgjgbhpaaPkB
import Derived.Laws.StructEq
import Derived.Deep.DeepCutAuto
/- queue: what a Stop takes away -/
namespace Go.Proofs.Ythcfpohgjgbhpaa
open Go.RowKit
set_option linter.unusedVariables false
set_option maxRecDepth 20000
def GreatP (n : Nat) (w : World) (e : Ending) (w' : World) : Prop := ∃ z, e = .returned (.bool z) ∧ w = w' ∧ (z = false → n ≤ 100)
set_option maxHeartbeats 1600000 in
theorem great_any (a : Option Addr) (n cap : Nat) (xs : Nat → QAct) (w : World) (h : HoldsQA w a n xs) (hn : n ≤ 9223372036854775807) (hok : ∀ i, i < n → QActOk (xs i)) : Calls Try.prog 8 #[.slice a n cap] w (GreatP n w) := by
  have H := Lib.hid h; have OK := Lib.hid hok
  clear h hok
  by_cases h100 : n ≤ 100
  · have d1 : decide (n ≤ 100) = true := decide_eq_true h100
    have d2 : decide ((n : Int) > 100) = false := by simp; omega
    have d3 : decide (100 < n) = false := by simp; omega
    go_enter Try.func8, Try.ntmps8
    go_wp2_with fail
    go_loop [3] (fun iv => ∃ i : Nat, i ≤ n ∧ iv = .int .i64 i) (fun iv => n - (intOf iv).toNat)
    case atStart => exact ⟨0, by omega, rfl⟩
    case round =>
      obtain ⟨i, hi, rfl⟩ := hrel
      by_cases hlt : i < n
      · obtain ⟨b, o, rfl, hc⟩ := H.out (by omega)
        have ha := hc i hlt
        have hx := OK.out i hlt
        obtain ⟨x, hxx⟩ : ∃ x, xs i = x := ⟨_, rfl⟩
        rw [hxx] at ha hx
        unfold ActIn at ha
        obtain ⟨-, -, -, -, -, -, -, -, a5, -, -, -, -, a10⟩ := ha
        obtain ⟨b1, b2⟩ := hx
        clear hc hxx
        by_cases c1 : 100 < x.a.text.size
        · go_wp2_with fail
          go_ret
          exact ⟨true, rfl, rfl, fun h => by cases h⟩
        · by_cases c2 : 100 < x.a.aw.size
          · go_wp2_with fail
            go_ret
            exact ⟨true, rfl, rfl, fun h => by cases h⟩
          · go_wp2_with fail
            go_round
            case rel => exact ⟨i + 1, by omega, by go_num⟩
            case measure => simp [intOf]; omega
      · go_wp2_with fail
        go_ret
        exact ⟨_, rfl, rfl, fun _ => h100⟩
  · have d1 : decide (n ≤ 100) = false := decide_eq_false h100
    have d2 : decide ((n : Int) > 100) = true := by simp; omega
    have d3 : decide (100 < n) = true := by simp; omega
    go_enter Try.func8, Try.ntmps8
    go_wp2_with fail
    go_loop [3] (fun iv => iv = .int .i64 ((0 : Nat) : Int)) (fun _ => 0)
    case atStart => exact rfl
    case round =>
      obtain rfl := hrel
      go_wp2_with fail
      go_ret
      exact ⟨true, rfl, rfl, fun h => by cases h⟩
theorem new_ask (x : AskP) (w : World) (e : TypeId) (fr : Nat × Nat) : ∀ ad, (some ⟨w.heap.size, 0, none⟩ : Option Addr) = some ad → ∀ j u, ([.int .i64 x.slot, .int .i64 x.query, .int .i64 x.shard, .int .i64 x.seq, .int .i64 x.epoch, .string x.text, .int .i64 x.k, .int .i64 x.batch, .bool x.first, .int .i64 x.ad, .string x.aw] : List Value)[j]? = some u → (w.alloc (.cells #[.int .i64 x.slot, .int .i64 x.query, .int .i64 x.shard, .int .i64 x.seq, .int .i64 x.epoch, .string x.text, .int .i64 x.k, .int .i64 x.batch, .bool x.first, .int .i64 x.ad, .string x.aw] e fr)).cell? (ad.add j) = some u := by
  intro ad h j u hu
  cases h
  rw [Go.WideShapes.add_plain, Nat.zero_add, World.cell?_alloc_mark]
  simpa using hu
theorem one_ask (x : AskP) : ∀ u ∈ ([.int .i64 x.slot, .int .i64 x.query, .int .i64 x.shard, .int .i64 x.seq, .int .i64 x.epoch, .string x.text, .int .i64 x.k, .int .i64 x.batch, .bool x.first, .int .i64 x.ad, .string x.aw] : List Value), u.oneCell' = true := by simp [Value.oneCell']
/-- what the first j acts have pushed -/
def pushN (xs : Nat → QAct) : Nat → List AskP
  | 0 => []
  | j + 1 => Qu.push (pushN xs j) (xs j).a
theorem pushN_good (xs : Nat → QAct) : ∀ j, Qu.Good (pushN xs j)
  | 0 => Qu.good_nil
  | j + 1 => Qu.push_good (pushN_good xs j) _
theorem owns_turn {w w' : World} {base : Nat} {e : TypeId} {size : Nat} {a : Option Addr} {n c : Nat} {xs : List Value} {S : Nat → Prop} (h : w.ownsRow base e size (.slice a n c) n xs) (t : Turn S w w') (hS : ∀ k, S k → k < base) : w'.ownsRow base e size (.slice a n c) n xs :=
  owns_block0 h fun g hg => t.block g (h.lt g (by rw [hg]; rfl)).2 (fun hk => by have := hS g hk; have := (h.lt g (by rw [hg]; rfl)).1; omega)
theorem stop_lit (s q : Int) (r : Int) (L' : List AskP) {b : Nat} {L : List AskP} {S : Nat → Prop} (w : World) (h : QAt w b L S) (hg : Qu.Good L) (hL : Qu.stop L s q = L') (hr : (L.length : Int) - (L'.length : Int) = r) :
    Calls Try.prog 15 #[.pointer (some ⟨b, 0, none⟩), .int .i64 s, .int .i64 q] w fun e w' => e = .returned (.int .i64 r) ∧ ∃ S', QAt w' b L' S' ∧ (∀ k, S' k → S k ∨ w.heap.size ≤ k) ∧ Turn S w w' := by
  subst hL hr
  exact qStop_any b s q w h hg
theorem stop_again (L : List AskP) (s q : Int) : Qu.stop (Qu.stop L s q) s q = Qu.stop L s q := by
  unfold Qu.stop; rw [List.filter_filter]; congr 1; funext x; simp
set_option maxHeartbeats 3200000 in
set_option maxRecDepth 100000 in
theorem queueStops_any (a : Option Addr) (n cap : Nat) (xs : Nat → QAct) (s q : Int) (w : World) (h : HoldsQA w a n xs) (hn : n ≤ 9223372036854775807) (hok : ∀ i, i < n → QActOk (xs i)) :
    Calls Try.prog 7 #[.slice a n cap, .int .i64 s, .int .i64 q] w fun e w' => e = .returned (.bool true) ∧ Below w.heap.size w w' := by
  have H := Lib.hid h
  have CG := Lib.hid (great_any a n cap xs w h hn hok)
  obtain ⟨i0, hi, hz0, hz1, hz2⟩ := info_parts ask_info
  clear h hok
  by_cases h60 : 60 < n
  · have d2 : decide ((n : Int) > 60) = true := by simp; omega
    have d3 : decide (60 < n) = true := by simp; omega
    go_enter Try.func7, Try.ntmps7
    go_wp2_with fail
    refine CG.out.mono ?_
    rintro e w' ⟨z, rfl, rfl, hz⟩
    clear hz
    cases z
    all_goals
      go_wp2_with fail
      refine (awake_any _).mono ?_
      rintro e w' ⟨rfl, hb3⟩
      go_wp2_with fail
      go_ret
      exact ⟨rfl, hb3⟩
  · have d2 : decide ((n : Int) > 60) = false := by simp; omega
    have d3 : decide (60 < n) = false := by simp; omega
    go_enter Try.func7, Try.ntmps7
    go_wp2_with fail
    refine CG.out.mono ?_
    rintro e w' ⟨z, rfl, rfl, hz⟩
    clear hz CG
    cases z
    · go_wp2_with fail
      refine (new_fine _).mono ?_
      rintro e w1 ⟨b, rfl, h1⟩
      have F1 := Lib.hid h1
      clear h1
      go_wp2_with fail
      go_loopw [8] (fun iv wr => ∃ j : Nat, j ≤ n ∧ iv = .int .i64 j ∧ Hid (Fine w wr b (pushN xs j))) (fun iv _ => n - (intOf iv).toNat)
      case atStart => exact ⟨0, by omega, rfl, F1⟩
      case round =>
        obtain ⟨j, hj, rfl, hF⟩ := hrel
        by_cases hlt : j < n
        · obtain ⟨ab, ao, rfl, hc⟩ := (H.out.below hF.out.bel) (by omega)
          have ha := hc j hlt
          obtain ⟨x, hxx⟩ : ∃ x, (xs j).a = x := ⟨_, rfl⟩
          have XX := Lib.hid (show Qu.push (pushN xs j) x = pushN xs (j + 1) from by rw [← hxx]; rfl)
          unfold ActIn at ha
          rw [hxx] at ha
          obtain ⟨-, -, -, a0, a1, a2, a3, a4, a5, a6, a7, a8, a9, a10⟩ := ha
          clear hc hxx
          go_wp2_with fail
          refine (push_fine x _ _ _ hF.out (pushN_good xs j) rfl XX.out).mono ?_
          rintro e w2 ⟨rfl, h2⟩
          have F2 := Lib.hid h2
          clear h2 hF
          go_wp2_with fail
          go_roundw
          case rel => exact ⟨j + 1, by omega, by go_num, F2⟩
          case measure => simp [intOf]; omega
        · obtain rfl : j = n := by omega
          obtain ⟨L, hL⟩ : ∃ L, pushN xs j = L := ⟨_, rfl⟩
          have hg := pushN_good xs j
          rw [hL] at hF hg
          have GL := Lib.hid hg
          have hl24 := Qu.good_len hg
          obtain ⟨r, hr⟩ : ∃ r, L.length = r := ⟨_, rfl⟩
          rw [hr] at hl24
          have HR := Lib.hid hr
          clear hL hg hr hlt
          go_wp2_with fail
          refine (all_fine _ hF.out GL.out).mono ?_
          rintro e w2 ⟨wa, wc, rfl, ho, hb⟩
          have F2 := Lib.hid (hF.out.more hb)
          rw [HR.out] at ho
          have W2 := Lib.hid (HoldsAsk.own ho)
          rw [HR.out]
          clear ho hb hF
          go_wp2_with fail
          go_loopw [10, 11] (fun ov iv wr => ∃ (i : Nat) (K : List AskP) (av : Option Addr) (cv : Nat), i ≤ r ∧ K.length ≤ i ∧ iv = .int .i64 i ∧ ov = .slice av K.length cv ∧ Hid (K = Qu.kept L s q i) ∧ Hid (wr.ownsRow w2.heap.size 34 11 (.slice av K.length cv) K.length (asksV K)) ∧ Hid (Below w2.heap.size w2 wr)) (fun _ iv _ => r - (intOf iv).toNat)
          case atStart => exact ⟨0, [], none, 0, by omega, by simp, rfl, rfl, Lib.hid rfl, Lib.hid (World.ownsRow_nil _ _ _ _), Lib.hid (Below.refl _ _)⟩
          case round =>
            obtain ⟨i, K, av, cv, hi', hKl, rfl, rfl, hK, hO, hB⟩ := hrel
            by_cases hlt : i < r
            · obtain ⟨pb, po, rfl, hc⟩ := (W2.out.below hB.out).at (by omega)
              have hcx := hc i hlt
              have hky := fun h => Qu.kept_yes (L := L) (s := s) (q := q) (j := i) (by rw [HR.out]; exact hlt) h
              have hkn := fun h => Qu.kept_no (L := L) (s := s) (q := q) (j := i) (by rw [HR.out]; exact hlt) h
              obtain ⟨x, hx⟩ : ∃ x, L.getD i ask0 = x := ⟨_, rfl⟩
              rw [hx] at hcx
              simp only [hx] at hky hkn
              have KY := Lib.hid hky; have KN := Lib.hid hkn
              obtain ⟨a0, a1, a2, a3, a4, a5, a6, a7, a8, a9, a10⟩ := hcx
              have x1 : (0 : Int) ≤ (i : Int) := by omega
              have x2 : (i : Int) < (r : Int) := by omega
              have hws := hB.out.size
              clear hc hky hkn hx
              by_cases hkp : Qu.keeps s q x = true
              · have HKP := Lib.hid hkp
                have hcase : (x.slot == s) = false ∨ ((x.slot == s) = true ∧ q < x.query) := by
                  unfold Qu.keeps at hkp
                  by_cases e : x.slot = s
                  · right; refine ⟨by simpa using e, ?_⟩; simp [e] at hkp; omega
                  · left; simpa using e
                clear hkp
                rcases hcase with d1 | ⟨d1, d5⟩
                · have d6 : (x.slot != s) = true := by simpa using d1
                  go_wp2_with (at_builtin; refine wpList_append_any rfl (.tmp 61) (.tmp 66) 28 rfl w2.heap.size 34 i0 _ 11 104 Try.underlying28 hi hz0 hz1 hz2 rfl (by decide) _ K.length _ rfl (hO.out.alloc _) _ 1 1 [.int .i64 x.slot, .int .i64 x.query, .int .i64 x.shard, .int .i64 x.seq, .int .i64 x.epoch, .string x.text, .int .i64 x.k, .int .i64 x.batch, .bool x.first, .int .i64 x.ad, .string x.aw] rfl (some_none _) rfl (new_ask x _ _ _) (one_ask x) (by unfold maxLen; omega) (by omega) (by simp <;> omega) ?_; intro a3 c3 w7 hown3 hb3 hnil3)
                  have O7 := Lib.hid (show w7.ownsRow w2.heap.size 34 11 (.slice a3 (K ++ [x]).length c3) (K ++ [x]).length (asksV (K ++ [x])) from by rw [asksV_snoc, List.length_append]; exact hown3)
                  have K7 := Lib.hid (show K ++ [x] = Qu.kept L s q (i + 1) from by rw [KY.out HKP.out, ← hK.out])
                  have B7 := Lib.hid (hB.out.trans ((((Below.refl _ _).alloc (Nat.le_refl _) _).mono hB.out.size).trans hb3))
                  clear hown3 hb3 hnil3
                  go_roundw
                  case rel => exact ⟨i + 1, K ++ [x], a3, c3, by omega, by simpa using hKl, by go_num, by simp, K7, O7, B7⟩
                  case measure => simp [intOf] <;> omega
                · have d6 : (x.slot != s) = false := by simpa using d1
                  have d7 : decide (x.query > q) = true := by simpa using d5
                  go_wp2_with (at_builtin; refine wpList_append_any rfl (.tmp 61) (.tmp 66) 28 rfl w2.heap.size 34 i0 _ 11 104 Try.underlying28 hi hz0 hz1 hz2 rfl (by decide) _ K.length _ rfl (hO.out.alloc _) _ 1 1 [.int .i64 x.slot, .int .i64 x.query, .int .i64 x.shard, .int .i64 x.seq, .int .i64 x.epoch, .string x.text, .int .i64 x.k, .int .i64 x.batch, .bool x.first, .int .i64 x.ad, .string x.aw] rfl (some_none _) rfl (new_ask x _ _ _) (one_ask x) (by unfold maxLen; omega) (by omega) (by simp <;> omega) ?_; intro a3 c3 w7 hown3 hb3 hnil3)
                  have O7 := Lib.hid (show w7.ownsRow w2.heap.size 34 11 (.slice a3 (K ++ [x]).length c3) (K ++ [x]).length (asksV (K ++ [x])) from by rw [asksV_snoc, List.length_append]; exact hown3)
                  have K7 := Lib.hid (show K ++ [x] = Qu.kept L s q (i + 1) from by rw [KY.out HKP.out, ← hK.out])
                  have B7 := Lib.hid (hB.out.trans ((((Below.refl _ _).alloc (Nat.le_refl _) _).mono hB.out.size).trans hb3))
                  clear hown3 hb3 hnil3
                  go_roundw
                  case rel => exact ⟨i + 1, K ++ [x], a3, c3, by omega, by simpa using hKl, by go_num, by simp, K7, O7, B7⟩
                  case measure => simp [intOf] <;> omega
              · have hkf : Qu.keeps s q x = false := by simpa using hkp
                have HKP := Lib.hid hkf
                have d1 : (x.slot == s) = true ∧ x.query ≤ q := by unfold Qu.keeps at hkf; simpa using hkf
                obtain ⟨d1, d5⟩ := d1
                have d6 : (x.slot != s) = false := by simpa using d1
                have d7 : decide (x.query > q) = false := by simp; omega
                have K7 := Lib.hid (show K = Qu.kept L s q (i + 1) from by rw [KN.out HKP.out]; exact hK.out)
                clear hkp hkf
                go_wp2_with fail
                go_roundw
                case rel => exact ⟨i + 1, K, av, cv, by omega, by omega, by go_num, rfl, K7, hO, hB⟩
                case measure => simp [intOf] <;> omega
            · obtain rfl : i = r := by omega
              have hend := (Qu.mid_end L s q).2
              rw [HR.out] at hend
              have hKe : K = Qu.stop L s q := hK.out.trans hend
              have KE := Lib.hid hKe
              obtain ⟨kl, hkl⟩ : ∃ kl, K.length = kl := ⟨_, rfl⟩
              have O3 := Lib.hid hO.out
              rw [hkl] at O3 hKl
              rw [hkl]
              have KL := Lib.hid hkl
              obtain ⟨S, q2, s2, bb2⟩ := F2.out
              have S2 := Lib.hid s2; have SL := Lib.hid q2.lt
              have Q3 := Lib.hid (q2.below hB.out)
              have B3 := Lib.hid (bb2.trans (hB.out.mono bb2.size))
              have sz2 := Lib.hid hB.out.size
              have ss2 := Lib.hid bb2.size
              have z1 : IntKind.i64.wrap ((i : Int) - (kl : Int)) = (i : Int) - (kl : Int) := IntWalk.i64_in _ (by omega)
              have z2 : ((i : Int) - (kl : Int) == (i : Int) - (kl : Int)) = true := by simp
              have GK := Lib.hid (show Qu.Good K from by rw [KE.out]; exact Qu.filter_good GL.out _)
              have AG := Lib.hid (show Qu.stop K s q = K from by rw [KE.out]; exact stop_again L s q)
              clear hend hKe hkl hO hB hlt F2 hK q2 s2 bb2
              go_wp2_with fail
              refine (stop_lit s q ((i : Int) - (kl : Int)) K _ Q3.out GL.out KE.out.symm (by rw [HR.out, KL.out])).mono ?_
              rintro e w4 ⟨rfl, S', q4, hs4, t4⟩
              have O4 := Lib.hid (owns_turn O3.out t4 SL.out)
              have Q4 := Lib.hid q4
              have B4 := Lib.hid (B3.out.trans (t4.below S2.out B3.out.size))
              have S4 := Lib.hid (show ∀ k, S' k → w.heap.size ≤ k from fun k hk => (hs4 k hk).elim (S2.out k) (fun h => Nat.le_trans B3.out.size h))
              clear q4 hs4 t4 O3 Q3
              go_wp2_with fail
              refine (qAll_any b _ Q4.out GK.out).mono ?_
              rintro e w5 ⟨ya, yc, rfl, ho, hb⟩
              rw [KL.out] at ho
              have Y5 := Lib.hid (HoldsAsk.own ho)
              have Q5 := Lib.hid (Q4.out.below hb)
              have O5 := Lib.hid (owns_below O4.out hb)
              have B5 := Lib.hid (B4.out.trans (hb.mono B4.out.size))
              rw [KL.out]
              clear ho hb Q4 O4
              go_wp2_with fail
              refine (sameAsks_yes _ _ _ _ _ K _ Y5.out (HoldsAsk.own O5.out) (by omega)).mono ?_
              rintro e w6 ⟨rfl, hb⟩
              have Q6 := Lib.hid (Q5.out.below hb)
              have B6 := Lib.hid (B5.out.trans (hb.mono B5.out.size))
              clear hb Q5 O5 Y5
              go_wp2_with fail
              refine (stop_lit s q 0 K _ Q6.out GK.out AG.out (by omega)).mono ?_
              rintro e w7 ⟨rfl, S'', q7, hs7, t7⟩
              have B7 := Lib.hid (B6.out.trans (t7.below S4.out B6.out.size))
              clear q7 hs7 t7
              go_wp2_with fail
              refine (awake_any _).mono ?_
              rintro e w8 ⟨rfl, hb⟩
              have B8 := Lib.hid (B7.out.trans (hb.mono B7.out.size))
              clear hb
              go_wp2_with fail
              go_ret
              exact ⟨rfl, B8.out⟩
    · go_wp2_with fail
      refine (awake_any _).mono ?_
      rintro e w' ⟨rfl, hb3⟩
      go_wp2_with fail
      go_ret
      exact ⟨rfl, hb3⟩
open Go.ChangeShapes Go.WideShapes Go.ChangeAt in
theorem queueStops_walk {H : Type} {enc : TypeId × Value → H} (W : World) (base : Nat) (v0 v1 v2 : Value) (d0 d1 d2 : DataW H) (p0 p1 p2 : List MemPlace)
    (h0 : DataW.Trod enc Try.prog W 0 (fun _ => true) true 22 v0 d0 p0) (h1 : DataW.Trod enc Try.prog W 0 (fun _ => true) true 3 v1 d1 p1) (h2 : DataW.Trod enc Try.prog W 0 (fun _ => true) true 3 v2 d2 p2)
    (o0 : Value.okWide Try.prog W .any base 22 v0) (o1 : Value.okWide Try.prog W .any base 3 v1) (o2 : Value.okWide Try.prog W .any base 3 v2) :
    Calls Try.prog 7 #[v0, v1, v2] W fun e w' => e = .returned (.bool true) ∧ RowKit.Below W.heap.size W w' := by
  obtain ⟨a, n, cap, xs, rfl, hh, hn, hok⟩ := open_qacts_arg o0 h0
  obtain ⟨x1, rfl, rfl, rfl, b1⟩ := open_int Try.underlying3 o1 h1
  obtain ⟨x2, rfl, rfl, rfl, b2⟩ := open_int Try.underlying3 o2 h2
  exact queueStops_any a n cap xs x1 x2 W hh (by unfold maxLen at hn; exact hn) hok
end Go.Proofs.Ythcfpohgjgbhpaa
/- queue: the document's queue in memory; its Push -/
namespace Go.Proofs.Ythcfpohgjgbhpaa
open Go.RowKit
set_option linter.unusedVariables false
set_option maxRecDepth 20000
/-- block b is the document's queue that holds L; its blocks lie in S -/
def RAt (w : World) (b : Nat) (L : List AskP) (S : Nat → Prop) : Prop :=
  ∃ a c, w.cell? ⟨b, 0, none⟩ = some (.slice a L.length c) ∧ (∀ i, w.frozen? ⟨b, i, none⟩ = false) ∧ w.ownsRow 0 34 11 (.slice a L.length c) L.length (asksV L) ∧ S b ∧ (∀ g, a = some ⟨g, 0, none⟩ → S g ∧ g ≠ b) ∧ ∀ k, S k → k < w.heap.size
theorem RAt.blocks {w w' : World} {b : Nat} {L : List AskP} {S : Nat → Prop} (h : RAt w b L S) (hs : w.heap.size ≤ w'.heap.size) (hb : ∀ k, S k → w'.heap[k]? = w.heap[k]?) : RAt w' b L S := by
  obtain ⟨a, c, h1, h3, h4, h7, h9, h10⟩ := h
  have eb := hb b h7
  exact ⟨a, c, (World.cell?_of_block (w := w) eb).trans h1, fun i => (World.frozen?_of_block (w := w) eb).trans (h3 i), owns_block0 h4 (fun g hg => hb g (h9 g hg).1), h7, h9, fun k hk => Nat.lt_of_lt_of_le (h10 k hk) hs⟩
theorem RAt.lt {w : World} {b : Nat} {L : List AskP} {S : Nat → Prop} (h : RAt w b L S) : ∀ k, S k → k < w.heap.size := by obtain ⟨a, c, h1, h3, h4, h7, h9, h10⟩ := h; exact h10
theorem RAt.has {w : World} {b : Nat} {L : List AskP} {S : Nat → Prop} (h : RAt w b L S) : S b := by obtain ⟨a, c, h1, h3, h4, h7, h9, h10⟩ := h; exact h7
theorem RAt.turn {w w' : World} {b : Nat} {L : List AskP} {S F : Nat → Prop} (h : RAt w b L S) (t : Turn F w w') (hF : ∀ k, S k → ¬ F k) : RAt w' b L S :=
  h.blocks t.size fun k hk => t.block k (h.lt k hk) (hF k hk)
theorem RAt.below {w w' : World} {b : Nat} {L : List AskP} {S : Nat → Prop} (h : RAt w b L S) (t : Below w.heap.size w w') : RAt w' b L S :=
  h.blocks t.size fun k hk => t.block k (h.lt k hk)
/-- the list laid anew -/
theorem RAt.renew {w w3 : World} {b : Nat} {L L' : List AskP} {S : Nat → Prop} {a : Option Addr} {c : Nat} (h : RAt w b L S) (hb : Below w.heap.size w w3) (ho : w3.ownsRow w.heap.size 34 11 (.slice a L'.length c) L'.length (asksV L')) :
    (∃ S', RAt (w3.setCell ⟨b, 0, none⟩ (.slice a L'.length c)) b L' S' ∧ (∀ k, S' k → S k ∨ w.heap.size ≤ k)) ∧ Turn S w (w3.setCell ⟨b, 0, none⟩ (.slice a L'.length c)) := by
  obtain ⟨a0, c0, h1, h3, h4, h7, h9, h10⟩ := h
  have hlt := h10 b h7
  have cb : ∀ i, w3.cell? ⟨b, i, none⟩ = w.cell? ⟨b, i, none⟩ := fun i => hb.cell (p := ⟨b, i, none⟩) hlt
  have hg : ∀ g, a = some ⟨g, 0, none⟩ → w.heap.size ≤ g ∧ g < w3.heap.size := fun g e => ho.lt g (by rw [e]; rfl)
  have hz := hb.size
  refine ⟨⟨fun k => S k ∨ (w.heap.size ≤ k ∧ k < w3.heap.size), ⟨a, c, cset_at ((cb 0).trans h1), fun i => ?_, owns_block0 (owns_zero ho) (fun g e => Below.heap_setCell _ _ _ _ (by have := (hg g e).1; show ¬ g = b; omega)), Or.inl h7, fun g e => ⟨Or.inr (hg g e), by have := (hg g e).1; omega⟩, fun k hk => ?_⟩, fun k hk => hk.imp id (fun x => x.1)⟩, (Turn.of_below hb).trans (Turn.setCell h7)⟩
  · rw [fset_any]
    exact (hb.frozen (p := ⟨b, i, none⟩) hlt).trans (h3 i)
  · rw [show (w3.setCell ⟨b, 0, none⟩ (.slice a L'.length c)).heap.size = w3.heap.size by simp [World.setCell]]
    rcases hk with hk | hk
    · have := h10 k hk; omega
    · exact hk.2
theorem ow_set : ∀ (L : List AskP) (k : Nat) (x : AskP), k < L.length → ow (asksV L) (k * 11) (cellsAsk x) = asksV (L.set k x)
  | [], k, x, h => by simp at h
  | y :: l, 0, x, _ => by simp [ow, asksV, cellsAsk]
  | y :: l, k + 1, x, h => by
    have ih := ow_set l k x (by simpa using h)
    have e : asksV (y :: l) = cellsAsk y ++ asksV l := rfl
    have e2 : asksV ((y :: l).set (k + 1) x) = cellsAsk y ++ asksV (l.set k x) := rfl
    have n1 : (k + 1) * 11 = (cellsAsk y).length + k * 11 := by simp [cellsAsk]; omega
    have n2 : (k + 1) * 11 + (cellsAsk x).length = (cellsAsk y).length + (k * 11 + (cellsAsk x).length) := by omega
    rw [e, e2, ← ih]
    unfold ow
    rw [n2, n1, List.take_length_add_append, List.drop_length_add_append]
    simp
theorem ask_stored {w : World} {g n c base : Nat} {e : TypeId} {L : List AskP} (x : AskP) (k : Nat) (h : w.ownsRow base e 11 (.slice (some ⟨g, 0, none⟩) n c) n (asksV L)) (hn : n = L.length) (hk : k < n) :
    ((((((((((((w.setCell ⟨g, k * 11, none⟩ (.int .i64 x.slot)).setCell ⟨g, k * 11 + 1, none⟩ (.int .i64 x.query)).setCell ⟨g, k * 11 + 2, none⟩ (.int .i64 x.shard)).setCell ⟨g, k * 11 + 3, none⟩ (.int .i64 x.seq)).setCell ⟨g, k * 11 + 4, none⟩ (.int .i64 x.epoch)).setCell ⟨g, k * 11 + 5, none⟩ (.string x.text)).setCell ⟨g, k * 11 + 6, none⟩ (.int .i64 x.k)).setCell ⟨g, k * 11 + 7, none⟩ (.int .i64 x.batch)).setCell ⟨g, k * 11 + 8, none⟩ (.bool x.first)).setCell ⟨g, k * 11 + 9, none⟩ (.int .i64 x.ad)).setCell ⟨g, k * 11 + 10, none⟩ (.string x.aw))).ownsRow base e 11 (.slice (some ⟨g, 0, none⟩) n c) n (asksV (L.set k x)) ∧ w.grownBy ((((((((((((w.setCell ⟨g, k * 11, none⟩ (.int .i64 x.slot)).setCell ⟨g, k * 11 + 1, none⟩ (.int .i64 x.query)).setCell ⟨g, k * 11 + 2, none⟩ (.int .i64 x.shard)).setCell ⟨g, k * 11 + 3, none⟩ (.int .i64 x.seq)).setCell ⟨g, k * 11 + 4, none⟩ (.int .i64 x.epoch)).setCell ⟨g, k * 11 + 5, none⟩ (.string x.text)).setCell ⟨g, k * 11 + 6, none⟩ (.int .i64 x.k)).setCell ⟨g, k * 11 + 7, none⟩ (.int .i64 x.batch)).setCell ⟨g, k * 11 + 8, none⟩ (.bool x.first)).setCell ⟨g, k * 11 + 9, none⟩ (.int .i64 x.ad)).setCell ⟨g, k * 11 + 10, none⟩ (.string x.aw))) (some g) := by
  have hs := owns_setCells (cellsAsk x) (k * 11) w (asksV L) h (by show k * 11 + 11 ≤ n * 11; omega)
  rw [ow_set L k x (by omega)] at hs
  exact hs
namespace Qu
theorem put_set {L : List AskP} (hg : Good L) {a : AskP} {k : Nat} (hk : k < L.length) (hs : same (L.getD k ask0) a.slot a.shard) : put L a = L.set k a := by
  have hp := hg.apart
  rw [List.pairwise_iff_getElem] at hp
  have e0 : L.getD k ask0 = L[k] := by rw [List.getD_eq_getElem?_getD, List.getElem?_eq_getElem hk]; rfl
  rw [e0] at hs
  apply List.ext_getElem (by simp [put])
  intro i h1 h2
  have hi : i < L.length := by simpa using h2
  rw [List.getElem_set, show (put L a)[i]'h1 = (if same (L[i]'hi) a.slot a.shard then a else L[i]'hi) from by simp [put]]
  by_cases e : k = i
  · subst e; rw [if_pos hs, if_pos rfl]
  · rw [if_neg e, if_neg]
    intro h
    rcases Nat.lt_or_gt_of_ne e with x | x
    · exact hp k i hk hi x ⟨hs.1.trans h.1.symm, hs.2.trans h.2.symm⟩
    · exact hp i k hi hk x ⟨h.1.trans hs.1.symm, h.2.trans hs.2.symm⟩
theorem find_here {L : List AskP} (hg : Good L) {a : AskP} {k : Nat} (hk : k < L.length) (hs : same (L.getD k ask0) a.slot a.shard) : find L a.slot a.shard = some (L.getD k ask0) := by
  have := find_at hg hk
  rwa [hs.1, hs.2] at this
theorem find_nowhere {L : List AskP} {a : AskP} (h : ∀ j, j < L.length → ¬ same (L.getD j ask0) a.slot a.shard) : find L a.slot a.shard = none := by
  rw [find_none]
  intro x hx
  obtain ⟨j, hj, rfl⟩ := List.getElem_of_mem hx
  have := h j hj
  rwa [List.getD_eq_getElem?_getD, List.getElem?_eq_getElem hj] at this
end Qu
def RPushP (w : World) (b : Nat) (L : List AskP) (S : Nat → Prop) (a : AskP) (e : Ending) (w' : World) : Prop :=
  e = .returned (.bool (Qu.pushed L a)) ∧ ∃ S', RAt w' b (Qu.push L a) S' ∧ (∀ k, S' k → S k ∨ w.heap.size ≤ k) ∧ Turn S w w'
theorem rpush_no {w w' : World} {b : Nat} {L : List AskP} {S : Nat → Prop} {a : AskP} (h : RAt w b L S) (hp : Qu.pushed L a = false) (hb : Below w.heap.size w w') : RPushP w b L S a (.returned (.bool false)) w' := by
  refine ⟨by rw [hp], S, ?_, fun k hk => Or.inl hk, Turn.of_below hb⟩
  unfold Qu.push
  rw [hp, if_neg (by decide)]
  exact h.below hb
theorem rpush_yes {w w3 : World} {b : Nat} {L L' : List AskP} {S : Nat → Prop} {a : AskP} {g : Option Addr} {n c : Nat} (h : RAt w b L S) (hp : Qu.pushed L a = true) (hL : Qu.push L a = L') (hn : n = L'.length) (hb : Below w.heap.size w w3) (ho : w3.ownsRow w.heap.size 34 11 (.slice g n c) n (asksV L')) : RPushP w b L S a (.returned (.bool true)) (w3.setCell ⟨b, 0, none⟩ (.slice g n c)) := by
  subst hn
  obtain ⟨⟨S', r, s⟩, t⟩ := h.renew hb ho
  exact ⟨by rw [hp], S', by rw [hL]; exact r, s, t⟩
theorem rpush_out (a : AskP) (b : Nat) {L : List AskP} {S : Nat → Prop} (w : World) (h : RAt w b L S) (hm : ¬ Qu.may a) :
    Calls Try.prog 12 #[.pointer (some ⟨b, 0, none⟩), .agg #[.int .i64 a.slot, .int .i64 a.query, .int .i64 a.shard, .int .i64 a.seq, .int .i64 a.epoch, .string a.text, .int .i64 a.k, .int .i64 a.batch, .bool a.first, .int .i64 a.ad, .string a.aw]] w (RPushP w b L S a) := by
  have HP := Lib.hid (rpush_no h (show Qu.pushed L a = false by unfold Qu.pushed; rw [decide_eq_false hm]; rfl) (below_one w (.cells #[.int .i64 a.slot, .int .i64 a.query, .int .i64 a.shard, .int .i64 a.seq, .int .i64 a.epoch, .string a.text, .int .i64 a.k, .int .i64 a.batch, .bool a.first, .int .i64 a.ad, .string a.aw] 34)))
  by_cases h1 : a.slot < 0
  · have d1 : decide (a.slot < 0) = true := decide_eq_true h1
    clear h hm h1
    go_enter Try.func12, Try.ntmps12
    go_wp2_with fail
    go_ret
    exact HP.out
  · have d1 : decide (a.slot < 0) = false := decide_eq_false h1
    by_cases h2 : 3 < a.slot
    · have d2 : decide (3 < a.slot) = true := decide_eq_true h2
      clear h hm h1 h2
      go_enter Try.func12, Try.ntmps12
      go_wp2_with fail
      go_ret
      exact HP.out
    · have d2 : decide (3 < a.slot) = false := decide_eq_false h2
      by_cases h3 : a.shard < 0
      · have d3 : decide (a.shard < 0) = true := decide_eq_true h3
        clear h hm h1 h2 h3
        go_enter Try.func12, Try.ntmps12
        go_wp2_with fail
        go_ret
        exact HP.out
      · have d3 : decide (a.shard < 0) = false := decide_eq_false h3
        have d4 : decide (5 < a.shard) = true := decide_eq_true (by unfold Qu.may at hm; omega)
        clear h hm h1 h2 h3
        go_enter Try.func12, Try.ntmps12
        go_wp2_with fail
        go_ret
        exact HP.out
end Go.Proofs.Ythcfpohgjgbhpaa
/- queue: the document's Push -/
namespace Go.Proofs.Ythcfpohgjgbhpaa
open Go.RowKit
set_option linter.unusedVariables false
set_option maxRecDepth 20000
set_option maxHeartbeats 3200000 in
set_option maxRecDepth 100000 in
theorem rpush_may (a : AskP) (b : Nat) {L : List AskP} {S : Nat → Prop} (w : World) (h : RAt w b L S) (hg : Qu.Good L) (hm : Qu.may a) :
    Calls Try.prog 12 #[.pointer (some ⟨b, 0, none⟩), .agg #[.int .i64 a.slot, .int .i64 a.query, .int .i64 a.shard, .int .i64 a.seq, .int .i64 a.epoch, .string a.text, .int .i64 a.k, .int .i64 a.batch, .bool a.first, .int .i64 a.ad, .string a.aw]] w (RPushP w b L S a) := by
  obtain ⟨i0, hi, hz0, hz1, hz2⟩ := info_parts ask_info
  have hl24 := Qu.good_len hg
  have GL := Lib.hid hg
  have H := Lib.hid h
  have hm2 := hm
  unfold Qu.may at hm2
  have d1 : decide (a.slot < 0) = false := decide_eq_false (by omega)
  have d2 : decide (3 < a.slot) = false := decide_eq_false (by omega)
  have d3 : decide (a.shard < 0) = false := decide_eq_false (by omega)
  have d4 : decide (5 < a.shard) = false := decide_eq_false (by omega)
  have PY := Lib.hid (fun (x : AskP) (hf : Qu.find L a.slot a.shard = some x) (hn : ¬ Qu.newer x a) => (show Qu.pushed L a = true from by unfold Qu.pushed; rw [decide_eq_true hm, hf]; simp [hn]))
  have PN := Lib.hid (fun (x : AskP) (hf : Qu.find L a.slot a.shard = some x) (hn : Qu.newer x a) => (show Qu.pushed L a = false from by unfold Qu.pushed; rw [hf]; simp [hn]))
  have PZ := Lib.hid (fun (hf : Qu.find L a.slot a.shard = none) => (show Qu.pushed L a = true from by unfold Qu.pushed; rw [decide_eq_true hm, hf]; rfl))
  have LY := Lib.hid (fun (x : AskP) (hf : Qu.find L a.slot a.shard = some x) (hp : Qu.pushed L a = true) => (show Qu.push L a = Qu.put L a from by unfold Qu.push; rw [if_pos hp, hf]))
  have LZ := Lib.hid (fun (hf : Qu.find L a.slot a.shard = none) (hp : Qu.pushed L a = true) => (show Qu.push L a = L ++ [a] from by unfold Qu.push; rw [if_pos hp, hf]))
  obtain ⟨n, hn⟩ : ∃ n, L.length = n := ⟨_, rfl⟩
  have HN := Lib.hid hn
  have A0 := Lib.hid (askIn_new w a w.heap.size 34 (0, 0) rfl)
  have B0 := Lib.hid (below_one w (.cells #[.int .i64 a.slot, .int .i64 a.query, .int .i64 a.shard, .int .i64 a.seq, .int .i64 a.epoch, .string a.text, .int .i64 a.k, .int .i64 a.batch, .bool a.first, .int .i64 a.ad, .string a.aw] 34))
  have hz : (w.alloc (.cells #[.int .i64 a.slot, .int .i64 a.query, .int .i64 a.shard, .int .i64 a.seq, .int .i64 a.epoch, .string a.text, .int .i64 a.k, .int .i64 a.batch, .bool a.first, .int .i64 a.ad, .string a.aw] 34)).heap.size = w.heap.size + 1 := by simp
  obtain ⟨ao, co, k0, fr, hown, hSb, hSg, hSl⟩ := h
  rw [hn] at k0 hown hl24
  have lb := hSl b hSb
  have NIL := Lib.hid (show ao = none → n = 0 ∧ co = 0 from fun e => by
    rcases Joins.ownsRow_forms hown with ⟨e1, e2⟩ | ⟨g, cap, e1⟩
    · injection e1 with e3 e4 e5; exact ⟨e2, e5⟩
    · rw [e] at e1; injection e1 with e3; cases e3)
  have AL := Lib.hid (show (asksV L).length = n * 11 from by rw [asksV_len, hn])
  have W0 := Lib.hid ((HoldsAsk.own hown).below B0.out)
  have K0 := Lib.hid (((below_one w (.cells #[.int .i64 a.slot, .int .i64 a.query, .int .i64 a.shard, .int .i64 a.seq, .int .i64 a.epoch, .string a.text, .int .i64 a.k, .int .i64 a.batch, .bool a.first, .int .i64 a.ad, .string a.aw] 34)).cell (p := ⟨b, 0, none⟩) lb).trans k0)
  have FR := Lib.hid (((below_one w (.cells #[.int .i64 a.slot, .int .i64 a.query, .int .i64 a.shard, .int .i64 a.seq, .int .i64 a.epoch, .string a.text, .int .i64 a.k, .int .i64 a.batch, .bool a.first, .int .i64 a.ad, .string a.aw] 34)).frozen (p := ⟨b, 0, none⟩) lb).trans (fr 0))
  clear hg hm hm2 hn hown hSb hSg hSl fr
  go_enter Try.func12, Try.ntmps12
  go_upto_region 3 with fail
  obtain ⟨p, hp⟩ : ∃ p, w.heap.size = p := ⟨_, rfl⟩
  have HP := Lib.hid hp
  rw [hp] at A0 hz
  rw [hp]
  generalize w.alloc (.cells #[.int .i64 a.slot, .int .i64 a.query, .int .i64 a.shard, .int .i64 a.seq, .int .i64 a.epoch, .string a.text, .int .i64 a.k, .int .i64 a.batch, .bool a.first, .int .i64 a.ad, .string a.aw] 34) = w0 at *
  have k1 := K0.out
  clear hp k0
  go_upto_region 4 with (at_builtin; refine wpList_append_any rfl (.const (.slice none 0 0)) (.tmp 29) 28 rfl w0.heap.size 34 i0 _ 11 104 Try.underlying28 hi hz0 hz1 hz2 rfl (by decide) _ 0 [] rfl (World.ownsRow_nil _ _ _ _) ao n co (asksV L) rfl NIL.out AL.out (HoldsAsk.cellsAt W0.out) (asksV_one _) (by unfold maxLen; omega) (by omega) (by simp) ?_; intro a3 c3 w1 hown1 hb1 hnil1)
  rw [Nat.zero_add, List.nil_append] at hown1
  rw [Nat.zero_add] at hnil1
  have O1 := Lib.hid hown1
  have B1 := Lib.hid hb1
  have A1 := Lib.hid (A0.out.below hb1)
  have BW1 := Lib.hid (B0.out.trans (hb1.mono B0.out.size))
  have hs1 := hb1.size
  have lb0 : b < w0.heap.size := by rw [hz]; have := HP.out; omega
  have K1 := Lib.hid ((hb1.cell (p := ⟨b, 0, none⟩) lb0).trans K0.out)
  have FR1 := Lib.hid ((hb1.frozen (p := ⟨b, 0, none⟩) lb0).trans FR.out)
  have lb1 : b < w1.heap.size := by omega
  clear k1 hown1 hb1 hnil1 W0 A0 K0 FR NIL AL
  go_wp2_with fail
  go_loopw [6] (fun iv wr => ∃ k : Nat, k ≤ n ∧ iv = .int .i64 k ∧ Hid (∀ j, j < k → ¬ Qu.same (L.getD j ask0) a.slot a.shard) ∧ Hid (Below w1.heap.size w1 wr)) (fun iv _ => n - (intOf iv).toNat)
  case atStart => exact ⟨0, by omega, rfl, Lib.hid (fun j hj => by omega), Lib.hid (Below.refl _ _)⟩
  case round =>
    obtain ⟨k, hk, rfl, hno, hB⟩ := hrel
    by_cases hlk : k < n
    · obtain ⟨g3, rfl⟩ : ∃ g, a3 = some ⟨g, 0, none⟩ := by
        obtain ⟨g, cap', hv⟩ := Joins.ownsRow_form O1.out (by omega)
        simp only [Value.slice.injEq] at hv
        exact ⟨g, hv.1⟩
      have OZ := Lib.hid (owns_below O1.out hB.out)
      obtain ⟨xb, xo, hxe, hc⟩ := (HoldsAsk.own OZ.out).at (by omega)
      injection hxe with hxe; injection hxe with e1 e2; subst e1 e2
      have hx' := hc k hlk
      simp only [Nat.zero_add] at hx'
      have hkL : k < L.length := by rw [HN.out]; exact hlk
      have hsame : Hid (∀ y, L.getD k ask0 = y → Qu.same y a.slot a.shard → Qu.find L a.slot a.shard = some y ∧ Qu.put L a = L.set k a) := Lib.hid (fun y e hs => by subst e; exact ⟨Qu.find_here GL.out hkL hs, Qu.put_set GL.out hkL hs⟩)
      obtain ⟨x, hx⟩ : ∃ x, L.getD k ask0 = x := ⟨_, rfl⟩
      have HX := Lib.hid hx
      rw [hx] at hx'
      obtain ⟨x0, x1, x2, x3, x4, x5, x6, x7, x8, x9, x10⟩ := hx'
      have AZ := Lib.hid (A1.out.below hB.out)
      have hA := AZ.out
      unfold AskIn at hA
      obtain ⟨a0, a1, a2, a3, a4, a5, a6, a7, a8, a9, a10⟩ := hA
      have lz := hB.out.size
      have i1 : (0 : Int) ≤ (k : Int) := by omega
      have i2 : (k : Int) < (n : Int) := by omega
      have BY := Lib.hid (below_one wr (.cells #[.int .i64 x.slot, .int .i64 x.query, .int .i64 x.shard, .int .i64 x.seq, .int .i64 x.epoch, .string x.text, .int .i64 x.k, .int .i64 x.batch, .bool x.first, .int .i64 x.ad, .string x.aw] 34))
      have BYW := Lib.hid (BW1.out.trans ((hB.out.trans (BY.out.mono hB.out.size)).mono BW1.out.size))
      have lbz : b < wr.heap.size := by omega
      have OY := Lib.hid (owns_below OZ.out BY.out)
      have AY := Lib.hid (AZ.out.below BY.out)
      have XY := Lib.hid (askIn_new wr x wr.heap.size 34 (0, 0) rfl)
      have KY := Lib.hid ((BY.out.cell (p := ⟨b, 0, none⟩) lbz).trans ((hB.out.cell (p := ⟨b, 0, none⟩) lb1).trans K1.out))
      have FY := Lib.hid ((BY.out.frozen (p := ⟨b, 0, none⟩) lbz).trans ((hB.out.frozen (p := ⟨b, 0, none⟩) lb1).trans FR1.out))
      have B2 := Lib.hid (hB.out.trans (BY.out.mono hB.out.size))
      have LBY := Lib.hid (show b < (wr.alloc (.cells #[.int .i64 x.slot, .int .i64 x.query, .int .i64 x.shard, .int .i64 x.seq, .int .i64 x.epoch, .string x.text, .int .i64 x.k, .int .i64 x.batch, .bool x.first, .int .i64 x.ad, .string x.aw] 34)).heap.size from Nat.lt_of_lt_of_le lbz BY.out.size)
      clear hc hx hkL
      go_upto_region 8 with fail
      generalize wr.alloc (.cells #[.int .i64 x.slot, .int .i64 x.query, .int .i64 x.shard, .int .i64 x.seq, .int .i64 x.epoch, .string x.text, .int .i64 x.k, .int .i64 x.batch, .bool x.first, .int .i64 x.ad, .string x.aw] 34) = wy at *
      generalize wr.heap.size = px at *
      clear x0 x1 x2 x3 x4 x5 x6 x7 x8 x9 x10 a0 a1 a2 a3 a4 a5 a6 a7 a8 a9 a10
      have hA := AY.out
      unfold AskIn at hA
      obtain ⟨a0, a1, a2, a3, a4, a5, a6, a7, a8, a9, a10⟩ := hA
      have hXA := XY.out
      unfold AskIn at hXA
      obtain ⟨x0, x1, x2, x3, x4, x5, x6, x7, x8, x9, x10⟩ := hXA
      by_cases hs : Qu.same x a.slot a.shard
      · obtain ⟨hfind, hput⟩ := hsame.out x HX.out hs
        have hs0 := hs
        obtain ⟨q1, q2⟩ := hs0
        have s1 : (x.slot != a.slot) = false := by simpa using q1
        have s2 : (x.shard != a.shard) = false := by simpa using q2
        clear q1 q2 hs hsame
        by_cases hnw : Qu.newer x a
        · have RN := Lib.hid (rpush_no H.out (PN.out x hfind hnw) BYW.out)
          clear hfind hput
          rcases hnw with hq | ⟨hq, hq2⟩
          · have t1 : decide (a.query < x.query) = true := decide_eq_true hq
            clear hq
            go_wp2_with fail
            go_ret
            exact RN.out
          · have t1 : decide (a.query < x.query) = false := decide_eq_false (by omega)
            have t2 : (x.query == a.query) = true := by simpa using hq
            have t3 : decide (a.seq < x.seq) = true := decide_eq_true hq2
            clear hq hq2
            go_wp2_with fail
            go_ret
            exact RN.out
        · have hp1 := PY.out x hfind hnw
          have hp2 := (LY.out x hfind hp1).trans hput
          have RY := Lib.hid (fun (g : Option Addr) (m c : Nat) (w3 : World) (e : m = (L.set k a).length) hb ho => rpush_yes (n := m) (c := c) (g := g) H.out hp1 hp2 e (w3 := w3) hb ho)
          have hcase : (decide (a.query < x.query) = false ∧ (x.query == a.query) = false) ∨ (decide (a.query < x.query) = false ∧ (x.query == a.query) = true ∧ decide (a.seq < x.seq) = false) := by
            unfold Qu.newer at hnw
            by_cases e : x.query = a.query
            · right; refine ⟨decide_eq_false (by omega), by simpa using e, decide_eq_false (by omega)⟩
            · left; exact ⟨decide_eq_false (by omega), by simpa using e⟩
          clear hfind hput hp1 hp2 hnw
          rcases hcase with ⟨t1, t2⟩ | ⟨t1, t2, t3⟩
          all_goals
            go_upto_region 11 with fail
            clear x0 x1 x2 x3 x4 x5 x6 x7 x8 x9 x10 a0 a1 a2 a3 a4 a5 a6 a7 a8 a9 a10
            have hA := AY.out
            unfold AskIn at hA
            obtain ⟨a0, a1, a2, a3, a4, a5, a6, a7, a8, a9, a10⟩ := hA
            obtain ⟨xb, xo, hxe, hc⟩ := (HoldsAsk.own OY.out).at (by omega)
            injection hxe with hxe; injection hxe with e1 e2; subst e1 e2
            have hx' := hc k hlk
            simp only [Nat.zero_add] at hx'
            obtain ⟨x0, x1, x2, x3, x4, x5, x6, x7, x8, x9, x10⟩ := hx'
            have hf0 := OY.out.frozenAt (k * 11)
            have hf1 := OY.out.frozenAt (k * 11 + 1)
            have hf2 := OY.out.frozenAt (k * 11 + 2)
            have hf3 := OY.out.frozenAt (k * 11 + 3)
            have hf4 := OY.out.frozenAt (k * 11 + 4)
            have hf5 := OY.out.frozenAt (k * 11 + 5)
            have hf6 := OY.out.frozenAt (k * 11 + 6)
            have hf7 := OY.out.frozenAt (k * 11 + 7)
            have hf8 := OY.out.frozenAt (k * 11 + 8)
            have hf9 := OY.out.frozenAt (k * 11 + 9)
            have hf10 := OY.out.frozenAt (k * 11 + 10)
            have ST := Lib.hid (ask_stored a k OY.out HN.out.symm hlk)
            have gne : b ≠ g3 := by have := (O1.out.lt g3 rfl).1; omega
            have GL3 := Lib.hid (O1.out.lt g3 rfl).1
            clear hc
            go_upto_region 12 with fail
            generalize (((((((((((wy.setCell ⟨g3, k * 11, none⟩ (.int .i64 a.slot)).setCell ⟨g3, k * 11 + 1, none⟩ (.int .i64 a.query)).setCell ⟨g3, k * 11 + 2, none⟩ (.int .i64 a.shard)).setCell ⟨g3, k * 11 + 3, none⟩ (.int .i64 a.seq)).setCell ⟨g3, k * 11 + 4, none⟩ (.int .i64 a.epoch)).setCell ⟨g3, k * 11 + 5, none⟩ (.string a.text)).setCell ⟨g3, k * 11 + 6, none⟩ (.int .i64 a.k)).setCell ⟨g3, k * 11 + 7, none⟩ (.int .i64 a.batch)).setCell ⟨g3, k * 11 + 8, none⟩ (.bool a.first)).setCell ⟨g3, k * 11 + 9, none⟩ (.int .i64 a.ad)).setCell ⟨g3, k * 11 + 10, none⟩ (.string a.aw)) = w2 at *
            have bb := ST.out.2.block b LBY.out (fun e => gne (by injection e))
            have ky := (World.cell?_of_block (w := wy) (a := ⟨b, 0, none⟩) bb).trans KY.out
            have fy := (World.frozen?_of_block (w := wy) (a := ⟨b, 0, none⟩) bb).trans FY.out
            clear x0 x1 x2 x3 x4 x5 x6 x7 x8 x9 x10 a0 a1 a2 a3 a4 a5 a6 a7 a8 a9 a10 hf0 hf1 hf2 hf3 hf4 hf5 hf6 hf7 hf8 hf9 hf10 bb
            go_wp2_with fail
            go_ret
            exact RY.out _ _ _ _ (by rw [List.length_set, HN.out]) (BYW.out.trans ⟨ST.out.2.os, ST.out.2.tape, ST.out.2.output, ST.out.2.size, fun j hj => ST.out.2.block j (Nat.lt_of_lt_of_le hj BYW.out.size) (fun e => by injection e with e; have := GL3.out; have := HP.out; omega)⟩) (by have := ST.out.1; exact ⟨this.1, this.2.imp id (fun ⟨g, cap, cur, hv, hge, r⟩ => ⟨g, cap, cur, hv, by have := B0.out.size; omega, r⟩)⟩)
      · have NX := Lib.hid (show ∀ j, j < k + 1 → ¬ Qu.same (L.getD j ask0) a.slot a.shard from fun j hj => by
          rcases Nat.lt_succ_iff_lt_or_eq.1 hj with e | e
          · exact hno.out j e
          · subst e; rw [HX.out]; exact hs)
        have hcase : (x.slot != a.slot) = true ∨ ((x.slot != a.slot) = false ∧ (x.shard != a.shard) = true) := by
          unfold Qu.same at hs
          by_cases e : x.slot = a.slot
          · right; refine ⟨by simpa using e, ?_⟩
            have : x.shard ≠ a.shard := fun h => hs ⟨e, h⟩
            simpa using this
          · left; simpa using e
        clear hs hsame
        rcases hcase with s1 | ⟨s1, s2⟩
        all_goals
          go_wp2_with fail
          go_roundw
          case rel => exact ⟨k + 1, by omega, by go_num, NX, B2⟩
          case measure => simp [intOf] <;> omega
    · obtain rfl : k = n := by omega
      have hfind := Qu.find_nowhere (fun j hj => hno.out j (by rw [← HN.out]; exact hj))
      have hp1 := PZ.out hfind
      have hp2 := LZ.out hfind hp1
      have RY := Lib.hid (fun (g : Option Addr) (m c : Nat) (w3 : World) (e : m = (L ++ [a]).length) hb ho => rpush_yes (n := m) (c := c) (g := g) H.out hp1 hp2 e (w3 := w3) hb ho)
      have OZ := Lib.hid (owns_below O1.out hB.out)
      have AZ := Lib.hid (A1.out.below hB.out)
      have hA := AZ.out
      unfold AskIn at hA
      obtain ⟨a0, a1, a2, a3, a4, a5, a6, a7, a8, a9, a10⟩ := hA
      have lz := hB.out.size
      have BZW := Lib.hid (BW1.out.trans (hB.out.mono BW1.out.size))
      have KZ := Lib.hid ((hB.out.cell (p := ⟨b, 0, none⟩) lb1).trans K1.out)
      have FZ := Lib.hid ((hB.out.frozen (p := ⟨b, 0, none⟩) lb1).trans FR1.out)
      have BA := Lib.hid (below_one wr (.cells #[.int .i64 a.slot, .int .i64 a.query, .int .i64 a.shard, .int .i64 a.seq, .int .i64 a.epoch, .string a.text, .int .i64 a.k, .int .i64 a.batch, .bool a.first, .int .i64 a.ad, .string a.aw] 34))
      have lbz : b < wr.heap.size := by omega
      clear hfind hp1 hp2 hno
      go_wp2_with (at_builtin; refine wpList_append_any rfl (.tmp 81) (.tmp 83) 28 rfl w0.heap.size 34 i0 _ 11 104 Try.underlying28 hi hz0 hz1 hz2 rfl (by decide) _ k _ rfl (OZ.out.alloc _) _ 1 1 [.int .i64 a.slot, .int .i64 a.query, .int .i64 a.shard, .int .i64 a.seq, .int .i64 a.epoch, .string a.text, .int .i64 a.k, .int .i64 a.batch, .bool a.first, .int .i64 a.ad, .string a.aw] rfl (some_none _) rfl (new_ask a _ _ _) (one_ask a) (by unfold maxLen; omega) (by omega) (by simp <;> omega) ?_; intro a4' c4 w4 hown4 hb4 hnil4; have ky := (hb4.cell (p := ⟨b, 0, none⟩) lb0).trans ((BA.out.cell (p := ⟨b, 0, none⟩) lbz).trans KZ.out); have fy := (hb4.frozen (p := ⟨b, 0, none⟩) lb0).trans ((BA.out.frozen (p := ⟨b, 0, none⟩) lbz).trans FZ.out))
      go_ret
      exact RY.out _ _ _ _ (by rw [List.length_append, HN.out]; rfl) (BZW.out.trans ((BA.out.mono BZW.out.size).trans (hb4.mono B0.out.size))) (by rw [asksV_snoc]; exact ⟨hown4.1, hown4.2.imp id (fun ⟨g, cap, cur, hv, hge, r⟩ => ⟨g, cap, cur, hv, by have := B0.out.size; omega, r⟩)⟩)
theorem rpush_any (a : AskP) (b : Nat) {L : List AskP} {S : Nat → Prop} (w : World) (h : RAt w b L S) (hg : Qu.Good L) :
    Calls Try.prog 12 #[.pointer (some ⟨b, 0, none⟩), .agg #[.int .i64 a.slot, .int .i64 a.query, .int .i64 a.shard, .int .i64 a.seq, .int .i64 a.epoch, .string a.text, .int .i64 a.k, .int .i64 a.batch, .bool a.first, .int .i64 a.ad, .string a.aw]] w (RPushP w b L S a) := by
  by_cases hm : Qu.may a
  · exact rpush_may a b w h hg hm
  · exact rpush_out a b w h hm
end Go.Proofs.Ythcfpohgjgbhpaa
/- queue: the document's Pop -/
namespace Go.Proofs.Ythcfpohgjgbhpaa
open Go.RowKit
set_option linter.unusedVariables false
set_option maxRecDepth 20000
theorem rPop_empty (b : Nat) {S : Nat → Prop} (w : World) (h : RAt w b [] S) : Calls Try.prog 14 #[.pointer (some ⟨b, 0, none⟩)] w fun e w' => e = .returned (.tuple #[.agg #[.int .i64 0, .int .i64 0, .int .i64 0, .int .i64 0, .int .i64 0, .string ⟨#[]⟩, .int .i64 0, .int .i64 0, .bool false, .int .i64 0, .string ⟨#[]⟩], .bool false]) ∧ Below w.heap.size w w' := by
  have H := h.below (below_one w (.cells #[.int .i64 0, .int .i64 0, .int .i64 0, .int .i64 0, .int .i64 0, .string ⟨#[]⟩, .int .i64 0, .int .i64 0, .bool false, .int .i64 0, .string ⟨#[]⟩] 34))
  obtain ⟨a0, c0, k0, -⟩ := H
  have hlt := h.lt b h.has
  clear h
  go_enter Try.func14, Try.ntmps14
  go_wp2_with fail
  exact bodyPost_ret (v := .tuple #[.agg #[.int .i64 0, .int .i64 0, .int .i64 0, .int .i64 0, .int .i64 0, .string ⟨#[]⟩, .int .i64 0, .int .i64 0, .bool false, .int .i64 0, .string ⟨#[]⟩], .bool false]) (by simp [results, go_sem]) rfl ⟨rfl, below_one _ _⟩
def RPopP (w : World) (b : Nat) (x : AskP) (l : List AskP) (S : Nat → Prop) (e : Ending) (w' : World) : Prop := e = .returned (.tuple #[.agg #[.int .i64 x.slot, .int .i64 x.query, .int .i64 x.shard, .int .i64 x.seq, .int .i64 x.epoch, .string x.text, .int .i64 x.k, .int .i64 x.batch, .bool x.first, .int .i64 x.ad, .string x.aw], .bool true]) ∧ ∃ S', RAt w' b l S' ∧ (∀ k, S' k → S k ∨ w.heap.size ≤ k) ∧ Turn S w w'
theorem rpop_start (w : World) (x : AskP) (e1 e2 : TypeId) (f1 f2 : Nat × Nat) : Below w.heap.size w ((w.alloc (.cells #[.int .i64 0, .int .i64 0, .int .i64 0, .int .i64 0, .int .i64 0, .string ⟨#[]⟩, .int .i64 0, .int .i64 0, .bool false, .int .i64 0, .string ⟨#[]⟩] e1 f1)).alloc (.cells #[.int .i64 x.slot, .int .i64 x.query, .int .i64 x.shard, .int .i64 x.seq, .int .i64 x.epoch, .string x.text, .int .i64 x.k, .int .i64 x.batch, .bool x.first, .int .i64 x.ad, .string x.aw] e2 f2)) ∧ AskIn ((w.alloc (.cells #[.int .i64 0, .int .i64 0, .int .i64 0, .int .i64 0, .int .i64 0, .string ⟨#[]⟩, .int .i64 0, .int .i64 0, .bool false, .int .i64 0, .string ⟨#[]⟩] e1 f1)).alloc (.cells #[.int .i64 x.slot, .int .i64 x.query, .int .i64 x.shard, .int .i64 x.seq, .int .i64 x.epoch, .string x.text, .int .i64 x.k, .int .i64 x.batch, .bool x.first, .int .i64 x.ad, .string x.aw] e2 f2)) w.heap.size ask0 ∧ (∀ i, ((w.alloc (.cells #[.int .i64 0, .int .i64 0, .int .i64 0, .int .i64 0, .int .i64 0, .string ⟨#[]⟩, .int .i64 0, .int .i64 0, .bool false, .int .i64 0, .string ⟨#[]⟩] e1 (0, 0))).alloc (.cells #[.int .i64 x.slot, .int .i64 x.query, .int .i64 x.shard, .int .i64 x.seq, .int .i64 x.epoch, .string x.text, .int .i64 x.k, .int .i64 x.batch, .bool x.first, .int .i64 x.ad, .string x.aw] e2 f2)).frozen? ⟨w.heap.size, i, none⟩ = false) ∧ AskIn ((w.alloc (.cells #[.int .i64 0, .int .i64 0, .int .i64 0, .int .i64 0, .int .i64 0, .string ⟨#[]⟩, .int .i64 0, .int .i64 0, .bool false, .int .i64 0, .string ⟨#[]⟩] e1 f1)).alloc (.cells #[.int .i64 x.slot, .int .i64 x.query, .int .i64 x.shard, .int .i64 x.seq, .int .i64 x.epoch, .string x.text, .int .i64 x.k, .int .i64 x.batch, .bool x.first, .int .i64 x.ad, .string x.aw] e2 f2)) (w.heap.size + 1) x ∧ ((w.alloc (.cells #[.int .i64 0, .int .i64 0, .int .i64 0, .int .i64 0, .int .i64 0, .string ⟨#[]⟩, .int .i64 0, .int .i64 0, .bool false, .int .i64 0, .string ⟨#[]⟩] e1 f1)).alloc (.cells #[.int .i64 x.slot, .int .i64 x.query, .int .i64 x.shard, .int .i64 x.seq, .int .i64 x.epoch, .string x.text, .int .i64 x.k, .int .i64 x.batch, .bool x.first, .int .i64 x.ad, .string x.aw] e2 f2)).heap.size = w.heap.size + 2 :=
  ⟨((Below.refl _ _).alloc (Nat.le_refl _) _).alloc (by simp) _, (askIn_new w ask0 _ e1 f1 rfl).below (below_one _ _), fun i => ((below_one _ _).frozen (p := ⟨w.heap.size, i, none⟩) (by simp)).trans (frozen_alloc rfl), askIn_new _ _ _ e2 f2 (by simp), by simp⟩
set_option maxHeartbeats 3200000 in
set_option maxRecDepth 100000 in
theorem rPop_any (b : Nat) {x : AskP} {l : List AskP} {S : Nat → Prop} (w : World) (h : RAt w b (x :: l) S) (hg : Qu.Good (x :: l)) : Calls Try.prog 14 #[.pointer (some ⟨b, 0, none⟩)] w (RPopP w b x l S) := by
  obtain ⟨i0, hi, hz0, hz1, hz2⟩ := info_parts ask_info
  have hl24 := Qu.good_len hg
  have H := Lib.hid h
  have START := Lib.hid (rpop_start w x 34 34 (0, 0) (0, 0))
  obtain ⟨m, hm⟩ : ∃ m, l.length = m := ⟨_, rfl⟩
  have HM := Lib.hid hm
  rw [List.length_cons, hm] at hl24
  obtain ⟨ao, co, k0, fr, hown, hSb, hSg, hSl⟩ := h
  rw [List.length_cons, hm] at k0 hown
  obtain ⟨g, hge⟩ : ∃ g, ao = some ⟨g, 0, none⟩ := by
    obtain ⟨g, cap', hv⟩ := Joins.ownsRow_form hown (by omega)
    simp only [Value.slice.injEq] at hv
    exact ⟨g, hv.1⟩
  have hcap : m + 1 ≤ co := by
    rcases hown.2 with ⟨h1, _⟩ | ⟨g', cap', cur, hv, _, _, hc, _⟩
    · rw [hge] at h1; injection h1 with h1; cases h1
    · injection hv with _ _ hv; omega
  subst hge
  have lb := hSl b hSb
  have KW := Lib.hid k0
  have FW := Lib.hid fr
  have OW := Lib.hid hown
  have Y0 := Lib.hid (show (x :: l).getD 0 ask0 = x from rfl)
  have HWS := Lib.hid hSl
  have kk := ((below_one w (.cells #[.int .i64 0, .int .i64 0, .int .i64 0, .int .i64 0, .int .i64 0, .string ⟨#[]⟩, .int .i64 0, .int .i64 0, .bool false, .int .i64 0, .string ⟨#[]⟩] 34)).cell (p := ⟨b, 0, none⟩) lb).trans k0
  obtain ⟨xb, xo, hxe, hc⟩ := (HoldsAsk.own (owns_below hown (below_one w (.cells #[.int .i64 0, .int .i64 0, .int .i64 0, .int .i64 0, .int .i64 0, .string ⟨#[]⟩, .int .i64 0, .int .i64 0, .bool false, .int .i64 0, .string ⟨#[]⟩] 34)))).at (by omega)
  injection hxe with hxe; injection hxe with e1 e2; subst e1 e2
  have hc0 := hc 0 (by omega)
  rw [Y0.out] at hc0
  simp only [Nat.zero_mul, Nat.add_zero] at hc0
  obtain ⟨x0, x1, x2, x3, x4, x5, x6, x7, x8, x9, x10⟩ := hc0
  have z1 : ((m : Int) + 1 == 0) = false := by simp; omega
  have z2 : (((m + 1 : Nat) : Int) == 0) = false := by simp; omega
  have z3 : (0 : Int) < ((m + 1 : Nat) : Int) := by omega
  have z4 : (0 : Int) < (m : Int) + 1 := by omega
  clear hg hm hown hSb hSg hSl fr k0 hc
  go_enter Try.func14, Try.ntmps14
  go_upto_region 4 with fail
  obtain ⟨hb2, hA2, hf2, hX2, hs2⟩ := START.out
  have W2 := Lib.hid (owns_below OW.out hb2)
  have k2 := (hb2.cell (p := ⟨b, 0, none⟩) lb).trans KW.out
  have F2 := Lib.hid ((hb2.frozen (p := ⟨b, 0, none⟩) lb).trans (FW.out 0))
  have K2 := Lib.hid k2
  clear START x0 x1 x2 x3 x4 x5 x6 x7 x8 x9 x10 kk
  generalize (w.alloc (.cells #[.int .i64 0, .int .i64 0, .int .i64 0, .int .i64 0, .int .i64 0, .string ⟨#[]⟩, .int .i64 0, .int .i64 0, .bool false, .int .i64 0, .string ⟨#[]⟩] 34)).alloc (.cells #[.int .i64 x.slot, .int .i64 x.query, .int .i64 x.shard, .int .i64 x.seq, .int .i64 x.epoch, .string x.text, .int .i64 x.k, .int .i64 x.batch, .bool x.first, .int .i64 x.ad, .string x.aw] 34) = w2 at *
  obtain ⟨p, hp⟩ : ∃ p, w.heap.size = p := ⟨_, rfl⟩
  have HPS := Lib.hid hp
  rw [hp] at hA2 hf2 hX2 hs2
  rw [hp]
  have B2 := Lib.hid hb2; have A2 := Lib.hid hA2; have X2 := Lib.hid hX2; have FF2 := Lib.hid hf2
  have lb2 : b < w2.heap.size := by omega
  clear hb2 hA2 hX2 hf2 hp
  have NIL := Lib.hid (show (if co = 1 then some ⟨g, 0, none⟩ else some ⟨g, 11, none⟩ : Option Addr) = none → m = 0 ∧ co - 1 = 0 from by split <;> simp)
  have AL := Lib.hid (show (asksV l).length = m * 11 from by rw [asksV_len, HM.out])
  have CELLS := Lib.hid (show ∀ ad, (if co = 1 then some ⟨g, 0, none⟩ else some ⟨g, 11, none⟩ : Option Addr) = some ad → ∀ j u, (asksV l)[j]? = some u → w2.cell? (ad.add j) = some u from by
    intro ad had j u hu
    have hj : j < m * 11 := by rw [← AL.out]; exact (List.getElem?_eq_some_iff.1 hu).1
    rw [if_neg (by omega)] at had
    injection had with had
    subst had
    rw [Go.WideShapes.add_plain, W2.out.cellAt (11 + j) (by omega), ← hu, Nat.add_comm 11 j]
    rfl)
  go_upto_region 5 with (at_builtin; refine wpList_append_any rfl (.const (.slice none 0 0)) (.tmp 23) 28 rfl w2.heap.size 34 i0 _ 11 104 Try.underlying28 hi hz0 hz1 hz2 rfl (by decide) _ 0 [] rfl (World.ownsRow_nil _ _ _ _) _ m (co - 1) (asksV l) rfl NIL.out AL.out CELLS.out (asksV_one _) (by unfold maxLen; omega) (by omega) (by simp) ?_; intro a3 c3 w3 hown3 hb3 hnil3; have ky := (hb3.cell (p := ⟨b, 0, none⟩) lb2).trans K2.out; have fy := (hb3.frozen (p := ⟨b, 0, none⟩) lb2).trans F2.out)
  rw [Nat.zero_add, List.nil_append] at hown3
  rw [Nat.zero_add] at hnil3
  have O3 := Lib.hid (show w3.ownsRow w2.heap.size 34 11 (.slice a3 l.length c3) l.length (asksV l) from by rw [HM.out]; exact hown3)
  have hb3' := hb3
  have B3 := Lib.hid (B2.out.trans (hb3'.mono B2.out.size))
  have A3 := Lib.hid (A2.out.below hb3)
  have X3 := Lib.hid (X2.out.below hb3)
  have FF3 := Lib.hid (fun i => (hb3.frozen (p := ⟨p, i, none⟩) (lt_of_cell A2.out.1)).trans (FF2.out i))
  have pne : ¬ p = b := by have := HPS.out; omega
  have pne1 : ¬ p + 1 = b := by have := HPS.out; omega
  have RN := Lib.hid ((H.out.below B2.out).renew hb3 O3.out)
  have A4 := Lib.hid (A3.out.of (w' := w3.setCell ⟨b, 0, none⟩ (.slice a3 l.length c3)) fun i => cset_far (fun e => pne e.symm))
  have X4 := Lib.hid (X3.out.of (w' := w3.setCell ⟨b, 0, none⟩ (.slice a3 l.length c3)) fun i => cset_far (fun e => pne1 e.symm))
  have FF4 := Lib.hid (fun i => (fset_any (w := w3) (a := ⟨b, 0, none⟩) (v := .slice a3 l.length c3) (p := ⟨p, i, none⟩)).trans (FF3.out i))
  rw [HM.out] at RN A4 X4 FF4
  clear ky fy hown3 hb3 hb3' hnil3 k2
  generalize w3.setCell ⟨b, 0, none⟩ (.slice a3 m c3) = w4 at *
  have hA := A4.out
  have hX := X4.out
  unfold AskIn at hA hX
  obtain ⟨y0, y1, y2, y3, y4, y5, y6, y7, y8, y9, y10⟩ := hA
  obtain ⟨x0, x1, x2, x3, x4, x5, x6, x7, x8, x9, x10⟩ := hX
  have F6 := FF4.out
  go_wp2_with fail
  all_goals
    have TS := turn_store w4 p x
    obtain ⟨⟨S', R1, R2⟩, R3⟩ := RN.out
    have hnS : ∀ k, S' k → k ≠ p := fun k hk e => by
      have hp := HPS.out
      rcases R2 k hk with h | h
      · have := HWS.out k h; omega
      · omega
    refine bodyPost_ret (v := .tuple #[.agg #[.int .i64 x.slot, .int .i64 x.query, .int .i64 x.shard, .int .i64 x.seq, .int .i64 x.epoch, .string x.text, .int .i64 x.k, .int .i64 x.batch, .bool x.first, .int .i64 x.ad, .string x.aw], .bool true]) (by simp [results, go_sem, y0, y1, y2, y3, y4, y5, y6, y7, y8, y9, y10]) rfl ⟨rfl, S', R1.turn TS (fun k hk e => hnS k hk e), fun k hk => (R2 k hk).imp id (fun x => Nat.le_trans B2.out.size x), ?_⟩
    exact ((Turn.of_below B2.out).trans R3).trans' TS (fun k hk => Or.inr (by rw [hk, HPS.out]; exact Nat.le_refl _))
end Go.Proofs.Ythcfpohgjgbhpaa
/- queue: the document's Stop -/
namespace Go.Proofs.Ythcfpohgjgbhpaa
open Go.RowKit
set_option linter.unusedVariables false
set_option maxRecDepth 20000
def RStopP (w : World) (b : Nat) (L : List AskP) (S : Nat → Prop) (s q : Int) (e : Ending) (w' : World) : Prop :=
  e = .returned (.int .i64 ((L.length : Int) - ((Qu.stop L s q).length : Int))) ∧ ∃ S', RAt w' b (Qu.stop L s q) S' ∧ (∀ k, S' k → S k ∨ w.heap.size ≤ k) ∧ Turn S w w'
set_option maxHeartbeats 3200000 in
set_option maxRecDepth 100000 in
theorem rStop_any (b : Nat) {L : List AskP} {S : Nat → Prop} (s q : Int) (w : World) (h : RAt w b L S) (hg : Qu.Good L) : Calls Try.prog 16 #[.pointer (some ⟨b, 0, none⟩), .int .i64 s, .int .i64 q] w (RStopP w b L S s q) := by
  obtain ⟨i0, hi, hz0, hz1, hz2⟩ := info_parts ask_info
  have hl24 := Qu.good_len hg
  have H := Lib.hid h
  obtain ⟨r, hr⟩ : ∃ r, L.length = r := ⟨_, rfl⟩
  have HR := Lib.hid hr
  obtain ⟨ao, co, k0, fr, hown, hSb, hSg, hSl⟩ := h
  rw [hr] at k0 hown hl24
  have lb := hSl b hSb
  have K0 := Lib.hid k0
  have FR := Lib.hid (fr 0)
  have W0 := Lib.hid (HoldsAsk.own hown)
  clear hg hr hown hSb hSg hSl fr
  go_enter Try.func16, Try.ntmps16
  go_wp2_with fail
  go_loopw [7, 8] (fun ov iv wr => ∃ (i : Nat) (K : List AskP) (av : Option Addr) (cv : Nat), i ≤ r ∧ K.length ≤ i ∧ iv = .int .i64 i ∧ ov = .slice av K.length cv ∧ Hid (K = Qu.kept L s q i) ∧ Hid (wr.ownsRow w.heap.size 34 11 (.slice av K.length cv) K.length (asksV K)) ∧ Hid (Below w.heap.size w wr)) (fun _ iv _ => r - (intOf iv).toNat)
  case atStart => exact ⟨0, [], none, 0, by omega, by simp, rfl, rfl, Lib.hid rfl, Lib.hid (World.ownsRow_nil _ _ _ _), Lib.hid (Below.refl _ _)⟩
  case round =>
    obtain ⟨i, K, av, cv, hi', hKl, rfl, rfl, hK, hO, hB⟩ := hrel
    have kr := (hB.out.cell (p := ⟨b, 0, none⟩) lb).trans K0.out
    by_cases hlt : i < r
    · obtain ⟨pb, po, rfl, hc⟩ := (W0.out.below hB.out).at (by omega)
      have hcx := hc i hlt
      have hky := fun h => Qu.kept_yes (L := L) (s := s) (q := q) (j := i) (by rw [HR.out]; exact hlt) h
      have hkn := fun h => Qu.kept_no (L := L) (s := s) (q := q) (j := i) (by rw [HR.out]; exact hlt) h
      obtain ⟨x, hx⟩ : ∃ x, L.getD i ask0 = x := ⟨_, rfl⟩
      rw [hx] at hcx
      simp only [hx] at hky hkn
      have KY := Lib.hid hky; have KN := Lib.hid hkn
      obtain ⟨a0, a1, a2, a3, a4, a5, a6, a7, a8, a9, a10⟩ := hcx
      have x1 : (0 : Int) ≤ (i : Int) := by omega
      have x2 : (i : Int) < (r : Int) := by omega
      have hws := hB.out.size
      clear hc hky hkn hx
      by_cases hkp : Qu.keeps s q x = true
      · have HKP := Lib.hid hkp
        have hcase : (x.slot == s) = false ∨ ((x.slot == s) = true ∧ q < x.query) := by
          unfold Qu.keeps at hkp
          by_cases e : x.slot = s
          · right; refine ⟨by simpa using e, ?_⟩; simp [e] at hkp; omega
          · left; simpa using e
        clear hkp
        rcases hcase with d1 | ⟨d1, d5⟩
        · have d6 : (x.slot != s) = true := by simpa using d1
          go_wp2_with (at_builtin; refine wpList_append_any rfl (.tmp 41) (.tmp 49) 28 rfl w.heap.size 34 i0 _ 11 104 Try.underlying28 hi hz0 hz1 hz2 rfl (by decide) _ K.length _ rfl (hO.out.alloc _) _ 1 1 [.int .i64 x.slot, .int .i64 x.query, .int .i64 x.shard, .int .i64 x.seq, .int .i64 x.epoch, .string x.text, .int .i64 x.k, .int .i64 x.batch, .bool x.first, .int .i64 x.ad, .string x.aw] rfl (some_none _) rfl (new_ask x _ _ _) (one_ask x) (by unfold maxLen; omega) (by omega) (by simp <;> omega) ?_; intro a3 c3 w7 hown3 hb3 hnil3)
          have O7 := Lib.hid (show w7.ownsRow w.heap.size 34 11 (.slice a3 (K ++ [x]).length c3) (K ++ [x]).length (asksV (K ++ [x])) from by rw [asksV_snoc, List.length_append]; exact hown3)
          have K7 := Lib.hid (show K ++ [x] = Qu.kept L s q (i + 1) from by rw [KY.out HKP.out, ← hK.out])
          have B7 := Lib.hid (hB.out.trans ((((Below.refl _ _).alloc (Nat.le_refl _) _).mono hB.out.size).trans hb3))
          clear hown3 hb3 hnil3
          go_roundw
          case rel => exact ⟨i + 1, K ++ [x], a3, c3, by omega, by simpa using hKl, by go_num, by simp, K7, O7, B7⟩
          case measure => simp [intOf] <;> omega
        · have d6 : (x.slot != s) = false := by simpa using d1
          have d7 : decide (x.query > q) = true := by simpa using d5
          have d8 : decide (q < x.query) = true := by simpa using d5
          go_wp2_with (at_builtin; refine wpList_append_any rfl (.tmp 41) (.tmp 49) 28 rfl w.heap.size 34 i0 _ 11 104 Try.underlying28 hi hz0 hz1 hz2 rfl (by decide) _ K.length _ rfl (hO.out.alloc _) _ 1 1 [.int .i64 x.slot, .int .i64 x.query, .int .i64 x.shard, .int .i64 x.seq, .int .i64 x.epoch, .string x.text, .int .i64 x.k, .int .i64 x.batch, .bool x.first, .int .i64 x.ad, .string x.aw] rfl (some_none _) rfl (new_ask x _ _ _) (one_ask x) (by unfold maxLen; omega) (by omega) (by simp <;> omega) ?_; intro a3 c3 w7 hown3 hb3 hnil3)
          have O7 := Lib.hid (show w7.ownsRow w.heap.size 34 11 (.slice a3 (K ++ [x]).length c3) (K ++ [x]).length (asksV (K ++ [x])) from by rw [asksV_snoc, List.length_append]; exact hown3)
          have K7 := Lib.hid (show K ++ [x] = Qu.kept L s q (i + 1) from by rw [KY.out HKP.out, ← hK.out])
          have B7 := Lib.hid (hB.out.trans ((((Below.refl _ _).alloc (Nat.le_refl _) _).mono hB.out.size).trans hb3))
          clear hown3 hb3 hnil3
          go_roundw
          case rel => exact ⟨i + 1, K ++ [x], a3, c3, by omega, by simpa using hKl, by go_num, by simp, K7, O7, B7⟩
          case measure => simp [intOf] <;> omega
      · have hkf : Qu.keeps s q x = false := by simpa using hkp
        have HKP := Lib.hid hkf
        have d1 : (x.slot == s) = true ∧ x.query ≤ q := by unfold Qu.keeps at hkf; simpa using hkf
        obtain ⟨d1, d5⟩ := d1
        have d6 : (x.slot != s) = false := by simpa using d1
        have d7 : decide (x.query > q) = false := by simp; omega
        have d8 : decide (q < x.query) = false := by simp; omega
        have K7 := Lib.hid (show K = Qu.kept L s q (i + 1) from by rw [KN.out HKP.out]; exact hK.out)
        clear hkp hkf
        go_wp2_with fail
        go_roundw
        case rel => exact ⟨i + 1, K, av, cv, by omega, by omega, by go_num, rfl, K7, hO, hB⟩
        case measure => simp [intOf] <;> omega
    · obtain rfl : i = r := by omega
      have hKE : K = Qu.stop L s q := by rw [hK.out, ← HR.out]; exact (Qu.mid_end L s q).2
      obtain ⟨m, hm⟩ : ∃ m, K.length = m := ⟨_, rfl⟩
      have RN := Lib.hid (show (∃ S', RAt (wr.setCell ⟨b, 0, none⟩ (.slice av m cv)) b (Qu.stop L s q) S' ∧ (∀ k, S' k → S k ∨ w.heap.size ≤ k)) ∧ Turn S w (wr.setCell ⟨b, 0, none⟩ (.slice av m cv)) from by
        have := H.out.renew hB.out hO.out
        rwa [hKE, ← hKE, hm, hKE] at this)
      have RL := Lib.hid (show (i : Int) - (m : Int) = (L.length : Int) - ((Qu.stop L s q).length : Int) from by rw [← hKE, HR.out, hm])
      have c2 : IntKind.i64.wrap ((i : Int) - (m : Int)) = (i : Int) - (m : Int) := IntWalk.i64_in _ (by omega)
      have fy := (hB.out.frozen (p := ⟨b, 0, none⟩) lb).trans FR.out
      rw [hm]
      clear hKE hm hK hO
      go_wp2_with fail
      go_ret
      obtain ⟨⟨S', R1, R2⟩, R3⟩ := RN.out
      exact ⟨by rw [← RL.out]; rfl, S', R1, R2, R3⟩
end Go.Proofs.Ythcfpohgjgbhpaa
/- queue: asks come out in the order in which they came -/
namespace Go.Proofs.Ythcfpohgjgbhpaa
open Go.RowKit
set_option linter.unusedVariables false
set_option maxRecDepth 20000
theorem owns_apart {w w' : World} {base : Nat} {e : TypeId} {size : Nat} {a : Option Addr} {n c : Nat} {xs : List Value} {S : Nat → Prop} (h : w.ownsRow base e size (.slice a n c) n xs) (t : Turn S w w') (hS : ∀ g, a = some ⟨g, 0, none⟩ → ¬ S g) : w'.ownsRow base e size (.slice a n c) n xs :=
  owns_block0 h fun g hg => t.block g (h.lt g (by rw [hg]; rfl)).2 (hS g hg)
/-- block p says of each of twenty-four numbers whether it is in W -/
def SeenAt (w : World) (p : Nat) (W : List Int) : Prop := (∀ m : Nat, m < 24 → w.cell? ⟨p, m, none⟩ = some (.bool (decide ((m : Int) ∈ W)))) ∧ ∀ i, w.frozen? ⟨p, i, none⟩ = false
theorem SeenAt.lt {w : World} {p : Nat} {W : List Int} (h : SeenAt w p W) : p < w.heap.size := lt_of_cell (h.1 0 (by omega))
theorem SeenAt.block {w w' : World} {p : Nat} {W : List Int} (h : SeenAt w p W) (e : w'.heap[p]? = w.heap[p]?) : SeenAt w' p W :=
  ⟨fun m hm => (World.cell?_of_block (w := w) e).trans (h.1 m hm), fun i => (World.frozen?_of_block (w := w) e).trans (h.2 i)⟩
theorem seenAt_new (w : World) (e : TypeId) : SeenAt (w.alloc (.cells #[.bool false, .bool false, .bool false, .bool false, .bool false, .bool false, .bool false, .bool false, .bool false, .bool false, .bool false, .bool false, .bool false, .bool false, .bool false, .bool false, .bool false, .bool false, .bool false, .bool false, .bool false, .bool false, .bool false, .bool false] e)) w.heap.size [] := by
  refine ⟨fun m hm => ?_, fun i => frozen_alloc rfl⟩
  rw [cell_alloc rfl]
  have : m = 0 ∨ m = 1 ∨ m = 2 ∨ m = 3 ∨ m = 4 ∨ m = 5 ∨ m = 6 ∨ m = 7 ∨ m = 8 ∨ m = 9 ∨ m = 10 ∨ m = 11 ∨ m = 12 ∨ m = 13 ∨ m = 14 ∨ m = 15 ∨ m = 16 ∨ m = 17 ∨ m = 18 ∨ m = 19 ∨ m = 20 ∨ m = 21 ∨ m = 22 ∨ m = 23 := by omega
  rcases this with rfl | rfl | rfl | rfl | rfl | rfl | rfl | rfl | rfl | rfl | rfl | rfl | rfl | rfl | rfl | rfl | rfl | rfl | rfl | rfl | rfl | rfl | rfl | rfl <;> rfl
theorem SeenAt.set {w : World} {p m : Nat} {W V : List Int} (h : SeenAt w p W) (hm : m < 24) (hV : ∀ k, k ∈ V ↔ k ∈ W ∨ k = (m : Int)) : SeenAt (w.setCell ⟨p, m, none⟩ (.bool true)) p V := by
  refine ⟨fun j hj => ?_, fun i => by rw [fset_any]; exact h.2 i⟩
  by_cases e : j = m
  · subst e
    rw [cset_at (h.1 j hj), decide_eq_true ((hV _).2 (Or.inr rfl))]
  · rw [cset_ne (fun e2 => e e2.symm), h.1 j hj]
    congr 2
    apply decide_eq_decide.2
    rw [hV]
    exact ⟨Or.inl, fun x => x.elim id (fun x => by omega)⟩
theorem push_litS (a : AskP) (z : Bool) (L' : List AskP) (b : Nat) {L : List AskP} {S : Nat → Prop} (w : World) (h : QAt w b L S) (hg : Qu.Good L) (hz : Qu.pushed L a = z) (hL : Qu.push L a = L') :
    Calls Try.prog 11 #[.pointer (some ⟨b, 0, none⟩), .agg #[.int .i64 a.slot, .int .i64 a.query, .int .i64 a.shard, .int .i64 a.seq, .int .i64 a.epoch, .string a.text, .int .i64 a.k, .int .i64 a.batch, .bool a.first, .int .i64 a.ad, .string a.aw]] w fun e w' => e = .returned (.bool z) ∧ ∃ S', QAt w' b L' S' ∧ (∀ k, S' k → S k ∨ w.heap.size ≤ k) ∧ Turn S w w' := by
  subst hz hL
  exact qpush_any a b w h hg
/-- the three objects lie apart -/
structure First3 (w0 w : World) (b p : Nat) (av : Option Addr) (cv : Nat) (W : List Int) (L : List AskP) (S : Nat → Prop) : Prop where
  q : QAt w b L S
  g : Qu.Good L
  s : SeenAt w p W
  o : w.ownsRow w0.heap.size 3 1 (.slice av W.length cv) W.length (W.map (Value.int .i64))
  np : ¬ S p
  ng : ∀ g, av = some ⟨g, 0, none⟩ → ¬ S g ∧ g ≠ p
  lo : ∀ k, S k → w0.heap.size ≤ k
  bel : Below w0.heap.size w0 w
  pl : w0.heap.size ≤ p
theorem First3.turn {w0 w w' : World} {b p : Nat} {av : Option Addr} {cv : Nat} {W : List Int} {L L' : List AskP} {S S' : Nat → Prop} (h : First3 w0 w b p av cv W L S) (q : QAt w' b L' S') (g : Qu.Good L') (hs : ∀ k, S' k → S k ∨ w.heap.size ≤ k) (t : Turn S w w') : First3 w0 w' b p av cv W L' S' :=
  ⟨q, g, h.s.block (t.block p h.s.lt h.np), owns_apart h.o t (fun g hg => (h.ng g hg).1), fun hp => (hs p hp).elim h.np (fun x => by have := h.s.lt; omega),
    fun g hg => ⟨fun hp => (hs g hp).elim (h.ng g hg).1 (fun x => by have := (h.o.lt g (by rw [hg]; rfl)).2; omega), (h.ng g hg).2⟩,
    fun k hk => (hs k hk).elim (h.lo k) (fun x => Nat.le_trans h.bel.size x), h.bel.trans (t.below h.lo h.bel.size), h.pl⟩
theorem First3.more {w0 w w' : World} {b p : Nat} {av : Option Addr} {cv : Nat} {W : List Int} {L : List AskP} {S : Nat → Prop} (h : First3 w0 w b p av cv W L S) (hb : Below w.heap.size w w') : First3 w0 w' b p av cv W L S :=
  ⟨h.q.below hb, h.g, h.s.block (hb.block p h.s.lt), owns_below h.o hb, h.np, h.ng, h.lo, h.bel.trans (hb.mono h.bel.size), h.pl⟩
theorem First3.mark {w0 w : World} {b p m : Nat} {av : Option Addr} {cv : Nat} {W : List Int} {L : List AskP} {S : Nat → Prop} (h : First3 w0 w b p av cv W L S) (hm : m < 24) (hmem : (m : Int) ∈ W) : First3 w0 (w.setCell ⟨p, m, none⟩ (.bool true)) b p av cv W L S :=
  ⟨h.q.turn (Turn.setCell (F := fun k => k = p) rfl) (fun k hk e => h.np (e ▸ hk)), h.g, h.s.set hm (fun k => ⟨Or.inl, fun x => x.elim id (fun x => x ▸ hmem)⟩), owns_block0 h.o (fun g hg => Below.heap_setCell _ _ _ _ (h.ng g hg).2), h.np, h.ng, h.lo, h.bel.setCell (p := ⟨p, m, none⟩) h.pl _, h.pl⟩
theorem First3.far {w0 w w1 : World} {b p : Nat} {av : Option Addr} {cv : Nat} {W : List Int} {L : List AskP} {S : Nat → Prop} {o : Obj} (h : First3 w0 w b p av cv W L S) (hg : (w.alloc o).grownBy w1 (Value.slice av W.length cv).ownBlock) : SeenAt w1 p W := by
  have hne : ∀ k, (Value.slice av W.length cv).ownBlock = some k → k ≠ p := by
    intro k hk
    rcases h.o.2 with ⟨e, _⟩ | ⟨g', c', cur, e, _⟩
    · rw [e] at hk; cases hk
    · rw [e] at hk
      simp only [Value.ownBlock, Option.some.injEq] at hk
      subst hk
      simp only [Value.slice.injEq] at e
      exact (h.ng _ e.1).2
  refine h.s.block ((hg.block p (by have := h.s.lt; simp; omega) (fun e => hne p e.symm rfl)).trans (Below.heap_alloc _ _ _ h.s.lt))
theorem First3.grow {w0 w w1 : World} {b p m g cap H : Nat} {av : Option Addr} {cv : Nat} {W : List Int} {L : List AskP} {S : Nat → Prop} {o : Obj} (h : First3 w0 w b p av cv W L S) (hm : m < 24)
    (own : w1.ownsRow w0.heap.size 3 1 (.slice (some ⟨g, 0, none⟩) (W.length + 1) cap) (W.length + 1) (W.map (Value.int .i64) ++ [.int .i64 m])) (hg : (w.alloc o).grownBy w1 (Value.slice av W.length cv).ownBlock)
    (hat : (Value.slice av W.length cv).ownBlock = some g ∨ g = H) (hH : w.heap.size ≤ H) : First3 w0 (w1.setCell ⟨p, m, none⟩ (.bool true)) b p (some ⟨g, 0, none⟩) cap (W ++ [(m : Int)]) L S := by
  have ho : ∀ k, (Value.slice av W.length cv).ownBlock = some k → ¬ S k ∧ k ≠ p ∧ w0.heap.size ≤ k := by
    intro k hk
    have hlo := (h.o.lt k hk).1
    rcases h.o.2 with ⟨e, _⟩ | ⟨g', c', cur, e, _⟩
    · rw [e] at hk; cases hk
    · rw [e] at hk
      simp only [Value.ownBlock, Option.some.injEq] at hk
      subst hk
      simp only [Value.slice.injEq] at e
      exact ⟨(h.ng _ e.1).1, (h.ng _ e.1).2, hlo⟩
  have hgn : ¬ S g ∧ g ≠ p := by
    rcases hat with x | x
    · exact ⟨(ho g x).1, (ho g x).2.1⟩
    · subst x; exact ⟨fun hk => by have := h.q.lt _ hk; omega, by have := h.s.lt; omega⟩
  have hb : Below w.heap.size w (w.alloc o) := below_one _ _
  have tt : Turn (fun k => (Value.slice av W.length cv).ownBlock = some k) (w.alloc o) w1 := ⟨hg.os, hg.tape, hg.output, hg.size, fun k hk hn => hg.block k hk (fun e => hn e.symm)⟩
  have q1 : QAt w1 b L S := (h.q.below hb).turn tt (fun k hk e => (ho k e).1 hk)
  have bl : Below w0.heap.size w0 w1 := (h.bel.trans (hb.mono h.bel.size)).trans (tt.below (fun k hk => (ho k hk).2.2) (by have := h.bel.size; simp; omega))
  refine ⟨q1.turn (Turn.setCell (F := fun k => k = p) rfl) (fun k hk e => h.np (e ▸ hk)), h.g, (h.far hg).set hm (fun k => by simp), ?_, h.np, fun g' hg' => ?_, h.lo, bl.setCell (p := ⟨p, m, none⟩) h.pl _, h.pl⟩
  · rw [List.length_append, List.map_append]
    exact owns_block0 own (fun g' hg' => Below.heap_setCell _ _ _ _ (by injection hg' with e; injection e with e; subst e; exact hgn.2))
  · injection hg' with e; injection e with e; subst e
    exact hgn
theorem popK (s q d : Int) (b : Nat) {l : List AskP} {S : Nat → Prop} (w : World) (h : QAt w b (A4 s q d 1 :: l) S) (hg : Qu.Good (A4 s q d 1 :: l)) : Calls Try.prog 13 #[.pointer (some ⟨b, 0, none⟩)] w
    fun e w' => e = .returned (.tuple #[.agg #[.int .i64 s, .int .i64 q, .int .i64 d, .int .i64 1, .int .i64 0, .string ⟨#[]⟩, .int .i64 0, .int .i64 0, .bool false, .int .i64 0, .string ⟨#[]⟩], .bool true]) ∧ QAt w' b l S ∧ Turn S w w' := qPop_any b w h hg
theorem intq_info : (Try.prog.info? 3).map (fun i => (i.zero, i.size, i.bytes)) = some (some (.int .i64 0), 1, 8) := by kernel_rfl
set_option maxHeartbeats 3200000 in
set_option maxRecDepth 100000 in
theorem queueFirst_any (a : Option Addr) (n cap : Nat) (zs : List Int) (w : World) (h : HoldsI .i64 w a n zs) (hn : n ≤ 9223372036854775807) :
    Calls Try.prog 6 #[.slice a n cap] w fun e w' => e = .returned (.bool true) ∧ Below w.heap.size w w' := by
  have H := Lib.hid h
  obtain ⟨i0, hi, hz0, hz1, hz2⟩ := info_parts intq_info
  clear h
  by_cases h24 : 24 < n
  · have d2 : decide ((n : Int) > 24) = true := by simp; omega
    have d3 : decide (24 < n) = true := by simp; omega
    go_enter Try.func6, Try.ntmps6
    go_wp2_with fail
    refine (awake_any _).mono ?_
    rintro e w' ⟨rfl, hb3⟩
    go_wp2_with fail
    go_ret
    exact ⟨rfl, hb3⟩
  · have d2 : decide ((n : Int) > 24) = false := by simp; omega
    have d3 : decide (24 < n) = false := by simp; omega
    go_enter Try.func6, Try.ntmps6
    go_wp2_with fail
    refine (qNew_any _).mono ?_
    rintro e w1 ⟨b, S0, rfl, q1, s1, b1⟩
    have Q1 := Lib.hid q1; have S1 := Lib.hid s1; have B1 := Lib.hid b1
    have SN := Lib.hid (seenAt_new w1 47)
    clear q1 s1 b1
    go_upto_region 8 with fail
    have F1 := Lib.hid (show First3 w (w1.alloc (.cells #[.bool false, .bool false, .bool false, .bool false, .bool false, .bool false, .bool false, .bool false, .bool false, .bool false, .bool false, .bool false, .bool false, .bool false, .bool false, .bool false, .bool false, .bool false, .bool false, .bool false, .bool false, .bool false, .bool false, .bool false] 47)) b w1.heap.size none 0 [] [] S0 from
      ⟨Q1.out.below (below_one _ _), Qu.good_nil, SN.out, World.ownsRow_nil _ _ _ _, fun hk => by have := Q1.out.lt _ hk; omega, fun g hg => (by cases hg), S1.out, B1.out.trans ((below_one _ _).mono B1.out.size), B1.out.size⟩)
    generalize w1.alloc (.cells #[.bool false, .bool false, .bool false, .bool false, .bool false, .bool false, .bool false, .bool false, .bool false, .bool false, .bool false, .bool false, .bool false, .bool false, .bool false, .bool false, .bool false, .bool false, .bool false, .bool false, .bool false, .bool false, .bool false, .bool false] 47) = w2 at *
    obtain ⟨p, hp⟩ : ∃ p, w1.heap.size = p := ⟨_, rfl⟩
    rw [hp] at F1
    rw [hp]
    clear hp SN Q1 S1 B1
    go_wp2_with fail
    go_loopw [5, 6] (fun ov iv wr => ∃ (j : Nat) (W : List Int) (qf : Int → Int) (av : Option Addr) (cv : Nat), j ≤ n ∧ W.length ≤ j ∧ iv = .int .i64 j ∧ ov = .slice av W.length cv ∧ Hid (∃ S, First3 w wr b p av cv W (Qu.qmap W qf) S) ∧ Hid (Qu.Wok W qf j)) (fun _ iv _ => n - (intOf iv).toNat)
    case atStart => exact ⟨0, [], fun _ => 0, none, 0, by omega, by simp, rfl, rfl, Lib.hid ⟨S0, F1.out⟩, Lib.hid (Qu.wok_nil _ _)⟩
    case round =>
      obtain ⟨j, W, qf, av, cv, hj, hWl, rfl, rfl, hF, hW⟩ := hrel
      obtain ⟨S, hF3⟩ := hF.out
      have F3 := Lib.hid hF3
      clear hF hF3
      by_cases hlt : j < n
      · obtain ⟨ab, ao, rfl, hc⟩ := (H.out.below F3.out.bel).at (by omega)
        have e1 := hc j hlt
        obtain ⟨z, hz⟩ : ∃ z, zs.getD j 0 = z := ⟨_, rfl⟩
        rw [hz] at e1
        obtain ⟨m, hm, hm24⟩ : ∃ m : Nat, lowV z 24 = (m : Int) ∧ m < 24 := by
          have := low_bd z 24 (by omega)
          exact ⟨(lowV z 24).toNat, by omega, by omega⟩
        have CW := Lib.hid (fun w => show Calls Try.prog 21 #[.int .i64 z, .int .i64 24] w fun e w' => e = .returned (.int .i64 (m : Int)) ∧ w = w' from hm ▸ low_any z 24 (by omega) (by omega) w)
        clear hc hz hm
        go_wp2_with fail
        refine (CW.out _).mono ?_
        rintro e w' ⟨rfl, rfl⟩
        clear CW
        have hmr : (0 : Int) ≤ (m : Int) ∧ (m : Int) < 24 := by omega
        have hpush : ∃ z, Qu.pushed (Qu.qmap W qf) (A4 ((m : Int) / 6) j ((m : Int) % 6) 1) = true ∧ Qu.push (Qu.qmap W qf) (A4 ((m : Int) / 6) j ((m : Int) % 6) 1) = z := by
          by_cases hmem : (m : Int) ∈ W
          · exact ⟨_, (Qu.push_seen hW.out hmem).1, rfl⟩
          · exact ⟨_, (Qu.push_fresh hW.out hmr hmem).1, rfl⟩
        obtain ⟨L', hp1, hp2⟩ := hpush
        have P1 := Lib.hid hp1; have P2 := Lib.hid hp2; have HMR := Lib.hid hmr
        clear hp1 hp2 hmr
        go_wp2_with fail
        refine (push_litS (A4 ((m : Int) / 6) j ((m : Int) % 6) 1) true L' b _ F3.out.q F3.out.g P1.out P2.out).mono ?_
        rintro e w4 ⟨rfl, S', q4, hs4, t4⟩
        have F4 := Lib.hid (F3.out.turn q4 (P2.out ▸ Qu.push_good F3.out.g _) hs4 t4)
        clear q4 hs4 t4 F3
        have c0 := F4.out.s.1 m hm24
        have f0 := F4.out.s.2 m
        have x1 : (0 : Int) ≤ (m : Int) := by omega
        have x2 : (m : Int) < 24 := by omega
        have lw := F4.out.bel.size
        by_cases hmem : (m : Int) ∈ W
        · rw [decide_eq_true hmem] at c0
          have R := Qu.push_seen hW.out hmem
          have e := R.2.1
          rw [P2.out] at e
          subst e
          have W5 := Lib.hid R.2.2
          have F5 := Lib.hid (F4.out.mark hm24 hmem)
          clear R hmem
          go_wp2_with fail
          go_roundw
          case rel => exact ⟨j + 1, W, Qu.qupd qf m j, av, cv, by omega, by omega, by go_num, rfl, Lib.hid ⟨S', F5.out⟩, by simpa using W5⟩
          case measure => simp [intOf] <;> omega
        · rw [decide_eq_false hmem] at c0
          have R := Qu.push_fresh hW.out HMR.out hmem
          have e := R.2.1
          rw [P2.out] at e
          subst e
          have W5 := Lib.hid R.2.2
          clear R hmem
          go_wp2_with (at_builtin; refine wpList_append_lies _ rfl (.tmp 44) (.tmp 46) 46 rfl w.heap.size 3 i0 _ 1 8 Try.underlying46 hi hz0 hz1 hz2 rfl (by omega) (.slice av W.length cv) W.length (W.map (Value.int .i64)) (by rfl) (F4.out.o.alloc _) ⟨w4.heap.size, 0, none⟩ 1 1 [.int .i64 m] (by rfl) (by rfl) (World.news_of_block (cs := #[.int .i64 m]) (t := 3) (fr := (0, 0)) (heap_alloc_new w4 _)) (by simp [Value.oneCell']) (by omega) (by unfold maxLen; omega) (by omega) (by simp <;> omega) (w4.heap.size + 1) (by simp) ?_; intro g3 c3 w5 hown5 hgrow5 hat5 hlt5; obtain ⟨y0, y1⟩ := F4.out.far hgrow5; replace y0 := y0 m hm24; replace y1 := y1 m)
          have F6 := Lib.hid (F4.out.grow hm24 hown5 hgrow5 hat5 (by simp))
          clear hown5 hgrow5 hat5 F4
          go_roundw
          case rel => exact ⟨j + 1, W ++ [(m : Int)], Qu.qupd qf m j, some ⟨g3, 0, none⟩, c3, by omega, by simpa using hWl, by go_num, by simp, Lib.hid ⟨S', F6.out⟩, by simpa using W5⟩
          case measure => simp [intOf] <;> omega
      · obtain rfl : j = n := by omega
        obtain ⟨r, hr⟩ : ∃ r, W.length = r := ⟨_, rfl⟩
        have HR := Lib.hid hr
        rw [hr] at hWl
        rw [hr]
        have O0 := Lib.hid (show r ≤ 24 by omega)
        clear hr hlt
        go_wp2_with fail
        go_loopw [8] (fun iv wr => ∃ i : Nat, i ≤ r ∧ iv = .int .i64 i ∧ Hid (∃ S, First3 w wr b p av cv W ((Qu.qmap W qf).drop i) S)) (fun iv _ => r - (intOf iv).toNat)
        case atStart => exact ⟨0, by omega, rfl, Lib.hid ⟨S, F3.out⟩⟩
        case round =>
          obtain ⟨i, hi', rfl, hF⟩ := hrel
          obtain ⟨S2, hF2⟩ := hF.out
          have F7 := Lib.hid hF2
          clear hF hF2
          by_cases hlt : i < r
          · obtain ⟨k, hk⟩ : ∃ k, W.getD i 0 = k := ⟨_, rfl⟩
            have hiW : i < W.length := by rw [HR.out]; exact hlt
            have hkm : k ∈ W := by rw [← hk, List.getD_eq_getElem?_getD, List.getElem?_eq_getElem hiW]; simp
            have hkr := hW.out.rng k hkm
            have hdrop : (Qu.qmap W qf).drop i = A4 (k / 6) (qf k) (k % 6) 1 :: (Qu.qmap W qf).drop (i + 1) := by
              have e1 : (Qu.qmap W qf).length = W.length := by simp [Qu.qmap]
              rw [List.drop_eq_getElem_cons (by omega)]
              congr 1
              have e2 : W[i] = k := by rw [← hk, List.getD_eq_getElem?_getD, List.getElem?_eq_getElem hiW]; rfl
              simp only [Qu.qmap, List.getElem_map, e2]; rfl
            have hq := F7.out.q
            have hg := F7.out.g
            rw [hdrop] at hq hg
            have HD := Lib.hid hdrop
            have CP := Lib.hid (popK (k / 6) (qf k) (k % 6) b _ hq hg)
            have HG := Lib.hid hg
            obtain ⟨g, rfl⟩ : ∃ g, av = some ⟨g, 0, none⟩ := by
              obtain ⟨g, cap', hv⟩ := Joins.ownsRow_form F7.out.o (by omega)
              simp only [Value.slice.injEq] at hv
              exact ⟨g, hv.1⟩
            have KW := Lib.hid (show (W.map (Value.int .i64))[i]? = some (.int .i64 k) from by rw [List.getElem?_map, List.getElem?_eq_getElem hiW]; simp only [Option.map_some]; rw [← hk, List.getD_eq_getElem?_getD, List.getElem?_eq_getElem hiW]; rfl)
            have HIW := Lib.hid hiW
            obtain ⟨hk0, hk1⟩ := hkr
            clear hk hkm hq hg hdrop hiW
            go_wp2_with fail
            refine CP.out.mono ?_
            rintro e w5 ⟨rfl, q5, t5⟩
            have hF8 : First3 w w5 b p (some ⟨g, 0, none⟩) cv W ((Qu.qmap W qf).drop (i + 1)) S2 := by
              have hF7 := F7.out
              exact hF7.turn q5 (by have := Qu.tail_good HG.out; simpa using this) (fun k hk => Or.inl hk) t5
            have F8 := Lib.hid (hF8.more (below_one w5 (.cells #[.int .i64 (k / 6), .int .i64 (qf k), .int .i64 (k % 6), .int .i64 1, .int .i64 0, .string ⟨#[]⟩, .int .i64 0, .int .i64 0, .bool false, .int .i64 0, .string ⟨#[]⟩] 34)))
            have A8 := Lib.hid (askIn_new w5 (A4 (k / 6) (qf k) (k % 6) 1) w5.heap.size 34 (0, 0) rfl)
            clear q5 t5 CP hF8
            go_upto_region 21 with fail
            have hA := A8.out
            have hF9 := F8.out
            obtain ⟨a0, -, a2, -⟩ := hA
            have e0 := (hF9.o.cellAt i (by have := HIW.out; omega)).trans KW.out
            have s1 : IntKind.i64.wrap (k / 6 * 6) = k / 6 * 6 := IntWalk.i64_in _ (by omega)
            have s2 : IntKind.i64.wrap (k / 6 * 6 + k % 6) = k := by rw [IntWalk.i64_in _ (by omega)]; omega
            have s3 : (k != k) = false := by simp
            have s4 : k / 6 * 6 + k % 6 = k := by omega
            have x1 : (0 : Int) ≤ (i : Int) := by omega
            have x2 : (i : Int) < (r : Int) := by omega
            have H10 := Lib.hid (fun w' hb => hF9.more (w' := w') hb)
            simp only [A4] at a0 a2
            clear F8 A8 hF9
            go_quiet (fail)
            go_wp2_with fail
            go_roundw
            case rel => exact ⟨i + 1, by omega, by go_num, Lib.hid ⟨S2, H10.out _ (below_drewN _ _)⟩⟩
            case measure => simp [intOf] <;> omega
          · obtain rfl : i = r := by omega
            have hdrop : (Qu.qmap W qf).drop i = [] := List.drop_of_length_le (by rw [Qu.qmap, List.length_map, HR.out]; exact Nat.le_refl _)
            have hq := F7.out.q
            rw [hdrop] at hq
            have CP := Lib.hid (qPop_empty b _ hq)
            have BB := Lib.hid F7.out.bel
            clear hq hdrop F7
            go_wp2_with fail
            refine CP.out.mono ?_
            rintro e w5 ⟨rfl, hb⟩
            have B5 := Lib.hid (BB.out.trans (hb.mono BB.out.size))
            clear hb CP
            go_wp2_with fail
            refine (awake_any _).mono ?_
            rintro e w6 ⟨rfl, hb⟩
            have B6 := Lib.hid ((B5.out.trans ((below_one w5 _).mono B5.out.size)).trans (hb.mono (Nat.le_trans B5.out.size (below_one w5 _).size)))
            clear hb
            go_wp2_with fail
            go_ret
            exact ⟨rfl, B6.out⟩
open Go.ChangeShapes Go.WideShapes Go.ChangeAt in
theorem queueFirst_walk {H : Type} {enc : TypeId × Value → H} (W : World) (base : Nat) (v0 : Value) (d0 : DataW H) (p0 : List MemPlace)
    (h0 : DataW.Trod enc Try.prog W 0 (fun _ => true) true 46 v0 d0 p0) (o0 : Value.okWide Try.prog W .any base 46 v0) :
    Calls Try.prog 6 #[v0] W fun e w' => e = .returned (.bool true) ∧ RowKit.Below W.heap.size W w' := by
  obtain ⟨a, n, cap, zs, rfl, hh, _, h1, h2, _⟩ := open_ints_arg Try.underlying46 Try.underlying3 (by kernel_rfl) o0 h0
  exact queueFirst_any a n cap zs W hh (by unfold maxLen at h2; omega)
end Go.Proofs.Ythcfpohgjgbhpaa
/- queue: of each slot and shard there is one at most -/
namespace Go.Proofs.Ythcfpohgjgbhpaa
open Go.RowKit
set_option linter.unusedVariables false
set_option maxRecDepth 20000
theorem AskP.ext' {x y : AskP} (h0 : x.slot = y.slot) (h1 : x.query = y.query) (h2 : x.shard = y.shard) (h3 : x.seq = y.seq) (h4 : x.epoch = y.epoch) (h5 : x.text.toList = y.text.toList) (h6 : x.k = y.k) (h7 : x.batch = y.batch) (h8 : x.first = y.first) (h9 : x.ad = y.ad) (h10 : x.aw.toList = y.aw.toList) : x = y := by
  have inj : ∀ {a b : ByteArray}, a.toList = b.toList → a = b := by
    intro a b h
    rw [ByteArray.toList_eq, ByteArray.toList_eq] at h
    exact ByteArray.ext (Array.toList_inj.1 h)
  have e5 := inj h5
  have e10 := inj h10
  cases x; cases y
  simp only at *
  subst h0 h1 h2 h3 h4 e5 h6 h7 h8 h9 e10
  rfl
theorem ask_unlike {x y : AskP} (h : x ≠ y) (w : World) : (Op.equalIn 10000 34 (.agg #[.int .i64 x.slot, .int .i64 x.query, .int .i64 x.shard, .int .i64 x.seq, .int .i64 x.epoch, .string x.text, .int .i64 x.k, .int .i64 x.batch, .bool x.first, .int .i64 x.ad, .string x.aw]) (.agg #[.int .i64 y.slot, .int .i64 y.query, .int .i64 y.shard, .int .i64 y.seq, .int .i64 y.epoch, .string y.text, .int .i64 y.k, .int .i64 y.batch, .bool y.first, .int .i64 y.ad, .string y.aw])).run Try.prog w = .ok false w := by
  go_simp
  intro h0 h1 h2 h3 h4 h5 h6 h7 h8 h9 h10
  exact h (AskP.ext' h0 h1 h2 h3 h4 h5 h6 h7 h8 h9 h10)
theorem ask_alike (x : AskP) (w : World) : (Op.equalIn 10000 34 (.agg #[.int .i64 x.slot, .int .i64 x.query, .int .i64 x.shard, .int .i64 x.seq, .int .i64 x.epoch, .string x.text, .int .i64 x.k, .int .i64 x.batch, .bool x.first, .int .i64 x.ad, .string x.aw]) (.agg #[.int .i64 x.slot, .int .i64 x.query, .int .i64 x.shard, .int .i64 x.seq, .int .i64 x.epoch, .string x.text, .int .i64 x.k, .int .i64 x.batch, .bool x.first, .int .i64 x.ad, .string x.aw])).run Try.prog w = .ok true w := by
  have f5 := ss_q x.text
  have f10 := ss_q x.aw
  go_simp
theorem ActIn.of {w w' : World} {b o : Nat} {x : QAct} (h : ActIn w b o x) (e : w'.heap[b]? = w.heap[b]?) : ActIn w' b o x := by
  have c : ∀ i, w'.cell? ⟨b, i, none⟩ = w.cell? ⟨b, i, none⟩ := fun i => World.cell?_of_block (w := w) e
  unfold ActIn at *
  rw [c, c, c, c, c, c, c, c, c, c, c, c, c, c]
  exact h
/-- what stands at k behind a push -/
theorem push_getD {L : List AskP} {a : AskP} {k : Nat} (hk : k < L.length) (hp : Qu.pushed L a = true) : (Qu.push L a).getD k ask0 = L.getD k ask0 ∨ ((Qu.push L a).getD k ask0 = a ∧ (L.getD k ask0).slot = a.slot ∧ (L.getD k ask0).shard = a.shard) := by
  unfold Qu.push
  rw [if_pos hp]
  cases hf : Qu.find L a.slot a.shard with
  | none => left; simp [List.getD_eq_getElem?_getD, List.getElem?_append_left hk]
  | some x =>
    show (Qu.put L a).getD k ask0 = _ ∨ _
    have e : L.getD k ask0 = L[k] := by rw [List.getD_eq_getElem?_getD, List.getElem?_eq_getElem hk]; rfl
    have e2 : (Qu.put L a).getD k ask0 = if Qu.same L[k] a.slot a.shard then a else L[k] := by
      unfold Qu.put
      rw [List.getD_eq_getElem?_getD, List.getElem?_map, List.getElem?_eq_getElem hk]; rfl
    rw [e, e2]
    by_cases h : Qu.same L[k] a.slot a.shard
    · right; rw [if_pos h]; exact ⟨rfl, h.1, h.2⟩
    · left; rw [if_neg h]
theorem push_len {L : List AskP} {a : AskP} (hp : Qu.pushed L a = true) : (Qu.push L a).length = L.length ∨ (Qu.push L a).length = L.length + 1 := by
  unfold Qu.push
  rw [if_pos hp]
  cases hf : Qu.find L a.slot a.shard with
  | none => right; simp
  | some x => left; exact Qu.put_len L a
theorem good_apart {L : List AskP} (hg : Qu.Good L) {j k : Nat} (hjk : j < k) (hk : k < L.length) : ¬ ((L.getD j ask0).slot = (L.getD k ask0).slot ∧ (L.getD j ask0).shard = (L.getD k ask0).shard) := by
  have e : ∀ i, (h : i < L.length) → L.getD i ask0 = L[i] := fun i h => by rw [List.getD_eq_getElem?_getD, List.getElem?_eq_getElem h]; rfl
  rw [e j (by omega), e k hk]
  exact (List.pairwise_iff_getElem.1 hg.apart) j k (by omega) hk hjk
set_option maxHeartbeats 3200000 in
set_option maxRecDepth 100000 in
theorem queueOne_any (a : Option Addr) (n cap : Nat) (xs : Nat → QAct) (w : World) (h : HoldsQA w a n xs) (hn : n ≤ 9223372036854775807) (hok : ∀ i, i < n → QActOk (xs i)) :
    Calls Try.prog 4 #[.slice a n cap] w fun e w' => e = .returned (.bool true) ∧ Below w.heap.size w w' := by
  have H := Lib.hid h
  have CG := Lib.hid (great_any a n cap xs w h hn hok)
  clear h hok
  go_enter Try.func4, Try.ntmps4
  go_wp2_with fail
  refine CG.out.mono ?_
  rintro e w' ⟨z, rfl, rfl, hz⟩
  clear CG
  cases z
  · have hn100 := hz rfl
    clear hz
    go_wp2_with fail
    refine (new_fine _).mono ?_
    rintro e w1 ⟨b, rfl, h1⟩
    have F1 := Lib.hid h1
    clear h1
    go_wp2_with fail
    go_loopw [4] (fun iv wr => ∃ j : Nat, j ≤ n ∧ iv = .int .i64 j ∧ Hid (∃ L, Fine w wr b L ∧ Qu.Good L)) (fun iv _ => n - (intOf iv).toNat)
    case atStart => exact ⟨0, by omega, rfl, Lib.hid ⟨[], F1.out, Qu.good_nil⟩⟩
    case round =>
      obtain ⟨j, hj, rfl, hF⟩ := hrel
      obtain ⟨L, hFL, hG⟩ := hF.out
      have FL := Lib.hid hFL; have GL := Lib.hid hG
      have hl24 := Qu.good_len hG
      clear hF hFL hG
      by_cases hlt : j < n
      · rename World => wr
        obtain ⟨ab, ao, rfl, hc⟩ := (H.out.below FL.out.bel) (by omega)
        have HX := Lib.hid (hc j hlt)
        obtain ⟨x, hxx⟩ : ∃ x, xs j = x := ⟨_, rfl⟩
        rw [hxx] at HX
        obtain ⟨r, hr⟩ : ∃ r, L.length = r := ⟨_, rfl⟩
        rw [hr] at hl24
        have HR := Lib.hid hr
        clear hc hxx hr
        go_wp2_with fail
        refine (all_fine _ FL.out GL.out).mono ?_
        rintro e w2 ⟨wa, wc, rfl, ho, hb⟩
        rw [HR.out] at ho
        rw [HR.out]
        have O2 := Lib.hid ho
        have F2 := Lib.hid (FL.out.more hb)
        have SZ := Lib.hid hb.size
        have hX2 := HX.out.below hb
        obtain ⟨S, q2, s2, bb2⟩ := FL.out
        have SL := Lib.hid q2.lt
        have Q2 := Lib.hid (q2.below hb); have S2 := Lib.hid s2; have BB2 := Lib.hid (bb2.trans (hb.mono bb2.size))
        have A3 := Lib.hid (actIn_new w2 x 36 (0, 0))
        have B3 := Lib.hid (below_one w2 (.cells #[.int .i64 x.do_, .int .i64 x.slot, .int .i64 x.query, .int .i64 x.a.slot, .int .i64 x.a.query, .int .i64 x.a.shard, .int .i64 x.a.seq, .int .i64 x.a.epoch, .string x.a.text, .int .i64 x.a.k, .int .i64 x.a.batch, .bool x.a.first, .int .i64 x.a.ad, .string x.a.aw] 36))
        unfold ActIn at hX2
        obtain ⟨x0, x1, x2, x3, x4, x5, x6, x7, x8, x9, x10, x11, x12, x13⟩ := hX2
        clear ho hb q2 s2 bb2 FL F2
        go_upto_if 34 with fail
        clear x0 x1 x2 x3 x4 x5 x6 x7 x8 x9 x10 x11 x12 x13
        have O3 := Lib.hid (owns_below O2.out B3.out)
        have Q3 := Lib.hid (Q2.out.below B3.out)
        have BB3 := Lib.hid (BB2.out.trans (B3.out.mono BB2.out.size))
        generalize w2.alloc (.cells #[.int .i64 x.do_, .int .i64 x.slot, .int .i64 x.query, .int .i64 x.a.slot, .int .i64 x.a.query, .int .i64 x.a.shard, .int .i64 x.a.seq, .int .i64 x.a.epoch, .string x.a.text, .int .i64 x.a.k, .int .i64 x.a.batch, .bool x.a.first, .int .i64 x.a.ad, .string x.a.aw] 36) = w3 at *
        obtain ⟨p, hp⟩ : ∃ p, w2.heap.size = p := ⟨_, rfl⟩
        rw [hp] at A3
        rw [hp]
        have SZP := Lib.hid (show wr.heap.size ≤ p from by rw [← hp]; exact SZ.out)
        clear hp O2 Q2 BB2 B3
        go_cut [5] from 20 to 164 (fun v wc' => v = .slice wa r wc ∧ Hid (∃ L2, Fine w wc' b L2 ∧ Qu.Good L2))
        case first =>
          by_cases hd1 : x.do_ = 1
          · have d1 : (x.do_ == 1) = true := by simpa using hd1
            clear hd1
            by_cases hr0 : r = 0
            · have hL : L = [] := List.length_eq_zero_iff.1 (by rw [HR.out]; exact hr0)
              subst hr0
              have hq := Q3.out
              rw [hL] at hq
              have CP := Lib.hid (qPop_empty b _ hq)
              have FE := Lib.hid (show Fine w w3 b [] from ⟨S, hq, S2.out, BB3.out⟩)
              clear hL hq
              go_wp2_with fail
              refine CP.out.mono ?_
              rintro e w5 ⟨rfl, hb⟩
              have F5 := Lib.hid (FE.out.more hb)
              clear hb CP FE
              go_wp2_with fail
              go_quiet (fail)
              go_wp2_with fail
              go_meet
              exact ⟨rfl, Lib.hid ⟨[], (F5.out.more (below_one _ _)).more (below_drewN _ _), Qu.good_nil⟩⟩
            · obtain ⟨y, l, hL⟩ : ∃ y l, L = y :: l := by
                cases L with
                | nil => exact absurd (HR.out.symm.trans rfl) hr0
                | cons y l => exact ⟨y, l, rfl⟩
              have hq := Q3.out
              have hg := GL.out
              rw [hL] at hq hg
              have CP := Lib.hid (qPop_any b _ hq hg)
              have G2 := Lib.hid (show Qu.Good l from by have := Qu.tail_good hg; simpa using this)
              have Y0 := Lib.hid (show L.getD 0 ask0 = y from by rw [hL]; rfl)
              have c1 : decide ((r : Int) > 0) = true := by simp; omega
              have c2 : decide (0 < r) = true := by simp; omega
              have c3 : 0 < r := by omega
              have x1 : (0 : Int) < (r : Int) := by omega
              clear hL hq hg hr0
              go_wp2_with fail
              refine CP.out.mono ?_
              rintro e w5 ⟨rfl, q5, t5⟩
              have O5 := Lib.hid (owns_turn O3.out t5 SL.out)
              have F5 := Lib.hid (show Fine w w5 b l from ⟨S, q5, S2.out, BB3.out.trans (t5.below S2.out BB3.out.size)⟩)
              have A6 := Lib.hid (askIn_new w5 y w5.heap.size 34 (0, 0) rfl)
              have O6 := Lib.hid (owns_below O5.out (below_one w5 (.cells #[.int .i64 y.slot, .int .i64 y.query, .int .i64 y.shard, .int .i64 y.seq, .int .i64 y.epoch, .string y.text, .int .i64 y.k, .int .i64 y.batch, .bool y.first, .int .i64 y.ad, .string y.aw] 34)))
              have F6 := Lib.hid (F5.out.more (below_one w5 (.cells #[.int .i64 y.slot, .int .i64 y.query, .int .i64 y.shard, .int .i64 y.seq, .int .i64 y.epoch, .string y.text, .int .i64 y.k, .int .i64 y.batch, .bool y.first, .int .i64 y.ad, .string y.aw] 34)))
              clear q5 t5 CP O5 F5
              go_upto_region 13 with fail
              have hW := HoldsAsk.own O6.out
              obtain ⟨pb, po, rfl, hc⟩ := hW.at c3
              have hc0 := hc 0 c3
              rw [Y0.out] at hc0
              simp only [Nat.zero_mul, Nat.add_zero] at hc0
              obtain ⟨b0, b1, b2, b3, b4, b5, b6, b7, b8, b9, b10⟩ := hc0
              have hA := A6.out
              unfold AskIn at hA
              obtain ⟨a0, a1, a2, a3, a4, a5, a6, a7, a8, a9, a10⟩ := hA
              have heq := fun w => ask_alike y w
              clear hc hW
              go_quiet (fail)
              go_wp2_with fail
              go_meet
              exact ⟨rfl, Lib.hid ⟨l, F6.out.more (below_drewN _ _), G2.out⟩⟩
          · have d1 : (x.do_ == 1) = false := by simpa using hd1
            clear hd1
            by_cases hd0 : x.do_ = 0
            · have d0 : (x.do_ == 0) = true := by simpa using hd0
              obtain ⟨z, hz⟩ : ∃ z, Qu.pushed L x.a = z := ⟨_, rfl⟩
              obtain ⟨L2, hL2⟩ : ∃ L2, Qu.push L x.a = L2 := ⟨_, rfl⟩
              have CP := Lib.hid (push_litS x.a z L2 b w3 Q3.out GL.out hz hL2)
              have G2 := Lib.hid (show Qu.Good L2 from hL2 ▸ Qu.push_good GL.out x.a)
              have HZ := Lib.hid hz; have HL2 := Lib.hid hL2
              have hA := A3.out
              unfold ActIn at hA
              simp only [Nat.zero_add] at hA
              obtain ⟨x0, x1, x2, x3, x4, x5, x6, x7, x8, x9, x10, x11, x12, x13⟩ := hA
              have lp := Lib.hid (lt_of_cell A3.out.1)
              clear hd0 hz hL2
              go_wp2_with fail
              refine CP.out.mono ?_
              rintro e w5 ⟨rfl, S5, q5, hs5, t5⟩
              have O5 := Lib.hid (owns_turn O3.out t5 SL.out)
              have F5 := Lib.hid (Fine.then Q3.out S2.out BB3.out q5 hs5 t5)
              have A5 := Lib.hid (A3.out.of (t5.block p lp.out (fun hk => by have := SL.out p hk; have := SZP.out; omega)))
              clear q5 hs5 t5 CP x0 x1 x2 x3 x4 x5 x6 x7 x8 x9 x10 x11 x12 x13
              cases z
              · go_wp2_with fail
                go_meet
                exact ⟨rfl, Lib.hid ⟨L2, F5.out, G2.out⟩⟩
              · obtain ⟨r2, hr2⟩ : ∃ r2, L2.length = r2 := ⟨_, rfl⟩
                have R2 := Lib.hid hr2
                have hlen := push_len HZ.out
                rw [HL2.out, hr2, HR.out] at hlen
                have c1 : decide (r2 < r) = false := by simp; omega
                have c2 : IntKind.i64.wrap ((r : Int) + 1) = (r : Int) + 1 := IntWalk.i64_in _ (by omega)
                have c3 : decide ((r2 : Int) > (r : Int) + 1) = false := by simp; omega
                have c4 : decide ((r : Int) + 1 < (r2 : Int)) = false := by simp; omega
                have c5 : (r2 : Int) ≤ (r : Int) + 1 := by omega
                have c6 : r ≤ r2 := by omega
                clear hr2 hlen
                go_wp2_with fail
                refine (all_fine _ F5.out G2.out).mono ?_
                rintro e w6 ⟨na, nc, rfl, ho, hb⟩
                rw [R2.out] at ho
                rw [R2.out]
                have N6 := Lib.hid (HoldsAsk.own ho)
                have W6 := Lib.hid (HoldsAsk.own (owns_below O5.out hb))
                have A6 := Lib.hid (A5.out.below hb)
                have F6 := Lib.hid (F5.out.more hb)
                clear ho hb O5 A5 F5
                go_wp2_with fail
                go_loopw [10] (fun iv wz => ∃ k : Nat, k ≤ r ∧ iv = .int .i64 k ∧ Hid (Below w6.heap.size w6 wz)) (fun iv _ => r - (intOf iv).toNat)
                case atStart => exact ⟨0, by omega, rfl, Lib.hid (Below.refl _ _)⟩
                case round =>
                  obtain ⟨k, hk, rfl, hB⟩ := hrel
                  by_cases hlk : k < r
                  · obtain ⟨pb, po, rfl, hcn⟩ := (N6.out.below hB.out).at (by omega)
                    obtain ⟨ub, uo, rfl, hcu⟩ := (W6.out.below hB.out).at (by omega)
                    have hn' := hcn k (by omega)
                    have hu' := hcu k hlk
                    have hpg := push_getD (L := L) (a := x.a) (k := k) (by rw [HR.out]; exact hlk) HZ.out
                    rw [HL2.out] at hpg
                    have hA := A6.out.below hB.out
                    unfold ActIn at hA
                    simp only [Nat.zero_add] at hA
                    obtain ⟨y, hy⟩ : ∃ y, L.getD k ask0 = y := ⟨_, rfl⟩
                    obtain ⟨v, hv⟩ : ∃ v, L2.getD k ask0 = v := ⟨_, rfl⟩
                    rw [hy] at hu' hpg
                    rw [hv] at hn' hpg
                    have k1 : (0 : Int) ≤ (k : Int) := by omega
                    have k2 : (k : Int) < (r : Int) := by omega
                    have k3 : (k : Int) < (r2 : Int) := by omega
                    have k4 : k < r2 := by omega
                    obtain ⟨x0, x1, x2, x3, x4, x5, x6, x7, x8, x9, x10, x11, x12, x13⟩ := hA
                    obtain ⟨b0, b1, b2, b3, b4, b5, b6, b7, b8, b9, b10⟩ := hu'
                    clear hcn hcu hy hv
                    have hcase : v = y ∨ (v = x.a ∧ x.a ≠ y ∧ y.slot = x.a.slot ∧ y.shard = x.a.shard) := by
                      rcases hpg with e | ⟨e1, e2, e3⟩
                      · exact Or.inl e
                      · by_cases e : x.a = y
                        · exact Or.inl (e1.trans e)
                        · exact Or.inr ⟨e1, e, e2, e3⟩
                    clear hpg
                    rcases hcase with rfl | ⟨rfl, hne, hs1, hs2⟩
                    · obtain ⟨a0, a1, a2, a3, a4, a5, a6, a7, a8, a9, a10⟩ := hn'
                      have heq := fun w => ask_alike v w
                      go_wp2_with fail
                      go_quiet (fail)
                      go_wp2_with fail
                      go_roundw
                      case rel => exact ⟨k + 1, by omega, by go_num, Lib.hid (hB.out.trans ((below_drewN _ _).mono hB.out.size))⟩
                      case measure => simp [intOf] <;> omega
                    · obtain ⟨a0, a1, a2, a3, a4, a5, a6, a7, a8, a9, a10⟩ := hn'
                      have heq := fun w => ask_unlike hne w
                      have heq2 := fun w => ask_alike x.a w
                      have s1 : (y.slot != x.a.slot) = false := by simpa using hs1
                      have s2 : (y.shard != x.a.shard) = false := by simpa using hs2
                      clear hne hs1 hs2
                      go_wp2_with fail
                      go_quiet (fail)
                      go_wp2_with fail
                      go_roundw
                      case rel => exact ⟨k + 1, by omega, by go_num, Lib.hid (hB.out.trans ((below_drewN _ _).mono hB.out.size))⟩
                      case measure => simp [intOf] <;> omega
                  · obtain rfl : k = r := by omega
                    go_wp2_with fail
                    go_meet
                    exact ⟨rfl, Lib.hid ⟨L2, F6.out.more hB.out, G2.out⟩⟩
            · have d0 : (x.do_ == 0) = false := by simpa using hd0
              have hA := A3.out
              unfold ActIn at hA
              simp only [Nat.zero_add] at hA
              obtain ⟨x0, x1, x2, x3, x4, x5, x6, x7, x8, x9, x10, x11, x12, x13⟩ := hA
              clear hd0
              go_wp2_with fail
              go_meet
              exact ⟨rfl, Lib.hid ⟨L, ⟨S, Q3.out, S2.out, BB3.out⟩, GL.out⟩⟩
        case rest =>
          obtain ⟨rfl, hF⟩ := hcut
          obtain ⟨L2, hF2, hG2⟩ := hF.out
          have F7 := Lib.hid hF2; have G7 := Lib.hid hG2
          have hl2 := Qu.good_len hG2
          obtain ⟨r2, hr2⟩ : ∃ r2, L2.length = r2 := ⟨_, rfl⟩
          rw [hr2] at hl2
          have R2 := Lib.hid hr2
          clear hF hF2 hG2 hr2
          go_wp2_with fail
          refine (all_fine _ F7.out G7.out).mono ?_
          rintro e w8 ⟨na, nc, rfl, ho, hb⟩
          rw [R2.out] at ho
          rw [R2.out]
          have N8 := Lib.hid (HoldsAsk.own ho)
          have F8 := Lib.hid (F7.out.more hb)
          clear ho hb F7
          go_wp2_with fail
          go_loopw [12] (fun iv wz => ∃ k : Nat, k ≤ r2 ∧ iv = .int .i64 k ∧ Hid (Below w8.heap.size w8 wz)) (fun iv _ => r2 - (intOf iv).toNat)
          case atStart => exact ⟨0, by omega, rfl, Lib.hid (Below.refl _ _)⟩
          case round =>
            obtain ⟨k, hk, rfl, hB⟩ := hrel
            by_cases hlk : k < r2
            · go_wp2_with fail
              go_loopw [13] (fun iv wz => ∃ i : Nat, i ≤ k ∧ iv = .int .i64 i ∧ Hid (Below w8.heap.size w8 wz)) (fun iv _ => k - (intOf iv).toNat)
              case atStart => exact ⟨0, by omega, rfl, hB⟩
              case round =>
                obtain ⟨i, hi2, rfl, hB2⟩ := hrel
                by_cases hli : i < k
                · obtain ⟨pb, po, rfl, hcn⟩ := (N8.out.below hB2.out).at (by omega)
                  have hi' := hcn i (by omega)
                  have hk' := hcn k hlk
                  have hap := good_apart G7.out hli (by rw [R2.out]; exact hlk)
                  obtain ⟨y, hy⟩ : ∃ y, L2.getD i ask0 = y := ⟨_, rfl⟩
                  obtain ⟨v, hv⟩ : ∃ v, L2.getD k ask0 = v := ⟨_, rfl⟩
                  rw [hy] at hi' hap
                  rw [hv] at hk' hap
                  obtain ⟨a0, -, a2, -⟩ := hi'
                  obtain ⟨b0, -, b2, -⟩ := hk'
                  have k1 : (0 : Int) ≤ (k : Int) := by omega
                  have k2 : (k : Int) < (r2 : Int) := by omega
                  have k3 : (0 : Int) ≤ (i : Int) := by omega
                  have k4 : (i : Int) < (r2 : Int) := by omega
                  have k5 : i < r2 := by omega
                  clear hcn hy hv
                  by_cases hs : y.slot = v.slot
                  · have d1 : (y.slot == v.slot) = true := by simpa using hs
                    have d2 : (y.shard == v.shard) = false := by
                      have : ¬ y.shard = v.shard := fun h => hap ⟨hs, h⟩
                      simpa using this
                    clear hs hap
                    go_wp2_with fail
                    go_quiet (fail)
                    go_wp2_with fail
                    go_roundw
                    case rel => exact ⟨i + 1, by omega, by go_num, Lib.hid (hB2.out.trans ((below_drewN _ _).mono hB2.out.size))⟩
                    case measure => simp [intOf] <;> omega
                  · have d1 : (y.slot == v.slot) = false := by simpa using hs
                    clear hs hap
                    go_wp2_with fail
                    go_quiet (fail)
                    go_wp2_with fail
                    go_roundw
                    case rel => exact ⟨i + 1, by omega, by go_num, Lib.hid (hB2.out.trans ((below_drewN _ _).mono hB2.out.size))⟩
                    case measure => simp [intOf] <;> omega
                · obtain rfl : i = k := by omega
                  go_wp2_with fail
                  go_roundw
                  case rel => exact ⟨i + 1, by omega, by go_num, hB2⟩
                  case measure => simp [intOf] <;> omega
            · obtain rfl : k = r2 := by omega
              have c1 : decide ((k : Int) > 24) = false := by simp; omega
              have c2 : decide (24 < k) = false := by simp; omega
              have F9 := Lib.hid (F8.out.more hB.out)
              go_wp2_with fail
              go_roundw
              case rel => exact ⟨j + 1, by omega, by go_num, Lib.hid ⟨L2, F9.out, G7.out⟩⟩
              case measure => simp [intOf] <;> omega
      · obtain rfl : j = n := by omega
        have BE := Lib.hid FL.out.bel
        go_wp2_with fail
        refine (awake_any _).mono ?_
        rintro e w8 ⟨rfl, hb⟩
        have B8 := Lib.hid (BE.out.trans (hb.mono BE.out.size))
        clear hb
        go_wp2_with fail
        go_ret
        exact ⟨rfl, B8.out⟩
  · go_wp2_with fail
    refine (awake_any _).mono ?_
    rintro e w' ⟨rfl, hb3⟩
    go_wp2_with fail
    go_ret
    exact ⟨rfl, hb3⟩
open Go.ChangeShapes Go.WideShapes Go.ChangeAt in
theorem queueOne_walk {H : Type} {enc : TypeId × Value → H} (W : World) (base : Nat) (v0 : Value) (d0 : DataW H) (p0 : List MemPlace)
    (h0 : DataW.Trod enc Try.prog W 0 (fun _ => true) true 22 v0 d0 p0) (o0 : Value.okWide Try.prog W .any base 22 v0) :
    Calls Try.prog 4 #[v0] W fun e w' => e = .returned (.bool true) ∧ RowKit.Below W.heap.size W w' := by
  obtain ⟨a, n, cap, xs, rfl, hh, hn, hok⟩ := open_qacts_arg o0 h0
  exact queueOne_any a n cap xs W hh (by unfold maxLen at hn; exact hn) hok
end Go.Proofs.Ythcfpohgjgbhpaa
