/- queue: of each slot and shard there is one at most -/
import Derived.Test.YthcfpohgjgbhpaaQQueueStopsW
import Derived.Test.YthcfpohgjgbhpaaQQueueFirstW
import Derived.Laws.StructEq
import Derived.Deep.DeepCutAuto
namespace Go.Proofs.Ythcfpohgjgbhpaa
open Go.RowKit
set_option linter.unusedVariables false
set_option maxRecDepth 20000
theorem AskP.ext' {x y : AskP} (h0 : x.slot = y.slot) (h1 : x.query = y.query) (h2 : x.shard = y.shard) (h3 : x.seq = y.seq) (h4 : x.epoch = y.epoch) (h5 : x.text.toList = y.text.toList) (h6 : x.k = y.k) (h7 : x.batch = y.batch) (h8 : x.first = y.first) (h9 : x.ad = y.ad) (h10 : x.aw.toList = y.aw.toList) : x = y := by
  have inj : ∀ {a b : ByteArray}, a.toList = b.toList → a = b := by
    intro a b h
    rw [ByteArray.toList_eq, ByteArray.toList_eq] at h
    exact ByteArray.ext (Array.toList_inj.1 h)
  have e5 := inj h5
  have e10 := inj h10
  cases x; cases y
  simp only at *
  subst h0 h1 h2 h3 h4 e5 h6 h7 h8 h9 e10
  rfl
theorem ask_unlike {x y : AskP} (h : x ≠ y) (w : World) : (Op.equalIn 10000 34 (.agg #[.int .i64 x.slot, .int .i64 x.query, .int .i64 x.shard, .int .i64 x.seq, .int .i64 x.epoch, .string x.text, .int .i64 x.k, .int .i64 x.batch, .bool x.first, .int .i64 x.ad, .string x.aw]) (.agg #[.int .i64 y.slot, .int .i64 y.query, .int .i64 y.shard, .int .i64 y.seq, .int .i64 y.epoch, .string y.text, .int .i64 y.k, .int .i64 y.batch, .bool y.first, .int .i64 y.ad, .string y.aw])).run Try.prog w = .ok false w := by
  go_simp
  intro h0 h1 h2 h3 h4 h5 h6 h7 h8 h9 h10
  exact h (AskP.ext' h0 h1 h2 h3 h4 h5 h6 h7 h8 h9 h10)
theorem ask_alike (x : AskP) (w : World) : (Op.equalIn 10000 34 (.agg #[.int .i64 x.slot, .int .i64 x.query, .int .i64 x.shard, .int .i64 x.seq, .int .i64 x.epoch, .string x.text, .int .i64 x.k, .int .i64 x.batch, .bool x.first, .int .i64 x.ad, .string x.aw]) (.agg #[.int .i64 x.slot, .int .i64 x.query, .int .i64 x.shard, .int .i64 x.seq, .int .i64 x.epoch, .string x.text, .int .i64 x.k, .int .i64 x.batch, .bool x.first, .int .i64 x.ad, .string x.aw])).run Try.prog w = .ok true w := by
  have f5 := ss_q x.text
  have f10 := ss_q x.aw
  go_simp
theorem ActIn.of {w w' : World} {b o : Nat} {x : QAct} (h : ActIn w b o x) (e : w'.heap[b]? = w.heap[b]?) : ActIn w' b o x := by
  have c : ∀ i, w'.cell? ⟨b, i, none⟩ = w.cell? ⟨b, i, none⟩ := fun i => World.cell?_of_block (w := w) e
  unfold ActIn at *
  rw [c, c, c, c, c, c, c, c, c, c, c, c, c, c]
  exact h
/-- what stands at k behind a push -/
theorem push_getD {L : List AskP} {a : AskP} {k : Nat} (hk : k < L.length) (hp : Qu.pushed L a = true) : (Qu.push L a).getD k ask0 = L.getD k ask0 ∨ ((Qu.push L a).getD k ask0 = a ∧ (L.getD k ask0).slot = a.slot ∧ (L.getD k ask0).shard = a.shard) := by
  unfold Qu.push
  rw [if_pos hp]
  cases hf : Qu.find L a.slot a.shard with
  | none => left; simp [List.getD_eq_getElem?_getD, List.getElem?_append_left hk]
  | some x =>
    show (Qu.put L a).getD k ask0 = _ ∨ _
    have e : L.getD k ask0 = L[k] := by rw [List.getD_eq_getElem?_getD, List.getElem?_eq_getElem hk]; rfl
    have e2 : (Qu.put L a).getD k ask0 = if Qu.same L[k] a.slot a.shard then a else L[k] := by
      unfold Qu.put
      rw [List.getD_eq_getElem?_getD, List.getElem?_map, List.getElem?_eq_getElem hk]; rfl
    rw [e, e2]
    by_cases h : Qu.same L[k] a.slot a.shard
    · right; rw [if_pos h]; exact ⟨rfl, h.1, h.2⟩
    · left; rw [if_neg h]
theorem push_len {L : List AskP} {a : AskP} (hp : Qu.pushed L a = true) : (Qu.push L a).length = L.length ∨ (Qu.push L a).length = L.length + 1 := by
  unfold Qu.push
  rw [if_pos hp]
  cases hf : Qu.find L a.slot a.shard with
  | none => right; simp
  | some x => left; exact Qu.put_len L a
theorem good_apart {L : List AskP} (hg : Qu.Good L) {j k : Nat} (hjk : j < k) (hk : k < L.length) : ¬ ((L.getD j ask0).slot = (L.getD k ask0).slot ∧ (L.getD j ask0).shard = (L.getD k ask0).shard) := by
  have e : ∀ i, (h : i < L.length) → L.getD i ask0 = L[i] := fun i h => by rw [List.getD_eq_getElem?_getD, List.getElem?_eq_getElem h]; rfl
  rw [e j (by omega), e k hk]
  exact (List.pairwise_iff_getElem.1 hg.apart) j k (by omega) hk hjk
set_option maxHeartbeats 3200000 in
set_option maxRecDepth 100000 in
theorem queueOne_any (a : Option Addr) (n cap : Nat) (xs : Nat → QAct) (w : World) (h : HoldsQA w a n xs) (hn : n ≤ 9223372036854775807) (hok : ∀ i, i < n → QActOk (xs i)) :
    Calls Try.prog 4 #[.slice a n cap] w fun e w' => e = .returned (.bool true) ∧ Below w.heap.size w w' := by
  have H := Lib.hid h
  have CG := Lib.hid (great_any a n cap xs w h hn hok)
  clear h hok
  go_enter Try.func4, Try.ntmps4
  go_wp2_with fail
  refine CG.out.mono ?_
  rintro e w' ⟨z, rfl, rfl, hz⟩
  clear CG
  cases z
  · have hn100 := hz rfl
    clear hz
    go_wp2_with fail
    refine (new_fine _).mono ?_
    rintro e w1 ⟨b, rfl, h1⟩
    have F1 := Lib.hid h1
    clear h1
    go_wp2_with fail
    go_loopw [4] (fun iv wr => ∃ j : Nat, j ≤ n ∧ iv = .int .i64 j ∧ Hid (∃ L, Fine w wr b L ∧ Qu.Good L)) (fun iv _ => n - (intOf iv).toNat)
    case atStart => exact ⟨0, by omega, rfl, Lib.hid ⟨[], F1.out, Qu.good_nil⟩⟩
    case round =>
      obtain ⟨j, hj, rfl, hF⟩ := hrel
      obtain ⟨L, hFL, hG⟩ := hF.out
      have FL := Lib.hid hFL; have GL := Lib.hid hG
      have hl24 := Qu.good_len hG
      clear hF hFL hG
      by_cases hlt : j < n
      · rename World => wr
        obtain ⟨ab, ao, rfl, hc⟩ := (H.out.below FL.out.bel) (by omega)
        have HX := Lib.hid (hc j hlt)
        obtain ⟨x, hxx⟩ : ∃ x, xs j = x := ⟨_, rfl⟩
        rw [hxx] at HX
        obtain ⟨r, hr⟩ : ∃ r, L.length = r := ⟨_, rfl⟩
        rw [hr] at hl24
        have HR := Lib.hid hr
        clear hc hxx hr
        go_wp2_with fail
        refine (all_fine _ FL.out GL.out).mono ?_
        rintro e w2 ⟨wa, wc, rfl, ho, hb⟩
        rw [HR.out] at ho
        rw [HR.out]
        have O2 := Lib.hid ho
        have F2 := Lib.hid (FL.out.more hb)
        have SZ := Lib.hid hb.size
        have hX2 := HX.out.below hb
        obtain ⟨S, q2, s2, bb2⟩ := FL.out
        have SL := Lib.hid q2.lt
        have Q2 := Lib.hid (q2.below hb); have S2 := Lib.hid s2; have BB2 := Lib.hid (bb2.trans (hb.mono bb2.size))
        have A3 := Lib.hid (actIn_new w2 x 36 (0, 0))
        have B3 := Lib.hid (below_one w2 (.cells #[.int .i64 x.do_, .int .i64 x.slot, .int .i64 x.query, .int .i64 x.a.slot, .int .i64 x.a.query, .int .i64 x.a.shard, .int .i64 x.a.seq, .int .i64 x.a.epoch, .string x.a.text, .int .i64 x.a.k, .int .i64 x.a.batch, .bool x.a.first, .int .i64 x.a.ad, .string x.a.aw] 36))
        unfold ActIn at hX2
        obtain ⟨x0, x1, x2, x3, x4, x5, x6, x7, x8, x9, x10, x11, x12, x13⟩ := hX2
        clear ho hb q2 s2 bb2 FL F2
        go_upto_if 34 with fail
        clear x0 x1 x2 x3 x4 x5 x6 x7 x8 x9 x10 x11 x12 x13
        have O3 := Lib.hid (owns_below O2.out B3.out)
        have Q3 := Lib.hid (Q2.out.below B3.out)
        have BB3 := Lib.hid (BB2.out.trans (B3.out.mono BB2.out.size))
        generalize w2.alloc (.cells #[.int .i64 x.do_, .int .i64 x.slot, .int .i64 x.query, .int .i64 x.a.slot, .int .i64 x.a.query, .int .i64 x.a.shard, .int .i64 x.a.seq, .int .i64 x.a.epoch, .string x.a.text, .int .i64 x.a.k, .int .i64 x.a.batch, .bool x.a.first, .int .i64 x.a.ad, .string x.a.aw] 36) = w3 at *
        obtain ⟨p, hp⟩ : ∃ p, w2.heap.size = p := ⟨_, rfl⟩
        rw [hp] at A3
        rw [hp]
        have SZP := Lib.hid (show wr.heap.size ≤ p from by rw [← hp]; exact SZ.out)
        clear hp O2 Q2 BB2 B3
        go_cut [5] from 20 to 164 (fun v wc' => v = .slice wa r wc ∧ Hid (∃ L2, Fine w wc' b L2 ∧ Qu.Good L2))
        case first =>
          by_cases hd1 : x.do_ = 1
          · have d1 : (x.do_ == 1) = true := by simpa using hd1
            clear hd1
            by_cases hr0 : r = 0
            · have hL : L = [] := List.length_eq_zero_iff.1 (by rw [HR.out]; exact hr0)
              subst hr0
              have hq := Q3.out
              rw [hL] at hq
              have CP := Lib.hid (qPop_empty b _ hq)
              have FE := Lib.hid (show Fine w w3 b [] from ⟨S, hq, S2.out, BB3.out⟩)
              clear hL hq
              go_wp2_with fail
              refine CP.out.mono ?_
              rintro e w5 ⟨rfl, hb⟩
              have F5 := Lib.hid (FE.out.more hb)
              clear hb CP FE
              go_wp2_with fail
              go_quiet (fail)
              go_wp2_with fail
              go_meet
              exact ⟨rfl, Lib.hid ⟨[], (F5.out.more (below_one _ _)).more (below_drewN _ _), Qu.good_nil⟩⟩
            · obtain ⟨y, l, hL⟩ : ∃ y l, L = y :: l := by
                cases L with
                | nil => exact absurd (HR.out.symm.trans rfl) hr0
                | cons y l => exact ⟨y, l, rfl⟩
              have hq := Q3.out
              have hg := GL.out
              rw [hL] at hq hg
              have CP := Lib.hid (qPop_any b _ hq hg)
              have G2 := Lib.hid (show Qu.Good l from by have := Qu.tail_good hg; simpa using this)
              have Y0 := Lib.hid (show L.getD 0 ask0 = y from by rw [hL]; rfl)
              have c1 : decide ((r : Int) > 0) = true := by simp; omega
              have c2 : decide (0 < r) = true := by simp; omega
              have c3 : 0 < r := by omega
              have x1 : (0 : Int) < (r : Int) := by omega
              clear hL hq hg hr0
              go_wp2_with fail
              refine CP.out.mono ?_
              rintro e w5 ⟨rfl, q5, t5⟩
              have O5 := Lib.hid (owns_turn O3.out t5 SL.out)
              have F5 := Lib.hid (show Fine w w5 b l from ⟨S, q5, S2.out, BB3.out.trans (t5.below S2.out BB3.out.size)⟩)
              have A6 := Lib.hid (askIn_new w5 y w5.heap.size 34 (0, 0) rfl)
              have O6 := Lib.hid (owns_below O5.out (below_one w5 (.cells #[.int .i64 y.slot, .int .i64 y.query, .int .i64 y.shard, .int .i64 y.seq, .int .i64 y.epoch, .string y.text, .int .i64 y.k, .int .i64 y.batch, .bool y.first, .int .i64 y.ad, .string y.aw] 34)))
              have F6 := Lib.hid (F5.out.more (below_one w5 (.cells #[.int .i64 y.slot, .int .i64 y.query, .int .i64 y.shard, .int .i64 y.seq, .int .i64 y.epoch, .string y.text, .int .i64 y.k, .int .i64 y.batch, .bool y.first, .int .i64 y.ad, .string y.aw] 34)))
              clear q5 t5 CP O5 F5
              go_upto_region 13 with fail
              have hW := HoldsAsk.own O6.out
              obtain ⟨pb, po, rfl, hc⟩ := hW.at c3
              have hc0 := hc 0 c3
              rw [Y0.out] at hc0
              simp only [Nat.zero_mul, Nat.add_zero] at hc0
              obtain ⟨b0, b1, b2, b3, b4, b5, b6, b7, b8, b9, b10⟩ := hc0
              have hA := A6.out
              unfold AskIn at hA
              obtain ⟨a0, a1, a2, a3, a4, a5, a6, a7, a8, a9, a10⟩ := hA
              have heq := fun w => ask_alike y w
              clear hc hW
              go_quiet (fail)
              go_wp2_with fail
              go_meet
              exact ⟨rfl, Lib.hid ⟨l, F6.out.more (below_drewN _ _), G2.out⟩⟩
          · have d1 : (x.do_ == 1) = false := by simpa using hd1
            clear hd1
            by_cases hd0 : x.do_ = 0
            · have d0 : (x.do_ == 0) = true := by simpa using hd0
              obtain ⟨z, hz⟩ : ∃ z, Qu.pushed L x.a = z := ⟨_, rfl⟩
              obtain ⟨L2, hL2⟩ : ∃ L2, Qu.push L x.a = L2 := ⟨_, rfl⟩
              have CP := Lib.hid (push_litS x.a z L2 b w3 Q3.out GL.out hz hL2)
              have G2 := Lib.hid (show Qu.Good L2 from hL2 ▸ Qu.push_good GL.out x.a)
              have HZ := Lib.hid hz; have HL2 := Lib.hid hL2
              have hA := A3.out
              unfold ActIn at hA
              simp only [Nat.zero_add] at hA
              obtain ⟨x0, x1, x2, x3, x4, x5, x6, x7, x8, x9, x10, x11, x12, x13⟩ := hA
              have lp := Lib.hid (lt_of_cell A3.out.1)
              clear hd0 hz hL2
              go_wp2_with fail
              refine CP.out.mono ?_
              rintro e w5 ⟨rfl, S5, q5, hs5, t5⟩
              have O5 := Lib.hid (owns_turn O3.out t5 SL.out)
              have F5 := Lib.hid (Fine.then Q3.out S2.out BB3.out q5 hs5 t5)
              have A5 := Lib.hid (A3.out.of (t5.block p lp.out (fun hk => by have := SL.out p hk; have := SZP.out; omega)))
              clear q5 hs5 t5 CP x0 x1 x2 x3 x4 x5 x6 x7 x8 x9 x10 x11 x12 x13
              cases z
              · go_wp2_with fail
                go_meet
                exact ⟨rfl, Lib.hid ⟨L2, F5.out, G2.out⟩⟩
              · obtain ⟨r2, hr2⟩ : ∃ r2, L2.length = r2 := ⟨_, rfl⟩
                have R2 := Lib.hid hr2
                have hlen := push_len HZ.out
                rw [HL2.out, hr2, HR.out] at hlen
                have c1 : decide (r2 < r) = false := by simp; omega
                have c2 : IntKind.i64.wrap ((r : Int) + 1) = (r : Int) + 1 := IntWalk.i64_in _ (by omega)
                have c3 : decide ((r2 : Int) > (r : Int) + 1) = false := by simp; omega
                have c4 : decide ((r : Int) + 1 < (r2 : Int)) = false := by simp; omega
                have c5 : (r2 : Int) ≤ (r : Int) + 1 := by omega
                have c6 : r ≤ r2 := by omega
                clear hr2 hlen
                go_wp2_with fail
                refine (all_fine _ F5.out G2.out).mono ?_
                rintro e w6 ⟨na, nc, rfl, ho, hb⟩
                rw [R2.out] at ho
                rw [R2.out]
                have N6 := Lib.hid (HoldsAsk.own ho)
                have W6 := Lib.hid (HoldsAsk.own (owns_below O5.out hb))
                have A6 := Lib.hid (A5.out.below hb)
                have F6 := Lib.hid (F5.out.more hb)
                clear ho hb O5 A5 F5
                go_wp2_with fail
                go_loopw [10] (fun iv wz => ∃ k : Nat, k ≤ r ∧ iv = .int .i64 k ∧ Hid (Below w6.heap.size w6 wz)) (fun iv _ => r - (intOf iv).toNat)
                case atStart => exact ⟨0, by omega, rfl, Lib.hid (Below.refl _ _)⟩
                case round =>
                  obtain ⟨k, hk, rfl, hB⟩ := hrel
                  by_cases hlk : k < r
                  · obtain ⟨pb, po, rfl, hcn⟩ := (N6.out.below hB.out).at (by omega)
                    obtain ⟨ub, uo, rfl, hcu⟩ := (W6.out.below hB.out).at (by omega)
                    have hn' := hcn k (by omega)
                    have hu' := hcu k hlk
                    have hpg := push_getD (L := L) (a := x.a) (k := k) (by rw [HR.out]; exact hlk) HZ.out
                    rw [HL2.out] at hpg
                    have hA := A6.out.below hB.out
                    unfold ActIn at hA
                    simp only [Nat.zero_add] at hA
                    obtain ⟨y, hy⟩ : ∃ y, L.getD k ask0 = y := ⟨_, rfl⟩
                    obtain ⟨v, hv⟩ : ∃ v, L2.getD k ask0 = v := ⟨_, rfl⟩
                    rw [hy] at hu' hpg
                    rw [hv] at hn' hpg
                    have k1 : (0 : Int) ≤ (k : Int) := by omega
                    have k2 : (k : Int) < (r : Int) := by omega
                    have k3 : (k : Int) < (r2 : Int) := by omega
                    have k4 : k < r2 := by omega
                    obtain ⟨x0, x1, x2, x3, x4, x5, x6, x7, x8, x9, x10, x11, x12, x13⟩ := hA
                    obtain ⟨b0, b1, b2, b3, b4, b5, b6, b7, b8, b9, b10⟩ := hu'
                    clear hcn hcu hy hv
                    have hcase : v = y ∨ (v = x.a ∧ x.a ≠ y ∧ y.slot = x.a.slot ∧ y.shard = x.a.shard) := by
                      rcases hpg with e | ⟨e1, e2, e3⟩
                      · exact Or.inl e
                      · by_cases e : x.a = y
                        · exact Or.inl (e1.trans e)
                        · exact Or.inr ⟨e1, e, e2, e3⟩
                    clear hpg
                    rcases hcase with rfl | ⟨rfl, hne, hs1, hs2⟩
                    · obtain ⟨a0, a1, a2, a3, a4, a5, a6, a7, a8, a9, a10⟩ := hn'
                      have heq := fun w => ask_alike v w
                      go_wp2_with fail
                      go_quiet (fail)
                      go_wp2_with fail
                      go_roundw
                      case rel => exact ⟨k + 1, by omega, by go_num, Lib.hid (hB.out.trans ((below_drewN _ _).mono hB.out.size))⟩
                      case measure => simp [intOf] <;> omega
                    · obtain ⟨a0, a1, a2, a3, a4, a5, a6, a7, a8, a9, a10⟩ := hn'
                      have heq := fun w => ask_unlike hne w
                      have heq2 := fun w => ask_alike x.a w
                      have s1 : (y.slot != x.a.slot) = false := by simpa using hs1
                      have s2 : (y.shard != x.a.shard) = false := by simpa using hs2
                      clear hne hs1 hs2
                      go_wp2_with fail
                      go_quiet (fail)
                      go_wp2_with fail
                      go_roundw
                      case rel => exact ⟨k + 1, by omega, by go_num, Lib.hid (hB.out.trans ((below_drewN _ _).mono hB.out.size))⟩
                      case measure => simp [intOf] <;> omega
                  · obtain rfl : k = r := by omega
                    go_wp2_with fail
                    go_meet
                    exact ⟨rfl, Lib.hid ⟨L2, F6.out.more hB.out, G2.out⟩⟩
            · have d0 : (x.do_ == 0) = false := by simpa using hd0
              have hA := A3.out
              unfold ActIn at hA
              simp only [Nat.zero_add] at hA
              obtain ⟨x0, x1, x2, x3, x4, x5, x6, x7, x8, x9, x10, x11, x12, x13⟩ := hA
              clear hd0
              go_wp2_with fail
              go_meet
              exact ⟨rfl, Lib.hid ⟨L, ⟨S, Q3.out, S2.out, BB3.out⟩, GL.out⟩⟩
        case rest =>
          obtain ⟨rfl, hF⟩ := hcut
          obtain ⟨L2, hF2, hG2⟩ := hF.out
          have F7 := Lib.hid hF2; have G7 := Lib.hid hG2
          have hl2 := Qu.good_len hG2
          obtain ⟨r2, hr2⟩ : ∃ r2, L2.length = r2 := ⟨_, rfl⟩
          rw [hr2] at hl2
          have R2 := Lib.hid hr2
          clear hF hF2 hG2 hr2
          go_wp2_with fail
          refine (all_fine _ F7.out G7.out).mono ?_
          rintro e w8 ⟨na, nc, rfl, ho, hb⟩
          rw [R2.out] at ho
          rw [R2.out]
          have N8 := Lib.hid (HoldsAsk.own ho)
          have F8 := Lib.hid (F7.out.more hb)
          clear ho hb F7
          go_wp2_with fail
          go_loopw [12] (fun iv wz => ∃ k : Nat, k ≤ r2 ∧ iv = .int .i64 k ∧ Hid (Below w8.heap.size w8 wz)) (fun iv _ => r2 - (intOf iv).toNat)
          case atStart => exact ⟨0, by omega, rfl, Lib.hid (Below.refl _ _)⟩
          case round =>
            obtain ⟨k, hk, rfl, hB⟩ := hrel
            by_cases hlk : k < r2
            · go_wp2_with fail
              go_loopw [13] (fun iv wz => ∃ i : Nat, i ≤ k ∧ iv = .int .i64 i ∧ Hid (Below w8.heap.size w8 wz)) (fun iv _ => k - (intOf iv).toNat)
              case atStart => exact ⟨0, by omega, rfl, hB⟩
              case round =>
                obtain ⟨i, hi2, rfl, hB2⟩ := hrel
                by_cases hli : i < k
                · obtain ⟨pb, po, rfl, hcn⟩ := (N8.out.below hB2.out).at (by omega)
                  have hi' := hcn i (by omega)
                  have hk' := hcn k hlk
                  have hap := good_apart G7.out hli (by rw [R2.out]; exact hlk)
                  obtain ⟨y, hy⟩ : ∃ y, L2.getD i ask0 = y := ⟨_, rfl⟩
                  obtain ⟨v, hv⟩ : ∃ v, L2.getD k ask0 = v := ⟨_, rfl⟩
                  rw [hy] at hi' hap
                  rw [hv] at hk' hap
                  obtain ⟨a0, -, a2, -⟩ := hi'
                  obtain ⟨b0, -, b2, -⟩ := hk'
                  have k1 : (0 : Int) ≤ (k : Int) := by omega
                  have k2 : (k : Int) < (r2 : Int) := by omega
                  have k3 : (0 : Int) ≤ (i : Int) := by omega
                  have k4 : (i : Int) < (r2 : Int) := by omega
                  have k5 : i < r2 := by omega
                  clear hcn hy hv
                  by_cases hs : y.slot = v.slot
                  · have d1 : (y.slot == v.slot) = true := by simpa using hs
                    have d2 : (y.shard == v.shard) = false := by
                      have : ¬ y.shard = v.shard := fun h => hap ⟨hs, h⟩
                      simpa using this
                    clear hs hap
                    go_wp2_with fail
                    go_quiet (fail)
                    go_wp2_with fail
                    go_roundw
                    case rel => exact ⟨i + 1, by omega, by go_num, Lib.hid (hB2.out.trans ((below_drewN _ _).mono hB2.out.size))⟩
                    case measure => simp [intOf] <;> omega
                  · have d1 : (y.slot == v.slot) = false := by simpa using hs
                    clear hs hap
                    go_wp2_with fail
                    go_quiet (fail)
                    go_wp2_with fail
                    go_roundw
                    case rel => exact ⟨i + 1, by omega, by go_num, Lib.hid (hB2.out.trans ((below_drewN _ _).mono hB2.out.size))⟩
                    case measure => simp [intOf] <;> omega
                · obtain rfl : i = k := by omega
                  go_wp2_with fail
                  go_roundw
                  case rel => exact ⟨i + 1, by omega, by go_num, hB2⟩
                  case measure => simp [intOf] <;> omega
            · obtain rfl : k = r2 := by omega
              have c1 : decide ((k : Int) > 24) = false := by simp; omega
              have c2 : decide (24 < k) = false := by simp; omega
              have F9 := Lib.hid (F8.out.more hB.out)
              go_wp2_with fail
              go_roundw
              case rel => exact ⟨j + 1, by omega, by go_num, Lib.hid ⟨L2, F9.out, G7.out⟩⟩
              case measure => simp [intOf] <;> omega
      · obtain rfl : j = n := by omega
        have BE := Lib.hid FL.out.bel
        go_wp2_with fail
        refine (awake_any _).mono ?_
        rintro e w8 ⟨rfl, hb⟩
        have B8 := Lib.hid (BE.out.trans (hb.mono BE.out.size))
        clear hb
        go_wp2_with fail
        go_ret
        exact ⟨rfl, B8.out⟩
  · go_wp2_with fail
    refine (awake_any _).mono ?_
    rintro e w' ⟨rfl, hb3⟩
    go_wp2_with fail
    go_ret
    exact ⟨rfl, hb3⟩
open Go.ChangeShapes Go.WideShapes Go.ChangeAt in
theorem queueOne_walk {H : Type} {enc : TypeId × Value → H} (W : World) (base : Nat) (v0 : Value) (d0 : DataW H) (p0 : List MemPlace)
    (h0 : DataW.Trod enc Try.prog W 0 (fun _ => true) true 22 v0 d0 p0) (o0 : Value.okWide Try.prog W .any base 22 v0) :
    Calls Try.prog 4 #[v0] W fun e w' => e = .returned (.bool true) ∧ RowKit.Below W.heap.size W w' := by
  obtain ⟨a, n, cap, xs, rfl, hh, hn, hok⟩ := open_qacts_arg o0 h0
  exact queueOne_any a n cap xs W hh (by unfold maxLen at hn; exact hn) hok
end Go.Proofs.Ythcfpohgjgbhpaa
