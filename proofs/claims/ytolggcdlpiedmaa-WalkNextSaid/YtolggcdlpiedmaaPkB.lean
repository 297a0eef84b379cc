/- texts joined -/
import Derived.Test.YtolggcdlpiedmaaPkA
import Derived.Laws.OwnMore
import Derived.Lib.SliceRun
import Derived.Test.YtolggcdlpiedmaaChecked
import Derived.WalkLawsBesides
import Derived.WalkSpells
import Derived.Outline
import Derived.Deep.QuietTactic
import Derived.BigQuiet
import Derived.Deep.DeepCutAuto
import Derived.SliceStrings
import Derived.Deep.AppendLies
import Derived.WalkKit
import Derived.OpenShut
import Derived.Lib.SmallJoins
import Derived.Deep.RegionHeld3
import Derived.BigRegion
/- graph: reach, its contract -/
namespace Go.Proofs.Ytolggcdlpiedmaa
open Go.RowKit Go.Maps
set_option linter.unusedVariables false
set_option maxRecDepth 20000
theorem nodeG_info : (Try.prog.info? 88).map (fun i => (i.zero, i.size, i.bytes)) = some (some (.agg #[.bool false, .slice none 0 0]), 2, 32) := by kernel_rfl
theorem edgeG_info : (Try.prog.info? 92).map (fun i => (i.zero, i.size, i.bytes)) = some (some (.agg #[.int .i32 0, .int .i64 0]), 2, 16) := by kernel_rfl
def Away (w : World) (S : Nat → Prop) (a : Option Addr) (n : Nat) : Prop := 0 < n → ∀ fb fo, a = some ⟨fb, fo, none⟩ → ¬ S fb ∧ fb < w.heap.size
def ReachP (bb g m : Nat) (w : World) (S : Nat → Prop) (r : Nat × List GN) (e : Ending) (w' : World) : Prop := e = .returned (.int .i64 r.1) ∧ PO (QB bb g m r.2) w S w'
def ReachAny (bb g m f : Nat) : Prop := ∀ (st : List GN) (s : List Tx) (a : Option Addr) (cap : Nat) (S : Nat → Prop) (w : World), QB bb g m st w S → OkL f s → HoldsT w a s.length s → Away w S a s.length → s.length ≤ cap → st.length + wtS s + 1 ≤ 1000000 →
    Calls Try.prog 34 #[.pointer (some ⟨bb, 0, none⟩), .slice a s.length cap] w (ReachP bb g m w S (reachF (f + 1) st s))
set_option maxHeartbeats 6400000 in
set_option maxRecDepth 100000 in
theorem reach_step (bb g m f : Nat) (IH : ∀ f', f = f' + 1 → ReachAny bb g m f') : ReachAny bb g m f := by
  intro st s a cap S w hQ hO hH hA hc hb
  obtain ⟨i0, hi, hz0, hz1, hz2⟩ := info_parts nodeG_info
  obtain ⟨j0, hj, hy0, hy1, hy2⟩ := info_parts edgeG_info
  have IHH := Lib.hid IH; have OK := Lib.hid hO; have HH := Lib.hid hH; have AW := Lib.hid hA; have QW := Lib.hid hQ
  obtain ⟨n, hn⟩ : ∃ n, s.length = n := ⟨_, rfl⟩
  have HN := Lib.hid hn
  rw [hn] at hH hc
  have hn100 : n ≤ 100 := by have := hO.n; omega
  have CN := Lib.hid (nameOf_any a n cap s w hH hn100 hO.sz)
  clear hQ hO hH hA IH
  rw [hn]
  clear hn
  go_enter Try.func34, Try.ntmps34
  go_wp2_with fail
  refine CN.out.mono ?_
  rintro e w' ⟨⟨nm, rfl, hnm⟩, rfl⟩
  have NM := Lib.hid hnm
  have nz : nm.size ≤ 10100 := by
    have h1 := nameL_len s OK.out.sz
    have h2 : nm.data.toList.length = nm.size := by simp
    rw [NM.out] at h2
    have h3 := HN.out
    have : s.length * 101 ≤ 10100 := by omega
    omega
  have nzl : nm.size ≤ maxLen := by unfold maxLen; omega
  clear hnm CN
  obtain ⟨na, nc, NL, B⟩ := QW.out
  obtain ⟨fm, hM, hF⟩ := B.M
  have c0 := B.c0
  have c1 := B.c1
  have BW := Lib.hid B
  have HF := Lib.hid hF
  have fnm : fm nm.data.toList = ointG (findG st s) := by rw [NM.out]; exact hF s OK.out.lo
  have hnl : NL.length = st.length := by have := congrArg List.length B.eq; simpa using this
  clear hF B
  cases hfd : findG st s with
  | some i =>
    rw [hfd] at fnm
    have FN := Lib.hid (show fm nm.data.toList = some (i : Int) from fnm)
    have R := Lib.hid (show reachF (f + 1) st s = (i, st) from by unfold reachF; rw [hfd])
    clear fnm hfd
    go_wp2_with (at_lookup; refine wpList_look_ms rfl _ _ rfl rfl hM nm rfl nzl ?_; rw [FN.out])
    go_ret
    rw [R.out]
    exact ⟨rfl, S, QW.out, fun k hk => Or.inl hk, Turn.refl _ _⟩
  | none =>
    rw [hfd] at fnm
    have FN := Lib.hid (show fm nm.data.toList = none from fnm)
    have FD := Lib.hid hfd
    clear fnm hfd
    have gc := BW.out.G.c
    rw [hnl] at gc
    have HNL := Lib.hid hnl
    clear hnl
    have ms : MapS w m st.length fm := hM
    have hst : st.length < maxLen := by unfold maxLen; omega
    have nwf : (Lit.int .i64 (st.length : Int)).wf = true := Go.WalkArith.wf_i64 (by omega)
    obtain ⟨w2, hrun, ms2, tm2⟩ := ms.put_run hst nm (st.length : Int) nzl nwf
    rw [FN.out] at ms2
    have MS2 := Lib.hid (show MapS w2 m (st.length + 1) (sset fm (nameL s) (some (st.length : Int))) from by rw [← NM.out]; exact ms2)
    have TM2 := Lib.hid tm2
    have t2 := Turn.of_mapTurnedS (F := fun k => k = m) tm2 rfl
    have T2 := Lib.hid t2
    have G2 := Lib.hid (BW.out.G.but t2 BW.out.n1 (fun r hr => (BW.out.n4 r hr).1) (fun x hx fb fo e => (BW.out.n5 x hx fb fo e).1))
    have d0 : w2.cell? ⟨bb, 0, none⟩ = some (.pointer (some ⟨g, 0, none⟩)) := (t2.cell (lt_of_cell c0) BW.out.n2).trans c0
    have dc : w2.cell? ⟨g, 0, none⟩ = some (.slice na st.length nc) := (t2.cell (lt_of_cell gc) BW.out.n1).trans gc
    clear ms2 tm2 t2 ms
    go_upto_region 7 with (at_lookup; refine wpList_look_ms rfl _ _ rfl rfl hM nm rfl nzl ?_; rw [FN.out])
    have OWN := Lib.hid (show w2.drew.ownsRow 0 88 2 (.slice na st.length nc) st.length (nmV NL) from by have := G2.out.o; rw [HNL.out] at this; exact owns_below this (Below.refl _ _).drew)
    have AB := Lib.hid (show ∀ o w', (w2.drew.alloc o).grownBy w' (Value.slice na st.length nc).ownBlock → w'.cell? ⟨bb, 0, none⟩ = some (.pointer (some ⟨g, 0, none⟩)) ∧ w'.cell? ⟨g, 0, none⟩ = some (.slice na st.length nc) ∧ w'.frozen? ⟨g, 0, none⟩ = false from fun o w' hg => by
      have lb := lt_of_cell d0
      have lg := lt_of_cell dc
      have o1 := (hg.block bb (by simp; omega) (fun e => (BW.out.n4 bb (gown_at OWN.out e)).2 rfl)).trans (Below.heap_alloc w2.drew o bb lb)
      have o2 := (hg.block g (by simp; omega) (fun e => (BW.out.G.sn g (gown_at OWN.out e)).2 rfl)).trans (Below.heap_alloc w2.drew o g lg)
      exact ⟨(World.cell?_of_block (w := w2) o1).trans d0, (World.cell?_of_block (w := w2) o2).trans dc, (World.frozen?_of_block (w := w2) o2).trans (G2.out.f 0)⟩)
    have n1 : w2.drew.cell? ⟨bb, 0, none⟩ = some (.pointer (some ⟨g, 0, none⟩)) := d0
    have n2 : w2.drew.cell? ⟨g, 0, none⟩ = some (.slice na st.length nc) := dc
    have n3 : (w2.alloc (.cells #[.bool false, .slice none 0 0] 88)).drew.cell? ⟨bb, 0, none⟩ = some (.pointer (some ⟨g, 0, none⟩)) := (Below.cell (below_one w2 _) (p := ⟨bb, 0, none⟩) (lt_of_cell d0)).trans d0
    have n4 : (w2.alloc (.cells #[.bool false, .slice none 0 0] 88)).drew.cell? ⟨g, 0, none⟩ = some (.slice na st.length nc) := (Below.cell (below_one w2 _) (p := ⟨g, 0, none⟩) (lt_of_cell dc)).trans dc
    have n5 : (w2.alloc (.cells #[.bool false, .slice none 0 0] 88)).cell? ⟨bb, 0, none⟩ = some (.pointer (some ⟨g, 0, none⟩)) := n3
    have n6 : (w2.alloc (.cells #[.bool false, .slice none 0 0] 88)).cell? ⟨g, 0, none⟩ = some (.slice na st.length nc) := n4
    have hst2 : st.length ≤ 1000000 := by omega
    clear hM c0 c1 gc hrun
    go_cut [] (fun wc => Hid (PO (QB bb g m (st ++ [⟨s, false, []⟩])) w S wc))
    case first =>
      go_region_law
        (refine step_append_lies _ (by rfl) _ _ _ (by rfl) 0 88 i0 _ 2 32 Try.underlying63 hi hz0 hz1 hz2 rfl (by omega) (.slice na st.length nc) st.length (nmV NL) (by rfl) (OWN.out.alloc _) ⟨w2.drew.heap.size, 0, none⟩ 1 1 [.bool false, .slice none 0 0] (by rfl) (by rfl) (World.news_of_block (cs := #[.bool false, .slice none 0 0]) (t := 88) (fr := (0, 0)) (heap_alloc_new w2.drew _)) (by simp [Value.oneCell']) (by omega) (by unfold maxLen; omega) (by omega) (by omega) (w2.drew.heap.size + 1) (by simp) ?_; intro g3 c3 w3 hown3 hgrow3 hat3 hlt3; obtain ⟨x0, x1, x2⟩ := AB.out _ _ hgrow3)
      all_goals
        have FR := Lib.hid (BW.out.fresh (w2 := w2.drew) (w3 := w3) (q := g3) (cap := c3) (s := s) (fm := fm) (MapS.block MS2.out rfl) T2.out.drew HF.out OK.out.lo FD.out (by rw [HNL.out]; exact hown3) (by rw [HNL.out]; exact hgrow3) (by rw [HNL.out]; exact hat3.imp id (fun e => by simp; exact e)) hlt3)
        rw [HNL.out] at FR
        clear hown3 hgrow3 hat3 hlt3 x0 x1 x2
        go_wp2_with fail
        go_meet
        obtain ⟨S', h1, h2, h3⟩ := FR.out
        exact Lib.hid ⟨S', ⟨_, _, _, h1⟩, h2, h3⟩
    case rest =>
      rename World => wc
      obtain ⟨Sc, qc, sc0, tc⟩ := hcut.out
      have HHT := Lib.hid (show HoldsT wc a s.length s from holdsT_turn HH.out tc (fun h0 fb fo e => (AW.out h0 fb fo e).1))
      have LC := (qb_ok bb g m (st ++ [⟨s, false, []⟩])).lt qc
      have R0 := Lib.hid (show RL bb g m w S wc.heap.size false (st ++ [⟨s, false, []⟩]) none 0 [] a s Sc (wc.alloc (.cells #[.bool false, .slice none 0 0] 88)) from
        ⟨(qb_ok bb g m _).below qc (below_one wc _), sc0, tc.trans (Turn.of_below (below_one wc _)), fun hk => by have := LC _ hk; omega, tc.size, by rw [cell_alloc rfl]; rfl, by rw [cell_alloc rfl]; rfl, fun i => frozen_alloc rfl, World.ownsRow_nil _ _ _ _, fun k e => (by cases e), HHT.out.below (below_one wc _), AW.out⟩)
      have ED := Lib.hid (show reachF (f + 1) st s = (st.length, (edgesF (reachF f) (bodS s).length (bodS s) [] (st ++ [⟨s, false, []⟩])).2.set st.length ⟨s, finS s, (edgesF (reachF f) (bodS s).length (bodS s) [] (st ++ [⟨s, false, []⟩])).1⟩) from by conv => lhs; unfold reachF; rw [FD.out])
      clear hcut qc sc0 tc LC HHT d0 dc n1 n2 n3 n4 n5 n6 OWN AB MS2 TM2 T2 G2 BW HF FN FD hst nwf NM nz nzl QW
      go_upto_region 9 with fail
      generalize wc.alloc (.cells #[.bool false, .slice none 0 0] 88) = w4 at *
      obtain ⟨p, hp⟩ : ∃ p, wc.heap.size = p := ⟨_, rfl⟩
      rw [hp] at R0
      rw [hp]
      clear hp
      obtain ⟨zf, hzf⟩ : ∃ z, finS s = z := ⟨_, rfl⟩
      have HZF := Lib.hid hzf
      obtain ⟨R, hR⟩ : ∃ r, edgesF (reachF f) (bodS s).length (bodS s) [] (st ++ [⟨s, false, []⟩]) = r := ⟨_, rfl⟩
      rw [hR] at ED
      have HR := Lib.hid hR
      clear hzf hR
      go_cut [64] (fun u wd => u = .bool zf ∧ w4 = wd)
      case first =>
        rcases Nat.eq_zero_or_pos n with hn0 | hn0
        · subst hn0
          have hs0 : s = [] := List.eq_nil_of_length_eq_zero HN.out
          obtain rfl : zf = false := by rw [← HZF.out, hs0]; rfl
          clear hs0
          go_wp2_with fail
          go_meet
          exact ⟨rfl, rfl⟩
        · have hd1 : decide ((n : Int) > 0) = true := decide_eq_true (by omega)
          have hd2 : decide (0 < n) = true := decide_eq_true hn0
          have hih := R0.out.hl
          rw [HN.out] at hih
          obtain ⟨b, o, rfl, hcc⟩ := hih.at hn0
          have x0 := hcc 0 hn0
          obtain ⟨t, ht⟩ : ∃ t, s.getD 0 ByteArray.empty = t := ⟨_, rfl⟩
          rw [ht, Nat.add_zero] at x0
          have hni : (0 : Int) < (n : Int) := by omega
          have hzt : t.toList.isEmpty = zf := by
            rw [← HZF.out]
            have hs2 : s.head? = some t := by
              have hsl := HN.out
              cases hs3 : s with
              | nil => rw [hs3] at hsl; simp at hsl; omega
              | cons t' l' => rw [hs3] at ht; simp at ht; simp [ht]
            unfold finS
            rw [hs2, Bool.eq_iff_iff]
            simp only [decide_eq_true_eq, List.isEmpty_iff]
            constructor
            · intro h; rw [(tx_nil t).2 h]
            · intro h; exact (tx_nil t).1 (by injection h)
          have hzt2 : (t.toList == []) = zf := by rw [← hzt]; cases t.toList <;> rfl
          clear hcc hih ht
          go_wp2_with fail
          go_meet
          exact ⟨by first | rfl | rw [hzt] | rw [hzt2], rfl⟩
      case rest =>
        obtain ⟨rfl, rfl⟩ := hcut
        go_upto_if 64 with fail
        go_cut [1] (fun v wd => ∃ sa sc, v = .slice sa (bodS s).length sc ∧ Hid ((bodS s).length ≤ sc) ∧ Hid (RL bb g m w S p zf (st ++ [⟨s, false, []⟩]) none 0 [] sa (bodS s) Sc wd))
        case first =>
          cases zf
          · have hbs : bodS s = s := by unfold bodS; rw [HZF.out]; rfl
            have HBS := Lib.hid hbs
            clear hbs
            go_wp2_with fail
            go_meet
            exact ⟨a, cap, by rw [HBS.out, HN.out], Lib.hid (by rw [HBS.out, HN.out]; exact hc), Lib.hid (by rw [HBS.out]; exact R0.out)⟩
          · obtain ⟨l, hsl⟩ : ∃ l, s = ⟨#[]⟩ :: l := by
              have h := HZF.out
              unfold finS at h
              have h2 := of_decide_eq_true h
              cases s with
              | nil => simp at h2
              | cons t l => simp at h2; exact ⟨l, by rw [h2]⟩
            have hbs : bodS s = l := by unfold bodS; rw [HZF.out, hsl]; rfl
            obtain ⟨k, rfl⟩ : ∃ k, n = k + 1 := ⟨l.length, by rw [← HN.out, hsl]; rfl⟩
            have hlk : l.length = k := by have := HN.out; rw [hsl] at this; simpa using this
            obtain ⟨c, rfl⟩ : ∃ c, cap = c + 1 := ⟨cap - 1, by omega⟩
            have hih := R0.out.hl
            rw [HN.out] at hih
            obtain ⟨b, o, rfl, hcc⟩ := hih.at (by omega)
            obtain ⟨o', hA, hAH⟩ : ∃ o', (if c = 0 then some (⟨b, o, none⟩ : Addr) else some ⟨b, o + 1, none⟩) = some ⟨b, o', none⟩ ∧ Hid (HoldsT w4 (some ⟨b, o', none⟩) k l) := by
              by_cases hc0 : c = 0
              · have hk0 : k = 0 := by omega
                subst hk0
                have hl0 : l = [] := List.eq_nil_of_length_eq_zero hlk
                exact ⟨o, by rw [if_pos hc0], Lib.hid (by rw [hl0]; exact HoldsT.nil _ _)⟩
              · refine ⟨o + 1, by rw [if_neg hc0], Lib.hid (HoldsT.of hlk (fun i hi => ?_))⟩
                have h := hcc (i + 1) (by omega)
                rw [hsl, List.getD_cons_succ] at h
                rw [show o + 1 + i = o + (i + 1) by omega]
                exact h
            have HBS := Lib.hid hbs; have HLK := Lib.hid hlk
            have z0 := R0.out.c0
            have zf0 := R0.out.fr 0
            have i1 : (1 : Int) ≤ (k : Int) + 1 := by omega
            have i2 : (1 : Int) ≤ ((k + 1 : Nat) : Int) := by omega
            have RN := Lib.hid (show RL bb g m w S p true (st ++ [⟨s, false, []⟩]) none 0 [] (some ⟨b, o', none⟩) l Sc (w4.setCell ⟨p, 0, none⟩ (.bool true)) from
              R0.out.flag (b := true) (by rw [hlk]; exact hAH.out) (fun h0 fb fo e => by injection e with e; injection e with e1 e2; subst e1; exact R0.out.la (by rw [hsl]; simp) b o rfl))
            clear hcc hih hbs hlk hsl
            go_wp2_with fail
            go_meet
            exact ⟨some ⟨b, o', none⟩, c, by rw [HBS.out, HLK.out], Lib.hid (by rw [HBS.out, HLK.out]; omega), Lib.hid (by rw [HBS.out]; exact RN.out)⟩
        case rest =>
          obtain ⟨sa, sc, rfl, hsc, hR1⟩ := hcut
          rename World => w5
          have hok : OkL f (bodS s) ∧ ∀ t ∈ bodS s, 0 < t.size := ⟨OK.out.bod, bod_pos OK.out.ord⟩
          have HOK := Lib.hid hok
          have hbl : (bodS s).length ≤ 100 := hok.1.n
          have HWT := Lib.hid (show (st ++ [(⟨s, false, []⟩ : GN)]).length + wtS (bodS s) ≤ 1000000 from by rw [List.length_append, List.length_singleton]; have := wt_bod s; omega)
          have HLT := Lib.hid (show st.length < (st ++ [(⟨s, false, []⟩ : GN)]).length from by rw [List.length_append, List.length_singleton]; omega)
          clear hok
          go_wp2_with fail
          go_loopw [1] (fun v wr => ∃ (k : Nat) (l : List Tx) (es : List EdP) (st1 : List GN) (S1 : Nat → Prop) (ea : Option Addr) (ec : Nat) (sa : Option Addr) (sc : Nat), v = .slice sa l.length sc ∧ l.length ≤ k ∧ es.length + k ≤ 100 ∧ Hid (l.length ≤ sc) ∧ Hid (edgesF (reachF f) k l es st1 = R) ∧ Hid (OkL f l ∧ ∀ t ∈ l, 0 < t.size) ∧ Hid (st1.length + wtS l ≤ 1000000) ∧ Hid (st.length < st1.length) ∧ Hid ((st1.getD st.length gn0).rests = s) ∧ Hid (RL bb g m w S p zf st1 ea ec es sa l S1 wr)) (fun v _ => sliceLenG v)
          case atStart => exact ⟨(bodS s).length, bodS s, [], _, Sc, none, 0, sa, sc, rfl, Nat.le_refl _, by simpa using hbl, hsc, HR, HOK, HWT, HLT, Lib.hid (by simp [List.getD_eq_getElem?_getD]), hR1⟩
          case round =>
            clear hR1 hsc HOK HWT HLT hbl
            obtain ⟨k, l, es, st1, S1, ea, ec, sa, sc, rfl, hlk, hek, hsc, hE, hOK, hWT, hLT, hRS, hRL⟩ := hrel
            rename World => wr
            by_cases hl0 : l = []
            · subst hl0
              have hRR : R = (es, st1) := by
                rw [← hE.out]
                cases k with
                | zero => rfl
                | succ k => unfold edgesF; rw [if_pos rfl]
              obtain ⟨na1, nc1, NL1, q, hB, hqa, ⟨vq0, hq0⟩, ⟨vq1, hq1⟩, hqf, hqn, hPO⟩ := hRL.out.target st.length hLT.out s hRS.out
              have c0 := hB.c0
              have gc := hB.G.c
              have p0 := hRL.out.c0
              have p1 := hRL.out.c1
              have qb : q ≠ bb := (hB.n4 q hqa).2
              have qg : q ≠ g := (hB.G.sn q hqa).2
              have qp : q ≠ p := hqn
              have hnl1 : NL1.length = st1.length := by have := congrArg List.length hB.eq; simpa using this
              rw [hnl1] at gc
              subst hqa
              have f1 := hqf (st.length * 2)
              have f2 := hqf (st.length * 2 + 1)
              have i1 : (0 : Int) ≤ (st.length : Int) := by omega
              have i2 : (st.length : Int) < (st1.length : Int) := by have := hLT.out; omega
              have FIN := Lib.hid hPO
              have HRR := Lib.hid hRR
              clear hB hnl1 hqf hPO hRR hqn
              go_upto_region 16 with fail
              go_region_held3 (fun w' => w'.cell? ⟨bb, 0, none⟩ = some (.pointer (some ⟨g, 0, none⟩)) ∧ w'.cell? ⟨g, 0, none⟩ = some (.slice (some ⟨q, 0, none⟩) st1.length nc1) ∧ w'.cell? ⟨p, 0, none⟩ = some (.bool zf) ∧ w'.cell? ⟨p, 1, none⟩ = some (.slice ea es.length ec))
                (first | assumption | exact ⟨c0, gc, p0, p1⟩ | exact g4_store qb qg qp ⟨c0, gc, p0, p1⟩)
                (fail)
              all_goals
                go_wp2_with fail
                go_ret
                rw [ED.out, HRR.out, HZF.out]
                exact ⟨rfl, FIN.out.more (qb_ok bb g m _) (Below.refl _ _).drew⟩
            · have hpos : 0 < l.length := by cases l with
                | nil => exact absurd rfl hl0
                | cons t l => simp
              obtain ⟨k, rfl⟩ : ∃ k', k = k' + 1 := ⟨k - 1, by omega⟩
              obtain ⟨f', rfl⟩ : ∃ f', f = f' + 1 := by
                refine ⟨f - 1, ?_⟩
                have hm : l.getD 0 ByteArray.empty ∈ l := getD_tx hpos
                have h1 := rst_len (hOK.out.1.lo _ hm) (hOK.out.2 _ hm)
                have h2 := hOK.out.1.hi _ hm
                omega
              have C := Lib.hid (IHH.out f' rfl)
              have hl100 := hOK.out.1.n
              have CF := Lib.hid (follow_any sa l.length sc l wr hRL.out.hl hpos hl100 hOK.out.2 hOK.out.1.sz)
              have HFL := Lib.hid (fol_len l hl0)
              have HWF := Lib.hid (wt_fol hl0 hOK.out.1.lo hOK.out.2)
              have OKF := Lib.hid (hOK.out.1.fol hOK.out.2)
              obtain ⟨⟨lab, rs⟩, hfo⟩ : ∃ r, folS l = r := ⟨_, rfl⟩
              have hEE := hE.out
              unfold edgesF at hEE
              rw [if_neg hl0, hfo] at hEE
              unfold FolP at CF
              rw [hfo] at CF HFL HWF OKF
              obtain ⟨⟨ix, st2⟩, hre⟩ : ∃ r, reachF (f' + 1) st1 rs = r := ⟨_, rfl⟩
              simp only at hEE
              rw [hre] at hEE
              have HE := Lib.hid hEE
              have HRE := Lib.hid hre
              have RLN := Lib.hid (reach_len f' st1 rs OKF.out)
              rw [hre] at RLN
              have hpi : (0 : Int) < (l.length : Int) := by omega
              have hd1 : decide ((l.length : Int) > 0) = true := decide_eq_true (by omega)
              have hd2 : decide (0 < l.length) = true := decide_eq_true hpos
              clear hEE hre hE hfo
              go_wp2_with fail
              refine CF.out.mono ?_
              rintro e w6 ⟨fa, fc, rfl, hfo, hb6⟩
              simp only at hfo ⊢
              have R6 := Lib.hid (hRL.out.more hb6)
              have FA := Lib.hid hfo
              have FW := Lib.hid (show Away w6.drew S1 fa rs.length from fun h0 fb fo e => by
                have h1 := own_blockG hfo e
                exact ⟨fun hk => by have := hRL.out.qlt fb hk; omega, h1.2⟩)
              have C6 := Lib.hid (C.out st1 rs fa fc S1 w6.drew ((qb_ok bb g m st1).below R6.out.q (Below.refl _ _).drew) OKF.out ((HoldsT.own FA.out).below (Below.refl _ _).drew) FW.out (owns_none FA.out).2 (by have := hWT.out; have := HWF.out; omega))
              rw [HRE.out] at C6
              clear hfo hb6 CF C FW
              have R6d := Lib.hid (R6.out.more (Below.refl w6.heap.size w6).drew)
              have y0 := R6d.out.c1
              have hes : es.length ≤ 100 := by omega
              go_upto_region 14 with fail
              go_cut [] (fun wd => Hid (∃ S2 ea2 ec2, RL bb g m w S p zf st2 ea2 ec2 (es ++ [⟨(lab : Int), (ix : Int)⟩]) sa l S2 wd))
              case first =>
                go_region_law
                  (first
                    | (refine step_append_lies _ (by rfl) _ _ _ (by rfl) w.heap.size 92 j0 _ 2 16 Try.underlying86 hj hy0 hy1 hy2 rfl (by omega) (.slice ea es.length ec) es.length (edsV es) (by first | rfl | (simp [Act.eval]; done) | simp [Act.eval, Act.put]) (hR7.o.alloc _) ⟨w7.heap.size, 0, none⟩ 1 1 [.int .i32 (lab : Int), .int .i64 (ix : Int)] (by first | rfl | (simp [Act.eval]; done) | simp [Act.eval, Act.put]) (by rfl) (World.news_of_block (cs := #[.int .i32 (lab : Int), .int .i64 (ix : Int)]) (t := 92) (fr := (0, 0)) (heap_alloc_new w7 _)) (by simp [Value.oneCell']) (by omega) (by unfold maxLen; omega) (by omega) (by have := hR7.t.size; simp; omega) (w7.heap.size + 1) (by simp) ?_; intro g3 c3 w8 hown8 hgrow8 hat8 hlt8; obtain ⟨x0, x1⟩ := hR7.keep hgrow8)
                    | (go_simp; go_at_call 34; (with_reducible refine C6.out.mono ?_); rintro e w7 ⟨rfl, hPO⟩; obtain ⟨S2, hR7⟩ := R6d.out.step hPO; have y1 := hR7.c1; have y3 := fun o => ((below_one w7 o).cell (p := ⟨p, 1, none⟩) (lt_of_cell y1)).trans y1))
                all_goals
                  have RN := Lib.hid (hR7.edge (x := ⟨(lab : Int), (ix : Int)⟩) hown8 hgrow8 (hat8.imp id (fun e => by simp; exact e)))
                  clear hown8 hgrow8 hat8 hlt8 x0 x1 y1 y3
                  go_wp2_with fail
                  go_meet
                  exact Lib.hid ⟨S2, _, _, RN.out⟩
              case rest =>
                obtain ⟨S2, ea2, ec2, hR8⟩ := hcut.out
                rename World => w9
                have R8 := Lib.hid hR8
                clear hcut hR8 R6 R6d C6 y0 FA
                obtain ⟨b, o, rfl, hcc⟩ := R8.out.hl.at hpos
                obtain ⟨d, hd⟩ : ∃ d, rs.length = d := ⟨_, rfl⟩
                rw [hd] at HFL HWF HE
                rw [hd]
                clear hd
                have hd1' := HFL.out.1
                have hd2' := HFL.out.2
                have hsc' := hsc.out
                obtain ⟨o', hA, hAH⟩ : ∃ o', (if sc = d then some (⟨b, o, none⟩ : Addr) else some ⟨b, o + d, none⟩) = some ⟨b, o', none⟩ ∧ Hid (HoldsT w9 (some ⟨b, o', none⟩) (l.drop d).length (l.drop d)) := by
                  by_cases hc0 : sc = d
                  · have hl0' : l.drop d = [] := List.drop_eq_nil_of_le (by omega)
                    exact ⟨o, by rw [if_pos hc0], Lib.hid (by rw [hl0']; exact HoldsT.nil _ _)⟩
                  · refine ⟨o + d, by rw [if_neg hc0], Lib.hid (HoldsT.of rfl (fun i hi => ?_))⟩
                    rw [List.length_drop] at hi
                    have h := hcc (d + i) (by omega)
                    rw [show o + d + i = o + (d + i) by omega, h]
                    congr 2
                    simp [List.getD_eq_getElem?_getD]
                have RN := Lib.hid (R8.out.other hAH.out (fun h0 fb fo e => by injection e with e; injection e with e1 e2; subst e1; exact R8.out.la hpos b o rfl))
                have i1 : (0 : Int) ≤ (d : Int) := by omega
                have i2 : (d : Int) ≤ (l.length : Int) := by omega
                have ldr : l.length - d = (l.drop d).length := by rw [List.length_drop]
                have LDR := Lib.hid ldr
                clear hcc ldr
                go_wp2_with fail
                go_roundw
                case rel => exact ⟨k, l.drop d, es ++ [⟨(lab : Int), (ix : Int)⟩], st2, S2, ea2, ec2, some ⟨b, o', none⟩, sc - d, by rw [LDR.out], by rw [List.length_drop]; omega, by simp; omega, Lib.hid (by rw [List.length_drop]; omega), HE, Lib.hid ⟨hOK.out.1.drop _, fun t ht => hOK.out.2 t (List.mem_of_mem_drop ht)⟩, Lib.hid (by have := hWT.out; have := HWF.out; have := RLN.out; omega), Lib.hid (by have := hLT.out; have := RLN.out; omega), Lib.hid (by rw [← hRS.out]; have := reach_rests f' st1 rs OKF.out st.length hLT.out; rw [HRE.out] at this; exact this), RN⟩
                case measure => simp only [sliceLenG]; rw [LDR.out, List.length_drop]; omega
theorem reach_any (bb g m : Nat) : ∀ f, ReachAny bb g m f := by
  intro f
  induction f with
  | zero => exact reach_step bb g m 0 (fun f' e => by omega)
  | succ f ih => exact reach_step bb g m (f + 1) (fun f' e => by obtain rfl : f = f' := by omega
                                                                 exact ih)
end Go.Proofs.Ytolggcdlpiedmaa
/- graph: Build, and what is asked of a graph -/
namespace Go.Proofs.Ytolggcdlpiedmaa
open Go.RowKit Go.Maps
set_option linter.unusedVariables false
set_option maxRecDepth 20000
/-- the nodes of the words -/
def grS (ts : List Tx) : List GN := (reachF 13 [] ts).2
theorem ok_good {ts : List Tx} (h : goodV ts = 0) (hsz : ∀ t ∈ ts, t.size ≤ 100) : OkL 12 ts := by
  obtain ⟨h1, h2, h3⟩ := goodV_zero h
  exact ⟨h3, fun t ht => by have := (h2 t ht).1; omega, fun t ht => (h2 t ht).2, by omega, hsz⟩
theorem wt_good : ∀ (ts : List Tx), (∀ t ∈ ts, lenS t ≤ 12) → wtS ts ≤ ts.length * 12
  | [], _ => by simp [wtS]
  | t :: l, h => by
    have h1 := wt_good l (fun u hu => h u (by simp [hu]))
    have h2 := h t (by simp)
    simp only [wtS, List.length_cons]
    omega
def BuildP (w : World) (ts : List Tx) (e : Ending) (w' : World) : Prop := ∃ g S, e = .returned (.tuple #[.pointer (some ⟨g, 0, none⟩), .int .i64 0]) ∧ GAt g (grS ts) w' S ∧ (∀ k, S k → w.heap.size ≤ k) ∧ Below w.heap.size w w'
theorem build_bad (a : Option Addr) (n cap : Nat) (ts : List Tx) (v : Int) (w : World) (hh : HoldsT w a n ts) (hn : n ≤ 9223372036854775807) (hs : ∀ t ∈ ts, t.size ≤ 9223372036854775807) (hv : goodV ts = v) (h0 : v ≠ 0) :
    Calls Try.prog 14 #[.slice a n cap] w fun e w' => e = .returned (.tuple #[.pointer none, .int .i64 v]) ∧ Below w.heap.size w w' := by
  have CG := Lib.hid (good_any' a n cap ts w hh hn hs)
  rw [hv] at CG
  have hne : (v != 0) = true := by simpa using h0
  clear hh hs hv h0
  go_enter Try.func14, Try.ntmps14
  go_wp2_with fail
  refine CG.out.mono ?_
  rintro e w1 ⟨rfl, hb⟩
  have B1 := Lib.hid hb
  clear hb
  go_wp2_with fail
  go_ret2
  exact ⟨rfl, B1.out⟩
theorem qb_start (w1 : World) (t1 t2 : TypeId) : QB (w1.heap.size + 1 + 1) w1.heap.size (w1.heap.size + 1) [] (((w1.alloc (Obj.cells #[Value.slice none 0 0] t1)).alloc (Obj.map #[] 0)).alloc (Obj.cells #[Value.pointer (some { block := w1.heap.size, off := 0 }), Value.map (some (w1.heap.size + 1))] t2)) (fun k => w1.heap.size ≤ k ∧ k < w1.heap.size + 3) := by
  have hm := mapS_made (w1.alloc (Obj.cells #[Value.slice none 0 0] t1))
  rw [show (w1.alloc (Obj.cells #[Value.slice none 0 0] t1)).heap.size = w1.heap.size + 1 from by simp] at hm
  have hb := Below.heap_alloc ((w1.alloc (Obj.cells #[Value.slice none 0 0] t1)).alloc (Obj.map #[] 0)) (Obj.cells #[Value.pointer (some { block := w1.heap.size, off := 0 }), Value.map (some (w1.heap.size + 1))] t2)
  have hc := Below.heap_alloc (w1.alloc (Obj.cells #[Value.slice none 0 0] t1)) (Obj.map #[] 0)
  have b0 := (hb w1.heap.size (by simp; omega)).trans (hc w1.heap.size (by simp))
  have b1 := hb (w1.heap.size + 1) (by simp)
  refine ⟨none, 0, [], ⟨⟨?_, fun i => ?_, World.ownsRow_nil _ 0 _ 2, fun x hx => by simp at hx, ⟨by omega, by omega⟩, fun q hq => by (cases hq), fun k hk => ?_⟩, rfl, ?_, ?_, ⟨fun _ => none, hm.block b1, fun l _ => rfl⟩, ⟨by omega, by omega⟩, ⟨by omega, by omega⟩, by omega, by omega, by omega, fun q hq => by (cases hq), fun x hx => by simp at hx⟩⟩
  · rw [World.cell?_of_block (w := w1.alloc (Obj.cells #[Value.slice none 0 0] t1)) b0, World.cell?_alloc_at _ _ _ _ rfl]; rfl
  · rw [World.frozen?_of_block (w := w1.alloc (Obj.cells #[Value.slice none 0 0] t1)) b0, World.frozen?_alloc_at _ _ _ _ rfl]
  · simp; omega
  · rw [World.cell?_alloc_at _ _ _ _ (by simp)]; rfl
  · rw [World.cell?_alloc_at _ _ _ _ (by simp)]; rfl
set_option maxHeartbeats 1600000 in
theorem build_good (a : Option Addr) (n cap : Nat) (ts : List Tx) (w : World) (hh : HoldsT w a n ts) (hc : n ≤ cap) (hn : n ≤ 9223372036854775807) (hs : ∀ t ∈ ts, t.size ≤ 100) (hv : goodV ts = 0) :
    Calls Try.prog 14 #[.slice a n cap] w (BuildP w ts) := by
  have CG := Lib.hid (good_any' a n cap ts w hh hn (fun t ht => by have := hs t ht; omega))
  rw [hv] at CG
  have OK := Lib.hid (ok_good hv hs)
  have HH := Lib.hid hh
  have hl := hh.len
  have HL := Lib.hid hl
  have hmm := @run_makeMap Try.prog
  clear hh hs hv hl
  go_enter Try.func14, Try.ntmps14
  go_wp2_with fail
  refine CG.out.mono ?_
  rintro e w1 ⟨rfl, hb⟩
  have B1 := Lib.hid hb
  clear hb CG
  go_upto_region 5 with fail
  have Q0 := Lib.hid (qb_start w1 65 68)
  obtain ⟨w2, hw2⟩ : ∃ w2, (((w1.alloc (Obj.cells #[Value.slice none 0 0] 65)).alloc (Obj.map #[] 0)).alloc (Obj.cells #[Value.pointer (some { block := w1.heap.size, off := 0 }), Value.map (some (w1.heap.size + 1))] 68)) = w2 := ⟨_, rfl⟩
  have B2 := Lib.hid (show Below w.heap.size w w2 from by
    rw [← hw2]
    have z1 := B1.out.size
    exact B1.out.trans (((below_one _ _).mono z1).trans (((below_one _ _).mono (by simp; omega)).trans ((below_one _ _).mono (by simp; omega)))))
  have hz2 : w2.heap.size = w1.heap.size + 3 := by rw [← hw2]; simp
  rw [hw2] at Q0
  rw [hw2]
  have CR := Lib.hid (reach_any (w1.heap.size + 1 + 1) w1.heap.size (w1.heap.size + 1) 12 [] ts a cap _ w2 Q0.out OK.out (HL.out.symm ▸ (HH.out.below B2.out)) (fun h0 fb fo e => by
    rw [HL.out] at h0
    obtain ⟨b, o, e2, hc2⟩ := HH.out.at h0
    have h3 := lt_of_cell (hc2 0 h0)
    rw [e2] at e
    injection e with e; injection e with e4 e5
    have z1 := B1.out.size
    exact ⟨by omega, by omega⟩) (by rw [HL.out]; exact hc) (by
    have h3 := wt_good ts OK.out.hi
    have h4 := OK.out.n
    simp only [List.length_nil]; omega))
  rw [HL.out] at CR
  clear hw2 Q0
  go_wp2_with fail
  refine CR.out.mono ?_
  rintro e w3 ⟨rfl, S3, ⟨na, nc, NL, hB⟩, hs3, ht3⟩
  have B := Lib.hid hB; have T3 := Lib.hid ht3; have S3H := Lib.hid hs3
  have c0 := hB.c0
  have z1 := B1.out.size
  clear hB ht3 hs3 CR
  go_wp2_with fail
  go_ret2
  refine ⟨_, S3, rfl, ⟨na, nc, NL, B.out.G, B.out.eq⟩, fun k hk => ?_, B2.out.trans (T3.out.below (fun k hk => by omega) (by omega))⟩
  rcases S3H.out k hk with x | x
  · omega
  · omega
end Go.Proofs.Ytolggcdlpiedmaa
/- graph: has, Nodes, Final, Edges, Next -/
namespace Go.Proofs.Ytolggcdlpiedmaa
open Go.RowKit
set_option linter.unusedVariables false
set_option maxRecDepth 20000
theorem map_eqG : ∀ (NL : List NM) (st : List GN), NL.map nmP = st.map gnP → NL.length = st.length ∧ ∀ n, n < st.length → (NL.getD n nm0).fin = (st.getD n gn0).final ∧ (NL.getD n nm0).es = (st.getD n gn0).edges
  | [], [], _ => ⟨rfl, fun n h => by simp at h⟩
  | [], g :: st, h => by simp at h
  | x :: NL, [], h => by simp at h
  | x :: NL, g :: st, h => by
    simp only [List.map_cons, List.cons.injEq] at h
    obtain ⟨h1, h2⟩ := map_eqG NL st h.2
    refine ⟨by simp [h1], fun n hn => ?_⟩
    have h3 := h.1
    unfold nmP gnP at h3
    cases n with
    | zero => exact ⟨congrArg Prod.fst h3, congrArg Prod.snd h3⟩
    | succ n => exact h2 n (by simpa using hn)
theorem GAt.len {g : Nat} {st : List GN} {w : World} {S : Nat → Prop} (h : GAt g st w S) : ∃ na nc, w.cell? ⟨g, 0, none⟩ = some (.slice na st.length nc) := by
  obtain ⟨na, nc, NL, G, e⟩ := h
  have := G.c
  rw [(map_eqG _ _ e).1] at this
  exact ⟨na, nc, this⟩
theorem GAt.node {g : Nat} {st : List GN} {w : World} {S : Nat → Prop} (h : GAt g st w S) {n : Nat} (hn : n < st.length) : ∃ q nc ea ec, w.cell? ⟨g, 0, none⟩ = some (.slice (some ⟨q, 0, none⟩) st.length nc) ∧ w.cell? ⟨q, n * 2, none⟩ = some (.bool (st.getD n gn0).final) ∧ w.cell? ⟨q, n * 2 + 1, none⟩ = some (.slice ea (st.getD n gn0).edges.length ec) ∧ HoldsEd w ea (st.getD n gn0).edges.length (st.getD n gn0).edges ∧ (ea = none → (st.getD n gn0).edges.length = 0 ∧ ec = 0) := by
  obtain ⟨na, nc, NL, G, e⟩ := h
  obtain ⟨e1, e2⟩ := map_eqG _ _ e
  have c := G.c
  obtain ⟨q, rfl, c0, c1⟩ := G.at (i := n) (by omega)
  obtain ⟨e3, e4⟩ := e2 n hn
  rw [e1] at c
  rw [e3] at c0
  have ei := G.e _ (mem_nm (show n < NL.length by omega))
  unfold EdIn at ei
  rw [e4] at c1 ei
  exact ⟨q, nc, _, _, c, c0, c1, ei.1, ei.2.1⟩
def hasG (st : List GN) (n : Int) : Bool := decide (0 ≤ n ∧ n < (st.length : Int))
theorem hasG_no {st : List GN} {n : Int} (h : hasG st n = false) : n < 0 ∨ (st.length : Int) ≤ n := by
  simp only [hasG, decide_eq_false_iff_not] at h; omega
theorem hasG_yes {st : List GN} {n : Int} (h : hasG st n = true) : ∃ k : Nat, n = k ∧ k < st.length := by
  simp only [hasG, decide_eq_true_eq] at h
  exact ⟨n.toNat, by omega, by omega⟩
theorem gHas_nil (n : Int) (w : World) : Calls Try.prog 78 #[.pointer none, .int .i64 n] w fun e w' => e = .returned (.bool false) ∧ w = w' := by
  go_enter Try.func78, Try.ntmps78
  go_wp2_with fail
  go_ret
  exact ⟨rfl, rfl⟩
theorem gHas_any (g : Nat) (st : List GN) (S : Nat → Prop) (n : Int) (w : World) (h : GAt g st w S) : Calls Try.prog 78 #[.pointer (some ⟨g, 0, none⟩), .int .i64 n] w fun e w' => e = .returned (.bool (hasG st n)) ∧ w = w' := by
  obtain ⟨na, nc, c⟩ := h.len
  by_cases h0 : n < 0
  · have d0 : decide (n ≥ 0) = false := decide_eq_false (by omega)
    have e : hasG st n = false := decide_eq_false (by omega)
    rw [e]
    clear e
    go_enter Try.func78, Try.ntmps78
    go_wp2_with fail
    go_ret
    exact ⟨rfl, rfl⟩
  · have d0 : decide (n ≥ 0) = true := decide_eq_true (by omega)
    have e : hasG st n = decide (n < (st.length : Int)) := by unfold hasG; congr 1; simp; omega
    rw [e]
    clear e
    go_enter Try.func78, Try.ntmps78
    go_wp2_with fail
    go_ret
    exact ⟨rfl, rfl⟩
theorem gNodes_nil (w : World) : Calls Try.prog 33 #[.pointer none] w fun e w' => e = .returned (.int .i64 0) ∧ w = w' := by
  go_enter Try.func33, Try.ntmps33
  go_wp2_with fail
  go_ret
  exact ⟨rfl, rfl⟩
theorem gNodes_any (g : Nat) (st : List GN) (S : Nat → Prop) (w : World) (h : GAt g st w S) : Calls Try.prog 33 #[.pointer (some ⟨g, 0, none⟩)] w fun e w' => e = .returned (.int .i64 st.length) ∧ w = w' := by
  obtain ⟨na, nc, c⟩ := h.len
  go_enter Try.func33, Try.ntmps33
  go_wp2_with fail
  go_ret
  exact ⟨rfl, rfl⟩
def finG (st : List GN) (n : Int) : Bool := hasG st n && (st.getD n.toNat gn0).final
theorem gFinal_nil (n : Int) (w : World) : Calls Try.prog 57 #[.pointer none, .int .i64 n] w fun e w' => e = .returned (.bool false) ∧ w = w' := by
  have CH := gHas_nil n w
  go_enter Try.func57, Try.ntmps57
  go_wp2_with fail
  refine CH.mono ?_
  rintro e w1 ⟨rfl, rfl⟩
  go_wp2_with fail
  go_ret
  exact ⟨rfl, rfl⟩
theorem gFinal_any (g : Nat) (st : List GN) (S : Nat → Prop) (n : Int) (w : World) (h : GAt g st w S) : Calls Try.prog 57 #[.pointer (some ⟨g, 0, none⟩), .int .i64 n] w fun e w' => e = .returned (.bool (finG st n)) ∧ w = w' := by
  have CH := gHas_any g st S n w h
  unfold finG
  cases hb : hasG st n with
  | false =>
    rw [hb] at CH
    go_enter Try.func57, Try.ntmps57
    go_wp2_with fail
    refine CH.mono ?_
    rintro e w1 ⟨rfl, rfl⟩
    go_wp2_with fail
    go_ret
    exact ⟨rfl, rfl⟩
  | true =>
    rw [hb] at CH
    obtain ⟨k, rfl, hk⟩ := hasG_yes hb
    obtain ⟨q, nc, ea, ec, c0, c1, c2, -, -⟩ := h.node hk
    have i1 : (0 : Int) ≤ (k : Int) := by omega
    have i2 : (k : Int) < (st.length : Int) := by omega
    have e : (k : Int).toNat = k := by omega
    rw [e, Bool.true_and]
    obtain ⟨fb, hfb⟩ : ∃ b, (st.getD k gn0).final = b := ⟨_, rfl⟩
    rw [hfb] at c1 ⊢
    clear e c2 hfb
    go_enter Try.func57, Try.ntmps57
    go_wp2_with fail
    refine CH.mono ?_
    rintro e w1 ⟨rfl, rfl⟩
    go_wp2_with fail
    go_ret
    exact ⟨rfl, rfl⟩
def edgesG (st : List GN) (n : Int) : List EdP := if hasG st n then (st.getD n.toNat gn0).edges else []
def RetEd (w : World) (es : List EdP) (e : Ending) (w' : World) : Prop := ∃ a c, e = .returned (.slice a es.length c) ∧ w'.ownsRow w.heap.size 92 2 (.slice a es.length c) es.length (edsV es) ∧ Below w.heap.size w w'
theorem retEd_own {w w' : World} {a : Option Addr} {c n : Nat} {ys : List EdP} (hn : ys.length = n) (hh : w'.ownsRow w.heap.size 92 2 (.slice a n c) n (edsV ys)) (hb : Below w.heap.size w w') (v : Value) (hv : v = .slice a n c) : RetEd w ys (.returned v) w' := by
  subst hn hv
  exact ⟨a, c, rfl, hh, hb⟩
theorem cloneEd_any (a : Option Addr) (n cap : Nat) (l : List EdP) (w : World) (hh : HoldsEd w a n l) (hnil : a = none → n = 0 ∧ cap = 0) (hn : n ≤ 50000) :
    Calls Try.prog 80 #[.slice a n cap] w (RetEd w l) := by
  obtain ⟨i0, hi, hz0, hz1, hz2⟩ := info_parts edgeG_info
  have hll := hh.len
  cases a with
  | none =>
    obtain ⟨rfl, rfl⟩ := hnil rfl
    obtain rfl : l = [] := List.eq_nil_of_length_eq_zero hll
    have he := fun w => Lib.run_eql_slice_nil (P := Try.prog) w 86 92 none 0 0 0 0 Try.underlying86
    go_enter Try.func80, Try.ntmps80
    go_wp2_with fail
    go_ret
    exact retEd_own rfl (World.ownsRow_nil _ _ _ _) (Below.refl _ _) _ rfl
  | some ad =>
    have hnews : ∀ ad', (some ad : Option Addr) = some ad' → ∀ j u, (edsV l)[j]? = some u → (w.alloc (.cells #[] 92)).cell? (ad'.add j) = some u :=
      HoldsEd.cellsAny hh (World.grownBy_alloc w _ none)
    have HN := Lib.hid hnews
    have hown : (w.alloc (.cells #[] 92)).ownsRow w.heap.size 92 2 (.slice (some ⟨w.heap.size, 0, none⟩) 0 0) 0 [] := World.ownsRow_lit w #[] 0 (Nat.le_refl _) (by unfold maxLen; omega) rfl
    have HO := Lib.hid hown
    clear hnews hown hh
    have he := fun w => Lib.run_eql_slice_nil (P := Try.prog) w 86 92 (some ad) n cap 0 0 Try.underlying86
    go_enter Try.func80, Try.ntmps80
    go_wp2_with (at_builtin; refine wpList_append_any rfl (.tmp 5) (.tmp 6) 86 rfl w.heap.size 92 i0 _ 2 16 Try.underlying86 hi hz0 hz1 hz2 rfl (by decide) _ 0 [] rfl HO.out _ n cap (edsV l) rfl (some_none _) (by rw [edsV_len, hll]) HN.out (edsV_one _) (by unfold maxLen; omega) (by omega) (by simp) ?_; intro a3 c3 w3 hown3 hb3 hnil3)
    rw [Nat.zero_add, List.nil_append] at hown3
    go_ret
    exact retEd_own hll hown3 ((below_one w (.cells #[] 92)).trans (hb3)) _ (by simp)
theorem gEdges_nil (n : Int) (w : World) : Calls Try.prog 59 #[.pointer none, .int .i64 n] w fun e w' => e = .returned (.slice none 0 0) ∧ w = w' := by
  have CH := gHas_nil n w
  go_enter Try.func59, Try.ntmps59
  go_wp2_with fail
  refine CH.mono ?_
  rintro e w1 ⟨rfl, rfl⟩
  go_wp2_with fail
  go_ret
  exact ⟨rfl, rfl⟩
theorem gEdges_any (g : Nat) (st : List GN) (S : Nat → Prop) (n : Int) (w : World) (h : GAt g st w S) (hE : ∀ x ∈ st, x.edges.length ≤ 1000) : Calls Try.prog 59 #[.pointer (some ⟨g, 0, none⟩), .int .i64 n] w (RetEd w (edgesG st n)) := by
  have CH := gHas_any g st S n w h
  unfold edgesG
  cases hb : hasG st n with
  | false =>
    rw [hb] at CH
    rw [if_neg (by simp)]
    go_enter Try.func59, Try.ntmps59
    go_wp2_with fail
    refine CH.mono ?_
    rintro e w1 ⟨rfl, rfl⟩
    go_wp2_with fail
    go_ret
    exact retEd_own rfl (World.ownsRow_nil _ _ _ _) (Below.refl _ _) _ rfl
  | true =>
    rw [hb] at CH
    rw [if_pos rfl]
    obtain ⟨k, rfl, hk⟩ := hasG_yes hb
    obtain ⟨q, nc, ea, ec, c0, c1, c2, c3, c4⟩ := h.node hk
    have i1 : (0 : Int) ≤ (k : Int) := by omega
    have i2 : (k : Int) < (st.length : Int) := by omega
    have e : (k : Int).toNat = k := by omega
    have hx : st.getD k gn0 ∈ st := by rw [List.getD_eq_getElem?_getD, List.getElem?_eq_getElem hk]; simp
    have hle := hE _ hx
    rw [e]
    obtain ⟨es, hes⟩ : ∃ b, (st.getD k gn0).edges = b := ⟨_, rfl⟩
    rw [hes] at c2 c3 c4 hle ⊢
    have CC := Lib.hid (cloneEd_any ea es.length ec es w c3 c4 (by omega))
    clear e c1 hes hx c3 c4
    go_enter Try.func59, Try.ntmps59
    go_wp2_with fail
    refine CH.mono ?_
    rintro e w1 ⟨rfl, rfl⟩
    go_wp2_with fail
    refine CC.out.mono ?_
    rintro e w2 ⟨a, c, rfl, ho, hb2⟩
    go_wp2_with fail
    go_ret
    exact ⟨a, c, rfl, ho, hb2⟩
end Go.Proofs.Ytolggcdlpiedmaa
/- graph: Next, Has -/
namespace Go.Proofs.Ytolggcdlpiedmaa
open Go.RowKit
set_option linter.unusedVariables false
set_option maxRecDepth 20000
def findE (r : Int) : List EdP → Int × Bool
  | [] => (0, false)
  | e :: l => if e.r = r then (e.dst, true) else findE r l
theorem findE_at (r : Int) : ∀ (es : List EdP) (j : Nat), j < es.length → (∀ x ∈ es.take j, x.r ≠ r) → (es.getD j ed0).r = r → findE r es = ((es.getD j ed0).dst, true)
  | [], j, h, _, _ => by simp at h
  | e :: l, 0, _, _, h => by
    have h' : e.r = r := h
    rw [findE, if_pos h']; rfl
  | e :: l, j + 1, h, ha, hr => by
    have h' : e.r ≠ r := ha e (by simp)
    rw [findE, if_neg h']
    exact findE_at r l j (by simpa using h) (fun x hx => ha x (by simp [hx])) hr
theorem findE_none (r : Int) : ∀ (es : List EdP), (∀ x ∈ es, x.r ≠ r) → findE r es = (0, false)
  | [], _ => rfl
  | e :: l, h => by
    rw [findE, if_neg (h e (by simp))]
    exact findE_none r l (fun x hx => h x (by simp [hx]))
def nextG (st : List GN) (n r : Int) : Int × Bool := findE r (edgesG st n)
theorem take_ed (l : List EdP) (j : Nat) (h : j < l.length) : l.take (j + 1) = l.take j ++ [l.getD j ed0] := by
  rw [List.take_add_one, List.getElem?_eq_getElem h, List.getD_eq_getElem?_getD, List.getElem?_eq_getElem h]; rfl
/-- where a text leads from a node on -/
def walkG (st : List GN) : List Nat → Int → Option Int
  | [], n => some n
  | r :: l, n => if (nextG st n (r : Int)).2 then walkG st l (nextG st n (r : Int)).1 else none
def endG (st : List GN) : Option Int → Bool
  | some n => finG st n
  | none => false
def hasW (st : List GN) (rs : List Nat) : Bool := endG st (walkG st rs 0)
end Go.Proofs.Ytolggcdlpiedmaa
/- graph: Has -/
namespace Go.Proofs.Ytolggcdlpiedmaa
open Go.RowKit
set_option linter.unusedVariables false
set_option maxRecDepth 20000
end Go.Proofs.Ytolggcdlpiedmaa
/- two lists of api.Edge: held against each other -/
namespace Go.Proofs.Ytolggcdlpiedmaa
open Go.RowKit
set_option linter.unusedVariables false
set_option maxRecDepth 20000
theorem ssEdges (x : ByteArray) : (x.toList == x.toList) = true := by simp
end Go.Proofs.Ytolggcdlpiedmaa
/- graph: awake, and of no graph -/
namespace Go.Proofs.Ytolggcdlpiedmaa
open Go.RowKit
set_option linter.unusedVariables false
set_option maxRecDepth 20000
def gAB : Tx := ⟨#[97, 98]⟩
def gCB : Tx := ⟨#[99, 98]⟩
def gB : Tx := ⟨#[98]⟩
theorem aw_good : goodV [gAB, gCB] = 0 := by kernel_rfl
theorem aw_len : (grS [gAB, gCB]).length = 3 := by kernel_rfl
theorem aw_e0 : edgesG (grS [gAB, gCB]) 0 = [⟨97, 1⟩, ⟨99, 1⟩] := by kernel_rfl
theorem aw_has : hasW (grS [gAB, gCB]) (runesS gAB) = true := by kernel_rfl
theorem aw_hasnt : hasW (grS [gAB, gCB]) (runesS gB) = false := by kernel_rfl
theorem aw_few : ∀ x ∈ grS [gAB, gCB], x.edges.length ≤ 1000 := by
  have h : (grS [gAB, gCB]).all (fun x => decide (x.edges.length ≤ 1000)) = true := by kernel_rfl
  intro x hx
  exact of_decide_eq_true (List.all_eq_true.1 h x hx)
theorem holdsT_litG (w : World) (a b : Tx) (e : TypeId) (fr : Nat × Nat) : HoldsT (w.alloc (.cells #[.string a, .string b] e fr)) (some ⟨w.heap.size, 0, none⟩) 2 [a, b] := by
  refine ⟨by simp [strsV], fun _ => ⟨w.heap.size, 0, rfl, fun i hi => ?_⟩⟩
  rw [Nat.zero_add, World.cell?_alloc_mark]
  match i, hi with
  | 0, _ => rfl
  | 1, _ => rfl
theorem holdsEd_lit2 (w : World) (a b : EdP) (e : TypeId) (fr : Nat × Nat) : HoldsEd (w.alloc (.cells #[.int .i32 a.r, .int .i64 a.dst, .int .i32 b.r, .int .i64 b.dst] e fr)) (some ⟨w.heap.size, 0, none⟩) 2 [a, b] := by
  refine ⟨rfl, fun _ => ⟨w.heap.size, 0, rfl, fun i hi => ?_⟩⟩
  match i, hi with
  | 0, _ => constructor <;> (rw [World.cell?_alloc_mark]; rfl)
  | 1, _ => constructor <;> (rw [World.cell?_alloc_mark]; rfl)
/-- a graph in a world that has grown, its blocks the call's own -/
structure CtxG (w0 w : World) (g : Nat) (st : List GN) (S : Nat → Prop) : Prop where
  G : GAt g st w S
  s : ∀ k, S k → w0.heap.size ≤ k
  b : Below w0.heap.size w0 w
theorem CtxG.more {w0 w w' : World} {g : Nat} {st : List GN} {S : Nat → Prop} (c : CtxG w0 w g st S) (hb : Below w.heap.size w w') : CtxG w0 w' g st S :=
  ⟨(gAt_ok g st).below c.G hb, c.s, c.b.trans (hb.mono c.b.size)⟩
theorem build_c {w0 : World} (a : Option Addr) (n cap : Nat) (ts : List Tx) (st : List GN) (w : World) (hw : Below w0.heap.size w0 w) (hh : HoldsT w a n ts) (hc : n ≤ cap) (hn : n ≤ 9223372036854775807) (hs : ∀ t ∈ ts, t.size ≤ 100) (hv : goodV ts = 0) (hst : grS ts = st) :
    Calls Try.prog 14 #[.slice a n cap] w fun e w' => ∃ g S, e = .returned (.tuple #[.pointer (some ⟨g, 0, none⟩), .int .i64 0]) ∧ CtxG w0 w' g st S ∧ Below w.heap.size w w' := by
  subst hst
  exact (build_good a n cap ts w hh hc hn hs hv).mono fun e w' ⟨g, S, e1, h1, h2, h3⟩ => ⟨g, S, e1, ⟨h1, fun k hk => Nat.le_trans hw.size (h2 k hk), hw.trans (h3.mono hw.size)⟩, h3⟩
theorem gNodes_c (v : Int) {w0 : World} {g : Nat} {st : List GN} {S : Nat → Prop} (w : World) (c : CtxG w0 w g st S) (hv : (st.length : Int) = v) :
    Calls Try.prog 33 #[.pointer (some ⟨g, 0, none⟩)] w fun e w' => e = .returned (.int .i64 v) ∧ w = w' := by subst hv; exact gNodes_any g st S w c.G
theorem gEdges_c (n : Int) (es : List EdP) {w0 : World} {g : Nat} {st : List GN} {S : Nat → Prop} (w : World) (c : CtxG w0 w g st S) (hE : ∀ x ∈ st, x.edges.length ≤ 1000) (hv : edgesG st n = es) :
    Calls Try.prog 59 #[.pointer (some ⟨g, 0, none⟩), .int .i64 n] w (RetEd w es) := by subst hv; exact gEdges_any g st S n w c.G hE
end Go.Proofs.Ytolggcdlpiedmaa
/- graph: what a built graph keeps, plain -/
namespace Go.Proofs.Ytolggcdlpiedmaa
open Go.RowKit
set_option linter.unusedVariables false
set_option maxRecDepth 20000
def restsG (st : List GN) : List (List Tx) := st.map GN.rests
/-- the edges of the texts' first runes, each to a node of what is behind it -/
def EdOk (R : List (List Tx)) : List Tx → List EdP → Prop
  | l, [] => l = []
  | l, e :: es => l ≠ [] ∧ e.r = ((folS l).1 : Int) ∧ (∃ k : Nat, e.dst = (k : Int) ∧ R[k]? = some (folS l).2) ∧ EdOk R (l.drop (folS l).2.length) es
theorem EdOk.app {R T : List (List Tx)} : ∀ {es : List EdP} {l : List Tx}, EdOk R l es → EdOk (R ++ T) l es
  | [], l, h => h
  | e :: es, l, h => by
    obtain ⟨h1, h2, ⟨k, h3, h4⟩, h5⟩ := h
    have hk := (List.getElem?_eq_some_iff.1 h4).1
    exact ⟨h1, h2, ⟨k, h3, by rw [List.getElem?_append_left hk]; exact h4⟩, h5.app⟩
theorem OkL.mono {f g : Nat} {l : List Tx} (h : OkL f l) (hg : f ≤ g) : OkL g l := ⟨h.ord, h.lo, fun t ht => by have := h.hi t ht; omega, h.n, h.sz⟩
structure NOk (R : List (List Tx)) (g : GN) : Prop where
  fin : g.final = finS g.rests
  ed : EdOk R (bodS g.rests) g.edges
  ok : OkL 12 g.rests
theorem NOk.app {R T : List (List Tx)} {g : GN} (h : NOk R g) : NOk (R ++ T) g := ⟨h.fin, h.ed.app, h.ok⟩
theorem restsG_app (a b : List GN) : restsG (a ++ b) = restsG a ++ restsG b := by simp [restsG]
theorem find_none {st : List GN} {s : List Tx} (h : findG st s = none) : s ∉ restsG st := by
  unfold findG at h
  rw [List.findIdx?_eq_none_iff] at h
  intro hm
  obtain ⟨g, hg, e⟩ := List.mem_map.1 hm
  have := h g hg
  simp [e] at this
theorem find_some {st : List GN} {s : List Tx} {i : Nat} (h : findG st s = some i) : (restsG st)[i]? = some s := by
  unfold findG at h
  obtain ⟨h1, h2, -⟩ := List.findIdx?_eq_some_iff_getElem.1 h
  have e : st[i].rests = s := of_decide_eq_true h2
  rw [restsG, List.getElem?_map, List.getElem?_eq_getElem h1, Option.map_some, e]
theorem reach_found {f : Nat} {st : List GN} {s : List Tx} {i : Nat} (h : findG st s = some i) : reachF (f + 1) st s = (i, st) := by unfold reachF; rw [h]
theorem set_mid {α : Type} (a b : List α) (x y : α) : ((a ++ [x]) ++ b).set a.length y = a ++ (y :: b) := by
  rw [List.append_assoc, List.set_append_right _ _ (Nat.le_refl _), Nat.sub_self]; rfl
theorem reach_new {f : Nat} {st t : List GN} {s : List Tx} {es : List EdP} (h : findG st s = none) (hk : edgesF (reachF f) (bodS s).length (bodS s) [] (st ++ [⟨s, false, []⟩]) = (es, (st ++ [⟨s, false, []⟩]) ++ t)) :
    reachF (f + 1) st s = (st.length, st ++ (⟨s, finS s, es⟩ :: t)) := by
  unfold reachF
  rw [h, hk]
  simp only [set_mid]
structure ROk (st t : List GN) (s : List Tx) (i : Nat) : Prop where
  at_ : (restsG (st ++ t))[i]? = some s
  nodes : ∀ g ∈ t, NOk (restsG (st ++ t)) g
  nodup : (restsG st).Nodup → (restsG (st ++ t)).Nodup
  some_ : s ≠ [] → ∀ g ∈ t, g.rests ≠ []
theorem rok_new {f : Nat} {st t : List GN} {s : List Tx} {es : List EdP} (hs : OkL 12 s) (h : findG st s = none) (he : EdOk (restsG ((st ++ [⟨s, false, []⟩]) ++ t)) (bodS s) es) (hn : ∀ g ∈ t, NOk (restsG ((st ++ [⟨s, false, []⟩]) ++ t)) g) (hd : (restsG (st ++ [⟨s, false, []⟩])).Nodup → (restsG ((st ++ [⟨s, false, []⟩]) ++ t)).Nodup) (hm : s ≠ [] → ∀ g ∈ t, g.rests ≠ []) :
    ROk st (⟨s, finS s, es⟩ :: t) s st.length := by
  have e : restsG (st ++ (⟨s, finS s, es⟩ :: t)) = restsG ((st ++ [⟨s, false, []⟩]) ++ t) := by simp [restsG]
  have hl : (restsG st).length = st.length := by simp [restsG]
  refine ⟨?_, fun g hg => ?_, fun hnd => ?_, fun h0 g hg => ?_⟩
  · rw [restsG_app, List.getElem?_append_right (by omega), hl, Nat.sub_self]; rfl
  · rw [e]
    rcases List.mem_cons.1 hg with rfl | hg
    · exact ⟨rfl, he, hs⟩
    · exact hn g hg
  · rw [e]
    refine hd ?_
    rw [restsG_app]
    refine List.nodup_append.2 ⟨hnd, by simp [restsG], fun a ha b hb => ?_⟩
    simp only [restsG, List.map_cons, List.map_nil, List.mem_singleton] at hb
    subst hb
    exact fun e2 => find_none h (e2 ▸ ha)
  · rcases List.mem_cons.1 hg with rfl | hg
    · exact h0
    · exact hm h0 g hg
theorem bod_none {s : List Tx} (h : OkL 0 s) : bodS s = [] := by
  cases hbs : bodS s with
  | nil => rfl
  | cons t l =>
    have hm : t ∈ bodS s := by rw [hbs]; simp
    have h1 := bod_pos h.ord t hm
    have h2 := rst_len (h.bod.lo t hm) h1
    have h3 := h.bod.hi t hm
    omega
theorem reach_ok (f : Nat) (hf : f ≤ 12) : ∀ (st : List GN) (s : List Tx), OkL f s → ∃ t i, reachF (f + 1) st s = (i, st ++ t) ∧ ROk st t s i := by
  induction f with
  | zero =>
    intro st s h
    cases hfd : findG st s with
    | some i => exact ⟨[], i, by rw [reach_found hfd, List.append_nil], ⟨by rw [List.append_nil]; exact find_some hfd, fun g hg => by simp at hg, fun h => by rwa [List.append_nil], fun _ g hg => by simp at hg⟩⟩
    | none =>
      have hb := bod_none h
      refine ⟨[⟨s, finS s, []⟩], st.length, reach_new (t := []) hfd (by rw [hb, List.append_nil]; rfl), rok_new (f := 0) (t := []) (h.mono hf) hfd (by rw [hb]; rfl) (fun g hg => by simp at hg) (fun h => by rwa [List.append_nil]) (fun _ g hg => by simp at hg)⟩
  | succ f ih =>
    intro st s h
    cases hfd : findG st s with
    | some i => exact ⟨[], i, by rw [reach_found hfd, List.append_nil], ⟨by rw [List.append_nil]; exact find_some hfd, fun g hg => by simp at hg, fun h => by rwa [List.append_nil], fun _ g hg => by simp at hg⟩⟩
    | none =>
      have key : ∀ (n : Nat) (l : List Tx) (es : List EdP) (st1 : List GN), l.length ≤ n → OkL (f + 1) l → (∀ t ∈ l, 0 < t.size) → ∃ t es', edgesF (reachF (f + 1)) n l es st1 = (es ++ es', st1 ++ t) ∧ EdOk (restsG (st1 ++ t)) l es' ∧ (∀ g ∈ t, NOk (restsG (st1 ++ t)) g) ∧ ((restsG st1).Nodup → (restsG (st1 ++ t)).Nodup) ∧ ∀ g ∈ t, g.rests ≠ [] := by
        intro n
        induction n with
        | zero =>
          intro l es st1 hn _ _
          obtain rfl : l = [] := List.eq_nil_of_length_eq_zero (by omega)
          exact ⟨[], [], by simp [edgesF], rfl, fun g hg => by simp at hg, fun h => by rwa [List.append_nil], fun g hg => by simp at hg⟩
        | succ n ihn =>
          intro l es st1 hn hl hp
          by_cases h0 : l = []
          · subst h0
            exact ⟨[], [], by simp [edgesF], rfl, fun g hg => by simp at hg, fun h => by rwa [List.append_nil], fun g hg => by simp at hg⟩
          · obtain ⟨hfl, hfl2⟩ := fol_len l h0
            obtain ⟨t1, i, e1, r1⟩ := ih (by omega) st1 (folS l).2 (hl.fol hp)
            obtain ⟨t2, es2, e2, d1, d2, d3, d4⟩ := ihn (l.drop (folS l).2.length) (es ++ [⟨((folS l).1 : Int), (i : Int)⟩]) (st1 ++ t1) (by rw [List.length_drop]; omega) (hl.drop _) (fun t ht => hp t (List.mem_of_mem_drop ht))
            have hne : (folS l).2 ≠ [] := fun e => by rw [e] at hfl; simp at hfl
            refine ⟨t1 ++ t2, ⟨((folS l).1 : Int), (i : Int)⟩ :: es2, ?_, ?_, fun g hg => ?_, fun hd => ?_, fun g hg => ?_⟩
            · unfold edgesF
              rw [if_neg h0, e1]
              simp only
              rw [e2, List.append_assoc, List.append_assoc]; rfl
            · rw [← List.append_assoc]
              refine ⟨h0, rfl, ⟨i, rfl, ?_⟩, d1⟩
              rw [restsG_app, List.getElem?_append_left (List.getElem?_eq_some_iff.1 r1.at_).1]
              exact r1.at_
            · rw [← List.append_assoc]
              rcases List.mem_append.1 hg with hg | hg
              · rw [restsG_app]; exact (r1.nodes g hg).app
              · exact d2 g hg
            · rw [← List.append_assoc]; exact d3 (r1.nodup hd)
            · rcases List.mem_append.1 hg with hg | hg
              · exact r1.some_ hne g hg
              · exact d4 g hg
      obtain ⟨t, es, k1, k2, k3, k4, k5⟩ := key (bodS s).length (bodS s) [] (st ++ [⟨s, false, []⟩]) (Nat.le_refl _) h.bod (bod_pos h.ord)
      exact ⟨_, _, reach_new hfd k1, rok_new (f := 0) (h.mono hf) hfd k2 k3 k4 (fun _ => k5)⟩
/-- the nodes of the words -/
structure GOk (st : List GN) (ts : List Tx) : Prop where
  root : (restsG st)[0]? = some ts
  nodes : ∀ g ∈ st, NOk (restsG st) g
  nodup : (restsG st).Nodup
  some_ : ts ≠ [] → ∀ g ∈ st, g.rests ≠ []
theorem graph_ok {ts : List Tx} (h : OkL 12 ts) : GOk (reachF 13 [] ts).2 ts := by
  obtain ⟨t, i, e, r⟩ := reach_ok 12 (Nat.le_refl _) [] ts h
  have h0 : (reachF 13 [] ts).1 = 0 := by
    unfold reachF
    have : findG [] ts = none := rfl
    rw [this]; rfl
  rw [e] at h0 ⊢
  simp only [List.nil_append] at *
  subst h0
  exact ⟨by simpa using r.at_, fun g hg => by simpa using r.nodes g hg, by simpa [restsG] using r.nodup (by simp [restsG]), r.some_⟩
end Go.Proofs.Ytolggcdlpiedmaa
/- graph: along a text's runes one comes to an end just if it is there -/
namespace Go.Proofs.Ytolggcdlpiedmaa
open Go.RowKit
set_option linter.unusedVariables false
set_option maxRecDepth 20000
theorem lab_le {s t : Tx} (hs : 0 ≤ lenS s) (ht : 0 ≤ lenS t) (s0 : 0 < s.size) (t0 : 0 < t.size) (h : cmpS s t < 0) : labS s ≤ labS t := by
  rw [cmpS_runes s t hs ht, rst_runes hs s0, rst_runes ht t0] at h
  simp only [lexN] at h
  by_cases h1 : labS s ≤ labS t
  · exact h1
  · split at h <;> first | omega | (split at h <;> omega)
/-- texts in order, none empty, each well made -/
structure Run (l : List Tx) : Prop where
  ord : SortedS l
  pos : ∀ t ∈ l, 0 < t.size
  lo : ∀ t ∈ l, 0 ≤ lenS t
theorem Run.drop {l : List Tx} (h : Run l) (k : Nat) : Run (l.drop k) :=
  ⟨List.Pairwise.sublist (List.drop_sublist _ _) h.ord, fun t ht => h.pos t (List.mem_of_mem_drop ht), fun t ht => h.lo t (List.mem_of_mem_drop ht)⟩
theorem dw_first {α : Type} (p : α → Bool) : ∀ (l : List α) (x : α) (m : List α), l.dropWhile p = x :: m → p x = false
  | [], x, m, h => by simp at h
  | y :: l, x, m, h => by
    rw [List.dropWhile_cons] at h
    split at h
    · exact dw_first p l x m h
    · rename_i hy
      injection h with h1 h2
      subst h1
      simpa using hy
theorem drop_tw {α : Type} (p : α → Bool) : ∀ l : List α, l.drop (l.takeWhile p).length = l.dropWhile p
  | [] => rfl
  | x :: l => by
    by_cases h : p x = true
    · rw [List.takeWhile_cons, if_pos h, List.dropWhile_cons, if_pos h, List.length_cons, List.drop_succ_cons, drop_tw p l]
    · rw [List.takeWhile_cons, if_neg h, List.dropWhile_cons, if_neg h]; rfl
/-- behind the first's own, all begin with another rune -/
theorem Run.rest {s : Tx} {l : List Tx} (h : Run (s :: l)) : ∀ t ∈ (s :: l).drop (folS (s :: l)).2.length, labS s < labS t := by
  have e : (folS (s :: l)).2.length = ((s :: l).takeWhile (fun t => decide (labS t = labS s))).length := by unfold folS; rw [List.length_map]
  rw [e, drop_tw]
  cases hd : (s :: l).dropWhile (fun t => decide (labS t = labS s)) with
  | nil => intro t ht; simp at ht
  | cons x m =>
    have hx : labS x ≠ labS s := of_decide_eq_false (dw_first (fun t => decide (labS t = labS s)) _ _ _ hd)
    have sub : (x :: m).Sublist (s :: l) := hd ▸ List.dropWhile_sublist _
    have hxm : x ∈ s :: l := sub.subset (by simp)
    have hsx : labS s ≤ labS x := by
      rcases List.mem_cons.1 hxm with rfl | hm
      · exact Nat.le_refl _
      · exact lab_le (h.lo s (by simp)) (h.lo x hxm) (h.pos s (by simp)) (h.pos x hxm) ((List.pairwise_cons.1 h.ord).1 x hm)
    have ho := List.Pairwise.sublist sub h.ord
    intro t ht
    have htm := sub.subset ht
    have hxt : labS x ≤ labS t := by
      rcases List.mem_cons.1 ht with rfl | hm
      · exact Nat.le_refl _
      · exact lab_le (h.lo x hxm) (h.lo t htm) (h.pos x hxm) (h.pos t htm) ((List.pairwise_cons.1 ho).1 t hm)
    omega
theorem same_lab {s t : Tx} (hs : 0 ≤ lenS s) (ht : 0 ≤ lenS t) (s0 : 0 < s.size) (t0 : 0 < t.size) (hl : labS s = labS t) (hr : rstS s = rstS t) : s = t := by
  have h := rst_ord hs ht s0 t0 hl
  rw [hr, cmpS_same] at h
  exact cmpS_zero.1 h.symm
theorem mem_fol {s : Tx} {l : List Tx} (h : Run (s :: l)) {w : Tx} (w0 : 0 < w.size) (wl : 0 ≤ lenS w) (hl : labS s = labS w) : w ∈ s :: l ↔ rstS w ∈ (folS (s :: l)).2 := by
  have sub := List.takeWhile_sublist (l := s :: l) (fun t => decide (labS t = labS s))
  have e : (folS (s :: l)).2 = ((s :: l).takeWhile (fun t => decide (labS t = labS s))).map rstS := rfl
  constructor
  · intro hm
    rw [e]
    refine List.mem_map.2 ⟨w, ?_, rfl⟩
    rw [← List.takeWhile_append_dropWhile (p := fun t => decide (labS t = labS s)) (l := s :: l)] at hm
    rcases List.mem_append.1 hm with hm | hm
    · exact hm
    · have e2 : (folS (s :: l)).2.length = ((s :: l).takeWhile (fun t => decide (labS t = labS s))).length := by unfold folS; rw [List.length_map]
      rw [← drop_tw, ← e2] at hm
      have := h.rest w hm
      omega
  · intro hm
    rw [e] at hm
    obtain ⟨u, hu, e3⟩ := List.mem_map.1 hm
    have hum := sub.subset hu
    have hul : labS u = labS s := by have h1 := mem_tw (p := fun t => decide (labS t = labS s)) hu; exact of_decide_eq_true h1
    rw [← same_lab (h.lo u hum) wl (h.pos u hum) w0 (hul.trans hl) e3]
    exact hum
theorem mem_past {s : Tx} {l : List Tx} {w : Tx} (hl : labS s ≠ labS w) : w ∈ s :: l ↔ w ∈ (s :: l).drop (folS (s :: l)).2.length := by
  have e2 : (folS (s :: l)).2.length = ((s :: l).takeWhile (fun t => decide (labS t = labS s))).length := by unfold folS; rw [List.length_map]
  rw [e2, drop_tw]
  conv => lhs; rw [← List.takeWhile_append_dropWhile (p := fun t => decide (labS t = labS s)) (l := s :: l)]
  rw [List.mem_append]
  constructor
  · rintro (h | h)
    · have h1 := mem_tw (p := fun t => decide (labS t = labS s)) h
      exact absurd (of_decide_eq_true h1).symm hl
    · exact h
  · exact Or.inr
theorem findE_ok {R : List (List Tx)} {w : Tx} (w0 : 0 < w.size) (wl : 0 ≤ lenS w) : ∀ (es : List EdP) (l : List Tx), EdOk R l es → Run l →
    (∃ (k : Nat) (m : List Tx), findE (labS w : Int) es = ((k : Int), true) ∧ R[k]? = some m ∧ (w ∈ l ↔ rstS w ∈ m)) ∨ (findE (labS w : Int) es = (0, false) ∧ w ∉ l)
  | [], l, h, _ => Or.inr ⟨rfl, by rw [show l = [] from h]; simp⟩
  | e :: es, [], h, _ => absurd rfl h.1
  | e :: es, s :: l, h, hr => by
    obtain ⟨h1, h2, ⟨k, h3, h4⟩, h5⟩ := h
    have h2 : e.r = (labS s : Int) := h2
    by_cases hl : labS s = labS w
    · refine Or.inl ⟨k, (folS (s :: l)).2, ?_, h4, mem_fol hr w0 wl hl⟩
      rw [findE, if_pos (by rw [h2, hl]), h3]
    · have hne : ¬ e.r = (labS w : Int) := fun e2 => hl (by rw [h2] at e2; exact Int.ofNat.inj e2)
      rw [findE, if_neg hne, mem_past hl]
      exact findE_ok w0 wl es _ h5 (hr.drop _)
theorem ed_good {R : List (List Tx)} : ∀ (es : List EdP) (l : List Tx), EdOk R l es → Run l → ∀ e ∈ es, e.r ≠ 65533
  | [], l, _, _ => fun e he => by simp at he
  | e :: es, [], h, _ => absurd rfl h.1
  | e :: es, s :: l, h, hr => by
    obtain ⟨h1, h2, -, h5⟩ := h
    have h2 : e.r = (labS s : Int) := h2
    intro x hx
    rcases List.mem_cons.1 hx with rfl | hx
    · have := (good_first (hr.lo s (by simp)) (hr.pos s (by simp))).1
      rw [h2]
      intro e2
      exact this (Int.ofNat.inj e2)
    · exact ed_good es _ h5 (hr.drop _) x hx
theorem OkL.run {f : Nat} {l : List Tx} (h : OkL f l) : Run (bodS l) := ⟨h.bod.ord, bod_pos h.ord, h.bod.lo⟩
theorem GOk.node {st : List GN} {ts : List Tx} (G : GOk st ts) {k : Nat} {l : List Tx} (h : (restsG st)[k]? = some l) : k < st.length ∧ (st.getD k gn0).rests = l ∧ NOk (restsG st) (st.getD k gn0) := by
  obtain ⟨h1, h2⟩ := List.getElem?_eq_some_iff.1 h
  have hk : k < st.length := by simpa [restsG] using h1
  have e : st.getD k gn0 = st[k] := by rw [List.getD_eq_getElem?_getD, List.getElem?_eq_getElem hk]; rfl
  refine ⟨hk, ?_, ?_⟩
  · rw [e, ← h2]; simp [restsG]
  · rw [e]; exact G.nodes _ (List.getElem_mem hk)
theorem fin_mem {l : List Tx} (h : SortedS l) : finS l = decide ((⟨#[]⟩ : ByteArray) ∈ l) := by
  cases l with
  | nil => rfl
  | cons s l =>
    unfold finS
    refine decide_eq_decide.2 ?_
    rw [List.head?_cons, List.mem_cons]
    constructor
    · intro e; injection e with e; exact Or.inl e.symm
    · rintro (e | e)
      · rw [e]
      · exact absurd ((List.pairwise_cons.1 h).1 _ e) (cmp_empty s)
theorem mem_bod {l : List Tx} {w : Tx} (h : 0 < w.size) : w ∈ l ↔ w ∈ bodS l := by
  unfold bodS
  split
  · rename_i hf
    cases l with
    | nil => simp
    | cons s l =>
      have : s = ⟨#[]⟩ := by
        have h2 : (s :: l).head? = some (⟨#[]⟩ : ByteArray) := of_decide_eq_true hf
        rw [List.head?_cons] at h2; injection h2
      rw [List.mem_cons, List.tail_cons]
      refine ⟨fun e => e.resolve_left fun e2 => ?_, Or.inr⟩
      rw [e2, this] at h
      exact absurd h (by simp [ByteArray.size])
  · exact Iff.rfl
theorem has_at {st : List GN} {k : Nat} (h : k < st.length) : hasG st (k : Int) = true ∧ edgesG st (k : Int) = (st.getD k gn0).edges ∧ finG st (k : Int) = (st.getD k gn0).final := by
  have h1 : hasG st (k : Int) = true := by unfold hasG; exact decide_eq_true (by omega)
  refine ⟨h1, ?_, ?_⟩
  · unfold edgesG; rw [if_pos h1]; rfl
  · unfold finG; rw [h1]; simp
theorem walk_in {st : List GN} {ts : List Tx} (G : GOk st ts) : ∀ (n : Nat) (w : Tx), w.size ≤ n → 0 ≤ lenS w → ∀ (k : Nat) (l : List Tx), (restsG st)[k]? = some l → endG st (walkG st (runesS w) (k : Int)) = decide (w ∈ l) := by
  intro n
  induction n with
  | zero =>
    intro w hw _ k l hk
    obtain rfl := empty_size (Nat.le_zero.1 hw)
    obtain ⟨h1, h2, h3⟩ := G.node hk
    have := (has_at h1).2.2
    show finG st (k : Int) = _
    rw [this, h3.fin, h2]
    exact fin_mem (h2 ▸ h3.ok.ord)
  | succ n ih =>
    intro w hw hl k l hk
    obtain ⟨h1, h2, h3⟩ := G.node hk
    obtain ⟨a1, a2, a3⟩ := has_at h1
    rcases Nat.eq_zero_or_pos w.size with h0 | h0
    · obtain rfl := empty_size h0
      show finG st (k : Int) = _
      rw [a3, h3.fin, h2]
      exact fin_mem (h2 ▸ h3.ok.ord)
    · have hb : w ∈ l ↔ w ∈ bodS l := mem_bod h0
      have he := h3.ed
      have hr := h3.ok.run
      rw [h2] at he hr
      rw [rst_runes hl h0]
      unfold walkG nextG
      rw [a2]
      rcases findE_ok h0 hl _ _ he hr with ⟨k', m, e1, e2, e3⟩ | ⟨e1, e2⟩
      · rw [e1, if_pos rfl]
        rw [ih (rstS w) (by have := (rst_size hl h0).2; omega) (rst_len hl h0).1 k' m e2]
        exact decide_eq_decide.2 (e3.symm.trans hb.symm)
      · rw [e1, if_neg (by simp)]
        show false = _
        exact (decide_eq_false (fun e => e2 (hb.1 e))).symm
theorem edges_good {st : List GN} {ts : List Tx} (G : GOk st ts) (n : Int) : ∀ e ∈ edgesG st n, e.r ≠ 65533 := by
  cases hb : hasG st n with
  | false => unfold edgesG; rw [if_neg (by rw [hb]; simp)]; intro e he; simp at he
  | true =>
    obtain ⟨k, rfl, hk⟩ := hasG_yes hb
    rw [(has_at hk).2.1]
    have hR : (restsG st)[k]? = some st[k].rests := by simp [restsG, hk]
    obtain ⟨h1, h2, h3⟩ := G.node hR
    exact ed_good _ _ h3.ed h3.ok.run
theorem walk_bad {st : List GN} {ts : List Tx} (G : GOk st ts) : ∀ (rs : List Nat) (n : Int), 65533 ∈ rs → endG st (walkG st rs n) = false
  | [], n, h => by simp at h
  | r :: l, n, h => by
    unfold walkG
    by_cases h1 : r = 65533
    · subst h1
      unfold nextG
      rw [findE_none ((65533 : Nat) : Int) _ (fun x hx => edges_good G n x hx), if_neg (by simp)]; rfl
    · have h2 : 65533 ∈ l := (List.mem_cons.1 h).resolve_left (Ne.symm h1)
      split
      · exact walk_bad G l _ h2
      · rfl
/-- a text is there just if its runes lead to an end -/
theorem has_in {st : List GN} {ts : List Tx} (G : GOk st ts) (hts : ∀ t ∈ ts, 0 ≤ lenS t) (w : Tx) : hasW st (runesS w) = decide (w ∈ ts) := by
  unfold hasW
  by_cases hl : 0 ≤ lenS w
  · exact walk_in G w.size w (Nat.le_refl _) hl 0 ts G.root
  · rw [show (0 : Int) = ((0 : Nat) : Int) from rfl]
    have hm : 65533 ∈ runesS w := by
      refine Classical.byContradiction fun hn => hl ?_
      unfold lenS
      rw [if_neg hn]; omega
    rw [walk_bad G _ _ hm]
    exact (decide_eq_false (fun e => hl (hts w e))).symm
end Go.Proofs.Ytolggcdlpiedmaa
/- contract of text.Runes -/
namespace Go.Proofs.Ytolggcdlpiedmaa
open Go.RowKit
set_option linter.unusedVariables false
set_option maxRecDepth 20000
set_option maxHeartbeats 800000 in
theorem runes_good (s : ByteArray) (w : World) (hs : s.size ≤ 1048576) (hg : 0 ≤ lenS s) :
    Calls Try.prog 54 #[.string s] w fun e w' => ∃ a c, e = .returned (.tuple #[.slice a (runesS s).length c, .bool true]) ∧ RetR 21 w (intsN (runesS s)) a c w' := by
  obtain ⟨i0, hi, hz0, hz1, hz2⟩ := info_parts i32_info
  obtain ⟨hgood, hlen⟩ := lenS_pos hg
  have hle := runesS_le s
  obtain ⟨n, hn⟩ : ∃ n, (runesS s).length = n := ⟨_, rfl⟩
  rw [hn] at hlen hle ⊢
  have HN := Lib.hid hn; have HLEN := Lib.hid hlen; have HGD := Lib.hid hgood
  clear hn hlen hgood hg
  go_enter Try.func54, Try.ntmps54
  go_wp2_with fail
  refine (len_any s _ (by omega)).mono ?_
  rintro e w1 ⟨rfl, hb1⟩
  rw [HLEN.out]
  have B1 := Lib.hid hb1
  clear hb1
  go_wp2_with (at_make; refine wpList_make_own _ rfl _ _ 83 rfl w.heap.size 21 i0 (.int .i32 0) 1 Try.underlying83 hi hz0 hz1 _ _ _ n rfl rfl (by omega) (by rw [hz2]; omega) (by unfold maxLen; omega) B1.out.size ?_; intro w2 hown2 hgrow2)
  have B2 := Lib.hid (B1.out.trans ((below_grown hgrow2 (by intro k hk; cases hk)).mono B1.out.size))
  have s1 := B1.out.size
  have hlt2 := (hown2.lt w1.heap.size rfl).2
  have O2 := Lib.hid hown2
  clear hown2 hgrow2
  go_loopw [5] (fun v wr => ∃ (pos f : Nat) (P : List Nat), s.size ≤ pos + f ∧ v = .slice (some ⟨w1.heap.size, 0, none⟩) P.length n ∧ Hid (runesS s = P ++ runesN s f pos) ∧
      Hid (wr.ownsRow w.heap.size 21 1 (.slice (some ⟨w1.heap.size, 0, none⟩) P.length n) P.length (runesV (intsN P))) ∧ Hid (wr.heap[w2.heap.size]? = some (.stringIter s pos)) ∧ Hid (Below w.heap.size w wr)) (fun _ wr => s.size - wr.iterPos w2.heap.size)
  case atStart => exact ⟨0, s.size, [], by omega, rfl, Lib.hid rfl, Lib.hid (owns_below O2.out (below_one _ _)), Lib.hid (World.iter_heap w2 s 0), Lib.hid (B2.out.trans ((below_one w2 _).mono B2.out.size))⟩
  case round =>
    obtain ⟨pos, f, P, hf, rfl, hP, hO, hIt, hB⟩ := hrel
    by_cases hlt : pos < s.size
    · have hnx := fun ty => Lib.run_next_any_at (P := Try.prog) wr w2.heap.size s pos ty hIt.out hlt
      obtain ⟨g, rfl, hst, hg⟩ := runesN_step s f pos hlt hf
      have hwd := decode_width s pos hlt
      have hPn : P.length + 1 ≤ n := by
        have h1 := congrArg List.length hP.out
        rw [hst, List.length_append, List.length_cons, HN.out] at h1
        omega
      have HST := Lib.hid hst
      obtain ⟨r, hr⟩ : ∃ r, (Utf8.decode s pos).1 = r := ⟨_, rfl⟩
      obtain ⟨wd, hwd2⟩ : ∃ wd, (Utf8.decode s pos).2 = wd := ⟨_, rfl⟩
      rw [hr, hwd2] at hnx HST; rw [hwd2] at hg hwd
      clear hst hr hwd2
      have hOi := owns_iterAt hO.out hIt.out (pos + wd)
      have OI := Lib.hid hOi
      clear hOi
      go_wp2_with (at_builtin; refine wpList_append_fits _ rfl (.tmp 19) (.tmp 21) 83 rfl w.heap.size 21 i0 1 Try.underlying83 hi hz1 w1.heap.size P.length n _ rfl (OI.out.alloc _) _ 1 1 _ rfl rfl (one_cells _ _ _ _) (one_int _ _) (by omega) ?_; intro w4 hown4 hgrow4)
      have hIt4 : w4.heap[w2.heap.size]? = some (.stringIter s (pos + wd)) := by
        have hl := (Array.getElem?_eq_some_iff.1 hIt.out).1
        rw [hgrow4.block w2.heap.size (by simp [World.iterAt]; omega) (by intro e; injection e with e; omega)]
        rw [Below.heap_alloc _ _ _ (by simpa [World.iterAt] using hl)]
        exact Lib.iterAt_heap wr _ s pos (pos + wd) hIt.out
      have hb4 : Below w.heap.size w w4 := by
        have h1 := Lib.below_iterAt hB.out (show w.heap.size ≤ w2.heap.size from B2.out.size) s (pos + wd)
        exact (h1.alloc h1.size _).grown hgrow4 (by have := h1.size; simp; omega) (by intro k hk; injection hk with hk; omega)
      go_roundw
      case rel => exact ⟨pos + wd, g, P ++ [r], hg, by rw [List.length_append]; rfl, Lib.hid (by rw [hP.out, HST.out]; simp), Lib.hid (by rw [List.length_append, runesV_snoc]; exact hown4), Lib.hid hIt4, Lib.hid hb4⟩
      case measure =>
        have h1 : w4.iterPos w2.heap.size = pos + wd := by simp [World.iterPos, hIt4]
        have h2 : wr.iterPos w2.heap.size = pos := by simp [World.iterPos, hIt.out]
        rw [h1, h2]; omega
    · have hnx := fun ty => Lib.run_next_end_at (P := Try.prog) wr w2.heap.size s pos ty hIt.out hlt
      have he : runesS s = P := by rw [hP.out, runesN_end s f pos hlt, List.append_nil]
      have hpl : P.length = n := by rw [← he]; exact HN.out
      have HE := Lib.hid he; have HPL := Lib.hid hpl
      clear he hpl
      go_wp2
      go_ret2
      have hl2 : (intsN (runesS s)).length = P.length := by rw [HE.out]; simp [intsN]
      refine ⟨some ⟨w1.heap.size, 0, none⟩, n, by rw [HPL.out]; rfl, ?_, hB.out, fun h => by cases h⟩
      rw [hl2, HE.out]; exact hO.out
theorem runes_bad (s : ByteArray) (w : World) (hs : s.size ≤ 1048576) (hg : lenS s < 0) :
    Calls Try.prog 54 #[.string s] w fun e w' => e = .returned (.tuple #[.slice none 0 0, .bool false]) ∧ Below w.heap.size w w' := by
  go_enter Try.func54, Try.ntmps54
  go_wp2_with fail
  refine (len_any s _ (by omega)).mono ?_
  rintro e w1 ⟨rfl, hb1⟩
  go_wp2_with fail
  go_ret2
  exact ⟨rfl, hb1⟩
end Go.Proofs.Ytolggcdlpiedmaa
/- small facts on lists of texts -/
namespace Go.Proofs.Ytolggcdlpiedmaa
open Go.RowKit
set_option linter.unusedVariables false
set_option maxRecDepth 20000
theorem drop_cons (ts : List Tx) (j : Nat) (h : j < ts.length) : ts.drop j = ts.getD j ByteArray.empty :: ts.drop (j + 1) := by
  rw [List.drop_eq_getElem_cons h]
  simp [List.getD_eq_getElem?_getD, h]
theorem compare_lit (x y : Tx) (v : Int) (hv : cmpS x y = v) (w : World) : Calls Try.prog 47 #[.string x, .string y] w fun e w' => e = .returned (.int .i64 v) ∧ w = w' := by subst hv; exact compare_any x y w
end Go.Proofs.Ytolggcdlpiedmaa
/- contract of list.At -/
namespace Go.Proofs.Ytolggcdlpiedmaa
open Go.RowKit
set_option linter.unusedVariables false
set_option maxRecDepth 20000
theorem getD_cons_zero (x : Tx) (xs : List Tx) : (x :: xs).getD 0 ByteArray.empty = x := rfl
theorem getD_cons_succ (x : Tx) (xs : List Tx) (i : Nat) : (x :: xs).getD (i + 1) ByteArray.empty = xs.getD i ByteArray.empty := rfl
theorem getD_at {xs : List Tx} {i : Nat} (h : i < xs.length) : xs.getD i ByteArray.empty = xs[i] := by simp [List.getD_eq_getElem?_getD, h]
theorem sorted_at {xs : List Tx} (h : SortedS xs) {i j : Nat} (hij : i < j) (hj : j < xs.length) : cmpS (xs.getD i ByteArray.empty) (xs.getD j ByteArray.empty) < 0 := by
  have := List.pairwise_iff_getElem.1 h i j (by omega) hj hij
  rw [getD_at (show i < xs.length by omega), getD_at hj]; exact this
theorem atN_of : ∀ (xs : List Tx) (t : Tx) (i : Nat), i ≤ xs.length → (∀ k, k < i → cmpS (xs.getD k ByteArray.empty) t < 0) → (∀ k, i ≤ k → k < xs.length → ¬ cmpS (xs.getD k ByteArray.empty) t < 0) → atN xs t = i
  | [], t, i, hi, _, _ => by have : i = 0 := by simpa using hi
                             subst this; rfl
  | x :: xs, t, 0, _, _, h2 => by
    unfold atN
    rw [List.countP_eq_zero]
    intro y hy
    obtain ⟨k, hk, rfl⟩ := List.getElem_of_mem hy
    have := h2 k (Nat.zero_le _) hk
    rw [getD_at hk] at this
    simpa using this
  | x :: xs, t, i + 1, hi, h1, h2 => by
    have hx := h1 0 (by omega)
    rw [getD_cons_zero] at hx
    have ih := atN_of xs t i (by simpa using hi) (fun k hk => h1 (k + 1) (by omega)) (fun k hk hk2 => h2 (k + 1) (by omega) (by simpa using hk2))
    unfold atN at ih ⊢
    rw [List.countP_cons_of_pos (by simpa using hx), ih]
theorem mem_at_iff {xs : List Tx} {t : Tx} (hs : SortedS xs) {i : Nat} (h1 : ∀ k, k < i → cmpS (xs.getD k ByteArray.empty) t < 0) (h2 : ∀ k, i ≤ k → k < xs.length → ¬ cmpS (xs.getD k ByteArray.empty) t < 0) : t ∈ xs ↔ i < xs.length ∧ cmpS (xs.getD i ByteArray.empty) t = 0 := by
  constructor
  · intro h
    obtain ⟨k, hk, e⟩ := List.getElem_of_mem h
    have e2 : xs.getD k ByteArray.empty = t := by rw [getD_at hk, e]
    have hik : i ≤ k := by
      apply Classical.byContradiction
      intro hn
      have := h1 k (by omega)
      rw [e2] at this
      exact cmpS_irrefl t this
    by_cases hlt : i < k
    · have := sorted_at hs hlt hk
      rw [e2] at this
      exact absurd this (h2 i (Nat.le_refl _) (by omega))
    · obtain rfl : i = k := by omega
      exact ⟨hk, by rw [e2, cmpS_same]⟩
  · rintro ⟨h, e⟩
    rw [← cmpS_zero.1 e, getD_at h]
    exact List.getElem_mem _
set_option maxHeartbeats 1600000 in
theorem search_any (a : Option Addr) (n cap : Nat) (ts : List Tx) (t : Tx) (w : World) (hh : HoldsT w a n ts) (hn : n ≤ 1048576) (hs : SortedS ts) :
    Calls Try.prog 73 #[.slice a n cap, .string t, .func (.func 47) #[] #[]] w fun e w' => e = .returned (.tuple #[.int .i64 (atN ts t), .bool (decide (t ∈ ts))]) ∧ w = w' := by
  have hl := hh.len
  have HS := Lib.hid hs
  clear hs
  go_enter Try.func73, Try.ntmps73
  go_wp2_with fail
  go_loop [9, 10] (fun u v => ∃ lo hi : Nat, u = .int .i64 lo ∧ v = .int .i64 hi ∧ lo ≤ hi ∧ hi ≤ n ∧ Hid (∀ k, k < lo → cmpS (ts.getD k ByteArray.empty) t < 0) ∧ Hid (∀ k, hi ≤ k → k < n → 0 ≤ cmpS (ts.getD k ByteArray.empty) t)) (fun u v => (intOf v).toNat - (intOf u).toNat)
  case atStart => exact ⟨0, n, rfl, rfl, by omega, by omega, Lib.hid (fun k h => by omega), Lib.hid (fun k h1 h2 => by omega)⟩
  case round =>
    obtain ⟨lo, hi, rfl, rfl, h1, h2, L1, L2⟩ := hrel
    by_cases hlt : lo < hi
    · obtain ⟨b, o, rfl, hc⟩ := hh.at (by omega)
      have e1 := hc ((lo + hi) / 2) (by omega)
      obtain ⟨x, hx⟩ : ∃ x, ts.getD ((lo + hi) / 2) ByteArray.empty = x := ⟨_, rfl⟩
      rw [hx] at e1
      have HX := Lib.hid hx
      clear hx hc
      obtain ⟨v, hv⟩ : ∃ v, cmpS x t = v := ⟨_, rfl⟩
      have hcmp := Lib.hid (compare_lit x t v hv w)
      have HV := Lib.hid hv
      clear hv
      by_cases hvn : v < 0
      · go_wp2_with fail
        refine hcmp.out.mono ?_
        rintro e w2 ⟨rfl, rfl⟩
        go_wp2_with fail
        go_round
        case rel =>
          refine ⟨(lo + hi) / 2 + 1, hi, by go_num, rfl, by omega, h2, Lib.hid (fun k hk => ?_), L2⟩
          by_cases hk2 : k = (lo + hi) / 2
          · subst hk2; rw [HX.out, HV.out]; exact hvn
          · have h3 := sorted_at HS.out (i := k) (j := (lo + hi) / 2) (by omega) (by omega)
            rw [HX.out] at h3
            exact cmpS_trans h3 (by rw [HV.out]; exact hvn)
        case measure => simp [intOf]; omega
      · go_wp2_with fail
        refine hcmp.out.mono ?_
        rintro e w2 ⟨rfl, rfl⟩
        go_wp2_with fail
        go_round
        case rel =>
          refine ⟨lo, (lo + hi) / 2, rfl, by go_num, by omega, by omega, L1, Lib.hid (fun k hk hk2 => Int.not_lt.1 fun h4 => ?_)⟩
          by_cases hk3 : k = (lo + hi) / 2
          · subst hk3; rw [HX.out, HV.out] at h4; omega
          · have h3 := sorted_at HS.out (i := (lo + hi) / 2) (j := k) (by omega) (by omega)
            rw [HX.out] at h3
            have h5 := cmpS_trans h3 h4
            rw [HV.out] at h5
            omega
        case measure => simp [intOf]; omega
    · obtain rfl : hi = lo := by omega
      have L3 : Hid (∀ k, hi ≤ k → k < ts.length → ¬ cmpS (ts.getD k ByteArray.empty) t < 0) := Lib.hid (fun k h3 h4 => Int.not_lt.2 (L2.out k h3 (by omega)))
      have hA := Lib.hid (atN_of ts t hi (by omega) L1.out L3.out)
      have hM := Lib.hid (mem_at_iff (t := t) HS.out L1.out L3.out)
      by_cases hlt2 : hi < n
      · obtain ⟨b, o, rfl, hc⟩ := hh.at (by omega)
        have e1 := hc hi (by omega)
        obtain ⟨x, hx⟩ : ∃ x, ts.getD hi ByteArray.empty = x := ⟨_, rfl⟩
        rw [hx] at e1
        have HX := Lib.hid hx
        clear hx hc
        obtain ⟨v, hv⟩ : ∃ v, cmpS x t = v := ⟨_, rfl⟩
        have hcmp := Lib.hid (compare_lit x t v hv w)
        have HV := Lib.hid hv
        clear hv
        have hb : Hid (decide (t ∈ ts) = (v == 0)) := Lib.hid (by
          have := hM.out
          rw [HX.out, HV.out, hl] at this
          rw [show (decide (t ∈ ts)) = decide (v = 0) by simp [this, hlt2]]
          rfl)
        go_wp2_with fail
        refine hcmp.out.mono ?_
        rintro e w2 ⟨rfl, rfl⟩
        go_wp2_with fail
        go_ret2
        exact ⟨by rw [hA.out, hb.out]; rfl, rfl⟩
      · have hb : Hid (decide (t ∈ ts) = false) := Lib.hid (by
          rw [decide_eq_false_iff_not]
          intro h
          have := (hM.out.1 h).1
          omega)
        go_wp2_with fail
        go_ret2
        exact ⟨by rw [hA.out, hb.out]; rfl, rfl⟩
theorem at_any (a : Option Addr) (n cap : Nat) (ts : List Tx) (t : Tx) (w : World) (hh : HoldsT w a n ts) (hn : n ≤ 1048576) (hs : SortedS ts) :
    Calls Try.prog 48 #[.slice a n cap, .string t] w fun e w' => e = .returned (.tuple #[.int .i64 (atN ts t), .bool (decide (t ∈ ts))]) ∧ w = w' := by
  have h1 := Lib.hid (search_any a n cap ts t w hh hn hs)
  obtain ⟨k, hk⟩ : ∃ k, atN ts t = k := ⟨_, rfl⟩
  obtain ⟨c, hc⟩ : ∃ c, decide (t ∈ ts) = c := ⟨_, rfl⟩
  rw [hk, hc] at h1 ⊢
  clear hk hc hh hs
  go_enter Try.func48, Try.ntmps48
  go_wp2_with fail
  refine h1.out.mono ?_
  rintro e w2 ⟨rfl, rfl⟩
  go_wp2_with fail
  go_ret2
  exact ⟨rfl, rfl⟩
theorem at_lit (a : Option Addr) (n cap : Nat) (ts : List Tx) (t : Tx) (b : Bool) (k : Nat) (w : World) (hh : HoldsT w a n ts) (hn : n ≤ 1048576) (hs : SortedS ts) (hb : decide (t ∈ ts) = b) (hk : atN ts t = k) :
    Calls Try.prog 48 #[.slice a n cap, .string t] w fun e w' => e = .returned (.tuple #[.int .i64 k, .bool b]) ∧ w = w' := by
  subst hb hk; exact at_any a n cap ts t w hh hn hs
end Go.Proofs.Ytolggcdlpiedmaa
/- a list of texts as argument, opened -/
namespace Go.Proofs.Ytolggcdlpiedmaa
open Go.ChangeShapes Go.WideShapes Go.ChangeAt Go.RowKit
set_option linter.unusedVariables false
set_option maxRecDepth 20000
theorem Try.cellsStr : Try.prog.cellsOf 9 = 1 := by kernel_rfl
theorem open_texts_arg {H : Type} {enc : TypeId × Value → H} {W : World} {base : Nat} {v : Value} {d : DataW H} {p : List MemPlace}
    (o : Value.okWide Try.prog W .any base 22 v) (h : DataW.Trod enc Try.prog W 0 (fun _ => true) true 22 v d p) :
    ∃ a n cap ts, v = .slice a n cap ∧ HoldsT W a n ts ∧ (a = none → n = 0 ∧ cap = 0) ∧ n ≤ cap ∧ n ≤ 9223372036854775807 ∧ ∀ t ∈ ts, t.size ≤ 9223372036854775807 := by
  obtain ⟨a, len, cap, rfl⟩ := okWide_slice Try.underlying22 o
  obtain ⟨fuel, hf⟩ := h
  rcases open_strings Try.underlying22 Try.underlying9 Try.cellsStr hf with ⟨hcs, _⟩ | ⟨x, l, c, ss, hcs, _, hl, hm, hz, _, hcell, hsz⟩
  · simp [Value.cells] at hcs
    obtain ⟨rfl, rfl, rfl⟩ := hcs
    exact ⟨none, 0, 0, [], rfl, HoldsT.nil _ _, fun _ => ⟨rfl, rfl⟩, Nat.le_refl _, by omega, by simp⟩
  · simp [Value.cells] at hcs
    obtain ⟨rfl, rfl, rfl⟩ := hcs
    have hzc : ss.length = cap := by simpa using hz
    refine ⟨some x, len, cap, ss.take len, rfl, ?_, (fun h => by cases h), hl, by unfold maxLen at hm; omega, fun t ht => by have := hsz t (List.mem_of_mem_take ht); unfold maxLen at this; omega⟩
    refine ⟨by simp [strsV]; omega, fun h0 => ?_⟩
    obtain ⟨b, off, spot⟩ := x
    have hspot : spot = none := by simpa [Addr.add] using World.cell?_spot (hcell 0 (by omega))
    subst hspot
    refine ⟨b, off, rfl, fun i hi => ?_⟩
    rw [← Go.WideShapes.add_plain, hcell i (by omega), getD_map_str _ i (by simp; omega)]
    congr 2
    simp only [List.getD_eq_getElem?_getD, List.getElem?_take]
    rw [if_pos hi]
end Go.Proofs.Ytolggcdlpiedmaa
/- graph: Build in one word; Next in one word -/
namespace Go.Proofs.Ytolggcdlpiedmaa
open Go.RowKit
set_option linter.unusedVariables false
set_option maxRecDepth 20000
theorem ed_few {R : List (List Tx)} : ∀ (es : List EdP) (l : List Tx), EdOk R l es → es.length ≤ l.length
  | [], l, _ => Nat.zero_le _
  | e :: es, l, h => by
    have h1 := ed_few es _ h.2.2.2
    have h2 := (fol_len l h.1)
    rw [List.length_drop] at h1
    simp only [List.length_cons]; omega
theorem GOk.few {st : List GN} {ts : List Tx} (G : GOk st ts) : ∀ x ∈ st, x.edges.length ≤ 100 := fun x hx => by
  have h := G.nodes x hx
  have h1 := ed_few _ _ h.ed
  have h2 := bod_len x.rests
  have h3 := h.ok.n
  omega
theorem grS_ok {ts : List Tx} (h : goodV ts = 0) (hs : ∀ t ∈ ts, t.size ≤ 100) : GOk (grS ts) ts := graph_ok (ok_good h hs)
theorem grS_len {ts : List Tx} (h : goodV ts = 0) (hs : ∀ t ∈ ts, t.size ≤ 100) : (grS ts).length ≤ 2000 := by
  have h1 : (grS ts).length ≤ 0 + wtS ts + 1 := (reach_len 12 [] ts (ok_good h hs)).2.1
  have h2 := wt_good ts (ok_good h hs).hi
  have h3 := (ok_good h hs).n
  omega
theorem gFinal_c (n : Int) (v : Bool) {w0 : World} {g : Nat} {st : List GN} {S : Nat → Prop} (w : World) (c : CtxG w0 w g st S) (hv : finG st n = v) :
    Calls Try.prog 57 #[.pointer (some ⟨g, 0, none⟩), .int .i64 n] w fun e w' => e = .returned (.bool v) ∧ w = w' := by subst hv; exact gFinal_any g st S n w c.G
end Go.Proofs.Ytolggcdlpiedmaa
/- graph: From's closure -/
namespace Go.Proofs.Ytolggcdlpiedmaa
open Go.RowKit
set_option linter.unusedVariables false
set_option maxRecDepth 20000
/-- a word is handed over: what is held then, and whether more may come -/
def takeO (lo : Tx) (out : List Tx) (x : Tx) : List Tx := if cmpS x lo < 0 then out else out ++ [x]
def takeL (lo : Tx) (most : Int) : List Tx → List Tx → List Tx × Bool
  | out, [] => (out, true)
  | out, x :: l => if ((takeO lo out x).length : Int) < most then takeL lo most (takeO lo out x) l else (takeO lo out x, false)
theorem takeO_len (lo : Tx) (out : List Tx) (x : Tx) : (takeO lo out x).length ≤ out.length + 1 := by
  unfold takeO; split <;> simp
theorem takeL_len (lo : Tx) (most : Int) : ∀ (l out : List Tx), (takeL lo most out l).1.length ≤ out.length + l.length
  | [], out => by simp [takeL]
  | x :: l, out => by
    have h1 := takeO_len lo out x
    have h2 := takeL_len lo most l (takeO lo out x)
    unfold takeL
    split
    · simp only [List.length_cons]; omega
    · simp only [List.length_cons]; omega
theorem takeL_app (lo : Tx) (most : Int) : ∀ (a b out : List Tx), takeL lo most out (a ++ b) = if (takeL lo most out a).2 then takeL lo most (takeL lo most out a).1 b else ((takeL lo most out a).1, false)
  | [], b, out => by simp [takeL]
  | x :: a, b, out => by
    have ih := takeL_app lo most a b (takeO lo out x)
    simp only [List.cons_append, takeL]
    split
    · exact ih
    · simp
/-- what the closure holds: the text, the list, how many -/
structure QT (B : Nat) (lo : Tx) (most : Int) (p1 p2 p3 : Nat) (out : List Tx) (oa : Option Addr) (oc : Nat) (w : World) (S : Nat → Prop) : Prop where
  c1 : w.cell? ⟨p1, 0, none⟩ = some (.string lo)
  c2 : w.cell? ⟨p2, 0, none⟩ = some (.slice oa out.length oc)
  c3 : w.cell? ⟨p3, 0, none⟩ = some (.int .i64 most)
  f : ∀ i, w.frozen? ⟨p2, i, none⟩ = false
  o : w.ownsRow B 9 1 (.slice oa out.length oc) out.length (strsV out)
  s1 : S p1
  s2 : S p2
  s3 : S p3
  n1 : p1 ≠ p2
  n2 : p3 ≠ p2
  no : ∀ q, oa = some ⟨q, 0, none⟩ → S q ∧ q ≠ p1 ∧ q ≠ p2 ∧ q ≠ p3
  lt : ∀ k, S k → k < w.heap.size
  b : B ≤ w.heap.size
def QTs (B : Nat) (lo : Tx) (most : Int) (p1 p2 p3 : Nat) (out : List Tx) (w : World) (S : Nat → Prop) : Prop := ∃ oa oc, QT B lo most p1 p2 p3 out oa oc w S
theorem QT.blocks {B : Nat} {lo : Tx} {most : Int} {p1 p2 p3 : Nat} {out : List Tx} {oa : Option Addr} {oc : Nat} {w w' : World} {S : Nat → Prop} (h : QT B lo most p1 p2 p3 out oa oc w S) (hs : w.heap.size ≤ w'.heap.size) (hb : ∀ k, S k → w'.heap[k]? = w.heap[k]?) : QT B lo most p1 p2 p3 out oa oc w' S :=
  ⟨(World.cell?_of_block (w := w) (hb p1 h.s1)).trans h.c1, (World.cell?_of_block (w := w) (hb p2 h.s2)).trans h.c2, (World.cell?_of_block (w := w) (hb p3 h.s3)).trans h.c3, fun i => (World.frozen?_of_block (w := w) (hb p2 h.s2)).trans (h.f i), gowns_block h.o (fun q hq => hb q (h.no q hq).1), h.s1, h.s2, h.s3, h.n1, h.n2, h.no, fun k hk => Nat.lt_of_lt_of_le (h.lt k hk) hs, Nat.le_trans h.b hs⟩
theorem qts_ok (B : Nat) (lo : Tx) (most : Int) (p1 p2 p3 : Nat) (out : List Tx) : ObjOk (QTs B lo most p1 p2 p3 out) :=
  ⟨fun h t hF => by obtain ⟨oa, oc, x⟩ := h; exact ⟨oa, oc, x.blocks t.size (fun k hk => t.block k (x.lt k hk) (hF k hk))⟩, fun h => by obtain ⟨oa, oc, x⟩ := h; exact x.lt⟩
theorem strsV_snocG (l : List Tx) (x : Tx) : strsV (l ++ [x]) = strsV l ++ [.string x] := by simp [strsV]
/-- behind a word more -/
theorem QT.grow {B : Nat} {lo x : Tx} {most : Int} {p1 p2 p3 : Nat} {out : List Tx} {oa : Option Addr} {oc : Nat} {w w6 : World} {S : Nat → Prop} {q cap : Nat} {o : Obj} (h : QT B lo most p1 p2 p3 out oa oc w S)
    (own : w6.ownsRow B 9 1 (.slice (some ⟨q, 0, none⟩) (out.length + 1) cap) (out.length + 1) (strsV out ++ [.string x]))
    (hg : (w.alloc o).grownBy w6 (Value.slice oa out.length oc).ownBlock) (hat : (Value.slice oa out.length oc).ownBlock = some q ∨ q = (w.alloc o).heap.size) (hlt : q < w6.heap.size) :
    PO (QTs B lo most p1 p2 p3 (out ++ [x])) w S (w6.setCell ⟨p2, 0, none⟩ (.slice (some ⟨q, 0, none⟩) (out.length + 1) cap)) := by
  have hza : (w.alloc o).heap.size = w.heap.size + 1 := by simp
  have hz6 := hg.size
  have old : ∀ k, k < w.heap.size → (∀ r, oa = some ⟨r, 0, none⟩ → k ≠ r) → w6.heap[k]? = w.heap[k]? := fun k hk hn =>
    (hg.block k (by omega) (fun e => hn k (gown_at h.o e) rfl)).trans (Below.heap_alloc _ _ _ (by omega))
  have ob1 := old p1 (h.lt _ h.s1) (fun r e hq => (h.no r e).2.1 hq.symm)
  have ob2 := old p2 (h.lt _ h.s2) (fun r e hq => (h.no r e).2.2.1 hq.symm)
  have ob3 := old p3 (h.lt _ h.s3) (fun r e hq => (h.no r e).2.2.2 hq.symm)
  have gq : q ≠ p1 ∧ q ≠ p2 ∧ q ≠ p3 := by
    rcases hat with e | e
    · exact (h.no q (gown_at h.o e.symm)).2
    · have := h.lt _ h.s1; have := h.lt _ h.s2; have := h.lt _ h.s3; omega
  have sz : (w6.setCell ⟨p2, 0, none⟩ (.slice (some ⟨q, 0, none⟩) (out.length + 1) cap)).heap.size = w6.heap.size := by simp [World.setCell]
  have hlen : (out ++ [x]).length = out.length + 1 := by simp
  have n1 := h.n1; have n2 := h.n2
  refine ⟨fun k => S k ∨ k = q, ⟨some ⟨q, 0, none⟩, cap, ⟨?_, ?_, ?_, fun i => ?_, ?_, Or.inl h.s1, Or.inl h.s2, Or.inl h.s3, h.n1, h.n2, fun r hr => ?_, fun k hk => ?_, ?_⟩⟩, fun k hk => ?_, ?_⟩
  · rw [cset_far (Ne.symm n1)]; exact (World.cell?_of_block (w := w) ob1).trans h.c1
  · rw [hlen]; exact cset_at ((World.cell?_of_block (w := w) ob2).trans h.c2)
  · rw [cset_far (Ne.symm n2)]; exact (World.cell?_of_block (w := w) ob3).trans h.c3
  · rw [fset_any]; exact (World.frozen?_of_block (w := w) ob2).trans (h.f i)
  · rw [hlen, strsV_snocG]
    exact gowns_block own (fun r hr => by injection hr with hr; injection hr with hr; subst hr; exact gheap_far gq.2.1)
  · injection hr with hr; injection hr with hr; subst hr
    exact ⟨Or.inr rfl, gq⟩
  · rw [sz]
    rcases hk with hk | hk
    · have := h.lt k hk; omega
    · rw [hk]; exact hlt
  · rw [sz]; have := h.b; omega
  · rcases hk with hk | hk
    · exact Or.inl hk
    · rcases hat with e | e
      · exact Or.inl (by rw [hk]; exact (h.no q (gown_at h.o e.symm)).1)
      · exact Or.inr (by omega)
  · refine Turn.trans ?_ (Turn.setCell h.s2)
    exact ⟨hg.os, hg.tape, hg.output, by omega, fun k hk hn => old k hk (fun r e h2 => hn (by rw [h2]; exact (h.no r e).1))⟩
theorem QT.mid {B : Nat} {lo : Tx} {most : Int} {p1 p2 p3 : Nat} {out : List Tx} {oa : Option Addr} {oc : Nat} {w w6 : World} {S : Nat → Prop} {o : Obj} (h : QT B lo most p1 p2 p3 out oa oc w S) (hg : (w.alloc o).grownBy w6 (Value.slice oa out.length oc).ownBlock) :
    w6.cell? ⟨p2, 0, none⟩ = some (.slice oa out.length oc) ∧ w6.frozen? ⟨p2, 0, none⟩ = false ∧ ∀ v, (w6.setCell ⟨p2, 0, none⟩ v).cell? ⟨p3, 0, none⟩ = some (.int .i64 most) := by
  have hza : (w.alloc o).heap.size = w.heap.size + 1 := by simp
  have old : ∀ k, k < w.heap.size → (∀ r, oa = some ⟨r, 0, none⟩ → k ≠ r) → w6.heap[k]? = w.heap[k]? := fun k hk hn =>
    (hg.block k (by omega) (fun e => hn k (gown_at h.o e) rfl)).trans (Below.heap_alloc _ _ _ (by omega))
  have ob2 := old p2 (h.lt _ h.s2) (fun r e hq => (h.no r e).2.2.1 hq.symm)
  have ob3 := old p3 (h.lt _ h.s3) (fun r e hq => (h.no r e).2.2.2 hq.symm)
  exact ⟨(World.cell?_of_block (w := w) ob2).trans h.c2, (World.frozen?_of_block (w := w) ob2).trans (h.f 0), fun v => (cset_far (Ne.symm h.n2)).trans ((World.cell?_of_block (w := w) ob3).trans h.c3)⟩
end Go.Proofs.Ytolggcdlpiedmaa
/- a rune written and what is behind it: the text -/
namespace Go.Proofs.Ytolggcdlpiedmaa
open Go.RowKit
set_option linter.unusedVariables false
set_option maxRecDepth 20000
theorem ue_decodeN_good (n b0 b1 b2 b3 : Nat) (hg : (Lib.decodeN n b0 b1 b2 b3).1 ≠ 65533) (h0 : b0 < 256) :
    ((Lib.decodeN n b0 b1 b2 b3).1 < 55296 ∨ 57343 < (Lib.decodeN n b0 b1 b2 b3).1) ∧ (Lib.decodeN n b0 b1 b2 b3).1 ≤ 1114111 := by
  unfold Lib.decodeN at *
  by_cases k0 : b0 < 128
  · rw [if_pos k0]; exact ⟨Or.inl (show b0 < 55296 by omega), (show b0 ≤ 1114111 by omega)⟩
  rw [if_neg k0] at hg ⊢
  by_cases k1 : b0 / 32 = 6 ∧ 1 < n ∧ b1 / 64 = 2
  · rw [if_pos k1] at hg ⊢
    by_cases h : b0 % 32 * 64 + b1 % 64 ≥ 128
    · rw [if_pos h]; exact ⟨Or.inl (show b0 % 32 * 64 + b1 % 64 < 55296 by omega), (show b0 % 32 * 64 + b1 % 64 ≤ 1114111 by omega)⟩
    · rw [if_neg h] at hg; exact absurd rfl hg
  rw [if_neg k1] at hg ⊢
  by_cases k2 : b0 / 16 = 14 ∧ (1 < n ∧ b1 / 64 = 2) ∧ 2 < n ∧ b2 / 64 = 2
  · rw [if_pos k2] at hg ⊢
    by_cases h : b0 % 16 * 4096 + b1 % 64 * 64 + b2 % 64 ≥ 2048 ∧ (b0 % 16 * 4096 + b1 % 64 * 64 + b2 % 64 < 55296 ∨ (57344 ≤ b0 % 16 * 4096 + b1 % 64 * 64 + b2 % 64 ∧ b0 % 16 * 4096 + b1 % 64 * 64 + b2 % 64 ≤ 1114111))
    · rw [if_pos h]
      refine ⟨?_, show b0 % 16 * 4096 + b1 % 64 * 64 + b2 % 64 ≤ 1114111 by omega⟩
      show b0 % 16 * 4096 + b1 % 64 * 64 + b2 % 64 < 55296 ∨ 57343 < b0 % 16 * 4096 + b1 % 64 * 64 + b2 % 64
      omega
    · rw [if_neg h] at hg; exact absurd rfl hg
  rw [if_neg k2] at hg ⊢
  by_cases k3 : b0 / 8 = 30 ∧ (1 < n ∧ b1 / 64 = 2) ∧ (2 < n ∧ b2 / 64 = 2) ∧ 3 < n ∧ b3 / 64 = 2
  · rw [if_pos k3] at hg ⊢
    by_cases h : b0 % 8 * 262144 + b1 % 64 * 4096 + b2 % 64 * 64 + b3 % 64 ≥ 65536 ∧ (b0 % 8 * 262144 + b1 % 64 * 4096 + b2 % 64 * 64 + b3 % 64 < 55296 ∨ (57344 ≤ b0 % 8 * 262144 + b1 % 64 * 4096 + b2 % 64 * 64 + b3 % 64 ∧ b0 % 8 * 262144 + b1 % 64 * 4096 + b2 % 64 * 64 + b3 % 64 ≤ 1114111))
    · rw [if_pos h]
      refine ⟨?_, show b0 % 8 * 262144 + b1 % 64 * 4096 + b2 % 64 * 64 + b3 % 64 ≤ 1114111 by omega⟩
      show b0 % 8 * 262144 + b1 % 64 * 4096 + b2 % 64 * 64 + b3 % 64 < 55296 ∨ 57343 < b0 % 8 * 262144 + b1 % 64 * 4096 + b2 % 64 * 64 + b3 % 64
      omega
    · rw [if_neg h] at hg; exact absurd rfl hg
  rw [if_neg k3] at hg
  exact absurd rfl hg
theorem ue_drop_byte (s : ByteArray) (j : Nat) (h : j < s.size) : s.toList.drop j = UInt8.ofNat (byteS s j) :: s.toList.drop (j + 1) := by
  obtain ⟨c, h1, h2⟩ := drop_at s j h
  rw [h1, ← h2, UInt8.ofNat_toNat]
theorem ue_bytes_list (s : ByteArray) (pos w : Nat) (h : pos + w ≤ s.size) (h1 : 1 ≤ w) (h4 : w ≤ 4) :
    (s.toList.drop pos).take w = ([byteS s pos, byteS s (pos + 1), byteS s (pos + 2), byteS s (pos + 3)].take w).map UInt8.ofNat := by
  have hw : w = 1 ∨ w = 2 ∨ w = 3 ∨ w = 4 := by omega
  rcases hw with rfl | rfl | rfl | rfl
  · rw [ue_drop_byte s pos (by omega)]; rfl
  · rw [ue_drop_byte s pos (by omega), ue_drop_byte s (pos + 1) (by omega)]; rfl
  · rw [ue_drop_byte s pos (by omega), ue_drop_byte s (pos + 1) (by omega), ue_drop_byte s (pos + 1 + 1) (by omega)]; rfl
  · rw [ue_drop_byte s pos (by omega), ue_drop_byte s (pos + 1) (by omega), ue_drop_byte s (pos + 1 + 1) (by omega), ue_drop_byte s (pos + 1 + 1 + 1) (by omega)]; rfl
theorem ue_enc_width {r w b0 b1 b2 b3 : Nat} (h : Enc r w b0 b1 b2 b3) : 1 ≤ w ∧ w ≤ 4 ∧ r ≤ 1114111 := by unfold Enc at h; omega
/-- a rune read well: its bytes -/
theorem ue_read_well (s : ByteArray) (pos : Nat) (h : pos < s.size) (hg : (Utf8.decode s pos).1 ≠ 65533) :
    Enc (Utf8.decode s pos).1 (Utf8.decode s pos).2 (byteS s pos) (byteS s (pos + 1)) (byteS s (pos + 2)) (byteS s (pos + 3)) ∧ ((Utf8.decode s pos).1 < 55296 ∨ 57343 < (Utf8.decode s pos).1) := by
  rw [decode_bytes] at hg ⊢
  exact ⟨decodeN_enc _ _ _ _ _ (byteS_lt _ _) hg, (ue_decodeN_good _ _ _ _ _ hg (byteS_lt _ _)).1⟩
theorem encode_enc (r w b0 b1 b2 b3 : Nat) (h : Enc r w b0 b1 b2 b3) (hs : r < 55296 ∨ 57343 < r) : (Utf8.encode (r : Int)).data.toList = ([b0, b1, b2, b3].take w).map UInt8.ofNat := by
  have hr : r ≤ 1114111 := (ue_enc_width h).2.2
  have hv : Utf8.valid (r : Int) = true := by
    unfold Utf8.valid
    simp only [Bool.or_eq_true, Bool.and_eq_true, decide_eq_true_eq]
    omega
  unfold Utf8.encode
  rw [if_pos hv]
  simp only [Int.toNat_natCast]
  rcases h with ⟨rfl, rfl, h⟩ | ⟨rfl, h0, h1, h2, h3⟩ | ⟨rfl, h0, h1, h2, h3, h4⟩ | ⟨rfl, h0, h1, h2, h3, h4, h5⟩
  · rw [if_pos (by omega)]; rfl
  · rw [if_neg (by omega), if_pos (by omega), h0, h1]; rfl
  · rw [if_neg (by omega), if_neg (by omega), if_pos (by omega), h0, h1, h2]; rfl
  · rw [if_neg (by omega), if_neg (by omega), if_neg (by omega), h0, h1, h2, h3]; rfl
theorem enc_rst {t : Tx} (h : 0 ≤ lenS t) (h0 : 0 < t.size) : Utf8.encode (labS t : Int) ++ rstS t = t := by
  obtain ⟨h1, h2, -⟩ := good_first h h0
  obtain ⟨e1, e2⟩ := ue_read_well t 0 h0 h1
  have hw := ue_enc_width e1
  have hx : Utf8.encode (labS t : Int) = t.extract 0 (Utf8.decode t 0).2 := by
    have hb := ue_bytes_list t 0 _ (by omega) hw.1 hw.2.1
    have he := encode_enc _ _ _ _ _ _ e1 e2
    rw [← hb, List.drop_zero, ByteArray.toList_eq] at he
    have hl : labS t = (Utf8.decode t 0).1 := rfl
    rw [hl]
    apply tx_ext
    rw [he]
    have hz := (extract_size t (Utf8.decode t 0).2 h2).1
    have hj : (t.extract 0 (Utf8.decode t 0).2 ++ rstS t).data.toList = t.data.toList := by rw [rst_split h h0]
    rw [show ∀ a b : ByteArray, (a ++ b).data.toList = a.data.toList ++ b.data.toList from fun a b => by simp] at hj
    rw [← hj]
    have hn : (t.extract 0 (Utf8.decode t 0).2).data.toList.length = (Utf8.decode t 0).2 := by rw [Array.length_toList]; exact hz
    exact List.take_left' hn
  rw [hx]
  exact rst_split h h0
end Go.Proofs.Ytolggcdlpiedmaa
/- graph: each -/
namespace Go.Proofs.Ytolggcdlpiedmaa
open Go.RowKit
set_option linter.unusedVariables false
set_option maxRecDepth 20000
theorem GAt.edges {g : Nat} {st : List GN} {w : World} {Sg S : Nat → Prop} (h : GAt g st w Sg) (hA : ∀ k, Sg k → ¬ S k) {n : Nat} (hn : n < st.length) : ∃ q nc ea ec, w.cell? ⟨g, 0, none⟩ = some (.slice (some ⟨q, 0, none⟩) st.length nc) ∧ w.cell? ⟨q, n * 2, none⟩ = some (.bool (st.getD n gn0).final) ∧ (∀ w', Turn S w w' → w'.cell? ⟨g, 0, none⟩ = some (.slice (some ⟨q, 0, none⟩) st.length nc) ∧ w'.cell? ⟨q, n * 2 + 1, none⟩ = some (.slice ea (st.getD n gn0).edges.length ec) ∧ HoldsEd w' ea (st.getD n gn0).edges.length (st.getD n gn0).edges) := by
  obtain ⟨na, nc, NL, G, e⟩ := h
  obtain ⟨e1, e2⟩ := map_eqG _ _ e
  have c := G.c
  obtain ⟨q, rfl, c0, c1⟩ := G.at (i := n) (by omega)
  obtain ⟨e3, e4⟩ := e2 n hn
  rw [e1] at c
  rw [e3] at c0
  have ei := G.e _ (mem_nm (show n < NL.length by omega))
  unfold EdIn at ei
  rw [e4] at c1 ei
  exact ⟨q, nc, _, _, c, c0, fun w' t => ⟨(t.cell (lt_of_cell c) (hA _ G.sg)).trans c, (t.cell (lt_of_cell c1) (hA _ (G.sn q rfl).1)).trans c1, holdsEd_blocks ei.1 (fun fb fo e => t.block fb (G.lt fb (ei.2.2.2 fb fo e).1) (hA _ (ei.2.2.2 fb fo e).1))⟩⟩
theorem fol_map {l : List Tx} (h : Run l) (h0 : l ≠ []) (s : Tx) : (folS l).2.map (fun x => (s ++ Utf8.encode ((folS l).1 : Int)) ++ x) = (l.take (folS l).2.length).map (fun x => s ++ x) := by
  obtain ⟨k, hk, h1, h2⟩ := fol_split h0
  rw [← hk, h2, List.map_map]
  refine List.map_congr_left fun u hu => ?_
  have hm : u ∈ l := List.mem_of_mem_take hu
  have hl : labS u = (folS l).1 := by
    rw [h1] at hu
    have h3 := mem_tw (p := fun t => decide (labS t = labS (l.getD 0 ByteArray.empty))) hu
    rw [show labS u = labS (l.getD 0 ByteArray.empty) from of_decide_eq_true h3]
    cases l with
    | nil => exact absurd rfl h0
    | cons a l => rfl
  show (s ++ Utf8.encode ((folS l).1 : Int)) ++ rstS u = s ++ u
  rw [← hl, ByteArray.append_assoc, enc_rst (h.lo u hm) (h.pos u hm)]
theorem drop_ed (l : List EdP) (j : Nat) (h : j < l.length) : l.drop j = l.getD j ed0 :: l.drop (j + 1) := by
  rw [List.drop_eq_getElem_cons h, List.getD_eq_getElem?_getD, List.getElem?_eq_getElem h]; rfl
def Apart (S T : Nat → Prop) : Prop := ∀ k, S k → ¬ T k
end Go.Proofs.Ytolggcdlpiedmaa
/- Edit distances by a table: plain lemmas. -/
namespace Go.Proofs.Ytolggcdlpiedmaa
set_option linter.unusedVariables false
set_option maxRecDepth 20000
namespace Ed
def cost (x y : Int) : Int := if x = y then 0 else 1
theorem cost_bd (x y : Int) : 0 ≤ cost x y ∧ cost x y ≤ 1 := by unfold cost; split <;> omega
/-- the distance of the first i of a and the first j of b -/
def L (a b : List Int) : Nat → Nat → Int
  | 0, j => j
  | i + 1, 0 => (i : Int) + 1
  | i + 1, j + 1 => min (min (L a b i j + cost (a.getD i 0) (b.getD j 0)) (L a b (i + 1) j + 1)) (L a b i (j + 1) + 1)
/-- a row of the table turned into the next one, for the rune r -/
def adv (R : List Int) (a : List Int) (r : Int) : Nat → Int
  | 0 => R.getD 0 0 + 1
  | i + 1 => min (min (R.getD i 0 + cost (a.getD i 0) r) (R.getD (i + 1) 0 + 1)) (adv R a r i + 1)
/-- the row of the first j of b -/
def row (a b : List Int) (j : Nat) : List Int := (List.range (a.length + 1)).map fun i => L a b i j
theorem row_length (a b : List Int) (j : Nat) : (row a b j).length = a.length + 1 := by simp [row]
theorem row_getD (a b : List Int) (j i : Nat) (h : i ≤ a.length) : (row a b j).getD i 0 = L a b i j := by
  simp [row, List.getD_eq_getElem?_getD, show i < a.length + 1 by omega]
theorem adv_row (a b : List Int) (j i : Nat) (h : i ≤ a.length) : adv (row a b j) a (b.getD j 0) i = L a b i (j + 1) := by
  induction i with
  | zero => rw [adv, row_getD a b j 0 (by omega)]; simp only [L]; omega
  | succ i ih => rw [adv, row_getD a b j i (by omega), row_getD a b j (i + 1) h, ih (by omega)]; simp only [L]
/-- the first k + 1 of a row turned, the rest as it was -/
def mix (R : List Int) (a : List Int) (r : Int) (k : Nat) : List Int := (List.range R.length).map fun i => if i ≤ k then adv R a r i else R.getD i 0
theorem mix_length (R a : List Int) (r : Int) (k : Nat) : (mix R a r k).length = R.length := by simp [mix]
theorem mix_old (R a : List Int) (r : Int) (k i : Nat) (h : i < R.length) (hk : k < i) : (mix R a r k).getD i 0 = R.getD i 0 := by
  simp [mix, List.getD_eq_getElem?_getD, h, show ¬ i ≤ k by omega]
theorem mix_new (R a : List Int) (r : Int) (k i : Nat) (h : i < R.length) (hk : i ≤ k) : (mix R a r k).getD i 0 = adv R a r i := by
  simp [mix, List.getD_eq_getElem?_getD, h, hk]
theorem mix_set (R a : List Int) (r : Int) (k : Nat) (h : k + 1 < R.length) : (mix R a r k).set (k + 1) (adv R a r (k + 1)) = mix R a r (k + 1) := by
  apply List.ext_getElem
  · simp [mix]
  · intro i h1 h2
    rw [List.getElem_set]
    simp only [mix, List.getElem_map, List.getElem_range]
    by_cases e : k + 1 = i
    · subst e; simp
    · rw [if_neg e]
      by_cases h3 : i ≤ k
      · simp [h3, show i ≤ k + 1 by omega]
      · simp [h3, show ¬ i ≤ k + 1 by omega]
theorem mix_zero (R a : List Int) (r : Int) (h : 0 < R.length) : R.set 0 (R.getD 0 0 + 1) = mix R a r 0 := by
  apply List.ext_getElem
  · simp [mix]
  · intro i h1 h2
    rw [List.getElem_set]
    simp only [mix, List.getElem_map, List.getElem_range]
    by_cases e : 0 = i
    · subst e; simp [adv]
    · rw [if_neg e, if_neg (by omega)]
      have h3 : i < R.length := by simpa using h1
      simp [List.getD_eq_getElem?_getD, h3]
theorem mix_all (a b : List Int) (j : Nat) : mix (row a b j) a (b.getD j 0) a.length = row a b (j + 1) := by
  unfold mix
  rw [row_length]
  refine List.map_congr_left fun i hi => ?_
  have := List.mem_range.1 hi
  rw [if_pos (by omega), adv_row a b j i (by omega)]
theorem adv_bd (R a : List Int) (r M : Int) (hM : 0 ≤ M) (h : ∀ i, 0 ≤ R.getD i 0 ∧ R.getD i 0 ≤ M) (i : Nat) : 0 ≤ adv R a r i ∧ adv R a r i ≤ M + 1 := by
  induction i with
  | zero => have := h 0; simp only [adv]; omega
  | succ i ih => have h1 := h i; have h2 := h (i + 1); have h3 := cost_bd (a.getD i 0) r; simp only [adv]; omega
theorem L_bd (a b : List Int) : ∀ i j, 0 ≤ L a b i j ∧ L a b i j ≤ (i : Int) + j := by
  intro i
  induction i with
  | zero => intro j; simp only [L]; omega
  | succ i ih =>
    intro j
    induction j with
    | zero => simp only [L]; omega
    | succ j ihj => have h1 := ih j; have h2 := ih (j + 1); have h3 := cost_bd (a.getD i 0) (b.getD j 0); simp only [L]; omega
theorem row_bd (a b : List Int) (j : Nat) : ∀ i, 0 ≤ (row a b j).getD i 0 ∧ (row a b j).getD i 0 ≤ (a.length : Int) + j := by
  intro i
  by_cases h : i ≤ a.length
  · rw [row_getD a b j i h]; have := L_bd a b i j; omega
  · have : (row a b j).getD i 0 = 0 := by
      rw [List.getD_eq_getElem?_getD, List.getElem?_eq_none (by rw [row_length]; omega)]; rfl
    omega
end Ed
end Go.Proofs.Ytolggcdlpiedmaa
/- Edit distances: lists that have no rune together, lists that have one; how much one step changes. -/
namespace Go.Proofs.Ytolggcdlpiedmaa
set_option linter.unusedVariables false
set_option maxRecDepth 20000
namespace Ed
theorem L_zero (a b : List Int) (i : Nat) : L a b i 0 = (i : Int) := by
  cases i with
  | zero => simp only [L]
  | succ i => simp only [L]; omega
theorem L_zeroL (a b : List Int) (j : Nat) : L a b 0 j = (j : Int) := by simp only [L]
theorem L_left (a b : List Int) (i j : Nat) : L a b (i + 1) j ≤ L a b i j + 1 := by
  cases j with
  | zero => rw [L_zero, L_zero]; omega
  | succ j => simp only [L]; omega
theorem L_right (a b : List Int) (i j : Nat) : L a b i (j + 1) ≤ L a b i j + 1 := by
  cases i with
  | zero => rw [L_zeroL, L_zeroL]; omega
  | succ i => simp only [L]; omega
theorem L_lefts (a b : List Int) (i j p : Nat) : L a b (i + p) j ≤ L a b i j + p := by
  induction p with
  | zero => simp
  | succ p ih => have := L_left a b (i + p) j; rw [← Nat.add_assoc]; omega
theorem L_rights (a b : List Int) (i j p : Nat) : L a b i (j + p) ≤ L a b i j + p := by
  induction p with
  | zero => simp
  | succ p ih => have := L_right a b i (j + p); rw [← Nat.add_assoc]; omega
theorem L_apart (a b : List Int) (h : ∀ i j, i < a.length → j < b.length → a.getD i 0 ≠ b.getD j 0) : ∀ i j, i ≤ a.length → j ≤ b.length → L a b i j = ((max i j : Nat) : Int) := by
  intro i
  induction i with
  | zero => intro j _ _; rw [L_zeroL]; simp
  | succ i ih =>
    intro j hi
    induction j with
    | zero => intro _; rw [L_zero]; simp
    | succ j ihj =>
      intro hj
      have h1 := ih j (by omega) (by omega)
      have h2 := ih (j + 1) (by omega) hj
      have h3 := ihj (by omega)
      have hc : cost (a.getD i 0) (b.getD j 0) = 1 := by unfold cost; rw [if_neg (h i j (by omega) (by omega))]
      simp only [L]
      rw [h1, h2, h3, hc]
      omega
theorem L_meet (a b : List Int) (i j : Nat) (hi : i < a.length) (hj : j < b.length) (h : a.getD i 0 = b.getD j 0) : L a b a.length b.length < (a.length : Int) + b.length := by
  have h1 : L a b (i + 1) (j + 1) ≤ L a b i j := by
    have hc : cost (a.getD i 0) (b.getD j 0) = 0 := by unfold cost; rw [if_pos h]
    simp only [L]; rw [hc]; omega
  have h2 := L_bd a b i j
  have h3 := L_lefts a b (i + 1) (j + 1) (a.length - (i + 1))
  have h4 := L_rights a b a.length (j + 1) (b.length - (j + 1))
  rw [show i + 1 + (a.length - (i + 1)) = a.length by omega] at h3
  rw [show j + 1 + (b.length - (j + 1)) = b.length by omega] at h4
  omega
end Ed
end Go.Proofs.Ytolggcdlpiedmaa
/- Edit distances are a metric. -/
namespace Go.Proofs.Ytolggcdlpiedmaa
set_option linter.unusedVariables false
set_option maxRecDepth 20000
namespace Ed
theorem cost_sym (x y : Int) : cost x y = cost y x := by
  unfold cost
  by_cases h : x = y
  · rw [if_pos h, if_pos h.symm]
  · rw [if_neg h, if_neg (fun e => h e.symm)]
theorem cost_tri (x y z : Int) : cost x z ≤ cost x y + cost y z := by
  unfold cost
  by_cases h : x = y
  · by_cases h2 : y = z
    · rw [if_pos h, if_pos h2, if_pos (h.trans h2)]; omega
    · rw [if_pos h, if_neg h2]; split <;> omega
  · rw [if_neg h]; split <;> split <;> omega
theorem L_sym (a b : List Int) : ∀ i j, L a b i j = L b a j i := by
  intro i
  induction i with
  | zero => intro j; rw [L_zeroL, L_zero]
  | succ i ih =>
    intro j
    induction j with
    | zero => rw [L_zero, L_zeroL]
    | succ j ihj =>
      have h1 := ih j; have h2 := ih (j + 1); have h3 := cost_sym (a.getD i 0) (b.getD j 0)
      simp only [L]
      rw [h1, h2, ihj, h3]
      omega
theorem L_low (a b : List Int) : ∀ (i j : Nat), (i : Int) - j ≤ L a b i j ∧ (j : Int) - i ≤ L a b i j := by
  intro i
  induction i with
  | zero => intro j; rw [L_zeroL]; omega
  | succ i ih =>
    intro j
    induction j with
    | zero => rw [L_zero]; omega
    | succ j ihj => have h1 := ih j; have h2 := ih (j + 1); have h3 := cost_bd (a.getD i 0) (b.getD j 0); simp only [L]; omega
theorem L_diag (a b : List Int) (i j : Nat) : L a b (i + 1) (j + 1) ≤ L a b i j + cost (a.getD i 0) (b.getD j 0) := by
  simp only [L]; omega
theorem L_up (a b : List Int) : ∀ i j, L a b i j ≤ ((max i j : Nat) : Int) := by
  intro i
  induction i with
  | zero => intro j; rw [L_zeroL]; omega
  | succ i ih =>
    intro j
    cases j with
    | zero => rw [L_zero]; omega
    | succ j => have h1 := ih j; have h2 := L_diag a b i j; have h3 := cost_bd (a.getD i 0) (b.getD j 0); omega
theorem L_same (a : List Int) : ∀ i, L a a i i = 0 := by
  intro i
  induction i with
  | zero => rw [L_zeroL]; rfl
  | succ i ih =>
    have h1 := L_diag a a i i
    have h2 := (L_bd a a (i + 1) (i + 1)).1
    have h3 : cost (a.getD i 0) (a.getD i 0) = 0 := by unfold cost; rw [if_pos rfl]
    omega
theorem L_none (a b : List Int) : ∀ i, L a b i i = 0 → ∀ t, t < i → a.getD t 0 = b.getD t 0 := by
  intro i
  induction i with
  | zero => intro _ t h; omega
  | succ i ih =>
    intro h t ht
    have h1 := L_bd a b i i; have h2 := L_bd a b (i + 1) i; have h3 := L_bd a b i (i + 1); have h4 := cost_bd (a.getD i 0) (b.getD i 0)
    simp only [L] at h
    have h5 : L a b i i = 0 := by omega
    have h6 : cost (a.getD i 0) (b.getD i 0) = 0 := by omega
    rcases Nat.lt_or_ge t i with h7 | h7
    · exact ih h5 t h7
    · obtain rfl : t = i := by omega
      unfold cost at h6
      split at h6
      · assumption
      · omega
theorem L_zero_iff (a b : List Int) : L a b a.length b.length = 0 ↔ a = b := by
  constructor
  · intro h
    have h1 := L_low a b a.length b.length
    have hl : a.length = b.length := by omega
    rw [← hl] at h
    have h2 := L_none a b a.length h
    apply List.ext_getElem hl
    intro i h3 h4
    have h5 := h2 i h3
    simpa [List.getD_eq_getElem?_getD, h3, h4] using h5
  · rintro rfl; exact L_same a _
theorem L_tri (a b c : List Int) : ∀ n i j k, i + j + k ≤ n → L a c i k ≤ L a b i j + L b c j k := by
  intro n
  induction n with
  | zero =>
    intro i j k h
    obtain rfl : i = 0 := by omega
    obtain rfl : j = 0 := by omega
    obtain rfl : k = 0 := by omega
    simp only [L]; omega
  | succ n ih =>
    intro i j k h
    cases i with
    | zero => rw [L_zeroL, L_zeroL]; have := L_low b c j k; omega
    | succ i =>
      cases k with
      | zero => rw [L_zero, L_zero]; have := L_low a b (i + 1) j; omega
      | succ k =>
        cases j with
        | zero => rw [L_zero, L_zeroL]; have := L_bd a c (i + 1) (k + 1); omega
        | succ j =>
          have i1 := ih i (j + 1) (k + 1) (by omega)
          have i2 := ih (i + 1) (j + 1) k (by omega)
          have i3 := ih (i + 1) j (k + 1) (by omega)
          have i4 := ih (i + 1) j k (by omega)
          have i5 := ih i j (k + 1) (by omega)
          have i6 := ih i j k (by omega)
          have u1 := L_left a c i (k + 1)
          have u2 := L_right a c (i + 1) k
          have u3 := L_diag a c i k
          have c1 := cost_bd (a.getD i 0) (b.getD j 0); have c2 := cost_bd (b.getD j 0) (c.getD k 0)
          have t := cost_tri (a.getD i 0) (b.getD j 0) (c.getD k 0)
          have x1 : L a b (i + 1) (j + 1) = min (min (L a b i j + cost (a.getD i 0) (b.getD j 0)) (L a b (i + 1) j + 1)) (L a b i (j + 1) + 1) := by simp only [L]
          have x2 : L b c (j + 1) (k + 1) = min (min (L b c j k + cost (b.getD j 0) (c.getD k 0)) (L b c (j + 1) k + 1)) (L b c j (k + 1) + 1) := by simp only [L]
          omega
end Ed
end Go.Proofs.Ytolggcdlpiedmaa
/- auto: states by the rows of a table: plain -/
namespace Go.Proofs.Ytolggcdlpiedmaa
set_option linter.unusedVariables false
set_option maxRecDepth 20000
namespace Au
abbrev Ps := List (Int × Int)
/-- the row behind j runes of p, at most k + 1 each -/
def cap (q p : List Int) (k : Int) (j i : Nat) : Int := min (Ed.L q p i j) (k + 1)
def needP (C : Nat → Int) (n : Nat) (k : Int) (i : Nat) : Prop := C i ≤ k ∧ ¬ (0 < i ∧ C (i - 1) < C i) ∧ ¬ (i < n ∧ C (i + 1) < C i)
instance (C : Nat → Int) (n : Nat) (k : Int) (i : Nat) : Decidable (needP C n k i) := by unfold needP; infer_instance
/-- the positions below m that no other one makes needless -/
def needL (C : Nat → Int) (n : Nat) (k : Int) (m : Nat) : Ps := ((List.range m).filter fun (i : Nat) => decide (needP C n k i)).map fun (i : Nat) => ((i : Int), C i)
theorem needL_zero (C : Nat → Int) (n : Nat) (k : Int) : needL C n k 0 = [] := rfl
theorem needL_succ (C : Nat → Int) (n : Nat) (k : Int) (m : Nat) : needL C n k (m + 1) = needL C n k m ++ (if needP C n k m then [((m : Int), C m)] else []) := by
  unfold needL
  rw [List.range_succ, List.filter_append, List.map_append]
  congr 1
  by_cases h : needP C n k m <;> simp [h]
theorem needL_mem {C : Nat → Int} {n : Nat} {k : Int} {m : Nat} {x : Int × Int} (h : x ∈ needL C n k m) : ∃ i : Nat, i < m ∧ needP C n k i ∧ x = ((i : Int), C i) := by
  unfold needL at h
  obtain ⟨i, hi, rfl⟩ := List.mem_map.1 h
  have := List.mem_filter.1 hi
  exact ⟨i, List.mem_range.1 this.1, of_decide_eq_true this.2, rfl⟩
/-- rows that are alike up to k have the same positions -/
theorem needL_like {C D : Nat → Int} {n : Nat} {k : Int} (h : ∀ i, i ≤ n → min (C i) (k + 1) = min (D i) (k + 1)) : ∀ m, m ≤ n + 1 → needL C n k m = needL D n k m := by
  intro m
  induction m with
  | zero => intro _; rfl
  | succ m ih =>
    intro hm
    rw [needL_succ, needL_succ, ih (by omega)]
    congr 1
    have h0 := h m (by omega)
    have h1 : 0 < m → min (C (m - 1)) (k + 1) = min (D (m - 1)) (k + 1) := fun _ => h (m - 1) (by omega)
    have h2 : m < n → min (C (m + 1)) (k + 1) = min (D (m + 1)) (k + 1) := fun _ => h (m + 1) (by omega)
    by_cases hk : C m ≤ k
    · have e : C m = D m := by omega
      have hp : needP C n k m ↔ needP D n k m := by
        unfold needP
        rw [← e]
        constructor
        · rintro ⟨a, b, c⟩
          refine ⟨a, fun ⟨x, y⟩ => b ⟨x, ?_⟩, fun ⟨x, y⟩ => c ⟨x, ?_⟩⟩
          · have := h1 x; omega
          · have := h2 x; omega
        · rintro ⟨a, b, c⟩
          refine ⟨a, fun ⟨x, y⟩ => b ⟨x, ?_⟩, fun ⟨x, y⟩ => c ⟨x, ?_⟩⟩
          · have := h1 x; omega
          · have := h2 x; omega
      by_cases hc : needP C n k m
      · rw [if_pos hc, if_pos (hp.1 hc), e]
      · rw [if_neg hc, if_neg fun x => hc (hp.2 x)]
    · rw [if_neg fun x => hk x.1, if_neg fun x => hk (by have := x.1; omega)]
/-- neighbours differ by one at most -/
def Lip (C : Nat → Int) (n : Nat) : Prop := ∀ i, i < n → C (i + 1) ≤ C i + 1 ∧ C i ≤ C (i + 1) + 1
theorem cap_bd (q p : List Int) (k : Int) (hk : 0 ≤ k) (j i : Nat) : 0 ≤ cap q p k j i ∧ cap q p k j i ≤ k + 1 := by
  unfold cap; have := Ed.L_bd q p i j; omega
theorem L_backA (a b : List Int) (i j : Nat) : Ed.L a b i j ≤ Ed.L a b (i + 1) j + 1 := by
  have h : ∀ j i, Ed.L a b i j ≤ Ed.L a b (i + 1) j + 1 := by
    intro j
    induction j with
    | zero => intro i; rw [Ed.L_zero, Ed.L_zero]; omega
    | succ j ih =>
      intro i
      have e : Ed.L a b (i + 1) (j + 1) = min (min (Ed.L a b i j + Ed.cost (a.getD i 0) (b.getD j 0)) (Ed.L a b (i + 1) j + 1)) (Ed.L a b i (j + 1) + 1) := by simp only [Ed.L]
      have h1 := ih i
      have h2 := Ed.L_right a b i j
      have h3 := Ed.cost_bd (a.getD i 0) (b.getD j 0)
      omega
  exact h j i
theorem cap_lip (q p : List Int) (k : Int) (j n : Nat) : Lip (cap q p k j) n := by
  intro i _
  unfold cap
  have h1 := Ed.L_left q p i j
  have h2 := L_backA q p i j
  omega
theorem L_lip (q p : List Int) (j n : Nat) : Lip (fun i => Ed.L q p i j) n := fun i _ => ⟨Ed.L_left q p i j, L_backA q p i j⟩
theorem lip_chain {C : Nat → Int} {n : Nat} (h : Lip C n) (i : Nat) : ∀ p, i + p ≤ n → C (i + p) ≤ C i + p ∧ C i ≤ C (i + p) + p := by
  intro p
  induction p with
  | zero => intro _; simp
  | succ p ih =>
    intro hp
    have h1 := ih (by omega)
    have h2 := h (i + p) (by omega)
    rw [show i + (p + 1) = i + p + 1 by omega]
    omega
/-! ## spread -/
def base (s : Ps) (k : Int) (i : Nat) : Int := s.foldl (fun d p => if p.1 = (i : Int) then min d p.2 else d) (k + 1)
theorem base_snoc (s : Ps) (x : Int × Int) (k : Int) (i : Nat) : base (s ++ [x]) k i = if x.1 = (i : Int) then min (base s k i) x.2 else base s k i := by simp [base, List.foldl_append]
theorem base_need (C : Nat → Int) (n : Nat) (k : Int) (i : Nat) : ∀ m, base (needL C n k m) k i = if i < m ∧ needP C n k i then C i else k + 1 := by
  intro m
  induction m with
  | zero => simp [needL_zero, base]
  | succ m ih =>
    rw [needL_succ]
    by_cases h : needP C n k m
    · rw [if_pos h, base_snoc, ih]
      by_cases e : m = i
      · subst e
        have := h.1
        rw [if_pos rfl, if_neg (by omega), if_pos ⟨by omega, h⟩]
        simp only
        omega
      · rw [if_neg (by simp only; omega)]
        by_cases hn : needP C n k i
        · by_cases hi : i < m
          · rw [if_pos ⟨hi, hn⟩, if_pos ⟨by omega, hn⟩]
          · rw [if_neg (fun x => hi x.1), if_neg (fun x => hi (by omega))]
        · rw [if_neg (fun x => hn x.2), if_neg (fun x => hn x.2)]
    · rw [if_neg h, List.append_nil, ih]
      by_cases hn : needP C n k i
      · have hne : i ≠ m := fun e => h (e ▸ hn)
        by_cases hi : i < m
        · rw [if_pos ⟨hi, hn⟩, if_pos ⟨by omega, hn⟩]
        · rw [if_neg (fun x => hi x.1), if_neg (fun x => by omega)]
      · rw [if_neg (fun x => hn x.2), if_neg (fun x => hn x.2)]
def fwd (b : Nat → Int) : Nat → Int
  | 0 => b 0
  | i + 1 => min (b (i + 1)) (fwd b i + 1)
/-- from the end, t steps back -/
def bwt (f : Nat → Int) (n : Nat) : Nat → Int
  | 0 => f n
  | t + 1 => min (f (n - (t + 1))) (bwt f n t + 1)
theorem fwd_le (b : Nat → Int) : ∀ i, fwd b i ≤ b i
  | 0 => Int.le_refl _
  | i + 1 => by simp only [fwd]; omega
theorem bwt_le (f : Nat → Int) (n : Nat) : ∀ t, bwt f n t ≤ f (n - t)
  | 0 => Int.le_refl _
  | t + 1 => by simp only [bwt]; omega
theorem fwd_ge {b C : Nat → Int} {n : Nat} (hl : Lip C n) (h : ∀ i, i ≤ n → C i ≤ b i) : ∀ i, i ≤ n → C i ≤ fwd b i := by
  intro i
  induction i with
  | zero => intro hi; exact h 0 hi
  | succ i ih =>
    intro hi
    have h1 := ih (by omega); have h2 := h (i + 1) hi; have h3 := hl i (by omega)
    simp only [fwd]; omega
theorem bwt_ge {f C : Nat → Int} {n : Nat} (hl : Lip C n) (h : ∀ i, i ≤ n → C i ≤ f i) : ∀ t, t ≤ n → C (n - t) ≤ bwt f n t := by
  intro t
  induction t with
  | zero => intro _; exact h n (Nat.le_refl _)
  | succ t ih =>
    intro ht
    have h1 := ih (by omega); have h2 := h (n - (t + 1)) (by omega); have h3 := hl (n - (t + 1)) (by omega)
    rw [show n - (t + 1) + 1 = n - t by omega] at h3
    simp only [bwt]; omega
def bs (C : Nat → Int) (n : Nat) (k : Int) (i : Nat) : Int := if needP C n k i then C i else k + 1
theorem fwd_left {C : Nat → Int} {n : Nat} {k : Int} (hl : Lip C n) (hc : ∀ i, i ≤ n → C i ≤ k + 1) : ∀ i, i < n → C i < C (i + 1) → fwd (bs C n k) i ≤ C i := by
  intro i
  induction i with
  | zero =>
    intro h h1
    have h2 := hc 1 h
    simp only [Nat.zero_add] at h1
    have : needP C n k 0 := ⟨by omega, by omega, fun x => by have := x.2; simp only [Nat.zero_add] at this; omega⟩
    have := fwd_le (bs C n k) 0
    simp only [bs, if_pos ‹needP C n k 0›] at this
    exact this
  | succ i ih =>
    intro h h1
    have h2 := hc (i + 1 + 1) h
    by_cases hp : needP C n k (i + 1)
    · have h3 := fwd_le (bs C n k) (i + 1)
      simp only [bs, if_pos hp] at h3
      exact h3
    · have h4 : C i < C (i + 1) := by
        rcases Int.lt_or_le (C i) (C (i + 1)) with x | x
        · exact x
        · exact absurd ⟨by omega, fun y => by have := y.2; rw [Nat.add_sub_cancel] at this; omega, fun y => by have := y.2; omega⟩ hp
      have h5 := ih (by omega) h4
      simp only [fwd]; omega
theorem bwt_right {C : Nat → Int} {n : Nat} {k : Int} (hl : Lip C n) (hc : ∀ i, i ≤ n → C i ≤ k + 1) : ∀ t, t < n → C (n - t) < C (n - t - 1) → bwt (fwd (bs C n k)) n t ≤ C (n - t) := by
  intro t
  induction t with
  | zero =>
    intro h h1
    have h2 := hc (n - 0 - 1) (by omega)
    have hp : needP C n k n := ⟨by simp only [Nat.sub_zero] at h1; have := hc (n - 1) (by omega); omega, fun x => by have := x.2; simp only [Nat.sub_zero] at h1; omega, by omega⟩
    have h3 := fwd_le (bs C n k) n
    simp only [bs, if_pos hp] at h3
    simp only [bwt, Nat.sub_zero]; exact h3
  | succ t ih =>
    intro h h1
    have h2 := hc (n - (t + 1) - 1) (by omega)
    by_cases hp : needP C n k (n - (t + 1))
    · have h3 := fwd_le (bs C n k) (n - (t + 1))
      have h4 := bwt_le (fwd (bs C n k)) n (t + 1)
      simp only [bs, if_pos hp] at h3
      omega
    · have h4 : C (n - t) < C (n - t - 1) := by
        rw [show n - t - 1 = n - (t + 1) by omega]
        rcases Int.lt_or_le (C (n - t)) (C (n - (t + 1))) with x | x
        · exact x
        · refine absurd ⟨by omega, fun y => by have := y.2; omega, fun y => by have := y.2; rw [show n - (t + 1) + 1 = n - t by omega] at this; omega⟩ hp
      have h5 := ih (by omega) h4
      have h6 : C (n - t) + 1 ≤ C (n - (t + 1)) := by rw [show n - t - 1 = n - (t + 1) by omega] at h4; omega
      simp only [bwt]; omega
/-- what is spread out of a row's positions is the row -/
theorem spread_same {C : Nat → Int} {n : Nat} {k : Int} (hl : Lip C n) (hc : ∀ i, i ≤ n → C i ≤ k + 1) : ∀ t, t ≤ n → bwt (fwd (bs C n k)) n t = C (n - t) := by
  intro t ht
  have hb : ∀ i, i ≤ n → C i ≤ bs C n k i := fun i hi => by unfold bs; split; exact Int.le_refl _; exact hc i hi
  have hge := bwt_ge hl (fwd_ge hl hb) t ht
  have hle := bwt_le (fwd (bs C n k)) n t
  have hle2 := fwd_le (bs C n k) (n - t)
  obtain ⟨i, hi⟩ : ∃ i, n - t = i := ⟨_, rfl⟩
  rw [hi] at hge hle hle2 ⊢
  have hin : i ≤ n := by omega
  by_cases hk : C i ≤ k
  · by_cases hp : needP C n k i
    · simp only [bs, if_pos hp] at hle2; omega
    · by_cases h1 : 0 < i ∧ C (i - 1) < C i
      · obtain ⟨j, rfl⟩ : ∃ j, i = j + 1 := ⟨i - 1, by omega⟩
        have h2 := h1.2
        rw [Nat.add_sub_cancel] at h2
        have h3 := fwd_left hl hc j (by omega) h2
        have h4 : fwd (bs C n k) (j + 1) ≤ fwd (bs C n k) j + 1 := by simp only [fwd]; omega
        omega
      · have h2 : i < n ∧ C (i + 1) < C i := by
          by_cases x : i < n ∧ C (i + 1) < C i
          · exact x
          · exact absurd ⟨hk, h1, x⟩ hp
        obtain ⟨u, rfl⟩ : ∃ u, t = u + 1 := ⟨t - 1, by omega⟩
        have h3 := bwt_right hl hc u (by omega) (by rw [show n - u = i + 1 by omega, Nat.add_sub_cancel]; exact h2.2)
        rw [show n - u = i + 1 by omega] at h3
        simp only [bwt] at hge ⊢
        omega
  · have : bs C n k i ≤ k + 1 := by unfold bs; split; exact hc i hin; exact Int.le_refl _
    have := hc i hin
    omega
theorem adv_cap {q p : List Int} {k : Int} {j : Nat} {R : List Int} (hk : 0 ≤ k) (hR : ∀ i, i ≤ q.length → R.getD i 0 = cap q p k j i) : ∀ i, i ≤ q.length → min (Ed.adv R q (p.getD j 0) i) (k + 1) = cap q p k (j + 1) i := by
  intro i
  induction i with
  | zero =>
    intro hi
    rw [Ed.adv, hR 0 hi]
    unfold cap
    rw [Ed.L_zeroL, Ed.L_zeroL]; omega
  | succ i ih =>
    intro hi
    have h1 := ih (by omega)
    rw [Ed.adv, hR i (by omega), hR (i + 1) hi]
    have e : Ed.L q p (i + 1) (j + 1) = min (min (Ed.L q p i j + Ed.cost (q.getD i 0) (p.getD j 0)) (Ed.L q p (i + 1) j + 1)) (Ed.L q p i (j + 1) + 1) := by simp only [Ed.L]
    have h3 := Ed.cost_bd (q.getD i 0) (p.getD j 0)
    unfold cap at h1 ⊢
    rw [e]
    omega
/-! ## how near the whole text is -/
def dmin (s : Ps) (n : Nat) (k : Int) : Int := s.foldl (fun d p => min d (p.2 + n - p.1)) (k + 1)
theorem dmin_snoc (s : Ps) (x : Int × Int) (n : Nat) (k : Int) : dmin (s ++ [x]) n k = min (dmin s n k) (x.2 + n - x.1) := by simp [dmin, List.foldl_append]
theorem dmin_fwd {C : Nat → Int} {n : Nat} {k : Int} : ∀ i, i ≤ n → dmin (needL C n k (i + 1)) n k = min (fwd (bs C n k) i + ((n : Int) - i)) (k + 1) := by
  intro i
  induction i with
  | zero =>
    intro _
    rw [needL_succ, needL_zero, List.nil_append]
    simp only [fwd, bs]
    by_cases h : needP C n k 0
    · simp only [if_pos h, dmin, List.foldl_cons, List.foldl_nil]; omega
    · simp only [if_neg h, dmin, List.foldl_nil]; omega
  | succ i ih =>
    intro hi
    have h1 := ih (by omega)
    rw [needL_succ]
    simp only [fwd]
    by_cases h : needP C n k (i + 1)
    · rw [if_pos h, dmin_snoc, h1]
      have : bs C n k (i + 1) = C (i + 1) := by simp only [bs, if_pos h]
      rw [this]; simp only; omega
    · rw [if_neg h, List.append_nil, h1]
      have : bs C n k (i + 1) = k + 1 := by simp only [bs, if_neg h]
      rw [this]; omega
theorem dmin_whole {C : Nat → Int} {n : Nat} {k : Int} (hl : Lip C n) (hc : ∀ i, i ≤ n → C i ≤ k + 1) : dmin (needL C n k (n + 1)) n k = C n := by
  rw [dmin_fwd n (Nat.le_refl _)]
  have h := spread_same hl hc 0 (by omega)
  simp only [bwt, Nat.sub_zero] at h
  have := hc n (Nat.le_refl _)
  rw [h]; omega
/-! ## the document's way -/
theorem dom_iff {C : Nat → Int} {n : Nat} {k : Int} (hl : Lip C n) {i : Nat} (hi : i ≤ n) (hk : C i ≤ k) :
    (∃ j, j ≤ n ∧ C j ≤ k ∧ C j < C i ∧ max ((i : Int) - j) ((j : Int) - i) ≤ C i - C j) ↔ (0 < i ∧ C (i - 1) < C i) ∨ (i < n ∧ C (i + 1) < C i) := by
  constructor
  · rintro ⟨j, hj, h1, h2, h3⟩
    rcases Nat.lt_trichotomy j i with e | e | e
    · left
      have h4 := lip_chain hl j (i - 1 - j) (by omega)
      rw [show j + (i - 1 - j) = i - 1 by omega] at h4
      exact ⟨by omega, by omega⟩
    · subst e; omega
    · right
      have h4 := lip_chain hl (i + 1) (j - (i + 1)) (by omega)
      rw [show i + 1 + (j - (i + 1)) = j by omega] at h4
      exact ⟨by omega, by omega⟩
  · rintro (⟨h1, h2⟩ | ⟨h1, h2⟩)
    · exact ⟨i - 1, by omega, by omega, h2, by omega⟩
    · exact ⟨i + 1, by omega, by omega, h2, by omega⟩
/-! ## the window -/
theorem need_low {q p : List Int} {k : Int} {j i : Nat} (h : needP (cap q p k j) q.length k i) : (i : Int) - j ≤ cap q p k j i ∧ (j : Int) - i ≤ cap q p k j i ∧ cap q p k j i ≤ k := by
  have h1 := Ed.L_low q p i j
  have h2 := h.1
  unfold cap at h2 ⊢
  omega
theorem range_between (lo hi : Nat) (P : Nat → Bool) (hP : ∀ i, P i = true → lo ≤ i ∧ i < hi) : ∀ m, ((List.range m).filter P).length ≤ min m hi - lo := by
  intro m
  induction m with
  | zero => simp
  | succ m ih =>
    rw [List.range_succ, List.filter_append, List.length_append]
    by_cases h : P m = true
    · have := hP m h
      simp [h]; omega
    · simp [h]; omega
theorem need_len {q p : List Int} {k : Int} {j : Nat} (hk : 0 ≤ k) (m : Nat) : ((needL (cap q p k j) q.length k m).length : Int) ≤ 2 * k + 1 := by
  unfold needL
  rw [List.length_map]
  obtain ⟨K, rfl⟩ : ∃ K : Nat, k = (K : Int) := ⟨k.toNat, by omega⟩
  have := range_between (j - K) (j + K + 1) (fun i => decide (needP (cap q p K j) q.length K i)) (fun i h => by
    have := need_low (of_decide_eq_true h); omega) m
  omega
end Au
end Go.Proofs.Ytolggcdlpiedmaa
/- append at one operation of a region that draws -/
namespace Go.Proofs.Ytolggcdlpiedmaa
open Go.RowKit
set_option linter.unusedVariables false
set_option maxRecDepth 20000
/-- 'append(v, x...)' at one operation, x whatever slice (nil too): the value is a slice of the call's own -/
theorem wp_append_opt {P : Program} {w : World} {o : Oper} {a : Act} {K : Act → World → Prop} {Q : Exit → Act → World → Prop} (s x : Operand) (t : TypeId)
    (ho : o.op = .call { callee := .builtin .append, args := #[s, x], argTypes := #[t, t] })
    (base : Nat) (e : TypeId) (i : TypeInfo) (z : Value) (size bytes : Nat) (ht : P.underlying t = some (.slice e)) (hi : P.info? e = some i) (hz : i.zero = some z)
    (hsize : i.size = size) (hby : i.bytes = bytes) (hzs : z.cells.size = size) (hsz : 0 < size)
    (v : Value) (n : Nat) (xs : List Value) (hs : a.eval s = v) (hown : w.ownsRow base e size v n xs)
    (ao : Option Addr) (m c : Nat) (news : List Value) (hx : a.eval x = .slice ao m c) (hnone : ao = none → m = 0 ∧ c = 0) (hl : news.length = m * size)
    (hnews : ∀ ad, ao = some ad → ∀ j u, news[j]? = some u → w.cell? (ad.add j) = some u) (h1 : ∀ u ∈ news, u.oneCell' = true)
    (h63 : n + m ≤ maxLen) (hbytes : (n + m) * bytes ≤ 140737488355328) (hbase : base ≤ w.heap.size)
    (h : ∀ a' c' w', w'.ownsRow base e size (.slice a' (n + m) c') (n + m) (xs ++ news) → Below base w w' → K (a.put o.dst (.slice a' (n + m) c')) w') : o.wp P a w K Q := by
  have fin : ∀ v' w', w'.ownsRow base e size v' (n + m) (xs ++ news) → Below base w w' → K (a.put o.dst v') w' := by
    intro v' w' ho' hb'
    rcases Joins.ownsRow_forms ho' with ⟨rfl, h0⟩ | ⟨g, cap, rfl⟩
    · have := h none 0 w' (by rw [h0] at ho' ⊢; exact ho') hb'
      rw [h0] at this
      exact this
    · exact h _ _ w' ho' hb'
  cases ao with
  | some ad =>
    refine wp_append_own w s x t ho base e i z size bytes ht hi hz hsize hby hzs hsz v n xs hs hown ad m c news hx hl (hnews ad rfl) h1 h63 hbytes hbase fun v' w' h2 h3 _ => ?_
    exact fin v' w' h2 ((Below.refl base w).grown h3 hbase fun k hk => (hown.lt k hk).1)
  | none =>
    obtain ⟨rfl, rfl⟩ := hnone rfl
    have hn : news = [] := List.eq_nil_of_length_eq_zero (by simpa using hl)
    subst hn
    have hr := run_append_owned_none w base t o.type e i size ht hi v n xs hown
    unfold Oper.wp execOp
    simp only [ho, resolve, invoke, builtin, Sem.run_bind, Sem.run_pure, Result.andThen_ok, List.map_toArray, List.map_cons, List.map_nil, hs, hx, hr]
    exact fin v w (by simpa using hown) (Below.refl _ _)
/-- the first append of a row: onto nil -/
theorem wp_append_first {P : Program} {w : World} {o : Oper} {a : Act} {K : Act → World → Prop} {Q : Exit → Act → World → Prop} (s x : Operand) (t : TypeId)
    (ho : o.op = .call { callee := .builtin .append, args := #[s, x], argTypes := #[t, t] })
    (e : TypeId) (i : TypeInfo) (z : Value) (size bytes : Nat) (ht : P.underlying t = some (.slice e)) (hi : P.info? e = some i) (hz : i.zero = some z)
    (hsize : i.size = size) (hby : i.bytes = bytes) (hzs : z.cells.size = size) (hsz : 0 < size)
    (hs : a.eval s = .slice none 0 0)
    (ao : Option Addr) (m c : Nat) (news : List Value) (hx : a.eval x = .slice ao m c) (hnone : ao = none → m = 0 ∧ c = 0) (hl : news.length = m * size)
    (hnews : ∀ ad, ao = some ad → ∀ j u, news[j]? = some u → w.cell? (ad.add j) = some u) (h1 : ∀ u ∈ news, u.oneCell' = true)
    (h63 : m ≤ maxLen) (hbytes : m * bytes ≤ 140737488355328)
    (h : ∀ a' c' w', w'.ownsRow w.heap.size e size (.slice a' m c') m news → Below w.heap.size w w' → K (a.put o.dst (.slice a' m c')) w') : o.wp P a w K Q := by
  refine wp_append_opt s x t ho w.heap.size e i z size bytes ht hi hz hsize hby hzs hsz (.slice none 0 0) 0 [] hs (World.ownsRow_nil _ _ _ _) ao m c news hx hnone hl hnews h1 (by omega) (by rw [Nat.zero_add]; exact hbytes) (Nat.le_refl _) ?_
  intro a' c' w' h2 h3
  rw [Nat.zero_add] at h2 ⊢
  exact h a' c' w' h2 h3
/-- 'append(v, x...)' at one operation, the sum of the lengths by a name of its own -/
theorem wp_append_n {P : Program} {w : World} {o : Oper} {a : Act} {K : Act → World → Prop} {Q : Exit → Act → World → Prop} (s x : Operand) (t : TypeId)
    (ho : o.op = .call { callee := .builtin .append, args := #[s, x], argTypes := #[t, t] })
    (base : Nat) (e : TypeId) (i : TypeInfo) (z : Value) (size bytes : Nat) (ht : P.underlying t = some (.slice e)) (hi : P.info? e = some i) (hz : i.zero = some z)
    (hsize : i.size = size) (hby : i.bytes = bytes) (hzs : z.cells.size = size) (hsz : 0 < size)
    (v : Value) (n : Nat) (xs : List Value) (hs : a.eval s = v) (hown : w.ownsRow base e size v n xs)
    (ao : Option Addr) (m c : Nat) (news : List Value) (hx : a.eval x = .slice ao m c) (hnone : ao = none → m = 0 ∧ c = 0) (hl : news.length = m * size)
    (hnews : ∀ ad, ao = some ad → ∀ j u, news[j]? = some u → w.cell? (ad.add j) = some u) (h1 : ∀ u ∈ news, u.oneCell' = true) (N : Nat) (hN : n + m = N)
    (h63 : N ≤ maxLen) (hbytes : N * bytes ≤ 140737488355328) (hbase : base ≤ w.heap.size)
    (h : ∀ a' c' w', w'.ownsRow base e size (.slice a' N c') N (xs ++ news) → Below base w w' → K (a.put o.dst (.slice a' N c')) w') : o.wp P a w K Q := by
  subst hN
  exact wp_append_opt s x t ho base e i z size bytes ht hi hz hsize hby hzs hsz v n xs hs hown ao m c news hx hnone hl hnews h1 h63 hbytes hbase h
end Go.Proofs.Ytolggcdlpiedmaa
/- a number, from 0 to below n -/
namespace Go.Proofs.Ytolggcdlpiedmaa
open Go.RowKit
set_option linter.unusedVariables false
set_option maxRecDepth 20000
def lowV (x n : Int) : Int := IntKind.u64.wrap x % n
theorem low_bd (x n : Int) (h : 0 < n) : 0 ≤ lowV x n ∧ lowV x n < n := ⟨Int.emod_nonneg _ (by omega), Int.emod_lt_of_pos _ h⟩
theorem u64_in (n : Int) (h : 0 ≤ n) (h2 : n < 18446744073709551616) : IntKind.u64.wrap n = n := by
  simp only [IntKind.wrap, IntKind.signed, IntKind.bits]; simp; omega
theorem u64_bdL (d : Int) : 0 ≤ IntKind.u64.wrap d ∧ IntKind.u64.wrap d < 18446744073709551616 := by
  simp only [IntKind.wrap, IntKind.signed, IntKind.bits]; simp; omega
theorem low_any (x n : Int) (h : 1 ≤ n) (h2 : n < 4611686018427387904) (w : World) :
    Calls Try.prog 24 #[.int .i64 x, .int .i64 n] w fun e w' => e = .returned (.int .i64 (lowV x n)) ∧ w = w' := by
  have hb := low_bd x n (by omega)
  have hw := u64_in n (by omega) (by omega)
  have hx := u64_bdL x
  go_enter Try.func24, Try.ntmps24
  go_wp2
  go_ret
  exact ⟨ret_int (by unfold lowV at *; rw [IntWalk.wrap64_in _ ⟨by omega, by omega⟩]), rfl⟩
end Go.Proofs.Ytolggcdlpiedmaa
/- lists of positions (two numbers each) -/
namespace Go.Proofs.Ytolggcdlpiedmaa
open Go.RowKit
set_option linter.unusedVariables false
set_option maxRecDepth 20000
abbrev PV := Int × Int
def p0 : PV := (0, 0)
def HoldsP (w : World) (a : Option Addr) (n : Nat) (ks : List PV) : Prop := ks.length = n ∧ (0 < n → ∃ b o, a = some ⟨b, o, none⟩ ∧ ∀ i, i < n → w.cell? ⟨b, o + i * 2, none⟩ = some (.int .i64 (ks.getD i p0).1) ∧ w.cell? ⟨b, o + i * 2 + 1, none⟩ = some (.int .i64 (ks.getD i p0).2))
theorem HoldsP.len {w : World} {a : Option Addr} {n : Nat} {ks : List PV} (h : HoldsP w a n ks) : ks.length = n := h.1
theorem HoldsP.at {w : World} {a : Option Addr} {n : Nat} {ks : List PV} (h : HoldsP w a n ks) (h0 : 0 < n) : ∃ b o, a = some ⟨b, o, none⟩ ∧ ∀ i, i < n → w.cell? ⟨b, o + i * 2, none⟩ = some (.int .i64 (ks.getD i p0).1) ∧ w.cell? ⟨b, o + i * 2 + 1, none⟩ = some (.int .i64 (ks.getD i p0).2) := h.2 h0
theorem HoldsP.nil (w : World) (a : Option Addr) : HoldsP w a 0 [] := ⟨rfl, fun h => absurd h (by omega)⟩
theorem HoldsP.below {w w' : World} {a : Option Addr} {n : Nat} {ks : List PV} (h : HoldsP w a n ks) (hb : Below w.heap.size w w') : HoldsP w' a n ks := by
  refine ⟨h.1, fun h0 => ?_⟩
  obtain ⟨b, o, ha, hc⟩ := h.2 h0
  have hlt := lt_of_cell (hc 0 h0).1
  refine ⟨b, o, ha, fun i hi => ?_⟩
  rw [hb.cell (p := ⟨b, o + i * 2, none⟩) hlt, hb.cell (p := ⟨b, o + i * 2 + 1, none⟩) hlt]
  exact hc i hi
theorem getD_memP (zs : List PV) (j : Nat) (h : j < zs.length) : zs.getD j p0 ∈ zs := by
  rw [List.getD_eq_getElem?_getD, List.getElem?_eq_getElem h]; simp
def posV : List PV → List Value
  | [] => []
  | k :: ks => .int .i64 k.1 :: .int .i64 k.2 :: posV ks
theorem posV_len : ∀ ks : List PV, (posV ks).length = ks.length * 2
  | [] => rfl
  | k :: ks => by simp [posV, posV_len ks]; omega
theorem posV_app : ∀ ks ls : List PV, posV (ks ++ ls) = posV ks ++ posV ls
  | [], ls => rfl
  | k :: ks, ls => by simp [posV, posV_app ks ls]
theorem posV_one : ∀ (ks : List PV), ∀ u ∈ posV ks, u.oneCell' = true
  | [], u, h => by simp [posV] at h
  | k :: ks, u, h => by
    simp only [posV, List.mem_cons] at h
    rcases h with h | h | h
    · subst h; rfl
    · subst h; rfl
    · exact posV_one ks u h
theorem posV_at : ∀ (ks : List PV) (i : Nat), i < ks.length → (posV ks)[i * 2]? = some (.int .i64 (ks.getD i p0).1) ∧ (posV ks)[i * 2 + 1]? = some (.int .i64 (ks.getD i p0).2)
  | [], i, h => by simp at h
  | k :: ks, 0, _ => by simp [posV]
  | k :: ks, i + 1, h => by
    have ih := posV_at ks i (by simpa using h)
    have e1 : (i + 1) * 2 = i * 2 + 1 + 1 := by omega
    rw [e1]
    simpa [posV] using ih
theorem HoldsP.cells {w : World} {b o n : Nat} {ks : List PV} (h : HoldsP w (some ⟨b, o, none⟩) n ks) : ∀ j u, (posV ks)[j]? = some u → w.cell? ((⟨b, o, none⟩ : Addr).add j) = some u := by
  intro j u hj
  have hl := h.len
  have hjl : j < (posV ks).length := by
    rcases Nat.lt_or_ge j (posV ks).length with h' | h'
    · exact h'
    · rw [List.getElem?_eq_none h'] at hj; cases hj
  rw [posV_len] at hjl
  obtain ⟨b', o', ha, hc⟩ := h.at (by omega)
  cases ha
  obtain ⟨c1, c2⟩ := hc (j / 2) (by omega)
  obtain ⟨v1, v2⟩ := posV_at ks (j / 2) (by omega)
  rw [Go.WideShapes.add_plain]
  have hcase : j = j / 2 * 2 ∨ j = j / 2 * 2 + 1 := by omega
  rcases hcase with e | e
  · rw [← e] at v1 c1
    rw [c1, ← hj, v1]
  · have e2 : o + j / 2 * 2 + 1 = o + j := by omega
    rw [← e] at v2
    rw [e2] at c2
    rw [c2, ← hj, v2]
theorem HoldsP.own {w : World} {B : Nat} {e : TypeId} {a : Option Addr} {n c : Nat} {ks : List PV} (h : w.ownsRow B e 2 (.slice a n c) n (posV ks)) : HoldsP w a n ks := by
  have hl : ks.length = n := by have := h.1; rw [posV_len] at this; omega
  refine ⟨hl, fun h0 => ?_⟩
  rcases h.2 with ⟨_, h1⟩ | ⟨g, cap, cur, hv, _, hh, hc, _, hs, hx⟩
  · omega
  · simp only [Value.slice.injEq] at hv
    obtain ⟨rfl, _, rfl⟩ := hv
    refine ⟨g, 0, rfl, fun i hi => ?_⟩
    obtain ⟨v1, v2⟩ := posV_at ks i (by omega)
    rw [← hx] at v1 v2
    rw [List.getElem?_take_of_lt (by omega)] at v1 v2
    rw [Array.getElem?_toList] at v1 v2
    rw [Nat.zero_add, Joins.cell_of_block hh, Joins.cell_of_block hh]
    exact ⟨v1, v2⟩
theorem HoldsP.take {w : World} {a : Option Addr} {n : Nat} {ks : List PV} (h : HoldsP w a n ks) (k : Nat) (hk : k ≤ n) : HoldsP w a k (ks.take k) := by
  have hl := h.len
  refine ⟨by simp; omega, fun h0 => ?_⟩
  obtain ⟨b, o, ha, hc⟩ := h.at (by omega)
  refine ⟨b, o, ha, fun i hi => ?_⟩
  have e : (ks.take k).getD i p0 = ks.getD i p0 := by simp [List.getD_eq_getElem?_getD, List.getElem?_take_of_lt hi]
  rw [e]; exact hc i (by omega)
theorem HoldsP.drop {w : World} {b o n : Nat} {ks : List PV} (h : HoldsP w (some ⟨b, o, none⟩) n ks) (k : Nat) (hk : k ≤ n) : HoldsP w (some ⟨b, o + k * 2, none⟩) (n - k) (ks.drop k) := by
  have hl := h.len
  refine ⟨by simp; omega, fun h0 => ?_⟩
  obtain ⟨b', o', ha, hc⟩ := h.at (by omega)
  cases ha
  refine ⟨b, o + k * 2, rfl, fun i hi => ?_⟩
  have e : (ks.drop k).getD i p0 = ks.getD (k + i) p0 := by simp [List.getD_eq_getElem?_getD]
  obtain ⟨c1, c2⟩ := hc (k + i) (by omega)
  rw [e]
  have e1 : o + k * 2 + i * 2 = o + (k + i) * 2 := by omega
  rw [e1]; exact ⟨c1, c2⟩
theorem HoldsP.cellsAny {w : World} {a : Option Addr} {n : Nat} {ks : List PV} (h : HoldsP w a n ks) {w' : World} (hg : w.grownBy w' none) : ∀ ad, a = some ad → ∀ j u, (posV ks)[j]? = some u → w'.cell? (ad.add j) = some u := by
  intro ad ha j u hj
  have hjl : j < (posV ks).length := (List.getElem?_eq_some_iff.1 hj).1
  rw [posV_len] at hjl
  obtain ⟨b, o, hb, _⟩ := h.at (by have := h.len; omega)
  rw [ha] at hb
  obtain rfl := Option.some.inj hb
  subst ha
  exact hg.cell (h.cells j u hj) (by simp)
theorem HoldsP.cellsAt {w : World} {a : Option Addr} {n : Nat} {ks : List PV} (h : HoldsP w a n ks) : ∀ ad, a = some ad → ∀ j u, (posV ks)[j]? = some u → w.cell? (ad.add j) = some u := HoldsP.cellsAny h ⟨rfl, rfl, rfl, Nat.le_refl _, fun _ _ _ => rfl⟩
theorem posV_snoc (ks : List PV) (k : PV) : posV (ks ++ [k]) = posV ks ++ [.int .i64 k.1, .int .i64 k.2] := by rw [posV_app]; rfl
theorem pos_info : (Try.prog.info? 119).map (fun i => (i.zero, i.size, i.bytes)) = some (some (.agg #[.int .i64 0, .int .i64 0]), 2, 16) := by kernel_rfl
theorem two_newP (w : World) (u v : Value) (e : TypeId) (fr : Nat × Nat) : ∀ ad, (some ⟨w.heap.size, 0, none⟩ : Option Addr) = some ad → ∀ j x, [u, v][j]? = some x → (w.alloc (.cells #[u, v] e fr)).cell? (ad.add j) = some x := by
  intro ad h j x hx
  cases h
  rw [Go.WideShapes.add_plain, Nat.zero_add, World.cell?_alloc_mark]
  simpa using hx
theorem two_oneP (y z : Int) : ∀ u ∈ [Value.int .i64 y, Value.int .i64 z], u.oneCell' = true := by simp [Value.oneCell']
end Go.Proofs.Ytolggcdlpiedmaa
/- contracts of rows: the first row of a table, and a row turned into the next one -/
namespace Go.Proofs.Ytolggcdlpiedmaa
open Go.RowKit
set_option linter.unusedVariables false
set_option maxRecDepth 20000
def intsV (zs : List Int) : List Value := zs.map (Value.int .i64)
theorem int_info : (Try.prog.info? 3).map (fun i => (i.zero, i.size, i.bytes)) = some (some (.int .i64 0), 1, 8) := by kernel_rfl
theorem intsV_set (zs : List Int) (j : Nat) (x : Int) : (intsV zs).set j (.int .i64 x) = intsV (zs.set j x) := by simp [intsV, List.map_set]
theorem intsV_at (zs : List Int) (j : Nat) (h : j < zs.length) : (intsV zs)[j]? = some (.int .i64 (zs.getD j 0)) := by simp [intsV, List.getD_eq_getElem?_getD, h]
theorem intsV_one (zs : List Int) : ∀ u ∈ intsV zs, u.oneCell' = true := ints_oneCell _ _
/-- the numbers from 0 on, the first k; 0 behind them -/
def upTo (n k : Nat) : List Int := (List.range n).map fun i => if i < k then (i : Int) else 0
theorem upTo_set (n k : Nat) (h : k < n) : (upTo n k).set k (k : Int) = upTo n (k + 1) := by
  apply List.ext_getElem
  · simp [upTo]
  · intro i h1 h2
    rw [List.getElem_set]
    simp only [upTo, List.getElem_map, List.getElem_range]
    by_cases e : k = i
    · subst e; simp
    · rw [if_neg e]
      by_cases h3 : i < k
      · simp [h3, show i < k + 1 by omega]
      · simp [h3, show ¬ i < k + 1 by omega]
theorem upTo_zero (n : Nat) : intsV (upTo n 0) = List.replicate n (.int .i64 0) := by
  apply List.ext_getElem
  · simp [intsV, upTo]
  · intro i h1 h2; simp [intsV, upTo]
theorem upTo_row (a b : List Int) : upTo (a.length + 1) (a.length + 1) = Ed.row a b 0 := by
  unfold upTo Ed.row
  refine List.map_congr_left fun i hi => ?_
  have := List.mem_range.1 hi
  rw [if_pos (by omega)]
  cases i with
  | zero => simp only [Ed.L]
  | succ i => simp only [Ed.L]; omega
theorem upTo_length (n k : Nat) : (upTo n k).length = n := by simp [upTo]
set_option maxHeartbeats 400000 in
theorem first_any (m : Nat) (w : World) (hm : m ≤ 1048576) :
    Calls Try.prog 122 #[.int .i64 m] w fun e w' => e = .returned (.slice (some ⟨w.heap.size, 0, none⟩) (m + 1) (m + 1)) ∧ w'.ownsRow w.heap.size 3 1 (.slice (some ⟨w.heap.size, 0, none⟩) (m + 1) (m + 1)) (m + 1) (intsV (upTo (m + 1) (m + 1))) ∧ Below w.heap.size w w' := by
  obtain ⟨i0, hi, hz0, hz1, hz2⟩ := info_parts int_info
  go_enter Try.func122, Try.ntmps122
  go_wp2_with (at_make; refine wpList_make_full _ rfl _ _ 45 rfl w.heap.size 3 i0 (.int .i64 0) 1 Try.underlying45 hi hz0 hz1 _ _ _ _ (m + 1) rfl rfl (by omega) (by omega) (by rw [hz2]; omega) (by unfold maxLen; omega) (Nat.le_refl _) ?_; intro w0 hown0 hgrow0)
  have hB0 := below_grown hgrow0 (by intro k hk; cases hk)
  have ho : w0.ownsRow w.heap.size 3 1 (.slice (some ⟨w.heap.size, 0, none⟩) (m + 1) (m + 1)) (m + 1) (intsV (upTo (m + 1) 0)) := by
    rw [upTo_zero, ← toList_madeCells_one]; rw [Nat.mul_one] at hown0; exact hown0
  have O0 := Lib.hid ho; have B0 := Lib.hid hB0
  clear hown0 hgrow0 ho hB0
  go_loopw [10] (fun i wr => ∃ k : Nat, k ≤ m + 1 ∧ i = .int .i64 k ∧ Hid (wr.ownsRow w.heap.size 3 1 (.slice (some ⟨w.heap.size, 0, none⟩) (m + 1) (m + 1)) (m + 1) (intsV (upTo (m + 1) k))) ∧ Hid (Below w.heap.size w wr)) (fun i _ => m + 1 - (intOf i).toNat)
  case atStart => exact ⟨0, by omega, rfl, O0, B0⟩
  case round =>
    obtain ⟨k, hk, rfl, hO, hB⟩ := hrel
    by_cases hlt : k < m + 1
    · have hc := hO.out.cellAt k (by omega)
      rw [intsV_at _ k (by rw [upTo_length]; exact hlt)] at hc
      have hf := hO.out.frozenAt k
      have hs := (hO.out.stored k (.int .i64 (k : Int))).1
      rw [intsV_set, upTo_set (m + 1) k hlt] at hs
      have HS := Lib.hid hs
      obtain ⟨x, hx⟩ : ∃ x, (upTo (m + 1) k).getD k 0 = x := ⟨_, rfl⟩
      rw [hx] at hc
      clear hs hx
      go_wp2
      go_roundw
      case rel => exact ⟨k + 1, by omega, by go_num, HS, Lib.hid (hB.out.setCell (Nat.le_refl _) _)⟩
      case measure => simp [intOf]; omega
    · obtain rfl : k = m + 1 := by omega
      go_wp2
      go_ret
      exact ⟨rfl, hO.out, hB.out⟩
end Go.Proofs.Ytolggcdlpiedmaa
/- contracts of auto's small functions, and of needed -/
namespace Go.Proofs.Ytolggcdlpiedmaa
open Go.RowKit
set_option linter.unusedVariables false
set_option maxRecDepth 20000
theorem permitted_lit (k : Int) (c : Bool) (w : World) (h : decide (0 ≤ k ∧ k ≤ 4) = c) :
    Calls Try.prog 76 #[.int .i64 k] w fun e w' => e = .returned (.bool c) ∧ w = w' := by
  subst h
  go_enter Try.func76, Try.ntmps76
  go_wp2
  all_goals (go_ret; exact ⟨ret_bool (by simp; try omega), rfl⟩)
theorem dead_any (a : Option Addr) (n c : Nat) (f : Bool) (w : World) (hn : n ≤ 9223372036854775807) (h : decide (n = 0) = f) :
    Calls Try.prog 61 #[.slice a n c] w fun e w' => e = .returned (.bool f) ∧ w = w' := by
  have x1 : ((n : Int) == 0) = f := by rw [← h]; by_cases e : n = 0 <;> simp [e]
  clear h
  go_enter Try.func61, Try.ntmps61
  go_wp2
  go_ret
  exact ⟨rfl, rfl⟩
/-- positions that were answered, the call's own -/
def RetP (w : World) (n : Nat) (ps : List PV) (e : Ending) (w' : World) : Prop := ∃ a c, e = .returned (.slice a n c) ∧ w'.ownsRow w.heap.size 119 2 (.slice a n c) n (posV ps) ∧ Below w.heap.size w w'
theorem retP_own {w w' : World} {a : Option Addr} {c n : Nat} {ys zs : List PV} (h : ys = zs) (hh : w'.ownsRow w.heap.size 119 2 (.slice a n c) n (posV ys)) (hb : Below w.heap.size w w') (v : Value) (hv : v = .slice a n c) : RetP w n zs (.returned v) w' := by
  subst h hv; exact ⟨a, c, rfl, hh, hb⟩
theorem start_yes (a : Option Addr) (n c : Nat) (k : Int) (w : World) (h : 0 ≤ k ∧ k ≤ 4) : Calls Try.prog 55 #[.slice a n c, .int .i64 k] w (RetP w 1 [(0, 0)]) := by
  have CP := Lib.hid (fun w => permitted_lit k true w (decide_eq_true h))
  go_enter Try.func55, Try.ntmps55
  go_wp2_with fail
  refine (CP.out _).mono ?_
  rintro e w' ⟨rfl, rfl⟩
  go_wp2_with fail
  go_ret
  exact retP_own (c := 1) rfl (World.ownsRow_lit w #[.int .i64 0, .int .i64 0] 1 (Nat.le_refl _) (by unfold maxLen; omega) rfl) (below_one _ _) _ rfl
theorem start_no (a : Option Addr) (n c : Nat) (k : Int) (w : World) (h : ¬ (0 ≤ k ∧ k ≤ 4)) : Calls Try.prog 55 #[.slice a n c, .int .i64 k] w (RetP w 0 []) := by
  have CP := Lib.hid (fun w => permitted_lit k false w (decide_eq_false h))
  go_enter Try.func55, Try.ntmps55
  go_wp2_with fail
  refine (CP.out _).mono ?_
  rintro e w' ⟨rfl, rfl⟩
  go_wp2_with fail
  go_ret
  exact retP_own rfl (World.ownsRow_nil _ _ _ _) (Below.refl _ _) _ rfl
theorem within_yes (x y : Int) (a : Option Addr) (n c : Nat) (k : Int) (w : World) (hx : 0 ≤ x ∧ x ≤ n) (hy : 0 ≤ y ∧ y ≤ k) (hn : n ≤ 9223372036854775807) :
    Calls Try.prog 77 #[.agg #[.int .i64 x, .int .i64 y], .slice a n c, .int .i64 k] w fun e w' => e = .returned (.bool true) ∧ Below w.heap.size w w' := by
  obtain ⟨h1, h2⟩ := hx
  obtain ⟨h3, h4⟩ := hy
  have hb := below_one w (.cells #[.int .i64 x, .int .i64 y] 119)
  have HB := Lib.hid hb
  clear hb
  go_enter Try.func77, Try.ntmps77
  go_wp2_with fail
  go_ret
  exact ⟨ret_bool (by simp <;> omega), HB.out⟩
set_option maxRecDepth 100000 in
set_option maxHeartbeats 6400000 in
theorem needed_any (a : Option Addr) (n cap L : Nat) (R : List Int) (k : Int) (ys : List PV) (w : World) (h : HoldsI .i64 w a (n + 1) R) (hb : ∀ i, 0 ≤ R.getD i 0 ∧ R.getD i 0 ≤ 4194304) (hk : 0 ≤ k ∧ k ≤ 4) (hn : n ≤ 1048576)
    (hy : Au.needL (fun i => R.getD i 0) n k (n + 1) = ys) (hL : ys.length = L) :
    Calls Try.prog 83 #[.slice a (n + 1) cap, .int .i64 k] w (RetP w L ys) := by
  obtain ⟨i0, hi, hz0, hz1, hz2⟩ := info_parts pos_info
  have H := Lib.hid h; have HB := Lib.hid hb; have HY := Lib.hid hy; have HL := Lib.hid hL
  obtain ⟨hk0, hk4⟩ := hk
  obtain ⟨N, hN⟩ : ∃ N, n + 1 = N := ⟨_, rfl⟩
  have HN := Lib.hid hN
  rw [hN]
  have hN2 : N ≤ 1048577 := by omega
  clear h hb hy hL hN
  go_enter Try.func83, Try.ntmps83
  go_wp2_with fail
  go_loopw [5, 10] (fun ov iv wr => ∃ (j : Nat) (P : List PV) (av : Option Addr) (cv : Nat), j ≤ N ∧ P.length ≤ j ∧ iv = .int .i64 j ∧ ov = .slice av P.length cv ∧ Hid (P = Au.needL (fun i => R.getD i 0) n k j) ∧ Hid (wr.ownsRow w.heap.size 119 2 (.slice av P.length cv) P.length (posV P)) ∧ Hid (Below w.heap.size w wr)) (fun _ iv _ => N - (intOf iv).toNat)
  case atStart => exact ⟨0, [], none, 0, by omega, by simp, rfl, rfl, Lib.hid rfl, Lib.hid (World.ownsRow_nil _ _ _ _), Lib.hid (Below.refl _ _)⟩
  case round =>
    obtain ⟨j, P, av, cv, hj, hPl, rfl, rfl, hP, hO, hB⟩ := hrel
    by_cases hlt : j < N
    · have Hr := H.out.below hB.out
      rw [HN.out] at Hr
      obtain ⟨bb, o, rfl, hc⟩ := Hr.at (by omega)
      have HC := Lib.hid hc
      have e0 := hc j hlt
      have SU := Lib.hid (Au.needL_succ (fun i => R.getD i 0) n k j)
      have bd := HB.out j
      have HNP := Lib.hid (show Au.needP (fun i => R.getD i 0) n k j ↔ R.getD j 0 ≤ k ∧ ¬ (0 < j ∧ R.getD (j - 1) 0 < R.getD j 0) ∧ ¬ (j < n ∧ R.getD (j + 1) 0 < R.getD j 0) from Iff.rfl)
      obtain ⟨d, hd⟩ : ∃ d, R.getD j 0 = d := ⟨_, rfl⟩
      simp only [hd] at SU HNP
      rw [hd] at e0 bd
      obtain ⟨bd0, bd1⟩ := bd
      have x1 : (0 : Int) ≤ (j : Int) := by omega
      have x2 : (j : Int) < (N : Int) := by omega
      clear hc hd Hr
      by_cases hdk : k < d
      · have hdk2 := hdk
        have hnp : ¬ Au.needP (fun i => R.getD i 0) n k j := fun h => by obtain ⟨h1, h2, h3⟩ := HNP.out.1 h; omega
        have hs := SU.out
        rw [if_neg hnp, List.append_nil, ← hP.out] at hs
        have HS := Lib.hid hs.symm
        clear hnp hs
        go_wp2_with fail
        go_roundw
        case rel => exact ⟨j + 1, P, av, cv, by omega, by omega, by go_num, rfl, HS, hO, hB⟩
        case measure => simp [intOf] <;> omega
      have hdk3 : d ≤ k := by omega
      clear hdk
      by_cases hj0 : j = 0
      · have hj0c := hj0
        subst hj0
        rw [Nat.add_zero] at e0
        have g0 : decide ((0 : Int) > 0) = false := by decide
        by_cases hjn : 0 < n
        · have hjn2 := hjn
          have e2 := HC.out (0 + 1) (by have := HN.out; omega)
          obtain ⟨y, hy⟩ : ∃ y, R.getD (0 + 1) 0 = y := ⟨_, rfl⟩
          rw [hy] at e2
          have bdy := HB.out (0 + 1)
          rw [hy] at bdy
          obtain ⟨by0, by1⟩ := bdy
          have HYY := Lib.hid hy
          have x5 : 0 + 1 < N := by have := HN.out; omega
          simp only [Nat.zero_add] at e2
          clear hy
          by_cases hyl : y < d
          · have hyl2 := hyl
            have hnp : ¬ Au.needP (fun i => R.getD i 0) n k 0 := fun h => by obtain ⟨h1, h2, h3⟩ := HNP.out.1 h; exact h3 ⟨hjn, by rw [HYY.out]; exact hyl⟩
            have hs := SU.out
            rw [if_neg hnp, List.append_nil, ← hP.out] at hs
            have HS := Lib.hid hs.symm
            clear hnp hs
            go_wp2_with fail
            go_roundw
            case rel => exact ⟨0 + 1, P, av, cv, by omega, by omega, by go_num, rfl, HS, hO, hB⟩
            case measure => simp [intOf] <;> omega
          · have x7 := hyl
            have hnp : Au.needP (fun i => R.getD i 0) n k 0 := HNP.out.2 ⟨by omega, fun h => absurd h.1 (by omega), fun h => by have := h.2; rw [HYY.out] at this; omega⟩
            have hs := SU.out
            rw [if_pos hnp, ← hP.out] at hs
            have HS := Lib.hid hs.symm
            clear hnp hs
            go_wp2_with (at_builtin; refine wpList_append_any rfl (.tmp 45) (.tmp 49) 95 rfl w.heap.size 119 i0 _ 2 16 Try.underlying95 hi hz0 hz1 hz2 rfl (by decide) _ P.length _ rfl (hO.out.alloc _) _ 1 1 [.int .i64 ((0 : Nat) : Int), .int .i64 d] rfl (some_none _) rfl (two_newP _ _ _ _ _) (two_oneP _ _) (by unfold maxLen; omega) (by omega) (by have := hB.out.size; simp; omega) ?_; intro a3 c3 w3 hown3 hb3 hnil3)
            have hown4 : w3.ownsRow w.heap.size 119 2 (.slice a3 (P.length + 1) c3) (P.length + 1) (posV (P ++ [(((0 : Nat) : Int), d)])) := by rw [posV_snoc]; exact hown3
            have O3 := Lib.hid hown4
            have B3 := Lib.hid ((hB.out.alloc hB.out.size _).trans hb3)
            clear hown3 hown4 hb3 hnil3
            go_roundw
            case rel => exact ⟨0 + 1, P ++ [(((0 : Nat) : Int), d)], a3, c3, by omega, by rw [List.length_append]; exact Nat.add_le_add_right hPl 1, by go_num, by simp, HS, Lib.hid (by have := O3.out; simpa using this), B3⟩
            case measure => simp [intOf] <;> omega
        · have hjn2 := hjn
          have x5 : ¬ (0 + 1 < N) := by have := HN.out; omega
          have hnp : Au.needP (fun i => R.getD i 0) n k 0 := HNP.out.2 ⟨by omega, fun h => absurd h.1 (by omega), fun h => hjn h.1⟩
          have hs := SU.out
          rw [if_pos hnp, ← hP.out] at hs
          have HS := Lib.hid hs.symm
          clear hnp hs
          go_wp2_with (at_builtin; refine wpList_append_any rfl (.tmp 45) (.tmp 49) 95 rfl w.heap.size 119 i0 _ 2 16 Try.underlying95 hi hz0 hz1 hz2 rfl (by decide) _ P.length _ rfl (hO.out.alloc _) _ 1 1 [.int .i64 ((0 : Nat) : Int), .int .i64 d] rfl (some_none _) rfl (two_newP _ _ _ _ _) (two_oneP _ _) (by unfold maxLen; omega) (by omega) (by have := hB.out.size; simp; omega) ?_; intro a3 c3 w3 hown3 hb3 hnil3)
          have hown4 : w3.ownsRow w.heap.size 119 2 (.slice a3 (P.length + 1) c3) (P.length + 1) (posV (P ++ [(((0 : Nat) : Int), d)])) := by rw [posV_snoc]; exact hown3
          have O3 := Lib.hid hown4
          have B3 := Lib.hid ((hB.out.alloc hB.out.size _).trans hb3)
          clear hown3 hown4 hb3 hnil3
          go_roundw
          case rel => exact ⟨0 + 1, P ++ [(((0 : Nat) : Int), d)], a3, c3, by omega, by rw [List.length_append]; exact Nat.add_le_add_right hPl 1, by go_num, by simp, HS, Lib.hid (by have := O3.out; simpa using this), B3⟩
          case measure => simp [intOf] <;> omega
      · have hj0c := hj0
        have g0 : 0 < j := by omega
        obtain ⟨q, hq⟩ : ∃ q : Nat, j - 1 = q := ⟨_, rfl⟩
        have e1 := HC.out q (by omega)
        obtain ⟨x, hx⟩ : ∃ x, R.getD q 0 = x := ⟨_, rfl⟩
        rw [hx] at e1
        have bdx := HB.out q
        rw [hx] at bdx
        obtain ⟨bx0, bx1⟩ := bdx
        have HXX := Lib.hid hx
        have HQQ := Lib.hid hq
        have hqi : (j : Int) - 1 = (q : Int) := by omega
        have x3 : (0 : Int) ≤ (q : Int) := by omega
        have x4 : (q : Int) < (N : Int) := by omega
        have x8 : q < N := by omega
        clear hx hq
        by_cases hxl : x < d
        · have hxl2 := hxl
          have hnp : ¬ Au.needP (fun i => R.getD i 0) n k j := fun h => by obtain ⟨h1, h2, h3⟩ := HNP.out.1 h; exact h2 ⟨g0, by rw [HQQ.out, HXX.out]; exact hxl⟩
          have hs := SU.out
          rw [if_neg hnp, List.append_nil, ← hP.out] at hs
          have HS := Lib.hid hs.symm
          clear hnp hs
          go_wp2_with fail
          go_roundw
          case rel => exact ⟨j + 1, P, av, cv, by omega, by omega, by go_num, rfl, HS, hO, hB⟩
          case measure => simp [intOf] <;> omega
        · have hxl2 := hxl
          by_cases hjn : j < n
          · have hjn2 := hjn
            have e2 := HC.out (j + 1) (by have := HN.out; omega)
            obtain ⟨y, hy⟩ : ∃ y, R.getD (j + 1) 0 = y := ⟨_, rfl⟩
            rw [hy] at e2
            have bdy := HB.out (j + 1)
            rw [hy] at bdy
            obtain ⟨by0, by1⟩ := bdy
            have HYY := Lib.hid hy
            have x5 : j + 1 < N := by have := HN.out; omega
            have x6 : (j : Int) + 1 < (N : Int) := by omega
            clear hy
            by_cases hyl : y < d
            · have hyl2 := hyl
              have hnp : ¬ Au.needP (fun i => R.getD i 0) n k j := fun h => by obtain ⟨h1, h2, h3⟩ := HNP.out.1 h; exact h3 ⟨hjn, by rw [HYY.out]; exact hyl⟩
              have hs := SU.out
              rw [if_neg hnp, List.append_nil, ← hP.out] at hs
              have HS := Lib.hid hs.symm
              clear hnp hs
              go_wp2_with fail
              go_roundw
              case rel => exact ⟨j + 1, P, av, cv, by omega, by omega, by go_num, rfl, HS, hO, hB⟩
              case measure => simp [intOf] <;> omega
            · have x7 := hyl
              have hnp : Au.needP (fun i => R.getD i 0) n k j := HNP.out.2 ⟨by omega, fun h => by have := h.2; rw [HQQ.out, HXX.out] at this; omega, fun h => by have := h.2; rw [HYY.out] at this; omega⟩
              have hs := SU.out
              rw [if_pos hnp, ← hP.out] at hs
              have HS := Lib.hid hs.symm
              clear hnp hs
              go_wp2_with (at_builtin; refine wpList_append_any rfl (.tmp 45) (.tmp 49) 95 rfl w.heap.size 119 i0 _ 2 16 Try.underlying95 hi hz0 hz1 hz2 rfl (by decide) _ P.length _ rfl (hO.out.alloc _) _ 1 1 [.int .i64 j, .int .i64 d] rfl (some_none _) rfl (two_newP _ _ _ _ _) (two_oneP _ _) (by unfold maxLen; omega) (by omega) (by have := hB.out.size; simp; omega) ?_; intro a3 c3 w3 hown3 hb3 hnil3)
              have hown4 : w3.ownsRow w.heap.size 119 2 (.slice a3 (P.length + 1) c3) (P.length + 1) (posV (P ++ [((j : Int), d)])) := by rw [posV_snoc]; exact hown3
              have O3 := Lib.hid hown4
              have B3 := Lib.hid ((hB.out.alloc hB.out.size _).trans hb3)
              clear hown3 hown4 hb3 hnil3
              go_roundw
              case rel => exact ⟨j + 1, P ++ [((j : Int), d)], a3, c3, by omega, by rw [List.length_append]; exact Nat.add_le_add_right hPl 1, by go_num, by simp, HS, Lib.hid (by have := O3.out; simpa using this), B3⟩
              case measure => simp [intOf] <;> omega
          · have hjn2 := hjn
            have x5 : ¬ (j + 1 < N) := by have := HN.out; omega
            have hnp : Au.needP (fun i => R.getD i 0) n k j := HNP.out.2 ⟨by omega, fun h => by have := h.2; rw [HQQ.out, HXX.out] at this; omega, fun h => hjn h.1⟩
            have hs := SU.out
            rw [if_pos hnp, ← hP.out] at hs
            have HS := Lib.hid hs.symm
            clear hnp hs
            go_wp2_with (at_builtin; refine wpList_append_any rfl (.tmp 45) (.tmp 49) 95 rfl w.heap.size 119 i0 _ 2 16 Try.underlying95 hi hz0 hz1 hz2 rfl (by decide) _ P.length _ rfl (hO.out.alloc _) _ 1 1 [.int .i64 j, .int .i64 d] rfl (some_none _) rfl (two_newP _ _ _ _ _) (two_oneP _ _) (by unfold maxLen; omega) (by omega) (by have := hB.out.size; simp; omega) ?_; intro a3 c3 w3 hown3 hb3 hnil3)
            have hown4 : w3.ownsRow w.heap.size 119 2 (.slice a3 (P.length + 1) c3) (P.length + 1) (posV (P ++ [((j : Int), d)])) := by rw [posV_snoc]; exact hown3
            have O3 := Lib.hid hown4
            have B3 := Lib.hid ((hB.out.alloc hB.out.size _).trans hb3)
            clear hown3 hown4 hb3 hnil3
            go_roundw
            case rel => exact ⟨j + 1, P ++ [((j : Int), d)], a3, c3, by omega, by rw [List.length_append]; exact Nat.add_le_add_right hPl 1, by go_num, by simp, HS, Lib.hid (by have := O3.out; simpa using this), B3⟩
            case measure => simp [intOf] <;> omega
    · obtain rfl : j = N := by omega
      have e := hP.out
      rw [← HN.out, HY.out] at e
      have hl : P.length = L := by rw [e]; exact HL.out
      have HE := Lib.hid e
      clear e
      rw [hl] at hO
      simp only [hl]
      clear hl
      go_wp2_with fail
      go_ret
      exact retP_own HE.out hO.out hB.out _ rfl
end Go.Proofs.Ytolggcdlpiedmaa
/- contract of rows.Advance: a row of a table turned into the next one, in place -/
namespace Go.Proofs.Ytolggcdlpiedmaa
open Go.RowKit
set_option linter.unusedVariables false
set_option maxRecDepth 20000
theorem cost_eq (x : Int) : Ed.cost x x = 0 := by simp [Ed.cost]
theorem cost_ne {x y : Int} (h : x ≠ y) : Ed.cost x y = 1 := by simp [Ed.cost, h]
theorem store_grown (w : World) (g i : Nat) (v : Value) : w.grownBy (w.setCell ⟨g, i, none⟩ v) (some g) :=
  ⟨rfl, rfl, rfl, by simp [World.setCell], fun k _ hk => Below.heap_setCell _ _ _ _ (fun e => hk (by rw [e]))⟩
theorem grown_trans {a b c : World} {r : Option Nat} (h : a.grownBy b r) (k : b.grownBy c r) : a.grownBy c r :=
  ⟨k.os.trans h.os, k.tape.trans h.tape, k.output.trans h.output, Nat.le_trans h.size k.size, fun i hi hr => (k.block i (Nat.lt_of_lt_of_le hi h.size) hr).trans (h.block i hi hr)⟩
theorem own_val {w : World} {p : Addr} {base : Nat} {e : TypeId} {size : Nat} {v : Value} {n : Nat} {xs : List Value} {V x : Int} (h : (w.setCell p (.int .i64 V)).ownsRow base e size v n xs) (hx : x = V) : (w.setCell p (.int .i64 x)).ownsRow base e size v n xs := by
  rw [hx]; exact h
set_option maxHeartbeats 1600000 in
theorem advance_any (B g cap m : Nat) (R ra : List Int) (a : Option Addr) (acap : Nat) (r : Int) (w : World) (h : w.ownsRow B 3 1 (.slice (some ⟨g, 0, none⟩) (m + 1) cap) (m + 1) (intsV R))
    (ha : HoldsI .i32 w a m ra) (hne : ∀ b o, 0 < m → a = some ⟨b, o, none⟩ → b ≠ g) (hR : ∀ i, 0 ≤ R.getD i 0 ∧ R.getD i 0 ≤ 4194304) (hm : m ≤ 1048576) :
    Calls Try.prog 82 #[.slice (some ⟨g, 0, none⟩) (m + 1) cap, .slice a m acap, .int .i32 r] w fun e w' => e = .returned (.tuple #[]) ∧
      w'.ownsRow B 3 1 (.slice (some ⟨g, 0, none⟩) (m + 1) cap) (m + 1) (intsV (Ed.mix R ra r m)) ∧ w.grownBy w' (some g) := by
  have hlR : R.length = m + 1 := by have := h.1; simpa [intsV] using this
  have hla := ha.len
  have hbd := Ed.adv_bd R ra r 4194304 (by decide) hR
  have HR := Lib.hid hR; have HBD := Lib.hid hbd; have HLR := Lib.hid hlR; have HLA := Lib.hid hla; have HA := Lib.hid ha; have HNE := Lib.hid hne; have H := Lib.hid h
  have hc0 := h.cellAt 0 (by omega)
  rw [intsV_at _ 0 (by omega)] at hc0
  have hf0 := h.frozenAt 0
  have hs0 := (h.stored 0 (.int .i64 (R.getD 0 0 + 1))).1
  rw [intsV_set, Ed.mix_zero R ra r (by omega)] at hs0
  have HS0 := Lib.hid hs0
  have b0 := hR 0
  obtain ⟨x0, hx0⟩ : ∃ x, R.getD 0 0 = x := ⟨_, rfl⟩
  rw [hx0] at hc0 b0
  have HX0 := Lib.hid hx0
  clear hs0 hx0 hR hbd hlR hla ha hne h
  go_enter Try.func82, Try.ntmps82
  go_wp2
  go_loopw [6, 20] (fun ab i wr => ∃ k : Nat, k ≤ m ∧ i = .int .i64 k ∧ ab = .int .i64 (R.getD k 0) ∧ Hid (wr.ownsRow B 3 1 (.slice (some ⟨g, 0, none⟩) (m + 1) cap) (m + 1) (intsV (Ed.mix R ra r k))) ∧ Hid (w.grownBy wr (some g))) (fun _ i _ => m - (intOf i).toNat)
  case atStart => exact ⟨0, by omega, rfl, by rw [HX0.out], by rw [← HX0.out]; exact HS0, Lib.hid (store_grown w g 0 _)⟩
  case round =>
    obtain ⟨k, hk, rfl, rfl, hO, hG⟩ := hrel
    by_cases hlt : k < m
    · obtain ⟨ba, oa, rfl, hca⟩ := HA.out.at (by omega)
      have hbg : ba ≠ g := HNE.out ba oa (by omega) rfl
      have e1 := hca k hlt
      have hba := lt_of_cell e1
      have ea : wr.cell? ⟨ba, oa + k, none⟩ = some (.int .i32 (ra.getD k 0)) := by
        rw [World.cell?_of_block (w := w) (hG.out.block ba hba (by intro e; injection e with e; exact hbg e))]; exact e1
      have hk1 := hO.out.cellAt (k + 1) (by omega)
      rw [intsV_at _ (k + 1) (by rw [Ed.mix_length, HLR.out]; omega), Ed.mix_old R ra r k (k + 1) (by rw [HLR.out]; omega) (by omega)] at hk1
      have hk0 := hO.out.cellAt k (by omega)
      rw [intsV_at _ k (by rw [Ed.mix_length, HLR.out]; omega), Ed.mix_new R ra r k k (by rw [HLR.out]; omega) (by omega)] at hk0
      have hf1 := hO.out.frozenAt (k + 1)
      have hst := (hO.out.stored (k + 1) (.int .i64 (Ed.adv R ra r (k + 1)))).1
      rw [intsV_set, Ed.mix_set R ra r k (by rw [HLR.out]; omega)] at hst
      have hadv : Ed.adv R ra r (k + 1) = min (min (R.getD k 0 + Ed.cost (ra.getD k 0) r) (R.getD (k + 1) 0 + 1)) (Ed.adv R ra r k + 1) := rfl
      have q0 := HR.out k; have q1 := HR.out (k + 1); have q2 := HBD.out k
      have HST := Lib.hid hst
      obtain ⟨V, hV⟩ : ∃ V, Ed.adv R ra r (k + 1) = V := ⟨_, rfl⟩
      obtain ⟨c, hc⟩ : ∃ c, ra.getD k 0 = c := ⟨_, rfl⟩
      obtain ⟨x, hx⟩ : ∃ x, R.getD k 0 = x := ⟨_, rfl⟩
      obtain ⟨y, hy⟩ : ∃ y, R.getD (k + 1) 0 = y := ⟨_, rfl⟩
      obtain ⟨z, hz⟩ : ∃ z, Ed.adv R ra r k = z := ⟨_, rfl⟩
      rw [hV] at HST hadv
      rw [hc] at ea hadv; rw [hx] at q0 hadv ⊢; rw [hy] at hk1 q1 hadv; rw [hz] at hk0 q2 hadv
      have HY := Lib.hid hy
      clear hst hV hc hx hy hz e1 hca hc0 hf0
      by_cases hcr : c = r
      · subst hcr
        rw [cost_eq] at hadv
        have HADV := Lib.hid hadv
        clear hadv
        go_wp2
        all_goals (
          go_roundw
          case rel => exact ⟨k + 1, by omega, by go_num, by rw [HY.out], Lib.hid (own_val HST.out (by have e := HADV.out; omega)), Lib.hid (grown_trans hG.out (store_grown wr g (k + 1) _))⟩
          case measure => simp [intOf]; omega)
      · rw [cost_ne hcr] at hadv
        have hb : (c != r) = true := by simpa using hcr
        have HADV := Lib.hid hadv
        clear hadv hcr
        go_wp2
        all_goals (
          go_roundw
          case rel => exact ⟨k + 1, by omega, by go_num, by rw [HY.out], Lib.hid (own_val HST.out (by have e := HADV.out; omega)), Lib.hid (grown_trans hG.out (store_grown wr g (k + 1) _))⟩
          case measure => simp [intOf]; omega)
    · obtain rfl : k = m := by omega
      go_wp2
      go_end0
      exact ⟨rfl, hO.out, hG.out⟩
end Go.Proofs.Ytolggcdlpiedmaa
/- contract of auto.spread -/
namespace Go.Proofs.Ytolggcdlpiedmaa
open Go.RowKit
set_option linter.unusedVariables false
set_option maxRecDepth 20000
def rwF (f : Nat → Int) (N : Nat) : List Int := (List.range N).map f
def updF (f : Nat → Int) (i : Nat) (v : Int) : Nat → Int := fun j => if j = i then v else f j
theorem rwF_len (f : Nat → Int) (N : Nat) : (rwF f N).length = N := by simp [rwF]
theorem rwF_getD {f : Nat → Int} {N i : Nat} (h : i < N) : (rwF f N).getD i 0 = f i := by simp [rwF, List.getD_eq_getElem?_getD, h]
theorem rwF_out {f : Nat → Int} {N i : Nat} (h : N ≤ i) : (rwF f N).getD i 0 = 0 := by simp [rwF, List.getD_eq_getElem?_getD, h]
theorem rwF_set (f : Nat → Int) (N i : Nat) (v : Int) : (rwF f N).set i v = rwF (updF f i v) N := by
  apply List.ext_getElem
  · simp [rwF]
  · intro j h1 h2
    rw [List.getElem_set]
    simp only [rwF, List.getElem_map, List.getElem_range, updF]
    by_cases e : i = j
    · subst e; simp
    · rw [if_neg e, if_neg (fun x => e x.symm)]
theorem rwF_congr {f g : Nat → Int} {N : Nat} (h : ∀ i, i < N → f i = g i) : rwF f N = rwF g N := List.map_congr_left fun i hi => h i (List.mem_range.1 hi)
theorem rwF_at {f : Nat → Int} {N i : Nat} (h : i < N) : (intsV (rwF f N))[i]? = some (.int .i64 (f i)) := by rw [intsV_at _ i (by rw [rwF_len]; exact h), rwF_getD h]
/-- the cell of a row that the call made, and the row with it set -/
theorem row_step {w : World} {B g N cap : Nat} {f h : Nat → Int} (o : w.ownsRow B 3 1 (.slice (some ⟨g, 0, none⟩) N cap) N (intsV (rwF f N))) (i : Nat) (hi : i < N) (v : Int) (e : ∀ j, j < N → updF f i v j = h j) :
    w.cell? ⟨g, i, none⟩ = some (.int .i64 (f i)) ∧ w.frozen? ⟨g, i, none⟩ = false ∧ (w.setCell ⟨g, i, none⟩ (.int .i64 v)).ownsRow B 3 1 (.slice (some ⟨g, 0, none⟩) N cap) N (intsV (rwF h N)) := by
  have h1 := o.cellAt i (by omega)
  rw [rwF_at hi] at h1
  have h2 := (o.stored i (.int .i64 v)).1
  rw [intsV_set, rwF_set, rwF_congr e] at h2
  exact ⟨h1, o.frozenAt i, h2⟩
def PosOk (n : Nat) (k : Int) (s : List PV) : Prop := ∀ x ∈ s, (0 ≤ x.1 ∧ x.1 ≤ (n : Int)) ∧ 0 ≤ x.2 ∧ x.2 ≤ k
theorem base_bd {n : Nat} {k : Int} (hk : 0 ≤ k) (i : Nat) : ∀ s : List PV, PosOk n k s → 0 ≤ Au.base s k i ∧ Au.base s k i ≤ k + 1 := by
  have h : ∀ (s : List PV) (d : Int), PosOk n k s → 0 ≤ d → d ≤ k + 1 → 0 ≤ s.foldl (fun d p => if p.1 = (i : Int) then min d p.2 else d) d ∧ s.foldl (fun d p => if p.1 = (i : Int) then min d p.2 else d) d ≤ k + 1 := by
    intro s
    induction s with
    | nil => intro d _ h1 h2; exact ⟨h1, h2⟩
    | cons x s ih =>
      intro d hs h1 h2
      have hx := hs x (by simp)
      rw [List.foldl_cons]
      refine ih _ (fun y hy => hs y (by simp [hy])) ?_ ?_
      · split <;> omega
      · split <;> omega
  exact fun s hs => h s (k + 1) hs (by omega) (Int.le_refl _)
theorem fwd_bd {b : Nat → Int} {k : Int} (h : ∀ i, 0 ≤ b i ∧ b i ≤ k + 1) : ∀ i, 0 ≤ Au.fwd b i ∧ Au.fwd b i ≤ k + 1 := by
  intro i
  induction i with
  | zero => exact h 0
  | succ i ih => have := h (i + 1); simp only [Au.fwd]; omega
theorem bwt_bd {f : Nat → Int} {k : Int} (n : Nat) (h : ∀ i, 0 ≤ f i ∧ f i ≤ k + 1) : ∀ t, 0 ≤ Au.bwt f n t ∧ Au.bwt f n t ≤ k + 1 := by
  intro t
  induction t with
  | zero => exact h n
  | succ t ih => have := h (n - (t + 1)); simp only [Au.bwt]; omega
/-- the row spread out of positions -/
def sprF (s : List PV) (k : Int) (n i : Nat) : Int := Au.bwt (Au.fwd (Au.base s k)) n (n - i)
theorem zeroRow (N : Nat) : intsV (rwF (fun _ => 0) N) = List.replicate N (.int .i64 0) := by
  apply List.ext_getElem
  · simp [intsV, rwF]
  · intro i h1 h2; simp [intsV, rwF]
set_option maxRecDepth 100000 in
set_option maxHeartbeats 6400000 in
theorem spread_any (a : Option Addr) (n c : Nat) (sa : Option Addr) (L sc : Nat) (s : List PV) (k : Int) (w : World) (h : HoldsP w sa L s) (hs : PosOk n k s) (hk : 0 ≤ k ∧ k ≤ 4) (hn : n ≤ 1048576) (hL : L ≤ 1048576) :
    Calls Try.prog 81 #[.slice a n c, .int .i64 k, .slice sa L sc] w fun e w' => e = .returned (.slice (some ⟨w.heap.size, 0, none⟩) (n + 1) (n + 1)) ∧ w'.ownsRow w.heap.size 3 1 (.slice (some ⟨w.heap.size, 0, none⟩) (n + 1) (n + 1)) (n + 1) (intsV (rwF (sprF s k n) (n + 1))) ∧ Below w.heap.size w w' := by
  obtain ⟨i0, hi, hz0, hz1, hz2⟩ := info_parts int_info
  obtain ⟨hk0, hk4⟩ := hk
  have H := Lib.hid h; have HS := Lib.hid hs; have LS := Lib.hid h.len
  have BB := Lib.hid (fun i t => base_bd (n := n) hk0 i (s.take t) (fun x hx => hs x (List.mem_of_mem_take hx)))
  have BF := Lib.hid (fwd_bd (b := Au.base s k) (k := k) (fun i => base_bd (n := n) hk0 i s hs))
  have BW := Lib.hid (bwt_bd (f := Au.fwd (Au.base s k)) (k := k) n BF.out)
  clear h hs
  go_enter Try.func81, Try.ntmps81
  go_wp2_with (at_make; refine wpList_make_full _ rfl _ _ 45 rfl w.heap.size 3 i0 (.int .i64 0) 1 Try.underlying45 hi hz0 hz1 _ _ _ _ (n + 1) rfl rfl (by omega) (by omega) (by rw [hz2]; omega) (by unfold maxLen; omega) (Nat.le_refl _) ?_; intro w0 hown0 hgrow0)
  have hB0 := below_grown hgrow0 (by intro k hk; cases hk)
  have ho : w0.ownsRow w.heap.size 3 1 (.slice (some ⟨w.heap.size, 0, none⟩) (n + 1) (n + 1)) (n + 1) (intsV (rwF (fun i => if i < 0 then k + 1 else 0) (n + 1))) := by
    have e : rwF (fun i => if i < 0 then k + 1 else 0) (n + 1) = rwF (fun _ => 0) (n + 1) := rwF_congr fun i _ => if_neg (by omega)
    rw [e, zeroRow, ← toList_madeCells_one]; rw [Nat.mul_one] at hown0; exact hown0
  have O0 := Lib.hid ho; have B0 := Lib.hid hB0
  clear hown0 hgrow0 ho hB0
  go_loopw [19] (fun iv wr => ∃ j : Nat, j ≤ n + 1 ∧ iv = .int .i64 j ∧ Hid (wr.ownsRow w.heap.size 3 1 (.slice (some ⟨w.heap.size, 0, none⟩) (n + 1) (n + 1)) (n + 1) (intsV (rwF (fun i => if i < j then k + 1 else 0) (n + 1)))) ∧ Hid (Below w.heap.size w wr)) (fun iv _ => n + 1 - (intOf iv).toNat)
  case atStart => exact ⟨0, by omega, rfl, O0, B0⟩
  case round =>
    obtain ⟨j, hj, rfl, hO, hB⟩ := hrel
    by_cases hlt : j < n + 1
    · obtain ⟨c0, f0, st⟩ := row_step (h := fun i => if i < j + 1 then k + 1 else 0) hO.out j hlt (k + 1) (fun i _ => by
        unfold updF
        by_cases e : i = j
        · subst e; rw [if_pos rfl, if_pos (by omega)]
        · rw [if_neg e]
          show (if i < j then k + 1 else 0) = _
          by_cases e2 : i < j
          · rw [if_pos e2, if_pos (by omega)]
          · rw [if_neg e2, if_neg (by omega)])
      obtain ⟨z, hz⟩ : ∃ z, (if j < j then k + 1 else (0 : Int)) = z := ⟨_, rfl⟩
      simp only [hz] at c0
      have ST := Lib.hid st
      clear st hz
      go_wp2_with fail
      go_roundw
      case rel => exact ⟨j + 1, by omega, by go_num, ST, Lib.hid (hB.out.setCell (Nat.le_refl _) _)⟩
      case measure => simp [intOf] <;> omega
    · obtain rfl : j = n + 1 := by omega
      have O1 := Lib.hid (show wr.ownsRow w.heap.size 3 1 (.slice (some ⟨w.heap.size, 0, none⟩) (n + 1) (n + 1)) (n + 1) (intsV (rwF (Au.base (s.take 0) k) (n + 1))) from by
        rw [rwF_congr (g := fun i => if i < n + 1 then k + 1 else 0) (fun i hi => by simp [Au.base, hi])]; exact hO.out)
      have B1 := Lib.hid hB.out
      clear hO hB O0 B0
      go_wp2_with fail
      go_loopw [30] (fun iv wr => ∃ t : Nat, t ≤ L ∧ iv = .int .i64 t ∧ Hid (wr.ownsRow w.heap.size 3 1 (.slice (some ⟨w.heap.size, 0, none⟩) (n + 1) (n + 1)) (n + 1) (intsV (rwF (Au.base (s.take t) k) (n + 1)))) ∧ Hid (Below w.heap.size w wr)) (fun iv _ => L - (intOf iv).toNat)
      case atStart => exact ⟨0, by omega, rfl, O1, B1⟩
      case round =>
        obtain ⟨t, ht, rfl, hO, hB⟩ := hrel
        by_cases hlt2 : t < L
        · obtain ⟨bs, os, rfl, hc⟩ := (H.out.below hB.out).at (by omega)
          obtain ⟨p0', p1'⟩ := hc t hlt2
          have hok := HS.out _ (getD_memP s t (by have := LS.out; omega))
          have htk := take_succ_getD s p0 t (by have := LS.out; omega)
          obtain ⟨x, hx⟩ : ∃ x, s.getD t p0 = x := ⟨_, rfl⟩
          rw [hx] at p0' p1' hok htk
          obtain ⟨x1, x2⟩ := x
          simp only at p0' p1' hok
          obtain ⟨⟨hx0, hxn⟩, hd0, hdk⟩ := hok
          obtain ⟨u, rfl⟩ : ∃ u : Nat, x1 = (u : Int) := ⟨x1.toNat, by omega⟩
          have hu : u < n + 1 := by omega
          have bb := BB.out u t
          obtain ⟨R, hR⟩ : ∃ R, Au.base (s.take t) k u = R := ⟨_, rfl⟩
          rw [hR] at bb
          obtain ⟨bb0, bb1⟩ := bb
          have TK := Lib.hid htk
          have HR := Lib.hid hR
          have CW := Lib.hid (fun w => within_yes (u : Int) x2 a n c k w ⟨hx0, hxn⟩ ⟨hd0, hdk⟩ (by omega))
          have b1 := below_one wr (.cells #[.int .i64 u, .int .i64 x2] 119)
          have g0 : (wr.alloc (.cells #[.int .i64 u, .int .i64 x2] 119)).cell? ⟨wr.heap.size, 0, none⟩ = some (.int .i64 u) := by rw [World.cell?_alloc_mark]; rfl
          have g1 : (wr.alloc (.cells #[.int .i64 u, .int .i64 x2] 119)).cell? ⟨wr.heap.size, 1, none⟩ = some (.int .i64 x2) := by rw [World.cell?_alloc_mark]; rfl
          have OA := Lib.hid (owns_below hO.out b1)
          have BA := Lib.hid (hB.out.trans (b1.mono hB.out.size))
          clear hc hx htk hR hO hB
          go_upto_region 10 with fail
          clear b1 p0' p1'
          generalize wr.alloc (.cells #[.int .i64 u, .int .i64 x2] 119) = wa at *
          generalize wr.heap.size = r at *
          go_wp2_with fail
          refine (CW.out _).mono ?_
          rintro e wb ⟨rfl, hb⟩
          have q0 := (hb.cell (p := ⟨r, 0, none⟩) (lt_of_cell g0)).trans g0
          have q1 := (hb.cell (p := ⟨r, 1, none⟩) (lt_of_cell g0)).trans g1
          have OB := Lib.hid (owns_below OA.out hb)
          have BC := Lib.hid (BA.out.trans (hb.mono BA.out.size))
          clear hb g0 g1 OA BA
          obtain ⟨c0, f0, st⟩ := row_step (h := Au.base (s.take (t + 1)) k) OB.out u hu (min R x2) (fun i _ => by
            rw [TK.out, Au.base_snoc]
            unfold updF
            by_cases e : i = u
            · subst e; rw [if_pos rfl, if_pos rfl, HR.out]
            · rw [if_neg e, if_neg (by simp only; omega)])
          rw [HR.out] at c0
          have ST := Lib.hid st
          have z1 : (u : Int) < (n : Int) + 1 := by omega
          clear st
          by_cases hmin : x2 < R
          · have em : min R x2 = x2 := by omega
            rw [em] at ST
            clear em
            go_upto_region 11 with fail
            go_region
            all_goals
              go_wp2_with fail
              go_roundw
              case rel => ((repeat apply Exists.intro); exact ⟨⟨t + 1, by omega, by go_num, Lib.hid (owns_below ST.out (Below.refl _ _).drew), Lib.hid ((BC.out.setCell (p := ⟨w.heap.size, u, none⟩) (Nat.le_refl _) _).drew)⟩, rfl⟩)
              case measure => simp [intOf] <;> omega
          · have em : min R x2 = R := by omega
            rw [em] at ST
            clear em
            go_upto_region 11 with fail
            go_region
            all_goals
              go_wp2_with fail
              go_roundw
              case rel => ((repeat apply Exists.intro); exact ⟨⟨t + 1, by omega, by go_num, Lib.hid (owns_below ST.out (Below.refl _ _).drew), Lib.hid ((BC.out.setCell (p := ⟨w.heap.size, u, none⟩) (Nat.le_refl _) _).drew)⟩, rfl⟩)
              case measure => simp [intOf] <;> omega
        · obtain rfl : t = L := by omega
          have O2 := Lib.hid (show wr.ownsRow w.heap.size 3 1 (.slice (some ⟨w.heap.size, 0, none⟩) (n + 1) (n + 1)) (n + 1) (intsV (rwF (fun i => if i ≤ 0 then Au.fwd (Au.base s k) i else Au.base s k i) (n + 1))) from by
            rw [rwF_congr (g := Au.base (s.take t) k) (fun i hi => by
              rw [List.take_of_length_le (by have := LS.out; omega)]
              by_cases e : i ≤ 0
              · obtain rfl : i = 0 := by omega
                rw [if_pos (Nat.le_refl _)]; rfl
              · rw [if_neg e])]; exact hO.out)
          have B2 := Lib.hid hB.out
          clear hO hB O1 B1
          go_wp2_with fail
          go_loopw [53] (fun iv wr => ∃ j : Nat, j ≤ n ∧ iv = .int .i64 j ∧ Hid (wr.ownsRow w.heap.size 3 1 (.slice (some ⟨w.heap.size, 0, none⟩) (n + 1) (n + 1)) (n + 1) (intsV (rwF (fun i => if i ≤ j then Au.fwd (Au.base s k) i else Au.base s k i) (n + 1)))) ∧ Hid (Below w.heap.size w wr)) (fun iv _ => n - (intOf iv).toNat)
          case atStart => exact ⟨0, by omega, rfl, O2, B2⟩
          case round =>
            obtain ⟨j, hj3, rfl, hO, hB⟩ := hrel
            by_cases hlt3 : j < n
            · have b0 := fwd_bd (b := Au.base s k) (k := k) (fun i => by have := BB.out i s.length; rwa [List.take_length] at this) j
              have b1 := BB.out (j + 1) s.length
              rw [List.take_length] at b1
              obtain ⟨X, hX⟩ : ∃ X, Au.fwd (Au.base s k) j = X := ⟨_, rfl⟩
              obtain ⟨Y, hY⟩ : ∃ Y, Au.base s k (j + 1) = Y := ⟨_, rfl⟩
              rw [hX] at b0; rw [hY] at b1
              obtain ⟨bx0, bx1⟩ := b0
              obtain ⟨by0, by1⟩ := b1
              obtain ⟨c0, _, _⟩ := row_step (h := fun i => if i ≤ j then Au.fwd (Au.base s k) i else Au.base s k i) hO.out j (by omega) X (fun i _ => by
                unfold updF
                by_cases e : i = j
                · subst e; rw [if_pos rfl, if_pos (Nat.le_refl _), hX]
                · rw [if_neg e])
              obtain ⟨c1, f1, st⟩ := row_step (h := fun i => if i ≤ j + 1 then Au.fwd (Au.base s k) i else Au.base s k i) hO.out (j + 1) (by omega) (min Y (X + 1)) (fun i _ => by
                unfold updF
                by_cases e : i = j + 1
                · subst e; rw [if_pos rfl, if_pos (Nat.le_refl _)]; simp only [Au.fwd, hX, hY]
                · rw [if_neg e]
                  show (if i ≤ j then _ else _) = _
                  by_cases e2 : i ≤ j
                  · rw [if_pos e2, if_pos (by omega)]
                  · rw [if_neg e2, if_neg (by omega)])
              simp only [Nat.le_refl, if_true, hX] at c0
              rw [if_neg (by omega), hY] at c1
              have ST := Lib.hid st
              have BC := Lib.hid hB.out
              have HXY := Lib.hid (And.intro hX hY)
              have z1 : (j : Int) < (n : Int) + 1 := by omega
              have z2 : (j : Int) + 1 < (n : Int) + 1 := by omega
              have z3 : j < n + 1 := by omega
              have z4 : j + 1 < n + 1 := by omega
              have z5 : IntKind.i64.wrap ((j : Int) + 1) = (j : Int) + 1 := IntWalk.i64_in _ (by omega)
              have z6 : IntKind.i64.wrap (X + 1) = X + 1 := IntWalk.i64_in _ (by omega)
              have z7 : (0 : Int) ≤ (j : Int) + 1 := by omega
              have z8 : ((j : Int) + 1).toNat = j + 1 := by omega
              clear st hX hY hO hB
              by_cases hmin : X + 1 < Y
              · have em : min Y (X + 1) = X + 1 := by omega
                rw [em] at ST
                clear em
                go_upto_region 16 with fail
                go_region
                all_goals
                  clear z5 z6 z8
                  go_wp2_with fail
                  go_roundw
                  case rel => exact ⟨j + 1, by omega, by go_num, Lib.hid (owns_below ST.out (Below.refl _ _).drew), Lib.hid ((BC.out.setCell (p := ⟨w.heap.size, j + 1, none⟩) (Nat.le_refl _) _).drew)⟩
                  case measure => simp [intOf] <;> omega
              · have em : min Y (X + 1) = Y := by omega
                rw [em] at ST
                clear em
                go_upto_region 16 with fail
                go_region
                all_goals
                  clear z5 z6 z8
                  go_wp2_with fail
                  go_roundw
                  case rel => exact ⟨j + 1, by omega, by go_num, Lib.hid (owns_below ST.out (Below.refl _ _).drew), Lib.hid ((BC.out.setCell (p := ⟨w.heap.size, j + 1, none⟩) (Nat.le_refl _) _).drew)⟩
                  case measure => simp [intOf] <;> omega
            · obtain rfl : n = j := by omega
              have O3 := Lib.hid (show wr.ownsRow w.heap.size 3 1 (.slice (some ⟨w.heap.size, 0, none⟩) (n + 1) (n + 1)) (n + 1) (intsV (rwF (fun i => if n - i ≤ 0 then Au.bwt (Au.fwd (Au.base s k)) n (n - i) else Au.fwd (Au.base s k) i) (n + 1))) from by
                rw [rwF_congr (g := fun i => if i ≤ n then Au.fwd (Au.base s k) i else Au.base s k i) (fun i hi => by
                  rw [if_pos (show i ≤ n by omega)]
                  by_cases e : n - i ≤ 0
                  · obtain rfl : i = n := by omega
                    rw [if_pos e, Nat.sub_self]; rfl
                  · rw [if_neg e])]; exact hO.out)
              have B3 := Lib.hid hB.out
              clear hO hB O2 B2
              go_wp2_with fail
              go_loopw [12] (fun iv wr => ∃ (t : Nat) (z : Int), t ≤ n ∧ z = (n : Int) - 1 - t ∧ iv = .int .i64 z ∧ Hid (wr.ownsRow w.heap.size 3 1 (.slice (some ⟨w.heap.size, 0, none⟩) (n + 1) (n + 1)) (n + 1) (intsV (rwF (fun i => if n - i ≤ t then Au.bwt (Au.fwd (Au.base s k)) n (n - i) else Au.fwd (Au.base s k) i) (n + 1)))) ∧ Hid (Below w.heap.size w wr)) (fun iv _ => (intOf iv + 1).toNat)
              case atStart => exact ⟨0, (n : Int) - 1, by omega, by omega, rfl, O3, B3⟩
              case round =>
                obtain ⟨t, z, ht4, hz4, rfl, hO, hB⟩ := hrel
                by_cases hlt4 : t < n
                · obtain ⟨m, hm⟩ : ∃ m : Nat, m + 1 + t = n := ⟨n - 1 - t, by omega⟩
                  obtain rfl : z = (m : Int) := by omega
                  clear hz4
                  have b0 := BF.out m
                  have b1 := BW.out t
                  obtain ⟨X, hX⟩ : ∃ X, Au.fwd (Au.base s k) m = X := ⟨_, rfl⟩
                  obtain ⟨Z, hZ⟩ : ∃ Z, Au.bwt (Au.fwd (Au.base s k)) n t = Z := ⟨_, rfl⟩
                  rw [hX] at b0; rw [hZ] at b1
                  obtain ⟨bx0, bx1⟩ := b0
                  obtain ⟨bz0, bz1⟩ := b1
                  have em1 : n - (m + 1) = t := by omega
                  have em0 : n - m = t + 1 := by omega
                  have em2 : n - (t + 1) = m := by omega
                  obtain ⟨c0, _, _⟩ := row_step (h := fun i => if n - i ≤ t then Au.bwt (Au.fwd (Au.base s k)) n (n - i) else Au.fwd (Au.base s k) i) hO.out (m + 1) (by omega) Z (fun i _ => by
                    unfold updF
                    by_cases e : i = m + 1
                    · subst e; rw [if_pos rfl, if_pos (by omega), em1, hZ]
                    · rw [if_neg e])
                  obtain ⟨c1, f1, st⟩ := row_step (h := fun i => if n - i ≤ t + 1 then Au.bwt (Au.fwd (Au.base s k)) n (n - i) else Au.fwd (Au.base s k) i) hO.out m (by omega) (min X (Z + 1)) (fun i _ => by
                    unfold updF
                    by_cases e : i = m
                    · subst e; rw [if_pos rfl, if_pos (by omega), em0]; simp only [Au.bwt, hZ, em2, hX]
                    · rw [if_neg e]
                      show (if n - i ≤ t then _ else _) = _
                      by_cases e2 : n - i ≤ t
                      · rw [if_pos e2, if_pos (by omega)]
                      · rw [if_neg e2, if_neg (by omega)])
                  rw [if_pos (by omega), em1, hZ] at c0
                  rw [if_neg (by omega), hX] at c1
                  have ST := Lib.hid st
                  have BC := Lib.hid hB.out
                  have z1 : (m : Int) < (n : Int) + 1 := by omega
                  have z2 : (m : Int) + 1 < (n : Int) + 1 := by omega
                  have z3 : m < n + 1 := by omega
                  have z4 : m + 1 < n + 1 := by omega
                  have z5 : IntKind.i64.wrap ((m : Int) + 1) = (m : Int) + 1 := IntWalk.i64_in _ (by omega)
                  have z6 : IntKind.i64.wrap (Z + 1) = Z + 1 := IntWalk.i64_in _ (by omega)
                  have z7 : (0 : Int) ≤ (m : Int) + 1 := by omega
                  have z8 : ((m : Int) + 1).toNat = m + 1 := by omega
                  have z9 : IntKind.i64.wrap ((m : Int) - 1) = (m : Int) - 1 := IntWalk.i64_in _ (by omega)
                  clear st hX hZ hO hB em0 em1 em2
                  by_cases hmin : Z + 1 < X
                  · have em : min X (Z + 1) = Z + 1 := by omega
                    rw [em] at ST
                    clear em
                    go_upto_region 21 with fail
                    go_region
                    all_goals
                      clear z5 z6 z8 z9
                      go_wp2_with fail
                      go_roundw
                      case rel => exact ⟨t + 1, (m : Int) - 1, by omega, by omega, by go_num, Lib.hid (owns_below ST.out (Below.refl _ _).drew), Lib.hid ((BC.out.setCell (p := ⟨w.heap.size, m, none⟩) (Nat.le_refl _) _).drew)⟩
                      case measure => simp [intOf] <;> omega
                  · have em : min X (Z + 1) = X := by omega
                    rw [em] at ST
                    clear em
                    go_upto_region 21 with fail
                    go_region
                    all_goals
                      clear z5 z6 z8 z9
                      go_wp2_with fail
                      go_roundw
                      case rel => exact ⟨t + 1, (m : Int) - 1, by omega, by omega, by go_num, Lib.hid (owns_below ST.out (Below.refl _ _).drew), Lib.hid ((BC.out.setCell (p := ⟨w.heap.size, m, none⟩) (Nat.le_refl _) _).drew)⟩
                      case measure => simp [intOf] <;> omega
                · obtain rfl : t = n := by omega
                  have OE := Lib.hid (show wr.ownsRow w.heap.size 3 1 (.slice (some ⟨w.heap.size, 0, none⟩) (t + 1) (t + 1)) (t + 1) (intsV (rwF (sprF s k t) (t + 1))) from by
                    rw [rwF_congr (g := fun i => if t - i ≤ t then Au.bwt (Au.fwd (Au.base s k)) t (t - i) else Au.fwd (Au.base s k) i) (fun i hi => by
                      rw [if_pos (by omega)]; rfl)]; exact hO.out)
                  have BE := Lib.hid hB.out
                  clear hO hB O3 B3
                  go_wp2_with fail
                  go_ret
                  exact ⟨rfl, OE.out, BE.out⟩
end Go.Proofs.Ytolggcdlpiedmaa
/- rows in memory: preliminaries -/
namespace Go.Proofs.Ytolggcdlpiedmaa
open Go.RowKit
set_option linter.unusedVariables false
set_option maxRecDepth 20000
theorem holdsI_lt {k : IntKind} {w : World} {a : Option Addr} {n : Nat} {zs : List Int} (h : HoldsI k w a n zs) : ∀ b o, 0 < n → a = some ⟨b, o, none⟩ → b < w.heap.size := by
  intro b o h0 ha
  obtain ⟨b2, o2, hb, hc⟩ := h.2 h0
  rw [ha] at hb
  injection hb with hb
  injection hb with hb1 hb2
  subst hb1
  have := hc 0 h0
  exact lt_of_cell this
/-- A row of distances that the call made. -/
def RetRow (w : World) (ra rb : List Int) (j : Nat) (g : Nat) (c : Nat) (w' : World) : Prop :=
  w'.ownsRow w.heap.size 3 1 (.slice (some ⟨g, 0, none⟩) (ra.length + 1) c) (ra.length + 1) (intsV (Ed.row ra rb j)) ∧ Below w.heap.size w w'
end Go.Proofs.Ytolggcdlpiedmaa
/- contract of edit.Distance -/
namespace Go.Proofs.Ytolggcdlpiedmaa
open Go.RowKit
set_option linter.unusedVariables false
set_option maxRecDepth 20000
/-- the distance of two strings, or -1 -/
def distS (a b : ByteArray) : Int := if 0 ≤ lenS a ∧ 0 ≤ lenS b then Ed.L (intsN (runesS a)) (intsN (runesS b)) (runesS a).length (runesS b).length else -1
theorem intsN_length (P : List Nat) : (intsN P).length = P.length := by simp [intsN]
theorem intsN_at {s : ByteArray} {P Q : List Nat} {r : Nat} (h : runesS s = P ++ r :: Q) : (intsN (runesS s)).getD P.length 0 = (r : Int) := by
  rw [h]; simp [intsN, List.getD_eq_getElem?_getD]
end Go.Proofs.Ytolggcdlpiedmaa
/- contracts of edit.Rows and edit.Runes -/
namespace Go.Proofs.Ytolggcdlpiedmaa
open Go.RowKit
set_option linter.unusedVariables false
set_option maxRecDepth 20000
set_option maxHeartbeats 800000 in
theorem rows_any (ra rb : List Int) (a b : Option Addr) (ca cb : Nat) (w : World) (ha : HoldsI .i32 w a ra.length ra) (hb : HoldsI .i32 w b rb.length rb) (hla : ra.length ≤ 1048576) (hlb : rb.length ≤ 1048576) :
    Calls Try.prog 111 #[.slice a ra.length ca, .slice b rb.length cb] w fun e w' => e = .returned (.slice (some ⟨w.heap.size, 0, none⟩) (ra.length + 1) (ra.length + 1)) ∧ RetRow w ra rb rb.length w.heap.size (ra.length + 1) w' := by
  obtain ⟨m, hm⟩ : ∃ m, ra.length = m := ⟨_, rfl⟩
  obtain ⟨n, hn⟩ : ∃ n, rb.length = n := ⟨_, rfl⟩
  unfold RetRow
  rw [hm] at ha hla ⊢; rw [hn] at hb hlb ⊢
  have HM := Lib.hid hm; have HN := Lib.hid hn; have HA := Lib.hid ha; have HB := Lib.hid hb
  clear hm hn ha hb
  go_enter Try.func111, Try.ntmps111
  go_wp2_with fail
  refine (first_any m _ (by omega)).mono ?_
  rintro e w1 ⟨rfl, hown, hb1⟩
  have B1 := Lib.hid hb1
  have hown : w1.ownsRow w.heap.size 3 1 (.slice (some ⟨w.heap.size, 0, none⟩) (m + 1) (m + 1)) (m + 1) (intsV (Ed.row ra rb 0)) := by
    rw [← upTo_row, HM.out]; exact hown
  have O1 := Lib.hid hown
  clear hb1 hown
  go_wp2_with fail
  go_loopw [13] (fun i wr => ∃ k : Nat, k ≤ n ∧ i = .int .i64 k ∧ Hid (wr.ownsRow w.heap.size 3 1 (.slice (some ⟨w.heap.size, 0, none⟩) (m + 1) (m + 1)) (m + 1) (intsV (Ed.row ra rb k))) ∧ Hid (Below w.heap.size w wr)) (fun i _ => n - (intOf i).toNat)
  case atStart => exact ⟨0, by omega, rfl, O1, B1⟩
  case round =>
    obtain ⟨k, hk, rfl, hO, hBw⟩ := hrel
    by_cases hlt : k < n
    · obtain ⟨bb, ob, rfl, hcb⟩ := (HB.out.below hBw.out).at (by omega)
      have e1 := hcb k hlt
      clear hcb
      have hadv := fun R r c => advance_any w.heap.size w.heap.size (m + 1) m R ra a c r
      obtain ⟨r, hr⟩ : ∃ r, rb.getD k 0 = r := ⟨_, rfl⟩
      rw [hr] at e1
      have HR := Lib.hid hr
      clear hr hadv
      go_wp2_with fail
      refine (advance_any w.heap.size w.heap.size (m + 1) m (Ed.row ra rb k) ra a _ r _ hO.out (HA.out.below hBw.out) (fun b o h0 ha => ?_) (fun i => ?_) (by omega)).mono ?_
      · have := holdsI_lt HA.out b o h0 ha; omega
      · have := Ed.row_bd ra rb k i; have := HM.out; omega
      rintro e w2 ⟨rfl, hown2, hgr2⟩
      have hown2 : w2.ownsRow w.heap.size 3 1 (.slice (some ⟨w.heap.size, 0, none⟩) (m + 1) (m + 1)) (m + 1) (intsV (Ed.row ra rb (k + 1))) := by
        rw [← Ed.mix_all, HR.out, HM.out]; exact hown2
      have O2 := Lib.hid hown2
      have B2 := Lib.hid (hBw.out.grown hgr2 hBw.out.size (by intro q hq; injection hq with hq; omega))
      clear hown2 hgr2
      go_wp2_with fail
      go_roundw
      case rel => exact ⟨k + 1, by omega, by go_num, O2, B2⟩
      case measure => simp [intOf]; omega
    · obtain rfl : k = n := by omega
      go_wp2
      go_ret
      exact ⟨rfl, hO.out, hBw.out⟩
set_option maxHeartbeats 800000 in
theorem eruns_any (ra rb : List Int) (a b : Option Addr) (ca cb : Nat) (w : World) (ha : HoldsI .i32 w a ra.length ra) (hb : HoldsI .i32 w b rb.length rb) (hla : ra.length ≤ 1048576) (hlb : rb.length ≤ 1048576) :
    Calls Try.prog 86 #[.slice a ra.length ca, .slice b rb.length cb] w fun e w' => e = .returned (.int .i64 (Ed.L ra rb ra.length rb.length)) ∧ Below w.heap.size w w' := by
  have HA := Lib.hid ha; have HB := Lib.hid hb
  have hrow := Ed.row_getD ra rb rb.length ra.length (Nat.le_refl _)
  have hrl := Ed.row_length ra rb rb.length
  obtain ⟨m, hm⟩ : ∃ m, ra.length = m := ⟨_, rfl⟩
  obtain ⟨n, hn⟩ : ∃ n, rb.length = n := ⟨_, rfl⟩
  have hrows := rows_any ra rb a b ca cb w ha hb hla hlb
  unfold RetRow at hrows
  rw [hm] at hla hrow hrl hrows ⊢; rw [hn] at hlb hrow hrl hrows ⊢
  have HROWS := Lib.hid hrows; have HROW := Lib.hid hrow; have HRL := Lib.hid hrl
  clear ha hb hm hn hrows hrow hrl
  go_enter Try.func86, Try.ntmps86
  go_wp2_with fail
  refine HROWS.out.mono ?_
  rintro e w1 ⟨rfl, hown, hb1⟩
  have hc := hown.cellAt m (by omega)
  rw [intsV_at _ m (by rw [HRL.out]; omega), HROW.out] at hc
  have B1 := Lib.hid hb1
  clear hown hb1
  go_wp2
  go_ret
  exact ⟨rfl, B1.out⟩
end Go.Proofs.Ytolggcdlpiedmaa
