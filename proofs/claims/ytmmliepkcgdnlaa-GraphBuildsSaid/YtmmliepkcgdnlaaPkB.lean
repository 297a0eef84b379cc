/- texts joined -/
import Derived.Test.YtmmliepkcgdnlaaPkA
import Derived.Laws.OwnMore
import Derived.Lib.SliceRun
import Derived.Test.YtmmliepkcgdnlaaChecked
import Derived.WalkLawsBesides
import Derived.WalkSpells
import Derived.Outline
import Derived.Deep.QuietTactic
import Derived.BigQuiet
import Derived.Deep.DeepCutAuto
/- graph: reach, its contract -/
namespace Go.Proofs.Ytmmliepkcgdnlaa
open Go.RowKit Go.Maps
set_option linter.unusedVariables false
set_option maxRecDepth 20000
theorem nodeG_info : (Try.prog.info? 73).map (fun i => (i.zero, i.size, i.bytes)) = some (some (.agg #[.bool false, .slice none 0 0]), 2, 32) := by kernel_rfl
theorem edgeG_info : (Try.prog.info? 61).map (fun i => (i.zero, i.size, i.bytes)) = some (some (.agg #[.int .i32 0, .int .i64 0]), 2, 16) := by kernel_rfl
def Away (w : World) (S : Nat → Prop) (a : Option Addr) (n : Nat) : Prop := 0 < n → ∀ fb fo, a = some ⟨fb, fo, none⟩ → ¬ S fb ∧ fb < w.heap.size
def ReachP (bb g m : Nat) (w : World) (S : Nat → Prop) (r : Nat × List GN) (e : Ending) (w' : World) : Prop := e = .returned (.int .i64 r.1) ∧ PO (QB bb g m r.2) w S w'
def ReachAny (bb g m f : Nat) : Prop := ∀ (st : List GN) (s : List Tx) (a : Option Addr) (cap : Nat) (S : Nat → Prop) (w : World), QB bb g m st w S → OkL f s → HoldsT w a s.length s → Away w S a s.length → s.length ≤ cap → st.length + wtS s + 1 ≤ 1000000 →
    Calls Try.prog 40 #[.pointer (some ⟨bb, 0, none⟩), .slice a s.length cap] w (ReachP bb g m w S (reachF (f + 1) st s))
set_option maxHeartbeats 6400000 in
set_option maxRecDepth 100000 in
theorem reach_step (bb g m f : Nat) (IH : ∀ f', f = f' + 1 → ReachAny bb g m f') : ReachAny bb g m f := by
  intro st s a cap S w hQ hO hH hA hc hb
  obtain ⟨i0, hi, hz0, hz1, hz2⟩ := info_parts nodeG_info
  obtain ⟨j0, hj, hy0, hy1, hy2⟩ := info_parts edgeG_info
  have IHH := Lib.hid IH; have OK := Lib.hid hO; have HH := Lib.hid hH; have AW := Lib.hid hA; have QW := Lib.hid hQ
  obtain ⟨n, hn⟩ : ∃ n, s.length = n := ⟨_, rfl⟩
  have HN := Lib.hid hn
  rw [hn] at hH hc
  have hn100 : n ≤ 100 := by have := hO.n; omega
  have CN := Lib.hid (nameOf_any a n cap s w hH hn100 hO.sz)
  clear hQ hO hH hA IH
  rw [hn]
  clear hn
  go_enter Try.func40, Try.ntmps40
  go_wp2_with fail
  refine CN.out.mono ?_
  rintro e w' ⟨⟨nm, rfl, hnm⟩, rfl⟩
  have NM := Lib.hid hnm
  have nz : nm.size ≤ 10100 := by
    have h1 := nameL_len s OK.out.sz
    have h2 : nm.data.toList.length = nm.size := by simp
    rw [NM.out] at h2
    have h3 := HN.out
    have : s.length * 101 ≤ 10100 := by omega
    omega
  have nzl : nm.size ≤ maxLen := by unfold maxLen; omega
  clear hnm CN
  obtain ⟨na, nc, NL, B⟩ := QW.out
  obtain ⟨fm, hM, hF⟩ := B.M
  have c0 := B.c0
  have c1 := B.c1
  have BW := Lib.hid B
  have HF := Lib.hid hF
  have fnm : fm nm.data.toList = ointG (findG st s) := by rw [NM.out]; exact hF s OK.out.lo
  have hnl : NL.length = st.length := by have := congrArg List.length B.eq; simpa using this
  clear hF B
  cases hfd : findG st s with
  | some i =>
    rw [hfd] at fnm
    have FN := Lib.hid (show fm nm.data.toList = some (i : Int) from fnm)
    have R := Lib.hid (show reachF (f + 1) st s = (i, st) from by unfold reachF; rw [hfd])
    clear fnm hfd
    go_wp2_with (at_lookup; refine wpList_look_ms rfl _ _ rfl rfl hM nm rfl nzl ?_; rw [FN.out])
    go_ret
    rw [R.out]
    exact ⟨rfl, S, QW.out, fun k hk => Or.inl hk, Turn.refl _ _⟩
  | none =>
    rw [hfd] at fnm
    have FN := Lib.hid (show fm nm.data.toList = none from fnm)
    have FD := Lib.hid hfd
    clear fnm hfd
    have gc := BW.out.G.c
    rw [hnl] at gc
    have HNL := Lib.hid hnl
    clear hnl
    have ms : MapS w m st.length fm := hM
    have hst : st.length < maxLen := by unfold maxLen; omega
    have nwf : (Lit.int .i64 (st.length : Int)).wf = true := Go.WalkArith.wf_i64 (by omega)
    obtain ⟨w2, hrun, ms2, tm2⟩ := ms.put_run hst nm (st.length : Int) nzl nwf
    rw [FN.out] at ms2
    have MS2 := Lib.hid (show MapS w2 m (st.length + 1) (sset fm (nameL s) (some (st.length : Int))) from by rw [← NM.out]; exact ms2)
    have TM2 := Lib.hid tm2
    have t2 := Turn.of_mapTurnedS (F := fun k => k = m) tm2 rfl
    have T2 := Lib.hid t2
    have G2 := Lib.hid (BW.out.G.but t2 BW.out.n1 (fun r hr => (BW.out.n4 r hr).1) (fun x hx fb fo e => (BW.out.n5 x hx fb fo e).1))
    have d0 : w2.cell? ⟨bb, 0, none⟩ = some (.pointer (some ⟨g, 0, none⟩)) := (t2.cell (lt_of_cell c0) BW.out.n2).trans c0
    have dc : w2.cell? ⟨g, 0, none⟩ = some (.slice na st.length nc) := (t2.cell (lt_of_cell gc) BW.out.n1).trans gc
    clear ms2 tm2 t2 ms
    go_upto_region 7 with (at_lookup; refine wpList_look_ms rfl _ _ rfl rfl hM nm rfl nzl ?_; rw [FN.out])
    have OWN := Lib.hid (show w2.drew.ownsRow 0 73 2 (.slice na st.length nc) st.length (nmV NL) from by have := G2.out.o; rw [HNL.out] at this; exact owns_below this (Below.refl _ _).drew)
    have AB := Lib.hid (show ∀ o w', (w2.drew.alloc o).grownBy w' (Value.slice na st.length nc).ownBlock → w'.cell? ⟨bb, 0, none⟩ = some (.pointer (some ⟨g, 0, none⟩)) ∧ w'.cell? ⟨g, 0, none⟩ = some (.slice na st.length nc) ∧ w'.frozen? ⟨g, 0, none⟩ = false from fun o w' hg => by
      have lb := lt_of_cell d0
      have lg := lt_of_cell dc
      have o1 := (hg.block bb (by simp; omega) (fun e => (BW.out.n4 bb (gown_at OWN.out e)).2 rfl)).trans (Below.heap_alloc w2.drew o bb lb)
      have o2 := (hg.block g (by simp; omega) (fun e => (BW.out.G.sn g (gown_at OWN.out e)).2 rfl)).trans (Below.heap_alloc w2.drew o g lg)
      exact ⟨(World.cell?_of_block (w := w2) o1).trans d0, (World.cell?_of_block (w := w2) o2).trans dc, (World.frozen?_of_block (w := w2) o2).trans (G2.out.f 0)⟩)
    have n1 : w2.drew.cell? ⟨bb, 0, none⟩ = some (.pointer (some ⟨g, 0, none⟩)) := d0
    have n2 : w2.drew.cell? ⟨g, 0, none⟩ = some (.slice na st.length nc) := dc
    have n3 : (w2.alloc (.cells #[.bool false, .slice none 0 0] 73)).drew.cell? ⟨bb, 0, none⟩ = some (.pointer (some ⟨g, 0, none⟩)) := (Below.cell (below_one w2 _) (p := ⟨bb, 0, none⟩) (lt_of_cell d0)).trans d0
    have n4 : (w2.alloc (.cells #[.bool false, .slice none 0 0] 73)).drew.cell? ⟨g, 0, none⟩ = some (.slice na st.length nc) := (Below.cell (below_one w2 _) (p := ⟨g, 0, none⟩) (lt_of_cell dc)).trans dc
    have n5 : (w2.alloc (.cells #[.bool false, .slice none 0 0] 73)).cell? ⟨bb, 0, none⟩ = some (.pointer (some ⟨g, 0, none⟩)) := n3
    have n6 : (w2.alloc (.cells #[.bool false, .slice none 0 0] 73)).cell? ⟨g, 0, none⟩ = some (.slice na st.length nc) := n4
    have hst2 : st.length ≤ 1000000 := by omega
    clear hM c0 c1 gc hrun
    go_cut [] (fun wc => Hid (PO (QB bb g m (st ++ [⟨s, false, []⟩])) w S wc))
    case first =>
      go_region_law
        (refine step_append_lies _ (by rfl) _ _ _ (by rfl) 0 73 i0 _ 2 32 Try.underlying64 hi hz0 hz1 hz2 rfl (by omega) (.slice na st.length nc) st.length (nmV NL) (by rfl) (OWN.out.alloc _) ⟨w2.drew.heap.size, 0, none⟩ 1 1 [.bool false, .slice none 0 0] (by rfl) (by rfl) (World.news_of_block (cs := #[.bool false, .slice none 0 0]) (t := 73) (fr := (0, 0)) (heap_alloc_new w2.drew _)) (by simp [Value.oneCell']) (by omega) (by unfold maxLen; omega) (by omega) (by omega) (w2.drew.heap.size + 1) (by simp) ?_; intro g3 c3 w3 hown3 hgrow3 hat3 hlt3; obtain ⟨x0, x1, x2⟩ := AB.out _ _ hgrow3)
      all_goals
        have FR := Lib.hid (BW.out.fresh (w2 := w2.drew) (w3 := w3) (q := g3) (cap := c3) (s := s) (fm := fm) (MapS.block MS2.out rfl) T2.out.drew HF.out OK.out.lo FD.out (by rw [HNL.out]; exact hown3) (by rw [HNL.out]; exact hgrow3) (by rw [HNL.out]; exact hat3.imp id (fun e => by simp; exact e)) hlt3)
        rw [HNL.out] at FR
        clear hown3 hgrow3 hat3 hlt3 x0 x1 x2
        go_wp2_with fail
        go_meet
        obtain ⟨S', h1, h2, h3⟩ := FR.out
        exact Lib.hid ⟨S', ⟨_, _, _, h1⟩, h2, h3⟩
    case rest =>
      rename World => wc
      obtain ⟨Sc, qc, sc0, tc⟩ := hcut.out
      have HHT := Lib.hid (show HoldsT wc a s.length s from holdsT_turn HH.out tc (fun h0 fb fo e => (AW.out h0 fb fo e).1))
      have LC := (qb_ok bb g m (st ++ [⟨s, false, []⟩])).lt qc
      have R0 := Lib.hid (show RL bb g m w S wc.heap.size false (st ++ [⟨s, false, []⟩]) none 0 [] a s Sc (wc.alloc (.cells #[.bool false, .slice none 0 0] 73)) from
        ⟨(qb_ok bb g m _).below qc (below_one wc _), sc0, tc.trans (Turn.of_below (below_one wc _)), fun hk => by have := LC _ hk; omega, tc.size, by rw [cell_alloc rfl]; rfl, by rw [cell_alloc rfl]; rfl, fun i => frozen_alloc rfl, World.ownsRow_nil _ _ _ _, fun k e => (by cases e), HHT.out.below (below_one wc _), AW.out⟩)
      have ED := Lib.hid (show reachF (f + 1) st s = (st.length, (edgesF (reachF f) (bodS s).length (bodS s) [] (st ++ [⟨s, false, []⟩])).2.set st.length ⟨s, finS s, (edgesF (reachF f) (bodS s).length (bodS s) [] (st ++ [⟨s, false, []⟩])).1⟩) from by conv => lhs; unfold reachF; rw [FD.out])
      clear hcut qc sc0 tc LC HHT d0 dc n1 n2 n3 n4 n5 n6 OWN AB MS2 TM2 T2 G2 BW HF FN FD hst nwf NM nz nzl QW
      go_upto_region 9 with fail
      generalize wc.alloc (.cells #[.bool false, .slice none 0 0] 73) = w4 at *
      obtain ⟨p, hp⟩ : ∃ p, wc.heap.size = p := ⟨_, rfl⟩
      rw [hp] at R0
      rw [hp]
      clear hp
      obtain ⟨zf, hzf⟩ : ∃ z, finS s = z := ⟨_, rfl⟩
      have HZF := Lib.hid hzf
      obtain ⟨R, hR⟩ : ∃ r, edgesF (reachF f) (bodS s).length (bodS s) [] (st ++ [⟨s, false, []⟩]) = r := ⟨_, rfl⟩
      rw [hR] at ED
      have HR := Lib.hid hR
      clear hzf hR
      go_cut [64] (fun u wd => u = .bool zf ∧ w4 = wd)
      case first =>
        rcases Nat.eq_zero_or_pos n with hn0 | hn0
        · subst hn0
          have hs0 : s = [] := List.eq_nil_of_length_eq_zero HN.out
          obtain rfl : zf = false := by rw [← HZF.out, hs0]; rfl
          clear hs0
          go_wp2_with fail
          go_meet
          exact ⟨rfl, rfl⟩
        · have hd1 : decide ((n : Int) > 0) = true := decide_eq_true (by omega)
          have hd2 : decide (0 < n) = true := decide_eq_true hn0
          have hih := R0.out.hl
          rw [HN.out] at hih
          obtain ⟨b, o, rfl, hcc⟩ := hih.at hn0
          have x0 := hcc 0 hn0
          obtain ⟨t, ht⟩ : ∃ t, s.getD 0 ByteArray.empty = t := ⟨_, rfl⟩
          rw [ht, Nat.add_zero] at x0
          have hni : (0 : Int) < (n : Int) := by omega
          have hzt : t.toList.isEmpty = zf := by
            rw [← HZF.out]
            have hs2 : s.head? = some t := by
              have hsl := HN.out
              cases hs3 : s with
              | nil => rw [hs3] at hsl; simp at hsl; omega
              | cons t' l' => rw [hs3] at ht; simp at ht; simp [ht]
            unfold finS
            rw [hs2, Bool.eq_iff_iff]
            simp only [decide_eq_true_eq, List.isEmpty_iff]
            constructor
            · intro h; rw [(tx_nil t).2 h]
            · intro h; exact (tx_nil t).1 (by injection h)
          have hzt2 : (t.toList == []) = zf := by rw [← hzt]; cases t.toList <;> rfl
          clear hcc hih ht
          go_wp2_with fail
          go_meet
          exact ⟨by first | rfl | rw [hzt] | rw [hzt2], rfl⟩
      case rest =>
        obtain ⟨rfl, rfl⟩ := hcut
        go_upto_if 64 with fail
        go_cut [1] (fun v wd => ∃ sa sc, v = .slice sa (bodS s).length sc ∧ Hid ((bodS s).length ≤ sc) ∧ Hid (RL bb g m w S p zf (st ++ [⟨s, false, []⟩]) none 0 [] sa (bodS s) Sc wd))
        case first =>
          cases zf
          · have hbs : bodS s = s := by unfold bodS; rw [HZF.out]; rfl
            have HBS := Lib.hid hbs
            clear hbs
            go_wp2_with fail
            go_meet
            exact ⟨a, cap, by rw [HBS.out, HN.out], Lib.hid (by rw [HBS.out, HN.out]; exact hc), Lib.hid (by rw [HBS.out]; exact R0.out)⟩
          · obtain ⟨l, hsl⟩ : ∃ l, s = ⟨#[]⟩ :: l := by
              have h := HZF.out
              unfold finS at h
              have h2 := of_decide_eq_true h
              cases s with
              | nil => simp at h2
              | cons t l => simp at h2; exact ⟨l, by rw [h2]⟩
            have hbs : bodS s = l := by unfold bodS; rw [HZF.out, hsl]; rfl
            obtain ⟨k, rfl⟩ : ∃ k, n = k + 1 := ⟨l.length, by rw [← HN.out, hsl]; rfl⟩
            have hlk : l.length = k := by have := HN.out; rw [hsl] at this; simpa using this
            obtain ⟨c, rfl⟩ : ∃ c, cap = c + 1 := ⟨cap - 1, by omega⟩
            have hih := R0.out.hl
            rw [HN.out] at hih
            obtain ⟨b, o, rfl, hcc⟩ := hih.at (by omega)
            obtain ⟨o', hA, hAH⟩ : ∃ o', (if c = 0 then some (⟨b, o, none⟩ : Addr) else some ⟨b, o + 1, none⟩) = some ⟨b, o', none⟩ ∧ Hid (HoldsT w4 (some ⟨b, o', none⟩) k l) := by
              by_cases hc0 : c = 0
              · have hk0 : k = 0 := by omega
                subst hk0
                have hl0 : l = [] := List.eq_nil_of_length_eq_zero hlk
                exact ⟨o, by rw [if_pos hc0], Lib.hid (by rw [hl0]; exact HoldsT.nil _ _)⟩
              · refine ⟨o + 1, by rw [if_neg hc0], Lib.hid (HoldsT.of hlk (fun i hi => ?_))⟩
                have h := hcc (i + 1) (by omega)
                rw [hsl, List.getD_cons_succ] at h
                rw [show o + 1 + i = o + (i + 1) by omega]
                exact h
            have HBS := Lib.hid hbs; have HLK := Lib.hid hlk
            have z0 := R0.out.c0
            have zf0 := R0.out.fr 0
            have i1 : (1 : Int) ≤ (k : Int) + 1 := by omega
            have i2 : (1 : Int) ≤ ((k + 1 : Nat) : Int) := by omega
            have RN := Lib.hid (show RL bb g m w S p true (st ++ [⟨s, false, []⟩]) none 0 [] (some ⟨b, o', none⟩) l Sc (w4.setCell ⟨p, 0, none⟩ (.bool true)) from
              R0.out.flag (b := true) (by rw [hlk]; exact hAH.out) (fun h0 fb fo e => by injection e with e; injection e with e1 e2; subst e1; exact R0.out.la (by rw [hsl]; simp) b o rfl))
            clear hcc hih hbs hlk hsl
            go_wp2_with fail
            go_meet
            exact ⟨some ⟨b, o', none⟩, c, by rw [HBS.out, HLK.out], Lib.hid (by rw [HBS.out, HLK.out]; omega), Lib.hid (by rw [HBS.out]; exact RN.out)⟩
        case rest =>
          obtain ⟨sa, sc, rfl, hsc, hR1⟩ := hcut
          rename World => w5
          have hok : OkL f (bodS s) ∧ ∀ t ∈ bodS s, 0 < t.size := ⟨OK.out.bod, bod_pos OK.out.ord⟩
          have HOK := Lib.hid hok
          have hbl : (bodS s).length ≤ 100 := hok.1.n
          have HWT := Lib.hid (show (st ++ [(⟨s, false, []⟩ : GN)]).length + wtS (bodS s) ≤ 1000000 from by rw [List.length_append, List.length_singleton]; have := wt_bod s; omega)
          have HLT := Lib.hid (show st.length < (st ++ [(⟨s, false, []⟩ : GN)]).length from by rw [List.length_append, List.length_singleton]; omega)
          clear hok
          go_wp2_with fail
          go_loopw [1] (fun v wr => ∃ (k : Nat) (l : List Tx) (es : List EdP) (st1 : List GN) (S1 : Nat → Prop) (ea : Option Addr) (ec : Nat) (sa : Option Addr) (sc : Nat), v = .slice sa l.length sc ∧ l.length ≤ k ∧ es.length + k ≤ 100 ∧ Hid (l.length ≤ sc) ∧ Hid (edgesF (reachF f) k l es st1 = R) ∧ Hid (OkL f l ∧ ∀ t ∈ l, 0 < t.size) ∧ Hid (st1.length + wtS l ≤ 1000000) ∧ Hid (st.length < st1.length) ∧ Hid ((st1.getD st.length gn0).rests = s) ∧ Hid (RL bb g m w S p zf st1 ea ec es sa l S1 wr)) (fun v _ => sliceLenG v)
          case atStart => exact ⟨(bodS s).length, bodS s, [], _, Sc, none, 0, sa, sc, rfl, Nat.le_refl _, by simpa using hbl, hsc, HR, HOK, HWT, HLT, Lib.hid (by simp [List.getD_eq_getElem?_getD]), hR1⟩
          case round =>
            clear hR1 hsc HOK HWT HLT hbl
            obtain ⟨k, l, es, st1, S1, ea, ec, sa, sc, rfl, hlk, hek, hsc, hE, hOK, hWT, hLT, hRS, hRL⟩ := hrel
            rename World => wr
            by_cases hl0 : l = []
            · subst hl0
              have hRR : R = (es, st1) := by
                rw [← hE.out]
                cases k with
                | zero => rfl
                | succ k => unfold edgesF; rw [if_pos rfl]
              obtain ⟨na1, nc1, NL1, q, hB, hqa, ⟨vq0, hq0⟩, ⟨vq1, hq1⟩, hqf, hqn, hPO⟩ := hRL.out.target st.length hLT.out s hRS.out
              have c0 := hB.c0
              have gc := hB.G.c
              have p0 := hRL.out.c0
              have p1 := hRL.out.c1
              have qb : q ≠ bb := (hB.n4 q hqa).2
              have qg : q ≠ g := (hB.G.sn q hqa).2
              have qp : q ≠ p := hqn
              have hnl1 : NL1.length = st1.length := by have := congrArg List.length hB.eq; simpa using this
              rw [hnl1] at gc
              subst hqa
              have f1 := hqf (st.length * 2)
              have f2 := hqf (st.length * 2 + 1)
              have i1 : (0 : Int) ≤ (st.length : Int) := by omega
              have i2 : (st.length : Int) < (st1.length : Int) := by have := hLT.out; omega
              have FIN := Lib.hid hPO
              have HRR := Lib.hid hRR
              clear hB hnl1 hqf hPO hRR hqn
              go_upto_region 16 with fail
              go_region_held3 (fun w' => w'.cell? ⟨bb, 0, none⟩ = some (.pointer (some ⟨g, 0, none⟩)) ∧ w'.cell? ⟨g, 0, none⟩ = some (.slice (some ⟨q, 0, none⟩) st1.length nc1) ∧ w'.cell? ⟨p, 0, none⟩ = some (.bool zf) ∧ w'.cell? ⟨p, 1, none⟩ = some (.slice ea es.length ec))
                (first | assumption | exact ⟨c0, gc, p0, p1⟩ | exact g4_store qb qg qp ⟨c0, gc, p0, p1⟩)
                (fail)
              all_goals
                go_wp2_with fail
                go_ret
                rw [ED.out, HRR.out, HZF.out]
                exact ⟨rfl, FIN.out.more (qb_ok bb g m _) (Below.refl _ _).drew⟩
            · have hpos : 0 < l.length := by cases l with
                | nil => exact absurd rfl hl0
                | cons t l => simp
              obtain ⟨k, rfl⟩ : ∃ k', k = k' + 1 := ⟨k - 1, by omega⟩
              obtain ⟨f', rfl⟩ : ∃ f', f = f' + 1 := by
                refine ⟨f - 1, ?_⟩
                have hm : l.getD 0 ByteArray.empty ∈ l := getD_tx hpos
                have h1 := rst_len (hOK.out.1.lo _ hm) (hOK.out.2 _ hm)
                have h2 := hOK.out.1.hi _ hm
                omega
              have C := Lib.hid (IHH.out f' rfl)
              have hl100 := hOK.out.1.n
              have CF := Lib.hid (follow_any sa l.length sc l wr hRL.out.hl hpos hl100 hOK.out.2 hOK.out.1.sz)
              have HFL := Lib.hid (fol_len l hl0)
              have HWF := Lib.hid (wt_fol hl0 hOK.out.1.lo hOK.out.2)
              have OKF := Lib.hid (hOK.out.1.fol hOK.out.2)
              obtain ⟨⟨lab, rs⟩, hfo⟩ : ∃ r, folS l = r := ⟨_, rfl⟩
              have hEE := hE.out
              unfold edgesF at hEE
              rw [if_neg hl0, hfo] at hEE
              unfold FolP at CF
              rw [hfo] at CF HFL HWF OKF
              obtain ⟨⟨ix, st2⟩, hre⟩ : ∃ r, reachF (f' + 1) st1 rs = r := ⟨_, rfl⟩
              simp only at hEE
              rw [hre] at hEE
              have HE := Lib.hid hEE
              have HRE := Lib.hid hre
              have RLN := Lib.hid (reach_len f' st1 rs OKF.out)
              rw [hre] at RLN
              have hpi : (0 : Int) < (l.length : Int) := by omega
              have hd1 : decide ((l.length : Int) > 0) = true := decide_eq_true (by omega)
              have hd2 : decide (0 < l.length) = true := decide_eq_true hpos
              clear hEE hre hE hfo
              go_wp2_with fail
              refine CF.out.mono ?_
              rintro e w6 ⟨fa, fc, rfl, hfo, hb6⟩
              simp only at hfo ⊢
              have R6 := Lib.hid (hRL.out.more hb6)
              have FA := Lib.hid hfo
              have FW := Lib.hid (show Away w6.drew S1 fa rs.length from fun h0 fb fo e => by
                have h1 := own_blockG hfo e
                exact ⟨fun hk => by have := hRL.out.qlt fb hk; omega, h1.2⟩)
              have C6 := Lib.hid (C.out st1 rs fa fc S1 w6.drew ((qb_ok bb g m st1).below R6.out.q (Below.refl _ _).drew) OKF.out ((HoldsT.own FA.out).below (Below.refl _ _).drew) FW.out (owns_none FA.out).2 (by have := hWT.out; have := HWF.out; omega))
              rw [HRE.out] at C6
              clear hfo hb6 CF C FW
              have R6d := Lib.hid (R6.out.more (Below.refl w6.heap.size w6).drew)
              have y0 := R6d.out.c1
              have hes : es.length ≤ 100 := by omega
              go_upto_region 14 with fail
              go_cut [] (fun wd => Hid (∃ S2 ea2 ec2, RL bb g m w S p zf st2 ea2 ec2 (es ++ [⟨(lab : Int), (ix : Int)⟩]) sa l S2 wd))
              case first =>
                go_region_law
                  (first
                    | (refine step_append_lies _ (by rfl) _ _ _ (by rfl) w.heap.size 61 j0 _ 2 16 Try.underlying39 hj hy0 hy1 hy2 rfl (by omega) (.slice ea es.length ec) es.length (edsV es) (by first | rfl | (simp [Act.eval]; done) | simp [Act.eval, Act.put]) (hR7.o.alloc _) ⟨w7.heap.size, 0, none⟩ 1 1 [.int .i32 (lab : Int), .int .i64 (ix : Int)] (by first | rfl | (simp [Act.eval]; done) | simp [Act.eval, Act.put]) (by rfl) (World.news_of_block (cs := #[.int .i32 (lab : Int), .int .i64 (ix : Int)]) (t := 61) (fr := (0, 0)) (heap_alloc_new w7 _)) (by simp [Value.oneCell']) (by omega) (by unfold maxLen; omega) (by omega) (by have := hR7.t.size; simp; omega) (w7.heap.size + 1) (by simp) ?_; intro g3 c3 w8 hown8 hgrow8 hat8 hlt8; obtain ⟨x0, x1⟩ := hR7.keep hgrow8)
                    | (go_simp; go_at_call 40; (with_reducible refine C6.out.mono ?_); rintro e w7 ⟨rfl, hPO⟩; obtain ⟨S2, hR7⟩ := R6d.out.step hPO; have y1 := hR7.c1; have y3 := fun o => ((below_one w7 o).cell (p := ⟨p, 1, none⟩) (lt_of_cell y1)).trans y1))
                all_goals
                  have RN := Lib.hid (hR7.edge (x := ⟨(lab : Int), (ix : Int)⟩) hown8 hgrow8 (hat8.imp id (fun e => by simp; exact e)))
                  clear hown8 hgrow8 hat8 hlt8 x0 x1 y1 y3
                  go_wp2_with fail
                  go_meet
                  exact Lib.hid ⟨S2, _, _, RN.out⟩
              case rest =>
                obtain ⟨S2, ea2, ec2, hR8⟩ := hcut.out
                rename World => w9
                have R8 := Lib.hid hR8
                clear hcut hR8 R6 R6d C6 y0 FA
                obtain ⟨b, o, rfl, hcc⟩ := R8.out.hl.at hpos
                obtain ⟨d, hd⟩ : ∃ d, rs.length = d := ⟨_, rfl⟩
                rw [hd] at HFL HWF HE
                rw [hd]
                clear hd
                have hd1' := HFL.out.1
                have hd2' := HFL.out.2
                have hsc' := hsc.out
                obtain ⟨o', hA, hAH⟩ : ∃ o', (if sc = d then some (⟨b, o, none⟩ : Addr) else some ⟨b, o + d, none⟩) = some ⟨b, o', none⟩ ∧ Hid (HoldsT w9 (some ⟨b, o', none⟩) (l.drop d).length (l.drop d)) := by
                  by_cases hc0 : sc = d
                  · have hl0' : l.drop d = [] := List.drop_eq_nil_of_le (by omega)
                    exact ⟨o, by rw [if_pos hc0], Lib.hid (by rw [hl0']; exact HoldsT.nil _ _)⟩
                  · refine ⟨o + d, by rw [if_neg hc0], Lib.hid (HoldsT.of rfl (fun i hi => ?_))⟩
                    rw [List.length_drop] at hi
                    have h := hcc (d + i) (by omega)
                    rw [show o + d + i = o + (d + i) by omega, h]
                    congr 2
                    simp [List.getD_eq_getElem?_getD]
                have RN := Lib.hid (R8.out.other hAH.out (fun h0 fb fo e => by injection e with e; injection e with e1 e2; subst e1; exact R8.out.la hpos b o rfl))
                have i1 : (0 : Int) ≤ (d : Int) := by omega
                have i2 : (d : Int) ≤ (l.length : Int) := by omega
                have ldr : l.length - d = (l.drop d).length := by rw [List.length_drop]
                have LDR := Lib.hid ldr
                clear hcc ldr
                go_wp2_with fail
                go_roundw
                case rel => exact ⟨k, l.drop d, es ++ [⟨(lab : Int), (ix : Int)⟩], st2, S2, ea2, ec2, some ⟨b, o', none⟩, sc - d, by rw [LDR.out], by rw [List.length_drop]; omega, by simp; omega, Lib.hid (by rw [List.length_drop]; omega), HE, Lib.hid ⟨hOK.out.1.drop _, fun t ht => hOK.out.2 t (List.mem_of_mem_drop ht)⟩, Lib.hid (by have := hWT.out; have := HWF.out; have := RLN.out; omega), Lib.hid (by have := hLT.out; have := RLN.out; omega), Lib.hid (by rw [← hRS.out]; have := reach_rests f' st1 rs OKF.out st.length hLT.out; rw [HRE.out] at this; exact this), RN⟩
                case measure => simp only [sliceLenG]; rw [LDR.out, List.length_drop]; omega
theorem reach_any (bb g m : Nat) : ∀ f, ReachAny bb g m f := by
  intro f
  induction f with
  | zero => exact reach_step bb g m 0 (fun f' e => by omega)
  | succ f ih => exact reach_step bb g m (f + 1) (fun f' e => by obtain rfl : f = f' := by omega
                                                                 exact ih)
end Go.Proofs.Ytmmliepkcgdnlaa
/- graph: Build, and what is asked of a graph -/
namespace Go.Proofs.Ytmmliepkcgdnlaa
open Go.RowKit Go.Maps
set_option linter.unusedVariables false
set_option maxRecDepth 20000
/-- the nodes of the words -/
def grS (ts : List Tx) : List GN := (reachF 13 [] ts).2
theorem ok_good {ts : List Tx} (h : goodV ts = 0) (hsz : ∀ t ∈ ts, t.size ≤ 100) : OkL 12 ts := by
  obtain ⟨h1, h2, h3⟩ := goodV_zero h
  exact ⟨h3, fun t ht => by have := (h2 t ht).1; omega, fun t ht => (h2 t ht).2, by omega, hsz⟩
theorem wt_good : ∀ (ts : List Tx), (∀ t ∈ ts, lenS t ≤ 12) → wtS ts ≤ ts.length * 12
  | [], _ => by simp [wtS]
  | t :: l, h => by
    have h1 := wt_good l (fun u hu => h u (by simp [hu]))
    have h2 := h t (by simp)
    simp only [wtS, List.length_cons]
    omega
def BuildP (w : World) (ts : List Tx) (e : Ending) (w' : World) : Prop := ∃ g S, e = .returned (.tuple #[.pointer (some ⟨g, 0, none⟩), .int .i64 0]) ∧ GAt g (grS ts) w' S ∧ (∀ k, S k → w.heap.size ≤ k) ∧ Below w.heap.size w w'
theorem build_bad (a : Option Addr) (n cap : Nat) (ts : List Tx) (v : Int) (w : World) (hh : HoldsT w a n ts) (hn : n ≤ 9223372036854775807) (hs : ∀ t ∈ ts, t.size ≤ 9223372036854775807) (hv : goodV ts = v) (h0 : v ≠ 0) :
    Calls Try.prog 14 #[.slice a n cap] w fun e w' => e = .returned (.tuple #[.pointer none, .int .i64 v]) ∧ Below w.heap.size w w' := by
  have CG := Lib.hid (good_any' a n cap ts w hh hn hs)
  rw [hv] at CG
  have hne : (v != 0) = true := by simpa using h0
  clear hh hs hv h0
  go_enter Try.func14, Try.ntmps14
  go_wp2_with fail
  refine CG.out.mono ?_
  rintro e w1 ⟨rfl, hb⟩
  have B1 := Lib.hid hb
  clear hb
  go_wp2_with fail
  go_ret2
  exact ⟨rfl, B1.out⟩
theorem qb_start (w1 : World) (t1 t2 : TypeId) : QB (w1.heap.size + 1 + 1) w1.heap.size (w1.heap.size + 1) [] (((w1.alloc (Obj.cells #[Value.slice none 0 0] t1)).alloc (Obj.map #[] 0)).alloc (Obj.cells #[Value.pointer (some { block := w1.heap.size, off := 0 }), Value.map (some (w1.heap.size + 1))] t2)) (fun k => w1.heap.size ≤ k ∧ k < w1.heap.size + 3) := by
  have hm := mapS_made (w1.alloc (Obj.cells #[Value.slice none 0 0] t1))
  rw [show (w1.alloc (Obj.cells #[Value.slice none 0 0] t1)).heap.size = w1.heap.size + 1 from by simp] at hm
  have hb := Below.heap_alloc ((w1.alloc (Obj.cells #[Value.slice none 0 0] t1)).alloc (Obj.map #[] 0)) (Obj.cells #[Value.pointer (some { block := w1.heap.size, off := 0 }), Value.map (some (w1.heap.size + 1))] t2)
  have hc := Below.heap_alloc (w1.alloc (Obj.cells #[Value.slice none 0 0] t1)) (Obj.map #[] 0)
  have b0 := (hb w1.heap.size (by simp; omega)).trans (hc w1.heap.size (by simp))
  have b1 := hb (w1.heap.size + 1) (by simp)
  refine ⟨none, 0, [], ⟨⟨?_, fun i => ?_, World.ownsRow_nil _ 0 _ 2, fun x hx => by simp at hx, ⟨by omega, by omega⟩, fun q hq => by (cases hq), fun k hk => ?_⟩, rfl, ?_, ?_, ⟨fun _ => none, hm.block b1, fun l _ => rfl⟩, ⟨by omega, by omega⟩, ⟨by omega, by omega⟩, by omega, by omega, by omega, fun q hq => by (cases hq), fun x hx => by simp at hx⟩⟩
  · rw [World.cell?_of_block (w := w1.alloc (Obj.cells #[Value.slice none 0 0] t1)) b0, World.cell?_alloc_at _ _ _ _ rfl]; rfl
  · rw [World.frozen?_of_block (w := w1.alloc (Obj.cells #[Value.slice none 0 0] t1)) b0, World.frozen?_alloc_at _ _ _ _ rfl]
  · simp; omega
  · rw [World.cell?_alloc_at _ _ _ _ (by simp)]; rfl
  · rw [World.cell?_alloc_at _ _ _ _ (by simp)]; rfl
set_option maxHeartbeats 1600000 in
theorem build_good (a : Option Addr) (n cap : Nat) (ts : List Tx) (w : World) (hh : HoldsT w a n ts) (hc : n ≤ cap) (hn : n ≤ 9223372036854775807) (hs : ∀ t ∈ ts, t.size ≤ 100) (hv : goodV ts = 0) :
    Calls Try.prog 14 #[.slice a n cap] w (BuildP w ts) := by
  have CG := Lib.hid (good_any' a n cap ts w hh hn (fun t ht => by have := hs t ht; omega))
  rw [hv] at CG
  have OK := Lib.hid (ok_good hv hs)
  have HH := Lib.hid hh
  have hl := hh.len
  have HL := Lib.hid hl
  have hmm := @run_makeMap Try.prog
  clear hh hs hv hl
  go_enter Try.func14, Try.ntmps14
  go_wp2_with fail
  refine CG.out.mono ?_
  rintro e w1 ⟨rfl, hb⟩
  have B1 := Lib.hid hb
  clear hb CG
  go_upto_region 5 with fail
  have Q0 := Lib.hid (qb_start w1 66 69)
  obtain ⟨w2, hw2⟩ : ∃ w2, (((w1.alloc (Obj.cells #[Value.slice none 0 0] 66)).alloc (Obj.map #[] 0)).alloc (Obj.cells #[Value.pointer (some { block := w1.heap.size, off := 0 }), Value.map (some (w1.heap.size + 1))] 69)) = w2 := ⟨_, rfl⟩
  have B2 := Lib.hid (show Below w.heap.size w w2 from by
    rw [← hw2]
    have z1 := B1.out.size
    exact B1.out.trans (((below_one _ _).mono z1).trans (((below_one _ _).mono (by simp; omega)).trans ((below_one _ _).mono (by simp; omega)))))
  have hz2 : w2.heap.size = w1.heap.size + 3 := by rw [← hw2]; simp
  rw [hw2] at Q0
  rw [hw2]
  have CR := Lib.hid (reach_any (w1.heap.size + 1 + 1) w1.heap.size (w1.heap.size + 1) 12 [] ts a cap _ w2 Q0.out OK.out (HL.out.symm ▸ (HH.out.below B2.out)) (fun h0 fb fo e => by
    rw [HL.out] at h0
    obtain ⟨b, o, e2, hc2⟩ := HH.out.at h0
    have h3 := lt_of_cell (hc2 0 h0)
    rw [e2] at e
    injection e with e; injection e with e4 e5
    have z1 := B1.out.size
    exact ⟨by omega, by omega⟩) (by rw [HL.out]; exact hc) (by
    have h3 := wt_good ts OK.out.hi
    have h4 := OK.out.n
    simp only [List.length_nil]; omega))
  rw [HL.out] at CR
  clear hw2 Q0
  go_wp2_with fail
  refine CR.out.mono ?_
  rintro e w3 ⟨rfl, S3, ⟨na, nc, NL, hB⟩, hs3, ht3⟩
  have B := Lib.hid hB; have T3 := Lib.hid ht3; have S3H := Lib.hid hs3
  have c0 := hB.c0
  have z1 := B1.out.size
  clear hB ht3 hs3 CR
  go_wp2_with fail
  go_ret2
  refine ⟨_, S3, rfl, ⟨na, nc, NL, B.out.G, B.out.eq⟩, fun k hk => ?_, B2.out.trans (T3.out.below (fun k hk => by omega) (by omega))⟩
  rcases S3H.out k hk with x | x
  · omega
  · omega
end Go.Proofs.Ytmmliepkcgdnlaa
/- graph: has, Nodes, Final, Edges, Next -/
namespace Go.Proofs.Ytmmliepkcgdnlaa
open Go.RowKit
set_option linter.unusedVariables false
set_option maxRecDepth 20000
theorem map_eqG : ∀ (NL : List NM) (st : List GN), NL.map nmP = st.map gnP → NL.length = st.length ∧ ∀ n, n < st.length → (NL.getD n nm0).fin = (st.getD n gn0).final ∧ (NL.getD n nm0).es = (st.getD n gn0).edges
  | [], [], _ => ⟨rfl, fun n h => by simp at h⟩
  | [], g :: st, h => by simp at h
  | x :: NL, [], h => by simp at h
  | x :: NL, g :: st, h => by
    simp only [List.map_cons, List.cons.injEq] at h
    obtain ⟨h1, h2⟩ := map_eqG NL st h.2
    refine ⟨by simp [h1], fun n hn => ?_⟩
    have h3 := h.1
    unfold nmP gnP at h3
    cases n with
    | zero => exact ⟨congrArg Prod.fst h3, congrArg Prod.snd h3⟩
    | succ n => exact h2 n (by simpa using hn)
theorem GAt.len {g : Nat} {st : List GN} {w : World} {S : Nat → Prop} (h : GAt g st w S) : ∃ na nc, w.cell? ⟨g, 0, none⟩ = some (.slice na st.length nc) := by
  obtain ⟨na, nc, NL, G, e⟩ := h
  have := G.c
  rw [(map_eqG _ _ e).1] at this
  exact ⟨na, nc, this⟩
theorem GAt.node {g : Nat} {st : List GN} {w : World} {S : Nat → Prop} (h : GAt g st w S) {n : Nat} (hn : n < st.length) : ∃ q nc ea ec, w.cell? ⟨g, 0, none⟩ = some (.slice (some ⟨q, 0, none⟩) st.length nc) ∧ w.cell? ⟨q, n * 2, none⟩ = some (.bool (st.getD n gn0).final) ∧ w.cell? ⟨q, n * 2 + 1, none⟩ = some (.slice ea (st.getD n gn0).edges.length ec) ∧ HoldsEd w ea (st.getD n gn0).edges.length (st.getD n gn0).edges ∧ (ea = none → (st.getD n gn0).edges.length = 0 ∧ ec = 0) := by
  obtain ⟨na, nc, NL, G, e⟩ := h
  obtain ⟨e1, e2⟩ := map_eqG _ _ e
  have c := G.c
  obtain ⟨q, rfl, c0, c1⟩ := G.at (i := n) (by omega)
  obtain ⟨e3, e4⟩ := e2 n hn
  rw [e1] at c
  rw [e3] at c0
  have ei := G.e _ (mem_nm (show n < NL.length by omega))
  unfold EdIn at ei
  rw [e4] at c1 ei
  exact ⟨q, nc, _, _, c, c0, c1, ei.1, ei.2.1⟩
def hasG (st : List GN) (n : Int) : Bool := decide (0 ≤ n ∧ n < (st.length : Int))
theorem hasG_no {st : List GN} {n : Int} (h : hasG st n = false) : n < 0 ∨ (st.length : Int) ≤ n := by
  simp only [hasG, decide_eq_false_iff_not] at h; omega
theorem hasG_yes {st : List GN} {n : Int} (h : hasG st n = true) : ∃ k : Nat, n = k ∧ k < st.length := by
  simp only [hasG, decide_eq_true_eq] at h
  exact ⟨n.toNat, by omega, by omega⟩
theorem gHas_nil (n : Int) (w : World) : Calls Try.prog 43 #[.pointer none, .int .i64 n] w fun e w' => e = .returned (.bool false) ∧ w = w' := by
  go_enter Try.func43, Try.ntmps43
  go_wp2_with fail
  go_ret
  exact ⟨rfl, rfl⟩
theorem gHas_any (g : Nat) (st : List GN) (S : Nat → Prop) (n : Int) (w : World) (h : GAt g st w S) : Calls Try.prog 43 #[.pointer (some ⟨g, 0, none⟩), .int .i64 n] w fun e w' => e = .returned (.bool (hasG st n)) ∧ w = w' := by
  obtain ⟨na, nc, c⟩ := h.len
  by_cases h0 : n < 0
  · have d0 : decide (n ≥ 0) = false := decide_eq_false (by omega)
    have e : hasG st n = false := decide_eq_false (by omega)
    rw [e]
    clear e
    go_enter Try.func43, Try.ntmps43
    go_wp2_with fail
    go_ret
    exact ⟨rfl, rfl⟩
  · have d0 : decide (n ≥ 0) = true := decide_eq_true (by omega)
    have e : hasG st n = decide (n < (st.length : Int)) := by unfold hasG; congr 1; simp; omega
    rw [e]
    clear e
    go_enter Try.func43, Try.ntmps43
    go_wp2_with fail
    go_ret
    exact ⟨rfl, rfl⟩
theorem gNodes_nil (w : World) : Calls Try.prog 18 #[.pointer none] w fun e w' => e = .returned (.int .i64 0) ∧ w = w' := by
  go_enter Try.func18, Try.ntmps18
  go_wp2_with fail
  go_ret
  exact ⟨rfl, rfl⟩
theorem gNodes_any (g : Nat) (st : List GN) (S : Nat → Prop) (w : World) (h : GAt g st w S) : Calls Try.prog 18 #[.pointer (some ⟨g, 0, none⟩)] w fun e w' => e = .returned (.int .i64 st.length) ∧ w = w' := by
  obtain ⟨na, nc, c⟩ := h.len
  go_enter Try.func18, Try.ntmps18
  go_wp2_with fail
  go_ret
  exact ⟨rfl, rfl⟩
def finG (st : List GN) (n : Int) : Bool := hasG st n && (st.getD n.toNat gn0).final
theorem gFinal_nil (n : Int) (w : World) : Calls Try.prog 20 #[.pointer none, .int .i64 n] w fun e w' => e = .returned (.bool false) ∧ w = w' := by
  have CH := gHas_nil n w
  go_enter Try.func20, Try.ntmps20
  go_wp2_with fail
  refine CH.mono ?_
  rintro e w1 ⟨rfl, rfl⟩
  go_wp2_with fail
  go_ret
  exact ⟨rfl, rfl⟩
theorem gFinal_any (g : Nat) (st : List GN) (S : Nat → Prop) (n : Int) (w : World) (h : GAt g st w S) : Calls Try.prog 20 #[.pointer (some ⟨g, 0, none⟩), .int .i64 n] w fun e w' => e = .returned (.bool (finG st n)) ∧ w = w' := by
  have CH := gHas_any g st S n w h
  unfold finG
  cases hb : hasG st n with
  | false =>
    rw [hb] at CH
    go_enter Try.func20, Try.ntmps20
    go_wp2_with fail
    refine CH.mono ?_
    rintro e w1 ⟨rfl, rfl⟩
    go_wp2_with fail
    go_ret
    exact ⟨rfl, rfl⟩
  | true =>
    rw [hb] at CH
    obtain ⟨k, rfl, hk⟩ := hasG_yes hb
    obtain ⟨q, nc, ea, ec, c0, c1, c2, -, -⟩ := h.node hk
    have i1 : (0 : Int) ≤ (k : Int) := by omega
    have i2 : (k : Int) < (st.length : Int) := by omega
    have e : (k : Int).toNat = k := by omega
    rw [e, Bool.true_and]
    obtain ⟨fb, hfb⟩ : ∃ b, (st.getD k gn0).final = b := ⟨_, rfl⟩
    rw [hfb] at c1 ⊢
    clear e c2 hfb
    go_enter Try.func20, Try.ntmps20
    go_wp2_with fail
    refine CH.mono ?_
    rintro e w1 ⟨rfl, rfl⟩
    go_wp2_with fail
    go_ret
    exact ⟨rfl, rfl⟩
def edgesG (st : List GN) (n : Int) : List EdP := if hasG st n then (st.getD n.toNat gn0).edges else []
def RetEd (w : World) (es : List EdP) (e : Ending) (w' : World) : Prop := ∃ a c, e = .returned (.slice a es.length c) ∧ w'.ownsRow w.heap.size 61 2 (.slice a es.length c) es.length (edsV es) ∧ Below w.heap.size w w'
theorem retEd_own {w w' : World} {a : Option Addr} {c n : Nat} {ys : List EdP} (hn : ys.length = n) (hh : w'.ownsRow w.heap.size 61 2 (.slice a n c) n (edsV ys)) (hb : Below w.heap.size w w') (v : Value) (hv : v = .slice a n c) : RetEd w ys (.returned v) w' := by
  subst hn hv
  exact ⟨a, c, rfl, hh, hb⟩
theorem cloneEd_any (a : Option Addr) (n cap : Nat) (l : List EdP) (w : World) (hh : HoldsEd w a n l) (hnil : a = none → n = 0 ∧ cap = 0) (hn : n ≤ 50000) :
    Calls Try.prog 44 #[.slice a n cap] w (RetEd w l) := by
  obtain ⟨i0, hi, hz0, hz1, hz2⟩ := info_parts edgeG_info
  have hll := hh.len
  cases a with
  | none =>
    obtain ⟨rfl, rfl⟩ := hnil rfl
    obtain rfl : l = [] := List.eq_nil_of_length_eq_zero hll
    have he := fun w => Lib.run_eql_slice_nil (P := Try.prog) w 39 61 none 0 0 0 0 Try.underlying39
    go_enter Try.func44, Try.ntmps44
    go_wp2_with fail
    go_ret
    exact retEd_own rfl (World.ownsRow_nil _ _ _ _) (Below.refl _ _) _ rfl
  | some ad =>
    have hnews : ∀ ad', (some ad : Option Addr) = some ad' → ∀ j u, (edsV l)[j]? = some u → (w.alloc (.cells #[] 61)).cell? (ad'.add j) = some u :=
      HoldsEd.cellsAny hh (World.grownBy_alloc w _ none)
    have HN := Lib.hid hnews
    have hown : (w.alloc (.cells #[] 61)).ownsRow w.heap.size 61 2 (.slice (some ⟨w.heap.size, 0, none⟩) 0 0) 0 [] := World.ownsRow_lit w #[] 0 (Nat.le_refl _) (by unfold maxLen; omega) rfl
    have HO := Lib.hid hown
    clear hnews hown hh
    have he := fun w => Lib.run_eql_slice_nil (P := Try.prog) w 39 61 (some ad) n cap 0 0 Try.underlying39
    go_enter Try.func44, Try.ntmps44
    go_wp2_with (at_builtin; refine wpList_append_any rfl (.tmp 5) (.tmp 6) 39 rfl w.heap.size 61 i0 _ 2 16 Try.underlying39 hi hz0 hz1 hz2 rfl (by decide) _ 0 [] rfl HO.out _ n cap (edsV l) rfl (some_none _) (by rw [edsV_len, hll]) HN.out (edsV_one _) (by unfold maxLen; omega) (by omega) (by simp) ?_; intro a3 c3 w3 hown3 hb3 hnil3)
    rw [Nat.zero_add, List.nil_append] at hown3
    go_ret
    exact retEd_own hll hown3 ((below_one w (.cells #[] 61)).trans (hb3)) _ (by simp)
theorem gEdges_nil (n : Int) (w : World) : Calls Try.prog 19 #[.pointer none, .int .i64 n] w fun e w' => e = .returned (.slice none 0 0) ∧ w = w' := by
  have CH := gHas_nil n w
  go_enter Try.func19, Try.ntmps19
  go_wp2_with fail
  refine CH.mono ?_
  rintro e w1 ⟨rfl, rfl⟩
  go_wp2_with fail
  go_ret
  exact ⟨rfl, rfl⟩
theorem gEdges_any (g : Nat) (st : List GN) (S : Nat → Prop) (n : Int) (w : World) (h : GAt g st w S) (hE : ∀ x ∈ st, x.edges.length ≤ 1000) : Calls Try.prog 19 #[.pointer (some ⟨g, 0, none⟩), .int .i64 n] w (RetEd w (edgesG st n)) := by
  have CH := gHas_any g st S n w h
  unfold edgesG
  cases hb : hasG st n with
  | false =>
    rw [hb] at CH
    rw [if_neg (by simp)]
    go_enter Try.func19, Try.ntmps19
    go_wp2_with fail
    refine CH.mono ?_
    rintro e w1 ⟨rfl, rfl⟩
    go_wp2_with fail
    go_ret
    exact retEd_own rfl (World.ownsRow_nil _ _ _ _) (Below.refl _ _) _ rfl
  | true =>
    rw [hb] at CH
    rw [if_pos rfl]
    obtain ⟨k, rfl, hk⟩ := hasG_yes hb
    obtain ⟨q, nc, ea, ec, c0, c1, c2, c3, c4⟩ := h.node hk
    have i1 : (0 : Int) ≤ (k : Int) := by omega
    have i2 : (k : Int) < (st.length : Int) := by omega
    have e : (k : Int).toNat = k := by omega
    have hx : st.getD k gn0 ∈ st := by rw [List.getD_eq_getElem?_getD, List.getElem?_eq_getElem hk]; simp
    have hle := hE _ hx
    rw [e]
    obtain ⟨es, hes⟩ : ∃ b, (st.getD k gn0).edges = b := ⟨_, rfl⟩
    rw [hes] at c2 c3 c4 hle ⊢
    have CC := Lib.hid (cloneEd_any ea es.length ec es w c3 c4 (by omega))
    clear e c1 hes hx c3 c4
    go_enter Try.func19, Try.ntmps19
    go_wp2_with fail
    refine CH.mono ?_
    rintro e w1 ⟨rfl, rfl⟩
    go_wp2_with fail
    refine CC.out.mono ?_
    rintro e w2 ⟨a, c, rfl, ho, hb2⟩
    go_wp2_with fail
    go_ret
    exact ⟨a, c, rfl, ho, hb2⟩
end Go.Proofs.Ytmmliepkcgdnlaa
/- graph: Next, Has -/
namespace Go.Proofs.Ytmmliepkcgdnlaa
open Go.RowKit
set_option linter.unusedVariables false
set_option maxRecDepth 20000
def findE (r : Int) : List EdP → Int × Bool
  | [] => (0, false)
  | e :: l => if e.r = r then (e.dst, true) else findE r l
theorem findE_at (r : Int) : ∀ (es : List EdP) (j : Nat), j < es.length → (∀ x ∈ es.take j, x.r ≠ r) → (es.getD j ed0).r = r → findE r es = ((es.getD j ed0).dst, true)
  | [], j, h, _, _ => by simp at h
  | e :: l, 0, _, _, h => by
    have h' : e.r = r := h
    rw [findE, if_pos h']; rfl
  | e :: l, j + 1, h, ha, hr => by
    have h' : e.r ≠ r := ha e (by simp)
    rw [findE, if_neg h']
    exact findE_at r l j (by simpa using h) (fun x hx => ha x (by simp [hx])) hr
theorem findE_none (r : Int) : ∀ (es : List EdP), (∀ x ∈ es, x.r ≠ r) → findE r es = (0, false)
  | [], _ => rfl
  | e :: l, h => by
    rw [findE, if_neg (h e (by simp))]
    exact findE_none r l (fun x hx => h x (by simp [hx]))
def nextG (st : List GN) (n r : Int) : Int × Bool := findE r (edgesG st n)
theorem take_ed (l : List EdP) (j : Nat) (h : j < l.length) : l.take (j + 1) = l.take j ++ [l.getD j ed0] := by
  rw [List.take_add_one, List.getElem?_eq_getElem h, List.getD_eq_getElem?_getD, List.getElem?_eq_getElem h]; rfl
theorem gNext_nil (n r : Int) (w : World) : Calls Try.prog 25 #[.pointer none, .int .i64 n, .int .i32 r] w fun e w' => e = .returned (.tuple #[.int .i64 0, .bool false]) ∧ w = w' := by
  have CH := gHas_nil n w
  go_enter Try.func25, Try.ntmps25
  go_wp2_with fail
  refine CH.mono ?_
  rintro e w1 ⟨rfl, rfl⟩
  go_wp2_with fail
  go_ret2
  exact ⟨rfl, rfl⟩
set_option maxHeartbeats 1600000 in
theorem gNext_any (g : Nat) (st : List GN) (S : Nat → Prop) (n r : Int) (w : World) (h : GAt g st w S) (hE : ∀ x ∈ st, x.edges.length ≤ 1000) : Calls Try.prog 25 #[.pointer (some ⟨g, 0, none⟩), .int .i64 n, .int .i32 r] w fun e w' => e = .returned (.tuple #[.int .i64 (nextG st n r).1, .bool (nextG st n r).2]) ∧ Below w.heap.size w w' := by
  have CH := gHas_any g st S n w h
  unfold nextG edgesG
  cases hb : hasG st n with
  | false =>
    rw [hb] at CH
    rw [if_neg (by simp)]
    go_enter Try.func25, Try.ntmps25
    go_wp2_with fail
    refine CH.mono ?_
    rintro e w1 ⟨rfl, rfl⟩
    go_wp2_with fail
    go_ret2
    exact ⟨rfl, Below.refl _ _⟩
  | true =>
    rw [hb] at CH
    rw [if_pos rfl]
    obtain ⟨k, rfl, hk⟩ := hasG_yes hb
    obtain ⟨q, nc, ea, ec, c0, c1, c2, c3, c4⟩ := h.node hk
    have i1 : (0 : Int) ≤ (k : Int) := by omega
    have i2 : (k : Int) < (st.length : Int) := by omega
    have e : (k : Int).toNat = k := by omega
    have hx : st.getD k gn0 ∈ st := by rw [List.getD_eq_getElem?_getD, List.getElem?_eq_getElem hk]; simp
    have hle := hE _ hx
    rw [e]
    obtain ⟨es, hes⟩ : ∃ b, (st.getD k gn0).edges = b := ⟨_, rfl⟩
    rw [hes] at c2 c3 hle ⊢
    obtain ⟨m, hm⟩ : ∃ m, es.length = m := ⟨_, rfl⟩
    rw [hm] at c2 c3 hle
    have HO := Lib.hid c3; have HM := Lib.hid hm
    obtain ⟨v1, hv1⟩ : ∃ v, (findE r es).1 = v := ⟨_, rfl⟩
    obtain ⟨v2, hv2⟩ : ∃ v, (findE r es).2 = v := ⟨_, rfl⟩
    have HV := Lib.hid (show findE r es = (v1, v2) from by rw [← hv1, ← hv2])
    rw [hv1, hv2]
    clear e c1 hes hx c3 c4 hm hv1 hv2 h hE
    go_enter Try.func25, Try.ntmps25
    go_wp2_with fail
    refine CH.mono ?_
    rintro e w1 ⟨rfl, rfl⟩
    go_wp2_with fail
    go_loopw [9, 23] (fun _ iv wr => ∃ (j : Nat), j ≤ m ∧ iv = .int .i64 j ∧ Hid (∀ x ∈ es.take j, x.r ≠ r) ∧ Hid (Below w.heap.size w wr)) (fun _ iv _ => m - (intOf iv).toNat)
    case atStart => exact ⟨0, by omega, rfl, Lib.hid (by simp), Lib.hid (Below.refl _ _)⟩
    case round =>
      obtain ⟨j, hj, rfl, HA, HB0⟩ := hrel
      by_cases hlt : j < m
      · obtain ⟨b, o, rfl, hc⟩ := (HO.out.below HB0.out).at (by omega)
        have B2 := Lib.hid (HB0.out.trans ((below_one wr (.cells #[.int .i32 (es.getD j ed0).r, .int .i64 (es.getD j ed0).dst] 61)).mono HB0.out.size))
        have x0 := hc j hlt
        obtain ⟨ed, hed⟩ : ∃ t, es.getD j ed0 = t := ⟨_, rfl⟩
        rw [hed] at x0 B2
        obtain ⟨x1, x2⟩ := x0
        have n1 : (0 : Int) ≤ (j : Int) := by omega
        have n2 : (j : Int) < (m : Int) := by omega
        by_cases hr : ed.r = r
        · have HF := Lib.hid (show (v1, v2) = (ed.dst, true) from by
            rw [← HV.out, ← hed]; exact findE_at r es j (by have := HM.out; omega) HA.out (by rw [hed]; exact hr))
          have he : (ed.r == r) = true := by simpa using hr
          clear hc hed hr
          go_wp2_with fail
          go_ret2
          have h1 := HF.out
          injection h1 with h1 h2
          subst h1 h2
          exact ⟨rfl, B2.out⟩
        · have HB := Lib.hid (show ∀ x ∈ es.take (j + 1), x.r ≠ r from by
            rw [take_ed es j (by have := HM.out; omega)]
            intro x hx
            rcases List.mem_append.1 hx with hx | hx
            · exact HA.out x hx
            · simp only [List.mem_singleton] at hx
              rw [hx, hed]; exact hr)
          have he : (ed.r == r) = false := by simpa using hr
          clear hc hed hr
          go_wp2_with fail
          go_roundw
          case rel => exact ⟨j + 1, by omega, by go_num, HB, B2⟩
          case measure => simp [intOf] <;> omega
      · obtain rfl : j = m := by omega
        have HF := Lib.hid (show (v1, v2) = (0, false) from by
          rw [← HV.out]; exact findE_none r es (by have h := HA.out; rwa [List.take_of_length_le (by have := HM.out; omega)] at h))
        go_wp2_with fail
        go_ret2
        have h1 := HF.out
        injection h1 with h1 h2
        subst h1 h2
        exact ⟨rfl, HB0.out⟩
/-- where a text leads from a node on -/
def walkG (st : List GN) : List Nat → Int → Option Int
  | [], n => some n
  | r :: l, n => if (nextG st n (r : Int)).2 then walkG st l (nextG st n (r : Int)).1 else none
def endG (st : List GN) : Option Int → Bool
  | some n => finG st n
  | none => false
def hasW (st : List GN) (rs : List Nat) : Bool := endG st (walkG st rs 0)
end Go.Proofs.Ytmmliepkcgdnlaa
/- graph: Has -/
namespace Go.Proofs.Ytmmliepkcgdnlaa
open Go.RowKit
set_option linter.unusedVariables false
set_option maxRecDepth 20000
theorem gWord_nil (s : Tx) (w : World) : Calls Try.prog 29 #[.pointer none, .string s] w fun e w' => e = .returned (.bool false) ∧ Below w.heap.size w w' := by
  go_enter Try.func29, Try.ntmps29
  go_wp2_with fail
  go_loopw [5] (fun iv wr => iv = .int .i64 0 ∧ wr = w.iter s 0) (fun _ _ => 0)
  case atStart => exact ⟨rfl, rfl⟩
  case round =>
    obtain ⟨rfl, rfl⟩ := hrel
    by_cases h0 : 0 < s.size
    · have hnx := fun ty => run_next_any (P := Try.prog) w s 0 ty h0
      have CN := Lib.hid (fun r => gNext_nil 0 r (w.iter s (Utf8.decode s 0).2))
      go_wp2_with fail
      refine (CN.out _).mono ?_
      rintro e w1 ⟨rfl, rfl⟩
      go_wp2_with fail
      go_ret
      exact ⟨rfl, below_one _ _⟩
    · have hnx := fun ty => run_next_end (P := Try.prog) w s 0 ty h0
      have CF := Lib.hid (gFinal_nil 0 (w.iter s 0))
      go_wp2_with fail
      refine CF.out.mono ?_
      rintro e w1 ⟨rfl, rfl⟩
      go_wp2_with fail
      go_ret
      exact ⟨rfl, below_one _ _⟩
set_option maxHeartbeats 1600000 in
theorem gWord_any (g : Nat) (st : List GN) (S : Nat → Prop) (s : Tx) (w : World) (h : GAt g st w S) (hE : ∀ x ∈ st, x.edges.length ≤ 1000) : Calls Try.prog 29 #[.pointer (some ⟨g, 0, none⟩), .string s] w fun e w' => e = .returned (.bool (hasW st (runesS s))) ∧ Below w.heap.size w w' := by
  obtain ⟨R, hR⟩ : ∃ R, walkG st (runesS s) 0 = R := ⟨_, rfl⟩
  have HR := Lib.hid hR
  have HV : hasW st (runesS s) = endG st R := by unfold hasW; rw [hR]
  rw [HV]
  have GH := Lib.hid h; have EH := Lib.hid hE
  clear hR HV h hE
  go_enter Try.func29, Try.ntmps29
  go_wp2_with fail
  go_loopw [5] (fun iv wr => ∃ (pos f : Nat) (k : Int), iv = .int .i64 k ∧ Hid (wr.heap[w.heap.size]? = some (.stringIter s pos)) ∧ Hid (s.size ≤ pos + f) ∧ Hid (walkG st (runesN s f pos) k = R) ∧ Hid (Below w.heap.size w wr)) (fun _ wr => s.size - wr.iterPos w.heap.size)
  case atStart => exact ⟨0, s.size, 0, rfl, Lib.hid (World.iter_heap w s 0), Lib.hid (by omega), HR, Lib.hid (below_one _ _)⟩
  case round =>
    obtain ⟨pos, f, k, rfl, hI, hF, hW, hB⟩ := hrel
    have hz := hB.out.size
    have hsz : w.heap.size < wr.heap.size := (Array.getElem?_eq_some_iff.1 hI.out).1
    by_cases h0 : pos < s.size
    · have hnx := fun ty => Lib.run_next_any_at (P := Try.prog) wr w.heap.size s pos ty hI.out h0
      obtain ⟨f', rfl, hr1, hr2⟩ := runesN_step s f pos h0 hF.out
      have hwd := decode_width s pos h0
      obtain ⟨rv, hrv⟩ : ∃ r, (Utf8.decode s pos).1 = r := ⟨_, rfl⟩
      obtain ⟨wd, hwdd⟩ : ∃ r, (Utf8.decode s pos).2 = r := ⟨_, rfl⟩
      rw [hrv, hwdd] at hr1 hnx
      rw [hwdd] at hr2 hwd
      have hW' := hW.out
      rw [hr1] at hW'
      have HW := Lib.hid hW'; have HF := Lib.hid hr2
      have BI := Lib.hid (Lib.below_iterAt hB.out (show w.heap.size ≤ w.heap.size by omega) s (pos + wd))
      have II := Lib.hid (Lib.iterAt_heap wr _ s pos (pos + wd) hI.out)
      have CN := Lib.hid (gNext_any g st S k (rv : Int) (wr.iterAt w.heap.size s (pos + wd)) ((gAt_ok g st).below GH.out BI.out) EH.out)
      have DI := Lib.hid (show wr.iterPos w.heap.size = pos from by simp [World.iterPos, hI.out])
      obtain ⟨v1, hv1⟩ : ∃ v, (nextG st k (rv : Int)).1 = v := ⟨_, rfl⟩
      obtain ⟨v2, hv2⟩ : ∃ v, (nextG st k (rv : Int)).2 = v := ⟨_, rfl⟩
      have HW2 := Lib.hid (show (if v2 then walkG st (runesN s f' (pos + wd)) v1 else none) = R from by rw [← HW.out, ← hv1, ← hv2]; rfl)
      rw [hv1, hv2] at CN
      clear hr1 hrv hwdd hW' hr2 hW HW hF hv1 hv2
      go_wp2_with fail
      refine CN.out.mono ?_
      rintro e w1 ⟨rfl, hb⟩
      have BW := Lib.hid hb
      clear hb CN
      cases v2 with
      | true =>
        have hW3 := HW2.out
        rw [if_pos rfl] at hW3
        have HW3 := Lib.hid hW3
        have zi : (wr.iterAt w.heap.size s (pos + wd)).heap.size = wr.heap.size := by simp [World.iterAt]
        have I2 := Lib.hid ((BW.out.block w.heap.size (by omega)).trans II.out)
        have B2 := Lib.hid (BI.out.trans (BW.out.mono (by omega)))
        clear hW3 HW2
        go_wp2_with fail
        go_roundw
        case rel => exact ⟨pos + wd, f', v1, rfl, I2, HF, HW3, B2⟩
        case measure =>
          have e1 : w1.iterPos w.heap.size = pos + wd := by simp [World.iterPos, I2.out]
          rw [e1, DI.out]; omega
      | false =>
        have hW3 := HW2.out
        rw [if_neg (by simp)] at hW3
        subst hW3
        go_wp2_with fail
        go_ret
        exact ⟨rfl, BI.out.trans (BW.out.mono (by simp [World.iterAt]; omega))⟩
    · have hnx := fun ty => Lib.run_next_end_at (P := Try.prog) wr w.heap.size s pos ty hI.out h0
      have CF := Lib.hid (gFinal_any g st S k wr ((gAt_ok g st).below GH.out hB.out))
      have e1 := hW.out
      rw [runesN_end s f pos h0] at e1
      subst e1
      go_wp2_with fail
      refine CF.out.mono ?_
      rintro e w1 ⟨rfl, rfl⟩
      go_wp2_with fail
      go_ret
      exact ⟨rfl, hB.out⟩
end Go.Proofs.Ytmmliepkcgdnlaa
/- two lists of api.Edge: held against each other -/
namespace Go.Proofs.Ytmmliepkcgdnlaa
open Go.RowKit
set_option linter.unusedVariables false
set_option maxRecDepth 20000
theorem ssEdges (x : ByteArray) : (x.toList == x.toList) = true := by simp
set_option maxHeartbeats 1600000 in
theorem sameEdges_quiet (a1 a2 : Option Addr) (n c1 c2 : Nat) (z : List EdP) (w : World) (h1 : HoldsEd w a1 n z) (h2 : HoldsEd w a2 n z) (hl : n ≤ 4611686018427387904) :
    Calls Try.prog 22 #[.slice a1 n c1, .slice a2 n c2] w fun e w' => e = .returned (.bool true) ∧ ∃ m, w' = w.drewN m := by
  have H1 := Lib.hid h1; have H2 := Lib.hid h2
  have hb : ((n : Int) != (n : Int)) = false := by simp
  clear h1 h2
  go_enter Try.func22, Try.ntmps22
  go_wp2
  go_loopw [5] (fun i wr => ∃ k m : Nat, k ≤ n ∧ i = .int .i64 k ∧ wr = w.drewN m) (fun i _ => n - (intOf i).toNat)
  case atStart => exact ⟨0, 0, by omega, rfl, rfl⟩
  case round =>
    obtain ⟨k, m, hk, rfl, rfl⟩ := hrel
    by_cases hlt : k < n
    · obtain ⟨b1, o1, rfl, k1⟩ := H1.out.at (by omega)
      obtain ⟨b2, o2, rfl, k2⟩ := H2.out.at (by omega)
      obtain ⟨e0, e1⟩ := k1 k hlt
      obtain ⟨g0, g1⟩ := k2 k hlt
      obtain ⟨x, hx⟩ : ∃ x, z.getD k ed0 = x := ⟨_, rfl⟩
      rw [hx] at e0 e1 g0 g1
      obtain ⟨x1, x2⟩ := x
      simp only at e0 e1 g0 g1
      have f0 : (x1 == x1) = true := by simp
      have f1 : (x2 == x2) = true := by simp
      clear hx k1 k2
      go_wp2
      go_quiet (fail)
      go_wp2
      go_roundw
      case rel => exact ⟨k + 1, _, by omega, by go_num, rfl⟩
      case measure => simp [intOf]; omega
    · go_wp2
      go_ret
      exact ⟨rfl, _, rfl⟩
theorem sameEdges_yes (a1 a2 : Option Addr) (n c1 c2 : Nat) (z : List EdP) (w : World) (h1 : HoldsEd w a1 n z) (h2 : HoldsEd w a2 n z) (hl : n ≤ 4611686018427387904) :
    Calls Try.prog 22 #[.slice a1 n c1, .slice a2 n c2] w fun e w' => e = .returned (.bool true) ∧ Below w.heap.size w w' :=
  (sameEdges_quiet a1 a2 n c1 c2 z w h1 h2 hl).mono fun _ _ ⟨h, m, hm⟩ => ⟨h, by rw [hm]; exact below_drewN _ _⟩
end Go.Proofs.Ytmmliepkcgdnlaa
/- graph: awake, and of no graph -/
namespace Go.Proofs.Ytmmliepkcgdnlaa
open Go.RowKit
set_option linter.unusedVariables false
set_option maxRecDepth 20000
def gAB : Tx := ⟨#[97, 98]⟩
def gCB : Tx := ⟨#[99, 98]⟩
def gB : Tx := ⟨#[98]⟩
theorem aw_good : goodV [gAB, gCB] = 0 := by kernel_rfl
theorem aw_len : (grS [gAB, gCB]).length = 3 := by kernel_rfl
theorem aw_e0 : edgesG (grS [gAB, gCB]) 0 = [⟨97, 1⟩, ⟨99, 1⟩] := by kernel_rfl
theorem aw_has : hasW (grS [gAB, gCB]) (runesS gAB) = true := by kernel_rfl
theorem aw_hasnt : hasW (grS [gAB, gCB]) (runesS gB) = false := by kernel_rfl
theorem aw_few : ∀ x ∈ grS [gAB, gCB], x.edges.length ≤ 1000 := by
  have h : (grS [gAB, gCB]).all (fun x => decide (x.edges.length ≤ 1000)) = true := by kernel_rfl
  intro x hx
  exact of_decide_eq_true (List.all_eq_true.1 h x hx)
theorem holdsT_litG (w : World) (a b : Tx) (e : TypeId) (fr : Nat × Nat) : HoldsT (w.alloc (.cells #[.string a, .string b] e fr)) (some ⟨w.heap.size, 0, none⟩) 2 [a, b] := by
  refine ⟨by simp [strsV], fun _ => ⟨w.heap.size, 0, rfl, fun i hi => ?_⟩⟩
  rw [Nat.zero_add, World.cell?_alloc_mark]
  match i, hi with
  | 0, _ => rfl
  | 1, _ => rfl
theorem holdsEd_lit2 (w : World) (a b : EdP) (e : TypeId) (fr : Nat × Nat) : HoldsEd (w.alloc (.cells #[.int .i32 a.r, .int .i64 a.dst, .int .i32 b.r, .int .i64 b.dst] e fr)) (some ⟨w.heap.size, 0, none⟩) 2 [a, b] := by
  refine ⟨rfl, fun _ => ⟨w.heap.size, 0, rfl, fun i hi => ?_⟩⟩
  match i, hi with
  | 0, _ => constructor <;> (rw [World.cell?_alloc_mark]; rfl)
  | 1, _ => constructor <;> (rw [World.cell?_alloc_mark]; rfl)
/-- a graph in a world that has grown, its blocks the call's own -/
structure CtxG (w0 w : World) (g : Nat) (st : List GN) (S : Nat → Prop) : Prop where
  G : GAt g st w S
  s : ∀ k, S k → w0.heap.size ≤ k
  b : Below w0.heap.size w0 w
theorem CtxG.more {w0 w w' : World} {g : Nat} {st : List GN} {S : Nat → Prop} (c : CtxG w0 w g st S) (hb : Below w.heap.size w w') : CtxG w0 w' g st S :=
  ⟨(gAt_ok g st).below c.G hb, c.s, c.b.trans (hb.mono c.b.size)⟩
theorem build_c {w0 : World} (a : Option Addr) (n cap : Nat) (ts : List Tx) (st : List GN) (w : World) (hw : Below w0.heap.size w0 w) (hh : HoldsT w a n ts) (hc : n ≤ cap) (hn : n ≤ 9223372036854775807) (hs : ∀ t ∈ ts, t.size ≤ 100) (hv : goodV ts = 0) (hst : grS ts = st) :
    Calls Try.prog 14 #[.slice a n cap] w fun e w' => ∃ g S, e = .returned (.tuple #[.pointer (some ⟨g, 0, none⟩), .int .i64 0]) ∧ CtxG w0 w' g st S ∧ Below w.heap.size w w' := by
  subst hst
  exact (build_good a n cap ts w hh hc hn hs hv).mono fun e w' ⟨g, S, e1, h1, h2, h3⟩ => ⟨g, S, e1, ⟨h1, fun k hk => Nat.le_trans hw.size (h2 k hk), hw.trans (h3.mono hw.size)⟩, h3⟩
theorem gNodes_c (v : Int) {w0 : World} {g : Nat} {st : List GN} {S : Nat → Prop} (w : World) (c : CtxG w0 w g st S) (hv : (st.length : Int) = v) :
    Calls Try.prog 18 #[.pointer (some ⟨g, 0, none⟩)] w fun e w' => e = .returned (.int .i64 v) ∧ w = w' := by subst hv; exact gNodes_any g st S w c.G
theorem gEdges_c (n : Int) (es : List EdP) {w0 : World} {g : Nat} {st : List GN} {S : Nat → Prop} (w : World) (c : CtxG w0 w g st S) (hE : ∀ x ∈ st, x.edges.length ≤ 1000) (hv : edgesG st n = es) :
    Calls Try.prog 19 #[.pointer (some ⟨g, 0, none⟩), .int .i64 n] w (RetEd w es) := by subst hv; exact gEdges_any g st S n w c.G hE
theorem gWord_c (s : Tx) (v : Bool) {w0 : World} {g : Nat} {st : List GN} {S : Nat → Prop} (w : World) (c : CtxG w0 w g st S) (hE : ∀ x ∈ st, x.edges.length ≤ 1000) (hv : hasW st (runesS s) = v) :
    Calls Try.prog 29 #[.pointer (some ⟨g, 0, none⟩), .string s] w fun e w' => e = .returned (.bool v) ∧ Below w.heap.size w w' := by subst hv; exact gWord_any g st S s w c.G hE
set_option maxHeartbeats 1600000 in
theorem awakeG_any (w : World) : Calls Try.prog 12 #[] w fun e w' => e = .returned (.bool true) ∧ Below w.heap.size w w' := by
  have B0 := below_one w (.cells #[.string gAB, .string gCB] 9)
  have CB := Lib.hid (build_c (w0 := w) (some ⟨w.heap.size, 0, none⟩) 2 2 [gAB, gCB] (grS [gAB, gCB]) _ B0 (holdsT_litG w gAB gCB 9 (0, 0)) (by decide) (by decide) (by decide) aw_good rfl)
  generalize hst : grS [gAB, gCB] = st at CB
  have A1 := Lib.hid (hst ▸ aw_len); have A2 := Lib.hid (hst ▸ aw_e0); have A3 := Lib.hid (hst ▸ aw_has); have A4 := Lib.hid (hst ▸ aw_hasnt); have A5 := Lib.hid (hst ▸ aw_few)
  clear hst B0
  go_enter Try.func12, Try.ntmps12
  go_wp2_with fail
  refine CB.out.mono ?_
  rintro e w1 ⟨g, S, rfl, hC, -⟩
  have C := Lib.hid hC
  have CN := Lib.hid (gNodes_c 3 w1 hC (by rw [A1.out]; rfl))
  clear hC CB
  go_wp2_with fail
  refine CN.out.mono ?_
  rintro e w2 ⟨rfl, rfl⟩
  have CE := Lib.hid (gEdges_c 0 _ w1 C.out A5.out A2.out)
  clear CN
  go_wp2_with fail
  refine CE.out.mono ?_
  rintro e w3 ⟨ea, ec, rfl, ho, hb⟩
  have C3 := Lib.hid (C.out.more hb)
  have C4 := Lib.hid (C3.out.more (below_one w3 (.cells #[.int .i32 97, .int .i64 1, .int .i32 99, .int .i64 1] 61)))
  have CS := Lib.hid (sameEdges_yes ea (some ⟨w3.heap.size, 0, none⟩) 2 ec 2 [⟨97, 1⟩, ⟨99, 1⟩] _ ((HoldsEd.own ho).below (below_one w3 _)) (holdsEd_lit2 w3 ⟨97, 1⟩ ⟨99, 1⟩ 61 (0, 0)) (by decide))
  clear ho hb CE C C3
  go_wp2_with fail
  refine CS.out.mono ?_
  rintro e w4 ⟨rfl, hb⟩
  have C5 := Lib.hid (C4.out.more hb)
  have CH := Lib.hid (gWord_c gAB true w4 C5.out A5.out A3.out)
  clear hb CS C4
  go_wp2_with fail
  refine CH.out.mono ?_
  rintro e w5 ⟨rfl, hb⟩
  have C6 := Lib.hid (C5.out.more hb)
  have CH := Lib.hid (gWord_c gB false w5 C6.out A5.out A4.out)
  clear hb C5
  go_wp2_with fail
  refine CH.out.mono ?_
  rintro e w6 ⟨rfl, hb⟩
  have C7 := Lib.hid (C6.out.more hb)
  clear hb C6
  go_wp2_with fail
  go_ret
  exact ⟨rfl, C7.out.b⟩
end Go.Proofs.Ytmmliepkcgdnlaa
