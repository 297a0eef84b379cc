/- texts joined -/
import Derived.Test.YtbimbgcejeeinaaPkD
import Derived.Laws.OwnMore
import Derived.Lib.SliceRun
import Derived.Deep.RegionLaw
import Derived.Deep.AppendLies
import Derived.Laws.ResultCell
import Derived.Lib.AppendStr
import Derived.Lib.Strings
import Derived.Lib.ConvBytes
import Derived.Laws.BytesArg
import Derived.Lib.SlBytesRow
import Derived.Test.YtbimbgcejeeinaaPkA
import Derived.Shelf.Strings.Builder1
import Derived.Shelf.Strings.BuilderK
import Derived.Shelf.Strings.BuilderRune
import Derived.Shelf.Utf8.AppendRune
import Derived.Test.YtbimbgcejeeinaaChecked
import Derived.WalkLawsBesides
import Derived.Outline
import Derived.Lib.RuneBytes
import Derived.WalkSpells
import Derived.Deep.QuietTactic
import Derived.BigQuiet
import Derived.Deep.DeepCutAuto
import Derived.Laws.RangeAny
/- graph: reach, its contract -/
namespace Go.Proofs.Ytbimbgcejeeinaa
open Go.RowKit Go.Maps
set_option linter.unusedVariables false
set_option maxRecDepth 20000
theorem nodeG_info : (Try.prog.info? 140).map (fun i => (i.zero, i.size, i.bytes)) = some (some (.agg #[.bool false, .slice none 0 0]), 2, 32) := by kernel_rfl
theorem edgeG_info : (Try.prog.info? 115).map (fun i => (i.zero, i.size, i.bytes)) = some (some (.agg #[.int .i32 0, .int .i64 0]), 2, 16) := by kernel_rfl
def Away (w : World) (S : Nat → Prop) (a : Option Addr) (n : Nat) : Prop := 0 < n → ∀ fb fo, a = some ⟨fb, fo, none⟩ → ¬ S fb ∧ fb < w.heap.size
def ReachP (bb g m : Nat) (w : World) (S : Nat → Prop) (r : Nat × List GN) (e : Ending) (w' : World) : Prop := e = .returned (.int .i64 r.1) ∧ PO (QB bb g m r.2) w S w'
def ReachAny (bb g m f : Nat) : Prop := ∀ (st : List GN) (s : List Tx) (a : Option Addr) (cap : Nat) (S : Nat → Prop) (w : World), QB bb g m st w S → OkL f s → HoldsT w a s.length s → Away w S a s.length → s.length ≤ cap → st.length + wtS s + 1 ≤ 1000000 →
    Calls Try.prog 76 #[.pointer (some ⟨bb, 0, none⟩), .slice a s.length cap] w (ReachP bb g m w S (reachF (f + 1) st s))
set_option maxHeartbeats 6400000 in
set_option maxRecDepth 100000 in
theorem reach_step (bb g m f : Nat) (IH : ∀ f', f = f' + 1 → ReachAny bb g m f') : ReachAny bb g m f := by
  intro st s a cap S w hQ hO hH hA hc hb
  obtain ⟨i0, hi, hz0, hz1, hz2⟩ := info_parts nodeG_info
  obtain ⟨j0, hj, hy0, hy1, hy2⟩ := info_parts edgeG_info
  have IHH := Lib.hid IH; have OK := Lib.hid hO; have HH := Lib.hid hH; have AW := Lib.hid hA; have QW := Lib.hid hQ
  obtain ⟨n, hn⟩ : ∃ n, s.length = n := ⟨_, rfl⟩
  have HN := Lib.hid hn
  rw [hn] at hH hc
  have hn100 : n ≤ 100 := by have := hO.n; omega
  have CN := Lib.hid (nameOf_any a n cap s w hH hn100 hO.sz)
  clear hQ hO hH hA IH
  rw [hn]
  clear hn
  go_enter Try.func76, Try.ntmps76
  go_wp2_with fail
  refine CN.out.mono ?_
  rintro e w' ⟨⟨nm, rfl, hnm⟩, rfl⟩
  have NM := Lib.hid hnm
  have nz : nm.size ≤ 10100 := by
    have h1 := nameL_len s OK.out.sz
    have h2 : nm.data.toList.length = nm.size := by simp
    rw [NM.out] at h2
    have h3 := HN.out
    have : s.length * 101 ≤ 10100 := by omega
    omega
  have nzl : nm.size ≤ maxLen := by unfold maxLen; omega
  clear hnm CN
  obtain ⟨na, nc, NL, B⟩ := QW.out
  obtain ⟨fm, hM, hF⟩ := B.M
  have c0 := B.c0
  have c1 := B.c1
  have BW := Lib.hid B
  have HF := Lib.hid hF
  have fnm : fm nm.data.toList = ointG (findG st s) := by rw [NM.out]; exact hF s OK.out.lo
  have hnl : NL.length = st.length := by have := congrArg List.length B.eq; simpa using this
  clear hF B
  cases hfd : findG st s with
  | some i =>
    rw [hfd] at fnm
    have FN := Lib.hid (show fm nm.data.toList = some (i : Int) from fnm)
    have R := Lib.hid (show reachF (f + 1) st s = (i, st) from by unfold reachF; rw [hfd])
    clear fnm hfd
    go_wp2_with (at_lookup; refine wpList_look_ms rfl _ _ rfl rfl hM nm rfl nzl ?_; rw [FN.out])
    go_ret
    rw [R.out]
    exact ⟨rfl, S, QW.out, fun k hk => Or.inl hk, Turn.refl _ _⟩
  | none =>
    rw [hfd] at fnm
    have FN := Lib.hid (show fm nm.data.toList = none from fnm)
    have FD := Lib.hid hfd
    clear fnm hfd
    have gc := BW.out.G.c
    rw [hnl] at gc
    have HNL := Lib.hid hnl
    clear hnl
    have ms : MapS w m st.length fm := hM
    have hst : st.length < maxLen := by unfold maxLen; omega
    have nwf : (Lit.int .i64 (st.length : Int)).wf = true := Go.WalkArith.wf_i64 (by omega)
    obtain ⟨w2, hrun, ms2, tm2⟩ := ms.put_run hst nm (st.length : Int) nzl nwf
    rw [FN.out] at ms2
    have MS2 := Lib.hid (show MapS w2 m (st.length + 1) (sset fm (nameL s) (some (st.length : Int))) from by rw [← NM.out]; exact ms2)
    have TM2 := Lib.hid tm2
    have t2 := Turn.of_mapTurnedS (F := fun k => k = m) tm2 rfl
    have T2 := Lib.hid t2
    have G2 := Lib.hid (BW.out.G.but t2 BW.out.n1 (fun r hr => (BW.out.n4 r hr).1) (fun x hx fb fo e => (BW.out.n5 x hx fb fo e).1))
    have d0 : w2.cell? ⟨bb, 0, none⟩ = some (.pointer (some ⟨g, 0, none⟩)) := (t2.cell (lt_of_cell c0) BW.out.n2).trans c0
    have dc : w2.cell? ⟨g, 0, none⟩ = some (.slice na st.length nc) := (t2.cell (lt_of_cell gc) BW.out.n1).trans gc
    clear ms2 tm2 t2 ms
    go_upto_region 7 with (at_lookup; refine wpList_look_ms rfl _ _ rfl rfl hM nm rfl nzl ?_; rw [FN.out])
    have OWN := Lib.hid (show w2.drew.ownsRow 0 140 2 (.slice na st.length nc) st.length (nmV NL) from by have := G2.out.o; rw [HNL.out] at this; exact owns_below this (Below.refl _ _).drew)
    have AB := Lib.hid (show ∀ o w', (w2.drew.alloc o).grownBy w' (Value.slice na st.length nc).ownBlock → w'.cell? ⟨bb, 0, none⟩ = some (.pointer (some ⟨g, 0, none⟩)) ∧ w'.cell? ⟨g, 0, none⟩ = some (.slice na st.length nc) ∧ w'.frozen? ⟨g, 0, none⟩ = false from fun o w' hg => by
      have lb := lt_of_cell d0
      have lg := lt_of_cell dc
      have o1 := (hg.block bb (by simp; omega) (fun e => (BW.out.n4 bb (gown_at OWN.out e)).2 rfl)).trans (Below.heap_alloc w2.drew o bb lb)
      have o2 := (hg.block g (by simp; omega) (fun e => (BW.out.G.sn g (gown_at OWN.out e)).2 rfl)).trans (Below.heap_alloc w2.drew o g lg)
      exact ⟨(World.cell?_of_block (w := w2) o1).trans d0, (World.cell?_of_block (w := w2) o2).trans dc, (World.frozen?_of_block (w := w2) o2).trans (G2.out.f 0)⟩)
    have n1 : w2.drew.cell? ⟨bb, 0, none⟩ = some (.pointer (some ⟨g, 0, none⟩)) := d0
    have n2 : w2.drew.cell? ⟨g, 0, none⟩ = some (.slice na st.length nc) := dc
    have n3 : (w2.alloc (.cells #[.bool false, .slice none 0 0] 140)).drew.cell? ⟨bb, 0, none⟩ = some (.pointer (some ⟨g, 0, none⟩)) := (Below.cell (below_one w2 _) (p := ⟨bb, 0, none⟩) (lt_of_cell d0)).trans d0
    have n4 : (w2.alloc (.cells #[.bool false, .slice none 0 0] 140)).drew.cell? ⟨g, 0, none⟩ = some (.slice na st.length nc) := (Below.cell (below_one w2 _) (p := ⟨g, 0, none⟩) (lt_of_cell dc)).trans dc
    have n5 : (w2.alloc (.cells #[.bool false, .slice none 0 0] 140)).cell? ⟨bb, 0, none⟩ = some (.pointer (some ⟨g, 0, none⟩)) := n3
    have n6 : (w2.alloc (.cells #[.bool false, .slice none 0 0] 140)).cell? ⟨g, 0, none⟩ = some (.slice na st.length nc) := n4
    have hst2 : st.length ≤ 1000000 := by omega
    clear hM c0 c1 gc hrun
    go_cut [] (fun wc => Hid (PO (QB bb g m (st ++ [⟨s, false, []⟩])) w S wc))
    case first =>
      go_region_law
        (refine step_append_lies _ (by rfl) _ _ _ (by rfl) 0 140 i0 _ 2 32 Try.underlying102 hi hz0 hz1 hz2 rfl (by omega) (.slice na st.length nc) st.length (nmV NL) (by rfl) (OWN.out.alloc _) ⟨w2.drew.heap.size, 0, none⟩ 1 1 [.bool false, .slice none 0 0] (by rfl) (by rfl) (World.news_of_block (cs := #[.bool false, .slice none 0 0]) (t := 140) (fr := (0, 0)) (heap_alloc_new w2.drew _)) (by simp [Value.oneCell']) (by omega) (by unfold maxLen; omega) (by omega) (by omega) (w2.drew.heap.size + 1) (by simp) ?_; intro g3 c3 w3 hown3 hgrow3 hat3 hlt3; obtain ⟨x0, x1, x2⟩ := AB.out _ _ hgrow3)
      all_goals
        have FR := Lib.hid (BW.out.fresh (w2 := w2.drew) (w3 := w3) (q := g3) (cap := c3) (s := s) (fm := fm) (MapS.block MS2.out rfl) T2.out.drew HF.out OK.out.lo FD.out (by rw [HNL.out]; exact hown3) (by rw [HNL.out]; exact hgrow3) (by rw [HNL.out]; exact hat3.imp id (fun e => by simp; exact e)) hlt3)
        rw [HNL.out] at FR
        clear hown3 hgrow3 hat3 hlt3 x0 x1 x2
        go_wp2_with fail
        go_meet
        obtain ⟨S', h1, h2, h3⟩ := FR.out
        exact Lib.hid ⟨S', ⟨_, _, _, h1⟩, h2, h3⟩
    case rest =>
      rename World => wc
      obtain ⟨Sc, qc, sc0, tc⟩ := hcut.out
      have HHT := Lib.hid (show HoldsT wc a s.length s from holdsT_turn HH.out tc (fun h0 fb fo e => (AW.out h0 fb fo e).1))
      have LC := (qb_ok bb g m (st ++ [⟨s, false, []⟩])).lt qc
      have R0 := Lib.hid (show RL bb g m w S wc.heap.size false (st ++ [⟨s, false, []⟩]) none 0 [] a s Sc (wc.alloc (.cells #[.bool false, .slice none 0 0] 140)) from
        ⟨(qb_ok bb g m _).below qc (below_one wc _), sc0, tc.trans (Turn.of_below (below_one wc _)), fun hk => by have := LC _ hk; omega, tc.size, by rw [cell_alloc rfl]; rfl, by rw [cell_alloc rfl]; rfl, fun i => frozen_alloc rfl, World.ownsRow_nil _ _ _ _, fun k e => (by cases e), HHT.out.below (below_one wc _), AW.out⟩)
      have ED := Lib.hid (show reachF (f + 1) st s = (st.length, (edgesF (reachF f) (bodS s).length (bodS s) [] (st ++ [⟨s, false, []⟩])).2.set st.length ⟨s, finS s, (edgesF (reachF f) (bodS s).length (bodS s) [] (st ++ [⟨s, false, []⟩])).1⟩) from by conv => lhs; unfold reachF; rw [FD.out])
      clear hcut qc sc0 tc LC HHT d0 dc n1 n2 n3 n4 n5 n6 OWN AB MS2 TM2 T2 G2 BW HF FN FD hst nwf NM nz nzl QW
      go_upto_region 9 with fail
      generalize wc.alloc (.cells #[.bool false, .slice none 0 0] 140) = w4 at *
      obtain ⟨p, hp⟩ : ∃ p, wc.heap.size = p := ⟨_, rfl⟩
      rw [hp] at R0
      rw [hp]
      clear hp
      obtain ⟨zf, hzf⟩ : ∃ z, finS s = z := ⟨_, rfl⟩
      have HZF := Lib.hid hzf
      obtain ⟨R, hR⟩ : ∃ r, edgesF (reachF f) (bodS s).length (bodS s) [] (st ++ [⟨s, false, []⟩]) = r := ⟨_, rfl⟩
      rw [hR] at ED
      have HR := Lib.hid hR
      clear hzf hR
      go_cut [64] (fun u wd => u = .bool zf ∧ w4 = wd)
      case first =>
        rcases Nat.eq_zero_or_pos n with hn0 | hn0
        · subst hn0
          have hs0 : s = [] := List.eq_nil_of_length_eq_zero HN.out
          obtain rfl : zf = false := by rw [← HZF.out, hs0]; rfl
          clear hs0
          go_wp2_with fail
          go_meet
          exact ⟨rfl, rfl⟩
        · have hd1 : decide ((n : Int) > 0) = true := decide_eq_true (by omega)
          have hd2 : decide (0 < n) = true := decide_eq_true hn0
          have hih := R0.out.hl
          rw [HN.out] at hih
          obtain ⟨b, o, rfl, hcc⟩ := hih.at hn0
          have x0 := hcc 0 hn0
          obtain ⟨t, ht⟩ : ∃ t, s.getD 0 ByteArray.empty = t := ⟨_, rfl⟩
          rw [ht, Nat.add_zero] at x0
          have hni : (0 : Int) < (n : Int) := by omega
          have hzt : t.toList.isEmpty = zf := by
            rw [← HZF.out]
            have hs2 : s.head? = some t := by
              have hsl := HN.out
              cases hs3 : s with
              | nil => rw [hs3] at hsl; simp at hsl; omega
              | cons t' l' => rw [hs3] at ht; simp at ht; simp [ht]
            unfold finS
            rw [hs2, Bool.eq_iff_iff]
            simp only [decide_eq_true_eq, List.isEmpty_iff]
            constructor
            · intro h; rw [(tx_nil t).2 h]
            · intro h; exact (tx_nil t).1 (by injection h)
          have hzt2 : (t.toList == []) = zf := by rw [← hzt]; cases t.toList <;> rfl
          clear hcc hih ht
          go_wp2_with fail
          go_meet
          exact ⟨by first | rfl | rw [hzt] | rw [hzt2], rfl⟩
      case rest =>
        obtain ⟨rfl, rfl⟩ := hcut
        go_upto_if 64 with fail
        go_cut [1] (fun v wd => ∃ sa sc, v = .slice sa (bodS s).length sc ∧ Hid ((bodS s).length ≤ sc) ∧ Hid (RL bb g m w S p zf (st ++ [⟨s, false, []⟩]) none 0 [] sa (bodS s) Sc wd))
        case first =>
          cases zf
          · have hbs : bodS s = s := by unfold bodS; rw [HZF.out]; rfl
            have HBS := Lib.hid hbs
            clear hbs
            go_wp2_with fail
            go_meet
            exact ⟨a, cap, by rw [HBS.out, HN.out], Lib.hid (by rw [HBS.out, HN.out]; exact hc), Lib.hid (by rw [HBS.out]; exact R0.out)⟩
          · obtain ⟨l, hsl⟩ : ∃ l, s = ⟨#[]⟩ :: l := by
              have h := HZF.out
              unfold finS at h
              have h2 := of_decide_eq_true h
              cases s with
              | nil => simp at h2
              | cons t l => simp at h2; exact ⟨l, by rw [h2]⟩
            have hbs : bodS s = l := by unfold bodS; rw [HZF.out, hsl]; rfl
            obtain ⟨k, rfl⟩ : ∃ k, n = k + 1 := ⟨l.length, by rw [← HN.out, hsl]; rfl⟩
            have hlk : l.length = k := by have := HN.out; rw [hsl] at this; simpa using this
            obtain ⟨c, rfl⟩ : ∃ c, cap = c + 1 := ⟨cap - 1, by omega⟩
            have hih := R0.out.hl
            rw [HN.out] at hih
            obtain ⟨b, o, rfl, hcc⟩ := hih.at (by omega)
            obtain ⟨o', hA, hAH⟩ : ∃ o', (if c = 0 then some (⟨b, o, none⟩ : Addr) else some ⟨b, o + 1, none⟩) = some ⟨b, o', none⟩ ∧ Hid (HoldsT w4 (some ⟨b, o', none⟩) k l) := by
              by_cases hc0 : c = 0
              · have hk0 : k = 0 := by omega
                subst hk0
                have hl0 : l = [] := List.eq_nil_of_length_eq_zero hlk
                exact ⟨o, by rw [if_pos hc0], Lib.hid (by rw [hl0]; exact HoldsT.nil _ _)⟩
              · refine ⟨o + 1, by rw [if_neg hc0], Lib.hid (HoldsT.of hlk (fun i hi => ?_))⟩
                have h := hcc (i + 1) (by omega)
                rw [hsl, List.getD_cons_succ] at h
                rw [show o + 1 + i = o + (i + 1) by omega]
                exact h
            have HBS := Lib.hid hbs; have HLK := Lib.hid hlk
            have z0 := R0.out.c0
            have zf0 := R0.out.fr 0
            have i1 : (1 : Int) ≤ (k : Int) + 1 := by omega
            have i2 : (1 : Int) ≤ ((k + 1 : Nat) : Int) := by omega
            have RN := Lib.hid (show RL bb g m w S p true (st ++ [⟨s, false, []⟩]) none 0 [] (some ⟨b, o', none⟩) l Sc (w4.setCell ⟨p, 0, none⟩ (.bool true)) from
              R0.out.flag (b := true) (by rw [hlk]; exact hAH.out) (fun h0 fb fo e => by injection e with e; injection e with e1 e2; subst e1; exact R0.out.la (by rw [hsl]; simp) b o rfl))
            clear hcc hih hbs hlk hsl
            go_wp2_with fail
            go_meet
            exact ⟨some ⟨b, o', none⟩, c, by rw [HBS.out, HLK.out], Lib.hid (by rw [HBS.out, HLK.out]; omega), Lib.hid (by rw [HBS.out]; exact RN.out)⟩
        case rest =>
          obtain ⟨sa, sc, rfl, hsc, hR1⟩ := hcut
          rename World => w5
          have hok : OkL f (bodS s) ∧ ∀ t ∈ bodS s, 0 < t.size := ⟨OK.out.bod, bod_pos OK.out.ord⟩
          have HOK := Lib.hid hok
          have hbl : (bodS s).length ≤ 100 := hok.1.n
          have HWT := Lib.hid (show (st ++ [(⟨s, false, []⟩ : GN)]).length + wtS (bodS s) ≤ 1000000 from by rw [List.length_append, List.length_singleton]; have := wt_bod s; omega)
          have HLT := Lib.hid (show st.length < (st ++ [(⟨s, false, []⟩ : GN)]).length from by rw [List.length_append, List.length_singleton]; omega)
          clear hok
          go_wp2_with fail
          go_loopw [1] (fun v wr => ∃ (k : Nat) (l : List Tx) (es : List EdP) (st1 : List GN) (S1 : Nat → Prop) (ea : Option Addr) (ec : Nat) (sa : Option Addr) (sc : Nat), v = .slice sa l.length sc ∧ l.length ≤ k ∧ es.length + k ≤ 100 ∧ Hid (l.length ≤ sc) ∧ Hid (edgesF (reachF f) k l es st1 = R) ∧ Hid (OkL f l ∧ ∀ t ∈ l, 0 < t.size) ∧ Hid (st1.length + wtS l ≤ 1000000) ∧ Hid (st.length < st1.length) ∧ Hid ((st1.getD st.length gn0).rests = s) ∧ Hid (RL bb g m w S p zf st1 ea ec es sa l S1 wr)) (fun v _ => sliceLenG v)
          case atStart => exact ⟨(bodS s).length, bodS s, [], _, Sc, none, 0, sa, sc, rfl, Nat.le_refl _, by simpa using hbl, hsc, HR, HOK, HWT, HLT, Lib.hid (by simp [List.getD_eq_getElem?_getD]), hR1⟩
          case round =>
            clear hR1 hsc HOK HWT HLT hbl
            obtain ⟨k, l, es, st1, S1, ea, ec, sa, sc, rfl, hlk, hek, hsc, hE, hOK, hWT, hLT, hRS, hRL⟩ := hrel
            rename World => wr
            by_cases hl0 : l = []
            · subst hl0
              have hRR : R = (es, st1) := by
                rw [← hE.out]
                cases k with
                | zero => rfl
                | succ k => unfold edgesF; rw [if_pos rfl]
              obtain ⟨na1, nc1, NL1, q, hB, hqa, ⟨vq0, hq0⟩, ⟨vq1, hq1⟩, hqf, hqn, hPO⟩ := hRL.out.target st.length hLT.out s hRS.out
              have c0 := hB.c0
              have gc := hB.G.c
              have p0 := hRL.out.c0
              have p1 := hRL.out.c1
              have qb : q ≠ bb := (hB.n4 q hqa).2
              have qg : q ≠ g := (hB.G.sn q hqa).2
              have qp : q ≠ p := hqn
              have hnl1 : NL1.length = st1.length := by have := congrArg List.length hB.eq; simpa using this
              rw [hnl1] at gc
              subst hqa
              have f1 := hqf (st.length * 2)
              have f2 := hqf (st.length * 2 + 1)
              have i1 : (0 : Int) ≤ (st.length : Int) := by omega
              have i2 : (st.length : Int) < (st1.length : Int) := by have := hLT.out; omega
              have FIN := Lib.hid hPO
              have HRR := Lib.hid hRR
              clear hB hnl1 hqf hPO hRR hqn
              go_upto_region 16 with fail
              go_region_held3 (fun w' => w'.cell? ⟨bb, 0, none⟩ = some (.pointer (some ⟨g, 0, none⟩)) ∧ w'.cell? ⟨g, 0, none⟩ = some (.slice (some ⟨q, 0, none⟩) st1.length nc1) ∧ w'.cell? ⟨p, 0, none⟩ = some (.bool zf) ∧ w'.cell? ⟨p, 1, none⟩ = some (.slice ea es.length ec))
                (first | assumption | exact ⟨c0, gc, p0, p1⟩ | exact g4_store qb qg qp ⟨c0, gc, p0, p1⟩)
                (fail)
              all_goals
                go_wp2_with fail
                go_ret
                rw [ED.out, HRR.out, HZF.out]
                exact ⟨rfl, FIN.out.more (qb_ok bb g m _) (Below.refl _ _).drew⟩
            · have hpos : 0 < l.length := by cases l with
                | nil => exact absurd rfl hl0
                | cons t l => simp
              obtain ⟨k, rfl⟩ : ∃ k', k = k' + 1 := ⟨k - 1, by omega⟩
              obtain ⟨f', rfl⟩ : ∃ f', f = f' + 1 := by
                refine ⟨f - 1, ?_⟩
                have hm : l.getD 0 ByteArray.empty ∈ l := getD_tx hpos
                have h1 := rst_len (hOK.out.1.lo _ hm) (hOK.out.2 _ hm)
                have h2 := hOK.out.1.hi _ hm
                omega
              have C := Lib.hid (IHH.out f' rfl)
              have hl100 := hOK.out.1.n
              have CF := Lib.hid (follow_any sa l.length sc l wr hRL.out.hl hpos hl100 hOK.out.2 hOK.out.1.sz)
              have HFL := Lib.hid (fol_len l hl0)
              have HWF := Lib.hid (wt_fol hl0 hOK.out.1.lo hOK.out.2)
              have OKF := Lib.hid (hOK.out.1.fol hOK.out.2)
              obtain ⟨⟨lab, rs⟩, hfo⟩ : ∃ r, folS l = r := ⟨_, rfl⟩
              have hEE := hE.out
              unfold edgesF at hEE
              rw [if_neg hl0, hfo] at hEE
              unfold FolP at CF
              rw [hfo] at CF HFL HWF OKF
              obtain ⟨⟨ix, st2⟩, hre⟩ : ∃ r, reachF (f' + 1) st1 rs = r := ⟨_, rfl⟩
              simp only at hEE
              rw [hre] at hEE
              have HE := Lib.hid hEE
              have HRE := Lib.hid hre
              have RLN := Lib.hid (reach_len f' st1 rs OKF.out)
              rw [hre] at RLN
              have hpi : (0 : Int) < (l.length : Int) := by omega
              have hd1 : decide ((l.length : Int) > 0) = true := decide_eq_true (by omega)
              have hd2 : decide (0 < l.length) = true := decide_eq_true hpos
              clear hEE hre hE hfo
              go_wp2_with fail
              refine CF.out.mono ?_
              rintro e w6 ⟨fa, fc, rfl, hfo, hb6⟩
              simp only at hfo ⊢
              have R6 := Lib.hid (hRL.out.more hb6)
              have FA := Lib.hid hfo
              have FW := Lib.hid (show Away w6.drew S1 fa rs.length from fun h0 fb fo e => by
                have h1 := own_blockG hfo e
                exact ⟨fun hk => by have := hRL.out.qlt fb hk; omega, h1.2⟩)
              have C6 := Lib.hid (C.out st1 rs fa fc S1 w6.drew ((qb_ok bb g m st1).below R6.out.q (Below.refl _ _).drew) OKF.out ((HoldsT.own FA.out).below (Below.refl _ _).drew) FW.out (owns_none FA.out).2 (by have := hWT.out; have := HWF.out; omega))
              rw [HRE.out] at C6
              clear hfo hb6 CF C FW
              have R6d := Lib.hid (R6.out.more (Below.refl w6.heap.size w6).drew)
              have y0 := R6d.out.c1
              have hes : es.length ≤ 100 := by omega
              go_upto_region 14 with fail
              go_cut [] (fun wd => Hid (∃ S2 ea2 ec2, RL bb g m w S p zf st2 ea2 ec2 (es ++ [⟨(lab : Int), (ix : Int)⟩]) sa l S2 wd))
              case first =>
                go_region_law
                  (first
                    | (refine step_append_lies _ (by rfl) _ _ _ (by rfl) w.heap.size 115 j0 _ 2 16 Try.underlying110 hj hy0 hy1 hy2 rfl (by omega) (.slice ea es.length ec) es.length (edsV es) (by first | rfl | (simp [Act.eval]; done) | simp [Act.eval, Act.put]) (hR7.o.alloc _) ⟨w7.heap.size, 0, none⟩ 1 1 [.int .i32 (lab : Int), .int .i64 (ix : Int)] (by first | rfl | (simp [Act.eval]; done) | simp [Act.eval, Act.put]) (by rfl) (World.news_of_block (cs := #[.int .i32 (lab : Int), .int .i64 (ix : Int)]) (t := 115) (fr := (0, 0)) (heap_alloc_new w7 _)) (by simp [Value.oneCell']) (by omega) (by unfold maxLen; omega) (by omega) (by have := hR7.t.size; simp; omega) (w7.heap.size + 1) (by simp) ?_; intro g3 c3 w8 hown8 hgrow8 hat8 hlt8; obtain ⟨x0, x1⟩ := hR7.keep hgrow8)
                    | (go_simp; go_at_call 76; (with_reducible refine C6.out.mono ?_); rintro e w7 ⟨rfl, hPO⟩; obtain ⟨S2, hR7⟩ := R6d.out.step hPO; have y1 := hR7.c1; have y3 := fun o => ((below_one w7 o).cell (p := ⟨p, 1, none⟩) (lt_of_cell y1)).trans y1))
                all_goals
                  have RN := Lib.hid (hR7.edge (x := ⟨(lab : Int), (ix : Int)⟩) hown8 hgrow8 (hat8.imp id (fun e => by simp; exact e)))
                  clear hown8 hgrow8 hat8 hlt8 x0 x1 y1 y3
                  go_wp2_with fail
                  go_meet
                  exact Lib.hid ⟨S2, _, _, RN.out⟩
              case rest =>
                obtain ⟨S2, ea2, ec2, hR8⟩ := hcut.out
                rename World => w9
                have R8 := Lib.hid hR8
                clear hcut hR8 R6 R6d C6 y0 FA
                obtain ⟨b, o, rfl, hcc⟩ := R8.out.hl.at hpos
                obtain ⟨d, hd⟩ : ∃ d, rs.length = d := ⟨_, rfl⟩
                rw [hd] at HFL HWF HE
                rw [hd]
                clear hd
                have hd1' := HFL.out.1
                have hd2' := HFL.out.2
                have hsc' := hsc.out
                obtain ⟨o', hA, hAH⟩ : ∃ o', (if sc = d then some (⟨b, o, none⟩ : Addr) else some ⟨b, o + d, none⟩) = some ⟨b, o', none⟩ ∧ Hid (HoldsT w9 (some ⟨b, o', none⟩) (l.drop d).length (l.drop d)) := by
                  by_cases hc0 : sc = d
                  · have hl0' : l.drop d = [] := List.drop_eq_nil_of_le (by omega)
                    exact ⟨o, by rw [if_pos hc0], Lib.hid (by rw [hl0']; exact HoldsT.nil _ _)⟩
                  · refine ⟨o + d, by rw [if_neg hc0], Lib.hid (HoldsT.of rfl (fun i hi => ?_))⟩
                    rw [List.length_drop] at hi
                    have h := hcc (d + i) (by omega)
                    rw [show o + d + i = o + (d + i) by omega, h]
                    congr 2
                    simp [List.getD_eq_getElem?_getD]
                have RN := Lib.hid (R8.out.other hAH.out (fun h0 fb fo e => by injection e with e; injection e with e1 e2; subst e1; exact R8.out.la hpos b o rfl))
                have i1 : (0 : Int) ≤ (d : Int) := by omega
                have i2 : (d : Int) ≤ (l.length : Int) := by omega
                have ldr : l.length - d = (l.drop d).length := by rw [List.length_drop]
                have LDR := Lib.hid ldr
                clear hcc ldr
                go_wp2_with fail
                go_roundw
                case rel => exact ⟨k, l.drop d, es ++ [⟨(lab : Int), (ix : Int)⟩], st2, S2, ea2, ec2, some ⟨b, o', none⟩, sc - d, by rw [LDR.out], by rw [List.length_drop]; omega, by simp; omega, Lib.hid (by rw [List.length_drop]; omega), HE, Lib.hid ⟨hOK.out.1.drop _, fun t ht => hOK.out.2 t (List.mem_of_mem_drop ht)⟩, Lib.hid (by have := hWT.out; have := HWF.out; have := RLN.out; omega), Lib.hid (by have := hLT.out; have := RLN.out; omega), Lib.hid (by rw [← hRS.out]; have := reach_rests f' st1 rs OKF.out st.length hLT.out; rw [HRE.out] at this; exact this), RN⟩
                case measure => simp only [sliceLenG]; rw [LDR.out, List.length_drop]; omega
theorem reach_any (bb g m : Nat) : ∀ f, ReachAny bb g m f := by
  intro f
  induction f with
  | zero => exact reach_step bb g m 0 (fun f' e => by omega)
  | succ f ih => exact reach_step bb g m (f + 1) (fun f' e => by obtain rfl : f = f' := by omega
                                                                 exact ih)
end Go.Proofs.Ytbimbgcejeeinaa
/- graph: Build, and what is asked of a graph -/
namespace Go.Proofs.Ytbimbgcejeeinaa
open Go.RowKit Go.Maps
set_option linter.unusedVariables false
set_option maxRecDepth 20000
/-- the nodes of the words -/
def grS (ts : List Tx) : List GN := (reachF 13 [] ts).2
theorem ok_good {ts : List Tx} (h : goodV ts = 0) (hsz : ∀ t ∈ ts, t.size ≤ 100) : OkL 12 ts := by
  obtain ⟨h1, h2, h3⟩ := goodV_zero h
  exact ⟨h3, fun t ht => by have := (h2 t ht).1; omega, fun t ht => (h2 t ht).2, by omega, hsz⟩
theorem wt_good : ∀ (ts : List Tx), (∀ t ∈ ts, lenS t ≤ 12) → wtS ts ≤ ts.length * 12
  | [], _ => by simp [wtS]
  | t :: l, h => by
    have h1 := wt_good l (fun u hu => h u (by simp [hu]))
    have h2 := h t (by simp)
    simp only [wtS, List.length_cons]
    omega
def BuildP (w : World) (ts : List Tx) (e : Ending) (w' : World) : Prop := ∃ g S, e = .returned (.tuple #[.pointer (some ⟨g, 0, none⟩), .int .i64 0]) ∧ GAt g (grS ts) w' S ∧ (∀ k, S k → w.heap.size ≤ k) ∧ Below w.heap.size w w'
theorem build_bad (a : Option Addr) (n cap : Nat) (ts : List Tx) (v : Int) (w : World) (hh : HoldsT w a n ts) (hn : n ≤ 9223372036854775807) (hs : ∀ t ∈ ts, t.size ≤ 9223372036854775807) (hv : goodV ts = v) (h0 : v ≠ 0) :
    Calls Try.prog 49 #[.slice a n cap] w fun e w' => e = .returned (.tuple #[.pointer none, .int .i64 v]) ∧ Below w.heap.size w w' := by
  have CG := Lib.hid (good_any' a n cap ts w hh hn hs)
  rw [hv] at CG
  have hne : (v != 0) = true := by simpa using h0
  clear hh hs hv h0
  go_enter Try.func49, Try.ntmps49
  go_wp2_with fail
  refine CG.out.mono ?_
  rintro e w1 ⟨rfl, hb⟩
  have B1 := Lib.hid hb
  clear hb
  go_wp2_with fail
  go_ret2
  exact ⟨rfl, B1.out⟩
theorem qb_start (w1 : World) (t1 t2 : TypeId) : QB (w1.heap.size + 1 + 1) w1.heap.size (w1.heap.size + 1) [] (((w1.alloc (Obj.cells #[Value.slice none 0 0] t1)).alloc (Obj.map #[] 0)).alloc (Obj.cells #[Value.pointer (some { block := w1.heap.size, off := 0 }), Value.map (some (w1.heap.size + 1))] t2)) (fun k => w1.heap.size ≤ k ∧ k < w1.heap.size + 3) := by
  have hm := mapS_made (w1.alloc (Obj.cells #[Value.slice none 0 0] t1))
  rw [show (w1.alloc (Obj.cells #[Value.slice none 0 0] t1)).heap.size = w1.heap.size + 1 from by simp] at hm
  have hb := Below.heap_alloc ((w1.alloc (Obj.cells #[Value.slice none 0 0] t1)).alloc (Obj.map #[] 0)) (Obj.cells #[Value.pointer (some { block := w1.heap.size, off := 0 }), Value.map (some (w1.heap.size + 1))] t2)
  have hc := Below.heap_alloc (w1.alloc (Obj.cells #[Value.slice none 0 0] t1)) (Obj.map #[] 0)
  have b0 := (hb w1.heap.size (by simp; omega)).trans (hc w1.heap.size (by simp))
  have b1 := hb (w1.heap.size + 1) (by simp)
  refine ⟨none, 0, [], ⟨⟨?_, fun i => ?_, World.ownsRow_nil _ 0 _ 2, fun x hx => by simp at hx, ⟨by omega, by omega⟩, fun q hq => by (cases hq), fun k hk => ?_⟩, rfl, ?_, ?_, ⟨fun _ => none, hm.block b1, fun l _ => rfl⟩, ⟨by omega, by omega⟩, ⟨by omega, by omega⟩, by omega, by omega, by omega, fun q hq => by (cases hq), fun x hx => by simp at hx⟩⟩
  · rw [World.cell?_of_block (w := w1.alloc (Obj.cells #[Value.slice none 0 0] t1)) b0, World.cell?_alloc_at _ _ _ _ rfl]; rfl
  · rw [World.frozen?_of_block (w := w1.alloc (Obj.cells #[Value.slice none 0 0] t1)) b0, World.frozen?_alloc_at _ _ _ _ rfl]
  · simp; omega
  · rw [World.cell?_alloc_at _ _ _ _ (by simp)]; rfl
  · rw [World.cell?_alloc_at _ _ _ _ (by simp)]; rfl
set_option maxHeartbeats 1600000 in
theorem build_good (a : Option Addr) (n cap : Nat) (ts : List Tx) (w : World) (hh : HoldsT w a n ts) (hc : n ≤ cap) (hn : n ≤ 9223372036854775807) (hs : ∀ t ∈ ts, t.size ≤ 100) (hv : goodV ts = 0) :
    Calls Try.prog 49 #[.slice a n cap] w (BuildP w ts) := by
  have CG := Lib.hid (good_any' a n cap ts w hh hn (fun t ht => by have := hs t ht; omega))
  rw [hv] at CG
  have OK := Lib.hid (ok_good hv hs)
  have HH := Lib.hid hh
  have hl := hh.len
  have HL := Lib.hid hl
  have hmm := @run_makeMap Try.prog
  clear hh hs hv hl
  go_enter Try.func49, Try.ntmps49
  go_wp2_with fail
  refine CG.out.mono ?_
  rintro e w1 ⟨rfl, hb⟩
  have B1 := Lib.hid hb
  clear hb CG
  go_upto_region 5 with fail
  have Q0 := Lib.hid (qb_start w1 104 107)
  obtain ⟨w2, hw2⟩ : ∃ w2, (((w1.alloc (Obj.cells #[Value.slice none 0 0] 104)).alloc (Obj.map #[] 0)).alloc (Obj.cells #[Value.pointer (some { block := w1.heap.size, off := 0 }), Value.map (some (w1.heap.size + 1))] 107)) = w2 := ⟨_, rfl⟩
  have B2 := Lib.hid (show Below w.heap.size w w2 from by
    rw [← hw2]
    have z1 := B1.out.size
    exact B1.out.trans (((below_one _ _).mono z1).trans (((below_one _ _).mono (by simp; omega)).trans ((below_one _ _).mono (by simp; omega)))))
  have hz2 : w2.heap.size = w1.heap.size + 3 := by rw [← hw2]; simp
  rw [hw2] at Q0
  rw [hw2]
  have CR := Lib.hid (reach_any (w1.heap.size + 1 + 1) w1.heap.size (w1.heap.size + 1) 12 [] ts a cap _ w2 Q0.out OK.out (HL.out.symm ▸ (HH.out.below B2.out)) (fun h0 fb fo e => by
    rw [HL.out] at h0
    obtain ⟨b, o, e2, hc2⟩ := HH.out.at h0
    have h3 := lt_of_cell (hc2 0 h0)
    rw [e2] at e
    injection e with e; injection e with e4 e5
    have z1 := B1.out.size
    exact ⟨by omega, by omega⟩) (by rw [HL.out]; exact hc) (by
    have h3 := wt_good ts OK.out.hi
    have h4 := OK.out.n
    simp only [List.length_nil]; omega))
  rw [HL.out] at CR
  clear hw2 Q0
  go_wp2_with fail
  refine CR.out.mono ?_
  rintro e w3 ⟨rfl, S3, ⟨na, nc, NL, hB⟩, hs3, ht3⟩
  have B := Lib.hid hB; have T3 := Lib.hid ht3; have S3H := Lib.hid hs3
  have c0 := hB.c0
  have z1 := B1.out.size
  clear hB ht3 hs3 CR
  go_wp2_with fail
  go_ret2
  refine ⟨_, S3, rfl, ⟨na, nc, NL, B.out.G, B.out.eq⟩, fun k hk => ?_, B2.out.trans (T3.out.below (fun k hk => by omega) (by omega))⟩
  rcases S3H.out k hk with x | x
  · omega
  · omega
end Go.Proofs.Ytbimbgcejeeinaa
/- graph: has, Nodes, Final, Edges, Next -/
namespace Go.Proofs.Ytbimbgcejeeinaa
open Go.RowKit
set_option linter.unusedVariables false
set_option maxRecDepth 20000
theorem map_eqG : ∀ (NL : List NM) (st : List GN), NL.map nmP = st.map gnP → NL.length = st.length ∧ ∀ n, n < st.length → (NL.getD n nm0).fin = (st.getD n gn0).final ∧ (NL.getD n nm0).es = (st.getD n gn0).edges
  | [], [], _ => ⟨rfl, fun n h => by simp at h⟩
  | [], g :: st, h => by simp at h
  | x :: NL, [], h => by simp at h
  | x :: NL, g :: st, h => by
    simp only [List.map_cons, List.cons.injEq] at h
    obtain ⟨h1, h2⟩ := map_eqG NL st h.2
    refine ⟨by simp [h1], fun n hn => ?_⟩
    have h3 := h.1
    unfold nmP gnP at h3
    cases n with
    | zero => exact ⟨congrArg Prod.fst h3, congrArg Prod.snd h3⟩
    | succ n => exact h2 n (by simpa using hn)
theorem GAt.len {g : Nat} {st : List GN} {w : World} {S : Nat → Prop} (h : GAt g st w S) : ∃ na nc, w.cell? ⟨g, 0, none⟩ = some (.slice na st.length nc) := by
  obtain ⟨na, nc, NL, G, e⟩ := h
  have := G.c
  rw [(map_eqG _ _ e).1] at this
  exact ⟨na, nc, this⟩
theorem GAt.node {g : Nat} {st : List GN} {w : World} {S : Nat → Prop} (h : GAt g st w S) {n : Nat} (hn : n < st.length) : ∃ q nc ea ec, w.cell? ⟨g, 0, none⟩ = some (.slice (some ⟨q, 0, none⟩) st.length nc) ∧ w.cell? ⟨q, n * 2, none⟩ = some (.bool (st.getD n gn0).final) ∧ w.cell? ⟨q, n * 2 + 1, none⟩ = some (.slice ea (st.getD n gn0).edges.length ec) ∧ HoldsEd w ea (st.getD n gn0).edges.length (st.getD n gn0).edges ∧ (ea = none → (st.getD n gn0).edges.length = 0 ∧ ec = 0) := by
  obtain ⟨na, nc, NL, G, e⟩ := h
  obtain ⟨e1, e2⟩ := map_eqG _ _ e
  have c := G.c
  obtain ⟨q, rfl, c0, c1⟩ := G.at (i := n) (by omega)
  obtain ⟨e3, e4⟩ := e2 n hn
  rw [e1] at c
  rw [e3] at c0
  have ei := G.e _ (mem_nm (show n < NL.length by omega))
  unfold EdIn at ei
  rw [e4] at c1 ei
  exact ⟨q, nc, _, _, c, c0, c1, ei.1, ei.2.1⟩
def hasG (st : List GN) (n : Int) : Bool := decide (0 ≤ n ∧ n < (st.length : Int))
theorem hasG_no {st : List GN} {n : Int} (h : hasG st n = false) : n < 0 ∨ (st.length : Int) ≤ n := by
  simp only [hasG, decide_eq_false_iff_not] at h; omega
theorem hasG_yes {st : List GN} {n : Int} (h : hasG st n = true) : ∃ k : Nat, n = k ∧ k < st.length := by
  simp only [hasG, decide_eq_true_eq] at h
  exact ⟨n.toNat, by omega, by omega⟩
theorem gHas_nil (n : Int) (w : World) : Calls Try.prog 83 #[.pointer none, .int .i64 n] w fun e w' => e = .returned (.bool false) ∧ w = w' := by
  go_enter Try.func83, Try.ntmps83
  go_wp2_with fail
  go_ret
  exact ⟨rfl, rfl⟩
theorem gHas_any (g : Nat) (st : List GN) (S : Nat → Prop) (n : Int) (w : World) (h : GAt g st w S) : Calls Try.prog 83 #[.pointer (some ⟨g, 0, none⟩), .int .i64 n] w fun e w' => e = .returned (.bool (hasG st n)) ∧ w = w' := by
  obtain ⟨na, nc, c⟩ := h.len
  by_cases h0 : n < 0
  · have d0 : decide (n ≥ 0) = false := decide_eq_false (by omega)
    have e : hasG st n = false := decide_eq_false (by omega)
    rw [e]
    clear e
    go_enter Try.func83, Try.ntmps83
    go_wp2_with fail
    go_ret
    exact ⟨rfl, rfl⟩
  · have d0 : decide (n ≥ 0) = true := decide_eq_true (by omega)
    have e : hasG st n = decide (n < (st.length : Int)) := by unfold hasG; congr 1; simp; omega
    rw [e]
    clear e
    go_enter Try.func83, Try.ntmps83
    go_wp2_with fail
    go_ret
    exact ⟨rfl, rfl⟩
theorem gNodes_nil (w : World) : Calls Try.prog 78 #[.pointer none] w fun e w' => e = .returned (.int .i64 0) ∧ w = w' := by
  go_enter Try.func78, Try.ntmps78
  go_wp2_with fail
  go_ret
  exact ⟨rfl, rfl⟩
theorem gNodes_any (g : Nat) (st : List GN) (S : Nat → Prop) (w : World) (h : GAt g st w S) : Calls Try.prog 78 #[.pointer (some ⟨g, 0, none⟩)] w fun e w' => e = .returned (.int .i64 st.length) ∧ w = w' := by
  obtain ⟨na, nc, c⟩ := h.len
  go_enter Try.func78, Try.ntmps78
  go_wp2_with fail
  go_ret
  exact ⟨rfl, rfl⟩
def finG (st : List GN) (n : Int) : Bool := hasG st n && (st.getD n.toNat gn0).final
theorem gFinal_nil (n : Int) (w : World) : Calls Try.prog 81 #[.pointer none, .int .i64 n] w fun e w' => e = .returned (.bool false) ∧ w = w' := by
  have CH := gHas_nil n w
  go_enter Try.func81, Try.ntmps81
  go_wp2_with fail
  refine CH.mono ?_
  rintro e w1 ⟨rfl, rfl⟩
  go_wp2_with fail
  go_ret
  exact ⟨rfl, rfl⟩
theorem gFinal_any (g : Nat) (st : List GN) (S : Nat → Prop) (n : Int) (w : World) (h : GAt g st w S) : Calls Try.prog 81 #[.pointer (some ⟨g, 0, none⟩), .int .i64 n] w fun e w' => e = .returned (.bool (finG st n)) ∧ w = w' := by
  have CH := gHas_any g st S n w h
  unfold finG
  cases hb : hasG st n with
  | false =>
    rw [hb] at CH
    go_enter Try.func81, Try.ntmps81
    go_wp2_with fail
    refine CH.mono ?_
    rintro e w1 ⟨rfl, rfl⟩
    go_wp2_with fail
    go_ret
    exact ⟨rfl, rfl⟩
  | true =>
    rw [hb] at CH
    obtain ⟨k, rfl, hk⟩ := hasG_yes hb
    obtain ⟨q, nc, ea, ec, c0, c1, c2, -, -⟩ := h.node hk
    have i1 : (0 : Int) ≤ (k : Int) := by omega
    have i2 : (k : Int) < (st.length : Int) := by omega
    have e : (k : Int).toNat = k := by omega
    rw [e, Bool.true_and]
    obtain ⟨fb, hfb⟩ : ∃ b, (st.getD k gn0).final = b := ⟨_, rfl⟩
    rw [hfb] at c1 ⊢
    clear e c2 hfb
    go_enter Try.func81, Try.ntmps81
    go_wp2_with fail
    refine CH.mono ?_
    rintro e w1 ⟨rfl, rfl⟩
    go_wp2_with fail
    go_ret
    exact ⟨rfl, rfl⟩
def edgesG (st : List GN) (n : Int) : List EdP := if hasG st n then (st.getD n.toNat gn0).edges else []
def RetEd (w : World) (es : List EdP) (e : Ending) (w' : World) : Prop := ∃ a c, e = .returned (.slice a es.length c) ∧ w'.ownsRow w.heap.size 115 2 (.slice a es.length c) es.length (edsV es) ∧ Below w.heap.size w w'
theorem retEd_own {w w' : World} {a : Option Addr} {c n : Nat} {ys : List EdP} (hn : ys.length = n) (hh : w'.ownsRow w.heap.size 115 2 (.slice a n c) n (edsV ys)) (hb : Below w.heap.size w w') (v : Value) (hv : v = .slice a n c) : RetEd w ys (.returned v) w' := by
  subst hn hv
  exact ⟨a, c, rfl, hh, hb⟩
theorem cloneEd_any (a : Option Addr) (n cap : Nat) (l : List EdP) (w : World) (hh : HoldsEd w a n l) (hnil : a = none → n = 0 ∧ cap = 0) (hn : n ≤ 50000) :
    Calls Try.prog 101 #[.slice a n cap] w (RetEd w l) := by
  obtain ⟨i0, hi, hz0, hz1, hz2⟩ := info_parts edgeG_info
  have hll := hh.len
  cases a with
  | none =>
    obtain ⟨rfl, rfl⟩ := hnil rfl
    obtain rfl : l = [] := List.eq_nil_of_length_eq_zero hll
    have he := fun w => Lib.run_eql_slice_nil (P := Try.prog) w 110 115 none 0 0 0 0 Try.underlying110
    go_enter Try.func101, Try.ntmps101
    go_wp2_with fail
    go_ret
    exact retEd_own rfl (World.ownsRow_nil _ _ _ _) (Below.refl _ _) _ rfl
  | some ad =>
    have hnews : ∀ ad', (some ad : Option Addr) = some ad' → ∀ j u, (edsV l)[j]? = some u → (w.alloc (.cells #[] 115)).cell? (ad'.add j) = some u :=
      HoldsEd.cellsAny hh (World.grownBy_alloc w _ none)
    have HN := Lib.hid hnews
    have hown : (w.alloc (.cells #[] 115)).ownsRow w.heap.size 115 2 (.slice (some ⟨w.heap.size, 0, none⟩) 0 0) 0 [] := World.ownsRow_lit w #[] 0 (Nat.le_refl _) (by unfold maxLen; omega) rfl
    have HO := Lib.hid hown
    clear hnews hown hh
    have he := fun w => Lib.run_eql_slice_nil (P := Try.prog) w 110 115 (some ad) n cap 0 0 Try.underlying110
    go_enter Try.func101, Try.ntmps101
    go_wp2_with (at_builtin; refine wpList_append_any rfl (.tmp 5) (.tmp 6) 110 rfl w.heap.size 115 i0 _ 2 16 Try.underlying110 hi hz0 hz1 hz2 rfl (by decide) _ 0 [] rfl HO.out _ n cap (edsV l) rfl (some_none _) (by rw [edsV_len, hll]) HN.out (edsV_one _) (by unfold maxLen; omega) (by omega) (by simp) ?_; intro a3 c3 w3 hown3 hb3 hnil3)
    rw [Nat.zero_add, List.nil_append] at hown3
    go_ret
    exact retEd_own hll hown3 ((below_one w (.cells #[] 115)).trans (hb3)) _ (by simp)
theorem gEdges_nil (n : Int) (w : World) : Calls Try.prog 79 #[.pointer none, .int .i64 n] w fun e w' => e = .returned (.slice none 0 0) ∧ w = w' := by
  have CH := gHas_nil n w
  go_enter Try.func79, Try.ntmps79
  go_wp2_with fail
  refine CH.mono ?_
  rintro e w1 ⟨rfl, rfl⟩
  go_wp2_with fail
  go_ret
  exact ⟨rfl, rfl⟩
theorem gEdges_any (g : Nat) (st : List GN) (S : Nat → Prop) (n : Int) (w : World) (h : GAt g st w S) (hE : ∀ x ∈ st, x.edges.length ≤ 1000) : Calls Try.prog 79 #[.pointer (some ⟨g, 0, none⟩), .int .i64 n] w (RetEd w (edgesG st n)) := by
  have CH := gHas_any g st S n w h
  unfold edgesG
  cases hb : hasG st n with
  | false =>
    rw [hb] at CH
    rw [if_neg (by simp)]
    go_enter Try.func79, Try.ntmps79
    go_wp2_with fail
    refine CH.mono ?_
    rintro e w1 ⟨rfl, rfl⟩
    go_wp2_with fail
    go_ret
    exact retEd_own rfl (World.ownsRow_nil _ _ _ _) (Below.refl _ _) _ rfl
  | true =>
    rw [hb] at CH
    rw [if_pos rfl]
    obtain ⟨k, rfl, hk⟩ := hasG_yes hb
    obtain ⟨q, nc, ea, ec, c0, c1, c2, c3, c4⟩ := h.node hk
    have i1 : (0 : Int) ≤ (k : Int) := by omega
    have i2 : (k : Int) < (st.length : Int) := by omega
    have e : (k : Int).toNat = k := by omega
    have hx : st.getD k gn0 ∈ st := by rw [List.getD_eq_getElem?_getD, List.getElem?_eq_getElem hk]; simp
    have hle := hE _ hx
    rw [e]
    obtain ⟨es, hes⟩ : ∃ b, (st.getD k gn0).edges = b := ⟨_, rfl⟩
    rw [hes] at c2 c3 c4 hle ⊢
    have CC := Lib.hid (cloneEd_any ea es.length ec es w c3 c4 (by omega))
    clear e c1 hes hx c3 c4
    go_enter Try.func79, Try.ntmps79
    go_wp2_with fail
    refine CH.mono ?_
    rintro e w1 ⟨rfl, rfl⟩
    go_wp2_with fail
    refine CC.out.mono ?_
    rintro e w2 ⟨a, c, rfl, ho, hb2⟩
    go_wp2_with fail
    go_ret
    exact ⟨a, c, rfl, ho, hb2⟩
end Go.Proofs.Ytbimbgcejeeinaa
/- pack: Encode, of the graph of any nodes -/
namespace Go.Proofs.Ytbimbgcejeeinaa
open Go.RowKit
set_option linter.unusedVariables false
set_option maxRecDepth 20000
def edB (e : EdP) : List Nat := Cod.bytesOf (bitsV e.r) 4 ++ Cod.bytesOf (bitsV e.dst) 2
def finN (x : GN) : Nat := if x.final then 1 else 0
def ndB (x : GN) : List Nat := [finN x] ++ (Cod.bytesOf x.edges.length 2 ++ x.edges.flatMap edB)
def bodyB (st : List GN) : List Nat := [73, 78, 75, 49] ++ (Cod.bytesOf st.length 2 ++ st.flatMap ndB)
def imgB (st : List GN) : List Nat := sealB (bodyB st)
theorem edB_lt (e : EdP) : ∀ b ∈ edB e, b < 256 := fun b hb => by
  rcases List.mem_append.1 hb with hb | hb <;> exact Cod.bytesOf_lt _ _ b hb
theorem ndB_lt (x : GN) : ∀ b ∈ ndB x, b < 256 := fun b hb => by
  rcases List.mem_append.1 hb with hb | hb
  · have h1 : b = finN x := by simpa using hb
    rw [h1]; unfold finN; split <;> decide
  · rcases List.mem_append.1 hb with hb | hb
    · exact Cod.bytesOf_lt _ _ b hb
    · obtain ⟨e, -, he⟩ := List.mem_flatMap.1 hb
      exact edB_lt e b he
theorem bodyB_lt (st : List GN) : ∀ b ∈ bodyB st, b < 256 := fun b hb => by
  rcases List.mem_append.1 hb with hb | hb
  · simp at hb; omega
  · rcases List.mem_append.1 hb with hb | hb
    · exact Cod.bytesOf_lt _ _ b hb
    · obtain ⟨e, -, he⟩ := List.mem_flatMap.1 hb
      exact ndB_lt e b he
/-- an image, and no error -/
def RetE (w : World) (bs : List Nat) (e : Ending) (w' : World) : Prop :=
  ∃ a c, e = .returned (.tuple #[.slice a bs.length c, .int .i64 0]) ∧ w'.ownsRow w.heap.size 5 1 (.slice a bs.length c) bs.length (bytesV bs) ∧ Below w.heap.size w w' ∧ (a = none → bs.length = 0 ∧ c = 0)
theorem base_less9 {w : World} {B B' : Nat} {e : TypeId} {size n : Nat} {v : Value} {xs : List Value} (h : w.ownsRow B e size v n xs) (hB : B' ≤ B) : w.ownsRow B' e size v n xs := by
  obtain ⟨h1, h2⟩ := h
  refine ⟨h1, ?_⟩
  rcases h2 with h | ⟨g, cap, cur, hv, hge, r⟩
  · exact .inl h
  · exact .inr ⟨g, cap, cur, hv, Nat.le_trans hB hge, r⟩
theorem put9 (v : Int) (s : Nat) (hs : s ≤ 8) (w : World) : Calls Try.prog 77 #[.slice none 0 0, .int .i64 v, .int .i64 (s : Int)] w fun e w' => ∃ a c, e = .returned (.slice a s c) ∧ HoldsV w' a s (bytesV (Cod.bytesOf (bitsV v) s)) ∧ (a = none → s = 0 ∧ c = 0) ∧ Below w.heap.size w w' := by
  refine (put_any none 0 0 [] v (s : Int) w (holdsB_nil _ _) (fun _ => ⟨rfl, rfl⟩) (by omega)).mono ?_
  rintro e w' ⟨a, c, rfl, h1, h2, h3⟩
  have e1 : sizeV (s : Int) = s := by unfold sizeV; omega
  rw [e1, List.nil_append] at h1 h3 ⊢
  rw [Cod.bytesOf_length] at h1 h3 ⊢
  exact ⟨a, c, rfl, owns_holds h1, (owns_none h1).1, h2⟩
theorem getD_edges {st : List GN} {j : Nat} (h : j < st.length) : st.drop j = st.getD j gn0 :: st.drop (j + 1) := by
  rw [List.drop_eq_getElem_cons h, List.getD_eq_getElem?_getD, List.getElem?_eq_getElem h]; rfl
theorem drop_ed9 {es : List EdP} {j : Nat} (h : j < es.length) : es.drop j = es.getD j ed0 :: es.drop (j + 1) := by
  rw [List.drop_eq_getElem_cons h, List.getD_eq_getElem?_getD, List.getElem?_eq_getElem h]; rfl
/-- bytes that grow, beside edges that stay -/
structure OBK (w0 : World) (bs : List Nat) (a : Option Addr) (c : Nat) (ea : Option Addr) (es : List EdP) (w : World) : Prop where
  o : OB w0 bs a c w
  e : HoldsEd w ea es.length es
  d : ∀ g eb eo, a = some ⟨g, 0, none⟩ → ea = some ⟨eb, eo, none⟩ → 0 < es.length → g ≠ eb
theorem OBK.more {w0 w w' : World} {bs : List Nat} {a : Option Addr} {c : Nat} {ea : Option Addr} {es : List EdP} (h : OBK w0 bs a c ea es w) (hb : Below w.heap.size w w') : OBK w0 bs a c ea es w' := ⟨h.o.more hb, h.e.below hb, h.d⟩
theorem own_at9 {w : World} {B : Nat} {e : TypeId} {size n c k : Nat} {a : Option Addr} {xs : List Value} (h : w.ownsRow B e size (.slice a n c) n xs) (hk : (Value.slice a n c).ownBlock = some k) : a = some ⟨k, 0, none⟩ := by
  rcases Joins.ownsRow_forms h with ⟨e1, _⟩ | ⟨g, cap, e1⟩
  · injection e1 with e2; subst e2; cases hk
  · injection e1 with e2; subst e2; injection hk with hk; subst hk; rfl
theorem OBK.grow {w0 w w8 : World} {bs : List Nat} {a : Option Addr} {c g c' N : Nat} {ea : Option Addr} {es : List EdP} (h : OBK w0 bs a c ea es w) (bs' : List Nat) (hlen : bs'.length = N) (hown : w8.ownsRow w0.heap.size 5 1 (.slice (some ⟨g, 0, none⟩) N c') N (bytesV bs')) (hg : w.grownBy w8 (Value.slice a bs.length c).ownBlock) (hat : (Value.slice a bs.length c).ownBlock = some g ∨ g = w.heap.size) : OBK w0 bs' (some ⟨g, 0, none⟩) c' ea es w8 := by
  subst hlen
  have lt : ∀ eb eo, ea = some ⟨eb, eo, none⟩ → 0 < es.length → eb < w.heap.size := fun eb eo e1 h0 => by
    obtain ⟨b, o, e2, hc⟩ := h.e.at h0
    rw [e1] at e2; injection e2 with e2; injection e2 with e2; subst e2
    exact lt_of_cell (hc 0 h0).1
  refine ⟨⟨hown, h.o.2.grown hg h.o.2.size (fun k e => (h.o.1.lt k e).1)⟩, ?_, fun g2 eb eo e1 e2 h0 => ?_⟩
  · rcases Nat.eq_zero_or_pos es.length with h0 | h0
    · exact ⟨rfl, fun h1 => by omega⟩
    · exact holdsEd_blocks h.e fun b o e1 => hg.block b (lt b o e1 h0) fun e2 => h.d b b o (own_at9 h.o.1 e2.symm) e1 h0 rfl
  · injection e1 with e1; injection e1 with e1; subst e1
    rcases hat with e3 | e3
    · exact h.d _ eb eo (own_at9 h.o.1 e3) e2 h0
    · have := lt eb eo e2 h0; omega
theorem putB9 (v : Int) (s : Nat) (hs : 0 < s ∧ s ≤ 8) (w : World) : Calls Try.prog 77 #[.slice none 0 0, .int .i64 v, .int .i64 (s : Int)] w fun e w' => ∃ q c, e = .returned (.slice (some ⟨q, 0, none⟩) s c) ∧ (∀ (j : Nat) u, (bytesV (Cod.bytesOf (bitsV v) s))[j]? = some u → w'.cell? ((⟨q, 0, none⟩ : Addr).add j) = some u) ∧ Below w.heap.size w w' := by
  refine (put_any none 0 0 [] v (s : Int) w (holdsB_nil _ _) (fun _ => ⟨rfl, rfl⟩) (by omega)).mono ?_
  rintro e w' ⟨a, c, rfl, h1, h2, h3⟩
  have e1 : sizeV (s : Int) = s := by unfold sizeV; omega
  rw [e1, List.nil_append] at h1 h3 ⊢
  rw [Cod.bytesOf_length] at h1 h3 ⊢
  obtain ⟨q, cap, e2⟩ := Joins.ownsRow_form h1 hs.1
  injection e2 with e2
  subst e2
  exact ⟨q, c, rfl, (owns_holds h1).cells (World.grownBy.refl _ _) _ rfl, h2⟩
set_option maxHeartbeats 6400000 in
set_option maxRecDepth 100000 in
theorem encode_any (g : Nat) (st : List GN) (S : Nat → Prop) (w : World) (h : GAt g st w S) (hE : ∀ x ∈ st, x.edges.length ≤ 1000) (hR : ∀ x ∈ st, ∀ e ∈ x.edges, 0 ≤ e.r ∧ e.r ≤ 2147483647) (hS : (bodyB st).length ≤ 524000) (hL : st.length ≤ 60000) :
    Calls Try.prog 50 #[.pointer (some ⟨g, 0, none⟩)] w (RetE w (imgB st)) := by
  obtain ⟨i0, hi, hz0, hz1, hz2⟩ := info_parts u8_info
  have HG := Lib.hid h; have HE := Lib.hid hE; have HR := Lib.hid hR; have HS := Lib.hid hS
  obtain ⟨L, hLL⟩ : ∃ L, st.length = L := ⟨_, rfl⟩
  have HL := Lib.hid hLL
  rw [hLL] at hL
  have CN := Lib.hid (fun w' (hb : Below w.heap.size w w') => (show Calls Try.prog 78 #[.pointer (some ⟨g, 0, none⟩)] w' fun e w'' => e = .returned (.int .i64 L) ∧ w' = w'' from HL.out ▸ gNodes_any g st S w' ((gAt_ok g st).below HG.out hb)))
  clear h hE hR hS hLL
  go_enter Try.func50, Try.ntmps50
  go_wp2_with fail
  refine (magic_any w).mono ?_
  rintro e w1 ⟨a1, c1, rfl, o1, b1, -⟩
  have O1 := Lib.hid (show w1.ownsRow w.heap.size 5 1 (.slice a1 4 c1) 4 (bytesV [73, 78, 75, 49]) from o1); have B1 := Lib.hid b1
  clear o1 b1
  go_wp2_with fail
  with_reducible refine (CN.out w1 B1.out).mono ?_
  rintro e w2 ⟨rfl, rfl⟩
  go_wp2_with fail
  refine (put9 (L : Int) 2 (by omega) w1).mono ?_
  rintro e w2 ⟨a2, c2, rfl, v2, n2, b2⟩
  rw [bits_nat9 L (by omega)] at v2
  have V2 := Lib.hid v2; have N2 := Lib.hid n2; have O2 := Lib.hid (owns_below O1.out b2); have B2 := Lib.hid (B1.out.trans (b2.mono B1.out.size))
  clear v2 n2 b2
  go_wp2_with (at_builtin; refine wpList_append_any rfl (.tmp 12) (.tmp 15) 31 rfl w.heap.size 5 i0 (.int .u8 0) 1 1 Try.underlying31 hi hz0 hz1 hz2 rfl (by decide) _ 4 (bytesV [73, 78, 75, 49]) rfl O2.out a2 2 c2 (bytesV (Cod.bytesOf L 2)) rfl N2.out (by rw [bytesV_length, Cod.bytesOf_length]) (V2.out.cells (World.grownBy.refl _ _)) (bytesV_one _) (by unfold maxLen; omega) (by omega) B2.out.size ?_; intro a3 c3 w3 hown3 hb3 hnil3; rw [bytesV_append] at hown3)
  have O3 := Lib.hid (show OB w ([73, 78, 75, 49] ++ Cod.bytesOf L 2) a3 c3 w3 from ⟨by rw [List.length_append, Cod.bytesOf_length]; exact hown3, B2.out.trans (hb3.mono (Nat.le_refl _))⟩)
  have CN3 := Lib.hid (CN.out w3 O3.out.2)
  clear hown3 hb3 hnil3 O1 B1 V2 N2 O2 B2 CN
  go_wp2_with fail
  with_reducible refine CN3.out.mono ?_
  rintro e w4 ⟨rfl, rfl⟩
  go_wp2_with fail
  go_loopw [4, 19] (fun bv iv wr => ∃ (j : Nat) (bs : List Nat) (ba : Option Addr) (bc : Nat), j ≤ L ∧ bv = .slice ba bs.length bc ∧ iv = .int .i64 j ∧ Hid (bs ++ (st.drop j).flatMap ndB = bodyB st) ∧ Hid (OB w bs ba bc wr)) (fun _ iv _ => L - (intOf iv).toNat)
  case atStart => exact ⟨0, [73, 78, 75, 49] ++ Cod.bytesOf L 2, a3, c3, by omega, by rw [List.length_append, Cod.bytesOf_length]; rfl, rfl, Lib.hid (by rw [List.drop_zero, List.append_assoc]; unfold bodyB; rw [HL.out]), O3⟩
  case round =>
    clear O3 CN3
    obtain ⟨j, bs, ba, bc, hj, rfl, rfl, hB, hO⟩ := hrel
    have hbl : bs.length ≤ 524000 := by
      have h1 := congrArg List.length hB.out
      rw [List.length_append] at h1
      have := HS.out; omega
    by_cases hlt : j < L
    · obtain ⟨x, hx⟩ : ∃ x, st.getD j gn0 = x := ⟨_, rfl⟩
      have hmem : x ∈ st := by
        have := HL.out
        rw [← hx, List.getD_eq_getElem?_getD, List.getElem?_eq_getElem (show j < st.length by omega)]
        exact List.getElem_mem _
      have DJ := Lib.hid (show st.drop j = x :: st.drop (j + 1) from by rw [← hx]; exact getD_edges (by rw [HL.out]; exact hlt))
      have ER := Lib.hid (HR.out x hmem)
      have e1 : hasG st (j : Int) = true := by unfold hasG; rw [HL.out]; exact decide_eq_true (by omega)
      have CE := Lib.hid (gEdges_any g st S (j : Int) wr ((gAt_ok g st).below HG.out hO.out.2) HE.out)
      have CF := Lib.hid (fun w' (hb : Below w.heap.size w w') => (show Calls Try.prog 81 #[.pointer (some ⟨g, 0, none⟩), .int .i64 (j : Int)] w' fun e w'' => e = .returned (.bool x.final) ∧ w' = w'' from by
        have h1 := gFinal_any g st S (j : Int) w' ((gAt_ok g st).below HG.out hb)
        rw [show finG st (j : Int) = x.final by unfold finG; rw [e1, Bool.true_and, Int.toNat_natCast, hx]] at h1
        exact h1))
      rw [show edgesG st (j : Int) = x.edges by unfold edgesG; rw [if_pos e1, Int.toNat_natCast, hx]] at CE
      have hml := HE.out x hmem
      obtain ⟨m, hm⟩ : ∃ m, x.edges.length = m := ⟨_, rfl⟩
      have HM := Lib.hid hm
      rw [hm] at hml
      have n1 : (0 : Int) ≤ (j : Int) := by omega
      have n2 : (j : Int) < (L : Int) := by omega
      clear hx hmem e1 hm
      go_wp2_with fail
      with_reducible refine CE.out.mono ?_
      rintro e w4 ⟨ea, ec, rfl, ho, hb⟩
      have K4 := Lib.hid (show OBK w bs ba bc ea x.edges w4 from ⟨hO.out.more hb, HoldsEd.own ho, fun g1 eb eo e1 e2 h0 => by
        have h1 := (hO.out.1.lt g1 (by rw [e1]; rfl)).2
        have h2 := (ho.lt eb (by rw [e2]; rfl)).1
        omega⟩)
      rw [HM.out]
      clear ho hb CE
      go_wp2_with fail
      have CF4 := Lib.hid (CF.out w4 K4.out.o.2)
      with_reducible refine CF4.out.mono ?_
      rintro e w5 ⟨rfl, rfl⟩
      go_wp2_with fail
      refine (final_byte x.final w4).mono ?_
      rintro e w5 ⟨rfl, rfl⟩
      have FB := Lib.hid (show (if x.final then 1 else 0 : Nat) = finN x from rfl)
      rw [FB.out]
      have K4a := Lib.hid (K4.out.more (below_one w4 (.cells #[.int .u8 (finN x : Int)] 5)))
      obtain ⟨fb, hfb⟩ : ∃ fb, finN x = fb := ⟨_, rfl⟩
      have HFB := Lib.hid hfb
      rw [hfb] at K4a ⊢
      have O4a := Lib.hid K4a.out.o.1
      have Z4 := K4.out.o.2.size
      clear hfb FB
      go_wp2_with (at_builtin; refine wpList_append_lies _ rfl (.tmp 25) (.tmp 30) 31 rfl w.heap.size 5 i0 (.int .u8 0) 1 1 Try.underlying31 hi hz0 hz1 hz2 rfl (by decide) (.slice ba bs.length bc) bs.length (bytesV bs) (by rfl) O4a.out ⟨w4.heap.size, 0, none⟩ 1 1 [.int .u8 (fb : Int)] (by rfl) (by rfl) (World.news_of_block (cs := #[.int .u8 (fb : Int)]) (t := 5) (fr := (0, 0)) (heap_alloc_new w4 _)) (by simp [Value.oneCell']) (by decide) (by unfold maxLen; omega) (by omega) (by simp; omega) (w4.heap.size + 1) (by simp) ?_; intro g6 c6 w6 hown6 hgrow6 hat6 hlt6)
      have K6 := Lib.hid (K4a.out.grow (bs ++ [fb]) (N := bs.length + 1) (by simp) (by rw [← bytesV_append]; exact hown6) hgrow6 (hat6.imp id (fun e => by rw [e]; simp)))
      clear hown6 hgrow6 hat6 hlt6 K4a O4a
      refine (putB9 (m : Int) 2 (by omega) w6).mono ?_
      rintro e w7 ⟨q7, c7, rfl, v7, b7⟩
      rw [bits_nat9 m (by omega)] at v7
      have V7 := Lib.hid v7
      have K7 := Lib.hid (K6.out.more b7)
      have O7 := Lib.hid (show w7.ownsRow w.heap.size 5 1 (.slice (some ⟨g6, 0, none⟩) (bs.length + 1) c6) (bs.length + 1) (bytesV (bs ++ [fb])) from by
        have h1 := K7.out.o.1
        rw [List.length_append] at h1
        exact h1)
      clear v7 b7 K6
      go_wp2_with (at_builtin; refine wpList_append_lies _ rfl (.tmp 32) (.tmp 35) 31 rfl w.heap.size 5 i0 (.int .u8 0) 1 1 Try.underlying31 hi hz0 hz1 hz2 rfl (by decide) (.slice (some ⟨g6, 0, none⟩) (bs.length + 1) c6) (bs.length + 1) (bytesV (bs ++ [fb])) (by rfl) O7.out ⟨q7, 0, none⟩ 2 c7 (bytesV (Cod.bytesOf m 2)) (by rfl) (by rfl) V7.out (bytesV_one _) (by decide) (by unfold maxLen; omega) (by omega) K7.out.o.2.size w7.heap.size rfl ?_; intro g8 c8 w8 hown8 hgrow8 hat8 hlt8)
      have K8 := Lib.hid (K7.out.grow (bs ++ [fb] ++ Cod.bytesOf m 2) (N := bs.length + 1 + 2) (by rw [List.length_append, List.length_append, Cod.bytesOf_length]; rfl) (by rw [← bytesV_append]; exact hown8) (by rw [List.length_append]; exact hgrow8) (by rw [List.length_append]; exact hat8))
      have BD := Lib.hid (show (bs ++ [fb] ++ Cod.bytesOf m 2) ++ ((x.edges.drop 0).flatMap edB ++ (st.drop (j + 1)).flatMap ndB) = bodyB st from by
        rw [← hB.out, DJ.out, List.drop_zero, List.flatMap_cons]
        unfold ndB
        rw [HFB.out, HM.out]
        simp only [List.append_assoc])
      clear hown8 hgrow8 hat8 hlt8 K7 O7 V7 hO hB
      go_wp2_with fail
      go_loopw [4, 39] (fun bv iv wq => ∃ (k : Nat) (cs : List Nat) (ba : Option Addr) (bc : Nat), k ≤ m ∧ bv = .slice ba cs.length bc ∧ iv = .int .i64 k ∧ Hid (cs ++ ((x.edges.drop k).flatMap edB ++ (st.drop (j + 1)).flatMap ndB) = bodyB st) ∧ Hid (OBK w cs ba bc ea x.edges wq)) (fun _ iv _ => m - (intOf iv).toNat)
      case atStart => exact ⟨0, bs ++ [fb] ++ Cod.bytesOf m 2, _, _, by omega, by rw [List.length_append, List.length_append, Cod.bytesOf_length]; rfl, rfl, BD, K8⟩
      case round =>
        clear K8 BD
        obtain ⟨k, cs, ba, bc, hk, rfl, rfl, hB, hK⟩ := hrel
        rename World => wq
        have hcl : cs.length ≤ 524000 := by
          have h1 := congrArg List.length hB.out
          rw [List.length_append] at h1
          have := HS.out; omega
        by_cases hkm : k < m
        · have hpos : 0 < x.edges.length := by rw [HM.out]; omega
          obtain ⟨eb, eo, rfl, hcc⟩ := hK.out.e.at hpos
          obtain ⟨y0, y1⟩ := hcc k (by rw [HM.out]; exact hkm)
          obtain ⟨y, hy⟩ : ∃ y, x.edges.getD k ed0 = y := ⟨_, rfl⟩
          rw [hy] at y0 y1
          have DK := Lib.hid (show x.edges.drop k = y :: x.edges.drop (k + 1) from by rw [← hy]; exact drop_ed9 (by rw [HM.out]; exact hkm))
          obtain ⟨yr, yr2⟩ := ER.out y (by rw [← hy, List.getD_eq_getElem?_getD, List.getElem?_eq_getElem (show k < x.edges.length by rw [HM.out]; exact hkm)]; exact List.getElem_mem _)
          have n3 : (0 : Int) ≤ (k : Int) := by omega
          have n4 : (k : Int) < (m : Int) := by omega
          have K5 := Lib.hid (hK.out.more (below_one wq (.cells #[.int .i32 y.r, .int .i64 y.dst] 115)))
          have X5 := Lib.hid (show (wq.alloc (.cells #[.int .i32 y.r, .int .i64 y.dst] 115)).cell? ⟨wq.heap.size, 1, none⟩ = some (.int .i64 y.dst) from by rw [cell_alloc rfl]; rfl)
          have XN := Lib.hid (show some wq.heap.size ≠ (Value.slice ba cs.length bc).ownBlock from fun e => by
            have h1 := (hK.out.o.1.lt wq.heap.size e.symm).2
            omega)
          clear hcc hy
          go_wp2_with fail
          refine (putB9 y.r 4 (by omega) _).mono ?_
          rintro e w5 ⟨q5, c5, rfl, v5, b5⟩
          have V5 := Lib.hid v5
          have K5b := Lib.hid (K5.out.more b5)
          have O5 := Lib.hid K5b.out.o.1
          have X6 := Lib.hid ((b5.cell (p := ⟨wq.heap.size, 1, none⟩) (lt_of_cell X5.out)).trans X5.out)
          have Z5 := K5b.out.o.2.size
          clear v5 b5 K5
          go_wp2_with (at_builtin; refine wpList_append_lies _ rfl (.tmp 43) (.tmp 47) 31 rfl w.heap.size 5 i0 (.int .u8 0) 1 1 Try.underlying31 hi hz0 hz1 hz2 rfl (by decide) (.slice ba cs.length bc) cs.length (bytesV cs) (by rfl) O5.out ⟨q5, 0, none⟩ 4 c5 (bytesV (Cod.bytesOf (bitsV y.r) 4)) (by rfl) (by rfl) V5.out (bytesV_one _) (by decide) (by unfold maxLen; omega) (by omega) Z5 w5.heap.size rfl ?_; intro g6 c6 w6 hown6 hgrow6 hat6 hlt6; have x6 : w6.cell? ⟨wq.heap.size, 1, none⟩ = some (.int .i64 y.dst) := (hgrow6.cell_far ⟨wq.heap.size, 1, none⟩ (lt_of_cell X6.out) XN.out).trans X6.out)
          have K6 := Lib.hid (K5b.out.grow (cs ++ Cod.bytesOf (bitsV y.r) 4) (N := cs.length + 4) (by rw [List.length_append, Cod.bytesOf_length]) (by rw [← bytesV_append]; exact hown6) hgrow6 hat6)
          clear hown6 hgrow6 hat6 hlt6 K5b O5 V5
          refine (putB9 y.dst 2 (by omega) w6).mono ?_
          rintro e w7 ⟨q7, c7, rfl, v7, b7⟩
          have V7 := Lib.hid v7
          have K7 := Lib.hid (K6.out.more b7)
          have O7 := Lib.hid (show w7.ownsRow w.heap.size 5 1 (.slice (some ⟨g6, 0, none⟩) (cs.length + 4) c6) (cs.length + 4) (bytesV (cs ++ Cod.bytesOf (bitsV y.r) 4)) from by
            have h1 := K7.out.o.1
            rw [List.length_append, Cod.bytesOf_length] at h1
            exact h1)
          clear v7 b7 K6 x6
          go_wp2_with (at_builtin; refine wpList_append_lies _ rfl (.tmp 49) (.tmp 52) 31 rfl w.heap.size 5 i0 (.int .u8 0) 1 1 Try.underlying31 hi hz0 hz1 hz2 rfl (by decide) (.slice (some ⟨g6, 0, none⟩) (cs.length + 4) c6) (cs.length + 4) (bytesV (cs ++ Cod.bytesOf (bitsV y.r) 4)) (by rfl) O7.out ⟨q7, 0, none⟩ 2 c7 (bytesV (Cod.bytesOf (bitsV y.dst) 2)) (by rfl) (by rfl) V7.out (bytesV_one _) (by decide) (by unfold maxLen; omega) (by omega) K7.out.o.2.size w7.heap.size rfl ?_; intro g8 c8 w8 hown8 hgrow8 hat8 hlt8)
          have K8 := Lib.hid (K7.out.grow (cs ++ Cod.bytesOf (bitsV y.r) 4 ++ Cod.bytesOf (bitsV y.dst) 2) (N := cs.length + 4 + 2) (by rw [List.length_append, List.length_append, Cod.bytesOf_length, Cod.bytesOf_length]) (by rw [← bytesV_append]; exact hown8) (by rw [List.length_append, Cod.bytesOf_length]; exact hgrow8) (by rw [List.length_append, Cod.bytesOf_length]; exact hat8))
          have BD := Lib.hid (show (cs ++ Cod.bytesOf (bitsV y.r) 4 ++ Cod.bytesOf (bitsV y.dst) 2) ++ ((x.edges.drop (k + 1)).flatMap edB ++ (st.drop (j + 1)).flatMap ndB) = bodyB st from by
            rw [← hB.out, DK.out, List.flatMap_cons]
            unfold edB
            simp only [List.append_assoc])
          clear hown8 hgrow8 hat8 hlt8 K7 O7 V7
          go_roundw
          case rel => exact ⟨k + 1, cs ++ Cod.bytesOf (bitsV y.r) 4 ++ Cod.bytesOf (bitsV y.dst) 2, _, _, by omega, by rw [List.length_append, List.length_append, Cod.bytesOf_length, Cod.bytesOf_length], by go_num, BD, K8⟩
          case measure => simp [intOf] <;> omega
        · obtain rfl : k = m := by omega
          have BE := Lib.hid (show cs ++ (st.drop (j + 1)).flatMap ndB = bodyB st from by
            rw [← hB.out, show x.edges.drop k = [] from List.drop_of_length_le (by rw [HM.out]; exact Nat.le_refl _)]; rfl)
          have OE := Lib.hid hK.out.o
          clear hB hK
          go_wp2_with fail
          go_roundw
          case rel => exact ⟨j + 1, cs, ba, bc, by omega, rfl, by go_num, BE, OE⟩
          case measure => simp [intOf] <;> omega
    · obtain rfl : j = L := by omega
      have BE := Lib.hid (show bs = bodyB st from by
        have h1 := hB.out
        rw [List.drop_of_length_le (by rw [HL.out]; omega)] at h1
        simpa using h1)
      have OE := hO.out
      have CS := Lib.hid (wSeal_any ba bs.length bc bs wr (holdsB_of_values (owns_holds OE.1) (by rw [BE.out]; exact bodyB_lt st)) (owns_none OE.1).1 (by omega))
      have IM := Lib.hid (show sealB bs = imgB st from by rw [BE.out]; rfl)
      have WB := Lib.hid OE.2
      clear OE hO hB BE
      go_wp2_with fail
      with_reducible refine CS.out.mono ?_
      rintro e w5 ⟨a5, c5, rfl, h1, h2, h3⟩
      have F := Lib.hid (show RetE w (imgB st) (.returned (.tuple #[.slice a5 (sealB bs).length c5, .int .i64 0])) w5 from by
        rw [IM.out] at h1 h3 ⊢
        exact ⟨a5, c5, rfl, base_less9 h1 WB.out.size, WB.out.trans (h2.mono WB.out.size), h3⟩)
      clear h1 h2 h3 CS
      go_wp2_with fail
      go_ret2
      exact F.out
end Go.Proofs.Ytbimbgcejeeinaa
/- pack: readNode -/
namespace Go.Proofs.Ytbimbgcejeeinaa
open Go.RowKit
set_option linter.unusedVariables false
set_option maxRecDepth 20000
theorem LN.below {w0 : World} {r : Nat} {a : Option Addr} {n cap : Nat} {bs : List Nat} {at_ : Nat} {bad : Bool} {M B : Nat} {fin : Bool} {es : List PE} {ea : Option Addr} {ec : Nat} {w w' : World} (h : LN w0 r a n cap bs at_ bad M B fin es ea ec w) (hb : Below w.heap.size w w') : LN w0 r a n cap bs at_ bad M B fin es ea ec w' := by
  have lm := lt_of_cell h.c0
  exact ⟨h.rd.turn (S := fun _ => False) (Turn.of_below hb) (fun x => x) (fun q o e x => x), (hb.cell (p := ⟨M, 0, none⟩) lm).trans h.c0, (hb.cell (p := ⟨M, 1, none⟩) lm).trans h.c1, (hb.frozen (p := ⟨M, 1, none⟩) lm).trans h.f1, owns_below h.o hb, h.ne, h.M0, (hb.cell (p := ⟨B, 0, none⟩) (lt_of_cell h.k0)).trans h.k0, (hb.cell (p := ⟨B, 1, none⟩) (lt_of_cell h.k0)).trans h.k1, fun i => (hb.frozen (p := ⟨B, i, none⟩) (lt_of_cell h.k0)).trans (h.kf i), (hb.block B (lt_of_cell h.k0)).trans h.kh, h.B0, h.MB, h.t.trans (Turn.of_below hb)⟩
theorem LN.num {w0 : World} {r : Nat} {a : Option Addr} {n cap : Nat} {bs : List Nat} {at_ at2 : Nat} {bad bad2 : Bool} {M B : Nat} {fin : Bool} {es : List PE} {ea : Option Addr} {ec : Nat} {w w' : World} (h : LN w0 r a n cap bs at_ bad M B fin es ea ec w) (hr : r < w0.heap.size) (m : RdM r a n cap bs at2 bad2 w') (t : Turn (fun k => k = r) w w') : LN w0 r a n cap bs at2 bad2 M B fin es ea ec w' := by
  have lm := lt_of_cell h.c0
  have hM : ¬ M = r := by have := h.M0; omega
  have hB : ¬ B = r := by have := h.B0; omega
  have lb := lt_of_cell h.k0
  refine ⟨m, (t.cell lm hM).trans h.c0, (t.cell lm hM).trans h.c1, (t.frozen lm hM).trans h.f1, ?_, h.ne, h.M0, (t.cell lb hB).trans h.k0, (t.cell lb hB).trans h.k1, fun i => (t.frozen lb hB).trans (h.kf i), (t.block B lb hB).trans h.kh, h.B0, h.MB, h.t.trans t⟩
  rcases h.o.2 with h1 | ⟨g, cap', cur, hv, hge, hh, x⟩
  · exact ⟨h.o.1, .inl h1⟩
  · have hl : g < w.heap.size := by
      rcases Nat.lt_or_ge g w.heap.size with h2 | h2
      · exact h2
      · rw [Array.getElem?_eq_none h2] at hh; cases hh
    exact ⟨h.o.1, .inr ⟨g, cap', cur, hv, hge, (t.block g hl (by omega)).trans hh, x⟩⟩
theorem LN.app {w0 : World} {r : Nat} {a : Option Addr} {n cap : Nat} {bs : List Nat} {at_ : Nat} {bad : Bool} {M B : Nat} {fin : Bool} {es : List PE} {ea : Option Addr} {ec g c : Nat} {x : PE} {w w8 : World} {ob : Obj} (h : LN w0 r a n cap bs at_ bad M B fin es ea ec w) (hr : r < w0.heap.size) (ha : ∀ q o, a = some ⟨q, o, none⟩ → q < w0.heap.size)
    (hown : w8.ownsRow w0.heap.size 133 2 (.slice (some ⟨g, 0, none⟩) (es.length + 1) c) (es.length + 1) (peV es ++ [.int .i64 (x.1 : Int), .int .i64 (x.2 : Int)])) (hg : (w.alloc ob).grownBy w8 (Value.slice ea es.length ec).ownBlock) (hat : (Value.slice ea es.length ec).ownBlock = some g ∨ g = (w.alloc ob).heap.size) :
    LN w0 r a n cap bs at_ bad M B fin (es ++ [x]) (some ⟨g, 0, none⟩) c (w8.setCell ⟨M, 1, none⟩ (.slice (some ⟨g, 0, none⟩) (es.length + 1) c)) := by
  have lm := lt_of_cell h.c0
  have hz : (w.alloc ob).heap.size = w.heap.size + 1 := by simp
  have ob0 : ∀ k, some k = (Value.slice ea es.length ec).ownBlock → w0.heap.size ≤ k ∧ k ≠ M ∧ k ≠ B := fun k e => ⟨(h.o.lt k e.symm).1, h.ne k (own_at9 h.o e.symm)⟩
  have lb := lt_of_cell h.k0
  have bM := h.MB
  have gM : g ≠ M := by
    rcases hat with e | e
    · exact (ob0 g e.symm).2.1
    · omega
  have gB : g ≠ B := by
    rcases hat with e | e
    · exact (ob0 g e.symm).2.2
    · omega
  have cb : ∀ i, w8.cell? ⟨B, i, none⟩ = w.cell? ⟨B, i, none⟩ := fun i => (hg.cell_far ⟨B, i, none⟩ (by rw [hz]; exact Nat.lt_succ_of_lt lb) (fun e => (ob0 B e).2.2 rfl)).trans (cell_alloc_old lb)
  have fb : ∀ i, w8.frozen? ⟨B, i, none⟩ = false := fun i => (hg.frozen_far ⟨B, i, none⟩ (by rw [hz]; exact Nat.lt_succ_of_lt lb) (fun e => (ob0 B e).2.2 rfl)).trans (((below_one w ob).frozen (p := ⟨B, i, none⟩) lb).trans (h.kf i))
  have t1 : Turn (fun k => w0.heap.size ≤ k) w w8 := (Turn.alloc _ w ob).trans ⟨hg.os, hg.tape, hg.output, hg.size, fun k hk hn => hg.block k hk (fun e => hn (ob0 k e).1)⟩
  have cm : ∀ i, w8.cell? ⟨M, i, none⟩ = w.cell? ⟨M, i, none⟩ := fun i => (hg.cell_far ⟨M, i, none⟩ (by rw [hz]; exact Nat.lt_succ_of_lt lm) (fun e => (ob0 M e).2.1 rfl)).trans (cell_alloc_old lm)
  have fm : w8.frozen? ⟨M, 1, none⟩ = false := (hg.frozen_far ⟨M, 1, none⟩ (by rw [hz]; exact Nat.lt_succ_of_lt lm) (fun e => (ob0 M e).2.1 rfl)).trans (((below_one w ob).frozen (p := ⟨M, 1, none⟩) lm).trans h.f1)
  have t2 : Turn (fun k => w0.heap.size ≤ k) w (w8.setCell ⟨M, 1, none⟩ (.slice (some ⟨g, 0, none⟩) (es.length + 1) c)) := t1.trans (Turn.setCell h.M0)
  have el : (es ++ [x]).length = es.length + 1 := by rw [List.length_append]; rfl
  refine ⟨h.rd.turn t2 (by omega) (fun q o e => by have := ha q o e; omega), (cset_ne (by omega)).trans ((cm 0).trans h.c0), ?_, fset_any.trans fm, ?_, fun k e => by injection e with e; injection e with e; exact ⟨by omega, by omega⟩, h.M0, (cset_far bM).trans ((cb 0).trans h.k0), (cset_far bM).trans ((cb 1).trans h.k1), fun i => fset_any.trans (fb i), (Below.heap_setCell _ _ _ _ (show B ≠ M from fun e => bM e.symm)).trans ((hg.block B (by rw [hz]; exact Nat.lt_succ_of_lt lb) (fun e => (ob0 B e).2.2 rfl)).trans ((Below.heap_alloc w ob B lb).trans h.kh)), h.B0, h.MB, ⟨t2.os.trans h.t.os, t2.tape.trans h.t.tape, t2.output.trans h.t.output, Nat.le_trans h.t.size t2.size, fun k hk hn => (t2.block k (Nat.lt_of_lt_of_le hk h.t.size) (by omega)).trans (h.t.block k hk hn)⟩⟩
  · rw [el]; exact cset_at ((cm 1).trans h.c1)
  · rw [el, peV_app]
    exact gowns_block hown (fun q e => by
      injection e with e; injection e with e
      subst e
      exact Below.heap_setCell _ _ _ _ gM)
theorem rdNum9 (s : Nat) (si : Int) (hsi : si = (s : Int)) (h1 : 1 ≤ s) (h4 : s ≤ 4) (v at2 : Nat) (bad2 : Bool) {w0 w : World} {r : Nat} {a : Option Addr} {n cap : Nat} {bs : List Nat} {at_ : Nat} {bad : Bool} {M B : Nat} {fin : Bool} {es : List PE} {ea : Option Addr} {ec : Nat} (h : LN w0 r a n cap bs at_ bad M B fin es ea ec w) (hr : r < w0.heap.size) (hn : n ≤ 1048576) (hat : at_ ≤ n) (hv : numR bs n at_ s bad = v) (h2 : atR n at_ s bad = at2) (hb : (!okR n at_ s bad) = bad2) :
    Calls Try.prog 71 #[.pointer (some ⟨r, 0, none⟩), .int .i64 si] w fun e w' => e = .returned (.int .i64 (v : Int)) ∧ LN w0 r a n cap bs at2 bad2 M B fin es ea ec w' := by
  subst hsi hv h2 hb
  exact (rdNum_any r a n cap bs at_ bad s w h.rd hn hat h1 h4).mono fun e w' ⟨e1, m, t⟩ => ⟨e1, h.num hr m t⟩
end Go.Proofs.Ytbimbgcejeeinaa
/- pack: readNode, its walk -/
namespace Go.Proofs.Ytbimbgcejeeinaa
open Go.RowKit
set_option linter.unusedVariables false
set_option maxRecDepth 20000
theorem rdE_succ (bs : List Nat) (n k at_ : Nat) (bad : Bool) : rdE bs n (k + 1) at_ bad = (let a1 := atR n at_ 4 bad; let b1 := !okR n at_ 4 bad; let a2 := atR n a1 2 b1; let b2 := !okR n a1 2 b1; let x : PE := (numR bs n at_ 4 bad, numR bs n a1 2 b1); if b2 then ([x], a2, true) else (x :: (rdE bs n k a2 false).1, (rdE bs n k a2 false).2)) := rfl
theorem LN.kept {w0 : World} {r : Nat} {a : Option Addr} {n cap : Nat} {bs : List Nat} {at_ : Nat} {bad : Bool} {M B : Nat} {fin : Bool} {es : List PE} {ea : Option Addr} {ec : Nat} {w w8 : World} {ob : Obj} (h : LN w0 r a n cap bs at_ bad M B fin es ea ec w) (hg : (w.alloc ob).grownBy w8 (Value.slice ea es.length ec).ownBlock) : w8.cell? ⟨M, 1, none⟩ = some (.slice ea es.length ec) ∧ w8.frozen? ⟨M, 1, none⟩ = false := by
  have lm := lt_of_cell h.c0
  have hz : (w.alloc ob).heap.size = w.heap.size + 1 := by simp
  have ne : some M ≠ (Value.slice ea es.length ec).ownBlock := fun e => (h.ne M (own_at9 h.o e.symm)).1 rfl
  exact ⟨(hg.cell_far ⟨M, 1, none⟩ (by rw [hz]; exact Nat.lt_succ_of_lt lm) ne).trans ((cell_alloc_old lm).trans h.c1), (hg.frozen_far ⟨M, 1, none⟩ (by rw [hz]; exact Nat.lt_succ_of_lt lm) ne).trans (((below_one w ob).frozen (p := ⟨M, 1, none⟩) lm).trans h.f1)⟩
def RdP (r : Nat) (a : Option Addr) (n cap : Nat) (bs : List Nat) (x : PN × Nat × Bool) (w : World) (e : Ending) (w' : World) : Prop :=
  ∃ ea ec, e = .returned (.agg #[.bool x.1.fin, .slice ea x.1.es.length ec]) ∧ RdM r a n cap bs x.2.1 x.2.2 w' ∧ w'.ownsRow w.heap.size 133 2 (.slice ea x.1.es.length ec) x.1.es.length (peV x.1.es) ∧ Turn (fun k => k = r) w w'
theorem LN.fin {w0 : World} {r : Nat} {a : Option Addr} {n cap : Nat} {bs : List Nat} {at_ : Nat} {bad : Bool} {M B : Nat} {fin : Bool} {es : List PE} {ea : Option Addr} {ec : Nat} {w : World} (h : LN w0 r a n cap bs at_ bad M B fin es ea ec w) (hr : r < w0.heap.size) (ha : ∀ q o, a = some ⟨q, o, none⟩ → q < w0.heap.size) (u v : Value) :
    RdM r a n cap bs at_ bad ((w.setCell ⟨B, 0, none⟩ u).setCell ⟨B, 1, none⟩ v) ∧ ((w.setCell ⟨B, 0, none⟩ u).setCell ⟨B, 1, none⟩ v).ownsRow w0.heap.size 133 2 (.slice ea es.length ec) es.length (peV es) ∧ Turn (fun k => k = r) w0 ((w.setCell ⟨B, 0, none⟩ u).setCell ⟨B, 1, none⟩ v) ∧ ((w.setCell ⟨B, 0, none⟩ u).setCell ⟨B, 1, none⟩ v).heap[B]? = some (.cells #[u, v] 97 (0, 0)) := by
  have t2 : Turn (fun k => w0.heap.size ≤ k) w ((w.setCell ⟨B, 0, none⟩ u).setCell ⟨B, 1, none⟩ v) := (Turn.setCell h.B0).trans (Turn.setCell h.B0)
  refine ⟨h.rd.turn t2 (by omega) (fun q o e => by have := ha q o e; omega), gowns_block h.o (fun q e => ?_), ⟨t2.os.trans h.t.os, t2.tape.trans h.t.tape, t2.output.trans h.t.output, Nat.le_trans h.t.size t2.size, fun k hk hn => (t2.block k (Nat.lt_of_lt_of_le hk h.t.size) (by omega)).trans (h.t.block k hk hn)⟩, heap_setCell_same _ B 1 _ _ v (heap_setCell_same w B 0 _ _ u h.kh)⟩
  have hq := (h.ne q e).2
  exact (Below.heap_setCell _ _ _ _ hq).trans (Below.heap_setCell _ _ _ _ hq)
set_option maxHeartbeats 6400000 in
set_option maxRecDepth 100000 in
theorem readNode_any (r : Nat) (a : Option Addr) (n cap : Nat) (bs : List Nat) (at_ : Nat) (bad : Bool) (w : World) (m : RdM r a n cap bs at_ bad w) (hn : n ≤ 1048576) (hat : at_ ≤ n) (hr : r < w.heap.size) (ha : ∀ q o, a = some ⟨q, o, none⟩ → q < w.heap.size) (hbs : ∀ b ∈ bs, b < 256) (hlen : bs.length = n) :
    Calls Try.prog 72 #[.pointer (some ⟨r, 0, none⟩)] w (RdP r a n cap bs (rdN bs n at_ bad) w) := by
  obtain ⟨i0, hi, hz0, hz1, hz2⟩ := info_parts pedge_info
  have B0 := Lib.hid (below_one w (.cells #[.bool false, .slice none 0 0] 97))
  have M0 := Lib.hid (show RdM r a n cap bs at_ bad (w.alloc (.cells #[.bool false, .slice none 0 0] 97)) from m.turn (S := fun _ => False) (Turn.of_below B0.out) (fun x => x) (fun q o e x => x))
  obtain ⟨v1, hv1⟩ : ∃ v, numR bs n at_ 1 bad = v := ⟨_, rfl⟩
  obtain ⟨a1, ha1⟩ : ∃ v, atR n at_ 1 bad = v := ⟨_, rfl⟩
  obtain ⟨b1, hb1⟩ : ∃ v, (!okR n at_ 1 bad) = v := ⟨_, rfl⟩
  have C1 := Lib.hid (rdNum_any r a n cap bs at_ bad 1 _ M0.out hn hat (by omega) (by omega))
  rw [hv1, ha1, hb1, show ((1 : Nat) : Int) = 1 from rfl] at C1
  have la1 : a1 ≤ n := ha1 ▸ atR_le hat
  obtain ⟨fin, hfin⟩ : ∃ f, ((v1 : Int) == 1) = f := ⟨_, rfl⟩
  have HFIN := Lib.hid (show decide (v1 = 1) = fin from by rw [← hfin]; by_cases h : v1 = 1 <;> simp [h]; omega)
  obtain ⟨v2, hv2⟩ : ∃ v, numR bs n a1 2 b1 = v := ⟨_, rfl⟩
  obtain ⟨a2, ha2⟩ : ∃ v, atR n a1 2 b1 = v := ⟨_, rfl⟩
  obtain ⟨b2, hb2⟩ : ∃ v, (!okR n a1 2 b1) = v := ⟨_, rfl⟩
  have la2 : a2 ≤ n := ha2 ▸ atR_le la1
  have v2b : v2 < 65536 := by rw [← hv2]; exact numR_lt bs n a1 2 b1 hbs hlen
  obtain ⟨R, hR⟩ : ∃ x, rdE bs n v2 a2 b2 = x := ⟨_, rfl⟩
  have HRD := Lib.hid (show rdN bs n at_ bad = (⟨fin, R.1⟩, R.2) from by
    unfold rdN
    simp only [hv1, ha1, hb1, hv2, ha2, hb2, hR, HFIN.out])
  rw [HRD.out]
  have RR := Lib.hid hR
  have HR := Lib.hid hr; have HA := Lib.hid ha
  have E2 := Lib.hid (And.intro hv2 (And.intro ha2 hb2))
  have CB := Lib.hid (show (w.alloc (.cells #[.bool false, .slice none 0 0] 97)).cell? ⟨w.heap.size, 0, none⟩ = some (.bool false) ∧ (w.alloc (.cells #[.bool false, .slice none 0 0] 97)).cell? ⟨w.heap.size, 1, none⟩ = some (.slice none 0 0) ∧ ∀ i, (w.alloc (.cells #[.bool false, .slice none 0 0] 97)).frozen? ⟨w.heap.size, i, none⟩ = false from ⟨by rw [cell_alloc rfl]; rfl, by rw [cell_alloc rfl]; rfl, fun i => frozen_alloc rfl⟩)
  clear m hr ha hv1 ha1 hb1 hv2 ha2 hb2 hR hbs hlen HRD
  go_enter Try.func72, Try.ntmps72
  go_wp2_with fail
  with_reducible refine C1.out.mono ?_
  rintro e w2 ⟨rfl, m2, t2⟩
  have L3 := Lib.hid (show LN w r a n cap bs a1 b1 w2.heap.size w.heap.size fin [] none 0 (w2.alloc (.cells #[.bool fin, .slice none 0 0] 97)) from by
    have hz := t2.size
    have hz0 : (w.alloc (.cells #[.bool false, .slice none 0 0] 97)).heap.size = w.heap.size + 1 := by simp
    have hB : ¬ w.heap.size = r := by have := HR.out; omega
    have lB : w.heap.size < (w.alloc (.cells #[.bool false, .slice none 0 0] 97)).heap.size := by omega
    have b3 := below_one w2 (.cells #[.bool fin, .slice none 0 0] 97)
    have lB2 : w.heap.size < w2.heap.size := by omega
    exact ⟨m2.turn (S := fun _ => False) (Turn.of_below b3) (fun x => x) (fun q o e x => x), by rw [cell_alloc rfl]; rfl, by rw [cell_alloc rfl]; rfl, frozen_alloc rfl, World.ownsRow_nil _ _ _ _, fun k e => (by cases e), by omega,
      (b3.cell (p := ⟨w.heap.size, 0, none⟩) lB2).trans ((t2.cell lB hB).trans CB.out.1), (b3.cell (p := ⟨w.heap.size, 1, none⟩) lB2).trans ((t2.cell lB hB).trans CB.out.2.1), fun i => (b3.frozen (p := ⟨w.heap.size, i, none⟩) lB2).trans ((t2.frozen lB hB).trans (CB.out.2.2 i)), (b3.block w.heap.size lB2).trans ((t2.block w.heap.size lB hB).trans (heap_alloc_new w _)), Nat.le_refl _, by omega, ((Turn.of_below B0.out).trans t2).trans (Turn.of_below b3)⟩)
  have C2 := Lib.hid (rdNum9 2 2 rfl (by omega) (by omega) v2 a2 b2 L3.out HR.out hn la1 E2.out.1 E2.out.2.1 E2.out.2.2)
  clear m2 t2 C1 M0 B0 CB
  go_wp2_with fail
  with_reducible refine C2.out.mono ?_
  rintro e w4 ⟨rfl, hL4⟩
  have L4 := Lib.hid hL4
  generalize w2.heap.size = M at *
  clear hL4 L3 C2
  go_wp2_with fail
  go_loopw [12] (fun iv wr => ∃ (i : Nat) (es : List PE) (ea : Option Addr) (ec at3 : Nat) (bad3 : Bool), i ≤ v2 ∧ iv = .int .i64 i ∧ at3 ≤ n ∧ es.length ≤ i ∧ Hid (es ++ (rdE bs n (v2 - i) at3 bad3).1 = R.1 ∧ (rdE bs n (v2 - i) at3 bad3).2 = R.2) ∧ Hid (LN w r a n cap bs at3 bad3 M w.heap.size fin es ea ec wr)) (fun iv _ => v2 - (intOf iv).toNat)
  case atStart => exact ⟨0, [], none, 0, a2, b2, by omega, rfl, la2, by simp, Lib.hid (by rw [Nat.sub_zero, RR.out]; exact ⟨rfl, rfl⟩), L4⟩
  case round =>
    clear L4 RR
    obtain ⟨i, es, ea, ec, at3, bad3, hi', rfl, l3, hel, hE, hL⟩ := hrel
    by_cases hlt : i < v2
    · obtain ⟨l, hl⟩ : ∃ v, numR bs n at3 4 bad3 = v := ⟨_, rfl⟩
      obtain ⟨a4, ha4⟩ : ∃ v, atR n at3 4 bad3 = v := ⟨_, rfl⟩
      obtain ⟨b4, hb4⟩ : ∃ v, (!okR n at3 4 bad3) = v := ⟨_, rfl⟩
      obtain ⟨t, ht⟩ : ∃ v, numR bs n a4 2 b4 = v := ⟨_, rfl⟩
      obtain ⟨a5, ha5⟩ : ∃ v, atR n a4 2 b4 = v := ⟨_, rfl⟩
      obtain ⟨b5, hb5⟩ : ∃ v, (!okR n a4 2 b4) = v := ⟨_, rfl⟩
      have l4 : a4 ≤ n := ha4 ▸ atR_le l3
      have l5 : a5 ≤ n := ha5 ▸ atR_le l4
      have EX := Lib.hid (show rdE bs n (v2 - i) at3 bad3 = if b5 then ([(l, t)], a5, true) else ((l, t) :: (rdE bs n (v2 - (i + 1)) a5 false).1, (rdE bs n (v2 - (i + 1)) a5 false).2) from by
        rw [show v2 - i = (v2 - (i + 1)) + 1 by omega, rdE_succ]
        simp only [hl, ha4, hb4, ht, ha5, hb5])
      have C4 := Lib.hid (fun (w' : World) (h : LN w r a n cap bs at3 bad3 M w.heap.size fin es ea ec w') => rdNum9 4 4 rfl (by omega) (by omega) l a4 b4 h HR.out hn l3 hl ha4 hb4)
      have C5 := Lib.hid (fun (w' : World) (h : LN w r a n cap bs a4 b4 M w.heap.size fin es ea ec w') => rdNum9 2 2 rfl (by omega) (by omega) t a5 b5 h HR.out hn l4 ht ha5 hb5)
      have L4 := Lib.hid (hL.out.below (Below.refl _ _).drew)
      have y4 := L4.out.c1
      clear hl ha4 hb4 ht ha5 hb5
      go_upto_region 5 with fail
      go_region_law
        (first
          | (refine step_append_lies _ (by rfl) _ _ _ (by rfl) w.heap.size 133 i0 _ 2 16 Try.underlying95 hi hz0 hz1 hz2 rfl (by omega) (.slice ea es.length ec) es.length (peV es) (by first | rfl | (simp [Act.eval]; done) | (simp [Act.eval, Act.put]; done)) (hL6.o.alloc _) ⟨w6.heap.size, 0, none⟩ 1 1 [.int .i64 (l : Int), .int .i64 (t : Int)] (by first | rfl | (simp [Act.eval]; done) | (simp [Act.eval, Act.put]; done)) (by rfl) (World.news_of_block (cs := #[.int .i64 (l : Int), .int .i64 (t : Int)]) (t := 133) (fr := (0, 0)) (heap_alloc_new w6 _)) (by simp [Value.oneCell']) (by omega) (by unfold maxLen; omega) (by omega) (by have := hL6.t.size; simp; omega) (w6.heap.size + 1) (by simp) ?_; intro g8 c8 w8 hown8 hgrow8 hat8 hlt8; obtain ⟨z0, z1⟩ := hL6.kept hgrow8)
          | (go_simp; go_at_call 71; (with_reducible refine (C4.out _ L4.out).mono ?_); rintro e w5 ⟨rfl, hL5⟩; have y5 := hL5.c1)
          | (go_simp; go_at_call 71; (with_reducible refine (C5.out _ hL5).mono ?_); rintro e w6 ⟨rfl, hL6⟩; have y6 := hL6.c1; have y7 := fun ob => (cell_alloc_old (w := w6) (o := ob) (b := M) (p := 1) (lt_of_cell hL6.c0)).trans hL6.c1)
          | fail)
      all_goals
        have LA := Lib.hid (hL6.app (x := (l, t)) HR.out HA.out hown8 hgrow8 (hat8.imp id (fun e => by simp; exact e)))
        clear hown8 hgrow8 hat8 hlt8 z0 z1 hL5 hL6 y4 y5 y6 y7 C4 C5 L4
        have CB5 := Lib.hid (rdBad_any r a n cap bs a5 b5 _ LA.out.rd)
        go_wp2_with fail
        with_reducible refine CB5.out.mono ?_
        rintro e w9 ⟨rfl, rfl⟩
        cases b5 with
        | true =>
          have ED := Lib.hid (show es ++ [(l, t)] = R.1 ∧ (a5, true) = R.2 from by
            have h1 := hE.out
            rw [EX.out] at h1
            simpa using h1)
          have F := Lib.hid (LA.out.fin HR.out HA.out (.bool fin) (.slice (some ⟨g8, 0, none⟩) (es.length + 1) c8))
          have EL : (es ++ [((l, t) : PE)]).length = es.length + 1 := by rw [List.length_append]; rfl
          have c0 := LA.out.c0
          have c1 := LA.out.c1
          rw [EL] at c1
          have k0 := LA.out.k0
          have k1 := LA.out.k1
          have f0 := LA.out.kf 0
          have f1 := LA.out.kf 1
          have ELH := Lib.hid EL
          clear EL
          go_wp2_with fail
          (try simp only [Exit.inBlock, Exit.then])
          refine bodyPost_ret (results_cell_row rfl _ _ w.heap.size 97 _ (0, 0) _ rfl F.out.2.2.2 Try.underlying97 rfl (by kernel_rfl)) rfl ?_
          obtain ⟨e1, e2⟩ := ED.out
          rw [← e1, ← e2]
          exact ⟨some ⟨g8, 0, none⟩, c8, by rw [ELH.out], F.out.1, F.out.2.1, F.out.2.2.1⟩
        | false =>
          have EN := Lib.hid (show (es ++ [(l, t)]) ++ (rdE bs n (v2 - (i + 1)) a5 false).1 = R.1 ∧ (rdE bs n (v2 - (i + 1)) a5 false).2 = R.2 from by
            have h1 := hE.out
            rw [EX.out] at h1
            simpa using h1)
          go_wp2_with fail
          go_roundw
          case rel => exact ⟨i + 1, es ++ [(l, t)], some ⟨g8, 0, none⟩, c8, a5, false, by omega, by go_num, l5, by simp; omega, EN, LA⟩
          case measure => simp [intOf] <;> omega
    · obtain rfl : i = v2 := by omega
      have ED := Lib.hid (show es = R.1 ∧ (at3, bad3) = R.2 from by
        have h1 := hE.out
        rw [Nat.sub_self] at h1
        simpa [rdE] using h1)
      have F := Lib.hid (hL.out.fin HR.out HA.out (.bool fin) (.slice ea es.length ec))
      have c0 := hL.out.c0
      have c1 := hL.out.c1
      have k0 := hL.out.k0
      have k1 := hL.out.k1
      have f0 := hL.out.kf 0
      have f1 := hL.out.kf 1
      go_wp2_with fail
      (try simp only [Exit.inBlock, Exit.then])
      refine bodyPost_ret (results_cell_row rfl _ _ w.heap.size 97 _ (0, 0) _ rfl F.out.2.2.2 Try.underlying97 rfl (by kernel_rfl)) rfl ?_
      obtain ⟨e1, e2⟩ := ED.out
      rw [← e1, ← e2]
      exact ⟨ea, ec, rfl, F.out.1, F.out.2.1, F.out.2.2.1⟩
end Go.Proofs.Ytbimbgcejeeinaa
/- A string's bytes; a string appended to a slice of bytes. -/
namespace Go.Proofs.Ytbimbgcejeeinaa
open Go.ChangeShapes Go.WideShapes Go.ChangeAt Go.RowKit
set_option linter.unusedVariables false
set_option maxRecDepth 20000
def strB (s : ByteArray) : List Nat := s.data.toList.map UInt8.toNat
theorem strB_length (s : ByteArray) : (strB s).length = s.size := by rw [strB, List.length_map, Array.length_toList]; rfl
theorem strB_lt (s : ByteArray) : ∀ b ∈ strB s, b < 256 := by
  intro b hb
  obtain ⟨x, _, rfl⟩ := List.mem_map.1 hb
  exact x.toNat_lt
theorem strCells_eq (s : ByteArray) : Lib.strCells s = bytesV (strB s) := by
  simp [Lib.strCells, bytesV, strB, List.map_map]
theorem below_bytesWorld (w : World) (e : TypeId) (s : ByteArray) : Below w.heap.size w (Lib.bytesWorld w e s) :=
  ⟨rfl, rfl, rfl, by rw [Lib.bytesWorld_size]; omega, fun k hk => Lib.bytesWorld_at_old w e s k hk⟩
theorem strB_getD (s : ByteArray) (j : Nat) : (strB s).getD j 0 = (s.data.toList.getD j 0).toNat := by
  simp only [strB, List.getD_eq_getElem?_getD, List.getElem?_map]
  cases s.data.toList[j]? <;> rfl
theorem holdsB_bytesWorld (w : World) (e : TypeId) (s : ByteArray) : HoldsB (Lib.bytesWorld w e s) (some ⟨w.heap.size, 0, none⟩) s.size (strB s) :=
  ⟨⟨by rw [List.length_map, strB_length], fun _ => ⟨_, _, rfl, fun i hi => by rw [Nat.zero_add, Lib.bytesWorld_cell w e s i hi, getD_map_cast, strB_getD]⟩⟩, strB_lt s⟩
theorem wpList_append_str {P : Program} {w : World} {ops : Array Oper} {rest : List Oper} {o : Oper} {a : Act} {Q : Exit → Act → World → Prop} (hgd : o.guard = none) (s x : Operand) (t u : TypeId)
    (ho : o.op = .call { callee := .builtin .append, args := #[s, x], argTypes := #[t, u] })
    (base : Nat) (e : TypeId) (i : TypeInfo) (ht : P.underlying t = some (.slice e)) (hu : P.underlying u = some .string) (hi : P.info? e = some i) (hz : i.zero = some (.int .u8 0)) (hsize : i.size = 1) (hby : i.bytes = 1)
    (v : Value) (n : Nat) (bs : List Nat) (hs : a.eval s = v) (hown : w.ownsRow base e 1 v n (bytesV bs))
    (str : ByteArray) (hx : a.eval x = .string str)
    (h63 : n + str.size ≤ maxLen) (hbytes : n + str.size ≤ 140737488355328) (hbase : base ≤ w.heap.size)
    (h : ∀ a' c' w', w'.ownsRow base e 1 (.slice a' (n + str.size) c') (n + str.size) (bytesV (bs ++ strB str)) → Below base w w' → wpList P ops Q rest (a.put o.dst (.slice a' (n + str.size) c')) w') : wpList P ops Q (o :: rest) a w := by
  refine Lib.wpList_append_own_string w hgd s x t u ho base e i ht hu hi hz hsize hby v n (bytesV bs) hs hown str hx h63 hbytes hbase fun v' w' h2 h3 _ => ?_
  have hb' : Below base w w' := (Below.refl base w).grown h3 hbase fun k hk => (hown.lt k hk).1
  rw [strCells_eq, bytesV_append] at h2
  rcases Joins.ownsRow_forms h2 with ⟨rfl, h0⟩ | ⟨g, cap, rfl⟩
  · have := h none 0 w' (by rw [h0] at h2 ⊢; exact h2) hb'
    rw [h0] at this
    exact this
  · exact h _ _ w' h2 hb'
end Go.Proofs.Ytbimbgcejeeinaa
/- contracts of code: a text read -/
namespace Go.Proofs.Ytbimbgcejeeinaa
open Go.RowKit
set_option linter.unusedVariables false
set_option maxRecDepth 20000
/-- the text of bytes -/
def strN (bs : List Nat) : ByteArray := strOfNums (bs.map fun b : Nat => (b : Int))
theorem strN_nil : strN [] = ⟨#[]⟩ := rfl
theorem run_conv_bytes {P : Program} (w : World) (src e dst : TypeId) (hs : P.underlying src = some (.slice e)) (he : P.underlying e = some (.int .u8)) (hd : P.underlying dst = some .string) (a : Option Addr) (n cap : Nat) (bs : List Nat) (h : HoldsB w a n bs) :
    (convert src dst (.slice a n cap)).run P w = .ok (.string (strN bs)) w := by
  have hl := h.len
  rcases Nat.eq_zero_or_pos n with h0 | h0
  · subst h0
    obtain rfl := List.eq_nil_of_length_eq_zero hl
    rw [run_convert_bytes_string w src dst e a 0 cap hs he hd]
    cases a with
    | none => simp [Conv.bytesToString]; rfl
    | some ad => simp [Conv.bytesToString]; rfl
  · obtain ⟨b, o, rfl, hc⟩ := h.at h0
    exact run_convert_bytes_arg (P := P) w src e hs he b o n cap (bs.map fun b : Nat => (b : Int)) (by simpa using hl) (fun i hi => by rw [hc i (by simpa [hl] using hi), getD_map_cast]) dst hd
/-- the bytes of the text at k -/
def textN (bs : List Nat) (k : Nat) : List Nat := (bs.take (k + 2 + numN bs k 2)).drop (k + 2)

theorem ret_mid {u v : Value} {x y : Int} (h : x = y) : Ending.returned (.tuple #[u, .int .i64 x, v]) = .returned (.tuple #[u, .int .i64 y, v]) := by rw [h]

end Go.Proofs.Ytbimbgcejeeinaa
/- pack: bytes alike, bytes that begin with others -/
namespace Go.Proofs.Ytbimbgcejeeinaa
open Go.RowKit
set_option linter.unusedVariables false
set_option maxRecDepth 20000
theorem strN_inj {x y : List Nat} (hx : ∀ b ∈ x, b < 256) (hy : ∀ b ∈ y, b < 256) : strN x = strN y ↔ x = y := by
  refine ⟨fun h => ?_, fun h => by rw [h]⟩
  have key : ∀ l : List Nat, (∀ b ∈ l, b < 256) → ((strN l).data.toList.map UInt8.toNat) = l := fun l hl => by
    unfold strN
    rw [strOfNums_data, List.map_map, List.map_map]
    refine (List.map_congr_left fun b hb => ?_).trans (List.map_id l)
    have := hl b hb
    simp
    omega
  rw [← key x hx, ← key y hy, h]
theorem bEqual_any (a1 a2 : Option Addr) (n1 c1 n2 c2 : Nat) (x y : List Nat) (w : World) (h1 : HoldsB w a1 n1 x) (h2 : HoldsB w a2 n2 y) :
    Calls Try.prog 51 #[.slice a1 n1 c1, .slice a2 n2 c2] w fun e w' => e = .returned (.bool (decide (x = y))) ∧ w = w' := by
  have r1 := run_conv_bytes w 31 5 9 Try.underlying31 Try.underlying5 Try.underlying9 a1 n1 c1 x h1
  have r2 := run_conv_bytes w 31 5 9 Try.underlying31 Try.underlying5 Try.underlying9 a2 n2 c2 y h2
  have E := Lib.hid (strN_inj h1.2 h2.2)
  clear h1 h2
  by_cases he : x = y
  · subst he
    rw [decide_eq_true rfl]
    have e1 : ((strN x).toList == (strN x).toList) = true := by simp
    go_enter Try.func51, Try.ntmps51
    go_wp2_with fail
    go_ret
    exact ⟨rfl, rfl⟩
  · rw [decide_eq_false he]
    have e1 : ((strN x).toList == (strN y).toList) = false := by
      rw [beq_eq_false_iff_ne]; exact fun h => he (E.out.1 (toList_inj h))
    clear he
    go_enter Try.func51, Try.ntmps51
    go_wp2_with fail
    go_ret
    exact ⟨rfl, rfl⟩
theorem bPrefix_any (a1 a2 : Option Addr) (n1 c1 n2 c2 : Nat) (x y : List Nat) (w : World) (h1 : HoldsB w a1 n1 x) (h2 : HoldsB w a2 n2 y) (hc : n1 ≤ c1) (h0 : 0 < n2) (hn : n1 ≤ 9223372036854775807) (hn2 : n2 ≤ 9223372036854775807) :
    Calls Try.prog 68 #[.slice a1 n1 c1, .slice a2 n2 c2] w fun e w' => e = .returned (.bool (decide (x.take n2 = y))) ∧ w = w' := by
  have l1 := h1.len
  have l2 := h2.len
  by_cases hle : n2 ≤ n1
  · have d1 : decide ((n1 : Int) ≥ (n2 : Int)) = true := decide_eq_true (by omega)
    have d2 : decide ((n2 : Int) ≤ (n1 : Int)) = true := decide_eq_true (by omega)
    obtain ⟨q, o, rfl, -⟩ := h1.at (by omega)
    have CE := Lib.hid (bEqual_any (some ⟨q, o, none⟩) a2 n2 c1 n2 c2 (x.take n2) y w (h1.front n2 hle) h2)
    obtain ⟨z, hz⟩ : ∃ z, decide (x.take n2 = y) = z := ⟨_, rfl⟩
    rw [hz] at CE ⊢
    have n3 : (n2 : Int) ≤ (c1 : Int) := by omega
    have n4 : n2 ≤ c1 := by omega
    have n5 : (0 : Int) ≤ (n2 : Int) := by omega
    clear h1 h2 hz l1 l2
    go_enter Try.func68, Try.ntmps68
    go_wp2_with fail
    with_reducible refine CE.out.mono ?_
    rintro e w' ⟨rfl, rfl⟩
    go_wp2_with fail
    go_ret
    exact ⟨rfl, rfl⟩
  · have d1 : decide ((n1 : Int) ≥ (n2 : Int)) = false := decide_eq_false (by omega)
    have d2 : decide ((n2 : Int) ≤ (n1 : Int)) = false := decide_eq_false (by omega)
    have hz : decide (x.take n2 = y) = false := decide_eq_false (fun e => by
      have := congrArg List.length e
      rw [List.length_take] at this; omega)
    rw [hz]
    clear h1 h2 hz l1 l2
    go_enter Try.func68, Try.ntmps68
    go_wp2_with fail
    go_ret
    exact ⟨rfl, rfl⟩
end Go.Proofs.Ytbimbgcejeeinaa
/- pack: nodes as they are read, in memory -/
namespace Go.Proofs.Ytbimbgcejeeinaa
open Go.RowKit
set_option linter.unusedVariables false
set_option maxRecDepth 20000
theorem pnode_info : (Try.prog.info? 97).map (fun i => (i.zero, i.size, i.bytes)) = some (some (.agg #[.bool false, .slice none 0 0]), 2, 32) := by kernel_rfl
/-- so many nodes, read on from here; none: something was missing -/
def rdL (bs : List Nat) (n : Nat) : Nat → Nat → Option (List PN × Nat)
  | 0, at_ => some ([], at_)
  | k + 1, at_ => if (rdN bs n at_ false).2.2 then none else (rdL bs n k (rdN bs n at_ false).2.1).map (fun r => ((rdN bs n at_ false).1 :: r.1, r.2))
/-- the nodes of a body: none: it is no such body -/
def readP (body : List Nat) : Option (List PN) :=
  if body.take 4 = [73, 78, 75, 49] then
    let d := body.drop 4
    if okR d.length 0 2 false then
      match rdL d d.length (numR d d.length 0 2 false) 2 with
      | some (L, k) => if k = d.length then some L else none
      | none => none
    else none
  else none
/-- a node with where its edges lie -/
structure PM where
  fin : Bool
  es : List PE
  ea : Option Addr
  ec : Nat
def pm0 : PM := ⟨false, [], none, 0⟩
def pmP (x : PM) : PN := ⟨x.fin, x.es⟩
def pmV : List PM → List Value
  | [] => []
  | x :: l => .bool x.fin :: .slice x.ea x.es.length x.ec :: pmV l
theorem pmV_len : ∀ l : List PM, (pmV l).length = l.length * 2
  | [] => rfl
  | x :: l => by simp [pmV, pmV_len l]; omega
theorem pmV_app : ∀ k l : List PM, pmV (k ++ l) = pmV k ++ pmV l
  | [], l => rfl
  | x :: k, l => by simp [pmV, pmV_app k l]
theorem pmV_one : ∀ (l : List PM), ∀ u ∈ pmV l, u.oneCell' = true
  | [], u, h => by simp [pmV] at h
  | x :: l, u, h => by
    simp only [pmV, List.mem_cons] at h
    rcases h with h | h | h
    · subst h; rfl
    · subst h; rfl
    · exact pmV_one l u h
theorem pmV_at : ∀ (l : List PM) (i : Nat), i < l.length → (pmV l)[i * 2]? = some (.bool (l.getD i pm0).fin) ∧ (pmV l)[i * 2 + 1]? = some (.slice (l.getD i pm0).ea (l.getD i pm0).es.length (l.getD i pm0).ec)
  | [], i, h => by simp at h
  | x :: l, 0, _ => by simp [pmV]
  | x :: l, i + 1, h => by
    have ih := pmV_at l i (by simpa using h)
    have e1 : (i + 1) * 2 = i * 2 + 1 + 1 := by omega
    rw [e1]
    simpa [pmV] using ih
/-- nodes in memory, each with its own edges, all from block B on -/
structure PR9 (B : Nat) (NL : List PM) (na : Option Addr) (nc : Nat) (w : World) : Prop where
  o : w.ownsRow B 97 2 (.slice na NL.length nc) NL.length (pmV NL)
  e : ∀ x ∈ NL, w.ownsRow B 133 2 (.slice x.ea x.es.length x.ec) x.es.length (peV x.es)
  ne : ∀ x ∈ NL, ∀ k, x.ea = some ⟨k, 0, none⟩ → na ≠ some ⟨k, 0, none⟩
theorem turn_grown9 {w w' : World} {r : Option Nat} (h : w.grownBy w' r) : Turn (fun k => some k = r) w w' := ⟨h.os, h.tape, h.output, h.size, fun k hk hn => h.block k hk hn⟩
theorem own_turn9 {w w' : World} {B : Nat} {e : TypeId} {size n c : Nat} {a : Option Addr} {xs : List Value} {T : Nat → Prop} (h : w.ownsRow B e size (.slice a n c) n xs) (t : Turn T w w') (hT : ∀ k, a = some ⟨k, 0, none⟩ → ¬ T k) : w'.ownsRow B e size (.slice a n c) n xs :=
  gowns_block h fun g e => t.block g (h.lt g (by rw [e]; rfl)).2 (hT g e)
theorem PR9.turn {B : Nat} {NL : List PM} {na : Option Addr} {nc : Nat} {w w' : World} {T : Nat → Prop} (h : PR9 B NL na nc w) (t : Turn T w w') (h1 : ∀ k, na = some ⟨k, 0, none⟩ → ¬ T k) (h2 : ∀ x ∈ NL, ∀ k, x.ea = some ⟨k, 0, none⟩ → ¬ T k) : PR9 B NL na nc w' :=
  ⟨own_turn9 h.o t h1, fun x hx => own_turn9 (h.e x hx) t (h2 x hx), h.ne⟩
/-- a node more -/
theorem PR9.grow {B : Nat} {NL : List PM} {na : Option Addr} {nc g c : Nat} {x : PM} {w w8 : World} {ob : Obj} (h : PR9 B NL na nc w) (hx : w.ownsRow B 133 2 (.slice x.ea x.es.length x.ec) x.es.length (peV x.es)) (hne : ∀ k, x.ea = some ⟨k, 0, none⟩ → na ≠ some ⟨k, 0, none⟩)
    (hown : w8.ownsRow B 97 2 (.slice (some ⟨g, 0, none⟩) (NL.length + 1) c) (NL.length + 1) (pmV NL ++ [.bool x.fin, .slice x.ea x.es.length x.ec])) (hg : (w.alloc ob).grownBy w8 (Value.slice na NL.length nc).ownBlock) (hat : (Value.slice na NL.length nc).ownBlock = some g ∨ g = (w.alloc ob).heap.size) : PR9 B (NL ++ [x]) (some ⟨g, 0, none⟩) c w8 := by
  have hz : (w.alloc ob).heap.size = w.heap.size + 1 := by simp
  have t : Turn (fun k => some k = (Value.slice na NL.length nc).ownBlock) w w8 := (Turn.alloc _ w ob).trans (turn_grown9 hg)
  have el : (NL ++ [x]).length = NL.length + 1 := by rw [List.length_append]; rfl
  have all : ∀ y ∈ NL ++ [x], w.ownsRow B 133 2 (.slice y.ea y.es.length y.ec) y.es.length (peV y.es) ∧ ∀ k, y.ea = some ⟨k, 0, none⟩ → na ≠ some ⟨k, 0, none⟩ := fun y hy => by
    rcases List.mem_append.1 hy with hy | hy
    · exact ⟨h.e y hy, h.ne y hy⟩
    · obtain rfl : y = x := by simpa using hy
      exact ⟨hx, hne⟩
  refine ⟨by rw [el, pmV_app]; exact hown, fun y hy => own_turn9 (all y hy).1 t (fun k e e2 => (all y hy).2 k e (own_at9 h.o e2.symm)), fun y hy k e e2 => ?_⟩
  injection e2 with e2; injection e2 with e2; subst e2
  rcases hat with e3 | e3
  · exact (all y hy).2 g e (own_at9 h.o e3)
  · have := ((all y hy).1.lt g (by rw [e]; rfl)).2; omega
end Go.Proofs.Ytbimbgcejeeinaa
/- pack: read -/
namespace Go.Proofs.Ytbimbgcejeeinaa
open Go.RowKit
set_option linter.unusedVariables false
set_option maxRecDepth 20000
theorem magic4 (w : World) : Calls Try.prog 69 #[] w fun e w' => ∃ a c, e = .returned (.slice a 4 c) ∧ HoldsB w' a 4 [73, 78, 75, 49] ∧ Below w.heap.size w w' := by
  refine (magic_any w).mono ?_
  rintro e w' ⟨a, c, rfl, h1, h2, -⟩
  exact ⟨a, c, rfl, holdsB_of_values (owns_holds h1) (by decide), h2⟩
/-- the loop's state -/
structure RL9 (w0 : World) (r : Nat) (a : Option Addr) (n cap : Nat) (bs : List Nat) (at_ : Nat) (bad : Bool) (NL : List PM) (na : Option Addr) (nc : Nat) (w : World) : Prop where
  rd : RdM r a n cap bs at_ bad w
  q : PR9 w0.heap.size NL na nc w
  nr : ∀ k, na = some ⟨k, 0, none⟩ → k ≠ r
  er : ∀ x ∈ NL, ∀ k, x.ea = some ⟨k, 0, none⟩ → k ≠ r
  r0 : w0.heap.size ≤ r
  b : Below w0.heap.size w0 w
/-- a node was read -/
theorem RL9.step {w0 : World} {r : Nat} {a : Option Addr} {n cap : Nat} {bs : List Nat} {at_ at2 : Nat} {bad bad2 : Bool} {NL : List PM} {na : Option Addr} {nc : Nat} {w w' w8 : World} {x : PM} {g c : Nat} {ob : Obj} (h : RL9 w0 r a n cap bs at_ bad NL na nc w) (ha : ∀ q o, a = some ⟨q, o, none⟩ → q < w0.heap.size) (m : RdM r a n cap bs at2 bad2 w') (t : Turn (fun k => k = r) w w') (hx : w'.ownsRow w.heap.size 133 2 (.slice x.ea x.es.length x.ec) x.es.length (peV x.es))
    (hown : w8.ownsRow w0.heap.size 97 2 (.slice (some ⟨g, 0, none⟩) (NL.length + 1) c) (NL.length + 1) (pmV NL ++ [.bool x.fin, .slice x.ea x.es.length x.ec])) (hg : (w'.alloc ob).grownBy w8 (Value.slice na NL.length nc).ownBlock) (hat : (Value.slice na NL.length nc).ownBlock = some g ∨ g = (w'.alloc ob).heap.size) :
    RL9 w0 r a n cap bs at2 bad2 (NL ++ [x]) (some ⟨g, 0, none⟩) c w8 := by
  have hz : (w'.alloc ob).heap.size = w'.heap.size + 1 := by simp
  have q' : PR9 w0.heap.size NL na nc w' := h.q.turn t h.nr h.er
  have lr : r < w'.heap.size := lt_of_cell m.c0
  have lrw : r < w.heap.size := lt_of_cell h.rd.c0
  have hxb : ∀ k, x.ea = some ⟨k, 0, none⟩ → w.heap.size ≤ k := fun k e => (hx.lt k (by rw [e]; rfl)).1
  have nb : ∀ k, some k = (Value.slice na NL.length nc).ownBlock → na = some ⟨k, 0, none⟩ := fun k e => own_at9 q'.o e.symm
  have t8 : Turn (fun k => some k = (Value.slice na NL.length nc).ownBlock) w' w8 := (Turn.alloc _ w' ob).trans (turn_grown9 hg)
  refine ⟨m.turn t8 (fun e => h.nr r (nb r e) rfl) (fun q o e e2 => ?_), q'.grow (base_less9 hx h.b.size) (fun k e e2 => ?_) hown hg hat, fun k e => ?_, fun y hy k e => ?_, h.r0, ?_⟩
  · have h1 := ha q o e
    have h2 := (q'.o.lt q e2.symm).1
    omega
  · have h1 := hxb k e
    have h2 := (h.q.o.lt k (by rw [e2]; rfl)).2
    omega
  · injection e with e; injection e with e; subst e
    rcases hat with e3 | e3
    · exact h.nr g (own_at9 q'.o e3)
    · omega
  · rcases List.mem_append.1 hy with hy | hy
    · exact h.er y hy k e
    · obtain rfl : y = x := by simpa using hy
      have := hxb k e
      omega
  · have hB := h.b.size
    have t9 : Turn (fun k => w0.heap.size ≤ k) w w8 := ⟨t8.os.trans t.os, t8.tape.trans t.tape, t8.output.trans t.output, Nat.le_trans t.size t8.size, fun k hk hn => (t8.block k (Nat.lt_of_lt_of_le hk t.size) (fun e => hn (q'.o.lt k e.symm).1)).trans (t.block k hk (fun e => hn (by rw [e]; exact h.r0)))⟩
    exact h.b.trans (t9.below (fun k hk => hk) hB)
end Go.Proofs.Ytbimbgcejeeinaa
/- pack: read, its walk -/
namespace Go.Proofs.Ytbimbgcejeeinaa
open Go.RowKit
set_option linter.unusedVariables false
set_option maxRecDepth 20000
theorem rdE_le (bs : List Nat) (n : Nat) : ∀ (k at_ : Nat) (bad : Bool), at_ ≤ n → (rdE bs n k at_ bad).2.1 ≤ n
  | 0, at_, bad, h => h
  | k + 1, at_, bad, h => by
    rw [rdE_succ]
    simp only
    split
    · exact atR_le (atR_le h)
    · exact rdE_le bs n k _ false (atR_le (atR_le h))
theorem rdN_le (bs : List Nat) (n at_ : Nat) (bad : Bool) (h : at_ ≤ n) : (rdN bs n at_ bad).2.1 ≤ n := rdE_le bs n _ _ _ (atR_le (atR_le h))
def ReadP (w : World) (x : Option (List PN)) (e : Ending) (w' : World) : Prop := Below w.heap.size w w' ∧ match x with
  | some L => ∃ na nc NL, NL.map pmP = L ∧ e = .returned (.tuple #[.slice na NL.length nc, .bool true]) ∧ PR9 w.heap.size NL na nc w'
  | none => ∃ v, e = .returned (.tuple #[v, .bool false])
set_option maxHeartbeats 6400000 in
set_option maxRecDepth 100000 in
theorem read_any (a : Option Addr) (n cap : Nat) (body : List Nat) (w : World) (h : HoldsB w a n body) (hc : n ≤ cap) (hn : n ≤ 1048576) :
    Calls Try.prog 47 #[.slice a n cap] w (ReadP w (readP body)) := by
  obtain ⟨i0, hi, hz0, hz1, hz2⟩ := info_parts pnode_info
  have H := Lib.hid h
  have hl := h.len
  have HL := Lib.hid hl
  have CP := Lib.hid (fun (w' : World) a2 c2 (hb : Below w.heap.size w w') (h2 : HoldsB w' a2 4 [73, 78, 75, 49]) => bPrefix_any a a2 n cap 4 c2 body [73, 78, 75, 49] w' (h.below hb) h2 hc (by omega) (by omega) (by omega))
  by_cases hm : body.take 4 = [73, 78, 75, 49]
  · rw [decide_eq_true hm] at CP
    have n4 : 4 ≤ n := by
      have := congrArg List.length hm
      rw [List.length_take, hl] at this
      simp at this; omega
    obtain ⟨q, o, rfl, -⟩ := h.at (by omega)
    obtain ⟨m, hmn⟩ : ∃ m, n - 4 = m := ⟨_, rfl⟩
    have HD : ∃ A : Addr, (if cap = 4 then some (⟨q, o, none⟩ : Addr) else some ⟨q, o + 4, none⟩) = some A ∧ Hid (HoldsB w (some A) m (body.drop 4) ∧ ∀ q2 o2, some A = some (⟨q2, o2, none⟩ : Addr) → q2 < w.heap.size) := by
      have lq : q < w.heap.size := by
        obtain ⟨q2, o2, e, hcc⟩ := h.at (by omega)
        injection e with e; injection e with e1 e2
        subst e1
        exact lt_of_cell (hcc 0 (by omega))
      by_cases h4 : cap = 4
      · refine ⟨⟨q, o, none⟩, by simp [h4], Lib.hid ⟨?_, fun q2 o2 e => by injection e with e; injection e with e1 e2; omega⟩⟩
        obtain rfl : m = 0 := by omega
        rw [List.drop_of_length_le (by omega)]
        exact holdsB_nil _ _
      · refine ⟨⟨q, o + 4, none⟩, by simp [h4], Lib.hid ⟨?_, fun q2 o2 e => by injection e with e; injection e with e1 e2; omega⟩⟩
        have h5 := h.part 4 n (by omega) (Nat.le_refl _) m hmn.symm
        rw [List.take_of_length_le (by omega)] at h5
        exact h5
    obtain ⟨A, hA, hAD⟩ := HD
    obtain ⟨d, hd⟩ : ∃ d, body.drop 4 = d := ⟨_, rfl⟩
    rw [hd] at hAD
    have dl : d.length = m := by rw [← hd, List.length_drop]; omega
    have DB := Lib.hid (show ∀ b ∈ d, b < 256 from fun b hb => h.2 b (List.mem_of_mem_drop (hd ▸ hb)))
    obtain ⟨cnt, hcnt⟩ : ∃ c, numR d m 0 2 false = c := ⟨_, rfl⟩
    obtain ⟨a1, ha1⟩ : ∃ c, atR m 0 2 false = c := ⟨_, rfl⟩
    obtain ⟨b1, hb1⟩ : ∃ c, (!okR m 0 2 false) = c := ⟨_, rfl⟩
    have la1 : a1 ≤ m := ha1 ▸ atR_le (Nat.zero_le _)
    have n5 : (4 : Int) ≤ (n : Int) := by omega
    have n6 : (4 : Int) ≤ (cap : Int) := by omega
    have n7 : 4 ≤ cap := by omega
    have HDD := Lib.hid hd
    clear h hd hl
    go_enter Try.func47, Try.ntmps47
    go_wp2_with fail
    refine (magic4 w).mono ?_
    rintro e w1 ⟨a2, c2, rfl, h2, hb2⟩
    have C1 := Lib.hid (CP.out w1 a2 c2 hb2 h2)
    have B1 := Lib.hid hb2
    clear h2 hb2 CP
    go_wp2_with fail
    with_reducible refine C1.out.mono ?_
    rintro e w2 ⟨rfl, rfl⟩
    go_wp2_with fail
    refine (magic4 w1).mono ?_
    rintro e w2 ⟨a3, c3, rfl, -, hb2⟩
    have B2 := Lib.hid (B1.out.trans (hb2.mono B1.out.size))
    clear hb2 C1
    have HA := Lib.hid (show ∀ q2 o2, some A = some (⟨q2, o2, none⟩ : Addr) → q2 < w.heap.size from hAD.out.2)
    have CR := Lib.hid (rdRead_any (some A) m (cap - 4) d w2 (hAD.out.1.below B2.out) (fun q2 o2 e => Nat.lt_of_lt_of_le (HA.out q2 o2 e) B2.out.size))
    go_wp2_with fail
    with_reducible refine CR.out.mono ?_
    rintro e w3 ⟨rfl, hR3, hb3, -⟩
    have C3 := Lib.hid (rdNum_any w2.heap.size (some A) m (cap - 4) d 0 false 2 w3 hR3 (by omega) (by omega) (by omega) (by omega))
    rw [hcnt, ha1, hb1, show ((2 : Nat) : Int) = 2 from rfl] at C3
    have B3 := Lib.hid (B2.out.trans (hb3.mono B2.out.size))
    have R0 := B2.out.size
    clear hb3 hR3 CR
    go_wp2_with fail
    with_reducible refine C3.out.mono ?_
    rintro e w4 ⟨rfl, m4, t4⟩
    have R4 := Lib.hid (show RL9 w w2.heap.size (some A) m (cap - 4) d a1 b1 [] none 0 w4 from
      ⟨m4, ⟨World.ownsRow_nil _ _ _ _, fun x hx => (by cases hx), fun x hx => (by cases hx)⟩, fun k e => (by cases e), fun x hx => (by cases hx), R0, B3.out.trans (t4.below (fun k hk => by rw [hk]; exact R0) B3.out.size)⟩)
    have RP := Lib.hid (show readP body = if okR m 0 2 false then (match rdL d m cnt 2 with | some (L, k) => if k = m then some L else none | none => none) else none from by
      unfold readP
      rw [if_pos hm]
      simp only [HDD.out, dl, hcnt]
      all_goals rfl)
    have B10 := Lib.hid (show (b1 = true → cnt = 0) ∧ (b1 = false → a1 = 2 ∧ okR m 0 2 false = true) ∧ (b1 = true → okR m 0 2 false = false) from by
      refine ⟨fun hb => ?_, fun hb => ?_, fun hb => ?_⟩
      · rw [hb] at hb1
        have h1 : okR m 0 2 false = false := by simpa using hb1
        rw [← hcnt]; unfold numR; rw [h1]; rfl
      · rw [hb] at hb1
        have h1 : okR m 0 2 false = true := by simpa using hb1
        exact ⟨by rw [← ha1]; unfold atR; rw [h1]; rfl, h1⟩
      · rw [hb] at hb1
        simpa using hb1)
    have cb : cnt < 65536 := by rw [← hcnt]; exact numR_lt d m 0 2 false DB.out dl
    clear hm hcnt ha1 hb1 C3 m4 t4
    obtain ⟨cp, hcp⟩ : ∃ c, cap - 4 = c := ⟨_, rfl⟩
    rw [hcp] at R4
    go_wp2_with fail
    go_loopw [6, 19] (fun nv iv wr => ∃ (i : Nat) (NL : List PM) (na : Option Addr) (nc at3 : Nat), i ≤ cnt ∧ nv = .slice na NL.length nc ∧ iv = .int .i64 i ∧ at3 ≤ m ∧ NL.length ≤ i ∧ Hid ((rdL d m (cnt - i) at3).map (fun x => (NL.map pmP ++ x.1, x.2)) = rdL d m cnt a1) ∧ Hid (RL9 w w2.heap.size (some A) m cp d at3 b1 NL na nc wr)) (fun _ iv _ => cnt - (intOf iv).toNat)
    case atStart => exact ⟨0, [], none, 0, a1, by omega, rfl, rfl, la1, by simp, Lib.hid (by rw [Nat.sub_zero]; cases rdL d m cnt a1 <;> simp), R4⟩
    case round =>
      clear R4
      obtain ⟨i, NL, na, nc, at3, hi', rfl, rfl, l3, hnl, hE, hL⟩ := hrel
      by_cases hlt : i < cnt
      · have hb : b1 = false := by
          cases b1
          · rfl
          · have := B10.out.1 rfl; omega
        subst hb
        obtain ⟨⟨⟨xf, xe⟩, x2, x3⟩, hx⟩ : ∃ x, rdN d m at3 false = x := ⟨_, rfl⟩
        have lx : x2 ≤ m := by have := rdN_le d m at3 false l3; rw [hx] at this; exact this
        have EX := Lib.hid (show rdL d m (cnt - i) at3 = if x3 then none else (rdL d m (cnt - (i + 1)) x2).map (fun r => ((⟨xf, xe⟩ : PN) :: r.1, r.2)) from by
          rw [show cnt - i = (cnt - (i + 1)) + 1 by omega]
          simp only [rdL, hx])
        have CN := Lib.hid (readNode_any w2.heap.size (some A) m cp d at3 false wr hL.out.rd (by omega) l3 (lt_of_cell hL.out.rd.c0) (fun q2 o2 e => Nat.lt_of_lt_of_le (HA.out q2 o2 e) hL.out.b.size) DB.out dl)
        rw [hx] at CN
        have ZL := hL.out.b.size
        clear hx
        go_wp2_with fail
        with_reducible refine CN.out.mono ?_
        rintro e w5 ⟨ea, ec, rfl, m5, o5, t5⟩
        have O5 := Lib.hid (hL.out.q.turn t5 hL.out.nr hL.out.er).o
        have X5 := Lib.hid (And.intro m5 (And.intro o5 t5))
        have Z5 := t5.size
        clear m5 o5 t5 CN
        dsimp only
        go_wp2_with (at_builtin; refine wpList_append_lies _ rfl (.tmp 21) (.tmp 24) 69 rfl w.heap.size 97 i0 _ 2 32 Try.underlying69 hi hz0 hz1 hz2 rfl (by omega) (.slice na NL.length nc) NL.length (pmV NL) (by rfl) (O5.out.alloc _) ⟨w5.heap.size, 0, none⟩ 1 1 [.bool xf, .slice ea xe.length ec] (by rfl) (by rfl) (World.news_of_block (cs := #[.bool xf, .slice ea xe.length ec]) (t := 97) (fr := (0, 0)) (heap_alloc_new w5 _)) (by simp [Value.oneCell']) (by omega) (by unfold maxLen; omega) (by omega) (by simp; omega) (w5.heap.size + 1) (by simp) ?_; intro g8 c8 w8 hown8 hgrow8 hat8 hlt8)
        have LA := Lib.hid (hL.out.step HA.out X5.out.1 X5.out.2.2 (x := ⟨xf, xe, ea, ec⟩) X5.out.2.1 hown8 hgrow8 (hat8.imp id (fun e => by rw [e]; simp)))
        clear hown8 hgrow8 hat8 hlt8 X5 O5
        have CB := Lib.hid (rdBad_any w2.heap.size (some A) m cp d x2 x3 w8 LA.out.rd)
        with_reducible refine CB.out.mono ?_
        rintro e w9 ⟨rfl, rfl⟩
        cases x3 with
        | true =>
          have RN := Lib.hid (show readP body = none from by
            have h1 := hE.out
            rw [EX.out] at h1
            obtain ⟨e1, e2⟩ := B10.out.2.1 (by first | rfl | trivial)
            rw [e1] at h1
            rw [RP.out, e2, if_pos rfl, ← h1]; rfl)
          have BZ := Lib.hid LA.out.b
          clear LA
          go_wp2_with fail
          go_ret2
          refine ⟨BZ.out, ?_⟩
          rw [RN.out]
          exact ⟨_, rfl⟩
        | false =>
          have EN := Lib.hid (show (rdL d m (cnt - (i + 1)) x2).map (fun x => ((NL ++ [(⟨xf, xe, ea, ec⟩ : PM)]).map pmP ++ x.1, x.2)) = rdL d m cnt a1 from by
            rw [← hE.out, EX.out]
            cases rdL d m (cnt - (i + 1)) x2 <;> simp [pmP])
          go_wp2_with fail
          go_roundw
          case rel => exact ⟨i + 1, NL ++ [⟨xf, xe, ea, ec⟩], some ⟨g8, 0, none⟩, c8, x2, by omega, by simp, by go_num, lx, by simp; omega, EN, LA⟩
          case measure => simp [intOf] <;> omega
      · obtain rfl : i = cnt := by omega
        have CD := Lib.hid (rdDone_any w2.heap.size (some A) m cp d at3 b1 wr hL.out.rd)
        have ED := Lib.hid (show rdL d m i a1 = some (NL.map pmP, at3) from by
          have h1 := hE.out
          rw [Nat.sub_self] at h1
          rw [← h1]; simp [rdL])
        have FB := Lib.hid hL.out.b
        have FQ := Lib.hid hL.out.q
        clear hE hL
        go_wp2_with fail
        with_reducible refine CD.out.mono ?_
        rintro e w5 ⟨rfl, hb5⟩
        have Q5 := Lib.hid (FQ.out.turn (T := fun _ => False) (Turn.of_below hb5) (fun _ _ x => x) (fun _ _ _ _ x => x))
        have BZ := Lib.hid (FB.out.trans (hb5.mono FB.out.size))
        clear hb5
        go_wp2_with fail
        go_ret2
        refine ⟨BZ.out, ?_⟩
        rw [RP.out]
        cases hb : b1 with
        | true => rw [B10.out.2.2 hb]; exact ⟨_, rfl⟩
        | false =>
          obtain ⟨e1, e2⟩ := B10.out.2.1 hb
          have h1 := ED.out
          rw [e1] at h1
          rw [e2, if_pos rfl, h1]
          by_cases hk : at3 = m
          · simp only [hk, if_true]
            exact ⟨na, nc, NL, rfl, rfl, Q5.out⟩
          · simp only [hk, if_false]
            exact ⟨_, rfl⟩
  · rw [decide_eq_false hm] at CP
    have RN : readP body = none := by unfold readP; rw [if_neg hm]
    rw [RN]
    clear hm h hl RN
    go_enter Try.func47, Try.ntmps47
    go_wp2_with fail
    refine (magic4 w).mono ?_
    rintro e w1 ⟨a2, c2, rfl, h2, hb2⟩
    have C1 := Lib.hid (CP.out w1 a2 c2 hb2 h2)
    have B1 := Lib.hid hb2
    clear h2 hb2 CP
    go_wp2_with fail
    with_reducible refine C1.out.mono ?_
    rintro e w2 ⟨rfl, rfl⟩
    go_wp2_with fail
    go_ret2
    exact ⟨B1.out, _, rfl⟩
end Go.Proofs.Ytbimbgcejeeinaa
/- the library's Builder at this seat: WriteRune, String -/
namespace Go.Proofs.Ytbimbgcejeeinaa
open Go.Shelf Go.RowKit
def Try.lays169_ren : Go.Shelf.Ren := ⟨fun | 169 => 112 | n => n, fun | 70 => 151 | 9 => 9 | 0 => 0 | 72 => 153 | 37 => 31 | 127 => 164 | 3 => 3 | 5 => 5 | n => n, fun | n => n⟩
theorem Try.lays169 : Go.Proofs.Lays.n169 Try.prog Try.lays169_ren := {
  mixed := by kernel_rfl
  f169 := Try.func112.trans (congrArg some (by kernel_rfl))
  t0 := Try.underlying0
  a0 := Try.isAgg0
  z0 := Try.sizeOf0
  v0 := Try.zeroValue0
  t3 := Try.underlying3
  a3 := Try.isAgg3
  z3 := Try.sizeOf3
  v3 := Try.zeroValue3
  t9 := Try.underlying9
  a9 := Try.isAgg9
  z9 := Try.sizeOf9
  v9 := Try.zeroValue9
  t37 := Try.underlying31
  a37 := Try.isAgg31
  z37 := Try.sizeOf31
  v37 := Try.zeroValue31
  t70 := Try.underlying151
  a70 := Try.isAgg151
  z70 := Try.sizeOf151
  v70 := Try.zeroValue151
  t72 := Try.underlying153
  a72 := Try.isAgg153
  z72 := Try.sizeOf153
  v72 := Try.zeroValue153
  t127 := Try.underlying164
  a127 := Try.isAgg164
  z127 := Try.sizeOf164
  v127 := Try.zeroValue164 }
theorem Try.Builder_Extra_169 : Builder.Extra Try.prog Try.lays169_ren := {
  sizeBuilder := by kernel_rfl
  liesBuilder := by kernel_rfl
  t5 := Try.underlying5
  a5 := Try.isAgg5
  z5 := Try.sizeOf5
  v5 := Try.zeroValue5
  infoByte := by kernel_rfl
  cellsByte := by kernel_rfl
  sizeByte := by kernel_rfl
  neB5 := by decide }
theorem bstring_any (B b : Nat) (l : List UInt8) (w : World) (h : Lib.IsBuilderF 153 5 B b (Lib.byteCells l) w) (hBw : B ≤ w.heap.size) :
    Calls Try.prog 112 #[.pointer (some ⟨b, 0, none⟩)] w fun e w' => e = .returned (.string ⟨l.toArray⟩) ∧ (Lib.IsBuilderF 153 5 B b (Lib.byteCells l) w' ∧ Below B w w' ∧ Lib.OthersKept 5 (some b) w w') := Any.Builder_String_any_k Try.lays169 Try.Builder_Extra_169 B b l w h hBw
def Try.lays242_ren : Go.Shelf.Ren := ⟨fun | 242 => 118 | 278 => 121 | n => n, fun | 37 => 31 | 21 => 21 | 51 => 89 | 4 => 4 | 5 => 5 | 46 => 66 | n => n, fun | n => n⟩
theorem Try.lays242 : Go.Proofs.Lays.n242 Try.prog Try.lays242_ren := {
  mixed := by kernel_rfl
  f242 := Try.func118.trans (congrArg some (by kernel_rfl))
  f278 := Try.func121.trans (congrArg some (by kernel_rfl))
  t4 := Try.underlying4
  a4 := Try.isAgg4
  z4 := Try.sizeOf4
  v4 := Try.zeroValue4
  t5 := Try.underlying5
  a5 := Try.isAgg5
  z5 := Try.sizeOf5
  v5 := Try.zeroValue5
  t21 := Try.underlying21
  a21 := Try.isAgg21
  z21 := Try.sizeOf21
  v21 := Try.zeroValue21
  t37 := Try.underlying31
  a37 := Try.isAgg31
  z37 := Try.sizeOf31
  v37 := Try.zeroValue31
  t46 := Try.underlying66
  a46 := Try.isAgg66
  z46 := Try.sizeOf66
  v46 := Try.zeroValue66
  t51 := Try.underlying89
  a51 := Try.isAgg89
  z51 := Try.sizeOf89
  v51 := Try.zeroValue89 }
theorem appendRune_any (B : Nat) (v : Value) (n : Nat) (xs : List Value) (r : Int) (hr0 : -2147483648 ≤ r) (hr1 : r ≤ 2147483647) (w : World) (hown : w.ownsRowF B 5 1 v n xs) (hlen : n + 4 ≤ 140737488355328) (hBw : B ≤ w.heap.size) :
    Calls Try.prog 118 #[v, .int .i32 r] w fun e w' => ∃ v', e = .returned v' ∧ w'.ownsRowF B 5 1 v' (n + (Lib.runeCells r).length) (xs ++ Lib.runeCells r) ∧ ∃ o, (w.alloc o).grownBy w' v.ownBlock :=
  Any.utf8_AppendRune_row Try.lays242 (by kernel_rfl) B v n xs r hr0 hr1 w hown hlen hBw
theorem builder_size : (Try.prog.info? 153).map (·.size) = some 2 := by kernel_rfl
set_option maxHeartbeats 1000000 in
theorem copyCheck_used (b : Nat) (w : World) (h0 : w.cell? ⟨b, 0, none⟩ = some (.pointer (some ⟨b, 0, none⟩))) :
    Calls Try.prog 117 #[.pointer (some ⟨b, 0, none⟩)] w fun e w' => e = .returned (.tuple #[]) ∧ w' = w := by
  obtain ⟨j, hj, _⟩ := Option.map_eq_some_iff.1 builder_size
  have hq := Lib.run_neq_ptr_same (P := Try.prog) (w := w) ⟨b, 0, none⟩ Try.underlying151 hj
  go_enter Try.func117, Try.ntmps117
  go_wp2
  go_end0
  exact ⟨rfl, rfl⟩
set_option maxHeartbeats 1000000 in
theorem copyCheck_fresh (b : Nat) (w : World) (h0 : w.cell? ⟨b, 0, none⟩ = some (.pointer none)) (hsh : w.shape? b = some (153, 2)) (hfz : w.frozen? ⟨b, 0, none⟩ = false) :
    Calls Try.prog 117 #[.pointer (some ⟨b, 0, none⟩)] w fun e w' => e = .returned (.tuple #[]) ∧ w' = w.setCell ⟨b, 0, none⟩ (.pointer (some ⟨b, 0, none⟩)) := by
  obtain ⟨j, hj, hjs⟩ := Option.map_eq_some_iff.1 builder_size
  have c1 := Lib.run_to_unsafe (P := Try.prog) w ⟨b, 0, none⟩ Try.underlying151 Try.underlying166 hj (by rw [hjs]; decide) hsh (Nat.zero_lt_succ 1)
  have c2 := Lib.run_from_unsafe (P := Try.prog) w ⟨b, 0, none⟩ Try.underlying166 Try.underlying151 hj hsh (by kernel_rfl)
  have c3 := run_callFunc_extern (P := Try.prog) Try.func120 (by kernel_rfl) (by kernel_rfl) (by kernel_rfl) (e := Extern.AbiNoEscape.same) (by kernel_rfl) #[.pointer (some ⟨b, 0, none⟩)] w
  rw [Lib.run_noEscape] at c3
  simp only [Result.andThen] at c3
  go_enter Try.func117, Try.ntmps117
  go_wp2
  go_end0
  exact ⟨rfl, rfl⟩
theorem copyCheck_any (B b : Nat) (bs : List Value) (w : World) (h : Lib.IsBuilderF 153 5 B b bs w) :
    Calls Try.prog 117 #[.pointer (some ⟨b, 0, none⟩)] w fun e w' => e = .returned (.tuple #[]) ∧ (Lib.BuilderAtF 153 5 B b (.pointer (some ⟨b, 0, none⟩)) bs w' ∧ Below B w w') := by
  rcases h with h | h
  · refine (copyCheck_fresh b w h.cell0 h.shape h.frozen0).mono ?_
    rintro e w' ⟨rfl, rfl⟩
    exact ⟨rfl, h.used _, (Below.refl B w).setCell (p := ⟨b, 0, none⟩) h.1 _⟩
  · refine (copyCheck_used b w h.cell0).mono ?_
    rintro e w' ⟨rfl, rfl⟩
    exact ⟨rfl, h, Below.refl B _⟩
set_option maxHeartbeats 4000000 in
theorem bwrite_any (B b : Nat) (bs : List Value) (r : Int) (hr0 : -2147483648 ≤ r) (hr1 : r ≤ 2147483647) (w : World) (h : Lib.IsBuilderF 153 5 B b bs w) (hlen : bs.length + 4 ≤ 140737488355328) (hBw : B ≤ w.heap.size) :
    Calls Try.prog 111 #[.pointer (some ⟨b, 0, none⟩), .int .i32 r] w fun e w' => e = .returned (.tuple #[.int .i64 (Lib.runeCells r).length, .nilIface]) ∧ (Lib.BuilderAtF 153 5 B b (.pointer (some ⟨b, 0, none⟩)) (bs ++ Lib.runeCells r) w' ∧ Below B w w') := by
  have hk4 := Lib.runeCells_le r
  go_enter Try.func111, Try.ntmps111
  go_wp2_with fail
  refine (copyCheck_any B b bs _ h).mono ?_
  rintro e w1 ⟨rfl, h1, hb1⟩
  obtain ⟨hB, v, hbk, hown, hne⟩ := h1
  obtain ⟨ao, cap, rfl⟩ : ∃ ao cap, v = .slice ao bs.length cap := by
    rcases hown.2 with ⟨hv, h0⟩ | ⟨g, cap, cur, fz, hv, _⟩
    · exact ⟨none, 0, by rw [hv, h0]⟩
    · exact ⟨_, _, hv⟩
  have c0 : w1.cell? ⟨b, 0, none⟩ = some (.pointer (some ⟨b, 0, none⟩)) := by rw [Lib.cell_of_heap hbk]; rfl
  have c1 : w1.cell? ⟨b, 1, none⟩ = some (.slice ao bs.length cap) := by rw [Lib.cell_of_heap hbk]; rfl
  go_wp2_with (go_at_call 118; refine (appendRune_any B _ bs.length bs r hr0 hr1 _ hown hlen (by have := hb1.size; omega)).mono ?_)
  rintro e w2 ⟨v', rfl, hown', o, hgrow⟩
  have hlt : b < w1.heap.size := by
    rcases Nat.lt_or_ge b w1.heap.size with h' | h'
    · exact h'
    · simp [Array.getElem?_eq_none h'] at hbk
  have hb2 : w2.heap[b]? = some (.cells #[.pointer (some ⟨b, 0, none⟩), .slice ao bs.length cap] 153 (0, 0)) := by
    rw [hgrow.block b (by simp; omega) (fun e => hne e.symm), Lib.alloc_old w1 _ b hlt]
    exact hbk
  have d0 : w2.cell? ⟨b, 0, none⟩ = some (.pointer (some ⟨b, 0, none⟩)) := by rw [Lib.cell_of_heap hb2]; rfl
  have d1 : w2.cell? ⟨b, 1, none⟩ = some (.slice ao bs.length cap) := by rw [Lib.cell_of_heap hb2]; rfl
  have f1 : w2.frozen? ⟨b, 1, none⟩ = false := Lib.frozen_of_heap hb2 1
  obtain ⟨g, cap', rfl⟩ : ∃ g cap', v' = .slice (some ⟨g, 0, none⟩) (bs.length + (Lib.runeCells r).length) cap' := by
    rcases hown'.2 with ⟨_, h0⟩ | ⟨g, cap', cur, fz, hv, _⟩
    · omega
    · exact ⟨g, cap', hv⟩
  go_wp2
  go_ret2
  refine ⟨?_, ?_, ?_⟩
  · have e : ((bs.length : Int) + ((Lib.runeCells r).length : Int) - (bs.length : Int)) = ((Lib.runeCells r).length : Int) := by omega
    simp [e]
  · exact Lib.BuilderAtF.put (T := 153) (e := 5) hB hb2 (bs' := bs ++ Lib.runeCells r) (by simpa using hown') (by decide)
  · exact ((hb1.alloc (by have := hb1.size; omega) _).grown hgrow (by have := hb1.size; simp; omega) (fun k hk => (hown.lt k hk).1)).setCell (p := ⟨b, 1, none⟩) hB _
end Go.Proofs.Ytbimbgcejeeinaa
/- text.Text: the program's (split from Tm1, Tm2) -/
namespace Go.Proofs.Ytbimbgcejeeinaa
open Go.RowKit
set_option linter.unusedVariables false
set_option maxRecDepth 20000
def encS (r : Int) : ByteArray := ⟨(Lib.encodeRune r).toArray⟩
theorem valid_any (r : Int) (w : World) : Calls Try.prog 110 #[.int .i32 r] w fun e w' => e = .returned (.bool (decide (0 ≤ r ∧ r ≤ 1114111 ∧ (r < 55296 ∨ 57343 < r)))) ∧ w = w' := by
  have hc : r < 0 ∨ (0 ≤ r ∧ r < 55296) ∨ (55296 ≤ r ∧ r ≤ 57343) ∨ (57343 < r ∧ r ≤ 1114111) ∨ 1114111 < r := by omega
  rcases hc with h | h | h | h | h
  · rw [decide_eq_false (by omega)]
    go_enter Try.func110, Try.ntmps110
    go_wp2
    go_ret
    exact ⟨rfl, rfl⟩
  · rw [decide_eq_true (by omega)]
    go_enter Try.func110, Try.ntmps110
    go_wp2
    go_ret
    exact ⟨rfl, rfl⟩
  · rw [decide_eq_false (by omega)]
    go_enter Try.func110, Try.ntmps110
    go_wp2
    go_ret
    exact ⟨rfl, rfl⟩
  · rw [decide_eq_true (by omega)]
    go_enter Try.func110, Try.ntmps110
    go_wp2
    go_ret
    exact ⟨rfl, rfl⟩
  · rw [decide_eq_false (by omega)]
    go_enter Try.func110, Try.ntmps110
    go_wp2
    go_ret
    exact ⟨rfl, rfl⟩
def encL (zs : List Int) : List UInt8 := zs.flatMap Lib.encodeRune
def encB (zs : List Int) : ByteArray := ⟨(encL zs).toArray⟩
def allG (zs : List Int) : Prop := ∀ z ∈ zs, goodP z
instance (zs : List Int) : Decidable (allG zs) := by unfold allG; infer_instance
def textZ (zs : List Int) : ByteArray := if allG zs then encB zs else ⟨#[]⟩
theorem encL_snoc (x : List Int) (r : Int) : encL (x ++ [r]) = encL x ++ Lib.encodeRune r := by simp [encL]
theorem encode_le (r : Int) : (Lib.encodeRune r).length ≤ 4 := by rw [← Lib.runeCells_length]; exact (Lib.runeCells_le r).2
theorem encL_le : ∀ zs : List Int, (encL zs).length ≤ 4 * zs.length
  | [] => by simp [encL]
  | z :: zs => by
    have h1 := encL_le zs
    have h2 := encode_le z
    have h3 : encL (z :: zs) = Lib.encodeRune z ++ encL zs := rfl
    rw [h3, List.length_append, List.length_cons]; omega
theorem encB_snoc (x : List Int) (r : Int) : encB x ++ encS r = encB (x ++ [r]) := by
  apply ByteArray.ext
  simp [encB, encS, encL_snoc]
theorem encB_size (zs : List Int) : (encB zs).size ≤ 4 * zs.length := by
  have := encL_le zs
  simpa [encB, ByteArray.size] using this
theorem byteCells_snoc (x : List Int) (r : Int) : Lib.byteCells (encL x) ++ Lib.runeCells r = Lib.byteCells (encL (x ++ [r])) := by
  rw [encL_snoc, Lib.byteCells_append, Lib.byteCells_encodeRune]
theorem textZ_bad {zs : List Int} (z : Int) (h : z ∈ zs) (hz : ¬ goodP z) : textZ zs = ⟨#[]⟩ ∧ decide (allG zs) = false := by
  have hn : ¬ allG zs := fun k => hz (k z h)
  exact ⟨if_neg hn, decide_eq_false hn⟩
theorem textZ_good {zs : List Int} (h : allG zs) : textZ zs = encB zs ∧ decide (allG zs) = true := ⟨if_pos h, decide_eq_true h⟩
theorem getD_mem' (zs : List Int) (j : Nat) (h : j < zs.length) : zs.getD j 0 ∈ zs := by
  rw [List.getD_eq_getElem?_getD, List.getElem?_eq_getElem h]; simp
set_option maxHeartbeats 1600000 in
theorem text_any (a : Option Addr) (n cap : Nat) (zs : List Int) (w : World) (hh : HoldsI .i32 w a n zs) (hn : n ≤ 1048576) (hr : ∀ z ∈ zs, -2147483648 ≤ z ∧ z ≤ 2147483647) :
    Calls Try.prog 97 #[.slice a n cap] w fun e w' => e = .returned (.tuple #[.string (textZ zs), .bool (decide (allG zs))]) ∧ Below w.heap.size w w' := by
  have hl := hh.len
  go_enter Try.func97, Try.ntmps97
  go_wp2_with fail
  go_loopw [9] (fun cv wr => ∃ j : Nat, j ≤ n ∧ cv = .int .i64 j ∧ Hid (allG (zs.take j)) ∧ Hid (Lib.IsBuilderF 153 5 w.heap.size w.heap.size (Lib.byteCells (encL (zs.take j))) wr) ∧ Hid (Below w.heap.size w wr)) (fun cv _ => n - (intOf cv).toNat)
  case atStart =>
    refine ⟨0, by omega, rfl, Lib.hid (by simp [allG]), Lib.hid (Lib.IsBuilderF.of (Lib.fresh_isBuilder _ _ w)), Lib.hid (below_one _ _)⟩
  case round =>
    obtain ⟨j, hj, rfl, hG, hI, hB⟩ := hrel
    have hs := hB.out.size
    by_cases hlt : j < n
    · obtain ⟨b, o, rfl, hc⟩ := (hh.below hB.out).at (by omega)
      have e1 := hc j hlt
      have hrj := hr _ (getD_mem' zs j (by omega))
      have hmem := getD_mem' zs j (by omega)
      have htk := take_succ_getD zs 0 j (by omega)
      obtain ⟨x, hx⟩ : ∃ x, zs.getD j 0 = x := ⟨_, rfl⟩
      rw [hx] at e1 hrj hmem htk
      have HM := Lib.hid hmem; have HT := Lib.hid htk
      clear hx hmem htk hc
      by_cases hbad : x = 65533
      · subst hbad
        have hb := textZ_bad 65533 HM.out (by unfold goodP; omega)
        have HB := Lib.hid hb
        clear hb
        go_wp2_with fail
        go_ret2
        exact ⟨by rw [HB.out.1, HB.out.2]; rfl, hB.out⟩
      · have hb : (x == 65533) = false := by rw [beq_eq_false_iff_ne]; exact hbad
        have HBD := Lib.hid hbad
        clear hbad
        by_cases hv : 0 ≤ x ∧ x ≤ 1114111 ∧ (x < 55296 ∨ 57343 < x)
        · have hval := fun w => valid_any x w
          rw [decide_eq_true hv] at hval
          have hg : goodP x := ⟨hv.1, hv.2.1, hv.2.2, HBD.out⟩
          have HG := Lib.hid hg; have HV := Lib.hid hval
          clear hv hval hg
          go_wp2_with fail
          refine (HV.out _).mono ?_
          rintro e w' ⟨rfl, rfl⟩
          go_wp2_with fail
          have hlen : (encL (zs.take j)).length ≤ 4 * j := by
            have h1 := encL_le (zs.take j)
            have h2 : (zs.take j).length ≤ j := List.length_take_le _ _
            omega
          refine (bwrite_any w.heap.size w.heap.size _ x hrj.1 hrj.2 _ hI.out (by rw [Lib.byteCells_length]; omega) hs).mono ?_
          rintro e w2 ⟨rfl, hb2, hb3⟩
          rw [byteCells_snoc, ← HT.out] at hb2
          go_wp2_with fail
          go_roundw
          case rel => exact ⟨j + 1, by omega, by go_num, Lib.hid (by rw [HT.out]; intro z hz; rcases List.mem_append.1 hz with hz | hz; exact hG.out z hz; simp at hz; rw [hz]; exact HG.out), Lib.hid (Or.inr hb2), Lib.hid (hB.out.trans hb3)⟩
          case measure => simp [intOf]; omega
        · have hval := fun w => valid_any x w
          rw [decide_eq_false hv] at hval
          have hb2 := textZ_bad x HM.out (fun k => hv ⟨k.1, k.2.1, k.2.2.1⟩)
          have HV := Lib.hid hval; have HB := Lib.hid hb2
          clear hv hval hb2
          go_wp2_with fail
          refine (HV.out _).mono ?_
          rintro e w' ⟨rfl, rfl⟩
          go_wp2_with fail
          go_ret2
          exact ⟨by rw [HB.out.1, HB.out.2]; rfl, hB.out⟩
    · have hjn : zs.take j = zs := List.take_of_length_le (by omega)
      have HJ := Lib.hid hjn
      clear hjn
      go_wp2_with fail
      refine (bstring_any w.heap.size w.heap.size _ _ hI.out hs).mono ?_
      rintro e w2 ⟨rfl, _, hb2, _⟩
      go_wp2_with fail
      go_ret2
      have hg := textZ_good (show allG zs by have := hG.out; rw [HJ.out] at this; exact this)
      exact ⟨by rw [hg.1, hg.2, HJ.out]; rfl, hB.out.trans hb2⟩
end Go.Proofs.Ytbimbgcejeeinaa
/- pack: the words that nodes tell, plain; the lister in memory -/
namespace Go.Proofs.Ytbimbgcejeeinaa
open Go.RowKit
set_option linter.unusedVariables false
set_option maxRecDepth 20000
/-- a label as a rune -/
def runeL (x : Nat) : Int := IntKind.i32.wrap (x : Int)
def labT (x : Nat) : Tx := textZ [runeL x]
instance allG_dec (zs : List Int) : Decidable (allG zs) := by unfold allG; infer_instance
/-- over a node's edges: is all well, how many beginnings are left, the words -/
def folE (rf : Nat → Tx → Nat → List Tx → Bool × Nat × List Tx) (pre : Tx) : List PE → Nat → List Tx → Bool × Nat × List Tx
  | [], left, ws => (true, left, ws)
  | e :: es, left, ws =>
    if allG [runeL e.1] then
      (if (rf e.2 (pre ++ labT e.1) left ws).1 then folE rf pre es (rf e.2 (pre ++ labT e.1) left ws).2.1 (rf e.2 (pre ++ labT e.1) left ws).2.2 else (false, (rf e.2 (pre ++ labT e.1) left ws).2))
    else (false, left, ws)
def folF (L : List PN) : Nat → Nat → Tx → Nat → List Tx → Bool × Nat × List Tx
  | 0, n, pre, left, ws => (false, left, ws)
  | f + 1, n, pre, left, ws =>
    if L.length ≤ n ∨ left = 0 then (false, left, ws)
    else folE (folF L f) pre (L.getD n ⟨false, []⟩).es (left - 1) (if (L.getD n ⟨false, []⟩).fin then ws ++ [pre] else ws)
theorem folE_left {rf : Nat → Tx → Nat → List Tx → Bool × Nat × List Tx} (h : ∀ n pre left ws, (rf n pre left ws).2.1 ≤ left) (pre : Tx) : ∀ (es : List PE) (left : Nat) (ws : List Tx), (folE rf pre es left ws).2.1 ≤ left
  | [], left, ws => Nat.le_refl _
  | e :: es, left, ws => by
    unfold folE
    split
    · split
      · exact Nat.le_trans (folE_left h pre es _ _) (h _ _ _ _)
      · exact h _ _ _ _
    · exact Nat.le_refl _
theorem folF_left (L : List PN) : ∀ (f n : Nat) (pre : Tx) (left : Nat) (ws : List Tx), (folF L f n pre left ws).2.1 ≤ left
  | 0, n, pre, left, ws => Nat.le_refl _
  | f + 1, n, pre, left, ws => by
    unfold folF
    split
    · exact Nat.le_refl _
    · exact Nat.le_trans (folE_left (folF_left L f) pre _ _ _) (Nat.sub_le _ _)
/-- the lister: the nodes it goes over, how many beginnings are left, the words so far -/
structure FL9 (l : Nat) (NL : List PM) (na : Option Addr) (nc left : Nat) (ws : List Tx) (wa : Option Addr) (wc : Nat) (w : World) : Prop where
  c0 : w.cell? ⟨l, 0, none⟩ = some (.slice na NL.length nc)
  c1 : w.cell? ⟨l, 1, none⟩ = some (.int .i64 left)
  c2 : w.cell? ⟨l, 2, none⟩ = some (.slice wa ws.length wc)
  f : ∀ i, w.frozen? ⟨l, i, none⟩ = false
  o : w.ownsRow (l + 1) 9 1 (.slice wa ws.length wc) ws.length (strsV ws)
  p : PR9 0 NL na nc w
  pl : ∀ k, na = some ⟨k, 0, none⟩ → k < l
  pe : ∀ x ∈ NL, ∀ k, x.ea = some ⟨k, 0, none⟩ → k < l
theorem FL9.below {l : Nat} {NL : List PM} {na : Option Addr} {nc left : Nat} {ws : List Tx} {wa : Option Addr} {wc : Nat} {w w' : World} (h : FL9 l NL na nc left ws wa wc w) (hb : Below w.heap.size w w') : FL9 l NL na nc left ws wa wc w' := by
  have lt := lt_of_cell h.c0
  exact ⟨(hb.cell (p := ⟨l, 0, none⟩) lt).trans h.c0, (hb.cell (p := ⟨l, 1, none⟩) lt).trans h.c1, (hb.cell (p := ⟨l, 2, none⟩) lt).trans h.c2, fun i => (hb.frozen (p := ⟨l, i, none⟩) lt).trans (h.f i), owns_below h.o hb, h.p.turn (T := fun _ => False) (Turn.of_below hb) (fun _ _ x => x) (fun _ _ _ _ x => x), h.pl, h.pe⟩
/-- a beginning fewer -/
theorem FL9.less {l : Nat} {NL : List PM} {na : Option Addr} {nc left left2 : Nat} {ws : List Tx} {wa : Option Addr} {wc : Nat} {w : World} (h : FL9 l NL na nc left ws wa wc w) : FL9 l NL na nc left2 ws wa wc (w.setCell ⟨l, 1, none⟩ (.int .i64 (left2 : Int))) := by
  have t : Turn (fun k => k = l) w (w.setCell ⟨l, 1, none⟩ (.int .i64 (left2 : Int))) := Turn.setCell rfl
  exact ⟨(cset_ne (by omega)).trans h.c0, cset_at h.c1, (cset_ne (by omega)).trans h.c2, fun i => fset_any.trans (h.f i), own_turn9 h.o t (fun k e e2 => by have := (h.o.lt k (by rw [e]; rfl)).1; omega), h.p.turn t (fun k e e2 => by have := h.pl k e; omega) (fun x hx k e e2 => by have := h.pe x hx k e; omega), h.pl, h.pe⟩
/-- a word more -/
theorem FL9.word {l : Nat} {NL : List PM} {na : Option Addr} {nc left : Nat} {ws : List Tx} {wa : Option Addr} {wc g c : Nat} {t : Tx} {w w8 : World} {ob : Obj} (h : FL9 l NL na nc left ws wa wc w) (hown : w8.ownsRow (l + 1) 9 1 (.slice (some ⟨g, 0, none⟩) (ws.length + 1) c) (ws.length + 1) (strsV ws ++ [.string t])) (hg : (w.alloc ob).grownBy w8 (Value.slice wa ws.length wc).ownBlock) (hat : (Value.slice wa ws.length wc).ownBlock = some g ∨ g = (w.alloc ob).heap.size) :
    FL9 l NL na nc left (ws ++ [t]) (some ⟨g, 0, none⟩) c (w8.setCell ⟨l, 2, none⟩ (.slice (some ⟨g, 0, none⟩) (ws.length + 1) c)) ∧ Below l w (w8.setCell ⟨l, 2, none⟩ (.slice (some ⟨g, 0, none⟩) (ws.length + 1) c)) := by
  have ll := lt_of_cell h.c0
  have hz : (w.alloc ob).heap.size = w.heap.size + 1 := by simp
  have nb : ∀ k, some k = (Value.slice wa ws.length wc).ownBlock → l + 1 ≤ k := fun k e => (h.o.lt k e.symm).1
  have gl : l < g := by
    rcases hat with e | e
    · have := nb g e.symm; omega
    · omega
  have t1 : Turn (fun k => l + 1 ≤ k) w w8 := (Turn.alloc _ w ob).trans ⟨hg.os, hg.tape, hg.output, hg.size, fun k hk hn => hg.block k hk (fun e => hn (nb k e))⟩
  have t2 : Turn (fun k => l ≤ k) w (w8.setCell ⟨l, 2, none⟩ (.slice (some ⟨g, 0, none⟩) (ws.length + 1) c)) := Turn.trans ⟨t1.os, t1.tape, t1.output, t1.size, fun k hk hn => t1.block k hk (by omega)⟩ (Turn.setCell (Nat.le_refl l))
  have hc : ∀ i, w8.cell? ⟨l, i, none⟩ = w.cell? ⟨l, i, none⟩ := fun i => t1.cell ll (by omega)
  have el : (ws ++ [t]).length = ws.length + 1 := by rw [List.length_append]; rfl
  refine ⟨⟨(cset_ne (by omega)).trans ((hc 0).trans h.c0), (cset_ne (by omega)).trans ((hc 1).trans h.c1), ?_, fun i => fset_any.trans ((t1.frozen ll (by omega)).trans (h.f i)), ?_, h.p.turn t2 (fun k e e2 => by have := h.pl k e; omega) (fun x hx k e e2 => by have := h.pe x hx k e; omega), h.pl, h.pe⟩, t2.below (fun k hk => hk) (Nat.le_of_lt ll)⟩
  · rw [el]; exact cset_at ((hc 2).trans h.c2)
  · rw [el, show strsV (ws ++ [t]) = strsV ws ++ [.string t] by simp [strsV]]
    exact gowns_block hown (fun q e => by
      injection e with e; injection e with e
      obtain rfl : g = q := e
      exact Below.heap_setCell _ _ _ _ (show g ≠ l by omega))
end Go.Proofs.Ytbimbgcejeeinaa
/- pack: follow -/
namespace Go.Proofs.Ytbimbgcejeeinaa
open Go.RowKit
set_option linter.unusedVariables false
set_option maxRecDepth 20000
theorem strL_info : (Try.prog.info? 9).map (fun i => (i.zero, i.size, i.bytes)) = some (some (.string ⟨#[]⟩), 1, 16) := by kernel_rfl
theorem FL9.at {l : Nat} {NL : List PM} {na : Option Addr} {nc left : Nat} {ws : List Tx} {wa : Option Addr} {wc : Nat} {w : World} (h : FL9 l NL na nc left ws wa wc w) {i : Nat} (hi : i < NL.length) : ∃ q, na = some ⟨q, 0, none⟩ ∧ w.cell? ⟨q, i * 2, none⟩ = some (.bool (NL.getD i pm0).fin) ∧ w.cell? ⟨q, i * 2 + 1, none⟩ = some (.slice (NL.getD i pm0).ea (NL.getD i pm0).es.length (NL.getD i pm0).ec) := by
  obtain ⟨q, cap', hv⟩ := Joins.ownsRow_form h.p.o (by omega)
  simp only [Value.slice.injEq] at hv
  obtain ⟨hv, -, -⟩ := hv
  subst hv
  obtain ⟨v0, v1⟩ := pmV_at NL i hi
  exact ⟨q, rfl, (h.p.o.cellAt (i * 2) (by omega)).trans v0, (h.p.o.cellAt (i * 2 + 1) (by omega)).trans v1⟩
theorem pe_at {w : World} {B c : Nat} {a : Option Addr} {es : List PE} (h : w.ownsRow B 133 2 (.slice a es.length c) es.length (peV es)) {i : Nat} (hi : i < es.length) : ∃ q, a = some ⟨q, 0, none⟩ ∧ w.cell? ⟨q, i * 2, none⟩ = some (.int .i64 ((es.getD i (0, 0)).1 : Int)) ∧ w.cell? ⟨q, i * 2 + 1, none⟩ = some (.int .i64 ((es.getD i (0, 0)).2 : Int)) := by
  obtain ⟨q, cap', hv⟩ := Joins.ownsRow_form h (by omega)
  simp only [Value.slice.injEq] at hv
  obtain ⟨hv, -, -⟩ := hv
  subst hv
  obtain ⟨v0, v1⟩ := peV_at es i hi
  exact ⟨q, rfl, (h.cellAt (i * 2) (by omega)).trans v0, (h.cellAt (i * 2 + 1) (by omega)).trans v1⟩
theorem folE_few {rf : Nat → Tx → Nat → List Tx → Bool × Nat × List Tx} (h : ∀ n pre left ws, (rf n pre left ws).2.2.length + (rf n pre left ws).2.1 ≤ ws.length + left) (pre : Tx) : ∀ (es : List PE) (left : Nat) (ws : List Tx), (folE rf pre es left ws).2.2.length + (folE rf pre es left ws).2.1 ≤ ws.length + left
  | [], left, ws => Nat.le_refl _
  | e :: es, left, ws => by
    unfold folE
    split
    · split
      · exact Nat.le_trans (folE_few h pre es _ _) (h _ _ _ _)
      · exact h _ _ _ _
    · exact Nat.le_refl _
theorem folF_few (L : List PN) : ∀ (f n : Nat) (pre : Tx) (left : Nat) (ws : List Tx), (folF L f n pre left ws).2.2.length + (folF L f n pre left ws).2.1 ≤ ws.length + left
  | 0, n, pre, left, ws => Nat.le_refl _
  | f + 1, n, pre, left, ws => by
    unfold folF
    split
    · exact Nat.le_refl _
    · rename_i h
      refine Nat.le_trans (folE_few (folF_few L f) pre _ _ _) ?_
      split
      · rw [List.length_append, List.length_singleton]; omega
      · omega
theorem labT_size (x : Nat) : (labT x).size ≤ 4 := by
  unfold labT textZ
  split
  · have := encB_size [runeL x]
    simpa using this
  · exact Nat.zero_le _
/-- what follow does: the answer, and the lister behind it -/
def LisP (l : Nat) (NL : List PM) (na : Option Addr) (nc : Nat) (w : World) (r : Bool × Nat × List Tx) (e : Ending) (w' : World) : Prop := e = .returned (.bool r.1) ∧ (∃ wa wc, FL9 l NL na nc r.2.1 r.2.2 wa wc w') ∧ Below l w w'
def LisAny (l : Nat) (NL : List PM) (na : Option Addr) (nc f : Nat) : Prop := ∀ (n : Nat) (pre : Tx) (left : Nat) (ws : List Tx) (wa : Option Addr) (wc : Nat) (w : World), FL9 l NL na nc left ws wa wc w → left ≤ f → left ≤ 1000 → ws.length + left ≤ 1000 → pre.size + 4 * left ≤ 10000 → n ≤ 1000000 →
    Calls Try.prog 75 #[.pointer (some ⟨l, 0, none⟩), .int .i64 (n : Int), .string pre] w (LisP l NL na nc w (folF (NL.map pmP) (f + 1) n pre left ws))
end Go.Proofs.Ytbimbgcejeeinaa
/- pack: follow, its walk -/
namespace Go.Proofs.Ytbimbgcejeeinaa
open Go.RowKit
set_option linter.unusedVariables false
set_option maxRecDepth 20000
theorem LisP.next {l : Nat} {NL : List PM} {na : Option Addr} {nc : Nat} {w w2 : World} (hb : Below l w w2) (hl : l ≤ w.heap.size) {r : Bool × Nat × List Tx} {e : Ending} {w' : World} (h : LisP l NL na nc w2 r e w') : LisP l NL na nc w r e w' := ⟨h.1, h.2.1, hb.trans h.2.2⟩
theorem folF_go (L : List PN) (f n : Nat) (pre : Tx) (left : Nat) (ws : List Tx) (h : ¬ (L.length ≤ n ∨ left = 0)) : folF L (f + 1) n pre left ws = folE (folF L f) pre (L.getD n ⟨false, []⟩).es (left - 1) (if (L.getD n ⟨false, []⟩).fin then ws ++ [pre] else ws) := by
  conv => lhs; unfold folF
  rw [if_neg h]
theorem FL9.kept {l : Nat} {NL : List PM} {na : Option Addr} {nc left : Nat} {ws : List Tx} {wa : Option Addr} {wc : Nat} {w w8 : World} {ob : Obj} (h : FL9 l NL na nc left ws wa wc w) (hg : (w.alloc ob).grownBy w8 (Value.slice wa ws.length wc).ownBlock) : w8.cell? ⟨l, 2, none⟩ = some (.slice wa ws.length wc) ∧ w8.frozen? ⟨l, 2, none⟩ = false := by
  have ll := lt_of_cell h.c0
  have hz : (w.alloc ob).heap.size = w.heap.size + 1 := by simp
  have ne : some l ≠ (Value.slice wa ws.length wc).ownBlock := fun e => by have := (h.o.lt l e.symm).1; omega
  exact ⟨(hg.cell_far ⟨l, 2, none⟩ (by rw [hz]; exact Nat.lt_succ_of_lt ll) ne).trans ((cell_alloc_old ll).trans h.c2), (hg.frozen_far ⟨l, 2, none⟩ (by rw [hz]; exact Nat.lt_succ_of_lt ll) ne).trans (((below_one w ob).frozen (p := ⟨l, 2, none⟩) ll).trans (h.f 2))⟩
theorem holdsI_lit1G9 (w : World) (x : Int) (e : TypeId) (fr : Nat × Nat) : HoldsI .i32 (w.alloc (.cells #[.int .i32 x] e fr)) (some ⟨w.heap.size, 0, none⟩) 1 [x] := by
  refine ⟨rfl, fun _ => ⟨w.heap.size, 0, rfl, fun i hi => ?_⟩⟩
  obtain rfl : i = 0 := by omega
  rw [World.cell?_alloc_mark]; rfl
def GoodPM (NL : List PM) : Prop := ∀ x ∈ NL, ∀ e ∈ x.es, e.1 < 4294967296 ∧ e.2 < 65536 
set_option maxHeartbeats 6400000 in
set_option maxRecDepth 100000 in
theorem fol_step (l : Nat) (NL : List PM) (na : Option Addr) (nc f : Nat) (hG : GoodPM NL) (hlen : NL.length ≤ 70000) (hes : ∀ x ∈ NL, x.es.length ≤ 70000) (IH : ∀ f', f = f' + 1 → LisAny l NL na nc f') : LisAny l NL na nc f := by
  intro n pre left ws wa wc w h hlf hl1000 hws hpre hn
  obtain ⟨i0, hi, hz0, hz1, hz2⟩ := info_parts strL_info
  have H := Lib.hid h
  have IHH := Lib.hid IH
  have HG := Lib.hid hG
  have ll := lt_of_cell h.c0
  have c0 := h.c0
  have c1 := h.c1
  have f1 := h.f 1
  obtain ⟨N, hN⟩ : ∃ N, NL.length = N := ⟨_, rfl⟩
  have HN := Lib.hid hN
  rw [hN] at c0 hlen
  have REF := Lib.hid (show (N ≤ n ∨ left = 0) → folF (NL.map pmP) (f + 1) n pre left ws = (false, left, ws) from fun h => by
    unfold folF
    rw [if_pos (by rw [List.length_map, HN.out]; exact h)])
  have BF := Lib.hid (Below.refl l w)
  clear h hN IH
  by_cases hge : N ≤ n
  · have d1 : decide ((n : Int) ≥ (N : Int)) = true := decide_eq_true (by omega)
    have d2 : decide (N ≤ n) = true := decide_eq_true hge
    rw [REF.out (Or.inl hge)]
    clear hge
    go_enter Try.func75, Try.ntmps75
    go_wp2_with fail
    go_ret
    exact ⟨rfl, ⟨wa, wc, H.out⟩, BF.out⟩
  have d1 : decide ((n : Int) ≥ (N : Int)) = false := decide_eq_false (by omega)
  have d2 : decide (N ≤ n) = false := decide_eq_false hge
  by_cases h0 : left = 0
  · rw [REF.out (Or.inr h0)]
    have e1 : ((left : Int) == 0) = true := by simp [h0]
    have HL0 := Lib.hid h0
    clear h0
    go_enter Try.func75, Try.ntmps75
    go_wp2_with fail
    go_ret
    exact ⟨rfl, ⟨wa, wc, H.out⟩, BF.out⟩
  have e1 : ((left : Int) == 0) = false := by rw [beq_eq_false_iff_ne]; omega
  obtain ⟨k, hk⟩ : ∃ k, left - 1 = k := ⟨_, rfl⟩
  have e2 : (left : Int) - 1 = (k : Int) := by omega
  obtain ⟨f', hf'⟩ : ∃ f', f = f' + 1 := ⟨f - 1, by omega⟩
  have IF := Lib.hid (IHH.out f' hf')
  obtain ⟨x, hx⟩ : ∃ x, NL.getD n pm0 = x := ⟨_, rfl⟩
  have HX := Lib.hid hx
  have hmem : x ∈ NL := by
    have := HN.out
    rw [← hx, List.getD_eq_getElem?_getD, List.getElem?_eq_getElem (show n < NL.length by omega)]
    exact List.getElem_mem _
  have GX := Lib.hid (HG.out x hmem)
  have hml := hes x hmem
  obtain ⟨R, hR⟩ : ∃ R, folF (NL.map pmP) (f + 1) n pre left ws = R := ⟨_, rfl⟩
  have HR := Lib.hid (show folE (folF (NL.map pmP) (f' + 1)) pre x.es k (if x.fin then ws ++ [pre] else ws) = R from by
    have h2 : (NL.map pmP).getD n ⟨false, []⟩ = pmP x := by
      rw [← hx, List.getD_eq_getElem?_getD, List.getD_eq_getElem?_getD, List.getElem?_map, List.getElem?_eq_getElem (show n < NL.length by rw [HN.out]; omega)]; rfl
    rw [← hR, hf', folF_go _ _ _ _ _ _ (by rw [List.length_map, HN.out]; omega), h2, hk]; rfl)
  rw [hR]
  have L1 := Lib.hid (show FL9 l NL na nc k ws wa wc (w.setCell ⟨l, 1, none⟩ (.int .i64 (k : Int))) from H.out.less)
  obtain ⟨q, hq, y0, y1⟩ := L1.out.at (show n < NL.length by rw [HN.out]; omega)
  subst hq
  rw [hx] at y0 y1
  obtain ⟨fin, hfin⟩ : ∃ b, x.fin = b := ⟨_, rfl⟩
  obtain ⟨m, hm⟩ : ∃ m, x.es.length = m := ⟨_, rfl⟩
  obtain ⟨ea, hea⟩ : ∃ v, x.ea = v := ⟨_, rfl⟩
  have HEA := Lib.hid hea
  rw [hfin] at y0 HR
  rw [hm, hea] at y1
  rw [hm] at hml
  have HM := Lib.hid hm
  have BW := Lib.hid (show Below l w (w.setCell ⟨l, 1, none⟩ (.int .i64 (k : Int))) from (Below.refl l w).setCell (p := ⟨l, 1, none⟩) (Nat.le_refl l) _)
  have HMEM := Lib.hid hmem
  have c0' := L1.out.c0
  rw [HN.out] at c0'
  have c2' := L1.out.c2
  have HFK := Lib.hid hf'
  have HK := Lib.hid hk
  have hnN : n < N := by omega
  have n1 : (0 : Int) ≤ (n : Int) := by omega
  have n2 : (n : Int) < (N : Int) := by omega
  clear REF IHH hf' hk hx hmem hR hm hfin hge h0 hea
  go_enter Try.func75, Try.ntmps75
  go_upto_region 4 with fail
  generalize w.setCell ⟨l, 1, none⟩ (.int .i64 (k : Int)) = w1 at *
  go_upto_if 39 with fail
  cases fin
  case' true =>
    go_upto_region 6 with (at_builtin; refine wpList_append_lies _ rfl (.tmp 44) (.tmp 46) 22 rfl (l + 1) 9 i0 _ 1 16 Try.underlying22 hi hz0 hz1 hz2 rfl (by omega) (.slice wa ws.length wc) ws.length (strsV ws) (by rfl) (L1.out.o.alloc _) ⟨w1.heap.size, 0, none⟩ 1 1 [.string pre] (by rfl) (by rfl) (World.news_of_block (cs := #[.string pre]) (t := 9) (fr := (0, 0)) (heap_alloc_new w1 _)) (by simp [Value.oneCell']) (by omega) (by unfold maxLen; omega) (by omega) (by have := lt_of_cell L1.out.c0; simp; omega) (w1.heap.size + 1) (by simp) ?_; intro g8 c8 w8 hown8 hgrow8 hat8 hlt8; obtain ⟨z0, z1⟩ := L1.out.kept hgrow8)
    have W8 := L1.out.word hown8 hgrow8 (hat8.imp id (fun e => by rw [e]; simp))
    obtain ⟨w2, hw2⟩ : ∃ v, w8.setCell ⟨l, 2, none⟩ (.slice (some ⟨g8, 0, none⟩) (ws.length + 1) c8) = v := ⟨_, rfl⟩
    rw [hw2] at W8 ⊢
    obtain ⟨ws1, hws1⟩ : ∃ v, ws ++ [pre] = v := ⟨_, rfl⟩
    obtain ⟨wa1, hwa1⟩ : ∃ v : Option Addr, some (⟨g8, 0, none⟩ : Addr) = v := ⟨_, rfl⟩
    obtain ⟨wc1, hwc1⟩ : ∃ v, c8 = v := ⟨_, rfl⟩
    have L2 := Lib.hid (show FL9 l NL (some ⟨q, 0, none⟩) nc k ws1 wa1 wc1 w2 from by rw [← hws1, ← hwa1, ← hwc1]; exact W8.1)
    have B2 := Lib.hid (show Below l w w2 from BW.out.trans W8.2)
    have HR2 := Lib.hid (show folE (folF (NL.map pmP) (f' + 1)) pre x.es k ws1 = R from by rw [← hws1, ← HR.out]; rfl)
    have hwl : ws1.length + k ≤ 1000 := by rw [← hws1, List.length_append, List.length_singleton]; omega
    clear hown8 hgrow8 hat8 hlt8 z0 z1 W8 hw2 hws1 hwa1 hwc1
  case' false =>
    go_upto_region 6 with fail
    obtain ⟨w2, hw2⟩ : ∃ v, w1 = v := ⟨_, rfl⟩
    obtain ⟨ws1, hws1⟩ : ∃ v, ws = v := ⟨_, rfl⟩
    obtain ⟨wa1, hwa1⟩ : ∃ v, wa = v := ⟨_, rfl⟩
    obtain ⟨wc1, hwc1⟩ : ∃ v, wc = v := ⟨_, rfl⟩
    have L2 := Lib.hid (show FL9 l NL (some ⟨q, 0, none⟩) nc k ws1 wa1 wc1 w2 from by rw [← hws1, ← hwa1, ← hwc1, ← hw2]; exact L1.out)
    have B2 := Lib.hid (show Below l w w2 from by rw [← hw2]; exact BW.out)
    have HR2 := Lib.hid (show folE (folF (NL.map pmP) (f' + 1)) pre x.es k ws1 = R from by rw [← hws1, ← HR.out]; rfl)
    have hwl : ws1.length + k ≤ 1000 := by rw [← hws1]; omega
    rw [hw2]
    clear hw2 hws1 hwa1 hwc1
  all_goals
    clear L1 BW HR y0 y1 c0' c2' c0 c1 f1 ll H
    obtain ⟨qn, hq2, -, u1⟩ := L2.out.at (show n < NL.length by rw [HN.out]; exact hnN)
    injection hq2 with hq2
    injection hq2 with hq2
    subst hq2
    rw [HX.out, HM.out, HEA.out] at u1
    have u0 := L2.out.c0
    rw [HN.out] at u0
    go_wp2_with fail
    go_loopw [59] (fun iv wr => ∃ (j left2 : Nat) (ws2 : List Tx) (wa2 : Option Addr) (wc2 : Nat), j ≤ m ∧ iv = .int .i64 j ∧ left2 ≤ k ∧ ws2.length + left2 ≤ 1000 ∧ Hid (folE (folF (NL.map pmP) (f' + 1)) pre (x.es.drop j) left2 ws2 = R) ∧ Hid (FL9 l NL (some ⟨q, 0, none⟩) nc left2 ws2 wa2 wc2 wr) ∧ Hid (Below l w wr)) (fun iv _ => m - (intOf iv).toNat)
    case atStart => exact ⟨0, k, ws1, wa1, wc1, by omega, rfl, by omega, hwl, Lib.hid (by rw [List.drop_zero]; exact HR2.out), L2, B2⟩
    case round =>
      clear L2 B2 HR2 u0 u1
      obtain ⟨j, left2, ws2, wa2, wc2, hj, rfl, hl2, hw2, hE, hL, hB⟩ := hrel
      by_cases hlt : j < m
      · obtain ⟨q2, hq2, v0, v1⟩ := pe_at (hL.out.p.e x HMEM.out) (i := j) (by rw [HM.out]; exact hlt)
        rw [HEA.out] at hq2
        subst hq2
        obtain ⟨⟨y1, y2⟩, hy⟩ : ∃ y, x.es.getD j (0, 0) = y := ⟨_, rfl⟩
        rw [hy] at v0 v1
        simp only at v0 v1
        have DJ := Lib.hid (show x.es.drop j = (y1, y2) :: x.es.drop (j + 1) from by
          rw [List.drop_eq_getElem_cons (show j < x.es.length by rw [HM.out]; exact hlt), ← hy, List.getD_eq_getElem?_getD, List.getElem?_eq_getElem (show j < x.es.length by rw [HM.out]; exact hlt)]; rfl)
        have hy12 := GX.out (y1, y2) (by
          have hjx : j < x.es.length := by rw [HM.out]; exact hlt
          rw [← hy, List.getD_eq_getElem?_getD, List.getElem?_eq_getElem hjx]; exact List.getElem_mem _)
        simp only at hy12
        obtain ⟨yb1, yb2⟩ := hy12
        have n3 : (0 : Int) ≤ (j : Int) := by omega
        have n4 : (j : Int) < (m : Int) := by omega
        obtain ⟨ρ, hρ⟩ : ∃ r, wrap32 (y1 : Int) = r := ⟨_, rfl⟩
        have HRO := Lib.hid (show runeL y1 = ρ from by unfold runeL; rw [IntWalk.i32_left]; exact hρ)
        clear hy
        have hρb : -2147483648 ≤ ρ ∧ ρ ≤ 2147483647 := by
          rw [← hρ]
          unfold wrap32
          omega
        obtain ⟨S, hS⟩ : ∃ S, textZ [ρ] = S := ⟨_, rfl⟩
        have HLT := Lib.hid (show labT y1 = S from by unfold labT; rw [HRO.out, hS])
        have hSz : S.size ≤ 4 := by rw [← HLT.out]; exact labT_size y1
        have CT := Lib.hid (text_any (some ⟨(wr.alloc (.cells #[.int .i64 (y1 : Int), .int .i64 (y2 : Int)] 133)).heap.size, 0, none⟩) 1 1 [ρ] ((wr.alloc (.cells #[.int .i64 (y1 : Int), .int .i64 (y2 : Int)] 133)).alloc (.cells #[.int .i32 ρ] 21)) (holdsI_lit1G9 _ ρ 21 (0, 0)) (by decide) (by
          intro z hz
          simp only [List.mem_singleton] at hz
          rw [hz]; exact hρb))
        have L10 := Lib.hid ((hL.out.below (below_one wr (.cells #[.int .i64 (y1 : Int), .int .i64 (y2 : Int)] 133))).below (below_one _ (.cells #[.int .i32 ρ] 21)))
        have B10 := Lib.hid (show Below l w ((wr.alloc (.cells #[.int .i64 (y1 : Int), .int .i64 (y2 : Int)] 133)).alloc (.cells #[.int .i32 ρ] 21)) from (hB.out.alloc (Nat.le_of_lt (Nat.lt_of_lt_of_le (lt_of_cell hL.out.c0) (Nat.le_refl _))) _).alloc (Nat.le_of_lt (Nat.lt_of_lt_of_le (lt_of_cell hL.out.c0) (below_one wr _).size)) _)
        rw [hS] at CT
        rw [show (wr.alloc (.cells #[.int .i64 (y1 : Int), .int .i64 (y2 : Int)] 133)).heap.size = wr.heap.size + 1 by simp] at CT
        clear hL hB hS hρb
        by_cases hg : allG [ρ]
        · rw [decide_eq_true hg] at CT
          obtain ⟨R', hR'⟩ : ∃ r, folF (NL.map pmP) (f' + 1) y2 (pre ++ S) left2 ws2 = r := ⟨_, rfl⟩
          have NX := Lib.hid (show (if R'.1 then folE (folF (NL.map pmP) (f' + 1)) pre (x.es.drop (j + 1)) R'.2.1 R'.2.2 else (false, R'.2)) = R from by
            rw [← hE.out, DJ.out, ← hR']
            simp only [folE, HRO.out, HLT.out, if_pos hg])
          have hleft : R'.2.1 ≤ left2 := by rw [← hR']; exact folF_left _ _ _ _ _ _
          have hfew : R'.2.2.length + R'.2.1 ≤ ws2.length + left2 := by rw [← hR']; exact folF_few _ _ _ _ _ _
          obtain ⟨ok, lf, wz⟩ := R'
          simp only at hleft hfew
          clear hg
          subst hρ
          go_wp2_with fail
          with_reducible refine CT.out.mono ?_
          rintro e w11 ⟨rfl, hb11⟩
          have L11 := Lib.hid (L10.out.below hb11)
          have B11 := Lib.hid (B10.out.trans (hb11.mono (Nat.le_trans (Nat.le_of_lt (lt_of_cell L10.out.c0)) (Nat.le_refl _))))
          have CI := Lib.hid (IF.out y2 (pre ++ S) left2 ws2 wa2 wc2 w11 L11.out (by have := HFK.out; have := HK.out; omega) (by omega) (by omega) (by rw [ByteArray.size_append]; have := HK.out; omega) (by omega))
          rw [hR'] at CI
          have y4 := (hb11.cell (p := ⟨wr.heap.size, 1, none⟩) (by simp; omega)).trans ((cell_alloc_old (by simp)).trans (by rw [World.cell?_alloc_mark]; rfl : (wr.alloc (.cells #[.int .i64 (y1 : Int), .int .i64 (y2 : Int)] 133)).cell? ⟨wr.heap.size, 1, none⟩ = some (.int .i64 (y2 : Int))))
          clear hb11 CT L10 B10 hR'
          go_wp2_with fail
          with_reducible refine CI.out.mono ?_
          rintro e w12 ⟨rfl, ⟨wa3, wc3, L12⟩, b12⟩
          have H12 := Lib.hid L12
          have B12 := Lib.hid (B11.out.trans b12)
          clear L12 b12 CI y4
          cases ok with
          | true =>
            have NX2 := Lib.hid (show folE (folF (NL.map pmP) (f' + 1)) pre (x.es.drop (j + 1)) lf wz = R from NX.out)
            go_wp2_with fail
            go_roundw
            case rel => exact ⟨j + 1, lf, wz, wa3, wc3, by omega, by go_num, by omega, by omega, NX2, H12, B12⟩
            case measure => simp [intOf] <;> omega
          | false =>
            have NX2 := Lib.hid (show (false, lf, wz) = R from NX.out)
            go_wp2_with fail
            go_ret
            rw [← NX2.out]
            exact ⟨rfl, ⟨wa3, wc3, H12.out⟩, B12.out⟩
        · rw [decide_eq_false hg] at CT
          have NX := Lib.hid (show (false, left2, ws2) = R from by
            rw [← hE.out, DJ.out]
            simp only [folE, HRO.out, if_neg hg])
          clear hg
          subst hρ
          go_wp2_with fail
          with_reducible refine CT.out.mono ?_
          rintro e w11 ⟨rfl, hb11⟩
          have L11 := Lib.hid (L10.out.below hb11)
          have B11 := Lib.hid (B10.out.trans (hb11.mono (Nat.le_trans (Nat.le_of_lt (lt_of_cell L10.out.c0)) (Nat.le_refl _))))
          clear hb11 CT L10 B10
          go_wp2_with fail
          go_ret
          rw [← NX.out]
          exact ⟨rfl, ⟨wa2, wc2, L11.out⟩, B11.out⟩
      · obtain rfl : j = m := by omega
        have ED := Lib.hid (show (true, left2, ws2) = R from by
          rw [← hE.out, show x.es.drop j = [] from List.drop_of_length_le (by rw [HM.out]; exact Nat.le_refl _)]; rfl)
        go_wp2_with fail
        go_ret
        rw [← ED.out]
        exact ⟨rfl, ⟨wa2, wc2, hL.out⟩, hB.out⟩
end Go.Proofs.Ytbimbgcejeeinaa
/- graph: Next, Has -/
namespace Go.Proofs.Ytbimbgcejeeinaa
open Go.RowKit
set_option linter.unusedVariables false
set_option maxRecDepth 20000
def findE (r : Int) : List EdP → Int × Bool
  | [] => (0, false)
  | e :: l => if e.r = r then (e.dst, true) else findE r l
theorem findE_at (r : Int) : ∀ (es : List EdP) (j : Nat), j < es.length → (∀ x ∈ es.take j, x.r ≠ r) → (es.getD j ed0).r = r → findE r es = ((es.getD j ed0).dst, true)
  | [], j, h, _, _ => by simp at h
  | e :: l, 0, _, _, h => by
    have h' : e.r = r := h
    rw [findE, if_pos h']; rfl
  | e :: l, j + 1, h, ha, hr => by
    have h' : e.r ≠ r := ha e (by simp)
    rw [findE, if_neg h']
    exact findE_at r l j (by simpa using h) (fun x hx => ha x (by simp [hx])) hr
theorem findE_none (r : Int) : ∀ (es : List EdP), (∀ x ∈ es, x.r ≠ r) → findE r es = (0, false)
  | [], _ => rfl
  | e :: l, h => by
    rw [findE, if_neg (h e (by simp))]
    exact findE_none r l (fun x hx => h x (by simp [hx]))
def nextG (st : List GN) (n r : Int) : Int × Bool := findE r (edgesG st n)
theorem take_ed (l : List EdP) (j : Nat) (h : j < l.length) : l.take (j + 1) = l.take j ++ [l.getD j ed0] := by
  rw [List.take_add_one, List.getElem?_eq_getElem h, List.getD_eq_getElem?_getD, List.getElem?_eq_getElem h]; rfl
/-- where a text leads from a node on -/
def walkG (st : List GN) : List Nat → Int → Option Int
  | [], n => some n
  | r :: l, n => if (nextG st n (r : Int)).2 then walkG st l (nextG st n (r : Int)).1 else none
def endG (st : List GN) : Option Int → Bool
  | some n => finG st n
  | none => false
def hasW (st : List GN) (rs : List Nat) : Bool := endG st (walkG st rs 0)
end Go.Proofs.Ytbimbgcejeeinaa
/- graph: Has -/
namespace Go.Proofs.Ytbimbgcejeeinaa
open Go.RowKit
set_option linter.unusedVariables false
set_option maxRecDepth 20000
end Go.Proofs.Ytbimbgcejeeinaa
/- two lists of api.Edge: held against each other -/
namespace Go.Proofs.Ytbimbgcejeeinaa
open Go.RowKit
set_option linter.unusedVariables false
set_option maxRecDepth 20000
theorem ssEdges (x : ByteArray) : (x.toList == x.toList) = true := by simp
end Go.Proofs.Ytbimbgcejeeinaa
/- graph: awake, and of no graph -/
namespace Go.Proofs.Ytbimbgcejeeinaa
open Go.RowKit
set_option linter.unusedVariables false
set_option maxRecDepth 20000
def gAB : Tx := ⟨#[97, 98]⟩
def gCB : Tx := ⟨#[99, 98]⟩
def gB : Tx := ⟨#[98]⟩
theorem aw_good : goodV [gAB, gCB] = 0 := by kernel_rfl
theorem aw_len : (grS [gAB, gCB]).length = 3 := by kernel_rfl
theorem aw_e0 : edgesG (grS [gAB, gCB]) 0 = [⟨97, 1⟩, ⟨99, 1⟩] := by kernel_rfl
theorem aw_has : hasW (grS [gAB, gCB]) (runesS gAB) = true := by kernel_rfl
theorem aw_hasnt : hasW (grS [gAB, gCB]) (runesS gB) = false := by kernel_rfl
theorem aw_few : ∀ x ∈ grS [gAB, gCB], x.edges.length ≤ 1000 := by
  have h : (grS [gAB, gCB]).all (fun x => decide (x.edges.length ≤ 1000)) = true := by kernel_rfl
  intro x hx
  exact of_decide_eq_true (List.all_eq_true.1 h x hx)
theorem holdsT_litG (w : World) (a b : Tx) (e : TypeId) (fr : Nat × Nat) : HoldsT (w.alloc (.cells #[.string a, .string b] e fr)) (some ⟨w.heap.size, 0, none⟩) 2 [a, b] := by
  refine ⟨by simp [strsV], fun _ => ⟨w.heap.size, 0, rfl, fun i hi => ?_⟩⟩
  rw [Nat.zero_add, World.cell?_alloc_mark]
  match i, hi with
  | 0, _ => rfl
  | 1, _ => rfl
theorem holdsEd_lit2 (w : World) (a b : EdP) (e : TypeId) (fr : Nat × Nat) : HoldsEd (w.alloc (.cells #[.int .i32 a.r, .int .i64 a.dst, .int .i32 b.r, .int .i64 b.dst] e fr)) (some ⟨w.heap.size, 0, none⟩) 2 [a, b] := by
  refine ⟨rfl, fun _ => ⟨w.heap.size, 0, rfl, fun i hi => ?_⟩⟩
  match i, hi with
  | 0, _ => constructor <;> (rw [World.cell?_alloc_mark]; rfl)
  | 1, _ => constructor <;> (rw [World.cell?_alloc_mark]; rfl)
/-- a graph in a world that has grown, its blocks the call's own -/
structure CtxG (w0 w : World) (g : Nat) (st : List GN) (S : Nat → Prop) : Prop where
  G : GAt g st w S
  s : ∀ k, S k → w0.heap.size ≤ k
  b : Below w0.heap.size w0 w
theorem CtxG.more {w0 w w' : World} {g : Nat} {st : List GN} {S : Nat → Prop} (c : CtxG w0 w g st S) (hb : Below w.heap.size w w') : CtxG w0 w' g st S :=
  ⟨(gAt_ok g st).below c.G hb, c.s, c.b.trans (hb.mono c.b.size)⟩
theorem build_c {w0 : World} (a : Option Addr) (n cap : Nat) (ts : List Tx) (st : List GN) (w : World) (hw : Below w0.heap.size w0 w) (hh : HoldsT w a n ts) (hc : n ≤ cap) (hn : n ≤ 9223372036854775807) (hs : ∀ t ∈ ts, t.size ≤ 100) (hv : goodV ts = 0) (hst : grS ts = st) :
    Calls Try.prog 49 #[.slice a n cap] w fun e w' => ∃ g S, e = .returned (.tuple #[.pointer (some ⟨g, 0, none⟩), .int .i64 0]) ∧ CtxG w0 w' g st S ∧ Below w.heap.size w w' := by
  subst hst
  exact (build_good a n cap ts w hh hc hn hs hv).mono fun e w' ⟨g, S, e1, h1, h2, h3⟩ => ⟨g, S, e1, ⟨h1, fun k hk => Nat.le_trans hw.size (h2 k hk), hw.trans (h3.mono hw.size)⟩, h3⟩
theorem gNodes_c (v : Int) {w0 : World} {g : Nat} {st : List GN} {S : Nat → Prop} (w : World) (c : CtxG w0 w g st S) (hv : (st.length : Int) = v) :
    Calls Try.prog 78 #[.pointer (some ⟨g, 0, none⟩)] w fun e w' => e = .returned (.int .i64 v) ∧ w = w' := by subst hv; exact gNodes_any g st S w c.G
theorem gEdges_c (n : Int) (es : List EdP) {w0 : World} {g : Nat} {st : List GN} {S : Nat → Prop} (w : World) (c : CtxG w0 w g st S) (hE : ∀ x ∈ st, x.edges.length ≤ 1000) (hv : edgesG st n = es) :
    Calls Try.prog 79 #[.pointer (some ⟨g, 0, none⟩), .int .i64 n] w (RetEd w es) := by subst hv; exact gEdges_any g st S n w c.G hE
end Go.Proofs.Ytbimbgcejeeinaa
/- graph: what a built graph keeps, plain -/
namespace Go.Proofs.Ytbimbgcejeeinaa
open Go.RowKit
set_option linter.unusedVariables false
set_option maxRecDepth 20000
def restsG (st : List GN) : List (List Tx) := st.map GN.rests
/-- the edges of the texts' first runes, each to a node of what is behind it -/
def EdOk (R : List (List Tx)) : List Tx → List EdP → Prop
  | l, [] => l = []
  | l, e :: es => l ≠ [] ∧ e.r = ((folS l).1 : Int) ∧ (∃ k : Nat, e.dst = (k : Int) ∧ R[k]? = some (folS l).2) ∧ EdOk R (l.drop (folS l).2.length) es
theorem EdOk.app {R T : List (List Tx)} : ∀ {es : List EdP} {l : List Tx}, EdOk R l es → EdOk (R ++ T) l es
  | [], l, h => h
  | e :: es, l, h => by
    obtain ⟨h1, h2, ⟨k, h3, h4⟩, h5⟩ := h
    have hk := (List.getElem?_eq_some_iff.1 h4).1
    exact ⟨h1, h2, ⟨k, h3, by rw [List.getElem?_append_left hk]; exact h4⟩, h5.app⟩
theorem OkL.mono {f g : Nat} {l : List Tx} (h : OkL f l) (hg : f ≤ g) : OkL g l := ⟨h.ord, h.lo, fun t ht => by have := h.hi t ht; omega, h.n, h.sz⟩
structure NOk (R : List (List Tx)) (g : GN) : Prop where
  fin : g.final = finS g.rests
  ed : EdOk R (bodS g.rests) g.edges
  ok : OkL 12 g.rests
theorem NOk.app {R T : List (List Tx)} {g : GN} (h : NOk R g) : NOk (R ++ T) g := ⟨h.fin, h.ed.app, h.ok⟩
theorem restsG_app (a b : List GN) : restsG (a ++ b) = restsG a ++ restsG b := by simp [restsG]
theorem find_none {st : List GN} {s : List Tx} (h : findG st s = none) : s ∉ restsG st := by
  unfold findG at h
  rw [List.findIdx?_eq_none_iff] at h
  intro hm
  obtain ⟨g, hg, e⟩ := List.mem_map.1 hm
  have := h g hg
  simp [e] at this
theorem find_some {st : List GN} {s : List Tx} {i : Nat} (h : findG st s = some i) : (restsG st)[i]? = some s := by
  unfold findG at h
  obtain ⟨h1, h2, -⟩ := List.findIdx?_eq_some_iff_getElem.1 h
  have e : st[i].rests = s := of_decide_eq_true h2
  rw [restsG, List.getElem?_map, List.getElem?_eq_getElem h1, Option.map_some, e]
theorem reach_found {f : Nat} {st : List GN} {s : List Tx} {i : Nat} (h : findG st s = some i) : reachF (f + 1) st s = (i, st) := by unfold reachF; rw [h]
theorem set_mid {α : Type} (a b : List α) (x y : α) : ((a ++ [x]) ++ b).set a.length y = a ++ (y :: b) := by
  rw [List.append_assoc, List.set_append_right _ _ (Nat.le_refl _), Nat.sub_self]; rfl
theorem reach_new {f : Nat} {st t : List GN} {s : List Tx} {es : List EdP} (h : findG st s = none) (hk : edgesF (reachF f) (bodS s).length (bodS s) [] (st ++ [⟨s, false, []⟩]) = (es, (st ++ [⟨s, false, []⟩]) ++ t)) :
    reachF (f + 1) st s = (st.length, st ++ (⟨s, finS s, es⟩ :: t)) := by
  unfold reachF
  rw [h, hk]
  simp only [set_mid]
structure ROk (st t : List GN) (s : List Tx) (i : Nat) : Prop where
  at_ : (restsG (st ++ t))[i]? = some s
  nodes : ∀ g ∈ t, NOk (restsG (st ++ t)) g
  nodup : (restsG st).Nodup → (restsG (st ++ t)).Nodup
  some_ : s ≠ [] → ∀ g ∈ t, g.rests ≠ []
theorem rok_new {f : Nat} {st t : List GN} {s : List Tx} {es : List EdP} (hs : OkL 12 s) (h : findG st s = none) (he : EdOk (restsG ((st ++ [⟨s, false, []⟩]) ++ t)) (bodS s) es) (hn : ∀ g ∈ t, NOk (restsG ((st ++ [⟨s, false, []⟩]) ++ t)) g) (hd : (restsG (st ++ [⟨s, false, []⟩])).Nodup → (restsG ((st ++ [⟨s, false, []⟩]) ++ t)).Nodup) (hm : s ≠ [] → ∀ g ∈ t, g.rests ≠ []) :
    ROk st (⟨s, finS s, es⟩ :: t) s st.length := by
  have e : restsG (st ++ (⟨s, finS s, es⟩ :: t)) = restsG ((st ++ [⟨s, false, []⟩]) ++ t) := by simp [restsG]
  have hl : (restsG st).length = st.length := by simp [restsG]
  refine ⟨?_, fun g hg => ?_, fun hnd => ?_, fun h0 g hg => ?_⟩
  · rw [restsG_app, List.getElem?_append_right (by omega), hl, Nat.sub_self]; rfl
  · rw [e]
    rcases List.mem_cons.1 hg with rfl | hg
    · exact ⟨rfl, he, hs⟩
    · exact hn g hg
  · rw [e]
    refine hd ?_
    rw [restsG_app]
    refine List.nodup_append.2 ⟨hnd, by simp [restsG], fun a ha b hb => ?_⟩
    simp only [restsG, List.map_cons, List.map_nil, List.mem_singleton] at hb
    subst hb
    exact fun e2 => find_none h (e2 ▸ ha)
  · rcases List.mem_cons.1 hg with rfl | hg
    · exact h0
    · exact hm h0 g hg
theorem bod_none {s : List Tx} (h : OkL 0 s) : bodS s = [] := by
  cases hbs : bodS s with
  | nil => rfl
  | cons t l =>
    have hm : t ∈ bodS s := by rw [hbs]; simp
    have h1 := bod_pos h.ord t hm
    have h2 := rst_len (h.bod.lo t hm) h1
    have h3 := h.bod.hi t hm
    omega
theorem reach_ok (f : Nat) (hf : f ≤ 12) : ∀ (st : List GN) (s : List Tx), OkL f s → ∃ t i, reachF (f + 1) st s = (i, st ++ t) ∧ ROk st t s i := by
  induction f with
  | zero =>
    intro st s h
    cases hfd : findG st s with
    | some i => exact ⟨[], i, by rw [reach_found hfd, List.append_nil], ⟨by rw [List.append_nil]; exact find_some hfd, fun g hg => by simp at hg, fun h => by rwa [List.append_nil], fun _ g hg => by simp at hg⟩⟩
    | none =>
      have hb := bod_none h
      refine ⟨[⟨s, finS s, []⟩], st.length, reach_new (t := []) hfd (by rw [hb, List.append_nil]; rfl), rok_new (f := 0) (t := []) (h.mono hf) hfd (by rw [hb]; rfl) (fun g hg => by simp at hg) (fun h => by rwa [List.append_nil]) (fun _ g hg => by simp at hg)⟩
  | succ f ih =>
    intro st s h
    cases hfd : findG st s with
    | some i => exact ⟨[], i, by rw [reach_found hfd, List.append_nil], ⟨by rw [List.append_nil]; exact find_some hfd, fun g hg => by simp at hg, fun h => by rwa [List.append_nil], fun _ g hg => by simp at hg⟩⟩
    | none =>
      have key : ∀ (n : Nat) (l : List Tx) (es : List EdP) (st1 : List GN), l.length ≤ n → OkL (f + 1) l → (∀ t ∈ l, 0 < t.size) → ∃ t es', edgesF (reachF (f + 1)) n l es st1 = (es ++ es', st1 ++ t) ∧ EdOk (restsG (st1 ++ t)) l es' ∧ (∀ g ∈ t, NOk (restsG (st1 ++ t)) g) ∧ ((restsG st1).Nodup → (restsG (st1 ++ t)).Nodup) ∧ ∀ g ∈ t, g.rests ≠ [] := by
        intro n
        induction n with
        | zero =>
          intro l es st1 hn _ _
          obtain rfl : l = [] := List.eq_nil_of_length_eq_zero (by omega)
          exact ⟨[], [], by simp [edgesF], rfl, fun g hg => by simp at hg, fun h => by rwa [List.append_nil], fun g hg => by simp at hg⟩
        | succ n ihn =>
          intro l es st1 hn hl hp
          by_cases h0 : l = []
          · subst h0
            exact ⟨[], [], by simp [edgesF], rfl, fun g hg => by simp at hg, fun h => by rwa [List.append_nil], fun g hg => by simp at hg⟩
          · obtain ⟨hfl, hfl2⟩ := fol_len l h0
            obtain ⟨t1, i, e1, r1⟩ := ih (by omega) st1 (folS l).2 (hl.fol hp)
            obtain ⟨t2, es2, e2, d1, d2, d3, d4⟩ := ihn (l.drop (folS l).2.length) (es ++ [⟨((folS l).1 : Int), (i : Int)⟩]) (st1 ++ t1) (by rw [List.length_drop]; omega) (hl.drop _) (fun t ht => hp t (List.mem_of_mem_drop ht))
            have hne : (folS l).2 ≠ [] := fun e => by rw [e] at hfl; simp at hfl
            refine ⟨t1 ++ t2, ⟨((folS l).1 : Int), (i : Int)⟩ :: es2, ?_, ?_, fun g hg => ?_, fun hd => ?_, fun g hg => ?_⟩
            · unfold edgesF
              rw [if_neg h0, e1]
              simp only
              rw [e2, List.append_assoc, List.append_assoc]; rfl
            · rw [← List.append_assoc]
              refine ⟨h0, rfl, ⟨i, rfl, ?_⟩, d1⟩
              rw [restsG_app, List.getElem?_append_left (List.getElem?_eq_some_iff.1 r1.at_).1]
              exact r1.at_
            · rw [← List.append_assoc]
              rcases List.mem_append.1 hg with hg | hg
              · rw [restsG_app]; exact (r1.nodes g hg).app
              · exact d2 g hg
            · rw [← List.append_assoc]; exact d3 (r1.nodup hd)
            · rcases List.mem_append.1 hg with hg | hg
              · exact r1.some_ hne g hg
              · exact d4 g hg
      obtain ⟨t, es, k1, k2, k3, k4, k5⟩ := key (bodS s).length (bodS s) [] (st ++ [⟨s, false, []⟩]) (Nat.le_refl _) h.bod (bod_pos h.ord)
      exact ⟨_, _, reach_new hfd k1, rok_new (f := 0) (h.mono hf) hfd k2 k3 k4 (fun _ => k5)⟩
/-- the nodes of the words -/
structure GOk (st : List GN) (ts : List Tx) : Prop where
  root : (restsG st)[0]? = some ts
  nodes : ∀ g ∈ st, NOk (restsG st) g
  nodup : (restsG st).Nodup
  some_ : ts ≠ [] → ∀ g ∈ st, g.rests ≠ []
theorem graph_ok {ts : List Tx} (h : OkL 12 ts) : GOk (reachF 13 [] ts).2 ts := by
  obtain ⟨t, i, e, r⟩ := reach_ok 12 (Nat.le_refl _) [] ts h
  have h0 : (reachF 13 [] ts).1 = 0 := by
    unfold reachF
    have : findG [] ts = none := rfl
    rw [this]; rfl
  rw [e] at h0 ⊢
  simp only [List.nil_append] at *
  subst h0
  exact ⟨by simpa using r.at_, fun g hg => by simpa using r.nodes g hg, by simpa [restsG] using r.nodup (by simp [restsG]), r.some_⟩
end Go.Proofs.Ytbimbgcejeeinaa
/- graph: along a text's runes one comes to an end just if it is there -/
namespace Go.Proofs.Ytbimbgcejeeinaa
open Go.RowKit
set_option linter.unusedVariables false
set_option maxRecDepth 20000
theorem lab_le {s t : Tx} (hs : 0 ≤ lenS s) (ht : 0 ≤ lenS t) (s0 : 0 < s.size) (t0 : 0 < t.size) (h : cmpS s t < 0) : labS s ≤ labS t := by
  rw [cmpS_runes s t hs ht, rst_runes hs s0, rst_runes ht t0] at h
  simp only [lexN] at h
  by_cases h1 : labS s ≤ labS t
  · exact h1
  · split at h <;> first | omega | (split at h <;> omega)
/-- texts in order, none empty, each well made -/
structure Run (l : List Tx) : Prop where
  ord : SortedS l
  pos : ∀ t ∈ l, 0 < t.size
  lo : ∀ t ∈ l, 0 ≤ lenS t
theorem Run.drop {l : List Tx} (h : Run l) (k : Nat) : Run (l.drop k) :=
  ⟨List.Pairwise.sublist (List.drop_sublist _ _) h.ord, fun t ht => h.pos t (List.mem_of_mem_drop ht), fun t ht => h.lo t (List.mem_of_mem_drop ht)⟩
theorem dw_first {α : Type} (p : α → Bool) : ∀ (l : List α) (x : α) (m : List α), l.dropWhile p = x :: m → p x = false
  | [], x, m, h => by simp at h
  | y :: l, x, m, h => by
    rw [List.dropWhile_cons] at h
    split at h
    · exact dw_first p l x m h
    · rename_i hy
      injection h with h1 h2
      subst h1
      simpa using hy
theorem drop_tw {α : Type} (p : α → Bool) : ∀ l : List α, l.drop (l.takeWhile p).length = l.dropWhile p
  | [] => rfl
  | x :: l => by
    by_cases h : p x = true
    · rw [List.takeWhile_cons, if_pos h, List.dropWhile_cons, if_pos h, List.length_cons, List.drop_succ_cons, drop_tw p l]
    · rw [List.takeWhile_cons, if_neg h, List.dropWhile_cons, if_neg h]; rfl
/-- behind the first's own, all begin with another rune -/
theorem Run.rest {s : Tx} {l : List Tx} (h : Run (s :: l)) : ∀ t ∈ (s :: l).drop (folS (s :: l)).2.length, labS s < labS t := by
  have e : (folS (s :: l)).2.length = ((s :: l).takeWhile (fun t => decide (labS t = labS s))).length := by unfold folS; rw [List.length_map]
  rw [e, drop_tw]
  cases hd : (s :: l).dropWhile (fun t => decide (labS t = labS s)) with
  | nil => intro t ht; simp at ht
  | cons x m =>
    have hx : labS x ≠ labS s := of_decide_eq_false (dw_first (fun t => decide (labS t = labS s)) _ _ _ hd)
    have sub : (x :: m).Sublist (s :: l) := hd ▸ List.dropWhile_sublist _
    have hxm : x ∈ s :: l := sub.subset (by simp)
    have hsx : labS s ≤ labS x := by
      rcases List.mem_cons.1 hxm with rfl | hm
      · exact Nat.le_refl _
      · exact lab_le (h.lo s (by simp)) (h.lo x hxm) (h.pos s (by simp)) (h.pos x hxm) ((List.pairwise_cons.1 h.ord).1 x hm)
    have ho := List.Pairwise.sublist sub h.ord
    intro t ht
    have htm := sub.subset ht
    have hxt : labS x ≤ labS t := by
      rcases List.mem_cons.1 ht with rfl | hm
      · exact Nat.le_refl _
      · exact lab_le (h.lo x hxm) (h.lo t htm) (h.pos x hxm) (h.pos t htm) ((List.pairwise_cons.1 ho).1 t hm)
    omega
theorem same_lab {s t : Tx} (hs : 0 ≤ lenS s) (ht : 0 ≤ lenS t) (s0 : 0 < s.size) (t0 : 0 < t.size) (hl : labS s = labS t) (hr : rstS s = rstS t) : s = t := by
  have h := rst_ord hs ht s0 t0 hl
  rw [hr, cmpS_same] at h
  exact cmpS_zero.1 h.symm
theorem mem_fol {s : Tx} {l : List Tx} (h : Run (s :: l)) {w : Tx} (w0 : 0 < w.size) (wl : 0 ≤ lenS w) (hl : labS s = labS w) : w ∈ s :: l ↔ rstS w ∈ (folS (s :: l)).2 := by
  have sub := List.takeWhile_sublist (l := s :: l) (fun t => decide (labS t = labS s))
  have e : (folS (s :: l)).2 = ((s :: l).takeWhile (fun t => decide (labS t = labS s))).map rstS := rfl
  constructor
  · intro hm
    rw [e]
    refine List.mem_map.2 ⟨w, ?_, rfl⟩
    rw [← List.takeWhile_append_dropWhile (p := fun t => decide (labS t = labS s)) (l := s :: l)] at hm
    rcases List.mem_append.1 hm with hm | hm
    · exact hm
    · have e2 : (folS (s :: l)).2.length = ((s :: l).takeWhile (fun t => decide (labS t = labS s))).length := by unfold folS; rw [List.length_map]
      rw [← drop_tw, ← e2] at hm
      have := h.rest w hm
      omega
  · intro hm
    rw [e] at hm
    obtain ⟨u, hu, e3⟩ := List.mem_map.1 hm
    have hum := sub.subset hu
    have hul : labS u = labS s := by have h1 := mem_tw (p := fun t => decide (labS t = labS s)) hu; exact of_decide_eq_true h1
    rw [← same_lab (h.lo u hum) wl (h.pos u hum) w0 (hul.trans hl) e3]
    exact hum
theorem mem_past {s : Tx} {l : List Tx} {w : Tx} (hl : labS s ≠ labS w) : w ∈ s :: l ↔ w ∈ (s :: l).drop (folS (s :: l)).2.length := by
  have e2 : (folS (s :: l)).2.length = ((s :: l).takeWhile (fun t => decide (labS t = labS s))).length := by unfold folS; rw [List.length_map]
  rw [e2, drop_tw]
  conv => lhs; rw [← List.takeWhile_append_dropWhile (p := fun t => decide (labS t = labS s)) (l := s :: l)]
  rw [List.mem_append]
  constructor
  · rintro (h | h)
    · have h1 := mem_tw (p := fun t => decide (labS t = labS s)) h
      exact absurd (of_decide_eq_true h1).symm hl
    · exact h
  · exact Or.inr
theorem findE_ok {R : List (List Tx)} {w : Tx} (w0 : 0 < w.size) (wl : 0 ≤ lenS w) : ∀ (es : List EdP) (l : List Tx), EdOk R l es → Run l →
    (∃ (k : Nat) (m : List Tx), findE (labS w : Int) es = ((k : Int), true) ∧ R[k]? = some m ∧ (w ∈ l ↔ rstS w ∈ m)) ∨ (findE (labS w : Int) es = (0, false) ∧ w ∉ l)
  | [], l, h, _ => Or.inr ⟨rfl, by rw [show l = [] from h]; simp⟩
  | e :: es, [], h, _ => absurd rfl h.1
  | e :: es, s :: l, h, hr => by
    obtain ⟨h1, h2, ⟨k, h3, h4⟩, h5⟩ := h
    have h2 : e.r = (labS s : Int) := h2
    by_cases hl : labS s = labS w
    · refine Or.inl ⟨k, (folS (s :: l)).2, ?_, h4, mem_fol hr w0 wl hl⟩
      rw [findE, if_pos (by rw [h2, hl]), h3]
    · have hne : ¬ e.r = (labS w : Int) := fun e2 => hl (by rw [h2] at e2; exact Int.ofNat.inj e2)
      rw [findE, if_neg hne, mem_past hl]
      exact findE_ok w0 wl es _ h5 (hr.drop _)
theorem ed_good {R : List (List Tx)} : ∀ (es : List EdP) (l : List Tx), EdOk R l es → Run l → ∀ e ∈ es, e.r ≠ 65533
  | [], l, _, _ => fun e he => by simp at he
  | e :: es, [], h, _ => absurd rfl h.1
  | e :: es, s :: l, h, hr => by
    obtain ⟨h1, h2, -, h5⟩ := h
    have h2 : e.r = (labS s : Int) := h2
    intro x hx
    rcases List.mem_cons.1 hx with rfl | hx
    · have := (good_first (hr.lo s (by simp)) (hr.pos s (by simp))).1
      rw [h2]
      intro e2
      exact this (Int.ofNat.inj e2)
    · exact ed_good es _ h5 (hr.drop _) x hx
theorem OkL.run {f : Nat} {l : List Tx} (h : OkL f l) : Run (bodS l) := ⟨h.bod.ord, bod_pos h.ord, h.bod.lo⟩
theorem GOk.node {st : List GN} {ts : List Tx} (G : GOk st ts) {k : Nat} {l : List Tx} (h : (restsG st)[k]? = some l) : k < st.length ∧ (st.getD k gn0).rests = l ∧ NOk (restsG st) (st.getD k gn0) := by
  obtain ⟨h1, h2⟩ := List.getElem?_eq_some_iff.1 h
  have hk : k < st.length := by simpa [restsG] using h1
  have e : st.getD k gn0 = st[k] := by rw [List.getD_eq_getElem?_getD, List.getElem?_eq_getElem hk]; rfl
  refine ⟨hk, ?_, ?_⟩
  · rw [e, ← h2]; simp [restsG]
  · rw [e]; exact G.nodes _ (List.getElem_mem hk)
theorem fin_mem {l : List Tx} (h : SortedS l) : finS l = decide ((⟨#[]⟩ : ByteArray) ∈ l) := by
  cases l with
  | nil => rfl
  | cons s l =>
    unfold finS
    refine decide_eq_decide.2 ?_
    rw [List.head?_cons, List.mem_cons]
    constructor
    · intro e; injection e with e; exact Or.inl e.symm
    · rintro (e | e)
      · rw [e]
      · exact absurd ((List.pairwise_cons.1 h).1 _ e) (cmp_empty s)
theorem mem_bod {l : List Tx} {w : Tx} (h : 0 < w.size) : w ∈ l ↔ w ∈ bodS l := by
  unfold bodS
  split
  · rename_i hf
    cases l with
    | nil => simp
    | cons s l =>
      have : s = ⟨#[]⟩ := by
        have h2 : (s :: l).head? = some (⟨#[]⟩ : ByteArray) := of_decide_eq_true hf
        rw [List.head?_cons] at h2; injection h2
      rw [List.mem_cons, List.tail_cons]
      refine ⟨fun e => e.resolve_left fun e2 => ?_, Or.inr⟩
      rw [e2, this] at h
      exact absurd h (by simp [ByteArray.size])
  · exact Iff.rfl
theorem has_at {st : List GN} {k : Nat} (h : k < st.length) : hasG st (k : Int) = true ∧ edgesG st (k : Int) = (st.getD k gn0).edges ∧ finG st (k : Int) = (st.getD k gn0).final := by
  have h1 : hasG st (k : Int) = true := by unfold hasG; exact decide_eq_true (by omega)
  refine ⟨h1, ?_, ?_⟩
  · unfold edgesG; rw [if_pos h1]; rfl
  · unfold finG; rw [h1]; simp
theorem walk_in {st : List GN} {ts : List Tx} (G : GOk st ts) : ∀ (n : Nat) (w : Tx), w.size ≤ n → 0 ≤ lenS w → ∀ (k : Nat) (l : List Tx), (restsG st)[k]? = some l → endG st (walkG st (runesS w) (k : Int)) = decide (w ∈ l) := by
  intro n
  induction n with
  | zero =>
    intro w hw _ k l hk
    obtain rfl := empty_size (Nat.le_zero.1 hw)
    obtain ⟨h1, h2, h3⟩ := G.node hk
    have := (has_at h1).2.2
    show finG st (k : Int) = _
    rw [this, h3.fin, h2]
    exact fin_mem (h2 ▸ h3.ok.ord)
  | succ n ih =>
    intro w hw hl k l hk
    obtain ⟨h1, h2, h3⟩ := G.node hk
    obtain ⟨a1, a2, a3⟩ := has_at h1
    rcases Nat.eq_zero_or_pos w.size with h0 | h0
    · obtain rfl := empty_size h0
      show finG st (k : Int) = _
      rw [a3, h3.fin, h2]
      exact fin_mem (h2 ▸ h3.ok.ord)
    · have hb : w ∈ l ↔ w ∈ bodS l := mem_bod h0
      have he := h3.ed
      have hr := h3.ok.run
      rw [h2] at he hr
      rw [rst_runes hl h0]
      unfold walkG nextG
      rw [a2]
      rcases findE_ok h0 hl _ _ he hr with ⟨k', m, e1, e2, e3⟩ | ⟨e1, e2⟩
      · rw [e1, if_pos rfl]
        rw [ih (rstS w) (by have := (rst_size hl h0).2; omega) (rst_len hl h0).1 k' m e2]
        exact decide_eq_decide.2 (e3.symm.trans hb.symm)
      · rw [e1, if_neg (by simp)]
        show false = _
        exact (decide_eq_false (fun e => e2 (hb.1 e))).symm
theorem edges_good {st : List GN} {ts : List Tx} (G : GOk st ts) (n : Int) : ∀ e ∈ edgesG st n, e.r ≠ 65533 := by
  cases hb : hasG st n with
  | false => unfold edgesG; rw [if_neg (by rw [hb]; simp)]; intro e he; simp at he
  | true =>
    obtain ⟨k, rfl, hk⟩ := hasG_yes hb
    rw [(has_at hk).2.1]
    have hR : (restsG st)[k]? = some st[k].rests := by simp [restsG, hk]
    obtain ⟨h1, h2, h3⟩ := G.node hR
    exact ed_good _ _ h3.ed h3.ok.run
theorem walk_bad {st : List GN} {ts : List Tx} (G : GOk st ts) : ∀ (rs : List Nat) (n : Int), 65533 ∈ rs → endG st (walkG st rs n) = false
  | [], n, h => by simp at h
  | r :: l, n, h => by
    unfold walkG
    by_cases h1 : r = 65533
    · subst h1
      unfold nextG
      rw [findE_none ((65533 : Nat) : Int) _ (fun x hx => edges_good G n x hx), if_neg (by simp)]; rfl
    · have h2 : 65533 ∈ l := (List.mem_cons.1 h).resolve_left (Ne.symm h1)
      split
      · exact walk_bad G l _ h2
      · rfl
/-- a text is there just if its runes lead to an end -/
theorem has_in {st : List GN} {ts : List Tx} (G : GOk st ts) (hts : ∀ t ∈ ts, 0 ≤ lenS t) (w : Tx) : hasW st (runesS w) = decide (w ∈ ts) := by
  unfold hasW
  by_cases hl : 0 ≤ lenS w
  · exact walk_in G w.size w (Nat.le_refl _) hl 0 ts G.root
  · rw [show (0 : Int) = ((0 : Nat) : Int) from rfl]
    have hm : 65533 ∈ runesS w := by
      refine Classical.byContradiction fun hn => hl ?_
      unfold lenS
      rw [if_neg hn]; omega
    rw [walk_bad G _ _ hm]
    exact (decide_eq_false (fun e => hl (hts w e))).symm
end Go.Proofs.Ytbimbgcejeeinaa
/- contract of list.At -/
namespace Go.Proofs.Ytbimbgcejeeinaa
open Go.RowKit
set_option linter.unusedVariables false
set_option maxRecDepth 20000
theorem getD_cons_zero (x : Tx) (xs : List Tx) : (x :: xs).getD 0 ByteArray.empty = x := rfl
theorem getD_cons_succ (x : Tx) (xs : List Tx) (i : Nat) : (x :: xs).getD (i + 1) ByteArray.empty = xs.getD i ByteArray.empty := rfl
theorem getD_at {xs : List Tx} {i : Nat} (h : i < xs.length) : xs.getD i ByteArray.empty = xs[i] := by simp [List.getD_eq_getElem?_getD, h]
theorem sorted_at {xs : List Tx} (h : SortedS xs) {i j : Nat} (hij : i < j) (hj : j < xs.length) : cmpS (xs.getD i ByteArray.empty) (xs.getD j ByteArray.empty) < 0 := by
  have := List.pairwise_iff_getElem.1 h i j (by omega) hj hij
  rw [getD_at (show i < xs.length by omega), getD_at hj]; exact this
theorem atN_of : ∀ (xs : List Tx) (t : Tx) (i : Nat), i ≤ xs.length → (∀ k, k < i → cmpS (xs.getD k ByteArray.empty) t < 0) → (∀ k, i ≤ k → k < xs.length → ¬ cmpS (xs.getD k ByteArray.empty) t < 0) → atN xs t = i
  | [], t, i, hi, _, _ => by have : i = 0 := by simpa using hi
                             subst this; rfl
  | x :: xs, t, 0, _, _, h2 => by
    unfold atN
    rw [List.countP_eq_zero]
    intro y hy
    obtain ⟨k, hk, rfl⟩ := List.getElem_of_mem hy
    have := h2 k (Nat.zero_le _) hk
    rw [getD_at hk] at this
    simpa using this
  | x :: xs, t, i + 1, hi, h1, h2 => by
    have hx := h1 0 (by omega)
    rw [getD_cons_zero] at hx
    have ih := atN_of xs t i (by simpa using hi) (fun k hk => h1 (k + 1) (by omega)) (fun k hk hk2 => h2 (k + 1) (by omega) (by simpa using hk2))
    unfold atN at ih ⊢
    rw [List.countP_cons_of_pos (by simpa using hx), ih]
theorem mem_at_iff {xs : List Tx} {t : Tx} (hs : SortedS xs) {i : Nat} (h1 : ∀ k, k < i → cmpS (xs.getD k ByteArray.empty) t < 0) (h2 : ∀ k, i ≤ k → k < xs.length → ¬ cmpS (xs.getD k ByteArray.empty) t < 0) : t ∈ xs ↔ i < xs.length ∧ cmpS (xs.getD i ByteArray.empty) t = 0 := by
  constructor
  · intro h
    obtain ⟨k, hk, e⟩ := List.getElem_of_mem h
    have e2 : xs.getD k ByteArray.empty = t := by rw [getD_at hk, e]
    have hik : i ≤ k := by
      apply Classical.byContradiction
      intro hn
      have := h1 k (by omega)
      rw [e2] at this
      exact cmpS_irrefl t this
    by_cases hlt : i < k
    · have := sorted_at hs hlt hk
      rw [e2] at this
      exact absurd this (h2 i (Nat.le_refl _) (by omega))
    · obtain rfl : i = k := by omega
      exact ⟨hk, by rw [e2, cmpS_same]⟩
  · rintro ⟨h, e⟩
    rw [← cmpS_zero.1 e, getD_at h]
    exact List.getElem_mem _
end Go.Proofs.Ytbimbgcejeeinaa
/- graph: Build in one word; Next in one word -/
namespace Go.Proofs.Ytbimbgcejeeinaa
open Go.RowKit
set_option linter.unusedVariables false
set_option maxRecDepth 20000
theorem ed_few {R : List (List Tx)} : ∀ (es : List EdP) (l : List Tx), EdOk R l es → es.length ≤ l.length
  | [], l, _ => Nat.zero_le _
  | e :: es, l, h => by
    have h1 := ed_few es _ h.2.2.2
    have h2 := (fol_len l h.1)
    rw [List.length_drop] at h1
    simp only [List.length_cons]; omega
theorem GOk.few {st : List GN} {ts : List Tx} (G : GOk st ts) : ∀ x ∈ st, x.edges.length ≤ 100 := fun x hx => by
  have h := G.nodes x hx
  have h1 := ed_few _ _ h.ed
  have h2 := bod_len x.rests
  have h3 := h.ok.n
  omega
theorem grS_ok {ts : List Tx} (h : goodV ts = 0) (hs : ∀ t ∈ ts, t.size ≤ 100) : GOk (grS ts) ts := graph_ok (ok_good h hs)
theorem grS_len {ts : List Tx} (h : goodV ts = 0) (hs : ∀ t ∈ ts, t.size ≤ 100) : (grS ts).length ≤ 2000 := by
  have h1 : (grS ts).length ≤ 0 + wtS ts + 1 := (reach_len 12 [] ts (ok_good h hs)).2.1
  have h2 := wt_good ts (ok_good h hs).hi
  have h3 := (ok_good h hs).n
  omega
theorem gFinal_c (n : Int) (v : Bool) {w0 : World} {g : Nat} {st : List GN} {S : Nat → Prop} (w : World) (c : CtxG w0 w g st S) (hv : finG st n = v) :
    Calls Try.prog 81 #[.pointer (some ⟨g, 0, none⟩), .int .i64 n] w fun e w' => e = .returned (.bool v) ∧ w = w' := by subst hv; exact gFinal_any g st S n w c.G
end Go.Proofs.Ytbimbgcejeeinaa
/- pack: Of, of any words -/
namespace Go.Proofs.Ytbimbgcejeeinaa
open Go.RowKit
set_option linter.unusedVariables false
set_option maxRecDepth 20000
theorem edB_len (e : EdP) : (edB e).length = 6 := by unfold edB; rw [List.length_append, Cod.bytesOf_length, Cod.bytesOf_length]
theorem eds_len : ∀ es : List EdP, (es.flatMap edB).length = 6 * es.length
  | [] => rfl
  | e :: es => by rw [List.flatMap_cons, List.length_append, edB_len, eds_len es, List.length_cons]; omega
theorem ndB_len (x : GN) : (ndB x).length = 3 + 6 * x.edges.length := by
  unfold ndB; rw [List.length_append, List.length_append, Cod.bytesOf_length, eds_len]; simp; omega
theorem nds_len : ∀ (st : List GN) (_ : ∀ x ∈ st, x.edges.length ≤ 100), (st.flatMap ndB).length ≤ 603 * st.length
  | [], _ => by simp
  | x :: l, h => by
    have h1 := nds_len l (fun y hy => h y (by simp [hy]))
    have h2 := h x (by simp)
    rw [List.flatMap_cons, List.length_append, ndB_len, List.length_cons]; omega
theorem bodyB_len {st : List GN} (h : ∀ x ∈ st, x.edges.length ≤ 100) (hl : st.length ≤ 800) : (bodyB st).length ≤ 524000 := by
  have := nds_len st h
  unfold bodyB
  rw [List.length_append, List.length_append, Cod.bytesOf_length]
  simp only [List.length_cons, List.length_nil]; omega
theorem grS_few {ts : List Tx} (h : goodV ts = 0) (hs : ∀ t ∈ ts, t.size ≤ 100) : (grS ts).length ≤ 721 := by
  have h1 : (grS ts).length ≤ 0 + wtS ts + 1 := (reach_len 12 [] ts (ok_good h hs)).2.1
  have h2 := wt_good ts (ok_good h hs).hi
  have h3 := (goodV_zero h).1
  omega
theorem fol_lab {l : List Tx} (h : l ≠ []) : (folS l).1 ≤ 2147483647 := by
  cases l with
  | nil => exact absurd rfl h
  | cons t l => exact decode_le t 0
theorem ed_runes {R : List (List Tx)} : ∀ (es : List EdP) (l : List Tx), EdOk R l es → ∀ e ∈ es, 0 ≤ e.r ∧ e.r ≤ 2147483647
  | [], _, _ => fun e h => by simp at h
  | e :: es, l, h => fun x hx => by
    rcases List.mem_cons.1 hx with rfl | hx
    · have h1 := fol_lab h.1
      rw [h.2.1]; omega
    · exact ed_runes es _ h.2.2.2 x hx
theorem GOk.runes {st : List GN} {ts : List Tx} (G : GOk st ts) : ∀ x ∈ st, ∀ e ∈ x.edges, 0 ≤ e.r ∧ e.r ≤ 2147483647 := fun x hx => ed_runes _ _ (G.nodes x hx).ed
theorem encode_of (g : Nat) (ts : List Tx) (S : Nat → Prop) (w : World) (h : GAt g (grS ts) w S) (hv : goodV ts = 0) (hs : ∀ t ∈ ts, t.size ≤ 100) :
    Calls Try.prog 50 #[.pointer (some ⟨g, 0, none⟩)] w (RetE w (imgB (grS ts))) := by
  have G := grS_ok hv hs
  have hl := grS_few hv hs
  exact encode_any g (grS ts) S w h (fun x hx => by have := G.few x hx; omega) G.runes (bodyB_len G.few (by omega)) (by omega)
theorem encode_nil (w : World) : Calls Try.prog 50 #[.pointer none] w fun e w' => e = .returned (.tuple #[.slice none 0 0, .int .i64 2]) ∧ w = w' := by
  go_enter Try.func50, Try.ntmps50
  go_wp2_with fail
  go_ret2
  exact ⟨rfl, rfl⟩
theorem pOf_good (a : Option Addr) (n cap : Nat) (ts : List Tx) (w : World) (hh : HoldsT w a n ts) (hc : n ≤ cap) (hn : n ≤ 9223372036854775807) (hs : ∀ t ∈ ts, t.size ≤ 100) (hv : goodV ts = 0) :
    Calls Try.prog 36 #[.slice a n cap] w (RetE w (imgB (grS ts))) := by
  have CB := Lib.hid (build_c (w0 := w) a n cap ts (grS ts) w (Below.refl _ _) hh hc hn hs hv rfl)
  have CE := Lib.hid (fun g S (w' : World) (h : GAt g (grS ts) w' S) => encode_of g ts S w' h hv hs)
  obtain ⟨o, ho⟩ : ∃ o, imgB (grS ts) = o := ⟨_, rfl⟩
  rw [ho] at CE ⊢
  clear hh hs hv ho
  go_enter Try.func36, Try.ntmps36
  go_wp2_with fail
  with_reducible refine CB.out.mono ?_
  rintro e w1 ⟨g, S, rfl, hC, hb⟩
  have C1 := Lib.hid (CE.out g S w1 hC.G)
  have B1 := Lib.hid hb
  clear hC hb CE CB
  go_wp2_with fail
  with_reducible refine C1.out.mono ?_
  rintro e w2 ⟨a2, c2, rfl, h1, h2, h3⟩
  have F := Lib.hid (show RetE w o (.returned (.tuple #[.slice a2 o.length c2, .int .i64 0])) w2 from
    ⟨a2, c2, rfl, base_less9 h1 B1.out.size, B1.out.trans (h2.mono B1.out.size), h3⟩)
  clear h1 h2 h3 C1
  go_wp2_with fail
  go_ret2
  exact F.out
theorem pOf_bad (a : Option Addr) (n cap : Nat) (ts : List Tx) (v : Int) (w : World) (hh : HoldsT w a n ts) (hn : n ≤ 9223372036854775807) (hs : ∀ t ∈ ts, t.size ≤ 9223372036854775807) (hv : goodV ts = v) (h0 : v ≠ 0) :
    Calls Try.prog 36 #[.slice a n cap] w fun e w' => e = .returned (.tuple #[.slice none 0 0, .int .i64 v]) ∧ Below w.heap.size w w' := by
  have CB := Lib.hid (build_bad a n cap ts v w hh hn hs hv h0)
  have e1 : (v != 0) = true := by simpa using h0
  clear hh hs hv h0
  go_enter Try.func36, Try.ntmps36
  go_wp2_with fail
  with_reducible refine CB.out.mono ?_
  rintro e w1 ⟨rfl, hb⟩
  have B1 := Lib.hid hb
  clear hb CB
  go_wp2_with fail
  go_ret2
  exact ⟨rfl, B1.out⟩
end Go.Proofs.Ytbimbgcejeeinaa
/- pack: what is read of an image (plain) -/
namespace Go.Proofs.Ytbimbgcejeeinaa
open Go.RowKit
set_option linter.unusedVariables false
set_option maxRecDepth 20000
def edP (e : EdP) : PE := (bitsV e.r % 4294967296, bitsV e.dst % 65536)
def pnG (x : GN) : PN := ⟨x.final, x.edges.map edP⟩
theorem rd_at {bs rest : List Nat} {at_ v s : Nat} (h0 : 0 < s) (h : bs.drop at_ = Cod.bytesOf v s ++ rest) : okR bs.length at_ s false = true ∧ numR bs bs.length at_ s false = v % 256 ^ s ∧ atR bs.length at_ s false = at_ + s ∧ bs.drop (at_ + s) = rest := by
  have hl := congrArg List.length h
  rw [List.length_drop, List.length_append, Cod.bytesOf_length] at hl
  have ok : okR bs.length at_ s false = true := by
    unfold okR
    rw [decide_eq_true (show at_ + s ≤ bs.length by omega)]; rfl
  refine ⟨ok, ?_, ?_, ?_⟩
  · unfold numR
    rw [if_pos ok]
    unfold numN
    rw [h, List.take_left' (Cod.bytesOf_length _ _), Cod.numOf_bytesOf]
  · unfold atR; rw [if_pos ok]
  · rw [← List.drop_drop, h, List.drop_left' (Cod.bytesOf_length _ _)]
theorem rdE_img {bs : List Nat} : ∀ (es : List EdP) (rest : List Nat) (at_ : Nat), bs.drop at_ = es.flatMap edB ++ rest → rdE bs bs.length es.length at_ false = (es.map edP, at_ + 6 * es.length, false) ∧ bs.drop (at_ + 6 * es.length) = rest
  | [], rest, at_, h => ⟨rfl, by simpa using h⟩
  | e :: es, rest, at_, h => by
    rw [List.flatMap_cons, List.append_assoc, show edB e = Cod.bytesOf (bitsV e.r) 4 ++ Cod.bytesOf (bitsV e.dst) 2 from rfl, List.append_assoc] at h
    obtain ⟨o1, n1, a1, d1⟩ := rd_at (by decide) h
    obtain ⟨o2, n2, a2, d2⟩ := rd_at (by decide) d1
    obtain ⟨ih1, ih2⟩ := rdE_img es rest _ d2
    have el : at_ + 6 * (es.length + 1) = at_ + 4 + 2 + 6 * es.length := by omega
    rw [List.length_cons, el]
    refine ⟨?_, ih2⟩
    simp only [rdE, o1, n1, a1, o2, n2, a2, Bool.not_true, Bool.false_eq_true, if_false, ih1]
    rfl
theorem finN_bytes (x : GN) : [finN x] = Cod.bytesOf (finN x) 1 := by unfold finN; split <;> rfl
theorem rdN_img {bs rest : List Nat} (x : GN) (hx : x.edges.length < 65536) (at_ : Nat) (h : bs.drop at_ = ndB x ++ rest) : rdN bs bs.length at_ false = (pnG x, at_ + (ndB x).length, false) ∧ bs.drop (at_ + (ndB x).length) = rest := by
  have h2 : bs.drop at_ = Cod.bytesOf (finN x) 1 ++ (Cod.bytesOf x.edges.length 2 ++ (x.edges.flatMap edB ++ rest)) := by
    rw [h, ← finN_bytes]; unfold ndB; simp only [List.append_assoc]
  obtain ⟨o1, n1, a1, d1⟩ := rd_at (by decide) h2
  obtain ⟨o2, n2, a2, d2⟩ := rd_at (by decide) d1
  have hm : x.edges.length % 256 ^ 2 = x.edges.length := Nat.mod_eq_of_lt (by omega)
  have hf : decide (finN x % 256 ^ 1 = 1) = x.final := by unfold finN; cases x.final <;> rfl
  obtain ⟨ih1, ih2⟩ := rdE_img x.edges rest _ d2
  have el : at_ + (ndB x).length = at_ + 1 + 2 + 6 * x.edges.length := by rw [ndB_len]; omega
  rw [el]
  refine ⟨?_, ih2⟩
  simp only [rdN, o1, n1, a1, o2, n2, a2, Bool.not_true, hm, hf, ih1]
  rfl
theorem rdL_img {bs : List Nat} : ∀ (st : List GN) (rest : List Nat) (at_ : Nat), (∀ x ∈ st, x.edges.length < 65536) → bs.drop at_ = st.flatMap ndB ++ rest → rdL bs bs.length st.length at_ = some (st.map pnG, at_ + (st.flatMap ndB).length) ∧ bs.drop (at_ + (st.flatMap ndB).length) = rest
  | [], rest, at_, _, h => ⟨rfl, by simpa using h⟩
  | x :: st, rest, at_, hs, h => by
    rw [List.flatMap_cons, List.append_assoc] at h
    obtain ⟨e1, d1⟩ := rdN_img x (hs x (by simp)) at_ h
    obtain ⟨ih1, ih2⟩ := rdL_img st rest _ (fun y hy => hs y (by simp [hy])) d1
    have el : at_ + ((x :: st).flatMap ndB).length = at_ + (ndB x).length + (st.flatMap ndB).length := by rw [List.flatMap_cons, List.length_append]; omega
    rw [el, List.length_cons]
    refine ⟨?_, ih2⟩
    simp only [rdL, e1, ih1, Bool.false_eq_true, if_false, Option.map_some]
    rfl
/-- what begins with a body tells the body's nodes, and how long it is -/
theorem body_tell {st : List GN} {rest : List Nat} (hl : st.length < 65536) (hs : ∀ x ∈ st, x.edges.length < 65536) {d : List Nat} (hd : d = (bodyB st ++ rest).drop 4) : okR d.length 0 2 false = true ∧ rdL d d.length (numR d d.length 0 2 false) 2 = some (st.map pnG, 2 + (st.flatMap ndB).length) ∧ d.drop (2 + (st.flatMap ndB).length) = rest := by
  have e : d.drop 0 = Cod.bytesOf st.length 2 ++ (st.flatMap ndB ++ rest) := by
    rw [hd]; unfold bodyB; simp
  obtain ⟨o1, n1, -, d1⟩ := rd_at (by decide) e
  rw [Nat.mod_eq_of_lt (show st.length < 256 ^ 2 by omega)] at n1
  obtain ⟨h1, h2⟩ := rdL_img st rest _ hs d1
  rw [n1]
  exact ⟨o1, h1, h2⟩
theorem readP_img {st : List GN} (hl : st.length < 65536) (hs : ∀ x ∈ st, x.edges.length < 65536) : readP (bodyB st) = some (st.map pnG) := by
  obtain ⟨d, hd⟩ : ∃ d, (bodyB st).drop 4 = d := ⟨_, rfl⟩
  obtain ⟨h1, h2, h3⟩ := body_tell (rest := []) hl hs (d := d) (by rw [List.append_nil, hd])
  have e1 : (bodyB st).take 4 = [73, 78, 75, 49] := by unfold bodyB; rfl
  have e2 : 2 + (st.flatMap ndB).length = d.length := by
    rw [← hd]; unfold bodyB; simp [Cod.bytesOf_length]
  unfold readP
  rw [if_pos e1, hd]
  simp only [h1, if_true, h2, e2]
/-- two bodies, one of which begins like the other with something behind, are as long -/
theorem body_cut {s1 s2 : List GN} {r1 r2 : List Nat} (h : bodyB s1 ++ r1 = bodyB s2 ++ r2) (l1 : s1.length < 65536) (l2 : s2.length < 65536) (e1 : ∀ x ∈ s1, x.edges.length < 65536) (e2 : ∀ x ∈ s2, x.edges.length < 65536) : r1 = r2 := by
  obtain ⟨d, hd⟩ : ∃ d, d = (bodyB s1 ++ r1).drop 4 := ⟨_, rfl⟩
  obtain ⟨-, a2, a3⟩ := body_tell l1 e1 hd
  obtain ⟨-, b2, b3⟩ := body_tell l2 e2 (hd.trans (by rw [h]))
  rw [a2] at b2
  injection b2 with b2
  injection b2 with b2 b4
  rw [← a3, ← b3, b4]
end Go.Proofs.Ytbimbgcejeeinaa
