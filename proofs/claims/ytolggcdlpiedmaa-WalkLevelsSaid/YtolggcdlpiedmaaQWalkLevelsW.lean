/- WalkLevels: the levels, one behind the other, are the whole list; cut words are told by none -/
import Derived.Test.YtolggcdlpiedmaaPkE
import Derived.Test.YtolggcdlpiedmaaPkH
import Derived.Test.YtolggcdlpiedmaaPkF
import Derived.Deep.RegionHeld3
namespace Go.Proofs.Ytolggcdlpiedmaa
open Go.RowKit
set_option linter.unusedVariables false
set_option maxRecDepth 20000
theorem near_ordL {ws : List Tx} (h : SortedS ws) (s : Tx) (k : Int) : (nearL ws s k).Pairwise fun a b => cmpS a.2 b.2 < 0 := by
  induction ws with
  | nil => exact List.Pairwise.nil
  | cons t ws ih =>
    obtain ⟨h1, h2⟩ := List.pairwise_cons.1 h
    rw [nearL_cons]
    split
    · refine List.pairwise_cons.2 ⟨fun y hy => ?_, ih h2⟩
      exact h1 _ (nearL_mem.1 hy).1
    · exact ih h2
def levK (ts : List Tx) (s : Tx) (d : Int) : List KV := (nearL ts s d).filter fun x => decide (x.1 = d)
theorem lev_at {ts : List Tx} {s : Tx} {d : Int} {x : KV} (h : x ∈ levK ts s d) : x.1 = d := of_decide_eq_true (List.mem_filter.1 h).2
theorem lev_len (ts : List Tx) (s : Tx) (d : Int) : (levK ts s d).length ≤ ts.length := Nat.le_trans (List.length_filter_le _ _) (nearL_len ts s d)
theorem near_below (ts : List Tx) (s : Tx) (k : Int) (h : k < 0) : nearL ts s k = [] := by
  unfold nearL
  rw [List.filterMap_eq_nil_iff]
  intro t ht
  rw [if_neg]; omega
/-- a level more -/
theorem lev_snoc {ts : List Tx} (hs : SortedS ts) (s : Tx) (d : Int) : allK ts s d = allK ts s (d - 1) ++ levK ts s d := by
  unfold allK
  symm
  refine sortK_of ?_ ?_
  · unfold SortedK
    refine List.pairwise_append.2 ⟨sortK_sorted _, ?_, ?_⟩
    · refine List.Pairwise.imp_of_mem ?_ ((near_ordL hs s d).sublist List.filter_sublist)
      intro a b ha hb hab
      have e1 := lev_at ha
      have e2 := lev_at hb
      refine leK_of_lt ?_
      unfold ordK
      rw [if_neg (by omega), if_neg (by omega)]
      exact hab
    · intro a ha b hb
      have h1 := nearL_mem.1 (sortK_mem.1 ha)
      have h2 := lev_at hb
      refine leK_of_lt ?_
      unfold ordK
      rw [if_pos (by omega)]
      omega
  · have h1 : (nearL ts s d).filter (fun x => decide (x.1 ≤ d - 1)) = nearL ts s (d - 1) := nearL_within ts s (d - 1) d (by omega)
    have h2 : (nearL ts s d).filter (fun x => !decide (x.1 ≤ d - 1)) = levK ts s d := by
      unfold levK
      refine List.filter_congr fun x hx => ?_
      have := nearL_mem.1 hx
      rw [← decide_not]
      exact decide_eq_decide.2 (by omega)
    refine ((sortK_perm _).append_right _).trans ?_
    rw [← h1, ← h2]
    exact List.filter_append_perm _ _
theorem dists_lev {ts : List Tx} {s : Tx} {d : Int} (hl : 0 ≤ lenS s ∧ lenS s ≤ 16) (h0 : 0 ≤ d) (h4 : d ≤ 4) : distsL (matchK ts s d) d = (levK ts s d).map (·.2) := by
  unfold distsL matchK levK
  rw [if_pos ⟨hl, h0, h4⟩]
theorem lev_less (ts cs : List Tx) (s : Tx) (d : Int) : (levK (lessOf ts cs) s d).map (·.2) = lessOf ((levK ts s d).map (·.2)) cs := by
  unfold levK lessOf
  rw [near_filter, List.filter_map, List.filter_filter, List.filter_filter]
  congr 1
  refine List.filter_congr fun x _ => ?_
  simp [Bool.and_comm]
theorem less_sorted {ts : List Tx} (h : SortedS ts) (cs : List Tx) : SortedS (lessOf ts cs) := h.sublist List.filter_sublist
theorem dists_l (g : Nat) (ts : List Tx) (s : Tx) (d : Int) (ys : List Tx) (n : Nat) (w : World) (h : GrOk g ts w) (hs : s.size ≤ 1048576) (hl : 0 ≤ lenS s ∧ lenS s ≤ 16) (h0 : 0 ≤ d) (h4 : d ≤ 4) (hy : (levK ts s d).map (·.2) = ys) (hn : ys.length = n) :
    Calls Try.prog 19 #[.pointer (some ⟨g, 0, none⟩), .string s, .int .i64 d] w fun e w' => ∃ a c, e = .returned (.slice a n c) ∧ w'.ownsRow w.heap.size 9 1 (.slice a n c) n (strsV ys) ∧ Below w.heap.size w w' := by
  subst hn
  exact dists_any (.pointer (some ⟨g, 0, none⟩)) s d (matchK ts s d) ys w (matches_all g ts s d w h hs) (by
    have := matchK_len ts s d
    have := (good_graph h).1; omega) ((dists_lev hl h0 h4).trans hy)
theorem lev_step {F : List KV} {d : Int} (hd : ∀ x ∈ F, x.1 = d) (i : Nat) (hi : i < F.length) : F.take (i + 1) = F.take i ++ [(d, (F.map (·.2)).getD i ByteArray.empty)] := by
  rw [List.take_succ_eq_append_getElem hi]
  congr 2
  refine Prod.ext (hd _ (List.getElem_mem hi)) ?_
  rw [List.getD_eq_getElem?_getD, List.getElem?_map, List.getElem?_eq_getElem hi]; rfl
theorem kept_apartL {w w' : World} {B B' nx no : Nat} {vx vo : Value} {xs os : List Value} (hx : w.ownsRow B 9 1 vx nx xs) (ho : w.ownsRow B' 24 2 vo no os) (hg : w.grownBy w' vo.ownBlock) : w'.ownsRow B 9 1 vx nx xs :=
  row_kept hx hg (fun r hr cur fr hc => by obtain ⟨_, cur', h2⟩ := row_block ho hr; rw [hc] at h2; simp at h2)
set_option maxRecDepth 100000 in
set_option maxHeartbeats 6400000 in
theorem walkLevels_law (a : Option Addr) (n ca : Nat) (ts : List Tx) (a1 : Option Addr) (n1 c1 : Nat) (cs : List Tx) (s : Tx) (k nq : Int) (w : World) (hl0 : Lst w a n ca ts) (hl1 : Lst w a1 n1 c1 cs) (hn : n ≤ 9223372036854775807) (hn1 : n1 ≤ 9223372036854775807) (hsz : ∀ t ∈ ts, t.size ≤ 9223372036854775807) (hsz1 : ∀ t ∈ cs, t.size ≤ 9223372036854775807) (hs : s.size ≤ 9223372036854775807) :
    Calls Try.prog 6 #[.slice a n ca, .slice a1 n1 c1, .agg #[.string s, .int .i64 k, .int .i64 nq]] w fun e w' => e = .returned (.bool true) ∧ Below w.heap.size w w' := by
  have B1 := Lib.hid (below_one w (.cells #[.string s, .int .i64 k, .int .i64 nq] 44))
  have KB := Lib.hid (show QBox w.heap.size s k nq (w.alloc (.cells #[.string s, .int .i64 k, .int .i64 nq] 44)) from ⟨by rw [World.cell?_alloc_mark]; rfl, by rw [World.cell?_alloc_mark]; rfl, by rw [World.cell?_alloc_mark]; rfl⟩)
  obtain ⟨w1, hw1⟩ : ∃ w1, w.alloc (.cells #[.string s, .int .i64 k, .int .i64 nq] 44) = w1 := ⟨_, rfl⟩
  have HW := Lib.hid hw1
  rw [hw1] at B1 KB
  have H0 := Lib.hid hl0; have H1 := Lib.hid hl1
  have AW := Lib.hid (fun w => awakeW_any w)
  obtain ⟨gr, hgr⟩ : ∃ c, greatW ts s = c := ⟨_, rfl⟩
  have CG := Lib.hid (greatW_any a n ca ts s gr w1 (hl0.1.below B1.out) hn hsz hs hgr)
  obtain ⟨gr1, hgr1⟩ : ∃ c, greatB cs = c := ⟨_, rfl⟩
  have CG1 := Lib.hid (fun w' hh => great_lit a1 n1 c1 cs gr1 w' hh hn1 hsz1 hgr1)
  obtain ⟨my, hmy⟩ : ∃ c, decide (mayP s k nq) = c := ⟨_, rfl⟩
  have CM := Lib.hid (fun w => may_lit s k nq my w hs hmy)
  obtain ⟨d0, d1, d2⟩ := KB.out
  clear hw1 hl0 hl1
  go_enter Try.func6, Try.ntmps6
  go_upto_region 1 with fail
  rw [HW.out]
  go_wp2_with fail
  refine CG.out.mono ?_
  rintro e w2 ⟨rfl, hb2⟩
  have B2 := Lib.hid (B1.out.trans (hb2.mono B1.out.size))
  have KB2 := Lib.hid (KB.out.keep hb2)
  clear d0 d1 d2 hb2 KB B1 CG HW
  obtain ⟨d0, d1, d2⟩ := KB2.out
  cases gr with
  | true =>
    go_wp2_with fail
    refine (AW.out _).mono ?_
    rintro e w3 ⟨rfl, hb3⟩
    go_wp2_with fail
    go_ret
    exact ⟨rfl, B2.out.trans (hb3.mono B2.out.size)⟩
  | false =>
    obtain ⟨hl80, hs100, hss⟩ := greatW_no hgr
    have HSS := Lib.hid hs100
    have hlen : ts.length = n := H0.out.1.len
    clear hgr hs100
    go_wp2_with fail
    refine (CG1.out _ (H1.out.1.below B2.out)).mono ?_
    rintro e w3 ⟨rfl, hb3⟩
    have B3 := Lib.hid (B2.out.trans (hb3.mono B2.out.size))
    have KB3 := Lib.hid (KB2.out.keep hb3)
    clear d0 d1 d2 hb3 KB2 B2 CG1
    obtain ⟨d0, d1, d2⟩ := KB3.out
    cases gr1 with
    | true =>
      go_wp2_with fail
      refine (AW.out _).mono ?_
      rintro e w4 ⟨rfl, hb4⟩
      go_wp2_with fail
      go_ret
      exact ⟨rfl, B3.out.trans (hb4.mono B3.out.size)⟩
    | false =>
      obtain ⟨hk80, hk100⟩ := great_no_iff.1 hgr1
      have hlen1 : cs.length = n1 := H1.out.1.len
      clear hgr1 hk100
      go_wp2_with fail
      refine (CM.out _).mono ?_
      rintro e w4 ⟨rfl, hb4⟩
      have B4 := Lib.hid (B3.out.trans (hb4.mono B3.out.size))
      have KB4 := Lib.hid (KB3.out.keep hb4)
      clear d0 d1 d2 hb4 KB3 B3 CM
      obtain ⟨d0, d1, d2⟩ := KB4.out
      cases my with
      | false =>
        go_wp2_with fail
        refine (AW.out _).mono ?_
        rintro e w5 ⟨rfl, hb5⟩
        go_wp2_with fail
        go_ret
        exact ⟨rfl, B4.out.trans (hb5.mono B4.out.size)⟩
      | true =>
        have hmay : mayP s k nq := of_decide_eq_true hmy
        have HMA := Lib.hid (may_match (ts := ts) hmay)
        have hlk : (0 ≤ lenS s ∧ lenS s ≤ 16) ∧ 0 ≤ k ∧ k ≤ 4 := by
          unfold mayP at hmay
          obtain ⟨x1, x2, x3⟩ := hmay
          exact ⟨⟨by omega, by omega⟩, by omega, by omega⟩
        obtain ⟨hsl, hk0, hk4⟩ := hlk
        have HSL := Lib.hid hsl
        obtain ⟨v, hv⟩ : ∃ v, goodV ts = v := ⟨_, rfl⟩
        obtain ⟨v1, hv1⟩ : ∃ v, goodV cs = v := ⟨_, rfl⟩
        have CGD := Lib.hid (good_lit a n ca ts v w4 (H0.out.1.below B4.out) hn hsz hv)
        have CGE := Lib.hid (fun w' hh => good_lit a1 n1 c1 cs v1 w' hh hn1 hsz1 hv1)
        clear hmy hmay hsl hsz hsz1
        go_wp2_with fail
        refine CGD.out.mono ?_
        rintro e w5 ⟨rfl, hb5⟩
        have B5 := Lib.hid (B4.out.trans (hb5.mono B4.out.size))
        have KB5 := Lib.hid (KB4.out.keep hb5)
        clear d0 d1 d2 hb5 KB4 B4 CGD
        by_cases hv0 : v = 0
        · subst hv0
          go_wp2_with fail
          refine (CGE.out _ (H1.out.1.below B5.out)).mono ?_
          rintro e w6 ⟨rfl, hb6⟩
          have B6 := Lib.hid (B5.out.trans (hb6.mono B5.out.size))
          have KB6 := Lib.hid (KB5.out.keep hb6)
          clear hb6 KB5 B5 CGE
          by_cases hv2 : v1 = 0
          · subst hv2
            obtain ⟨hg1, hg2, hg3⟩ := goodV_zero hv
            obtain ⟨-, -, hcs⟩ := goodV_zero hv1
            obtain ⟨us, hus⟩ : ∃ us, lessOf ts cs = us := ⟨_, rfl⟩
            obtain ⟨nu, hnu⟩ : ∃ k, us.length = k := ⟨_, rfl⟩
            have hum : ∀ t ∈ us, t ∈ ts := fun t ht => by rw [← hus] at ht; unfold lessOf at ht; exact (List.mem_filter.1 ht).1
            have hul : nu ≤ n := by
              have h1 : (lessOf ts cs).length ≤ ts.length := by unfold lessOf; exact List.length_filter_le _ _
              rw [hus, hnu] at h1; omega
            have huv : goodV us = 0 := goodV_good (by omega) (fun t ht => hg2 t (hum t ht)) (hus ▸ less_sorted hg3 cs)
            have HTS := Lib.hid hg3; have HCS := Lib.hid hcs; have HUS := Lib.hid hus
            have CB := Lib.hid (buildW_good a n ca ts w6 (H0.out.1.below B6.out) H0.out.2.2 (by omega) HSS.out hv)
            have CW := Lib.hid (fun w' hh hh1 => without_lst a n ca ts a1 n1 c1 cs us nu w' hh hh1 (by omega) (by omega) hcs hus hnu)
            have CB2 := Lib.hid (fun a' c' w' hh hc => buildW_good a' nu c' us w' hh hc (by omega) (fun t ht => HSS.out t (hum t ht)) huv)
            have hnu60 : nu ≤ 60 := by omega
            clear hv hv1 hg2 hg3 hcs hus hnu hum huv
            go_wp2_with fail
            refine CB.out.mono ?_
            rintro e w7 ⟨g, rfl, hg, hb7⟩
            have G7 := Lib.hid hg
            have B7 := Lib.hid (B6.out.trans (hb7.mono B6.out.size))
            have KB7 := Lib.hid (KB6.out.keep hb7)
            clear hg hb7 KB6 B6 CB
            go_wp2_with fail
            refine (CW.out _ (H0.out.below B7.out) (H1.out.below B7.out)).mono ?_
            rintro e w8 ⟨a8, c8, rfl, ho8, hb8⟩
            have L8 := Lib.hid (Lst.own ho8)
            have G8 := Lib.hid (G7.out.below hb8)
            have B8 := Lib.hid (B7.out.trans (hb8.mono B7.out.size))
            have KB8 := Lib.hid (KB7.out.keep hb8)
            clear ho8 hb8 KB7 B7 CW G7
            go_wp2_with fail
            refine (CB2.out _ _ _ L8.out.1 L8.out.2.2).mono ?_
            rintro e w9 ⟨h, rfl, hh, hb9⟩
            have E9 := Lib.hid hh
            have G9 := Lib.hid (G8.out.below hb9)
            have B9 := Lib.hid (B8.out.trans (hb9.mono B8.out.size))
            have KB9 := Lib.hid (KB8.out.keep hb9)
            clear hh hb9 KB8 B8 CB2 G8 L8
            obtain ⟨i0, hi0, hz0, hz1, hz2⟩ := info_parts item_info
            obtain ⟨kn, rfl⟩ : ∃ kn : Nat, k = (kn : Int) := ⟨k.toNat, by omega⟩
            have hcs60 : cs.length ≤ 80 := hk80
            go_wp2_with fail
            go_loopw [11, 12] (fun ov dv wr => ∃ (j p : Nat) (P : List KV) (av : Option Addr) (cv : Nat), j ≤ kn + 1 ∧ p ≤ n ∧ dv = .int .i64 j ∧ ov = .slice av p cv ∧ Hid (P = allK ts s ((j : Int) - 1)) ∧ Hid (P.length = p) ∧ Hid (wr.ownsRow w9.heap.size 24 2 (.slice av p cv) p (keysV P)) ∧ Hid (Below w9.heap.size w9 wr)) (fun _ dv _ => kn + 1 - (intOf dv).toNat)
            case atStart => exact ⟨0, 0, [], none, 0, by omega, by omega, rfl, rfl, Lib.hid (by unfold allK; rw [near_below _ _ _ (by omega)]; rfl), Lib.hid rfl, Lib.hid (World.ownsRow_nil _ _ _ _), Lib.hid (Below.refl _ _)⟩
            case round =>
              obtain ⟨j, p, P, av, cv, hj, hpn, rfl, rfl, hP, hPl, hO, hB⟩ := hrel
              have KBr := Lib.hid (KB9.out.keep hB.out)
              have Br := Lib.hid (B9.out.trans (hB.out.mono B9.out.size))
              have Gr := Lib.hid (G9.out.below hB.out)
              obtain ⟨d0, d1, d2⟩ := KBr.out
              by_cases hlt : j ≤ kn
              · obtain ⟨F, hF⟩ : ∃ F, levK ts s (j : Int) = F := ⟨_, rfl⟩
                obtain ⟨D, hD⟩ : ∃ D, F.map (·.2) = D := ⟨_, rfl⟩
                obtain ⟨q, hq⟩ : ∃ q, F.length = q := ⟨_, rfl⟩
                have hDl : D.length = q := by rw [← hD, List.length_map, hq]
                have hqn : q ≤ n := by have := lev_len ts s (j : Int); rw [hF, hq] at this; omega
                obtain ⟨R, hR⟩ : ∃ R, lessOf D cs = R := ⟨_, rfl⟩
                obtain ⟨r, hr⟩ : ∃ r, R.length = r := ⟨_, rfl⟩
                have hr80 : r ≤ q := by
                  have : (lessOf D cs).length ≤ D.length := by unfold lessOf; exact List.length_filter_le _ _
                  rw [hR, hr, hDl] at this; exact this
                have CX := Lib.hid (dists_l g ts s (j : Int) D q wr Gr.out (by omega) HSL.out (by omega) (by omega) (by rw [hF, hD]) hDl)
                have CY := Lib.hid (fun w' hh => dists_l h us s (j : Int) R r w' hh (by omega) HSL.out (by omega) (by omega) (by rw [← HUS.out, lev_less, hF, hD, hR]) hr)
                have CW := Lib.hid (fun ax cx w' hx hh1 => without_lst ax q cx D a1 n1 c1 cs R r w' hx hh1 (by omega) (by omega) HCS.out hR hr)
                have HPF := Lib.hid (show P ++ F = allK ts s (((j + 1 : Nat) : Int) - 1) from by
                  rw [hP.out, ← hF, show ((j + 1 : Nat) : Int) - 1 = (j : Int) by omega]; exact (lev_snoc HTS.out s _).symm)
                have hpq : p + q ≤ n := by
                  have h1 : (allK ts s (((j + 1 : Nat) : Int) - 1)).length ≤ ts.length := by unfold allK; rw [sortK_length]; exact nearL_len ts s _
                  rw [← HPF.out, List.length_append, hPl.out, hq] at h1; omega
                have HFD := Lib.hid (fun i (hi : i < q) => lev_step (F := F) (d := (j : Int)) (fun x hx => lev_at (hF ▸ hx)) i (by omega))
                rw [hD] at HFD
                have HFQ := Lib.hid hq; have HDQ := Lib.hid hDl
                clear hF hD hq hDl hR hr
                go_wp2_with fail
                refine CX.out.mono ?_
                rintro e w10 ⟨ax, cx, rfl, ox, hb10⟩
                have OX := Lib.hid ox
                have B10 := Lib.hid (hB.out.trans (hb10.mono hB.out.size))
                have O10 := Lib.hid (owns_below hO.out hb10)
                have KB10 := Lib.hid (KBr.out.keep hb10)
                have E10 := Lib.hid ((E9.out.below hB.out).below hb10)
                clear ox hb10 hB hO d0 d1 d2 CX
                obtain ⟨d0, d1, d2⟩ := KB10.out
                go_wp2_with fail
                refine (CY.out _ E10.out).mono ?_
                rintro e w11 ⟨ay, cy, rfl, oy, hb11⟩
                have OX11 := Lib.hid (owns_below OX.out hb11)
                have HY := Lib.hid (HoldsT.own oy)
                have B11 := Lib.hid (B10.out.trans (hb11.mono B10.out.size))
                have O11 := Lib.hid (owns_below O10.out hb11)
                clear oy hb11 B10 O10 d0 d1 d2 CY OX KB10 E10
                go_wp2_with fail
                refine (CW.out ax cx _ (Lst.own OX11.out) ((H1.out.below B9.out).below B11.out)).mono ?_
                rintro e w12 ⟨az, cz, rfl, oz, hb12⟩
                have OX12 := Lib.hid (owns_below OX11.out hb12)
                have HY12 := Lib.hid (HY.out.below hb12)
                have HZ := Lib.hid (HoldsT.own oz)
                have B12 := Lib.hid (B11.out.trans (hb12.mono B11.out.size))
                have O12 := Lib.hid (owns_below O11.out hb12)
                clear oz hb12 B11 O11 CW OX11 HY
                go_wp2_with fail
                refine (sameTexts_yes ay az r cy cz R w12 HY12.out HZ.out (by omega)).mono ?_
                rintro e w13 ⟨rfl, hb13⟩
                have OX13 := Lib.hid (owns_below OX12.out hb13)
                have B13 := Lib.hid (B12.out.trans (hb13.mono B12.out.size))
                have O13 := Lib.hid (owns_below O12.out hb13)
                clear hb13 B12 O12 OX12 HY12 HZ
                go_wp2_with fail
                go_loopw [11, 14] (fun ov iv ws => ∃ (i : Nat) (Q : List KV) (av : Option Addr) (cv : Nat), i ≤ q ∧ iv = .int .i64 i ∧ ov = .slice av (p + i) cv ∧ Hid (Q = P ++ F.take i) ∧ Hid (ws.ownsRow w9.heap.size 24 2 (.slice av (p + i) cv) (p + i) (keysV Q)) ∧ Hid (ws.ownsRow wr.heap.size 9 1 (.slice ax q cx) q (strsV D)) ∧ Hid (Below w9.heap.size w9 ws)) (fun _ iv _ => q - (intOf iv).toNat)
                case atStart => exact ⟨0, P, av, cv, by omega, rfl, rfl, Lib.hid (by simp), O13, OX13, B13⟩
                case round =>
                  obtain ⟨i, Q, qv, qc, hi, rfl, rfl, hQ, hQO, hQX, hQB⟩ := hrel
                  rename World => ws
                  by_cases hli : i < q
                  · obtain ⟨xb, xo, rfl, hcx⟩ := (HoldsT.own hQX.out).at (by omega)
                    have x0 := hcx i hli
                    have hst := HFD.out i hli
                    obtain ⟨t, ht⟩ : ∃ t, D.getD i ByteArray.empty = t := ⟨_, rfl⟩
                    rw [ht] at x0 hst
                    have HST := Lib.hid hst
                    have n1' : (0 : Int) ≤ (i : Int) := by omega
                    have n2' : (i : Int) < (q : Int) := by omega
                    clear hcx hst ht
                    go_wp2_with (at_builtin; refine wpList_append_lies _ rfl (.tmp 94) (.tmp 101) 31 rfl w9.heap.size 24 i0 _ 2 24 Try.underlying31 hi0 hz0 hz1 hz2 rfl (by omega) (.slice qv (p + i) qc) (p + i) (keysV Q) (by rfl) (hQO.out.alloc _) ⟨ws.heap.size, 0, none⟩ 1 1 [.int .i64 (j : Int), .string t] (by rfl) (by rfl) (World.news_of_block (cs := #[.int .i64 (j : Int), .string t]) (t := 24) (fr := (0, 0)) (heap_alloc_new ws _)) (by simp [Value.oneCell']) (by omega) (by unfold maxLen; omega) (by omega) (by have := hQB.out.size; simp; omega) (ws.heap.size + 1) (by simp) ?_; intro g4 c4 w14 hown4 hg4 hl4 hs4)
                    have O14 := Lib.hid (show w14.ownsRow w9.heap.size 24 2 (.slice (some ⟨g4, 0, none⟩) (p + (i + 1)) c4) (p + (i + 1)) (keysV (Q ++ [((j : Int), t)])) from by rw [keysV_snoc]; exact hown4)
                    have OX14 := Lib.hid (kept_apartL (hQX.out.alloc _) (hQO.out.alloc _) hg4)
                    have BW := Lib.hid ((hQB.out.alloc hQB.out.size _).grown hg4 (by have := hQB.out.size; simp; omega) (fun r hr => (row_block hQO.out hr).1))
                    have HQ := Lib.hid (show Q ++ [((j : Int), t)] = P ++ F.take (i + 1) from by rw [HST.out, hQ.out, List.append_assoc])
                    go_roundw
                    case rel => exact ⟨i + 1, Q ++ [((j : Int), t)], some ⟨g4, 0, none⟩, c4, by omega, by go_num, rfl, HQ, O14, OX14, BW⟩
                    case measure => simp [intOf] <;> omega
                  · obtain rfl : i = q := by omega
                    have HQ2 := Lib.hid (show Q = allK ts s (((j + 1 : Nat) : Int) - 1) from by rw [hQ.out, List.take_of_length_le (by have := HFQ.out; omega), HPF.out])
                    have HQL := Lib.hid (show Q.length = p + i from by have := hQO.out.1; rw [keysV_len] at this; omega)
                    go_wp2_with fail
                    go_roundw
                    case rel => exact ⟨j + 1, p + i, Q, qv, qc, by omega, by omega, by go_num, rfl, HQ2, HQL, hQO, hQB⟩
                    case measure => simp [intOf] <;> omega
              · obtain rfl : j = kn + 1 := by omega
                have HPK := Lib.hid (show P = allK ts s (kn : Int) from by rw [hP.out, show ((kn + 1 : Nat) : Int) - 1 = (kn : Int) by omega])
                have CN := Lib.hid (next_c g ts s (kn : Int) true (0, ⟨#[]⟩) 100 P P p true wr Gr.out (by omega) (by unfold restK; rw [if_pos rfl, HMA.out, HPK.out]) (by rw [hPl.out]; unfold cntK; omega) (List.take_of_length_le (by rw [hPl.out]; omega)) (by rw [hPl.out]; exact decide_eq_true rfl))
                have HO := Lib.hid (HoldsK.own hO.out)
                clear hP hO hB
                go_wp2_with fail
                refine CN.out.mono ?_
                rintro e w10 ⟨a10, rfl, hc10, -, hb10⟩
                have K10 := Lib.hid hc10.holds
                have M10 := Lib.hid (HO.out.below hb10)
                have B10 := Lib.hid (Br.out.trans (hb10.mono Br.out.size))
                clear hc10 hb10 CN HO d0 d1 d2
                go_wp2_with fail
                refine (sameItems_yes av a10 p cv p P w10 M10.out K10.out (by omega)).mono ?_
                rintro e w11 ⟨rfl, hb11⟩
                have B11 := Lib.hid (B10.out.trans (hb11.mono B10.out.size))
                clear hb11 B10
                go_wp2_with fail
                refine (AW.out _).mono ?_
                rintro e w12 ⟨rfl, hb12⟩
                go_wp2_with fail
                go_ret
                exact ⟨rfl, B11.out.trans (hb12.mono B11.out.size)⟩
          · have hvn : (v1 != 0) = true := by simpa using hv2
            clear hv hv1 hv2
            go_wp2_with fail
            refine (AW.out _).mono ?_
            rintro e w7 ⟨rfl, hb7⟩
            go_wp2_with fail
            go_ret
            exact ⟨rfl, B6.out.trans (hb7.mono B6.out.size)⟩
        · have hvn : (v != 0) = true := by simpa using hv0
          clear hv hv1 hv0
          go_wp2_with fail
          refine (AW.out _).mono ?_
          rintro e w6 ⟨rfl, hb6⟩
          go_wp2_with fail
          go_ret
          exact ⟨rfl, B5.out.trans (hb6.mono B5.out.size)⟩
open Go.ChangeShapes Go.WideShapes Go.ChangeAt in
theorem walkLevels_walk {H : Type} {enc : TypeId × Value → H} (W : World) (base : Nat) (v0 v1 v2 : Value) (d0 d1 d2 : DataW H) (p0 p1 p2 : List MemPlace)
    (h0 : DataW.Trod enc Try.prog W 0 (fun _ => true) true 22 v0 d0 p0) (h1 : DataW.Trod enc Try.prog W 0 (fun _ => true) true 22 v1 d1 p1) (h2 : DataW.Trod enc Try.prog W 0 (fun _ => true) true 44 v2 d2 p2)
    (o0 : Value.okWide Try.prog W .any base 22 v0) (o1 : Value.okWide Try.prog W .any base 22 v1) (o2 : Value.okWide Try.prog W .any base 44 v2) :
    Calls Try.prog 6 #[v0, v1, v2] W fun e w' => e = .returned (.bool true) ∧ RowKit.Below W.heap.size W w' := by
  obtain ⟨a0, n0, c0, k0, rfl, x0, y0, z0, b0, s0⟩ := open_texts_arg o0 h0
  obtain ⟨a1, n1, c1, k1, rfl, x1, y1, z1, b1, s1⟩ := open_texts_arg o1 h1
  obtain ⟨t, k, n, ht, _, _, rfl⟩ := query_arg o2 h2
  exact walkLevels_law a0 n0 c0 k0 a1 n1 c1 k1 t k n W ⟨x0, y0, z0⟩ ⟨x1, y1, z1⟩ b0 b1 s0 s1 ht
end Go.Proofs.Ytolggcdlpiedmaa
