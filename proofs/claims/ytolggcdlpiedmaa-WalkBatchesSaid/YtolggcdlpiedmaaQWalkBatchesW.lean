/- WalkBatches: batches of any sizes, joined, are what rank.All tells -/
import Derived.Test.YtolggcdlpiedmaaPkE
import Derived.Test.YtolggcdlpiedmaaPkF
import Derived.Test.YtolggcdlpiedmaaPkC
import Derived.Deep.RegionHeld3
namespace Go.Proofs.Ytolggcdlpiedmaa
open Go.RowKit
set_option linter.unusedVariables false
set_option maxRecDepth 20000
theorem restK_at {M L : List KV} (hM : sortK M = L) (hst : StrictK L) (c : Nat) (hc : c + 1 ≤ L.length) : restK false (L.getD c k0) M = L.drop (c + 1) := by
  unfold restK
  rw [hM, if_neg (by simp)]
  exact filter_at hst c (by omega)
theorem restK_first {M L : List KV} (hM : sortK M = L) (av : KV) : restK true av M = L := by
  unfold restK
  rw [if_pos rfl, hM]
theorem HoldsK.cellsB {w : World} {a : Option Addr} {n : Nat} {ks : List KV} (h : HoldsK w a n ks) : ∀ ad, a = some ad → ∀ j u, (keysV ks)[j]? = some u → w.cell? (ad.add j) = some u := HoldsK.cellsAny h ⟨rfl, rfl, rfl, Nat.le_refl _, fun _ _ _ => rfl⟩
theorem HoldsK.ones {w : World} {a : Option Addr} {n : Nat} {ks : List KV} (h : HoldsK w a n ks) : (∀ u ∈ keysV ks, u.oneCell' = true) ∧ (keysV ks).length = n * 2 := ⟨keysV_one _, by rw [keysV_len, h.len]⟩
theorem next_form {bt : Int} {m c : Nat} (h1 : 1 ≤ bt) (hcm : c ≤ m) {P : Nat → Bool → Prop} (h : ∀ i b, cntK bt (m - c) = i → decide (i = m - c) = b → P i b) :
    ∃ (N : Nat) (ee : Bool), ¬ bt < (N : Int) ∧ c + N ≤ m ∧ (ee = true → c + N = m) ∧ (ee = false → 1 ≤ N) ∧ (((N : Int) < bt ∧ ee = true) ∨ ¬ (N : Int) < bt) ∧ P N ee := by
  refine ⟨_, _, ?_, ?_, ?_, ?_, ?_, h _ _ rfl rfl⟩
  · unfold cntK; omega
  · unfold cntK; omega
  · intro he; have := of_decide_eq_true he; omega
  · intro he; have := of_decide_eq_false he; unfold cntK at this ⊢; omega
  · by_cases he : ((cntK bt (m - c) : Nat) : Int) < bt
    · refine Or.inl ⟨he, decide_eq_true ?_⟩; unfold cntK at he ⊢; omega
    · exact Or.inr he
theorem KBox.keepB {b : Nat} {x : KV} {w w' : World} (h : KBox b x w) (hb : Below w.heap.size w w') : KBox b x w' := h.more hb (lt_of_cell h.1)
set_option maxRecDepth 100000 in
set_option maxHeartbeats 6400000 in
theorem walkBatches_law (a : Option Addr) (n ca : Nat) (ts : List Tx) (s : Tx) (k nq : Int) (a1 : Option Addr) (n1 c1 : Nat) (zs : List Int) (w : World) (hh : HoldsT w a n ts) (hi : HoldsI .i64 w a1 n1 zs) (hc : n ≤ ca) (hn : n ≤ 9223372036854775807) (hn1 : n1 ≤ 9223372036854775807) (hsz : ∀ t ∈ ts, t.size ≤ 9223372036854775807) (hs : s.size ≤ 9223372036854775807) :
    Calls Try.prog 5 #[.slice a n ca, .agg #[.string s, .int .i64 k, .int .i64 nq], .slice a1 n1 c1] w fun e w' => e = .returned (.bool true) ∧ Below w.heap.size w w' := by
  have B1 := Lib.hid (below_one w (.cells #[.string s, .int .i64 k, .int .i64 nq] 44))
  have KB := Lib.hid (show QBox w.heap.size s k nq (w.alloc (.cells #[.string s, .int .i64 k, .int .i64 nq] 44)) from ⟨by rw [World.cell?_alloc_mark]; rfl, by rw [World.cell?_alloc_mark]; rfl, by rw [World.cell?_alloc_mark]; rfl⟩)
  obtain ⟨w1, hw1⟩ : ∃ w1, w.alloc (.cells #[.string s, .int .i64 k, .int .i64 nq] 44) = w1 := ⟨_, rfl⟩
  have HW := Lib.hid hw1
  rw [hw1] at B1 KB
  have H0 := Lib.hid hh; have HI := Lib.hid hi
  have AW := Lib.hid (fun w => awakeW_any w)
  obtain ⟨gr, hgr⟩ : ∃ c, greatW ts s = c := ⟨_, rfl⟩
  have CG := Lib.hid (greatW_any a n ca ts s gr w1 (hh.below B1.out) hn hsz hs hgr)
  obtain ⟨my, hmy⟩ : ∃ c, decide (mayP s k nq) = c := ⟨_, rfl⟩
  have CM := Lib.hid (fun w => may_lit s k nq my w hs hmy)
  obtain ⟨d0, d1, d2⟩ := KB.out
  clear hw1 hh hi
  go_enter Try.func5, Try.ntmps5
  go_upto_region 1 with fail
  rw [HW.out]
  go_wp2_with fail
  refine CG.out.mono ?_
  rintro e w2 ⟨rfl, hb2⟩
  have B2 := Lib.hid (B1.out.trans (hb2.mono B1.out.size))
  have KB2 := Lib.hid (KB.out.keep hb2)
  clear d0 d1 d2 hb2 KB B1 CG HW
  obtain ⟨d0, d1, d2⟩ := KB2.out
  cases gr with
  | true =>
    go_wp2_with fail
    refine (AW.out _).mono ?_
    rintro e w3 ⟨rfl, hb3⟩
    go_wp2_with fail
    go_ret
    exact ⟨rfl, B2.out.trans (hb3.mono B2.out.size)⟩
  | false =>
    by_cases hbig : n1 ≤ 200
    · go_wp2_with fail
      refine (CM.out _).mono ?_
      rintro e w3 ⟨rfl, hb3⟩
      have B3 := Lib.hid (B2.out.trans (hb3.mono B2.out.size))
      have KB3 := Lib.hid (KB2.out.keep hb3)
      clear d0 d1 d2 hb3 KB2 B2 CM
      obtain ⟨d0, d1, d2⟩ := KB3.out
      cases my with
      | false =>
        go_wp2_with fail
        refine (AW.out _).mono ?_
        rintro e w4 ⟨rfl, hb4⟩
        go_wp2_with fail
        go_ret
        exact ⟨rfl, B3.out.trans (hb4.mono B3.out.size)⟩
      | true =>
        have hmay : mayP s k nq := of_decide_eq_true hmy
        have HMA := Lib.hid (may_match (ts := ts) hmay)
        obtain ⟨hl80, hs100, hss⟩ := greatW_no hgr
        have HSS := Lib.hid hs100
        have hlen : ts.length = n := H0.out.len
        clear hgr hmy hs100 hsz hmay
        obtain ⟨v, hv⟩ : ∃ v, goodV ts = v := ⟨_, rfl⟩
        by_cases hv0 : v = 0
        · subst hv0
          have CB := Lib.hid (buildW_good a n ca ts w3 (H0.out.below B3.out) hc (by omega) HSS.out hv)
          clear hv
          go_wp2_with fail
          refine CB.out.mono ?_
          rintro e w4 ⟨g, rfl, hg, hb4⟩
          have G4 := Lib.hid hg
          have B4 := Lib.hid (B3.out.trans (hb4.mono B3.out.size))
          have KB4 := Lib.hid (KB3.out.keep hb4)
          obtain ⟨L, hL⟩ : ∃ L, allK ts s k = L := ⟨_, rfl⟩
          obtain ⟨m, hm⟩ : ∃ m, L.length = m := ⟨_, rfl⟩
          have hmn : m ≤ n := by
            have h2 := matchK_len ts s k
            have h3 := HMA.out
            rw [← hm, ← hL, ← h3, sortK_length]
            omega
          have hst : StrictK L := hL ▸ allK_strict hg.sorted s k
          have hML : sortK (matchK ts s k) = L := HMA.out.trans hL
          have CN0 := Lib.hid (fun (bt : Int) (i : Nat) (b : Bool) (hi : cntK bt m = i) (hb : decide (i = m) = b) w' (hg : GrOk g ts w') => next_c g ts s k true (0, ⟨#[]⟩) bt L (L.take i) i b w' hg (by omega) (restK_first hML _) (by rw [hm]; exact hi) rfl (by rw [hm]; exact hb))
          have CN1 := Lib.hid (fun (c : Nat) (bt : Int) (i : Nat) (b : Bool) (hc : c + 1 ≤ m) (hi : cntK bt (m - (c + 1)) = i) (hb : decide (i = m - (c + 1)) = b) w' (hg : GrOk g ts w') => next_c g ts s k false (L.getD c k0) bt (L.drop (c + 1)) ((L.drop (c + 1)).take i) i b w' hg (by omega) (restK_at hML hst c (by omega)) (by rw [List.length_drop, hm]; exact hi) rfl (by rw [List.length_drop, hm]; exact hb))
          have HM := Lib.hid hm; have HL := Lib.hid hL
          have CL := Lib.hid (fun (x : Int) (w : World) => low_any x 7 (by omega) (by omega) w)
          obtain ⟨i0, hi0, hz0, hz1, hz2⟩ := info_parts item_info
          clear hb4 hg CB hL hm hst hML d0 d1 d2 KB3
          go_wp2_with fail
          go_loopw [9, 10, 11] (fun ov ev iv wr => ∃ (j c : Nat) (b : Bool) (av : Option Addr) (cv : Nat), ov = .slice av c cv ∧ ev = .bool b ∧ iv = .int .i64 j ∧ j ≤ n + 1 ∧ c ≤ m ∧ (b = true → c = m) ∧ (b = false → j ≤ c) ∧ Hid (wr.ownsRow w4.heap.size 24 2 (.slice av c cv) c (keysV (L.take c))) ∧ Hid (Below w4.heap.size w4 wr)) (fun _ _ iv _ => n + 1 - (intOf iv).toNat)
          case atStart => exact ⟨0, 0, false, none, 0, rfl, rfl, rfl, by omega, by omega, by simp, by omega, Lib.hid (World.ownsRow_nil _ _ _ _), Lib.hid (Below.refl _ _)⟩
          case round =>
            obtain ⟨j, c, b, av, cv, rfl, rfl, rfl, hj, hcm, hbt, hbf, hO, hB⟩ := hrel
            cases b with
            | true =>
              obtain rfl : c = m := hbt rfl
              have KB5 := Lib.hid (KB4.out.keep hB.out)
              have B5 := Lib.hid (B4.out.trans (hB.out.mono B4.out.size))
              obtain ⟨d0, d1, d2⟩ := KB5.out
              have CR := Lib.hid (rankAll_c a n ca ts s k L c wr (H0.out.below B5.out) (by omega) (fun t ht => by have := HSS.out t ht; omega) (by omega) HL.out HM.out)
              have hO2 := HoldsK.own hO.out
              rw [List.take_of_length_le (by have := HM.out; omega)] at hO2
              have HO2 := Lib.hid hO2
              clear hbt hbf hO hB KB4 B4 hO2 CN0 CN1 CL
              by_cases hjn : j ≤ n
              all_goals
                go_wp2_with fail
                refine CR.out.mono ?_
                rintro e w6 ⟨a6, c6, rfl, ho6, hb6⟩
                have B6 := Lib.hid (B5.out.trans (hb6.mono B5.out.size))
                have R6 := Lib.hid (HoldsK.own ho6)
                have R5 := Lib.hid (HO2.out.below hb6)
                clear ho6 hb6 d0 d1 d2
                go_wp2_with fail
                refine (sameItems_yes av a6 c cv c6 L w6 R5.out R6.out (by omega)).mono ?_
                rintro e w8 ⟨rfl, hb8⟩
                have B8 := Lib.hid (B6.out.trans (hb8.mono B6.out.size))
                clear hb8 B6
                go_wp2_with fail
                refine (AW.out _).mono ?_
                rintro e w9 ⟨rfl, hb9⟩
                go_wp2_with fail
                go_ret
                exact ⟨rfl, B8.out.trans (hb9.mono B8.out.size)⟩
            | false =>
              have hjc : j ≤ c := hbf rfl
              have hjn : j ≤ n := by omega
              have B5 := Lib.hid (B4.out.trans (hB.out.mono B4.out.size))
              have KB5 := Lib.hid (KB4.out.keep hB.out)
              have G5 := Lib.hid (G4.out.below hB.out)
              have BA := Lib.hid (below_one wr (.cells #[.int .i64 0, .string ⟨#[]⟩] 24))
              have FA := Lib.hid (show KBox wr.heap.size (0, ⟨#[]⟩) (wr.alloc (.cells #[.int .i64 0, .string ⟨#[]⟩] 24)) from ⟨by rw [World.cell?_alloc_mark]; rfl, by rw [World.cell?_alloc_mark]; rfl⟩)
              have fz : ∀ j, (wr.alloc (.cells #[.int .i64 0, .string ⟨#[]⟩] 24)).frozen? ⟨wr.heap.size, j, none⟩ = false := fun j => by simp
              obtain ⟨wa, hwa⟩ : ∃ wa, wr.alloc (.cells #[.int .i64 0, .string ⟨#[]⟩] 24) = wa := ⟨_, rfl⟩
              have HWA := Lib.hid hwa
              rw [hwa] at BA FA fz
              have FZ := Lib.hid fz
              clear hbt hbf hwa B4 KB4 fz
              have hsplit : ∃ bt : Int, 1 ≤ bt ∧ bt ≤ 7 ∧ ((¬ j < n1 ∧ bt = 1) ∨ (j < n1 ∧ bt = 1 + lowV (zs.getD j 0) 7)) := by
                have := low_bd (zs.getD j 0) 7 (by omega)
                by_cases h : j < n1
                · exact ⟨_, by omega, by omega, Or.inr ⟨h, rfl⟩⟩
                · exact ⟨1, by omega, by omega, Or.inl ⟨h, rfl⟩⟩
              obtain ⟨bt, hbt1, hbt7, hjs⟩ := hsplit
              have n1' : (0 : Int) ≤ (j : Int) := by omega
              rcases hjs with ⟨hjs, hbt⟩ | ⟨hjs, hbt⟩
              case' inl =>
                subst hbt
                go_upto_region 15 with fail
                rw [HWA.out]
              case' inr =>
                obtain ⟨bb, o, rfl, hcl⟩ := HI.out.at (by omega)
                have x0 := ((B5.out.mono (Nat.le_refl _)).cell (p := ⟨bb, o + j, none⟩) (lt_of_cell (hcl j hjs))).trans (hcl j hjs)
                obtain ⟨z, hz⟩ : ∃ z, zs.getD j 0 = z := ⟨_, rfl⟩
                rw [hz] at x0 hbt
                have hlo := low_bd z 7 (by omega)
                have CLz := Lib.hid (CL.out z)
                obtain ⟨lz, hlz⟩ : ∃ l, lowV z 7 = l := ⟨_, rfl⟩
                rw [hlz] at CLz hbt hlo
                have q1 : IntKind.i64.wrap (1 + lz) = bt := by rw [hbt]; exact IntWalk.i64_in _ (by omega)
                have n2' : (j : Int) < (n1 : Int) := by omega
                clear hcl hz hlz hbt hlo
                go_wp2_with fail
                refine (CLz.out _).mono ?_
                rintro e w6 ⟨rfl, rfl⟩
                clear x0
                go_upto_region 15 with fail
                rw [HWA.out]
              all_goals
                have KB6 := Lib.hid (KB5.out.keep BA.out)
                have G6 := Lib.hid (G5.out.below BA.out)
                have B6 := Lib.hid (B5.out.trans (BA.out.mono B5.out.size))
                have O6 := Lib.hid (owns_below hO.out BA.out)
                obtain ⟨d0, d1, d2⟩ := KB6.out
                obtain ⟨f0, f1⟩ := FA.out
                clear HWA
                rcases Nat.eq_zero_or_pos c with hc0 | hcp
                case' inl =>
                  subst hc0
                  have CNX := Lib.hid (next_form hbt1 hcm fun i b hi hb => CN0.out _ i b hi hb wa G6.out)
                  obtain ⟨wb, hwb⟩ : ∃ x, x = wa := ⟨_, rfl⟩
                  subst hwb
                case' inr =>
                  obtain ⟨i, hi⟩ : ∃ i, i + 1 = c := ⟨c - 1, by omega⟩
                  obtain ⟨bb, o, hae, hcc⟩ := (HoldsK.own O6.out).at (by omega)
                  have hbl := (hO.out.lt bb (by rw [hae]; rfl)).2
                  subst hae
                  obtain ⟨x0, x1⟩ := hcc i (by omega)
                  have hgx : (L.take c).getD i k0 = L.getD i k0 := by
                    rw [List.getD_eq_getElem?_getD, List.getD_eq_getElem?_getD, List.getElem?_take_of_lt (by omega)]
                  rw [hgx] at x0 x1
                  have CNI := Lib.hid (fun w' hg => next_form hbt1 (show i + 1 ≤ m by omega) fun j b hj hb => CN1.out i _ j b (by omega) hj hb w' hg)
                  obtain ⟨x, hx⟩ : ∃ x, L.getD i k0 = x := ⟨_, rfl⟩
                  rw [hx] at x0 x1 CNI
                  rw [hi] at CNI
                  have q2 : IntKind.i64.wrap ((c : Int) - 1) = (i : Int) := by rw [IntWalk.i64_in _ (by omega)]; omega
                  have r1 : ((c : Int) == 0) = false := by simp; omega
                  have q3 : (0 : Int) ≤ (i : Int) := by omega
                  have q4 : (i : Int) < (c : Int) := by omega
                  have BC := Lib.hid (show Below wr.heap.size wr ((wa.setCell ⟨wr.heap.size, 0, none⟩ (.int .i64 x.1)).setCell ⟨wr.heap.size, 1, none⟩ (.string x.2)) from (BA.out.setCell (p := ⟨wr.heap.size, 0, none⟩) (Nat.le_refl _) _).setCell (p := ⟨wr.heap.size, 1, none⟩) (Nat.le_refl _) _)
                  have g0 : ((wa.setCell ⟨wr.heap.size, 0, none⟩ (.int .i64 x.1)).setCell ⟨wr.heap.size, 1, none⟩ (.string x.2)).cell? ⟨wr.heap.size, 0, none⟩ = some (.int .i64 x.1) := by rw [setc_ne (by decide), setc_at f0]
                  have g1 : ((wa.setCell ⟨wr.heap.size, 0, none⟩ (.int .i64 x.1)).setCell ⟨wr.heap.size, 1, none⟩ (.string x.2)).cell? ⟨wr.heap.size, 1, none⟩ = some (.string x.2) := setc_at (by rw [setc_ne (by decide)]; exact f1)
                  obtain ⟨wb, hwb⟩ : ∃ x', (wa.setCell ⟨wr.heap.size, 0, none⟩ (.int .i64 x.1)).setCell ⟨wr.heap.size, 1, none⟩ (.string x.2) = x' := ⟨_, rfl⟩
                  have HWB := Lib.hid hwb
                  rw [hwb] at BC g0 g1
                  have z0 := FZ.out 0
                  have z1 := FZ.out 1
                  clear hcc hgx hx hi hwb CN1
                  go_upto_region 17 with fail
                  rw [HWB.out]
                  have CNX := Lib.hid (CNI.out wb (G5.out.below BC.out))
                  clear f0 f1 d0 d1 d2 BA KB6 G6 B6 O6 x0 x1 z0 z1 CNI HWB
                  have BA := BC
                  have KB6 := Lib.hid (KB5.out.keep BC.out)
                  have G6 := Lib.hid (G5.out.below BC.out)
                  have B6 := Lib.hid (B5.out.trans (BC.out.mono B5.out.size))
                  have O6 := Lib.hid (owns_below hO.out BC.out)
                  obtain ⟨d0, d1, d2⟩ := KB6.out
                all_goals
                  obtain ⟨N, ee, hN1, hN2, hN3, hN4, hN5, CNY⟩ := CNX.out
                  have CNY := Lib.hid CNY
                  have HN3 := Lib.hid hN3
                  have HN4 := Lib.hid hN4
                  have HN5 := Lib.hid hN5
                  clear hN3 hN4 hN5
                  have BW := Lib.hid (hB.out.trans (BA.out.mono hB.out.size))
                  clear CNX CN0 hB BA KB5 G5
                  go_wp2_with fail
                  with_reducible refine CNY.out.mono ?_
                  rintro e w7 ⟨a7, rfl, hc7, hna7, hb7⟩
                  have O7 := Lib.hid (owns_below O6.out hb7)
                  have BW7 := Lib.hid (BW.out.trans (hb7.mono BW.out.size))
                  have NA := Lib.hid (show a7 = none → N = 0 ∧ N = 0 from fun h => ⟨hna7 h, hna7 h⟩)
                  have HCY := Lib.hid (HoldsK.cellsB hc7.holds)
                  have HON := Lib.hid (HoldsK.ones hc7.holds)
                  clear hc7 hna7 hb7 O6 BW CNY d0 d1 d2 KB6 G6 B6
                  rcases HN5.out with ⟨hN, rfl⟩ | hN
                  all_goals
                    go_wp2_with (at_builtin; refine wpList_append_any rfl (.tmp 104) (.tmp 105) 31 rfl w4.heap.size 24 i0 _ 2 24 Try.underlying31 hi0 hz0 hz1 hz2 rfl (by decide) _ _ _ rfl O7.out a7 N N _ rfl NA.out HON.out.2 HCY.out HON.out.1 (by unfold maxLen; omega) (by omega) BW7.out.size ?_; intro a8 c8 w8 hown8 hb8 hnil8)
                    rw [← keysV_app] at hown8
                    first | rw [← List.take_add] at hown8 | (change w8.ownsRow _ _ _ _ _ (keysV (L.take 0 ++ (L.drop 0).take N)) at hown8; rw [← List.take_add] at hown8)
                    try rw [Nat.zero_add] at hown8
                    have O8 := Lib.hid hown8
                    have B8 := Lib.hid (BW7.out.trans hb8)
                    go_roundw
                    case rel => first | exact ⟨j + 1, _, ee, a8, c8, rfl, rfl, by go_num, by omega, by omega, (fun h => by have := HN3.out h; omega), (fun h => by have := HN4.out h; omega), O8, B8⟩ | exact ⟨j + 1, _, true, a8, c8, rfl, rfl, by go_num, by omega, by omega, (fun _ => by have := HN3.out (by trivial); omega), (fun h => by cases h), O8, B8⟩
                    case measure => simp [intOf] <;> omega
        · have CB := Lib.hid (build_bad a n ca ts v w3 (H0.out.below B3.out) (by omega) (fun t ht => by have := HSS.out t ht; omega) hv hv0)
          have hvn : (v != 0) = true := by simpa using hv0
          clear hv
          go_wp2_with fail
          refine CB.out.mono ?_
          rintro e w4 ⟨rfl, hb4⟩
          have B4 := Lib.hid (B3.out.trans (hb4.mono B3.out.size))
          clear hb4
          go_wp2_with fail
          refine (AW.out _).mono ?_
          rintro e w5 ⟨rfl, hb5⟩
          go_wp2_with fail
          go_ret
          exact ⟨rfl, B4.out.trans (hb5.mono B4.out.size)⟩
    · go_wp2_with fail
      refine (AW.out _).mono ?_
      rintro e w3 ⟨rfl, hb3⟩
      go_wp2_with fail
      go_ret
      exact ⟨rfl, B2.out.trans (hb3.mono B2.out.size)⟩
open Go.ChangeShapes Go.WideShapes Go.ChangeAt in
theorem walkBatches_walk {H : Type} {enc : TypeId × Value → H} (W : World) (base : Nat) (v0 v1 v2 : Value) (d0 d1 d2 : DataW H) (p0 p1 p2 : List MemPlace)
    (h0 : DataW.Trod enc Try.prog W 0 (fun _ => true) true 22 v0 d0 p0) (h1 : DataW.Trod enc Try.prog W 0 (fun _ => true) true 44 v1 d1 p1) (h2 : DataW.Trod enc Try.prog W 0 (fun _ => true) true 45 v2 d2 p2)
    (o0 : Value.okWide Try.prog W .any base 22 v0) (o1 : Value.okWide Try.prog W .any base 44 v1) (o2 : Value.okWide Try.prog W .any base 45 v2) :
    Calls Try.prog 5 #[v0, v1, v2] W fun e w' => e = .returned (.bool true) ∧ RowKit.Below W.heap.size W w' := by
  obtain ⟨a0, n0, c0, k0, rfl, x0, y0, z0, b0, s0⟩ := open_texts_arg o0 h0
  obtain ⟨t, k, n, ht, _, _, rfl⟩ := query_arg o1 h1
  obtain ⟨a2, n2, c2, zs, rfl, x2, y2, z2, b2, s2⟩ := open_ints_arg Try.underlying45 Try.underlying3 rfl o2 h2
  unfold maxLen at b2
  exact walkBatches_law a0 n0 c0 k0 t k n a2 n2 c2 zs W x0 x2 z0 b0 (by omega) s0 ht
end Go.Proofs.Ytolggcdlpiedmaa
