/- WalkRenamed: words renamed, what is near is the same, renamed -/
import Derived.Test.YtolggcdlpiedmaaPkI
import Derived.Test.YtolggcdlpiedmaaPkH
import Derived.Test.YtolggcdlpiedmaaPkF
import Derived.Deep.RegionHeld3
namespace Go.Proofs.Ytolggcdlpiedmaa
open Go.RowKit
set_option linter.unusedVariables false
set_option maxRecDepth 20000
def RowsE (w0 : World) (b o c p : Nat) (v0 v1 v2 v3 : Value) (w : World) : Prop := Below w0.heap.size w0 w ∧ w.cell? ⟨b, o, none⟩ = some v0 ∧ w.cell? ⟨b, o + 1, none⟩ = some v1 ∧ w.cell? ⟨c, p, none⟩ = some v2 ∧ w.cell? ⟨c, p + 1, none⟩ = some v3
theorem rowsE_carry {w0 w w' : World} {b o c p : Nat} {v0 v1 v2 v3 : Value} (h : RowsE w0 b o c p v0 v1 v2 v3 w) (hb : Below w.heap.size w w') : RowsE w0 b o c p v0 v1 v2 v3 w' := by
  obtain ⟨h0, h1, h2, h3, h4⟩ := h
  exact ⟨h0.trans (hb.mono h0.size), by rw [hb.cell (p := ⟨b, o, none⟩) (lt_of_cell h1)]; exact h1, by rw [hb.cell (p := ⟨b, o + 1, none⟩) (lt_of_cell h2)]; exact h2, by rw [hb.cell (p := ⟨c, p, none⟩) (lt_of_cell h3)]; exact h3, by rw [hb.cell (p := ⟨c, p + 1, none⟩) (lt_of_cell h4)]; exact h4⟩
def upA (t : Tx) : Tx := runesBytes (upB t t.size)
theorem up_lit (s u : Tx) (w : World) (hs : s.size ≤ 1048576) (hu : upA s = u) :
    Calls Try.prog 32 #[.string s] w fun e w' => e = .returned (.string u) ∧ Below w.heap.size w w' := by subst hu; exact up_any s w hs
theorem strsV_snocU (l : List Tx) (x : Tx) : strsV (l ++ [x]) = strsV l ++ [.string x] := by simp [strsV]
theorem nodes_lit (g : Nat) (st : List GN) (S : Nat → Prop) (n : Nat) (w : World) (h : GAt g st w S) (hn : st.length = n) : Calls Try.prog 33 #[.pointer (some ⟨g, 0, none⟩)] w fun e w' => e = .returned (.int .i64 n) ∧ w = w' := by subst hn; exact gNodes_any g st S w h
set_option maxRecDepth 100000 in
set_option maxHeartbeats 6400000 in
theorem walkRenamed_law (a : Option Addr) (n ca : Nat) (ts : List Tx) (s : Tx) (xd : Int) (w : World) (hl : Lst w a n ca ts) (hn : n ≤ 9223372036854775807) (hsz : ∀ t ∈ ts, t.size ≤ 9223372036854775807) (hs : s.size ≤ 9223372036854775807) :
    Calls Try.prog 11 #[.slice a n ca, .string s, .int .i64 xd] w fun e w' => e = .returned (.bool true) ∧ Below w.heap.size w w' := by
  have H0 := Lib.hid hl
  have AW := Lib.hid (fun w => awakeW_any w)
  obtain ⟨gr, hgr⟩ : ∃ c, greatB ts = c := ⟨_, rfl⟩
  have CG := Lib.hid (great_lit a n ca ts gr w hl.1 hn hsz hgr)
  clear hl
  go_enter Try.func11, Try.ntmps11
  go_wp2_with fail
  refine CG.out.mono ?_
  rintro e w2 ⟨rfl, hb2⟩
  have B2 := Lib.hid hb2
  clear hb2 CG
  cases gr with
  | true =>
    go_wp2_with fail
    refine (AW.out _).mono ?_
    rintro e w3 ⟨rfl, hb3⟩
    go_wp2_with fail
    go_ret
    exact ⟨rfl, B2.out.trans (hb3.mono B2.out.size)⟩
  | false =>
    by_cases hbig : s.size ≤ 16
    · obtain ⟨hl80, hs100⟩ := great_no_iff.1 hgr
      have HSS := Lib.hid hs100
      have hlen : ts.length = n := H0.out.1.len
      obtain ⟨zs, hz⟩ : ∃ z, canonS (wordsOf ts) = z := ⟨_, rfl⟩
      obtain ⟨m, hm⟩ : ∃ m, zs.length = m := ⟨_, rfl⟩
      have hmn : m ≤ n := by
        have h1 := canon_len (wordsOf ts)
        have h2 := wordsOf_len ts
        rw [hz, hm] at h1; omega
      have hZS : SortedS zs := hz ▸ canon_sorted _
      have hZW : ∀ t ∈ zs, wordP t ∧ t.size ≤ 100 := fun t ht => by
        rw [← hz] at ht
        have h1 := mem_canon.1 ht
        unfold wordsOf at h1
        have h2 := List.mem_filter.1 h1
        exact ⟨of_decide_eq_true h2.2, hs100 t h2.1⟩
      have CS := Lib.hid (sorted_lst a n ca ts zs m w2 (H0.out.below B2.out) (by omega) (fun t ht => by have := hs100 t ht; omega) hz hm)
      have HM := Lib.hid hm; have HZS := Lib.hid hZS; have HZW := Lib.hid hZW
      clear hgr hs100 hsz hz hm hZS hZW
      go_wp2_with fail
      refine CS.out.mono ?_
      rintro e w3 ⟨a3, c3, rfl, ho3, hb3⟩
      have B3 := Lib.hid (B2.out.trans (hb3.mono B2.out.size))
      have L3 := Lib.hid (Lst.own ho3)
      clear hb3 ho3 B2 CS
      by_cases hm40 : m ≤ 40
      · obtain ⟨i0, hi0, hz0, hz1, hz2⟩ := info_parts strW_info
        go_wp2_with fail
        go_loopw [8, 9, 10] (fun sv bv iv wr => ∃ (i : Nat) (J : Tx) (av : Option Addr) (cv : Nat), i ≤ m ∧ iv = .int .i64 i ∧ sv = .string J ∧ bv = .slice av i cv ∧ Hid (J = joinT s (zs.take i)) ∧ Hid (wr.ownsRow w3.heap.size 9 1 (.slice av i cv) i (strsV ((zs.take i).map upA))) ∧ Hid (Below w3.heap.size w3 wr)) (fun _ _ iv _ => m - (intOf iv).toNat)
        case atStart => exact ⟨0, s, none, 0, by omega, rfl, rfl, rfl, Lib.hid rfl, Lib.hid (World.ownsRow_nil _ _ _ _), Lib.hid (Below.refl _ _)⟩
        case round =>
          obtain ⟨i, J, av, cv, hi, rfl, rfl, rfl, hJ, hO, hB⟩ := hrel
          have hJs : J.size ≤ 8016 := by
            have h1 := joinT_size (zs.take i) s (fun t ht => (HZW.out t (List.mem_of_mem_take ht)).2)
            rw [← hJ.out, List.length_take, HM.out] at h1; omega
          by_cases hlt : i < m
          · obtain ⟨b, o, rfl, hcl⟩ := L3.out.1.at (by omega)
            have x0 := (hB.out.cell (p := ⟨b, o + i, none⟩) (lt_of_cell (hcl i hlt))).trans (hcl i hlt)
            have htk := take_succ_getD zs ByteArray.empty i (by have := HM.out; omega)
            have hmem := HZW.out _ (getD_memT' zs i (by have := HM.out; omega))
            obtain ⟨x, hx⟩ : ∃ x, zs.getD i ByteArray.empty = x := ⟨_, rfl⟩
            rw [hx] at x0 htk hmem
            have hxs := hmem.2
            obtain ⟨u, hu⟩ : ∃ u, upA x = u := ⟨_, rfl⟩
            have CU := Lib.hid (fun w => up_lit x u w (by omega) hu)
            have HJ := Lib.hid (show J ++ x = joinT s (zs.take (i + 1)) from by rw [htk, joinT_snoc, ← hJ.out])
            have HR := Lib.hid (show strsV ((zs.take (i + 1)).map upA) = strsV ((zs.take i).map upA) ++ [.string u] from by rw [htk, List.map_append, List.map_cons, List.map_nil, hu, strsV_snocU])
            have n1' : (0 : Int) ≤ (i : Int) := by omega
            have n2' : (i : Int) < (m : Int) := by omega
            clear hcl hx htk hmem hu
            go_wp2_with fail
            refine (CU.out _).mono ?_
            rintro e w4 ⟨rfl, hb4⟩
            have B4 := Lib.hid (hB.out.trans (hb4.mono hB.out.size))
            have O4 := Lib.hid (owns_below hO.out hb4)
            clear x0 hb4 hB hO CU
            go_wp2_with (at_builtin; refine wpList_append_any rfl (.tmp 48) (.tmp 54) 22 rfl w3.heap.size 9 i0 _ 1 16 Try.underlying22 hi0 hz0 hz1 hz2 rfl (by decide) _ i _ rfl (O4.out.alloc _) _ 1 1 [.string u] rfl (some_none _) rfl (one_new _ _ _ _) (by simp [Value.oneCell']) (by unfold maxLen; omega) (by omega) (by have := B4.out.size; simp; omega) ?_; intro a5 c5 w5 hown5 hb5 hnil5)
            have O5 := Lib.hid (show w5.ownsRow w3.heap.size 9 1 (.slice a5 (i + 1) c5) (i + 1) (strsV ((zs.take (i + 1)).map upA)) from by rw [HR.out]; exact hown5)
            have B5 := Lib.hid ((B4.out.alloc B4.out.size _).trans hb5)
            clear hown5 hb5 hnil5
            go_roundw
            case rel => exact ⟨i + 1, J ++ x, a5, c5, by omega, by go_num, rfl, rfl, HJ, O5, B5⟩
            case measure => simp [intOf] <;> omega
          · obtain rfl : i = m := by omega
            have HJE := Lib.hid (show J = joinT s zs from by have := hJ.out; rwa [List.take_of_length_le (by have := HM.out; omega)] at this)
            have O4 := Lib.hid (show wr.ownsRow w3.heap.size 9 1 (.slice av i cv) i (strsV (zs.map upA)) from by have := hO.out; rwa [List.take_of_length_le (by have := HM.out; omega)] at this)
            have B4 := Lib.hid (B3.out.trans (hB.out.mono B3.out.size))
            have L4 := Lib.hid (L3.out.below hB.out)
            clear hJ hO hB L3 B3
            go_wp2_with fail
            go_loopw [11] (fun jv ws => ∃ j : Nat, j ≤ J.size ∧ jv = .int .i64 j ∧ Hid (∀ t, t < j → byteS J t < 128) ∧ Hid (Below wr.heap.size wr ws)) (fun jv _ => J.size - (intOf jv).toNat)
            case atStart => exact ⟨0, by omega, rfl, Lib.hid (by intro t ht; omega), Lib.hid (Below.refl _ _)⟩
            case round =>
              obtain ⟨j, hj, rfl, hA, hB⟩ := hrel
              rename World => ws
              have B5 := Lib.hid (B4.out.trans (hB.out.mono B4.out.size))
              by_cases hlj : j < J.size
              · have hby := byteS_at J j hlj
                obtain ⟨b, hb⟩ : ∃ b, byteS J j = b := ⟨_, rfl⟩
                rw [hb] at hby
                have HBB := Lib.hid hb
                clear hb
                by_cases hb7 : 127 < b
                · go_wp2_with fail
                  refine (AW.out _).mono ?_
                  rintro e w6 ⟨rfl, hb6⟩
                  go_wp2_with fail
                  go_ret
                  exact ⟨rfl, B5.out.trans (hb6.mono B5.out.size)⟩
                · have A2 := Lib.hid (show ∀ t, t < j + 1 → byteS J t < 128 from fun t ht => by
                    rcases Nat.lt_or_ge t j with h | h
                    · exact hA.out t h
                    · obtain rfl : t = j := by omega
                      rw [HBB.out]; omega)
                  go_wp2_with fail
                  go_roundw
                  case rel => exact ⟨j + 1, by omega, by go_num, A2, hB⟩
                  case measure => simp [intOf] <;> omega
              · have hasc : AscT J := fun t ht => hA.out t (by omega)
                rw [HJE.out] at hasc
                obtain ⟨hqa, hza⟩ := joinT_asc zs s hasc
                have hqs := asc_small hqa
                have hzs : SmL zs := fun t ht => asc_small (hza t ht)
                have hmap : zs.map upA = zs.map upS := List.map_congr_left fun t ht => asc_up (hza t ht)
                have hv : goodV zs = 0 := goodV_good (by have := HM.out; omega) (fun t ht => (HZW.out t ht).1) HZS.out
                have hv2 := up_goodV hzs hv
                have hok := ok_good hv (fun t ht => (HZW.out t ht).2)
                have hnd : (grS (zs.map upS)).length = (grS zs).length := nodes_up hzs hok
                have hus : ∀ t ∈ zs.map upS, t.size ≤ 100 := fun t ht => by
                  obtain ⟨x, hx, rfl⟩ := List.mem_map.1 ht
                  have h1 := up_bytes (hzs x hx)
                  have h2 := (HZW.out x hx).1.2
                  omega
                have hls : 0 ≤ lenS s ∧ lenS s ≤ 16 := ⟨hqs.1, by have := (lenS_bd s).2; omega⟩
                have hus1 : (upS s).size ≤ 64 := by have := up_bytes hqs; omega
                have hul : lenS (upS s) = lenS s := up_len hqs
                have hup : upA s = upS s := asc_up hqa
                have L5 := Lib.hid (L4.out.below hB.out)
                have O5 := Lib.hid (show Lst ws av i cv (zs.map upS) from by have := Lst.own (owns_below O4.out hB.out); rwa [hmap] at this)
                have CB1 := Lib.hid (buildR_good a3 i c3 zs ws L5.out.1 L5.out.2.2 (by omega) (fun t ht => (HZW.out t ht).2) hv)
                have CB2 := Lib.hid (fun w' hh => buildR_good av i cv (zs.map upS) w' hh O5.out.2.2 (by omega) hus hv2)
                obtain ⟨lo, hi5⟩ := low_bd xd 5 (by omega)
                have CL := Lib.hid (fun w => low_any xd 5 (by omega) (by omega) w)
                obtain ⟨d, hd⟩ : ∃ A, lowV xd 5 = A := ⟨_, rfl⟩
                rw [hd] at CL lo hi5
                obtain ⟨K, hK⟩ : ∃ K, (grS zs).length = K := ⟨_, rfl⟩
                rw [hK] at hnd
                obtain ⟨L, hL⟩ : ∃ L, allK zs s d = L := ⟨_, rfl⟩
                obtain ⟨p, hp⟩ : ∃ p, L.length = p := ⟨_, rfl⟩
                have hM1 : sortK (matchK zs s d) = L := by
                  rw [← hL]; unfold matchK allK
                  rw [if_pos ⟨hls, lo, by omega⟩]
                have hM2 : sortK (matchK (zs.map upS) (upS s) d) = L.map upK := by
                  rw [← hL, ← all_up hqs d hzs HZS.out]; unfold matchK allK
                  rw [if_pos ⟨by omega, lo, by omega⟩]
                have hpm : p ≤ i := by
                  have h2 := matchK_len zs s d
                  rw [← sortK_length, hM1, hp] at h2
                  have := HM.out; omega
                have HS1 := Lib.hid (show restK true (0, ⟨#[]⟩) (matchK zs s d) = L from by unfold restK; rw [if_pos rfl, hM1])
                have HS2 := Lib.hid (show restK true (0, ⟨#[]⟩) (matchK (zs.map upS) (upS s) d) = L.map upK from by unfold restK; rw [if_pos rfl, hM2])
                have HP := Lib.hid hp; have HND := Lib.hid hnd; have HK := Lib.hid hK
                have HLA := Lib.hid (show ∀ x ∈ L, upA x.2 = upS x.2 ∧ x.2.size ≤ 100 from fun x hx => by
                  rw [← hL] at hx
                  have h1 := (allK_mem.1 hx).1
                  exact ⟨asc_up (hza _ h1), (HZW.out _ h1).2⟩)
                obtain ⟨us, hus2⟩ : ∃ u, upS s = u := ⟨_, rfl⟩
                rw [hus2] at HS2 hus1 hup
                have CU := Lib.hid (fun w => up_lit s us w (by omega) hup)
                have CUX := Lib.hid (fun (x : Tx) (u : Tx) (hu : upA x = u) (hx : x.size ≤ 100) w => up_lit x u w (by omega) hu)
                clear hasc hqa hza hqs hzs hmap hv hv2 hok hnd hus hls hul hup hd hK hL hp hM1 hM2 hus2 hA O4 L4 B4 hB
                go_wp2_with fail
                refine (CL.out _).mono ?_
                rintro e w6 ⟨rfl, rfl⟩
                go_wp2_with fail
                refine CB1.out.mono ?_
                rintro e w6 ⟨g, S, rfl, hg, hgA, hb6⟩
                have G6 := Lib.hid hg
                have GA6 := Lib.hid hgA
                have B6 := Lib.hid (B5.out.trans (hb6.mono B5.out.size))
                have O6 := Lib.hid (O5.out.below hb6)
                clear hg hgA hb6 CB1 B5 CL
                go_wp2_with fail
                refine (CB2.out _ O6.out.1).mono ?_
                rintro e w7 ⟨h, S2, rfl, hh, hhA, hb7⟩
                have G7 := Lib.hid (G6.out.below hb7)
                have E7 := Lib.hid hh
                have CN1 := Lib.hid (nodes_lit g (grS zs) S K w7 ((gAt_ok g _).below GA6.out hb7) HK.out)
                have CN2 := Lib.hid (nodes_lit h (grS (zs.map upS)) S2 K w7 hhA HND.out)
                have B7 := Lib.hid (B6.out.trans (hb7.mono B6.out.size))
                clear hh hhA hb7 CB2 B6 O6 G6 GA6
                go_wp2_with fail
                refine CN1.out.mono ?_
                rintro e w8 ⟨rfl, rfl⟩
                go_wp2_with fail
                refine CN2.out.mono ?_
                rintro e w8 ⟨rfl, rfl⟩
                have C1 := Lib.hid (next_c g zs s d true (0, ⟨#[]⟩) 60 L L p true w7 G7.out (by omega) HS1.out (by rw [HP.out]; unfold cntK; omega) (List.take_of_length_le (by rw [HP.out]; omega)) (by rw [HP.out]; exact decide_eq_true rfl))
                clear CN1 CN2
                go_wp2_with fail
                refine C1.out.mono ?_
                rintro e w8 ⟨a8, rfl, hc8, hna8, hb8⟩
                have B8 := Lib.hid (B7.out.trans (hb8.mono B7.out.size))
                have E8 := Lib.hid (E7.out.below hb8)
                have K8 := Lib.hid hc8.holds
                clear hc8 hna8 hb8 C1 B7 E7 G7
                go_wp2_with fail
                refine (CU.out _).mono ?_
                rintro e w9 ⟨rfl, hb9⟩
                have B9 := Lib.hid (B8.out.trans (hb9.mono B8.out.size))
                have E9 := Lib.hid (E8.out.below hb9)
                have K9 := Lib.hid (K8.out.below hb9)
                have C2 := Lib.hid (next_c h (zs.map upS) us d true (0, ⟨#[]⟩) 60 (L.map upK) (L.map upK) p true w9 E9.out (by omega) HS2.out (by rw [List.length_map, HP.out]; unfold cntK; omega) (List.take_of_length_le (by rw [List.length_map, HP.out]; omega)) (by rw [List.length_map, HP.out]; exact decide_eq_true rfl))
                clear hb9 CU B8 E8 K8
                go_wp2_with fail
                refine C2.out.mono ?_
                rintro e w10 ⟨a10, rfl, hc10, hna10, hb10⟩
                have B10 := Lib.hid (B9.out.trans (hb10.mono B9.out.size))
                have K10 := Lib.hid (K9.out.below hb10)
                have Q10 := Lib.hid hc10.holds
                clear hc10 hna10 hb10 C2 B9 E9 K9
                go_wp2_with fail
                go_loopw [20] (fun iv ws => ∃ q : Nat, q ≤ p ∧ iv = .int .i64 q ∧ Hid (Below w10.heap.size w10 ws)) (fun iv _ => p - (intOf iv).toNat)
                case atStart => exact ⟨0, by omega, rfl, Lib.hid (Below.refl _ _)⟩
                case round =>
                  obtain ⟨q, hq, rfl, hB⟩ := hrel
                  rename World => wt
                  have B11 := Lib.hid (B10.out.trans (hB.out.mono B10.out.size))
                  by_cases hlq : q < p
                  · obtain ⟨bb, o, hae, hcc⟩ := (K10.out.below hB.out).at (by omega)
                    subst hae
                    obtain ⟨cb, oc, hae2, hcd⟩ := (Q10.out.below hB.out).at (by omega)
                    subst hae2
                    obtain ⟨x0, x1⟩ := hcc q hlq
                    obtain ⟨y0, y1⟩ := hcd q hlq
                    have hgm : (L.map upK).getD q k0 = upK (L.getD q k0) := by
                      rw [List.getD_eq_getElem?_getD, List.getD_eq_getElem?_getD, List.getElem?_map, List.getElem?_eq_getElem (by have := HP.out; omega)]; rfl
                    have hml : L.getD q k0 ∈ L := by
                      rw [List.getD_eq_getElem?_getD, List.getElem?_eq_getElem (by have := HP.out; omega)]; simp
                    have hla := HLA.out _ hml
                    rw [hgm] at y0 y1
                    obtain ⟨x, hx⟩ : ∃ x, L.getD q k0 = x := ⟨_, rfl⟩
                    rw [hx] at x0 x1 y0 y1 hla
                    obtain ⟨z1, z2⟩ := x
                    obtain ⟨u, hu⟩ : ∃ u, upS z2 = u := ⟨_, rfl⟩
                    simp only [upK, hu] at x0 x1 y0 y1 hla
                    have CX := Lib.hid (fun w => CUX.out z2 u hla.1 hla.2 w)
                    have T := Lib.hid (show RowsE wt bb (o + q * 2) cb (oc + q * 2) (.int .i64 z1) (.string z2) (.int .i64 z1) (.string u) wt from ⟨Below.refl _ _, x0, x1, y0, y1⟩)
                    have n1' : (0 : Int) ≤ (q : Int) := by omega
                    have n2' : (q : Int) < (p : Int) := by omega
                    clear hcc hcd x0 x1 y0 y1 hgm hml hla hx hu
                    go_upto_region 30 with fail
                    go_region_held3 (fun w' => Below wt.heap.size wt w' ∧ w'.cell? ⟨bb, o + q * 2, none⟩ = some (.int .i64 z1) ∧ w'.cell? ⟨bb, o + q * 2 + 1, none⟩ = some (.string z2) ∧ w'.cell? ⟨cb, oc + q * 2, none⟩ = some (.int .i64 z1) ∧ w'.cell? ⟨cb, oc + q * 2 + 1, none⟩ = some (.string u))
                      (first | assumption | exact rowsE_carry T.out (Below.refl _ _).drew | exact rowsE_carry (by assumption) (by assumption))
                      ((go_at_call 32; (with_reducible refine (CX.out _).mono ?_); rintro e w' ⟨rfl, hb11⟩))
                    rename_i TT
                    obtain ⟨hbl, -⟩ := TT
                    have B12 := Lib.hid (hB.out.trans (hbl.mono hB.out.size))
                    clear hb11 hbl T
                    go_wp2_with fail
                    go_roundw
                    case rel => exact ⟨q + 1, by omega, by go_num, B12⟩
                    case measure => simp [intOf] <;> omega
                  · obtain rfl : q = p := by omega
                    go_wp2_with fail
                    refine (AW.out _).mono ?_
                    rintro e w12 ⟨rfl, hb12⟩
                    go_wp2_with fail
                    go_ret
                    exact ⟨rfl, B11.out.trans (hb12.mono B11.out.size)⟩
      · go_wp2_with fail
        refine (AW.out _).mono ?_
        rintro e w4 ⟨rfl, hb4⟩
        go_wp2_with fail
        go_ret
        exact ⟨rfl, B3.out.trans (hb4.mono B3.out.size)⟩
    · go_wp2_with fail
      refine (AW.out _).mono ?_
      rintro e w3 ⟨rfl, hb3⟩
      go_wp2_with fail
      go_ret
      exact ⟨rfl, B2.out.trans (hb3.mono B2.out.size)⟩
open Go.ChangeShapes Go.WideShapes Go.ChangeAt in
open Go.ChangeMaps (open_string) in
theorem walkRenamed_walk {H : Type} {enc : TypeId × Value → H} (W : World) (base : Nat) (v0 v1 v2 : Value) (d0 d1 d2 : DataW H) (p0 p1 p2 : List MemPlace)
    (h0 : DataW.Trod enc Try.prog W 0 (fun _ => true) true 22 v0 d0 p0) (h1 : DataW.Trod enc Try.prog W 0 (fun _ => true) true 9 v1 d1 p1) (h2 : DataW.Trod enc Try.prog W 0 (fun _ => true) true 3 v2 d2 p2)
    (o0 : Value.okWide Try.prog W .any base 22 v0) (o1 : Value.okWide Try.prog W .any base 9 v1) (o2 : Value.okWide Try.prog W .any base 3 v2) :
    Calls Try.prog 11 #[v0, v1, v2] W fun e w' => e = .returned (.bool true) ∧ RowKit.Below W.heap.size W w' := by
  obtain ⟨a0, n0, c0, k0, rfl, x0, y0, z0, b0, s0⟩ := open_texts_arg o0 h0
  obtain ⟨t, rfl, rfl, rfl, ht⟩ := open_string Try.underlying9 o1 h1
  unfold maxLen at ht
  obtain ⟨x2, rfl, rfl, rfl, b2⟩ := open_int Try.underlying3 o2 h2
  exact walkRenamed_law a0 n0 c0 k0 t x2 W ⟨x0, y0, z0⟩ b0 s0 (by omega)
end Go.Proofs.Ytolggcdlpiedmaa
