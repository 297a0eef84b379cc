/- net: what is delivered is what was sent -/
import Derived.Test.YtecdigcadmokfaaPkB
namespace Go.Proofs.Ytecdigcadmokfaa
open Go.RowKit
set_option linter.unusedVariables false
set_option maxRecDepth 20000
theorem keep_sub {U : List NAct} {G L : List GM} (h : ∀ x ∈ G, KeepIn U x) (hl : ∀ x ∈ L, x ∈ G) : ∀ x ∈ L, KeepIn U x := fun x hx => h x (hl x hx)
theorem mem_cut {G : List GM} {i : Nat} : ∀ x ∈ G.take i ++ G.drop (i + 1), x ∈ G := fun x hx => by
  rcases List.mem_append.1 hx with h | h
  · exact List.mem_of_mem_take h
  · exact List.mem_of_mem_drop h
theorem len_cut {G : List GM} {i : Nat} (h : G.length ≤ 20) : (G.take i ++ G.drop (i + 1)).length ≤ 20 := by
  rw [List.length_append, List.length_take, List.length_drop]; omega
theorem sb_info : (Try.prog.info? 33).map (fun i => (i.zero, i.size, i.bytes)) = some (some (.slice none 0 0), 1, 24) := by kernel_rfl
theorem len20 {n : Nat} (h : n ≤ 20) : decide (20 < n) = false := by simp; omega
theorem len20' {n : Nat} (h : n ≤ 20) : decide ((n : Int) > 20) = false := by simp; omega
set_option maxHeartbeats 6400000 in
set_option maxRecDepth 100000 in
theorem netKeeps_any (a : Option Addr) (n cap : Nat) (xs : Nat → NAct) (w : World) (h : HoldsNA w a n xs) (hn : n ≤ 9223372036854775807) :
    Calls Try.prog 4 #[.slice a n cap] w fun e w' => e = .returned (.bool true) ∧ Below w.heap.size w w' := by
  obtain ⟨i0, hi, hz0, hz1, hz2⟩ := info_parts sb_info
  have H := Lib.hid h
  have CG := Lib.hid (greatN_any a n cap xs w h hn)
  clear h
  go_enter Try.func4, Try.ntmps4
  go_wp2_with fail
  refine CG.out.mono ?_
  rintro e w' ⟨z, rfl, rfl, hz⟩
  clear CG
  cases z
  · obtain ⟨hn100, hbn⟩ := hz rfl
    have HBN := Lib.hid hbn
    clear hz hbn
    go_wp2_with fail
    refine (nNew_any 20 _ (by decide)).mono ?_
    rintro e w1 ⟨b, S0, rfl, hq, hS, hb⟩
    have K1 := Lib.hid (show K3 w w1 b none 0 [] [] 0 [] S0 from ⟨hq, by simp, fun x hx => by simp at hx, World.ownsRow_nil _ _ _ _, fun g hg => (by cases hg), hS, hb, fun x hx => by simp at hx⟩)
    clear hq hS hb
    go_wp2_with fail
    go_loopw [5, 6] (fun sv iv wr => ∃ (j : Nat) (av : Option Addr) (cv : Nat) (T : List NAct) (G : List GM) (S : Nat → Prop), j ≤ n ∧ T.length ≤ j ∧ iv = .int .i64 j ∧ sv = .slice av T.length cv ∧ Hid (K3 w wr b av cv T T T.length G S)) (fun _ iv _ => n - (intOf iv).toNat)
    case atStart => exact ⟨0, none, 0, [], [], S0, by omega, by simp, rfl, rfl, K1⟩
    case round =>
      obtain ⟨j, av, cv, T, G, S, hj, hTj, rfl, rfl, hK⟩ := hrel
      clear K1
      by_cases hlt : j < n
      · obtain ⟨ab, ao, rfl, hc⟩ := (H.out.below hK.out.bel).1 (by omega)
        have hX := hc j hlt
        have hok := H.out.2 j hlt
        have hb100 := HBN.out j hlt
        obtain ⟨x, hxx⟩ : ∃ x, xs j = x := ⟨_, rfl⟩
        rw [hxx] at hX hok hb100
        have HOK := Lib.hid hok
        have K0 := Lib.hid (hK.out.more (below_one wr (.cells #[.int .i64 x.do_, .int .i64 x.i, .int .i64 x.j, .int .i64 x.x, .slice x.ba x.bn x.bc] 35)))
        have A0 := Lib.hid (show NActIn (wr.alloc (.cells #[.int .i64 x.do_, .int .i64 x.i, .int .i64 x.j, .int .i64 x.x, .slice x.ba x.bn x.bc] 35)) wr.heap.size 0 x from nactIn_new wr x _ _ _ rfl)
        obtain ⟨x0, x1, x2, x3, x4⟩ := hX
        have NPS := Lib.hid (show ¬ S wr.heap.size from fun hs => by have := hK.out.q.lt _ hs; omega)
        have CL := Lib.hid (low_any x.i 20 (by omega) (by omega))
        have hlb := low_bd x.i 20 (by omega)
        obtain ⟨k, hk⟩ : ∃ k : Nat, lowV x.i 20 = (k : Int) := ⟨(lowV x.i 20).toNat, by omega⟩
        rw [hk] at CL hlb
        have hk20 : k < 20 := by omega
        clear hc hxx hok hK hk hlb
        go_upto_region 11 with fail
        clear x0 x1 x2 x3 x4
        generalize wr.alloc (.cells #[.int .i64 x.do_, .int .i64 x.i, .int .i64 x.j, .int .i64 x.x, .slice x.ba x.bn x.bc] 35) = w3 at *
        generalize wr.heap.size = p at *
        obtain ⟨x0, x1, x2, x3, x4⟩ := A0.out
        simp only [Nat.zero_add] at x1 x2 x3 x4
        go_wp2_with fail
        refine (CL.out _).mono ?_
        rintro e w' ⟨rfl, rfl⟩
        clear CL
        have hG20 := K0.out.len
        by_cases hd0 : x.do_ = 0
        · have d0 : (x.do_ == 0) = true := by simpa using hd0
          have HB3 := Lib.hid (show HoldsB w3 x.ba x.bn x.bs from HOK.out.1.below K0.out.bel)
          have HBS := Lib.hid (show HoldsB (w3.setCell ⟨b, 1, none⟩ (.int .i64 ((T.length : Int) + 1))) x.ba x.bn x.bs from by
            refine ⟨⟨HB3.out.1.1, fun h0 => ?_⟩, HB3.out.2⟩
            obtain ⟨fb, fo, e1, hc⟩ := HOK.out.1.1.2 h0
            have hlt := lt_of_cell (hc 0 h0)
            obtain ⟨fb2, fo2, e2, hc2⟩ := HB3.out.1.2 h0
            rw [e1] at e2
            injection e2 with e2; injection e2 with e2 e3
            subst e2 e3
            exact ⟨fb, fo, e1, fun i hi => (cset_far (fun e => by have := K0.out.lo b K0.out.q.has; omega)).trans (hc2 i hi)⟩)
          clear hd0
          by_cases hfull : G.length < 20
          · have CS := Lib.hid (nSend_core 0 1 x.ba x.bn x.bc x.bs b w3 K0.out.q (by omega) (by omega) (by decide) HBS.out HOK.out.2.1 (by omega))
            go_wp2_with fail
            refine CS.out.mono ?_
            rintro e w4 ⟨rfl, y, S', y1, y2, y3, y4, y5, y6, q4, s4, t4⟩
            have K4 := Lib.hid (K0.out.turn (U' := T ++ [x]) q4 (by simp; omega) (fun z hz => by
              rcases List.mem_append.1 hz with hz | hz
              · exact (K0.out.k z hz).app x
              · simp at hz; subst hz
                refine ⟨T.length, by simp, y1, y2, y3, by rw [y4, y5], by rw [y4, HOK.out.1.len]; omega, Or.inl ⟨y6, ?_⟩⟩
                rw [y5, List.getD_eq_getElem?_getD, List.getElem?_append_right (Nat.le_refl _)]; simp) s4 t4)
            have A4 := Lib.hid (A0.out.of (w' := w4) fun i => t4.cell (lt_of_cell A0.out.1) (fun hs => NPS.out hs))
            clear q4 s4 t4 y1 y2 y3 y4 y5 y6 CS
            obtain ⟨u0, u1, u2, u3, u4⟩ := A4.out
            simp only [Nat.zero_add] at u1 u2 u3 u4
            have e1 : ((T.length : Int) != (T.length : Int)) = false := by simp
            clear x0 x1 x2 x3 x4
            go_wp2_with (at_builtin; refine wpList_append_lies _ rfl (.tmp 128) (.tmp 131) 56 rfl w.heap.size 33 i0 _ 1 24 Try.underlying56 hi hz0 hz1 hz2 rfl (by omega) (.slice av T.length cv) T.length (sentV T) (by rfl) (K4.out.o.alloc _) ⟨w4.heap.size, 0, none⟩ 1 1 [.slice x.ba x.bn x.bc] (by rfl) (by rfl) (World.news_of_block (cs := #[.slice x.ba x.bn x.bc]) (t := 33) (fr := (0, 0)) (heap_alloc_new w4 _)) (by simp [Value.oneCell']) (by omega) (by unfold maxLen; omega) (by omega) (by have := K4.out.bel.size; simp; omega) (w4.heap.size + 1) (by simp) ?_; intro g3 c3 w5 hown5 hgrow5 hat5 hlt5)
            have K5 := Lib.hid (show K3 w w5 b (some ⟨g3, 0, none⟩) c3 (T ++ [x]) (T ++ [x]) ((T ++ [x]).length : Int) (G ++ [y]) S' from by
              have := K4.out.grow hown5 hgrow5 hat5 (by omega) ⟨HOK.out.1, hb100⟩
              rw [List.length_append]; simpa using this)
            clear hown5 hgrow5 hat5 hlt5 u0 u1 u2 u3 u4 e1
            obtain ⟨r, hr⟩ : ∃ r, (G ++ [y]).length = r := ⟨_, rfl⟩
            have hr20 : r ≤ 20 := by rw [← hr]; exact K5.out.len
            have c1 := len20 hr20
            have c2 := len20' hr20
            have CN := Lib.hid (show Calls Try.prog 26 #[.pointer (some ⟨b, 0, none⟩)] _ fun e w'' => e = .returned (.int .i64 r) ∧ _ = w'' from hr ▸ nLen_any b _ K5.out.q)
            clear hr hr20
            go_wp2_with fail
            refine CN.out.mono ?_
            rintro e w' ⟨rfl, rfl⟩
            go_wp2_with fail
            go_roundw
            case rel => exact ⟨j + 1, _, _, _, _, _, by omega, by simp; omega, by go_num, by simp, K5⟩
            case measure => simp [intOf] <;> omega
          · have CS := Lib.hid (nSend_full 0 1 (.slice x.ba x.bn x.bc) b w3 K0.out.q (by omega) (by omega))
            go_wp2_with fail
            refine CS.out.mono ?_
            rintro e w4 ⟨rfl, q4, t4⟩
            have K4 := Lib.hid (K0.out.turn (U' := T ++ [x]) q4 hG20 (fun z hz => (K0.out.k z hz).app x) (fun k hk => Or.inl hk) t4)
            have A4 := Lib.hid (A0.out.of (w' := w4) fun i => t4.cell (lt_of_cell A0.out.1) (fun hs => NPS.out hs))
            clear q4 t4 CS
            obtain ⟨u0, u1, u2, u3, u4⟩ := A4.out
            simp only [Nat.zero_add] at u1 u2 u3 u4
            have e1 : ((T.length : Int) != (T.length : Int)) = false := by simp
            clear x0 x1 x2 x3 x4
            go_wp2_with (at_builtin; refine wpList_append_lies _ rfl (.tmp 128) (.tmp 131) 56 rfl w.heap.size 33 i0 _ 1 24 Try.underlying56 hi hz0 hz1 hz2 rfl (by omega) (.slice av T.length cv) T.length (sentV T) (by rfl) (K4.out.o.alloc _) ⟨w4.heap.size, 0, none⟩ 1 1 [.slice x.ba x.bn x.bc] (by rfl) (by rfl) (World.news_of_block (cs := #[.slice x.ba x.bn x.bc]) (t := 33) (fr := (0, 0)) (heap_alloc_new w4 _)) (by simp [Value.oneCell']) (by omega) (by unfold maxLen; omega) (by omega) (by have := K4.out.bel.size; simp; omega) (w4.heap.size + 1) (by simp) ?_; intro g3 c3 w5 hown5 hgrow5 hat5 hlt5)
            have K5 := Lib.hid (show K3 w w5 b (some ⟨g3, 0, none⟩) c3 (T ++ [x]) (T ++ [x]) ((T ++ [x]).length : Int) G S from by
              have := K4.out.grow hown5 hgrow5 hat5 (by omega) ⟨HOK.out.1, hb100⟩
              rw [List.length_append]; simpa using this)
            clear hown5 hgrow5 hat5 hlt5 u0 u1 u2 u3 u4 e1
            obtain ⟨r, hr⟩ : ∃ r, (G).length = r := ⟨_, rfl⟩
            have hr20 : r ≤ 20 := by rw [← hr]; exact K5.out.len
            have c1 := len20 hr20
            have c2 := len20' hr20
            have CN := Lib.hid (show Calls Try.prog 26 #[.pointer (some ⟨b, 0, none⟩)] _ fun e w'' => e = .returned (.int .i64 r) ∧ _ = w'' from hr ▸ nLen_any b _ K5.out.q)
            clear hr hr20
            go_wp2_with fail
            refine CN.out.mono ?_
            rintro e w' ⟨rfl, rfl⟩
            go_wp2_with fail
            go_roundw
            case rel => exact ⟨j + 1, _, _, _, _, _, by omega, by simp; omega, by go_num, by simp, K5⟩
            case measure => simp [intOf] <;> omega
        · have d0 : (x.do_ == 0) = false := by simpa using hd0
          clear hd0
          by_cases hd2 : x.do_ = 2
          · have d2 : (x.do_ == 2) = true := by simpa using hd2
            clear hd2
            by_cases hkl : k < G.length
            · have CS := Lib.hid (nDrop_in k _ b w3 K0.out.q hkl (by omega) rfl)
              go_wp2_with fail
              refine CS.out.mono ?_
              rintro e w5 ⟨rfl, q5, t5⟩
              have K5 := Lib.hid (K0.out.turn q5 (len_cut hG20) (keep_sub K0.out.k mem_cut) (fun k hk => Or.inl hk) t5)
              clear q5 t5 CS x0 x1 x2 x3 x4
              obtain ⟨r, hr⟩ : ∃ r, (G.take k ++ G.drop (k + 1)).length = r := ⟨_, rfl⟩
              have hr20 : r ≤ 20 := by rw [← hr]; exact K5.out.len
              have c1 := len20 hr20
              have c2 := len20' hr20
              have CN := Lib.hid (show Calls Try.prog 26 #[.pointer (some ⟨b, 0, none⟩)] _ fun e w'' => e = .returned (.int .i64 r) ∧ _ = w'' from hr ▸ nLen_any b _ K5.out.q)
              clear hr hr20
              go_wp2_with fail
              refine CN.out.mono ?_
              rintro e w' ⟨rfl, rfl⟩
              go_wp2_with fail
              go_roundw
              case rel => exact ⟨j + 1, _, _, _, _, _, by omega, by omega, by go_num, rfl, K5⟩
              case measure => simp [intOf] <;> omega
            · have CS := Lib.hid (nDrop_out k b w3 K0.out.q (by omega))
              go_wp2_with fail
              refine CS.out.mono ?_
              rintro e w5 ⟨rfl, hb⟩
              have K5 := Lib.hid (K0.out.more hb)
              clear hb CS x0 x1 x2 x3 x4
              obtain ⟨r, hr⟩ : ∃ r, (G).length = r := ⟨_, rfl⟩
              have hr20 : r ≤ 20 := by rw [← hr]; exact K5.out.len
              have c1 := len20 hr20
              have c2 := len20' hr20
              have CN := Lib.hid (show Calls Try.prog 26 #[.pointer (some ⟨b, 0, none⟩)] _ fun e w'' => e = .returned (.int .i64 r) ∧ _ = w'' from hr ▸ nLen_any b _ K5.out.q)
              clear hr hr20
              go_wp2_with fail
              refine CN.out.mono ?_
              rintro e w' ⟨rfl, rfl⟩
              go_wp2_with fail
              go_roundw
              case rel => exact ⟨j + 1, _, _, _, _, _, by omega, by omega, by go_num, rfl, K5⟩
              case measure => simp [intOf] <;> omega
          · have d2 : (x.do_ == 2) = false := by simpa using hd2
            clear hd2
            by_cases hd3 : x.do_ = 3
            · have d3 : (x.do_ == 3) = true := by simpa using hd3
              clear hd3
              by_cases hkl : k < G.length
              · by_cases hfull : G.length < 20
                · obtain ⟨y, hy⟩ : ∃ y, G.getD k gm0 = y := ⟨_, rfl⟩
                  have hyk := K0.out.k y (by rw [← hy, List.getD_eq_getElem?_getD, List.getElem?_eq_getElem hkl]; simp)
                  have HYK := Lib.hid hyk
                  have CS := Lib.hid (nDouble_in k y b w3 K0.out.q hkl hy (by omega) (by decide) (by obtain ⟨_, _, _, _, _, _, h6, _⟩ := hyk; omega))
                  clear hyk hy
                  go_wp2_with fail
                  refine CS.out.mono ?_
                  rintro e w5 ⟨rfl, fa, fc, S', q5, s5, t5⟩
                  have K5 := Lib.hid (K0.out.turn (U' := T) q5 (by simp; omega) (fun z hz => by
                    rcases List.mem_append.1 hz with hz | hz
                    · exact K0.out.k z hz
                    · simp at hz; subst hz
                      obtain ⟨i, h1, h2, h3, h4, h5, h6, h7⟩ := HYK.out
                      exact ⟨i, h1, h2, h3, h4, rfl, by rw [← h5]; exact h6, h7⟩) s5 t5)
                  clear q5 s5 t5 CS x0 x1 x2 x3 x4
                  obtain ⟨r, hr⟩ : ∃ r, (G ++ [(⟨y.id, y.frm, y.dst, fa, y.bs.length, fc, y.sp, y.bs⟩ : GM)]).length = r := ⟨_, rfl⟩
                  have hr20 : r ≤ 20 := by rw [← hr]; exact K5.out.len
                  have c1 := len20 hr20
                  have c2 := len20' hr20
                  have CN := Lib.hid (show Calls Try.prog 26 #[.pointer (some ⟨b, 0, none⟩)] _ fun e w'' => e = .returned (.int .i64 r) ∧ _ = w'' from hr ▸ nLen_any b _ K5.out.q)
                  clear hr hr20
                  go_wp2_with fail
                  refine CN.out.mono ?_
                  rintro e w' ⟨rfl, rfl⟩
                  go_wp2_with fail
                  go_roundw
                  case rel => exact ⟨j + 1, _, _, _, _, _, by omega, by omega, by go_num, rfl, K5⟩
                  case measure => simp [intOf] <;> omega
                · have CS := Lib.hid (nDouble_full k b w3 K0.out.q ⟨by omega, by omega⟩ (by omega))
                  go_wp2_with fail
                  refine CS.out.mono ?_
                  rintro e w5 ⟨rfl, hb⟩
                  have K5 := Lib.hid (K0.out.more hb)
                  clear hb CS x0 x1 x2 x3 x4
                  obtain ⟨r, hr⟩ : ∃ r, (G).length = r := ⟨_, rfl⟩
                  have hr20 : r ≤ 20 := by rw [← hr]; exact K5.out.len
                  have c1 := len20 hr20
                  have c2 := len20' hr20
                  have CN := Lib.hid (show Calls Try.prog 26 #[.pointer (some ⟨b, 0, none⟩)] _ fun e w'' => e = .returned (.int .i64 r) ∧ _ = w'' from hr ▸ nLen_any b _ K5.out.q)
                  clear hr hr20
                  go_wp2_with fail
                  refine CN.out.mono ?_
                  rintro e w' ⟨rfl, rfl⟩
                  go_wp2_with fail
                  go_roundw
                  case rel => exact ⟨j + 1, _, _, _, _, _, by omega, by omega, by go_num, rfl, K5⟩
                  case measure => simp [intOf] <;> omega
              · have CS := Lib.hid (nDouble_out k b w3 K0.out.q (by omega))
                go_wp2_with fail
                refine CS.out.mono ?_
                rintro e w5 ⟨rfl, hb⟩
                have K5 := Lib.hid (K0.out.more hb)
                clear hb CS x0 x1 x2 x3 x4
                obtain ⟨r, hr⟩ : ∃ r, (G).length = r := ⟨_, rfl⟩
                have hr20 : r ≤ 20 := by rw [← hr]; exact K5.out.len
                have c1 := len20 hr20
                have c2 := len20' hr20
                have CN := Lib.hid (show Calls Try.prog 26 #[.pointer (some ⟨b, 0, none⟩)] _ fun e w'' => e = .returned (.int .i64 r) ∧ _ = w'' from hr ▸ nLen_any b _ K5.out.q)
                clear hr hr20
                go_wp2_with fail
                refine CN.out.mono ?_
                rintro e w' ⟨rfl, rfl⟩
                go_wp2_with fail
                go_roundw
                case rel => exact ⟨j + 1, _, _, _, _, _, by omega, by omega, by go_num, rfl, K5⟩
                case measure => simp [intOf] <;> omega
            · have d3 : (x.do_ == 3) = false := by simpa using hd3
              clear hd3
              by_cases hd4 : x.do_ = 4
              · have d4 : (x.do_ == 4) = true := by simpa using hd4
                clear hd4
                by_cases hkl : k < G.length
                · obtain ⟨y, hy⟩ : ∃ y, G.getD k gm0 = y := ⟨_, rfl⟩
                  have hyk := K0.out.k y (by rw [← hy, List.getD_eq_getElem?_getD, List.getElem?_eq_getElem hkl]; simp)
                  have HYK := Lib.hid hyk
                  by_cases hno : y.sp = true ∨ y.fn = 0
                  · have CS := Lib.hid (nSpoil_no k x.j x.x y b w3 K0.out.q hkl hy hno)
                    clear hno hyk hy
                    go_wp2_with fail
                    refine CS.out.mono ?_
                    rintro e w5 ⟨rfl, rfl⟩
                    have K5 := Lib.hid K0.out
                    clear CS x0 x1 x2 x3 x4
                    obtain ⟨r, hr⟩ : ∃ r, (G).length = r := ⟨_, rfl⟩
                    have hr20 : r ≤ 20 := by rw [← hr]; exact K5.out.len
                    have c1 := len20 hr20
                    have c2 := len20' hr20
                    have CN := Lib.hid (show Calls Try.prog 26 #[.pointer (some ⟨b, 0, none⟩)] _ fun e w'' => e = .returned (.int .i64 r) ∧ _ = w'' from hr ▸ nLen_any b _ K5.out.q)
                    clear hr hr20
                    go_wp2_with fail
                    refine CN.out.mono ?_
                    rintro e w' ⟨rfl, rfl⟩
                    go_wp2_with fail
                    go_roundw
                    case rel => exact ⟨j + 1, _, _, _, _, _, by omega, by omega, by go_num, rfl, K5⟩
                    case measure => simp [intOf] <;> omega
                  · have hsp : y.sp = false := by cases hs : y.sp with
                      | false => rfl
                      | true => exact absurd (Or.inl hs) hno
                    have hfn : 0 < y.fn := Nat.pos_of_ne_zero (fun h => hno (Or.inr h))
                    have HFN := Lib.hid hfn; have HSP := Lib.hid hsp
                    have CS := Lib.hid (nSpoil_in k x.j x.x y b w3 K0.out.q hkl hy hsp hfn (by obtain ⟨_, _, _, _, _, _, h6, _⟩ := hyk; omega) (by omega))
                    clear hno hsp hfn hyk hy
                    go_wp2_with fail
                    refine CS.out.mono ?_
                    rintro e w5 ⟨rfl, fa, fc, S', q5, s5, t5⟩
                    have K5 := Lib.hid (K0.out.turn (U' := T) q5 (by simp; omega) (fun z hz => by
                      rcases List.mem_or_eq_of_mem_set hz with hz | rfl
                      · exact K0.out.k z hz
                      · obtain ⟨i, h1, h2, h3, h4, h5, h6, h7⟩ := HYK.out
                        have e1 : y.bs = (T.getD i nact0).bs := by
                          rcases h7 with h7 | h7
                          · exact h7.2
                          · rw [HSP.out] at h7; cases h7.1
                        refine ⟨i, h1, h2, h3, h4, rfl, by show (Dm.turned y.bs x.j x.x).length ≤ 100; rw [Dm.turned_len, ← h5]; exact h6, Or.inr ⟨rfl, ?_, x.j, x.x, ?_⟩⟩
                        · rw [← e1, ← h5]; exact HFN.out
                        · show Dm.turned y.bs x.j x.x = _; rw [e1]) s5 t5)
                    clear q5 s5 t5 CS x0 x1 x2 x3 x4
                    obtain ⟨r, hr⟩ : ∃ r, (G.set k (⟨y.id, y.frm, y.dst, fa, (Dm.turned y.bs x.j x.x).length, fc, true, Dm.turned y.bs x.j x.x⟩ : GM)).length = r := ⟨_, rfl⟩
                    have hr20 : r ≤ 20 := by rw [← hr]; exact K5.out.len
                    have c1 := len20 hr20
                    have c2 := len20' hr20
                    have CN := Lib.hid (show Calls Try.prog 26 #[.pointer (some ⟨b, 0, none⟩)] _ fun e w'' => e = .returned (.int .i64 r) ∧ _ = w'' from hr ▸ nLen_any b _ K5.out.q)
                    clear hr hr20
                    go_wp2_with fail
                    refine CN.out.mono ?_
                    rintro e w' ⟨rfl, rfl⟩
                    go_wp2_with fail
                    go_roundw
                    case rel => exact ⟨j + 1, _, _, _, _, _, by omega, by omega, by go_num, rfl, K5⟩
                    case measure => simp [intOf] <;> omega
                · have CS := Lib.hid (nSpoil_out k x.j x.x b w3 K0.out.q (by omega))
                  go_wp2_with fail
                  refine CS.out.mono ?_
                  rintro e w5 ⟨rfl, rfl⟩
                  have K5 := Lib.hid K0.out
                  clear CS x0 x1 x2 x3 x4
                  obtain ⟨r, hr⟩ : ∃ r, (G).length = r := ⟨_, rfl⟩
                  have hr20 : r ≤ 20 := by rw [← hr]; exact K5.out.len
                  have c1 := len20 hr20
                  have c2 := len20' hr20
                  have CN := Lib.hid (show Calls Try.prog 26 #[.pointer (some ⟨b, 0, none⟩)] _ fun e w'' => e = .returned (.int .i64 r) ∧ _ = w'' from hr ▸ nLen_any b _ K5.out.q)
                  clear hr hr20
                  go_wp2_with fail
                  refine CN.out.mono ?_
                  rintro e w' ⟨rfl, rfl⟩
                  go_wp2_with fail
                  go_roundw
                  case rel => exact ⟨j + 1, _, _, _, _, _, by omega, by omega, by go_num, rfl, K5⟩
                  case measure => simp [intOf] <;> omega
              · have d4 : (x.do_ == 4) = false := by simpa using hd4
                clear hd4
                by_cases hkl : k < G.length
                · obtain ⟨y, hy⟩ : ∃ y, G.getD k gm0 = y := ⟨_, rfl⟩
                  have hyk := K0.out.k y (by rw [← hy, List.getD_eq_getElem?_getD, List.getElem?_eq_getElem hkl]; simp)
                  have HYK := Lib.hid hyk
                  have CS := Lib.hid (nDeliver_in k y b w3 K0.out.q hkl (by omega) hy)
                  clear hyk hy
                  go_wp2_with fail
                  refine CS.out.mono ?_
                  rintro e w4 ⟨rfl, q5, t5, hB⟩
                  have K5 := Lib.hid ((K0.out.turn q5 (len_cut hG20) (keep_sub K0.out.k mem_cut) (fun k hk => Or.inl hk) t5).more (below_one w4 (.cells #[.int .i64 y.id, .int .i64 y.frm, .int .i64 y.dst, .slice y.fa y.fn y.fc, .bool y.sp] 42)))
                  have A5 := Lib.hid (show GmIn (w4.alloc (.cells #[.int .i64 y.id, .int .i64 y.frm, .int .i64 y.dst, .slice y.fa y.fn y.fc, .bool y.sp] 42)) w4.heap.size y from gmIn_new w4 y _ _ _ rfl)
                  have B5 := Lib.hid (hB.below (below_one w4 (.cells #[.int .i64 y.id, .int .i64 y.frm, .int .i64 y.dst, .slice y.fa y.fn y.fc, .bool y.sp] 42)))
                  clear q5 t5 hB CS x0 x1 x2 x3 x4
                  go_upto_region 15 with fail
                  generalize w4.alloc (.cells #[.int .i64 y.id, .int .i64 y.frm, .int .i64 y.dst, .slice y.fa y.fn y.fc, .bool y.sp] 42) = w5 at *
                  generalize w4.heap.size = p5 at *
                  obtain ⟨id, frm, dst, fa, fn, fc, sp, bs⟩ := y
                  obtain ⟨q, hq, h2, h3, h4, h5, h6, h7⟩ := HYK.out
                  simp only at h2 h3 h4 h5 h6 h7
                  subst h2 h3 h4
                  obtain ⟨tq, htq⟩ : ∃ tq, T.getD q nact0 = tq := ⟨_, rfl⟩
                  have hfr := K5.out.fr tq (by rw [← htq, List.getD_eq_getElem?_getD, List.getElem?_eq_getElem hq]; simp)
                  have hcell := sentV_at T q hq
                  rw [htq] at h7 hcell
                  obtain ⟨pos, hD, hsp⟩ : ∃ pos, parts bs tq.bs pos ∧ sp = decide (pos < bs.length) := by
                    rcases h7 with ⟨e1, e2⟩ | ⟨e1, e2, a1, a2, e3⟩
                    · exact ⟨bs.length, by rw [← e2]; exact parts_same bs, by rw [e1]; simp⟩
                    · have := parts_turned tq.bs a1 a2 e2
                      refine ⟨Dm.k tq.bs.length a1, by rw [e3]; exact this.1, ?_⟩
                      rw [e1, e3, Dm.turned_len]; simp [this.2]
                  have hlq := hfr.1.len
                  obtain ⟨m, hm⟩ : ∃ m, bs.length = m := ⟨_, rfl⟩
                  have hbn2 : tq.bn = m := by rw [← hlq, ← hD.1, hm]
                  obtain ⟨g, rfl⟩ : ∃ g, av = some ⟨g, 0, none⟩ := by
                    obtain ⟨g, cap', hv⟩ := Joins.ownsRow_form K5.out.o (by omega)
                    simp only [Value.slice.injEq] at hv
                    exact ⟨g, hv.1⟩
                  have hsc := (K5.out.o.cellAt q (by omega)).trans hcell
                  have HF := Lib.hid (show HoldsB w5 fa fn bs from B5.out)
                  have HT := Lib.hid (show HoldsB w5 tq.ba tq.bn tq.bs from hfr.1.below K5.out.bel)
                  obtain ⟨t0, t1, t2, t3, ba, bn, bc, tbs⟩ := tq
                  simp only at hsc HT hD hbn2
                  rw [hm] at h5 hsp
                  subst h5 hbn2
                  have HD := Lib.hid hD; have HM := Lib.hid hm
                  have HSC := Lib.hid hsc
                  have A6 := Lib.hid (show GmIn w5 p5 ⟨q, 0, 1, fa, bn, fc, sp, bs⟩ from A5.out)
                  obtain ⟨u0, u1, u2, u3, u4⟩ := A6.out
                  simp only at u0 u1 u2 u3 u4
                  have n1 : decide ((q : Int) < 0) = false := decide_eq_false (by omega)
                  have n2 : decide ((q : Int) ≥ (T.length : Int)) = false := decide_eq_false (by omega)
                  have n2' : decide (T.length ≤ q) = false := decide_eq_false (by omega)
                  have n3 : ((bn : Int) != (bn : Int)) = false := by simp
                  have n4 : (0 : Int) ≤ (q : Int) := by omega
                  have n5 : (q : Int) < (T.length : Int) := by omega
                  have lp5 := lt_of_cell u0
                  clear h7 htq hfr hcell hlq hD hm B5 A5 HYK hkl
                  go_quiet (fail)
                  go_wp2_with fail
                  go_loopw [13, 14] (fun uv iv wz => ∃ (i : Nat) (cc : Int), i ≤ bn ∧ iv = .int .i64 i ∧ uv = .int .i64 cc ∧ Hid (cc = if pos < i then 1 else 0) ∧ Hid (Below w5.heap.size w5 wz)) (fun _ iv _ => bn - (intOf iv).toNat)
                  case atStart => exact ⟨0, 0, by omega, rfl, rfl, Lib.hid rfl, Lib.hid (below_drewN _ _)⟩
                  case round =>
                    obtain ⟨i, cc, hi', rfl, rfl, hC, hB2⟩ := hrel
                    rename World => wz
                    obtain ⟨u0, u1, u2, u3, u4⟩ := A6.out.below hB2.out
                    simp only at u0 u1 u2 u3 u4
                    by_cases hib : i < bn
                    · obtain ⟨fb, fo, rfl, hc1⟩ := (HF.out.below hB2.out).at (by omega)
                      obtain ⟨tb, toff, rfl, hc2⟩ := (HT.out.below hB2.out).at (by omega)
                      have c1 := hc1 i hib
                      have c2 := hc2 i hib
                      have c3 := (hB2.out.cell (p := ⟨g, q, none⟩) (lt_of_cell HSC.out)).trans HSC.out
                      have hdi := HD.out.2 i (by rw [HM.out]; exact hib)
                      obtain ⟨u, hu⟩ : ∃ u, bs.getD i 0 = u := ⟨_, rfl⟩
                      obtain ⟨v, hv⟩ : ∃ v, tbs.getD i 0 = v := ⟨_, rfl⟩
                      rw [hu] at c1 hdi
                      rw [hv] at c2 hdi
                      have j1 : (0 : Int) ≤ (i : Int) := by omega
                      have j2 : (i : Int) < (bn : Int) := by omega
                      clear hc1 hc2 hu hv
                      by_cases hip : i = pos
                      · have m1 : ((u : Int) != (v : Int)) = true := by
                          have := hdi.2 hip
                          have h3 : (u : Int) ≠ (v : Int) := by omega
                          simpa using h3
                        obtain rfl : cc = 0 := by rw [hC.out, if_neg (by omega)]
                        have HC2 := Lib.hid (show (1 : Int) = if pos < i + 1 then 1 else 0 from by rw [if_pos (by omega)])
                        clear hdi hC hip
                        go_wp2_with fail
                        go_quiet (fail)
                        go_wp2_with fail
                        go_roundw
                        case rel => exact ⟨i + 1, 1, by omega, by go_num, rfl, HC2, Lib.hid (hB2.out.trans ((below_drewN _ _).mono hB2.out.size))⟩
                        case measure => simp [intOf] <;> omega
                      · have m1 : ((u : Int) != (v : Int)) = false := by
                          have : ¬ u ≠ v := fun h => hip (hdi.1 h)
                          have h3 : (u : Int) = (v : Int) := by omega
                          simpa using h3
                        have HC2 := Lib.hid (show cc = if pos < i + 1 then 1 else 0 from by
                          rw [hC.out]
                          by_cases e : pos < i
                          · rw [if_pos e, if_pos (by omega)]
                          · rw [if_neg e, if_neg (by omega)])
                        clear hdi hC hip
                        go_wp2_with fail
                        go_quiet (fail)
                        go_wp2_with fail
                        go_roundw
                        case rel => exact ⟨i + 1, cc, by omega, by go_num, rfl, HC2, Lib.hid (hB2.out.trans ((below_drewN _ _).mono hB2.out.size))⟩
                        case measure => simp [intOf] <;> omega
                    · obtain rfl : i = bn := by omega
                      have K6 := Lib.hid (K5.out.more hB2.out)
                      clear K5
                      have K5 := K6
                      clear K6
                      by_cases hpm : pos < i
                      · obtain rfl : cc = 1 := by rw [hC.out, if_pos hpm]
                        obtain rfl : sp = true := by rw [hsp, decide_eq_true hpm]
                        clear hC hsp hpm
                        obtain ⟨r, hr⟩ : ∃ r, (G.take k ++ G.drop (k + 1)).length = r := ⟨_, rfl⟩
                        have hr20 : r ≤ 20 := by rw [← hr]; exact K5.out.len
                        have c1 := len20 hr20
                        have c2 := len20' hr20
                        have CN := Lib.hid (show Calls Try.prog 26 #[.pointer (some ⟨b, 0, none⟩)] _ fun e w'' => e = .returned (.int .i64 r) ∧ _ = w'' from hr ▸ nLen_any b _ K5.out.q)
                        clear hr hr20
                        go_wp2_with fail
                        refine CN.out.mono ?_
                        rintro e w' ⟨rfl, rfl⟩
                        go_wp2_with fail
                        go_roundw
                        case rel => exact ⟨j + 1, _, _, _, _, _, by omega, by omega, by go_num, rfl, K5⟩
                        case measure => simp [intOf] <;> omega
                      · obtain rfl : cc = 0 := by rw [hC.out, if_neg hpm]
                        obtain rfl : sp = false := by rw [hsp, decide_eq_false hpm]
                        clear hC hsp hpm
                        obtain ⟨r, hr⟩ : ∃ r, (G.take k ++ G.drop (k + 1)).length = r := ⟨_, rfl⟩
                        have hr20 : r ≤ 20 := by rw [← hr]; exact K5.out.len
                        have c1 := len20 hr20
                        have c2 := len20' hr20
                        have CN := Lib.hid (show Calls Try.prog 26 #[.pointer (some ⟨b, 0, none⟩)] _ fun e w'' => e = .returned (.int .i64 r) ∧ _ = w'' from hr ▸ nLen_any b _ K5.out.q)
                        clear hr hr20
                        go_wp2_with fail
                        refine CN.out.mono ?_
                        rintro e w' ⟨rfl, rfl⟩
                        go_wp2_with fail
                        go_roundw
                        case rel => exact ⟨j + 1, _, _, _, _, _, by omega, by omega, by go_num, rfl, K5⟩
                        case measure => simp [intOf] <;> omega
                · have CS := Lib.hid (nDeliver_out k b w3 K0.out.q (by omega))
                  go_wp2_with fail
                  refine CS.out.mono ?_
                  rintro e w5 ⟨rfl, hb⟩
                  have K5 := Lib.hid ((K0.out.more hb).more (below_one w5 (.cells #[.int .i64 0, .int .i64 0, .int .i64 0, .slice none 0 0, .bool false] 42)))
                  clear hb CS x0 x1 x2 x3 x4
                  go_wp2_with fail
                  go_roundw
                  case rel => exact ⟨j + 1, _, _, _, _, _, by omega, by omega, by go_num, rfl, K5⟩
                  case measure => simp [intOf] <;> omega
      · obtain rfl : j = n := by omega
        go_wp2_with fail
        refine (awakeN_any _).mono ?_
        rintro e w5 ⟨rfl, hb⟩
        have BE := Lib.hid ((hK.out.more hb).bel)
        clear hb
        go_wp2_with fail
        go_ret
        exact ⟨rfl, BE.out⟩
  · go_wp2_with fail
    refine (awakeN_any _).mono ?_
    rintro e w' ⟨rfl, hb3⟩
    go_wp2_with fail
    go_ret
    exact ⟨rfl, hb3⟩
open Go.ChangeShapes Go.WideShapes Go.ChangeAt in
theorem netKeeps_walk {H : Type} {enc : TypeId × Value → H} (W : World) (base : Nat) (v0 : Value) (d0 : DataW H) (p0 : List MemPlace)
    (h0 : DataW.Trod enc Try.prog W 0 (fun _ => true) true 22 v0 d0 p0) (o0 : Value.okWide Try.prog W .any base 22 v0) :
    Calls Try.prog 4 #[v0] W fun e w' => e = .returned (.bool true) ∧ RowKit.Below W.heap.size W w' := by
  obtain ⟨a, n, cap, xs, rfl, hn, hok, hc⟩ := open_nacts_arg o0 h0
  refine netKeeps_any a n cap xs W ⟨fun hpos => ?_, hok⟩ (by unfold maxLen at hn; exact hn)
  obtain ⟨b, o, ha, hcell⟩ := hc hpos
  refine ⟨b, o, ha, fun i hi => ?_⟩
  have c := hcell i hi
  exact ⟨c 0 (by omega), c 1 (by omega), c 2 (by omega), c 3 (by omega), c 4 (by omega)⟩
end Go.Proofs.Ytecdigcadmokfaa
