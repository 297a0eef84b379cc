/- WalkFar: of a text that parts in length from all words by more than K nothing is near -/
import Derived.Test.YtolggcdlpiedmaaPkE
import Derived.Test.YtolggcdlpiedmaaPkF
namespace Go.Proofs.Ytolggcdlpiedmaa
open Go.RowKit
set_option linter.unusedVariables false
set_option maxRecDepth 20000
theorem far_none {ts : List Tx} {s : Tx} {k : Int} (h : ∀ t ∈ ts, ¬ (lenS t - lenS s ≤ k ∧ lenS s - lenS t ≤ k)) : matchK ts s k = [] := by
  unfold matchK
  split
  · rename_i hc
    unfold nearL
    rw [List.filterMap_eq_nil_iff]
    intro t ht
    have h1 := h t ht
    rw [if_neg]
    rintro ⟨h2, h3⟩
    refine h1 ?_
    unfold distS at h2 h3
    split at h2
    · rename_i hg
      rw [if_pos hg] at h3
      have l1 := (lenS_pos hg.1).2
      have l2 := (lenS_pos hg.2).2
      have h4 := Ed.L_low (intsN (runesS t)) (intsN (runesS s)) (runesS t).length (runesS s).length
      omega
    · omega
  · rfl
theorem len_lit (t : Tx) (l : Int) (w : World) (ht : t.size ≤ 9223372036854775807) (hl : lenS t = l) :
    Calls Try.prog 30 #[.string t] w fun e w' => e = .returned (.int .i64 l) ∧ Below w.heap.size w w' := by subst hl; exact len_any t w ht
set_option maxRecDepth 100000 in
set_option maxHeartbeats 6400000 in
theorem walkFar_law (a : Option Addr) (n ca : Nat) (ts : List Tx) (s : Tx) (xk xb : Int) (w : World) (hh : HoldsT w a n ts) (hc : n ≤ ca) (hn : n ≤ 9223372036854775807) (hsz : ∀ t ∈ ts, t.size ≤ 9223372036854775807) (hs : s.size ≤ 9223372036854775807) :
    Calls Try.prog 9 #[.slice a n ca, .string s, .int .i64 xk, .int .i64 xb] w fun e w' => e = .returned (.bool true) ∧ Below w.heap.size w w' := by
  have H0 := Lib.hid hh
  have AW := Lib.hid (fun w => awakeW_any w)
  obtain ⟨gr, hgr⟩ : ∃ c, greatW ts s = c := ⟨_, rfl⟩
  have CG := Lib.hid (greatW_any a n ca ts s gr w hh hn hsz hs hgr)
  obtain ⟨my, hmy⟩ : ∃ c, decide (0 ≤ lenS s ∧ lenS s ≤ 16) = c := ⟨_, rfl⟩
  have CM := Lib.hid (fun w => asked_lit s my w hs hmy)
  clear hh
  go_enter Try.func9, Try.ntmps9
  go_wp2_with fail
  refine CG.out.mono ?_
  rintro e w2 ⟨rfl, hb2⟩
  have B2 := Lib.hid hb2
  clear hb2 CG
  cases gr with
  | true =>
    go_wp2_with fail
    refine (AW.out _).mono ?_
    rintro e w3 ⟨rfl, hb3⟩
    go_wp2_with fail
    go_ret
    exact ⟨rfl, B2.out.trans (hb3.mono B2.out.size)⟩
  | false =>
    go_wp2_with fail
    refine (CM.out _).mono ?_
    rintro e w3 ⟨rfl, hb3⟩
    have B3 := Lib.hid (B2.out.trans (hb3.mono B2.out.size))
    clear hb3 B2 CM
    cases my with
    | false =>
      go_wp2_with fail
      refine (AW.out _).mono ?_
      rintro e w4 ⟨rfl, hb4⟩
      go_wp2_with fail
      go_ret
      exact ⟨rfl, B3.out.trans (hb4.mono B3.out.size)⟩
    | true =>
      obtain ⟨hl80, hs100, hss⟩ := greatW_no hgr
      have HSS := Lib.hid hs100
      have hlen : ts.length = n := H0.out.len
      clear hgr hmy hs100 hsz
      obtain ⟨v, hv⟩ : ∃ v, goodV ts = v := ⟨_, rfl⟩
      by_cases hv0 : v = 0
      · subst hv0
        have CB := Lib.hid (buildW_good a n ca ts w3 (H0.out.below B3.out) hc (by omega) HSS.out hv)
        clear hv
        go_wp2_with fail
        refine CB.out.mono ?_
        rintro e w4 ⟨g, rfl, hg, hb4⟩
        have G4 := Lib.hid hg
        have B4 := Lib.hid (B3.out.trans (hb4.mono B3.out.size))
        obtain ⟨lo5, hi5⟩ := low_bd xk 5 (by omega)
        have CL1 := Lib.hid (fun w => low_any xk 5 (by omega) (by omega) w)
        obtain ⟨k, hk⟩ : ∃ k, lowV xk 5 = k := ⟨_, rfl⟩
        rw [hk] at CL1 lo5 hi5
        obtain ⟨sl, hsl⟩ : ∃ l, lenS s = l := ⟨_, rfl⟩
        have hslb := lenS_bd s
        rw [hsl] at hslb
        have CSL := Lib.hid (fun w => len_lit s sl w hs hsl)
        have HSL := Lib.hid hsl
        clear hb4 hg CB hk hsl B3
        go_wp2_with fail
        refine (CL1.out _).mono ?_
        rintro e w5 ⟨rfl, rfl⟩
        clear CL1
        go_wp2_with fail
        go_loopw [11] (fun iv wr => ∃ (j : Nat), j ≤ n ∧ iv = .int .i64 j ∧ Hid (∀ t ∈ ts.take j, ¬ (lenS t - lenS s ≤ k ∧ lenS s - lenS t ≤ k)) ∧ Hid (Below w4.heap.size w4 wr)) (fun iv _ => n - (intOf iv).toNat)
        case atStart => exact ⟨0, by omega, rfl, Lib.hid (by simp), Lib.hid (Below.refl _ _)⟩
        case round =>
          obtain ⟨j, hj, rfl, hA, hB⟩ := hrel
          by_cases hlt : j < n
          · obtain ⟨b, o, rfl, hcl⟩ := H0.out.at (by omega)
            have x0 := ((B4.out.trans (hB.out.mono B4.out.size)).cell (p := ⟨b, o + j, none⟩) (lt_of_cell (hcl j hlt))).trans (hcl j hlt)
            have htk := take_succ_getD ts ByteArray.empty j (by omega)
            have hmem := HSS.out _ (getD_memT' ts j (by omega))
            obtain ⟨x, hx⟩ : ∃ x, ts.getD j ByteArray.empty = x := ⟨_, rfl⟩
            rw [hx] at x0 htk hmem
            obtain ⟨xl, hxl⟩ : ∃ l, lenS x = l := ⟨_, rfl⟩
            have hxb := lenS_bd x
            rw [hxl] at hxb
            have CXL := Lib.hid (fun w => len_lit x xl w (by omega) hxl)
            have n1 : (0 : Int) ≤ (j : Int) := by omega
            have n2 : (j : Int) < (n : Int) := by omega
            obtain ⟨dd, hdd⟩ : ∃ d, xl - sl = d := ⟨_, rfl⟩
            have q1 : IntKind.i64.wrap (xl - sl) = dd := hdd ▸ IntWalk.i64_in _ (by omega)
            have q2 : IntKind.i64.wrap (-dd) = -dd := IntWalk.i64_in _ (by omega)
            have HTK := Lib.hid htk; have HXL := Lib.hid hxl; have HDD := Lib.hid hdd
            clear hcl hx htk hxl hdd
            go_wp2_with fail
            refine (CXL.out _).mono ?_
            rintro e w6 ⟨rfl, hb6⟩
            have B6 := Lib.hid (hB.out.trans (hb6.mono hB.out.size))
            clear hb6 hB x0
            go_wp2_with fail
            refine (CSL.out _).mono ?_
            rintro e w7 ⟨rfl, hb7⟩
            have B7 := Lib.hid (B6.out.trans (hb7.mono B6.out.size))
            clear hb7 B6
            by_cases hnear : dd ≤ k ∧ -dd ≤ k
            · obtain ⟨hn1, hn2⟩ := hnear
              go_wp2_with fail
              refine (AW.out _).mono ?_
              rintro e w8 ⟨rfl, hb8⟩
              go_wp2_with fail
              go_ret
              exact ⟨rfl, (B4.out.trans (B7.out.mono B4.out.size)).trans (hb8.mono (by have := B4.out.size; have := B7.out.size; omega))⟩
            · have A2 := Lib.hid (show ∀ t ∈ ts.take (j + 1), ¬ (lenS t - lenS s ≤ k ∧ lenS s - lenS t ≤ k) from by
                rw [HTK.out]
                intro t ht
                rcases List.mem_append.1 ht with ht | ht
                · exact hA.out t ht
                · simp only [List.mem_singleton] at ht
                  subst ht
                  rw [HXL.out, HSL.out]
                  have := HDD.out; intro h; exact hnear (by omega))
              have hd : k < dd ∨ (dd ≤ k ∧ k < -dd) := by omega
              clear hnear
              rcases hd with hd | ⟨hd, hd2⟩
              all_goals
                go_wp2_with fail
                go_roundw
                case rel => exact ⟨j + 1, by omega, by go_num, A2, B7⟩
                case measure => simp [intOf] <;> omega
          · obtain rfl : j = n := by omega
            have hA2 := hA.out
            rw [List.take_of_length_le (by omega)] at hA2
            have HMN := Lib.hid (far_none hA2)
            have HF := Lib.hid (show restK true (0, ⟨#[]⟩) (matchK ts s k) = [] from by rw [HMN.out]; rfl)
            have B5 := Lib.hid (B4.out.trans (hB.out.mono B4.out.size))
            have G5 := Lib.hid (G4.out.below hB.out)
            obtain ⟨lo9, hi9⟩ := low_bd xb 9 (by omega)
            have CL2 := Lib.hid (fun w => low_any xb 9 (by omega) (by omega) w)
            obtain ⟨c, hcb⟩ : ∃ k, lowV xb 9 = k := ⟨_, rfl⟩
            rw [hcb] at CL2 lo9 hi9
            have q3 : IntKind.i64.wrap (1 + c) = 1 + c := IntWalk.i64_in _ (by omega)
            have CN := Lib.hid (next_c g ts s k true (0, ⟨#[]⟩) (1 + c) [] [] 0 true wr G5.out (by omega) HF.out (by unfold cntK; simp; omega) rfl rfl)
            clear hA hA2 hB B4 hcb
            go_wp2_with fail
            refine (CL2.out _).mono ?_
            rintro e w6 ⟨rfl, rfl⟩
            go_wp2_with fail
            refine CN.out.mono ?_
            rintro e w7 ⟨a7, rfl, -, -, hb7⟩
            have B7 := Lib.hid (B5.out.trans (hb7.mono B5.out.size))
            have CD := Lib.hid (dists_any (.pointer (some ⟨g, 0, none⟩)) s k (matchK ts s k) [] w7 (matches_all g ts s k w7 (G5.out.below hb7) (by omega)) (by rw [HMN.out]; simp) (by rw [HMN.out]; rfl))
            clear hb7 B5 CN CL2
            go_wp2_with fail
            refine CD.out.mono ?_
            rintro e w8 ⟨a8, c8, rfl, -, hb8⟩
            have B8 := Lib.hid (B7.out.trans (hb8.mono B7.out.size))
            clear hb8 B7
            go_wp2_with fail
            refine (AW.out _).mono ?_
            rintro e w9 ⟨rfl, hb9⟩
            go_wp2_with fail
            go_ret
            exact ⟨rfl, B8.out.trans (hb9.mono B8.out.size)⟩
      · have CB := Lib.hid (build_bad a n ca ts v w3 (H0.out.below B3.out) (by omega) (fun t ht => by have := HSS.out t ht; omega) hv hv0)
        have hvn : (v != 0) = true := by simpa using hv0
        clear hv
        go_wp2_with fail
        refine CB.out.mono ?_
        rintro e w4 ⟨rfl, hb4⟩
        have B4 := Lib.hid (B3.out.trans (hb4.mono B3.out.size))
        clear hb4
        go_wp2_with fail
        refine (AW.out _).mono ?_
        rintro e w5 ⟨rfl, hb5⟩
        go_wp2_with fail
        go_ret
        exact ⟨rfl, B4.out.trans (hb5.mono B4.out.size)⟩
open Go.ChangeShapes Go.WideShapes Go.ChangeAt in
open Go.ChangeMaps (open_string) in
theorem walkFar_walk {H : Type} {enc : TypeId × Value → H} (W : World) (base : Nat) (v0 v1 v2 v3 : Value) (d0 d1 d2 d3 : DataW H) (p0 p1 p2 p3 : List MemPlace)
    (h0 : DataW.Trod enc Try.prog W 0 (fun _ => true) true 22 v0 d0 p0) (h1 : DataW.Trod enc Try.prog W 0 (fun _ => true) true 9 v1 d1 p1) (h2 : DataW.Trod enc Try.prog W 0 (fun _ => true) true 3 v2 d2 p2) (h3 : DataW.Trod enc Try.prog W 0 (fun _ => true) true 3 v3 d3 p3)
    (o0 : Value.okWide Try.prog W .any base 22 v0) (o1 : Value.okWide Try.prog W .any base 9 v1) (o2 : Value.okWide Try.prog W .any base 3 v2) (o3 : Value.okWide Try.prog W .any base 3 v3) :
    Calls Try.prog 9 #[v0, v1, v2, v3] W fun e w' => e = .returned (.bool true) ∧ RowKit.Below W.heap.size W w' := by
  obtain ⟨a0, n0, c0, k0, rfl, x0, y0, z0, b0, s0⟩ := open_texts_arg o0 h0
  obtain ⟨t, rfl, rfl, rfl, ht⟩ := open_string Try.underlying9 o1 h1
  unfold maxLen at ht
  obtain ⟨x2, rfl, rfl, rfl, b2⟩ := open_int Try.underlying3 o2 h2
  obtain ⟨x3, rfl, rfl, rfl, b3⟩ := open_int Try.underlying3 o3 h3
  exact walkFar_law a0 n0 c0 k0 t x2 x3 W x0 z0 b0 s0 (by omega)
end Go.Proofs.Ytolggcdlpiedmaa
