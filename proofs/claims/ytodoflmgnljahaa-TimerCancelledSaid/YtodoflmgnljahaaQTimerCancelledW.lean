/- timers: what was cancelled is not due: the law -/
import Derived.Test.YtodoflmgnljahaaPkD
namespace Go.Proofs.Ytodoflmgnljahaa
open Go.RowKit
set_option linter.unusedVariables false
set_option maxRecDepth 20000
set_option maxHeartbeats 1600000 in
set_option maxRecDepth 100000 in
theorem timerCancelled_any (many bits : Int) (w : World) (hbits : 0 ≤ bits) :
    Calls Try.prog 6 #[.int .i64 many, .int .u32 bits] w fun e w' => e = .returned (.bool true) ∧ Below w.heap.size w w' := by
  have AW := Lib.hid (fun w => awakeT_any w)
  obtain ⟨lm, hlm⟩ : ∃ x, lowV many 24 = x := ⟨_, rfl⟩
  have lb := low_bd many 24 (by omega)
  rw [hlm] at lb
  have CL := Lib.hid (fun w => low_any many 24 (by omega) (by omega) w)
  rw [hlm] at CL
  obtain ⟨m, hm⟩ : ∃ m : Nat, 1 + lm = (m : Int) := ⟨(1 + lm).toNat, by omega⟩
  have m1 : 1 ≤ m := by omega
  have m2 : m ≤ 24 := by omega
  obtain ⟨lb1, lb2⟩ := lb
  have lm0 : lm = (m : Int) - 1 := by omega
  subst lm0
  clear hlm hm
  have hm : 1 + ((m : Int) - 1) = (m : Int) := by omega
  go_enter Try.func6, Try.ntmps6
  go_wp2_with fail
  with_reducible refine (CL.out _).mono ?_
  rintro e w1 ⟨rfl, rfl⟩
  go_wp2_with fail
  with_reducible refine (new_c (w0 := w) (m : Int) w (Below.refl _ _) (by omega)).mono ?_
  rintro e w1 ⟨b, S, rfl, C, -⟩
  have C1 := Lib.hid C
  clear C hm
  go_wp2_with fail
  go_loopw [8] (fun iv wr => ∃ (j : Nat) (S' : Nat → Prop), j ≤ m ∧ iv = .int .i64 j ∧ Hid (CtxT w wr b m (downL j) S')) (fun iv _ => m - (intOf iv).toNat)
  case atStart => exact ⟨0, S, by omega, rfl, C1⟩
  case round =>
    clear C1
    obtain ⟨j, S', hj, rfl, hC⟩ := hrel
    by_cases hlt : j < m
    · have n1 : (0 : Int) ≤ (j : Int) := by omega
      have n2 : (j : Int) < (m : Int) := by omega
      have SN := downL_set hlt m2
      have CS := Lib.hid (set_c (j : Int) (30 - (j : Int)) 0 _ wr hC.out (by omega) SN.1 SN.2)
      clear SN
      go_wp2_with fail
      with_reducible refine CS.out.mono ?_
      rintro e w3 ⟨rfl, S3, C3⟩
      have D3 := Lib.hid C3
      clear CS C3
      go_wp2_with fail
      go_roundw
      case rel => exact ⟨j + 1, S3, by omega, by go_num, D3⟩
      case measure => simp [intOf] <;> omega
    · obtain rfl : j = m := by omega
      have F1 := Lib.hid (show setV (j : Int) (downL j) 99 5 = 3 from by
        have hg : goodT 99 5 := by decide
        unfold setV
        rw [if_neg (fun h => h hg), if_neg (fun h => by obtain ⟨k, h1, h2⟩ := (downL_ids j _).1 h; omega), downL_len, if_pos (by omega)])
      have F2 := Lib.hid (show setM (j : Int) (downL j) 99 5 = downL j from by
        have hg : goodT 99 5 := by decide
        unfold setM
        rw [if_neg (fun h => h hg), if_neg (fun h => by obtain ⟨k, h1, h2⟩ := (downL_ids j _).1 h; omega), downL_len, if_pos (by omega)])
      have CF := Lib.hid (set_c 99 5 3 _ wr hC.out (by omega) F1.out F2.out)
      clear hC hlt F1 F2
      go_wp2_with fail
      with_reducible refine CF.out.mono ?_
      rintro e w3 ⟨rfl, S3, C3⟩
      have D3 := Lib.hid (show CtxT w w3 b j (leftL bits j 0) S3 from by rw [left_zero]; exact C3)
      clear CF C3
      go_wp2_with fail
      go_loopw [7, 9] (fun nv iv wq => ∃ (i q : Nat) (T : Nat → Prop), i ≤ j ∧ q ≤ i ∧ nv = .int .i64 q ∧ iv = .int .i64 i ∧ Hid ((leftL bits j i).length + q = j) ∧ Hid (CtxT w wq b j (leftL bits j i) T)) (fun _ iv _ => j - (intOf iv).toNat)
      case atStart => exact ⟨0, 0, S3, by omega, by omega, rfl, rfl, Lib.hid (by rw [left_zero, downL_len]; rfl), D3⟩
      case round =>
        clear D3
        obtain ⟨i, q, T, hi, hq, rfl, rfl, hL, hC⟩ := hrel
        rename World => wq
        by_cases hlt : i < j
        · have n1 : (0 : Int) ≤ (i : Int) := by omega
          have n2 : (i : Int) < (j : Int) := by omega
          obtain ⟨zb, hzb⟩ : ∃ z, bitT bits i = z := ⟨_, rfl⟩
          have e1 : (Go.bits BinOp.and IntKind.u32 (bits / 2 ^ i) 1 == 1) = zb := hzb
          have e2 : decide (Go.bits BinOp.and IntKind.u32 (bits / 2 ^ i) 1 = 1) = zb := by rw [← e1, Bool.eq_iff_iff]; simp
          have HZ := Lib.hid hzb
          clear hzb
          cases zb with
          | true =>
            have CC := Lib.hid (cancel_c (i : Int) true _ wq hC.out (decide_eq_true (left_has hlt)) rfl)
            have LC := Lib.hid (left_cut (m := j) HZ.out)
            have LN := Lib.hid (show (leftL bits j (i + 1)).length + (q + 1) = j from by
              have h1 := cut_len (left_nodup bits j i) (left_has (bits := bits) hlt)
              rw [← LC.out]; have := hL.out; omega)
            go_wp2_with fail
            with_reducible refine CC.out.mono ?_
            rintro e w4 ⟨rfl, T4, C4⟩
            have CD := Lib.hid (cancel_c (i : Int) false _ w4 C4 (decide_eq_false cut_gone) (cut_not cut_gone))
            clear CC C4
            go_wp2_with fail
            with_reducible refine CD.out.mono ?_
            rintro e w5 ⟨rfl, T5, C5⟩
            have D5 := Lib.hid (show CtxT w w5 b j (leftL bits j (i + 1)) T5 from by rw [← LC.out]; exact C5)
            clear CD C5
            go_wp2_with fail
            go_roundw
            case rel => exact ⟨i + 1, q + 1, T5, by omega, by omega, by go_num, by go_num, LN, D5⟩
            case measure => simp [intOf] <;> omega
          | false =>
            have LK := Lib.hid (left_keep (m := j) HZ.out)
            have LN := Lib.hid (show (leftL bits j (i + 1)).length + q = j from by rw [← LK.out]; exact hL.out)
            have D5 := Lib.hid (show CtxT w wq b j (leftL bits j (i + 1)) T from by rw [← LK.out]; exact hC.out)
            go_wp2_with fail
            go_roundw
            case rel => exact ⟨i + 1, q, T, by omega, by omega, rfl, by go_num, LN, D5⟩
            case measure => simp [intOf] <;> omega
        · obtain rfl : i = j := by omega
          have NDP := Lib.hid (left_nodup bits i i)
          have XL := Lib.hid (show (dueX (leftL bits i i) 100).length = (leftL bits i i).length from due_all (fun x hx => by
            obtain ⟨k, -, rfl, -⟩ := left_mem hx
            show 30 - (k : Int) ≤ 100
            omega))
          have CDU := Lib.hid (due_c 100 ((dueX (leftL bits i i) 100).map TM.id) wq hC.out rfl)
          have DA := Lib.hid (fun (k : Nat) (hk : k < (dueX (leftL bits i i) 100).length) => left_mem (due_at hk).1)
          have DN := Lib.hid (fun (k : Nat) (hk : k + 1 < (dueX (leftL bits i i) 100).length) => due_next NDP.out hk)
          have N99 := Lib.hid (show (99 : Int) ∉ (leftL bits i i).map TM.id from fun h => by
            obtain ⟨x, hx, e⟩ := List.mem_map.1 h
            obtain ⟨k, hk, rfl, -⟩ := left_mem hx
            have e' : (k : Int) = 99 := e
            omega)
          obtain ⟨L, hLL⟩ : ∃ L, leftL bits i i = L := ⟨_, rfl⟩
          rw [hLL] at hL hC XL CDU DA DN N99
          obtain ⟨X, hX⟩ : ∃ X, dueX L 100 = X := ⟨_, rfl⟩
          rw [hX] at XL CDU DA DN
          obtain ⟨xl, hxl⟩ : ∃ x, X.length = x := ⟨_, rfl⟩
          unfold DueP at CDU
          rw [List.length_map, hxl] at CDU
          have HXL := Lib.hid hxl
          have HQ := Lib.hid (show xl + q = i from by rw [← hxl, XL.out]; exact hL.out)
          have xl24 : xl ≤ 24 := by have := HQ.out; omega
          clear hLL hX hxl hlt NDP
          go_wp2_with fail
          with_reducible refine CDU.out.mono ?_
          rintro e w4 ⟨da, dc, rfl, hd, hb⟩
          have H4 := Lib.hid hd
          have C4 := Lib.hid (hC.out.more hb)
          clear hd hb CDU hC
          go_wp2_with fail
          go_loopw [11] (fun iv wr => ∃ (k : Nat), k ≤ xl ∧ iv = .int .i64 k ∧ Hid (CtxT w wr b i L T) ∧ Hid (HoldsI .i64 wr da xl (X.map TM.id))) (fun iv _ => xl - (intOf iv).toNat)
          case atStart => exact ⟨0, by omega, rfl, C4, H4⟩
          case round =>
            clear C4 H4
            obtain ⟨k, hk, rfl, hC, hH⟩ := hrel
            rename World => wr
            by_cases hlt : k < xl
            · obtain ⟨db, do_, rfl, hdc⟩ := hH.out.at (by omega)
              have hkx : k < X.length := by rw [HXL.out]; exact hlt
              have x0 := hdc k hlt
              rw [ids_get0 hkx] at x0
              obtain ⟨v, hv, hxv, hbv⟩ := DA.out k hkx
              rw [hxv] at x0
              have x1 : wr.cell? ⟨db, do_ + k, none⟩ = some (.int .i64 (v : Int)) := x0
              have n1 : (0 : Int) ≤ (k : Int) := by omega
              have n2 : (k : Int) < (xl : Int) := by omega
              have d1 : decide ((v : Int) < 0) = false := decide_eq_false (by omega)
              have d2 : decide ((v : Int) ≥ (i : Int)) = false := decide_eq_false (by omega)
              have d3 : decide ((i : Int) ≤ (v : Int)) = false := decide_eq_false (by omega)
              have d3' : decide (i ≤ v) = false := decide_eq_false (by omega)
              have e1 : (Go.bits BinOp.and IntKind.u32 (bits / 2 ^ v) 1 == 1) = false := hbv
              have e2 : decide (Go.bits BinOp.and IntKind.u32 (bits / 2 ^ v) 1 = 1) = false := by rw [← e1, Bool.eq_iff_iff]; simp
              have HXV := Lib.hid hxv
              have v1 : (0 : Int) ≤ (v : Int) := by omega
              rcases Nat.eq_zero_or_pos k with hz | hz
              · have d4 : decide ((k : Int) > 0) = false := decide_eq_false (by omega)
                have d5 : decide ((0 : Int) < (k : Int)) = false := decide_eq_false (by omega)
                have d6 : decide (0 < k) = false := decide_eq_false (by omega)
                clear hz hdc hxv hbv x0
                go_wp2_with fail
                go_quiet (fail)
                go_wp2_with fail
                go_roundw
                case rel => exact ⟨k + 1, by omega, by go_num, Lib.hid (hC.out.more (below_drewN _ _)), Lib.hid (hH.out.below (below_drewN _ _))⟩
                case measure => simp [intOf] <;> omega
              · obtain ⟨g, rfl⟩ : ∃ g, k = g + 1 := ⟨k - 1, by omega⟩
                have y0 := hdc g (by omega)
                rw [ids_get0 (by omega)] at y0
                obtain ⟨u, hu, hyu, -⟩ := DA.out g (by omega)
                have hnext := DN.out g hkx
                rw [hxv, hyu] at hnext
                simp only at hnext
                rw [hyu] at y0
                have y1 : wr.cell? ⟨db, do_ + g, none⟩ = some (.int .i64 (u : Int)) := y0
                have huv : v < u := by omega
                have d4 : decide (((g + 1 : Nat) : Int) > 0) = true := decide_eq_true (by omega)
                have d5 : decide ((0 : Int) < (g : Int) + 1) = true := decide_eq_true (by omega)
                have d6 : decide ((u : Int) ≤ (v : Int)) = false := decide_eq_false (by omega)
                have d7 : decide (u ≤ v) = false := decide_eq_false (by omega)
                have n5 : (0 : Int) ≤ (g : Int) := by omega
                have n6 : (g : Int) < (xl : Int) := by omega
                clear hz hdc hxv hbv x0 y0 hyu hnext huv
                go_wp2_with fail
                go_quiet (fail)
                go_wp2_with fail
                go_roundw
                case rel => exact ⟨g + 1 + 1, by omega, by go_num, Lib.hid (hC.out.more (below_drewN _ _)), Lib.hid (hH.out.below (below_drewN _ _))⟩
                case measure => simp [intOf] <;> omega
            · obtain rfl : k = xl := by omega
              have e1 : ((k : Int) == (i : Int) - (q : Int)) = true := by rw [beq_iff_eq]; have := HQ.out; omega
              have e2 : (k : Int) = (i : Int) - (q : Int) := by have := HQ.out; omega
              have hqi := HQ.out
              have LL := Lib.hid (show L.length = k from by rw [← XL.out, HXL.out])
              have hg : goodT 99 5 := by decide
              rcases Nat.eq_zero_or_pos q with hz | hz
              · have SV := Lib.hid (show setV (i : Int) L 99 5 = 3 from by unfold setV; rw [if_neg (fun h => h hg), if_neg N99.out, LL.out, if_pos (by omega)])
                have d4 : decide ((q : Int) > 0) = false := decide_eq_false (by omega)
                have d5 : decide ((0 : Int) < (q : Int)) = false := decide_eq_false (by omega)
                have d6 : decide (0 < q) = false := decide_eq_false (by omega)
                have CF := Lib.hid (set_c 99 5 3 _ wr hC.out (by omega) SV.out rfl)
                clear hz hg hqi e2
                go_wp2_with fail
                with_reducible refine CF.out.mono ?_
                rintro e w6 ⟨rfl, T6, C6⟩
                have D6 := Lib.hid C6
                clear CF C6
                go_wp2_with fail
                refine (AW.out _).mono ?_
                rintro e w' ⟨rfl, hb⟩
                have D7 := Lib.hid (D6.out.more hb)
                clear hb
                go_wp2_with fail
                go_ret
                exact ⟨rfl, D7.out.b_⟩
              · have SV := Lib.hid (show setV (i : Int) L 99 5 = 0 from by unfold setV; rw [if_neg (fun h => h hg), if_neg N99.out, LL.out, if_neg (by omega)])
                have d4 : decide ((q : Int) > 0) = true := decide_eq_true (by omega)
                have d5 : decide ((0 : Int) < (q : Int)) = true := decide_eq_true (by omega)
                have d6 : decide (0 < q) = true := decide_eq_true (by omega)
                have CF := Lib.hid (set_c 99 5 0 _ wr hC.out (by omega) SV.out rfl)
                clear hg hqi e2
                go_wp2_with fail
                with_reducible refine CF.out.mono ?_
                rintro e w6 ⟨rfl, T6, C6⟩
                have D6 := Lib.hid C6
                clear CF C6
                go_wp2_with fail
                refine (AW.out _).mono ?_
                rintro e w' ⟨rfl, hb⟩
                have D7 := Lib.hid (D6.out.more hb)
                clear hb
                go_wp2_with fail
                go_ret
                exact ⟨rfl, D7.out.b_⟩
open Go.ChangeShapes Go.WideShapes Go.ChangeAt in
theorem timerCancelled_walk {H : Type} {enc : TypeId × Value → H} (W : World) (base : Nat) (v0 v1 : Value) (d0 d1 : DataW H) (p0 p1 : List MemPlace)
    (h0 : DataW.Trod enc Try.prog W 0 (fun _ => true) true 3 v0 d0 p0) (h1 : DataW.Trod enc Try.prog W 0 (fun _ => true) true 50 v1 d1 p1)
    (o0 : Value.okWide Try.prog W .any base 3 v0) (o1 : Value.okWide Try.prog W .any base 50 v1) :
    Calls Try.prog 6 #[v0, v1] W fun e w' => e = .returned (.bool true) ∧ RowKit.Below W.heap.size W w' := by
  obtain ⟨x0, rfl, rfl, rfl, b0⟩ := open_int Try.underlying3 o0 h0
  obtain ⟨x1, rfl, rfl, rfl, b1⟩ := open_int Try.underlying50 o1 h1
  exact timerCancelled_any x0 x1 W (by have h := b1; simp [Lit.wf, IntKind.min, IntKind.max, IntKind.signed, IntKind.bits] at h; omega)
end Go.Proofs.Ytodoflmgnljahaa
