/- fair: arrives (by gen/fb2.py) -/
import Derived.Test.YteloiibejkflhaaQFb1
namespace Go.Proofs.Yteloiibejkflhaa
open Go.RowKit
set_option linter.unusedVariables false
set_option maxRecDepth 20000
def gotR (x : RecP) : List Int := if 0 ≤ x.got then [x.got] else []
def gotL (l : List RecP) : List Int := l.flatMap gotR
theorem gotL_next (l : List RecP) (j : Nat) (h : j < l.length) : gotL (l.take (j + 1)) = gotL (l.take j) ++ gotR (l.getD j r0) := by
  rw [take_succ_getD l r0 j h]
  unfold gotL
  rw [List.flatMap_append]
  simp
theorem gotL_len : ∀ l : List RecP, (gotL l).length ≤ l.length
  | [] => Nat.le_refl _
  | x :: l => by
    have h1 := gotL_len l
    have h2 : (gotR x).length ≤ 1 := by unfold gotR; split <;> simp
    rw [show gotL (x :: l) = gotR x ++ gotL l from rfl, List.length_append, List.length_cons]
    omega
def badS (G H : List Int) (s : S3) : Bool := joinsB G s && decide (H.count s.1 = 0)
def badR (G H : List Int) (x : RecP) : Bool := x.ss.any (badS G H)
def arrB (G : List Int) (xs : List RecP) (f b : Nat) : Bool := !((xs.drop f).take b).any (badR G (gotL ((xs.drop f).take (2 * b))))
set_option maxHeartbeats 12800000 in
set_option maxRecDepth 100000 in
theorem varrives_any (W : Int) (a : Option Addr) (n rc : Nat) (ga : Option Addr) (k gc mv : Nat) (G : List Int) (xs : List RecP) (f b : Nat) (z : Bool) (w : World) (hh : HoldsRc w a n xs) (hn : n ≤ 1000) (hrc : n ≤ rc) (hx : ∀ x ∈ xs, x.sn ≤ 1000) (hg : HoldsI .i64 w ga k G) (hk : k ≤ 1000) (hb1 : 1 ≤ b) (hfb : f + 2 * b ≤ n) (hz : arrB G xs f b = z) :
    Calls Try.prog 25 #[.agg #[.int .i64 W, .slice a n rc, .slice ga k gc, .map (some mv)], .int .i64 (f : Int), .int .i64 (b : Int)] w fun e w' => e = .returned (.bool z) ∧ Below w.heap.size w w' := by
  obtain ⟨rb, ro, rfl, -⟩ := hh.at_ (by omega)
  have BX := Lib.hid (below_one w (.cells #[.int .i64 W, .slice (some ⟨rb, ro, none⟩) n rc, .slice ga k gc, .map (some mv)] 60))
  have HX := heap_alloc_new w (.cells #[.int .i64 W, .slice (some ⟨rb, ro, none⟩) n rc, .slice ga k gc, .map (some mv)] 60)
  obtain ⟨w1, hw1⟩ : ∃ w1, w.alloc (.cells #[.int .i64 W, .slice (some ⟨rb, ro, none⟩) n rc, .slice ga k gc, .map (some mv)] 60) = w1 := ⟨_, rfl⟩
  obtain ⟨q, hq⟩ : ∃ q, w.heap.size = q := ⟨_, rfl⟩
  rw [hw1] at BX HX
  rw [hq] at HX
  have VC := Lib.hid (fun (w' : World) (hb : Below w1.heap.size w1 w') => show w'.cell? ⟨q, 0, none⟩ = some (.int .i64 W) ∧ w'.cell? ⟨q, 1, none⟩ = some (.slice (some ⟨rb, ro, none⟩) n rc) ∧ w'.cell? ⟨q, 2, none⟩ = some (.slice ga k gc) ∧ w'.cell? ⟨q, 3, none⟩ = some (.map (some mv)) from ⟨cellT (i := 0) (keepT HX hb) rfl, cellT (i := 1) (keepT HX hb) rfl, cellT (i := 2) (keepT HX hb) rfl, cellT (i := 3) (keepT HX hb) rfl⟩)
  obtain ⟨b2, hb2⟩ : ∃ b2, 2 * b = b2 := ⟨_, rfl⟩
  unfold arrB at hz
  rw [hb2] at hz hfb
  have S2 := hh.sub f b2 hfb
  have S1 := hh.sub f b (by omega)
  have X1 := Lib.hid (show ∀ x ∈ (xs.drop f).take b, x.sn ≤ 1000 from fun x h => hx x (List.mem_of_mem_drop (List.mem_of_mem_take h)))
  obtain ⟨l2, hl2⟩ : ∃ l, (xs.drop f).take b2 = l := ⟨_, rfl⟩
  obtain ⟨l1, hl1⟩ : ∃ l, (xs.drop f).take b = l := ⟨_, rfl⟩
  rw [hl2] at hz S2
  rw [hl1] at hz S1 X1
  have HR2 := Lib.hid (S2.below BX.out)
  have HR1 := Lib.hid (S1.below BX.out)
  have N2 := Lib.hid S2.len
  have N1 := Lib.hid S1.len
  have HG := Lib.hid (hg.below BX.out)
  obtain ⟨mb, hmb⟩ : ∃ mb, w1.heap.size = mb := ⟨_, rfl⟩
  obtain ⟨w2, hw2⟩ : ∃ w2, w1.alloc (.map #[] 0) = w2 := ⟨_, rfl⟩
  have M1 := Lib.hid (show HM w2 mb [] from by rw [← hw2, ← hmb]; exact hM_made w1)
  have B1 := Lib.hid (show Below w1.heap.size w1 w2 from hw2 ▸ below_one w1 _)
  have MB := Lib.hid hmb
  have LL := Lib.hid (show ∀ j, (gotL (l2.take j)).length ≤ 1000 from fun j => by
    have := gotL_len (l2.take j)
    rw [List.length_take, S2.len] at this
    omega)
  have hmm := @run_makeMap Try.prog
  have e1 : IntKind.i64.wrap (2 * (b : Int)) = (b2 : Int) := by rw [IntKind.wrap_i64]; omega
  have e2 : IntKind.i64.wrap ((f : Int) + (b2 : Int)) = (f : Int) + (b2 : Int) := by rw [IntKind.wrap_i64]; omega
  have e3 : IntKind.i64.wrap ((f : Int) + (b : Int)) = (f : Int) + (b : Int) := by rw [IntKind.wrap_i64]; omega
  have SL2 := Lib.hid (fun (w' : World) => sliceR rb ro n rc f b2 w' hfb (by omega) hrc)
  have SL1 := Lib.hid (fun (w' : World) => sliceR rb ro n rc f b w' (by omega) hb1 hrc)
  have HZ := Lib.hid hz
  have hbn : b2 ≤ 1000 := by omega
  have hbn1 : b ≤ 1000 := by omega
  obtain ⟨v0, v1, v2, v3⟩ := VC.out _ B1.out
  have sl2 := SL2.out w2
  clear hh hx hg hz S1 S2 HX hl1 hl2 hb2 hfb
  go_enter Try.func25, Try.ntmps25
  go_upto_region 1 with fail
  try rw [hw1]
  try rw [hq]
  go_upto_region 2 with fail
  try rw [hw2]
  try rw [hmb]
  clear hw1 hw2 hmb hq hmm
  go_wp2_with fail
  clear sl2 v0 v1 v2 v3 SL2 e1 e2
  go_loopw [9, 24] (fun bv iv wr => ∃ (j : Nat), j ≤ b2 ∧ iv = .int .i64 j ∧ Hid (HM wr mb (gotL (l2.take j))) ∧ Hid (Below w1.heap.size w1 wr)) (fun _ iv _ => b2 - (intOf iv).toNat)
  case atStart => exact ⟨0, by omega, rfl, M1, B1⟩
  case round =>
    obtain ⟨j, hj, rfl, hM, hB⟩ := hrel
    by_cases hlt : j < b2
    · obtain ⟨rb', ro', hra, hc⟩ := (HR2.out.below hB.out).at_ (by omega)
      injection hra with hra
      injection hra with hra1 hra2
      subst hra1 hra2
      have hx12 := hc j hlt
      have hws := gotL_next l2 j (by rw [N2.out]; exact hlt)
      have hmem := getD_memR (show j < l2.length by rw [N2.out]; exact hlt)
      have hok := HR2.out.ok _ hmem
      have hll := LL.out j
      obtain ⟨x, hxe⟩ : ∃ x, l2.getD j r0 = x := ⟨_, rfl⟩
      rw [hxe] at hx12 hws hok
      obtain ⟨HH, hHH⟩ : ∃ HH, gotL (l2.take j) = HH := ⟨_, rfl⟩
      rw [hHH] at hws hll
      have hM' := hM.out
      rw [hHH] at hM'
      obtain ⟨c0, c1', c2', c3, c4, c5, c6, c7, c8, c9, c10, c11⟩ := hx12
      have i1 : (0 : Int) ≤ (j : Int) := by omega
      have i2 : (j : Int) < (b2 : Int) := by omega
      have RX := Lib.hid (below_one wr (.cells #[.int .i64 x.kd, .int .i64 x.nd, .int .i64 x.at_, .int .i64 x.ex, .string x.qt, .int .i64 x.qk, .int .i64 x.qn, .int .i64 x.vd, .int .i64 x.id, .slice x.sa x.sn x.sc, .int .i64 x.got, .slice x.la x.ln x.lc] 43))
      have SX := Lib.hid (recIn_new wr x wr.heap.size 43 (0, 0) rfl)
      have HW := Lib.hid hws
      have B3 := Lib.hid (hB.out.trans (RX.out.mono hB.out.size))
      have M3 := Lib.hid (hM'.below RX.out)
      have GOT := Lib.hid hok.g
      have LB := Lib.hid hll
      clear hc hxe hws hmem hok hll hHH hM' hM
      go_upto_region 5 with fail
      clear c0 c1' c2' c3 c4 c5 c6 c7 c8 c9 c10 c11
      generalize wr.alloc (.cells #[.int .i64 x.kd, .int .i64 x.nd, .int .i64 x.at_, .int .i64 x.ex, .string x.qt, .int .i64 x.qk, .int .i64 x.qn, .int .i64 x.vd, .int .i64 x.id, .slice x.sa x.sn x.sc, .int .i64 x.got, .slice x.la x.ln x.lc] 43) = w3 at *
      generalize wr.heap.size = u at *
      obtain ⟨-, -, -, -, -, -, -, -, -, -, y10, -⟩ := SX.out
      simp only [Nat.zero_add] at y10
      unfold gotR at HW
      obtain ⟨g, hg⟩ : ∃ g, x.got = g := ⟨_, rfl⟩
      rw [hg] at y10 HW GOT
      by_cases h0 : 0 ≤ g
      · have d1 : decide (g ≥ 0) = true := decide_eq_true h0
        have d1' : decide (0 ≤ g) = true := decide_eq_true h0
        obtain ⟨cnt, hcn, hmv⟩ := M3.out
        obtain ⟨t, hcc⟩ : ∃ t, HH.count g = t := ⟨_, rfl⟩
        have hgl := LB.out
        have hcl : t ≤ 1000 := by rw [← hcc]; exact Nat.le_trans (List.count_le_length) hgl
        have EC := Lib.hid (hfZ_get HH g t hcc)
        have WF := Lib.hid (show wfI g from GOT.out)
        have MV := Lib.hid hmv
        have GN := Lib.hid (show gotL (l2.take (j + 1)) = HH ++ [g] from by rw [HW.out, if_pos h0])
        have CC := Lib.hid hcc
        have CN := Lib.hid (And.intro hcn hgl)
        have ew : IntKind.i64.wrap ((t : Int) + 1) = (t : Int) + 1 := by rw [IntKind.wrap_i64]; omega
        clear hmv hcc hgl hcl hg h0 HW hcn
        go_wp2_with (first | (at_lookup; refine wpList_get_mv mapTz rfl (.tmp 31) (.tmp 33) rfl rfl MV.out g rfl WF.out (.int .i64 (t : Int)) EC.out ?_) | (at_mapUpdate; refine wpList_put_mv mapTz rfl (.tmp 31) (.tmp 33) (.tmp 35) rfl rfl MV.out (by have := CN.out; unfold maxLen; omega) g (.int .i64 ((t : Int) + 1)) rfl rfl WF.out ?_; intro w6 m6 t6))
        have M6 := Lib.hid (HM.next (w := w6) CN.out.1 CC.out m6)
        have B6 := Lib.hid (show Below w1.heap.size w1 w6 from B3.out.trans ((TurnV.of_mapTurned (F := fun q => q = mb) t6 rfl).below (fun q hq => by have := MB.out; omega) B3.out.size))
        clear m6 t6
        go_roundw
        case rel => exact ⟨j + 1, by omega, by go_num, Lib.hid (by rw [GN.out]; exact M6.out), B6⟩
        case measure => simp [intOf]; omega
      · have d1 : decide (g ≥ 0) = false := decide_eq_false h0
        have d1' : decide (0 ≤ g) = false := decide_eq_false h0
        have M6 := Lib.hid (show HM w3 mb (gotL (l2.take (j + 1))) from by rw [HW.out, if_neg h0, List.append_nil]; exact M3.out)
        clear hg h0 HW
        go_wp2_with fail
        go_roundw
        case rel => exact ⟨j + 1, by omega, by go_num, M6, B3⟩
        case measure => simp [intOf]; omega
    · obtain rfl : b2 = j := by omega
      have hM' := hM.out
      rw [List.take_of_length_le (by rw [N2.out]; exact Nat.le_refl _)] at hM'
      obtain ⟨wq, hwq⟩ : ∃ wq, wq = wr := ⟨_, rfl⟩
      subst hwq
      obtain ⟨H, hH⟩ : ∃ H, gotL l2 = H := ⟨_, rfl⟩
      rw [hH] at hM' HZ
      have MQ := Lib.hid hM'
      have BQ := hB
      have HLEN := Lib.hid (show H.length ≤ 1000 from by
        have := LL.out b2
        rw [List.take_of_length_le (by rw [N2.out]; exact Nat.le_refl _), hH] at this
        exact this)
      obtain ⟨v0, v1, v2, v3⟩ := VC.out _ hB.out
      have sl1 := SL1.out wq
      clear hM hM' hB hlt hj LL hH M1
      go_wp2_with fail
      clear sl1 v0 v1 v2 v3
      go_loopw [11, 13, 45] (fun bv sv iv wr => ∃ (j : Nat), j ≤ b ∧ iv = .int .i64 j ∧ Hid (∀ y ∈ l1.take j, badR G H y = false) ∧ Hid (Below wq.heap.size wq wr)) (fun _ _ iv _ => b - (intOf iv).toNat)
      case atStart => exact ⟨0, by omega, rfl, Lib.hid (by simp), Lib.hid (Below.refl _ _)⟩
      case round =>
        obtain ⟨j, hj, rfl, hS, hB⟩ := hrel
        have HB := Lib.hid (show Below w1.heap.size w1 wr from BQ.out.trans (hB.out.mono BQ.out.size))
        by_cases hlt : j < b
        · obtain ⟨rb', ro', hra, hc⟩ := (HR1.out.below HB.out).at_ (by omega)
          injection hra with hra
          injection hra with hra1 hra2
          subst hra1 hra2
          have hx12 := hc j hlt
          have hmem := getD_memR (show j < l1.length by rw [N1.out]; exact hlt)
          have hok := HR1.out.ok _ hmem
          have hbx := X1.out _ hmem
          obtain ⟨x, hxe⟩ : ∃ x, l1.getD j r0 = x := ⟨_, rfl⟩
          have TK := Lib.hid (show l1.take (j + 1) = l1.take j ++ [x] from by rw [← hxe]; exact take_succ_getD l1 r0 j (by rw [N1.out]; exact hlt))
          rw [hxe] at hx12 hok hbx hmem
          have MX := Lib.hid hmem
          obtain ⟨c0, c1', c2', c3, c4, c5, c6, c7, c8, c9, c10, c11⟩ := hx12
          have i1 : (0 : Int) ≤ (j : Int) := by omega
          have i2 : (j : Int) < (b : Int) := by omega
          have RX := Lib.hid (below_one wr (.cells #[.int .i64 x.kd, .int .i64 x.nd, .int .i64 x.at_, .int .i64 x.ex, .string x.qt, .int .i64 x.qk, .int .i64 x.qn, .int .i64 x.vd, .int .i64 x.id, .slice x.sa x.sn x.sc, .int .i64 x.got, .slice x.la x.ln x.lc] 43))
          have SX := Lib.hid (recIn_new wr x wr.heap.size 43 (0, 0) rfl)
          have B3 := Lib.hid (hB.out.trans (RX.out.mono hB.out.size))
          have OK := Lib.hid hok
          have BD := Lib.hid hbx
          have LN := Lib.hid (show x.ss.length = x.sn from hok.s.1)
          clear hc hxe hmem hok hbx HB
          go_upto_region 11 with fail
          clear c0 c1' c2' c3 c4 c5 c6 c7 c8 c9 c10 c11
          generalize wr.alloc (.cells #[.int .i64 x.kd, .int .i64 x.nd, .int .i64 x.at_, .int .i64 x.ex, .string x.qt, .int .i64 x.qk, .int .i64 x.qn, .int .i64 x.vd, .int .i64 x.id, .slice x.sa x.sn x.sc, .int .i64 x.got, .slice x.la x.ln x.lc] 43) = w3 at *
          generalize wr.heap.size = u at *
          obtain ⟨-, -, -, -, -, -, -, -, -, y9, -, -⟩ := SX.out
          simp only [Nat.zero_add] at y9
          go_wp2_with fail
          clear y9 SX
          go_loopw [13, 52] (fun sv kv wk => ∃ (i : Nat), i ≤ x.sn ∧ kv = .int .i64 i ∧ Hid (∀ y ∈ x.ss.take i, badS G H y = false) ∧ Hid (Below wq.heap.size wq wk)) (fun _ kv _ => x.sn - (intOf kv).toNat)
          case atStart => exact ⟨0, by omega, rfl, Lib.hid (by simp), B3⟩
          case round =>
            obtain ⟨i, hi, rfl, hSi, hBi⟩ := hrel
            have hbx := BD.out
            have HBi := Lib.hid (show Below w1.heap.size w1 wr from BQ.out.trans (hBi.out.mono BQ.out.size))
            by_cases hil : i < x.sn
            · obtain ⟨sb, so, hsa, hsc⟩ := (OK.out.s.below HBi.out).2 (by omega)
              have hz3 := hsc i hil
              obtain ⟨s, hse⟩ : ∃ s, x.ss.getD i s30 = s := ⟨_, rfl⟩
              have TS := Lib.hid (show x.ss.take (i + 1) = x.ss.take i ++ [s] from by rw [← hse]; exact take_succ_getD x.ss s30 i (by rw [LN.out]; exact hil))
              have ms : s ∈ x.ss := by rw [← hse, List.getD_eq_getElem?_getD, List.getElem?_eq_getElem (by rw [LN.out]; exact hil)]; exact List.getElem_mem _
              have MS := Lib.hid ms
              have WF := Lib.hid (show wfI s.1 from OK.out.ws s ms)
              rw [hse] at hz3
              obtain ⟨z0, z1, z2⟩ := hz3
              have SB := Lib.hid (below_one wr (.cells #[.int .i64 s.1, .int .i64 s.2.1, .int .i64 s.2.2] 45))
              have S0 := Lib.hid (s3_new3 wr s wr.heap.size 45 (0, 0) rfl)
              have B4 := Lib.hid (hBi.out.trans (SB.out.mono hBi.out.size))
              have HB4 := Lib.hid (HBi.out.trans (SB.out.mono HBi.out.size))
              have j1 : (0 : Int) ≤ (i : Int) := by omega
              have j2 : (i : Int) < (x.sn : Int) := by omega
              obtain ⟨jz, hjz⟩ : ∃ jz, joinsB G s = jz := ⟨_, rfl⟩
              have JZ := Lib.hid hjz
              have CJ := Lib.hid (vjoins_any W (some ⟨rb, ro, none⟩) n rc ga k gc mv G s.1 s.2.1 s.2.2 jz (wr.alloc (.cells #[.int .i64 s.1, .int .i64 s.2.1, .int .i64 s.2.2] 45)) ((HG.out.below HBi.out).below SB.out) hk hjz)
              obtain ⟨v0, v1, v2, v3⟩ := VC.out _ HB4.out
              have M4 := Lib.hid (MQ.out.below B4.out)
              have SA := Lib.hid hsa
              rw [hsa]
              clear hsc hse ms hjz hsa HBi
              go_upto_region 14 with fail
              clear z0 z1 z2
              generalize wr.alloc (.cells #[.int .i64 s.1, .int .i64 s.2.1, .int .i64 s.2.2] 45) = w5 at *
              generalize wr.heap.size = y at *
              obtain ⟨y0, y1, y2⟩ := S0.out
              cases jz
              · have SS := Lib.hid (show ∀ y ∈ x.ss.take (i + 1), badS G H y = false from by
                  rw [TS.out]; intro y hy
                  rcases List.mem_append.1 hy with hy | hy
                  · exact hSi.out y hy
                  · simp only [List.mem_singleton] at hy
                    rw [hy]; unfold badS; rw [JZ.out]; rfl)
                go_wp2_with (first | (go_at_call 39; refine CJ.out.mono ?_; rintro e w6 ⟨rfl, hb6⟩) | fail)
                have B6 := Lib.hid (B4.out.trans (hb6.mono B4.out.size))
                (try rw [← SA.out])
                go_roundw
                case rel => exact ⟨i + 1, by omega, by go_num, SS, B6⟩
                case measure => simp [intOf]; omega
              · obtain ⟨cnt, hcn, hmv⟩ := M4.out
                obtain ⟨t, hcc⟩ : ∃ t, H.count s.1 = t := ⟨_, rfl⟩
                have EC := Lib.hid (hfZ_get H s.1 t hcc)
                have MVW := Lib.hid (fun (w' : World) (hb : Below w5.heap.size w5 w') => hmv.below hb)
                have CCN := Lib.hid hcc
                have ARM := MVW
                clear hmv hcn hcc
                by_cases ht : t = 0
                · subst ht
                  have BADS := Lib.hid (show badS G H s = true from by unfold badS; rw [JZ.out, CCN.out]; rfl)
                  go_wp2_with (first | (go_at_call 39; refine CJ.out.mono ?_; rintro e w6 ⟨rfl, hb6⟩; have lk := (MVW.out _ hb6).get_run mapTz s.1 WF.out; rw [EC.out] at lk; obtain ⟨q0, q1, q2⟩ : w6.cell? ⟨y, 0, none⟩ = some (.int .i64 s.1) ∧ True ∧ True := ⟨(hb6.cell (p := ⟨y, 0, none⟩) (lt_of_cell y0)).trans y0, trivial, trivial⟩) | fail)
                  go_ret
                  have hb7 := HB4.out.trans (hb6.mono HB4.out.size)
                  exact ⟨by
                    rw [← HZ.out, show l1.any (badR G H) = true from List.any_eq_true.2 ⟨x, MX.out, List.any_eq_true.2 ⟨s, MS.out, BADS.out⟩⟩]
                    rfl, BX.out.trans (hb7.mono BX.out.size)⟩
                · have hte : ((t : Int) == 0) = false := by simp; omega
                  have SS := Lib.hid (show ∀ y ∈ x.ss.take (i + 1), badS G H y = false from by
                    rw [TS.out]; intro y hy
                    rcases List.mem_append.1 hy with hy | hy
                    · exact hSi.out y hy
                    · simp only [List.mem_singleton] at hy
                      rw [hy]; unfold badS; rw [JZ.out, CCN.out, decide_eq_false ht]; rfl)
                  go_wp2_with (first | (go_at_call 39; refine CJ.out.mono ?_; rintro e w6 ⟨rfl, hb6⟩; have lk := (MVW.out _ hb6).get_run mapTz s.1 WF.out; rw [EC.out] at lk; obtain ⟨q0, q1, q2⟩ : w6.cell? ⟨y, 0, none⟩ = some (.int .i64 s.1) ∧ True ∧ True := ⟨(hb6.cell (p := ⟨y, 0, none⟩) (lt_of_cell y0)).trans y0, trivial, trivial⟩) | fail)
                  have B6 := Lib.hid (B4.out.trans (hb6.mono B4.out.size))
                  (try rw [← SA.out])
                  go_roundw
                  case rel => exact ⟨i + 1, by omega, by go_num, SS, B6⟩
                  case measure => simp [intOf]; omega
            · obtain rfl : x.sn = i := by omega
              have hS4 := hSi.out
              rw [List.take_of_length_le (by rw [LN.out]; exact Nat.le_refl _)] at hS4
              have SR := Lib.hid (show ∀ y ∈ l1.take (j + 1), badR G H y = false from by
                rw [TK.out]; intro y hy
                rcases List.mem_append.1 hy with hy | hy
                · exact hS.out y hy
                · simp only [List.mem_singleton] at hy
                  rw [hy]; unfold badR; rw [List.any_eq_false]; intro s hs; simpa using hS4 s hs)
              clear hS4
              go_wp2_with fail
              go_roundw
              case rel => exact ⟨j + 1, by omega, by go_num, SR, hBi⟩
              case measure => simp [intOf]; omega
        · have hjn : l1.take j = l1 := List.take_of_length_le (by rw [N1.out]; omega)
          have hS2 := hS.out
          rw [hjn] at hS2
          have AN := Lib.hid (show l1.any (badR G H) = false from by
            rw [List.any_eq_false]; intro y hy; simpa using hS2 y hy)
          clear hjn hS2
          go_wp2_with fail
          go_ret
          exact ⟨by rw [← HZ.out, AN.out]; rfl, BX.out.trans (HB.out.mono BX.out.size)⟩
end Go.Proofs.Yteloiibejkflhaa
