/- net: the script against the document's own net -/
import Derived.Test.YtecdigcadmokfaaPkC
import Derived.Deep.CutBlock
namespace Go.Proofs.Ytecdigcadmokfaa
open Go.RowKit
set_option linter.unusedVariables false
set_option maxRecDepth 20000
theorem cell_turn {S : Nat → Prop} {w w' : World} {p o : Nat} {v : Value} (h : w.cell? ⟨p, o, none⟩ = some v) (t : Turn S w w') (hn : ¬ S p) : w'.cell? ⟨p, o, none⟩ = some v := (t.cell (lt_of_cell h) hn).trans h
def C1 (p : Nat) (i : Int) (w : World) : Prop := w.cell? ⟨p, 1, none⟩ = some (.int .i64 i)
theorem C1.turn {S : Nat → Prop} {w w' : World} {p : Nat} {i : Int} (h : C1 p i w) (t : Turn S w w') (hn : ¬ S p) : C1 p i w' := cell_turn h t hn
def C123 (p : Nat) (i j x : Int) (w : World) : Prop := w.cell? ⟨p, 1, none⟩ = some (.int .i64 i) ∧ w.cell? ⟨p, 2, none⟩ = some (.int .i64 j) ∧ w.cell? ⟨p, 3, none⟩ = some (.int .i64 x)
theorem C123.turn {S : Nat → Prop} {w w' : World} {p : Nat} {i j x : Int} (h : C123 p i j x w) (t : Turn S w w') (hn : ¬ S p) : C123 p i j x w' := ⟨cell_turn h.1 t hn, cell_turn h.2.1 t hn, cell_turn h.2.2 t hn⟩
theorem NActIn.turn {S : Nat → Prop} {w w' : World} {p : Nat} {x : NAct} (h : NActIn w p 0 x) (t : Turn S w w') (hn : ¬ S p) : NActIn w' p 0 x := by
  obtain ⟨h0, h1, h2, h3, h4⟩ := h
  exact ⟨cell_turn h0 t hn, cell_turn h1 t hn, cell_turn h2 t hn, cell_turn h3 t hn, cell_turn h4 t hn⟩
def BC (w : World) (c : Nat) (v : Value) (w' : World) : Prop := Below w.heap.size w w' ∧ w'.cell? ⟨c, 0, none⟩ = some v
theorem bc_start {w : World} {c : Nat} {v : Value} (h : w.cell? ⟨c, 0, none⟩ = some v) : BC w c v w.drew := ⟨(Below.refl _ _).drew, h⟩
theorem bc_carry {w w' w'' : World} {c : Nat} {v : Value} (h : BC w c v w') (hb : Below w'.heap.size w' w'') : BC w c v w'' := ⟨h.1.trans (hb.mono h.1.size), (hb.cell (p := ⟨c, 0, none⟩) (lt_of_cell h.2)).trans h.2⟩
/-- what the loop keeps -/
def Inv (w0 wr : World) (b c : Nat) (most : Int) (j : Int) : Prop := ∃ P nx, Bth w0 wr b c most nx P ∧ PGood most P ∧ 0 ≤ nx ∧ nx ≤ j
set_option maxHeartbeats 12800000 in
set_option maxRecDepth 100000 in
theorem netScript_any (most : Int) (a : Option Addr) (n cap : Nat) (xs : Nat → NAct) (w : World) (h : HoldsNA w a n xs) (hn : n ≤ 9223372036854775807) :
    Calls Try.prog 3 #[.int .i64 most, .slice a n cap] w fun e w' => e = .returned (.bool true) ∧ Below w.heap.size w w' := by
  have H := Lib.hid h
  have CG := Lib.hid (greatN_any a n cap xs w h hn)
  clear h
  go_enter Try.func3, Try.ntmps3
  go_wp2_with fail
  refine CG.out.mono ?_
  rintro e w' ⟨z, rfl, rfl, hz⟩
  clear CG
  cases z
  · obtain ⟨hn100, hbn⟩ := hz rfl
    have HBN := Lib.hid hbn
    clear hz hbn
    by_cases hmost : 1 ≤ most ∧ most ≤ 64
    · have HM := Lib.hid hmost
      have hm1 := hmost.1
      have hm2 := hmost.2
      go_wp2_with fail
      refine (nNew_any most _ hmost).mono ?_
      rintro e w1 ⟨b, S, rfl, hq, hS, hb⟩
      have Q1 := Lib.hid hq; have SL := Lib.hid hS; have B1 := Lib.hid hb
      clear hq hS hb hmost
      go_wp2_with fail
      refine (rNew_any most _ HM.out).mono ?_
      rintro e w2 ⟨c, S2, rfl, hr, hS2, hb2⟩
      have V1 := Lib.hid (show Inv w w2 b c most ((0 : Nat) : Int) from ⟨[], 0, ⟨S, S2, ⟨⟨[], Q1.out.below hb2, rfl⟩, ⟨[], hr, rfl⟩, fun k h1 h2 => by have := Q1.out.lt k h1; have := hS2 k h2; omega, SL.out, fun k hk => Nat.le_trans B1.out.size (hS2 k hk), B1.out.trans (hb2.mono B1.out.size)⟩⟩, pgood_nil hm1, by omega, by omega⟩)
      clear hr hS2 hb2 Q1 SL B1
      go_wp2_with fail
      refine (nnum_any 0 _).mono ?_
      rintro e w' ⟨rfl, rfl⟩
      go_wp2_with fail
      go_loopw [9] (fun iv wr => ∃ j : Nat, j ≤ n ∧ iv = .int .i64 j ∧ Hid (Inv w wr b c most j)) (fun iv _ => n - (intOf iv).toNat)
      case atStart => exact ⟨0, by omega, rfl, V1⟩
      case round =>
        obtain ⟨j, hj, rfl, hF⟩ := hrel
        obtain ⟨P, nx, hV, hG, hx0, hxj⟩ := hF.out
        have FL := Lib.hid hV; have GL := Lib.hid hG
        have hl64 := hG.1
        clear hF hV hG V1
        by_cases hlt : j < n
        · rename World => wr
          obtain ⟨ab, ao, rfl, hc⟩ := (H.out.below FL.out.bel).1 (by omega)
          have hX := hc j hlt
          have hok := H.out.2 j hlt
          have hb100 := HBN.out j hlt
          obtain ⟨x, hxx⟩ : ∃ x, xs j = x := ⟨_, rfl⟩
          rw [hxx] at hX hok hb100
          have HOK := Lib.hid hok
          have A3 := Lib.hid (show NActIn (wr.alloc (.cells #[.int .i64 x.do_, .int .i64 x.i, .int .i64 x.j, .int .i64 x.x, .slice x.ba x.bn x.bc] 35)) wr.heap.size 0 x from nactIn_new wr x _ _ _ rfl)
          obtain ⟨x0, x1, x2, x3, x4⟩ := hX
          obtain ⟨S1, S2, c0⟩ := FL.out
          have NP1 := Lib.hid (show ¬ S1 wr.heap.size from fun hk => by have := c0.q.lt _ hk; omega)
          have NP2 := Lib.hid (show ¬ S2 wr.heap.size from fun hk => by have := c0.r.lt _ hk; omega)
          have C3 := Lib.hid (c0.more (below_one wr (.cells #[.int .i64 x.do_, .int .i64 x.i, .int .i64 x.j, .int .i64 x.x, .slice x.ba x.bn x.bc] 35)))
          have PLT := Lib.hid (show wr.heap.size < (wr.alloc (.cells #[.int .i64 x.do_, .int .i64 x.i, .int .i64 x.j, .int .i64 x.x, .slice x.ba x.bn x.bc] 35)).heap.size from by simp)
          clear hc hxx hok c0 FL
          go_upto_region 13 with fail
          clear x0 x1 x2 x3 x4
          generalize wr.alloc (.cells #[.int .i64 x.do_, .int .i64 x.i, .int .i64 x.j, .int .i64 x.x, .slice x.ba x.bn x.bc] 35) = w3 at *
          generalize wr.heap.size = p at *
          obtain ⟨x0, -⟩ := A3.out
          go_upto_block 2 with fail
          clear x0
          go_cut [11] from 53 to 212 (fun v wc => v = .bool true ∧ Hid (Inv w wc b c most ((j + 1 : Nat) : Int)))
          case first =>
            have hA := A3.out
            obtain ⟨-, x1, x2, x3, x4⟩ := hA
            simp only [Nat.zero_add] at x1 x2 x3 x4
            have hbl := HOK.out.1.len
            by_cases hd0 : x.do_ = 0
            · have d0 : (x.do_ == 0) = true := by simpa using hd0
              clear hd0
              have HB3 := Lib.hid (HOK.out.1.below C3.out.b)
              go_upto_region 16 with fail
              have CLB := Lib.hid (lendBytes_any x.ba x.bn x.bc (bytesV x.bs) w3 HB3.out.values HOK.out.2.1 (by omega) (bytesV_one x.bs))
              go_wp2_with fail
              refine CLB.out.mono ?_
              rintro e w4 ⟨rfl, hb4, hr4⟩
              have C4 := Lib.hid (C3.out.more hb4)
              have A4 := Lib.hid (A3.out.below hb4)
              have NQ1 := Lib.hid (show ¬ S1 w3.heap.size from fun hk => by have := C3.out.q.lt _ hk; omega)
              have NQ2 := Lib.hid (show ¬ S2 w3.heap.size from fun hk => by have := C3.out.r.lt _ hk; omega)
              have R4 := Lib.hid hr4
              have QW := Lib.hid (show w.heap.size ≤ w3.heap.size from C3.out.b.size)
              have HI4 := Lib.hid (show HoldsB w4 (some ⟨w3.heap.size, 0, none⟩) x.bn x.bs from holdsB_of_values (hr4.holds (by rw [bytesV_length, hbl])) HOK.out.1.2)
              obtain ⟨q, hq⟩ : ∃ q, w3.heap.size = q := ⟨_, rfl⟩
              have QLT := Lib.hid (show q < w4.heap.size from hq ▸ hr4.lt)
              rw [hq] at NQ1 NQ2 R4 QW HI4
              rw [hq]
              clear hb4 hr4 hq CLB x1 x2 x3 x4
              obtain ⟨z, hz⟩ : ∃ z, decide ((P.length : Int) < most) = z := ⟨_, rfl⟩
              obtain ⟨P2, hP2⟩ : ∃ P2, Nx.sendL most nx x.i x.j x.bs P = P2 := ⟨_, rfl⟩
              have G2 := Lib.hid (show PGood most P2 from hP2 ▸ pgood_send GL.out (by omega))
              have CN := Lib.hid (nSend_lit x.i x.j (nx + 1) (some ⟨q, 0, none⟩) x.bn (x.bn + 3) x.bs z P2 b w4 C4.out.q (by omega) hm2 HI4.out (some_none _) (by omega) (fun fb fo e => by injection e with e; injection e with e; subst e; exact NQ1.out) rfl hz hP2)
              have CR := Lib.hid (fun w5 (h5 : RNAtP w5 c most nx P S2) (hb5 : Below w.heap.size w w5) => rSend_lit x.i x.j (nx + 1) x.ba x.bn x.bc x.bs z P2 c w5 h5 (by omega) hm2 (HOK.out.1.below hb5) HOK.out.2.1 (by omega) (fun h0 fb fo e hs => by
                have h1 := C4.out.l2 fb hs
                obtain ⟨fb2, fo2, e2, hc⟩ := HOK.out.1.1.2 h0
                rw [e] at e2; injection e2 with e2; injection e2 with e2 e3; subst e2
                have := lt_of_cell (hc 0 h0); omega) rfl hz hP2)
              clear hz hP2
              obtain ⟨y0, y1, y2, y3, y4⟩ := A4.out
              simp only [Nat.zero_add] at y0 y1 y2 y3 y4
              go_wp2_with fail
              refine CN.out.mono ?_
              rintro e w5 ⟨rfl, hp5⟩
              have P5 := Lib.hid hp5
              have A5 := Lib.hid (A4.out.turn hp5.turn NP1.out)
              have R5 := Lib.hid (R4.out.turn hp5.turn NQ1.out)
              have K5 := Lib.hid (C4.out.r2 hp5)
              have B5 := Lib.hid (C4.out.b.trans (hp5.turn.below C4.out.l1 C4.out.b.size))
              clear hp5 y0 y1 y2 y3 y4 CN
              obtain ⟨y0, y1, y2, y3, y4⟩ := A5.out
              simp only [Nat.zero_add] at y0 y1 y2 y3 y4
              go_wp2_with fail
              refine (CR.out _ K5.out B5.out).mono ?_
              rintro e w6 ⟨rfl, hp6⟩
              have A6 := Lib.hid (A5.out.turn hp6.turn NP2.out)
              have R6 := Lib.hid (R5.out.turn hp6.turn NQ2.out)
              have B6 := Lib.hid (B5.out.trans (hp6.turn.below C4.out.l2 B5.out.size))
              obtain ⟨T1, T2, c6, s1, s2⟩ := C4.out.qrx P5.out hp6
              have C6 := Lib.hid c6
              have NT1 := Lib.hid (show ¬ T1 q from fun hk => (s1 q hk).elim NQ1.out (fun h => by have := QLT.out; omega))
              have NT2 := Lib.hid (show ¬ T2 q from fun hk => (s2 q hk).elim NQ2.out (fun h => by have := QLT.out; omega))
              clear hp6 c6 s1 s2 y0 y1 y2 y3 y4 CR
              obtain ⟨y0, y1, y2, y3, y4⟩ := A6.out
              simp only [Nat.zero_add] at y0 y1 y2 y3 y4
              have e1 : (nx == nx) = true := by simp
              have e2 : (z == z) = true := by simp
              have CK := Lib.hid (keptBytes_any q 5 x.bn (x.bs.map fun b : Nat => (b : Int)) x.ba x.bn x.bc (x.bs.map fun b : Nat => (b : Int)) w6 (by simpa using hbl) R6.out (HOK.out.1.below B6.out).1 (by omega) (by omega))
              rw [decide_eq_true rfl] at CK
              go_wp2_with fail
              refine CK.out.mono ?_
              rintro e w' ⟨rfl, m6, rfl⟩
              have C7 := Lib.hid (C6.out.more (below_drewN w6 m6))
              have R7 := Lib.hid (R6.out.below (below_drewN w6 m6))
              clear CK y0 y1 y2 y3 y4
              go_wp2_with fail
              refine (ovgBytes_any q (some ⟨q, 0, none⟩) x.bn (x.bn + 3) (bytesV x.bs) _ (R7.out.own (by rw [bytesV_length, hbl]) (by unfold maxLen; omega)) (by have := R7.out.lt; omega) (by omega)).mono ?_
              rintro e w8 ⟨rfl, -, hg8⟩
              have V8 := Lib.hid (show Inv w w8 b c most ((j + 1 : Nat) : Int) from ⟨P2, nx + 1, ⟨T1, T2, C7.out.over hg8 QW.out NT1.out NT2.out⟩, G2.out, by omega, by omega⟩)
              clear hg8
              go_wp2_with fail
              go_meet
              exact ⟨rfl, V8⟩
            · have d0 : (x.do_ == 0) = false := by simpa using hd0
              clear hd0
              by_cases hd1 : x.do_ = 1
              · have d1 : (x.do_ == 1) = true := by simpa using hd1
                clear hd1
                obtain ⟨z, hz⟩ : ∃ z, Nx.inL P x.i = z := ⟨_, rfl⟩
                obtain ⟨y0, hy⟩ : ∃ y0, Nx.atL P x.i = y0 := ⟨_, rfl⟩
                obtain ⟨P2, hP2⟩ : ∃ P2, Nx.cutL P x.i = P2 := ⟨_, rfl⟩
                have G2 := Lib.hid (show PGood most P2 from hP2 ▸ pgood_cut GL.out)
                have YB := Lib.hid (show y0.bs.length ≤ 100 from hy ▸ pgood_at GL.out)
                have CN := Lib.hid (nDeliver_lit x.i z y0 P2 b w3 C3.out.q (by omega) hz hy hP2)
                have CR := Lib.hid (fun w5 (h5 : RNAtP w5 c most nx P S2) => rDeliver_lit x.i z y0 P2 c w5 h5 (by omega) hz hy hP2)
                clear hz hy hP2
                go_upto_region 22 with fail
                go_wp2_with fail
                refine CN.out.mono ?_
                rintro e w5 ⟨⟨u, hu, rfl, hub, hus⟩, hp5⟩
                have P6 := Lib.hid (hp5.more (below_one w5 (.cells #[.int .i64 u.id, .int .i64 u.frm, .int .i64 u.dst, .slice u.fa u.fn u.fc, .bool u.sp] 42)))
                have U6 := Lib.hid (gmIn_new w5 u w5.heap.size 42 (0, 0) rfl)
                have UB6 := Lib.hid (hub.below (below_one w5 (.cells #[.int .i64 u.id, .int .i64 u.frm, .int .i64 u.dst, .slice u.fa u.fn u.fc, .bool u.sp] 42)))
                have US := Lib.hid hus; have UU := Lib.hid hu
                have K6 := Lib.hid ((C3.out.r2 hp5).below (below_one w5 (.cells #[.int .i64 u.id, .int .i64 u.frm, .int .i64 u.dst, .slice u.fa u.fn u.fc, .bool u.sp] 42)))
                have A6 := Lib.hid ((A3.out.turn hp5.turn NP1.out).below (below_one w5 (.cells #[.int .i64 u.id, .int .i64 u.frm, .int .i64 u.dst, .slice u.fa u.fn u.fc, .bool u.sp] 42)))
                have NS6 := Lib.hid (show ¬ S2 w5.heap.size from fun hk => by have := C3.out.r.lt _ hk; have := hp5.turn.size; omega)
                clear hub hus hu hp5 CN x1 x2 x3 x4
                go_upto_region 23 with fail
                generalize w5.alloc (.cells #[.int .i64 u.id, .int .i64 u.frm, .int .i64 u.dst, .slice u.fa u.fn u.fc, .bool u.sp] 42) = w6 at *
                generalize w5.heap.size = p6 at *
                obtain ⟨-, x1, -⟩ := A6.out
                simp only [Nat.zero_add] at x1
                go_wp2_with fail
                refine (CR.out _ K6.out).mono ?_
                rintro e w7 ⟨⟨v, hv, rfl, hvb, hvs⟩, hp7⟩
                have V8 := Lib.hid ((C3.out.qr P6.out hp7).more (below_one w7 (.cells #[.int .i64 v.id, .int .i64 v.frm, .int .i64 v.dst, .slice v.fa v.fn v.fc, .bool v.sp] 42)))
                have U8 := Lib.hid ((U6.out.of (w' := w7) fun i => hp7.turn.cell (lt_of_cell U6.out.1) NS6.out).below (below_one w7 (.cells #[.int .i64 v.id, .int .i64 v.frm, .int .i64 v.dst, .slice v.fa v.fn v.fc, .bool v.sp] 42)))
                have W8 := Lib.hid (gmIn_new w7 v w7.heap.size 42 (0, 0) rfl)
                have UB8 := Lib.hid ((show HoldsB w7 u.fa u.fn u.bs from holdsB_blocks UB6.out (fun fb fo e => hp7.turn.block fb (Nat.lt_of_lt_of_le (C3.out.q.lt fb (US.out fb fo e)) (Nat.le_trans P6.out.turn.size (Nat.le_refl _))) (C3.out.d fb (US.out fb fo e)))).below (below_one w7 (.cells #[.int .i64 v.id, .int .i64 v.frm, .int .i64 v.dst, .slice v.fa v.fn v.fc, .bool v.sp] 42)))
                have VB8 := Lib.hid (hvb.below (below_one w7 (.cells #[.int .i64 v.id, .int .i64 v.frm, .int .i64 v.dst, .slice v.fa v.fn v.fc, .bool v.sp] 42)))
                have VV := Lib.hid hv
                have PNE := Lib.hid (show p6 < w7.heap.size from lt_of_cell (w := w7) (b := p6) (o := 0) ((U6.out.of (w' := w7) fun i => hp7.turn.cell (lt_of_cell U6.out.1) NS6.out).1))
                clear hvb hvs hv hp7 CR x1
                go_upto_region 24 with fail
                generalize w7.alloc (.cells #[.int .i64 v.id, .int .i64 v.frm, .int .i64 v.dst, .slice v.fa v.fn v.fc, .bool v.sp] 42) = w8 at *
                generalize w7.heap.size = p8 at *
                obtain ⟨g0, g1, g2, g3, g4⟩ := U8.out
                obtain ⟨h0, h1, h2, h3, h4⟩ := W8.out
                have lp6 := lt_of_cell g0
                have lp8 := lt_of_cell h0
                have e2 : (z == z) = true := by simp
                have BU := Lib.hid (below_one w8 (.cells #[.int .i64 u.id, .int .i64 u.frm, .int .i64 u.dst, .slice u.fa u.fn u.fc, .bool u.sp] 42))
                have BV := Lib.hid (below_one (w8.alloc (.cells #[.int .i64 u.id, .int .i64 u.frm, .int .i64 u.dst, .slice u.fa u.fn u.fc, .bool u.sp] 42)) (.cells #[.int .i64 v.id, .int .i64 v.frm, .int .i64 v.dst, .slice v.fa v.fn v.fc, .bool v.sp] 42))
                have HU := Lib.hid (holdsG_one ((gmIn_new w8 u w8.heap.size 42 (0, 0) rfl).below BV.out) ((UB8.out.below BU.out).below BV.out))
                have HV := Lib.hid (holdsG_one (gmIn_new (w8.alloc (.cells #[.int .i64 u.id, .int .i64 u.frm, .int .i64 u.dst, .slice u.fa u.fn u.fc, .bool u.sp] 42)) v (w8.heap.size + 1) 42 (0, 0) (by simp)) ((VB8.out.below BU.out).below BV.out))
                have V9 := Lib.hid ((V8.out.more BU.out).more BV.out)
                have CS := Lib.hid (sameGrams_quiet _ _ 1 1 1 _ _ _ HU.out HV.out (by omega) (fun i hi => by
                  obtain rfl : i = 0 := by omega
                  exact npl_alike (UU.out.trans VV.out.symm)) (fun i hi => by
                  obtain rfl : i = 0 := by omega
                  have : v.bs = y0.bs := by rw [← VV.out]; rfl
                  show v.bs.length ≤ 1000000
                  rw [this]; have := YB.out; omega))
                go_wp2_with fail
                refine CS.out.mono ?_
                rintro e w' ⟨rfl, m9, rfl⟩
                have VA := Lib.hid (show Inv w _ b c most ((j + 1 : Nat) : Int) from ⟨P2, nx, V9.out.more (below_drewN _ m9), G2.out, by omega, by omega⟩)
                clear CS g0 g1 g2 g3 g4 h0 h1 h2 h3 h4
                go_wp2_with fail
                go_meet
                exact ⟨rfl, VA⟩
              · have d1 : (x.do_ == 1) = false := by simpa using hd1
                clear hd1
                by_cases hd2 : x.do_ = 2
                · have d2 : (x.do_ == 2) = true := by simpa using hd2
                  clear hd2
                  obtain ⟨z, hz⟩ : ∃ z, Nx.inL P x.i = z := ⟨_, rfl⟩
                  obtain ⟨y0, hy⟩ : ∃ y0, Nx.atL P x.i = y0 := ⟨_, rfl⟩
                  obtain ⟨P2, hP2⟩ : ∃ P2, Nx.cutL P x.i = P2 := ⟨_, rfl⟩
                  have G2 := Lib.hid (show PGood most P2 from hP2 ▸ pgood_cut GL.out)
                  have CN := Lib.hid (nDrop_lit x.i z y0 P2 b w3 C3.out.q (by omega) hz hy hP2)
                  have CR := Lib.hid (fun w5 (h5 : RNAtP w5 c most nx P S2) => rDeliver_lit x.i z y0 P2 c w5 h5 (by omega) hz hy hP2)
                  clear hz hy hP2
                  go_wp2_with fail
                  refine CN.out.mono ?_
                  rintro e w5 ⟨rfl, hp5⟩
                  have P6 := Lib.hid hp5
                  have K6 := Lib.hid (C3.out.r2 hp5)
                  have A6 := Lib.hid (A3.out.turn hp5.turn NP1.out)
                  clear hp5 CN x1 x2 x3 x4
                  obtain ⟨-, x1, -⟩ := A6.out
                  simp only [Nat.zero_add] at x1
                  go_wp2_with fail
                  refine (CR.out _ K6.out).mono ?_
                  rintro e w7 ⟨⟨v, hv, rfl, -, -⟩, hp7⟩
                  have V8 := Lib.hid (show Inv w (w7.alloc (.cells #[.int .i64 v.id, .int .i64 v.frm, .int .i64 v.dst, .slice v.fa v.fn v.fc, .bool v.sp] 42)) b c most ((j + 1 : Nat) : Int) from ⟨P2, nx, (C3.out.qr P6.out hp7).more (below_one w7 _), G2.out, by omega, by omega⟩)
                  have W8 := Lib.hid (gmIn_new w7 v w7.heap.size 42 (0, 0) rfl)
                  have hid : y0.id = v.id := by rw [← hv]; rfl
                  rw [hid]
                  clear hv hp7 CR x1
                  go_upto_region 28 with fail
                  generalize w7.alloc (.cells #[.int .i64 v.id, .int .i64 v.frm, .int .i64 v.dst, .slice v.fa v.fn v.fc, .bool v.sp] 42) = w8 at *
                  generalize w7.heap.size = p8 at *
                  obtain ⟨h0, -⟩ := W8.out
                  have e1 : (v.id == v.id) = true := by simp
                  have e2 : (z == z) = true := by simp
                  go_wp2_with fail
                  go_meet
                  exact ⟨rfl, V8⟩
                · have d2 : (x.do_ == 2) = false := by simpa using hd2
                  clear hd2
                  by_cases hd3 : x.do_ = 3
                  · have d3 : (x.do_ == 3) = true := by simpa using hd3
                    obtain ⟨z, hz⟩ : ∃ z, Nx.dblZ most P x.i = z := ⟨_, rfl⟩
                    obtain ⟨P2, hP2⟩ : ∃ P2, Nx.dblL most P x.i = P2 := ⟨_, rfl⟩
                    have G2 := Lib.hid (show PGood most P2 from hP2 ▸ pgood_dbl GL.out)
                    have CQ := Lib.hid (fun w' (h' : NAtP w' b most nx P S1) => nDouble_lit x.i z P2 b w' h' hm2 GL.out hz hP2)
                    have CR := Lib.hid (fun w' (h' : RNAtP w' c most nx P S2) => rDouble_lit x.i z P2 c w' h' hm2 GL.out hz hP2)
                    have CD := Lib.hid (C3.out.more (Below.refl _ _).drew)
                    have X1 := Lib.hid (show C1 p x.i w3 from x1)
                    have e1 : (z == z) = true := by simp
                    clear hd3 hz hP2 x1 x2 x3 x4
                    go_upto_region 30 with fail
                    go_region_held3 (fun w' => w'.cell? ⟨p, 1, none⟩ = some (.int .i64 x.i))
                      (first | assumption | exact X1.out | exact C1.turn (by assumption) (PN.turn (by assumption)) NP1.out | exact C1.turn (by assumption) (PR.turn (by assumption)) NP2.out)
                      (first
                        | (go_at_call 21; (with_reducible refine (CQ.out _ CD.out.q).mono ?_); rintro e w' ⟨rfl, hPN⟩)
                        | (go_at_call 21; (with_reducible refine (CQ.out _ (CD.out.q2 (by assumption))).mono ?_); rintro e w' ⟨rfl, hPN⟩)
                        | (go_at_call 22; (with_reducible refine (CR.out _ CD.out.r).mono ?_); rintro e w' ⟨rfl, hPR⟩)
                        | (go_at_call 22; (with_reducible refine (CR.out _ (CD.out.r2 (by assumption))).mono ?_); rintro e w' ⟨rfl, hPR⟩))
                    all_goals (go_wp2_with fail; go_meet)
                    all_goals exact ⟨rfl, (by first | exact Lib.hid ⟨P2, nx, CD.out.qr (by assumption) (by assumption), G2.out, by omega, by omega⟩ | exact Lib.hid ⟨P2, nx, CD.out.rq (by assumption) (by assumption), G2.out, by omega, by omega⟩)⟩
                  · have d3 : (x.do_ == 3) = false := by simpa using hd3
                    clear hd3
                    by_cases hd4 : x.do_ = 4
                    · have d4 : (x.do_ == 4) = true := by simpa using hd4
                      obtain ⟨z, hz⟩ : ∃ z, Nx.spZ P x.i = z := ⟨_, rfl⟩
                      obtain ⟨P2, hP2⟩ : ∃ P2, Nx.spL P x.i x.j x.x = P2 := ⟨_, rfl⟩
                      have G2 := Lib.hid (show PGood most P2 from hP2 ▸ pgood_sp GL.out)
                      have CQ := Lib.hid (fun w' (h' : NAtP w' b most nx P S1) => nSpoil_lit x.i x.j x.x z P2 b w' h' hm2 GL.out hz hP2)
                      have CR := Lib.hid (fun w' (h' : RNAtP w' c most nx P S2) => rSpoil_lit x.i x.j x.x z P2 c w' h' hm2 GL.out hz hP2)
                      have CD := Lib.hid (C3.out.more (Below.refl _ _).drew)
                      have X1 := Lib.hid (show C123 p x.i x.j x.x w3 from ⟨x1, x2, x3⟩)
                      have e1 : (z == z) = true := by simp
                      clear hd4 hz hP2 x1 x2 x3 x4
                      go_upto_region 32 with fail
                      go_region_held3 (fun w' => w'.cell? ⟨p, 1, none⟩ = some (.int .i64 x.i) ∧ w'.cell? ⟨p, 2, none⟩ = some (.int .i64 x.j) ∧ w'.cell? ⟨p, 3, none⟩ = some (.int .i64 x.x))
                        (first | assumption | exact X1.out | exact C123.turn (by assumption) (PN.turn (by assumption)) NP1.out | exact C123.turn (by assumption) (PR.turn (by assumption)) NP2.out)
                        (first
                          | (go_at_call 23; (with_reducible refine (CQ.out _ CD.out.q).mono ?_); rintro e w' ⟨rfl, hPN⟩)
                          | (go_at_call 23; (with_reducible refine (CQ.out _ (CD.out.q2 (by assumption))).mono ?_); rintro e w' ⟨rfl, hPN⟩)
                          | (go_at_call 24; (with_reducible refine (CR.out _ CD.out.r).mono ?_); rintro e w' ⟨rfl, hPR⟩)
                          | (go_at_call 24; (with_reducible refine (CR.out _ (CD.out.r2 (by assumption))).mono ?_); rintro e w' ⟨rfl, hPR⟩))
                      all_goals (go_wp2_with fail; go_meet)
                      all_goals exact ⟨rfl, (by first | exact Lib.hid ⟨P2, nx, CD.out.qr (by assumption) (by assumption), G2.out, by omega, by omega⟩ | exact Lib.hid ⟨P2, nx, CD.out.rq (by assumption) (by assumption), G2.out, by omega, by omega⟩)⟩
                    · have d4 : (x.do_ == 4) = false := by simpa using hd4
                      clear hd4 x1 x2 x3 x4
                      go_wp2_with fail
                      go_meet
                      exact ⟨rfl, Lib.hid ⟨P, nx, ⟨S1, S2, C3.out⟩, GL.out, by omega, by omega⟩⟩
          case rest =>
            obtain ⟨rfl, hV⟩ := hcut
            obtain ⟨P2, nx2, hV2, hG2, hn0, hn1⟩ := hV.out
            have V4 := Lib.hid hV2; have G4 := Lib.hid hG2
            have hl2 := hG2.1
            obtain ⟨r, hr⟩ : ∃ r, P2.length = r := ⟨_, rfl⟩
            have RL := Lib.hid hr
            rw [hr] at hl2
            obtain ⟨T1, T2, c4⟩ := hV2
            have C4 := Lib.hid c4
            clear hV hG2 hr c4
            rename World => w4
            go_wp2_with fail
            refine (nList_lit r b _ C4.out.q G4.out hm2 RL.out).mono ?_
            rintro e w5 ⟨na, nc, K, rfl, hK1, hK2, hO⟩
            obtain ⟨ra, rc, R, k5, hR, hRm⟩ := (C4.out.r.below hO.bel).holds
            rw [RL.out] at k5 hR
            have O5 := Lib.hid hO; have KM := Lib.hid hK2; have HR5 := Lib.hid hR; have RM := Lib.hid hRm; have KL := Lib.hid hK1
            have CL := Lib.hid (fun k => nLen_lit r b (w5.drewN k) ((C4.out.q.below hO.bel).below (below_drewN w5 k)) RL.out)
            have CS := Lib.hid (fun k => sameGrams_quiet na ra r nc rc K R (w5.drewN k) (KL.out ▸ (hO.more (below_drewN w5 k)).holds) (hR.below (below_drewN w5 k)) (by omega) (fun i _ => alike_maps hK2 hRm i) (fun i _ => maps_bs G4.out hRm i))
            have e1 : ((r : Int) != (r : Int)) = false := by simp
            clear hO hK1 hK2 hR hRm
            go_upto_region 34 with fail
            go_quiet ((first
              | (go_at_call 26; exact Calls.quiet_of_same ((CL.out _).mono (fun _ _ h => ⟨h.1, h.2.symm⟩)))
              | (go_at_call 19; exact Calls.quiet_of (CS.out _))))
            have O6 := Lib.hid (O5.out.more (below_drewN w5 nq))
            have V6 := Lib.hid (V4.out.more (O5.out.bel.trans ((below_drewN w5 nq).mono O5.out.bel.size)))
            have CO := Lib.hid (overGrams_any na nc K (w5.drewN nq) O6.out (by rw [KL.out]; omega) (gown_fn O6.out G4.out KM.out))
            rw [KL.out] at CO
            clear k5 CL CS
            generalize w5.drewN nq = w6 at *
            go_wp2_with fail
            refine CO.out.mono ?_
            rintro e w7 ⟨rfl, hb7⟩
            have V7 := Lib.hid (show Inv w w7 b c most ((j + 1 : Nat) : Int) from ⟨P2, nx2, V4.out.more (O6.out.bel.trans hb7), G4.out, hn0, hn1⟩)
            clear hb7 CO
            go_wp2_with fail
            go_roundw
            case rel => exact ⟨j + 1, by omega, by go_num, V7⟩
            case measure => simp [intOf] <;> omega
        · obtain rfl : j = n := by omega
          rename World => wr
          obtain ⟨r, hr⟩ : ∃ r, P.length = r := ⟨_, rfl⟩
          rw [hr] at hl64
          have RL := Lib.hid hr
          obtain ⟨T1, T2, c4⟩ := FL.out
          have C4 := Lib.hid c4
          obtain ⟨ra, rc, R, k5, hR, hRm⟩ := c4.r.holds
          rw [RL.out] at k5 hR
          have K5 := Lib.hid k5; have HR := Lib.hid hR; have RM := Lib.hid hRm
          have CA := Lib.hid (fun w' (h' : Below wr.heap.size wr w') => (nList_lit r b w' (C4.out.q.below h') GL.out hm2 RL.out))
          have CS := Lib.hid (fun na nc K w' (hk : K.length = r) (hm : K.map npl = P) (hg : HoldsG w' na r K) (h' : Below wr.heap.size wr w') => (sameGrams_quiet na ra r nc rc K R w' hg (HR.out.below h') (by omega) (fun i _ => alike_maps hm RM.out i) (fun i _ => maps_bs GL.out RM.out i)).mono (fun e w'' (h : _ ∧ _) => (show e = .returned (.bool true) ∧ Below w'.heap.size w' w'' from ⟨h.1, by obtain ⟨m, hm⟩ := h.2; rw [hm]; exact below_drewN _ _⟩)))
          clear hr c4 k5 hR hRm
          go_upto_region 37 with fail
          go_region_held3 (fun w' => Below wr.heap.size wr w' ∧ w'.cell? ⟨c, 0, none⟩ = some (.slice ra r rc))
            (first | assumption | exact bc_start K5.out | exact bc_carry (by assumption) (by assumption))
            (first
              | (go_at_call 25; (with_reducible refine (CA.out _ (And.left (by assumption))).mono ?_); rintro e w' ⟨na, nc, K, rfl, hkl, hkm, hO⟩; have hb9 := hO.bel; have hkg := hkl ▸ hO.holds)
              | (go_at_call 19; (with_reducible refine (CS.out _ _ _ _ (by assumption) (by assumption) (by assumption) (And.left (by assumption))).mono ?_); rintro e w' ⟨rfl, hb9⟩)
              | (go_at_call 8; (with_reducible refine (awakeN_any _).mono ?_); rintro e w' ⟨rfl, hb9⟩))
          all_goals
            rename_i S5
            have BE := Lib.hid (FL.out.bel.trans (S5.1.mono FL.out.bel.size))
            clear S5
            go_wp2_with fail
            go_ret
            exact ⟨rfl, BE.out⟩
    · have HM := Lib.hid hmost
      clear hmost
      go_wp2_with fail
      refine (nNew_bad most _ HM.out).mono ?_
      rintro e w' ⟨rfl, rfl⟩
      go_wp2_with fail
      refine (rNew_bad most _ HM.out).mono ?_
      rintro e w' ⟨rfl, rfl⟩
      go_wp2_with fail
      refine (nnum_any 2 _).mono ?_
      rintro e w' ⟨rfl, rfl⟩
      go_wp2_with fail
      refine (awakeN_any _).mono ?_
      rintro e w' ⟨rfl, hb3⟩
      go_wp2_with fail
      go_ret
      exact ⟨rfl, hb3⟩
  · go_wp2_with fail
    refine (awakeN_any _).mono ?_
    rintro e w' ⟨rfl, hb3⟩
    go_wp2_with fail
    go_ret
    exact ⟨rfl, hb3⟩
open Go.ChangeShapes Go.WideShapes Go.ChangeAt in
theorem netScript_walk {H : Type} {enc : TypeId × Value → H} (W : World) (base : Nat) (v0 v1 : Value) (d0 d1 : DataW H) (p0 p1 : List MemPlace)
    (h0 : DataW.Trod enc Try.prog W 0 (fun _ => true) true 3 v0 d0 p0) (h1 : DataW.Trod enc Try.prog W 0 (fun _ => true) true 22 v1 d1 p1) (o0 : Value.okWide Try.prog W .any base 3 v0) (o1 : Value.okWide Try.prog W .any base 22 v1) :
    Calls Try.prog 3 #[v0, v1] W fun e w' => e = .returned (.bool true) ∧ RowKit.Below W.heap.size W w' := by
  obtain ⟨most, rfl, rfl, rfl, _⟩ := open_int Try.underlying3 o0 h0
  obtain ⟨a, n, cap, xs, rfl, hn, hok, hc⟩ := open_nacts_arg o1 h1
  refine netScript_any most a n cap xs W ⟨fun hpos => ?_, hok⟩ (by unfold maxLen at hn; exact hn)
  obtain ⟨b, o, ha, hcell⟩ := hc hpos
  refine ⟨b, o, ha, fun i hi => ?_⟩
  have c := hcell i hi
  exact ⟨c 0 (by omega), c 1 (by omega), c 2 (by omega), c 3 (by omega), c 4 (by omega)⟩
end Go.Proofs.Ytecdigcadmokfaa
