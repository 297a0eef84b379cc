/- disk: whatever rots and is mended, each call answers as the document says -/
import Derived.Test.YtbbholdadgjelaaGreatPkE
import Derived.Test.YtbbholdadgjelaaGreatPkA
import Derived.Deep.CutBlock
namespace Go.Proofs.YtbbholdadgjelaaGreat
open Go.RowKit
set_option linter.unusedVariables false
set_option maxRecDepth 20000
theorem num14_any (v : Int) (w : World) : Calls Tryz.prog 8 #[.int .i64 v] w fun e w' => e = .returned (.int .i64 v) ∧ w = w' := by
  go_enter Tryz.func8, Tryz.ntmps8
  go_wp2_with fail
  go_ret
  exact ⟨rfl, rfl⟩
theorem sameB_yes14 (a1 a2 : Option Addr) (n c1 c2 : Nat) (z : List Nat) (w : World) (h1 : HoldsB w a1 n z) (h2 : HoldsB w a2 n z) (hl : n ≤ 1048576) :
    Calls Tryz.prog 16 #[.slice a1 n c1, .slice a2 n c2] w fun e w' => e = .returned (.bool true) ∧ Below w.heap.size w w' := by
  have := sameB_any a1 a2 n c1 n c2 z z w h1 h2 (by omega) (by omega)
  rw [decide_eq_true rfl] at this
  refine this.mono ?_
  rintro e w' ⟨rfl, m, rfl⟩
  exact ⟨rfl, below_drewN _ _⟩
def HoldsDA (w : World) (a : Option Addr) (n : Nat) (xs : Nat → DActV) : Prop :=
  0 < n → ∃ b o, a = some ⟨b, o, none⟩ ∧ ∀ i, i < n → w.cell? ⟨b, o + i * 4, none⟩ = some (.int .i64 (xs i).q) ∧ w.cell? ⟨b, o + i * 4 + 1, none⟩ = some (.int .i64 (xs i).s) ∧ w.cell? ⟨b, o + i * 4 + 2, none⟩ = some (.int .i64 (xs i).a) ∧ w.cell? ⟨b, o + i * 4 + 3, none⟩ = some (.int .i64 (xs i).x)
theorem HoldsDA.below {w w' : World} {a : Option Addr} {n : Nat} {xs : Nat → DActV} (h : HoldsDA w a n xs) (hb : Below w.heap.size w w') : HoldsDA w' a n xs := fun h0 => by
  obtain ⟨b, o, ha, hc⟩ := h h0
  have hlt := lt_of_cell (hc 0 h0).1
  refine ⟨b, o, ha, fun i hi => ?_⟩
  rw [hb.cell (p := ⟨b, o + i * 4, none⟩) hlt, hb.cell (p := ⟨b, o + i * 4 + 1, none⟩) hlt, hb.cell (p := ⟨b, o + i * 4 + 2, none⟩) hlt, hb.cell (p := ⟨b, o + i * 4 + 3, none⟩) hlt]
  exact hc i hi
theorem jx_first {w0 w : World} {B d M n l1 b l2 q : Nat} {f : Int → Option DI} {G : List DM} {x : DActV} (h : JX w0 B d M n f l1 b G l2 q x w) : (w.cell? ⟨q, 0, none⟩ = some (.int .i64 x.q) ∧ w.cell? ⟨q, 1, none⟩ = some (.int .i64 x.s) ∧ w.cell? ⟨q, 2, none⟩ = some (.int .i64 x.a) ∧ w.cell? ⟨q, 3, none⟩ = some (.int .i64 x.x)) ∧ JX w0 B d M n f l1 b G l2 q x w := ⟨h.X, h⟩
theorem ds_carry {w8 w' w'' : World} {q b : Nat} {u v : Value} (h : (Below w8.heap.size w8 w' ∧ w'.cell? ⟨q, 1, none⟩ = some u) ∧ w'.cell? ⟨b, 1, none⟩ = some v) (hb : Below w'.heap.size w' w'') : (Below w8.heap.size w8 w'' ∧ w''.cell? ⟨q, 1, none⟩ = some u) ∧ w''.cell? ⟨b, 1, none⟩ = some v :=
  ⟨⟨h.1.1.trans (hb.mono h.1.1.size), (hb.cell (p := ⟨q, 1, none⟩) (lt_of_cell h.1.2)).trans h.1.2⟩, (hb.cell (p := ⟨b, 1, none⟩) (lt_of_cell h.2)).trans h.2⟩
theorem jd_new {w0 w w1 w2 : World} {d M n b : Nat} {f : Int → Option DI} {G : List DM} {S : Nat → Prop} (h0 : Below w0.heap.size w0 w) (hD : DAt w.heap.size d M n f 0 w1) (hb : Below w.heap.size w w1) (hR : RDAt w2 b G 0 S) (hS : ∀ k, S k → w1.heap.size ≤ k) (hb2 : Below w1.heap.size w1 w2) (hL : G.length ≤ 1000) : JD w0 w.heap.size d M n f 0 b G 0 w2 :=
  ⟨hD.below hb2, ⟨S, hR, fun k hk => Nat.le_trans hb.size (hS k hk), fun k hk e => by have := hD.lt k hk; have := hS k e; omega⟩, (h0.trans (hb.mono h0.size)).trans (hb2.mono (Nat.le_trans h0.size hb.size)), h0.size, hL⟩
set_option maxHeartbeats 12800000 in
set_option maxRecDepth 100000 in
theorem diskScript_any (c : Cfg) (y : Int) (aa : Option Addr) (n cap : Nat) (xs : Nat → DActV) (w : World) (h : CfgOk w c) (hA : HoldsDA w aa n xs) (hn : n ≤ maxLen) (hok : ∀ i, i < n → DActOk (xs i)) :
    Calls Tryz.prog 3 #[.agg #[.slice c.wa c.wn c.wc, .slice c.ka c.kn c.kc, .int .i64 c.W, .int .i64 c.C, .int .i64 c.S, .int .i64 c.B, .int .i64 c.L, .int .i64 c.H, .int .i64 c.F, .int .i64 c.P, .int .i64 c.J, .int .i64 c.N], .int .i64 y, .slice aa n cap] w fun e w' => e = .returned (.bool true) ∧ Below w.heap.size w w' := by
  have BX := Lib.hid (below_one w (.cells #[.slice c.wa c.wn c.wc, .slice c.ka c.kn c.kc, .int .i64 c.W, .int .i64 c.C, .int .i64 c.S, .int .i64 c.B, .int .i64 c.L, .int .i64 c.H, .int .i64 c.F, .int .i64 c.P, .int .i64 c.J, .int .i64 c.N] 25))
  have IN := Lib.hid (cfgIn_new w c w.heap.size 25 (0, 0) rfl)
  have OK := Lib.hid h
  have HA := Lib.hid hA
  have HO := Lib.hid hok
  have CG := Lib.hid (greatC_strong c _ (h.below BX.out))
  unfold maxLen at hn
  clear h hA hok
  go_enter Tryz.func3, Tryz.ntmps3
  go_upto_region 1 with fail
  generalize w.alloc (.cells #[.slice c.wa c.wn c.wc, .slice c.ka c.kn c.kc, .int .i64 c.W, .int .i64 c.C, .int .i64 c.S, .int .i64 c.B, .int .i64 c.L, .int .i64 c.H, .int .i64 c.F, .int .i64 c.P, .int .i64 c.J, .int .i64 c.N] 25) = w1 at *
  obtain ⟨p, hp⟩ : ∃ p, w.heap.size = p := ⟨_, rfl⟩
  have HP := Lib.hid hp
  rw [hp] at IN
  try simp only [hp]
  clear hp
  have hI := IN.out
  unfold CfgIn at hI
  obtain ⟨i0, i1, i2, i3, i4, i5, i6, i7, i8, i9, i10, i11⟩ := hI
  have FIN := Lib.hid (fun w3 (hb3 : Below w.heap.size w w3) => (awakeD_any w3).mono (fun e w4 (h : _ ∧ _) => (show e = .returned (.bool true) ∧ Below w.heap.size w w4 from ⟨h.1, hb3.trans (h.2.mono hb3.size)⟩)))
  go_wp2_with fail
  refine CG.out.mono ?_
  rintro e w2 ⟨z, rfl, hb2, hz⟩
  have B2 := Lib.hid (BX.out.trans (hb2.mono BX.out.size))
  have I2 := Lib.hid (IN.out.below hb2)
  have HZ := Lib.hid hz
  clear hb2 CG i0 i1 i2 i3 i4 i5 i6 i7 i8 i9 i10 i11 hz
  have hI := I2.out
  unfold CfgIn at hI
  obtain ⟨i0, i1, i2, i3, i4, i5, i6, i7, i8, i9, i10, i11⟩ := hI
  by_cases h60 : z = true ∨ 60 < n
  · have aw : Calls Tryz.prog 5 #[] w2 (fun e w4 => e = .returned (.bool true) ∧ Below w.heap.size w w4) := FIN.out _ B2.out
    have AW := Lib.hid aw
    clear aw
    cases z
    · have hn6 : 60 < n := by rcases h60 with h | h; cases h; exact h
      have d6 : decide ((n : Int) > 60) = true := decide_eq_true (by omega)
      have d7 : decide (60 < n) = true := decide_eq_true hn6
      clear h60 HZ
      go_wp2_with fail
      refine AW.out.mono ?_
      rintro e w4 ⟨rfl, hb4⟩
      have B4 := Lib.hid hb4
      clear hb4
      go_wp2_with fail
      go_ret
      exact ⟨rfl, B4.out⟩
    · clear h60 HZ
      go_wp2_with fail
      refine AW.out.mono ?_
      rintro e w4 ⟨rfl, hb4⟩
      have B4 := Lib.hid hb4
      clear hb4
      go_wp2_with fail
      go_ret
      exact ⟨rfl, B4.out⟩
  have hn60 : n ≤ 60 := by
    rcases Nat.lt_or_ge 60 n with h | h
    · exact absurd (Or.inr h) h60
    · exact h
  obtain rfl : z = false := by
    cases z
    · rfl
    · exact absurd (Or.inl rfl) h60
  obtain ⟨⟨q1, q2⟩, q3, q4⟩ := HZ.out rfl
  have SM := Lib.hid (show c.small from ⟨fun t ht => by have := q2 t ht; omega, fun k hk => by have := q4 k hk; omega⟩)
  have d6 : decide ((n : Int) > 60) = false := decide_eq_false (by omega)
  have d7 : decide (60 < n) = false := decide_eq_false (by omega)
  clear HZ q1 q2 q3 q4 h60 BX IN
  by_cases hg : c.may = true ∧ 1 ≤ y ∧ y ≤ c.W
  · obtain ⟨hm, hy1, hy2⟩ := hg
    obtain ⟨-, -, hw, hc, -⟩ := may_parts hm
    obtain ⟨W, hW⟩ : ∃ W : Nat, c.W = (W : Int) := ⟨c.W.toNat, by omega⟩
    obtain ⟨C, hC⟩ : ∃ C : Nat, c.C = (C : Int) := ⟨c.C.toNat, by omega⟩
    obtain ⟨K, hK⟩ : ∃ K, Pl.keep W C (c.kn + 1) y = K := ⟨_, rfl⟩
    have hkn := may_kn hm OK.out
    have K6 := Lib.hid (show K.length ≤ 1000 from by
      rw [← hK]
      have := Pl.keep_len W C (c.kn + 1) y
      omega)
    have CN := Lib.hid (fun w' (hb : Below w.heap.size w w') => dnew_good c y W C K w' (OK.out.below hb) hm hW hC hy1 hy2 hK)
    have CRN := Lib.hid (fun w' (hb : Below w.heap.size w w') => rdnew_good c y W C K w' (OK.out.below hb) SM.out hm hW hC hy1 hy2 hK)
    clear hm hy1 hy2 hw hc hW hC hK hkn
    have CN2 := Lib.hid (CN.out w2 B2.out)
    clear CN
    go_wp2_with fail
    with_reducible refine CN2.out.mono ?_
    rintro e w3 ⟨d, M, nn, f, rfl, hD, hF, hb3⟩
    have D3 := Lib.hid hD; have F3 := Lib.hid hF; have B3 := Lib.hid hb3
    have I3 := Lib.hid (I2.out.below hb3)
    have CR3 := Lib.hid (CRN.out w3 (B2.out.trans (hb3.mono B2.out.size)))
    clear hD hF hb3 CN2 CRN i0 i1 i2 i3 i4 i5 i6 i7 i8 i9 i10 i11
    have hI := I3.out
    unfold CfgIn at hI
    obtain ⟨i0, i1, i2, i3, i4, i5, i6, i7, i8, i9, i10, i11⟩ := hI
    go_wp2_with fail
    with_reducible refine CR3.out.mono ?_
    rintro e w4 ⟨b, G, S, rfl, hR, hS, hG, hb4⟩
    have PR4 := Lib.hid (PRel.new F3.out hG)
    have J4 := Lib.hid (jd_new B2.out D3.out B3.out hR hS hb4 (by rw [hG.len]; exact K6.out))
    clear hR hS hG hb4 CR3 D3 F3 B3 I2 I3 K6 OK SM i0 i1 i2 i3 i4 i5 i6 i7 i8 i9 i10 i11
    obtain ⟨B, hB⟩ : ∃ B, w2.heap.size = B := ⟨_, rfl⟩
    rw [hB] at J4
    clear hB B2
    go_upto_region 9 with (go_at_call 8; (with_reducible refine (num14_any _ _).mono ?_); rintro e w' ⟨rfl, rfl⟩)
    go_wp2_with fail
    go_loopw [11] (fun iv wr => ∃ (j l : Nat) (f : Int → Option DI) (G : List DM), j ≤ n ∧ iv = .int .i64 j ∧ l ≤ j ∧ Hid (PRel f G) ∧ Hid (JD w B d M nn f l b G l wr)) (fun iv _ => n - (intOf iv).toNat)
    case atStart => exact ⟨0, 0, f, G, by omega, rfl, by omega, PR4, J4⟩
    case round =>
      clear PR4 J4
      obtain ⟨j, l, f, G, hj, rfl, hl, hPR, hJ⟩ := hrel
      rename World => wr
      have PR := Lib.hid hPR.out
      have J := Lib.hid hJ.out
      clear hPR hJ
      by_cases hlt : j < n
      · obtain ⟨ab, ao, rfl, hcc⟩ := (HA.out.below J.out.W) (by omega)
        have hX := hcc j hlt
        have hO := HO.out j hlt
        obtain ⟨x, hxx⟩ : ∃ x, xs j = x := ⟨_, rfl⟩
        rw [hxx] at hX hO
        have XO := Lib.hid hO
        obtain ⟨x0, x1, x2, x3⟩ := hX
        have J5 := Lib.hid (show JX w B d M nn f l b G l wr.heap.size x (wr.alloc (.cells #[.int .i64 x.q, .int .i64 x.s, .int .i64 x.a, .int .i64 x.x] 38)) from J.out.box (below_one wr _) (Nat.le_refl _) ⟨by rw [cell_alloc rfl]; rfl, by rw [cell_alloc rfl]; rfl, by rw [cell_alloc rfl]; rfl, by rw [cell_alloc rfl]; rfl⟩)
        clear hcc hxx hO
        go_upto_region 13 with fail
        clear x0 x1 x2 x3
        generalize wr.alloc (.cells #[.int .i64 x.q, .int .i64 x.s, .int .i64 x.a, .int .i64 x.x] 38) = w5 at *
        generalize wr.heap.size = q at *
        obtain ⟨x0, x1, x2, x3⟩ := J5.out.X
        go_upto_block 2 with fail
        go_cut [13] from 64 to 111 (fun v wc => v = .bool true ∧ Hid (∃ (l2 : Nat) (f2 : Int → Option DI) (G2 : List DM), l2 ≤ j + 1 ∧ PRel f2 G2 ∧ JX w B d M nn f2 l2 b G2 l2 q x wc))
        case first =>
          obtain ⟨zz, hzz⟩ : ∃ z, zfD f x.s = z := ⟨_, rfl⟩
          have ZZ := Lib.hid hzz
          have WS := Lib.hid (show wfI x.s from XO.out.2.1)
          have J6 := Lib.hid (jx_first (J5.out.below (Below.refl _ _).drew))
          have e1 : (zz == zz) = true := by simp
          clear hzz
          by_cases h0 : x.q = 0
          · have d0 : (x.q == 0) = true := by simpa using h0
            clear h0 x1 x2 x3
            go_upto_region 16 with fail
            clear x0
            go_region_held3 (fun w' => w'.cell? ⟨q, 0, none⟩ = some (.int .i64 x.q) ∧ w'.cell? ⟨q, 1, none⟩ = some (.int .i64 x.s) ∧ w'.cell? ⟨q, 2, none⟩ = some (.int .i64 x.a) ∧ w'.cell? ⟨q, 3, none⟩ = some (.int .i64 x.x))
              (first | assumption | exact J6.out.1 | exact JX.X (by assumption))
              (first
                | (go_at_call 9; (with_reducible refine (jrotP x.s x.a x.x zz _ J6.out.2 WS.out ZZ.out).mono ?_); rintro e w' ⟨rfl, f2, hst, hJ⟩)
                | (go_at_call 9; (with_reducible refine (jrotP x.s x.a x.x zz _ (by assumption) WS.out ZZ.out).mono ?_); rintro e w' ⟨rfl, f2, hst, hJ⟩)
                | (go_at_call 10; (with_reducible refine (jrotR x.s x.a x.x zz _ J6.out.2 PR.out ZZ.out).mono ?_); rintro e w' ⟨rfl, G2, hsg, hJ2⟩)
                | (go_at_call 10; (with_reducible refine (jrotR x.s x.a x.x zz _ (by assumption) PR.out ZZ.out).mono ?_); rintro e w' ⟨rfl, G2, hsg, hJ2⟩)
                | (go_at_call 8; (with_reducible refine (num14_any _ _).mono ?_); rintro e w' ⟨rfl, rfl⟩)
                | fail)
            all_goals
              have PN := Lib.hid (PR.out.step hst hsg)
              clear hst hsg
              have JN : Hid (JX w B d M nn f2 l b G2 l q x _) := Lib.hid (by assumption)
              go_wp2_with fail
              go_meet
              exact ⟨rfl, Lib.hid ⟨l, f2, G2, by omega, PN.out, JN.out⟩⟩
          · have d0 : (x.q == 0) = false := by simpa using h0
            by_cases h1 : x.q = 1
            · have d1 : (x.q == 1) = true := by simpa using h1
              clear h0 h1 x1 x2 x3
              go_upto_region 18 with fail
              clear x0
              go_region_held3 (fun w' => w'.cell? ⟨q, 0, none⟩ = some (.int .i64 x.q) ∧ w'.cell? ⟨q, 1, none⟩ = some (.int .i64 x.s) ∧ w'.cell? ⟨q, 2, none⟩ = some (.int .i64 x.a) ∧ w'.cell? ⟨q, 3, none⟩ = some (.int .i64 x.x))
                (first | assumption | exact J6.out.1 | exact JX.X (by assumption))
                (first
                  | (go_at_call 11; (with_reducible refine (jmendP x.s zz _ J6.out.2 WS.out ZZ.out).mono ?_); rintro e w' ⟨rfl, f2, hst, hJ⟩)
                  | (go_at_call 11; (with_reducible refine (jmendP x.s zz _ (by assumption) WS.out ZZ.out).mono ?_); rintro e w' ⟨rfl, f2, hst, hJ⟩)
                  | (go_at_call 12; (with_reducible refine (jmendR x.s zz _ J6.out.2 PR.out ZZ.out).mono ?_); rintro e w' ⟨rfl, G2, hsg, hJ2⟩)
                  | (go_at_call 12; (with_reducible refine (jmendR x.s zz _ (by assumption) PR.out ZZ.out).mono ?_); rintro e w' ⟨rfl, G2, hsg, hJ2⟩)
                  | (go_at_call 8; (with_reducible refine (num14_any _ _).mono ?_); rintro e w' ⟨rfl, rfl⟩)
                  | fail)
              all_goals
                have PN := Lib.hid (PR.out.step hst hsg)
                clear hst hsg
                have JN : Hid (JX w B d M nn f2 l b G2 l q x _) := Lib.hid (by assumption)
                go_wp2_with fail
                go_meet
                exact ⟨rfl, Lib.hid ⟨l, f2, G2, by omega, PN.out, JN.out⟩⟩
            · have d1 : (x.q == 1) = false := by simpa using h1
              by_cases h2 : x.q = 2
              · have d2 : (x.q == 2) = true := by simpa using h2
                obtain ⟨l1, hl1⟩ : ∃ l1, l + 1 = l1 := ⟨_, rfl⟩
                have e2 : (l : Int) + 1 = (l1 : Int) := by omega
                have JB := Lib.hid (show JX w B d M nn f l b G l1 q x (w5.setCell ⟨b, 1, none⟩ (.int .i64 (l1 : Int))) from hl1 ▸ jbornR w5 J5.out)
                have CB := Lib.hid (fun w' (h : JX w B d M nn f l b G l1 q x w') => (show Calls Tryz.prog 13 #[.pointer (some ⟨d, 0, none⟩)] w' fun e w'' => e = .returned (.int .i64 (l1 : Int)) ∧ JX w B d M nn f l1 b G l1 q x w'' from by
                  have := jbornP w' h (by omega)
                  rw [hl1] at this
                  exact this))
                obtain ⟨lv, lf⟩ := J5.out.lives
                have L1 := Lib.hid (show l1 ≤ j + 1 from by omega)
                have e3 : ((l1 : Int) == (l1 : Int)) = true := by simp
                clear h0 h1 h2 x1 x2 x3 hl1 e1
                go_upto_region 21 with fail
                clear x0 lv lf
                try rw [e2]
                clear e2
                generalize w5.setCell ⟨b, 1, none⟩ (.int .i64 (l1 : Int)) = w6 at *
                have J8 := Lib.hid (JB.out.below (Below.refl _ _).drew)
                go_region_held3 (fun w' => w'.cell? ⟨b, 1, none⟩ = some (.int .i64 (l1 : Int)))
                  (first | assumption | exact J8.out.lives.1 | exact (JX.lives (by assumption)).1)
                  (first
                    | (go_at_call 13; (with_reducible refine (CB.out _ J8.out).mono ?_); rintro e w' ⟨rfl, hJ⟩)
                    | fail)
                all_goals
                  have JN : Hid (JX w B d M nn f l1 b G l1 q x _) := Lib.hid (by assumption)
                  go_wp2_with fail
                  go_meet
                  exact ⟨rfl, Lib.hid ⟨l1, f, G, L1.out, PR.out, JN.out⟩⟩
              · have d2 : (x.q == 2) = false := by simpa using h2
                clear h0 h1 h2 x1 x2 x3
                go_wp2_with fail
                go_meet
                exact ⟨rfl, Lib.hid ⟨l, f, G, by omega, PR.out, J5.out⟩⟩
        case rest =>
          clear x0 x1 x2 x3
          obtain ⟨rfl, hV⟩ := hcut
          obtain ⟨l2, f2, G2, hl2, hP2, hJ2⟩ := hV.out
          have P2 := Lib.hid hP2; have J2 := Lib.hid hJ2
          clear hV hP2 hJ2 PR J J5
          obtain ⟨z, hz⟩ : ∃ z, zfD f2 x.s = z := ⟨_, rfl⟩
          obtain ⟨bs, hbs⟩ : ∃ bs, readF f2 x.s = bs := ⟨_, rfl⟩
          obtain ⟨m, hm⟩ : ∃ m, bs.length = m := ⟨_, rfl⟩
          obtain ⟨zr, hzr⟩ : ∃ zr, rotF f2 x.s = zr := ⟨_, rfl⟩
          have WS := Lib.hid (show wfI x.s from XO.out.2.1)
          have hm5 : m ≤ 524004 := by
            have := (readF_good J2.out.D x.s).1
            rw [hbs, hm] at this
            exact this
          have CP := Lib.hid (jreadP x.s z bs m wc J2.out.D WS.out hz hbs hm)
          have CR := Lib.hid (fun w' (h : JX w B d M nn f2 l2 b G2 l2 q x w') => (show Calls Tryz.prog 15 #[.pointer (some ⟨b, 0, none⟩), .int .i64 x.s] w' fun e w'' => ∃ a c, e = .returned (.tuple #[.slice a m c, .int .i64 z]) ∧ HoldsB w'' a m bs ∧ Below w'.heap.size w' w'' from by
            obtain ⟨S, r1, -⟩ := h.R
            exact jreadR x.s z bs m w' r1 h.L P2.out hz hbs hm))
          have CP2 := Lib.hid (fun w' (h : JX w B d M nn f2 l2 b G2 l2 q x w') => jrotP' x.s zr w' h.D WS.out hzr)
          have CR2 := Lib.hid (fun w' (h : JX w B d M nn f2 l2 b G2 l2 q x w') => (show Calls Tryz.prog 18 #[.pointer (some ⟨b, 0, none⟩), .int .i64 x.s] w' fun e w'' => e = .returned (.bool zr) ∧ Below w'.heap.size w' w'' from by
            obtain ⟨S, r1, -⟩ := h.R
            exact jrotR' x.s zr w' r1 h.L P2.out hzr))
          have CL := Lib.hid (fun w' (h : JX w B d M nn f2 l2 b G2 l2 q x w') => dlife_any d w' h.D)
          clear hz hbs hm hzr
          obtain ⟨x0, x1, x2, x3⟩ := J2.out.X
          go_wp2_with fail
          with_reducible refine CP.out.mono ?_
          rintro e w7 ⟨a, ca, rfl, ho, hh, hb⟩
          have O7 := Lib.hid ho; have H7 := Lib.hid hh; have B7 := Lib.hid hb
          have J7 := Lib.hid (J2.out.below hb)
          clear ho hh hb CP x0 x1 x2 x3
          obtain ⟨x0, x1, x2, x3⟩ := J7.out.X
          have CR7 := Lib.hid (CR.out w7 J7.out)
          clear CR
          go_wp2_with fail
          with_reducible refine CR7.out.mono ?_
          rintro e w8 ⟨a8, c8, rfl, hh, hb⟩
          have H8 := Lib.hid hh
          have G8 := Lib.hid (H7.out.below hb)
          have O8 := Lib.hid (owns_below O7.out hb)
          have B8 := Lib.hid (B7.out.trans (hb.mono B7.out.size))
          have J8 := Lib.hid (J7.out.below hb)
          clear hh hb CR7 O7 H7 B7 J7 x0 x1 x2 x3
          have X8 := Lib.hid (And.intro (And.intro (Below.refl w8.heap.size w8).drew J8.out.X.2.1) J8.out.lives.1)
          have JW := Lib.hid (fun w' (hb : Below w8.heap.size w8 w') => J8.out.below hb)
          have CS := Lib.hid (fun w' (hb : Below w8.heap.size w8 w') => sameB_yes14 a a8 m ca c8 bs w' (G8.out.below hb) (H8.out.below hb) (by omega))
          have e1 : (z != z) = false := by simp
          have e2 : (zr != zr) = false := by simp
          have e3 : ((l2 : Int) != (l2 : Int)) = false := by simp
          go_upto_region 24 with fail
          go_region_held3 (fun w' => (Below w8.heap.size w8 w' ∧ w'.cell? ⟨q, 1, none⟩ = some (.int .i64 x.s)) ∧ w'.cell? ⟨b, 1, none⟩ = some (.int .i64 (l2 : Int)))
            (first | assumption | exact X8.out | exact ds_carry (by assumption) (by assumption))
            (first
              | (go_at_call 16; (with_reducible refine (CS.out _ (And.left (And.left (by assumption)))).mono ?_); rintro e w' ⟨rfl, hb9⟩)
              | (go_at_call 8; (with_reducible refine (num14_any _ _).mono ?_); rintro e w' ⟨rfl, rfl⟩)
              | (go_at_call 17; (with_reducible refine (CP2.out _ (JW.out _ (And.left (And.left (by assumption))))).mono ?_); rintro e w' ⟨rfl, hb9⟩)
              | (go_at_call 18; (with_reducible refine (CR2.out _ (JW.out _ (And.left (And.left (by assumption))))).mono ?_); rintro e w' ⟨rfl, hb9⟩)
              | (go_at_call 19; (with_reducible refine (CL.out _ (JW.out _ (And.left (And.left (by assumption))))).mono ?_); rintro e w' ⟨rfl, rfl⟩)
              | fail)
          all_goals
            have hS : (Below w8.heap.size w8 w' ∧ w'.cell? ⟨q, 1, none⟩ = some (.int .i64 x.s)) ∧ w'.cell? ⟨b, 1, none⟩ = some (.int .i64 (l2 : Int)) := by assumption
            have B9 := Lib.hid hS.1.1
            have O9 := Lib.hid (owns_below O8.out B9.out)
            clear hS
            have C9 := Lib.hid (ovgBytes_any wc.heap.size a m ca _ w' O9.out (Nat.le_trans B8.out.size B9.out.size) (by omega))
            go_wp2_with fail
            with_reducible refine C9.out.mono ?_
            rintro e w10 ⟨rfl, hb, -⟩
            have JE := Lib.hid (J2.out.jd.below ((B8.out.trans (B9.out.mono B8.out.size)).trans hb))
            clear hb C9
            go_wp2_with fail
            go_roundw
            case rel => exact ⟨j + 1, l2, f2, G2, by omega, by go_num, hl2, P2, JE⟩
            case measure => simp [intOf] <;> omega
      · have hkn : ¬ (j : Int) < (n : Int) := by omega
        have AW := Lib.hid (FIN.out _ J.out.W)
        go_wp2_with fail
        refine AW.out.mono ?_
        rintro e w4 ⟨rfl, hb4⟩
        have B4 := Lib.hid hb4
        clear hb4
        go_wp2_with fail
        go_ret
        exact ⟨rfl, B4.out⟩
  · have hbad : c.may = false ∨ y < 1 ∨ c.W < y := by
      cases hm : c.may
      · exact Or.inl rfl
      · by_cases h1 : 1 ≤ y
        · by_cases h2 : y ≤ c.W
          · exact absurd ⟨hm, h1, h2⟩ hg
          · exact Or.inr (Or.inr (by omega))
        · exact Or.inr (Or.inl (by omega))
    obtain ⟨zm, hzm⟩ : ∃ zm, c.may = zm := ⟨_, rfl⟩
    rw [hzm] at hbad
    have CN := Lib.hid (fun w' (hb : Below w.heap.size w w') => dnew_bad c y zm w' (OK.out.below hb) hzm hbad)
    have CRN := Lib.hid (fun w' (hb : Below w.heap.size w w') => rdnew_bad c y zm w' (OK.out.below hb) SM.out hzm hbad)
    clear hg hbad hzm
    have CN2 := Lib.hid (CN.out w2 B2.out)
    clear CN
    go_wp2_with fail
    with_reducible refine CN2.out.mono ?_
    rintro e w3 ⟨rfl, hb3⟩
    have I3 := Lib.hid (I2.out.below hb3)
    have B3 := Lib.hid (B2.out.trans (hb3.mono B2.out.size))
    have CR3 := Lib.hid (CRN.out w3 B3.out)
    clear hb3 CN2 CRN i0 i1 i2 i3 i4 i5 i6 i7 i8 i9 i10 i11
    have hI := I3.out
    unfold CfgIn at hI
    obtain ⟨i0, i1, i2, i3, i4, i5, i6, i7, i8, i9, i10, i11⟩ := hI
    go_wp2_with fail
    with_reducible refine CR3.out.mono ?_
    rintro e w4 ⟨rfl, hb4⟩
    have B4 := Lib.hid (B3.out.trans (hb4.mono B3.out.size))
    have AW := Lib.hid (FIN.out _ B4.out)
    clear hb4 CR3 B3 B2 I3 I2 i0 i1 i2 i3 i4 i5 i6 i7 i8 i9 i10 i11
    go_wp2_with (first | (go_at_call 8; (with_reducible refine (num14_any _ _).mono ?_); rintro e w' ⟨rfl, rfl⟩) | (go_at_call 5; (with_reducible refine AW.out.mono ?_); rintro e w5 ⟨rfl, hb5⟩; have B5 := Lib.hid hb5; clear hb5))
    go_ret
    exact ⟨rfl, B5.out⟩
open Go.ChangeShapes Go.WideShapes Go.ChangeAt in
theorem open_da_arg {H : Type} {enc : TypeId × Value → H} {W : World} {base : Nat} {v : Value} {d : DataW H} {p : List MemPlace}
    (o : Value.okWide Tryz.prog W .any base 26 v) (h : DataW.Trod enc Tryz.prog W 0 (fun _ => true) true 26 v d p) :
    ∃ a n cap xs, v = .slice a n cap ∧ HoldsDA W a n xs ∧ n ≤ maxLen ∧ ∀ i, i < n → DActOk (xs i) := by
  obtain ⟨a, n, cap, R, rfl, _, h1, h2, hg, hc⟩ := open_rows_arg Tryz.underlying26 cells_dact (by omega) (fun cs => ∃ x : DActV, DActOk x ∧ cs = dactCells x) (fun _ _ _ h => dact_of h) o h
  have hx : ∀ i, ∃ x : DActV, i < n → DActOk x ∧ R i = dactCells x := fun i => by
    by_cases hi : i < n
    · obtain ⟨x, h3⟩ := hg i hi
      exact ⟨x, fun _ => h3⟩
    · exact ⟨⟨0, 0, 0, 0⟩, fun h => absurd h hi⟩
  refine ⟨a, n, cap, fun i => (hx i).choose, rfl, fun h0 => ?_, Nat.le_trans h1 h2, fun i hi => ((hx i).choose_spec hi).1⟩
  obtain ⟨b, o, ha, hcell⟩ := hc h0
  refine ⟨b, o, ha, fun i hi => ?_⟩
  have e := ((hx i).choose_spec hi).2
  have c0 := hcell i hi 0 (by omega)
  have c1 := hcell i hi 1 (by omega)
  have c2 := hcell i hi 2 (by omega)
  have c3 := hcell i hi 3 (by omega)
  rw [e] at c0 c1 c2 c3
  exact ⟨by simpa [dactCells] using c0, by simpa [dactCells] using c1, by simpa [dactCells] using c2, by simpa [dactCells] using c3⟩
open Go.ChangeShapes Go.WideShapes Go.ChangeAt in
theorem diskScript_walk {H : Type} {enc : TypeId × Value → H} (W : World) (base : Nat) (v0 v1 v2 : Value) (d0 d1 d2 : DataW H) (p0 p1 p2 : List MemPlace)
    (h0 : DataW.Trod enc Tryz.prog W 0 (fun _ => true) true 25 v0 d0 p0) (h1 : DataW.Trod enc Tryz.prog W 0 (fun _ => true) true 3 v1 d1 p1) (h2 : DataW.Trod enc Tryz.prog W 0 (fun _ => true) true 26 v2 d2 p2)
    (o0 : Value.okWide Tryz.prog W .any base 25 v0) (o1 : Value.okWide Tryz.prog W .any base 3 v1) (o2 : Value.okWide Tryz.prog W .any base 26 v2) :
    Calls Tryz.prog 3 #[v0, v1, v2] W fun e w' => e = .returned (.bool true) ∧ RowKit.Below W.heap.size W w' := by
  obtain ⟨c, rfl, ok⟩ := open_cfg o0 h0
  obtain ⟨x1, rfl, rfl, rfl, b1⟩ := open_int Tryz.underlying3 o1 h1
  obtain ⟨aa, n, cap, xs, rfl, hA, hn, hok⟩ := open_da_arg o2 h2
  exact diskScript_any c x1 aa n cap xs W ok hA hn hok
end Go.Proofs.YtbbholdadgjelaaGreat
