/- place: as the document says -/
import Derived.Test.YtbimbgcejeeinaaPkG
import Derived.Test.YtbimbgcejeeinaaPkH
import Derived.Test.YtbimbgcejeeinaaPkA
import Derived.Test.YtbimbgcejeeinaaPkF
import Derived.Test.YtbimbgcejeeinaaPkB
import Derived.Laws.AppendOwn
import Derived.Deep.RegionHeld3
import Derived.Deep.DeepCutAuto
namespace Go.Proofs.Ytbimbgcejeeinaa
open Go.RowKit
set_option linter.unusedVariables false
set_option maxRecDepth 20000
theorem num13_any (v : Int) (w : World) : Calls Try.prog 24 #[.int .i64 v] w fun e w' => e = .returned (.int .i64 v) ∧ w = w' := by
  go_enter Try.func24, Try.ntmps24
  go_wp2_with fail
  go_ret
  exact ⟨rfl, rfl⟩
theorem sameI_yes13 (a1 a2 : Option Addr) (n c1 c2 : Nat) (z : List Int) (w : World) (h1 : HoldsI .i64 w a1 n z) (h2 : HoldsI .i64 w a2 n z) (hl : n ≤ 1048576) :
    Calls Try.prog 18 #[.slice a1 n c1, .slice a2 n c2] w fun e w' => e = .returned (.bool true) ∧ Below w.heap.size w w' := by
  have := sameInts_any a1 a2 n c1 n c2 z z w h1 h2 (by omega) (by omega)
  rw [decide_eq_true rfl] at this
  refine this.mono ?_
  rintro e w' ⟨rfl, m, rfl⟩
  exact ⟨rfl, below_drewN _ _⟩
theorem own_apart {wu wv : World} {Bu Bv nu nv : Nat} {eu ev : TypeId} {u v : Value} {xu xv : List Value} (hu : wu.ownsRow Bu eu 1 u nu xu) (hv : wv.ownsRow Bv ev 1 v nv xv) (h : wu.heap.size ≤ Bv ∨ wv.heap.size ≤ Bu) : ∀ g, u.ownBlock = some g → v.ownBlock ≠ some g := fun g e1 e2 => by
  have h1 := hu.lt g e1
  have h2 := hv.lt g e2
  omega
theorem own_base {w : World} {B B' : Nat} {e : TypeId} {size n : Nat} {v : Value} {xs : List Value} (h : w.ownsRow B e size v n xs) (hB : B' ≤ B) : w.ownsRow B' e size v n xs := by
  refine ⟨h.1, h.2.imp id (fun ⟨g, cap, cur, hv, hge, r⟩ => ⟨g, cap, cur, hv, Nat.le_trans hB hge, r⟩)⟩
/-- what the program answered, three lists apart, beside the configuration -/
structure PT (w0 : World) (p B : Nat) (c : Cfg) (LA : List Int) (na : Nat) (aa : Option Addr) (ac : Nat) (LK : List Int) (nk : Nat) (ka : Option Addr) (kc : Nat) (zs : List Tx) (kd : Nat) (da : Option Addr) (dc : Nat) (w : World) : Prop where
  a : w.ownsRow B 3 1 (.slice aa na ac) na (numsV LA)
  k : w.ownsRow B 3 1 (.slice ka nk kc) nk (numsV LK)
  d : w.ownsRow B 9 1 (.slice da kd dc) kd (strsV zs)
  ak : ∀ g, (Value.slice aa na ac).ownBlock = some g → (Value.slice ka nk kc).ownBlock ≠ some g
  ad : ∀ g, (Value.slice aa na ac).ownBlock = some g → (Value.slice da kd dc).ownBlock ≠ some g
  kd : ∀ g, (Value.slice ka nk kc).ownBlock = some g → (Value.slice da kd dc).ownBlock ≠ some g
  b : Below w0.heap.size w0 w
  i : CfgIn w p c
  s : B ≤ w.heap.size
theorem PT.below {w0 w w' : World} {p B na nk kd ac kc dc : Nat} {c : Cfg} {LA LK : List Int} {zs : List Tx} {aa ka da : Option Addr} (h : PT w0 p B c LA na aa ac LK nk ka kc zs kd da dc w) (hb : Below w.heap.size w w') : PT w0 p B c LA na aa ac LK nk ka kc zs kd da dc w' :=
  ⟨owns_below h.a hb, owns_below h.k hb, owns_below h.d hb, h.ak, h.ad, h.kd, h.b.trans (hb.mono h.b.size), h.i.below hb, Nat.le_trans h.s hb.size⟩
theorem apart_row {u v : Option Nat} (h : ∀ g, u = some g → v ≠ some g) : v = none ∨ v ≠ u := by
  cases u with
  | none => cases v <;> simp
  | some g => exact Or.inr (h g rfl)
theorem pt_carry {w0 w5 w w' : World} {p : Nat} {c : Cfg} (h : (Below w0.heap.size w0 w ∧ Below w5.heap.size w5 w) ∧ CfgIn w p c) (hb : Below w.heap.size w w') : (Below w0.heap.size w0 w' ∧ Below w5.heap.size w5 w') ∧ CfgIn w' p c :=
  ⟨⟨h.1.1.trans (hb.mono h.1.1.size), h.1.2.trans (hb.mono h.1.2.size)⟩, h.2.below hb⟩
theorem pq_carry {w0 w w' : World} {p : Nat} {c : Cfg} (h : Below w0.heap.size w0 w ∧ CfgIn w p c) (hb : Below w.heap.size w w') : Below w0.heap.size w0 w' ∧ CfgIn w' p c :=
  ⟨h.1.trans (hb.mono h.1.size), h.2.below hb⟩
set_option maxHeartbeats 12800000 in
set_option maxRecDepth 100000 in
theorem placeTells_any (c : Cfg) (x y : Int) (w : World) (h : CfgOk w c) :
    Calls Try.prog 3 #[.agg #[.slice c.wa c.wn c.wc, .slice c.ka c.kn c.kc, .int .i64 c.W, .int .i64 c.C, .int .i64 c.S, .int .i64 c.B, .int .i64 c.L, .int .i64 c.H, .int .i64 c.F, .int .i64 c.P, .int .i64 c.J, .int .i64 c.N], .int .i64 x, .int .i64 y] w fun e w' => e = .returned (.bool true) ∧ Below w.heap.size w w' := by
  have BX := Lib.hid (below_one w (.cells #[.slice c.wa c.wn c.wc, .slice c.ka c.kn c.kc, .int .i64 c.W, .int .i64 c.C, .int .i64 c.S, .int .i64 c.B, .int .i64 c.L, .int .i64 c.H, .int .i64 c.F, .int .i64 c.P, .int .i64 c.J, .int .i64 c.N] 25))
  have IN := Lib.hid (cfgIn_new w c w.heap.size 25 (0, 0) rfl)
  have OK := Lib.hid h
  have CG := Lib.hid (greatC_strong c _ (h.below BX.out))
  clear h
  go_enter Try.func3, Try.ntmps3
  go_upto_region 1 with fail
  generalize w.alloc (.cells #[.slice c.wa c.wn c.wc, .slice c.ka c.kn c.kc, .int .i64 c.W, .int .i64 c.C, .int .i64 c.S, .int .i64 c.B, .int .i64 c.L, .int .i64 c.H, .int .i64 c.F, .int .i64 c.P, .int .i64 c.J, .int .i64 c.N] 25) = w1 at *
  obtain ⟨p, hp⟩ : ∃ p, w.heap.size = p := ⟨_, rfl⟩
  have HP := Lib.hid hp
  rw [hp] at IN
  try simp only [hp]
  clear hp
  have hI := IN.out
  unfold CfgIn at hI
  obtain ⟨i0, i1, i2, i3, i4, i5, i6, i7, i8, i9, i10, i11⟩ := hI
  go_wp2_with fail
  refine CG.out.mono ?_
  rintro e w2 ⟨z, rfl, hb2, hz⟩
  have B2 := Lib.hid (BX.out.trans (hb2.mono BX.out.size))
  have I2 := Lib.hid (IN.out.below hb2)
  have HZ := Lib.hid hz
  clear hb2 CG i0 i1 i2 i3 i4 i5 i6 i7 i8 i9 i10 i11 hz
  cases z
  case true =>
    clear HZ
    have hI := I2.out
    unfold CfgIn at hI
    obtain ⟨i0, i1, i2, i3, i4, i5, i6, i7, i8, i9, i10, i11⟩ := hI
    go_wp2_with fail
    refine (awakePl_any _).mono ?_
    rintro e w4 ⟨rfl, hb4⟩
    have B4 := Lib.hid (B2.out.trans (hb4.mono B2.out.size))
    clear hb4
    go_wp2_with fail
    go_ret
    exact ⟨rfl, B4.out⟩
  obtain ⟨⟨q1, q2⟩, q3, q4⟩ := HZ.out rfl
  have SM := Lib.hid (show c.small from ⟨fun t ht => by have := q2 t ht; omega, fun k hk => by have := q4 k hk; omega⟩)
  have hwl := OK.out.1.len
  obtain ⟨LA, na, ha, CA, CRA⟩ := cop_both c x w OK.out SM.out
  obtain ⟨LK, nk, hk, CK, CRK⟩ := keep_both c y w OK.out SM.out
  obtain ⟨zs, kd, hd, CD, CRD⟩ := words_both c x w OK.out SM.out q3 (by omega)
  obtain ⟨I, m, zi, hm, CI, CRI⟩ := image_both c x w OK.out SM.out
  have CA := Lib.hid CA; have CRA := Lib.hid CRA; have CK := Lib.hid CK; have CRK := Lib.hid CRK; have CD := Lib.hid CD; have CRD := Lib.hid CRD; have CI := Lib.hid CI; have CRI := Lib.hid CRI
  clear HZ q1 q2 q3 q4 hwl IN BX
  have PB := Lib.hid (lt_of_cell I2.out.1)
  have hI := I2.out
  unfold CfgIn at hI
  obtain ⟨i0, i1, i2, i3, i4, i5, i6, i7, i8, i9, i10, i11⟩ := hI
  go_upto_region 3 with fail
  go_cut [7, 8, 9] from 18 to 26 (fun ua uk ud wc => ∃ aa ac ka kc da dc, ua = .slice aa na ac ∧ uk = .slice ka nk kc ∧ ud = .slice da kd dc ∧ Hid (PT w p w2.heap.size c LA na aa ac LK nk ka kc zs kd da dc wc))
  case first =>
    have SB := Lib.hid (show Below w.heap.size w w2 ∧ w2.cell? ⟨p, 0, none⟩ = some (.slice c.wa c.wn c.wc) ∧ w2.cell? ⟨p, 1, none⟩ = some (.slice c.ka c.kn c.kc) ∧ w2.cell? ⟨p, 2, none⟩ = some (.int .i64 c.W) ∧ w2.cell? ⟨p, 3, none⟩ = some (.int .i64 c.C) ∧ w2.cell? ⟨p, 4, none⟩ = some (.int .i64 c.S) ∧ w2.cell? ⟨p, 5, none⟩ = some (.int .i64 c.B) ∧ w2.cell? ⟨p, 6, none⟩ = some (.int .i64 c.L) ∧ w2.cell? ⟨p, 7, none⟩ = some (.int .i64 c.H) ∧ w2.cell? ⟨p, 8, none⟩ = some (.int .i64 c.F) ∧ w2.cell? ⟨p, 9, none⟩ = some (.int .i64 c.P) ∧ w2.cell? ⟨p, 10, none⟩ = some (.int .i64 c.J) ∧ w2.cell? ⟨p, 11, none⟩ = some (.int .i64 c.N) from ⟨B2.out, I2.out⟩)
    clear i0 i1 i2 i3 i4 i5 i6 i7 i8 i9 i10 i11
    go_region_held3 (fun w' => Below w.heap.size w w' ∧ w'.cell? ⟨p, 0, none⟩ = some (.slice c.wa c.wn c.wc) ∧ w'.cell? ⟨p, 1, none⟩ = some (.slice c.ka c.kn c.kc) ∧ w'.cell? ⟨p, 2, none⟩ = some (.int .i64 c.W) ∧ w'.cell? ⟨p, 3, none⟩ = some (.int .i64 c.C) ∧ w'.cell? ⟨p, 4, none⟩ = some (.int .i64 c.S) ∧ w'.cell? ⟨p, 5, none⟩ = some (.int .i64 c.B) ∧ w'.cell? ⟨p, 6, none⟩ = some (.int .i64 c.L) ∧ w'.cell? ⟨p, 7, none⟩ = some (.int .i64 c.H) ∧ w'.cell? ⟨p, 8, none⟩ = some (.int .i64 c.F) ∧ w'.cell? ⟨p, 9, none⟩ = some (.int .i64 c.P) ∧ w'.cell? ⟨p, 10, none⟩ = some (.int .i64 c.J) ∧ w'.cell? ⟨p, 11, none⟩ = some (.int .i64 c.N))
      (first | assumption | exact ⟨SB.out.1.drew, SB.out.2⟩ | exact pq_carry (by assumption) (by assumption))
      (first
        | (go_at_call 9; (with_reducible refine (CA.out _ (And.left (by assumption))).mono ?_); rintro e w' ⟨aa, ac, rfl, hao, hab⟩)
        | (go_at_call 10; (with_reducible refine (CK.out _ (And.left (by assumption))).mono ?_); rintro e w' ⟨ka, kc, rfl, hko, hkb⟩)
        | (go_at_call 11; (with_reducible refine (CD.out _ (And.left (by assumption))).mono ?_); rintro e w' ⟨da, dc, rfl, hdo, hdb⟩)
        | fail)
    all_goals
      have hS : Below w.heap.size w w' ∧ w'.cell? ⟨p, 0, none⟩ = some (.slice c.wa c.wn c.wc) ∧ w'.cell? ⟨p, 1, none⟩ = some (.slice c.ka c.kn c.kc) ∧ w'.cell? ⟨p, 2, none⟩ = some (.int .i64 c.W) ∧ w'.cell? ⟨p, 3, none⟩ = some (.int .i64 c.C) ∧ w'.cell? ⟨p, 4, none⟩ = some (.int .i64 c.S) ∧ w'.cell? ⟨p, 5, none⟩ = some (.int .i64 c.B) ∧ w'.cell? ⟨p, 6, none⟩ = some (.int .i64 c.L) ∧ w'.cell? ⟨p, 7, none⟩ = some (.int .i64 c.H) ∧ w'.cell? ⟨p, 8, none⟩ = some (.int .i64 c.F) ∧ w'.cell? ⟨p, 9, none⟩ = some (.int .i64 c.P) ∧ w'.cell? ⟨p, 10, none⟩ = some (.int .i64 c.J) ∧ w'.cell? ⟨p, 11, none⟩ = some (.int .i64 c.N) := by assumption
      have s1 := hab.size
      have s2 := hkb.size
      have s3 := hdb.size
      simp only [World.size_drew] at s1 s2 s3
      have P3 := Lib.hid (show PT w p w2.heap.size c LA na aa ac LK nk ka kc zs kd da dc w' from
        ⟨own_base (by first | exact hao | exact owns_below hao hkb | exact owns_below hao hdb | exact owns_below (owns_below hao hkb) hdb | exact owns_below (owns_below hao hdb) hkb) (by first | omega | (simp only [World.size_drew]; omega)),
         own_base (by first | exact hko | exact owns_below hko hab | exact owns_below hko hdb | exact owns_below (owns_below hko hab) hdb | exact owns_below (owns_below hko hdb) hab) (by first | omega | (simp only [World.size_drew]; omega)),
         own_base (by first | exact hdo | exact owns_below hdo hab | exact owns_below hdo hkb | exact owns_below (owns_below hdo hab) hkb | exact owns_below (owns_below hdo hkb) hab) (by first | omega | (simp only [World.size_drew]; omega)),
         own_apart hao hko (by first | omega | (simp only [World.size_drew]; omega)), own_apart hao hdo (by first | omega | (simp only [World.size_drew]; omega)), own_apart hko hdo (by first | omega | (simp only [World.size_drew]; omega)), hS.1, hS.2, by omega⟩)
      clear hao hko hdo hab hkb hdb s1 s2 s3 hS SB
      go_wp2_with fail
      go_meet
      exact ⟨aa, ac, ka, kc, da, dc, rfl, rfl, rfl, P3⟩
  case rest =>
    clear i0 i1 i2 i3 i4 i5 i6 i7 i8 i9 i10 i11
    obtain ⟨aa, ac, ka, kc, da, dc, rfl, rfl, rfl, hP⟩ := hcut
    have P3 := Lib.hid hP.out
    have hI := P3.out.i
    unfold CfgIn at hI
    obtain ⟨i0, i1, i2, i3, i4, i5, i6, i7, i8, i9, i10, i11⟩ := hI
    have CI3 := Lib.hid (CI.out wc P3.out.b)
    clear hP CI
    go_wp2_with fail
    with_reducible refine CI3.out.mono ?_
    rintro e w4 ⟨xa, xc, rfl, xo, xh, hb⟩
    have P4 := Lib.hid (P3.out.below hb)
    have X4 := Lib.hid (own_base xo P3.out.s)
    have XL := Lib.hid (show ∀ g, (Value.slice xa m xc).ownBlock = some g → wc.heap.size ≤ g from fun g e => (xo.lt g e).1)
    have XA := Lib.hid (show ∀ g, (Value.slice aa na ac).ownBlock = some g → (Value.slice xa m xc).ownBlock ≠ some g from fun g e1 e2 => by
      have h1 := (P3.out.a.lt g e1).2
      have h2 := XL.out g e2
      omega)
    have XK := Lib.hid (show ∀ g, (Value.slice ka nk kc).ownBlock = some g → (Value.slice xa m xc).ownBlock ≠ some g from fun g e1 e2 => by
      have h1 := (P3.out.k.lt g e1).2
      have h2 := XL.out g e2
      omega)
    have XD := Lib.hid (show ∀ g, (Value.slice da kd dc).ownBlock = some g → (Value.slice xa m xc).ownBlock ≠ some g from fun g e1 e2 => by
      have h1 := (P3.out.d.lt g e1).2
      have h2 := XL.out g e2
      omega)
    have XH4 := Lib.hid xh
    have CRI4 := Lib.hid (CRI.out w4 P4.out.b)
    clear CI3 CRI xo xh hb i0 i1 i2 i3 i4 i5 i6 i7 i8 i9 i10 i11
    have hI := P4.out.i
    unfold CfgIn at hI
    obtain ⟨i0, i1, i2, i3, i4, i5, i6, i7, i8, i9, i10, i11⟩ := hI
    go_wp2_with fail
    with_reducible refine CRI4.out.mono ?_
    rintro e w5 ⟨ya, yc, rfl, yo, yh, hb⟩
    have P5 := Lib.hid (P4.out.below hb)
    have X5 := Lib.hid (owns_below X4.out hb)
    have XH5 := Lib.hid (XH4.out.below hb)
    have YH5 := Lib.hid yh
    clear CRI4 yo yh hb P4 X4 XH4 i0 i1 i2 i3 i4 i5 i6 i7 i8 i9 i10 i11
    have hI := P5.out.i
    unfold CfgIn at hI
    obtain ⟨i0, i1, i2, i3, i4, i5, i6, i7, i8, i9, i10, i11⟩ := hI
    obtain ⟨zm, hzm⟩ : ∃ zm, c.may = zm := ⟨_, rfl⟩
    obtain ⟨nn, hnn⟩ : ∃ n, c.shards = n := ⟨_, rfl⟩
    have CM := Lib.hid (fun w' (hb : Below w.heap.size w w') => may_cfg c zm w' (OK.out.below hb) hzm)
    have CRM := Lib.hid (fun w' (hb : Below w.heap.size w w') => rmay_cfg c zm w' (OK.out.below hb) SM.out hzm)
    have CS := Lib.hid (fun w' (hb : Below w.heap.size w w') => pshards_any c nn w' (OK.out.below hb) hnn)
    have CRS := Lib.hid (fun w' (hb : Below w.heap.size w w') => rshards_any c nn w' (OK.out.below hb) SM.out hnn)
    have CRD := Lib.hid (fun (e : zm = true) => CRD.out (hzm.trans e))
    have FA := Lib.hid (fun w' (hb : Below w5.heap.size w5 w') => (holdsZ_own P5.out.a).below hb)
    have FK := Lib.hid (fun w' (hb : Below w5.heap.size w5 w') => (holdsZ_own P5.out.k).below hb)
    have FD := Lib.hid (fun w' (hb : Below w5.heap.size w5 w') => (HoldsT.own P5.out.d).below hb)
    have FX := Lib.hid (fun w' (hb : Below w5.heap.size w5 w') => XH5.out.below hb)
    have FY := Lib.hid (fun w' (hb : Below w5.heap.size w5 w') => YH5.out.below hb)
    clear hzm hnn
    go_upto_region 6 with fail
    go_cut [14] from 39 to 87 (fun u wc => u = .bool true ∧ Hid ((Below w.heap.size w wc ∧ Below w5.heap.size w5 wc) ∧ wc.cell? ⟨p, 0, none⟩ = some (.slice c.wa c.wn c.wc) ∧ wc.cell? ⟨p, 1, none⟩ = some (.slice c.ka c.kn c.kc) ∧ wc.cell? ⟨p, 2, none⟩ = some (.int .i64 c.W) ∧ wc.cell? ⟨p, 3, none⟩ = some (.int .i64 c.C) ∧ wc.cell? ⟨p, 4, none⟩ = some (.int .i64 c.S) ∧ wc.cell? ⟨p, 5, none⟩ = some (.int .i64 c.B) ∧ wc.cell? ⟨p, 6, none⟩ = some (.int .i64 c.L) ∧ wc.cell? ⟨p, 7, none⟩ = some (.int .i64 c.H) ∧ wc.cell? ⟨p, 8, none⟩ = some (.int .i64 c.F) ∧ wc.cell? ⟨p, 9, none⟩ = some (.int .i64 c.P) ∧ wc.cell? ⟨p, 10, none⟩ = some (.int .i64 c.J) ∧ wc.cell? ⟨p, 11, none⟩ = some (.int .i64 c.N)))
    case first =>
      have SB := Lib.hid (show (Below w.heap.size w w5 ∧ Below w5.heap.size w5 w5) ∧ w5.cell? ⟨p, 0, none⟩ = some (.slice c.wa c.wn c.wc) ∧ w5.cell? ⟨p, 1, none⟩ = some (.slice c.ka c.kn c.kc) ∧ w5.cell? ⟨p, 2, none⟩ = some (.int .i64 c.W) ∧ w5.cell? ⟨p, 3, none⟩ = some (.int .i64 c.C) ∧ w5.cell? ⟨p, 4, none⟩ = some (.int .i64 c.S) ∧ w5.cell? ⟨p, 5, none⟩ = some (.int .i64 c.B) ∧ w5.cell? ⟨p, 6, none⟩ = some (.int .i64 c.L) ∧ w5.cell? ⟨p, 7, none⟩ = some (.int .i64 c.H) ∧ w5.cell? ⟨p, 8, none⟩ = some (.int .i64 c.F) ∧ w5.cell? ⟨p, 9, none⟩ = some (.int .i64 c.P) ∧ w5.cell? ⟨p, 10, none⟩ = some (.int .i64 c.J) ∧ w5.cell? ⟨p, 11, none⟩ = some (.int .i64 c.N) from ⟨⟨P5.out.b, Below.refl _ _⟩, P5.out.i⟩)
      have SD := Lib.hid (show (Below w.heap.size w w5.drew ∧ Below w5.heap.size w5 w5.drew) ∧ w5.drew.cell? ⟨p, 0, none⟩ = some (.slice c.wa c.wn c.wc) ∧ w5.drew.cell? ⟨p, 1, none⟩ = some (.slice c.ka c.kn c.kc) ∧ w5.drew.cell? ⟨p, 2, none⟩ = some (.int .i64 c.W) ∧ w5.drew.cell? ⟨p, 3, none⟩ = some (.int .i64 c.C) ∧ w5.drew.cell? ⟨p, 4, none⟩ = some (.int .i64 c.S) ∧ w5.drew.cell? ⟨p, 5, none⟩ = some (.int .i64 c.B) ∧ w5.drew.cell? ⟨p, 6, none⟩ = some (.int .i64 c.L) ∧ w5.drew.cell? ⟨p, 7, none⟩ = some (.int .i64 c.H) ∧ w5.drew.cell? ⟨p, 8, none⟩ = some (.int .i64 c.F) ∧ w5.drew.cell? ⟨p, 9, none⟩ = some (.int .i64 c.P) ∧ w5.drew.cell? ⟨p, 10, none⟩ = some (.int .i64 c.J) ∧ w5.drew.cell? ⟨p, 11, none⟩ = some (.int .i64 c.N) from ⟨⟨P5.out.b.drew, (Below.refl _ _).drew⟩, SB.out.2⟩)
      clear i0 i1 i2 i3 i4 i5 i6 i7 i8 i9 i10 i11 P3 P5 X5 XH5 YH5
      have bt : (true == true) = true := rfl
      have bf : (false == false) = true := rfl
      have bn : ((nn : Int) == (nn : Int)) = true := by simp
      have bz : (zi == zi) = true := by simp
      cases zm
      · clear CRD
        refine wp_region_held_drew (S := (fun w' => (Below w.heap.size w w' ∧ Below w5.heap.size w5 w') ∧ w'.cell? ⟨p, 0, none⟩ = some (.slice c.wa c.wn c.wc) ∧ w'.cell? ⟨p, 1, none⟩ = some (.slice c.ka c.kn c.kc) ∧ w'.cell? ⟨p, 2, none⟩ = some (.int .i64 c.W) ∧ w'.cell? ⟨p, 3, none⟩ = some (.int .i64 c.C) ∧ w'.cell? ⟨p, 4, none⟩ = some (.int .i64 c.S) ∧ w'.cell? ⟨p, 5, none⟩ = some (.int .i64 c.B) ∧ w'.cell? ⟨p, 6, none⟩ = some (.int .i64 c.L) ∧ w'.cell? ⟨p, 7, none⟩ = some (.int .i64 c.H) ∧ w'.cell? ⟨p, 8, none⟩ = some (.int .i64 c.F) ∧ w'.cell? ⟨p, 9, none⟩ = some (.int .i64 c.P) ∧ w'.cell? ⟨p, 10, none⟩ = some (.int .i64 c.J) ∧ w'.cell? ⟨p, 11, none⟩ = some (.int .i64 c.N))) (by kernel_rfl) SD.out (fun hHeld0 => ?_)
        refine wpAnyH_take (i := 0) (oi := { dst := some 39, op := Op.load 25 (Operand.tmp 3), type := 25, pos := "law.go:27", after := #[], guard := none }) (v := ?v0) rfl (by kernel_rfl) (by kernel_rfl) (by kernel_rfl) (fun _ _ _ h => h) (Or.inl ⟨by rfl, ?hy0⟩) (by assumption) ?rest0
        case hy0 => (intro w hSw; (try dsimp only at hSw); go_simp; (try with_reducible rfl))
        try simp only [Act.put, List.setIfInBounds_toArray, List.set_cons_zero, List.set_cons_succ]
        refine wpAnyH_take (i := 2) (oi := { dst := some 41, op := Op.load 25 (Operand.tmp 3), type := 25, pos := "law.go:27", after := #[], guard := none }) (v := ?v2) rfl (by kernel_rfl) (by kernel_rfl) (by kernel_rfl) (fun _ _ _ h => h) (Or.inl ⟨by rfl, ?hy2⟩) (by assumption) ?rest2
        case hy2 => (intro w hSw; (try dsimp only at hSw); go_simp; (try with_reducible rfl))
        try simp only [Act.put, List.setIfInBounds_toArray, List.set_cons_zero, List.set_cons_succ]
        refine wpAnyH_ready (rs := [1]) (by kernel_rfl) (by simp) ?_
        refine AllReadyH.cons (o := { dst := some 40, op := Op.call { callee := Callee.value (Operand.func 14), args := #[Operand.tmp 39], argTypes := #[25] }, type := 4, pos := "law.go:27", after := #[{ on := 0, ground := Ground.data }], guard := none }) rfl (fun K hK => ?_) AllReadyH.nil
        go_simp
        go_at_call 14
        refine (CM.out _ hHeld0.1.1).mono ?_
        rintro e' w6 ⟨rfl, hb⟩
        go_wp2_with fail
        refine hK.out _ _ ?_ (fun hHeld1 => ?_)
        · exact pt_carry hHeld0 hb
        clear hK K hHeld0 hb
        try simp only [Act.put, List.setIfInBounds_toArray, List.set_cons_zero, List.set_cons_succ]
        refine wpAnyH_ready (rs := [3]) (by kernel_rfl) (by simp) ?_
        refine AllReadyH.cons (o := { dst := some 42, op := Op.call { callee := Callee.value (Operand.func 15), args := #[Operand.tmp 41], argTypes := #[25] }, type := 4, pos := "law.go:27", after := #[{ on := 2, ground := Ground.data }, { on := 1, ground := Ground.chain }], guard := none }) rfl (fun K hK => ?_) AllReadyH.nil
        go_simp
        go_at_call 15
        refine (CRM.out _ hHeld1.1.1).mono ?_
        rintro e' w6 ⟨rfl, hb⟩
        go_wp2_with fail
        refine hK.out _ _ ?_ (fun hHeld2 => ?_)
        · exact pt_carry hHeld1 hb
        clear hK K hHeld1 hb
        try simp only [Act.put, List.setIfInBounds_toArray, List.set_cons_zero, List.set_cons_succ]
        refine wpAnyH_take (i := 4) (oi := { dst := some 43, op := Op.binOp BinOp.eql 4 (Operand.tmp 40) (Operand.tmp 42) 4, type := 4, pos := "law.go:27", after := #[{ on := 1, ground := Ground.data }, { on := 3, ground := Ground.data }], guard := none }) (v := ?v4) rfl (by kernel_rfl) (by kernel_rfl) (by kernel_rfl) (fun _ _ _ h => h) (Or.inl ⟨by rfl, ?hy4⟩) (by assumption) ?rest4
        case hy4 => (intro w hSw; (try dsimp only at hSw); go_simp; (try with_reducible rfl))
        try simp only [Act.put, List.setIfInBounds_toArray, List.set_cons_zero, List.set_cons_succ]
        refine wpAnyH_take (i := 5) (oi := { dst := some 44, op := Op.move (Operand.tmp 43), type := 4, pos := "law.go:27", after := #[{ on := 4, ground := Ground.data }, { on := 3, ground := Ground.chain }], guard := none }) (v := ?v5) rfl (by kernel_rfl) (by kernel_rfl) (by kernel_rfl) (fun _ _ _ h => h) (Or.inl ⟨by rfl, ?hy5⟩) (by assumption) ?rest5
        case hy5 => (intro w hSw; (try dsimp only at hSw); go_simp; (try with_reducible rfl))
        try simp only [Act.put, List.setIfInBounds_toArray, List.set_cons_zero, List.set_cons_succ]
        refine wpAnyH_take (i := 6) (oi := { dst := some 45, op := Op.load 25 (Operand.tmp 3), type := 25, pos := "law.go:27", after := #[{ on := 5, ground := Ground.guard }], guard := some (5, true) }) (v := ?v6) rfl (by kernel_rfl) (by kernel_rfl) (by kernel_rfl) (fun _ _ _ h => h) (Or.inl ⟨by rfl, ?hy6⟩) (by assumption) ?rest6
        case hy6 => (intro w hSw; (try dsimp only at hSw); go_simp; (try with_reducible rfl))
        try simp only [Act.put, List.setIfInBounds_toArray, List.set_cons_zero, List.set_cons_succ]
        refine wpAnyH_take (i := 8) (oi := { dst := some 47, op := Op.load 25 (Operand.tmp 3), type := 25, pos := "law.go:27", after := #[{ on := 5, ground := Ground.guard }], guard := some (5, true) }) (v := ?v8) rfl (by kernel_rfl) (by kernel_rfl) (by kernel_rfl) (fun _ _ _ h => h) (Or.inl ⟨by rfl, ?hy8⟩) (by assumption) ?rest8
        case hy8 => (intro w hSw; (try dsimp only at hSw); go_simp; (try with_reducible rfl))
        try simp only [Act.put, List.setIfInBounds_toArray, List.set_cons_zero, List.set_cons_succ]
        refine wpAnyH_ready (rs := [7]) (by kernel_rfl) (by simp) ?_
        refine AllReadyH.cons (o := { dst := some 46, op := Op.call { callee := Callee.value (Operand.func 16), args := #[Operand.tmp 45], argTypes := #[25] }, type := 3, pos := "law.go:27", after := #[{ on := 6, ground := Ground.data }, { on := 5, ground := Ground.chain }, { on := 5, ground := Ground.guard }], guard := some (5, true) }) rfl (fun K hK => ?_) AllReadyH.nil
        go_simp
        go_at_call 16
        refine (CS.out _ hHeld2.1.1).mono ?_
        rintro e' w6 ⟨rfl, hb⟩
        go_wp2_with fail
        refine hK.out _ _ ?_ (fun hHeld3 => ?_)
        · exact pt_carry hHeld2 hb
        clear hK K hHeld2 hb
        try simp only [Act.put, List.setIfInBounds_toArray, List.set_cons_zero, List.set_cons_succ]
        refine wpAnyH_ready (rs := [9]) (by kernel_rfl) (by simp) ?_
        refine AllReadyH.cons (o := { dst := some 48, op := Op.call { callee := Callee.value (Operand.func 17), args := #[Operand.tmp 47], argTypes := #[25] }, type := 3, pos := "law.go:27", after := #[{ on := 8, ground := Ground.data }, { on := 7, ground := Ground.chain }, { on := 5, ground := Ground.guard }], guard := some (5, true) }) rfl (fun K hK => ?_) AllReadyH.nil
        go_simp
        go_at_call 17
        refine (CRS.out _ hHeld3.1.1).mono ?_
        rintro e' w6 ⟨rfl, hb⟩
        go_wp2_with fail
        refine hK.out _ _ ?_ (fun hHeld4 => ?_)
        · exact pt_carry hHeld3 hb
        clear hK K hHeld3 hb
        try simp only [Act.put, List.setIfInBounds_toArray, List.set_cons_zero, List.set_cons_succ]
        refine wpAnyH_take (i := 10) (oi := { dst := some 49, op := Op.binOp BinOp.eql 3 (Operand.tmp 46) (Operand.tmp 48) 3, type := 4, pos := "law.go:27", after := #[{ on := 7, ground := Ground.data }, { on := 9, ground := Ground.data }, { on := 5, ground := Ground.guard }], guard := some (5, true) }) (v := ?v10) rfl (by kernel_rfl) (by kernel_rfl) (by kernel_rfl) (fun _ _ _ h => h) (Or.inl ⟨by rfl, ?hy10⟩) (by assumption) ?rest10
        case hy10 => (intro w hSw; (try dsimp only at hSw); go_simp; (try with_reducible rfl))
        try simp only [Act.put, List.setIfInBounds_toArray, List.set_cons_zero, List.set_cons_succ]
        refine wpAnyH_take (i := 11) (oi := { dst := some 50, op := Op.pick (Operand.tmp 44) (Operand.tmp 49) (Operand.const (Value.bool false)), type := 4, pos := "law.go:27", after := #[{ on := 5, ground := Ground.data }, { on := 10, ground := Ground.data }], guard := none }) (v := ?v11) rfl (by kernel_rfl) (by kernel_rfl) (by kernel_rfl) (fun _ _ _ h => h) (Or.inl ⟨by rfl, ?hy11⟩) (by assumption) ?rest11
        case hy11 => (intro w hSw; (try dsimp only at hSw); go_simp; (try with_reducible rfl))
        try simp only [Act.put, List.setIfInBounds_toArray, List.set_cons_zero, List.set_cons_succ]
        refine wpAnyH_take (i := 12) (oi := { dst := some 51, op := Op.move (Operand.tmp 50), type := 4, pos := "law.go:27", after := #[{ on := 11, ground := Ground.data }, { on := 9, ground := Ground.chain }], guard := none }) (v := ?v12) rfl (by kernel_rfl) (by kernel_rfl) (by kernel_rfl) (fun _ _ _ h => h) (Or.inl ⟨by rfl, ?hy12⟩) (by assumption) ?rest12
        case hy12 => (intro w hSw; (try dsimp only at hSw); go_simp; (try with_reducible rfl))
        try simp only [Act.put, List.setIfInBounds_toArray, List.set_cons_zero, List.set_cons_succ]
        refine wpAnyH_take (i := 13) (oi := { dst := some 52, op := Op.move (Operand.tmp 7), type := 28, pos := "law.go:27", after := #[{ on := 12, ground := Ground.guard }], guard := some (12, true) }) (v := ?v13) rfl (by kernel_rfl) (by kernel_rfl) (by kernel_rfl) (fun _ _ _ h => h) (Or.inl ⟨by rfl, ?hy13⟩) (by assumption) ?rest13
        case hy13 => (intro w hSw; (try dsimp only at hSw); go_simp; (try with_reducible rfl))
        try simp only [Act.put, List.setIfInBounds_toArray, List.set_cons_zero, List.set_cons_succ]
        refine wpAnyH_take (i := 14) (oi := { dst := some 53, op := Op.load 25 (Operand.tmp 3), type := 25, pos := "law.go:27", after := #[{ on := 12, ground := Ground.guard }], guard := some (12, true) }) (v := ?v14) rfl (by kernel_rfl) (by kernel_rfl) (by kernel_rfl) (fun _ _ _ h => h) (Or.inl ⟨by rfl, ?hy14⟩) (by assumption) ?rest14
        case hy14 => (intro w hSw; (try dsimp only at hSw); go_simp; (try with_reducible rfl))
        try simp only [Act.put, List.setIfInBounds_toArray, List.set_cons_zero, List.set_cons_succ]
        refine wpAnyH_take (i := 15) (oi := { dst := some 54, op := Op.move (Operand.tmp 1), type := 3, pos := "law.go:27", after := #[{ on := 12, ground := Ground.guard }], guard := some (12, true) }) (v := ?v15) rfl (by kernel_rfl) (by kernel_rfl) (by kernel_rfl) (fun _ _ _ h => h) (Or.inl ⟨by rfl, ?hy15⟩) (by assumption) ?rest15
        case hy15 => (intro w hSw; (try dsimp only at hSw); go_simp; (try with_reducible rfl))
        try simp only [Act.put, List.setIfInBounds_toArray, List.set_cons_zero, List.set_cons_succ]
        refine wpAnyH_ready (rs := [16]) (by kernel_rfl) (by simp) ?_
        refine AllReadyH.cons (o := { dst := some 55, op := Op.call { callee := Callee.value (Operand.func 19), args := #[Operand.tmp 53, Operand.tmp 54], argTypes := #[25, 3] }, type := 28, pos := "law.go:27", after := #[{ on := 14, ground := Ground.data }, { on := 15, ground := Ground.data }, { on := 12, ground := Ground.chain }, { on := 12, ground := Ground.guard }], guard := some (12, true) }) rfl (fun K hK => ?_) AllReadyH.nil
        go_simp
        go_at_call 19
        refine (CRA.out _ hHeld4.1.1).mono ?_
        rintro e' w6 ⟨ra, rc, rfl, hra, hb⟩
        go_wp2_with fail
        refine hK.out _ _ ?_ (fun hHeld5 => ?_)
        · exact pt_carry hHeld4 hb
        clear hK K hHeld4 hb
        try simp only [Act.put, List.setIfInBounds_toArray, List.set_cons_zero, List.set_cons_succ]
        refine wpAnyH_ready (rs := [17]) (by kernel_rfl) (by simp) ?_
        refine AllReadyH.cons (o := { dst := some 56, op := Op.call { callee := Callee.value (Operand.func 18), args := #[Operand.tmp 52, Operand.tmp 55], argTypes := #[28, 28] }, type := 4, pos := "law.go:27", after := #[{ on := 13, ground := Ground.data }, { on := 16, ground := Ground.data }, { on := 16, ground := Ground.chain }, { on := 12, ground := Ground.guard }], guard := some (12, true) }) rfl (fun K hK => ?_) AllReadyH.nil
        go_simp
        go_at_call 18
        refine (sameI_yes13 aa ra na ac rc LA _ (FA.out _ hHeld5.1.2) (holdsZ_own hra) (by omega)).mono ?_
        rintro e' w6 ⟨rfl, hb⟩
        go_wp2_with fail
        refine hK.out _ _ ?_ (fun hHeld6 => ?_)
        · exact pt_carry hHeld5 hb
        clear hK K hHeld5 hb hra
        try simp only [Act.put, List.setIfInBounds_toArray, List.set_cons_zero, List.set_cons_succ]
        refine wpAnyH_take (i := 18) (oi := { dst := some 57, op := Op.pick (Operand.tmp 51) (Operand.tmp 56) (Operand.const (Value.bool false)), type := 4, pos := "law.go:27", after := #[{ on := 12, ground := Ground.data }, { on := 17, ground := Ground.data }], guard := none }) (v := ?v18) rfl (by kernel_rfl) (by kernel_rfl) (by kernel_rfl) (fun _ _ _ h => h) (Or.inl ⟨by rfl, ?hy18⟩) (by assumption) ?rest18
        case hy18 => (intro w hSw; (try dsimp only at hSw); go_simp; (try with_reducible rfl))
        try simp only [Act.put, List.setIfInBounds_toArray, List.set_cons_zero, List.set_cons_succ]
        refine wpAnyH_take (i := 19) (oi := { dst := some 58, op := Op.move (Operand.tmp 57), type := 4, pos := "law.go:27", after := #[{ on := 18, ground := Ground.data }, { on := 17, ground := Ground.chain }], guard := none }) (v := ?v19) rfl (by kernel_rfl) (by kernel_rfl) (by kernel_rfl) (fun _ _ _ h => h) (Or.inl ⟨by rfl, ?hy19⟩) (by assumption) ?rest19
        case hy19 => (intro w hSw; (try dsimp only at hSw); go_simp; (try with_reducible rfl))
        try simp only [Act.put, List.setIfInBounds_toArray, List.set_cons_zero, List.set_cons_succ]
        refine wpAnyH_take (i := 20) (oi := { dst := some 59, op := Op.move (Operand.tmp 8), type := 28, pos := "law.go:27", after := #[{ on := 19, ground := Ground.guard }], guard := some (19, true) }) (v := ?v20) rfl (by kernel_rfl) (by kernel_rfl) (by kernel_rfl) (fun _ _ _ h => h) (Or.inl ⟨by rfl, ?hy20⟩) (by assumption) ?rest20
        case hy20 => (intro w hSw; (try dsimp only at hSw); go_simp; (try with_reducible rfl))
        try simp only [Act.put, List.setIfInBounds_toArray, List.set_cons_zero, List.set_cons_succ]
        refine wpAnyH_take (i := 21) (oi := { dst := some 60, op := Op.load 25 (Operand.tmp 3), type := 25, pos := "law.go:27", after := #[{ on := 19, ground := Ground.guard }], guard := some (19, true) }) (v := ?v21) rfl (by kernel_rfl) (by kernel_rfl) (by kernel_rfl) (fun _ _ _ h => h) (Or.inl ⟨by rfl, ?hy21⟩) (by assumption) ?rest21
        case hy21 => (intro w hSw; (try dsimp only at hSw); go_simp; (try with_reducible rfl))
        try simp only [Act.put, List.setIfInBounds_toArray, List.set_cons_zero, List.set_cons_succ]
        refine wpAnyH_take (i := 22) (oi := { dst := some 61, op := Op.move (Operand.tmp 2), type := 3, pos := "law.go:27", after := #[{ on := 19, ground := Ground.guard }], guard := some (19, true) }) (v := ?v22) rfl (by kernel_rfl) (by kernel_rfl) (by kernel_rfl) (fun _ _ _ h => h) (Or.inl ⟨by rfl, ?hy22⟩) (by assumption) ?rest22
        case hy22 => (intro w hSw; (try dsimp only at hSw); go_simp; (try with_reducible rfl))
        try simp only [Act.put, List.setIfInBounds_toArray, List.set_cons_zero, List.set_cons_succ]
        refine wpAnyH_ready (rs := [23]) (by kernel_rfl) (by simp) ?_
        refine AllReadyH.cons (o := { dst := some 62, op := Op.call { callee := Callee.value (Operand.func 20), args := #[Operand.tmp 60, Operand.tmp 61], argTypes := #[25, 3] }, type := 28, pos := "law.go:27", after := #[{ on := 21, ground := Ground.data }, { on := 22, ground := Ground.data }, { on := 19, ground := Ground.chain }, { on := 19, ground := Ground.guard }], guard := some (19, true) }) rfl (fun K hK => ?_) AllReadyH.nil
        go_simp
        go_at_call 20
        refine (CRK.out _ hHeld6.1.1).mono ?_
        rintro e' w6 ⟨rk, rkc, rfl, hrk, hb⟩
        go_wp2_with fail
        refine hK.out _ _ ?_ (fun hHeld7 => ?_)
        · exact pt_carry hHeld6 hb
        clear hK K hHeld6 hb
        try simp only [Act.put, List.setIfInBounds_toArray, List.set_cons_zero, List.set_cons_succ]
        refine wpAnyH_ready (rs := [24]) (by kernel_rfl) (by simp) ?_
        refine AllReadyH.cons (o := { dst := some 63, op := Op.call { callee := Callee.value (Operand.func 18), args := #[Operand.tmp 59, Operand.tmp 62], argTypes := #[28, 28] }, type := 4, pos := "law.go:27", after := #[{ on := 20, ground := Ground.data }, { on := 23, ground := Ground.data }, { on := 23, ground := Ground.chain }, { on := 19, ground := Ground.guard }], guard := some (19, true) }) rfl (fun K hK => ?_) AllReadyH.nil
        go_simp
        go_at_call 18
        refine (sameI_yes13 ka rk nk kc rkc LK _ (FK.out _ hHeld7.1.2) (holdsZ_own hrk) (by omega)).mono ?_
        rintro e' w6 ⟨rfl, hb⟩
        go_wp2_with fail
        refine hK.out _ _ ?_ (fun hHeld8 => ?_)
        · exact pt_carry hHeld7 hb
        clear hK K hHeld7 hb hrk
        try simp only [Act.put, List.setIfInBounds_toArray, List.set_cons_zero, List.set_cons_succ]
        refine wpAnyH_take (i := 25) (oi := { dst := some 64, op := Op.pick (Operand.tmp 58) (Operand.tmp 63) (Operand.const (Value.bool false)), type := 4, pos := "law.go:27", after := #[{ on := 19, ground := Ground.data }, { on := 24, ground := Ground.data }], guard := none }) (v := ?v25) rfl (by kernel_rfl) (by kernel_rfl) (by kernel_rfl) (fun _ _ _ h => h) (Or.inl ⟨by rfl, ?hy25⟩) (by assumption) ?rest25
        case hy25 => (intro w hSw; (try dsimp only at hSw); go_simp; (try with_reducible rfl))
        try simp only [Act.put, List.setIfInBounds_toArray, List.set_cons_zero, List.set_cons_succ]
        refine wpAnyH_take (i := 26) (oi := { dst := some 65, op := Op.move (Operand.tmp 64), type := 4, pos := "law.go:27", after := #[{ on := 25, ground := Ground.data }, { on := 24, ground := Ground.chain }], guard := none }) (v := ?v26) rfl (by kernel_rfl) (by kernel_rfl) (by kernel_rfl) (fun _ _ _ h => h) (Or.inl ⟨by rfl, ?hy26⟩) (by assumption) ?rest26
        case hy26 => (intro w hSw; (try dsimp only at hSw); go_simp; (try with_reducible rfl))
        try simp only [Act.put, List.setIfInBounds_toArray, List.set_cons_zero, List.set_cons_succ]
        refine wpAnyH_take (i := 27) (oi := { dst := some 66, op := Op.load 25 (Operand.tmp 3), type := 25, pos := "law.go:27", after := #[{ on := 26, ground := Ground.guard }], guard := some (26, true) }) (v := ?v27) rfl (by kernel_rfl) (by kernel_rfl) (by kernel_rfl) (fun _ _ _ h => h) (Or.inl ⟨by rfl, ?hy27⟩) (by assumption) ?rest27
        case hy27 => (intro w hSw; (try dsimp only at hSw); go_simp; (try with_reducible rfl))
        try simp only [Act.put, List.setIfInBounds_toArray, List.set_cons_zero, List.set_cons_succ]
        refine wpAnyH_ready (rs := [28]) (by kernel_rfl) (by simp) ?_
        refine AllReadyH.cons (o := { dst := some 67, op := Op.call { callee := Callee.value (Operand.func 15), args := #[Operand.tmp 66], argTypes := #[25] }, type := 4, pos := "law.go:27", after := #[{ on := 27, ground := Ground.data }, { on := 26, ground := Ground.chain }, { on := 26, ground := Ground.guard }], guard := some (26, true) }) rfl (fun K hK => ?_) AllReadyH.nil
        go_simp
        go_at_call 15
        refine (CRM.out _ hHeld8.1.1).mono ?_
        rintro e' w6 ⟨rfl, hb⟩
        go_wp2_with fail
        refine hK.out _ _ ?_ (fun hHeld9 => ?_)
        · exact pt_carry hHeld8 hb
        clear hK K hHeld8 hb
        try simp only [Act.put, List.setIfInBounds_toArray, List.set_cons_zero, List.set_cons_succ]
        refine wpAnyH_take (i := 29) (oi := { dst := some 68, op := Op.unOp UnOp.not 4 (Operand.tmp 67), type := 4, pos := "law.go:27", after := #[{ on := 28, ground := Ground.data }, { on := 26, ground := Ground.guard }], guard := some (26, true) }) (v := ?v29) rfl (by kernel_rfl) (by kernel_rfl) (by kernel_rfl) (fun _ _ _ h => h) (Or.inl ⟨by rfl, ?hy29⟩) (by assumption) ?rest29
        case hy29 => (intro w hSw; (try dsimp only at hSw); go_simp; (try with_reducible rfl))
        try simp only [Act.put, List.setIfInBounds_toArray, List.set_cons_zero, List.set_cons_succ]
        refine wpAnyH_take (i := 30) (oi := { dst := some 69, op := Op.move (Operand.tmp 68), type := 4, pos := "law.go:27", after := #[{ on := 29, ground := Ground.data }, { on := 28, ground := Ground.chain }, { on := 26, ground := Ground.guard }], guard := some (26, true) }) (v := ?v30) rfl (by kernel_rfl) (by kernel_rfl) (by kernel_rfl) (fun _ _ _ h => h) (Or.inl ⟨by rfl, ?hy30⟩) (by assumption) ?rest30
        case hy30 => (intro w hSw; (try dsimp only at hSw); go_simp; (try with_reducible rfl))
        try simp only [Act.put, List.setIfInBounds_toArray, List.set_cons_zero, List.set_cons_succ]
        refine wpAnyH_take (i := 31) (oi := { dst := some 70, op := Op.move (Operand.tmp 9), type := 22, pos := "law.go:27", after := #[{ on := 30, ground := Ground.guard }], guard := some (30, false) }) rfl (by kernel_rfl) (by kernel_rfl) (by kernel_rfl) (fun _ _ _ h => h) (Or.inr ⟨by rfl, rfl⟩) (by assumption) ?_
        try simp only [Act.put, List.setIfInBounds_toArray, List.set_cons_zero, List.set_cons_succ]
        refine wpAnyH_take (i := 32) (oi := { dst := some 71, op := Op.load 25 (Operand.tmp 3), type := 25, pos := "law.go:27", after := #[{ on := 30, ground := Ground.guard }], guard := some (30, false) }) rfl (by kernel_rfl) (by kernel_rfl) (by kernel_rfl) (fun _ _ _ h => h) (Or.inr ⟨by rfl, rfl⟩) (by assumption) ?_
        try simp only [Act.put, List.setIfInBounds_toArray, List.set_cons_zero, List.set_cons_succ]
        refine wpAnyH_take (i := 33) (oi := { dst := some 72, op := Op.move (Operand.tmp 1), type := 3, pos := "law.go:27", after := #[{ on := 30, ground := Ground.guard }], guard := some (30, false) }) rfl (by kernel_rfl) (by kernel_rfl) (by kernel_rfl) (fun _ _ _ h => h) (Or.inr ⟨by rfl, rfl⟩) (by assumption) ?_
        try simp only [Act.put, List.setIfInBounds_toArray, List.set_cons_zero, List.set_cons_succ]
        refine wpAnyH_take (i := 34) (oi := { dst := some 73, op := Op.call { callee := Callee.value (Operand.func 22), args := #[Operand.tmp 71, Operand.tmp 72], argTypes := #[25, 3] }, type := 22, pos := "law.go:27", after := #[{ on := 32, ground := Ground.data }, { on := 33, ground := Ground.data }, { on := 30, ground := Ground.chain }, { on := 30, ground := Ground.guard }], guard := some (30, false) }) rfl (by kernel_rfl) (by kernel_rfl) (by kernel_rfl) (fun _ _ _ h => h) (Or.inr ⟨by rfl, rfl⟩) (by assumption) ?_
        try simp only [Act.put, List.setIfInBounds_toArray, List.set_cons_zero, List.set_cons_succ]
        refine wpAnyH_take (i := 35) (oi := { dst := some 74, op := Op.call { callee := Callee.value (Operand.func 21), args := #[Operand.tmp 70, Operand.tmp 73], argTypes := #[22, 22] }, type := 4, pos := "law.go:27", after := #[{ on := 31, ground := Ground.data }, { on := 34, ground := Ground.data }, { on := 34, ground := Ground.chain }, { on := 30, ground := Ground.guard }], guard := some (30, false) }) rfl (by kernel_rfl) (by kernel_rfl) (by kernel_rfl) (fun _ _ _ h => h) (Or.inr ⟨by rfl, rfl⟩) (by assumption) ?_
        try simp only [Act.put, List.setIfInBounds_toArray, List.set_cons_zero, List.set_cons_succ]
        refine wpAnyH_take (i := 36) (oi := { dst := some 75, op := Op.pick (Operand.tmp 69) (Operand.const (Value.bool true)) (Operand.tmp 74), type := 4, pos := "law.go:27", after := #[{ on := 30, ground := Ground.data }, { on := 35, ground := Ground.data }, { on := 26, ground := Ground.guard }], guard := some (26, true) }) (v := ?v36) rfl (by kernel_rfl) (by kernel_rfl) (by kernel_rfl) (fun _ _ _ h => h) (Or.inl ⟨by rfl, ?hy36⟩) (by assumption) ?rest36
        case hy36 => (intro w hSw; (try dsimp only at hSw); go_simp; (try with_reducible rfl))
        try simp only [Act.put, List.setIfInBounds_toArray, List.set_cons_zero, List.set_cons_succ]
        refine wpAnyH_take (i := 37) (oi := { dst := some 76, op := Op.pick (Operand.tmp 65) (Operand.tmp 75) (Operand.const (Value.bool false)), type := 4, pos := "law.go:27", after := #[{ on := 26, ground := Ground.data }, { on := 36, ground := Ground.data }], guard := none }) (v := ?v37) rfl (by kernel_rfl) (by kernel_rfl) (by kernel_rfl) (fun _ _ _ h => h) (Or.inl ⟨by rfl, ?hy37⟩) (by assumption) ?rest37
        case hy37 => (intro w hSw; (try dsimp only at hSw); go_simp; (try with_reducible rfl))
        try simp only [Act.put, List.setIfInBounds_toArray, List.set_cons_zero, List.set_cons_succ]
        refine wpAnyH_take (i := 38) (oi := { dst := some 77, op := Op.move (Operand.tmp 76), type := 4, pos := "law.go:27", after := #[{ on := 37, ground := Ground.data }, { on := 35, ground := Ground.chain }], guard := none }) (v := ?v38) rfl (by kernel_rfl) (by kernel_rfl) (by kernel_rfl) (fun _ _ _ h => h) (Or.inl ⟨by rfl, ?hy38⟩) (by assumption) ?rest38
        case hy38 => (intro w hSw; (try dsimp only at hSw); go_simp; (try with_reducible rfl))
        try simp only [Act.put, List.setIfInBounds_toArray, List.set_cons_zero, List.set_cons_succ]
        refine wpAnyH_take (i := 39) (oi := { dst := some 78, op := Op.move (Operand.tmp 10), type := 31, pos := "law.go:27", after := #[{ on := 38, ground := Ground.guard }], guard := some (38, true) }) (v := ?v39) rfl (by kernel_rfl) (by kernel_rfl) (by kernel_rfl) (fun _ _ _ h => h) (Or.inl ⟨by rfl, ?hy39⟩) (by assumption) ?rest39
        case hy39 => (intro w hSw; (try dsimp only at hSw); go_simp; (try with_reducible rfl))
        try simp only [Act.put, List.setIfInBounds_toArray, List.set_cons_zero, List.set_cons_succ]
        refine wpAnyH_take (i := 40) (oi := { dst := some 79, op := Op.move (Operand.tmp 12), type := 31, pos := "law.go:27", after := #[{ on := 38, ground := Ground.guard }], guard := some (38, true) }) (v := ?v40) rfl (by kernel_rfl) (by kernel_rfl) (by kernel_rfl) (fun _ _ _ h => h) (Or.inl ⟨by rfl, ?hy40⟩) (by assumption) ?rest40
        case hy40 => (intro w hSw; (try dsimp only at hSw); go_simp; (try with_reducible rfl))
        try simp only [Act.put, List.setIfInBounds_toArray, List.set_cons_zero, List.set_cons_succ]
        refine wpAnyH_ready (rs := [41]) (by kernel_rfl) (by simp) ?_
        refine AllReadyH.cons (o := { dst := some 80, op := Op.call { callee := Callee.value (Operand.func 23), args := #[Operand.tmp 78, Operand.tmp 79], argTypes := #[31, 31] }, type := 4, pos := "law.go:27", after := #[{ on := 39, ground := Ground.data }, { on := 40, ground := Ground.data }, { on := 38, ground := Ground.chain }, { on := 38, ground := Ground.guard }], guard := some (38, true) }) rfl (fun K hK => ?_) AllReadyH.nil
        go_simp
        go_at_call 23
        refine (sameB_yes9 xa ya m xc yc I _ (FX.out _ hHeld9.1.2) (FY.out _ hHeld9.1.2) (by omega)).mono ?_
        rintro e' w6 ⟨rfl, hb⟩
        go_wp2_with fail
        refine hK.out _ _ ?_ (fun hHeld10 => ?_)
        · exact pt_carry hHeld9 hb
        clear hK K hHeld9 hb
        try simp only [Act.put, List.setIfInBounds_toArray, List.set_cons_zero, List.set_cons_succ]
        refine wpAnyH_take (i := 42) (oi := { dst := some 81, op := Op.pick (Operand.tmp 77) (Operand.tmp 80) (Operand.const (Value.bool false)), type := 4, pos := "law.go:27", after := #[{ on := 38, ground := Ground.data }, { on := 41, ground := Ground.data }], guard := none }) (v := ?v42) rfl (by kernel_rfl) (by kernel_rfl) (by kernel_rfl) (fun _ _ _ h => h) (Or.inl ⟨by rfl, ?hy42⟩) (by assumption) ?rest42
        case hy42 => (intro w hSw; (try dsimp only at hSw); go_simp; (try with_reducible rfl))
        try simp only [Act.put, List.setIfInBounds_toArray, List.set_cons_zero, List.set_cons_succ]
        refine wpAnyH_take (i := 43) (oi := { dst := some 82, op := Op.move (Operand.tmp 81), type := 4, pos := "law.go:27", after := #[{ on := 42, ground := Ground.data }, { on := 41, ground := Ground.chain }], guard := none }) (v := ?v43) rfl (by kernel_rfl) (by kernel_rfl) (by kernel_rfl) (fun _ _ _ h => h) (Or.inl ⟨by rfl, ?hy43⟩) (by assumption) ?rest43
        case hy43 => (intro w hSw; (try dsimp only at hSw); go_simp; (try with_reducible rfl))
        try simp only [Act.put, List.setIfInBounds_toArray, List.set_cons_zero, List.set_cons_succ]
        refine wpAnyH_take (i := 44) (oi := { dst := some 83, op := Op.move (Operand.tmp 11), type := 32, pos := "law.go:27", after := #[{ on := 43, ground := Ground.guard }], guard := some (43, true) }) (v := ?v44) rfl (by kernel_rfl) (by kernel_rfl) (by kernel_rfl) (fun _ _ _ h => h) (Or.inl ⟨by rfl, ?hy44⟩) (by assumption) ?rest44
        case hy44 => (intro w hSw; (try dsimp only at hSw); go_simp; (try with_reducible rfl))
        try simp only [Act.put, List.setIfInBounds_toArray, List.set_cons_zero, List.set_cons_succ]
        refine wpAnyH_take (i := 46) (oi := { dst := some 85, op := Op.move (Operand.tmp 13), type := 3, pos := "law.go:27", after := #[{ on := 43, ground := Ground.guard }], guard := some (43, true) }) (v := ?v46) rfl (by kernel_rfl) (by kernel_rfl) (by kernel_rfl) (fun _ _ _ h => h) (Or.inl ⟨by rfl, ?hy46⟩) (by assumption) ?rest46
        case hy46 => (intro w hSw; (try dsimp only at hSw); go_simp; (try with_reducible rfl))
        try simp only [Act.put, List.setIfInBounds_toArray, List.set_cons_zero, List.set_cons_succ]
        refine wpAnyH_ready (rs := [45]) (by kernel_rfl) (by simp) ?_
        refine AllReadyH.cons (o := { dst := some 84, op := Op.call { callee := Callee.value (Operand.func 24), args := #[Operand.tmp 83], argTypes := #[32] }, type := 3, pos := "law.go:27", after := #[{ on := 44, ground := Ground.data }, { on := 43, ground := Ground.chain }, { on := 43, ground := Ground.guard }], guard := some (43, true) }) rfl (fun K hK => ?_) AllReadyH.nil
        go_simp
        go_at_call 24
        refine (num13_any zi _).mono ?_
        rintro e' w6 ⟨rfl, rfl⟩
        go_wp2_with fail
        refine hK.out _ _ ?_ (fun hHeld11 => ?_)
        · exact hHeld10
        clear hK K hHeld10
        try simp only [Act.put, List.setIfInBounds_toArray, List.set_cons_zero, List.set_cons_succ]
        refine wpAnyH_take (i := 47) (oi := { dst := some 86, op := Op.binOp BinOp.eql 3 (Operand.tmp 84) (Operand.tmp 85) 3, type := 4, pos := "law.go:27", after := #[{ on := 45, ground := Ground.data }, { on := 46, ground := Ground.data }, { on := 43, ground := Ground.guard }], guard := some (43, true) }) (v := ?v47) rfl (by kernel_rfl) (by kernel_rfl) (by kernel_rfl) (fun _ _ _ h => h) (Or.inl ⟨by rfl, ?hy47⟩) (by assumption) ?rest47
        case hy47 => (intro w hSw; (try dsimp only at hSw); go_simp; (try with_reducible rfl))
        try simp only [Act.put, List.setIfInBounds_toArray, List.set_cons_zero, List.set_cons_succ]
        refine wpAnyH_take (i := 48) (oi := { dst := some 87, op := Op.pick (Operand.tmp 82) (Operand.tmp 86) (Operand.const (Value.bool false)), type := 4, pos := "law.go:27", after := #[{ on := 43, ground := Ground.data }, { on := 47, ground := Ground.data }], guard := none }) (v := ?v48) rfl (by kernel_rfl) (by kernel_rfl) (by kernel_rfl) (fun _ _ _ h => h) (Or.inl ⟨by rfl, ?hy48⟩) (by assumption) ?rest48
        case hy48 => (intro w hSw; (try dsimp only at hSw); go_simp; (try with_reducible rfl))
        try simp only [Act.put, List.setIfInBounds_toArray, List.set_cons_zero, List.set_cons_succ]
        refine wpAnyH_take (i := 49) (oi := { dst := some 14, op := Op.assign (Operand.tmp 87), type := 4, pos := "law.go:27", after := #[{ on := 48, ground := Ground.data }, { on := 45, ground := Ground.chain }, { on := 0, ground := Ground.phase }, { on := 1, ground := Ground.phase }, { on := 2, ground := Ground.phase }, { on := 3, ground := Ground.phase }, { on := 4, ground := Ground.phase }, { on := 5, ground := Ground.phase }, { on := 6, ground := Ground.phase }, { on := 7, ground := Ground.phase }, { on := 8, ground := Ground.phase }, { on := 9, ground := Ground.phase }, { on := 10, ground := Ground.phase }, { on := 11, ground := Ground.phase }, { on := 12, ground := Ground.phase }, { on := 13, ground := Ground.phase }, { on := 14, ground := Ground.phase }, { on := 15, ground := Ground.phase }, { on := 16, ground := Ground.phase }, { on := 17, ground := Ground.phase }, { on := 18, ground := Ground.phase }, { on := 19, ground := Ground.phase }, { on := 20, ground := Ground.phase }, { on := 21, ground := Ground.phase }, { on := 22, ground := Ground.phase }, { on := 23, ground := Ground.phase }, { on := 24, ground := Ground.phase }, { on := 25, ground := Ground.phase }, { on := 26, ground := Ground.phase }, { on := 27, ground := Ground.phase }, { on := 28, ground := Ground.phase }, { on := 29, ground := Ground.phase }, { on := 30, ground := Ground.phase }, { on := 31, ground := Ground.phase }, { on := 32, ground := Ground.phase }, { on := 33, ground := Ground.phase }, { on := 34, ground := Ground.phase }, { on := 35, ground := Ground.phase }, { on := 36, ground := Ground.phase }, { on := 37, ground := Ground.phase }, { on := 38, ground := Ground.phase }, { on := 39, ground := Ground.phase }, { on := 40, ground := Ground.phase }, { on := 41, ground := Ground.phase }, { on := 42, ground := Ground.phase }, { on := 43, ground := Ground.phase }, { on := 44, ground := Ground.phase }, { on := 45, ground := Ground.phase }, { on := 46, ground := Ground.phase }, { on := 47, ground := Ground.phase }, { on := 48, ground := Ground.phase }], guard := none }) (v := ?v49) rfl (by kernel_rfl) (by kernel_rfl) (by kernel_rfl) (fun _ _ _ h => h) (Or.inl ⟨by rfl, ?hy49⟩) (by assumption) ?rest49
        case hy49 => (intro w hSw; (try dsimp only at hSw); go_simp; (try with_reducible rfl))
        try simp only [Act.put, List.setIfInBounds_toArray, List.set_cons_zero, List.set_cons_succ]
        refine wpAnyH_done (by kernel_rfl) ?_ _
        go_wp2_with fail
        go_meet
        exact ⟨rfl, Lib.hid hHeld11⟩
      · have CRW : Hid (∀ w', Below w.heap.size w w' → Calls Try.prog 22 #[.agg #[.slice c.wa c.wn c.wc, .slice c.ka c.kn c.kc, .int .i64 c.W, .int .i64 c.C, .int .i64 c.S, .int .i64 c.B, .int .i64 c.L, .int .i64 c.H, .int .i64 c.F, .int .i64 c.P, .int .i64 c.J, .int .i64 c.N], .int .i64 x] w' (RTh w' zs kd)) := Lib.hid (CRD.out rfl)
        clear CRD
        go_region_held3 (fun w' => (Below w.heap.size w w' ∧ Below w5.heap.size w5 w') ∧ w'.cell? ⟨p, 0, none⟩ = some (.slice c.wa c.wn c.wc) ∧ w'.cell? ⟨p, 1, none⟩ = some (.slice c.ka c.kn c.kc) ∧ w'.cell? ⟨p, 2, none⟩ = some (.int .i64 c.W) ∧ w'.cell? ⟨p, 3, none⟩ = some (.int .i64 c.C) ∧ w'.cell? ⟨p, 4, none⟩ = some (.int .i64 c.S) ∧ w'.cell? ⟨p, 5, none⟩ = some (.int .i64 c.B) ∧ w'.cell? ⟨p, 6, none⟩ = some (.int .i64 c.L) ∧ w'.cell? ⟨p, 7, none⟩ = some (.int .i64 c.H) ∧ w'.cell? ⟨p, 8, none⟩ = some (.int .i64 c.F) ∧ w'.cell? ⟨p, 9, none⟩ = some (.int .i64 c.P) ∧ w'.cell? ⟨p, 10, none⟩ = some (.int .i64 c.J) ∧ w'.cell? ⟨p, 11, none⟩ = some (.int .i64 c.N))
          (first | assumption | exact SD.out | exact pt_carry (by assumption) (by assumption))
          (first
          | (go_at_call 14; (with_reducible refine (CM.out _ (And.left (And.left (by assumption)))).mono ?_); rintro e w' ⟨rfl, hb⟩)
          | (go_at_call 15; (with_reducible refine (CRM.out _ (And.left (And.left (by assumption)))).mono ?_); rintro e w' ⟨rfl, hb⟩)
          | (go_at_call 16; (with_reducible refine (CS.out _ (And.left (And.left (by assumption)))).mono ?_); rintro e w' ⟨rfl, hb⟩)
          | (go_at_call 17; (with_reducible refine (CRS.out _ (And.left (And.left (by assumption)))).mono ?_); rintro e w' ⟨rfl, hb⟩)
          | (go_at_call 19; (with_reducible refine (CRA.out _ (And.left (And.left (by assumption)))).mono ?_); rintro e w' ⟨ra, rc, rfl, hra, hb⟩)
          | (go_at_call 20; (with_reducible refine (CRK.out _ (And.left (And.left (by assumption)))).mono ?_); rintro e w' ⟨rk, rkc, rfl, hrk, hb⟩)
          | (go_at_call 18; (with_reducible refine (sameI_yes13 aa ra na ac rc LA _ (FA.out _ (And.right (And.left (by assumption)))) (holdsZ_own hra) (by omega)).mono ?_); rintro e w' ⟨rfl, hb⟩)
          | (go_at_call 18; (with_reducible refine (sameI_yes13 ka rk nk kc rkc LK _ (FK.out _ (And.right (And.left (by assumption)))) (holdsZ_own hrk) (by omega)).mono ?_); rintro e w' ⟨rfl, hb⟩)
          | (go_at_call 22; (with_reducible refine (CRW.out _ (And.left (And.left (by assumption)))).mono ?_); rintro e w' ⟨rd, rdc, rfl, hrd, hb⟩)
          | (go_at_call 21; (with_reducible refine (sameT_yes9 da rd kd dc rdc zs _ (FD.out _ (And.right (And.left (by assumption)))) hrd (by omega)).mono ?_); rintro e w' ⟨rfl, hb⟩)
          | (go_at_call 23; (with_reducible refine (sameB_yes9 xa ya m xc yc I _ (FX.out _ (And.right (And.left (by assumption)))) (FY.out _ (And.right (And.left (by assumption)))) (by omega)).mono ?_); rintro e w' ⟨rfl, hb⟩)
          | (go_at_call 24; (with_reducible refine (num13_any zi _).mono ?_); rintro e w' ⟨rfl, rfl⟩)
          | fail)
        all_goals
          go_wp2_with fail
          go_meet
          refine ⟨rfl, Lib.hid ?_⟩
          assumption
    case rest =>
      clear i0 i1 i2 i3 i4 i5 i6 i7 i8 i9 i10 i11
      obtain ⟨rfl, hS⟩ := hcut
      have A6 := Lib.hid (owns_below P5.out.a hS.out.1.2)
      have K6 := Lib.hid (owns_below P5.out.k hS.out.1.2)
      have D6 := Lib.hid (owns_below P5.out.d hS.out.1.2)
      have X6 := Lib.hid (owns_below X5.out hS.out.1.2)
      have AK := Lib.hid P5.out.ak; have AD := Lib.hid P5.out.ad; have KD := Lib.hid P5.out.kd
      have Q6 := Lib.hid (show Below w.heap.size w wc ∧ CfgIn wc p c ∧ w2.heap.size ≤ wc.heap.size from ⟨hS.out.1.1, hS.out.2, Nat.le_trans P5.out.s hS.out.1.2.size⟩)
      clear hS P5 X5 FA FK FD FX FY XH5 YH5 CS CRS CA CRA CK CRK
      have C7 := Lib.hid (ovgInts_any w2.heap.size aa na ac _ wc A6.out Q6.out.2.2 (by omega))
      go_wp2_with fail
      with_reducible refine C7.out.mono ?_
      rintro e w7 ⟨rfl, hb, hg⟩
      have Q7 := Lib.hid (show Below w.heap.size w w7 ∧ CfgIn w7 p c ∧ w2.heap.size ≤ w7.heap.size from ⟨Q6.out.1.trans (hb.mono B2.out.size), Q6.out.2.1.of fun i => hb.cell (p := ⟨p, i, none⟩) PB.out, Nat.le_trans Q6.out.2.2 hb.size⟩)
      have K7 := Lib.hid (K6.out.kept hg (apart_row AK.out))
      have D7 := Lib.hid (D6.out.kept hg (apart_row AD.out))
      have X7 := Lib.hid (X6.out.kept hg (apart_row XA.out))
      clear hb hg C7 Q6 A6
      have C8 := Lib.hid (ovgInts_any w2.heap.size ka nk kc _ w7 K7.out Q7.out.2.2 (by omega))
      go_wp2_with fail
      with_reducible refine C8.out.mono ?_
      rintro e w8 ⟨rfl, hb, hg⟩
      have Q8 := Lib.hid (show Below w.heap.size w w8 ∧ CfgIn w8 p c ∧ w2.heap.size ≤ w8.heap.size from ⟨Q7.out.1.trans (hb.mono B2.out.size), Q7.out.2.1.of fun i => hb.cell (p := ⟨p, i, none⟩) PB.out, Nat.le_trans Q7.out.2.2 hb.size⟩)
      have D8 := Lib.hid (D7.out.kept hg (apart_row KD.out))
      have X8 := Lib.hid (X7.out.kept hg (apart_row XK.out))
      clear hb hg C8 Q7 K7
      have C9 := Lib.hid (ovgTexts_any w2.heap.size da kd dc _ w8 D8.out Q8.out.2.2 (by omega))
      go_wp2_with fail
      with_reducible refine C9.out.mono ?_
      rintro e w9 ⟨rfl, hb, hg⟩
      have Q9 := Lib.hid (show Below w.heap.size w w9 ∧ CfgIn w9 p c ∧ w2.heap.size ≤ w9.heap.size from ⟨Q8.out.1.trans (hb.mono B2.out.size), Q8.out.2.1.of fun i => hb.cell (p := ⟨p, i, none⟩) PB.out, Nat.le_trans Q8.out.2.2 hb.size⟩)
      have X9 := Lib.hid (X8.out.kept hg (apart_row XD.out))
      clear hb hg C9 Q8 D8
      have C10 := Lib.hid (ovgBytes_any w2.heap.size xa m xc _ w9 X9.out Q9.out.2.2 (by omega))
      go_wp2_with fail
      with_reducible refine C10.out.mono ?_
      rintro e w10 ⟨rfl, hb, hg⟩
      have Q10 := Lib.hid (show Below w.heap.size w w10 ∧ CfgIn w10 p c ∧ w2.heap.size ≤ w10.heap.size from ⟨Q9.out.1.trans (hb.mono B2.out.size), Q9.out.2.1.of fun i => hb.cell (p := ⟨p, i, none⟩) PB.out, Nat.le_trans Q9.out.2.2 hb.size⟩)
      clear hb hg C10 Q9 X9
      have hI := Q10.out.2.1
      unfold CfgIn at hI
      obtain ⟨i0, i1, i2, i3, i4, i5, i6, i7, i8, i9, i10, i11⟩ := hI
      go_upto_region 11 with fail
      have SB := Lib.hid (show Below w.heap.size w w10 ∧ w10.cell? ⟨p, 0, none⟩ = some (.slice c.wa c.wn c.wc) ∧ w10.cell? ⟨p, 1, none⟩ = some (.slice c.ka c.kn c.kc) ∧ w10.cell? ⟨p, 2, none⟩ = some (.int .i64 c.W) ∧ w10.cell? ⟨p, 3, none⟩ = some (.int .i64 c.C) ∧ w10.cell? ⟨p, 4, none⟩ = some (.int .i64 c.S) ∧ w10.cell? ⟨p, 5, none⟩ = some (.int .i64 c.B) ∧ w10.cell? ⟨p, 6, none⟩ = some (.int .i64 c.L) ∧ w10.cell? ⟨p, 7, none⟩ = some (.int .i64 c.H) ∧ w10.cell? ⟨p, 8, none⟩ = some (.int .i64 c.F) ∧ w10.cell? ⟨p, 9, none⟩ = some (.int .i64 c.P) ∧ w10.cell? ⟨p, 10, none⟩ = some (.int .i64 c.J) ∧ w10.cell? ⟨p, 11, none⟩ = some (.int .i64 c.N) from ⟨Q10.out.1, Q10.out.2.1⟩)
      clear i0 i1 i2 i3 i4 i5 i6 i7 i8 i9 i10 i11
      cases zm
      · clear CRD
        refine wp_region_held_drew (S := (fun w' => Below w.heap.size w w' ∧ w'.cell? ⟨p, 0, none⟩ = some (.slice c.wa c.wn c.wc) ∧ w'.cell? ⟨p, 1, none⟩ = some (.slice c.ka c.kn c.kc) ∧ w'.cell? ⟨p, 2, none⟩ = some (.int .i64 c.W) ∧ w'.cell? ⟨p, 3, none⟩ = some (.int .i64 c.C) ∧ w'.cell? ⟨p, 4, none⟩ = some (.int .i64 c.S) ∧ w'.cell? ⟨p, 5, none⟩ = some (.int .i64 c.B) ∧ w'.cell? ⟨p, 6, none⟩ = some (.int .i64 c.L) ∧ w'.cell? ⟨p, 7, none⟩ = some (.int .i64 c.H) ∧ w'.cell? ⟨p, 8, none⟩ = some (.int .i64 c.F) ∧ w'.cell? ⟨p, 9, none⟩ = some (.int .i64 c.P) ∧ w'.cell? ⟨p, 10, none⟩ = some (.int .i64 c.J) ∧ w'.cell? ⟨p, 11, none⟩ = some (.int .i64 c.N))) (by kernel_rfl) ⟨SB.out.1.drew, SB.out.2⟩ (fun hHeld0 => ?_)
        refine wpAnyH_take (i := 0) (oi := { dst := some 96, op := Op.move (Operand.tmp 14), type := 4, pos := "law.go:32", after := #[], guard := none }) (v := ?vb0) rfl (by kernel_rfl) (by kernel_rfl) (by kernel_rfl) (fun _ _ _ h => h) (Or.inl ⟨by rfl, ?hyb0⟩) (by assumption) ?restb0
        case hyb0 => (intro w hSw; (try dsimp only at hSw); go_simp; (try with_reducible rfl))
        try simp only [Act.put, List.setIfInBounds_toArray, List.set_cons_zero, List.set_cons_succ]
        refine wpAnyH_take (i := 1) (oi := { dst := some 97, op := Op.move (Operand.tmp 96), type := 4, pos := "law.go:32", after := #[{ on := 0, ground := Ground.data }], guard := none }) (v := ?vb1) rfl (by kernel_rfl) (by kernel_rfl) (by kernel_rfl) (fun _ _ _ h => h) (Or.inl ⟨by rfl, ?hyb1⟩) (by assumption) ?restb1
        case hyb1 => (intro w hSw; (try dsimp only at hSw); go_simp; (try with_reducible rfl))
        try simp only [Act.put, List.setIfInBounds_toArray, List.set_cons_zero, List.set_cons_succ]
        refine wpAnyH_take (i := 2) (oi := { dst := some 98, op := Op.load 25 (Operand.tmp 3), type := 25, pos := "law.go:32", after := #[{ on := 1, ground := Ground.guard }], guard := some (1, true) }) (v := ?vb2) rfl (by kernel_rfl) (by kernel_rfl) (by kernel_rfl) (fun _ _ _ h => h) (Or.inl ⟨by rfl, ?hyb2⟩) (by assumption) ?restb2
        case hyb2 => (intro w hSw; (try dsimp only at hSw); go_simp; (try with_reducible rfl))
        try simp only [Act.put, List.setIfInBounds_toArray, List.set_cons_zero, List.set_cons_succ]
        refine wpAnyH_ready (rs := [3]) (by kernel_rfl) (by simp) ?_
        refine AllReadyH.cons (o := { dst := some 99, op := Op.call { callee := Callee.value (Operand.func 15), args := #[Operand.tmp 98], argTypes := #[25] }, type := 4, pos := "law.go:32", after := #[{ on := 2, ground := Ground.data }, { on := 1, ground := Ground.chain }, { on := 1, ground := Ground.guard }], guard := some (1, true) }) rfl (fun K hK => ?_) AllReadyH.nil
        go_simp
        go_at_call 15
        refine (CRM.out _ hHeld0.1).mono ?_
        rintro e' w11 ⟨rfl, hb⟩
        go_wp2_with fail
        refine hK.out _ _ ?_ (fun hHeld1 => ?_)
        · exact pq_carry hHeld0 hb
        clear hK K hHeld0 hb
        try simp only [Act.put, List.setIfInBounds_toArray, List.set_cons_zero, List.set_cons_succ]
        refine wpAnyH_take (i := 4) (oi := { dst := some 100, op := Op.unOp UnOp.not 4 (Operand.tmp 99), type := 4, pos := "law.go:32", after := #[{ on := 3, ground := Ground.data }, { on := 1, ground := Ground.guard }], guard := some (1, true) }) (v := ?vb4) rfl (by kernel_rfl) (by kernel_rfl) (by kernel_rfl) (fun _ _ _ h => h) (Or.inl ⟨by rfl, ?hyb4⟩) (by assumption) ?restb4
        case hyb4 => (intro w hSw; (try dsimp only at hSw); go_simp; (try with_reducible rfl))
        try simp only [Act.put, List.setIfInBounds_toArray, List.set_cons_zero, List.set_cons_succ]
        refine wpAnyH_take (i := 5) (oi := { dst := some 101, op := Op.move (Operand.tmp 100), type := 4, pos := "law.go:32", after := #[{ on := 4, ground := Ground.data }, { on := 3, ground := Ground.chain }, { on := 1, ground := Ground.guard }], guard := some (1, true) }) (v := ?vb5) rfl (by kernel_rfl) (by kernel_rfl) (by kernel_rfl) (fun _ _ _ h => h) (Or.inl ⟨by rfl, ?hyb5⟩) (by assumption) ?restb5
        case hyb5 => (intro w hSw; (try dsimp only at hSw); go_simp; (try with_reducible rfl))
        try simp only [Act.put, List.setIfInBounds_toArray, List.set_cons_zero, List.set_cons_succ]
        refine wpAnyH_take (i := 6) (oi := { dst := some 102, op := Op.load 25 (Operand.tmp 3), type := 25, pos := "law.go:32", after := #[{ on := 5, ground := Ground.guard }], guard := some (5, false) }) rfl (by kernel_rfl) (by kernel_rfl) (by kernel_rfl) (fun _ _ _ h => h) (Or.inr ⟨by rfl, rfl⟩) (by assumption) ?_
        try simp only [Act.put, List.setIfInBounds_toArray, List.set_cons_zero, List.set_cons_succ]
        refine wpAnyH_take (i := 7) (oi := { dst := some 103, op := Op.move (Operand.tmp 1), type := 3, pos := "law.go:32", after := #[{ on := 5, ground := Ground.guard }], guard := some (5, false) }) rfl (by kernel_rfl) (by kernel_rfl) (by kernel_rfl) (fun _ _ _ h => h) (Or.inr ⟨by rfl, rfl⟩) (by assumption) ?_
        try simp only [Act.put, List.setIfInBounds_toArray, List.set_cons_zero, List.set_cons_succ]
        refine wpAnyH_take (i := 8) (oi := { dst := some 104, op := Op.call { callee := Callee.value (Operand.func 11), args := #[Operand.tmp 102, Operand.tmp 103], argTypes := #[25, 3] }, type := 22, pos := "law.go:32", after := #[{ on := 6, ground := Ground.data }, { on := 7, ground := Ground.data }, { on := 5, ground := Ground.chain }, { on := 5, ground := Ground.guard }], guard := some (5, false) }) rfl (by kernel_rfl) (by kernel_rfl) (by kernel_rfl) (fun _ _ _ h => h) (Or.inr ⟨by rfl, rfl⟩) (by assumption) ?_
        try simp only [Act.put, List.setIfInBounds_toArray, List.set_cons_zero, List.set_cons_succ]
        refine wpAnyH_take (i := 9) (oi := { dst := some 105, op := Op.load 25 (Operand.tmp 3), type := 25, pos := "law.go:32", after := #[{ on := 5, ground := Ground.guard }], guard := some (5, false) }) rfl (by kernel_rfl) (by kernel_rfl) (by kernel_rfl) (fun _ _ _ h => h) (Or.inr ⟨by rfl, rfl⟩) (by assumption) ?_
        try simp only [Act.put, List.setIfInBounds_toArray, List.set_cons_zero, List.set_cons_succ]
        refine wpAnyH_take (i := 10) (oi := { dst := some 106, op := Op.move (Operand.tmp 1), type := 3, pos := "law.go:32", after := #[{ on := 5, ground := Ground.guard }], guard := some (5, false) }) rfl (by kernel_rfl) (by kernel_rfl) (by kernel_rfl) (fun _ _ _ h => h) (Or.inr ⟨by rfl, rfl⟩) (by assumption) ?_
        try simp only [Act.put, List.setIfInBounds_toArray, List.set_cons_zero, List.set_cons_succ]
        refine wpAnyH_take (i := 11) (oi := { dst := some 107, op := Op.call { callee := Callee.value (Operand.func 22), args := #[Operand.tmp 105, Operand.tmp 106], argTypes := #[25, 3] }, type := 22, pos := "law.go:32", after := #[{ on := 9, ground := Ground.data }, { on := 10, ground := Ground.data }, { on := 8, ground := Ground.chain }, { on := 5, ground := Ground.guard }], guard := some (5, false) }) rfl (by kernel_rfl) (by kernel_rfl) (by kernel_rfl) (fun _ _ _ h => h) (Or.inr ⟨by rfl, rfl⟩) (by assumption) ?_
        try simp only [Act.put, List.setIfInBounds_toArray, List.set_cons_zero, List.set_cons_succ]
        refine wpAnyH_take (i := 12) (oi := { dst := some 108, op := Op.call { callee := Callee.value (Operand.func 21), args := #[Operand.tmp 104, Operand.tmp 107], argTypes := #[22, 22] }, type := 4, pos := "law.go:32", after := #[{ on := 8, ground := Ground.data }, { on := 11, ground := Ground.data }, { on := 11, ground := Ground.chain }, { on := 5, ground := Ground.guard }], guard := some (5, false) }) rfl (by kernel_rfl) (by kernel_rfl) (by kernel_rfl) (fun _ _ _ h => h) (Or.inr ⟨by rfl, rfl⟩) (by assumption) ?_
        try simp only [Act.put, List.setIfInBounds_toArray, List.set_cons_zero, List.set_cons_succ]
        refine wpAnyH_take (i := 13) (oi := { dst := some 109, op := Op.pick (Operand.tmp 101) (Operand.const (Value.bool true)) (Operand.tmp 108), type := 4, pos := "law.go:32", after := #[{ on := 5, ground := Ground.data }, { on := 12, ground := Ground.data }, { on := 1, ground := Ground.guard }], guard := some (1, true) }) (v := ?vb13) rfl (by kernel_rfl) (by kernel_rfl) (by kernel_rfl) (fun _ _ _ h => h) (Or.inl ⟨by rfl, ?hyb13⟩) (by assumption) ?restb13
        case hyb13 => (intro w hSw; (try dsimp only at hSw); go_simp; (try with_reducible rfl))
        try simp only [Act.put, List.setIfInBounds_toArray, List.set_cons_zero, List.set_cons_succ]
        refine wpAnyH_take (i := 14) (oi := { dst := some 110, op := Op.pick (Operand.tmp 97) (Operand.tmp 109) (Operand.const (Value.bool false)), type := 4, pos := "law.go:32", after := #[{ on := 1, ground := Ground.data }, { on := 13, ground := Ground.data }], guard := none }) (v := ?vb14) rfl (by kernel_rfl) (by kernel_rfl) (by kernel_rfl) (fun _ _ _ h => h) (Or.inl ⟨by rfl, ?hyb14⟩) (by assumption) ?restb14
        case hyb14 => (intro w hSw; (try dsimp only at hSw); go_simp; (try with_reducible rfl))
        try simp only [Act.put, List.setIfInBounds_toArray, List.set_cons_zero, List.set_cons_succ]
        refine wpAnyH_take (i := 15) (oi := { dst := some 111, op := Op.move (Operand.tmp 110), type := 4, pos := "law.go:32", after := #[{ on := 14, ground := Ground.data }, { on := 12, ground := Ground.chain }], guard := none }) (v := ?vb15) rfl (by kernel_rfl) (by kernel_rfl) (by kernel_rfl) (fun _ _ _ h => h) (Or.inl ⟨by rfl, ?hyb15⟩) (by assumption) ?restb15
        case hyb15 => (intro w hSw; (try dsimp only at hSw); go_simp; (try with_reducible rfl))
        try simp only [Act.put, List.setIfInBounds_toArray, List.set_cons_zero, List.set_cons_succ]
        refine wpAnyH_ready (rs := [16]) (by kernel_rfl) (by simp) ?_
        refine AllReadyH.cons (o := { dst := some 112, op := Op.call { callee := Callee.value (Operand.func 8), args := #[], argTypes := #[] }, type := 4, pos := "law.go:32", after := #[{ on := 15, ground := Ground.chain }, { on := 15, ground := Ground.guard }], guard := some (15, true) }) rfl (fun K hK => ?_) AllReadyH.nil
        go_simp
        go_at_call 8
        refine (awakePl_any _).mono ?_
        rintro e' w11 ⟨rfl, hb⟩
        go_wp2_with fail
        refine hK.out _ _ ?_ (fun hHeld2 => ?_)
        · exact pq_carry hHeld1 hb
        clear hK K hHeld1 hb
        try simp only [Act.put, List.setIfInBounds_toArray, List.set_cons_zero, List.set_cons_succ]
        refine wpAnyH_take (i := 17) (oi := { dst := some 113, op := Op.pick (Operand.tmp 111) (Operand.tmp 112) (Operand.const (Value.bool false)), type := 4, pos := "law.go:32", after := #[{ on := 15, ground := Ground.data }, { on := 16, ground := Ground.data }], guard := none }) (v := ?vb17) rfl (by kernel_rfl) (by kernel_rfl) (by kernel_rfl) (fun _ _ _ h => h) (Or.inl ⟨by rfl, ?hyb17⟩) (by assumption) ?restb17
        case hyb17 => (intro w hSw; (try dsimp only at hSw); go_simp; (try with_reducible rfl))
        try simp only [Act.put, List.setIfInBounds_toArray, List.set_cons_zero, List.set_cons_succ]
        refine wpAnyH_take (i := 18) (oi := { dst := some 6, op := Op.assign (Operand.tmp 113), type := 4, pos := "law.go:32", after := #[{ on := 17, ground := Ground.data }, { on := 16, ground := Ground.chain }, { on := 0, ground := Ground.phase }, { on := 1, ground := Ground.phase }, { on := 2, ground := Ground.phase }, { on := 3, ground := Ground.phase }, { on := 4, ground := Ground.phase }, { on := 5, ground := Ground.phase }, { on := 6, ground := Ground.phase }, { on := 7, ground := Ground.phase }, { on := 8, ground := Ground.phase }, { on := 9, ground := Ground.phase }, { on := 10, ground := Ground.phase }, { on := 11, ground := Ground.phase }, { on := 12, ground := Ground.phase }, { on := 13, ground := Ground.phase }, { on := 14, ground := Ground.phase }, { on := 15, ground := Ground.phase }, { on := 16, ground := Ground.phase }, { on := 17, ground := Ground.phase }], guard := none }) (v := ?vb18) rfl (by kernel_rfl) (by kernel_rfl) (by kernel_rfl) (fun _ _ _ h => h) (Or.inl ⟨by rfl, ?hyb18⟩) (by assumption) ?restb18
        case hyb18 => (intro w hSw; (try dsimp only at hSw); go_simp; (try with_reducible rfl))
        try simp only [Act.put, List.setIfInBounds_toArray, List.set_cons_zero, List.set_cons_succ]
        refine wpAnyH_done (by kernel_rfl) ?_ _
        have BF := Lib.hid hHeld2.1
        clear hHeld2
        go_wp2_with fail
        go_ret
        exact ⟨rfl, BF.out⟩
      · have CRW : Hid (∀ w', Below w.heap.size w w' → Calls Try.prog 22 #[.agg #[.slice c.wa c.wn c.wc, .slice c.ka c.kn c.kc, .int .i64 c.W, .int .i64 c.C, .int .i64 c.S, .int .i64 c.B, .int .i64 c.L, .int .i64 c.H, .int .i64 c.F, .int .i64 c.P, .int .i64 c.J, .int .i64 c.N], .int .i64 x] w' (RTh w' zs kd)) := Lib.hid (CRD.out rfl)
        clear CRD
        go_region_held3 (fun w' => Below w.heap.size w w' ∧ w'.cell? ⟨p, 0, none⟩ = some (.slice c.wa c.wn c.wc) ∧ w'.cell? ⟨p, 1, none⟩ = some (.slice c.ka c.kn c.kc) ∧ w'.cell? ⟨p, 2, none⟩ = some (.int .i64 c.W) ∧ w'.cell? ⟨p, 3, none⟩ = some (.int .i64 c.C) ∧ w'.cell? ⟨p, 4, none⟩ = some (.int .i64 c.S) ∧ w'.cell? ⟨p, 5, none⟩ = some (.int .i64 c.B) ∧ w'.cell? ⟨p, 6, none⟩ = some (.int .i64 c.L) ∧ w'.cell? ⟨p, 7, none⟩ = some (.int .i64 c.H) ∧ w'.cell? ⟨p, 8, none⟩ = some (.int .i64 c.F) ∧ w'.cell? ⟨p, 9, none⟩ = some (.int .i64 c.P) ∧ w'.cell? ⟨p, 10, none⟩ = some (.int .i64 c.J) ∧ w'.cell? ⟨p, 11, none⟩ = some (.int .i64 c.N))
          (first | assumption | exact ⟨SB.out.1.drew, SB.out.2⟩ | exact pq_carry (by assumption) (by assumption))
          (first
            | (go_at_call 15; (with_reducible refine (CRM.out _ (And.left (by assumption))).mono ?_); rintro e w' ⟨rfl, hb⟩)
            | (go_at_call 11; (with_reducible refine (CD.out _ (And.left (by assumption))).mono ?_); rintro e w' ⟨ea, ec, rfl, hea, hbe⟩)
            | (go_at_call 22; (with_reducible refine (CRW.out _ (And.left (by assumption))).mono ?_); rintro e w' ⟨rd, rdc, rfl, hrd, hbr⟩)
            | (go_at_call 21; (with_reducible refine (sameT_yes9 ea rd kd ec rdc zs _ (by first | exact HoldsT.own hea | exact (HoldsT.own hea).below hbr) (by first | exact hrd | exact hrd.below hbe) (by omega)).mono ?_); rintro e w' ⟨rfl, hb⟩)
            | (go_at_call 8; (with_reducible refine (awakePl_any _).mono ?_); rintro e w' ⟨rfl, hb⟩)
            | fail)
        all_goals
          have hS : Below w.heap.size w w' ∧ w'.cell? ⟨p, 0, none⟩ = some (.slice c.wa c.wn c.wc) ∧ w'.cell? ⟨p, 1, none⟩ = some (.slice c.ka c.kn c.kc) ∧ w'.cell? ⟨p, 2, none⟩ = some (.int .i64 c.W) ∧ w'.cell? ⟨p, 3, none⟩ = some (.int .i64 c.C) ∧ w'.cell? ⟨p, 4, none⟩ = some (.int .i64 c.S) ∧ w'.cell? ⟨p, 5, none⟩ = some (.int .i64 c.B) ∧ w'.cell? ⟨p, 6, none⟩ = some (.int .i64 c.L) ∧ w'.cell? ⟨p, 7, none⟩ = some (.int .i64 c.H) ∧ w'.cell? ⟨p, 8, none⟩ = some (.int .i64 c.F) ∧ w'.cell? ⟨p, 9, none⟩ = some (.int .i64 c.P) ∧ w'.cell? ⟨p, 10, none⟩ = some (.int .i64 c.J) ∧ w'.cell? ⟨p, 11, none⟩ = some (.int .i64 c.N) := by assumption
          have BF := Lib.hid hS.1
          clear hS hea hrd
          go_wp2_with fail
          go_ret
          exact ⟨rfl, BF.out⟩
open Go.ChangeShapes Go.WideShapes Go.ChangeAt in
theorem placeTells_walk {H : Type} {enc : TypeId × Value → H} (W : World) (base : Nat) (v0 v1 v2 : Value) (d0 d1 d2 : DataW H) (p0 p1 p2 : List MemPlace)
    (h0 : DataW.Trod enc Try.prog W 0 (fun _ => true) true 25 v0 d0 p0) (h1 : DataW.Trod enc Try.prog W 0 (fun _ => true) true 3 v1 d1 p1) (h2 : DataW.Trod enc Try.prog W 0 (fun _ => true) true 3 v2 d2 p2)
    (o0 : Value.okWide Try.prog W .any base 25 v0) (o1 : Value.okWide Try.prog W .any base 3 v1) (o2 : Value.okWide Try.prog W .any base 3 v2) :
    Calls Try.prog 3 #[v0, v1, v2] W fun e w' => e = .returned (.bool true) ∧ RowKit.Below W.heap.size W w' := by
  obtain ⟨c, rfl, ok⟩ := open_cfg o0 h0
  obtain ⟨x1, rfl, rfl, rfl, b1⟩ := open_int Try.underlying3 o1 h1
  obtain ⟨x2, rfl, rfl, rfl, b2⟩ := open_int Try.underlying3 o2 h2
  exact placeTells_any c x1 x2 W ok
end Go.Proofs.Ytbimbgcejeeinaa
