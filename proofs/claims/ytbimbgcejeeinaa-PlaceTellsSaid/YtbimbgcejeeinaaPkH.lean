/- texts joined -/
import Derived.Test.YtbimbgcejeeinaaPkG
import Derived.Test.YtbimbgcejeeinaaPkB
import Derived.Test.YtbimbgcejeeinaaPkF
import Derived.Test.YtbimbgcejeeinaaChecked
import Derived.Test.YtbimbgcejeeinaaPkA
import Derived.WalkLawsBesides
import Derived.WalkSpells
import Derived.Outline
/- pack: the document's Of -/
namespace Go.Proofs.Ytbimbgcejeeinaa
open Go.RowKit
set_option linter.unusedVariables false
set_option maxRecDepth 20000
theorem rOf_good (a : Option Addr) (n cap : Nat) (ts : List Tx) (w : World) (hh : HoldsT w a n ts) (hc : n ≤ cap) (hn : n ≤ 9223372036854775807) (hs : ∀ t ∈ ts, t.size ≤ 100) (hv : goodV ts = 0) :
    Calls Try.prog 37 #[.slice a n cap] w (RetE w (imgB (grS ts))) := by
  have CB := Lib.hid (rbuild_good (w0 := w) a n cap ts (grS ts) w (Below.refl _ _) hh hc hn hs hv rfl)
  have CE := Lib.hid (fun g S F (w' : World) (h : RQ g (grS ts) w' S F) => (show Calls Try.prog 56 #[.pointer (some ⟨g, 0, none⟩)] w' (RetB 5 w' (imgB (grS ts))) from by
    have G := grS_ok hv hs
    have hl := grS_few hv hs
    exact rEncode_any g (grS ts) S F w' h (fun x hx => (G.nodes x hx).fin) G.runes (fun x hx => by have := G.few x hx; omega) (bodyB_len G.few (by omega)) (by omega)))
  obtain ⟨o, ho⟩ : ∃ o, imgB (grS ts) = o := ⟨_, rfl⟩
  rw [ho] at CE ⊢
  clear hh hs hv ho
  go_enter Try.func37, Try.ntmps37
  go_wp2_with fail
  with_reducible refine CB.out.mono ?_
  rintro e w1 ⟨g, S, F, rfl, hC, hb⟩
  have C1 := Lib.hid (CE.out g S F w1 hC.1)
  have B1 := Lib.hid hb
  clear hC hb CE CB
  go_wp2_with fail
  with_reducible refine C1.out.mono ?_
  rintro e w2 ⟨a2, c2, rfl, h1, h2, h3⟩
  have F := Lib.hid (show RetE w o (.returned (.tuple #[.slice a2 o.length c2, .int .i64 0])) w2 from
    ⟨a2, c2, rfl, base_less9 h1 B1.out.size, B1.out.trans (h2.mono B1.out.size), h3⟩)
  clear h1 h2 h3 C1
  go_wp2_with fail
  go_ret2
  exact F.out
theorem rOf_bad (a : Option Addr) (n cap : Nat) (ts : List Tx) (v : Int) (w : World) (hh : HoldsT w a n ts) (hn : n ≤ 9223372036854775807) (hs : ∀ t ∈ ts, t.size ≤ 1048576) (hv : goodV ts = v) (h0 : v ≠ 0) :
    Calls Try.prog 37 #[.slice a n cap] w fun e w' => e = .returned (.tuple #[.slice none 0 0, .int .i64 v]) ∧ Below w.heap.size w w' := by
  have CB := Lib.hid (rbuild_bad a n cap ts v w hh hn hs hv h0)
  have e1 : (v != 0) = true := by simpa using h0
  clear hh hs hv h0
  go_enter Try.func37, Try.ntmps37
  go_wp2_with fail
  with_reducible refine CB.out.mono ?_
  rintro e w1 ⟨rfl, hb⟩
  have B1 := Lib.hid hb
  clear hb CB
  go_wp2_with fail
  go_ret2
  exact ⟨rfl, B1.out⟩
end Go.Proofs.Ytbimbgcejeeinaa
/- the document's place: Words, Image; Keeps of none -/
namespace Go.Proofs.Ytbimbgcejeeinaa
open Go.RowKit
set_option linter.unusedVariables false
set_option maxRecDepth 20000
set_option maxHeartbeats 3200000 in
theorem rkeeps_out (c : Cfg) (x : Int) (w : World) (h : CfgOk w c) (hsm : c.small) (hm : c.may = false) :
    Calls Try.prog 20 #[.agg #[.slice c.wa c.wn c.wc, .slice c.ka c.kn c.kc, .int .i64 c.W, .int .i64 c.C, .int .i64 c.S, .int .i64 c.B, .int .i64 c.L, .int .i64 c.H, .int .i64 c.F, .int .i64 c.P, .int .i64 c.J, .int .i64 c.N], .int .i64 x] w (RetZ w []) := by
  have BX := Lib.hid (below_one w (.cells #[.slice c.wa c.wn c.wc, .slice c.ka c.kn c.kc, .int .i64 c.W, .int .i64 c.C, .int .i64 c.S, .int .i64 c.B, .int .i64 c.L, .int .i64 c.H, .int .i64 c.F, .int .i64 c.P, .int .i64 c.J, .int .i64 c.N] 25))
  have IN := Lib.hid (cfgIn_new w c w.heap.size 25 (0, 0) rfl)
  have SH := Lib.hid (rshards_any c 0 _ (h.below BX.out) hsm (by unfold Cfg.shards; rw [hm]; rfl))
  clear h hsm hm
  go_enter Try.func20, Try.ntmps20
  go_upto_region 2 with fail
  generalize w.alloc (.cells #[.slice c.wa c.wn c.wc, .slice c.ka c.kn c.kc, .int .i64 c.W, .int .i64 c.C, .int .i64 c.S, .int .i64 c.B, .int .i64 c.L, .int .i64 c.H, .int .i64 c.F, .int .i64 c.P, .int .i64 c.J, .int .i64 c.N] 25) = w1 at *
  obtain ⟨p, hp⟩ : ∃ p, w.heap.size = p := ⟨_, rfl⟩
  have HP := Lib.hid hp
  rw [hp] at IN
  try simp only [hp]
  clear hp
  go_wp2_with fail
  go_loopw [5, 6] (fun ov iv wr => ov = .slice none 0 0 ∧ iv = .int .i64 0 ∧ wr = w1) (fun _ _ _ => 0)
  case atStart => exact ⟨rfl, rfl, rfl⟩
  case round =>
    obtain ⟨rfl, rfl, rfl⟩ := hrel
    have hI := IN.out
    unfold CfgIn at hI
    obtain ⟨i0, i1, i2, i3, i4, i5, i6, i7, i8, i9, i10, i11⟩ := hI
    go_wp2_with fail
    refine SH.out.mono ?_
    rintro e w2 ⟨rfl, hb2⟩
    have B2 := Lib.hid (BX.out.trans (hb2.mono BX.out.size))
    clear hb2 SH i0 i1 i2 i3 i4 i5 i6 i7 i8 i9 i10 i11
    go_wp2_with fail
    go_ret
    exact ⟨none, 0, rfl, World.ownsRow_nil _ _ _ _, B2.out⟩
set_option maxHeartbeats 3200000 in
theorem rpwords_in (c : Cfg) (s k : Nat) (zs : List Tx) (w : World) (h : CfgOk w c) (hsm : c.small) (hm : c.may = true) (hs : s < c.kn + 1) (hz : sliceS c.ks c.ws s = zs) (hk : zs.length = k) :
    Calls Try.prog 22 #[.agg #[.slice c.wa c.wn c.wc, .slice c.ka c.kn c.kc, .int .i64 c.W, .int .i64 c.C, .int .i64 c.S, .int .i64 c.B, .int .i64 c.L, .int .i64 c.H, .int .i64 c.F, .int .i64 c.P, .int .i64 c.J, .int .i64 c.N], .int .i64 (s : Int)] w fun e w' => ∃ a' c', e = .returned (.slice a' k c') ∧ LstP w' a' k c' zs ∧ Below w.heap.size w w' := by
  have BX := Lib.hid (below_one w (.cells #[.slice c.wa c.wn c.wc, .slice c.ka c.kn c.kc, .int .i64 c.W, .int .i64 c.C, .int .i64 c.S, .int .i64 c.B, .int .i64 c.L, .int .i64 c.H, .int .i64 c.F, .int .i64 c.P, .int .i64 c.J, .int .i64 c.N] 25))
  have IN := Lib.hid (cfgIn_new w c w.heap.size 25 (0, 0) rfl)
  have hkn := may_kn hm h
  obtain ⟨n, hn⟩ : ∃ n, c.kn + 1 = n := ⟨_, rfl⟩
  have OK := Lib.hid h
  have SH := Lib.hid (rshards_any c n _ (h.below BX.out) hsm (by unfold Cfg.shards; rw [hm, if_pos rfl]; exact hn))
  have hwn : c.wn ≤ 60 := by
    have := (goodV_zero (may_parts hm).1).1
    have := h.1.len
    omega
  have CS := Lib.hid (fun w' (hb : Below w.heap.size w w') => rslice_any c.ka c.kn c.kc c.ks c.wa c.wn c.wc c.ws s w' (OK.out.below hb).2.2.2.2.2.1 (OK.out.below hb).1 (by omega) (by omega) (by omega) (goodK_zero (may_parts hm).2.1).2.2 hsm.2 hsm.1)
  rw [hz] at CS
  unfold RetO at CS
  have HK := Lib.hid hk
  have d1 : decide ((s : Int) < 0) = false := decide_eq_false (by omega)
  have d2 : decide ((s : Int) ≥ (n : Int)) = false := decide_eq_false (by omega)
  have d3 : decide ((n : Int) ≤ (s : Int)) = false := decide_eq_false (by omega)
  have d4 : decide (n ≤ s) = false := decide_eq_false (by omega)
  clear h hsm hm hz hk hs hn
  go_enter Try.func22, Try.ntmps22
  go_upto_region 1 with fail
  generalize w.alloc (.cells #[.slice c.wa c.wn c.wc, .slice c.ka c.kn c.kc, .int .i64 c.W, .int .i64 c.C, .int .i64 c.S, .int .i64 c.B, .int .i64 c.L, .int .i64 c.H, .int .i64 c.F, .int .i64 c.P, .int .i64 c.J, .int .i64 c.N] 25) = w1 at *
  obtain ⟨p, hp⟩ : ∃ p, w.heap.size = p := ⟨_, rfl⟩
  have HP := Lib.hid hp
  rw [hp] at IN
  try simp only [hp]
  clear hp
  have hI := IN.out
  unfold CfgIn at hI
  obtain ⟨i0, i1, i2, i3, i4, i5, i6, i7, i8, i9, i10, i11⟩ := hI
  go_wp2_with fail
  refine SH.out.mono ?_
  rintro e w2 ⟨rfl, hb2⟩
  have B2 := Lib.hid (BX.out.trans (hb2.mono BX.out.size))
  have I2 := Lib.hid (IN.out.below hb2)
  have CS2 := Lib.hid (CS.out w2 B2.out)
  clear hb2 SH CS i0 i1 i2 i3 i4 i5 i6 i7 i8 i9 i10 i11
  have hI := I2.out
  unfold CfgIn at hI
  obtain ⟨i0, i1, -⟩ := hI
  go_wp2_with fail
  with_reducible refine CS2.out.mono ?_
  rintro e w3 ⟨a', c', rfl, ho, hb3⟩
  have B3 := Lib.hid (B2.out.trans (hb3.mono B2.out.size))
  have L3 := Lib.hid (LstP.own ho)
  rw [HK.out] at L3
  clear ho hb3 CS2 i0 i1
  simp only [HK.out]
  go_wp2_with fail
  go_ret
  exact ⟨a', c', rfl, L3.out, B3.out⟩
theorem rOf_d (a : Option Addr) (n cap : Nat) (ts : List Tx) (I : List Nat) (m : Nat) (w : World) (hh : HoldsT w a n ts) (hc : n ≤ cap) (hn : n ≤ 9223372036854775807) (hv : goodV ts = 0) (hI : imgB (grS ts) = I) (hm : I.length = m) :
    Calls Try.prog 37 #[.slice a n cap] w fun e w' => ∃ a' c', e = .returned (.tuple #[.slice a' m c', .int .i64 0]) ∧ w'.ownsRow w.heap.size 5 1 (.slice a' m c') m (bytesV I) ∧ HoldsB w' a' m I ∧ m ≤ c' ∧ Below w.heap.size w w' := by
  subst hI hm
  refine (rOf_good a n cap ts w hh hc hn (fun t ht => by have := good_sizes hv t ht; omega) hv).mono ?_
  rintro e w' ⟨a2, c2, rfl, h1, h2, -⟩
  exact ⟨a2, c2, rfl, h1, holdsB_of_values (owns_holds h1) (imgB_lt _), (owns_none h1).2, h2⟩
set_option maxHeartbeats 3200000 in
theorem rpwords_out (c : Cfg) (x : Int) (w : World) (h : CfgOk w c) (hsm : c.small) (hs : ¬ (0 ≤ x ∧ x < (c.shards : Int))) :
    Calls Try.prog 22 #[.agg #[.slice c.wa c.wn c.wc, .slice c.ka c.kn c.kc, .int .i64 c.W, .int .i64 c.C, .int .i64 c.S, .int .i64 c.B, .int .i64 c.L, .int .i64 c.H, .int .i64 c.F, .int .i64 c.P, .int .i64 c.J, .int .i64 c.N], .int .i64 x] w fun e w' => e = .returned (.slice none 0 0) ∧ Below w.heap.size w w' := by
  have BX := Lib.hid (below_one w (.cells #[.slice c.wa c.wn c.wc, .slice c.ka c.kn c.kc, .int .i64 c.W, .int .i64 c.C, .int .i64 c.S, .int .i64 c.B, .int .i64 c.L, .int .i64 c.H, .int .i64 c.F, .int .i64 c.P, .int .i64 c.J, .int .i64 c.N] 25))
  have IN := Lib.hid (cfgIn_new w c w.heap.size 25 (0, 0) rfl)
  obtain ⟨n, hn⟩ : ∃ n, c.shards = n := ⟨_, rfl⟩
  have SH := Lib.hid (rshards_any c n _ (h.below BX.out) hsm hn)
  rw [hn] at hs
  by_cases hx : x < 0
  · have d1 : decide (x < 0) = true := decide_eq_true hx
    clear h hsm hs hn
    go_enter Try.func22, Try.ntmps22
    go_wp2_with fail
    go_ret; exact ⟨rfl, BX.out⟩
  · have d1 : decide (x < 0) = false := decide_eq_false hx
    have d2 : decide (x ≥ (n : Int)) = true := decide_eq_true (by omega)
    have d3 : decide ((n : Int) ≤ x) = true := decide_eq_true (by omega)
    clear h hsm hs hn
    go_enter Try.func22, Try.ntmps22
    go_upto_region 1 with fail
    generalize w.alloc (.cells #[.slice c.wa c.wn c.wc, .slice c.ka c.kn c.kc, .int .i64 c.W, .int .i64 c.C, .int .i64 c.S, .int .i64 c.B, .int .i64 c.L, .int .i64 c.H, .int .i64 c.F, .int .i64 c.P, .int .i64 c.J, .int .i64 c.N] 25) = w1 at *
    obtain ⟨p, hp⟩ : ∃ p, w.heap.size = p := ⟨_, rfl⟩
    have HP := Lib.hid hp
    rw [hp] at IN
    try simp only [hp]
    clear hp
    have hI := IN.out
    unfold CfgIn at hI
    obtain ⟨i0, i1, i2, i3, i4, i5, i6, i7, i8, i9, i10, i11⟩ := hI
    go_wp2_with fail
    refine SH.out.mono ?_
    rintro e w2 ⟨rfl, hb2⟩
    have B2 := Lib.hid (BX.out.trans (hb2.mono BX.out.size))
    clear hb2 SH i0 i1 i2 i3 i4 i5 i6 i7 i8 i9 i10 i11
    go_wp2_with fail
    go_ret; exact ⟨rfl, B2.out⟩
set_option maxHeartbeats 3200000 in
theorem rimage_out (c : Cfg) (x : Int) (w : World) (h : CfgOk w c) (hsm : c.small) (hs : ¬ (0 ≤ x ∧ x < (c.shards : Int))) :
    Calls Try.prog 13 #[.agg #[.slice c.wa c.wn c.wc, .slice c.ka c.kn c.kc, .int .i64 c.W, .int .i64 c.C, .int .i64 c.S, .int .i64 c.B, .int .i64 c.L, .int .i64 c.H, .int .i64 c.F, .int .i64 c.P, .int .i64 c.J, .int .i64 c.N], .int .i64 x] w fun e w' => e = .returned (.tuple #[.slice none 0 0, .int .i64 4]) ∧ Below w.heap.size w w' := by
  have BX := Lib.hid (below_one w (.cells #[.slice c.wa c.wn c.wc, .slice c.ka c.kn c.kc, .int .i64 c.W, .int .i64 c.C, .int .i64 c.S, .int .i64 c.B, .int .i64 c.L, .int .i64 c.H, .int .i64 c.F, .int .i64 c.P, .int .i64 c.J, .int .i64 c.N] 25))
  have IN := Lib.hid (cfgIn_new w c w.heap.size 25 (0, 0) rfl)
  obtain ⟨n, hn⟩ : ∃ n, c.shards = n := ⟨_, rfl⟩
  have SH := Lib.hid (rshards_any c n _ (h.below BX.out) hsm hn)
  rw [hn] at hs
  by_cases hx : x < 0
  · have d1 : decide (x < 0) = true := decide_eq_true hx
    clear h hsm hs hn
    go_enter Try.func13, Try.ntmps13
    go_wp2_with fail
    go_ret2; exact ⟨rfl, BX.out⟩
  · have d1 : decide (x < 0) = false := decide_eq_false hx
    have d2 : decide (x ≥ (n : Int)) = true := decide_eq_true (by omega)
    have d3 : decide ((n : Int) ≤ x) = true := decide_eq_true (by omega)
    clear h hsm hs hn
    go_enter Try.func13, Try.ntmps13
    go_upto_region 1 with fail
    generalize w.alloc (.cells #[.slice c.wa c.wn c.wc, .slice c.ka c.kn c.kc, .int .i64 c.W, .int .i64 c.C, .int .i64 c.S, .int .i64 c.B, .int .i64 c.L, .int .i64 c.H, .int .i64 c.F, .int .i64 c.P, .int .i64 c.J, .int .i64 c.N] 25) = w1 at *
    obtain ⟨p, hp⟩ : ∃ p, w.heap.size = p := ⟨_, rfl⟩
    have HP := Lib.hid hp
    rw [hp] at IN
    try simp only [hp]
    clear hp
    have hI := IN.out
    unfold CfgIn at hI
    obtain ⟨i0, i1, i2, i3, i4, i5, i6, i7, i8, i9, i10, i11⟩ := hI
    go_wp2_with fail
    refine SH.out.mono ?_
    rintro e w2 ⟨rfl, hb2⟩
    have B2 := Lib.hid (BX.out.trans (hb2.mono BX.out.size))
    clear hb2 SH i0 i1 i2 i3 i4 i5 i6 i7 i8 i9 i10 i11
    go_wp2_with fail
    go_ret2; exact ⟨rfl, B2.out⟩
set_option maxHeartbeats 3200000 in
theorem rimage_in (c : Cfg) (s : Nat) (I : List Nat) (m : Nat) (w : World) (h : CfgOk w c) (hsm : c.small) (hm : c.may = true) (hs : s < c.kn + 1) (hI : imgB (grS (sliceS c.ks c.ws s)) = I) (hl : I.length = m) :
    Calls Try.prog 13 #[.agg #[.slice c.wa c.wn c.wc, .slice c.ka c.kn c.kc, .int .i64 c.W, .int .i64 c.C, .int .i64 c.S, .int .i64 c.B, .int .i64 c.L, .int .i64 c.H, .int .i64 c.F, .int .i64 c.P, .int .i64 c.J, .int .i64 c.N], .int .i64 (s : Int)] w fun e w' => ∃ a' c', e = .returned (.tuple #[.slice a' m c', .int .i64 0]) ∧ w'.ownsRow w.heap.size 5 1 (.slice a' m c') m (bytesV I) ∧ HoldsB w' a' m I ∧ m ≤ c' ∧ Below w.heap.size w w' := by
  have BX := Lib.hid (below_one w (.cells #[.slice c.wa c.wn c.wc, .slice c.ka c.kn c.kc, .int .i64 c.W, .int .i64 c.C, .int .i64 c.S, .int .i64 c.B, .int .i64 c.L, .int .i64 c.H, .int .i64 c.F, .int .i64 c.P, .int .i64 c.J, .int .i64 c.N] 25))
  have IN := Lib.hid (cfgIn_new w c w.heap.size 25 (0, 0) rfl)
  have hkn := may_kn hm h
  obtain ⟨n, hn⟩ : ∃ n, c.kn + 1 = n := ⟨_, rfl⟩
  have OK := Lib.hid h
  have SH := Lib.hid (rshards_any c n _ (h.below BX.out) hsm (by unfold Cfg.shards; rw [hm, if_pos rfl]; exact hn))
  obtain ⟨zs, hz⟩ : ∃ zs, sliceS c.ks c.ws s = zs := ⟨_, rfl⟩
  obtain ⟨k, hk⟩ : ∃ k, zs.length = k := ⟨_, rfl⟩
  have hg : goodV zs = 0 := by rw [← hz]; exact good_filter (may_parts hm).1 _
  have k60 : k ≤ 60 := by rw [← hk]; exact (goodV_zero hg).1
  have CW := Lib.hid (fun w' (hb : Below w.heap.size w w') => rpwords_in c s k zs w' (OK.out.below hb) hsm hm hs hz hk)
  rw [hz] at hI
  have CO := Lib.hid (fun w' a' c' (h : LstP w' a' k c' zs) => rOf_d a' k c' zs I m w' h.1 h.2.2 (by omega) hg hI hl)
  have d1 : decide ((s : Int) < 0) = false := decide_eq_false (by omega)
  have d2 : decide ((s : Int) ≥ (n : Int)) = false := decide_eq_false (by omega)
  have d3 : decide ((n : Int) ≤ (s : Int)) = false := decide_eq_false (by omega)
  have d4 : decide (n ≤ s) = false := decide_eq_false (by omega)
  clear h hsm hm hz hk hs hn hg hI hl
  go_enter Try.func13, Try.ntmps13
  go_upto_region 1 with fail
  generalize w.alloc (.cells #[.slice c.wa c.wn c.wc, .slice c.ka c.kn c.kc, .int .i64 c.W, .int .i64 c.C, .int .i64 c.S, .int .i64 c.B, .int .i64 c.L, .int .i64 c.H, .int .i64 c.F, .int .i64 c.P, .int .i64 c.J, .int .i64 c.N] 25) = w1 at *
  obtain ⟨p, hp⟩ : ∃ p, w.heap.size = p := ⟨_, rfl⟩
  have HP := Lib.hid hp
  rw [hp] at IN
  try simp only [hp]
  clear hp
  have hI := IN.out
  unfold CfgIn at hI
  obtain ⟨i0, i1, i2, i3, i4, i5, i6, i7, i8, i9, i10, i11⟩ := hI
  go_wp2_with fail
  refine SH.out.mono ?_
  rintro e w2 ⟨rfl, hb2⟩
  have B2 := Lib.hid (BX.out.trans (hb2.mono BX.out.size))
  have I2 := Lib.hid (IN.out.below hb2)
  have CW2 := Lib.hid (CW.out w2 B2.out)
  clear hb2 SH CW i0 i1 i2 i3 i4 i5 i6 i7 i8 i9 i10 i11
  have hI := I2.out
  unfold CfgIn at hI
  obtain ⟨i0, i1, i2, i3, i4, i5, i6, i7, i8, i9, i10, i11⟩ := hI
  go_wp2_with fail
  with_reducible refine CW2.out.mono ?_
  rintro e w3 ⟨a', c', rfl, hl3, hb3⟩
  have B3 := Lib.hid (B2.out.trans (hb3.mono B2.out.size))
  have CO3 := Lib.hid (CO.out w3 a' c' hl3)
  clear hl3 hb3 CW2 CO i0 i1 i2 i3 i4 i5 i6 i7 i8 i9 i10 i11
  go_wp2_with fail
  with_reducible refine CO3.out.mono ?_
  rintro e w4 ⟨a4, c4, rfl, ho, hh, hc, hb4⟩
  have F := Lib.hid (show w4.ownsRow w.heap.size 5 1 (.slice a4 m c4) m (bytesV I) ∧ HoldsB w4 a4 m I ∧ m ≤ c4 ∧ Below w.heap.size w w4 from ⟨base_less9 ho B3.out.size, hh, hc, B3.out.trans (hb4.mono B3.out.size)⟩)
  clear ho hh hc hb4 CO3
  go_wp2_with fail
  go_ret2
  exact ⟨a4, c4, rfl, F.out⟩
end Go.Proofs.Ytbimbgcejeeinaa
/- place of a configuration that may not be, or of a shard that is none; words of any -/
namespace Go.Proofs.Ytbimbgcejeeinaa
open Go.RowKit
set_option linter.unusedVariables false
set_option maxRecDepth 20000
set_option maxHeartbeats 1600000 in
theorem pshards_any (c : Cfg) (n : Nat) (w : World) (h : CfgOk w c) (hn : c.shards = n) :
    Calls Try.prog 16 #[.agg #[.slice c.wa c.wn c.wc, .slice c.ka c.kn c.kc, .int .i64 c.W, .int .i64 c.C, .int .i64 c.S, .int .i64 c.B, .int .i64 c.L, .int .i64 c.H, .int .i64 c.F, .int .i64 c.P, .int .i64 c.J, .int .i64 c.N]] w fun e w' => e = .returned (.int .i64 (n : Int)) ∧ Below w.heap.size w w' := by
  unfold Cfg.shards at hn
  obtain ⟨z, hz⟩ : ∃ z, c.may = z := ⟨_, rfl⟩
  rw [hz] at hn
  cases z
  · obtain rfl : 0 = n := hn
    have BX := Lib.hid (below_one w (.cells #[.slice c.wa c.wn c.wc, .slice c.ka c.kn c.kc, .int .i64 c.W, .int .i64 c.C, .int .i64 c.S, .int .i64 c.B, .int .i64 c.L, .int .i64 c.H, .int .i64 c.F, .int .i64 c.P, .int .i64 c.J, .int .i64 c.N] 25))
    have IN := Lib.hid (cfgIn_new w c w.heap.size 25 (0, 0) rfl)
    have CM := Lib.hid (may_cfg c false _ (h.below BX.out) hz)
    clear h hz
    go_enter Try.func16, Try.ntmps16
    go_wp2_with fail
    refine CM.out.mono ?_
    rintro e w2 ⟨rfl, hb2⟩
    have B2 := Lib.hid (BX.out.trans (hb2.mono BX.out.size))
    clear hb2 CM
    go_wp2_with fail
    go_ret
    exact ⟨rfl, B2.out⟩
  · obtain rfl : c.kn + 1 = n := hn
    exact shards_any c w h hz
set_option maxHeartbeats 1600000 in
theorem has_out (c : Cfg) (x : Int) (w : World) (h : CfgOk w c) (hs : ¬ (0 ≤ x ∧ x < (c.shards : Int))) :
    Calls Try.prog 33 #[.agg #[.slice c.wa c.wn c.wc, .slice c.ka c.kn c.kc, .int .i64 c.W, .int .i64 c.C, .int .i64 c.S, .int .i64 c.B, .int .i64 c.L, .int .i64 c.H, .int .i64 c.F, .int .i64 c.P, .int .i64 c.J, .int .i64 c.N], .int .i64 x] w fun e w' => e = .returned (.bool false) ∧ Below w.heap.size w w' := by
  have BX := Lib.hid (below_one w (.cells #[.slice c.wa c.wn c.wc, .slice c.ka c.kn c.kc, .int .i64 c.W, .int .i64 c.C, .int .i64 c.S, .int .i64 c.B, .int .i64 c.L, .int .i64 c.H, .int .i64 c.F, .int .i64 c.P, .int .i64 c.J, .int .i64 c.N] 25))
  have IN := Lib.hid (cfgIn_new w c w.heap.size 25 (0, 0) rfl)
  obtain ⟨n, hn⟩ : ∃ n, c.shards = n := ⟨_, rfl⟩
  have CM := Lib.hid (pshards_any c n _ (h.below BX.out) hn)
  rw [hn] at hs
  by_cases h0 : 0 ≤ x
  · have d1 : decide (x ≥ 0) = true := decide_eq_true h0
    have d2 : decide (x < (n : Int)) = false := decide_eq_false (fun h => hs ⟨h0, h⟩)
    clear h hs hn
    go_enter Try.func33, Try.ntmps33
    go_wp2_with fail
    refine CM.out.mono ?_
    rintro e w2 ⟨rfl, hb2⟩
    have B2 := Lib.hid (BX.out.trans (hb2.mono BX.out.size))
    clear hb2 CM
    go_wp2_with fail
    go_ret
    exact ⟨rfl, B2.out⟩
  · have d1 : decide (x ≥ 0) = false := decide_eq_false h0
    clear h hs hn
    go_enter Try.func33, Try.ntmps33
    go_wp2_with fail
    go_ret
    exact ⟨rfl, BX.out⟩
theorem pcopies_out (c : Cfg) (s : Int) (w : World) (h : CfgOk w c) (hs : ¬ (0 ≤ s ∧ s < (c.shards : Int))) :
    Calls Try.prog 9 #[.agg #[.slice c.wa c.wn c.wc, .slice c.ka c.kn c.kc, .int .i64 c.W, .int .i64 c.C, .int .i64 c.S, .int .i64 c.B, .int .i64 c.L, .int .i64 c.H, .int .i64 c.F, .int .i64 c.P, .int .i64 c.J, .int .i64 c.N], .int .i64 s] w (RetZ w []) := by
  have BX := Lib.hid (below_one w (.cells #[.slice c.wa c.wn c.wc, .slice c.ka c.kn c.kc, .int .i64 c.W, .int .i64 c.C, .int .i64 c.S, .int .i64 c.B, .int .i64 c.L, .int .i64 c.H, .int .i64 c.F, .int .i64 c.P, .int .i64 c.J, .int .i64 c.N] 25))
  have IN := Lib.hid (cfgIn_new w c w.heap.size 25 (0, 0) rfl)
  have CM := Lib.hid (has_out c s _ (h.below BX.out) hs)
  clear h hs
  go_enter Try.func9, Try.ntmps9
  go_wp2_with fail
  refine CM.out.mono ?_
  rintro e w2 ⟨rfl, hb2⟩
  have B2 := Lib.hid (BX.out.trans (hb2.mono BX.out.size))
  clear hb2 CM
  go_wp2_with fail
  go_ret
  exact ⟨none, 0, rfl, World.ownsRow_nil _ _ _ _, B2.out⟩
theorem pimage_out (c : Cfg) (s : Int) (w : World) (h : CfgOk w c) (hs : ¬ (0 ≤ s ∧ s < (c.shards : Int))) :
    Calls Try.prog 12 #[.agg #[.slice c.wa c.wn c.wc, .slice c.ka c.kn c.kc, .int .i64 c.W, .int .i64 c.C, .int .i64 c.S, .int .i64 c.B, .int .i64 c.L, .int .i64 c.H, .int .i64 c.F, .int .i64 c.P, .int .i64 c.J, .int .i64 c.N], .int .i64 s] w fun e w' => e = .returned (.tuple #[.slice none 0 0, .int .i64 4]) ∧ Below w.heap.size w w' := by
  have BX := Lib.hid (below_one w (.cells #[.slice c.wa c.wn c.wc, .slice c.ka c.kn c.kc, .int .i64 c.W, .int .i64 c.C, .int .i64 c.S, .int .i64 c.B, .int .i64 c.L, .int .i64 c.H, .int .i64 c.F, .int .i64 c.P, .int .i64 c.J, .int .i64 c.N] 25))
  have IN := Lib.hid (cfgIn_new w c w.heap.size 25 (0, 0) rfl)
  have CH := Lib.hid (has_out c s _ (h.below BX.out) hs)
  clear h hs
  go_enter Try.func12, Try.ntmps12
  go_wp2_with fail
  with_reducible refine CH.out.mono ?_
  rintro e w2 ⟨rfl, hb2⟩
  have B2 := Lib.hid (BX.out.trans (hb2.mono BX.out.size))
  clear hb2 CH
  go_wp2_with fail
  go_ret2
  exact ⟨rfl, B2.out⟩
set_option maxHeartbeats 1600000 in
theorem pkeeps_out (c : Cfg) (x : Int) (w : World) (h : CfgOk w c) (hm : c.may = false) :
    Calls Try.prog 10 #[.agg #[.slice c.wa c.wn c.wc, .slice c.ka c.kn c.kc, .int .i64 c.W, .int .i64 c.C, .int .i64 c.S, .int .i64 c.B, .int .i64 c.L, .int .i64 c.H, .int .i64 c.F, .int .i64 c.P, .int .i64 c.J, .int .i64 c.N], .int .i64 x] w (RetZ w []) := by
  have BX := Lib.hid (below_one w (.cells #[.slice c.wa c.wn c.wc, .slice c.ka c.kn c.kc, .int .i64 c.W, .int .i64 c.C, .int .i64 c.S, .int .i64 c.B, .int .i64 c.L, .int .i64 c.H, .int .i64 c.F, .int .i64 c.P, .int .i64 c.J, .int .i64 c.N] 25))
  have IN := Lib.hid (cfgIn_new w c w.heap.size 25 (0, 0) rfl)
  have CM := Lib.hid (pshards_any c 0 _ (h.below BX.out) (by unfold Cfg.shards; rw [hm]; rfl))
  clear h hm
  go_enter Try.func10, Try.ntmps10
  go_wp2_with fail
  refine CM.out.mono ?_
  rintro e w2 ⟨rfl, hb2⟩
  have B2 := Lib.hid (BX.out.trans (hb2.mono BX.out.size))
  clear hb2 CM
  go_wp2_with fail
  go_loopw [5, 9] (fun ov iv wr => ov = .slice none 0 0 ∧ iv = .int .i64 0 ∧ wr = w2) (fun _ _ _ => 0)
  case atStart => exact ⟨rfl, rfl, rfl⟩
  case round =>
    obtain ⟨rfl, rfl, rfl⟩ := hrel
    go_wp2_with fail
    go_ret
    exact ⟨none, 0, rfl, World.ownsRow_nil _ _ _ _, B2.out⟩
def sliceZ (ks : List KV) (ws : List Tx) (x : Int) : List Tx := ws.filter fun t => decide (0 ≤ ofZ ks t ∧ ofZ ks t = x)
theorem sliceZ_yes (ks : List KV) (ws : List Tx) (s : Int) (x : Tx) (h0 : 0 ≤ s) (h : ofZ ks x = s) : sliceZ ks (ws ++ [x]) s = sliceZ ks ws s ++ [x] := by
  unfold sliceZ; rw [List.filter_append]; simp [h, h0]
theorem sliceZ_no (ks : List KV) (ws : List Tx) (s : Int) (x : Tx) (h : ¬ (0 ≤ ofZ ks x ∧ ofZ ks x = s)) : sliceZ ks (ws ++ [x]) s = sliceZ ks ws s := by
  unfold sliceZ; rw [List.filter_append]; simp [h]
theorem sliceZ_nat (ks : List KV) (ws : List Tx) (s : Nat) : sliceZ ks ws (s : Int) = sliceS ks ws s := by
  unfold sliceZ sliceS
  apply List.filter_congr
  intro t _
  rw [decide_eq_decide]
  constructor
  · exact fun h => h.2
  · exact fun h => ⟨by omega, h⟩
theorem sliceZ_out (ks : List KV) (ws : List Tx) (x : Int) (h : ¬ (0 ≤ x ∧ x < ((ks.length + 1 : Nat) : Int))) : sliceZ ks ws x = [] := by
  unfold sliceZ
  rw [List.filter_eq_nil_iff]
  intro t _ hd
  obtain ⟨h1, h2⟩ := of_decide_eq_true hd
  refine h ⟨by omega, ?_⟩
  have h3 := ofN_le ks (keyOf t)
  unfold ofZ at h2 h1
  split at h2 <;> omega
set_option maxHeartbeats 1600000 in
theorem sliceZ_any (a : Option Addr) (n cap : Nat) (ks : List KV) (a1 : Option Addr) (n1 cap1 : Nat) (ws : List Tx) (s : Int) (w : World) (hh : HoldsK w a n ks) (hh1 : HoldsT w a1 n1 ws) (hn : n ≤ 1000) (hn1 : n1 ≤ 1000) (hsz : ∀ t ∈ ws, t.size ≤ 9223372036854775807) :
    Calls Try.prog 35 #[.slice a n cap, .slice a1 n1 cap1, .int .i64 s] w (RetO w (sliceZ ks ws s)) := by
  obtain ⟨i0, hi, hz0, hz1, hz2⟩ := info_parts str_info
  have hl := hh1.len
  go_enter Try.func35, Try.ntmps35
  go_wp2_with fail
  go_loopw [7, 13] (fun ov iv wr => ∃ (j : Nat) (P : List Tx), j ≤ n1 ∧ P.length ≤ j ∧ iv = .int .i64 j ∧ Hid (P = sliceZ ks (ws.take j) s) ∧ Hid (wr.ownsRow w.heap.size 9 1 ov P.length (strsV P)) ∧ Hid (Below w.heap.size w wr)) (fun _ iv _ => n1 - (intOf iv).toNat)
  case atStart => exact ⟨0, [], by omega, by simp, rfl, Lib.hid rfl, Lib.hid (World.ownsRow_nil _ _ _ _), Lib.hid (Below.refl _ _)⟩
  case round =>
    obtain ⟨j, P, hj, hPl, rfl, hP, hO, hB⟩ := hrel
    by_cases hlt : j < n1
    · have hcell := hh1.at (by omega)
      obtain ⟨bb, o, rfl, hc'⟩ := hcell
      have e0 := hc' j hlt
      have HC := Lib.hid (fun (w3 : World) (hb : Below w.heap.size w w3) => show w3.cell? ⟨bb, o + j, none⟩ = some (.string (ws.getD j ByteArray.empty)) from (hb.cell (p := ⟨bb, o + j, none⟩) (lt_of_cell e0)).trans e0)
      have hmem := getD_memT' ws j (by omega)
      have htk := take_succ_getD ws ByteArray.empty j (by omega)
      obtain ⟨x, hx⟩ : ∃ x, ws.getD j ByteArray.empty = x := ⟨_, rfl⟩
      rw [hx] at htk hmem
      simp only [hx] at HC
      have HT := Lib.hid htk
      have HX := Lib.hid (hsz x hmem)
      clear hx htk hc' e0 hmem
      have e1 := HC.out _ hB.out
      have H1 := Lib.hid (hh.below hB.out)
      obtain ⟨v, hv⟩ : ∃ v, ofZ ks x = v := ⟨_, rfl⟩
      have HV := Lib.hid hv
      by_cases hin : 0 ≤ v ∧ v = s
      · obtain ⟨hv1, rfl⟩ := hin
        have hls := sliceZ_yes ks (ws.take j) v x hv1 hv
        rw [← HT.out, ← hP.out] at hls
        have HL := Lib.hid hls
        have g1 : decide (v ≥ 0) = true := by rw [decide_eq_true_iff]; omega
        have g2 : (v == v) = true := by simp
        clear hls hv
        go_wp2_with fail
        refine (pof_lit a n cap ks x v wr H1.out (by omega) HX.out HV.out).mono ?_
        rintro e w2 ⟨rfl, hb2⟩
        have O2 := Lib.hid (owns_below hO.out hb2)
        have B2 := Lib.hid (hB.out.trans (hb2.mono hB.out.size))
        clear hb2 e1 hO hB
        go_wp2_with (at_builtin; refine wpList_append_any rfl (.tmp 27) (.tmp 29) 22 rfl w.heap.size 9 i0 (.string ⟨#[]⟩) 1 16 Try.underlying22 hi hz0 hz1 hz2 rfl (by decide) _ P.length _ rfl (O2.out.alloc _) _ 1 1 _ rfl (some_none _) rfl (one_new _ _ _ _) (one_str _) (by unfold maxLen; omega) (by omega) (by have := B2.out.size; simp; omega) ?_; intro a3 c3 w3 hown3 hb3 hnil3)
        rw [← strsV_snoc] at hown3
        have O3 := Lib.hid hown3
        have B3 := Lib.hid ((B2.out.alloc B2.out.size _).trans hb3)
        clear hown3 hb3 hnil3
        go_roundw
        case rel => exact ⟨j + 1, P ++ [x], by omega, by simp; omega, by go_num, Lib.hid HL.out.symm, Lib.hid (by have := O3.out; simpa using this), B3⟩
        case measure => simp [intOf]; omega
      · have hls := sliceZ_no ks (ws.take j) s x (by rw [hv]; exact hin)
        rw [← HT.out, ← hP.out] at hls
        have HL := Lib.hid hls
        clear hls hv
        go_wp2_with fail
        refine (pof_lit a n cap ks x v wr H1.out (by omega) HX.out HV.out).mono ?_
        rintro e w2 ⟨rfl, hb2⟩
        have O2 := Lib.hid (owns_below hO.out hb2)
        have B2 := Lib.hid (hB.out.trans (hb2.mono hB.out.size))
        clear hb2 e1 hO hB
        by_cases hv0 : v ≥ 0
        · have g1 : decide (v ≥ 0) = true := decide_eq_true hv0
          have g2 : (v == s) = false := by rw [beq_eq_false_iff_ne]; exact fun e => hin ⟨hv0, e⟩
          go_wp2_with fail
          go_roundw
          case rel => exact ⟨j + 1, P, by omega, by omega, by go_num, Lib.hid HL.out.symm, O2, B2⟩
          case measure => simp [intOf]; omega
        · have g1 : decide (v ≥ 0) = false := decide_eq_false hv0
          go_wp2_with fail
          go_roundw
          case rel => exact ⟨j + 1, P, by omega, by omega, by go_num, Lib.hid HL.out.symm, O2, B2⟩
          case measure => simp [intOf]; omega
    · have hjn : ws.take j = ws := List.take_of_length_le (by omega)
      have hP2 := hP.out
      rw [hjn] at hP2
      have HP := Lib.hid hP2
      clear hP hP2 hjn
      obtain ⟨a4, c4, rfl⟩ : ∃ a4 c4, u7 = .slice a4 P.length c4 := by
        rcases hO.out.2 with ⟨h, h0⟩ | ⟨g', c', cur, h, _⟩
        · exact ⟨none, 0, by rw [h, h0]⟩
        · exact ⟨_, c', h⟩
      go_wp2_with fail
      go_ret
      exact ret_own HP.out rfl hO.out hB.out _ rfl
set_option maxHeartbeats 1600000 in
theorem pwordsZ_any (c : Cfg) (x : Int) (zs : List Tx) (k : Nat) (w : World) (h : CfgOk w c) (hk : c.kn ≤ 10) (hw : c.wn ≤ 80) (hz : sliceZ c.ks c.ws x = zs) (hl : zs.length = k) :
    Calls Try.prog 11 #[.agg #[.slice c.wa c.wn c.wc, .slice c.ka c.kn c.kc, .int .i64 c.W, .int .i64 c.C, .int .i64 c.S, .int .i64 c.B, .int .i64 c.L, .int .i64 c.H, .int .i64 c.F, .int .i64 c.P, .int .i64 c.J, .int .i64 c.N], .int .i64 x] w fun e w' => ∃ a' c', e = .returned (.slice a' k c') ∧ w'.ownsRow w.heap.size 9 1 (.slice a' k c') k (strsV zs) ∧ Below w.heap.size w w' := by
  have BX := Lib.hid (below_one w (.cells #[.slice c.wa c.wn c.wc, .slice c.ka c.kn c.kc, .int .i64 c.W, .int .i64 c.C, .int .i64 c.S, .int .i64 c.B, .int .i64 c.L, .int .i64 c.H, .int .i64 c.F, .int .i64 c.P, .int .i64 c.J, .int .i64 c.N] 25))
  have IN := Lib.hid (cfgIn_new w c w.heap.size 25 (0, 0) rfl)
  have ok := h.below BX.out
  have CS := Lib.hid (sliceZ_any c.ka c.kn c.kc c.ks c.wa c.wn c.wc c.ws x _ ok.2.2.2.2.2.1 ok.1 (by omega) (by omega) ok.2.2.2.2.1)
  rw [hz] at CS
  unfold RetO at CS
  rw [hl] at CS
  clear ok h hk hw hz hl
  go_enter Try.func11, Try.ntmps11
  go_wp2_with fail
  with_reducible refine CS.out.mono ?_
  rintro e w2 ⟨a', c', rfl, ho, hb⟩
  have B2 := Lib.hid (BX.out.trans (hb.mono BX.out.size))
  have L2 := Lib.hid (show w2.ownsRow w.heap.size 9 1 (.slice a' k c') k (strsV zs) from by
    exact ⟨ho.1, ho.2.imp id (fun ⟨g, cap, cur, hv, hge, r⟩ => ⟨g, cap, cur, hv, Nat.le_trans BX.out.size hge, r⟩)⟩)
  clear hb ho
  go_wp2_with fail
  go_ret
  exact ⟨a', c', rfl, L2.out, B2.out⟩
end Go.Proofs.Ytbimbgcejeeinaa
/- place and the document's place: of each call one contract for both -/
namespace Go.Proofs.Ytbimbgcejeeinaa
open Go.RowKit
set_option linter.unusedVariables false
set_option maxRecDepth 20000
def RZn (w : World) (L : List Int) (n : Nat) (e : Ending) (w' : World) : Prop := ∃ a c, e = .returned (.slice a n c) ∧ w'.ownsRow w.heap.size 3 1 (.slice a n c) n (numsV L) ∧ Below w.heap.size w w'
theorem rzn_of {w w' : World} {L : List Int} {n : Nat} {e : Ending} (hl : L.length = n) (h : RetZ w L e w') : RZn w L n e w' := by
  subst hl; exact h
/-- bytes and an error, the call's own -/
def RIn (w : World) (I : List Nat) (m : Nat) (z : Int) (e : Ending) (w' : World) : Prop := ∃ a c, e = .returned (.tuple #[.slice a m c, .int .i64 z]) ∧ w'.ownsRow w.heap.size 5 1 (.slice a m c) m (bytesV I) ∧ HoldsB w' a m I ∧ Below w.heap.size w w'
def RTn (w : World) (zs : List Tx) (k : Nat) (e : Ending) (w' : World) : Prop := ∃ a c, e = .returned (.slice a k c) ∧ w'.ownsRow w.heap.size 9 1 (.slice a k c) k (strsV zs) ∧ Below w.heap.size w w'
def RTh (w : World) (zs : List Tx) (k : Nat) (e : Ending) (w' : World) : Prop := ∃ a c, e = .returned (.slice a k c) ∧ HoldsT w' a k zs ∧ Below w.heap.size w w'
theorem shards_may {c : Cfg} {x : Int} (h : 0 ≤ x ∧ x < (c.shards : Int)) : c.may = true ∧ ∃ s : Nat, x = (s : Int) ∧ s < c.kn + 1 := by
  obtain ⟨h0, h1⟩ := h
  unfold Cfg.shards at h1
  cases hm : c.may
  · rw [hm] at h1; simp at h1; omega
  · rw [hm] at h1
    refine ⟨rfl, x.toNat, by omega, ?_⟩
    simp at h1
    omega
theorem wc_parts {c : Cfg} (hm : c.may = true) : ∃ W C : Nat, c.W = (W : Int) ∧ c.C = (C : Int) ∧ C ≤ 3 := by
  obtain ⟨-, -, hw, hc, -⟩ := may_parts hm
  exact ⟨c.W.toNat, c.C.toNat, by omega, by omega, by omega⟩
theorem cop_both (c : Cfg) (x : Int) (w : World) (h : CfgOk w c) (hsm : c.small) : ∃ (L : List Int) (n : Nat), n ≤ 1000 ∧ (∀ w', Below w.heap.size w w' → Calls Try.prog 9 #[.agg #[.slice c.wa c.wn c.wc, .slice c.ka c.kn c.kc, .int .i64 c.W, .int .i64 c.C, .int .i64 c.S, .int .i64 c.B, .int .i64 c.L, .int .i64 c.H, .int .i64 c.F, .int .i64 c.P, .int .i64 c.J, .int .i64 c.N], .int .i64 x] w' (RZn w' L n)) ∧ (∀ w', Below w.heap.size w w' → Calls Try.prog 19 #[.agg #[.slice c.wa c.wn c.wc, .slice c.ka c.kn c.kc, .int .i64 c.W, .int .i64 c.C, .int .i64 c.S, .int .i64 c.B, .int .i64 c.L, .int .i64 c.H, .int .i64 c.F, .int .i64 c.P, .int .i64 c.J, .int .i64 c.N], .int .i64 x] w' (RZn w' L n)) := by
  by_cases hs : 0 ≤ x ∧ x < (c.shards : Int)
  · obtain ⟨hm, s, rfl, hk⟩ := shards_may hs
    obtain ⟨W, C, hW, hC, hC3⟩ := wc_parts hm
    exact ⟨Pl.cop W C s, C, by omega, fun w' hb => (copies_in c s W C w' (h.below hb) hm hk hW hC).mono fun _ _ => rzn_of (Pl.cop_len W C s), fun w' hb => (rcopies_in c s W C w' (h.below hb) hsm hm hk hW hC).mono fun _ _ => rzn_of (Pl.cop_len W C s)⟩
  · exact ⟨[], 0, by omega, fun w' hb => (pcopies_out c x w' (h.below hb) hs).mono fun _ _ => rzn_of rfl, fun w' hb => (rcopies_out c x w' (h.below hb) hsm hs).mono fun _ _ => rzn_of rfl⟩
theorem keep_both (c : Cfg) (x : Int) (w : World) (h : CfgOk w c) (hsm : c.small) : ∃ (L : List Int) (n : Nat), n ≤ 1000 ∧ (∀ w', Below w.heap.size w w' → Calls Try.prog 10 #[.agg #[.slice c.wa c.wn c.wc, .slice c.ka c.kn c.kc, .int .i64 c.W, .int .i64 c.C, .int .i64 c.S, .int .i64 c.B, .int .i64 c.L, .int .i64 c.H, .int .i64 c.F, .int .i64 c.P, .int .i64 c.J, .int .i64 c.N], .int .i64 x] w' (RZn w' L n)) ∧ (∀ w', Below w.heap.size w w' → Calls Try.prog 20 #[.agg #[.slice c.wa c.wn c.wc, .slice c.ka c.kn c.kc, .int .i64 c.W, .int .i64 c.C, .int .i64 c.S, .int .i64 c.B, .int .i64 c.L, .int .i64 c.H, .int .i64 c.F, .int .i64 c.P, .int .i64 c.J, .int .i64 c.N], .int .i64 x] w' (RZn w' L n)) := by
  cases hm : c.may
  · exact ⟨[], 0, by omega, fun w' hb => (pkeeps_out c x w' (h.below hb) hm).mono fun _ _ => rzn_of rfl, fun w' hb => (rkeeps_out c x w' (h.below hb) hsm hm).mono fun _ _ => rzn_of rfl⟩
  · obtain ⟨W, C, hW, hC, hC3⟩ := wc_parts hm
    refine ⟨natsZ (Pl.keep W C (c.kn + 1) x), (natsZ (Pl.keep W C (c.kn + 1) x)).length, ?_, fun w' hb => (keeps_any c x W C w' (h.below hb) hm hW hC).mono fun _ _ => rzn_of rfl, fun w' hb => (rkeeps_in c x W C w' (h.below hb) hsm hm hW hC).mono fun _ _ => rzn_of rfl⟩
    rw [natsZ_len]
    have := Pl.keep_len W C (c.kn + 1) x
    have := may_kn hm h
    omega
theorem words_both (c : Cfg) (x : Int) (w : World) (h : CfgOk w c) (hsm : c.small) (hk : c.kn ≤ 10) (hw : c.wn ≤ 80) : ∃ (zs : List Tx) (k : Nat), k ≤ 1000 ∧ (∀ w', Below w.heap.size w w' → Calls Try.prog 11 #[.agg #[.slice c.wa c.wn c.wc, .slice c.ka c.kn c.kc, .int .i64 c.W, .int .i64 c.C, .int .i64 c.S, .int .i64 c.B, .int .i64 c.L, .int .i64 c.H, .int .i64 c.F, .int .i64 c.P, .int .i64 c.J, .int .i64 c.N], .int .i64 x] w' (RTn w' zs k)) ∧ (c.may = true → ∀ w', Below w.heap.size w w' → Calls Try.prog 22 #[.agg #[.slice c.wa c.wn c.wc, .slice c.ka c.kn c.kc, .int .i64 c.W, .int .i64 c.C, .int .i64 c.S, .int .i64 c.B, .int .i64 c.L, .int .i64 c.H, .int .i64 c.F, .int .i64 c.P, .int .i64 c.J, .int .i64 c.N], .int .i64 x] w' (RTh w' zs k)) := by
  have hkl := h.2.2.2.2.2.1.len
  refine ⟨sliceZ c.ks c.ws x, (sliceZ c.ks c.ws x).length, ?_, fun w' hb => pwordsZ_any c x _ _ w' (h.below hb) hk hw rfl rfl, fun hm w' hb => ?_⟩
  · have h1 : (sliceZ c.ks c.ws x).length ≤ c.ws.length := List.length_filter_le _ _
    have := h.1.len
    omega
  · by_cases hs : 0 ≤ x ∧ x < (c.shards : Int)
    · obtain ⟨-, s, rfl, hks⟩ := shards_may hs
      rw [sliceZ_nat]
      exact (rpwords_in c s _ _ w' (h.below hb) hsm hm hks rfl rfl).mono fun _ _ ⟨a, cc, e, hl, hb⟩ => ⟨a, cc, e, hl.1, hb⟩
    · have hz : sliceZ c.ks c.ws x = [] := sliceZ_out _ _ _ (by unfold Cfg.shards at hs; rw [hm, if_pos rfl] at hs; rw [hkl]; exact hs)
      rw [hz]
      exact (rpwords_out c x w' (h.below hb) hsm hs).mono fun _ _ ⟨e, hb⟩ => ⟨none, 0, e, HoldsT.nil _ _, hb⟩
theorem image_both (c : Cfg) (x : Int) (w : World) (h : CfgOk w c) (hsm : c.small) : ∃ (I : List Nat) (m : Nat) (z : Int), m ≤ 524004 ∧ (∀ w', Below w.heap.size w w' → Calls Try.prog 12 #[.agg #[.slice c.wa c.wn c.wc, .slice c.ka c.kn c.kc, .int .i64 c.W, .int .i64 c.C, .int .i64 c.S, .int .i64 c.B, .int .i64 c.L, .int .i64 c.H, .int .i64 c.F, .int .i64 c.P, .int .i64 c.J, .int .i64 c.N], .int .i64 x] w' (RIn w' I m z)) ∧ (∀ w', Below w.heap.size w w' → Calls Try.prog 13 #[.agg #[.slice c.wa c.wn c.wc, .slice c.ka c.kn c.kc, .int .i64 c.W, .int .i64 c.C, .int .i64 c.S, .int .i64 c.B, .int .i64 c.L, .int .i64 c.H, .int .i64 c.F, .int .i64 c.P, .int .i64 c.J, .int .i64 c.N], .int .i64 x] w' (RIn w' I m z)) := by
  by_cases hs : 0 ≤ x ∧ x < (c.shards : Int)
  · obtain ⟨hm, s, rfl, hk⟩ := shards_may hs
    have hl := imgB_len (good_filter (may_parts hm).1 (fun t => decide (ofZ c.ks t = (s : Int))))
    exact ⟨imgB (grS (sliceS c.ks c.ws s)), (imgB (grS (sliceS c.ks c.ws s))).length, 0, hl.2,
      fun w' hb => (image_in c s _ _ _ w' (h.below hb) hm hk rfl rfl rfl).mono fun _ _ ⟨a, cc, e, ho, hh, _, hb⟩ => ⟨a, cc, e, ho, hh, hb⟩,
      fun w' hb => (rimage_in c s _ _ w' (h.below hb) hsm hm hk rfl rfl).mono fun _ _ ⟨a, cc, e, ho, hh, _, hb⟩ => ⟨a, cc, e, ho, hh, hb⟩⟩
  · exact ⟨[], 0, 4, by omega, fun w' hb => (pimage_out c x w' (h.below hb) hs).mono fun _ _ ⟨e, hb⟩ => ⟨none, 0, e, World.ownsRow_nil _ _ _ _, holdsB_nil _ _, hb⟩, fun w' hb => (rimage_out c x w' (h.below hb) hsm hs).mono fun _ _ ⟨e, hb⟩ => ⟨none, 0, e, World.ownsRow_nil _ _ _ _, holdsB_nil _ _, hb⟩⟩
end Go.Proofs.Ytbimbgcejeeinaa
/- what was answered is written over, and beyond (OverInts): nothing but its own block is written -/
namespace Go.Proofs.Ytbimbgcejeeinaa
open Go.RowKit
set_option linter.unusedVariables false
set_option maxRecDepth 20000
theorem ovgInts_info : (Try.prog.info? 3).map (fun i => (i.zero, i.size, i.bytes)) = some (some (.int .i64 0), 1, 8) := by kernel_rfl
set_option maxHeartbeats 400000 in
/-- Written over is a slice of the call's own (its blocks lie from B on): below B nothing turns, and nothing but the slice's block. -/
theorem ovgInts_any (B : Nat) (a : Option Addr) (n cap : Nat) (xs : List Value) (w : World) (h : w.ownsRow B 3 1 (.slice a n cap) n xs) (hB : B ≤ w.heap.size) (hn : n ≤ 1048576) :
    Calls Try.prog 25 #[.slice a n cap] w fun e w' => e = .returned (.tuple #[]) ∧ Below B w w' ∧ w.grownBy w' (Value.slice a n cap).ownBlock := by
  obtain ⟨i0, hi, hz0, hz1, hz2⟩ := info_parts ovgInts_info
  have H := Lib.hid h
  clear h
  go_enter Try.func25, Try.ntmps25
  go_wp2_with fail
  go_loopw [2] (fun i wr => ∃ (k : Nat) (ys : List Value), k ≤ n ∧ i = .int .i64 k ∧ Hid (wr.ownsRow B 3 1 (.slice a n cap) n ys) ∧ Hid (Below B w wr) ∧ Hid (w.grownBy wr (Value.slice a n cap).ownBlock)) (fun i _ => n - (intOf i).toNat)
  case atStart => exact ⟨0, xs, by omega, rfl, H, Below.refl _ _, Lib.hid ⟨rfl, rfl, rfl, Nat.le_refl _, fun _ _ _ => rfl⟩⟩
  case round =>
    obtain ⟨k, ys, hk, rfl, hO, hBw, hGr⟩ := hrel
    by_cases hlt : k < n
    · obtain ⟨g, rfl⟩ : ∃ g, a = some ⟨g, 0, none⟩ := by
        obtain ⟨g, cap', hv⟩ := Joins.ownsRow_form hO.out (by omega)
        simp only [Value.slice.injEq] at hv
        exact ⟨g, hv.1⟩
      have hc := hO.out.cellAt k (by omega)
      have hyl : k < ys.length := by have := hO.out.1; omega
      rw [List.getElem?_eq_getElem hyl] at hc
      obtain ⟨y, hy⟩ : ∃ y, ys[k] = y := ⟨_, rfl⟩
      rw [hy] at hc
      clear hy hyl
      have hf := hO.out.frozenAt k
      have HG2 := Lib.hid (fun v => (⟨hGr.out.os, hGr.out.tape, hGr.out.output, by have := hGr.out.size; simpa using this, fun b hb hne => (Below.heap_setCell wr ⟨g, k, none⟩ v b (fun e => hne (by show some b = some g; rw [e]))).trans (hGr.out.block b hb hne)⟩ : w.grownBy (wr.setCell ⟨g, k, none⟩ v) (Value.slice (some ⟨g, 0, none⟩) n cap).ownBlock))
      go_wp2
      go_roundw
      case rel => exact ⟨k + 1, _, by omega, by go_num, Lib.hid (hO.out.stored k _).1, Lib.hid (hBw.out.setCell (p := ⟨g, k, none⟩) (hO.out.lt g rfl).1 _), Lib.hid (HG2.out _)⟩
      case measure => simp [intOf]; omega
    · have hs := hBw.out.size
      go_wp2_with (at_builtin; refine wpList_append_own _ rfl (.tmp 12) (.tmp 13) 28 rfl B 3 i0 (.int .i64 0) 1 8 Try.underlying28 hi hz0 hz1 hz2 rfl (by decide) _ n _ rfl (hO.out.alloc _) _ 1 1 _ rfl rfl (one_new _ _ _ _ _ rfl) (one_int _ _) (by unfold maxLen; omega) (by omega) (by simp; omega) ?_; intro v3 w3 hown3 hg3 hnil3)
      go_end0
      have hsz := hGr.out.size
      refine ⟨rfl, hBw.out.trans (((Below.refl _ _).alloc (by omega) _).grown hg3 (by simp; omega) fun k hk => (hO.out.lt k hk).1), ⟨hg3.os.trans hGr.out.os, hg3.tape.trans hGr.out.tape, hg3.output.trans hGr.out.output, ?_, fun b hb hne => ?_⟩⟩
      · have := hg3.size; simp at this; omega
      · rw [hg3.block b (by simp; omega) hne, Below.heap_alloc _ _ _ (by omega)]
        exact hGr.out.block b hb hne
end Go.Proofs.Ytbimbgcejeeinaa
/- what was answered is written over, and beyond (OverTexts): nothing but its own block is written -/
namespace Go.Proofs.Ytbimbgcejeeinaa
open Go.RowKit
set_option linter.unusedVariables false
set_option maxRecDepth 20000
theorem ovgTexts_info : (Try.prog.info? 9).map (fun i => (i.zero, i.size, i.bytes)) = some (some (.string ⟨#[]⟩), 1, 16) := by kernel_rfl
set_option maxHeartbeats 400000 in
/-- Written over is a slice of the call's own (its blocks lie from B on): below B nothing turns, and nothing but the slice's block. -/
theorem ovgTexts_any (B : Nat) (a : Option Addr) (n cap : Nat) (xs : List Value) (w : World) (h : w.ownsRow B 9 1 (.slice a n cap) n xs) (hB : B ≤ w.heap.size) (hn : n ≤ 1048576) :
    Calls Try.prog 26 #[.slice a n cap] w fun e w' => e = .returned (.tuple #[]) ∧ Below B w w' ∧ w.grownBy w' (Value.slice a n cap).ownBlock := by
  obtain ⟨i0, hi, hz0, hz1, hz2⟩ := info_parts ovgTexts_info
  have H := Lib.hid h
  clear h
  go_enter Try.func26, Try.ntmps26
  go_wp2_with fail
  go_loopw [2] (fun i wr => ∃ (k : Nat) (ys : List Value), k ≤ n ∧ i = .int .i64 k ∧ Hid (wr.ownsRow B 9 1 (.slice a n cap) n ys) ∧ Hid (Below B w wr) ∧ Hid (w.grownBy wr (Value.slice a n cap).ownBlock)) (fun i _ => n - (intOf i).toNat)
  case atStart => exact ⟨0, xs, by omega, rfl, H, Below.refl _ _, Lib.hid ⟨rfl, rfl, rfl, Nat.le_refl _, fun _ _ _ => rfl⟩⟩
  case round =>
    obtain ⟨k, ys, hk, rfl, hO, hBw, hGr⟩ := hrel
    by_cases hlt : k < n
    · obtain ⟨g, rfl⟩ : ∃ g, a = some ⟨g, 0, none⟩ := by
        obtain ⟨g, cap', hv⟩ := Joins.ownsRow_form hO.out (by omega)
        simp only [Value.slice.injEq] at hv
        exact ⟨g, hv.1⟩
      have hc := hO.out.cellAt k (by omega)
      have hyl : k < ys.length := by have := hO.out.1; omega
      rw [List.getElem?_eq_getElem hyl] at hc
      obtain ⟨y, hy⟩ : ∃ y, ys[k] = y := ⟨_, rfl⟩
      rw [hy] at hc
      clear hy hyl
      have hf := hO.out.frozenAt k
      have HG2 := Lib.hid (fun v => (⟨hGr.out.os, hGr.out.tape, hGr.out.output, by have := hGr.out.size; simpa using this, fun b hb hne => (Below.heap_setCell wr ⟨g, k, none⟩ v b (fun e => hne (by show some b = some g; rw [e]))).trans (hGr.out.block b hb hne)⟩ : w.grownBy (wr.setCell ⟨g, k, none⟩ v) (Value.slice (some ⟨g, 0, none⟩) n cap).ownBlock))
      go_wp2
      go_roundw
      case rel => exact ⟨k + 1, _, by omega, by go_num, Lib.hid (hO.out.stored k _).1, Lib.hid (hBw.out.setCell (p := ⟨g, k, none⟩) (hO.out.lt g rfl).1 _), Lib.hid (HG2.out _)⟩
      case measure => simp [intOf]; omega
    · have hs := hBw.out.size
      go_wp2_with (at_builtin; refine wpList_append_own _ rfl (.tmp 12) (.tmp 13) 22 rfl B 9 i0 (.string ⟨#[]⟩) 1 16 Try.underlying22 hi hz0 hz1 hz2 rfl (by decide) _ n _ rfl (hO.out.alloc _) _ 1 1 _ rfl rfl (one_new _ _ _ _ _ rfl) (one_str _) (by unfold maxLen; omega) (by omega) (by simp; omega) ?_; intro v3 w3 hown3 hg3 hnil3)
      go_end0
      have hsz := hGr.out.size
      refine ⟨rfl, hBw.out.trans (((Below.refl _ _).alloc (by omega) _).grown hg3 (by simp; omega) fun k hk => (hO.out.lt k hk).1), ⟨hg3.os.trans hGr.out.os, hg3.tape.trans hGr.out.tape, hg3.output.trans hGr.out.output, ?_, fun b hb hne => ?_⟩⟩
      · have := hg3.size; simp at this; omega
      · rw [hg3.block b (by simp; omega) hne, Below.heap_alloc _ _ _ (by omega)]
        exact hGr.out.block b hb hne
end Go.Proofs.Ytbimbgcejeeinaa
/- what was answered is written over, and beyond (OverBytes): nothing but its own block is written -/
namespace Go.Proofs.Ytbimbgcejeeinaa
open Go.RowKit
set_option linter.unusedVariables false
set_option maxRecDepth 20000
theorem ovgBytes_info : (Try.prog.info? 5).map (fun i => (i.zero, i.size, i.bytes)) = some (some (.int .u8 0), 1, 1) := by kernel_rfl
set_option maxHeartbeats 400000 in
/-- Written over is a slice of the call's own (its blocks lie from B on): below B nothing turns, and nothing but the slice's block. -/
theorem ovgBytes_any (B : Nat) (a : Option Addr) (n cap : Nat) (xs : List Value) (w : World) (h : w.ownsRow B 5 1 (.slice a n cap) n xs) (hB : B ≤ w.heap.size) (hn : n ≤ 1048576) :
    Calls Try.prog 27 #[.slice a n cap] w fun e w' => e = .returned (.tuple #[]) ∧ Below B w w' ∧ w.grownBy w' (Value.slice a n cap).ownBlock := by
  obtain ⟨i0, hi, hz0, hz1, hz2⟩ := info_parts ovgBytes_info
  have H := Lib.hid h
  clear h
  go_enter Try.func27, Try.ntmps27
  go_wp2_with fail
  go_loopw [2] (fun i wr => ∃ (k : Nat) (ys : List Value), k ≤ n ∧ i = .int .i64 k ∧ Hid (wr.ownsRow B 5 1 (.slice a n cap) n ys) ∧ Hid (Below B w wr) ∧ Hid (w.grownBy wr (Value.slice a n cap).ownBlock)) (fun i _ => n - (intOf i).toNat)
  case atStart => exact ⟨0, xs, by omega, rfl, H, Below.refl _ _, Lib.hid ⟨rfl, rfl, rfl, Nat.le_refl _, fun _ _ _ => rfl⟩⟩
  case round =>
    obtain ⟨k, ys, hk, rfl, hO, hBw, hGr⟩ := hrel
    by_cases hlt : k < n
    · obtain ⟨g, rfl⟩ : ∃ g, a = some ⟨g, 0, none⟩ := by
        obtain ⟨g, cap', hv⟩ := Joins.ownsRow_form hO.out (by omega)
        simp only [Value.slice.injEq] at hv
        exact ⟨g, hv.1⟩
      have hc := hO.out.cellAt k (by omega)
      have hyl : k < ys.length := by have := hO.out.1; omega
      rw [List.getElem?_eq_getElem hyl] at hc
      obtain ⟨y, hy⟩ : ∃ y, ys[k] = y := ⟨_, rfl⟩
      rw [hy] at hc
      clear hy hyl
      have hf := hO.out.frozenAt k
      have HG2 := Lib.hid (fun v => (⟨hGr.out.os, hGr.out.tape, hGr.out.output, by have := hGr.out.size; simpa using this, fun b hb hne => (Below.heap_setCell wr ⟨g, k, none⟩ v b (fun e => hne (by show some b = some g; rw [e]))).trans (hGr.out.block b hb hne)⟩ : w.grownBy (wr.setCell ⟨g, k, none⟩ v) (Value.slice (some ⟨g, 0, none⟩) n cap).ownBlock))
      go_wp2
      go_roundw
      case rel => exact ⟨k + 1, _, by omega, by go_num, Lib.hid (hO.out.stored k _).1, Lib.hid (hBw.out.setCell (p := ⟨g, k, none⟩) (hO.out.lt g rfl).1 _), Lib.hid (HG2.out _)⟩
      case measure => simp [intOf]; omega
    · have hs := hBw.out.size
      go_wp2_with (at_builtin; refine wpList_append_own _ rfl (.tmp 12) (.tmp 13) 31 rfl B 5 i0 (.int .u8 0) 1 1 Try.underlying31 hi hz0 hz1 hz2 rfl (by decide) _ n _ rfl (hO.out.alloc _) _ 1 1 _ rfl rfl (one_new _ _ _ _ _ rfl) (one_int _ _) (by unfold maxLen; omega) (by omega) (by simp; omega) ?_; intro v3 w3 hown3 hg3 hnil3)
      go_end0
      have hsz := hGr.out.size
      refine ⟨rfl, hBw.out.trans (((Below.refl _ _).alloc (by omega) _).grown hg3 (by simp; omega) fun k hk => (hO.out.lt k hk).1), ⟨hg3.os.trans hGr.out.os, hg3.tape.trans hGr.out.tape, hg3.output.trans hGr.out.output, ?_, fun b hb hne => ?_⟩⟩
      · have := hg3.size; simp at this; omega
      · rw [hg3.block b (by simp; omega) hne, Below.heap_alloc _ _ _ (by omega)]
        exact hGr.out.block b hb hne
end Go.Proofs.Ytbimbgcejeeinaa
