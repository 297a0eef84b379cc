/- the law that each word is one shard's -/
import Derived.Test.YtnbfdoneknidhaaKr1
import Derived.Test.YtnbfdoneknidhaaKp9
import Derived.Test.YtnbfdoneknidhaaKr2
import Derived.Test.YtnbfdoneknidhaaWa2
import Derived.Test.YtnbfdoneknidhaaWs8
import Derived.Test.YtnbfdoneknidhaaOpT
namespace Go.Proofs.Ytnbfdoneknidhaa
open Go.RowKit
set_option linter.unusedVariables false
def belowS (ks : List KV) (ws : List Tx) (s : Nat) : List Tx := ws.filter fun t => decide (ofZ ks t < (s : Int))
theorem pwhole_merge {ks : List KV} {ws : List Tx} (hs : SortedS ws) (s : Nat) : mergeL (belowS ks ws s) (sliceS ks ws s) = belowS ks ws (s + 1) := by
  refine sorted_unique (mergeL_sorted _ _ _ (Nat.le_refl _) (sorted_filter _ hs) (sorted_filter _ hs)) (sorted_filter _ hs) fun z => ?_
  rw [mem_mergeL]
  unfold belowS sliceS
  simp only [List.mem_filter, decide_eq_true_eq]
  constructor
  · rintro (⟨h, k⟩ | ⟨h, k⟩)
    · exact ⟨h, by omega⟩
    · exact ⟨h, by omega⟩
  · rintro ⟨h, k⟩
    by_cases h2 : ofZ ks z < (s : Int)
    · exact Or.inl ⟨h, h2⟩
    · exact Or.inr ⟨h, by omega⟩
theorem pwhole_len (ks : List KV) (s : Nat) : ∀ ws : List Tx, (belowS ks ws (s + 1)).length = (belowS ks ws s).length + (sliceS ks ws s).length
  | [] => rfl
  | t :: ws => by
    have ih := pwhole_len ks s ws
    unfold belowS sliceS at ih ⊢
    simp only [List.filter_cons]
    rcases Int.lt_trichotomy (ofZ ks t) (s : Int) with h | h | h
    · rw [if_pos (by simp; omega), if_pos (by simp; omega), if_neg (by simp; omega), List.length_cons, List.length_cons]; omega
    · rw [if_pos (by simp; omega), if_neg (by simp; omega), if_pos (by simp; omega), List.length_cons, List.length_cons]; omega
    · rw [if_neg (by simp; omega), if_neg (by simp; omega), if_neg (by simp; omega)]; omega
theorem pwhole_zero {ks : List KV} {ws : List Tx} (hw : ∀ t ∈ ws, wordP t) : belowS ks ws 0 = [] := by
  unfold belowS
  rw [List.filter_eq_nil_iff]
  intro t ht
  rw [ofZ_word (hw t ht)]
  simp
theorem pwhole_all {ks : List KV} {ws : List Tx} (hw : ∀ t ∈ ws, wordP t) : belowS ks ws (ks.length + 1) = ws := by
  unfold belowS
  rw [List.filter_eq_self]
  intro t ht
  rw [ofZ_word (hw t ht), decide_eq_true_iff]
  have := ofN_le ks (keyOf t)
  omega
theorem pwhole_none {ks : List KV} {ws : List Tx} (hw : ∀ t ∈ ws, wordP t) : sliceS ks ws (ks.length + 1) = [] := by
  unfold sliceS
  rw [List.filter_eq_nil_iff]
  intro t ht
  rw [ofZ_word (hw t ht)]
  have := ofN_le ks (keyOf t)
  simp; omega
theorem in_shard {ks : List KV} {ws : List Tx} {s : Nat} {t : Tx} (hw : ∀ t ∈ ws, wordP t) (h : t ∈ sliceS ks ws s) : t ∈ ws ∧ ofZ ks t = (s : Int) ∧ loK ks s ≤ lenS t ∧ lenS t ≤ hiK ks s := by
  obtain ⟨h1, h2⟩ := List.mem_filter.1 h
  rw [decide_eq_true_eq] at h2
  have h3 := h2
  rw [ofZ_word (hw t h1)] at h3
  have h4 : ofN ks (keyOf t) = s := by omega
  have h5 := lens_of (ks := ks) (hw t h1)
  rw [h4] at h5
  exact ⟨h1, h2, h5⟩
def LstP (w : World) (a : Option Addr) (n c : Nat) (ts : List Tx) : Prop := HoldsT w a n ts ∧ (a = none → n = 0 ∧ c = 0) ∧ n ≤ c
theorem LstP.below {w w' : World} {a : Option Addr} {n c : Nat} {ts : List Tx} (h : LstP w a n c ts) (hb : Below w.heap.size w w') : LstP w' a n c ts := ⟨h.1.below hb, h.2⟩
theorem LstP.own {w : World} {B : Nat} {a : Option Addr} {n c : Nat} {ts : List Tx} (h : w.ownsRow B 9 1 (.slice a n c) n (strsV ts)) : LstP w a n c ts := ⟨HoldsT.own h, owns_none h⟩
theorem greatT_lit (a : Option Addr) (n cap : Nat) (ts : List Tx) (b : Bool) (w : World) (hh : HoldsT w a n ts) (hn : n ≤ 9223372036854775807) (hsz : ∀ t ∈ ts, t.size ≤ 9223372036854775807) (hb : greatB ts = b) :
    Calls Try.prog 17 #[.slice a n cap] w fun e w' => e = .returned (.bool b) ∧ Below w.heap.size w w' := by subst hb; exact great_any a n cap ts w hh hn hsz
theorem goodT_lit (a : Option Addr) (n cap : Nat) (ts : List Tx) (v : Int) (w : World) (hh : HoldsT w a n ts) (hn : n ≤ 9223372036854775807) (hsz : ∀ t ∈ ts, t.size ≤ 9223372036854775807) (hv : goodV ts = v) :
    Calls Try.prog 18 #[.slice a n cap] w fun e w' => e = .returned (.int .i64 v) ∧ Below w.heap.size w w' := by subst hv; exact good_any' a n cap ts w hh hn hsz
theorem sliceP_lst (a : Option Addr) (n cap : Nat) (ks : List KV) (a1 : Option Addr) (n1 cap1 : Nat) (ws zs : List Tx) (s k : Nat) (w : World) (hh : HoldsK w a n ks) (hh1 : HoldsT w a1 n1 ws) (hn : n ≤ 1000) (hn1 : n1 ≤ 1000) (hs : s ≤ 1000) (hsz : ∀ t ∈ ws, t.size ≤ 9223372036854775807) (hz : sliceS ks ws s = zs) (hk : zs.length = k) :
    Calls Try.prog 19 #[.slice a n cap, .slice a1 n1 cap1, .int .i64 s] w fun e w' => ∃ a' c', e = .returned (.slice a' k c') ∧ LstP w' a' k c' zs ∧ Below w.heap.size w w' := by
  subst hz hk
  exact (slice_any a n cap ks a1 n1 cap1 ws s w hh hh1 hn hn1 hs hsz).mono fun _ _ ⟨a', c', h1, h2, h3⟩ => ⟨a', c', h1, LstP.own h2, h3⟩
theorem mergeP_lst (a : Option Addr) (n c : Nat) (xs : List Tx) (a1 : Option Addr) (n1 c1 : Nat) (ys zs : List Tx) (k : Nat) (w : World) (h : LstP w a n c xs) (h1 : LstP w a1 n1 c1 ys) (hn : n ≤ 1000) (hn1 : n1 ≤ 1000) (hz : mergeL xs ys = zs) (hk : zs.length = k) :
    Calls Try.prog 23 #[.slice a n c, .slice a1 n1 c1] w fun e w' => ∃ a' c', e = .returned (.slice a' k c') ∧ LstP w' a' k c' zs ∧ Below w.heap.size w w' := by
  subst hz hk
  exact (merge_any a n c xs a1 n1 c1 ys w h.1 h.2.1 h.2.2 h1.1 h1.2.1 h1.2.2 hn hn1).mono fun _ _ ⟨a', c', h1, h2, h3⟩ => ⟨a', c', h1, LstP.own h2, h3⟩
set_option maxHeartbeats 3200000 in
theorem partWhole_any (a : Option Addr) (na ca : Nat) (ks : List KV) (b : Option Addr) (nb cb : Nat) (ws : List Tx) (w : World) (ha : HoldsK w a na ks) (biga : na ≤ 9223372036854775807) (sk : ∀ k ∈ ks, KeyOk k) (hb : LstP w b nb cb ws) (bigb : nb ≤ 9223372036854775807) (st : ∀ t ∈ ws, t.size ≤ 9223372036854775807) :
    Calls Try.prog 4 #[.slice a na ca, .slice b nb cb] w fun e w' => e = .returned (.bool true) ∧ Below w.heap.size w w' := by
  have HX := Lib.hid ha; have SK := Lib.hid sk; have HY := Lib.hid hb; have ST := Lib.hid st
  have lks := ha.len; have lws := hb.1.len
  clear ha sk hb st
  by_cases q0 : greatK ks = true
  case pos =>
    have GK := Lib.hid q0
    have B0 := Lib.hid (Below.refl w.heap.size w)
    go_enter Try.func4, Try.ntmps4
    go_wp2_with fail
    refine (great12_any a na ca ks _ _ HX.out (by omega) SK.out GK.out).mono ?_
    rintro e w1 ⟨rfl, hb1⟩
    replace HX := Lib.hid (HX.out.below hb1)
    replace HY := Lib.hid (HY.out.below hb1)
    have B1 := Lib.hid (B0.out.trans (hb1.mono B0.out.size))
    clear hb1 B0
    go_wp2_with fail
    refine (awakeP_any _).mono ?_
    rintro e w2 ⟨rfl, hb2⟩
    replace HX := Lib.hid (HX.out.below hb2)
    replace HY := Lib.hid (HY.out.below hb2)
    have B2 := Lib.hid (B1.out.trans (hb2.mono B1.out.size))
    clear hb2 B1
    go_wp2_with fail
    go_ret
    exact ⟨rfl, B2.out⟩
  have GK := Lib.hid ((Bool.not_eq_true _).mp q0)
  have NK := (greatK_no_iff.1 GK.out).1
  by_cases q1 : greatB ws = true
  case pos =>
    have GT := Lib.hid q1
    have B0 := Lib.hid (Below.refl w.heap.size w)
    go_enter Try.func4, Try.ntmps4
    go_wp2_with fail
    refine (great12_any a na ca ks _ _ HX.out (by omega) SK.out GK.out).mono ?_
    rintro e w1 ⟨rfl, hb1⟩
    replace HX := Lib.hid (HX.out.below hb1)
    replace HY := Lib.hid (HY.out.below hb1)
    have B1 := Lib.hid (B0.out.trans (hb1.mono B0.out.size))
    clear hb1 B0
    go_wp2_with fail
    refine (greatT_lit b nb cb ws _ _ HY.out.1 (by omega) ST.out GT.out).mono ?_
    rintro e w2 ⟨rfl, hb2⟩
    replace HX := Lib.hid (HX.out.below hb2)
    replace HY := Lib.hid (HY.out.below hb2)
    have B2 := Lib.hid (B1.out.trans (hb2.mono B1.out.size))
    clear hb2 B1
    go_wp2_with fail
    refine (awakeP_any _).mono ?_
    rintro e w3 ⟨rfl, hb3⟩
    replace HX := Lib.hid (HX.out.below hb3)
    replace HY := Lib.hid (HY.out.below hb3)
    have B3 := Lib.hid (B2.out.trans (hb3.mono B2.out.size))
    clear hb3 B2
    go_wp2_with fail
    go_ret
    exact ⟨rfl, B3.out⟩
  have GT := Lib.hid ((Bool.not_eq_true _).mp q1)
  have NT := (great_no_iff.1 GT.out).1
  by_cases q2 : goodK ks ≠ 0
  case pos =>
    obtain ⟨VK, hVK⟩ : ∃ v, goodK ks = v := ⟨_, rfl⟩
    have DK := Lib.hid hVK
    rw [hVK] at q2
    have z2 : (VK != 0) = true := by simpa using q2
    clear hVK
    have B0 := Lib.hid (Below.refl w.heap.size w)
    go_enter Try.func4, Try.ntmps4
    go_wp2_with fail
    refine (great12_any a na ca ks _ _ HX.out (by omega) SK.out GK.out).mono ?_
    rintro e w1 ⟨rfl, hb1⟩
    replace HX := Lib.hid (HX.out.below hb1)
    replace HY := Lib.hid (HY.out.below hb1)
    have B1 := Lib.hid (B0.out.trans (hb1.mono B0.out.size))
    clear hb1 B0
    go_wp2_with fail
    refine (greatT_lit b nb cb ws _ _ HY.out.1 (by omega) ST.out GT.out).mono ?_
    rintro e w2 ⟨rfl, hb2⟩
    replace HX := Lib.hid (HX.out.below hb2)
    replace HY := Lib.hid (HY.out.below hb2)
    have B2 := Lib.hid (B1.out.trans (hb2.mono B1.out.size))
    clear hb2 B1
    go_wp2_with fail
    refine (pgood_lit a na ca ks VK _ HX.out (by omega) SK.out DK.out).mono ?_
    rintro e w3 ⟨rfl, hb3⟩
    replace HX := Lib.hid (HX.out.below hb3)
    replace HY := Lib.hid (HY.out.below hb3)
    have B3 := Lib.hid (B2.out.trans (hb3.mono B2.out.size))
    clear hb3 B2
    go_wp2_with fail
    refine (awakeP_any _).mono ?_
    rintro e w4 ⟨rfl, hb4⟩
    replace HX := Lib.hid (HX.out.below hb4)
    replace HY := Lib.hid (HY.out.below hb4)
    have B4 := Lib.hid (B3.out.trans (hb4.mono B3.out.size))
    clear hb4 B3
    go_wp2_with fail
    go_ret
    exact ⟨rfl, B4.out⟩
  have q2' : goodK ks = 0 := Classical.byContradiction q2
  have DK := Lib.hid q2'
  have ZK := Lib.hid (goodK_zero q2')
  by_cases q3 : goodV ws ≠ 0
  case pos =>
    obtain ⟨VT, hVT⟩ : ∃ v, goodV ws = v := ⟨_, rfl⟩
    have DT := Lib.hid hVT
    rw [hVT] at q3
    have z3 : (VT != 0) = true := by simpa using q3
    clear hVT
    have B0 := Lib.hid (Below.refl w.heap.size w)
    go_enter Try.func4, Try.ntmps4
    go_wp2_with fail
    refine (great12_any a na ca ks _ _ HX.out (by omega) SK.out GK.out).mono ?_
    rintro e w1 ⟨rfl, hb1⟩
    replace HX := Lib.hid (HX.out.below hb1)
    replace HY := Lib.hid (HY.out.below hb1)
    have B1 := Lib.hid (B0.out.trans (hb1.mono B0.out.size))
    clear hb1 B0
    go_wp2_with fail
    refine (greatT_lit b nb cb ws _ _ HY.out.1 (by omega) ST.out GT.out).mono ?_
    rintro e w2 ⟨rfl, hb2⟩
    replace HX := Lib.hid (HX.out.below hb2)
    replace HY := Lib.hid (HY.out.below hb2)
    have B2 := Lib.hid (B1.out.trans (hb2.mono B1.out.size))
    clear hb2 B1
    go_wp2_with fail
    refine (pgood_lit a na ca ks 0 _ HX.out (by omega) SK.out DK.out).mono ?_
    rintro e w3 ⟨rfl, hb3⟩
    replace HX := Lib.hid (HX.out.below hb3)
    replace HY := Lib.hid (HY.out.below hb3)
    have B3 := Lib.hid (B2.out.trans (hb3.mono B2.out.size))
    clear hb3 B2
    go_wp2_with fail
    refine (goodT_lit b nb cb ws VT _ HY.out.1 (by omega) ST.out DT.out).mono ?_
    rintro e w4 ⟨rfl, hb4⟩
    replace HX := Lib.hid (HX.out.below hb4)
    replace HY := Lib.hid (HY.out.below hb4)
    have B4 := Lib.hid (B3.out.trans (hb4.mono B3.out.size))
    clear hb4 B3
    go_wp2_with fail
    refine (awakeP_any _).mono ?_
    rintro e w5 ⟨rfl, hb5⟩
    replace HX := Lib.hid (HX.out.below hb5)
    replace HY := Lib.hid (HY.out.below hb5)
    have B5 := Lib.hid (B4.out.trans (hb5.mono B4.out.size))
    clear hb5 B4
    go_wp2_with fail
    go_ret
    exact ⟨rfl, B5.out⟩
  have q3' : goodV ws = 0 := Classical.byContradiction q3
  have DT := Lib.hid q3'
  have ZT := Lib.hid (goodV_zero q3')
  have B0 := Lib.hid (Below.refl w.heap.size w)
  go_enter Try.func4, Try.ntmps4
  go_wp2_with fail
  refine (great12_any a na ca ks _ _ HX.out (by omega) SK.out GK.out).mono ?_
  rintro e w1 ⟨rfl, hb1⟩
  replace HX := Lib.hid (HX.out.below hb1)
  replace HY := Lib.hid (HY.out.below hb1)
  have B1 := Lib.hid (B0.out.trans (hb1.mono B0.out.size))
  clear hb1 B0
  go_wp2_with fail
  refine (greatT_lit b nb cb ws _ _ HY.out.1 (by omega) ST.out GT.out).mono ?_
  rintro e w2 ⟨rfl, hb2⟩
  replace HX := Lib.hid (HX.out.below hb2)
  replace HY := Lib.hid (HY.out.below hb2)
  have B2 := Lib.hid (B1.out.trans (hb2.mono B1.out.size))
  clear hb2 B1
  go_wp2_with fail
  refine (pgood_lit a na ca ks 0 _ HX.out (by omega) SK.out DK.out).mono ?_
  rintro e w3 ⟨rfl, hb3⟩
  replace HX := Lib.hid (HX.out.below hb3)
  replace HY := Lib.hid (HY.out.below hb3)
  have B3 := Lib.hid (B2.out.trans (hb3.mono B2.out.size))
  clear hb3 B2
  go_wp2_with fail
  refine (goodT_lit b nb cb ws 0 _ HY.out.1 (by omega) ST.out DT.out).mono ?_
  rintro e w4 ⟨rfl, hb4⟩
  replace HX := Lib.hid (HX.out.below hb4)
  replace HY := Lib.hid (HY.out.below hb4)
  have B4 := Lib.hid (B3.out.trans (hb4.mono B3.out.size))
  clear hb4 B3
  go_wp2_with fail
  have BW := B4
  go_loopw [5, 6, 7] (fun av nv sv wr => ∃ (s m c : Nat) (p : Option Addr), s ≤ na + 1 ∧ sv = .int .i64 s ∧ nv = .int .i64 m ∧ av = .slice p m c ∧ m ≤ 60 ∧ Hid ((belowS ks ws s).length = m) ∧ Hid (LstP wr p m c (belowS ks ws s)) ∧ Hid (Below w4.heap.size w4 wr)) (fun _ _ sv _ => na + 1 - (intOf sv).toNat)
  case atStart => exact ⟨0, 0, 0, none, by omega, rfl, rfl, rfl, by omega, Lib.hid (by rw [pwhole_zero ZT.out.2.1]; rfl), Lib.hid (by rw [pwhole_zero ZT.out.2.1]; exact ⟨HoldsT.nil _ _, fun _ => ⟨rfl, rfl⟩, by omega⟩), Lib.hid (Below.refl _ _)⟩
  case round =>
    obtain ⟨s, m, c, p, hs, rfl, rfl, rfl, hm, hL, HA, hB⟩ := hrel
    have K1 := Lib.hid (HX.out.below hB.out)
    have Y1 := Lib.hid (HY.out.below hB.out)
    by_cases hlt : s ≤ na
    · obtain ⟨X, hX⟩ : ∃ X, sliceS ks ws s = X := ⟨_, rfl⟩
      obtain ⟨k, hk⟩ : ∃ k, X.length = k := ⟨_, rfl⟩
      have hmem := fun t (ht : t ∈ X) => in_shard (ks := ks) (s := s) ZT.out.2.1 (by rw [hX]; exact ht)
      have hmg := pwhole_merge (ks := ks) ZT.out.2.2 s
      have hln := pwhole_len ks s ws
      rw [hX] at hmg hln
      rw [hL.out, hk] at hln
      have hbl : (belowS ks ws (s + 1)).length ≤ ws.length := List.length_filter_le _ _
      have z60 := ZT.out.1
      obtain ⟨lo, hlo⟩ : ∃ lo, loK ks s = lo := ⟨_, rfl⟩
      obtain ⟨hi, hhi⟩ : ∃ hi, hiK ks s = hi := ⟨_, rfl⟩
      rw [hlo, hhi] at hmem
      have HXS := Lib.hid hX; have HKS := Lib.hid hk; have HM := Lib.hid hmem; have HMG := Lib.hid hmg; have HLN := Lib.hid hln; have HLO := Lib.hid hlo; have HHI := Lib.hid hhi
      have gs : decide ((s : Int) ≤ (na : Int)) = true := by rw [decide_eq_true_iff]; omega
      have z5 := ZK.out.1
      have hmk : m + k ≤ 60 := by omega
      clear hX hk hmem hmg hln hlo hhi hbl
      have bs := hB.out.size
      go_wp2_with fail
      refine (sliceP_lst a na ca ks b nb cb ws X s k wr K1.out Y1.out.1 (by omega) (by omega) (by omega) ST.out HXS.out HKS.out).mono ?_
      rintro e w5 ⟨a5, c5, rfl, h5, hb5⟩
      have XL := Lib.hid h5; have B5 := Lib.hid (hB.out.trans (hb5.mono bs)); have A5 := Lib.hid (HA.out.below hb5); have K5 := Lib.hid (K1.out.below hb5)
      clear h5 hb5 K1 Y1 HA
      go_wp2_with fail
      refine (lens_lit a na ca ks s lo hi w5 K5.out (by omega) ZK.out.2.1 hlt HLO.out HHI.out).mono ?_
      rintro e w6 ⟨rfl, rfl⟩
      go_wp2_with fail
      go_loopw [11] (fun iv wi => ∃ i : Nat, i ≤ k ∧ iv = .int .i64 i ∧ Hid (Below w5.heap.size w5 wi)) (fun iv _ => k - (intOf iv).toNat)
      case atStart => exact ⟨0, by omega, rfl, Lib.hid (Below.refl _ _)⟩
      case round =>
        obtain ⟨i, hi2, rfl, hB2⟩ := hrel
        have XI := Lib.hid (XL.out.below hB2.out)
        have KI := Lib.hid (K5.out.below hB2.out)
        by_cases hlt2 : i < k
        · have hcell := XI.out.1.at (by omega)
          obtain ⟨bb, o, rfl, hc⟩ := hcell
          have e1 := hc i hlt2
          have hme := getD_memT X i (by rw [HKS.out]; exact hlt2)
          obtain ⟨x, hx⟩ : ∃ x, X.getD i ByteArray.empty = x := ⟨_, rfl⟩
          rw [hx] at e1 hme
          obtain ⟨f1, f2, f3, f4⟩ := HM.out x hme
          have sx := ST.out x f1
          obtain ⟨lx, hlx⟩ : ∃ l, lenS x = l := ⟨_, rfl⟩
          rw [hlx] at f3 f4
          have LX := Lib.hid hlx; have OX := Lib.hid f2
          have CX := Lib.hid (fun (w3 : World) (hb : Below wr.heap.size wr w3) => show w3.cell? ⟨bb, o + i, none⟩ = some (.string x) from (hb.cell (p := ⟨bb, o + i, none⟩) (lt_of_cell e1)).trans e1)
          have g1 : ((s : Int) != (s : Int)) = false := by simp
          have g2 : decide (lx < lo) = false := by rw [decide_eq_false_iff_not]; omega
          have g3 : decide (lx > hi) = false := by rw [decide_eq_false_iff_not]; omega
          have bs2 := hB2.out.size
          clear hx hme hc hlx f1 f2 f3 f4
          go_wp2_with fail
          refine (pof_lit a na ca ks x s wr KI.out (by omega) sx OX.out).mono ?_
          rintro e w7 ⟨rfl, hb7⟩
          have e2 := CX.out w7 hb7
          go_wp2_with fail
          refine (lenl_any x lx w7 sx LX.out).mono ?_
          rintro e w8 ⟨rfl, hb8⟩
          have hb78 := hb7.trans (hb8.mono hb7.size)
          have e3 := CX.out w8 hb78
          go_wp2_with fail
          refine (lenl_any x lx w8 sx LX.out).mono ?_
          rintro e w9 ⟨rfl, hb9⟩
          have hb79 := hb78.trans (hb9.mono hb78.size)
          go_wp2_with fail
          go_roundw
          case rel => exact ⟨i + 1, by omega, by go_num, Lib.hid (hB2.out.trans (hb79.mono bs2))⟩
          case measure => simp [intOf]; omega
        · have A6 := Lib.hid (A5.out.below hB2.out)
          have B6 := Lib.hid (B5.out.trans (hB2.out.mono B5.out.size))
          have bs6 := B6.out.size
          have hw1 : IntKind.i64.wrap ((m : Int) + (k : Int)) = ((m + k : Nat) : Int) := by rw [IntWalk.i64_in _ (by omega)]; omega
          go_wp2_with fail
          refine (mergeP_lst p m c (belowS ks ws s) a5 k c5 X (belowS ks ws (s + 1)) (m + k) wr A6.out XI.out (by omega) (by omega) HMG.out HLN.out).mono ?_
          rintro e w10 ⟨a10, c10, rfl, h10, hb10⟩
          have HA2 := Lib.hid h10; have B10 := Lib.hid (B6.out.trans (hb10.mono bs6))
          clear h10 hb10
          go_wp2_with fail
          go_roundw
          case rel => exact ⟨s + 1, m + k, c10, a10, by omega, by go_num, by go_num, rfl, hmk, HLN, HA2, B10⟩
          case measure => simp [intOf]; omega
    · obtain rfl : s = na + 1 := by omega
      have gs : decide (((na + 1 : Nat) : Int) ≤ (na : Int)) = false := by rw [decide_eq_false_iff_not]; omega
      have hall : belowS ks ws (na + 1) = ws := by rw [← lks]; exact pwhole_all ZT.out.2.1
      have hno : sliceS ks ws (na + 1) = [] := by rw [← lks]; exact pwhole_none ZT.out.2.1
      have hL2 := hL.out
      have HA2 := HA.out
      rw [hall] at hL2 HA2
      obtain rfl : m = nb := by omega
      have HA3 := Lib.hid HA2; have HNO := Lib.hid hno
      have B5 := Lib.hid (BW.out.trans (hB.out.mono BW.out.size))
      have z5 := ZK.out.1
      have g1 : ((m : Int) == (m : Int)) = true := by simp
      have hw1 : IntKind.i64.wrap ((na : Int) + 1) = ((na + 1 : Nat) : Int) := by rw [IntWalk.i64_in _ (by omega)]; omega
      clear hall hno hL2 HA2 HA hL
      go_wp2_with fail
      refine (sameTexts_yes p b m c cb ws wr HA3.out.1 Y1.out.1 (by omega)).mono ?_
      rintro e w6 ⟨rfl, hb6⟩
      have B6 := Lib.hid (B5.out.trans (hb6.mono B5.out.size)); have K6 := Lib.hid (K1.out.below hb6); have Y6 := Lib.hid (Y1.out.below hb6)
      clear hb6
      go_wp2_with fail
      refine (sliceP_lst a na ca ks b m cb ws [] (na + 1) 0 w6 K6.out Y6.out.1 (by omega) (by omega) (by omega) ST.out HNO.out rfl).mono ?_
      rintro e w7 ⟨a7, c7, rfl, h7, hb7⟩
      have B7 := Lib.hid (B6.out.trans (hb7.mono B6.out.size))
      go_wp2_with fail
      refine (awakeP_any _).mono ?_
      rintro e w8 ⟨rfl, hb8⟩
      go_wp2_with fail
      go_ret
      exact ⟨rfl, B7.out.trans (hb8.mono B7.out.size)⟩
open Go.ChangeShapes Go.WideShapes Go.ChangeAt in
theorem partWhole_walk {H : Type} {enc : TypeId × Value → H} (W : World) (base : Nat) (v0 v1 : Value) (d0 d1 : DataW H) (p0 p1 : List MemPlace)
    (h0 : DataW.Trod enc Try.prog W 0 (fun _ => true) true 22 v0 d0 p0) (h1 : DataW.Trod enc Try.prog W 0 (fun _ => true) true 35 v1 d1 p1)
    (o0 : Value.okWide Try.prog W .any base 22 v0) (o1 : Value.okWide Try.prog W .any base 35 v1) :
    Calls Try.prog 4 #[v0, v1] W fun e w' => e = .returned (.bool true) ∧ RowKit.Below W.heap.size W w' := by
  obtain ⟨a0, n0, c0, k0, rfl, x0, y0, z0, b0, s0⟩ := open_pairs_arg Try.underlying22 Try.underlying24 (by kernel_rfl) rfl rfl ⟨rfl, rfl⟩ ⟨rfl, rfl⟩ o0 h0
  obtain ⟨a1, n1, c1, t1, rfl, x1, y1, z1, b1, s1⟩ := open_texts_arg o1 h1
  exact partWhole_any a0 n0 c0 k0 a1 n1 c1 t1 W x0 b0 s0 ⟨x1, y1, z1⟩ b1 s1
end Go.Proofs.Ytnbfdoneknidhaa
