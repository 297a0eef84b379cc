/- slots: whatever is submitted and freed, each call answers as the document's slots do -/
import Derived.Test.YtfmeppfhckahnaaSl6
import Derived.Deep.CutRange
import Derived.Deep.QuietTactic
import Derived.BigQuiet
namespace Go.Proofs.Ytfmeppfhckahnaa
open Go.RowKit
set_option linter.unusedVariables false
theorem num_any (n : Int) (w : World) :
    Calls Try.prog 11 #[.int .i64 n] w fun e w' => e = .returned (.int .i64 n) ∧ w = w' := by
  go_enter Try.func11, Try.ntmps11
  go_wp2
  go_ret
  exact ⟨rfl, rfl⟩
/-- slots and the document's, which say the same -/
structure SBoth (w : World) (b bo ba c cl : Nat) (s : Sl) (w' : World) : Prop where
  g : SlGood s
  ts : SlAt w' b bo ba s
  tr : RlAt w' c cl s
  bel : Below w.heap.size w w'
  hb : ∀ k, slF b bo ba k → w.heap.size ≤ k
  hc : ∀ k, rlF c cl k → w.heap.size ≤ k
  ne : ∀ k, slF b bo ba k → ¬ rlF c cl k
theorem SBoth.more {w w' w2 : World} {b bo ba c cl : Nat} {s : Sl} (h : SBoth w b bo ba c cl s w') (hb : Below w'.heap.size w' w2) : SBoth w b bo ba c cl s w2 :=
  ⟨h.g, h.ts.below hb, h.tr.below hb, h.bel.trans (hb.mono h.bel.size), h.hb, h.hc, h.ne⟩
def SThen (b bo ba : Nat) (w : World) (s' : Sl) (w' : World) : Prop := SlAt w' b bo ba s' ∧ Turn (slF b bo ba) w w'
def RThen (c cl : Nat) (w : World) (s' : Sl) (w' : World) : Prop := RlAt w' c cl s' ∧ Turn (rlF c cl) w w'
theorem SBoth.bc {w w' w1 w2 : World} {b bo ba c cl : Nat} {s s' : Sl} (h : SBoth w b bo ba c cl s w') (h1 : SThen b bo ba w' s' w1) (h2 : RThen c cl w1 s' w2) (hg : SlGood s') : SBoth w b bo ba c cl s' w2 := by
  have h3 := h.bel.trans (h1.2.below h.hb h.bel.size)
  exact ⟨hg, h1.1.turn h2.2 h.ne, h2.1, h3.trans (h2.2.below h.hc h3.size), h.hb, h.hc, h.ne⟩
theorem SBoth.cb {w w' w1 w2 : World} {b bo ba c cl : Nat} {s s' : Sl} (h : SBoth w b bo ba c cl s w') (h1 : RThen c cl w' s' w1) (h2 : SThen b bo ba w1 s' w2) (hg : SlGood s') : SBoth w b bo ba c cl s' w2 := by
  have h3 := h.bel.trans (h1.2.below h.hc h.bel.size)
  exact ⟨hg, h2.1, h1.1.turn h2.2 (fun k h4 h5 => h.ne k h5 h4), h3.trans (h2.2.below h.hb h3.size), h.hb, h.hc, h.ne⟩
theorem slat_rthen {b bo ba c cl : Nat} {s s' : Sl} {w w' : World} (h : SlAt w b bo ba s) (hT : RThen c cl w s' w') (hne : ∀ k, slF b bo ba k → ¬ rlF c cl k) : SlAt w' b bo ba s := h.turn hT.2 hne
theorem rlat_sthen {b bo ba c cl : Nat} {s s' : Sl} {w w' : World} (h : RlAt w c cl s) (hT : SThen b bo ba w s' w') (hne : ∀ k, slF b bo ba k → ¬ rlF c cl k) : RlAt w' c cl s := h.turn hT.2 (fun k h4 h5 => hne k h5 h4)
theorem id_sthen {b bo ba q : Nat} {s' : Sl} {w w' : World} {v : Value} (h : w.cell? ⟨q, 1, none⟩ = some v) (hT : SThen b bo ba w s' w') (hq : ¬ slF b bo ba q) : w'.cell? ⟨q, 1, none⟩ = some v := by rw [hT.2.cell (lt_of_cell h) hq]; exact h
theorem id_rthen {c cl q : Nat} {s' : Sl} {w w' : World} {v : Value} (h : w.cell? ⟨q, 1, none⟩ = some v) (hT : RThen c cl w s' w') (hq : ¬ rlF c cl q) : w'.cell? ⟨q, 1, none⟩ = some v := by rw [hT.2.cell (lt_of_cell h) hq]; exact h
theorem free_lit {s s' : Sl} {y : Bool} (b bo ba : Nat) (z : Int) (x : Option Nat) (w : World) (h : SlAt w b bo ba s) (hg : SlGood s) (hz : (Lit.int .i64 z).wf = true) (hx : SlotOf s z x) (h1 : x.isSome = y) (h2 : freeS s x = s') :
    Calls Try.prog 12 #[.pointer (some ⟨b, 0, none⟩), .int .i64 z] w fun e w' => e = .returned (.bool y) ∧ SThen b bo ba w s' w' := by
  subst h1 h2; exact free_any b bo ba z x w h hg hz hx
theorem rFree_lit {s s' : Sl} {y : Bool} (b bl : Nat) (z : Int) (x : Option Nat) (w : World) (h : RlAt w b bl s) (hg : SlGood s) (hx : SlotOf s z x) (h1 : x.isSome = y) (h2 : freeS s x = s') :
    Calls Try.prog 13 #[.pointer (some ⟨b, 0, none⟩), .int .i64 z] w fun e w' => e = .returned (.bool y) ∧ RThen b bl w s' w' := by
  subst h1 h2; exact rFree_any b bl z x w h hg hx
theorem rSubmit_lit {s s' : Sl} {v m i : Int} (b bl j : Nat) (ok : Bool) (t : ByteArray) (k n : Int) (w : World) (h : RlAt w b bl s) (hg : SlGood s) (hj : FirstFree s j) (hlast : s.last < 4611686018427387904) (ht : t.size ≤ 1048576)
    (hok : decide (mayP t k n) = ok) (h1 : subV ok s j = v) (h2 : subN ok s j = m) (h3 : subI ok s j = i) (h4 : subS ok s j = s') :
    Calls Try.prog 15 #[.pointer (some ⟨b, 0, none⟩), .agg #[.string t, .int .i64 k, .int .i64 n]] w fun e w' => e = .returned (.tuple #[.int .i64 v, .int .i64 m, .int .i64 i]) ∧ RThen b bl w s' w' := by
  subst hok h1 h2 h3 h4; exact rSubmit_any b bl j t k n w h hg hj hlast ht
theorem of_lit {s : Sl} {u : Int} {y : Bool} (b bo ba : Nat) (z : Int) (x : Option Nat) (w : World) (h : SlAt w b bo ba s) (hz : (Lit.int .i64 z).wf = true) (hx : SlotOf s z x) (h1 : (oint x).getD 0 = u) (h2 : x.isSome = y) :
    Calls Try.prog 16 #[.pointer (some ⟨b, 0, none⟩), .int .i64 z] w fun e w' => e = .returned (.tuple #[.int .i64 u, .bool y]) ∧ w = w' := by
  subst h1 h2; exact of_any b bo ba z x w h hz hx
theorem rOf_lit {s : Sl} {u : Int} {y : Bool} (b bl : Nat) (z : Int) (x : Option Nat) (w : World) (h : RlAt w b bl s) (hg : SlGood s) (hx : SlotOf s z x) (h1 : (oint x).getD 0 = u) (h2 : x.isSome = y) :
    Calls Try.prog 17 #[.pointer (some ⟨b, 0, none⟩), .int .i64 z] w fun e w' => e = .returned (.tuple #[.int .i64 u, .bool y]) ∧ w = w' := by
  subst h1 h2; exact rOf_any b bl z x w h hg hx
theorem at_lit {s : Sl} {u : Int} {y : Bool} (b bo ba : Nat) (z : Int) (w : World) (h : SlAt w b bo ba s) (hz : (Lit.int .i64 z).wf = true) (h1 : (atS s z).getD 0 = u) (h2 : (atS s z).isSome = y) :
    Calls Try.prog 18 #[.pointer (some ⟨b, 0, none⟩), .int .i64 z] w fun e w' => e = .returned (.tuple #[.int .i64 u, .bool y]) ∧ w = w' := by
  subst h1 h2; exact at_any b bo ba z w h hz
theorem count_lit {s : Sl} {u : Int} (b bo ba : Nat) (w : World) (h : SlAt w b bo ba s) (h1 : (taken s : Int) = u) :
    Calls Try.prog 19 #[.pointer (some ⟨b, 0, none⟩)] w fun e w' => e = .returned (.int .i64 u) ∧ w = w' := by
  subst h1; exact count_any b bo ba w h
theorem rCount_lit {s : Sl} {u : Int} (b bl : Nat) (w : World) (h : RlAt w b bl s) (hg : SlGood s) (h1 : (taken s : Int) = u) :
    Calls Try.prog 20 #[.pointer (some ⟨b, 0, none⟩)] w fun e w' => e = .returned (.int .i64 u) ∧ w = w' := by
  subst h1; exact rCount_any b bl w h hg
theorem last_lit {s : Sl} {u : Int} (b bo ba : Nat) (w : World) (h : SlAt w b bo ba s) (h1 : s.last = u) :
    Calls Try.prog 21 #[.pointer (some ⟨b, 0, none⟩)] w fun e w' => e = .returned (.int .i64 u) ∧ w = w' := by
  subst h1; exact last_any b bo ba w h
theorem atS_want {s : Sl} (h : SlGood s) (z : Int) : (atS s z).getD 0 = (if 0 ≤ z ∧ z < s.n then s.L z.toNat else 0) ∧ (atS s z).isSome = decide (0 < (if 0 ≤ z ∧ z < s.n then s.L z.toNat else 0)) := by
  have b := h.bd z.toNat
  unfold atS
  by_cases h0 : 0 ≤ z
  · by_cases hn : z < s.n
    · by_cases hp : 0 < s.L z.toNat
      · simp [h0, hn, hp]
      · have e : s.L z.toNat = 0 := by omega
        simp [h0, hn, e]
    · have e := h.far z.toNat (by omega)
      simp [h0, hn, e]
  · simp [h0]
theorem subS_last {s : Sl} (ok : Bool) (j : Nat) : (subS ok s j).last ≤ s.last + 1 := by
  unfold subS; split
  · exact Int.le_refl _
  · omega
theorem freeS_last {s : Sl} (x : Option Nat) : (freeS s x).last = s.last := by cases x <;> rfl
set_option maxRecDepth 100000 in
set_option maxHeartbeats 6400000 in
theorem slotsScript_any (N : Int) (xs : Nat → SAct) (a : Option Addr) (m ca : Nat) (w : World) (hh : HoldsSA w a m xs) (hm : m ≤ 9223372036854775807) (hx : ∀ i, i < m → SActOk (xs i)) :
    Calls Try.prog 3 #[.int .i64 N, .slice a m ca] w fun e w' => e = .returned (.bool true) ∧ Below w.heap.size w w' := by
  obtain ⟨g, hg⟩ : ∃ g : Bool, g = true ↔ greatSA xs m := ⟨@decide (greatSA xs m) (Classical.propDecidable _), by simp⟩
  have HG := Lib.hid (great_any a m ca xs w hh hm hx g hg)
  have HH := Lib.hid hh; have HX := Lib.hid hx
  clear hh hx
  cases g
  case true =>
    clear hg
    go_enter Try.func3, Try.ntmps3
    go_wp2_with fail
    refine HG.out.mono ?_
    rintro e w' ⟨rfl, rfl⟩
    go_wp2_with fail
    refine (awake_any _).mono ?_
    rintro e w' ⟨rfl, hb⟩
    go_wp2_with fail
    go_ret
    exact ⟨rfl, hb⟩
  have hno : ¬ greatSA xs m := fun h => by simpa using hg.2 h
  have hm100 : m ≤ 100 := by
    rcases Nat.lt_or_ge 100 m with h | h
    · exact absurd (Or.inl h) hno
    · exact h
  have hsz := Lib.hid (show ∀ i, i < m → (xs i).t.size ≤ 100 from fun i hi => by
    rcases Nat.lt_or_ge 100 (xs i).t.size with h | h
    · exact absurd (Or.inr ⟨i, hi, h⟩) hno
    · exact h)
  clear hg hno
  by_cases hN : 1 ≤ N ∧ N ≤ 4
  case neg =>
    have HN := Lib.hid hN
    clear hN
    go_enter Try.func3, Try.ntmps3
    go_wp2_with fail
    refine HG.out.mono ?_
    rintro e w' ⟨rfl, rfl⟩
    go_wp2_with fail
    refine (slNew_bad N _ HN.out).mono ?_
    rintro e w' ⟨rfl, rfl⟩
    go_wp2_with fail
    refine (rNew_bad N _ HN.out).mono ?_
    rintro e w' ⟨rfl, rfl⟩
    go_wp2_with fail
    refine (num_any 2 _).mono ?_
    rintro e w' ⟨rfl, rfl⟩
    go_wp2_with fail
    refine (awake_any _).mono ?_
    rintro e w' ⟨rfl, hb⟩
    go_wp2_with fail
    go_ret
    exact ⟨rfl, hb⟩
  obtain ⟨n, rfl⟩ : ∃ n : Nat, N = n := ⟨N.toNat, by omega⟩
  have hn1 : 1 ≤ n := by omega
  have hn4 : n ≤ 4 := by omega
  clear hN
  go_enter Try.func3, Try.ntmps3
  go_wp2_with fail
  refine HG.out.mono ?_
  rintro e w' ⟨rfl, rfl⟩
  go_wp2_with fail
  refine (slNew_good n _ ⟨hn1, hn4⟩).mono ?_
  rintro e w1 ⟨b, bo, ba, rfl, t1, k1, u1⟩
  have T1 := Lib.hid t1; have K1 := Lib.hid k1; have U1 := Lib.hid u1
  clear t1 k1 u1
  go_wp2_with fail
  refine (rNew_good n _ hn1 hn4).mono ?_
  rintro e w2 ⟨c, cl, rfl, t2, k2, u2⟩
  have W2 : Hid (SBoth w b bo ba c cl (newSl n) w2) := Lib.hid ⟨newSl_good hn1 hn4, T1.out.below u2, t2, U1.out.trans (u2.mono U1.out.size), K1.out, fun k hk => Nat.le_trans U1.out.size (k2 k hk), fun k hk hk2 => by
    have := k2 k hk2; have hl := T1.out.lt
    rcases hk with rfl | rfl | rfl <;> omega⟩
  clear t2 k2 u2 T1 K1 U1 HG
  go_wp2_with fail
  refine (num_any 0 _).mono ?_
  rintro e w' ⟨rfl, rfl⟩
  go_wp2_with fail
  go_loopw [9] (fun i wr => ∃ (j : Nat) (s : Sl), j ≤ m ∧ i = .int .i64 j ∧ s.last ≤ j ∧ s.n = n ∧ Hid (SBoth w b bo ba c cl s wr)) (fun i _ => m - (intOf i).toNat)
  case atStart => exact ⟨0, _, by omega, rfl, Int.le_refl _, rfl, W2⟩
  case round =>
    obtain ⟨j, s, hj, rfl, hlast, hsn, hT⟩ := hrel
    by_cases hlt : j < m
    · obtain ⟨ab, ao, rfl, hcell⟩ := (HH.out.below (w' := wr) hT.out.bel) (by omega)
      obtain ⟨c0, c1, c2, c3, c4⟩ := hcell j hlt
      have hok := HX.out j hlt
      have htz := hsz.out j hlt
      clear hcell
      obtain ⟨x, hx⟩ : ∃ x, xs j = x := ⟨_, rfl⟩
      rw [hx] at c0 c1 c2 c3 c4 hok htz
      clear hx
      obtain ⟨xf, id, t, k, nn⟩ := x
      obtain ⟨hid, hts⟩ := hok
      have V0 := Lib.hid (hT.out.more (below_one wr (.cells #[.bool xf, .int .i64 id, .string t, .int .i64 k, .int .i64 nn] 36)))
      have X0 := Lib.hid (show (wr.alloc (.cells #[.bool xf, .int .i64 id, .string t, .int .i64 k, .int .i64 nn] 36)).cell? ⟨wr.heap.size, 1, none⟩ = some (.int .i64 id) by rw [cell_alloc rfl]; rfl)
      have Q0 := Lib.hid (show QAt (wr.alloc (.cells #[.bool xf, .int .i64 id, .string t, .int .i64 k, .int .i64 nn] 36)) wr.heap.size 2 t k nn from ⟨by rw [cell_alloc rfl]; rfl, by rw [cell_alloc rfl]; rfl, by rw [cell_alloc rfl]; rfl⟩)
      have hnb := Lib.hid (show ¬ slF b bo ba wr.heap.size by have := hT.out.ts.lt; unfold slF; omega)
      have hnc := Lib.hid (show ¬ rlF c cl wr.heap.size by have := hT.out.tr.lt; unfold rlF; omega)
      go_upto_if 63 with fail
      generalize wr.alloc (.cells #[.bool xf, .int .i64 id, .string t, .int .i64 k, .int .i64 nn] 36) = wx at *
      generalize wr.heap.size = cx at *
      clear c0 c1 c2 c3 c4 hT
      go_cut [11, 12, 13, 14, 15, 16, 17] from 52 to 182 (fun y _ _ _ _ _ _ wc => ∃ s', y = .bool true ∧ s'.last ≤ (j : Int) + 1 ∧ s'.n = n ∧ Hid (SBoth w b bo ba c cl s' wc) ∧ Hid (wc.cell? ⟨cx, 1, none⟩ = some (.int .i64 id)))
      case first =>
        cases xf
        · obtain ⟨jj, hjj⟩ := firstFree_ex s
          obtain ⟨ok, hok⟩ : ∃ ok, decide (mayP t k nn) = ok := ⟨_, rfl⟩
          obtain ⟨v', hv⟩ : ∃ e', subV ok s jj = e' := ⟨_, rfl⟩
          obtain ⟨m', hm'⟩ : ∃ e', subN ok s jj = e' := ⟨_, rfl⟩
          obtain ⟨i', hi'⟩ : ∃ e', subI ok s jj = e' := ⟨_, rfl⟩
          obtain ⟨s', hs⟩ : ∃ s', subS ok s jj = s' := ⟨_, rfl⟩
          have G2 := Lib.hid (hs ▸ subS_good V0.out.g ok jj)
          have L2 := Lib.hid (show s'.last ≤ (j : Int) + 1 from hs ▸ (by have := subS_last (s := s) ok jj; omega))
          have N2 := Lib.hid (show s'.n = n from hs ▸ (by unfold subS; split <;> exact hsn))
          have JJ := Lib.hid hjj; have OK := Lib.hid hok; have HV := Lib.hid hv; have HM := Lib.hid hm'; have HI := Lib.hid hi'; have S := Lib.hid hs
          have lst : s.last < 4611686018427387904 := by omega
          clear hok hv hm' hi' hs hjj hsn
          have x1 : (v' == v') = true := by simp
          have x2 : (m' == m') = true := by simp
          have x3 : (i' == i') = true := by simp
          obtain ⟨y1, y2, y3⟩ := Q0.out
          go_wp2_with fail
          refine (submit_lit b bo ba jj ok t k nn _ V0.out.ts V0.out.g JJ.out lst hts OK.out HV.out HM.out HI.out S.out).mono ?_
          rintro r w3 ⟨rfl, hT1⟩
          clear y1 y2 y3
          obtain ⟨y1, y2, y3⟩ := Q0.out.turn hT1.2 hnb.out
          have X2 := Lib.hid (id_sthen X0.out hT1 hnb.out)
          have R2 := Lib.hid (rlat_sthen V0.out.tr hT1 V0.out.ne)
          have HT1 := Lib.hid hT1
          clear hT1
          go_wp2_with fail
          refine (rSubmit_lit c cl jj ok t k nn _ R2.out V0.out.g JJ.out lst (by omega) OK.out HV.out HM.out HI.out S.out).mono ?_
          rintro r w4 ⟨rfl, hT2⟩
          have V2 := Lib.hid (V0.out.bc HT1.out hT2 G2.out)
          have X3 := Lib.hid (id_rthen X2.out hT2 hnc.out)
          clear hT2 y1 y2 y3
          go_wp2_with fail
          go_meet
          case rel => exact ⟨s', rfl, L2.out, N2.out, V2, X3⟩
        · obtain ⟨x, hx⟩ := slotOf_ex s id
          obtain ⟨z, hz⟩ : ∃ z, x.isSome = z := ⟨_, rfl⟩
          obtain ⟨s', hs⟩ : ∃ s', freeS s x = s' := ⟨_, rfl⟩
          have G2 := Lib.hid (hs ▸ freeS_good V0.out.g x)
          have L2 := Lib.hid (show s'.last ≤ (j : Int) + 1 from hs ▸ (by have := freeS_last (s := s) x; omega))
          have N2 := Lib.hid (show s'.n = n from hs ▸ (by cases x <;> exact hsn))
          have XX := Lib.hid hx; have Z := Lib.hid hz; have S := Lib.hid hs
          clear hz hs hx hsn
          have x1 : (z == z) = true := by simp
          have VD := Lib.hid (V0.out.more (Below.refl _ _).drew)
          have NE := Lib.hid V0.out.ne
          have xd : wx.drew.cell? ⟨cx, 1, none⟩ = some (.int .i64 id) := X0.out
          have XD := Lib.hid xd
          clear xd
          go_upto_region 15 with fail
          go_region_held3 (fun w' => w'.cell? ⟨cx, 1, none⟩ = some (.int .i64 id))
            (first | assumption | exact XD.out | exact id_sthen (by assumption) (by assumption) hnb.out | exact id_rthen (by assumption) (by assumption) hnc.out)
            (first | (go_at_call 12; refine (free_lit b bo ba id x _ VD.out.ts VD.out.g hid XX.out Z.out S.out).mono ?_; rintro e w' ⟨rfl, hT⟩) | (go_at_call 12; refine (free_lit b bo ba id x _ (slat_rthen VD.out.ts (by assumption) NE.out) VD.out.g hid XX.out Z.out S.out).mono ?_; rintro e w' ⟨rfl, hT⟩) | (go_at_call 13; refine (rFree_lit c cl id x _ VD.out.tr VD.out.g XX.out Z.out S.out).mono ?_; rintro e w' ⟨rfl, hT⟩) | (go_at_call 13; refine (rFree_lit c cl id x _ (rlat_sthen VD.out.tr (by assumption) NE.out) VD.out.g XX.out Z.out S.out).mono ?_; rintro e w' ⟨rfl, hT⟩))
          all_goals (go_wp2_with fail; go_meet)
          all_goals exact ⟨s', rfl, L2.out, N2.out, (by first | exact Lib.hid (VD.out.bc (by assumption) (by assumption) G2.out) | exact Lib.hid (VD.out.cb (by assumption) (by assumption) G2.out)), Lib.hid (by assumption)⟩
      case rest =>
        obtain ⟨s', rfl, hL1, hN1, V1, X1⟩ := hcut
        clear V0 X0 Q0
        obtain ⟨x, hx⟩ := slotOf_ex s' id
        obtain ⟨u, hu⟩ : ∃ u, (oint x).getD 0 = u := ⟨_, rfl⟩
        obtain ⟨y, hy⟩ : ∃ y, x.isSome = y := ⟨_, rfl⟩
        obtain ⟨a1, ha1⟩ : ∃ u, (atS s' id).getD 0 = u := ⟨_, rfl⟩
        obtain ⟨a2, ha2⟩ : ∃ y, (atS s' id).isSome = y := ⟨_, rfl⟩
        have XX := Lib.hid hx; have U := Lib.hid hu; have Y := Lib.hid hy; have A1 := Lib.hid ha1; have A2 := Lib.hid ha2
        have WW := Lib.hid (atS_want V1.out.g id)
        clear hx hu hy ha1 ha2
        have xc := X1.out
        go_wp2_with fail
        refine (of_lit b bo ba id x _ V1.out.ts hid XX.out U.out Y.out).mono ?_
        rintro r w3 ⟨rfl, rfl⟩
        go_wp2_with fail
        refine (rOf_lit c cl id x _ V1.out.tr V1.out.g XX.out U.out Y.out).mono ?_
        rintro r w3 ⟨rfl, rfl⟩
        go_wp2_with fail
        refine (at_lit b bo ba id _ V1.out.ts hid A1.out A2.out).mono ?_
        rintro r w3 ⟨rfl, rfl⟩
        clear xc
        go_upto_region 23 with fail
        go_cut [135] from 52 to 182 (fun v wc => v = .bool (decide (0 ≤ id ∧ id < n)) ∧ Hid (SBoth w b bo ba c cl s' wc) ∧ Hid (wc.cell? ⟨cx, 1, none⟩ = some (.int .i64 id)))
        case first =>
          have xc := X1.out
          have cc := V1.out.tr.c0
          rw [hN1] at cc
          have h1 : id < 0 ∨ (0 ≤ id ∧ id < n) ∨ (0 ≤ id ∧ (n : Int) ≤ id) := by omega
          rcases h1 with h1 | ⟨h1, h2⟩ | ⟨h1, h2⟩
          · have HK := Lib.hid (decide_eq_false (show ¬ (0 ≤ id ∧ id < (n : Int)) by omega))
            have d1 : decide (id ≥ 0) = false := by simpa using h1
            go_quiet (fail)
            go_wp2_with fail
            go_meet
            exact ⟨by rw [HK.out], Lib.hid (V1.out.more (below_drewN _ _)), Lib.hid xc⟩
          · have HK := Lib.hid (decide_eq_true (show (0 ≤ id ∧ id < (n : Int)) by omega))
            have d1 : decide (id ≥ 0) = true := by simpa using h1
            have d2 : decide (id < n) = true := by simpa using h2
            go_quiet (fail)
            go_wp2_with fail
            go_meet
            exact ⟨by rw [HK.out], Lib.hid (V1.out.more (below_drewN _ _)), Lib.hid xc⟩
          · have HK := Lib.hid (decide_eq_false (show ¬ (0 ≤ id ∧ id < (n : Int)) by omega))
            have d1 : decide (id ≥ 0) = true := by simpa using h1
            have d2 : decide (id < n) = false := by simpa using h2
            go_quiet (fail)
            go_wp2_with fail
            go_meet
            exact ⟨by rw [HK.out], Lib.hid (V1.out.more (below_drewN _ _)), Lib.hid xc⟩
        case rest =>
          obtain ⟨rfl, V2, X2⟩ := hcut
          clear V1 X1
          go_upto_if 135 with fail
          go_cut [24] from 52 to 182 (fun v wc => v = .int .i64 a1 ∧ Hid (SBoth w b bo ba c cl s' wc) ∧ Hid (wc.cell? ⟨cx, 1, none⟩ = some (.int .i64 id)))
          case first =>
            by_cases hk : 0 ≤ id ∧ id < (n : Int)
            · obtain ⟨i, rfl⟩ : ∃ i : Nat, id = i := ⟨id.toNat, by omega⟩
              have hin : i < n := by omega
              have e1 : a1 = s'.L i := by
                rw [← A1.out, WW.out.1, hN1, if_pos hk]; rfl
              have cc := V2.out.tr.c0
              have ci := V2.out.tr.cl i (by omega)
              rw [← e1] at ci
              rw [hN1] at cc
              have xc := X2.out
              rw [decide_eq_true hk]
              clear hk e1
              have q1 : (0 : Int) ≤ (i : Int) := by omega
              have q2 : (i : Int) < (n : Int) := by omega
              go_upto_region 24 with fail
              go_quiet (fail)
              go_wp2_with fail
              go_meet
              exact ⟨rfl, Lib.hid (V2.out.more (below_drewN _ _)), Lib.hid xc⟩
            · have e1 : a1 = 0 := by
                rw [← A1.out, WW.out.1, hN1, if_neg hk]
              rw [decide_eq_false hk]
              clear hk
              subst e1
              go_wp2_with fail
              go_meet
              exact ⟨rfl, V2, X2⟩
          case rest =>
            obtain ⟨rfl, V3, X3⟩ := hcut
            clear V2 X2
            have e2 : a2 = decide (0 < a1) := by
              rw [← A2.out, WW.out.2, ← WW.out.1, A1.out]
            have x1 : (u != u) = false := by simp
            have x2 : (y != y) = false := by simp
            have x3 : (a1 != a1) = false := by simp
            obtain ⟨tk, htk⟩ : ∃ tk, (taken s' : Int) = tk := ⟨_, rfl⟩
            have TK := Lib.hid htk
            clear htk
            have x5 : (tk != tk) = false := by simp
            obtain ⟨ls, hls⟩ : ∃ ls, s'.last = ls := ⟨_, rfl⟩
            have cl1 := V3.out.tr.c1
            rw [hls] at cl1
            have LS := Lib.hid hls
            clear hls
            have x6 : (ls != ls) = false := by simp
            clear WW A1 X3
            have hC1 := Lib.hid (fun nn => (count_lit b bo ba _ (V3.out.ts.below (below_drewN wc nn)) TK.out).mono (fun _ _ h => (⟨h.1, h.2.symm⟩ : _ ∧ _)))
            have hC2 := Lib.hid (fun nn => (rCount_lit c cl _ (V3.out.tr.below (below_drewN wc nn)) V3.out.g TK.out).mono (fun _ _ h => (⟨h.1, h.2.symm⟩ : _ ∧ _)))
            have hC3 := Lib.hid (fun nn => (last_lit b bo ba _ (V3.out.ts.below (below_drewN wc nn)) LS.out).mono (fun _ _ h => (⟨h.1, h.2.symm⟩ : _ ∧ _)))
            by_cases hp : 0 < a1
            · rw [decide_eq_true hp] at e2
              subst e2
              have x4 : decide (a1 > 0) = true := decide_eq_true hp
              clear hp
              go_upto_region 25 with fail
              go_quiet ((first
                | (go_at_call 19; exact Calls.quiet_of_same (hC1.out _))
                | (go_at_call 20; exact Calls.quiet_of_same (hC2.out _))
                | (go_at_call 21; exact Calls.quiet_of_same (hC3.out _))))
              go_wp2_with fail
              go_roundw
              case rel => exact ⟨j + 1, s', by omega, by go_num, by omega, hN1, Lib.hid (V3.out.more (below_drewN _ _))⟩
              case measure => simp [intOf]; omega
            · rw [decide_eq_false hp] at e2
              subst e2
              have x4 : decide (a1 > 0) = false := decide_eq_false hp
              clear hp
              go_upto_region 25 with fail
              go_quiet ((first
                | (go_at_call 19; exact Calls.quiet_of_same (hC1.out _))
                | (go_at_call 20; exact Calls.quiet_of_same (hC2.out _))
                | (go_at_call 21; exact Calls.quiet_of_same (hC3.out _))))
              go_wp2_with fail
              go_roundw
              case rel => exact ⟨j + 1, s', by omega, by go_num, by omega, hN1, Lib.hid (V3.out.more (below_drewN _ _))⟩
              case measure => simp [intOf]; omega
    · go_wp2_with fail
      refine (awake_any _).mono ?_
      rintro e w' ⟨rfl, hb⟩
      go_wp2_with fail
      go_ret
      exact ⟨rfl, hT.out.bel.trans (hb.mono hT.out.bel.size)⟩
open Go.ChangeShapes Go.WideShapes Go.ChangeAt in
theorem slotsScript_walk {H : Type} {enc : TypeId × Value → H} (W : World) (base : Nat) (v0 v1 : Value) (d0 d1 : DataW H) (p0 p1 : List MemPlace)
    (h0 : DataW.Trod enc Try.prog W 0 (fun _ => true) true 3 v0 d0 p0) (h1 : DataW.Trod enc Try.prog W 0 (fun _ => true) true 22 v1 d1 p1)
    (o0 : Value.okWide Try.prog W .any base 3 v0) (o1 : Value.okWide Try.prog W .any base 22 v1) :
    Calls Try.prog 3 #[v0, v1] W fun e w' => e = .returned (.bool true) ∧ RowKit.Below W.heap.size W w' := by
  obtain ⟨n, rfl, rfl, rfl, _⟩ := open_int Try.underlying3 o0 h0
  obtain ⟨a, m, cap, xs, rfl, hh, k2, hx⟩ := open_sacts_arg o1 h1
  exact slotsScript_any n xs a m cap W hh (by unfold maxLen at k2; omega) hx
end Go.Proofs.Ytfmeppfhckahnaa
