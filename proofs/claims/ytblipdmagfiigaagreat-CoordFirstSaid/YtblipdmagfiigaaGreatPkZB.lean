/- texts joined -/
import Derived.WalkKit
import Derived.ProofKit
import Derived.OpenShut
import Derived.Lib.SmallJoins
import Derived.Lib.Hide
import Derived.Deep.Slices
import Derived.OwnWalk
import Derived.Laws.AppendOwnNone
import Derived.Test.YtblipdmagfiigaaGreatChecked
import Derived.WalkLawsBesides
import Derived.Outline
import Derived.Sort.Walk0
import Derived.Laws.RangeAny
import Derived.Lib.DecodeN
import Derived.Deep.QuietTactic
import Derived.BigQuiet
import Derived.SliceStrings
import Derived.Deep.RegionWith
import Derived.Deep.DeepCutAuto
import Derived.Deep.RegionHeld3
import Derived.Lib.OthersKept
import Derived.Maps.OwnSet
import Derived.WalkArith
import Derived.BigRegion
import Derived.Deep.AppendLies
import Derived.Deep.RegionLaw
import Derived.Laws.OwnMore
import Derived.Lib.SliceRun
import Derived.Sort.Grow
import Derived.Laws.AppendOwn
import Derived.Carry
import Derived.Test.YtblipdmagfiigaaGreatPkZA
namespace Go.Proofs.YtblipdmagfiigaaGreat
open Go.RowKit
set_option linter.unusedVariables false
set_option maxRecDepth 20000
noncomputable def mInfo (name : String) : Option (Array FieldStep × Option (FuncId × Bool)) := (Tryz.prog.info? 172).bind (fun ti => (ti.methods.find? (fun x => x.name == name)).map (fun m => (m.path, m.func)))
theorem mi_less : mInfo "Less" = some (#[], some (150, false)) := by kernel_rfl
theorem mi_swap : mInfo "Swap" = some (#[], some (151, false)) := by kernel_rfl
theorem mi_len : mInfo "Len" = some (#[], some (149, false)) := by kernel_rfl
theorem wrap_nil (P : Program) (ts : Array TypeId) (t : TypeId) (p : Addr) (x y : String) (w : World) : (Builtin.ssaWrapNilChk_ ts t #[.pointer (some p), strVal x, strVal y]).run P w = .ok (.pointer (some p)) w := rfl
theorem m_val (name : String) (g : FuncId) (hm : mInfo name = some (#[], some (g, false))) (f p o n c : Nat) (a : Option Addr) (w : World) (h : w.cell? ⟨p, o, none⟩ = some (.slice a n c)) : (method (f + 1) 172 (.pointer (some ⟨p, o, none⟩)) name).run Tryz.prog w = .ok (g, .slice a n c) w := by
  unfold mInfo at hm
  cases hi : Tryz.prog.info? 172 with
  | none => rw [hi] at hm; cases hm
  | some ti =>
    rw [hi] at hm
    simp only [Option.bind_some] at hm
    cases hf : ti.methods.find? (fun x => x.name == name) with
    | none => rw [hf] at hm; cases hm
    | some m =>
      rw [hf] at hm
      simp only [Option.map_some, Option.some.injEq, Prod.mk.injEq] at hm
      obtain ⟨h1, h2⟩ := hm
      have hu := Tryz.underlying172
      unfold method typeInfo
      simp [go_sem, hi, hf, h1, h2, follow, receiverAt, wrap_nil, Place.get, h]
theorem m_push (f p o : Nat) (w : World) : (method (f + 1) 172 (.pointer (some ⟨p, o, none⟩)) "Push").run Tryz.prog w = .ok (153, .pointer (some ⟨p, o, none⟩)) w := by kernel_rfl
theorem m_pop (f p o : Nat) (w : World) : (method (f + 1) 172 (.pointer (some ⟨p, o, none⟩)) "Pop").run Tryz.prog w = .ok (152, .pointer (some ⟨p, o, none⟩)) w := by kernel_rfl
/-- the heap's slice lies in cell o of block p; E: the block's other cells -/
structure PMid (w : World) (p o : Nat) (E : Nat → Option Value) (na : Option Addr) (nc : Nat) (L : List TM) : Prop where
  c : w.cell? ⟨p, o, none⟩ = some (.slice na L.length nc)
  f : w.frozen? ⟨p, o, none⟩ = false
  r : OwnT w na nc L
  n : ∀ q, na = some ⟨q, 0, none⟩ → q ≠ p
  e : ∀ k, k ≠ o → w.cell? ⟨p, k, none⟩ = E k
abbrev Row (na : Option Addr) : Nat → Prop := fun k => na = some ⟨k, 0, none⟩
abbrev hpV (p o : Nat) : Value := .iface 172 (.pointer (some ⟨p, o, none⟩))
theorem PMid.lt {w : World} {p o : Nat} {E : Nat → Option Value} {na : Option Addr} {nc : Nat} {L : List TM} (h : PMid w p o E na nc L) : p < w.heap.size := lt_of_cell h.c
theorem PMid.rows {w w' : World} {p o : Nat} {E : Nat → Option Value} {na : Option Addr} {nc : Nat} {L L' : List TM} (h : PMid w p o E na nc L) (t : Turn (Row na) w w') (hl : L'.length = L.length) (r : OwnT w' na nc L') : PMid w' p o E na nc L' := by
  have hp := h.lt
  have hn : ¬ Row na p := fun e => h.n p e rfl
  exact ⟨by rw [t.cell hp hn, hl]; exact h.c, (t.frozen hp hn).trans h.f, r, h.n, fun k hk => (t.cell hp hn).trans (h.e k hk)⟩
theorem PMid.more {w w' : World} {p o : Nat} {E : Nat → Option Value} {na : Option Addr} {nc : Nat} {L : List TM} (h : PMid w p o E na nc L) (hb : Below w.heap.size w w') : PMid w' p o E na nc L := by
  have hp := h.lt
  exact ⟨(hb.cell (p := ⟨p, o, none⟩) hp).trans h.c, (hb.frozen (p := ⟨p, o, none⟩) hp).trans h.f, owns_below h.r hb, h.n, fun k hk => (hb.cell (p := ⟨p, k, none⟩) hp).trans (h.e k hk)⟩
theorem tLen_any (a : Option Addr) (n c : Nat) (w : World) : Calls Tryz.prog 149 #[.slice a n c] w fun e w' => e = .returned (.int .i64 n) ∧ w = w' := by
  go_enter Tryz.func149, Tryz.ntmps149
  go_wp2_with fail
  go_ret
  exact ⟨rfl, rfl⟩
theorem par_z0 : wrap64 ((wrap64 ((0 : Int) - 1)).tdiv 2) = 0 := by
  have h1 : wrap64 ((0 : Int) - 1) = -1 := by unfold wrap64; omega
  rw [h1]
  have h2 : Int.tdiv (-1) 2 = 0 := by decide
  rw [h2]
  unfold wrap64; omega
/-- what is left when two have changed places, or more -/
structure Same (n : Nat) (L L' : List TM) : Prop where
  l : L'.length = L.length
  p : L'.Perm L
  t : ∀ k, n ≤ k → gT L' k = gT L k
theorem Same.refl (n : Nat) (L : List TM) : Same n L L := ⟨rfl, List.Perm.refl _, fun _ _ => rfl⟩
theorem Same.swap {n : Nat} {L L' : List TM} (h : Same n L L') {i j : Nat} (hi : i < n) (hj : j < n) (hn : n ≤ L.length) : Same n L (swapT L' i j) := by
  have hl := h.l
  refine ⟨by rw [swap_len]; exact hl, (swap_perm (by omega) (by omega)).trans h.p, fun k hk => ?_⟩
  rw [gT_swap (by omega) (by omega), if_neg (by omega), if_neg (by omega)]
  exact h.t k hk
def UpP (n p o : Nat) (E : Nat → Option Value) (na : Option Addr) (nc : Nat) (L : List TM) (w w' : World) : Prop := ∃ L', Same n L L' ∧ HeapT n L' ∧ PMid w' p o E na nc L' ∧ Turn (Row na) w w'
set_option maxHeartbeats 3200000 in
theorem up_any (n p o : Nat) (E : Nat → Option Value) (na : Option Addr) (nc : Nat) (L : List TM) (j : Nat) (w : World) (h : PMid w p o E na nc L) (hn : n ≤ L.length) (hj : j < n) (hn2 : n ≤ 1000) (hU : UpT n L j) :
    Calls Tryz.prog 111 #[hpV p o, .int .i64 j] w fun e w' => e = .returned (.tuple #[]) ∧ UpP n p o E na nc L w w' := by
  have H0 := Lib.hid h; have U0 := Lib.hid hU; have HN := Lib.hid hn
  clear h hU hn
  go_enter Tryz.func111, Tryz.ntmps111
  go_wp2_with fail
  go_loopw [1] (fun jv wr => ∃ (j : Nat) (L' : List TM), j < n ∧ jv = .int .i64 j ∧ Hid (Same n L L') ∧ Hid (UpT n L' j) ∧ Hid (PMid wr p o E na nc L') ∧ Hid (Turn (Row na) w wr)) (fun jv _ => (intOf jv).toNat)
  case atStart => exact ⟨j, L, hj, rfl, Lib.hid (Same.refl n L), U0, H0, Lib.hid (Turn.refl _ _)⟩
  case round =>
    clear U0 H0 hj
    obtain ⟨j, L', hj, rfl, hS, hU, hP, hT⟩ := hrel
    rcases Nat.eq_zero_or_pos j with hz | h0
    · subst hz
      have hw := par_z0
      have HH := Lib.hid (up_end hU.out (Or.inl rfl))
      go_wp2_with fail
      go_end0
      exact ⟨rfl, L', hS.out, HH.out, hP.out, hT.out⟩
    · obtain ⟨i, hi⟩ : ∃ i, par j = i := ⟨_, rfl⟩
      have hw : ((j : Int) - 1) / 2 = (par j : Int) := by unfold par; omega
      have hpl := par_lt h0
      rw [hi] at hw hpl
      have hne : ((i : Int) == (j : Int)) = false := by rw [beq_eq_false_iff_ne]; omega
      have hne2 : ¬ (i : Int) = (j : Int) := by omega
      have hjl : j < L'.length := by have := HN.out; have := hS.out.l; omega
      have c0 := hP.out.c
      have hm := m_val "Less" _ mi_less 321 p o L'.length nc na wr c0
      have CL := Lib.hid (tLess_any na nc L' j i wr hP.out.r hjl (by omega))
      have HI := Lib.hid hi
      clear hi
      by_cases hl : lessT (gT L' j) (gT L' i)
      · rw [decide_eq_true hl] at CL
        have HL := Lib.hid hl
        clear hl
        go_wp2_with fail
        with_reducible refine CL.out.mono ?_
        rintro e w1 ⟨rfl, hb⟩
        have P1 := Lib.hid (hP.out.more hb)
        have T1 := Lib.hid (hT.out.trans (Turn.of_below hb))
        have c1 := P1.out.c
        have hm1 := m_val "Swap" _ mi_swap 321 p o L'.length nc na w1 c1
        have CS := Lib.hid (tSwap_any na nc L' i j w1 P1.out.r (by omega) hjl)
        clear hb CL hm c0
        go_wp2_with fail
        with_reducible refine CS.out.mono ?_
        rintro e w2 ⟨rfl, hr, ht⟩
        have P2 := Lib.hid (P1.out.rows ht (swap_len _ _ _) hr)
        have T2 := Lib.hid (T1.out.trans ht)
        have S2 := Lib.hid (hS.out.swap (show i < n by omega) hj HN.out)
        have U2 := Lib.hid (show UpT n (swapT L' i j) i from by
          have h1 := up_step (by have := HN.out; have := hS.out.l; omega) hU.out h0 hj (by rw [HI.out]; exact HL.out)
          rw [HI.out] at h1; exact h1)
        clear hr ht CS hm1 c1
        go_wp2_with fail
        go_roundw
        case rel => exact ⟨i, swapT L' i j, by omega, rfl, S2, U2, P2, T2⟩
        case measure => simp [intOf] <;> omega
      · rw [decide_eq_false hl] at CL
        have HH := Lib.hid (up_end hU.out (Or.inr (by rw [HI.out]; exact hl)))
        clear hl
        go_wp2_with fail
        with_reducible refine CL.out.mono ?_
        rintro e w1 ⟨rfl, hb⟩
        have P1 := Lib.hid (hP.out.more hb)
        have T1 := Lib.hid (hT.out.trans (Turn.of_below hb))
        clear hb
        go_wp2_with fail
        go_end0
        exact ⟨rfl, L', hS.out, HH.out, P1.out, T1.out⟩
end Go.Proofs.YtblipdmagfiigaaGreat
namespace Go.Proofs.YtblipdmagfiigaaGreat
open Go.RowKit
set_option linter.unusedVariables false
set_option maxRecDepth 20000
def DownP (n p o : Nat) (E : Nat → Option Value) (na : Option Addr) (nc : Nat) (L : List TM) (i0 : Nat) (b : Bool) (w w' : World) : Prop := ∃ L', Same n L L' ∧ (b = true → HeapT n L') ∧ (b = false → L' = L ∧ UpT n L i0) ∧ PMid w' p o E na nc L' ∧ Turn (Row na) w w'
theorem child_least {n i : Nat} {L : List TM} (h1 : 2 * i + 1 < n) (h : ¬ (2 * i + 2 < n ∧ lessT (gT L (2 * i + 2)) (gT L (2 * i + 1)))) : ∀ k, 0 < k → k < n → par k = i → leT (gT L (2 * i + 1)) (gT L k) := fun k k0 kn kp => by
  rcases (par_child k0).1 kp with rfl | rfl
  · exact leT_refl _
  · exact fun e => h ⟨kn, e⟩
theorem child_other {n i : Nat} {L : List TM} (h2 : 2 * i + 2 < n) (h : lessT (gT L (2 * i + 2)) (gT L (2 * i + 1))) : ∀ k, 0 < k → k < n → par k = i → leT (gT L (2 * i + 2)) (gT L k) := fun k k0 kn kp => by
  rcases (par_child k0).1 kp with rfl | rfl
  · exact leT_of_less h
  · exact leT_refl _
theorem child_none {n i : Nat} {L : List TM} (h : ¬ 2 * i + 1 < n) : ∀ k, 0 < k → k < n → par k = i → leT (gT L i) (gT L k) := fun k k0 kn kp => by
  rcases (par_child k0).1 kp with rfl | rfl
  · exact absurd kn h
  · exact absurd (show 2 * i + 1 < n by omega) h
theorem down_out {n p o : Nat} {E : Nat → Option Value} {na : Option Addr} {nc : Nat} {L L' : List TM} {i0 i : Nat} {w w' : World} (hS : Same n L L') (hD : DownT n L' i) (hX : (i = i0 ∧ L' = L) ∨ (i0 < i ∧ leT (gT L' (par i)) (gT L' i))) (he : ∀ k, 0 < k → k < n → par k = i → leT (gT L' i) (gT L' k)) (hP : PMid w' p o E na nc L') (hT : Turn (Row na) w w') (b : Bool) (hb : b = decide (i0 < i)) : DownP n p o E na nc L i0 b w w' := by
  subst hb
  have hU := down_end hD he
  refine ⟨L', hS, fun h => ?_, fun h => ?_, hP, hT⟩
  · have h1 := of_decide_eq_true h
    rcases hX with ⟨e, -⟩ | ⟨-, e⟩
    · omega
    · exact up_end hU (Or.inr e)
  · have h1 := of_decide_eq_false h
    rcases hX with ⟨e, e2⟩ | ⟨e, -⟩
    · subst e e2; exact ⟨rfl, hU⟩
    · omega
set_option maxHeartbeats 3200000 in
theorem down_any (n p o : Nat) (E : Nat → Option Value) (na : Option Addr) (nc : Nat) (L : List TM) (i0 : Nat) (w : World) (h : PMid w p o E na nc L) (hn : n ≤ L.length) (hi : i0 ≤ n) (hn2 : n ≤ 1000) (hD : DownT n L i0) :
    Calls Tryz.prog 110 #[hpV p o, .int .i64 i0, .int .i64 n] w fun e w' => ∃ b, e = .returned (.bool b) ∧ DownP n p o E na nc L i0 b w w' := by
  have H0 := Lib.hid h; have D0 := Lib.hid hD; have HN := Lib.hid hn
  clear h hD hn
  go_enter Tryz.func110, Tryz.ntmps110
  go_wp2_with fail
  go_loopw [7] (fun iv wr => ∃ (i : Nat) (L' : List TM), i ≤ n ∧ iv = .int .i64 i ∧ Hid (Same n L L') ∧ Hid (DownT n L' i) ∧ Hid ((i = i0 ∧ L' = L) ∨ (i0 < i ∧ leT (gT L' (par i)) (gT L' i))) ∧ Hid (PMid wr p o E na nc L') ∧ Hid (Turn (Row na) w wr)) (fun iv _ => n - (intOf iv).toNat)
  case atStart => exact ⟨i0, L, hi, rfl, Lib.hid (Same.refl n L), D0, Lib.hid (Or.inl ⟨rfl, rfl⟩), H0, Lib.hid (Turn.refl _ _)⟩
  case round =>
    clear H0 D0
    obtain ⟨i, L', hi', rfl, hS, hD, hX, hP, hT⟩ := hrel
    have i1 : (0 : Int) ≤ (i : Int) := by omega
    have i2 : (i : Int) ≤ 1000 := by omega
    by_cases hc : 2 * i + 1 < n
    · have d1 : decide (2 * (i : Int) + 1 ≥ (n : Int)) = false := decide_eq_false (by omega)
      have d2 : decide ((n : Int) ≤ 2 * (i : Int) + 1) = false := decide_eq_false (by omega)
      have d3 : decide (2 * (i : Int) + 1 < 0) = false := decide_eq_false (by omega)
      have hjl : n ≤ L'.length := by have := HN.out; have := hS.out.l; omega
      have c0 := hP.out.c
      have hm := m_val "Less" _ mi_less 321 p o L'.length nc na wr c0
      go_upto_region 6 with fail
      obtain ⟨z, hz⟩ : ∃ z, decide (2 * i + 2 < n ∧ lessT (gT L' (2 * i + 2)) (gT L' (2 * i + 1))) = z := ⟨_, rfl⟩
      have HZ := Lib.hid hz
      clear hz
      go_cut [33] (fun u wd => u = .bool z ∧ Hid (Below wr.heap.size wr wd))
      case first =>
        by_cases h2 : 2 * i + 2 < n
        · have d4 : decide (2 * (i : Int) + 1 + 1 < (n : Int)) = true := decide_eq_true (by omega)
          have d5 : decide (2 * (i : Int) + 2 < (n : Int)) = true := decide_eq_true (by omega)
          have CL := Lib.hid (tLess_any na nc L' (2 * i + 2) (2 * i + 1) wr hP.out.r (by omega) (by omega))
          have e1 : ((2 * i + 2 : Nat) : Int) = 2 * (i : Int) + 1 + 1 := by omega
          have e2 : ((2 * i + 1 : Nat) : Int) = 2 * (i : Int) + 1 := by omega
          rw [e1, e2] at CL
          rw [show decide (lessT (gT L' (2 * i + 2)) (gT L' (2 * i + 1))) = z from by rw [← HZ.out]; simp [h2]] at CL
          clear e1 e2
          go_wp2_with fail
          with_reducible refine CL.out.mono ?_
          rintro e w1 ⟨rfl, hb⟩
          go_wp2_with fail
          go_meet
          exact ⟨rfl, Lib.hid hb⟩
        · have d4 : decide (2 * (i : Int) + 1 + 1 < (n : Int)) = false := decide_eq_false (by omega)
          have d5 : decide (2 * (i : Int) + 2 < (n : Int)) = false := decide_eq_false (by omega)
          obtain rfl : z = false := by rw [← HZ.out]; simp [h2]
          go_wp2_with fail
          go_meet
          exact ⟨rfl, Lib.hid (Below.refl _ _)⟩
      case rest =>
        obtain ⟨rfl, hB⟩ := hcut
        rename World => w1
        go_upto_if 33 with fail
        go_cut [9] (fun jv wd => ∃ j : Nat, jv = .int .i64 j ∧ j < n ∧ Hid (0 < j ∧ par j = i ∧ ∀ k, 0 < k → k < n → par k = i → leT (gT L' j) (gT L' k)) ∧ w1 = wd)
        case first =>
          cases z
          · have HC := Lib.hid (child_least (L := L') hc (of_decide_eq_false HZ.out))
            go_wp2_with fail
            go_meet
            exact ⟨2 * i + 1, by go_num, hc, Lib.hid ⟨by omega, (par_child (by omega)).2 (Or.inl rfl), HC.out⟩, rfl⟩
          · have hz := of_decide_eq_true HZ.out
            have HC := Lib.hid (child_other hz.1 hz.2)
            have h2 := hz.1
            clear hz
            go_wp2_with fail
            go_meet
            exact ⟨2 * i + 2, by go_num, h2, Lib.hid ⟨by omega, (par_child (by omega)).2 (Or.inr rfl), HC.out⟩, rfl⟩
        case rest =>
          obtain ⟨j, rfl, hjn, hJ, rfl⟩ := hcut
          have P1 := Lib.hid (hP.out.more hB.out)
          have T1 := Lib.hid (hT.out.trans (Turn.of_below hB.out))
          have HIJ := Lib.hid (show i < j from by rw [← hJ.out.2.1]; exact par_lt hJ.out.1)
          have c1 := P1.out.c
          have hm1 := m_val "Less" _ mi_less 321 p o L'.length nc na w1 c1
          have hil : i < L'.length := by have := HIJ.out; omega
          have CL := Lib.hid (tLess_any na nc L' j i w1 P1.out.r (by omega) hil)
          clear hm c0 hP hT hB
          by_cases hl : lessT (gT L' j) (gT L' i)
          · rw [decide_eq_true hl] at CL
            obtain ⟨D2a, D2b⟩ := down_step hjl hD.out hJ.out.1 hjn hJ.out.2.1 hJ.out.2.2 hl
            have D2 := Lib.hid D2a
            have X2 := Lib.hid (show (j = i0 ∧ swapT L' i j = L) ∨ (i0 < j ∧ leT (gT (swapT L' i j) (par j)) (gT (swapT L' i j) j)) from Or.inr ⟨by have := HIJ.out; rcases hX.out with ⟨h, -⟩ | ⟨h, -⟩ <;> omega, D2b⟩)
            have S2 := Lib.hid (hS.out.swap (show i < n by have := HIJ.out; omega) hjn HN.out)
            clear hl D2a D2b
            go_wp2_with fail
            with_reducible refine CL.out.mono ?_
            rintro e w2 ⟨rfl, hb⟩
            have P2 := Lib.hid (P1.out.more hb)
            have T2 := Lib.hid (T1.out.trans (Turn.of_below hb))
            have c2 := P2.out.c
            have hm2 := m_val "Swap" _ mi_swap 321 p o L'.length nc na w2 c2
            have CS := Lib.hid (tSwap_any na nc L' i j w2 P2.out.r hil (by omega))
            clear hb CL hm1 c1 P1 T1
            go_wp2_with fail
            with_reducible refine CS.out.mono ?_
            rintro e w3 ⟨rfl, hr, ht⟩
            have P3 := Lib.hid (P2.out.rows ht (swap_len _ _ _) hr)
            have T3 := Lib.hid (T2.out.trans ht)
            have HM := HIJ.out
            clear hr ht CS hm2 c2
            go_wp2_with fail
            go_roundw
            case rel => exact ⟨j, swapT L' i j, by omega, rfl, S2, D2, X2, P3, T3⟩
            case measure => simp [intOf] <;> omega
          · rw [decide_eq_false hl] at CL
            have HE := Lib.hid (show ∀ k, 0 < k → k < n → par k = i → leT (gT L' i) (gT L' k) from fun k k0 kn kp => leT_trans hl (hJ.out.2.2 k k0 kn kp))
            clear hl
            go_wp2_with fail
            with_reducible refine CL.out.mono ?_
            rintro e w2 ⟨rfl, hb⟩
            have FIN := Lib.hid (down_out hS.out hD.out hX.out HE.out (P1.out.more hb) (T1.out.trans (Turn.of_below hb)))
            clear hb
            go_wp2_with fail
            go_ret
            exact ⟨_, rfl, FIN.out _ (by first | rfl | simp)⟩
    · have d1 : decide (2 * (i : Int) + 1 ≥ (n : Int)) = true := decide_eq_true (by omega)
      have d2 : decide ((n : Int) ≤ 2 * (i : Int) + 1) = true := decide_eq_true (by omega)
      have FIN := Lib.hid (down_out hS.out hD.out hX.out (child_none hc) hP.out hT.out)
      go_wp2_with fail
      go_ret
      exact ⟨_, rfl, FIN.out _ (by first | rfl | simp)⟩
end Go.Proofs.YtblipdmagfiigaaGreat
namespace Go.Proofs.YtblipdmagfiigaaGreat
open Go.RowKit
set_option linter.unusedVariables false
set_option maxRecDepth 20000
theorem timer_info : (Tryz.prog.info? 180).map (fun i => (i.zero, i.size, i.bytes)) = some (some (.agg #[.int .i64 0, .int .i64 0]), 2, 16) := by kernel_rfl
abbrev anyT (x : TM) : Value := .iface 180 (.agg #[.int .i64 x.id, .int .i64 x.at_])
theorem row_at {w : World} {na : Option Addr} {nc k : Nat} {L : List TM} (h : OwnT w na nc L) (hk : some k = (Value.slice na L.length nc).ownBlock) : na = some ⟨k, 0, none⟩ := by
  rcases Joins.ownsRow_forms h with ⟨e1, _⟩ | ⟨g, cap, e1⟩
  · injection e1 with e2; subst e2; cases hk
  · injection e1 with e2; subst e2; injection hk with hk; rw [hk]
theorem row_block {w w' : World} {a : Option Addr} {c : Nat} {L : List TM} (h : OwnT w a c L) (hb : ∀ g, a = some ⟨g, 0, none⟩ → w'.heap[g]? = w.heap[g]?) : OwnT w' a c L := by
  refine ⟨h.1, ?_⟩
  rcases h.2 with h1 | ⟨g, cap, cur, hv, hge, hh, r⟩
  · exact Or.inl h1
  · have hv' := hv
    simp only [Value.slice.injEq] at hv'
    exact Or.inr ⟨g, cap, cur, hv, hge, (hb g hv'.1).trans hh, r⟩
abbrev PRow (p : Nat) (na : Option Addr) : Nat → Prop := fun k => k = p ∨ na = some ⟨k, 0, none⟩
theorem gownsT {w w' : World} {base : Nat} {e : TypeId} {size : Nat} {a : Option Addr} {n c : Nat} {xs : List Value} (h : w.ownsRow base e size (.slice a n c) n xs) (hb : ∀ g, a = some ⟨g, 0, none⟩ → w'.heap[g]? = w.heap[g]?) : w'.ownsRow base e size (.slice a n c) n xs := by
  refine ⟨h.1, ?_⟩
  rcases h.2 with h1 | ⟨g, cap, cur, hv, hge, hh, r⟩
  · exact Or.inl h1
  · have hv' := hv
    simp only [Value.slice.injEq] at hv'
    exact Or.inr ⟨g, cap, cur, hv, hge, (hb g hv'.1).trans hh, r⟩
theorem PMid.grow {w w6 : World} {p o q cap : Nat} {E : Nat → Option Value} {na : Option Addr} {nc : Nat} {L : List TM} {x : TM} {ob : Obj} (h : PMid w p o E na nc L)
    (own : w6.ownsRow 0 180 2 (.slice (some ⟨q, 0, none⟩) (L.length + 1) cap) (L.length + 1) (tmV L ++ [.int .i64 x.id, .int .i64 x.at_]))
    (hg : (w.alloc ob).grownBy w6 (Value.slice na L.length nc).ownBlock) (hat : (Value.slice na L.length nc).ownBlock = some q ∨ q = (w.alloc ob).heap.size) :
    PMid (w6.setCell ⟨p, o, none⟩ (.slice (some ⟨q, 0, none⟩) (L.length + 1) cap)) p o E (some ⟨q, 0, none⟩) cap (L ++ [x]) ∧ Turn (PRow p na) w (w6.setCell ⟨p, o, none⟩ (.slice (some ⟨q, 0, none⟩) (L.length + 1) cap)) ∧ (na = some ⟨q, 0, none⟩ ∨ w.heap.size ≤ q) := by
  have hza : (w.alloc ob).heap.size = w.heap.size + 1 := by simp
  have hz6 := hg.size
  have hp := h.lt
  have old : ∀ k, k < w.heap.size → na ≠ some ⟨k, 0, none⟩ → w6.heap[k]? = w.heap[k]? := fun k hk hn =>
    (hg.block k (by omega) (fun e => hn (row_at h.r e))).trans (Below.heap_alloc _ _ _ (by omega))
  have op := old p hp (fun e => h.n p e rfl)
  have hwhere : na = some ⟨q, 0, none⟩ ∨ w.heap.size ≤ q := by
    rcases hat with e | e
    · exact Or.inl (row_at h.r e.symm)
    · exact Or.inr (by omega)
  have qp : q ≠ p := by
    rcases hwhere with e | e
    · exact h.n q e
    · omega
  have hlen : (L ++ [x]).length = L.length + 1 := by simp
  have hkv : tmV (L ++ [x]) = tmV L ++ [.int .i64 x.id, .int .i64 x.at_] := by rw [tmV_app]; rfl
  refine ⟨⟨?_, ?_, ?_, fun r hr => ?_, fun k hk => ?_⟩, ?_, hwhere⟩
  · rw [hlen]; exact cset_at ((World.cell?_of_block (w := w) op).trans h.c)
  · rw [fset_any, World.frozen?_of_block (w := w) op]; exact h.f
  · unfold OwnT
    rw [hlen, hkv]
    exact gownsT own (fun r hr => by injection hr with hr; injection hr with hr; subst hr; exact Below.heap_setCell _ _ _ _ qp)
  · injection hr with hr; injection hr with hr; subst hr; exact qp
  · rw [cset_ne (fun e => hk e.symm)]; exact (World.cell?_of_block (w := w) op).trans (h.e k hk)
  · refine Turn.trans ?_ (Turn.setCell (Or.inl rfl))
    exact ⟨hg.os, hg.tape, hg.output, by omega, fun k hk hn => old k hk (fun e => hn (Or.inr e))⟩
/-- the last one less -/
theorem PMid.cut {w : World} {p o n : Nat} {E : Nat → Option Value} {na : Option Addr} {nc : Nat} {L : List TM} (h : PMid w p o E na nc L) (hn : L.length = n + 1) :
    PMid (w.setCell ⟨p, o, none⟩ (.slice na n nc)) p o E na nc (L.take n) ∧ Turn (PRow p na) w (w.setCell ⟨p, o, none⟩ (.slice na n nc)) := by
  have hlen : (L.take n).length = n := by rw [List.length_take]; omega
  refine ⟨⟨?_, ?_, ?_, h.n, fun k hk => ?_⟩, Turn.setCell (Or.inl rfl)⟩
  · rw [hlen]; exact cset_at h.c
  · rw [fset_any]; exact h.f
  · unfold OwnT
    rw [hlen]
    have hr := h.r
    unfold OwnT at hr
    rw [hn] at hr
    refine ⟨by rw [tmV_len, hlen], ?_⟩
    rcases hr.2 with ⟨e1, e2⟩ | ⟨g, cap, cur, hv, hge, hh, h1, h2, h3, h4⟩
    · omega
    · simp only [Value.slice.injEq] at hv
      obtain ⟨hv1, -, hv2⟩ := hv
      subst hv2
      refine Or.inr ⟨g, nc, cur, by rw [hv1], hge, ?_, by omega, h2, h3, ?_⟩
      · rw [Below.heap_setCell _ _ _ _ (h.n g hv1)]; exact hh
      · rw [← tmV_take, ← h4, List.take_take]
        congr 1; omega
  · rw [cset_ne (fun e => hk e.symm)]; exact h.e k hk
def PushP (p o : Nat) (E : Nat → Option Value) (na : Option Addr) (L : List TM) (x : TM) (w w' : World) : Prop := ∃ q nc', PMid w' p o E (some ⟨q, 0, none⟩) nc' (L ++ [x]) ∧ Turn (PRow p na) w w' ∧ (na = some ⟨q, 0, none⟩ ∨ w.heap.size ≤ q)
set_option maxHeartbeats 3200000 in
theorem tPush_any (p o : Nat) (E : Nat → Option Value) (na : Option Addr) (nc : Nat) (L : List TM) (x : TM) (w : World) (h : PMid w p o E na nc L) (hn : L.length ≤ 1000) :
    Calls Tryz.prog 153 #[.pointer (some ⟨p, o, none⟩), anyT x] w fun e w' => e = .returned (.tuple #[]) ∧ PushP p o E na L x w w' := by
  obtain ⟨i0, hi, hz0, hz1, hz2⟩ := info_parts timer_info
  obtain ⟨x1, x2⟩ := x
  have c0 : w.drew.cell? ⟨p, o, none⟩ = some (.slice na L.length nc) := h.c
  have hd : PMid w.drew p o E na nc L := h.more (Below.refl _ _).drew
  have HD := Lib.hid hd
  have AB := Lib.hid (show ∀ ob w', (w.drew.alloc ob).grownBy w' (Value.slice na L.length nc).ownBlock → w'.cell? ⟨p, o, none⟩ = some (.slice na L.length nc) ∧ w'.frozen? ⟨p, o, none⟩ = false from fun ob w' hg => by
    have lp := hd.lt
    have sz : w.drew.heap.size = w.heap.size := rfl
    have op := (hg.block p (by simp; omega) (fun e => hd.n p (row_at hd.r e) rfl)).trans (Below.heap_alloc w.drew ob p lp)
    exact ⟨(World.cell?_of_block (w := w.drew) op).trans hd.c, (World.frozen?_of_block (w := w.drew) op).trans hd.f⟩)
  have a0 := fun ob => (cell_alloc_old (w := w.drew) (o := ob) (b := p) (p := o) hd.lt).trans c0
  have a1 := fun ob => (cell_alloc_old (w := w) (o := ob) (b := p) (p := o) h.lt).trans h.c
  clear h hd
  have ta : ∀ w, (Instr.typeAssert (.iface 180 (.agg #[.int .i64 x1, .int .i64 x2])) 20 180 false).run Tryz.prog w = .ok (.agg #[.int .i64 x1, .int .i64 x2]) w := fun _ => by kernel_rfl
  dsimp only [anyT]
  go_enter Tryz.func153, Tryz.ntmps153
  go_upto_region 0 with fail
  go_region_law
    (refine step_append_lies _ (by rfl) _ _ _ (by rfl) 0 180 i0 _ 2 16 Tryz.underlying147 hi hz0 hz1 hz2 rfl (by omega) (.slice na L.length nc) L.length (tmV L) (by rfl) (HD.out.r.alloc _) ⟨w.drew.heap.size, 0, none⟩ 1 1 [.int .i64 x1, .int .i64 x2] (by rfl) (by rfl) (World.news_of_block (cs := #[.int .i64 x1, .int .i64 x2]) (t := 180) (fr := (0, 0)) (heap_alloc_new w.drew _)) (by simp [Value.oneCell']) (by omega) (by unfold maxLen; omega) (by omega) (by omega) (w.drew.heap.size + 1) (by simp) ?_; intro g3 c3 w3 hown3 hgrow3 hat3 hlt3; obtain ⟨y0, y1⟩ := AB.out _ _ hgrow3)
  all_goals
    have FR := Lib.hid (HD.out.grow (x := ⟨x1, x2⟩) hown3 hgrow3 (hat3.imp id (fun e => by simp; exact e)))
    clear hown3 hgrow3 hat3 hlt3 y0 y1
    go_wp2_with fail
    go_end0
    exact ⟨rfl, g3, c3, FR.out.1, (Turn.refl _ w).drew.trans FR.out.2.1, FR.out.2.2⟩
def PopP (n p o : Nat) (E : Nat → Option Value) (na : Option Addr) (nc : Nat) (L : List TM) (w w' : World) : Prop := PMid w' p o E na nc (L.take n) ∧ Turn (PRow p na) w w'
set_option maxHeartbeats 3200000 in
theorem tPop_any (n p o : Nat) (E : Nat → Option Value) (na : Option Addr) (nc : Nat) (L : List TM) (w : World) (h : PMid w p o E na nc L) (hl : L.length = n + 1) (hn : n ≤ 1000) :
    Calls Tryz.prog 152 #[.pointer (some ⟨p, o, none⟩)] w fun e w' => e = .returned (anyT (gT L n)) ∧ PopP n p o E na nc L w w' := by
  have c0 := h.c
  have f0 := h.f
  obtain ⟨q, hq, e0, e1⟩ := h.r.at (i := n) (by omega)
  subst hq
  rw [hl] at c0
  obtain ⟨⟨x1, x2⟩, hx⟩ : ∃ x, gT L n = x := ⟨_, rfl⟩
  rw [hx] at e0 e1 ⊢
  simp only at e0 e1
  have HP := Lib.hid (fun (ob : Obj) => (h.more (below_one w ob)).cut hl)
  have a0 := fun ob => (cell_alloc_old (w := w) (o := ob) (b := p) (p := o) h.lt).trans c0
  have a1 : ∀ ob, (w.alloc ob).frozen? ⟨p, o, none⟩ = false := fun ob => ((below_one w ob).frozen (p := ⟨p, o, none⟩) h.lt).trans f0
  have n1 : (0 : Int) ≤ (n : Int) := by omega
  have n2 : (n : Int) < (n : Int) + 1 := by omega
  have n3 : (n : Int) ≤ (n : Int) + 1 := by omega
  have ncap : n + 1 ≤ nc := by
    have hr := h.r
    unfold OwnT at hr
    rw [hl] at hr
    rcases hr.2 with ⟨-, e2⟩ | ⟨g, cap, cur, hv, hge, hh, h1, -⟩
    · omega
    · simp only [Value.slice.injEq] at hv
      rw [hv.2.2]; exact h1
  have n4 : (n : Int) ≤ (nc : Int) := by omega
  have n5 : n ≤ nc := by omega
  have n6 : ¬ nc = 0 := by omega
  have pn : p ≠ w.heap.size := by have := h.lt; omega
  have b0 : ∀ v, ((w.alloc (.cells #[.int .i64 x1, .int .i64 x2] 180)).setCell ⟨p, o, none⟩ v).cell? ⟨w.heap.size, 0, none⟩ = some (.int .i64 x1) := fun v => (cset_far pn).trans (by rw [cell_alloc rfl]; rfl)
  have b1 : ∀ v, ((w.alloc (.cells #[.int .i64 x1, .int .i64 x2] 180)).setCell ⟨p, o, none⟩ v).cell? ⟨w.heap.size, 1, none⟩ = some (.int .i64 x2) := fun v => (cset_far pn).trans (by rw [cell_alloc rfl]; rfl)
  dsimp only [anyT]
  clear hx hl h
  go_enter Tryz.func152, Tryz.ntmps152
  go_wp2_with fail
  go_ret
  exact ⟨rfl, (HP.out _).1, (Turn.alloc _ w _).trans (HP.out _).2⟩
end Go.Proofs.YtblipdmagfiigaaGreat
namespace Go.Proofs.YtblipdmagfiigaaGreat
open Go.RowKit
set_option linter.unusedVariables false
set_option maxRecDepth 20000
theorem PMid.far {w w' : World} {p o : Nat} {E : Nat → Option Value} {na : Option Addr} {nc : Nat} {L : List TM} {T : Nat → Prop} (h : PMid w p o E na nc L) (t : Turn T w w') (h1 : ¬ T p) (h2 : ∀ q, na = some ⟨q, 0, none⟩ → ¬ T q) : PMid w' p o E na nc L := by
  have hp := h.lt
  exact ⟨(t.cell hp h1).trans h.c, (t.frozen hp h1).trans h.f, row_block h.r (fun q hq => t.block q (h.r.lt q (by rw [hq]; rfl)).2 (h2 q hq)), h.n, fun k hk => (t.cell hp h1).trans (h.e k hk)⟩
theorem PRow.of {p : Nat} {na : Option Addr} {w w' : World} (t : Turn (Row na) w w') : Turn (PRow p na) w w' := t.mono (fun k hk => Or.inr hk)
def OneP (p o : Nat) (E : Nat → Option Value) (na : Option Addr) (M : List TM) (w w' : World) : Prop := ∃ q nc' L', PMid w' p o E (some ⟨q, 0, none⟩) nc' L' ∧ L'.Perm M ∧ HeapT L'.length L' ∧ Turn (PRow p na) w w' ∧ (na = some ⟨q, 0, none⟩ ∨ w.heap.size ≤ q)
set_option maxHeartbeats 1600000 in
theorem hPush_any (p o : Nat) (E : Nat → Option Value) (na : Option Addr) (nc : Nat) (L : List TM) (x : TM) (w : World) (h : PMid w p o E na nc L) (hH : HeapT L.length L) (hn : L.length ≤ 900) :
    Calls Tryz.prog 101 #[hpV p o, anyT x] w fun e w' => e = .returned (.tuple #[]) ∧ OneP p o E na (L ++ [x]) w w' := by
  have CP := Lib.hid (tPush_any p o E na nc L x w h (by omega))
  have HH := Lib.hid hH
  obtain ⟨n, hl⟩ : ∃ n, L.length = n := ⟨_, rfl⟩
  have HL := Lib.hid hl
  rw [hl] at hn
  have mp := fun w => m_push 321 p o w
  clear h hH hl
  dsimp only [anyT] at CP ⊢
  go_enter Tryz.func101, Tryz.ntmps101
  go_wp2_with fail
  with_reducible refine CP.out.mono ?_
  rintro e w1 ⟨rfl, q, nc', hP, hT, hq⟩
  have P1 := Lib.hid hP
  have T1 := Lib.hid hT
  have Q1 := Lib.hid hq
  have c1 := hP.c
  rw [show (L ++ [x]).length = n + 1 from by simp [HL.out]] at c1
  have ml := m_val "Len" _ mi_len 321 p o (n + 1) nc' (some ⟨q, 0, none⟩) w1 c1
  have CU := Lib.hid (up_any (n + 1) p o E (some ⟨q, 0, none⟩) nc' (L ++ [x]) n w1 hP (by simp [HL.out]) (by omega) (by omega) (by have := up_snoc (x := x) HH.out; rw [HL.out] at this; exact this))
  clear hP hT hq CP
  go_wp2_with fail
  with_reducible refine (tLen_any (some ⟨q, 0, none⟩) (n + 1) nc' w1).mono ?_
  rintro e w2 ⟨rfl, rfl⟩
  go_wp2_with fail
  with_reducible refine CU.out.mono ?_
  rintro e w2 ⟨rfl, L', hS, hHp, hP, hT⟩
  have FIN := Lib.hid (show OneP p o E na (L ++ [x]) w w2 from ⟨q, nc', L', hP, hS.p, by rw [hS.l]; simpa [HL.out] using hHp, T1.out.trans' hT (fun k hk => by
    injection hk with hk; injection hk with hk; subst hk
    rcases Q1.out with e | e
    · exact Or.inl (Or.inr e)
    · exact Or.inr e), Q1.out⟩)
  clear hS hHp hP hT
  go_wp2_with fail
  go_end0
  exact ⟨rfl, FIN.out⟩
def LessP (p o : Nat) (E : Nat → Option Value) (na : Option Addr) (nc : Nat) (L : List TM) (x : TM) (w w' : World) : Prop := ∃ L', PMid w' p o E na nc L' ∧ (L' ++ [x]).Perm L ∧ HeapT L'.length L' ∧ Turn (PRow p na) w w'
theorem less_out {n p o : Nat} {E : Nat → Option Value} {na : Option Addr} {nc : Nat} {L L1 L2 : List TM} {x : TM} {w w1 w2 w3 : World} (hl : L.length = n + 1) (hp1 : L1.Perm L) (hx : gT L1 n = x) (hS : Same n L1 L2) (hH : HeapT n L2) (hP : PMid w3 p o E na nc (L2.take n)) (t1 : Turn (PRow p na) w w1) (t2 : Turn (Row na) w1 w2) (t3 : Turn (PRow p na) w2 w3) : LessP p o E na nc L x w w3 := by
  have hl2 : L2.length = n + 1 := by rw [hS.l, hp1.length_eq, hl]
  have hlt : (L2.take n).length = n := by rw [List.length_take]; omega
  refine ⟨L2.take n, hP, ?_, ?_, (t1.trans (PRow.of t2)).trans t3⟩
  · have h1 := take_last hl2
    rw [hS.t n (Nat.le_refl _), hx] at h1
    rw [h1]; exact hS.p.trans hp1
  · rw [hlt]; exact heap_take hH
end Go.Proofs.YtblipdmagfiigaaGreat
namespace Go.Proofs.YtblipdmagfiigaaGreat
open Go.RowKit
set_option linter.unusedVariables false
set_option maxRecDepth 20000
set_option maxHeartbeats 1600000 in
theorem hRemove_any (n p o : Nat) (E : Nat → Option Value) (na : Option Addr) (nc : Nat) (L : List TM) (i : Nat) (w : World) (h : PMid w p o E na nc L) (hH : HeapT L.length L) (hl : L.length = n + 1) (hi : i ≤ n) (hn : n ≤ 900) :
    Calls Tryz.prog 87 #[hpV p o, .int .i64 i] w fun e w' => e = .returned (anyT (gT L i)) ∧ LessP p o E na nc L (gT L i) w w' := by
  have HL := Lib.hid hl
  have c0 := h.c
  rw [hl] at c0
  have ml := m_val "Len" _ mi_len 321 p o (n + 1) nc na w c0
  have ms := m_val "Swap" _ mi_swap 321 p o (n + 1) nc na w c0
  have mp := fun w => m_pop 321 p o w
  have H0 := Lib.hid h; have HH := Lib.hid hH
  by_cases hin : i = n
  · subst hin
    have CQ := tPop_any i p o E na nc L w h hl (by omega)
    dsimp only [anyT] at CQ
    have CQ1 := Lib.hid CQ
    have e1 : ((i : Int) != (i : Int)) = false := by simp
    clear h hH hl CQ ms
    dsimp only [anyT]
    go_enter Tryz.func87, Tryz.ntmps87
    go_wp2_with fail
    with_reducible refine (tLen_any na (i + 1) nc w).mono ?_
    rintro e w1 ⟨rfl, rfl⟩
    go_wp2_with fail
    with_reducible refine CQ1.out.mono ?_
    rintro e w3 ⟨rfl, hP3, hT3⟩
    have FIN := Lib.hid (less_out (x := gT L i) (L1 := L) (w2 := w) HL.out (List.Perm.refl _) rfl (Same.refl i L) (heap_less HH.out (by rw [HL.out]; omega)) hP3 (Turn.refl (PRow p na) w) (Turn.refl (Row na) w) hT3)
    clear hP3 hT3
    go_wp2_with fail
    go_ret
    exact ⟨rfl, FIN.out⟩
  · have hlt : i < n := by omega
    have e1 : ((n : Int) != (i : Int)) = true := by rw [bne_iff_ne]; omega
    have CS := tSwap_any na nc L i n w h.r (by omega) (by omega)
    rw [hl] at CS
    have CS1 := Lib.hid CS
    have GX := Lib.hid (show gT (swapT L i n) n = gT L i from by rw [gT_swap (by omega) (by omega), if_pos rfl])
    have SP := Lib.hid (swap_perm (L := L) (i := i) (j := n) (by omega) (by omega))
    clear h hH hl CS hin
    dsimp only [anyT]
    go_enter Tryz.func87, Tryz.ntmps87
    go_wp2_with fail
    with_reducible refine (tLen_any na (n + 1) nc w).mono ?_
    rintro e w1 ⟨rfl, rfl⟩
    go_wp2_with fail
    with_reducible refine CS1.out.mono ?_
    rintro e w1 ⟨rfl, hr, ht⟩
    have P1 := Lib.hid (H0.out.rows ht (swap_len _ _ _) hr)
    have T1 := Lib.hid ht
    have CD := Lib.hid (down_any n p o E na nc (swapT L i n) i w1 P1.out (by rw [swap_len, HL.out]; omega) (by omega) (by omega) (down_swap (by rw [HL.out]; omega) hlt (by have := HH.out; rw [HL.out] at this; exact this)))
    clear hr ht CS1 ml ms c0
    go_wp2_with fail
    with_reducible refine CD.out.mono ?_
    rintro e w2 ⟨b, rfl, L2, hS, hb1, hb2, hP, hT⟩
    have S2 := Lib.hid hS
    have T2 := Lib.hid hT
    have P2 := Lib.hid hP
    clear CD hS hP hT
    cases b with
    | true =>
      have X2 := Lib.hid (hb1 rfl)
      have hl2 : L2.length = n + 1 := by rw [S2.out.l, swap_len, HL.out]
      have CQ := tPop_any n p o E na nc L2 w2 P2.out hl2 (by omega)
      rw [S2.out.t n (Nat.le_refl _), GX.out] at CQ
      dsimp only [anyT] at CQ
      have CQ1 := Lib.hid CQ
      clear hb1 hb2 CQ hl2
      go_wp2_with fail
      with_reducible refine CQ1.out.mono ?_
      rintro e w3 ⟨rfl, hP3, hT3⟩
      have FIN := Lib.hid (less_out (x := gT L i) HL.out SP.out GX.out S2.out X2.out hP3 (PRow.of T1.out) T2.out hT3)
      clear hP3 hT3
      go_wp2_with fail
      go_ret
      exact ⟨rfl, FIN.out⟩
    | false =>
      obtain ⟨h1, h2⟩ := hb2 rfl
      subst h1
      have CU := Lib.hid (up_any n p o E na nc (swapT L i n) i w2 P2.out (by rw [swap_len, HL.out]; omega) hlt (by omega) h2)
      clear hb1 hb2 h2
      go_wp2_with fail
      with_reducible refine CU.out.mono ?_
      rintro e w4 ⟨rfl, L4, hS4, hH4, hP4, hT4⟩
      have S4 := Lib.hid hS4
      have X4 := Lib.hid hH4
      have T4 := Lib.hid (T2.out.trans hT4)
      have hl4 : L4.length = n + 1 := by rw [hS4.l, swap_len, HL.out]
      have CQ := tPop_any n p o E na nc L4 w4 hP4 hl4 (by omega)
      rw [hS4.t n (Nat.le_refl _), GX.out] at CQ
      dsimp only [anyT] at CQ
      have CQ1 := Lib.hid CQ
      clear CQ hl4 hS4 hH4 hP4 hT4 CU
      go_wp2_with fail
      with_reducible refine CQ1.out.mono ?_
      rintro e w3 ⟨rfl, hP3, hT3⟩
      have FIN := Lib.hid (less_out (x := gT L i) HL.out SP.out GX.out S4.out X4.out hP3 (PRow.of T1.out) T4.out hT3)
      clear hP3 hT3
      go_wp2_with fail
      go_ret
      exact ⟨rfl, FIN.out⟩
def FixP (p o : Nat) (E : Nat → Option Value) (na : Option Addr) (nc : Nat) (L : List TM) (w w' : World) : Prop := ∃ L', PMid w' p o E na nc L' ∧ L'.Perm L ∧ HeapT L'.length L' ∧ Turn (PRow p na) w w'
set_option maxHeartbeats 1600000 in
theorem hFix_any (p o : Nat) (E : Nat → Option Value) (na : Option Addr) (nc : Nat) (L : List TM) (i : Nat) (w : World) (h : PMid w p o E na nc L) (hD : DownT L.length L i) (hi : i < L.length) (hn : L.length ≤ 900) :
    Calls Tryz.prog 100 #[hpV p o, .int .i64 i] w fun e w' => e = .returned (.tuple #[]) ∧ FixP p o E na nc L w w' := by
  have c0 := h.c
  have ml := m_val "Len" _ mi_len 321 p o L.length nc na w c0
  have CD := Lib.hid (down_any L.length p o E na nc L i w h (Nat.le_refl _) (by omega) (by omega) hD)
  clear h hD
  go_enter Tryz.func100, Tryz.ntmps100
  go_wp2_with fail
  with_reducible refine (tLen_any na L.length nc w).mono ?_
  rintro e w1 ⟨rfl, rfl⟩
  go_wp2_with fail
  with_reducible refine CD.out.mono ?_
  rintro e w2 ⟨b, rfl, L2, hS, hb1, hb2, hP, hT⟩
  cases b with
  | true =>
    have FIN := Lib.hid (show FixP p o E na nc L w w2 from ⟨L2, hP, hS.p, by rw [hS.l]; exact hb1 rfl, PRow.of hT⟩)
    clear hS hb1 hb2 hP hT
    go_wp2_with fail
    go_end0
    exact ⟨rfl, FIN.out⟩
  | false =>
    obtain ⟨h1, h2⟩ := hb2 rfl
    subst h1
    have CU := Lib.hid (up_any L2.length p o E na nc L2 i w2 hP (Nat.le_refl _) hi (by omega) h2)
    have T2 := Lib.hid hT
    clear hS hb1 hb2 hP hT h2
    go_wp2_with fail
    with_reducible refine CU.out.mono ?_
    rintro e w4 ⟨rfl, L4, hS4, hH4, hP4, hT4⟩
    have FIN := Lib.hid (show FixP p o E na nc L2 w w4 from ⟨L4, hP4, hS4.p, by rw [hS4.l]; exact hH4, PRow.of (T2.out.trans hT4)⟩)
    clear hS4 hH4 hP4 hT4
    go_wp2_with fail
    go_end0
    exact ⟨rfl, FIN.out⟩
def FindT (L : List TM) (id : Int) (v : Int) : Prop := (∃ i : Nat, i < L.length ∧ v = (i : Int) ∧ (gT L i).id = id) ∨ (v = -1 ∧ ∀ x ∈ L, x.id ≠ id)
theorem findC_any (B : Nat) (id : Int) (x : TM) (w : World) (h0 : w.cell? ⟨B, 0, none⟩ = some (.int .i64 id)) :
    Calls Tryz.prog 109 #[.agg #[.int .i64 x.id, .int .i64 x.at_], .pointer (some ⟨B, 0, none⟩)] w fun e w' => e = .returned (.bool (x.id == id)) ∧ Below w.heap.size w w' := by
  obtain ⟨x1, x2⟩ := x
  simp only
  have e0 : (w.alloc (.cells #[.int .i64 x1, .int .i64 x2] 180)).cell? ⟨B, 0, none⟩ = some (.int .i64 id) := by
    rw [(below_one w (.cells #[.int .i64 x1, .int .i64 x2] 180)).cell (p := ⟨B, 0, none⟩) (lt_of_cell h0)]; exact h0
  have BO := Lib.hid (below_one w (.cells #[.int .i64 x1, .int .i64 x2] 180))
  go_enter Tryz.func109, Tryz.ntmps109
  go_wp2_with fail
  go_ret
  exact ⟨rfl, BO.out⟩
set_option maxHeartbeats 1600000 in
theorem indexT_any (B : Nat) (a : Option Addr) (c : Nat) (L : List TM) (id : Int) (w : World) (h : OwnT w a c L) (hn : L.length ≤ 1000) (h0 : w.cell? ⟨B, 0, none⟩ = some (.int .i64 id)) :
    Calls Tryz.prog 108 #[.slice a L.length c, .func (.func 109) #[] #[.pointer (some ⟨B, 0, none⟩)]] w fun e w' => ∃ v, e = .returned (.int .i64 v) ∧ FindT L id v ∧ Below w.heap.size w w' := by
  have HO := Lib.hid h
  have BK := Lib.hid (fun (w3 : World) (hb : Below w.heap.size w w3) => show w3.cell? ⟨B, 0, none⟩ = some (.int .i64 id) from (hb.cell (p := ⟨B, 0, none⟩) (lt_of_cell h0)).trans h0)
  obtain ⟨n, hl⟩ : ∃ n, L.length = n := ⟨_, rfl⟩
  have HL := Lib.hid hl
  rw [hl] at hn
  rw [hl]
  clear h h0 hl
  go_enter Tryz.func108, Tryz.ntmps108
  go_wp2_with fail
  go_loopw [8] (fun iv wr => ∃ j : Nat, j ≤ n ∧ iv = .int .i64 j ∧ Hid (∀ k, k < j → (gT L k).id ≠ id) ∧ Hid (Below w.heap.size w wr)) (fun iv _ => n - (intOf iv).toNat)
  case atStart => exact ⟨0, by omega, rfl, Lib.hid (fun k hk => by omega), Lib.hid (Below.refl _ _)⟩
  case round =>
    obtain ⟨j, hj, rfl, hS, hB⟩ := hrel
    by_cases hlt : j < n
    · obtain ⟨q, rfl, e1, e2⟩ := (show OwnT wr a c L from owns_below HO.out hB.out).at (i := j) (by rw [HL.out]; exact hlt)
      have CL := Lib.hid (findC_any B id (gT L j) wr (BK.out _ hB.out))
      obtain ⟨x, hx⟩ : ∃ x, gT L j = x := ⟨_, rfl⟩
      rw [hx] at e1 e2 CL
      have HX := Lib.hid hx
      have n1 : (0 : Int) ≤ (j : Int) := by omega
      have n2 : (j : Int) < (n : Int) := by omega
      clear hx
      by_cases hp : x.id = id
      · have hb : (x.id == id) = true := by simpa using hp
        rw [hb] at CL
        have FV := Lib.hid (show FindT L id (j : Int) from Or.inl ⟨j, by rw [HL.out]; exact hlt, rfl, by rw [HX.out]; exact hp⟩)
        clear hp hb
        go_wp2_with fail
        with_reducible refine CL.out.mono ?_
        rintro e w2 ⟨rfl, hb2⟩
        go_wp2_with fail
        go_ret
        exact ⟨_, rfl, FV.out, hB.out.trans (hb2.mono hB.out.size)⟩
      · have hb : (x.id == id) = false := by simpa using hp
        rw [hb] at CL
        have SN := Lib.hid (show ∀ k, k < j + 1 → (gT L k).id ≠ id from fun k hk => by
          rcases Nat.lt_or_ge k j with h | h
          · exact hS.out k h
          · obtain rfl : k = j := by omega
            rw [HX.out]; exact hp)
        clear hp hb
        go_wp2_with fail
        with_reducible refine CL.out.mono ?_
        rintro e w2 ⟨rfl, hb2⟩
        go_wp2_with fail
        go_roundw
        case rel => exact ⟨j + 1, by omega, by go_num, SN, Lib.hid (hB.out.trans (hb2.mono hB.out.size))⟩
        case measure => simp [intOf] <;> omega
    · have FV := Lib.hid (show FindT L id (-1) from Or.inr ⟨rfl, fun x hx => by
        obtain ⟨k, hk, rfl⟩ := List.getElem_of_mem hx
        have h1 := hS.out k (by have := HL.out; omega)
        simpa [gT, List.getD_eq_getElem?_getD, List.getElem?_eq_getElem hk] using h1⟩)
      go_wp2_with fail
      go_ret
      exact ⟨_, rfl, FV.out, hB.out⟩
theorem tFind_any (p : Nat) (E : Nat → Option Value) (na : Option Addr) (nc : Nat) (L : List TM) (id : Int) (w : World) (h : PMid w p 1 E na nc L) (hn : L.length ≤ 1000) :
    Calls Tryz.prog 86 #[.pointer (some ⟨p, 0, none⟩), .int .i64 id] w fun e w' => ∃ v, e = .returned (.int .i64 v) ∧ FindT L id v ∧ Below w.heap.size w w' := by
  have B1 := Lib.hid (below_one w (.cells #[.int .i64 id] 3))
  have c0 : (w.alloc (.cells #[.int .i64 id] 3)).cell? ⟨p, 1, none⟩ = some (.slice na L.length nc) := (cell_alloc_old h.lt).trans h.c
  have CI := Lib.hid (indexT_any w.heap.size na nc L id (w.alloc (.cells #[.int .i64 id] 3)) (owns_below h.r B1.out) hn (by rw [cell_alloc rfl]; rfl))
  clear h
  go_enter Tryz.func86, Tryz.ntmps86
  go_wp2_with fail
  with_reducible refine CI.out.mono ?_
  rintro e w2 ⟨v, rfl, hF, hb⟩
  have FV := Lib.hid hF
  have B2 := Lib.hid (B1.out.trans (hb.mono B1.out.size))
  clear hF hb
  go_wp2_with fail
  go_ret
  exact ⟨v, rfl, FV.out, B2.out⟩
end Go.Proofs.YtblipdmagfiigaaGreat
namespace Go.Proofs.YtblipdmagfiigaaGreat
open Go.RowKit
set_option linter.unusedVariables false
set_option maxRecDepth 20000
theorem inT_any (n lo hi : Int) (w : World) :
    Calls Tryz.prog 49 #[.int .i64 n, .int .i64 lo, .int .i64 hi] w fun e w' => e = .returned (.bool (decide (lo ≤ n ∧ n ≤ hi))) ∧ w = w' := by
  have hd : decide (lo ≤ n ∧ n ≤ hi) = (decide (lo ≤ n) && decide (n ≤ hi)) := by simp
  rw [hd]
  obtain ⟨x, hx⟩ : ∃ x, decide (lo ≤ n) = x := ⟨_, rfl⟩
  obtain ⟨y, hy⟩ : ∃ y, decide (n ≤ hi) = y := ⟨_, rfl⟩
  have hx2 : decide (n ≥ lo) = x := hx
  rw [hx, hy]
  cases x <;> cases y
  all_goals
    go_enter Tryz.func49, Tryz.ntmps49
    go_wp2_with fail
    go_ret
    exact ⟨by first | rfl | simp_all, rfl⟩
def Et (most : Int) : Nat → Option Value := fun k => if k = 0 then some (.int .i64 most) else none
/-- block b is a set of these timers, in whatever order -/
def TQ (b : Nat) (most : Int) (M : List TM) (w : World) (S : Nat → Prop) : Prop := ∃ na nc L, PMid w b 1 (Et most) na nc L ∧ L.Perm M ∧ HeapT L.length L ∧ (M.map TM.id).Nodup ∧ M.length ≤ 24 ∧ S b ∧ (∀ q, na = some ⟨q, 0, none⟩ → S q) ∧ ∀ k, S k → k < w.heap.size
theorem tq_ok (b : Nat) (most : Int) (M : List TM) : ObjOk (TQ b most M) :=
  ⟨fun h t hF => by
    obtain ⟨na, nc, L, hP, h1, h2, h3, h4, h5, h6, h7⟩ := h
    exact ⟨na, nc, L, hP.far t (hF b h5) (fun q hq => hF q (h6 q hq)), h1, h2, h3, h4, h5, h6, fun k hk => Nat.lt_of_lt_of_le (h7 k hk) t.size⟩,
   fun h => by obtain ⟨na, nc, L, hP, h1, h2, h3, h4, h5, h6, h7⟩ := h; exact h7⟩
/-- what turned lies in the set's blocks -/
theorem tq_after {b : Nat} {most : Int} {M' : List TM} {w w' : World} {S : Nat → Prop} {na na' : Option Addr} {nc' : Nat} {L' : List TM} (h5 : S b) (h6 : ∀ q, na = some ⟨q, 0, none⟩ → S q) (h7 : ∀ k, S k → k < w.heap.size)
    (hP : PMid w' b 1 (Et most) na' nc' L') (hp : L'.Perm M') (hH : HeapT L'.length L') (hN : (M'.map TM.id).Nodup) (hl : M'.length ≤ 24) (ht : Turn (PRow b na) w w') (hq : ∀ q, na' = some ⟨q, 0, none⟩ → na = some ⟨q, 0, none⟩ ∨ w.heap.size ≤ q) : PO (TQ b most M') w S w' :=
  ⟨fun k => S k ∨ na' = some ⟨k, 0, none⟩, ⟨na', nc', L', hP, hp, hH, hN, hl, Or.inl h5, fun q e => Or.inr e, fun k hk => by
    rcases hk with hk | hk
    · exact Nat.lt_of_lt_of_le (h7 k hk) ht.size
    · exact (hP.r.lt k (by rw [hk]; rfl)).2⟩, fun k hk => by
    rcases hk with hk | hk
    · exact Or.inl hk
    · rcases hq k hk with e | e
      · exact Or.inl (h6 k e)
      · exact Or.inr e, ht.mono (fun k hk => by
    rcases hk with rfl | e
    · exact h5
    · exact h6 k e)⟩
def updT (M : List TM) (id at_ : Int) : List TM := M.map (fun x => if x.id = id then ⟨id, at_⟩ else x)
theorem upd_ids (M : List TM) (id a : Int) : (updT M id a).map TM.id = M.map TM.id := by
  unfold updT
  rw [List.map_map]
  refine List.map_congr_left fun x _ => ?_
  show (if x.id = id then (⟨id, a⟩ : TM) else x).id = x.id
  split
  · rename_i h; exact h.symm
  · rfl
theorem upd_set {L : List TM} {id a : Int} {i : Nat} (hn : (L.map TM.id).Nodup) (hi : i < L.length) (hid : (gT L i).id = id) : L.set i ⟨id, a⟩ = updT L id a := by
  unfold updT
  apply List.ext_getElem
  · simp
  · intro k h1 h2
    rw [List.getElem_set, List.getElem_map]
    have hk : k < L.length := by simpa using h1
    have e : gT L i = L[i] := by simp [gT, List.getD_eq_getElem?_getD, hi]
    by_cases h : i = k
    · subst h
      rw [if_pos rfl, if_pos (by rw [← e]; exact hid)]
    · rw [if_neg h, if_neg (fun h3 => h ?_)]
      have h4 := (List.pairwise_iff_getElem.1 hn)
      rcases Nat.lt_or_gt_of_ne h with hlt | hlt
      · exact absurd (by rw [List.getElem_map, List.getElem_map, h3, ← e]; exact hid) (h4 i k (by simpa using hi) (by simpa using hk) hlt)
      · exact absurd (by rw [List.getElem_map, List.getElem_map, h3, ← e]; exact hid.symm) (h4 k i (by simpa using hk) (by simpa using hi) hlt)
theorem tmV_put : ∀ (L : List TM) (i : Nat) (a : Int), i < L.length → (tmV L).set (i * 2 + 1) (.int .i64 a) = tmV (L.set i ⟨(gT L i).id, a⟩)
  | [], i, _, h => by simp at h
  | x :: l, 0, a, _ => by simp [tmV]
  | x :: l, i + 1, a, h => by
    have ih := tmV_put l i a (by simpa using h)
    have e1 : (i + 1) * 2 + 1 = i * 2 + 1 + 1 + 1 := by omega
    rw [e1]
    simp only [tmV, List.set_cons_succ]
    rw [ih]
    simp
theorem store1T {w : World} {q c k : Nat} {L : List TM} {id a : Int} (h : OwnT w (some ⟨q, 0, none⟩) c L) (hk : k < L.length) (hid : (gT L k).id = id) :
    OwnT (w.setCell ⟨q, k * 2 + 1, none⟩ (.int .i64 a)) (some ⟨q, 0, none⟩) c (L.set k ⟨id, a⟩) := by
  have own := (h.stored (k * 2 + 1) (.int .i64 a)).1
  rw [tmV_put L k a hk, hid] at own
  unfold OwnT
  rw [List.length_set]
  exact own
def goodT (id a : Int) : Prop := 0 ≤ id ∧ 0 ≤ a ∧ a ≤ 1099511627776
instance (id a : Int) : Decidable (goodT id a) := by unfold goodT; infer_instance
def setV (most : Int) (M : List TM) (id a : Int) : Int := if ¬ goodT id a then 2 else if id ∈ M.map TM.id then 0 else if most ≤ (M.length : Int) then 3 else 0
def setM (most : Int) (M : List TM) (id a : Int) : List TM := if ¬ goodT id a then M else if id ∈ M.map TM.id then updT M id a else if most ≤ (M.length : Int) then M else M ++ [⟨id, a⟩]
theorem find_mem {L M : List TM} {id v : Int} (hp : L.Perm M) (h : FindT L id v) : (∃ i : Nat, i < L.length ∧ v = (i : Int) ∧ (gT L i).id = id ∧ id ∈ M.map TM.id) ∨ (v = -1 ∧ id ∉ M.map TM.id) := by
  rcases h with ⟨i, h1, h2, h3⟩ | ⟨h1, h2⟩
  · refine Or.inl ⟨i, h1, h2, h3, ?_⟩
    rw [← h3]
    exact List.mem_map_of_mem (hp.mem_iff.1 (by simp [gT, List.getD_eq_getElem?_getD, h1]))
  · refine Or.inr ⟨h1, fun hm => ?_⟩
    obtain ⟨x, hx, e⟩ := List.mem_map.1 hm
    exact h2 x (hp.mem_iff.2 hx) e
set_option maxHeartbeats 3200000 in
theorem tSet_any (b : Nat) (most : Int) (M : List TM) (id a : Int) (S : Nat → Prop) (w : World) (h : TQ b most M w S) (hm : most ≤ 24) :
    Calls Tryz.prog 72 #[.pointer (some ⟨b, 0, none⟩), .int .i64 id, .int .i64 a] w fun e w' => e = .returned (.int .i64 (setV most M id a)) ∧ PO (TQ b most (setM most M id a)) w S w' := by
  obtain ⟨na, nc, L, hP, hp, hH, hN, hl, h5, h6, h7⟩ := h
  have HQ := Lib.hid (show TQ b most M w S from ⟨na, nc, L, hP, hp, hH, hN, hl, h5, h6, h7⟩)
  by_cases hg : goodT id a
  · have d1 : decide (id < 0) = false := decide_eq_false (by have := hg.1; omega)
    have d2 : decide ((0 : Int) ≤ a ∧ a ≤ 1099511627776) = true := decide_eq_true ⟨hg.2.1, hg.2.2⟩
    have hll : L.length ≤ 24 := by rw [hp.length_eq]; exact hl
    have CF := Lib.hid (tFind_any b (Et most) na nc L id w hP (by omega))
    have HP := Lib.hid hP; have H1 := Lib.hid hp; have H2 := Lib.hid hH; have H3 := Lib.hid hN; have H5 := Lib.hid h5; have H6 := Lib.hid h6; have H7 := Lib.hid h7
    have HG := Lib.hid hg
    clear hP hp hH hN h5 h6 h7 hg
    go_enter Tryz.func72, Tryz.ntmps72
    go_wp2_with fail
    with_reducible refine (inT_any a 0 1099511627776 w).mono ?_
    rintro e w1 ⟨rfl, rfl⟩
    rw [d2]
    go_wp2_with fail
    with_reducible refine CF.out.mono ?_
    rintro e w1 ⟨v, rfl, hF, hb⟩
    have P1 := Lib.hid (HP.out.more hb)
    have B1 := Lib.hid hb
    rcases find_mem H1.out hF with ⟨i, hi, rfl, hid, hmem⟩ | ⟨rfl, hmem⟩
    · have EV := Lib.hid (show setV most M id a = 0 from by unfold setV; rw [if_neg (fun h => h HG.out), if_pos hmem])
      have EM := Lib.hid (show setM most M id a = updT M id a from by unfold setM; rw [if_neg (fun h => h HG.out), if_pos hmem])
      have d3 : decide ((i : Int) ≥ 0) = true := decide_eq_true (by omega)
      have d4 : decide ((0 : Int) ≤ (i : Int)) = true := decide_eq_true (by omega)
      have i1 : (0 : Int) ≤ (i : Int) := by omega
      have i2 : (i : Int) < (L.length : Int) := by omega
      obtain ⟨q, rfl, e0, e1⟩ := P1.out.r.at hi
      have c1 := P1.out.c
      have f1 := P1.out.r.frozenAt (i * 2 + 1)
      have own := store1T (a := a) P1.out.r hi hid
      have tr : Turn (Row (some ⟨q, 0, none⟩)) w1 (w1.setCell ⟨q, i * 2 + 1, none⟩ (.int .i64 a)) := Turn.setCell rfl
      have P2 := Lib.hid (P1.out.rows tr (List.length_set ..) own)
      have T2 := Lib.hid ((Turn.of_below (F := PRow b (some ⟨q, 0, none⟩)) B1.out).trans (PRow.of tr))
      have CX := hFix_any b 1 (Et most) (some ⟨q, 0, none⟩) nc (L.set i ⟨id, a⟩) i (w1.setCell ⟨q, i * 2 + 1, none⟩ (.int .i64 a)) P2.out (by rw [List.length_set]; exact down_set hi H2.out) (by rw [List.length_set]; exact hi) (by rw [List.length_set]; omega)
      have CX1 := Lib.hid CX
      have HU := Lib.hid (show L.set i ⟨id, a⟩ = updT L id a from upd_set ((H1.out.map TM.id).nodup_iff.2 H3.out) hi hid)
      clear hb hF hid hmem own tr CX
      go_wp2_with fail
      with_reducible refine CX1.out.mono ?_
      rintro e w3 ⟨rfl, L', hP', hp', hH', hT'⟩
      have FIN := Lib.hid (show PO (TQ b most (updT M id a)) w S w3 from tq_after H5.out H6.out H7.out hP' (hp'.trans (by rw [HU.out]; exact H1.out.map _)) hH' (by rw [upd_ids]; exact H3.out) (by unfold updT; rw [List.length_map]; exact hl) (T2.out.trans hT') (fun q e => Or.inl e))
      clear hP' hp' hH' hT'
      go_wp2_with fail
      go_ret
      rw [EV.out, EM.out]
      exact ⟨rfl, FIN.out⟩
    · have d3 : decide (((-1 : Int)) ≥ 0) = false := by decide
      have ll : L.length = M.length := H1.out.length_eq
      have c1 := P1.out.c
      have cm : w1.cell? ⟨b, 0, none⟩ = some (.int .i64 most) := P1.out.e 0 (by omega)
      by_cases hf : most ≤ (M.length : Int)
      · have EV := Lib.hid (show setV most M id a = 3 from by unfold setV; rw [if_neg (fun h => h HG.out), if_neg hmem, if_pos hf])
        have EM := Lib.hid (show setM most M id a = M from by unfold setM; rw [if_neg (fun h => h HG.out), if_neg hmem, if_pos hf])
        have d4 : decide ((L.length : Int) ≥ most) = true := decide_eq_true (by omega)
        have d5 : decide (most ≤ (L.length : Int)) = true := decide_eq_true (by omega)
        have FIN := Lib.hid (show PO (TQ b most M) w S w1.drew from ⟨S, (tq_ok b most M).below HQ.out (B1.out.trans ((Below.refl _ _).drew.mono B1.out.size)), fun k hk => Or.inl hk, Turn.of_below (B1.out.trans ((Below.refl _ _).drew.mono B1.out.size))⟩)
        have FIN2 := Lib.hid (fun nq => show PO (TQ b most M) w S (w1.drewN nq) from ⟨S, (tq_ok b most M).below HQ.out (B1.out.trans ((below_drewN _ _).mono B1.out.size)), fun k hk => Or.inl hk, Turn.of_below (B1.out.trans ((below_drewN _ _).mono B1.out.size))⟩)
        clear hF hmem ll hb
        go_wp2_with fail
        go_quiet (fail)
        go_wp2_with fail
        go_ret
        rw [EV.out, EM.out]
        exact ⟨rfl, FIN2.out _⟩
      · have EV := Lib.hid (show setV most M id a = 0 from by unfold setV; rw [if_neg (fun h => h HG.out), if_neg hmem, if_neg hf])
        have EM := Lib.hid (show setM most M id a = M ++ [⟨id, a⟩] from by unfold setM; rw [if_neg (fun h => h HG.out), if_neg hmem, if_neg hf])
        have d4 : decide ((L.length : Int) ≥ most) = false := decide_eq_false (by omega)
        have d5 : decide (most ≤ (L.length : Int)) = false := decide_eq_false (by omega)
        have CP := Lib.hid (fun nq => hPush_any b 1 (Et most) na nc L ⟨id, a⟩ (w1.drewN nq) (P1.out.more (below_drewN _ _)) H2.out (by omega))
        have NM := Lib.hid hmem
        have HL := Lib.hid ll
        have HF := Lib.hid (show M.length < 24 from by omega)
        clear hF hmem ll hb
        go_wp2_with fail
        go_quiet (fail)
        go_wp2_with fail
        with_reducible refine (CP.out _).mono ?_
        rintro e w3 ⟨rfl, q, nc', L', hP', hp', hH', hT', hq'⟩
        have FIN := Lib.hid (show PO (TQ b most (M ++ [⟨id, a⟩])) w S w3 from tq_after H5.out H6.out H7.out hP' (hp'.trans (H1.out.append_right _)) hH' (by
          rw [List.map_append]
          exact List.nodup_append.2 ⟨H3.out, by simp, fun x hx y hy e => by
            simp only [List.map_cons, List.map_nil, List.mem_singleton] at hy
            exact NM.out (by rw [← hy, ← e]; exact hx)⟩) (by rw [List.length_append]; have := HF.out; simp; omega) ((Turn.of_below (B1.out.trans ((below_drewN _ _).mono B1.out.size))).trans hT') (fun q2 e => by
          injection e with e; injection e with e; subst e
          rcases hq' with h | h
          · exact Or.inl h
          · exact Or.inr (Nat.le_trans B1.out.size (Nat.le_trans (below_drewN w1 _).size h))))
        clear hP' hp' hH' hT' hq'
        go_wp2_with fail
        go_ret
        rw [EV.out, EM.out]
        exact ⟨rfl, FIN.out⟩
  · have EV := Lib.hid (show setV most M id a = 2 from by unfold setV; rw [if_pos hg])
    have EM := Lib.hid (show setM most M id a = M from by unfold setM; rw [if_pos hg])
    have FIN := Lib.hid (show PO (TQ b most M) w S w from ⟨S, HQ.out, fun k hk => Or.inl hk, Turn.refl _ _⟩)
    by_cases h0 : id < 0
    · have d1 : decide (id < 0) = true := decide_eq_true h0
      clear hP hp hH hN h5 h6 h7
      go_enter Tryz.func72, Tryz.ntmps72
      go_wp2_with fail
      go_ret
      rw [EV.out, EM.out]
      exact ⟨rfl, FIN.out⟩
    · have d1 : decide (id < 0) = false := decide_eq_false h0
      have d2 : decide ((0 : Int) ≤ a ∧ a ≤ 1099511627776) = false := decide_eq_false (fun h => hg ⟨by omega, h.1, h.2⟩)
      clear hP hp hH hN h5 h6 h7
      go_enter Tryz.func72, Tryz.ntmps72
      go_wp2_with fail
      with_reducible refine (inT_any a 0 1099511627776 w).mono ?_
      rintro e w1 ⟨rfl, rfl⟩
      rw [d2]
      go_wp2_with fail
      go_ret
      rw [EV.out, EM.out]
      exact ⟨rfl, FIN.out⟩
end Go.Proofs.YtblipdmagfiigaaGreat
namespace Go.Proofs.YtblipdmagfiigaaGreat
open Go.RowKit
set_option linter.unusedVariables false
set_option maxRecDepth 20000
def cutM (M : List TM) (id : Int) : List TM := M.filter (fun x => decide (x.id ≠ id))
theorem cut_perm {L' L M : List TM} {x : TM} (hp : (L' ++ [x]).Perm L) (hl : L.Perm M) (hn : (M.map TM.id).Nodup) : L'.Perm (cutM M x.id) := by
  have h1 := (hp.trans hl).filter (fun y => decide (y.id ≠ x.id))
  have h2 : ((L' ++ [x]).map TM.id).Nodup := ((hp.trans hl).map TM.id).nodup_iff.2 hn
  rw [List.filter_append] at h1
  have h3 : [x].filter (fun y => decide (y.id ≠ x.id)) = [] := by simp
  rw [h3, List.append_nil] at h1
  have h4 : L'.filter (fun y => decide (y.id ≠ x.id)) = L' := by
    rw [List.filter_eq_self]
    intro y hy
    rw [List.map_append] at h2
    have h5 := (List.nodup_append.1 h2).2.2 y.id (List.mem_map_of_mem hy) x.id (by simp)
    simpa using h5
  rw [h4] at h1
  exact h1
theorem cut_not {M : List TM} {id : Int} (h : id ∉ M.map TM.id) : cutM M id = M := by
  unfold cutM
  rw [List.filter_eq_self]
  intro y hy
  have : y.id ≠ id := fun e => h (by rw [← e]; exact List.mem_map_of_mem hy)
  simpa using this
theorem cut_sub (M : List TM) (id : Int) (hn : (M.map TM.id).Nodup) : ((cutM M id).map TM.id).Nodup := by
  unfold cutM
  exact hn.sublist ((List.filter_sublist).map _)
set_option maxHeartbeats 1600000 in
theorem tCancel_any (b : Nat) (most : Int) (M : List TM) (id : Int) (S : Nat → Prop) (w : World) (h : TQ b most M w S) :
    Calls Tryz.prog 61 #[.pointer (some ⟨b, 0, none⟩), .int .i64 id] w fun e w' => e = .returned (.bool (decide (id ∈ M.map TM.id))) ∧ PO (TQ b most (cutM M id)) w S w' := by
  obtain ⟨na, nc, L, hP, hp, hH, hN, hl, h5, h6, h7⟩ := h
  have HQ := Lib.hid (show TQ b most M w S from ⟨na, nc, L, hP, hp, hH, hN, hl, h5, h6, h7⟩)
  have hll : L.length ≤ 24 := by rw [hp.length_eq]; exact hl
  have CF := Lib.hid (tFind_any b (Et most) na nc L id w hP (by omega))
  have HP := Lib.hid hP; have H1 := Lib.hid hp; have H2 := Lib.hid hH; have H3 := Lib.hid hN; have H5 := Lib.hid h5; have H6 := Lib.hid h6; have H7 := Lib.hid h7
  clear hP hp hH hN h5 h6 h7
  go_enter Tryz.func61, Tryz.ntmps61
  go_wp2_with fail
  with_reducible refine CF.out.mono ?_
  rintro e w1 ⟨v, rfl, hF, hb⟩
  have P1 := Lib.hid (HP.out.more hb)
  have B1 := Lib.hid hb
  rcases find_mem H1.out hF with ⟨i, hi, rfl, hid, hmem⟩ | ⟨rfl, hmem⟩
  · obtain ⟨n, hn⟩ : ∃ n, L.length = n + 1 := ⟨L.length - 1, by omega⟩
    have d3 : decide ((i : Int) < 0) = false := decide_eq_false (by omega)
    have CR := Lib.hid (hRemove_any n b 1 (Et most) na nc L i w1 P1.out H2.out hn (by omega) (by omega))
    have EV := Lib.hid (decide_eq_true hmem)
    have HI := Lib.hid hid
    clear hF hid hmem hb
    go_wp2_with fail
    with_reducible refine CR.out.mono ?_
    rintro e w3 ⟨rfl, L', hP', hp', hH', hT'⟩
    have FIN := Lib.hid (show PO (TQ b most (cutM M id)) w S w3 from by
      have h1 := cut_perm hp' H1.out H3.out
      rw [HI.out] at h1
      exact tq_after H5.out H6.out H7.out hP' h1 hH' (cut_sub M id H3.out) (Nat.le_trans (List.length_filter_le _ _) hl) ((Turn.of_below B1.out).trans hT') (fun q e => Or.inl e))
    clear hP' hp' hH' hT'
    go_wp2_with fail
    go_ret
    rw [EV.out]
    exact ⟨rfl, FIN.out⟩
  · have d3 : decide (((-1 : Int)) < 0) = true := by decide
    have EV := Lib.hid (decide_eq_false hmem)
    have FIN := Lib.hid (show PO (TQ b most (cutM M id)) w S w1 from by
      rw [cut_not hmem]
      exact ⟨S, (tq_ok b most M).below HQ.out B1.out, fun k hk => Or.inl hk, Turn.of_below B1.out⟩)
    clear hF hmem hb
    go_wp2_with fail
    go_ret
    rw [EV.out]
    exact ⟨rfl, FIN.out⟩
def AtT (M : List TM) (id v : Int) (c : Bool) : Prop := (∃ x ∈ M, x.id = id ∧ v = x.at_ ∧ c = true) ∨ ((∀ x ∈ M, x.id ≠ id) ∧ v = 0 ∧ c = false)
set_option maxHeartbeats 1600000 in
theorem tAt_any (b : Nat) (most : Int) (M : List TM) (id : Int) (S : Nat → Prop) (w : World) (h : TQ b most M w S) :
    Calls Tryz.prog 68 #[.pointer (some ⟨b, 0, none⟩), .int .i64 id] w fun e w' => ∃ v c, e = .returned (.tuple #[.int .i64 v, .bool c]) ∧ AtT M id v c ∧ Below w.heap.size w w' := by
  obtain ⟨na, nc, L, hP, hp, hH, hN, hl, h5, h6, h7⟩ := h
  have hll : L.length ≤ 24 := by rw [hp.length_eq]; exact hl
  have CF := Lib.hid (tFind_any b (Et most) na nc L id w hP (by omega))
  have HP := Lib.hid hP; have H1 := Lib.hid hp
  clear hP hp hH hN h5 h6 h7
  go_enter Tryz.func68, Tryz.ntmps68
  go_wp2_with fail
  with_reducible refine CF.out.mono ?_
  rintro e w1 ⟨v, rfl, hF, hb⟩
  have P1 := Lib.hid (HP.out.more hb)
  have B1 := Lib.hid hb
  have HF := Lib.hid hF
  rcases hF with ⟨i, hi, rfl, hid⟩ | ⟨rfl, hno⟩
  · have d3 : decide ((i : Int) < 0) = false := decide_eq_false (by omega)
    have i1 : (0 : Int) ≤ (i : Int) := by omega
    have i2 : (i : Int) < (L.length : Int) := by omega
    obtain ⟨q, rfl, e0, e1⟩ := P1.out.r.at hi
    have c1 := P1.out.c
    obtain ⟨x, hx⟩ : ∃ x, gT L i = x := ⟨_, rfl⟩
    rw [hx] at e1 e0 hid
    have AV := Lib.hid (show AtT M id x.at_ true from Or.inl ⟨x, H1.out.mem_iff.1 (by rw [← hx]; simp [gT, List.getD_eq_getElem?_getD, hi]), hid, rfl, rfl⟩)
    clear hid hx hb
    go_wp2_with fail
    go_ret2
    exact ⟨_, _, rfl, AV.out, B1.out⟩
  · have d3 : decide (((-1 : Int)) < 0) = true := by decide
    have AV := Lib.hid (show AtT M id 0 false from Or.inr ⟨fun x hx => hno x (H1.out.mem_iff.2 hx), rfl, rfl⟩)
    clear hno hb
    go_wp2_with fail
    go_ret2
    exact ⟨_, _, rfl, AV.out, B1.out⟩
theorem tLenT_any (b : Nat) (most : Int) (M : List TM) (S : Nat → Prop) (w : World) (h : TQ b most M w S) :
    Calls Tryz.prog 44 #[.pointer (some ⟨b, 0, none⟩)] w fun e w' => e = .returned (.int .i64 M.length) ∧ w = w' := by
  obtain ⟨na, nc, L, hP, hp, hH, hN, hl, h5, h6, h7⟩ := h
  have c1 := hP.c
  rw [hp.length_eq] at c1
  clear hP hp hH hN h5 h6 h7
  go_enter Tryz.func44, Tryz.ntmps44
  go_wp2_with fail
  go_ret
  exact ⟨rfl, rfl⟩
theorem tNew_any (most : Int) (w : World) (h : 1 ≤ most ∧ most ≤ 24) :
    Calls Tryz.prog 54 #[.int .i64 most] w fun e w' => ∃ b S, e = .returned (.tuple #[.pointer (some ⟨b, 0, none⟩), .int .i64 0]) ∧ TQ b most [] w' S ∧ (∀ k, S k → w.heap.size ≤ k) ∧ Below w.heap.size w w' := by
  have FIN := Lib.hid (show TQ w.heap.size most [] (w.alloc (.cells #[.int .i64 most, .slice none 0 0] 149)) (fun k => k = w.heap.size) from
    ⟨none, 0, [], ⟨by rw [cell_alloc rfl]; rfl, frozen_alloc rfl, World.ownsRow_nil _ _ _ _, fun q e => (by cases e), fun k hk => by
      rw [cell_alloc rfl]
      unfold Et
      rcases Nat.lt_or_ge k 2 with h | h
      · obtain rfl : k = 0 := by omega
        rfl
      · rw [if_neg (by omega)]
        simp; omega⟩, List.Perm.refl _, fun k k0 kn => by simp at kn, List.nodup_nil, by simp, rfl, fun q e => (by cases e), fun k hk => by rw [hk]; simp⟩)
  have B1 := Lib.hid (below_one w (.cells #[.int .i64 most, .slice none 0 0] 149))
  have d2 : decide ((1 : Int) ≤ most ∧ most ≤ 24) = true := decide_eq_true h
  clear h
  go_enter Tryz.func54, Tryz.ntmps54
  go_wp2_with fail
  with_reducible refine (inT_any most 1 24 w).mono ?_
  rintro e w1 ⟨rfl, rfl⟩
  rw [d2]
  go_wp2_with fail
  go_ret2
  exact ⟨_, _, rfl, FIN.out, fun k hk => by rw [hk]; omega, B1.out⟩
end Go.Proofs.YtblipdmagfiigaaGreat
namespace Go.Proofs.YtblipdmagfiigaaGreat
open Go.RowKit
set_option linter.unusedVariables false
set_option maxRecDepth 20000
def keysV : List KV → List Value
  | [] => []
  | k :: ks => .int .i64 k.1 :: .string k.2 :: keysV ks
theorem keysV_len : ∀ ks : List KV, (keysV ks).length = ks.length * 2
  | [] => rfl
  | k :: ks => by simp [keysV, keysV_len ks]; omega
theorem keysV_app : ∀ ks ls : List KV, keysV (ks ++ ls) = keysV ks ++ keysV ls
  | [], ls => rfl
  | k :: ks, ls => by simp [keysV, keysV_app ks ls]
theorem keysV_one : ∀ (ks : List KV), ∀ u ∈ keysV ks, u.oneCell' = true
  | [], u, h => by simp [keysV] at h
  | k :: ks, u, h => by
    simp only [keysV, List.mem_cons] at h
    rcases h with h | h | h
    · subst h; rfl
    · subst h; rfl
    · exact keysV_one ks u h
theorem keysV_at : ∀ (ks : List KV) (i : Nat), i < ks.length → (keysV ks)[i * 2]? = some (.int .i64 (ks.getD i k0).1) ∧ (keysV ks)[i * 2 + 1]? = some (.string (ks.getD i k0).2)
  | [], i, h => by simp at h
  | k :: ks, 0, _ => by simp [keysV]
  | k :: ks, i + 1, h => by
    have ih := keysV_at ks i (by simpa using h)
    have e1 : (i + 1) * 2 = i * 2 + 1 + 1 := by omega
    rw [e1]
    simpa [keysV] using ih
theorem HoldsK.cells {w : World} {b o n : Nat} {ks : List KV} (h : HoldsK w (some ⟨b, o, none⟩) n ks) : ∀ j u, (keysV ks)[j]? = some u → w.cell? ((⟨b, o, none⟩ : Addr).add j) = some u := by
  intro j u hj
  have hl := h.len
  have hjl : j < (keysV ks).length := by
    rcases Nat.lt_or_ge j (keysV ks).length with h' | h'
    · exact h'
    · rw [List.getElem?_eq_none h'] at hj; cases hj
  rw [keysV_len] at hjl
  obtain ⟨b', o', ha, hc⟩ := h.at (by omega)
  cases ha
  obtain ⟨c1, c2⟩ := hc (j / 2) (by omega)
  obtain ⟨v1, v2⟩ := keysV_at ks (j / 2) (by omega)
  rw [Go.WideShapes.add_plain]
  have hcase : j = j / 2 * 2 ∨ j = j / 2 * 2 + 1 := by omega
  rcases hcase with e | e
  · rw [← e] at v1 c1
    rw [c1, ← hj, v1]
  · have e2 : o + j / 2 * 2 + 1 = o + j := by omega
    rw [← e] at v2
    rw [e2] at c2
    rw [c2, ← hj, v2]
theorem HoldsK.own {w : World} {B : Nat} {e : TypeId} {a : Option Addr} {n c : Nat} {ks : List KV} (h : w.ownsRow B e 2 (.slice a n c) n (keysV ks)) : HoldsK w a n ks := by
  have hl : ks.length = n := by have := h.1; rw [keysV_len] at this; omega
  refine ⟨hl, fun h0 => ?_⟩
  rcases h.2 with ⟨_, h1⟩ | ⟨g, cap, cur, hv, _, hh, hc, _, hs, hx⟩
  · omega
  · simp only [Value.slice.injEq] at hv
    obtain ⟨rfl, _, rfl⟩ := hv
    refine ⟨g, 0, rfl, fun i hi => ?_⟩
    obtain ⟨v1, v2⟩ := keysV_at ks i (by omega)
    rw [← hx] at v1 v2
    rw [List.getElem?_take_of_lt (by omega)] at v1 v2
    rw [Array.getElem?_toList] at v1 v2
    rw [Nat.zero_add, Joins.cell_of_block hh, Joins.cell_of_block hh]
    exact ⟨v1, v2⟩
theorem HoldsK.cellsAny {w : World} {a : Option Addr} {n : Nat} {ks : List KV} (h : HoldsK w a n ks) {w' : World} (hg : w.grownBy w' none) : ∀ ad, a = some ad → ∀ j u, (keysV ks)[j]? = some u → w'.cell? (ad.add j) = some u := by
  intro ad ha j u hj
  have hjl : j < (keysV ks).length := (List.getElem?_eq_some_iff.1 hj).1
  rw [keysV_len] at hjl
  obtain ⟨b, o, hb, _⟩ := h.at (by have := h.len; omega)
  rw [ha] at hb
  obtain rfl := Option.some.inj hb
  subst ha
  exact hg.cell (h.cells j u hj) (by simp)
end Go.Proofs.YtblipdmagfiigaaGreat
namespace Go.Proofs.YtblipdmagfiigaaGreat
open Go.RowKit
set_option linter.unusedVariables false
set_option maxRecDepth 20000
def byteS (s : ByteArray) (i : Nat) : Nat := (s.get! i).toNat
def moreP (s : ByteArray) (i : Nat) : Prop := i < s.size ∧ 128 ≤ byteS s i ∧ byteS s i ≤ 191
instance (s : ByteArray) (i : Nat) : Decidable (moreP s i) := by unfold moreP; infer_instance
def goodP (r : Int) : Prop := 0 ≤ r ∧ r ≤ 1114111 ∧ (r < 55296 ∨ 57343 < r) ∧ r ≠ 65533
instance (r : Int) : Decidable (goodP r) := by unfold goodP; infer_instance
end Go.Proofs.YtblipdmagfiigaaGreat
namespace Go.Proofs.YtblipdmagfiigaaGreat
open Go.RowKit
set_option linter.unusedVariables false
set_option maxRecDepth 20000
theorem item_info : (Tryz.prog.info? 71).map (fun i => (i.zero, i.size, i.bytes)) = some (some (.agg #[.int .i64 0, .string ⟨#[]⟩]), 2, 24) := by kernel_rfl
/-- a new slice of these items -/
def RetI (w : World) (ys : List KV) (e : Ending) (w' : World) : Prop := ∃ a c, e = .returned (.slice a ys.length c) ∧ w'.ownsRow w.heap.size 71 2 (.slice a ys.length c) ys.length (keysV ys) ∧ Below w.heap.size w w'
theorem retI_own {w w' : World} {a : Option Addr} {c n : Nat} {ys zs : List KV} (h : ys = zs) (hn : ys.length = n) (hh : w'.ownsRow w.heap.size 71 2 (.slice a n c) n (keysV ys)) (hb : Below w.heap.size w w') (v : Value) (hv : v = .slice a n c) : RetI w zs (.returned v) w' := by
  subst h hn hv; exact ⟨a, c, rfl, hh, hb⟩
theorem keysV_snoc (ks : List KV) (k : KV) : keysV (ks ++ [k]) = keysV ks ++ [.int .i64 k.1, .string k.2] := by rw [keysV_app]; rfl
end Go.Proofs.YtblipdmagfiigaaGreat
namespace Go.Proofs.YtblipdmagfiigaaGreat
open Go.RowKit
set_option linter.unusedVariables false
set_option maxRecDepth 20000
theorem cloneI_any (a : Option Addr) (n cap : Nat) (l : List KV) (w : World) (hh : HoldsK w a n l) (hnil : a = none → n = 0 ∧ cap = 0) (hn : n ≤ 50000) :
    Calls Tryz.prog 37 #[.slice a n cap] w (RetI w l) := by
  obtain ⟨i0, hi, hz0, hz1, hz2⟩ := info_parts item_info
  have hll := hh.len
  cases a with
  | none =>
    obtain ⟨rfl, rfl⟩ := hnil rfl
    obtain rfl : l = [] := List.eq_nil_of_length_eq_zero hll
    have he := fun w => Lib.run_eql_slice_nil (P := Tryz.prog) w 24 71 none 0 0 0 0 Tryz.underlying24
    go_enter Tryz.func37, Tryz.ntmps37
    go_wp2_with fail
    go_ret
    exact retI_own rfl rfl (World.ownsRow_nil _ _ _ _) (Below.refl _ _) _ rfl
  | some ad =>
    have hnews : ∀ ad', (some ad : Option Addr) = some ad' → ∀ j u, (keysV l)[j]? = some u → (w.alloc (.cells #[] 71)).cell? (ad'.add j) = some u :=
      HoldsK.cellsAny hh (World.grownBy_alloc w _ none)
    have HN := Lib.hid hnews
    have hown : (w.alloc (.cells #[] 71)).ownsRow w.heap.size 71 2 (.slice (some ⟨w.heap.size, 0, none⟩) 0 0) 0 [] := World.ownsRow_lit w #[] 0 (Nat.le_refl _) (by unfold maxLen; omega) rfl
    have HO := Lib.hid hown
    clear hnews hown hh
    have he := fun w => Lib.run_eql_slice_nil (P := Tryz.prog) w 24 71 (some ad) n cap 0 0 Tryz.underlying24
    go_enter Tryz.func37, Tryz.ntmps37
    go_wp2_with (at_builtin; refine wpList_append_any rfl (.tmp 5) (.tmp 6) 24 rfl w.heap.size 71 i0 _ 2 24 Tryz.underlying24 hi hz0 hz1 hz2 rfl (by decide) _ 0 [] rfl HO.out _ n cap (keysV l) rfl (some_none _) (by rw [keysV_len, hll]) HN.out (keysV_one _) (by unfold maxLen; omega) (by omega) (by simp) ?_; intro a3 c3 w3 hown3 hb3 hnil3)
    rw [Nat.zero_add, List.nil_append] at hown3
    go_ret
    exact retI_own rfl hll hown3 ((below_one w (.cells #[] 71)).trans (hb3)) _ (by simp)
end Go.Proofs.YtblipdmagfiigaaGreat
namespace Go.Proofs.YtblipdmagfiigaaGreat
open Go.RowKit Go.Sort
set_option linter.unusedVariables false
set_option maxRecDepth 20000
/-- nothing has turned; blocks have been laid, and answers drawn -/
def Grows (w w' : World) : Prop := ∃ q os, w' = grow (w.drewN q) os
theorem Grows.refl (w : World) : Grows w w := ⟨0, #[], by simp [World.drewN]⟩
theorem Grows.drewN {w w' : World} (h : Grows w w') (n : Nat) : Grows w (w'.drewN n) := by
  obtain ⟨q, os, rfl⟩ := h
  refine ⟨q + n, os, ?_⟩
  simp [World.drewN, grow, Nat.add_assoc]
theorem Grows.alloc {w w' : World} (h : Grows w w') (o : Obj) : Grows w (w'.alloc o) := by
  obtain ⟨q, os, rfl⟩ := h
  exact ⟨q, os ++ #[o], by rw [alloc_eq_grow, grow_grow]⟩
theorem Grows.below {w w' : World} (h : Grows w w') : Below w.heap.size w w' := by
  obtain ⟨q, os, rfl⟩ := h
  exact ⟨rfl, rfl, rfl, by simp [grow, World.drewN], fun k hk => heap_grow_old (w.drewN q) os hk⟩
theorem Grows.trans {w w1 w2 : World} (h : Grows w w1) (k : Grows w1 w2) : Grows w w2 := by
  obtain ⟨q, os, rfl⟩ := k
  exact (h.drewN q).elim fun p ⟨os', e⟩ => ⟨p, os' ++ os, by rw [e, grow_grow]⟩
def Box4g (w0 : World) (p q : Nat) (v0 v1 v2 v3 : Value) (w : World) : Prop := Grows w0 w ∧ w.cell? ⟨p, 0, none⟩ = some v0 ∧ w.cell? ⟨p, 1, none⟩ = some v1 ∧ w.cell? ⟨q, 0, none⟩ = some v2 ∧ w.cell? ⟨q, 1, none⟩ = some v3
theorem box4g_carry {w0 w w' : World} {p q : Nat} {v0 v1 v2 v3 : Value} (h : Box4g w0 p q v0 v1 v2 v3 w) (hb : Grows w w') : Box4g w0 p q v0 v1 v2 v3 w' :=
  have hb' := hb.below
  ⟨h.1.trans hb, by rw [hb'.cell (p := ⟨p, 0, none⟩) (lt_of_cell h.2.1)]; exact h.2.1, by rw [hb'.cell (p := ⟨p, 1, none⟩) (lt_of_cell h.2.1)]; exact h.2.2.1, by rw [hb'.cell (p := ⟨q, 0, none⟩) (lt_of_cell h.2.2.2.1)]; exact h.2.2.2.1, by rw [hb'.cell (p := ⟨q, 1, none⟩) (lt_of_cell h.2.2.2.1)]; exact h.2.2.2.2⟩
set_option maxHeartbeats 3200000 in
theorem iorder_grows (a b : KV) (w : World) :
    Calls Tryz.prog 122 #[keyV a, keyV b] w fun e w' => e = .returned (.int .i64 (ordK a b)) ∧ Grows w w' := by
  obtain ⟨a1, a2⟩ := a
  obtain ⟨b1, b2⟩ := b
  have hv := ordK_or (a1, a2) (b1, b2)
  obtain ⟨v, hv2⟩ : ∃ v, ordK (a1, a2) (b1, b2) = v := ⟨_, rfl⟩
  rw [hv2] at hv ⊢
  simp only at hv
  unfold keyV
  simp only
  have C1 := Lib.hid (fun w => compareZ_any a1 b1 w)
  have C2 := Lib.hid (fun w => compare_any a2 b2 w)
  obtain ⟨x, hx⟩ : ∃ x, cmpZ a1 b1 = x := ⟨_, rfl⟩
  obtain ⟨y, hy⟩ : ∃ y, cmpS a2 b2 = y := ⟨_, rfl⟩
  rw [hx] at C1 hv; rw [hy] at C2 hv
  have HV := Lib.hid hv
  clear hv hv2 hx hy
  go_enter Tryz.func122, Tryz.ntmps122
  go_upto_region 1 with fail
  have e0 : ((w.alloc (.cells #[.int .i64 a1, .string a2] 71)).alloc (.cells #[.int .i64 b1, .string b2] 71)).cell? ⟨w.heap.size, 0, none⟩ = some (.int .i64 a1) := by simp
  have e1 : ((w.alloc (.cells #[.int .i64 a1, .string a2] 71)).alloc (.cells #[.int .i64 b1, .string b2] 71)).cell? ⟨w.heap.size, 1, none⟩ = some (.string a2) := by simp
  have e2 : ((w.alloc (.cells #[.int .i64 a1, .string a2] 71)).alloc (.cells #[.int .i64 b1, .string b2] 71)).cell? ⟨w.heap.size + 1, 0, none⟩ = some (.int .i64 b1) := by simp
  have e3 : ((w.alloc (.cells #[.int .i64 a1, .string a2] 71)).alloc (.cells #[.int .i64 b1, .string b2] 71)).cell? ⟨w.heap.size + 1, 1, none⟩ = some (.string b2) := by simp
  have BB := Lib.hid (((Grows.refl w).alloc (.cells #[.int .i64 a1, .string a2] 71)).alloc (.cells #[.int .i64 b1, .string b2] 71))
  generalize (w.alloc (.cells #[.int .i64 a1, .string a2] 71)).alloc (.cells #[.int .i64 b1, .string b2] 71) = w1 at *
  obtain ⟨q, hq⟩ : ∃ q, w.heap.size + 1 = q := ⟨_, rfl⟩
  rw [hq] at e2 e3 ⊢
  have T := Lib.hid (show Box4g w1 w.heap.size q (.int .i64 a1) (.string a2) (.int .i64 b1) (.string b2) w1 from ⟨Grows.refl _, e0, e1, e2, e3⟩)
  clear e0 e1 e2 e3 hq
  go_region_held3 (fun w' => Grows w1 w' ∧ w'.cell? ⟨w.heap.size, 0, none⟩ = some (.int .i64 a1) ∧ w'.cell? ⟨w.heap.size, 1, none⟩ = some (.string a2) ∧ w'.cell? ⟨q, 0, none⟩ = some (.int .i64 b1) ∧ w'.cell? ⟨q, 1, none⟩ = some (.string b2))
    (first | assumption | exact box4g_carry T.out ((Grows.refl _).drewN _) | exact box4g_carry T.out (Grows.refl _).drew | exact box4g_carry (by assumption) ((Grows.refl _).alloc _) | exact box4g_carry (by assumption) (by assumption))
    (first
      | (go_at_call 121; refine (C1.out _).mono ?_; rintro e w' ⟨rfl, rfl⟩)
      | (go_at_call 76; refine (C2.out _).mono ?_; rintro e w' ⟨rfl, rfl⟩)
      | (go_at_call 120; refine (or_any _ _ x y _ (by simp) (by simp)).mono ?_; rintro e w' ⟨rfl, rfl⟩))
  rename_i T5
  obtain ⟨hb5, -⟩ := T5
  go_wp2_with fail
  go_ret
  exact ⟨ret_int HV.out.symm, BB.out.trans hb5⟩
theorem iorder_any (a b : KV) (w : World) :
    Calls Tryz.prog 122 #[keyV a, keyV b] w fun e w' => e = .returned (.int .i64 (ordK a b)) ∧ Below w.heap.size w w' :=
  (iorder_grows a b w).mono fun _ _ h => ⟨h.1, h.2.below⟩
theorem iless_any (a b : KV) (w : World) :
    Calls Tryz.prog 104 #[keyV a, keyV b] w fun e w' => e = .returned (.bool (lessK a b)) ∧ Below w.heap.size w w' := by
  obtain ⟨v, hv⟩ : ∃ v, ordK a b = v := ⟨_, rfl⟩
  have hl : lessK a b = decide (v < 0) := by unfold lessK; rw [hv]
  have O := Lib.hid (fun w => iorder_any a b w)
  rw [hv] at O
  rw [hl]
  clear hl hv
  obtain ⟨a1, a2⟩ := a
  obtain ⟨b1, b2⟩ := b
  unfold keyV at *
  simp only at *
  go_enter Tryz.func104, Tryz.ntmps104
  go_wp2_with fail
  refine (O.out _).mono ?_
  rintro e w' ⟨rfl, hb⟩
  go_wp2_with fail
  go_ret
  exact ⟨rfl, (((Below.refl _ _).alloc (Nat.le_refl _) _).alloc (by simp) _).trans (hb.mono (by simp; omega))⟩
theorem iless_lit (a b : KV) (c : Bool) (w : World) (h : lessK a b = c) :
    Calls Tryz.prog 104 #[keyV a, keyV b] w fun e w' => e = .returned (.bool c) ∧ Below w.heap.size w w' := by subst h; exact iless_any a b w
end Go.Proofs.YtblipdmagfiigaaGreat
namespace Go.Proofs.YtblipdmagfiigaaGreat
open Go.RowKit
set_option linter.unusedVariables false
set_option maxRecDepth 20000
theorem step_append_some {P : Program} {w : World} {ops : Array Oper} {o : Oper} {a : Act} {K : Act → World → Prop} {Q : Exit → Act → World → Prop} {E : Prop} (hgd : o.guard = none) (s x : Operand) (t : TypeId)
    (ho : o.op = .call { callee := .builtin .append, args := #[s, x], argTypes := #[t, t] })
    (base : Nat) (e : TypeId) (i : TypeInfo) (z : Value) (size bytes : Nat) (ht : P.underlying t = some (.slice e)) (hi : P.info? e = some i) (hz : i.zero = some z)
    (hsize : i.size = size) (hby : i.bytes = bytes) (hzs : z.cells.size = size) (hsz : 0 < size)
    (v : Value) (n : Nat) (xs : List Value) (hs : a.eval s = v) (hown : w.ownsRow base e size v n xs)
    (ad : Addr) (m c : Nat) (news : List Value) (hx : a.eval x = .slice (some ad) m c) (hl : news.length = m * size)
    (hnews : ∀ j u, news[j]? = some u → w.cell? (ad.add j) = some u) (h1 : ∀ u ∈ news, u.oneCell' = true)
    (h63 : n + m ≤ maxLen) (hbytes : (n + m) * bytes ≤ 140737488355328) (hbase : base ≤ w.heap.size) (r : Nat) (ys : List Value) (hr : n + m = r) (hy : xs ++ news = ys)
    (h : ∀ a' c' w', w'.ownsRow base e size (.slice a' r c') r ys → Below base w w' → (a' = none → r = 0 ∧ c' = 0) → K (a.put o.dst (.slice a' r c')) w') :
    if Region.wanted o (yielded ops a.tmps) = true then Oper.wp P o a w K Q else E := by
  have hw : Region.wanted o (yielded ops a.tmps) = true := by simp [Region.wanted, hgd]
  rw [if_pos hw]
  subst hr hy
  refine wp_append_own w s x t ho base e i z size bytes ht hi hz hsize hby hzs hsz v n xs hs hown ad m c news hx hl hnews h1 h63 hbytes hbase fun v' w' h2 h3 _ => ?_
  have hb' := (Below.refl base w).grown h3 hbase fun k hk => (hown.lt k hk).1
  rcases Joins.ownsRow_forms h2 with ⟨rfl, h0⟩ | ⟨g, cap, rfl⟩
  · have := h none 0 w' (by rw [h0] at h2 ⊢; exact h2) hb' (fun _ => ⟨h0, rfl⟩)
    rw [h0] at this
    exact this
  · exact h _ _ w' h2 hb' (fun h => by cases h)
end Go.Proofs.YtblipdmagfiigaaGreat
namespace Go.Proofs.YtblipdmagfiigaaGreat
open Go.RowKit
set_option linter.unusedVariables false
set_option maxRecDepth 20000
def lowV (x n : Int) : Int := IntKind.u64.wrap x % n
theorem low_bd (x n : Int) (h : 0 < n) : 0 ≤ lowV x n ∧ lowV x n < n := ⟨Int.emod_nonneg _ (by omega), Int.emod_lt_of_pos _ h⟩
theorem u64_in (n : Int) (h : 0 ≤ n) (h2 : n < 18446744073709551616) : IntKind.u64.wrap n = n := by
  simp only [IntKind.wrap, IntKind.signed, IntKind.bits]; simp; omega
theorem u64_bdL (d : Int) : 0 ≤ IntKind.u64.wrap d ∧ IntKind.u64.wrap d < 18446744073709551616 := by
  simp only [IntKind.wrap, IntKind.signed, IntKind.bits]; simp; omega
theorem low_any (x n : Int) (h : 1 ≤ n) (h2 : n < 4611686018427387904) (w : World) :
    Calls Tryz.prog 23 #[.int .i64 x, .int .i64 n] w fun e w' => e = .returned (.int .i64 (lowV x n)) ∧ w = w' := by
  have hb := low_bd x n (by omega)
  have hw := u64_in n (by omega) (by omega)
  have hx := u64_bdL x
  go_enter Tryz.func23, Tryz.ntmps23
  go_wp2
  go_ret
  exact ⟨ret_int (by unfold lowV at *; rw [IntWalk.wrap64_in _ ⟨by omega, by omega⟩]), rfl⟩
end Go.Proofs.YtblipdmagfiigaaGreat
namespace Go.Proofs.YtblipdmagfiigaaGreat
open Go.RowKit
set_option linter.unusedVariables false
set_option maxRecDepth 20000
/-- what is known of a shard, and where its items that wait lie -/
structure SM where
  least : Int
  ended : Bool
  seq : Int
  rcv : Bool
  last : KV
  wa : Option Addr
  wn : Nat
  wc : Nat
  wait : List KV
def sm0 : SM := ⟨0, false, 0, false, k0, none, 0, 0, []⟩
def smV : List SM → List Value
  | [] => []
  | x :: l => .int .i64 x.least :: .bool x.ended :: .int .i64 x.seq :: .bool x.rcv :: .int .i64 x.last.1 :: .string x.last.2 :: .slice x.wa x.wn x.wc :: smV l
theorem smV_len : ∀ l : List SM, (smV l).length = l.length * 7
  | [] => rfl
  | x :: l => by simp [smV, smV_len l]; omega
theorem smV_app : ∀ k l : List SM, smV (k ++ l) = smV k ++ smV l
  | [], l => rfl
  | x :: k, l => by simp [smV, smV_app k l]
theorem smV_at : ∀ (l : List SM) (i : Nat), i < l.length → (smV l)[i * 7]? = some (.int .i64 (l.getD i sm0).least) ∧ (smV l)[i * 7 + 1]? = some (.bool (l.getD i sm0).ended) ∧ (smV l)[i * 7 + 2]? = some (.int .i64 (l.getD i sm0).seq) ∧ (smV l)[i * 7 + 3]? = some (.bool (l.getD i sm0).rcv) ∧ (smV l)[i * 7 + 4]? = some (.int .i64 (l.getD i sm0).last.1) ∧ (smV l)[i * 7 + 5]? = some (.string (l.getD i sm0).last.2) ∧ (smV l)[i * 7 + 6]? = some (.slice (l.getD i sm0).wa (l.getD i sm0).wn (l.getD i sm0).wc)
  | [], i, h => by simp at h
  | x :: l, 0, _ => by simp [smV]
  | x :: l, i + 1, h => by
    have ih := smV_at l i (by simpa using h)
    have e1 : (i + 1) * 7 = i * 7 + 1 + 1 + 1 + 1 + 1 + 1 + 1 := by omega
    rw [e1]
    simpa [smV] using ih
/-- a shard at o of block p -/
def SmAt (w : World) (p o : Nat) (x : SM) : Prop := w.cell? ⟨p, o, none⟩ = some (.int .i64 x.least) ∧ w.cell? ⟨p, o + 1, none⟩ = some (.bool x.ended) ∧ w.cell? ⟨p, o + 2, none⟩ = some (.int .i64 x.seq) ∧ w.cell? ⟨p, o + 3, none⟩ = some (.bool x.rcv) ∧ w.cell? ⟨p, o + 4, none⟩ = some (.int .i64 x.last.1) ∧ w.cell? ⟨p, o + 5, none⟩ = some (.string x.last.2) ∧ w.cell? ⟨p, o + 6, none⟩ = some (.slice x.wa x.wn x.wc)
theorem SmAt.of {w w' : World} {p o : Nat} {x : SM} (h : SmAt w p o x) (e : ∀ i, w'.cell? ⟨p, i, none⟩ = w.cell? ⟨p, i, none⟩) : SmAt w' p o x := by
  unfold SmAt at *
  rw [e, e, e, e, e, e, e]; exact h
theorem SmAt.below {w w' : World} {p o : Nat} {x : SM} (h : SmAt w p o x) (hb : Below w.heap.size w w') : SmAt w' p o x := h.of fun i => hb.cell (p := ⟨p, i, none⟩) (lt_of_cell h.1)
theorem smAt_new (w : World) (x : SM) (p : Nat) (e : TypeId) (fr : Nat × Nat) (hp : p = w.heap.size) : SmAt (w.alloc (.cells #[.int .i64 x.least, .bool x.ended, .int .i64 x.seq, .bool x.rcv, .int .i64 x.last.1, .string x.last.2, .slice x.wa x.wn x.wc] e fr)) p 0 x := by
  subst hp
  unfold SmAt
  refine ⟨?_, ?_, ?_, ?_, ?_, ?_, ?_⟩ <;> (rw [World.cell?_alloc_mark]; rfl)
def HoldsS (w : World) (a : Option Addr) (n : Nat) (L : List SM) : Prop := L.length = n ∧ (0 < n → ∃ b o, a = some ⟨b, o, none⟩ ∧ ∀ i, i < n → SmAt w b (o + i * 7) (L.getD i sm0))
theorem HoldsS.below {w w' : World} {a : Option Addr} {n : Nat} {L : List SM} (h : HoldsS w a n L) (hb : Below w.heap.size w w') : HoldsS w' a n L := by
  refine ⟨h.1, fun h0 => ?_⟩
  obtain ⟨b, o, ha, hc⟩ := h.2 h0
  exact ⟨b, o, ha, fun i hi => (hc i hi).below hb⟩
theorem holdsS_own {w : World} {base : Nat} {e : TypeId} {a : Option Addr} {n c : Nat} {L : List SM} (h : w.ownsRow base e 7 (.slice a n c) n (smV L)) : HoldsS w a n L := by
  have hl : L.length = n := by have := h.1; rw [smV_len] at this; omega
  refine ⟨hl, fun h0 => ?_⟩
  obtain ⟨g, cap', hv⟩ := Joins.ownsRow_form h (by omega)
  simp only [Value.slice.injEq] at hv
  obtain ⟨rfl, -, -⟩ := hv
  refine ⟨g, 0, rfl, fun i hi => ?_⟩
  obtain ⟨v0, v1, v2, v3, v4, v5, v6⟩ := smV_at L i (by omega)
  unfold SmAt
  simp only [Nat.zero_add]
  exact ⟨(h.cellAt (i * 7) (by omega)).trans v0, (h.cellAt (i * 7 + 1) (by omega)).trans v1, (h.cellAt (i * 7 + 2) (by omega)).trans v2, (h.cellAt (i * 7 + 3) (by omega)).trans v3, (h.cellAt (i * 7 + 4) (by omega)).trans v4, (h.cellAt (i * 7 + 5) (by omega)).trans v5, (h.cellAt (i * 7 + 6) (by omega)).trans v6⟩
theorem holdsK_blocks {w w' : World} {a : Option Addr} {n : Nat} {ks : List KV} (h : HoldsK w a n ks) (hb : ∀ b o, a = some ⟨b, o, none⟩ → w'.heap[b]? = w.heap[b]?) : HoldsK w' a n ks := by
  refine ⟨h.1, fun h0 => ?_⟩
  obtain ⟨b, o, ha, hc⟩ := h.2 h0
  refine ⟨b, o, ha, fun i hi => ?_⟩
  exact ⟨(World.cell?_of_block (w := w) (hb b o ha)).trans (hc i hi).1, (World.cell?_of_block (w := w) (hb b o ha)).trans (hc i hi).2⟩
theorem mowns_block0 {w w' : World} {base : Nat} {e : TypeId} {size : Nat} {a : Option Addr} {n c : Nat} {xs : List Value} (h : w.ownsRow base e size (.slice a n c) n xs) (hb : ∀ g, a = some ⟨g, 0, none⟩ → w'.heap[g]? = w.heap[g]?) : w'.ownsRow base e size (.slice a n c) n xs := by
  refine ⟨h.1, ?_⟩
  rcases h.2 with h1 | ⟨g, cap, cur, hv, hge, hh, r⟩
  · exact Or.inl h1
  · have hv' := hv
    simp only [Value.slice.injEq] at hv'
    exact Or.inr ⟨g, cap, cur, hv, hge, (hb g hv'.1).trans hh, r⟩
theorem mownb {a : Option Addr} {n c k : Nat} {w : World} {xs : List Value} {e : TypeId} {base size : Nat} (h : w.ownsRow base e size (.slice a n c) n xs) (hk : some k = (Value.slice a n c).ownBlock) : a = some ⟨k, 0, none⟩ := by
  rcases Joins.ownsRow_forms h with ⟨e1, _⟩ | ⟨g, cap, e1⟩
  · injection e1 with e2; subst e2; cases hk
  · injection e1 with e2; subst e2; injection hk with hk; rw [hk]
theorem mheap_far {w : World} {b o k : Nat} {v : Value} (h : k ≠ b) : (w.setCell ⟨b, o, none⟩ v).heap[k]? = w.heap[k]? := Below.heap_setCell _ _ _ _ h
/-- what waits of a shard lies in a block of its own -/
def WtIn (w : World) (S : Nat → Prop) (b : Nat) (ta ra : Option Addr) (x : SM) : Prop := HoldsK w x.wa x.wn x.wait ∧ (x.wa = none → x.wn = 0 ∧ x.wc = 0) ∧ x.wn ≤ x.wc ∧ ∀ fb fo, x.wa = some ⟨fb, fo, none⟩ → S fb ∧ fb ≠ b ∧ ta ≠ some ⟨fb, 0, none⟩ ∧ ra ≠ some ⟨fb, 0, none⟩
/-- block b is a merge: at most so many; T is told; L its shards; its blocks lie in S -/
def MMid (w : World) (b : Nat) (most : Int) (ta : Option Addr) (tc : Nat) (ra : Option Addr) (rc : Nat) (T : List KV) (L : List SM) (S : Nat → Prop) : Prop :=
  w.cell? ⟨b, 0, none⟩ = some (.int .i64 most) ∧ w.cell? ⟨b, 1, none⟩ = some (.slice ta T.length tc) ∧ w.cell? ⟨b, 2, none⟩ = some (.slice ra L.length rc) ∧ (∀ i, w.frozen? ⟨b, i, none⟩ = false) ∧
    w.ownsRow 0 71 2 (.slice ta T.length tc) T.length (keysV T) ∧ w.ownsRow 0 131 7 (.slice ra L.length rc) L.length (smV L) ∧ (∀ x ∈ L, WtIn w S b ta ra x) ∧ S b ∧ (∀ g, ta = some ⟨g, 0, none⟩ → S g ∧ g ≠ b ∧ ra ≠ some ⟨g, 0, none⟩) ∧ (∀ g, ra = some ⟨g, 0, none⟩ → S g ∧ g ≠ b) ∧ ∀ k, S k → k < w.heap.size
def MAt (w : World) (b : Nat) (most : Int) (T : List KV) (L : List SM) (S : Nat → Prop) : Prop := ∃ ta tc ra rc, MMid w b most ta tc ra rc T L S
theorem MMid.blocks {w w' : World} {b : Nat} {most : Int} {ta : Option Addr} {tc : Nat} {ra : Option Addr} {rc : Nat} {T : List KV} {L : List SM} {S : Nat → Prop} (h : MMid w b most ta tc ra rc T L S) (hs : w.heap.size ≤ w'.heap.size) (hb : ∀ k, S k → w'.heap[k]? = w.heap[k]?) : MMid w' b most ta tc ra rc T L S := by
  obtain ⟨h1, h2, h3, h4, h5, h6, h7, h8, h9, h10, h11⟩ := h
  have eb := hb b h8
  exact ⟨(World.cell?_of_block (w := w) eb).trans h1, (World.cell?_of_block (w := w) eb).trans h2, (World.cell?_of_block (w := w) eb).trans h3, fun i => (World.frozen?_of_block (w := w) eb).trans (h4 i), mowns_block0 h5 (fun g hg => hb g (h9 g hg).1), mowns_block0 h6 (fun g hg => hb g (h10 g hg).1), fun x hx => ⟨holdsK_blocks (h7 x hx).1 (fun fb fo e => hb fb ((h7 x hx).2.2.2 fb fo e).1), (h7 x hx).2⟩, h8, h9, h10, fun k hk => Nat.lt_of_lt_of_le (h11 k hk) hs⟩
theorem MAt.blocks {w w' : World} {b : Nat} {most : Int} {T : List KV} {L : List SM} {S : Nat → Prop} (h : MAt w b most T L S) (hs : w.heap.size ≤ w'.heap.size) (hb : ∀ k, S k → w'.heap[k]? = w.heap[k]?) : MAt w' b most T L S := by
  obtain ⟨ta, tc, ra, rc, h⟩ := h
  exact ⟨ta, tc, ra, rc, h.blocks hs hb⟩
theorem MAt.lt {w : World} {b : Nat} {most : Int} {T : List KV} {L : List SM} {S : Nat → Prop} (h : MAt w b most T L S) : ∀ k, S k → k < w.heap.size := by obtain ⟨ta, tc, ra, rc, h1, h2, h3, h4, h5, h6, h7, h8, h9, h10, h11⟩ := h; exact h11
theorem MAt.has {w : World} {b : Nat} {most : Int} {T : List KV} {L : List SM} {S : Nat → Prop} (h : MAt w b most T L S) : S b := by obtain ⟨ta, tc, ra, rc, h1, h2, h3, h4, h5, h6, h7, h8, h9, h10, h11⟩ := h; exact h8
theorem MAt.turn {w w' : World} {b : Nat} {most : Int} {T : List KV} {L : List SM} {S F : Nat → Prop} (h : MAt w b most T L S) (t : Turn F w w') (hF : ∀ k, S k → ¬ F k) : MAt w' b most T L S :=
  h.blocks t.size fun k hk => t.block k (h.lt k hk) (hF k hk)
theorem MAt.below {w w' : World} {b : Nat} {most : Int} {T : List KV} {L : List SM} {S : Nat → Prop} (h : MAt w b most T L S) (t : Below w.heap.size w w') : MAt w' b most T L S :=
  h.blocks t.size fun k hk => t.block k (h.lt k hk)
theorem mem_sm {L : List SM} {i : Nat} (h : i < L.length) : L.getD i sm0 ∈ L := by rw [List.getD_eq_getElem?_getD, List.getElem?_eq_getElem h]; simp
end Go.Proofs.YtblipdmagfiigaaGreat
namespace Go.Proofs.YtblipdmagfiigaaGreat
open Go.RowKit
set_option linter.unusedVariables false
set_option maxRecDepth 20000
theorem mless_lit (a b : KV) (c : Bool) (w : World) (h : lessK a b = c) :
    Calls Tryz.prog 104 #[.agg #[.int .i64 a.1, .string a.2], .agg #[.int .i64 b.1, .string b.2]] w fun e w' => e = .returned (.bool c) ∧ Below w.heap.size w w' := iless_lit a b c w h
theorem wantsM_any (pb o : Nat) (x : SM) (z : Bool) (w : World) (h : SmAt w pb o x) (hz : (!x.ended && decide (x.wn = 0)) = z) :
    Calls Tryz.prog 67 #[.pointer (some ⟨pb, o, none⟩)] w fun e w' => e = .returned (.bool z) ∧ w = w' := by
  obtain ⟨c0, c1, c2, c3, c4, c5, c6⟩ := h
  cases he : x.ended
  · rw [he] at c1 hz
    have d1 : ((x.wn : Int) == 0) = z := by
      rw [← hz]
      by_cases h0 : x.wn = 0
      · simp [h0]
      · simp [h0]
    clear he hz
    go_enter Tryz.func67, Tryz.ntmps67
    go_wp2_with fail
    go_ret
    exact ⟨rfl, rfl⟩
  · rw [he] at c1 hz
    obtain rfl : z = false := hz.symm
    clear he hz
    go_enter Tryz.func67, Tryz.ntmps67
    go_wp2_with fail
    go_ret
    exact ⟨rfl, rfl⟩
theorem done1_any (x : SM) (z : Bool) (w : World) (hz : (!x.ended || decide (0 < x.wn)) = z) :
    Calls Tryz.prog 85 #[.agg #[.int .i64 x.least, .bool x.ended, .int .i64 x.seq, .bool x.rcv, .int .i64 x.last.1, .string x.last.2, .slice x.wa x.wn x.wc]] w fun e w' => e = .returned (.bool z) ∧ Below w.heap.size w w' := by
  rcases x with ⟨xl, xe, xs, xr, xk, xa, xn, xc, xw⟩
  dsimp only at hz ⊢
  cases xe
  · have BX := Lib.hid (below_one w (.cells #[.int .i64 xl, .bool false, .int .i64 xs, .bool xr, .int .i64 xk.1, .string xk.2, .slice xa xn xc] 131))
    obtain rfl : z = true := by rw [← hz]; simp
    clear hz
    go_enter Tryz.func85, Tryz.ntmps85
    go_wp2_with fail
    go_ret
    exact ⟨rfl, BX.out⟩
  · have BX := Lib.hid (below_one w (.cells #[.int .i64 xl, .bool true, .int .i64 xs, .bool xr, .int .i64 xk.1, .string xk.2, .slice xa xn xc] 131))
    have d1 : decide (0 < xn) = z := by rw [← hz]; simp
    have d2 : decide ((xn : Int) > 0) = z := by rw [← d1]; simp
    clear hz
    go_enter Tryz.func85, Tryz.ntmps85
    go_wp2_with fail
    go_ret
    exact ⟨rfl, BX.out⟩
def mayS (k : KV) (x : SM) : Bool := if x.rcv then lessK x.last k else decide (k.1 ≥ x.least)
def C4 (pb o q : Nat) (x : SM) (k : KV) (w : World) : Prop := w.cell? ⟨pb, o + 4, none⟩ = some (.int .i64 x.last.1) ∧ w.cell? ⟨pb, o + 5, none⟩ = some (.string x.last.2) ∧ w.cell? ⟨q, 0, none⟩ = some (.int .i64 k.1) ∧ w.cell? ⟨q, 1, none⟩ = some (.string k.2)
theorem C4.below {pb o q : Nat} {x : SM} {k : KV} {w w' : World} (h : C4 pb o q x k w) (hb : Below w.heap.size w w') : C4 pb o q x k w' :=
  ⟨(hb.cell (p := ⟨pb, o + 4, none⟩) (lt_of_cell h.1)).trans h.1, (hb.cell (p := ⟨pb, o + 5, none⟩) (lt_of_cell h.1)).trans h.2.1, (hb.cell (p := ⟨q, 0, none⟩) (lt_of_cell h.2.2.1)).trans h.2.2.1, (hb.cell (p := ⟨q, 1, none⟩) (lt_of_cell h.2.2.1)).trans h.2.2.2⟩
theorem c4b_carry {pb o q : Nat} {x : SM} {k : KV} {w1 w w' : World} (h : C4 pb o q x k w ∧ Below w1.heap.size w1 w) (hb : Below w.heap.size w w') : C4 pb o q x k w' ∧ Below w1.heap.size w1 w' := ⟨h.1.below hb, h.2.trans (hb.mono h.2.size)⟩
set_option maxHeartbeats 1600000 in
theorem smay_any (pb o : Nat) (x : SM) (k : KV) (z : Bool) (w : World) (h : SmAt w pb o x) (hz : mayS k x = z) :
    Calls Tryz.prog 106 #[.pointer (some ⟨pb, o, none⟩), .agg #[.int .i64 k.1, .string k.2]] w fun e w' => e = .returned (.bool z) ∧ Below w.heap.size w w' := by
  have BX := Lib.hid (below_one w (.cells #[.int .i64 k.1, .string k.2] 71))
  have hb := h.below BX.out
  have q0 : (w.alloc (.cells #[.int .i64 k.1, .string k.2] 71)).cell? ⟨w.heap.size, 0, none⟩ = some (.int .i64 k.1) := by rw [World.cell?_alloc_mark]; rfl
  have q1 : (w.alloc (.cells #[.int .i64 k.1, .string k.2] 71)).cell? ⟨w.heap.size, 1, none⟩ = some (.string k.2) := by rw [World.cell?_alloc_mark]; rfl
  have S4 := Lib.hid (show C4 pb o w.heap.size x k (w.alloc (.cells #[.int .i64 k.1, .string k.2] 71)) from ⟨hb.2.2.2.2.1, hb.2.2.2.2.2.1, q0, q1⟩)
  obtain ⟨c0, c1, c2, c3, c4, c5, c6⟩ := hb
  have K0 := Lib.hid c0
  clear h q0 q1 c1 c2 c4 c5 c6
  unfold mayS at hz
  cases hr : x.rcv
  · rw [hr] at c3 hz
    have d1 : decide (k.1 ≥ x.least) = z := by simpa using hz
    clear hr hz
    go_enter Tryz.func106, Tryz.ntmps106
    go_upto_region 1 with fail
    generalize w.alloc (.cells #[.int .i64 k.1, .string k.2] 71) = w1 at *
    obtain ⟨q, hq⟩ : ∃ q, w.heap.size = q := ⟨_, rfl⟩
    rw [hq] at S4
    rw [hq]
    have q0 := S4.out.2.2.1
    clear hq
    go_wp2_with fail
    go_quiet (fail)
    go_wp2_with fail
    go_ret
    exact ⟨rfl, BX.out.trans ((below_drewN w1 _).mono BX.out.size)⟩
  · rw [hr] at c3 hz
    have d1 : lessK x.last k = z := by simpa using hz
    have CL := Lib.hid (fun w' => mless_lit x.last k z w' d1)
    clear hr hz d1
    go_enter Tryz.func106, Tryz.ntmps106
    go_upto_region 1 with fail
    generalize w.alloc (.cells #[.int .i64 k.1, .string k.2] 71) = w1 at *
    obtain ⟨q, hq⟩ : ∃ q, w.heap.size = q := ⟨_, rfl⟩
    rw [hq] at S4
    rw [hq]
    have q0 := S4.out.2.2.1
    have hql := lt_of_cell q0
    clear hq
    go_upto_region 2 with fail
    go_region_held3 (fun w' => (w'.cell? ⟨pb, o + 4, none⟩ = some (.int .i64 x.last.1) ∧ w'.cell? ⟨pb, o + 5, none⟩ = some (.string x.last.2) ∧ w'.cell? ⟨q, 0, none⟩ = some (.int .i64 k.1) ∧ w'.cell? ⟨q, 1, none⟩ = some (.string k.2)) ∧ Below w1.heap.size w1 w')
      (first | assumption | exact ⟨S4.out, (Below.refl _ _).drew⟩ | exact c4b_carry (by assumption) (by assumption))
      (first
        | (go_at_call 104; (with_reducible refine (CL.out _).mono ?_); rintro e w' ⟨rfl, hb9⟩))
    all_goals
      rename_i S5
      have BE := Lib.hid (BX.out.trans (S5.2.mono BX.out.size))
      clear S5
      go_wp2_with fail
      go_ret
      exact ⟨rfl, BE.out⟩
def prM (k : KV) (x : SM) : Bool := (!x.ended && decide (x.wn = 0)) && mayS k x
set_option maxHeartbeats 1600000 in
theorem may1_any (B : Nat) (k : KV) (x : SM) (z : Bool) (w : World) (h0 : w.cell? ⟨B, 0, none⟩ = some (.int .i64 k.1)) (h1 : w.cell? ⟨B, 1, none⟩ = some (.string k.2)) (hz : prM k x = z) :
    Calls Tryz.prog 105 #[.agg #[.int .i64 x.least, .bool x.ended, .int .i64 x.seq, .bool x.rcv, .int .i64 x.last.1, .string x.last.2, .slice x.wa x.wn x.wc], .pointer (some ⟨B, 0, none⟩)] w fun e w' => e = .returned (.bool z) ∧ Below w.heap.size w w' := by
  have BX := Lib.hid (below_one w (.cells #[.int .i64 x.least, .bool x.ended, .int .i64 x.seq, .bool x.rcv, .int .i64 x.last.1, .string x.last.2, .slice x.wa x.wn x.wc] 131))
  have SM1 := Lib.hid (smAt_new w x w.heap.size 131 (0, 0) rfl)
  have g0 := (BX.out.cell (p := ⟨B, 0, none⟩) (lt_of_cell h0)).trans h0
  have g1 := (BX.out.cell (p := ⟨B, 1, none⟩) (lt_of_cell h0)).trans h1
  obtain ⟨za, ha⟩ : ∃ za, (!x.ended && decide (x.wn = 0)) = za := ⟨_, rfl⟩
  obtain ⟨zb, hb⟩ : ∃ zb, mayS k x = zb := ⟨_, rfl⟩
  unfold prM at hz
  rw [ha, hb] at hz
  have CW := Lib.hid (wantsM_any w.heap.size 0 x za _ SM1.out ha)
  have CM := Lib.hid (smay_any w.heap.size 0 x k zb _ SM1.out hb)
  have HZ := Lib.hid hz
  clear h0 h1 ha hb hz
  go_enter Tryz.func105, Tryz.ntmps105
  go_wp2_with fail
  refine CW.out.mono ?_
  rintro e w' ⟨rfl, rfl⟩
  cases za
  · go_wp2_with fail
    go_ret
    exact ⟨by rw [← HZ.out]; rfl, BX.out⟩
  · go_wp2_with fail
    refine CM.out.mono ?_
    rintro e w2 ⟨rfl, hb2⟩
    have B2 := Lib.hid (BX.out.trans (hb2.mono BX.out.size))
    clear hb2
    go_wp2_with fail
    go_ret
    exact ⟨by rw [← HZ.out]; rfl, B2.out⟩
def IdxPD (w : World) (L : List SM) (pr : SM → Bool) (e : Ending) (w' : World) : Prop := ∃ r : Int, e = .returned (.int .i64 r) ∧ decide (r ≥ 0) = L.any pr ∧ Below w.heap.size w w'
set_option maxHeartbeats 1600000 in
theorem sindexD_any (a : Option Addr) (n cap : Nat) (L : List SM) (w : World) (hh : HoldsS w a n L) (hn : n ≤ 1000) :
    Calls Tryz.prog 107 #[.slice a n cap, .func (.func 85) #[] #[]] w (IdxPD w L (fun y => !y.ended || decide (0 < y.wn))) := by
  have hl := hh.1
  have HH := Lib.hid hh
  clear hh
  go_enter Tryz.func107, Tryz.ntmps107
  go_wp2_with fail
  go_loopw [8] (fun iv wr => ∃ j : Nat, j ≤ n ∧ iv = .int .i64 j ∧ Hid (∀ y ∈ L.take j, (fun y => !y.ended || decide (0 < y.wn)) y = false) ∧ Hid (Below w.heap.size w wr)) (fun iv _ => n - (intOf iv).toNat)
  case atStart => exact ⟨0, by omega, rfl, Lib.hid (by simp), Lib.hid (Below.refl _ _)⟩
  case round =>
    obtain ⟨j, hj, rfl, hS, hB⟩ := hrel
    by_cases hlt : j < n
    · obtain ⟨b, o, rfl, hc⟩ := (HH.out.below hB.out).2 (by omega)
      have hx7 := hc j hlt
      obtain ⟨x, hx⟩ : ∃ x, L.getD j sm0 = x := ⟨_, rfl⟩
      have HX := Lib.hid hx
      have TK := Lib.hid (show L.take (j + 1) = L.take j ++ [x] from by rw [List.take_add_one, List.getElem?_eq_getElem (by omega), ← hx, List.getD_eq_getElem?_getD, List.getElem?_eq_getElem (by omega)]; rfl)
      have MX := Lib.hid (show x ∈ L from hx ▸ mem_sm (by omega))
      rw [hx] at hx7
      obtain ⟨c0, c1, c2, c3, c4, c5, c6⟩ := hx7
      clear hc hx
      obtain ⟨z, hz⟩ : ∃ z, (fun y => !y.ended || decide (0 < y.wn)) x = z := ⟨_, rfl⟩
      have HZ := Lib.hid hz
      have CL := Lib.hid (done1_any x z wr hz)
      clear hz
      go_wp2_with fail
      refine CL.out.mono ?_
      rintro e w2 ⟨rfl, hb2⟩
      have B2 := Lib.hid (hB.out.trans (hb2.mono hB.out.size))
      clear hb2 CL c0 c1 c2 c3 c4 c5 c6
      cases z
      · have S2 := Lib.hid (show ∀ y ∈ L.take (j + 1), (fun y => !y.ended || decide (0 < y.wn)) y = false from by
          rw [TK.out]; intro y hy
          rcases List.mem_append.1 hy with hy | hy
          · exact hS.out y hy
          · simp only [List.mem_singleton] at hy; rw [hy]; exact HZ.out)
        go_wp2_with fail
        go_roundw
        case rel => exact ⟨j + 1, by omega, by go_num, S2, B2⟩
        case measure => simp [intOf]; omega
      · have AN := Lib.hid (show L.any (fun y => !y.ended || decide (0 < y.wn)) = true from List.any_eq_true.2 ⟨x, MX.out, HZ.out⟩)
        go_wp2_with fail
        go_ret
        exact ⟨(j : Int), rfl, by rw [AN.out]; exact decide_eq_true (by omega), B2.out⟩
    · have hjn : L.take j = L := List.take_of_length_le (by omega)
      have hS2 := hS.out
      rw [hjn] at hS2
      have AN := Lib.hid (show L.any (fun y => !y.ended || decide (0 < y.wn)) = false from by
        rw [List.any_eq_false]; intro y hy; simpa using hS2 y hy)
      clear hjn hS2
      go_wp2_with fail
      go_ret
      exact ⟨-1, rfl, by rw [AN.out]; rfl, hB.out⟩
theorem containsD_any (a : Option Addr) (n cap : Nat) (L : List SM) (z : Bool) (w : World) (hh : HoldsS w a n L) (hn : n ≤ 1000) (hz : L.any (fun y => !y.ended || decide (0 < y.wn)) = z) :
    Calls Tryz.prog 84 #[.slice a n cap, .func (.func 85) #[] #[]] w fun e w' => e = .returned (.bool z) ∧ Below w.heap.size w w' := by
  have CI := Lib.hid (sindexD_any a n cap L w hh hn)
  have HZ := Lib.hid hz
  clear hh hz
  go_enter Tryz.func84, Tryz.ntmps84
  go_wp2_with fail
  refine CI.out.mono ?_
  rintro e w2 ⟨r, rfl, hr, hb⟩
  rw [HZ.out] at hr
  have B2 := Lib.hid hb
  clear hb
  go_wp2_with fail
  go_ret
  exact ⟨rfl, B2.out⟩
def IdxPM (w : World) (L : List SM) (pr : SM → Bool) (e : Ending) (w' : World) : Prop := ∃ r : Int, e = .returned (.int .i64 r) ∧ decide (r ≥ 0) = L.any pr ∧ Below w.heap.size w w'
set_option maxHeartbeats 1600000 in
theorem sindexM_any (a : Option Addr) (n cap : Nat) (L : List SM) (B : Nat) (k : KV) (w : World) (hh : HoldsS w a n L) (hn : n ≤ 1000) (h0 : w.cell? ⟨B, 0, none⟩ = some (.int .i64 k.1)) (h1 : w.cell? ⟨B, 1, none⟩ = some (.string k.2)) :
    Calls Tryz.prog 107 #[.slice a n cap, .func (.func 105) #[] #[.pointer (some ⟨B, 0, none⟩)]] w (IdxPM w L (prM k)) := by
  have hl := hh.1
  have HH := Lib.hid hh
  have BK := Lib.hid (fun (w3 : World) (hb : Below w.heap.size w w3) => show w3.cell? ⟨B, 0, none⟩ = some (.int .i64 k.1) ∧ w3.cell? ⟨B, 1, none⟩ = some (.string k.2) from ⟨(hb.cell (p := ⟨B, 0, none⟩) (lt_of_cell h0)).trans h0, (hb.cell (p := ⟨B, 1, none⟩) (lt_of_cell h1)).trans h1⟩)
  clear hh h0 h1
  go_enter Tryz.func107, Tryz.ntmps107
  go_wp2_with fail
  go_loopw [8] (fun iv wr => ∃ j : Nat, j ≤ n ∧ iv = .int .i64 j ∧ Hid (∀ y ∈ L.take j, (prM k) y = false) ∧ Hid (Below w.heap.size w wr)) (fun iv _ => n - (intOf iv).toNat)
  case atStart => exact ⟨0, by omega, rfl, Lib.hid (by simp), Lib.hid (Below.refl _ _)⟩
  case round =>
    obtain ⟨j, hj, rfl, hS, hB⟩ := hrel
    by_cases hlt : j < n
    · obtain ⟨b, o, rfl, hc⟩ := (HH.out.below hB.out).2 (by omega)
      have hx7 := hc j hlt
      obtain ⟨x, hx⟩ : ∃ x, L.getD j sm0 = x := ⟨_, rfl⟩
      have HX := Lib.hid hx
      have TK := Lib.hid (show L.take (j + 1) = L.take j ++ [x] from by rw [List.take_add_one, List.getElem?_eq_getElem (by omega), ← hx, List.getD_eq_getElem?_getD, List.getElem?_eq_getElem (by omega)]; rfl)
      have MX := Lib.hid (show x ∈ L from hx ▸ mem_sm (by omega))
      rw [hx] at hx7
      obtain ⟨c0, c1, c2, c3, c4, c5, c6⟩ := hx7
      clear hc hx
      obtain ⟨z, hz⟩ : ∃ z, (prM k) x = z := ⟨_, rfl⟩
      have HZ := Lib.hid hz
      have CL := Lib.hid (may1_any B k x z wr (BK.out _ hB.out).1 (BK.out _ hB.out).2 hz)
      clear hz
      go_wp2_with fail
      refine CL.out.mono ?_
      rintro e w2 ⟨rfl, hb2⟩
      have B2 := Lib.hid (hB.out.trans (hb2.mono hB.out.size))
      clear hb2 CL c0 c1 c2 c3 c4 c5 c6
      cases z
      · have S2 := Lib.hid (show ∀ y ∈ L.take (j + 1), (prM k) y = false from by
          rw [TK.out]; intro y hy
          rcases List.mem_append.1 hy with hy | hy
          · exact hS.out y hy
          · simp only [List.mem_singleton] at hy; rw [hy]; exact HZ.out)
        go_wp2_with fail
        go_roundw
        case rel => exact ⟨j + 1, by omega, by go_num, S2, B2⟩
        case measure => simp [intOf]; omega
      · have AN := Lib.hid (show L.any (prM k) = true from List.any_eq_true.2 ⟨x, MX.out, HZ.out⟩)
        go_wp2_with fail
        go_ret
        exact ⟨(j : Int), rfl, by rw [AN.out]; exact decide_eq_true (by omega), B2.out⟩
    · have hjn : L.take j = L := List.take_of_length_le (by omega)
      have hS2 := hS.out
      rw [hjn] at hS2
      have AN := Lib.hid (show L.any (prM k) = false from by
        rw [List.any_eq_false]; intro y hy; simpa using hS2 y hy)
      clear hjn hS2
      go_wp2_with fail
      go_ret
      exact ⟨-1, rfl, by rw [AN.out]; rfl, hB.out⟩
theorem containsM_any (a : Option Addr) (n cap : Nat) (L : List SM) (B : Nat) (k : KV) (z : Bool) (w : World) (hh : HoldsS w a n L) (hn : n ≤ 1000) (h0 : w.cell? ⟨B, 0, none⟩ = some (.int .i64 k.1)) (h1 : w.cell? ⟨B, 1, none⟩ = some (.string k.2)) (hz : L.any (prM k) = z) :
    Calls Tryz.prog 84 #[.slice a n cap, .func (.func 105) #[] #[.pointer (some ⟨B, 0, none⟩)]] w fun e w' => e = .returned (.bool z) ∧ Below w.heap.size w w' := by
  have CI := Lib.hid (sindexM_any a n cap L B k w hh hn h0 h1)
  have HZ := Lib.hid hz
  clear hh h0 h1 hz
  go_enter Tryz.func84, Tryz.ntmps84
  go_wp2_with fail
  refine CI.out.mono ?_
  rintro e w2 ⟨r, rfl, hr, hb⟩
  rw [HZ.out] at hr
  have B2 := Lib.hid hb
  clear hb
  go_wp2_with fail
  go_ret
  exact ⟨rfl, B2.out⟩
end Go.Proofs.YtblipdmagfiigaaGreat
namespace Go.Proofs.YtblipdmagfiigaaGreat
open Go.RowKit
set_option linter.unusedVariables false
set_option maxRecDepth 20000
theorem msp_lit (n lo hi : Int) (c : Bool) (w : World) (h : decide (lo ≤ n ∧ n ≤ hi) = c) :
    Calls Tryz.prog 49 #[.int .i64 n, .int .i64 lo, .int .i64 hi] w fun e w' => e = .returned (.bool c) ∧ w = w' := by
  subst h
  go_enter Tryz.func49, Tryz.ntmps49
  go_wp2
  all_goals (go_ret; exact ⟨ret_bool (by simp; try omega), rfl⟩)
theorem mhas_any (s : Int) (z : Bool) (b : Nat) {most : Int} {T : List KV} {L : List SM} {S : Nat → Prop} (w : World) (h : MAt w b most T L S) (hl : L.length ≤ 1000) (hz : decide (0 ≤ s ∧ s < (L.length : Int)) = z) :
    Calls Tryz.prog 117 #[.pointer (some ⟨b, 0, none⟩), .int .i64 s] w fun e w' => e = .returned (.bool z) ∧ w = w' := by
  obtain ⟨ta, tc, ra, rc, -, -, k2, -⟩ := h
  have hw : IntKind.i64.wrap ((L.length : Int) - 1) = (L.length : Int) - 1 := IntWalk.i64_in _ (by omega)
  have CI := Lib.hid (msp_lit s 0 ((L.length : Int) - 1) z w (by rw [← hz]; congr 1; apply propext; omega))
  clear hz
  go_enter Tryz.func117, Tryz.ntmps117
  go_wp2_with fail
  refine CI.out.mono ?_
  rintro e w' ⟨rfl, rfl⟩
  go_wp2_with fail
  go_ret
  exact ⟨rfl, rfl⟩
def doneB (most : Int) (T : List KV) (L : List SM) : Bool := decide (most ≤ (T.length : Int)) || !(L.any fun y => !y.ended || decide (0 < y.wn))
set_option maxHeartbeats 1600000 in
theorem mdone_any (z : Bool) (b : Nat) {most : Int} {T : List KV} {L : List SM} {S : Nat → Prop} (w : World) (h : MAt w b most T L S) (hl : L.length ≤ 1000) (hz : doneB most T L = z) :
    Calls Tryz.prog 60 #[.pointer (some ⟨b, 0, none⟩)] w fun e w' => e = .returned (.bool z) ∧ Below w.heap.size w w' := by
  obtain ⟨ta, tc, ra, rc, k0', k1, k2, -, -, own, -, -, -, -, -⟩ := h
  unfold doneB at hz
  by_cases hf : most ≤ (T.length : Int)
  · have d1 : decide ((T.length : Int) ≥ most) = true := decide_eq_true hf
    obtain rfl : z = true := by rw [← hz, decide_eq_true hf]; rfl
    clear hz hf own
    go_enter Tryz.func60, Tryz.ntmps60
    go_wp2_with fail
    go_quiet (fail)
    go_wp2_with fail
    go_ret
    exact ⟨rfl, below_drewN _ _⟩
  · have d1 : decide ((T.length : Int) ≥ most) = false := decide_eq_false hf
    obtain ⟨zc, hzc⟩ : ∃ zc, (L.any fun y => !y.ended || decide (0 < y.wn)) = zc := ⟨_, rfl⟩
    rw [decide_eq_false hf, hzc] at hz
    have HZ := Lib.hid hz
    have CC := Lib.hid (fun m => containsD_any ra L.length rc L zc (w.drewN m) ((holdsS_own own).below (below_drewN w m)) hl hzc)
    clear hz hf own hzc
    go_enter Tryz.func60, Tryz.ntmps60
    go_wp2_with fail
    go_quiet (fail)
    go_wp2_with fail
    refine (CC.out _).mono ?_
    rintro e w2 ⟨rfl, hb2⟩
    have B2 := Lib.hid ((below_drewN w nq).trans (hb2.mono (below_drewN w nq).size))
    clear hb2
    go_wp2_with fail
    go_ret
    exact ⟨by rw [← HZ.out]; rfl, B2.out⟩
set_option maxHeartbeats 1600000 in
theorem mmay_any (k : KV) (z : Bool) (b : Nat) {most : Int} {T : List KV} {L : List SM} {S : Nat → Prop} (w : World) (h : MAt w b most T L S) (hl : L.length ≤ 1000) (hz : L.any (prM k) = z) :
    Calls Tryz.prog 83 #[.pointer (some ⟨b, 0, none⟩), .agg #[.int .i64 k.1, .string k.2]] w fun e w' => e = .returned (.bool z) ∧ Below w.heap.size w w' := by
  have BX := Lib.hid (below_one w (.cells #[.int .i64 k.1, .string k.2] 71))
  have q0 : (w.alloc (.cells #[.int .i64 k.1, .string k.2] 71)).cell? ⟨w.heap.size, 0, none⟩ = some (.int .i64 k.1) := by rw [World.cell?_alloc_mark]; rfl
  have q1 : (w.alloc (.cells #[.int .i64 k.1, .string k.2] 71)).cell? ⟨w.heap.size, 1, none⟩ = some (.string k.2) := by rw [World.cell?_alloc_mark]; rfl
  obtain ⟨ta, tc, ra, rc, k0', k1, k2, -, -, own, -, -, -, -, -⟩ := h.below BX.out
  have CC := Lib.hid (containsM_any ra L.length rc L w.heap.size k z _ (holdsS_own own) hl q0 q1 hz)
  clear hz own q0 q1 k0' k1 h
  go_enter Tryz.func83, Tryz.ntmps83
  go_wp2_with fail
  refine CC.out.mono ?_
  rintro e w2 ⟨rfl, hb2⟩
  have B2 := Lib.hid (BX.out.trans (hb2.mono BX.out.size))
  clear hb2
  go_wp2_with fail
  go_ret
  exact ⟨rfl, B2.out⟩
def seqS (L : List SM) (s : Int) : Int := if 0 ≤ s ∧ s < (L.length : Int) then (L.getD s.toNat sm0).seq else 0
theorem mseq_any (s v : Int) (b : Nat) {most : Int} {T : List KV} {L : List SM} {S : Nat → Prop} (w : World) (h : MAt w b most T L S) (hl : L.length ≤ 1000) (hv : seqS L s = v) :
    Calls Tryz.prog 99 #[.pointer (some ⟨b, 0, none⟩), .int .i64 s] w fun e w' => e = .returned (.int .i64 v) ∧ w = w' := by
  unfold seqS at hv
  by_cases hs : 0 ≤ s ∧ s < (L.length : Int)
  · have CH := Lib.hid (mhas_any s true b w h hl (decide_eq_true hs))
    rw [if_pos hs] at hv
    obtain ⟨i, rfl⟩ : ∃ i : Nat, s = (i : Int) := ⟨s.toNat, by omega⟩
    have hi : i < L.length := by omega
    obtain ⟨ta, tc, ra, rc, k0', k1, k2, -, -, own, -, -, -, -, -⟩ := h
    obtain ⟨bb, o, rfl, hc⟩ := (holdsS_own own).2 (by omega)
    have c2 := (hc i hi).2.2.1
    rw [Int.toNat_natCast] at hv
    rw [hv] at c2
    have i1 : (0 : Int) ≤ (i : Int) := by omega
    have i2 : (i : Int) < (L.length : Int) := by omega
    clear hv hs own hc
    go_enter Tryz.func99, Tryz.ntmps99
    go_wp2_with fail
    refine CH.out.mono ?_
    rintro e w' ⟨rfl, rfl⟩
    go_wp2_with fail
    go_ret
    exact ⟨rfl, rfl⟩
  · have CH := Lib.hid (mhas_any s false b w h hl (decide_eq_false hs))
    rw [if_neg hs] at hv
    subst hv
    clear hs h
    go_enter Tryz.func99, Tryz.ntmps99
    go_wp2_with fail
    refine CH.out.mono ?_
    rintro e w' ⟨rfl, rfl⟩
    go_wp2_with fail
    go_ret
    exact ⟨rfl, rfl⟩
end Go.Proofs.YtblipdmagfiigaaGreat
namespace Go.Proofs.YtblipdmagfiigaaGreat
open Go.RowKit
set_option linter.unusedVariables false
set_option maxRecDepth 20000
theorem sm_info : (Tryz.prog.info? 131).map (fun i => (i.zero, i.size, i.bytes)) = some (some (.agg #[.int .i64 0, .bool false, .int .i64 0, .bool false, .int .i64 0, .string ⟨#[]⟩, .slice none 0 0]), 7, 80) := by kernel_rfl
theorem row_new (w : World) (cs : Array Value) (e : TypeId) (fr : Nat × Nat) : ∀ ad, (some ⟨w.heap.size, 0, none⟩ : Option Addr) = some ad → ∀ j u, cs.toList[j]? = some u → (w.alloc (.cells cs e fr)).cell? (ad.add j) = some u := by
  intro ad had j u hu
  injection had with had
  subst had
  rw [Go.WideShapes.add_plain, Nat.zero_add, World.cell?_alloc_mark]
  simpa using hu
def mkS (d : Int) : SM := ⟨d, decide (d < 0), 0, false, k0, none, 0, 0, []⟩
/-- the object while it is made -/
def NewAt (w0 w : World) (b : Nat) (m : Int) (ra : Option Addr) (rc : Nat) (L : List SM) : Prop :=
  w.cell? ⟨b, 0, none⟩ = some (.int .i64 m) ∧ w.cell? ⟨b, 1, none⟩ = some (.slice none 0 0) ∧ w.cell? ⟨b, 2, none⟩ = some (.slice ra L.length rc) ∧ (∀ i, w.frozen? ⟨b, i, none⟩ = false) ∧ w.ownsRow (b + 1) 131 7 (.slice ra L.length rc) L.length (smV L) ∧ Below w0.heap.size w0 w
theorem NewAt.mat {w0 w : World} {b : Nat} {m : Int} {ra : Option Addr} {rc : Nat} {L : List SM} (h : NewAt w0 w b m ra rc L) (hb : b = w0.heap.size) (hL : ∀ x ∈ L, x.wa = none ∧ x.wn = 0 ∧ x.wc = 0 ∧ x.wait = []) : MAt w b m [] L (fun k => b ≤ k ∧ k < w.heap.size) := by
  obtain ⟨h1, h2, h3, h4, h5, h6⟩ := h
  have hlt := lt_of_cell h1
  refine ⟨none, 0, ra, rc, h1, h2, h3, h4, World.ownsRow_nil _ _ _ _, ?_, fun x hx => ?_, ⟨Nat.le_refl _, hlt⟩, fun g hg => (by cases hg), fun g hg => ?_, fun k hk => hk.2⟩
  · exact ⟨h5.1, h5.2.imp id (fun ⟨g, cap, cur, hv, hge, r⟩ => ⟨g, cap, cur, hv, Nat.zero_le _, r⟩)⟩
  · obtain ⟨e1, e2, e3, e4⟩ := hL x hx
    rw [WtIn, e1, e2, e3, e4]
    exact ⟨HoldsK.nil _ _, fun _ => ⟨rfl, rfl⟩, Nat.le_refl _, fun fb fo e => (by cases e)⟩
  · have := h5.lt g (by rw [hg]; rfl)
    exact ⟨⟨by omega, this.2⟩, by omega⟩
set_option maxHeartbeats 3200000 in
set_option maxRecDepth 100000 in
theorem mnew_any (a : Option Addr) (n cap : Nat) (zs : List Int) (m : Int) (w : World) (hh : HoldsI .i64 w a n zs) (hn : 1 ≤ n ∧ n ≤ 6) (hm : 1 ≤ m ∧ m ≤ 10) :
    Calls Tryz.prog 32 #[.slice a n cap, .int .i64 m] w fun e w' => ∃ b S, e = .returned (.tuple #[.pointer (some ⟨b, 0, none⟩), .int .i64 0]) ∧ MAt w' b m [] (zs.map mkS) S ∧ (∀ k, S k → w.heap.size ≤ k) ∧ Below w.heap.size w w' := by
  obtain ⟨i0, hi0, hz0, hz1, hz2⟩ := info_parts sm_info
  have CI := Lib.hid (msp_lit (n : Int) 1 6 true w (decide_eq_true (by omega)))
  have CJ := Lib.hid (msp_lit m 1 10 true w (decide_eq_true hm))
  have H := Lib.hid hh
  have hl := hh.1
  have hn6 := hn.2
  have N0 := Lib.hid (show NewAt w (w.alloc (.cells #[.int .i64 m, .slice none 0 0, .slice none 0 0] 129)) w.heap.size m none 0 [] from ⟨by rw [cell_alloc rfl]; rfl, by rw [cell_alloc rfl]; rfl, by rw [cell_alloc rfl]; rfl, fun i => frozen_alloc rfl, World.ownsRow_nil _ _ _ _, below_one _ _⟩)
  clear hh hn hm
  go_enter Tryz.func32, Tryz.ntmps32
  go_wp2_with fail
  refine CI.out.mono ?_
  rintro e w' ⟨rfl, rfl⟩
  go_wp2_with fail
  refine CJ.out.mono ?_
  rintro e w' ⟨rfl, rfl⟩
  clear CI CJ
  go_upto_region 4 with fail
  generalize w.alloc (.cells #[.int .i64 m, .slice none 0 0, .slice none 0 0] 129) = w1 at *
  obtain ⟨b, hb⟩ : ∃ b, w.heap.size = b := ⟨_, rfl⟩
  have HB := Lib.hid hb
  rw [hb] at N0
  rw [hb]
  clear hb
  go_wp2_with fail
  go_loopw [23] (fun iv wr => ∃ (j : Nat) (L : List SM) (ra : Option Addr) (rc : Nat), j ≤ n ∧ L.length = j ∧ iv = .int .i64 j ∧ Hid (L = (zs.take j).map mkS) ∧ Hid (NewAt w wr b m ra rc L)) (fun iv _ => n - (intOf iv).toNat)
  case atStart => exact ⟨0, [], none, 0, by omega, rfl, rfl, Lib.hid rfl, N0⟩
  case round =>
    obtain ⟨j, L, ra, rc, hj, hLl, rfl, hL, hN⟩ := hrel
    by_cases hlt : j < n
    · obtain ⟨k0', k1', k2', fz, own, bel⟩ := hN.out
      obtain ⟨pb, po, rfl, hc⟩ := (H.out.below bel).at (by omega)
      have x0 := hc j hlt
      obtain ⟨d, hd⟩ : ∃ d, zs.getD j 0 = d := ⟨_, rfl⟩
      rw [hd] at x0
      have LS := Lib.hid (show L ++ [mkS d] = (zs.take (j + 1)).map mkS from by
        rw [List.take_add_one, List.getElem?_eq_getElem (by omega), List.map_append, ← hL.out]
        have : zs[j]'(by omega) = d := by rw [← hd, List.getD_eq_getElem?_getD, List.getElem?_eq_getElem (by omega)]; rfl
        simp [this])
      rw [hLl] at k2'
      have OW := Lib.hid own
      have i1 : (0 : Int) ≤ (j : Int) := by omega
      have i2 : (j : Int) < (n : Int) := by omega
      have f2 := fz 2
      have K0 := Lib.hid k0'; have K1 := Lib.hid k1'; have FZ := Lib.hid fz; have BL := Lib.hid bel
      have K2 := Lib.hid k2'
      have hbl := lt_of_cell k0'
      clear hc hd fz own bel k0' k1'
      go_wp2_with (at_builtin; refine wpList_append_any rfl (.tmp 31) (.tmp 36) 127 rfl (b + 1) 131 i0 _ 7 80 Tryz.underlying127 hi0 hz0 hz1 hz2 rfl (by decide) _ j (smV L) rfl ((hLl ▸ OW.out).alloc _) _ 1 1 [.int .i64 d, .bool (decide (d < 0)), .int .i64 0, .bool false, .int .i64 0, .string ⟨#[]⟩, .slice none 0 0] rfl (some_none _) rfl (row_new _ #[.int .i64 d, .bool (decide (d < 0)), .int .i64 0, .bool false, .int .i64 0, .string ⟨#[]⟩, .slice none 0 0] _ _) (by simp [Value.oneCell']) (by unfold maxLen; omega) (by omega) (by simp; omega) ?_; intro a3 c3 w3 hown3 hb3 hnil3; have hbx := ((Below.refl (b + 1) wr).alloc (by omega) (.cells #[.int .i64 d, .bool (decide (d < 0)), .int .i64 0, .bool false, .int .i64 0, .string ⟨#[]⟩, .slice none 0 0] 131)).trans hb3; have ky := (hbx.cell (p := ⟨b, 2, none⟩) (by show b < b + 1; omega)).trans K2.out; have fy := (hbx.frozen (p := ⟨b, 2, none⟩) (by show b < b + 1; omega)).trans (FZ.out 2))
      have N3 := Lib.hid (show NewAt w (w3.setCell ⟨b, 2, none⟩ (.slice a3 (j + 1) c3)) b m a3 c3 (L ++ [mkS d]) from by
        have cb : ∀ i, w3.cell? ⟨b, i, none⟩ = wr.cell? ⟨b, i, none⟩ := fun i => hbx.cell (p := ⟨b, i, none⟩) (by show b < b + 1; omega)
        have hll : (L ++ [mkS d]).length = j + 1 := by rw [List.length_append, hLl]; rfl
        refine ⟨?_, ?_, ?_, fun i => ?_, ?_, ?_⟩
        · rw [cset_ne (by omega), cb]; exact K0.out
        · rw [cset_ne (by omega), cb]; exact K1.out
        · rw [hll]; exact cset_at ky
        · rw [fset_any]; exact (hbx.frozen (p := ⟨b, i, none⟩) (by show b < b + 1; omega)).trans (FZ.out i)
        · rw [hll, smV_app]
          exact mowns_block0 hown3 (fun g e => mheap_far (by have := (hown3.lt g (by rw [e]; rfl)).1; omega))
        · exact ((BL.out.trans (hbx.mono (by have := HB.out; omega))).setCell (p := ⟨b, 2, none⟩) (by show w.heap.size ≤ b; have := HB.out; omega) _))
      clear hown3 hb3 hnil3 hbx ky fy
      go_roundw
      case rel => exact ⟨j + 1, L ++ [mkS d], a3, c3, by omega, by rw [List.length_append, hLl]; rfl, by go_num, LS, N3⟩
      case measure => simp [intOf] <;> omega
    · obtain rfl : j = n := by omega
      have hL2 : L = zs.map mkS := by rw [hL.out, List.take_of_length_le (by omega)]
      have MM := Lib.hid (hN.out.mat HB.out.symm (fun x hx => by
        rw [hL2] at hx
        obtain ⟨d, _, rfl⟩ := List.mem_map.1 hx
        exact ⟨rfl, rfl, rfl, rfl⟩))
      rw [hL2] at MM
      have BE := Lib.hid hN.out.2.2.2.2.2
      clear hL2 hL hN
      go_wp2_with fail
      refine bodyPost_ret (v := .tuple #[.pointer (some ⟨b, 0, none⟩), .int .i64 0]) (by simp [results, go_sem]) rfl ⟨b, _, rfl, MM.out, fun k hk => by rw [HB.out]; exact hk.1, BE.out⟩
end Go.Proofs.YtblipdmagfiigaaGreat
namespace Go.Proofs.YtblipdmagfiigaaGreat
open Go.RowKit
set_option linter.unusedVariables false
set_option maxRecDepth 20000
def KvAt (w : World) (q : Nat) (k : KV) : Prop := w.cell? ⟨q, 0, none⟩ = some (.int .i64 k.1) ∧ w.cell? ⟨q, 1, none⟩ = some (.string k.2)
theorem kvAt_new (w : World) (k : KV) (q : Nat) (e : TypeId) (hq : q = w.heap.size) : KvAt (w.alloc (.cells #[.int .i64 k.1, .string k.2] e)) q k := by
  subst hq
  exact ⟨by rw [World.cell?_alloc_mark]; rfl, by rw [World.cell?_alloc_mark]; rfl⟩
end Go.Proofs.YtblipdmagfiigaaGreat
namespace Go.Proofs.YtblipdmagfiigaaGreat
open Go.RowKit
set_option linter.unusedVariables false
set_option maxRecDepth 20000
def prW (x : SM) : Bool := !x.ended && decide (x.wn = 0)
def wantN (L : List SM) (k : Nat) : List Nat := (List.range k).filter fun i => prW (L.getD i sm0)
def wantsL (most : Int) (T : List KV) (L : List SM) : List Nat := if doneB most T L then [] else wantN L L.length
theorem wantN_snoc (L : List SM) (k : Nat) : wantN L (k + 1) = wantN L k ++ (if prW (L.getD k sm0) then [k] else []) := by
  unfold wantN
  rw [List.range_succ, List.filter_append, List.filter_cons, List.filter_nil]
set_option maxHeartbeats 3200000 in
set_option maxRecDepth 100000 in
theorem mwants_any (b : Nat) {most : Int} {T : List KV} {L : List SM} {S : Nat → Prop} (w : World) (h : MAt w b most T L S) (hl : L.length ≤ 1000) :
    Calls Tryz.prog 41 #[.pointer (some ⟨b, 0, none⟩)] w (RetZ w (natsZ (wantsL most T L))) := by
  obtain ⟨i0, hi, hz0, hz1, hz2⟩ := info_parts num_info
  obtain ⟨z, hz⟩ : ∃ z, doneB most T L = z := ⟨_, rfl⟩
  have CD := Lib.hid (mdone_any z b w h hl hz)
  have WL := Lib.hid (show wantsL most T L = if z then [] else wantN L L.length from by unfold wantsL; rw [hz])
  obtain ⟨n, hn⟩ : ∃ n, L.length = n := ⟨_, rfl⟩
  have HN := Lib.hid hn
  have H := Lib.hid h
  rw [hn] at hl
  clear h hz hn
  cases z
  · go_enter Tryz.func41, Tryz.ntmps41
    go_wp2_with fail
    refine CD.out.mono ?_
    rintro e w2 ⟨rfl, hb2⟩
    obtain ⟨ta, tc, ra, rc, -, -, k2, -, -, own, -, -, -, -, -⟩ := H.out.below hb2
    rw [HN.out] at k2 own
    have HS := Lib.hid (holdsS_own own)
    have B2 := Lib.hid hb2
    clear hb2 own CD
    go_wp2_with fail
    go_loopw [3, 17] (fun ov iv wr => ∃ (j : Nat) (K : List Nat) (av : Option Addr) (cv : Nat), j ≤ n ∧ K.length ≤ j ∧ iv = .int .i64 j ∧ ov = .slice av K.length cv ∧ Hid (K = wantN L j) ∧ Hid (wr.ownsRow w2.heap.size 3 1 (.slice av K.length cv) K.length (numsV (natsZ K))) ∧ Hid (Below w.heap.size w wr) ∧ Hid (Below w2.heap.size w2 wr)) (fun _ iv _ => n - (intOf iv).toNat)
    case atStart => exact ⟨0, [], none, 0, by omega, by simp, rfl, rfl, Lib.hid rfl, Lib.hid (World.ownsRow_nil _ _ _ _), B2, Lib.hid (Below.refl _ _)⟩
    case round =>
      obtain ⟨j, K, av, cv, hj, hKl, rfl, rfl, hK, hO, hB, hB2⟩ := hrel
      by_cases hlt : j < n
      · obtain ⟨sb, so, rfl, hc⟩ := (HS.out.below hB2.out).2 (by omega)
        have hx7 := hc j hlt
        have hws := wantN_snoc L j
        obtain ⟨x, hx⟩ : ∃ x, L.getD j sm0 = x := ⟨_, rfl⟩
        rw [hx] at hx7 hws
        obtain ⟨c0, c1, c2, c3, c4, c5, c6⟩ := hx7
        obtain ⟨zw, hzw⟩ : ∃ zw, prW x = zw := ⟨_, rfl⟩
        rw [hzw] at hws
        have i1 : (0 : Int) ≤ (j : Int) := by omega
        have i2 : (j : Int) < (n : Int) := by omega
        have BX := Lib.hid (below_one wr (.cells #[.int .i64 x.least, .bool x.ended, .int .i64 x.seq, .bool x.rcv, .int .i64 x.last.1, .string x.last.2, .slice x.wa x.wn x.wc] 131))
        have CW := Lib.hid (wantsM_any wr.heap.size 0 x zw _ (smAt_new wr x wr.heap.size 131 (0, 0) rfl) hzw)
        have HW := Lib.hid hws
        have O3 := Lib.hid (owns_below hO.out BX.out)
        have B3 := Lib.hid (hB.out.trans (BX.out.mono hB.out.size))
        have B23 := Lib.hid (hB2.out.trans (BX.out.mono hB2.out.size))
        clear hc hx hzw hws
        go_upto_region 7 with fail
        clear c0 c1 c2 c3 c4 c5 c6
        generalize wr.alloc (.cells #[.int .i64 x.least, .bool x.ended, .int .i64 x.seq, .bool x.rcv, .int .i64 x.last.1, .string x.last.2, .slice x.wa x.wn x.wc] 131) = w3 at *
        generalize wr.heap.size = p at *
        go_wp2_with fail
        refine CW.out.mono ?_
        rintro e w' ⟨rfl, rfl⟩
        clear CW
        cases zw
        · have K2 := Lib.hid (show K = wantN L (j + 1) from by rw [HW.out, if_neg (by decide), List.append_nil]; exact hK.out)
          go_wp2_with fail
          go_roundw
          case rel => exact ⟨j + 1, K, av, cv, by omega, by omega, by go_num, rfl, K2, O3, B3, B23⟩
          case measure => simp [intOf] <;> omega
        · have K2 := Lib.hid (show K ++ [j] = wantN L (j + 1) from by rw [HW.out, if_pos rfl, ← hK.out])
          go_wp2_with (at_builtin; refine wpList_append_any rfl (.tmp 23) (.tmp 25) 54 rfl w2.heap.size 3 i0 _ 1 8 Tryz.underlying54 hi hz0 hz1 hz2 rfl (by decide) _ K.length _ rfl (O3.out.alloc _) _ 1 1 [.int .i64 (j : Int)] rfl (some_none _) rfl (one_new _ _ _ _) (by simp [Value.oneCell']) (by unfold maxLen; omega) (by omega) (by have := B23.out.size; simp; omega) ?_; intro a5 c5 w5 hown5 hb5 hnil5)
          have O5 := Lib.hid (show w5.ownsRow w2.heap.size 3 1 (.slice a5 (K ++ [j]).length c5) (K ++ [j]).length (numsV (natsZ (K ++ [j]))) from by rw [List.length_append]; unfold numsV natsZ at hown5 ⊢; rw [List.map_append, List.map_append]; exact hown5)
          have b5 : Below w2.heap.size w3 w5 := ((Below.refl w2.heap.size w3).alloc B23.out.size _).trans hb5
          have B5 := Lib.hid (B3.out.trans (b5.mono B2.out.size))
          have B25 := Lib.hid (B23.out.trans b5)
          clear hown5 hb5 hnil5
          go_roundw
          case rel => exact ⟨j + 1, K ++ [j], a5, c5, by omega, by simp; omega, by go_num, by simp, K2, O5, B5, B25⟩
          case measure => simp [intOf] <;> omega
      · obtain rfl : j = n := by omega
        have KE := Lib.hid (show K = wantsL most T L from by rw [WL.out, if_neg (by decide), HN.out]; exact hK.out)
        go_wp2_with fail
        go_ret
        exact ⟨av, cv, by rw [← KE.out, natsZ_len]; rfl, by rw [← KE.out, natsZ_len]; have := hO.out; exact ⟨this.1, this.2.imp id (fun ⟨g, cap, cur, hv, hge, r⟩ => ⟨g, cap, cur, hv, Nat.le_trans B2.out.size hge, r⟩)⟩, hB.out⟩
  · have KE := Lib.hid (show wantsL most T L = [] from by rw [WL.out, if_pos rfl])
    go_enter Tryz.func41, Tryz.ntmps41
    go_wp2_with fail
    refine CD.out.mono ?_
    rintro e w2 ⟨rfl, hb2⟩
    have B2 := Lib.hid hb2
    clear hb2
    go_wp2_with fail
    go_ret
    exact ⟨none, 0, by rw [KE.out]; rfl, by rw [KE.out]; exact World.ownsRow_nil _ _ _ _, B2.out⟩
end Go.Proofs.YtblipdmagfiigaaGreat
namespace Go.Proofs.YtblipdmagfiigaaGreat
open Go.RowKit
set_option linter.unusedVariables false
set_option maxRecDepth 20000
/-- a shard's row is stored into; what waits lies where it lay, or anew -/
theorem MMid.put {w wf w' : World} {b : Nat} {most : Int} {ta : Option Addr} {tc g rc : Nat} {T : List KV} {L L' : List SM} {S : Nat → Prop} (h : MMid w b most ta tc (some ⟨g, 0, none⟩) rc T L S) (hb : Below w.heap.size w wf) (t : Turn (fun k => k = g) wf w')
    (own : w'.ownsRow 0 131 7 (.slice (some ⟨g, 0, none⟩) L.length rc) L.length (smV L')) (hl : L'.length = L.length)
    (hx : ∀ x ∈ L', (HoldsK wf x.wa x.wn x.wait ∧ (x.wa = none → x.wn = 0 ∧ x.wc = 0) ∧ x.wn ≤ x.wc ∧ ∀ fb fo, x.wa = some ⟨fb, fo, none⟩ → (S fb ∧ fb ≠ b ∧ ta ≠ some ⟨fb, 0, none⟩ ∧ fb ≠ g) ∨ (w.heap.size ≤ fb ∧ fb < wf.heap.size))) :
    MAt w' b most T L' (fun k => S k ∨ (w.heap.size ≤ k ∧ k < wf.heap.size)) ∧ Turn S w w' := by
  obtain ⟨h1, h2, h3, h4, h5, h6, h7, h8, h9, h10, h11⟩ := h
  obtain ⟨z1, z2⟩ := h10 g rfl
  have hz := hb.size
  have hzt := t.size
  have hlb := h11 b h8
  have hgl := h11 g z1
  have far : ∀ k, k < wf.heap.size → k ≠ g → w'.heap[k]? = wf.heap[k]? := fun k hk hn => t.block k hk hn
  have ob := (far b (by omega) (fun e => z2 e.symm)).trans (hb.block b hlb)
  have cb : ∀ j, w'.cell? ⟨b, j, none⟩ = w.cell? ⟨b, j, none⟩ := fun j => World.cell?_of_block (w := w) ob
  refine ⟨⟨ta, tc, some ⟨g, 0, none⟩, rc, (cb 0).trans h1, (cb 1).trans h2, by rw [hl]; exact (cb 2).trans h3, fun j => ?_, ?_, by rw [hl]; exact own, fun x hx' => ?_, Or.inl h8, fun q hq => ⟨Or.inl (h9 q hq).1, (h9 q hq).2⟩, fun q hq => ⟨Or.inl (h10 q hq).1, (h10 q hq).2⟩, fun k hk => ?_⟩, ?_⟩
  · rw [World.frozen?_of_block (w := w) ob]; exact h4 j
  · refine mowns_block0 h5 (fun q hq => ?_)
    have hql := h11 q (h9 q hq).1
    exact (far q (by omega) (fun e => (h9 q hq).2.2 (by rw [e]))).trans (hb.block q hql)
  · obtain ⟨y1, y2, y3, y5⟩ := hx x hx'
    have fne : ∀ fb fo, x.wa = some ⟨fb, fo, none⟩ → fb < wf.heap.size ∧ fb ≠ g := fun fb fo e => by
      rcases y5 fb fo e with hh | hh
      · have := h11 fb hh.1; exact ⟨by omega, hh.2.2.2⟩
      · exact ⟨hh.2, by omega⟩
    refine ⟨holdsK_blocks y1 (fun fb fo e => far fb (fne fb fo e).1 (fne fb fo e).2), y2, y3, fun fb fo e => ?_⟩
    rcases y5 fb fo e with hh | hh
    · exact ⟨Or.inl hh.1, hh.2.1, hh.2.2.1, fun e2 => (fne fb fo e).2 (by injection e2 with e2; injection e2 with e2; exact e2.symm)⟩
    · refine ⟨Or.inr hh, by omega, fun e2 => ?_, fun e2 => (fne fb fo e).2 (by injection e2 with e2; injection e2 with e2; exact e2.symm)⟩
      have := h11 fb (h9 fb e2).1; omega
  · rcases hk with hk | hk
    · have := h11 k hk; omega
    · omega
  · exact (Turn.of_below hb).trans (t.mono (fun k hk => by rw [hk]; exact z1))
end Go.Proofs.YtblipdmagfiigaaGreat
namespace Go.Proofs.YtblipdmagfiigaaGreat
open Go.RowKit
set_option linter.unusedVariables false
set_option maxRecDepth 20000
abbrev HD := Nat × KV
def hd0 : HD := (0, k0)
def hdV : List HD → List Value
  | [] => []
  | h :: l => .int .i64 (h.1 : Int) :: .int .i64 h.2.1 :: .string h.2.2 :: hdV l
theorem hdV_len : ∀ l : List HD, (hdV l).length = l.length * 3
  | [] => rfl
  | x :: l => by simp [hdV, hdV_len l]; omega
theorem hdV_app : ∀ k l : List HD, hdV (k ++ l) = hdV k ++ hdV l
  | [], l => rfl
  | x :: k, l => by simp [hdV, hdV_app k l]
theorem hdV_at : ∀ (l : List HD) (i : Nat), i < l.length → (hdV l)[i * 3]? = some (.int .i64 ((l.getD i hd0).1 : Int)) ∧ (hdV l)[i * 3 + 1]? = some (.int .i64 (l.getD i hd0).2.1) ∧ (hdV l)[i * 3 + 2]? = some (.string (l.getD i hd0).2.2)
  | [], i, h => by simp at h
  | x :: l, 0, _ => by simp [hdV]
  | x :: l, i + 1, h => by
    have ih := hdV_at l i (by simpa using h)
    have e1 : (i + 1) * 3 = i * 3 + 1 + 1 + 1 := by omega
    rw [e1]
    simpa [hdV] using ih
def headOf (L : List SM) (i : Nat) : List HD := if 0 < (L.getD i sm0).wn then [(i, (L.getD i sm0).wait.getD 0 k0)] else []
def headsN (L : List SM) : Nat → List HD
  | 0 => []
  | k + 1 => headsN L k ++ headOf L k
theorem headsN_len (L : List SM) : ∀ k, (headsN L k).length ≤ k
  | 0 => Nat.le_refl _
  | k + 1 => by
    unfold headsN headOf
    have := headsN_len L k
    split <;> simp <;> omega
def RetH (w : World) (hs : List HD) (e : Ending) (w' : World) : Prop := ∃ a c, e = .returned (.slice a hs.length c) ∧ w'.ownsRow w.heap.size 162 3 (.slice a hs.length c) hs.length (hdV hs) ∧ Below w.heap.size w w'
theorem head_info : (Tryz.prog.info? 162).map (fun i => (i.zero, i.size, i.bytes)) = some (some (.agg #[.int .i64 0, .int .i64 0, .string ⟨#[]⟩]), 3, 32) := by kernel_rfl
set_option maxHeartbeats 3200000 in
set_option maxRecDepth 100000 in
theorem mheads_any (b : Nat) {most : Int} {T : List KV} {L : List SM} {S : Nat → Prop} (w : World) (h : MAt w b most T L S) (hl : L.length ≤ 1000) :
    Calls Tryz.prog 82 #[.pointer (some ⟨b, 0, none⟩)] w (RetH w (headsN L L.length)) := by
  obtain ⟨i0, hi, hz0, hz1, hz2⟩ := info_parts head_info
  obtain ⟨n, hn⟩ : ∃ n, L.length = n := ⟨_, rfl⟩
  have HN := Lib.hid hn
  obtain ⟨ta, tc, ra, rc, -, -, k2, -, -, own, wt, -, -, -, -⟩ := h
  rw [hn] at k2 own hl
  rw [hn]
  have HS := Lib.hid (holdsS_own own)
  have WT := Lib.hid wt
  clear own wt hn
  go_enter Tryz.func82, Tryz.ntmps82
  go_wp2_with fail
  go_loopw [3, 11] (fun ov iv wr => ∃ (j : Nat) (K : List HD) (av : Option Addr) (cv : Nat), j ≤ n ∧ K.length ≤ j ∧ iv = .int .i64 j ∧ ov = .slice av K.length cv ∧ Hid (K = headsN L j) ∧ Hid (wr.ownsRow w.heap.size 162 3 (.slice av K.length cv) K.length (hdV K)) ∧ Hid (Below w.heap.size w wr)) (fun _ iv _ => n - (intOf iv).toNat)
  case atStart => exact ⟨0, [], none, 0, by omega, by simp, rfl, rfl, Lib.hid rfl, Lib.hid (World.ownsRow_nil _ _ _ _), Lib.hid (Below.refl _ _)⟩
  case round =>
    obtain ⟨j, K, av, cv, hj, hKl, rfl, rfl, hK, hO, hB⟩ := hrel
    by_cases hlt : j < n
    · obtain ⟨sb, so, rfl, hc⟩ := (HS.out.below hB.out).2 (by omega)
      have hx7 := hc j hlt
      have hws : headsN L (j + 1) = headsN L j ++ headOf L j := rfl
      unfold headOf at hws
      have hwt := WT.out _ (mem_sm (show j < L.length by rw [HN.out]; exact hlt))
      obtain ⟨x, hx⟩ : ∃ x, L.getD j sm0 = x := ⟨_, rfl⟩
      rw [hx] at hx7 hws hwt
      have HKX := Lib.hid (hwt.1.below hB.out)
      obtain ⟨c0, c1, c2, c3, c4, c5, c6⟩ := hx7
      have i1 : (0 : Int) ≤ (j : Int) := by omega
      have i2 : (j : Int) < (n : Int) := by omega
      have BX := Lib.hid (below_one wr (.cells #[.int .i64 x.least, .bool x.ended, .int .i64 x.seq, .bool x.rcv, .int .i64 x.last.1, .string x.last.2, .slice x.wa x.wn x.wc] 131))
      have SX := Lib.hid (smAt_new wr x wr.heap.size 131 (0, 0) rfl)
      have HW := Lib.hid hws
      have O3 := Lib.hid (owns_below hO.out BX.out)
      have B3 := Lib.hid (hB.out.trans (BX.out.mono hB.out.size))
      have HK3 := Lib.hid (HKX.out.below BX.out)
      clear hc hx hws hwt
      go_upto_region 5 with fail
      clear c0 c1 c2 c3 c4 c5 c6
      generalize wr.alloc (.cells #[.int .i64 x.least, .bool x.ended, .int .i64 x.seq, .bool x.rcv, .int .i64 x.last.1, .string x.last.2, .slice x.wa x.wn x.wc] 131) = w3 at *
      generalize wr.heap.size = p at *
      obtain ⟨-, -, -, -, -, -, c6⟩ := SX.out
      simp only [Nat.zero_add] at c6
      by_cases h0 : 0 < x.wn
      · have d1 : decide (0 < x.wn) = true := decide_eq_true h0
        have d2 : decide ((x.wn : Int) > 0) = true := decide_eq_true (by omega)
        have d3 : (0 : Int) < (x.wn : Int) := by omega
        obtain ⟨fb, fo, hwa, hkc⟩ := HK3.out.2 h0
        obtain ⟨y0, y1⟩ := hkc 0 h0
        obtain ⟨k, hk⟩ : ∃ k, x.wait.getD 0 k0 = k := ⟨_, rfl⟩
        have hws2 := HW.out
        rw [if_pos h0, hk, ← hK.out] at hws2
        have K2 := Lib.hid hws2
        rw [hk] at y0 y1
        rw [hwa] at c6
        simp only [Nat.zero_mul, Nat.add_zero] at y0 y1
        clear hkc hk hws2 hwa
        go_wp2_with (at_builtin; refine wpList_append_any rfl (.tmp 20) (.tmp 27) 165 rfl w.heap.size 162 i0 _ 3 32 Tryz.underlying165 hi hz0 hz1 hz2 rfl (by decide) _ K.length _ rfl (O3.out.alloc _) _ 1 1 [.int .i64 (j : Int), .int .i64 k.1, .string k.2] rfl (some_none _) rfl (row_new _ #[.int .i64 (j : Int), .int .i64 k.1, .string k.2] _ _) (by simp [Value.oneCell']) (by unfold maxLen; omega) (by omega) (by have := B3.out.size; simp; omega) ?_; intro a5 c5 w5 hown5 hb5 hnil5)
        have O5 := Lib.hid (show w5.ownsRow w.heap.size 162 3 (.slice a5 (K ++ [(j, k)]).length c5) (K ++ [(j, k)]).length (hdV (K ++ [(j, k)])) from by rw [List.length_append, hdV_app]; exact hown5)
        have B5 := Lib.hid (B3.out.trans (((Below.refl w.heap.size w3).alloc B3.out.size _).trans hb5))
        clear hown5 hb5 hnil5
        go_roundw
        case rel => exact ⟨j + 1, K ++ [(j, k)], a5, c5, by omega, by simp; omega, by go_num, by simp, Lib.hid K2.out.symm, O5, B5⟩
        case measure => simp [intOf] <;> omega
      · have d1 : decide (0 < x.wn) = false := decide_eq_false h0
        have d2 : decide ((x.wn : Int) > 0) = false := decide_eq_false (by omega)
        have K2 := Lib.hid (show K = headsN L (j + 1) from by rw [HW.out, if_neg h0, List.append_nil]; exact hK.out)
        go_wp2_with fail
        go_roundw
        case rel => exact ⟨j + 1, K, av, cv, by omega, by omega, by go_num, rfl, K2, O3, B3⟩
        case measure => simp [intOf] <;> omega
    · obtain rfl : j = n := by omega
      go_wp2_with fail
      go_ret
      exact ⟨av, cv, by rw [← hK.out]; rfl, by rw [← hK.out]; exact hO.out, hB.out⟩
def bestF (b h : HD) : HD := if lessK h.2 b.2 then h else b
def firstL (hs : List HD) : HD := hs.foldl bestF (hs.getD 0 hd0)
def HeIn (w : World) (p : Nat) (h : HD) : Prop := w.cell? ⟨p, 0, none⟩ = some (.int .i64 (h.1 : Int)) ∧ w.cell? ⟨p, 1, none⟩ = some (.int .i64 h.2.1) ∧ w.cell? ⟨p, 2, none⟩ = some (.string h.2.2)
theorem HeIn.of {w w' : World} {p : Nat} {x : HD} (h : HeIn w p x) (e : ∀ i, w'.cell? ⟨p, i, none⟩ = w.cell? ⟨p, i, none⟩) : HeIn w' p x := by
  unfold HeIn at *
  rw [e, e, e]; exact h
theorem HeIn.below {w w' : World} {p : Nat} {x : HD} (h : HeIn w p x) (hb : Below w.heap.size w w') : HeIn w' p x := h.of fun i => hb.cell (p := ⟨p, i, none⟩) (lt_of_cell h.1)
theorem heIn_new (w : World) (x : HD) (p : Nat) (e : TypeId) (fr : Nat × Nat) (hp : p = w.heap.size) : HeIn (w.alloc (.cells #[.int .i64 (x.1 : Int), .int .i64 x.2.1, .string x.2.2] e fr)) p x := by
  subst hp
  unfold HeIn
  refine ⟨?_, ?_, ?_⟩ <;> (rw [World.cell?_alloc_mark]; rfl)
def HoldsH (w : World) (a : Option Addr) (n : Nat) (hs : List HD) : Prop := hs.length = n ∧ (0 < n → ∃ g, a = some ⟨g, 0, none⟩ ∧ ∀ i, i < n → w.cell? ⟨g, i * 3, none⟩ = some (.int .i64 ((hs.getD i hd0).1 : Int)) ∧ w.cell? ⟨g, i * 3 + 1, none⟩ = some (.int .i64 (hs.getD i hd0).2.1) ∧ w.cell? ⟨g, i * 3 + 2, none⟩ = some (.string (hs.getD i hd0).2.2))
theorem HoldsH.below {w w' : World} {a : Option Addr} {n : Nat} {hs : List HD} (h : HoldsH w a n hs) (hb : Below w.heap.size w w') : HoldsH w' a n hs := by
  refine ⟨h.1, fun h0 => ?_⟩
  obtain ⟨g, ha, hc⟩ := h.2 h0
  have hlt := lt_of_cell (hc 0 h0).1
  refine ⟨g, ha, fun i hi => ?_⟩
  rw [hb.cell (p := ⟨g, i * 3, none⟩) hlt, hb.cell (p := ⟨g, i * 3 + 1, none⟩) hlt, hb.cell (p := ⟨g, i * 3 + 2, none⟩) hlt]
  exact hc i hi
theorem holdsH_own {w : World} {base : Nat} {e : TypeId} {a : Option Addr} {n c : Nat} {hs : List HD} (h : w.ownsRow base e 3 (.slice a n c) n (hdV hs)) : HoldsH w a n hs := by
  have hl : hs.length = n := by have := h.1; rw [hdV_len] at this; omega
  refine ⟨hl, fun h0 => ?_⟩
  obtain ⟨g, cap', hv⟩ := Joins.ownsRow_form h (by omega)
  simp only [Value.slice.injEq] at hv
  obtain ⟨rfl, -, -⟩ := hv
  refine ⟨g, rfl, fun i hi => ?_⟩
  obtain ⟨v0, v1, v2⟩ := hdV_at hs i (by omega)
  exact ⟨(h.cellAt (i * 3) (by omega)).trans v0, (h.cellAt (i * 3 + 1) (by omega)).trans v1, (h.cellAt (i * 3 + 2) (by omega)).trans v2⟩
end Go.Proofs.YtblipdmagfiigaaGreat
namespace Go.Proofs.YtblipdmagfiigaaGreat
open Go.RowKit
set_option linter.unusedVariables false
set_option maxRecDepth 20000
theorem mfirst_nil (a : Option Addr) (c : Nat) (w : World) : Calls Tryz.prog 81 #[.slice a 0 c] w fun e w' => e = .returned (.tuple #[.agg #[.int .i64 0, .int .i64 0, .string ⟨#[]⟩], .bool false]) ∧ Below w.heap.size w w' := by
  go_enter Tryz.func81, Tryz.ntmps81
  go_wp2_with fail
  refine bodyPost_ret (v := .tuple #[.agg #[.int .i64 0, .int .i64 0, .string ⟨#[]⟩], .bool false]) (by simp [results, go_sem]) rfl ⟨rfl, ?_⟩
  first
    | exact below_one _ _
    | exact (((below_one w _).setCell (p := ⟨w.heap.size, 0, none⟩) (Nat.le_refl _) _).setCell (p := ⟨w.heap.size, 1, none⟩) (Nat.le_refl _) _).setCell (p := ⟨w.heap.size, 2, none⟩) (Nat.le_refl _) _
def FstI (w0 w : World) (p : Nat) (x : HD) : Prop := HeIn w (p + 1) x ∧ HeIn w p hd0 ∧ (∀ i, w.frozen? ⟨p + 1, i, none⟩ = false) ∧ (∀ i, w.frozen? ⟨p, i, none⟩ = false) ∧ Below w0.heap.size w0 w
theorem FstI.below {w0 w w' : World} {p : Nat} {x : HD} (h : FstI w0 w p x) (hb : Below w.heap.size w w') : FstI w0 w' p x :=
  ⟨h.1.below hb, h.2.1.below hb, fun i => (hb.frozen (p := ⟨p + 1, i, none⟩) (lt_of_cell h.1.1)).trans (h.2.2.1 i), fun i => (hb.frozen (p := ⟨p, i, none⟩) (lt_of_cell h.2.1.1)).trans (h.2.2.2.1 i), h.2.2.2.2.trans (hb.mono h.2.2.2.2.size)⟩
theorem FstI.start (w : World) (x : HD) (e1 e2 : TypeId) : FstI w ((w.alloc (.cells #[.int .i64 0, .int .i64 0, .string ⟨#[]⟩] e1)).alloc (.cells #[.int .i64 (x.1 : Int), .int .i64 x.2.1, .string x.2.2] e2)) w.heap.size x := by
  refine ⟨heIn_new _ x _ e2 (0, 0) (by simp), (heIn_new w hd0 w.heap.size e1 (0, 0) rfl).below (below_one _ _), fun i => frozen_alloc (by simp), fun i => ((below_one _ _).frozen (p := ⟨w.heap.size, i, none⟩) (by simp)).trans (frozen_alloc rfl), ((Below.refl _ _).alloc (Nat.le_refl _) _).alloc (by simp) _⟩
theorem FstI.store {w0 w : World} {p : Nat} {x y : HD} (h : FstI w0 w p x) (hp : p = w0.heap.size) : FstI w0 (((w.setCell ⟨p + 1, 0, none⟩ (.int .i64 (y.1 : Int))).setCell ⟨p + 1, 1, none⟩ (.int .i64 y.2.1)).setCell ⟨p + 1, 2, none⟩ (.string y.2.2)) p y := by
  obtain ⟨⟨a0, a1, a2⟩, b, c, d, e⟩ := h
  have hge : w0.heap.size ≤ p + 1 := by omega
  refine ⟨⟨?_, ?_, ?_⟩, b.of fun i => ?_, fun i => ?_, fun i => ?_, ((e.setCell (p := ⟨p + 1, 0, none⟩) hge _).setCell (p := ⟨p + 1, 1, none⟩) hge _).setCell (p := ⟨p + 1, 2, none⟩) hge _⟩
  · rw [cset_ne (by omega), cset_ne (by omega)]; exact cset_at a0
  · rw [cset_ne (by omega)]; exact cset_at ((cset_ne (by omega)).trans a1)
  · exact cset_at ((cset_ne (by omega)).trans ((cset_ne (by omega)).trans a2))
  · rw [cset_far (by omega), cset_far (by omega), cset_far (by omega)]
  · rw [fset_any, fset_any, fset_any]; exact c i
  · rw [fset_any, fset_any, fset_any]; exact d i
theorem HoldsH.far {w w' : World} {g n : Nat} {hs : List HD} (h : HoldsH w (some ⟨g, 0, none⟩) n hs) (e : ∀ i, w'.cell? ⟨g, i, none⟩ = w.cell? ⟨g, i, none⟩) : HoldsH w' (some ⟨g, 0, none⟩) n hs := by
  refine ⟨h.1, fun h0 => ?_⟩
  obtain ⟨g', hg, hc⟩ := h.2 h0
  injection hg with hg; injection hg with hg; subst hg
  refine ⟨g, rfl, fun i hi => ?_⟩
  rw [e, e, e]
  exact hc i hi
theorem first_take {hs : List HD} {j : Nat} (h : j < hs.length) (b : HD) : (hs.take (j + 1)).foldl bestF b = bestF ((hs.take j).foldl bestF b) (hs.getD j hd0) := by
  rw [List.take_add_one, List.getElem?_eq_getElem h, List.foldl_append, List.getD_eq_getElem?_getD, List.getElem?_eq_getElem h]; rfl
set_option maxHeartbeats 3200000 in
set_option maxRecDepth 100000 in
theorem mfirst_any (a : Option Addr) (n c : Nat) (hs : List HD) (w : World) (h : HoldsH w a n hs) (h0 : 0 < n) (hn : n ≤ 1000) :
    Calls Tryz.prog 81 #[.slice a n c] w fun e w' => e = .returned (.tuple #[.agg #[.int .i64 ((firstL hs).1 : Int), .int .i64 (firstL hs).2.1, .string (firstL hs).2.2], .bool true]) ∧ Below w.heap.size w w' := by
  obtain ⟨R, hR⟩ : ∃ R, firstL hs = R := ⟨_, rfl⟩
  rw [hR]
  obtain ⟨b0, hb0⟩ : ∃ b0, hs.getD 0 hd0 = b0 := ⟨_, rfl⟩
  have RR := Lib.hid (show hs.foldl bestF b0 = R from by rw [← hR, ← hb0]; rfl)
  have hl := h.1
  have HS := Lib.hid (h.below (below_one w (.cells #[.int .i64 0, .int .i64 0, .string ⟨#[]⟩] 162)))
  obtain ⟨g, ha, hc⟩ := HS.out.2 h0
  have LG0 : g < w.heap.size := by
    obtain ⟨g', ha', hc'⟩ := h.2 h0
    rw [ha] at ha'
    injection ha' with e; injection e with e; subst e
    exact lt_of_cell (hc' 0 h0).1
  obtain ⟨x0, x1, x2⟩ := hc 0 h0
  rw [hb0] at x0 x1 x2
  simp only [Nat.zero_mul, Nat.zero_add] at x0 x1 x2
  have FS := Lib.hid (FstI.start w b0 162 162)
  have HS2 := Lib.hid (HS.out.below (below_one _ (.cells #[.int .i64 (b0.1 : Int), .int .i64 b0.2.1, .string b0.2.2] 162)))
  have z1 : ((n : Int) == 0) = false := by simp; omega
  have z2 : (0 : Int) < (n : Int) := by omega
  subst ha
  clear hR hb0 h hc
  go_enter Tryz.func81, Tryz.ntmps81
  go_upto_region 4 with fail
  clear x0 x1 x2
  generalize (w.alloc (.cells #[.int .i64 0, .int .i64 0, .string ⟨#[]⟩] 162)).alloc (.cells #[.int .i64 (b0.1 : Int), .int .i64 b0.2.1, .string b0.2.2] 162) = w2 at *
  obtain ⟨p, hp⟩ : ∃ p, w.heap.size = p := ⟨_, rfl⟩
  have HP := Lib.hid hp
  rw [hp] at FS LG0
  rw [hp]
  have LG := Lib.hid LG0
  clear hp LG0
  go_wp2_with fail
  go_loopw [16] (fun iv wr => ∃ j : Nat, j ≤ n ∧ iv = .int .i64 j ∧ Hid (FstI w wr p ((hs.take j).foldl bestF b0)) ∧ Hid (HoldsH wr (some ⟨g, 0, none⟩) n hs)) (fun iv _ => n - (intOf iv).toNat)
  case atStart => exact ⟨0, by omega, rfl, FS, HS2⟩
  case round =>
    obtain ⟨j, hj, rfl, hF, hH⟩ := hrel
    by_cases hlt : j < n
    · obtain ⟨g', hg', hc⟩ := hH.out.2 (by omega)
      injection hg' with hg'; injection hg' with hg'; subst hg'
      obtain ⟨x0, x1, x2⟩ := hc j hlt
      have hft := first_take (hs := hs) (show j < hs.length by omega) b0
      obtain ⟨x, hx⟩ : ∃ x, hs.getD j hd0 = x := ⟨_, rfl⟩
      obtain ⟨y, hy⟩ : ∃ y, (hs.take j).foldl bestF b0 = y := ⟨_, rfl⟩
      rw [hx] at x0 x1 x2 hft
      rw [hy] at hft
      have hF2 := hF.out
      rw [hy] at hF2
      have FT := Lib.hid hft
      have i1 : (0 : Int) ≤ (j : Int) := by omega
      have i2 : (j : Int) < (n : Int) := by omega
      have BX := Lib.hid (below_one wr (.cells #[.int .i64 (x.1 : Int), .int .i64 x.2.1, .string x.2.2] 162))
      have X3 := Lib.hid (heIn_new wr x wr.heap.size 162 (0, 0) rfl)
      have F3 := Lib.hid (hF2.below BX.out)
      have H3 := Lib.hid (hH.out.below BX.out)
      have PQ := Lib.hid (show p + 1 < wr.heap.size from lt_of_cell hF2.1.1)
      clear hc hx hy hft hF hF2 hH
      go_upto_region 7 with fail
      clear x0 x1 x2
      generalize wr.alloc (.cells #[.int .i64 (x.1 : Int), .int .i64 x.2.1, .string x.2.2] 162) = w3 at *
      generalize wr.heap.size = q at *
      obtain ⟨y0, y1, y2⟩ := X3.out
      obtain ⟨u0, u1, u2⟩ := F3.out.1
      obtain ⟨z, hz⟩ : ∃ z, lessK x.2 y.2 = z := ⟨_, rfl⟩
      have CL := Lib.hid (mless_lit x.2 y.2 z w3 hz)
      have HZ := Lib.hid hz
      clear hz
      go_wp2_with fail
      refine CL.out.mono ?_
      rintro e w4 ⟨rfl, hb4⟩
      have X4 := Lib.hid (X3.out.below hb4)
      have F4 := Lib.hid (F3.out.below hb4)
      have H4 := Lib.hid (H3.out.below hb4)
      clear hb4 CL y0 y1 y2 u0 u1 u2
      cases z
      · have F5 := Lib.hid (show FstI w w4 p ((hs.take (j + 1)).foldl bestF b0) from by rw [FT.out]; unfold bestF; rw [HZ.out, if_neg (by decide)]; exact F4.out)
        go_wp2_with fail
        go_roundw
        case rel => exact ⟨j + 1, by omega, by go_num, F5, H4⟩
        case measure => simp [intOf] <;> omega
      · have F5 := Lib.hid (show FstI w (((w4.setCell ⟨p + 1, 0, none⟩ (.int .i64 (x.1 : Int))).setCell ⟨p + 1, 1, none⟩ (.int .i64 x.2.1)).setCell ⟨p + 1, 2, none⟩ (.string x.2.2)) p ((hs.take (j + 1)).foldl bestF b0) from by rw [FT.out]; unfold bestF; rw [HZ.out, if_pos rfl]; exact F4.out.store HP.out.symm)
        have H5 := Lib.hid (show HoldsH (((w4.setCell ⟨p + 1, 0, none⟩ (.int .i64 (x.1 : Int))).setCell ⟨p + 1, 1, none⟩ (.int .i64 x.2.1)).setCell ⟨p + 1, 2, none⟩ (.string x.2.2)) (some ⟨g, 0, none⟩) n hs from H4.out.far fun i => by
          have := LG.out
          rw [cset_far (by omega), cset_far (by omega), cset_far (by omega)])
        obtain ⟨y0, y1, y2⟩ := X4.out
        obtain ⟨u0, u1, u2⟩ := F4.out.1
        have f0 := F4.out.2.2.1
        go_wp2_with fail
        go_roundw
        case rel => exact ⟨j + 1, by omega, by go_num, F5, H5⟩
        case measure => simp [intOf] <;> omega
    · obtain rfl : j = n := by omega
      have hF2 := hF.out
      rw [List.take_of_length_le (by omega), RR.out] at hF2
      have F2 := Lib.hid hF2
      obtain ⟨u0, u1, u2⟩ := hF2.1
      obtain ⟨v0, v1, v2⟩ := hF2.2.1
      have f0 := hF2.2.2.2.1
      clear hF hF2
      go_wp2_with fail
      have hge : w.heap.size ≤ p := by have := HP.out; omega
      have BE := (((F2.out.2.2.2.2.setCell (p := ⟨p, 0, none⟩) hge (.int .i64 (R.1 : Int))).setCell (p := ⟨p, 1, none⟩) hge (.int .i64 R.2.1)).setCell (p := ⟨p, 2, none⟩) hge (.string R.2.2))
      exact bodyPost_ret (v := .tuple #[.agg #[.int .i64 (R.1 : Int), .int .i64 R.2.1, .string R.2.2], .bool true]) (by simp [results, go_sem, v0, v1, v2]) rfl ⟨rfl, BE⟩
end Go.Proofs.YtblipdmagfiigaaGreat
namespace Go.Proofs.YtblipdmagfiigaaGreat
open Go.RowKit
set_option linter.unusedVariables false
set_option maxRecDepth 20000
/-- a shard without where its items lie -/
def spl (x : SM) : SM := ⟨x.least, x.ended, x.seq, x.rcv, x.last, none, x.wn, 0, x.wait⟩
def popS (x : SM) : SM := ⟨x.least, x.ended, x.seq, x.rcv, x.last, none, x.wn - 1, 0, x.wait.tail⟩
theorem getD_spl (L : List SM) (i : Nat) : (L.map spl).getD i sm0 = spl (L.getD i sm0) := by
  by_cases h : i < L.length
  · rw [List.getD_eq_getElem?_getD, List.getD_eq_getElem?_getD, List.getElem?_map, List.getElem?_eq_getElem h]; rfl
  · rw [List.getD_eq_getElem?_getD, List.getD_eq_getElem?_getD, List.getElem?_map, List.getElem?_eq_none (by omega)]; rfl
theorem done_spl (most : Int) (T : List KV) (L : List SM) : doneB most T (L.map spl) = doneB most T L := by
  unfold doneB
  rw [List.any_map]
  rfl
theorem heads_spl (L : List SM) : ∀ n, headsN (L.map spl) n = headsN L n
  | 0 => rfl
  | n + 1 => by
    unfold headsN
    rw [heads_spl L n]
    unfold headOf
    rw [getD_spl]
    rfl
theorem may_spl (k : KV) (L : List SM) : (L.map spl).any (prM k) = L.any (prM k) := by
  rw [List.any_map]
  rfl
/-- so many tellings at most -/
def tellF (most : Int) : Nat → List KV → List SM → List KV → List KV × List SM × List KV
  | 0, T, P, out => (T, P, out)
  | f + 1, T, P, out => if doneB most T P then (T, P, out) else
      if headsN P P.length = [] then (T, P, out) else
      if P.any (prM (firstL (headsN P P.length)).2) then (T, P, out) else
      tellF most f (T ++ [(firstL (headsN P P.length)).2]) (P.set (firstL (headsN P P.length)).1 (popS (P.getD (firstL (headsN P P.length)).1 sm0))) (out ++ [(firstL (headsN P P.length)).2])
theorem heads_mem {L : List SM} {h : HD} : ∀ {n : Nat}, h ∈ headsN L n → h.1 < n ∧ 0 < (L.getD h.1 sm0).wn ∧ h.2 = (L.getD h.1 sm0).wait.getD 0 k0
  | 0, hm => by simp [headsN] at hm
  | n + 1, hm => by
    unfold headsN at hm
    rcases List.mem_append.1 hm with hm | hm
    · have := heads_mem hm
      exact ⟨by omega, this.2⟩
    · unfold headOf at hm
      split at hm
      · rename_i h0
        simp only [List.mem_singleton] at hm
        subst hm
        exact ⟨by simp, h0, rfl⟩
      · simp at hm
theorem fold_mem (hs : List HD) : ∀ (b : HD), hs.foldl bestF b = b ∨ hs.foldl bestF b ∈ hs := by
  induction hs with
  | nil => intro b; exact Or.inl rfl
  | cons x l ih =>
    intro b
    rw [List.foldl_cons]
    rcases ih (bestF b x) with h | h
    · rw [h]
      unfold bestF
      split
      · exact Or.inr (List.mem_cons_self ..)
      · exact Or.inl rfl
    · exact Or.inr (List.mem_cons_of_mem _ h)
theorem first_mem {hs : List HD} (h : hs ≠ []) : firstL hs ∈ hs := by
  unfold firstL
  cases hs with
  | nil => exact absurd rfl h
  | cons x l =>
    rcases fold_mem (x :: l) ((x :: l).getD 0 hd0) with h1 | h1
    · rw [h1]; simp
    · exact h1
/-- what waits, but the first -/
theorem holdsK_tail {w : World} {fb fo wn : Nat} {ks : List KV} {a : Option Addr} (h : HoldsK w (some ⟨fb, fo, none⟩) wn ks) (h0 : 0 < wn) (ha : 1 < wn → a = some ⟨fb, fo + 2, none⟩) : HoldsK w a (wn - 1) ks.tail := by
  have hl := h.1
  refine ⟨by rw [List.length_tail, hl], fun hp => ?_⟩
  obtain ⟨b, o, he, hc⟩ := h.2 h0
  injection he with he; injection he with e1 e2; subst e1 e2
  refine ⟨fb, fo + 2, ha (by omega), fun i hi => ?_⟩
  obtain ⟨c0, c1⟩ := hc (i + 1) (by omega)
  have e : ks.tail.getD i k0 = ks.getD (i + 1) k0 := by
    rw [List.getD_eq_getElem?_getD, List.getElem?_tail, ← List.getD_eq_getElem?_getD]
  rw [e, show fo + 2 + i * 2 = fo + (i + 1) * 2 by omega]
  exact ⟨c0, c1⟩
theorem smV_wait : ∀ (L : List SM) (i : Nat) (wa : Option Addr) (wn wc : Nat) (ks : List KV), i < L.length → (smV L).set (i * 7 + 6) (.slice wa wn wc) = smV (L.set i ⟨(L.getD i sm0).least, (L.getD i sm0).ended, (L.getD i sm0).seq, (L.getD i sm0).rcv, (L.getD i sm0).last, wa, wn, wc, ks⟩)
  | [], i, _, _, _, _, h => by simp at h
  | x :: l, 0, wa, wn, wc, ks, _ => by simp [smV]
  | x :: l, i + 1, wa, wn, wc, ks, h => by
    have ih := smV_wait l i wa wn wc ks (by simpa using h)
    have e1 : (i + 1) * 7 + 6 = i * 7 + 6 + 1 + 1 + 1 + 1 + 1 + 1 + 1 := by omega
    rw [e1]
    simp only [smV, List.set_cons_succ, List.getD_cons_succ]
    rw [ih]
/-- one more is told -/
theorem MMid.told {w w6 : World} {b : Nat} {most : Int} {ta : Option Addr} {tc g cap : Nat} {ra : Option Addr} {rc : Nat} {T : List KV} {L : List SM} {S : Nat → Prop} {o : Obj} {k : KV} (h : MMid w b most ta tc ra rc T L S)
    (own : w6.ownsRow 0 71 2 (.slice (some ⟨g, 0, none⟩) (T.length + 1) cap) (T.length + 1) (keysV T ++ [.int .i64 k.1, .string k.2]))
    (hg : (w.alloc o).grownBy w6 (Value.slice ta T.length tc).ownBlock) (hat : (Value.slice ta T.length tc).ownBlock = some g ∨ g = (w.alloc o).heap.size) (hlt : g < w6.heap.size) :
    MAt (w6.setCell ⟨b, 1, none⟩ (.slice (some ⟨g, 0, none⟩) (T.length + 1) cap)) b most (T ++ [k]) L (fun q => S q ∨ q = g) ∧ Turn S w (w6.setCell ⟨b, 1, none⟩ (.slice (some ⟨g, 0, none⟩) (T.length + 1) cap)) := by
  obtain ⟨h1, h2, h3, h4, h5, h6, h7, h8, h9, h10, h11⟩ := h
  have hza : (w.alloc o).heap.size = w.heap.size + 1 := by simp
  have hz6 := hg.size
  have hlb := h11 b h8
  have old : ∀ q, q < w.heap.size → (∀ r, ta = some ⟨r, 0, none⟩ → q ≠ r) → w6.heap[q]? = w.heap[q]? := fun q hq hn =>
    (hg.block q (by omega) (fun e => hn q (mownb h5 e) rfl)).trans (Below.heap_alloc _ _ _ (by omega))
  have ob := old b hlb (fun r e hq => (h9 r e).2.1 hq.symm)
  have cb : ∀ i, w6.cell? ⟨b, i, none⟩ = w.cell? ⟨b, i, none⟩ := fun i => World.cell?_of_block (w := w) ob
  have gb : g ≠ b := by
    rcases hat with e | e
    · exact (h9 g (mownb h5 e.symm)).2.1
    · omega
  have gS : ∀ q, S q → (∀ r, ta = some ⟨r, 0, none⟩ → q ≠ r) → q ≠ g := fun q hq hn e => by
    subst e
    rcases hat with e | e
    · exact hn q (mownb h5 e.symm) rfl
    · have := h11 q hq; omega
  have sz : (w6.setCell ⟨b, 1, none⟩ (.slice (some ⟨g, 0, none⟩) (T.length + 1) cap)).heap.size = w6.heap.size := by simp [World.setCell]
  have hlen : (T ++ [k]).length = T.length + 1 := by simp
  have hkv : keysV (T ++ [k]) = keysV T ++ [.int .i64 k.1, .string k.2] := keysV_snoc T k
  have raS : ∀ r, ra = some ⟨r, 0, none⟩ → ∀ q, ta = some ⟨q, 0, none⟩ → r ≠ q := fun r e q e2 e3 => (h9 q e2).2.2 (by rw [e, e3])
  refine ⟨⟨some ⟨g, 0, none⟩, cap, ra, rc, ?_, ?_, ?_, fun i => ?_, ?_, ?_, fun x hx => ?_, Or.inl h8, fun q hq => ?_, fun q hq => ⟨Or.inl (h10 q hq).1, (h10 q hq).2⟩, fun q hq => ?_⟩, ?_⟩
  · rw [cset_ne (by omega), cb]; exact h1
  · rw [hlen]; exact cset_at ((cb 1).trans h2)
  · rw [cset_ne (by omega), cb]; exact h3
  · rw [fset_any, World.frozen?_of_block (w := w) ob]; exact h4 i
  · rw [hlen, hkv]
    exact mowns_block0 own (fun q hq => by injection hq with hq; injection hq with hq; subst hq; exact mheap_far gb)
  · refine mowns_block0 h6 (fun r hr => ?_)
    rw [mheap_far (h10 r hr).2]
    exact old r (h11 r (h10 r hr).1) (raS r hr)
  · obtain ⟨y1, y2, y3, y4⟩ := h7 x hx
    refine ⟨holdsK_blocks y1 (fun fb fo e => ?_), y2, y3, fun fb fo e => ⟨Or.inl (y4 fb fo e).1, (y4 fb fo e).2.1, fun e2 => ?_, (y4 fb fo e).2.2.2⟩⟩
    · rw [mheap_far (y4 fb fo e).2.1]
      exact old fb (h11 fb (y4 fb fo e).1) (fun r hr e2 => (y4 fb fo e).2.2.1 (by rw [hr, e2]))
    · injection e2 with e2; injection e2 with e2
      exact gS fb (y4 fb fo e).1 (fun r hr e3 => (y4 fb fo e).2.2.1 (by rw [hr, e3])) e2.symm
  · injection hq with hq; injection hq with hq; subst hq
    refine ⟨Or.inr rfl, gb, fun e => ?_⟩
    exact gS g (h10 g e).1 (raS g e) rfl
  · rw [sz]
    rcases hq with hq | hq
    · have := h11 q hq; omega
    · rw [hq]; exact hlt
  · refine Turn.trans ?_ (Turn.setCell h8)
    exact ⟨hg.os, hg.tape, hg.output, by omega, fun q hq hn => old q hq (fun r e h2 => hn (by rw [h2]; exact (h9 r e).1))⟩
end Go.Proofs.YtblipdmagfiigaaGreat
namespace Go.Proofs.YtblipdmagfiigaaGreat
open Go.RowKit
set_option linter.unusedVariables false
set_option maxRecDepth 20000
def sliceLen : Value → Nat
  | .slice _ n _ => n
  | _ => 0
/-- told in this call -/
structure TIn (w0 w : World) (b : Nat) (most : Int) (S0 : Nat → Prop) (T : List KV) (L : List SM) (S : Nat → Prop) (oa : Option Addr) (oc : Nat) (out : List KV) : Prop where
  m : MAt w b most T L S
  o : w.ownsRow w0.heap.size 71 2 (.slice oa out.length oc) out.length (keysV out)
  a : ∀ g, oa = some ⟨g, 0, none⟩ → ¬ S g
  s : ∀ k, S k → S0 k ∨ w0.heap.size ≤ k
  t : Turn S0 w0 w
theorem TIn.more {w0 w w' : World} {b : Nat} {most : Int} {S0 : Nat → Prop} {T : List KV} {L : List SM} {S : Nat → Prop} {oa : Option Addr} {oc : Nat} {out : List KV} (h : TIn w0 w b most S0 T L S oa oc out) (hb : Below w.heap.size w w') : TIn w0 w' b most S0 T L S oa oc out :=
  ⟨h.m.below hb, owns_below h.o hb, h.a, h.s, h.t.trans (Turn.of_below hb)⟩
theorem TIn.step {w0 w w' : World} {b : Nat} {most : Int} {S0 : Nat → Prop} {T T' : List KV} {L L' : List SM} {S S' : Nat → Prop} {oa : Option Addr} {oc : Nat} {out : List KV} (h : TIn w0 w b most S0 T L S oa oc out) (m : MAt w' b most T' L' S') (t : Turn S w w') (hs : ∀ k, S' k → S k ∨ w.heap.size ≤ k) : TIn w0 w' b most S0 T' L' S' oa oc out := by
  have hz := h.t.size
  refine ⟨m, mowns_block0 h.o (fun g hg => t.block g ?_ (h.a g hg)), fun g hg hS => ?_, fun k hk => ?_, ?_⟩
  · have := h.o.lt g (by rw [hg]; rfl); exact this.2
  · rcases hs g hS with x | x
    · exact h.a g hg x
    · have := h.o.lt g (by rw [hg]; rfl); omega
  · rcases hs k hk with x | x
    · exact h.s k x
    · exact Or.inr (by omega)
  · exact h.t.trans' t (fun k hk => h.s k hk)
theorem TIn.out {w0 w w6 : World} {b : Nat} {most : Int} {S0 : Nat → Prop} {T : List KV} {L : List SM} {S : Nat → Prop} {oa : Option Addr} {oc g cap : Nat} {out : List KV} {k : KV} {o : Obj} (h : TIn w0 w b most S0 T L S oa oc out)
    (own : w6.ownsRow w0.heap.size 71 2 (.slice (some ⟨g, 0, none⟩) (out.length + 1) cap) (out.length + 1) (keysV out ++ [.int .i64 k.1, .string k.2]))
    (hg : (w.alloc o).grownBy w6 (Value.slice oa out.length oc).ownBlock) (hat : (Value.slice oa out.length oc).ownBlock = some g ∨ g = (w.alloc o).heap.size) : TIn w0 w6 b most S0 T L S (some ⟨g, 0, none⟩) cap (out ++ [k]) := by
  have hza : (w.alloc o).heap.size = w.heap.size + 1 := by simp
  have hz6 := hg.size
  have hz := h.t.size
  have hm := h.m.lt
  have old : ∀ q, q < w.heap.size → (∀ r, oa = some ⟨r, 0, none⟩ → q ≠ r) → w6.heap[q]? = w.heap[q]? := fun q hq hn =>
    (hg.block q (by omega) (fun e => hn q (mownb h.o e) rfl)).trans (Below.heap_alloc _ _ _ (by omega))
  have hS : ∀ q, S q → ∀ r, oa = some ⟨r, 0, none⟩ → q ≠ r := fun q hq r e e2 => h.a r e (by rw [← e2]; exact hq)
  refine ⟨h.m.blocks (by omega) (fun q hq => old q (hm q hq) (hS q hq)), ?_, fun q hq => ?_, h.s, ?_⟩
  · rw [List.length_append, keysV_snoc]; exact own
  · injection hq with hq; injection hq with hq; subst hq
    rcases hat with e | e
    · exact h.a g (mownb h.o e.symm)
    · intro x; have := hm g x; omega
  · refine h.t.trans' (G := fun q => ∃ r, oa = some ⟨r, 0, none⟩ ∧ q = r) ?_ (fun q hq => ?_)
    · exact ⟨hg.os, hg.tape, hg.output, by omega, fun q hq hn => old q hq (fun r e e2 => hn ⟨r, e, e2⟩)⟩
    · obtain ⟨r, e, rfl⟩ := hq
      have := h.o.lt q (by rw [e]; rfl); exact Or.inr this.1
def TellP (w : World) (b : Nat) (most : Int) (S : Nat → Prop) (R : List KV × List SM × List KV) (e : Ending) (w' : World) : Prop :=
  ∃ oa oc L S', e = .returned (.slice oa R.2.2.length oc) ∧ TIn w w' b most S R.1 L S' oa oc R.2.2 ∧ L.map spl = R.2.1
set_option maxHeartbeats 12800000 in
set_option maxRecDepth 100000 in
theorem mtell_any (N : Nat) (b : Nat) {most : Int} {T0 : List KV} {L0 : List SM} {S0 : Nat → Prop} (w : World) (h : MAt w b most T0 L0 S0) (hl : L0.length ≤ 1000) (hN : most ≤ (T0.length : Int) + N) (hN2 : N ≤ 1000) (hT : T0.length ≤ 1000) :
    Calls Tryz.prog 59 #[.pointer (some ⟨b, 0, none⟩)] w (TellP w b most S0 (tellF most N T0 (L0.map spl) [])) := by
  obtain ⟨i0, hi0, hz0, hz1, hz2⟩ := info_parts item_info
  obtain ⟨R, hR⟩ : ∃ R, tellF most N T0 (L0.map spl) [] = R := ⟨_, rfl⟩
  rw [hR]
  have HR := Lib.hid hR
  have I0 := Lib.hid (show TIn w w b most S0 T0 L0 S0 none 0 [] from ⟨h, World.ownsRow_nil _ _ _ _, fun g hg => (by cases hg), fun k hk => Or.inl hk, Turn.refl _ _⟩)
  have HL := Lib.hid hl
  clear h hR hl
  go_enter Tryz.func59, Tryz.ntmps59
  go_wp2_with fail
  go_loopw [3] (fun ov wr => ∃ (k n : Nat) (T : List KV) (L : List SM) (S : Nat → Prop) (oa : Option Addr) (oc : Nat) (out : List KV), ov = .slice oa n oc ∧ n + k = N ∧ out.length = n ∧ Hid (tellF most k T (L.map spl) out = R) ∧ Hid (most ≤ (T.length : Int) + k) ∧ Hid (L.length ≤ 1000) ∧ Hid (T.length ≤ 1000 + n) ∧ Hid (TIn w wr b most S0 T L S oa oc out)) (fun ov _ => N - sliceLen ov)
  case atStart => exact ⟨N, 0, T0, L0, S0, none, 0, [], rfl, by omega, rfl, HR, Lib.hid hN, HL, Lib.hid (by omega), I0⟩
  case round =>
    obtain ⟨k, n, T, L, S, oa, oc, out, rfl, hnk, hol, hF, hM, hLl, hTl, hI⟩ := hrel
    obtain ⟨zd, hzd⟩ : ∃ zd, doneB most T L = zd := ⟨_, rfl⟩
    have CD := Lib.hid (mdone_any zd b wr hI.out.m hLl.out hzd)
    have HZD := Lib.hid hzd
    clear hzd
    go_wp2_with fail
    refine CD.out.mono ?_
    rintro e w2 ⟨rfl, hb2⟩
    have I2 := Lib.hid (hI.out.more hb2)
    clear hb2 CD hI
    have FIN := Lib.hid (fun (hr : R = (T, L.map spl, out)) w' (hi : TIn w w' b most S0 T L S oa oc out) => (show TellP w b most S0 R (.returned (.slice oa n oc)) w' from by
      rw [hr]
      exact ⟨oa, oc, L, S, by rw [hol], hi, rfl⟩))
    cases zd
    case true =>
      have HE := Lib.hid (show R = (T, L.map spl, out) from by
        rw [← hF.out]
        cases k with
        | zero => rfl
        | succ k => unfold tellF; rw [done_spl, HZD.out, if_pos rfl])
      go_wp2_with fail
      go_ret
      exact FIN.out HE.out _ I2.out
    obtain ⟨k, rfl⟩ : ∃ k', k = k' + 1 := by
      refine ⟨k - 1, ?_⟩
      have h1 := HZD.out
      unfold doneB at h1
      have h2 := hM.out
      by_cases hk0 : k = 0
      · subst hk0
        rw [decide_eq_true (by omega)] at h1
        simp at h1
      · omega
    have CH := Lib.hid (mheads_any b w2 I2.out.m hLl.out)
    obtain ⟨hs, hhs⟩ : ∃ hs, headsN L L.length = hs := ⟨_, rfl⟩
    have STEP := Lib.hid (show (if hs = [] then (T, L.map spl, out) else if L.any (prM (firstL hs).2) then (T, L.map spl, out) else tellF most k (T ++ [(firstL hs).2]) ((L.map spl).set (firstL hs).1 (popS ((L.map spl).getD (firstL hs).1 sm0))) (out ++ [(firstL hs).2])) = R from by
      rw [← hF.out]
      conv => rhs; unfold tellF
      rw [done_spl, HZD.out, List.length_map, heads_spl, hhs, may_spl]
      rfl)
    have HM := Lib.hid (fun (x : HD) (hx : x ∈ hs) => heads_mem (L := L) (n := L.length) (by rw [hhs]; exact hx))
    have HLN := Lib.hid (show hs.length ≤ L.length from hhs ▸ headsN_len L _)
    rw [hhs] at CH
    clear hhs
    go_wp2_with fail
    refine CH.out.mono ?_
    rintro e w3 ⟨ha, hc, rfl, hho, hb3⟩
    have I3 := Lib.hid (I2.out.more hb3)
    have HH := Lib.hid (holdsH_own hho)
    clear hb3 CH hho I2
    rcases Nat.eq_zero_or_pos hs.length with hlen0 | hlenp
    · have hs0 : hs = [] := List.eq_nil_of_length_eq_zero hlen0
      have HE := Lib.hid (show R = (T, L.map spl, out) from by rw [← STEP.out, if_pos hs0])
      rw [hlen0]
      clear hs0
      go_wp2_with fail
      refine (mfirst_nil ha hc _).mono ?_
      rintro e w4 ⟨rfl, hb4⟩
      have I4 := Lib.hid ((I3.out.more hb4).more (below_one w4 (.cells #[.int .i64 0, .int .i64 0, .string ⟨#[]⟩] 162)))
      clear hb4
      go_wp2_with fail
      go_ret
      exact FIN.out HE.out _ I4.out
    · have CF := Lib.hid (mfirst_any ha hs.length hc hs w3 HH.out hlenp (by have := HLN.out; have := hLl.out; omega))
      have hsn : hs ≠ [] := fun e => by rw [e] at hlenp; simp at hlenp
      have HHD := Lib.hid (HM.out _ (first_mem hsn))
      have STEP2 := STEP.out
      rw [if_neg hsn] at STEP2
      obtain ⟨⟨fi, fk⟩, hfst⟩ : ∃ f, firstL hs = f := ⟨_, rfl⟩
      rw [hfst] at CF HHD STEP2
      have ST := Lib.hid STEP2
      clear STEP2 hfst hsn STEP
      go_wp2_with fail
      refine CF.out.mono ?_
      rintro e w4 ⟨rfl, hb4⟩
      have I4 := Lib.hid ((I3.out.more hb4).more (below_one w4 (.cells #[.int .i64 (fi : Int), .int .i64 fk.1, .string fk.2] 162)))
      have E4 := Lib.hid (heIn_new w4 (fi, fk) w4.heap.size 162 (0, 0) rfl)
      have QN := Lib.hid (show ¬ S w4.heap.size from fun hs => by have := (I3.out.more hb4).m.lt _ hs; omega)
      clear hb4 CF I3
      go_upto_region 6 with fail
      generalize w4.alloc (.cells #[.int .i64 (fi : Int), .int .i64 fk.1, .string fk.2] 162) = w5 at *
      generalize w4.heap.size = q at *
      obtain ⟨e0, e1, e2⟩ := E4.out
      simp only at e0 e1 e2
      obtain ⟨zm, hzm⟩ : ∃ zm, L.any (prM fk) = zm := ⟨_, rfl⟩
      have CM := Lib.hid (mmay_any fk zm b w5 I4.out.m hLl.out hzm)
      have HZM := Lib.hid hzm
      clear hzm
      go_wp2_with fail
      refine CM.out.mono ?_
      rintro e w6 ⟨rfl, hb6⟩
      have I6 := Lib.hid (I4.out.more hb6)
      have E6 := Lib.hid (E4.out.below hb6)
      clear hb6 CM e0 e1 e2 I4 E4
      cases zm
      case true =>
        have HE := Lib.hid (show R = (T, L.map spl, out) from by rw [← ST.out, HZM.out, if_pos rfl])
        go_wp2_with fail
        go_ret
        exact FIN.out HE.out _ I6.out
      have ST2 := Lib.hid (show tellF most k (T ++ [fk]) ((L.map spl).set fi (popS ((L.map spl).getD fi sm0))) (out ++ [fk]) = R from by rw [← ST.out, HZM.out]; rfl)
      have hxm := mem_sm (L := L) HHD.out.1
      obtain ⟨ta, tc, ra, rc, M⟩ := I6.out.m
      obtain ⟨m1, m2, m3, m4, m5, m6, m7, m8, m9, m10, m11⟩ := M
      obtain ⟨g, rfl⟩ : ∃ g, ra = some ⟨g, 0, none⟩ := by
        obtain ⟨g, cap', hv⟩ := Joins.ownsRow_form m6 (by have := HHD.out.1; omega)
        simp only [Value.slice.injEq] at hv
        exact ⟨g, hv.1⟩
      have MD := Lib.hid (show MMid w6 b most ta tc (some ⟨g, 0, none⟩) rc T L S from ⟨m1, m2, m3, m4, m5, m6, m7, m8, m9, m10, m11⟩)
      have hwt := m7 _ hxm
      obtain ⟨x, hx⟩ : ∃ x, L.getD fi sm0 = x := ⟨_, rfl⟩
      have h0 := HHD.out.2.1
      rw [hx] at h0 hwt
      have hc6 : w6.cell? ⟨g, fi * 7 + 6, none⟩ = some (.slice x.wa x.wn x.wc) := by
        have h := (m6.cellAt (fi * 7 + 6) (by have := HHD.out.1; omega)).trans (smV_at L fi HHD.out.1).2.2.2.2.2.2
        rw [hx] at h; exact h
      have hf6 : w6.frozen? ⟨g, fi * 7 + 6, none⟩ = false := m6.frozenAt _
      obtain ⟨k1, k2, k3, k4⟩ := hwt
      have WT := Lib.hid (show WtIn w6 S b ta (some ⟨g, 0, none⟩) x from ⟨k1, k2, k3, k4⟩)
      obtain ⟨fb, fo, ha, -⟩ := k1.2 h0
      obtain ⟨least, ended, seq, rcv, last, wa, wn, wc, wait⟩ := x
      simp only at ha h0 k3 hc6
      subst ha
      obtain ⟨n0, rfl⟩ : ∃ n0, wn = n0 + 1 := ⟨wn - 1, by omega⟩
      obtain ⟨c0, rfl⟩ : ∃ c0, wc = c0 + 1 := ⟨wc - 1, by omega⟩
      obtain ⟨e0, e1, e2⟩ := E6.out
      simp only at e0 e1 e2
      have i1 : (0 : Int) ≤ (fi : Int) := by omega
      have i2 : (fi : Int) < (L.length : Int) := by have := HHD.out.1; omega
      have M0 := Lib.hid m1
      have M1 := Lib.hid (show w6.cell? ⟨b, 1, none⟩ = some (.slice ta T.length tc) ∧ w6.frozen? ⟨b, 1, none⟩ = false from ⟨m2, m4 1⟩)
      have HX := Lib.hid hx
      clear m1 m2 m4 m5 m6 m7 m8 m9 m10 m11 k1 k2 k4 h0 hx hxm
      go_upto_region 8 with fail
      go_quiet (fail)
      go_upto_region 9 with fail
      have hil : fi < L.length := HHD.out.1
      have hx := HX.out
      have hset := smV_wait L fi (if c0 = 0 then some ⟨fb, fo, none⟩ else some ⟨fb, fo + 2, none⟩) n0 c0 wait.tail hil
      rw [hx] at hset
      have own := ((owns_below MD.out.2.2.2.2.2.1 (below_drewN w6 nq)).stored (fi * 7 + 6) (.slice (if c0 = 0 then some ⟨fb, fo, none⟩ else some ⟨fb, fo + 2, none⟩) n0 c0)).1
      rw [hset] at own
      have PT := Lib.hid (MD.out.put (below_drewN w6 nq) (Turn.setCell rfl) own (by simp) (fun y hy => by
        rcases List.mem_or_eq_of_mem_set hy with hy | rfl
        · obtain ⟨y1, y2, y3, y5⟩ := MD.out.2.2.2.2.2.2.1 y hy
          exact ⟨y1.below (below_drewN w6 nq), y2, y3, fun fb fo e => Or.inl ⟨(y5 fb fo e).1, (y5 fb fo e).2.1, (y5 fb fo e).2.2.1, fun e2 => (y5 fb fo e).2.2.2 (by rw [e2])⟩⟩
        · obtain ⟨y1, y2, y3, y5⟩ := WT.out
          simp only at y1 y5
          refine ⟨holdsK_tail (y1.below (below_drewN w6 nq)) (by omega) (fun h => ?_), fun e => ?_, by simp only; omega, fun fb' fo' e => Or.inl ?_⟩
          · rw [if_neg (by omega)]
          · simp only at e; split at e <;> cases e
          · have e2 : fb' = fb := by simp only at e; split at e <;> (injection e with e; injection e with e; exact e.symm)
            subst e2
            have := y5 fb' fo rfl
            exact ⟨this.1, this.2.1, this.2.2.1, fun e => this.2.2.2 (by rw [e])⟩))
      have QN8 := Lib.hid (show ¬ (fun k => S k ∨ (w6.heap.size ≤ k ∧ k < (w6.drewN nq).heap.size)) q from fun hh => by
        rcases hh with hh | hh
        · exact QN.out hh
        · have h1 : q < w6.heap.size := lt_of_cell e0
          omega)
      have QL := Lib.hid (show q < w6.heap.size from lt_of_cell e0)
      have I8 := Lib.hid (I6.out.step PT.out.1 PT.out.2 (fun k hk => hk.imp id (fun hh => hh.1)))
      have E8 := Lib.hid (show HeIn _ q (fi, fk) from E6.out.of (fun i => PT.out.2.cell (o := i) QL.out QN.out))
      have Z8 := Lib.hid PT.out.2.size
      have SPL := Lib.hid (show (L.set fi ⟨least, ended, seq, rcv, last, if c0 = 0 then some ⟨fb, fo, none⟩ else some ⟨fb, fo + 2, none⟩, n0, c0, wait.tail⟩).map spl = (L.map spl).set fi (popS ((L.map spl).getD fi sm0)) from by
        rw [getD_spl, hx, List.map_set]; rfl)
      have LEN := Lib.hid (show (L.set fi ⟨least, ended, seq, rcv, last, if c0 = 0 then some ⟨fb, fo, none⟩ else some ⟨fb, fo + 2, none⟩, n0, c0, wait.tail⟩).length = L.length from by simp)
      subst hol
      clear hset own hx m3 hc6 hf6 M1 M0 MD WT E6 I6 e0 e1 e2 PT hil HX
      generalize (w6.drewN nq).setCell ⟨g, fi * 7 + 6, none⟩ (.slice (if c0 = 0 then some ⟨fb, fo, none⟩ else some ⟨fb, fo + 2, none⟩) n0 c0) = w8 at *
      generalize (fun k => S k ∨ (w6.heap.size ≤ k ∧ k < (w6.drewN nq).heap.size)) = S8 at *
      generalize L.set fi ⟨least, ended, seq, rcv, last, if c0 = 0 then some ⟨fb, fo, none⟩ else some ⟨fb, fo + 2, none⟩, n0, c0, wait.tail⟩ = L8 at *
      obtain ⟨ta, tc, ra, rc, M⟩ := I8.out.m
      obtain ⟨e0, e1, e2⟩ := E8.out
      simp only at e0 e1 e2
      obtain ⟨m1, m2, m3, m4, m5, m6, m7, m8, m9, m10, m11⟩ := M
      have MD := Lib.hid (show MMid w8.drew b most ta tc ra rc T L8 S8 from ⟨m1, m2, m3, m4, m5, m6, m7, m8, m9, m10, m11⟩)
      have OW := Lib.hid (show w8.drew.ownsRow 0 71 2 (.slice ta T.length tc) T.length (keysV T) from owns_below m5 (Below.refl _ _).drew)
      have AB := Lib.hid (show ∀ o w', (w8.drew.alloc o).grownBy w' (Value.slice ta T.length tc).ownBlock → w'.cell? ⟨b, 1, none⟩ = some (.slice ta T.length tc) ∧ w'.frozen? ⟨b, 1, none⟩ = false from fun o w' hg => by
        have lb := m11 b m8
        have ob := ((hg.block b (by simp; omega) (fun e => (m9 b (mownb m5 e)).2.1 rfl)).trans (Below.heap_alloc _ _ _ lb))
        exact ⟨(World.cell?_of_block (w := w8) ob).trans m2, (World.frozen?_of_block (w := w8) ob).trans (m4 1)⟩)
      have HG := Lib.hid (show ∀ g3, ((Value.slice ta T.length tc).ownBlock = some g3 ∨ g3 = w8.drew.heap.size + 1) → S8 g3 ∨ w8.drew.heap.size ≤ g3 from fun g3 h => by
        rcases h with h | h
        · exact Or.inl (m9 g3 (mownb m5 h.symm)).1
        · exact Or.inr (by omega))
      have HTL := Lib.hid hTl.out
      have htl : T.length ≤ 2000 := by have := hTl.out; omega
      clear m1 m3 m4 m5 m6 m7 m8 m9 m10 m11
      have n1 : w8.drew.cell? ⟨b, 1, none⟩ = some (.slice ta T.length tc) := m2
      have n2 : w8.drew.cell? ⟨q, 1, none⟩ = some (.int .i64 fk.1) := e1
      have n3 : w8.drew.cell? ⟨q, 2, none⟩ = some (.string fk.2) := e2
      have n4 : (w8.alloc (.cells #[.int .i64 fk.1, .string fk.2] 71)).drew.cell? ⟨b, 1, none⟩ = some (.slice ta T.length tc) := (Below.cell (below_one w8 _) (p := ⟨b, 1, none⟩) (lt_of_cell m2)).trans m2
      have n5 : (w8.alloc (.cells #[.int .i64 fk.1, .string fk.2] 71)).cell? ⟨b, 1, none⟩ = some (.slice ta T.length tc) := n4
      go_region_law
        (refine step_append_lies _ (by rfl) _ _ _ (by rfl) 0 71 i0 _ 2 24 Tryz.underlying24 hi0 hz0 hz1 hz2 rfl (by omega) (.slice ta T.length tc) T.length (keysV T) (by rfl) (OW.out.alloc _) ⟨w8.drew.heap.size, 0, none⟩ 1 1 [.int .i64 fk.1, .string fk.2] (by rfl) (by rfl) (World.news_of_block (cs := #[.int .i64 fk.1, .string fk.2]) (t := 71) (fr := (0, 0)) (heap_alloc_new w8.drew _)) (by simp [Value.oneCell']) (by omega) (by unfold maxLen; omega) (by omega) (by omega) (w8.drew.heap.size + 1) (by simp) ?_; intro g3 c3 w9 hown9 hgrow9 hat9 hlt9; obtain ⟨x0, x1⟩ := AB.out _ _ hgrow9)
      all_goals
        have GT := MMid.told (k := fk) MD.out hown9 hgrow9 (hat9.imp id (fun e => by simp; exact e)) hlt9
        have I9 := Lib.hid ((I8.out.more (Below.refl _ _).drew).step GT.1 GT.2 (fun k hk => hk.elim Or.inl (fun e => by rw [e]; exact HG.out g3 hat9)))
        have E9 := Lib.hid (show HeIn _ q (fi, fk) from E8.out.of (fun i => GT.2.cell (o := i) (show q < w8.drew.heap.size from lt_of_cell n2) QN8.out))
        clear GT hown9 hgrow9 hat9 hlt9 x0 x1 m2 e0 e1 e2 n1 n2 n3 n4 n5 I8 E8 MD OW AB HG QN8
        generalize w9.setCell ⟨b, 1, none⟩ (.slice (some ⟨g3, 0, none⟩) (T.length + 1) c3) = w10 at *
        obtain ⟨e0, e1, e2⟩ := E9.out
        simp only at e0 e1 e2
        have OO := Lib.hid I9.out.o
        have OT := Lib.hid I9.out.t.size
        go_wp2_with (at_builtin; refine wpList_append_lies _ rfl (.tmp 52) (.tmp 55) 24 rfl w.heap.size 71 i0 _ 2 24 Tryz.underlying24 hi0 hz0 hz1 hz2 rfl (by omega) (.slice oa out.length oc) out.length (keysV out) (by rfl) (OO.out.alloc _) ⟨w10.heap.size, 0, none⟩ 1 1 [.int .i64 fk.1, .string fk.2] (by rfl) (by rfl) (World.news_of_block (cs := #[.int .i64 fk.1, .string fk.2]) (t := 71) (fr := (0, 0)) (heap_alloc_new w10 _)) (by simp [Value.oneCell']) (by omega) (by unfold maxLen; omega) (by omega) (by have := OT.out; simp; omega) (w10.heap.size + 1) (by simp) ?_; intro g4 c4 w11 hown11 hgrow11 hat11 hlt11)
        have I11 := Lib.hid (I9.out.out hown11 hgrow11 (hat11.imp id (fun e => by simp; exact e)))
        go_roundw
        case rel => exact ⟨k, out.length + 1, T ++ [fk], L8, _, some ⟨g4, 0, none⟩, c4, out ++ [fk], rfl, by omega, by simp, Lib.hid (by rw [SPL.out]; exact ST2.out), Lib.hid (by have := hM.out; simp; omega), Lib.hid (by rw [LEN.out]; exact hLl.out), Lib.hid (by have := HTL.out; simp; omega), I11⟩
        case measure => simp only [sliceLen]; omega
end Go.Proofs.YtblipdmagfiigaaGreat
namespace Go.Proofs.YtblipdmagfiigaaGreat
open Go.RowKit Go.Maps
set_option linter.unusedVariables false
set_option maxRecDepth 20000
theorem lawMv : Keyed Tryz.prog 3 := int_keyed Tryz.underlying3
/-- an element reads as itself -/
def heldE (v : Value) : Option (DataW Value × List MemPlace) := some (.held v, [])
theorem tight_mapV {P : Program} {k : TypeId} {R : Value → Option (DataW Value × List MemPlace)} {w : World} {b n : Nat} {D : DataW Value} (h : w.ownsMap P k R b n D) : w.ownsMap P k R b (Maps.size D) D := by
  obtain ⟨es, clock, hb, F, hs, rfl⟩ := h
  exact ⟨es, clock, hb, F, by simp [Maps.size, length_sorted], rfl⟩
def wfI (x : Int) : Prop := (Lit.int .i64 x).wf = true
/-- block b is a map of n entries: what f says -/
def MapV (w : World) (b n : Nat) (f : Int → Option Value) : Prop :=
  ∃ D : DataW Value, w.ownsMap Tryz.prog 3 heldE b n D ∧ Maps.size D = n ∧
    ∀ x, wfI x → Maps.has D (.int .i64 x) = (f x).isSome ∧ ∀ v, f x = some v → ∀ z, D.atKey (.int .i64 x) z = .held v
/-- f with v at x -/
def vset (f : Int → Option Value) (x : Int) (v : Option Value) : Int → Option Value := fun a => if a = x then v else f a
theorem vset_at (f : Int → Option Value) (x : Int) (v : Option Value) : vset f x v x = v := by simp [vset]
theorem vset_ne (f : Int → Option Value) (x a : Int) (v : Option Value) (h : ¬ a = x) : vset f x v a = f a := by simp only [vset, if_neg h]
theorem MapV.lt {w : World} {b n : Nat} {f : Int → Option Value} (h : MapV w b n f) : b < w.heap.size := by obtain ⟨D, h, _⟩ := h; exact h.lt
theorem MapV.block {w w' : World} {b n : Nat} {f : Int → Option Value} (h : MapV w b n f) (hb : w'.heap[b]? = w.heap[b]?) : MapV w' b n f := by
  obtain ⟨D, ⟨es, clock, h1, h2⟩, h3⟩ := h
  exact ⟨D, ⟨es, clock, hb.trans h1, h2⟩, h3⟩
theorem MapV.turn {w w' : World} {b n : Nat} {f : Int → Option Value} {F : Nat → Prop} (h : MapV w b n f) (t : Turn F w w') (hF : ¬ F b) : MapV w' b n f := h.block (t.block b h.lt hF)
theorem MapV.below {w w' : World} {b n : Nat} {f : Int → Option Value} (h : MapV w b n f) (t : Below w.heap.size w w') : MapV w' b n f := h.block (t.block b h.lt)
theorem MapV.setCell {w : World} {b n p o : Nat} {v : Value} {f : Int → Option Value} (h : MapV w b n f) (hp : b ≠ p) : MapV (w.setCell ⟨p, o, none⟩ v) b n f := h.block (Below.heap_setCell _ _ _ _ hp)
theorem mapV_made (w : World) : MapV (w.alloc (.map #[] 0)) w.heap.size 0 (fun _ => none) :=
  ⟨.map [], World.ownsMap_made w _ _ _, rfl, fun x _ => ⟨rfl, fun v h => by cases h⟩⟩
theorem TurnV.of_mapTurned {F : Nat → Prop} {w w' : World} {b : Nat} (h : w.mapTurned w' b) (hb : F b) : Turn F w w' := by
  have g := h.grown
  exact ⟨g.os, g.tape, g.output, g.size, fun k hk hn => g.block k hk (fun e => hn (by cases e; exact hb))⟩
/-- a map's type, its elements' type, and their zero -/
structure MapT (mt et : TypeId) (zv : Value) : Prop where
  u : Tryz.prog.underlying mt = some (.map 3 et)
  z : ∀ w, (zeroValue et).run Tryz.prog w = .ok zv w
theorem MapV.put_run {mt et : TypeId} {zv : Value} (T : MapT mt et zv) {w : World} {b n : Nat} {f : Int → Option Value} (H : MapV w b n f) (hn : n < maxLen) (x : Int) (val : Value) (hk : wfI x) :
    ∃ w', (Instr.mapUpdate mt (.map (some b)) (.int .i64 x) val).run Tryz.prog w = .ok () w' ∧ MapV w' b (if (f x).isSome then n else n + 1) (vset f x (some val)) ∧ w.mapTurned w' b := by
  obtain ⟨D, hown, hs, hf⟩ := H
  have hkey := keyOf_int_mk Tryz.underlying3 hk
  obtain ⟨w', hrun, r1, r2⟩ := hown.store lawMv T.u hn hkey (show heldE val = some (.held val, []) from rfl)
  have hD := hown.isMap
  have hsz := Maps.size_put (k := .int .i64 x) (hown.tidy lawMv) (.held val)
  rw [(hf x hk).1, hs] at hsz
  refine ⟨w', hrun, ⟨_, hsz ▸ tight_mapV r1, hsz, fun a ha => ?_⟩, r2⟩
  by_cases e : a = x
  · subst e
    rw [vset_at]
    exact ⟨Maps.has_put_same (k := .int .i64 a) hD trivial _, fun v h z => by injection h with h; subst h; exact Maps.atKey_put_same (k := .int .i64 a) hD trivial _ _⟩
  · have hne : (Lit.int .i64 a) ≠ .int .i64 x := fun h => e (by injection h)
    rw [vset_ne _ _ _ _ e]
    exact ⟨by rw [Maps.has_put_other hne]; exact (hf a ha).1, fun v h z => by rw [Maps.atKey_put_other hne]; exact (hf a ha).2 v h z⟩
theorem MapV.got {w : World} {f : Int → Option Value} {D : DataW Value} {x : Int} {v zv : Value} {ps : List MemPlace} (hf : Maps.has D (.int .i64 x) = (f x).isSome ∧ ∀ v, f x = some v → ∀ z, D.atKey (.int .i64 x) z = .held v) (hv : heldE v = some (D.atKey (.int .i64 x) (.held zv), ps)) : v = (f x).getD zv := by
  have hc : DataW.held v = D.atKey (.int .i64 x) (.held zv) := by
    unfold heldE at hv
    injection hv with h; injection h
  cases hfk : f x with
  | none =>
    have h1 := hf.1
    rw [hfk] at h1
    rw [Maps.atKey_of_not_has (by simpa using h1)] at hc
    injection hc with h
  | some u =>
    rw [hf.2 u hfk] at hc
    injection hc with h
theorem MapV.look_run {mt et : TypeId} {zv : Value} (T : MapT mt et zv) {w : World} {b n : Nat} {f : Int → Option Value} (H : MapV w b n f) (x : Int) (hk : wfI x) :
    (Instr.lookup mt (.map (some b)) (.int .i64 x) true).run Tryz.prog w = .ok (.tuple #[(f x).getD zv, .bool (f x).isSome]) w := by
  obtain ⟨D, hown, hs, hf⟩ := H
  obtain ⟨v, ps, hrun, hv⟩ := hown.look_ok lawMv T.u (T.z w) (show heldE zv = some (.held zv, []) from rfl) (keyOf_int_mk Tryz.underlying3 hk)
  rw [hrun, (hf x hk).1, MapV.got (w := w) (hf x hk) hv]
theorem MapV.get_run {mt et : TypeId} {zv : Value} (T : MapT mt et zv) {w : World} {b n : Nat} {f : Int → Option Value} (H : MapV w b n f) (x : Int) (hk : wfI x) :
    (Instr.lookup mt (.map (some b)) (.int .i64 x) false).run Tryz.prog w = .ok ((f x).getD zv) w := by
  obtain ⟨D, hown, hs, hf⟩ := H
  obtain ⟨v, ps, hrun, hv⟩ := hown.lookup lawMv T.u (T.z w) (show heldE zv = some (.held zv, []) from rfl) (keyOf_int_mk Tryz.underlying3 hk)
  rw [hrun, MapV.got (w := w) (hf x hk) hv]
section
variable {o : Oper} {a : Act} {w : World} {K : Act → World → Prop} {Q : Exit → Act → World → Prop} {ops : Array Oper} {rest : List Oper} {mt et : TypeId} {zv : Value}
theorem wp_look_mv (T : MapT mt et zv) (m x : Operand) (hop : o.op = Op.lookup mt m x true) {b n : Nat} {f : Int → Option Value} (hm : a.eval m = .map (some b)) (H : MapV w b n f) (x1 : Int) (hx : a.eval x = .int .i64 x1) (hk : wfI x1) (v : Value) (s : Bool) (hv : (f x1).getD zv = v) (hs : (f x1).isSome = s)
    (hK : K (a.put o.dst (.tuple #[v, .bool s])) w) : o.wp Tryz.prog a w K Q := by
  have hrun := H.look_run T x1 hk
  rw [hv, hs] at hrun
  unfold Oper.wp
  simp [execOp, hop, hm, hx, hrun, Result.andThen]
  exact hK
theorem wp_get_mv (T : MapT mt et zv) (m x : Operand) (hop : o.op = Op.lookup mt m x false) {b n : Nat} {f : Int → Option Value} (hm : a.eval m = .map (some b)) (H : MapV w b n f) (x1 : Int) (hx : a.eval x = .int .i64 x1) (hk : wfI x1) (v : Value) (hv : (f x1).getD zv = v)
    (hK : K (a.put o.dst v) w) : o.wp Tryz.prog a w K Q := by
  have hrun := H.get_run T x1 hk
  rw [hv] at hrun
  unfold Oper.wp
  simp [execOp, hop, hm, hx, hrun, Result.andThen]
  exact hK
theorem wpList_look_mv (T : MapT mt et zv) (hg : o.guard = none) (m x : Operand) (hop : o.op = Op.lookup mt m x true) {b n : Nat} {f : Int → Option Value} (hm : a.eval m = .map (some b)) (H : MapV w b n f) (x1 : Int) (hx : a.eval x = .int .i64 x1) (hk : wfI x1) (v : Value) (s : Bool) (hv : (f x1).getD zv = v) (hs : (f x1).isSome = s)
    (hK : wpList Tryz.prog ops Q rest (a.put o.dst (.tuple #[v, .bool s])) w) : wpList Tryz.prog ops Q (o :: rest) a w :=
  wpList_plain hg fun _ hK' => wp_look_mv T m x hop hm H x1 hx hk v s hv hs (hK' _ _ hK)
theorem wpList_get_mv (T : MapT mt et zv) (hg : o.guard = none) (m x : Operand) (hop : o.op = Op.lookup mt m x false) {b n : Nat} {f : Int → Option Value} (hm : a.eval m = .map (some b)) (H : MapV w b n f) (x1 : Int) (hx : a.eval x = .int .i64 x1) (hk : wfI x1) (v : Value) (hv : (f x1).getD zv = v)
    (hK : wpList Tryz.prog ops Q rest (a.put o.dst v) w) : wpList Tryz.prog ops Q (o :: rest) a w :=
  wpList_plain hg fun _ hK' => wp_get_mv T m x hop hm H x1 hx hk v hv (hK' _ _ hK)
end
end Go.Proofs.YtblipdmagfiigaaGreat
