/- texts joined -/
import Derived.WalkKit
import Derived.ProofKit
import Derived.OpenShut
import Derived.Lib.SmallJoins
import Derived.Lib.Hide
import Derived.Deep.Slices
import Derived.OwnWalk
import Derived.Laws.AppendOwnNone
import Derived.Test.YtgghbgmeebihbaaChecked
import Derived.WalkLawsBesides
import Derived.Outline
import Derived.Sort.Walk0
import Derived.Laws.RangeAny
import Derived.Lib.DecodeN
import Derived.Deep.QuietTactic
import Derived.BigQuiet
import Derived.SliceStrings
import Derived.Lib.OthersKept
import Derived.Deep.DeepCutAuto
import Derived.Deep.RegionHeld3
import Derived.Laws.OwnMore
import Derived.Lib.SliceRun
import Derived.Deep.RegionWith
import Derived.Sort.Grow
import Derived.Deep.RegionLaw
import Derived.Deep.AppendLies
import Derived.Laws.AppendOwn
import Derived.WalkSpells
import Derived.Shelf.SlSortCmp.NoneTotal
import Derived.Ground.SlsfProg
import Derived.Sort.OwnSorted
import Derived.Deep.CutRange
import Derived.Deep.CutBlock
import Derived.Test.YtgghbgmeebihbaaPkXB
namespace Go.Proofs.Ytgghbgmeebihbaa
open Go.RowKit
set_option linter.unusedVariables false
set_option maxRecDepth 20000
theorem made_nums (n : Nat) : (madeCells (Value.int .i64 0).cells (n * 1)).toList = numsV (List.replicate n 0) := by
  rw [Nat.mul_one, show (madeCells (Value.int .i64 0).cells n).toList = List.replicate n (Value.int .i64 0) from toList_madeCells_one _ n]
  unfold numsV
  rw [List.map_replicate]
theorem natsZ_cell {l : List Nat} {i : Nat} (h : i < l.length) : (numsV (natsZ l))[i]? = some (.int .i64 ((l.getD i 0 : Nat) : Int)) := by
  unfold numsV natsZ
  rw [List.getElem?_map, List.getElem?_map, List.getElem?_eq_getElem h, List.getD_eq_getElem?_getD, List.getElem?_eq_getElem h]; rfl
set_option maxHeartbeats 12800000 in
set_option maxRecDepth 100000 in
theorem mergeBegins_any (wa : Option Addr) (n wc : Nat) (ws : List Tx) (s : Tx) (k nn : Int) (ba : Option Addr) (bm bc : Nat) (bs : List Nat) (ua : Option Addr) (un uc : Nat) (us : List Int) (za : Option Addr) (zn zc : Nat) (zs : List Int) (w : World) (hh : HoldsT w wa n ws) (hn : n ≤ 9223372036854775807) (hsz : ∀ t ∈ ws, t.size ≤ 9223372036854775807) (hs : s.size ≤ 9223372036854775807)
    (hb : HoldsB w ba bm bs) (hbm : bm ≤ 9223372036854775807) (hu : HoldsI .i64 w ua un us) (hz : HoldsI .i64 w za zn zs) (hun : un ≤ 9223372036854775807) (hzn : zn ≤ 9223372036854775807) :
    Calls Try.prog 4 #[.slice wa n wc, .agg #[.string s, .int .i64 k, .int .i64 nn], .slice ba bm bc, .slice ua un uc, .slice za zn zc] w fun e w' => e = .returned (.bool true) ∧ Below w.heap.size w w' := by
  have BB := Lib.hid (below_one w (.cells #[.string s, .int .i64 k, .int .i64 nn] 46))
  have HX := Lib.hid (hh.below BB.out)
  have q0 : (w.alloc (.cells #[.string s, .int .i64 k, .int .i64 nn] 46)).cell? ⟨w.heap.size, 0, none⟩ = some (.string s) := by rw [cell_alloc rfl]; rfl
  have q1 : (w.alloc (.cells #[.string s, .int .i64 k, .int .i64 nn] 46)).cell? ⟨w.heap.size, 1, none⟩ = some (.int .i64 k) := by rw [cell_alloc rfl]; rfl
  have q2 : (w.alloc (.cells #[.string s, .int .i64 k, .int .i64 nn] 46)).cell? ⟨w.heap.size, 2, none⟩ = some (.int .i64 nn) := by rw [cell_alloc rfl]; rfl
  have HQ := Lib.hid (show Box3q (w.alloc (.cells #[.string s, .int .i64 k, .int .i64 nn] 46)) w.heap.size (.string s) (.int .i64 k) (.int .i64 nn) (w.alloc (.cells #[.string s, .int .i64 k, .int .i64 nn] 46)) from ⟨Below.refl _ _, q0, q1, q2⟩)
  obtain ⟨gr, hgr⟩ : ∃ g, greatB ws = g := ⟨_, rfl⟩
  have CG := Lib.hid (great_any wa n wc ws _ HX.out hn hsz)
  rw [hgr] at CG
  have HGR := Lib.hid hgr
  clear hgr
  have C1 := Lib.hid (fun w => low_any (bm : Int) 6 (by omega) (by omega) w)
  have AW := Lib.hid (fun w3 (hb : Below w.heap.size w w3) => (awakeM_any w3).mono (fun e w' h => (show e = .returned (.bool true) ∧ Below w.heap.size w w' from ⟨h.1, hb.trans (h.2.mono hb.size)⟩)))
  have HH := Lib.hid hh; have HS := Lib.hid hs; have HBB := Lib.hid hb; have HU := Lib.hid hu; have HZ := Lib.hid hz
  have CO := Lib.hid (fun w3 (h : HoldsT w3 wa n ws) => good_any' wa n wc ws w3 h hn hsz)
  have CM := Lib.hid (fun w3 => qmay_any s k nn w3 hs)
  clear hh hsz hs hb hu hz
  go_enter Try.func4, Try.ntmps4
  go_upto_region 1 with fail
  clear q0 q1 q2
  generalize w.alloc (.cells #[.string s, .int .i64 k, .int .i64 nn] 46) = w1 at *
  obtain ⟨-, q0, q1, q2⟩ := HQ.out
  go_wp2_with fail
  refine CG.out.mono ?_
  rintro e w2 ⟨rfl, hb⟩
  have Q2 := Lib.hid (box3q_carry HQ.out hb)
  clear hb CG q0 q1 q2
  obtain ⟨B2', q0, q1, q2⟩ := Q2.out
  have B2 := Lib.hid (BB.out.trans (B2'.mono BB.out.size))
  clear B2'
  cases gr
  case true =>
    go_wp2_with fail
    refine (AW.out _ B2.out).mono ?_
    rintro e w' ⟨rfl, hb⟩
    go_wp2_with fail
    go_ret
    exact ⟨rfl, hb⟩
  by_cases h100 : 100 < s.size
  case pos =>
    have d1 : decide ((s.size : Int) > 100) = true := decide_eq_true (by omega)
    have d2 : decide (100 < s.size) = true := decide_eq_true h100
    go_wp2_with fail
    refine (AW.out _ B2.out).mono ?_
    rintro e w' ⟨rfl, hb⟩
    go_wp2_with fail
    go_ret
    exact ⟨rfl, hb⟩
  have d1 : decide ((s.size : Int) > 100) = false := decide_eq_false (by omega)
  have d2 : decide (100 < s.size) = false := decide_eq_false h100
  obtain ⟨zm, hzm⟩ : ∃ z, decide (mayP s k nn) = z := ⟨_, rfl⟩
  rw [hzm] at CM
  go_wp2_with fail
  refine (CM.out _).mono ?_
  rintro e w3 ⟨rfl, hb⟩
  have Q3 := Lib.hid (box3q_carry Q2.out hb)
  clear hb CM q0 q1 q2 Q2 B2 d1 d2
  obtain ⟨B2', q0, q1, q2⟩ := Q3.out
  have B3 := Lib.hid (BB.out.trans (B2'.mono BB.out.size))
  clear B2'
  cases zm
  case false =>
    go_wp2_with fail
    refine (AW.out _ B3.out).mono ?_
    rintro e w' ⟨rfl, hb⟩
    go_wp2_with fail
    go_ret
    exact ⟨rfl, hb⟩
  obtain ⟨gv, hgv⟩ : ∃ g, goodV ws = g := ⟨_, rfl⟩
  rw [hgv] at CO
  go_wp2_with fail
  refine (CO.out _ (HH.out.below B3.out)).mono ?_
  rintro e w4 ⟨rfl, hb⟩
  have Q4 := Lib.hid (box3q_carry Q3.out hb)
  clear hb CO q0 q1 q2 Q3 B3
  obtain ⟨B2', q0, q1, q2⟩ := Q4.out
  have B4 := Lib.hid (BB.out.trans (B2'.mono BB.out.size))
  clear B2'
  by_cases hg0 : gv = 0
  case neg =>
    have d1 : (gv != 0) = true := by simpa using hg0
    have d2 : decide (gv = 0) = false := decide_eq_false hg0
    clear hg0
    go_wp2_with fail
    refine (AW.out _ B4.out).mono ?_
    rintro e w' ⟨rfl, hb⟩
    go_wp2_with fail
    go_ret
    exact ⟨rfl, hb⟩
  subst hg0
  by_cases hu100 : 100 < un
  case pos =>
    have d1 : decide ((un : Int) > 100) = true := decide_eq_true (by omega)
    have d2 : decide (100 < un) = true := decide_eq_true hu100
    go_wp2_with fail
    refine (AW.out _ B4.out).mono ?_
    rintro e w' ⟨rfl, hb⟩
    go_wp2_with fail
    go_ret
    exact ⟨rfl, hb⟩
  have d1 : decide ((un : Int) > 100) = false := decide_eq_false (by omega)
  have d2 : decide (100 < un) = false := decide_eq_false hu100
  by_cases hz100 : 100 < zn
  case pos =>
    have d3 : decide ((zn : Int) > 100) = true := decide_eq_true (by omega)
    have d4 : decide (100 < zn) = true := decide_eq_true hz100
    go_wp2_with fail
    refine (AW.out _ B4.out).mono ?_
    rintro e w' ⟨rfl, hb⟩
    go_wp2_with fail
    go_ret
    exact ⟨rfl, hb⟩
  have d3 : decide ((zn : Int) > 100) = false := decide_eq_false (by omega)
  have d4 : decide (100 < zn) = false := decide_eq_false hz100
  obtain ⟨m, hm, hmb⟩ : ∃ m : Nat, 1 + lowV (bm : Int) 6 = (m : Int) ∧ 1 ≤ m ∧ m ≤ 6 := ⟨(1 + lowV (bm : Int) 6).toNat, by have := low_bd (bm : Int) 6 (by omega); omega, by have := low_bd (bm : Int) 6 (by omega); omega⟩
  have y1 : IntKind.i64.wrap (1 + lowV (bm : Int) 6) = (m : Int) := by rw [hm]; exact IntWalk.i64_in _ (by omega)
  clear hm
  go_wp2_with fail
  refine (C1.out _).mono ?_
  rintro e w' ⟨rfl, rfl⟩
  obtain ⟨L, hL⟩ : ∃ L, allK ws s k = L := ⟨_, rfl⟩
  obtain ⟨LN, hLN⟩ : ∃ N, L.length = N := ⟨_, rfl⟩
  have hgs := great_no_iff.1 HGR.out
  have hN80 : LN ≤ 80 := by rw [← hLN, ← hL]; have := allK_len ws s k; omega
  have UP := Lib.hid (show upN L L.length = true from by rw [← hL]; exact all_ris (goodV_zero hgv).2.2 s k)
  have hmm := (of_decide_eq_true hzm).2.1
  obtain ⟨N, rfl⟩ : ∃ N : Nat, nn = (N : Int) := ⟨nn.toNat, by omega⟩
  have hNN : 1 ≤ N ∧ N ≤ 10 := by omega
  have CA := Lib.hid (all_lit wa n wc LN ws s k L w4 (HH.out.below B4.out) (by have := HH.out.len; omega) (fun t ht => by have := hgs.2 t ht; omega) (by omega) hL hLN)
  clear hL hgv hzm hmm d1 d2 d3 d4 hgs
  go_wp2_with fail
  refine CA.out.mono ?_
  rintro e w5 ⟨a2, c2, rfl, ho, hb⟩
  have Q5 := Lib.hid (box3q_carry Q4.out hb)
  have HK5 := Lib.hid (HoldsK.own ho)
  have HN5 := Lib.hid (owns_none ho)
  clear hb ho CA Q4 B4 q0 q1 q2 y1
  have B5 := Lib.hid (BB.out.trans (Q5.out.1.mono BB.out.size))
  have CC := Lib.hid (cut_any a2 LN c2 L ba bm bc bs m w5 HK5.out (HBB.out.below B5.out) (by omega) hbm hmb)
  obtain ⟨f, hf⟩ : ∃ f, whoF bs bm m = f := ⟨_, rfl⟩
  have hfm : ∀ j, f j < m := fun j => by rw [← hf]; exact whoF_lt (by omega)
  rw [hf] at CC
  clear hf
  go_wp2_with fail
  refine CC.out.mono ?_
  rintro e w6 ⟨B, ca, cc, rfl, hcut⟩
  have CUT := Lib.hid hcut
  have Q6 := Lib.hid (box3q_carry Q5.out hcut.bel)
  have HK6 := Lib.hid (HK5.out.below hcut.bel)
  have B6 := Lib.hid (B5.out.trans (hcut.bel.mono B5.out.size))
  have HU6 := Lib.hid (HU.out.below B6.out)
  have HZ6 := Lib.hid (HZ.out.below B6.out)
  clear hcut CC Q5 HK5 B5 HU HZ
  obtain ⟨i0, hi0, hz0, hz1, hz2⟩ := info_parts num_info
  have NW := Lib.hid (fun w7 (ho : w7.ownsRow w6.heap.size 3 1 (.slice (some ⟨w6.heap.size, 0, none⟩) m m) m (madeCells (Value.int .i64 0).cells (m * 1)).toList) (hb : Below w6.heap.size w6 w7) =>
    mnew_c (w0 := w6) (some ⟨w6.heap.size, 0, none⟩) m m (List.replicate m 0) (N : Int) w7 (by rw [made_nums] at ho; exact holdsZ_own ho) hmb (by omega) hb)
  obtain ⟨-, -, -, q2⟩ := Q6.out
  have QM := Lib.hid (show ∀ w7, w6.drew.grownBy w7 none → w7.cell? ⟨w.heap.size, 2, none⟩ = some (.int .i64 (N : Int)) ∧ Below w6.heap.size w6 w7 from fun w7 hg => by
    have hb : Below w6.heap.size w6 w7 := (Below.refl w6.heap.size w6).drew.trans ((below_grown hg (by intro k hk; cases hk)))
    exact ⟨(hb.cell (p := ⟨w.heap.size, 2, none⟩) (lt_of_cell q2)).trans q2, hb⟩)
  go_upto_region 6 with fail
  go_cut [14, 15] (fun x y wc => ∃ (b : Nat) (S : Nat → Prop), x = .pointer (some ⟨b, 0, none⟩) ∧ y = .int .i64 0 ∧ Hid (CtxM w6 wc b (N : Int) [] ((List.replicate m 0).map mkS) S))
  case first =>
    have q2' : w6.drew.cell? ⟨w.heap.size, 2, none⟩ = some (.int .i64 (N : Int)) := q2
    obtain ⟨w7, hrun, hown7, hgrow7⟩ := run_make_full (P := Try.prog) w6.drew w6.heap.size 22 3 i0 (.int .i64 0) 1 Try.underlying22 hi0 hz0 hz1 .i64 .i64 m (by rw [hz2]; omega) (by unfold maxLen; omega) (Nat.le_refl _)
    obtain ⟨q7, hb7⟩ := QM.out _ hgrow7
    have N7 := Lib.hid (NW.out _ hown7 hb7)
    clear hown7 hgrow7 hb7
    go_region_law
      (go_simp; go_at_call 11; (with_reducible refine N7.out.mono ?_); rintro e w8 ⟨b, rfl, S, hc, hS, hb8⟩)
    all_goals
      go_wp2_with fail
      go_meet
      exact ⟨_, _, rfl, rfl, Lib.hid hc⟩
  case rest =>
    rename World => wN
    obtain ⟨b, S, rfl, rfl, hC⟩ := hcut
    have hb1 := below_one wN (.cells #[.int .i64 0, .int .i64 0, .int .i64 0, .int .i64 0, .int .i64 0, .int .i64 0] 55)
    have C0 := Lib.hid (hC.out.more hb1)
    have T0 := Lib.hid (show ToldIn w6 (wN.alloc (.cells #[.int .i64 0, .int .i64 0, .int .i64 0, .int .i64 0, .int .i64 0, .int .i64 0] 55)) wN.heap.size none 0 (L.take 0) (fun _ => 0) S from
      ⟨World.ownsRow_nil _ _ _ _, fun g hg => (by cases hg), fun x => by have := hC.out.lt _ x; omega, fun j hj => by
        rw [cell_alloc rfl]
        match j, hj with
        | 0, _ => rfl
        | 1, _ => rfl
        | 2, _ => rfl
        | 3, _ => rfl
        | 4, _ => rfl
        | 5, _ => rfl, fun j => frozen_alloc rfl, hC.out.bel.size, by simp⟩)
    clear hb1 hC q2 QM NW
    obtain ⟨ti1, hi1, hy0, hy1, hy2⟩ := info_parts item_info9
    go_wp2_with fail
    go_loopw [16, 18] (fun tv iv wr => ∃ (i t : Nat) (P : List SM) (ats : Nat → Nat) (S : Nat → Prop) (ta : Option Addr) (tc : Nat), tv = .slice ta t tc ∧ iv = .int .i64 i ∧ Hid (BegP L f m N t i P ats) ∧ Hid (doneB (N : Int) (L.take t) P = true ∨ P.any prW = true) ∧ Hid (CtxM w6 wr b (N : Int) (L.take t) P S) ∧ Hid (ToldIn w6 wr wN.heap.size ta tc (L.take t) ats S)) (fun _ iv _ => 20 - (intOf iv).toNat)
    case atStart => exact ⟨0, 0, _, _, S, none, 0, rfl, rfl, Lib.hid (beg_start L f m N), Lib.hid (Or.inr (beg_want (by omega))), C0, T0⟩
    case round =>
      clear C0 T0
      obtain ⟨i, t, P, ats, S, ta, tc, rfl, rfl, hP, hD, hC, hT⟩ := hrel
      have hPn := hP.out.len
      have htN := hP.out.tn
      have htL := hP.out.ta
      have hi16 : i ≤ 16 := by have h1 := hP.out.cnt; have h2 := cnt_le P; omega
      have htl : (L.take t).length = t := by simp; omega
      obtain ⟨WL, hWL⟩ : ∃ WL, wantsL (N : Int) (L.take t) P = WL := ⟨_, rfl⟩
      obtain ⟨qn, hqn⟩ : ∃ q, WL.length = q := ⟨_, rfl⟩
      have CW := Lib.hid (mwants_c (natsZ WL) wr hC.out (by omega) (by rw [hWL]))
      have WS := wants_some hD.out
      rw [hWL] at WS
      have WS1 := Lib.hid WS.1
      have WS2 := Lib.hid WS.2
      have hqm : qn ≤ m := by
        rw [← hqn, ← hWL]
        unfold wantsL
        split
        · simp
        · unfold wantN
          refine Nat.le_trans (List.length_filter_le _ _) ?_
          rw [List.length_range]; omega
      have e0 : IntKind.i64.wrap ((un : Int) + 70) = (un : Int) + 70 := IntWalk.i64_in _ (by omega)
      have e1 : decide ((i : Int) < (un : Int) + 70) = true := decide_eq_true (by omega)
      have e2 : (i : Int) < (un : Int) + 70 := by omega
      clear WS hWL hD
      go_wp2_with fail
      refine CW.out.mono ?_
      rintro e w7 ⟨xa, xc, rfl, hx, hb⟩
      rw [natsZ_len, hqn] at hx ⊢
      have C7 := Lib.hid (hC.out.more hb)
      have T7 := Lib.hid (hT.out.more hb)
      have X7 := Lib.hid hx
      clear hx hb CW hC hT e0 e1 e2
      by_cases h0 : qn = 0
      · subst h0
        have hd := WS1.out (List.eq_nil_of_length_eq_zero hqn)
        have htm := hP.out.done hfm hd
        rw [hLN] at htm
        have CD := Lib.hid (mdone_c true w7 C7.out (by omega) hd)
        have CO := Lib.hid (fun w' (h : CtxM w6 w' b (N : Int) (L.take t) P S) => mtold_u t (L.take t) w' h htl (by omega) rfl)
        have CSS := Lib.hid (fun (xa : Option Addr) (xc : Nat) w' (h1 : HoldsK w' xa t (L.take t)) (h2 : HoldsK w' ta t (L.take t)) => sameItems_yes xa ta t xc tc (L.take t) w' h1 h2 (by omega))
        have ym : min (LN : Int) (N : Int) = (t : Int) := by omega
        have ym2 : min LN N = t := by omega
        clear hd htm WS1 WS2 hqn hP
        go_wp2_with fail
        refine CD.out.mono ?_
        rintro e w8 ⟨rfl, hb⟩
        have C8 := Lib.hid (C7.out.more hb)
        have T8 := Lib.hid (T7.out.more hb)
        obtain ⟨-, -, -, q2⟩ := box3q_carry Q6.out C8.out.bel
        clear hb C7 T7 X7 CD
        go_wp2_with fail
        refine (CO.out _ C8.out).mono ?_
        rintro e w9 ⟨ya, yc, rfl, hy, hb⟩
        have C9 := Lib.hid (C8.out.more hb)
        have K9 := Lib.hid (show HoldsK w9 ta t (L.take t) from by have h := HoldsK.own (T8.out.more hb).o; rw [htl] at h; exact h)
        have CS9 := Lib.hid (CSS.out ya yc w9 hy K9.out)
        clear hb C8 T8 CO q2 hy K9 CSS
        go_wp2_with fail
        refine CS9.out.mono ?_
        rintro e w10 ⟨rfl, hb⟩
        have C10 := Lib.hid (C9.out.more hb)
        clear hb C9 CS9
        go_wp2_with fail
        refine (AW.out _ (B6.out.trans (C10.out.bel.mono B6.out.size))).mono ?_
        rintro e w11 ⟨rfl, hb⟩
        go_wp2_with fail
        go_ret
        exact ⟨rfl, hb⟩
      · have hq1 : 0 < qn := by omega
        have z1 : ((qn : Int) == 0) = false := by simp; omega
        have z2 : decide ((qn : Int) = 0) = false := decide_eq_false (by omega)
        obtain ⟨gx, hgx⟩ : ∃ g, xa = some ⟨g, 0, none⟩ := by
          obtain ⟨g, cap', hv⟩ := Joins.ownsRow_form X7.out (by omega)
          simp only [Value.slice.injEq] at hv
          exact ⟨g, hv.1⟩
        subst hgx
        have XC := Lib.hid (show ∀ j, j < qn → w7.cell? ⟨gx, j, none⟩ = some (.int .i64 ((WL.getD j 0 : Nat) : Int)) from fun j hj => by
          rw [X7.out.cellAt j (by omega)]; exact natsZ_cell (by omega))
        have WM := Lib.hid (show ∀ j, j < qn → WL.getD j 0 ∈ WL from fun j hj => by
          rw [List.getD_eq_getElem?_getD, List.getElem?_eq_getElem (show j < WL.length by omega)]; exact List.getElem_mem _)
        obtain ⟨k0', hk0⟩ : ∃ k, WL.getD 0 0 = k := ⟨_, rfl⟩
        have x0 := XC.out 0 hq1
        have M0 := WM.out 0 hq1
        rw [hk0] at x0 M0
        have M0' := Lib.hid M0
        have z3 : (0 : Int) < (qn : Int) := by omega
        clear hk0 M0 X7
        obtain ⟨zi, hzi⟩ : ∃ z, decide ((i : Int) < (un : Int)) = z := ⟨_, rfl⟩
        have HZI := Lib.hid hzi
        go_upto_if 99 with fail
        clear x0 hzi z1 z2 z3
        go_cut [20] from 81 to 179 (fun x wx => ∃ kk : Nat, x = .int .i64 kk ∧ Hid (kk ∈ WL) ∧ w7 = wx)
        case first =>
          cases zi
          case true =>
            have hiu : i < un := by have := of_decide_eq_true HZI.out; omega
            have e2 : (i : Int) < (un : Int) := by omega
            have e3 : (0 : Int) ≤ (i : Int) := by omega
            obtain ⟨ub, uo, rfl, hcu⟩ := (HU6.out.below C7.out.bel).2 (by omega)
            have u0 := hcu i hiu
            obtain ⟨uv, huv⟩ : ∃ v, us.getD i 0 = v := ⟨_, rfl⟩
            rw [huv] at u0
            have CL := Lib.hid (low_any uv qn (by omega) (by omega) w7)
            have hlb := low_bd uv qn (by omega)
            obtain ⟨lv, hlv⟩ : ∃ lv : Nat, lowV uv qn = (lv : Int) := ⟨(lowV uv qn).toNat, by omega⟩
            rw [hlv] at CL hlb
            obtain ⟨k2, hk2⟩ : ∃ k, WL.getD lv 0 = k := ⟨_, rfl⟩
            have x2 := XC.out lv (by omega)
            have M2 := WM.out lv (by omega)
            rw [hk2] at x2 M2
            have e4 : (0 : Int) ≤ (lv : Int) := hlb.1
            have e5 : (lv : Int) < (qn : Int) := hlb.2
            clear hcu huv hlv hk2
            go_wp2_with fail
            refine CL.out.mono ?_
            rintro e w' ⟨rfl, rfl⟩
            go_wp2_with fail
            go_meet
            exact ⟨k2, rfl, Lib.hid M2, rfl⟩
          case false =>
            have e1 : decide ((i : Int) < (un : Int)) = false := HZI.out
            have e2 : ¬ i < un := by have := of_decide_eq_false e1; omega
            have e3 : ¬ (i : Int) < (un : Int) := by omega
            have e4 : decide (i < un) = false := decide_eq_false e2
            go_wp2_with fail
            go_meet
            exact ⟨k0', rfl, M0', rfl⟩
        case rest =>
          obtain ⟨kk, rfl, hkW, rfl⟩ := hcut
          clear M0' HZI
          obtain ⟨zj, hzj⟩ : ∃ z, decide ((i : Int) < (zn : Int)) = z := ⟨_, rfl⟩
          have HZJ := Lib.hid hzj
          go_upto_if 113 with fail
          clear hzj
          go_cut [21] from 81 to 179 (fun x wx => ∃ sz : Nat, x = .int .i64 sz ∧ Hid (1 ≤ sz ∧ sz ≤ 5) ∧ w7 = wx)
          case first =>
            cases zj
            case true =>
              have hiz : i < zn := by have := of_decide_eq_true HZJ.out; omega
              have e2 : (i : Int) < (zn : Int) := by omega
              have e3 : (0 : Int) ≤ (i : Int) := by omega
              obtain ⟨ub, uo, rfl, hcu⟩ := (HZ6.out.below C7.out.bel).2 (by omega)
              have u0 := hcu i hiz
              obtain ⟨uv, huv⟩ : ∃ v, zs.getD i 0 = v := ⟨_, rfl⟩
              rw [huv] at u0
              have CL := Lib.hid (low_any uv 5 (by omega) (by omega) w7)
              have hlb := low_bd uv 5 (by omega)
              obtain ⟨sz, hsz⟩ : ∃ lv : Nat, 1 + lowV uv 5 = (lv : Int) := ⟨(1 + lowV uv 5).toNat, by omega⟩
              have e4 : IntKind.i64.wrap (1 + lowV uv 5) = (sz : Int) := by rw [hsz]; exact IntWalk.i64_in _ (by omega)
              have SZ := Lib.hid (show 1 ≤ sz ∧ sz ≤ 5 from by omega)
              clear hcu huv hlb hsz
              go_wp2_with fail
              refine CL.out.mono ?_
              rintro e w' ⟨rfl, rfl⟩
              go_wp2_with fail
              go_meet
              exact ⟨sz, rfl, SZ, rfl⟩
            case false =>
              have e1 : decide ((i : Int) < (zn : Int)) = false := HZJ.out
              have e2 : ¬ i < zn := by have := of_decide_eq_false e1; omega
              have e3 : ¬ (i : Int) < (zn : Int) := by omega
              have e4 : decide (i < zn) = false := decide_eq_false e2
              go_wp2_with fail
              go_meet
              exact ⟨5, rfl, Lib.hid (by omega), rfl⟩
          case rest =>
            obtain ⟨sz, rfl, hSZ, rfl⟩ := hcut
            clear HZJ
            have hkP := WS2.out kk hkW.out
            have hkm : kk < m := by omega
            obtain ⟨pl, hpl⟩ : ∃ p, (partF L f kk).length = p := ⟨_, rfl⟩
            obtain ⟨A, hA⟩ : ∃ A, ats kk = A := ⟨_, rfl⟩
            have hApl : A ≤ pl := by have h := (hP.out.sh kk hkm).al; omega
            have hplL : pl ≤ LN := by rw [← hpl, ← hLN]; exact partF_len L f kk
            have CU7 := Lib.hid (CUT.out.more C7.out.bel)
            have b0 := CU7.out.ce kk hkm
            have a0 := T7.out.c kk (by omega)
            rw [hpl] at b0
            rw [hA] at a0
            have KN := Lib.hid (show (ca kk = none → pl = 0 ∧ cc kk = 0) ∧ pl ≤ cc kk from by have h := owns_none (CUT.out.own kk hkm); rw [hpl] at h; exact h)
            have KC := Lib.hid (show HoldsK w6 (ca kk) pl (partF L f kk) from by have h := HoldsK.own (CUT.out.own kk hkm); rw [hpl] at h; exact h)
            obtain ⟨ck, hck⟩ : ∃ c, cc kk = c := ⟨_, rfl⟩
            obtain ⟨ak, hak⟩ : ∃ a, ca kk = a := ⟨_, rfl⟩
            rw [hck] at b0 KN
            rw [hak] at b0 KN KC
            obtain ⟨R, hR⟩ : ∃ R, pl - A = R := ⟨_, rfl⟩
            obtain ⟨cp, hcp⟩ : ∃ R, ck - A = R := ⟨_, rfl⟩
            obtain ⟨xk, hxk⟩ : ∃ x, (if ck = A then ak else ak.map (·.add (A * 2))) = x := ⟨_, rfl⟩
            have i1 : (0 : Int) ≤ (kk : Int) := by omega
            have i2 : (kk : Int) < (m : Int) := by omega
            have i3 : (kk : Int) < 6 := by omega
            have i4 : (0 : Int) ≤ (A : Int) := by omega
            have i5 : (A : Int) ≤ (pl : Int) := by omega
            have i6 : (pl : Int) ≤ (ck : Int) := by have := KN.out.2; omega
            have CX := Lib.hid hxk
            have HR := Lib.hid hR
            have HCP := Lib.hid hcp
            go_upto_region 22 with fail
            go_cut [22] from 81 to 179 (fun x wx => x = .slice xk R cp ∧ Hid (Below w7.heap.size w7 wx))
            case first =>
              go_quiet (fail)
              go_wp2_with fail
              go_meet
              exact ⟨by first | rfl | rw [CX.out, HR.out, HCP.out] | (simp only [CX.out, HR.out, HCP.out]), Lib.hid (below_drewN _ _)⟩
            case rest =>
              rename World => w8
              obtain ⟨rfl, hB8⟩ := hcut
              have C8 := Lib.hid (C7.out.more hB8.out)
              have T8 := Lib.hid (T7.out.more hB8.out)
              have a0' := T8.out.c kk (by omega)
              rw [hA] at a0'
              have f0' := T8.out.f kk
              obtain ⟨mm, hmm⟩ : ∃ q, min sz R = q := ⟨_, rfl⟩
              have hmR : mm ≤ R := by omega
              have hRcp : R ≤ cp := by have := KN.out.2; omega
              obtain ⟨BP1, BP2⟩ := hP.out.put UP.out hkm hkP.2.1 hkP.2.2 hSZ.out (m := mm) (by rw [hpl, hA, hR]; exact hmm)
              rw [hpl, hA, hR] at BP1 BP2
              obtain ⟨en, hen⟩ : ∃ z, decide (mm = R) = z := ⟨_, rfl⟩
              rw [hen] at BP1 BP2
              obtain ⟨sq, hsq⟩ : ∃ q, (P.getD kk sm0).seq = q := ⟨_, rfl⟩
              rw [hsq] at BP1
              obtain ⟨ks, hks⟩ : ∃ ks, ((partF L f kk).drop A).take mm = ks := ⟨_, rfl⟩
              rw [hks] at BP1 BP2
              obtain ⟨P1, hP1⟩ : ∃ Q, P.set kk (putSM (P.getD kk sm0) ks en) = Q := ⟨_, rfl⟩
              rw [hP1] at BP2
              have KS := Lib.hid (show HoldsK w6 xk mm ks from by have h := KC.out.cut A mm (by omega) KN.out.2; rw [CX.out, hks] at h; exact h)
              have KXN := Lib.hid (show xk = none → mm = 0 ∧ cp = 0 from fun e => by have h := KN.out.1 (cut_none (CX.out.trans e)); omega)
              have CSq := Lib.hid (fun w' (h : CtxM w6 w' b (N : Int) (L.take t) P S) => mseq_c (kk : Int) sq w' h (by omega) (by unfold seqS; rw [if_pos ⟨by omega, by omega⟩, Int.toNat_natCast]; exact hsq))
              have hsqs : ∀ x ∈ P, 0 ≤ x.seq ∧ x.seq ≤ 1000000000 := fun x hx => by
                obtain ⟨j, hj, rfl⟩ := List.mem_iff_getElem.1 hx
                have h := (hP.out.sh j (by omega)).seq
                rw [List.getD_eq_getElem?_getD, List.getElem?_eq_getElem hj] at h
                have h2 : 0 ≤ P[j].seq ∧ P[j].seq ≤ (i : Int) := h
                omega
              have CP := Lib.hid (fun w' (h : CtxM w6 w' b (N : Int) (L.take t) P S) => mput_c (kk : Int) sq xk mm cp ks en true P1 w' h (by omega) (KS.out.below h.bel) KXN.out (by omega) (h.arg KS.out) hsqs BP1 (by rw [if_pos rfl, Int.toNat_natCast]; exact hP1))
              have hP1l : P1.length = m := BP2.len
              obtain ⟨t2, P2, hTE, htt, BP3, DD⟩ := BegP.tell UP.out hfm 10 t P1 [] BP2 (by omega)
              obtain ⟨ol, rfl⟩ : ∃ ol, t2 = t + ol := ⟨t2 - t, by omega⟩
              obtain ⟨u, hu⟩ : ∃ u, t + ol = u := ⟨_, rfl⟩
              have huL := BP3.ta
              have huN := BP3.tn
              obtain ⟨out, hout⟩ : ∃ o, [] ++ (L.drop t).take (t + ol - t) = o := ⟨_, rfl⟩
              have hol : out.length = ol := by rw [← hout]; simp; omega
              have hcat : L.take t ++ out = L.take u := by rw [← hout, List.nil_append, Nat.add_sub_cancel_left, ← List.take_add, hu]
              rw [hout, hu] at hTE
              rw [hu] at BP3 DD huL huN
              have hul : (L.take u).length = u := by simp; omega
              have CT := Lib.hid (fun (S : Nat → Prop) w' (h : CtxM w6 w' b (N : Int) (L.take t) P1 S) => mtell_c (L.take u) P2 out w' h (by omega) (by omega) (by omega) hTE)
              have BP := Lib.hid BP3
              have HDD := Lib.hid DD
              have HOL := Lib.hid hol
              have HUL := Lib.hid hul
              have HTL := Lib.hid htl
              have HCAT := Lib.hid hcat
              have HU3 := Lib.hid (show u ≤ LN ∧ u ≤ N from by omega)
              have KL := Lib.hid (show (keysV out).length = ol * 2 from by rw [keysV_len, hol])
              have KY := Lib.hid (show keysV (L.take t) ++ keysV out = keysV (L.take u) from by rw [← keysV_app, hcat])
              obtain ⟨av, hav⟩ : ∃ v : Int, ((A + mm : Nat) : Int) = v := ⟨_, rfl⟩
              have HAV := Lib.hid (show av = ((ats kk + mm : Nat) : Int) from by rw [hA]; exact hav.symm)
              have e1 : min (sz : Int) (R : Int) = (mm : Int) := by omega
              have e2 : IntKind.i64.wrap ((A : Int) + (mm : Int)) = av := by rw [← hav, IntWalk.i64_in _ (by omega)]; omega
              have d2 : ((mm : Int) == (R : Int)) = en := by rw [← hen]; exact beq_nat mm R
              have d2' : (mm == R) = en := by rw [← hen]; rfl
              have d2'' : decide ((mm : Int) = (R : Int)) = en := by rw [← hen]; exact dec_nat mm R
              have d2v : decide (mm = R) = en := hen
              have i7 : (0 : Int) ≤ (mm : Int) := by omega
              have i8 : (mm : Int) ≤ (cp : Int) := by omega
              have HAT := Lib.hid hA
              clear hP1 hks hsq hen hout hcat hTE BP3 DD huL huN hol hul BP1 BP2 hsqs hav hR hcp hxk b0 a0 hpl hak hck hA CU7 KN KC C7 T7 hB8 hP hkP
              clear WS1 WS2
              go_wp2_with fail
              refine (CSq.out _ (C8.out.set T8.out.qs T8.out.lo)).mono ?_
              rintro e w' ⟨rfl, rfl⟩
              have C9 := Lib.hid (C8.out.set (k := kk) (v := .int .i64 av) T8.out.qs T8.out.lo)
              have T9 := Lib.hid (T8.out.sent (k := kk) (m := mm) (v := av) (by omega) HAV.out)
              rw [HAT.out] at T9
              clear C8 T8 CSq a0' f0'
              generalize w8.setCell ⟨wN.heap.size, kk, none⟩ (.int .i64 av) = w9 at *
              go_wp2_with fail
              refine (CP.out _ C9.out).mono ?_
              rintro e w10 ⟨rfl, S10, h10, hS10, t10⟩
              have C10 := Lib.hid h10
              have T10 := Lib.hid (T9.out.turn t10 hS10)
              have CT10 := Lib.hid (CT.out _ _ C10.out)
              clear h10 hS10 t10 C9 T9 CP CT
              go_wp2_with fail
              refine CT10.out.mono ?_
              rintro e w11 ⟨oa, oc, rfl, S11, h11, ho11, -, hS11, t11⟩
              rw [HOL.out] at ho11 ⊢
              have C11 := Lib.hid h11
              have T11 := Lib.hid (T10.out.turn t11 hS11)
              have RC := Lib.hid (rowCellsB ho11)
              have OW := Lib.hid (show w11.ownsRow w6.heap.size 61 2 (.slice ta t tc) t (keysV (L.take t)) from by have h := T11.out.o; rw [HTL.out] at h; exact h)
              have LO := Lib.hid C11.out.bel.size
              clear h11 ho11 hS11 t11 C10 T10 CT10
              go_upto_region 28 with (at_builtin; refine wpList_append_where rfl (.tmp 155) (.tmp 157) 34 rfl w6.heap.size 61 ti1 _ 2 24 Try.underlying34 hi1 hy0 hy1 hy2 rfl (by omega) (.slice ta t tc) t (keysV (L.take t)) (by rfl) OW.out oa ol oc (keysV out) (by rfl) RC.out.1 KL.out RC.out.2 (keysV_one _) (by have := HU3.out.1; unfold maxLen; omega) (by have := HU3.out.1; omega) LO.out u (keysV (L.take u)) hu KY.out ?_; intro a3 c3 w12 hown12 hgrow12 hat12)
              have TM := told_more (T := L.take t) (out := out) C11.out T11.out (by rw [HCAT.out, HUL.out]; exact hown12) (by rw [HTL.out]; exact hgrow12) (by rw [HTL.out]; exact hat12)
              rw [HCAT.out] at TM
              have C12 := Lib.hid TM.1
              have T12 := Lib.hid TM.2
              clear TM hown12 hgrow12 hat12 C11 T11 RC OW LO
              obtain ⟨-, -, -, n2⟩ := box3q_carry Q6.out C12.out.bel
              have K12 := Lib.hid (show HoldsK w12 a3 u (L.take u) from by have h := HoldsK.own T12.out.o; rw [HUL.out] at h; exact h)
              have CS := Lib.hid (sameItems_yes a3 a2 u c3 c2 (L.take u) w12 K12.out ((HK6.out.below C12.out.bel).take u HU3.out.1) (by have := HU3.out.1; omega))
              have g1 : decide ((u : Int) > (LN : Int)) = false := decide_eq_false (by have := HU3.out.1; omega)
              have g2 : decide (LN < u) = false := decide_eq_false (by have := HU3.out.1; omega)
              have g3 : decide ((u : Int) > (N : Int)) = false := decide_eq_false (by have := HU3.out.2; omega)
              have g4 : decide (N < u) = false := decide_eq_false (by have := HU3.out.2; omega)
              have g5 : (0 : Int) ≤ (u : Int) := by omega
              have g6 : (u : Int) ≤ (c2 : Int) := by have := HN5.out.2; have := HU3.out.1; omega
              clear K12
              go_wp2_with fail
              refine CS.out.mono ?_
              rintro e w13 ⟨rfl, hb⟩
              have C13 := Lib.hid (C12.out.more hb)
              have T13 := Lib.hid (T12.out.more hb)
              have n2' := (hb.cell (p := ⟨w.heap.size, 2, none⟩) (lt_of_cell n2)).trans n2
              clear hb C12 T12 n2 CS
              go_wp2_with fail
              go_roundw
              case rel => exact ⟨i + 1, u, P2, _, S11, a3, c3, rfl, by go_num, BP, HDD, C13, T13⟩
              case measure => simp [intOf] <;> omega
open Go.ChangeShapes Go.WideShapes Go.ChangeAt in
theorem mergeBegins_walk {H : Type} {enc : TypeId × Value → H} (W : World) (base : Nat) (v0 v1 v2 v3 v4 : Value) (d0 d1 d2 d3 d4 : DataW H) (p0 p1 p2 p3 p4 : List MemPlace)
    (h0 : DataW.Trod enc Try.prog W 0 (fun _ => true) true 44 v0 d0 p0) (h1 : DataW.Trod enc Try.prog W 0 (fun _ => true) true 46 v1 d1 p1) (h2 : DataW.Trod enc Try.prog W 0 (fun _ => true) true 47 v2 d2 p2) (h3 : DataW.Trod enc Try.prog W 0 (fun _ => true) true 22 v3 d3 p3) (h4 : DataW.Trod enc Try.prog W 0 (fun _ => true) true 22 v4 d4 p4)
    (o0 : Value.okWide Try.prog W .any base 44 v0) (o1 : Value.okWide Try.prog W .any base 46 v1) (o2 : Value.okWide Try.prog W .any base 47 v2) (o3 : Value.okWide Try.prog W .any base 22 v3) (o4 : Value.okWide Try.prog W .any base 22 v4) :
    Calls Try.prog 4 #[v0, v1, v2, v3, v4] W fun e w' => e = .returned (.bool true) ∧ RowKit.Below W.heap.size W w' := by
  obtain ⟨a0, n0, c0, k0, rfl, x0, y0, z0, b0, s0⟩ := open_texts_arg o0 h0
  obtain ⟨t, k, n, ht, _, _, rfl⟩ := query_arg o1 h1
  obtain ⟨a2, n2, c2, bs, rfl, hb, _, q1, q2⟩ := open_bytes_arg o2 h2
  obtain ⟨a3, n3, c3, zs3, rfl, hh3, _, r1, r2, _⟩ := open_ints_arg (k := .i64) Try.underlying22 Try.underlying3 (by kernel_rfl) o3 h3
  obtain ⟨a4, n4, c4, zs4, rfl, hh4, _, u1, u2, _⟩ := open_ints_arg (k := .i64) Try.underlying22 Try.underlying3 (by kernel_rfl) o4 h4
  unfold maxLen at q2 r2 u2
  exact mergeBegins_any a0 n0 c0 k0 t k n a2 n2 c2 bs a3 n3 c3 zs3 a4 n4 c4 zs4 W x0 b0 s0 ht hb (by omega) hh3 hh4 (by omega) (by omega)
end Go.Proofs.Ytgghbgmeebihbaa
