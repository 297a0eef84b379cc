/- texts joined -/
import Derived.Test.YtioegheehodndaaPkA
import Derived.Deep.DeepCutAuto
import Derived.Deep.CutRange
import Derived.Deep.CutBlock
import Derived.Deep.QuietTactic
import Derived.BigQuiet
import Derived.Laws.OwnMore
import Derived.Lib.SliceRun
import Derived.WalkLawsBesides
import Derived.WalkSpells
import Derived.Outline
/- contract of edit.Distance -/
namespace Go.Proofs.Ytioegheehodndaa
open Go.RowKit
set_option linter.unusedVariables false
set_option maxRecDepth 20000
/-- the distance of two strings, or -1 -/
def distS (a b : ByteArray) : Int := if 0 ≤ lenS a ∧ 0 ≤ lenS b then Ed.L (intsN (runesS a)) (intsN (runesS b)) (runesS a).length (runesS b).length else -1
theorem intsN_length (P : List Nat) : (intsN P).length = P.length := by simp [intsN]
theorem intsN_at {s : ByteArray} {P Q : List Nat} {r : Nat} (h : runesS s = P ++ r :: Q) : (intsN (runesS s)).getD P.length 0 = (r : Int) := by
  rw [h]; simp [intsN, List.getD_eq_getElem?_getD]
set_option maxHeartbeats 1600000 in
theorem distance_good (a b : ByteArray) (w : World) (hsa : a.size ≤ 1048576) (hsb : b.size ≤ 1048576) (hga : 0 ≤ lenS a) (hgb : 0 ≤ lenS b) :
    Calls Try.prog 31 #[.string a, .string b] w fun e w' => e = .returned (.int .i64 (distS a b)) ∧ Below w.heap.size w w' := by
  have hgb2 : ¬ lenS b < 0 := by omega
  have hd : distS a b = Ed.L (intsN (runesS a)) (intsN (runesS b)) (runesS a).length (runesS b).length := by unfold distS; rw [if_pos ⟨hga, hgb⟩]
  have hle := runesS_le a
  have hleb := runesS_le b
  have hl1 := intsN_length (runesS a)
  have hl2 := intsN_length (runesS b)
  have hrow := Ed.row_getD (intsN (runesS a)) (intsN (runesS b)) (runesS b).length (runesS a).length (by omega)
  have hrl := Ed.row_length (intsN (runesS a)) (intsN (runesS b))
  have hbd := Ed.row_bd (intsN (runesS a)) (intsN (runesS b))
  have hruns := runes_good a w hsa hga
  obtain ⟨m, hm⟩ : ∃ m, (runesS a).length = m := ⟨_, rfl⟩
  obtain ⟨ra, hra⟩ : ∃ ra, intsN (runesS a) = ra := ⟨_, rfl⟩
  obtain ⟨rb, hrb⟩ : ∃ rb, intsN (runesS b) = rb := ⟨_, rfl⟩
  obtain ⟨lb, hlb⟩ : ∃ lb, lenS b = lb := ⟨_, rfl⟩
  rw [hd]
  rw [hm] at hle hl1 hrow hruns ⊢
  rw [hra] at hl1 hrow hrl hbd hruns ⊢
  rw [hrb] at hl2 hrow hrl hbd ⊢
  rw [hlb] at hgb2
  rw [hl1] at hrl hbd
  have HRUNS := Lib.hid hruns; have HROW := Lib.hid hrow; have HRL := Lib.hid hrl; have HBD := Lib.hid hbd; have HL1 := Lib.hid hl1; have HL2 := Lib.hid hl2; have HRB := Lib.hid hrb; have HLE := Lib.hid hle; have HLEB := Lib.hid hleb; have HLB := Lib.hid hlb
  have hdec : (decide (lb < 0)) = false := by simpa using hgb2
  clear hruns hrow hrl hbd hl1 hl2 hra hrb hm hleb hd hga hgb hlb
  go_enter Try.func31, Try.ntmps31
  go_wp2_with fail
  refine HRUNS.out.mono ?_
  rintro e w1 ⟨aa, ca, rfl, hret⟩
  have hA : HoldsI .i32 w1 aa m ra := by have h1 := hret.holds; rw [HL1.out] at h1; exact h1
  have HA := Lib.hid hA
  have B1 := Lib.hid hret.2.1
  clear hA hret
  go_wp2_with fail
  refine (len_any b _ (by omega)).mono ?_
  rintro e w2 ⟨rfl, hb2⟩
  rw [HLB.out]
  have B2 := Lib.hid hb2
  clear hb2
  go_wp2_with fail
  refine (first_any m _ (by omega)).mono ?_
  rintro e w3 ⟨rfl, hown3, hb3⟩
  have hown3 : w3.ownsRow w2.heap.size 3 1 (.slice (some ⟨w2.heap.size, 0, none⟩) (m + 1) (m + 1)) (m + 1) (intsV (Ed.row ra rb 0)) := by
    rw [← upTo_row, HL1.out]; exact hown3
  have hlt3 := (hown3.lt w2.heap.size rfl).2
  have O3 := Lib.hid hown3
  have B3 := Lib.hid (B2.out.trans (hb3.mono B2.out.size))
  have s2 := B2.out.size; have s1 := B1.out.size; have s3 := B3.out.size
  clear hown3 hb3
  go_wp2_with fail
  go_loopw [9] (fun v wr => ∃ (pos f : Nat) (P : List Nat), b.size ≤ pos + f ∧ Hid (runesS b = P ++ runesN b f pos) ∧
      Hid (wr.ownsRow w2.heap.size 3 1 (.slice (some ⟨w2.heap.size, 0, none⟩) (m + 1) (m + 1)) (m + 1) (intsV (Ed.row ra rb P.length))) ∧ Hid (wr.heap[w3.heap.size]? = some (.stringIter b pos)) ∧ Hid (Below w1.heap.size w1 wr)) (fun _ wr => b.size - wr.iterPos w3.heap.size)
  case atStart => exact ⟨0, b.size, [], by omega, Lib.hid rfl, Lib.hid (owns_below O3.out (below_one _ _)), Lib.hid (World.iter_heap w3 b 0), Lib.hid (B3.out.trans ((below_one w3 _).mono B3.out.size))⟩
  case round =>
    obtain ⟨pos, f, P, hf, hP, hO, hIt, hB⟩ := hrel
    by_cases hlt : pos < b.size
    · have hnx := fun ty => Lib.run_next_any_at (P := Try.prog) wr w3.heap.size b pos ty hIt.out hlt
      obtain ⟨g, rfl, hst, hg⟩ := runesN_step b f pos hlt hf
      have hwd := decode_width b pos hlt
      have hPn : P.length + 1 ≤ b.size := by
        have h1 := congrArg List.length hP.out
        have h2 := HLEB.out
        rw [hst, List.length_append, List.length_cons] at h1
        omega
      have HST := Lib.hid hst
      obtain ⟨r, hr⟩ : ∃ r, (Utf8.decode b pos).1 = r := ⟨_, rfl⟩
      obtain ⟨wd, hwd2⟩ : ∃ wd, (Utf8.decode b pos).2 = wd := ⟨_, rfl⟩
      rw [hr, hwd2] at hnx HST; rw [hwd2] at hg hwd
      clear hst hr hwd2
      have hat := intsN_at (by rw [hP.out, HST.out] : runesS b = P ++ r :: _)
      rw [HRB.out] at hat
      have OI := Lib.hid (owns_iterAt hO.out hIt.out (pos + wd))
      have BI := Lib.hid (Lib.below_iterAt hB.out (show w1.heap.size ≤ w3.heap.size by omega) b (pos + wd))
      have II := Lib.hid (Lib.iterAt_heap wr _ b pos (pos + wd) hIt.out)
      have HAT := Lib.hid hat
      clear hat
      go_wp2_with fail
      refine (advance_any w2.heap.size w2.heap.size (m + 1) m (Ed.row ra rb P.length) ra aa _ (r : Int) _ OI.out (HA.out.below BI.out) (fun x o h0 hx => ?_) (fun i => ?_) (by omega)).mono ?_
      · have := holdsI_lt HA.out x o h0 hx; omega
      · have := HBD.out P.length i; omega
      rintro e w4 ⟨rfl, hown4, hgr4⟩
      have hown4 : w4.ownsRow w2.heap.size 3 1 (.slice (some ⟨w2.heap.size, 0, none⟩) (m + 1) (m + 1)) (m + 1) (intsV (Ed.row ra rb (P.length + 1))) := by
        rw [← Ed.mix_all, HAT.out, HL1.out]; exact hown4
      have O4 := Lib.hid hown4
      have hIt4 : w4.heap[w3.heap.size]? = some (.stringIter b (pos + wd)) := by
        have hl := (Array.getElem?_eq_some_iff.1 II.out).1
        rw [hgr4.block w3.heap.size hl (by intro e; injection e with e; omega)]
        exact II.out
      have I4 := Lib.hid hIt4
      have B4 := Lib.hid (BI.out.grown hgr4 BI.out.size (by intro q hq; injection hq with hq; omega))
      clear hown4 hgr4 hIt4
      go_wp2_with fail
      go_roundw
      case rel => exact ⟨pos + wd, g, P ++ [r], hg, Lib.hid (by rw [hP.out, HST.out]; simp), Lib.hid (by rw [List.length_append]; exact O4.out), I4, B4⟩
      case measure =>
        have h1 : w4.iterPos w3.heap.size = pos + wd := by simp [World.iterPos, I4.out]
        have h2 : wr.iterPos w3.heap.size = pos := by simp [World.iterPos, hIt.out]
        rw [h1, h2]; omega
    · have hnx := fun ty => Lib.run_next_end_at (P := Try.prog) wr w3.heap.size b pos ty hIt.out hlt
      have he : runesS b = P := by rw [hP.out, runesN_end b f pos hlt, List.append_nil]
      have hpl : P.length = (runesS b).length := by rw [he]
      have hc := hO.out.cellAt m (by omega)
      rw [intsV_at _ m (by rw [HRL.out]; omega), hpl, HROW.out] at hc
      have HC := Lib.hid (hB.out)
      have hfin : Below w.heap.size w wr := B1.out.trans (hB.out.mono B1.out.size)
      have HF := Lib.hid hfin
      clear he hpl hfin HC
      go_wp2
      go_ret
      exact ⟨rfl, HF.out⟩
theorem distance_any (a b : ByteArray) (w : World) (hsa : a.size ≤ 1048576) (hsb : b.size ≤ 1048576) :
    Calls Try.prog 31 #[.string a, .string b] w fun e w' => e = .returned (.int .i64 (distS a b)) ∧ Below w.heap.size w w' := by
  by_cases hga : 0 ≤ lenS a
  · by_cases hgb : 0 ≤ lenS b
    · exact distance_good a b w hsa hsb hga hgb
    · have hd : distS a b = -1 := by unfold distS; rw [if_neg (by omega)]
      have hruns := runes_good a w hsa hga
      have hgb2 : lenS b < 0 := by omega
      obtain ⟨m, hm⟩ : ∃ m, (runesS a).length = m := ⟨_, rfl⟩
      obtain ⟨lb, hlb⟩ : ∃ lb, lenS b = lb := ⟨_, rfl⟩
      rw [hd]
      rw [hm] at hruns
      rw [hlb] at hgb2
      have hdec : (decide (lb < 0)) = true := by simpa using hgb2
      have HRUNS := Lib.hid hruns; have HLB := Lib.hid hlb
      clear hruns hlb hm hd hga hgb
      go_enter Try.func31, Try.ntmps31
      go_wp2_with fail
      refine HRUNS.out.mono ?_
      rintro e w1 ⟨aa, ca, rfl, hret⟩
      have B1 := Lib.hid hret.2.1
      clear hret
      go_wp2_with fail
      refine (len_any b _ (by omega)).mono ?_
      rintro e w2 ⟨rfl, hb2⟩
      rw [HLB.out]
      have B2 := Lib.hid (B1.out.trans (hb2.mono B1.out.size))
      clear hb2
      go_wp2
      go_ret
      exact ⟨rfl, B2.out⟩
  · have hd : distS a b = -1 := by unfold distS; rw [if_neg (by omega)]
    have hruns := runes_bad a w hsa (by omega)
    rw [hd]
    have HRUNS := Lib.hid hruns
    clear hruns hd hga
    go_enter Try.func31, Try.ntmps31
    go_wp2_with fail
    refine HRUNS.out.mono ?_
    rintro e w1 ⟨rfl, hb1⟩
    go_wp2
    go_ret
    exact ⟨rfl, hb1⟩
end Go.Proofs.Ytioegheehodndaa
/- contracts of edit.Rows and edit.Runes -/
namespace Go.Proofs.Ytioegheehodndaa
open Go.RowKit
set_option linter.unusedVariables false
set_option maxRecDepth 20000
set_option maxHeartbeats 800000 in
theorem rows_any (ra rb : List Int) (a b : Option Addr) (ca cb : Nat) (w : World) (ha : HoldsI .i32 w a ra.length ra) (hb : HoldsI .i32 w b rb.length rb) (hla : ra.length ≤ 1048576) (hlb : rb.length ≤ 1048576) :
    Calls Try.prog 79 #[.slice a ra.length ca, .slice b rb.length cb] w fun e w' => e = .returned (.slice (some ⟨w.heap.size, 0, none⟩) (ra.length + 1) (ra.length + 1)) ∧ RetRow w ra rb rb.length w.heap.size (ra.length + 1) w' := by
  obtain ⟨m, hm⟩ : ∃ m, ra.length = m := ⟨_, rfl⟩
  obtain ⟨n, hn⟩ : ∃ n, rb.length = n := ⟨_, rfl⟩
  unfold RetRow
  rw [hm] at ha hla ⊢; rw [hn] at hb hlb ⊢
  have HM := Lib.hid hm; have HN := Lib.hid hn; have HA := Lib.hid ha; have HB := Lib.hid hb
  clear hm hn ha hb
  go_enter Try.func79, Try.ntmps79
  go_wp2_with fail
  refine (first_any m _ (by omega)).mono ?_
  rintro e w1 ⟨rfl, hown, hb1⟩
  have B1 := Lib.hid hb1
  have hown : w1.ownsRow w.heap.size 3 1 (.slice (some ⟨w.heap.size, 0, none⟩) (m + 1) (m + 1)) (m + 1) (intsV (Ed.row ra rb 0)) := by
    rw [← upTo_row, HM.out]; exact hown
  have O1 := Lib.hid hown
  clear hb1 hown
  go_wp2_with fail
  go_loopw [13] (fun i wr => ∃ k : Nat, k ≤ n ∧ i = .int .i64 k ∧ Hid (wr.ownsRow w.heap.size 3 1 (.slice (some ⟨w.heap.size, 0, none⟩) (m + 1) (m + 1)) (m + 1) (intsV (Ed.row ra rb k))) ∧ Hid (Below w.heap.size w wr)) (fun i _ => n - (intOf i).toNat)
  case atStart => exact ⟨0, by omega, rfl, O1, B1⟩
  case round =>
    obtain ⟨k, hk, rfl, hO, hBw⟩ := hrel
    by_cases hlt : k < n
    · obtain ⟨bb, ob, rfl, hcb⟩ := (HB.out.below hBw.out).at (by omega)
      have e1 := hcb k hlt
      clear hcb
      have hadv := fun R r c => advance_any w.heap.size w.heap.size (m + 1) m R ra a c r
      obtain ⟨r, hr⟩ : ∃ r, rb.getD k 0 = r := ⟨_, rfl⟩
      rw [hr] at e1
      have HR := Lib.hid hr
      clear hr hadv
      go_wp2_with fail
      refine (advance_any w.heap.size w.heap.size (m + 1) m (Ed.row ra rb k) ra a _ r _ hO.out (HA.out.below hBw.out) (fun b o h0 ha => ?_) (fun i => ?_) (by omega)).mono ?_
      · have := holdsI_lt HA.out b o h0 ha; omega
      · have := Ed.row_bd ra rb k i; have := HM.out; omega
      rintro e w2 ⟨rfl, hown2, hgr2⟩
      have hown2 : w2.ownsRow w.heap.size 3 1 (.slice (some ⟨w.heap.size, 0, none⟩) (m + 1) (m + 1)) (m + 1) (intsV (Ed.row ra rb (k + 1))) := by
        rw [← Ed.mix_all, HR.out, HM.out]; exact hown2
      have O2 := Lib.hid hown2
      have B2 := Lib.hid (hBw.out.grown hgr2 hBw.out.size (by intro q hq; injection hq with hq; omega))
      clear hown2 hgr2
      go_wp2_with fail
      go_roundw
      case rel => exact ⟨k + 1, by omega, by go_num, O2, B2⟩
      case measure => simp [intOf]; omega
    · obtain rfl : k = n := by omega
      go_wp2
      go_ret
      exact ⟨rfl, hO.out, hBw.out⟩
set_option maxHeartbeats 800000 in
theorem eruns_any (ra rb : List Int) (a b : Option Addr) (ca cb : Nat) (w : World) (ha : HoldsI .i32 w a ra.length ra) (hb : HoldsI .i32 w b rb.length rb) (hla : ra.length ≤ 1048576) (hlb : rb.length ≤ 1048576) :
    Calls Try.prog 62 #[.slice a ra.length ca, .slice b rb.length cb] w fun e w' => e = .returned (.int .i64 (Ed.L ra rb ra.length rb.length)) ∧ Below w.heap.size w w' := by
  have HA := Lib.hid ha; have HB := Lib.hid hb
  have hrow := Ed.row_getD ra rb rb.length ra.length (Nat.le_refl _)
  have hrl := Ed.row_length ra rb rb.length
  obtain ⟨m, hm⟩ : ∃ m, ra.length = m := ⟨_, rfl⟩
  obtain ⟨n, hn⟩ : ∃ n, rb.length = n := ⟨_, rfl⟩
  have hrows := rows_any ra rb a b ca cb w ha hb hla hlb
  unfold RetRow at hrows
  rw [hm] at hla hrow hrl hrows ⊢; rw [hn] at hlb hrow hrl hrows ⊢
  have HROWS := Lib.hid hrows; have HROW := Lib.hid hrow; have HRL := Lib.hid hrl
  clear ha hb hm hn hrows hrow hrl
  go_enter Try.func62, Try.ntmps62
  go_wp2_with fail
  refine HROWS.out.mono ?_
  rintro e w1 ⟨rfl, hown, hb1⟩
  have hc := hown.cellAt m (by omega)
  rw [intsV_at _ m (by rw [HRL.out]; omega), HROW.out] at hc
  have B1 := Lib.hid hb1
  clear hown hb1
  go_wp2
  go_ret
  exact ⟨rfl, B1.out⟩
end Go.Proofs.Ytioegheehodndaa
/- what every program answers that is one: edit; how long lists are -/
namespace Go.Proofs.Ytioegheehodndaa
open Go.RowKit
set_option linter.unusedVariables false
set_option maxRecDepth 20000
theorem holdsI_lit (k : IntKind) (w : World) (zs : List Int) (e : TypeId) (fr : Nat × Nat) : HoldsI k (w.alloc (.cells (zs.map (Value.int k)).toArray e fr)) (some ⟨w.heap.size, 0, none⟩) zs.length zs := by
  refine ⟨rfl, fun _ => ⟨_, _, rfl, fun i hi => ?_⟩⟩
  rw [World.cell?_alloc_mark, Nat.zero_add]
  simp [List.getD_eq_getElem?_getD, hi]
theorem holdsI_nil (k : IntKind) (w : World) (a : Option Addr) : HoldsI k w a 0 [] := ⟨rfl, fun h => absurd h (by decide)⟩
theorem own_holdsI {w : World} {base : Nat} {e : TypeId} {a : Option Addr} {n c : Nat} {zs : List Int} (h : w.ownsRow base e 1 (.slice a n c) n (intsV zs)) : HoldsI .i64 w a n zs := by
  have hv := owns_holds h
  have hl : zs.length = n := by have := h.1; simpa [intsV] using this
  refine ⟨hl, fun h0 => ?_⟩
  obtain ⟨b, o, ha, hc⟩ := hv.2 h0
  exact ⟨b, o, ha, fun i hi => by rw [hc i hi, intsV, getD_map_int .i64 zs i (by omega)]⟩
theorem dist_one : distS { data := #[97, 98, 99] } { data := #[97, 120, 99, 100] } = 2 := by
  have l1 : lenS { data := #[97, 98, 99] } = 3 := by decide +kernel
  have l2 : lenS { data := #[97, 120, 99, 100] } = 4 := by decide +kernel
  have r1 : intsN (runesS { data := #[97, 98, 99] }) = [97, 98, 99] := by decide +kernel
  have r2 : intsN (runesS { data := #[97, 120, 99, 100] }) = [97, 120, 99, 100] := by decide +kernel
  have n1 : (runesS { data := #[97, 98, 99] }).length = 3 := by decide +kernel
  have n2 : (runesS { data := #[97, 120, 99, 100] }).length = 4 := by decide +kernel
  unfold distS
  rw [l1, l2, r1, r2, n1, n2, if_pos (by decide)]
  have h0 : Ed.row [97, 98, 99] [97, 120, 99, 100] 0 = [0, 1, 2, 3] := by rw [← upTo_row]; decide
  have h1 : Ed.row [97, 98, 99] [97, 120, 99, 100] 1 = [1, 0, 1, 2] := by rw [← Ed.mix_all _ _ 0, h0]; decide
  have h2 : Ed.row [97, 98, 99] [97, 120, 99, 100] 2 = [2, 1, 1, 2] := by rw [← Ed.mix_all _ _ 1, h1]; decide
  have h3 : Ed.row [97, 98, 99] [97, 120, 99, 100] 3 = [3, 2, 2, 1] := by rw [← Ed.mix_all _ _ 2, h2]; decide
  have h4 : Ed.row [97, 98, 99] [97, 120, 99, 100] 4 = [4, 3, 3, 2] := by rw [← Ed.mix_all _ _ 3, h3]; decide
  rw [← Ed.row_getD _ _ 4 3 (by decide), h4]
  rfl
theorem dist_two : distS { data := #[97] } { data := #[255] } = -1 := by
  have l2 : lenS { data := #[255] } = -1 := by decide +kernel
  unfold distS
  rw [l2, if_neg (by omega)]
theorem row_three : Ed.row [97, 98] [98] 1 = [1, 1, 1] := by
  have h0 : Ed.row [97, 98] [98] 0 = [0, 1, 2] := by rw [← upTo_row]; decide
  rw [← Ed.mix_all _ _ 0, h0]; decide
theorem rows_lit (ra rb : List Int) (m n : Nat) (a b : Option Addr) (ca cb : Nat) (w : World) (hm : ra.length = m) (hn : rb.length = n) (ha : HoldsI .i32 w a m ra) (hb : HoldsI .i32 w b n rb) (hla : m ≤ 1048576) (hlb : n ≤ 1048576) :
    Calls Try.prog 79 #[.slice a m ca, .slice b n cb] w fun e w' => e = .returned (.slice (some ⟨w.heap.size, 0, none⟩) (m + 1) (m + 1)) ∧ w'.ownsRow w.heap.size 3 1 (.slice (some ⟨w.heap.size, 0, none⟩) (m + 1) (m + 1)) (m + 1) (intsV (Ed.row ra rb n)) ∧ Below w.heap.size w w' := by
  subst hm hn; exact rows_any ra rb a b ca cb w ha hb hla hlb
end Go.Proofs.Ytioegheehodndaa
/- rows of edit distances: how they change, their beginnings; two cells kept -/
namespace Go.Proofs.Ytioegheehodndaa
open Go.RowKit
set_option linter.unusedVariables false
set_option maxRecDepth 20000
theorem Ed.L_back (a b : List Int) (i : Nat) : ∀ j, Ed.L a b i j ≤ Ed.L a b (i + 1) j + 1 := by
  intro j
  induction j with
  | zero => rw [Ed.L_zero, Ed.L_zero]; omega
  | succ j ih =>
    have h1 := Ed.L_right a b i j; have h2 := Ed.cost_bd (a.getD i 0) (b.getD j 0)
    have h3 : Ed.L a b (i + 1) (j + 1) = min (min (Ed.L a b i j + Ed.cost (a.getD i 0) (b.getD j 0)) (Ed.L a b (i + 1) j + 1)) (Ed.L a b i (j + 1) + 1) := by simp only [Ed.L]
    omega
theorem getD_take_in (l : List Int) (k i : Nat) (h : i < k) : (l.take k).getD i 0 = l.getD i 0 := by
  simp [List.getD_eq_getElem?_getD, h]
theorem Ed.L_take (a b : List Int) (k : Nat) : ∀ i j, i ≤ k → Ed.L (a.take k) b i j = Ed.L a b i j := by
  intro i
  induction i with
  | zero => intro j _; simp only [Ed.L]
  | succ i ih =>
    intro j hi
    induction j with
    | zero => simp only [Ed.L]
    | succ j ihj => simp only [Ed.L]; rw [ih j (by omega), ih (j + 1) (by omega), ihj, getD_take_in a k i (by omega)]
theorem HoldsI.take {k : IntKind} {w : World} {a : Option Addr} {n : Nat} {zs : List Int} (h : HoldsI k w a n zs) (m : Nat) (hm : m ≤ n) : HoldsI k w a m (zs.take m) := by
  refine ⟨by have := h.1; simp; omega, fun h0 => ?_⟩
  obtain ⟨b, o, ha, hc⟩ := h.2 (by omega)
  exact ⟨b, o, ha, fun i hi => by rw [hc i (by omega), getD_take_in zs m i hi]⟩
/-- what lay in two cells lies there still -/
def Two (w1 : World) (g i j : Nat) (x y : Value) (w' : World) : Prop := Below w1.heap.size w1 w' ∧ w'.cell? ⟨g, i, none⟩ = some x ∧ w'.cell? ⟨g, j, none⟩ = some y
theorem two_carry {w1 : World} {g i j : Nat} {x y : Value} {w w' : World} (h : Two w1 g i j x y w) (hb : Below w.heap.size w w') : Two w1 g i j x y w' :=
  ⟨h.1.trans (hb.mono h.1.size), by rw [hb.cell (p := ⟨g, i, none⟩) (lt_of_cell h.2.1)]; exact h.2.1, by rw [hb.cell (p := ⟨g, j, none⟩) (lt_of_cell h.2.2)]; exact h.2.2⟩
theorem eruns_lit (ra rb : List Int) (m n : Nat) (a b : Option Addr) (ca cb : Nat) (w : World) (hm : ra.length = m) (hn : rb.length = n) (ha : HoldsI .i32 w a m ra) (hb : HoldsI .i32 w b n rb) (hla : m ≤ 1048576) (hlb : n ≤ 1048576) :
    Calls Try.prog 62 #[.slice a m ca, .slice b n cb] w fun e w' => e = .returned (.int .i64 (Ed.L ra rb m n)) ∧ Below w.heap.size w w' := by
  subst hm hn; exact eruns_any ra rb a b ca cb w ha hb hla hlb
end Go.Proofs.Ytioegheehodndaa
/- a band of a table of distances: plain lemmas; a row in memory -/
namespace Go.Proofs.Ytioegheehodndaa
open Go.RowKit
set_option linter.unusedVariables false
set_option maxRecDepth 20000
/-- what the band's cell x holds when i runes of a are done: the distance, k + 1 at most -/
structure Cell (a b : List Int) (k i x : Nat) (v : Int) : Prop where
  lo : 0 ≤ v
  hi : v ≤ (k : Int) + 1
  eq : ∀ j : Nat, (j : Int) = (i : Int) + x - k → j ≤ b.length → v = min (Ed.L a b i j) ((k : Int) + 1)
  far : i + x < k → v = (k : Int) + 1
theorem cell_start (a b : List Int) (k x : Nat) (h : x ≤ 2 * k) : Cell a b k 0 x (if k ≤ x then (x : Int) - k else (k : Int) + 1) := by
  refine ⟨by split <;> omega, by split <;> omega, fun j hj hl => ?_, fun hx => by rw [if_neg (by omega)]⟩
  rw [Ed.L_zeroL, if_pos (by omega)]; omega
theorem cell_out_low (a b : List Int) (k i x : Nat) (h : i + x < k) : Cell a b k i x ((k : Int) + 1) := ⟨by omega, by omega, fun j hj _ => by omega, fun _ => rfl⟩
theorem cell_out_high (a b : List Int) (k i x : Nat) (h : (b.length : Int) < (i : Int) + x - k) : Cell a b k i x ((k : Int) + 1) := ⟨by omega, by omega, fun j hj _ => by omega, fun _ => rfl⟩
/-- the cell at the left edge of the table -/
theorem cell_zero (a b : List Int) (k i x : Nat) (u v : Int) (hx : (i : Int) + 1 + x = k) (hu : x + 1 ≤ 2 * k → Cell a b k i (x + 1) u) (hv : v = min (min ((k : Int) + 1) (u + 1)) ((k : Int) + 1)) : Cell a b k (i + 1) x v := by
  have h1 := (hu (by omega)).eq 0 (by omega) (by omega)
  rw [Ed.L_zero] at h1
  refine ⟨by omega, by omega, fun j hj hl => ?_, fun h => by omega⟩
  obtain rfl : j = 0 := by omega
  rw [Ed.L_zero]; omega
/-- a cell within the table -/
theorem cell_in (a b : List Int) (k i x J : Nat) (o l u d2 d3 v : Int) (hJ : (J : Int) + 1 = (i : Int) + 1 + x - k) (hl : J + 1 ≤ b.length) (ho : Cell a b k i x o)
    (hd2 : (x = 0 ∧ d2 = o + Ed.cost (a.getD i 0) (b.getD J 0)) ∨ (∃ p, p + 1 = x ∧ Cell a b k (i + 1) p l ∧ d2 = min (o + Ed.cost (a.getD i 0) (b.getD J 0)) (l + 1)))
    (hd3 : (x = 2 * k ∧ d3 = d2) ∨ (x < 2 * k ∧ Cell a b k i (x + 1) u ∧ d3 = min d2 (u + 1)))
    (hv : v = min d3 ((k : Int) + 1)) : Cell a b k (i + 1) x v := by
  have h1 := ho.eq J (by omega) (by omega)
  have hc := Ed.cost_bd (a.getD i 0) (b.getD J 0)
  have hL : Ed.L a b (i + 1) (J + 1) = min (min (Ed.L a b i J + Ed.cost (a.getD i 0) (b.getD J 0)) (Ed.L a b (i + 1) J + 1)) (Ed.L a b i (J + 1) + 1) := by simp only [Ed.L]
  have b1 := Ed.L_low a b (i + 1) J
  have b2 := Ed.L_low a b i (J + 1)
  have b3 := Ed.L_bd a b i J
  have b4 := Ed.L_bd a b (i + 1) J
  have b5 := Ed.L_bd a b i (J + 1)
  have g1 := ho.lo
  have e2 : d2 = min (o + Ed.cost (a.getD i 0) (b.getD J 0)) (min (Ed.L a b (i + 1) J) ((k : Int) + 1) + 1) ∨ (d2 = o + Ed.cost (a.getD i 0) (b.getD J 0) ∧ (k : Int) + 1 ≤ Ed.L a b (i + 1) J) := by
    rcases hd2 with ⟨hx, h⟩ | ⟨p, hp, hcell, h⟩
    · exact Or.inr ⟨h, by omega⟩
    · have h2 := hcell.eq J (by omega) (by omega)
      exact Or.inl (by rw [h, h2])
  have e3 : d3 = min d2 (min (Ed.L a b i (J + 1)) ((k : Int) + 1) + 1) ∨ (d3 = d2 ∧ (k : Int) + 1 ≤ Ed.L a b i (J + 1)) := by
    rcases hd3 with ⟨hx, h⟩ | ⟨hx, hcell, h⟩
    · exact Or.inr ⟨h, by omega⟩
    · have h2 := hcell.eq (J + 1) (by omega) (by omega)
      exact Or.inl (by rw [h, h2])
  have hval : v = min (Ed.L a b (i + 1) (J + 1)) ((k : Int) + 1) := by
    rw [hL, hv]
    generalize Ed.L a b i J = A at *
    generalize Ed.L a b (i + 1) J = B at *
    generalize Ed.L a b i (J + 1) = C at *
    generalize Ed.cost (a.getD i 0) (b.getD J 0) = c at *
    clear hd2 hd3 ho hL
    rcases e2 with e2 | ⟨e2, f2⟩ <;> rcases e3 with e3 | ⟨e3, f3⟩ <;> omega
  have b6 := Ed.L_bd a b (i + 1) (J + 1)
  refine ⟨by omega, by omega, fun j hj hl2 => ?_, fun h => by omega⟩
  obtain rfl : j = J + 1 := by omega
  exact hval
/-- what a round of the band has to come to, told of the number that it begins with -/
def Comes (a b : List Int) (k i x : Nat) (d1 : Int) : Prop :=
  ∀ (l u d2 d3 v : Int), ((x = 0 ∧ d2 = d1) ∨ (∃ p, p + 1 = x ∧ Cell a b k (i + 1) p l ∧ d2 = min d1 (l + 1))) →
    ((x = 2 * k ∧ d3 = d2) ∨ (x < 2 * k ∧ Cell a b k i (x + 1) u ∧ d3 = min d2 (u + 1))) → v = min d3 ((k : Int) + 1) → Cell a b k (i + 1) x v
theorem comes_in (a b : List Int) (k i x J : Nat) (o : Int) (hJ : (J : Int) + 1 = (i : Int) + 1 + x - k) (hl : J + 1 ≤ b.length) (ho : Cell a b k i x o) : Comes a b k i x (o + Ed.cost (a.getD i 0) (b.getD J 0)) :=
  fun l u d2 d3 v h2 h3 hv => cell_in a b k i x J o l u d2 d3 v hJ hl ho h2 h3 hv
theorem comes_zero (a b : List Int) (k i x : Nat) (hx : (i : Int) + 1 + x = k) : Comes a b k i x ((k : Int) + 1) := by
  intro l u d2 d3 v h2 h3 hv
  have e2 : d2 = (k : Int) + 1 := by
    rcases h2 with ⟨_, h⟩ | ⟨p, hp, hc, h⟩
    · exact h
    · have := hc.far (by omega); omega
  rcases h3 with ⟨h, _⟩ | ⟨h, hc, h'⟩
  · omega
  · exact cell_zero a b k i x u v hx (fun _ => hc) (by rw [hv, h', e2])
/-- a row of numbers in memory, in a block of its own -/
structure RowIs (w : World) (g n : Nat) (f : Nat → Int) : Prop where
  c : ∀ j, j < n → w.cell? ⟨g, j, none⟩ = some (.int .i64 (f j))
  fr : ∀ j, w.frozen? ⟨g, j, none⟩ = false
def updI (f : Nat → Int) (i : Nat) (v : Int) : Nat → Int := fun j => if j = i then v else f j
theorem updI_at (f : Nat → Int) (i : Nat) (v : Int) : updI f i v i = v := by simp [updI]
theorem updI_ne (f : Nat → Int) (i j : Nat) (v : Int) (h : j ≠ i) : updI f i v j = f j := by simp [updI, h]
theorem setc_at {w : World} {b o : Nat} {u v : Value} (h : w.cell? ⟨b, o, none⟩ = some u) : (w.setCell ⟨b, o, none⟩ v).cell? ⟨b, o, none⟩ = some v := World.cell?_setCell_same _ _ _ h
theorem setc_ne {w : World} {b o p : Nat} {v : Value} (h : o ≠ p) : (w.setCell ⟨b, o, none⟩ v).cell? ⟨b, p, none⟩ = w.cell? ⟨b, p, none⟩ := World.cell?_setCell_other _ _ _ _ (by intro e; injection e; contradiction)
theorem RowIs.set {w : World} {g n : Nat} {f : Nat → Int} (h : RowIs w g n f) (i : Nat) (v : Int) (hi : i < n) : RowIs (w.setCell ⟨g, i, none⟩ (.int .i64 v)) g n (updI f i v) := by
  refine ⟨fun j hj => ?_, fun j => by rw [show (w.setCell ⟨g, i, none⟩ (.int .i64 v)).frozen? ⟨g, j, none⟩ = w.frozen? ⟨g, j, none⟩ by simp]; exact h.fr j⟩
  by_cases e : j = i
  · subst e; rw [updI_at]; exact setc_at (h.c j hj)
  · rw [updI_ne _ _ _ _ e, setc_ne (fun x => e x.symm)]; exact h.c j hj
theorem RowIs.lt {w : World} {g n : Nat} {f : Nat → Int} (h : RowIs w g n f) (hn : 0 < n) : g < w.heap.size := lt_of_cell (h.c 0 hn)
theorem RowIs.block {w w' : World} {g n : Nat} {f : Nat → Int} (h : RowIs w g n f) (hb : w'.heap[g]? = w.heap[g]?) : RowIs w' g n f :=
  ⟨fun j hj => by rw [World.cell?_of_block (w := w) hb]; exact h.c j hj, fun j => by rw [World.frozen?_of_block (w := w) hb]; exact h.fr j⟩
/-- apart from block b the world w' is as w was -/
structure But (b : Nat) (w w' : World) : Prop where
  os : w'.os = w.os
  tape : w'.tape = w.tape
  output : w'.output = w.output
  size : w.heap.size ≤ w'.heap.size
  block : ∀ k, k < w.heap.size → k ≠ b → w'.heap[k]? = w.heap[k]?
theorem But.refl (b : Nat) (w : World) : But b w w := ⟨rfl, rfl, rfl, Nat.le_refl _, fun _ _ _ => rfl⟩
theorem But.trans {b : Nat} {w w1 w2 : World} (h : But b w w1) (k : But b w1 w2) : But b w w2 :=
  ⟨k.os.trans h.os, k.tape.trans h.tape, k.output.trans h.output, Nat.le_trans h.size k.size, fun i hi hb => (k.block i (Nat.lt_of_lt_of_le hi h.size) hb).trans (h.block i hi hb)⟩
theorem But.setCell (w : World) (b o : Nat) (v : Value) : But b w (w.setCell ⟨b, o, none⟩ v) :=
  ⟨rfl, rfl, rfl, by simp [World.setCell], fun k _ hk => Below.heap_setCell _ _ _ _ hk⟩
theorem But.below {b B : Nat} {w w' : World} (h : But b w w') (hb : B ≤ b) (hB : B ≤ w.heap.size) : Below B w w' :=
  ⟨h.os, h.tape, h.output, h.size, fun k hk => h.block k (by omega) (by omega)⟩
theorem HoldsI.but {k : IntKind} {w w' : World} {a : Option Addr} {n : Nat} {zs : List Int} {g : Nat} (h : HoldsI k w a n zs) (hb : But g w w') (hne : ∀ b o, 0 < n → a = some ⟨b, o, none⟩ → b ≠ g) : HoldsI k w' a n zs := by
  refine ⟨h.1, fun h0 => ?_⟩
  obtain ⟨b, o, ha, hc⟩ := h.2 h0
  refine ⟨b, o, ha, fun i hi => ?_⟩
  rw [World.cell?_of_block (w := w) (hb.block b (lt_of_cell (hc i hi)) (hne b o h0 ha))]
  exact hc i hi
end Go.Proofs.Ytioegheehodndaa
/- a table of distances in memory: rows in blocks of their own -/
namespace Go.Proofs.Ytioegheehodndaa
open Go.RowKit
set_option linter.unusedVariables false
set_option maxRecDepth 20000
/-- a row of numbers that lies in a block of cells of int -/
def RowAt (w : World) (g n : Nat) (f : Nat → Int) : Prop := ∃ cs fr, w.heap[g]? = some (.cells cs 3 fr) ∧ ∀ j, j < n → cs[j]? = some (.int .i64 (f j))
theorem RowAt.cell {w : World} {g n : Nat} {f : Nat → Int} (h : RowAt w g n f) {j : Nat} (hj : j < n) : w.cell? ⟨g, j, none⟩ = some (.int .i64 (f j)) := by
  obtain ⟨cs, fr, h1, h2⟩ := h
  rw [Joins.cell_of_block h1]; exact h2 j hj
theorem RowAt.lt {w : World} {g n : Nat} {f : Nat → Int} (h : RowAt w g n f) : g < w.heap.size := by
  obtain ⟨cs, fr, h1, _⟩ := h
  exact (Array.getElem?_eq_some_iff.1 h1).1
theorem RowAt.block {w w' : World} {g n : Nat} {f : Nat → Int} (h : RowAt w g n f) (hb : w'.heap[g]? = w.heap[g]?) : RowAt w' g n f := by
  obtain ⟨cs, fr, h1, h2⟩ := h
  exact ⟨cs, fr, by rw [hb]; exact h1, h2⟩
theorem RowAt.below {w w' : World} {g n : Nat} {f : Nat → Int} (h : RowAt w g n f) (hb : Below w.heap.size w w') : RowAt w' g n f := h.block (hb.block g h.lt)
theorem RowAt.congr {w : World} {g n : Nat} {f f' : Nat → Int} (h : RowAt w g n f) (he : ∀ j, j < n → f j = f' j) : RowAt w g n f' := by
  obtain ⟨cs, fr, h1, h2⟩ := h
  exact ⟨cs, fr, h1, fun j hj => by rw [← he j hj]; exact h2 j hj⟩
theorem RowAt.of_own {w : World} {B n : Nat} {v : Value} {zs : List Int} (h : w.ownsRow B 3 1 v n (intsV zs)) (h0 : 0 < n) : ∃ g c, v = .slice (some ⟨g, 0, none⟩) n c ∧ B ≤ g ∧ RowAt w g n (fun j => zs.getD j 0) := by
  obtain ⟨h1, ⟨_, h2⟩ | ⟨g, cap, cur, rfl, hg, hh, h3, h4, h5, h6⟩⟩ := h
  · omega
  · refine ⟨g, cap, rfl, hg, cur, _, hh, fun j hj => ?_⟩
    rw [Nat.mul_one] at h6
    have h7 : zs.length = n := by rw [Nat.mul_one] at h1; simpa [intsV] using h1
    have h8 := intsV_at zs j (by omega)
    rw [← h6, List.getElem?_take, if_pos hj] at h8
    rw [← h8]; simp
/-- the rows' slices -/
def slV (m : Nat) (G C : Nat → Nat) (n : Nat) : List Value := (List.range n).map fun j => .slice (some ⟨G j, 0, none⟩) m (C j)
theorem slV_length (m : Nat) (G C : Nat → Nat) (n : Nat) : (slV m G C n).length = n := by simp [slV]
theorem slV_at (m : Nat) (G C : Nat → Nat) (n j : Nat) (h : j < n) : (slV m G C n)[j]? = some (.slice (some ⟨G j, 0, none⟩) m (C j)) := by simp [slV, h]
def updN (f : Nat → Nat) (i : Nat) (v : Nat) : Nat → Nat := fun j => if j = i then v else f j
theorem updN_at (f : Nat → Nat) (i v : Nat) : updN f i v i = v := by simp [updN]
theorem updN_ne (f : Nat → Nat) (i j v : Nat) (h : j ≠ i) : updN f i v j = f j := by simp [updN, h]
theorem slV_snoc (m : Nat) (G C : Nat → Nat) (n g c : Nat) : slV m (updN G n g) (updN C n c) (n + 1) = slV m G C n ++ [.slice (some ⟨g, 0, none⟩) m c] := by
  unfold slV
  rw [List.range_succ, List.map_append]
  congr 1
  · refine List.map_congr_left fun j hj => ?_
    have := List.mem_range.1 hj
    rw [updN_ne _ _ _ _ (by omega), updN_ne _ _ _ _ (by omega)]
  · simp [updN_at]
theorem one_slice (a : Option Addr) (n c : Nat) : ∀ u ∈ [Value.slice a n c], u.oneCell' = true := by simp [Value.oneCell']
/-- where the list of slices lies: no row lies there -/
theorem own_at {w : World} {B n : Nat} {v : Value} {xs : List Value} (h : w.ownsRow B 61 1 v n xs) (h0 : 0 < n) : ∃ T c, v = .slice (some ⟨T, 0, none⟩) n c ∧ ∀ j u, xs[j]? = some u → w.cell? ⟨T, j, none⟩ = some u := by
  obtain ⟨h1, ⟨_, h2⟩ | ⟨g, cap, cur, rfl, hg, hh, h3, h4, h5, h6⟩⟩ := h
  · omega
  · refine ⟨g, cap, rfl, fun j u hj => ?_⟩
    rw [Joins.cell_of_block hh]
    rw [← h6] at hj
    rw [List.getElem?_take] at hj
    split at hj
    · simpa using hj
    · cases hj
theorem own_apart {w : World} {B n g m : Nat} {v : Value} {xs : List Value} {f : Nat → Int} (h : w.ownsRow B 61 1 v n xs) (hr : RowAt w g m f) : some g ≠ v.ownBlock := by
  obtain ⟨cs, fr, hr1, _⟩ := hr
  obtain ⟨h1, ⟨rfl, h2⟩ | ⟨T, cap, cur, rfl, hg, hh, _⟩⟩ := h
  · simp [Value.ownBlock]
  · intro e
    simp only [Value.ownBlock, Option.some.injEq] at e
    subst e
    rw [hh] at hr1
    injection hr1 with hr1
    injection hr1 with _ e2 _
    exact absurd e2 (by decide)
theorem RowAt.grown {w w' : World} {B n g m : Nat} {v : Value} {xs : List Value} {f : Nat → Int} (hr : RowAt w g m f) (h : w.ownsRow B 61 1 v n xs) (hg : w.grownBy w' v.ownBlock) : RowAt w' g m f :=
  hr.block (hg.block g hr.lt (own_apart h hr))
/-- the table of the first n beginnings of a, as a slice -/
def TableIs (w : World) (a : Option Addr) (n m : Nat) (ra rb : List Int) : Prop :=
  ∃ T, a = some ⟨T, 0, none⟩ ∧ ∀ i, i < n → ∃ g c, w.cell? ⟨T, i, none⟩ = some (.slice (some ⟨g, 0, none⟩) m c) ∧ ∀ j, j < m → w.cell? ⟨g, j, none⟩ = some (.int .i64 (Ed.L ra rb i j))
theorem TableIs.below {w w' : World} {a : Option Addr} {n m : Nat} {ra rb : List Int} (h : TableIs w a n m ra rb) (hb : Below w.heap.size w w') : TableIs w' a n m ra rb := by
  obtain ⟨T, ha, h1⟩ := h
  refine ⟨T, ha, fun i hi => ?_⟩
  obtain ⟨g, c, h2, h3⟩ := h1 i hi
  exact ⟨g, c, by rw [hb.cell (p := ⟨T, i, none⟩) (lt_of_cell h2)]; exact h2, fun j hj => by rw [hb.cell (p := ⟨g, j, none⟩) (lt_of_cell (h3 j hj))]; exact h3 j hj⟩
theorem slices_info : (Try.prog.info? 61).map (fun i => (i.zero, i.size, i.bytes)) = some (some (.slice none 0 0), 1, 24) := by kernel_rfl
end Go.Proofs.Ytioegheehodndaa
/- contract of the document's table of distances -/
namespace Go.Proofs.Ytioegheehodndaa
open Go.RowKit
set_option linter.unusedVariables false
set_option maxRecDepth 20000
def rowL (ra rb : List Int) (i k : Nat) : List Int := (List.range k).map fun j => Ed.L ra rb i j
theorem rowL_length (ra rb : List Int) (i k : Nat) : (rowL ra rb i k).length = k := by simp [rowL]
theorem rowL_at (ra rb : List Int) (i k j : Nat) (h : j < k) : (rowL ra rb i k).getD j 0 = Ed.L ra rb i j := by simp [rowL, List.getD_eq_getElem?_getD, h]
theorem rowL_snoc (ra rb : List Int) (i k : Nat) : intsV (rowL ra rb i (k + 1)) = intsV (rowL ra rb i k) ++ [.int .i64 (Ed.L ra rb i k)] := by
  simp [rowL, intsV, List.range_succ]
/-- what is done of the table -/
structure Tbl (w : World) (B n m : Nat) (v : Value) (ra rb : List Int) (G C : Nat → Nat) : Prop where
  own : w.ownsRow B 61 1 v n (slV m G C n)
  rows : ∀ j, j < n → RowAt w (G j) m (fun k => Ed.L ra rb j k)
theorem Tbl.below {w w' : World} {B n m : Nat} {v : Value} {ra rb : List Int} {G C : Nat → Nat} (h : Tbl w B n m v ra rb G C) (hb : Below w.heap.size w w') : Tbl w' B n m v ra rb G C :=
  ⟨owns_below h.own hb, fun j hj => (h.rows j hj).below hb⟩
theorem Tbl.at {w : World} {B n m : Nat} {v : Value} {ra rb : List Int} {G C : Nat → Nat} (h : Tbl w B n m v ra rb G C) (h0 : 0 < n) : ∃ T c, v = .slice (some ⟨T, 0, none⟩) n c ∧ ∀ j, j < n → w.cell? ⟨T, j, none⟩ = some (.slice (some ⟨G j, 0, none⟩) m (C j)) := by
  obtain ⟨T, c, hv, hc⟩ := own_at h.own h0
  exact ⟨T, c, hv, fun j hj => hc j _ (slV_at m G C n j hj)⟩
set_option maxHeartbeats 6400000 in
theorem table_any (ra rb : List Int) (a b : Option Addr) (la lb ca cb : Nat) (w : World) (ha : HoldsI .i32 w a la ra) (hb : HoldsI .i32 w b lb rb) (hla : la ≤ 1048576) (hlb : lb ≤ 1048576) :
    Calls Try.prog 77 #[.slice a la ca, .slice b lb cb] w fun e w' => ∃ t c, e = .returned (.slice t (la + 1) c) ∧ TableIs w' t (la + 1) (lb + 1) ra rb ∧ Below w.heap.size w w' := by
  obtain ⟨i0, hi, hz0, hz1, hz2⟩ := info_parts int_info
  obtain ⟨i1, hj, hy0, hy1, hy2⟩ := info_parts slices_info
  have HA := Lib.hid ha; have HB := Lib.hid hb
  obtain ⟨m, hm⟩ : ∃ m, lb + 1 = m := ⟨_, rfl⟩
  rw [hm]
  have hm1 : m ≤ 1048577 := by omega
  have HM := Lib.hid hm
  clear ha hb hm
  go_enter Try.func77, Try.ntmps77
  go_wp2_with fail
  go_loopw [5, 6] (fun tv iv wr => ∃ (i : Nat) (G C : Nat → Nat), i ≤ la + 1 ∧ iv = .int .i64 i ∧ Hid (Tbl wr w.heap.size i m tv ra rb G C) ∧ Hid (Below w.heap.size w wr)) (fun _ iv _ => la + 1 - (intOf iv).toNat)
  case atStart => exact ⟨0, fun _ => 0, fun _ => 0, by omega, rfl, Lib.hid ⟨World.ownsRow_nil _ _ _ _, fun j h => by omega⟩, Lib.hid (Below.refl _ _)⟩
  case round =>
    obtain ⟨i, G, C, hi1, rfl, hT, hB⟩ := hrel
    by_cases hlt : i ≤ la
    · obtain ⟨w1, rfl⟩ : ∃ w1, w1 = wr := ⟨_, rfl⟩
      go_wp2_with fail
      go_loopw [7, 8] (fun rv kv wr2 => ∃ k : Nat, k ≤ m ∧ kv = .int .i64 k ∧ Hid (wr2.ownsRow w1.heap.size 3 1 rv k (intsV (rowL ra rb i k))) ∧ Hid (Below w1.heap.size w1 wr2)) (fun _ kv _ => m - (intOf kv).toNat)
      case atStart => exact ⟨0, by omega, rfl, Lib.hid (World.ownsRow_nil _ _ _ _), Lib.hid (Below.refl _ _)⟩
      case round =>
        obtain ⟨k, hk1, rfl, hR, hB2⟩ := hrel
        by_cases hkt : k ≤ lb
        · obtain ⟨D, hD⟩ : ∃ D, Ed.L ra rb i k = D := ⟨_, rfl⟩
          have hbd := Ed.L_bd ra rb i k
          rw [hD] at hbd
          have HD := Lib.hid hD
          clear hD
          go_upto_block 4 with fail
          go_cut [9] from 16 to 72 (fun d wc => d = .int .i64 D ∧ Hid (wc.ownsRow w1.heap.size 3 1 u7 k (intsV (rowL ra rb i k))) ∧ Hid (Below w1.heap.size w1 wc))
          case first =>
            rcases Nat.eq_zero_or_pos i with hi0 | hi0
            · have e : D = (k : Int) := by rw [← HD.out, hi0, Ed.L_zeroL]
              have x1 : ((i : Int) == 0) = true := by simp; omega
              have E := Lib.hid e
              clear e
              go_wp2_with fail
              go_meet
              exact ⟨by rw [E.out], hR, hB2⟩
            rcases Nat.eq_zero_or_pos k with hk0 | hk0
            · have e : D = (i : Int) := by rw [← HD.out, hk0, Ed.L_zero]
              have x1 : ((i : Int) == 0) = false := by simp; omega
              have x2 : ((k : Int) == 0) = true := by simp; omega
              have E := Lib.hid e
              clear e
              go_wp2_with fail
              go_meet
              exact ⟨by rw [E.out], hR, hB2⟩
            have x1 : ((i : Int) == 0) = false := by simp; omega
            have x2 : ((k : Int) == 0) = false := by simp; omega
            obtain ⟨p, hp⟩ : ∃ p, p + 1 = i := ⟨i - 1, by omega⟩
            obtain ⟨q, hq⟩ : ∃ q, q + 1 = k := ⟨k - 1, by omega⟩
            have p1 : IntKind.i64.wrap ((i : Int) - 1) = (p : Int) := by rw [IntWalk.i64_in _ (by omega)]; omega
            have q1 : IntKind.i64.wrap ((k : Int) - 1) = (q : Int) := by rw [IntWalk.i64_in _ (by omega)]; omega
            obtain ⟨T, ct, hu5, hTc⟩ := (hT.out.below hB2.out).at hi0
            have tc := hTc p (by omega)
            have hrow := (hT.out.rows p (by omega)).below hB2.out
            have r1 := hrow.cell (j := q) (by omega)
            have r2 := hrow.cell (j := k) (by have := HM.out; omega)
            obtain ⟨g, cg, hu7, _, hrg⟩ := RowAt.of_own hR.out hk0
            have r3 := hrg.cell (j := q) (by omega)
            rw [rowL_at ra rb i k q (by omega)] at r3
            have hBw := hB.out.trans (hB2.out.mono hB.out.size)
            obtain ⟨ab, ao, rfl, hac⟩ := (HA.out.below hBw).2 (by omega)
            have ea := hac p (by omega)
            obtain ⟨bb, bo, rfl, hbc⟩ := (HB.out.below hBw).2 (by omega)
            have eb := hbc q (by omega)
            have hL : Ed.L ra rb i k = min (min (Ed.L ra rb p q + Ed.cost (ra.getD p 0) (rb.getD q 0)) (Ed.L ra rb i q + 1)) (Ed.L ra rb p k + 1) := by subst hp hq; simp only [Ed.L]
            rw [HD.out] at hL
            have b1 := Ed.L_bd ra rb p q
            have b2 := Ed.L_bd ra rb p k
            have b3 := Ed.L_bd ra rb i q
            obtain ⟨X, hX⟩ : ∃ X, Ed.L ra rb p q = X := ⟨_, rfl⟩
            obtain ⟨Y, hY⟩ : ∃ X, Ed.L ra rb p k = X := ⟨_, rfl⟩
            obtain ⟨Z, hZ⟩ : ∃ X, Ed.L ra rb i q = X := ⟨_, rfl⟩
            obtain ⟨u, hu⟩ : ∃ u, ra.getD p 0 = u := ⟨_, rfl⟩
            obtain ⟨v, hv⟩ : ∃ v, rb.getD q 0 = v := ⟨_, rfl⟩
            rw [hX] at r1 b1 hL; rw [hY] at r2 b2 hL; rw [hZ] at r3 b3 hL; rw [hu] at ea hL; rw [hv] at eb hL
            have c1 : (0 : Int) ≤ (p : Int) := by omega
            have c2 : (p : Int) < (i : Int) := by omega
            have c3 : (0 : Int) ≤ (q : Int) := by omega
            have c4 : (q : Int) < (k : Int) := by omega
            have c5 : (q : Int) < (m : Int) := by have := HM.out; omega
            have c6 : (k : Int) < (m : Int) := by have := HM.out; omega
            have c7 : (p : Int) < (la : Int) := by omega
            have c8 : (q : Int) < (lb : Int) := by omega
            have c9 : k < m := by have := HM.out; omega
            have c10 : q < m := by omega
            have c11 : p < i := by omega
            have c12 : q < k := by omega
            have c13 : p < la := by omega
            have c14 : q < lb := by omega
            have w1' : IntKind.i64.wrap (Y + 1) = Y + 1 := IntWalk.i64_in _ (by omega)
            have w2' : IntKind.i64.wrap (Z + 1) = Z + 1 := IntWalk.i64_in _ (by omega)
            have w3' : IntKind.i64.wrap (X + 1) = X + 1 := IntWalk.i64_in _ (by omega)
            have HL := Lib.hid hL
            have HR := Lib.hid (fun nn => owns_below hR.out (below_drewN wr nn))
            have HB3 := Lib.hid (fun nn => hB2.out.trans ((below_drewN wr nn).mono hB2.out.size))
            clear hTc hrow hrg hBw hac hbc hL hX hY hZ hu hv hp hq hT hB hB2 hR HD
            subst hu5 hu7
            by_cases huv : u = v
            · have y1 : (u != v) = false := by simpa using huv
              rw [huv, cost_eq] at HL
              clear huv
              go_upto_region 11 with fail
              go_quiet (fail)
              go_upto_region 13 with fail
              go_quiet (fail)
              go_wp2_with fail
              all_goals go_meet
              all_goals exact ⟨by congr 1; have := HL.out; omega, Lib.hid (HR.out _), Lib.hid (HB3.out _)⟩
            · have y1 : (u != v) = true := by simpa using huv
              rw [cost_ne huv] at HL
              clear huv
              go_upto_region 11 with fail
              go_quiet (fail)
              go_upto_region 13 with fail
              go_quiet (fail)
              go_wp2_with fail
              all_goals go_meet
              all_goals exact ⟨by congr 1; have := HL.out; omega, Lib.hid (HR.out _), Lib.hid (HB3.out _)⟩
          case rest =>
            obtain ⟨rfl, hR3, hB3⟩ := hcut
            clear hR hB2
            go_wp2_with (at_builtin; refine wpList_append_any rfl (.tmp 69) (.tmp 71) 61 rfl w1.heap.size 3 i0 (.int .i64 0) 1 8 Try.underlying61 hi hz0 hz1 hz2 rfl (by decide) _ k _ rfl (hR3.out.alloc _) _ 1 1 _ rfl (some_none _) rfl (one_new _ _ _ _) (one_int _ _) (by unfold maxLen; omega) (by omega) (by have := hB3.out.size; simp; omega) ?_; intro a3 c3 w3 hown3 hb3 hnil3)
            rw [← HD.out, ← rowL_snoc] at hown3
            have O3 := Lib.hid hown3
            have B3 := Lib.hid ((hB3.out.alloc hB3.out.size _).trans hb3)
            clear hown3 hb3 hnil3 hR3 hB3
            go_roundw
            case rel => exact ⟨k + 1, by have := HM.out; omega, by go_num, O3, B3⟩
            case measure => simp [intOf]; have := HM.out; omega
        · obtain rfl : k = m := by have := HM.out; omega
          obtain ⟨g, cg, hu7, _, hrg⟩ := RowAt.of_own hR.out (by have := HM.out; omega)
          have RG := Lib.hid (hrg.congr (fun j hj => rowL_at ra rb i k j hj))
          have T2 := Lib.hid (hT.out.below hB2.out)
          have B2 := Lib.hid (hB.out.trans (hB2.out.mono hB.out.size))
          subst hu7
          clear hrg hT hB hR hB2
          go_wp2_with (at_builtin; refine wpList_append_own _ rfl (.tmp 73) (.tmp 75) 87 rfl w.heap.size 61 i1 (.slice none 0 0) 1 24 Try.underlying87 hj hy0 hy1 hy2 rfl (by decide) u5 i _ rfl (T2.out.own.alloc _) ⟨wr.heap.size, 0, none⟩ 1 1 _ rfl rfl (one_cells _ _ _ _) (one_slice _ _ _) (by unfold maxLen; omega) (by omega) (by have := B2.out.size; simp; omega) ?_; intro v4 w4 hown4 hg4 hnil4)
          rw [← slV_snoc] at hown4
          have hal := below_one wr (.cells #[.slice (some ⟨g, 0, none⟩) k cg] 61)
          have TA := T2.out.below hal
          have RA := RG.out.below hal
          have N4 : Hid (Tbl w4 w.heap.size (i + 1) k v4 ra rb (updN G i g) (updN C i cg)) := by
            refine Lib.hid ⟨hown4, fun j hj => ?_⟩
            by_cases e : j = i
            · subst e; rw [updN_at]; exact RA.grown TA.own hg4
            · rw [updN_ne _ _ _ _ e]; exact (TA.rows j (by omega)).grown TA.own hg4
          have B4 := Lib.hid ((B2.out.trans (hal.mono B2.out.size)).grown hg4 (by have := B2.out.size; simp; omega) (fun kk hk => (TA.own.lt kk hk).1))
          clear hown4 hg4 hnil4 hal TA RA
          go_roundw
          case rel => exact ⟨i + 1, _, _, by omega, by go_num, N4, B4⟩
          case measure => simp [intOf]; omega
    · obtain rfl : i = la + 1 := by omega
      obtain ⟨T, c, hu5, hc⟩ := hT.out.at (by omega)
      have hrows := hT.out.rows
      have HR := Lib.hid (show TableIs wr (some ⟨T, 0, none⟩) (la + 1) m ra rb from ⟨T, rfl, fun j hj => ⟨G j, C j, hc j hj, fun x hx => (hrows j hj).cell hx⟩⟩)
      clear hc hrows hT
      subst hu5
      go_wp2_with fail
      go_ret
      exact ⟨_, c, rfl, HR.out, hB.out⟩
end Go.Proofs.Ytioegheehodndaa
/- contracts of the document's Runes and Rows -/
namespace Go.Proofs.Ytioegheehodndaa
open Go.RowKit
set_option linter.unusedVariables false
set_option maxRecDepth 20000
theorem rruns_any (ra rb : List Int) (a b : Option Addr) (la lb ca cb : Nat) (w : World) (ha : HoldsI .i32 w a la ra) (hb : HoldsI .i32 w b lb rb) (hla : la ≤ 1048576) (hlb : lb ≤ 1048576) :
    Calls Try.prog 60 #[.slice a la ca, .slice b lb cb] w fun e w' => e = .returned (.int .i64 (Ed.L ra rb la lb)) ∧ Below w.heap.size w w' := by
  have HT := Lib.hid (table_any ra rb a b la lb ca cb w ha hb hla hlb)
  obtain ⟨n, hn⟩ : ∃ n, la + 1 = n := ⟨_, rfl⟩
  obtain ⟨m, hm⟩ : ∃ n, lb + 1 = n := ⟨_, rfl⟩
  rw [hn, hm] at HT
  have h1 : (la : Int) < (n : Int) := by omega
  have h2 : (lb : Int) < (m : Int) := by omega
  have h3 : (0 : Int) ≤ (la : Int) := by omega
  have h4 : (0 : Int) ≤ (lb : Int) := by omega
  have h5 : la < n := by omega
  have h6 : lb < m := by omega
  clear ha hb hn hm
  go_enter Try.func60, Try.ntmps60
  go_wp2_with fail
  refine HT.out.mono ?_
  rintro e w1 ⟨t, c, rfl, ⟨T, rfl, hrows⟩, hb1⟩
  obtain ⟨g, cg, hg, hx⟩ := hrows la h5
  have hl := hx lb h6
  have B1 := Lib.hid hb1
  obtain ⟨D, hD⟩ : ∃ D, Ed.L ra rb la lb = D := ⟨_, rfl⟩
  rw [hD] at hl
  have HD := Lib.hid hD
  clear hrows hx hb1 hD
  go_wp2_with fail
  go_ret
  exact ⟨by rw [HD.out]; rfl, B1.out⟩
end Go.Proofs.Ytioegheehodndaa
/- contract of the document's distance of texts; the laws of texts -/
namespace Go.Proofs.Ytioegheehodndaa
open Go.RowKit
set_option linter.unusedVariables false
set_option maxRecDepth 20000
theorem r1good (s : ByteArray) (w : World) (hs : s.size ≤ 1048576) (hg : 0 ≤ lenS s) :
    Calls Try.prog 59 #[.string s] w fun e w' => ∃ a c, e = .returned (.tuple #[.slice a (runesS s).length c, .bool true]) ∧ HoldsI .i32 w' a (runesS s).length (intsN (runesS s)) ∧ Below w.heap.size w w' := by
  refine (r1runes_any s w hs).mono ?_
  rintro e w' (⟨_, a, c, h1, h2, _, h3⟩ | ⟨h, _⟩)
  · exact ⟨a, c, h1, h2, h3⟩
  · omega
theorem r1bad (s : ByteArray) (w : World) (hs : s.size ≤ 1048576) (hg : lenS s < 0) :
    Calls Try.prog 59 #[.string s] w fun e w' => e = .returned (.tuple #[.slice none 0 0, .bool false]) ∧ Below w.heap.size w w' := by
  refine (r1runes_any s w hs).mono ?_
  rintro e w' (⟨h, _⟩ | ⟨_, h1, h2⟩)
  · omega
  · exact ⟨h1, h2⟩
set_option maxHeartbeats 1600000 in
theorem rdist_any (a b : ByteArray) (w : World) (hsa : a.size ≤ 1048576) (hsb : b.size ≤ 1048576) :
    Calls Try.prog 41 #[.string a, .string b] w fun e w' => e = .returned (.int .i64 (distS a b)) ∧ Below w.heap.size w w' := by
  by_cases hga : 0 ≤ lenS a
  · have hA := Lib.hid (r1good a w hsa hga)
    by_cases hgb : 0 ≤ lenS b
    · have hBr := Lib.hid (fun w => r1good b w hsb hgb)
      have hd : distS a b = Ed.L (intsN (runesS a)) (intsN (runesS b)) (runesS a).length (runesS b).length := by unfold distS; rw [if_pos ⟨hga, hgb⟩]
      have HLE := Lib.hid (runesS_le a); have HLEB := Lib.hid (runesS_le b)
      rw [hd]
      clear hd hga hgb
      go_enter Try.func41, Try.ntmps41
      go_wp2_with fail
      refine hA.out.mono ?_
      rintro e w1 ⟨a1, c1, rfl, hh1, hb1⟩
      have H1 := Lib.hid hh1; have B1 := Lib.hid hb1
      clear hh1 hb1
      go_wp2_with fail
      refine (hBr.out _).mono ?_
      rintro e w2 ⟨a2, c2, rfl, hh2, hb2⟩
      have H2 := Lib.hid hh2; have H1b := Lib.hid (H1.out.below hb2); have B2 := Lib.hid (B1.out.trans (hb2.mono B1.out.size))
      clear hh2 hb2
      go_wp2_with fail
      refine (rruns_any (intsN (runesS a)) (intsN (runesS b)) a1 a2 _ _ c1 c2 w2 H1b.out H2.out (by have := HLE.out; omega) (by have := HLEB.out; omega)).mono ?_
      rintro e w3 ⟨rfl, hb3⟩
      have B3 := Lib.hid (B2.out.trans (hb3.mono B2.out.size))
      clear hb3
      go_wp2_with fail
      go_ret
      exact ⟨rfl, B3.out⟩
    · have hBr := Lib.hid (fun w => r1bad b w hsb (by omega))
      have hd : distS a b = -1 := by unfold distS; rw [if_neg (fun h => hgb h.2)]
      rw [hd]
      clear hd hga hgb
      go_enter Try.func41, Try.ntmps41
      go_wp2_with fail
      refine hA.out.mono ?_
      rintro e w1 ⟨a1, c1, rfl, hh1, hb1⟩
      have B1 := Lib.hid hb1
      clear hh1 hb1
      go_wp2_with fail
      refine (hBr.out _).mono ?_
      rintro e w2 ⟨rfl, hb2⟩
      have B2 := Lib.hid (B1.out.trans (hb2.mono B1.out.size))
      clear hb2
      go_wp2_with fail
      go_ret
      exact ⟨rfl, B2.out⟩
  · have hA := Lib.hid (r1bad a w hsa (by omega))
    have hd : distS a b = -1 := by unfold distS; rw [if_neg (fun h => hga h.1)]
    rw [hd]
    clear hd hga
    by_cases hgb : 0 ≤ lenS b
    · have hBr := Lib.hid (fun w => r1good b w hsb hgb)
      clear hgb
      go_enter Try.func41, Try.ntmps41
      go_wp2_with fail
      refine hA.out.mono ?_
      rintro e w1 ⟨rfl, hb1⟩
      have B1 := Lib.hid hb1
      clear hb1
      go_wp2_with fail
      refine (hBr.out _).mono ?_
      rintro e w2 ⟨a2, c2, rfl, hh2, hb2⟩
      have B2 := Lib.hid (B1.out.trans (hb2.mono B1.out.size))
      clear hb2 hh2
      go_wp2_with fail
      go_ret
      exact ⟨rfl, B2.out⟩
    · have hBr := Lib.hid (fun w => r1bad b w hsb (by omega))
      clear hgb
      go_enter Try.func41, Try.ntmps41
      go_wp2_with fail
      refine hA.out.mono ?_
      rintro e w1 ⟨rfl, hb1⟩
      have B1 := Lib.hid hb1
      clear hb1
      go_wp2_with fail
      refine (hBr.out _).mono ?_
      rintro e w2 ⟨rfl, hb2⟩
      have B2 := Lib.hid (B1.out.trans (hb2.mono B1.out.size))
      clear hb2
      go_wp2_with fail
      go_ret
      exact ⟨rfl, B2.out⟩
end Go.Proofs.Ytioegheehodndaa
/- a list of texts that was answered -/
namespace Go.Proofs.Ytioegheehodndaa
open Go.RowKit
set_option linter.unusedVariables false
set_option maxRecDepth 20000
theorem str_info : (Try.prog.info? 9).map (fun i => (i.zero, i.size, i.bytes)) = some (some (.string ⟨#[]⟩), 1, 16) := by kernel_rfl
theorem getD_memT' (zs : List Tx) (j : Nat) (h : j < zs.length) : zs.getD j ByteArray.empty ∈ zs := by
  rw [List.getD_eq_getElem?_getD, List.getElem?_eq_getElem h]; simp
/-- a list of texts that was answered, the call's own -/
def RetO (w : World) (ys : List Tx) (e : Ending) (w' : World) : Prop := ∃ a c, e = .returned (.slice a ys.length c) ∧ w'.ownsRow w.heap.size 9 1 (.slice a ys.length c) ys.length (strsV ys) ∧ Below w.heap.size w w'
theorem ret_own {w w' : World} {a : Option Addr} {c n : Nat} {ys zs : List Tx} (h : ys = zs) (hn : ys.length = n) (hh : w'.ownsRow w.heap.size 9 1 (.slice a n c) n (strsV ys)) (hb : Below w.heap.size w w') (v : Value) (hv : v = .slice a n c) : RetO w zs (.returned v) w' := by
  subst h hv hn; exact ⟨a, c, rfl, hh, hb⟩
end Go.Proofs.Ytioegheehodndaa
/- the document's Sort, All, Top (items) -/
namespace Go.Proofs.Ytioegheehodndaa
open Go.RowKit
set_option linter.unusedVariables false
set_option maxRecDepth 20000
/-- near words, as they stand -/
def nearL (ws : List Tx) (s : Tx) (k : Int) : List KV := ws.filterMap fun t => if 0 ≤ distS t s ∧ distS t s ≤ k then some (distS t s, t) else none
def allK (ws : List Tx) (s : Tx) (k : Int) : List KV := sortK (nearL ws s k)
def topK (ws : List Tx) (s : Tx) (k n : Int) : List KV := if mayP s k n then (allK ws s k).take n.toNat else []
theorem nearL_app (a b : List Tx) (s : Tx) (k : Int) : nearL (a ++ b) s k = nearL a s k ++ nearL b s k := by simp [nearL]
theorem nearL_yes (a : List Tx) (t s : Tx) (k : Int) (h : 0 ≤ distS t s ∧ distS t s ≤ k) : nearL (a ++ [t]) s k = nearL a s k ++ [(distS t s, t)] := by
  rw [nearL_app]; simp [nearL, h]
theorem nearL_no (a : List Tx) (t s : Tx) (k : Int) (h : ¬ (0 ≤ distS t s ∧ distS t s ≤ k)) : nearL (a ++ [t]) s k = nearL a s k := by
  rw [nearL_app]; simp only [nearL, List.filterMap_cons, List.filterMap_nil, if_neg h, List.append_nil]
theorem nearL_len (ws : List Tx) (s : Tx) (k : Int) : (nearL ws s k).length ≤ ws.length := List.length_filterMap_le _ _
theorem nearL_mem {ws : List Tx} {s : Tx} {k : Int} {x : KV} : x ∈ nearL ws s k ↔ x.2 ∈ ws ∧ x.1 = distS x.2 s ∧ 0 ≤ distS x.2 s ∧ distS x.2 s ≤ k := by
  unfold nearL
  rw [List.mem_filterMap]
  constructor
  · rintro ⟨t, ht, h⟩
    split at h
    · injection h with h; subst h; exact ⟨ht, rfl, by assumption⟩
    · cases h
  · rintro ⟨h1, h2, h3⟩
    exact ⟨x.2, h1, by rw [if_pos h3, ← h2]⟩
theorem allK_mem {ws : List Tx} {s : Tx} {k : Int} {x : KV} : x ∈ allK ws s k ↔ x.2 ∈ ws ∧ x.1 = distS x.2 s ∧ 0 ≤ distS x.2 s ∧ distS x.2 s ≤ k := sortK_mem.trans nearL_mem
theorem allK_len (ws : List Tx) (s : Tx) (k : Int) : (allK ws s k).length ≤ ws.length := by unfold allK; rw [sortK_length]; exact nearL_len ws s k
theorem owns_take {w : World} {B : Nat} {e : TypeId} {a : Option Addr} {n c : Nat} {ys : List KV} (h : w.ownsRow B e 2 (.slice a n c) n (keysV ys)) (k : Nat) (hk : k ≤ n) : w.ownsRow B e 2 (.slice a k c) k (keysV (ys.take k)) := by
  have hl : ys.length = n := by have := h.1; rw [keysV_len] at this; omega
  refine ⟨by rw [keysV_len]; simp; omega, ?_⟩
  rcases h.2 with ⟨h1, h2⟩ | ⟨g, cap, cur, hv, h1, h2, h3, h4, h5, h6⟩
  · cases h1
    obtain rfl : k = 0 := by omega
    exact Or.inl ⟨rfl, rfl⟩
  · cases hv
    refine Or.inr ⟨g, c, cur, rfl, h1, h2, by omega, h4, h5, ?_⟩
    have e1 : keysV ys = keysV (ys.take k) ++ keysV (ys.drop k) := by rw [← keysV_app, List.take_append_drop]
    have e2 : (cur.toList.take (n * 2)).take (k * 2) = cur.toList.take (k * 2) := by rw [List.take_take, Nat.min_eq_left (by omega)]
    rw [← e2, h6, e1, List.take_left' (by rw [keysV_len]; simp; omega)]
theorem retI_take {w w' : World} {a : Option Addr} {c n k : Nat} {ys zs : List KV} (h : ys.take k = zs) (hk : k ≤ n) (hn : ys.length = n) (hh : w'.ownsRow w.heap.size 37 2 (.slice a n c) n (keysV ys)) (hb : Below w.heap.size w w') (v : Value) (hv : v = .slice a k c) : RetI w zs (.returned v) w' :=
  retI_own h (by simp; omega) (owns_take hh k hk) hb v hv
set_option maxHeartbeats 1600000 in
theorem rsortI_any (a : Option Addr) (n cap : Nat) (l : List KV) (w : World) (hh : HoldsK w a n l) (hn : n ≤ 50000) (hl : ∀ k ∈ l, k.2.size ≤ 1048576) :
    Calls Try.prog 26 #[.slice a n cap] w (RetI w (sortK l)) := by
  have hll := hh.len
  have HH := Lib.hid hh; have HL := Lib.hid hl
  clear hh hl
  go_enter Try.func26, Try.ntmps26
  go_wp2_with fail
  go_loopw [3, 4] (fun ov iv wr => ∃ (j : Nat) (P : List KV) (av : Option Addr) (cv : Nat), j ≤ n ∧ iv = .int .i64 j ∧ ov = .slice av P.length cv ∧ Hid (P = sortK (l.take j)) ∧ Hid (wr.ownsRow w.heap.size 37 2 (.slice av P.length cv) P.length (keysV P)) ∧ Hid (Below w.heap.size w wr)) (fun _ iv _ => n - (intOf iv).toNat)
  case atStart => exact ⟨0, [], none, 0, by omega, rfl, rfl, Lib.hid rfl, Lib.hid (World.ownsRow_nil _ _ _ _), Lib.hid (Below.refl _ _)⟩
  case round =>
    obtain ⟨j, P, av, cv, hj, rfl, rfl, hP, hO, hB⟩ := hrel
    by_cases hlt : j < n
    · obtain ⟨bb, o, rfl, hc⟩ := (HH.out.below hB.out).at (by omega)
      obtain ⟨c0, c1⟩ := hc j hlt
      have hmem := HL.out _ (getD_memK l j (by omega))
      have hs := sortK_snoc (l.take j) (l.getD j k0)
      rw [← take_succ_getD l k0 j (by omega), ← hP.out] at hs
      have hpl : P.length = j := by rw [hP.out, sortK_length]; simp; omega
      have hPs : ∀ k ∈ P, k.2.size ≤ 1048576 := fun k hk => HL.out k (by rw [hP.out] at hk; exact List.mem_of_mem_take (sortK_mem.1 hk))
      obtain ⟨y, hy⟩ : ∃ y, l.getD j k0 = y := ⟨_, rfl⟩
      rw [hy] at c0 c1 hmem hs
      have RP := Lib.hid (rput_any av P.length cv P y wr (HoldsK.own hO.out) (by omega) hPs hmem)
      have HS := Lib.hid hs
      obtain ⟨y1, y2⟩ := y
      simp only at c0 c1 hmem
      unfold keyV at RP
      simp only at RP
      clear hc hy hs hPs
      have hpj : P.length ≤ n := by omega
      clear hpl
      go_wp2_with fail
      refine RP.out.mono ?_
      rintro e w2 ⟨a2, c2, rfl, hown, hb⟩
      have B2 := Lib.hid (hB.out.trans (hb.mono hB.out.size))
      have O2 := Lib.hid (hown.mono' hB.out.size)
      clear hown hb c0 c1 hO hB
      go_wp2_with fail
      go_roundw
      case rel => exact ⟨j + 1, _, a2, c2, by omega, by go_num, rfl, Lib.hid HS.out.symm, O2, B2⟩
      case measure => simp [intOf]; omega
    · have hjn : l.take j = l := List.take_of_length_le (by omega)
      have hP2 := hP.out
      rw [hjn] at hP2
      have HP := Lib.hid hP2
      clear hP hP2 hjn
      go_wp2_with fail
      go_ret
      exact retI_own HP.out rfl hO.out hB.out _ rfl
theorem take_min {α : Type} (l : List α) (m : Nat) : l.take (min (l.length : Int) (m : Int)).toNat = l.take (m : Int).toNat := by
  by_cases h : m ≤ l.length
  · rw [show (min (l.length : Int) (m : Int)).toNat = m by omega]; rfl
  · rw [show (min (l.length : Int) (m : Int)).toNat = l.length by omega, List.take_of_length_le (Nat.le_refl _), List.take_of_length_le (by simp; omega)]
theorem rdist_lit (a b : ByteArray) (v : Int) (w : World) (hsa : a.size ≤ 1048576) (hsb : b.size ≤ 1048576) (hv : distS a b = v) :
    Calls Try.prog 41 #[.string a, .string b] w fun e w' => e = .returned (.int .i64 v) ∧ Below w.heap.size w w' := by subst hv; exact rdist_any a b w hsa hsb
set_option maxHeartbeats 1600000 in
theorem rall_any (a : Option Addr) (n cap : Nat) (ws : List Tx) (s : Tx) (k : Int) (w : World) (hh : HoldsT w a n ws) (hn : n ≤ 50000) (hl : ∀ t ∈ ws, t.size ≤ 1048576) (hs : s.size ≤ 1048576) :
    Calls Try.prog 20 #[.slice a n cap, .string s, .int .i64 k] w (RetI w (allK ws s k)) := by
  have hll := hh.len
  have HH := Lib.hid hh; have HL := Lib.hid hl
  clear hh hl
  go_enter Try.func20, Try.ntmps20
  go_wp2_with fail
  go_loopw [7, 8] (fun ov iv wr => ∃ (j : Nat) (P : List KV) (av : Option Addr) (cv : Nat), j ≤ n ∧ iv = .int .i64 j ∧ ov = .slice av P.length cv ∧ Hid (P = allK (ws.take j) s k) ∧ Hid (wr.ownsRow w.heap.size 37 2 (.slice av P.length cv) P.length (keysV P)) ∧ Hid (Below w.heap.size w wr)) (fun _ iv _ => n - (intOf iv).toNat)
  case atStart => exact ⟨0, [], none, 0, by omega, rfl, rfl, Lib.hid rfl, Lib.hid (World.ownsRow_nil _ _ _ _), Lib.hid (Below.refl _ _)⟩
  case round =>
    obtain ⟨j, P, av, cv, hj, rfl, rfl, hP, hO, hB⟩ := hrel
    by_cases hlt : j < n
    · obtain ⟨bb, o, rfl, hc⟩ := HH.out.at (by omega)
      have g0 := hc j hlt
      have HC := Lib.hid (fun (w3 : World) (hb : Below w.heap.size w w3) => show w3.cell? ⟨bb, o + j, none⟩ = some (.string (ws.getD j ByteArray.empty)) from (hb.cell (p := ⟨bb, o + j, none⟩) (lt_of_cell g0)).trans g0)
      have hmem := HL.out _ (getD_memT' ws j (by omega))
      have hyes := nearL_yes (ws.take j) (ws.getD j ByteArray.empty) s k
      have hnot := nearL_no (ws.take j) (ws.getD j ByteArray.empty) s k
      rw [← take_succ_getD ws ByteArray.empty j (by omega)] at hyes hnot
      have hpl : P.length ≤ j := by have := allK_len (ws.take j) s k; rw [← hP.out] at this; simp at this; omega
      have hPs : ∀ q ∈ P, q.2.size ≤ 1048576 := fun q hq => HL.out _ (List.mem_of_mem_take (allK_mem.1 (hP.out ▸ hq)).1)
      obtain ⟨y, hy⟩ : ∃ y, ws.getD j ByteArray.empty = y := ⟨_, rfl⟩
      rw [hy] at hmem hyes hnot
      simp only [hy] at HC
      obtain ⟨d, hd⟩ : ∃ d, distS y s = d := ⟨_, rfl⟩
      have RD := Lib.hid (fun w => rdist_lit y s d w hmem hs hd)
      rw [hd] at hyes hnot
      have HD := Lib.hid hd
      clear hc hy g0 hd
      have e0 := HC.out _ hB.out
      by_cases hk : 0 ≤ d ∧ d ≤ k
      · have hsn : allK (ws.take (j + 1)) s k = putK (d, y) P := by unfold allK; rw [hyes hk, sortK_snoc, hP.out]; rfl
        obtain ⟨hk1, hk2⟩ := hk
        have HS := Lib.hid hsn
        clear hyes hnot hsn
        go_wp2_with fail
        refine (RD.out _).mono ?_
        rintro e w2 ⟨rfl, hb⟩
        have B2 := Lib.hid (hB.out.trans (hb.mono hB.out.size))
        have O2 := Lib.hid (owns_below hO.out hb)
        have e2 := HC.out _ B2.out
        have RP := Lib.hid (rput_any av P.length cv P (d, y) w2 (HoldsK.own O2.out) (by omega) hPs hmem)
        unfold keyV at RP
        simp only at RP
        clear hb hB hO e0 hPs
        go_wp2_with fail
        refine RP.out.mono ?_
        rintro e w3 ⟨a2, c2, rfl, hown, hb⟩
        have B3 := Lib.hid (B2.out.trans (hb.mono B2.out.size))
        have O3 := Lib.hid (hown.mono' B2.out.size)
        clear hown hb B2 O2 e2
        go_wp2_with fail
        go_roundw
        case rel => exact ⟨j + 1, _, a2, c2, by omega, by go_num, rfl, Lib.hid HS.out.symm, O3, B3⟩
        case measure => simp [intOf]; omega
      · have hsn : allK (ws.take (j + 1)) s k = P := by unfold allK; rw [hnot hk, hP.out]; rfl
        have HS := Lib.hid hsn
        clear hyes hnot hsn hPs
        have hd : d < 0 ∨ (0 ≤ d ∧ k < d) := by omega
        clear hk
        rcases hd with hd | ⟨hd, hd2⟩
        all_goals
          go_wp2_with fail
          refine (RD.out _).mono ?_
          rintro e w2 ⟨rfl, hb⟩
          have B2 := Lib.hid (hB.out.trans (hb.mono hB.out.size))
          have O2 := Lib.hid (owns_below hO.out hb)
          clear hb hB hO e0
          go_wp2_with fail
          go_roundw
          case rel => exact ⟨j + 1, P, av, cv, by omega, by go_num, rfl, Lib.hid HS.out.symm, O2, B2⟩
          case measure => simp [intOf]; omega
    · have hjn : ws.take j = ws := List.take_of_length_le (by omega)
      have hP2 := hP.out
      rw [hjn] at hP2
      have HP := Lib.hid hP2
      clear hP hP2 hjn
      go_wp2_with fail
      go_ret
      exact retI_own HP.out rfl hO.out hB.out _ rfl
theorem rtop_any (a : Option Addr) (n cap : Nat) (ws : List Tx) (s : Tx) (k m : Int) (w : World) (hh : HoldsT w a n ws) (hn : n ≤ 50000) (hl : ∀ t ∈ ws, t.size ≤ 1048576) (hs : s.size ≤ 1048576) :
    Calls Try.prog 19 #[.slice a n cap, .agg #[.string s, .int .i64 k, .int .i64 m]] w (RetI w (topK ws s k m)) := by
  have B1 := Lib.hid (below_one w (.cells #[.string s, .int .i64 k, .int .i64 m] 24))
  obtain ⟨c, hc⟩ : ∃ c, decide (mayP s k m) = c := ⟨_, rfl⟩
  have M := Lib.hid (fun w => rmay_any s k m w hs)
  rw [hc] at M
  have HH := Lib.hid hh; have HL := Lib.hid hl
  clear hh hl
  cases c with
  | false =>
    have ht : topK ws s k m = [] := if_neg (of_decide_eq_false hc)
    have HT := Lib.hid ht
    clear ht hc
    go_enter Try.func19, Try.ntmps19
    go_wp2_with fail
    refine (M.out _).mono ?_
    rintro e w2 ⟨rfl, hb⟩
    go_wp2_with fail
    go_ret
    exact retI_own HT.out.symm rfl (World.ownsRow_nil _ _ _ _) (B1.out.trans (hb.mono B1.out.size)) _ rfl
  | true =>
    have hm := of_decide_eq_true hc
    have ht : topK ws s k m = (allK ws s k).take m.toNat := if_pos hm
    have hm1 := hm.2.1
    have HT := Lib.hid ht
    clear ht hc hm
    obtain ⟨mm, rfl⟩ : ∃ mm : Nat, m = mm := ⟨m.toNat, by omega⟩
    go_enter Try.func19, Try.ntmps19
    go_wp2_with fail
    have q0 : (w.alloc (.cells #[.string s, .int .i64 k, .int .i64 mm] 24)).cell? ⟨w.heap.size, 0, none⟩ = some (.string s) := by rw [cell_alloc rfl]; rfl
    have q1 : (w.alloc (.cells #[.string s, .int .i64 k, .int .i64 mm] 24)).cell? ⟨w.heap.size, 1, none⟩ = some (.int .i64 k) := by rw [cell_alloc rfl]; rfl
    have q2 : (w.alloc (.cells #[.string s, .int .i64 k, .int .i64 mm] 24)).cell? ⟨w.heap.size, 2, none⟩ = some (.int .i64 mm) := by rw [cell_alloc rfl]; rfl
    generalize w.alloc (.cells #[.string s, .int .i64 k, .int .i64 mm] 24) = w1 at *
    have Q := Lib.hid (show w.heap.size < w1.heap.size from lt_of_cell q0)
    have HQ := Lib.hid (fun (w3 : World) (hb : Below w1.heap.size w1 w3) => show w3.cell? ⟨w.heap.size, 0, none⟩ = some (.string s) ∧ w3.cell? ⟨w.heap.size, 1, none⟩ = some (.int .i64 k) ∧ w3.cell? ⟨w.heap.size, 2, none⟩ = some (.int .i64 mm) from ⟨(hb.cell (p := ⟨w.heap.size, 0, none⟩) Q.out).trans q0, (hb.cell (p := ⟨w.heap.size, 1, none⟩) Q.out).trans q1, (hb.cell (p := ⟨w.heap.size, 2, none⟩) Q.out).trans q2⟩)
    clear q0 q1 q2
    refine (M.out _).mono ?_
    rintro e w2 ⟨rfl, hb⟩
    obtain ⟨q0, q1, q2⟩ := HQ.out _ hb
    have RA := Lib.hid (rall_any a n cap ws s k w2 (HH.out.below (B1.out.trans (hb.mono B1.out.size))) hn HL.out hs)
    have B2 := Lib.hid hb
    clear hb
    go_wp2_with fail
    refine RA.out.mono ?_
    rintro e w3 ⟨a2, c2, rfl, hown, hb⟩
    clear q0 q1 q2
    obtain ⟨q0, q1, q2⟩ := HQ.out _ (B2.out.trans (hb.mono B2.out.size))
    have B3 := Lib.hid ((B1.out.trans (B2.out.mono B1.out.size)).trans (hb.mono (Nat.le_trans B1.out.size B2.out.size)))
    have O3 := Lib.hid (hown.mono' (B := w.heap.size) (Nat.le_trans B1.out.size B2.out.size))
    have hcap := (owns_none hown).2
    obtain ⟨L, hL⟩ : ∃ L, (allK ws s k).length = L := ⟨_, rfl⟩
    rw [hL] at O3 hcap ⊢
    have HLL := Lib.hid hL
    clear hown hb hL
    go_wp2_with fail
    go_ret
    refine retI_take (k := (min (L : Int) (mm : Int)).toNat) (ys := allK ws s k) ?_ (by omega) HLL.out O3.out B3.out _ rfl
    rw [HT.out, ← HLL.out]; exact take_min _ mm
end Go.Proofs.Ytioegheehodndaa
/- contract of band.advance -/
namespace Go.Proofs.Ytioegheehodndaa
open Go.RowKit
set_option linter.unusedVariables false
set_option maxRecDepth 20000
set_option maxHeartbeats 6400000 in
theorem badvance_any (ra rb : List Int) (g k i cap m cb : Nat) (f : Nat → Int) (b : Option Addr) (w : World) (hrow : RowIs w g (2 * k + 1) f) (hcell : ∀ x, x < 2 * k + 1 → Cell ra rb k i x (f x))
    (hb : HoldsI .i32 w b m rb) (hne : ∀ b' o, 0 < m → b = some ⟨b', o, none⟩ → b' ≠ g) (hk : k ≤ 1048576) (hm : m ≤ 1048576) (hi : i ≤ 1048576) :
    Calls Try.prog 80 #[.slice (some ⟨g, 0, none⟩) (2 * k + 1) cap, .slice b m cb, .int .i64 ((i : Int) + 1 - k), .int .i32 (ra.getD i 0), .int .i64 ((k : Int) + 1)] w fun e w' => e = .returned (.tuple #[]) ∧
      (∃ f', RowIs w' g (2 * k + 1) f' ∧ ∀ x, x < 2 * k + 1 → Cell ra rb k (i + 1) x (f' x)) ∧ But g w w' := by
  have hlb := hb.len
  obtain ⟨r, hr⟩ : ∃ r, ra.getD i 0 = r := ⟨_, rfl⟩
  obtain ⟨st, hst⟩ : ∃ st, (i : Int) + 1 - k = st := ⟨_, rfl⟩
  obtain ⟨far, hfar⟩ : ∃ far, (k : Int) + 1 = far := ⟨_, rfl⟩
  obtain ⟨n, hn⟩ : ∃ n, 2 * k + 1 = n := ⟨_, rfl⟩
  rw [hn] at hrow hcell
  rw [hr, hst, hfar, hn]
  have R0 := Lib.hid hrow; have C0 := Lib.hid hcell; have HB := Lib.hid hb; have NE := Lib.hid hne; have LB := Lib.hid hlb
  have HR := Lib.hid hr; have HF := Lib.hid hfar; have HNN := Lib.hid hn; have HST := Lib.hid hst
  have hfb : 0 ≤ far ∧ far ≤ 1048577 := by omega
  have hsb : -1048576 ≤ st ∧ st ≤ 1048577 := by omega
  have hnb : n ≤ 2097153 := by omega
  clear hrow hcell hb hne hlb hr hst hfar hn
  go_enter Try.func80, Try.ntmps80
  go_wp2_with fail
  go_loopw [15] (fun xv wr => ∃ (x : Nat) (f' : Nat → Int), x ≤ n ∧ xv = .int .i64 x ∧ Hid (RowIs wr g n f') ∧ Hid (∀ y, y < x → Cell ra rb k (i + 1) y (f' y)) ∧ Hid (∀ y, x ≤ y → f' y = f y) ∧ Hid (But g w wr)) (fun xv _ => n - (intOf xv).toNat)
  case atStart => exact ⟨0, f, by omega, rfl, R0, Lib.hid (fun y h => by omega), Lib.hid (fun y _ => rfl), Lib.hid (But.refl _ _)⟩
  case round =>
    obtain ⟨x, f', hx, rfl, hR, hC, hO, hB⟩ := hrel
    by_cases hlt : x < n
    · have hfx := hR.out.fr x
      have hcx := hR.out.c x hlt
      have hox := hO.out x (Nat.le_refl _)
      have hCx := C0.out x hlt
      rw [hox] at hcx
      obtain ⟨o, ho⟩ : ∃ o, f x = o := ⟨_, rfl⟩
      rw [ho] at hcx hCx
      have hob : 0 ≤ o ∧ o ≤ 1048577 := by have h1 := hCx.lo; have h2 := hCx.hi; omega
      have HCX := Lib.hid hCx
      obtain ⟨j, hj⟩ : ∃ j, st + (x : Int) = j := ⟨_, rfl⟩
      have hjw : IntKind.i64.wrap (st + (x : Int)) = j := by rw [IntWalk.i64_in _ (by omega)]; exact hj
      have hjv : j = (i : Int) + 1 + x - k := by have := HST.out; omega
      have HJV := Lib.hid hjv
      have done : ∀ v, Cell ra rb k (i + 1) x v → RowIs (wr.setCell ⟨g, x, none⟩ (.int .i64 v)) g n (updI f' x v) ∧ (∀ y, y < x + 1 → Cell ra rb k (i + 1) y (updI f' x v y)) ∧ (∀ y, x + 1 ≤ y → updI f' x v y = f y) ∧ But g w (wr.setCell ⟨g, x, none⟩ (.int .i64 v)) := by
        intro v hv
        refine ⟨hR.out.set x v hlt, fun y hy => ?_, fun y hy => by rw [updI_ne _ _ _ _ (by omega)]; exact hO.out y (by omega), hB.out.trans (But.setCell _ _ _ _)⟩
        by_cases e : y = x
        · subst e; rw [updI_at]; exact hv
        · rw [updI_ne _ _ _ _ e]; exact hC.out y (by omega)
      have D := Lib.hid done
      clear hox ho hj hjv hCx done
      by_cases hj0 : j < 0 ∨ (m : Int) < j
      · have hv : Cell ra rb k (i + 1) x far := by
          rw [← HF.out]
          rcases hj0 with h | h
          · exact cell_out_low _ _ _ _ _ (by have := HJV.out; omega)
          · exact cell_out_high _ _ _ _ _ (by rw [LB.out]; have := HJV.out; omega)
        obtain ⟨z1, z2, z3, z4⟩ := D.out far hv
        have Z1 := Lib.hid z1; have Z2 := Lib.hid z2; have Z3 := Lib.hid z3; have Z4 := Lib.hid z4
        clear z1 z2 z3 z4 hv
        rcases hj0 with h | h
        · go_wp2_with fail
          go_roundw
          case rel => exact ⟨x + 1, _, by omega, by go_num, Z1, Z2, Z3, Z4⟩
          case measure => simp [intOf]; omega
        · have h0 : 0 ≤ j := by omega
          go_wp2_with fail
          go_roundw
          case rel => exact ⟨x + 1, _, by omega, by go_num, Z1, Z2, Z3, Z4⟩
          case measure => simp [intOf]; omega
      · have h0 : 0 ≤ j := by omega
        have h1 : j ≤ (m : Int) := by omega
        clear hj0
        have hD1 : ∃ D1, 0 ≤ D1 ∧ D1 ≤ 1048578 ∧ Comes ra rb k i x D1 ∧ ((j = 0 ∧ D1 = far) ∨ (∃ J : Nat, j = (J : Int) + 1 ∧ ((rb.getD J 0 = r ∧ D1 = o) ∨ (rb.getD J 0 ≠ r ∧ D1 = o + 1)))) := by
          by_cases hjz : j = 0
          · exact ⟨far, by omega, by omega, by rw [← HF.out]; exact comes_zero ra rb k i x (by have := HJV.out; omega), Or.inl ⟨hjz, rfl⟩⟩
          · have e := comes_in ra rb k i x (j - 1).toNat o (by have := HJV.out; omega) (by rw [LB.out]; omega) HCX.out
            by_cases hc : rb.getD (j - 1).toNat 0 = r
            · rw [HR.out, hc, cost_eq, Int.add_zero] at e
              exact ⟨o, by omega, by omega, e, Or.inr ⟨(j - 1).toNat, by omega, Or.inl ⟨hc, rfl⟩⟩⟩
            · rw [HR.out, cost_ne (fun h => hc h.symm)] at e
              exact ⟨o + 1, by omega, by omega, e, Or.inr ⟨(j - 1).toNat, by omega, Or.inr ⟨hc, rfl⟩⟩⟩
        obtain ⟨D1, hd0, hd1, hcomes, hD⟩ := hD1
        have CM := Lib.hid hcomes
        have HD := Lib.hid hD
        clear hcomes hD
        go_upto_if 35 with fail
        go_cut [12] from 16 to 78 (fun d wc => d = .int .i64 D1 ∧ wr = wc)
        case first =>
          rcases HD.out with ⟨hj, hd⟩ | ⟨J, hj, hc⟩
          · subst hj
            go_wp2_with fail
            go_meet
            exact ⟨by rw [hd], rfl⟩
          · obtain ⟨bb, bo, rfl, hbc⟩ := (HB.out.but hB.out NE.out).2 (by omega)
            have e1 := hbc J (by omega)
            obtain ⟨c, hcv⟩ : ∃ c, rb.getD J 0 = c := ⟨_, rfl⟩
            rw [hcv] at e1 hc
            have hjw2 : IntKind.i64.wrap (j - 1) = (J : Int) := by rw [IntWalk.i64_in _ (by omega)]; omega
            have x1 : (0 : Int) < j := by omega
            have x2 : (0 : Int) ≤ (J : Int) := by omega
            have x3 : (J : Int) < (m : Int) := by omega
            have HJ := Lib.hid hj
            clear hbc hcv hj
            rcases hc with ⟨hc, hd⟩ | ⟨hc, hd⟩
            · have x4 : (c != r) = false := by simpa using hc
              clear hc
              subst hd
              go_wp2_with fail
              go_meet
              exact ⟨rfl, rfl⟩
            · have x4 : (c != r) = true := by simpa using hc
              clear hc
              go_wp2_with fail
              go_meet
              exact ⟨by rw [hd], rfl⟩
        case rest =>
          obtain ⟨rfl, rfl⟩ := hcut
          clear HD
          have hD2 : ∃ D2 l, 0 ≤ D2 ∧ D2 ≤ 1048578 ∧ 0 ≤ l ∧ l ≤ 1048577 ∧ ((x = 0 ∧ D2 = D1) ∨ (∃ p, p + 1 = x ∧ Cell ra rb k (i + 1) p l ∧ D2 = min D1 (l + 1))) ∧ (∀ p, p + 1 = x → f' p = l) := by
            rcases Nat.eq_zero_or_pos x with hx0 | hx0
            · exact ⟨D1, 0, by omega, by omega, by omega, by omega, Or.inl ⟨hx0, rfl⟩, fun p hp => by omega⟩
            · have e := hC.out (x - 1) (by omega)
              have b1 := e.lo; have b2 := e.hi
              exact ⟨min D1 (f' (x - 1) + 1), f' (x - 1), by omega, by omega, b1, by omega, Or.inr ⟨x - 1, by omega, e, rfl⟩, fun p hp => by rw [show p = x - 1 by omega]⟩
          obtain ⟨D2, l, he0, he1, hl0, hl1, hD2, hpl⟩ := hD2
          have HD2 := Lib.hid hD2
          have HPL := Lib.hid hpl
          clear hD2 hpl
          go_upto_if 50 with fail
          go_cut [12] from 16 to 78 (fun d wc => d = .int .i64 D2 ∧ wr = wc)
          case first =>
            rcases HD2.out with ⟨hx0, hd⟩ | ⟨p, hp, _, hd⟩
            · subst hx0 hd
              go_wp2_with fail
              go_meet
              exact ⟨rfl, rfl⟩
            · have e1 := hR.out.c p (by omega)
              rw [HPL.out p hp] at e1
              have hw2 : IntKind.i64.wrap ((x : Int) - 1) = (p : Int) := by rw [IntWalk.i64_in _ (by omega)]; omega
              have x1 : (0 : Int) < (x : Int) := by omega
              have x2 : (0 : Int) ≤ (p : Int) := by omega
              have x3 : (p : Int) < (n : Int) := by omega
              have x5 : p < n := by omega
              have hw3 : IntKind.i64.wrap (l + 1) = l + 1 := IntWalk.i64_in _ (by omega)
              have HDD := Lib.hid hd
              clear hd
              go_wp2_with fail
              all_goals go_meet
              all_goals exact ⟨by congr 1; have := HDD.out; omega, rfl⟩
          case rest =>
            obtain ⟨rfl, rfl⟩ := hcut
            have hD3 : ∃ D3 u, 0 ≤ D3 ∧ D3 ≤ 1048578 ∧ 0 ≤ u ∧ u ≤ 1048577 ∧ ((x = 2 * k ∧ D3 = D2) ∨ (x < 2 * k ∧ Cell ra rb k i (x + 1) u ∧ D3 = min D2 (u + 1))) ∧ (x + 1 < n → f' (x + 1) = u) := by
              by_cases hxn : x + 1 < n
              · have e := C0.out (x + 1) hxn
                have b1 := e.lo; have b2 := e.hi
                exact ⟨min D2 (f (x + 1) + 1), f (x + 1), by omega, by omega, b1, by omega, Or.inr ⟨by have := HNN.out; omega, e, rfl⟩, fun _ => hO.out (x + 1) (by omega)⟩
              · exact ⟨D2, 0, by omega, by omega, by omega, by omega, Or.inl ⟨by have := HNN.out; omega, rfl⟩, fun h => absurd h hxn⟩
            obtain ⟨D3, u, hf0, hf1, hu0, hu1, hD3, hpu⟩ := hD3
            have HD3 := Lib.hid hD3
            have HPU := Lib.hid hpu
            clear hD3 hpu
            go_upto_if 63 with fail
            go_cut [12] from 16 to 78 (fun d wc => d = .int .i64 D3 ∧ wr = wc)
            case first =>
              by_cases hxn : x + 1 < n
              · have hd : D3 = min D2 (u + 1) := by
                  rcases HD3.out with ⟨h, _⟩ | ⟨_, _, h⟩
                  · have := HNN.out; omega
                  · exact h
                have e1 := hR.out.c (x + 1) hxn
                rw [HPU.out hxn] at e1
                have x3 : (x : Int) + 1 < (n : Int) := by omega
                have hw2 : IntKind.i64.wrap ((x : Int) + 1) = (x : Int) + 1 := IntWalk.i64_in _ (by omega)
                have hw3 : IntKind.i64.wrap (u + 1) = u + 1 := IntWalk.i64_in _ (by omega)
                have HDD := Lib.hid hd
                clear hd
                go_wp2_with fail
                all_goals go_meet
                all_goals exact ⟨by congr 1; have := HDD.out; omega, rfl⟩
              · have hd : D3 = D2 := by
                  rcases HD3.out with ⟨_, h⟩ | ⟨h, _⟩
                  · exact h
                  · have := HNN.out; omega
                subst hd
                have x3 : ¬ (x : Int) + 1 < (n : Int) := by omega
                have hw2 : IntKind.i64.wrap ((x : Int) + 1) = (x : Int) + 1 := IntWalk.i64_in _ (by omega)
                go_wp2_with fail
                go_meet
                exact ⟨rfl, rfl⟩
            case rest =>
              obtain ⟨rfl, rfl⟩ := hcut
              obtain ⟨z1, z2, z3, z4⟩ := D.out (min D3 far) (CM.out l u D2 D3 (min D3 far) HD2.out HD3.out (by rw [HF.out]))
              obtain ⟨V, hV⟩ : ∃ V, min D3 far = V := ⟨_, rfl⟩
              rw [hV] at z1 z2 z3 z4
              have Z1 := Lib.hid z1; have Z2 := Lib.hid z2; have Z3 := Lib.hid z3; have Z4 := Lib.hid z4
              clear z1 z2 z3 z4 HD2 HD3 HPL HPU D CM
              have hmin : (D3 < far ∧ V = D3) ∨ (D3 = far ∧ V = D3) ∨ (far < D3 ∧ V = far) := by omega
              rcases hmin with ⟨h3, h4⟩ | ⟨h3, h4⟩ | ⟨h3, h4⟩
              · subst h4
                go_wp2_with fail
                go_roundw
                case rel => exact ⟨x + 1, _, by omega, by go_num, Z1, Z2, Z3, Z4⟩
                case measure => simp [intOf]; omega
              · subst h4 h3
                go_wp2_with fail
                go_roundw
                case rel => exact ⟨x + 1, _, by omega, by go_num, Z1, Z2, Z3, Z4⟩
                case measure => simp [intOf]; omega
              · subst h4
                go_wp2_with fail
                go_roundw
                case rel => exact ⟨x + 1, _, by omega, by go_num, Z1, Z2, Z3, Z4⟩
                case measure => simp [intOf]; omega
    · obtain rfl : x = n := by omega
      go_wp2_with fail
      go_end0
      exact ⟨rfl, ⟨f', hR.out, fun y hy => hC.out y (by have := HNN.out; omega)⟩, hB.out⟩
end Go.Proofs.Ytioegheehodndaa
/- contract of band.banded -/
namespace Go.Proofs.Ytioegheehodndaa
open Go.RowKit
set_option linter.unusedVariables false
set_option maxRecDepth 20000
theorem RowIs.of_own {w : World} {B g n cap : Nat} {e : TypeId} {zs : List Int} (h : w.ownsRow B e 1 (.slice (some ⟨g, 0, none⟩) n cap) n (intsV zs)) (hz : zs.length = n) : RowIs w g n (fun j => zs.getD j 0) :=
  ⟨fun j hj => by have := h.cellAt j (by omega); rw [intsV_at _ j (by omega)] at this; exact this, fun j => h.frozenAt j⟩
set_option maxHeartbeats 6400000 in
theorem banded_any (ra rb : List Int) (a b : Option Addr) (la lb ca cb k : Nat) (w : World) (ha : HoldsI .i32 w a la ra) (hb : HoldsI .i32 w b lb rb) (hla : la ≤ 1048576) (hlb : lb ≤ 1048576) (hk : k ≤ 1048576)
    (h1 : (la : Int) - lb ≤ k) (h2 : (lb : Int) - la ≤ k) :
    Calls Try.prog 63 #[.slice a la ca, .slice b lb cb, .int .i64 k] w fun e w' => e = .returned (.int .i64 (min (Ed.L ra rb la lb) ((k : Int) + 1))) ∧ Below w.heap.size w w' := by
  obtain ⟨i0, hi, hz0, hz1, hz2⟩ := info_parts int_info
  have HA := Lib.hid ha; have HB := Lib.hid hb
  have LA := Lib.hid ha.len; have LB := Lib.hid hb.len
  obtain ⟨n, hn⟩ : ∃ n, 2 * k + 1 = n := ⟨_, rfl⟩
  obtain ⟨far, hfar⟩ : ∃ far, (k : Int) + 1 = far := ⟨_, rfl⟩
  have hw1 : IntKind.i64.wrap ((k : Int) + 1) = far := by rw [IntWalk.i64_in _ (by omega)]; exact hfar
  have hw2 : IntKind.i64.wrap (2 * (k : Int)) = 2 * (k : Int) := IntWalk.i64_in _ (by omega)
  have hw3 : IntKind.i64.wrap (2 * (k : Int) + 1) = (n : Int) := by rw [IntWalk.i64_in _ (by omega)]; omega
  have HN := Lib.hid hn; have HF := Lib.hid hfar
  have hnb : n ≤ 2097153 := by omega
  have hfb : 0 ≤ far ∧ far ≤ 1048577 := by omega
  clear ha hb hn hfar
  go_enter Try.func63, Try.ntmps63
  go_wp2_with (at_make; refine wpList_make_full _ rfl _ _ 61 rfl w.heap.size 3 i0 (.int .i64 0) 1 Try.underlying61 hi hz0 hz1 _ _ _ _ n rfl rfl (by omega) (by omega) (by rw [hz2]; omega) (by unfold maxLen; omega) (Nat.le_refl _) ?_; intro w0 hown0 hgrow0)
  have hB0 := below_grown hgrow0 (by intro k hk; cases hk)
  have ho : w0.ownsRow w.heap.size 3 1 (.slice (some ⟨w.heap.size, 0, none⟩) n n) n (intsV (upTo n 0)) := by
    rw [upTo_zero, ← toList_madeCells_one]; rw [Nat.mul_one] at hown0; exact hown0
  have R0 := Lib.hid (RowIs.of_own ho (upTo_length _ _)); have B0 := Lib.hid hB0
  clear hown0 hgrow0 ho hB0
  obtain ⟨g, hg⟩ : ∃ g, w.heap.size = g := ⟨_, rfl⟩
  have HG := Lib.hid hg
  rw [hg] at R0
  simp only [hg]
  clear hg
  go_loopw [20] (fun xv wr => ∃ (x : Nat) (f' : Nat → Int), x ≤ n ∧ xv = .int .i64 x ∧ Hid (RowIs wr g n f') ∧ Hid (∀ y, y < x → Cell ra rb k 0 y (f' y)) ∧ Hid (Below w.heap.size w wr)) (fun xv _ => n - (intOf xv).toNat)
  case atStart => exact ⟨0, _, by omega, rfl, R0, Lib.hid (fun y h => by omega), B0⟩
  case round =>
    obtain ⟨x, f', hx, rfl, hR, hC, hB⟩ := hrel
    by_cases hlt : x < n
    · have hc := hR.out.c x hlt
      have hf := hR.out.fr x
      have hR1 := Lib.hid (hR.out.set x far hlt)
      have hcs := cell_start ra rb k x (by have := HN.out; omega)
      have x1 : (0 : Int) ≤ (x : Int) := by omega
      have x2 : (x : Int) < (n : Int) := by omega
      have hf1 := hR1.out.fr x
      have hc1 := hR1.out.c x hlt
      have hgl : w.heap.size ≤ g := Nat.le_of_eq HG.out
      by_cases hxk : k ≤ x
      · rw [if_pos hxk] at hcs
        obtain ⟨V, hV⟩ : ∃ V, (x : Int) - k = V := ⟨_, rfl⟩
        rw [hV] at hcs
        have hVw : IntKind.i64.wrap ((x : Int) - k) = V := by rw [IntWalk.i64_in _ (by omega)]; exact hV
        have hR2 := Lib.hid (hR1.out.set x V hlt)
        have HCS := Lib.hid hcs
        clear hV hcs
        go_wp2_with fail
        go_roundw
        case rel =>
          refine ⟨x + 1, _, by omega, by go_num, hR2, Lib.hid (fun y hy => ?_), Lib.hid ((hB.out.setCell hgl _).setCell hgl _)⟩
          by_cases e : y = x
          · subst e; rw [updI_at]; exact HCS.out
          · rw [updI_ne _ _ _ _ e, updI_ne _ _ _ _ e]; exact hC.out y (by omega)
        case measure => simp [intOf]; omega
      · rw [if_neg hxk] at hcs
        have HCS := Lib.hid hcs
        clear hcs
        go_wp2_with fail
        go_roundw
        case rel =>
          refine ⟨x + 1, _, by omega, by go_num, hR1, Lib.hid (fun y hy => ?_), Lib.hid (hB.out.setCell hgl _)⟩
          by_cases e : y = x
          · subst e; rw [updI_at, ← HF.out]; exact HCS.out
          · rw [updI_ne _ _ _ _ e]; exact hC.out y (by omega)
        case measure => simp [intOf]; omega
    · obtain rfl : x = n := by omega
      have C1 := Lib.hid (show ∀ y, y < x → Cell ra rb k 0 y (f' y) from hC.out)
      clear hC
      go_wp2_with fail
      go_loopw [39] (fun iv wr2 => ∃ (i : Nat) (f2 : Nat → Int), i ≤ la ∧ iv = .int .i64 i ∧ Hid (RowIs wr2 g x f2) ∧ Hid (∀ y, y < x → Cell ra rb k i y (f2 y)) ∧ Hid (Below w.heap.size w wr2)) (fun iv _ => la - (intOf iv).toNat)
      case atStart => exact ⟨0, f', by omega, rfl, hR, C1, hB⟩
      case round =>
        obtain ⟨i, f2, hi2, rfl, hR2, hC2, hB2⟩ := hrel
        by_cases hil : i < la
        · obtain ⟨ab, ao, rfl, hac⟩ := (HA.out.below (w' := wr) hB2.out).2 (by omega)
          have e1 := hac i hil
          have hiw : IntKind.i64.wrap ((i : Int) + 1) = (i : Int) + 1 := IntWalk.i64_in _ (by omega)
          have hiw2 : IntKind.i64.wrap ((i : Int) + 1 - k) = (i : Int) + 1 - k := IntWalk.i64_in _ (by omega)
          have hne : ∀ b' o, 0 < lb → b = some ⟨b', o, none⟩ → b' ≠ g := fun b' o h0 e => by
            obtain ⟨b2, o2, e2, hc2⟩ := HB.out.2 h0
            rw [e2] at e; injection e with e; injection e with e3
            have := lt_of_cell (hc2 0 h0); have := HG.out; omega
          have NE := Lib.hid hne
          clear hac hne
          go_wp2_with fail
          have hn' := HN.out
          have hadv := badvance_any ra rb g k i x lb cb f2 b wr (hn' ▸ hR2.out) (fun y hy => hC2.out y (by omega)) (HB.out.below hB2.out) NE.out hk hlb (by omega)
          rw [hn', HF.out] at hadv
          refine hadv.mono ?_
          rintro e w2 ⟨rfl, ⟨f3, hr3, hc3⟩, hb3⟩
          have R3 := Lib.hid hr3; have C3 := Lib.hid hc3
          have B3 := Lib.hid (hB2.out.trans (hb3.below (Nat.le_of_eq HG.out) hB2.out.size))
          clear hr3 hc3 hb3 hadv hn'
          go_wp2_with fail
          go_roundw
          case rel => exact ⟨i + 1, f3, by omega, by go_num, R3, C3, B3⟩
          case measure => simp [intOf]; omega
        · obtain rfl : i = la := by omega
          obtain ⟨p, hp⟩ : ∃ p : Nat, (p : Int) = (lb : Int) - i + k := ⟨((lb : Int) - i + k).toNat, by omega⟩
          have hpx : p < x := by have := HN.out; omega
          have e1 := hR2.out.c p hpx
          have e2 := (hC2.out p hpx).eq lb (by omega) (by rw [LB.out]; exact Nat.le_refl _)
          rw [e2, HF.out] at e1
          have q1 : IntKind.i64.wrap ((lb : Int) - i) = (lb : Int) - i := IntWalk.i64_in _ (by omega)
          have q2 : IntKind.i64.wrap ((lb : Int) - i + k) = (p : Int) := by rw [IntWalk.i64_in _ (by omega)]; exact hp.symm
          have q3 : (0 : Int) ≤ (p : Int) := by omega
          have q4 : (p : Int) < (x : Int) := by omega
          obtain ⟨V, hV⟩ : ∃ V, min (Ed.L ra rb i lb) far = V := ⟨_, rfl⟩
          rw [hV] at e1
          have HV := Lib.hid hV
          clear e2 hp hV
          go_wp2_with fail
          go_ret
          exact ⟨ret_int (by rw [HF.out]; exact HV.out.symm), hB2.out⟩
end Go.Proofs.Ytioegheehodndaa
/- contracts of band.Within, band.Near, and of awake -/
namespace Go.Proofs.Ytioegheehodndaa
open Go.RowKit
set_option linter.unusedVariables false
set_option maxRecDepth 20000
def withinD (D k : Int) : Int := if D ≤ k then D else 0
/-- Within, where the distance is told by a letter -/
def WithinP (a b : Option Addr) (la lb ca cb : Nat) (D : Int) (w : World) : Prop :=
  ∀ k : Int, Calls Try.prog 53 #[.slice a la ca, .slice b lb cb, .int .i64 k] w fun e w' => e = .returned (.tuple #[.int .i64 (withinD D k), .bool (decide (D ≤ k))]) ∧ Below w.heap.size w w'
theorem within_no (ra rb : List Int) (a b : Option Addr) (la lb ca cb : Nat) (k : Int) (w : World) (hla : la ≤ 1048576) (hlb : lb ≤ 1048576) (h : k < 0 ∨ k < (la : Int) - lb ∨ k < (lb : Int) - la) :
    Calls Try.prog 53 #[.slice a la ca, .slice b lb cb, .int .i64 k] w fun e w' => e = .returned (.tuple #[.int .i64 0, .bool false]) ∧ w = w' := by
  have h1 : k < 0 ∨ (0 ≤ k ∧ k < (la : Int) - lb) ∨ (0 ≤ k ∧ (la : Int) - lb ≤ k ∧ k < (lb : Int) - la) := by omega
  have q1 : IntKind.i64.wrap ((la : Int) - lb) = (la : Int) - lb := IntWalk.i64_in _ (by omega)
  have q2 : IntKind.i64.wrap ((lb : Int) - la) = (lb : Int) - la := IntWalk.i64_in _ (by omega)
  clear h
  rcases h1 with h1 | ⟨h0, h1⟩ | ⟨h0, h1, h2⟩
  all_goals
    go_enter Try.func53, Try.ntmps53
    go_wp2_with fail
    go_ret2
    exact ⟨rfl, rfl⟩
set_option maxHeartbeats 1600000 in
theorem within_any (ra rb : List Int) (a b : Option Addr) (la lb ca cb : Nat) (w : World) (ha : HoldsI .i32 w a la ra) (hb : HoldsI .i32 w b lb rb) (hla : la ≤ 1048576) (hlb : lb ≤ 1048576) :
    WithinP a b la lb ca cb (Ed.L ra rb la lb) w := by
  intro k
  have b1 := Ed.L_low ra rb la lb
  have b2 := Ed.L_bd ra rb la lb
  have b3 := Ed.L_up ra rb la lb
  by_cases hno : k < 0 ∨ k < (la : Int) - lb ∨ k < (lb : Int) - la
  · have h1 : ¬ Ed.L ra rb la lb ≤ k := by omega
    unfold withinD
    rw [if_neg h1, decide_eq_false h1]
    exact (within_no ra rb a b la lb ca cb k w hla hlb hno).mono fun e w' h => ⟨h.1, h.2 ▸ Below.refl _ _⟩
  · obtain ⟨n, rfl⟩ : ∃ n : Nat, k = (n : Int) := ⟨k.toNat, by omega⟩
    have h1 : (la : Int) - lb ≤ n := by omega
    have h2 : (lb : Int) - la ≤ n := by omega
    have h0 : (0 : Int) ≤ (n : Int) := by omega
    have q1 : IntKind.i64.wrap ((la : Int) - lb) = (la : Int) - lb := IntWalk.i64_in _ (by omega)
    have q2 : IntKind.i64.wrap ((lb : Int) - la) = (lb : Int) - la := IntWalk.i64_in _ (by omega)
    have hruns := Lib.hid (eruns_lit ra rb la lb a b ca cb w ha.len hb.len ha hb hla hlb)
    have hband := Lib.hid (fun hn => banded_any ra rb a b la lb ca cb n w ha hb hla hlb hn h1 h2)
    obtain ⟨D, hD⟩ : ∃ D, Ed.L ra rb la lb = D := ⟨_, rfl⟩
    simp only [hD] at b1 b2 b3 hruns hband ⊢
    unfold withinD
    have hmx : ((la : Int) < lb ∧ ((max la lb : Nat) : Int) = lb) ∨ ((lb : Int) ≤ la ∧ ((max la lb : Nat) : Int) = la) := by omega
    clear ha hb hD hno b1
    rcases hmx with ⟨hm, hm2⟩ | ⟨hm, hm2⟩
    all_goals
      rw [hm2] at b3
      clear hm2
    · by_cases hbig : (lb : Int) ≤ n
      · have hle : D ≤ (n : Int) := by omega
        rw [if_pos hle, decide_eq_true hle]
        have x1 : ¬ (n : Int) < D := by omega
        go_enter Try.func53, Try.ntmps53
        go_wp2_with fail
        refine hruns.out.mono ?_
        rintro e w' ⟨rfl, hb⟩
        go_wp2_with fail
        go_ret2
        exact ⟨rfl, hb⟩
      · have hb2 := Lib.hid (hband.out (by omega))
        have x3 : (n : Int) < lb := by omega
        clear hband hbig
        by_cases hle : D ≤ (n : Int)
        · rw [if_pos hle, decide_eq_true hle]
          have hv : min D ((n : Int) + 1) = D := by omega
          rw [hv] at hb2
          clear hv
          go_enter Try.func53, Try.ntmps53
          go_wp2_with fail
          refine hb2.out.mono ?_
          rintro e w' ⟨rfl, hb⟩
          go_wp2_with fail
          go_ret2
          exact ⟨rfl, hb⟩
        · rw [if_neg hle, decide_eq_false hle]
          have hv : min D ((n : Int) + 1) = (n : Int) + 1 := by omega
          rw [hv] at hb2
          clear hv
          go_enter Try.func53, Try.ntmps53
          go_wp2_with fail
          refine hb2.out.mono ?_
          rintro e w' ⟨rfl, hb⟩
          go_wp2_with fail
          go_ret2
          exact ⟨rfl, hb⟩
    · by_cases hbig : (la : Int) ≤ n
      · have hle : D ≤ (n : Int) := by omega
        rw [if_pos hle, decide_eq_true hle]
        have x1 : ¬ (n : Int) < D := by omega
        go_enter Try.func53, Try.ntmps53
        go_wp2_with fail
        refine hruns.out.mono ?_
        rintro e w' ⟨rfl, hb⟩
        go_wp2_with fail
        go_ret2
        exact ⟨rfl, hb⟩
      · have hb2 := Lib.hid (hband.out (by omega))
        have x3 : (n : Int) < la := by omega
        clear hband hbig
        by_cases hle : D ≤ (n : Int)
        · rw [if_pos hle, decide_eq_true hle]
          have hv : min D ((n : Int) + 1) = D := by omega
          rw [hv] at hb2
          clear hv
          go_enter Try.func53, Try.ntmps53
          go_wp2_with fail
          refine hb2.out.mono ?_
          rintro e w' ⟨rfl, hb⟩
          go_wp2_with fail
          go_ret2
          exact ⟨rfl, hb⟩
        · rw [if_neg hle, decide_eq_false hle]
          have hv : min D ((n : Int) + 1) = (n : Int) + 1 := by omega
          rw [hv] at hb2
          clear hv
          go_enter Try.func53, Try.ntmps53
          go_wp2_with fail
          refine hb2.out.mono ?_
          rintro e w' ⟨rfl, hb⟩
          go_wp2_with fail
          go_ret2
          exact ⟨rfl, hb⟩
def nearOk (a b : ByteArray) (k : Int) : Bool := decide (0 ≤ distS a b ∧ distS a b ≤ k)
def nearD (a b : ByteArray) (k : Int) : Int := if 0 ≤ distS a b ∧ distS a b ≤ k then distS a b else 0
set_option maxHeartbeats 1600000 in
theorem near_any (a b : ByteArray) (k : Int) (w : World) (hsa : a.size ≤ 1048576) (hsb : b.size ≤ 1048576) :
    Calls Try.prog 36 #[.string a, .string b, .int .i64 k] w fun e w' => e = .returned (.tuple #[.int .i64 (nearD a b k), .bool (nearOk a b k)]) ∧ Below w.heap.size w w' := by
  unfold nearOk nearD
  by_cases hga : 0 ≤ lenS a
  · have hA := Lib.hid (runes_good a w hsa hga)
    by_cases hgb : 0 ≤ lenS b
    · have hBr := Lib.hid (fun w => runes_good b w hsb hgb)
      have hd : distS a b = Ed.L (intsN (runesS a)) (intsN (runesS b)) (runesS a).length (runesS b).length := by unfold distS; rw [if_pos ⟨hga, hgb⟩]
      have hbd := Ed.L_bd (intsN (runesS a)) (intsN (runesS b)) (runesS a).length (runesS b).length
      have hle := runesS_le a
      have hleb := runesS_le b
      have hl1 := intsN_length (runesS a)
      have hl2 := intsN_length (runesS b)
      have h0 : (0 ≤ distS a b ∧ distS a b ≤ k) ↔ distS a b ≤ k := ⟨fun h => h.2, fun h => ⟨by omega, h⟩⟩
      have e1 : (if 0 ≤ distS a b ∧ distS a b ≤ k then distS a b else 0) = withinD (distS a b) k := by
        unfold withinD
        by_cases hk : distS a b ≤ k
        · rw [if_pos hk, if_pos (h0.2 hk)]
        · rw [if_neg hk, if_neg (fun h => hk h.2)]
      have e2 : decide (0 ≤ distS a b ∧ distS a b ≤ k) = decide (distS a b ≤ k) := decide_eq_decide.2 h0
      rw [e1, e2]
      rw [hd]
      clear e1 e2
      have HLE := Lib.hid hle; have HLEB := Lib.hid hleb; have HL1 := Lib.hid hl1; have HL2 := Lib.hid hl2
      clear hd hbd h0 hle hleb hl1 hl2 hga hgb
      go_enter Try.func36, Try.ntmps36
      go_wp2_with fail
      refine hA.out.mono ?_
      rintro e w1 ⟨a1, c1, rfl, hr1⟩
      have R1 := Lib.hid hr1
      clear hr1
      go_wp2_with fail
      refine (hBr.out _).mono ?_
      rintro e w2 ⟨a2, c2, rfl, hr2⟩
      have R2 := Lib.hid hr2
      clear hr2
      go_wp2_with fail
      have B2 : Below w.heap.size w w2 := R1.out.2.1.trans (R2.out.2.1.mono R1.out.2.1.size)
      have h1 := R1.out.holds.below R2.out.2.1
      have h2 := R2.out.holds
      rw [HL1.out] at h1; rw [HL2.out] at h2
      have hw := within_any (intsN (runesS a)) (intsN (runesS b)) a1 a2 (runesS a).length (runesS b).length c1 c2 w2 h1 h2 (by have := HLE.out; omega) (by have := HLEB.out; omega) k
      refine hw.mono ?_
      rintro e w3 ⟨rfl, hb3⟩
      have B3 := Lib.hid (B2.trans (hb3.mono B2.size))
      clear hb3 hw h1 h2 B2
      go_wp2_with fail
      go_ret2
      exact ⟨rfl, B3.out⟩
    · have hBr := Lib.hid (fun w => runes_bad b w hsb (by omega))
      have hd : distS a b = -1 := by unfold distS; rw [if_neg (fun h => hgb h.2)]
      rw [hd]
      have hn : ¬ ((0 : Int) ≤ -1 ∧ (-1 : Int) ≤ k) := by omega
      rw [if_neg hn, decide_eq_false hn]
      clear hn hd hga hgb
      go_enter Try.func36, Try.ntmps36
      go_wp2_with fail
      refine hA.out.mono ?_
      rintro e w1 ⟨a1, c1, rfl, hr1⟩
      have R1 := Lib.hid hr1
      clear hr1
      go_wp2_with fail
      refine (hBr.out _).mono ?_
      rintro e w2 ⟨rfl, hb2⟩
      have B2 := Lib.hid (R1.out.2.1.trans (hb2.mono R1.out.2.1.size))
      clear hb2
      go_wp2_with fail
      go_ret2
      exact ⟨rfl, B2.out⟩
  · have hA := Lib.hid (runes_bad a w hsa (by omega))
    have hd : distS a b = -1 := by unfold distS; rw [if_neg (fun h => hga h.1)]
    rw [hd]
    have hn : ¬ ((0 : Int) ≤ -1 ∧ (-1 : Int) ≤ k) := by omega
    rw [if_neg hn, decide_eq_false hn]
    clear hn hd hga
    by_cases hgb : 0 ≤ lenS b
    · have hBr := Lib.hid (fun w => runes_good b w hsb hgb)
      clear hgb
      go_enter Try.func36, Try.ntmps36
      go_wp2_with fail
      refine hA.out.mono ?_
      rintro e w1 ⟨rfl, hb1⟩
      have R1 := Lib.hid hb1
      clear hb1
      go_wp2_with fail
      refine (hBr.out _).mono ?_
      rintro e w2 ⟨a2, c2, rfl, hr2⟩
      have B2 := Lib.hid (R1.out.trans (hr2.2.1.mono R1.out.size))
      clear hr2
      go_wp2_with fail
      go_ret2
      exact ⟨rfl, B2.out⟩
    · have hBr := Lib.hid (fun w => runes_bad b w hsb (by omega))
      clear hgb
      go_enter Try.func36, Try.ntmps36
      go_wp2_with fail
      refine hA.out.mono ?_
      rintro e w1 ⟨rfl, hb1⟩
      have R1 := Lib.hid hb1
      clear hb1
      go_wp2_with fail
      refine (hBr.out _).mono ?_
      rintro e w2 ⟨rfl, hb2⟩
      have B2 := Lib.hid (R1.out.trans (hb2.mono R1.out.size))
      clear hb2
      go_wp2_with fail
      go_ret2
      exact ⟨rfl, B2.out⟩
end Go.Proofs.Ytioegheehodndaa
/- contracts of rank.Sort, rank.All, rank.Top -/
namespace Go.Proofs.Ytioegheehodndaa
open Go.RowKit
set_option linter.unusedVariables false
set_option maxRecDepth 20000
theorem cloneI_any (a : Option Addr) (n cap : Nat) (l : List KV) (w : World) (hh : HoldsK w a n l) (hnil : a = none → n = 0 ∧ cap = 0) (hn : n ≤ 50000) :
    Calls Try.prog 44 #[.slice a n cap] w (RetI w l) := by
  obtain ⟨i0, hi, hz0, hz1, hz2⟩ := info_parts item_info
  have hll := hh.len
  cases a with
  | none =>
    obtain ⟨rfl, rfl⟩ := hnil rfl
    obtain rfl : l = [] := List.eq_nil_of_length_eq_zero hll
    have he := fun w => Lib.run_eql_slice_nil (P := Try.prog) w 28 37 none 0 0 0 0 Try.underlying28
    go_enter Try.func44, Try.ntmps44
    go_wp2_with fail
    go_ret
    exact retI_own rfl rfl (World.ownsRow_nil _ _ _ _) (Below.refl _ _) _ rfl
  | some ad =>
    have hnews : ∀ ad', (some ad : Option Addr) = some ad' → ∀ j u, (keysV l)[j]? = some u → (w.alloc (.cells #[] 37)).cell? (ad'.add j) = some u :=
      HoldsK.cellsAny hh (World.grownBy_alloc w _ none)
    have HN := Lib.hid hnews
    have hown : (w.alloc (.cells #[] 37)).ownsRow w.heap.size 37 2 (.slice (some ⟨w.heap.size, 0, none⟩) 0 0) 0 [] := World.ownsRow_lit w #[] 0 (Nat.le_refl _) (by unfold maxLen; omega) rfl
    have HO := Lib.hid hown
    clear hnews hown hh
    have he := fun w => Lib.run_eql_slice_nil (P := Try.prog) w 28 37 (some ad) n cap 0 0 Try.underlying28
    go_enter Try.func44, Try.ntmps44
    go_wp2_with (at_builtin; refine wpList_append_any rfl (.tmp 5) (.tmp 6) 28 rfl w.heap.size 37 i0 _ 2 24 Try.underlying28 hi hz0 hz1 hz2 rfl (by decide) _ 0 [] rfl HO.out _ n cap (keysV l) rfl (some_none _) (by rw [keysV_len, hll]) HN.out (keysV_one _) (by unfold maxLen; omega) (by omega) (by simp) ?_; intro a3 c3 w3 hown3 hb3 hnil3)
    rw [Nat.zero_add, List.nil_append] at hown3
    go_ret
    exact retI_own rfl hll hown3 ((below_one w (.cells #[] 37)).trans (hb3)) _ (by simp)
/-- sorted in place is a slice of the call's own -/
theorem sortI_own (a : Option Addr) (n cap B : Nat) (ks : List KV) (w : World) (hown : w.ownsRow B 37 2 (.slice a n cap) n (keysV ks)) (hn : n ≤ 1048576) :
    Calls Try.prog 37 #[.slice a n cap, .func (.func 38) #[] #[]] w fun e w' => e = .returned (.tuple #[]) ∧ w'.ownsRow B 37 2 (.slice a n cap) n (keysV (sortK ks)) ∧ (∀ b w0, b ≤ B → Below b w0 w → Below b w0 w') := by
  have hl : ks.length = n := by have := hown.1; rw [keysV_len] at this; omega
  rcases hown.2 with ⟨h, h0⟩ | ⟨g', c', cur, h, _⟩
  · cases h
    obtain rfl : ks = [] := List.eq_nil_of_length_eq_zero hl
    refine (sortI_none 0 w).mono ?_
    rintro e w' ⟨rfl, rfl⟩
    exact ⟨rfl, hown, fun _ _ _ h => h⟩
  · cases h
    exact sortI_some g' n cap B ks w hown hn
theorem rankSort_any (a : Option Addr) (n cap : Nat) (l : List KV) (w : World) (hh : HoldsK w a n l) (hnil : a = none → n = 0 ∧ cap = 0) (hn : n ≤ 50000) :
    Calls Try.prog 25 #[.slice a n cap] w (RetI w (sortK l)) := by
  have hll := hh.len
  have CL := Lib.hid (cloneI_any a n cap l w hh hnil hn)
  clear hh hnil
  go_enter Try.func25, Try.ntmps25
  go_wp2_with fail
  refine CL.out.mono ?_
  rintro e w1 ⟨a1, c1, rfl, hown, hb⟩
  rw [hll] at hown
  rw [hll]
  have SO := Lib.hid (sortI_own a1 n c1 w.heap.size l w1 hown (by omega))
  have B1 := Lib.hid hb
  clear hown hb
  go_wp2_with fail
  refine SO.out.mono ?_
  rintro e w2 ⟨rfl, hown, hb⟩
  have B2 := Lib.hid (hb _ _ (Nat.le_refl _) B1.out)
  have O2 := Lib.hid hown
  clear hown hb
  go_wp2_with fail
  go_ret
  exact retI_own rfl (by rw [sortK_length]; exact hll) O2.out B2.out _ rfl
set_option maxHeartbeats 1600000 in
theorem rankAll_any (a : Option Addr) (n cap : Nat) (ws : List Tx) (s : Tx) (k : Int) (w : World) (hh : HoldsT w a n ws) (hn : n ≤ 50000) (hl : ∀ t ∈ ws, t.size ≤ 1048576) (hs : s.size ≤ 1048576) :
    Calls Try.prog 15 #[.slice a n cap, .string s, .int .i64 k] w (RetI w (allK ws s k)) := by
  obtain ⟨i0, hi, hz0, hz1, hz2⟩ := info_parts item_info
  have hll := hh.len
  have HH := Lib.hid hh; have HL := Lib.hid hl
  clear hh hl
  go_enter Try.func15, Try.ntmps15
  go_wp2_with fail
  go_loopw [7, 14] (fun ov iv wr => ∃ (j : Nat) (P : List KV) (av : Option Addr) (cv : Nat), j ≤ n ∧ iv = .int .i64 j ∧ ov = .slice av P.length cv ∧ Hid (P = nearL (ws.take j) s k) ∧ Hid (wr.ownsRow w.heap.size 37 2 (.slice av P.length cv) P.length (keysV P)) ∧ Hid (Below w.heap.size w wr)) (fun _ iv _ => n - (intOf iv).toNat)
  case atStart => exact ⟨0, [], none, 0, by omega, rfl, rfl, Lib.hid rfl, Lib.hid (World.ownsRow_nil _ _ _ _), Lib.hid (Below.refl _ _)⟩
  case round =>
    obtain ⟨j, P, av, cv, hj, rfl, rfl, hP, hO, hB⟩ := hrel
    have hpl : P.length ≤ j := by have := nearL_len (ws.take j) s k; rw [← hP.out] at this; simp at this; omega
    by_cases hlt : j < n
    · obtain ⟨bb, o, rfl, hc⟩ := HH.out.at (by omega)
      have g0 := hc j hlt
      have e0 := (hB.out.cell (p := ⟨bb, o + j, none⟩) (lt_of_cell g0)).trans g0
      have hmem := HL.out _ (getD_memT' ws j (by omega))
      have hyes := nearL_yes (ws.take j) (ws.getD j ByteArray.empty) s k
      have hnot := nearL_no (ws.take j) (ws.getD j ByteArray.empty) s k
      rw [← take_succ_getD ws ByteArray.empty j (by omega)] at hyes hnot
      obtain ⟨y, hy⟩ : ∃ y, ws.getD j ByteArray.empty = y := ⟨_, rfl⟩
      rw [hy] at hmem hyes hnot e0
      have ND := Lib.hid (near_any y s k wr hmem hs)
      clear hc hy g0
      by_cases hk : 0 ≤ distS y s ∧ distS y s ≤ k
      · have hsn := hyes hk
        rw [← hP.out] at hsn
        have n1 : nearOk y s k = true := decide_eq_true hk
        have n2 : nearD y s k = distS y s := if_pos hk
        rw [n1, n2] at ND
        obtain ⟨d, hd⟩ : ∃ d, distS y s = d := ⟨_, rfl⟩
        rw [hd] at ND hsn
        have HS := Lib.hid hsn
        clear hyes hnot hsn n1 n2 hd hk
        go_wp2_with fail
        refine ND.out.mono ?_
        rintro e w2 ⟨rfl, hb⟩
        have B2 := Lib.hid (hB.out.trans (hb.mono hB.out.size))
        have O2 := Lib.hid (owns_below hO.out hb)
        have hsz := B2.out.size
        clear hb hB hO e0
        go_wp2_with (at_builtin; refine wpList_append_any rfl (.tmp 26) (.tmp 30) 28 rfl w.heap.size 37 i0 _ 2 24 Try.underlying28 hi hz0 hz1 hz2 rfl (by decide) _ P.length _ rfl (O2.out.alloc _) _ 1 1 [.int .i64 d, .string y] rfl (some_none _) rfl (two_new _ _ _ _ _) (two_one _ _) (by unfold maxLen; omega) (by omega) (by simp; omega) ?_; intro a3 c3 w3 hown3 hb3 hnil3)
        rw [show keysV P ++ [.int .i64 d, .string y] = keysV (P ++ [(d, y)]) from (keysV_snoc P (d, y)).symm] at hown3
        have O3 := Lib.hid hown3
        have B3 := Lib.hid ((B2.out.alloc B2.out.size _).trans hb3)
        clear hown3 hb3 hnil3
        go_roundw
        case rel => exact ⟨j + 1, P ++ [(d, y)], a3, c3, by omega, by go_num, by simp, Lib.hid HS.out.symm, Lib.hid (by have := O3.out; simpa using this), B3⟩
        case measure => simp [intOf]; omega
      · have hsn := hnot hk
        rw [← hP.out] at hsn
        have n1 : nearOk y s k = false := decide_eq_false hk
        rw [n1] at ND
        obtain ⟨d, hd⟩ : ∃ d, nearD y s k = d := ⟨_, rfl⟩
        rw [hd] at ND
        have HS := Lib.hid hsn
        clear hyes hnot hsn n1 hd hk
        go_wp2_with fail
        refine ND.out.mono ?_
        rintro e w2 ⟨rfl, hb⟩
        have B2 := Lib.hid (hB.out.trans (hb.mono hB.out.size))
        have O2 := Lib.hid (owns_below hO.out hb)
        clear hb hB hO e0
        go_wp2_with fail
        go_roundw
        case rel => exact ⟨j + 1, P, av, cv, by omega, by go_num, rfl, Lib.hid HS.out.symm, O2, B2⟩
        case measure => simp [intOf]; omega
    · have hjn : ws.take j = ws := List.take_of_length_le (by omega)
      have hP2 := hP.out
      rw [hjn] at hP2
      have SO := Lib.hid (sortI_own av P.length cv w.heap.size P wr hO.out (by omega))
      have HP := Lib.hid hP2
      clear hP hP2 hjn
      go_wp2_with fail
      refine SO.out.mono ?_
      rintro e w2 ⟨rfl, hown, hb⟩
      have B2 := Lib.hid (hb _ _ (Nat.le_refl _) hB.out)
      have O2 := Lib.hid hown
      clear hown hb
      go_wp2_with fail
      go_ret
      exact retI_own (by rw [HP.out]; rfl) (by rw [sortK_length]) O2.out B2.out _ rfl
theorem rankTop_any (a : Option Addr) (n cap : Nat) (ws : List Tx) (s : Tx) (k m : Int) (w : World) (hh : HoldsT w a n ws) (hn : n ≤ 50000) (hl : ∀ t ∈ ws, t.size ≤ 1048576) (hs : s.size ≤ 1048576) :
    Calls Try.prog 14 #[.slice a n cap, .agg #[.string s, .int .i64 k, .int .i64 m]] w (RetI w (topK ws s k m)) := by
  have B1 := Lib.hid (below_one w (.cells #[.string s, .int .i64 k, .int .i64 m] 24))
  obtain ⟨c, hc⟩ : ∃ c, decide (mayP s k m) = c := ⟨_, rfl⟩
  have M := Lib.hid (fun w => may_any s k m w (by omega))
  rw [hc] at M
  have HH := Lib.hid hh; have HL := Lib.hid hl
  clear hh hl
  cases c with
  | false =>
    have ht : topK ws s k m = [] := if_neg (of_decide_eq_false hc)
    have HT := Lib.hid ht
    clear ht hc
    go_enter Try.func14, Try.ntmps14
    go_wp2_with fail
    refine (M.out _).mono ?_
    rintro e w2 ⟨rfl, hb⟩
    go_wp2_with fail
    go_ret
    exact retI_own HT.out.symm rfl (World.ownsRow_nil _ _ _ _) (B1.out.trans (hb.mono B1.out.size)) _ rfl
  | true =>
    have hm := of_decide_eq_true hc
    have ht : topK ws s k m = (allK ws s k).take m.toNat := if_pos hm
    have hm1 := hm.2.1
    have HT := Lib.hid ht
    clear ht hc hm
    obtain ⟨mm, rfl⟩ : ∃ mm : Nat, m = mm := ⟨m.toNat, by omega⟩
    go_enter Try.func14, Try.ntmps14
    go_wp2_with fail
    have q0 : (w.alloc (.cells #[.string s, .int .i64 k, .int .i64 mm] 24)).cell? ⟨w.heap.size, 0, none⟩ = some (.string s) := by rw [cell_alloc rfl]; rfl
    have q1 : (w.alloc (.cells #[.string s, .int .i64 k, .int .i64 mm] 24)).cell? ⟨w.heap.size, 1, none⟩ = some (.int .i64 k) := by rw [cell_alloc rfl]; rfl
    have q2 : (w.alloc (.cells #[.string s, .int .i64 k, .int .i64 mm] 24)).cell? ⟨w.heap.size, 2, none⟩ = some (.int .i64 mm) := by rw [cell_alloc rfl]; rfl
    generalize w.alloc (.cells #[.string s, .int .i64 k, .int .i64 mm] 24) = w1 at *
    have Q := Lib.hid (show w.heap.size < w1.heap.size from lt_of_cell q0)
    have HQ := Lib.hid (fun (w3 : World) (hb : Below w1.heap.size w1 w3) => show w3.cell? ⟨w.heap.size, 0, none⟩ = some (.string s) ∧ w3.cell? ⟨w.heap.size, 1, none⟩ = some (.int .i64 k) ∧ w3.cell? ⟨w.heap.size, 2, none⟩ = some (.int .i64 mm) from ⟨(hb.cell (p := ⟨w.heap.size, 0, none⟩) Q.out).trans q0, (hb.cell (p := ⟨w.heap.size, 1, none⟩) Q.out).trans q1, (hb.cell (p := ⟨w.heap.size, 2, none⟩) Q.out).trans q2⟩)
    clear q0 q1 q2
    refine (M.out _).mono ?_
    rintro e w2 ⟨rfl, hb⟩
    obtain ⟨q0, q1, q2⟩ := HQ.out _ hb
    have RA := Lib.hid (rankAll_any a n cap ws s k w2 (HH.out.below (B1.out.trans (hb.mono B1.out.size))) hn HL.out hs)
    have B2 := Lib.hid hb
    clear hb
    go_wp2_with fail
    refine RA.out.mono ?_
    rintro e w3 ⟨a2, c2, rfl, hown, hb⟩
    clear q0 q1 q2
    obtain ⟨q0, q1, q2⟩ := HQ.out _ (B2.out.trans (hb.mono B2.out.size))
    have B3 := Lib.hid ((B1.out.trans (B2.out.mono B1.out.size)).trans (hb.mono (Nat.le_trans B1.out.size B2.out.size)))
    have O3 := Lib.hid (hown.mono' (B := w.heap.size) (Nat.le_trans B1.out.size B2.out.size))
    have hcap := (owns_none hown).2
    obtain ⟨L, hL⟩ : ∃ L, (allK ws s k).length = L := ⟨_, rfl⟩
    rw [hL] at O3 hcap ⊢
    have HLL := Lib.hid hL
    clear hown hb hL
    go_wp2_with fail
    go_ret
    refine retI_take (k := (min (L : Int) (mm : Int)).toNat) (ys := allK ws s k) ?_ (by omega) HLL.out O3.out B3.out _ rfl
    rw [HT.out, ← HLL.out]; exact take_min _ mm
end Go.Proofs.Ytioegheehodndaa
/- lists of Items: held against each other; lent; kept -/
namespace Go.Proofs.Ytioegheehodndaa
open Go.RowKit
set_option linter.unusedVariables false
set_option maxRecDepth 20000
theorem prI_info : (Try.prog.info? 37).map (fun i => (i.zero, i.size, i.bytes)) = some (some (.agg #[.int .i64 0, .string ⟨#[]⟩]), 2, 24) := by kernel_rfl
set_option maxHeartbeats 400000 in
theorem sameItems_quiet (a1 a2 : Option Addr) (n c1 c2 : Nat) (z : List KV) (w : World) (h1 : HoldsK w a1 n z) (h2 : HoldsK w a2 n z) (hl : n ≤ 4611686018427387904) :
    Calls Try.prog 18 #[.slice a1 n c1, .slice a2 n c2] w fun e w' => e = .returned (.bool true) ∧ ∃ m, w' = w.drewN m := by
  have H1 := Lib.hid h1; have H2 := Lib.hid h2
  have hb : ((n : Int) != (n : Int)) = false := by simp
  clear h1 h2
  go_enter Try.func18, Try.ntmps18
  go_wp2
  go_loopw [5] (fun i wr => ∃ k m : Nat, k ≤ n ∧ i = .int .i64 k ∧ wr = w.drewN m) (fun i _ => n - (intOf i).toNat)
  case atStart => exact ⟨0, 0, by omega, rfl, rfl⟩
  case round =>
    obtain ⟨k, m, hk, rfl, rfl⟩ := hrel
    by_cases hlt : k < n
    · obtain ⟨b1, o1, rfl, k1⟩ := H1.out.at (by omega)
      obtain ⟨b2, o2, rfl, k2⟩ := H2.out.at (by omega)
      obtain ⟨e1, e2⟩ := k1 k hlt
      obtain ⟨e3, e4⟩ := k2 k hlt
      obtain ⟨x, hx⟩ : ∃ x, z.getD k k0 = x := ⟨_, rfl⟩
      rw [hx] at e1 e2 e3 e4
      obtain ⟨x1, x2⟩ := x
      simp only at e1 e2 e3 e4
      have f1 : (x1 == x1) = true := by simp
      have f2 := str_same x2
      clear hx k1 k2
      go_wp2
      go_quiet (fail)
      go_wp2
      go_roundw
      case rel => exact ⟨k + 1, _, by omega, by go_num, rfl⟩
      case measure => simp [intOf]; omega
    · go_wp2
      go_ret
      exact ⟨rfl, _, rfl⟩
theorem sameItems_yes (a1 a2 : Option Addr) (n c1 c2 : Nat) (z : List KV) (w : World) (h1 : HoldsK w a1 n z) (h2 : HoldsK w a2 n z) (hl : n ≤ 4611686018427387904) :
    Calls Try.prog 18 #[.slice a1 n c1, .slice a2 n c2] w fun e w' => e = .returned (.bool true) ∧ Below w.heap.size w w' :=
  (sameItems_quiet a1 a2 n c1 c2 z w h1 h2 hl).mono fun _ _ ⟨h, m, hm⟩ => ⟨h, by rw [hm]; exact below_drewN _ _⟩
set_option maxHeartbeats 400000 in
theorem lendItems_any (a : Option Addr) (n cap : Nat) (ks : List KV) (w : World) (h : HoldsK w a n ks) (hnil : a = none → n = 0 ∧ cap = 0) (hn : n ≤ 1048576) :
    Calls Try.prog 24 #[.slice a n cap] w fun e w' => e = .returned (.slice (some ⟨w.heap.size, 0, none⟩) n (n + 3)) ∧ Below w.heap.size w w' ∧ Roomy2 w' w.heap.size 37 n ks 3 := by
  obtain ⟨i0, hi, hz0, hz1, hz2⟩ := info_parts prI_info
  have hl := h.len
  have HK := Lib.hid h; have HN := Lib.hid hnil
  have HC := Lib.hid (fun (w' : World) (hg : w.grownBy w' none) => h.cellsAny hg)
  have hkl := keysV_len ks
  clear h hnil
  go_enter Try.func24, Try.ntmps24
  go_wp2_with (first | (at_make; refine wpList_make_own _ rfl _ _ 28 rfl w.heap.size 37 i0 (.agg #[.int .i64 0, .string ⟨#[]⟩]) 2 Try.underlying28 hi hz0 hz1 _ _ _ (n + 3) rfl rfl (by omega) (by rw [hz2]; omega) (by unfold maxLen; omega) (Nat.le_refl _) ?_; intro w0 hown0 hgrow0) | (at_builtin; refine wpList_append_fits_any _ rfl (.tmp 10) (.tmp 11) 28 rfl w.heap.size 37 i0 2 Try.underlying28 hi hz1 w.heap.size 0 (n + 3) _ rfl hown0 a n cap (keysV ks) rfl (by rw [hkl, hl]) HN.out (HC.out _ hgrow0) (keysV_one _) (by omega) ?_; intro w1 hown1 hgrow1; simp only [Nat.zero_add, List.nil_append] at hown1))
  have hb0 : Below w.heap.size w w0 := below_grown hgrow0 (by intro k hk; cases hk)
  have hb1 : Below w.heap.size w w1 := hb0.grown hgrow1 hb0.size (by intro k hk; cases hk; exact Nat.le_refl _)
  have hr1 : Roomy2 w1 w.heap.size 37 n ks 0 := roomy2_of_own hl hown1
  have HB1 := Lib.hid hb1; have HR1 := Lib.hid hr1
  clear hb0 hb1 hr1 hown0 hown1 hgrow0 hgrow1
  go_loopw [5] (fun i wr => ∃ k : Nat, k ≤ 3 ∧ i = .int .i64 k ∧ Hid (Roomy2 wr w.heap.size 37 n ks k) ∧ Hid (Below w.heap.size w wr)) (fun i _ => 3 - (intOf i).toNat)
  case atStart => exact ⟨0, by omega, rfl, HR1, HB1⟩
  case round =>
    obtain ⟨k, hk, rfl, hR, hB⟩ := hrel
    by_cases hlt : k < 3
    · obtain ⟨v, hv⟩ := hR.out.there (n * 2 + k * 2) (by omega)
      obtain ⟨v2, hv2⟩ := hR.out.there (n * 2 + k * 2 + 1) (by omega)
      have hf := hR.out.free (n * 2 + k * 2)
      have hf2 := hR.out.free (n * 2 + k * 2 + 1)
      go_wp2
      go_roundw
      case rel => exact ⟨k + 1, by omega, by go_num, hR.out.put hlt, (hB.out.setCell (p := ⟨w.heap.size, n * 2 + k * 2, none⟩) (Nat.le_refl _) _).setCell (p := ⟨w.heap.size, n * 2 + k * 2 + 1, none⟩) (Nat.le_refl _) _⟩
      case measure => simp [intOf]; omega
    · obtain rfl : k = 3 := by omega
      go_wp2
      go_ret
      exact ⟨rfl, hB.out, hR.out⟩
set_option maxHeartbeats 400000 in
theorem keptItems_yes (B : Nat) (e : TypeId) (n : Nat) (z : List KV) (a : Option Addr) (cap : Nat) (w : World) (h1 : z.length = n) (hR : Roomy2 w B e n z 3) (h2 : HoldsK w a n z) (hn : n ≤ 1048576) :
    Calls Try.prog 27 #[.slice (some ⟨B, 0, none⟩) n (n + 3), .slice a n cap] w fun e w' => e = .returned (.bool true) ∧ Below w.heap.size w w' := by
  have HR := Lib.hid hR; have H2 := Lib.hid h2; have H1 := Lib.hid h1
  clear hR h2 h1
  have HS := Lib.hid (HR.out.holds H1.out)
  have f1 : ((-7 : Int) == -7) = true := by simp
  have f2 := str_same ({ data := #[] } : ByteArray)
  go_enter Try.func27, Try.ntmps27
  go_wp2
  go_loop [6] (fun i => ∃ k : Nat, k ≤ 3 ∧ i = .int .i64 k) (fun i => 3 - (intOf i).toNat)
  case atStart => exact ⟨0, by omega, rfl⟩
  case round =>
    obtain ⟨k, hk, rfl⟩ := hrel
    by_cases hlt : k < 3
    · obtain ⟨hv, hv2⟩ := HR.out.room k hlt
      go_wp2
      go_round
      case rel => exact ⟨k + 1, by omega, by go_num⟩
      case measure => simp [intOf]; omega
    · obtain rfl : k = 3 := by omega
      go_wp2_with fail
      refine (sameItems_yes _ _ _ _ _ z _ HS.out H2.out (by omega)).mono ?_
      rintro e w' ⟨rfl, hb⟩
      go_wp2_with fail
      go_ret
      exact ⟨rfl, hb⟩
end Go.Proofs.Ytioegheehodndaa
/- contract of GreatTexts -/
namespace Go.Proofs.Ytioegheehodndaa
open Go.RowKit
set_option linter.unusedVariables false
set_option maxRecDepth 20000
theorem getD_memT (zs : List Tx) (j : Nat) (h : j < zs.length) : zs.getD j ByteArray.empty ∈ zs := by
  rw [List.getD_eq_getElem?_getD, List.getElem?_eq_getElem h]; simp
def smallP (ts : List Tx) : Prop := ∀ t ∈ ts, t.size ≤ 100
def greatB (ts : List Tx) : Bool := decide (80 < ts.length ∨ ∃ t ∈ ts, 100 < t.size)
theorem great_yes {ts : List Tx} (h : 80 < ts.length ∨ ∃ t ∈ ts, 100 < t.size) : greatB ts = true := decide_eq_true h
theorem great_no {ts : List Tx} (h1 : ts.length ≤ 80) (h2 : smallP ts) : greatB ts = false := by
  refine decide_eq_false ?_
  rintro (h | ⟨t, ht, h⟩)
  · omega
  · have := h2 t ht; omega
theorem great_no_iff {ts : List Tx} : greatB ts = false ↔ ts.length ≤ 80 ∧ smallP ts := by
  constructor
  · intro h
    have h' := of_decide_eq_false h
    refine ⟨Nat.le_of_not_lt fun k => h' (Or.inl k), fun t ht => Nat.le_of_not_lt fun k => h' (Or.inr ⟨t, ht, k⟩)⟩
  · rintro ⟨h1, h2⟩; exact great_no h1 h2
set_option maxHeartbeats 800000 in
theorem great_any (a : Option Addr) (n cap : Nat) (ts : List Tx) (w : World) (hh : HoldsT w a n ts) (hn : n ≤ 9223372036854775807) (hsz : ∀ t ∈ ts, t.size ≤ 9223372036854775807) :
    Calls Try.prog 11 #[.slice a n cap] w fun e w' => e = .returned (.bool (greatB ts)) ∧ Below w.heap.size w w' := by
  have hl := hh.len
  by_cases h80 : n ≤ 80
  case neg =>
    rw [great_yes (Or.inl (by omega))]
    go_enter Try.func11, Try.ntmps11
    go_wp2_with fail
    go_loopw [3] (fun iv wr => iv = .int .i64 0 ∧ wr = w) (fun _ _ => 0)
    case atStart => exact ⟨rfl, rfl⟩
    case round =>
      obtain ⟨rfl, rfl⟩ := hrel
      go_wp2_with fail
      go_ret
      exact ⟨rfl, Below.refl _ _⟩
  go_enter Try.func11, Try.ntmps11
  go_wp2_with fail
  go_loopw [3] (fun iv wr => ∃ j : Nat, j ≤ n ∧ iv = .int .i64 j ∧ Hid (smallP (ts.take j)) ∧ Hid (Below w.heap.size w wr)) (fun iv _ => n - (intOf iv).toNat)
  case atStart => exact ⟨0, by omega, rfl, Lib.hid (by simp [smallP]), Lib.hid (Below.refl _ _)⟩
  case round =>
    obtain ⟨j, hj, rfl, hS, hB⟩ := hrel
    by_cases hlt : j < n
    · obtain ⟨b, o, rfl, hc⟩ := (hh.below hB.out).at (by omega)
      have e1 := hc j hlt
      have hmem := getD_memT ts j (by omega)
      have htk := take_succ_getD ts ByteArray.empty j (by omega)
      obtain ⟨x, hx⟩ : ∃ x, ts.getD j ByteArray.empty = x := ⟨_, rfl⟩
      rw [hx] at e1 hmem htk
      have hxs := hsz x hmem
      have HM := Lib.hid hmem; have HT := Lib.hid htk
      clear hx hmem htk hc
      by_cases hg : 100 < x.size
      · have hgr := great_yes (ts := ts) (Or.inr ⟨x, HM.out, hg⟩)
        have HG := Lib.hid hgr
        clear hgr
        go_wp2_with fail
        go_ret
        exact ⟨ret_bool HG.out.symm, hB.out⟩
      · go_wp2_with fail
        go_roundw
        case rel => exact ⟨j + 1, by omega, by go_num, Lib.hid (by rw [HT.out]; intro z hz; rcases List.mem_append.1 hz with hz | hz; exact hS.out z hz; simp at hz; rw [hz]; omega), hB⟩
        case measure => simp [intOf]; omega
    · have hjn : ts.take j = ts := List.take_of_length_le (by omega)
      have hgr := great_no (ts := ts) (by omega) (by have := hS.out; rw [hjn] at this; exact this)
      have HG := Lib.hid hgr
      clear hjn hgr
      go_wp2_with fail
      go_ret
      exact ⟨ret_bool (by rw [HG.out, decide_eq_false_iff_not]; omega), hB.out⟩
end Go.Proofs.Ytioegheehodndaa
/- rank: what every program answers that is one; how long items are; items written over -/
namespace Go.Proofs.Ytioegheehodndaa
open Go.RowKit
set_option linter.unusedVariables false
set_option maxRecDepth 20000
theorem d_ab_ab : distS { data := #[97, 98] } { data := #[97, 98] } = 0 := by
  have l1 : lenS { data := #[97, 98] } = 2 := by decide +kernel
  have r1 : intsN (runesS { data := #[97, 98] }) = [97, 98] := by decide +kernel
  have n1 : (runesS { data := #[97, 98] }).length = 2 := by decide +kernel
  unfold distS
  rw [l1, r1, n1, if_pos (by decide)]
  have h0 : Ed.row [97, 98] [97, 98] 0 = [0, 1, 2] := by rw [← upTo_row]; decide
  have h1 : Ed.row [97, 98] [97, 98] 1 = [1, 0, 1] := by rw [← Ed.mix_all _ _ 0, h0]; decide
  have h2 : Ed.row [97, 98] [97, 98] 2 = [2, 1, 0] := by rw [← Ed.mix_all _ _ 1, h1]; decide
  rw [← Ed.row_getD _ _ 2 2 (by decide), h2]
  rfl
theorem d_abc_ab : distS { data := #[97, 98, 99] } { data := #[97, 98] } = 1 := by
  have l1 : lenS { data := #[97, 98] } = 2 := by decide +kernel
  have r1 : intsN (runesS { data := #[97, 98] }) = [97, 98] := by decide +kernel
  have n1 : (runesS { data := #[97, 98] }).length = 2 := by decide +kernel
  have l2 : lenS { data := #[97, 98, 99] } = 3 := by decide +kernel
  have r2 : intsN (runesS { data := #[97, 98, 99] }) = [97, 98, 99] := by decide +kernel
  have n2 : (runesS { data := #[97, 98, 99] }).length = 3 := by decide +kernel
  unfold distS
  rw [l1, r1, n1, l2, r2, n2, if_pos (by decide)]
  have h0 : Ed.row [97, 98, 99] [97, 98] 0 = [0, 1, 2, 3] := by rw [← upTo_row]; decide
  have h1 : Ed.row [97, 98, 99] [97, 98] 1 = [1, 0, 1, 2] := by rw [← Ed.mix_all _ _ 0, h0]; decide
  have h2 : Ed.row [97, 98, 99] [97, 98] 2 = [2, 1, 0, 1] := by rw [← Ed.mix_all _ _ 1, h1]; decide
  rw [← Ed.row_getD _ _ 2 3 (by decide), h2]
  rfl
theorem d_b_ab : distS { data := #[98] } { data := #[97, 98] } = 1 := by
  have l1 : lenS { data := #[97, 98] } = 2 := by decide +kernel
  have r1 : intsN (runesS { data := #[97, 98] }) = [97, 98] := by decide +kernel
  have n1 : (runesS { data := #[97, 98] }).length = 2 := by decide +kernel
  have l2 : lenS { data := #[98] } = 1 := by decide +kernel
  have r2 : intsN (runesS { data := #[98] }) = [98] := by decide +kernel
  have n2 : (runesS { data := #[98] }).length = 1 := by decide +kernel
  unfold distS
  rw [l1, r1, n1, l2, r2, n2, if_pos (by decide)]
  have h0 : Ed.row [98] [97, 98] 0 = [0, 1] := by rw [← upTo_row]; decide
  have h1 : Ed.row [98] [97, 98] 1 = [1, 1] := by rw [← Ed.mix_all _ _ 0, h0]; decide
  have h2 : Ed.row [98] [97, 98] 2 = [2, 1] := by rw [← Ed.mix_all _ _ 1, h1]; decide
  rw [← Ed.row_getD _ _ 2 1 (by decide), h2]
  rfl
theorem top_awake : topK [⟨#[97, 98]⟩, ⟨#[97, 98, 99]⟩, ⟨#[98]⟩] ⟨#[97, 98]⟩ 1 2 = [(0, ⟨#[97, 98]⟩), (1, ⟨#[97, 98, 99]⟩)] := by
  have l1 : lenS { data := #[97, 98] } = 2 := by decide +kernel
  have hm : mayP ⟨#[97, 98]⟩ 1 2 := by unfold mayP; rw [l1]; omega
  have hn : nearL [⟨#[97, 98]⟩, ⟨#[97, 98, 99]⟩, ⟨#[98]⟩] ⟨#[97, 98]⟩ 1 = [(0, ⟨#[97, 98]⟩), (1, ⟨#[97, 98, 99]⟩), (1, ⟨#[98]⟩)] := by
    simp [nearL, d_ab_ab, d_abc_ab, d_b_ab]
  have c1 : cmpS ⟨#[97, 98, 99]⟩ ⟨#[98]⟩ = -1 := by decide +kernel
  have c2 : cmpS ⟨#[98]⟩ ⟨#[97, 98, 99]⟩ = 1 := by decide +kernel
  have hs : sortK [((0 : Int), (⟨#[97, 98]⟩ : Tx)), (1, ⟨#[97, 98, 99]⟩), (1, ⟨#[98]⟩)] = [(0, ⟨#[97, 98]⟩), (1, ⟨#[97, 98, 99]⟩), (1, ⟨#[98]⟩)] := by
    refine sortK_same ?_
    unfold SortedK leK
    simp [ordK, c2]
  unfold topK allK
  rw [if_pos hm, hn, hs]
  rfl
theorem holdsT_lit3 (w : World) (a b c : Tx) (e : TypeId) (fr : Nat × Nat) : HoldsT (w.alloc (.cells #[.string a, .string b, .string c] e fr)) (some ⟨w.heap.size, 0, none⟩) 3 [a, b, c] := by
  refine ⟨rfl, fun _ => ⟨w.heap.size, 0, rfl, fun i hi => ?_⟩⟩
  have : i = 0 ∨ i = 1 ∨ i = 2 := by omega
  rcases this with rfl | rfl | rfl
  · rw [Nat.add_zero, World.cell?_alloc_mark]; rfl
  · rw [Nat.zero_add, World.cell?_alloc_mark]; rfl
  · rw [Nat.zero_add, World.cell?_alloc_mark]; rfl
theorem holdsK_lit2 (w : World) (a b : KV) (e : TypeId) (fr : Nat × Nat) : HoldsK (w.alloc (.cells #[.int .i64 a.1, .string a.2, .int .i64 b.1, .string b.2] e fr)) (some ⟨w.heap.size, 0, none⟩) 2 [a, b] := by
  refine ⟨rfl, fun _ => ⟨w.heap.size, 0, rfl, fun i hi => ?_⟩⟩
  have : i = 0 ∨ i = 1 := by omega
  rcases this with rfl | rfl
  · rw [World.cell?_alloc_mark, World.cell?_alloc_mark]; exact ⟨rfl, rfl⟩
  · rw [World.cell?_alloc_mark, World.cell?_alloc_mark]; exact ⟨rfl, rfl⟩
theorem rankTop_lit (a : Option Addr) (n cap : Nat) (ws : List Tx) (s : Tx) (k m : Int) (ys : List KV) (w : World) (hh : HoldsT w a n ws) (hn : n ≤ 50000) (hl : ∀ t ∈ ws, t.size ≤ 1048576) (hs : s.size ≤ 1048576) (hy : topK ws s k m = ys) :
    Calls Try.prog 14 #[.slice a n cap, .agg #[.string s, .int .i64 k, .int .i64 m]] w (RetI w ys) := by subst hy; exact rankTop_any a n cap ws s k m w hh hn hl hs
set_option maxHeartbeats 1600000 in
theorem awake_any (w : World) :
    Calls Try.prog 12 #[] w fun e w' => e = .returned (.bool true) ∧ Below w.heap.size w w' := by
  have okA := Lib.hid (fun w => may_lit ⟨#[]⟩ 0 1 true w (by decide) (decide_eq_true (show mayP ⟨#[]⟩ 0 1 by unfold mayP; rw [show lenS ⟨#[]⟩ = 0 by decide]; omega)))
  have okB := Lib.hid (fun w => may_lit ⟨#[]⟩ 0 0 false w (by decide) (decide_eq_false (show ¬ mayP ⟨#[]⟩ 0 0 by unfold mayP; omega)))
  have RT := Lib.hid (rankTop_lit (some ⟨w.heap.size, 0, none⟩) 3 3 [⟨#[97, 98]⟩, ⟨#[97, 98, 99]⟩, ⟨#[98]⟩] ⟨#[97, 98]⟩ 1 2 _ _ (holdsT_lit3 w _ _ _ 9 (0, 0)) (by omega) (by intro t ht; simp at ht; rcases ht with rfl | rfl | rfl <;> decide) (by decide) top_awake)
  have B1 := Lib.hid (below_one w (.cells #[.string ⟨#[97, 98]⟩, .string ⟨#[97, 98, 99]⟩, .string ⟨#[98]⟩] 9))
  go_enter Try.func12, Try.ntmps12
  go_wp2_with fail
  refine RT.out.mono ?_
  rintro e w2 ⟨a2, c2, rfl, hown, hb⟩
  have H2 := Lib.hid (HoldsK.own hown)
  have B2 := Lib.hid (B1.out.trans (hb.mono B1.out.size))
  clear hown hb
  go_wp2_with fail
  refine (sameItems_yes a2 (some ⟨w2.heap.size, 0, none⟩) 2 _ _ _ _ (H2.out.below (below_one w2 _)) (holdsK_lit2 w2 (0, ⟨#[97, 98]⟩) (1, ⟨#[97, 98, 99]⟩) 37 (0, 0)) (by omega)).mono ?_
  rintro e w3 ⟨rfl, hb⟩
  have B3 := Lib.hid ((B2.out.alloc B2.out.size _).trans (hb.mono (by have := B2.out.size; simp; omega)))
  clear hb
  go_wp2_with fail
  refine (okA.out _).mono ?_
  rintro e w4 ⟨rfl, hb⟩
  have B4 := Lib.hid (B3.out.trans (hb.mono B3.out.size))
  clear hb
  go_wp2_with fail
  refine (okB.out _).mono ?_
  rintro e w5 ⟨rfl, hb⟩
  have B5 := Lib.hid (B4.out.trans (hb.mono B4.out.size))
  clear hb
  go_wp2_with fail
  go_ret
  exact ⟨rfl, B5.out⟩
def smallK (ks : List KV) : Prop := ∀ k ∈ ks, k.2.size ≤ 100
def greatKB (ks : List KV) : Bool := decide (80 < ks.length ∨ ∃ k ∈ ks, 100 < k.2.size)
theorem greatK_no_iff {ks : List KV} : greatKB ks = false ↔ ks.length ≤ 80 ∧ smallK ks := by
  unfold greatKB smallK
  rw [decide_eq_false_iff_not]
  constructor
  · intro h
    refine ⟨by omega, fun k hk => ?_⟩
    rcases Nat.lt_or_ge 100 k.2.size with h2 | h2
    · exact absurd (Or.inr ⟨k, hk, h2⟩) h
    · exact h2
  · rintro ⟨h1, h2⟩ (h | ⟨k, hk, h3⟩)
    · omega
    · have := h2 k hk; omega
theorem greatK_any (a : Option Addr) (n cap : Nat) (ks : List KV) (w : World) (hh : HoldsK w a n ks) (hn : n ≤ 9223372036854775807) (hx : ∀ k ∈ ks, k.2.size ≤ 9223372036854775807) :
    Calls Try.prog 23 #[.slice a n cap] w fun e w' => e = .returned (.bool (greatKB ks)) ∧ w = w' := by
  have hl := hh.len
  obtain ⟨g, hg'⟩ : ∃ g, greatKB ks = g := ⟨_, rfl⟩
  have hg : g = true ↔ (80 < ks.length ∨ ∃ k ∈ ks, 100 < k.2.size) := by rw [← hg']; exact decide_eq_true_iff
  rw [hg']
  clear hg'
  have HG := Lib.hid hg; have HX := Lib.hid hx; have HH := Lib.hid hh
  clear hg hx hh
  by_cases h1 : 80 < n
  · have hgt : g = true := HG.out.2 (Or.inl (by omega))
    subst hgt
    have h2 : ¬ n ≤ 80 := by omega
    go_enter Try.func23, Try.ntmps23
    go_wp2_with fail
    go_loop [3] (fun c => c = .int .i64 0) (fun _ => 0)
    case atStart => exact rfl
    case round =>
      subst hrel
      go_wp2_with fail
      go_ret
      exact ⟨ret_bool (by simp <;> omega), rfl⟩
  have h2 : n ≤ 80 := by omega
  go_enter Try.func23, Try.ntmps23
  go_wp2_with fail
  go_loop [3] (fun c => ∃ i : Nat, i ≤ n ∧ c = .int .i64 i ∧ Hid (∀ j, j < i → (ks.getD j k0).2.size ≤ 100)) (fun c => n - (intOf c).toNat)
  case atStart => exact ⟨0, by omega, rfl, Lib.hid (by omega)⟩
  case round =>
    obtain ⟨i, hi, rfl, HA⟩ := hrel
    by_cases hin : i < n
    · obtain ⟨b, o, rfl, hc⟩ := HH.out.at (by omega)
      have hc2 := (hc i hin).2
      have hz := HX.out _ (getD_memK ks i (by omega))
      have hmem := getD_memK ks i (by omega)
      have HE := Lib.hid (fun h => HG.out.2 (Or.inr ⟨_, hmem, h⟩))
      have HAn := Lib.hid (fun (h : (ks.getD i k0).2.size ≤ 100) j (hj : j < i + 1) => show (ks.getD j k0).2.size ≤ 100 from (by
          by_cases e : j = i
          · subst e; exact h
          · exact HA.out j (by omega)))
      obtain ⟨x, hx⟩ : ∃ x, ks.getD i k0 = x := ⟨_, rfl⟩
      rw [hx] at hc2 hz HE HAn
      clear hc hx hmem
      obtain ⟨x1, x2⟩ := x
      simp only at hc2 hz HE HAn
      by_cases hs : 100 < x2.size
      · have hgt : g = true := HE.out hs
        subst hgt
        go_wp2_with fail
        go_ret
        exact ⟨rfl, rfl⟩
      · have HA2 := Lib.hid (HAn.out (by omega))
        go_wp2_with fail
        go_round
        case rel => exact ⟨i + 1, by omega, by go_num, HA2⟩
        case measure => simp [intOf]; omega
    · have hgf : g = false := by
        cases hg : g with
        | false => rfl
        | true =>
          rcases HG.out.1 hg with x | ⟨k, hk, x⟩
          · omega
          · obtain ⟨j, hj, rfl⟩ := List.getElem_of_mem hk
            have := HA.out j (by omega)
            simp [List.getD_eq_getElem?_getD, hj] at this
            omega
      subst hgf
      go_wp2_with fail
      go_ret
      exact ⟨ret_bool (by simp <;> omega), rfl⟩
theorem grown_set {w wr : World} {g : Nat} (h : w.grownBy wr (some g)) (o : Nat) (v : Value) : w.grownBy (wr.setCell ⟨g, o, none⟩ v) (some g) :=
  ⟨h.os, h.tape, h.output, by have := h.size; simpa using this, fun b hb hne => (Below.heap_setCell wr ⟨g, o, none⟩ v b (fun e => hne (by show some b = some g; rw [e]))).trans (h.block b hb hne)⟩
set_option maxHeartbeats 1600000 in
/-- Written over is a slice of the call's own (its blocks lie from B on): below B nothing turns, and nothing but the slice's block. -/
theorem overItems_any (B : Nat) (a : Option Addr) (n cap : Nat) (xs : List Value) (w : World) (h : w.ownsRow B 37 2 (.slice a n cap) n xs) (hB : B ≤ w.heap.size) (hn : n ≤ 1048576) :
    Calls Try.prog 22 #[.slice a n cap] w fun e w' => e = .returned (.tuple #[]) ∧ Below B w w' ∧ w.grownBy w' (Value.slice a n cap).ownBlock := by
  obtain ⟨i0, hi, hz0, hz1, hz2⟩ := info_parts item_info
  have H := Lib.hid h
  clear h
  go_enter Try.func22, Try.ntmps22
  go_wp2_with fail
  go_loopw [2] (fun i wr => ∃ (k : Nat) (ys : List Value), k ≤ n ∧ i = .int .i64 k ∧ Hid (wr.ownsRow B 37 2 (.slice a n cap) n ys) ∧ Hid (Below B w wr) ∧ Hid (w.grownBy wr (Value.slice a n cap).ownBlock)) (fun i _ => n - (intOf i).toNat)
  case atStart => exact ⟨0, xs, by omega, rfl, H, Below.refl _ _, Lib.hid ⟨rfl, rfl, rfl, Nat.le_refl _, fun _ _ _ => rfl⟩⟩
  case round =>
    obtain ⟨k, ys, hk, rfl, hO, hBw, hGr⟩ := hrel
    by_cases hlt : k < n
    · obtain ⟨g, rfl⟩ : ∃ g, a = some ⟨g, 0, none⟩ := by
        obtain ⟨g, cap', hv⟩ := Joins.ownsRow_form hO.out (by omega)
        simp only [Value.slice.injEq] at hv
        exact ⟨g, hv.1⟩
      have hyl : ys.length = n * 2 := hO.out.1
      have hc := hO.out.cellAt (k * 2) (by omega)
      have hc1 := hO.out.cellAt (k * 2 + 1) (by omega)
      rw [List.getElem?_eq_getElem (by omega)] at hc hc1
      obtain ⟨y, hy⟩ : ∃ y, ys[k * 2] = y := ⟨_, rfl⟩
      obtain ⟨z, hz⟩ : ∃ z, ys[k * 2 + 1] = z := ⟨_, rfl⟩
      rw [hy] at hc; rw [hz] at hc1
      clear hy hyl hz
      have hf := hO.out.frozenAt (k * 2)
      have hf1 := hO.out.frozenAt (k * 2 + 1)
      have O2 := Lib.hid (((hO.out.stored (k * 2) (.int .i64 (-9))).1.stored (k * 2 + 1) (.string ⟨#[]⟩)).1)
      have B2 := Lib.hid ((hBw.out.setCell (p := ⟨g, k * 2, none⟩) (hO.out.lt g rfl).1 (.int .i64 (-9))).setCell (p := ⟨g, k * 2 + 1, none⟩) (hO.out.lt g rfl).1 (.string ⟨#[]⟩))
      have G2 := Lib.hid (grown_set (grown_set hGr.out (k * 2) (.int .i64 (-9))) (k * 2 + 1) (.string ⟨#[]⟩))
      clear hO hBw hGr
      go_wp2_with fail
      go_roundw
      case rel => exact ⟨k + 1, _, by omega, by go_num, O2, B2, G2⟩
      case measure => simp [intOf]; omega
    · have hs := hBw.out.size
      go_wp2_with (at_builtin; refine wpList_append_own _ rfl (.tmp 13) (.tmp 15) 28 rfl B 37 i0 _ 2 24 Try.underlying28 hi hz0 hz1 hz2 rfl (by decide) _ n _ rfl (hO.out.alloc _) _ 1 1 [.int .i64 (-9), .string ⟨#[]⟩] rfl rfl (two_new _ _ _ _ _ _ rfl) (two_one _ _) (by unfold maxLen; omega) (by omega) (by simp; omega) ?_; intro v3 w3 hown3 hg3 hn3)
      go_end0
      have hsz := hGr.out.size
      refine ⟨rfl, hBw.out.trans (((Below.refl _ _).alloc (by omega) _).grown hg3 (by simp; omega) fun k hk => (hO.out.lt k hk).1), ⟨hg3.os.trans hGr.out.os, hg3.tape.trans hGr.out.tape, hg3.output.trans hGr.out.output, ?_, fun b hb hne => ?_⟩⟩
      · have := hg3.size; simp at this; omega
      · rw [hg3.block b (by simp; omega) hne, Below.heap_alloc _ _ _ (by omega)]
        exact hGr.out.block b hb hne
end Go.Proofs.Ytioegheehodndaa
