/- contract of edit.Distance -/
import Derived.Test.YtioegheehodndaaEd30
namespace Go.Proofs.Ytioegheehodndaa
open Go.RowKit
set_option linter.unusedVariables false
set_option maxRecDepth 20000
/-- the distance of two strings, or -1 -/
def distS (a b : ByteArray) : Int := if 0 ≤ lenS a ∧ 0 ≤ lenS b then Ed.L (intsN (runesS a)) (intsN (runesS b)) (runesS a).length (runesS b).length else -1
theorem intsN_length (P : List Nat) : (intsN P).length = P.length := by simp [intsN]
theorem intsN_at {s : ByteArray} {P Q : List Nat} {r : Nat} (h : runesS s = P ++ r :: Q) : (intsN (runesS s)).getD P.length 0 = (r : Int) := by
  rw [h]; simp [intsN, List.getD_eq_getElem?_getD]
set_option maxHeartbeats 1600000 in
theorem distance_good (a b : ByteArray) (w : World) (hsa : a.size ≤ 1048576) (hsb : b.size ≤ 1048576) (hga : 0 ≤ lenS a) (hgb : 0 ≤ lenS b) :
    Calls Try.prog 31 #[.string a, .string b] w fun e w' => e = .returned (.int .i64 (distS a b)) ∧ Below w.heap.size w w' := by
  have hgb2 : ¬ lenS b < 0 := by omega
  have hd : distS a b = Ed.L (intsN (runesS a)) (intsN (runesS b)) (runesS a).length (runesS b).length := by unfold distS; rw [if_pos ⟨hga, hgb⟩]
  have hle := runesS_le a
  have hleb := runesS_le b
  have hl1 := intsN_length (runesS a)
  have hl2 := intsN_length (runesS b)
  have hrow := Ed.row_getD (intsN (runesS a)) (intsN (runesS b)) (runesS b).length (runesS a).length (by omega)
  have hrl := Ed.row_length (intsN (runesS a)) (intsN (runesS b))
  have hbd := Ed.row_bd (intsN (runesS a)) (intsN (runesS b))
  have hruns := runes_good a w hsa hga
  obtain ⟨m, hm⟩ : ∃ m, (runesS a).length = m := ⟨_, rfl⟩
  obtain ⟨ra, hra⟩ : ∃ ra, intsN (runesS a) = ra := ⟨_, rfl⟩
  obtain ⟨rb, hrb⟩ : ∃ rb, intsN (runesS b) = rb := ⟨_, rfl⟩
  obtain ⟨lb, hlb⟩ : ∃ lb, lenS b = lb := ⟨_, rfl⟩
  rw [hd]
  rw [hm] at hle hl1 hrow hruns ⊢
  rw [hra] at hl1 hrow hrl hbd hruns ⊢
  rw [hrb] at hl2 hrow hrl hbd ⊢
  rw [hlb] at hgb2
  rw [hl1] at hrl hbd
  have HRUNS := Lib.hid hruns; have HROW := Lib.hid hrow; have HRL := Lib.hid hrl; have HBD := Lib.hid hbd; have HL1 := Lib.hid hl1; have HL2 := Lib.hid hl2; have HRB := Lib.hid hrb; have HLE := Lib.hid hle; have HLEB := Lib.hid hleb; have HLB := Lib.hid hlb
  have hdec : (decide (lb < 0)) = false := by simpa using hgb2
  clear hruns hrow hrl hbd hl1 hl2 hra hrb hm hleb hd hga hgb hlb
  go_enter Try.func31, Try.ntmps31
  go_wp2_with fail
  refine HRUNS.out.mono ?_
  rintro e w1 ⟨aa, ca, rfl, hret⟩
  have hA : HoldsI .i32 w1 aa m ra := by have h1 := hret.holds; rw [HL1.out] at h1; exact h1
  have HA := Lib.hid hA
  have B1 := Lib.hid hret.2.1
  clear hA hret
  go_wp2_with fail
  refine (len_any b _ (by omega)).mono ?_
  rintro e w2 ⟨rfl, hb2⟩
  rw [HLB.out]
  have B2 := Lib.hid hb2
  clear hb2
  go_wp2_with fail
  refine (first_any m _ (by omega)).mono ?_
  rintro e w3 ⟨rfl, hown3, hb3⟩
  have hown3 : w3.ownsRow w2.heap.size 3 1 (.slice (some ⟨w2.heap.size, 0, none⟩) (m + 1) (m + 1)) (m + 1) (intsV (Ed.row ra rb 0)) := by
    rw [← upTo_row, HL1.out]; exact hown3
  have hlt3 := (hown3.lt w2.heap.size rfl).2
  have O3 := Lib.hid hown3
  have B3 := Lib.hid (B2.out.trans (hb3.mono B2.out.size))
  have s2 := B2.out.size; have s1 := B1.out.size; have s3 := B3.out.size
  clear hown3 hb3
  go_wp2_with fail
  go_loopw [9] (fun v wr => ∃ (pos f : Nat) (P : List Nat), b.size ≤ pos + f ∧ Hid (runesS b = P ++ runesN b f pos) ∧
      Hid (wr.ownsRow w2.heap.size 3 1 (.slice (some ⟨w2.heap.size, 0, none⟩) (m + 1) (m + 1)) (m + 1) (intsV (Ed.row ra rb P.length))) ∧ Hid (wr.heap[w3.heap.size]? = some (.stringIter b pos)) ∧ Hid (Below w1.heap.size w1 wr)) (fun _ wr => b.size - wr.iterPos w3.heap.size)
  case atStart => exact ⟨0, b.size, [], by omega, Lib.hid rfl, Lib.hid (owns_below O3.out (below_one _ _)), Lib.hid (World.iter_heap w3 b 0), Lib.hid (B3.out.trans ((below_one w3 _).mono B3.out.size))⟩
  case round =>
    obtain ⟨pos, f, P, hf, hP, hO, hIt, hB⟩ := hrel
    by_cases hlt : pos < b.size
    · have hnx := fun ty => Lib.run_next_any_at (P := Try.prog) wr w3.heap.size b pos ty hIt.out hlt
      obtain ⟨g, rfl, hst, hg⟩ := runesN_step b f pos hlt hf
      have hwd := decode_width b pos hlt
      have hPn : P.length + 1 ≤ b.size := by
        have h1 := congrArg List.length hP.out
        have h2 := HLEB.out
        rw [hst, List.length_append, List.length_cons] at h1
        omega
      have HST := Lib.hid hst
      obtain ⟨r, hr⟩ : ∃ r, (Utf8.decode b pos).1 = r := ⟨_, rfl⟩
      obtain ⟨wd, hwd2⟩ : ∃ wd, (Utf8.decode b pos).2 = wd := ⟨_, rfl⟩
      rw [hr, hwd2] at hnx HST; rw [hwd2] at hg hwd
      clear hst hr hwd2
      have hat := intsN_at (by rw [hP.out, HST.out] : runesS b = P ++ r :: _)
      rw [HRB.out] at hat
      have OI := Lib.hid (owns_iterAt hO.out hIt.out (pos + wd))
      have BI := Lib.hid (Lib.below_iterAt hB.out (show w1.heap.size ≤ w3.heap.size by omega) b (pos + wd))
      have II := Lib.hid (Lib.iterAt_heap wr _ b pos (pos + wd) hIt.out)
      have HAT := Lib.hid hat
      clear hat
      go_wp2_with fail
      refine (advance_any w2.heap.size w2.heap.size (m + 1) m (Ed.row ra rb P.length) ra aa _ (r : Int) _ OI.out (HA.out.below BI.out) (fun x o h0 hx => ?_) (fun i => ?_) (by omega)).mono ?_
      · have := holdsI_lt HA.out x o h0 hx; omega
      · have := HBD.out P.length i; omega
      rintro e w4 ⟨rfl, hown4, hgr4⟩
      have hown4 : w4.ownsRow w2.heap.size 3 1 (.slice (some ⟨w2.heap.size, 0, none⟩) (m + 1) (m + 1)) (m + 1) (intsV (Ed.row ra rb (P.length + 1))) := by
        rw [← Ed.mix_all, HAT.out, HL1.out]; exact hown4
      have O4 := Lib.hid hown4
      have hIt4 : w4.heap[w3.heap.size]? = some (.stringIter b (pos + wd)) := by
        have hl := (Array.getElem?_eq_some_iff.1 II.out).1
        rw [hgr4.block w3.heap.size hl (by intro e; injection e with e; omega)]
        exact II.out
      have I4 := Lib.hid hIt4
      have B4 := Lib.hid (BI.out.grown hgr4 BI.out.size (by intro q hq; injection hq with hq; omega))
      clear hown4 hgr4 hIt4
      go_wp2_with fail
      go_roundw
      case rel => exact ⟨pos + wd, g, P ++ [r], hg, Lib.hid (by rw [hP.out, HST.out]; simp), Lib.hid (by rw [List.length_append]; exact O4.out), I4, B4⟩
      case measure =>
        have h1 : w4.iterPos w3.heap.size = pos + wd := by simp [World.iterPos, I4.out]
        have h2 : wr.iterPos w3.heap.size = pos := by simp [World.iterPos, hIt.out]
        rw [h1, h2]; omega
    · have hnx := fun ty => Lib.run_next_end_at (P := Try.prog) wr w3.heap.size b pos ty hIt.out hlt
      have he : runesS b = P := by rw [hP.out, runesN_end b f pos hlt, List.append_nil]
      have hpl : P.length = (runesS b).length := by rw [he]
      have hc := hO.out.cellAt m (by omega)
      rw [intsV_at _ m (by rw [HRL.out]; omega), hpl, HROW.out] at hc
      have HC := Lib.hid (hB.out)
      have hfin : Below w.heap.size w wr := B1.out.trans (hB.out.mono B1.out.size)
      have HF := Lib.hid hfin
      clear he hpl hfin HC
      go_wp2
      go_ret
      exact ⟨rfl, HF.out⟩
theorem distance_any (a b : ByteArray) (w : World) (hsa : a.size ≤ 1048576) (hsb : b.size ≤ 1048576) :
    Calls Try.prog 31 #[.string a, .string b] w fun e w' => e = .returned (.int .i64 (distS a b)) ∧ Below w.heap.size w w' := by
  by_cases hga : 0 ≤ lenS a
  · by_cases hgb : 0 ≤ lenS b
    · exact distance_good a b w hsa hsb hga hgb
    · have hd : distS a b = -1 := by unfold distS; rw [if_neg (by omega)]
      have hruns := runes_good a w hsa hga
      have hgb2 : lenS b < 0 := by omega
      obtain ⟨m, hm⟩ : ∃ m, (runesS a).length = m := ⟨_, rfl⟩
      obtain ⟨lb, hlb⟩ : ∃ lb, lenS b = lb := ⟨_, rfl⟩
      rw [hd]
      rw [hm] at hruns
      rw [hlb] at hgb2
      have hdec : (decide (lb < 0)) = true := by simpa using hgb2
      have HRUNS := Lib.hid hruns; have HLB := Lib.hid hlb
      clear hruns hlb hm hd hga hgb
      go_enter Try.func31, Try.ntmps31
      go_wp2_with fail
      refine HRUNS.out.mono ?_
      rintro e w1 ⟨aa, ca, rfl, hret⟩
      have B1 := Lib.hid hret.2.1
      clear hret
      go_wp2_with fail
      refine (len_any b _ (by omega)).mono ?_
      rintro e w2 ⟨rfl, hb2⟩
      rw [HLB.out]
      have B2 := Lib.hid (B1.out.trans (hb2.mono B1.out.size))
      clear hb2
      go_wp2
      go_ret
      exact ⟨rfl, B2.out⟩
  · have hd : distS a b = -1 := by unfold distS; rw [if_neg (by omega)]
    have hruns := runes_bad a w hsa (by omega)
    rw [hd]
    have HRUNS := Lib.hid hruns
    clear hruns hd hga
    go_enter Try.func31, Try.ntmps31
    go_wp2_with fail
    refine HRUNS.out.mono ?_
    rintro e w1 ⟨rfl, hb1⟩
    go_wp2
    go_ret
    exact ⟨rfl, hb1⟩
end Go.Proofs.Ytioegheehodndaa
