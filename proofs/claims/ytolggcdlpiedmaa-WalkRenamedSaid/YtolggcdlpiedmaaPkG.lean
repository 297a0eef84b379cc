/- texts joined -/
import Derived.Test.YtolggcdlpiedmaaPkF
import Derived.Test.YtolggcdlpiedmaaPkB
/- rows in memory: preliminaries -/
namespace Go.Proofs.Ytolggcdlpiedmaa
open Go.RowKit
set_option linter.unusedVariables false
set_option maxRecDepth 20000
theorem holdsI_lt {k : IntKind} {w : World} {a : Option Addr} {n : Nat} {zs : List Int} (h : HoldsI k w a n zs) : ∀ b o, 0 < n → a = some ⟨b, o, none⟩ → b < w.heap.size := by
  intro b o h0 ha
  obtain ⟨b2, o2, hb, hc⟩ := h.2 h0
  rw [ha] at hb
  injection hb with hb
  injection hb with hb1 hb2
  subst hb1
  have := hc 0 h0
  exact lt_of_cell this
/-- A row of distances that the call made. -/
def RetRow (w : World) (ra rb : List Int) (j : Nat) (g : Nat) (c : Nat) (w' : World) : Prop :=
  w'.ownsRow w.heap.size 3 1 (.slice (some ⟨g, 0, none⟩) (ra.length + 1) c) (ra.length + 1) (intsV (Ed.row ra rb j)) ∧ Below w.heap.size w w'
end Go.Proofs.Ytolggcdlpiedmaa
/- contract of edit.Distance -/
namespace Go.Proofs.Ytolggcdlpiedmaa
open Go.RowKit
set_option linter.unusedVariables false
set_option maxRecDepth 20000
/-- the distance of two strings, or -1 -/
def distS (a b : ByteArray) : Int := if 0 ≤ lenS a ∧ 0 ≤ lenS b then Ed.L (intsN (runesS a)) (intsN (runesS b)) (runesS a).length (runesS b).length else -1
theorem intsN_length (P : List Nat) : (intsN P).length = P.length := by simp [intsN]
theorem intsN_at {s : ByteArray} {P Q : List Nat} {r : Nat} (h : runesS s = P ++ r :: Q) : (intsN (runesS s)).getD P.length 0 = (r : Int) := by
  rw [h]; simp [intsN, List.getD_eq_getElem?_getD]
end Go.Proofs.Ytolggcdlpiedmaa
/- contracts of edit.Rows and edit.Runes -/
namespace Go.Proofs.Ytolggcdlpiedmaa
open Go.RowKit
set_option linter.unusedVariables false
set_option maxRecDepth 20000
set_option maxHeartbeats 800000 in
theorem rows_any (ra rb : List Int) (a b : Option Addr) (ca cb : Nat) (w : World) (ha : HoldsI .i32 w a ra.length ra) (hb : HoldsI .i32 w b rb.length rb) (hla : ra.length ≤ 1048576) (hlb : rb.length ≤ 1048576) :
    Calls Try.prog 111 #[.slice a ra.length ca, .slice b rb.length cb] w fun e w' => e = .returned (.slice (some ⟨w.heap.size, 0, none⟩) (ra.length + 1) (ra.length + 1)) ∧ RetRow w ra rb rb.length w.heap.size (ra.length + 1) w' := by
  obtain ⟨m, hm⟩ : ∃ m, ra.length = m := ⟨_, rfl⟩
  obtain ⟨n, hn⟩ : ∃ n, rb.length = n := ⟨_, rfl⟩
  unfold RetRow
  rw [hm] at ha hla ⊢; rw [hn] at hb hlb ⊢
  have HM := Lib.hid hm; have HN := Lib.hid hn; have HA := Lib.hid ha; have HB := Lib.hid hb
  clear hm hn ha hb
  go_enter Try.func111, Try.ntmps111
  go_wp2_with fail
  refine (first_any m _ (by omega)).mono ?_
  rintro e w1 ⟨rfl, hown, hb1⟩
  have B1 := Lib.hid hb1
  have hown : w1.ownsRow w.heap.size 3 1 (.slice (some ⟨w.heap.size, 0, none⟩) (m + 1) (m + 1)) (m + 1) (intsV (Ed.row ra rb 0)) := by
    rw [← upTo_row, HM.out]; exact hown
  have O1 := Lib.hid hown
  clear hb1 hown
  go_wp2_with fail
  go_loopw [13] (fun i wr => ∃ k : Nat, k ≤ n ∧ i = .int .i64 k ∧ Hid (wr.ownsRow w.heap.size 3 1 (.slice (some ⟨w.heap.size, 0, none⟩) (m + 1) (m + 1)) (m + 1) (intsV (Ed.row ra rb k))) ∧ Hid (Below w.heap.size w wr)) (fun i _ => n - (intOf i).toNat)
  case atStart => exact ⟨0, by omega, rfl, O1, B1⟩
  case round =>
    obtain ⟨k, hk, rfl, hO, hBw⟩ := hrel
    by_cases hlt : k < n
    · obtain ⟨bb, ob, rfl, hcb⟩ := (HB.out.below hBw.out).at (by omega)
      have e1 := hcb k hlt
      clear hcb
      have hadv := fun R r c => advance_any w.heap.size w.heap.size (m + 1) m R ra a c r
      obtain ⟨r, hr⟩ : ∃ r, rb.getD k 0 = r := ⟨_, rfl⟩
      rw [hr] at e1
      have HR := Lib.hid hr
      clear hr hadv
      go_wp2_with fail
      refine (advance_any w.heap.size w.heap.size (m + 1) m (Ed.row ra rb k) ra a _ r _ hO.out (HA.out.below hBw.out) (fun b o h0 ha => ?_) (fun i => ?_) (by omega)).mono ?_
      · have := holdsI_lt HA.out b o h0 ha; omega
      · have := Ed.row_bd ra rb k i; have := HM.out; omega
      rintro e w2 ⟨rfl, hown2, hgr2⟩
      have hown2 : w2.ownsRow w.heap.size 3 1 (.slice (some ⟨w.heap.size, 0, none⟩) (m + 1) (m + 1)) (m + 1) (intsV (Ed.row ra rb (k + 1))) := by
        rw [← Ed.mix_all, HR.out, HM.out]; exact hown2
      have O2 := Lib.hid hown2
      have B2 := Lib.hid (hBw.out.grown hgr2 hBw.out.size (by intro q hq; injection hq with hq; omega))
      clear hown2 hgr2
      go_wp2_with fail
      go_roundw
      case rel => exact ⟨k + 1, by omega, by go_num, O2, B2⟩
      case measure => simp [intOf]; omega
    · obtain rfl : k = n := by omega
      go_wp2
      go_ret
      exact ⟨rfl, hO.out, hBw.out⟩
set_option maxHeartbeats 800000 in
theorem eruns_any (ra rb : List Int) (a b : Option Addr) (ca cb : Nat) (w : World) (ha : HoldsI .i32 w a ra.length ra) (hb : HoldsI .i32 w b rb.length rb) (hla : ra.length ≤ 1048576) (hlb : rb.length ≤ 1048576) :
    Calls Try.prog 86 #[.slice a ra.length ca, .slice b rb.length cb] w fun e w' => e = .returned (.int .i64 (Ed.L ra rb ra.length rb.length)) ∧ Below w.heap.size w w' := by
  have HA := Lib.hid ha; have HB := Lib.hid hb
  have hrow := Ed.row_getD ra rb rb.length ra.length (Nat.le_refl _)
  have hrl := Ed.row_length ra rb rb.length
  obtain ⟨m, hm⟩ : ∃ m, ra.length = m := ⟨_, rfl⟩
  obtain ⟨n, hn⟩ : ∃ n, rb.length = n := ⟨_, rfl⟩
  have hrows := rows_any ra rb a b ca cb w ha hb hla hlb
  unfold RetRow at hrows
  rw [hm] at hla hrow hrl hrows ⊢; rw [hn] at hlb hrow hrl hrows ⊢
  have HROWS := Lib.hid hrows; have HROW := Lib.hid hrow; have HRL := Lib.hid hrl
  clear ha hb hm hn hrows hrow hrl
  go_enter Try.func86, Try.ntmps86
  go_wp2_with fail
  refine HROWS.out.mono ?_
  rintro e w1 ⟨rfl, hown, hb1⟩
  have hc := hown.cellAt m (by omega)
  rw [intsV_at _ m (by rw [HRL.out]; omega), HROW.out] at hc
  have B1 := Lib.hid hb1
  clear hown hb1
  go_wp2
  go_ret
  exact ⟨rfl, B1.out⟩
end Go.Proofs.Ytolggcdlpiedmaa
