/- texts joined -/
import Derived.Test.YtmpkmgkafhlpjaaPkA
import Derived.Deep.DeepCutAuto
import Derived.Deep.CutRange
import Derived.Deep.CutBlock
import Derived.Deep.QuietTactic
import Derived.BigQuiet
import Derived.Laws.OwnMore
import Derived.Lib.SliceRun
import Derived.WalkLawsBesides
import Derived.WalkSpells
import Derived.Outline
import Derived.Deep.RegionHeld3
import Derived.SliceStrings
import Derived.Test.YtmpkmgkafhlpjaaChecked
import Derived.OpenShut
import Derived.Lib.SmallJoins
/- contract of text.Runes -/
namespace Go.Proofs.Ytmpkmgkafhlpjaa
open Go.RowKit
set_option linter.unusedVariables false
set_option maxRecDepth 20000
set_option maxHeartbeats 800000 in
theorem runes_good (s : ByteArray) (w : World) (hs : s.size ≤ 1048576) (hg : 0 ≤ lenS s) :
    Calls Try.prog 36 #[.string s] w fun e w' => ∃ a c, e = .returned (.tuple #[.slice a (runesS s).length c, .bool true]) ∧ RetR 21 w (intsN (runesS s)) a c w' := by
  obtain ⟨i0, hi, hz0, hz1, hz2⟩ := info_parts i32_info
  obtain ⟨hgood, hlen⟩ := lenS_pos hg
  have hle := runesS_le s
  obtain ⟨n, hn⟩ : ∃ n, (runesS s).length = n := ⟨_, rfl⟩
  rw [hn] at hlen hle ⊢
  have HN := Lib.hid hn; have HLEN := Lib.hid hlen; have HGD := Lib.hid hgood
  clear hn hlen hgood hg
  go_enter Try.func36, Try.ntmps36
  go_wp2_with fail
  refine (len_any s _ (by omega)).mono ?_
  rintro e w1 ⟨rfl, hb1⟩
  rw [HLEN.out]
  have B1 := Lib.hid hb1
  clear hb1
  go_wp2_with (at_make; refine wpList_make_own _ rfl _ _ 52 rfl w.heap.size 21 i0 (.int .i32 0) 1 Try.underlying52 hi hz0 hz1 _ _ _ n rfl rfl (by omega) (by rw [hz2]; omega) (by unfold maxLen; omega) B1.out.size ?_; intro w2 hown2 hgrow2)
  have B2 := Lib.hid (B1.out.trans ((below_grown hgrow2 (by intro k hk; cases hk)).mono B1.out.size))
  have s1 := B1.out.size
  have hlt2 := (hown2.lt w1.heap.size rfl).2
  have O2 := Lib.hid hown2
  clear hown2 hgrow2
  go_loopw [5] (fun v wr => ∃ (pos f : Nat) (P : List Nat), s.size ≤ pos + f ∧ v = .slice (some ⟨w1.heap.size, 0, none⟩) P.length n ∧ Hid (runesS s = P ++ runesN s f pos) ∧
      Hid (wr.ownsRow w.heap.size 21 1 (.slice (some ⟨w1.heap.size, 0, none⟩) P.length n) P.length (runesV (intsN P))) ∧ Hid (wr.heap[w2.heap.size]? = some (.stringIter s pos)) ∧ Hid (Below w.heap.size w wr)) (fun _ wr => s.size - wr.iterPos w2.heap.size)
  case atStart => exact ⟨0, s.size, [], by omega, rfl, Lib.hid rfl, Lib.hid (owns_below O2.out (below_one _ _)), Lib.hid (World.iter_heap w2 s 0), Lib.hid (B2.out.trans ((below_one w2 _).mono B2.out.size))⟩
  case round =>
    obtain ⟨pos, f, P, hf, rfl, hP, hO, hIt, hB⟩ := hrel
    by_cases hlt : pos < s.size
    · have hnx := fun ty => Lib.run_next_any_at (P := Try.prog) wr w2.heap.size s pos ty hIt.out hlt
      obtain ⟨g, rfl, hst, hg⟩ := runesN_step s f pos hlt hf
      have hwd := decode_width s pos hlt
      have hPn : P.length + 1 ≤ n := by
        have h1 := congrArg List.length hP.out
        rw [hst, List.length_append, List.length_cons, HN.out] at h1
        omega
      have HST := Lib.hid hst
      obtain ⟨r, hr⟩ : ∃ r, (Utf8.decode s pos).1 = r := ⟨_, rfl⟩
      obtain ⟨wd, hwd2⟩ : ∃ wd, (Utf8.decode s pos).2 = wd := ⟨_, rfl⟩
      rw [hr, hwd2] at hnx HST; rw [hwd2] at hg hwd
      clear hst hr hwd2
      have hOi := owns_iterAt hO.out hIt.out (pos + wd)
      have OI := Lib.hid hOi
      clear hOi
      go_wp2_with (at_builtin; refine wpList_append_fits _ rfl (.tmp 19) (.tmp 21) 52 rfl w.heap.size 21 i0 1 Try.underlying52 hi hz1 w1.heap.size P.length n _ rfl (OI.out.alloc _) _ 1 1 _ rfl rfl (one_cells _ _ _ _) (one_int _ _) (by omega) ?_; intro w4 hown4 hgrow4)
      have hIt4 : w4.heap[w2.heap.size]? = some (.stringIter s (pos + wd)) := by
        have hl := (Array.getElem?_eq_some_iff.1 hIt.out).1
        rw [hgrow4.block w2.heap.size (by simp [World.iterAt]; omega) (by intro e; injection e with e; omega)]
        rw [Below.heap_alloc _ _ _ (by simpa [World.iterAt] using hl)]
        exact Lib.iterAt_heap wr _ s pos (pos + wd) hIt.out
      have hb4 : Below w.heap.size w w4 := by
        have h1 := Lib.below_iterAt hB.out (show w.heap.size ≤ w2.heap.size from B2.out.size) s (pos + wd)
        exact (h1.alloc h1.size _).grown hgrow4 (by have := h1.size; simp; omega) (by intro k hk; injection hk with hk; omega)
      go_roundw
      case rel => exact ⟨pos + wd, g, P ++ [r], hg, by rw [List.length_append]; rfl, Lib.hid (by rw [hP.out, HST.out]; simp), Lib.hid (by rw [List.length_append, runesV_snoc]; exact hown4), Lib.hid hIt4, Lib.hid hb4⟩
      case measure =>
        have h1 : w4.iterPos w2.heap.size = pos + wd := by simp [World.iterPos, hIt4]
        have h2 : wr.iterPos w2.heap.size = pos := by simp [World.iterPos, hIt.out]
        rw [h1, h2]; omega
    · have hnx := fun ty => Lib.run_next_end_at (P := Try.prog) wr w2.heap.size s pos ty hIt.out hlt
      have he : runesS s = P := by rw [hP.out, runesN_end s f pos hlt, List.append_nil]
      have hpl : P.length = n := by rw [← he]; exact HN.out
      have HE := Lib.hid he; have HPL := Lib.hid hpl
      clear he hpl
      go_wp2
      go_ret2
      have hl2 : (intsN (runesS s)).length = P.length := by rw [HE.out]; simp [intsN]
      refine ⟨some ⟨w1.heap.size, 0, none⟩, n, by rw [HPL.out]; rfl, ?_, hB.out, fun h => by cases h⟩
      rw [hl2, HE.out]; exact hO.out
theorem runes_bad (s : ByteArray) (w : World) (hs : s.size ≤ 1048576) (hg : lenS s < 0) :
    Calls Try.prog 36 #[.string s] w fun e w' => e = .returned (.tuple #[.slice none 0 0, .bool false]) ∧ Below w.heap.size w w' := by
  go_enter Try.func36, Try.ntmps36
  go_wp2_with fail
  refine (len_any s _ (by omega)).mono ?_
  rintro e w1 ⟨rfl, hb1⟩
  go_wp2_with fail
  go_ret2
  exact ⟨rfl, hb1⟩
end Go.Proofs.Ytmpkmgkafhlpjaa
/- rows in memory: preliminaries -/
namespace Go.Proofs.Ytmpkmgkafhlpjaa
open Go.RowKit
set_option linter.unusedVariables false
set_option maxRecDepth 20000
theorem holdsI_lt {k : IntKind} {w : World} {a : Option Addr} {n : Nat} {zs : List Int} (h : HoldsI k w a n zs) : ∀ b o, 0 < n → a = some ⟨b, o, none⟩ → b < w.heap.size := by
  intro b o h0 ha
  obtain ⟨b2, o2, hb, hc⟩ := h.2 h0
  rw [ha] at hb
  injection hb with hb
  injection hb with hb1 hb2
  subst hb1
  have := hc 0 h0
  exact lt_of_cell this
/-- A row of distances that the call made. -/
def RetRow (w : World) (ra rb : List Int) (j : Nat) (g : Nat) (c : Nat) (w' : World) : Prop :=
  w'.ownsRow w.heap.size 3 1 (.slice (some ⟨g, 0, none⟩) (ra.length + 1) c) (ra.length + 1) (intsV (Ed.row ra rb j)) ∧ Below w.heap.size w w'
end Go.Proofs.Ytmpkmgkafhlpjaa
/- contract of edit.Distance -/
namespace Go.Proofs.Ytmpkmgkafhlpjaa
open Go.RowKit
set_option linter.unusedVariables false
set_option maxRecDepth 20000
/-- the distance of two strings, or -1 -/
def distS (a b : ByteArray) : Int := if 0 ≤ lenS a ∧ 0 ≤ lenS b then Ed.L (intsN (runesS a)) (intsN (runesS b)) (runesS a).length (runesS b).length else -1
theorem intsN_length (P : List Nat) : (intsN P).length = P.length := by simp [intsN]
theorem intsN_at {s : ByteArray} {P Q : List Nat} {r : Nat} (h : runesS s = P ++ r :: Q) : (intsN (runesS s)).getD P.length 0 = (r : Int) := by
  rw [h]; simp [intsN, List.getD_eq_getElem?_getD]
end Go.Proofs.Ytmpkmgkafhlpjaa
/- contracts of edit.Rows and edit.Runes -/
namespace Go.Proofs.Ytmpkmgkafhlpjaa
open Go.RowKit
set_option linter.unusedVariables false
set_option maxRecDepth 20000
set_option maxHeartbeats 800000 in
theorem rows_any (ra rb : List Int) (a b : Option Addr) (ca cb : Nat) (w : World) (ha : HoldsI .i32 w a ra.length ra) (hb : HoldsI .i32 w b rb.length rb) (hla : ra.length ≤ 1048576) (hlb : rb.length ≤ 1048576) :
    Calls Try.prog 65 #[.slice a ra.length ca, .slice b rb.length cb] w fun e w' => e = .returned (.slice (some ⟨w.heap.size, 0, none⟩) (ra.length + 1) (ra.length + 1)) ∧ RetRow w ra rb rb.length w.heap.size (ra.length + 1) w' := by
  obtain ⟨m, hm⟩ : ∃ m, ra.length = m := ⟨_, rfl⟩
  obtain ⟨n, hn⟩ : ∃ n, rb.length = n := ⟨_, rfl⟩
  unfold RetRow
  rw [hm] at ha hla ⊢; rw [hn] at hb hlb ⊢
  have HM := Lib.hid hm; have HN := Lib.hid hn; have HA := Lib.hid ha; have HB := Lib.hid hb
  clear hm hn ha hb
  go_enter Try.func65, Try.ntmps65
  go_wp2_with fail
  refine (first_any m _ (by omega)).mono ?_
  rintro e w1 ⟨rfl, hown, hb1⟩
  have B1 := Lib.hid hb1
  have hown : w1.ownsRow w.heap.size 3 1 (.slice (some ⟨w.heap.size, 0, none⟩) (m + 1) (m + 1)) (m + 1) (intsV (Ed.row ra rb 0)) := by
    rw [← upTo_row, HM.out]; exact hown
  have O1 := Lib.hid hown
  clear hb1 hown
  go_wp2_with fail
  go_loopw [13] (fun i wr => ∃ k : Nat, k ≤ n ∧ i = .int .i64 k ∧ Hid (wr.ownsRow w.heap.size 3 1 (.slice (some ⟨w.heap.size, 0, none⟩) (m + 1) (m + 1)) (m + 1) (intsV (Ed.row ra rb k))) ∧ Hid (Below w.heap.size w wr)) (fun i _ => n - (intOf i).toNat)
  case atStart => exact ⟨0, by omega, rfl, O1, B1⟩
  case round =>
    obtain ⟨k, hk, rfl, hO, hBw⟩ := hrel
    by_cases hlt : k < n
    · obtain ⟨bb, ob, rfl, hcb⟩ := (HB.out.below hBw.out).at (by omega)
      have e1 := hcb k hlt
      clear hcb
      have hadv := fun R r c => advance_any w.heap.size w.heap.size (m + 1) m R ra a c r
      obtain ⟨r, hr⟩ : ∃ r, rb.getD k 0 = r := ⟨_, rfl⟩
      rw [hr] at e1
      have HR := Lib.hid hr
      clear hr hadv
      go_wp2_with fail
      refine (advance_any w.heap.size w.heap.size (m + 1) m (Ed.row ra rb k) ra a _ r _ hO.out (HA.out.below hBw.out) (fun b o h0 ha => ?_) (fun i => ?_) (by omega)).mono ?_
      · have := holdsI_lt HA.out b o h0 ha; omega
      · have := Ed.row_bd ra rb k i; have := HM.out; omega
      rintro e w2 ⟨rfl, hown2, hgr2⟩
      have hown2 : w2.ownsRow w.heap.size 3 1 (.slice (some ⟨w.heap.size, 0, none⟩) (m + 1) (m + 1)) (m + 1) (intsV (Ed.row ra rb (k + 1))) := by
        rw [← Ed.mix_all, HR.out, HM.out]; exact hown2
      have O2 := Lib.hid hown2
      have B2 := Lib.hid (hBw.out.grown hgr2 hBw.out.size (by intro q hq; injection hq with hq; omega))
      clear hown2 hgr2
      go_wp2_with fail
      go_roundw
      case rel => exact ⟨k + 1, by omega, by go_num, O2, B2⟩
      case measure => simp [intOf]; omega
    · obtain rfl : k = n := by omega
      go_wp2
      go_ret
      exact ⟨rfl, hO.out, hBw.out⟩
set_option maxHeartbeats 800000 in
theorem eruns_any (ra rb : List Int) (a b : Option Addr) (ca cb : Nat) (w : World) (ha : HoldsI .i32 w a ra.length ra) (hb : HoldsI .i32 w b rb.length rb) (hla : ra.length ≤ 1048576) (hlb : rb.length ≤ 1048576) :
    Calls Try.prog 47 #[.slice a ra.length ca, .slice b rb.length cb] w fun e w' => e = .returned (.int .i64 (Ed.L ra rb ra.length rb.length)) ∧ Below w.heap.size w w' := by
  have HA := Lib.hid ha; have HB := Lib.hid hb
  have hrow := Ed.row_getD ra rb rb.length ra.length (Nat.le_refl _)
  have hrl := Ed.row_length ra rb rb.length
  obtain ⟨m, hm⟩ : ∃ m, ra.length = m := ⟨_, rfl⟩
  obtain ⟨n, hn⟩ : ∃ n, rb.length = n := ⟨_, rfl⟩
  have hrows := rows_any ra rb a b ca cb w ha hb hla hlb
  unfold RetRow at hrows
  rw [hm] at hla hrow hrl hrows ⊢; rw [hn] at hlb hrow hrl hrows ⊢
  have HROWS := Lib.hid hrows; have HROW := Lib.hid hrow; have HRL := Lib.hid hrl
  clear ha hb hm hn hrows hrow hrl
  go_enter Try.func47, Try.ntmps47
  go_wp2_with fail
  refine HROWS.out.mono ?_
  rintro e w1 ⟨rfl, hown, hb1⟩
  have hc := hown.cellAt m (by omega)
  rw [intsV_at _ m (by rw [HRL.out]; omega), HROW.out] at hc
  have B1 := Lib.hid hb1
  clear hown hb1
  go_wp2
  go_ret
  exact ⟨rfl, B1.out⟩
end Go.Proofs.Ytmpkmgkafhlpjaa
/- what every program answers that is one: edit; how long lists are -/
namespace Go.Proofs.Ytmpkmgkafhlpjaa
open Go.RowKit
set_option linter.unusedVariables false
set_option maxRecDepth 20000
theorem holdsI_lit (k : IntKind) (w : World) (zs : List Int) (e : TypeId) (fr : Nat × Nat) : HoldsI k (w.alloc (.cells (zs.map (Value.int k)).toArray e fr)) (some ⟨w.heap.size, 0, none⟩) zs.length zs := by
  refine ⟨rfl, fun _ => ⟨_, _, rfl, fun i hi => ?_⟩⟩
  rw [World.cell?_alloc_mark, Nat.zero_add]
  simp [List.getD_eq_getElem?_getD, hi]
theorem holdsI_nil (k : IntKind) (w : World) (a : Option Addr) : HoldsI k w a 0 [] := ⟨rfl, fun h => absurd h (by decide)⟩
theorem own_holdsI {w : World} {base : Nat} {e : TypeId} {a : Option Addr} {n c : Nat} {zs : List Int} (h : w.ownsRow base e 1 (.slice a n c) n (intsV zs)) : HoldsI .i64 w a n zs := by
  have hv := owns_holds h
  have hl : zs.length = n := by have := h.1; simpa [intsV] using this
  refine ⟨hl, fun h0 => ?_⟩
  obtain ⟨b, o, ha, hc⟩ := hv.2 h0
  exact ⟨b, o, ha, fun i hi => by rw [hc i hi, intsV, getD_map_int .i64 zs i (by omega)]⟩
theorem dist_one : distS { data := #[97, 98, 99] } { data := #[97, 120, 99, 100] } = 2 := by
  have l1 : lenS { data := #[97, 98, 99] } = 3 := by decide +kernel
  have l2 : lenS { data := #[97, 120, 99, 100] } = 4 := by decide +kernel
  have r1 : intsN (runesS { data := #[97, 98, 99] }) = [97, 98, 99] := by decide +kernel
  have r2 : intsN (runesS { data := #[97, 120, 99, 100] }) = [97, 120, 99, 100] := by decide +kernel
  have n1 : (runesS { data := #[97, 98, 99] }).length = 3 := by decide +kernel
  have n2 : (runesS { data := #[97, 120, 99, 100] }).length = 4 := by decide +kernel
  unfold distS
  rw [l1, l2, r1, r2, n1, n2, if_pos (by decide)]
  have h0 : Ed.row [97, 98, 99] [97, 120, 99, 100] 0 = [0, 1, 2, 3] := by rw [← upTo_row]; decide
  have h1 : Ed.row [97, 98, 99] [97, 120, 99, 100] 1 = [1, 0, 1, 2] := by rw [← Ed.mix_all _ _ 0, h0]; decide
  have h2 : Ed.row [97, 98, 99] [97, 120, 99, 100] 2 = [2, 1, 1, 2] := by rw [← Ed.mix_all _ _ 1, h1]; decide
  have h3 : Ed.row [97, 98, 99] [97, 120, 99, 100] 3 = [3, 2, 2, 1] := by rw [← Ed.mix_all _ _ 2, h2]; decide
  have h4 : Ed.row [97, 98, 99] [97, 120, 99, 100] 4 = [4, 3, 3, 2] := by rw [← Ed.mix_all _ _ 3, h3]; decide
  rw [← Ed.row_getD _ _ 4 3 (by decide), h4]
  rfl
theorem dist_two : distS { data := #[97] } { data := #[255] } = -1 := by
  have l2 : lenS { data := #[255] } = -1 := by decide +kernel
  unfold distS
  rw [l2, if_neg (by omega)]
theorem row_three : Ed.row [97, 98] [98] 1 = [1, 1, 1] := by
  have h0 : Ed.row [97, 98] [98] 0 = [0, 1, 2] := by rw [← upTo_row]; decide
  rw [← Ed.mix_all _ _ 0, h0]; decide
theorem rows_lit (ra rb : List Int) (m n : Nat) (a b : Option Addr) (ca cb : Nat) (w : World) (hm : ra.length = m) (hn : rb.length = n) (ha : HoldsI .i32 w a m ra) (hb : HoldsI .i32 w b n rb) (hla : m ≤ 1048576) (hlb : n ≤ 1048576) :
    Calls Try.prog 65 #[.slice a m ca, .slice b n cb] w fun e w' => e = .returned (.slice (some ⟨w.heap.size, 0, none⟩) (m + 1) (m + 1)) ∧ w'.ownsRow w.heap.size 3 1 (.slice (some ⟨w.heap.size, 0, none⟩) (m + 1) (m + 1)) (m + 1) (intsV (Ed.row ra rb n)) ∧ Below w.heap.size w w' := by
  subst hm hn; exact rows_any ra rb a b ca cb w ha hb hla hlb
end Go.Proofs.Ytmpkmgkafhlpjaa
/- rows of edit distances: how they change, their beginnings; two cells kept -/
namespace Go.Proofs.Ytmpkmgkafhlpjaa
open Go.RowKit
set_option linter.unusedVariables false
set_option maxRecDepth 20000
theorem Ed.L_back (a b : List Int) (i : Nat) : ∀ j, Ed.L a b i j ≤ Ed.L a b (i + 1) j + 1 := by
  intro j
  induction j with
  | zero => rw [Ed.L_zero, Ed.L_zero]; omega
  | succ j ih =>
    have h1 := Ed.L_right a b i j; have h2 := Ed.cost_bd (a.getD i 0) (b.getD j 0)
    have h3 : Ed.L a b (i + 1) (j + 1) = min (min (Ed.L a b i j + Ed.cost (a.getD i 0) (b.getD j 0)) (Ed.L a b (i + 1) j + 1)) (Ed.L a b i (j + 1) + 1) := by simp only [Ed.L]
    omega
theorem getD_take_in (l : List Int) (k i : Nat) (h : i < k) : (l.take k).getD i 0 = l.getD i 0 := by
  simp [List.getD_eq_getElem?_getD, h]
theorem Ed.L_take (a b : List Int) (k : Nat) : ∀ i j, i ≤ k → Ed.L (a.take k) b i j = Ed.L a b i j := by
  intro i
  induction i with
  | zero => intro j _; simp only [Ed.L]
  | succ i ih =>
    intro j hi
    induction j with
    | zero => simp only [Ed.L]
    | succ j ihj => simp only [Ed.L]; rw [ih j (by omega), ih (j + 1) (by omega), ihj, getD_take_in a k i (by omega)]
theorem HoldsI.take {k : IntKind} {w : World} {a : Option Addr} {n : Nat} {zs : List Int} (h : HoldsI k w a n zs) (m : Nat) (hm : m ≤ n) : HoldsI k w a m (zs.take m) := by
  refine ⟨by have := h.1; simp; omega, fun h0 => ?_⟩
  obtain ⟨b, o, ha, hc⟩ := h.2 (by omega)
  exact ⟨b, o, ha, fun i hi => by rw [hc i (by omega), getD_take_in zs m i hi]⟩
/-- what lay in two cells lies there still -/
def Two (w1 : World) (g i j : Nat) (x y : Value) (w' : World) : Prop := Below w1.heap.size w1 w' ∧ w'.cell? ⟨g, i, none⟩ = some x ∧ w'.cell? ⟨g, j, none⟩ = some y
theorem two_carry {w1 : World} {g i j : Nat} {x y : Value} {w w' : World} (h : Two w1 g i j x y w) (hb : Below w.heap.size w w') : Two w1 g i j x y w' :=
  ⟨h.1.trans (hb.mono h.1.size), by rw [hb.cell (p := ⟨g, i, none⟩) (lt_of_cell h.2.1)]; exact h.2.1, by rw [hb.cell (p := ⟨g, j, none⟩) (lt_of_cell h.2.2)]; exact h.2.2⟩
theorem eruns_lit (ra rb : List Int) (m n : Nat) (a b : Option Addr) (ca cb : Nat) (w : World) (hm : ra.length = m) (hn : rb.length = n) (ha : HoldsI .i32 w a m ra) (hb : HoldsI .i32 w b n rb) (hla : m ≤ 1048576) (hlb : n ≤ 1048576) :
    Calls Try.prog 47 #[.slice a m ca, .slice b n cb] w fun e w' => e = .returned (.int .i64 (Ed.L ra rb m n)) ∧ Below w.heap.size w w' := by
  subst hm hn; exact eruns_any ra rb a b ca cb w ha hb hla hlb
end Go.Proofs.Ytmpkmgkafhlpjaa
/- a band of a table of distances: plain lemmas; a row in memory -/
namespace Go.Proofs.Ytmpkmgkafhlpjaa
open Go.RowKit
set_option linter.unusedVariables false
set_option maxRecDepth 20000
/-- what the band's cell x holds when i runes of a are done: the distance, k + 1 at most -/
structure Cell (a b : List Int) (k i x : Nat) (v : Int) : Prop where
  lo : 0 ≤ v
  hi : v ≤ (k : Int) + 1
  eq : ∀ j : Nat, (j : Int) = (i : Int) + x - k → j ≤ b.length → v = min (Ed.L a b i j) ((k : Int) + 1)
  far : i + x < k → v = (k : Int) + 1
theorem cell_start (a b : List Int) (k x : Nat) (h : x ≤ 2 * k) : Cell a b k 0 x (if k ≤ x then (x : Int) - k else (k : Int) + 1) := by
  refine ⟨by split <;> omega, by split <;> omega, fun j hj hl => ?_, fun hx => by rw [if_neg (by omega)]⟩
  rw [Ed.L_zeroL, if_pos (by omega)]; omega
theorem cell_out_low (a b : List Int) (k i x : Nat) (h : i + x < k) : Cell a b k i x ((k : Int) + 1) := ⟨by omega, by omega, fun j hj _ => by omega, fun _ => rfl⟩
theorem cell_out_high (a b : List Int) (k i x : Nat) (h : (b.length : Int) < (i : Int) + x - k) : Cell a b k i x ((k : Int) + 1) := ⟨by omega, by omega, fun j hj _ => by omega, fun _ => rfl⟩
/-- the cell at the left edge of the table -/
theorem cell_zero (a b : List Int) (k i x : Nat) (u v : Int) (hx : (i : Int) + 1 + x = k) (hu : x + 1 ≤ 2 * k → Cell a b k i (x + 1) u) (hv : v = min (min ((k : Int) + 1) (u + 1)) ((k : Int) + 1)) : Cell a b k (i + 1) x v := by
  have h1 := (hu (by omega)).eq 0 (by omega) (by omega)
  rw [Ed.L_zero] at h1
  refine ⟨by omega, by omega, fun j hj hl => ?_, fun h => by omega⟩
  obtain rfl : j = 0 := by omega
  rw [Ed.L_zero]; omega
/-- a cell within the table -/
theorem cell_in (a b : List Int) (k i x J : Nat) (o l u d2 d3 v : Int) (hJ : (J : Int) + 1 = (i : Int) + 1 + x - k) (hl : J + 1 ≤ b.length) (ho : Cell a b k i x o)
    (hd2 : (x = 0 ∧ d2 = o + Ed.cost (a.getD i 0) (b.getD J 0)) ∨ (∃ p, p + 1 = x ∧ Cell a b k (i + 1) p l ∧ d2 = min (o + Ed.cost (a.getD i 0) (b.getD J 0)) (l + 1)))
    (hd3 : (x = 2 * k ∧ d3 = d2) ∨ (x < 2 * k ∧ Cell a b k i (x + 1) u ∧ d3 = min d2 (u + 1)))
    (hv : v = min d3 ((k : Int) + 1)) : Cell a b k (i + 1) x v := by
  have h1 := ho.eq J (by omega) (by omega)
  have hc := Ed.cost_bd (a.getD i 0) (b.getD J 0)
  have hL : Ed.L a b (i + 1) (J + 1) = min (min (Ed.L a b i J + Ed.cost (a.getD i 0) (b.getD J 0)) (Ed.L a b (i + 1) J + 1)) (Ed.L a b i (J + 1) + 1) := by simp only [Ed.L]
  have b1 := Ed.L_low a b (i + 1) J
  have b2 := Ed.L_low a b i (J + 1)
  have b3 := Ed.L_bd a b i J
  have b4 := Ed.L_bd a b (i + 1) J
  have b5 := Ed.L_bd a b i (J + 1)
  have g1 := ho.lo
  have e2 : d2 = min (o + Ed.cost (a.getD i 0) (b.getD J 0)) (min (Ed.L a b (i + 1) J) ((k : Int) + 1) + 1) ∨ (d2 = o + Ed.cost (a.getD i 0) (b.getD J 0) ∧ (k : Int) + 1 ≤ Ed.L a b (i + 1) J) := by
    rcases hd2 with ⟨hx, h⟩ | ⟨p, hp, hcell, h⟩
    · exact Or.inr ⟨h, by omega⟩
    · have h2 := hcell.eq J (by omega) (by omega)
      exact Or.inl (by rw [h, h2])
  have e3 : d3 = min d2 (min (Ed.L a b i (J + 1)) ((k : Int) + 1) + 1) ∨ (d3 = d2 ∧ (k : Int) + 1 ≤ Ed.L a b i (J + 1)) := by
    rcases hd3 with ⟨hx, h⟩ | ⟨hx, hcell, h⟩
    · exact Or.inr ⟨h, by omega⟩
    · have h2 := hcell.eq (J + 1) (by omega) (by omega)
      exact Or.inl (by rw [h, h2])
  have hval : v = min (Ed.L a b (i + 1) (J + 1)) ((k : Int) + 1) := by
    rw [hL, hv]
    generalize Ed.L a b i J = A at *
    generalize Ed.L a b (i + 1) J = B at *
    generalize Ed.L a b i (J + 1) = C at *
    generalize Ed.cost (a.getD i 0) (b.getD J 0) = c at *
    clear hd2 hd3 ho hL
    rcases e2 with e2 | ⟨e2, f2⟩ <;> rcases e3 with e3 | ⟨e3, f3⟩ <;> omega
  have b6 := Ed.L_bd a b (i + 1) (J + 1)
  refine ⟨by omega, by omega, fun j hj hl2 => ?_, fun h => by omega⟩
  obtain rfl : j = J + 1 := by omega
  exact hval
/-- what a round of the band has to come to, told of the number that it begins with -/
def Comes (a b : List Int) (k i x : Nat) (d1 : Int) : Prop :=
  ∀ (l u d2 d3 v : Int), ((x = 0 ∧ d2 = d1) ∨ (∃ p, p + 1 = x ∧ Cell a b k (i + 1) p l ∧ d2 = min d1 (l + 1))) →
    ((x = 2 * k ∧ d3 = d2) ∨ (x < 2 * k ∧ Cell a b k i (x + 1) u ∧ d3 = min d2 (u + 1))) → v = min d3 ((k : Int) + 1) → Cell a b k (i + 1) x v
theorem comes_in (a b : List Int) (k i x J : Nat) (o : Int) (hJ : (J : Int) + 1 = (i : Int) + 1 + x - k) (hl : J + 1 ≤ b.length) (ho : Cell a b k i x o) : Comes a b k i x (o + Ed.cost (a.getD i 0) (b.getD J 0)) :=
  fun l u d2 d3 v h2 h3 hv => cell_in a b k i x J o l u d2 d3 v hJ hl ho h2 h3 hv
theorem comes_zero (a b : List Int) (k i x : Nat) (hx : (i : Int) + 1 + x = k) : Comes a b k i x ((k : Int) + 1) := by
  intro l u d2 d3 v h2 h3 hv
  have e2 : d2 = (k : Int) + 1 := by
    rcases h2 with ⟨_, h⟩ | ⟨p, hp, hc, h⟩
    · exact h
    · have := hc.far (by omega); omega
  rcases h3 with ⟨h, _⟩ | ⟨h, hc, h'⟩
  · omega
  · exact cell_zero a b k i x u v hx (fun _ => hc) (by rw [hv, h', e2])
/-- a row of numbers in memory, in a block of its own -/
structure RowIs (w : World) (g n : Nat) (f : Nat → Int) : Prop where
  c : ∀ j, j < n → w.cell? ⟨g, j, none⟩ = some (.int .i64 (f j))
  fr : ∀ j, w.frozen? ⟨g, j, none⟩ = false
def updI (f : Nat → Int) (i : Nat) (v : Int) : Nat → Int := fun j => if j = i then v else f j
theorem updI_at (f : Nat → Int) (i : Nat) (v : Int) : updI f i v i = v := by simp [updI]
theorem updI_ne (f : Nat → Int) (i j : Nat) (v : Int) (h : j ≠ i) : updI f i v j = f j := by simp [updI, h]
theorem setc_at {w : World} {b o : Nat} {u v : Value} (h : w.cell? ⟨b, o, none⟩ = some u) : (w.setCell ⟨b, o, none⟩ v).cell? ⟨b, o, none⟩ = some v := World.cell?_setCell_same _ _ _ h
theorem setc_ne {w : World} {b o p : Nat} {v : Value} (h : o ≠ p) : (w.setCell ⟨b, o, none⟩ v).cell? ⟨b, p, none⟩ = w.cell? ⟨b, p, none⟩ := World.cell?_setCell_other _ _ _ _ (by intro e; injection e; contradiction)
theorem RowIs.set {w : World} {g n : Nat} {f : Nat → Int} (h : RowIs w g n f) (i : Nat) (v : Int) (hi : i < n) : RowIs (w.setCell ⟨g, i, none⟩ (.int .i64 v)) g n (updI f i v) := by
  refine ⟨fun j hj => ?_, fun j => by rw [show (w.setCell ⟨g, i, none⟩ (.int .i64 v)).frozen? ⟨g, j, none⟩ = w.frozen? ⟨g, j, none⟩ by simp]; exact h.fr j⟩
  by_cases e : j = i
  · subst e; rw [updI_at]; exact setc_at (h.c j hj)
  · rw [updI_ne _ _ _ _ e, setc_ne (fun x => e x.symm)]; exact h.c j hj
theorem RowIs.lt {w : World} {g n : Nat} {f : Nat → Int} (h : RowIs w g n f) (hn : 0 < n) : g < w.heap.size := lt_of_cell (h.c 0 hn)
theorem RowIs.block {w w' : World} {g n : Nat} {f : Nat → Int} (h : RowIs w g n f) (hb : w'.heap[g]? = w.heap[g]?) : RowIs w' g n f :=
  ⟨fun j hj => by rw [World.cell?_of_block (w := w) hb]; exact h.c j hj, fun j => by rw [World.frozen?_of_block (w := w) hb]; exact h.fr j⟩
/-- apart from block b the world w' is as w was -/
structure But (b : Nat) (w w' : World) : Prop where
  os : w'.os = w.os
  tape : w'.tape = w.tape
  output : w'.output = w.output
  size : w.heap.size ≤ w'.heap.size
  block : ∀ k, k < w.heap.size → k ≠ b → w'.heap[k]? = w.heap[k]?
theorem But.refl (b : Nat) (w : World) : But b w w := ⟨rfl, rfl, rfl, Nat.le_refl _, fun _ _ _ => rfl⟩
theorem But.trans {b : Nat} {w w1 w2 : World} (h : But b w w1) (k : But b w1 w2) : But b w w2 :=
  ⟨k.os.trans h.os, k.tape.trans h.tape, k.output.trans h.output, Nat.le_trans h.size k.size, fun i hi hb => (k.block i (Nat.lt_of_lt_of_le hi h.size) hb).trans (h.block i hi hb)⟩
theorem But.setCell (w : World) (b o : Nat) (v : Value) : But b w (w.setCell ⟨b, o, none⟩ v) :=
  ⟨rfl, rfl, rfl, by simp [World.setCell], fun k _ hk => Below.heap_setCell _ _ _ _ hk⟩
theorem But.below {b B : Nat} {w w' : World} (h : But b w w') (hb : B ≤ b) (hB : B ≤ w.heap.size) : Below B w w' :=
  ⟨h.os, h.tape, h.output, h.size, fun k hk => h.block k (by omega) (by omega)⟩
theorem HoldsI.but {k : IntKind} {w w' : World} {a : Option Addr} {n : Nat} {zs : List Int} {g : Nat} (h : HoldsI k w a n zs) (hb : But g w w') (hne : ∀ b o, 0 < n → a = some ⟨b, o, none⟩ → b ≠ g) : HoldsI k w' a n zs := by
  refine ⟨h.1, fun h0 => ?_⟩
  obtain ⟨b, o, ha, hc⟩ := h.2 h0
  refine ⟨b, o, ha, fun i hi => ?_⟩
  rw [World.cell?_of_block (w := w) (hb.block b (lt_of_cell (hc i hi)) (hne b o h0 ha))]
  exact hc i hi
end Go.Proofs.Ytmpkmgkafhlpjaa
/- a table of distances in memory: rows in blocks of their own -/
namespace Go.Proofs.Ytmpkmgkafhlpjaa
open Go.RowKit
set_option linter.unusedVariables false
set_option maxRecDepth 20000
/-- a row of numbers that lies in a block of cells of int -/
def RowAt (w : World) (g n : Nat) (f : Nat → Int) : Prop := ∃ cs fr, w.heap[g]? = some (.cells cs 3 fr) ∧ ∀ j, j < n → cs[j]? = some (.int .i64 (f j))
theorem RowAt.cell {w : World} {g n : Nat} {f : Nat → Int} (h : RowAt w g n f) {j : Nat} (hj : j < n) : w.cell? ⟨g, j, none⟩ = some (.int .i64 (f j)) := by
  obtain ⟨cs, fr, h1, h2⟩ := h
  rw [Joins.cell_of_block h1]; exact h2 j hj
theorem RowAt.lt {w : World} {g n : Nat} {f : Nat → Int} (h : RowAt w g n f) : g < w.heap.size := by
  obtain ⟨cs, fr, h1, _⟩ := h
  exact (Array.getElem?_eq_some_iff.1 h1).1
theorem RowAt.block {w w' : World} {g n : Nat} {f : Nat → Int} (h : RowAt w g n f) (hb : w'.heap[g]? = w.heap[g]?) : RowAt w' g n f := by
  obtain ⟨cs, fr, h1, h2⟩ := h
  exact ⟨cs, fr, by rw [hb]; exact h1, h2⟩
theorem RowAt.below {w w' : World} {g n : Nat} {f : Nat → Int} (h : RowAt w g n f) (hb : Below w.heap.size w w') : RowAt w' g n f := h.block (hb.block g h.lt)
theorem RowAt.congr {w : World} {g n : Nat} {f f' : Nat → Int} (h : RowAt w g n f) (he : ∀ j, j < n → f j = f' j) : RowAt w g n f' := by
  obtain ⟨cs, fr, h1, h2⟩ := h
  exact ⟨cs, fr, h1, fun j hj => by rw [← he j hj]; exact h2 j hj⟩
theorem RowAt.of_own {w : World} {B n : Nat} {v : Value} {zs : List Int} (h : w.ownsRow B 3 1 v n (intsV zs)) (h0 : 0 < n) : ∃ g c, v = .slice (some ⟨g, 0, none⟩) n c ∧ B ≤ g ∧ RowAt w g n (fun j => zs.getD j 0) := by
  obtain ⟨h1, ⟨_, h2⟩ | ⟨g, cap, cur, rfl, hg, hh, h3, h4, h5, h6⟩⟩ := h
  · omega
  · refine ⟨g, cap, rfl, hg, cur, _, hh, fun j hj => ?_⟩
    rw [Nat.mul_one] at h6
    have h7 : zs.length = n := by rw [Nat.mul_one] at h1; simpa [intsV] using h1
    have h8 := intsV_at zs j (by omega)
    rw [← h6, List.getElem?_take, if_pos hj] at h8
    rw [← h8]; simp
/-- the rows' slices -/
def slV (m : Nat) (G C : Nat → Nat) (n : Nat) : List Value := (List.range n).map fun j => .slice (some ⟨G j, 0, none⟩) m (C j)
theorem slV_length (m : Nat) (G C : Nat → Nat) (n : Nat) : (slV m G C n).length = n := by simp [slV]
theorem slV_at (m : Nat) (G C : Nat → Nat) (n j : Nat) (h : j < n) : (slV m G C n)[j]? = some (.slice (some ⟨G j, 0, none⟩) m (C j)) := by simp [slV, h]
def updN (f : Nat → Nat) (i : Nat) (v : Nat) : Nat → Nat := fun j => if j = i then v else f j
theorem updN_at (f : Nat → Nat) (i v : Nat) : updN f i v i = v := by simp [updN]
theorem updN_ne (f : Nat → Nat) (i j v : Nat) (h : j ≠ i) : updN f i v j = f j := by simp [updN, h]
theorem slV_snoc (m : Nat) (G C : Nat → Nat) (n g c : Nat) : slV m (updN G n g) (updN C n c) (n + 1) = slV m G C n ++ [.slice (some ⟨g, 0, none⟩) m c] := by
  unfold slV
  rw [List.range_succ, List.map_append]
  congr 1
  · refine List.map_congr_left fun j hj => ?_
    have := List.mem_range.1 hj
    rw [updN_ne _ _ _ _ (by omega), updN_ne _ _ _ _ (by omega)]
  · simp [updN_at]
theorem one_slice (a : Option Addr) (n c : Nat) : ∀ u ∈ [Value.slice a n c], u.oneCell' = true := by simp [Value.oneCell']
/-- where the list of slices lies: no row lies there -/
theorem own_at {w : World} {B n : Nat} {v : Value} {xs : List Value} (h : w.ownsRow B 73 1 v n xs) (h0 : 0 < n) : ∃ T c, v = .slice (some ⟨T, 0, none⟩) n c ∧ ∀ j u, xs[j]? = some u → w.cell? ⟨T, j, none⟩ = some u := by
  obtain ⟨h1, ⟨_, h2⟩ | ⟨g, cap, cur, rfl, hg, hh, h3, h4, h5, h6⟩⟩ := h
  · omega
  · refine ⟨g, cap, rfl, fun j u hj => ?_⟩
    rw [Joins.cell_of_block hh]
    rw [← h6] at hj
    rw [List.getElem?_take] at hj
    split at hj
    · simpa using hj
    · cases hj
theorem own_apart {w : World} {B n g m : Nat} {v : Value} {xs : List Value} {f : Nat → Int} (h : w.ownsRow B 73 1 v n xs) (hr : RowAt w g m f) : some g ≠ v.ownBlock := by
  obtain ⟨cs, fr, hr1, _⟩ := hr
  obtain ⟨h1, ⟨rfl, h2⟩ | ⟨T, cap, cur, rfl, hg, hh, _⟩⟩ := h
  · simp [Value.ownBlock]
  · intro e
    simp only [Value.ownBlock, Option.some.injEq] at e
    subst e
    rw [hh] at hr1
    injection hr1 with hr1
    injection hr1 with _ e2 _
    exact absurd e2 (by decide)
theorem RowAt.grown {w w' : World} {B n g m : Nat} {v : Value} {xs : List Value} {f : Nat → Int} (hr : RowAt w g m f) (h : w.ownsRow B 73 1 v n xs) (hg : w.grownBy w' v.ownBlock) : RowAt w' g m f :=
  hr.block (hg.block g hr.lt (own_apart h hr))
/-- the table of the first n beginnings of a, as a slice -/
def TableIs (w : World) (a : Option Addr) (n m : Nat) (ra rb : List Int) : Prop :=
  ∃ T, a = some ⟨T, 0, none⟩ ∧ ∀ i, i < n → ∃ g c, w.cell? ⟨T, i, none⟩ = some (.slice (some ⟨g, 0, none⟩) m c) ∧ ∀ j, j < m → w.cell? ⟨g, j, none⟩ = some (.int .i64 (Ed.L ra rb i j))
theorem TableIs.below {w w' : World} {a : Option Addr} {n m : Nat} {ra rb : List Int} (h : TableIs w a n m ra rb) (hb : Below w.heap.size w w') : TableIs w' a n m ra rb := by
  obtain ⟨T, ha, h1⟩ := h
  refine ⟨T, ha, fun i hi => ?_⟩
  obtain ⟨g, c, h2, h3⟩ := h1 i hi
  exact ⟨g, c, by rw [hb.cell (p := ⟨T, i, none⟩) (lt_of_cell h2)]; exact h2, fun j hj => by rw [hb.cell (p := ⟨g, j, none⟩) (lt_of_cell (h3 j hj))]; exact h3 j hj⟩
theorem slices_info : (Try.prog.info? 73).map (fun i => (i.zero, i.size, i.bytes)) = some (some (.slice none 0 0), 1, 24) := by kernel_rfl
end Go.Proofs.Ytmpkmgkafhlpjaa
/- contract of the document's table of distances -/
namespace Go.Proofs.Ytmpkmgkafhlpjaa
open Go.RowKit
set_option linter.unusedVariables false
set_option maxRecDepth 20000
def rowL (ra rb : List Int) (i k : Nat) : List Int := (List.range k).map fun j => Ed.L ra rb i j
theorem rowL_length (ra rb : List Int) (i k : Nat) : (rowL ra rb i k).length = k := by simp [rowL]
theorem rowL_at (ra rb : List Int) (i k j : Nat) (h : j < k) : (rowL ra rb i k).getD j 0 = Ed.L ra rb i j := by simp [rowL, List.getD_eq_getElem?_getD, h]
theorem rowL_snoc (ra rb : List Int) (i k : Nat) : intsV (rowL ra rb i (k + 1)) = intsV (rowL ra rb i k) ++ [.int .i64 (Ed.L ra rb i k)] := by
  simp [rowL, intsV, List.range_succ]
/-- what is done of the table -/
structure Tbl (w : World) (B n m : Nat) (v : Value) (ra rb : List Int) (G C : Nat → Nat) : Prop where
  own : w.ownsRow B 73 1 v n (slV m G C n)
  rows : ∀ j, j < n → RowAt w (G j) m (fun k => Ed.L ra rb j k)
theorem Tbl.below {w w' : World} {B n m : Nat} {v : Value} {ra rb : List Int} {G C : Nat → Nat} (h : Tbl w B n m v ra rb G C) (hb : Below w.heap.size w w') : Tbl w' B n m v ra rb G C :=
  ⟨owns_below h.own hb, fun j hj => (h.rows j hj).below hb⟩
theorem Tbl.at {w : World} {B n m : Nat} {v : Value} {ra rb : List Int} {G C : Nat → Nat} (h : Tbl w B n m v ra rb G C) (h0 : 0 < n) : ∃ T c, v = .slice (some ⟨T, 0, none⟩) n c ∧ ∀ j, j < n → w.cell? ⟨T, j, none⟩ = some (.slice (some ⟨G j, 0, none⟩) m (C j)) := by
  obtain ⟨T, c, hv, hc⟩ := own_at h.own h0
  exact ⟨T, c, hv, fun j hj => hc j _ (slV_at m G C n j hj)⟩
set_option maxHeartbeats 6400000 in
theorem table_any (ra rb : List Int) (a b : Option Addr) (la lb ca cb : Nat) (w : World) (ha : HoldsI .i32 w a la ra) (hb : HoldsI .i32 w b lb rb) (hla : la ≤ 1048576) (hlb : lb ≤ 1048576) :
    Calls Try.prog 63 #[.slice a la ca, .slice b lb cb] w fun e w' => ∃ t c, e = .returned (.slice t (la + 1) c) ∧ TableIs w' t (la + 1) (lb + 1) ra rb ∧ Below w.heap.size w w' := by
  obtain ⟨i0, hi, hz0, hz1, hz2⟩ := info_parts int_info
  obtain ⟨i1, hj, hy0, hy1, hy2⟩ := info_parts slices_info
  have HA := Lib.hid ha; have HB := Lib.hid hb
  obtain ⟨m, hm⟩ : ∃ m, lb + 1 = m := ⟨_, rfl⟩
  rw [hm]
  have hm1 : m ≤ 1048577 := by omega
  have HM := Lib.hid hm
  clear ha hb hm
  go_enter Try.func63, Try.ntmps63
  go_wp2_with fail
  go_loopw [5, 6] (fun tv iv wr => ∃ (i : Nat) (G C : Nat → Nat), i ≤ la + 1 ∧ iv = .int .i64 i ∧ Hid (Tbl wr w.heap.size i m tv ra rb G C) ∧ Hid (Below w.heap.size w wr)) (fun _ iv _ => la + 1 - (intOf iv).toNat)
  case atStart => exact ⟨0, fun _ => 0, fun _ => 0, by omega, rfl, Lib.hid ⟨World.ownsRow_nil _ _ _ _, fun j h => by omega⟩, Lib.hid (Below.refl _ _)⟩
  case round =>
    obtain ⟨i, G, C, hi1, rfl, hT, hB⟩ := hrel
    by_cases hlt : i ≤ la
    · obtain ⟨w1, rfl⟩ : ∃ w1, w1 = wr := ⟨_, rfl⟩
      go_wp2_with fail
      go_loopw [7, 8] (fun rv kv wr2 => ∃ k : Nat, k ≤ m ∧ kv = .int .i64 k ∧ Hid (wr2.ownsRow w1.heap.size 3 1 rv k (intsV (rowL ra rb i k))) ∧ Hid (Below w1.heap.size w1 wr2)) (fun _ kv _ => m - (intOf kv).toNat)
      case atStart => exact ⟨0, by omega, rfl, Lib.hid (World.ownsRow_nil _ _ _ _), Lib.hid (Below.refl _ _)⟩
      case round =>
        obtain ⟨k, hk1, rfl, hR, hB2⟩ := hrel
        by_cases hkt : k ≤ lb
        · obtain ⟨D, hD⟩ : ∃ D, Ed.L ra rb i k = D := ⟨_, rfl⟩
          have hbd := Ed.L_bd ra rb i k
          rw [hD] at hbd
          have HD := Lib.hid hD
          clear hD
          go_upto_block 4 with fail
          go_cut [9] from 16 to 72 (fun d wc => d = .int .i64 D ∧ Hid (wc.ownsRow w1.heap.size 3 1 u7 k (intsV (rowL ra rb i k))) ∧ Hid (Below w1.heap.size w1 wc))
          case first =>
            rcases Nat.eq_zero_or_pos i with hi0 | hi0
            · have e : D = (k : Int) := by rw [← HD.out, hi0, Ed.L_zeroL]
              have x1 : ((i : Int) == 0) = true := by simp; omega
              have E := Lib.hid e
              clear e
              go_wp2_with fail
              go_meet
              exact ⟨by rw [E.out], hR, hB2⟩
            rcases Nat.eq_zero_or_pos k with hk0 | hk0
            · have e : D = (i : Int) := by rw [← HD.out, hk0, Ed.L_zero]
              have x1 : ((i : Int) == 0) = false := by simp; omega
              have x2 : ((k : Int) == 0) = true := by simp; omega
              have E := Lib.hid e
              clear e
              go_wp2_with fail
              go_meet
              exact ⟨by rw [E.out], hR, hB2⟩
            have x1 : ((i : Int) == 0) = false := by simp; omega
            have x2 : ((k : Int) == 0) = false := by simp; omega
            obtain ⟨p, hp⟩ : ∃ p, p + 1 = i := ⟨i - 1, by omega⟩
            obtain ⟨q, hq⟩ : ∃ q, q + 1 = k := ⟨k - 1, by omega⟩
            have p1 : IntKind.i64.wrap ((i : Int) - 1) = (p : Int) := by rw [IntWalk.i64_in _ (by omega)]; omega
            have q1 : IntKind.i64.wrap ((k : Int) - 1) = (q : Int) := by rw [IntWalk.i64_in _ (by omega)]; omega
            obtain ⟨T, ct, hu5, hTc⟩ := (hT.out.below hB2.out).at hi0
            have tc := hTc p (by omega)
            have hrow := (hT.out.rows p (by omega)).below hB2.out
            have r1 := hrow.cell (j := q) (by omega)
            have r2 := hrow.cell (j := k) (by have := HM.out; omega)
            obtain ⟨g, cg, hu7, _, hrg⟩ := RowAt.of_own hR.out hk0
            have r3 := hrg.cell (j := q) (by omega)
            rw [rowL_at ra rb i k q (by omega)] at r3
            have hBw := hB.out.trans (hB2.out.mono hB.out.size)
            obtain ⟨ab, ao, rfl, hac⟩ := (HA.out.below hBw).2 (by omega)
            have ea := hac p (by omega)
            obtain ⟨bb, bo, rfl, hbc⟩ := (HB.out.below hBw).2 (by omega)
            have eb := hbc q (by omega)
            have hL : Ed.L ra rb i k = min (min (Ed.L ra rb p q + Ed.cost (ra.getD p 0) (rb.getD q 0)) (Ed.L ra rb i q + 1)) (Ed.L ra rb p k + 1) := by subst hp hq; simp only [Ed.L]
            rw [HD.out] at hL
            have b1 := Ed.L_bd ra rb p q
            have b2 := Ed.L_bd ra rb p k
            have b3 := Ed.L_bd ra rb i q
            obtain ⟨X, hX⟩ : ∃ X, Ed.L ra rb p q = X := ⟨_, rfl⟩
            obtain ⟨Y, hY⟩ : ∃ X, Ed.L ra rb p k = X := ⟨_, rfl⟩
            obtain ⟨Z, hZ⟩ : ∃ X, Ed.L ra rb i q = X := ⟨_, rfl⟩
            obtain ⟨u, hu⟩ : ∃ u, ra.getD p 0 = u := ⟨_, rfl⟩
            obtain ⟨v, hv⟩ : ∃ v, rb.getD q 0 = v := ⟨_, rfl⟩
            rw [hX] at r1 b1 hL; rw [hY] at r2 b2 hL; rw [hZ] at r3 b3 hL; rw [hu] at ea hL; rw [hv] at eb hL
            have c1 : (0 : Int) ≤ (p : Int) := by omega
            have c2 : (p : Int) < (i : Int) := by omega
            have c3 : (0 : Int) ≤ (q : Int) := by omega
            have c4 : (q : Int) < (k : Int) := by omega
            have c5 : (q : Int) < (m : Int) := by have := HM.out; omega
            have c6 : (k : Int) < (m : Int) := by have := HM.out; omega
            have c7 : (p : Int) < (la : Int) := by omega
            have c8 : (q : Int) < (lb : Int) := by omega
            have c9 : k < m := by have := HM.out; omega
            have c10 : q < m := by omega
            have c11 : p < i := by omega
            have c12 : q < k := by omega
            have c13 : p < la := by omega
            have c14 : q < lb := by omega
            have w1' : IntKind.i64.wrap (Y + 1) = Y + 1 := IntWalk.i64_in _ (by omega)
            have w2' : IntKind.i64.wrap (Z + 1) = Z + 1 := IntWalk.i64_in _ (by omega)
            have w3' : IntKind.i64.wrap (X + 1) = X + 1 := IntWalk.i64_in _ (by omega)
            have HL := Lib.hid hL
            have HR := Lib.hid (fun nn => owns_below hR.out (below_drewN wr nn))
            have HB3 := Lib.hid (fun nn => hB2.out.trans ((below_drewN wr nn).mono hB2.out.size))
            clear hTc hrow hrg hBw hac hbc hL hX hY hZ hu hv hp hq hT hB hB2 hR HD
            subst hu5 hu7
            by_cases huv : u = v
            · have y1 : (u != v) = false := by simpa using huv
              rw [huv, cost_eq] at HL
              clear huv
              go_upto_region 11 with fail
              go_quiet (fail)
              go_upto_region 13 with fail
              go_quiet (fail)
              go_wp2_with fail
              all_goals go_meet
              all_goals exact ⟨by congr 1; have := HL.out; omega, Lib.hid (HR.out _), Lib.hid (HB3.out _)⟩
            · have y1 : (u != v) = true := by simpa using huv
              rw [cost_ne huv] at HL
              clear huv
              go_upto_region 11 with fail
              go_quiet (fail)
              go_upto_region 13 with fail
              go_quiet (fail)
              go_wp2_with fail
              all_goals go_meet
              all_goals exact ⟨by congr 1; have := HL.out; omega, Lib.hid (HR.out _), Lib.hid (HB3.out _)⟩
          case rest =>
            obtain ⟨rfl, hR3, hB3⟩ := hcut
            clear hR hB2
            go_wp2_with (at_builtin; refine wpList_append_any rfl (.tmp 69) (.tmp 71) 73 rfl w1.heap.size 3 i0 (.int .i64 0) 1 8 Try.underlying73 hi hz0 hz1 hz2 rfl (by decide) _ k _ rfl (hR3.out.alloc _) _ 1 1 _ rfl (some_none _) rfl (one_new _ _ _ _) (one_int _ _) (by unfold maxLen; omega) (by omega) (by have := hB3.out.size; simp; omega) ?_; intro a3 c3 w3 hown3 hb3 hnil3)
            rw [← HD.out, ← rowL_snoc] at hown3
            have O3 := Lib.hid hown3
            have B3 := Lib.hid ((hB3.out.alloc hB3.out.size _).trans hb3)
            clear hown3 hb3 hnil3 hR3 hB3
            go_roundw
            case rel => exact ⟨k + 1, by have := HM.out; omega, by go_num, O3, B3⟩
            case measure => simp [intOf]; have := HM.out; omega
        · obtain rfl : k = m := by have := HM.out; omega
          obtain ⟨g, cg, hu7, _, hrg⟩ := RowAt.of_own hR.out (by have := HM.out; omega)
          have RG := Lib.hid (hrg.congr (fun j hj => rowL_at ra rb i k j hj))
          have T2 := Lib.hid (hT.out.below hB2.out)
          have B2 := Lib.hid (hB.out.trans (hB2.out.mono hB.out.size))
          subst hu7
          clear hrg hT hB hR hB2
          go_wp2_with (at_builtin; refine wpList_append_own _ rfl (.tmp 73) (.tmp 75) 78 rfl w.heap.size 73 i1 (.slice none 0 0) 1 24 Try.underlying78 hj hy0 hy1 hy2 rfl (by decide) u5 i _ rfl (T2.out.own.alloc _) ⟨wr.heap.size, 0, none⟩ 1 1 _ rfl rfl (one_cells _ _ _ _) (one_slice _ _ _) (by unfold maxLen; omega) (by omega) (by have := B2.out.size; simp; omega) ?_; intro v4 w4 hown4 hg4 hnil4)
          rw [← slV_snoc] at hown4
          have hal := below_one wr (.cells #[.slice (some ⟨g, 0, none⟩) k cg] 73)
          have TA := T2.out.below hal
          have RA := RG.out.below hal
          have N4 : Hid (Tbl w4 w.heap.size (i + 1) k v4 ra rb (updN G i g) (updN C i cg)) := by
            refine Lib.hid ⟨hown4, fun j hj => ?_⟩
            by_cases e : j = i
            · subst e; rw [updN_at]; exact RA.grown TA.own hg4
            · rw [updN_ne _ _ _ _ e]; exact (TA.rows j (by omega)).grown TA.own hg4
          have B4 := Lib.hid ((B2.out.trans (hal.mono B2.out.size)).grown hg4 (by have := B2.out.size; simp; omega) (fun kk hk => (TA.own.lt kk hk).1))
          clear hown4 hg4 hnil4 hal TA RA
          go_roundw
          case rel => exact ⟨i + 1, _, _, by omega, by go_num, N4, B4⟩
          case measure => simp [intOf]; omega
    · obtain rfl : i = la + 1 := by omega
      obtain ⟨T, c, hu5, hc⟩ := hT.out.at (by omega)
      have hrows := hT.out.rows
      have HR := Lib.hid (show TableIs wr (some ⟨T, 0, none⟩) (la + 1) m ra rb from ⟨T, rfl, fun j hj => ⟨G j, C j, hc j hj, fun x hx => (hrows j hj).cell hx⟩⟩)
      clear hc hrows hT
      subst hu5
      go_wp2_with fail
      go_ret
      exact ⟨_, c, rfl, HR.out, hB.out⟩
end Go.Proofs.Ytmpkmgkafhlpjaa
/- contracts of the document's Runes and Rows -/
namespace Go.Proofs.Ytmpkmgkafhlpjaa
open Go.RowKit
set_option linter.unusedVariables false
set_option maxRecDepth 20000
theorem rruns_any (ra rb : List Int) (a b : Option Addr) (la lb ca cb : Nat) (w : World) (ha : HoldsI .i32 w a la ra) (hb : HoldsI .i32 w b lb rb) (hla : la ≤ 1048576) (hlb : lb ≤ 1048576) :
    Calls Try.prog 45 #[.slice a la ca, .slice b lb cb] w fun e w' => e = .returned (.int .i64 (Ed.L ra rb la lb)) ∧ Below w.heap.size w w' := by
  have HT := Lib.hid (table_any ra rb a b la lb ca cb w ha hb hla hlb)
  obtain ⟨n, hn⟩ : ∃ n, la + 1 = n := ⟨_, rfl⟩
  obtain ⟨m, hm⟩ : ∃ n, lb + 1 = n := ⟨_, rfl⟩
  rw [hn, hm] at HT
  have h1 : (la : Int) < (n : Int) := by omega
  have h2 : (lb : Int) < (m : Int) := by omega
  have h3 : (0 : Int) ≤ (la : Int) := by omega
  have h4 : (0 : Int) ≤ (lb : Int) := by omega
  have h5 : la < n := by omega
  have h6 : lb < m := by omega
  clear ha hb hn hm
  go_enter Try.func45, Try.ntmps45
  go_wp2_with fail
  refine HT.out.mono ?_
  rintro e w1 ⟨t, c, rfl, ⟨T, rfl, hrows⟩, hb1⟩
  obtain ⟨g, cg, hg, hx⟩ := hrows la h5
  have hl := hx lb h6
  have B1 := Lib.hid hb1
  obtain ⟨D, hD⟩ : ∃ D, Ed.L ra rb la lb = D := ⟨_, rfl⟩
  rw [hD] at hl
  have HD := Lib.hid hD
  clear hrows hx hb1 hD
  go_wp2_with fail
  go_ret
  exact ⟨by rw [HD.out]; rfl, B1.out⟩
end Go.Proofs.Ytmpkmgkafhlpjaa
/- contract of the document's distance of texts; the laws of texts -/
namespace Go.Proofs.Ytmpkmgkafhlpjaa
open Go.RowKit
set_option linter.unusedVariables false
set_option maxRecDepth 20000
theorem r1good (s : ByteArray) (w : World) (hs : s.size ≤ 1048576) (hg : 0 ≤ lenS s) :
    Calls Try.prog 44 #[.string s] w fun e w' => ∃ a c, e = .returned (.tuple #[.slice a (runesS s).length c, .bool true]) ∧ HoldsI .i32 w' a (runesS s).length (intsN (runesS s)) ∧ Below w.heap.size w w' := by
  refine (r1runes_any s w hs).mono ?_
  rintro e w' (⟨_, a, c, h1, h2, _, h3⟩ | ⟨h, _⟩)
  · exact ⟨a, c, h1, h2, h3⟩
  · omega
theorem r1bad (s : ByteArray) (w : World) (hs : s.size ≤ 1048576) (hg : lenS s < 0) :
    Calls Try.prog 44 #[.string s] w fun e w' => e = .returned (.tuple #[.slice none 0 0, .bool false]) ∧ Below w.heap.size w w' := by
  refine (r1runes_any s w hs).mono ?_
  rintro e w' (⟨h, _⟩ | ⟨_, h1, h2⟩)
  · omega
  · exact ⟨h1, h2⟩
set_option maxHeartbeats 1600000 in
theorem rdist_any (a b : ByteArray) (w : World) (hsa : a.size ≤ 1048576) (hsb : b.size ≤ 1048576) :
    Calls Try.prog 33 #[.string a, .string b] w fun e w' => e = .returned (.int .i64 (distS a b)) ∧ Below w.heap.size w w' := by
  by_cases hga : 0 ≤ lenS a
  · have hA := Lib.hid (r1good a w hsa hga)
    by_cases hgb : 0 ≤ lenS b
    · have hBr := Lib.hid (fun w => r1good b w hsb hgb)
      have hd : distS a b = Ed.L (intsN (runesS a)) (intsN (runesS b)) (runesS a).length (runesS b).length := by unfold distS; rw [if_pos ⟨hga, hgb⟩]
      have HLE := Lib.hid (runesS_le a); have HLEB := Lib.hid (runesS_le b)
      rw [hd]
      clear hd hga hgb
      go_enter Try.func33, Try.ntmps33
      go_wp2_with fail
      refine hA.out.mono ?_
      rintro e w1 ⟨a1, c1, rfl, hh1, hb1⟩
      have H1 := Lib.hid hh1; have B1 := Lib.hid hb1
      clear hh1 hb1
      go_wp2_with fail
      refine (hBr.out _).mono ?_
      rintro e w2 ⟨a2, c2, rfl, hh2, hb2⟩
      have H2 := Lib.hid hh2; have H1b := Lib.hid (H1.out.below hb2); have B2 := Lib.hid (B1.out.trans (hb2.mono B1.out.size))
      clear hh2 hb2
      go_wp2_with fail
      refine (rruns_any (intsN (runesS a)) (intsN (runesS b)) a1 a2 _ _ c1 c2 w2 H1b.out H2.out (by have := HLE.out; omega) (by have := HLEB.out; omega)).mono ?_
      rintro e w3 ⟨rfl, hb3⟩
      have B3 := Lib.hid (B2.out.trans (hb3.mono B2.out.size))
      clear hb3
      go_wp2_with fail
      go_ret
      exact ⟨rfl, B3.out⟩
    · have hBr := Lib.hid (fun w => r1bad b w hsb (by omega))
      have hd : distS a b = -1 := by unfold distS; rw [if_neg (fun h => hgb h.2)]
      rw [hd]
      clear hd hga hgb
      go_enter Try.func33, Try.ntmps33
      go_wp2_with fail
      refine hA.out.mono ?_
      rintro e w1 ⟨a1, c1, rfl, hh1, hb1⟩
      have B1 := Lib.hid hb1
      clear hh1 hb1
      go_wp2_with fail
      refine (hBr.out _).mono ?_
      rintro e w2 ⟨rfl, hb2⟩
      have B2 := Lib.hid (B1.out.trans (hb2.mono B1.out.size))
      clear hb2
      go_wp2_with fail
      go_ret
      exact ⟨rfl, B2.out⟩
  · have hA := Lib.hid (r1bad a w hsa (by omega))
    have hd : distS a b = -1 := by unfold distS; rw [if_neg (fun h => hga h.1)]
    rw [hd]
    clear hd hga
    by_cases hgb : 0 ≤ lenS b
    · have hBr := Lib.hid (fun w => r1good b w hsb hgb)
      clear hgb
      go_enter Try.func33, Try.ntmps33
      go_wp2_with fail
      refine hA.out.mono ?_
      rintro e w1 ⟨rfl, hb1⟩
      have B1 := Lib.hid hb1
      clear hb1
      go_wp2_with fail
      refine (hBr.out _).mono ?_
      rintro e w2 ⟨a2, c2, rfl, hh2, hb2⟩
      have B2 := Lib.hid (B1.out.trans (hb2.mono B1.out.size))
      clear hb2 hh2
      go_wp2_with fail
      go_ret
      exact ⟨rfl, B2.out⟩
    · have hBr := Lib.hid (fun w => r1bad b w hsb (by omega))
      clear hgb
      go_enter Try.func33, Try.ntmps33
      go_wp2_with fail
      refine hA.out.mono ?_
      rintro e w1 ⟨rfl, hb1⟩
      have B1 := Lib.hid hb1
      clear hb1
      go_wp2_with fail
      refine (hBr.out _).mono ?_
      rintro e w2 ⟨rfl, hb2⟩
      have B2 := Lib.hid (B1.out.trans (hb2.mono B1.out.size))
      clear hb2
      go_wp2_with fail
      go_ret
      exact ⟨rfl, B2.out⟩
end Go.Proofs.Ytmpkmgkafhlpjaa
/- a list of texts that was answered -/
namespace Go.Proofs.Ytmpkmgkafhlpjaa
open Go.RowKit
set_option linter.unusedVariables false
set_option maxRecDepth 20000
theorem str_info : (Try.prog.info? 9).map (fun i => (i.zero, i.size, i.bytes)) = some (some (.string ⟨#[]⟩), 1, 16) := by kernel_rfl
theorem getD_memT' (zs : List Tx) (j : Nat) (h : j < zs.length) : zs.getD j ByteArray.empty ∈ zs := by
  rw [List.getD_eq_getElem?_getD, List.getElem?_eq_getElem h]; simp
/-- a list of texts that was answered, the call's own -/
def RetO (w : World) (ys : List Tx) (e : Ending) (w' : World) : Prop := ∃ a c, e = .returned (.slice a ys.length c) ∧ w'.ownsRow w.heap.size 9 1 (.slice a ys.length c) ys.length (strsV ys) ∧ Below w.heap.size w w'
theorem ret_own {w w' : World} {a : Option Addr} {c n : Nat} {ys zs : List Tx} (h : ys = zs) (hn : ys.length = n) (hh : w'.ownsRow w.heap.size 9 1 (.slice a n c) n (strsV ys)) (hb : Below w.heap.size w w') (v : Value) (hv : v = .slice a n c) : RetO w zs (.returned v) w' := by
  subst h hv hn; exact ⟨a, c, rfl, hh, hb⟩
end Go.Proofs.Ytmpkmgkafhlpjaa
/- the document's Sort, All, Top (items) -/
namespace Go.Proofs.Ytmpkmgkafhlpjaa
open Go.RowKit
set_option linter.unusedVariables false
set_option maxRecDepth 20000
/-- near words, as they stand -/
def nearL (ws : List Tx) (s : Tx) (k : Int) : List KV := ws.filterMap fun t => if 0 ≤ distS t s ∧ distS t s ≤ k then some (distS t s, t) else none
def allK (ws : List Tx) (s : Tx) (k : Int) : List KV := sortK (nearL ws s k)
def topK (ws : List Tx) (s : Tx) (k n : Int) : List KV := if mayP s k n then (allK ws s k).take n.toNat else []
theorem nearL_app (a b : List Tx) (s : Tx) (k : Int) : nearL (a ++ b) s k = nearL a s k ++ nearL b s k := by simp [nearL]
theorem nearL_yes (a : List Tx) (t s : Tx) (k : Int) (h : 0 ≤ distS t s ∧ distS t s ≤ k) : nearL (a ++ [t]) s k = nearL a s k ++ [(distS t s, t)] := by
  rw [nearL_app]; simp [nearL, h]
theorem nearL_no (a : List Tx) (t s : Tx) (k : Int) (h : ¬ (0 ≤ distS t s ∧ distS t s ≤ k)) : nearL (a ++ [t]) s k = nearL a s k := by
  rw [nearL_app]; simp only [nearL, List.filterMap_cons, List.filterMap_nil, if_neg h, List.append_nil]
theorem nearL_len (ws : List Tx) (s : Tx) (k : Int) : (nearL ws s k).length ≤ ws.length := List.length_filterMap_le _ _
theorem nearL_mem {ws : List Tx} {s : Tx} {k : Int} {x : KV} : x ∈ nearL ws s k ↔ x.2 ∈ ws ∧ x.1 = distS x.2 s ∧ 0 ≤ distS x.2 s ∧ distS x.2 s ≤ k := by
  unfold nearL
  rw [List.mem_filterMap]
  constructor
  · rintro ⟨t, ht, h⟩
    split at h
    · injection h with h; subst h; exact ⟨ht, rfl, by assumption⟩
    · cases h
  · rintro ⟨h1, h2, h3⟩
    exact ⟨x.2, h1, by rw [if_pos h3, ← h2]⟩
theorem allK_mem {ws : List Tx} {s : Tx} {k : Int} {x : KV} : x ∈ allK ws s k ↔ x.2 ∈ ws ∧ x.1 = distS x.2 s ∧ 0 ≤ distS x.2 s ∧ distS x.2 s ≤ k := sortK_mem.trans nearL_mem
theorem allK_len (ws : List Tx) (s : Tx) (k : Int) : (allK ws s k).length ≤ ws.length := by unfold allK; rw [sortK_length]; exact nearL_len ws s k
theorem owns_take {w : World} {B : Nat} {e : TypeId} {a : Option Addr} {n c : Nat} {ys : List KV} (h : w.ownsRow B e 2 (.slice a n c) n (keysV ys)) (k : Nat) (hk : k ≤ n) : w.ownsRow B e 2 (.slice a k c) k (keysV (ys.take k)) := by
  have hl : ys.length = n := by have := h.1; rw [keysV_len] at this; omega
  refine ⟨by rw [keysV_len]; simp; omega, ?_⟩
  rcases h.2 with ⟨h1, h2⟩ | ⟨g, cap, cur, hv, h1, h2, h3, h4, h5, h6⟩
  · cases h1
    obtain rfl : k = 0 := by omega
    exact Or.inl ⟨rfl, rfl⟩
  · cases hv
    refine Or.inr ⟨g, c, cur, rfl, h1, h2, by omega, h4, h5, ?_⟩
    have e1 : keysV ys = keysV (ys.take k) ++ keysV (ys.drop k) := by rw [← keysV_app, List.take_append_drop]
    have e2 : (cur.toList.take (n * 2)).take (k * 2) = cur.toList.take (k * 2) := by rw [List.take_take, Nat.min_eq_left (by omega)]
    rw [← e2, h6, e1, List.take_left' (by rw [keysV_len]; simp; omega)]
theorem retI_take {w w' : World} {a : Option Addr} {c n k : Nat} {ys zs : List KV} (h : ys.take k = zs) (hk : k ≤ n) (hn : ys.length = n) (hh : w'.ownsRow w.heap.size 36 2 (.slice a n c) n (keysV ys)) (hb : Below w.heap.size w w') (v : Value) (hv : v = .slice a k c) : RetI w zs (.returned v) w' :=
  retI_own h (by simp; omega) (owns_take hh k hk) hb v hv
theorem take_min {α : Type} (l : List α) (m : Nat) : l.take (min (l.length : Int) (m : Int)).toNat = l.take (m : Int).toNat := by
  by_cases h : m ≤ l.length
  · rw [show (min (l.length : Int) (m : Int)).toNat = m by omega]; rfl
  · rw [show (min (l.length : Int) (m : Int)).toNat = l.length by omega, List.take_of_length_le (Nat.le_refl _), List.take_of_length_le (by simp; omega)]
theorem rdist_lit (a b : ByteArray) (v : Int) (w : World) (hsa : a.size ≤ 1048576) (hsb : b.size ≤ 1048576) (hv : distS a b = v) :
    Calls Try.prog 33 #[.string a, .string b] w fun e w' => e = .returned (.int .i64 v) ∧ Below w.heap.size w w' := by subst hv; exact rdist_any a b w hsa hsb
set_option maxHeartbeats 1600000 in
theorem rall_any (a : Option Addr) (n cap : Nat) (ws : List Tx) (s : Tx) (k : Int) (w : World) (hh : HoldsT w a n ws) (hn : n ≤ 50000) (hl : ∀ t ∈ ws, t.size ≤ 1048576) (hs : s.size ≤ 1048576) :
    Calls Try.prog 27 #[.slice a n cap, .string s, .int .i64 k] w (RetI w (allK ws s k)) := by
  have hll := hh.len
  have HH := Lib.hid hh; have HL := Lib.hid hl
  clear hh hl
  go_enter Try.func27, Try.ntmps27
  go_wp2_with fail
  go_loopw [7, 8] (fun ov iv wr => ∃ (j : Nat) (P : List KV) (av : Option Addr) (cv : Nat), j ≤ n ∧ iv = .int .i64 j ∧ ov = .slice av P.length cv ∧ Hid (P = allK (ws.take j) s k) ∧ Hid (wr.ownsRow w.heap.size 36 2 (.slice av P.length cv) P.length (keysV P)) ∧ Hid (Below w.heap.size w wr)) (fun _ iv _ => n - (intOf iv).toNat)
  case atStart => exact ⟨0, [], none, 0, by omega, rfl, rfl, Lib.hid rfl, Lib.hid (World.ownsRow_nil _ _ _ _), Lib.hid (Below.refl _ _)⟩
  case round =>
    obtain ⟨j, P, av, cv, hj, rfl, rfl, hP, hO, hB⟩ := hrel
    by_cases hlt : j < n
    · obtain ⟨bb, o, rfl, hc⟩ := HH.out.at (by omega)
      have g0 := hc j hlt
      have HC := Lib.hid (fun (w3 : World) (hb : Below w.heap.size w w3) => show w3.cell? ⟨bb, o + j, none⟩ = some (.string (ws.getD j ByteArray.empty)) from (hb.cell (p := ⟨bb, o + j, none⟩) (lt_of_cell g0)).trans g0)
      have hmem := HL.out _ (getD_memT' ws j (by omega))
      have hyes := nearL_yes (ws.take j) (ws.getD j ByteArray.empty) s k
      have hnot := nearL_no (ws.take j) (ws.getD j ByteArray.empty) s k
      rw [← take_succ_getD ws ByteArray.empty j (by omega)] at hyes hnot
      have hpl : P.length ≤ j := by have := allK_len (ws.take j) s k; rw [← hP.out] at this; simp at this; omega
      have hPs : ∀ q ∈ P, q.2.size ≤ 1048576 := fun q hq => HL.out _ (List.mem_of_mem_take (allK_mem.1 (hP.out ▸ hq)).1)
      obtain ⟨y, hy⟩ : ∃ y, ws.getD j ByteArray.empty = y := ⟨_, rfl⟩
      rw [hy] at hmem hyes hnot
      simp only [hy] at HC
      obtain ⟨d, hd⟩ : ∃ d, distS y s = d := ⟨_, rfl⟩
      have RD := Lib.hid (fun w => rdist_lit y s d w hmem hs hd)
      rw [hd] at hyes hnot
      have HD := Lib.hid hd
      clear hc hy g0 hd
      have e0 := HC.out _ hB.out
      by_cases hk : 0 ≤ d ∧ d ≤ k
      · have hsn : allK (ws.take (j + 1)) s k = putK (d, y) P := by unfold allK; rw [hyes hk, sortK_snoc, hP.out]; rfl
        obtain ⟨hk1, hk2⟩ := hk
        have HS := Lib.hid hsn
        clear hyes hnot hsn
        go_wp2_with fail
        refine (RD.out _).mono ?_
        rintro e w2 ⟨rfl, hb⟩
        have B2 := Lib.hid (hB.out.trans (hb.mono hB.out.size))
        have O2 := Lib.hid (owns_below hO.out hb)
        have e2 := HC.out _ B2.out
        have RP := Lib.hid (rput_any av P.length cv P (d, y) w2 (HoldsK.own O2.out) (by omega) hPs hmem)
        unfold keyV at RP
        simp only at RP
        clear hb hB hO e0 hPs
        go_wp2_with fail
        refine RP.out.mono ?_
        rintro e w3 ⟨a2, c2, rfl, hown, hb⟩
        have B3 := Lib.hid (B2.out.trans (hb.mono B2.out.size))
        have O3 := Lib.hid (hown.mono' B2.out.size)
        clear hown hb B2 O2 e2
        go_wp2_with fail
        go_roundw
        case rel => exact ⟨j + 1, _, a2, c2, by omega, by go_num, rfl, Lib.hid HS.out.symm, O3, B3⟩
        case measure => simp [intOf]; omega
      · have hsn : allK (ws.take (j + 1)) s k = P := by unfold allK; rw [hnot hk, hP.out]; rfl
        have HS := Lib.hid hsn
        clear hyes hnot hsn hPs
        have hd : d < 0 ∨ (0 ≤ d ∧ k < d) := by omega
        clear hk
        rcases hd with hd | ⟨hd, hd2⟩
        all_goals
          go_wp2_with fail
          refine (RD.out _).mono ?_
          rintro e w2 ⟨rfl, hb⟩
          have B2 := Lib.hid (hB.out.trans (hb.mono hB.out.size))
          have O2 := Lib.hid (owns_below hO.out hb)
          clear hb hB hO e0
          go_wp2_with fail
          go_roundw
          case rel => exact ⟨j + 1, P, av, cv, by omega, by go_num, rfl, Lib.hid HS.out.symm, O2, B2⟩
          case measure => simp [intOf]; omega
    · have hjn : ws.take j = ws := List.take_of_length_le (by omega)
      have hP2 := hP.out
      rw [hjn] at hP2
      have HP := Lib.hid hP2
      clear hP hP2 hjn
      go_wp2_with fail
      go_ret
      exact retI_own HP.out rfl hO.out hB.out _ rfl
theorem rtop_any (a : Option Addr) (n cap : Nat) (ws : List Tx) (s : Tx) (k m : Int) (w : World) (hh : HoldsT w a n ws) (hn : n ≤ 50000) (hl : ∀ t ∈ ws, t.size ≤ 1048576) (hs : s.size ≤ 1048576) :
    Calls Try.prog 22 #[.slice a n cap, .agg #[.string s, .int .i64 k, .int .i64 m]] w (RetI w (topK ws s k m)) := by
  have B1 := Lib.hid (below_one w (.cells #[.string s, .int .i64 k, .int .i64 m] 24))
  obtain ⟨c, hc⟩ : ∃ c, decide (mayP s k m) = c := ⟨_, rfl⟩
  have M := Lib.hid (fun w => rmay_any s k m w hs)
  rw [hc] at M
  have HH := Lib.hid hh; have HL := Lib.hid hl
  clear hh hl
  cases c with
  | false =>
    have ht : topK ws s k m = [] := if_neg (of_decide_eq_false hc)
    have HT := Lib.hid ht
    clear ht hc
    go_enter Try.func22, Try.ntmps22
    go_wp2_with fail
    refine (M.out _).mono ?_
    rintro e w2 ⟨rfl, hb⟩
    go_wp2_with fail
    go_ret
    exact retI_own HT.out.symm rfl (World.ownsRow_nil _ _ _ _) (B1.out.trans (hb.mono B1.out.size)) _ rfl
  | true =>
    have hm := of_decide_eq_true hc
    have ht : topK ws s k m = (allK ws s k).take m.toNat := if_pos hm
    have hm1 := hm.2.1
    have HT := Lib.hid ht
    clear ht hc hm
    obtain ⟨mm, rfl⟩ : ∃ mm : Nat, m = mm := ⟨m.toNat, by omega⟩
    go_enter Try.func22, Try.ntmps22
    go_wp2_with fail
    have q0 : (w.alloc (.cells #[.string s, .int .i64 k, .int .i64 mm] 24)).cell? ⟨w.heap.size, 0, none⟩ = some (.string s) := by rw [cell_alloc rfl]; rfl
    have q1 : (w.alloc (.cells #[.string s, .int .i64 k, .int .i64 mm] 24)).cell? ⟨w.heap.size, 1, none⟩ = some (.int .i64 k) := by rw [cell_alloc rfl]; rfl
    have q2 : (w.alloc (.cells #[.string s, .int .i64 k, .int .i64 mm] 24)).cell? ⟨w.heap.size, 2, none⟩ = some (.int .i64 mm) := by rw [cell_alloc rfl]; rfl
    generalize w.alloc (.cells #[.string s, .int .i64 k, .int .i64 mm] 24) = w1 at *
    have Q := Lib.hid (show w.heap.size < w1.heap.size from lt_of_cell q0)
    have HQ := Lib.hid (fun (w3 : World) (hb : Below w1.heap.size w1 w3) => show w3.cell? ⟨w.heap.size, 0, none⟩ = some (.string s) ∧ w3.cell? ⟨w.heap.size, 1, none⟩ = some (.int .i64 k) ∧ w3.cell? ⟨w.heap.size, 2, none⟩ = some (.int .i64 mm) from ⟨(hb.cell (p := ⟨w.heap.size, 0, none⟩) Q.out).trans q0, (hb.cell (p := ⟨w.heap.size, 1, none⟩) Q.out).trans q1, (hb.cell (p := ⟨w.heap.size, 2, none⟩) Q.out).trans q2⟩)
    clear q0 q1 q2
    refine (M.out _).mono ?_
    rintro e w2 ⟨rfl, hb⟩
    obtain ⟨q0, q1, q2⟩ := HQ.out _ hb
    have RA := Lib.hid (rall_any a n cap ws s k w2 (HH.out.below (B1.out.trans (hb.mono B1.out.size))) hn HL.out hs)
    have B2 := Lib.hid hb
    clear hb
    go_wp2_with fail
    refine RA.out.mono ?_
    rintro e w3 ⟨a2, c2, rfl, hown, hb⟩
    clear q0 q1 q2
    obtain ⟨q0, q1, q2⟩ := HQ.out _ (B2.out.trans (hb.mono B2.out.size))
    have B3 := Lib.hid ((B1.out.trans (B2.out.mono B1.out.size)).trans (hb.mono (Nat.le_trans B1.out.size B2.out.size)))
    have O3 := Lib.hid (hown.mono' (B := w.heap.size) (Nat.le_trans B1.out.size B2.out.size))
    have hcap := (owns_none hown).2
    obtain ⟨L, hL⟩ : ∃ L, (allK ws s k).length = L := ⟨_, rfl⟩
    rw [hL] at O3 hcap ⊢
    have HLL := Lib.hid hL
    clear hown hb hL
    go_wp2_with fail
    go_ret
    refine retI_take (k := (min (L : Int) (mm : Int)).toNat) (ys := allK ws s k) ?_ (by omega) HLL.out O3.out B3.out _ rfl
    rw [HT.out, ← HLL.out]; exact take_min _ mm
end Go.Proofs.Ytmpkmgkafhlpjaa
/- contract of band.advance -/
namespace Go.Proofs.Ytmpkmgkafhlpjaa
open Go.RowKit
set_option linter.unusedVariables false
set_option maxRecDepth 20000
set_option maxHeartbeats 6400000 in
theorem badvance_any (ra rb : List Int) (g k i cap m cb : Nat) (f : Nat → Int) (b : Option Addr) (w : World) (hrow : RowIs w g (2 * k + 1) f) (hcell : ∀ x, x < 2 * k + 1 → Cell ra rb k i x (f x))
    (hb : HoldsI .i32 w b m rb) (hne : ∀ b' o, 0 < m → b = some ⟨b', o, none⟩ → b' ≠ g) (hk : k ≤ 1048576) (hm : m ≤ 1048576) (hi : i ≤ 1048576) :
    Calls Try.prog 66 #[.slice (some ⟨g, 0, none⟩) (2 * k + 1) cap, .slice b m cb, .int .i64 ((i : Int) + 1 - k), .int .i32 (ra.getD i 0), .int .i64 ((k : Int) + 1)] w fun e w' => e = .returned (.tuple #[]) ∧
      (∃ f', RowIs w' g (2 * k + 1) f' ∧ ∀ x, x < 2 * k + 1 → Cell ra rb k (i + 1) x (f' x)) ∧ But g w w' := by
  have hlb := hb.len
  obtain ⟨r, hr⟩ : ∃ r, ra.getD i 0 = r := ⟨_, rfl⟩
  obtain ⟨st, hst⟩ : ∃ st, (i : Int) + 1 - k = st := ⟨_, rfl⟩
  obtain ⟨far, hfar⟩ : ∃ far, (k : Int) + 1 = far := ⟨_, rfl⟩
  obtain ⟨n, hn⟩ : ∃ n, 2 * k + 1 = n := ⟨_, rfl⟩
  rw [hn] at hrow hcell
  rw [hr, hst, hfar, hn]
  have R0 := Lib.hid hrow; have C0 := Lib.hid hcell; have HB := Lib.hid hb; have NE := Lib.hid hne; have LB := Lib.hid hlb
  have HR := Lib.hid hr; have HF := Lib.hid hfar; have HNN := Lib.hid hn; have HST := Lib.hid hst
  have hfb : 0 ≤ far ∧ far ≤ 1048577 := by omega
  have hsb : -1048576 ≤ st ∧ st ≤ 1048577 := by omega
  have hnb : n ≤ 2097153 := by omega
  clear hrow hcell hb hne hlb hr hst hfar hn
  go_enter Try.func66, Try.ntmps66
  go_wp2_with fail
  go_loopw [15] (fun xv wr => ∃ (x : Nat) (f' : Nat → Int), x ≤ n ∧ xv = .int .i64 x ∧ Hid (RowIs wr g n f') ∧ Hid (∀ y, y < x → Cell ra rb k (i + 1) y (f' y)) ∧ Hid (∀ y, x ≤ y → f' y = f y) ∧ Hid (But g w wr)) (fun xv _ => n - (intOf xv).toNat)
  case atStart => exact ⟨0, f, by omega, rfl, R0, Lib.hid (fun y h => by omega), Lib.hid (fun y _ => rfl), Lib.hid (But.refl _ _)⟩
  case round =>
    obtain ⟨x, f', hx, rfl, hR, hC, hO, hB⟩ := hrel
    by_cases hlt : x < n
    · have hfx := hR.out.fr x
      have hcx := hR.out.c x hlt
      have hox := hO.out x (Nat.le_refl _)
      have hCx := C0.out x hlt
      rw [hox] at hcx
      obtain ⟨o, ho⟩ : ∃ o, f x = o := ⟨_, rfl⟩
      rw [ho] at hcx hCx
      have hob : 0 ≤ o ∧ o ≤ 1048577 := by have h1 := hCx.lo; have h2 := hCx.hi; omega
      have HCX := Lib.hid hCx
      obtain ⟨j, hj⟩ : ∃ j, st + (x : Int) = j := ⟨_, rfl⟩
      have hjw : IntKind.i64.wrap (st + (x : Int)) = j := by rw [IntWalk.i64_in _ (by omega)]; exact hj
      have hjv : j = (i : Int) + 1 + x - k := by have := HST.out; omega
      have HJV := Lib.hid hjv
      have done : ∀ v, Cell ra rb k (i + 1) x v → RowIs (wr.setCell ⟨g, x, none⟩ (.int .i64 v)) g n (updI f' x v) ∧ (∀ y, y < x + 1 → Cell ra rb k (i + 1) y (updI f' x v y)) ∧ (∀ y, x + 1 ≤ y → updI f' x v y = f y) ∧ But g w (wr.setCell ⟨g, x, none⟩ (.int .i64 v)) := by
        intro v hv
        refine ⟨hR.out.set x v hlt, fun y hy => ?_, fun y hy => by rw [updI_ne _ _ _ _ (by omega)]; exact hO.out y (by omega), hB.out.trans (But.setCell _ _ _ _)⟩
        by_cases e : y = x
        · subst e; rw [updI_at]; exact hv
        · rw [updI_ne _ _ _ _ e]; exact hC.out y (by omega)
      have D := Lib.hid done
      clear hox ho hj hjv hCx done
      by_cases hj0 : j < 0 ∨ (m : Int) < j
      · have hv : Cell ra rb k (i + 1) x far := by
          rw [← HF.out]
          rcases hj0 with h | h
          · exact cell_out_low _ _ _ _ _ (by have := HJV.out; omega)
          · exact cell_out_high _ _ _ _ _ (by rw [LB.out]; have := HJV.out; omega)
        obtain ⟨z1, z2, z3, z4⟩ := D.out far hv
        have Z1 := Lib.hid z1; have Z2 := Lib.hid z2; have Z3 := Lib.hid z3; have Z4 := Lib.hid z4
        clear z1 z2 z3 z4 hv
        rcases hj0 with h | h
        · go_wp2_with fail
          go_roundw
          case rel => exact ⟨x + 1, _, by omega, by go_num, Z1, Z2, Z3, Z4⟩
          case measure => simp [intOf]; omega
        · have h0 : 0 ≤ j := by omega
          go_wp2_with fail
          go_roundw
          case rel => exact ⟨x + 1, _, by omega, by go_num, Z1, Z2, Z3, Z4⟩
          case measure => simp [intOf]; omega
      · have h0 : 0 ≤ j := by omega
        have h1 : j ≤ (m : Int) := by omega
        clear hj0
        have hD1 : ∃ D1, 0 ≤ D1 ∧ D1 ≤ 1048578 ∧ Comes ra rb k i x D1 ∧ ((j = 0 ∧ D1 = far) ∨ (∃ J : Nat, j = (J : Int) + 1 ∧ ((rb.getD J 0 = r ∧ D1 = o) ∨ (rb.getD J 0 ≠ r ∧ D1 = o + 1)))) := by
          by_cases hjz : j = 0
          · exact ⟨far, by omega, by omega, by rw [← HF.out]; exact comes_zero ra rb k i x (by have := HJV.out; omega), Or.inl ⟨hjz, rfl⟩⟩
          · have e := comes_in ra rb k i x (j - 1).toNat o (by have := HJV.out; omega) (by rw [LB.out]; omega) HCX.out
            by_cases hc : rb.getD (j - 1).toNat 0 = r
            · rw [HR.out, hc, cost_eq, Int.add_zero] at e
              exact ⟨o, by omega, by omega, e, Or.inr ⟨(j - 1).toNat, by omega, Or.inl ⟨hc, rfl⟩⟩⟩
            · rw [HR.out, cost_ne (fun h => hc h.symm)] at e
              exact ⟨o + 1, by omega, by omega, e, Or.inr ⟨(j - 1).toNat, by omega, Or.inr ⟨hc, rfl⟩⟩⟩
        obtain ⟨D1, hd0, hd1, hcomes, hD⟩ := hD1
        have CM := Lib.hid hcomes
        have HD := Lib.hid hD
        clear hcomes hD
        go_upto_if 35 with fail
        go_cut [12] from 16 to 78 (fun d wc => d = .int .i64 D1 ∧ wr = wc)
        case first =>
          rcases HD.out with ⟨hj, hd⟩ | ⟨J, hj, hc⟩
          · subst hj
            go_wp2_with fail
            go_meet
            exact ⟨by rw [hd], rfl⟩
          · obtain ⟨bb, bo, rfl, hbc⟩ := (HB.out.but hB.out NE.out).2 (by omega)
            have e1 := hbc J (by omega)
            obtain ⟨c, hcv⟩ : ∃ c, rb.getD J 0 = c := ⟨_, rfl⟩
            rw [hcv] at e1 hc
            have hjw2 : IntKind.i64.wrap (j - 1) = (J : Int) := by rw [IntWalk.i64_in _ (by omega)]; omega
            have x1 : (0 : Int) < j := by omega
            have x2 : (0 : Int) ≤ (J : Int) := by omega
            have x3 : (J : Int) < (m : Int) := by omega
            have HJ := Lib.hid hj
            clear hbc hcv hj
            rcases hc with ⟨hc, hd⟩ | ⟨hc, hd⟩
            · have x4 : (c != r) = false := by simpa using hc
              clear hc
              subst hd
              go_wp2_with fail
              go_meet
              exact ⟨rfl, rfl⟩
            · have x4 : (c != r) = true := by simpa using hc
              clear hc
              go_wp2_with fail
              go_meet
              exact ⟨by rw [hd], rfl⟩
        case rest =>
          obtain ⟨rfl, rfl⟩ := hcut
          clear HD
          have hD2 : ∃ D2 l, 0 ≤ D2 ∧ D2 ≤ 1048578 ∧ 0 ≤ l ∧ l ≤ 1048577 ∧ ((x = 0 ∧ D2 = D1) ∨ (∃ p, p + 1 = x ∧ Cell ra rb k (i + 1) p l ∧ D2 = min D1 (l + 1))) ∧ (∀ p, p + 1 = x → f' p = l) := by
            rcases Nat.eq_zero_or_pos x with hx0 | hx0
            · exact ⟨D1, 0, by omega, by omega, by omega, by omega, Or.inl ⟨hx0, rfl⟩, fun p hp => by omega⟩
            · have e := hC.out (x - 1) (by omega)
              have b1 := e.lo; have b2 := e.hi
              exact ⟨min D1 (f' (x - 1) + 1), f' (x - 1), by omega, by omega, b1, by omega, Or.inr ⟨x - 1, by omega, e, rfl⟩, fun p hp => by rw [show p = x - 1 by omega]⟩
          obtain ⟨D2, l, he0, he1, hl0, hl1, hD2, hpl⟩ := hD2
          have HD2 := Lib.hid hD2
          have HPL := Lib.hid hpl
          clear hD2 hpl
          go_upto_if 50 with fail
          go_cut [12] from 16 to 78 (fun d wc => d = .int .i64 D2 ∧ wr = wc)
          case first =>
            rcases HD2.out with ⟨hx0, hd⟩ | ⟨p, hp, _, hd⟩
            · subst hx0 hd
              go_wp2_with fail
              go_meet
              exact ⟨rfl, rfl⟩
            · have e1 := hR.out.c p (by omega)
              rw [HPL.out p hp] at e1
              have hw2 : IntKind.i64.wrap ((x : Int) - 1) = (p : Int) := by rw [IntWalk.i64_in _ (by omega)]; omega
              have x1 : (0 : Int) < (x : Int) := by omega
              have x2 : (0 : Int) ≤ (p : Int) := by omega
              have x3 : (p : Int) < (n : Int) := by omega
              have x5 : p < n := by omega
              have hw3 : IntKind.i64.wrap (l + 1) = l + 1 := IntWalk.i64_in _ (by omega)
              have HDD := Lib.hid hd
              clear hd
              go_wp2_with fail
              all_goals go_meet
              all_goals exact ⟨by congr 1; have := HDD.out; omega, rfl⟩
          case rest =>
            obtain ⟨rfl, rfl⟩ := hcut
            have hD3 : ∃ D3 u, 0 ≤ D3 ∧ D3 ≤ 1048578 ∧ 0 ≤ u ∧ u ≤ 1048577 ∧ ((x = 2 * k ∧ D3 = D2) ∨ (x < 2 * k ∧ Cell ra rb k i (x + 1) u ∧ D3 = min D2 (u + 1))) ∧ (x + 1 < n → f' (x + 1) = u) := by
              by_cases hxn : x + 1 < n
              · have e := C0.out (x + 1) hxn
                have b1 := e.lo; have b2 := e.hi
                exact ⟨min D2 (f (x + 1) + 1), f (x + 1), by omega, by omega, b1, by omega, Or.inr ⟨by have := HNN.out; omega, e, rfl⟩, fun _ => hO.out (x + 1) (by omega)⟩
              · exact ⟨D2, 0, by omega, by omega, by omega, by omega, Or.inl ⟨by have := HNN.out; omega, rfl⟩, fun h => absurd h hxn⟩
            obtain ⟨D3, u, hf0, hf1, hu0, hu1, hD3, hpu⟩ := hD3
            have HD3 := Lib.hid hD3
            have HPU := Lib.hid hpu
            clear hD3 hpu
            go_upto_if 63 with fail
            go_cut [12] from 16 to 78 (fun d wc => d = .int .i64 D3 ∧ wr = wc)
            case first =>
              by_cases hxn : x + 1 < n
              · have hd : D3 = min D2 (u + 1) := by
                  rcases HD3.out with ⟨h, _⟩ | ⟨_, _, h⟩
                  · have := HNN.out; omega
                  · exact h
                have e1 := hR.out.c (x + 1) hxn
                rw [HPU.out hxn] at e1
                have x3 : (x : Int) + 1 < (n : Int) := by omega
                have hw2 : IntKind.i64.wrap ((x : Int) + 1) = (x : Int) + 1 := IntWalk.i64_in _ (by omega)
                have hw3 : IntKind.i64.wrap (u + 1) = u + 1 := IntWalk.i64_in _ (by omega)
                have HDD := Lib.hid hd
                clear hd
                go_wp2_with fail
                all_goals go_meet
                all_goals exact ⟨by congr 1; have := HDD.out; omega, rfl⟩
              · have hd : D3 = D2 := by
                  rcases HD3.out with ⟨_, h⟩ | ⟨h, _⟩
                  · exact h
                  · have := HNN.out; omega
                subst hd
                have x3 : ¬ (x : Int) + 1 < (n : Int) := by omega
                have hw2 : IntKind.i64.wrap ((x : Int) + 1) = (x : Int) + 1 := IntWalk.i64_in _ (by omega)
                go_wp2_with fail
                go_meet
                exact ⟨rfl, rfl⟩
            case rest =>
              obtain ⟨rfl, rfl⟩ := hcut
              obtain ⟨z1, z2, z3, z4⟩ := D.out (min D3 far) (CM.out l u D2 D3 (min D3 far) HD2.out HD3.out (by rw [HF.out]))
              obtain ⟨V, hV⟩ : ∃ V, min D3 far = V := ⟨_, rfl⟩
              rw [hV] at z1 z2 z3 z4
              have Z1 := Lib.hid z1; have Z2 := Lib.hid z2; have Z3 := Lib.hid z3; have Z4 := Lib.hid z4
              clear z1 z2 z3 z4 HD2 HD3 HPL HPU D CM
              have hmin : (D3 < far ∧ V = D3) ∨ (D3 = far ∧ V = D3) ∨ (far < D3 ∧ V = far) := by omega
              rcases hmin with ⟨h3, h4⟩ | ⟨h3, h4⟩ | ⟨h3, h4⟩
              · subst h4
                go_wp2_with fail
                go_roundw
                case rel => exact ⟨x + 1, _, by omega, by go_num, Z1, Z2, Z3, Z4⟩
                case measure => simp [intOf]; omega
              · subst h4 h3
                go_wp2_with fail
                go_roundw
                case rel => exact ⟨x + 1, _, by omega, by go_num, Z1, Z2, Z3, Z4⟩
                case measure => simp [intOf]; omega
              · subst h4
                go_wp2_with fail
                go_roundw
                case rel => exact ⟨x + 1, _, by omega, by go_num, Z1, Z2, Z3, Z4⟩
                case measure => simp [intOf]; omega
    · obtain rfl : x = n := by omega
      go_wp2_with fail
      go_end0
      exact ⟨rfl, ⟨f', hR.out, fun y hy => hC.out y (by have := HNN.out; omega)⟩, hB.out⟩
end Go.Proofs.Ytmpkmgkafhlpjaa
/- contract of band.banded -/
namespace Go.Proofs.Ytmpkmgkafhlpjaa
open Go.RowKit
set_option linter.unusedVariables false
set_option maxRecDepth 20000
theorem RowIs.of_own {w : World} {B g n cap : Nat} {e : TypeId} {zs : List Int} (h : w.ownsRow B e 1 (.slice (some ⟨g, 0, none⟩) n cap) n (intsV zs)) (hz : zs.length = n) : RowIs w g n (fun j => zs.getD j 0) :=
  ⟨fun j hj => by have := h.cellAt j (by omega); rw [intsV_at _ j (by omega)] at this; exact this, fun j => h.frozenAt j⟩
set_option maxHeartbeats 6400000 in
theorem banded_any (ra rb : List Int) (a b : Option Addr) (la lb ca cb k : Nat) (w : World) (ha : HoldsI .i32 w a la ra) (hb : HoldsI .i32 w b lb rb) (hla : la ≤ 1048576) (hlb : lb ≤ 1048576) (hk : k ≤ 1048576)
    (h1 : (la : Int) - lb ≤ k) (h2 : (lb : Int) - la ≤ k) :
    Calls Try.prog 48 #[.slice a la ca, .slice b lb cb, .int .i64 k] w fun e w' => e = .returned (.int .i64 (min (Ed.L ra rb la lb) ((k : Int) + 1))) ∧ Below w.heap.size w w' := by
  obtain ⟨i0, hi, hz0, hz1, hz2⟩ := info_parts int_info
  have HA := Lib.hid ha; have HB := Lib.hid hb
  have LA := Lib.hid ha.len; have LB := Lib.hid hb.len
  obtain ⟨n, hn⟩ : ∃ n, 2 * k + 1 = n := ⟨_, rfl⟩
  obtain ⟨far, hfar⟩ : ∃ far, (k : Int) + 1 = far := ⟨_, rfl⟩
  have hw1 : IntKind.i64.wrap ((k : Int) + 1) = far := by rw [IntWalk.i64_in _ (by omega)]; exact hfar
  have hw2 : IntKind.i64.wrap (2 * (k : Int)) = 2 * (k : Int) := IntWalk.i64_in _ (by omega)
  have hw3 : IntKind.i64.wrap (2 * (k : Int) + 1) = (n : Int) := by rw [IntWalk.i64_in _ (by omega)]; omega
  have HN := Lib.hid hn; have HF := Lib.hid hfar
  have hnb : n ≤ 2097153 := by omega
  have hfb : 0 ≤ far ∧ far ≤ 1048577 := by omega
  clear ha hb hn hfar
  go_enter Try.func48, Try.ntmps48
  go_wp2_with (at_make; refine wpList_make_full _ rfl _ _ 73 rfl w.heap.size 3 i0 (.int .i64 0) 1 Try.underlying73 hi hz0 hz1 _ _ _ _ n rfl rfl (by omega) (by omega) (by rw [hz2]; omega) (by unfold maxLen; omega) (Nat.le_refl _) ?_; intro w0 hown0 hgrow0)
  have hB0 := below_grown hgrow0 (by intro k hk; cases hk)
  have ho : w0.ownsRow w.heap.size 3 1 (.slice (some ⟨w.heap.size, 0, none⟩) n n) n (intsV (upTo n 0)) := by
    rw [upTo_zero, ← toList_madeCells_one]; rw [Nat.mul_one] at hown0; exact hown0
  have R0 := Lib.hid (RowIs.of_own ho (upTo_length _ _)); have B0 := Lib.hid hB0
  clear hown0 hgrow0 ho hB0
  obtain ⟨g, hg⟩ : ∃ g, w.heap.size = g := ⟨_, rfl⟩
  have HG := Lib.hid hg
  rw [hg] at R0
  simp only [hg]
  clear hg
  go_loopw [20] (fun xv wr => ∃ (x : Nat) (f' : Nat → Int), x ≤ n ∧ xv = .int .i64 x ∧ Hid (RowIs wr g n f') ∧ Hid (∀ y, y < x → Cell ra rb k 0 y (f' y)) ∧ Hid (Below w.heap.size w wr)) (fun xv _ => n - (intOf xv).toNat)
  case atStart => exact ⟨0, _, by omega, rfl, R0, Lib.hid (fun y h => by omega), B0⟩
  case round =>
    obtain ⟨x, f', hx, rfl, hR, hC, hB⟩ := hrel
    by_cases hlt : x < n
    · have hc := hR.out.c x hlt
      have hf := hR.out.fr x
      have hR1 := Lib.hid (hR.out.set x far hlt)
      have hcs := cell_start ra rb k x (by have := HN.out; omega)
      have x1 : (0 : Int) ≤ (x : Int) := by omega
      have x2 : (x : Int) < (n : Int) := by omega
      have hf1 := hR1.out.fr x
      have hc1 := hR1.out.c x hlt
      have hgl : w.heap.size ≤ g := Nat.le_of_eq HG.out
      by_cases hxk : k ≤ x
      · rw [if_pos hxk] at hcs
        obtain ⟨V, hV⟩ : ∃ V, (x : Int) - k = V := ⟨_, rfl⟩
        rw [hV] at hcs
        have hVw : IntKind.i64.wrap ((x : Int) - k) = V := by rw [IntWalk.i64_in _ (by omega)]; exact hV
        have hR2 := Lib.hid (hR1.out.set x V hlt)
        have HCS := Lib.hid hcs
        clear hV hcs
        go_wp2_with fail
        go_roundw
        case rel =>
          refine ⟨x + 1, _, by omega, by go_num, hR2, Lib.hid (fun y hy => ?_), Lib.hid ((hB.out.setCell hgl _).setCell hgl _)⟩
          by_cases e : y = x
          · subst e; rw [updI_at]; exact HCS.out
          · rw [updI_ne _ _ _ _ e, updI_ne _ _ _ _ e]; exact hC.out y (by omega)
        case measure => simp [intOf]; omega
      · rw [if_neg hxk] at hcs
        have HCS := Lib.hid hcs
        clear hcs
        go_wp2_with fail
        go_roundw
        case rel =>
          refine ⟨x + 1, _, by omega, by go_num, hR1, Lib.hid (fun y hy => ?_), Lib.hid (hB.out.setCell hgl _)⟩
          by_cases e : y = x
          · subst e; rw [updI_at, ← HF.out]; exact HCS.out
          · rw [updI_ne _ _ _ _ e]; exact hC.out y (by omega)
        case measure => simp [intOf]; omega
    · obtain rfl : x = n := by omega
      have C1 := Lib.hid (show ∀ y, y < x → Cell ra rb k 0 y (f' y) from hC.out)
      clear hC
      go_wp2_with fail
      go_loopw [39] (fun iv wr2 => ∃ (i : Nat) (f2 : Nat → Int), i ≤ la ∧ iv = .int .i64 i ∧ Hid (RowIs wr2 g x f2) ∧ Hid (∀ y, y < x → Cell ra rb k i y (f2 y)) ∧ Hid (Below w.heap.size w wr2)) (fun iv _ => la - (intOf iv).toNat)
      case atStart => exact ⟨0, f', by omega, rfl, hR, C1, hB⟩
      case round =>
        obtain ⟨i, f2, hi2, rfl, hR2, hC2, hB2⟩ := hrel
        by_cases hil : i < la
        · obtain ⟨ab, ao, rfl, hac⟩ := (HA.out.below (w' := wr) hB2.out).2 (by omega)
          have e1 := hac i hil
          have hiw : IntKind.i64.wrap ((i : Int) + 1) = (i : Int) + 1 := IntWalk.i64_in _ (by omega)
          have hiw2 : IntKind.i64.wrap ((i : Int) + 1 - k) = (i : Int) + 1 - k := IntWalk.i64_in _ (by omega)
          have hne : ∀ b' o, 0 < lb → b = some ⟨b', o, none⟩ → b' ≠ g := fun b' o h0 e => by
            obtain ⟨b2, o2, e2, hc2⟩ := HB.out.2 h0
            rw [e2] at e; injection e with e; injection e with e3
            have := lt_of_cell (hc2 0 h0); have := HG.out; omega
          have NE := Lib.hid hne
          clear hac hne
          go_wp2_with fail
          have hn' := HN.out
          have hadv := badvance_any ra rb g k i x lb cb f2 b wr (hn' ▸ hR2.out) (fun y hy => hC2.out y (by omega)) (HB.out.below hB2.out) NE.out hk hlb (by omega)
          rw [hn', HF.out] at hadv
          refine hadv.mono ?_
          rintro e w2 ⟨rfl, ⟨f3, hr3, hc3⟩, hb3⟩
          have R3 := Lib.hid hr3; have C3 := Lib.hid hc3
          have B3 := Lib.hid (hB2.out.trans (hb3.below (Nat.le_of_eq HG.out) hB2.out.size))
          clear hr3 hc3 hb3 hadv hn'
          go_wp2_with fail
          go_roundw
          case rel => exact ⟨i + 1, f3, by omega, by go_num, R3, C3, B3⟩
          case measure => simp [intOf]; omega
        · obtain rfl : i = la := by omega
          obtain ⟨p, hp⟩ : ∃ p : Nat, (p : Int) = (lb : Int) - i + k := ⟨((lb : Int) - i + k).toNat, by omega⟩
          have hpx : p < x := by have := HN.out; omega
          have e1 := hR2.out.c p hpx
          have e2 := (hC2.out p hpx).eq lb (by omega) (by rw [LB.out]; exact Nat.le_refl _)
          rw [e2, HF.out] at e1
          have q1 : IntKind.i64.wrap ((lb : Int) - i) = (lb : Int) - i := IntWalk.i64_in _ (by omega)
          have q2 : IntKind.i64.wrap ((lb : Int) - i + k) = (p : Int) := by rw [IntWalk.i64_in _ (by omega)]; exact hp.symm
          have q3 : (0 : Int) ≤ (p : Int) := by omega
          have q4 : (p : Int) < (x : Int) := by omega
          obtain ⟨V, hV⟩ : ∃ V, min (Ed.L ra rb i lb) far = V := ⟨_, rfl⟩
          rw [hV] at e1
          have HV := Lib.hid hV
          clear e2 hp hV
          go_wp2_with fail
          go_ret
          exact ⟨ret_int (by rw [HF.out]; exact HV.out.symm), hB2.out⟩
end Go.Proofs.Ytmpkmgkafhlpjaa
/- contracts of band.Within, band.Near, and of awake -/
namespace Go.Proofs.Ytmpkmgkafhlpjaa
open Go.RowKit
set_option linter.unusedVariables false
set_option maxRecDepth 20000
def withinD (D k : Int) : Int := if D ≤ k then D else 0
/-- Within, where the distance is told by a letter -/
def WithinP (a b : Option Addr) (la lb ca cb : Nat) (D : Int) (w : World) : Prop :=
  ∀ k : Int, Calls Try.prog 37 #[.slice a la ca, .slice b lb cb, .int .i64 k] w fun e w' => e = .returned (.tuple #[.int .i64 (withinD D k), .bool (decide (D ≤ k))]) ∧ Below w.heap.size w w'
theorem within_no (ra rb : List Int) (a b : Option Addr) (la lb ca cb : Nat) (k : Int) (w : World) (hla : la ≤ 1048576) (hlb : lb ≤ 1048576) (h : k < 0 ∨ k < (la : Int) - lb ∨ k < (lb : Int) - la) :
    Calls Try.prog 37 #[.slice a la ca, .slice b lb cb, .int .i64 k] w fun e w' => e = .returned (.tuple #[.int .i64 0, .bool false]) ∧ w = w' := by
  have h1 : k < 0 ∨ (0 ≤ k ∧ k < (la : Int) - lb) ∨ (0 ≤ k ∧ (la : Int) - lb ≤ k ∧ k < (lb : Int) - la) := by omega
  have q1 : IntKind.i64.wrap ((la : Int) - lb) = (la : Int) - lb := IntWalk.i64_in _ (by omega)
  have q2 : IntKind.i64.wrap ((lb : Int) - la) = (lb : Int) - la := IntWalk.i64_in _ (by omega)
  clear h
  rcases h1 with h1 | ⟨h0, h1⟩ | ⟨h0, h1, h2⟩
  all_goals
    go_enter Try.func37, Try.ntmps37
    go_wp2_with fail
    go_ret2
    exact ⟨rfl, rfl⟩
set_option maxHeartbeats 1600000 in
theorem within_any (ra rb : List Int) (a b : Option Addr) (la lb ca cb : Nat) (w : World) (ha : HoldsI .i32 w a la ra) (hb : HoldsI .i32 w b lb rb) (hla : la ≤ 1048576) (hlb : lb ≤ 1048576) :
    WithinP a b la lb ca cb (Ed.L ra rb la lb) w := by
  intro k
  have b1 := Ed.L_low ra rb la lb
  have b2 := Ed.L_bd ra rb la lb
  have b3 := Ed.L_up ra rb la lb
  by_cases hno : k < 0 ∨ k < (la : Int) - lb ∨ k < (lb : Int) - la
  · have h1 : ¬ Ed.L ra rb la lb ≤ k := by omega
    unfold withinD
    rw [if_neg h1, decide_eq_false h1]
    exact (within_no ra rb a b la lb ca cb k w hla hlb hno).mono fun e w' h => ⟨h.1, h.2 ▸ Below.refl _ _⟩
  · obtain ⟨n, rfl⟩ : ∃ n : Nat, k = (n : Int) := ⟨k.toNat, by omega⟩
    have h1 : (la : Int) - lb ≤ n := by omega
    have h2 : (lb : Int) - la ≤ n := by omega
    have h0 : (0 : Int) ≤ (n : Int) := by omega
    have q1 : IntKind.i64.wrap ((la : Int) - lb) = (la : Int) - lb := IntWalk.i64_in _ (by omega)
    have q2 : IntKind.i64.wrap ((lb : Int) - la) = (lb : Int) - la := IntWalk.i64_in _ (by omega)
    have hruns := Lib.hid (eruns_lit ra rb la lb a b ca cb w ha.len hb.len ha hb hla hlb)
    have hband := Lib.hid (fun hn => banded_any ra rb a b la lb ca cb n w ha hb hla hlb hn h1 h2)
    obtain ⟨D, hD⟩ : ∃ D, Ed.L ra rb la lb = D := ⟨_, rfl⟩
    simp only [hD] at b1 b2 b3 hruns hband ⊢
    unfold withinD
    have hmx : ((la : Int) < lb ∧ ((max la lb : Nat) : Int) = lb) ∨ ((lb : Int) ≤ la ∧ ((max la lb : Nat) : Int) = la) := by omega
    clear ha hb hD hno b1
    rcases hmx with ⟨hm, hm2⟩ | ⟨hm, hm2⟩
    all_goals
      rw [hm2] at b3
      clear hm2
    · by_cases hbig : (lb : Int) ≤ n
      · have hle : D ≤ (n : Int) := by omega
        rw [if_pos hle, decide_eq_true hle]
        have x1 : ¬ (n : Int) < D := by omega
        go_enter Try.func37, Try.ntmps37
        go_wp2_with fail
        refine hruns.out.mono ?_
        rintro e w' ⟨rfl, hb⟩
        go_wp2_with fail
        go_ret2
        exact ⟨rfl, hb⟩
      · have hb2 := Lib.hid (hband.out (by omega))
        have x3 : (n : Int) < lb := by omega
        clear hband hbig
        by_cases hle : D ≤ (n : Int)
        · rw [if_pos hle, decide_eq_true hle]
          have hv : min D ((n : Int) + 1) = D := by omega
          rw [hv] at hb2
          clear hv
          go_enter Try.func37, Try.ntmps37
          go_wp2_with fail
          refine hb2.out.mono ?_
          rintro e w' ⟨rfl, hb⟩
          go_wp2_with fail
          go_ret2
          exact ⟨rfl, hb⟩
        · rw [if_neg hle, decide_eq_false hle]
          have hv : min D ((n : Int) + 1) = (n : Int) + 1 := by omega
          rw [hv] at hb2
          clear hv
          go_enter Try.func37, Try.ntmps37
          go_wp2_with fail
          refine hb2.out.mono ?_
          rintro e w' ⟨rfl, hb⟩
          go_wp2_with fail
          go_ret2
          exact ⟨rfl, hb⟩
    · by_cases hbig : (la : Int) ≤ n
      · have hle : D ≤ (n : Int) := by omega
        rw [if_pos hle, decide_eq_true hle]
        have x1 : ¬ (n : Int) < D := by omega
        go_enter Try.func37, Try.ntmps37
        go_wp2_with fail
        refine hruns.out.mono ?_
        rintro e w' ⟨rfl, hb⟩
        go_wp2_with fail
        go_ret2
        exact ⟨rfl, hb⟩
      · have hb2 := Lib.hid (hband.out (by omega))
        have x3 : (n : Int) < la := by omega
        clear hband hbig
        by_cases hle : D ≤ (n : Int)
        · rw [if_pos hle, decide_eq_true hle]
          have hv : min D ((n : Int) + 1) = D := by omega
          rw [hv] at hb2
          clear hv
          go_enter Try.func37, Try.ntmps37
          go_wp2_with fail
          refine hb2.out.mono ?_
          rintro e w' ⟨rfl, hb⟩
          go_wp2_with fail
          go_ret2
          exact ⟨rfl, hb⟩
        · rw [if_neg hle, decide_eq_false hle]
          have hv : min D ((n : Int) + 1) = (n : Int) + 1 := by omega
          rw [hv] at hb2
          clear hv
          go_enter Try.func37, Try.ntmps37
          go_wp2_with fail
          refine hb2.out.mono ?_
          rintro e w' ⟨rfl, hb⟩
          go_wp2_with fail
          go_ret2
          exact ⟨rfl, hb⟩
def nearOk (a b : ByteArray) (k : Int) : Bool := decide (0 ≤ distS a b ∧ distS a b ≤ k)
def nearD (a b : ByteArray) (k : Int) : Int := if 0 ≤ distS a b ∧ distS a b ≤ k then distS a b else 0
set_option maxHeartbeats 1600000 in
theorem near_any (a b : ByteArray) (k : Int) (w : World) (hsa : a.size ≤ 1048576) (hsb : b.size ≤ 1048576) :
    Calls Try.prog 29 #[.string a, .string b, .int .i64 k] w fun e w' => e = .returned (.tuple #[.int .i64 (nearD a b k), .bool (nearOk a b k)]) ∧ Below w.heap.size w w' := by
  unfold nearOk nearD
  by_cases hga : 0 ≤ lenS a
  · have hA := Lib.hid (runes_good a w hsa hga)
    by_cases hgb : 0 ≤ lenS b
    · have hBr := Lib.hid (fun w => runes_good b w hsb hgb)
      have hd : distS a b = Ed.L (intsN (runesS a)) (intsN (runesS b)) (runesS a).length (runesS b).length := by unfold distS; rw [if_pos ⟨hga, hgb⟩]
      have hbd := Ed.L_bd (intsN (runesS a)) (intsN (runesS b)) (runesS a).length (runesS b).length
      have hle := runesS_le a
      have hleb := runesS_le b
      have hl1 := intsN_length (runesS a)
      have hl2 := intsN_length (runesS b)
      have h0 : (0 ≤ distS a b ∧ distS a b ≤ k) ↔ distS a b ≤ k := ⟨fun h => h.2, fun h => ⟨by omega, h⟩⟩
      have e1 : (if 0 ≤ distS a b ∧ distS a b ≤ k then distS a b else 0) = withinD (distS a b) k := by
        unfold withinD
        by_cases hk : distS a b ≤ k
        · rw [if_pos hk, if_pos (h0.2 hk)]
        · rw [if_neg hk, if_neg (fun h => hk h.2)]
      have e2 : decide (0 ≤ distS a b ∧ distS a b ≤ k) = decide (distS a b ≤ k) := decide_eq_decide.2 h0
      rw [e1, e2]
      rw [hd]
      clear e1 e2
      have HLE := Lib.hid hle; have HLEB := Lib.hid hleb; have HL1 := Lib.hid hl1; have HL2 := Lib.hid hl2
      clear hd hbd h0 hle hleb hl1 hl2 hga hgb
      go_enter Try.func29, Try.ntmps29
      go_wp2_with fail
      refine hA.out.mono ?_
      rintro e w1 ⟨a1, c1, rfl, hr1⟩
      have R1 := Lib.hid hr1
      clear hr1
      go_wp2_with fail
      refine (hBr.out _).mono ?_
      rintro e w2 ⟨a2, c2, rfl, hr2⟩
      have R2 := Lib.hid hr2
      clear hr2
      go_wp2_with fail
      have B2 : Below w.heap.size w w2 := R1.out.2.1.trans (R2.out.2.1.mono R1.out.2.1.size)
      have h1 := R1.out.holds.below R2.out.2.1
      have h2 := R2.out.holds
      rw [HL1.out] at h1; rw [HL2.out] at h2
      have hw := within_any (intsN (runesS a)) (intsN (runesS b)) a1 a2 (runesS a).length (runesS b).length c1 c2 w2 h1 h2 (by have := HLE.out; omega) (by have := HLEB.out; omega) k
      refine hw.mono ?_
      rintro e w3 ⟨rfl, hb3⟩
      have B3 := Lib.hid (B2.trans (hb3.mono B2.size))
      clear hb3 hw h1 h2 B2
      go_wp2_with fail
      go_ret2
      exact ⟨rfl, B3.out⟩
    · have hBr := Lib.hid (fun w => runes_bad b w hsb (by omega))
      have hd : distS a b = -1 := by unfold distS; rw [if_neg (fun h => hgb h.2)]
      rw [hd]
      have hn : ¬ ((0 : Int) ≤ -1 ∧ (-1 : Int) ≤ k) := by omega
      rw [if_neg hn, decide_eq_false hn]
      clear hn hd hga hgb
      go_enter Try.func29, Try.ntmps29
      go_wp2_with fail
      refine hA.out.mono ?_
      rintro e w1 ⟨a1, c1, rfl, hr1⟩
      have R1 := Lib.hid hr1
      clear hr1
      go_wp2_with fail
      refine (hBr.out _).mono ?_
      rintro e w2 ⟨rfl, hb2⟩
      have B2 := Lib.hid (R1.out.2.1.trans (hb2.mono R1.out.2.1.size))
      clear hb2
      go_wp2_with fail
      go_ret2
      exact ⟨rfl, B2.out⟩
  · have hA := Lib.hid (runes_bad a w hsa (by omega))
    have hd : distS a b = -1 := by unfold distS; rw [if_neg (fun h => hga h.1)]
    rw [hd]
    have hn : ¬ ((0 : Int) ≤ -1 ∧ (-1 : Int) ≤ k) := by omega
    rw [if_neg hn, decide_eq_false hn]
    clear hn hd hga
    by_cases hgb : 0 ≤ lenS b
    · have hBr := Lib.hid (fun w => runes_good b w hsb hgb)
      clear hgb
      go_enter Try.func29, Try.ntmps29
      go_wp2_with fail
      refine hA.out.mono ?_
      rintro e w1 ⟨rfl, hb1⟩
      have R1 := Lib.hid hb1
      clear hb1
      go_wp2_with fail
      refine (hBr.out _).mono ?_
      rintro e w2 ⟨a2, c2, rfl, hr2⟩
      have B2 := Lib.hid (R1.out.trans (hr2.2.1.mono R1.out.size))
      clear hr2
      go_wp2_with fail
      go_ret2
      exact ⟨rfl, B2.out⟩
    · have hBr := Lib.hid (fun w => runes_bad b w hsb (by omega))
      clear hgb
      go_enter Try.func29, Try.ntmps29
      go_wp2_with fail
      refine hA.out.mono ?_
      rintro e w1 ⟨rfl, hb1⟩
      have R1 := Lib.hid hb1
      clear hb1
      go_wp2_with fail
      refine (hBr.out _).mono ?_
      rintro e w2 ⟨rfl, hb2⟩
      have B2 := Lib.hid (R1.out.trans (hb2.mono R1.out.size))
      clear hb2
      go_wp2_with fail
      go_ret2
      exact ⟨rfl, B2.out⟩
end Go.Proofs.Ytmpkmgkafhlpjaa
/- contracts of rank.Sort, rank.All, rank.Top -/
namespace Go.Proofs.Ytmpkmgkafhlpjaa
open Go.RowKit
set_option linter.unusedVariables false
set_option maxRecDepth 20000
/-- sorted in place is a slice of the call's own -/
theorem sortI_own (a : Option Addr) (n cap B : Nat) (ks : List KV) (w : World) (hown : w.ownsRow B 36 2 (.slice a n cap) n (keysV ks)) (hn : n ≤ 1048576) :
    Calls Try.prog 30 #[.slice a n cap, .func (.func 31) #[] #[]] w fun e w' => e = .returned (.tuple #[]) ∧ w'.ownsRow B 36 2 (.slice a n cap) n (keysV (sortK ks)) ∧ (∀ b w0, b ≤ B → Below b w0 w → Below b w0 w') := by
  have hl : ks.length = n := by have := hown.1; rw [keysV_len] at this; omega
  rcases hown.2 with ⟨h, h0⟩ | ⟨g', c', cur, h, _⟩
  · cases h
    obtain rfl : ks = [] := List.eq_nil_of_length_eq_zero hl
    refine (sortI_none 0 w).mono ?_
    rintro e w' ⟨rfl, rfl⟩
    exact ⟨rfl, hown, fun _ _ _ h => h⟩
  · cases h
    exact sortI_some g' n cap B ks w hown hn
set_option maxHeartbeats 1600000 in
theorem rankAll_any (a : Option Addr) (n cap : Nat) (ws : List Tx) (s : Tx) (k : Int) (w : World) (hh : HoldsT w a n ws) (hn : n ≤ 50000) (hl : ∀ t ∈ ws, t.size ≤ 1048576) (hs : s.size ≤ 1048576) :
    Calls Try.prog 25 #[.slice a n cap, .string s, .int .i64 k] w (RetI w (allK ws s k)) := by
  obtain ⟨i0, hi, hz0, hz1, hz2⟩ := info_parts item_info
  have hll := hh.len
  have HH := Lib.hid hh; have HL := Lib.hid hl
  clear hh hl
  go_enter Try.func25, Try.ntmps25
  go_wp2_with fail
  go_loopw [7, 14] (fun ov iv wr => ∃ (j : Nat) (P : List KV) (av : Option Addr) (cv : Nat), j ≤ n ∧ iv = .int .i64 j ∧ ov = .slice av P.length cv ∧ Hid (P = nearL (ws.take j) s k) ∧ Hid (wr.ownsRow w.heap.size 36 2 (.slice av P.length cv) P.length (keysV P)) ∧ Hid (Below w.heap.size w wr)) (fun _ iv _ => n - (intOf iv).toNat)
  case atStart => exact ⟨0, [], none, 0, by omega, rfl, rfl, Lib.hid rfl, Lib.hid (World.ownsRow_nil _ _ _ _), Lib.hid (Below.refl _ _)⟩
  case round =>
    obtain ⟨j, P, av, cv, hj, rfl, rfl, hP, hO, hB⟩ := hrel
    have hpl : P.length ≤ j := by have := nearL_len (ws.take j) s k; rw [← hP.out] at this; simp at this; omega
    by_cases hlt : j < n
    · obtain ⟨bb, o, rfl, hc⟩ := HH.out.at (by omega)
      have g0 := hc j hlt
      have e0 := (hB.out.cell (p := ⟨bb, o + j, none⟩) (lt_of_cell g0)).trans g0
      have hmem := HL.out _ (getD_memT' ws j (by omega))
      have hyes := nearL_yes (ws.take j) (ws.getD j ByteArray.empty) s k
      have hnot := nearL_no (ws.take j) (ws.getD j ByteArray.empty) s k
      rw [← take_succ_getD ws ByteArray.empty j (by omega)] at hyes hnot
      obtain ⟨y, hy⟩ : ∃ y, ws.getD j ByteArray.empty = y := ⟨_, rfl⟩
      rw [hy] at hmem hyes hnot e0
      have ND := Lib.hid (near_any y s k wr hmem hs)
      clear hc hy g0
      by_cases hk : 0 ≤ distS y s ∧ distS y s ≤ k
      · have hsn := hyes hk
        rw [← hP.out] at hsn
        have n1 : nearOk y s k = true := decide_eq_true hk
        have n2 : nearD y s k = distS y s := if_pos hk
        rw [n1, n2] at ND
        obtain ⟨d, hd⟩ : ∃ d, distS y s = d := ⟨_, rfl⟩
        rw [hd] at ND hsn
        have HS := Lib.hid hsn
        clear hyes hnot hsn n1 n2 hd hk
        go_wp2_with fail
        refine ND.out.mono ?_
        rintro e w2 ⟨rfl, hb⟩
        have B2 := Lib.hid (hB.out.trans (hb.mono hB.out.size))
        have O2 := Lib.hid (owns_below hO.out hb)
        have hsz := B2.out.size
        clear hb hB hO e0
        go_wp2_with (at_builtin; refine wpList_append_any rfl (.tmp 26) (.tmp 30) 25 rfl w.heap.size 36 i0 _ 2 24 Try.underlying25 hi hz0 hz1 hz2 rfl (by decide) _ P.length _ rfl (O2.out.alloc _) _ 1 1 [.int .i64 d, .string y] rfl (some_none _) rfl (two_new _ _ _ _ _) (two_one _ _) (by unfold maxLen; omega) (by omega) (by simp; omega) ?_; intro a3 c3 w3 hown3 hb3 hnil3)
        rw [show keysV P ++ [.int .i64 d, .string y] = keysV (P ++ [(d, y)]) from (keysV_snoc P (d, y)).symm] at hown3
        have O3 := Lib.hid hown3
        have B3 := Lib.hid ((B2.out.alloc B2.out.size _).trans hb3)
        clear hown3 hb3 hnil3
        go_roundw
        case rel => exact ⟨j + 1, P ++ [(d, y)], a3, c3, by omega, by go_num, by simp, Lib.hid HS.out.symm, Lib.hid (by have := O3.out; simpa using this), B3⟩
        case measure => simp [intOf]; omega
      · have hsn := hnot hk
        rw [← hP.out] at hsn
        have n1 : nearOk y s k = false := decide_eq_false hk
        rw [n1] at ND
        obtain ⟨d, hd⟩ : ∃ d, nearD y s k = d := ⟨_, rfl⟩
        rw [hd] at ND
        have HS := Lib.hid hsn
        clear hyes hnot hsn n1 hd hk
        go_wp2_with fail
        refine ND.out.mono ?_
        rintro e w2 ⟨rfl, hb⟩
        have B2 := Lib.hid (hB.out.trans (hb.mono hB.out.size))
        have O2 := Lib.hid (owns_below hO.out hb)
        clear hb hB hO e0
        go_wp2_with fail
        go_roundw
        case rel => exact ⟨j + 1, P, av, cv, by omega, by go_num, rfl, Lib.hid HS.out.symm, O2, B2⟩
        case measure => simp [intOf]; omega
    · have hjn : ws.take j = ws := List.take_of_length_le (by omega)
      have hP2 := hP.out
      rw [hjn] at hP2
      have SO := Lib.hid (sortI_own av P.length cv w.heap.size P wr hO.out (by omega))
      have HP := Lib.hid hP2
      clear hP hP2 hjn
      go_wp2_with fail
      refine SO.out.mono ?_
      rintro e w2 ⟨rfl, hown, hb⟩
      have B2 := Lib.hid (hb _ _ (Nat.le_refl _) hB.out)
      have O2 := Lib.hid hown
      clear hown hb
      go_wp2_with fail
      go_ret
      exact retI_own (by rw [HP.out]; rfl) (by rw [sortK_length]) O2.out B2.out _ rfl
theorem rankTop_any (a : Option Addr) (n cap : Nat) (ws : List Tx) (s : Tx) (k m : Int) (w : World) (hh : HoldsT w a n ws) (hn : n ≤ 50000) (hl : ∀ t ∈ ws, t.size ≤ 1048576) (hs : s.size ≤ 1048576) :
    Calls Try.prog 17 #[.slice a n cap, .agg #[.string s, .int .i64 k, .int .i64 m]] w (RetI w (topK ws s k m)) := by
  have B1 := Lib.hid (below_one w (.cells #[.string s, .int .i64 k, .int .i64 m] 24))
  obtain ⟨c, hc⟩ : ∃ c, decide (mayP s k m) = c := ⟨_, rfl⟩
  have M := Lib.hid (fun w => may_any s k m w (by omega))
  rw [hc] at M
  have HH := Lib.hid hh; have HL := Lib.hid hl
  clear hh hl
  cases c with
  | false =>
    have ht : topK ws s k m = [] := if_neg (of_decide_eq_false hc)
    have HT := Lib.hid ht
    clear ht hc
    go_enter Try.func17, Try.ntmps17
    go_wp2_with fail
    refine (M.out _).mono ?_
    rintro e w2 ⟨rfl, hb⟩
    go_wp2_with fail
    go_ret
    exact retI_own HT.out.symm rfl (World.ownsRow_nil _ _ _ _) (B1.out.trans (hb.mono B1.out.size)) _ rfl
  | true =>
    have hm := of_decide_eq_true hc
    have ht : topK ws s k m = (allK ws s k).take m.toNat := if_pos hm
    have hm1 := hm.2.1
    have HT := Lib.hid ht
    clear ht hc hm
    obtain ⟨mm, rfl⟩ : ∃ mm : Nat, m = mm := ⟨m.toNat, by omega⟩
    go_enter Try.func17, Try.ntmps17
    go_wp2_with fail
    have q0 : (w.alloc (.cells #[.string s, .int .i64 k, .int .i64 mm] 24)).cell? ⟨w.heap.size, 0, none⟩ = some (.string s) := by rw [cell_alloc rfl]; rfl
    have q1 : (w.alloc (.cells #[.string s, .int .i64 k, .int .i64 mm] 24)).cell? ⟨w.heap.size, 1, none⟩ = some (.int .i64 k) := by rw [cell_alloc rfl]; rfl
    have q2 : (w.alloc (.cells #[.string s, .int .i64 k, .int .i64 mm] 24)).cell? ⟨w.heap.size, 2, none⟩ = some (.int .i64 mm) := by rw [cell_alloc rfl]; rfl
    generalize w.alloc (.cells #[.string s, .int .i64 k, .int .i64 mm] 24) = w1 at *
    have Q := Lib.hid (show w.heap.size < w1.heap.size from lt_of_cell q0)
    have HQ := Lib.hid (fun (w3 : World) (hb : Below w1.heap.size w1 w3) => show w3.cell? ⟨w.heap.size, 0, none⟩ = some (.string s) ∧ w3.cell? ⟨w.heap.size, 1, none⟩ = some (.int .i64 k) ∧ w3.cell? ⟨w.heap.size, 2, none⟩ = some (.int .i64 mm) from ⟨(hb.cell (p := ⟨w.heap.size, 0, none⟩) Q.out).trans q0, (hb.cell (p := ⟨w.heap.size, 1, none⟩) Q.out).trans q1, (hb.cell (p := ⟨w.heap.size, 2, none⟩) Q.out).trans q2⟩)
    clear q0 q1 q2
    refine (M.out _).mono ?_
    rintro e w2 ⟨rfl, hb⟩
    obtain ⟨q0, q1, q2⟩ := HQ.out _ hb
    have RA := Lib.hid (rankAll_any a n cap ws s k w2 (HH.out.below (B1.out.trans (hb.mono B1.out.size))) hn HL.out hs)
    have B2 := Lib.hid hb
    clear hb
    go_wp2_with fail
    refine RA.out.mono ?_
    rintro e w3 ⟨a2, c2, rfl, hown, hb⟩
    clear q0 q1 q2
    obtain ⟨q0, q1, q2⟩ := HQ.out _ (B2.out.trans (hb.mono B2.out.size))
    have B3 := Lib.hid ((B1.out.trans (B2.out.mono B1.out.size)).trans (hb.mono (Nat.le_trans B1.out.size B2.out.size)))
    have O3 := Lib.hid (hown.mono' (B := w.heap.size) (Nat.le_trans B1.out.size B2.out.size))
    have hcap := (owns_none hown).2
    obtain ⟨L, hL⟩ : ∃ L, (allK ws s k).length = L := ⟨_, rfl⟩
    rw [hL] at O3 hcap ⊢
    have HLL := Lib.hid hL
    clear hown hb hL
    go_wp2_with fail
    go_ret
    refine retI_take (k := (min (L : Int) (mm : Int)).toNat) (ys := allK ws s k) ?_ (by omega) HLL.out O3.out B3.out _ rfl
    rw [HT.out, ← HLL.out]; exact take_min _ mm
end Go.Proofs.Ytmpkmgkafhlpjaa
/- lists of Items: held against each other; lent; kept -/
namespace Go.Proofs.Ytmpkmgkafhlpjaa
open Go.RowKit
set_option linter.unusedVariables false
set_option maxRecDepth 20000
theorem prI_info : (Try.prog.info? 36).map (fun i => (i.zero, i.size, i.bytes)) = some (some (.agg #[.int .i64 0, .string ⟨#[]⟩]), 2, 24) := by kernel_rfl
end Go.Proofs.Ytmpkmgkafhlpjaa
/- contract of GreatTexts -/
namespace Go.Proofs.Ytmpkmgkafhlpjaa
open Go.RowKit
set_option linter.unusedVariables false
set_option maxRecDepth 20000
theorem getD_memT (zs : List Tx) (j : Nat) (h : j < zs.length) : zs.getD j ByteArray.empty ∈ zs := by
  rw [List.getD_eq_getElem?_getD, List.getElem?_eq_getElem h]; simp
def smallP (ts : List Tx) : Prop := ∀ t ∈ ts, t.size ≤ 100
def greatB (ts : List Tx) : Bool := decide (80 < ts.length ∨ ∃ t ∈ ts, 100 < t.size)
theorem great_yes {ts : List Tx} (h : 80 < ts.length ∨ ∃ t ∈ ts, 100 < t.size) : greatB ts = true := decide_eq_true h
theorem great_no {ts : List Tx} (h1 : ts.length ≤ 80) (h2 : smallP ts) : greatB ts = false := by
  refine decide_eq_false ?_
  rintro (h | ⟨t, ht, h⟩)
  · omega
  · have := h2 t ht; omega
theorem great_no_iff {ts : List Tx} : greatB ts = false ↔ ts.length ≤ 80 ∧ smallP ts := by
  constructor
  · intro h
    have h' := of_decide_eq_false h
    refine ⟨Nat.le_of_not_lt fun k => h' (Or.inl k), fun t ht => Nat.le_of_not_lt fun k => h' (Or.inr ⟨t, ht, k⟩)⟩
  · rintro ⟨h1, h2⟩; exact great_no h1 h2
set_option maxHeartbeats 800000 in
theorem great_any (a : Option Addr) (n cap : Nat) (ts : List Tx) (w : World) (hh : HoldsT w a n ts) (hn : n ≤ 9223372036854775807) (hsz : ∀ t ∈ ts, t.size ≤ 9223372036854775807) :
    Calls Try.prog 16 #[.slice a n cap] w fun e w' => e = .returned (.bool (greatB ts)) ∧ Below w.heap.size w w' := by
  have hl := hh.len
  by_cases h80 : n ≤ 80
  case neg =>
    rw [great_yes (Or.inl (by omega))]
    go_enter Try.func16, Try.ntmps16
    go_wp2_with fail
    go_loopw [3] (fun iv wr => iv = .int .i64 0 ∧ wr = w) (fun _ _ => 0)
    case atStart => exact ⟨rfl, rfl⟩
    case round =>
      obtain ⟨rfl, rfl⟩ := hrel
      go_wp2_with fail
      go_ret
      exact ⟨rfl, Below.refl _ _⟩
  go_enter Try.func16, Try.ntmps16
  go_wp2_with fail
  go_loopw [3] (fun iv wr => ∃ j : Nat, j ≤ n ∧ iv = .int .i64 j ∧ Hid (smallP (ts.take j)) ∧ Hid (Below w.heap.size w wr)) (fun iv _ => n - (intOf iv).toNat)
  case atStart => exact ⟨0, by omega, rfl, Lib.hid (by simp [smallP]), Lib.hid (Below.refl _ _)⟩
  case round =>
    obtain ⟨j, hj, rfl, hS, hB⟩ := hrel
    by_cases hlt : j < n
    · obtain ⟨b, o, rfl, hc⟩ := (hh.below hB.out).at (by omega)
      have e1 := hc j hlt
      have hmem := getD_memT ts j (by omega)
      have htk := take_succ_getD ts ByteArray.empty j (by omega)
      obtain ⟨x, hx⟩ : ∃ x, ts.getD j ByteArray.empty = x := ⟨_, rfl⟩
      rw [hx] at e1 hmem htk
      have hxs := hsz x hmem
      have HM := Lib.hid hmem; have HT := Lib.hid htk
      clear hx hmem htk hc
      by_cases hg : 100 < x.size
      · have hgr := great_yes (ts := ts) (Or.inr ⟨x, HM.out, hg⟩)
        have HG := Lib.hid hgr
        clear hgr
        go_wp2_with fail
        go_ret
        exact ⟨ret_bool HG.out.symm, hB.out⟩
      · go_wp2_with fail
        go_roundw
        case rel => exact ⟨j + 1, by omega, by go_num, Lib.hid (by rw [HT.out]; intro z hz; rcases List.mem_append.1 hz with hz | hz; exact hS.out z hz; simp at hz; rw [hz]; omega), hB⟩
        case measure => simp [intOf]; omega
    · have hjn : ts.take j = ts := List.take_of_length_le (by omega)
      have hgr := great_no (ts := ts) (by omega) (by have := hS.out; rw [hjn] at this; exact this)
      have HG := Lib.hid hgr
      clear hjn hgr
      go_wp2_with fail
      go_ret
      exact ⟨ret_bool (by rw [HG.out, decide_eq_false_iff_not]; omega), hB.out⟩
end Go.Proofs.Ytmpkmgkafhlpjaa
/- rank: what every program answers that is one; how long items are; items written over -/
namespace Go.Proofs.Ytmpkmgkafhlpjaa
open Go.RowKit
set_option linter.unusedVariables false
set_option maxRecDepth 20000
theorem d_ab_ab : distS { data := #[97, 98] } { data := #[97, 98] } = 0 := by
  have l1 : lenS { data := #[97, 98] } = 2 := by decide +kernel
  have r1 : intsN (runesS { data := #[97, 98] }) = [97, 98] := by decide +kernel
  have n1 : (runesS { data := #[97, 98] }).length = 2 := by decide +kernel
  unfold distS
  rw [l1, r1, n1, if_pos (by decide)]
  have h0 : Ed.row [97, 98] [97, 98] 0 = [0, 1, 2] := by rw [← upTo_row]; decide
  have h1 : Ed.row [97, 98] [97, 98] 1 = [1, 0, 1] := by rw [← Ed.mix_all _ _ 0, h0]; decide
  have h2 : Ed.row [97, 98] [97, 98] 2 = [2, 1, 0] := by rw [← Ed.mix_all _ _ 1, h1]; decide
  rw [← Ed.row_getD _ _ 2 2 (by decide), h2]
  rfl
theorem d_abc_ab : distS { data := #[97, 98, 99] } { data := #[97, 98] } = 1 := by
  have l1 : lenS { data := #[97, 98] } = 2 := by decide +kernel
  have r1 : intsN (runesS { data := #[97, 98] }) = [97, 98] := by decide +kernel
  have n1 : (runesS { data := #[97, 98] }).length = 2 := by decide +kernel
  have l2 : lenS { data := #[97, 98, 99] } = 3 := by decide +kernel
  have r2 : intsN (runesS { data := #[97, 98, 99] }) = [97, 98, 99] := by decide +kernel
  have n2 : (runesS { data := #[97, 98, 99] }).length = 3 := by decide +kernel
  unfold distS
  rw [l1, r1, n1, l2, r2, n2, if_pos (by decide)]
  have h0 : Ed.row [97, 98, 99] [97, 98] 0 = [0, 1, 2, 3] := by rw [← upTo_row]; decide
  have h1 : Ed.row [97, 98, 99] [97, 98] 1 = [1, 0, 1, 2] := by rw [← Ed.mix_all _ _ 0, h0]; decide
  have h2 : Ed.row [97, 98, 99] [97, 98] 2 = [2, 1, 0, 1] := by rw [← Ed.mix_all _ _ 1, h1]; decide
  rw [← Ed.row_getD _ _ 2 3 (by decide), h2]
  rfl
theorem d_b_ab : distS { data := #[98] } { data := #[97, 98] } = 1 := by
  have l1 : lenS { data := #[97, 98] } = 2 := by decide +kernel
  have r1 : intsN (runesS { data := #[97, 98] }) = [97, 98] := by decide +kernel
  have n1 : (runesS { data := #[97, 98] }).length = 2 := by decide +kernel
  have l2 : lenS { data := #[98] } = 1 := by decide +kernel
  have r2 : intsN (runesS { data := #[98] }) = [98] := by decide +kernel
  have n2 : (runesS { data := #[98] }).length = 1 := by decide +kernel
  unfold distS
  rw [l1, r1, n1, l2, r2, n2, if_pos (by decide)]
  have h0 : Ed.row [98] [97, 98] 0 = [0, 1] := by rw [← upTo_row]; decide
  have h1 : Ed.row [98] [97, 98] 1 = [1, 1] := by rw [← Ed.mix_all _ _ 0, h0]; decide
  have h2 : Ed.row [98] [97, 98] 2 = [2, 1] := by rw [← Ed.mix_all _ _ 1, h1]; decide
  rw [← Ed.row_getD _ _ 2 1 (by decide), h2]
  rfl
theorem top_awake : topK [⟨#[97, 98]⟩, ⟨#[97, 98, 99]⟩, ⟨#[98]⟩] ⟨#[97, 98]⟩ 1 2 = [(0, ⟨#[97, 98]⟩), (1, ⟨#[97, 98, 99]⟩)] := by
  have l1 : lenS { data := #[97, 98] } = 2 := by decide +kernel
  have hm : mayP ⟨#[97, 98]⟩ 1 2 := by unfold mayP; rw [l1]; omega
  have hn : nearL [⟨#[97, 98]⟩, ⟨#[97, 98, 99]⟩, ⟨#[98]⟩] ⟨#[97, 98]⟩ 1 = [(0, ⟨#[97, 98]⟩), (1, ⟨#[97, 98, 99]⟩), (1, ⟨#[98]⟩)] := by
    simp [nearL, d_ab_ab, d_abc_ab, d_b_ab]
  have c1 : cmpS ⟨#[97, 98, 99]⟩ ⟨#[98]⟩ = -1 := by decide +kernel
  have c2 : cmpS ⟨#[98]⟩ ⟨#[97, 98, 99]⟩ = 1 := by decide +kernel
  have hs : sortK [((0 : Int), (⟨#[97, 98]⟩ : Tx)), (1, ⟨#[97, 98, 99]⟩), (1, ⟨#[98]⟩)] = [(0, ⟨#[97, 98]⟩), (1, ⟨#[97, 98, 99]⟩), (1, ⟨#[98]⟩)] := by
    refine sortK_same ?_
    unfold SortedK leK
    simp [ordK, c2]
  unfold topK allK
  rw [if_pos hm, hn, hs]
  rfl
theorem holdsT_lit3 (w : World) (a b c : Tx) (e : TypeId) (fr : Nat × Nat) : HoldsT (w.alloc (.cells #[.string a, .string b, .string c] e fr)) (some ⟨w.heap.size, 0, none⟩) 3 [a, b, c] := by
  refine ⟨rfl, fun _ => ⟨w.heap.size, 0, rfl, fun i hi => ?_⟩⟩
  have : i = 0 ∨ i = 1 ∨ i = 2 := by omega
  rcases this with rfl | rfl | rfl
  · rw [Nat.add_zero, World.cell?_alloc_mark]; rfl
  · rw [Nat.zero_add, World.cell?_alloc_mark]; rfl
  · rw [Nat.zero_add, World.cell?_alloc_mark]; rfl
theorem holdsK_lit2 (w : World) (a b : KV) (e : TypeId) (fr : Nat × Nat) : HoldsK (w.alloc (.cells #[.int .i64 a.1, .string a.2, .int .i64 b.1, .string b.2] e fr)) (some ⟨w.heap.size, 0, none⟩) 2 [a, b] := by
  refine ⟨rfl, fun _ => ⟨w.heap.size, 0, rfl, fun i hi => ?_⟩⟩
  have : i = 0 ∨ i = 1 := by omega
  rcases this with rfl | rfl
  · rw [World.cell?_alloc_mark, World.cell?_alloc_mark]; exact ⟨rfl, rfl⟩
  · rw [World.cell?_alloc_mark, World.cell?_alloc_mark]; exact ⟨rfl, rfl⟩
theorem rankTop_lit (a : Option Addr) (n cap : Nat) (ws : List Tx) (s : Tx) (k m : Int) (ys : List KV) (w : World) (hh : HoldsT w a n ws) (hn : n ≤ 50000) (hl : ∀ t ∈ ws, t.size ≤ 1048576) (hs : s.size ≤ 1048576) (hy : topK ws s k m = ys) :
    Calls Try.prog 17 #[.slice a n cap, .agg #[.string s, .int .i64 k, .int .i64 m]] w (RetI w ys) := by subst hy; exact rankTop_any a n cap ws s k m w hh hn hl hs
def smallK (ks : List KV) : Prop := ∀ k ∈ ks, k.2.size ≤ 100
def greatKB (ks : List KV) : Bool := decide (80 < ks.length ∨ ∃ k ∈ ks, 100 < k.2.size)
theorem greatK_no_iff {ks : List KV} : greatKB ks = false ↔ ks.length ≤ 80 ∧ smallK ks := by
  unfold greatKB smallK
  rw [decide_eq_false_iff_not]
  constructor
  · intro h
    refine ⟨by omega, fun k hk => ?_⟩
    rcases Nat.lt_or_ge 100 k.2.size with h2 | h2
    · exact absurd (Or.inr ⟨k, hk, h2⟩) h
    · exact h2
  · rintro ⟨h1, h2⟩ (h | ⟨k, hk, h3⟩)
    · omega
    · have := h2 k hk; omega
theorem greatK_any (a : Option Addr) (n cap : Nat) (ks : List KV) (w : World) (hh : HoldsK w a n ks) (hn : n ≤ 9223372036854775807) (hx : ∀ k ∈ ks, k.2.size ≤ 9223372036854775807) :
    Calls Try.prog 19 #[.slice a n cap] w fun e w' => e = .returned (.bool (greatKB ks)) ∧ w = w' := by
  have hl := hh.len
  obtain ⟨g, hg'⟩ : ∃ g, greatKB ks = g := ⟨_, rfl⟩
  have hg : g = true ↔ (80 < ks.length ∨ ∃ k ∈ ks, 100 < k.2.size) := by rw [← hg']; exact decide_eq_true_iff
  rw [hg']
  clear hg'
  have HG := Lib.hid hg; have HX := Lib.hid hx; have HH := Lib.hid hh
  clear hg hx hh
  by_cases h1 : 80 < n
  · have hgt : g = true := HG.out.2 (Or.inl (by omega))
    subst hgt
    have h2 : ¬ n ≤ 80 := by omega
    go_enter Try.func19, Try.ntmps19
    go_wp2_with fail
    go_loop [3] (fun c => c = .int .i64 0) (fun _ => 0)
    case atStart => exact rfl
    case round =>
      subst hrel
      go_wp2_with fail
      go_ret
      exact ⟨ret_bool (by simp <;> omega), rfl⟩
  have h2 : n ≤ 80 := by omega
  go_enter Try.func19, Try.ntmps19
  go_wp2_with fail
  go_loop [3] (fun c => ∃ i : Nat, i ≤ n ∧ c = .int .i64 i ∧ Hid (∀ j, j < i → (ks.getD j k0).2.size ≤ 100)) (fun c => n - (intOf c).toNat)
  case atStart => exact ⟨0, by omega, rfl, Lib.hid (by omega)⟩
  case round =>
    obtain ⟨i, hi, rfl, HA⟩ := hrel
    by_cases hin : i < n
    · obtain ⟨b, o, rfl, hc⟩ := HH.out.at (by omega)
      have hc2 := (hc i hin).2
      have hz := HX.out _ (getD_memK ks i (by omega))
      have hmem := getD_memK ks i (by omega)
      have HE := Lib.hid (fun h => HG.out.2 (Or.inr ⟨_, hmem, h⟩))
      have HAn := Lib.hid (fun (h : (ks.getD i k0).2.size ≤ 100) j (hj : j < i + 1) => show (ks.getD j k0).2.size ≤ 100 from (by
          by_cases e : j = i
          · subst e; exact h
          · exact HA.out j (by omega)))
      obtain ⟨x, hx⟩ : ∃ x, ks.getD i k0 = x := ⟨_, rfl⟩
      rw [hx] at hc2 hz HE HAn
      clear hc hx hmem
      obtain ⟨x1, x2⟩ := x
      simp only at hc2 hz HE HAn
      by_cases hs : 100 < x2.size
      · have hgt : g = true := HE.out hs
        subst hgt
        go_wp2_with fail
        go_ret
        exact ⟨rfl, rfl⟩
      · have HA2 := Lib.hid (HAn.out (by omega))
        go_wp2_with fail
        go_round
        case rel => exact ⟨i + 1, by omega, by go_num, HA2⟩
        case measure => simp [intOf]; omega
    · have hgf : g = false := by
        cases hg : g with
        | false => rfl
        | true =>
          rcases HG.out.1 hg with x | ⟨k, hk, x⟩
          · omega
          · obtain ⟨j, hj, rfl⟩ := List.getElem_of_mem hk
            have := HA.out j (by omega)
            simp [List.getD_eq_getElem?_getD, hj] at this
            omega
      subst hgf
      go_wp2_with fail
      go_ret
      exact ⟨ret_bool (by simp <;> omega), rfl⟩
theorem grown_set {w wr : World} {g : Nat} (h : w.grownBy wr (some g)) (o : Nat) (v : Value) : w.grownBy (wr.setCell ⟨g, o, none⟩ v) (some g) :=
  ⟨h.os, h.tape, h.output, by have := h.size; simpa using this, fun b hb hne => (Below.heap_setCell wr ⟨g, o, none⟩ v b (fun e => hne (by show some b = some g; rw [e]))).trans (h.block b hb hne)⟩
end Go.Proofs.Ytmpkmgkafhlpjaa
/- two boxes of two cells, carried -/
namespace Go.Proofs.Ytmpkmgkafhlpjaa
open Go.RowKit
set_option linter.unusedVariables false
set_option maxRecDepth 20000
def Box4q (w0 : World) (p q : Nat) (v0 v1 v2 v3 : Value) (w : World) : Prop := Below w0.heap.size w0 w ∧ w.cell? ⟨p, 0, none⟩ = some v0 ∧ w.cell? ⟨p, 1, none⟩ = some v1 ∧ w.cell? ⟨q, 0, none⟩ = some v2 ∧ w.cell? ⟨q, 1, none⟩ = some v3
theorem box4q_carry {w0 w w' : World} {p q : Nat} {v0 v1 v2 v3 : Value} (h : Box4q w0 p q v0 v1 v2 v3 w) (hb : Below w.heap.size w w') : Box4q w0 p q v0 v1 v2 v3 w' :=
  ⟨h.1.trans (hb.mono h.1.size), by rw [hb.cell (p := ⟨p, 0, none⟩) (lt_of_cell h.2.1)]; exact h.2.1, by rw [hb.cell (p := ⟨p, 1, none⟩) (lt_of_cell h.2.1)]; exact h.2.2.1, by rw [hb.cell (p := ⟨q, 0, none⟩) (lt_of_cell h.2.2.2.1)]; exact h.2.2.2.1, by rw [hb.cell (p := ⟨q, 1, none⟩) (lt_of_cell h.2.2.2.1)]; exact h.2.2.2.2⟩
end Go.Proofs.Ytmpkmgkafhlpjaa
/- a list of texts as argument, opened -/
namespace Go.Proofs.Ytmpkmgkafhlpjaa
open Go.ChangeShapes Go.WideShapes Go.ChangeAt Go.RowKit
set_option linter.unusedVariables false
set_option maxRecDepth 20000
theorem Try.cellsStr : Try.prog.cellsOf 9 = 1 := by kernel_rfl
theorem open_texts_arg {H : Type} {enc : TypeId × Value → H} {W : World} {base : Nat} {v : Value} {d : DataW H} {p : List MemPlace}
    (o : Value.okWide Try.prog W .any base 22 v) (h : DataW.Trod enc Try.prog W 0 (fun _ => true) true 22 v d p) :
    ∃ a n cap ts, v = .slice a n cap ∧ HoldsT W a n ts ∧ (a = none → n = 0 ∧ cap = 0) ∧ n ≤ cap ∧ n ≤ 9223372036854775807 ∧ ∀ t ∈ ts, t.size ≤ 9223372036854775807 := by
  obtain ⟨a, len, cap, rfl⟩ := okWide_slice Try.underlying22 o
  obtain ⟨fuel, hf⟩ := h
  rcases open_strings Try.underlying22 Try.underlying9 Try.cellsStr hf with ⟨hcs, _⟩ | ⟨x, l, c, ss, hcs, _, hl, hm, hz, _, hcell, hsz⟩
  · simp [Value.cells] at hcs
    obtain ⟨rfl, rfl, rfl⟩ := hcs
    exact ⟨none, 0, 0, [], rfl, HoldsT.nil _ _, fun _ => ⟨rfl, rfl⟩, Nat.le_refl _, by omega, by simp⟩
  · simp [Value.cells] at hcs
    obtain ⟨rfl, rfl, rfl⟩ := hcs
    have hzc : ss.length = cap := by simpa using hz
    refine ⟨some x, len, cap, ss.take len, rfl, ?_, (fun h => by cases h), hl, by unfold maxLen at hm; omega, fun t ht => by have := hsz t (List.mem_of_mem_take ht); unfold maxLen at this; omega⟩
    refine ⟨by simp [strsV]; omega, fun h0 => ?_⟩
    obtain ⟨b, off, spot⟩ := x
    have hspot : spot = none := by simpa [Addr.add] using World.cell?_spot (hcell 0 (by omega))
    subst hspot
    refine ⟨b, off, rfl, fun i hi => ?_⟩
    rw [← Go.WideShapes.add_plain, hcell i (by omega), getD_map_str _ i (by simp; omega)]
    congr 2
    simp only [List.getD_eq_getElem?_getD, List.getElem?_take]
    rw [if_pos hi]
end Go.Proofs.Ytmpkmgkafhlpjaa
/- rank in one word; a query as an argument -/
namespace Go.Proofs.Ytmpkmgkafhlpjaa
open Go.RowKit
set_option linter.unusedVariables false
set_option maxRecDepth 20000
def RetJ (w : World) (n : Nat) (ys : List KV) (e : Ending) (w' : World) : Prop := ∃ a c, e = .returned (.slice a n c) ∧ w'.ownsRow w.heap.size 36 2 (.slice a n c) n (keysV ys) ∧ Below w.heap.size w w'
theorem RetI.j {w w' : World} {ys : List KV} {e : Ending} {n : Nat} (h : RetI w ys e w') (hn : ys.length = n) : RetJ w n ys e w' := by subst hn; exact h
theorem top_lit (a : Option Addr) (n cap L : Nat) (ws : List Tx) (s : Tx) (k m : Int) (ys : List KV) (w : World) (hh : HoldsT w a n ws) (hn : n ≤ 50000) (hl : ∀ t ∈ ws, t.size ≤ 1048576) (hs : s.size ≤ 1048576) (hy : topK ws s k m = ys) (hL : ys.length = L) :
    Calls Try.prog 17 #[.slice a n cap, .agg #[.string s, .int .i64 k, .int .i64 m]] w (RetJ w L ys) := by subst hy; exact (rankTop_any a n cap ws s k m w hh hn hl hs).mono fun _ _ h => h.j hL
theorem all_lit (a : Option Addr) (n cap L : Nat) (ws : List Tx) (s : Tx) (k : Int) (ys : List KV) (w : World) (hh : HoldsT w a n ws) (hn : n ≤ 50000) (hl : ∀ t ∈ ws, t.size ≤ 1048576) (hs : s.size ≤ 1048576) (hy : allK ws s k = ys) (hL : ys.length = L) :
    Calls Try.prog 25 #[.slice a n cap, .string s, .int .i64 k] w (RetJ w L ys) := by subst hy; exact (rankAll_any a n cap ws s k w hh hn hl hs).mono fun _ _ h => h.j hL
def Box3q (w0 : World) (p : Nat) (v0 v1 v2 : Value) (w : World) : Prop := Below w0.heap.size w0 w ∧ w.cell? ⟨p, 0, none⟩ = some v0 ∧ w.cell? ⟨p, 1, none⟩ = some v1 ∧ w.cell? ⟨p, 2, none⟩ = some v2
theorem box3q_carry {w0 w w' : World} {p : Nat} {v0 v1 v2 : Value} (h : Box3q w0 p v0 v1 v2 w) (hb : Below w.heap.size w w') : Box3q w0 p v0 v1 v2 w' :=
  ⟨h.1.trans (hb.mono h.1.size), by rw [hb.cell (p := ⟨p, 0, none⟩) (lt_of_cell h.2.1)]; exact h.2.1, by rw [hb.cell (p := ⟨p, 1, none⟩) (lt_of_cell h.2.1)]; exact h.2.2.1, by rw [hb.cell (p := ⟨p, 2, none⟩) (lt_of_cell h.2.1)]; exact h.2.2.2⟩
theorem row_apart {w w' : World} {B B' : Nat} {e e' : TypeId} {s s' : Nat} {v u : Value} {n m : Nat} {xs ys : List Value} (h1 : w.ownsRow B e s v n xs) (h2 : w'.ownsRow B' e' s' u m ys) (hB : w.heap.size ≤ B') : u.ownBlock = none ∨ u.ownBlock ≠ v.ownBlock := by
  cases hu : u.ownBlock with
  | none => exact Or.inl rfl
  | some g =>
    refine Or.inr fun e => ?_
    have a := (h2.lt g hu).1
    have b := (h1.lt g e.symm).2
    omega
theorem tops_len (ws : List Tx) (s : Tx) (k m : Int) : (topK ws s k m).length ≤ ws.length := by
  unfold topK
  split
  · have := allK_len ws s k
    rw [List.length_take]; omega
  · simp
open Go.ChangeShapes Go.WideShapes Go.ChangeAt in
theorem query_arg {H : Type} {enc : TypeId × Value → H} {w : World} {base : Nat} {spare : Nat → Bool} {held : Bool} {r : Reach} {b0 : Nat} {v : Value} {d : DataW H} {p : List MemPlace}
    (hv : Value.okWide Try.prog w r b0 24 v) (h : DataW.Trod enc Try.prog w base spare held 24 v d p) :
    ∃ t k n, t.size ≤ 9223372036854775807 ∧ (Lit.int .i64 k).wf = true ∧ (Lit.int .i64 n).wf = true ∧ v = .agg #[.string t, .int .i64 k, .int .i64 n] := by
  obtain ⟨cs, rfl, hsz⟩ := okWide_struct Try.underlying24 hv
  obtain ⟨fuel, hf⟩ := h
  obtain ⟨hl, n, hf2⟩ := struct_cells Try.underlying24 hf
  rw [show Try.prog.cellsOf 24 = 3 by kernel_rfl] at hl
  obtain ⟨c0, c1, c2, hcs⟩ := list3 hl
  rw [hcs] at hf2
  obtain ⟨y0, z0⟩ := hf2 0 _ rfl
  obtain ⟨y1, z1⟩ := hf2 1 _ rfl
  obtain ⟨y2, z2⟩ := hf2 2 _ rfl
  obtain ⟨s, hs, _, b0⟩ := DataW.trod_string Try.underlying9 z0
  obtain ⟨k1, h1, _, b1⟩ := DataW.trod_int Try.underlying3 z1
  obtain ⟨k2, h2, _, b2⟩ := DataW.trod_int Try.underlying3 z2
  simp [cellsK_int, cellsK_str] at hs h1 h2
  subst hs h1 h2
  refine ⟨s, k1, k2, by unfold maxLen at b0; exact b0, b1, b2, ?_⟩
  congr 1
  apply Array.toList_inj.1
  simpa [Value.cells] using hcs
end Go.Proofs.Ytmpkmgkafhlpjaa
/- contracts of check.Prefix, Complete, Right, Later and the document's -/
namespace Go.Proofs.Ytmpkmgkafhlpjaa
open Go.RowKit
set_option linter.unusedVariables false
set_option maxRecDepth 20000
def Box7 (w0 : World) (p : Nat) (v0 v1 v2 v3 v4 v5 v6 : Value) (w : World) : Prop := Below w0.heap.size w0 w ∧ w.cell? ⟨p, 0, none⟩ = some v0 ∧ w.cell? ⟨p, 1, none⟩ = some v1 ∧ w.cell? ⟨p, 2, none⟩ = some v2 ∧ w.cell? ⟨p, 3, none⟩ = some v3 ∧ w.cell? ⟨p, 4, none⟩ = some v4 ∧ w.cell? ⟨p, 5, none⟩ = some v5 ∧ w.cell? ⟨p, 6, none⟩ = some v6
theorem box7_carry {w0 w w' : World} {p : Nat} {v0 v1 v2 v3 v4 v5 v6 : Value} (h : Box7 w0 p v0 v1 v2 v3 v4 v5 v6 w) (hb : Below w.heap.size w w') : Box7 w0 p v0 v1 v2 v3 v4 v5 v6 w' := by
  obtain ⟨h, h0, h1, h2, h3, h4, h5, h6⟩ := h
  have l := lt_of_cell h0
  exact ⟨h.trans (hb.mono h.size), (hb.cell (p := ⟨p, 0, none⟩) l).trans h0, (hb.cell (p := ⟨p, 1, none⟩) l).trans h1, (hb.cell (p := ⟨p, 2, none⟩) l).trans h2, (hb.cell (p := ⟨p, 3, none⟩) l).trans h3, (hb.cell (p := ⟨p, 4, none⟩) l).trans h4, (hb.cell (p := ⟨p, 5, none⟩) l).trans h5, (hb.cell (p := ⟨p, 6, none⟩) l).trans h6⟩
theorem box7_re {w0 w : World} {p : Nat} {v0 v1 v2 v3 v4 v5 v6 : Value} (h : Box7 w0 p v0 v1 v2 v3 v4 v5 v6 w) : Box7 w p v0 v1 v2 v3 v4 v5 v6 w := ⟨Below.refl _ _, h.2⟩
theorem box7_new (w : World) (v0 v1 v2 v3 v4 v5 v6 : Value) (T : TypeId) : Box7 (w.alloc (.cells #[v0, v1, v2, v3, v4, v5, v6] T)) w.heap.size v0 v1 v2 v3 v4 v5 v6 (w.alloc (.cells #[v0, v1, v2, v3, v4, v5, v6] T)) :=
  ⟨Below.refl _ _, by rw [cell_alloc rfl]; rfl, by rw [cell_alloc rfl]; rfl, by rw [cell_alloc rfl]; rfl, by rw [cell_alloc rfl]; rfl, by rw [cell_alloc rfl]; rfl, by rw [cell_alloc rfl]; rfl, by rw [cell_alloc rfl]; rfl⟩
set_option maxHeartbeats 3200000 in
theorem prefix_any (aw : Option Addr) (nw cw : Nat) (ws : List Tx) (i k m : Int) (q : Tx) (a : Option Addr) (n c : Nat) (xs : List KV) (d l f : Bool) (w : World) (hw : HoldsT w aw nw ws) (hnw : nw ≤ 50000) (hsw : ∀ t ∈ ws, t.size ≤ 1048576) (hq : q.size ≤ 1048576) (hx : HoldsK w a n xs) (hn : n ≤ 1048576) (hf : bgB xs (topK ws q k m) = f) :
    Calls Try.prog 8 #[.slice aw nw cw, .agg #[.int .i64 i, .string q, .int .i64 k, .int .i64 m, .slice a n c, .bool d, .bool l]] w fun e w' => e = .returned (.bool f) ∧ Below w.heap.size w w' := by
  have B0 := Lib.hid (below_one w (.cells #[.int .i64 i, .string q, .int .i64 k, .int .i64 m, .slice a n c, .bool d, .bool l] 27))
  have HB := Lib.hid (box7_new w (.int .i64 i) (.string q) (.int .i64 k) (.int .i64 m) (.slice a n c) (.bool d) (.bool l) 27)
  have HW := Lib.hid (hw.below B0.out); have HX := Lib.hid (hx.below B0.out)
  have lt := tops_len ws q k m
  have lws := hw.len
  obtain ⟨ts, hts⟩ : ∃ z, topK ws q k m = z := ⟨_, rfl⟩
  obtain ⟨L, hL⟩ : ∃ z, ts.length = z := ⟨_, rfl⟩
  rw [hts] at lt hf
  rw [hL] at lt
  have hL5 : L ≤ 50000 := by omega
  have T1 := Lib.hid hts; have T2 := Lib.hid hL; have HF := Lib.hid hf; have SW := Lib.hid hsw
  clear hw hx hts hL hf hsw lt lws
  go_enter Try.func8, Try.ntmps8
  go_upto_region 1 with fail
  generalize w.alloc (.cells #[.int .i64 i, .string q, .int .i64 k, .int .i64 m, .slice a n c, .bool d, .bool l] 27) = w1 at *
  go_region_held3 (fun w' => Below w1.heap.size w1 w' ∧ w'.cell? ⟨w.heap.size, 0, none⟩ = some (.int .i64 i) ∧ w'.cell? ⟨w.heap.size, 1, none⟩ = some (.string q) ∧ w'.cell? ⟨w.heap.size, 2, none⟩ = some (.int .i64 k) ∧ w'.cell? ⟨w.heap.size, 3, none⟩ = some (.int .i64 m) ∧ w'.cell? ⟨w.heap.size, 4, none⟩ = some (.slice a n c) ∧ w'.cell? ⟨w.heap.size, 5, none⟩ = some (.bool d) ∧ w'.cell? ⟨w.heap.size, 6, none⟩ = some (.bool l))
    (first | assumption | exact box7_carry HB.out (Below.refl _ _).drew | exact box7_carry (by assumption) (by assumption))
    (first
      | (go_at_call 17; (with_reducible refine (top_lit aw nw cw L ws q k m ts _ (HW.out.below (And.left (by assumption))) hnw SW.out hq T1.out T2.out).mono ?_); rintro e w' ⟨a8, c8, rfl, o8, hb8⟩)
      | (go_at_call 20; (with_reducible refine (begins_any a n c xs a8 L c8 ts f _ (HX.out.below (And.left (by assumption))) (HoldsK.own o8) (by omega) (by omega) HF.out).mono ?_); rintro e w' ⟨rfl, hb9⟩))
  rename_i T5
  have hb := T5.1
  clear T5
  go_wp2_with fail
  go_ret
  exact ⟨rfl, B0.out.trans (hb.mono B0.out.size)⟩
set_option maxHeartbeats 3200000 in
theorem complete_any (aw : Option Addr) (nw cw : Nat) (ws : List Tx) (i k m : Int) (q : Tx) (a : Option Addr) (n c : Nat) (xs : List KV) (d l f : Bool) (w : World) (hw : HoldsT w aw nw ws) (hnw : nw ≤ 50000) (hsw : ∀ t ∈ ws, t.size ≤ 1048576) (hq : q.size ≤ 1048576) (hx : HoldsK w a n xs) (hn : n ≤ 1048576) (hf : decide (xs = topK ws q k m) = f) :
    Calls Try.prog 10 #[.slice aw nw cw, .agg #[.int .i64 i, .string q, .int .i64 k, .int .i64 m, .slice a n c, .bool d, .bool l]] w fun e w' => e = .returned (.bool f) ∧ Below w.heap.size w w' := by
  have B0 := Lib.hid (below_one w (.cells #[.int .i64 i, .string q, .int .i64 k, .int .i64 m, .slice a n c, .bool d, .bool l] 27))
  have HB := Lib.hid (box7_new w (.int .i64 i) (.string q) (.int .i64 k) (.int .i64 m) (.slice a n c) (.bool d) (.bool l) 27)
  have HW := Lib.hid (hw.below B0.out); have HX := Lib.hid (hx.below B0.out)
  have lt := tops_len ws q k m
  have lws := hw.len
  obtain ⟨ts, hts⟩ : ∃ z, topK ws q k m = z := ⟨_, rfl⟩
  obtain ⟨L, hL⟩ : ∃ z, ts.length = z := ⟨_, rfl⟩
  rw [hts] at lt hf
  rw [hL] at lt
  have hL5 : L ≤ 50000 := by omega
  have T1 := Lib.hid hts; have T2 := Lib.hid hL; have HF := Lib.hid hf; have SW := Lib.hid hsw
  clear hw hx hts hL hf hsw lt lws
  go_enter Try.func10, Try.ntmps10
  go_upto_region 1 with fail
  generalize w.alloc (.cells #[.int .i64 i, .string q, .int .i64 k, .int .i64 m, .slice a n c, .bool d, .bool l] 27) = w1 at *
  go_region_held3 (fun w' => Below w1.heap.size w1 w' ∧ w'.cell? ⟨w.heap.size, 0, none⟩ = some (.int .i64 i) ∧ w'.cell? ⟨w.heap.size, 1, none⟩ = some (.string q) ∧ w'.cell? ⟨w.heap.size, 2, none⟩ = some (.int .i64 k) ∧ w'.cell? ⟨w.heap.size, 3, none⟩ = some (.int .i64 m) ∧ w'.cell? ⟨w.heap.size, 4, none⟩ = some (.slice a n c) ∧ w'.cell? ⟨w.heap.size, 5, none⟩ = some (.bool d) ∧ w'.cell? ⟨w.heap.size, 6, none⟩ = some (.bool l))
    (first | assumption | exact box7_carry HB.out (Below.refl _ _).drew | exact box7_carry (by assumption) (by assumption))
    (first
      | (go_at_call 17; (with_reducible refine (top_lit aw nw cw L ws q k m ts _ (HW.out.below (And.left (by assumption))) hnw SW.out hq T1.out T2.out).mono ?_); rintro e w' ⟨a8, c8, rfl, o8, hb8⟩)
      | (go_at_call 23; (with_reducible refine (equal_any a n c xs a8 L c8 ts f _ (HX.out.below (And.left (by assumption))) (HoldsK.own o8) (by omega) (by omega) HF.out).mono ?_); rintro e w' ⟨rfl, hb9⟩))
  rename_i T5
  have hb := T5.1
  clear T5
  go_wp2_with fail
  go_ret
  exact ⟨rfl, B0.out.trans (hb.mono B0.out.size)⟩
/-- what is right -/
def rightB (ws : List Tx) (q : Tx) (k m : Int) (xs : List KV) (d l : Bool) : Bool := if d then decide (xs = topK ws q k m) && !l else bgB xs (topK ws q k m)
set_option maxHeartbeats 3200000 in
theorem right_any (aw : Option Addr) (nw cw : Nat) (ws : List Tx) (i k m : Int) (q : Tx) (a : Option Addr) (n c : Nat) (xs : List KV) (d l f : Bool) (w : World) (hw : HoldsT w aw nw ws) (hnw : nw ≤ 50000) (hsw : ∀ t ∈ ws, t.size ≤ 1048576) (hq : q.size ≤ 1048576) (hx : HoldsK w a n xs) (hn : n ≤ 1048576) (hf : rightB ws q k m xs d l = f) :
    Calls Try.prog 12 #[.slice aw nw cw, .agg #[.int .i64 i, .string q, .int .i64 k, .int .i64 m, .slice a n c, .bool d, .bool l]] w fun e w' => e = .returned (.bool f) ∧ Below w.heap.size w w' := by
  have B0 := Lib.hid (below_one w (.cells #[.int .i64 i, .string q, .int .i64 k, .int .i64 m, .slice a n c, .bool d, .bool l] 27))
  have HB := Lib.hid (box7_new w (.int .i64 i) (.string q) (.int .i64 k) (.int .i64 m) (.slice a n c) (.bool d) (.bool l) 27)
  have HW := Lib.hid (hw.below B0.out); have HX := Lib.hid (hx.below B0.out)
  cases d with
  | false =>
    have CP := Lib.hid (fun w (h1 : HoldsT w aw nw ws) (h2 : HoldsK w a n xs) => prefix_any aw nw cw ws i k m q a n c xs false l f w h1 hnw hsw hq h2 hn hf)
    clear hw hx hf hsw
    go_enter Try.func12, Try.ntmps12
    go_upto_region 1 with fail
    generalize w.alloc (.cells #[.int .i64 i, .string q, .int .i64 k, .int .i64 m, .slice a n c, .bool false, .bool l] 27) = w1 at *
    obtain ⟨-, e0, e1, e2, e3, e4, e5, e6⟩ := HB.out
    go_wp2_with fail
    refine (CP.out _ HW.out HX.out).mono ?_
    rintro e w' ⟨rfl, hb⟩
    go_wp2_with fail
    go_ret
    exact ⟨rfl, B0.out.trans (hb.mono B0.out.size)⟩
  | true =>
    obtain ⟨g, hg⟩ : ∃ g, decide (xs = topK ws q k m) = g := ⟨_, rfl⟩
    have CP := Lib.hid (fun w (h1 : HoldsT w aw nw ws) (h2 : HoldsK w a n xs) => complete_any aw nw cw ws i k m q a n c xs true l g w h1 hnw hsw hq h2 hn hg)
    have hf2 : (g && !l) = f := by rw [← hf, ← hg]; simp [rightB]
    clear hw hx hf hsw hg
    cases g <;> cases l <;> (simp at hf2; subst hf2)
    all_goals
      go_enter Try.func12, Try.ntmps12
      go_upto_region 1 with fail
      generalize w.alloc _ = w1 at *
      obtain ⟨-, e0, e1, e2, e3, e4, e5, e6⟩ := HB.out
      go_wp2_with fail
      refine (CP.out _ HW.out HX.out).mono ?_
      rintro e w' ⟨rfl, hb⟩
      have B2 := Lib.hid (B0.out.trans (hb.mono B0.out.size))
      obtain ⟨-, e0, e1, e2, e3, e4, e5, e6⟩ := box7_carry HB.out hb
      clear hb
      go_wp2_with fail
      go_ret
      exact ⟨rfl, B2.out⟩
end Go.Proofs.Ytmpkmgkafhlpjaa
/- contracts of the document's Prefix, Complete, Right; of Later, both -/
namespace Go.Proofs.Ytmpkmgkafhlpjaa
open Go.RowKit
set_option linter.unusedVariables false
set_option maxRecDepth 20000
theorem rtop28_lit (a : Option Addr) (n cap L : Nat) (ws : List Tx) (s : Tx) (k m : Int) (ys : List KV) (w : World) (hh : HoldsT w a n ws) (hn : n ≤ 50000) (hl : ∀ t ∈ ws, t.size ≤ 1048576) (hs : s.size ≤ 1048576) (hy : topK ws s k m = ys) (hL : ys.length = L) :
    Calls Try.prog 22 #[.slice a n cap, .agg #[.string s, .int .i64 k, .int .i64 m]] w (RetJ w L ys) := by subst hy; exact (rtop_any a n cap ws s k m w hh hn hl hs).mono fun _ _ h => h.j hL
set_option maxHeartbeats 3200000 in
theorem rprefix_any (aw : Option Addr) (nw cw : Nat) (ws : List Tx) (i k m : Int) (q : Tx) (a : Option Addr) (n c : Nat) (xs : List KV) (d l f : Bool) (w : World) (hw : HoldsT w aw nw ws) (hnw : nw ≤ 50000) (hsw : ∀ t ∈ ws, t.size ≤ 1048576) (hq : q.size ≤ 1048576) (hx : HoldsK w a n xs) (hn : n ≤ 1048576) (hf : bgB xs (topK ws q k m) = f) :
    Calls Try.prog 9 #[.slice aw nw cw, .agg #[.int .i64 i, .string q, .int .i64 k, .int .i64 m, .slice a n c, .bool d, .bool l]] w fun e w' => e = .returned (.bool f) ∧ Below w.heap.size w w' := by
  have B0 := Lib.hid (below_one w (.cells #[.int .i64 i, .string q, .int .i64 k, .int .i64 m, .slice a n c, .bool d, .bool l] 27))
  have HB := Lib.hid (box7_new w (.int .i64 i) (.string q) (.int .i64 k) (.int .i64 m) (.slice a n c) (.bool d) (.bool l) 27)
  have HW := Lib.hid (hw.below B0.out); have HX := Lib.hid (hx.below B0.out)
  have lt := tops_len ws q k m
  have lws := hw.len
  obtain ⟨ts, hts⟩ : ∃ z, topK ws q k m = z := ⟨_, rfl⟩
  obtain ⟨L, hL⟩ : ∃ z, ts.length = z := ⟨_, rfl⟩
  rw [hts] at lt hf
  rw [hL] at lt
  have hL5 : L ≤ 50000 := by omega
  have T1 := Lib.hid hts; have T2 := Lib.hid hL; have HF := Lib.hid hf; have SW := Lib.hid hsw
  clear hw hx hts hL hf hsw lt lws
  go_enter Try.func9, Try.ntmps9
  go_upto_region 1 with fail
  generalize w.alloc (.cells #[.int .i64 i, .string q, .int .i64 k, .int .i64 m, .slice a n c, .bool d, .bool l] 27) = w1 at *
  go_region_held3 (fun w' => Below w1.heap.size w1 w' ∧ w'.cell? ⟨w.heap.size, 0, none⟩ = some (.int .i64 i) ∧ w'.cell? ⟨w.heap.size, 1, none⟩ = some (.string q) ∧ w'.cell? ⟨w.heap.size, 2, none⟩ = some (.int .i64 k) ∧ w'.cell? ⟨w.heap.size, 3, none⟩ = some (.int .i64 m) ∧ w'.cell? ⟨w.heap.size, 4, none⟩ = some (.slice a n c) ∧ w'.cell? ⟨w.heap.size, 5, none⟩ = some (.bool d) ∧ w'.cell? ⟨w.heap.size, 6, none⟩ = some (.bool l))
    (first | assumption | exact box7_carry HB.out (Below.refl _ _).drew | exact box7_carry (by assumption) (by assumption))
    (first
      | (go_at_call 22; (with_reducible refine (rtop28_lit aw nw cw L ws q k m ts _ (HW.out.below (And.left (by assumption))) hnw SW.out hq T1.out T2.out).mono ?_); rintro e w' ⟨a8, c8, rfl, o8, hb8⟩)
      | (go_at_call 21; (with_reducible refine (rbegins_any a n c xs a8 L c8 ts f _ (HX.out.below (And.left (by assumption))) (HoldsK.own o8) (by omega) (by omega) HF.out).mono ?_); rintro e w' ⟨rfl, hb9⟩))
  rename_i T5
  have hb := T5.1
  clear T5
  go_wp2_with fail
  go_ret
  exact ⟨rfl, B0.out.trans (hb.mono B0.out.size)⟩
theorem eq_of_bg {xs ys : List KV} : decide (xs = ys) = (bgB xs ys && decide (xs.length = ys.length)) := by
  unfold bgB
  by_cases h : xs = ys
  · subst h; simp
  · by_cases h2 : xs.length = ys.length
    · rw [h2, List.take_of_length_le (Nat.le_refl _)]; simp [h]
    · simp [h, h2]
set_option maxHeartbeats 3200000 in
theorem rcomplete_any (aw : Option Addr) (nw cw : Nat) (ws : List Tx) (i k m : Int) (q : Tx) (a : Option Addr) (n c : Nat) (xs : List KV) (d l f : Bool) (w : World) (hw : HoldsT w aw nw ws) (hnw : nw ≤ 50000) (hsw : ∀ t ∈ ws, t.size ≤ 1048576) (hq : q.size ≤ 1048576) (hx : HoldsK w a n xs) (hn : n ≤ 1048576) (hf : decide (xs = topK ws q k m) = f) :
    Calls Try.prog 11 #[.slice aw nw cw, .agg #[.int .i64 i, .string q, .int .i64 k, .int .i64 m, .slice a n c, .bool d, .bool l]] w fun e w' => e = .returned (.bool f) ∧ Below w.heap.size w w' := by
  have B0 := Lib.hid (below_one w (.cells #[.int .i64 i, .string q, .int .i64 k, .int .i64 m, .slice a n c, .bool d, .bool l] 27))
  have HB := Lib.hid (box7_new w (.int .i64 i) (.string q) (.int .i64 k) (.int .i64 m) (.slice a n c) (.bool d) (.bool l) 27)
  have HW := Lib.hid (hw.below B0.out); have HX := Lib.hid (hx.below B0.out)
  have lt := tops_len ws q k m
  have lws := hw.len
  have lxs := hx.len
  rw [eq_of_bg] at hf
  obtain ⟨ts, hts⟩ : ∃ z, topK ws q k m = z := ⟨_, rfl⟩
  obtain ⟨L, hL⟩ : ∃ z, ts.length = z := ⟨_, rfl⟩
  rw [hts] at lt hf
  rw [hL] at lt
  rw [hL, lxs] at hf
  obtain ⟨g, hg⟩ : ∃ g, bgB xs ts = g := ⟨_, rfl⟩
  rw [hg] at hf
  have hL5 : L ≤ 50000 := by omega
  have T1 := Lib.hid hts; have T2 := Lib.hid hL; have HG := Lib.hid hg; have SW := Lib.hid hsw
  clear hw hx hts hL hg hsw lt lws lxs
  go_enter Try.func11, Try.ntmps11
  go_upto_region 1 with fail
  generalize w.alloc (.cells #[.int .i64 i, .string q, .int .i64 k, .int .i64 m, .slice a n c, .bool d, .bool l] 27) = w1 at *
  obtain ⟨-, e0, e1, e2, e3, e4, e5, e6⟩ := HB.out
  go_wp2_with fail
  refine (rtop28_lit aw nw cw L ws q k m ts _ HW.out hnw SW.out hq T1.out T2.out).mono ?_
  rintro e w2 ⟨a8, c8, rfl, o8, hb8⟩
  have B2 := Lib.hid (B0.out.trans (hb8.mono B0.out.size))
  have HT := Lib.hid (HoldsK.own o8)
  have HX2 := Lib.hid (HX.out.below hb8)
  have HB2 := Lib.hid (box7_carry HB.out hb8)
  clear o8 hb8 e0 e1 e2 e3 e4 e5 e6
  obtain ⟨-, e0, e1, e2, e3, e4, e5, e6⟩ := HB2.out
  go_wp2_with fail
  refine (rbegins_any a n c xs a8 L c8 ts g _ HX2.out HT.out (by omega) (by omega) HG.out).mono ?_
  rintro e w3 ⟨rfl, hb9⟩
  have B3 := Lib.hid (B2.out.trans (hb9.mono B2.out.size))
  have HB3 := Lib.hid (box7_carry HB2.out hb9)
  clear hb9 e0 e1 e2 e3 e4 e5 e6
  obtain ⟨-, e0, e1, e2, e3, e4, e5, e6⟩ := HB3.out
  cases g with
  | false =>
    obtain rfl : false = f := by simpa using hf
    go_wp2_with fail
    go_ret
    exact ⟨rfl, B3.out⟩
  | true =>
    by_cases hnl : n = L
    · subst hnl
      obtain rfl : true = f := by simpa using hf
      have x1 : ((n : Int) == (n : Int)) = true := by simp
      go_wp2_with fail
      go_ret
      exact ⟨rfl, B3.out⟩
    · obtain rfl : false = f := by simpa [hnl] using hf
      have x1 : ((n : Int) == (L : Int)) = false := by simp; omega
      clear hf
      go_wp2_with fail
      go_ret
      exact ⟨rfl, B3.out⟩
theorem bg_of_eq {xs ys : List KV} (h : decide (xs = ys) = true) : bgB xs ys = true := by
  have e := of_decide_eq_true h
  subst e; simp [bgB]
set_option maxHeartbeats 3200000 in
theorem rright_any (aw : Option Addr) (nw cw : Nat) (ws : List Tx) (i k m : Int) (q : Tx) (a : Option Addr) (n c : Nat) (xs : List KV) (d l f : Bool) (w : World) (hw : HoldsT w aw nw ws) (hnw : nw ≤ 50000) (hsw : ∀ t ∈ ws, t.size ≤ 1048576) (hq : q.size ≤ 1048576) (hx : HoldsK w a n xs) (hn : n ≤ 1048576) (hf : rightB ws q k m xs d l = f) :
    Calls Try.prog 13 #[.slice aw nw cw, .agg #[.int .i64 i, .string q, .int .i64 k, .int .i64 m, .slice a n c, .bool d, .bool l]] w fun e w' => e = .returned (.bool f) ∧ Below w.heap.size w w' := by
  have B0 := Lib.hid (below_one w (.cells #[.int .i64 i, .string q, .int .i64 k, .int .i64 m, .slice a n c, .bool d, .bool l] 27))
  have HB := Lib.hid (box7_new w (.int .i64 i) (.string q) (.int .i64 k) (.int .i64 m) (.slice a n c) (.bool d) (.bool l) 27)
  have HW := Lib.hid (hw.below B0.out); have HX := Lib.hid (hx.below B0.out)
  obtain ⟨p, hp⟩ : ∃ g, bgB xs (topK ws q k m) = g := ⟨_, rfl⟩
  obtain ⟨g, hg⟩ : ∃ g, decide (xs = topK ws q k m) = g := ⟨_, rfl⟩
  have CP := Lib.hid (fun w (h1 : HoldsT w aw nw ws) (h2 : HoldsK w a n xs) => rprefix_any aw nw cw ws i k m q a n c xs d l p w h1 hnw hsw hq h2 hn hp)
  have CC := Lib.hid (fun w (h1 : HoldsT w aw nw ws) (h2 : HoldsK w a n xs) => rcomplete_any aw nw cw ws i k m q a n c xs d l g w h1 hnw hsw hq h2 hn hg)
  have hpg : g = true → p = true := fun e => by rw [← hp]; exact bg_of_eq (by rw [hg, e])
  have hf2 : (if d then g && !l else p) = f := by rw [← hf, ← hg, ← hp]; rfl
  clear hw hx hf hsw hg hp
  go_enter Try.func13, Try.ntmps13
  go_upto_region 1 with fail
  generalize w.alloc (.cells #[.int .i64 i, .string q, .int .i64 k, .int .i64 m, .slice a n c, .bool d, .bool l] 27) = w1 at *
  obtain ⟨-, e0, e1, e2, e3, e4, e5, e6⟩ := HB.out
  have HF := Lib.hid hf2; have HG := Lib.hid hpg
  clear hf2 hpg
  go_wp2_with fail
  refine (CP.out _ HW.out HX.out).mono ?_
  rintro e w2 ⟨rfl, hb⟩
  have B2 := Lib.hid (B0.out.trans (hb.mono B0.out.size))
  have HW2 := Lib.hid (HW.out.below hb)
  have HX2 := Lib.hid (HX.out.below hb)
  have HB2 := Lib.hid (box7_carry HB.out hb)
  clear hb e0 e1 e2 e3 e4 e5 e6
  obtain ⟨-, e0, e1, e2, e3, e4, e5, e6⟩ := HB2.out
  cases p with
  | false =>
    obtain rfl : f = false := by
      have h1 := HF.out
      cases g with
      | true => have := HG.out rfl; cases this
      | false => rw [← h1]; cases d <;> simp
    go_wp2_with fail
    go_ret
    exact ⟨rfl, B2.out⟩
  | true =>
    cases d with
    | false =>
      obtain rfl : f = true := by have h1 := HF.out; rw [← h1]; simp
      go_wp2_with fail
      go_ret
      exact ⟨rfl, B2.out⟩
    | true =>
      have h1 := HF.out
      rw [if_pos rfl] at h1
      clear HF HG
      go_wp2_with fail
      refine (CC.out _ HW2.out HX2.out).mono ?_
      rintro e w3 ⟨rfl, hb⟩
      have B3 := Lib.hid (B2.out.trans (hb.mono B2.out.size))
      have HB3 := Lib.hid (box7_carry HB2.out hb)
      clear hb e0 e1 e2 e3 e4 e5 e6
      obtain ⟨-, e0, e1, e2, e3, e4, e5, e6⟩ := HB3.out
      cases g <;> cases l <;> (simp at h1; subst h1)
      all_goals
        go_wp2_with fail
        go_ret
        exact ⟨rfl, B3.out⟩
/-- what may come behind -/
def laterB (i1 : Int) (q1 : Tx) (k1 m1 : Int) (xs : List KV) (d1 l1 : Bool) (i2 : Int) (q2 : Tx) (k2 m2 : Int) (ys : List KV) (d2 l2 : Bool) : Bool :=
  decide (i1 = i2 ∧ q1 = q2 ∧ k1 = k2 ∧ m1 = m2) && bgB xs ys && ((!d1 && !l1) || (decide (xs.length = ys.length) && (d1 == d2) && (l1 == l2)))
set_option maxRecDepth 100000 in
set_option maxHeartbeats 6400000 in
theorem later_any (i1 : Int) (q1 : Tx) (k1 m1 : Int) (a : Option Addr) (n ca : Nat) (xs : List KV) (d1 l1 : Bool) (i2 : Int) (q2 : Tx) (k2 m2 : Int) (b : Option Addr) (m cb : Nat) (ys : List KV) (d2 l2 f : Bool) (w : World) (h1 : HoldsK w a n xs) (h2 : HoldsK w b m ys) (hn : n ≤ 1048576) (hm : m ≤ 1048576) (hf : laterB i1 q1 k1 m1 xs d1 l1 i2 q2 k2 m2 ys d2 l2 = f) :
    Calls Try.prog 14 #[.agg #[.int .i64 i1, .string q1, .int .i64 k1, .int .i64 m1, .slice a n ca, .bool d1, .bool l1], .agg #[.int .i64 i2, .string q2, .int .i64 k2, .int .i64 m2, .slice b m cb, .bool d2, .bool l2]] w fun e w' => e = .returned (.bool f) ∧ Below w.heap.size w w' := by
  have L1 := Lib.hid h1.len; have L2 := Lib.hid h2.len
  have B0 := Lib.hid (below_one w (.cells #[.int .i64 i1, .string q1, .int .i64 k1, .int .i64 m1, .slice a n ca, .bool d1, .bool l1] 27))
  have HB := Lib.hid (box7_new w (.int .i64 i1) (.string q1) (.int .i64 k1) (.int .i64 m1) (.slice a n ca) (.bool d1) (.bool l1) 27)
  have H1 := Lib.hid (h1.below B0.out); have H2 := Lib.hid (h2.below B0.out)
  obtain ⟨g, hg⟩ : ∃ g, bgB xs ys = g := ⟨_, rfl⟩
  have HG := Lib.hid hg; have HF := Lib.hid hf
  clear h1 h2 hg hf
  go_enter Try.func14, Try.ntmps14
  go_upto_region 1 with fail
  have hr : (w.alloc (.cells #[.int .i64 i1, .string q1, .int .i64 k1, .int .i64 m1, .slice a n ca, .bool d1, .bool l1] 27)).heap.size = w.heap.size + 1 := by simp
  generalize w.alloc (.cells #[.int .i64 i1, .string q1, .int .i64 k1, .int .i64 m1, .slice a n ca, .bool d1, .bool l1] 27) = w1 at *
  have hb1 := below_one w1 (.cells #[.int .i64 i2, .string q2, .int .i64 k2, .int .i64 m2, .slice b m cb, .bool d2, .bool l2] 27)
  have B1 := Lib.hid (B0.out.trans (hb1.mono B0.out.size))
  have HA1 := Lib.hid (box7_carry HB.out hb1)
  have HC1 := Lib.hid (box7_new w1 (.int .i64 i2) (.string q2) (.int .i64 k2) (.int .i64 m2) (.slice b m cb) (.bool d2) (.bool l2) 27)
  have K1 := Lib.hid (H1.out.below hb1); have K2 := Lib.hid (H2.out.below hb1)
  clear hb1 HB B0 H1 H2
  generalize w1.alloc (.cells #[.int .i64 i2, .string q2, .int .i64 k2, .int .i64 m2, .slice b m cb, .bool d2, .bool l2] 27) = w2 at *
  rw [hr] at HC1
  obtain ⟨r, hr2⟩ : ∃ r, w.heap.size + 1 = r := ⟨_, rfl⟩
  rw [hr2] at HC1
  simp only [hr2]
  clear hr hr2
  obtain ⟨-, e0, e1, e2, e3, e4, e5, e6⟩ := HA1.out
  obtain ⟨-, f0, f1, f2, f3, f4, f5, f6⟩ := HC1.out
  by_cases hc : i1 = i2
  case neg =>
    obtain rfl : f = false := by rw [← HF.out]; simp [laterB, hc]
    have x1 : (i1 != i2) = true := by simpa using hc
    clear hc
    go_wp2_with fail
    go_ret
    exact ⟨rfl, B1.out⟩
  subst hc
  have x1 : (i1 != i1) = false := by simp
  by_cases hc : q1 = q2
  case neg =>
    obtain rfl : f = false := by rw [← HF.out]; simp [laterB, hc]
    have y1 := str_other hc
    clear hc
    go_wp2_with fail
    go_ret
    exact ⟨rfl, B1.out⟩
  subst hc
  have y1 := str_same q1
  by_cases hc : k1 = k2
  case neg =>
    obtain rfl : f = false := by rw [← HF.out]; simp [laterB, hc]
    have y2 : (k1 == k2) = false := by simpa using hc
    clear hc
    go_wp2_with fail
    go_ret
    exact ⟨rfl, B1.out⟩
  subst hc
  have y2 : (k1 == k1) = true := by simp
  by_cases hc : m1 = m2
  case neg =>
    obtain rfl : f = false := by rw [← HF.out]; simp [laterB, hc]
    have y3 : (m1 == m2) = false := by simpa using hc
    clear hc
    go_wp2_with fail
    go_ret
    exact ⟨rfl, B1.out⟩
  subst hc
  have y3 : (m1 == m1) = true := by simp
  have HG2 := Lib.hid (show laterB i1 q1 k1 m1 xs d1 l1 i1 q1 k1 m1 ys d2 l2 = (g && ((!d1 && !l1) || (decide (n = m) && (d1 == d2) && (l1 == l2)))) from by simp [laterB, HG.out, L1.out, L2.out])
  have HF2 := Lib.hid (HG2.out.symm.trans HF.out)
  clear HF HG2
  go_wp2_with fail
  refine (begins_any a n ca xs b m cb ys g _ K1.out K2.out (by omega) (by omega) HG.out).mono ?_
  rintro e w3 ⟨rfl, hb⟩
  have B3 := Lib.hid (B1.out.trans (hb.mono B1.out.size))
  have HA3 := Lib.hid (box7_carry HA1.out hb)
  have HC3 := Lib.hid (box7_carry HC1.out hb)
  clear hb HA1 HC1 e0 e1 e2 e3 e4 e5 e6 f0 f1 f2 f3 f4 f5 f6 HG
  obtain ⟨-, e0, e1, e2, e3, e4, e5, e6⟩ := HA3.out
  obtain ⟨-, f0, f1, f2, f3, f4, f5, f6⟩ := HC3.out
  cases g with
  | false =>
    obtain rfl : false = f := HF2.out
    go_wp2_with fail
    go_ret
    exact ⟨rfl, B3.out⟩
  | true =>
    by_cases hnm : n = m
    · subst hnm
      have x2 : ((n : Int) == (n : Int)) = true := by simp
      have h3 := HF2.out
      clear HF2
      cases d1 <;> cases l1 <;> cases d2 <;> cases l2 <;> (simp at h3; subst h3)
      all_goals
        go_wp2_with fail
        go_ret
        exact ⟨rfl, B3.out⟩
    · have x2 : ((n : Int) == (m : Int)) = false := by simp; omega
      have h3 := HF2.out
      rw [decide_eq_false hnm] at h3
      clear HF2 hnm
      cases d1 <;> cases l1 <;> cases d2 <;> cases l2 <;> (simp at h3; subst h3)
      all_goals
        go_wp2_with fail
        go_ret
        exact ⟨rfl, B3.out⟩
end Go.Proofs.Ytmpkmgkafhlpjaa
/- contracts of the document's Later -/
namespace Go.Proofs.Ytmpkmgkafhlpjaa
open Go.RowKit
set_option linter.unusedVariables false
set_option maxRecDepth 20000
set_option maxRecDepth 100000 in
set_option maxHeartbeats 6400000 in
theorem rlater_any (i1 : Int) (q1 : Tx) (k1 m1 : Int) (a : Option Addr) (n ca : Nat) (xs : List KV) (d1 l1 : Bool) (i2 : Int) (q2 : Tx) (k2 m2 : Int) (b : Option Addr) (m cb : Nat) (ys : List KV) (d2 l2 f : Bool) (w : World) (h1 : HoldsK w a n xs) (h2 : HoldsK w b m ys) (hn : n ≤ 1048576) (hm : m ≤ 1048576) (hf : laterB i1 q1 k1 m1 xs d1 l1 i2 q2 k2 m2 ys d2 l2 = f) :
    Calls Try.prog 15 #[.agg #[.int .i64 i1, .string q1, .int .i64 k1, .int .i64 m1, .slice a n ca, .bool d1, .bool l1], .agg #[.int .i64 i2, .string q2, .int .i64 k2, .int .i64 m2, .slice b m cb, .bool d2, .bool l2]] w fun e w' => e = .returned (.bool f) ∧ Below w.heap.size w w' := by
  have L1 := Lib.hid h1.len; have L2 := Lib.hid h2.len
  have B0 := Lib.hid (below_one w (.cells #[.int .i64 i1, .string q1, .int .i64 k1, .int .i64 m1, .slice a n ca, .bool d1, .bool l1] 27))
  have HB := Lib.hid (box7_new w (.int .i64 i1) (.string q1) (.int .i64 k1) (.int .i64 m1) (.slice a n ca) (.bool d1) (.bool l1) 27)
  have H1 := Lib.hid (h1.below B0.out); have H2 := Lib.hid (h2.below B0.out)
  obtain ⟨g, hg⟩ : ∃ g, bgB xs ys = g := ⟨_, rfl⟩
  have HG := Lib.hid hg; have HF := Lib.hid hf
  clear h1 h2 hg hf
  go_enter Try.func15, Try.ntmps15
  go_upto_region 1 with fail
  have hr : (w.alloc (.cells #[.int .i64 i1, .string q1, .int .i64 k1, .int .i64 m1, .slice a n ca, .bool d1, .bool l1] 27)).heap.size = w.heap.size + 1 := by simp
  generalize w.alloc (.cells #[.int .i64 i1, .string q1, .int .i64 k1, .int .i64 m1, .slice a n ca, .bool d1, .bool l1] 27) = w1 at *
  have hb1 := below_one w1 (.cells #[.int .i64 i2, .string q2, .int .i64 k2, .int .i64 m2, .slice b m cb, .bool d2, .bool l2] 27)
  have B1 := Lib.hid (B0.out.trans (hb1.mono B0.out.size))
  have HA1 := Lib.hid (box7_carry HB.out hb1)
  have HC1 := Lib.hid (box7_new w1 (.int .i64 i2) (.string q2) (.int .i64 k2) (.int .i64 m2) (.slice b m cb) (.bool d2) (.bool l2) 27)
  have K1 := Lib.hid (H1.out.below hb1); have K2 := Lib.hid (H2.out.below hb1)
  clear hb1 HB B0 H1 H2
  generalize w1.alloc (.cells #[.int .i64 i2, .string q2, .int .i64 k2, .int .i64 m2, .slice b m cb, .bool d2, .bool l2] 27) = w2 at *
  rw [hr] at HC1
  obtain ⟨r, hr2⟩ : ∃ r, w.heap.size + 1 = r := ⟨_, rfl⟩
  rw [hr2] at HC1
  simp only [hr2]
  clear hr hr2
  obtain ⟨-, e0, e1, e2, e3, e4, e5, e6⟩ := HA1.out
  obtain ⟨-, f0, f1, f2, f3, f4, f5, f6⟩ := HC1.out
  by_cases hc : i1 = i2
  case neg =>
    obtain rfl : f = false := by rw [← HF.out]; simp [laterB, hc]
    have x1 : (i1 != i2) = true := by simpa using hc
    clear hc
    go_wp2_with fail
    go_ret
    exact ⟨rfl, B1.out⟩
  subst hc
  have x1 : (i1 != i1) = false := by simp
  by_cases hc : q1 = q2
  case neg =>
    obtain rfl : f = false := by rw [← HF.out]; simp [laterB, hc]
    have y1 := str_other hc
    clear hc
    go_wp2_with fail
    go_ret
    exact ⟨rfl, B1.out⟩
  subst hc
  have y1 := str_same q1
  by_cases hc : k1 = k2
  case neg =>
    obtain rfl : f = false := by rw [← HF.out]; simp [laterB, hc]
    have y2 : (k1 == k2) = false := by simpa using hc
    clear hc
    go_wp2_with fail
    go_ret
    exact ⟨rfl, B1.out⟩
  subst hc
  have y2 : (k1 == k1) = true := by simp
  by_cases hc : m1 = m2
  case neg =>
    obtain rfl : f = false := by rw [← HF.out]; simp [laterB, hc]
    have y3 : (m1 == m2) = false := by simpa using hc
    clear hc
    go_wp2_with fail
    go_ret
    exact ⟨rfl, B1.out⟩
  subst hc
  have y3 : (m1 == m1) = true := by simp
  have HG2 := Lib.hid (show laterB i1 q1 k1 m1 xs d1 l1 i1 q1 k1 m1 ys d2 l2 = (g && ((!d1 && !l1) || (decide (n = m) && (d1 == d2) && (l1 == l2)))) from by simp [laterB, HG.out, L1.out, L2.out])
  have HF2 := Lib.hid (HG2.out.symm.trans HF.out)
  clear HF HG2
  go_wp2_with fail
  refine (rbegins_any a n ca xs b m cb ys g _ K1.out K2.out (by omega) (by omega) HG.out).mono ?_
  rintro e w3 ⟨rfl, hb⟩
  have B3 := Lib.hid (B1.out.trans (hb.mono B1.out.size))
  have HA3 := Lib.hid (box7_carry HA1.out hb)
  have HC3 := Lib.hid (box7_carry HC1.out hb)
  clear hb HA1 HC1 e0 e1 e2 e3 e4 e5 e6 f0 f1 f2 f3 f4 f5 f6 HG
  obtain ⟨-, e0, e1, e2, e3, e4, e5, e6⟩ := HA3.out
  obtain ⟨-, f0, f1, f2, f3, f4, f5, f6⟩ := HC3.out
  cases g with
  | false =>
    obtain rfl : false = f := HF2.out
    go_wp2_with fail
    go_ret
    exact ⟨rfl, B3.out⟩
  | true =>
    by_cases hnm : n = m
    · subst hnm
      have x2 : ((n : Int) == (n : Int)) = true := by simp
      have h3 := HF2.out
      clear HF2
      cases d1 <;> cases l1 <;> cases d2 <;> cases l2 <;> (simp at h3; subst h3)
      all_goals
        go_wp2_with fail
        go_ret
        exact ⟨rfl, B3.out⟩
    · have x2 : ((n : Int) == (m : Int)) = false := by simp; omega
      have h3 := HF2.out
      rw [decide_eq_false hnm] at h3
      clear HF2 hnm
      cases d1 <;> cases l1 <;> cases d2 <;> cases l2 <;> (simp at h3; subst h3)
      all_goals
        go_wp2_with fail
        go_ret
        exact ⟨rfl, B3.out⟩
end Go.Proofs.Ytmpkmgkafhlpjaa
/- awake and great of the laws of check -/
namespace Go.Proofs.Ytmpkmgkafhlpjaa
open Go.RowKit
set_option linter.unusedVariables false
set_option maxRecDepth 20000
abbrev cA : Tx := { data := #[97] }
theorem d_a_a : distS cA cA = 0 := by
  have l1 : lenS cA = 1 := by decide +kernel
  have r1 : intsN (runesS cA) = [97] := by decide +kernel
  have n1 : (runesS cA).length = 1 := by decide +kernel
  unfold distS
  rw [l1, r1, n1, if_pos (by decide)]
  have h0 : Ed.row [97] [97] 0 = [0, 1] := by rw [← upTo_row]; decide
  have h1 : Ed.row [97] [97] 1 = [1, 0] := by rw [← Ed.mix_all _ _ 0, h0]; decide
  rw [← Ed.row_getD _ _ 1 1 (by decide), h1]
  rfl
theorem top_a : topK [cA] cA 0 1 = [(0, cA)] := by
  have l1 : lenS cA = 1 := by decide +kernel
  have hm : mayP cA 0 1 := by unfold mayP; rw [l1]; omega
  have hn : nearL [cA] cA 0 = [(0, cA)] := by simp [nearL, d_a_a]
  have hs : sortK [((0 : Int), cA)] = [(0, cA)] := sortK_same (by simp [SortedK])
  unfold topK allK
  rw [if_pos hm, hn, hs]
  rfl
theorem holdsT_lit1 (w : World) (a : Tx) (e : TypeId) (fr : Nat × Nat) : HoldsT (w.alloc (.cells #[.string a] e fr)) (some ⟨w.heap.size, 0, none⟩) 1 [a] := by
  refine ⟨rfl, fun _ => ⟨w.heap.size, 0, rfl, fun i hi => ?_⟩⟩
  obtain rfl : i = 0 := by omega
  rw [Nat.zero_add, World.cell?_alloc_mark]; rfl
theorem holdsK_lit1 (w : World) (a : KV) (e : TypeId) (fr : Nat × Nat) : HoldsK (w.alloc (.cells #[.int .i64 a.1, .string a.2] e fr)) (some ⟨w.heap.size, 0, none⟩) 1 [a] := by
  refine ⟨rfl, fun _ => ⟨w.heap.size, 0, rfl, fun i hi => ?_⟩⟩
  obtain rfl : i = 0 := by omega
  rw [Nat.zero_mul, Nat.zero_add, World.cell?_alloc_mark]
  exact ⟨by simp, by rw [World.cell?_alloc_mark]; simp⟩
set_option maxHeartbeats 3200000 in
theorem awake28_any (w : World) : Calls Try.prog 7 #[] w fun e w' => e = .returned (.bool true) ∧ Below w.heap.size w w' := by
  go_enter Try.func7, Try.ntmps7
  go_upto_region 5 with fail
  have hA := box7_new w (.int .i64 0) (.string cA) (.int .i64 0) (.int .i64 1) (.slice none 0 0) (.bool false) (.bool false) 27
  have B1 := below_one w (.cells #[.int .i64 0, .string cA, .int .i64 0, .int .i64 1, .slice none 0 0, .bool false, .bool false] 27)
  have z1 : (w.alloc (.cells #[.int .i64 0, .string cA, .int .i64 0, .int .i64 1, .slice none 0 0, .bool false, .bool false] 27)).heap.size = w.heap.size + 1 := by simp
  generalize w.alloc (.cells #[.int .i64 0, .string cA, .int .i64 0, .int .i64 1, .slice none 0 0, .bool false, .bool false] 27) = w1 at *
  have hC := box7_new w1 (.int .i64 0) (.string cA) (.int .i64 0) (.int .i64 1) (.slice (some ⟨w.heap.size + 1 + 1, 0, none⟩) 1 1) (.bool true) (.bool false) 27
  have b2 := below_one w1 (.cells #[.int .i64 0, .string cA, .int .i64 0, .int .i64 1, .slice (some ⟨w.heap.size + 1 + 1, 0, none⟩) 1 1, .bool true, .bool false] 27)
  have z2 : (w1.alloc (.cells #[.int .i64 0, .string cA, .int .i64 0, .int .i64 1, .slice (some ⟨w.heap.size + 1 + 1, 0, none⟩) 1 1, .bool true, .bool false] 27)).heap.size = w.heap.size + 1 + 1 := by simp [z1]
  rw [z1] at hC
  generalize w1.alloc (.cells #[.int .i64 0, .string cA, .int .i64 0, .int .i64 1, .slice (some ⟨w.heap.size + 1 + 1, 0, none⟩) 1 1, .bool true, .bool false] 27) = w2 at *
  have hK := holdsK_lit1 w2 (0, cA) 36 (0, 0)
  have b3 := below_one w2 (.cells #[.int .i64 0, .string cA] 36)
  have z3 : (w2.alloc (.cells #[.int .i64 0, .string cA] 36)).heap.size = w.heap.size + 1 + 1 + 1 := by simp [z2]
  rw [z2] at hK
  have HA3 := Lib.hid (box7_carry (box7_carry hA b2) b3)
  have HC3 := Lib.hid (box7_carry hC b3)
  have B3 := Lib.hid ((B1.trans (b2.mono B1.size)).trans (b3.mono (by rw [z2]; omega)))
  have HK3 := Lib.hid hK
  simp only at HK3
  clear hA B1 z1 hC b2 hK b3 z2
  generalize w2.alloc (.cells #[.int .i64 0, .string cA] 36) = w3 at *
  have y1 : w.heap.size < w3.heap.size := by omega
  have y2 : w.heap.size + 1 < w3.heap.size := by omega
  obtain ⟨q2, hq2⟩ : ∃ q, w.heap.size + 1 = q := ⟨_, rfl⟩
  rw [hq2] at HC3 HK3 y2 z3
  simp only [hq2]
  obtain ⟨q3, hq3⟩ : ∃ q, q2 + 1 = q := ⟨_, rfl⟩
  rw [hq3] at HC3 HK3 z3
  simp only [hq3]
  obtain ⟨q1, hq1⟩ : ∃ q, w.heap.size = q := ⟨_, rfl⟩
  rw [hq1] at HA3 y1 B3
  simp only [hq1]
  have HQ1 := Lib.hid hq1
  have TA := Lib.hid top_a
  have c1 : ∀ x ∈ [cA], x.size ≤ 1048576 := by intro x hx; simp at hx; subst hx; decide
  have C1 := Lib.hid c1
  have CP := Lib.hid (fun w a (h : HoldsT w a 1 [cA]) => prefix_any a 1 1 [cA] 0 0 1 cA none 0 0 [] false false true w h (by omega) C1.out (by decide) (HoldsK.nil _ _) (by omega) (by rw [TA.out]; rfl))
  clear hq1 hq2 hq3 z3 c1
  obtain ⟨-, e0, e1, e2, e3, e4, e5, e6⟩ := HA3.out
  obtain ⟨-, f0, f1, f2, f3, f4, f5, f6⟩ := HC3.out
  have CC := Lib.hid (fun w a (h : HoldsT w a 1 [cA]) => complete_any a 1 1 [cA] 0 0 1 cA none 0 0 [] false false false w h (by omega) C1.out (by decide) (HoldsK.nil _ _) (by omega) (by rw [TA.out]; rfl))
  have CR := Lib.hid (fun w a (h : HoldsT w a 1 [cA]) (h2 : HoldsK w (some ⟨q3, 0, none⟩) 1 [(0, cA)]) => right_any a 1 1 [cA] 0 0 1 cA (some ⟨q3, 0, none⟩) 1 1 [(0, cA)] true false true w h (by omega) C1.out (by decide) h2 (by omega) (by unfold rightB; rw [TA.out]; rfl))
  have CL1 := Lib.hid (fun w (h2 : HoldsK w (some ⟨q3, 0, none⟩) 1 [(0, cA)]) => later_any 0 cA 0 1 none 0 0 [] false false 0 cA 0 1 (some ⟨q3, 0, none⟩) 1 1 [(0, cA)] true false true w (HoldsK.nil _ _) h2 (by omega) (by omega) (by simp [laterB, bgB]))
  have CL2 := Lib.hid (fun w (h2 : HoldsK w (some ⟨q3, 0, none⟩) 1 [(0, cA)]) => later_any 0 cA 0 1 (some ⟨q3, 0, none⟩) 1 1 [(0, cA)] true false 0 cA 0 1 none 0 0 [] false false false w h2 (HoldsK.nil _ _) (by omega) (by omega) (by simp [laterB, bgB]))
  go_wp2_with fail
  refine (CP.out _ _ (holdsT_lit1 w3 cA _ _)).mono ?_
  rintro e w4 ⟨rfl, hb4⟩
  have bb4 := (below_one w3 (.cells #[.string cA] 9)).trans (hb4.mono (by simp))
  clear hb4
  have HA4 := Lib.hid (box7_carry HA3.out bb4)
  have HC4 := Lib.hid (box7_carry HC3.out bb4)
  have HK4 := Lib.hid (HK3.out.below bb4)
  have B4 := Lib.hid (B3.out.trans (bb4.mono (by have h1 := B3.out.size; have h2 := HQ1.out; omega)))
  have y1 : q1 < w4.heap.size := Nat.lt_of_lt_of_le y1 bb4.size
  have y2 : q2 < w4.heap.size := Nat.lt_of_lt_of_le y2 bb4.size
  clear bb4 e0 e1 e2 e3 e4 e5 e6 f0 f1 f2 f3 f4 f5 f6 HA3 HC3 HK3 B3
  obtain ⟨-, e0, e1, e2, e3, e4, e5, e6⟩ := HA4.out
  obtain ⟨-, f0, f1, f2, f3, f4, f5, f6⟩ := HC4.out
  go_wp2_with fail
  refine (CC.out _ _ (holdsT_lit1 w4 cA _ _)).mono ?_
  rintro e w5 ⟨rfl, hb4⟩
  have bb4 := (below_one w4 (.cells #[.string cA] 9)).trans (hb4.mono (by simp))
  clear hb4
  have HA5 := Lib.hid (box7_carry HA4.out bb4)
  have HC5 := Lib.hid (box7_carry HC4.out bb4)
  have HK5 := Lib.hid (HK4.out.below bb4)
  have B5 := Lib.hid (B4.out.trans (bb4.mono (by have h1 := B4.out.size; have h2 := HQ1.out; omega)))
  have y1 : q1 < w5.heap.size := Nat.lt_of_lt_of_le y1 bb4.size
  have y2 : q2 < w5.heap.size := Nat.lt_of_lt_of_le y2 bb4.size
  clear bb4 e0 e1 e2 e3 e4 e5 e6 f0 f1 f2 f3 f4 f5 f6 HA4 HC4 HK4 B4
  obtain ⟨-, e0, e1, e2, e3, e4, e5, e6⟩ := HA5.out
  obtain ⟨-, f0, f1, f2, f3, f4, f5, f6⟩ := HC5.out
  go_wp2_with fail
  refine (CR.out _ _ (holdsT_lit1 w5 cA _ _) (HK5.out.below (below_one _ _))).mono ?_
  rintro e w6 ⟨rfl, hb4⟩
  have bb4 := (below_one w5 (.cells #[.string cA] 9)).trans (hb4.mono (by simp))
  clear hb4
  have HA6 := Lib.hid (box7_carry HA5.out bb4)
  have HC6 := Lib.hid (box7_carry HC5.out bb4)
  have HK6 := Lib.hid (HK5.out.below bb4)
  have B6 := Lib.hid (B5.out.trans (bb4.mono (by have h1 := B5.out.size; have h2 := HQ1.out; omega)))
  have y1 : q1 < w6.heap.size := Nat.lt_of_lt_of_le y1 bb4.size
  have y2 : q2 < w6.heap.size := Nat.lt_of_lt_of_le y2 bb4.size
  clear bb4 e0 e1 e2 e3 e4 e5 e6 f0 f1 f2 f3 f4 f5 f6 HA5 HC5 HK5 B5
  obtain ⟨-, e0, e1, e2, e3, e4, e5, e6⟩ := HA6.out
  obtain ⟨-, f0, f1, f2, f3, f4, f5, f6⟩ := HC6.out
  go_wp2_with fail
  refine (CL1.out _ HK6.out).mono ?_
  rintro e w7 ⟨rfl, bb4⟩
  have HA7 := Lib.hid (box7_carry HA6.out bb4)
  have HC7 := Lib.hid (box7_carry HC6.out bb4)
  have HK7 := Lib.hid (HK6.out.below bb4)
  have B7 := Lib.hid (B6.out.trans (bb4.mono (by have h1 := B6.out.size; have h2 := HQ1.out; omega)))
  have y1 : q1 < w7.heap.size := Nat.lt_of_lt_of_le y1 bb4.size
  have y2 : q2 < w7.heap.size := Nat.lt_of_lt_of_le y2 bb4.size
  clear bb4 e0 e1 e2 e3 e4 e5 e6 f0 f1 f2 f3 f4 f5 f6 HA6 HC6 HK6 B6
  obtain ⟨-, e0, e1, e2, e3, e4, e5, e6⟩ := HA7.out
  obtain ⟨-, f0, f1, f2, f3, f4, f5, f6⟩ := HC7.out
  go_wp2_with fail
  refine (CL2.out _ HK7.out).mono ?_
  rintro e w8 ⟨rfl, bb4⟩
  have HA8 := Lib.hid (box7_carry HA7.out bb4)
  have HC8 := Lib.hid (box7_carry HC7.out bb4)
  have HK8 := Lib.hid (HK7.out.below bb4)
  have B8 := Lib.hid (B7.out.trans (bb4.mono (by have h1 := B7.out.size; have h2 := HQ1.out; omega)))
  have y1 : q1 < w8.heap.size := Nat.lt_of_lt_of_le y1 bb4.size
  have y2 : q2 < w8.heap.size := Nat.lt_of_lt_of_le y2 bb4.size
  clear bb4 e0 e1 e2 e3 e4 e5 e6 f0 f1 f2 f3 f4 f5 f6 HA7 HC7 HK7 B7
  obtain ⟨-, e0, e1, e2, e3, e4, e5, e6⟩ := HA8.out
  obtain ⟨-, f0, f1, f2, f3, f4, f5, f6⟩ := HC8.out
  go_wp2_with fail
  go_ret
  exact ⟨rfl, by have := B8.out; rw [← HQ1.out] at this; exact this⟩
/-- is there more than is gone through? -/
def great28B (ws : List Tx) (xs ys : List KV) (p q : Tx) : Bool := greatB ws || greatKB xs || greatKB ys || decide (100 < p.size) || decide (100 < q.size)
theorem great28_no {ws : List Tx} {xs ys : List KV} {p q : Tx} (h : great28B ws xs ys p q = false) : greatB ws = false ∧ greatKB xs = false ∧ greatKB ys = false ∧ p.size ≤ 100 ∧ q.size ≤ 100 := by
  unfold great28B at h
  simp only [Bool.or_eq_false_iff, decide_eq_false_iff_not] at h
  exact ⟨h.1.1.1.1, h.1.1.1.2, h.1.1.2, by omega, by omega⟩
set_option maxHeartbeats 3200000 in
theorem great28_any (aw : Option Addr) (nw cw : Nat) (ws : List Tx) (i1 : Int) (q1 : Tx) (k1 m1 : Int) (a : Option Addr) (n ca : Nat) (xs : List KV) (d1 l1 : Bool) (i2 : Int) (q2 : Tx) (k2 m2 : Int) (b : Option Addr) (m cb : Nat) (ys : List KV) (d2 l2 f : Bool) (w : World) (hw : HoldsT w aw nw ws) (hnw : nw ≤ 9223372036854775807) (hsw : ∀ t ∈ ws, t.size ≤ 9223372036854775807) (h1 : HoldsK w a n xs) (h2 : HoldsK w b m ys) (hn : n ≤ 9223372036854775807) (hm : m ≤ 9223372036854775807) (sx : ∀ k ∈ xs, k.2.size ≤ 9223372036854775807) (sy : ∀ k ∈ ys, k.2.size ≤ 9223372036854775807) (hq1 : q1.size ≤ 9223372036854775807) (hq2 : q2.size ≤ 9223372036854775807) (hf : great28B ws xs ys q1 q2 = f) :
    Calls Try.prog 6 #[.slice aw nw cw, .agg #[.int .i64 i1, .string q1, .int .i64 k1, .int .i64 m1, .slice a n ca, .bool d1, .bool l1], .agg #[.int .i64 i2, .string q2, .int .i64 k2, .int .i64 m2, .slice b m cb, .bool d2, .bool l2]] w fun e w' => e = .returned (.bool f) ∧ Below w.heap.size w w' := by
  have B0 := Lib.hid (below_one w (.cells #[.int .i64 i1, .string q1, .int .i64 k1, .int .i64 m1, .slice a n ca, .bool d1, .bool l1] 27))
  have HB := Lib.hid (box7_new w (.int .i64 i1) (.string q1) (.int .i64 k1) (.int .i64 m1) (.slice a n ca) (.bool d1) (.bool l1) 27)
  have H0 := Lib.hid (hw.below B0.out); have H1 := Lib.hid (h1.below B0.out); have H2 := Lib.hid (h2.below B0.out)
  obtain ⟨g0, hg0⟩ : ∃ g, greatB ws = g := ⟨_, rfl⟩
  obtain ⟨g1, hg1⟩ : ∃ g, greatKB xs = g := ⟨_, rfl⟩
  obtain ⟨g2, hg2⟩ : ∃ g, greatKB ys = g := ⟨_, rfl⟩
  have C0 := Lib.hid (fun w (h : HoldsT w aw nw ws) => hg0 ▸ great_any aw nw cw ws w h hnw hsw)
  have C1 := Lib.hid (fun w (h : HoldsK w a n xs) => hg1 ▸ greatK_any a n ca xs w h hn sx)
  have C2 := Lib.hid (fun w (h : HoldsK w b m ys) => hg2 ▸ greatK_any b m cb ys w h hm sy)
  have HF := Lib.hid (show (g0 || g1 || g2 || decide (100 < q1.size) || decide (100 < q2.size)) = f by rw [← hf, ← hg0, ← hg1, ← hg2]; rfl)
  clear hw h1 h2 hsw sx sy hf hg0 hg1 hg2
  go_enter Try.func6, Try.ntmps6
  go_upto_region 1 with fail
  have hr : (w.alloc (.cells #[.int .i64 i1, .string q1, .int .i64 k1, .int .i64 m1, .slice a n ca, .bool d1, .bool l1] 27)).heap.size = w.heap.size + 1 := by simp
  generalize w.alloc (.cells #[.int .i64 i1, .string q1, .int .i64 k1, .int .i64 m1, .slice a n ca, .bool d1, .bool l1] 27) = w1 at *
  have hb1 := below_one w1 (.cells #[.int .i64 i2, .string q2, .int .i64 k2, .int .i64 m2, .slice b m cb, .bool d2, .bool l2] 27)
  have B1 := Lib.hid (B0.out.trans (hb1.mono B0.out.size))
  have HA1 := Lib.hid (box7_carry HB.out hb1)
  have HC1 := Lib.hid (box7_new w1 (.int .i64 i2) (.string q2) (.int .i64 k2) (.int .i64 m2) (.slice b m cb) (.bool d2) (.bool l2) 27)
  have K0 := Lib.hid (H0.out.below hb1); have K1 := Lib.hid (H1.out.below hb1); have K2 := Lib.hid (H2.out.below hb1)
  clear hb1 HB B0 H0 H1 H2
  rw [hr] at HC1
  generalize w1.alloc (.cells #[.int .i64 i2, .string q2, .int .i64 k2, .int .i64 m2, .slice b m cb, .bool d2, .bool l2] 27) = w2 at *
  obtain ⟨r, hr2⟩ : ∃ r, w.heap.size + 1 = r := ⟨_, rfl⟩
  rw [hr2] at HC1
  simp only [hr2]
  clear hr hr2
  go_wp2_with fail
  refine (C0.out _ K0.out).mono ?_
  rintro e w3 ⟨rfl, hb⟩
  have B3 := Lib.hid (B1.out.trans (hb.mono B1.out.size))
  have HA3 := Lib.hid (box7_carry HA1.out hb)
  have HC3 := Lib.hid (box7_carry HC1.out hb)
  have K3 := Lib.hid (K1.out.below hb); have K4 := Lib.hid (K2.out.below hb)
  clear hb HA1 HC1 K0 K1 K2 B1
  obtain ⟨-, e0, e1, e2, e3, e4, e5, e6⟩ := HA3.out
  obtain ⟨-, f0, f1, f2, f3, f4, f5, f6⟩ := HC3.out
  cases g0 with
  | true =>
    obtain rfl : true = f := by simpa using HF.out
    go_wp2_with fail
    go_ret
    exact ⟨rfl, B3.out⟩
  | false =>
    go_wp2_with fail
    refine (C1.out _ K3.out).mono ?_
    rintro e w4 ⟨rfl, rfl⟩
    cases g1 with
    | true =>
      obtain rfl : true = f := by simpa using HF.out
      go_wp2_with fail
      go_ret
      exact ⟨rfl, B3.out⟩
    | false =>
      go_wp2_with fail
      refine (C2.out _ K4.out).mono ?_
      rintro e w4 ⟨rfl, rfl⟩
      cases g2 with
      | true =>
        obtain rfl : true = f := by simpa using HF.out
        go_wp2_with fail
        go_ret
        exact ⟨rfl, B3.out⟩
      | false =>
        by_cases z1 : 100 < q1.size
        · obtain rfl : true = f := by have := HF.out; simp [z1] at this; exact this.symm
          go_wp2_with fail
          go_ret
          exact ⟨rfl, B3.out⟩
        · have z1' : q1.size ≤ 100 := by omega
          by_cases z2 : 100 < q2.size
          · obtain rfl : true = f := by have := HF.out; simp [z2] at this; exact this.symm
            clear z1
            go_wp2_with fail
            go_ret
            exact ⟨ret_bool (by simp <;> omega), B3.out⟩
          · obtain rfl : false = f := by have := HF.out; simp [z1, z2] at this; exact this.symm
            have z2' : q2.size ≤ 100 := by omega
            clear z1 z2
            go_wp2_with fail
            go_ret
            exact ⟨ret_bool (by simp <;> omega), B3.out⟩
end Go.Proofs.Ytmpkmgkafhlpjaa
/- a slice in a field of a struct that is an argument, opened -/
namespace Go.Proofs.Ytmpkmgkafhlpjaa
open Go.ChangeShapes Go.WideShapes Go.ChangeAt Go.RowKit Go.Deep
set_option linter.unusedVariables false
set_option maxRecDepth 20000
theorem open_rows_cell {H : Type} {enc : TypeId × Value → H} {P : Program} {W : World} {t e : TypeId} {k : Nat} {c : Value} {fuel : Nat} {y : DataW H × List MemPlace}
    (ht : P.underlying t = some (.slice e)) (hc : P.cellsOf e = k) (hk : 0 < k) (good : List Value → Prop)
    (hgood : ∀ m cs y, DataW.trod enc P W 0 (fun _ => true) true m e cs = some y → good cs)
    (hf : DataW.trod enc P W 0 (fun _ => true) true fuel t [c] = some y) :
    ∃ (a : Option Addr) (n cap : Nat) (R : Nat → List Value), c = .slice a n cap ∧ (a = none → n = 0 ∧ cap = 0) ∧ n ≤ cap ∧ cap ≤ maxLen ∧ (∀ i, i < n → good (R i)) ∧
      (0 < n → ∃ b o, a = some ⟨b, o, none⟩ ∧ ∀ i, i < n → ∀ j, j < k → W.cell? ⟨b, o + i * k + j, none⟩ = (R i)[j]?) := by
  rcases open_slice ht hf with ⟨hcs, _⟩ | ⟨x, len, cap, m, n, D, Pl, hcs, _, hl, hm, hmm, _, hx⟩
  · obtain rfl : c = .slice none 0 0 := by simpa using hcs
    exact ⟨none, 0, 0, fun _ => [], rfl, fun _ => ⟨rfl, rfl⟩, Nat.le_refl _, by unfold maxLen; omega, by simp, by simp⟩
  · obtain rfl : c = .slice (some x) len cap := by simpa using hcs
    simp at hmm
    subst hmm
    rw [hc] at hx
    have hR : ∀ i, ∃ cs' : List Value, i < m → W.cells? 0 (x.add (i * k)) k = some cs' ∧ good cs' := fun i => by
      by_cases hi : i < m
      · obtain ⟨cs', h1, h2⟩ := hx i hi
        exact ⟨cs', fun _ => ⟨h1, hgood _ _ _ h2⟩⟩
      · exact ⟨[], fun h => absurd h hi⟩
    refine ⟨some x, len, m, fun i => (hR i).choose, rfl, (fun h => by cases h), hl, hm, fun i hi => ((hR i).choose_spec (by omega)).2, fun h0 => ?_⟩
    have h1 := fun i (hi : i < m) => (World.cells?_some ((hR i).choose_spec hi).1)
    obtain ⟨b, off, spot⟩ := x
    have hspot : spot = none := by
      have h2 := (h1 0 (by omega)).2.2 0 hk
      have h3 := (h1 0 (by omega)).2.1
      have h4 : ((hR 0).choose)[0]? = some (((hR 0).choose)[0]'(by omega)) := List.getElem?_eq_getElem _
      rw [h4] at h2
      simpa [Addr.add] using World.cell?_spot h2
    subst hspot
    refine ⟨b, off, rfl, fun i hi j hj => ?_⟩
    have h2 := (h1 i (by omega)).2.2 j hj
    rw [← h2, Go.WideShapes.add_plain, Go.WideShapes.add_plain]
theorem open_pairs_cell {H : Type} {enc : TypeId × Value → H} {W : World} {c : Value} {fuel : Nat} {y : DataW H × List MemPlace} {t e : TypeId} {fs : Array Field} {f0 f1 : Field}
    (ht : Try.prog.underlying t = some (.slice e)) (he : Try.prog.underlying e = some (.struct fs)) (hc : Try.prog.cellsOf e = 2) (hf0 : fs[0]? = some f0) (hf1 : fs[1]? = some f1) (g0 : f0.type = 3 ∧ f0.offset = 0) (g1 : f1.type = 9 ∧ f1.offset = 1)
    (hf : DataW.trod enc Try.prog W 0 (fun _ => true) true fuel t [c] = some y) :
    ∃ a n cap ks, c = .slice a n cap ∧ HoldsK W a n ks ∧ (a = none → n = 0 ∧ cap = 0) ∧ n ≤ cap ∧ n ≤ 9223372036854775807 ∧ ∀ k ∈ ks, KeyOk k := by
  obtain ⟨a, n, cap, R, rfl, hnil, h1, h2, hg, hc⟩ := open_rows_cell ht hc (by omega) (fun cs => ∃ k : KV, KeyOk k ∧ cs = [.int .i64 k.1, .string k.2]) (fun _ _ _ h => pair_of he hc hf0 hf1 g0 g1 h) hf
  have hx : ∀ i, ∃ k : KV, i < n → KeyOk k ∧ R i = [.int .i64 k.1, .string k.2] := fun i => by
    by_cases hi : i < n
    · obtain ⟨x, h3⟩ := hg i hi
      exact ⟨x, fun _ => h3⟩
    · exact ⟨k0, fun h => absurd h hi⟩
  have hget : ∀ i, i < n → ((List.range n).map fun i => (hx i).choose).getD i k0 = (hx i).choose := fun i hi => by simp [List.getD_eq_getElem?_getD, hi]
  refine ⟨a, n, cap, (List.range n).map fun i => (hx i).choose, rfl, ⟨by simp, fun h0 => ?_⟩, hnil, h1, by unfold maxLen at h2; omega, fun k hk => ?_⟩
  · obtain ⟨b, o, ha, hcell⟩ := hc h0
    refine ⟨b, o, ha, fun i hi => ?_⟩
    have e := ((hx i).choose_spec hi).2
    have c0 := hcell i hi 0 (by omega)
    have c1 := hcell i hi 1 (by omega)
    rw [e] at c0 c1
    rw [hget i hi]
    exact ⟨by simpa using c0, by simpa using c1⟩
  · obtain ⟨i, hi, rfl⟩ := List.mem_map.1 hk
    exact ((hx i).choose_spec (by simpa using hi)).1
end Go.Proofs.Ytmpkmgkafhlpjaa
/- a number, from 0 to below n -/
namespace Go.Proofs.Ytmpkmgkafhlpjaa
open Go.RowKit
set_option linter.unusedVariables false
set_option maxRecDepth 20000
def lowV (x n : Int) : Int := IntKind.u64.wrap x % n
theorem low_bd (x n : Int) (h : 0 < n) : 0 ≤ lowV x n ∧ lowV x n < n := ⟨Int.emod_nonneg _ (by omega), Int.emod_lt_of_pos _ h⟩
theorem u64_in (n : Int) (h : 0 ≤ n) (h2 : n < 18446744073709551616) : IntKind.u64.wrap n = n := by
  simp only [IntKind.wrap, IntKind.signed, IntKind.bits]; simp; omega
theorem u64_bdL (d : Int) : 0 ≤ IntKind.u64.wrap d ∧ IntKind.u64.wrap d < 18446744073709551616 := by
  simp only [IntKind.wrap, IntKind.signed, IntKind.bits]; simp; omega
theorem low_any (x n : Int) (h : 1 ≤ n) (h2 : n < 4611686018427387904) (w : World) :
    Calls Try.prog 18 #[.int .i64 x, .int .i64 n] w fun e w' => e = .returned (.int .i64 (lowV x n)) ∧ w = w' := by
  have hb := low_bd x n (by omega)
  have hw := u64_in n (by omega) (by omega)
  have hx := u64_bdL x
  go_enter Try.func18, Try.ntmps18
  go_wp2
  go_ret
  exact ⟨ret_int (by unfold lowV at *; rw [IntWalk.wrap64_in _ ⟨by omega, by omega⟩]), rfl⟩
end Go.Proofs.Ytmpkmgkafhlpjaa
/- append at one operation of a region that draws -/
namespace Go.Proofs.Ytmpkmgkafhlpjaa
open Go.RowKit
set_option linter.unusedVariables false
set_option maxRecDepth 20000
/-- 'append(v, x...)' at one operation, x whatever slice (nil too): the value is a slice of the call's own -/
theorem wp_append_opt {P : Program} {w : World} {o : Oper} {a : Act} {K : Act → World → Prop} {Q : Exit → Act → World → Prop} (s x : Operand) (t : TypeId)
    (ho : o.op = .call { callee := .builtin .append, args := #[s, x], argTypes := #[t, t] })
    (base : Nat) (e : TypeId) (i : TypeInfo) (z : Value) (size bytes : Nat) (ht : P.underlying t = some (.slice e)) (hi : P.info? e = some i) (hz : i.zero = some z)
    (hsize : i.size = size) (hby : i.bytes = bytes) (hzs : z.cells.size = size) (hsz : 0 < size)
    (v : Value) (n : Nat) (xs : List Value) (hs : a.eval s = v) (hown : w.ownsRow base e size v n xs)
    (ao : Option Addr) (m c : Nat) (news : List Value) (hx : a.eval x = .slice ao m c) (hnone : ao = none → m = 0 ∧ c = 0) (hl : news.length = m * size)
    (hnews : ∀ ad, ao = some ad → ∀ j u, news[j]? = some u → w.cell? (ad.add j) = some u) (h1 : ∀ u ∈ news, u.oneCell' = true)
    (h63 : n + m ≤ maxLen) (hbytes : (n + m) * bytes ≤ 140737488355328) (hbase : base ≤ w.heap.size)
    (h : ∀ a' c' w', w'.ownsRow base e size (.slice a' (n + m) c') (n + m) (xs ++ news) → Below base w w' → K (a.put o.dst (.slice a' (n + m) c')) w') : o.wp P a w K Q := by
  have fin : ∀ v' w', w'.ownsRow base e size v' (n + m) (xs ++ news) → Below base w w' → K (a.put o.dst v') w' := by
    intro v' w' ho' hb'
    rcases Joins.ownsRow_forms ho' with ⟨rfl, h0⟩ | ⟨g, cap, rfl⟩
    · have := h none 0 w' (by rw [h0] at ho' ⊢; exact ho') hb'
      rw [h0] at this
      exact this
    · exact h _ _ w' ho' hb'
  cases ao with
  | some ad =>
    refine wp_append_own w s x t ho base e i z size bytes ht hi hz hsize hby hzs hsz v n xs hs hown ad m c news hx hl (hnews ad rfl) h1 h63 hbytes hbase fun v' w' h2 h3 _ => ?_
    exact fin v' w' h2 ((Below.refl base w).grown h3 hbase fun k hk => (hown.lt k hk).1)
  | none =>
    obtain ⟨rfl, rfl⟩ := hnone rfl
    have hn : news = [] := List.eq_nil_of_length_eq_zero (by simpa using hl)
    subst hn
    have hr := run_append_owned_none w base t o.type e i size ht hi v n xs hown
    unfold Oper.wp execOp
    simp only [ho, resolve, invoke, builtin, Sem.run_bind, Sem.run_pure, Result.andThen_ok, List.map_toArray, List.map_cons, List.map_nil, hs, hx, hr]
    exact fin v w (by simpa using hown) (Below.refl _ _)
/-- the first append of a row: onto nil -/
theorem wp_append_first {P : Program} {w : World} {o : Oper} {a : Act} {K : Act → World → Prop} {Q : Exit → Act → World → Prop} (s x : Operand) (t : TypeId)
    (ho : o.op = .call { callee := .builtin .append, args := #[s, x], argTypes := #[t, t] })
    (e : TypeId) (i : TypeInfo) (z : Value) (size bytes : Nat) (ht : P.underlying t = some (.slice e)) (hi : P.info? e = some i) (hz : i.zero = some z)
    (hsize : i.size = size) (hby : i.bytes = bytes) (hzs : z.cells.size = size) (hsz : 0 < size)
    (hs : a.eval s = .slice none 0 0)
    (ao : Option Addr) (m c : Nat) (news : List Value) (hx : a.eval x = .slice ao m c) (hnone : ao = none → m = 0 ∧ c = 0) (hl : news.length = m * size)
    (hnews : ∀ ad, ao = some ad → ∀ j u, news[j]? = some u → w.cell? (ad.add j) = some u) (h1 : ∀ u ∈ news, u.oneCell' = true)
    (h63 : m ≤ maxLen) (hbytes : m * bytes ≤ 140737488355328)
    (h : ∀ a' c' w', w'.ownsRow w.heap.size e size (.slice a' m c') m news → Below w.heap.size w w' → K (a.put o.dst (.slice a' m c')) w') : o.wp P a w K Q := by
  refine wp_append_opt s x t ho w.heap.size e i z size bytes ht hi hz hsize hby hzs hsz (.slice none 0 0) 0 [] hs (World.ownsRow_nil _ _ _ _) ao m c news hx hnone hl hnews h1 (by omega) (by rw [Nat.zero_add]; exact hbytes) (Nat.le_refl _) ?_
  intro a' c' w' h2 h3
  rw [Nat.zero_add] at h2 ⊢
  exact h a' c' w' h2 h3
/-- 'append(v, x...)' at one operation, the sum of the lengths by a name of its own -/
theorem wp_append_n {P : Program} {w : World} {o : Oper} {a : Act} {K : Act → World → Prop} {Q : Exit → Act → World → Prop} (s x : Operand) (t : TypeId)
    (ho : o.op = .call { callee := .builtin .append, args := #[s, x], argTypes := #[t, t] })
    (base : Nat) (e : TypeId) (i : TypeInfo) (z : Value) (size bytes : Nat) (ht : P.underlying t = some (.slice e)) (hi : P.info? e = some i) (hz : i.zero = some z)
    (hsize : i.size = size) (hby : i.bytes = bytes) (hzs : z.cells.size = size) (hsz : 0 < size)
    (v : Value) (n : Nat) (xs : List Value) (hs : a.eval s = v) (hown : w.ownsRow base e size v n xs)
    (ao : Option Addr) (m c : Nat) (news : List Value) (hx : a.eval x = .slice ao m c) (hnone : ao = none → m = 0 ∧ c = 0) (hl : news.length = m * size)
    (hnews : ∀ ad, ao = some ad → ∀ j u, news[j]? = some u → w.cell? (ad.add j) = some u) (h1 : ∀ u ∈ news, u.oneCell' = true) (N : Nat) (hN : n + m = N)
    (h63 : N ≤ maxLen) (hbytes : N * bytes ≤ 140737488355328) (hbase : base ≤ w.heap.size)
    (h : ∀ a' c' w', w'.ownsRow base e size (.slice a' N c') N (xs ++ news) → Below base w w' → K (a.put o.dst (.slice a' N c')) w') : o.wp P a w K Q := by
  subst hN
  exact wp_append_opt s x t ho base e i z size bytes ht hi hz hsize hby hzs hsz v n xs hs hown ao m c news hx hnone hl hnews h1 h63 hbytes hbase h
end Go.Proofs.Ytmpkmgkafhlpjaa
/- what one list has without another one: plain -/
namespace Go.Proofs.Ytmpkmgkafhlpjaa
open Go.RowKit
set_option linter.unusedVariables false
set_option maxRecDepth 20000
theorem filter_snoc (p : Tx → Bool) (xs : List Tx) (x : Tx) : (xs ++ [x]).filter p = xs.filter p ++ (if p x then [x] else []) := by
  rw [List.filter_append]; by_cases h : p x <;> simp [h]
def lessOf (xs ys : List Tx) : List Tx := xs.filter fun t => !decide (t ∈ ys)
theorem lessOf_yes (ys xs : List Tx) (x : Tx) (h : x ∈ ys) : lessOf (xs ++ [x]) ys = lessOf xs ys := by
  unfold lessOf; rw [filter_snoc, if_neg (by simp [h])]; simp
theorem lessOf_no (ys xs : List Tx) (x : Tx) (h : ¬ x ∈ ys) : lessOf (xs ++ [x]) ys = lessOf xs ys ++ [x] := by
  unfold lessOf; rw [filter_snoc, if_pos (by simp [h])]
theorem lessOf_len (xs ys : List Tx) : (lessOf xs ys).length ≤ xs.length := List.length_filter_le _ _
end Go.Proofs.Ytmpkmgkafhlpjaa
/- items in order: what the laws of ranking ask of them: plain -/
namespace Go.Proofs.Ytmpkmgkafhlpjaa
set_option linter.unusedVariables false
set_option maxRecDepth 20000
theorem sortK_cons {x : KV} {l : List KV} (h : ∀ z ∈ l, leK x z) : sortK (x :: l) = x :: sortK l :=
  (sortK_of (List.pairwise_cons.2 ⟨fun z hz => h z (sortK_mem.1 hz), sortK_sorted l⟩) ((sortK_perm l).cons x)).symm
theorem sortK_filter (p : KV → Bool) (l : List KV) : sortK (l.filter p) = (sortK l).filter p :=
  (sortK_of (List.Pairwise.filter p (sortK_sorted l)) ((sortK_perm l).filter p)).symm
theorem nearL_cons (t : Tx) (ws : List Tx) (s : Tx) (k : Int) : nearL (t :: ws) s k = (if 0 ≤ distS t s ∧ distS t s ≤ k then [(distS t s, t)] else []) ++ nearL ws s k := by
  unfold nearL; rw [List.filterMap_cons]
  by_cases h : 0 ≤ distS t s ∧ distS t s ≤ k
  · simp [h]
  · simp only [if_neg h, List.nil_append]
theorem nearL_within (ws : List Tx) (s : Tx) (k m : Int) (h : k ≤ m) : (nearL ws s m).filter (fun x => decide (x.1 ≤ k)) = nearL ws s k := by
  induction ws with
  | nil => rfl
  | cons t ws ih =>
    rw [nearL_cons, nearL_cons, List.filter_append, ih]
    congr 1
    by_cases h1 : 0 ≤ distS t s ∧ distS t s ≤ k
    · rw [if_pos h1, if_pos ⟨h1.1, by omega⟩]; simp [h1.2]
    · rw [if_neg h1]
      split
      · simp; omega
      · rfl
theorem allK_prefix (ws : List Tx) (s : Tx) (k m : Int) (h : k ≤ m) : allK ws s k <+: allK ws s m := by
  refine ⟨sortK ((nearL ws s m).filter fun x => !decide (x.1 ≤ k)), ?_⟩
  unfold allK
  refine sortK_of ?_ ?_
  · refine List.pairwise_append.2 ⟨sortK_sorted _, sortK_sorted _, fun x hx y hy => ?_⟩
    have h1 := (nearL_mem.1 (sortK_mem.1 hx)).2
    have h2 := (List.mem_filter.1 (sortK_mem.1 hy)).2
    have h3 : k < y.1 := by simpa using h2
    exact leK_of_lt (ordK_lt.2 (Or.inl (by have := h1.1; have := h1.2.2; omega)))
  · refine ((sortK_perm _).append (sortK_perm _)).trans ?_
    rw [← nearL_within ws s k m h]
    exact List.filter_append_perm _ _
theorem prefix_at {α : Type} {xs ys : List α} (h : xs <+: ys) : xs.length ≤ ys.length ∧ ys.take xs.length = xs := ⟨h.length_le, (List.prefix_iff_eq_take.1 h).symm⟩
/-- what RankMore asks -/
theorem top_more_n (ws : List Tx) (s : Tx) (k m j : Int) (h : mayP s k m) (h0 : 0 ≤ j) (h1 : mayP s k (m + j)) : topK ws s k m <+: topK ws s k (m + j) := by
  unfold topK; rw [if_pos h, if_pos h1]
  exact List.take_prefix_take_left (by omega)
theorem top_more_k (ws : List Tx) (s : Tx) (k m : Int) (h : mayP s k m) (h1 : mayP s (k + 1) m) : topK ws s k m <+: topK ws s (k + 1) m := by
  unfold topK; rw [if_pos h, if_pos h1]
  obtain ⟨r, hr⟩ := allK_prefix ws s k (k + 1) (by omega)
  rw [← hr, List.take_append]
  exact List.prefix_append _ _
/-- what RankFar asks -/
theorem near_some (ws : List Tx) (s : Tx) (k : Int) : nearL (ws.filter fun t => decide (distS t s ≤ k)) s k = nearL ws s k := by
  induction ws with
  | nil => rfl
  | cons t ws ih =>
    rw [nearL_cons, List.filter_cons]
    by_cases h : distS t s ≤ k
    · rw [if_pos (by simpa using h), nearL_cons, ih]
    · rw [if_neg (by simpa using h), ih, if_neg (by omega)]; rfl
theorem top_some (ws : List Tx) (s : Tx) (k m : Int) : topK (ws.filter fun t => decide (distS t s ≤ k)) s k m = topK ws s k m := by
  unfold topK allK; rw [near_some]
theorem near_filter (p : Tx → Bool) (ws : List Tx) (s : Tx) (k : Int) : nearL (ws.filter p) s k = (nearL ws s k).filter fun x => p x.2 := by
  induction ws with
  | nil => rfl
  | cons t ws ih =>
    rw [nearL_cons, List.filter_append, List.filter_cons]
    by_cases h : p t = true
    · rw [if_pos h, nearL_cons, ih]
      congr 1
      split <;> simp [h]
    · rw [if_neg h, ih]
      have : (if 0 ≤ distS t s ∧ distS t s ≤ k then [(distS t s, t)] else []).filter (fun x => p x.2) = [] := by split <;> simp [h]
      rw [this]; rfl
theorem sorted_ne {xs : List Tx} (h : SortedS xs) : xs.Pairwise (· ≠ ·) := h.imp fun {a b} hab => by
  intro e; subst e; exact cmpS_irrefl a hab
theorem near_ne {ws : List Tx} (h : SortedS ws) (s : Tx) (k : Int) : (nearL ws s k).Pairwise fun a b => a.2 ≠ b.2 := by
  have h0 := sorted_ne h
  induction ws with
  | nil => exact List.Pairwise.nil
  | cons t ws ih =>
    obtain ⟨h1, h2⟩ := List.pairwise_cons.1 h0
    rw [nearL_cons]
    split
    · refine List.pairwise_cons.2 ⟨fun x hx e => h1 x.2 (nearL_mem.1 hx).1 e, ih (List.pairwise_cons.1 h).2 h2⟩
    · exact ih (List.pairwise_cons.1 h).2 h2
theorem all_ne {ws : List Tx} (h : SortedS ws) (s : Tx) (k : Int) : (allK ws s k).Pairwise fun a b => a.2 ≠ b.2 :=
  (sortK_perm _).symm.pairwise (near_ne h s k) fun h => Ne.symm h
theorem filter_one {L : List KV} (h : L.Pairwise fun a b => a.2 ≠ b.2) (i : Nat) (hi : i < L.length) : L.filter (fun x => !decide (x.2 ∈ [(L.getD i k0).2])) = L.take i ++ L.drop (i + 1) := by
  have e : L.getD i k0 = L[i] := by simp [List.getD_eq_getElem?_getD, hi]
  rw [e]
  obtain ⟨x, hx⟩ : ∃ x, L[i] = x := ⟨_, rfl⟩
  have e2 : L = L.take i ++ (x :: L.drop (i + 1)) := by rw [← hx, ← List.drop_eq_getElem_cons hi, List.take_append_drop]
  rw [hx]
  have hp := h
  rw [e2] at hp
  obtain ⟨p1, p2, p3⟩ := List.pairwise_append.1 hp
  obtain ⟨p4, p5⟩ := List.pairwise_cons.1 p2
  conv => lhs; rw [e2]
  rw [List.filter_append, List.filter_cons, if_neg (by simp)]
  rw [List.filter_eq_self.2 fun x hx => by simpa using p3 x hx _ (by simp), List.filter_eq_self.2 fun x hx => by simpa using (p4 x hx).symm]
theorem top_without {ws : List Tx} (h : SortedS ws) (s : Tx) (k m : Int) (hm : mayP s k m) (i : Nat) (hi : i < (topK ws s k m).length) :
    (topK ws s k m).take i ++ (topK ws s k m).drop (i + 1) <+: topK (lessOf ws [((topK ws s k m).getD i k0).2]) s k m := by
  unfold topK at hi ⊢
  simp only [if_pos hm] at hi ⊢
  obtain ⟨N, hN⟩ : ∃ N, m.toNat = N := ⟨_, rfl⟩
  rw [hN] at hi ⊢
  have hl : i < (allK ws s k).length := by rw [List.length_take] at hi; omega
  have hi' : i < N := by rw [List.length_take] at hi; omega
  have e1 : ((allK ws s k).take N).getD i k0 = (allK ws s k).getD i k0 := by simp [List.getD_eq_getElem?_getD, hi']
  rw [e1]
  have e2 : allK (lessOf ws [((allK ws s k).getD i k0).2]) s k = (allK ws s k).take i ++ (allK ws s k).drop (i + 1) := by
    rw [← filter_one (all_ne h s k) i hl]
    unfold allK lessOf
    rw [near_filter, sortK_filter]
  rw [e2]
  generalize allK ws s k = L at *
  rw [List.take_take, Nat.min_eq_left (by omega), List.drop_take, List.take_append, List.length_take, Nat.min_eq_left (by omega), List.take_take, Nat.min_eq_right (by omega)]
  exact List.prefix_append_right_inj _ |>.2 (List.take_prefix_take_left (by omega))
/-- what RankParts asks -/
theorem near_perm {a b : List Tx} (h : a.Perm b) (s : Tx) (k : Int) : (nearL a s k).Perm (nearL b s k) := h.filterMap _
theorem merge_perm {a b : List Tx} (ha : SortedS a) (hb : SortedS b) : (mergeL a b).Perm (a ++ lessOf b a) := by
  have n1 : (mergeL a b).Nodup := sorted_ne (mergeL_sorted _ a b (Nat.le_refl _) ha hb)
  have n2 : (a ++ lessOf b a).Nodup := by
    refine List.pairwise_append.2 ⟨sorted_ne ha, sorted_ne (sorted_filter _ hb), fun x hx y hy e => ?_⟩
    subst e
    have := (List.mem_filter.1 hy).2
    simp [hx] at this
  refine (List.perm_ext_iff_of_nodup n1 n2).2 fun z => ?_
  rw [mem_mergeL, List.mem_append]
  unfold lessOf
  rw [List.mem_filter]
  by_cases h : z ∈ a <;> simp [h]
theorem all_parts {a b : List Tx} (ha : SortedS a) (hb : SortedS b) (s : Tx) (k : Int) : sortK (allK a s k ++ allK (lessOf b a) s k) = allK (mergeL a b) s k := by
  refine sortK_congr (((sortK_perm _).append (sortK_perm _)).trans ?_)
  rw [← nearL_app]
  exact (near_perm (merge_perm ha hb) s k).symm
theorem sortK_take : ∀ (N : Nat) (A C : List KV) (M1 M2 : Nat), SortedK A → SortedK C → N ≤ M1 → N ≤ M2 → (sortK (A.take M1 ++ C.take M2)).take N = (sortK (A ++ C)).take N := by
  intro N
  induction N with
  | zero => intros; simp
  | succ N ih =>
    intro A C M1 M2 hA hC h1 h2
    obtain ⟨M1, rfl⟩ : ∃ q, M1 = q + 1 := ⟨M1 - 1, by omega⟩
    obtain ⟨M2, rfl⟩ : ∃ q, M2 = q + 1 := ⟨M2 - 1, by omega⟩
    have first : ∀ (x : KV) (A C : List KV) (M1 M2 : Nat), SortedK (x :: A) → SortedK C → (∀ z ∈ C, leK x z) → N ≤ M1 → N + 1 ≤ M2 → (sortK ((x :: A).take (M1 + 1) ++ C.take M2)).take (N + 1) = (sortK ((x :: A) ++ C)).take (N + 1) := by
      intro x A C M1 M2 hA hC hz h1 h2
      obtain ⟨a1, a2⟩ := List.pairwise_cons.1 hA
      rw [List.take_succ_cons, List.cons_append, List.cons_append, sortK_cons, sortK_cons, List.take_succ_cons, List.take_succ_cons, ih A C M1 M2 a2 hC h1 (by omega)]
      · intro z hz'
        rcases List.mem_append.1 hz' with e | e
        · exact a1 z e
        · exact hz z e
      · intro z hz'
        rcases List.mem_append.1 hz' with e | e
        · exact a1 z (List.mem_of_mem_take e)
        · exact hz z (List.mem_of_mem_take e)
    match A, C, hA, hC with
    | [], [], _, _ => simp
    | x :: A, [], hA, hC => exact first x A [] M1 (M2 + 1) hA hC (by simp) (by omega) (by omega)
    | [], y :: C, hA, hC =>
      have := first y C [] M2 (M1 + 1) hC List.Pairwise.nil (by simp) (by omega) (by omega)
      simpa using this
    | x :: A, y :: C, hA, hC =>
      rcases leK_total x y with e | e
      · refine first x A (y :: C) M1 (M2 + 1) hA hC (fun z hz => ?_) (by omega) (by omega)
        rcases List.mem_cons.1 hz with rfl | hz
        · exact e
        · exact leK_trans e ((List.pairwise_cons.1 hC).1 z hz)
      · have := first y C (x :: A) M2 (M1 + 1) hC hA (fun z hz => by
          rcases List.mem_cons.1 hz with rfl | hz
          · exact e
          · exact leK_trans e ((List.pairwise_cons.1 hA).1 z hz)) (by omega) (by omega)
        rw [sortK_congr (List.perm_append_comm (l₁ := (x :: A).take (M1 + 1)) (l₂ := (y :: C).take (M2 + 1))), sortK_congr (List.perm_append_comm (l₁ := x :: A) (l₂ := y :: C))]
        exact this
theorem top_parts {a b : List Tx} (ha : SortedS a) (hb : SortedS b) (s : Tx) (k m : Int) (hm : mayP s k m) : topK (mergeL a b) s k m <+: sortK (topK a s k m ++ topK (lessOf b a) s k m) := by
  unfold topK
  simp only [if_pos hm]
  rw [← all_parts ha hb, ← sortK_take m.toNat (allK a s k) (allK (lessOf b a) s k) m.toNat m.toNat (sortK_sorted _) (sortK_sorted _) (Nat.le_refl _) (Nat.le_refl _)]
  exact List.take_prefix _ _
end Go.Proofs.Ytmpkmgkafhlpjaa
