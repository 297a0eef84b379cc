/- slots: Submit -/
import Derived.Test.YtfmeppfhckahnaaSl2
namespace Go.Proofs.Ytfmeppfhckahnaa
open Go.RowKit
set_option linter.unusedVariables false
def gaveS (s : Sl) (j : Nat) : Sl := ⟨s.n, s.last + 1, upd s.L j (s.last + 1)⟩
theorem gaveS_good {s : Sl} (h : SlGood s) {j : Nat} (hj : j < s.n) : SlGood (gaveS s j) := by
  have hl := h.lo
  refine ⟨h.n1, h.n4, by show 0 ≤ s.last + 1; omega, fun i => ?_, fun i hi => ?_, fun i k => ?_⟩
  · show 0 ≤ upd s.L j (s.last + 1) i ∧ upd s.L j (s.last + 1) i ≤ s.last + 1
    have := h.bd i
    by_cases e : i = j
    · subst e; rw [upd_at]; omega
    · rw [upd_ne _ _ _ _ e]; omega
  · show upd s.L j (s.last + 1) i = 0
    have hi' : s.n ≤ i := hi
    rw [upd_ne _ _ _ _ (by omega)]; exact h.far i hi
  · show upd s.L j (s.last + 1) i = upd s.L j (s.last + 1) k → 0 < upd s.L j (s.last + 1) i → i = k
    have b1 := h.bd i; have b2 := h.bd k
    by_cases e : i = j
    · by_cases e2 : k = j
      · omega
      · subst e; rw [upd_at, upd_ne _ _ _ _ e2]; omega
    · rw [upd_ne _ _ _ _ e]
      by_cases e2 : k = j
      · subst e2; rw [upd_at]; omega
      · rw [upd_ne _ _ _ _ e2]; exact h.apart i k
theorem slotOf_gave {s : Sl} (h : SlGood s) {j : Nat} (hj : j < s.n) (h0 : s.L j = 0) {z' : Int} {x : Option Nat} (hx : SlotOf (gaveS s j) z' x) : (z' = s.last + 1 → x = some j) ∧ (z' ≠ s.last + 1 → SlotOf s z' x) := by
  have hl := h.lo
  refine ⟨fun e => ?_, fun e => ?_⟩
  · subst e
    cases x with
    | none =>
      rcases hx with hx | hx
      · omega
      · have := hx j hj; simp only [gaveS] at this; rw [upd_at] at this; exact absurd rfl this
    | some i =>
      obtain ⟨k1, k2, k3⟩ := hx
      simp only [gaveS] at k2
      by_cases e : i = j
      · rw [e]
      · rw [upd_ne _ _ _ _ e] at k2
        have := h.bd i; omega
  · cases x with
    | none =>
      rcases hx with hx | hx
      · exact Or.inl hx
      · by_cases hz : z' ≤ 0
        · exact Or.inl hz
        · refine Or.inr fun i hi => ?_
          have := hx i hi
          simp only [gaveS] at this
          by_cases e2 : i = j
          · subst e2; omega
          · rwa [upd_ne _ _ _ _ e2] at this
    | some i =>
      obtain ⟨k1, k2, k3⟩ := hx
      simp only [gaveS] at k1 k2
      by_cases e2 : i = j
      · subst e2; rw [upd_at] at k2; omega
      · rw [upd_ne _ _ _ _ e2] at k2
        exact ⟨k1, k2, k3⟩
theorem gave_at {w w1 w2 w3 : World} {b bo ba : Nat} {s : Sl} {j k : Nat} {f g : Int → Option Int} (h : SlAt w b bo ba s) (hg : SlGood s) (hj : j < s.n) (h0 : s.L j = 0)
    (hk : k ≤ taken s) (hf : ∀ z x, SlotOf s z x → f z = oint x) (hgm : ∀ z, g z = if 0 ≤ z ∧ 0 < s.L z.toNat then some (s.L z.toNat) else none)
    (e1 : w1 = w.setCell ⟨b, 1, none⟩ (.int .i64 (s.last + 1))) (n1 n2 : Nat)
    (m1 : MapI w2 ba (if (g j).isSome then taken s else taken s + 1) (fset g j (some (s.last + 1)))) (t1 : (w1.drewN n1).mapTurned w2 ba)
    (m2 : MapI w3 bo (if (f (s.last + 1)).isSome then k else k + 1) (fset f (s.last + 1) (some (j : Int)))) (t2 : (w2.drewN n2).mapTurned w3 bo) :
    SlAt w3 b bo ba (gaveS s j) ∧ Turn (slF b bo ba) w w3 := by
  obtain ⟨d1, d2, d3⟩ := h.ne
  have hb := h.lt.1
  have T0 : Turn (slF b bo ba) w w1 := by subst e1; exact Turn.setCell (Or.inl rfl)
  have T2 : Turn (fun q => q = ba ∨ q = bo) w1 w2 := (Turn.drewN _ w1 n1).trans (Turn.of_mapTurned t1 (Or.inl rfl))
  have T3 : Turn (fun q => q = bo) w2 w3 := (Turn.drewN _ w2 n2).trans (Turn.of_mapTurned t2 rfl)
  have T23 : Turn (fun q => q = ba ∨ q = bo) w1 w3 := T2.trans (T3.mono fun q hq => Or.inr hq)
  have hb1 : b < w1.heap.size := Nat.lt_of_lt_of_le hb T0.size
  have hnb : ¬ (fun q => q = ba ∨ q = bo) b := by intro x; rcases x with x | x <;> omega
  have gj : g j = none := by rw [hgm]; simp [h0]
  have fz : f (s.last + 1) = none := hf (s.last + 1) none (Or.inr fun i hi => by have := hg.bd i; omega)
  rw [gj] at m1
  rw [fz] at m2
  simp only [Option.isSome_none, Bool.false_eq_true, if_false] at m1 m2
  have tk : taken (gaveS s j) = taken s + 1 := by
    have := cnt_upd s.L j (s.last + 1) s.n hj
    have hl := hg.lo
    rw [if_neg (by omega), if_pos (by omega)] at this
    exact this
  have c : ∀ o, w3.cell? ⟨b, o, none⟩ = w1.cell? ⟨b, o, none⟩ := fun o => T23.cell hb1 hnb
  have c0 := h.c0; have c1 := h.c1; have c2 := h.c2; have c3 := h.c3
  refine ⟨⟨by rw [c, e1, cset_ne (by omega)]; exact c0, by rw [c, e1]; exact cset_at c1, by rw [c, e1, cset_ne (by omega)]; exact c2, by rw [c, e1, cset_ne (by omega)]; exact c3, fun i => by rw [T23.frozen hb1 hnb, e1]; simpa using h.fr i, ⟨k + 1, _, m2, by omega, fun z' x hx => ?_⟩, ⟨_, tk ▸ m1.turn T3 (by omega), fun z' => ?_⟩, h.ne⟩, T0.trans (T23.mono fun q hq => by unfold slF; rcases hq with hq | hq <;> simp [hq])⟩
  · obtain ⟨o1, o2⟩ := slotOf_gave hg hj h0 hx
    by_cases e : z' = s.last + 1
    · rw [e, fset_at, o1 e]; rfl
    · rw [fset_ne _ _ _ _ e]; exact hf z' x (o2 e)
  · show fset g j (some (s.last + 1)) z' = if 0 ≤ z' ∧ 0 < upd s.L j (s.last + 1) z'.toNat then some (upd s.L j (s.last + 1) z'.toNat) else none
    have hl := hg.lo
    by_cases e : z' = j
    · subst e; rw [fset_at]; simp [upd_at]; omega
    · rw [fset_ne _ _ _ _ e, hgm]
      by_cases h00 : 0 ≤ z'
      · rw [upd_ne _ _ _ _ (by omega)]
      · rw [if_neg (fun x => h00 x.1), if_neg (fun x => h00 x.1)]
def subV (ok : Bool) (s : Sl) (j : Nat) : Int := if ok = true then (if j < s.n then 3 else 2) else 1
def subN (ok : Bool) (s : Sl) (j : Nat) : Int := if ok = true ∧ j < s.n then s.last + 1 else 0
def subI (ok : Bool) (s : Sl) (j : Nat) : Int := if ok = true ∧ j < s.n then j else 0
def subS (ok : Bool) (s : Sl) (j : Nat) : Sl := if ok = true ∧ j < s.n then gaveS s j else s
theorem subS_good {s : Sl} (h : SlGood s) (ok : Bool) (j : Nat) : SlGood (subS ok s j) := by
  unfold subS; split
  · rename_i hx; exact gaveS_good h hx.2
  · exact h
theorem submit_no {s : Sl} (b bo ba : Nat) (t : ByteArray) (k n : Int) (w : World) (h : SlAt w b bo ba s) (ht : t.size ≤ 9223372036854775807) (hno : decide (mayP t k n) = false) :
    Calls Try.prog 14 #[.pointer (some ⟨b, 0, none⟩), .agg #[.string t, .int .i64 k, .int .i64 n]] w fun e w' => e = .returned (.tuple #[.int .i64 1, .int .i64 0, .int .i64 0]) ∧ Below w.heap.size w w' := by
  have H := Lib.hid h; have HN := Lib.hid hno
  clear h hno
  go_enter Try.func14, Try.ntmps14
  go_wp2_with fail
  refine (may_lit t k n false _ ht HN.out).mono ?_
  rintro e w' ⟨rfl, hb⟩
  go_wp2_with fail
  go_ret3
  exact ⟨rfl, (below_one _ _).trans (hb.mono (by simp))⟩
set_option maxHeartbeats 1600000 in
theorem submit_may {s : Sl} (b bo ba j : Nat) (t : ByteArray) (k n : Int) (w : World) (h : SlAt w b bo ba s) (hg : SlGood s) (hj : FirstFree s j) (hlast : s.last < 4611686018427387904) (ht : t.size ≤ 9223372036854775807) (hyes : decide (mayP t k n) = true) :
    Calls Try.prog 14 #[.pointer (some ⟨b, 0, none⟩), .agg #[.string t, .int .i64 k, .int .i64 n]] w fun e w' => e = .returned (.tuple #[.int .i64 (subV true s j), .int .i64 (subN true s j), .int .i64 (subI true s j)]) ∧ SlAt w' b bo ba (subS true s j) ∧ Turn (slF b bo ba) w w' := by
  have H := Lib.hid h; have HN := Lib.hid hyes; have HJ := Lib.hid hj; have HG := Lib.hid hg
  have hjn := hj.1
  have hn4 := hg.n4
  have hlo := hg.lo
  clear h hyes hj hg
  go_enter Try.func14, Try.ntmps14
  go_wp2_with fail
  refine (may_lit t k n true _ ht HN.out).mono ?_
  rintro e w1 ⟨rfl, hb⟩
  have hB := Lib.hid ((below_one w (.cells #[.string t, .int .i64 k, .int .i64 n] 34)).trans (hb.mono (by simp)))
  have H1 := Lib.hid (H.out.below hB.out)
  clear hb
  have c0 := H1.out.c0; have c1 := H1.out.c1; have c2 := H1.out.c2; have c3 := H1.out.c3; have fr := H1.out.fr
  obtain ⟨kf, f, hm, hk, hf⟩ := H1.out.mo
  obtain ⟨g, hma, hgm⟩ := H1.out.ma
  have HF := Lib.hid hf; have HGM := Lib.hid hgm
  have tle : taken s ≤ 4 := by have := cnt_le s.L s.n; unfold taken; omega
  clear hf hgm
  go_wp2_with fail
  go_loop [19] (fun c => ∃ i : Nat, i ≤ j ∧ c = .int .i64 i) (fun c => j + 1 - (intOf c).toNat)
  case atStart => exact ⟨0, by omega, rfl⟩
  case round =>
    obtain ⟨i, hi, rfl⟩ := hrel
    by_cases hij : i < j
    · have hL := (HJ.out.2.1 i hij)
      have gi : (g (i : Int)).isSome = true := by
        have := (HG.out.bd i).1
        rw [HGM.out]; simp; omega
      have iw : (Lit.int .i64 (i : Int)).wf = true := wf64 (by omega)
      have GI := Lib.hid gi
      have hin : decide ((i : Int) < (s.n : Int)) = true := by simp; omega
      go_wp2_with (at_lookup; refine wpList_look_mi rfl _ _ rfl rfl hma (i : Int) rfl iw ?_; rw [GI.out])
      go_round
      case rel => exact ⟨i + 1, by omega, by go_num⟩
      case measure => simp [intOf]; omega
    · obtain rfl : i = j := by omega
      by_cases hin : i < s.n
      · have h0 := HJ.out.2.2 hin
        have gi : (g (i : Int)).isSome = false := by
          rw [HGM.out]; simp [h0]
        have iw : (Lit.int .i64 (i : Int)).wf = true := wf64 (by omega)
        have lw : (Lit.int .i64 (s.last + 1)).wf = true := wf64 (by omega)
        have GI := Lib.hid gi
        have hin' : decide ((i : Int) < (s.n : Int)) = true := by simp; omega
        have hlt := H1.out.lt
        have hne := H1.out.ne
        obtain ⟨w2, hw2⟩ : ∃ w2, w2 = w1.setCell ⟨b, 1, none⟩ (.int .i64 (s.last + 1)) := ⟨_, rfl⟩
        have k1 : w2.cell? ⟨b, 1, none⟩ = some (.int .i64 (s.last + 1)) := by rw [hw2]; exact cset_at c1
        have k2 : w2.cell? ⟨b, 2, none⟩ = some (.map (some bo)) := by rw [hw2, cset_ne (by omega)]; exact c2
        have k3 : w2.cell? ⟨b, 3, none⟩ = some (.map (some ba)) := by rw [hw2, cset_ne (by omega)]; exact c3
        have ma2 : MapI w2 ba (taken s) g := hw2 ▸ hma.setCell hne.2.2.symm
        have mo2 : MapI w2 bo kf f := hw2 ▸ hm.setCell hne.2.1.symm
        have l2 : b < w2.heap.size := lt_of_cell k1
        have HW := Lib.hid hw2
        go_wp2_with (at_lookup; refine wpList_look_mi rfl _ _ rfl rfl hma (i : Int) rfl iw ?_; rw [GI.out])
        rw [← hw2]
        clear hw2
        obtain ⟨w3, hr3, m3, t3⟩ := MapI.put_run (w := w2.drew) (ma2.block rfl) (by unfold maxLen; omega) (i : Int) (s.last + 1) iw lw
        have M3 := Lib.hid m3; have T3 := Lib.hid t3
        have T3' := Lib.hid (Turn.of_mapTurned (F := fun q => q = ba) t3 rfl)
        clear m3 t3
        have l3 : b < w2.drew.heap.size := l2
        have q2 : w3.cell? ⟨b, 2, none⟩ = some (.map (some bo)) := by rw [T3'.out.cell l3 (by omega)]; exact k2
        have q3 : w3.cell? ⟨b, 3, none⟩ = some (.map (some ba)) := by rw [T3'.out.cell l3 (by omega)]; exact k3
        have q1 : w3.cell? ⟨b, 1, none⟩ = some (.int .i64 (s.last + 1)) := by rw [T3'.out.cell l3 (by omega)]; exact k1
        have mo3 : MapI w3 bo kf f := MapI.turn (w := w2.drew) (mo2.block rfl) T3'.out (by omega)
        obtain ⟨w4, hr4, m4, t4⟩ := MapI.put_run (w := w3.drew) (mo3.block rfl) (by unfold maxLen; omega) (s.last + 1) (i : Int) lw iw
        have M4 := Lib.hid m4; have T4 := Lib.hid t4
        have l4 : b < w3.drew.heap.size := lt_of_cell q1
        have q4 : w4.cell? ⟨b, 1, none⟩ = some (.int .i64 (s.last + 1)) := by rw [(Turn.of_mapTurned (F := fun q => q = bo) t4 rfl).cell l4 (by omega)]; exact q1
        have q42 : w4.cell? ⟨b, 2, none⟩ = some (.map (some bo)) := by rw [(Turn.of_mapTurned (F := fun q => q = bo) t4 rfl).cell l4 (by omega)]; exact q2
        clear m4 t4
        go_region_held3 (fun w' => w'.cell? ⟨b, 3, none⟩ = some (.map (some ba)) ∧ w'.cell? ⟨b, 1, none⟩ = some (.int .i64 (s.last + 1))) (go_keep) (fail)
        go_wp2_with fail
        go_region_held3 (fun w' => w'.cell? ⟨b, 2, none⟩ = some (.map (some bo)) ∧ w'.cell? ⟨b, 1, none⟩ = some (.int .i64 (s.last + 1))) (go_keep) (fail)
        go_wp2_with fail
        go_quiet (fail)
        go_wp2_with fail
        go_ret3
        have R := gave_at H1.out HG.out hin h0 hk HF.out HGM.out HW.out 1 1 M3.out T3.out M4.out T4.out
        unfold subV subN subI subS
        rw [if_pos rfl, if_pos hin, if_pos ⟨rfl, hin⟩, if_pos ⟨rfl, hin⟩, if_pos ⟨rfl, hin⟩]
        exact ⟨rfl, R.1.below (below_drewN _ _), ((Turn.of_below hB.out).trans R.2).trans (Turn.drewN _ _ _)⟩
      · have hin' : decide ((i : Int) < (s.n : Int)) = false := by simp; omega
        go_wp2_with fail
        go_ret3
        unfold subV subN subI subS
        rw [if_pos rfl, if_neg hin, if_neg (fun x => hin x.2), if_neg (fun x => hin x.2), if_neg (fun x => hin x.2)]
        exact ⟨rfl, H1.out, Turn.of_below hB.out⟩
theorem submit_any {s : Sl} (b bo ba j : Nat) (t : ByteArray) (k n : Int) (w : World) (h : SlAt w b bo ba s) (hg : SlGood s) (hj : FirstFree s j) (hlast : s.last < 4611686018427387904) (ht : t.size ≤ 9223372036854775807) :
    Calls Try.prog 14 #[.pointer (some ⟨b, 0, none⟩), .agg #[.string t, .int .i64 k, .int .i64 n]] w fun e w' => e = .returned (.tuple #[.int .i64 (subV (decide (mayP t k n)) s j), .int .i64 (subN (decide (mayP t k n)) s j), .int .i64 (subI (decide (mayP t k n)) s j)]) ∧ SlAt w' b bo ba (subS (decide (mayP t k n)) s j) ∧ Turn (slF b bo ba) w w' := by
  by_cases hm : mayP t k n
  · rw [decide_eq_true hm]; exact submit_may b bo ba j t k n w h hg hj hlast ht (decide_eq_true hm)
  · rw [decide_eq_false hm]
    refine (submit_no b bo ba t k n w h ht (decide_eq_false hm)).mono ?_
    rintro e w' ⟨rfl, hb⟩
    exact ⟨rfl, h.below hb, Turn.of_below hb⟩
end Go.Proofs.Ytfmeppfhckahnaa
