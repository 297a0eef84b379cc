/- slots: Free and Submit -/
import Derived.Test.YtfmeppfhckahnaaSl1
import Derived.Deep.RegionHeld3
namespace Go.Proofs.Ytfmeppfhckahnaa
open Go.RowKit
set_option linter.unusedVariables false
theorem wf64 {n : Int} (h : -9223372036854775808 ≤ n ∧ n ≤ 9223372036854775807) : (Lit.int .i64 n).wf = true := Go.WalkArith.wf_i64 h
def freeS (s : Sl) : Option Nat → Sl
  | some i => { s with L := upd s.L i 0 }
  | none => s
theorem freeS_good {s : Sl} (h : SlGood s) (x : Option Nat) : SlGood (freeS s x) := by
  cases x with
  | none => exact h
  | some i =>
    refine ⟨h.n1, h.n4, h.lo, fun j => ?_, fun j hj => ?_, fun j k => ?_⟩
    · show 0 ≤ upd s.L i 0 j ∧ upd s.L i 0 j ≤ s.last
      by_cases e : j = i
      · subst e; rw [upd_at]; exact ⟨Int.le_refl _, h.lo⟩
      · rw [upd_ne _ _ _ _ e]; exact h.bd j
    · show upd s.L i 0 j = 0
      by_cases e : j = i
      · subst e; rw [upd_at]
      · rw [upd_ne _ _ _ _ e]; exact h.far j hj
    · show upd s.L i 0 j = upd s.L i 0 k → 0 < upd s.L i 0 j → j = k
      by_cases e : j = i
      · subst e; rw [upd_at]; omega
      · rw [upd_ne _ _ _ _ e]
        by_cases e2 : k = i
        · subst e2; rw [upd_at]; omega
        · rw [upd_ne _ _ _ _ e2]; exact h.apart j k
theorem slotOf_free {s : Sl} (h : SlGood s) {i : Nat} {z z' : Int} {x : Option Nat} (hi : SlotOf s z (some i)) (hx : SlotOf (freeS s (some i)) z' x) : (z' = z → x = none) ∧ (z' ≠ z → SlotOf s z' x) := by
  obtain ⟨h1, h2, h3⟩ := hi
  refine ⟨fun e => ?_, fun e => ?_⟩
  · subst e
    cases x with
    | none => rfl
    | some j =>
      obtain ⟨k1, k2, k3⟩ := hx
      simp only [freeS] at k2
      by_cases e : j = i
      · subst e; rw [upd_at] at k2; omega
      · rw [upd_ne _ _ _ _ e] at k2
        exact absurd (h.apart j i (by omega) (by omega)) e
  · cases x with
    | none =>
      rcases hx with hx | hx
      · exact Or.inl hx
      · refine Or.inr fun j hj => ?_
        have := hx j hj
        simp only [freeS] at this
        by_cases e2 : j = i
        · subst e2; omega
        · rwa [upd_ne _ _ _ _ e2] at this
    | some j =>
      obtain ⟨k1, k2, k3⟩ := hx
      simp only [freeS] at k1 k2
      by_cases e2 : j = i
      · subst e2; rw [upd_at] at k2; omega
      · rw [upd_ne _ _ _ _ e2] at k2
        exact ⟨k1, k2, k3⟩
theorem free_at {w w1 w2 : World} {b bo ba : Nat} {s : Sl} {i k : Nat} {z : Int} {f g : Int → Option Int} (h : SlAt w b bo ba s) (hg : SlGood s) (hi : SlotOf s z (some i))
    (hm : MapI w bo k f) (hk : k ≤ taken s) (hf : ∀ z x, SlotOf s z x → f z = oint x) (hgm : ∀ z, g z = if 0 ≤ z ∧ 0 < s.L z.toNat then some (s.L z.toNat) else none)
    (m1 : MapI w1 bo (if (f z).isSome then k - 1 else k) (fset f z none)) (t1 : w.mapTurned w1 bo) (m2 : MapI w2 ba (if (g i).isSome then taken s - 1 else taken s) (fset g i none)) (t2 : w1.mapTurned w2 ba) :
    SlAt w2 b bo ba (freeS s (some i)) ∧ Turn (slF b bo ba) w w2 := by
  obtain ⟨e1, e2, e3⟩ := h.ne
  have T1 : Turn (fun k => k = bo ∨ k = ba) w w2 := (Turn.of_mapTurned t1 (Or.inl rfl)).trans (Turn.of_mapTurned t2 (Or.inr rfl))
  have hb := h.lt.1
  have hnb : ¬ (fun k => k = bo ∨ k = ba) b := by intro x; rcases x with x | x <;> omega
  have fz : f z = some (i : Int) := hf z (some i) hi
  obtain ⟨i1, i2, i3⟩ := hi
  have gi : g i = some z := by rw [hgm]; simp [i2, i3]
  have tk : taken (freeS s (some i)) + 1 = taken s := by
    have := cnt_upd s.L i 0 s.n i1
    rw [if_pos (by omega), if_neg (by omega)] at this
    exact this
  rw [fz] at m1
  rw [gi] at m2
  simp only [Option.isSome_some, if_true] at m1 m2
  refine ⟨⟨by rw [T1.cell hb hnb]; exact h.c0, by rw [T1.cell hb hnb]; exact h.c1, by rw [T1.cell hb hnb]; exact h.c2, by rw [T1.cell hb hnb]; exact h.c3, fun j => by rw [T1.frozen hb hnb]; exact h.fr j, ⟨k - 1, _, m1.turn (Turn.of_mapTurned (F := fun q => q = ba) t2 rfl) (by omega), by omega, fun z' x hx => ?_⟩, ⟨_, (show taken s - 1 = taken (freeS s (some i)) by omega) ▸ m2, fun z' => ?_⟩, h.ne⟩, T1.mono fun q hq => by unfold slF; rcases hq with hq | hq <;> simp [hq]⟩
  · obtain ⟨o1, o2⟩ := slotOf_free hg ⟨i1, i2, i3⟩ hx
    by_cases e : z' = z
    · rw [e, fset_at, o1 e]; rfl
    · rw [fset_ne _ _ _ _ e]; exact hf z' x (o2 e)
  · show fset g i none z' = if 0 ≤ z' ∧ 0 < upd s.L i 0 z'.toNat then some (upd s.L i 0 z'.toNat) else none
    by_cases e : z' = i
    · subst e; rw [fset_at]; simp [upd_at]
    · rw [fset_ne _ _ _ _ e, hgm]
      by_cases h0 : 0 ≤ z'
      · rw [upd_ne _ _ _ _ (by omega)]
      · rw [if_neg (fun x => h0 x.1), if_neg (fun x => h0 x.1)]
theorem free_any {s : Sl} (b bo ba : Nat) (z : Int) (x : Option Nat) (w : World) (h : SlAt w b bo ba s) (hg : SlGood s) (hz : (Lit.int .i64 z).wf = true) (hx : SlotOf s z x) :
    Calls Try.prog 12 #[.pointer (some ⟨b, 0, none⟩), .int .i64 z] w fun e w' => e = .returned (.bool x.isSome) ∧ SlAt w' b bo ba (freeS s x) ∧ Turn (slF b bo ba) w w' := by
  cases x with
  | none =>
    have H := Lib.hid h; have HX := Lib.hid hx
    clear h hx
    go_enter Try.func12, Try.ntmps12
    go_wp2_with fail
    refine (of_any b bo ba z none _ H.out hz HX.out).mono ?_
    rintro e w' ⟨rfl, rfl⟩
    go_wp2_with fail
    go_ret
    exact ⟨rfl, H.out, Turn.refl _ _⟩
  | some i =>
    have c2 := h.c2; have c3 := h.c3
    have hl := h.lt.1
    obtain ⟨k, f, hm, hk, hf⟩ := h.mo
    obtain ⟨g, hma, hgm⟩ := h.ma
    have i4 : (Lit.int .i64 (i : Int)).wf = true := wf64 (by have := hx.1; have := hg.n4; omega)
    have hno := h.ne.1; have hno1 := h.ne.2.1
    have H := Lib.hid h; have HX := Lib.hid hx; have HF := Lib.hid hf; have HG := Lib.hid hgm; have HGG := Lib.hid hg
    clear h hx hf hgm hg
    go_enter Try.func12, Try.ntmps12
    go_wp2_with fail
    refine (of_any b bo ba z (some i) _ H.out hz HX.out).mono ?_
    rintro e w' ⟨rfl, rfl⟩
    go_wp2_with (first
      | (at_delete; refine wpList_del_mi rfl _ _ rfl rfl hm z rfl hz ?_; intro w1 m1 t1; have c31 : w1.cell? ⟨b, 3, none⟩ = some (.map (some ba)) := (by rw [(Turn.of_mapTurned (F := fun q => q = bo) t1 rfl).cell hl (by omega)]; exact c3); have hma1 := hma.turn (Turn.of_mapTurned (F := fun q => q = bo) t1 rfl) (by omega); have TT := Lib.hid t1; clear t1)
      | (at_delete; refine wpList_del_mi rfl _ _ rfl rfl hma1 (i : Int) rfl i4 ?_; intro w2 m2 t2))
    go_ret
    have := free_at H.out HGG.out HX.out hm hk HF.out HG.out m1 TT.out m2 t2
    exact ⟨rfl, this.1, this.2⟩
end Go.Proofs.Ytfmeppfhckahnaa
