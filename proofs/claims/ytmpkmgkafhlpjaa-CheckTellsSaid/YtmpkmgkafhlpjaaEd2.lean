/- contract of rows.Advance: a row of a table turned into the next one, in place -/
import Derived.Test.YtmpkmgkafhlpjaaEd1
namespace Go.Proofs.Ytmpkmgkafhlpjaa
open Go.RowKit
set_option linter.unusedVariables false
set_option maxRecDepth 20000
theorem cost_eq (x : Int) : Ed.cost x x = 0 := by simp [Ed.cost]
theorem cost_ne {x y : Int} (h : x ≠ y) : Ed.cost x y = 1 := by simp [Ed.cost, h]
theorem store_grown (w : World) (g i : Nat) (v : Value) : w.grownBy (w.setCell ⟨g, i, none⟩ v) (some g) :=
  ⟨rfl, rfl, rfl, by simp [World.setCell], fun k _ hk => Below.heap_setCell _ _ _ _ (fun e => hk (by rw [e]))⟩
theorem grown_trans {a b c : World} {r : Option Nat} (h : a.grownBy b r) (k : b.grownBy c r) : a.grownBy c r :=
  ⟨k.os.trans h.os, k.tape.trans h.tape, k.output.trans h.output, Nat.le_trans h.size k.size, fun i hi hr => (k.block i (Nat.lt_of_lt_of_le hi h.size) hr).trans (h.block i hi hr)⟩
theorem own_val {w : World} {p : Addr} {base : Nat} {e : TypeId} {size : Nat} {v : Value} {n : Nat} {xs : List Value} {V x : Int} (h : (w.setCell p (.int .i64 V)).ownsRow base e size v n xs) (hx : x = V) : (w.setCell p (.int .i64 x)).ownsRow base e size v n xs := by
  rw [hx]; exact h
set_option maxHeartbeats 1600000 in
theorem advance_any (B g cap m : Nat) (R ra : List Int) (a : Option Addr) (acap : Nat) (r : Int) (w : World) (h : w.ownsRow B 3 1 (.slice (some ⟨g, 0, none⟩) (m + 1) cap) (m + 1) (intsV R))
    (ha : HoldsI .i32 w a m ra) (hne : ∀ b o, 0 < m → a = some ⟨b, o, none⟩ → b ≠ g) (hR : ∀ i, 0 ≤ R.getD i 0 ∧ R.getD i 0 ≤ 4194304) (hm : m ≤ 1048576) :
    Calls Try.prog 75 #[.slice (some ⟨g, 0, none⟩) (m + 1) cap, .slice a m acap, .int .i32 r] w fun e w' => e = .returned (.tuple #[]) ∧
      w'.ownsRow B 3 1 (.slice (some ⟨g, 0, none⟩) (m + 1) cap) (m + 1) (intsV (Ed.mix R ra r m)) ∧ w.grownBy w' (some g) := by
  have hlR : R.length = m + 1 := by have := h.1; simpa [intsV] using this
  have hla := ha.len
  have hbd := Ed.adv_bd R ra r 4194304 (by decide) hR
  have HR := Lib.hid hR; have HBD := Lib.hid hbd; have HLR := Lib.hid hlR; have HLA := Lib.hid hla; have HA := Lib.hid ha; have HNE := Lib.hid hne; have H := Lib.hid h
  have hc0 := h.cellAt 0 (by omega)
  rw [intsV_at _ 0 (by omega)] at hc0
  have hf0 := h.frozenAt 0
  have hs0 := (h.stored 0 (.int .i64 (R.getD 0 0 + 1))).1
  rw [intsV_set, Ed.mix_zero R ra r (by omega)] at hs0
  have HS0 := Lib.hid hs0
  have b0 := hR 0
  obtain ⟨x0, hx0⟩ : ∃ x, R.getD 0 0 = x := ⟨_, rfl⟩
  rw [hx0] at hc0 b0
  have HX0 := Lib.hid hx0
  clear hs0 hx0 hR hbd hlR hla ha hne h
  go_enter Try.func75, Try.ntmps75
  go_wp2
  go_loopw [6, 20] (fun ab i wr => ∃ k : Nat, k ≤ m ∧ i = .int .i64 k ∧ ab = .int .i64 (R.getD k 0) ∧ Hid (wr.ownsRow B 3 1 (.slice (some ⟨g, 0, none⟩) (m + 1) cap) (m + 1) (intsV (Ed.mix R ra r k))) ∧ Hid (w.grownBy wr (some g))) (fun _ i _ => m - (intOf i).toNat)
  case atStart => exact ⟨0, by omega, rfl, by rw [HX0.out], by rw [← HX0.out]; exact HS0, Lib.hid (store_grown w g 0 _)⟩
  case round =>
    obtain ⟨k, hk, rfl, rfl, hO, hG⟩ := hrel
    by_cases hlt : k < m
    · obtain ⟨ba, oa, rfl, hca⟩ := HA.out.at (by omega)
      have hbg : ba ≠ g := HNE.out ba oa (by omega) rfl
      have e1 := hca k hlt
      have hba := lt_of_cell e1
      have ea : wr.cell? ⟨ba, oa + k, none⟩ = some (.int .i32 (ra.getD k 0)) := by
        rw [World.cell?_of_block (w := w) (hG.out.block ba hba (by intro e; injection e with e; exact hbg e))]; exact e1
      have hk1 := hO.out.cellAt (k + 1) (by omega)
      rw [intsV_at _ (k + 1) (by rw [Ed.mix_length, HLR.out]; omega), Ed.mix_old R ra r k (k + 1) (by rw [HLR.out]; omega) (by omega)] at hk1
      have hk0 := hO.out.cellAt k (by omega)
      rw [intsV_at _ k (by rw [Ed.mix_length, HLR.out]; omega), Ed.mix_new R ra r k k (by rw [HLR.out]; omega) (by omega)] at hk0
      have hf1 := hO.out.frozenAt (k + 1)
      have hst := (hO.out.stored (k + 1) (.int .i64 (Ed.adv R ra r (k + 1)))).1
      rw [intsV_set, Ed.mix_set R ra r k (by rw [HLR.out]; omega)] at hst
      have hadv : Ed.adv R ra r (k + 1) = min (min (R.getD k 0 + Ed.cost (ra.getD k 0) r) (R.getD (k + 1) 0 + 1)) (Ed.adv R ra r k + 1) := rfl
      have q0 := HR.out k; have q1 := HR.out (k + 1); have q2 := HBD.out k
      have HST := Lib.hid hst
      obtain ⟨V, hV⟩ : ∃ V, Ed.adv R ra r (k + 1) = V := ⟨_, rfl⟩
      obtain ⟨c, hc⟩ : ∃ c, ra.getD k 0 = c := ⟨_, rfl⟩
      obtain ⟨x, hx⟩ : ∃ x, R.getD k 0 = x := ⟨_, rfl⟩
      obtain ⟨y, hy⟩ : ∃ y, R.getD (k + 1) 0 = y := ⟨_, rfl⟩
      obtain ⟨z, hz⟩ : ∃ z, Ed.adv R ra r k = z := ⟨_, rfl⟩
      rw [hV] at HST hadv
      rw [hc] at ea hadv; rw [hx] at q0 hadv ⊢; rw [hy] at hk1 q1 hadv; rw [hz] at hk0 q2 hadv
      have HY := Lib.hid hy
      clear hst hV hc hx hy hz e1 hca hc0 hf0
      by_cases hcr : c = r
      · subst hcr
        rw [cost_eq] at hadv
        have HADV := Lib.hid hadv
        clear hadv
        go_wp2
        all_goals (
          go_roundw
          case rel => exact ⟨k + 1, by omega, by go_num, by rw [HY.out], Lib.hid (own_val HST.out (by have e := HADV.out; omega)), Lib.hid (grown_trans hG.out (store_grown wr g (k + 1) _))⟩
          case measure => simp [intOf]; omega)
      · rw [cost_ne hcr] at hadv
        have hb : (c != r) = true := by simpa using hcr
        have HADV := Lib.hid hadv
        clear hadv hcr
        go_wp2
        all_goals (
          go_roundw
          case rel => exact ⟨k + 1, by omega, by go_num, by rw [HY.out], Lib.hid (own_val HST.out (by have e := HADV.out; omega)), Lib.hid (grown_trans hG.out (store_grown wr g (k + 1) _))⟩
          case measure => simp [intOf]; omega)
    · obtain rfl : k = m := by omega
      go_wp2
      go_end0
      exact ⟨rfl, hO.out, hG.out⟩
end Go.Proofs.Ytmpkmgkafhlpjaa
