/- texts joined -/
import Derived.Test.YtioegheehodndaaPkA
import Derived.Deep.RegionHeld3
import Derived.Test.YtioegheehodndaaChecked
import Derived.WalkLawsBesides
import Derived.WalkSpells
import Derived.Outline
import Derived.SliceStrings
/- two boxes of two cells, carried -/
namespace Go.Proofs.Ytioegheehodndaa
open Go.RowKit
set_option linter.unusedVariables false
set_option maxRecDepth 20000
def Box4q (w0 : World) (p q : Nat) (v0 v1 v2 v3 : Value) (w : World) : Prop := Below w0.heap.size w0 w ∧ w.cell? ⟨p, 0, none⟩ = some v0 ∧ w.cell? ⟨p, 1, none⟩ = some v1 ∧ w.cell? ⟨q, 0, none⟩ = some v2 ∧ w.cell? ⟨q, 1, none⟩ = some v3
theorem box4q_carry {w0 w w' : World} {p q : Nat} {v0 v1 v2 v3 : Value} (h : Box4q w0 p q v0 v1 v2 v3 w) (hb : Below w.heap.size w w') : Box4q w0 p q v0 v1 v2 v3 w' :=
  ⟨h.1.trans (hb.mono h.1.size), by rw [hb.cell (p := ⟨p, 0, none⟩) (lt_of_cell h.2.1)]; exact h.2.1, by rw [hb.cell (p := ⟨p, 1, none⟩) (lt_of_cell h.2.1)]; exact h.2.2.1, by rw [hb.cell (p := ⟨q, 0, none⟩) (lt_of_cell h.2.2.2.1)]; exact h.2.2.2.1, by rw [hb.cell (p := ⟨q, 1, none⟩) (lt_of_cell h.2.2.2.1)]; exact h.2.2.2.2⟩
end Go.Proofs.Ytioegheehodndaa
/- a list of texts that was lent is as it was -/
namespace Go.Proofs.Ytioegheehodndaa
open Go.RowKit
set_option linter.unusedVariables false
set_option maxRecDepth 20000
theorem roomy_holdsT {w : World} {B : Nat} {e : TypeId} {mark : Value} {n : Nat} {zs : List Tx} {k : Nat} (hl : zs.length = n) (h : Roomy w B e mark n (strsV zs) k) : HoldsT w (some ⟨B, 0, none⟩) n zs :=
  h.holds (by simpa [strsV] using hl)
theorem lent_same : (({ data := #[108, 101, 110, 116] } : ByteArray).toList == ({ data := #[108, 101, 110, 116] } : ByteArray).toList) = true := by simp
set_option maxHeartbeats 400000 in
theorem keptTexts_yes (B : Nat) (e : TypeId) (n : Nat) (z : List Tx) (a : Option Addr) (cap : Nat) (w : World) (h1 : z.length = n) (hR : Roomy w B e (.string ⟨#[108, 101, 110, 116]⟩) n (strsV z) 3) (h2 : HoldsT w a n z) (hn : n ≤ 1048576) :
    Calls Try.prog 21 #[.slice (some ⟨B, 0, none⟩) n (n + 3), .slice a n cap] w fun e w' => e = .returned (.bool true) ∧ Below w.heap.size w w' := by
  have HR := Lib.hid hR; have H2 := Lib.hid h2; have H1 := Lib.hid h1
  clear hR h2 h1
  have HS := Lib.hid (roomy_holdsT H1.out HR.out)
  have hc := lent_same
  go_enter Try.func21, Try.ntmps21
  go_wp2
  go_loop [6] (fun i => ∃ k : Nat, k ≤ 3 ∧ i = .int .i64 k) (fun i => 3 - (intOf i).toNat)
  case atStart => exact ⟨0, by omega, rfl⟩
  case round =>
    obtain ⟨k, hk, rfl⟩ := hrel
    by_cases hlt : k < 3
    · have hv := HR.out.room k hlt
      go_wp2
      go_round
      case rel => exact ⟨k + 1, by omega, by go_num⟩
      case measure => simp [intOf]; omega
    · obtain rfl : k = 3 := by omega
      go_wp2_with fail
      refine (sameTexts_yes _ _ _ _ _ z _ HS.out H2.out (by omega)).mono ?_
      rintro e w' ⟨rfl, hb⟩
      go_wp2_with fail
      go_ret
      exact ⟨rfl, hb⟩
end Go.Proofs.Ytioegheehodndaa
/- a copy of a slice with three marked cells of room behind it (LendTexts), and whether such a copy is as it was (KeptTexts) -/
namespace Go.Proofs.Ytioegheehodndaa
open Go.RowKit
set_option linter.unusedVariables false
set_option maxRecDepth 20000

theorem lendTexts_info : (Try.prog.info? 9).map (fun i => (i.zero, i.size, i.bytes)) = some (some (.string ⟨#[]⟩), 1, 16) := by kernel_rfl
set_option maxHeartbeats 400000 in
theorem lendTexts_any (a : Option Addr) (n cap : Nat) (xs : List Value) (w : World) (h : HoldsV w a n xs) (hnil : a = none → n = 0 ∧ cap = 0) (hn : n ≤ 1048576) (h1 : ∀ u ∈ xs, u.oneCell' = true) :
    Calls Try.prog 13 #[.slice a n cap] w fun e w' => e = .returned (.slice (some ⟨w.heap.size, 0, none⟩) n (n + 3)) ∧ Below w.heap.size w w' ∧ Roomy w' w.heap.size 9 (.string ⟨#[108, 101, 110, 116]⟩) n xs 3 := by
  obtain ⟨i0, hi, hz0, hz1, hz2⟩ := info_parts lendTexts_info
  obtain ⟨hl, hc⟩ := h
  have HC := Lib.hid hc; have HL := Lib.hid hl; have H1 := Lib.hid h1; have HN := Lib.hid hnil
  clear hc hl h1 hnil
  go_enter Try.func13, Try.ntmps13
  have HV : HoldsV w a n xs := ⟨HL.out, HC.out⟩
  replace HV := Lib.hid HV
  go_wp2_with (first | (at_make; refine wpList_make_own _ rfl _ _ 22 rfl w.heap.size 9 i0 (.string ⟨#[]⟩) 1 Try.underlying22 hi hz0 hz1 _ _ _ (n + 3) rfl rfl (by omega) (by rw [hz2]; omega) (by unfold maxLen; omega) (Nat.le_refl _) ?_; intro w0 hown0 hgrow0) | (at_builtin; refine wpList_append_fits_any _ rfl (.tmp 10) (.tmp 11) 22 rfl w.heap.size 9 i0 1 Try.underlying22 hi hz1 w.heap.size 0 (n + 3) _ rfl hown0 a n cap xs rfl (by simpa using HL.out) HN.out (HV.out.cells hgrow0) H1.out (by omega) ?_; intro w1 hown1 hgrow1; simp only [Nat.zero_add, List.nil_append] at hown1))
  have hb0 : Below w.heap.size w w0 := below_grown hgrow0 (by intro k hk; cases hk)
  have hb1 : Below w.heap.size w w1 := hb0.grown hgrow1 hb0.size (by intro k hk; cases hk; exact Nat.le_refl _)
  have hr1 : Roomy w1 w.heap.size 9 (.string ⟨#[108, 101, 110, 116]⟩) n xs 0 := roomy_of_own HL.out hown1
  have HB1 := Lib.hid hb1; have HR1 := Lib.hid hr1
  clear hb0 hb1 hr1 hown0 hown1 hgrow0 hgrow1
  go_loopw [5] (fun i wr => ∃ k : Nat, k ≤ 3 ∧ i = .int .i64 k ∧ Hid (Roomy wr w.heap.size 9 (.string ⟨#[108, 101, 110, 116]⟩) n xs k) ∧ Hid (Below w.heap.size w wr)) (fun i _ => 3 - (intOf i).toNat)
  case atStart => exact ⟨0, by omega, rfl, HR1, HB1⟩
  case round =>
    obtain ⟨k, hk, rfl, hR, hB⟩ := hrel
    by_cases hlt : k < 3
    · obtain ⟨v, hv⟩ := hR.out.there (n + k) (by omega)
      have hf := hR.out.free (n + k)
      go_wp2
      go_roundw
      case rel => exact ⟨k + 1, by omega, by go_num, hR.out.put hlt, hB.out.setCell (Nat.le_refl _) _⟩
      case measure => simp [intOf]; omega
    · obtain rfl : k = 3 := by omega
      go_wp2
      go_ret
      exact ⟨rfl, hB.out, hR.out⟩
end Go.Proofs.Ytioegheehodndaa
/- a list of texts as argument, opened -/
namespace Go.Proofs.Ytioegheehodndaa
open Go.ChangeShapes Go.WideShapes Go.ChangeAt Go.RowKit
set_option linter.unusedVariables false
set_option maxRecDepth 20000
theorem Try.cellsStr : Try.prog.cellsOf 9 = 1 := by kernel_rfl
theorem open_texts_arg {H : Type} {enc : TypeId × Value → H} {W : World} {base : Nat} {v : Value} {d : DataW H} {p : List MemPlace}
    (o : Value.okWide Try.prog W .any base 22 v) (h : DataW.Trod enc Try.prog W 0 (fun _ => true) true 22 v d p) :
    ∃ a n cap ts, v = .slice a n cap ∧ HoldsT W a n ts ∧ (a = none → n = 0 ∧ cap = 0) ∧ n ≤ cap ∧ n ≤ 9223372036854775807 ∧ ∀ t ∈ ts, t.size ≤ 9223372036854775807 := by
  obtain ⟨a, len, cap, rfl⟩ := okWide_slice Try.underlying22 o
  obtain ⟨fuel, hf⟩ := h
  rcases open_strings Try.underlying22 Try.underlying9 Try.cellsStr hf with ⟨hcs, _⟩ | ⟨x, l, c, ss, hcs, _, hl, hm, hz, _, hcell, hsz⟩
  · simp [Value.cells] at hcs
    obtain ⟨rfl, rfl, rfl⟩ := hcs
    exact ⟨none, 0, 0, [], rfl, HoldsT.nil _ _, fun _ => ⟨rfl, rfl⟩, Nat.le_refl _, by omega, by simp⟩
  · simp [Value.cells] at hcs
    obtain ⟨rfl, rfl, rfl⟩ := hcs
    have hzc : ss.length = cap := by simpa using hz
    refine ⟨some x, len, cap, ss.take len, rfl, ?_, (fun h => by cases h), hl, by unfold maxLen at hm; omega, fun t ht => by have := hsz t (List.mem_of_mem_take ht); unfold maxLen at this; omega⟩
    refine ⟨by simp [strsV]; omega, fun h0 => ?_⟩
    obtain ⟨b, off, spot⟩ := x
    have hspot : spot = none := by simpa [Addr.add] using World.cell?_spot (hcell 0 (by omega))
    subst hspot
    refine ⟨b, off, rfl, fun i hi => ?_⟩
    rw [← Go.WideShapes.add_plain, hcell i (by omega), getD_map_str _ i (by simp; omega)]
    congr 2
    simp only [List.getD_eq_getElem?_getD, List.getElem?_take]
    rw [if_pos hi]
end Go.Proofs.Ytioegheehodndaa
