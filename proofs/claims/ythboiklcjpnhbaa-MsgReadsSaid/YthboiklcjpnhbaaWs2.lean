/- lists of texts in memory; two held against each other -/
import Derived.Test.YthboiklcjpnhbaaMemV
import Derived.Test.YthboiklcjpnhbaaWs1
import Derived.WalkLawsBesides
import Derived.Outline
import Derived.Deep.QuietTactic
import Derived.BigQuiet
import Derived.SliceStrings
namespace Go.Proofs.Ythboiklcjpnhbaa
open Go.RowKit
set_option linter.unusedVariables false
set_option maxRecDepth 20000
def strsV (ts : List Tx) : List Value := ts.map Value.string
def HoldsT (w : World) (a : Option Addr) (n : Nat) (ts : List Tx) : Prop := HoldsV w a n (strsV ts)
theorem HoldsT.len {w : World} {a : Option Addr} {n : Nat} {ts : List Tx} (h : HoldsT w a n ts) : ts.length = n := by simpa [strsV] using h.1
theorem getD_map_str (ts : List Tx) (i : Nat) (hi : i < ts.length) : (strsV ts).getD i undef = .string (ts.getD i ByteArray.empty) := by
  simp [strsV, List.getD_eq_getElem?_getD, hi]
theorem HoldsT.at {w : World} {a : Option Addr} {n : Nat} {ts : List Tx} (h : HoldsT w a n ts) (h0 : 0 < n) : ∃ b o, a = some ⟨b, o, none⟩ ∧ ∀ i, i < n → w.cell? ⟨b, o + i, none⟩ = some (.string (ts.getD i ByteArray.empty)) := by
  obtain ⟨b, o, ha, hc⟩ := h.2 h0
  exact ⟨b, o, ha, fun i hi => by rw [hc i hi, getD_map_str ts i (by rw [h.len]; exact hi)]⟩
theorem HoldsT.of {w : World} {b o n : Nat} {ts : List Tx} (hl : ts.length = n) (hc : ∀ i, i < n → w.cell? ⟨b, o + i, none⟩ = some (.string (ts.getD i ByteArray.empty))) : HoldsT w (some ⟨b, o, none⟩) n ts :=
  ⟨by simpa [strsV] using hl, fun _ => ⟨b, o, rfl, fun i hi => by rw [hc i hi, getD_map_str ts i (by omega)]⟩⟩
theorem HoldsT.nil (w : World) (a : Option Addr) : HoldsT w a 0 [] := ⟨rfl, fun h => absurd h (by omega)⟩
theorem HoldsT.below {w w' : World} {a : Option Addr} {n : Nat} {ts : List Tx} (h : HoldsT w a n ts) (hb : Below w.heap.size w w') : HoldsT w' a n ts := HoldsV.below h hb
theorem HoldsT.drop {w : World} {b o n : Nat} {ts : List Tx} (h : HoldsT w (some ⟨b, o, none⟩) n ts) (j : Nat) (hj : j ≤ n) : HoldsT w (some ⟨b, o + j, none⟩) (n - j) (ts.drop j) := by
  refine HoldsT.of (by rw [List.length_drop, h.len]) fun i hi => ?_
  obtain ⟨b', o', ha, hc⟩ := h.at (by omega)
  cases ha
  rw [Nat.add_assoc, hc (j + i) (by omega)]
  simp [List.getD_eq_getElem?_getD]
theorem HoldsT.own {w : World} {B : Nat} {e : TypeId} {a : Option Addr} {n c : Nat} {ts : List Tx} (h : w.ownsRow B e 1 (.slice a n c) n (strsV ts)) : HoldsT w a n ts := owns_holds h
theorem HoldsT.spared {w w' : World} {a : Option Addr} {n : Nat} {ts : List Tx} {row : Option Nat} (h : HoldsT w a n ts) (hg : w.grownBy w' row) (hne : ∀ ad, a = some ad → some ad.block ≠ row) : HoldsT w' a n ts := by
  refine ⟨h.1, fun h0 => ?_⟩
  obtain ⟨b, o, ha, hc⟩ := h.2 h0
  refine ⟨b, o, ha, fun i hi => ?_⟩
  have h1 := hc i hi
  have hlt := lt_of_cell h1
  rw [← h1]
  exact World.cell?_of_block (w := w) (a := ⟨b, o + i, none⟩) (hg.block b hlt (hne _ ha))
theorem strsV_one (ts : List Tx) : ∀ u ∈ strsV ts, u.oneCell' = true := by
  intro u hu; obtain ⟨t, _, rfl⟩ := List.mem_map.1 hu; rfl
theorem strsV_snoc (ts : List Tx) (t : Tx) : strsV (ts ++ [t]) = strsV ts ++ [Value.string t] := by simp [strsV]
theorem str_same (x : Tx) : (x.toList == x.toList) = true := by simp
theorem str_other {x y : Tx} (h : x ≠ y) : (x.toList == y.toList) = false := by
  rw [beq_eq_false_iff_ne]; exact fun e => h (toList_inj e)
end Go.Proofs.Ythboiklcjpnhbaa
