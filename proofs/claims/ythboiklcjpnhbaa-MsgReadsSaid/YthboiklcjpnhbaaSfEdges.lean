/- lists of api.Edge: 2 cells each -/
import Derived.Test.YthboiklcjpnhbaaOpS
import Derived.Test.YthboiklcjpnhbaaMemV
import Derived.Test.YthboiklcjpnhbaaChecked
import Derived.WalkLawsBesides
import Derived.WalkSpells
import Derived.Outline
import Derived.Deep.QuietTactic
import Derived.BigQuiet
import Derived.Deep.DeepCutAuto
namespace Go.Proofs.Ythboiklcjpnhbaa
open Go.RowKit
set_option linter.unusedVariables false
set_option maxRecDepth 20000
structure EdP where
  r : Int
  dst : Int
def ed0 : EdP := ⟨0, 0⟩
def cellsEd (x : EdP) : List Value := [(.int .i32 x.r), (.int .i64 x.dst)]
def HoldsEd (w : World) (a : Option Addr) (n : Nat) (ks : List EdP) : Prop := ks.length = n ∧ (0 < n → ∃ b o, a = some ⟨b, o, none⟩ ∧ ∀ i, i < n → w.cell? ⟨b, o + i * 2, none⟩ = some (.int .i32 (ks.getD i ed0).r) ∧ w.cell? ⟨b, o + i * 2 + 1, none⟩ = some (.int .i64 (ks.getD i ed0).dst))
theorem HoldsEd.len {w : World} {a : Option Addr} {n : Nat} {ks : List EdP} (h : HoldsEd w a n ks) : ks.length = n := h.1
theorem HoldsEd.at {w : World} {a : Option Addr} {n : Nat} {ks : List EdP} (h : HoldsEd w a n ks) (h0 : 0 < n) : ∃ b o, a = some ⟨b, o, none⟩ ∧ ∀ i, i < n → w.cell? ⟨b, o + i * 2, none⟩ = some (.int .i32 (ks.getD i ed0).r) ∧ w.cell? ⟨b, o + i * 2 + 1, none⟩ = some (.int .i64 (ks.getD i ed0).dst) := h.2 h0
theorem HoldsEd.nil (w : World) (a : Option Addr) : HoldsEd w a 0 [] := ⟨rfl, fun h => absurd h (by omega)⟩
theorem HoldsEd.below {w w' : World} {a : Option Addr} {n : Nat} {ks : List EdP} (h : HoldsEd w a n ks) (hb : Below w.heap.size w w') : HoldsEd w' a n ks := by
  refine ⟨h.1, fun h0 => ?_⟩
  obtain ⟨b, o, ha, hc⟩ := h.2 h0
  have hlt := lt_of_cell (hc 0 h0).1
  refine ⟨b, o, ha, fun i hi => ?_⟩
  rw [hb.cell (p := ⟨b, o + i * 2, none⟩) hlt, hb.cell (p := ⟨b, o + i * 2 + 1, none⟩) hlt]
  exact hc i hi
theorem getD_memEd (zs : List EdP) (j : Nat) (h : j < zs.length) : zs.getD j ed0 ∈ zs := by
  rw [List.getD_eq_getElem?_getD, List.getElem?_eq_getElem h]; simp
def edsV : List EdP → List Value
  | [] => []
  | k :: ks => (.int .i32 k.r) :: (.int .i64 k.dst) :: edsV ks
theorem edsV_len : ∀ ks : List EdP, (edsV ks).length = ks.length * 2
  | [] => rfl
  | k :: ks => by simp [edsV, edsV_len ks]; omega
theorem edsV_app : ∀ ks ls : List EdP, edsV (ks ++ ls) = edsV ks ++ edsV ls
  | [], ls => rfl
  | k :: ks, ls => by simp [edsV, edsV_app ks ls]
theorem edsV_one : ∀ (ks : List EdP), ∀ u ∈ edsV ks, u.oneCell' = true
  | [], u, h => by simp [edsV] at h
  | k :: ks, u, h => by
    simp only [edsV, List.mem_cons] at h
    rcases h with h | h | h
    · subst h; rfl
    · subst h; rfl
    · exact edsV_one ks u h
theorem edsV_at : ∀ (ks : List EdP) (i : Nat), i < ks.length → (edsV ks)[i * 2]? = some (.int .i32 (ks.getD i ed0).r) ∧ (edsV ks)[i * 2 + 1]? = some (.int .i64 (ks.getD i ed0).dst)
  | [], i, h => by simp at h
  | k :: ks, 0, _ => by simp [edsV]
  | k :: ks, i + 1, h => by
    have ih := edsV_at ks i (by simpa using h)
    have e1 : (i + 1) * 2 = i * 2 + 1 + 1 := by omega
    rw [e1]
    simpa [edsV] using ih
theorem edsV_snoc (ks : List EdP) (k : EdP) : edsV (ks ++ [k]) = edsV ks ++ cellsEd k := by rw [edsV_app]; rfl
theorem HoldsEd.cells {w : World} {b o n : Nat} {ks : List EdP} (h : HoldsEd w (some ⟨b, o, none⟩) n ks) : ∀ j u, (edsV ks)[j]? = some u → w.cell? ((⟨b, o, none⟩ : Addr).add j) = some u := by
  intro j u hj
  have hl := h.len
  have hjl : j < (edsV ks).length := by
    rcases Nat.lt_or_ge j (edsV ks).length with h' | h'
    · exact h'
    · rw [List.getElem?_eq_none h'] at hj; cases hj
  rw [edsV_len] at hjl
  obtain ⟨b', o', ha, hc⟩ := h.at (by omega)
  cases ha
  obtain ⟨c0, c1⟩ := hc (j / 2) (by omega)
  obtain ⟨v0, v1⟩ := edsV_at ks (j / 2) (by omega)
  rw [Go.WideShapes.add_plain]
  have hcase : j = j / 2 * 2 ∨ j = j / 2 * 2 + 1 := by omega
  rcases hcase with e | e
  · have e2 : o + j / 2 * 2 = o + j := by omega
    rw [← e] at v0
    rw [e2] at c0
    rw [c0, ← hj, v0]
  · have e2 : o + j / 2 * 2 + 1 = o + j := by omega
    rw [← e] at v1
    rw [e2] at c1
    rw [c1, ← hj, v1]
theorem HoldsEd.own {w : World} {B : Nat} {e : TypeId} {a : Option Addr} {n c : Nat} {ks : List EdP} (h : w.ownsRow B e 2 (.slice a n c) n (edsV ks)) : HoldsEd w a n ks := by
  have hl : ks.length = n := by have := h.1; rw [edsV_len] at this; omega
  refine ⟨hl, fun h0 => ?_⟩
  rcases h.2 with ⟨_, h1⟩ | ⟨g, cap, cur, hv, _, hh, hc, _, hs, hx⟩
  · omega
  · simp only [Value.slice.injEq] at hv
    obtain ⟨rfl, _, rfl⟩ := hv
    refine ⟨g, 0, rfl, fun i hi => ?_⟩
    obtain ⟨v0, v1⟩ := edsV_at ks i (by omega)
    rw [← hx] at v0 v1
    rw [List.getElem?_take_of_lt (by omega)] at v0 v1
    rw [Array.getElem?_toList] at v0 v1
    rw [Nat.zero_add, Joins.cell_of_block hh, Joins.cell_of_block hh]
    exact ⟨v0, v1⟩
theorem HoldsEd.cellsAny {w : World} {a : Option Addr} {n : Nat} {ks : List EdP} (h : HoldsEd w a n ks) {w' : World} (hg : w.grownBy w' none) : ∀ ad, a = some ad → ∀ j u, (edsV ks)[j]? = some u → w'.cell? (ad.add j) = some u := by
  intro ad ha j u hj
  have hjl : j < (edsV ks).length := (List.getElem?_eq_some_iff.1 hj).1
  rw [edsV_len] at hjl
  obtain ⟨b, o, hb, _⟩ := h.at (by have := h.len; omega)
  rw [ha] at hb
  obtain rfl := Option.some.inj hb
  subst ha
  exact hg.cell (h.cells j u hj) (by simp)
theorem HoldsEd.cellsAt {w : World} {a : Option Addr} {n : Nat} {ks : List EdP} (h : HoldsEd w a n ks) : ∀ ad, a = some ad → ∀ j u, (edsV ks)[j]? = some u → w.cell? (ad.add j) = some u := HoldsEd.cellsAny h ⟨rfl, rfl, rfl, Nat.le_refl _, fun _ _ _ => rfl⟩
end Go.Proofs.Ythboiklcjpnhbaa
