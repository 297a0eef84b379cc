/- fair: turned records make no window (plain) -/
import Derived.Test.YteloiibejkflhaaQFa9
namespace Go.Proofs.Yteloiibejkflhaa
open Go.RowKit
set_option linter.unusedVariables false
set_option maxRecDepth 20000
theorem window_no {c : Cfg} {zs : List Int} {ys : List RecP} {b : Nat} (h : fairB c.W (canonZ zs) (linksL (canonZ zs) ys) (ys.take b) = false) : windowB c zs ys 0 (b : Int) = false := by
  unfold windowB winB
  rw [Int.toNat_natCast, show ((0 : Int)).toNat = 0 from rfl, List.drop_zero, h, Bool.and_false, Bool.and_false]
theorem fair_crash {W : Int} {G H : List Int} {r : List RecP} {y : RecP} (hy : y ∈ r) (h : crashB G y = true) : fairB W G H r = false := by
  unfold fairB
  rw [show r.any (crashB G) = true from List.any_eq_true.2 ⟨y, hy, h⟩]
  simp
theorem fair_tick {W : Int} {G H : List Int} {r : List RecP} (h : ∀ y ∈ r, tickB y = false) : fairB W G H r = false := by
  unfold fairB
  rw [show r.any tickB = false from List.any_eq_false.2 fun y hy => by simpa using h y hy]
  simp
theorem fair_lose {W : Int} {G H : List Int} {r : List RecP} {y : RecP} {z : Int} (hy : y ∈ r) (hz : z ∈ y.ls) (h : z ∈ H) : fairB W G H r = false := by
  unfold fairB
  rw [show r.any (loseB H) = true from List.any_eq_true.2 ⟨y, hy, List.any_eq_true.2 ⟨z, hz, by unfold lostB; exact decide_eq_true (List.count_pos_iff.2 h)⟩⟩]
  simp
theorem links_mem {G : List Int} {ys : List RecP} {y : RecP} {g z : Int} (hg : g ∈ G) (hy : y ∈ ys) (hs : (z, 0, g) ∈ y.ss) : z ∈ linksL G ys := by
  refine List.mem_flatMap.2 ⟨g, hg, List.mem_flatMap.2 ⟨y, hy, ?_⟩⟩
  unfold betR
  exact List.mem_map.2 ⟨(z, 0, g), List.mem_filter.2 ⟨hs, by simp [joinP]⟩, rfl⟩
theorem set_mem {ys : List RecP} {y : RecP} {k b : Nat} (h1 : k < ys.length) (h2 : k < b) : y ∈ (ys.set k y).take b := by
  refine List.mem_iff_getElem?.2 ⟨k, ?_⟩
  rw [List.getElem?_take, if_pos h2, List.getElem?_set_self h1]
theorem set_mem' {ys : List RecP} {y : RecP} {k : Nat} (h1 : k < ys.length) : y ∈ ys.set k y := List.mem_iff_getElem?.2 ⟨k, List.getElem?_set_self h1⟩
/-- case 1: a good worker crashes -/
theorem window_crash {c : Cfg} {zs : List Int} {ys : List RecP} {y : RecP} {k b : Nat} (h1 : k < ys.length) (h2 : k < b) (hk : y.kd = 9) (hn : y.nd ∈ zs) : windowB c zs (ys.set k y) 0 (b : Int) = false := by
  refine window_no (fair_crash (set_mem h1 h2) ?_)
  unfold crashB
  rw [hk, decide_eq_true ((mem_canonZ zs y.nd).2 hn)]
  rfl
/-- case 2: the clock doesn't tick -/
theorem window_tick {c : Cfg} {zs : List Int} {ys : List RecP} {b : Nat} (h : ∀ i, i < b → i < ys.length → (ys.getD i r0).kd ≠ 3) : windowB c zs ys 0 (b : Int) = false := by
  refine window_no (fair_tick fun y hy => ?_)
  obtain ⟨i, hi⟩ := List.mem_iff_getElem?.1 hy
  rw [List.getElem?_take] at hi
  split at hi
  · rename_i hlt
    obtain ⟨hl, e⟩ := List.getElem?_eq_some_iff.1 hi
    have := h i hlt hl
    rw [List.getD_eq_getElem?_getD, List.getElem?_eq_getElem hl, Option.getD_some, e] at this
    exact decide_eq_false this
  · cases hi
/-- case 0: something of a good copy's is lost: what is sent in record k, lost in record b - 1 -/
theorem window_lose {c : Cfg} {zs : List Int} {xs : List RecP} {y y2 : RecP} {k b : Nat} {g : Int} (hb : 1 ≤ b) (hbl : b ≤ xs.length) (hk : k < b) (hg : g ∈ zs) (hy : (77777, 0, g) ∈ y.ss) (hy2 : 77777 ∈ y2.ls) (hs : y2.ss = ((xs.set k y).getD (b - 1) r0).ss) : windowB c zs ((xs.set k y).set (b - 1) y2) 0 (b : Int) = false := by
  have hl : (xs.set k y).length = xs.length := List.length_set
  refine window_no (fair_lose (set_mem (by omega) (by omega)) hy2 ?_)
  have hgc := (mem_canonZ zs g).2 hg
  by_cases e : k = b - 1
  · refine links_mem hgc (set_mem' (by omega)) ?_
    rw [hs, ← e, List.getD_eq_getElem?_getD, List.getElem?_set_self (by omega), Option.getD_some]
    exact hy
  · refine links_mem hgc (y := y) (List.mem_iff_getElem?.2 ⟨k, ?_⟩) hy
    rw [List.getElem?_set_ne (by omega), List.getElem?_set_self (by omega)]
/-- a record of a row is turned -/
theorem HoldsRc.turned {w w' : World} {tb n k : Nat} {ys : List RecP} {y : RecP} (h : HoldsRc w (some ⟨tb, 0, none⟩) n ys) (hk : k < n) (ho : ∀ j, (j < k * 12 ∨ k * 12 + 12 ≤ j) → w'.cell? ⟨tb, j, none⟩ = w.cell? ⟨tb, j, none⟩) (hi : RecIn w' tb (k * 12) y) (hok : ∀ x ∈ ys, RecOk w' x) (hy : RecOk w' y) : HoldsRc w' (some ⟨tb, 0, none⟩) n (ys.set k y) := by
  refine ⟨by rw [List.length_set]; exact h.len, fun h0 => ⟨tb, 0, rfl, fun i hlt => ?_⟩, fun x hx => ?_⟩
  · by_cases e : i = k
    · subst e
      rw [List.getD_eq_getElem?_getD, List.getElem?_set_self (by rw [h.len]; exact hlt), Option.getD_some, Nat.zero_add]
      exact hi
    · obtain ⟨b, o, e1, hc⟩ := h.at_ h0
      injection e1 with e1; injection e1 with e1 e2; subst e1 e2
      have h2 := hc i hlt
      have e3 : (ys.set k y).getD i r0 = ys.getD i r0 := by
        rw [List.getD_eq_getElem?_getD, List.getD_eq_getElem?_getD, List.getElem?_set_ne (by omega)]
      rw [e3]
      unfold RecIn at h2 ⊢
      have hj : ∀ m, m < 12 → w'.cell? ⟨tb, 0 + i * 12 + m, none⟩ = w.cell? ⟨tb, 0 + i * 12 + m, none⟩ := fun m hm => ho _ (by omega)
      have hj0 : w'.cell? ⟨tb, 0 + i * 12, none⟩ = w.cell? ⟨tb, 0 + i * 12, none⟩ := ho _ (by omega)
      rw [hj0, hj 1 (by omega), hj 2 (by omega), hj 3 (by omega), hj 4 (by omega), hj 5 (by omega), hj 6 (by omega), hj 7 (by omega), hj 8 (by omega), hj 9 (by omega), hj 10 (by omega), hj 11 (by omega)]
      exact h2
  · rcases List.mem_or_eq_of_mem_set hx with hx | rfl
    · exact hok x hx
    · exact hy
end Go.Proofs.Yteloiibejkflhaa
