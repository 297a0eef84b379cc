/- lists of api.Ask: 11 cells each -/
import Derived.Test.YthboiklcjpnhbaaOpS
import Derived.Test.YthboiklcjpnhbaaMemV
import Derived.Test.YthboiklcjpnhbaaChecked
import Derived.WalkLawsBesides
import Derived.WalkSpells
import Derived.Outline
import Derived.Deep.QuietTactic
import Derived.BigQuiet
import Derived.Deep.DeepCutAuto
namespace Go.Proofs.Ythboiklcjpnhbaa
open Go.RowKit
set_option linter.unusedVariables false
set_option maxRecDepth 20000
structure AskP where
  slot : Int
  query : Int
  shard : Int
  seq : Int
  epoch : Int
  text : ByteArray
  k : Int
  batch : Int
  first : Bool
  ad : Int
  aw : ByteArray
def ask0 : AskP := ⟨0, 0, 0, 0, 0, ⟨#[]⟩, 0, 0, false, 0, ⟨#[]⟩⟩
def cellsAsk (x : AskP) : List Value := [(.int .i64 x.slot), (.int .i64 x.query), (.int .i64 x.shard), (.int .i64 x.seq), (.int .i64 x.epoch), (.string x.text), (.int .i64 x.k), (.int .i64 x.batch), (.bool x.first), (.int .i64 x.ad), (.string x.aw)]
def HoldsAsk (w : World) (a : Option Addr) (n : Nat) (ks : List AskP) : Prop := ks.length = n ∧ (0 < n → ∃ b o, a = some ⟨b, o, none⟩ ∧ ∀ i, i < n → w.cell? ⟨b, o + i * 11, none⟩ = some (.int .i64 (ks.getD i ask0).slot) ∧ w.cell? ⟨b, o + i * 11 + 1, none⟩ = some (.int .i64 (ks.getD i ask0).query) ∧ w.cell? ⟨b, o + i * 11 + 2, none⟩ = some (.int .i64 (ks.getD i ask0).shard) ∧ w.cell? ⟨b, o + i * 11 + 3, none⟩ = some (.int .i64 (ks.getD i ask0).seq) ∧ w.cell? ⟨b, o + i * 11 + 4, none⟩ = some (.int .i64 (ks.getD i ask0).epoch) ∧ w.cell? ⟨b, o + i * 11 + 5, none⟩ = some (.string (ks.getD i ask0).text) ∧ w.cell? ⟨b, o + i * 11 + 6, none⟩ = some (.int .i64 (ks.getD i ask0).k) ∧ w.cell? ⟨b, o + i * 11 + 7, none⟩ = some (.int .i64 (ks.getD i ask0).batch) ∧ w.cell? ⟨b, o + i * 11 + 8, none⟩ = some (.bool (ks.getD i ask0).first) ∧ w.cell? ⟨b, o + i * 11 + 9, none⟩ = some (.int .i64 (ks.getD i ask0).ad) ∧ w.cell? ⟨b, o + i * 11 + 10, none⟩ = some (.string (ks.getD i ask0).aw))
theorem HoldsAsk.len {w : World} {a : Option Addr} {n : Nat} {ks : List AskP} (h : HoldsAsk w a n ks) : ks.length = n := h.1
theorem HoldsAsk.at {w : World} {a : Option Addr} {n : Nat} {ks : List AskP} (h : HoldsAsk w a n ks) (h0 : 0 < n) : ∃ b o, a = some ⟨b, o, none⟩ ∧ ∀ i, i < n → w.cell? ⟨b, o + i * 11, none⟩ = some (.int .i64 (ks.getD i ask0).slot) ∧ w.cell? ⟨b, o + i * 11 + 1, none⟩ = some (.int .i64 (ks.getD i ask0).query) ∧ w.cell? ⟨b, o + i * 11 + 2, none⟩ = some (.int .i64 (ks.getD i ask0).shard) ∧ w.cell? ⟨b, o + i * 11 + 3, none⟩ = some (.int .i64 (ks.getD i ask0).seq) ∧ w.cell? ⟨b, o + i * 11 + 4, none⟩ = some (.int .i64 (ks.getD i ask0).epoch) ∧ w.cell? ⟨b, o + i * 11 + 5, none⟩ = some (.string (ks.getD i ask0).text) ∧ w.cell? ⟨b, o + i * 11 + 6, none⟩ = some (.int .i64 (ks.getD i ask0).k) ∧ w.cell? ⟨b, o + i * 11 + 7, none⟩ = some (.int .i64 (ks.getD i ask0).batch) ∧ w.cell? ⟨b, o + i * 11 + 8, none⟩ = some (.bool (ks.getD i ask0).first) ∧ w.cell? ⟨b, o + i * 11 + 9, none⟩ = some (.int .i64 (ks.getD i ask0).ad) ∧ w.cell? ⟨b, o + i * 11 + 10, none⟩ = some (.string (ks.getD i ask0).aw) := h.2 h0
theorem HoldsAsk.nil (w : World) (a : Option Addr) : HoldsAsk w a 0 [] := ⟨rfl, fun h => absurd h (by omega)⟩
theorem HoldsAsk.below {w w' : World} {a : Option Addr} {n : Nat} {ks : List AskP} (h : HoldsAsk w a n ks) (hb : Below w.heap.size w w') : HoldsAsk w' a n ks := by
  refine ⟨h.1, fun h0 => ?_⟩
  obtain ⟨b, o, ha, hc⟩ := h.2 h0
  have hlt := lt_of_cell (hc 0 h0).1
  refine ⟨b, o, ha, fun i hi => ?_⟩
  rw [hb.cell (p := ⟨b, o + i * 11, none⟩) hlt, hb.cell (p := ⟨b, o + i * 11 + 1, none⟩) hlt, hb.cell (p := ⟨b, o + i * 11 + 2, none⟩) hlt, hb.cell (p := ⟨b, o + i * 11 + 3, none⟩) hlt, hb.cell (p := ⟨b, o + i * 11 + 4, none⟩) hlt, hb.cell (p := ⟨b, o + i * 11 + 5, none⟩) hlt, hb.cell (p := ⟨b, o + i * 11 + 6, none⟩) hlt, hb.cell (p := ⟨b, o + i * 11 + 7, none⟩) hlt, hb.cell (p := ⟨b, o + i * 11 + 8, none⟩) hlt, hb.cell (p := ⟨b, o + i * 11 + 9, none⟩) hlt, hb.cell (p := ⟨b, o + i * 11 + 10, none⟩) hlt]
  exact hc i hi
theorem getD_memAsk (zs : List AskP) (j : Nat) (h : j < zs.length) : zs.getD j ask0 ∈ zs := by
  rw [List.getD_eq_getElem?_getD, List.getElem?_eq_getElem h]; simp
def asksV : List AskP → List Value
  | [] => []
  | k :: ks => (.int .i64 k.slot) :: (.int .i64 k.query) :: (.int .i64 k.shard) :: (.int .i64 k.seq) :: (.int .i64 k.epoch) :: (.string k.text) :: (.int .i64 k.k) :: (.int .i64 k.batch) :: (.bool k.first) :: (.int .i64 k.ad) :: (.string k.aw) :: asksV ks
theorem asksV_len : ∀ ks : List AskP, (asksV ks).length = ks.length * 11
  | [] => rfl
  | k :: ks => by simp [asksV, asksV_len ks]; omega
theorem asksV_app : ∀ ks ls : List AskP, asksV (ks ++ ls) = asksV ks ++ asksV ls
  | [], ls => rfl
  | k :: ks, ls => by simp [asksV, asksV_app ks ls]
theorem asksV_one : ∀ (ks : List AskP), ∀ u ∈ asksV ks, u.oneCell' = true
  | [], u, h => by simp [asksV] at h
  | k :: ks, u, h => by
    simp only [asksV, List.mem_cons] at h
    rcases h with h | h | h | h | h | h | h | h | h | h | h | h
    · subst h; rfl
    · subst h; rfl
    · subst h; rfl
    · subst h; rfl
    · subst h; rfl
    · subst h; rfl
    · subst h; rfl
    · subst h; rfl
    · subst h; rfl
    · subst h; rfl
    · subst h; rfl
    · exact asksV_one ks u h
theorem asksV_at : ∀ (ks : List AskP) (i : Nat), i < ks.length → (asksV ks)[i * 11]? = some (.int .i64 (ks.getD i ask0).slot) ∧ (asksV ks)[i * 11 + 1]? = some (.int .i64 (ks.getD i ask0).query) ∧ (asksV ks)[i * 11 + 2]? = some (.int .i64 (ks.getD i ask0).shard) ∧ (asksV ks)[i * 11 + 3]? = some (.int .i64 (ks.getD i ask0).seq) ∧ (asksV ks)[i * 11 + 4]? = some (.int .i64 (ks.getD i ask0).epoch) ∧ (asksV ks)[i * 11 + 5]? = some (.string (ks.getD i ask0).text) ∧ (asksV ks)[i * 11 + 6]? = some (.int .i64 (ks.getD i ask0).k) ∧ (asksV ks)[i * 11 + 7]? = some (.int .i64 (ks.getD i ask0).batch) ∧ (asksV ks)[i * 11 + 8]? = some (.bool (ks.getD i ask0).first) ∧ (asksV ks)[i * 11 + 9]? = some (.int .i64 (ks.getD i ask0).ad) ∧ (asksV ks)[i * 11 + 10]? = some (.string (ks.getD i ask0).aw)
  | [], i, h => by simp at h
  | k :: ks, 0, _ => by simp [asksV]
  | k :: ks, i + 1, h => by
    have ih := asksV_at ks i (by simpa using h)
    have e1 : (i + 1) * 11 = i * 11 + 1 + 1 + 1 + 1 + 1 + 1 + 1 + 1 + 1 + 1 + 1 := by omega
    rw [e1]
    simpa [asksV] using ih
theorem asksV_snoc (ks : List AskP) (k : AskP) : asksV (ks ++ [k]) = asksV ks ++ cellsAsk k := by rw [asksV_app]; rfl
theorem HoldsAsk.cells {w : World} {b o n : Nat} {ks : List AskP} (h : HoldsAsk w (some ⟨b, o, none⟩) n ks) : ∀ j u, (asksV ks)[j]? = some u → w.cell? ((⟨b, o, none⟩ : Addr).add j) = some u := by
  intro j u hj
  have hl := h.len
  have hjl : j < (asksV ks).length := by
    rcases Nat.lt_or_ge j (asksV ks).length with h' | h'
    · exact h'
    · rw [List.getElem?_eq_none h'] at hj; cases hj
  rw [asksV_len] at hjl
  obtain ⟨b', o', ha, hc⟩ := h.at (by omega)
  cases ha
  obtain ⟨c0, c1, c2, c3, c4, c5, c6, c7, c8, c9, c10⟩ := hc (j / 11) (by omega)
  obtain ⟨v0, v1, v2, v3, v4, v5, v6, v7, v8, v9, v10⟩ := asksV_at ks (j / 11) (by omega)
  rw [Go.WideShapes.add_plain]
  have hcase : j = j / 11 * 11 ∨ j = j / 11 * 11 + 1 ∨ j = j / 11 * 11 + 2 ∨ j = j / 11 * 11 + 3 ∨ j = j / 11 * 11 + 4 ∨ j = j / 11 * 11 + 5 ∨ j = j / 11 * 11 + 6 ∨ j = j / 11 * 11 + 7 ∨ j = j / 11 * 11 + 8 ∨ j = j / 11 * 11 + 9 ∨ j = j / 11 * 11 + 10 := by omega
  rcases hcase with e | e | e | e | e | e | e | e | e | e | e
  · have e2 : o + j / 11 * 11 = o + j := by omega
    rw [← e] at v0
    rw [e2] at c0
    rw [c0, ← hj, v0]
  · have e2 : o + j / 11 * 11 + 1 = o + j := by omega
    rw [← e] at v1
    rw [e2] at c1
    rw [c1, ← hj, v1]
  · have e2 : o + j / 11 * 11 + 2 = o + j := by omega
    rw [← e] at v2
    rw [e2] at c2
    rw [c2, ← hj, v2]
  · have e2 : o + j / 11 * 11 + 3 = o + j := by omega
    rw [← e] at v3
    rw [e2] at c3
    rw [c3, ← hj, v3]
  · have e2 : o + j / 11 * 11 + 4 = o + j := by omega
    rw [← e] at v4
    rw [e2] at c4
    rw [c4, ← hj, v4]
  · have e2 : o + j / 11 * 11 + 5 = o + j := by omega
    rw [← e] at v5
    rw [e2] at c5
    rw [c5, ← hj, v5]
  · have e2 : o + j / 11 * 11 + 6 = o + j := by omega
    rw [← e] at v6
    rw [e2] at c6
    rw [c6, ← hj, v6]
  · have e2 : o + j / 11 * 11 + 7 = o + j := by omega
    rw [← e] at v7
    rw [e2] at c7
    rw [c7, ← hj, v7]
  · have e2 : o + j / 11 * 11 + 8 = o + j := by omega
    rw [← e] at v8
    rw [e2] at c8
    rw [c8, ← hj, v8]
  · have e2 : o + j / 11 * 11 + 9 = o + j := by omega
    rw [← e] at v9
    rw [e2] at c9
    rw [c9, ← hj, v9]
  · have e2 : o + j / 11 * 11 + 10 = o + j := by omega
    rw [← e] at v10
    rw [e2] at c10
    rw [c10, ← hj, v10]
theorem HoldsAsk.own {w : World} {B : Nat} {e : TypeId} {a : Option Addr} {n c : Nat} {ks : List AskP} (h : w.ownsRow B e 11 (.slice a n c) n (asksV ks)) : HoldsAsk w a n ks := by
  have hl : ks.length = n := by have := h.1; rw [asksV_len] at this; omega
  refine ⟨hl, fun h0 => ?_⟩
  rcases h.2 with ⟨_, h1⟩ | ⟨g, cap, cur, hv, _, hh, hc, _, hs, hx⟩
  · omega
  · simp only [Value.slice.injEq] at hv
    obtain ⟨rfl, _, rfl⟩ := hv
    refine ⟨g, 0, rfl, fun i hi => ?_⟩
    obtain ⟨v0, v1, v2, v3, v4, v5, v6, v7, v8, v9, v10⟩ := asksV_at ks i (by omega)
    rw [← hx] at v0 v1 v2 v3 v4 v5 v6 v7 v8 v9 v10
    rw [List.getElem?_take_of_lt (by omega)] at v0 v1 v2 v3 v4 v5 v6 v7 v8 v9 v10
    rw [Array.getElem?_toList] at v0 v1 v2 v3 v4 v5 v6 v7 v8 v9 v10
    rw [Nat.zero_add, Joins.cell_of_block hh, Joins.cell_of_block hh, Joins.cell_of_block hh, Joins.cell_of_block hh, Joins.cell_of_block hh, Joins.cell_of_block hh, Joins.cell_of_block hh, Joins.cell_of_block hh, Joins.cell_of_block hh, Joins.cell_of_block hh, Joins.cell_of_block hh]
    exact ⟨v0, v1, v2, v3, v4, v5, v6, v7, v8, v9, v10⟩
theorem HoldsAsk.cellsAny {w : World} {a : Option Addr} {n : Nat} {ks : List AskP} (h : HoldsAsk w a n ks) {w' : World} (hg : w.grownBy w' none) : ∀ ad, a = some ad → ∀ j u, (asksV ks)[j]? = some u → w'.cell? (ad.add j) = some u := by
  intro ad ha j u hj
  have hjl : j < (asksV ks).length := (List.getElem?_eq_some_iff.1 hj).1
  rw [asksV_len] at hjl
  obtain ⟨b, o, hb, _⟩ := h.at (by have := h.len; omega)
  rw [ha] at hb
  obtain rfl := Option.some.inj hb
  subst ha
  exact hg.cell (h.cells j u hj) (by simp)
theorem HoldsAsk.cellsAt {w : World} {a : Option Addr} {n : Nat} {ks : List AskP} (h : HoldsAsk w a n ks) : ∀ ad, a = some ad → ∀ j u, (asksV ks)[j]? = some u → w.cell? (ad.add j) = some u := HoldsAsk.cellsAny h ⟨rfl, rfl, rfl, Nat.le_refl _, fun _ _ _ => rfl⟩
end Go.Proofs.Ythboiklcjpnhbaa
