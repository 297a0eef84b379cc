/- texts joined -/
import Derived.WalkKit
import Derived.ProofKit
import Derived.OpenShut
import Derived.Lib.SmallJoins
import Derived.Lib.Hide
import Derived.OwnWalk
import Derived.Laws.AppendOwnNone
import Derived.Lib.SliceRun
import Derived.Deep.RegionLaw
import Derived.Outline
import Derived.Test.YtecdigcadmokfaaChecked
import Derived.WalkLawsBesides
import Derived.WalkSpells
import Derived.Carry
import Derived.Deep.QuietTactic
import Derived.BigQuiet
import Derived.Deep.DeepCutAuto
import Derived.Deep.RegionHeld3
import Derived.Deep.AppendLies
import Derived.Laws.ResultCell
import Derived.Deep.Slices
/- What a slice of integers in memory holds, told so that a walk can use it; plain lemmas. -/
namespace Go.Proofs.Ytecdigcadmokfaa
open Go.ChangeShapes Go.WideShapes Go.ChangeAt Go.RowKit
set_option linter.unusedVariables false
set_option maxRecDepth 20000

theorem ret_int {k : IntKind} {a b : Int} (h : a = b) : Ending.returned (.int k a) = .returned (.int k b) := by rw [h]
theorem ret_bool {a b : Bool} (h : a = b) : Ending.returned (.bool a) = .returned (.bool b) := by rw [h]
theorem below_one (w : World) (o : Obj) : Below w.heap.size w (w.alloc o) := (Below.refl _ _).alloc (Nat.le_refl _) o
theorem bcell {W w1 : World} (hb : Below W.heap.size W w1) : (∀ b o, b < W.heap.size → w1.cell? ⟨b, o, none⟩ = W.cell? ⟨b, o, none⟩) ∧ (∀ b o, b < W.heap.size → w1.frozen? ⟨b, o, none⟩ = W.frozen? ⟨b, o, none⟩) :=
  ⟨fun b o h => hb.cell (p := ⟨b, o, none⟩) h, fun b o h => hb.frozen (p := ⟨b, o, none⟩) h⟩
theorem below_drewN (w : World) (n : Nat) : Below w.heap.size w (w.drewN n) := Joins.below_draws _ _ _

/-- The slice at a of n elements of the kind k holds the numbers zs. (Of a slice of no elements nothing is said of its address.) -/
def HoldsI (k : IntKind) (w : World) (a : Option Addr) (n : Nat) (zs : List Int) : Prop :=
  zs.length = n ∧ (0 < n → ∃ b o, a = some ⟨b, o, none⟩ ∧ ∀ i, i < n → w.cell? ⟨b, o + i, none⟩ = some (.int k (zs.getD i 0)))
theorem HoldsI.len {k : IntKind} {w : World} {a : Option Addr} {n : Nat} {zs : List Int} (h : HoldsI k w a n zs) : zs.length = n := h.1
theorem HoldsI.at {k : IntKind} {w : World} {a : Option Addr} {n : Nat} {zs : List Int} (h : HoldsI k w a n zs) (h0 : 0 < n) : ∃ b o, a = some ⟨b, o, none⟩ ∧ ∀ i, i < n → w.cell? ⟨b, o + i, none⟩ = some (.int k (zs.getD i 0)) := h.2 h0
theorem lt_of_cell {w : World} {b o : Nat} {v : Value} (h : w.cell? ⟨b, o, none⟩ = some v) : b < w.heap.size := by
  rcases Nat.lt_or_ge b w.heap.size with h' | h'
  · exact h'
  · simp [World.cell?, Array.getElem?_eq_none h'] at h
theorem HoldsI.nil (k : IntKind) (w : World) (a : Option Addr) : HoldsI k w a 0 [] := ⟨rfl, fun h => absurd h (by omega)⟩
theorem HoldsI.below {k : IntKind} {w w' : World} {a : Option Addr} {n : Nat} {zs : List Int} (h : HoldsI k w a n zs) (hb : Below w.heap.size w w') : HoldsI k w' a n zs := by
  refine ⟨h.1, fun h0 => ?_⟩
  obtain ⟨b, o, ha, hc⟩ := h.2 h0
  refine ⟨b, o, ha, fun i hi => ?_⟩
  rw [hb.cell (p := ⟨b, o + i, none⟩) (lt_of_cell (hc i hi))]
  exact hc i hi
theorem HoldsI.drewN {k : IntKind} {w : World} {a : Option Addr} {n : Nat} {zs : List Int} (h : HoldsI k w a n zs) (m : Nat) : HoldsI k (w.drewN m) a n zs := h.below (below_drewN w m)
theorem HoldsI.alloc {k : IntKind} {w : World} {a : Option Addr} {n : Nat} {zs : List Int} (h : HoldsI k w a n zs) (o : Obj) : HoldsI k (w.alloc o) a n zs := h.below (below_one w o)
/-- a part of it -/
theorem HoldsI.sub {k : IntKind} {w : World} {b o n : Nat} {zs : List Int} (h : HoldsI k w (some ⟨b, o, none⟩) n zs) (i j : Nat) (hij : i ≤ j) (hj : j ≤ n) : HoldsI k w (some ⟨b, o + i, none⟩) (j - i) ((zs.take j).drop i) := by
  refine ⟨by simp [h.1]; omega, fun h0 => ⟨b, o + i, rfl, fun t ht => ?_⟩⟩
  obtain ⟨b', o', ha, hc⟩ := h.2 (by omega)
  simp only [Option.some.injEq, Addr.mk.injEq, and_true] at ha
  obtain ⟨rfl, rfl⟩ := ha
  rw [Nat.add_assoc, hc (i + t) (by omega)]
  have h1 : ((zs.take j).drop i).getD t 0 = zs.getD (i + t) 0 := by
    simp only [List.getD_eq_getElem?_getD, List.getElem?_drop, List.getElem?_take]
    rw [if_pos (by omega)]
  rw [h1]

theorem HoldsI.part {k : IntKind} {w : World} {b o n : Nat} {zs : List Int} (h : HoldsI k w (some ⟨b, o, none⟩) n zs) (i j : Nat) (hij : i ≤ j) (hj : j ≤ n) (m : Nat) (hm : m = j - i) : HoldsI k w (some ⟨b, o + i, none⟩) m ((zs.take j).drop i) := by
  subst hm; exact h.sub i j hij hj
theorem take_succ_getD {α : Type} (l : List α) (d : α) (k : Nat) (h : k < l.length) : l.take (k + 1) = l.take k ++ [l.getD k d] := by
  rw [List.take_succ_eq_append_getElem h]; simp [List.getD_eq_getElem?_getD, h]
theorem take_ne_of_getD {α : Type} {l m : List α} (d : α) (k : Nat) (h : l.getD k d ≠ m.getD k d) : l ≠ m := fun e => h (by rw [e])
theorem take_eq_all {α : Type} {l m : List α} {n : Nat} (h : l.take n = m.take n) (h1 : l.length = n) (h2 : m.length = n) : l = m := by
  rw [← List.take_of_length_le (Nat.le_of_eq h1), ← List.take_of_length_le (Nat.le_of_eq h2)]; exact h
end Go.Proofs.Ytecdigcadmokfaa
/- What a slice in memory holds, by its cells' values (elements of one cell each). -/
namespace Go.Proofs.Ytecdigcadmokfaa
open Go.ChangeShapes Go.WideShapes Go.ChangeAt Go.RowKit
set_option linter.unusedVariables false
set_option maxRecDepth 20000

/-- The slice at a of n elements, of one cell each, holds the values xs. -/
def HoldsV (w : World) (a : Option Addr) (n : Nat) (xs : List Value) : Prop :=
  xs.length = n ∧ (0 < n → ∃ b o, a = some ⟨b, o, none⟩ ∧ ∀ i, i < n → w.cell? ⟨b, o + i, none⟩ = some (xs.getD i undef))
theorem HoldsV.below {w w' : World} {a : Option Addr} {n : Nat} {xs : List Value} (h : HoldsV w a n xs) (hb : Below w.heap.size w w') : HoldsV w' a n xs := by
  refine ⟨h.1, fun h0 => ?_⟩
  obtain ⟨b, o, ha, hc⟩ := h.2 h0
  refine ⟨b, o, ha, fun i hi => ?_⟩
  rw [hb.cell (p := ⟨b, o + i, none⟩) (lt_of_cell (hc i hi))]
  exact hc i hi
theorem getD_map_int (k : IntKind) (zs : List Int) (i : Nat) (hi : i < zs.length) : (zs.map (Value.int k)).getD i undef = .int k (zs.getD i 0) := by
  simp [List.getD_eq_getElem?_getD, hi]
theorem HoldsI.values {k : IntKind} {w : World} {a : Option Addr} {n : Nat} {zs : List Int} (h : HoldsI k w a n zs) : HoldsV w a n (zs.map (Value.int k)) := by
  refine ⟨by simpa using h.1, fun h0 => ?_⟩
  obtain ⟨b, o, ha, hc⟩ := h.2 h0
  exact ⟨b, o, ha, fun i hi => by rw [hc i hi, getD_map_int k zs i (by rw [h.1]; exact hi)]⟩
theorem HoldsV.cells {w w' : World} {a : Option Addr} {n : Nat} {xs : List Value} (h : HoldsV w a n xs) (hg : w.grownBy w' none) : ∀ ad, a = some ad → ∀ j u, xs[j]? = some u → w'.cell? (ad.add j) = some u := by
  intro ad ha j u hj
  have hlt : j < xs.length := (List.getElem?_eq_some_iff.1 hj).1
  obtain ⟨b, o, hb, hc⟩ := h.2 (by have := h.1; omega)
  rw [ha] at hb
  obtain rfl := Option.some.inj hb
  have h2 := hc j (by have := h.1; omega)
  rw [List.getD_eq_getElem?_getD, hj] at h2
  rw [add_plain]
  exact hg.cell h2 (by simp)
theorem below_grown {w w' : World} {row : Option Nat} (hg : w.grownBy w' row) (hr : ∀ k, row = some k → w.heap.size ≤ k) : Below w.heap.size w w' := (Below.refl _ _).grown hg (Nat.le_refl _) hr
/-- Block B is a row of n + 3 cells that may be written: the first n hold xs, of the three behind them the first k hold the mark. -/
def Roomy (w : World) (B : Nat) (e : TypeId) (mark : Value) (n : Nat) (xs : List Value) (k : Nat) : Prop :=
  ∃ cs : Array Value, w.heap[B]? = some (.cells cs e (0, 0)) ∧ cs.size = n + 3 ∧ (∀ i, i < n → cs[i]? = some (xs.getD i undef)) ∧ ∀ i, i < k → cs[n + i]? = some mark
/-- What 'append' left in a row of n + 3 cells. -/
theorem roomy_of_own {w : World} {base B : Nat} {e : TypeId} {mark : Value} {n : Nat} {xs : List Value} (hl : xs.length = n) (h : w.ownsRow base e 1 (.slice (some ⟨B, 0, none⟩) n (n + 3)) n xs) : Roomy w B e mark n xs 0 := by
  rcases h.2 with ⟨h0, _⟩ | ⟨g, cap, cur, hv, _, hh, _, _, hs, hx⟩
  · cases h0
  · simp only [Value.slice.injEq, Option.some.injEq, Addr.mk.injEq, and_true, true_and] at hv
    obtain ⟨rfl, rfl⟩ := hv
    refine ⟨cur, hh, by omega, fun i hi => ?_, fun i hi => by omega⟩
    rw [Nat.mul_one] at hx
    rw [List.getD_eq_getElem?_getD, ← hx, List.getElem?_take, if_pos hi]
    have hlt : i < cur.size := by omega
    simp [hlt]
theorem Roomy.cell {w : World} {B : Nat} {e : TypeId} {mark : Value} {n : Nat} {xs : List Value} {k : Nat} (h : Roomy w B e mark n xs k) (i : Nat) (hi : i < n) : w.cell? ⟨B, i, none⟩ = some (xs.getD i undef) := by
  obtain ⟨cs, h1, _, h3, _⟩ := h
  rw [Joins.cell_of_block h1]; exact h3 i hi
theorem Roomy.room {w : World} {B : Nat} {e : TypeId} {mark : Value} {n : Nat} {xs : List Value} {k : Nat} (h : Roomy w B e mark n xs k) (i : Nat) (hi : i < k) : w.cell? ⟨B, n + i, none⟩ = some mark := by
  obtain ⟨cs, h1, _, _, h4⟩ := h
  rw [Joins.cell_of_block h1]; exact h4 i hi
theorem Roomy.there {w : World} {B : Nat} {e : TypeId} {mark : Value} {n : Nat} {xs : List Value} {k : Nat} (h : Roomy w B e mark n xs k) (i : Nat) (hi : i < n + 3) : ∃ v, w.cell? ⟨B, i, none⟩ = some v := by
  obtain ⟨cs, h1, h2, _, _⟩ := h
  exact ⟨cs[i]'(by omega), by rw [Joins.cell_of_block h1, Array.getElem?_eq_getElem (by omega)]⟩
theorem Roomy.free {w : World} {B : Nat} {e : TypeId} {mark : Value} {n : Nat} {xs : List Value} {k : Nat} (h : Roomy w B e mark n xs k) (i : Nat) : w.frozen? ⟨B, i, none⟩ = false := by
  obtain ⟨cs, h1, _, _, _⟩ := h
  exact Joins.unfrozen_of_block h1 i
theorem Roomy.put {w : World} {B : Nat} {e : TypeId} {mark : Value} {n : Nat} {xs : List Value} {k : Nat} (h : Roomy w B e mark n xs k) (hk : k < 3) : Roomy (w.setCell ⟨B, n + k, none⟩ mark) B e mark n xs (k + 1) := by
  obtain ⟨cs, h1, h2, h3, h4⟩ := h
  refine ⟨_, Joins.block_setCell h1 mark, by simpa using h2, fun i hi => ?_, fun i hi => ?_⟩
  · rw [Array.getElem?_setIfInBounds, if_neg (by omega)]; exact h3 i hi
  · rw [Array.getElem?_setIfInBounds]
    by_cases e : n + k = n + i
    · rw [if_pos e, if_pos (by omega)]
    · rw [if_neg e]; exact h4 i (by omega)
theorem Roomy.lt {w : World} {B : Nat} {e : TypeId} {mark : Value} {n : Nat} {xs : List Value} {k : Nat} (h : Roomy w B e mark n xs k) : B < w.heap.size := by
  obtain ⟨cs, h1, _⟩ := h
  exact (Array.getElem?_eq_some_iff.1 h1).1
theorem Roomy.below {w w' : World} {B : Nat} {e : TypeId} {mark : Value} {n : Nat} {xs : List Value} {k : Nat} (h : Roomy w B e mark n xs k) (hb : Below w.heap.size w w') : Roomy w' B e mark n xs k := by
  obtain ⟨cs, h1, h2⟩ := h
  exact ⟨cs, by rw [hb.block B (Array.getElem?_eq_some_iff.1 h1).1]; exact h1, h2⟩
theorem Roomy.holds {w : World} {B : Nat} {e : TypeId} {mark : Value} {n : Nat} {xs : List Value} {k : Nat} (hl : xs.length = n) (h : Roomy w B e mark n xs k) : HoldsV w (some ⟨B, 0, none⟩) n xs :=
  ⟨hl, fun _ => ⟨B, 0, rfl, fun i hi => by rw [Nat.zero_add]; exact h.cell i hi⟩⟩
/-- what is owned stays so where what was there stays -/
theorem owns_below {w w' : World} {base : Nat} {e : TypeId} {size : Nat} {v : Value} {n : Nat} {xs : List Value} (h : w.ownsRow base e size v n xs) (hb : Below w.heap.size w w') : w'.ownsRow base e size v n xs := by
  refine ⟨h.1, ?_⟩
  rcases h.2 with h0 | ⟨g, cap, cur, hv, hg, hh, r⟩
  · exact Or.inl h0
  · exact Or.inr ⟨g, cap, cur, hv, hg, by rw [hb.block g (Array.getElem?_eq_some_iff.1 hh).1]; exact hh, r⟩
theorem owns_none {w : World} {base : Nat} {e : TypeId} {size : Nat} {a : Option Addr} {n c : Nat} {xs : List Value} (h : w.ownsRow base e size (.slice a n c) n xs) : (a = none → n = 0 ∧ c = 0) ∧ n ≤ c := by
  rcases h.2 with ⟨hv, hn⟩ | ⟨g, cap, cur, hv, _, _, hc, _⟩
  · simp only [Value.slice.injEq] at hv
    obtain ⟨_, rfl, rfl⟩ := hv
    exact ⟨fun _ => ⟨rfl, rfl⟩, Nat.le_refl _⟩
  · simp only [Value.slice.injEq] at hv
    obtain ⟨rfl, _, rfl⟩ := hv
    exact ⟨(fun h => by cases h), hc⟩
/-- What is owned reads so. -/
theorem owns_holds {w : World} {base : Nat} {e : TypeId} {a : Option Addr} {n c : Nat} {xs : List Value} (h : w.ownsRow base e 1 (.slice a n c) n xs) : HoldsV w a n xs := by
  have hl : xs.length = n := by simpa using h.1
  refine ⟨hl, fun h0 => ?_⟩
  rcases h.2 with ⟨_, h1⟩ | ⟨g, cap, cur, hv, _, hh, hc, _, hs, hx⟩
  · omega
  · simp only [Value.slice.injEq] at hv
    obtain ⟨rfl, _, rfl⟩ := hv
    refine ⟨g, 0, rfl, fun i hi => ?_⟩
    rw [Nat.zero_add, Joins.cell_of_block hh]
    rw [Nat.mul_one] at hx
    rw [List.getD_eq_getElem?_getD, ← hx, List.getElem?_take, if_pos hi]
    have hlt : i < cur.size := by omega
    simp [hlt]
/-- one new cell, to be appended -/
theorem one_new (w : World) (v : Value) (e : TypeId) (fr : Nat × Nat) : ∀ ad, (some ⟨w.heap.size, 0, none⟩ : Option Addr) = some ad → ∀ j u, [v][j]? = some u → (w.alloc (.cells #[v] e fr)).cell? (ad.add j) = some u := by
  intro ad ha j u hj
  obtain rfl := Option.some.inj ha
  match j, hj with
  | 0, hj =>
    simp at hj; subst hj
    rw [add_plain, World.cell?_alloc_mark]; rfl
theorem one_int (k : IntKind) (x : Int) : ∀ u ∈ [Value.int k x], u.oneCell' = true := by simp [Value.oneCell']
theorem one_str (x : ByteArray) : ∀ u ∈ [Value.string x], u.oneCell' = true := by simp [Value.oneCell']
theorem some_none {p : Prop} (a : Addr) : (some a = none) → p := fun h => by cases h
/-- 'append(v, x...)', v nil or the call's own, x whatever slice (nil too): the value is a slice of the call's own. -/
theorem wpList_append_any {P : Program} {w : World} {ops : Array Oper} {rest : List Oper} {o : Oper} {a : Act} {Q : Exit → Act → World → Prop} (hgd : o.guard = none) (s x : Operand) (t : TypeId)
    (ho : o.op = .call { callee := .builtin .append, args := #[s, x], argTypes := #[t, t] })
    (base : Nat) (e : TypeId) (i : TypeInfo) (z : Value) (size bytes : Nat) (ht : P.underlying t = some (.slice e)) (hi : P.info? e = some i) (hz : i.zero = some z)
    (hsize : i.size = size) (hby : i.bytes = bytes) (hzs : z.cells.size = size) (hsz : 0 < size)
    (v : Value) (n : Nat) (xs : List Value) (hs : a.eval s = v) (hown : w.ownsRow base e size v n xs)
    (ao : Option Addr) (m c : Nat) (news : List Value) (hx : a.eval x = .slice ao m c) (hnone : ao = none → m = 0 ∧ c = 0) (hl : news.length = m * size)
    (hnews : ∀ ad, ao = some ad → ∀ j u, news[j]? = some u → w.cell? (ad.add j) = some u) (h1 : ∀ u ∈ news, u.oneCell' = true)
    (h63 : n + m ≤ maxLen) (hbytes : (n + m) * bytes ≤ 140737488355328) (hbase : base ≤ w.heap.size)
    (h : ∀ a' c' w', w'.ownsRow base e size (.slice a' (n + m) c') (n + m) (xs ++ news) → Below base w w' → (a' = none → n + m = 0 ∧ c' = 0) → wpList P ops Q rest (a.put o.dst (.slice a' (n + m) c')) w') : wpList P ops Q (o :: rest) a w := by
  have fin : ∀ v' w', w'.ownsRow base e size v' (n + m) (xs ++ news) → Below base w w' → wpList P ops Q rest (a.put o.dst v') w' := by
    intro v' w' ho' hb'
    rcases Joins.ownsRow_forms ho' with ⟨rfl, h0⟩ | ⟨g, cap, rfl⟩
    · have := h none 0 w' (by rw [h0] at ho' ⊢; exact ho') hb' (fun _ => ⟨h0, rfl⟩)
      rw [h0] at this
      exact this
    · exact h _ _ w' ho' hb' (fun h => by cases h)
  cases ao with
  | some ad =>
    refine wpList_append_own w hgd s x t ho base e i z size bytes ht hi hz hsize hby hzs hsz v n xs hs hown ad m c news hx hl (hnews ad rfl) h1 h63 hbytes hbase fun v' w' h2 h3 _ => ?_
    exact fin v' w' h2 ((Below.refl base w).grown h3 hbase fun k hk => (hown.lt k hk).1)
  | none =>
    obtain ⟨rfl, rfl⟩ := hnone rfl
    have hn : news = [] := List.eq_nil_of_length_eq_zero (by simpa using hl)
    subst hn
    exact wpList_append_own_none hgd s x t ho base e i size ht hi v n xs hs hown hx (fin v w (by simpa using hown) (Below.refl _ _))
end Go.Proofs.Ytecdigcadmokfaa
/- Slices of bytes as lists of natural numbers. -/
namespace Go.Proofs.Ytecdigcadmokfaa
open Go.ChangeShapes Go.WideShapes Go.ChangeAt Go.RowKit
set_option linter.unusedVariables false
set_option maxRecDepth 20000
/-- The slice at a of n bytes holds the bytes bs. -/
def HoldsB (w : World) (a : Option Addr) (n : Nat) (bs : List Nat) : Prop := HoldsI .u8 w a n (bs.map fun b : Nat => (b : Int)) ∧ ∀ b ∈ bs, b < 256
theorem HoldsB.len {w : World} {a : Option Addr} {n : Nat} {bs : List Nat} (h : HoldsB w a n bs) : bs.length = n := by simpa using h.1.1
theorem getD_map_cast (bs : List Nat) (i : Nat) : (bs.map fun b : Nat => (b : Int)).getD i 0 = ((bs.getD i 0 : Nat) : Int) := by
  simp only [List.getD_eq_getElem?_getD, List.getElem?_map]
  cases bs[i]? <;> rfl
theorem HoldsB.at {w : World} {a : Option Addr} {n : Nat} {bs : List Nat} (h : HoldsB w a n bs) (h0 : 0 < n) : ∃ b o, a = some ⟨b, o, none⟩ ∧ ∀ i, i < n → w.cell? ⟨b, o + i, none⟩ = some (.int .u8 ((bs.getD i 0 : Nat) : Int)) := by
  obtain ⟨b, o, ha, hc⟩ := h.1.2 h0
  exact ⟨b, o, ha, fun i hi => by rw [hc i hi, getD_map_cast]⟩
theorem HoldsB.below {w w' : World} {a : Option Addr} {n : Nat} {bs : List Nat} (h : HoldsB w a n bs) (hb : Below w.heap.size w w') : HoldsB w' a n bs := ⟨h.1.below hb, h.2⟩
theorem HoldsB.part {w : World} {b o n : Nat} {bs : List Nat} (h : HoldsB w (some ⟨b, o, none⟩) n bs) (i j : Nat) (hij : i ≤ j) (hj : j ≤ n) (m : Nat) (hm : m = j - i) : HoldsB w (some ⟨b, o + i, none⟩) m ((bs.take j).drop i) := by
  refine ⟨?_, fun x hx => h.2 x (List.mem_of_mem_take (List.mem_of_mem_drop hx))⟩
  rw [List.map_drop, List.map_take]
  exact h.1.part i j hij hj m hm
theorem HoldsB.front {w : World} {b o n : Nat} {bs : List Nat} (h : HoldsB w (some ⟨b, o, none⟩) n bs) (j : Nat) (hj : j ≤ n) : HoldsB w (some ⟨b, o, none⟩) j (bs.take j) := by
  have := h.part 0 j (by omega) hj j (by omega)
  simpa using this
theorem getD_lt {bs : List Nat} (h : ∀ b ∈ bs, b < 256) (i : Nat) : bs.getD i 0 < 256 := by
  rw [List.getD_eq_getElem?_getD]
  cases e : bs[i]? with
  | none => simp
  | some x => exact h x (List.mem_of_getElem? e)

/-- the bytes as values -/
def bytesV (bs : List Nat) : List Value := (bs.map fun b : Nat => (b : Int)).map (Value.int .u8)
theorem bytesV_length (bs : List Nat) : (bytesV bs).length = bs.length := by simp [bytesV]
theorem HoldsB.values {w : World} {a : Option Addr} {n : Nat} {bs : List Nat} (h : HoldsB w a n bs) : HoldsV w a n (bytesV bs) := h.1.values
theorem bytesV_one (bs : List Nat) : ∀ u ∈ bytesV bs, u.oneCell' = true := ints_oneCell _ _
theorem roomy_bytes {w : World} {B : Nat} {e : TypeId} {mark : Value} {n k : Nat} {bs : List Nat} (hl : bs.length = n) (hb : ∀ b ∈ bs, b < 256) (h : Roomy w B e mark n (bytesV bs) k) : HoldsB w (some ⟨B, 0, none⟩) n bs :=
  ⟨⟨by simpa using hl, fun _ => ⟨B, 0, rfl, fun i hi => by rw [Nat.zero_add, h.cell i hi, bytesV, getD_map_int .u8 _ i (by simp [hl]; exact hi)]⟩⟩, hb⟩
theorem bytesV_append (a b : List Nat) : bytesV a ++ bytesV b = bytesV (a ++ b) := by simp [bytesV]
theorem holdsB_of_values {w : World} {a : Option Addr} {n : Nat} {bs : List Nat} (h : HoldsV w a n (bytesV bs)) (hb : ∀ b ∈ bs, b < 256) : HoldsB w a n bs := by
  have hl : bs.length = n := by have := h.1; simpa [bytesV] using this
  refine ⟨⟨by simpa using hl, fun h0 => ?_⟩, hb⟩
  obtain ⟨b, o, ha, hc⟩ := h.2 h0
  exact ⟨b, o, ha, fun i hi => by rw [hc i hi, bytesV, getD_map_int .u8 _ i (by simp [hl]; exact hi)]⟩
theorem holdsB_lit (w : World) (bs : List Nat) (e : TypeId) (fr : Nat × Nat) (h : ∀ b ∈ bs, b < 256) : HoldsB (w.alloc (.cells (bs.map fun b : Nat => Value.int .u8 (b : Int)).toArray e fr)) (some ⟨w.heap.size, 0, none⟩) bs.length bs := by
  refine ⟨⟨by simp, fun _ => ⟨_, _, rfl, fun i hi => ?_⟩⟩, h⟩
  rw [World.cell?_alloc_mark, getD_map_cast, Nat.zero_add]
  simp [List.getD_eq_getElem?_getD, hi]
theorem holdsB_nil (w : World) (a : Option Addr) : HoldsB w a 0 [] := ⟨⟨rfl, fun h => absurd h (by decide)⟩, by simp⟩
/-- A slice of bytes that the call made: what it returns, and what became of the world. EB: the number of the type of its elements. -/
def RetB (EB : TypeId) (w : World) (bs : List Nat) (e : Ending) (w' : World) : Prop :=
  ∃ a c, e = .returned (.slice a bs.length c) ∧ w'.ownsRow w.heap.size EB 1 (.slice a bs.length c) bs.length (bytesV bs) ∧ Below w.heap.size w w' ∧ (a = none → bs.length = 0 ∧ c = 0)
end Go.Proofs.Ytecdigcadmokfaa
/- what a call may turn: the blocks of a set, and new ones -/
namespace Go.Proofs.Ytecdigcadmokfaa
open Go.RowKit
set_option linter.unusedVariables false
set_option maxRecDepth 20000
/-- apart from the blocks of F, and new ones, the world w' is as w was -/
structure Turn (F : Nat → Prop) (w w' : World) : Prop where
  os : w'.os = w.os
  tape : w'.tape = w.tape
  output : w'.output = w.output
  size : w.heap.size ≤ w'.heap.size
  block : ∀ k, k < w.heap.size → ¬ F k → w'.heap[k]? = w.heap[k]?
theorem Turn.refl (F : Nat → Prop) (w : World) : Turn F w w := ⟨rfl, rfl, rfl, Nat.le_refl _, fun _ _ _ => rfl⟩
theorem Turn.trans {F : Nat → Prop} {w w1 w2 : World} (h : Turn F w w1) (k : Turn F w1 w2) : Turn F w w2 :=
  ⟨k.os.trans h.os, k.tape.trans h.tape, k.output.trans h.output, Nat.le_trans h.size k.size, fun i hi hF => (k.block i (Nat.lt_of_lt_of_le hi h.size) hF).trans (h.block i hi hF)⟩
theorem Turn.mono {F G : Nat → Prop} {w w' : World} (h : Turn F w w') (hF : ∀ k, F k → G k) : Turn G w w' := ⟨h.os, h.tape, h.output, h.size, fun k hk hn => h.block k hk (fun x => hn (hF k x))⟩
/-- what was new in the first step may turn in the second -/
theorem Turn.trans' {F G : Nat → Prop} {w w1 w2 : World} (h : Turn F w w1) (k : Turn G w1 w2) (hG : ∀ i, G i → F i ∨ w.heap.size ≤ i) : Turn F w w2 :=
  ⟨k.os.trans h.os, k.tape.trans h.tape, k.output.trans h.output, Nat.le_trans h.size k.size, fun i hi hF => (k.block i (Nat.lt_of_lt_of_le hi h.size) (fun g => by rcases hG i g with x | x; exact hF x; omega)).trans (h.block i hi hF)⟩
theorem Turn.setCell {F : Nat → Prop} {w : World} {b o : Nat} {v : Value} (hb : F b) : Turn F w (w.setCell ⟨b, o, none⟩ v) :=
  ⟨rfl, rfl, rfl, by simp [World.setCell], fun k _ hk => Below.heap_setCell _ _ _ _ (fun e => hk (by rw [e]; exact hb))⟩
theorem Turn.alloc (F : Nat → Prop) (w : World) (o : Obj) : Turn F w (w.alloc o) := ⟨rfl, rfl, rfl, by simp, fun k hk _ => Below.heap_alloc _ _ _ hk⟩
theorem Turn.drewN (F : Nat → Prop) (w : World) (n : Nat) : Turn F w (w.drewN n) := by
  have h := below_drewN w n
  exact ⟨h.os, h.tape, h.output, h.size, fun k hk _ => h.block k hk⟩
theorem Turn.drew {F : Nat → Prop} {a w : World} (h : Turn F a w) : Turn F a w.drew := ⟨h.os, h.tape, h.output, h.size, h.block⟩
theorem Turn.of_below {F : Nat → Prop} {w w' : World} (h : Below w.heap.size w w') : Turn F w w' := ⟨h.os, h.tape, h.output, h.size, fun k hk _ => h.block k hk⟩
theorem Turn.below {F : Nat → Prop} {B : Nat} {w w' : World} (h : Turn F w w') (hF : ∀ k, F k → B ≤ k) (hB : B ≤ w.heap.size) : Below B w w' :=
  ⟨h.os, h.tape, h.output, h.size, fun k hk => h.block k (by omega) (fun x => by have := hF k x; omega)⟩
theorem Turn.cell {F : Nat → Prop} {w w' : World} (h : Turn F w w') {b o : Nat} (hb : b < w.heap.size) (hF : ¬ F b) : w'.cell? ⟨b, o, none⟩ = w.cell? ⟨b, o, none⟩ := World.cell?_of_block (w := w) (h.block b hb hF)
theorem Turn.frozen {F : Nat → Prop} {w w' : World} (h : Turn F w w') {b o : Nat} (hb : b < w.heap.size) (hF : ¬ F b) : w'.frozen? ⟨b, o, none⟩ = w.frozen? ⟨b, o, none⟩ := World.frozen?_of_block (w := w) (h.block b hb hF)
theorem cset_at {w : World} {b o : Nat} {u v : Value} (h : w.cell? ⟨b, o, none⟩ = some u) : (w.setCell ⟨b, o, none⟩ v).cell? ⟨b, o, none⟩ = some v := World.cell?_setCell_same _ _ _ h
theorem cset_ne {w : World} {b o p : Nat} {v : Value} (h : o ≠ p) : (w.setCell ⟨b, o, none⟩ v).cell? ⟨b, p, none⟩ = w.cell? ⟨b, p, none⟩ := World.cell?_setCell_other _ _ _ _ (by intro e; injection e; contradiction)
theorem cset_far {w : World} {b c o p : Nat} {v : Value} (h : b ≠ c) : (w.setCell ⟨b, o, none⟩ v).cell? ⟨c, p, none⟩ = w.cell? ⟨c, p, none⟩ := World.cell?_setCell_other _ _ _ _ (by intro e; injection e; contradiction)
theorem fset_any {w : World} {a : Addr} {v : Value} {p : Addr} : (w.setCell a v).frozen? p = w.frozen? p := by simp
theorem cell_alloc {w : World} {cs : Array Value} {T : TypeId} {B o : Nat} (hB : B = w.heap.size) : (w.alloc (.cells cs T)).cell? ⟨B, o, none⟩ = cs[o]? := by subst hB; simp
theorem cell_alloc_old {w : World} {o : Obj} {b p : Nat} (h : b < w.heap.size) : (w.alloc o).cell? ⟨b, p, none⟩ = w.cell? ⟨b, p, none⟩ := (below_one w o).cell (p := ⟨b, p, none⟩) h
theorem frozen_alloc {w : World} {cs : Array Value} {T : TypeId} {B o : Nat} (hB : B = w.heap.size) : (w.alloc (.cells cs T)).frozen? ⟨B, o, none⟩ = false := by subst hB; simp
end Go.Proofs.Ytecdigcadmokfaa
/- clear of a slice of many cells; cells written over in an owned row -/
namespace Go.Proofs.Ytecdigcadmokfaa
open Go.RowKit
set_option linter.unusedVariables false
set_option maxRecDepth 20000
theorem run_clear_many {P : Program} (w : World) (t e ty : TypeId) (z : Value) (ht : P.underlying t = some (.slice e)) (hv : ∀ w, (zeroValue e).run P w = .ok z w) (b o n c : Nat) (hn : 0 < n) (zs : List Value) (hz : (Builtin.zeroCells z.cells n).toList = zs) (h1 : ∀ u ∈ zs, u.oneCell' = true)
    (hc : ∀ j, j < zs.length → (w.cell? ⟨b, o + j, none⟩).isSome = true) (hf : ∀ j, j < zs.length → w.frozen? ⟨b, o + j, none⟩ = false) :
    (Builtin.clear_ #[t] ty #[.slice (some ⟨b, o, none⟩) n c]).run P w = .ok (.tuple #[]) (w.setCells b o zs) := by
  have hst := run_storeCells_cells (P := P) b o zs 0 w (by simpa using hc) (by simpa using hf) h1
  simp only [Nat.add_zero] at hst
  obtain ⟨m, rfl⟩ : ∃ m, n = m + 1 := ⟨n - 1, by omega⟩
  simp [Builtin.clear_, run_underlying ht, hv, hz, hst]
/-- xs with vs from o on -/
def ow (xs : List Value) (o : Nat) (vs : List Value) : List Value := xs.take o ++ vs ++ xs.drop (o + vs.length)
theorem ow_nil (xs : List Value) (o : Nat) : ow xs o [] = xs := by simp [ow]
theorem ow_cons (xs : List Value) (o : Nat) (v : Value) (vs : List Value) (h : o < xs.length) : ow (xs.set o v) (o + 1) vs = ow xs o (v :: vs) := by
  unfold ow
  have e1 : (xs.set o v).take (o + 1) = xs.take o ++ [v] := by
    have h2 : (xs.set o v)[o]? = some v := by simp [h]
    rw [List.take_add_one, h2, List.take_set, List.set_eq_of_length_le (by simp; omega)]; rfl
  have e2 : (xs.set o v).drop (o + 1 + vs.length) = xs.drop (o + (v :: vs).length) := by
    rw [List.drop_set]
    rw [if_pos (by omega)]
    simp; congr 1; omega
  rw [e1, e2]
  simp
theorem ow_len (xs : List Value) (o : Nat) (vs : List Value) (h : o + vs.length ≤ xs.length) : (ow xs o vs).length = xs.length := by
  unfold ow; simp; omega
theorem ow_take (xs : List Value) (o : Nat) (vs : List Value) (h : o ≤ xs.length) : (ow xs o vs).take o = xs.take o := by
  unfold ow
  rw [List.append_assoc, List.take_append_of_le_length (by rw [List.length_take]; omega), List.take_take, Nat.min_self]
theorem owns_setCells {base g cap n size : Nat} {e : TypeId} : ∀ (vs : List Value) (o : Nat) (w : World) (xs : List Value), w.ownsRow base e size (.slice (some ⟨g, 0, none⟩) n cap) n xs → o + vs.length ≤ n * size →
    (w.setCells g o vs).ownsRow base e size (.slice (some ⟨g, 0, none⟩) n cap) n (ow xs o vs) ∧ w.grownBy (w.setCells g o vs) (some g)
  | [], o, w, xs, h, _ => by rw [ow_nil]; exact ⟨h, rfl, rfl, rfl, Nat.le_refl _, fun _ _ _ => rfl⟩
  | v :: vs, o, w, xs, h, hl => by
    have hxs := h.1
    simp only [List.length_cons] at hl
    have hs := h.stored o v
    obtain ⟨r1, r2⟩ := owns_setCells vs (o + 1) _ _ hs.1 (by omega)
    rw [ow_cons _ _ _ _ (by omega)] at r1
    refine ⟨r1, ?_⟩
    have g1 : w.grownBy (w.setCell ⟨g, o, none⟩ v) (some g) := ⟨rfl, rfl, rfl, by simp [World.setCell], fun k _ hne => Below.heap_setCell _ _ _ _ (fun e => hne (by rw [e]))⟩
    exact ⟨r2.os.trans g1.os, r2.tape.trans g1.tape, r2.output.trans g1.output, Nat.le_trans g1.size r2.size, fun k hk hne => (r2.block k (Nat.lt_of_lt_of_le hk g1.size) hne).trans (g1.block k hk hne)⟩
/-- fewer of a row -/
theorem owns_fewer {w : World} {base g cap n m size : Nat} {e : TypeId} {xs : List Value} (h : w.ownsRow base e size (.slice (some ⟨g, 0, none⟩) n cap) n xs) (hm : m ≤ n) : w.ownsRow base e size (.slice (some ⟨g, 0, none⟩) m cap) m (xs.take (m * size)) := by
  have hle : m * size ≤ n * size := Nat.mul_le_mul_right _ hm
  refine ⟨by rw [List.length_take, h.1]; omega, ?_⟩
  rcases h.2 with ⟨e1, _⟩ | ⟨g', cap', cur, hv, hb, hh, hc, hc2, hs, hx⟩
  · cases e1
  · simp only [Value.slice.injEq, Option.some.injEq, Addr.mk.injEq, and_true, true_and] at hv
    obtain ⟨rfl, rfl⟩ := hv
    exact Or.inr ⟨g, cap, cur, rfl, hb, hh, by omega, hc2, hs, by rw [← hx, List.take_take]; congr 1; omega⟩
/-- what a deletion of one at i leaves -/
theorem ow_del (xs zs : List Value) (n i m : Nat) (hl : xs.length = n * m) (hi : i < n) (hz : zs.length = m) : (ow (ow xs (i * m) (xs.drop ((i + 1) * m))) ((n - 1) * m) zs).take ((n - 1) * m) = xs.take (i * m) ++ xs.drop ((i + 1) * m) := by
  have h1 : i * m ≤ (n - 1) * m := Nat.mul_le_mul_right _ (by omega)
  have h2 : (i + 1) * m = i * m + m := Nat.succ_mul i m
  have h3 : n * m = (n - 1) * m + m := by
    obtain ⟨k, rfl⟩ : ∃ k, n = k + 1 := ⟨n - 1, by omega⟩
    rw [Nat.succ_mul]; simp
  have hxl : (xs.drop ((i + 1) * m)).length = (n - 1) * m - i * m := by rw [List.length_drop, hl]; omega
  have hol : (ow xs (i * m) (xs.drop ((i + 1) * m))).length = n * m := by rw [ow_len _ _ _ (by rw [hxl, hl]; omega), hl]
  have e1 : (ow (ow xs (i * m) (xs.drop ((i + 1) * m))) ((n - 1) * m) zs).take ((n - 1) * m) = (ow xs (i * m) (xs.drop ((i + 1) * m))).take ((n - 1) * m) := by
    exact ow_take _ _ _ (by rw [hol]; omega)
  rw [e1]
  unfold ow
  have hlen : (xs.take (i * m) ++ xs.drop ((i + 1) * m)).length = (n - 1) * m := by rw [List.length_append, List.length_take, hxl, hl]; omega
  rw [List.take_append_of_le_length (by rw [hlen]; exact Nat.le_refl _), List.take_of_length_le (by rw [hlen]; exact Nat.le_refl _)]
end Go.Proofs.Ytecdigcadmokfaa
/- net: datagrams in memory; New, Len, full, has, Clone -/
namespace Go.Proofs.Ytecdigcadmokfaa
open Go.RowKit
set_option linter.unusedVariables false
set_option maxRecDepth 20000
/-- a datagram, and where its frame lies -/
structure GM where
  id : Int
  frm : Int
  dst : Int
  fa : Option Addr
  fn : Nat
  fc : Nat
  sp : Bool
  bs : List Nat
def gm0 : GM := ⟨0, 0, 0, none, 0, 0, false, []⟩
def gmC (x : GM) : List Value := [.int .i64 x.id, .int .i64 x.frm, .int .i64 x.dst, .slice x.fa x.fn x.fc, .bool x.sp]
def gmV : List GM → List Value
  | [] => []
  | x :: l => .int .i64 x.id :: .int .i64 x.frm :: .int .i64 x.dst :: .slice x.fa x.fn x.fc :: .bool x.sp :: gmV l
theorem gmV_len : ∀ l : List GM, (gmV l).length = l.length * 5
  | [] => rfl
  | x :: l => by simp [gmV, gmV_len l]; omega
theorem gmV_app : ∀ k l : List GM, gmV (k ++ l) = gmV k ++ gmV l
  | [], l => rfl
  | x :: k, l => by simp [gmV, gmV_app k l]
theorem gmV_one : ∀ (l : List GM), ∀ u ∈ gmV l, u.oneCell' = true
  | [], u, h => by simp [gmV] at h
  | x :: l, u, h => by
    simp only [gmV, List.mem_cons] at h
    rcases h with h | h | h | h | h | h
    · subst h; rfl
    · subst h; rfl
    · subst h; rfl
    · subst h; rfl
    · subst h; rfl
    · exact gmV_one l u h
theorem gmV_at : ∀ (l : List GM) (i : Nat), i < l.length → (gmV l)[i * 5]? = some (.int .i64 (l.getD i gm0).id) ∧ (gmV l)[i * 5 + 1]? = some (.int .i64 (l.getD i gm0).frm) ∧ (gmV l)[i * 5 + 2]? = some (.int .i64 (l.getD i gm0).dst) ∧ (gmV l)[i * 5 + 3]? = some (.slice (l.getD i gm0).fa (l.getD i gm0).fn (l.getD i gm0).fc) ∧ (gmV l)[i * 5 + 4]? = some (.bool (l.getD i gm0).sp)
  | [], i, h => by simp at h
  | x :: l, 0, _ => by simp [gmV]
  | x :: l, i + 1, h => by
    have ih := gmV_at l i (by simpa using h)
    have e1 : (i + 1) * 5 = i * 5 + 1 + 1 + 1 + 1 + 1 := by omega
    rw [e1]
    simpa [gmV] using ih
theorem gmV_take (l : List GM) (i : Nat) : (gmV l).take (i * 5) = gmV (l.take i) := by
  induction l generalizing i with
  | nil => simp [gmV]
  | cons x l ih =>
    cases i with
    | zero => simp [gmV]
    | succ i =>
      have e1 : (i + 1) * 5 = i * 5 + 1 + 1 + 1 + 1 + 1 := by omega
      rw [e1]
      simp [gmV, ih]
theorem gmV_drop (l : List GM) (i : Nat) : (gmV l).drop (i * 5) = gmV (l.drop i) := by
  induction l generalizing i with
  | nil => simp [gmV]
  | cons x l ih =>
    cases i with
    | zero => simp [gmV]
    | succ i =>
      have e1 : (i + 1) * 5 = i * 5 + 1 + 1 + 1 + 1 + 1 := by omega
      rw [e1]
      simp [gmV, ih]
/-- a datagram of its own, at p -/
def GmIn (w : World) (p : Nat) (x : GM) : Prop := w.cell? ⟨p, 0, none⟩ = some (.int .i64 x.id) ∧ w.cell? ⟨p, 1, none⟩ = some (.int .i64 x.frm) ∧ w.cell? ⟨p, 2, none⟩ = some (.int .i64 x.dst) ∧ w.cell? ⟨p, 3, none⟩ = some (.slice x.fa x.fn x.fc) ∧ w.cell? ⟨p, 4, none⟩ = some (.bool x.sp)
theorem GmIn.of {w w' : World} {p : Nat} {x : GM} (h : GmIn w p x) (e : ∀ i, w'.cell? ⟨p, i, none⟩ = w.cell? ⟨p, i, none⟩) : GmIn w' p x := by
  unfold GmIn at *
  rw [e, e, e, e, e]; exact h
theorem GmIn.below {w w' : World} {p : Nat} {x : GM} (h : GmIn w p x) (hb : Below w.heap.size w w') : GmIn w' p x := h.of fun i => hb.cell (p := ⟨p, i, none⟩) (lt_of_cell h.1)
theorem gmIn_new (w : World) (x : GM) (p : Nat) (e : TypeId) (fr : Nat × Nat) (hp : p = w.heap.size) : GmIn (w.alloc (.cells #[.int .i64 x.id, .int .i64 x.frm, .int .i64 x.dst, .slice x.fa x.fn x.fc, .bool x.sp] e fr)) p x := by
  subst hp
  unfold GmIn
  refine ⟨?_, ?_, ?_, ?_, ?_⟩ <;> (rw [World.cell?_alloc_mark]; rfl)
/-- the frame of x, in a block of its own -/
def FrIn (w : World) (S : Nat → Prop) (b : Nat) (a : Option Addr) (x : GM) : Prop := HoldsB w x.fa x.fn x.bs ∧ (x.fa = none → x.fn = 0 ∧ x.fc = 0) ∧ ∀ fb fo, x.fa = some ⟨fb, fo, none⟩ → S fb ∧ fb ≠ b ∧ ∀ g, a = some ⟨g, 0, none⟩ → fb ≠ g
theorem holdsB_blocks {w w' : World} {a : Option Addr} {n : Nat} {bs : List Nat} (h : HoldsB w a n bs) (hb : ∀ b o, a = some ⟨b, o, none⟩ → w'.heap[b]? = w.heap[b]?) : HoldsB w' a n bs := by
  refine ⟨⟨h.1.1, fun h0 => ?_⟩, h.2⟩
  obtain ⟨b, o, ha, hc⟩ := h.1.2 h0
  exact ⟨b, o, ha, fun i hi => (World.cell?_of_block (w := w) (hb b o ha)).trans (hc i hi)⟩
/-- block b is a net of so many, the next is nx; G is on its way; its blocks lie in S -/
def NAt (w : World) (b : Nat) (most nx : Int) (G : List GM) (S : Nat → Prop) : Prop :=
  ∃ a c, w.cell? ⟨b, 0, none⟩ = some (.int .i64 most) ∧ w.cell? ⟨b, 1, none⟩ = some (.int .i64 nx) ∧ w.cell? ⟨b, 2, none⟩ = some (.slice a G.length c) ∧ (∀ i, w.frozen? ⟨b, i, none⟩ = false) ∧
    w.ownsRow 0 42 5 (.slice a G.length c) G.length (gmV G) ∧ (∀ x ∈ G, FrIn w S b a x) ∧ S b ∧ (∀ g, a = some ⟨g, 0, none⟩ → S g ∧ g ≠ b) ∧ ∀ k, S k → k < w.heap.size
theorem owns_block0 {w w' : World} {base : Nat} {e : TypeId} {size : Nat} {a : Option Addr} {n c : Nat} {xs : List Value} (h : w.ownsRow base e size (.slice a n c) n xs) (hb : ∀ g, a = some ⟨g, 0, none⟩ → w'.heap[g]? = w.heap[g]?) : w'.ownsRow base e size (.slice a n c) n xs := by
  refine ⟨h.1, ?_⟩
  rcases h.2 with h1 | ⟨g, cap, cur, hv, hge, hh, r⟩
  · exact Or.inl h1
  · have hv' := hv
    simp only [Value.slice.injEq] at hv'
    exact Or.inr ⟨g, cap, cur, hv, hge, (hb g hv'.1).trans hh, r⟩
theorem NAt.blocks {w w' : World} {b : Nat} {most nx : Int} {G : List GM} {S : Nat → Prop} (h : NAt w b most nx G S) (hs : w.heap.size ≤ w'.heap.size) (hb : ∀ k, S k → w'.heap[k]? = w.heap[k]?) : NAt w' b most nx G S := by
  obtain ⟨a, c, h1, h2, h3, h4, h5, h6, h7, h8, h9⟩ := h
  have eb := hb b h7
  exact ⟨a, c, (World.cell?_of_block (w := w) eb).trans h1, (World.cell?_of_block (w := w) eb).trans h2, (World.cell?_of_block (w := w) eb).trans h3, fun i => (World.frozen?_of_block (w := w) eb).trans (h4 i), owns_block0 h5 (fun g hg => hb g (h8 g hg).1), fun x hx => ⟨holdsB_blocks (h6 x hx).1 (fun fb fo e => hb fb ((h6 x hx).2.2 fb fo e).1), (h6 x hx).2⟩, h7, h8, fun k hk => Nat.lt_of_lt_of_le (h9 k hk) hs⟩
theorem NAt.lt {w : World} {b : Nat} {most nx : Int} {G : List GM} {S : Nat → Prop} (h : NAt w b most nx G S) : ∀ k, S k → k < w.heap.size := by obtain ⟨a, c, h1, h2, h3, h4, h5, h6, h7, h8, h9⟩ := h; exact h9
theorem NAt.has {w : World} {b : Nat} {most nx : Int} {G : List GM} {S : Nat → Prop} (h : NAt w b most nx G S) : S b := by obtain ⟨a, c, h1, h2, h3, h4, h5, h6, h7, h8, h9⟩ := h; exact h7
theorem NAt.turn {w w' : World} {b : Nat} {most nx : Int} {G : List GM} {S F : Nat → Prop} (h : NAt w b most nx G S) (t : Turn F w w') (hF : ∀ k, S k → ¬ F k) : NAt w' b most nx G S :=
  h.blocks t.size fun k hk => t.block k (h.lt k hk) (hF k hk)
theorem NAt.below {w w' : World} {b : Nat} {most nx : Int} {G : List GM} {S : Nat → Prop} (h : NAt w b most nx G S) (t : Below w.heap.size w w') : NAt w' b most nx G S :=
  h.blocks t.size fun k hk => t.block k (h.lt k hk)
theorem nin_lit (n lo hi : Int) (c : Bool) (w : World) (h : decide (lo ≤ n ∧ n ≤ hi) = c) :
    Calls Try.prog 30 #[.int .i64 n, .int .i64 lo, .int .i64 hi] w fun e w' => e = .returned (.bool c) ∧ w = w' := by
  subst h
  go_enter Try.func30, Try.ntmps30
  go_wp2
  all_goals (go_ret; exact ⟨ret_bool (by simp; try omega), rfl⟩)
theorem nNew_any (most : Int) (w : World) (h : 1 ≤ most ∧ most ≤ 64) :
    Calls Try.prog 9 #[.int .i64 most] w fun e w' => ∃ b S, e = .returned (.tuple #[.pointer (some ⟨b, 0, none⟩), .int .i64 0]) ∧ NAt w' b most 0 [] S ∧ (∀ k, S k → w.heap.size ≤ k) ∧ Below w.heap.size w w' := by
  have CI := Lib.hid (nin_lit most 1 64 true w (decide_eq_true h))
  clear h
  go_enter Try.func9, Try.ntmps9
  go_wp2_with fail
  refine CI.out.mono ?_
  rintro e w' ⟨rfl, rfl⟩
  go_wp2_with fail
  refine bodyPost_ret (v := .tuple #[.pointer (some ⟨w.heap.size, 0, none⟩), .int .i64 0]) (by simp [results, go_sem]) rfl ?_
  exact ⟨w.heap.size, fun k => k = w.heap.size, rfl, ⟨none, 0, by rw [cell_alloc rfl]; rfl, by rw [cell_alloc rfl]; rfl, by rw [cell_alloc rfl]; rfl, fun i => frozen_alloc rfl, World.ownsRow_nil _ _ _ _, fun x hx => by simp at hx, rfl, fun g hg => (by cases hg), fun k hk => by simp; omega⟩, fun k hk => by omega, below_one _ _⟩
theorem nLen_none (w : World) : Calls Try.prog 26 #[.pointer none] w fun e w' => e = .returned (.int .i64 0) ∧ w = w' := by
  go_enter Try.func26, Try.ntmps26
  go_wp2_with fail
  go_ret
  exact ⟨rfl, rfl⟩
theorem nLen_any {most nx : Int} {G : List GM} {S : Nat → Prop} (b : Nat) (w : World) (h : NAt w b most nx G S) :
    Calls Try.prog 26 #[.pointer (some ⟨b, 0, none⟩)] w fun e w' => e = .returned (.int .i64 G.length) ∧ w = w' := by
  obtain ⟨a, c, h1, h2, h3, -⟩ := h
  clear h1 h2
  go_enter Try.func26, Try.ntmps26
  go_wp2_with fail
  go_ret
  exact ⟨rfl, rfl⟩
theorem nFull_any {most nx : Int} {G : List GM} {S : Nat → Prop} (z : Bool) (b : Nat) (w : World) (h : NAt w b most nx G S) (hz : decide (most ≤ (G.length : Int)) = z) :
    Calls Try.prog 31 #[.pointer (some ⟨b, 0, none⟩)] w fun e w' => e = .returned (.bool z) ∧ Below w.heap.size w w' := by
  obtain ⟨a, c, h1, h2, h3, -⟩ := h
  have hz2 : decide ((G.length : Int) ≥ most) = z := hz
  clear h2
  go_enter Try.func31, Try.ntmps31
  go_wp2_with fail
  go_quiet (fail)
  go_wp2_with fail
  go_ret
  exact ⟨rfl, below_drewN _ _⟩
theorem nHas_none (i : Int) (w : World) : Calls Try.prog 33 #[.pointer none, .int .i64 i] w fun e w' => e = .returned (.bool false) ∧ w = w' := by
  go_enter Try.func33, Try.ntmps33
  go_wp2_with fail
  go_ret
  exact ⟨rfl, rfl⟩
theorem nHas_any {most nx : Int} {G : List GM} {S : Nat → Prop} (i : Int) (z : Bool) (b : Nat) (w : World) (h : NAt w b most nx G S) (hz : decide (0 ≤ i ∧ i < (G.length : Int)) = z) :
    Calls Try.prog 33 #[.pointer (some ⟨b, 0, none⟩), .int .i64 i] w fun e w' => e = .returned (.bool z) ∧ w = w' := by
  obtain ⟨a, c, h1, h2, h3, -⟩ := h
  clear h1 h2
  by_cases hi : 0 ≤ i
  · have d1 : decide (i ≥ 0) = true := decide_eq_true hi
    have d2 : decide (i < (G.length : Int)) = z := by rw [← hz]; simp [hi]
    clear hz
    go_enter Try.func33, Try.ntmps33
    go_wp2_with fail
    go_ret
    exact ⟨rfl, rfl⟩
  · have d1 : decide (i ≥ 0) = false := decide_eq_false hi
    obtain rfl : z = false := by rw [← hz]; exact decide_eq_false (fun h => hi h.1)
    clear hz
    go_enter Try.func33, Try.ntmps33
    go_wp2_with fail
    go_ret
    exact ⟨rfl, rfl⟩
theorem u8n_info : (Try.prog.info? 5).map (fun i => (i.zero, i.size, i.bytes)) = some (some (.int .u8 0), 1, 1) := by kernel_rfl
theorem clone_any (a : Option Addr) (n c : Nat) (bs : List Nat) (w : World) (h : HoldsB w a n bs) (hnone : a = none → n = 0 ∧ c = 0) (hn : n ≤ 1000000) :
    Calls Try.prog 32 #[.slice a n c] w (RetB 5 w bs) := by
  obtain ⟨i0, hi, hz0, hz1, hz2⟩ := info_parts u8n_info
  have hl := h.len
  cases a with
  | none =>
    obtain ⟨rfl, rfl⟩ := hnone rfl
    obtain rfl : bs = [] := List.length_eq_zero_iff.1 hl
    have he := fun w => Lib.run_eql_slice_nil (P := Try.prog) w 33 5 none 0 0 0 0 Try.underlying33
    simp only [Option.isNone_none] at he
    clear h hl hnone
    go_enter Try.func32, Try.ntmps32
    go_wp2_with fail
    go_ret
    exact ⟨none, 0, rfl, World.ownsRow_nil _ _ _ _, Below.refl _ _, fun _ => ⟨rfl, rfl⟩⟩
  | some ad =>
    subst hl
    have HC := Lib.hid (h.values.cells (World.grownBy_alloc w (.cells #[] 5) none))
    have hbl : (bytesV bs).length = bs.length * 1 := by rw [bytesV_length]; omega
    have he := fun w => Lib.run_eql_slice_nil (P := Try.prog) w 33 5 (some ad) bs.length c 0 0 Try.underlying33
    simp only [Option.isNone_some] at he
    clear h
    go_enter Try.func32, Try.ntmps32
    go_wp2_with (at_builtin; refine wpList_append_any rfl (.tmp 5) (.tmp 6) 33 rfl w.heap.size 5 i0 _ 1 1 Try.underlying33 hi hz0 hz1 hz2 rfl (by decide) _ 0 [] rfl (World.ownsRow_lit w #[] 0 (Nat.le_refl _) (by decide) rfl) _ bs.length _ (bytesV bs) rfl (some_none _) hbl HC.out (bytesV_one _) (by unfold maxLen; omega) (by omega) (by simp) ?_; intro a3 c3 w3 hown3 hb3 hnil3)
    rw [List.nil_append, Nat.zero_add] at hown3
    rw [Nat.zero_add] at hnil3
    go_ret
    exact ⟨a3, c3, rfl, hown3, ((Below.refl _ _).alloc (Nat.le_refl _) _).trans hb3, hnil3⟩
end Go.Proofs.Ytecdigcadmokfaa
/- net: Send -/
namespace Go.Proofs.Ytecdigcadmokfaa
open Go.RowKit
set_option linter.unusedVariables false
set_option maxRecDepth 20000
/-- NAt, its row named -/
def MidN (w : World) (b : Nat) (most nx : Int) (a : Option Addr) (c : Nat) (G : List GM) (S : Nat → Prop) : Prop :=
  w.cell? ⟨b, 0, none⟩ = some (.int .i64 most) ∧ w.cell? ⟨b, 1, none⟩ = some (.int .i64 nx) ∧ w.cell? ⟨b, 2, none⟩ = some (.slice a G.length c) ∧ (∀ i, w.frozen? ⟨b, i, none⟩ = false) ∧
    w.ownsRow 0 42 5 (.slice a G.length c) G.length (gmV G) ∧ (∀ x ∈ G, FrIn w S b a x) ∧ S b ∧ (∀ g, a = some ⟨g, 0, none⟩ → S g ∧ g ≠ b) ∧ ∀ k, S k → k < w.heap.size
theorem NAt.mid {w : World} {b : Nat} {most nx : Int} {G : List GM} {S : Nat → Prop} (h : NAt w b most nx G S) : ∃ a c, MidN w b most nx a c G S := h
theorem MidN.nat {w : World} {b : Nat} {most nx : Int} {a : Option Addr} {c : Nat} {G : List GM} {S : Nat → Prop} (h : MidN w b most nx a c G S) : NAt w b most nx G S := ⟨a, c, h⟩
theorem ownb {a : Option Addr} {n c k : Nat} {w : World} {xs : List Value} {e : TypeId} {base size : Nat} (h : w.ownsRow base e size (.slice a n c) n xs) (hk : some k = (Value.slice a n c).ownBlock) : a = some ⟨k, 0, none⟩ := by
  rcases Joins.ownsRow_forms h with ⟨e1, _⟩ | ⟨g, cap, e1⟩
  · injection e1 with e2; subst e2; cases hk
  · injection e1 with e2; subst e2; injection hk with hk; rw [hk]
theorem heap_set_far {w : World} {b o k : Nat} {v : Value} (h : k ≠ b) : (w.setCell ⟨b, o, none⟩ v).heap[k]? = w.heap[k]? := Below.heap_setCell _ _ _ _ h
theorem NAt.next {w : World} {b : Nat} {most nx : Int} {G : List GM} {S : Nat → Prop} (h : NAt w b most nx G S) (m : Int) : NAt (w.setCell ⟨b, 1, none⟩ (.int .i64 m)) b most m G S ∧ Turn S w (w.setCell ⟨b, 1, none⟩ (.int .i64 m)) := by
  obtain ⟨a, c, h1, h2, h3, h4, h5, h6, h7, h8, h9⟩ := h
  refine ⟨⟨a, c, ?_, cset_at h2, ?_, fun i => ?_, owns_block0 h5 (fun g hg => heap_set_far (h8 g hg).2), fun x hx => ⟨holdsB_blocks (h6 x hx).1 (fun fb fo e => heap_set_far ((h6 x hx).2.2 fb fo e).2.1), (h6 x hx).2⟩, h7, h8, fun k hk => ?_⟩, Turn.setCell h7⟩
  · rw [cset_ne (by omega)]; exact h1
  · rw [cset_ne (by omega)]; exact h3
  · rw [fset_any]; exact h4 i
  · rw [show (w.setCell ⟨b, 1, none⟩ (.int .i64 m)).heap.size = w.heap.size by simp [World.setCell]]; exact h9 k hk
theorem MidN.grown {w wf w6 : World} {b : Nat} {most nx : Int} {a : Option Addr} {c g cap : Nat} {G : List GM} {S : Nat → Prop} {o : Obj} {x : GM} (h : MidN w b most nx a c G S) (hb : Below w.heap.size w wf)
    (hx : HoldsB wf x.fa x.fn x.bs) (hnone : x.fa = none → x.fn = 0 ∧ x.fc = 0) (hfb : ∀ fb fo, x.fa = some ⟨fb, fo, none⟩ → w.heap.size ≤ fb ∧ fb < wf.heap.size)
    (own : w6.ownsRow 0 42 5 (.slice (some ⟨g, 0, none⟩) (G.length + 1) cap) (G.length + 1) (gmV G ++ gmC x))
    (hg : (wf.alloc o).grownBy w6 (Value.slice a G.length c).ownBlock) (hat : (Value.slice a G.length c).ownBlock = some g ∨ g = (wf.alloc o).heap.size) (hlt : g < w6.heap.size) :
    NAt (w6.setCell ⟨b, 2, none⟩ (.slice (some ⟨g, 0, none⟩) (G.length + 1) cap)) b most nx (G ++ [x]) (fun k => S k ∨ (w.heap.size ≤ k ∧ k < w6.heap.size)) ∧ Turn S w (w6.setCell ⟨b, 2, none⟩ (.slice (some ⟨g, 0, none⟩) (G.length + 1) cap)) := by
  obtain ⟨h1, h2, h3, h4, h5, h6, h7, h8, h9⟩ := h
  have hz := hb.size
  have hza : (wf.alloc o).heap.size = wf.heap.size + 1 := by simp
  have hz6 := hg.size
  have hlb := h9 b h7
  have old : ∀ k, k < w.heap.size → (∀ q, a = some ⟨q, 0, none⟩ → k ≠ q) → w6.heap[k]? = w.heap[k]? := fun k hk hn =>
    ((hg.block k (by omega) (fun e => hn k (ownb h5 e) rfl)).trans (Below.heap_alloc _ _ _ (by omega))).trans (hb.block k hk)
  have ob := old b hlb (fun q e hq => (h8 q e).2 hq.symm)
  have cb : ∀ i, w6.cell? ⟨b, i, none⟩ = w.cell? ⟨b, i, none⟩ := fun i => World.cell?_of_block (w := w) ob
  have gb : g ≠ b := by
    rcases hat with e | e
    · exact (h8 g (ownb h5 e.symm)).2
    · omega
  have sz : (w6.setCell ⟨b, 2, none⟩ (.slice (some ⟨g, 0, none⟩) (G.length + 1) cap)).heap.size = w6.heap.size := by simp [World.setCell]
  have hlen : (G ++ [x]).length = G.length + 1 := by simp
  have fr : ∀ y ∈ G ++ [x], FrIn (w6.setCell ⟨b, 2, none⟩ (.slice (some ⟨g, 0, none⟩) (G.length + 1) cap)) (fun k => S k ∨ (w.heap.size ≤ k ∧ k < w6.heap.size)) b (some ⟨g, 0, none⟩) y := by
    intro y hy
    rcases List.mem_append.1 hy with hy | hy
    · obtain ⟨y1, y2, y3⟩ := h6 y hy
      refine ⟨holdsB_blocks y1 (fun fb fo e => ?_), y2, fun fb fo e => ⟨Or.inl (y3 fb fo e).1, (y3 fb fo e).2.1, fun q hq => ?_⟩⟩
      · rw [heap_set_far (y3 fb fo e).2.1]
        exact old fb (h9 fb (y3 fb fo e).1) (fun q hq => (y3 fb fo e).2.2 q hq)
      · injection hq with hq; injection hq with hq; subst hq
        rcases hat with e2 | e2
        · exact (y3 fb fo e).2.2 g (ownb h5 e2.symm)
        · have := h9 fb (y3 fb fo e).1; omega
    · simp at hy; subst hy
      refine ⟨holdsB_blocks hx (fun fb fo e => ?_), hnone, fun fb fo e => ⟨Or.inr ⟨(hfb fb fo e).1, by have := (hfb fb fo e).2; omega⟩, by have := (hfb fb fo e).1; omega, fun q hq => ?_⟩⟩
      · have hf := hfb fb fo e
        rw [heap_set_far (by omega)]
        exact (hg.block fb (by omega) (fun e2 => by have := h9 fb (h8 fb (ownb h5 e2)).1; omega)).trans (Below.heap_alloc _ _ _ (by omega))
      · injection hq with hq; injection hq with hq; subst hq
        have hf := hfb fb fo e
        rcases hat with e2 | e2
        · have := h9 g (h8 g (ownb h5 e2.symm)).1; omega
        · omega
  refine ⟨⟨some ⟨g, 0, none⟩, cap, ?_, ?_, ?_, fun i => ?_, ?_, fr, Or.inl h7, fun q hq => ?_, fun k hk => ?_⟩, ?_⟩
  · rw [cset_ne (by omega), cb]; exact h1
  · rw [cset_ne (by omega), cb]; exact h2
  · rw [hlen]; exact cset_at ((cb 2).trans h3)
  · rw [fset_any, World.frozen?_of_block (w := w) ob]; exact h4 i
  · rw [hlen, gmV_app]
    exact owns_block0 own (fun q hq => by injection hq with hq; injection hq with hq; subst hq; exact heap_set_far gb)
  · injection hq with hq; injection hq with hq; subst hq
    refine ⟨?_, gb⟩
    rcases hat with e2 | e2
    · exact Or.inl (h8 g (ownb h5 e2.symm)).1
    · exact Or.inr ⟨by omega, hlt⟩
  · rw [sz]
    rcases hk with hk | hk
    · have := h9 k hk; omega
    · exact hk.2
  · refine Turn.trans ?_ (Turn.setCell h7)
    exact ⟨hg.os.trans hb.os, hg.tape.trans hb.tape, hg.output.trans hb.output, by omega, fun k hk hn => old k hk (fun q e hq => hn (by rw [hq]; exact (h8 q e).1))⟩
theorem nSend_none (f t : Int) (v : Value) (w : World) : Calls Try.prog 13 #[.pointer none, .int .i64 f, .int .i64 t, v] w fun e w' => e = .returned (.tuple #[.int .i64 0, .bool false]) ∧ w = w' := by
  go_enter Try.func13, Try.ntmps13
  go_wp2_with fail
  exact bodyPost_ret (v := .tuple #[.int .i64 0, .bool false]) (by simp [results, go_sem]) rfl ⟨rfl, rfl⟩
/-- there is no room -/
theorem nSend_full (f t : Int) (v : Value) (b : Nat) {most nx : Int} {G : List GM} {S : Nat → Prop} (w : World) (h : NAt w b most nx G S) (hx : 0 ≤ nx ∧ nx ≤ 1000000000) (hf : most ≤ (G.length : Int)) :
    Calls Try.prog 13 #[.pointer (some ⟨b, 0, none⟩), .int .i64 f, .int .i64 t, v] w fun e w' => e = .returned (.tuple #[.int .i64 nx, .bool false]) ∧ NAt w' b most (nx + 1) G S ∧ Turn S w w' := by
  have N1 := Lib.hid (h.next (nx + 1)).1
  have T1 := Lib.hid (h.next (nx + 1)).2
  have CF := Lib.hid (nFull_any true b _ N1.out (decide_eq_true hf))
  have hw : IntKind.i64.wrap (nx + 1) = nx + 1 := IntWalk.i64_in _ (by omega)
  obtain ⟨a, c, h1, h2, h3, h4, -⟩ := h
  have fr := h4 1
  clear h1 h3 h4 hx hf
  go_enter Try.func13, Try.ntmps13
  go_wp2_with fail
  refine CF.out.mono ?_
  rintro e w2 ⟨rfl, hb⟩
  have N2 := Lib.hid (N1.out.below hb)
  have T2 := Lib.hid (T1.out.trans (Turn.of_below hb))
  clear hb
  go_wp2_with fail
  exact bodyPost_ret (v := .tuple #[.int .i64 nx, .bool false]) (by simp [results, go_sem]) rfl ⟨rfl, N2.out, T2.out⟩
def SendP (w : World) (b : Nat) (most nx : Int) (G : List GM) (S : Nat → Prop) (f t : Int) (bs : List Nat) (e : Ending) (w' : World) : Prop :=
  e = .returned (.tuple #[.int .i64 nx, .bool true]) ∧ ∃ x S', x.id = nx ∧ x.frm = f ∧ x.dst = t ∧ x.fn = bs.length ∧ x.bs = bs ∧ x.sp = false ∧ NAt w' b most (nx + 1) (G ++ [x]) S' ∧ (∀ k, S' k → S k ∨ w.heap.size ≤ k) ∧ Turn S w w'
theorem gm_info : (Try.prog.info? 42).map (fun i => (i.zero, i.size, i.bytes)) = some (some (.agg #[.int .i64 0, .int .i64 0, .int .i64 0, .slice none 0 0, .bool false]), 5, 56) := by kernel_rfl
theorem bc2_start {w : World} {b : Nat} {v : Value} (h : w.cell? ⟨b, 2, none⟩ = some v) : Below w.heap.size w w.drew ∧ w.drew.cell? ⟨b, 2, none⟩ = some v := ⟨(Below.refl _ _).drew, h⟩
theorem bc2_carry {w w' w'' : World} {b : Nat} {v : Value} (h : Below w.heap.size w w' ∧ w'.cell? ⟨b, 2, none⟩ = some v) (hb : Below w'.heap.size w' w'') : Below w.heap.size w w'' ∧ w''.cell? ⟨b, 2, none⟩ = some v := ⟨h.1.trans (hb.mono h.1.size), (hb.cell (p := ⟨b, 2, none⟩) (lt_of_cell h.2)).trans h.2⟩
theorem c0_carry {w' w'' : World} {b : Nat} {v : Value} (h : w'.cell? ⟨b, 0, none⟩ = some v) (hb : Below w'.heap.size w' w'') : w''.cell? ⟨b, 0, none⟩ = some v := (hb.cell (p := ⟨b, 0, none⟩) (lt_of_cell h)).trans h
theorem c2_carry {w' w'' : World} {b : Nat} {v : Value} (h : w'.cell? ⟨b, 2, none⟩ = some v) (hb : Below w'.heap.size w' w'') : w''.cell? ⟨b, 2, none⟩ = some v := (hb.cell (p := ⟨b, 2, none⟩) (lt_of_cell h)).trans h
set_option maxHeartbeats 3200000 in
set_option maxRecDepth 100000 in
theorem nSend_core (f t : Int) (ia : Option Addr) (n ic : Nat) (bs : List Nat) (b : Nat) {most nx : Int} {G : List GM} {S : Nat → Prop} (w : World) (h : NAt w b most nx G S) (hx : 0 ≤ nx ∧ nx ≤ 1000000000) (hf : (G.length : Int) < most) (hm : most ≤ 64)
    (hi : HoldsB (w.setCell ⟨b, 1, none⟩ (.int .i64 (nx + 1))) ia n bs) (hin : ia = none → n = 0 ∧ ic = 0) (hn : n ≤ 1000000) :
    Calls Try.prog 13 #[.pointer (some ⟨b, 0, none⟩), .int .i64 f, .int .i64 t, .slice ia n ic] w (SendP w b most nx G S f t bs) := by
  obtain ⟨i0, hi0, hz0, hz1, hz2⟩ := info_parts gm_info
  have N1 := Lib.hid (h.next (nx + 1)).1
  have T1 := Lib.hid (h.next (nx + 1)).2
  have CF := Lib.hid (nFull_any false b _ N1.out (decide_eq_false (by omega)))
  have hw : IntKind.i64.wrap (nx + 1) = nx + 1 := IntWalk.i64_in _ (by omega)
  have HB1 := Lib.hid hi
  have HIN := Lib.hid hin
  have HLT := Lib.hid (show ∀ b ∈ bs, b < 256 from hi.2)
  have hl : G.length < 64 := by omega
  obtain ⟨a, c, h1, h2, h3, h4, -⟩ := h
  have fr := h4 1
  clear h1 h3 h4 hx hf hi hin hm
  go_enter Try.func13, Try.ntmps13
  go_wp2_with fail
  refine CF.out.mono ?_
  rintro e w2 ⟨rfl, hb⟩
  have N2 := Lib.hid (N1.out.below hb)
  have T2 := Lib.hid (T1.out.trans (Turn.of_below hb))
  have HB2 := Lib.hid (HB1.out.below hb)
  clear hb N1 T1 HB1 CF h2 fr hw
  obtain ⟨a, c, M⟩ := N2.out.mid
  obtain ⟨m1, m2, m3, m4, m5, m6, m7, m8, m9⟩ := M
  have M2 := Lib.hid (show MidN w2 b most (nx + 1) a c G S from ⟨m1, m2, m3, m4, m5, m6, m7, m8, m9⟩)
  have K2 := Lib.hid m3
  have K0 := Lib.hid m1
  have OW := Lib.hid m5
  have CC := Lib.hid (clone_any ia n ic bs w2.drew (HB2.out.below (Below.refl _ _).drew) HIN.out hn)
  have BD := Lib.hid (fun wf (hb : Below w2.drew.heap.size w2.drew wf) => (show Below w2.heap.size w2 wf from (Below.refl _ _).drew.trans hb))
  have AB := Lib.hid (show ∀ w' o w6, Below w2.heap.size w2 w' → (w'.alloc o).grownBy w6 (Value.slice a G.length c).ownBlock → w6.cell? ⟨b, 2, none⟩ = some (.slice a G.length c) ∧ w6.frozen? ⟨b, 2, none⟩ = false ∧ w6.cell? ⟨b, 0, none⟩ = some (.int .i64 most) from fun w' o w6 hb hg => by
    have lb := m9 b m7
    have hz := hb.size
    have ob := ((hg.block b (by simp; omega) (fun e => (m8 b (ownb m5 e)).2 rfl)).trans (Below.heap_alloc _ _ _ (by omega))).trans (hb.block b lb)
    exact ⟨(World.cell?_of_block (w := w2) ob).trans m3, (World.frozen?_of_block (w := w2) ob).trans (m4 2), (World.cell?_of_block (w := w2) ob).trans m1⟩)
  clear m1 m2 m3 m4 m5 m6 m7 m8 m9
  go_upto_region 7 with fail
  have k2 := K2.out
  have k3 : w2.drew.cell? ⟨b, 2, none⟩ = some (.slice a G.length c) := K2.out
  go_region_law
    (first
      | (refine step_append_lies _ (by rfl) _ _ _ (by rfl) 0 42 i0 _ 5 56 Try.underlying46 hi0 hz0 hz1 hz2 rfl (by omega) (.slice a G.length c) G.length (gmV G) (by rfl) (OWF.alloc _) ⟨wf.heap.size, 0, none⟩ 1 1 [.int .i64 nx, .int .i64 f, .int .i64 t, .slice fa bs.length fc, .bool false] (by rfl) (by rfl) (World.news_of_block (cs := #[.int .i64 nx, .int .i64 f, .int .i64 t, .slice fa bs.length fc, .bool false]) (t := 42) (fr := (0, 0)) (heap_alloc_new wf _)) (by simp [Value.oneCell']) (by omega) (by unfold maxLen; omega) (by omega) (by omega) (wf.heap.size + 1) (by simp) ?_; intro g3 c3 w6 hown6 hgrow6 hat6 hlt6; obtain ⟨x0, x1, x2⟩ := AB.out _ _ _ BF hgrow6)
      | (go_simp; go_at_call 32; (with_reducible refine CC.out.mono ?_); rintro e wf ⟨fa, fc, rfl, hOF, hbF, hNF⟩; have BF := BD.out _ hbF; have OWF := owns_below OW.out BF; have y0 := c2_carry K2.out BF; have y1 := fun o => c2_carry y0 (below_one wf o)))
  all_goals
    obtain ⟨q0, q1⟩ : HoldsB wf fa bs.length bs ∧ ∀ fb fo, fa = some ⟨fb, fo, none⟩ → w2.heap.size ≤ fb ∧ fb < wf.heap.size := ⟨holdsB_of_values (owns_holds hOF) HLT.out, fun fb fo e => by
      rcases Joins.ownsRow_forms hOF with ⟨e1, _⟩ | ⟨g, cap, e1⟩
      · injection e1 with e2; rw [e] at e2; cases e2
      · injection e1 with e2; rw [e] at e2; injection e2 with e2; injection e2 with e2 e3; subst e2; subst e3; rw [e] at hOF; exact hOF.lt _ rfl⟩
    have GR := Lib.hid (MidN.grown (x := ⟨nx, f, t, fa, bs.length, fc, false, bs⟩) M2.out BF q0 hNF q1 hown6 hgrow6 (hat6.imp id (fun e => by simp; exact e)) hlt6)
    clear q0 q1 hown6 hgrow6 hat6 hlt6 hOF hNF OWF
    go_wp2_with fail
    refine bodyPost_ret (v := .tuple #[.int .i64 nx, .bool true]) (by simp [results, go_sem]) rfl ⟨rfl, ⟨nx, f, t, fa, bs.length, fc, false, bs⟩, _, rfl, rfl, rfl, rfl, rfl, rfl, GR.out.1, fun k hk => ?_, T2.out.trans GR.out.2⟩
    have hz := T2.out.size
    exact hk.imp id (fun x => by have := x.1; omega)
theorem nSend_in (f t : Int) (ia : Option Addr) (n ic : Nat) (bs : List Nat) (b : Nat) {most nx : Int} {G : List GM} {S : Nat → Prop} (w : World) (h : NAt w b most nx G S) (hx : 0 ≤ nx ∧ nx ≤ 1000000000) (hf : (G.length : Int) < most) (hm : most ≤ 64)
    (hi : HoldsB w ia n bs) (hin : ia = none → n = 0 ∧ ic = 0) (hn : n ≤ 1000000) (hiS : ∀ fb fo, ia = some ⟨fb, fo, none⟩ → ¬ S fb) :
    Calls Try.prog 13 #[.pointer (some ⟨b, 0, none⟩), .int .i64 f, .int .i64 t, .slice ia n ic] w (SendP w b most nx G S f t bs) :=
  nSend_core f t ia n ic bs b w h hx hf hm (holdsB_blocks hi (fun fb fo e => heap_set_far (fun e2 => hiS fb fo e (by rw [e2]; exact h.has)))) hin hn
end Go.Proofs.Ytecdigcadmokfaa
/- slices.Delete of one at []api.Gram -/
namespace Go.Proofs.Ytecdigcadmokfaa
open Go.RowKit
set_option linter.unusedVariables false
set_option maxRecDepth 20000
theorem dlGrams_info : (Try.prog.info? 42).map (fun i => (i.zero, i.size, i.bytes)) = some (some (.agg #[.int .i64 0, .int .i64 0, .int .i64 0, .slice none 0 0, .bool false]), 5, 56) := by kernel_rfl
theorem dlGrams_zero (w : World) : (zeroValue 42).run Try.prog w = .ok (.agg #[.int .i64 0, .int .i64 0, .int .i64 0, .slice none 0 0, .bool false]) w := by kernel_rfl
theorem dlGrams_cells : (Builtin.zeroCells (Value.agg #[.int .i64 0, .int .i64 0, .int .i64 0, .slice none 0 0, .bool false]).cells 1).toList = [.int .i64 0, .int .i64 0, .int .i64 0, .slice none 0 0, .bool false] := by kernel_rfl
set_option maxHeartbeats 3200000 in
set_option maxRecDepth 100000 in
theorem deleteGrams_any (base g cap n i j : Nat) (xs : List Value) (w : World) (h : w.ownsRow base 42 5 (.slice (some ⟨g, 0, none⟩) n cap) n xs) (hi : i < n) (hj : j = i + 1) (hone : ∀ u ∈ xs, u.oneCell' = true) :
    Calls Try.prog 34 #[.slice (some ⟨g, 0, none⟩) n cap, .int .i64 i, .int .i64 j] w fun e w' => e = .returned (.slice (some ⟨g, 0, none⟩) (n - 1) cap) ∧ w'.ownsRow base 42 5 (.slice (some ⟨g, 0, none⟩) (n - 1) cap) (n - 1) (xs.take (i * 5) ++ xs.drop ((i + 1) * 5)) ∧ w.grownBy w' (some g) := by
  obtain ⟨i0, hi0, hz0, hz1, hz2⟩ := info_parts dlGrams_info
  obtain ⟨hnc, hcm⟩ : n ≤ cap ∧ cap ≤ maxLen := by
    rcases h.2 with ⟨e1, _⟩ | ⟨g', cap', cur, hv, hb, hh, hc, hc2, hs, hx⟩
    · cases e1
    · simp only [Value.slice.injEq, Option.some.injEq, Addr.mk.injEq, and_true, true_and] at hv
      obtain ⟨rfl, rfl⟩ := hv
      exact ⟨hc, hc2⟩
  unfold maxLen at hcm
  have hl := h.1
  obtain ⟨news, hnews⟩ : ∃ news, news = xs.drop (j * 5) := ⟨_, rfl⟩
  have hlen : news.length = (n - j) * 5 := by rw [hnews, List.length_drop, hl]; omega
  obtain ⟨A, hA, hsrc⟩ : ∃ A : Addr, (if cap = j then some (⟨g, 0, none⟩ : Addr) else some ⟨g, j * 5, none⟩) = some A ∧ Hid (∀ t u, news[t]? = some u → w.drew.cell? (A.add t) = some u) := by
    by_cases hc : cap = j
    · refine ⟨⟨g, 0, none⟩, by simp [hc], fun t u hu => ?_⟩
      have h0 : news.length = 0 := by rw [hlen]; omega
      rw [List.length_eq_zero_iff.1 h0] at hu
      simp at hu
    · refine ⟨⟨g, j * 5, none⟩, by simp [hc], fun t u hu => ?_⟩
      have ht := (List.getElem?_eq_some_iff.1 hu).1
      rw [hlen] at ht
      rw [Go.WideShapes.add_plain]
      rw [hnews, List.getElem?_drop] at hu
      exact (h.cellAt (j * 5 + t) (by omega)).trans hu
  have s1 : Hid (news.length = (n - j) * 5) := hlen
  have s2 : Hid (∀ u ∈ news, u.oneCell' = true) := fun u hu => hone u (List.mem_of_mem_drop (hnews ▸ hu))
  have s3 : Hid (∀ t, t < news.length → (w.drew.cell? ⟨g, 0 + i * 5 + t, none⟩).isSome = true ∧ w.drew.frozen? ⟨g, 0 + i * 5 + t, none⟩ = false) := by
    intro t ht
    rw [hlen] at ht
    rw [Nat.zero_add]
    refine ⟨?_, h.frozenAt _⟩
    show (w.cell? _).isSome = true
    rw [h.cellAt (i * 5 + t) (by omega), List.getElem?_eq_getElem (by rw [hl]; omega)]; rfl
  have R1 := owns_setCells (g := g) news (i * 5) w.drew xs h (by rw [hlen]; omega)
  obtain ⟨W1, hW1⟩ : ∃ W1, W1 = w.drew.setCells g (0 + i * 5) news := ⟨_, rfl⟩
  rw [Nat.zero_add] at hW1
  rw [← hW1] at R1
  obtain ⟨O1, G1⟩ := R1
  have hj1 : i + (n - j) = n - 1 := by omega
  have hcl : ∀ ty, (Builtin.clear_ #[46] ty #[.slice (some ⟨g, (i + (n - j)) * 5, none⟩) (n - (i + (n - j))) (cap - (i + (n - j)))]).run Try.prog W1 = .ok (.tuple #[]) (W1.setCells g ((i + (n - j)) * 5) [.int .i64 0, .int .i64 0, .int .i64 0, .slice none 0 0, .bool false]) := by
    intro ty
    have h1 : n - (i + (n - j)) = 1 := by omega
    rw [h1]
    exact run_clear_many W1 _ _ ty _ Try.underlying46 dlGrams_zero g _ 1 _ (by omega) [.int .i64 0, .int .i64 0, .int .i64 0, .slice none 0 0, .bool false] dlGrams_cells (by simp [Value.oneCell']) (fun t ht => by
      rw [O1.cellAt _ (by simp at ht; omega), List.getElem?_eq_getElem (by rw [O1.1]; simp at ht; omega)]; rfl) (fun t _ => O1.frozenAt _)
  have R2 := owns_setCells (g := g) [.int .i64 0, .int .i64 0, .int .i64 0, .slice none 0 0, .bool false] ((n - 1) * 5) W1 _ O1 (by simp; omega)
  have R3 := owns_fewer R2.1 (show n - 1 ≤ n by omega)
  rw [hnews, hj, ow_del xs [.int .i64 0, .int .i64 0, .int .i64 0, .slice none 0 0, .bool false] n i 5 hl hi rfl] at R3
  have FIN := Lib.hid R3
  have GR := Lib.hid (show w.grownBy (W1.setCells g ((n - 1) * 5) [.int .i64 0, .int .i64 0, .int .i64 0, .slice none 0 0, .bool false]) (some g) from ⟨R2.2.os.trans G1.os, R2.2.tape.trans G1.tape, R2.2.output.trans G1.output, Nat.le_trans G1.size R2.2.size, fun k hk hne => (R2.2.block k (Nat.lt_of_lt_of_le hk G1.size) hne).trans (G1.block k hk hne)⟩)
  have hW : Hid (W1 = w.drew.setCells g (0 + i * 5) news) := by rw [Nat.zero_add]; exact hW1
  have HJ1 := Lib.hid hj1; have HJ := Lib.hid hj
  have hic : i ≤ cap := by omega
  have hjc : j ≤ cap := by omega
  have hlt : i < j := by omega
  have hjn : j ≤ n := by omega
  clear hW1 R2 R3 O1 G1 hnews hlen h hl hj1 hj hone
  go_enter Try.func34, Try.ntmps34
  go_wp2_with fail
  go_region_law (refine step_append_room rfl (.tmp 22) (.tmp 25) 46 rfl 42 i0 5 Try.underlying46 hi0 hz1 g 0 i cap (by simp [Act.eval, Act.put]) A (n - j) (cap - j) news (by simp [Act.eval, Act.put]) s1.out hsrc.out s2.out (by omega) s3.out ?_; rw [← hW.out])
  go_wp2
  go_ret
  rw [HJ1.out]
  exact ⟨rfl, FIN.out, GR.out⟩
end Go.Proofs.Ytecdigcadmokfaa
/- net: Deliver -/
namespace Go.Proofs.Ytecdigcadmokfaa
open Go.RowKit
set_option linter.unusedVariables false
set_option maxRecDepth 20000
theorem MidN.dropped {w w1 : World} {b : Nat} {most nx : Int} {g c m : Nat} {G L : List GM} {S : Nat → Prop} (h : MidN w b most nx (some ⟨g, 0, none⟩) c G S) (hL : ∀ x ∈ L, x ∈ G) (hm : m = L.length)
    (own : w1.ownsRow 0 42 5 (.slice (some ⟨g, 0, none⟩) m c) m (gmV L)) (hg : w.grownBy w1 (some g)) :
    NAt (w1.setCell ⟨b, 2, none⟩ (.slice (some ⟨g, 0, none⟩) m c)) b most nx L S ∧ Turn S w (w1.setCell ⟨b, 2, none⟩ (.slice (some ⟨g, 0, none⟩) m c)) ∧ w1.cell? ⟨b, 2, none⟩ = some (.slice (some ⟨g, 0, none⟩) G.length c) ∧ w1.frozen? ⟨b, 2, none⟩ = false ∧
      ∀ x ∈ G, HoldsB (w1.setCell ⟨b, 2, none⟩ (.slice (some ⟨g, 0, none⟩) m c)) x.fa x.fn x.bs := by
  obtain ⟨h1, h2, h3, h4, h5, h6, h7, h8, h9⟩ := h
  subst hm
  obtain ⟨z1, z2⟩ := h8 g rfl
  have hb := h9 b h7
  have bb : w1.heap[b]? = w.heap[b]? := hg.block b hb (fun e => z2 (by injection e with e; exact e.symm))
  have cb : ∀ i, w1.cell? ⟨b, i, none⟩ = w.cell? ⟨b, i, none⟩ := fun i => World.cell?_of_block (w := w) bb
  have tt : Turn S w w1 := ⟨hg.os, hg.tape, hg.output, hg.size, fun k hk hn => hg.block k hk (fun e => hn (by injection e with e; subst e; exact z1))⟩
  have fr : ∀ x ∈ G, HoldsB (w1.setCell ⟨b, 2, none⟩ (.slice (some ⟨g, 0, none⟩) L.length c)) x.fa x.fn x.bs := fun x hx => holdsB_blocks (h6 x hx).1 (fun fb fo e => by
    have q := (h6 x hx).2.2 fb fo e
    rw [heap_set_far q.2.1]
    exact hg.block fb (h9 fb q.1) (fun e2 => q.2.2 g rfl (by injection e2)))
  refine ⟨⟨some ⟨g, 0, none⟩, c, ?_, ?_, cset_at ((cb 2).trans h3), fun i => ?_, ?_, fun x hx => ⟨fr x (hL x hx), (h6 x (hL x hx)).2⟩, h7, h8, fun k hk => ?_⟩, tt.trans (Turn.setCell h7), (cb 2).trans h3, ?_, fr⟩
  · rw [cset_ne (by omega), cb]; exact h1
  · rw [cset_ne (by omega), cb]; exact h2
  · rw [fset_any, World.frozen?_of_block (w := w) bb]; exact h4 i
  · refine owns_block0 own (fun g' hg' => ?_)
    injection hg' with e; injection e with e; subst e
    exact heap_set_far z2
  · have := hg.size
    rw [show (w1.setCell ⟨b, 2, none⟩ (.slice (some ⟨g, 0, none⟩) L.length c)).heap.size = w1.heap.size by simp [World.setCell]]
    exact Nat.lt_of_lt_of_le (h9 k hk) this
  · rw [World.frozen?_of_block (w := w) bb]; exact h4 2
theorem nDeliver_none (i : Int) (w : World) : Calls Try.prog 17 #[.pointer none, .int .i64 i] w fun e w' => e = .returned (.tuple #[.agg #[.int .i64 0, .int .i64 0, .int .i64 0, .slice none 0 0, .bool false], .bool false]) ∧ Below w.heap.size w w' := by
  go_enter Try.func17, Try.ntmps17
  go_wp2_with fail
  refine (nHas_none i _).mono ?_
  rintro e w' ⟨rfl, rfl⟩
  go_wp2_with fail
  exact bodyPost_ret (v := .tuple #[.agg #[.int .i64 0, .int .i64 0, .int .i64 0, .slice none 0 0, .bool false], .bool false]) (by simp [results, go_sem]) rfl ⟨rfl, below_one _ _⟩
theorem nDeliver_out (i : Int) (b : Nat) {most nx : Int} {G : List GM} {S : Nat → Prop} (w : World) (h : NAt w b most nx G S) (hi : ¬ (0 ≤ i ∧ i < (G.length : Int))) : Calls Try.prog 17 #[.pointer (some ⟨b, 0, none⟩), .int .i64 i] w fun e w' => e = .returned (.tuple #[.agg #[.int .i64 0, .int .i64 0, .int .i64 0, .slice none 0 0, .bool false], .bool false]) ∧ Below w.heap.size w w' := by
  have CH := Lib.hid (nHas_any i false b _ (h.below (below_one w (.cells #[.int .i64 0, .int .i64 0, .int .i64 0, .slice none 0 0, .bool false] 42))) (decide_eq_false hi))
  clear h hi
  go_enter Try.func17, Try.ntmps17
  go_wp2_with fail
  refine CH.out.mono ?_
  rintro e w' ⟨rfl, rfl⟩
  go_wp2_with fail
  exact bodyPost_ret (v := .tuple #[.agg #[.int .i64 0, .int .i64 0, .int .i64 0, .slice none 0 0, .bool false], .bool false]) (by simp [results, go_sem]) rfl ⟨rfl, below_one _ _⟩
def DeliverP (w : World) (b : Nat) (most nx : Int) (G : List GM) (S : Nat → Prop) (i : Nat) (x : GM) (e : Ending) (w' : World) : Prop :=
  e = .returned (.tuple #[.agg #[.int .i64 x.id, .int .i64 x.frm, .int .i64 x.dst, .slice x.fa x.fn x.fc, .bool x.sp], .bool true]) ∧ NAt w' b most nx (G.take i ++ G.drop (i + 1)) S ∧ Turn S w w' ∧ HoldsB w' x.fa x.fn x.bs
theorem ndel_start (w : World) (x : GM) (e1 e2 : TypeId) (f1 f2 : Nat × Nat) : Below w.heap.size w ((w.alloc (.cells #[.int .i64 0, .int .i64 0, .int .i64 0, .slice none 0 0, .bool false] e1 f1)).alloc (.cells #[.int .i64 x.id, .int .i64 x.frm, .int .i64 x.dst, .slice x.fa x.fn x.fc, .bool x.sp] e2 f2)) ∧ GmIn ((w.alloc (.cells #[.int .i64 0, .int .i64 0, .int .i64 0, .slice none 0 0, .bool false] e1 f1)).alloc (.cells #[.int .i64 x.id, .int .i64 x.frm, .int .i64 x.dst, .slice x.fa x.fn x.fc, .bool x.sp] e2 f2)) w.heap.size gm0 ∧ (∀ i, ((w.alloc (.cells #[.int .i64 0, .int .i64 0, .int .i64 0, .slice none 0 0, .bool false] e1 (0, 0))).alloc (.cells #[.int .i64 x.id, .int .i64 x.frm, .int .i64 x.dst, .slice x.fa x.fn x.fc, .bool x.sp] e2 f2)).frozen? ⟨w.heap.size, i, none⟩ = false) ∧ GmIn ((w.alloc (.cells #[.int .i64 0, .int .i64 0, .int .i64 0, .slice none 0 0, .bool false] e1 f1)).alloc (.cells #[.int .i64 x.id, .int .i64 x.frm, .int .i64 x.dst, .slice x.fa x.fn x.fc, .bool x.sp] e2 f2)) (w.heap.size + 1) x ∧ ((w.alloc (.cells #[.int .i64 0, .int .i64 0, .int .i64 0, .slice none 0 0, .bool false] e1 f1)).alloc (.cells #[.int .i64 x.id, .int .i64 x.frm, .int .i64 x.dst, .slice x.fa x.fn x.fc, .bool x.sp] e2 f2)).heap.size = w.heap.size + 2 :=
  ⟨((Below.refl _ _).alloc (Nat.le_refl _) _).alloc (by simp) _, (gmIn_new w gm0 _ e1 f1 rfl).below (below_one _ _), fun i => ((below_one _ _).frozen (p := ⟨w.heap.size, i, none⟩) (by simp)).trans (frozen_alloc rfl), gmIn_new _ _ _ e2 f2 (by simp), by simp⟩
theorem turn_set {F : Nat → Prop} {w w1 : World} {b o : Nat} {v : Value} (h : Turn F w w1) (hb : F b) : Turn F w (w1.setCell ⟨b, o, none⟩ v) := h.trans (Turn.setCell hb)
theorem gturn_store (w : World) (p : Nat) (x : GM) : Turn (fun k => k = p) w (((((w.setCell ⟨p, 0, none⟩ (.int .i64 x.id)).setCell ⟨p, 1, none⟩ (.int .i64 x.frm)).setCell ⟨p, 2, none⟩ (.int .i64 x.dst)).setCell ⟨p, 3, none⟩ (.slice x.fa x.fn x.fc)).setCell ⟨p, 4, none⟩ (.bool x.sp)) :=
  turn_set (turn_set (turn_set (turn_set (turn_set (Turn.refl _ _) rfl) rfl) rfl) rfl) rfl
set_option maxHeartbeats 3200000 in
set_option maxRecDepth 100000 in
theorem nDeliver_in (i : Nat) (x : GM) (b : Nat) {most nx : Int} {G : List GM} {S : Nat → Prop} (w : World) (h : NAt w b most nx G S) (hi : i < G.length) (hl : G.length ≤ 64) (hx : G.getD i gm0 = x) :
    Calls Try.prog 17 #[.pointer (some ⟨b, 0, none⟩), .int .i64 i] w (DeliverP w b most nx G S i x) := by
  have CH := Lib.hid (nHas_any i true b _ (h.below (below_one w (.cells #[.int .i64 0, .int .i64 0, .int .i64 0, .slice none 0 0, .bool false] 42))) (decide_eq_true ⟨by omega, by omega⟩))
  have H := Lib.hid h
  have START := Lib.hid (ndel_start w x 42 42 (0, 0) (0, 0))
  have HX := Lib.hid (show x ∈ G from by rw [← hx, List.getD_eq_getElem?_getD, List.getElem?_eq_getElem hi]; simp)
  obtain ⟨n, hn⟩ : ∃ n, G.length = n := ⟨_, rfl⟩
  have HN := Lib.hid hn
  obtain ⟨a, c, M⟩ := (h.below (below_one w (.cells #[.int .i64 0, .int .i64 0, .int .i64 0, .slice none 0 0, .bool false] 42))).mid
  have hown := M.2.2.2.2.1
  rw [hn] at hown hi hl
  obtain ⟨g, rfl⟩ : ∃ g, a = some ⟨g, 0, none⟩ := by
    obtain ⟨g, cap', hv⟩ := Joins.ownsRow_form hown (by omega)
    simp only [Value.slice.injEq] at hv
    exact ⟨g, hv.1⟩
  have k2 := M.2.2.1
  rw [hn] at k2
  obtain ⟨v0, v1, v2, v3, v4⟩ := gmV_at G i (by omega)
  rw [hx] at v0 v1 v2 v3 v4
  have x0 := (hown.cellAt (i * 5) (by omega)).trans v0
  have x1 := (hown.cellAt (i * 5 + 1) (by omega)).trans v1
  have x2 := (hown.cellAt (i * 5 + 2) (by omega)).trans v2
  have x3 := (hown.cellAt (i * 5 + 3) (by omega)).trans v3
  have x4 := (hown.cellAt (i * 5 + 4) (by omega)).trans v4
  have y1 : (0 : Int) ≤ (i : Int) := by omega
  have y2 : (i : Int) < (n : Int) := by omega
  have M2 := Lib.hid (show MidN _ b most nx (some ⟨g, 0, none⟩) c G S from (show ∀ w', Below (w.alloc (.cells #[.int .i64 0, .int .i64 0, .int .i64 0, .slice none 0 0, .bool false] 42)).heap.size (w.alloc (.cells #[.int .i64 0, .int .i64 0, .int .i64 0, .slice none 0 0, .bool false] 42)) w' → MidN w' b most nx (some ⟨g, 0, none⟩) c G S from fun w' hb => by
    obtain ⟨h1, h2, h3, h4, h5, h6, h7, h8, h9⟩ := M
    have lb := h9 b h7
    have N' := NAt.below (MidN.nat ⟨h1, h2, h3, h4, h5, h6, h7, h8, h9⟩) hb
    obtain ⟨a', c', N'⟩ := N'
    have e := ((hb.cell (p := ⟨b, 2, none⟩) lb).trans h3).symm.trans N'.2.2.1
    injection e with e; injection e with e1 e2 e3
    subst e1 e3
    exact N') _ (below_one _ (.cells #[.int .i64 x.id, .int .i64 x.frm, .int .i64 x.dst, .slice x.fa x.fn x.fc, .bool x.sp] 42)))
  have hw : IntKind.i64.wrap ((i : Int) + 1) = (i : Int) + 1 := IntWalk.i64_in _ (by omega)
  have lbS := Lib.hid (show ∀ k, S k → k < w.heap.size from h.lt)
  clear h hx hn M v0 v1 v2 v3 v4
  go_enter Try.func17, Try.ntmps17
  go_wp2_with fail
  refine CH.out.mono ?_
  rintro e w' ⟨rfl, rfl⟩
  clear CH
  go_upto_region 4 with fail
  obtain ⟨hb2, hA2, hf2, hX2, hs2⟩ := START.out
  clear START x0 x1 x2 x3 x4 k2 hown
  generalize (w.alloc (.cells #[.int .i64 0, .int .i64 0, .int .i64 0, .slice none 0 0, .bool false] 42)).alloc (.cells #[.int .i64 x.id, .int .i64 x.frm, .int .i64 x.dst, .slice x.fa x.fn x.fc, .bool x.sp] 42) = w2 at *
  obtain ⟨p, hp⟩ : ∃ p, w.heap.size = p := ⟨_, rfl⟩
  have HPS := Lib.hid hp
  rw [hp] at hA2 hf2 hX2 hs2
  rw [hp]
  have B2 := Lib.hid hb2; have A2 := Lib.hid hA2; have X2 := Lib.hid hX2; have FF2 := Lib.hid hf2; have SZ2 := Lib.hid hs2
  have k2 := M2.out.2.2.1
  rw [HN.out] at k2
  have O2 := Lib.hid (show w2.ownsRow 0 42 5 (.slice (some ⟨g, 0, none⟩) n c) n (gmV G) from by have := M2.out.2.2.2.2.1; rwa [HN.out] at this)
  have CD := Lib.hid (show Calls Try.prog 34 #[.slice (some ⟨g, 0, none⟩) n c, .int .i64 i, .int .i64 ((i : Int) + 1)] w2 _ from deleteGrams_any 0 g c n i (i + 1) (gmV G) w2 O2.out hi rfl (gmV_one _))
  clear hb2 hA2 hX2 hf2 hp hs2
  go_wp2_with fail
  refine CD.out.mono ?_
  rintro e w4 ⟨rfl, ho, hg4⟩
  rw [gmV_take, gmV_drop, ← gmV_app] at ho
  have hll : n - 1 = (G.take i ++ G.drop (i + 1)).length := by rw [List.length_append, List.length_take, List.length_drop, HN.out]; omega
  have R4 := MidN.dropped (m := n - 1) M2.out (L := G.take i ++ G.drop (i + 1)) (fun y hy => by
    rcases List.mem_append.1 hy with h | h
    · exact List.mem_of_mem_take h
    · exact List.mem_of_mem_drop h) hll ho hg4
  obtain ⟨R1, R2, R3, R4', R5⟩ := R4
  rw [HN.out] at R3
  have N5 := Lib.hid R1; have T5 := Lib.hid R2; have FB5 := Lib.hid (R5 x HX.out)
  clear ho CD R1 R2 R5 hll
  go_upto_region 5 with fail
  clear R3 R4' k2
  generalize w4.setCell ⟨b, 2, none⟩ (.slice (some ⟨g, 0, none⟩) (n - 1) c) = w5 at *
  have hpS : ∀ k, p ≤ k → ¬ S k := fun k hk h => by have := lbS.out k h; have h2 := HPS.out; omega
  have A5 := A2.out.of (w' := w5) fun j => T5.out.cell (lt_of_cell A2.out.1) (hpS p (Nat.le_refl _))
  have F5 : ∀ j, w5.frozen? ⟨p, j, none⟩ = false := fun j => (T5.out.frozen (o := j) (lt_of_cell A2.out.1) (hpS p (Nat.le_refl _))).trans (FF2.out j)
  have X5 := X2.out.of (w' := w5) fun j => T5.out.cell (lt_of_cell X2.out.1) (hpS (p + 1) (by omega))
  unfold GmIn at A5 X5
  obtain ⟨y0, y1', y2', y3, y4⟩ := A5
  obtain ⟨z0, z1, z2, z3, z4⟩ := X5
  clear hpS
  go_wp2_with fail
  have TS := gturn_store w5 p x
  refine bodyPost_ret (v := .tuple #[.agg #[.int .i64 x.id, .int .i64 x.frm, .int .i64 x.dst, .slice x.fa x.fn x.fc, .bool x.sp], .bool true]) (by simp [results, go_sem, y0, y1', y2', y3, y4]) rfl ⟨rfl, N5.out.turn TS (fun k hk e => by subst e; have := lbS.out _ hk; have h2 := HPS.out; omega), ?_, ?_⟩
  · exact ((Turn.of_below B2.out).trans T5.out).trans' TS (fun k hk => Or.inr (by rw [hk, HPS.out]; exact Nat.le_refl _))
  · obtain ⟨-, -, -, -, -, fr, -, -, ls⟩ := M2.out
    refine holdsB_blocks FB5.out (fun fb fo e => ?_)
    have q := ((fr x HX.out).2.2 fb fo e).1
    exact TS.block fb (Nat.lt_of_lt_of_le (ls fb q) T5.out.size) (fun e2 => by subst e2; have := lbS.out _ q; have h2 := HPS.out; omega)
end Go.Proofs.Ytecdigcadmokfaa
/- two slices of one kind of numbers held against each other -/
namespace Go.Proofs.Ytecdigcadmokfaa
open Go.RowKit
set_option linter.unusedVariables false
set_option maxRecDepth 20000

set_option maxHeartbeats 400000 in
theorem sameBytes_any (a1 a2 : Option Addr) (n1 c1 n2 c2 : Nat) (z1 z2 : List Int) (w : World) (h1 : HoldsI .u8 w a1 n1 z1) (h2 : HoldsI .u8 w a2 n2 z2) (hl1 : n1 ≤ 4611686018427387904) (hl2 : n2 ≤ 4611686018427387904) :
    Calls Try.prog 29 #[.slice a1 n1 c1, .slice a2 n2 c2] w fun e w' => e = .returned (.bool (decide (z1 = z2))) ∧ ∃ m, w' = w.drewN m := by
  obtain ⟨g1, g1'⟩ := h1
  obtain ⟨g2, g2'⟩ := h2
  by_cases hn : n1 = n2
  · subst hn
    rcases Nat.eq_zero_or_pos n1 with h0 | h0
    · subst h0
      clear g1' g2'
      obtain rfl := List.eq_nil_of_length_eq_zero g1
      obtain rfl := List.eq_nil_of_length_eq_zero g2
      go_enter Try.func29, Try.ntmps29
      go_wp2
      go_loop [5] (fun i => i = .int .i64 0) (fun _ => 0)
      case atStart => rfl
      case round =>
        obtain rfl := hrel
        go_wp2
        go_ret
        exact ⟨rfl, 0, rfl⟩
    · obtain ⟨b1, o1, rfl, k1⟩ := g1' h0
      obtain ⟨b2, o2, rfl, k2⟩ := g2' h0
      clear g1' g2'
      have G1 := Lib.hid g1; have G2 := Lib.hid g2; have K1 := Lib.hid k1; have K2 := Lib.hid k2
      clear g1 g2 k1 k2
      go_enter Try.func29, Try.ntmps29
      go_wp2
      go_loopw [5] (fun i wr => ∃ k m : Nat, k ≤ n1 ∧ i = .int .i64 k ∧ z1.take k = z2.take k ∧ wr = w.drewN m) (fun i _ => n1 - (intOf i).toNat)
      case atStart => exact ⟨0, 0, by omega, rfl, rfl, rfl⟩
      case round =>
        obtain ⟨k, m, hk, rfl, he, rfl⟩ := hrel
        have HE := Lib.hid he
        clear he
        by_cases hlt : k < n1
        · have e1 := K1.out k hlt
          have e2 := K2.out k hlt
          obtain ⟨x, hx⟩ : ∃ x, z1.getD k 0 = x := ⟨_, rfl⟩
          obtain ⟨y, hy⟩ : ∃ y, z2.getD k 0 = y := ⟨_, rfl⟩
          rw [hx] at e1; rw [hy] at e2
          have HX := Lib.hid hx; have HY := Lib.hid hy
          clear hx hy
          by_cases hxy : x = y
          · subst hxy
            go_wp2
            go_quiet (fail)
            go_wp2
            go_roundw
            case rel => exact ⟨k + 1, _, by omega, by go_num, by rw [take_succ_getD z1 0 k (by rw [G1.out]; exact hlt), take_succ_getD z2 0 k (by rw [G2.out]; exact hlt), HE.out, HX.out, HY.out], rfl⟩
            case measure => simp [intOf]; omega
          · have hb : (x != y) = true := by simpa using hxy
            go_wp2
            go_quiet (fail)
            go_wp2
            go_ret
            exact ⟨ret_bool (by symm; rw [decide_eq_false_iff_not]; exact take_ne_of_getD 0 k (by rw [HX.out, HY.out]; exact hxy)), _, World.drewN_drewN _ _ _⟩
        · have hkn : k = n1 := by omega
          have HK := Lib.hid hkn
          clear hkn
          go_wp2
          go_ret
          exact ⟨ret_bool (by symm; rw [decide_eq_true_iff]; exact take_eq_all (n := k) HE.out (by rw [G1.out, HK.out]) (by rw [G2.out, HK.out])), _, rfl⟩
  · have hb : ((n1 : Int) != (n2 : Int)) = true := by simp; omega
    clear g1' g2'
    have HN := Lib.hid hn; have G1 := Lib.hid g1; have G2 := Lib.hid g2
    clear hn g1 g2
    go_enter Try.func29, Try.ntmps29
    go_wp2
    go_ret
    exact ⟨ret_bool (by symm; rw [decide_eq_false_iff_not]; intro e; exact HN.out (by rw [← G1.out, ← G2.out, e])), 0, rfl⟩
end Go.Proofs.Ytecdigcadmokfaa
/- net: contracts in a call of one's own; awake -/
namespace Go.Proofs.Ytecdigcadmokfaa
open Go.RowKit
set_option linter.unusedVariables false
set_option maxRecDepth 20000
/-- a net that the call made -/
def NFine (w0 w : World) (b : Nat) (most nx : Int) (G : List GM) : Prop := ∃ S, NAt w b most nx G S ∧ (∀ k, S k → w0.heap.size ≤ k) ∧ Below w0.heap.size w0 w
theorem NFine.bel {w0 w : World} {b : Nat} {most nx : Int} {G : List GM} (h : NFine w0 w b most nx G) : Below w0.heap.size w0 w := by obtain ⟨S, _, _, h⟩ := h; exact h
theorem NFine.more {w0 w w' : World} {b : Nat} {most nx : Int} {G : List GM} (h : NFine w0 w b most nx G) (hb : Below w.heap.size w w') : NFine w0 w' b most nx G := by
  obtain ⟨S, q, s, t⟩ := h
  exact ⟨S, q.below hb, s, t.trans (hb.mono t.size)⟩
theorem newN_fine (most : Int) (w : World) (h : 1 ≤ most ∧ most ≤ 64) :
    Calls Try.prog 9 #[.int .i64 most] w fun e w' => ∃ b, e = .returned (.tuple #[.pointer (some ⟨b, 0, none⟩), .int .i64 0]) ∧ NFine w w' b most 0 [] :=
  (nNew_any most w h).mono fun e w' ⟨b, S, e1, h1, h2, h3⟩ => ⟨b, e1, S, h1, h2, h3⟩
theorem send_fine (f t nx' : Int) (ia : Option Addr) (n ic : Nat) (bs : List Nat) {w0 w : World} {b : Nat} {most nx : Int} {G : List GM} (w1 : World) (h : NFine w0 w b most nx G) (hb : Below w.heap.size w w1) (hx : 0 ≤ nx ∧ nx ≤ 1000000000) (hnx : nx + 1 = nx') (hf : (G.length : Int) < most) (hm : most ≤ 64)
    (hi : HoldsB w1 ia n bs) (hin : ia = none → n = 0 ∧ ic = 0) (hn : n ≤ 1000000) (hia : ∀ fb fo, ia = some ⟨fb, fo, none⟩ → fb < w0.heap.size ∨ w.heap.size ≤ fb) :
    Calls Try.prog 13 #[.pointer (some ⟨b, 0, none⟩), .int .i64 f, .int .i64 t, .slice ia n ic] w1 fun e w' => e = .returned (.tuple #[.int .i64 nx, .bool true]) ∧ ∃ fa fc, NFine w0 w' b most nx' (G ++ [⟨nx, f, t, fa, bs.length, fc, false, bs⟩]) := by
  obtain ⟨S, q, s, bel⟩ := h
  subst hnx
  refine (nSend_in f t ia n ic bs b w1 (q.below hb) hx hf hm hi hin hn (fun fb fo e hS => ?_)).mono fun e w' ⟨e1, x, S', x1, x2, x3, x4, x5, x6, q', s', t'⟩ => ⟨e1, x.fa, x.fc, S', ?_, fun k hk => ?_, ?_⟩
  · have h1 := s fb hS; have h2 := q.lt fb hS
    rcases hia fb fo e with h | h <;> omega
  · obtain ⟨a1, a2, a3, a4, a5, a6, a7, a8⟩ := x
    simp only at x1 x2 x3 x4 x5 x6
    subst x1 x2 x3 x4 x5 x6
    exact q'
  · rcases s' k hk with h | h
    · exact s k h
    · have h3 := hb.size; have h4 := bel.size; omega
  · exact (bel.trans (hb.mono bel.size)).trans (t'.below s (by have := bel.size; have := hb.size; omega))
theorem full_fine (f t nx' : Int) (v : Value) {w0 w1 : World} {b : Nat} {most nx : Int} {G : List GM} (h : NFine w0 w1 b most nx G) (hx : 0 ≤ nx ∧ nx ≤ 1000000000) (hnx : nx + 1 = nx') (hf : most ≤ (G.length : Int)) :
    Calls Try.prog 13 #[.pointer (some ⟨b, 0, none⟩), .int .i64 f, .int .i64 t, v] w1 fun e w' => e = .returned (.tuple #[.int .i64 nx, .bool false]) ∧ NFine w0 w' b most nx' G := by
  obtain ⟨S, q, s, k⟩ := h
  subst hnx
  exact (nSend_full f t v b w1 q hx hf).mono fun e w' ⟨e1, q', t'⟩ => ⟨e1, S, q', s, k.trans (t'.below s k.size)⟩
theorem deliver_fine (i : Nat) (x : GM) {w0 w1 : World} {b : Nat} {most nx : Int} {G : List GM} (h : NFine w0 w1 b most nx G) (hi : i < G.length) (hl : G.length ≤ 64) (hx : G.getD i gm0 = x) :
    Calls Try.prog 17 #[.pointer (some ⟨b, 0, none⟩), .int .i64 i] w1 fun e w' => e = .returned (.tuple #[.agg #[.int .i64 x.id, .int .i64 x.frm, .int .i64 x.dst, .slice x.fa x.fn x.fc, .bool x.sp], .bool true]) ∧ NFine w0 w' b most nx (G.take i ++ G.drop (i + 1)) ∧ HoldsB w' x.fa x.fn x.bs := by
  obtain ⟨S, q, s, k⟩ := h
  exact (nDeliver_in i x b w1 q hi hl hx).mono fun e w' ⟨e1, q', t', hb⟩ => ⟨e1, ⟨S, q', s, k.trans (t'.below s k.size)⟩, hb⟩
theorem deliver0_fine {w0 w1 : World} {b : Nat} {most nx : Int} {x : GM} {G : List GM} (h : NFine w0 w1 b most nx (x :: G)) (hl : G.length < 64) :
    Calls Try.prog 17 #[.pointer (some ⟨b, 0, none⟩), .int .i64 0] w1 fun e w' => e = .returned (.tuple #[.agg #[.int .i64 x.id, .int .i64 x.frm, .int .i64 x.dst, .slice x.fa x.fn x.fc, .bool x.sp], .bool true]) ∧ NFine w0 w' b most nx G ∧ HoldsB w' x.fa x.fn x.bs :=
  (deliver_fine 0 x h (by simp) (by simp; omega) rfl).mono fun e w' h => h
theorem deliverE_fine (i : Int) {w0 w1 : World} {b : Nat} {most nx : Int} {G : List GM} (h : NFine w0 w1 b most nx G) (hi : ¬ (0 ≤ i ∧ i < (G.length : Int))) :
    Calls Try.prog 17 #[.pointer (some ⟨b, 0, none⟩), .int .i64 i] w1 fun e w' => e = .returned (.tuple #[.agg #[.int .i64 0, .int .i64 0, .int .i64 0, .slice none 0 0, .bool false], .bool false]) ∧ Below w1.heap.size w1 w' := by
  obtain ⟨S, q, s, k⟩ := h
  exact nDeliver_out i b w1 q hi
theorem lenN_fine {w0 w1 : World} {b : Nat} {most nx : Int} {G : List GM} (n : Nat) (h : NFine w0 w1 b most nx G) (hn : G.length = n) :
    Calls Try.prog 26 #[.pointer (some ⟨b, 0, none⟩)] w1 fun e w' => e = .returned (.int .i64 n) ∧ w1 = w' := by
  obtain ⟨S, q, s, k⟩ := h
  subst hn
  exact nLen_any b w1 q
theorem sameB_yes (a1 a2 : Option Addr) (n1 c1 n2 c2 : Nat) (bs : List Nat) (w : World) (h1 : HoldsB w a1 n1 bs) (h2 : HoldsB w a2 n2 bs) (hl : bs.length ≤ 1000000) :
    Calls Try.prog 29 #[.slice a1 n1 c1, .slice a2 n2 c2] w fun e w' => e = .returned (.bool true) ∧ Below w.heap.size w w' :=
  (sameBytes_any a1 a2 n1 c1 n2 c2 _ _ w h1.1 h2.1 (by rw [← h1.len]; omega) (by rw [← h2.len]; omega)).mono fun e w' ⟨e1, m, hm⟩ => ⟨by rw [e1]; simp, by rw [hm]; exact below_drewN _ _⟩
theorem one_byte (w : World) (k : Nat) (e : TypeId) (fr : Nat × Nat) (hk : k < 256) : HoldsB (w.alloc (.cells #[.int .u8 (k : Int)] e fr)) (some ⟨w.heap.size, 0, none⟩) 1 [k] := holdsB_lit w [k] e fr (by simpa using hk)
set_option maxHeartbeats 3200000 in
set_option maxRecDepth 100000 in
theorem awakeN_any (w : World) : Calls Try.prog 8 #[] w fun e w' => e = .returned (.bool true) ∧ Below w.heap.size w w' := by
  go_enter Try.func8, Try.ntmps8
  go_wp2_with fail
  refine (newN_fine 2 _ (by decide)).mono ?_
  rintro e w1 ⟨b, rfl, h1⟩
  have F1 := Lib.hid h1
  have H1 := Lib.hid (one_byte w1 5 5 (0, 0) (by decide))
  clear h1
  go_wp2_with fail
  refine (send_fine 0 1 1 _ 1 1 [5] _ F1.out (below_one w1 _) (by decide) (by decide) (by decide) (by decide) H1.out (some_none _) (by decide) (fun fb fo e => Or.inr (by injection e with e; injection e with e; omega))).mono ?_
  rintro e w2 ⟨rfl, fa, fc, h2⟩
  have F2 := Lib.hid h2
  clear h2
  go_wp2_with fail
  refine (send_fine 1 0 2 none 0 0 [] _ F2.out (Below.refl _ _) (by decide) (by decide) (by simp) (by decide) (holdsB_nil _ _) (fun _ => ⟨rfl, rfl⟩) (by decide) (fun fb fo e => by cases e)).mono ?_
  rintro e w3 ⟨rfl, ga, gc, h3⟩
  have F3 := Lib.hid h3
  clear h3
  go_wp2_with fail
  refine (full_fine 0 1 3 _ F3.out (by decide) (by decide) (by simp)).mono ?_
  rintro e w4 ⟨rfl, h4⟩
  have F4 := Lib.hid h4
  clear h4
  go_wp2_with fail
  refine (deliver0_fine F4.out (by simp)).mono ?_
  rintro e w5 ⟨rfl, h5, hB5⟩
  have F5 := Lib.hid (h5.more (below_one w5 (.cells #[.int .i64 0, .int .i64 0, .int .i64 1, .slice fa 1 fc, .bool false] 42)))
  have A5 := Lib.hid (gmIn_new w5 ⟨0, 0, 1, fa, 1, fc, false, [5]⟩ _ 42 (0, 0) rfl)
  have B5 := Lib.hid (hB5.below (below_one w5 (.cells #[.int .i64 0, .int .i64 0, .int .i64 1, .slice fa 1 fc, .bool false] 42)))
  clear h5 hB5
  go_upto_region 8 with fail
  generalize w5.alloc (.cells #[.int .i64 0, .int .i64 0, .int .i64 1, .slice fa 1 fc, .bool false] 42) = w6 at *
  generalize w5.heap.size = p at *
  have hA := A5.out
  unfold GmIn at hA
  obtain ⟨x0, x1, x2, x3, x4⟩ := hA
  have H6 := Lib.hid (one_byte w6 5 5 (0, 0) (by decide))
  have B6 := Lib.hid (B5.out.below (below_one w6 (.cells #[.int .u8 5] 5)))
  have F6 := Lib.hid (F5.out.more (below_one w6 (.cells #[.int .u8 5] 5)))
  have lp := lt_of_cell x0
  go_wp2_with fail
  refine (sameB_yes _ _ _ _ _ _ [5] _ B6.out H6.out (by decide)).mono ?_
  rintro e w7 ⟨rfl, hb7⟩
  have F7 := Lib.hid (F6.out.more hb7)
  clear hb7
  go_wp2_with fail
  refine (lenN_fine 1 F7.out rfl).mono ?_
  rintro e w' ⟨rfl, rfl⟩
  go_wp2_with fail
  go_ret
  exact ⟨rfl, F7.out.bel⟩
end Go.Proofs.Ytecdigcadmokfaa
/- a number, from 0 to below n -/
namespace Go.Proofs.Ytecdigcadmokfaa
open Go.RowKit
set_option linter.unusedVariables false
set_option maxRecDepth 20000
def lowV (x n : Int) : Int := IntKind.u64.wrap x % n
theorem low_bd (x n : Int) (h : 0 < n) : 0 ≤ lowV x n ∧ lowV x n < n := ⟨Int.emod_nonneg _ (by omega), Int.emod_lt_of_pos _ h⟩
theorem u64_in (n : Int) (h : 0 ≤ n) (h2 : n < 18446744073709551616) : IntKind.u64.wrap n = n := by
  simp only [IntKind.wrap, IntKind.signed, IntKind.bits]; simp; omega
theorem u64_bdL (d : Int) : 0 ≤ IntKind.u64.wrap d ∧ IntKind.u64.wrap d < 18446744073709551616 := by
  simp only [IntKind.wrap, IntKind.signed, IntKind.bits]; simp; omega
theorem low_any (x n : Int) (h : 1 ≤ n) (h2 : n < 4611686018427387904) (w : World) :
    Calls Try.prog 28 #[.int .i64 x, .int .i64 n] w fun e w' => e = .returned (.int .i64 (lowV x n)) ∧ w = w' := by
  have hb := low_bd x n (by omega)
  have hw := u64_in n (by omega) (by omega)
  have hx := u64_bdL x
  go_enter Try.func28, Try.ntmps28
  go_wp2
  go_ret
  exact ⟨ret_int (by unfold lowV at *; rw [IntWalk.wrap64_in _ ⟨by omega, by omega⟩]), rfl⟩
end Go.Proofs.Ytecdigcadmokfaa
/- An argument that is a slice of integers, opened; its bytes. Of whatever program. -/
namespace Go.Proofs.Ytecdigcadmokfaa
open Go.ChangeShapes Go.WideShapes Go.ChangeAt Go.RowKit
open Go.ChangeMaps (open_string shut_string)
set_option linter.unusedVariables false
set_option maxRecDepth 20000

theorem open_ints_arg {H : Type} {enc : TypeId × Value → H} {P : Program} {W : World} {base : Nat} {t e : TypeId} {k : IntKind} {v : Value} {d : DataW H} {p : List MemPlace}
    (ht : P.underlying t = some (.slice e)) (he : P.underlying e = some (.int k)) (hc : P.cellsOf e = 1)
    (o : Value.okWide P W .any base t v) (h : DataW.Trod enc P W 0 (fun _ => true) true t v d p) :
    ∃ a n cap zs, v = .slice a n cap ∧ HoldsI k W a n zs ∧ (a = none → n = 0 ∧ cap = 0) ∧ n ≤ cap ∧ cap ≤ maxLen ∧ ∀ z ∈ zs, (Lit.int k z).wf = true := by
  obtain ⟨a, len, cap, rfl⟩ := okWide_slice ht o
  obtain ⟨fuel, hf⟩ := h
  rcases open_ints ht he hc hf with ⟨hcs, _⟩ | ⟨x, l, c, zs, hcs, _, hl, hm, hz, _, hcell, hwz⟩
  · simp [Value.cells] at hcs
    obtain ⟨rfl, rfl, rfl⟩ := hcs
    exact ⟨none, 0, 0, [], rfl, HoldsI.nil _ _ _, fun _ => ⟨rfl, rfl⟩, Nat.le_refl _, by unfold maxLen; omega, by simp⟩
  · simp [Value.cells] at hcs
    obtain ⟨rfl, rfl, rfl⟩ := hcs
    have hzc : zs.length = cap := by simpa using hz
    refine ⟨some x, len, cap, zs.take len, rfl, ⟨by simp; omega, fun h0 => ?_⟩, (fun h => by cases h), hl, hm, fun z hz => hwz z (List.mem_of_mem_take hz)⟩
    obtain ⟨b, off, rfl, hcc⟩ := ints_at hcell (by omega)
    refine ⟨b, off, rfl, fun i hi => ?_⟩
    rw [hcc i (by omega)]
    congr 2
    simp only [List.getD_eq_getElem?_getD, List.getElem?_take]
    rw [if_pos hi]
theorem u8_of_wf {z : Int} (h : (Lit.int .u8 z).wf = true) : 0 ≤ z ∧ z < 256 := by
  simp [Lit.wf, IntKind.min, IntKind.max, IntKind.signed, IntKind.bits] at h; omega
theorem i64_of_wf {z : Int} (h : (Lit.int .i64 z).wf = true) : -9223372036854775808 ≤ z ∧ z ≤ 9223372036854775807 := by
  simp [Lit.wf, IntKind.min, IntKind.max, IntKind.signed, IntKind.bits] at h; omega
theorem i32_of_wf {z : Int} (h : (Lit.int .i32 z).wf = true) : -2147483648 ≤ z ∧ z ≤ 2147483647 := by
  simp [Lit.wf, IntKind.min, IntKind.max, IntKind.signed, IntKind.bits] at h; omega
end Go.Proofs.Ytecdigcadmokfaa
/- net: SameGrams; calls of no net -/
namespace Go.Proofs.Ytecdigcadmokfaa
open Go.RowKit
set_option linter.unusedVariables false
set_option maxRecDepth 20000
/-- what lies there is L, with its frames -/
def HoldsG (w : World) (a : Option Addr) (n : Nat) (L : List GM) : Prop := L.length = n ∧ (0 < n → ∃ b o, a = some ⟨b, o, none⟩ ∧ ∀ i, i < n → w.cell? ⟨b, o + i * 5, none⟩ = some (.int .i64 (L.getD i gm0).id) ∧ w.cell? ⟨b, o + i * 5 + 1, none⟩ = some (.int .i64 (L.getD i gm0).frm) ∧ w.cell? ⟨b, o + i * 5 + 2, none⟩ = some (.int .i64 (L.getD i gm0).dst) ∧ w.cell? ⟨b, o + i * 5 + 3, none⟩ = some (.slice (L.getD i gm0).fa (L.getD i gm0).fn (L.getD i gm0).fc) ∧ w.cell? ⟨b, o + i * 5 + 4, none⟩ = some (.bool (L.getD i gm0).sp)) ∧ ∀ i, i < n → HoldsB w (L.getD i gm0).fa (L.getD i gm0).fn (L.getD i gm0).bs
theorem HoldsG.below {w w' : World} {a : Option Addr} {n : Nat} {L : List GM} (h : HoldsG w a n L) (hb : Below w.heap.size w w') : HoldsG w' a n L := by
  refine ⟨h.1, fun h0 => ?_, fun i hi => (h.2.2 i hi).below hb⟩
  obtain ⟨b, o, ha, hc⟩ := h.2.1 h0
  have hlt := lt_of_cell (hc 0 h0).1
  refine ⟨b, o, ha, fun i hi => ?_⟩
  rw [hb.cell (p := ⟨b, o + i * 5, none⟩) hlt, hb.cell (p := ⟨b, o + i * 5 + 1, none⟩) hlt, hb.cell (p := ⟨b, o + i * 5 + 2, none⟩) hlt, hb.cell (p := ⟨b, o + i * 5 + 3, none⟩) hlt, hb.cell (p := ⟨b, o + i * 5 + 4, none⟩) hlt]
  exact hc i hi
def Alike (x y : GM) : Prop := x.id = y.id ∧ x.frm = y.frm ∧ x.dst = y.dst ∧ x.sp = y.sp ∧ x.bs = y.bs
theorem Alike.refl (x : GM) : Alike x x := ⟨rfl, rfl, rfl, rfl, rfl⟩
theorem sameB_quiet (a1 a2 : Option Addr) (n1 c1 n2 c2 : Nat) (bs : List Nat) (w : World) (h1 : HoldsB w a1 n1 bs) (h2 : HoldsB w a2 n2 bs) (hl : bs.length ≤ 1000000) :
    Calls Try.prog 29 #[.slice a1 n1 c1, .slice a2 n2 c2] w fun e w' => e = .returned (.bool true) ∧ ∃ m, w' = w.drewN m :=
  (sameBytes_any a1 a2 n1 c1 n2 c2 _ _ w h1.1 h2.1 (by rw [← h1.len]; omega) (by rw [← h2.len]; omega)).mono fun e w' ⟨e1, m, hm⟩ => ⟨by rw [e1]; simp, m, hm⟩
set_option maxHeartbeats 3200000 in
set_option maxRecDepth 100000 in
theorem sameGrams_quiet (a1 a2 : Option Addr) (n c1 c2 : Nat) (L1 L2 : List GM) (w : World) (h1 : HoldsG w a1 n L1) (h2 : HoldsG w a2 n L2) (hl : n ≤ 1000000) (hs : ∀ i, i < n → Alike (L1.getD i gm0) (L2.getD i gm0)) (hbs : ∀ i, i < n → (L2.getD i gm0).bs.length ≤ 1000000) :
    Calls Try.prog 19 #[.slice a1 n c1, .slice a2 n c2] w fun e w' => e = .returned (.bool true) ∧ ∃ m, w' = w.drewN m := by
  have H1 := Lib.hid h1; have H2 := Lib.hid h2; have HS := Lib.hid hs; have HBS := Lib.hid hbs
  have hb : ((n : Int) != (n : Int)) = false := by simp
  clear h1 h2 hs hbs
  go_enter Try.func19, Try.ntmps19
  go_wp2
  go_loopw [5] (fun i wr => ∃ k m : Nat, k ≤ n ∧ i = .int .i64 k ∧ wr = w.drewN m) (fun i _ => n - (intOf i).toNat)
  case atStart => exact ⟨0, 0, by omega, rfl, rfl⟩
  case round =>
    obtain ⟨k, m, hk, rfl, rfl⟩ := hrel
    by_cases hlt : k < n
    · obtain ⟨b1, o1, rfl, k1⟩ := H1.out.2.1 (by omega)
      obtain ⟨b2, o2, rfl, k2⟩ := H2.out.2.1 (by omega)
      obtain ⟨e0, e1, e2, e3, e4⟩ := k1 k hlt
      obtain ⟨g0, g1, g2, g3, g4⟩ := k2 k hlt
      have f1 := H1.out.2.2 k hlt
      have f2 := H2.out.2.2 k hlt
      have hal := HS.out k hlt
      have hbl := HBS.out k hlt
      obtain ⟨x, hx⟩ : ∃ x, L1.getD k gm0 = x := ⟨_, rfl⟩
      obtain ⟨y, hy⟩ : ∃ y, L2.getD k gm0 = y := ⟨_, rfl⟩
      rw [hx] at e0 e1 e2 e3 e4 f1 hal
      rw [hy] at g0 g1 g2 g3 g4 f2 hal hbl
      obtain ⟨x1, x2, x3, x4, x5, x6, x7, x8⟩ := x
      obtain ⟨y1, y2, y3, y4, y5, y6, y7, y8⟩ := y
      obtain ⟨z1, z2, z3, z4, z5⟩ := hal
      simp only at e0 e1 e2 e3 e4 g0 g1 g2 g3 g4 f1 f2 z1 z2 z3 z4 z5 hbl
      subst z1 z2 z3 z4 z5
      have HC := Lib.hid (show ∀ nn, Calls Try.prog 29 #[.slice x4 x5 x6, .slice y4 y5 y6] (w.drewN (m + nn)) fun e w'' => e = .returned (.bool true) ∧ ∃ n, w'' = w.drewN (m + n) from fun nn => by
        have := Calls.quiet_of (w := w.drewN m) (n := nn) (sameB_quiet x4 y4 x5 x6 y5 y6 x8 ((w.drewN m).drewN nn) ((f1.below (below_drewN w m)).below (below_drewN _ nn)) ((f2.below (below_drewN w m)).below (below_drewN _ nn)) hbl)
        simpa only [World.drewN_drewN] using this)
      have q0 : (x1 != x1) = false := by simp
      have q1 : (x2 != x2) = false := by simp
      have q2 : (x3 != x3) = false := by simp
      have q3 : (x7 != x7) = false := by simp
      clear hx hy k1 k2 f1 f2 hbl
      go_wp2
      go_quiet ((go_at_call 29; exact HC.out _))
      go_wp2
      go_roundw
      case rel => exact ⟨k + 1, _, by omega, by go_num, rfl⟩
      case measure => simp [intOf]; omega
    · go_wp2
      go_ret
      exact ⟨rfl, _, rfl⟩
theorem nDrop_none (i : Int) (w : World) : Calls Try.prog 20 #[.pointer none, .int .i64 i] w fun e w' => e = .returned (.tuple #[.int .i64 0, .bool false]) ∧ Below w.heap.size w w' := by
  go_enter Try.func20, Try.ntmps20
  go_wp2_with fail
  refine (nDeliver_none i _).mono ?_
  rintro e w1 ⟨rfl, hb⟩
  have B1 := Lib.hid (hb.trans ((below_one w1 (.cells #[.int .i64 0, .int .i64 0, .int .i64 0, .slice none 0 0, .bool false] 42)).mono hb.size))
  clear hb
  go_wp2_with fail
  exact bodyPost_ret (v := .tuple #[.int .i64 0, .bool false]) (by simp [results, go_sem]) rfl ⟨rfl, B1.out⟩
theorem nDouble_none (i : Int) (w : World) : Calls Try.prog 21 #[.pointer none, .int .i64 i] w fun e w' => e = .returned (.bool false) ∧ w = w' := by
  go_enter Try.func21, Try.ntmps21
  go_wp2_with fail
  refine (nHas_none i _).mono ?_
  rintro e w' ⟨rfl, rfl⟩
  go_wp2_with fail
  go_ret
  exact ⟨rfl, rfl⟩
theorem nSpoil_none (i j x : Int) (w : World) : Calls Try.prog 23 #[.pointer none, .int .i64 i, .int .i64 j, .int .i64 x] w fun e w' => e = .returned (.bool false) ∧ w = w' := by
  go_enter Try.func23, Try.ntmps23
  go_wp2_with fail
  refine (nHas_none i _).mono ?_
  rintro e w' ⟨rfl, rfl⟩
  go_wp2_with fail
  go_ret
  exact ⟨rfl, rfl⟩
theorem nList_none (w : World) : Calls Try.prog 25 #[.pointer none] w fun e w' => e = .returned (.slice none 0 0) ∧ w = w' := by
  go_enter Try.func25, Try.ntmps25
  go_wp2_with fail
  go_ret
  exact ⟨rfl, rfl⟩
end Go.Proofs.Ytecdigcadmokfaa
/- An argument that is a slice of structs, opened. Of whatever program. -/
namespace Go.Proofs.Ytecdigcadmokfaa
open Go.ChangeShapes Go.WideShapes Go.ChangeAt Go.RowKit Go.Deep
set_option linter.unusedVariables false
set_option maxRecDepth 20000
theorem list2 {α : Type} {l : List α} (h : l.length = 2) : ∃ a b, l = [a, b] := by
  match l, h with
  | [a, b], _ => exact ⟨a, b, rfl⟩
theorem list3 {α : Type} {l : List α} (h : l.length = 3) : ∃ a b c, l = [a, b, c] := by
  match l, h with
  | [a, b, c], _ => exact ⟨a, b, c, rfl⟩
theorem list4 {α : Type} {l : List α} (h : l.length = 4) : ∃ a b c d, l = [a, b, c, d] := by
  match l, h with
  | [a, b, c, d], _ => exact ⟨a, b, c, d, rfl⟩
theorem list5 {α : Type} {l : List α} (h : l.length = 5) : ∃ a b c d e, l = [a, b, c, d, e] := by
  match l, h with
  | [a, b, c, d, e], _ => exact ⟨a, b, c, d, e, rfl⟩
theorem list6 {α : Type} {l : List α} (h : l.length = 6) : ∃ a b c d e f, l = [a, b, c, d, e, f] := by
  match l, h with
  | [a, b, c, d, e, f], _ => exact ⟨a, b, c, d, e, f, rfl⟩
theorem list7 {α : Type} {l : List α} (h : l.length = 7) : ∃ a b c d e f g, l = [a, b, c, d, e, f, g] := by
  match l, h with
  | [a, b, c, d, e, f, g], _ => exact ⟨a, b, c, d, e, f, g, rfl⟩
theorem list8 {α : Type} {l : List α} (h : l.length = 8) : ∃ a b c d e f g h, l = [a, b, c, d, e, f, g, h] := by
  match l, h with
  | [a, b, c, d, e, f, g, h], _ => exact ⟨a, b, c, d, e, f, g, h, rfl⟩
theorem open_rows_arg {H : Type} {enc : TypeId × Value → H} {P : Program} {W : World} {base : Nat} {t e : TypeId} {k : Nat} {v : Value} {d : DataW H} {p : List MemPlace}
    (ht : P.underlying t = some (.slice e)) (hc : P.cellsOf e = k) (hk : 0 < k) (good : List Value → Prop)
    (hgood : ∀ m cs y, DataW.trod enc P W 0 (fun _ => true) true m e cs = some y → good cs)
    (o : Value.okWide P W .any base t v) (h : DataW.Trod enc P W 0 (fun _ => true) true t v d p) :
    ∃ (a : Option Addr) (n cap : Nat) (R : Nat → List Value), v = .slice a n cap ∧ (a = none → n = 0 ∧ cap = 0) ∧ n ≤ cap ∧ cap ≤ maxLen ∧ (∀ i, i < n → good (R i)) ∧
      (0 < n → ∃ b o, a = some ⟨b, o, none⟩ ∧ ∀ i, i < n → ∀ j, j < k → W.cell? ⟨b, o + i * k + j, none⟩ = (R i)[j]?) := by
  obtain ⟨a, len, cap, rfl⟩ := okWide_slice ht o
  obtain ⟨fuel, hf⟩ := h
  rcases open_slice ht hf with ⟨hcs, _⟩ | ⟨x, l, c, m, n, D, Pl, hcs, _, hl, hm, hmm, _, hx⟩
  · simp [Value.cells] at hcs
    obtain ⟨rfl, rfl, rfl⟩ := hcs
    exact ⟨none, 0, 0, fun _ => [], rfl, fun _ => ⟨rfl, rfl⟩, Nat.le_refl _, by unfold maxLen; omega, by simp, by simp⟩
  · simp [Value.cells] at hcs
    obtain ⟨rfl, rfl, rfl⟩ := hcs
    simp at hmm
    subst hmm
    rw [hc] at hx
    have hR : ∀ i, ∃ cs' : List Value, i < m → W.cells? 0 (x.add (i * k)) k = some cs' ∧ good cs' := fun i => by
      by_cases hi : i < m
      · obtain ⟨cs', h1, h2⟩ := hx i hi
        exact ⟨cs', fun _ => ⟨h1, hgood _ _ _ h2⟩⟩
      · exact ⟨[], fun h => absurd h hi⟩
    refine ⟨some x, len, m, fun i => (hR i).choose, rfl, (fun h => by cases h), hl, hm, fun i hi => ((hR i).choose_spec (by omega)).2, fun h0 => ?_⟩
    have h1 := fun i (hi : i < m) => (World.cells?_some ((hR i).choose_spec hi).1)
    obtain ⟨b, off, spot⟩ := x
    have hspot : spot = none := by
      have h2 := (h1 0 (by omega)).2.2 0 hk
      have h3 := (h1 0 (by omega)).2.1
      have h4 : ((hR 0).choose)[0]? = some (((hR 0).choose)[0]'(by omega)) := List.getElem?_eq_getElem _
      rw [h4] at h2
      simpa [Addr.add] using World.cell?_spot h2
    subst hspot
    refine ⟨b, off, rfl, fun i hi j hj => ?_⟩
    have h2 := (h1 i (by omega)).2.2 j hj
    rw [← h2, Go.WideShapes.add_plain, Go.WideShapes.add_plain]
/-- the cells of a struct whose fields lie one behind the other, a cell each -/
theorem struct_cells {H : Type} {enc : TypeId × Value → H} {P : Program} {w : World} {base : Nat} {spare : Nat → Bool} {held : Bool} {fuel : Nat} {t : TypeId} {fs : Array Field} {cs : List Value} {x : DataW H × List MemPlace}
    (hs : P.underlying t = some (.struct fs)) (h : DataW.trod enc P w base spare held fuel t cs = some x) :
    cs.length = P.cellsOf t ∧ ∃ n, ∀ (i : Nat) (f : Field), fs[i]? = some f → ∃ y, DataW.trod enc P w base spare held n f.type ((cs.drop f.offset).take (P.cellsOf f.type)) = some y := by
  obtain ⟨xs, n, _, _, hl, hlen, hx⟩ := DataW.trod_struct hs h
  refine ⟨hl, n, fun i f hi => ?_⟩
  have h1 := hx i f hi
  have hlt : i < xs.length := by
    rw [hlen]
    rcases Nat.lt_or_ge i fs.size with h' | h'
    · exact h'
    · rw [Array.getElem?_eq_none h'] at hi; cases hi
  rw [List.getElem?_eq_getElem hlt] at h1
  exact ⟨_, h1⟩
end Go.Proofs.Ytecdigcadmokfaa
/- a slice in a cell of an argument, opened -/
namespace Go.Proofs.Ytecdigcadmokfaa
open Go.ChangeShapes Go.WideShapes Go.ChangeAt Go.RowKit Go.Deep
set_option linter.unusedVariables false
set_option maxRecDepth 20000
theorem open_rows_cell {H : Type} {enc : TypeId × Value → H} {P : Program} {W : World} {t e : TypeId} {k : Nat} {c : Value} {fuel : Nat} {y : DataW H × List MemPlace}
    (ht : P.underlying t = some (.slice e)) (hc : P.cellsOf e = k) (hk : 0 < k) (good : List Value → Prop)
    (hgood : ∀ m cs y, DataW.trod enc P W 0 (fun _ => true) true m e cs = some y → good cs)
    (hf : DataW.trod enc P W 0 (fun _ => true) true fuel t [c] = some y) :
    ∃ (a : Option Addr) (n cap : Nat) (R : Nat → List Value), c = .slice a n cap ∧ (a = none → n = 0 ∧ cap = 0) ∧ n ≤ cap ∧ cap ≤ maxLen ∧ (∀ i, i < n → good (R i)) ∧
      (0 < n → ∃ b o, a = some ⟨b, o, none⟩ ∧ ∀ i, i < n → ∀ j, j < k → W.cell? ⟨b, o + i * k + j, none⟩ = (R i)[j]?) := by
  rcases open_slice ht hf with ⟨hcs, _⟩ | ⟨x, len, cap, m, n, D, Pl, hcs, _, hl, hm, hmm, _, hx⟩
  · obtain rfl : c = .slice none 0 0 := by simpa using hcs
    exact ⟨none, 0, 0, fun _ => [], rfl, fun _ => ⟨rfl, rfl⟩, Nat.le_refl _, by unfold maxLen; omega, by simp, by simp⟩
  · obtain rfl : c = .slice (some x) len cap := by simpa using hcs
    simp at hmm
    subst hmm
    rw [hc] at hx
    have hR : ∀ i, ∃ cs' : List Value, i < m → W.cells? 0 (x.add (i * k)) k = some cs' ∧ good cs' := fun i => by
      by_cases hi : i < m
      · obtain ⟨cs', h1, h2⟩ := hx i hi
        exact ⟨cs', fun _ => ⟨h1, hgood _ _ _ h2⟩⟩
      · exact ⟨[], fun h => absurd h hi⟩
    refine ⟨some x, len, m, fun i => (hR i).choose, rfl, (fun h => by cases h), hl, hm, fun i hi => ((hR i).choose_spec (by omega)).2, fun h0 => ?_⟩
    have h1 := fun i (hi : i < m) => (World.cells?_some ((hR i).choose_spec hi).1)
    obtain ⟨b, off, spot⟩ := x
    have hspot : spot = none := by
      have h2 := (h1 0 (by omega)).2.2 0 hk
      have h3 := (h1 0 (by omega)).2.1
      have h4 : ((hR 0).choose)[0]? = some (((hR 0).choose)[0]'(by omega)) := List.getElem?_eq_getElem _
      rw [h4] at h2
      simpa [Addr.add] using World.cell?_spot h2
    subst hspot
    refine ⟨b, off, rfl, fun i hi j hj => ?_⟩
    have h2 := (h1 i (by omega)).2.2 j hj
    rw [← h2, Go.WideShapes.add_plain, Go.WideShapes.add_plain]
end Go.Proofs.Ytecdigcadmokfaa
/- net: acts as arguments; of no net -/
namespace Go.Proofs.Ytecdigcadmokfaa
open Go.ChangeShapes Go.WideShapes Go.ChangeAt Go.RowKit
set_option linter.unusedVariables false
set_option maxRecDepth 20000
structure NAct where
  do_ : Int
  i : Int
  j : Int
  x : Int
  ba : Option Addr
  bn : Nat
  bc : Nat
  bs : List Nat
def NActOk (W : World) (x : NAct) : Prop := HoldsB W x.ba x.bn x.bs ∧ (x.ba = none → x.bn = 0 ∧ x.bc = 0) ∧ x.bn ≤ 9223372036854775807
def nactCells (x : NAct) : List Value := [.int .i64 x.do_, .int .i64 x.i, .int .i64 x.j, .int .i64 x.x, .slice x.ba x.bn x.bc]
theorem cells_nact : Try.prog.cellsOf 35 = 5 := by kernel_rfl
theorem cells_nint : Try.prog.cellsOf 3 = 1 := by kernel_rfl
theorem cells_nbytes : Try.prog.cellsOf 33 = 1 := by kernel_rfl
theorem cells_nu8 : Try.prog.cellsOf 5 = 1 := by kernel_rfl
theorem nbytes_of {H : Type} {enc : TypeId × Value → H} {W : World} {c : Value} {fuel : Nat} {y : DataW H × List MemPlace}
    (hf : DataW.trod enc Try.prog W 0 (fun _ => true) true fuel 33 [c] = some y) : ∃ a n cap bs, c = .slice a n cap ∧ HoldsB W a n bs ∧ (a = none → n = 0 ∧ cap = 0) ∧ n ≤ 9223372036854775807 := by
  obtain ⟨a, n, cap, R, rfl, hnil, h1, h2, hg, hc⟩ := open_rows_cell Try.underlying33 cells_nu8 (by omega) (fun cs => ∃ b : Nat, b < 256 ∧ cs = [.int .u8 (b : Int)]) (fun m cs y h => by
    obtain ⟨k, hk, _, hw⟩ := DataW.trod_int Try.underlying5 h
    have hb := u8_of_wf hw
    exact ⟨k.toNat, by omega, by rw [hk, Int.toNat_of_nonneg hb.1]⟩) hf
  have hx : ∀ i, ∃ b : Nat, i < n → b < 256 ∧ R i = [.int .u8 (b : Int)] := fun i => by
    by_cases hi : i < n
    · obtain ⟨b, h3⟩ := hg i hi
      exact ⟨b, fun _ => h3⟩
    · exact ⟨0, fun h => absurd h hi⟩
  refine ⟨a, n, cap, (List.range n).map fun i => (hx i).choose, rfl, ⟨⟨by simp, fun h0 => ?_⟩, fun b hb => ?_⟩, hnil, by unfold maxLen at h2; omega⟩
  · obtain ⟨b, o, ha, hcell⟩ := hc h0
    refine ⟨b, o, ha, fun i hi => ?_⟩
    have e := ((hx i).choose_spec hi).2
    have c0 := hcell i hi 0 (by omega)
    rw [e] at c0
    rw [show o + i * 1 + 0 = o + i by omega] at c0
    rw [c0, getD_map_cast]
    simp [List.getD_eq_getElem?_getD, hi]
  · obtain ⟨i, hi, rfl⟩ := List.mem_map.1 hb
    exact ((hx i).choose_spec (by simpa using hi)).1
theorem nact_of {H : Type} {enc : TypeId × Value → H} {W : World} {fuel : Nat} {cs : List Value} {y : DataW H × List MemPlace}
    (h : DataW.trod enc Try.prog W 0 (fun _ => true) true fuel 35 cs = some y) : ∃ x : NAct, NActOk W x ∧ cs = nactCells x := by
  obtain ⟨hl, n, hf⟩ := struct_cells Try.underlying35 h
  rw [cells_nact] at hl
  obtain ⟨c0, c1, c2, c3, c4, rfl⟩ : ∃ c0 c1 c2 c3 c4, cs = [c0, c1, c2, c3, c4] := by
    match cs, hl with
    | [c0, c1, c2, c3, c4], _ => exact ⟨c0, c1, c2, c3, c4, rfl⟩
  obtain ⟨y0, z0⟩ := hf 0 _ rfl
  obtain ⟨y1, z1⟩ := hf 1 _ rfl
  obtain ⟨y2, z2⟩ := hf 2 _ rfl
  obtain ⟨y3, z3⟩ := hf 3 _ rfl
  obtain ⟨y4, z4⟩ := hf 4 _ rfl
  simp [cells_nint, cells_nbytes] at z0 z1 z2 z3 z4
  obtain ⟨k0, h0, _, _⟩ := DataW.trod_int Try.underlying3 z0
  obtain ⟨k1, h1, _, _⟩ := DataW.trod_int Try.underlying3 z1
  obtain ⟨k2, h2, _, _⟩ := DataW.trod_int Try.underlying3 z2
  obtain ⟨k3, h3, _, _⟩ := DataW.trod_int Try.underlying3 z3
  obtain ⟨a, m, cap, bs, h4, h5, h6, h7⟩ := nbytes_of z4
  simp at h0 h1 h2 h3
  subst h0 h1 h2 h3 h4
  exact ⟨⟨k0, k1, k2, k3, a, m, cap, bs⟩, ⟨h5, h6, h7⟩, rfl⟩
theorem open_nact {H : Type} {enc : TypeId × Value → H} {W : World} {base : Nat} {v : Value} {d : DataW H} {p : List MemPlace}
    (hv : Value.okWide Try.prog W .any base 35 v) (h : DataW.Trod enc Try.prog W 0 (fun _ => true) true 35 v d p) : ∃ x : NAct, NActOk W x ∧ v = .agg #[.int .i64 x.do_, .int .i64 x.i, .int .i64 x.j, .int .i64 x.x, .slice x.ba x.bn x.bc] := by
  obtain ⟨cs, rfl, hsz⟩ := okWide_struct Try.underlying35 hv
  obtain ⟨fuel, hf⟩ := h
  obtain ⟨x, hx, h1⟩ := nact_of hf
  refine ⟨x, hx, ?_⟩
  congr 1
  apply Array.toList_inj.1
  simpa [Value.cells, nactCells] using h1
theorem open_nacts_arg {H : Type} {enc : TypeId × Value → H} {W : World} {base : Nat} {v : Value} {d : DataW H} {p : List MemPlace}
    (o : Value.okWide Try.prog W .any base 22 v) (h : DataW.Trod enc Try.prog W 0 (fun _ => true) true 22 v d p) :
    ∃ (a : Option Addr) (n cap : Nat) (xs : Nat → NAct), v = .slice a n cap ∧ n ≤ maxLen ∧ (∀ i, i < n → NActOk W (xs i)) ∧ (0 < n → ∃ b o, a = some ⟨b, o, none⟩ ∧ ∀ i, i < n → ∀ j, j < 5 → W.cell? ⟨b, o + i * 5 + j, none⟩ = (nactCells (xs i))[j]?) := by
  obtain ⟨a, n, cap, R, rfl, _, h1, h2, hg, hc⟩ := open_rows_arg Try.underlying22 cells_nact (by omega) (fun cs => ∃ x : NAct, NActOk W x ∧ cs = nactCells x) (fun _ _ _ h => nact_of h) o h
  have hx : ∀ i, ∃ x : NAct, i < n → NActOk W x ∧ R i = nactCells x := fun i => by
    by_cases hi : i < n
    · obtain ⟨x, h3⟩ := hg i hi
      exact ⟨x, fun _ => h3⟩
    · exact ⟨⟨0, 0, 0, 0, none, 0, 0, []⟩, fun h => absurd h hi⟩
  refine ⟨a, n, cap, fun i => (hx i).choose, rfl, Nat.le_trans h1 h2, fun i hi => ((hx i).choose_spec hi).1, fun h0 => ?_⟩
  obtain ⟨b, o, ha, hcell⟩ := hc h0
  exact ⟨b, o, ha, fun i hi j hj => (hcell i hi j hj).trans (congrArg (fun l : List Value => l[j]?) ((hx i).choose_spec hi).2)⟩
end Go.Proofs.Ytecdigcadmokfaa
